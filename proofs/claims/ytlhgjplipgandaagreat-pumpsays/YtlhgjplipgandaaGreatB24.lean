/- Joined texts: RPut, RPut4, RMerge. -/
import Derived.Test.YtlhgjplipgandaaGreatB23
set_option maxRecDepth 100000
set_option maxHeartbeats 8000000
set_option linter.unusedSimpArgs false
namespace Go.Proofs.YtlhgjplipgandaaGreat
open Go.RowKit Go.BigFrame
attribute [local go_sem] ze.cell ze.frozen
theorem zr2:∀(a b:List Bf),a.Pairwise ltB→b.Pairwise ltB→(∀y,y∈a↔y∈b)→a=b:=by
 intro a
 induction a with
 |nil =>
  intro b _ _ h
  cases b with
  |nil=>rfl
  |cons y b=>exact absurd ((h y).2 (List.mem_cons_self)) (by simp)
 |cons x a ih =>
  intro b ha hb h
  cases b with
  |nil=>exact absurd ((h x).1 (List.mem_cons_self)) (by simp)
  |cons y b =>
   rw[List.pairwise_cons] at ha hb;have hxy:x=y:=by
    have h1:=(h x).1 List.mem_cons_self;have h2:=(h y).2 List.mem_cons_self;rw[List.mem_cons] at h1 h2
    rcases h1 with h1|h1
    ·exact h1
    ·rcases h2 with h2|h2
     ·exact h2.symm
     ·have u:=hb.1 x h1;have v:=ha.1 y h2;simp only[ltB] at u v
      omega
   subst hxy
   congr 1
   apply ih b ha.2 hb.2;intro z;have hz:=h z;rw[List.mem_cons,List.mem_cons] at hz
   constructor
   ·intro hza
    rcases hz.1 (Or.inr hza) with e|e
    ·subst e;have:=ha.1 z hza;simp only[ltB] at this;omega
    ·exact e
   ·intro hzb
    rcases hz.2 (Or.inr hzb) with e|e
    ·subst e;have:=hb.1 z hzb;simp only[ltB] at this;omega
    ·exact e
theorem znf{p:Prop} [Decidable p]{y z:Bf}:y∈(if p then [z] else [])↔p∧y=z:=by
 by_cases h:p
 ·rw[if_pos h,List.mem_singleton];exact⟨fun e=>⟨h,e⟩,fun e=>e.2⟩
 ·rw[if_neg h];exact⟨fun e=>absurd e (by simp),fun e=>absurd e.1 h⟩
structure zeS(l:List Bf)(x:Bf)(gone:Int)(k:Nat)(O:List Bf)(b:Bool):Prop where
 rise:O.Pairwise ltB
 len:O.length≤2*k
 mem:∀y,y∈O↔(b=true∧y=x)∨∃i,∃hi:i<l.length,i<k∧(i:Int) ≠ gone∧l[i]=y∧y.pl ≠ x.pl
 no:b=false→∀i (hi:i<l.length),i<k→l[i].pl<x.pl
 yes:b=true→∀i (hi:i<l.length),k≤i→x.pl<l[i].pl
theorem zjg(l:List Bf)(x:Bf)(gone:Int):zeS l x gone 0 [] false :=
 ⟨List.Pairwise.nil,by simp,fun y=>by simp,fun _ i _ h=>absurd h (Nat.not_lt_zero _),fun h=>by cases h⟩
def zS(l:List Bf)(x:Bf)(gone:Int)(k:Nat)(hk:k<l.length)(O:List Bf)(b:Bool):List Bf :=
 (O++(if b=false∧x.pl≤l[k].pl then [x] else []))++(if l[k].pl ≠ x.pl∧(k:Int) ≠ gone then [l[k]] else [])
theorem zaz{l:List Bf}{x:Bf}{gone:Int}{k:Nat}{O:List Bf}{b:Bool}(G:zbq l)(hk:k<l.length)(h:zeS l x gone k O b) :
  zeS l x gone (k+1) (zS l x gone k hk O b) (b||decide (x.pl≤l[k].pl)):=by
 have hO:∀y∈O,y.pl<l[k].pl:=by
  intro y hy
  rcases(h.mem y).1 hy with⟨hb,rfl⟩|⟨i,hi,hik,_,rfl,_⟩
  ·exact h.yes hb k hk (Nat.le_refl _)
  ·exact G.lt' i k hik hk
 have hOx:b=false→∀y∈O,y.pl<x.pl:=by
  intro hb y hy
  rcases(h.mem y).1 hy with⟨hb',_⟩|⟨i,hi,hik,_,rfl,_⟩
  ·rw[hb] at hb';cases hb'
  ·exact h.no hb i hi hik
 unfold zS;refine⟨?_,?_,?_,?_,?_⟩
 ·by_cases h1:b=false∧x.pl≤l[k].pl
  ·by_cases h2:l[k].pl ≠ x.pl∧(k:Int) ≠ gone
   ·rw[if_pos h1,if_pos h2,List.append_assoc,List.pairwise_append];refine⟨h.rise,?_,?_⟩
    ·simp only[List.singleton_append,List.pairwise_cons,List.mem_singleton,forall_eq,List.not_mem_nil,false_implies,implies_true,List.Pairwise.nil,and_true];simp only[ltB];omega
    ·intro y hy z hz;simp only[List.singleton_append,List.mem_cons,List.not_mem_nil,or_false] at hz
     rcases hz with rfl|rfl
     ·exact hOx h1.1 y hy
     ·exact hO y hy
   ·rw[if_pos h1,if_neg h2,List.append_nil,List.pairwise_append];refine⟨h.rise,List.pairwise_singleton _ _,?_⟩;intro y hy z hz;rw[List.mem_singleton] at hz;subst hz;exact hOx h1.1 y hy
  ·by_cases h2:l[k].pl ≠ x.pl∧(k:Int) ≠ gone
   ·rw[if_neg h1,if_pos h2,List.append_nil,List.pairwise_append];refine⟨h.rise,List.pairwise_singleton _ _,?_⟩;intro y hy z hz;rw[List.mem_singleton] at hz;subst hz;exact hO y hy
   ·rw[if_neg h1,if_neg h2,List.append_nil,List.append_nil];exact h.rise
 ·have:=h.len;rw[List.length_append,List.length_append]
  split<;>split<;>simp<;>omega
 ·intro y;rw[List.mem_append,List.mem_append,h.mem y,znf,znf]
  constructor
  ·rintro(((⟨hb,rfl⟩|⟨i,hi,hik,hg,rfl,hne⟩)|⟨h1,rfl⟩)|⟨h2,rfl⟩)
   ·exact Or.inl ⟨by rw[hb];rfl,rfl⟩
   ·exact Or.inr ⟨i,hi,by omega,hg,rfl,hne⟩
   ·exact Or.inl ⟨by rw[decide_eq_true h1.2,Bool.or_true],rfl⟩
   ·exact Or.inr ⟨k,hk,by omega,h2.2,rfl,h2.1⟩
  ·rintro(⟨hb,rfl⟩|⟨i,hi,hik,hg,rfl,hne⟩)
   ·cases b
    ·simp only[Bool.false_or,decide_eq_true_eq] at hb;exact Or.inl (Or.inr ⟨⟨rfl,hb⟩,rfl⟩)
    ·exact Or.inl (Or.inl (Or.inl ⟨rfl,rfl⟩))
   ·by_cases e:i=k
    ·subst e;exact Or.inr ⟨⟨hne,hg⟩,rfl⟩
    ·exact Or.inl (Or.inl (Or.inr ⟨i,hi,by omega,hg,rfl,hne⟩))
 ·intro hb i hi hik;rw[Bool.or_eq_false_iff,decide_eq_false_iff_not] at hb
  by_cases e:i=k
  ·subst e;omega
  ·exact h.no hb.1 i hi (by omega)
 ·intro hb i hi hik;rw[Bool.or_eq_true,decide_eq_true_eq] at hb
  rcases hb with hb|hb
  ·exact h.yes hb i hi (by omega)
  ·have:=G.lt' k i (by omega) hi;omega
def zhF(l:List Bf)(x:Bf)(gone:Int)(M:List Bf):Prop:=M.Pairwise ltB∧∀y,y∈M↔y=x∨∃i,∃hi:i<l.length,(i:Int) ≠ gone∧l[i]=y∧y.pl ≠ x.pl
theorem zgM{l:List Bf}{x:Bf}{gone:Int}{O:List Bf}(h:zeS l x gone l.length O true):zhF l x gone O:=by
 refine⟨h.rise,fun y=>?_⟩;rw[h.mem y]
 constructor
 ·rintro(⟨_,e⟩|⟨i,hi,_,r⟩)
  ·exact Or.inl e
  ·exact Or.inr ⟨i,hi,r⟩
 ·rintro(e|⟨i,hi,r⟩)
  ·exact Or.inl ⟨rfl,e⟩
  ·exact Or.inr ⟨i,hi,hi,r⟩
theorem zhO{l:List Bf}{x:Bf}{gone:Int}{O:List Bf}(h:zeS l x gone l.length O false):zhF l x gone (O++[x]):=by
 refine⟨?_,fun y=>?_⟩
 ·rw[List.pairwise_append];refine⟨h.rise,List.pairwise_singleton _ _,?_⟩;intro y hy z hz;rw[List.mem_singleton] at hz;subst hz
  rcases(h.mem y).1 hy with⟨hb,_⟩|⟨i,hi,_,_,rfl,_⟩
  ·cases hb
  ·exact h.no rfl i hi hi
 ·rw[List.mem_append,List.mem_singleton,h.mem y]
  constructor
  ·rintro((⟨hb,_⟩|⟨i,hi,_,r⟩)|e)
   ·cases hb
   ·exact Or.inr ⟨i,hi,r⟩
   ·exact Or.inl e
  ·rintro(e|⟨i,hi,r⟩)
   ·exact Or.inr e
   ·exact Or.inl (Or.inr ⟨i,hi,hi,r⟩)
theorem zhF.eq{l:List Bf}{x:Bf}{M m:List Bf}{H:Int→Bool}{gone:Int}(G:zbq l)(hM:zhF l x gone M)(hm:zeX l x H m)
  (hg:(zap (plB x.pl) l=-1∧l.length=8∧gone=zab (zaw false H) l l.length)∨(¬(zap (plB x.pl) l=-1∧l.length=8)∧gone=-1)):M=m:=by
 obtain⟨K,hF⟩:=hm.facts G;refine zr2 M m hM.1 hF.rise (fun y=>?_);rw[hM.2 y]
 rcases hm with⟨k,hk,hix,rfl⟩|⟨hix,h8,rfl⟩|⟨hix,h8,k,hk,hr,rfl⟩
 ·have hpl:=zgI hk hix;have hgo:gone=-1:=by
   rcases hg with⟨h1,_⟩|⟨_,h1⟩
   ·rw[hix] at h1;omega
   ·exact h1
  constructor
  ·rintro(rfl|⟨i,hi,_,rfl,hne⟩)
   ·exact List.mem_set hk _
   ·have e:i ≠ k:=by rintro rfl;exact hne hpl
    have hi':i<(l.set k x).length:=by rw[List.length_set];exact hi
    have hm:=List.getElem_mem hi';rw[List.getElem_set_ne (fun h=>e h.symm)] at hm;exact hm
  ·intro hy;obtain⟨i,hi,rfl⟩:=List.getElem_of_mem hy;rw[List.length_set] at hi
   by_cases e:i=k
   ·subst e;left;simp
   ·right
    rw[List.getElem_set_ne (fun h=>e h.symm)];refine⟨i,hi,by omega,rfl,?_⟩
    rcases Nat.lt_or_gt_of_ne e with h|h
    ·have:=G.lt' i k h hk;omega
    ·have:=G.lt' k i h hi;omega
 ·have hgo:gone=-1:=by
   rcases hg with⟨_,h1,_⟩|⟨_,h1⟩
   ·omega
   ·exact h1
  rw[zbZ]
  constructor
  ·rintro(rfl|⟨i,hi,_,rfl,_⟩)
   ·exact Or.inl rfl
   ·exact Or.inr (List.getElem_mem hi)
  ·rintro(rfl|hy)
   ·exact Or.inl rfl
   ·have hne:=zgA hix y hy;obtain⟨i,hi,rfl⟩:=List.getElem_of_mem hy;exact Or.inr ⟨i,hi,by omega,rfl,hne⟩
 ·have hgo:gone=k:=by
   rcases hg with⟨_,_,h1⟩|⟨h1,_⟩
   ·rw[h1,hr]
   ·exact absurd ⟨hix,h8⟩ h1
  rw[zbZ,List.mem_eraseIdx_iff_getElem]
  constructor
  ·rintro(rfl|⟨i,hi,hne,rfl,_⟩)
   ·exact Or.inl rfl
   ·exact Or.inr ⟨i,hi,by omega,rfl⟩
  ·rintro(rfl|⟨i,hi,hne,rfl⟩)
   ·exact Or.inl rfl
   ·exact Or.inr ⟨i,hi,by omega,rfl,zgA hix _ (List.getElem_mem hi)⟩
theorem zbc(x:Bf)(w:World):zaW (w.alloc (.cells #[.int .i64 x.pl,.string x.data,.bool x.dirty,.int .i64 x.used] 97)) 4 (some ⟨w.heap.size,0,none⟩) 1 1 (zr [x]) :=
 ⟨rfl,zcv _,Or.inr ⟨_,rfl,fun j u hj=>by
  have hj':[Value.int .i64 x.pl,.string x.data,.bool x.dirty,.int .i64 x.used][j]?=some u:=hj;rw[zdQ];have h:=heap_alloc_new w (.cells #[.int .i64 x.pl,.string x.data,.bool x.dirty,.int .i64 x.used] 97);simp only[World.cell?,h,Nat.zero_add]
  simpa using hj'⟩⟩
theorem zou(l:List Bf)(a:Option Addr)(c:Nat)(x:Bf)(hs:Array Value)(hz:hs.size=32)(B:Nat→Bool)(w:World)(hl:zB w a l)(G:zbq l)(hB:∀i,i<32→hs[i]?=some (.bool (B i)))(h8:l.length=8)(hi:zap (plB x.pl) l=-1)(j:Nat)(hj:j<l.length)(hr:zab (zaw false (zbT B)) l l.length=j) :
  Calls Tryz.prog 69 #[.slice a l.length c,x.val,.agg hs] w fun e w'=>∃M a' c',e=.returned (.tuple #[.slice a' M.length c',.int .i64 0])∧zB w' a' M∧zhF l x j M∧Below w.heap.size w w'∧zct w.heap.size a' c' M.length:=by
 have hb3:=hl.2;have HI:=zk hi;have HR0:=zk hr;have HH:=zk hB;have H8:=zk h8;have h8':(8:Int)≤(l.length:Int):=by omega
 have hsz:Hid ((Tryz.prog.info? 104).map (·.size)=some hs.toList.length):=(by rw[Hid,Array.length_toList,hz];kernel_rfl)
 clear hi hr hB h8 hz;go_enter Tryz.func69,Tryz.ntmps69;go_wp2_with fail;refine(zeC l a c x.pl _ (hl.later (zbm _ _ _)) HI.out).mono ?_;rintro e w1 ⟨rfl,hb1⟩;have HB1:Below w.heap.size w w1:=by(with_reducible repeat first|exact Below.refl _ _|refine zc ?_ _|refine zd ?_|refine bset' ?_ (by omega) _|refine zb ?_ (by assumption))
 have F1:zbh w1 w.heap.size x:=zbh.later (zbh.later ⟨by simp,by simp,by simp,by simp⟩ (zn _ _)) hb1;have HRG:(w1.alloc (.cells #[.int .i64 0,.string ⟨#[]⟩,.bool false,.int .i64 0] 97)).rangeAt (w.heap.size+1) 0 hs.toList:=by
  have r0:=zf9 (w.alloc (.cells #[.int .i64 x.pl,.string x.data,.bool x.dirty,.int .i64 x.used] 97)) hs 104;simp only[World.size_alloc] at r0;intro i v hv;exact cellB_later' (zn w1 _) (cellB_later' hb1 (r0 i v hv))
 have HRGH:=zk HRG;have hl1:=hl.later HB1;clear hb1 HRG;go_wp2_with(refine wpList_load_mid rfl 104 (.tmp 5) rfl (w.heap.size+1) 0 rfl hs.toList _ HRGH.out Tryz.underlying104 rfl hsz.out ?_);refine(ziN l a c false hs B _ (hl1.later (zn _ _)) G HH.out _ HR0.out).mono ?_;rintro e w2 ⟨rfl,hb2⟩;have HBz:Below w.heap.size w w2:=by(with_reducible repeat first|exact Below.refl _ _|refine zc ?_ _|refine zd ?_|refine bset' ?_ (by omega) _|refine zb ?_ (by assumption))
 have bb:=zb (zn w1 _) hb2;have hlz:=hl1.later bb;have Fz:=F1.later bb;have G:=zk G;obtain⟨p0,p1,p2,p3⟩:=id Fz;clear hb2 bb hl1 F1 HB1;go_wp2_with fail;clear p0 p1 p2 p3;generalize hgg:(j:Int)=g;have HGG:=zk hgg;clear hgg;generalize hWz:w2=wz at hlz Fz HBz ⊢;clear hWz;obtain⟨ib,hib,hz0,hz1,hz2⟩:=zaL ze5
 go_loopw[11,12,13] (fun out laid i wr=>∃(k:Nat) (O:List Bf) (b:Bool),k≤l.length∧i=.int .i64 k∧laid=.bool b∧zeS l x g k O b∧wr.ownsRow wz.heap.size 97 4 out O.length (zr O)∧Below wz.heap.size wz wr) (fun _ _ i _=>l.length-(intOf i).toNat)
 case atStart=>exact⟨0,[],false,by omega,rfl,rfl,zjg _ _ _,World.ownsRow_nil _ _ _ _,Below.refl _ _⟩
 case round =>
  rename_i u11
  obtain⟨k,O,b,hk,rfl,rfl,hR,hown0,hbr⟩:=hrel;have HR:=zk hR;have HT0:=zk hbr;have hOl:O.length≤2*l.length:=(by have:=hR.len;omega)
  have HLN:Hid (O.length≤16):=(by have:=G.out.len;show O.length≤16;omega)
  clear hR hbr hOl
  by_cases hlt:k<l.length
  ·have h0:l ≠ []:=by rintro rfl;exact absurd hlt (Nat.not_lt_zero _)
   obtain⟨b0,o0,rfl⟩:=hlz.form.resolve_left h0;obtain⟨c0,c1,c2,c3⟩:=(hlz.later HT0.out).cells hlt;obtain⟨p0,p1,p2,p3⟩:=Fz.later HT0.out;have lc:=zh c0;have lx:=zh p0;clear h0;have hlt0:=hlt
   cases b
   ·by_cases hxk:x.pl≤l[k].pl
    ·by_cases hpl:l[k].pl=x.pl
     ·have HN0:=zk (zaz G.out hlt HR.out);have HRL:Hid (zS l x g k hlt O false=O++[x]):=(by show zS l x g k hlt O false=O++[x];unfold zS;rw[if_pos ⟨rfl,hxk⟩,if_neg (fun h=>h.1 hpl)];simp)
      have hd:decide (x.pl≤l[k].pl)=true:=decide_eq_true hxk;have hq1:(l[k].pl==x.pl)=true:=(by rw[hpl];simp)
      have hq1b:(l[k].pl != x.pl)=false:=(by simp[bne,hq1])
      have hq1c:(!(l[k].pl==x.pl))=false:=(by simp[hq1])
      have hq1d:decide (l[k].pl=x.pl)=true:=(by simpa using hq1)
      have HD:=zk hd;clear HR hpl hxk;go_wp2_with fail;refine zj (by first|exact HB|exact zd HB|exact Below.refl _ _) (by kernel_rfl) (by kernel_rfl) ?_
      repeat(go_big_quiet_step (first|exact rfl|fail))
      refine wpQuiet_nil ?_;intro _ hw';obtain⟨p,hw''⟩:=hw';subst hw'';(try clear hc hf hz);(try clear HB);have HB:=p.below;obtain⟨hc,hf,hz⟩:=zu HB;clear hc hf hz;generalize p.v=wq1 at HB ⊢;have HT1:=zk (zb HT0.out HB);have hown1:=zm hown0 HB;clear HB c0 c1 c2 c3 p0 p1 p2 p3 lc lx HT0 hown0;obtain⟨c0,c1,c2,c3⟩:=(hlz.later HT1.out).cells hlt;obtain⟨p0,p1,p2,p3⟩:=Fz.later HT1.out;have lc:=zh c0;have lx:=zh p0;have HO2:=zk hown1;have hsz2:=HT1.out.size;go_wp2_with(at_builtin;refine zq rfl _ _ 56 rfl wz.heap.size 97 ib _ 4 40 Tryz.underlying56 hib hz0 hz1 hz2 rfl (by decide) _ O.length (zr O) rfl (zm HO2.out (zn _ _)) (some ⟨wq1.heap.size,0,none⟩) 1 1 (zr [x]) rfl (zbc x wq1) (by unfold maxLen;have:=HLN.out;omega) (by have:=HLN.out;omega) (by simp only[World.size_alloc];omega) ?_;intro v2 wq1b hown2 hbx);have HT2:=zk (HT1.out.trans (((zn wq1 _).mono (by omega)).trans hbx));clear hbx c0 c1 c2 c3 p0 p1 p2 p3 lc lx HO2 HT1 hown1 hsz2;obtain⟨c0,c1,c2,c3⟩:=(hlz.later HT2.out).cells hlt;obtain⟨p0,p1,p2,p3⟩:=Fz.later HT2.out;have lc:=zh c0;have lx:=zh p0;go_wp2_with fail;refine zj (by first|exact HB|exact zd HB|exact Below.refl _ _) (by kernel_rfl) (by kernel_rfl) ?_
      repeat(go_big_quiet_step (first|exact rfl|fail))
      refine wpQuiet_nil ?_;intro _ hw';obtain⟨p,hw''⟩:=hw';subst hw'';(try clear hc hf hz);(try clear HB);have HB:=p.below;obtain⟨hc,hf,hz⟩:=zu HB;clear hc hf hz;generalize p.v=wq2 at HB ⊢;have HT3:=zk (zb HT2.out HB);have hown3:=zm hown2 HB;clear HB c0 c1 c2 c3 p0 p1 p2 p3 lc lx HT2 hown2;obtain⟨c0,c1,c2,c3⟩:=(hlz.later HT3.out).cells hlt;obtain⟨p0,p1,p2,p3⟩:=Fz.later HT3.out;have lc:=zh c0;have lx:=zh p0;have HOF:=zk hown3;clear hown3;go_wp2;go_roundw
      case rel=>exact⟨k+1,O++[x],true,by omega,by go_num,rfl,by have h:=HN0.out;rw[HRL.out,HD.out] at h;exact h,by have h:=HOF.out;(try simp only[List.length_append,List.length_singleton,zO]);exact h,HT3.out⟩
      case measure=>simp[intOf];omega
     ·by_cases hkg:(k:Int)=g
      ·have HN0:=zk (zaz G.out hlt HR.out);have HRL:Hid (zS l x g k hlt O false=O++[x]):=(by show zS l x g k hlt O false=O++[x];unfold zS;rw[if_pos ⟨rfl,hxk⟩,if_neg (fun h=>h.2 hkg)];simp)
       have hd:decide (x.pl≤l[k].pl)=true:=decide_eq_true hxk;have hq1:(l[k].pl==x.pl)=false:=(by rw[beq_eq_false_iff_ne];exact hpl)
       have hq1b:(l[k].pl != x.pl)=true:=(by simp[bne,hq1])
       have hq1c:(!(l[k].pl==x.pl))=true:=(by simp[hq1])
       have hq1d:decide (l[k].pl=x.pl)=false:=(by simpa using hq1)
       have hq2:((k:Int)==g)=true:=(by rw[hkg];simp)
       have hq2b:((k:Int) != g)=false:=(by simp[bne,hq2])
       have hq2c:(!((k:Int)==g))=false:=(by simp[hq2])
       have hq2d:decide ((k:Int)=g)=true:=(by simpa using hq2)
       have HD:=zk hd;clear hpl hkg HR hxk;go_wp2_with fail;refine zj (by first|exact HB|exact zd HB|exact Below.refl _ _) (by kernel_rfl) (by kernel_rfl) ?_
       repeat(go_big_quiet_step (first|exact rfl|fail))
       refine wpQuiet_nil ?_;intro _ hw';obtain⟨p,hw''⟩:=hw';subst hw'';(try clear hc hf hz);(try clear HB);have HB:=p.below;obtain⟨hc,hf,hz⟩:=zu HB;clear hc hf hz;generalize p.v=wq1 at HB ⊢;have HT1:=zk (zb HT0.out HB);have hown1:=zm hown0 HB;clear HB c0 c1 c2 c3 p0 p1 p2 p3 lc lx HT0 hown0;obtain⟨c0,c1,c2,c3⟩:=(hlz.later HT1.out).cells hlt;obtain⟨p0,p1,p2,p3⟩:=Fz.later HT1.out;have lc:=zh c0;have lx:=zh p0;have HO2:=zk hown1;have hsz2:=HT1.out.size;go_wp2_with(at_builtin;refine zq rfl _ _ 56 rfl wz.heap.size 97 ib _ 4 40 Tryz.underlying56 hib hz0 hz1 hz2 rfl (by decide) _ O.length (zr O) rfl (zm HO2.out (zn _ _)) (some ⟨wq1.heap.size,0,none⟩) 1 1 (zr [x]) rfl (zbc x wq1) (by unfold maxLen;have:=HLN.out;omega) (by have:=HLN.out;omega) (by simp only[World.size_alloc];omega) ?_;intro v2 wq1b hown2 hbx);have HT2:=zk (HT1.out.trans (((zn wq1 _).mono (by omega)).trans hbx));clear hbx c0 c1 c2 c3 p0 p1 p2 p3 lc lx HO2 HT1 hown1 hsz2;obtain⟨c0,c1,c2,c3⟩:=(hlz.later HT2.out).cells hlt;obtain⟨p0,p1,p2,p3⟩:=Fz.later HT2.out;have lc:=zh c0;have lx:=zh p0;go_wp2_with fail;refine zj (by first|exact HB|exact zd HB|exact Below.refl _ _) (by kernel_rfl) (by kernel_rfl) ?_
       repeat(go_big_quiet_step (first|exact rfl|fail))
       refine wpQuiet_nil ?_;intro _ hw';obtain⟨p,hw''⟩:=hw';subst hw'';(try clear hc hf hz);(try clear HB);have HB:=p.below;obtain⟨hc,hf,hz⟩:=zu HB;clear hc hf hz;generalize p.v=wq2 at HB ⊢;have HT3:=zk (zb HT2.out HB);have hown3:=zm hown2 HB;clear HB c0 c1 c2 c3 p0 p1 p2 p3 lc lx HT2 hown2;obtain⟨c0,c1,c2,c3⟩:=(hlz.later HT3.out).cells hlt;obtain⟨p0,p1,p2,p3⟩:=Fz.later HT3.out;have lc:=zh c0;have lx:=zh p0;have HOF:=zk hown3;clear hown3;go_wp2;go_roundw
       case rel=>exact⟨k+1,O++[x],true,by omega,by go_num,rfl,by have h:=HN0.out;rw[HRL.out,HD.out] at h;exact h,by have h:=HOF.out;(try simp only[List.length_append,List.length_singleton,zO]);exact h,HT3.out⟩
       case measure=>simp[intOf];omega
      ·have HN0:=zk (zaz G.out hlt HR.out);have HRL:Hid (zS l x g k hlt O false=O++[x]++[l[k]]):=(by show zS l x g k hlt O false=O++[x]++[l[k]];unfold zS;rw[if_pos ⟨rfl,hxk⟩,if_pos ⟨hpl,hkg⟩])
       have hd:decide (x.pl≤l[k].pl)=true:=decide_eq_true hxk;have hq1:(l[k].pl==x.pl)=false:=(by rw[beq_eq_false_iff_ne];exact hpl)
       have hq1b:(l[k].pl != x.pl)=true:=(by simp[bne,hq1])
       have hq1c:(!(l[k].pl==x.pl))=true:=(by simp[hq1])
       have hq1d:decide (l[k].pl=x.pl)=false:=(by simpa using hq1)
       have hq2:((k:Int)==g)=false:=(by rw[beq_eq_false_iff_ne];exact hkg)
       have hq2b:((k:Int) != g)=true:=(by simp[bne,hq2])
       have hq2c:(!((k:Int)==g))=true:=(by simp[hq2])
       have hq2d:decide ((k:Int)=g)=false:=(by simpa using hq2)
       have HD:=zk hd;clear hpl hkg HR hxk;go_wp2_with fail;refine zj (by first|exact HB|exact zd HB|exact Below.refl _ _) (by kernel_rfl) (by kernel_rfl) ?_
       repeat(go_big_quiet_step (first|exact rfl|fail))
       refine wpQuiet_nil ?_;intro _ hw';obtain⟨p,hw''⟩:=hw';subst hw'';(try clear hc hf hz);(try clear HB);have HB:=p.below;obtain⟨hc,hf,hz⟩:=zu HB;clear hc hf hz;generalize p.v=wq1 at HB ⊢;have HT1:=zk (zb HT0.out HB);have hown1:=zm hown0 HB;clear HB c0 c1 c2 c3 p0 p1 p2 p3 lc lx HT0 hown0;obtain⟨c0,c1,c2,c3⟩:=(hlz.later HT1.out).cells hlt;obtain⟨p0,p1,p2,p3⟩:=Fz.later HT1.out;have lc:=zh c0;have lx:=zh p0;have HO2:=zk hown1;have hsz2:=HT1.out.size;go_wp2_with(at_builtin;refine zq rfl _ _ 56 rfl wz.heap.size 97 ib _ 4 40 Tryz.underlying56 hib hz0 hz1 hz2 rfl (by decide) _ O.length (zr O) rfl (zm HO2.out (zn _ _)) (some ⟨wq1.heap.size,0,none⟩) 1 1 (zr [x]) rfl (zbc x wq1) (by unfold maxLen;have:=HLN.out;omega) (by have:=HLN.out;omega) (by simp only[World.size_alloc];omega) ?_;intro v2 wq1b hown2 hbx);have HT2:=zk (HT1.out.trans (((zn wq1 _).mono (by omega)).trans hbx));clear hbx c0 c1 c2 c3 p0 p1 p2 p3 lc lx HO2 HT1 hown1 hsz2;obtain⟨c0,c1,c2,c3⟩:=(hlz.later HT2.out).cells hlt;obtain⟨p0,p1,p2,p3⟩:=Fz.later HT2.out;have lc:=zh c0;have lx:=zh p0;go_wp2_with fail;refine zj (by first|exact HB|exact zd HB|exact Below.refl _ _) (by kernel_rfl) (by kernel_rfl) ?_
       repeat(go_big_quiet_step (first|exact rfl|fail))
       refine wpQuiet_nil ?_;intro _ hw';obtain⟨p,hw''⟩:=hw';subst hw'';(try clear hc hf hz);(try clear HB);have HB:=p.below;obtain⟨hc,hf,hz⟩:=zu HB;clear hc hf hz;generalize p.v=wq2 at HB ⊢;have HT3:=zk (zb HT2.out HB);have hown3:=zm hown2 HB;clear HB c0 c1 c2 c3 p0 p1 p2 p3 lc lx HT2 hown2;obtain⟨c0,c1,c2,c3⟩:=(hlz.later HT3.out).cells hlt;obtain⟨p0,p1,p2,p3⟩:=Fz.later HT3.out;have lc:=zh c0;have lx:=zh p0;have HO4:=zk hown3;have hsz4:=HT3.out.size;go_wp2_with(at_builtin;refine zq rfl _ _ 56 rfl wz.heap.size 97 ib _ 4 40 Tryz.underlying56 hib hz0 hz1 hz2 rfl (by decide) _ (O.length+1) (zr O++zr [x]) rfl (zm HO4.out (zn _ _)) (some ⟨wq2.heap.size,0,none⟩) 1 1 (zr [l[k]]) rfl (zbc l[k] wq2) (by unfold maxLen;have:=HLN.out;omega) (by have:=HLN.out;omega) (by simp only[World.size_alloc];omega) ?_;intro v4 wq2b hown4 hbx);have HT4:=zk (HT3.out.trans (((zn wq2 _).mono (by omega)).trans hbx));clear hbx c0 c1 c2 c3 p0 p1 p2 p3 lc lx HO4 HT3 hown3 hsz4;obtain⟨c0,c1,c2,c3⟩:=(hlz.later HT4.out).cells hlt;obtain⟨p0,p1,p2,p3⟩:=Fz.later HT4.out;have lc:=zh c0;have lx:=zh p0;have HOF:=zk hown4;clear hown4;go_wp2;go_roundw
       case rel=>exact⟨k+1,O++[x]++[l[k]],true,by omega,by go_num,rfl,by have h:=HN0.out;rw[HRL.out,HD.out] at h;exact h,by have h:=HOF.out;(try simp only[List.length_append,List.length_singleton,zO]);exact h,HT4.out⟩
       case measure=>simp[intOf];omega
    ·have hpl:¬l[k].pl=x.pl:=(by omega)
     by_cases hkg:(k:Int)=g
     ·have HN0:=zk (zaz G.out hlt HR.out);have HRL:Hid (zS l x g k hlt O false=O):=(by show zS l x g k hlt O false=O;unfold zS;rw[if_neg (fun h=>hxk h.2),if_neg (fun h=>h.2 hkg)];simp)
      have hd:decide (x.pl≤l[k].pl)=false:=decide_eq_false hxk;have hq1:(l[k].pl==x.pl)=false:=(by rw[beq_eq_false_iff_ne];exact hpl)
      have hq1b:(l[k].pl != x.pl)=true:=(by simp[bne,hq1])
      have hq1c:(!(l[k].pl==x.pl))=true:=(by simp[hq1])
      have hq1d:decide (l[k].pl=x.pl)=false:=(by simpa using hq1)
      have hq2:((k:Int)==g)=true:=(by rw[hkg];simp)
      have hq2b:((k:Int) != g)=false:=(by simp[bne,hq2])
      have hq2c:(!((k:Int)==g))=false:=(by simp[hq2])
      have hq2d:decide ((k:Int)=g)=true:=(by simpa using hq2)
      have HD:=zk hd;clear hpl hkg HR hxk;go_wp2_with fail;refine zj (by first|exact HB|exact zd HB|exact Below.refl _ _) (by kernel_rfl) (by kernel_rfl) ?_
      repeat(go_big_quiet_step (first|exact rfl|fail))
      refine wpQuiet_nil ?_;intro _ hw';obtain⟨p,hw''⟩:=hw';subst hw'';(try clear hc hf hz);(try clear HB);have HB:=p.below;obtain⟨hc,hf,hz⟩:=zu HB;clear hc hf hz;generalize p.v=wq1 at HB ⊢;have HT1:=zk (zb HT0.out HB);have hown1:=zm hown0 HB;clear HB c0 c1 c2 c3 p0 p1 p2 p3 lc lx HT0 hown0;obtain⟨c0,c1,c2,c3⟩:=(hlz.later HT1.out).cells hlt;obtain⟨p0,p1,p2,p3⟩:=Fz.later HT1.out;have lc:=zh c0;have lx:=zh p0;go_wp2_with fail;refine zj (by first|exact HB|exact zd HB|exact Below.refl _ _) (by kernel_rfl) (by kernel_rfl) ?_
      repeat(go_big_quiet_step (first|exact rfl|fail))
      refine wpQuiet_nil ?_;intro _ hw';obtain⟨p,hw''⟩:=hw';subst hw'';(try clear hc hf hz);(try clear HB);have HB:=p.below;obtain⟨hc,hf,hz⟩:=zu HB;clear hc hf hz;generalize p.v=wq2 at HB ⊢;have HT2:=zk (zb HT1.out HB);have hown2:=zm hown1 HB;clear HB c0 c1 c2 c3 p0 p1 p2 p3 lc lx HT1 hown1;obtain⟨c0,c1,c2,c3⟩:=(hlz.later HT2.out).cells hlt;obtain⟨p0,p1,p2,p3⟩:=Fz.later HT2.out;have lc:=zh c0;have lx:=zh p0;have HOF:=zk hown2;clear hown2;go_wp2;go_roundw
      case rel=>exact⟨k+1,O,false,by omega,by go_num,rfl,by have h:=HN0.out;rw[HRL.out,HD.out] at h;exact h,by have h:=HOF.out;(try simp only[List.length_append,List.length_singleton,zO]);exact h,HT2.out⟩
      case measure=>simp[intOf];omega
     ·have HN0:=zk (zaz G.out hlt HR.out);have HRL:Hid (zS l x g k hlt O false=O++[l[k]]):=(by show zS l x g k hlt O false=O++[l[k]];unfold zS;rw[if_neg (fun h=>hxk h.2),if_pos ⟨hpl,hkg⟩];simp)
      have hd:decide (x.pl≤l[k].pl)=false:=decide_eq_false hxk;have hq1:(l[k].pl==x.pl)=false:=(by rw[beq_eq_false_iff_ne];exact hpl)
      have hq1b:(l[k].pl != x.pl)=true:=(by simp[bne,hq1])
      have hq1c:(!(l[k].pl==x.pl))=true:=(by simp[hq1])
      have hq1d:decide (l[k].pl=x.pl)=false:=(by simpa using hq1)
      have hq2:((k:Int)==g)=false:=(by rw[beq_eq_false_iff_ne];exact hkg)
      have hq2b:((k:Int) != g)=true:=(by simp[bne,hq2])
      have hq2c:(!((k:Int)==g))=true:=(by simp[hq2])
      have hq2d:decide ((k:Int)=g)=false:=(by simpa using hq2)
      have HD:=zk hd;clear hpl hkg HR hxk;go_wp2_with fail;refine zj (by first|exact HB|exact zd HB|exact Below.refl _ _) (by kernel_rfl) (by kernel_rfl) ?_
      repeat(go_big_quiet_step (first|exact rfl|fail))
      refine wpQuiet_nil ?_;intro _ hw';obtain⟨p,hw''⟩:=hw';subst hw'';(try clear hc hf hz);(try clear HB);have HB:=p.below;obtain⟨hc,hf,hz⟩:=zu HB;clear hc hf hz;generalize p.v=wq1 at HB ⊢;have HT1:=zk (zb HT0.out HB);have hown1:=zm hown0 HB;clear HB c0 c1 c2 c3 p0 p1 p2 p3 lc lx HT0 hown0;obtain⟨c0,c1,c2,c3⟩:=(hlz.later HT1.out).cells hlt;obtain⟨p0,p1,p2,p3⟩:=Fz.later HT1.out;have lc:=zh c0;have lx:=zh p0;go_wp2_with fail;refine zj (by first|exact HB|exact zd HB|exact Below.refl _ _) (by kernel_rfl) (by kernel_rfl) ?_
      repeat(go_big_quiet_step (first|exact rfl|fail))
      refine wpQuiet_nil ?_;intro _ hw';obtain⟨p,hw''⟩:=hw';subst hw'';(try clear hc hf hz);(try clear HB);have HB:=p.below;obtain⟨hc,hf,hz⟩:=zu HB;clear hc hf hz;generalize p.v=wq2 at HB ⊢;have HT2:=zk (zb HT1.out HB);have hown2:=zm hown1 HB;clear HB c0 c1 c2 c3 p0 p1 p2 p3 lc lx HT1 hown1;obtain⟨c0,c1,c2,c3⟩:=(hlz.later HT2.out).cells hlt;obtain⟨p0,p1,p2,p3⟩:=Fz.later HT2.out;have lc:=zh c0;have lx:=zh p0;have HO3:=zk hown2;have hsz3:=HT2.out.size;go_wp2_with(at_builtin;refine zq rfl _ _ 56 rfl wz.heap.size 97 ib _ 4 40 Tryz.underlying56 hib hz0 hz1 hz2 rfl (by decide) _ O.length (zr O) rfl (zm HO3.out (zn _ _)) (some ⟨wq2.heap.size,0,none⟩) 1 1 (zr [l[k]]) rfl (zbc l[k] wq2) (by unfold maxLen;have:=HLN.out;omega) (by have:=HLN.out;omega) (by simp only[World.size_alloc];omega) ?_;intro v3 wq2b hown3 hbx);have HT3:=zk (HT2.out.trans (((zn wq2 _).mono (by omega)).trans hbx));clear hbx c0 c1 c2 c3 p0 p1 p2 p3 lc lx HO3 HT2 hown2 hsz3;obtain⟨c0,c1,c2,c3⟩:=(hlz.later HT3.out).cells hlt;obtain⟨p0,p1,p2,p3⟩:=Fz.later HT3.out;have lc:=zh c0;have lx:=zh p0;have HOF:=zk hown3;clear hown3;go_wp2;go_roundw
      case rel=>exact⟨k+1,O++[l[k]],false,by omega,by go_num,rfl,by have h:=HN0.out;rw[HRL.out,HD.out] at h;exact h,by have h:=HOF.out;(try simp only[List.length_append,List.length_singleton,zO]);exact h,HT3.out⟩
      case measure=>simp[intOf];omega
   ·have hpl:¬l[k].pl=x.pl:=(by have:=HR.out.yes rfl k hlt (Nat.le_refl _);omega)
    by_cases hkg:(k:Int)=g
    ·have HN0:=zk (zaz G.out hlt HR.out);have HRL:Hid (zS l x g k hlt O true=O):=(by show zS l x g k hlt O true=O;unfold zS;rw[if_neg (by simp),if_neg (fun h=>h.2 hkg)];simp)
     have hd:decide (x.pl≤l[k].pl)=true:=decide_eq_true (Int.le_of_lt (HR.out.yes rfl k hlt (Nat.le_refl _)));have hq1:(l[k].pl==x.pl)=false:=(by rw[beq_eq_false_iff_ne];exact hpl)
     have hq1b:(l[k].pl != x.pl)=true:=(by simp[bne,hq1])
     have hq1c:(!(l[k].pl==x.pl))=true:=(by simp[hq1])
     have hq1d:decide (l[k].pl=x.pl)=false:=(by simpa using hq1)
     have hq2:((k:Int)==g)=true:=(by rw[hkg];simp)
     have hq2b:((k:Int) != g)=false:=(by simp[bne,hq2])
     have hq2c:(!((k:Int)==g))=false:=(by simp[hq2])
     have hq2d:decide ((k:Int)=g)=true:=(by simpa using hq2)
     have HD:=zk hd;clear hpl hkg HR hd;go_wp2_with fail;refine zj (by first|exact HB|exact zd HB|exact Below.refl _ _) (by kernel_rfl) (by kernel_rfl) ?_
     repeat(go_big_quiet_step (first|exact rfl|fail))
     refine wpQuiet_nil ?_;intro _ hw';obtain⟨p,hw''⟩:=hw';subst hw'';(try clear hc hf hz);(try clear HB);have HB:=p.below;obtain⟨hc,hf,hz⟩:=zu HB;clear hc hf hz;generalize p.v=wq1 at HB ⊢;have HT1:=zk (zb HT0.out HB);have hown1:=zm hown0 HB;clear HB c0 c1 c2 c3 p0 p1 p2 p3 lc lx HT0 hown0;obtain⟨c0,c1,c2,c3⟩:=(hlz.later HT1.out).cells hlt;obtain⟨p0,p1,p2,p3⟩:=Fz.later HT1.out;have lc:=zh c0;have lx:=zh p0;go_wp2_with fail;refine zj (by first|exact HB|exact zd HB|exact Below.refl _ _) (by kernel_rfl) (by kernel_rfl) ?_
     repeat(go_big_quiet_step (first|exact rfl|fail))
     refine wpQuiet_nil ?_;intro _ hw';obtain⟨p,hw''⟩:=hw';subst hw'';(try clear hc hf hz);(try clear HB);have HB:=p.below;obtain⟨hc,hf,hz⟩:=zu HB;clear hc hf hz;generalize p.v=wq2 at HB ⊢;have HT2:=zk (zb HT1.out HB);have hown2:=zm hown1 HB;clear HB c0 c1 c2 c3 p0 p1 p2 p3 lc lx HT1 hown1;obtain⟨c0,c1,c2,c3⟩:=(hlz.later HT2.out).cells hlt;obtain⟨p0,p1,p2,p3⟩:=Fz.later HT2.out;have lc:=zh c0;have lx:=zh p0;have HOF:=zk hown2;clear hown2;go_wp2;go_roundw
     case rel=>exact⟨k+1,O,true,by omega,by go_num,rfl,by have h:=HN0.out;rw[HRL.out,HD.out] at h;exact h,by have h:=HOF.out;(try simp only[List.length_append,List.length_singleton,zO]);exact h,HT2.out⟩
     case measure=>simp[intOf];omega
    ·have HN0:=zk (zaz G.out hlt HR.out);have HRL:Hid (zS l x g k hlt O true=O++[l[k]]):=(by show zS l x g k hlt O true=O++[l[k]];unfold zS;rw[if_neg (by simp),if_pos ⟨hpl,hkg⟩];simp)
     have hd:decide (x.pl≤l[k].pl)=true:=decide_eq_true (Int.le_of_lt (HR.out.yes rfl k hlt (Nat.le_refl _)));have hq1:(l[k].pl==x.pl)=false:=(by rw[beq_eq_false_iff_ne];exact hpl)
     have hq1b:(l[k].pl != x.pl)=true:=(by simp[bne,hq1])
     have hq1c:(!(l[k].pl==x.pl))=true:=(by simp[hq1])
     have hq1d:decide (l[k].pl=x.pl)=false:=(by simpa using hq1)
     have hq2:((k:Int)==g)=false:=(by rw[beq_eq_false_iff_ne];exact hkg)
     have hq2b:((k:Int) != g)=true:=(by simp[bne,hq2])
     have hq2c:(!((k:Int)==g))=true:=(by simp[hq2])
     have hq2d:decide ((k:Int)=g)=false:=(by simpa using hq2)
     have HD:=zk hd;clear hpl hkg HR hd;go_wp2_with fail;refine zj (by first|exact HB|exact zd HB|exact Below.refl _ _) (by kernel_rfl) (by kernel_rfl) ?_
     repeat(go_big_quiet_step (first|exact rfl|fail))
     refine wpQuiet_nil ?_;intro _ hw';obtain⟨p,hw''⟩:=hw';subst hw'';(try clear hc hf hz);(try clear HB);have HB:=p.below;obtain⟨hc,hf,hz⟩:=zu HB;clear hc hf hz;generalize p.v=wq1 at HB ⊢;have HT1:=zk (zb HT0.out HB);have hown1:=zm hown0 HB;clear HB c0 c1 c2 c3 p0 p1 p2 p3 lc lx HT0 hown0;obtain⟨c0,c1,c2,c3⟩:=(hlz.later HT1.out).cells hlt;obtain⟨p0,p1,p2,p3⟩:=Fz.later HT1.out;have lc:=zh c0;have lx:=zh p0;go_wp2_with fail;refine zj (by first|exact HB|exact zd HB|exact Below.refl _ _) (by kernel_rfl) (by kernel_rfl) ?_
     repeat(go_big_quiet_step (first|exact rfl|fail))
     refine wpQuiet_nil ?_;intro _ hw';obtain⟨p,hw''⟩:=hw';subst hw'';(try clear hc hf hz);(try clear HB);have HB:=p.below;obtain⟨hc,hf,hz⟩:=zu HB;clear hc hf hz;generalize p.v=wq2 at HB ⊢;have HT2:=zk (zb HT1.out HB);have hown2:=zm hown1 HB;clear HB c0 c1 c2 c3 p0 p1 p2 p3 lc lx HT1 hown1;obtain⟨c0,c1,c2,c3⟩:=(hlz.later HT2.out).cells hlt;obtain⟨p0,p1,p2,p3⟩:=Fz.later HT2.out;have lc:=zh c0;have lx:=zh p0;have HO3:=zk hown2;have hsz3:=HT2.out.size;go_wp2_with(at_builtin;refine zq rfl _ _ 56 rfl wz.heap.size 97 ib _ 4 40 Tryz.underlying56 hib hz0 hz1 hz2 rfl (by decide) _ O.length (zr O) rfl (zm HO3.out (zn _ _)) (some ⟨wq2.heap.size,0,none⟩) 1 1 (zr [l[k]]) rfl (zbc l[k] wq2) (by unfold maxLen;have:=HLN.out;omega) (by have:=HLN.out;omega) (by simp only[World.size_alloc];omega) ?_;intro v3 wq2b hown3 hbx);have HT3:=zk (HT2.out.trans (((zn wq2 _).mono (by omega)).trans hbx));clear hbx c0 c1 c2 c3 p0 p1 p2 p3 lc lx HO3 HT2 hown2 hsz3;obtain⟨c0,c1,c2,c3⟩:=(hlz.later HT3.out).cells hlt;obtain⟨p0,p1,p2,p3⟩:=Fz.later HT3.out;have lc:=zh c0;have lx:=zh p0;have HOF:=zk hown3;clear hown3;go_wp2;go_roundw
     case rel=>exact⟨k+1,O++[l[k]],true,by omega,by go_num,rfl,by have h:=HN0.out;rw[HRL.out,HD.out] at h;exact h,by have h:=HOF.out;(try simp only[List.length_append,List.length_singleton,zO]);exact h,HT3.out⟩
     case measure=>simp[intOf];omega
  ·obtain rfl:k=l.length:=by omega
   obtain⟨p0,p1,p2,p3⟩:=Fz.later HT0.out;have lx:=zh p0
   cases b
   ·have HF:=zk (zhO HR.out);have HO0:=zk hown0;have hsz0:=HT0.out.size;have hbz:=HBz.size;clear HR hown0;go_wp2_with(at_builtin;refine zq rfl _ _ 56 rfl wz.heap.size 97 ib _ 4 40 Tryz.underlying56 hib hz0 hz1 hz2 rfl (by decide) _ O.length (zr O) rfl (zm HO0.out (zn _ _)) (some ⟨wr.heap.size,0,none⟩) 1 1 (zr [x]) rfl (zbc x wr) (by unfold maxLen;have:=HLN.out;omega) (by have:=HLN.out;omega) (by simp only[World.size_alloc];omega) ?_;intro v1 w9 hown9 hbx);have HT9:Below wz.heap.size wz w9:=HT0.out.trans (((zn wr _).mono (by omega)).trans hbx);rw[←zO] at hown9;obtain⟨a9,c9,rfl,hN9⟩:=zaP (l:=O++[x]) hown9 (by simp) (by have:=HLN.out;simp;omega);have R9:=zk hN9.here;have N9:=zk (hN9.newAt.mono hbz);have HT9h:=zk (HBz.trans (HT9.mono hbz));clear hown9 hbx HT9 hN9 p0 p1 p2 p3;go_wp2
    go_ret2
    exact⟨O++[x],a9,c9,rfl,R9.out,by rw[HGG.out];exact HF.out,HT9h.out,N9.out⟩
   ·have HF:=zk (zgM HR.out);have hbz:=HBz.size;obtain⟨a9,c9,rfl,hN9⟩:=zaP (l:=O) hown0 rfl (by have:=HLN.out;omega);have R9:=zk hN9.here;have N9:=zk (hN9.newAt.mono hbz);have HT9h:=zk (HBz.trans (HT0.out.mono hbz));clear HR hown0 hN9 p0 p1 p2 p3;go_wp2
    go_ret2
    exact⟨O,a9,c9,rfl,R9.out,by rw[HGG.out];exact HF.out,HT9h.out,N9.out⟩
theorem zpv(l:List Bf)(a:Option Addr)(c:Nat)(x:Bf)(hs:Array Value)(hz:hs.size=32)(B:Nat→Bool)(w:World)(hl:zB w a l)(G:zbq l)(hB:∀i,i<32→hs[i]?=some (.bool (B i)))(h8:l.length=8)(hi:zap (plB x.pl) l=-1)(hr:zab (zaw false (zbT B)) l l.length=-1) :
  Calls Tryz.prog 69 #[.slice a l.length c,x.val,.agg hs] w fun e w'=>e=.returned (.tuple #[.slice none 0 0,.int .i64 7])∧Below w.heap.size w w':=by
 have hb3:=hl.2;have HI:=zk hi;have HR0:=zk hr;have HH:=zk hB;have H8:=zk h8;have h8':(8:Int)≤(l.length:Int):=by omega
 have hsz:Hid ((Tryz.prog.info? 104).map (·.size)=some hs.toList.length):=(by rw[Hid,Array.length_toList,hz];kernel_rfl)
 clear hi hr hB h8 hz;go_enter Tryz.func69,Tryz.ntmps69;go_wp2_with fail;refine(zeC l a c x.pl _ (hl.later (zbm _ _ _)) HI.out).mono ?_;rintro e w1 ⟨rfl,hb1⟩;have HB1:Below w.heap.size w w1:=by(with_reducible repeat first|exact Below.refl _ _|refine zc ?_ _|refine zd ?_|refine bset' ?_ (by omega) _|refine zb ?_ (by assumption))
 have HRG:(w1.alloc (.cells #[.int .i64 0,.string ⟨#[]⟩,.bool false,.int .i64 0] 97)).rangeAt (w.heap.size+1) 0 hs.toList:=by
  have r0:=zf9 (w.alloc (.cells #[.int .i64 x.pl,.string x.data,.bool x.dirty,.int .i64 x.used] 97)) hs 104;simp only[World.size_alloc] at r0;intro i v hv;exact cellB_later' (zn w1 _) (cellB_later' hb1 (r0 i v hv))
 have HRGH:=zk HRG;have hl1:=hl.later HB1;clear hb1 HRG;go_wp2_with(refine wpList_load_mid rfl 104 (.tmp 5) rfl (w.heap.size+1) 0 rfl hs.toList _ HRGH.out Tryz.underlying104 rfl hsz.out ?_);refine(ziN l a c false hs B _ (hl1.later (zn _ _)) G HH.out _ HR0.out).mono ?_;rintro e w2 ⟨rfl,hb2⟩;have HB2:Below w.heap.size w w2:=by(with_reducible repeat first|exact Below.refl _ _|refine zc ?_ _|refine zd ?_|refine bset' ?_ (by omega) _|refine zb ?_ (by assumption))
 clear hb2;go_wp2
 go_ret2
 exact⟨rfl,HB2⟩
theorem zm7{a b:Rq}(h:zaU a b=false):¬a.f+a.m=b.f∨(a.f+a.m=b.f∧¬a.wr=b.wr)∨(a.f+a.m=b.f∧a.wr=b.wr∧4<a.m+b.m)∨(a.f+a.m=b.f∧a.wr=b.wr∧a.m+b.m≤4∧4<a.tags.length+b.tags.length):=by
 by_cases c1:a.f+a.m=b.f
 ·by_cases c2:a.wr=b.wr
  ·by_cases c3:a.m+b.m≤4
   ·by_cases c4:a.tags.length+b.tags.length≤4
    ·rw[zds.2 ⟨c1,c2,c3,c4⟩] at h;cases h
    ·exact Or.inr (Or.inr (Or.inr ⟨c1,c2,c3,by omega⟩))
   ·exact Or.inr (Or.inr (Or.inl ⟨c1,c2,by omega⟩))
  ·exact Or.inr (Or.inl ⟨c1,c2⟩)
 ·exact Or.inl c1
theorem zov(a b:Rq)(w:World)(ga:zA a)(gb:zA b)(h1:(b.f+b.m==a.f)=false)(h2:zaU a b=false) :
  Calls Tryz.prog 125 #[a.val,b.val] w fun e w'=>e=.returned (.tuple #[zch,.bool false])∧Below w.heap.size w w':=by
 obtain⟨x1,x2,x3,x4,x5⟩:=ga.bnd;obtain⟨y1,y2,y3,y4,y5⟩:=gb.bnd;have at4:=ga.t4;have bt4:=gb.t4
 rcases zm7 h2 with c1|⟨c1,c2⟩|⟨c1,c2,c3⟩|⟨c1,c2,c3,c4⟩
 ·have g1:(a.f+a.m != b.f)=true:=by rw[bne_iff_ne];exact c1
  clear c1 h2;go_enter Tryz.func125,Tryz.ntmps125;go_wp2;refine bodyPost_ret (v:=.tuple #[zch,.bool false]) ?_ rfl ⟨rfl,by(with_reducible repeat first|exact Below.refl _ _|refine zc ?_ _|refine zd ?_|refine bset' ?_ (by omega) _|refine zb ?_ (by assumption))⟩;simp[results,Tryz.results125,go_sem]
 ·have g1:(a.f+a.m != b.f)=false:=by rw[bne_eq_false_iff_eq];exact c1
  have g2:(a.wr != b.wr)=true:=by rw[bne_iff_ne];exact c2
  clear c1 h2;go_enter Tryz.func125,Tryz.ntmps125;go_wp2;refine bodyPost_ret (v:=.tuple #[zch,.bool false]) ?_ rfl ⟨rfl,by(with_reducible repeat first|exact Below.refl _ _|refine zc ?_ _|refine zd ?_|refine bset' ?_ (by omega) _|refine zb ?_ (by assumption))⟩;simp[results,Tryz.results125,go_sem]
 ·have g1:(a.f+a.m != b.f)=false:=by rw[bne_eq_false_iff_eq];exact c1
  have g3:decide (4<a.m+b.m)=true:=decide_eq_true c3;clear c1 h2;go_enter Tryz.func125,Tryz.ntmps125;go_wp2;refine bodyPost_ret (v:=.tuple #[zch,.bool false]) ?_ rfl ⟨rfl,by(with_reducible repeat first|exact Below.refl _ _|refine zc ?_ _|refine zd ?_|refine bset' ?_ (by omega) _|refine zb ?_ (by assumption))⟩;simp[results,Tryz.results125,go_sem]
 ·have g1:(a.f+a.m != b.f)=false:=by rw[bne_eq_false_iff_eq];exact c1
  have g3:decide (4<a.m+b.m)=false:=decide_eq_false (by omega);have g4:(4:Int)<(a.tags.length:Int)+(b.tags.length:Int):=by omega
  clear c1 h2;go_enter Tryz.func125,Tryz.ntmps125;go_wp2;refine bodyPost_ret (v:=.tuple #[zch,.bool false]) ?_ rfl ⟨rfl,by(with_reducible repeat first|exact Below.refl _ _|refine zc ?_ _|refine zd ?_|refine bset' ?_ (by omega) _|refine zb ?_ (by assumption))⟩;simp[results,Tryz.results125,go_sem]
theorem zmh(a b:Rq)(w:World)(ga:zA a)(gb:zA b)(h1:(a.f+a.m==b.f)=true)(h2:zaU a b=false) :
  Calls Tryz.prog 125 #[b.val,a.val] w fun e w'=>e=.returned (.tuple #[zch,.bool false])∧Below w.heap.size w w':=by
 obtain⟨x1,x2,x3,x4,x5⟩:=ga.bnd;obtain⟨y1,y2,y3,y4,y5⟩:=gb.bnd;have at4:=ga.t4;have bt4:=gb.t4;have g1:(a.f+a.m != b.f)=false:=by rw[bne_eq_false_iff_eq];exact eq_of_beq h1
 rcases zm7 h2 with c1|⟨c1,c2⟩|⟨c1,c2,c3⟩|⟨c1,c2,c3,c4⟩
 ·exact absurd (eq_of_beq h1) c1
 ·have g2:(a.wr != b.wr)=true:=by rw[bne_iff_ne];exact c2
  clear c1 h2;go_enter Tryz.func125,Tryz.ntmps125;go_wp2;refine bodyPost_ret (v:=.tuple #[zch,.bool false]) ?_ rfl ⟨rfl,by(with_reducible repeat first|exact Below.refl _ _|refine zc ?_ _|refine zd ?_|refine bset' ?_ (by omega) _|refine zb ?_ (by assumption))⟩;simp[results,Tryz.results125,go_sem]
 ·have g3:decide (4<a.m+b.m)=true:=decide_eq_true c3;clear c1 h2;go_enter Tryz.func125,Tryz.ntmps125;go_wp2;refine bodyPost_ret (v:=.tuple #[zch,.bool false]) ?_ rfl ⟨rfl,by(with_reducible repeat first|exact Below.refl _ _|refine zc ?_ _|refine zd ?_|refine bset' ?_ (by omega) _|refine zb ?_ (by assumption))⟩;simp[results,Tryz.results125,go_sem]
 ·have g3:decide (4<a.m+b.m)=false:=decide_eq_false (by omega);have g4:(4:Int)<(a.tags.length:Int)+(b.tags.length:Int):=by omega
  clear c1 h2;go_enter Tryz.func125,Tryz.ntmps125;go_wp2;refine bodyPost_ret (v:=.tuple #[zch,.bool false]) ?_ rfl ⟨rfl,by(with_reducible repeat first|exact Below.refl _ _|refine zc ?_ _|refine zd ?_|refine bset' ?_ (by omega) _|refine zb ?_ (by assumption))⟩;simp[results,Tryz.results125,go_sem]
end Go.Proofs.YtlhgjplipgandaaGreat
