/- Joined texts: Stk13, Stk14, Stk15. -/
import Derived.Test.YtlhgjplipgandaaGreatB32
set_option maxRecDepth 100000
set_option maxHeartbeats 8000000
set_option linter.unusedSimpArgs false
namespace Go.Proofs.YtlhgjplipgandaaGreat
open Go.RowKit Go.BigFrame Go.Maps
theorem zkd(s:Nat)(p:Sk)(A:Sa)(w:World)(h:zv s p A w)(hI:Inv p)(hT:p.tags≤4000000000000000000)(hU:p.uses≤4000000000000000000)(i:Nat)(hi:i<3)(hk:¬(p.client i).kind=0)(q:Sk)(hq:p.nf.serveRead i=q) :
  Calls Tryz.prog 73 #[.pointer (some ⟨s,0,none⟩),.pointer (some ⟨s,2+i*6,none⟩)] w fun e w'=>e=.returned (.tuple #[])∧SOk s p A w w' q:=by
 rcases zaV p.hand (p.client i).pl with⟨hg,_⟩|⟨k,hk',hg,hix,_⟩
 ·exact zkT s p A w h hI hT i hi hk hg q hq
 ·exact zj8 s p A w h hI hU i hi k hk' hg hix hI.hand.once q hq
theorem ziY(s:Nat)(p:Sk)(A:Sa)(w:World)(h:zv s p A w)(hI:Inv p)(hU:p.uses≤4000000000000000000)(i:Nat)(hi:i<3)(q:Sk)(hq:p.nf.serveWrite i=q) :
  Calls Tryz.prog 74 #[.pointer (some ⟨s,0,none⟩),.pointer (some ⟨s,2+i*6,none⟩)] w fun e w'=>e=.returned (.tuple #[])∧SOk s p A w w' q:=by
 cases hd:p.dead
 ·by_cases hc:6≤zN p.hand∧zQ p.hand (p.client i).pl=false
  ·exact zhV s p A w h i hi hd hc.1 hI.hand.len hc.2 q hq
  ·exact zje s p A w h hI.cl3 i hi hd hI.hand.len hI.q6 ⟨hI.us,hU⟩ hc q hq
 ·exact ziA s p A w h hI.cl3 i hi hd q hq
end Go.Proofs.YtlhgjplipgandaaGreat
namespace Go.Proofs.YtlhgjplipgandaaGreat
open Go.RowKit Go.BigFrame Go.Maps
attribute [local go_sem] ze.cell ze.frozen
theorem zqe(s:Nat)(l:List Bf)(a:Option Addr)(c:Nat)(n:Int)(w:World)(c20:w.cell? ⟨s,20,none⟩=some (.slice a l.length c))(hB:zB w a l)(t:Bool)(ht:zQ l n=t) :
  Calls Tryz.prog 106 #[.pointer (some ⟨s,0,none⟩),.int .i64 n] w fun e w'=>e=.returned (.bool t)∧Below w.heap.size w w':=by
 have HM:=za hB;clear hB;subst ht;unfold zQ
 rcases zaV l n with⟨e,hi⟩|⟨k,hk,e,hi,-⟩
 ·rw[e];have HI:=za hi;clear hi e;go_enter Tryz.func106,Tryz.ntmps106;go_wp2_with fail;refine(zie l a c n _ (HM.out.later (by(with_reducible repeat first|exact Below.refl _ _|refine zc ?_ _|refine zd ?_|refine bset' ?_ (by omega) _|refine zb ?_ (by assumption)))) HI.out).mono ?_;rintro e w1 ⟨rfl,hb1⟩;go_wp2;go_ret;exact⟨rfl,by(with_reducible repeat first|exact Below.refl _ _|refine zc ?_ _|refine zd ?_|refine bset' ?_ (by omega) _|refine zb ?_ (by assumption))⟩
 ·rw[e];have HI:=za hi;clear hi e;go_enter Tryz.func106,Tryz.ntmps106;go_wp2_with fail;refine(zfA l a c n _ (HM.out.later (by(with_reducible repeat first|exact Below.refl _ _|refine zc ?_ _|refine zd ?_|refine bset' ?_ (by omega) _|refine zb ?_ (by assumption)))) k hk HI.out).mono ?_;rintro e w1 ⟨rfl,hb1⟩;go_wp2;go_ret;exact⟨rfl,by(with_reducible repeat first|exact Below.refl _ _|refine zc ?_ _|refine zd ?_|refine bset' ?_ (by omega) _|refine zb ?_ (by assumption))⟩
theorem zph(sb s:Nat)(l:List Bf)(a:Option Addr)(c:Nat)(n:Int)(w:World)(h0:w.cell? ⟨sb,0,none⟩=some (.pointer (some ⟨s,0,none⟩)))(c20:w.cell? ⟨s,20,none⟩=some (.slice a l.length c))(hB:zB w a l)(t:Bool)(ht:(!zQ l n)=t) :
  Calls Tryz.prog 109 #[.int .i64 n,.pointer (some ⟨sb,0,none⟩)] w fun e w'=>e=.returned (.bool t)∧Below w.heap.size w w':=by
 subst ht;have HB:=za hB;clear hB;obtain⟨d,hd⟩:∃d,zQ l n=d:=⟨_,rfl⟩
 rw[hd];have HD:=za hd;clear hd;go_enter Tryz.func109,Tryz.ntmps109;go_wp2_with fail;refine(zqe s l a c n w c20 HB.out d HD.out).mono ?_;rintro e w1 ⟨rfl,hb1⟩;go_wp2;go_ret;exact⟨rfl,hb1⟩
end Go.Proofs.YtlhgjplipgandaaGreat
namespace Go.Proofs.YtlhgjplipgandaaGreat
open Go.RowKit Go.BigFrame
attribute [local go_sem] ze.cell ze.frozen
def zfp(p:Int→Bool)(l:List Int):Int:=match l.findIdx? p with|some k=>(k:Int)|none=>-1
theorem zig{p:Int→Bool}{l:List Int}{k:Nat}(h:k<l.length)(hp:p l[k]=true)(hb:∀j (hj:j<k),p (l[j]'(by omega))=false):zfp p l=k:=by
 have:l.findIdx? p=some k:=by
  rw[List.findIdx?_eq_some_iff_getElem];exact⟨h,hp,fun j hj=>by rw[hb j hj];exact Bool.false_ne_true⟩
 rw[zfp,this]
theorem zoR{p:Int→Bool}{l:List Int}(h:∀j (hj:j<l.length),p l[j]=false):zfp p l=-1:=by
 have:l.findIdx? p=none:=by
  rw[List.findIdx?_eq_none_iff];intro x hx;obtain⟨j,hj,rfl⟩:=List.getElem_of_mem hx;exact h j hj
 rw[zfp,this]
theorem zh7(g:Nat)(eg:∀args w,(callFunc g args).run Tryz.prog w=.ok (.enter g args) w)(cp:Value)(p:Int→Bool)(l:List Int)(b c:Nat)(w:World)(hl:∀i (h:i<l.length),w.cell? ⟨b,i,none⟩=some (.int .i64 l[i]))(hb3:l.length≤9223372036854775807)
  (hp:∀(x:Int) w',Below w.heap.size w w'→Calls Tryz.prog g #[.int .i64 x,cp] w' fun e w''=>e=.returned (.bool (p x))∧Below w'.heap.size w' w'') :
  Calls Tryz.prog 135 #[.slice (some ⟨b,0,none⟩) l.length c,.func (.func g) #[] #[cp]] w fun e w'=>e=.returned (.int .i64 (zfp p l))∧Below w.heap.size w w':=by
 have HP:=zeJ hp;have HL:=zeJ hl;clear hp hl;go_enter Tryz.func135,Tryz.ntmps135;go_wp2
 go_loopw[8] (fun i wr=>∃k:Nat,k≤l.length∧i=.int .i64 k∧(∀j (hj:j<l.length),j<k→p l[j]=false)∧Below w.heap.size w wr) (fun i _=>l.length-(intOf i).toNat)
 case atStart=>exact⟨0,by omega,rfl,fun j hj h=>absurd h (Nat.not_lt_zero _),Below.refl _ _⟩
 case round =>
  obtain⟨k,hk,rfl,hno,HB⟩:=hrel;have HN:=zeJ hno;clear hno
  by_cases hlt:k<l.length
  ·have c0:=cellB_later' HB (HL.out k hlt);have hq:=HP.out l[k] wr HB
   cases hpk:p l[k]
   ·rw[hpk] at hq;have HQ:=zeJ hq;clear hq;go_wp2_with fail;refine Calls.mono HQ.out ?_;rintro e w1 ⟨rfl,hb⟩;go_wp2;go_roundw
    case rel=>exact⟨k+1,by omega,by go_num,fun j hj h=>by by_cases e:j=k;(subst e;exact hpk);exact HN.out j hj (by omega),zb HB hb⟩
    case measure=>simp[intOf];omega
   ·rw[hpk] at hq;have HQ:=zeJ hq;clear hq;go_wp2_with fail;refine Calls.mono HQ.out ?_;rintro e w1 ⟨rfl,hb⟩;go_wp2;go_ret;exact⟨zbs (zig hlt hpk (fun j hj=>HN.out j (by omega) hj)).symm,zb HB hb⟩
  ·go_wp2;go_ret;exact⟨zbs (zoR (fun j hj=>HN.out j hj (by omega))).symm,HB⟩
def zbS(P:Int→Bool)(l:List Int):List Int:=l.filter fun x=>!P x
theorem zfN{P:Int→Bool}{l:List Int}{j:Nat}(h:j<l.length):zbS P (l.take (j+1))=zbS P (l.take j)++(if P l[j]=true then [] else [l[j]]):=by
 unfold zbS;rw[List.take_succ_eq_append_getElem h,List.filter_append]
 cases hp:P l[j]
 ·rw[List.filter_cons_of_pos (by rw[hp];rfl)];rfl
 ·rw[List.filter_cons_of_neg (by rw[hp];exact Bool.false_ne_true)];rfl
theorem ziu{P:Int→Bool}{l:List Int}(h:∀j (hj:j<l.length),P l[j]=false):zbS P l=l:=by
 unfold zbS;rw[List.filter_eq_self];intro x hx;obtain⟨j,hj,rfl⟩:=List.getElem_of_mem hx;rw[h j hj];rfl
structure zc2(P:Int→Bool)(l cs:List Int)(i j:Nat):Prop where
 len:cs.length=l.length
 lt:i<j
 le:j≤l.length
 kept:cs.take i=zbS P (l.take j)
 rest:cs.drop j=l.drop j
theorem zc2.ilen{P:Int→Bool}{l cs:List Int}{i j:Nat}(h:zc2 P l cs i j):(zbS P (l.take j)).length=i:=by
 rw[←h.kept,List.length_take,h.len];have:=h.lt;have:=h.le;omega
theorem zc2.first{P:Int→Bool}{l:List Int}{k:Nat}(hk:k<l.length)(h1:P l[k]=true)(h2:∀j (hj:j<k),P (l[j]'(by omega))=false):zc2 P l l k (k+1):=by
 refine⟨rfl,by omega,by omega,?_,rfl⟩;rw[zfN hk,if_pos h1,List.append_nil,ziu];intro j hj;rw[List.length_take] at hj;rw[List.getElem_take];exact h2 j (by omega)
theorem zc2.at{P:Int→Bool}{l cs:List Int}{i j:Nat}(h:zc2 P l cs i j)(hj:j<l.length):cs[j]'(by rw[h.len];exact hj)=l[j]:=by
 have e1:=List.getElem?_drop (xs:=cs) (i:=j) (j:=0);have e2:=List.getElem?_drop (xs:=l) (i:=j) (j:=0);rw[h.rest] at e1;rw[e1,Nat.add_zero,List.getElem?_eq_getElem hj,List.getElem?_eq_getElem (by rw[h.len];exact hj)] at e2;exact Option.some.inj e2
theorem zc2.out{P:Int→Bool}{l cs:List Int}{i j:Nat}(h:zc2 P l cs i j)(hj:j<l.length)(hp:P l[j]=true):zc2 P l cs i (j+1):=by
 refine⟨h.len,by have:=h.lt;omega,hj,?_,?_⟩
 ·rw[zfN hj,if_pos hp,List.append_nil];exact h.kept
 ·rw[←List.drop_drop,←List.drop_drop,h.rest]
theorem zc2.put{P:Int→Bool}{l cs:List Int}{i j:Nat}(h:zc2 P l cs i j)(hj:j<l.length)(hp:P l[j]=false):zc2 P l (cs.set i l[j]) (i+1) (j+1):=by
 have hi:i<cs.length:=by rw[h.len];have:=h.lt;omega
 refine⟨by rw[List.length_set];exact h.len,by have:=h.lt;omega,hj,?_,?_⟩
 ·rw[zfN hj,if_neg (by rw[hp];exact Bool.false_ne_true),←h.kept,List.take_succ_eq_append_getElem (by rw[List.length_set];exact hi),List.getElem_set_self,List.take_set_of_le (Nat.le_refl _)]
 ·rw[List.drop_set_of_lt (by have:=h.lt;omega),←List.drop_drop,←List.drop_drop,h.rest]
theorem zc2.last{P:Int→Bool}{l cs:List Int}{i:Nat}(h:zc2 P l cs i l.length):cs.take i=zbS P l∧(zbS P l).length=i:=by
 have h1:=h.kept;have h2:=h.ilen;rw[List.take_length] at h1 h2;exact⟨h1,h2⟩
theorem zeroII(w:World):(zeroValue 3).run Tryz.prog w=.ok (.int .i64 0) w:=Tryz.zeroValue3 w
theorem zms(g n c m:Nat)(w:World)(h1:m<n)(h2:n≤c):(Instr.slice 52 (.slice (some ⟨g,0,none⟩) n c) (some (.int .i64 (m:Int))) none none).run Tryz.prog w=.ok (.slice (some ⟨g,m,none⟩) (n-m) (c-m)) w:=by
 have k1:(m:Int)≤(n:Int):=by omega
 have k2:¬c=m:=by omega
 have k3:m≤n:=by omega
 simp[go_sem,k2,k3]
theorem zpV(g n c m:Nat)(w:World)(h1:m<n)(h2:n≤c):(Instr.slice 52 (.slice (some ⟨g,0,none⟩) n c) none (some (.int .i64 (m:Int))) none).run Tryz.prog w=.ok (.slice (some ⟨g,0,none⟩) m c) w:=by
 have k2:m≤c:=by omega
 simp[go_sem,k2]
theorem zfM{cs:List Int}{tl:List Value}{j:Nat}(hj:j<cs.length):(za5 cs++tl)[j]?=some (.int .i64 cs[j]):=by
 unfold za5;rw[List.getElem?_append_left (by rw[List.length_map];exact hj),List.getElem?_map,List.getElem?_eq_getElem hj];rfl
theorem zru{cs:List Int}{tl:List Value}{i:Nat}(x:Int)(hi:i<cs.length):(za5 cs++tl).set i (.int .i64 x)=za5 (cs.set i x)++tl:=by
 unfold za5;rw[List.set_append_left _ _ (by rw[List.length_map];exact hi),List.map_set]
theorem zqT(f:Nat)(eg:∀args w,(callFunc f args).run Tryz.prog w=.ok (.enter f args) w)(cp:Value)(P:Int→Bool)(l:List Int)(g c k:Nat)(tl:List Value)(w:World)(hg:w.heap[g]?=some (.cells (za5 l++tl).toArray 3 (0,0)))(htl:tl.length=c-l.length)(hnc:l.length≤c)(hlen:l.length≤9223372036854775807)
  (hp:∀(x:Int) w',zo (fun i=>i=g) w w'→Calls Tryz.prog f #[.int .i64 x,cp] w' fun e w''=>e=.returned (.bool (P x))∧Below w'.heap.size w' w'')
  (hk:k<l.length) (hk1:P l[k]=true) (hk2:∀j (hj:j<k),P (l[j]'(by omega))=false) :
  Calls Tryz.prog 108 #[.slice (some ⟨g,0,none⟩) l.length c,.func (.func f) #[] #[cp]] w fun e w' =>
   e=.returned (.slice (some ⟨g,0,none⟩) (zbS P l).length c)∧(∃cur:List Value,w'.heap[g]?=some (.cells cur.toArray 3 (0,0))∧cur.length=c∧cur.take (zbS P l).length=za5 (zbS P l))∧zo (fun i=>i=g) w w':=by
 have HG:=za hg;have HT:=za htl;have HP:=za hp;have HM0:=za (zc2.first hk hk1 hk2);have HI:=za (zig hk hk1 hk2);clear hg hp htl hk1 hk2;go_enter Tryz.func108,Tryz.ntmps108;go_wp2_with fail;refine(zh7 f eg cp P l g c _ (fun i hi=>(zy HG.out i).trans (zfM hi)) (by omega) (fun x w' hb=>HP.out x w' (zo.of_below hb))).mono ?_;rw[HI.out];rintro e w1 ⟨rfl,hb1⟩;have hne:((k:Int) == -1)=false:=by rw[beq_eq_false_iff_ne];omega
 go_wp2_with fail;have HO1:Hid (zo (fun i=>i=g) w w1):=zo.of_below hb1;have HG1:Hid (w1.heap[g]?=some (.cells (za5 l++tl).toArray 3 (0,0))):=by show _=_;rw[hb1.block g (zz HG.out)];exact HG.out
 clear hb1
 go_loopw[5,6] (fun iv jv wr=>∃(i j:Nat) (cs:List Int),zc2 P l cs i j∧jv=.int .i64 (j:Int)∧iv=.int .i64 i∧wr.heap[g]?=some (.cells (za5 cs++tl).toArray 3 (0,0))∧zo (fun i=>i=g) w wr) (fun _ jv _=>l.length-(intOf jv).toNat)
 case atStart=>exact⟨k,k+1,l,HM0.out,by go_num,rfl,HG1.out,HO1.out⟩
 case round =>
  clear HG1 HO1 HM0;obtain⟨i,j,cs,hm,rfl,rfl,hgr,HO⟩:=hrel;have HGR:=za hgr;have HOR:=za HO;have HM:=za hm;have lg:=zz hgr;have hij:=hm.lt;have hjl:=hm.le;have HLE:=za hm.len;clear hgr HO hm
  by_cases hlt:j<l.length
  ·have hjc:j<cs.length:=by rw[HLE.out];exact hlt
   have hic:i<cs.length:=by omega
   have hx:=HM.out.at hlt;have c0:=(zy HGR.out j).trans (zfM hjc);have e0:=(zy HGR.out i).trans (zfM hic);rw[hx] at c0;have hq:=HP.out l[j] wr HOR.out;have HIC:=za hic;clear hx hjc
   cases hpk:P l[j]
   ·have HN:=za (HM.out.put hlt hpk);rw[hpk] at hq;have HQ:=za hq;clear hq;generalize l[j]=x at *;go_wp2_with fail;refine HQ.out.mono ?_;rintro e w2 ⟨rfl,hb2⟩;have hg2:w2.heap[g]?=some (.cells (za5 cs++tl).toArray 3 (0,0)):=by rw[hb2.block g lg];exact HGR.out
    have e2:=(zy hg2 i).trans (zfM hic);have f2:=zac hg2 i;have HG2:=za hg2;have HB2:=za hb2;have l2:=zz hg2;clear hg2 hb2 c0 e0;go_wp2;go_roundw
    case rel =>
     refine⟨i+1,j+1,_,HN.out,by go_num,by go_num,?_,(HOR.out.later HB2.out).setCell _ (Or.inl rfl) _⟩;rw[zK HG2.out,zru _ HIC.out]
    case measure=>simp[intOf];omega
   ·have HN:=za (HM.out.out hlt hpk);rw[hpk] at hq;have HQ:=za hq;clear hq;generalize l[j]=x at *;go_wp2_with fail;refine HQ.out.mono ?_;rintro e w2 ⟨rfl,hb2⟩;have hg2:w2.heap[g]?=some (.cells (za5 cs++tl).toArray 3 (0,0)):=by rw[hb2.block g lg];exact HGR.out
    have HG2:=za hg2;have HB2:=za hb2;clear hg2 hb2 c0 e0;go_wp2;go_roundw
    case rel=>exact⟨i,j+1,cs,HN.out,by go_num,rfl,HG2.out,HOR.out.later HB2.out⟩
    case measure=>simp[intOf];omega
  ·obtain rfl:j=l.length:=by omega
   have t1:¬(l.length:Int)<(l.length:Int):=by omega
   have hcl:(za5 cs++tl).length=c:=by rw[List.length_append,za5,List.length_map,HLE.out,HT.out];omega
   obtain⟨w2,hcr,G2,hb2⟩:=zdK (P:=Tryz.prog) wr 52 3 0 _ 1 Tryz.underlying52 zeroII rfl (by decide) g i (l.length-i) (c-i) _ 3 HGR.out (by omega) (by rw[hcl];omega) (by omega);have hsl1:=fun w=>zms g l.length c i w hij hnc
   have hsl2:=fun w=>zpV g l.length c i w hij hnc
   have HG2:=za (⟨G2,hb2,hcl⟩:_∧_∧_);clear G2 hb2 hcl;obtain⟨hl1,hl2⟩:=HM.out.last;have HL1:=za hl1;have HL2:=za hl2;clear hl1 hl2;go_wp2;go_ret;obtain⟨G2,hb2,hcl⟩:=HG2.out;refine⟨by rw[HL2.out];rfl,⟨_,G2,?_,?_⟩,HOR.out.grown hb2 (fun i e=>Or.inl (by simpa using e.symm))⟩
   ·rw[length_splice _ _ _ (by rw[hcl];simp[Builtin.zeroCells,Value.cells];omega),hcl]
   ·rw[HL2.out,zdS _ _ _ _ (by rw[hcl];omega) (Nat.le_refl _),List.take_append_of_le_length (by rw[za5,List.length_map,HLE.out];omega),za5,←List.map_take,HL1.out]
    rfl
theorem zpq(p:Int→Bool)(l:List Int):(zfp p l=-1∧∀j (hj:j<l.length),p l[j]=false)∨∃(k:Nat) (h:k<l.length),zfp p l=k∧p l[k]=true∧∀j (hj:j<k),p (l[j]'(by omega))=false:=by
 cases e:l.findIdx? p with
 |none =>
  left
  refine⟨by rw[zfp,e],fun j hj=>?_⟩;rw[List.findIdx?_eq_none_iff] at e;exact e _ (List.getElem_mem hj)
 |some k =>
  right
  have h:=e;rw[List.findIdx?_eq_some_iff_getElem] at h;obtain⟨h1,h2,h3⟩:=h;exact⟨k,h1,by rw[zfp,e],h2,fun j hj=>by have:=h3 j hj;simpa using this⟩
theorem zsu(f:Nat)(eg:∀args w,(callFunc f args).run Tryz.prog w=.ok (.enter f args) w)(cp:Value)(P:Int→Bool)(l:List Int)(g c:Nat)(w:World)(hl:∀i (h:i<l.length),w.cell? ⟨g,i,none⟩=some (.int .i64 l[i]))(hlen:l.length≤9223372036854775807)
  (hp:∀(x:Int) w',Below w.heap.size w w'→Calls Tryz.prog f #[.int .i64 x,cp] w' fun e w''=>e=.returned (.bool (P x))∧Below w'.heap.size w' w'') (hi:zfp P l=-1) :
  Calls Tryz.prog 108 #[.slice (some ⟨g,0,none⟩) l.length c,.func (.func f) #[] #[cp]] w fun e w'=>e=.returned (.slice (some ⟨g,0,none⟩) l.length c)∧Below w.heap.size w w':=by
 have HI:=za hi;have HL:=za hl;have HP:=za hp;clear hi hl hp;go_enter Tryz.func108,Tryz.ntmps108;go_wp2_with fail;refine(zh7 f eg cp P l g c _ HL.out (by omega) HP.out).mono ?_;rw[HI.out];rintro e w1 ⟨rfl,hb1⟩;go_wp2;go_ret;exact⟨rfl,hb1⟩
theorem znX(fv:Value)(a:Option Addr)(c:Nat)(w:World) :
  Calls Tryz.prog 135 #[.slice a 0 c,fv] w fun e w'=>e=.returned (.int .i64 (-1))∧Below w.heap.size w w':=by
 go_enter Tryz.func135,Tryz.ntmps135;go_wp2;go_loop [8] (fun i=>i=.int .i64 0) (fun _=>0);(case atStart=>rfl);(case round=>subst hrel;go_wp2;go_ret;exact⟨rfl,by(with_reducible repeat first|exact Below.refl _ _|refine zc ?_ _|refine zd ?_|refine bset' ?_ (by omega) _|refine zb ?_ (by assumption))⟩)
theorem zqw(fv:Value)(a:Option Addr)(c:Nat)(w:World) :
  Calls Tryz.prog 108 #[.slice a 0 c,fv] w fun e w'=>e=.returned (.slice a 0 c)∧Below w.heap.size w w':=by
 go_enter Tryz.func108,Tryz.ntmps108;go_wp2_with fail;refine(znX fv a c _).mono ?_;rintro e w1 ⟨rfl,hb1⟩;go_wp2;go_ret;exact⟨rfl,hb1⟩
theorem zqD(l:List Int):(za5 l).length=l.length:=by rw[za5,List.length_map]
theorem delI(f:Nat)(eg:∀args w,(callFunc f args).run Tryz.prog w=.ok (.enter f args) w)(cp:Value)(P:Int→Bool)(l:List Int)(a:Option Addr)(c:Nat)(w:World)(h:w.ownsRow 0 3 1 (.slice a l.length c) l.length (za5 l))(hlen:l.length≤9223372036854775807)
  (hp:∀(x:Int) w',zo (zaX a) w w'→Calls Tryz.prog f #[.int .i64 x,cp] w' fun e w''=>e=.returned (.bool (P x))∧Below w'.heap.size w' w'') :
  Calls Tryz.prog 108 #[.slice a l.length c,.func (.func f) #[] #[cp]] w fun e w'=>e=.returned (.slice a (zbS P l).length c)∧w'.ownsRow 0 3 1 (.slice a (zbS P l).length c) (zbS P l).length (za5 (zbS P l))∧zo (zaX a) w w':=by
 cases l with
 |nil =>
  refine(zqw _ a c w).mono ?_;rintro e w' ⟨rfl,hb⟩;exact⟨rfl,zau h (fun g hg=>hb.block g (h.lt g hg).2),zo.of_below hb⟩
 |cons y l0 =>
  generalize hl:y::l0=l at *;have h0:0<l.length:=by rw[←hl];simp
  clear hl
  rcases h.2 with⟨_,h0'⟩|⟨g,cap,cur,hv,hg,hh',hnc,hcm,hcs,ht⟩
  ·omega
  ·simp only[Value.slice.injEq,true_and] at hv;obtain⟨rfl,rfl⟩:=hv;have hcl:cur.toList.length=c:=by rw[Array.length_toList];simpa using hcs
   have ht':cur.toList.take l.length=za5 l:=by simpa using ht
   have ecur:cur.toList=za5 l++cur.toList.drop l.length:=by rw[←ht',List.take_append_drop]
   have hg':w.heap[g]?=some (.cells (za5 l++cur.toList.drop l.length).toArray 3 (0,0)):=by rw[←ecur,Array.toArray_toList];exact hh'
   have hrow:∀i,i=g→zaX (some ⟨g,0,none⟩) i:=fun i e=>⟨_,rfl,e⟩
   rcases zpq P l with⟨hi,hno⟩|⟨k,hk,hi,hk1,hk2⟩
   ·rw[ziu hno];refine(zsu f eg cp P l g c w (fun i hi=>(zy hg' i).trans (zfM hi)) hlen (fun x w' hb=>hp x w' (zo.of_below hb)) hi).mono ?_;rintro e w' ⟨rfl,hb⟩;exact⟨rfl,zau h (fun g hg=>hb.block g (h.lt g hg).2),zo.of_below hb⟩
   ·refine(zqT f eg cp P l g c k (cur.toList.drop l.length) w hg' (by rw[List.length_drop,hcl]) hnc hlen (fun x w' ho=>hp x w' (ho.mono hrow)) hk hk1 hk2).mono ?_;rintro e w' ⟨rfl,⟨cur',g',l',t'⟩,ho⟩;have hkl:(zbS P l).length≤l.length:=List.length_filter_le _ _;refine⟨rfl,⟨by rw[zqD];omega,Or.inr ⟨g,c,cur'.toArray,rfl,Nat.zero_le _,g',by omega,hcm,by simpa using l',by simpa using t'⟩⟩,ho.mono hrow⟩
end Go.Proofs.YtlhgjplipgandaaGreat
namespace Go.Proofs.YtlhgjplipgandaaGreat
open Go.RowKit Go.BigFrame Go.Maps
attribute [local go_sem] ze.cell ze.frozen
theorem zmU(h:List Bf)(l:List Int):zbS (fun x=>!zQ h x) l=l.filter (zQ h):=by
 unfold zbS
 congr 1
 funext x
 simp
def Sk.setLeft(p:Sk)(i:Nat)(L:List Int):Sk:={ p with cl:=p.cl.set i { p.client i with left:=L } }
section
variable{s:Nat}{p:Sk}{A:Sa}{w w':World}
theorem zb6{i:Nat}(hi:i<3){k:Nat}(h:zaX (A.la i) k):A.foot s k:=by
 obtain⟨q,hq,e⟩:=h;exact Or.inr (Or.inr ⟨i,hi,q,hq,e⟩)
theorem z9.setLeft(h:z9 s p A w)(hl:p.cl.length=3){i:Nat}(hi:i<3)(L:List Int)(hO:zo (zaX (A.la i)) w w')(hR:w'.ownsRow 0 3 1 (.slice (A.la i) L.length (A.lc i)) L.length (za5 L)):z9 s (p.setLeft i L) A w' where
 drv:=h.drv.frame hO (fun k e ⟨q,hq,ek⟩=>(h.vl i hi q hq).2.2 (ek▸e)) (fun⟨q,hq,ek⟩=>(h.vl i hi q hq).2.1 ek.symm) (fun r hr=>by
  have:=h.roff r (List.mem_append_right _ hr);exact⟨fun he ad ha e=>this.1 he ad ha (zb6 hi e),fun he ad ha e=>this.2 he ad ha (zb6 hi e)⟩)
 map:=h.map
 im:=h.im
 nb:=h.nb
 hand:=zcq h.hand hO (fun hne q hq e=>h.hoff hne q hq (zb6 hi e))
 hnil:=h.hnil
 hcap:=h.hcap
 queue:=zce h.queue hO (fun hne q hq e=>h.qoff hne q hq (zb6 hi e)) (fun r hr=>by
  have:=h.roff r (List.mem_append_left _ hr);exact⟨fun he ad ha e=>this.1 he ad ha (zb6 hi e),fun he ad ha e=>this.2 he ad ha (zb6 hi e)⟩)
 qnil:=h.qnil
 qcap:=h.qcap
 left:=fun j hj=>by
  unfold Sk.setLeft;rw[zaQ hl hi]
  by_cases hji:j=i
  ·rw[if_pos hji,hji];exact hR
  ·rw[if_neg hji];refine zau (h.left j hj) fun g hg=>?_
   obtain⟨q,hq,rfl⟩:=zF.1 hg;exact hO.block _ (h.lrow hj hq) (fun⟨q',hq',e⟩=>h.ll j i hj hi hji q q' hq hq' e)
 sv:=h.sv
 vl:=h.vl
 ll:=h.ll
 hoffX:=h.hoffX
 qoffX:=h.qoffX
 roffX:=h.roffX
 xlt:=fun k e=>Nat.lt_of_lt_of_le (h.xlt k e) hO.size
theorem zv.setLeft(h:zv s p A w)(hl:p.cl.length=3){i:Nat}(hi:i<3)(L:List Int)(hO:zo (zaX (A.la i)) w w')(hR:w'.ownsRow 0 3 1 (.slice (A.la i) L.length (A.lc i)) L.length (za5 L)):zG s p A (p.setLeft i L) A w (w'.setCell ⟨s,2+i*6+3,none⟩ (.slice (A.la i) L.length (A.lc i))):=by
 have hs:¬zaX (A.la i) s:=fun⟨q,hq,e⟩=>(h.mem.vl i hi q hq).1 e.symm
 have hb:w'.heap[s]?=some (.cells (p.cells A).toArray 60 (0,0)):=by rw[hO.block s h.lt hs];exact h.blk
 have hst:=(h.mem.setLeft hl hi L hO hR).puts (A:=A) (p:=p) (w':=w'.setCell ⟨s,2+i*6+3,none⟩ (.slice (A.la i) L.length (A.lc i))) (zo.of_set _) (by
  rw[zK hb]
  congr 2
  match i,hi with
  |0,hi=>simp[Sk.cells,Sk.head,Sk.tail,zaZ,Sk.setLeft,zaQ hl hi]
  |1,hi=>simp[Sk.cells,Sk.head,Sk.tail,zaZ,Sk.setLeft,zaQ hl hi]
  |2,hi=>simp[Sk.cells,Sk.head,Sk.tail,zaZ,Sk.setLeft,zaQ hl hi]) (fun _ hk=>hk) ⟨rfl,rfl,rfl,rfl⟩
 exact⟨hst.at',(hO.mono (fun k e=>zb6 hi e)).trans hst.only (fun k hk=>Or.inl hk),fun k hk=>Or.inl hk,rfl,rfl,rfl,rfl⟩
end
theorem only_cell'{F:Nat→Prop}{w w':World}{g j:Nat}{v:Value}(h:zo F w w')(hn:¬F g)(hc:w.cell? ⟨g,j,none⟩=some v):w'.cell? ⟨g,j,none⟩=some v:=(h.cell (p:=⟨g,j,none⟩) (zg hc) hn).trans hc
theorem ziV(s:Nat)(p:Sk)(A:Sa)(w:World)(h:zv s p A w)(hl3:p.cl.length=3)(i:Nat)(hi:i<3)(hd:p.dead=true)(q:Sk)(hq:p.nf.serveSync i=q) :
  Calls Tryz.prog 75 #[.pointer (some ⟨s,0,none⟩),.pointer (some ⟨s,2+i*6,none⟩)] w fun e w'=>e=.returned (.tuple #[])∧SOk s p A w w' q:=by
 have e1:p.nf.serveSync i=p.nf.answer i ByteArray.empty 9:=by
  unfold Sk.serveSync;rw[if_pos (show p.nf.dead=true from hd)]
 rw[e1] at hq;have c29:=h.cell 29 _ rfl;rw[hd] at c29;have hl:=h.lt;have HST:=za h;have HQ:=za hq;clear h e1 hq;go_enter Tryz.func75,Tryz.ntmps75;go_wp2_with fail;refine(zcV s p A _ (HST.out.later (by(with_reducible repeat first|exact Below.refl _ _|refine zc ?_ _|refine zd ?_|refine bset' ?_ (by omega) _|refine zb ?_ (by assumption)))) hl3 i hi ByteArray.empty 9).mono ?_;rintro e w7 ⟨rfl,hs7⟩;have HS7:Hid (zG s p A (p.answer i ByteArray.empty 9) (A.drop i) w w7):=(zG.same' HST.out (by(with_reducible repeat first|exact Below.refl _ _|refine zc ?_ _|refine zd ?_|refine bset' ?_ (by omega) _|refine zb ?_ (by assumption)))).trans hs7;clear hs7;go_wp2;refine bodyPost_ret (v:=.tuple #[]) (by simp[results,Tryz.results75,go_sem]) rfl ?_;exact⟨rfl,_,_,HS7.out,by rw[←HQ.out];rfl⟩
theorem zji(s:Nat)(p:Sk)(A:Sa)(w:World)(h:zv s p A w)(hl3:p.cl.length=3)(i:Nat)(hi:i<3)(hd:p.dead=false)(q:Sk)(hq:p.nf.serveSync i=q) :
  Calls Tryz.prog 75 #[.pointer (some ⟨s,0,none⟩),.pointer (some ⟨s,2+i*6,none⟩)] w fun e w'=>e=.returned (.tuple #[])∧SOk s p A w w' q:=by
 have e1:p.nf.serveSync i=if(p.client i).left.filter (zQ p.hand)=[] then({ p.nf with dev:=p.nf.dev.flush }:Sk).answer i ByteArray.empty 0 else { p.nf with cl:=p.cl.set i { p.client i with left:=(p.client i).left.filter (zQ p.hand) } }:=by
  unfold Sk.serveSync;rw[if_neg (by rw[show p.nf.dead=false from hd];exact Bool.false_ne_true)]
  rfl
 rw[e1] at hq;have c29:=h.cell 29 _ rfl;rw[hd] at c29;have hl:=h.lt;obtain⟨-,-,-,d3,-⟩:=h.client i hi;obtain⟨L,hL⟩:∃L,(p.client i).left.filter (zQ p.hand)=L:=⟨_,rfl⟩
 rw[hL] at hq;have HL:=za hL;have HST:=za h;have HQ:=za hq;have HLEN:Hid ((p.client i).left.length≤9223372036854775807):=by
  show(p.client i).left.length≤9223372036854775807
  rcases(h.mem.left i hi).2 with⟨_,h0⟩|⟨g,cap,cur,hv,_,_,hnc,hcm,_⟩
  ·omega
  ·unfold maxLen at hcm;omega
 clear h e1 hq hL;obtain⟨n,hn⟩:∃n,(p.client i).left.length=n:=⟨_,rfl⟩
 have HN:=za hn;rw[hn] at d3;clear hn;go_enter Tryz.func75,Tryz.ntmps75;go_wp2_with fail;have hw0:Below w.heap.size w (w.alloc (.cells #[.pointer (some ⟨s,0,none⟩)] 25)):=by(with_reducible repeat first|exact Below.refl _ _|refine zc ?_ _|refine zd ?_|refine bset' ?_ (by omega) _|refine zb ?_ (by assumption))
 have hbx:(w.alloc (.cells #[.pointer (some ⟨s,0,none⟩)] 25)).cell? ⟨w.heap.size,0,none⟩=some (.pointer (some ⟨s,0,none⟩)):=by simp
 generalize hW:w.alloc (.cells #[.pointer (some ⟨s,0,none⟩)] 25)=w0 at *;clear hW;have HS0:=za (zG.same' HST.out hw0);have HRO:Hid (¬zaX (A.la i) w.heap.size):=fun⟨q',hq',e⟩=>by have:=HST.out.mem.lrow hi hq';omega
 have HRS:Hid (¬zaX (A.la i) s):=fun⟨q',hq',e⟩=>(HST.out.mem.vl i hi q' hq').1 e.symm
 have hdel:=delI 109 (by intro args w;go_simp) (.pointer (some ⟨w.heap.size,0,none⟩)) (fun x=>!zQ p.hand x) (p.client i).left (A.la i) (A.lc i) w0 (HS0.out.at'.mem.left i hi) HLEN.out (fun x w' hO=>zph w.heap.size s p.hand A.ha A.hc x w' (only_cell' hO HRO.out hbx) (only_cell' hO HRS.out (HS0.out.at'.cell 20 _ rfl)) (zcq HS0.out.at'.mem.hand hO (fun hne q' hq' e=>HST.out.mem.hoff hne q' hq' (zb6 hi e))) _ rfl);rw[zmU,HL.out,HN.out] at hdel;refine hdel.mono ?_;clear hdel;rintro e w1 ⟨rfl,hown,hO⟩;have HX:=za (HS0.out.trans (HS0.out.at'.setLeft hl3 hi L hO hown));have g3:=only_cell' hO HRS.out (by have:=(HS0.out.at'.client i hi).2.2.2.1;rw[HN.out] at this;exact this);have gf:w1.frozen? ⟨s,2+i*6+3,none⟩=false:=zac ((hO.block s HS0.out.at'.lt HRS.out).trans HS0.out.at'.blk) _;have gx:=only_cell' hO HRO.out hbx;have g0:=only_cell' hO HRS.out (HS0.out.at'.cell 0 _ rfl);have l1:=zg g3;have lx:=zg gx;have nsx:s ≠ w.heap.size:=by omega
 clear hown hO hw0 hbx HS0 c29 d3
 by_cases hLe:L=[]
 ·subst hLe;rw[if_pos rfl] at HQ;go_wp2_with fail;refine(zpP A.b p.dev A.an _ HX.out.at'.mem.drv.dev).mono ?_;rintro e w2 ⟨rfl,hs2⟩;have HX2:=za (HX.out.trans (zv.step p.ag HX.out.at'.mem.nb HX.out.at' (HX.out.at'.mem.drv.step hs2) HX.out.at'.mem.map HX.out.at'.mem.im (fun r hr=>Rq.Off.step (HX.out.at'.mem.drv.dev.reqs r hr).1 (HX.out.at'.mem.roffX r (List.mem_append_right _ hr)) (zft (HX.out.at'.mem.drv.step hs2)))));clear hs2 g3 gf gx g0 l1 lx;go_wp2_with fail;have hans:=zcV s _ _ _ HX2.out.at' (show((p.setLeft i []).cl).length=3 by unfold Sk.setLeft;rw[List.length_set];exact hl3) i hi ByteArray.empty 0;rw[show zae 0=.nilIface from rfl] at hans;refine hans.mono ?_;clear hans;rintro e w7 ⟨rfl,hs7⟩;have HS7:=za (HX2.out.trans hs7);clear hs7;go_wp2;go_end0;refine⟨rfl,_,_,HS7.out,?_⟩;rw[←HQ.out];show({ p.nf with dev:=p.nf.dev.flush,cl:=((p.cl.set i { p.client i with left:=[] }).set i ⟨0,0,ByteArray.empty,[],ByteArray.empty,0⟩) }:Sk)={ p.nf with dev:=p.nf.dev.flush,cl:=(p.cl.set i ⟨0,0,ByteArray.empty,[],ByteArray.empty,0⟩) };rw[List.set_set]
 ·rw[if_neg hLe] at HQ;have h0:0<L.length:=List.length_pos_iff.2 hLe;have h0':(0:Int)<(L.length:Int):=by omega
  clear hLe;go_wp2;refine bodyPost_ret (v:=.tuple #[]) (by simp[results,Tryz.results75,go_sem]) rfl ?_;exact⟨rfl,_,_,HX.out,by rw[←HQ.out];rfl⟩
theorem zko(s:Nat)(p:Sk)(A:Sa)(w:World)(h:zv s p A w)(hl3:p.cl.length=3)(i:Nat)(hi:i<3)(q:Sk)(hq:p.nf.serveSync i=q) :
  Calls Tryz.prog 75 #[.pointer (some ⟨s,0,none⟩),.pointer (some ⟨s,2+i*6,none⟩)] w fun e w'=>e=.returned (.tuple #[])∧SOk s p A w w' q:=by
 cases hd:p.dead
 ·exact zji s p A w h hl3 i hi hd q hq
 ·exact ziV s p A w h hl3 i hi hd q hq
def Sk.serveTo(p:Sk):Nat→Sk
 |0=>p
 |k+1=>(p.serveTo k).serve1 k
theorem zhh{p:Sk}(h:Inv p):∀k,Inv (p.serveTo k)
 |0=>h
 |k+1=>(zhh h k).serve1 k
theorem zgt(p:Sk):∀k,zbw k p (p.serveTo k)
 |0=>zbw.refl 0 p
 |k+1=>(zgt p k).trans (zc7 _ k)
def SRel(s:Nat)(p:Sk)(A:Sa)(w wr:World)(q:Sk):Prop:=∃p' A',zG s p A p' A' w wr∧p'.nf=q
theorem SOk.trans{s:Nat}{p p':Sk}{A A':Sa}{w w1 w2:World}{q:Sk}(h:zG s p A p' A' w w1)(k:SOk s p' A' w1 w2 q):SOk s p A w w2 q:=by
 obtain⟨p2,A2,h2,e⟩:=k;exact⟨p2,A2,h.trans h2,e⟩
theorem znl(s:Nat)(p:Sk)(A:Sa)(w:World)(h:zv s p A w)(hI:Inv p)(hT:p.tags≤4000000000000000000)(hU:p.uses≤4000000000000000000)(i:Nat)(hi:i<3) :
  ((p.client i).kind=1→Calls Tryz.prog 73 #[.pointer (some ⟨s,0,none⟩),.pointer (some ⟨s,2+i*6,none⟩)] w fun e w'=>e=.returned (.tuple #[])∧SOk s p A w w' (p.nf.serve1 i)) ∧
  ((p.client i).kind=2→Calls Tryz.prog 74 #[.pointer (some ⟨s,0,none⟩),.pointer (some ⟨s,2+i*6,none⟩)] w fun e w'=>e=.returned (.tuple #[])∧SOk s p A w w' (p.nf.serve1 i)) ∧
  ((p.client i).kind=3→Calls Tryz.prog 75 #[.pointer (some ⟨s,0,none⟩),.pointer (some ⟨s,2+i*6,none⟩)] w fun e w'=>e=.returned (.tuple #[])∧SOk s p A w w' (p.nf.serve1 i)) ∧
  ((p.client i).kind=0→p.nf.serve1 i=p.nf):=by
 have ek:(p.nf.client i).kind=(p.client i).kind:=rfl;refine⟨fun hk=>?_,fun hk=>?_,fun hk=>?_,fun hk=>?_⟩
 ·refine zkd s p A w h hI hT hU i hi (by rw[hk];omega) _ ?_;unfold Sk.serve1;rw[ek,hk,if_pos rfl]
 ·refine ziY s p A w h hI hU i hi _ ?_;unfold Sk.serve1;rw[ek,hk,if_neg (by omega),if_pos rfl]
 ·refine zko s p A w h hI.cl3 i hi _ ?_;unfold Sk.serve1;rw[ek,hk,if_neg (by omega),if_neg (by omega),if_pos rfl]
 ·unfold Sk.serve1;rw[ek,hk,if_neg (by omega),if_neg (by omega),if_neg (by omega)]
theorem zcO(s:Nat)(p:Sk)(A:Sa)(w:World)(h:zv s p A w)(hI:Inv p)(hT:p.tags≤3999999999999999990)(hU:p.uses≤3999999999999999990)(q:Sk)(hq:p.nf.serve=q) :
  Calls Tryz.prog 42 #[.pointer (some ⟨s,0,none⟩)] w fun e w'=>e=.returned (.tuple #[])∧SOk s p A w w' q:=by
 have HQ:=za hq;have HST:=za h;have HI:=za hI;have HT:=za (And.intro hT hU);clear h hI hT hU hq;go_enter Tryz.func42,Tryz.ntmps42;go_wp2
 go_loopw[4] (fun i wr=>∃k:Nat,k≤3∧i=.int .i64 k∧SRel s p A w wr (p.nf.serveTo k)) (fun i _=>3-(intOf i).toNat)
 case atStart=>exact⟨0,by omega,rfl,p,A,zG.same' HST.out (Below.refl _ _),rfl⟩
 case round =>
  obtain⟨k,hk,rfl,p',A',hs,hn⟩:=hrel;have HS:=za hs;have HN:=za hn
  by_cases hlt:k<3
  ·have hlt':(k:Int)<3:=by omega
   have HI':Hid (Inv p'):=by
    have:=zhh HI.out.nf k;rw[←hn] at this;exact this.of_nf
   have hM:=zgt p.nf k;rw[←hn] at hM;have HB:Hid (p'.tags≤4000000000000000000∧p'.uses≤4000000000000000000):=by
    have h1:p'.tags≤p.tags+k:=hM.tags;have h2:p'.uses≤p.uses+k:=hM.uses;have:=HT.out;exact⟨by omega,by omega⟩
   have HC:=za (znl s p' A' wr hs.at' HI'.out HB.out.1 HB.out.2 k hlt);have hkd:=(HI'.out.client k).kind;have c0:=(hs.at'.client k hlt).1;have hl:=hs.at'.lt;clear hs hn hM HI' HB;obtain⟨kd,hkd'⟩:∃kd,(p'.client k).kind=kd:=⟨_,rfl⟩
   rw[hkd'] at hkd c0;have HK:=za hkd';clear hkd';have h4:kd=0∨kd=1∨kd=2∨kd=3:=by omega
   clear hkd
   rcases h4 with rfl|rfl|rfl|rfl
   ·go_wp2;go_roundw
    case rel=>exact⟨k+1,by omega,by go_num,p',A',HS.out,by rw[Sk.serveTo,←HN.out];exact(HC.out.2.2.2 HK.out).symm⟩
    case measure=>simp[intOf];omega
   ·go_wp2_with fail;refine(HC.out.1 HK.out).mono ?_;rintro e w1 ⟨rfl,hok⟩;have HO:=za (SOk.trans HS.out hok);clear hok;go_wp2;go_roundw
    case rel=>exact⟨k+1,by omega,by go_num,by rw[Sk.serveTo,←HN.out];exact HO.out⟩
    case measure=>simp[intOf];omega
   ·go_wp2_with fail;refine(HC.out.2.1 HK.out).mono ?_;rintro e w1 ⟨rfl,hok⟩;have HO:=za (SOk.trans HS.out hok);clear hok;go_wp2;go_roundw
    case rel=>exact⟨k+1,by omega,by go_num,by rw[Sk.serveTo,←HN.out];exact HO.out⟩
    case measure=>simp[intOf];omega
   ·go_wp2_with fail;refine(HC.out.2.2.1 HK.out).mono ?_;rintro e w1 ⟨rfl,hok⟩;have HO:=za (SOk.trans HS.out hok);clear hok;go_wp2;go_roundw
    case rel=>exact⟨k+1,by omega,by go_num,by rw[Sk.serveTo,←HN.out];exact HO.out⟩
    case measure=>simp[intOf];omega
  ·obtain rfl:k=3:=by omega
   clear hs hn;go_wp2;go_end0;exact⟨rfl,p',A',HS.out,HN.out.trans HQ.out⟩
def Sk.readers1(p:Sk)(F:Int→Bool)(s:ByteArray)(e:Int)(k:Nat):Sk:=if(p.client k).kind=1∧F (p.client k).pl=true then p.answer k s e else p
def Sk.readersTo(p:Sk)(F:Int→Bool)(s:ByteArray)(e:Int):Nat→Sk
 |0=>p
 |k+1=>(p.readersTo F s e k).readers1 F s e k
theorem zgL(p:Sk)(F:Int→Bool)(s:ByteArray)(e:Int):∀k,(p.readersTo F s e k).cl.length=p.cl.length
 |0=>rfl
 |k+1=>by
  have ih:=zgL p F s e k;unfold Sk.readersTo Sk.readers1
  split
  ·unfold Sk.answer;rw[List.length_set];exact ih
  ·exact ih
theorem zdd{p:Sk}(h:Inv p)(F:Int→Bool)(s:ByteArray)(e:Int):∀k,Inv (p.readersTo F s e k)
 |0=>h
 |k+1=>by
  have ih:=zdd h F s e k;unfold Sk.readersTo Sk.readers1
  split
  ·exact ih.answer k s e
  ·exact ih
theorem zfU(p:Sk)(hl:p.cl.length=3)(F:Int→Bool)(s:ByteArray)(e:Int):p.readersTo F s e 3=p.readers F s e:=by
 obtain⟨dev,f,cl,hand,queue,turn,moment,tags,uses,dead,ag⟩:=p;simp only at hl
 match cl,hl with
 |[a,b,c],_ =>
  simp only[Sk.readersTo,Sk.readers1,Sk.readers,Sk.client,Sk.answer,List.map_cons,List.map_nil]
  by_cases h0:a.kind=1∧F a.pl=true<;>by_cases h1:b.kind=1∧F b.pl=true<;>by_cases h2:c.kind=1∧F c.pl=true<;>simp[h0,h1,h2]
theorem zgi(p:Sk)(F G:Int→Bool)(s:ByteArray)(e:Int)(h:∀c∈p.cl,c.kind=1→F c.pl=G c.pl):p.readers F s e=p.readers G s e:=by
 unfold Sk.readers
 congr 1
 refine List.map_congr_left (fun c hc=>?_)
 by_cases hk:c.kind=1
 ·rw[h c hc hk]
 ·rw[if_neg (fun h'=>hk h'.1),if_neg (fun h'=>hk h'.1)]
theorem zfr(s:Nat)(p:Sk)(A:Sa)(w:World)(h:zv s p A w)(hI:Inv p)(f m:Int)(data:ByteArray)(e:Int)(q:Sk)(hq:p.nf.readers (zam f m) data e=q) :
  Calls Tryz.prog 64 #[.pointer (some ⟨s,0,none⟩),.agg #[.int .i64 f,.int .i64 m],.string data,zae e] w fun x w'=>x=.returned (.tuple #[])∧SOk s p A w w' q:=by
 have HST:=za h;have HI:=za hI;have hl3:=hI.cl3;have HQ:=za hq;have HANS:Hid (∀p' A' w',zv s p' A' w'→p'.cl.length=3→∀i,i<3→Calls Tryz.prog 101 #[.pointer (some ⟨s,2+i*6,none⟩),.string data,zae e] w' fun x w2=>x=.returned (.tuple #[])∧zG s p' A' (p'.answer i data e) (A'.drop i) w' w2):=fun p' A' w' h' hl' i hi=>zcV s p' A' w' h' hl' i hi data e
 clear h hq hI;generalize zae e=ev at *;go_enter Tryz.func64,Tryz.ntmps64;go_wp2;have hw0:Below w.heap.size w (w.alloc (.cells #[.int .i64 f,.int .i64 m] 108)):=by(with_reducible repeat first|exact Below.refl _ _|refine zc ?_ _|refine zd ?_|refine bset' ?_ (by omega) _|refine zb ?_ (by assumption))
 have hx0:(w.alloc (.cells #[.int .i64 f,.int .i64 m] 108)).cell? ⟨w.heap.size,0,none⟩=some (.int .i64 f):=by simp
 have hx1:(w.alloc (.cells #[.int .i64 f,.int .i64 m] 108)).cell? ⟨w.heap.size,1,none⟩=some (.int .i64 m):=by simp
 generalize hW:w.alloc (.cells #[.int .i64 f,.int .i64 m] 108)=w0 at *;clear hW;have HS0:=za (zG.same' HST.out hw0);have HX:=za (And.intro hx0 hx1);clear hw0 hx0 hx1
 go_loopw[10] (fun i wr=>∃k:Nat,k≤3∧i=.int .i64 k∧SRel s p A w0 wr (p.nf.readersTo (zam f m) data e k)) (fun i _=>3-(intOf i).toNat)
 case atStart=>exact⟨0,by omega,rfl,p,A,zG.same' HS0.out.at' (Below.refl _ _),rfl⟩
 case round =>
  obtain⟨k,hk,rfl,p',A',hs,hn⟩:=hrel;have HS:=za hs;have HN:=za hn
  by_cases hlt:k<3
  ·have hlt':(k:Int)<3:=by omega
   have HL':Hid (p'.cl.length=3):=by
    have h1:p'.nf.cl.length=3:=by rw[hn,zgL];exact hl3
    exact h1
   have hkd4:0≤(p'.client k).kind∧(p'.client k).kind≤3:=by
    have h1:=zdd HI.out.nf (zam f m) data e k;rw[←hn] at h1;exact(h1.of_nf.client k).kind
   obtain⟨c0,c1,-⟩:=hs.at'.client k hlt;have hl:=hs.at'.lt;have b0:=hs.box HST.out (Nat.le_refl _) HX.out.1;have b1:=hs.box HST.out (Nat.le_refl _) HX.out.2;have lb:=zg b0;have HE:Hid (p'.nf.readers1 (zam f m) data e k=if(p'.client k).kind=1∧zam f m (p'.client k).pl=true then p'.nf.answer k data e else p'.nf):=za rfl;clear hs hn;obtain⟨kd,hkd⟩:∃kd,(p'.client k).kind=kd:=⟨_,rfl⟩
   obtain⟨pl,hpl⟩:∃pl,(p'.client k).pl=pl:=⟨_,rfl⟩
   rw[hkd] at c0 HE hkd4;rw[hpl] at c1 HE;clear hkd hpl
   by_cases h1:kd=1
   ·subst h1
    cases hB:zam f m pl
    ·rw[hB,if_neg (fun h'=>by cases h'.2)] at HE;have HBB:=za hB;clear hB;go_wp2_with fail
     go_region_held3 (fun w'=>w'.cell? ⟨s,2+k*6,none⟩=some (.int .i64 1)∧w'.cell? ⟨s,2+k*6+1,none⟩=some (.int .i64 pl)∧w'.cell? ⟨w.heap.size,0,none⟩=some (.int .i64 f)∧w'.cell? ⟨w.heap.size,1,none⟩=some (.int .i64 m)) (exact⟨cellB_later' (w:=wr) (by(with_reducible repeat first|exact Below.refl _ _|refine zc ?_ _|refine zd ?_|refine bset' ?_ (by omega) _|refine zb ?_ (by assumption))) c0,cellB_later' (w:=wr) (by(with_reducible repeat first|exact Below.refl _ _|refine zc ?_ _|refine zd ?_|refine bset' ?_ (by omega) _|refine zb ?_ (by assumption))) c1,cellB_later' (w:=wr) (by(with_reducible repeat first|exact Below.refl _ _|refine zc ?_ _|refine zd ?_|refine bset' ?_ (by omega) _|refine zb ?_ (by assumption))) b0,cellB_later' (w:=wr) (by(with_reducible repeat first|exact Below.refl _ _|refine zc ?_ _|refine zd ?_|refine bset' ?_ (by omega) _|refine zb ?_ (by assumption))) b1⟩) (first|(go_at_call 85;refine(zdJ f m pl _ false HBB.out).mono ?_;rintro x w1 ⟨rfl,hb1⟩))
     all_goals
      have HS1:Hid (zG s p A p' A' w0 w1):=HS.out.later (by(with_reducible repeat first|exact Below.refl _ _|refine zc ?_ _|refine zd ?_|refine bset' ?_ (by omega) _|refine zb ?_ (by assumption)));clear hb1;go_wp2;go_roundw
      case rel=>exact⟨k+1,by omega,by go_num,p',A',HS1.out,by rw[Sk.readersTo,←HN.out,HE.out]⟩
      case measure=>simp[intOf];omega
    ·rw[hB,if_pos ⟨rfl,rfl⟩] at HE;have HBB:=za hB;clear hB;go_wp2_with fail
     go_region_held3 (fun w'=>w'.cell? ⟨s,2+k*6,none⟩=some (.int .i64 1)∧w'.cell? ⟨s,2+k*6+1,none⟩=some (.int .i64 pl)∧w'.cell? ⟨w.heap.size,0,none⟩=some (.int .i64 f)∧w'.cell? ⟨w.heap.size,1,none⟩=some (.int .i64 m)) (exact⟨cellB_later' (w:=wr) (by(with_reducible repeat first|exact Below.refl _ _|refine zc ?_ _|refine zd ?_|refine bset' ?_ (by omega) _|refine zb ?_ (by assumption))) c0,cellB_later' (w:=wr) (by(with_reducible repeat first|exact Below.refl _ _|refine zc ?_ _|refine zd ?_|refine bset' ?_ (by omega) _|refine zb ?_ (by assumption))) c1,cellB_later' (w:=wr) (by(with_reducible repeat first|exact Below.refl _ _|refine zc ?_ _|refine zd ?_|refine bset' ?_ (by omega) _|refine zb ?_ (by assumption))) b0,cellB_later' (w:=wr) (by(with_reducible repeat first|exact Below.refl _ _|refine zc ?_ _|refine zd ?_|refine bset' ?_ (by omega) _|refine zb ?_ (by assumption))) b1⟩) (first|(go_at_call 85;refine(zdJ f m pl _ true HBB.out).mono ?_;rintro x w1 ⟨rfl,hb1⟩))
     all_goals
      have HS1:Hid (zG s p A p' A' w0 w1):=HS.out.later (by(with_reducible repeat first|exact Below.refl _ _|refine zc ?_ _|refine zd ?_|refine bset' ?_ (by omega) _|refine zb ?_ (by assumption)));clear hb1;go_wp2_with fail;refine(HANS.out p' A' _ HS1.out.at' HL'.out k hlt).mono ?_;rintro x w2 ⟨rfl,hs2⟩;have HS2:=za (HS1.out.trans hs2);clear hs2;go_wp2;go_roundw
      case rel=>exact⟨k+1,by omega,by go_num,_,_,HS2.out,by rw[Sk.readersTo,←HN.out,HE.out];rfl⟩
      case measure=>simp[intOf];omega
   ·rw[if_neg (fun h'=>h1 h'.1)] at HE;have h4:kd=0∨kd=2∨kd=3:=by omega
    clear h1 hkd4
    rcases h4 with rfl|rfl|rfl
    ·go_wp2_with fail
     go_region
     all_goals
      go_wp2;go_roundw
      case rel=>exact⟨k+1,by omega,by go_num,p',A',HS.out.later (by(with_reducible repeat first|exact Below.refl _ _|refine zc ?_ _|refine zd ?_|refine bset' ?_ (by omega) _|refine zb ?_ (by assumption))),by rw[Sk.readersTo,←HN.out,HE.out]⟩
      case measure=>simp[intOf];omega
    ·go_wp2_with fail
     go_region
     all_goals
      go_wp2;go_roundw
      case rel=>exact⟨k+1,by omega,by go_num,p',A',HS.out.later (by(with_reducible repeat first|exact Below.refl _ _|refine zc ?_ _|refine zd ?_|refine bset' ?_ (by omega) _|refine zb ?_ (by assumption))),by rw[Sk.readersTo,←HN.out,HE.out]⟩
      case measure=>simp[intOf];omega
    ·go_wp2_with fail
     go_region
     all_goals
      go_wp2;go_roundw
      case rel=>exact⟨k+1,by omega,by go_num,p',A',HS.out.later (by(with_reducible repeat first|exact Below.refl _ _|refine zc ?_ _|refine zd ?_|refine bset' ?_ (by omega) _|refine zb ?_ (by assumption))),by rw[Sk.readersTo,←HN.out,HE.out]⟩
      case measure=>simp[intOf];omega
  ·obtain rfl:k=3:=by omega
   clear hs hn;go_wp2;go_end0;refine⟨rfl,p',A',HS0.out.trans HS.out,HN.out.trans ?_⟩;rw[zfU p.nf hl3];exact HQ.out
theorem znd{pl x:Int}(hpl:0≤pl∧pl≤31)(hx:x≤31):(x==pl)=zam pl 1 x:=by
 rw[zeD pl 1 4 x (by simp only[okB,decide_eq_true_eq];omega) (by omega),Bool.eq_iff_iff];simp only[beq_iff_eq,za1,decide_eq_true_eq]
 omega
theorem zml{p:Sk}(hI:Inv p){pl:Int}(hpl:0≤pl∧pl≤31)(s:ByteArray)(e:Int):p.readers (fun x=>x==pl) s e=p.readers (zam pl 1) s e :=
 zgi p _ _ s e (fun c hc hk=>znd hpl ((hI.cok c hc).pl (by rw[hk];omega)).2)
theorem zoz(s:Nat)(p:Sk)(A:Sa)(w:World)(h:zv s p A w)(pl:Int)(data:ByteArray)(k:Nat)(hk:k<p.hand.length)(hix:zap (plB pl) p.hand=k) :
  Calls Tryz.prog 100 #[.pointer (some ⟨s,0,none⟩),.int .i64 pl,.string data] w fun e w'=>e=.returned (.tuple #[])∧SOk s p A w w' p.nf:=by
 have c20:=h.cell 20 _ rfl;have hl:=h.lt;have HST:=za h;have HIX:=za hix;clear h hix;go_enter Tryz.func100,Tryz.ntmps100;go_wp2_with fail;refine(zfA p.hand A.ha A.hc pl _ (HST.out.mem.hand.later (by(with_reducible repeat first|exact Below.refl _ _|refine zc ?_ _|refine zd ?_|refine bset' ?_ (by omega) _|refine zb ?_ (by assumption)))) k hk HIX.out).mono ?_;rintro e w1 ⟨rfl,hb1⟩;go_wp2;refine bodyPost_ret (v:=.tuple #[]) (by simp[results,Tryz.results100,go_sem]) rfl ?_;exact⟨rfl,p,A,zG.same' HST.out (by(with_reducible repeat first|exact Below.refl _ _|refine zc ?_ _|refine zd ?_|refine bset' ?_ (by omega) _|refine zb ?_ (by assumption))),rfl⟩
theorem zv.setHU{s:Nat}{p:Sk}{A:Sa}{w:World}(h:zv s p A w)(l:List Bf)(a':Option Addr)(c':Nat)(u:Int)(hB:zB w a' l)(hcap:l.length≤c')(hnil:a'=none→c'=0)(ho:l ≠ []→∀q,a'=some q→¬A.off s q.block):zG s p A { p with hand:=l,uses:=u } { A with ha:=a',hc:=c' } w ((w.setCell ⟨s,20,none⟩ (.slice a' l.length c')).setCell ⟨s,28,none⟩ (.int .i64 u)) :=
 (h.setHand l a' c' hB hcap hnil ho).trans ((h.setHand l a' c' hB hcap hnil ho).at'.setUses u)
theorem zmJ(s:Nat)(p:Sk)(A:Sa)(w:World)(h:zv s p A w)(hI:Inv p)(hU:p.uses≤4000000000000000000)(pl:Int)(hpl:0≤pl∧pl≤31)(data:ByteArray)(hs4:data.size≤4)(hg:zaH p.hand pl=none)(q:Sk)(hq:p.nf.wasRead pl data=q) :
  Calls Tryz.prog 100 #[.pointer (some ⟨s,0,none⟩),.int .i64 pl,.string data] w fun e w'=>e=.returned (.tuple #[])∧SOk s p A w w' q:=by
 have e1:p.nf.wasRead pl data=match zbo p.hand ⟨pl,data,false,p.uses+1⟩ (za0 (p.queue++p.dev.busy)) with
  |some l=>({ p.nf with hand:=l,uses:=p.uses+1 }:Sk).readers (fun x=>x==pl) data 0
  |none=>p.nf.readers (fun x=>x==pl) data 0:=by
  rw[←zhI];show(match zaH p.hand pl with|some _=>_|none=>_)=_;rw[hg];rfl
 rw[e1] at hq;have HIX:Hid (zap (plB pl) p.hand=-1):=by
  rcases zaV p.hand pl with⟨_,h'⟩|⟨k,hk',h',_⟩
  ·exact h'
  ·rw[hg] at h';cases h'
 have HPL:=za hpl;have HI:=za hI;have HQ:=za hq;have HST:=za h;have h8:=hI.hand.len;have c20:=h.cell 20 _ rfl;have hl:=h.lt;have hwr:IntKind.i64.wrap (p.uses+1)=p.uses+1:=by have:=hI.us;rw[IntKind.wrap_i64];omega
 clear h hI hpl hq e1 hg;go_enter Tryz.func100,Tryz.ntmps100;go_wp2_with fail;refine(zie p.hand A.ha A.hc pl _ (HST.out.mem.hand.later (by(with_reducible repeat first|exact Below.refl _ _|refine zc ?_ _|refine zd ?_|refine bset' ?_ (by omega) _|refine zb ?_ (by assumption)))) HIX.out).mono ?_;rintro e w1 ⟨rfl,hb1⟩;go_wp2_with fail;refine zai (fun wy=>zG s p A p A w wy) (zG.same' HST.out (by(with_reducible repeat first|exact Below.refl _ _|refine zc ?_ _|refine zd ?_|refine bset' ?_ (by omega) _|refine zb ?_ (by assumption)))) ?_;intro wy hsy;have HSy:=za hsy;have y20:=hsy.at'.cell 20 _ rfl;have y28:=hsy.at'.cell 28 _ rfl;have ly:=hsy.at'.lt;clear hsy hb1 c20 hl
 cases hP:zbo p.hand ⟨pl,data,false,p.uses+1⟩ (za0 (p.queue++p.dev.busy)) with
 |none =>
  have HP:=za hP;have HQ2:Hid (p.nf.readers (zam pl 1) data 0=q):=by
   have:=HQ.out;rw[hP] at this;rw[←zml HI.out.nf HPL.out];exact this
  clear hP HQ
  go_region_held3 (fun w'=>w'.cell? ⟨s,20,none⟩=some (.slice A.ha p.hand.length A.hc)∧w'.cell? ⟨s,28,none⟩=some (.int .i64 p.uses)) (exact⟨cellB_later' (w:=wy) (by(with_reducible repeat first|exact Below.refl _ _|refine zc ?_ _|refine zd ?_|refine bset' ?_ (by omega) _|refine zb ?_ (by assumption))) y20,cellB_later' (w:=wy) (by(with_reducible repeat first|exact Below.refl _ _|refine zc ?_ _|refine zd ?_|refine bset' ?_ (by omega) _|refine zb ?_ (by assumption))) y28⟩) (first|(go_at_call 48;refine(zdj s p A _ (HSy.out.at'.later (by(with_reducible repeat first|exact Below.refl _ _|refine zc ?_ _|refine zd ?_|refine bset' ?_ (by omega) _|refine zb ?_ (by assumption)))) (by have:=HI.out.q6;omega)).mono ?_;rintro e w3 ⟨hb,rfl,hH,hb3⟩)|(go_at_call 107;refine(zle hb (p.queue++p.dev.busy) p.hand A.ha A.hc ⟨pl,data,false,p.uses+1⟩ _ (HSy.out.at'.mem.hand.later (by(with_reducible repeat first|exact Below.refl _ _|refine zc ?_ _|refine zd ?_|refine bset' ?_ (by omega) _|refine zb ?_ (by assumption)))) HSy.out.at'.mem.hnil h8 (zcb.later hH (by(with_reducible repeat first|exact Below.refl _ _|refine zc ?_ _|refine zd ?_|refine bset' ?_ (by omega) _|refine zb ?_ (by assumption)))) HP.out).mono ?_;rintro e w4 ⟨rfl,hb4⟩))
  all_goals
   have HS4:Hid (zG s p A p A w w4):=HSy.out.later (by(with_reducible repeat first|exact Below.refl _ _|refine zc ?_ _|refine zd ?_|refine bset' ?_ (by omega) _|refine zb ?_ (by assumption)));clear hb3 hb4 hH;go_wp2_with fail;have hrd:=zfr s p A _ HS4.out.at' HI.out pl 1 data 0 q HQ2.out;rw[show zae 0=.nilIface from rfl] at hrd;refine hrd.mono ?_;clear hrd;rintro e w5 ⟨rfl,hok⟩;have HO:=za (SOk.trans HS4.out hok);clear hok;go_wp2;go_end0;exact⟨rfl,HO.out⟩
 |some l =>
  have HP:=za hP;have P:=zd6 HI.out.hand hP;have HIN:Hid (∀c∈p.cl,c.kind=1→c.pl≤31):=fun c hc hk=>((HI.out.cok c hc).pl (by rw[hk];omega)).2
  have HQ2:Hid (({ p with hand:=l,uses:=p.uses+1 }:Sk).nf.readers (zam pl 1) data 0=q):=by
   have:=HQ.out;rw[hP] at this;rw[←this];exact(zgi ({ p with hand:=l,uses:=p.uses+1 }:Sk).nf (fun x=>x==pl) (zam pl 1) data 0 (fun c hc hk=>znd HPL.out (HIN.out c hc hk))).symm
  have HI2:=za (HI.out.setHand l (p.uses+1) (P.ok ⟨HPL.out.1,HPL.out.2,hs4⟩) (by have h1:=P.dirty;simp only[Bool.false_eq_true,if_false] at h1;have:=HI.out.d6;omega) (by have:=HI.out.us;omega));clear hP HQ P
  go_region_held3 (fun w'=>w'.cell? ⟨s,20,none⟩=some (.slice A.ha p.hand.length A.hc)∧w'.cell? ⟨s,28,none⟩=some (.int .i64 p.uses)) (exact⟨cellB_later' (w:=wy) (by(with_reducible repeat first|exact Below.refl _ _|refine zc ?_ _|refine zd ?_|refine bset' ?_ (by omega) _|refine zb ?_ (by assumption))) y20,cellB_later' (w:=wy) (by(with_reducible repeat first|exact Below.refl _ _|refine zc ?_ _|refine zd ?_|refine bset' ?_ (by omega) _|refine zb ?_ (by assumption))) y28⟩) (first|(go_at_call 48;refine(zdj s p A _ (HSy.out.at'.later (by(with_reducible repeat first|exact Below.refl _ _|refine zc ?_ _|refine zd ?_|refine bset' ?_ (by omega) _|refine zb ?_ (by assumption)))) (by have:=HI.out.q6;omega)).mono ?_;rintro e w3 ⟨hb,rfl,hH,hb3⟩;have z3:wy.heap.size≤w3.heap.size:=(show Below wy.heap.size wy w3 by(with_reducible repeat first|exact Below.refl _ _|refine zc ?_ _|refine zd ?_|refine bset' ?_ (by omega) _|refine zb ?_ (by assumption))).size)|(go_at_call 107;refine(zkv hb (p.queue++p.dev.busy) p.hand A.ha A.hc ⟨pl,data,false,p.uses+1⟩ _ (HSy.out.at'.mem.hand.later (by(with_reducible repeat first|exact Below.refl _ _|refine zc ?_ _|refine zd ?_|refine bset' ?_ (by omega) _|refine zb ?_ (by assumption)))) HSy.out.at'.mem.hnil h8 (zcb.later hH (by(with_reducible repeat first|exact Below.refl _ _|refine zc ?_ _|refine zd ?_|refine bset' ?_ (by omega) _|refine zb ?_ (by assumption)))) l HP.out).mono ?_;rintro e w4 ⟨a',c',rfl,hput,hb4⟩;have HPU:=za hput;clear hput))
  all_goals
   have HS4:Hid (zG s p A p A w w4):=HSy.out.later (by(with_reducible repeat first|exact Below.refl _ _|refine zc ?_ _|refine zd ?_|refine bset' ?_ (by omega) _|refine zb ?_ (by assumption)));have HS5:=za (HS4.out.trans (HS4.out.at'.setHU l a' c' (p.uses+1) HPU.out.1 HPU.out.2.1 HPU.out.2.2.2 (fun _ q' hq' e=>by have:=HPU.out.2.2.1 q' hq';have:=HSy.out.at'.offLt _ e;omega)));have v20:=HS4.out.at'.cell 20 _ rfl;have x20:=HS4.out.at'.fz 20;have v28:=HS4.out.at'.cell 28 _ rfl;have x28:=HS4.out.at'.fz 28;have l4:=HS4.out.at'.lt;clear hb3 hb4 hH y20 y28;go_wp2_with fail;have hrd:=zfr s _ _ _ HS5.out.at' HI2.out pl 1 data 0 q HQ2.out;rw[show zae 0=.nilIface from rfl] at hrd;refine hrd.mono ?_;clear hrd;rintro e w5 ⟨rfl,hok⟩;have HO:=za (SOk.trans HS5.out hok);clear hok;go_wp2;go_end0;exact⟨rfl,HO.out⟩
theorem zmL(s:Nat)(p:Sk)(A:Sa)(w:World)(h:zv s p A w)(hI:Inv p)(hU:p.uses≤4000000000000000000)(pl:Int)(hpl:0≤pl∧pl≤31)(data:ByteArray)(hs4:data.size≤4)(q:Sk)(hq:p.nf.wasRead pl data=q) :
  Calls Tryz.prog 100 #[.pointer (some ⟨s,0,none⟩),.int .i64 pl,.string data] w fun e w'=>e=.returned (.tuple #[])∧SOk s p A w w' q:=by
 rcases zaV p.hand pl with⟨hg,_⟩|⟨k,hk',hg,hix,_⟩
 ·exact zmJ s p A w h hI hU pl hpl data hs4 hg q hq
 ·have e:p.nf.wasRead pl data=p.nf:=by
   show(match zaH p.hand pl with|some _=>_|none=>_)=_;rw[hg]
  rw[e] at hq;subst hq;exact zoz s p A w h pl data k hk' hix
theorem zhe{F:Nat→Prop}{w w':World}{q n xc:Nat}{r:Rq}{xa:Option Addr}{er:Int}(h:za6 w q r xa n xc er)(hO:zo F w w')(hn:¬F q):za6 w' q r xa n xc er:=by
 obtain⟨h0,h1,h2,h3,h4,h5,h6,h7⟩:=h;exact⟨only_cell' hO hn h0,only_cell' hO hn h1,only_cell' hO hn h2,only_cell' hO hn h3,only_cell' hO hn h4,only_cell' hO hn h5,only_cell' hO hn h6,only_cell' hO hn h7⟩
theorem zoP(p:Sk)(r:Rq)(xs:List ByteArray)(n:Nat):p.wentTo r.nf xs n=p.wentTo r xs n:=rfl
structure Went(s:Nat)(p:Sk)(A:Sa)(w0 wr:World)(q:Sk)(p':Sk)(A':Sa):Prop where
 step:zG s p A p' A' w0 wr
 nf:p'.nf=q
theorem wrapK(k f:Int)(h0:0≤f∧f≤31)(h1:0≤k∧k≤32):wrap64 (k-f)=k-f:=by unfold wrap64;omega
theorem zmI(s:Nat)(p:Sk)(A:Sa)(w:World)(h:zv s p A w)(hI:Inv p)(r:Rq)(gr:zA r)(hw:r.wr=true)(hd:zU w r.da r.data)(hdo:r.data ≠ []→∀ad,r.da=some ad→¬A.foot s ad.block)(xa:Option Addr)(xn xc:Nat)(xs:List ByteArray)(hx4:∀j,(xs.getD j ByteArray.empty).size≤4)(q:Sk)(hq:p.nf.wentWell r xs=q) :
  Calls Tryz.prog 63 #[.pointer (some ⟨s,0,none⟩),zaI r xa xn xc 0] w fun e w'=>e=.returned (.tuple #[])∧SOk s p A w w' q:=by
 have HST:=za h;have HI:=za hI;have HG:=za gr;have HD:=za hd;have HDO:=za hdo;have HQ:=za hq;have HHAS:=za (zgN r gr);have HB0:=za gr.bndD;have HLEN:=za (gr.shapeW hw);have HWR:=za hw;have hl:=h.lt;clear h hI gr hd hdo hq;have ev:zaI r xa xn xc 0=.agg #[.bool true,.int .i64 r.f,.int .i64 r.m,.slice r.da r.data.length r.dc,.slice r.ta r.tags.length r.tc,.int .i64 r.born,.slice xa xn xc,.int .i64 0]:=by
  unfold zaI;rw[hw]
 rw[ev];clear ev;go_enter Tryz.func63,Tryz.ntmps63;go_wp2;have hw0:Below w.heap.size w (w.alloc (.cells #[.bool true,.int .i64 r.f,.int .i64 r.m,.slice r.da r.data.length r.dc,.slice r.ta r.tags.length r.tc,.int .i64 r.born,.slice r.da r.data.length r.dc,.int .i64 0] 120)):=by(with_reducible repeat first|exact Below.refl _ _|refine zc ?_ _|refine zd ?_|refine bset' ?_ (by omega) _|refine zb ?_ (by assumption))
 have hx0:za6 (w.alloc (.cells #[.bool true,.int .i64 r.f,.int .i64 r.m,.slice r.da r.data.length r.dc,.slice r.ta r.tags.length r.tc,.int .i64 r.born,.slice r.da r.data.length r.dc,.int .i64 0] 120)) w.heap.size r r.da r.data.length r.dc 0:=by
  have hr:=zfB w 120 r r.da r.data.length r.dc 0;rw[hw] at hr;exact hr
 generalize hW:(w.alloc (.cells #[.bool true,.int .i64 r.f,.int .i64 r.m,.slice r.da r.data.length r.dc,.slice r.ta r.tags.length r.tc,.int .i64 r.born,.slice r.da r.data.length r.dc,.int .i64 0] 120))=w0 at *;clear hW;have HS0:=za (zG.same' HST.out hw0);have HX:=za hx0;have HD0:=za (HD.out.later hw0);have HGF:Hid (¬A.foot s w.heap.size):=fun e=>by have:=HST.out.footLt _ e;omega
 have HSH:Hid (∀j,(xs.getD j ByteArray.empty).size≤4):=hx4;clear hx4
 go_loopw[14] (fun i wr=>∃k:Nat,k≤32∧i=.int .i64 k∧SRel s p A w0 wr (p.nf.wentTo r xs (below r.f.toNat r.m.toNat k))) (fun i _=>32-(intOf i).toNat)
 case atStart=>exact⟨0,by omega,rfl,p,A,zG.same' HS0.out.at' (Below.refl _ _),by rw[show below r.f.toNat r.m.toNat 0=0 by unfold below;omega];rfl⟩
 case round =>
  obtain⟨k,hk,rfl,p',A',hs,hn⟩:=hrel;have HS:=za hs;have HN:=za hn
  by_cases hlt:k<32
  ·have hlt':(k:Int)<32:=by omega
   have HBX:=za (zhe HX.out hs.only HGF.out);have HDD:=za (za2 HD0.out hs.only HDO.out);obtain⟨b0,b1,b2,b3,b4,b5,b6,b7⟩:=id HBX.out;rw[hw] at b0;have lb:=zg b0;have hl1:=hs.at'.lt;have c20:=hs.at'.cell 20 _ rfl;have f20:=hs.at'.fz 20;have hh:=HHAS.out k hlt;have HJ:Hid (below r.f.toNat r.m.toNat k≤r.m.toNat):=by show below r.f.toNat r.m.toNat k≤r.m.toNat;unfold below;omega
   have HI':Hid (Inv p'):=by
    have:=HI.out.nf.wentTo r HG.out xs HSH.out _ HJ.out;rw[←hn] at this;exact this.of_nf
   clear hs hn
   by_cases hin:r.f.toNat≤k∧k<r.f.toNat+r.m.toNat
   ·rw[decide_eq_true hin] at hh;have HH:=za hh;obtain⟨e1,e2⟩:=zfO hin.1 hin.2;obtain⟨j,hj⟩:∃j,below r.f.toNat r.m.toNat k=j:=⟨_,rfl⟩
    rw[hj] at e1 e2 HN HJ;have HE1:=za e1;have HKJ:Hid ((k:Int)=r.f+j):=by have:=HB0.out;show(k:Int)=r.f+j;omega
    have HWP:Hid (wrap64 ((k:Int)-r.f)=(j:Nat)):=by
     have:=HB0.out;have:=HKJ.out;rw[wrapK k r.f (by omega) (by omega)];show(k:Int)-r.f=j;omega
    have HJL:Hid (j<r.data.length):=by have:=HLEN.out;have:=HB0.out;show j<r.data.length;omega
    obtain⟨d,hd⟩:∃d,r.data.getD j ByteArray.empty=d:=⟨_,rfl⟩
    have HDJ:=za hd;have HSTEP:Hid (p'.nf.wentOne r xs j={ p'.nf with hand:=cleanL p'.hand k d }):=by
     show p'.nf.wentOne r xs j=_;unfold Sk.wentOne;rw[if_pos hw,hd,←HKJ.out]
     rfl
    clear hh hin e1 e2 hj hd;go_wp2_with fail;have hpt:=ziS r r.data r.da r.dc 0 k _ HDD.out HH.out j HWP.out HJL.out d HDJ.out;rw[show zaI r r.da r.data.length r.dc 0=.agg #[.bool true,.int .i64 r.f,.int .i64 r.m,.slice r.da r.data.length r.dc,.slice r.ta r.tags.length r.tc,.int .i64 r.born,.slice r.da r.data.length r.dc,.int .i64 0] by unfold zaI;rw[hw]] at hpt;refine hpt.mono ?_;clear hpt;rintro e w1 ⟨rfl,hb1⟩;have HS1:=za (HS.out.later hb1)
    replace c20:=cellB_later' hb1 c20
    replace f20:=HS1.out.at'.fz 20
    replace b0:=cellB_later' hb1 b0
    replace hl1:=HS1.out.at'.lt
    replace lb:=zg b0
    clear hb1 b1 b2 b3 b4 b5 b6 b7;go_wp2_with fail;refine(cleanN p'.hand A'.ha A'.hc k d _ HS1.out.at'.mem.hand HS1.out.at'.mem.hnil (by have:=HI'.out.hand.len;omega) HI'.out.hand.once).mono ?_;rintro e w2 ⟨a',c',rfl,u1,u2,u3,u4,u5⟩;have HS2:=za (HS1.out.later u5);have HS3:=za (HS2.out.trans (HS2.out.at'.setHand (cleanL p'.hand k d) a' c' u1 (by rw[show(cleanL p'.hand k d).length=p'.hand.length by simp[cleanL]];exact u2) u4 (fun _ q' hq' e=>by have:=u3 q' hq';have:=HS1.out.at'.offLt _ e;omega)));rw[show(cleanL p'.hand k d).length=p'.hand.length by simp[cleanL]] at HS3;have v20:=HS2.out.at'.cell 20 _ rfl;have x20:=HS2.out.at'.fz 20;have l2:=HS2.out.at'.lt;clear c20 f20 u1 u2 u3 u4 u5;go_wp2;go_roundw
    case rel=>exact⟨k+1,by omega,by go_num,_,_,HS3.out,by rw[HE1.out,zbp,←HN.out,HSTEP.out];rfl⟩
    case measure=>simp[intOf];omega
   ·rw[decide_eq_false hin] at hh;have HH:=za hh;have HE1:=za (ze6 hin);clear hh hin;go_wp2_with fail;have hpt:=zni r r.da r.data.length r.dc 0 k wr HH.out;rw[show zaI r r.da r.data.length r.dc 0=.agg #[.bool true,.int .i64 r.f,.int .i64 r.m,.slice r.da r.data.length r.dc,.slice r.ta r.tags.length r.tc,.int .i64 r.born,.slice r.da r.data.length r.dc,.int .i64 0] by unfold zaI;rw[hw]] at hpt;refine hpt.mono ?_;clear hpt;rintro e w1 ⟨rfl,hb1⟩;have HS1:=za (HS.out.later hb1);clear hb1 b0 b1 b2 b3 b4 b5 b6 b7;go_wp2;go_roundw
    case rel=>exact⟨k+1,by omega,by go_num,p',A',HS1.out,by rw[HE1.out];exact HN.out⟩
    case measure=>simp[intOf];omega
  ·obtain rfl:k=32:=by omega
   clear hs hn;go_wp2;go_end0;refine⟨rfl,p',A',HS0.out.trans HS.out,HN.out.trans ?_⟩;rw[zeU (by have:=HB0.out;omega)];exact HQ.out
end Go.Proofs.YtlhgjplipgandaaGreat
