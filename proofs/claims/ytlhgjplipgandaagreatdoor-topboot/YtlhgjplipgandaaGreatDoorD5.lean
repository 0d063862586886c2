/- Joined texts: Buf, Cache, Cache2. -/
import Derived.BigQuiet
import Derived.Lib.SliceRun
import Derived.Test.YtlhgjplipgandaaGreatDoorD4
set_option maxRecDepth 100000
set_option maxHeartbeats 8000000
set_option linter.unusedSimpArgs false
namespace Go.Proofs.YtlhgjplipgandaaGreatDoor
open Go.RowKit Go.BigFrame
attribute [local go_sem] ze.cell ze.frozen
structure Bf where
 pl:Int
 data:ByteArray
 dirty:Bool
 used:Int
def Bf.cell(r:Bf):Nat→Value
 |0=>.int .i64 r.pl
 |1=>.string r.data
 |2=>.bool r.dirty
 |_=>.int .i64 r.used
abbrev Bf.val(r:Bf):Value:=.agg #[.int .i64 r.pl,.string r.data,.bool r.dirty,.int .i64 r.used]
theorem zel{w:World}{b o:Nat}{v:Value}(h:w.cell? ⟨b,o,none⟩=some v):b<w.heap.size:=zcg h
theorem cellB_later'{w w':World}{b o:Nat}{v:Value}(hb:Below w.heap.size w w')(h:w.cell? ⟨b,o,none⟩=some v):w'.cell? ⟨b,o,none⟩=some v:=zT hb h
theorem zda{w:World}{b o:Nat}{v:Value}(h:w.cell? ⟨b,o,none⟩=some v)(x:Obj):(w.alloc x).cell? ⟨b,o,none⟩=some v:=by
 rw[World.cell?_alloc_lt w x _ (zcg h)];exact h
def zB(w:World)(a:Option Addr)(l:List Bf):Prop :=
 (l=[]∨∃b o,a=some ⟨b,o,none⟩∧∀i (h:i<l.length) j,j<4→w.cell? ⟨b,o+i*4+j,none⟩=some (l[i].cell j))∧l.length≤9223372036854775807
theorem zB.later{w w':World}{a:Option Addr}{l:List Bf}(h:zB w a l)(hb:Below w.heap.size w w'):zB w' a l:=by
 obtain⟨h1,h3⟩:=h;refine⟨?_,h3⟩
 rcases h1 with h|⟨b,o,ha,hc⟩
 ·exact Or.inl h
 ·exact Or.inr ⟨b,o,ha,fun i hi j hj=>cellB_later' hb (hc i hi j hj)⟩
theorem zB.form{w:World}{a:Option Addr}{l:List Bf}(h:zB w a l):l=[]∨∃b o,a=some ⟨b,o,none⟩:=by
 rcases h.1 with h|⟨b,o,ha,_⟩
 ·exact Or.inl h
 ·exact Or.inr ⟨b,o,ha⟩
theorem zB.cells{w:World}{b o:Nat}{l:List Bf}(h:zB w (some ⟨b,o,none⟩) l){i:Nat}(hi:i<l.length) :
 w.cell? ⟨b,o+i*4,none⟩=some (.int .i64 l[i].pl)∧w.cell? ⟨b,o+i*4+1,none⟩=some (.string l[i].data)∧w.cell? ⟨b,o+i*4+2,none⟩=some (.bool l[i].dirty)∧w.cell? ⟨b,o+i*4+3,none⟩=some (.int .i64 l[i].used):=by
 rcases h.1 with rfl|⟨b',o',ha,hc⟩
 ·exact absurd hi (Nat.not_lt_zero _)
 ·simp only[Option.some.injEq,Addr.mk.injEq,and_true] at ha;obtain⟨rfl,rfl⟩:=ha;exact⟨hc i hi 0 (by omega),hc i hi 1 (by omega),hc i hi 2 (by omega),hc i hi 3 (by omega)⟩
def zC(l:List Bf):List Value:=l.flatMap fun r=>[r.cell 0,r.cell 1,r.cell 2,r.cell 3]
theorem zae(l:List Bf):(zC l).length=l.length*4:=by
 induction l with
 |nil=>rfl
 |cons r l ih=>rw[zC,List.flatMap_cons,List.length_append,←zC,ih,List.length_cons];simp;omega
theorem zbv(l l':List Bf):zC (l++l')=zC l++zC l':=by simp[zC]
theorem zhS(l:List Bf):∀(i j:Nat) (h:i<l.length),j<4→(zC l)[i*4+j]?=some (l[i].cell j):=by
 induction l with
 |nil=>intro i j h;exact absurd h (Nat.not_lt_zero _)
 |cons r l ih =>
  intro i j h hj;rw[zC,List.flatMap_cons,←zC]
  cases i with
  |zero =>
   rw[List.getElem?_append_left (by simp;omega)]
   match j,hj with
   |0,_=>rfl
   |1,_=>rfl
   |2,_=>rfl
   |3,_=>rfl
  |succ i =>
   rw[List.getElem?_append_right (by simp;omega)];have:=ih i j (by simpa using h) hj;simp only[List.length_cons,List.length_nil,List.getElem_cons_succ];rw[←this];congr 1;omega
theorem zcx(l:List Bf):∀u∈zC l,u.oneCell'=true:=by
 intro u hu;simp only[zC,List.mem_flatMap] at hu;obtain⟨r,_,hr⟩:=hu;simp only[List.mem_cons,List.not_mem_nil,or_false] at hr
 rcases hr with rfl|rfl|rfl|rfl<;>rfl
theorem zkV{l:List Bf}{k:Nat}{u:Value}(h:(zC l)[k]?=some u):∃i j,∃hi:i<l.length,j<4∧k=i*4+j∧u=l[i].cell j:=by
 have hk:k<(zC l).length:=by
  rcases Nat.lt_or_ge k (zC l).length with h'|h'
  ·exact h'
  ·rw[List.getElem?_eq_none h'] at h;cases h
 rw[zae] at hk;have hi:k / 4<l.length:=by omega
 have hj:k % 4<4:=Nat.mod_lt _ (by omega);have e:k=k / 4*4+k % 4:=by omega
 refine⟨k / 4,k % 4,hi,hj,e,?_⟩;rw[e,zhS l (k / 4) (k % 4) hi hj] at h;exact(Option.some.inj h).symm
theorem zdK(b o i:Nat):(Addr.add ⟨b,o,none⟩ i)=⟨b,o+i,none⟩:=by
 unfold Addr.add;split
 ·rename_i h;subst h;rfl
 ·rfl
theorem zB.rowAll{w:World}{a:Option Addr}{c:Nat}{l:List Bf}(h:zB w a l)(hn:a=none→c=0):zaS w 4 a l.length c (zC l):=by
 rcases h.1 with rfl|⟨b,o,rfl,hc⟩
 ·cases a with
  |none=>exact⟨rfl,by simp[zC],Or.inl ⟨rfl,rfl,hn rfl⟩⟩
  |some ad=>exact⟨rfl,by simp[zC],Or.inr ⟨ad,rfl,fun j u h=>by simp[zC] at h⟩⟩
 ·refine⟨zae l,zcx l,Or.inr ⟨_,rfl,fun k u hk=>?_⟩⟩;obtain⟨i,j,hi,hj,rfl,rfl⟩:=zkV hk;rw[zdK,←hc i hi j hj]
  congr 2
  omega
structure zal(base:Nat)(w:World)(a:Option Addr)(c:Nat)(l:List Bf):Prop where
 here:zB w a l
 cap:l.length≤c
 capM:c≤9223372036854775807
 nil:a=none→c=0
 own:w.ownsRow base 137 4 (.slice a l.length c) l.length (zC l)
theorem zbS{w:World}{base:Nat}{v:Value}{l:List Bf}{n:Nat}(h:w.ownsRow base 137 4 v n (zC l))(hn:n=l.length)(hb:l.length≤9223372036854775807) :
 ∃a c,v=.slice a l.length c∧zal base w a c l:=by
 subst hn;have h':=h
 rcases h.2 with⟨rfl,h0⟩|⟨g,cap,cur,rfl,hg,hh,hnc,hcm,hcs,ht⟩
 ·have hl:=List.eq_nil_of_length_eq_zero h0;subst hl;exact⟨none,0,rfl,⟨⟨Or.inl rfl,by simp⟩,by simp,by simp,fun _=>rfl,h'⟩⟩
 ·have hcm':cap≤9223372036854775807:=by unfold maxLen at hcm;omega
  refine⟨some ⟨g,0,none⟩,cap,rfl,⟨⟨Or.inr ⟨g,0,rfl,fun i hi j hj=>?_⟩,hb⟩,hnc,hcm',by simp,h'⟩⟩;have hx:=zhS l i j hi hj;have hc:=h.cellAt (i*4+j) (by omega);rw[Nat.zero_add,hc,hx]
theorem zal.place{base:Nat}{w:World}{a:Option Addr}{c:Nat}{l:List Bf}(h:zal base w a c l)(hl:l ≠ []):∃b,a=some ⟨b,0,none⟩∧base≤b∧b<w.heap.size∧∀o,w.frozen? ⟨b,o,none⟩=false:=by
 rcases h.own.2 with⟨h1,h2⟩|⟨g,cap,cur,h1,hg,hh,hnc,hcm,hcs,ht⟩
 ·exact absurd (List.eq_nil_of_length_eq_zero h2) hl
 ·simp only[Value.slice.injEq] at h1;refine⟨g,h1.1,hg,?_,fun o=>by simp[World.frozen?,hh]⟩
  rcases Nat.lt_or_ge g w.heap.size with h'|h'
  ·exact h'
  ·rw[Array.getElem?_eq_none h'] at hh;cases hh
theorem zlm:(Tryz.prog.info? 137).map (fun i=>(i.zero,i.size,i.bytes))=some (some (.agg #[.int .i64 0,.string ByteArray.empty,.bool false,.int .i64 0]),4,40):=by kernel_rfl
theorem zbj(l:List Bf)(a:Option Addr)(c:Nat)(w:World)(hl:zB w a l)(hn:a=none→c=0)(h10:l.length≤100000) :
 Calls Tryz.prog 181 #[.slice a l.length c] w fun e w'=>∃a' c',e=.returned (.slice a' l.length c')∧zal w.heap.size w' a' c' l∧Below w.heap.size w w':=by
 obtain⟨i,hi,hz0,hz1,hz2⟩:=zbA zlm;have R:=hl.rowAll hn;have q22:∀(w:World) (a:Option Addr) (n c n' c':Nat),(binOp .eql 91 (.slice a n c) (.slice none n' c')).run Tryz.prog w=.ok (.bool a.isNone) w:=fun w a n c n' c'=>Lib.run_eql_slice_nil w _ _ a n c n' c' Tryz.underlying91
 cases a with
 |none =>
  obtain rfl:=hn rfl;have hl0:l=[]:=by
   rcases hl.form with h|⟨b,o,h⟩
   ·exact h
   ·cases h
  subst hl0;go_enter Tryz.func181,Tryz.ntmps181;go_wp2;go_ret;exact⟨none,0,rfl,⟨⟨Or.inl rfl,by simp⟩,by simp,by simp,fun _=>rfl,World.ownsRow_nil _ _ _ _⟩,by(with_reducible repeat first|exact Below.refl _ _|refine zc ?_ _|refine zd ?_|refine bset' ?_ (by omega) _|refine zb ?_ (by assumption))⟩
 |some ad =>
  have HL:Hid (l.length≤100000):=h10;go_enter Tryz.func181,Tryz.ntmps181;go_wp2_with(at_builtin;refine zR rfl _ _ 91 rfl w.heap.size 137 i _ 4 40 Tryz.underlying91 hi hz0 hz1 hz2 rfl (by decide) _ 0 [] rfl (World.ownsRow_made _ _ _ (Nat.le_refl _) (by unfold maxLen;omega) (by simp)) (some ad) l.length c (zC l) rfl (R.later (by(with_reducible repeat first|exact Below.refl _ _|refine zc ?_ _|refine zd ?_|refine bset' ?_ (by omega) _|refine zb ?_ (by assumption)))) (by unfold maxLen;omega) (by omega) (by simp) ?_;intro v1 w2 hown1 hb1);rw[Nat.zero_add,List.nil_append] at hown1;obtain⟨a',c',rfl,hN⟩:=zbS hown1 rfl (by omega);go_wp2;go_ret;exact⟨a',c',rfl,hN,(zc (Below.refl _ _) _).trans hb1⟩
def zZ(p:Bf→Bool)(l:List Bf):Int:=match l.findIdx? p with|some k=>(k:Int)|none=>-1
theorem zh1{p:Bf→Bool}{l:List Bf}{k:Nat}(h:k<l.length)(hp:p l[k]=true)(hb:∀j (hj:j<k),p (l[j]'(by omega))=false):zZ p l=k:=by
 have:l.findIdx? p=some k:=by
  rw[List.findIdx?_eq_some_iff_getElem];exact⟨h,hp,fun j hj=>by rw[hb j hj];exact Bool.false_ne_true⟩
 rw[zZ,this]
theorem zgq{p:Bf→Bool}{l:List Bf}(h:∀j (hj:j<l.length),p l[j]=false):zZ p l=-1:=by
 have:l.findIdx? p=none:=by
  rw[List.findIdx?_eq_none_iff];intro x hx;obtain⟨j,hj,rfl⟩:=List.getElem_of_mem hx;exact h j hj
 rw[zZ,this]
theorem za8(p:Bf→Bool)(l:List Bf):(zZ p l=-1∧∀j (hj:j<l.length),p l[j]=false)∨∃(k:Nat) (h:k<l.length),zZ p l=k∧p l[k]=true∧∀j (hj:j<k),p (l[j]'(by omega))=false:=by
 cases e:l.findIdx? p with
 |none =>
  left
  refine⟨by rw[zZ,e],fun j hj=>?_⟩;rw[List.findIdx?_eq_none_iff] at e;exact e _ (List.getElem_mem hj)
 |some k =>
  right
  have e':=e;rw[List.findIdx?_eq_some_iff_getElem] at e;obtain⟨h1,h2,h3⟩:=e;refine⟨k,h1,by rw[zZ,e'],h2,fun j hj=>?_⟩;have:=h3 j hj
  simpa using this
theorem zgW(g:Nat)(eg:∀args w,(callFunc g args).run Tryz.prog w=.ok (.enter g args) w)(cp:Value)(p:Bf→Bool)(l:List Bf)(a:Option Addr)(c:Nat)(w:World)(hl:zB w a l)
 (hp:∀(x:Bf) w',Below w.heap.size w w'→Calls Tryz.prog g #[x.val,cp] w' fun e w''=>e=.returned (.bool (p x))∧Below w'.heap.size w' w'') :
 Calls Tryz.prog 170 #[.slice a l.length c,.func (.func g) #[] #[cp]] w fun e w'=>e=.returned (.int .i64 (zZ p l))∧Below w.heap.size w w':=by
 have hb3:=hl.2
 rcases hl.form with rfl|⟨b,o,rfl⟩
 ·clear hp;go_enter Tryz.func170,Tryz.ntmps170;go_wp2
  go_loop [8] (fun i=>i=.int .i64 0) (fun _=>0)
  case atStart=>rfl
  case round =>
   subst hrel;go_wp2;go_ret;exact⟨rfl,by(with_reducible repeat first|exact Below.refl _ _|refine zc ?_ _|refine zd ?_|refine bset' ?_ (by omega) _|refine zb ?_ (by assumption))⟩
 have HP:Hid (∀(x:Bf) w',Below w.heap.size w w'→Calls Tryz.prog g #[x.val,cp] w' fun e w''=>e=.returned (.bool (p x))∧Below w'.heap.size w' w''):=hp;clear hp;go_enter Tryz.func170,Tryz.ntmps170;go_wp2
 go_loopw[8] (fun i wr=>∃k:Nat,k≤l.length∧i=.int .i64 k∧(∀j (hj:j<l.length),j<k→p l[j]=false)∧Below w.heap.size w wr) (fun i _=>l.length-(intOf i).toNat)
 case atStart=>exact⟨0,by omega,rfl,fun j hj h=>absurd h (Nat.not_lt_zero _),Below.refl _ _⟩
 case round =>
  obtain⟨k,hk,rfl,hno,HB⟩:=hrel;have HN:Hid (∀j (hj:j<l.length),j<k→p l[j]=false):=hno;clear hno
  by_cases hlt:k<l.length
  ·obtain⟨c0,c1,c2,c3⟩:=(hl.later HB).cells hlt;have hq:=HP.out l[k] wr HB
   cases hpk:p l[k]
   ·rw[hpk] at hq;have HQ:Hid _:=hq;clear hq;go_wp2_with fail;refine Calls.mono HQ.out ?_;rintro e w1 ⟨rfl,hb⟩;go_wp2;go_roundw
    case rel=>exact⟨k+1,by omega,by go_num,fun j hj h=>by by_cases e:j=k;(subst e;exact hpk);exact HN.out j hj (by omega),zb HB hb⟩
    case measure=>simp[intOf];omega
   ·rw[hpk] at hq;have HQ:Hid _:=hq;clear hq;go_wp2_with fail;refine Calls.mono HQ.out ?_;rintro e w1 ⟨rfl,hb⟩;go_wp2;go_ret;exact⟨zbT (zh1 hlt hpk (fun j hj=>HN.out j (by omega) hj)).symm,zb HB hb⟩
  ·go_wp2;go_ret;exact⟨zbT (zgq (fun j hj=>HN.out j hj (by omega))).symm,HB⟩
theorem zlH(x:Bf)(at':Int)(pb po:Nat)(w:World)(hp:w.cell? ⟨pb,po,none⟩=some (.int .i64 at')) :
 Calls Tryz.prog 171 #[x.val,.pointer (some ⟨pb,po,none⟩)] w fun e w'=>e=.returned (.bool (x.pl==at'))∧Below w.heap.size w w':=by
 have hp':=zda hp;go_enter Tryz.func171,Tryz.ntmps171;go_wp2;go_ret;exact⟨rfl,by(with_reducible repeat first|exact Below.refl _ _|refine zc ?_ _|refine zd ?_|refine bset' ?_ (by omega) _|refine zb ?_ (by assumption))⟩
def plB(at':Int)(x:Bf):Bool:=x.pl==at'
theorem zm4(l:List Bf)(a:Option Addr)(c:Nat)(at':Int)(w:World)(hl:zB w a l) :
 Calls Tryz.prog 127 #[.slice a l.length c,.int .i64 at'] w fun e w'=>e=.returned (.int .i64 (zZ (plB at') l))∧Below w.heap.size w w':=by
 go_enter Tryz.func127,Tryz.ntmps127;go_wp2_with fail;refine(zgW 171 (by intro args w;go_simp) (.pointer (some ⟨w.heap.size,0,none⟩)) (plB at') l a c _ (hl.later (zs _ _)) (fun x w' hb=>zlH x at' w.heap.size 0 w' (cellB_later' hb (by simp)))).mono ?_;rintro e w1 ⟨rfl,HB⟩;go_wp2;go_ret;exact⟨rfl,by(with_reducible repeat first|exact Below.refl _ _|refine zc ?_ _|refine zd ?_|refine bset' ?_ (by omega) _|refine zb ?_ (by assumption))⟩
theorem zG{p:Prop}(h:p):Hid p:=h
theorem zbp(l:List Bf)(a:Option Addr)(c:Nat)(at':Int)(w:World)(hl:zB w a l)(r:Int)(hr:zZ (plB at') l=r) :
 Calls Tryz.prog 127 #[.slice a l.length c,.int .i64 at'] w fun e w'=>e=.returned (.int .i64 r)∧Below w.heap.size w w':=by
 subst hr;exact zm4 l a c at' w hl
abbrev noBuf:Value:=.agg #[.int .i64 0,.string ⟨#[]⟩,.bool false,.int .i64 0]
theorem zkO{w w1:World}{a0 a1 a2 a3:Value}{T:TypeId}(HB:Below (w.alloc (.cells #[a0,a1,a2,a3] T)).heap.size (w.alloc (.cells #[a0,a1,a2,a3] T)) w1) :
 (w1.cell? ⟨w.heap.size,0,none⟩=some a0∧w1.cell? ⟨w.heap.size,1,none⟩=some a1∧w1.cell? ⟨w.heap.size,2,none⟩=some a2∧w1.cell? ⟨w.heap.size,3,none⟩=some a3) ∧
 (w1.frozen? ⟨w.heap.size,0,none⟩=false∧w1.frozen? ⟨w.heap.size,1,none⟩=false∧w1.frozen? ⟨w.heap.size,2,none⟩=false∧w1.frozen? ⟨w.heap.size,3,none⟩=false)∧w.heap.size<w1.heap.size:=by
 have hz:=HB.size;simp only[World.size_alloc] at hz;have c:=fun o=>HB.cell (p:=⟨w.heap.size,o,none⟩) (by simp only[World.size_alloc];omega)
 have f:=fun o=>HB.frozen (p:=⟨w.heap.size,o,none⟩) (by simp only[World.size_alloc];omega)
 refine⟨⟨?_,?_,?_,?_⟩,⟨?_,?_,?_,?_⟩,by omega⟩
 all_goals first|rw[c]|rw[f]
 all_goals simp
theorem zgO(l:List Bf)(a:Option Addr)(c:Nat)(at':Int)(w:World)(hl:zB w a l)(h:zZ (plB at') l=-1) :
 Calls Tryz.prog 81 #[.slice a l.length c,.int .i64 at'] w fun e w'=>e=.returned (.tuple #[noBuf,.bool false])∧Below w.heap.size w w':=by
 go_enter Tryz.func81,Tryz.ntmps81;go_wp2_with fail;refine(zbp l a c at' _ (hl.later (zs _ _)) _ h).mono ?_;rintro e w1 ⟨rfl,HB⟩;obtain⟨⟨m0,m1,m2,m3⟩,⟨f0,f1,f2,f3⟩,hz⟩:=zkO HB;have HB1:Below w.heap.size w w1:=by(with_reducible repeat first|exact Below.refl _ _|refine zc ?_ _|refine zd ?_|refine bset' ?_ (by omega) _|refine zb ?_ (by assumption))
 clear HB h;go_wp2;refine bodyPost_ret (v:=.tuple #[noBuf,.bool false]) ?_ rfl ⟨rfl,by(with_reducible repeat first|exact Below.refl _ _|refine zc ?_ _|refine zd ?_|refine bset' ?_ (by omega) _|refine zb ?_ (by assumption))⟩
 simp[results,Tryz.results81,go_sem,m0,m1,m2,m3]
theorem zex(l:List Bf)(a:Option Addr)(c:Nat)(at':Int)(w:World)(hl:zB w a l)(k:Nat)(hk:k<l.length)(h:zZ (plB at') l=k) :
 Calls Tryz.prog 81 #[.slice a l.length c,.int .i64 at'] w fun e w'=>e=.returned (.tuple #[l[k].val,.bool true])∧Below w.heap.size w w':=by
 have h0:l ≠ []:=by rintro rfl;exact absurd hk (Nat.not_lt_zero _)
 obtain⟨b,o,rfl⟩:=hl.form.resolve_left h0;have hb3:=hl.2;go_enter Tryz.func81,Tryz.ntmps81;go_wp2_with fail;refine(zbp l _ c at' _ (hl.later (zs _ _)) _ h).mono ?_;rintro e w1 ⟨rfl,HB⟩;obtain⟨⟨m0,m1,m2,m3⟩,⟨f0,f1,f2,f3⟩,hz⟩:=zkO HB;have HB1:Below w.heap.size w w1:=by(with_reducible repeat first|exact Below.refl _ _|refine zc ?_ _|refine zd ?_|refine bset' ?_ (by omega) _|refine zb ?_ (by assumption))
 obtain⟨c0,c1,c2,c3⟩:=(hl.later HB1).cells hk;have l0:=zel c0;have l1:=zel (hl.cells hk).1;have n1:b ≠ w.heap.size:=by omega
 clear HB h h0;go_wp2;refine bodyPost_ret (v:=.tuple #[l[k].val,.bool true]) ?_ rfl ⟨rfl,by(with_reducible repeat first|exact Below.refl _ _|refine zc ?_ _|refine zd ?_|refine bset' ?_ (by omega) _|refine zb ?_ (by assumption))⟩
 simp[results,Tryz.results81,go_sem,m0,m1,m2,m3]
def zhn(l:List Bf)(i:Nat):Int:=match l[i]? with|some r=>r.used|none=>0
def zi7(F:Bf→Bool)(l:List Bf)(i:Nat):Bool:=match l[i]? with|some r=>F r|none=>false
def zac(F:Bf→Bool)(l:List Bf):Nat→Int
 |0=>-1
 |k+1=>if zi7 F l k=true∧(zac F l k<0∨zhn l k<zhn l (zac F l k).toNat) then k else zac F l k
section
variable{F:Bf→Bool}{l:List Bf}{k j:Nat}
theorem zd3(h:k<l.length):zi7 F l k=F l[k]:=by simp[zi7,h]
theorem zec(h:k<l.length):zhn l k=l[k].used:=by simp[zhn,h]
theorem zfw{B:Int}(h:k<l.length)(hF:F l[k]=false)(hB:zac F l k=B):zac F l (k+1)=B:=by
 rw[zac,zd3 h,hF,if_neg (by simp),hB]
theorem zfv(h:k<l.length)(hF:F l[k]=true)(hB:zac F l k=-1):zac F l (k+1)=k:=by
 rw[zac,zd3 h,hF,hB,if_pos (by simp)]
theorem zh5(h:k<l.length)(hj:j<l.length)(hF:F l[k]=true)(hB:zac F l k=j)(hR:l[k].used<l[j].used):zac F l (k+1)=k:=by
 rw[zac,zd3 h,hF,hB,zec h,Int.toNat_natCast,zec hj,if_pos ⟨rfl,Or.inr hR⟩]
theorem zh4(h:k<l.length)(hj:j<l.length)(hF:F l[k]=true)(hB:zac F l k=j)(hR:¬l[k].used<l[j].used):zac F l (k+1)=j:=by
 rw[zac,zd3 h,hF,hB,zec h,Int.toNat_natCast,zec hj,if_neg (by rintro⟨_,h'|h'⟩;omega;exact hR h')]
theorem zbF(F:Bf→Bool)(l:List Bf):∀n,n≤l.length→(zac F l n=-1∧∀j (hj:j<l.length),j<n→F l[j]=false)∨∃(k:Nat) (h:k<l.length),k<n∧zac F l n=k∧F l[k]=true∧(∀j (hj:j<l.length),j<n→F l[j]=true→l[k].used≤l[j].used)∧∀j (hj:j<k),F (l[j]'(by omega))=true→l[k].used<(l[j]'(by omega)).used:=by
 intro n
 induction n with
 |zero=>intro _;exact Or.inl ⟨rfl,fun j _ h=>absurd h (Nat.not_lt_zero _)⟩
 |succ n ih =>
  intro hn;have hn':n<l.length:=by omega
  rcases ih (by omega) with⟨h1,h2⟩|⟨k,hk,hkn,h1,h2,h3,h4⟩
  ·cases hF:F l[n]
   ·left
    refine⟨zfw hn' hF h1,fun j hj hjn=>?_⟩
    by_cases e:j=n
    ·subst e;exact hF
    ·exact h2 j hj (by omega)
   ·right
    refine⟨n,hn',by omega,zfv hn' hF h1,hF,fun j hj hjn hFj=>?_,fun j hj hFj=>?_⟩
    ·by_cases e:j=n
     ·subst e;exact Int.le_refl _
     ·rw[h2 j hj (by omega)] at hFj;cases hFj
    ·rw[h2 j (by omega) (by omega)] at hFj;cases hFj
  ·right
   cases hF:F l[n]
   ·refine⟨k,hk,by omega,zfw hn' hF h1,h2,fun j hj hjn hFj=>?_,h4⟩
    by_cases e:j=n
    ·subst e;rw[hF] at hFj;cases hFj
    ·exact h3 j hj (by omega) hFj
   ·by_cases hR:l[n].used<l[k].used
    ·refine⟨n,hn',by omega,zh5 hn' hk hF h1 hR,hF,fun j hj hjn hFj=>?_,fun j hj hFj=>?_⟩
     ·by_cases e:j=n
      ·subst e;exact Int.le_refl _
      ·have:=h3 j hj (by omega) hFj;omega
     ·have:=h3 j (by omega) (by omega) hFj;omega
    ·refine⟨k,hk,by omega,zh4 hn' hk hF h1 hR,h2,fun j hj hjn hFj=>?_,h4⟩
     by_cases e:j=n
     ·subst e;omega
     ·exact h3 j hj (by omega) hFj
end
theorem zfd(r:Bf)(w:World) :
 Calls Tryz.prog 167 #[r.val] w fun e w'=>e=.returned (.int .i64 r.used)∧Below w.heap.size w w':=by
 go_enter Tryz.func167,Tryz.ntmps167;go_wp2;go_ret;exact⟨rfl,by(with_reducible repeat first|exact Below.refl _ _|refine zc ?_ _|refine zd ?_|refine bset' ?_ (by omega) _|refine zb ?_ (by assumption))⟩
theorem zlw(z1 z2:Value)(F:Bf→Bool)(l:List Bf)(a:Option Addr)(c:Nat)(w:World)(hl:zB w a l)
 (hp:∀(x:Bf) w',Below w.heap.size w w'→Calls Tryz.prog 165 #[x.val,z1,z2] w' fun e w''=>e=.returned (.bool (F x))∧Below w'.heap.size w' w'') :
 Calls Tryz.prog 166 #[.slice a l.length c,.func (.func 165) #[] #[z1,z2],.func (.func 167) #[] #[]] w
  fun e w'=>e=.returned (.int .i64 (zac F l l.length))∧Below w.heap.size w w':=by
 have hb3:=hl.2
 rcases hl.form with rfl|⟨b,o,rfl⟩
 ·clear hp;go_enter Tryz.func166,Tryz.ntmps166;go_wp2
  go_loop [7,12] (fun bi i=>i=.int .i64 0∧bi=.int .i64 (-1)) (fun _ _=>0)
  case atStart=>exact⟨rfl,rfl⟩
  case round =>
   obtain⟨rfl,rfl⟩:=hrel;go_wp2;go_ret;exact⟨rfl,by(with_reducible repeat first|exact Below.refl _ _|refine zc ?_ _|refine zd ?_|refine bset' ?_ (by omega) _|refine zb ?_ (by assumption))⟩
 have HP:Hid (∀(x:Bf) w',Below w.heap.size w w'→Calls Tryz.prog 165 #[x.val,z1,z2] w' fun e w''=>e=.returned (.bool (F x))∧Below w'.heap.size w' w''):=hp;clear hp;go_enter Tryz.func166,Tryz.ntmps166;go_wp2
 go_loopw[7,12] (fun bi i wr=>∃(k:Nat) (B:Int),k≤l.length∧i=.int .i64 k∧bi=.int .i64 B∧zac F l k=B∧(B=-1∨∃j:Nat,B=j∧j<k)∧Below w.heap.size w wr) (fun _ i _=>l.length-(intOf i).toNat)
 case atStart=>exact⟨0,-1,by omega,rfl,rfl,rfl,Or.inl rfl,Below.refl _ _⟩
 case round =>
  obtain⟨k,B,hk,rfl,rfl,hB,hcase,HB⟩:=hrel;have HL:Hid (zac F l k=B):=hB;clear hB
  by_cases hlt:k<l.length
  ·obtain⟨c0,c1,c2,c3⟩:=(hl.later HB).cells hlt;have l0:=zel c0;have HB0:=HB;clear HB;have hcase':=hcase;have HK0:=HP.out l[k]
   cases hff:F l[k]
   ·rw[hff] at HK0;have HK:=zG HK0;clear HK0;clear hcase;go_wp2_with fail;refine zF (by first|exact HB|exact zd HB|exact Below.refl _ _) (by kernel_rfl) (by kernel_rfl) ?_
    repeat(go_big_quiet_step (first|exact rfl|(go_at_call 167;exact zy (zfd _ _))|(go_at_call 165;exact zy (HK.out _ (zb (zc HB0 _) (ze.below _))))))
    refine wpQuiet_nil ?_;intro _ hw';obtain⟨p,hw''⟩:=hw';subst hw'';(try clear hc hf hz);(try clear HB);have HB:=p.below;obtain⟨hc,hf,hz⟩:=zW HB;go_wp2;go_roundw
    case rel=>exact⟨k+1,B,by omega,by go_num,rfl,zfw hlt hff HL.out,hcase'.elim (fun h=>Or.inl h) (fun⟨j,h,hj⟩=>Or.inr ⟨j,h,by omega⟩),zb (zc HB0 _) HB⟩
    case measure=>simp[intOf];omega
   ·rw[hff] at HK0;have HK:=zG HK0;clear HK0
    rcases hcase with rfl|⟨j,rfl,hj⟩
    ·go_wp2_with fail;refine zF (by first|exact HB|exact zd HB|exact Below.refl _ _) (by kernel_rfl) (by kernel_rfl) ?_
     repeat(go_big_quiet_step (first|exact rfl|(go_at_call 167;exact zy (zfd _ _))|(go_at_call 165;exact zy (HK.out _ (zb (zc HB0 _) (ze.below _))))))
     refine wpQuiet_nil ?_;intro _ hw';obtain⟨p,hw''⟩:=hw';subst hw'';(try clear hc hf hz);(try clear HB);have HB:=p.below;obtain⟨hc,hf,hz⟩:=zW HB;go_wp2;go_roundw
     case rel=>exact⟨k+1,k,by omega,by go_num,rfl,zfv hlt hff HL.out,Or.inr ⟨k,rfl,by omega⟩,zb (zc HB0 _) HB⟩
     case measure=>simp[intOf];omega
    ·have hjl:j<l.length:=by omega
     have hj0:decide ((j:Int)<0)=false:=decide_eq_false (by omega);obtain⟨d0,d1,d2,d3⟩:=(hl.later HB0).cells hjl
     by_cases hR:l[k].used<l[j].used
     ·go_wp2_with fail;refine zF (by first|exact HB|exact zd HB|exact Below.refl _ _) (by kernel_rfl) (by kernel_rfl) ?_
      repeat(go_big_quiet_step (first|exact rfl|(go_at_call 167;exact zy (zfd _ _))|(go_at_call 165;exact zy (HK.out _ (zb (zc HB0 _) (ze.below _))))))
      refine wpQuiet_nil ?_;intro _ hw';obtain⟨p,hw''⟩:=hw';subst hw'';(try clear hc hf hz);(try clear HB);have HB:=p.below;obtain⟨hc,hf,hz⟩:=zW HB;go_wp2;go_roundw
      case rel=>exact⟨k+1,k,by omega,by go_num,rfl,zh5 hlt hjl hff HL.out hR,Or.inr ⟨k,rfl,by omega⟩,zb (zc HB0 _) HB⟩
      case measure=>simp[intOf];omega
     ·go_wp2_with fail;refine zF (by first|exact HB|exact zd HB|exact Below.refl _ _) (by kernel_rfl) (by kernel_rfl) ?_
      repeat(go_big_quiet_step (first|exact rfl|(go_at_call 167;exact zy (zfd _ _))|(go_at_call 165;exact zy (HK.out _ (zb (zc HB0 _) (ze.below _))))))
      refine wpQuiet_nil ?_;intro _ hw';obtain⟨p,hw''⟩:=hw';subst hw'';(try clear hc hf hz);(try clear HB);have HB:=p.below;obtain⟨hc,hf,hz⟩:=zW HB;go_wp2;go_roundw
      case rel=>exact⟨k+1,j,by omega,by go_num,rfl,zh4 hlt hjl hff HL.out (by omega),Or.inr ⟨j,rfl,by omega⟩,zb (zc HB0 _) HB⟩
      case measure=>simp[intOf];omega
  ·go_wp2;go_ret;exact⟨zbT (by rw[show l.length=k by omega];exact HL.out.symm),by(with_reducible repeat first|exact Below.refl _ _|refine zc ?_ _|refine zd ?_|refine bset' ?_ (by omega) _|refine zb ?_ (by assumption))⟩
theorem zgt{P:Program}(w:World)(t:TypeId)(ps rs:Array TypeId)(vd:Bool)(f:Fn)(x c:Array Value)(h:P.underlying t=some (.func ps rs vd)) :
 (binOp .eql t (.func f x c) .nilFunc).run P w=.ok (.bool false) w:=by
 have h1:∀d,(Op.equalIn (d+1) t (.func f x c) .nilFunc).run P w=.ok false w:=fun d=>by simp[Op.equalIn,run_underlying h]
 simp only[binOp]
 simp[Op.equal,Op.maxDepth,h1 9999]
def zaO(d:Bool)(H:Int→Bool)(x:Bf):Bool:=(x.dirty==d)&&!H x.pl
theorem zn4(x:Bf)(d:Bool)(gh:Nat)(egh:∀args w,(callFunc gh args).run Tryz.prog w=.ok (.enter gh args) w)(hc:Array Value)(H:Int→Bool)(b1 o1 b2 o2:Nat)(w:World)
 (h1:w.cell? ⟨b1,o1,none⟩=some (.bool d)) (h2:w.cell? ⟨b2,o2,none⟩=some (.func (.func gh) #[] hc))
 (hh:∀w',Below w.heap.size w w'→Calls Tryz.prog gh (#[.int .i64 x.pl]++hc) w' fun e w''=>e=.returned (.bool (H x.pl))∧Below w'.heap.size w' w'') :
 Calls Tryz.prog 165 #[x.val,.pointer (some ⟨b1,o1,none⟩),.pointer (some ⟨b2,o2,none⟩)] w fun e w'=>e=.returned (.bool (zaO d H x))∧Below w.heap.size w w':=by
 have q51:∀(w:World) (f:Fn) (x c:Array Value),(binOp .eql 104 (.func f x c) .nilFunc).run Tryz.prog w=.ok (.bool false) w:=fun w f x c=>zgt w _ _ _ _ f x c Tryz.underlying104
 have h1':=zda h1;have h2':=zda h2;unfold zaO
 cases hd:(x.dirty==d)
 ·clear hh;go_enter Tryz.func165,Tryz.ntmps165;go_wp2;go_ret;exact⟨rfl,by(with_reducible repeat first|exact Below.refl _ _|refine zc ?_ _|refine zd ?_|refine bset' ?_ (by omega) _|refine zb ?_ (by assumption))⟩
 ·have hq:=hh (w.alloc (.cells #[.int .i64 x.pl,.string x.data,.bool x.dirty,.int .i64 x.used] 137)) (zs _ _);clear hh
  cases hH:H x.pl
  all_goals
   rw[hH] at hq;have HQ:=zG hq;clear hq;go_enter Tryz.func165,Tryz.ntmps165;go_wp2_with fail;refine Calls.mono HQ.out ?_;rintro e w1 ⟨rfl,hb⟩;go_wp2;go_ret;exact⟨rfl,by(with_reducible repeat first|exact Below.refl _ _|refine zc ?_ _|refine zd ?_|refine bset' ?_ (by omega) _|refine zb ?_ (by assumption))⟩
theorem zcK(d:Bool)(gh:Nat)(egh:∀args w,(callFunc gh args).run Tryz.prog w=.ok (.enter gh args) w)(hc:Array Value)(H:Int→Bool)(l:List Bf)(a:Option Addr)(c:Nat)(w:World)(hl:zB w a l)
 (hh:∀n w',Below w.heap.size w w'→Calls Tryz.prog gh (#[.int .i64 n]++hc) w' fun e w''=>e=.returned (.bool (H n))∧Below w'.heap.size w' w'') (r:Int) (hr:zac (zaO d H) l l.length=r) :
 Calls Tryz.prog 121 #[.slice a l.length c,.bool d,.func (.func gh) #[] hc] w fun e w'=>e=.returned (.int .i64 r)∧Below w.heap.size w w':=by
 subst hr;have HH:=zG hh;clear hh;go_enter Tryz.func121,Tryz.ntmps121;go_wp2_with fail;refine(zlw (.pointer (some ⟨w.heap.size,0,none⟩)) (.pointer (some ⟨w.heap.size+1,0,none⟩)) (zaO d H) l a c _ (hl.later (zbN _ _ _)) (fun x w' hb=>zn4 x d gh egh hc H w.heap.size 0 (w.heap.size+1) 0 w' (cellB_later' hb (by simp)) (cellB_later' hb (by simp)) (fun w'' hb'=>HH.out x.pl w'' (zb (zb (zbN _ _ _) hb) hb')))).mono ?_;rintro e w1 ⟨rfl,HB⟩;go_wp2;go_ret;exact⟨rfl,by(with_reducible repeat first|exact Below.refl _ _|refine zc ?_ _|refine zd ?_|refine bset' ?_ (by omega) _|refine zb ?_ (by assumption))⟩
theorem zpy(gh:Nat)(egh:∀args w,(callFunc gh args).run Tryz.prog w=.ok (.enter gh args) w)(hc:Array Value)(H:Int→Bool)(l:List Bf)(a:Option Addr)(c:Nat)(w:World)(hl:zB w a l)
 (hh:∀n w',Below w.heap.size w w'→Calls Tryz.prog gh (#[.int .i64 n]++hc) w' fun e w''=>e=.returned (.bool (H n))∧Below w'.heap.size w' w'') (hr:zac (zaO true H) l l.length=-1) :
 Calls Tryz.prog 79 #[.slice a l.length c,.func (.func gh) #[] hc] w fun e w'=>e=.returned (.int .i64 (-1))∧Below w.heap.size w w':=by
 have HH:=zG hh;have HR:=zG hr;clear hh hr;go_enter Tryz.func79,Tryz.ntmps79;go_wp2_with fail;refine(zcK true gh egh hc H l a c _ hl HH.out _ HR.out).mono ?_;rintro e w1 ⟨rfl,HB⟩;go_wp2;go_ret;exact⟨rfl,by(with_reducible repeat first|exact Below.refl _ _|refine zc ?_ _|refine zd ?_|refine bset' ?_ (by omega) _|refine zb ?_ (by assumption))⟩
theorem zox(gh:Nat)(egh:∀args w,(callFunc gh args).run Tryz.prog w=.ok (.enter gh args) w)(hc:Array Value)(H:Int→Bool)(l:List Bf)(a:Option Addr)(c:Nat)(w:World)(hl:zB w a l)
 (hh:∀n w',Below w.heap.size w w'→Calls Tryz.prog gh (#[.int .i64 n]++hc) w' fun e w''=>e=.returned (.bool (H n))∧Below w'.heap.size w' w'') (k:Nat) (hk:k<l.length) (hr:zac (zaO true H) l l.length=k) :
 Calls Tryz.prog 79 #[.slice a l.length c,.func (.func gh) #[] hc] w fun e w'=>e=.returned (.int .i64 l[k].pl)∧Below w.heap.size w w':=by
 have h0:l ≠ []:=by rintro rfl;exact absurd hk (Nat.not_lt_zero _)
 obtain⟨b,o,rfl⟩:=hl.form.resolve_left h0;have hb3:=hl.2;have HH:=zG hh;have HR:=zG hr;clear hh hr h0;go_enter Tryz.func79,Tryz.ntmps79;go_wp2_with fail;refine(zcK true gh egh hc H l _ c _ hl HH.out _ HR.out).mono ?_;rintro e w1 ⟨rfl,HB⟩;obtain⟨c0,c1,c2,c3⟩:=(hl.later HB).cells hk;go_wp2;go_ret;exact⟨rfl,by(with_reducible repeat first|exact Below.refl _ _|refine zc ?_ _|refine zd ?_|refine bset' ?_ (by omega) _|refine zb ?_ (by assumption))⟩
theorem zpJ{s t:ByteArray}(h:¬s=t):(s.toList==t.toList)=false:=by
 rw[beq_eq_false_iff_ne];intro e;apply h;rw[ByteArray.toList_eq,ByteArray.toList_eq] at e;have e':s.data=t.data:=by rw[←Array.toList_inj];exact e
 cases s;cases t;simp_all
theorem zpI{s t:ByteArray}(h:s=t):(s.toList==t.toList)=true:=by rw[h];simp
theorem zB.set{w:World}{b o:Nat}{l:List Bf}(h:zB w (some ⟨b,o,none⟩) l){k:Nat}(hk:k<l.length)(j:Nat)(hj:j<4)(x:Bf)(u:Value)(hu:x.cell j=u)(hx:∀i,i<4→i ≠ j→x.cell i=l[k].cell i) :
 zB (w.setCell ⟨b,o+k*4+j,none⟩ u) (some ⟨b,o,none⟩) (l.set k x):=by
 rcases h.1 with rfl|⟨b',o',ha,hc⟩
 ·exact absurd hk (Nat.not_lt_zero _)
 ·simp only[Option.some.injEq,Addr.mk.injEq,and_true] at ha;obtain⟨rfl,rfl⟩:=ha;refine⟨Or.inr ⟨b,o,rfl,fun i hi m hm=>?_⟩,by rw[List.length_set];exact h.2⟩;have hi':i<l.length:=by simpa using hi
  by_cases e:i=k
  ·subst e;rw[List.getElem_set_self]
   by_cases e':m=j
   ·subst e';rw[hu];exact World.cell?_setCell_same _ _ _ (hc i hi' m hm)
   ·rw[hx m hm e',World.cell?_setCell_other _ _ _ _ (fun e=>by injection e with _ e2 _;omega)];exact hc i hi' m hm
  ·rw[List.getElem_set_ne (fun h=>e h.symm),World.cell?_setCell_other _ _ _ _ (fun e3=>by injection e3 with _ e2 _;omega)];exact hc i hi' m hm
def cleanL(l:List Bf)(at':Int)(data:ByteArray):List Bf:=l.map fun x=>if x.pl=at'∧x.data=data then { x with dirty:=false } else x
def zdZ(l:List Bf):Prop:=∀i j (hi:i<l.length) (hj:j<l.length),l[i].pl=l[j].pl→i=j
theorem znS{l:List Bf}{at':Int}{data:ByteArray}(h:zZ (plB at') l=-1):cleanL l at' data=l:=by
 rcases za8 (plB at') l with⟨_,h1⟩|⟨k,hk,e,_⟩
 ·apply List.ext_getElem (by simp[cleanL]);intro i hi h2;simp only[cleanL,List.getElem_map];have:=h1 i h2;simp only[plB,beq_eq_false_iff_ne] at this;rw[if_neg (fun h=>this h.1)]
 ·rw[h] at e;omega
theorem zjL{l:List Bf}{at':Int}{data:ByteArray}{k:Nat}(hk:k<l.length)(ho:zdZ l)(h:zZ (plB at') l=k)(hd:¬l[k].data=data):cleanL l at' data=l:=by
 have hp:l[k].pl=at':=by
  rcases za8 (plB at') l with⟨e,_⟩|⟨k',hk',e,h2,_⟩
  ·rw[h] at e;omega
  ·have:k'=k:=by omega
   subst this
   simpa [plB] using h2
 apply List.ext_getElem (by simp[cleanL]);intro i hi h2;simp only[cleanL,List.getElem_map]
 by_cases c:l[i].pl=at'∧l[i].data=data
 ·have:=ho i k h2 hk (c.1.trans hp.symm);subst this;exact absurd c.2 hd
 ·rw[if_neg c]
theorem zmj{l:List Bf}{at':Int}{data:ByteArray}{k:Nat}(hk:k<l.length)(ho:zdZ l)(h:zZ (plB at') l=k)(hd:l[k].data=data):cleanL l at' data=l.set k { l[k] with dirty:=false }:=by
 have hp:l[k].pl=at':=by
  rcases za8 (plB at') l with⟨e,_⟩|⟨k',hk',e,h2,_⟩
  ·rw[h] at e;omega
  ·have:k'=k:=by omega
   subst this
   simpa [plB] using h2
 apply List.ext_getElem (by simp[cleanL]);intro i hi h2;rw[List.length_set] at h2;simp only[cleanL,List.getElem_map]
 by_cases e:i=k
 ·subst e;rw[List.getElem_set_self,if_pos ⟨hp,hd⟩]
 ·rw[List.getElem_set_ne (fun h=>e h.symm),if_neg (fun c=>e (ho i k h2 hk (c.1.trans hp.symm)))]
structure zcm(l:List Bf):Prop where
 len:l.length≤8
 ok:∀i (h:i<l.length),0≤l[i].pl∧l[i].pl≤31∧l[i].data.size≤10
 rise:∀i (h:i+1<l.length),l[i].pl<l[i+1].pl
theorem zcm.lt{l:List Bf}(h:zcm l):∀(d i:Nat) (hj:i+d+1<l.length),l[i].pl<l[i+d+1].pl:=by
 intro d
 induction d with
 |zero=>intro i hj;exact h.rise i hj
 |succ d ih =>
  intro i hj;have a:=ih i (by omega);have b:=h.rise (i+d+1) (by omega);have e:i+(d+1)+1=i+d+1+1:=by omega
  simp only[e]
  omega
theorem zcm.lt'{l:List Bf}(h:zcm l)(i j:Nat)(hij:i<j)(hj:j<l.length):(l[i]'(by omega)).pl<l[j].pl:=by
 have:=h.lt (j-i-1) i (by omega);have e:i+(j-i-1)+1=j:=by omega
 simp only[e] at this;exact this
theorem zcm.once{l:List Bf}(h:zcm l):zdZ l:=by
 intro i j hi hj e
 rcases Nat.lt_trichotomy i j with h'|h'|h'
 ·have:=h.lt' i j h' hj;omega
 ·exact h'
 ·have:=h.lt' j i h' hi;omega
def ziM(w:World)(pb:Nat)(B:Nat→Bool):Prop:=∀i,i<32→w.cell? ⟨pb,i,none⟩=some (.bool (B i))
theorem ziM.later{w w':World}{pb:Nat}{B:Nat→Bool}(h:ziM w pb B)(hb:Below w.heap.size w w'):ziM w' pb B:=fun i hi=>cellB_later' hb (h i hi)
theorem zcm.neg{l:List Bf}(h:zcm l):zZ (plB (-1)) l=-1:=by
 apply zgq;intro j hj;have:=(h.ok j hj).1;simp only[plB,beq_eq_false_iff_ne];omega
theorem zcm.at{l:List Bf}(h:zcm l)(j:Nat)(hj:j<l.length):zZ (plB l[j].pl) l=j:=by
 apply zh1 hj (by simp[plB]);intro i hi;have:=h.lt' i j hi hj;simp only[plB,beq_eq_false_iff_ne];omega
def useL(l:List Bf)(at' now:Int):List Bf:=l.map fun x=>if x.pl=at' then { x with used:=now } else x
theorem use_no{l:List Bf}{at' now:Int}(h:zZ (plB at') l=-1):useL l at' now=l:=by
 rcases za8 (plB at') l with⟨_,h1⟩|⟨k,hk,e,_⟩
 ·apply List.ext_getElem (by simp[useL]);intro i hi h2;simp only[useL,List.getElem_map];have:=h1 i h2;simp only[plB,beq_eq_false_iff_ne] at this;rw[if_neg this]
 ·rw[h] at e;omega
theorem zpN{l:List Bf}{at' now:Int}{k:Nat}(hk:k<l.length)(ho:zdZ l)(h:zZ (plB at') l=k):useL l at' now=l.set k { l[k] with used:=now }:=by
 have hp:l[k].pl=at':=by
  rcases za8 (plB at') l with⟨e,_⟩|⟨k',hk',e,h2,_⟩
  ·rw[h] at e;omega
  ·have:k'=k:=by omega
   subst this
   simpa [plB] using h2
 apply List.ext_getElem (by simp[useL]);intro i hi h2;rw[List.length_set] at h2;simp only[useL,List.getElem_map]
 by_cases e:i=k
 ·subst e;rw[List.getElem_set_self,if_pos hp]
 ·rw[List.getElem_set_ne (fun h=>e h.symm),if_neg (fun c=>e (ho i k h2 hk (c.trans hp.symm)))]
def zbn(l:List Bf):Nat→Nat
 |0=>0
 |k+1=>match l[k]? with|some x=>(if x.dirty then zbn l k+1 else zbn l k)|none=>zbn l k
theorem zgM{l:List Bf}{k:Nat}(h:k<l.length)(hd:l[k].dirty=true):zbn l (k+1)=zbn l k+1:=by
 rw[zbn,List.getElem?_eq_getElem h];simp[hd]
theorem zhW{l:List Bf}{k:Nat}(h:k<l.length)(hd:l[k].dirty=false):zbn l (k+1)=zbn l k:=by
 rw[zbn,List.getElem?_eq_getElem h];simp[hd]
theorem zmq(l:List Bf)(k:Nat):zbn l k≤k:=by
 induction k with
 |zero=>exact Nat.le_refl _
 |succ k ih =>
  rw[zbn]
  split
  ·split<;>omega
  ·omega
theorem zms(l:List Bf)(a:Option Addr)(c:Nat)(w:World)(hl:zB w a l)(n:Nat)(hn:zbn l l.length=n) :
 Calls Tryz.prog 72 #[.slice a l.length c] w fun e w'=>e=.returned (.int .i64 n)∧Below w.heap.size w w':=by
 subst hn;have hb3:=hl.2;go_enter Tryz.func72,Tryz.ntmps72;go_wp2
 go_loopw[3,8] (fun n i wr=>∃k:Nat,k≤l.length∧i=.int .i64 k∧n=.int .i64 (zbn l k)∧Below w.heap.size w wr) (fun n i _=>l.length-(intOf i).toNat)
 case atStart=>exact⟨0,by omega,rfl,rfl,by(with_reducible repeat first|exact Below.refl _ _|refine zc ?_ _|refine zd ?_|refine bset' ?_ (by omega) _|refine zb ?_ (by assumption))⟩
 case round =>
  obtain⟨k,hk,rfl,rfl,HB⟩:=hrel;have hd:=zmq l k
  by_cases hlt:k<l.length
  ·have h0:l ≠ []:=by rintro rfl;exact absurd hlt (Nat.not_lt_zero _)
   obtain⟨b,o,rfl⟩:=hl.form.resolve_left h0;obtain⟨c0,c1,c2,c3⟩:=(hl.later HB).cells hlt;clear h0
   cases hdd:l[k].dirty
   ·have HD:=zG (zhW hlt hdd);rw[hdd] at c2;clear hdd;go_wp2;go_roundw
    case rel=>exact⟨k+1,by omega,by go_num,by rw[HD.out],by(with_reducible repeat first|exact Below.refl _ _|refine zc ?_ _|refine zd ?_|refine bset' ?_ (by omega) _|refine zb ?_ (by assumption))⟩
    case measure=>simp[intOf];omega
   ·have HD:=zG (zgM hlt hdd);rw[hdd] at c2;clear hdd;go_wp2;go_roundw
    case rel=>exact⟨k+1,by omega,by go_num,by rw[HD.out];go_num,by(with_reducible repeat first|exact Below.refl _ _|refine zc ?_ _|refine zd ?_|refine bset' ?_ (by omega) _|refine zb ?_ (by assumption))⟩
    case measure=>simp[intOf];omega
  ·obtain rfl:k=l.length:=by omega
   go_wp2;go_ret;exact⟨rfl,by(with_reducible repeat first|exact Below.refl _ _|refine zc ?_ _|refine zd ?_|refine bset' ?_ (by omega) _|refine zb ?_ (by assumption))⟩

end Go.Proofs.YtlhgjplipgandaaGreatDoor
