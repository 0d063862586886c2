/- Joined texts: Nexts, Buf, Cache. -/
import Derived.BigQuiet
import Derived.Lib.SliceRun
import Derived.Test.YtlhgjplipgandaaGreatB10
set_option maxRecDepth 100000
set_option maxHeartbeats 8000000
set_option linter.unusedSimpArgs false
namespace Go.Proofs.YtlhgjplipgandaaGreat
open Go.RowKit
theorem zA.bds{r:Rq}(h:zA r):0≤r.f∧r.f≤31∧1≤r.m∧r.m≤4∧r.m≤32-r.f:=by
 have:=h.ok;simp only[okB,decide_eq_true_eq] at this
 omega
theorem zk9(b1 b2:Bool)(t:Tn):(zZ b1 b2 t).p=t.p∧(zZ b1 b2 t).g=1:=by
 unfold zZ;split
 ·exact⟨rfl,rfl⟩
 ·split<;>exact⟨rfl,rfl⟩
theorem zgb(l:List Rq)(hne:l ≠ [])(t:Tn)(b1 b2:Bool)(d1:decide (0≤zah false l)=b1)(d2:decide (0≤zah true l)=b2):∃i0,∃h:i0<l.length,zah (zZ b1 b2 t).w l=i0∧l[i0].wr=(zZ b1 b2 t).w:=by
 have hpos:0<l.length:=List.length_pos_iff.2 hne;have key:∀x:Bool,(∃i0,∃h:i0<l.length,zah x l=i0∧l[i0].wr=x)∨(zah x l=-1∧∀i (h:i<l.length),l[i].wr=!x):=fun x=>by
  rcases zqs x l with h|⟨j,hj,h1,h2⟩
  ·exact Or.inr h
  ·exact Or.inl ⟨j,hj,h1,h2⟩
 cases b2
 ·have e:(zZ b1 false t).w=false:=rfl;rw[e]
  rcases key false with h|⟨_,h⟩
  ·exact h
  ·exfalso
   rcases key true with⟨j,hj,h1,_⟩|⟨_,h'⟩
   ·rw[h1] at d2;simp only[decide_eq_false_iff_not] at d2;omega
   ·have a:=h 0 hpos;have b:=h' 0 hpos;rw[a] at b;cases b
 ·have h2:0≤zah true l:=by simpa using d2
  have ht:∃i0,∃h:i0<l.length,zah true l=i0∧l[i0].wr=true:=by
   rcases key true with h|⟨h,_⟩
   ·exact h
   ·omega
  by_cases hc:b1=false∨2≤t.s
  ·have e:(zZ b1 true t).w=true:=by simp[zZ,hc]
   rw[e];exact ht
  ·have e:(zZ b1 true t).w=false:=by simp[zZ,hc]
   rw[e];have h1:0≤zah false l:=by
    cases b1
    ·exact absurd (Or.inl rfl) hc
    ·simpa using d1
   rcases key false with h|⟨h,_⟩
   ·exact h
   ·omega
theorem zpg(l:List Rq)(b o c:Nat)(t:Tn)(w:World)(hl:zs w (some ⟨b,o,none⟩) l)(hs:zaj t.s)(b1 b2:Bool)(d1:decide (0≤zah false l)=b1)(d2:decide (0≤zah true l)=b2) :
  Calls Tryz.prog 91 #[.slice (some ⟨b,o,none⟩) l.length c,t.val] w fun e w'=>e=.returned (zZ b1 b2 t).val∧Below w.heap.size w w':=by
 cases b2
 ·exact zsh l _ c t w hl b1 _ _ rfl rfl d1 d2
 ·cases b1
  ·exact zr9 l _ c t w hl _ _ rfl rfl d1 d2
  ·by_cases h:2≤t.s
   ·have e:zZ true true t=⟨true,1,0,t.p⟩:=by simp[zZ,h]
    rw[e];exact zsd l _ c t w hl _ _ rfl rfl d1 d2 h
   ·have e:zZ true true t=⟨false,1,t.s+1,t.p⟩:=by simp[zZ,h]
    rw[e];exact zsl l _ c t w hl _ _ rfl rfl d1 d2 (by omega) hs.1
def zgg(F:Nat)(b o c:Nat)(l:List Rq)(t:Tn)(now:Int)(i:Nat)(T:Tn):Prop :=
 ∀w,zs w (some ⟨b,o,none⟩) l→Calls Tryz.prog F #[.slice (some ⟨b,o,none⟩) l.length c,t.val,.int .i64 now] w fun e w'=>e=.returned (.tuple #[.int .i64 i,T.val])∧Below w.heap.size w w'
theorem zjN(l:List Rq)(hg:zif l)(t:Tn)(now:Int)(i0:Nat)(hi0:i0<l.length)(hw:l[i0].wr=t.w) :
  ∃i,i<l.length∧((zbK t.w≤now-l[i0].born∧i=i0)∨(now-l[i0].born<zbK t.w∧(frI t.w t.p l=i∨(frI t.w t.p l=-1∧frI t.w 0 l=i)))):=by
 by_cases h:zbK t.w≤now-l[i0].born
 ·exact⟨i0,hi0,Or.inl ⟨h,rfl⟩⟩
 ·rcases zdq t.w t.p l with⟨h1,_⟩|⟨j,hj,h1,_⟩
  ·rcases zdq t.w 0 l with⟨_,h2⟩|⟨j,hj,h2,_⟩
   ·exfalso
    have:=h2 i0 hi0 hw;have:=(hg.good i0 hi0).bds
    omega
   ·exact⟨j,hj,Or.inr ⟨by omega,Or.inr ⟨h1,h2⟩⟩⟩
  ·exact⟨j,hj,Or.inr ⟨by omega,Or.inl h1⟩⟩
theorem zoy(l:List Rq)(hg:zif l)(b o c:Nat)(t:Tn)(now:Int)(w:World)(hl:zs w (some ⟨b,o,none⟩) l)(n0:0≤now)(n1:now≤1000000000)(i0:Nat)(hi0:i0<l.length)(hO:zah t.w l=i0)(i:Nat)
  (hway:(zbK t.w≤now-l[i0].born∧i=i0)∨(now-l[i0].born<zbK t.w∧(frI t.w t.p l=i∨(frI t.w t.p l=-1∧frI t.w 0 l=i)))) :
  Calls Tryz.prog 92 #[.slice (some ⟨b,o,none⟩) l.length c,t.val,.int .i64 now] w fun e w'=>e=.returned (.int .i64 i)∧Below w.heap.size w w':=by
 have g:=hg.good i0 hi0
 rcases hway with⟨h,rfl⟩|⟨h,h1|⟨h1,h2⟩⟩
 ·exact zrP l b o c t now w hl i hi0 hO n0 n1 g.b0 g.b1 _ rfl h
 ·exact zso l b o c t now w hl i0 hi0 hO n0 n1 g.b0 g.b1 _ rfl h i h1
 ·exact zrO l b o c t now w hl i0 hi0 hO n0 n1 g.b0 g.b1 _ rfl h h1 _ h2
structure IsNext(l:List Rq)(t:Tn)(now:Int)(i:Nat)(T:Tn):Prop where
 lt:i<l.length
 p:T.p=l[i].f+l[i].m
 w:l[i].wr=T.w
 way:(0<t.g∧t.g<3∧frI t.w t.p l=i∧T.w=t.w∧T.g=t.g+1∧T.s=t.s) ∨
  ((t.g≤0∨3≤t.g∨frI t.w t.p l=-1)∧T.g=1∧∃b1 b2,decide (0≤zah false l)=b1∧decide (0≤zah true l)=b2∧T.w=(zZ b1 b2 t).w∧T.s=(zZ b1 b2 t).s ∧
   ∃i0,∃h:i0<l.length,zah T.w l=i0∧((zbK T.w≤now-l[i0].born∧i=i0)∨now-l[i0].born<zbK T.w))
end Go.Proofs.YtlhgjplipgandaaGreat
namespace Go.Proofs.YtlhgjplipgandaaGreat
open Go.RowKit Go.BigFrame
attribute [local go_sem] ze.cell ze.frozen
structure Bf where
 pl:Int
 data:ByteArray
 dirty:Bool
 used:Int
def Bf.cell(r:Bf):Nat→Value
 |0=>.int .i64 r.pl
 |1=>.string r.data
 |2=>.bool r.dirty
 |_=>.int .i64 r.used
abbrev Bf.val(r:Bf):Value:=.agg #[.int .i64 r.pl,.string r.data,.bool r.dirty,.int .i64 r.used]
theorem zh{w:World}{b o:Nat}{v:Value}(h:w.cell? ⟨b,o,none⟩=some v):b<w.heap.size:=zcH h
theorem cellB_later'{w w':World}{b o:Nat}{v:Value}(hb:Below w.heap.size w w')(h:w.cell? ⟨b,o,none⟩=some v):w'.cell? ⟨b,o,none⟩=some v:=zas hb h
theorem zdY{w:World}{b o:Nat}{v:Value}(h:w.cell? ⟨b,o,none⟩=some v)(x:Obj):(w.alloc x).cell? ⟨b,o,none⟩=some v:=by
 rw[World.cell?_alloc_lt w x _ (zcH h)];exact h
def zB(w:World)(a:Option Addr)(l:List Bf):Prop :=
 (l=[]∨∃b o,a=some ⟨b,o,none⟩∧∀i (h:i<l.length) j,j<4→w.cell? ⟨b,o+i*4+j,none⟩=some (l[i].cell j))∧l.length≤9223372036854775807
theorem zB.later{w w':World}{a:Option Addr}{l:List Bf}(h:zB w a l)(hb:Below w.heap.size w w'):zB w' a l:=by
 obtain⟨h1,h3⟩:=h;refine⟨?_,h3⟩
 rcases h1 with h|⟨b,o,ha,hc⟩
 ·exact Or.inl h
 ·exact Or.inr ⟨b,o,ha,fun i hi j hj=>cellB_later' hb (hc i hi j hj)⟩
theorem zB.form{w:World}{a:Option Addr}{l:List Bf}(h:zB w a l):l=[]∨∃b o,a=some ⟨b,o,none⟩:=by
 rcases h.1 with h|⟨b,o,ha,_⟩
 ·exact Or.inl h
 ·exact Or.inr ⟨b,o,ha⟩
theorem zB.cells{w:World}{b o:Nat}{l:List Bf}(h:zB w (some ⟨b,o,none⟩) l){i:Nat}(hi:i<l.length) :
  w.cell? ⟨b,o+i*4,none⟩=some (.int .i64 l[i].pl)∧w.cell? ⟨b,o+i*4+1,none⟩=some (.string l[i].data)∧w.cell? ⟨b,o+i*4+2,none⟩=some (.bool l[i].dirty)∧w.cell? ⟨b,o+i*4+3,none⟩=some (.int .i64 l[i].used):=by
 rcases h.1 with rfl|⟨b',o',ha,hc⟩
 ·exact absurd hi (Nat.not_lt_zero _)
 ·simp only[Option.some.injEq,Addr.mk.injEq,and_true] at ha;obtain⟨rfl,rfl⟩:=ha;exact⟨hc i hi 0 (by omega),hc i hi 1 (by omega),hc i hi 2 (by omega),hc i hi 3 (by omega)⟩
def zr(l:List Bf):List Value:=l.flatMap fun r=>[r.cell 0,r.cell 1,r.cell 2,r.cell 3]
theorem zaK(l:List Bf):(zr l).length=l.length*4:=by
 induction l with
 |nil=>rfl
 |cons r l ih=>rw[zr,List.flatMap_cons,List.length_append,←zr,ih,List.length_cons];simp;omega
theorem zO(l l':List Bf):zr (l++l')=zr l++zr l':=by simp[zr]
theorem zjB(l:List Bf):∀(i j:Nat) (h:i<l.length),j<4→(zr l)[i*4+j]?=some (l[i].cell j):=by
 induction l with
 |nil=>intro i j h;exact absurd h (Nat.not_lt_zero _)
 |cons r l ih =>
  intro i j h hj;rw[zr,List.flatMap_cons,←zr]
  cases i with
  |zero =>
   rw[List.getElem?_append_left (by simp;omega)]
   match j,hj with
   |0,_=>rfl
   |1,_=>rfl
   |2,_=>rfl
   |3,_=>rfl
  |succ i =>
   rw[List.getElem?_append_right (by simp;omega)];have:=ih i j (by simpa using h) hj;simp only[List.length_cons,List.length_nil,List.getElem_cons_succ];rw[←this];congr 1;omega
theorem zcv(l:List Bf):∀u∈zr l,u.oneCell'=true:=by
 intro u hu;simp only[zr,List.mem_flatMap] at hu;obtain⟨r,_,hr⟩:=hu;simp only[List.mem_cons,List.not_mem_nil,or_false] at hr
 rcases hr with rfl|rfl|rfl|rfl<;>rfl
theorem zod{l:List Bf}{k:Nat}{u:Value}(h:(zr l)[k]?=some u):∃i j,∃hi:i<l.length,j<4∧k=i*4+j∧u=l[i].cell j:=by
 have hk:k<(zr l).length:=by
  rcases Nat.lt_or_ge k (zr l).length with h'|h'
  ·exact h'
  ·rw[List.getElem?_eq_none h'] at h;cases h
 rw[zaK] at hk;have hi:k / 4<l.length:=by omega
 have hj:k % 4<4:=Nat.mod_lt _ (by omega);have e:k=k / 4*4+k % 4:=by omega
 refine⟨k / 4,k % 4,hi,hj,e,?_⟩;rw[e,zjB l (k / 4) (k % 4) hi hj] at h;exact(Option.some.inj h).symm
theorem zdQ(b o i:Nat):(Addr.add ⟨b,o,none⟩ i)=⟨b,o+i,none⟩:=by
 unfold Addr.add;split
 ·rename_i h;subst h;rfl
 ·rfl
theorem zB.rowAll{w:World}{a:Option Addr}{c:Nat}{l:List Bf}(h:zB w a l)(hn:a=none→c=0):zaW w 4 a l.length c (zr l):=by
 rcases h.1 with rfl|⟨b,o,rfl,hc⟩
 ·cases a with
  |none=>exact⟨rfl,by simp[zr],Or.inl ⟨rfl,rfl,hn rfl⟩⟩
  |some ad=>exact⟨rfl,by simp[zr],Or.inr ⟨ad,rfl,fun j u h=>by simp[zr] at h⟩⟩
 ·refine⟨zaK l,zcv l,Or.inr ⟨_,rfl,fun k u hk=>?_⟩⟩;obtain⟨i,j,hi,hj,rfl,rfl⟩:=zod hk;rw[zdQ,←hc i hi j hj]
  congr 2
  omega
structure zaN(base:Nat)(w:World)(a:Option Addr)(c:Nat)(l:List Bf):Prop where
 here:zB w a l
 cap:l.length≤c
 capM:c≤9223372036854775807
 nil:a=none→c=0
 own:w.ownsRow base 97 4 (.slice a l.length c) l.length (zr l)
theorem zaP{w:World}{base:Nat}{v:Value}{l:List Bf}{n:Nat}(h:w.ownsRow base 97 4 v n (zr l))(hn:n=l.length)(hb:l.length≤9223372036854775807) :
  ∃a c,v=.slice a l.length c∧zaN base w a c l:=by
 subst hn;have h':=h
 rcases h.2 with⟨rfl,h0⟩|⟨g,cap,cur,rfl,hg,hh,hnc,hcm,hcs,ht⟩
 ·have hl:=List.eq_nil_of_length_eq_zero h0;subst hl;exact⟨none,0,rfl,⟨⟨Or.inl rfl,by simp⟩,by simp,by simp,fun _=>rfl,h'⟩⟩
 ·have hcm':cap≤9223372036854775807:=by unfold maxLen at hcm;omega
  refine⟨some ⟨g,0,none⟩,cap,rfl,⟨⟨Or.inr ⟨g,0,rfl,fun i hi j hj=>?_⟩,hb⟩,hnc,hcm',by simp,h'⟩⟩;have hx:=zjB l i j hi hj;have hc:=h.cellAt (i*4+j) (by omega);rw[Nat.zero_add,hc,hx]
theorem zaN.place{base:Nat}{w:World}{a:Option Addr}{c:Nat}{l:List Bf}(h:zaN base w a c l)(hl:l ≠ []):∃b,a=some ⟨b,0,none⟩∧base≤b∧b<w.heap.size∧∀o,w.frozen? ⟨b,o,none⟩=false:=by
 rcases h.own.2 with⟨h1,h2⟩|⟨g,cap,cur,h1,hg,hh,hnc,hcm,hcs,ht⟩
 ·exact absurd (List.eq_nil_of_length_eq_zero h2) hl
 ·simp only[Value.slice.injEq] at h1;refine⟨g,h1.1,hg,?_,fun o=>by simp[World.frozen?,hh]⟩
  rcases Nat.lt_or_ge g w.heap.size with h'|h'
  ·exact h'
  ·rw[Array.getElem?_eq_none h'] at hh;cases hh
theorem ze5:(Tryz.prog.info? 97).map (fun i=>(i.zero,i.size,i.bytes))=some (some (.agg #[.int .i64 0,.string ByteArray.empty,.bool false,.int .i64 0]),4,40):=by kernel_rfl
theorem zbU(l:List Bf)(a:Option Addr)(c:Nat)(w:World)(hl:zB w a l)(hn:a=none→c=0)(h10:l.length≤100000) :
  Calls Tryz.prog 131 #[.slice a l.length c] w fun e w'=>∃a' c',e=.returned (.slice a' l.length c')∧zaN w.heap.size w' a' c' l∧Below w.heap.size w w':=by
 obtain⟨i,hi,hz0,hz1,hz2⟩:=zaL ze5;have R:=hl.rowAll hn;have q22:∀(w:World) (a:Option Addr) (n c n' c':Nat),(binOp .eql 56 (.slice a n c) (.slice none n' c')).run Tryz.prog w=.ok (.bool a.isNone) w:=fun w a n c n' c'=>Lib.run_eql_slice_nil w _ _ a n c n' c' Tryz.underlying56
 cases a with
 |none =>
  obtain rfl:=hn rfl;have hl0:l=[]:=by
   rcases hl.form with h|⟨b,o,h⟩
   ·exact h
   ·cases h
  subst hl0;go_enter Tryz.func131,Tryz.ntmps131;go_wp2;go_ret;exact⟨none,0,rfl,⟨⟨Or.inl rfl,by simp⟩,by simp,by simp,fun _=>rfl,World.ownsRow_nil _ _ _ _⟩,by(with_reducible repeat first|exact Below.refl _ _|refine zc ?_ _|refine zd ?_|refine bset' ?_ (by omega) _|refine zb ?_ (by assumption))⟩
 |some ad =>
  have HL:Hid (l.length≤100000):=h10;go_enter Tryz.func131,Tryz.ntmps131;go_wp2_with(at_builtin;refine zq rfl _ _ 56 rfl w.heap.size 97 i _ 4 40 Tryz.underlying56 hi hz0 hz1 hz2 rfl (by decide) _ 0 [] rfl (World.ownsRow_made _ _ _ (Nat.le_refl _) (by unfold maxLen;omega) (by simp)) (some ad) l.length c (zr l) rfl (R.later (by(with_reducible repeat first|exact Below.refl _ _|refine zc ?_ _|refine zd ?_|refine bset' ?_ (by omega) _|refine zb ?_ (by assumption)))) (by unfold maxLen;omega) (by omega) (by simp) ?_;intro v1 w2 hown1 hb1);rw[Nat.zero_add,List.nil_append] at hown1;obtain⟨a',c',rfl,hN⟩:=zaP hown1 rfl (by omega);go_wp2;go_ret;exact⟨a',c',rfl,hN,(zc (Below.refl _ _) _).trans hb1⟩
def zap(p:Bf→Bool)(l:List Bf):Int:=match l.findIdx? p with|some k=>(k:Int)|none=>-1
theorem zj0{p:Bf→Bool}{l:List Bf}{k:Nat}(h:k<l.length)(hp:p l[k]=true)(hb:∀j (hj:j<k),p (l[j]'(by omega))=false):zap p l=k:=by
 have:l.findIdx? p=some k:=by
  rw[List.findIdx?_eq_some_iff_getElem];exact⟨h,hp,fun j hj=>by rw[hb j hj];exact Bool.false_ne_true⟩
 rw[zap,this]
theorem zhT{p:Bf→Bool}{l:List Bf}(h:∀j (hj:j<l.length),p l[j]=false):zap p l=-1:=by
 have:l.findIdx? p=none:=by
  rw[List.findIdx?_eq_none_iff];intro x hx;obtain⟨j,hj,rfl⟩:=List.getElem_of_mem hx;exact h j hj
 rw[zap,this]
theorem zbi(p:Bf→Bool)(l:List Bf):(zap p l=-1∧∀j (hj:j<l.length),p l[j]=false)∨∃(k:Nat) (h:k<l.length),zap p l=k∧p l[k]=true∧∀j (hj:j<k),p (l[j]'(by omega))=false:=by
 cases e:l.findIdx? p with
 |none =>
  left
  refine⟨by rw[zap,e],fun j hj=>?_⟩;rw[List.findIdx?_eq_none_iff] at e;exact e _ (List.getElem_mem hj)
 |some k =>
  right
  have e':=e;rw[List.findIdx?_eq_some_iff_getElem] at e;obtain⟨h1,h2,h3⟩:=e;refine⟨k,h1,by rw[zap,e'],h2,fun j hj=>?_⟩;have:=h3 j hj
  simpa using this
theorem zhZ(g:Nat)(eg:∀args w,(callFunc g args).run Tryz.prog w=.ok (.enter g args) w)(cp:Value)(p:Bf→Bool)(l:List Bf)(a:Option Addr)(c:Nat)(w:World)(hl:zB w a l)
  (hp:∀(x:Bf) w',Below w.heap.size w w'→Calls Tryz.prog g #[x.val,cp] w' fun e w''=>e=.returned (.bool (p x))∧Below w'.heap.size w' w'') :
  Calls Tryz.prog 117 #[.slice a l.length c,.func (.func g) #[] #[cp]] w fun e w'=>e=.returned (.int .i64 (zap p l))∧Below w.heap.size w w':=by
 have hb3:=hl.2
 rcases hl.form with rfl|⟨b,o,rfl⟩
 ·clear hp;go_enter Tryz.func117,Tryz.ntmps117;go_wp2
  go_loop [8] (fun i=>i=.int .i64 0) (fun _=>0)
  case atStart=>rfl
  case round =>
   subst hrel;go_wp2;go_ret;exact⟨rfl,by(with_reducible repeat first|exact Below.refl _ _|refine zc ?_ _|refine zd ?_|refine bset' ?_ (by omega) _|refine zb ?_ (by assumption))⟩
 have HP:Hid (∀(x:Bf) w',Below w.heap.size w w'→Calls Tryz.prog g #[x.val,cp] w' fun e w''=>e=.returned (.bool (p x))∧Below w'.heap.size w' w''):=hp;clear hp;go_enter Tryz.func117,Tryz.ntmps117;go_wp2
 go_loopw[8] (fun i wr=>∃k:Nat,k≤l.length∧i=.int .i64 k∧(∀j (hj:j<l.length),j<k→p l[j]=false)∧Below w.heap.size w wr) (fun i _=>l.length-(intOf i).toNat)
 case atStart=>exact⟨0,by omega,rfl,fun j hj h=>absurd h (Nat.not_lt_zero _),Below.refl _ _⟩
 case round =>
  obtain⟨k,hk,rfl,hno,HB⟩:=hrel;have HN:Hid (∀j (hj:j<l.length),j<k→p l[j]=false):=hno;clear hno
  by_cases hlt:k<l.length
  ·obtain⟨c0,c1,c2,c3⟩:=(hl.later HB).cells hlt;have hq:=HP.out l[k] wr HB
   cases hpk:p l[k]
   ·rw[hpk] at hq;have HQ:Hid _:=hq;clear hq;go_wp2_with fail;refine Calls.mono HQ.out ?_;rintro e w1 ⟨rfl,hb⟩;go_wp2;go_roundw
    case rel=>exact⟨k+1,by omega,by go_num,fun j hj h=>by by_cases e:j=k;(subst e;exact hpk);exact HN.out j hj (by omega),zb HB hb⟩
    case measure=>simp[intOf];omega
   ·rw[hpk] at hq;have HQ:Hid _:=hq;clear hq;go_wp2_with fail;refine Calls.mono HQ.out ?_;rintro e w1 ⟨rfl,hb⟩;go_wp2;go_ret;exact⟨zbs (zj0 hlt hpk (fun j hj=>HN.out j (by omega) hj)).symm,zb HB hb⟩
  ·go_wp2;go_ret;exact⟨zbs (zhT (fun j hj=>HN.out j hj (by omega))).symm,HB⟩
theorem znF(x:Bf)(at':Int)(pb po:Nat)(w:World)(hp:w.cell? ⟨pb,po,none⟩=some (.int .i64 at')) :
  Calls Tryz.prog 118 #[x.val,.pointer (some ⟨pb,po,none⟩)] w fun e w'=>e=.returned (.bool (x.pl==at'))∧Below w.heap.size w w':=by
 have hp':=zdY hp;go_enter Tryz.func118,Tryz.ntmps118;go_wp2;go_ret;exact⟨rfl,by(with_reducible repeat first|exact Below.refl _ _|refine zc ?_ _|refine zd ?_|refine bset' ?_ (by omega) _|refine zb ?_ (by assumption))⟩
def plB(at':Int)(x:Bf):Bool:=x.pl==at'
theorem zpW(l:List Bf)(a:Option Addr)(c:Nat)(at':Int)(w:World)(hl:zB w a l) :
  Calls Tryz.prog 86 #[.slice a l.length c,.int .i64 at'] w fun e w'=>e=.returned (.int .i64 (zap (plB at') l))∧Below w.heap.size w w':=by
 go_enter Tryz.func86,Tryz.ntmps86;go_wp2_with fail;refine(zhZ 118 (by intro args w;go_simp) (.pointer (some ⟨w.heap.size,0,none⟩)) (plB at') l a c _ (hl.later (zn _ _)) (fun x w' hb=>znF x at' w.heap.size 0 w' (cellB_later' hb (by simp)))).mono ?_;rintro e w1 ⟨rfl,HB⟩;go_wp2;go_ret;exact⟨rfl,by(with_reducible repeat first|exact Below.refl _ _|refine zc ?_ _|refine zd ?_|refine bset' ?_ (by omega) _|refine zb ?_ (by assumption))⟩
end Go.Proofs.YtlhgjplipgandaaGreat
