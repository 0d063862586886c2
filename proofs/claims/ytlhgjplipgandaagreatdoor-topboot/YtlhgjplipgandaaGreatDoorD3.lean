/- Joined texts: RNext, RNext2, Nexts. -/
import Derived.Deep.DeepCutAuto
import Derived.Test.YtlhgjplipgandaaGreatDoorD2
set_option maxRecDepth 100000
set_option maxHeartbeats 8000000
set_option linter.unusedSimpArgs false
namespace Go.Proofs.YtlhgjplipgandaaGreatDoor
open Go.RowKit Go.BigFrame
attribute [local go_sem] ze.cell ze.frozen


end Go.Proofs.YtlhgjplipgandaaGreatDoor
namespace Go.Proofs.YtlhgjplipgandaaGreatDoor
open Go.RowKit
theorem zv.bds{r:Rq}(h:zv r):0≤r.f∧r.f≤31∧1≤r.m∧r.m≤4∧r.m≤32-r.f:=by
 have:=h.ok;simp only[okB,decide_eq_true_eq] at this
 omega
theorem znO(b1 b2:Bool)(t:Tn):(zaf b1 b2 t).p=t.p∧(zaf b1 b2 t).g=1:=by
 unfold zaf;split
 ·exact⟨rfl,rfl⟩
 ·split<;>exact⟨rfl,rfl⟩
theorem zg2(l:List Rq)(hne:l ≠ [])(t:Tn)(b1 b2:Bool)(d1:decide (0≤zaa false l)=b1)(d2:decide (0≤zaa true l)=b2):∃i0,∃h:i0<l.length,zaa (zaf b1 b2 t).w l=i0∧l[i0].wr=(zaf b1 b2 t).w:=by
 have hpos:0<l.length:=List.length_pos_iff.2 hne;have key:∀x:Bool,(∃i0,∃h:i0<l.length,zaa x l=i0∧l[i0].wr=x)∨(zaa x l=-1∧∀i (h:i<l.length),l[i].wr=!x):=fun x=>by
  rcases zor x l with h|⟨j,hj,h1,h2⟩
  ·exact Or.inr h
  ·exact Or.inl ⟨j,hj,h1,h2⟩
 cases b2
 ·have e:(zaf b1 false t).w=false:=rfl;rw[e]
  rcases key false with h|⟨_,h⟩
  ·exact h
  ·exfalso
   rcases key true with⟨j,hj,h1,_⟩|⟨_,h'⟩
   ·rw[h1] at d2;simp only[decide_eq_false_iff_not] at d2;omega
   ·have a:=h 0 hpos;have b:=h' 0 hpos;rw[a] at b;cases b
 ·have h2:0≤zaa true l:=by simpa using d2
  have ht:∃i0,∃h:i0<l.length,zaa true l=i0∧l[i0].wr=true:=by
   rcases key true with h|⟨h,_⟩
   ·exact h
   ·omega
  by_cases hc:b1=false∨2≤t.s
  ·have e:(zaf b1 true t).w=true:=by simp[zaf,hc]
   rw[e];exact ht
  ·have e:(zaf b1 true t).w=false:=by simp[zaf,hc]
   rw[e];have h1:0≤zaa false l:=by
    cases b1
    ·exact absurd (Or.inl rfl) hc
    ·simpa using d1
   rcases key false with h|⟨h,_⟩
   ·exact h
   ·omega
theorem zmd(l:List Rq)(b o c:Nat)(t:Tn)(w:World)(hl:zm w (some ⟨b,o,none⟩) l)(hs:zai t.s)(b1 b2:Bool)(d1:decide (0≤zaa false l)=b1)(d2:decide (0≤zaa true l)=b2) :
 Calls Tryz.prog 130 #[.slice (some ⟨b,o,none⟩) l.length c,t.val] w fun e w'=>e=.returned (zaf b1 b2 t).val∧Below w.heap.size w w':=by
 cases b2
 ·exact zo6 l _ c t w hl b1 _ _ rfl rfl d1 d2
 ·cases b1
  ·exact zo7 l _ c t w hl _ _ rfl rfl d1 d2
  ·by_cases h:2≤t.s
   ·have e:zaf true true t=⟨true,1,0,t.p⟩:=by simp[zaf,h]
    rw[e];exact zo8 l _ c t w hl _ _ rfl rfl d1 d2 h
   ·have e:zaf true true t=⟨false,1,t.s+1,t.p⟩:=by simp[zaf,h]
    rw[e];exact zo9 l _ c t w hl _ _ rfl rfl d1 d2 (by omega) hs.1
def ziN(F:Nat)(b o c:Nat)(l:List Rq)(t:Tn)(now:Int)(i:Nat)(T:Tn):Prop :=
 ∀w,zm w (some ⟨b,o,none⟩) l→Calls Tryz.prog F #[.slice (some ⟨b,o,none⟩) l.length c,t.val,.int .i64 now] w fun e w'=>e=.returned (.tuple #[.int .i64 i,T.val])∧Below w.heap.size w w'
theorem zmx(l:List Rq)(hg:ziG l)(t:Tn)(now:Int)(i0:Nat)(hi0:i0<l.length)(hw:l[i0].wr=t.w) :
 ∃i,i<l.length∧((zds t.w≤now-l[i0].born∧i=i0)∨(now-l[i0].born<zds t.w∧(frI t.w t.p l=i∨(frI t.w t.p l=-1∧frI t.w 0 l=i)))):=by
 by_cases h:zds t.w≤now-l[i0].born
 ·exact⟨i0,hi0,Or.inl ⟨h,rfl⟩⟩
 ·rcases zdM t.w t.p l with⟨h1,_⟩|⟨j,hj,h1,_⟩
  ·rcases zdM t.w 0 l with⟨_,h2⟩|⟨j,hj,h2,_⟩
   ·exfalso
    have:=h2 i0 hi0 hw;have:=(hg.good i0 hi0).bds
    omega
   ·exact⟨j,hj,Or.inr ⟨by omega,Or.inr ⟨h1,h2⟩⟩⟩
  ·exact⟨j,hj,Or.inr ⟨by omega,Or.inl h1⟩⟩
theorem zlE(l:List Rq)(hg:ziG l)(b o c:Nat)(t:Tn)(now:Int)(w:World)(hl:zm w (some ⟨b,o,none⟩) l)(n0:0≤now)(n1:now≤1000000000)(i0:Nat)(hi0:i0<l.length)(hO:zaa t.w l=i0)(i:Nat)
 (hway:(zds t.w≤now-l[i0].born∧i=i0)∨(now-l[i0].born<zds t.w∧(frI t.w t.p l=i∨(frI t.w t.p l=-1∧frI t.w 0 l=i)))) :
 Calls Tryz.prog 131 #[.slice (some ⟨b,o,none⟩) l.length c,t.val,.int .i64 now] w fun e w'=>e=.returned (.int .i64 i)∧Below w.heap.size w w':=by
 have g:=hg.good i0 hi0
 rcases hway with⟨h,rfl⟩|⟨h,h1|⟨h1,h2⟩⟩
 ·exact zpi l b o c t now w hl i hi0 hO n0 n1 g.b0 g.b1 _ rfl h
 ·exact zpj l b o c t now w hl i0 hi0 hO n0 n1 g.b0 g.b1 _ rfl h i h1
 ·exact zpk l b o c t now w hl i0 hi0 hO n0 n1 g.b0 g.b1 _ rfl h h1 _ h2
structure IsNext(l:List Rq)(t:Tn)(now:Int)(i:Nat)(T:Tn):Prop where
 lt:i<l.length
 p:T.p=l[i].f+l[i].m
 w:l[i].wr=T.w
 way:(0<t.g∧t.g<3∧frI t.w t.p l=i∧T.w=t.w∧T.g=t.g+1∧T.s=t.s) ∨
  ((t.g≤0∨3≤t.g∨frI t.w t.p l=-1)∧T.g=1∧∃b1 b2,decide (0≤zaa false l)=b1∧decide (0≤zaa true l)=b2∧T.w=(zaf b1 b2 t).w∧T.s=(zaf b1 b2 t).s ∧
   ∃i0,∃h:i0<l.length,zaa T.w l=i0∧((zds T.w≤now-l[i0].born∧i=i0)∨now-l[i0].born<zds T.w))
end Go.Proofs.YtlhgjplipgandaaGreatDoor
