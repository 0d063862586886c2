/- Joined texts: Merge4. -/
import Derived.Deep.RegionHeld3
import Derived.Deep.DeepCutAuto
import Derived.Test.YtlhgjplipgandaaGreatDoorD20
set_option maxRecDepth 100000
set_option maxHeartbeats 8000000
set_option linter.unusedSimpArgs false
namespace Go.Proofs.YtlhgjplipgandaaGreatDoor
open Go.RowKit Go.BigFrame
attribute [local go_sem] ze.cell ze.frozen
theorem za5{p:Prop}(h:p):Hid p:=h
theorem ziD{w:World}{base e:Nat}{v:Value}{xs:List ByteArray}{n:Nat}(h:w.ownsRow base e 1 v n (xs.map .string))(hn:n=xs.length) :
 ∃a c,v=.slice a xs.length c∧zP w a xs∧(a=none→c=0)∧(∀b o,a=some ⟨b,o,none⟩→base≤b):=by
 subst hn
 rcases h.2 with⟨rfl,h0⟩|⟨g,cap,cur,rfl,hg,hh,hnc,hcm,hcs,ht⟩
 ·have hl:=List.eq_nil_of_length_eq_zero h0;subst hl;exact⟨none,0,rfl,Or.inl rfl,fun _=>rfl,fun _ _ h=>by cases h⟩
 ·refine⟨some ⟨g,0,none⟩,cap,rfl,Or.inr ⟨g,0,rfl,fun i hi=>?_⟩,by simp,fun _ _ h=>by cases h;exact hg⟩;have hc:=h.cellAt i (by omega);rw[Nat.zero_add,hc];simp[List.getD,hi]
theorem ziq{w:World}{base e:Nat}{v:Value}{xs:List Int}{n:Nat}(h:w.ownsRow base e 1 v n (xs.map (.int .i64)))(hn:n=xs.length) :
 ∃a c,v=.slice a xs.length c∧zax w a xs∧(a=none→c=0)∧(∀b o,a=some ⟨b,o,none⟩→base≤b):=by
 subst hn
 rcases h.2 with⟨rfl,h0⟩|⟨g,cap,cur,rfl,hg,hh,hnc,hcm,hcs,ht⟩
 ·have hl:=List.eq_nil_of_length_eq_zero h0;subst hl;exact⟨none,0,rfl,Or.inl rfl,fun _=>rfl,fun _ _ h=>by cases h⟩
 ·refine⟨some ⟨g,0,none⟩,cap,rfl,Or.inr ⟨g,0,rfl,fun i hi=>?_⟩,by simp,fun _ _ h=>by cases h;exact hg⟩;have hc:=h.cellAt i (by omega);rw[Nat.zero_add,hc];simp[List.getD,hi]
theorem zeW(xs ys D:List ByteArray)(hD:Hid (D=xs++ys))(g:Nat)(a1 a2:Option Addr)(c1 c2:Nat)(w:World)(h0:w.cell? ⟨g,0,none⟩=some (.slice a1 xs.length c1))(h1:w.cell? ⟨g,1,none⟩=some (.slice a2 ys.length c2))
 (r1:zP w a1 xs) (r2:zP w a2 ys) (n1:a1=none→c1=0) (n2:a2=none→c2=0) (b1:xs.length≤100000) (b2:ys.length≤100000) :
 Calls Tryz.prog 206 #[.slice (some ⟨g,0,none⟩) 2 2] w fun e w'=>∃a c,e=.returned (.slice a D.length c)∧zP w' a D∧(a=none→c=0)∧(∀b o,a=some ⟨b,o,none⟩→w.heap.size≤b)∧Below w.heap.size w w':=by
 refine(zjN g 0 a1 a2 xs.length ys.length c1 c2 (xs.map .string) (ys.map .string) w h0 h1 (r1.row n1) (r2.row n2) b1 b2).mono ?_;rintro e w' ⟨v,rfl,hown,hb⟩;rw[←List.map_append,←hD.out] at hown;obtain⟨a,c,rfl,hs,hn,hbl⟩:=ziD hown (by rw[hD.out,List.length_append]);exact⟨a,c,rfl,hs,hn,hbl,hb⟩
theorem zeV(xs ys D:List Int)(hD:Hid (D=xs++ys))(g:Nat)(a1 a2:Option Addr)(c1 c2:Nat)(w:World)(h0:w.cell? ⟨g,0,none⟩=some (.slice a1 xs.length c1))(h1:w.cell? ⟨g,1,none⟩=some (.slice a2 ys.length c2))
 (r1:zax w a1 xs) (r2:zax w a2 ys) (n1:a1=none→c1=0) (n2:a2=none→c2=0) (b1:xs.length≤100000) (b2:ys.length≤100000) :
 Calls Tryz.prog 207 #[.slice (some ⟨g,0,none⟩) 2 2] w fun e w'=>∃a c,e=.returned (.slice a D.length c)∧zax w' a D∧(a=none→c=0)∧(∀b o,a=some ⟨b,o,none⟩→w.heap.size≤b)∧Below w.heap.size w w':=by
 refine(zjM g 0 a1 a2 xs.length ys.length c1 c2 (xs.map (.int .i64)) (ys.map (.int .i64)) w h0 h1 (r1.row n1) (r2.row n2) b1 b2).mono ?_;rintro e w' ⟨v,rfl,hown,hb⟩;rw[←List.map_append,←hD.out] at hown;obtain⟨a,c,rfl,hs,hn,hbl⟩:=ziq hown (by rw[hD.out,List.length_append]);exact⟨a,c,rfl,hs,hn,hbl,hb⟩
structure zba(a b q:Rq):Prop where
 wr:q.wr=a.wr
 f:q.f=a.f
 m:q.m=a.m+b.m
 data:q.data=a.data++b.data
 tags:q.tags=a.tags++b.tags
 born:q.born=min a.born b.born
def zcB(q:Rq)(n:Nat):Prop:=(∀b o,q.da=some ⟨b,o,none⟩→n≤b)∧(∀b o,q.ta=some ⟨b,o,none⟩→n≤b)
def Six(w:World)(b:Nat)(q:Rq):Prop :=
 w.cell? ⟨b,0,none⟩=some (.bool q.wr)∧w.cell? ⟨b,1,none⟩=some (.int .i64 q.f)∧w.cell? ⟨b,2,none⟩=some (.int .i64 q.m)∧w.cell? ⟨b,3,none⟩=some (.slice q.da q.data.length q.dc)∧w.cell? ⟨b,4,none⟩=some (.slice q.ta q.tags.length q.tc)∧w.cell? ⟨b,5,none⟩=some (.int .i64 q.born)
theorem Six.later{w w':World}{b:Nat}{q:Rq}(h:Six w b q)(hb:Below w.heap.size w w'):Six w' b q:=by
 obtain⟨h0,h1,h2,h3,h4,h5⟩:=h;exact⟨zT hb h0,zT hb h1,zT hb h2,zT hb h3,zT hb h4,zT hb h5⟩
theorem zbR{w w':World}{b o:Nat}(hb:Below w.heap.size w w')(h:w.frozen? ⟨b,o,none⟩=false)(hl:b<w.heap.size):w'.frozen? ⟨b,o,none⟩=false:=by
 rw[hb.frozen (p:=⟨b,o,none⟩) hl];exact h
def zM(w:World)(a:Addr):Value:=(w.cell? a).getD undef
theorem zO{w:World}{a:Addr}{v:Value}(h:w.cell? a=some v):w.cell? a=some (zM w a):=by rw[zM,h];rfl
theorem zbM{w w':World}{a:Addr}(hb:Below w.heap.size w w')(h:w.cell? a=some (zM w a)):w'.cell? a=some (zM w' a):=zO (zT hb h)
theorem zcw{w:World}{a:Addr}(h:w.cell? a=some (zM w a))(p:Addr)(u:Value):(w.setCell p u).cell? a=some (zM (w.setCell p u) a):=by
 by_cases e:p=a
 ·subst e;exact zO (World.cell?_setCell_same _ _ _ h)
 ·exact zO ((World.cell?_setCell_other _ _ _ _ e).trans h)
theorem Six.set{w:World}{b:Nat}{q:Rq}(h:Six w b q){c o:Nat}(hn:b ≠ c)(u:Value):Six (w.setCell ⟨c,o,none⟩ u) b q:=by
 obtain⟨h0,h1,h2,h3,h4,h5⟩:=h;have k:∀i,(w.setCell ⟨c,o,none⟩ u).cell? ⟨b,i,none⟩=w.cell? ⟨b,i,none⟩:=fun i=>World.cell?_setCell_other _ _ _ _ (fun e=>hn (by injection e with e _;exact e.symm))
 exact⟨(k 0).trans h0,(k 1).trans h1,(k 2).trans h2,(k 3).trans h3,(k 4).trans h4,(k 5).trans h5⟩
def Zix(w':World)(n:Nat):Prop:=(w'.cell? ⟨n,0,none⟩=some (zM w' ⟨n,0,none⟩)∧w'.cell? ⟨n,1,none⟩=some (zM w' ⟨n,1,none⟩)∧w'.cell? ⟨n,2,none⟩=some (zM w' ⟨n,2,none⟩)∧w'.cell? ⟨n,3,none⟩=some (zM w' ⟨n,3,none⟩)∧w'.cell? ⟨n,4,none⟩=some (zM w' ⟨n,4,none⟩)∧w'.cell? ⟨n,5,none⟩=some (zM w' ⟨n,5,none⟩))∧(w'.frozen? ⟨n,0,none⟩=false∧w'.frozen? ⟨n,1,none⟩=false∧w'.frozen? ⟨n,2,none⟩=false∧w'.frozen? ⟨n,3,none⟩=false∧w'.frozen? ⟨n,4,none⟩=false∧w'.frozen? ⟨n,5,none⟩=false)
theorem Six.drew{w:World}{b:Nat}{q:Rq}(h:Six w b q):Six w.drew b q:=h
theorem Six.alloc{w:World}{b:Nat}{q:Rq}(h:Six w b q)(x:Obj):Six (w.alloc x) b q:=h.later (zs w x)
theorem Zix.later{w w':World}{n:Nat}(h:Zix w n)(hb:Below w.heap.size w w'):Zix w' n:=by
 obtain⟨⟨h0,h1,h2,h3,h4,h5⟩,⟨f0,f1,f2,f3,f4,f5⟩⟩:=h;have hl:=zg h0;exact⟨⟨zbM hb h0,zbM hb h1,zbM hb h2,zbM hb h3,zbM hb h4,zbM hb h5⟩,⟨zbR hb f0 hl,zbR hb f1 hl,zbR hb f2 hl,zbR hb f3 hl,zbR hb f4 hl,zbR hb f5 hl⟩⟩
theorem Zix.set{w:World}{n:Nat}(h:Zix w n)(p:Addr)(u:Value):Zix (w.setCell p u) n:=by
 obtain⟨⟨h0,h1,h2,h3,h4,h5⟩,⟨f0,f1,f2,f3,f4,f5⟩⟩:=h;refine⟨⟨zcw h0 p u,zcw h1 p u,zcw h2 p u,zcw h3 p u,zcw h4 p u,zcw h5 p u⟩,?_⟩;simp only[World.frozen?_setCell];exact⟨f0,f1,f2,f3,f4,f5⟩
theorem Zix.drew{w:World}{n:Nat}(h:Zix w n):Zix w.drew n:=h
theorem Zix.alloc{w:World}{n:Nat}(h:Zix w n)(x:Obj):Zix (w.alloc x) n:=h.later (zs w x)
theorem ziH{w':World}(n:Nat)(a b:Rq)(h1:Six w' n a)(h2:Six w' (n+1) b)(h3:Zix w' (n+2)):(w'.cell? ⟨n,0,none⟩=some (.bool a.wr)∧w'.cell? ⟨n,1,none⟩=some (.int .i64 a.f)∧w'.cell? ⟨n,2,none⟩=some (.int .i64 a.m)∧w'.cell? ⟨n,3,none⟩=some (.slice a.da a.data.length a.dc)∧w'.cell? ⟨n,4,none⟩=some (.slice a.ta a.tags.length a.tc)∧w'.cell? ⟨n,5,none⟩=some (.int .i64 a.born))∧(w'.cell? ⟨n+1,0,none⟩=some (.bool b.wr)∧w'.cell? ⟨n+1,1,none⟩=some (.int .i64 b.f)∧w'.cell? ⟨n+1,2,none⟩=some (.int .i64 b.m)∧w'.cell? ⟨n+1,3,none⟩=some (.slice b.da b.data.length b.dc)∧w'.cell? ⟨n+1,4,none⟩=some (.slice b.ta b.tags.length b.tc)∧w'.cell? ⟨n+1,5,none⟩=some (.int .i64 b.born))∧(w'.cell? ⟨n+2,0,none⟩=some (zM w' ⟨n+2,0,none⟩)∧w'.cell? ⟨n+2,1,none⟩=some (zM w' ⟨n+2,1,none⟩)∧w'.cell? ⟨n+2,2,none⟩=some (zM w' ⟨n+2,2,none⟩)∧w'.cell? ⟨n+2,3,none⟩=some (zM w' ⟨n+2,3,none⟩)∧w'.cell? ⟨n+2,4,none⟩=some (zM w' ⟨n+2,4,none⟩)∧w'.cell? ⟨n+2,5,none⟩=some (zM w' ⟨n+2,5,none⟩))∧(w'.frozen? ⟨n+2,0,none⟩=false∧w'.frozen? ⟨n+2,1,none⟩=false∧w'.frozen? ⟨n+2,2,none⟩=false∧w'.frozen? ⟨n+2,3,none⟩=false∧w'.frozen? ⟨n+2,4,none⟩=false∧w'.frozen? ⟨n+2,5,none⟩=false):=⟨h1,h2,h3⟩
theorem zeK{w w1:World}{T:TypeId}(a b:Rq)(HB:Below (((w.alloc (.cells #[.bool a.wr,.int .i64 a.f,.int .i64 a.m,.slice a.da a.data.length a.dc,.slice a.ta a.tags.length a.tc,.int .i64 a.born] T)).alloc (.cells #[.bool b.wr,.int .i64 b.f,.int .i64 b.m,.slice b.da b.data.length b.dc,.slice b.ta b.tags.length b.tc,.int .i64 b.born] T)).alloc (.cells #[.bool false,.int .i64 0,.int .i64 0,.slice none 0 0,.slice none 0 0,.int .i64 0] T)).heap.size (((w.alloc (.cells #[.bool a.wr,.int .i64 a.f,.int .i64 a.m,.slice a.da a.data.length a.dc,.slice a.ta a.tags.length a.tc,.int .i64 a.born] T)).alloc (.cells #[.bool b.wr,.int .i64 b.f,.int .i64 b.m,.slice b.da b.data.length b.dc,.slice b.ta b.tags.length b.tc,.int .i64 b.born] T)).alloc (.cells #[.bool false,.int .i64 0,.int .i64 0,.slice none 0 0,.slice none 0 0,.int .i64 0] T)) w1) :
 Six w1 w.heap.size a∧Six w1 (w.heap.size+1) b∧Zix w1 (w.heap.size+2)∧w.heap.size+3≤w1.heap.size:=by
 have hz:=HB.size;simp only[World.size_alloc] at hz;have c0:=fun o=>HB.cell (p:=⟨w.heap.size,o,none⟩) (by simp only[World.size_alloc];omega)
 have c1:=fun o=>HB.cell (p:=⟨w.heap.size+1,o,none⟩) (by simp only[World.size_alloc];omega)
 have c2:=fun o=>HB.cell (p:=⟨w.heap.size+2,o,none⟩) (by simp only[World.size_alloc];omega)
 have f2:=fun o=>HB.frozen (p:=⟨w.heap.size+2,o,none⟩) (by simp only[World.size_alloc];omega)
 refine⟨⟨?_,?_,?_,?_,?_,?_⟩,⟨?_,?_,?_,?_,?_,?_⟩,⟨⟨?_,?_,?_,?_,?_,?_⟩,⟨?_,?_,?_,?_,?_,?_⟩⟩,hz⟩
 rotate_right 12
 exact zO (v:=.bool false) (by rw[c2];simp[go_sem]);exact zO (v:=.int .i64 0) (by rw[c2];simp[go_sem]);exact zO (v:=.int .i64 0) (by rw[c2];simp[go_sem]);exact zO (v:=.slice none 0 0) (by rw[c2];simp[go_sem]);exact zO (v:=.slice none 0 0) (by rw[c2];simp[go_sem]);exact zO (v:=.int .i64 0) (by rw[c2];simp[go_sem])
 all_goals first|rw[c0]|rw[c1]|rw[f2]
 all_goals first|(simp[go_sem];done)|simp[World.cell?,World.alloc,World.frozen?]
theorem zhP{w w1:World}{T:TypeId}(a b:Rq)(HB:Below (((w.alloc (.cells #[.bool a.wr,.int .i64 a.f,.int .i64 a.m,.slice a.da a.data.length a.dc,.slice a.ta a.tags.length a.tc,.int .i64 a.born] T)).alloc (.cells #[.bool b.wr,.int .i64 b.f,.int .i64 b.m,.slice b.da b.data.length b.dc,.slice b.ta b.tags.length b.tc,.int .i64 b.born] T)).alloc (.cells #[.bool false,.int .i64 0,.int .i64 0,.slice none 0 0,.slice none 0 0,.int .i64 0] T)).heap.size (((w.alloc (.cells #[.bool a.wr,.int .i64 a.f,.int .i64 a.m,.slice a.da a.data.length a.dc,.slice a.ta a.tags.length a.tc,.int .i64 a.born] T)).alloc (.cells #[.bool b.wr,.int .i64 b.f,.int .i64 b.m,.slice b.da b.data.length b.dc,.slice b.ta b.tags.length b.tc,.int .i64 b.born] T)).alloc (.cells #[.bool false,.int .i64 0,.int .i64 0,.slice none 0 0,.slice none 0 0,.int .i64 0] T)) w1) :
 Zix w1 w.heap.size∧Zix w1 (w.heap.size+1):=by
 obtain⟨⟨h0,h1,h2,h3,h4,h5⟩,⟨k0,k1,k2,k3,k4,k5⟩,_⟩:=zeK a b HB;have f0:=fun o=>HB.frozen (p:=⟨w.heap.size,o,none⟩) (by simp only[World.size_alloc];omega)
 have f1:=fun o=>HB.frozen (p:=⟨w.heap.size+1,o,none⟩) (by simp only[World.size_alloc];omega)
 refine⟨⟨⟨zO h0,zO h1,zO h2,zO h3,zO h4,zO h5⟩,⟨?_,?_,?_,?_,?_,?_⟩⟩,⟨⟨zO k0,zO k1,zO k2,zO k3,zO k4,zO k5⟩,⟨?_,?_,?_,?_,?_,?_⟩⟩⟩
 all_goals first|rw[f0]|rw[f1]
 all_goals first|(simp[go_sem];done)|simp[World.frozen?,World.alloc]
theorem zP.set{w:World}{a:Option Addr}{xs:List ByteArray}(h:zP w a xs){c o:Nat}(hn:∀b o,a=some ⟨b,o,none⟩→b ≠ c)(u:Value):zP (w.setCell ⟨c,o,none⟩ u) a xs:=by
 rcases h with h|⟨b,o',ha,hc⟩
 ·exact Or.inl h
 ·exact Or.inr ⟨b,o',ha,fun i hi=>(World.cell?_setCell_other _ _ _ _ (fun e=>hn b o' ha (by injection e with e _;exact e.symm))).trans (hc i hi)⟩
theorem zax.set{w:World}{a:Option Addr}{xs:List Int}(h:zax w a xs){c o:Nat}(hn:∀b o,a=some ⟨b,o,none⟩→b ≠ c)(u:Value):zax (w.setCell ⟨c,o,none⟩ u) a xs:=by
 rcases h with h|⟨b,o',ha,hc⟩
 ·exact Or.inl h
 ·exact Or.inr ⟨b,o',ha,fun i hi=>(World.cell?_setCell_other _ _ _ _ (fun e=>hn b o' ha (by injection e with e _;exact e.symm))).trans (hc i hi)⟩
def zap(w:World)(n:Nat)(v0 v1 v2 v3 v4 v5:Value):World:=(((((w.setCell ⟨n,0,none⟩ v0).setCell ⟨n,1,none⟩ v1).setCell ⟨n,2,none⟩ v2).setCell ⟨n,3,none⟩ v3).setCell ⟨n,4,none⟩ v4).setCell ⟨n,5,none⟩ v5
theorem zaX{w:World}{n:Nat}(h:Zix w n)(v0 v1 v2 v3 v4 v5:Value) :
 (zap w n v0 v1 v2 v3 v4 v5).cell? ⟨n,0,none⟩=some v0∧(zap w n v0 v1 v2 v3 v4 v5).cell? ⟨n,1,none⟩=some v1∧(zap w n v0 v1 v2 v3 v4 v5).cell? ⟨n,2,none⟩=some v2∧(zap w n v0 v1 v2 v3 v4 v5).cell? ⟨n,3,none⟩=some v3∧(zap w n v0 v1 v2 v3 v4 v5).cell? ⟨n,4,none⟩=some v4∧(zap w n v0 v1 v2 v3 v4 v5).cell? ⟨n,5,none⟩=some v5:=by
 have ne:∀i j:Nat,i ≠ j→∀(W:World) (u:Value),(W.setCell ⟨n,i,none⟩ u).cell? ⟨n,j,none⟩=W.cell? ⟨n,j,none⟩:=fun i j hij W u=>World.cell?_setCell_other _ _ _ _ (fun e=>hij (by injection e))
 obtain⟨⟨h0,h1,h2,h3,h4,h5⟩,_⟩:=h;unfold zap;refine⟨?_,?_,?_,?_,?_,?_⟩
 ·rw[ne 5 0 (by decide),ne 4 0 (by decide),ne 3 0 (by decide),ne 2 0 (by decide),ne 1 0 (by decide)];exact World.cell?_setCell_same _ _ _ h0
 ·rw[ne 5 1 (by decide),ne 4 1 (by decide),ne 3 1 (by decide),ne 2 1 (by decide)];exact World.cell?_setCell_same _ _ _ ((ne 0 1 (by decide) _ _).trans h1)
 ·rw[ne 5 2 (by decide),ne 4 2 (by decide),ne 3 2 (by decide)];exact World.cell?_setCell_same _ _ _ ((ne 1 2 (by decide) _ _).trans ((ne 0 2 (by decide) _ _).trans h2))
 ·rw[ne 5 3 (by decide),ne 4 3 (by decide)];exact World.cell?_setCell_same _ _ _ ((ne 2 3 (by decide) _ _).trans ((ne 1 3 (by decide) _ _).trans ((ne 0 3 (by decide) _ _).trans h3)))
 ·rw[ne 5 4 (by decide)];exact World.cell?_setCell_same _ _ _ ((ne 3 4 (by decide) _ _).trans ((ne 2 4 (by decide) _ _).trans ((ne 1 4 (by decide) _ _).trans ((ne 0 4 (by decide) _ _).trans h4))))
 ·exact World.cell?_setCell_same _ _ _ ((ne 4 5 (by decide) _ _).trans ((ne 3 5 (by decide) _ _).trans ((ne 2 5 (by decide) _ _).trans ((ne 1 5 (by decide) _ _).trans ((ne 0 5 (by decide) _ _).trans h5)))))
theorem zbW{w:World}{n:Nat}{a:Option Addr}{xs:List ByteArray}(h:zP w a xs)(hn:∀b o,a=some ⟨b,o,none⟩→b ≠ n)(v0 v1 v2 v3 v4 v5:Value):zP (zap w n v0 v1 v2 v3 v4 v5) a xs :=
 (((((h.set hn v0).set hn v1).set hn v2).set hn v3).set hn v4).set hn v5
theorem zbV{w:World}{n:Nat}{a:Option Addr}{xs:List Int}(h:zax w a xs)(hn:∀b o,a=some ⟨b,o,none⟩→b ≠ n)(v0 v1 v2 v3 v4 v5:Value):zax (zap w n v0 v1 v2 v3 v4 v5) a xs :=
 (((((h.set hn v0).set hn v1).set hn v2).set hn v3).set hn v4).set hn v5
theorem zoK{w:World}{n c:Nat}{q:Rq}(h:Six w n q)(hn:n ≠ c)(v0 v1 v2 v3 v4 v5:Value):Six (zap w c v0 v1 v2 v3 v4 v5) n q :=
 (((((h.set hn v0).set hn v1).set hn v2).set hn v3).set hn v4).set hn v5
theorem zgv{w:World}{n c:Nat}(h:Zix w n)(v0 v1 v2 v3 v4 v5:Value):Zix (zap w c v0 v1 v2 v3 v4 v5) n :=
 (((((h.set _ v0).set _ v1).set _ v2).set _ v3).set _ v4).set _ v5
theorem zgA{w0 w1:World}{n:Nat}(a b:Rq)(U1:Zix w0 n)(U2:Zix w0 (n+1))(T3:Zix w0 (n+2))
 (hb:Below (zap (zap w0 n (.bool a.wr) (.int .i64 a.f) (.int .i64 a.m) (.slice a.da a.data.length a.dc) (.slice a.ta a.tags.length a.tc) (.int .i64 a.born)) (n+1) (.bool b.wr) (.int .i64 b.f) (.int .i64 b.m) (.slice b.da b.data.length b.dc) (.slice b.ta b.tags.length b.tc) (.int .i64 b.born)).heap.size (zap (zap w0 n (.bool a.wr) (.int .i64 a.f) (.int .i64 a.m) (.slice a.da a.data.length a.dc) (.slice a.ta a.tags.length a.tc) (.int .i64 a.born)) (n+1) (.bool b.wr) (.int .i64 b.f) (.int .i64 b.m) (.slice b.da b.data.length b.dc) (.slice b.ta b.tags.length b.tc) (.int .i64 b.born)) w1) :
 Six w1 n a∧Six w1 (n+1) b∧Zix w1 (n+2):=by
 refine⟨Six.later (zoK ?_ (by omega) _ _ _ _ _ _) hb,Six.later ?_ hb,Zix.later (zgv (zgv T3 _ _ _ _ _ _) _ _ _ _ _ _) hb⟩
 ·exact zaX U1 _ _ _ _ _ _
 ·exact zaX (zgv U2 _ _ _ _ _ _) _ _ _ _ _ _
theorem zv.d4{r:Rq}(h:zv r):r.data.length≤4:=by
 have h1:=h.shape;have h2:=h.bnd;unfold zcb at h1
 split at h1
 ·simp only[decide_eq_true_eq] at h1;omega
 ·simp only[decide_eq_true_eq] at h1;omega
end Go.Proofs.YtlhgjplipgandaaGreatDoor
