/- Joined. -/
import Derived.Deep.RegionHeld3
import Derived.Deep.DeepCutAuto
import Derived.Test.YtlhgjplipgandaaGreatDoorE17
set_option maxRecDepth 100000
set_option maxHeartbeats 8000000
set_option linter.unusedSimpArgs false
set_option linter.unusedSectionVars false
namespace Go.Proofs.YtlhgjplipgandaaGreatDoor
open Tryz
open Go.RowKit Go.BigFrame
theorem dm{p:Prop}(h:p):Hid p:=h
theorem n9{w:World}{base e:Nat}{v:Value}{xs:List ByteArray}{n:Nat}(h:w.ownsRow base e 1 v n (xs.map .string))(hn:n=xs.length) :
 ∃a c,v=.slice a xs.length c/\cy w a xs/\(a=none->c=0)/\(∀b o,a=some ⟨b,o,none⟩->base<=b):=by
 subst hn
 rcases h.2 with⟨rfl,h0⟩|⟨g,cap,cur,rfl,hg,hh,jY,iA,kf,ht⟩
 ·have hl:=acd h0;subst hl;exact⟨none,0,rfl,il rfl,fun _=>rfl,fun _ _ h=>by cases h⟩
 ·refine⟨some ⟨g,0,none⟩,cap,rfl,ir ⟨g,0,rfl,fun i hi=>?_⟩,sM,fun _ _ h=>by cases h;exact hg⟩;have hc:=h.cellAt i oM;rw[acq,hc];simp[List.getD,hi]
theorem kr{w:World}{base e:Nat}{v:Value}{xs:List Int}{n:Nat}(h:w.ownsRow base e 1 v n (xs.map (.int .i64)))(hn:n=xs.length) :
 ∃a c,v=.slice a xs.length c/\dZ w a xs/\(a=none->c=0)/\(∀b o,a=some ⟨b,o,none⟩->base<=b):=by
 subst hn
 rcases h.2 with⟨rfl,h0⟩|⟨g,cap,cur,rfl,hg,hh,jY,iA,kf,ht⟩
 ·have hl:=acd h0;subst hl;exact⟨none,0,rfl,il rfl,fun _=>rfl,fun _ _ h=>by cases h⟩
 ·refine⟨some ⟨g,0,none⟩,cap,rfl,ir ⟨g,0,rfl,fun i hi=>?_⟩,sM,fun _ _ h=>by cases h;exact hg⟩;have hc:=h.cellAt i oM;rw[acq,hc];simp[List.getD,hi]
theorem yO(xs ys D:List ByteArray)(hD:Hid (D=xs++ys))(g:Nat)(a1 a2:Option Addr)(c1 c2:Nat)(w:World)(h0:w.cell? ⟨g,0,none⟩=some (.slice a1 xs.length c1))(h1:w.cell? ⟨g,1,none⟩=some (.slice a2 ys.length c2))
 (r1:cy w a1 xs) (r2:cy w a2 ys) (n1:a1=none->c1=0) (n2:a2=none->c2=0) (b1:xs.length<=100000) (b2:ys.length<=100000) :
 Calls prog 206 #[.slice (some ⟨g,0,none⟩) 2 2] w fun e w'=>∃a c,e=.returned (.slice a D.length c)/\cy w' a D/\(a=none->c=0)/\(∀b o,a=some ⟨b,o,none⟩->w.heap.size<=b)/\bL w w':=by
 refine(Ld g 0 a1 a2 xs.length ys.length c1 c2 (xs.map .string) (ys.map .string) w h0 h1 (r1.row n1) (r2.row n2) b1 b2).mono ?_;rintro e w' ⟨v,rfl,bp,hb⟩;rw[<-acY,<-hD.out] at bp;obtain⟨a,c,rfl,hs,hn,qU⟩:=n9 bp (by rw[hD.out,ab7]);exact⟨a,c,rfl,hs,hn,qU,hb⟩
theorem yN(xs ys D:List Int)(hD:Hid (D=xs++ys))(g:Nat)(a1 a2:Option Addr)(c1 c2:Nat)(w:World)(h0:w.cell? ⟨g,0,none⟩=some (.slice a1 xs.length c1))(h1:w.cell? ⟨g,1,none⟩=some (.slice a2 ys.length c2))
 (r1:dZ w a1 xs) (r2:dZ w a2 ys) (n1:a1=none->c1=0) (n2:a2=none->c2=0) (b1:xs.length<=100000) (b2:ys.length<=100000) :
 Calls prog 207 #[.slice (some ⟨g,0,none⟩) 2 2] w fun e w'=>∃a c,e=.returned (.slice a D.length c)/\dZ w' a D/\(a=none->c=0)/\(∀b o,a=some ⟨b,o,none⟩->w.heap.size<=b)/\bL w w':=by
 refine(Lc g 0 a1 a2 xs.length ys.length c1 c2 (xs.map (.int .i64)) (ys.map (.int .i64)) w h0 h1 (r1.row n1) (r2.row n2) b1 b2).mono ?_;rintro e w' ⟨v,rfl,bp,hb⟩;rw[<-acY,<-hD.out] at bp;obtain⟨a,c,rfl,hs,hn,qU⟩:=kr bp (by rw[hD.out,ab7]);exact⟨a,c,rfl,hs,hn,qU,hb⟩
structure jP(a b q:Rq):Prop where
 wr:q.wr=a.wr
 f:q.f=a.f
 m:q.m=a.m+b.m
 data:q.data=a.data++b.data
 tags:q.tags=a.tags++b.tags
 born:q.born=min a.born b.born
def pU(q:Rq)(n:Nat):Prop:=(∀b o,q.da=some ⟨b,o,none⟩->n<=b)/\(∀b o,q.ta=some ⟨b,o,none⟩->n<=b)
def bg(w:World)(b:Nat)(q:Rq):Prop :=
 w.cell? ⟨b,0,none⟩=some (.bool q.wr)/\w.cell? ⟨b,1,none⟩=some (i6 q.f)/\w.cell? ⟨b,2,none⟩=some (i6 q.m)/\w.cell? ⟨b,3,none⟩=some (.slice q.da q.data.length q.dc)/\w.cell? ⟨b,4,none⟩=some (.slice q.ta q.tags.length q.tc)/\w.cell? ⟨b,5,none⟩=some (i6 q.born)
theorem bg.later{w w':World}{b:Nat}{q:Rq}(h:bg w b q)(hb:bL w w'):bg w' b q:=by
 obtain⟨h0,h1,h2,h3,h4,h5⟩:=h;exact⟨eb hb h0,eb hb h1,eb hb h2,eb hb h3,eb hb h4,eb hb h5⟩
theorem kc{w w':World}{b o:Nat}(hb:bL w w')(h:w.frozen? ⟨b,o,none⟩=false)(hl:b<w.heap.size):w'.frozen? ⟨b,o,none⟩=false:=by
 rw[hb.frozen (p:=⟨b,o,none⟩) hl];exact h
def cZ(w:World)(a:Addr):Value:=(w.cell? a).getD undef
theorem bG{w:World}{a:Addr}{v:Value}(h:w.cell? a=some v):w.cell? a=some (cZ w a):=by rw[cZ,h];rfl
theorem mM{w w':World}{a:Addr}(hb:bL w w')(h:w.cell? a=some (cZ w a)):w'.cell? a=some (cZ w' a):=bG (eb hb h)
theorem pt{w:World}{a:Addr}(h:w.cell? a=some (cZ w a))(p:Addr)(u:Value):(w.setCell p u).cell? a=some (cZ (w.setCell p u) a):=by
 by_cases e:p=a
 ·subst e;exact bG (acm _ _ _ h)
 ·exact bG ((acL _ _ _ _ e).trans h)
theorem bg.set{w:World}{b:Nat}{q:Rq}(h:bg w b q){c o:Nat}(hn:b ≠ c)(u:Value):bg (w.setCell ⟨c,o,none⟩ u) b q:=by
 obtain⟨h0,h1,h2,h3,h4,h5⟩:=h;have k:∀i,(w.setCell ⟨c,o,none⟩ u).cell? ⟨b,i,none⟩=w.cell? ⟨b,i,none⟩:=fun i=>acL _ _ _ _ (fun e=>hn (by injection e with e _;exact e.symm))
 exact⟨(k 0).trans h0,(k 1).trans h1,(k 2).trans h2,(k 3).trans h3,(k 4).trans h4,(k 5).trans h5⟩
def aX(w':World)(n:Nat):Prop:=(w'.cell? ⟨n,0,none⟩=some (cZ w' ⟨n,0,none⟩)/\w'.cell? ⟨n,1,none⟩=some (cZ w' ⟨n,1,none⟩)/\w'.cell? ⟨n,2,none⟩=some (cZ w' ⟨n,2,none⟩)/\w'.cell? ⟨n,3,none⟩=some (cZ w' ⟨n,3,none⟩)/\w'.cell? ⟨n,4,none⟩=some (cZ w' ⟨n,4,none⟩)/\w'.cell? ⟨n,5,none⟩=some (cZ w' ⟨n,5,none⟩))/\(w'.frozen? ⟨n,0,none⟩=false/\w'.frozen? ⟨n,1,none⟩=false/\w'.frozen? ⟨n,2,none⟩=false/\w'.frozen? ⟨n,3,none⟩=false/\w'.frozen? ⟨n,4,none⟩=false/\w'.frozen? ⟨n,5,none⟩=false)
theorem bg.drew{w:World}{b:Nat}{q:Rq}(h:bg w b q):bg w.drew b q:=h
theorem bg.alloc{w:World}{b:Nat}{q:Rq}(h:bg w b q)(x:Obj):bg (w.alloc x) b q:=h.later (aB w x)
theorem aX.later{w w':World}{n:Nat}(h:aX w n)(hb:bL w w'):aX w' n:=by
 obtain⟨⟨h0,h1,h2,h3,h4,h5⟩,⟨f0,f1,f2,f3,f4,f5⟩⟩:=h;have hl:=al h0;exact⟨⟨mM hb h0,mM hb h1,mM hb h2,mM hb h3,mM hb h4,mM hb h5⟩,⟨kc hb f0 hl,kc hb f1 hl,kc hb f2 hl,kc hb f3 hl,kc hb f4 hl,kc hb f5 hl⟩⟩
theorem aX.set{w:World}{n:Nat}(h:aX w n)(p:Addr)(u:Value):aX (w.setCell p u) n:=by
 obtain⟨⟨h0,h1,h2,h3,h4,h5⟩,⟨f0,f1,f2,f3,f4,f5⟩⟩:=h;refine⟨⟨pt h0 p u,pt h1 p u,pt h2 p u,pt h3 p u,pt h4 p u,pt h5 p u⟩,?_⟩;simp only[aeq];exact⟨f0,f1,f2,f3,f4,f5⟩
theorem aX.drew{w:World}{n:Nat}(h:aX w n):aX w.drew n:=h
theorem aX.alloc{w:World}{n:Nat}(h:aX w n)(x:Obj):aX (w.alloc x) n:=h.later (aB w x)
theorem Is{w':World}(n:Nat)(a b:Rq)(h1:bg w' n a)(h2:bg w' (n+1) b)(h3:aX w' (n+2)):(w'.cell? ⟨n,0,none⟩=some (.bool a.wr)/\w'.cell? ⟨n,1,none⟩=some (i6 a.f)/\w'.cell? ⟨n,2,none⟩=some (i6 a.m)/\w'.cell? ⟨n,3,none⟩=some (.slice a.da a.data.length a.dc)/\w'.cell? ⟨n,4,none⟩=some (.slice a.ta a.tags.length a.tc)/\w'.cell? ⟨n,5,none⟩=some (i6 a.born))/\(w'.cell? ⟨n+1,0,none⟩=some (.bool b.wr)/\w'.cell? ⟨n+1,1,none⟩=some (i6 b.f)/\w'.cell? ⟨n+1,2,none⟩=some (i6 b.m)/\w'.cell? ⟨n+1,3,none⟩=some (.slice b.da b.data.length b.dc)/\w'.cell? ⟨n+1,4,none⟩=some (.slice b.ta b.tags.length b.tc)/\w'.cell? ⟨n+1,5,none⟩=some (i6 b.born))/\(w'.cell? ⟨n+2,0,none⟩=some (cZ w' ⟨n+2,0,none⟩)/\w'.cell? ⟨n+2,1,none⟩=some (cZ w' ⟨n+2,1,none⟩)/\w'.cell? ⟨n+2,2,none⟩=some (cZ w' ⟨n+2,2,none⟩)/\w'.cell? ⟨n+2,3,none⟩=some (cZ w' ⟨n+2,3,none⟩)/\w'.cell? ⟨n+2,4,none⟩=some (cZ w' ⟨n+2,4,none⟩)/\w'.cell? ⟨n+2,5,none⟩=some (cZ w' ⟨n+2,5,none⟩))/\(w'.frozen? ⟨n+2,0,none⟩=false/\w'.frozen? ⟨n+2,1,none⟩=false/\w'.frozen? ⟨n+2,2,none⟩=false/\w'.frozen? ⟨n+2,3,none⟩=false/\w'.frozen? ⟨n+2,4,none⟩=false/\w'.frozen? ⟨n+2,5,none⟩=false):=⟨h1,h2,h3⟩
theorem yA{w w1:World}{T:TypeId}(a b:Rq)(HB:Below (((w.alloc (.cells #[.bool a.wr,i6 a.f,i6 a.m,.slice a.da a.data.length a.dc,.slice a.ta a.tags.length a.tc,i6 a.born] T)).alloc (.cells #[.bool b.wr,i6 b.f,i6 b.m,.slice b.da b.data.length b.dc,.slice b.ta b.tags.length b.tc,i6 b.born] T)).alloc (.cells #[.bool false,i6 0,i6 0,.slice none 0 0,.slice none 0 0,i6 0] T)).heap.size (((w.alloc (.cells #[.bool a.wr,i6 a.f,i6 a.m,.slice a.da a.data.length a.dc,.slice a.ta a.tags.length a.tc,i6 a.born] T)).alloc (.cells #[.bool b.wr,i6 b.f,i6 b.m,.slice b.da b.data.length b.dc,.slice b.ta b.tags.length b.tc,i6 b.born] T)).alloc (.cells #[.bool false,i6 0,i6 0,.slice none 0 0,.slice none 0 0,i6 0] T)) w1) :
 bg w1 w.heap.size a/\bg w1 (w.heap.size+1) b/\aX w1 (w.heap.size+2)/\w.heap.size+3<=w1.heap.size:=by
 have hz:=HB.size;simp only[ab9] at hz;have c0:=fun o=>HB.cell (p:=⟨w.heap.size,o,none⟩) (by simp only[ab9];omega)
 have c1:=fun o=>HB.cell (p:=⟨w.heap.size+1,o,none⟩) (by simp only[ab9];omega)
 have c2:=fun o=>HB.cell (p:=⟨w.heap.size+2,o,none⟩) (by simp only[ab9];omega)
 have f2:=fun o=>HB.frozen (p:=⟨w.heap.size+2,o,none⟩) (by simp only[ab9];omega)
 refine⟨⟨?_,?_,?_,?_,?_,?_⟩,⟨?_,?_,?_,?_,?_,?_⟩,⟨⟨?_,?_,?_,?_,?_,?_⟩,⟨?_,?_,?_,?_,?_,?_⟩⟩,hz⟩
 rotate_right 12
 exact bG (v:=.bool false) (by rw[c2];simp[go_sem]);exact bG (v:=i6 0) (by rw[c2];simp[go_sem]);exact bG (v:=i6 0) (by rw[c2];simp[go_sem]);exact bG (v:=.slice none 0 0) (by rw[c2];simp[go_sem]);exact bG (v:=.slice none 0 0) (by rw[c2];simp[go_sem]);exact bG (v:=i6 0) (by rw[c2];simp[go_sem])
 all_goals first|rw[c0]|rw[c1]|rw[f2]
 all_goals first|(simp[go_sem];done)|simp[World.cell?,World.alloc,World.frozen?]
theorem FQ{w w1:World}{T:TypeId}(a b:Rq)(HB:Below (((w.alloc (.cells #[.bool a.wr,i6 a.f,i6 a.m,.slice a.da a.data.length a.dc,.slice a.ta a.tags.length a.tc,i6 a.born] T)).alloc (.cells #[.bool b.wr,i6 b.f,i6 b.m,.slice b.da b.data.length b.dc,.slice b.ta b.tags.length b.tc,i6 b.born] T)).alloc (.cells #[.bool false,i6 0,i6 0,.slice none 0 0,.slice none 0 0,i6 0] T)).heap.size (((w.alloc (.cells #[.bool a.wr,i6 a.f,i6 a.m,.slice a.da a.data.length a.dc,.slice a.ta a.tags.length a.tc,i6 a.born] T)).alloc (.cells #[.bool b.wr,i6 b.f,i6 b.m,.slice b.da b.data.length b.dc,.slice b.ta b.tags.length b.tc,i6 b.born] T)).alloc (.cells #[.bool false,i6 0,i6 0,.slice none 0 0,.slice none 0 0,i6 0] T)) w1) :
 aX w1 w.heap.size/\aX w1 (w.heap.size+1):=by
 obtain⟨⟨h0,h1,h2,h3,h4,h5⟩,⟨k0,k1,k2,k3,k4,k5⟩,_⟩:=yA a b HB;have f0:=fun o=>HB.frozen (p:=⟨w.heap.size,o,none⟩) (by simp only[ab9];omega)
 have f1:=fun o=>HB.frozen (p:=⟨w.heap.size+1,o,none⟩) (by simp only[ab9];omega)
 refine⟨⟨⟨bG h0,bG h1,bG h2,bG h3,bG h4,bG h5⟩,⟨?_,?_,?_,?_,?_,?_⟩⟩,⟨⟨bG k0,bG k1,bG k2,bG k3,bG k4,bG k5⟩,⟨?_,?_,?_,?_,?_,?_⟩⟩⟩
 all_goals first|rw[f0]|rw[f1]
 all_goals first|(simp[go_sem];done)|simp[World.frozen?,World.alloc]
theorem cy.set{w:World}{a:Option Addr}{xs:List ByteArray}(h:cy w a xs){c o:Nat}(hn:∀b o,a=some ⟨b,o,none⟩->b ≠ c)(u:Value):cy (w.setCell ⟨c,o,none⟩ u) a xs:=by
 rcases h with h|⟨b,o',ha,hc⟩
 ·exact il h
 ·exact ir ⟨b,o',ha,fun i hi=>(acL _ _ _ _ (fun e=>hn b o' ha (by injection e with e _;exact e.symm))).trans (hc i hi)⟩
theorem dZ.set{w:World}{a:Option Addr}{xs:List Int}(h:dZ w a xs){c o:Nat}(hn:∀b o,a=some ⟨b,o,none⟩->b ≠ c)(u:Value):dZ (w.setCell ⟨c,o,none⟩ u) a xs:=by
 rcases h with h|⟨b,o',ha,hc⟩
 ·exact il h
 ·exact ir ⟨b,o',ha,fun i hi=>(acL _ _ _ _ (fun e=>hn b o' ha (by injection e with e _;exact e.symm))).trans (hc i hi)⟩
def eD(w:World)(n:Nat)(v0 v1 v2 v3 v4 v5:Value):World:=(((((w.setCell ⟨n,0,none⟩ v0).setCell ⟨n,1,none⟩ v1).setCell ⟨n,2,none⟩ v2).setCell ⟨n,3,none⟩ v3).setCell ⟨n,4,none⟩ v4).setCell ⟨n,5,none⟩ v5
theorem fY{w:World}{n:Nat}(h:aX w n)(v0 v1 v2 v3 v4 v5:Value) :
 (eD w n v0 v1 v2 v3 v4 v5).cell? ⟨n,0,none⟩=some v0/\(eD w n v0 v1 v2 v3 v4 v5).cell? ⟨n,1,none⟩=some v1/\(eD w n v0 v1 v2 v3 v4 v5).cell? ⟨n,2,none⟩=some v2/\(eD w n v0 v1 v2 v3 v4 v5).cell? ⟨n,3,none⟩=some v3/\(eD w n v0 v1 v2 v3 v4 v5).cell? ⟨n,4,none⟩=some v4/\(eD w n v0 v1 v2 v3 v4 v5).cell? ⟨n,5,none⟩=some v5:=by
 have ne:∀i j:Nat,i ≠ j->∀(W:World) (u:Value),(W.setCell ⟨n,i,none⟩ u).cell? ⟨n,j,none⟩=W.cell? ⟨n,j,none⟩:=fun i j pL W u=>acL _ _ _ _ (fun e=>pL (by injection e))
 obtain⟨⟨h0,h1,h2,h3,h4,h5⟩,_⟩:=h;unfold eD;refine⟨?_,?_,?_,?_,?_,?_⟩
 ·rw[ne 5 0 dM,ne 4 0 dM,ne 3 0 dM,ne 2 0 dM,ne 1 0 dM];exact acm _ _ _ h0
 ·rw[ne 5 1 dM,ne 4 1 dM,ne 3 1 dM,ne 2 1 dM];exact acm _ _ _ ((ne 0 1 dM _ _).trans h1)
 ·rw[ne 5 2 dM,ne 4 2 dM,ne 3 2 dM];exact acm _ _ _ ((ne 1 2 dM _ _).trans ((ne 0 2 dM _ _).trans h2))
 ·rw[ne 5 3 dM,ne 4 3 dM];exact acm _ _ _ ((ne 2 3 dM _ _).trans ((ne 1 3 dM _ _).trans ((ne 0 3 dM _ _).trans h3)))
 ·rw[ne 5 4 dM];exact acm _ _ _ ((ne 3 4 dM _ _).trans ((ne 2 4 dM _ _).trans ((ne 1 4 dM _ _).trans ((ne 0 4 dM _ _).trans h4))))
 ·exact acm _ _ _ ((ne 4 5 dM _ _).trans ((ne 3 5 dM _ _).trans ((ne 2 5 dM _ _).trans ((ne 1 5 dM _ _).trans ((ne 0 5 dM _ _).trans h5)))))
theorem jf{w:World}{n:Nat}{a:Option Addr}{xs:List ByteArray}(h:cy w a xs)(hn:∀b o,a=some ⟨b,o,none⟩->b ≠ n)(v0 v1 v2 v3 v4 v5:Value):cy (eD w n v0 v1 v2 v3 v4 v5) a xs :=
 (((((h.set hn v0).set hn v1).set hn v2).set hn v3).set hn v4).set hn v5
theorem je{w:World}{n:Nat}{a:Option Addr}{xs:List Int}(h:dZ w a xs)(hn:∀b o,a=some ⟨b,o,none⟩->b ≠ n)(v0 v1 v2 v3 v4 v5:Value):dZ (eD w n v0 v1 v2 v3 v4 v5) a xs :=
 (((((h.set hn v0).set hn v1).set hn v2).set hn v3).set hn v4).set hn v5
theorem Vt{w:World}{n c:Nat}{q:Rq}(h:bg w n q)(hn:n ≠ c)(v0 v1 v2 v3 v4 v5:Value):bg (eD w c v0 v1 v2 v3 v4 v5) n q :=
 (((((h.set hn v0).set hn v1).set hn v2).set hn v3).set hn v4).set hn v5
theorem Dg{w:World}{n c:Nat}(h:aX w n)(v0 v1 v2 v3 v4 v5:Value):aX (eD w c v0 v1 v2 v3 v4 v5) n :=
 (((((h.set _ v0).set _ v1).set _ v2).set _ v3).set _ v4).set _ v5
theorem Dj{w0 w1:World}{n:Nat}(a b:Rq)(U1:aX w0 n)(U2:aX w0 (n+1))(T3:aX w0 (n+2))
 (hb:Below (eD (eD w0 n (.bool a.wr) (i6 a.f) (i6 a.m) (.slice a.da a.data.length a.dc) (.slice a.ta a.tags.length a.tc) (i6 a.born)) (n+1) (.bool b.wr) (i6 b.f) (i6 b.m) (.slice b.da b.data.length b.dc) (.slice b.ta b.tags.length b.tc) (i6 b.born)).heap.size (eD (eD w0 n (.bool a.wr) (i6 a.f) (i6 a.m) (.slice a.da a.data.length a.dc) (.slice a.ta a.tags.length a.tc) (i6 a.born)) (n+1) (.bool b.wr) (i6 b.f) (i6 b.m) (.slice b.da b.data.length b.dc) (.slice b.ta b.tags.length b.tc) (i6 b.born)) w1) :
 bg w1 n a/\bg w1 (n+1) b/\aX w1 (n+2):=by
 refine⟨bg.later (Vt ?_ oM _ _ _ _ _ _) hb,bg.later ?_ hb,aX.later (Dg (Dg T3 _ _ _ _ _ _) _ _ _ _ _ _) hb⟩
 ·exact fY U1 _ _ _ _ _ _
 ·exact fY (Dg U2 _ _ _ _ _ _) _ _ _ _ _ _
theorem bu.d4{r:Rq}(h:bu r):r.data.length<=4:=by
 have h1:=h.shape;have h2:=h.lH;unfold kD at h1
 split at h1
 ·simp only[aco] at h1;omega
 ·simp only[aco] at h1;omega
theorem sX{w:World}{b:Nat}{q:Rq}(h:bg w b q:=by with_reducible repeat first|assumption|refine bg.drew ?_|refine bg.alloc ?_ _|refine bg.later ?_ aM|refine bg.set ?_ oM _):bg w b q:=h
theorem zX{w:World}{n:Nat}(h:aX w n:=by with_reducible repeat first|assumption|refine aX.drew ?_|refine aX.alloc ?_ _|refine aX.later ?_ aM|refine aX.set ?_ _ _):aX w n:=h
end Go.Proofs.YtlhgjplipgandaaGreatDoor
