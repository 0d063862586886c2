/- Joined. -/
import Derived.Test.YtlhgjplipgandaaGreatDoorF24
set_option maxRecDepth 100000
set_option maxHeartbeats 8000000
set_option linter.unusedSimpArgs false
set_option linter.unusedSectionVars false
namespace Go.Proofs.YtlhgjplipgandaaGreatDoor
open Tryz
section
open Go.RowKit
theorem GU(r:Rq):bz r.nf↔bz r:=⟨fun g=>⟨g.ok,g.shape,g.t1,g.t4,g.b0,g.b1,g.small⟩,fun g=>⟨g.ok,g.shape,g.t1,g.t4,g.b0,g.b1,g.small⟩⟩
theorem xu(p:Sk):p.nf.queue++p.nf.dev.busy=(p.queue++p.dev.busy).map Rq.nf:=(aca).symm
theorem bg.nf{p:Sk}(h:bg p):bg p.nf where
 fV:=h.fV
 oE:=h.oE
 hand:=h.hand
 d6:=h.d6
 bO:=fun r hr=>by
  rw[xu] at hr;obtain⟨x,hx,rfl⟩:=acM.1 hr;exact(GU x).2 (h.bO x hx)
 apart:=by rw[xu,agL];exact h.apart
 q6:=by show(p.queue.map Rq.nf).length<=6;rw[abe];exact h.q6
 b2:=by show(p.dev.busy.map Rq.nf).length<=2;rw[abe];exact h.b2
 kr:=h.kr
 tg:=h.tg
 us:=h.us
 pz:=fun r hr=>by
  rw[xu] at hr;obtain⟨x,hx,rfl⟩:=acM.1 hr;exact h.pz x hx
 dv:=h.dv
 fY:=h.fY
 ts:=h.ts
 fr:=h.fr
theorem bg.cD{p:Sk}(h:bg p.nf):bg p where
 fV:=h.fV
 oE:=h.oE
 hand:=h.hand
 d6:=h.d6
 bO:=fun r hr=>(GU r).1 (h.bO r.nf (by rw[xu];exact acM.2 ⟨r,hr,rfl⟩))
 apart:=by have:=h.apart;rw[xu,agL] at this;exact this
 q6:=by have:=h.q6;rw[show p.nf.queue.length=p.queue.length from abe _] at this;exact this
 b2:=by have:=h.b2;rw[show p.nf.dev.busy.length=p.dev.busy.length from abe _] at this;exact this
 kr:=h.kr
 tg:=h.tg
 us:=h.us
 pz:=fun r hr=>h.pz r.nf (by rw[xu];exact acM.2 ⟨r,hr,rfl⟩)
 dv:=h.dv
 fY:=h.fY
 ts:=h.ts
 fr:=h.fr
theorem dE.flush{d:Dl}(h:dE d):dE d.flush:=⟨h.1,h.1,fun x hx=>by cases hx⟩
theorem dE.busy{d:Dl}(h:dE d)(l:List Rq):dE { d with busy:=l }:=h
theorem dE.write{d:Dl}(h:dE d)(k:Nat)(s:ByteArray)(hs:s.size<=4):dE (d.write k s):=by
 refine⟨fun x hx=>?_,h.2.1,fun x hx=>?_⟩
 ·rcases acb hx with h'|rfl
  ·exact h.1 x h'
  ·exact hs
 ·rcases abh.1 hx with h'|h'
  ·exact h.2.2 x (af8.1 h').1
  ·rw[abq.1 h'];exact hs
theorem dE.cL{d:Dl}(h:dE d)(r:Rq)(hr:∀s∈r.data,s.size<=4):∀n,dE (d.cL r n)
 |0=>h
 |n+1=>by rw[Dl.fJ];exact(h.cL r hr n).write _ _ (Ap hr n)
theorem PZ{r:Rq}(g:bz r):∀s∈r.data,s.size<=4:=by
 have:=g.small;simp only[oR,agp,aba] at this;exact this
theorem dE.cr{d:Dl}(h:dE d)(r:Rq)(g:bz r):dE (d.cr r):=by
 unfold Dl.cr
 split
 ·exact h.cL r (PZ g) _
 ·exact h
theorem V4:dE d0:=⟨fun s hs=>by rw[(List.mem_replicate.1 hs).2,oz];omega,fun s hs=>by rw[(List.mem_replicate.1 hs).2,oz];omega,fun x hx=>by cases hx⟩
structure ji(n:Nat)(p p':Sk):Prop where
 dev:p'.dev=p.dev\/p'.dev=p.dev.flush
 tags:p'.tags<=p.tags+n
 az:p'.az<=p.az+n
 dead:p'.dead=p.dead
 f:p'.f=p.f
 kr:p'.bI=p.bI
 dQ:p'.dQ=p.dQ
 ag:p'.ag=p.ag
theorem ji.refl(n:Nat)(p:Sk):ji n p p:=⟨il rfl,oM,oM,rfl,rfl,rfl,rfl,rfl⟩
theorem ji.trans{n m:Nat}{p p' p2:Sk}(h:ji n p p')(k:ji m p' p2):ji (n+m) p p2:=by
 refine⟨?_,?_,?_,k.dead.trans h.dead,k.f.trans h.f,k.kr.trans h.kr,k.dQ.trans h.dQ,k.ag.trans h.ag⟩
 ·rcases h.dev with h1|h1<;>rcases k.dev with k1|k1
  ·exact il (k1.trans h1)
  ·exact ir (by rw[k1,h1])
  ·exact ir (k1.trans h1)
  ·exact ir (by rw[k1,h1];rfl)
 ·have:=h.tags;have:=k.tags;omega
 ·have:=h.az;have:=k.az;omega
theorem I0(p:Sk)(pl:Int)(wr:Bool)(data:List ByteArray):ji 1 p (p.gI pl wr data).2:=by
 rcases vz (p:=p) pl wr data with⟨_,e⟩|⟨L,_,e⟩
 ·rw[e];exact ji.refl 1 p
 ·rw[e];exact⟨il rfl,by show p.tags+1<=p.tags+1;omega,by show p.az<=p.az+1;omega,rfl,rfl,rfl,rfl,rfl⟩
theorem G4(p:Sk)(i:Nat):ji 1 p (p.gd i):=by
 unfold Sk.gd
 cases fa p.hand (p.ao i).pl with
 |some b=>exact⟨il rfl,by show p.tags<=p.tags+1;omega,by show p.az+1<=p.az+1;omega,rfl,rfl,rfl,rfl,rfl⟩
 |none =>
  simp only
  split
  ·exact ji.refl 1 p
  ·exact I0 p _ _ _
theorem FX(p:Sk)(i:Nat):ji 1 p (p.dH i):=by
 unfold Sk.dH
 split
 ·exact⟨il rfl,by show p.tags<=p.tags+1;omega,by show p.az<=p.az+1;omega,rfl,rfl,rfl,rfl,rfl⟩
 split
 ·exact ji.refl 1 p
 ·split
  ·exact⟨il rfl,by show p.tags<=p.tags+1;omega,by show p.az+1<=p.az+1;omega,rfl,rfl,rfl,rfl,rfl⟩
  ·exact⟨il rfl,by show p.tags<=p.tags+1;omega,by show p.az+1<=p.az+1;omega,rfl,rfl,rfl,rfl,rfl⟩
theorem G5(p:Sk)(i:Nat):ji 1 p (p.eQ i):=by
 unfold Sk.eQ
 split
 ·exact⟨il rfl,by show p.tags<=p.tags+1;omega,by show p.az<=p.az+1;omega,rfl,rfl,rfl,rfl,rfl⟩
 split
 ·exact⟨ir rfl,by show p.tags<=p.tags+1;omega,by show p.az<=p.az+1;omega,rfl,rfl,rfl,rfl,rfl⟩
 ·exact⟨il rfl,by show p.tags<=p.tags+1;omega,by show p.az<=p.az+1;omega,rfl,rfl,rfl,rfl,rfl⟩
theorem lH(p:Sk)(i:Nat):ji 1 p (p.aY i):=by
 unfold Sk.aY
 split
 ·exact G4 p i
 split
 ·exact FX p i
 split
 ·exact G5 p i
 ·exact ji.refl 1 p
theorem th(p:Sk):ji 3 p p.serve:=((lH p 0).trans (lH _ 1)).trans (lH _ 2)
theorem LM(p:Sk)(pl:Int)(s:ByteArray):ji 1 p (p.dJ pl s):=by
 unfold Sk.dJ
 split
 ·exact ji.refl 1 p
 ·split
  ·exact⟨il rfl,by show p.tags<=p.tags+1;omega,by show p.az+1<=p.az+1;omega,rfl,rfl,rfl,rfl,rfl⟩
  ·exact⟨il rfl,by show p.tags<=p.tags+1;omega,by show p.az<=p.az+1;omega,rfl,rfl,rfl,rfl,rfl⟩
theorem LN(p:Sk)(r:Rq)(xs:List ByteArray)(j:Nat):ji 1 p (p.en r xs j):=by
 unfold Sk.en
 split
 ·exact⟨il rfl,by show p.tags<=p.tags+1;omega,by show p.az<=p.az+1;omega,rfl,rfl,rfl,rfl,rfl⟩
 ·exact LM p _ _
theorem oZ(p:Sk)(r:Rq)(xs:List ByteArray):∀n,ji n p (p.cT r xs n)
 |0=>ji.refl 0 p
 |n+1=>by rw[iZ];exact(oZ p r xs n).trans (LN _ r xs n)
structure eT(n:Nat)(p:Sk):Prop where
 inv:bg p
 short:dE p.dev
 tags:p.tags<=n
 az:p.az<=n
 ag:p.ag<=n
theorem eT.mono{n m:Nat}{p:Sk}(h:eT n p)(hm:n<=m):eT m p:=⟨h.inv,h.short,by have:=h.tags;omega,by have:=h.az;omega,by have:=h.ag;omega⟩
theorem eT.nf{n:Nat}{p:Sk}(h:eT n p):eT n p.nf:=⟨h.inv.nf,h.short,h.tags,h.az,h.ag⟩
theorem eT.cD{n:Nat}{p:Sk}(h:eT n p.nf):eT n p:=⟨h.inv.cD,h.short,h.tags,h.az,h.ag⟩
theorem eT.LL{n m:Nat}{p p':Sk}(h:eT n p)(hi:bg p')(k:ji m p p'):eT (n+m) p':=by
 refine⟨hi,?_,by have:=h.tags;have:=k.tags;omega,by have:=h.az;have:=k.az;omega,by have:=h.ag;have:=k.ag;omega⟩
 rcases k.dev with e|e
 ·rw[e];exact h.short
 ·rw[e];exact h.short.flush
theorem eT.ask{n:Nat}{p:Sk}(h:eT n p)(c kind pl:Int)(data:ByteArray):eT (n+3) (p.ask c kind pl data).2:=by
 refine h.LL (h.inv.ask c kind pl data) ?_;unfold Sk.ask
 split
 ·exact ji.refl 3 p
 split
 ·exact ji.refl 3 p
 ·have:=th (p.asks c.toNat kind pl data);exact⟨this.dev,this.tags,this.az,this.dead,this.f,this.kr,this.dQ,this.ag⟩
theorem eT.tick{n:Nat}{p:Sk}(h:eT n p):eT (n+3) p.tick:=by
 have k:=th ({ p with bI:=if p.bI+1<1000000000 then p.bI+1 else 1000000000 }:Sk);refine⟨h.inv.tick,?_,by have:=h.tags;have:=k.tags;show _<=_;exact Int.le_trans k.tags (by show p.tags+_<=_;omega),Int.le_trans k.az (by have:=h.az;show p.az+_<=_;omega),by have h1:=h.ag;have h2:(Sk.serve _).ag=p.ag:=k.ag;show(Sk.serve _).ag<=_;rw[h2];omega⟩
 rcases k.dev with e|e
 ·show dE (Sk.serve _).dev;rw[e];exact h.short
 ·show dE (Sk.serve _).dev;rw[e];exact h.short.flush
theorem eT.clean{n:Nat}{p:Sk}(h:eT n p):eT (n+1) p.clean.2:=by
 refine h.LL h.inv.clean ?_;unfold Sk.clean
 split
 ·exact ji.refl 1 p
 split
 ·exact ji.refl 1 p
 ·exact I0 p _ _ _
theorem eT.bf{n:Nat}{p:Sk}(h:eT n p):eT n p.bf.2:=by
 rcases lJ h.inv with⟨_,e⟩|⟨i,hi,T,_,hb,_,hT,e⟩
 ·rw[e];exact h
 ·rw[e];exact⟨h.inv.Zd i hi T hT hb,h.short,h.tags,h.az,h.ag⟩
theorem eT.bP(m:Nat):∀{n:Nat} {p:Sk},eT n p->eT n (p.bP m):=by
 induction m with
 |zero=>intro n p h;exact h
 |succ m ih =>
  intro n p h;unfold Sk.bP
  split
  ·exact ih h.bf
  ·exact h
theorem eT.cz{n:Nat}{p:Sk}(h:eT n p)(i:Int)(fault:Bool):eT (n+7) (p.cz i fault).2:=by
 have hI:=h.inv.cz h.short i fault
 rcases xW p i fault with⟨_,e⟩|⟨k,hk,_,⟨_,e⟩|⟨_,hf,e⟩|⟨_,_,_,e⟩|⟨_,_,_,e⟩⟩
 ·rw[e];exact h.mono oM
 ·rw[e] at hI ⊢;have gr:=h.inv.bO _ (aa8 _ (aa5 hk));have h0:eT n ((p.bD k).cr p.dev.busy[k]):=⟨(h.inv.bD k).cr _,(dE.busy h.short _).cr _ gr,h.tags,h.az,h.ag⟩
  have:=gr.uG;have k:=(oZ ((p.bD k).cr p.dev.busy[k]) p.dev.busy[k] (cW p.dev p.dev.busy[k]) p.dev.busy[k].m.toNat).trans (th _);exact(h0.LL hI k).mono oM
 ·rw[e] at hI ⊢;exact⟨hI,h.short,by have:=h.tags;show p.tags<=_;omega,by have:=h.az;show p.az<=_;omega,by have:=h.ag;show p.ag+1<=_;omega⟩
 ·rw[e] at hI ⊢;have h0:eT n ({ (p.bD k).lost p.dev.busy[k] with dead:=true }:Sk):=⟨(h.inv.bD k).lost _ _,h.short,h.tags,h.az,h.ag⟩
  exact(h0.LL hI (th _)).mono oM
 ·rw[e] at hI ⊢;have h0:eT n (((p.bD k).lost p.dev.busy[k]).cO (fun x=>dO p.dev.busy[k].f p.dev.busy[k].m x) bE 8):=⟨((h.inv.bD k).CY _).cO _ _ _,h.short,h.tags,h.az,h.ag⟩
  exact(h0.LL hI (th _)).mono oM
theorem eT.round{n:Nat}{p:Sk}(h:eT n p):eT (n+11) p.round:=((h.tick.clean.bP 3).cz 0 false).mono oM
theorem eT.settle(m:Nat):∀{n:Nat} {p:Sk},eT n p->eT (n+11*m) (p.settle m).2:=by
 induction m with
 |zero=>intro n p h;exact h
 |succ m ih =>
  intro n p h;unfold Sk.settle
  split
  ·exact h.mono oM
  ·exact(ih h.round).mono oM
theorem Hq:eT 0 oQ:=by
 refine⟨⟨rfl,fun c hc=>?_,⟨List.Pairwise.nil,ach _,(fun x hx=>by cases hx)⟩,ach _,(fun r hr=>by cases hr),List.Pairwise.nil,ach _,ach _,⟨afw 0,by show(0:Int)<=1000000000;omega⟩,afw 0,afw 0,(fun r hr=>by cases hr),rfl,rfl,⟨afw 0,by show(0:Int)<=2;omega⟩,fun t=>⟨afw 0,by show(0:Int)<=2;omega⟩⟩,V4,afw 0,afw 0,aaO 0⟩;have:c=zn:=by simpa [oQ] using hc
 rw[this];exact Sf
theorem Sj(p:Sk)(hl:p.cl.length=3){i j:Nat}(hi:i<3)(c:Cl):({ p with cl:=p.cl.set i c }:Sk).ao j=if j=i then c else p.ao j:=by
 unfold Sk.ao
 by_cases h:j=i
 ·subst h;rw[aaV rfl]
  simp[List.getD,hl,hi]
 ·rw[aaP h]
  simp[List.getD,Ne.symm h]
theorem ny(p:Sk){i j:Nat}(h:j ≠ i)(c:Cl):({ p with cl:=p.cl.set i c }:Sk).ao j=p.ao j:=by
 unfold Sk.ao
 simp[List.getD,Ne.symm h]
theorem CL(p:Sk)(pl:Int)(wr:Bool)(data:List ByteArray):(p.gI pl wr data).2.cl=p.cl:=by
 rcases vz (p:=p) pl wr data with⟨_,e⟩|⟨L,_,e⟩<;>rw[e]
theorem UY(p:Sk)(i:Nat):(p.aY i).cl=p.cl\/∃c,(p.aY i).cl=p.cl.set i c:=by
 unfold Sk.aY
 split
 ·unfold Sk.gd
  split
  ·exact ir ⟨_,rfl⟩
  ·split
   ·exact il rfl
   ·exact il (CL p _ _ _)
 split
 ·unfold Sk.dH
  split
  ·exact ir ⟨_,rfl⟩
  split
  ·exact il rfl
  split
  ·exact ir ⟨_,rfl⟩
  ·exact il rfl
 split
 ·unfold Sk.eQ
  split
  ·exact ir ⟨_,rfl⟩
  split
  ·exact ir ⟨_,rfl⟩
  ·exact ir ⟨_,rfl⟩
 ·exact il rfl
theorem Sl{p q:Sk}(h:p.cl=q.cl)(j:Nat):p.ao j=q.ao j:=by unfold Sk.ao;rw[h]
theorem nF(p:Sk){i j:Nat}(h:j ≠ i):(p.aY i).ao j=p.ao j:=by
 rcases UY p i with e|⟨c,e⟩
 ·exact Sl e j
 ·unfold Sk.ao;rw[e]
  simp[List.getD,Ne.symm h]
theorem ads(p:Sk){i:Nat}(hi:i<3):∃q:Sk,q.ao i=p.ao i/\ji 2 p q/\(bg p->bg q)/\p.serve.ao i=(q.aY i).ao i:=by
 match i,hi with
 |0,_ =>
  refine⟨p,rfl,ji.refl 2 p,id,?_⟩;show(((p.aY 0).aY 1).aY 2).ao 0=_;rw[nF _ oM,nF _ oM]
 |1,_ =>
  refine⟨p.aY 0,nF p oM,(lH p 0).trans (ji.refl 1 _),fun h=>h.aY 0,?_⟩;show(((p.aY 0).aY 1).aY 2).ao 1=_;rw[nF _ oM]
 |2,_ =>
  refine⟨(p.aY 0).aY 1,?_,(lH p 0).trans (lH _ 1),fun h=>(h.aY 0).aY 1,rfl⟩;rw[nF _ oM,nF _ oM]
theorem Cy(p:Sk)(i:Nat)(hi:i<3):p.waits (i:Int)=true↔¬(p.ao i).kind=0:=by
 unfold Sk.waits;rw[aa1 (show(0:Int)<=i/\(i:Int)<3 from oM),adA,abG]
 simp
theorem AS(p:Sk)(i:Nat)(hi:i<3):p.waits (i:Int)=false↔(p.ao i).kind=0:=by
 have:=Cy p i hi
 cases h:p.waits (i:Int)
 ·rw[h] at this
  simp at this
  simp[this]
 ·rw[h] at this
  simp at this
  simp[this]
theorem Uv(p:Sk):p.quiet=true↔(∀i,i<3->(p.ao i).kind=0)/\p.queue=[]/\p.dev.busy=[]:=by
 have h0:p.waits 0=false↔(p.ao 0).kind=0:=AS p 0 oM;have h1:p.waits 1=false↔(p.ao 1).kind=0:=AS p 1 oM;have h2:p.waits 2=false↔(p.ao 2).kind=0:=AS p 2 oM;unfold Sk.quiet;simp only[abW,afY,agR];rw[h0,h1,h2]
 constructor
 ·rintro⟨⟨a,b,c⟩,d⟩;refine⟨fun i hi=>?_,d⟩
  match i,hi with
  |0,_=>exact a
  |1,_=>exact b
  |2,_=>exact c
 ·rintro⟨a,d⟩;exact⟨⟨a 0 oM,a 1 oM,a 2 oM⟩,d⟩
theorem Qs{p:Sk}(hl:p.cl.length=3){c:Cl}(hc:c∈p.cl):∃i,i<3/\p.ao i=c:=by
 obtain⟨i,hi,rfl⟩:=abM hc;exact⟨i,oM,by unfold Sk.ao;rw[abd,aaX hi,acO]⟩
theorem PN{p:Sk}(hl:p.cl.length=3){i:Nat}(hi:i<3):p.ao i∈p.cl:=by
 unfold Sk.ao;rw[abd,aaX oM,acO];exact aa5 _
end
section
open Go.RowKit Go.BigFrame Go.Maps
def Sk.sf(p:Sk):Nat->Sk
 |0=>p
 |k+1=>(p.sf k).aY k
theorem DZ{p:Sk}(h:bg p):∀k,bg (p.sf k)
 |0=>h
 |k+1=>(DZ h k).aY k
theorem Cq(p:Sk):∀k,ji k p (p.sf k)
 |0=>ji.refl 0 p
 |k+1=>(Cq p k).trans (lH _ k)
def PD(s:Nat)(p:Sk)(A:Sa)(w wr:World)(q:Sk):Prop:=∃p' A',bK s p A p' A' w wr/\p'.nf=q
theorem fL.trans{s:Nat}{p p':Sk}{A A':Sa}{w w1 w2:World}{q:Sk}(h:bK s p A p' A' w w1)(k:fL s p' A' w1 w2 q):fL s p A w w2 q:=by
 obtain⟨p2,A2,h2,e⟩:=k;exact⟨p2,A2,h.trans h2,e⟩
theorem Rf(s:Nat)(p:Sk)(A:Sa)(w:World)(h:bp s p A w)(hI:bg p)(hT:p.tags<=4000000000000000000)(hU:p.az<=4000000000000000000)(i:Nat)(hi:i<3) :
 ((p.ao i).kind=1->Calls prog 116 #[.pointer (some ⟨s,0,none⟩),.pointer (some ⟨s,2+i*6,none⟩)] w fun e w'=>e=.returned (.tuple #[])/\fL s p A w w' (p.nf.aY i)) /\
 ((p.ao i).kind=2->Calls prog 117 #[.pointer (some ⟨s,0,none⟩),.pointer (some ⟨s,2+i*6,none⟩)] w fun e w'=>e=.returned (.tuple #[])/\fL s p A w w' (p.nf.aY i)) /\
 ((p.ao i).kind=3->Calls prog 118 #[.pointer (some ⟨s,0,none⟩),.pointer (some ⟨s,2+i*6,none⟩)] w fun e w'=>e=.returned (.tuple #[])/\fL s p A w w' (p.nf.aY i)) /\
 ((p.ao i).kind=0->p.nf.aY i=p.nf):=by
 have ek:(p.nf.ao i).kind=(p.ao i).kind:=rfl;refine⟨fun hk=>?_,fun hk=>?_,fun hk=>?_,fun hk=>?_⟩
 ·refine JL s p A w h hI hT hU i hi (by rw[hk];omega) _ ?_;unfold Sk.aY;rw[ek,hk,aaV rfl]
 ·refine Hn s p A w h hI hU i hi _ ?_;unfold Sk.aY;rw[ek,hk,aaP oM,aaV rfl]
 ·refine JN s p A w h hI.fV i hi _ ?_;unfold Sk.aY;rw[ek,hk,aaP oM,aaP oM,aaV rfl]
 ·unfold Sk.aY;rw[ek,hk,aaP oM,aaP oM,aaP oM]
theorem p6(s:Nat)(p:Sk)(A:Sa)(w:World)(h:bp s p A w)(hI:bg p)(hT:p.tags<=3999999999999999990)(hU:p.az<=3999999999999999990)(q:Sk)(hq:p.nf.serve=q) :
 Calls prog 75 #[.pointer (some ⟨s,0,none⟩)] w fun e w'=>e=.returned (.tuple #[])/\fL s p A w w' q:=by
 have HQ:=ae hq;have aL:=ae h;have HI:=ae hI;have HT:=ae (And.intro hT hU);clear h hI hT hU hq;go_enter func75,ntmps75;go_wp2
 go_loopw[4] (fun i wr=>∃k:Nat,k<=3/\i=i6 k/\PD s p A w wr (p.nf.sf k)) (fun i _=>3-(intOf i).toNat)
 case atStart=>exact⟨0,oM,rfl,p,A,bK.cX aL.out (aX _ _),rfl⟩
 case round =>
  obtain⟨k,hk,rfl,p',A',hs,hn⟩:=hrel;have HS:=ae hs;have HN:=ae hn
  by_cases au:k<3
  ·have gC:(k:Int)<3:=oM;have EN:Hid (bg p'):=by
    have:=DZ HI.out.nf k;rw[<-hn] at this;exact this.cD
   have hM:=Cq p.nf k;rw[<-hn] at hM;have HB:Hid (p'.tags<=4000000000000000000/\p'.az<=4000000000000000000):=by
    have h1:p'.tags<=p.tags+k:=hM.tags;have h2:p'.az<=p.az+k:=hM.az;have:=HT.out;exact⟨oM,oM⟩
   have HC:=ae (Rf s p' A' wr hs.at' EN.out HB.out.1 HB.out.2 k au);have gF:=(EN.out.ao k).kind;have c0:=(hs.at'.ao k au).1;have hl:=hs.at'.lt;clear hs hn hM EN HB;obtain⟨kd,WE⟩:∃kd,(p'.ao k).kind=kd:=⟨_,rfl⟩
   rw[WE] at gF c0;have HK:=ae WE;clear WE;have h4:kd=0\/kd=1\/kd=2\/kd=3:=oM;clear gF
   rcases h4 with rfl|rfl|rfl|rfl
   ·go_wp2;go_roundw
    case rel=>exact⟨k+1,oM,gN,p',A',HS.out,by rw[Sk.sf,<-HN.out];exact(HC.out.2.2.2 HK.out).symm⟩
    case measure=>simp[intOf];omega
   ·go_wp2_with fail;refine cM (HC.out.1 HK.out) ?_;intro w1 hok;have HO:=ae (fL.trans HS.out hok);clear hok;go_wp2;go_roundw
    case rel=>exact⟨k+1,oM,gN,by rw[Sk.sf,<-HN.out];exact HO.out⟩
    case measure=>simp[intOf];omega
   ·go_wp2_with fail;refine cM (HC.out.2.1 HK.out) ?_;intro w1 hok;have HO:=ae (fL.trans HS.out hok);clear hok;go_wp2;go_roundw
    case rel=>exact⟨k+1,oM,gN,by rw[Sk.sf,<-HN.out];exact HO.out⟩
    case measure=>simp[intOf];omega
   ·go_wp2_with fail;refine cM (HC.out.2.2.1 HK.out) ?_;intro w1 hok;have HO:=ae (fL.trans HS.out hok);clear hok;go_wp2;go_roundw
    case rel=>exact⟨k+1,oM,gN,by rw[Sk.sf,<-HN.out];exact HO.out⟩
    case measure=>simp[intOf];omega
  ·obtain rfl:k=3:=oM;clear hs hn;go_wp2;go_end0;exact⟨rfl,p',A',HS.out,HN.out.trans HQ.out⟩
theorem aaF{s:ByteArray}(l:List UInt8)(h:¬s=⟨l.toArray⟩):(s.toList==l)=false:=by
 rw[aaU];intro e;apply h;rw[afm] at e
 cases s
 simp only at e;rw[<-e]
theorem Jx{s:ByteArray}(h:s.size=0):s=⟨#[]⟩:=by
 cases s with
 |mk a=>simp only[ByteArray.size] at h;congr 1;exact Array.eq_empty_of_size_eq_zero h
theorem aaD{s:ByteArray}(h:¬s.size=0):(s.toList==[])=false:=aaF [] (fun e=>h (by rw[e];rfl))
theorem vP(c kind pl:Int)(data:ByteArray)(w:World)(t:Int)(ht:dy c kind pl data=t) :
 Calls prog 73 #[i6 c,i6 kind,i6 pl,.string data] w fun e w'=>e=.returned (dm t)/\w'=w:=by
 by_cases hc:0<=c/\c<3
 case neg =>
  obtain rfl:3=t:=by rw[<-ht];unfold dy;rw[aaV (il hc)]
  have HC:=ae hc;clear hc ht;go_enter func73,ntmps73;go_wp2_with fail;refine cM (ee _ _ false (aa9 HC.out)) ?_;intro w1 rfl;go_wp2;go_ret;exact⟨rfl,rfl⟩
 have HC:=ae hc
 by_cases hk:kind=1\/kind=2\/kind=3
 case neg =>
  obtain rfl:3=t:=by rw[<-ht];unfold dy;rw[aaV (ir oM)]
  have k1:¬kind=1:=fun e=>hk (il e)
  have k2:¬kind=2:=fun e=>hk (ir (il e))
  have k3:¬kind=3:=fun e=>hk (ir (ir e))
  have k4:(kind != 1)=true:=afg.2 k1;have k5:(kind != 2)=true:=afg.2 k2;have k6:(kind != 3)=true:=afg.2 k3;clear hc ht hk;go_enter func73,ntmps73;go_wp2_with fail;refine cM (ee _ _ true (aa1 HC.out)) ?_;intro w1 rfl;go_wp2;go_ret;exact⟨rfl,rfl⟩
 by_cases p0:pl<0
 case pos =>
  obtain rfl:1=t:=by rw[<-ht];unfold dy;(repeat' split)<;>omega
  clear hc ht
  rcases hk with rfl|rfl|rfl
  all_goals
   go_enter func73,ntmps73;go_wp2_with fail;refine cM (ee _ _ true (aa1 HC.out)) ?_;intro w1 rfl;go_wp2;go_ret;exact⟨rfl,rfl⟩
 by_cases p1:32<=pl
 case pos =>
  obtain rfl:1=t:=by rw[<-ht];unfold dy;(repeat' split)<;>omega
  clear hc ht
  rcases hk with rfl|rfl|rfl
  all_goals
   go_enter func73,ntmps73;go_wp2_with fail;refine cM (ee _ _ true (aa1 HC.out)) ?_;intro w1 rfl;go_wp2;go_ret;exact⟨rfl,rfl⟩
 by_cases p2:kind=3/\¬pl=0
 case pos =>
  obtain rfl:1=t:=by rw[<-ht];unfold dy;(repeat' split)<;>omega
  obtain⟨rfl,p3⟩:=p2;have p4:(pl != 0)=true:=afg.2 p3;clear hc ht hk;go_enter func73,ntmps73;go_wp2_with fail;refine cM (ee _ _ true (aa1 HC.out)) ?_;intro w1 rfl;go_wp2;go_ret;exact⟨rfl,rfl⟩
 by_cases z4:4<data.size
 case pos =>
  obtain rfl:1=t:=by rw[<-ht];unfold dy;(repeat' split)<;>omega
  have z4':(4:Int)<(data.size:Int):=oM;clear hc ht
  rcases hk with rfl|rfl|rfl
  ·go_enter func73,ntmps73;go_wp2_with fail;refine cM (ee _ _ true (aa1 HC.out)) ?_;intro w1 rfl;go_wp2;go_ret;exact⟨rfl,rfl⟩
  ·go_enter func73,ntmps73;go_wp2_with fail;refine cM (ee _ _ true (aa1 HC.out)) ?_;intro w1 rfl;go_wp2;go_ret;exact⟨rfl,rfl⟩
  ·obtain rfl:pl=0:=oM;go_enter func73,ntmps73;go_wp2_with fail;refine cM (ee _ _ true (aa1 HC.out)) ?_;intro w1 rfl;go_wp2;go_ret;exact⟨rfl,rfl⟩
 have z4':¬(4:Int)<(data.size:Int):=oM
 by_cases z0:data.size=0
 case pos =>
  obtain rfl:0=t:=by rw[<-ht];unfold dy;(repeat' split)<;>omega
  obtain rfl:=Jx z0;clear hc ht z0 z4 z4'
  rcases hk with rfl|rfl|rfl
  ·go_enter func73,ntmps73;go_wp2_with fail;refine cM (ee _ _ true (aa1 HC.out)) ?_;intro w1 rfl;go_wp2;go_ret;exact⟨rfl,rfl⟩
  ·go_enter func73,ntmps73;go_wp2_with fail;refine cM (ee _ _ true (aa1 HC.out)) ?_;intro w1 rfl;go_wp2;go_ret;exact⟨rfl,rfl⟩
  ·obtain rfl:pl=0:=oM;go_enter func73,ntmps73;go_wp2_with fail;refine cM (ee _ _ true (aa1 HC.out)) ?_;intro w1 rfl;go_wp2;go_ret;exact⟨rfl,rfl⟩
 have z1:=aaD z0;have z2:data.toList.isEmpty=false:=by cases h:data.toList with|nil=>rw[h] at z1;cases z1|cons _ _=>rfl
 rcases hk with rfl|rfl|rfl
 ·obtain rfl:1=t:=by rw[<-ht];unfold dy;(repeat' split)<;>omega
  clear hc ht z0;go_enter func73,ntmps73;go_wp2_with fail;refine cM (ee _ _ true (aa1 HC.out)) ?_;intro w1 rfl;go_wp2;go_ret;exact⟨rfl,rfl⟩
 ·obtain rfl:0=t:=by rw[<-ht];unfold dy;(repeat' split)<;>omega
  clear hc ht z0;go_enter func73,ntmps73;go_wp2_with fail;refine cM (ee _ _ true (aa1 HC.out)) ?_;intro w1 rfl;go_wp2;go_ret;exact⟨rfl,rfl⟩
 ·obtain rfl:1=t:=by rw[<-ht];unfold dy;(repeat' split)<;>omega
  obtain rfl:pl=0:=oM;clear hc ht z0;go_enter func73,ntmps73;go_wp2_with fail;refine cM (ee _ _ true (aa1 HC.out)) ?_;intro w1 rfl;go_wp2;go_ret;exact⟨rfl,rfl⟩
def Sk.kt(p:Sk)(i:Nat)(kind pl:Int)(data:ByteArray):Sk:={ p with cl:=p.cl.set i { p.ao i with kind:=kind,pl:=pl,data:=data } }
section
variable{s:Nat}{p:Sk}{A:Sa}{w w':World}
theorem dk.kt(h:dk s p A w)(hl:p.cl.length=3){i:Nat}(hi:i<3)(kind pl:Int)(data:ByteArray):dk s (p.kt i kind pl data) A w where
 cE:=h.cE
 map:=h.map
 im:=h.im
 nb:=h.nb
 hand:=h.hand
 cU:=h.cU
 bS:=h.bS
 queue:=h.queue
 fe:=h.fe
 fA:=h.fA
 left:=fun j hj=>by
  unfold Sk.kt;rw[fP hl hi]
  by_cases kK:j=i
  ·rw[aaV kK,kK];exact h.left i hi
  ·rw[aaP kK];exact h.left j hj
 sv:=h.sv
 vl:=h.vl
 ll:=h.ll
 ia:=h.ia
 iH:=h.iH
 fh:=h.fh
 gW:=h.gW
def MD(w:World)(s o:Nat)(v0 v1 v2:Value):World:=((w.setCell ⟨s,o,none⟩ v0).setCell ⟨s,o+1,none⟩ v1).setCell ⟨s,o+2,none⟩ v2
theorem bp.kt(h:bp s p A w)(hl:p.cl.length=3){i:Nat}(hi:i<3)(kind pl:Int)(data:ByteArray):bK s p A (p.kt i kind pl data) A w (MD w s (2+i*6) (i6 kind) (i6 pl) (.string data)):=by
 refine(h.mem.kt hl hi kind pl data).yR ?_ ?_ (fun k hk=>hk) ⟨rfl,rfl,rfl,rfl⟩
 ·unfold MD;exact(((aH.refl (fun k=>k=s) w).setCell _ (il rfl) _).setCell _ (il rfl) _).setCell _ (il rfl) _
 ·unfold MD;rw[bJ (bJ (bJ h.a7 _ _) _ _)]
  congr 2
  match i,hi with
  |0,hi=>simp[Sk.cells,Sk.head,Sk.tail,gL,Sk.kt,fP hl hi]
  |1,hi=>simp[Sk.cells,Sk.head,Sk.tail,gL,Sk.kt,fP hl hi]
  |2,hi=>simp[Sk.cells,Sk.head,Sk.tail,gL,Sk.kt,fP hl hi]
theorem dk.qlt(h:dk s p A w)(aE:p.queue ≠ []){q:Addr}(hq:A.qa=some q):q.block<w.heap.size:=by
 rcases h.queue.1 with e|⟨b',o',ha,hc⟩
 ·exact absurd e aE
 ·have:p.queue.length ≠ 0:=fun e=>aE (aaZ e)
  have:=aq (hc 0 oM 0 oM);rw[ha] at hq;simp only[aa4] at hq;subst hq;exact this
theorem dk.au(h:dk s p A w)(aE:p.hand ≠ []){q:Addr}(hq:A.ha=some q):q.block<w.heap.size:=by
 rcases h.hand.1 with e|⟨b',o',ha,hc⟩
 ·exact absurd e aE
 ·have:p.hand.length ≠ 0:=fun e=>aE (aaZ e)
  have:=aq (hc 0 oM 0 oM);rw[ha] at hq;simp only[aa4] at hq;subst hq;exact this
theorem dk.rAt(h:dk s p A w):∀r∈p.queue++p.dev.busy,r.At w:=fun r hr=>(abh.1 hr).elim (h.queue.2.1 r) (fun hr=>(h.cE.dev.reqs r hr).1)
def Sa.lay(A:Sa)(i:Nat)(a:Option Addr)(c:Nat):Sa:={ A with la:=fun j=>if j=i then a else A.la j,lc:=fun j=>if j=i then c else A.lc j }
theorem Sa.LD(A:Sa)(i:Nat)(a:Option Addr)(c k n:Nat)(hn:∀q,a=some q->n<=q.block)(h:(A.lay i a c).ay s k):A.ay s k\/n<=k:=by
 rcases h with h|h|⟨j,hj,q,hq,e⟩
 ·exact il (il h)
 ·exact il (ir (il h))
 ·by_cases kK:j=i
  ·simp only[Sa.lay,aaV kK] at hq;exact ir (by rw[e];exact hn q hq)
  ·simp only[Sa.lay,aaP kK] at hq;exact il (ir (ir ⟨j,hj,q,hq,e⟩))
theorem Sa.Pb(A:Sa)(i:Nat)(a:Option Addr)(c k n:Nat)(hn:∀q,a=some q->n<=q.block)(h:(A.lay i a c).off s k):A.off s k\/n<=k:=h.elim (fun e=>(A.LD i a c k n hn e).imp il id) (fun e=>il (ir e))
theorem bp.aaf(h:bp s p A w)(hl:p.cl.length=3){i:Nat}(hi:i<3)(L:List Int)(v:Value)(hb:bL w w')(bu:w'.ownsRow w.heap.size 3 1 v L.length (iw L)):∃A',bK s p A (p.gH i L) A' w (w'.setCell ⟨s,2+i*6+3,none⟩ v):=by
 obtain⟨a,c,rfl,kC,dq⟩:∃a c,v=.slice a L.length c/\(∀q,a=some q->w.heap.size<=q.block)/\w'.ownsRow 0 3 1 (.slice a L.length c) L.length (iw L):=by
  rcases bu.2 with⟨rfl,h0⟩|⟨g,cap,cur,rfl,hg,r⟩
  ·exact⟨none,0,by rw[h0],(fun q hq=>by cases hq),bu.1,il ⟨by rw[h0],h0⟩⟩
  ·exact⟨_,cap,rfl,(fun q hq=>by simp only[aa4] at hq;subst hq;exact hg),bu.1,ir ⟨g,cap,cur,rfl,ach _,r⟩⟩
 have h':=h.later hb;have nf:∀q:Addr,¬A.off s q.block->q.block<w.heap.size->¬(A.lay i a c).off s q.block:=fun q h1 h2 e=>(A.Pb i a c _ _ kC e).elim h1 (fun h3=>oM)
 have hm:dk s (p.gH i L) (A.lay i a c) w':={
  cE:=h'.mem.cE
  map:=h'.mem.map
  im:=h'.mem.im
  nb:=h'.mem.nb
  hand:=h'.mem.hand
  cU:=h'.mem.cU
  bS:=h'.mem.bS
  queue:=h'.mem.queue
  fe:=h'.mem.fe
  fA:=h'.mem.fA
  left:=fun j hj=>by
   unfold Sk.gH;rw[fP hl hi]
   by_cases kK:j=i
   ·simp only[Sa.lay,aaV kK];exact dq
   ·simp only[Sa.lay,aaP kK];exact h'.mem.left j hj
  sv:=h'.mem.sv
  vl:=fun j hj q hq=>by
   by_cases kK:j=i
   ·simp only[Sa.lay,aaV kK] at hq;have h1:=kC q hq;refine⟨fun e=>by have:=h.lt;omega,fun(e:q.block=A.v)=>by have:=aK h.mem.cE.a7;omega,fun e=>by have:=h.mem.cE.bC _ e;omega⟩
   ·simp only[Sa.lay,aaP kK] at hq;exact h'.mem.vl j hj q hq
  ll:=fun j k hj hk aE q q' hq cI=>by
   by_cases kK:j=i
   ·have Lj:¬k=i:=fun e=>aE (kK.trans e.symm)
    simp only[Sa.lay,aaV kK] at hq;simp only[Sa.lay,aaP Lj] at cI;have h1:=kC q hq;have h2:=h.mem.fb hk cI
    omega
   ·by_cases Lj:k=i
    ·simp only[Sa.lay,aaP kK] at hq;simp only[Sa.lay,aaV Lj] at cI;have h1:=kC q' cI;have h2:=h.mem.fb hj hq
     omega
    ·simp only[Sa.lay,aaP kK] at hq;simp only[Sa.lay,aaP Lj] at cI;exact h'.mem.ll j k hj hk aE q q' hq cI
  ia:=fun aE q hq=>nf q (h.mem.ia aE q hq) (h.mem.au aE hq)
  iH:=fun aE q hq=>nf q (h.mem.iH aE q hq) (h.mem.qlt aE hq)
  fh:=fun r hr=>Rq.dB.step (h.mem.rAt r hr) (h.mem.fh r hr) (fun k hk=>A.Pb i a c k _ kC hk)
  gW:=h'.mem.gW }
 have hO:aH (fun k=>k=s) w' (w'.setCell ⟨s,2+i*6+3,none⟩ (.slice a L.length c)):=aH.xx _;refine⟨A.lay i a c,⟨⟨?_,hm.frame hO (fun k _ aE=>aE) (fun e=>hm.sv.2 e.symm) (fun aE q hq e=>hm.eX aE q hq (il e)) (fun aE q hq e=>hm.km aE q hq (il e)) (fun r hr=>⟨fun he ad ha e=>(hm.eY r hr).1 he ad ha (il e),fun he ad ha e=>(hm.eY r hr).2 he ad ha (il e)⟩)⟩,?_,fun k hk=>A.LD i a c k _ kC hk,rfl,rfl,rfl,rfl⟩⟩
 ·rw[bJ h'.a7]
  congr 2
  match i,hi with
  |0,hi=>simp[Sk.cells,Sk.head,Sk.tail,gL,Sk.gH,fP hl hi,Sa.lay]
  |1,hi=>simp[Sk.cells,Sk.head,Sk.tail,gL,Sk.gH,fP hl hi,Sa.lay]
  |2,hi=>simp[Sk.cells,Sk.head,Sk.tail,gL,Sk.gH,fP hl hi,Sa.lay]
 ·exact(aH.cj hb).trans (hO.mono (fun k e=>il e)) (fun k hk=>il hk)
end
theorem Uf{w:World}{B e k n:Nat}{v:Value}{xs:List Value}(h:w.ownsRow B e k v n xs):∃a c,v=.slice a n c:=by
 rcases h.2 with⟨rfl,h0⟩|⟨g,cap,cur,rfl,_⟩
 ·exact⟨none,0,by rw[h0]⟩
 ·exact⟨_,cap,rfl⟩
theorem VT(p:Sk)(i:Nat){kind pl:Int}{data:ByteArray}(h:¬kind=3):p.asks i kind pl data=p.kt i kind pl data:=by unfold Sk.asks Sk.kt;rw[aaP h]
theorem abD(p:Sk)(hl:p.cl.length=3){i:Nat}(hi:i<3){pl:Int}{data:ByteArray}:(p.kt i 3 pl data).gH i (bU p.hand)=p.asks i 3 pl data:=by
 unfold Sk.gH;rw[show(p.kt i 3 pl data).ao i={ p.ao i with kind:=3,pl:=pl,data:=data } by unfold Sk.kt;rw[fP hl hi,aaV rfl]];unfold Sk.kt Sk.asks;rw[afA,aaV rfl]
theorem abC(s:Nat)(p:Sk)(A:Sa)(w:World)(h:bp s p A w)(c kind pl:Int)(data:ByteArray)(t:Int)(ht:dy c kind pl data=t)(h0:¬t=0) :
 Calls prog 27 #[.pointer (some ⟨s,0,none⟩),i6 c,i6 kind,i6 pl,.string data] w fun e w'=>e=.returned (dm t)/\fL s p A w w' p.nf:=by
 have aL:=ae h;have HT:=ae ht;have he:dm t=.iface 87 (i6 t):=by unfold dm;rw[aaP h0]
 have HE:=ae he;clear h ht h0 he;go_enter func27,ntmps27;go_wp2_with fail;refine cM (vP c kind pl data _ t HT.out) ?_;intro w1 rfl;rw[HE.out];go_wp2;go_ret;exact⟨by rw[HE.out];rfl,p,A,bK.cX aL.out (aX _ _),rfl⟩
theorem VR(s:Nat)(p:Sk)(A:Sa)(w:World)(h:bp s p A w)(c kind pl:Int)(data:ByteArray)(ht:dy c kind pl data=0)(hw:p.waits c=true) :
 Calls prog 27 #[.pointer (some ⟨s,0,none⟩),i6 c,i6 kind,i6 pl,.string data] w fun e w'=>e=.returned (dm 6)/\fL s p A w w' p.nf:=by
 have aL:=ae h;have HT:=ae ht;have HW:=ae hw;clear h ht hw;go_enter func27,ntmps27;go_wp2_with fail;refine cM (vP c kind pl data _ 0 HT.out) ?_;intro w1 rfl;rw[show dm 0=.nilIface from rfl];go_wp2_with fail;refine cM (n6 s p A c _ aL.out true HW.out) ?_;intro w2 rfl;go_wp2;go_ret;exact⟨rfl,p,A,bK.cX aL.out (aX _ _),rfl⟩
theorem Zv(s:Nat)(p:Sk)(A:Sa)(w:World)(h:bp s p A w)(hI:bg p)(hT:p.tags<=3999999999999999990)(hU:p.az<=3999999999999999990)(i:Nat)(hi:i<3)(kind pl:Int)(data:ByteArray)(ht:dy (i:Int) kind pl data=0)(hw:p.waits (i:Int)=false)(q:Sk)(hq:(p.nf.asks i kind pl data).serve=q) :
 Calls prog 27 #[.pointer (some ⟨s,0,none⟩),i6 (i:Int),i6 kind,i6 pl,.string data] w fun e w'=>e=.returned (dm 0)/\fL s p A w w' q:=by
 have aL:=ae h;have HT:=ae ht;have HW:=ae hw;have hz:=mu ht;have HIA:=ae (hI.asks i kind pl data hz.2.1 hz.2.2.1 hz.2.2.2.2.1);have HQ:=ae hq;have HB:=ae (And.intro hT hU);have pt:=hI.fV;have H8:=ae hI.hand.len;have pL:(i:Int)<3:=oM;obtain⟨c0,c1,c2,c3,-⟩:=h.ao i hi;have f0:=h.fz (2+i*6);have f1:=h.fz (2+i*6+1);have f2:=h.fz (2+i*6+2);have hl:=h.lt;have HX:=ae (h.kt pt hi kind pl data);clear h ht hw hz hI hT hU hq;generalize (p.ao i).kind=y0 at *;generalize (p.ao i).pl=y1 at *;generalize (p.ao i).data=y2 at *
 by_cases h3:kind=3
 ·subst h3;go_enter func27,ntmps27;go_wp2_with fail;refine cM (vP i 3 pl data _ 0 HT.out) ?_;intro w1 rfl;rw[show dm 0=.nilIface from rfl];go_wp2_with fail;refine cM (n6 s p A i _ aL.out false HW.out) ?_;intro w2 rfl;go_wp2_with fail;refine(Jw s (p.kt i 3 pl data) A _ HX.out.at' (by have:=H8.out;show p.hand.length<=1000;omega)).mono ?_;rintro e w3 ⟨v,rfl,bu,bo⟩;obtain⟨va,vc,rfl⟩:=Uf bu;obtain⟨A',Bb⟩:=HX.out.at'.aaf (show(p.kt i 3 pl data).cl.length=3 by unfold Sk.kt;rw[abS];exact pt) hi (bU p.hand) _ bo bu;rw[abD p pt hi] at Bb;have eV:=ae (HX.out.trans Bb);have El:=HX.out.at'.later bo;have g3:=(El.ao i hi).2.2.2.1;have gf:=El.fz (2+i*6+3);have l3:=El.lt;clear bu bo Bb El c0 c1 c2 c3 f0 f1 f2;obtain⟨y3,hy3⟩:∃y3,((p.kt i 3 pl data).ao i).left.length=y3:=⟨_,rfl⟩
  rw[hy3] at g3;clear hy3;go_wp2_with fail;refine cM (p6 s (p.asks i 3 pl data) A' _ eV.out.at' HIA.out HB.out.1 HB.out.2 q HQ.out) ?_;intro w4 hok;have HO:=ae (fL.trans eV.out hok);clear hok;go_wp2;go_ret;exact⟨rfl,HO.out⟩
 ·have HA:=ae (VT p i (pl:=pl) (data:=data) h3);go_enter func27,ntmps27;go_wp2_with fail;refine cM (vP i kind pl data _ 0 HT.out) ?_;intro w1 rfl;rw[show dm 0=.nilIface from rfl];go_wp2_with fail;refine cM (n6 s p A i _ aL.out false HW.out) ?_;intro w2 rfl;go_wp2_with fail;refine cM (p6 s (p.kt i kind pl data) A _ HX.out.at' (by rw[<-HA.out];exact HIA.out) HB.out.1 HB.out.2 q (by rw[<-HA.out];exact HQ.out)) ?_;intro w4 hok;have HO:=ae (fL.trans HX.out hok);clear hok;go_wp2;go_ret;exact⟨rfl,HO.out⟩
theorem CM(s:Nat)(p:Sk)(A:Sa)(w:World)(h:bp s p A w)(hI:bg p)(hT:p.tags<=3999999999999999990)(hU:p.az<=3999999999999999990)(c kind pl:Int)(data:ByteArray)(n:Int)(q:Sk)(hq:p.nf.ask c kind pl data=(n,q)) :
 Calls prog 27 #[.pointer (some ⟨s,0,none⟩),i6 c,i6 kind,i6 pl,.string data] w fun e w'=>e=.returned (dm n)/\fL s p A w w' q:=by
 unfold Sk.ask at hq
 by_cases h0:dy c kind pl data=0
 ·rw[aaP (by simpa using h0)] at hq
  cases hw:p.waits c
  ·rw[aaP (by rw[show p.nf.waits c=p.waits c from rfl,hw];exact aa7)] at hq;simp only[acK] at hq;obtain⟨rfl,hq⟩:=hq;have hz:=(mu h0).1;obtain⟨i,rfl⟩:∃i:Nat,c=i:=⟨c.toNat,oM⟩
   rw[abG] at hq;exact Zv s p A w h hI hT hU i oM kind pl data h0 hw q hq
  ·rw[aaV (show p.nf.waits c=true from hw)] at hq;simp only[acK] at hq;obtain⟨rfl,rfl⟩:=hq;exact VR s p A w h c kind pl data h0 hw
 ·rw[aaV h0] at hq;simp only[acK] at hq;obtain⟨rfl,rfl⟩:=hq;exact abC s p A w h c kind pl data _ rfl h0
theorem dk.uX{s:Nat}{p:Sk}{A:Sa}{w:World}(h:dk s p A w)(m:Int):dk s { p with bI:=m } A w where
 cE:=h.cE
 map:=h.map
 im:=h.im
 nb:=h.nb
 hand:=h.hand
 cU:=h.cU
 bS:=h.bS
 queue:=h.queue
 fe:=h.fe
 fA:=h.fA
 left:=h.left
 sv:=h.sv
 vl:=h.vl
 ll:=h.ll
 ia:=h.ia
 iH:=h.iH
 fh:=h.fh
 gW:=h.gW
theorem bp.uX{s:Nat}{p:Sk}{A:Sa}{w:World}(h:bp s p A w)(m:Int):bK s p A { p with bI:=m } A w (w.setCell ⟨s,26,none⟩ (i6 m)):=h.put (h.mem.uX m) 26 _ rfl (fun _ hk=>hk) ⟨rfl,rfl,rfl,rfl⟩
theorem ME(s:Nat)(p:Sk)(A:Sa)(w:World)(h:bp s p A w)(hI:bg p)(hT:p.tags<=3999999999999999990)(hU:p.az<=3999999999999999990)(q:Sk)(hq:p.nf.tick=q) :
 Calls prog 37 #[.pointer (some ⟨s,0,none⟩)] w fun e w'=>e=.returned (.tuple #[])/\fL s p A w w' q:=by
 obtain⟨m,hm⟩:∃m:Int,(if p.bI+1<1000000000 then p.bI+1 else 1000000000)=m:=⟨_,rfl⟩
 have HM:=ae (hI.kr);have HX:=ae (h.uX m);have Bp:Hid (bg { p with bI:=m }):=⟨hI.fV,hI.oE,hI.hand,hI.d6,hI.bO,hI.apart,hI.q6,hI.b2,by
  have:=hI.kr;show 0<=m/\m<=1000000000;rw[<-hm];split<;>omega,hI.tg,hI.us,hI.pz,hI.dv,hI.fY,hI.ts,hI.fr⟩
 have HQ:Hid (({ p with bI:=m }:Sk).nf.serve=q):=by
  rw[<-hq,<-hm];rfl
 have Ik:=h.cell 26 _ rfl;have f26:=h.fz 26;have hl:=h.lt;have sW:IntKind.i64.wrap (p.bI+1)=p.bI+1:=by have:=hI.kr;rw[abr];omega
 clear h hI hq
 by_cases au:1000000000<p.bI+1
 ·obtain rfl:1000000000=m:=by rw[<-hm,aaP oM]
  clear hm;go_enter func37,ntmps37;go_wp2_with fail;refine cM (p6 s _ A _ HX.out.at' Bp.out hT hU q HQ.out) ?_;intro w4 hok;have HO:=ae (fL.trans HX.out hok);clear hok;go_wp2;go_end0;exact⟨rfl,HO.out⟩
 ·obtain rfl:p.bI+1=m:=by rw[<-hm];split<;>omega
  clear hm;go_enter func37,ntmps37;go_wp2_with fail;refine cM (p6 s _ A _ HX.out.at' Bp.out hT hU q HQ.out) ?_;intro w4 hok;have HO:=ae (fL.trans HX.out hok);clear hok;go_wp2;go_end0;exact⟨rfl,HO.out⟩
def Cz(c:Cl):Bool:=(c.kind==2)||(c.kind==3)
theorem Gy(kd pl:Int)(gF:0<=kd/\kd<=3)(da:ByteArray)(a:Option Addr)(n c:Nat)(gO:ByteArray)(ev:Value)(w:World)(t:Bool)(ht:((kd==2)||(kd==3))=t) :
 Calls prog 119 #[.agg #[i6 kd,i6 pl,.string da,.slice a n c,.string gO,ev]] w (rB (.bool t) w):=by
 have h4:kd=0\/kd=1\/kd=2\/kd=3:=oM;clear gF
 rcases h4 with rfl|rfl|rfl|rfl
 ·obtain rfl:false=t:=ht;go_enter func119,ntmps119;go_wp2;go_ret;exact⟨rfl,bQ⟩
 ·obtain rfl:false=t:=ht;go_enter func119,ntmps119;go_wp2;go_ret;exact⟨rfl,bQ⟩
 ·obtain rfl:true=t:=ht;go_enter func119,ntmps119;go_wp2;go_ret;exact⟨rfl,bQ⟩
 ·obtain rfl:true=t:=ht;go_enter func119,ntmps119;go_wp2;go_ret;exact⟨rfl,bQ⟩
theorem Oi{p:Sk}(hl:p.cl.length=3){k:Nat}(hk:k<3)(h:Cz (p.ao k)=true):p.ec=true:=afo.2 ⟨_,PN hl hk,h⟩
theorem Rx{p:Sk}(hl:p.cl.length=3)(h:∀k,k<3->Cz (p.ao k)=false):p.ec=false:=by
 unfold Sk.ec;rw[afZ];intro c hc;obtain⟨i,hi,rfl⟩:=Qs hl hc;have:=h i hi;unfold Cz at this;rw[this];exact aa7
theorem Qf(s:Nat)(p:Sk)(A:Sa)(w:World)(h:bp s p A w)(hI:bg p) :
 Calls prog 164 #[.slice (some ⟨s,2,none⟩) 3 3,.func (.func 119) #[] #[]] w fun e w'=>∃n:Int,e=.returned (i6 n)/\(decide (0<=n)=p.ec)/\bL w w':=by
 have aL:=ae h;have HI:=ae hI;clear h hI;go_enter func164,ntmps164;go_wp2
 go_loopw[8] (fun i wr=>∃k:Nat,k<=3/\i=i6 k/\(∀j,j<k->Cz (p.ao j)=false)/\bL w wr) (fun i _=>3-(intOf i).toNat)
 case atStart=>exact⟨0,oM,rfl,fun j hj=>absurd hj (aa0 _),aX _ _⟩
 case round =>
  obtain⟨k,hk,rfl,dV,HB⟩:=hrel;have HN:=ae dV;clear dV
  by_cases au:k<3
  ·have gC:(k:Int)<3:=oM;have cZ:=aL.out.later HB;obtain⟨c0,c1,c2,c3,c4,c5⟩:=cZ.ao k au;have hl:=cZ.lt;have gF:=(HI.out.ao k).kind;have HW:Hid (Cz (p.ao k)=(((p.ao k).kind==2)||((p.ao k).kind==3))):=ae rfl;clear cZ;generalize (p.ao k).kind=y0 at *;generalize (p.ao k).pl=y1 at *;generalize (p.ao k).data=y2 at *;generalize (p.ao k).left.length=y3 at *;generalize (p.ao k).gO=y4 at *;generalize dm (p.ao k).err=y5 at *;have wg:=ae gF;clear gF
   cases hw:((y0==2)||(y0==3))
   ·rw[hw] at HW;have RU:=ae hw;clear hw;go_wp2_with fail;refine cM (Gy y0 y1 wg.out y2 _ _ _ y4 y5 _ false RU.out) ?_;intro w1 hb;go_wp2;go_roundw
    case rel=>exact⟨k+1,oM,gN,fun j hj=>by by_cases e:j=k;(subst e;exact HW.out);exact HN.out j oM,bQ⟩
    case measure=>simp[intOf];omega
   ·rw[hw] at HW;have RU:=ae hw;clear hw;go_wp2_with fail;refine cM (Gy y0 y1 wg.out y2 _ _ _ y4 y5 _ true RU.out) ?_;intro w1 hb;go_wp2;go_ret;exact⟨k,rfl,by rw[Oi HI.out.fV au HW.out];exact aa1 oM,bQ⟩
  ·obtain rfl:k=3:=oM;go_wp2;go_ret;exact⟨-1,rfl,by rw[Rx HI.out.fV (fun j hj=>HN.out j hj)];rfl,HB⟩
theorem Jq(s:Nat)(p:Sk)(A:Sa)(w:World)(h:bp s p A w)(hI:bg p)(t:Bool)(ht:p.ec=t) :
 Calls prog 78 #[.pointer (some ⟨s,0,none⟩)] w (rB (.bool t) w):=by
 have aL:=ae h;have HI:=ae hI;have HT:=ae ht;have hl:=h.lt;clear h hI ht;have acu:Calls prog 120 #[.slice (some ⟨s,2,none⟩) 3 3,.func (.func 119) #[] #[]] w (rB (.bool t) w):=by
  go_enter func120,ntmps120;go_wp2_with fail;refine(Qf s p A w aL.out HI.out).mono ?_;rintro e w1 ⟨n,rfl,hn,hb⟩;rw[HT.out] at hn;go_wp2;go_ret;exact⟨ey (by rw[<-hn]),hb⟩
 have ael:=ae acu;clear acu;go_enter func78,ntmps78;go_wp2_with fail;refine ael.out.mono ?_;rintro e w1 ⟨rfl,hb⟩;go_wp2;go_ret;exact⟨rfl,hb⟩
theorem PL(s:Nat)(p:Sk)(A:Sa)(w:World)(h:bp s p A w)(hd:p.dead=true) :
 Calls prog 40 #[.pointer (some ⟨s,0,none⟩)] w fun e w'=>e=.returned (.bool false)/\fL s p A w w' p.nf:=by
 have vu:=h.cell 29 _ rfl;rw[hd] at vu;have hl:=h.lt;have aL:=ae h;clear h;go_enter func40,ntmps40;go_wp2;go_ret;exact⟨rfl,p,A,bK.cX aL.out (aX _ _),rfl⟩
theorem Sg(s:Nat)(p:Sk)(A:Sa)(w:World)(h:bp s p A w)(hI:bg p)(hd:p.dead=false)(h3:bW p.hand<3)(hw:p.ec=false) :
 Calls prog 40 #[.pointer (some ⟨s,0,none⟩)] w fun e w'=>e=.returned (.bool false)/\fL s p A w w' p.nf:=by
 have vu:=h.cell 29 _ rfl;rw[hd] at vu;have hl:=h.lt;have aL:=ae h;have HI:=ae hI;have HW:=ae hw;obtain⟨n,hn⟩:∃n,bW p.hand=n:=⟨_,rfl⟩
 rw[hn] at h3;have HN:=ae hn;have A6:(n:Int)<3:=oM;clear h hI hw hn;go_enter func40,ntmps40;go_wp2_with fail;refine cM (ox s p A w aL.out n HN.out) ?_;intro w1 aw;have cf:=ae (bK.cX aL.out aw);clear aw;go_wp2_with fail;refine cM (Jq s p A w1 cf.out.at' HI.out false HW.out) ?_;intro w2 aC;have ck:=ae (cf.out.later aC);clear aC;go_wp2;go_ret;exact⟨rfl,p,A,ck.out,rfl⟩
theorem XU{w:World}{b:Nat}{x:ByteArray}(h:w.cell? ⟨b,0,none⟩=some (.string x)):StrsAt w (some ⟨b,0,none⟩) [x]:=by
 refine ir ⟨b,0,rfl,?_⟩;intro i hi
 match i,hi with
 |0,_=>simpa using h
theorem PM(s:Nat)(p:Sk)(A:Sa)(w:World)(h:bp s p A w)(hI:bg p)(hT:p.tags<=4000000000000000000)(hd:p.dead=false)(hc:¬(bW p.hand<3/\p.ec=false))(t:Bool)(q:Sk)(hq:p.nf.clean=(t,q)) :
 Calls prog 40 #[.pointer (some ⟨s,0,none⟩)] w fun e w'=>e=.returned (.bool t)/\fL s p A w w' q:=by
 have e1:p.nf.clean=if jT p.hand (gT (p.queue++p.dev.busy))<0 then(false,p.nf) else p.nf.gI (jT p.hand (gT (p.queue++p.dev.busy))) true [((fa p.hand (jT p.hand (gT (p.queue++p.dev.busy)))).getD ⟨0,bE,false,0⟩).data]:=by
  rw[<-Eg];unfold Sk.clean;rw[aaP (fun e=>e.elim (fun e=>by rw[show p.nf.dead=false from hd] at e;cases e) hc)]
  rfl
 rw[e1] at hq;have HQ:=ae hq;have HC:=ae hc;have aL:=ae h;have HI:=ae hI;have vu:=h.cell 29 _ rfl;rw[hd] at vu;have hl:=h.lt;have h9:bW p.hand<=8:=abb (acE _ _) hI.hand.len;obtain⟨n,hn⟩:∃n,bW p.hand=n:=⟨_,rfl⟩
 rw[hn] at h9;have HN:=ae hn;clear h hI hc hq e1 hn
 by_cases h3:n<3
 have A6:(n:Int)<3:=oM;have HW:Hid (p.ec=true):=by
  cases hw:p.ec
  ·exact absurd ⟨by rw[HN.out];exact h3,hw⟩ HC.out
  ·rfl
 go_enter func40,ntmps40;go_wp2_with fail;refine cM (ox s p A w aL.out n HN.out) ?_;intro w1 aw;have cf:=ae (bK.cX aL.out aw);clear aw;go_wp2_with fail;refine cM (Jq s p A w1 cf.out.at' HI.out true HW.out) ?_;intro w2 aC;have ck:=ae (cf.out.later aC);clear aC;go_wp2_with fail
 rotate_left
 have A6:¬(n:Int)<3:=oM;go_enter func40,ntmps40;go_wp2_with fail;refine cM (ox s p A w aL.out n HN.out) ?_;intro w2 aC;have ck:=ae (bK.cX aL.out aC);clear aC;go_wp2_with fail
 all_goals
  have CE:=ck.out.at'.cell 20 _ rfl;have ly:=ck.out.at'.lt
  rcases jz (eu true (gT (p.queue++p.dev.busy))) p.hand p.hand.length (aaO _) with⟨hr,-⟩|⟨k,hk,-,hr,-⟩
  ·have HR:=ae hr;have HP:Hid (jT p.hand (gT (p.queue++p.dev.busy))=-1):=by show jT p.hand (gT (p.queue++p.dev.busy))=-1;unfold jT;rw[hr,aaP oM]
   clear hr;rw[HP.out,aaV oM] at HQ
   go_region_held3 (fun w'=>w'.cell? ⟨s,20,none⟩=some (.slice A.ha p.hand.length A.hc)) (exact ai (w:=w2) bQ CE) (first|(go_at_call 80;refine(rK s p A _ (ck.out.at'.later bQ) (by have:=HI.out.q6;omega)).mono ?_;rintro e w3 ⟨hb,rfl,hH,bo⟩)|(go_at_call 79;refine(aam 123 (by intro args w;go_simp) #[.pointer (some ⟨hb,0,none⟩)] (gT (p.queue++p.dev.busy)) p.hand A.ha A.hc _ (ck.out.at'.mem.hand.later bQ) (fun n w' hJ=>uS hb _ n w' ((mB.later hH bQ).later hJ)) HR.out).mono ?_;rintro e w4 ⟨rfl,fk⟩))
   all_goals
    have gD:Hid (bK s p A p A w w4):=ck.out.later bQ;clear bo fk hH;go_wp2;go_ret;have hz:=HQ.out;simp only[acK] at hz;exact⟨by rw[<-hz.1];rfl,p,A,gD.out,hz.2⟩
  ·have HR:=ae hr;obtain⟨x,hx⟩:∃x,x=p.hand[k]:=⟨_,rfl⟩
   have hxm:x∈p.hand:=by rw[hx];exact aa5 hk
   have mX:=ae (HI.out.hand.sY x hxm);have HP:Hid (jT p.hand (gT (p.queue++p.dev.busy))=x.pl):=by
    show jT p.hand (gT (p.queue++p.dev.busy))=x.pl;unfold jT;rw[hr,aaV oM,abG,abd,aaX hk,acO,hx]
   have HG:=ae (rJ HI.out.hand.mr hxm);have HXE:=ae hx;rw[HP.out,aaP (by have:=mX.out;omega),HG.out] at HQ;have sr:Hid (∃j,∃hj:j<p.hand.length,ej (eP x.pl) p.hand=j/\p.hand[j]=x):=by
    rcases gq p.hand x.pl with⟨h1,_⟩|⟨j,hj,h1,h2,_⟩
    ·rw[HG.out] at h1;cases h1
    ·rw[HG.out] at h1;exact⟨j,hj,h2,(abY h1).symm⟩
   have IV:¬x.pl<0:=by have:=mX.out;omega
   clear hr hx hxm
   go_region_held3 (fun w'=>w'.cell? ⟨s,20,none⟩=some (.slice A.ha p.hand.length A.hc)) (exact ai (w:=w2) bQ CE) (first|(go_at_call 80;refine(rK s p A _ (ck.out.at'.later bQ) (by have:=HI.out.q6;omega)).mono ?_;rintro e w3 ⟨hb,rfl,hH,bo⟩)|(go_at_call 79;refine(Xe 123 (by intro args w;go_simp) #[.pointer (some ⟨hb,0,none⟩)] (gT (p.queue++p.dev.busy)) p.hand A.ha A.hc _ (ck.out.at'.mem.hand.later bQ) (fun n w' hJ=>uS hb _ n w' ((mB.later hH bQ).later hJ)) k hk HR.out).mono ?_;rw[<-HXE.out];rintro e w4 ⟨rfl,fk⟩))
   all_goals
    have gD:Hid (bK s p A p A w w4):=ck.out.later bQ;have g20:=gD.out.at'.cell 20 _ rfl;have l4:=gD.out.at'.lt;clear bo fk hH CE ly;obtain⟨j,hj,gA,hjx⟩:=sr.out;have HJ:=ae (And.intro gA hjx);clear gA hjx;go_wp2_with fail;refine(zr p.hand A.ha A.hc x.pl _ (gD.out.at'.mem.hand.later bQ) j hj HJ.out.1).mono ?_;rw[HJ.out.2];rintro e w5 ⟨rfl,fm⟩;have eO:Hid (bK s p A p A w w5):=gD.out.later bQ;have l5:=eO.out.at'.lt;clear g20 l4;go_wp2_with fail;have iM:=ae (And.intro HI.out.tg hT);refine(Kv s p A _ (eO.out.at'.later bQ) (by have:=HI.out.q6;omega) HI.out.CR ⟨HI.out.tg,hT⟩ HI.out.kr x.pl ⟨mX.out.1,mX.out.2.1⟩ true [x.data] sM (some ⟨_,0,none⟩) 1 (XU sM) (fun e=>by cases e) (fun _ ad ha e=>by simp only[aa4] at ha;subst ha;have:=eO.out.at'.ky _ e;simp at this;omega) (fun tb=>xS (tt HI.out x.pl ⟨mX.out.1,mX.out.2.1⟩ true [x.data] (il ⟨rfl,rfl,fun s' FC=>by rw[abq.1 FC];exact mX.out.2.2⟩)) _ 1 tb)).mono ?_;have dC:p.nf.gI x.pl true [x.data]=(t,q):=HQ.out;rw[dC];clear dC;rintro e w6 ⟨p',A',rfl,pS,hn6⟩;have mA:Hid (bK s p A p' A' w w6):=(eO.out.later bQ).trans pS;have HN6:=ae hn6;clear pS hn6;go_wp2;go_ret;exact⟨rfl,p',A',mA.out,HN6.out⟩
theorem Gi(s:Nat)(p:Sk)(A:Sa)(w:World)(h:bp s p A w)(hI:bg p)(hT:p.tags<=4000000000000000000)(t:Bool)(q:Sk)(hq:p.nf.clean=(t,q)) :
 Calls prog 40 #[.pointer (some ⟨s,0,none⟩)] w fun e w'=>e=.returned (.bool t)/\fL s p A w w' q:=by
 cases hd:p.dead
 ·by_cases hc:bW p.hand<3/\p.ec=false
  ·have e:p.nf.clean=(false,p.nf):=by
    unfold Sk.clean;exact aaV (ir hc)
   rw[e] at hq
   cases hq
   exact Sg s p A w h hI hd hc.1 hc.2
  ·exact PM s p A w h hI hT hd hc t q hq
 ·have e:p.nf.clean=(false,p.nf):=by
   unfold Sk.clean;exact aaV (il hd)
  rw[e] at hq
  cases hq
  exact PL s p A w h hd
theorem Qy(l:List Rq)(hg:EI l)(aE:l ≠ [])(b o c:Nat)(t:Tn)(now:Int)(n0:0<=now)(n1:now<=1000000000)(hs:cH t.s) :
 ∃(i:Nat) (T:Tn),i<l.length/\jR l t now=((i:Int),T)/\Aa 84 b o c l t now i T:=by
 have KQ:∀(i:Nat) (hi:i<l.length),vE l (i:Int)=l[i].f+l[i].m:=fun i hi=>by unfold vE;rw[abG,aaX hi]
 have Kz:¬(0<t.g/\t.g<3/\0<=fX t.w t.p l)->∃(i:Nat) (T:Tn),i<l.length/\jR l t now=((i:Int),T)/\Aa 84 b o c l t now i T:=by
  intro hpre;unfold jR;rw[aaP hpre];obtain⟨i0,iT,hO,hw⟩:=AD l aE t _ _ rfl rfl;generalize d1:decide (0<=dG false l)=b1 at *;generalize d2:decide (0<=dG true l)=b2 at *;obtain⟨e1,e2⟩:=Ky b1 b2 t;obtain⟨i,hi,rN⟩:=Iw l hg (dh b1 b2 t) now i0 iT hw;have g:=(hg.bO i hi).uG;have YQ:sE l (dh b1 b2 t) now=i:=by
   unfold sE;have P7:uH l (dG (dh b1 b2 t).w l)=l[i0].born:=by unfold uH;rw[hO,abG,aaX iT]
   rw[P7]
   rcases rN with⟨h1,rfl⟩|⟨h1,h2|⟨h2,h3⟩⟩
   ·rw[aaV h1];exact hO
   ·rw[aaP oM,aaV oM];exact h2
   ·rw[aaP oM,aaP oM];exact h3
  refine⟨i,⟨(dh b1 b2 t).w,1,(dh b1 b2 t).s,l[i].f+l[i].m⟩,hi,by rw[YQ,KQ i hi],?_⟩;intro w hl;have:=Qz l b o c t (dh b1 b2 t) now w hl i hi ?_ (fun w' wY=>R8 l b o c t w' wY hs b1 b2 d1 d2) (fun w' wY=>QA l hg b o c _ now w' wY n0 n1 i0 iT hO i rN) oM oM oM oM
  ·rw[e2] at this;exact this
  ·intro w' wY
   by_cases BW:t.g<=0\/3<=t.g
   ·exact SJ l _ c t w' BW
   ·refine Ff l _ c t w' wY oM oM _ ?_
    rcases rZ t.w t.p l with⟨h1,_⟩|⟨j,hj,h1,_⟩
    ·exact h1
    ·exact absurd ⟨oM,oM,oM⟩ hpre
 by_cases BW:0<t.g/\t.g<3/\0<=fX t.w t.p l
 ·rcases rZ t.w t.p l with⟨h1,_⟩|⟨j,hj,h1,h2,_⟩
  ·omega
  ·have g:=(hg.bO j hj).uG;refine⟨j,⟨t.w,t.g+1,t.s,l[j].f+l[j].m⟩,hj,by unfold jR;rw[aaV BW,h1,KQ j hj],fun w hl=>?_⟩;exact aah l b o c t now w hl oM oM j hj h1 oM oM oM oM
 ·exact Kz BW
theorem bg.SK{p:Sk}(h:bg p):EI p.queue:=by
 refine⟨h.CR,fun i j hi hj=>?_⟩;have hp:=ac7.1 h.queue.2 j i oM hi hj;have h1:=h.CR i hi;have h2:=h.CR j oM;have:=(DS (r:=p.queue[j]) h1 h2).2 hp.symm;exact this
theorem IX(F:Rq->Bool)(R:Rq->Int)(hF:∀r:Rq,F r.nf=F r)(hR:∀r:Rq,R r.nf=R r)(l:List Rq):∀n,eo F R (l.map Rq.nf) n=eo F R l n:=by
 have e1:∀k,CP F (l.map Rq.nf) k=CP F l k:=fun k=>by
  unfold CP;rw[acq]
  cases l[k]? with
  |none=>rfl
  |some r=>exact hF r
 have e2:∀k,xz R (l.map Rq.nf) k=xz R l k:=fun k=>by
  unfold xz;rw[acq]
  cases l[k]? with
  |none=>rfl
  |some r=>exact hR r
 intro n
 induction n with
 |zero=>rfl
 |succ k ih =>
  unfold eo;rw[ih,e1,e2,e2]
theorem aaj(b:Bool)(l:List Rq):dG b (l.map Rq.nf)=dG b l:=by unfold dG;rw[abe];exact IX _ _ (fun _=>rfl) (fun _=>rfl) l _
theorem ab3(b:Bool)(a:Int)(l:List Rq):fX b a (l.map Rq.nf)=fX b a l:=by unfold fX;rw[abe];exact IX _ _ (fun _=>rfl) (fun _=>rfl) l _
theorem Wh(l:List Rq)(i:Int):vE (l.map Rq.nf) i=vE l i:=by
 unfold vE;rw[acq]
 cases l[i.toNat]?<;>rfl
theorem Sb(l:List Rq)(i:Int):uH (l.map Rq.nf) i=uH l i:=by
 unfold uH;rw[acq]
 cases l[i.toNat]?<;>rfl
theorem W9(l:List Rq)(t:Tn)(now:Int):jR (l.map Rq.nf) t now=jR l t now:=by
 unfold jR sE;simp only[aaj,ab3,Wh,Sb]
theorem Zi{w:World}{b:Nat}{u0 u1 u2 u3:Value}(v0 v1 v2 v3:Value)(k0:w.cell? ⟨b,0,none⟩=some u0)(k1:w.cell? ⟨b,1,none⟩=some u1)(k2:w.cell? ⟨b,2,none⟩=some u2)(k3:w.cell? ⟨b,3,none⟩=some u3){w':World}(hw:w'=(((w.setCell ⟨b,0,none⟩ v0).setCell ⟨b,1,none⟩ v1).setCell ⟨b,2,none⟩ v2).setCell ⟨b,3,none⟩ v3) :
 w'.cell? ⟨b,0,none⟩=some v0/\w'.cell? ⟨b,1,none⟩=some v1/\w'.cell? ⟨b,2,none⟩=some v2/\w'.cell? ⟨b,3,none⟩=some v3:=by
 subst hw;refine⟨?_,?_,?_,?_⟩
 ·exact(cB (ir oM)).trans ((cB (ir oM)).trans ((cB (ir oM)).trans (aa2 _ _ _ k0)))
 ·exact(cB (ir oM)).trans ((cB (ir oM)).trans (aa2 _ _ _ ((cB (ir oM)).trans k1)))
 ·exact(cB (ir oM)).trans (aa2 _ _ _ ((cB (ir oM)).trans ((cB (ir oM)).trans k2)))
 ·exact aa2 _ _ _ ((cB (ir oM)).trans ((cB (ir oM)).trans ((cB (ir oM)).trans k3)))
section
variable{s:Nat}{p:Sk}{A:Sa}{w w':World}
theorem dk.Rj(h:dk s p A w)(L:List Rq)(a':Option Addr)(c':Nat)(T:Tn)(hR:aW w a' L)(bS:L.length<=c')(cU:a'=none->c'=0)(ho:L ≠ []->∀q,a'=some q->¬A.off s q.block)(zz:∀r∈L,r.dB (A.off s)):dk s { p with queue:=L,dQ:=T } { A with qa:=a',qc:=c' } w where
 cE:=h.cE
 map:=h.map
 im:=h.im
 nb:=h.nb
 hand:=h.hand
 cU:=h.cU
 bS:=h.bS
 queue:=hR
 fe:=cU
 fA:=bS
 left:=h.left
 sv:=h.sv
 vl:=h.vl
 ll:=h.ll
 ia:=h.ia
 iH:=ho
 fh:=fun r hr=>(abh.1 hr).elim (zz r) (fun h'=>h.fh r (aa8 _ h'))
 gW:=h.gW
def Hp(w:World)(s:Nat)(T:Tn):World:=(((w.setCell ⟨s,22,none⟩ (.bool T.w)).setCell ⟨s,23,none⟩ (i6 T.g)).setCell ⟨s,24,none⟩ (i6 T.s)).setCell ⟨s,25,none⟩ (i6 T.p)
theorem bp.Rj(h:bp s p A w)(L:List Rq)(a':Option Addr)(c':Nat)(T:Tn)(hR:aW w a' L)(bS:L.length<=c')(cU:a'=none->c'=0)(ho:L ≠ []->∀q,a'=some q->¬A.off s q.block)(zz:∀r∈L,r.dB (A.off s)) :
 bK s p A { p with queue:=L,dQ:=T } { A with qa:=a',qc:=c' } w (Hp (w.setCell ⟨s,21,none⟩ (.slice a' L.length c')) s T)/\bK s p A { p with queue:=L,dQ:=T } { A with qa:=a',qc:=c' } w ((Hp w s T).setCell ⟨s,21,none⟩ (.slice a' L.length c')):=by
 have hm:=h.mem.Rj L a' c' T hR bS cU ho zz
 constructor
 ·refine hm.yR ?_ ?_ (fun k hk=>hk) ⟨rfl,rfl,rfl,rfl⟩
  ·unfold Hp;exact(((((aH.refl (fun k=>k=s) w).setCell _ (il rfl) _).setCell _ (il rfl) _).setCell _ (il rfl) _).setCell _ (il rfl) _).setCell _ (il rfl) _
  ·unfold Hp;rw[bJ (bJ (bJ (bJ (bJ h.a7 _ _) _ _) _ _) _ _)]
   rfl
 ·refine hm.yR ?_ ?_ (fun k hk=>hk) ⟨rfl,rfl,rfl,rfl⟩
  ·unfold Hp;exact(((((aH.refl (fun k=>k=s) w).setCell _ (il rfl) _).setCell _ (il rfl) _).setCell _ (il rfl) _).setCell _ (il rfl) _).setCell _ (il rfl) _
  ·unfold Hp;rw[bJ (bJ (bJ (bJ (bJ h.a7 _ _) _ _) _ _) _ _)]
   rfl
end
theorem Hi(s:Nat)(p:Sk)(A:Sa)(w:World)(h:bp s p A w)(he:p.queue=[]) :
 Calls prog 41 #[.pointer (some ⟨s,0,none⟩)] w fun e w'=>e=.returned (.bool false)/\fL s p A w w' p.nf:=by
 have c21:=h.cell 21 _ rfl;rw[he] at c21;have hl:=h.lt;have aL:=ae h;clear h;go_enter func41,ntmps41;go_wp2;go_ret;exact⟨rfl,p,A,bK.cX aL.out (aX _ _),rfl⟩
theorem Hh(s:Nat)(p:Sk)(A:Sa)(w:World)(h:bp s p A w)(hq:p.queue ≠ [])(hf:2<=p.dev.busy.length) :
 Calls prog 41 #[.pointer (some ⟨s,0,none⟩)] w fun e w'=>e=.returned (.bool false)/\fL s p A w w' p.nf:=by
 have c21:=h.cell 21 _ rfl;have c1:=h.cell 1 _ rfl;have hl:=h.lt;have aL:=ae h;have h0:¬p.queue.length=0:=fun e=>hq (aaZ e)
 have h1:¬(p.queue.length:Int)=0:=oM;have h2:((p.queue.length:Int)==0)=false:=aaU.2 h1;have HF:Hid (decide (p.dev.busy.length<2)=false):=aa9 oM;clear h hq hf;generalize p.queue.length=n at *;go_enter func41,ntmps41;go_wp2_with fail;refine cM (Mk A.v A.b A.bm p.dev A.an A.n A.D false w aL.out.mem.cE HF.out) ?_;intro w1 aw;go_wp2;go_ret;exact⟨rfl,p,A,bK.cX aL.out aw,rfl⟩
def sA(w:World)(g:Nat)(T:Tn):Prop:=w.cell? ⟨g,0,none⟩=some (.bool T.w)/\w.cell? ⟨g,1,none⟩=some (i6 T.g)/\w.cell? ⟨g,2,none⟩=some (i6 T.s)/\w.cell? ⟨g,3,none⟩=some (i6 T.p)
theorem sA.only{F:Nat->Prop}{w w':World}{g:Nat}{T:Tn}(h:sA w g T)(hO:aH F w w')(hn:¬F g):sA w' g T:=by
 obtain⟨h0,h1,h2,h3⟩:=h;have hl:=aq h0;exact⟨(hO.cell (p:=⟨g,0,none⟩) hl hn).trans h0,(hO.cell (p:=⟨g,1,none⟩) hl hn).trans h1,(hO.cell (p:=⟨g,2,none⟩) hl hn).trans h2,(hO.cell (p:=⟨g,3,none⟩) hl hn).trans h3⟩
theorem sA.later{w w':World}{g:Nat}{T:Tn}(h:sA w g T)(hb:bL w w'):sA w' g T:=h.only (F:=fun _=>False) (aH.cj hb) (fun e=>e)
theorem Dz{p:Sk}{i:Nat}{T:Tn}(hi:i<p.queue.length)(aE:p.queue ≠ [])(hb:p.dev.busy.length<2)(hn:jR p.queue p.dQ p.bI=((i:Int),T)):p.nf.bf=(true,({ p with dev:={ p.dev with busy:=p.dev.busy++[p.queue[i]] },queue:=p.queue.take i++p.queue.drop (i+1),dQ:=T }:Sk).nf):=by
 unfold Sk.bf;have e1:jR p.nf.queue p.nf.dQ p.nf.bI=((i:Int),T):=(W9 p.queue p.dQ p.bI).trans hn;rw[aaP (by
  rintro(e|e)
  ·exact aE (agC.1 e)
  ·rw[show p.nf.dev.busy.length=p.dev.busy.length from abe _] at e;omega),e1]
 have e2:p.nf.queue[((i:Int)).toNat]?=some p.queue[i].nf:=by
  rw[abG];show(p.queue.map Rq.nf)[i]?=_;rw[acq,aaX hi];rfl
 rw[e2];simp only[Sk.nf,Dl.nf,aca,aft,afz,abG,Option.toList,ack,List.map_take,List.map_drop]
theorem JK(s:Nat)(p:Sk)(A:Sa)(w:World)(h:bp s p A w)(hI:bg p)(aE:p.queue ≠ [])(hb:p.dev.busy.length<2)(q:Sk)(hq:p.nf.bf.2=q) :
 Calls prog 41 #[.pointer (some ⟨s,0,none⟩)] w fun e w'=>e=.returned (.bool true)/\fL s p A w w' q:=by
 obtain⟨bq,oq,du⟩:∃b o,A.qa=some ⟨b,o,none⟩:=by
  rcases h.mem.queue.1 with e|⟨b,o,e,_⟩
  ·exact absurd e aE
  ·exact⟨b,o,e⟩
 obtain⟨i,T,hi,sN,Fp⟩:=Qy p.queue hI.SK aE bq oq A.qc p.dQ p.bI hI.kr.1 hI.kr.2 (by have:=hI.ts;unfold cH;omega);obtain⟨r,hr⟩:∃r,p.queue[i]=r:=⟨_,rfl⟩
 obtain⟨L,hL⟩:∃L,p.queue.take i++p.queue.drop (i+1)=L:=⟨_,rfl⟩
 have HQ:Hid (({ p with dev:={ p.dev with busy:=p.dev.busy++[r] },queue:=L,dQ:=T }:Sk).nf=q):=by
  subst hr;subst hL;show Sk.nf _=q;rw[<-hq,Dz hi aE hb sN]
 have c21:=h.cell 21 _ rfl;rw[du] at c21;have c1:=h.cell 1 _ rfl;have Yy:=h.cell 22 _ rfl;have Yz:=h.cell 23 _ rfl;have c24:=h.cell 24 _ rfl;have YA:=h.cell 25 _ rfl;have Ik:=h.cell 26 _ rfl;have hl:=h.lt;have aL:=ae h;have HI:=ae hI;have JP:=ae Fp;have jX:Hid (aW w (some ⟨bq,oq,none⟩) p.queue):=by have:=h.mem.queue;rw[du] at this;exact this
 have HB:Hid (p.dev.busy.length<2):=hb;have HRM:Hid (decide (p.dev.busy.length<2)=true):=aa1 hb;have h0:¬p.queue.length=0:=fun e=>aE (aaZ e)
 have h1:¬(p.queue.length:Int)=0:=oM;have h2:((p.queue.length:Int)==0)=false:=aaU.2 h1;have HR6:Hid (p.queue.length<=6/\p.queue.length<=A.qc):=⟨hI.q6,h.mem.fA⟩
 have gm:=ae du;have EN:Hid (i<p.queue.length):=hi;clear h hI aE hb hq Fp sN du;obtain⟨n,hn⟩:∃n,p.queue.length=n:=⟨_,rfl⟩
 have RG:Hid (∀w',aW w' (some ⟨bq,oq,none⟩) p.queue->Calls prog 84 #[.slice (some ⟨bq,oq,none⟩) n A.qc,p.dQ.val,i6 p.bI] w' (rB (.tuple #[i6 i,T.val]) w')):=by
  show ∀w',aW w' (some ⟨bq,oq,none⟩) p.queue->_;rw[<-hn];exact JP.out
 have iC:Hid (L.length=n-1/\(∀x∈L,x∈p.queue)/\r∈p.queue):=by
  refine⟨?_,fun x hx=>?_,by rw[<-hr];exact aa5 hi⟩
  ·rw[<-hL,aaQ,abm,ac5];omega
  ·rw[<-hL] at hx
   rcases abh.1 hx with h'|h'
   ·exact agv h'
   ·exact List.mem_of_mem_drop h'
 have Ys:Hid (∀w',aW w' (some ⟨bq,oq,none⟩) p.queue->Calls prog 85 #[.slice (some ⟨bq,oq,none⟩) n A.qc,i6 i] w' fun e w2=>∃a' c',e=.returned (.tuple #[.slice a' L.length c',r.val])/\np w'.heap.size w2 a' c' L/\bL w' w2):=by
  intro w' bB;have ht:=XZ p.queue bq oq A.qc w' bB (by have:=HR6.out;omega) HR6.out.2 i hi;subst hr;subst hL;subst hn;refine ht.mono ?_;rintro e w2 ⟨v,he,bu,aC⟩;obtain⟨a',c',rfl,hN⟩:=mw bu (fun x hx=>(bB.2.1 x (iC.out.2.1 x hx)).later aC) (by have:=iC.out.1;omega) (by have:=iC.out.1;have:=HR6.out;omega);exact⟨a',c',he,hN,aC⟩
 rw[hn] at c21 h0 h1 h2;have HN:=ae hn;clear hn JP hr hL;obtain⟨tw,tg,ts,tp⟩:=T;go_enter func41,ntmps41;go_wp2_with fail;refine cM (Mk A.v A.b A.bm p.dev A.an A.n A.D true w aL.out.mem.cE HRM.out) ?_;intro w1 aw;have aN:=ae aw
 replace c21:=ai aw c21
 replace c1:=ai aw c1
 replace Yy:=ai aw Yy
 replace Yz:=ai aw Yz
 replace c24:=ai aw c24
 replace YA:=ai aw YA
 replace Ik:=ai aw Ik
 replace hl:=abF hl aw.size
 clear aw;go_wp2_with fail
 go_region_held3 (fun w'=>w'.cell? ⟨s,21,none⟩=some (.slice (some ⟨bq,oq,none⟩) n A.qc)/\w'.cell? ⟨s,22,none⟩=some (.bool p.dQ.w)/\w'.cell? ⟨s,23,none⟩=some (i6 p.dQ.g)/\w'.cell? ⟨s,24,none⟩=some (i6 p.dQ.s)/\w'.cell? ⟨s,25,none⟩=some (i6 p.dQ.p)/\w'.cell? ⟨s,26,none⟩=some (i6 p.bI)) (exact⟨ai (w:=w1) bQ c21,ai (w:=w1) bQ Yy,ai (w:=w1) bQ Yz,ai (w:=w1) bQ c24,ai (w:=w1) bQ YA,ai (w:=w1) bQ Ik⟩) (first|(go_at_call 84;refine cM (RG.out _ (jX.out.later (af aN.out bQ))) ?_;intro w2 aC;have z2:w1.heap.size<=w2.heap.size:=(show bL w1 w2 from bQ).size;(try(obtain⟨k0,k1,k2,k3,k4,k5,k6,k7⟩:w2.cell? ⟨w1.heap.size,0,none⟩=some (.bool false)/\w2.cell? ⟨w1.heap.size,1,none⟩=some (i6 0)/\w2.cell? ⟨w1.heap.size,2,none⟩=some (i6 0)/\w2.cell? ⟨w1.heap.size,3,none⟩=some (i6 0)/\w2.frozen? ⟨w1.heap.size,0,none⟩=false/\w2.frozen? ⟨w1.heap.size,1,none⟩=false/\w2.frozen? ⟨w1.heap.size,2,none⟩=false/\w2.frozen? ⟨w1.heap.size,3,none⟩=false;(focus((refine⟨(aC.cell (p:=⟨w1.heap.size,0,none⟩) ?_).trans ?_,(aC.cell (p:=⟨w1.heap.size,1,none⟩) ?_).trans ?_,(aC.cell (p:=⟨w1.heap.size,2,none⟩) ?_).trans ?_,(aC.cell (p:=⟨w1.heap.size,3,none⟩) ?_).trans ?_,(aC.frozen (p:=⟨w1.heap.size,0,none⟩) ?_).trans ?_,(aC.frozen (p:=⟨w1.heap.size,1,none⟩) ?_).trans ?_,(aC.frozen (p:=⟨w1.heap.size,2,none⟩) ?_).trans ?_,(aC.frozen (p:=⟨w1.heap.size,3,none⟩) ?_).trans ?_⟩);(all_goals simp);(all_goals omega)))))))
 refine ku (fun wz=>bK s p A p A w wz/\sA wz w2.heap.size ⟨tw,tg,ts,tp⟩/\w.heap.size<=w2.heap.size) ⟨bK.cX aL.out (af aN.out bQ),⟨sM,sM,sM,sM⟩,abb aN.out.size z2⟩ ?_;rintro w3 ⟨iV,htz,mE⟩;generalize w2.heap.size=g at *
 rotate_left
 refine ku (fun wz=>bK s p A p A w wz/\sA wz w1.heap.size ⟨tw,tg,ts,tp⟩/\w.heap.size<=w1.heap.size) ⟨bK.cX aL.out (af aN.out bQ),Zi _ _ _ _ k0 k1 k2 k3 rfl,aN.out.size⟩ ?_;rintro w3 ⟨iV,htz,mE⟩;clear k0 k1 k2 k3 k4 k5 k6 k7;generalize hg:w1.heap.size=g at *;clear hg
 all_goals
  clear aC z2 c1 c21 Yy Yz c24 YA Ik hl;have jM:=ae iV;have HTZ:=ae htz;have Ka:=ae mE;have g21:=iV.at'.cell 21 _ rfl;rw[gm.out,HN.out] at g21;have l3:=iV.at'.lt;clear iV htz mE;go_wp2_with fail;refine(Ys.out _ (by have:=jM.out.at'.mem.queue;rw[gm.out] at this;exact this)).mono ?_;rintro e w4 ⟨a',c',rfl,hN,fk⟩;have Hx:=ae hN;have gD:=ae (jM.out.later fk);have xO:=ae (HTZ.out.later fk);clear hN fk g21 l3;go_wp2_with fail;refine ei (fun wK=>bL w4 wK/\hZ wK w4.heap.size r) ⟨bQ,mv w4 146 r⟩ ?_;rintro w5 ⟨fm,Wx⟩;have pg:=ae Wx;have eO:=ae (gD.out.later fm);have HT5:=ae (xO.out.later fm);have Dm:=ae (Hx.out.here.later fm);have Bm:Hid (∀x∈p.queue++p.dev.busy,x.At w5):=eO.out.at'.mem.rAt;have HS:Hid ((fun wz:World=>wz.cell? ⟨s,1,none⟩=some (.pointer (some ⟨A.v,0,none⟩))/\hZ wz w4.heap.size r) w5.drew):=⟨eO.out.at'.cell 1 _ rfl,Wx⟩
  have eg:∀args w,Sem.run prog (callFunc 86 args) w=.ok (.enter 86 args) w:=by intro args w;go_simp
  have zZ:Hid (∀x∈p.queue++p.dev.busy,x.dB (A.off s)):=aL.out.mem.fh;have Dn:Hid (r.dB (A.an.ay A.b)):=by
   have:=zZ.out r (abn _ iC.out.2.2);exact⟨fun he ad ha e=>this.1 he ad ha (il (ir (il (ir e)))),fun he ad ha e=>this.2 he ad ha (il (ir (il (ir e))))⟩
  clear fm Wx;refine eL (S:=fun wz:World=>wz.cell? ⟨s,1,none⟩=some (.pointer (some ⟨A.v,0,none⟩))/\hZ wz w4.heap.size r) (d:=6) kR ?_;refine tK 0 rfl HS.out ?_;(try simp only[Act.put,dP]);refine tK 1 rfl HS.out ?_;(try simp only[Act.put,dP]);refine tK 2 rfl HS.out ?_;(try simp only[Act.put,dP]);refine tK 3 rfl HS.out ?_;(try simp only[Act.put,dP]);refine tK 4 rfl HS.out ?_;(try simp only[Act.put,dP]);refine bn (i:=5) rfl kR ?_;intro K hK;refine yX rfl 86 50 51 121 146 rfl eg (.pointer (some ⟨A.v,0,none⟩)) r.val rfl rfl (fun rr w'=>rr=.nilIface/\∃nR,jt A.v A.b A.bm p.dev A.an A.n A.D { p.dev with busy:=p.dev.busy++[r] } nR A.n A.D w5 w') ((Vn A.v A.b A.bm p.dev A.an A.n A.D r w5.drew (eO.out.at'.mem.cE.later (aX _ _).drew) HB.out ((Bm.out r (abn _ iC.out.2.2)).later (aX _ _).drew) Dn.out).mono (fun e w' ⟨nR,he,hv⟩=>⟨_,he,rfl,nR,(eO.out.at'.mem.cE.step (cP.same eO.out.at'.mem.cE.dev (aX _ _).drew)).trans hv⟩)) ?_;rintro rr w6 ⟨rfl,nR,hv6⟩;have OM:=ae hv6;clear hv6;have uE:Hid (∀k,({ A with an:=nR,n:=A.n,D:=A.D }:Sa).off s k->A.off s k\/w5.heap.size<=k):=zG OM.out;have mA:=ae (eO.out.trans (bp.step p.ag eO.out.at'.mem.nb eO.out.at' OM.out eO.out.at'.mem.map eO.out.at'.mem.im (fun x hx=>by
   have nc:x∈p.queue++p.dev.busy:=by
    rcases abh.1 hx with h'|h'
    ·exact aa8 _ h'
    ·rw[abq.1 h'];exact abn _ iC.out.2.2
   exact Rq.dB.step (Bm.out x nc) (zZ.out x nc) uE.out)))
  have HX6:=ae (pg.out.only OM.out.only (fun e=>by have:=gD.out.at'.bC _ (ir (il e));omega));have HT6:=ae (HT5.out.only OM.out.only (fun e=>by have:=aL.out.bC _ (ir (il e));have:=Ka.out;omega));have VA:Hid (∀q',a'=some q'->w.heap.size<=q'.block/\q'.block<w5.heap.size):=by
   intro q' cI;have h1:=Hx.out.own.lt q'.block (by rw[cI];rfl);have h2:=jM.out.only.size;have h3:w4.heap.size<=w5.heap.size:=by have:=aq pg.out.1;omega
   omega
  have abf:=ae (mW Dm.out OM.out.only (fun _ q' cI e=>by have h1:=VA.out q' cI;have:=aL.out.bC _ (ir (il e));omega) (fun x hx=>by
   have:=zZ.out x (abn _ (iC.out.2.1 x hx));exact⟨fun he ad ha e=>this.1 he ad ha (il (ir (il e))),fun he ad ha e=>this.2 he ad ha (il (ir (il e)))⟩))
  have Vy:=ae (mA.out.at'.Rj L a' c' ⟨tw,tg,ts,tp⟩ abf.out Hx.out.cap Hx.out.nil (fun _ q' cI e=>by
   have h1:=VA.out q' cI
   rcases uE.out _ e with e'|e'
   ·have:=aL.out.ky _ e';omega
   ·omega) (fun x hx=>Rq.dB.step (Bm.out x (abn _ (iC.out.2.1 x hx))) (zZ.out x (abn _ (iC.out.2.1 x hx))) uE.out))
  refine hK _ _ (fun _=>⟨mA.out.at'.cell 1 _ rfl,HX6.out⟩) ?_
  (try simp only[Act.put,dP])
  clear hK;refine bn (i:=6) rfl kR ?_;intro K hK;go_simp;refine hK _ _ (fun h=>absurd rfl h) ?_;(try simp only[Act.put,dP]);clear hK;refine fw kR ?_ _;have y21:=mA.out.at'.cell 21 _ rfl;have y22:=mA.out.at'.cell 22 _ rfl;have y23:=mA.out.at'.cell 23 _ rfl;have y24:=mA.out.at'.cell 24 _ rfl;have y25:=mA.out.at'.cell 25 _ rfl;have x21:=mA.out.at'.fz 21;have x22:=mA.out.at'.fz 22;have x23:=mA.out.at'.fz 23;have x24:=mA.out.at'.fz 24;have x25:=mA.out.at'.fz 25;have l6:=mA.out.at'.lt;obtain⟨t0,t1,t2,t3⟩:=HT6.out;have lg:=aq t0;have nsg:g ≠ s:=by have:=aL.out.lt;have:=Ka.out;omega
  have nsg':s ≠ g:=Ne.symm nsg;have Yo:Hid (∀w',bK s { p with dev:={ p.dev with busy:=p.dev.busy++[r] },f:=p.f } { A with an:=nR,n:=A.n,D:=A.D } ({ p with dev:={ p.dev with busy:=p.dev.busy++[r] },queue:=L,dQ:=⟨tw,tg,ts,tp⟩ }:Sk) { A with an:=nR,n:=A.n,D:=A.D,qa:=a',qc:=c' } w6 w'->fL s p A w w' q):=fun w' h'=>⟨_,_,mA.out.trans h',HQ.out⟩
  clear mA HX6 HT6 abf OM HS Bm zZ Dn eg uE eO HT5 Dm pg gD xO VA jM HTZ Ka Ys RG HQ;go_wp2_with fail
  go_region
  all_goals
   go_wp2;go_ret;exact⟨rfl,Yo.out _ (Vy.out.1.later (aX _ _).drew)⟩
theorem Bg(s:Nat)(p:Sk)(A:Sa)(w:World)(h:bp s p A w)(hI:bg p)(t:Bool)(q:Sk)(hq:p.nf.bf=(t,q)) :
 Calls prog 41 #[.pointer (some ⟨s,0,none⟩)] w fun e w'=>e=.returned (.bool t)/\fL s p A w w' q:=by
 by_cases he:p.queue=[]
 ·have e:p.nf.bf=(false,p.nf):=by
   unfold Sk.bf;exact aaV (il (by show p.queue.map Rq.nf=[];rw[he];rfl))
  rw[e] at hq
  cases hq
  exact Hi s p A w h he
 ·by_cases hf:2<=p.dev.busy.length
  ·have e:p.nf.bf=(false,p.nf):=by
    unfold Sk.bf;exact aaV (ir (by rw[show p.nf.dev.busy.length=p.dev.busy.length from abe _];exact hf))
   rw[e] at hq
   cases hq
   exact Hh s p A w h he hf
  ·have e1:p.nf.bf.1=true:=by
    unfold Sk.bf;rw[aaP];rintro(e|e)
    ·exact he (agC.1 e)
    ·rw[show p.nf.dev.busy.length=p.dev.busy.length from abe _] at e;omega
   rw[hq] at e1;obtain rfl:t=true:=e1;exact JK s p A w h hI he oM q (by rw[hq])
def Sk.ov(p:Sk)(F:Int->Bool)(s:ByteArray)(e:Int)(k:Nat):Sk:=if(p.ao k).kind=1/\F (p.ao k).pl=true then p.answer k s e else p
def Sk.dF(p:Sk)(F:Int->Bool)(s:ByteArray)(e:Int):Nat->Sk
 |0=>p
 |k+1=>(p.dF F s e k).ov F s e k
theorem Cf(p:Sk)(F:Int->Bool)(s:ByteArray)(e:Int):∀k,(p.dF F s e k).cl.length=p.cl.length
 |0=>rfl
 |k+1=>by
  have ih:=Cf p F s e k;unfold Sk.dF Sk.ov
  split
  ·unfold Sk.answer;rw[abS];exact ih
  ·exact ih
theorem rE{p:Sk}(h:bg p)(F:Int->Bool)(s:ByteArray)(e:Int):∀k,bg (p.dF F s e k)
 |0=>h
 |k+1=>by
  have ih:=rE h F s e k;unfold Sk.dF Sk.ov
  split
  ·exact ih.answer k s e
  ·exact ih
theorem AL(p:Sk)(hl:p.cl.length=3)(F:Int->Bool)(s:ByteArray)(e:Int):p.dF F s e 3=p.cO F s e:=by
 obtain⟨dev,f,cl,hand,queue,dQ,bI,tags,az,dead,ag⟩:=p;simp only at hl
 match cl,hl with
 |[a,b,c],_ =>
  simp only[Sk.dF,Sk.ov,Sk.cO,Sk.ao,Sk.answer,aft,afz]
  by_cases h0:a.kind=1/\F a.pl=true<;>by_cases h1:b.kind=1/\F b.pl=true<;>by_cases h2:c.kind=1/\F c.pl=true<;>simp[h0,h1,h2]
theorem Bd(p:Sk)(F G:Int->Bool)(s:ByteArray)(e:Int)(h:∀c∈p.cl,c.kind=1->F c.pl=G c.pl):p.cO F s e=p.cO G s e:=by
 unfold Sk.cO
 congr 1
 refine agB (fun c hc=>?_)
 by_cases hk:c.kind=1
 ·rw[h c hc hk]
 ·rw[aaP (fun h'=>hk h'.1),aaP (fun h'=>hk h'.1)]
theorem yT(s:Nat)(p:Sk)(A:Sa)(w:World)(h:bp s p A w)(hI:bg p)(f m:Int)(data:ByteArray)(e:Int)(q:Sk)(hq:p.nf.cO (dO f m) data e=q) :
 Calls prog 89 #[.pointer (some ⟨s,0,none⟩),.agg #[i6 f,i6 m],.string data,dm e] w fun x w'=>x=.returned (.tuple #[])/\fL s p A w w' q:=by
 have aL:=ae h;have HI:=ae hI;have pt:=hI.fV;have HQ:=ae hq;have Vv:Hid (∀p' A' w',bp s p' A' w'->p'.cl.length=3->∀i,i<3->Calls prog 138 #[.pointer (some ⟨s,2+i*6,none⟩),.string data,dm e] w' fun x w2=>x=.returned (.tuple #[])/\bK s p' A' (p'.answer i data e) (A'.drop i) w' w2):=fun p' A' w' h' wY i hi=>qj s p' A' w' h' wY i hi data e
 clear h hq hI;generalize dm e=ev at *;go_enter func89,ntmps89;go_wp2;have hw0:bL w (w.alloc (.cells #[i6 f,i6 m] 144)):=bQ;have IV:(w.alloc (.cells #[i6 f,i6 m] 144)).cell? ⟨w.heap.size,0,none⟩=some (i6 f):=sM;have yn:(w.alloc (.cells #[i6 f,i6 m] 144)).cell? ⟨w.heap.size,1,none⟩=some (i6 m):=sM;generalize hW:w.alloc (.cells #[i6 f,i6 m] 144)=w0 at *;clear hW;have su:=ae (bK.cX aL.out hw0);have HX:=ae (And.intro IV yn);clear hw0 IV yn
 go_loopw[10] (fun i wr=>∃k:Nat,k<=3/\i=i6 k/\PD s p A w0 wr (p.nf.dF (dO f m) data e k)) (fun i _=>3-(intOf i).toNat)
 case atStart=>exact⟨0,oM,rfl,p,A,bK.cX su.out.at' (aX _ _),rfl⟩
 case round =>
  obtain⟨k,hk,rfl,p',A',hs,hn⟩:=hrel;have HS:=ae hs;have HN:=ae hn
  by_cases au:k<3
  ·have gC:(k:Int)<3:=oM;have HL':Hid (p'.cl.length=3):=by
    have h1:p'.nf.cl.length=3:=by rw[hn,Cf];exact pt
    exact h1
   have acF:0<=(p'.ao k).kind/\(p'.ao k).kind<=3:=by
    have h1:=rE HI.out.nf (dO f m) data e k;rw[<-hn] at h1;exact(h1.cD.ao k).kind
   obtain⟨c0,c1,-⟩:=hs.at'.ao k au;have hl:=hs.at'.lt;have b0:=hs.box aL.out (aaO _) HX.out.1;have b1:=hs.box aL.out (aaO _) HX.out.2;have lb:=aq b0;have HE:Hid (p'.nf.ov (dO f m) data e k=if(p'.ao k).kind=1/\dO f m (p'.ao k).pl=true then p'.nf.answer k data e else p'.nf):=ae rfl;clear hs hn;obtain⟨kd,gF⟩:∃kd,(p'.ao k).kind=kd:=⟨_,rfl⟩
   obtain⟨pl,bV⟩:∃pl,(p'.ao k).pl=pl:=⟨_,rfl⟩
   rw[gF] at c0 HE acF;rw[bV] at c1 HE;clear gF bV
   by_cases h1:kd=1
   ·subst h1
    cases hB:dO f m pl
    ·rw[hB,aaP (fun h'=>by cases h'.2)] at HE;have so:=ae hB;clear hB;go_wp2_with fail
     go_region_held3 (fun w'=>w'.cell? ⟨s,2+k*6,none⟩=some (i6 1)/\w'.cell? ⟨s,2+k*6+1,none⟩=some (i6 pl)/\w'.cell? ⟨w.heap.size,0,none⟩=some (i6 f)/\w'.cell? ⟨w.heap.size,1,none⟩=some (i6 m)) (exact⟨ai (w:=wr) bQ c0,ai (w:=wr) bQ c1,ai (w:=wr) bQ b0,ai (w:=wr) bQ b1⟩) (first|(go_at_call 126;refine(sI f m pl _ false so.out).mono ?_;rintro x w1 ⟨rfl,aw⟩))
     all_goals
      have cf:Hid (bK s p A p' A' w0 w1):=HS.out.later bQ;clear aw;go_wp2;go_roundw
      case rel=>exact⟨k+1,oM,gN,p',A',cf.out,by rw[Sk.dF,<-HN.out,HE.out]⟩
      case measure=>simp[intOf];omega
    ·rw[hB,aaV ⟨rfl,rfl⟩] at HE;have so:=ae hB;clear hB;go_wp2_with fail
     go_region_held3 (fun w'=>w'.cell? ⟨s,2+k*6,none⟩=some (i6 1)/\w'.cell? ⟨s,2+k*6+1,none⟩=some (i6 pl)/\w'.cell? ⟨w.heap.size,0,none⟩=some (i6 f)/\w'.cell? ⟨w.heap.size,1,none⟩=some (i6 m)) (exact⟨ai (w:=wr) bQ c0,ai (w:=wr) bQ c1,ai (w:=wr) bQ b0,ai (w:=wr) bQ b1⟩) (first|(go_at_call 126;refine(sI f m pl _ true so.out).mono ?_;rintro x w1 ⟨rfl,aw⟩))
     all_goals
      have cf:Hid (bK s p A p' A' w0 w1):=HS.out.later bQ;clear aw;go_wp2_with fail;refine(Vv.out p' A' _ cf.out.at' HL'.out k au).mono ?_;rintro x w2 ⟨rfl,qC⟩;have ck:=ae (cf.out.trans qC);clear qC;go_wp2;go_roundw
      case rel=>exact⟨k+1,oM,gN,_,_,ck.out,by rw[Sk.dF,<-HN.out,HE.out];rfl⟩
      case measure=>simp[intOf];omega
   ·rw[aaP (fun h'=>h1 h'.1)] at HE;have h4:kd=0\/kd=2\/kd=3:=oM;clear h1 acF
    rcases h4 with rfl|rfl|rfl
    ·go_wp2_with fail
     go_region
     all_goals
      go_wp2;go_roundw
      case rel=>exact⟨k+1,oM,gN,p',A',HS.out.later bQ,by rw[Sk.dF,<-HN.out,HE.out]⟩
      case measure=>simp[intOf];omega
    ·go_wp2_with fail
     go_region
     all_goals
      go_wp2;go_roundw
      case rel=>exact⟨k+1,oM,gN,p',A',HS.out.later bQ,by rw[Sk.dF,<-HN.out,HE.out]⟩
      case measure=>simp[intOf];omega
    ·go_wp2_with fail
     go_region
     all_goals
      go_wp2;go_roundw
      case rel=>exact⟨k+1,oM,gN,p',A',HS.out.later bQ,by rw[Sk.dF,<-HN.out,HE.out]⟩
      case measure=>simp[intOf];omega
  ·obtain rfl:k=3:=oM;clear hs hn;go_wp2;go_end0;refine⟨rfl,p',A',su.out.trans HS.out,HN.out.trans ?_⟩;rw[AL p.nf pt];exact HQ.out
end
end Go.Proofs.YtlhgjplipgandaaGreatDoor
