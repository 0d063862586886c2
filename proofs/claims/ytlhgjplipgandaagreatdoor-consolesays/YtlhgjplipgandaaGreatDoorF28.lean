/- Joined. -/
import Derived.Test.YtlhgjplipgandaaGreatDoorF27
set_option maxRecDepth 100000
set_option maxHeartbeats 8000000
set_option linter.unusedSimpArgs false
set_option linter.unusedSectionVars false
namespace Go.Proofs.YtlhgjplipgandaaGreatDoor
open Tryz
section
open Go.RowKit Go.BigFrame Go.Maps
def gP{α:Type}(f:Nat->α)(c:Nat)(v:α):Nat->α:=fun i=>if i=c then v else f i
theorem kS{α:Type}(f:Nat->α)(c:Nat)(v:α):gP f c v c=v:=aaV rfl
theorem nO{α:Type}{f:Nat->α}{c i:Nat}{v:α}(h:i ≠ c):gP f c v i=f i:=aaP h
section
variable{s:Nat}{p p':Sk}{A A':Rs}{w w':World}
theorem yS(h:p.cl.length=3){c:Nat}(hc:c<3)(x:Cl):({ p with cl:=p.cl.set c x }:Sk).ao c=x:=by
 have:=Sj p h hc (j:=c) x
 rwa [aaV rfl] at this
theorem jB.yR(hm:jB s p' A' w)(hO:aH (fun k=>k=s) w w')(hb:w'.heap[s]?=some (.cells (Rs.cells p' A').toArray 98 (0,0)))(hf:∀k,A'.ay s k->A.ay s k\/w.heap.size<=k)(hs:A.ay s s)(vK:A'.b=A.b/\A'.v=A.v/\A'.bm=A.bm/\A'.X=A.X):bH s p A p' A' w w' :=
 ⟨⟨hb,hm.MH hO (fun k e=>il (il e)) (fun k _ aE=>aE) (fun e=>hm.sv.2 e.symm)⟩,hO.mono (fun k e=>by rw[e];exact hs),hf,vK⟩
theorem sc{c:Nat}{k:Nat}(h:({ A with ka:=gP A.ka c none }:Rs).off s k):A.off s k:=by
 rcases h with(e|e|⟨i,hi,e⟩)|e
 ·exact il (il e)
 ·exact il (ir (il e))
 ·by_cases mF:i=c
  ·subst mF;have e':gP A.ka i none i=some k:=e;rw[kS] at e';cases e'
  ·have e':gP A.ka c none i=some k:=e;rw[nO mF] at e';exact il (ir (ir ⟨i,hi,e'⟩))
 ·exact ir e
theorem qm{c i k:Nat}(h:gP A.ka c none i=some k):i ≠ c/\A.ka i=some k:=by
 by_cases mF:i=c
 ·subst mF;rw[kS] at h;cases h
 ·rw[nO mF] at h;exact⟨mF,h⟩
theorem jB.ada(h:jB s p A w){c:Nat}(hc:c<3)(x:Cl)(hx:x.kind=0):jB s { p with cl:=p.cl.set c x } { A with ka:=gP A.ka c none } w where
 fV:=by show(p.cl.set c x).length=3;rw[abS];exact h.fV
 cE:=h.cE
 tied:=h.tied
 busy:=h.busy
 map:=h.map
 im:=h.im
 nb:=h.nb
 wb:=h.wb
 hand:=h.hand
 cU:=h.cU
 bS:=h.bS
 queue:=h.queue
 fe:=h.fe
 fA:=h.fA
 asks:=fun i hi k hk=>by
  obtain⟨mF,eH⟩:=qm hk;rw[ny p mF];exact h.asks i hi k eH
 idle:=fun i hi hk=>by
  by_cases mF:i=c
  ·subst mF;rw[yS h.fV hi];exact hx
  ·rw[ny p mF];have eH:gP A.ka c none i=none:=hk;rw[nO mF] at eH;exact h.idle i hi eH
 sv:=h.sv
 kv:=fun i hi k hk=>h.kv i hi k (qm hk).2
 kk:=fun i j hi hj qB k hk eH=>h.kk i j hi hj qB k (qm hk).2 (qm eH).2
 eX:=fun aE q hq e=>h.eX aE q hq (sc e)
 km:=fun aE q hq e=>h.km aE q hq (sc e)
 eY:=fun r hr=>⟨fun he ad ha e=>(h.eY r hr).1 he ad ha (sc e),fun he ad ha e=>(h.eY r hr).2 he ad ha (sc e)⟩
 iF:=fun i hi k hk aE q hq e=>h.iF i hi k (qm hk).2 aE q hq (sc e)
 mS:=fun aE q hq e=>h.mS aE q hq (sc e)
 gW:=h.gW
theorem QB{c:Nat}{k:Nat}(h:({ A with ka:=gP A.ka c none }:Rs).ay s k):A.ay s k:=by
 rcases h with e|e|⟨i,hi,e⟩
 ·exact il e
 ·exact ir (il e)
 ·exact ir (ir ⟨i,hi,(qm e).2⟩)
theorem bN.answer(h:bN s p A w){c:Nat}(hc:c<3)(d:ByteArray)(f:Int):bH s p A (p.answer c d f) { A with ka:=gP A.ka c none } w (((w.setCell ⟨s,11+c,none⟩ (.pointer none)).setCell ⟨s,14+c,none⟩ (.string d)).setCell ⟨s,17+c,none⟩ (i6 f)):=by
 refine(h.mem.ada hc ⟨0,0,bE,[],d,f⟩ rfl).yR ?_ ?_ (fun k hk=>il (QB hk)) (il rfl) ⟨rfl,rfl,rfl,rfl⟩
 ·exact(((aH.refl (fun k=>k=s) w).setCell _ (il rfl) _).setCell _ (il rfl) _).setCell _ (il rfl) _
 ·rw[bJ (bJ (bJ h.a7 _ _) _ _)];obtain⟨x,y,z,e⟩:=Ah h.mem.fV;obtain⟨dev,ff,cl,hand,queue,dQ,bI,tags,az,dead,ag⟩:=p;simp only at e;subst e
  match c,hc with
  |0,_=>rfl
  |1,_=>rfl
  |2,_=>rfl
theorem bN.fE(h:bN s p A w){c:Nat}(hc:c<3):w.cell? ⟨s,11+c,none⟩=some (tU A c)/\w.frozen? ⟨s,11+c,none⟩=false:=by
 refine⟨?_,h.fz _⟩
 match c,hc with
 |0,_=>exact h.cell _ _ rfl
 |1,_=>exact h.cell _ _ rfl
 |2,_=>exact h.cell _ _ rfl
theorem bN.c14(h:bN s p A w){c:Nat}(hc:c<3):w.cell? ⟨s,14+c,none⟩=some (.string (p.ao c).gO)/\w.frozen? ⟨s,14+c,none⟩=false:=by
 refine⟨?_,h.fz _⟩
 match c,hc with
 |0,_=>exact h.cell _ _ rfl
 |1,_=>exact h.cell _ _ rfl
 |2,_=>exact h.cell _ _ rfl
theorem bN.c17(h:bN s p A w){c:Nat}(hc:c<3):w.cell? ⟨s,17+c,none⟩=some (i6 (p.ao c).err)/\w.frozen? ⟨s,17+c,none⟩=false:=by
 refine⟨?_,h.fz _⟩
 match c,hc with
 |0,_=>exact h.cell _ _ rfl
 |1,_=>exact h.cell _ _ rfl
 |2,_=>exact h.cell _ _ rfl
theorem jB.fT(h:jB s p A w)(l:List Bf)(a':Option Addr)(c':Nat)(u:Int)(hB:bA w a' l)(bS:l.length<=c')(cU:a'=none->c'=0)(ho:l ≠ []->∀q,a'=some q->¬A.off s q.block):jB s { p with hand:=l,az:=u } { A with ha:=a',hc:=c' } w where
 fV:=h.fV
 cE:=h.cE
 tied:=h.tied
 busy:=h.busy
 map:=h.map
 im:=h.im
 nb:=h.nb
 wb:=h.wb
 hand:=hB
 cU:=cU
 bS:=bS
 queue:=h.queue
 fe:=h.fe
 fA:=h.fA
 asks:=h.asks
 idle:=h.idle
 sv:=h.sv
 kv:=h.kv
 kk:=h.kk
 eX:=ho
 km:=h.km
 eY:=h.eY
 iF:=h.iF
 mS:=h.mS
 gW:=h.gW
theorem bN.o6(h:bN s p A w)(u:Int):bH s p A { p with az:=u } A w (w.setCell ⟨s,9,none⟩ (i6 u)) :=
 h.put (p':={ p with az:=u }) (A':=A) { h.mem with } 9 _ rfl (fun _ hk=>il hk) ⟨rfl,rfl,rfl,rfl⟩
theorem bN.fT(h:bN s p A w)(l:List Bf)(a':Option Addr)(c':Nat)(hB:bA w a' l)(bS:l.length<=c')(cU:a'=none->c'=0)(ho:l ≠ []->∀q,a'=some q->¬A.off s q.block):bH s p A { p with hand:=l } { A with ha:=a',hc:=c' } w (w.setCell ⟨s,2,none⟩ (.slice a' l.length c')) :=
 h.put (p':={ p with hand:=l }) (A':={ A with ha:=a',hc:=c' }) (h.mem.fT l a' c' p.az hB bS cU ho) 2 _ rfl (fun _ hk=>il hk) ⟨rfl,rfl,rfl,rfl⟩
theorem jB.p7(h:jB s p A w)(L:List Rq)(a':Option Addr)(c':Nat)(n:Int)(hR:aW w a' L)(bS:L.length<=c')(cU:a'=none->c'=0)(ho:L ≠ []->∀q,a'=some q->¬A.off s q.block)(zz:∀r∈L,r.dB (A.off s)):jB s { p with queue:=L,tags:=n } { A with qa:=a',qc:=c' } w where
 fV:=h.fV
 cE:=h.cE
 tied:=h.tied
 busy:=h.busy
 map:=h.map
 im:=h.im
 nb:=h.nb
 wb:=h.wb
 hand:=h.hand
 cU:=h.cU
 bS:=h.bS
 queue:=hR
 fe:=cU
 fA:=bS
 asks:=h.asks
 idle:=h.idle
 sv:=h.sv
 kv:=h.kv
 kk:=h.kk
 eX:=h.eX
 km:=ho
 eY:=fun r hr=>(abh.1 hr).elim (zz r) (fun h'=>h.eY r (aa8 _ h'))
 iF:=h.iF
 mS:=h.mS
 gW:=h.gW
theorem bN.p7(h:bN s p A w)(L:List Rq)(a':Option Addr)(c':Nat)(n:Int)(hR:aW w a' L)(bS:L.length<=c')(cU:a'=none->c'=0)(ho:L ≠ []->∀q,a'=some q->¬A.off s q.block)(zz:∀r∈L,r.dB (A.off s)):bH s p A { p with queue:=L,tags:=n } { A with qa:=a',qc:=c' } w ((w.setCell ⟨s,3,none⟩ (.slice a' L.length c')).setCell ⟨s,10,none⟩ (i6 n)):=by
 refine(h.mem.p7 L a' c' n hR bS cU ho zz).yR ?_ ?_ (fun k hk=>il hk) (il rfl) ⟨rfl,rfl,rfl,rfl⟩
 ·exact((aH.refl (fun k=>k=s) w).setCell _ (il rfl) _).setCell _ (il rfl) _
 ·rw[bJ (bJ h.a7 _ _)]
  rfl
theorem bN.uX(h:bN s p A w)(u:Int):bH s p A { p with bI:=u } A w (w.setCell ⟨s,8,none⟩ (i6 u)) :=
 h.put (p':={ p with bI:=u }) (A':=A) { h.mem with } 8 _ rfl (fun _ hk=>il hk) ⟨rfl,rfl,rfl,rfl⟩
theorem bN.vY(h:bN s p A w)(b:Bool):bH s p A { p with dead:=b } A w (w.setCell ⟨s,20,none⟩ (.bool b)) :=
 h.put (p':={ p with dead:=b }) (A':=A) { h.mem with } 20 _ rfl (fun _ hk=>il hk) ⟨rfl,rfl,rfl,rfl⟩
theorem bN.gH(h:bN s p A w){c k:Nat}(hc:c<3)(hk:A.ka c=some k)(L:List Int)(a':Option Addr)(c':Nat)(hI:eF w a' L)(cU:a'=none->c'=0)(ho:L ≠ []->∀q,a'=some q->¬A.off s q.block) :
 bH s p A { p with cl:=p.cl.set c { p.ao c with left:=L } } { A with la:=gP A.la c a',lc:=gP A.lc c c',lk:=gP A.lk c L } w (w.setCell ⟨k,3,none⟩ (.slice a' L.length c')):=by
 have hO:aH (fun j=>j=k) w (w.setCell ⟨k,3,none⟩ (.slice a' L.length c')):=(aH.refl (fun j=>j=k) w).setCell ⟨k,3,none⟩ (il rfl) _;have hkf:A.ay s k:=ir (ir ⟨c,hc,hk⟩);obtain⟨k1,k2,k3⟩:=h.mem.kv c hc k hk;have hA:=h.mem.asks c hc k hk;have AH:∀{q:Addr},¬A.off s q.block->¬q.block=k:=fun hn e=>hn (by rw[e];exact il hkf)
 refine⟨⟨?_,?_⟩,hO.mono (fun j e=>by rw[e];exact hkf),fun j hj=>il hj,rfl,rfl,rfl,rfl⟩
 ·rw[hO.block s h.lt (fun e=>k1 e.symm),h.a7]
  congr 2
  obtain⟨x,y,z,e⟩:=Ah h.mem.fV;obtain⟨dev,ff,cl,hand,queue,dQ,bI,tags,az,dead,ag⟩:=p;simp only at e;subst e
  match c,hc with
  |0,_=>rfl
  |1,_=>rfl
  |2,_=>rfl
 ·exact {
   fV:=by show(p.cl.set c _).length=3;rw[abS];exact h.mem.fV
   cE:=h.mem.cE.SH hO (fun j e e'=>k3 (e'▸e)) (fun e=>k2 e.symm) (by rw[h.mem.busy];exact fun aE q hq=>AH (h.mem.mS aE q hq)) (by rw[h.mem.busy];exact fun r hr=>⟨fun he ad ha=>AH ((h.mem.eY r (aa8 _ hr)).1 he ad ha),fun he ad ha=>AH ((h.mem.eY r (aa8 _ hr)).2 he ad ha)⟩)
   tied:=h.mem.tied
   busy:=h.mem.busy
   map:=h.mem.map
   im:=h.mem.im
   nb:=h.mem.nb
   wb:=h.mem.wb
   hand:=oc h.mem.hand hO (fun aE q hq=>AH (h.mem.eX aE q hq))
   cU:=h.mem.cU
   bS:=h.mem.bS
   queue:=mW h.mem.queue hO (fun aE q hq=>AH (h.mem.km aE q hq)) (fun r hr=>⟨fun he ad ha=>AH ((h.mem.eY r (abn _ hr)).1 he ad ha),fun he ad ha=>AH ((h.mem.eY r (abn _ hr)).2 he ad ha)⟩)
   fe:=h.mem.fe
   fA:=h.mem.fA
   asks:=fun i hi j hj=>by
    by_cases e:i=c
    ·subst e;have nB:A.ka i=some j:=hj;rw[hk] at nB;obtain rfl:=abY nB;rw[yS h.mem.fV hi];show sk _ k { p.ao i with left:=L } (gP A.la i a' i) (gP A.lk i L i) (gP A.lc i c' i);rw[kS,kS,kS];refine⟨?_,hA.kind,Ay hI hO (fun aE q hq=>AH (ho aE q hq)),cU,fun _=>rfl⟩;rw[bJ hA.a7]
     rfl
    ·rw[ny p e];show sk _ j (p.ao i) (gP A.la c a' i) (gP A.lk c L i) (gP A.lc c c' i);rw[nO e,nO e,nO e];exact(h.mem.asks i hi j hj).frame hO (fun e'=>h.mem.kk i c hi hc e j hj (by rw[e'];exact hk)) (fun aE q hq=>AH (h.mem.iF i hi j hj aE q hq))
   idle:=fun i hi hj=>by
    by_cases e:i=c
    ·subst e;have nB:A.ka i=none:=hj;rw[hk] at nB;cases nB
    ·rw[ny p e];exact h.mem.idle i hi hj
   sv:=h.mem.sv
   kv:=h.mem.kv
   kk:=h.mem.kk
   eX:=h.mem.eX
   km:=h.mem.km
   eY:=h.mem.eY
   iF:=fun i hi j hj aE q hq=>by
    by_cases e:i=c
    ·subst e;have qJ:gP A.lk i L i ≠ []:=aE;have cI:gP A.la i a' i=some q:=hq;rw[kS] at qJ cI;exact ho qJ q cI
    ·have qJ:gP A.lk c L i ≠ []:=aE;have cI:gP A.la c a' i=some q:=hq;rw[nO e] at qJ cI;exact h.mem.iF i hi j hj qJ q cI
   mS:=h.mem.mS
   gW:=fun j e=>abF (h.mem.gW j e) hO.size }
theorem GK{w:World}{a:Option Addr}{l:List Bf}(h:bA w a l)(aE:l ≠ []){q:Addr}(hq:a=some q):q.block<w.heap.size:=by
 rcases h.1 with e|⟨b',o',ha,hc⟩
 ·exact absurd e aE
 ·have:l.length ≠ 0:=fun e=>aE (aaZ e)
  have:=aq (hc 0 oM 0 oM);rw[ha] at hq;simp only[aa4] at hq;subst hq;exact this
theorem zH{w:World}{a:Option Addr}{l:List Rq}(h:aW w a l)(aE:l ≠ []){q:Addr}(hq:a=some q):q.block<w.heap.size:=by
 rcases h.1 with e|⟨b',o',ha,hc⟩
 ·exact absurd e aE
 ·have:l.length ≠ 0:=fun e=>aE (aaZ e)
  have:=aq (hc 0 oM 0 oM);rw[ha] at hq;simp only[aa4] at hq;subst hq;exact this
theorem bN.asked(h:bN s p A w){w1:World}(hb:bL w w1){c k:Nat}(hc:c<3)(hk:w.heap.size<=k)(x:Cl)(L:List Int)(a':Option Addr)(n:Nat)(hA:sk w1 k x a' L n)(ho:L ≠ []->∀q,a'=some q->w.heap.size<=q.block/\q.block ≠ k)(hx:x.gO=(p.ao c).gO/\x.err=(p.ao c).err)(iT:A.ka c=none) :
 bH s p A { p with cl:=p.cl.set c x } { A with ka:=gP A.ka c (some k),la:=gP A.la c a',lc:=gP A.lc c n,lk:=gP A.lk c L } w (w1.setCell ⟨s,11+c,none⟩ (.pointer (some ⟨k,0,none⟩))):=by
 have h1:=h.later hb;have hO:aH (fun j=>j=s) w1 (w1.setCell ⟨s,11+c,none⟩ (.pointer (some ⟨k,0,none⟩))):=(aH.refl (fun j=>j=s) w1).setCell ⟨s,11+c,none⟩ (il rfl) _;have hks:k ≠ s:=fun e=>by have:=h.lt;omega
 have oA:∀{i j:Nat},gP A.ka c (some k) i=some j->(i=c/\j=k)\/(i ≠ c/\A.ka i=some j):=by
  intro i j e
  by_cases mF:i=c
  ·subst mF;rw[kS] at e;exact il ⟨rfl,(abY e).symm⟩
  ·rw[nO mF] at e;exact ir ⟨mF,e⟩
 have eX:∀j,({ A with ka:=gP A.ka c (some k),la:=gP A.la c a',lc:=gP A.lc c n,lk:=gP A.lk c L }:Rs).off s j->A.off s j\/j=k:=by
  rintro j ((e|e|⟨i,hi,e⟩)|e)
  ·exact il (il (il e))
  ·exact il (il (ir (il e)))
  ·rcases oA e with⟨_,rfl⟩|⟨_,e'⟩
   ·exact ir rfl
   ·exact il (il (ir (ir ⟨i,hi,e'⟩)))
  ·exact il (ir e)
 have nf:∀{q:Addr},¬A.off s q.block->q.block<w.heap.size->¬({ A with ka:=gP A.ka c (some k),la:=gP A.la c a',lc:=gP A.lc c n,lk:=gP A.lk c L }:Rs).off s q.block:=fun hn hl e=>(eX _ e).elim hn (fun e=>oM)
 have offs:∀{q:Addr},¬A.off s q.block->¬q.block=s:=fun hn e=>hn (by rw[e];exact il (il rfl))
 have mH:jB s p A (w1.setCell ⟨s,11+c,none⟩ (.pointer (some ⟨k,0,none⟩))):=h1.mem.MH hO (fun j e=>il (il e)) (fun j _ aE=>aE) (fun e=>h1.mem.sv.2 e.symm);refine⟨⟨?_,?_⟩,(aH.cj (F:=A.ay s) hb).trans hO (fun j e=>il (by rw[e];exact il rfl)),?_,rfl,rfl,rfl,rfl⟩
 ·rw[bJ h1.a7]
  congr 2
  obtain⟨x0,y,z,e⟩:=Ah h.mem.fV;obtain⟨dev,ff,cl,hand,queue,dQ,bI,tags,az,dead,ag⟩:=p;simp only at e;subst e;obtain⟨xk,xp,xd,xl,xg,xe⟩:=x;obtain⟨yn,kD⟩:=hx;simp only at yn kD;subst yn kD
  match c,hc with
  |0,_=>rfl
  |1,_=>rfl
  |2,_=>rfl
 ·exact {
   fV:=by show(p.cl.set c _).length=3;rw[abS];exact h.mem.fV
   cE:=mH.cE
   tied:=mH.tied
   busy:=mH.busy
   map:=mH.map
   im:=mH.im
   nb:=mH.nb
   wb:=mH.wb
   hand:=mH.hand
   cU:=mH.cU
   bS:=mH.bS
   queue:=mH.queue
   fe:=mH.fe
   fA:=mH.fA
   asks:=fun i hi j hj=>by
    rcases oA hj with⟨rfl,rfl⟩|⟨mF,nB⟩
    ·rw[yS h.mem.fV hi];show sk _ j x (gP A.la i a' i) (gP A.lk i L i) (gP A.lc i n i);rw[kS,kS,kS];exact hA.frame hO hks (fun aE q hq e=>by have:=(ho aE q hq).1;have:=h.lt;omega)
    ·rw[ny p mF];show sk _ j (p.ao i) (gP A.la c a' i) (gP A.lk c L i) (gP A.lc c n i);rw[nO mF,nO mF,nO mF];exact mH.asks i hi j nB
   idle:=fun i hi hj=>by
    have nB:gP A.ka c (some k) i=none:=hj
    by_cases e:i=c
    ·subst e;rw[kS] at nB;cases nB
    ·rw[ny p e];rw[nO e] at nB;exact h.mem.idle i hi nB
   sv:=mH.sv
   kv:=fun i hi j hj=>by
    rcases oA hj with⟨rfl,rfl⟩|⟨mF,nB⟩
    ·exact⟨hks,fun e=>by have e':j=A.v:=e;have:=aK h.mem.cE.a7;omega,fun e=>by have:=h.mem.cE.bC _ e;omega⟩
    ·exact h.mem.kv i hi j nB
   kk:=fun i j hi hj qB m hm Ts=>by
    rcases oA hm with⟨rfl,rfl⟩|⟨mF,acJ⟩<;>rcases oA Ts with⟨e1,e2⟩|⟨hjc,YW⟩
    ·exact qB e1.symm
    ·have:=h.mem.CK hj YW;omega
    ·have:=h.mem.CK hi acJ;omega
    ·exact h.mem.kk i j hi hj qB m acJ YW
   eX:=fun aE q hq=>nf (h.mem.eX aE q hq) (GK h.mem.hand aE hq)
   km:=fun aE q hq=>nf (h.mem.km aE q hq) (zH h.mem.queue aE hq)
   eY:=fun r hr=>by
    have eB:r.At w:=by
     rcases abh.1 hr with h'|h'
     ·exact h.mem.queue.2.1 r h'
     ·have:=h.mem.cE.dev.fb.2.1 r (by rw[h.mem.busy];exact h');exact this
    exact⟨fun he ad ha=>nf ((h.mem.eY r hr).1 he ad ha) (zQ eB.data he ha),fun he ad ha=>nf ((h.mem.eY r hr).2 he ad ha) (sa eB.tags he ha)⟩
   iF:=fun i hi j hj aE q hq=>by
    rcases oA hj with⟨rfl,rfl⟩|⟨mF,nB⟩
    ·have qJ:gP A.lk i L i ≠ []:=aE;have cI:gP A.la i a' i=some q:=hq;rw[kS] at qJ cI;obtain⟨g1,g2⟩:=ho qJ q cI;exact fun e=>(eX _ e).elim (fun e=>by have:=h.ky _ e;omega) g2
    ·have qJ:gP A.lk c L i ≠ []:=aE;have cI:gP A.la c a' i=some q:=hq;rw[nO mF] at qJ cI;exact nf (h.mem.iF i hi j nB qJ q cI) (sa (h.mem.asks i hi j nB).ints qJ cI)
   mS:=fun aE q hq=>nf (h.mem.mS aE q hq) (zH h.mem.cE.dev.fb (by rw[h.mem.busy];exact aE) hq)
   gW:=mH.gW }
 ·rintro j (e|e|⟨i,hi,e⟩)
  ·exact il (il e)
  ·exact il (ir (il e))
  ·rcases oA e with⟨_,rfl⟩|⟨_,e'⟩
   ·exact ir hk
   ·exact il (ir (ir ⟨i,hi,e'⟩))
end
theorem o5(s:Nat)(p:Sk)(A:Rs)(w:World)(h:bN s p A w)(c:Nat)(hc:c<3)(d:ByteArray)(f:Int):Calls prog 106 #[.pointer (some ⟨s,0,none⟩),i6 c,.string d,i6 f] w fun e w'=>e=.returned (.tuple #[])/\bH s p A (p.answer c d f) { A with ka:=gP A.ka c none } w w':=by
 obtain⟨a1,a2⟩:=h.fE hc;obtain⟨b1,b2⟩:=h.c14 hc;obtain⟨c1,c2⟩:=h.c17 hc;have hl:=h.lt;have BS:(0:Int)<=(c:Int):=oM;have DG:(c:Int)<3:=oM;have aL:=ae (h.answer hc d f);clear h;generalize tU A c=av at *;generalize (p.ao c).gO=gv at *;generalize (p.ao c).err=ev at *;go_enter func106,ntmps106;go_wp2;go_end0;exact⟨rfl,aL.out⟩
def zY(c:Cl):Prop:=c.err=0\/(0<c.err/\c.gO=bE)
theorem Xw(s:Nat)(p:Sk)(A:Rs)(w:World)(h:bN s p A w)(c:Nat)(hc:c<3)(hg:zY (p.ao c)):Calls prog 51 #[.pointer (some ⟨s,0,none⟩),i6 c] w (rB (.tuple #[.string (p.ao c).gO,i6 (p.ao c).err]) w):=by
 obtain⟨b1,-⟩:=h.c14 hc;obtain⟨c1,-⟩:=h.c17 hc;have hl:=h.lt;have BS:(0:Int)<=(c:Int):=oM;have DG:(c:Int)<3:=oM;clear h;unfold zY at hg;generalize (p.ao c).gO=gv at *;generalize (p.ao c).err=ev at *
 rcases hg with rfl|⟨h0,rfl⟩
 ·go_enter func51,ntmps51;go_wp2
  go_ret2
  exact⟨rfl,aX _ _⟩
 ·go_enter func51,ntmps51;go_wp2_with fail
  go_region
  go_wp2
  go_ret2
  exact⟨rfl,(aX _ _).drew⟩
def xC(b v bm:Nat)(m:Rd)(ra:Ra)(bX:Nat):Rs:=⟨b,v,bm,m,ra,0,.map [],fun _=>none,fun _=>none,fun _=>0,fun _=>[],none,0,none,0,fun _=>False,bX⟩
theorem Be(b:Nat)(d:Dl)(m:Rd)(ra:Ra)(w:World)(h:dw b m ra w)(ht:kN d m)(hb:m.busy=[])(hd:d.busy=[])(bX:Nat)(hw:m.waits.length<=4*bX) :
 Calls prog 32 #[.pointer (some ⟨b,0,none⟩)] w fun e w'=>∃s v bm,e=.returned (.pointer (some ⟨s,0,none⟩))/\bN s { oQ with dev:=d } (xC b v bm m ra bX) w'/\bL w w'/\w.heap.size<=s/\w.heap.size<=v/\w.heap.size<=bm:=by
 have HD:=ae h;have HT:=ae (And.intro ht (And.intro hb (And.intro hd hw)));have qz:=h.lt;clear h ht hb hd hw;have Tt:=@run_makeMap prog;go_enter func32,ntmps32;go_wp2;go_ret;have hbA:=aA w (.map #[] 0);have hbB:=aA (w.alloc (.map #[] 0)) (.cells #[.pointer (some ⟨b,0,none⟩),.map (some w.heap.size)] 133);have hbC:=aA ((w.alloc (.map #[] 0)).alloc (.cells #[.pointer (some ⟨b,0,none⟩),.map (some w.heap.size)] 133)) (.cells (Rs.cells { oQ with dev:=d } (xC b (w.heap.size+1) w.heap.size m ra bX)).toArray 98);have hbN:=af (af hbA hbB) hbC;have hr:lj (w.heap.size+1) b w.heap.size m ra 0 (.map []) (((w.alloc (.map #[] 0)).alloc (.cells #[.pointer (some ⟨b,0,none⟩),.map (some w.heap.size)] 133)).alloc (.cells (Rs.cells { oQ with dev:=d } (xC b (w.heap.size+1) w.heap.size m ra bX)).toArray 98)):=by
  refine⟨HD.out.later hbN,?_,?_,fun k hk=>by have:=HD.out.bC k hk;omega⟩
  ·have:=acm (w.alloc (.map #[] 0)) (.cells #[.pointer (some ⟨b,0,none⟩),.map (some w.heap.size)] 133);rw[aaW] at this;rw[hbC.block _ sM];exact this
  ·have:=(agf w prog 3 (plainElem (H:=Unit) prog 3))
   exact mJ (mJ this (hbB.block _ sM)) (hbC.block _ (by simp;omega))
 refine⟨w.heap.size+1+1,w.heap.size+1,w.heap.size,sM,⟨?_,?_⟩,hbN,oM,oM,oM⟩
 ·have:=acm ((w.alloc (.map #[] 0)).alloc (.cells #[.pointer (some ⟨b,0,none⟩),.map (some w.heap.size)] 133)) (.cells (Rs.cells { oQ with dev:=d } (xC b (w.heap.size+1) w.heap.size m ra bX)).toArray 98);rw[aaW,aaW] at this;exact this
 ·obtain⟨ht,hb,hd,hw⟩:=HT.out;exact {
   fV:=rfl
   cE:=hr
   tied:=ht
   busy:=hb.trans hd.symm
   map:=IY
   im:=⟨[],rfl⟩
   nb:=ach _
   wb:=hw
   hand:=⟨il rfl,by show 0<=_;omega⟩
   cU:=fun _=>rfl
   bS:=aaO 0
   queue:=⟨il rfl,(fun r hr=>by cases hr),by show 0<=_;omega⟩
   fe:=fun _=>rfl
   fA:=aaO 0
   asks:=fun i _ k hk=>by cases hk
   idle:=fun i hi _=>by
    match i,hi with
    |0,_=>rfl
    |1,_=>rfl
    |2,_=>rfl
   sv:=⟨fun e=>by
    rcases e with e|e
    ·have e':w.heap.size+1+1=w.heap.size:=e
     omega
    ·have:=HD.out.bC _ e;omega,fun e=>by have e':w.heap.size+1+1=w.heap.size+1:=e;omega⟩
   kv:=fun i _ k hk=>by cases hk
   kk:=fun i j _ _ _ k hk=>by cases hk
   eX:=fun aE=>absurd rfl aE
   km:=fun aE=>absurd rfl aE
   eY:=fun r hr=>by
    have dj:r∈([]:List Rq)++d.busy:=hr;rw[hd] at dj
    cases dj
   iF:=fun i _ k hk=>by cases hk
   mS:=fun aE=>absurd hd aE
   gW:=fun _ e=>e.elim }
end
section
open Go.RowKit
def cd(p:Sk):Prop:=∀c∈p.cl,zY c
theorem GV(s:ByteArray):zY ⟨0,0,bE,[],s,0⟩:=il rfl
theorem OY(e:Int)(h:0<e):zY ⟨0,0,bE,[],bE,e⟩:=ir ⟨h,rfl⟩
section
variable{p:Sk}
theorem cd.ao(h:cd p)(i:Nat):zY (p.ao i):=by
 unfold Sk.ao;rw[abd]
 cases e:p.cl[i]? with
 |none=>exact il rfl
 |some c=>exact h c (acg e)
theorem cd.set{q:Sk}(h:cd p)(i:Nat)(x:Cl)(hx:zY x)(hq:q.cl=p.cl.set i x):cd q:=fun c hc=>by
 rw[hq] at hc;exact(acb hc).elim (h c) (fun e=>e▸hx)
theorem cd.same{q:Sk}(h:cd p)(hq:q.cl=p.cl):cd q:=fun c hc=>h c (hq▸hc)
theorem cd.gI(h:cd p)(pl:Int)(wr:Bool)(data:List ByteArray):cd (p.gI pl wr data).2:=h.same (CL p pl wr data)
theorem cd.aY(h:cd p)(i:Nat):cd (p.aY i):=by
 unfold Sk.aY
 split
 ·unfold Sk.gd
  split
  ·exact h.set i _ (GV _) rfl
  ·split
   ·exact h
   ·exact h.gI _ _ _
 split
 ·unfold Sk.dH
  split
  ·exact h.set i _ (OY 9 oM) rfl
  split
  ·exact h
  split
  ·exact h.set i _ (GV _) rfl
  ·exact h.same rfl
 split
 ·unfold Sk.eQ
  split
  ·exact h.set i _ (OY 9 oM) rfl
  split
  ·exact h.set i _ (GV _) rfl
  ·exact h.set i { p.ao i with left:=(p.ao i).left.filter (bY p.hand) } (h.ao i) rfl
 ·exact h
theorem cd.serve(h:cd p):cd p.serve:=((h.aY 0).aY 1).aY 2
theorem cd.ask(h:cd p)(c kind pl:Int)(data:ByteArray):cd (p.ask c kind pl data).2:=by
 unfold Sk.ask
 split
 ·exact h
 split
 ·exact h
 ·exact cd.serve (h.set (q:=p.asks c.toNat kind pl data) c.toNat { p.ao c.toNat with kind:=kind,pl:=pl,data:=data,left:=if kind=3 then bU p.hand else(p.ao c.toNat).left } (h.ao c.toNat) rfl)
theorem cd.tick(h:cd p):cd p.tick:=cd.serve (h.same rfl)
theorem cd.clean(h:cd p):cd p.clean.2:=by
 unfold Sk.clean
 split
 ·exact h
 split
 ·exact h
 ·exact h.gI _ _ _
theorem cd.bf(h:cd p):cd p.bf.2:=by
 unfold Sk.bf
 split
 ·exact h
 ·exact h.same rfl
theorem cd.bP(n:Nat):∀{p:Sk},cd p->cd (p.bP n):=by
 induction n with
 |zero=>exact fun h=>h
 |succ n ih =>
  intro p h;unfold Sk.bP
  split
  ·exact ih h.bf
  ·exact h
theorem cd.cO(h:cd p)(F:Int->Bool)(s:ByteArray)(e:Int)(he:e=0\/(0<e/\s=bE)):cd (p.cO F s e):=fun c hc=>by
 obtain⟨x,hx,rfl⟩:=acM.1 hc
 split
 ·exact he
 ·exact h x hx
theorem cd.dJ(h:cd p)(pl:Int)(s:ByteArray):cd (p.dJ pl s):=by
 unfold Sk.dJ
 split
 ·exact h
 split
 ·exact cd.cO (p:={ p with hand:=_,az:=p.az+1 }) (h.same rfl) _ _ _ (il rfl)
 ·exact h.cO _ _ _ (il rfl)
theorem cd.en(h:cd p)(r:Rq)(xs:List ByteArray)(j:Nat):cd (p.en r xs j):=by
 unfold Sk.en
 split
 ·exact h.same rfl
 ·exact h.dJ _ _
theorem cd.cT(h:cd p)(r:Rq)(xs:List ByteArray):∀n,cd (p.cT r xs n)
 |0=>h
 |n+1=>by rw[iZ];exact(h.cT r xs n).en r xs n
theorem cd.cz(h:cd p)(i:Int)(fault:Bool):cd (p.cz i fault).2:=by
 unfold Sk.cz
 split
 ·exact h
 split
 ·exact h
 split
 ·exact cd.serve (cd.cT (p:=(p.bD i.toNat).cr _) (h.same rfl) _ _ _)
 split
 ·exact h.same rfl
 split
 ·exact cd.serve (h.same rfl)
 ·exact cd.serve (cd.cO (h.same rfl) _ _ _ (ir ⟨oM,rfl⟩))
theorem cd.round(h:cd p):cd p.round:=(h.tick.clean.bP 3).cz 0 false
theorem cd.settle(n:Nat):∀{p:Sk},cd p->cd (p.settle n).2:=by
 induction n with
 |zero=>exact fun h=>h
 |succ n ih =>
  intro p h;unfold Sk.settle
  split
  ·exact h
  ·exact ih h.round
theorem Pp:cd oQ:=fun c hc=>by
 rcases acj.1 hc with rfl|hc
 ·exact il rfl
 rcases acj.1 hc with rfl|hc
 ·exact il rfl
 rcases acj.1 hc with rfl|hc
 ·exact il rfl
 ·cases hc
end
def Sk.all(p:Sk):List Rq:=p.queue++p.dev.busy
def cq(p:Sk):Prop:=∀r∈p.all,∀a:Int,r.on a->(∀x,fa p.hand a=some x->x.bM=true)/\(r.wr=true->∃x,fa p.hand a=some x)
theorem bz.C0{r:Rq}(g:bz r){a:Int}(h:r.on a):0<=a/\a<=31:=by
 have:=g.uG;obtain⟨h1,h2⟩:=h
 omega
theorem ZT{p:Sk}(hI:bg p){r:Rq}(hr:r∈p.all){a:Int}(h:r.on a):p.held a=true:=by
 cases e:p.held a
 ·exact absurd h ((Lb hI a ((hI.bO r hr).C0 h).2).1 e r hr)
 ·rfl
section
variable{p:Sk}
theorem cq.congr{q:Sk}(h:cq p)(hh:q.hand=p.hand)(ha:∀r∈q.all,r∈p.all):cq q:=fun r hr a ho=>by rw[hh];exact h r (ha r hr) a ho
theorem cq.map(h:cq p)(g:Bf->Bf)(hg:∀x,(g x).pl=x.pl){q:Sk}(hh:q.hand=p.hand.map g)(ha:∀r∈q.all,r∈p.all/\∀a,r.on a->∀x,x.pl=a->(g x).bM=x.bM):cq q:=by
 intro r hr a ho;obtain⟨h1,h2⟩:=ha r hr;obtain⟨t1,t2⟩:=h r h1 a ho;rw[hh,W3 _ g hg];refine⟨fun x hx=>?_,fun hw=>?_⟩
 ·obtain⟨y,hy,rfl⟩:=Option.map_eq_some_iff.1 hx;rw[h2 a ho y (BH hy).2];exact t1 y hy
 ·obtain⟨y,hy⟩:=t2 hw;exact⟨g y,by rw[hy];rfl⟩
theorem cq.put(hI:bg p)(h:cq p){x:Bf}{m:List Bf}(hp:jw p.hand x p.held=some m)(hx:x.bM=true\/∀r∈p.all,¬r.on x.pl){q:Sk}(hh:q.hand=m)(ha:q.all=p.all):cq q:=by
 intro r hr a ho;rw[ha] at hr;obtain⟨t1,t2⟩:=h r hr a ho;have P:=uW hI.hand hp;have adY:=ZT hI hr ho;rw[hh]
 by_cases e:a=x.pl
 ·rcases hx with hx|hx
  ·rw[e,P.same];exact⟨fun y hy=>by obtain rfl:=abY hy;exact hx,fun _=>⟨x,rfl⟩⟩
  ·exact absurd (e▸ho) (hx r hr)
 ·rcases P.other a e with e1|⟨_,_,y,_,_,hf⟩
  ·rw[e1];exact⟨t1,t2⟩
  ·rw[adY] at hf;cases hf
theorem cq.gI(hI:bg p)(h:cq p)(pl:Int)(bV:0<=pl/\pl<=31)(wr:Bool)(data:List ByteArray)(hd:(wr=true/\data.length=1/\∀s∈data,s.size<=4)\/(wr=false/\data=[]))(h1:∀x,fa p.hand pl=some x->x.bM=true)(h2:wr=true->∃x,fa p.hand pl=some x):cq (p.gI pl wr data).2:=by
 rcases vz (p:=p) pl wr data with⟨_,e⟩|⟨L,e1,e⟩
 ·rw[e];exact h
 ·rw[e];have A:=hI.abB bV hd e1;intro r hr a ho
  rcases abh.1 hr with h'|h'
  ·obtain⟨q',cI,ho',bB,_⟩:=A.gS r h' a ho
   rcases acj.1 cI with rfl|h4
   ·rw[Md] at ho';subst ho';exact⟨h1,fun hw=>h2 (bB.trans hw)⟩
   ·obtain⟨t1,t2⟩:=h q' (abn _ h4) a ho';exact⟨t1,fun hw=>t2 (bB.trans hw)⟩
  ·exact h r (aa8 _ h') a ho
theorem cq.aY(hI:bg p)(h:cq p)(i:Nat):cq (p.aY i):=by
 have hc:=hI.ao i;unfold Sk.aY
 split
 ·rename_i hk
  have bV:=hc.pl (by rw[hk];omega);unfold Sk.gd
  cases e:fa p.hand (p.ao i).pl with
  |some b=>exact h.map (fun x=>if x.pl=(p.ao i).pl then { x with used:=p.az+1 } else x) (fun x=>by split<;>rfl) rfl (fun _ hr=>⟨hr,fun a _ x _=>by split<;>rfl⟩)
  |none =>
   simp only
   split
   ·exact h
   ·exact h.gI hI _ bV false [] (ir ⟨rfl,rfl⟩) (fun x hx=>by rw[e] at hx;cases hx) (fun hw=>by cases hw)
 split
 ·rename_i hk
  unfold Sk.dH
  split
  ·exact h.congr rfl (fun _ hr=>hr)
  split
  ·exact h
  split
  ·rename_i l e
   exact cq.put hI h e (il rfl) rfl rfl
  ·exact h.congr rfl (fun _ hr=>hr)
 split
 ·unfold Sk.eQ
  split
  ·exact h.congr rfl (fun _ hr=>hr)
  split
  ·exact h.congr rfl (fun _ hr=>hr)
  ·exact h.congr rfl (fun _ hr=>hr)
 ·exact h
theorem cq.serve(hI:bg p)(h:cq p):cq p.serve:=cq.aY ((hI.aY 0).aY 1) (cq.aY (hI.aY 0) (cq.aY hI h 0) 1) 2
theorem MF(hI:bg p):bg ({ p with bI:=if p.bI+1<1000000000 then p.bI+1 else 1000000000 }:Sk):=by
 refine⟨hI.fV,hI.oE,hI.hand,hI.d6,hI.bO,hI.apart,hI.q6,hI.b2,?_,hI.tg,hI.us,hI.pz,hI.dv,hI.fY,hI.ts,hI.fr⟩;have:=hI.kr;show 0<=(if p.bI+1<1000000000 then p.bI+1 else 1000000000)/\(if p.bI+1<1000000000 then p.bI+1 else 1000000000)<=1000000000
 split<;>omega
theorem cq.tick(hI:bg p)(h:cq p):cq p.tick:=cq.serve (MF hI) (h.congr rfl (fun _ hr=>hr))
theorem cq.ask(hI:bg p)(h:cq p)(c kind pl:Int)(data:ByteArray):cq (p.ask c kind pl data).2:=by
 unfold Sk.ask
 by_cases hf:dy c kind pl data=0
 ·rw[aaP (by simpa using hf)]
  split
  ·exact h
  ·have z:=mu hf;exact cq.serve (hI.asks c.toNat kind pl data z.2.1 z.2.2.1 z.2.2.2.2.1) (h.congr rfl (fun _ hr=>hr))
 ·rw[aaV hf];exact h
theorem cq.clean(hI:bg p)(h:cq p):cq p.clean.2:=by
 unfold Sk.clean
 split
 ·exact h
 split
 ·exact h
 ·rename_i _ hp
  rcases AJ p.hand p.held with⟨e,_⟩|⟨x,hx,e,hd,hh⟩
  ·rw[e] at hp;omega
  ·have hY:=hI.hand.sY x hx;have hg:=rJ hI.hand.mr hx;rw[e,hg];exact h.gI hI _ ⟨hY.1,hY.2.1⟩ true [x.data] (il ⟨rfl,rfl,fun s hs=>by rw[abq.1 hs];exact hY.2.2⟩) (fun y hy=>by rw[hg] at hy;obtain rfl:=abY hy;exact hd) (fun _=>⟨x,hg⟩)
theorem cq.bf(hI:bg p)(h:cq p):cq p.bf.2:=by
 rcases lJ hI with⟨_,e⟩|⟨i,hi,T,_,hb,_,hT,e⟩
 ·rw[e];exact h
 ·rw[e];refine h.congr rfl (fun r hr=>?_);exact(FY p.queue p.dev.busy i hi).mem_iff.2 hr
theorem cq.bP(n:Nat):∀{p:Sk},bg p->cq p->cq (p.bP n):=by
 induction n with
 |zero=>intro p _ h;exact h
 |succ n ih =>
  intro p hI h;unfold Sk.bP
  split
  ·exact ih hI.bf (cq.bf hI h)
  ·exact h
end
def CF(p:Sk)(r:Rq):Prop:=∀r'∈p.all,∀a,r.on a->¬r'.on a
theorem X4{p:Sk}{k:Nat}(hk:k<p.dev.busy.length):(p.all).Perm ((p.bD k).all++[p.dev.busy[k]]):=by
 have P:=(vF p.dev.busy k hk).symm;have:=afD p.queue P;rw[<-abp] at this;exact this
theorem Gw{p:Sk}(hI:bg p){k:Nat}(hk:k<p.dev.busy.length):CF (p.bD k) p.dev.busy[k]:=by
 have P:=Ab (X4 hk) hI.apart;have h2:=(ac6.1 P).2.2;intro r' dj a h1 h3;exact h2 r' dj _ acd a h3 h1
theorem AP{p:Sk}(k:Nat):∀r∈(p.bD k).all,r∈p.all:=fun r hr=>by
 rcases abh.1 hr with h|h
 ·exact abn _ h
 ·exact aa8 _ (abo h)
theorem CO(p:Sk)(r:Rq):(p.cr r).all=p.all:=by
 show p.queue++(p.dev.cr r).busy=_;rw[Dl.mR];rfl
theorem Oj(p:Sk)(pl:Int)(s:ByteArray):(p.dJ pl s).all=p.all:=by
 unfold Sk.dJ
 split
 ·rfl
 ·split<;>rfl
theorem Oo(p:Sk)(r:Rq)(xs:List ByteArray)(j:Nat):(p.en r xs j).all=p.all:=by
 unfold Sk.en
 split
 ·rfl
 ·exact Oj p _ _
theorem Gz(p:Sk)(r:Rq)(xs:List ByteArray):∀n,(p.cT r xs n).all=p.all
 |0=>rfl
 |n+1=>by rw[iZ,Oo];exact Gz p r xs n
theorem cq.dJ{p:Sk}(hI:bg p)(h:cq p)(pl:Int)(s:ByteArray)(hf:∀r∈p.all,¬r.on pl):cq (p.dJ pl s):=by
 unfold Sk.dJ
 split
 ·exact h
 ·split
  ·rename_i l e
   exact cq.put hI h e (ir hf) rfl rfl
  ·exact h.congr rfl (fun _ hr=>hr)
theorem cq.cT{p:Sk}(hI:bg p)(h:cq p)(r:Rq)(gr:bz r)(hf:CF p r)(xs:List ByteArray)(hx:∀j,(xs.getD j bE).size<=4):∀n,n<=r.m.toNat->cq (p.cT r xs n)
 |0,_=>h
 |n+1,hn=>by
  rw[iZ];have ih:=cq.cT hI h r gr hf xs hx n oM;have hIn:=hI.cT r gr xs hx n oM;have:=gr.uG;have yj:r.on (r.f+n):=⟨oM,oM⟩
  have qA:∀r'∈(p.cT r xs n).all,¬r'.on (r.f+n):=fun r' dj=>by rw[Gz] at dj;exact hf r' dj _ yj
  unfold Sk.en
  split
  ·refine ih.map (fun x=>if x.pl=r.f+n/\x.data=r.data.getD n bE then { x with bM:=false } else x) (fun x=>by split<;>rfl) rfl (fun r' dj=>⟨dj,fun a ho x nc=>?_⟩);rw[aaP];rintro⟨e,_⟩;exact qA r' dj (by rw[<-e,nc];exact ho)
  ·exact cq.dJ hIn ih _ _ qA
theorem cq.cz{p:Sk}(hI:bg p)(hs:dE p.dev)(h:cq p)(i:Int)(fault:Bool):cq (p.cz i fault).2:=by
 rcases xW p i fault with⟨_,e⟩|⟨k,hk,_,⟨_,e⟩|⟨_,hf,e⟩|⟨_,_,_,e⟩|⟨_,_,_,e⟩⟩
 ·rw[e];exact h
 ·rw[e];have gr:=hI.bO _ (aa8 _ (aa5 hk));have xZ:=(hI.bD k).cr p.dev.busy[k];have h1:cq ((p.bD k).cr p.dev.busy[k]):=h.congr rfl (fun r hr=>by rw[CO] at hr;exact AP k r hr);have hf:CF ((p.bD k).cr p.dev.busy[k]) p.dev.busy[k]:=by unfold CF;rw[CO];exact Gw hI hk
  exact cq.serve (xZ.cT _ gr _ (jb hs _) _ (aaO _)) (cq.cT xZ h1 _ gr hf _ (jb hs _) _ (aaO _))
 ·rw[e];refine h.congr rfl (fun r hr=>?_);have P:(p.queue++p.dev.busy).Perm (p.queue++(p.dev.busy.eraseIdx k++[p.dev.busy[k]])):=afD _ (vF p.dev.busy k hk).symm;exact P.mem_iff.2 hr
 ·rw[e];exact cq.serve ((hI.bD k).lost _ _) (h.congr rfl (fun r hr=>AP (p:=p) k r hr))
 ·rw[e];exact cq.serve (((hI.bD k).CY _).cO _ _ _) (h.congr rfl (fun r hr=>AP (p:=p) k r hr))
structure iE(n:Nat)(p:Sk):Prop where
 fit:eT n p
 tight:cq p
theorem iE.round{n:Nat}{p:Sk}(h:iE n p):iE (n+11) p.round:=⟨h.fit.round,cq.cz ((h.fit.tick.clean.bP 3).inv) ((h.fit.tick.clean.bP 3).short) (cq.bP 3 h.fit.tick.clean.inv (cq.clean h.fit.tick.inv (cq.tick h.fit.inv h.tight))) 0 false⟩
theorem XQ:iE 0 oQ:=⟨Hq,fun r hr=>by cases hr⟩
def EJ(c:Cl):Prop:=0<=c.err/\c.err<=100/\c.gO.size<=4
def cv(p:Sk):Prop:=∀c∈p.cl,EJ c
theorem wN(s:ByteArray)(e:Int)(hs:s.size<=4)(h:0<=e/\e<=100):EJ ⟨0,0,bE,[],s,e⟩:=⟨h.1,h.2,hs⟩
theorem Ag:EJ zn:=wN _ _ (by rw[oz];omega) oM
section
variable{p:Sk}
theorem cv.ao(h:cv p)(i:Nat):EJ (p.ao i):=by
 unfold Sk.ao;rw[abd]
 cases e:p.cl[i]? with
 |none=>exact Ag
 |some c=>exact h c (acg e)
theorem cv.set{q:Sk}(h:cv p)(i:Nat)(x:Cl)(hx:EJ x)(hq:q.cl=p.cl.set i x):cv q:=fun c hc=>by
 rw[hq] at hc;exact(acb hc).elim (h c) (fun e=>e▸hx)
theorem cv.same{q:Sk}(h:cv p)(hq:q.cl=p.cl):cv q:=fun c hc=>h c (hq▸hc)
theorem cv.gI(h:cv p)(pl:Int)(wr:Bool)(data:List ByteArray):cv (p.gI pl wr data).2:=h.same (CL p pl wr data)
theorem cv.aY(hI:bg p)(h:cv p)(i:Nat):cv (p.aY i):=by
 have e0:ByteArray.empty.size<=4:=by rw[oz];omega
 unfold Sk.aY
 split
 ·unfold Sk.gd
  split
  ·rename_i b hb
   exact h.set i _ (wN b.data 0 (hI.hand.sY b (List.mem_of_find?_eq_some hb)).2.2 oM) rfl
  ·split
   ·exact h
   ·exact h.gI _ _ _
 split
 ·unfold Sk.dH
  split
  ·exact h.set i _ (wN _ 9 e0 oM) rfl
  split
  ·exact h
  split
  ·exact h.set i _ (wN _ 0 e0 oM) rfl
  ·exact h.same rfl
 split
 ·unfold Sk.eQ
  split
  ·exact h.set i _ (wN _ 9 e0 oM) rfl
  split
  ·exact h.set i _ (wN _ 0 e0 oM) rfl
  ·exact h.set i { p.ao i with left:=(p.ao i).left.filter (bY p.hand) } (h.ao i) rfl
 ·exact h
theorem cv.serve(hI:bg p)(h:cv p):cv p.serve:=cv.aY ((hI.aY 0).aY 1) (cv.aY (hI.aY 0) (cv.aY hI h 0) 1) 2
theorem cv.ask(hI:bg p)(h:cv p)(c kind pl:Int)(data:ByteArray):cv (p.ask c kind pl data).2:=by
 unfold Sk.ask
 by_cases hf:dy c kind pl data=0
 ·rw[aaP (by simpa using hf)]
  split
  ·exact h
  ·have z:=mu hf;exact cv.serve (hI.asks c.toNat kind pl data z.2.1 z.2.2.1 z.2.2.2.2.1) (h.set (q:=p.asks c.toNat kind pl data) c.toNat { p.ao c.toNat with kind:=kind,pl:=pl,data:=data,left:=if kind=3 then bU p.hand else(p.ao c.toNat).left } (h.ao c.toNat) rfl)
 ·rw[aaV hf];exact h
theorem cv.tick(hI:bg p)(h:cv p):cv p.tick:=cv.serve (MF hI) (h.same rfl)
theorem cv.clean(h:cv p):cv p.clean.2:=by
 unfold Sk.clean
 split
 ·exact h
 split
 ·exact h
 ·exact h.gI _ _ _
theorem cv.bf(h:cv p):cv p.bf.2:=by
 unfold Sk.bf
 split
 ·exact h
 ·exact h.same rfl
theorem cv.bP(n:Nat):∀{p:Sk},cv p->cv (p.bP n):=by
 induction n with
 |zero=>exact fun h=>h
 |succ n ih =>
  intro p h;unfold Sk.bP
  split
  ·exact ih h.bf
  ·exact h
theorem cv.cO(h:cv p)(F:Int->Bool)(s:ByteArray)(e:Int)(hs:s.size<=4)(he:0<=e/\e<=100):cv (p.cO F s e):=fun c hc=>by
 obtain⟨x,hx,rfl⟩:=acM.1 hc
 split
 ·exact wN s e hs he
 ·exact h x hx
theorem cv.dJ(h:cv p)(pl:Int)(s:ByteArray)(hs:s.size<=4):cv (p.dJ pl s):=by
 unfold Sk.dJ
 split
 ·exact h
 split
 ·exact cv.cO (p:={ p with hand:=_,az:=p.az+1 }) (h.same rfl) _ _ _ hs oM
 ·exact h.cO _ _ _ hs oM
theorem cv.en(h:cv p)(r:Rq)(xs:List ByteArray)(hx:∀j,(xs.getD j bE).size<=4)(j:Nat):cv (p.en r xs j):=by
 unfold Sk.en
 split
 ·exact h.same rfl
 ·exact h.dJ _ _ (hx j)
theorem cv.cT(h:cv p)(r:Rq)(xs:List ByteArray)(hx:∀j,(xs.getD j bE).size<=4):∀n,cv (p.cT r xs n)
 |0=>h
 |n+1=>by rw[iZ];exact(h.cT r xs hx n).en r xs hx n
theorem cv.cz(hI:bg p)(hs:dE p.dev)(h:cv p)(i:Int)(fault:Bool):cv (p.cz i fault).2:=by
 rcases xW p i fault with⟨_,e⟩|⟨k,hk,_,⟨_,e⟩|⟨_,hf,e⟩|⟨_,_,_,e⟩|⟨_,_,_,e⟩⟩
 ·rw[e];exact h
 ·rw[e];have gr:=hI.bO _ (aa8 _ (aa5 hk));have h1:cv ((p.bD k).cr p.dev.busy[k]):=h.same rfl;exact cv.serve (((hI.bD k).cr _).cT _ gr _ (jb hs _) _ (aaO _)) (h1.cT _ _ (jb hs _) _)
 ·rw[e];exact h.same rfl
 ·rw[e];exact cv.serve ((hI.bD k).lost _ _) (h.same rfl)
 ·rw[e];refine cv.serve (((hI.bD k).CY _).cO _ _ _) (cv.cO (h.same rfl) _ _ _ ?_ oM);rw[oz];omega
theorem cv.round{n:Nat}(hf:eT n p)(h:cv p):cv p.round :=
 cv.cz ((hf.tick.clean.bP 3).inv) ((hf.tick.clean.bP 3).short) ((cv.tick hf.inv h).clean.bP 3) 0 false
theorem cv.settle(m:Nat):∀{n:Nat} {p:Sk},eT n p->cv p->cv (p.settle m).2:=by
 induction m with
 |zero=>exact fun _ h=>h
 |succ m ih =>
  intro n p hf h;unfold Sk.settle
  split
  ·exact h
  ·exact ih hf.round (cv.round hf h)
theorem AN:cv oQ:=fun c hc=>by
 rcases acj.1 hc with rfl|hc
 ·exact Ag
 rcases acj.1 hc with rfl|hc
 ·exact Ag
 rcases acj.1 hc with rfl|hc
 ·exact Ag
 ·cases hc
theorem cv.adm(h:cv p)(i:Nat):0<=(p.ao i).err/\(p.ao i).err<=100/\(p.ao i).gO.size<=1000:=by
 have:=h.ao i;exact⟨this.1,this.2.1,by have:=this.2.2;omega⟩
end
end
section
open Go.RowKit Go.BigFrame Go.Maps
section
variable{s:Nat}{p:Sk}{A:Rs}{w w':World}
theorem bN.GS(h:bN s p A w)(h':bN s p A w')(X':Nat->Prop)(hX:∀k,X' k->A.X k\/w.heap.size<=k)(hl:∀k,X' k->k<w'.heap.size):bN s p { A with X:=X' } w':=by
 have hO:∀k,({ A with X:=X' }:Rs).off s k->A.off s k\/w.heap.size<=k:=fun k hk=>by
  rcases hk with hk|hk
  ·exact il (il hk)
  ·exact(hX k hk).imp ir id
 have nf:∀{k:Nat},¬A.off s k->k<w.heap.size->¬({ A with X:=X' }:Rs).off s k:=fun h1 h2 e=>(hO _ e).elim h1 (fun h3=>oM)
 exact⟨h'.a7,{
  fV:=h'.mem.fV
  cE:=h'.mem.cE
  tied:=h'.mem.tied
  busy:=h'.mem.busy
  map:=h'.mem.map
  im:=h'.mem.im
  nb:=h'.mem.nb
  wb:=h'.mem.wb
  hand:=h'.mem.hand
  cU:=h'.mem.cU
  bS:=h'.mem.bS
  queue:=h'.mem.queue
  fe:=h'.mem.fe
  fA:=h'.mem.fA
  asks:=h'.mem.asks
  idle:=h'.mem.idle
  sv:=h'.mem.sv
  kv:=h'.mem.kv
  kk:=h'.mem.kk
  eX:=fun aE q hq=>nf (h.mem.eX aE q hq) (GK h.mem.hand aE hq)
  km:=fun aE q hq=>nf (h.mem.km aE q hq) (zH h.mem.queue aE hq)
  eY:=fun r hr=>by
   have eB:r.At w:=by
    rcases abh.1 hr with h2|h2
    ·exact h.mem.queue.2.1 r h2
    ·rw[<-h.mem.busy] at h2;exact h.mem.cE.dev.fb.2.1 r h2
   exact Rq.dB.step eB (h.mem.eY r hr) hO
  iF:=fun i hi k hk aE q hq=>nf (h.mem.iF i hi k hk aE q hq) (sa (h.mem.asks i hi k hk).ints aE hq)
  mS:=fun aE q hq=>nf (h.mem.mS aE q hq) (zH h.mem.cE.dev.fb (by rw[h.mem.busy];exact aE) hq)
  gW:=hl }⟩
theorem bp.GS{A:Sa}(h:bp s p A w)(h':bp s p A w')(X':Nat->Prop)(hX:∀k,X' k->A.X k\/w.heap.size<=k)(hl:∀k,X' k->k<w'.heap.size):bp s p { A with X:=X' } w':=by
 have hO:∀k,({ A with X:=X' }:Sa).off s k->A.off s k\/w.heap.size<=k:=fun k hk=>by
  rcases hk with hk|hk
  ·exact il (il hk)
  ·exact(hX k hk).imp ir id
 have nf:∀{k:Nat},¬A.off s k->k<w.heap.size->¬({ A with X:=X' }:Sa).off s k:=fun h1 h2 e=>(hO _ e).elim h1 (fun h3=>oM)
 exact⟨h'.a7,{
  cE:=h'.mem.cE
  map:=h'.mem.map
  im:=h'.mem.im
  nb:=h'.mem.nb
  hand:=h'.mem.hand
  cU:=h'.mem.cU
  bS:=h'.mem.bS
  queue:=h'.mem.queue
  fe:=h'.mem.fe
  fA:=h'.mem.fA
  left:=h'.mem.left
  sv:=h'.mem.sv
  vl:=h'.mem.vl
  ll:=h'.mem.ll
  ia:=fun aE q hq=>nf (h.mem.ia aE q hq) (GK h.mem.hand aE hq)
  iH:=fun aE q hq=>nf (h.mem.iH aE q hq) (zH h.mem.queue aE hq)
  fh:=fun r hr=>by
   have eB:r.At w:=by
    rcases abh.1 hr with h2|h2
    ·exact h.mem.queue.2.1 r h2
    ·exact(h.mem.cE.dev.reqs r h2).1
   exact Rq.dB.step eB (h.mem.fh r hr) hO
  gW:=hl }⟩
end
structure Both(s k:Nat)(p p2:Sk)(A:Sa)(B:Rs)(w:World):Prop where
 one:bp s p A w
 two:bN k p2 B w
 xa:A.X=B.ay k
 xb:B.X=A.ay s
 apart:∀j,A.ay s j->¬B.ay k j
 av:¬B.ay k A.v
 bv:¬A.ay s B.v
section
variable{s k:Nat}{p p' p2 p2':Sk}{A A':Sa}{B B':Rs}{w w':World}
end
def cQ(l:List Bool):List Value:=l.map Value.bool
theorem Bv(l:List Bool):∀v∈cQ l,v.oneCell'=true:=by
 intro v hv;simp only[cQ,acM] at hv;obtain⟨s,_,rfl⟩:=hv
 rfl
theorem zL:(prog.info? 162).map (·.size)=some 32:=kR
def ef(L:List Rq):List Bool:=(List.range 32).map fun(j:Nat)=>L.any fun r=>dO r.f r.m (j:Int)
def rz(L:List Rq)(F n:Nat):List Bool:=(List.range 32).map fun(j:Nat)=>(L.any fun r=>dO r.f r.m (j:Int))||decide (F<=j/\j<F+n)
theorem yd(L:List Rq):(ef L).length=32:=by simp[ef]
theorem ye(L:List Rq)(F n:Nat):(rz L F n).length=32:=by simp[rz]
theorem Ta:ef []=List.replicate 32 false:=dK
theorem P9(L:List Rq)(F:Nat):rz L F 0=ef L:=by
 unfold rz ef;apply agB;intro j _;rw[aa9 oM,afG]
theorem P8(L:List Rq)(F n:Nat):(rz L F n).set (F+n) true=rz L F (n+1):=by
 apply afL
 ·rw[abS,ye,ye]
 ·intro j h1 h2;rw[List.getElem_set];have hj:j<32:=by rw[ye] at h2;exact h2
  by_cases e:F+n=j
  ·rw[aaV e];subst e;simp only[rz,afp,List.getElem_range];rw[aa1 oM,Bool.or_true]
  ·rw[aaP e];simp only[rz,afp,List.getElem_range]
   congr 1
   by_cases h3:F<=j/\j<F+n
   ·rw[aa1 h3,aa1 oM]
   ·rw[aa9 h3,aa9 oM]
theorem Tb(L:List Rq)(r:Rq)(gr:bz r)(F M:Nat)(hf:r.f.toNat=F)(hm:r.m.toNat=M):rz L F M=ef (L++[r]):=by
 unfold rz ef;apply agB;intro j hj;rw[List.any_append,agI,List.any_nil,afG,BR r gr j (List.mem_range.1 hj),hf,hm]
theorem La(L:List Rq)(j:Nat)(h:j<32):(cQ (ef L)).toArray[j]?=some (.bool (L.any fun r=>dO r.f r.m (j:Int))):=by
 simp[cQ,ef,h]
theorem aeI(r:Rq)(g:bz r):∃F M:Nat,r.f=F/\r.m=M/\F+M<=32/\1<=M/\M<=4/\r.f.toNat=F/\r.m.toNat=M:=MK r g
theorem se(s:Nat)(p:Sk)(A:Rs)(w:World)(h:bN s p A w)(hI:bg p):Calls prog 98 #[.pointer (some ⟨s,0,none⟩)] w (rB (.agg (cQ (ef (p.queue++p.dev.busy))).toArray) w):=by
 obtain⟨iR,zs,vv,zt,zu⟩:=eS uy;have HR:=ae (⟨zs,vv,zt,zu⟩:prog.info? 146=some iR/\_/\_/\_);clear zs vv zt zu;have HG:=ae hI.bO;have h6:=hI.q6;have h2:=hI.b2;have c0:=h.cell 0 _ rfl;have c3:=h.cell 3 _ rfl;have j8:=h.mem.cE.dev.j8;have qz:=h.mem.cE.dev.lt;rw[h.mem.busy] at j8;have hl:=h.lt;have R1:=ae (xB h.mem.queue h.mem.fe);have R2:Hid (gg w 6 A.ra.la p.dev.busy.length A.ra.lc (a8 p.dev.busy)):=by
  have:=G9 h.mem.cE.dev;rw[h.mem.busy] at this;exact this
 have iJ:Hid (∀r∈p.queue++p.dev.busy,r.At w):=fun r hr=>by
  rcases abh.1 hr with h'|h'
  ·exact h.mem.queue.2.1 r h'
  ·exact h.mem.cE.dev.fb.2.1 r (by rw[h.mem.busy];exact h')
 clear h hI;go_enter func98,ntmps98;go_upto_region 2 with fail;refine ei (fun wz=>wz.heap[w.heap.size]?=some (.cells (cQ (List.replicate 32 false)).toArray 162 (0,0))/\wz.heap[w.heap.size+1]?=some (.cells (cQ (List.replicate 32 false)).toArray 162 (0,0))/\bL w wz/\w.heap.size+2<=wz.heap.size) ⟨?_,?_,bQ,sM⟩ ?_
 ·exact((aA _ _).block _ sM).trans (acm _ _)
 ·have:=acm (w.alloc (.cells (cQ (List.replicate 32 false)).toArray 162)) (.cells (cQ (List.replicate 32 false)).toArray 162);rw[aaW] at this;exact this
 rintro wz ⟨hr0,Ll,fo,iV⟩;have Kj:=ae (And.intro hr0 Ll);have we:=ae fo;have c0:=ai fo c0;have c3:=ai fo c3;have j8:=ai fo j8;have R1z:=ae (R1.out.later fo);have R2z:=ae (R2.out.later fo);have tQ:s<wz.heap.size:=oM;have aeF:A.b<wz.heap.size:=oM;clear hr0 Ll R1 R2
 go_cut[4] (fun s4 wx=>∃a c,s4=.slice a (p.queue++p.dev.busy).length c/\PB wz.heap.size wx a c (p.queue++p.dev.busy)/\bL wz wx)
 case first =>
  obtain⟨zs,vv,zt,zu⟩:=HR.out
  go_region_held3 (fun w'=>w'.cell? ⟨s,3,none⟩=some (.slice A.qa p.queue.length A.qc)/\w'.cell? ⟨s,0,none⟩=some (.pointer (some ⟨A.b,0,none⟩))/\w'.cell? ⟨A.b,65,none⟩=some (.slice A.ra.la p.dev.busy.length A.ra.lc)) (exact⟨ai (w:=wz) bQ c3,ai (w:=wz) bQ c0,ai (w:=wz) bQ j8⟩) (first|(refine kF (by rfl) (.const (.slice none 0 0)) (.tmp 10) 47 (by rfl) wz.heap.size 146 iR _ 6 80 underlying47 zs vv zt zu rfl dM (.slice none 0 0) 0 [] (by rfl) (abg _ _ _ _) A.qa p.queue.length A.qc (a8 p.queue) (by simp[Act.eval]) (R1z.out.later bQ) (by unfold maxLen;omega) oM sM ?_;intro v1 wI aO aw;rw[abc,abJ] at aO;have eA:bL wz wI:=adh bQ aw)|(refine kF (by rfl) (.tmp 11) (.tmp 18) 47 (by rfl) wz.heap.size 146 iR _ 6 80 underlying47 zs vv zt zu rfl dM v1 p.queue.length (a8 p.queue) (by simp[Act.eval]) (by first|exact aO|exact iy aO) A.ra.la p.dev.busy.length A.ra.lc (a8 p.dev.busy) (by simp[Act.eval]) (R2z.out.later bQ) (by unfold maxLen;omega) oM (by have:=eA.size;(try simp);omega) ?_;intro v2 wJ aT aC;have cY:bL wz wJ:=(by first|exact eA.trans aC|exact eA.drew.trans aC);rw[<-fI] at aT;obtain⟨a9,c9,rfl,oH⟩:=oO (l:=p.queue++p.dev.busy) aT (fun r hr=>(iJ.out r hr).later (af we.out cY)) sM (by simp;omega)))
  all_goals
   go_wp2
   go_meet
   case rel=>exact⟨a9,c9,by rw[aaQ],oH,cY⟩
 case rest =>
  obtain⟨a,c,rfl,hN,cA⟩:=hcut;have HN:=ae hN;have kG:=ae cA;have dA:wc.heap[w.heap.size+1]?=some (.cells (cQ (ef [])).toArray 162 (0,0)):=by rw[Ta,cA.block _ oM];exact Kj.out.2
  have hr1:wc.heap[w.heap.size]?=some (.cells (cQ (List.replicate 32 false)).toArray 162 (0,0)):=by rw[cA.block _ oM];exact Kj.out.1
  have xN:=ae (And.intro hr1 dA);have hcz:=cA.size;have hLle:(p.queue++p.dev.busy).length<=8:=by rw[aaQ];omega
  clear hN cA hr1 dA c0 c3 j8 R1z R2z Kj iJ tQ aeF hl qz;generalize hLQ:p.queue++p.dev.busy=L at *;have HLQ:=ae hLQ;clear hLQ;go_wp2_with fail
  go_loopw[5] (fun i wr=>∃k:Nat,k<=L.length/\i=i6 k/\wr.heap[w.heap.size+1]?=some (.cells (cQ (ef (L.take k))).toArray 162 (0,0))/\aH (fun j=>j=w.heap.size+1) wc wr) (fun i _=>L.length-(intOf i).toNat)
  case atStart=>exact⟨0,oM,rfl,xN.out.2,aH.refl _ _⟩
  case round =>
   obtain⟨k,hk,rfl,hq,hO⟩:=hrel;have HQ:=ae hq;have HO:=ae hO;clear hq hO
   by_cases au:k<L.length
   ·have gC:(k:Int)<(L.length:Int):=oM;have yg:(0:Int)<=(k:Int):=oM;have h0:L ≠ []:=by rintro rfl;exact absurd au (aa0 _)
    obtain⟨g,o,ha⟩:=HN.out.here.form.resolve_left h0;subst ha;have hgw:=HN.out.new ⟨g,o,none⟩ rfl;simp only at hgw;have gr:bz L[k]:=HG.out _ (aa5 au);obtain⟨F,M,hF,hM,hFM,hM1,hM4,hF',O1⟩:=aeI L[k] gr;obtain⟨-,e1,e2,-,-,-⟩:=HN.out.here.cells au;rw[hF] at e1;rw[hM] at e2;have lg:=aq e1;have HE:=ae (And.intro e1 e2);have pc:=ae (And.intro gr (And.intro hF' O1));clear h0 e1 e2 gr hF hM hF' O1;go_wp2_with fail
    go_loopw[6] (fun i wq=>∃n:Nat,n<=M/\i=i6 n/\wq.heap[w.heap.size+1]?=some (.cells (cQ (rz (L.take k) F n)).toArray 162 (0,0))/\aH (fun j=>j=w.heap.size+1) wc wq) (fun i _=>M-(intOf i).toNat)
    case atStart=>exact⟨0,oM,rfl,by rw[P9];exact HQ.out,HO.out⟩
    case round =>
     obtain⟨n,hn,rfl,hq,hO⟩:=hrel;have mh:=ae hq;have ez:=ae hO;have e1:=(hO.cell (p:=⟨g,o+k*6+1,none⟩) lg (by show ¬g=_;omega)).trans HE.out.1;have e2:=(hO.cell (p:=⟨g,o+k*6+2,none⟩) lg (by show ¬g=_;omega)).trans HE.out.2;have lg2:g<wr.heap.size:=abF lg hO.size;have fp:(0:Int)<=(n:Int):=oM
     by_cases yi:n<M
     ·have hnl':(n:Int)<(M:Int):=oM;have hfn:F+n<32:=oM;have hfn0:(0:Int)<=(F:Int)+(n:Int):=oM;have hfn1:(F:Int)+(n:Int)<32:=oM;obtain⟨bb,kI⟩:∃bb,(rz (L.take k) F n)[F+n]?=some bb:=⟨_,aaX (by rw[ye];exact hfn)⟩
      have d1:wr.cell? ⟨w.heap.size+1,F+n,none⟩=some (.bool bb):=by rw[aR hq];simp[cQ,kI]
      have d2:wr.frozen? ⟨w.heap.size+1,F+n,none⟩=false:=cG hq _;have hql:=aK hq;have Kk:=ae (bJ hq (F+n) (.bool true));clear hq hO kI;go_wp2;go_roundw
      case rel =>
       refine⟨n+1,oM,gN,?_,ez.out.setCell _ (il rfl) _⟩;rw[Kk.out]
       congr 2
       rw[<-P8 _ _ _]
       simp[cQ,agd]
      case measure=>simp[intOf];omega
     ·obtain rfl:n=M:=oM;clear hq hO;go_wp2;go_roundw
      case rel =>
       refine⟨k+1,oM,gN,?_,ez.out⟩;rw[mh.out,Tb _ _ pc.out.1 _ _ pc.out.2.1 pc.out.2.2,abz au]
      case measure=>simp[intOf];omega
   ·obtain rfl:k=L.length:=oM;rw[aff] at HQ;have hq:=HQ.out;have hr:wr.heap[w.heap.size]?=some (.cells (cQ (List.replicate 32 false)).toArray 162 (0,0)):=by rw[HO.out.block _ oM oM];exact xN.out.1
    have Bt:Hid (wr.rangeAt (w.heap.size+1) 0 (cQ (ef L))):=fun j v hv=>by rw[abc,aR hq];exact hv
    have HTH:Hid (wr.there w.heap.size 0 32):=fun j hj=>by
     refine⟨?_,cG hr _⟩;rw[aR hr,aaX (by rw[cQ,abe,afE];omega)]
     rfl
    have jM:Hid ((cQ (ef L)).length=32):=by show _=_;rw[cQ,abe,yd]
    have o8:Hid (bL w wr):=(af we.out kG.out).trans (HO.out.below oM (fun i e=>oM));have OI:Hid ((wr.setCells w.heap.size 0 (cQ (ef L))).rangeAt w.heap.size 0 (cQ (ef L))):=by
     have h1:=kQ w.heap.size 162 (cQ (ef L)) 0 _ _ hr (by rw[jM.out,cQ,abe,afE];omega);have h2:splice (cQ (List.replicate 32 false)) 0 (cQ (ef L))=cQ (ef L):=by
      have e:(cQ (List.replicate 32 false)).length=32:=by rw[cQ,abe,afE]
      unfold splice;rw[afv,abJ,jM.out,acA oM,afd]
     rw[h2] at h1;exact fun j v hv=>by rw[abc,aR h1];exact hv
    have hlv:=run_loadVar_mid (P:=prog) (wr.setCells w.heap.size 0 (cQ (ef L))) w.heap.size 0 162 (cQ (ef L)) _ OI.out underlying162 rfl (by rw[jM.out];exact zL);have HLV:=ae hlv;clear hq hr hlv;go_wp2_with(first|(refine wpList_load_mid rfl 162 (.tmp 3) rfl (w.heap.size+1) 0 rfl (cQ (ef L)) _ Bt.out underlying162 rfl (by rw[jM.out];exact zL) ?_)|(refine wpList_store_mid rfl 162 (.tmp 2) (.tmp 45) rfl w.heap.size 0 (cQ (ef L)).toArray rfl rfl (by rw[show(cQ (ef L)).toArray.size=32 from jM.out];exact HTH.out) (by rw[show(cQ (ef L)).toArray.size=32 from jM.out];exact zL) (all_oneCell_toArray (Bv _)) ?_;simp only));refine aaY (v:=.agg (cQ (ef L)).toArray) (by simp[results,results98,Act.put,asAddr,Sem.run_pure,Result.andThen,HLV.out]) rfl ⟨by first|rw[HLQ.out]|rfl,o8.out.trans ((rG (F:=fun j=>w.heap.size<=j) w.heap.size (il (aaO _)) _ _ _ (aH.refl _ _)).below (o8.out.size) (fun i e=>e))⟩
theorem JZ.toN{base:Nat}{l:List Rq}{r:Rq}{L:List Rq}(h:JZ base l r L):Bk base l r L:=h
theorem Ux(l:List Rq)(a:Option Addr)(c:Nat)(r:Rq)(w:World)(hl:aW w a l)(hn:a=none->c=0)(hr:r.At w)(mj:l.length<=1000)(gr:bz r)(gl:∀i (h:i<l.length),bz l[i])(hN:mP (l.map Rq.nf) r.nf=none) :
 Calls prog 148 #[.slice a l.length c,r.val] w fun e w'=>∃n:Int,0<n/\e=.returned (.tuple #[.slice none 0 0,i6 n])/\bL w w':=by
 refine(L8 l a c r w hl hn hr mj gr gl).mono ?_;rintro e w' ⟨⟨_,he⟩|⟨hm,⟨L,a',c',hA,_⟩|⟨_,_,he⟩⟩,hb⟩
 ·exact⟨6,oM,he,hb⟩
 ·rw[CJ hm hA.toN] at hN;cases hN
 ·exact⟨7,oM,he,hb⟩
theorem Uy(l:List Rq)(a:Option Addr)(c:Nat)(r:Rq)(w:World)(hl:aW w a l)(hn:a=none->c=0)(hr:r.At w)(mj:l.length<=1000)(gr:bz r)(gl:∀i (h:i<l.length),bz l[i])(L':List Rq)(hN:mP (l.map Rq.nf) r.nf=some L') :
 Calls prog 148 #[.slice a l.length c,r.val] w fun e w'=>∃(L:List Rq) (a':Option Addr) (c':Nat),e=.returned (.tuple #[.slice a' L.length c',i6 0])/\(Bk w.heap.size l r L/\L'=L.map Rq.nf/\aW w' a' L/\n8 w.heap.size a' c' L.length)/\bL w w':=by
 refine(L8 l a c r w hl hn hr mj gr gl).mono ?_;rintro e w' ⟨⟨hm,_⟩|⟨hm,⟨L,a',c',hA,he,h1,h2⟩|⟨h1,h2,_⟩⟩,hb⟩
 ·rw[E2 hm] at hN;cases hN
 ·have:=CJ hm hA.toN;rw[hN] at this;exact⟨L,a',c',he,⟨hA.toN,abY this,h1,h2⟩,hb⟩
 ·rw[Ig hm h1 h2] at hN;cases hN
def ve(wz:World)(q:Nat)(r:Rq):Prop:=wz.cell? ⟨q,0,none⟩=some (.bool r.wr)/\wz.cell? ⟨q,1,none⟩=some (i6 r.f)/\wz.cell? ⟨q,2,none⟩=some (i6 r.m)/\wz.cell? ⟨q,3,none⟩=some (.slice r.da r.data.length r.dc)/\wz.cell? ⟨q,4,none⟩=some (.slice r.ta r.tags.length r.tc)/\wz.cell? ⟨q,5,none⟩=some (i6 r.born)
theorem ve.later{w w':World}{q:Nat}{r:Rq}(h:ve w q r)(hb:bL w w'):ve w' q r :=
 ⟨ai hb h.1,ai hb h.2.1,ai hb h.2.2.1,ai hb h.2.2.2.1,ai hb h.2.2.2.2.1,ai hb h.2.2.2.2.2⟩
theorem Gc(s:Nat)(p:Sk)(A:Rs)(w:World)(h:bN s p A w)(hI:bg p)(hT:p.tags<=4000000000000000000)(pl:Int)(bV:0<=pl/\pl<=31)(wr:Bool)(data:List ByteArray)(tL:data.length<=4)(da:Option Addr)(dc:Nat)(hd:StrsAt w da data)(nV:da=none->dc=0)
 (eX:data ≠ []->∀ad,da=some ad->¬A.off s ad.block) (gr:∀tb,bz (jC p pl wr data da dc tb)/\oF (jC p pl wr data da dc tb)=0) (t:Bool) (q':Sk) (cI:p.nf.gI pl wr data=(t,q')) :
 Calls prog 100 #[.pointer (some ⟨s,0,none⟩),.agg #[.bool wr,i6 pl,i6 1,.slice da data.length dc,.slice none 0 0,i6 0]] w fun e w'=>e=.returned (.bool t)/\ed 0 s p A w w' q':=by
 have c3:=h.cell 3 _ rfl;have c8:=h.cell 8 _ rfl;have c10:=h.cell 10 _ rfl;have hl:=h.lt;have hT0:=hI.tg;have hM:=hI.kr;have h6:=hI.q6;have HQ:=ae h.mem.queue;have HN:=ae h.mem.fe;have aL:=ae h;have tE:=ae hI.CR;have pc:=ae (gr (w.heap.size+1));have zZ:=ae eX;have sW:IntKind.i64.wrap (p.tags+1)=p.tags+1:=by rw[abr];omega
 have iJ:Hid (∀wz,bL w wz->wz.cell? ⟨w.heap.size+1,0,none⟩=some (i6 (p.tags+1))->(jC p pl wr data da dc (w.heap.size+1)).At wz):=by
  intro wz fo hc;refine⟨hd.later fo,ir ⟨w.heap.size+1,0,rfl,fun i hi=>?_⟩,by show data.length<=_;omega,by show 1<=_;omega,?_,?_,?_,nV,fun e=>by cases e⟩
  ·obtain rfl:i=0:=by simp[jC] at hi;omega
   exact hc
  ·show cH pl;unfold cH;omega
  ·show cH 1;unfold cH;omega
  ·show cH p.bI;unfold cH;omega
 clear h hI gr eX hd;have lo:p.nf.gI pl wr data=match mP (p.queue.map Rq.nf) (jC p pl wr data da dc (w.heap.size+1)).nf with
  |some l=>(true,{ p.nf with queue:=l,tags:=p.tags+1 })
  |none=>(false,p.nf):=rfl
 rw[lo] at cI;clear lo;go_enter func100,ntmps100;go_upto_region 3 with fail;refine ei (fun wz=>ve wz w.heap.size (jC p pl wr data da dc (w.heap.size+1))/\wz.cell? ⟨w.heap.size+1,0,none⟩=some (i6 (p.tags+1))/\bL w wz/\w.heap.size+2<=wz.heap.size) ⟨⟨by simp[jC],by simp[jC],by simp[jC],by simp[jC],by simp[jC],by simp[jC]⟩,sM,bQ,sM⟩ ?_;rintro w1 ⟨Ww,acY,aw,eI⟩;have kG:=ae Ww;have aN:=ae aw;have AT:=ae (iJ.out w1 aw acY);have RR:=ae (HQ.out.later aw);have c3':=ai aw c3;obtain⟨x0,x1,x2,x3,x4,x5⟩:=id Ww;simp only[jC] at x0 x1 x2 x3 x4 x5;clear Ww acY aw iJ HQ c3 c8 c10
 cases hF:mP (p.queue.map Rq.nf) (jC p pl wr data da dc (w.heap.size+1)).nf with
 |none =>
  rw[hF] at cI;simp only[acK] at cI;obtain⟨rfl,rfl⟩:=cI;have HF:=ae hF;clear hF
  go_region_held3 (fun w'=>w'.cell? ⟨s,3,none⟩=some (.slice A.qa p.queue.length A.qc)/\w'.cell? ⟨w.heap.size,0,none⟩=some (.bool wr)/\w'.cell? ⟨w.heap.size,1,none⟩=some (i6 pl)/\w'.cell? ⟨w.heap.size,2,none⟩=some (i6 1)/\w'.cell? ⟨w.heap.size,3,none⟩=some (.slice da data.length dc)/\w'.cell? ⟨w.heap.size,4,none⟩=some (.slice (some ⟨w.heap.size+1,0,none⟩) 1 1)/\w'.cell? ⟨w.heap.size,5,none⟩=some (i6 p.bI)) (exact⟨ai (w:=w1) bQ c3',kG.out.later bQ⟩) (first|(go_at_call 148;refine(Ux p.queue A.qa A.qc (jC p pl wr data da dc (w.heap.size+1)) _ (RR.out.later bQ) HN.out (AT.out.later bQ) oM pc.out.1 tE.out HF.out).mono ?_;rintro e w2 ⟨n,fp,rfl,aC⟩))
  all_goals
   have bT:Hid (bL w w2):=(by have aw:=aN.out;show bL w w2;exact bQ)
   clear aC;go_wp2;go_ret;exact⟨rfl,p,A,bH.cX aL.out (by have:=bT.out;(exact bQ)),rfl,aaO _⟩
 |some L' =>
  rw[hF] at cI;simp only[acK] at cI;obtain⟨rfl,rfl⟩:=cI;have HF:=ae hF;clear hF
  go_region_held3 (fun w'=>w'.cell? ⟨s,3,none⟩=some (.slice A.qa p.queue.length A.qc)/\w'.cell? ⟨w.heap.size,0,none⟩=some (.bool wr)/\w'.cell? ⟨w.heap.size,1,none⟩=some (i6 pl)/\w'.cell? ⟨w.heap.size,2,none⟩=some (i6 1)/\w'.cell? ⟨w.heap.size,3,none⟩=some (.slice da data.length dc)/\w'.cell? ⟨w.heap.size,4,none⟩=some (.slice (some ⟨w.heap.size+1,0,none⟩) 1 1)/\w'.cell? ⟨w.heap.size,5,none⟩=some (i6 p.bI)) (exact⟨ai (w:=w1) bQ c3',kG.out.later bQ⟩) (first|(go_at_call 148;refine(Uy p.queue A.qa A.qc (jC p pl wr data da dc (w.heap.size+1)) _ (RR.out.later bQ) HN.out (AT.out.later bQ) oM pc.out.1 tE.out L' HF.out).mono ?_;rintro e w2 ⟨L,a',c',rfl,tY,aC⟩;have HA:=ae tY;clear tY))
  all_goals
   have bT:Hid (bL w w2):=(by have aw:=aN.out;show bL w w2;exact bQ)
   have ck:=ae (bH.cX aL.out bT.out);have g3:=ck.out.at'.cell 3 _ rfl;have g10:=ck.out.at'.cell 10 _ rfl;have f3:=ck.out.at'.fz 3;have f10:=ck.out.at'.fz 10;have l2:=ck.out.at'.lt;have HX:Hid (bH s p A { p with queue:=L,tags:=p.tags+1 } { A with qa:=a',qc:=c' } w ((w2.setCell ⟨s,3,none⟩ (.slice a' L.length c')).setCell ⟨s,10,none⟩ (i6 (p.tags+1)))):=by
    obtain⟨h1,-,h3,h4,h5,h6⟩:=HA.out;have hz:w.heap.size+2<=w1.heap.size:=eI;have YH:∀q,a'=some q->w.heap.size<=q.block:=fun q hq=>by have h7:=h6 q hq;(try simp only[World.drew] at h7);have h8:w1.heap.size<=q.block:=h7;omega
    refine ck.out.trans (ck.out.at'.p7 L a' c' (p.tags+1) h3 h5 h4 (fun _ q cI e=>?_) (fun r hr=>?_))
    ·have:=YH q cI;have:=aL.out.ky _ e
     omega
    ·rcases h1 with⟨k,hk,q,_,_,_,hf,rfl⟩|⟨_,_,rfl⟩
     ·rcases acb hr with dj|rfl
      ·exact aL.out.mem.eY r (abn _ dj)
      ·exact Ix (h3.2.1 r hr) hf (fun k' eH=>by have h9:=aL.out.ky _ eH;show k'<w1.heap.size;omega)
     ·rcases abh.1 hr with dj|dj
      ·exact aL.out.mem.eY r (abn _ dj)
      ·rw[abq.1 dj];refine⟨zZ.out,fun _ ad ha e=>?_⟩;have au:=aL.out.ky _ e;simp only[jC,aa4] at ha;subst ha;simp only at au
       omega
   have HL:Hid (L'=L.map Rq.nf):=HA.out.2.1;clear aC HA ck aL;go_wp2;go_ret;exact⟨rfl,_,_,HX.out,by rw[HL.out];rfl,aaO _⟩
theorem pW{F G:Bf->Bool}{l:List Bf}(h:∀x∈l,F x=G x):∀k,k<=l.length->dz F l k=dz G l k
 |0,_=>rfl
 |k+1,hk=>by
  have ih:=pW h k oM;have eH:k<l.length:=oM;rw[dz,dz,rY eH,rY eH,h _ (aa5 eH),ih]
def rA(p:Sk)(i:Nat):Bool:=(p.queue++p.dev.busy).any fun r=>dO r.f r.m (i:Int)
theorem As(p:Sk):∀i,i<32->(cQ (ef (p.queue++p.dev.busy))).toArray[i]?=some (.bool (rA p i)):=fun i hi=>La _ i hi
theorem Qa(p:Sk)(n:Int)(h:0<=n/\n<=31):lu (rA p) n=p.held n:=by
 unfold lu rA Sk.held;rw[aa1 h.1,aa1 (show n<32 from oM),adA,adA,agA h.1]
theorem Ao{p:Sk}(hI:bg p)(d:Bool):∀x∈p.hand,eu d (lu (rA p)) x=eu d p.held x:=fun x hx=>by
 have:=hI.hand.sY x hx;unfold eu;rw[Qa p x.pl ⟨this.1,this.2.1⟩]
theorem sF(L:List Rq):(cQ (ef L)).toArray.size=32:=by
 show(cQ (ef L)).length=32;rw[cQ,abe,yd]
section
variable(p:Sk)(a:Option Addr)(c:Nat)(w:World)
theorem Jb(hI:bg p)(hl:bA w a p.hand)(x:Bf)(m:List Bf)(hm:jw p.hand x p.held=some m):Calls prog 108 #[.slice a p.hand.length c,x.val,.agg (cQ (ef (p.queue++p.dev.busy))).toArray] w fun e w'=>∃a' c',e=.returned (.tuple #[.slice a' m.length c',i6 0])/\bA w' a' m/\n8 w.heap.size a' c' m.length/\bL w w':=by
 have G:=hI.hand.Fg;have hM:=F8 hI.hand.len hm;have O1:=hM
 rcases hM with⟨k,hk,gA,_⟩|⟨gA,h8,_⟩|⟨gA,h8,k,hk,hr,_⟩
 ·refine(Q5 p.hand a c x _ w hl G k hk gA).mono ?_;rintro e w' ⟨M,a',c',he,hb,hR,Aq,hn⟩;obtain rfl:=hR.eq G O1 (ir ⟨fun e=>oM,rfl⟩);exact⟨a',c',he,hb,hn,Aq⟩
 ·refine(Q6 p.hand a c x _ w hl G h8 gA).mono ?_;rintro e w' ⟨M,a',c',he,hb,hR,Aq,hn⟩;obtain rfl:=hR.eq G O1 (ir ⟨fun e=>oM,rfl⟩);exact⟨a',c',he,hb,hn,Aq⟩
 ·have dj:dz (eu false (lu (rA p))) p.hand p.hand.length=k:=by rw[pW (Ao hI false) _ (aaO _)];exact hr
  refine(Q4 p.hand a c x _ (sF _) (rA p) w hl G (As p) h8 gA k hk dj).mono ?_;rintro e w' ⟨M,a',c',he,hb,hR,Aq,hn⟩;obtain rfl:=hR.eq G O1 (il ⟨gA,h8,hr.symm⟩);exact⟨a',c',he,hb,hn,Aq⟩
theorem UQ(hI:bg p)(hl:bA w a p.hand)(x:Bf)(hm:jw p.hand x p.held=none):Calls prog 108 #[.slice a p.hand.length c,x.val,.agg (cQ (ef (p.queue++p.dev.busy))).toArray] w (rB (.tuple #[.slice none 0 0,i6 7]) w):=by
 have G:=hI.hand.Fg;unfold jw at hm
 rcases gq p.hand x.pl with⟨_,h2⟩|⟨k,hk,_,h2,_⟩
 ·rw[h2,aaP oM] at hm
  by_cases h3:p.hand.length<8
  ·rw[aaV h3] at hm;cases hm
  ·rw[aaP h3] at hm;have h8:=hI.hand.len
   rcases jz (eu false p.held) p.hand p.hand.length (aaO _) with⟨hr,_⟩|⟨k,hk,_,hr,_⟩
   ·have dj:dz (eu false (lu (rA p))) p.hand p.hand.length=-1:=by rw[pW (Ao hI false) _ (aaO _)];exact hr
    exact UP p.hand a c x _ (sF _) (rA p) w hl G (As p) oM h2 dj
   ·rw[hr,aaV oM] at hm;cases hm
 ·rw[h2,aaV oM] at hm;cases hm
theorem UJ(hI:bg p)(hl:bA w a p.hand)(n:Int)(hn:jT p.hand p.held=n):Calls prog 97 #[.slice a p.hand.length c,.agg (cQ (ef (p.queue++p.dev.busy))).toArray] w (rB (i6 n) w):=by
 have G:=hI.hand.Fg;subst hn;unfold jT
 rcases jz (eu true p.held) p.hand p.hand.length (aaO _) with⟨hr,_⟩|⟨k,hk,_,hr,_⟩
 ·have dj:dz (eu true (lu (rA p))) p.hand p.hand.length=-1:=by rw[pW (Ao hI true) _ (aaO _)];exact hr
  rw[hr,aaP oM];exact XG p.hand a c _ (sF _) (rA p) w hl G (As p) dj
 ·have dj:dz (eu true (lu (rA p))) p.hand p.hand.length=k:=by rw[pW (Ao hI true) _ (aaO _)];exact hr
  rw[hr,aaV oM];have e:(p.hand.getD (k:Int).toNat ⟨0,bE,false,0⟩).pl=p.hand[k].pl:=by rw[abG,abd,aaX hk];rfl
  rw[e];exact UK p.hand a c _ (sF _) (rA p) w hl G (As p) k hk dj
end
end
section
open Go.RowKit
section
variable{p:Sk}{k:Nat}{pl:Int}{dt:ByteArray}
theorem vm(gF:(p.ao k).kind=2)(ij:p.dead=false)(bV:(p.ao k).pl=pl)(r7:(p.ao k).data=dt):p.nf.aY k=(if 6<=bW p.hand/\bY p.hand pl=false then p.nf else match jw p.hand ⟨pl,dt,true,p.az+1⟩ p.held with|some l=>({ p.nf with az:=p.az+1,hand:=l }:Sk).answer k bE 0|none=>{ p.nf with az:=p.az+1 }):=by
 have e:(p.nf.ao k).kind=2:=gF;have e1:(p.nf.ao k).pl=pl:=bV;have e2:(p.nf.ao k).data=dt:=r7;have e3:p.nf.dead=false:=ij;have e4:p.nf.held=p.held:=funext (ub p);have e5:p.nf.hand=p.hand:=rfl;have e6:p.nf.az=p.az:=rfl;unfold Sk.aY;rw[aaP (by rw[e];decide),aaV e];unfold Sk.dH;rw[e1,e2,e3,e4,e5,e6,aaP aa7];simp only[e3,e5]
 congr 1
theorem Gn(gF:(p.ao k).kind=2)(ij:p.dead=false)(bV:(p.ao k).pl=pl)(h:6<=bW p.hand/\bY p.hand pl=false):p.nf.aY k=p.nf:=by
 rw[vm gF ij bV rfl,aaV h]
theorem Gl(gF:(p.ao k).kind=2)(ij:p.dead=false)(bV:(p.ao k).pl=pl)(r7:(p.ao k).data=dt)(h:¬(6<=bW p.hand/\bY p.hand pl=false))(hp:jw p.hand ⟨pl,dt,true,p.az+1⟩ p.held=none):p.nf.aY k=({ p with az:=p.az+1 }:Sk).nf:=by
 rw[vm gF ij bV r7,aaP h,hp]
 rfl
theorem Gm(gF:(p.ao k).kind=2)(ij:p.dead=false)(bV:(p.ao k).pl=pl)(r7:(p.ao k).data=dt)(h:¬(6<=bW p.hand/\bY p.hand pl=false)){m:List Bf}(hp:jw p.hand ⟨pl,dt,true,p.az+1⟩ p.held=some m):p.nf.aY k=((({ p with az:=p.az+1,hand:=m }:Sk).answer k ⟨#[]⟩ 0)).nf:=by
 rw[vm gF ij bV r7,aaP h,hp]
 rfl
theorem Cp(gF:(p.ao k).kind=3)(ij:p.dead=false){L:List Int}(hL:(p.ao k).left=L):p.nf.aY k=(if L.filter (bY p.hand)=[] then({ p.nf with dev:=p.nf.dev.flush }:Sk).answer k bE 0 else { p.nf with cl:=p.nf.cl.set k { p.nf.ao k with left:=L.filter (bY p.hand) } }):=by
 have e:(p.nf.ao k).kind=3:=gF;have e1:(p.nf.ao k).left=L:=hL;have e3:p.nf.dead=false:=ij;have e5:p.nf.hand=p.hand:=rfl;unfold Sk.aY;rw[aaP (by rw[e];decide),aaP (by rw[e];decide),aaV e];unfold Sk.eQ;rw[e1,e3,e5,aaP aa7];simp only[e3,e5]
theorem Hk(gF:(p.ao k).kind=3)(ij:p.dead=false){L:List Int}(hL:(p.ao k).left=L)(h:L.filter (bY p.hand)=[]):p.nf.aY k=((({ p with dev:=p.dev.flush }:Sk).answer k ⟨#[]⟩ 0)).nf:=by
 rw[Cp gF ij hL,aaV h]
 rfl
theorem Hm(gF:(p.ao k).kind=3)(ij:p.dead=false){L:List Int}(hL:(p.ao k).left=L)(h:¬L.filter (bY p.hand)=[]):p.nf.aY k=({ p with cl:=p.cl.set k { p.ao k with left:=L.filter (bY p.hand) } }:Sk).nf:=by
 rw[Cp gF ij hL,aaP h]
 rfl
end
def aQ(p:Sk):Prop:=∀c∈p.cl,c.left.length<=8
section
variable{p:Sk}
theorem aQ.ao(h:aQ p)(i:Nat):(p.ao i).left.length<=8:=by
 unfold Sk.ao;rw[abd]
 cases e:p.cl[i]? with
 |none=>exact ach 8
 |some c=>exact h c (acg e)
theorem aQ.set{q:Sk}(h:aQ p)(i:Nat)(x:Cl)(hx:x.left.length<=8)(hq:q.cl=p.cl.set i x):aQ q:=fun c hc=>by
 rw[hq] at hc;exact(acb hc).elim (h c) (fun e=>e▸hx)
theorem aQ.same{q:Sk}(h:aQ p)(hq:q.cl=p.cl):aQ q:=fun c hc=>h c (hq▸hc)
theorem aQ.gI(h:aQ p)(pl:Int)(wr:Bool)(data:List ByteArray):aQ (p.gI pl wr data).2:=h.same (CL p pl wr data)
theorem aQ.aY(h:aQ p)(i:Nat):aQ (p.aY i):=by
 unfold Sk.aY
 split
 ·unfold Sk.gd
  split
  ·exact h.set i ⟨0,0,bE,[],_,_⟩ (ach 8) rfl
  ·split
   ·exact h
   ·exact h.gI _ _ _
 split
 ·unfold Sk.dH
  split
  ·exact h.set i ⟨0,0,bE,[],_,_⟩ (ach 8) rfl
  split
  ·exact h
  split
  ·exact h.set i ⟨0,0,bE,[],_,_⟩ (ach 8) rfl
  ·exact h.same rfl
 split
 ·unfold Sk.eQ
  split
  ·exact h.set i ⟨0,0,bE,[],_,_⟩ (ach 8) rfl
  split
  ·exact h.set i ⟨0,0,bE,[],_,_⟩ (ach 8) rfl
  ·exact h.set i { p.ao i with left:=(p.ao i).left.filter (bY p.hand) } (abb (acE _ _) (h.ao i)) rfl
 ·exact h
theorem aQ.serve(h:aQ p):aQ p.serve:=((h.aY 0).aY 1).aY 2
theorem FU(p:Sk)(h8:p.hand.length<=8){kind:Int}(c:Nat)(h:(p.ao c).left.length<=8):(if kind=3 then bU p.hand else(p.ao c).left).length<=8:=by
 split
 ·unfold bU;rw[abe];exact abb (acE _ _) h8
 ·exact h
theorem aQ.ask(h:aQ p)(h8:p.hand.length<=8)(c kind pl:Int)(data:ByteArray):aQ (p.ask c kind pl data).2:=by
 unfold Sk.ask
 split
 ·exact h
 split
 ·exact h
 ·exact aQ.serve (h.set (q:=p.asks c.toNat kind pl data) c.toNat { p.ao c.toNat with kind:=kind,pl:=pl,data:=data,left:=if kind=3 then bU p.hand else(p.ao c.toNat).left } (FU p h8 _ (h.ao c.toNat)) rfl)
theorem aQ.tick(h:aQ p):aQ p.tick:=aQ.serve (h.same rfl)
theorem aQ.clean(h:aQ p):aQ p.clean.2:=by
 unfold Sk.clean
 split
 ·exact h
 split
 ·exact h
 ·exact h.gI _ _ _
theorem aQ.bf(h:aQ p):aQ p.bf.2:=by
 unfold Sk.bf
 split
 ·exact h
 ·exact h.same rfl
theorem aQ.bP(n:Nat):∀{p:Sk},aQ p->aQ (p.bP n):=by
 induction n with
 |zero=>exact fun h=>h
 |succ n ih =>
  intro p h;unfold Sk.bP
  split
  ·exact ih h.bf
  ·exact h
theorem aQ.cO(h:aQ p)(F:Int->Bool)(s:ByteArray)(e:Int):aQ (p.cO F s e):=fun c hc=>by
 obtain⟨x,hx,rfl⟩:=acM.1 hc
 split
 ·exact ach 8
 ·exact h x hx
theorem aQ.dJ(h:aQ p)(pl:Int)(s:ByteArray):aQ (p.dJ pl s):=by
 unfold Sk.dJ
 split
 ·exact h
 split
 ·exact aQ.cO (p:={ p with hand:=_,az:=p.az+1 }) (h.same rfl) _ _ _
 ·exact h.cO _ _ _
theorem aQ.en(h:aQ p)(r:Rq)(xs:List ByteArray)(j:Nat):aQ (p.en r xs j):=by
 unfold Sk.en
 split
 ·exact h.same rfl
 ·exact h.dJ _ _
theorem aQ.cT(h:aQ p)(r:Rq)(xs:List ByteArray):∀n,aQ (p.cT r xs n)
 |0=>h
 |n+1=>by rw[iZ];exact(h.cT r xs n).en r xs n
theorem aQ.cz(h:aQ p)(i:Int)(fault:Bool):aQ (p.cz i fault).2:=by
 unfold Sk.cz
 split
 ·exact h
 split
 ·exact h
 split
 ·exact aQ.serve (aQ.cT (p:=(p.bD i.toNat).cr _) (h.same rfl) _ _ _)
 split
 ·exact h.same rfl
 split
 ·exact aQ.serve (h.same rfl)
 ·exact aQ.serve (aQ.cO (h.same rfl) _ _ _)
theorem aQ.round(h:aQ p):aQ p.round:=(h.tick.clean.bP 3).cz 0 false
theorem aQ.settle(n:Nat):∀{p:Sk},aQ p->aQ (p.settle n).2:=by
 induction n with
 |zero=>exact fun h=>h
 |succ n ih =>
  intro p h;unfold Sk.settle
  split
  ·exact h
  ·exact ih h.round
theorem aQ.nf(h:aQ p):aQ p.nf:=h
theorem aQ.cD(h:aQ p.nf):aQ p:=h
theorem Mu:aQ oQ:=fun c hc=>by
 rcases acj.1 hc with rfl|hc
 ·exact ach 8
 rcases acj.1 hc with rfl|hc
 ·exact ach 8
 rcases acj.1 hc with rfl|hc
 ·exact ach 8
 ·cases hc
end
theorem WZ{L:List Int}{f:Int->Bool}{j:Nat}(hj:j<L.length)(h:f L[j]=true):(L.take (j+1)).filter f=(L.take j).filter f++[L[j]]:=by
 rw[abz hj,afy,afQ h,List.filter_nil]
theorem Pc{L:List Int}{f:Int->Bool}{j:Nat}(hj:j<L.length)(h:f L[j]=false):(L.take (j+1)).filter f=(L.take j).filter f:=by
 rw[abz hj,afy,afP (by rw[h];exact aa7),List.filter_nil,afd]
theorem WY(L:List Int)(f:Int->Bool)(j:Nat):((L.take j).filter f).length<=L.length :=
 abb (acE _ _) (by rw[abm];exact Nat.min_le_right _ _)
theorem WX{L:List Int}{f:Int->Bool}{j:Nat}(hj:L.length<=j):(L.take j).filter f=L.filter f:=by rw[abv hj]
end
end Go.Proofs.YtlhgjplipgandaaGreatDoor
