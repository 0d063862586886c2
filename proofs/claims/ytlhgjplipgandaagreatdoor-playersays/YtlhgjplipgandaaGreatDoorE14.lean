/- Joined. -/
import Derived.Maps.Own
import Derived.Maps.OwnOps
import Derived.Maps.OwnSet
import Derived.Maps.Views
import Derived.Deep.RegionHeld3
import Derived.Test.YtlhgjplipgandaaGreatDoorE13
set_option maxRecDepth 100000
set_option maxHeartbeats 8000000
set_option linter.unusedSimpArgs false
set_option linter.unusedSectionVars false
namespace Go.Proofs.YtlhgjplipgandaaGreatDoor
open Tryz
section
open Go.RowKit Go.BigFrame Go.Maps
theorem sD:Keyed prog 3:=int_keyed underlying3
theorem BO(w:World):(zeroValue 3).run prog w=.ok (i6 0) w:=kR
structure mB(v b bm:Nat)(d:Dl)(a:An)(n:Nat)(D:DataW Unit)(w:World):Prop where
 dev:bR b d a w
 aW:w.heap[v]?=some (.cells [.pointer (some ⟨b,0,none⟩),.map (some bm)].toArray 186 (0,0))
 map:w.ownsMap prog 3 (plainElem prog 3) bm n D
 au:∀k,a.au b k->k ≠ v/\k ≠ bm
def jJ(b bm:Nat)(a:An)(k:Nat):Prop:=k=bm\/a.au b k
structure jh(v b bm:Nat)(d:Dl)(a:An)(n:Nat)(D:DataW Unit)(d':Dl)(a':An)(n':Nat)(D':DataW Unit)(w w':World):Prop where
 at':mB v b bm d' a' n' D' w'
 only:aG (jJ b bm a) w w'
 au:∀k,jJ b bm a' k->jJ b bm a k\/w.heap.size<=k
theorem mj{w w':World}{bm n:Nat}{D:DataW Unit}(h:w.ownsMap prog 3 (plainElem prog 3) bm n D)(e:w'.heap[bm]?=w.heap[bm]?):w'.ownsMap prog 3 (plainElem prog 3) bm n D:=by
 obtain⟨es,clock,hb,F,hs,hD⟩:=h;exact⟨es,clock,e.trans hb,F,hs,hD⟩
theorem mB.mlt{v b bm:Nat}{d:Dl}{a:An}{n:Nat}{D:DataW Unit}{w:World}(h:mB v b bm d a n D w):bm<w.heap.size:=h.map.lt
theorem mB.ne{v b bm:Nat}{d:Dl}{a:An}{n:Nat}{D:DataW Unit}{w:World}(h:mB v b bm d a n D w):v ≠ bm:=by
 rintro rfl;obtain⟨es,clock,hb,_⟩:=h.map;rw[h.aW] at hb
 cases hb
theorem mB.step{v b bm:Nat}{d d':Dl}{a a':An}{n:Nat}{D:DataW Unit}{w w':World}(h:mB v b bm d a n D w)(hs:cI b d a d' a' w w'):jh v b bm d a n D d' a' n D w w' where
 at':=⟨hs.dev,by rw[hs.only.block v (aH h.aW) (fun e=>(h.au v e).1 rfl)];exact h.aW,mj h.map (hs.only.block bm h.mlt (fun e=>(h.au bm e).2 rfl)),fun k hk=>(hs.au k hk).elim (h.au k) (fun h'=>by have:=aH h.aW;have:=h.mlt;omega)⟩
 only:=hs.only.mono (fun _ e=>ir e)
 au:=fun k hk=>hk.elim (fun e=>il (il e)) (fun e=>(hs.au k e).elim (fun h'=>il (ir h')) ir)
theorem jh.trans{v b bm:Nat}{d d' d2:Dl}{a a' a2:An}{n n' n2:Nat}{D D' D2:DataW Unit}{w w' w2:World}(h:jh v b bm d a n D d' a' n' D' w w')(k:jh v b bm d' a' n' D' d2 a2 n2 D2 w' w2):jh v b bm d a n D d2 a2 n2 D2 w w2 :=
 ⟨k.at',h.only.trans k.only h.au,fun i hi=>(k.au i hi).elim (h.au i) (fun h'=>ir (acv h.only.size h'))⟩
theorem mB.later{v b bm:Nat}{d:Dl}{a:An}{n:Nat}{D:DataW Unit}{w w':World}(h:mB v b bm d a n D w)(hb:bL w w'):mB v b bm d a n D w':=(h.step (cI.same h.dev hb)).at'
theorem jh.later{v b bm:Nat}{d d':Dl}{a a':An}{n n':Nat}{D D':DataW Unit}{w w' w2:World}(h:jh v b bm d a n D d' a' n' D' w w')(hb:bL w' w2):jh v b bm d a n D d' a' n' D' w w2:=h.trans (h.at'.step (cI.same h.at'.dev hb))
theorem mB.dV{v b bm:Nat}{d:Dl}{a:An}{n n':Nat}{D D':DataW Unit}{w w':World}(h:mB v b bm d a n D w)(ho:aG (fun k=>k=bm) w w')(hm:w'.ownsMap prog 3 (plainElem prog 3) bm n' D')(hr:∀r∈d.busy,r.dC (fun k=>k=bm)):jh v b bm d a n D d a n' D' w w' where
 at':=⟨h.dev.frame ho (fun k hk=>(h.au k hk).2) hr,by rw[ho.block v (aH h.aW) h.ne];exact h.aW,hm,h.au⟩
 only:=ho.mono (fun _ e=>il e)
 au:=fun _ hk=>il hk
theorem ea{w w':World}{bm:Nat}(h:w.grownBy w' (some bm)):aG (fun k=>k=bm) w w':=⟨h.os,h.tape,h.output,h.size,fun k hk hn=>h.block k hk (fun e=>hn (acR e))⟩
theorem mB.cells{v b bm:Nat}{d:Dl}{a:An}{n:Nat}{D:DataW Unit}{w:World}(h:mB v b bm d a n D w):w.cell? ⟨v,0,none⟩=some (.pointer (some ⟨b,0,none⟩))/\w.cell? ⟨v,1,none⟩=some (.map (some bm)):=⟨by rw[aP h.aW];rfl,by rw[aP h.aW];rfl⟩
theorem VM(b:Nat)(d:Dl)(a:An)(w:World)(h:bR b d a w):Calls prog 77 #[.pointer (some ⟨b,0,none⟩)] w fun e w'=>e=.returned (.pointer (some ⟨w.heap.size+1,0,none⟩))/\mB (w.heap.size+1) b w.heap.size d a 0 (.map []) w'/\bL w w':=by
 have HD:=aa h;clear h;have Rm:=@run_makeMap prog;go_enter func77,ntmps77;go_wp2;go_ret;have hb:=ja w (.map #[] 0) (.cells [.pointer (some ⟨b,0,none⟩),.map (some w.heap.size)].toArray 186);refine⟨rfl,⟨HD.out.later hb,?_,(aeC _ _ _ _).alloc _,fun k hk=>?_⟩,hb⟩
 ·have:=ac8 (w.alloc (.map #[] 0)) (.cells [.pointer (some ⟨b,0,none⟩),.map (some w.heap.size)].toArray 186);rw[show(w.alloc (.map #[] 0)).heap.size=w.heap.size+1 from sM] at this;exact this
 ·have:=HD.out.bz k hk;omega
theorem Vj(v b bm:Nat)(d:Dl)(a:An)(n:Nat)(D:DataW Unit)(w:World)(h:mB v b bm d a n D w)(h2:d.busy.length<2):Calls prog 83 #[.pointer (some ⟨v,0,none⟩)] w (rB (.bool true) w):=by
 obtain⟨c0,c1⟩:=h.cells;have HV:=aa h;have pE:(d.busy.length:Int)<2:=oM;clear h c1;go_enter func83,ntmps83;go_wp2_with fail;refine(yK b d a _ HV.out.dev).mono ?_;rintro e w1 ⟨xa,xc,rfl,-,-,hb⟩;go_wp2;go_ret;exact⟨rfl,hb⟩
theorem Te(v b bm:Nat)(d:Dl)(a:An)(n:Nat)(D:DataW Unit)(r:Rq)(w:World)(h:mB v b bm d a n D w)(h2:d.busy.length<2)(hr:r.At w)(ho:r.dC (a.au b)) :
 Calls prog 86 #[.pointer (some ⟨v,0,none⟩),r.val] w fun e w'=>∃a',e=.returned .nilIface/\jh v b bm d a n D { d with busy:=d.busy++[r] } a' n D w w':=by
 obtain⟨c0,c1⟩:=h.cells;have HV:=aa h;have HR:=aa hr;have HO:=aa ho;have hv:=aH h.aW;clear h c1 hr ho;have fw:=aa (aB w (.cells #[.bool r.wr,i6 r.f,i6 r.m,.slice r.da r.data.length r.dc,.slice r.ta r.tags.length r.tc,i6 r.born] 146));go_enter func86,ntmps86;go_wp2_with fail;have QY:(w.alloc (.cells #[.bool r.wr,i6 r.f,i6 r.m,.slice r.da r.data.length r.dc,.slice r.ta r.tags.length r.tc,i6 r.born] 146)).drew.cell? ⟨v,0,none⟩=some (.pointer (some ⟨b,0,none⟩))/\gW (w.alloc (.cells #[.bool r.wr,i6 r.f,i6 r.m,.slice r.da r.data.length r.dc,.slice r.ta r.tags.length r.tc,i6 r.born] 146)).drew w.heap.size r:=⟨(fw.out.drew.cell (p:=⟨v,0,none⟩) hv).trans c0,(lR w 146 r).later (aQ _ _).drew⟩
 have HS:=aa QY;have eg:∀args w,Sem.run prog (callFunc 132 args) w=.ok (.enter 132 args) w:=by intro args w;go_simp
 clear QY;refine eK (S:=fun wz=>wz.cell? ⟨v,0,none⟩=some (.pointer (some ⟨b,0,none⟩))/\gW wz w.heap.size r) (d:=6) kR ?_;refine tK 0 rfl HS.out ?_;(try simp only[Act.put,dP]);refine tK 1 rfl HS.out ?_;(try simp only[Act.put,dP]);refine tK 2 rfl HS.out ?_;(try simp only[Act.put,dP]);refine tK 3 rfl HS.out ?_;(try simp only[Act.put,dP]);refine tK 4 rfl HS.out ?_;(try simp only[Act.put,dP]);refine bn (i:=5) rfl kR ?_;intro K hK;refine r7 rfl 132 8 9 42 146 rfl eg (.pointer (some ⟨b,0,none⟩)) r.val rfl rfl .nilIface (fun w'=>∃a',cI b d a { d with busy:=d.busy++[r] } a' w w'/\gW w' w.heap.size r) ((KM b d a r _ (HV.out.dev.later fw.out.drew) h2 (HR.out.later fw.out.drew) HO.out).mono ?_) ?_
 ·rintro e w1 ⟨a',he,hs⟩;exact⟨he,a',(cI.same HV.out.dev fw.out.drew).trans hs,HS.out.2.only hs.only (fun e=>by have:=HV.out.dev.bz _ e;omega)⟩
 rintro w1 ⟨a',hs,cF⟩;have HVS:=aa (HV.out.step hs);have yb:w1.cell? ⟨v,0,none⟩=some (.pointer (some ⟨b,0,none⟩)):=HVS.out.at'.cells.1;refine hK _ _ (fun _=>⟨yb,cF⟩) ?_
 (try simp only[Act.put,dP])
 clear hK;refine bn (i:=6) rfl kR ?_;intro K hK;go_simp;refine hK _ _ (fun h=>absurd rfl h) ?_
 (try simp only[Act.put,dP])
 clear hK;refine fp kR ?_ _;go_wp2;go_ret;exact⟨a',rfl,HVS.out⟩
theorem QI(r:Rq)(w:World)(hr:r.At w)(h1:1<=r.tags.length):Calls prog 134 #[r.val] w (rB (i6 (r.tags.getD 0 0)) w):=by
 obtain⟨wr,f,m,da,dc,data,ta,tc,tags,born⟩:=r
 rcases hr.tags with h|⟨tb,tof,h,hc⟩
 ·simp only at h h1;rw[h] at h1;simp at h1
 simp only at h h1 hc;subst h;have c0:=hc 0 oM;have lt:=al c0;obtain⟨x,hx⟩:∃x,tags.getD 0 0=x:=⟨_,rfl⟩
 rw[hx] at c0;simp only[Nat.add_zero] at c0;have rH:¬(tags.length:Int)=0:=oM;have pE:(0:Int)<(tags.length:Int):=oM;show Calls prog 134 #[(Rq.mk wr f m da dc data (some ⟨tb,tof,none⟩) tc tags born).val] w (rB (i6 (tags.getD 0 0)) w);rw[hx];clear hr hc hx;go_enter func134,ntmps134;go_wp2;go_ret;exact⟨rfl,bQ⟩
def dO(w:World)(q:Nat)(r:Rq)(xa:Option Addr)(n xc:Nat)(er:Int):Prop:=jq w q r xa n xc er/\w.there q 0 8/\q<w.heap.size
theorem PD{F:Nat->Prop}{w w':World}{q:Nat}(h:w.there q 0 8)(hl:q<w.heap.size)(hO:aG F w w')(hn:¬F q):w'.there q 0 8:=fun j hj=>by
 rw[hO.cell (p:=⟨q,0+j,none⟩) hl hn,hO.frozen (p:=⟨q,0+j,none⟩) hl hn];exact h j hj
theorem dO.only{F:Nat->Prop}{w w':World}{q n xc:Nat}{r:Rq}{xa:Option Addr}{er:Int}(h:dO w q r xa n xc er)(hO:aG F w w')(hn:¬F q):dO w' q r xa n xc er:=by
 obtain⟨⟨h0,h1,h2,h3,h4,h5,h6,h7⟩,hf,hl⟩:=h;exact⟨⟨(hO.cell (p:=⟨q,0,none⟩) hl hn).trans h0,(hO.cell (p:=⟨q,1,none⟩) hl hn).trans h1,(hO.cell (p:=⟨q,2,none⟩) hl hn).trans h2,(hO.cell (p:=⟨q,3,none⟩) hl hn).trans h3,(hO.cell (p:=⟨q,4,none⟩) hl hn).trans h4,(hO.cell (p:=⟨q,5,none⟩) hl hn).trans h5,(hO.cell (p:=⟨q,6,none⟩) hl hn).trans h6,(hO.cell (p:=⟨q,7,none⟩) hl hn).trans h7⟩,PD hf hl hO hn,acD hl hO.size⟩
theorem dO.later{w w':World}{q n xc:Nat}{r:Rq}{xa:Option Addr}{er:Int}(h:dO w q r xa n xc er)(hb:bL w w'):dO w' q r xa n xc er:=h.only (F:=fun _=>False) (aG.cj hb) (fun e=>e)
theorem cv{w:World}{q:Nat}(h:mL w q):w.there q 0 8:=by
 obtain⟨⟨z0,z1,z2,z3,z4,z5,z6,z7⟩,zf,zl⟩:=h;intro j hj;refine⟨?_,zf _⟩
 match j,hj with
 |0,_=>simp[z0]
 |1,_=>simp[z1]
 |2,_=>simp[z2]
 |3,_=>simp[z3]
 |4,_=>simp[z4]
 |5,_=>simp[z5]
 |6,_=>simp[z6]
 |7,_=>simp[z7]
def xB(w:World)(q:Nat)(v0 v1 v2 v3 v4 v5 v6 v7:Value):World:=(((((((w.setCell ⟨q,0,none⟩ v0).setCell ⟨q,1,none⟩ v1).setCell ⟨q,2,none⟩ v2).setCell ⟨q,3,none⟩ v3).setCell ⟨q,4,none⟩ v4).setCell ⟨q,5,none⟩ v5).setCell ⟨q,6,none⟩ v6).setCell ⟨q,7,none⟩ v7
theorem dW(w:World)(q:Nat)(v0 v1 v2 v3 v4 v5 v6 v7:Value):aG (fun k=>k=q) w (xB w q v0 v1 v2 v3 v4 v5 v6 v7) :=
 ((((((((aG.refl (fun k=>k=q) w).setCell ⟨q,0,none⟩ (il rfl) v0).setCell ⟨q,1,none⟩ (il rfl) v1).setCell ⟨q,2,none⟩ (il rfl) v2).setCell ⟨q,3,none⟩ (il rfl) v3).setCell ⟨q,4,none⟩ (il rfl) v4).setCell ⟨q,5,none⟩ (il rfl) v5).setCell ⟨q,6,none⟩ (il rfl) v6).setCell ⟨q,7,none⟩ (il rfl) v7
theorem gn{w:World}{q n xc:Nat}{r:Rq}{xa:Option Addr}{er:Int}(h:w.there q 0 8)(hl:q<w.heap.size):dO (xB w q (.bool r.wr) (i6 r.f) (i6 r.m) (.slice r.da r.data.length r.dc) (.slice r.ta r.tags.length r.tc) (i6 r.born) (.slice xa n xc) (i6 er)) q r xa n xc er:=by
 have hs:=World.rangeAt_setCells_same w q 0 [.bool r.wr,i6 r.f,i6 r.m,.slice r.da r.data.length r.dc,.slice r.ta r.tags.length r.tc,i6 r.born,.slice xa n xc,i6 er] h;exact⟨⟨hs 0 _ rfl,hs 1 _ rfl,hs 2 _ rfl,hs 3 _ rfl,hs 4 _ rfl,hs 5 _ rfl,hs 6 _ rfl,hs 7 _ rfl⟩,World.there_setCells h q 0 [.bool r.wr,i6 r.f,i6 r.m,.slice r.da r.data.length r.dc,.slice r.ta r.tags.length r.tc,i6 r.born,.slice xa n xc,i6 er],by simpa [xB] using hl⟩
theorem cf{ops:Array Oper}{rest:List Oper}{op:Oper}{a:Act}{w:World}{Q:Exit->Act->World->Prop}(tA:op.guard=none)(x y:Operand)(ho:op.op=.store 151 x y)
 (q:Nat) (r:Rq) (xa:Option Addr) (n xc:Nat) (er:Int) (hx:a.eval x=.pointer (some ⟨q,0,none⟩)) (hy:a.eval y=fb r xa n xc er) (ht:w.there q 0 8)
 (R:World->Prop) (hR:R (xB w q (.bool r.wr) (i6 r.f) (i6 r.m) (.slice r.da r.data.length r.dc) (.slice r.ta r.tags.length r.tc) (i6 r.born) (.slice xa n xc) (i6 er)))
 (h:∀w',R w'->wpList prog ops Q rest (a.put op.dst undef) w'):wpList prog ops Q (op::rest) a w :=
 wpList_store_mid tA 151 x y ho q 0 _ hx hy ht kR (by simp[Value.oneCell']) (h _ hR)
def ie:Rq:=⟨false,0,0,none,0,[],none,0,[],0⟩
theorem BN{v b bm:Nat}{d d':Dl}{a a':An}{n n':Nat}{D D':DataW Unit}{w w':World}(h:jh v b bm d a n D d' a' n' D' w w')(q:Nat)(hq:w.heap.size<=q)(cE:¬jJ b bm a' q)(Z5:q ≠ v)(hr:∀r∈d'.busy,r.dC (fun k=>k=q))(v0 v1 v2 v3 v4 v5 v6 v7:Value):jh v b bm d a n D d' a' n' D' w (xB w' q v0 v1 v2 v3 v4 v5 v6 v7) where
 at':=⟨h.at'.dev.frame (dW w' q _ _ _ _ _ _ _ _) (fun k hk e=>cE (by rw[<-e];exact ir hk)) hr,by rw[(dW w' q v0 v1 v2 v3 v4 v5 v6 v7).block v (aH h.at'.aW) (Ne.symm Z5)];exact h.at'.aW,mj h.at'.map ((dW w' q v0 v1 v2 v3 v4 v5 v6 v7).block bm h.at'.mlt (fun e=>cE (il e.symm))),h.at'.au⟩
 only:=h.only.trans (dW w' q v0 v1 v2 v3 v4 v5 v6 v7) (fun i e=>ir (by subst e;exact hq))
 au:=h.au
theorem Am(r:Rq)(tg:Int)(ht:r.tags.getD 0 0=tg)(w:World)(hr:r.At w)(h1:1<=r.tags.length):Calls prog 134 #[r.val] w (rB (i6 tg) w):=by
 rw[<-ht];exact QI r w hr h1
theorem xu{b:Nat}{d d':Dl}{a a':An}{w w':World}{o:Obj}(hs:cI b d a d' a' (w.alloc o) w')(hl:∀k,a.au b k->k<w.heap.size):¬a'.au b w.heap.size:=by
 intro e
 rcases hs.au _ e with e|e
 ·have:=hl _ e;omega
 ·rw[ab9] at e;omega
theorem FP{ops:Array Oper}{o:Oper}{a:Act}{w:World}{K:Act->World->Prop}{Q:Exit->Act->World->Prop}{E:Prop}(hg:o.guard=none)(x y:Operand)(ho:o.op=.store 151 x y)
 (q:Nat) (r:Rq) (xa:Option Addr) (n xc:Nat) (er:Int) (hx:a.eval x=.pointer (some ⟨q,0,none⟩)) (hy:a.eval y=fb r xa n xc er) (ht:w.there q 0 8)
 (h:K (a.put o.dst undef) (xB w q (.bool r.wr) (i6 r.f) (i6 r.m) (.slice r.da r.data.length r.dc) (.slice r.ta r.tags.length r.tc) (i6 r.born) (.slice xa n xc) (i6 er))) :
 if Region.wanted o (yielded ops a.tmps)=true then Oper.wp prog o a w K Q else E:=by
 have hw:Region.wanted o (yielded ops a.tmps)=true:=by simp[Region.wanted,hg]
 rw[aca hw];exact wp_store_mid 151 x y ho q 0 _ hx hy ht kR (by simp[Value.oneCell']) h
def nB(D:DataW Unit)(f:Int->Int):Prop:=∀t,D.atKey (.int .i64 t) (.lit (.int .i64 0))=.lit (.int .i64 (f t))
theorem GL:nB (.map []) (fun _=>0):=fun _=>rfl
theorem nB.put{D:DataW Unit}{f:Int->Int}(h:nB D f)(hD:IsMap D)(t c:Int):nB (D.put (.int .i64 t) (.lit (.int .i64 c))) (fun x=>if x=t then c else f x):=fun x=>by
 by_cases e:x=t
 ·subst e;rw[ad9 hD (by trivial)];simp
 ·rw[aex (by simpa using e)];simp[e,h x]
theorem nB.del{D:DataW Unit}{f:Int->Int}(h:nB D f)(t:Int):nB (D.del (.int .i64 t)) (fun x=>if x=t then 0 else f x):=fun x=>by
 by_cases e:x=t
 ·subst e;rw[atKey_del_same];simp
 ·rw[atKey_del_other (by simpa using e)];simp[e,h x]
theorem DN(b:Nat)(d:Dl)(a:An)(l:List Rq)(k:Nat)(r:Rq)(hb:d.busy=l)(hk:l[k]?=some r)(w:World)(h:bR b d a w) :
 Calls prog 133 #[.pointer (some ⟨b,0,none⟩),i6 k,.bool true] w fun e w'=>∃a',e=.returned (.tuple #[fb r none 0 0 8,.nilIface])/\cI b d a { d with busy:=d.busy.eraseIdx k } a' w w':=by
 subst hb;obtain⟨eH,rfl⟩:=ac1.1 hk;exact QG b d a k eH w h
theorem Yf(v b bm:Nat)(d:Dl)(a:An)(n:Nat)(D:DataW Unit)(i:Int)(fl:Bool)(w:World)(h:mB v b bm d a n D w)(hi:i<0\/(d.busy.length:Int)<=i) :
 Calls prog 87 #[.pointer (some ⟨v,0,none⟩),i6 i,.bool fl] w (rB (.tuple #[oG,.bool false,.iface 87 (i6 5)]) w):=by
 obtain⟨c0,c1⟩:=h.cells;have HV:=aa h;have hv:=aH h.aW;have hm:=h.mlt;have JB:=h.dev.lt;have fw:=aa (aB w (.cells #[.bool false,i6 0,i6 0,.slice none 0 0,.slice none 0 0,i6 0,.slice none 0 0,i6 0] 151));clear h;have HI:=aa hi;clear hi;go_enter func87,ntmps87;go_wp2_with fail;refine cM (Uf b d a i fl _ (HV.out.dev.later fw.out) HI.out) ?_;intro w1 aw;have cP:=(eM w 151).only (F:=fun _=>False) (aG.cj aw) (fun e=>e);have eC:=fw.out.trans (aw.mono fw.out.size);have oL:=aa cP;have aU:=aa eC;clear aw eC cP;go_wp2_with(first
  |(refine cf rfl (.tmp 6) (.tmp 18) rfl w.heap.size ie none 0 0 0 rfl rfl (cv oL.out) (fun wK=>bL w wK/\dO wK w.heap.size ie none 0 0 0) ⟨aU.out.trans ((dW w1 w.heap.size _ _ _ _ _ _ _ _).below aU.out.size (fun i e=>oM)),gn (cv oL.out) oL.out.2.2⟩ ?_;rintro w2 ⟨aA,hr2⟩;have cw:=aa aA;have tY:=aa hr2;clear aA hr2 aU oL)
  |(refine cf rfl (.tmp 6) (.tmp 22) rfl w.heap.size ie none 0 0 0 rfl rfl tY.out.2.1 (fun wK=>bL w wK/\dO wK w.heap.size ie none 0 0 0) ⟨cw.out.trans ((dW w2 w.heap.size _ _ _ _ _ _ _ _).below cw.out.size (fun i e=>oM)),gn tY.out.2.1 tY.out.2.2⟩ ?_;rintro w3 ⟨bC,⟨z0,z1,z2,z3,z4,z5,z6,z7⟩,-,-⟩;have jK:=aa bC;clear bC cw tY))
 exact ack (v:=.tuple #[oG,.bool false,.iface 87 (i6 5)]) (by simp[results,results87,go_sem,z0,z1,z2,z3,z4,z5,z6,z7,ie]) rfl ⟨rfl,jK.out⟩
structure Fc(bm:Nat)(d:Dl)(k:Nat)(r:Rq)(tg:Int):Prop where
 at':d.busy[k]?=some r
 tag:r.tags.getD 0 0=tg
 rS:cY tg
 sU:1<=r.tags.length
 off:∀q∈d.busy,q.dC (fun j=>j=bm)
theorem Fc.mem{bm:Nat}{d:Dl}{k:Nat}{r:Rq}{tg:Int}(h:Fc bm d k r tg):r∈d.busy:=acX h.at'
theorem NI(v b bm:Nat)(d:Dl)(a:An)(n:Nat)(D:DataW Unit)(k:Nat)(r:Rq)(tg c:Int)(w:World)(h:mB v b bm d a n D w)(hr:Fc bm d k r tg)(hc:D.atKey (.int .i64 tg) (.lit (.int .i64 0))=.lit (.int .i64 c))(lI:2<=c/\c<=100) :
 Calls prog 87 #[.pointer (some ⟨v,0,none⟩),i6 k,.bool true] w fun e w'=>∃a',e=.returned (.tuple #[fb r none 0 0 8,.bool true,.nilIface])/\jh v b bm d a n D { d with busy:=d.busy.eraseIdx k } a' n (D.del (.int .i64 tg)) w w':=by
 have mJ:=aa (h.dev.reqs r hr.mem).1;have rm:=aa hr.mem;have jM:=aa hr;have HC:=aa hc;have cT:keyOf prog 3 (i6 tg)=some (.int .i64 tg):=aeD underlying3 (adm hr.rS);have h1:=hr.sU;have Cm:¬c+1<3:=oM;obtain⟨hc4,hc5⟩:=lI;clear hc hr;obtain⟨c0,c1⟩:=h.cells;have HV:=aa h;have hv:=aH h.aW;have hm:=h.mlt;have JB:=h.dev.lt;have fw:=aa (aB w (.cells #[.bool false,i6 0,i6 0,.slice none 0 0,.slice none 0 0,i6 0,.slice none 0 0,i6 0] 151));clear h;go_enter func87,ntmps87;go_wp2_with fail;refine(DN b d a _ k r rfl jM.out.at' _ (HV.out.dev.later fw.out)).mono ?_;rintro e w1 ⟨a1,rfl,eI⟩;have vg:¬a1.au b w.heap.size:=xu eI HV.out.dev.bz;obtain⟨d1,nt⟩:∃d1:Dl,d1={ d with busy:=d.busy.eraseIdx k }:=⟨_,rfl⟩
 have oJ:=aa nt;rw[<-nt] at eI;have jB:Hid (∀q∈d1.busy,q.dC (fun j=>j=w.heap.size)):=fun q hq=>by rw[oJ.out] at hq;exact n7 (HV.out.dev.reqs q (acy hq)).1 (fun j e=>oM)
 have zW:=jB;have uJ:Hid (∀q∈d1.busy,q.dC (fun j=>j=bm)):=fun q hq=>by rw[oJ.out] at hq;exact jM.out.off q (acy hq)
 have Dy:Hid (¬jJ b bm a1 w.heap.size):=fun e=>e.elim (fun e=>oM) vg
 clear nt;have cg:=aa (HV.out.step ((cI.same HV.out.dev fw.out).trans eI));have oL:=aa ((eM w 151).only eI.only (fun e=>by have:=HV.out.dev.bz _ e;omega));have zs:Hid (¬jJ b bm a1 w.heap.size):=(fun e=>e.elim (fun e=>oM) (fun e=>(cg.out.au _ (ir e)).elim (fun e=>e.elim (fun e=>oM) (fun e=>by have:=HV.out.dev.bz _ e;omega)) (fun _=>vg e)));have zr:=aa ((mJ.out.later fw.out).frame (HV.out.dev.reqs r (rm.out)).2 eI.only);clear eI vg;go_wp2_with(refine cf rfl (.tmp 6) (.tmp 18) rfl w.heap.size r none 0 0 8 rfl rfl (cv oL.out) (fun wK=>jh v b bm d a n D d1 a1 n D w wK/\dO wK w.heap.size r none 0 0 8/\r.At wK) ⟨BN cg.out w.heap.size (ab5 _) zs.out oM jB.out _ _ _ _ _ _ _ _,gn (cv oL.out) oL.out.2.2,zr.out.frame (n7 mJ.out (fun k e=>oM)) (dW w1 w.heap.size _ _ _ _ _ _ _ _)⟩ ?_;rintro wK ⟨kP,ny,Gw⟩;have kW:=aa kP;have pY:=aa ny;have zR:=aa Gw;obtain⟨⟨y0,y1,y2,y3,y4,y5,y6,y7⟩,-,yl⟩:=ny;clear kP Gw cg zs jB oL zr);refine cM (Am r tg jM.out.tag _ zR.out h1) ?_;intro w2 aA;have cu:=aa (kW.out.later aA);have tY:=aa (pY.out.later aA);have tX:=aa (zR.out.later aA);clear kW pY zR aA y0 y1 y2 y3 y4 y5 y6 y7 yl;obtain⟨⟨x0,x1,x2,x3,x4,x5,x6,x7⟩,-,xl⟩:=id tY.out;obtain⟨p0,p1⟩:=cu.out.at'.cells;have mD:=cu.out.at'.map;have qg:=aH cu.out.at'.aW;obtain⟨c',gV,fS,-⟩:=mD.lookup_int sD underlying131 underlying3 (BO _) cT;obtain rfl:c'=c:=by rw[HC.out] at fS;injection fS with e;injection e with _ e;exact e.symm
 have lV:=aa fS;clear fS;go_wp2_with(first|(at_delete;refine wpList_delete_own _ rfl _ _ 131 3 rfl 3 sD underlying131 _ bm n D rfl mD _ _ rfl cT ?_;intro w3 bF tD;have fL:=aa (cu.out.trans (cu.out.at'.dV (ea tD.grown) bF uJ.out));have tZ:=aa (tY.out.only (ea tD.grown) oM);obtain⟨⟨m0,m1,m2,m3,m4,m5,m6,m7⟩,-,ml⟩:=id tZ.out;have PY:Hid (¬jJ b bm a1 w.heap.size):=Dy.out;clear bF tD mD cu tY tX x0 x1 x2 x3 x4 x5 x6 x7 xl p0 p1 qg)|(refine cf rfl (.tmp 6) (.tmp 60) rfl w.heap.size r none 0 0 8 rfl rfl tZ.out.2.1 (fun wK=>jh v b bm d a n D d1 a1 n (D.del (.int .i64 tg)) w wK/\dO wK w.heap.size r none 0 0 8) ⟨BN fL.out w.heap.size (ab5 _) PY.out oM zW.out _ _ _ _ _ _ _ _,gn tZ.out.2.1 tZ.out.2.2⟩ ?_;rintro w4 ⟨kC,⟨k0,k1,k2,k3,k4,k5,k6,k7⟩,-,-⟩;have gA:=aa kC;clear kC fL tZ PY m0 m1 m2 m3 m4 m5 m6 m7 ml));refine ack (v:=.tuple #[fb r none 0 0 8,.bool true,.nilIface]) (by simp[results,results87,go_sem,k0,k1,k2,k3,k4,k5,k6,k7]) rfl ⟨a1,rfl,?_⟩;rw[<-oJ.out];exact gA.out
theorem abh(v b bm:Nat)(d:Dl)(a:An)(n:Nat)(D:DataW Unit)(k:Nat)(r:Rq)(tg:Int)(w:World)(h:mB v b bm d a n D w)(hr:Fc bm d k r tg)(gr:bu r) :
 Calls prog 87 #[.pointer (some ⟨v,0,none⟩),i6 k,.bool false] w fun e w'=>∃a' xa xc xs,e=.returned (.tuple #[fb r xa (List.length xs) xc 0,.bool true,.nilIface])/\Hid (xs=cV d r)/\cy w' xa xs/\(∀ad,xa=some ad->w.heap.size<=ad.block/\¬jJ b bm a' ad.block)/\jh v b bm d a n D (({ d with busy:=d.busy.eraseIdx k }:Dl).cq r) a' n (D.del (.int .i64 tg)) w w':=by
 have mJ:=aa (h.dev.reqs r hr.mem).1;have rm:=aa hr.mem;have jM:=aa hr;have HG:=aa gr;have cT:keyOf prog 3 (i6 tg)=some (.int .i64 tg):=aeD underlying3 (adm hr.rS);have h1:=hr.sU;clear gr hr;obtain⟨c0,c1⟩:=h.cells;have HV:=aa h;have hv:=aH h.aW;have hm:=h.mlt;have JB:=h.dev.lt;have fw:=aa (aB w (.cells #[.bool false,i6 0,i6 0,.slice none 0 0,.slice none 0 0,i6 0,.slice none 0 0,i6 0] 151));clear h;go_enter func87,ntmps87;go_wp2_with fail;refine(Zn b d a _ k r rfl jM.out.at' _ (HV.out.dev.later fw.out) HG.out).mono ?_;rintro e w1 ⟨a1,xa,xc,xs,rfl,jQ,dA,kg,eI⟩;have vg:¬a1.au b w.heap.size:=xu eI HV.out.dev.bz;obtain⟨d1,nt⟩:∃d1:Dl,d1=(({ d with busy:=d.busy.eraseIdx k }:Dl).cq r):=⟨_,rfl⟩
 have oJ:=aa nt;rw[<-nt] at eI;have pB:Hid (∀q∈d1.busy,q∈d.busy):=fun q hq=>by rw[oJ.out,Dl.mw] at hq;exact acy hq
 have jB:Hid (∀q∈d1.busy,q.dC (fun j=>j=w.heap.size)):=fun q hq=>n7 (HV.out.dev.reqs q (pB.out q hq)).1 (fun j e=>oM)
 have zW:=jB;have uJ:Hid (∀q∈d1.busy,q.dC (fun j=>j=bm)):=fun q hq=>jM.out.off q (pB.out q hq)
 have Dy:Hid (¬jJ b bm a1 w.heap.size):=fun e=>e.elim (fun e=>oM) vg
 have oF:∀ad,xa=some ad->ad.block ≠ w.heap.size/\ad.block ≠ bm:=fun ad e=>by have:=(kg ad e).1;rw[ab9] at this;omega
 have MR:=aa oF;have YD:Hid (∀ad,xa=some ad->w.heap.size<=ad.block/\¬jJ b bm a1 ad.block):=fun ad e=>⟨by have:=(kg ad e).1;rw[ab9] at this;omega,fun hk=>hk.elim (oF ad e).2 (kg ad e).2⟩
 have sZ:=aa dA;have xM:=jQ;clear nt oF dA kg jQ;have cg:=aa (HV.out.step ((cI.same HV.out.dev fw.out).trans eI));have oL:=aa ((eM w 151).only eI.only (fun e=>by have:=HV.out.dev.bz _ e;omega));have zs:Hid (¬jJ b bm a1 w.heap.size):=(fun e=>e.elim (fun e=>oM) (fun e=>(cg.out.au _ (ir e)).elim (fun e=>e.elim (fun e=>oM) (fun e=>by have:=HV.out.dev.bz _ e;omega)) (fun _=>vg e)));have zr:=aa ((mJ.out.later fw.out).frame (HV.out.dev.reqs r (rm.out)).2 eI.only);clear eI vg;generalize kQ:xs.length=xm at *;go_wp2_with(refine cf rfl (.tmp 6) (.tmp 18) rfl w.heap.size r xa xm xc 0 rfl rfl (cv oL.out) (fun wK=>jh v b bm d a n D d1 a1 n D w wK/\dO wK w.heap.size r xa xm xc 0/\r.At wK/\cy wK xa xs) ⟨BN cg.out w.heap.size (ab5 _) zs.out oM jB.out _ _ _ _ _ _ _ _,gn (cv oL.out) oL.out.2.2,zr.out.frame (n7 mJ.out (fun k e=>oM)) (dW w1 w.heap.size _ _ _ _ _ _ _ _),gT sZ.out (dW w1 w.heap.size _ _ _ _ _ _ _ _) (fun _ ad e=>(MR.out ad e).1)⟩ ?_;rintro wK ⟨kP,ny,Gw,hxK⟩;have HXK:=aa hxK;clear hxK;have kW:=aa kP;have pY:=aa ny;have zR:=aa Gw;obtain⟨⟨y0,y1,y2,y3,y4,y5,y6,y7⟩,-,yl⟩:=ny;clear kP Gw cg zs jB oL zr);refine cM (Am r tg jM.out.tag _ zR.out h1) ?_;intro w2 aA;have nm:=aa (HXK.out.later aA);have cu:=aa (kW.out.later aA);have tY:=aa (pY.out.later aA);have tX:=aa (zR.out.later aA);clear kW pY zR aA y0 y1 y2 y3 y4 y5 y6 y7 yl;obtain⟨⟨x0,x1,x2,x3,x4,x5,x6,x7⟩,-,xl⟩:=id tY.out;obtain⟨p0,p1⟩:=cu.out.at'.cells;have mD:=cu.out.at'.map;have qg:=aH cu.out.at'.aW;go_wp2_with(first|(at_delete;refine wpList_delete_own _ rfl _ _ 131 3 rfl 3 sD underlying131 _ bm n D rfl mD _ _ rfl cT ?_;intro w3 bF tD;have zw:=aa (gT nm.out (ea tD.grown) (fun _ ad e=>(MR.out ad e).2));have fL:=aa (cu.out.trans (cu.out.at'.dV (ea tD.grown) bF uJ.out));have tZ:=aa (tY.out.only (ea tD.grown) oM);obtain⟨⟨m0,m1,m2,m3,m4,m5,m6,m7⟩,-,ml⟩:=id tZ.out;have PY:Hid (¬jJ b bm a1 w.heap.size):=Dy.out;clear bF tD mD cu tY tX x0 x1 x2 x3 x4 x5 x6 x7 xl p0 p1 qg)|(refine cf rfl (.tmp 6) (.tmp 60) rfl w.heap.size r xa xm xc 0 rfl rfl tZ.out.2.1 (fun wK=>jh v b bm d a n D d1 a1 n (D.del (.int .i64 tg)) w wK/\dO wK w.heap.size r xa xm xc 0/\cy wK xa xs) ⟨BN fL.out w.heap.size (ab5 _) PY.out oM zW.out _ _ _ _ _ _ _ _,gn tZ.out.2.1 tZ.out.2.2,gT zw.out (dW _ w.heap.size _ _ _ _ _ _ _ _) (fun _ ad e=>(MR.out ad e).1)⟩ ?_;rintro w4 ⟨kC,⟨⟨k0,k1,k2,k3,k4,k5,k6,k7⟩,-,-⟩,wu⟩;have F0:=aa wu;clear wu;have gA:=aa kC;clear kC fL tZ PY m0 m1 m2 m3 m4 m5 m6 m7 ml));refine ack (v:=.tuple #[fb r xa xm xc 0,.bool true,.nilIface]) (by simp[results,results87,go_sem,k0,k1,k2,k3,k4,k5,k6,k7]) rfl ⟨a1,xa,xc,xs,by rw[kQ],xM,F0.out,YD.out,?_⟩
 rw[<-oJ.out];exact gA.out
theorem VL(v b bm:Nat)(d:Dl)(a:An)(n:Nat)(D:DataW Unit)(k:Nat)(r:Rq)(tg c:Int)(w:World)(h:mB v b bm d a n D w)(hr:Fc bm d k r tg)(hc:D.atKey (.int .i64 tg) (.lit (.int .i64 0))=.lit (.int .i64 c))(lI:0<=c/\c<2)(hn:n<=1000000000) :
 Calls prog 87 #[.pointer (some ⟨v,0,none⟩),i6 k,.bool true] w fun e w'=>∃a',e=.returned (.tuple #[oG,.bool false,.nilIface])/\jh v b bm d a n D { d with busy:=d.busy.eraseIdx k++[r] } a' (n+1) (D.put (.int .i64 tg) (.lit (.int .i64 (c+1)))) w w':=by
 have mJ:=aa (h.dev.reqs r hr.mem).1;have rm:=aa hr.mem;have jM:=aa hr;have HC:=aa hc;have cT:keyOf prog 3 (i6 tg)=some (.int .i64 tg):=aeD underlying3 (adm hr.rS);have h1:=hr.sU;have Cm:c+1<3:=oM;obtain⟨hc4,hc5⟩:=lI;have jL:=aa (hr.off r hr.mem);have BY:Hid ((d.busy.eraseIdx k).length<2):=by
  show _<_;have h2:=h.dev.gL;have h3:=(ac1.1 hr.at').1;rw[acQ,aca h3];omega
 clear hc hr;obtain⟨c0,c1⟩:=h.cells;have HV:=aa h;have hv:=aH h.aW;have hm:=h.mlt;have JB:=h.dev.lt;have fw:=aa (aB w (.cells #[.bool false,i6 0,i6 0,.slice none 0 0,.slice none 0 0,i6 0,.slice none 0 0,i6 0] 151));clear h;go_enter func87,ntmps87;go_wp2_with fail;refine(DN b d a _ k r rfl jM.out.at' _ (HV.out.dev.later fw.out)).mono ?_;rintro e w1 ⟨a1,rfl,eI⟩;have vg:¬a1.au b w.heap.size:=xu eI HV.out.dev.bz;obtain⟨d1,nt⟩:∃d1:Dl,d1={ d with busy:=d.busy.eraseIdx k }:=⟨_,rfl⟩
 have oJ:=aa nt;rw[<-nt] at eI;have pB:Hid (∀q∈d1.busy,q∈d.busy):=fun q hq=>by rw[oJ.out] at hq;exact acy hq
 have zV:Hid (d1.busy.length<2):=by show _<_;rw[oJ.out];exact BY.out
 have jB:Hid (∀q∈d1.busy,q.dC (fun j=>j=w.heap.size)):=fun q hq=>n7 (HV.out.dev.reqs q (pB.out q hq)).1 (fun j e=>oM)
 have zW:=jB;have uJ:Hid (∀q∈d1.busy,q.dC (fun j=>j=bm)):=fun q hq=>jM.out.off q (pB.out q hq)
 clear nt;have Dy:Hid (¬jJ b bm a1 w.heap.size):=fun e=>e.elim (fun e=>oM) vg
 have fu:Hid (r.dC (a1.au b)):=⟨fun he ad ha hk=>(eI.au _ hk).elim ((HV.out.dev.reqs r (rm.out)).2.1 he ad ha) (fun h'=>by have:=yx mJ.out.data he ha;rw[ab9] at h';omega),fun he ad ha hk=>(eI.au _ hk).elim ((HV.out.dev.reqs r (rm.out)).2.2 he ad ha) (fun h'=>by have:=qW mJ.out.tags he ha;rw[ab9] at h';omega)⟩
 have cg:=aa (HV.out.step ((cI.same HV.out.dev fw.out).trans eI));have oL:=aa ((eM w 151).only eI.only (fun e=>by have:=HV.out.dev.bz _ e;omega));have zs:Hid (¬jJ b bm a1 w.heap.size):=(fun e=>e.elim (fun e=>oM) (fun e=>(cg.out.au _ (ir e)).elim (fun e=>e.elim (fun e=>oM) (fun e=>by have:=HV.out.dev.bz _ e;omega)) (fun _=>vg e)));have zr:=aa ((mJ.out.later fw.out).frame (HV.out.dev.reqs r (rm.out)).2 eI.only);clear eI vg;go_wp2_with(refine cf rfl (.tmp 6) (.tmp 18) rfl w.heap.size r none 0 0 8 rfl rfl (cv oL.out) (fun wK=>jh v b bm d a n D d1 a1 n D w wK/\dO wK w.heap.size r none 0 0 8/\r.At wK) ⟨BN cg.out w.heap.size (ab5 _) zs.out oM jB.out _ _ _ _ _ _ _ _,gn (cv oL.out) oL.out.2.2,zr.out.frame (n7 mJ.out (fun k e=>oM)) (dW w1 w.heap.size _ _ _ _ _ _ _ _)⟩ ?_;rintro wK ⟨kP,ny,Gw⟩;have kW:=aa kP;have pY:=aa ny;have zR:=aa Gw;obtain⟨⟨y0,y1,y2,y3,y4,y5,y6,y7⟩,-,yl⟩:=ny;clear kP Gw cg zs jB oL zr);refine cM (Am r tg jM.out.tag _ zR.out h1) ?_;intro w2 aA;have cu:=aa (kW.out.later aA);have tY:=aa (pY.out.later aA);have tX:=aa (zR.out.later aA);clear kW pY zR aA y0 y1 y2 y3 y4 y5 y6 y7 yl;obtain⟨⟨x0,x1,x2,x3,x4,x5,x6,x7⟩,-,xl⟩:=id tY.out;obtain⟨p0,p1⟩:=cu.out.at'.cells;have mD:=cu.out.at'.map;have qg:=aH cu.out.at'.aW;obtain⟨c',gV,fS,-⟩:=mD.lookup_int sD underlying131 underlying3 (BO _) cT;obtain rfl:c'=c:=by rw[HC.out] at fS;injection fS with e;injection e with _ e;exact e.symm
 have lV:=aa fS;clear fS;go_wp2_with(at_mapUpdate;refine aeT _ rfl _ _ _ 131 rfl 3 3 sD underlying131 _ bm n D rfl mD (by unfold maxLen;omega) _ _ _ rfl rfl cT _ [] (ad6 underlying3 (adm oM)) ?_;intro w3 bF kB;have fL:=aa (cu.out.trans (cu.out.at'.dV (ea kB) bF uJ.out));have tZ:=aa (tY.out.only (ea kB) oM);have IB:=aa (tX.out.frame jL.out (ea kB));clear bF kB mD cu tY tX x0 x1 x2 x3 x4 x5 x6 x7 xl p0 p1 qg);have Wv:bL w3 w3.drew:=(aQ _ _).drew;have xi:=aa (fL.out.later Wv);have Tw:=aa (tZ.out.later Wv);have IC:=aa (IB.out.later Wv);have HS:Hid (w3.drew.cell? ⟨v,0,none⟩=some (.pointer (some ⟨b,0,none⟩))):=xi.out.at'.cells.1;have eg:∀args w,Sem.run prog (callFunc 132 args) w=.ok (.enter 132 args) w:=by intro args w;go_simp
 clear fL tZ IB Wv
 (try simp only[Act.put,dP])
 refine eK (S:=fun wz=>wz.cell? ⟨v,0,none⟩=some (.pointer (some ⟨b,0,none⟩))) (d:=10) kR ?_;generalize w3.drew=w3 at *;refine tk 0 ?_ rfl (il ⟨by rfl,?_⟩) HS.out ?_;rotate_left;(focus(intro w0 s6;go_simp;(try with_reducible rfl)));(try simp only[Act.put,dP])
 refine tk 1 ?_ rfl (il ⟨by rfl,?_⟩) HS.out ?_;rotate_left;(focus(intro w0 s6;go_simp;(try with_reducible rfl)));(try simp only[Act.put,dP])
 refine tk 2 ?_ rfl (il ⟨by rfl,?_⟩) HS.out ?_;rotate_left;(focus(intro w0 s6;go_simp;(try with_reducible rfl)));(try simp only[Act.put,dP])
 refine tk 3 ?_ rfl (il ⟨by rfl,?_⟩) HS.out ?_;rotate_left;(focus(intro w0 s6;go_simp;(try with_reducible rfl)));(try simp only[Act.put,dP])
 refine tk 4 ?_ rfl (il ⟨by rfl,?_⟩) HS.out ?_;rotate_left;(focus(intro w0 s6;go_simp;(try with_reducible rfl)));(try simp only[Act.put,dP])
 refine tk 5 ?_ rfl (il ⟨by rfl,?_⟩) HS.out ?_;rotate_left;(focus(intro w0 s6;go_simp;(try with_reducible rfl)));(try simp only[Act.put,dP])
 obtain⟨⟨x0,x1,x2,x3,x4,x5,x6,x7⟩,-,xl⟩:=id Tw.out;refine bn (i:=6) rfl kR ?_;intro K hK;go_simp;refine hK _ _ (fun _=>HS.out) ?_
 (try simp only[Act.put,dP])
 clear hK;refine bn (i:=7) rfl kR ?_;intro K hK;refine r7 rfl 132 51 53 42 146 rfl eg (.pointer (some ⟨b,0,none⟩)) r.val rfl rfl .nilIface (fun w'=>∃a',cI b d1 a1 { d1 with busy:=d1.busy++[r] } a' w3 w') ((KM b d1 a1 r _ xi.out.at'.dev zV.out IC.out fu.out).mono (fun e w' ⟨a',he,hs⟩=>⟨he,a',hs⟩)) ?_;rintro w4 ⟨a4,kC⟩;have Nk:¬jJ b bm a4 w.heap.size:=by
  rintro(e|e)
  ·omega
  ·rcases kC.au _ e with e|e
   ·exact Dy.out (ir e)
   ·omega
 have gA:=aa (xi.out.trans (xi.out.at'.step kC));have VZ:=aa (Tw.out.only kC.only (fun e=>Dy.out (ir e)));have P2:=aa Nk;refine hK _ _ (fun _=>gA.out.at'.cells.1) ?_
 (try simp only[Act.put,dP])
 clear hK kC Nk x0 x1 x2 x3 x4 x5 x6 x7 xl xi Tw IC HS;refine bn (i:=8) rfl kR ?_;intro K hK;refine FP rfl (.tmp 6) (.tmp 47) rfl w.heap.size ie none 0 0 0 rfl rfl VZ.out.2.1 ?_;have eP:=aa (BN gA.out w.heap.size (ab5 _) P2.out oM (fun q hq=>by rcases acs.1 hq with cE|cE;exact zW.out q cE;(rw[acz.1 cE];exact n7 mJ.out (fun k e=>oM))) (.bool ie.wr) (i6 ie.f) (i6 ie.m) (.slice ie.da ie.data.length ie.dc) (.slice ie.ta ie.tags.length ie.tc) (i6 ie.born) (.slice none 0 0) (i6 0));have B0:=aa (gn (r:=ie) (xa:=none) (n:=0) (xc:=0) (er:=0) VZ.out.2.1 VZ.out.2.2);refine hK _ _ (fun _=>eP.out.at'.cells.1) ?_
 (try simp only[Act.put,dP])
 clear hK;generalize xB w4 w.heap.size (.bool ie.wr) (i6 ie.f) (i6 ie.m) (.slice ie.da ie.data.length ie.dc) (.slice ie.ta ie.tags.length ie.tc) (i6 ie.born) (.slice none 0 0) (i6 0)=w5 at *;clear gA VZ P2;refine bn (i:=9) rfl kR ?_;intro K hK;go_simp;refine hK _ _ (fun _=>eP.out.at'.cells.1) ?_;(try simp only[Act.put,dP]);clear hK;refine bn (i:=10) rfl kR ?_;intro K hK;go_simp;refine hK _ _ (fun _=>eP.out.at'.cells.1) ?_;(try simp only[Act.put,dP]);clear hK;refine fp kR ?_ _;obtain⟨⟨k0,k1,k2,k3,k4,k5,k6,k7⟩,-,-⟩:=id B0.out;go_wp2;exact ack (v:=.tuple #[oG,.bool false,.nilIface]) (by simp[results,results87,go_sem,k0,k1,k2,k3,k4,k5,k6,k7,ie]) rfl ⟨a4,rfl,by have:=eP.out;rw[oJ.out] at this;exact this⟩
theorem Ky(v b bm:Nat)(d:Dl)(a:An)(n:Nat)(D:DataW Unit)(t:Bool)(w:World)(h:mB v b bm d a n D w)(ht:decide (d.busy.length<2)=t):Calls prog 83 #[.pointer (some ⟨v,0,none⟩)] w (rB (.bool t) w):=by
 cases t with
 |true=>exact Vj v b bm d a n D w h (ae6 ht)
 |false =>
  obtain⟨c0,c1⟩:=h.cells;have HV:=aa h;have h2:=of_decide_eq_false ht;have pE:¬(d.busy.length:Int)<2:=oM;clear h c1 ht h2;go_enter func83,ntmps83;go_wp2_with fail;refine(yK b d a _ HV.out.dev).mono ?_;rintro e w1 ⟨xa,xc,rfl,-,-,hb⟩;go_wp2;go_ret;exact⟨dN (aci oM),hb⟩
theorem mB.frame{F:Nat->Prop}{v b bm:Nat}{d:Dl}{a:An}{n:Nat}{D:DataW Unit}{w w':World}(h:mB v b bm d a n D w)(hk:aG F w w')(hF:∀k,jJ b bm a k->¬F k)(hv:¬F v)(hr:∀r∈d.busy,r.dC F):mB v b bm d a n D w' :=
 ⟨h.dev.frame hk (fun k e=>hF k (ir e)) hr,by rw[hk.block v (aH h.aW) hv];exact h.aW,mj h.map (hk.block bm h.mlt (hF bm (il rfl))),h.au⟩
theorem mB.bz{v b bm:Nat}{d:Dl}{a:An}{n:Nat}{D:DataW Unit}{w:World}(h:mB v b bm d a n D w)(k:Nat)(hk:jJ b bm a k):k<w.heap.size:=hk.elim (fun e=>by rw[e];exact h.mlt) (h.dev.bz k)
end
section
open Go.RowKit Go.BigFrame
structure Pu where
 pl:Nat
 data:ByteArray
structure Rd where
 kept:List ByteArray
 now:List ByteArray
 waits:List Pu
 busy:List Rq
def kz(kp:Int):Nat->List Pu->List ByteArray->List ByteArray
 |_,[],G=>G
 |i,x::l,G=>kz kp (i+1) l (if mG kp (i % 64)=true then G.set x.pl x.data else G)
theorem B5(kp:Int)(l:List Pu)(x:Pu):∀(i:Nat) (G:List ByteArray),kz kp i (l++[x]) G=if mG kp ((i+l.length) % 64)=true then(kz kp i l G).set x.pl x.data else kz kp i l G:=by
 induction l with
 |nil=>intro i G;rfl
 |cons y l ih =>
  intro i G;show kz kp (i+1) (l++[x]) _=_;rw[ih,ac7,show i+1+l.length=i+(l.length+1) from oM]
  rfl
def Rd.write(m:Rd)(p:Nat)(s:ByteArray):Rd:={ m with now:=m.now.set p s,waits:=m.waits++[⟨p,s⟩] }
def Rd.flush(m:Rd):Rd:={ m with kept:=m.now,waits:=[] }
def Rd.fk(m:Rd)(kp:Int):Rd:=⟨kz kp 0 m.waits m.kept,kz kp 0 m.waits m.kept,[],[]⟩
structure kq(d:Dl)(m:Rd):Prop where
 now:d.now=m.now
 bP:d.bP=m.kept
 next:d.next=m.waits.length % 64
 same:∀kp,d.after kp=kz kp 0 m.waits m.kept
theorem kq.start:kq d0 ⟨List.replicate 32 bE,List.replicate 32 bE,[],[]⟩:=⟨rfl,rfl,rfl,fun _=>rfl⟩
theorem kq.write{d:Dl}{m:Rd}(h:kq d m)(p:Nat)(s:ByteArray):kq (d.write p s) (m.write p s) where
 now:=by show d.now.set p s=m.now.set p s;rw[h.now]
 bP:=h.bP
 next:=by
  have:=h.next;show(d.next+1) % 64=(m.waits++[(⟨p,s⟩:Pu)]).length % 64;rw[ab7,acu];omega
 same:=fun kp=>by
  show(d.write p s).after kp=kz kp 0 (m.waits++[⟨p,s⟩]) m.kept;rw[K6,B5,h.same kp,h.next,acq]
theorem kq.busy{d:Dl}{m:Rd}(h:kq d m)(l l':List Rq):kq { d with busy:=l } { m with busy:=l' }:=⟨h.now,h.bP,h.next,h.same⟩
theorem kq.flush{d:Dl}{m:Rd}(h:kq d m):kq d.flush m.flush:=⟨h.now,h.now,rfl,fun _=>h.now⟩
theorem kq.fk{d:Dl}{m:Rd}(h:kq d m)(kp:Int):kq (d.fk kp) (m.fk kp):=⟨h.same kp,h.same kp,rfl,fun _=>h.same kp⟩
def Rd.cG(m:Rd)(r:Rq)(n:Nat):Rd:=(List.range n).foldl (fun m j=>m.write (r.f.toNat+j) (r.data.getD j bE)) m
theorem Rd.fD(m:Rd)(r:Rq)(n:Nat):m.cG r (n+1)=(m.cG r n).write (r.f.toNat+n) (r.data.getD n bE):=by simp[Rd.cG,aej]
theorem kq.cG{d:Dl}{m:Rd}(h:kq d m)(r:Rq)(n:Nat):kq (d.cG r n) (m.cG r n):=by
 induction n with
 |zero=>exact h
 |succ n ih=>rw[Dl.fD,Rd.fD];exact ih.write _ _
def Rd.cq(m:Rd)(r:Rq):Rd:=if r.wr=true then m.cG r r.m.toNat else m
theorem kq.cq{d:Dl}{m:Rd}(h:kq d m)(r:Rq):kq (d.cq r) (m.cq r):=by
 unfold Dl.cq Rd.cq
 split
 ·exact h.cG r _
 ·exact h
theorem Rd.oa(m:Rd)(r:Rq)(n:Nat):(m.cG r n).busy=m.busy:=by
 induction n with
 |zero=>rfl
 |succ n ih=>rw[Rd.fD];exact ih
def mn(l:List Pu):List Value:=l.flatMap fun x=>[i6 x.pl,.string x.data]
theorem CA(x:Pu)(l:List Pu):mn (x::l)=i6 x.pl::.string x.data::mn l:=rfl
theorem Hw(l:List Pu):(mn l).length=l.length*2:=by
 induction l with
 |nil=>rfl
 |cons r l ih=>rw[CA,ac7,ac7,ih,ac7];omega
theorem Hv(l l':List Pu):mn (l++l')=mn l++mn l':=by simp[mn]
theorem LA(l:List Pu)(x:Pu):mn (l++[x])=mn l++[i6 x.pl,.string x.data]:=by rw[Hv];rfl
theorem R7(l:List Pu):∀(i:Nat) (h:i<l.length),(mn l)[i*2]?=some (i6 l[i].pl)/\(mn l)[i*2+1]?=some (.string l[i].data):=by
 induction l with
 |nil=>intro i h;exact absurd h (acg _)
 |cons r l ih =>
  intro i h
  cases i with
  |zero=>exact⟨rfl,rfl⟩
  |succ i =>
   have:=ih i (by simpa using h);rw[CA,show(i+1)*2=i*2+2 from oM];exact this
structure Ra where
 wa:Option Addr
 wc:Nat
 la:Option Addr
 lc:Nat
def Rd.cells(m:Rd)(a:Ra):List Value:=dw m.kept++dw m.now++[.slice a.wa m.waits.length a.wc,.slice a.la m.busy.length a.lc]
def Ra.au(a:Ra)(b:Nat)(k:Nat):Prop:=k=b\/(∃p,a.wa=some p/\k=p.block)
structure dv(b:Nat)(m:Rd)(a:Ra)(w:World):Prop where
 lu:m.kept.length=32
 dr:m.now.length=32
 aW:w.heap[b]?=some (.cells (m.cells a).toArray 49 (0,0))
 jx:w.ownsRow 0 178 2 (.slice a.wa m.waits.length a.wc) m.waits.length (mn m.waits)
 eW:aS w a.la m.busy
 ze:a.la=none->a.lc=0
 qJ:m.busy.length<=a.lc
 ij:m.busy ≠ []->∀p,a.la=some p->¬a.au b p.block
 iX:∀p,a.wa=some p->p.block ≠ b
 reqs:∀r∈m.busy,r.dC (a.au b)
 jX:∀x∈m.waits,x.pl<32
 gL:m.busy.length<=2
structure dR(b:Nat)(m:Rd)(a:Ra)(m':Rd)(a':Ra)(w w':World):Prop where
 dev:dv b m' a' w'
 only:aG (a.au b) w w'
 au:∀k,a'.au b k->a.au b k\/w.heap.size<=k
 tG:m'.busy ≠ []->∀p,a'.la=some p->(m.busy ≠ []/\a.la=some p)\/w.heap.size<=p.block
theorem dR.trans{b:Nat}{d d' Qy:Rd}{a a' P9:Ra}{w w' eu:World}(h:dR b d a d' a' w w')(k:dR b d' a' Qy P9 w' eu):dR b d a Qy P9 w eu :=
 ⟨k.dev,h.only.trans k.only h.au,fun i hi=>(k.au i hi).elim (h.au i) (fun h'=>ir (acv h.only.size h')),fun aE p hp=>(k.tG aE p hp).elim (fun e=>h.tG e.1 p e.2) (fun h'=>ir (acv h.only.size h'))⟩
theorem Rd.kZ{d:Rd}{a:Ra}(h1:d.kept.length=32)(h2:d.now.length=32):(d.cells a).length=66:=by simp[Rd.cells,aN,h1,h2]
theorem Rd.DI{d:Rd}{a:Ra}(h1:d.kept.length=32)(h2:d.now.length=32):(d.cells a)[64]?=some (.slice a.wa d.waits.length a.wc):=by
 rw[Rd.cells,acT (by simp[aN,h1,h2])];simp[aN,h1,h2]
theorem Rd.DJ{d:Rd}{a:Ra}(h1:d.kept.length=32)(h2:d.now.length=32):(d.cells a)[65]?=some (.slice a.la d.busy.length a.lc):=by
 rw[Rd.cells,acT (by simp[aN,h1,h2])];simp[aN,h1,h2]
theorem Rd.Fh{d:Rd}{a:Ra}(h1:d.kept.length=32)(h2:d.now.length=32)(k:Nat)(hk:k<32):(d.cells a)[32+k]?=some (.string (d.now.getD k bE)):=by
 rw[Rd.cells,acA,acT (by rw[aN];omega),aN,h1,acO (by rw[aN];omega)]
 simp[dw,acb (show k<d.now.length from oM)]
theorem Rd.TM{d:Rd}{a:Ra}(h1:d.kept.length=32)(k:Nat)(hk:k<32):(d.cells a)[k]?=some (.string (d.kept.getD k bE)):=by
 rw[Rd.cells,acA,acO (by rw[aN];omega)]
 simp[dw,acb (show k<d.kept.length from oM)]
section
variable{b:Nat}{d:Rd}{a:Ra}{w:World}
theorem dv.oN(h:dv b d a w):w.cell? ⟨b,64,none⟩=some (.slice a.wa d.waits.length a.wc):=by rw[aP h.aW];exact Rd.DI h.lu h.dr
theorem dv.jb(h:dv b d a w):w.cell? ⟨b,65,none⟩=some (.slice a.la d.busy.length a.lc):=by rw[aP h.aW];exact Rd.DJ h.lu h.dr
theorem dv.Ae(h:dv b d a w)(k:Nat)(hk:k<32):w.cell? ⟨b,32+k,none⟩=some (.string (d.now.getD k bE)):=by rw[aP h.aW];exact Rd.Fh h.lu h.dr k hk
theorem dv.aaZ(h:dv b d a w)(k:Nat)(hk:k<32):w.cell? ⟨b,k,none⟩=some (.string (d.kept.getD k bE)):=by rw[aP h.aW];exact Rd.TM h.lu k hk
theorem dv.fz(h:dv b d a w)(j:Nat):w.frozen? ⟨b,j,none⟩=false:=cQ h.aW j
theorem dv.lt(h:dv b d a w):b<w.heap.size:=aH h.aW
theorem dv.Bj(h:dv b d a w)(p:Addr)(hp:a.wa=some p):p.block<w.heap.size:=(h.jx.lt p.block (by rw[hp];rfl)).2
theorem dv.bz(h:dv b d a w)(k:Nat)(hk:a.au b k):k<w.heap.size:=by
 rcases hk with rfl|⟨p,hp,rfl⟩
 ·exact h.lt
 ·exact h.Bj p hp
theorem uw{F:Nat->Prop}{w w':World}{a:Option Addr}{l:List Rq}(h:aS w a l)(hk:aG F w w')(hn:l ≠ []->∀p,a=some p->¬F p.block)(hr:∀r∈l,r.dC F):aS w' a l:=by
 obtain⟨h1,h2,h3⟩:=h;refine⟨?_,fun r dh=>(h2 r dh).frame (hr r dh) hk,h3⟩
 rcases h1 with h|⟨b,o,ha,hc⟩
 ·exact il h
 ·by_cases he:l=[]
  ·exact il he
  ·refine ir ⟨b,o,ha,fun i hi j hj=>?_⟩;have:=hc i hi j hj;rw[hk.cell (p:=⟨b,o+i*6+j,none⟩) (al this) (hn he ⟨b,o,none⟩ ha)];exact this
theorem dv.frame{F:Nat->Prop}{w':World}(h:dv b d a w)(hk:aG F w w')(hF:∀k,a.au b k->¬F k)(hl:d.busy ≠ []->∀p,a.la=some p->¬F p.block)(hr:∀r∈d.busy,r.dC F):dv b d a w' where
 lu:=h.lu
 dr:=h.dr
 aW:=by rw[hk.block b h.lt (hF b (il rfl))];exact h.aW
 jx:=ei h.jx fun g hg=>by
  obtain⟨p,hp,rfl⟩:=bH.1 hg;exact hk.block _ (h.Bj p hp) (hF _ (ir ⟨p,hp,rfl⟩))
 eW:=uw h.eW hk hl hr
 ze:=h.ze
 qJ:=h.qJ
 ij:=h.ij
 iX:=h.iX
 reqs:=h.reqs
 jX:=h.jX
 gL:=h.gL
theorem dv.later{w':World}(h:dv b d a w)(hk:bL w w'):dv b d a w' :=
 h.frame (F:=fun _=>False) (aG.cj hk) (fun _ _ e=>e) (fun _ _ _ e=>e) (fun _ _=>⟨fun _ _ _ e=>e,fun _ _ _ e=>e⟩)
end
theorem dR.later{b:Nat}{d d':Rd}{a a':Ra}{w w' eu:World}(h:dR b d a d' a' w w')(hb:bL w' eu):dR b d a d' a' w eu:=⟨h.dev.later hb,h.only.later hb,h.au,h.tG⟩
theorem dR.oP{b:Nat}{d d':Rd}{a a':Ra}{w w':World}(h:dR b d a d' a' w w'):dR b d a d' a' w w'.drew:=h.later (aQ _ _).drew
theorem dR.same{b:Nat}{d:Rd}{a:Ra}{w w':World}(h:dv b d a w)(hb:bL w w'):dR b d a d a w w':=⟨h.later hb,aG.cj hb,fun _ hk=>il hk,fun aE _ hp=>il ⟨aE,hp⟩⟩
theorem Kp(d:Rd)(a:Ra)(l:List Rq)(x:Option Addr)(c:Nat)(h1:d.kept.length=32)(h2:d.now.length=32):(d.cells a).set 65 (.slice x l.length c)=({ d with busy:=l }:Rd).cells { a with la:=x,lc:=c }:=by
 rw[Rd.cells,adC _ _ (by simp[aN,h1,h2])]
 simp[aN,h1,h2,Rd.cells]
theorem Ko(d:Rd)(a:Ra)(l:List Pu)(x:Option Addr)(c:Nat)(h1:d.kept.length=32)(h2:d.now.length=32):(d.cells a).set 64 (.slice x l.length c)=({ d with waits:=l }:Rd).cells { a with wa:=x,wc:=c }:=by
 rw[Rd.cells,adC _ _ (by simp[aN,h1,h2])]
 simp[aN,h1,h2,Rd.cells]
theorem Hy(d:Rd)(a:Ra)(p:Nat)(s:ByteArray)(h1:d.kept.length=32)(h2:d.now.length=32)(hp:p<32):(d.cells a).set (32+p) (.string s)=({ d with now:=d.now.set p s }:Rd).cells a:=by
 have e1:(dw d.kept).length=32:=by rw[aN,h1]
 rw[Rd.cells,Rd.cells,acA,adC _ _ oM,e1,show 32+p-32=p from oM,aer _ _ (by rw[aN];omega),KN,acA]
theorem Fx(d:Rd)(a:Ra)(p:Nat)(s:ByteArray)(h1:d.kept.length=32)(hp:p<32):(d.cells a).set p (.string s)=({ d with kept:=d.kept.set p s }:Rd).cells a:=by
 rw[Rd.cells,Rd.cells,acA,aer _ _ (by rw[aN];omega),KN,acA]
theorem dv.uS{b:Nat}{d:Rd}{a:Ra}{w w3:World}(h:dv b d a w)(hb:bL w w3)(l:List Rq)(oU:l.length<=2)(x:Option Addr)(c:Nat)(hl:aS w3 x l)(hn:x=none->c=0)(hc:l.length<=c)(hx:l ≠ []->∀p,x=some p->w.heap.size<=p.block)(hr:∀r∈l,r.At w/\r.dC (a.au b)) :
 dR b d a { d with busy:=l } { a with la:=x,lc:=c } w (w3.setCell ⟨b,65,none⟩ (.slice x l.length c)):=by
 have h3:=h.later hb;have wh:aG (a.au b) w (w3.setCell ⟨b,65,none⟩ (.slice x l.length c)):=(aG.cj hb).setCell _ (il (il rfl)) _;have abN:aG (fun k=>k=b) w3 (w3.setCell ⟨b,65,none⟩ (.slice x l.length c)):=(aG.refl (fun k=>k=b) w3).setCell ⟨b,65,none⟩ (il rfl) _;have n5:l ≠ []->∀p,x=some p->¬a.au b p.block:=fun aE p hp hk=>by
  have:=h.bz _ hk;have:=hx aE p hp
  omega
 refine⟨?_,wh,fun k hk=>il hk,fun aE p hp=>ir (hx aE p hp)⟩;exact {
  lu:=h.lu
  dr:=h.dr
  aW:=by rw[bM h3.aW,Kp d a l x c h.lu h.dr]
  jx:=ei h3.jx fun g hg=>by
   obtain⟨p,hp,rfl⟩:=bH.1 hg;exact mu _ _ (h.iX p hp)
  eW:=uw hl abN (fun aE p hp e=>n5 aE p hp (il e)) (fun r dh=>⟨fun he ad ha e=>(hr r dh).2.1 he ad ha (il e),fun he ad ha e=>(hr r dh).2.2 he ad ha (il e)⟩)
  ze:=hn
  qJ:=hc
  ij:=n5
  iX:=h.iX
  reqs:=fun r dh=>(hr r dh).2
  jX:=h.jX
  gL:=oU }
theorem dv.qY{b:Nat}{d d':Rd}{a:Ra}{w w':World}(h:dv b d a w)(hO:aG (fun k=>k=b) w w')(sx:w'.heap[b]?=some (.cells (d'.cells a).toArray 49 (0,0)))(hw:d'.waits=d.waits)(hb:d'.busy=d.busy)(lu:d'.kept.length=32)(dr:d'.now.length=32):dR b d a d' a w w':=by
 refine⟨?_,hO.mono (fun k hk=>il hk),fun k hk=>il hk,fun aE p hp=>il ⟨by rw[<-hb];exact aE,hp⟩⟩;exact {
  lu:=lu
  dr:=dr
  aW:=sx
  jx:=by
   rw[hw];exact ei h.jx fun g hg=>by
    obtain⟨p,hp,rfl⟩:=bH.1 hg;exact hO.block _ (h.Bj p hp) (h.iX p hp)
  eW:=by
   rw[hb];exact uw h.eW hO (fun aE p hp e=>h.ij aE p hp (il e)) (fun r dh=>⟨fun he ad ha e=>(h.reqs r dh).1 he ad ha (il e),fun he ad ha e=>(h.reqs r dh).2 he ad ha (il e)⟩)
  ze:=h.ze
  qJ:=by rw[hb];exact h.qJ
  ij:=by rw[hb];exact h.ij
  iX:=h.iX
  reqs:=by rw[hb];exact h.reqs
  jX:=by rw[hw];exact h.jX
  gL:=by rw[hb];exact h.gL }
theorem dv.Ny{b:Nat}{d:Rd}{a:Ra}{w w2 w3:World}(h:dv b d a w)(hb:bL w w2)(l:List Pu)(hf:∀x∈l,x.pl<32){v:Value}(bp:w3.ownsRow 0 178 2 v l.length (mn l))(hO:aG (fun k=>∃p,a.wa=some p/\k=p.block) w2 w3)(hv:∀g,v.ownBlock=some g->(∃p,a.wa=some p/\g=p.block)\/w2.heap.size<=g) :
 ∃x c,v=.slice x l.length c/\dR b d a { d with waits:=l } { a with wa:=x,wc:=c } w (w3.setCell ⟨b,64,none⟩ v):=by
 obtain⟨x,c,rfl,_⟩:=iK bp;have h2:=h.later hb;have pN:=hb.size;have nb:¬∃p,a.wa=some p/\b=p.block:=fun⟨p,hp,e⟩=>h.iX p hp e.symm
 have aq:=h.lt;have e3:w3.heap[b]?=some (.cells (d.cells a).toArray 49 (0,0)):=by
  rw[hO.block b oM nb];exact h2.aW
 have xb:∀p,x=some p->p.block ≠ b:=fun p hp e=>by
  rcases hv p.block (bH.2 ⟨p,hp,rfl⟩) with⟨q,hq,e'⟩|h'
  ·exact h.iX q hq oM
  ·omega
 have abM:aG (a.au b) w2 (w3.setCell ⟨b,64,none⟩ (.slice x l.length c)):=(hO.mono (F':=a.au b) (fun k hk=>ir hk)).setCell ⟨b,64,none⟩ (il (il rfl)) _;have wh:aG (a.au b) w (w3.setCell ⟨b,64,none⟩ (.slice x l.length c)):=(aG.cj (F:=a.au b) hb).trans abM (fun i e=>il e);have l9:∀k,({ a with wa:=x,wc:=c }:Ra).au b k->a.au b k\/w.heap.size<=k:=by
  rintro k (rfl|⟨p,hp,rfl⟩)
  ·exact il (il rfl)
  ·rcases hv p.block (bH.2 ⟨p,hp,rfl⟩) with⟨q,hq,e'⟩|h'
   ·exact il (ir ⟨q,hq,e'⟩)
   ·exact ir oM
 refine⟨x,c,rfl,⟨?_,wh,l9,fun aE p hp=>il ⟨aE,hp⟩⟩⟩;have lr:aS (w3.setCell ⟨b,64,none⟩ (.slice x l.length c)) a.la d.busy:=uw h.eW wh h.ij h.reqs;exact {
  lu:=h.lu
  dr:=h.dr
  aW:=by rw[bM e3,Ko d a l x c h.lu h.dr]
  jx:=ei bp fun g rJ=>by
   obtain⟨p,hp,rfl⟩:=bH.1 rJ;exact mu _ _ (xb p hp)
  eW:=lr
  ze:=h.ze
  qJ:=h.qJ
  ij:=fun aE p hp hk=>(l9 _ hk).elim (h.ij aE p hp) (fun h'=>by
   rcases h.eW.1 with e|⟨b',o',ha,hc⟩
   ·exact aE e
   ·have GF:d.busy.length ≠ 0:=fun e=>aE (acd e)
    have:=al (hc 0 oM 0 oM)
    change a.la=some p at hp
    rw[ha] at hp;simp only[ace] at hp;subst hp;exact absurd h' (by simp only;omega))
  iX:=xb
  reqs:=fun r dh=>Rq.dC.step (h.eW.2.1 r dh) (h.reqs r dh) l9
  jX:=hf
  gL:=h.gL }
theorem kj{P:Program}{ops:Array Oper}{o:Oper}{a:Act}{w:World}{K:Act->World->Prop}{Q:Exit->Act->World->Prop}{E:Prop}
 (hg:o.guard=none) (s x:Operand) (t:TypeId) (qf:o.op=Op.call { callee:=Callee.builtin Builtin.append,args:=#[s,x],argTypes:=#[t,t] })
 (base:Nat) (e:TypeId) (i:TypeInfo) (z:Value) (size bytes:Nat) (ht:P.underlying t=some (.slice e)) (hi:P.info? e=some i) (hz:i.zero=some z)
 (rQ:i.size=size) (nY:i.bytes=bytes) (yj:z.cells.size=size) (jm:0<size)
 (v:Value) (n:Nat) (xs:List Value) (hs:a.eval s=v) (bp:w.ownsRow base e size v n xs)
 (ad:Option Addr) (m c:Nat) (news:List Value) (hx:a.eval x=.slice ad m c) (lO:gu w size ad m c news)
 (As:n+m<=maxLen) (nZ:(n+m)*bytes<=140737488355328) (j9:base<=w.heap.size)
 (h:∀v' w',w'.ownsRow base e size v' (n+m) (xs++news)->Below base w w'->K (a.put o.dst v') w') :
 if Region.wanted o (yielded ops a.tmps)=true then Oper.wp P o a w K Q else E:=by
 have hw:Region.wanted o (yielded ops a.tmps)=true:=by simp[Region.wanted,hg]
 rw[aca hw];obtain⟨h1,h2,h3⟩:=lO
 rcases h3 with⟨rfl,rfl,rfl⟩|⟨Qa,rfl,hc⟩
 ·obtain rfl:news=[]:=acd (by rw[h1];simp);have hr:=aeN (P:=P) w base t o.type e i size ht hi v n xs bp;unfold Oper.wp
  simp[execOp,qf,resolve,invoke,builtin,hs,hx,hr,Result.andThen]
  exact h v w (by simpa using bp) (aQ _ _)
 ·obtain⟨v',w',gV,r1,r2,_⟩:=run_append_own (P:=P) w base t o.type e i z size bytes ht hi hz rQ nY yj jm v n xs bp Qa m c news h1 hc h2 As nZ j9;unfold Oper.wp
  simp[execOp,qf,resolve,invoke,builtin,hs,hx,gV,Result.andThen]
  exact h v' w' r1 ((aQ _ _).grown r2 j9 fun k hk=>(bp.lt k hk).1)
theorem EC{w w':World}{B e size n:Nat}{v:Value}{xs:List Value}(h:w.ownsRow B e size v n xs)(hb:bL w w'):w'.ownsRow B e size v n xs:=ei h (fun g hg=>hb.block g (h.lt g hg).2)
structure NM(base:Nat)(w:World)(a:Option Addr)(c:Nat)(l:List Rq):Prop where
 here:aS w a l
 nil:a=none->c=0
 cap:l.length<=c
 new:∀p,a=some p->base<=p.block
theorem n6{w:World}{base:Nat}{v:Value}{l:List Rq}{n:Nat}(h:w.ownsRow base 146 6 v n (aY l))(fS:∀r∈l,r.At w)(hn:n=l.length)(hb:l.length<=9223372036854775807):∃a c,v=.slice a l.length c/\NM base w a c l:=by
 obtain⟨a,c,hv,h1,h2,_,h3,h4⟩:=qz h fS hn hb;exact⟨a,c,hv,h1,h3,h2,fun p hp=>(h4 p hp).1⟩
theorem Ch(l:List Rq)(k:Nat):l.eraseIdx k=l.take k++l.drop (k+1):=acZ l k
theorem r6(l:List Rq)(b o c k:Nat)(w:World)(hl:aS w (some ⟨b,o,none⟩) l)(mC:l.length<=100000)(bU:l.length<=c)(hk:k<l.length) :
 Calls prog 102 #[.slice (some ⟨b,o,none⟩) l.length c,i6 k] w fun e w'=>∃a' c',e=.returned (.slice a' (l.eraseIdx k).length c')/\NM w.heap.size w' a' c' (l.eraseIdx k)/\bL w w':=by
 have esp:l=l.take k++[l[k]]++l.drop (k+1):=by rw[acA,ad3,ael,acU]
 have QF:(l.take k).length=k:=by rw[acB];omega
 have Wg:(l.drop (k+1)).length=l.length-(k+1):=by rw[adz]
 obtain⟨M,hM⟩:∃M,M=l.eraseIdx k:=⟨_,rfl⟩
 have hMl:M.length=k+(l.length-(k+1)):=by rw[hM,Ch,ab7,QF,Wg]
 have hMa:∀x∈M,x.At w:=fun x hx=>hl.2.1 x (acy (by rw[hM] at hx;exact hx))
 have hMc:aY (l.take k)++aY (l.drop (k+1))=aY M:=by rw[hM,Ch,fC]
 have HM:=aa (⟨hMl,hMa,hMc⟩:_/\_/\_);rw[<-hM];clear hM hMl hMa hMc;have R1:gu w 6 (some ⟨b,o,none⟩) k c (aY (l.take k)):=by
  have:=hl.row (c:=c) [] (l.take k) ([l[k]]++l.drop (k+1)) sM;rw[QF] at this
  simpa using this
 have si:IntKind.i64.wrap ((k:Int)+1)=(k:Int)+1:=by rw[acC];omega
 have C1:=fun w=>Dh b o l.length c k w hk bU
 obtain⟨iR,xY,xZ,x8,x9⟩:=fi sQ
 by_cases p9:c=k+1
 ·subst p9;have Rr:l.length=k+1:=oM;have e3:l.drop (k+1)=[]:=acd oM;have R2:gu w 6 (some ⟨b,o,none⟩) 0 0 (aY (l.drop (k+1))):=by
   rw[e3];exact⟨rfl,by simp[aY],ir ⟨_,rfl,fun j u h=>by simp[aY] at h⟩⟩
  have yX:=fun w=>Hd b o l.length k w Rr
  have fh:=HM.out.1;rw[show l.length-(k+1)=0 from oM] at fh;have HN:=aa fh;clear esp QF Wg e3 Rr fh;go_enter func102,ntmps102;go_wp2_with fail
  go_region_held3 (fun _=>True) (trivial) (first|(refine kj (by rfl) (.const (.slice none 0 0)) (.tmp 7) 47 (by rfl) w.heap.size 146 iR _ 6 80 underlying47 xY xZ x8 x9 rfl dM (.slice none 0 0) 0 [] (by rfl) (acx _ _ _ _) (some ⟨b,o,none⟩) k (k+1) (aY (l.take k)) (by simp[Act.eval]) (R1.later bQ) (by unfold maxLen;omega) oM sM ?_;intro v1 wI aK aw;rw[acq,acF] at aK;have eC:bL w wI:=ady bQ aw)|(refine kj (by rfl) (.tmp 8) (.tmp 12) 47 (by rfl) w.heap.size 146 iR _ 6 80 underlying47 xY xZ x8 x9 rfl dM v1 k (aY (l.take k)) (by simp[Act.eval]) (by first|exact aK|exact hZ aK) (some ⟨b,o,none⟩) 0 0 (aY (l.drop (k+1))) (by simp[Act.eval]) (R2.later bQ) (by unfold maxLen;omega) oM (by have:=eC.size;(try simp);omega) ?_;intro v2 wJ aT aA;have cX:bL w wJ:=(by first|exact eC.trans aA|exact eC.drew.trans aA)))
  rw[HM.out.2.2] at aT;obtain⟨aJ,cJ,rfl,hN⟩:=n6 aT (fun x hx=>(HM.out.2.1 x hx).later cX) HN.out.symm (by rw[HN.out];omega);have cw:=aa cX;clear aK aT aw aA eC cX R1 R2;go_wp2;go_ret;exact⟨aJ,cJ,rfl,hN,cw.out⟩
 ·have R2:gu w 6 (some ⟨b,o+(k+1)*6,none⟩) (l.length-(k+1)) (c-(k+1)) (aY (l.drop (k+1))):=by
   have:=hl.row (c:=c-(k+1)) (l.take k++[l[k]]) (l.drop (k+1)) [] sM;rw[ab7,acu,QF,Wg] at this;exact this
  have yX:=fun w=>EY b o l.length c k w hk p9
  clear esp QF Wg;go_enter func102,ntmps102;go_wp2_with fail
  go_region_held3 (fun _=>True) (trivial) (first|(refine kj (by rfl) (.const (.slice none 0 0)) (.tmp 7) 47 (by rfl) w.heap.size 146 iR _ 6 80 underlying47 xY xZ x8 x9 rfl dM (.slice none 0 0) 0 [] (by rfl) (acx _ _ _ _) (some ⟨b,o,none⟩) k c (aY (l.take k)) (by simp[Act.eval]) (R1.later bQ) (by unfold maxLen;omega) oM sM ?_;intro v1 wI aK aw;rw[acq,acF] at aK;have eC:bL w wI:=ady bQ aw)|(refine kj (by rfl) (.tmp 8) (.tmp 12) 47 (by rfl) w.heap.size 146 iR _ 6 80 underlying47 xY xZ x8 x9 rfl dM v1 k (aY (l.take k)) (by simp[Act.eval]) (by first|exact aK|exact hZ aK) (some ⟨b,o+(k+1)*6,none⟩) (l.length-(k+1)) (c-(k+1)) (aY (l.drop (k+1))) (by simp[Act.eval]) (R2.later bQ) (by unfold maxLen;omega) oM (by have:=eC.size;(try simp);omega) ?_;intro v2 wJ aT aA;have cX:bL w wJ:=(by first|exact eC.trans aA|exact eC.drew.trans aA)))
  rw[HM.out.2.2] at aT;obtain⟨aJ,cJ,rfl,hN⟩:=n6 aT (fun x hx=>(HM.out.2.1 x hx).later cX) HM.out.1.symm (by rw[HM.out.1];omega);have cw:=aa cX;clear aK aT aw aA eC cX R1 R2;go_wp2;go_ret;exact⟨aJ,cJ,rfl,hN,cw.out⟩
def E7(w':World)(b j q:Nat)(v:Value)(r:Rq):Prop:=w'.cell? ⟨b,j,none⟩=some v/\w'.frozen? ⟨b,j,none⟩=false/\b<w'.heap.size/\q<w'.heap.size/\gW w' q r
theorem E7.later{w w':World}{b j q:Nat}{v:Value}{r:Rq}(h:E7 w b j q v r)(hb:bL w w'):E7 w' b j q v r :=
 ⟨eb hb h.1,by rw[hb.frozen (p:=⟨b,j,none⟩) h.2.2.1];exact h.2.1,acD h.2.2.1 hb.size,acD h.2.2.2.1 hb.size,h.2.2.2.2.later hb⟩
theorem Kz{w:World}{q c:Nat}(r:Rq)(h:gW w q r):gu w 6 (some ⟨q,0,none⟩) 1 c (aY [r]):=by
 refine⟨rfl,rX _,ir ⟨_,rfl,fun k u hk=>?_⟩⟩;obtain⟨i,j,hi,hj,rfl,rfl⟩:=uv hk;have:i=0:=by simp at hi;exact hi
 subst this;rw[uB];obtain⟨h0,h1,h2,h3,h4,h5⟩:=h
 match j,hj with
 |0,_=>exact h0
 |1,_=>exact h1
 |2,_=>exact h2
 |3,_=>exact h3
 |4,_=>exact h4
 |5,_=>exact h5
theorem Fy{w:World}{b:Nat}{d:Rd}{a:Ra}(h:dv b d a w):gu w 6 a.la d.busy.length a.lc (aY d.busy):=vu h.eW h.ze
theorem G5(b:Nat)(d:Rd)(a:Ra)(r:Rq)(w:World)(h:dv b d a w)(h2:d.busy.length<2)(hr:r.At w)(ho:r.dC (a.au b)) :
 Calls prog 103 #[.pointer (some ⟨b,0,none⟩),r.val] w fun e w'=>∃a',e=.returned (i6 0)/\a'.wa=a.wa/\dR b d a { d with busy:=d.busy++[r] } a' w w':=by
 obtain⟨iR,xY,xZ,x8,x9⟩:=fi sQ;have HI:=aa (⟨xY,xZ,x8,x9⟩:prog.info? 146=some iR/\_/\_/\_);have c:=h.jb;have hl:=h.lt;have h3:((d.busy.length:Int)==2)=false:=by rw[ab8];omega
 have HD:=aa h;have HR:=aa (⟨hr,ho⟩:r.At w/\r.dC (a.au b));have fw:=aB w (.cells #[.bool r.wr,i6 r.f,i6 r.m,.slice r.da r.data.length r.dc,.slice r.ta r.tags.length r.tc,i6 r.born] 146);have QY:E7 (w.alloc (.cells #[.bool r.wr,i6 r.f,i6 r.m,.slice r.da r.data.length r.dc,.slice r.ta r.tags.length r.tc,i6 r.born] 146)).drew b 65 w.heap.size (.slice a.la d.busy.length a.lc) r:=by
  refine E7.later (w:=w.alloc (.cells #[.bool r.wr,i6 r.f,i6 r.m,.slice r.da r.data.length r.dc,.slice r.ta r.tags.length r.tc,i6 r.born] 146)) ⟨(h.later fw).jb,(h.later fw).fz 65,(h.later fw).lt,sM,lR _ _ _⟩ (aQ _ _).drew
 have HS:=aa QY;have eN:=aa fw;clear h hr ho xY xZ x8 x9 QY fw;go_enter func103,ntmps103;go_wp2_with fail;refine eK (S:=fun wz=>E7 wz b 65 w.heap.size (.slice a.la d.busy.length a.lc) r) (d:=11) kR ?_;refine tK 0 rfl HS.out ?_;(try simp only[Act.put,dP]);refine tK 1 rfl HS.out ?_;(try simp only[Act.put,dP]);refine tK 2 rfl HS.out ?_;(try simp only[Act.put,dP]);refine tK 3 rfl HS.out ?_;(try simp only[Act.put,dP]);refine tK 4 rfl HS.out ?_;(try simp only[Act.put,dP]);refine tK 6 rfl HS.out ?_;(try simp only[Act.put,dP]);refine KS (i:=5) (j:=7) rfl rfl kR ?_ ?_
 ·intro K hK;refine kj (by rfl) (.const (.slice none 0 0)) (.tmp 15) 47 (by rfl) (w.heap.size+1) 146 iR _ 6 80 underlying47 HI.out.1 HI.out.2.1 HI.out.2.2.1 HI.out.2.2.2 rfl dM (.slice none 0 0) 0 [] (by rfl) (acx _ _ _ _) a.la d.busy.length a.lc (aY d.busy) (by rfl) ((Fy HD.out).later bQ) (by unfold maxLen;omega) oM sM ?_;intro v1 w1 aK aw;rw[acq,acF] at aK;have eC:Below (w.heap.size+1) (w.alloc (.cells #[.bool r.wr,i6 r.f,i6 r.m,.slice r.da r.data.length r.dc,.slice r.ta r.tags.length r.tc,i6 r.born] 146)).drew w1:=by simpa using aw
  have cg:=aa (HS.out.later (w':=w1) (show Below _ _ _ by simpa using aw));have jB:=aa aK;have aU:=aa eC;clear aK aw eC;refine hK _ _ (fun _=>cg.out) ?_
  (try simp only[Act.put,dP])
  clear hK;refine bn (i:=7) rfl kR ?_;intro K hK;go_simp;refine hK _ _ (fun _=>cg.out.later (aB _ _)) ?_;(try simp only[Act.put,dP]);clear hK;refine bn (i:=8) rfl kR ?_;intro K hK;refine kj (by rfl) (.tmp 16) (.tmp 18) 47 (by rfl) (w.heap.size+1) 146 iR _ 6 80 underlying47 HI.out.1 HI.out.2.1 HI.out.2.2.1 HI.out.2.2.2 rfl dM v1 d.busy.length (aY d.busy) (by rfl) (jB.out.alloc _) (some ⟨w1.heap.size,0,none⟩) 1 1 (aY [r]) (by rfl) (Kz r (lR w1 _ r)) (by unfold maxLen;omega) oM (by have:=aU.out.size;simp at this ⊢;omega) ?_;intro v2 w2 aT aA;have cX:Below (w.heap.size+1) (w.alloc (.cells #[.bool r.wr,i6 r.f,i6 r.m,.slice r.da r.data.length r.dc,.slice r.ta r.tags.length r.tc,i6 r.born] 146)).drew w2:=(aU.out.alloc (by have:=aU.out.size;simp at this ⊢;omega) _).trans aA;have cu:=aa (HS.out.later (w':=w2) (show Below _ _ _ by simpa using cX));have DV:bL w w2:=(eN.out.drew).trans (cX.mono oM);rw[<-fC] at aT;obtain⟨aJ,cJ,rfl,hN⟩:=n6 (l:=d.busy++[r]) aT (fun x hx=>by rcases acs.1 hx with mE|mE;exact(HD.out.eW.2.1 x mE).later DV;(rw[acz.1 mE];exact HR.out.1.later DV)) sM (by simp;omega);have aI:=aa (HD.out.uS DV (d.busy++[r]) (by simp;omega) aJ cJ hN.here hN.nil hN.cap (fun _ p hp=>by have:=hN.new p hp;omega) (fun x hx=>by rcases acs.1 hx with mE|mE;exact⟨HD.out.eW.2.1 x mE,HD.out.reqs x mE⟩;(rw[acz.1 mE];exact HR.out)));clear aT aA cX DV hN;refine hK _ _ (fun _=>cu.out) ?_;(try simp only[Act.put,dP]);clear hK;refine bn (i:=9) rfl kR ?_;intro K hK;go_simp;refine hK _ _ (fun _=>cu.out) ?_;(try simp only[Act.put,dP]);clear hK;refine bn (i:=10) rfl kR ?_;intro K hK;go_simp;refine hK _ _ (fun _=>cu.out) ?_;(try simp only[Act.put,dP]);clear hK;obtain⟨x0,x1,x2,x3,-⟩:=id cu.out;refine bn (i:=11) rfl kR ?_;intro K hK;go_simp;refine hK _ _ (fun h=>absurd rfl h) ?_;(try simp only[Act.put,dP]);clear hK;refine fp kR ?_ _;go_wp2;go_ret;exact⟨{ a with la:=aJ,lc:=cJ },rfl,rfl,by have:=aI.out;rw[ab7,acu] at this;exact this⟩
 ·intro K hK;go_simp;refine hK _ _ (fun _=>HS.out.later (aB _ _)) ?_
  (try simp only[Act.put,dP])
  clear hK;refine bn (i:=5) rfl kR ?_;intro K hK;refine kj (by rfl) (.const (.slice none 0 0)) (.tmp 15) 47 (by rfl) (w.heap.size+2) 146 iR _ 6 80 underlying47 HI.out.1 HI.out.2.1 HI.out.2.2.1 HI.out.2.2.2 rfl dM (.slice none 0 0) 0 [] (by rfl) (acx _ _ _ _) a.la d.busy.length a.lc (aY d.busy) (by rfl) ((Fy HD.out).later bQ) (by unfold maxLen;omega) oM sM ?_;intro v1 w1 aK aw;rw[acq,acF] at aK;have Az:gW w1 (w.heap.size+1) r:=by
   have:=((lR (w.alloc (.cells #[.bool r.wr,i6 r.f,i6 r.m,.slice r.da r.data.length r.dc,.slice r.ta r.tags.length r.tc,i6 r.born] 146)) 146 r).later (aQ _ _).drew).later (w':=w1) (show Below _ _ _ by simpa using aw)
   simpa using this
  have sZ:=aa Az;have eC:Below (w.heap.size+1) (w.alloc (.cells #[.bool r.wr,i6 r.f,i6 r.m,.slice r.da r.data.length r.dc,.slice r.ta r.tags.length r.tc,i6 r.born] 146)).drew w1:=ady ((aQ _ _).alloc sM _) (aw.mono oM);have cg:=aa (HS.out.later (w':=w1) (show Below _ _ _ by simpa using eC));have jB:=aa aK;have aU:=aa eC;have kx:=aa aw;clear aK aw eC Az;refine hK _ _ (fun _=>cg.out) ?_
  (try simp only[Act.put,dP])
  clear hK;refine bn (i:=8) rfl kR ?_;intro K hK;refine kj (by rfl) (.tmp 16) (.tmp 18) 47 (by rfl) (w.heap.size+1) 146 iR _ 6 80 underlying47 HI.out.1 HI.out.2.1 HI.out.2.2.1 HI.out.2.2.2 rfl dM v1 d.busy.length (aY d.busy) (by rfl) (ql jB.out oM) (some ⟨w.heap.size+1,0,none⟩) 1 1 (aY [r]) (by rfl) (Kz r sZ.out) (by unfold maxLen;omega) oM (by have:=aU.out.size;simp at this ⊢;omega) ?_;intro v2 w2 aT aA;have cX:Below (w.heap.size+1) (w.alloc (.cells #[.bool r.wr,i6 r.f,i6 r.m,.slice r.da r.data.length r.dc,.slice r.ta r.tags.length r.tc,i6 r.born] 146)).drew w2:=aU.out.trans aA;have cu:=aa (HS.out.later (w':=w2) (show Below _ _ _ by simpa using cX));have DV:bL w w2:=(eN.out.drew).trans (cX.mono oM);rw[<-fC] at aT;obtain⟨aJ,cJ,rfl,hN⟩:=n6 (l:=d.busy++[r]) aT (fun x hx=>by rcases acs.1 hx with mE|mE;exact(HD.out.eW.2.1 x mE).later DV;(rw[acz.1 mE];exact HR.out.1.later DV)) sM (by simp;omega);have aI:=aa (HD.out.uS DV (d.busy++[r]) (by simp;omega) aJ cJ hN.here hN.nil hN.cap (fun _ p hp=>by have:=hN.new p hp;omega) (fun x hx=>by rcases acs.1 hx with mE|mE;exact⟨HD.out.eW.2.1 x mE,HD.out.reqs x mE⟩;(rw[acz.1 mE];exact HR.out)));clear aT aA cX DV hN;refine hK _ _ (fun _=>cu.out) ?_;(try simp only[Act.put,dP]);clear hK;refine bn (i:=9) rfl kR ?_;intro K hK;go_simp;refine hK _ _ (fun _=>cu.out) ?_;(try simp only[Act.put,dP]);clear hK;refine bn (i:=10) rfl kR ?_;intro K hK;go_simp;refine hK _ _ (fun _=>cu.out) ?_;(try simp only[Act.put,dP]);clear hK;obtain⟨x0,x1,x2,x3,-⟩:=id cu.out;refine bn (i:=11) rfl kR ?_;intro K hK;go_simp;refine hK _ _ (fun h=>absurd rfl h) ?_;(try simp only[Act.put,dP]);clear hK;refine fp kR ?_ _;go_wp2;go_ret;exact⟨{ a with la:=aJ,lc:=cJ },rfl,rfl,by have:=aI.out;rw[ab7,acu] at this;exact this⟩
theorem LD(d:Rd)(a:Ra)(l:List ByteArray)(h1:d.kept.length=32)(h3:l.length=32):splice (d.cells a) 0 (dw l)=({ d with kept:=l }:Rd).cells a:=by
 have e1:(dw d.kept).length=32:=by rw[aN,h1]
 have e3:(dw l).length=32:=by rw[aN,h3]
 rw[splice,Rd.cells,Rd.cells,e3,aeF,acF,acA,adT,ac9 oM,acF,e1,show 0+32-32=0 from oM,aeY,acA]
theorem O1(d:Rd)(a:Ra)(l:List ByteArray)(h1:d.kept.length=32)(h2:d.now.length=32)(h3:l.length=32):splice (d.cells a) 32 (dw l)=({ d with now:=l }:Rd).cells a:=by
 have e1:(dw d.kept).length=32:=by rw[aN,h1]
 have e2:(dw d.now).length=32:=by rw[aN,h2]
 have e3:(dw l).length=32:=by rw[aN,h3]
 rw[splice,Rd.cells,Rd.cells,e3,acA,acM oM,acJ oM,adT,ac9 oM,acF,e1,show 32+32-32=32 from oM,adT,ac9 oM,acF,e2,aeB,aeY,acA]
theorem dv.Su{b:Nat}{d:Rd}{a:Ra}{w:World}(h:dv b d a w):w.rangeAt b 0 (dw d.kept):=fun j v hv=>by
 have hj:j<32:=by
  have:=(ac1.1 hv).1;rw[aN,h.lu] at this;exact this
 rw[acq,aP h.aW,Rd.cells,acA,acO (by rw[aN,h.lu];exact hj)];exact hv
theorem dv.C8{b:Nat}{d:Rd}{a:Ra}{w:World}(h:dv b d a w):w.rangeAt b 32 (dw d.now):=fun j v hv=>by
 have hj:j<32:=by
  have:=(ac1.1 hv).1;rw[aN,h.dr] at this;exact this
 rw[aP h.aW,Rd.cells,acA,acT (by rw[aN,h.lu];omega),aN,h.lu,show 32+j-32=j from oM,acO (by rw[aN,h.dr];exact hj)];exact hv
theorem dv.there{b:Nat}{d:Rd}{a:Ra}{w:World}(h:dv b d a w)(o n:Nat)(ho:o+n<=66):w.there b o n:=fun j hj=>by
 refine⟨?_,h.fz _⟩;rw[aP h.aW,acb (by rw[Rd.kZ h.lu h.dr];omega)]
 rfl
theorem dv.X3{b:Nat}{d:Rd}{a:Ra}{w:World}(h:dv b d a w)(l:List ByteArray)(hl:l.length=32):dR b d a { d with kept:=l } a w (w.setCells b 0 (dw l)):=by
 have e:(dw l).length=32:=by rw[aN,hl]
 have aW:=ks b 49 (dw l) 0 _ _ h.aW (by rw[e,Rd.kZ h.lu h.dr];omega);rw[LD d a l h.lu hl] at aW;exact h.qY (py b _ 0 _) aW rfl rfl hl h.dr
theorem dv.X5{b:Nat}{d:Rd}{a:Ra}{w:World}(h:dv b d a w)(l:List ByteArray)(hl:l.length=32):dR b d a { d with now:=l } a w (w.setCells b 32 (dw l)):=by
 have e:(dw l).length=32:=by rw[aN,hl]
 have aW:=ks b 49 (dw l) 32 _ _ h.aW (by rw[e,Rd.kZ h.lu h.dr];omega);rw[O1 d a l h.lu h.dr hl] at aW;exact h.qY (py b _ 32 _) aW rfl rfl h.lu hl
theorem dv.Vw{b:Nat}{d:Rd}{a:Ra}{w:World}(h:dv b d a w){p:Nat}(hp:p<32)(s:ByteArray):dR b d a { d with kept:=d.kept.set p s } a w (w.setCell ⟨b,p,none⟩ (.string s)) :=
 h.qY ((aG.refl (fun k=>k=b) w).setCell ⟨b,p,none⟩ (il rfl) _) (by rw[bM h.aW,Fx d a p s h.lu hp]) rfl rfl (by simpa using h.lu) h.dr
theorem dv.X4{b:Nat}{d:Rd}{a:Ra}{w:World}(h:dv b d a w){p:Nat}(hp:p<32)(s:ByteArray):dR b d a { d with now:=d.now.set p s } a w (w.setCell ⟨b,32+p,none⟩ (.string s)) :=
 h.qY ((aG.refl (fun k=>k=b) w).setCell ⟨b,32+p,none⟩ (il rfl) _) (by rw[bM h.aW,Hy d a p s h.lu h.dr hp]) rfl rfl h.lu (by simpa using h.dr)
theorem dv.Ns{b:Nat}{d:Rd}{a:Ra}{w:World}(h:dv b d a w):dR b d a { d with waits:=[] } { a with wa:=none,wc:=0 } w (w.setCell ⟨b,64,none⟩ (.slice none 0 0)):=by
 obtain⟨x,c,hv,hs⟩:=h.Ny (aQ _ _) [] sM (acx w 0 178 2) (aG.refl _ _) (fun g hg=>by cases hg);simp only[acN] at hv;obtain⟨rfl,_,rfl⟩:=hv;exact hs
theorem dv.aaw{b:Nat}{d:Rd}{a:Ra}{w:World}(h:dv b d a w):dR b d a { d with busy:=[] } { a with la:=none,lc:=0 } w (w.setCell ⟨b,65,none⟩ (.slice none 0 0)) :=
 h.uS (aQ _ _) [] sM none 0 ⟨il rfl,sM,sM⟩ (fun _=>rfl) sM (fun h=>absurd rfl h) sM
theorem O8(b:Nat)(d:Rd)(a:Ra)(w:World)(h:dv b d a w) :
 Calls prog 146 #[.pointer (some ⟨b,0,none⟩)] w fun e w'=>e=.returned (.tuple #[])/\dR b d a d.flush { a with wa:=none,wc:=0 } w w':=by
 have HD:=aa h;have hl:=h.lt;have HE:Hid ((dw d.now).length=32):=by show _=_;rw[aN];exact h.dr
 have S1:=h.X3 d.now h.dr;have S2:=S1.trans S1.dev.Ns;have oN:=S1.dev.oN;have f64:=S1.dev.fz 64;have cu:=aa S2;clear h S1 S2;go_enter func146,ntmps146;go_wp2_with(first|(refine wpList_load_mid rfl 45 (.tmp 5) rfl b 32 rfl (dw d.now) _ HD.out.C8 underlying45 rfl (by rw[HE.out];exact qm) ?_)|(refine wpList_store_mid rfl 45 (.tmp 8) (.tmp 6) rfl b 0 (dw d.now).toArray rfl rfl (by rw[adb,HE.out];exact HD.out.there 0 32 oM) (by rw[adb,HE.out];exact qm) (all_oneCell_toArray (vz _)) ?_;simp only));go_end0;exact⟨rfl,cu.out⟩
end
end Go.Proofs.YtlhgjplipgandaaGreatDoor
