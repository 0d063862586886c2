/- Joined. -/
import Derived.Maps.Own
import Derived.Maps.OwnOps
import Derived.Maps.OwnSet
import Derived.Maps.Views
import Derived.Deep.RegionHeld3
import Derived.Test.YtlhgjplipgandaaGreatDoorF13
set_option maxRecDepth 100000
set_option maxHeartbeats 8000000
set_option linter.unusedSimpArgs false
set_option linter.unusedSectionVars false
namespace Go.Proofs.YtlhgjplipgandaaGreatDoor
open Tryz
section
open Go.RowKit Go.BigFrame Go.Maps
theorem ue:Keyed prog 3:=int_keyed underlying3
theorem Dc(w:World):(zeroValue 3).run prog w=.ok (i6 0) w:=kR
structure mY(v b bm:Nat)(d:Dl)(a:An)(n:Nat)(D:DataW Unit)(w:World):Prop where
 dev:bR b d a w
 a7:w.heap[v]?=some (.cells [.pointer (some ⟨b,0,none⟩),.map (some bm)].toArray 186 (0,0))
 map:w.ownsMap prog 3 (plainElem prog 3) bm n D
 ay:∀k,a.ay b k->k ≠ v/\k ≠ bm
def jU(b bm:Nat)(a:An)(k:Nat):Prop:=k=bm\/a.ay b k
structure jt(v b bm:Nat)(d:Dl)(a:An)(n:Nat)(D:DataW Unit)(d':Dl)(a':An)(n':Nat)(D':DataW Unit)(w w':World):Prop where
 at':mY v b bm d' a' n' D' w'
 only:aH (jU b bm a) w w'
 ay:∀k,jU b bm a' k->jU b bm a k\/w.heap.size<=k
theorem mJ{w w':World}{bm n:Nat}{D:DataW Unit}(h:w.ownsMap prog 3 (plainElem prog 3) bm n D)(e:w'.heap[bm]?=w.heap[bm]?):w'.ownsMap prog 3 (plainElem prog 3) bm n D:=by
 obtain⟨es,clock,hb,F,hs,hD⟩:=h;exact⟨es,clock,e.trans hb,F,hs,hD⟩
theorem mY.mlt{v b bm:Nat}{d:Dl}{a:An}{n:Nat}{D:DataW Unit}{w:World}(h:mY v b bm d a n D w):bm<w.heap.size:=h.map.lt
theorem mY.ne{v b bm:Nat}{d:Dl}{a:An}{n:Nat}{D:DataW Unit}{w:World}(h:mY v b bm d a n D w):v ≠ bm:=by
 rintro rfl;obtain⟨es,clock,hb,_⟩:=h.map;rw[h.a7] at hb
 cases hb
theorem mY.step{v b bm:Nat}{d d':Dl}{a a':An}{n:Nat}{D:DataW Unit}{w w':World}(h:mY v b bm d a n D w)(hs:cP b d a d' a' w w'):jt v b bm d a n D d' a' n D w w' where
 at':=⟨hs.dev,by rw[hs.only.block v (aK h.a7) (fun e=>(h.ay v e).1 rfl)];exact h.a7,mJ h.map (hs.only.block bm h.mlt (fun e=>(h.ay bm e).2 rfl)),fun k hk=>(hs.ay k hk).elim (h.ay k) (fun h'=>by have:=aK h.a7;have:=h.mlt;omega)⟩
 only:=hs.only.mono (fun _ e=>ir e)
 ay:=fun k hk=>hk.elim (fun e=>il (il e)) (fun e=>(hs.ay k e).elim (fun h'=>il (ir h')) ir)
theorem jt.trans{v b bm:Nat}{d d' d2:Dl}{a a' a2:An}{n n' n2:Nat}{D D' D2:DataW Unit}{w w' w2:World}(h:jt v b bm d a n D d' a' n' D' w w')(k:jt v b bm d' a' n' D' d2 a2 n2 D2 w' w2):jt v b bm d a n D d2 a2 n2 D2 w w2 :=
 ⟨k.at',h.only.trans k.only h.ay,fun i hi=>(k.ay i hi).elim (h.ay i) (fun h'=>ir (abb h.only.size h'))⟩
theorem mY.later{v b bm:Nat}{d:Dl}{a:An}{n:Nat}{D:DataW Unit}{w w':World}(h:mY v b bm d a n D w)(hb:bL w w'):mY v b bm d a n D w':=(h.step (cP.same h.dev hb)).at'
theorem jt.later{v b bm:Nat}{d d':Dl}{a a':An}{n n':Nat}{D D':DataW Unit}{w w' w2:World}(h:jt v b bm d a n D d' a' n' D' w w')(hb:bL w' w2):jt v b bm d a n D d' a' n' D' w w2:=h.trans (h.at'.step (cP.same h.at'.dev hb))
theorem mY.dQ{v b bm:Nat}{d:Dl}{a:An}{n n':Nat}{D D':DataW Unit}{w w':World}(h:mY v b bm d a n D w)(ho:aH (fun k=>k=bm) w w')(hm:w'.ownsMap prog 3 (plainElem prog 3) bm n' D')(hr:∀r∈d.busy,r.dB (fun k=>k=bm)):jt v b bm d a n D d a n' D' w w' where
 at':=⟨h.dev.frame ho (fun k hk=>(h.ay k hk).2) hr,by rw[ho.block v (aK h.a7) h.ne];exact h.a7,hm,h.ay⟩
 only:=ho.mono (fun _ e=>il e)
 ay:=fun _ hk=>il hk
theorem dZ{w w':World}{bm:Nat}(h:w.grownBy w' (some bm)):aH (fun k=>k=bm) w w':=⟨h.os,h.tape,h.output,h.size,fun k hk hn=>h.block k hk (fun e=>hn (abY e))⟩
theorem mY.cells{v b bm:Nat}{d:Dl}{a:An}{n:Nat}{D:DataW Unit}{w:World}(h:mY v b bm d a n D w):w.cell? ⟨v,0,none⟩=some (.pointer (some ⟨b,0,none⟩))/\w.cell? ⟨v,1,none⟩=some (.map (some bm)):=⟨by rw[aR h.a7];rfl,by rw[aR h.a7];rfl⟩
theorem X9(b:Nat)(d:Dl)(a:An)(w:World)(h:bR b d a w):Calls prog 77 #[.pointer (some ⟨b,0,none⟩)] w fun e w'=>e=.returned (.pointer (some ⟨w.heap.size+1,0,none⟩))/\mY (w.heap.size+1) b w.heap.size d a 0 (.map []) w'/\bL w w':=by
 have HD:=ae h;clear h;have Tt:=@run_makeMap prog;go_enter func77,ntmps77;go_wp2;go_ret;have hb:=jo w (.map #[] 0) (.cells [.pointer (some ⟨b,0,none⟩),.map (some w.heap.size)].toArray 186);refine⟨rfl,⟨HD.out.later hb,?_,(agf _ _ _ _).alloc _,fun k hk=>?_⟩,hb⟩
 ·have:=acm (w.alloc (.map #[] 0)) (.cells [.pointer (some ⟨b,0,none⟩),.map (some w.heap.size)].toArray 186);rw[show(w.alloc (.map #[] 0)).heap.size=w.heap.size+1 from sM] at this;exact this
 ·have:=HD.out.bC k hk;omega
theorem XC(v b bm:Nat)(d:Dl)(a:An)(n:Nat)(D:DataW Unit)(w:World)(h:mY v b bm d a n D w)(h2:d.busy.length<2):Calls prog 83 #[.pointer (some ⟨v,0,none⟩)] w (rB (.bool true) w):=by
 obtain⟨c0,c1⟩:=h.cells;have HV:=ae h;have pq:(d.busy.length:Int)<2:=oM;clear h c1;go_enter func83,ntmps83;go_wp2_with fail;refine(Af b d a _ HV.out.dev).mono ?_;rintro e w1 ⟨xa,xc,rfl,-,-,hb⟩;go_wp2;go_ret;exact⟨rfl,hb⟩
theorem Vn(v b bm:Nat)(d:Dl)(a:An)(n:Nat)(D:DataW Unit)(r:Rq)(w:World)(h:mY v b bm d a n D w)(h2:d.busy.length<2)(hr:r.At w)(ho:r.dB (a.ay b)) :
 Calls prog 86 #[.pointer (some ⟨v,0,none⟩),r.val] w fun e w'=>∃a',e=.returned .nilIface/\jt v b bm d a n D { d with busy:=d.busy++[r] } a' n D w w':=by
 obtain⟨c0,c1⟩:=h.cells;have HV:=ae h;have HR:=ae hr;have HO:=ae ho;have hv:=aK h.a7;clear h c1 hr ho;have fq:=ae (aA w (.cells #[.bool r.wr,i6 r.f,i6 r.m,.slice r.da r.data.length r.dc,.slice r.ta r.tags.length r.tc,i6 r.born] 146));go_enter func86,ntmps86;go_wp2_with fail;have SV:(w.alloc (.cells #[.bool r.wr,i6 r.f,i6 r.m,.slice r.da r.data.length r.dc,.slice r.ta r.tags.length r.tc,i6 r.born] 146)).drew.cell? ⟨v,0,none⟩=some (.pointer (some ⟨b,0,none⟩))/\hZ (w.alloc (.cells #[.bool r.wr,i6 r.f,i6 r.m,.slice r.da r.data.length r.dc,.slice r.ta r.tags.length r.tc,i6 r.born] 146)).drew w.heap.size r:=⟨(fq.out.drew.cell (p:=⟨v,0,none⟩) hv).trans c0,(mv w 146 r).later (aX _ _).drew⟩
 have HS:=ae SV;have eg:∀args w,Sem.run prog (callFunc 132 args) w=.ok (.enter 132 args) w:=by intro args w;go_simp
 clear SV;refine eL (S:=fun wz=>wz.cell? ⟨v,0,none⟩=some (.pointer (some ⟨b,0,none⟩))/\hZ wz w.heap.size r) (d:=6) kR ?_;refine tK 0 rfl HS.out ?_;(try simp only[Act.put,dP]);refine tK 1 rfl HS.out ?_;(try simp only[Act.put,dP]);refine tK 2 rfl HS.out ?_;(try simp only[Act.put,dP]);refine tK 3 rfl HS.out ?_;(try simp only[Act.put,dP]);refine tK 4 rfl HS.out ?_;(try simp only[Act.put,dP]);refine bn (i:=5) rfl kR ?_;intro K hK;refine tB rfl 132 8 9 42 146 rfl eg (.pointer (some ⟨b,0,none⟩)) r.val rfl rfl .nilIface (fun w'=>∃a',cP b d a { d with busy:=d.busy++[r] } a' w w'/\hZ w' w.heap.size r) ((My b d a r _ (HV.out.dev.later fq.out.drew) h2 (HR.out.later fq.out.drew) HO.out).mono ?_) ?_
 ·rintro e w1 ⟨a',he,hs⟩;exact⟨he,a',(cP.same HV.out.dev fq.out.drew).trans hs,HS.out.2.only hs.only (fun e=>by have:=HV.out.dev.bC _ e;omega)⟩
 rintro w1 ⟨a',hs,cA⟩;have HVS:=ae (HV.out.step hs);have zv:w1.cell? ⟨v,0,none⟩=some (.pointer (some ⟨b,0,none⟩)):=HVS.out.at'.cells.1;refine hK _ _ (fun _=>⟨zv,cA⟩) ?_
 (try simp only[Act.put,dP])
 clear hK;refine bn (i:=6) rfl kR ?_;intro K hK;go_simp;refine hK _ _ (fun h=>absurd rfl h) ?_
 (try simp only[Act.put,dP])
 clear hK;refine fw kR ?_ _;go_wp2;go_ret;exact⟨a',rfl,HVS.out⟩
theorem SE(r:Rq)(w:World)(hr:r.At w)(h1:1<=r.tags.length):Calls prog 134 #[r.val] w (rB (i6 (r.tags.getD 0 0)) w):=by
 obtain⟨wr,f,m,da,dc,data,ta,tc,tags,born⟩:=r
 rcases hr.tags with h|⟨tb,tof,h,hc⟩
 ·simp only at h h1;rw[h] at h1;simp at h1
 simp only at h h1 hc;subst h;have c0:=hc 0 oM;have lt:=aq c0;obtain⟨x,hx⟩:∃x,tags.getD 0 0=x:=⟨_,rfl⟩
 rw[hx] at c0;simp only[agS] at c0;have tH:¬(tags.length:Int)=0:=oM;have pq:(0:Int)<(tags.length:Int):=oM;show Calls prog 134 #[(Rq.mk wr f m da dc data (some ⟨tb,tof,none⟩) tc tags born).val] w (rB (i6 (tags.getD 0 0)) w);rw[hx];clear hr hc hx;go_enter func134,ntmps134;go_wp2;go_ret;exact⟨rfl,bQ⟩
def dI(w:World)(q:Nat)(r:Rq)(xa:Option Addr)(n xc:Nat)(er:Int):Prop:=jA w q r xa n xc er/\w.there q 0 8/\q<w.heap.size
theorem Rr{F:Nat->Prop}{w w':World}{q:Nat}(h:w.there q 0 8)(hl:q<w.heap.size)(hO:aH F w w')(hn:¬F q):w'.there q 0 8:=fun j hj=>by
 rw[hO.cell (p:=⟨q,0+j,none⟩) hl hn,hO.frozen (p:=⟨q,0+j,none⟩) hl hn];exact h j hj
theorem dI.only{F:Nat->Prop}{w w':World}{q n xc:Nat}{r:Rq}{xa:Option Addr}{er:Int}(h:dI w q r xa n xc er)(hO:aH F w w')(hn:¬F q):dI w' q r xa n xc er:=by
 obtain⟨⟨h0,h1,h2,h3,h4,h5,h6,h7⟩,hf,hl⟩:=h;exact⟨⟨(hO.cell (p:=⟨q,0,none⟩) hl hn).trans h0,(hO.cell (p:=⟨q,1,none⟩) hl hn).trans h1,(hO.cell (p:=⟨q,2,none⟩) hl hn).trans h2,(hO.cell (p:=⟨q,3,none⟩) hl hn).trans h3,(hO.cell (p:=⟨q,4,none⟩) hl hn).trans h4,(hO.cell (p:=⟨q,5,none⟩) hl hn).trans h5,(hO.cell (p:=⟨q,6,none⟩) hl hn).trans h6,(hO.cell (p:=⟨q,7,none⟩) hl hn).trans h7⟩,Rr hf hl hO hn,abF hl hO.size⟩
theorem dI.later{w w':World}{q n xc:Nat}{r:Rq}{xa:Option Addr}{er:Int}(h:dI w q r xa n xc er)(hb:bL w w'):dI w' q r xa n xc er:=h.only (F:=fun _=>False) (aH.cj hb) (fun e=>e)
theorem cw{w:World}{q:Nat}(h:ns w q):w.there q 0 8:=by
 obtain⟨⟨z0,z1,z2,z3,z4,z5,z6,z7⟩,zf,zl⟩:=h;intro j hj;refine⟨?_,zf _⟩
 match j,hj with
 |0,_=>simp[z0]
 |1,_=>simp[z1]
 |2,_=>simp[z2]
 |3,_=>simp[z3]
 |4,_=>simp[z4]
 |5,_=>simp[z5]
 |6,_=>simp[z6]
 |7,_=>simp[z7]
def yV(w:World)(q:Nat)(v0 v1 v2 v3 v4 v5 v6 v7:Value):World:=(((((((w.setCell ⟨q,0,none⟩ v0).setCell ⟨q,1,none⟩ v1).setCell ⟨q,2,none⟩ v2).setCell ⟨q,3,none⟩ v3).setCell ⟨q,4,none⟩ v4).setCell ⟨q,5,none⟩ v5).setCell ⟨q,6,none⟩ v6).setCell ⟨q,7,none⟩ v7
theorem dS(w:World)(q:Nat)(v0 v1 v2 v3 v4 v5 v6 v7:Value):aH (fun k=>k=q) w (yV w q v0 v1 v2 v3 v4 v5 v6 v7) :=
 ((((((((aH.refl (fun k=>k=q) w).setCell ⟨q,0,none⟩ (il rfl) v0).setCell ⟨q,1,none⟩ (il rfl) v1).setCell ⟨q,2,none⟩ (il rfl) v2).setCell ⟨q,3,none⟩ (il rfl) v3).setCell ⟨q,4,none⟩ (il rfl) v4).setCell ⟨q,5,none⟩ (il rfl) v5).setCell ⟨q,6,none⟩ (il rfl) v6).setCell ⟨q,7,none⟩ (il rfl) v7
theorem gw{w:World}{q n xc:Nat}{r:Rq}{xa:Option Addr}{er:Int}(h:w.there q 0 8)(hl:q<w.heap.size):dI (yV w q (.bool r.wr) (i6 r.f) (i6 r.m) (.slice r.da r.data.length r.dc) (.slice r.ta r.tags.length r.tc) (i6 r.born) (.slice xa n xc) (i6 er)) q r xa n xc er:=by
 have hs:=World.rangeAt_setCells_same w q 0 [.bool r.wr,i6 r.f,i6 r.m,.slice r.da r.data.length r.dc,.slice r.ta r.tags.length r.tc,i6 r.born,.slice xa n xc,i6 er] h;exact⟨⟨hs 0 _ rfl,hs 1 _ rfl,hs 2 _ rfl,hs 3 _ rfl,hs 4 _ rfl,hs 5 _ rfl,hs 6 _ rfl,hs 7 _ rfl⟩,World.there_setCells h q 0 [.bool r.wr,i6 r.f,i6 r.m,.slice r.da r.data.length r.dc,.slice r.ta r.tags.length r.tc,i6 r.born,.slice xa n xc,i6 er],by simpa [yV] using hl⟩
theorem cc{ops:Array Oper}{rest:List Oper}{op:Oper}{a:Act}{w:World}{Q:Exit->Act->World->Prop}(uP:op.guard=none)(x y:Operand)(ho:op.op=.store 151 x y)
 (q:Nat) (r:Rq) (xa:Option Addr) (n xc:Nat) (er:Int) (hx:a.eval x=.pointer (some ⟨q,0,none⟩)) (hy:a.eval y=fg r xa n xc er) (ht:w.there q 0 8)
 (R:World->Prop) (hR:R (yV w q (.bool r.wr) (i6 r.f) (i6 r.m) (.slice r.da r.data.length r.dc) (.slice r.ta r.tags.length r.tc) (i6 r.born) (.slice xa n xc) (i6 er)))
 (h:∀w',R w'->wpList prog ops Q rest (a.put op.dst undef) w'):wpList prog ops Q (op::rest) a w :=
 wpList_store_mid uP 151 x y ho q 0 _ hx hy ht kR (by simp[Value.oneCell']) (h _ hR)
def iD:Rq:=⟨false,0,0,none,0,[],none,0,[],0⟩
theorem Da{v b bm:Nat}{d d':Dl}{a a':An}{n n':Nat}{D D':DataW Unit}{w w':World}(h:jt v b bm d a n D d' a' n' D' w w')(q:Nat)(hq:w.heap.size<=q)(cI:¬jU b bm a' q)(hqv:q ≠ v)(hr:∀r∈d'.busy,r.dB (fun k=>k=q))(v0 v1 v2 v3 v4 v5 v6 v7:Value):jt v b bm d a n D d' a' n' D' w (yV w' q v0 v1 v2 v3 v4 v5 v6 v7) where
 at':=⟨h.at'.dev.frame (dS w' q _ _ _ _ _ _ _ _) (fun k hk e=>cI (by rw[<-e];exact ir hk)) hr,by rw[(dS w' q v0 v1 v2 v3 v4 v5 v6 v7).block v (aK h.at'.a7) (Ne.symm hqv)];exact h.at'.a7,mJ h.at'.map ((dS w' q v0 v1 v2 v3 v4 v5 v6 v7).block bm h.at'.mlt (fun e=>cI (il e.symm))),h.at'.ay⟩
 only:=h.only.trans (dS w' q v0 v1 v2 v3 v4 v5 v6 v7) (fun i e=>ir (by subst e;exact hq))
 ay:=h.ay
theorem BF(r:Rq)(tg:Int)(ht:r.tags.getD 0 0=tg)(w:World)(hr:r.At w)(h1:1<=r.tags.length):Calls prog 134 #[r.val] w (rB (i6 tg) w):=by
 rw[<-ht];exact SE r w hr h1
theorem yP{b:Nat}{d d':Dl}{a a':An}{w w':World}{o:Obj}(hs:cP b d a d' a' (w.alloc o) w')(hl:∀k,a.ay b k->k<w.heap.size):¬a'.ay b w.heap.size:=by
 intro e
 rcases hs.ay _ e with e|e
 ·have:=hl _ e;omega
 ·rw[aaW] at e;omega
theorem Hr{ops:Array Oper}{o:Oper}{a:Act}{w:World}{K:Act->World->Prop}{Q:Exit->Act->World->Prop}{E:Prop}(hg:o.guard=none)(x y:Operand)(ho:o.op=.store 151 x y)
 (q:Nat) (r:Rq) (xa:Option Addr) (n xc:Nat) (er:Int) (hx:a.eval x=.pointer (some ⟨q,0,none⟩)) (hy:a.eval y=fg r xa n xc er) (ht:w.there q 0 8)
 (h:K (a.put o.dst undef) (yV w q (.bool r.wr) (i6 r.f) (i6 r.m) (.slice r.da r.data.length r.dc) (.slice r.ta r.tags.length r.tc) (i6 r.born) (.slice xa n xc) (i6 er))) :
 if Region.wanted o (yielded ops a.tmps)=true then Oper.wp prog o a w K Q else E:=by
 have hw:Region.wanted o (yielded ops a.tmps)=true:=by simp[Region.wanted,hg]
 rw[aaV hw];exact wp_store_mid 151 x y ho q 0 _ hx hy ht kR (by simp[Value.oneCell']) h
def n7(D:DataW Unit)(f:Int->Int):Prop:=∀t,D.atKey (.int .i64 t) (.lit (.int .i64 0))=.lit (.int .i64 (f t))
theorem IY:n7 (.map []) (fun _=>0):=fun _=>rfl
theorem n7.put{D:DataW Unit}{f:Int->Int}(h:n7 D f)(hD:IsMap D)(t c:Int):n7 (D.put (.int .i64 t) (.lit (.int .i64 c))) (fun x=>if x=t then c else f x):=fun x=>by
 by_cases e:x=t
 ·subst e;rw[afK hD (by trivial)];simp
 ·rw[aga (by simpa using e)];simp[e,h x]
theorem n7.del{D:DataW Unit}{f:Int->Int}(h:n7 D f)(t:Int):n7 (D.del (.int .i64 t)) (fun x=>if x=t then 0 else f x):=fun x=>by
 by_cases e:x=t
 ·subst e;rw[atKey_del_same];simp
 ·rw[atKey_del_other (by simpa using e)];simp[e,h x]
theorem E9(b:Nat)(d:Dl)(a:An)(l:List Rq)(k:Nat)(r:Rq)(hb:d.busy=l)(hk:l[k]?=some r)(w:World)(h:bR b d a w) :
 Calls prog 133 #[.pointer (some ⟨b,0,none⟩),i6 k,.bool true] w fun e w'=>∃a',e=.returned (.tuple #[fg r none 0 0 8,.nilIface])/\cP b d a { d with busy:=d.busy.eraseIdx k } a' w w':=by
 subst hb;obtain⟨eH,rfl⟩:=acp.1 hk;exact SC b d a k eH w h
theorem aaL(v b bm:Nat)(d:Dl)(a:An)(n:Nat)(D:DataW Unit)(i:Int)(fl:Bool)(w:World)(h:mY v b bm d a n D w)(hi:i<0\/(d.busy.length:Int)<=i) :
 Calls prog 87 #[.pointer (some ⟨v,0,none⟩),i6 i,.bool fl] w (rB (.tuple #[px,.bool false,.iface 87 (i6 5)]) w):=by
 obtain⟨c0,c1⟩:=h.cells;have HV:=ae h;have hv:=aK h.a7;have hm:=h.mlt;have Fm:=h.dev.lt;have fq:=ae (aA w (.cells #[.bool false,i6 0,i6 0,.slice none 0 0,.slice none 0 0,i6 0,.slice none 0 0,i6 0] 151));clear h;have HI:=ae hi;clear hi;go_enter func87,ntmps87;go_wp2_with fail;refine cM (Wi b d a i fl _ (HV.out.dev.later fq.out) HI.out) ?_;intro w1 aw;have cC:=(eN w 151).only (F:=fun _=>False) (aH.cj aw) (fun e=>e);have eA:=fq.out.trans (aw.mono fq.out.size);have pE:=ae cC;have aN:=ae eA;clear aw eA cC;go_wp2_with(first
  |(refine cc rfl (.tmp 6) (.tmp 18) rfl w.heap.size iD none 0 0 0 rfl rfl (cw pE.out) (fun wK=>bL w wK/\dI wK w.heap.size iD none 0 0 0) ⟨aN.out.trans ((dS w1 w.heap.size _ _ _ _ _ _ _ _).below aN.out.size (fun i e=>oM)),gw (cw pE.out) pE.out.2.2⟩ ?_;rintro w2 ⟨aC,hr2⟩;have bT:=ae aC;have tG:=ae hr2;clear aC hr2 aN pE)
  |(refine cc rfl (.tmp 6) (.tmp 22) rfl w.heap.size iD none 0 0 0 rfl rfl tG.out.2.1 (fun wK=>bL w wK/\dI wK w.heap.size iD none 0 0 0) ⟨bT.out.trans ((dS w2 w.heap.size _ _ _ _ _ _ _ _).below bT.out.size (fun i e=>oM)),gw tG.out.2.1 tG.out.2.2⟩ ?_;rintro w3 ⟨bo,⟨z0,z1,z2,z3,z4,z5,z6,z7⟩,-,-⟩;have fi:=ae bo;clear bo bT tG))
 exact aaY (v:=.tuple #[px,.bool false,.iface 87 (i6 5)]) (by simp[results,results87,go_sem,z0,z1,z2,z3,z4,z5,z6,z7,iD]) rfl ⟨rfl,fi.out⟩
structure GI(bm:Nat)(d:Dl)(k:Nat)(r:Rq)(tg:Int):Prop where
 at':d.busy[k]?=some r
 tag:r.tags.getD 0 0=tg
 sY:cH tg
 uA:1<=r.tags.length
 off:∀q∈d.busy,q.dB (fun j=>j=bm)
theorem GI.mem{bm:Nat}{d:Dl}{k:Nat}{r:Rq}{tg:Int}(h:GI bm d k r tg):r∈d.busy:=acg h.at'
theorem Px(v b bm:Nat)(d:Dl)(a:An)(n:Nat)(D:DataW Unit)(k:Nat)(r:Rq)(tg c:Int)(w:World)(h:mY v b bm d a n D w)(hr:GI bm d k r tg)(hc:D.atKey (.int .i64 tg) (.lit (.int .i64 0))=.lit (.int .i64 c))(kJ:2<=c/\c<=100) :
 Calls prog 87 #[.pointer (some ⟨v,0,none⟩),i6 k,.bool true] w fun e w'=>∃a',e=.returned (.tuple #[fg r none 0 0 8,.bool true,.nilIface])/\jt v b bm d a n D { d with busy:=d.busy.eraseIdx k } a' n (D.del (.int .i64 tg)) w w':=by
 have nj:=ae (h.dev.reqs r hr.mem).1;have ss:=ae hr.mem;have jX:=ae hr;have HC:=ae hc;have cV:keyOf prog 3 (i6 tg)=some (.int .i64 tg):=agh underlying3 (acP hr.sY);have h1:=hr.uA;have DG:¬c+1<3:=oM;obtain⟨hc4,hc5⟩:=kJ;clear hc hr;obtain⟨c0,c1⟩:=h.cells;have HV:=ae h;have hv:=aK h.a7;have hm:=h.mlt;have Fm:=h.dev.lt;have fq:=ae (aA w (.cells #[.bool false,i6 0,i6 0,.slice none 0 0,.slice none 0 0,i6 0,.slice none 0 0,i6 0] 151));clear h;go_enter func87,ntmps87;go_wp2_with fail;refine(E9 b d a _ k r rfl jX.out.at' _ (HV.out.dev.later fq.out)).mono ?_;rintro e w1 ⟨a1,rfl,eI⟩;have xh:¬a1.ay b w.heap.size:=yP eI HV.out.dev.bC;obtain⟨d1,nU⟩:∃d1:Dl,d1={ d with busy:=d.busy.eraseIdx k }:=⟨_,rfl⟩
 have qN:=ae nU;rw[<-nU] at eI;have jL:Hid (∀q∈d1.busy,q.dB (fun j=>j=w.heap.size)):=fun q hq=>by rw[qN.out] at hq;exact oP (HV.out.dev.reqs q (abo hq)).1 (fun j e=>oM)
 have Br:=jL;have wi:Hid (∀q∈d1.busy,q.dB (fun j=>j=bm)):=fun q hq=>by rw[qN.out] at hq;exact jX.out.off q (abo hq)
 have ES:Hid (¬jU b bm a1 w.heap.size):=fun e=>e.elim (fun e=>oM) xh
 clear nU;have cf:=ae (HV.out.step ((cP.same HV.out.dev fq.out).trans eI));have pE:=ae ((eN w 151).only eI.only (fun e=>by have:=HV.out.dev.bC _ e;omega));have wh:Hid (¬jU b bm a1 w.heap.size):=(fun e=>e.elim (fun e=>oM) (fun e=>(cf.out.ay _ (ir e)).elim (fun e=>e.elim (fun e=>oM) (fun e=>by have:=HV.out.dev.bC _ e;omega)) (fun _=>xh e)));have AT:=ae ((nj.out.later fq.out).frame (HV.out.dev.reqs r (ss.out)).2 eI.only);clear eI xh;go_wp2_with(refine cc rfl (.tmp 6) (.tmp 18) rfl w.heap.size r none 0 0 8 rfl rfl (cw pE.out) (fun wK=>jt v b bm d a n D d1 a1 n D w wK/\dI wK w.heap.size r none 0 0 8/\r.At wK) ⟨Da cf.out w.heap.size (aaO _) wh.out oM jL.out _ _ _ _ _ _ _ _,gw (cw pE.out) pE.out.2.2,AT.out.frame (oP nj.out (fun k e=>oM)) (dS w1 w.heap.size _ _ _ _ _ _ _ _)⟩ ?_;rintro wK ⟨lE,nX,IG⟩;have lL:=ae lE;have qQ:=ae nX;have Bl:=ae IG;obtain⟨⟨y0,y1,y2,y3,y4,y5,y6,y7⟩,-,yl⟩:=nX;clear lE IG cf wh jL pE AT);refine cM (BF r tg jX.out.tag _ Bl.out h1) ?_;intro w2 aC;have ck:=ae (lL.out.later aC);have tG:=ae (qQ.out.later aC);have vo:=ae (Bl.out.later aC);clear lL qQ Bl aC y0 y1 y2 y3 y4 y5 y6 y7 yl;obtain⟨⟨x0,x1,x2,x3,x4,x5,x6,x7⟩,-,xl⟩:=id tG.out;obtain⟨p0,p1⟩:=ck.out.at'.cells;have mZ:=ck.out.at'.map;have qZ:=aK ck.out.at'.a7;obtain⟨c',gY,eB,-⟩:=mZ.lookup_int ue underlying131 underlying3 (Dc _) cV;obtain rfl:c'=c:=by rw[HC.out] at eB;injection eB with e;injection e with _ e;exact e.symm
 have iJ:=ae eB;clear eB;go_wp2_with(first|(at_delete;refine wpList_delete_own _ rfl _ _ 131 3 rfl 3 ue underlying131 _ bm n D rfl mZ _ _ rfl cV ?_;intro w3 bw uT;have eV:=ae (ck.out.trans (ck.out.at'.dQ (dZ uT.grown) bw wi.out));have vp:=ae (tG.out.only (dZ uT.grown) oM);obtain⟨⟨m0,m1,m2,m3,m4,m5,m6,m7⟩,-,ml⟩:=id vp.out;have RO:Hid (¬jU b bm a1 w.heap.size):=ES.out;clear bw uT mZ ck tG vo x0 x1 x2 x3 x4 x5 x6 x7 xl p0 p1 qZ)|(refine cc rfl (.tmp 6) (.tmp 60) rfl w.heap.size r none 0 0 8 rfl rfl vp.out.2.1 (fun wK=>jt v b bm d a n D d1 a1 n (D.del (.int .i64 tg)) w wK/\dI wK w.heap.size r none 0 0 8) ⟨Da eV.out w.heap.size (aaO _) RO.out oM Br.out _ _ _ _ _ _ _ _,gw vp.out.2.1 vp.out.2.2⟩ ?_;rintro w4 ⟨kX,⟨k0,k1,k2,k3,k4,k5,k6,k7⟩,-,-⟩;have gD:=ae kX;clear kX eV vp RO m0 m1 m2 m3 m4 m5 m6 m7 ml));refine aaY (v:=.tuple #[fg r none 0 0 8,.bool true,.nilIface]) (by simp[results,results87,go_sem,k0,k1,k2,k3,k4,k5,k6,k7]) rfl ⟨a1,rfl,?_⟩;rw[<-qN.out];exact gD.out
theorem aee(v b bm:Nat)(d:Dl)(a:An)(n:Nat)(D:DataW Unit)(k:Nat)(r:Rq)(tg:Int)(w:World)(h:mY v b bm d a n D w)(hr:GI bm d k r tg)(gr:bz r) :
 Calls prog 87 #[.pointer (some ⟨v,0,none⟩),i6 k,.bool false] w fun e w'=>∃a' xa xc xs,e=.returned (.tuple #[fg r xa (List.length xs) xc 0,.bool true,.nilIface])/\Hid (xs=cW d r)/\StrsAt w' xa xs/\(∀ad,xa=some ad->w.heap.size<=ad.block/\¬jU b bm a' ad.block)/\jt v b bm d a n D (({ d with busy:=d.busy.eraseIdx k }:Dl).cr r) a' n (D.del (.int .i64 tg)) w w':=by
 have nj:=ae (h.dev.reqs r hr.mem).1;have ss:=ae hr.mem;have jX:=ae hr;have HG:=ae gr;have cV:keyOf prog 3 (i6 tg)=some (.int .i64 tg):=agh underlying3 (acP hr.sY);have h1:=hr.uA;clear gr hr;obtain⟨c0,c1⟩:=h.cells;have HV:=ae h;have hv:=aK h.a7;have hm:=h.mlt;have Fm:=h.dev.lt;have fq:=ae (aA w (.cells #[.bool false,i6 0,i6 0,.slice none 0 0,.slice none 0 0,i6 0,.slice none 0 0,i6 0] 151));clear h;go_enter func87,ntmps87;go_wp2_with fail;refine(ab0 b d a _ k r rfl jX.out.at' _ (HV.out.dev.later fq.out) HG.out).mono ?_;rintro e w1 ⟨a1,xa,xc,xs,rfl,kc,cZ,kC,eI⟩;have xh:¬a1.ay b w.heap.size:=yP eI HV.out.dev.bC;obtain⟨d1,nU⟩:∃d1:Dl,d1=(({ d with busy:=d.busy.eraseIdx k }:Dl).cr r):=⟨_,rfl⟩
 have qN:=ae nU;rw[<-nU] at eI;have lK:Hid (∀q∈d1.busy,q∈d.busy):=fun q hq=>by rw[qN.out,Dl.mR] at hq;exact abo hq
 have jL:Hid (∀q∈d1.busy,q.dB (fun j=>j=w.heap.size)):=fun q hq=>oP (HV.out.dev.reqs q (lK.out q hq)).1 (fun j e=>oM)
 have Br:=jL;have wi:Hid (∀q∈d1.busy,q.dB (fun j=>j=bm)):=fun q hq=>jX.out.off q (lK.out q hq)
 have ES:Hid (¬jU b bm a1 w.heap.size):=fun e=>e.elim (fun e=>oM) xh
 have pw:∀ad,xa=some ad->ad.block ≠ w.heap.size/\ad.block ≠ bm:=fun ad e=>by have:=(kC ad e).1;rw[aaW] at this;omega
 have ON:=ae pw;have HNW:Hid (∀ad,xa=some ad->w.heap.size<=ad.block/\¬jU b bm a1 ad.block):=fun ad e=>⟨by have:=(kC ad e).1;rw[aaW] at this;omega,fun hk=>hk.elim (pw ad e).2 (kC ad e).2⟩
 have AW:=ae cZ;have zg:=kc;clear nU pw cZ kC kc;have cf:=ae (HV.out.step ((cP.same HV.out.dev fq.out).trans eI));have pE:=ae ((eN w 151).only eI.only (fun e=>by have:=HV.out.dev.bC _ e;omega));have wh:Hid (¬jU b bm a1 w.heap.size):=(fun e=>e.elim (fun e=>oM) (fun e=>(cf.out.ay _ (ir e)).elim (fun e=>e.elim (fun e=>oM) (fun e=>by have:=HV.out.dev.bC _ e;omega)) (fun _=>xh e)));have AT:=ae ((nj.out.later fq.out).frame (HV.out.dev.reqs r (ss.out)).2 eI.only);clear eI xh;generalize lF:xs.length=xm at *;go_wp2_with(refine cc rfl (.tmp 6) (.tmp 18) rfl w.heap.size r xa xm xc 0 rfl rfl (cw pE.out) (fun wK=>jt v b bm d a n D d1 a1 n D w wK/\dI wK w.heap.size r xa xm xc 0/\r.At wK/\StrsAt wK xa xs) ⟨Da cf.out w.heap.size (aaO _) wh.out oM jL.out _ _ _ _ _ _ _ _,gw (cw pE.out) pE.out.2.2,AT.out.frame (oP nj.out (fun k e=>oM)) (dS w1 w.heap.size _ _ _ _ _ _ _ _),gV AW.out (dS w1 w.heap.size _ _ _ _ _ _ _ _) (fun _ ad e=>(ON.out ad e).1)⟩ ?_;rintro wK ⟨lE,nX,IG,hxK⟩;have HXK:=ae hxK;clear hxK;have lL:=ae lE;have qQ:=ae nX;have Bl:=ae IG;obtain⟨⟨y0,y1,y2,y3,y4,y5,y6,y7⟩,-,yl⟩:=nX;clear lE IG cf wh jL pE AT);refine cM (BF r tg jX.out.tag _ Bl.out h1) ?_;intro w2 aC;have nQ:=ae (HXK.out.later aC);have ck:=ae (lL.out.later aC);have tG:=ae (qQ.out.later aC);have vo:=ae (Bl.out.later aC);clear lL qQ Bl aC y0 y1 y2 y3 y4 y5 y6 y7 yl;obtain⟨⟨x0,x1,x2,x3,x4,x5,x6,x7⟩,-,xl⟩:=id tG.out;obtain⟨p0,p1⟩:=ck.out.at'.cells;have mZ:=ck.out.at'.map;have qZ:=aK ck.out.at'.a7;go_wp2_with(first|(at_delete;refine wpList_delete_own _ rfl _ _ 131 3 rfl 3 ue underlying131 _ bm n D rfl mZ _ _ rfl cV ?_;intro w3 bw uT;have AX:=ae (gV nQ.out (dZ uT.grown) (fun _ ad e=>(ON.out ad e).2));have eV:=ae (ck.out.trans (ck.out.at'.dQ (dZ uT.grown) bw wi.out));have vp:=ae (tG.out.only (dZ uT.grown) oM);obtain⟨⟨m0,m1,m2,m3,m4,m5,m6,m7⟩,-,ml⟩:=id vp.out;have RO:Hid (¬jU b bm a1 w.heap.size):=ES.out;clear bw uT mZ ck tG vo x0 x1 x2 x3 x4 x5 x6 x7 xl p0 p1 qZ)|(refine cc rfl (.tmp 6) (.tmp 60) rfl w.heap.size r xa xm xc 0 rfl rfl vp.out.2.1 (fun wK=>jt v b bm d a n D d1 a1 n (D.del (.int .i64 tg)) w wK/\dI wK w.heap.size r xa xm xc 0/\StrsAt wK xa xs) ⟨Da eV.out w.heap.size (aaO _) RO.out oM Br.out _ _ _ _ _ _ _ _,gw vp.out.2.1 vp.out.2.2,gV AX.out (dS _ w.heap.size _ _ _ _ _ _ _ _) (fun _ ad e=>(ON.out ad e).1)⟩ ?_;rintro w4 ⟨kX,⟨⟨k0,k1,k2,k3,k4,k5,k6,k7⟩,-,-⟩,yo⟩;have Ic:=ae yo;clear yo;have gD:=ae kX;clear kX eV vp RO m0 m1 m2 m3 m4 m5 m6 m7 ml));refine aaY (v:=.tuple #[fg r xa xm xc 0,.bool true,.nilIface]) (by simp[results,results87,go_sem,k0,k1,k2,k3,k4,k5,k6,k7]) rfl ⟨a1,xa,xc,xs,by rw[lF],zg,Ic.out,HNW.out,?_⟩
 rw[<-qN.out];exact gD.out
theorem X8(v b bm:Nat)(d:Dl)(a:An)(n:Nat)(D:DataW Unit)(k:Nat)(r:Rq)(tg c:Int)(w:World)(h:mY v b bm d a n D w)(hr:GI bm d k r tg)(hc:D.atKey (.int .i64 tg) (.lit (.int .i64 0))=.lit (.int .i64 c))(kJ:0<=c/\c<2)(hn:n<=1000000000) :
 Calls prog 87 #[.pointer (some ⟨v,0,none⟩),i6 k,.bool true] w fun e w'=>∃a',e=.returned (.tuple #[px,.bool false,.nilIface])/\jt v b bm d a n D { d with busy:=d.busy.eraseIdx k++[r] } a' (n+1) (D.put (.int .i64 tg) (.lit (.int .i64 (c+1)))) w w':=by
 have nj:=ae (h.dev.reqs r hr.mem).1;have ss:=ae hr.mem;have jX:=ae hr;have HC:=ae hc;have cV:keyOf prog 3 (i6 tg)=some (.int .i64 tg):=agh underlying3 (acP hr.sY);have h1:=hr.uA;have DG:c+1<3:=oM;obtain⟨hc4,hc5⟩:=kJ;have jW:=ae (hr.off r hr.mem);have Dj:Hid ((d.busy.eraseIdx k).length<2):=by
  show _<_;have h2:=h.dev.gQ;have h3:=(acp.1 hr.at').1;rw[ab7,aaV h3];omega
 clear hc hr;obtain⟨c0,c1⟩:=h.cells;have HV:=ae h;have hv:=aK h.a7;have hm:=h.mlt;have Fm:=h.dev.lt;have fq:=ae (aA w (.cells #[.bool false,i6 0,i6 0,.slice none 0 0,.slice none 0 0,i6 0,.slice none 0 0,i6 0] 151));clear h;go_enter func87,ntmps87;go_wp2_with fail;refine(E9 b d a _ k r rfl jX.out.at' _ (HV.out.dev.later fq.out)).mono ?_;rintro e w1 ⟨a1,rfl,eI⟩;have xh:¬a1.ay b w.heap.size:=yP eI HV.out.dev.bC;obtain⟨d1,nU⟩:∃d1:Dl,d1={ d with busy:=d.busy.eraseIdx k }:=⟨_,rfl⟩
 have qN:=ae nU;rw[<-nU] at eI;have lK:Hid (∀q∈d1.busy,q∈d.busy):=fun q hq=>by rw[qN.out] at hq;exact abo hq
 have Bq:Hid (d1.busy.length<2):=by show _<_;rw[qN.out];exact Dj.out
 have jL:Hid (∀q∈d1.busy,q.dB (fun j=>j=w.heap.size)):=fun q hq=>oP (HV.out.dev.reqs q (lK.out q hq)).1 (fun j e=>oM)
 have Br:=jL;have wi:Hid (∀q∈d1.busy,q.dB (fun j=>j=bm)):=fun q hq=>jX.out.off q (lK.out q hq)
 clear nU;have ES:Hid (¬jU b bm a1 w.heap.size):=fun e=>e.elim (fun e=>oM) xh
 have fD:Hid (r.dB (a1.ay b)):=⟨fun he ad ha hk=>(eI.ay _ hk).elim ((HV.out.dev.reqs r (ss.out)).2.1 he ad ha) (fun h'=>by have:=zQ nj.out.data he ha;rw[aaW] at h';omega),fun he ad ha hk=>(eI.ay _ hk).elim ((HV.out.dev.reqs r (ss.out)).2.2 he ad ha) (fun h'=>by have:=sa nj.out.tags he ha;rw[aaW] at h';omega)⟩
 have cf:=ae (HV.out.step ((cP.same HV.out.dev fq.out).trans eI));have pE:=ae ((eN w 151).only eI.only (fun e=>by have:=HV.out.dev.bC _ e;omega));have wh:Hid (¬jU b bm a1 w.heap.size):=(fun e=>e.elim (fun e=>oM) (fun e=>(cf.out.ay _ (ir e)).elim (fun e=>e.elim (fun e=>oM) (fun e=>by have:=HV.out.dev.bC _ e;omega)) (fun _=>xh e)));have AT:=ae ((nj.out.later fq.out).frame (HV.out.dev.reqs r (ss.out)).2 eI.only);clear eI xh;go_wp2_with(refine cc rfl (.tmp 6) (.tmp 18) rfl w.heap.size r none 0 0 8 rfl rfl (cw pE.out) (fun wK=>jt v b bm d a n D d1 a1 n D w wK/\dI wK w.heap.size r none 0 0 8/\r.At wK) ⟨Da cf.out w.heap.size (aaO _) wh.out oM jL.out _ _ _ _ _ _ _ _,gw (cw pE.out) pE.out.2.2,AT.out.frame (oP nj.out (fun k e=>oM)) (dS w1 w.heap.size _ _ _ _ _ _ _ _)⟩ ?_;rintro wK ⟨lE,nX,IG⟩;have lL:=ae lE;have qQ:=ae nX;have Bl:=ae IG;obtain⟨⟨y0,y1,y2,y3,y4,y5,y6,y7⟩,-,yl⟩:=nX;clear lE IG cf wh jL pE AT);refine cM (BF r tg jX.out.tag _ Bl.out h1) ?_;intro w2 aC;have ck:=ae (lL.out.later aC);have tG:=ae (qQ.out.later aC);have vo:=ae (Bl.out.later aC);clear lL qQ Bl aC y0 y1 y2 y3 y4 y5 y6 y7 yl;obtain⟨⟨x0,x1,x2,x3,x4,x5,x6,x7⟩,-,xl⟩:=id tG.out;obtain⟨p0,p1⟩:=ck.out.at'.cells;have mZ:=ck.out.at'.map;have qZ:=aK ck.out.at'.a7;obtain⟨c',gY,eB,-⟩:=mZ.lookup_int ue underlying131 underlying3 (Dc _) cV;obtain rfl:c'=c:=by rw[HC.out] at eB;injection eB with e;injection e with _ e;exact e.symm
 have iJ:=ae eB;clear eB;go_wp2_with(at_mapUpdate;refine agz _ rfl _ _ _ 131 rfl 3 3 ue underlying131 _ bm n D rfl mZ (by unfold maxLen;omega) _ _ _ rfl rfl cV _ [] (afI underlying3 (acP oM)) ?_;intro w3 bw kW;have eV:=ae (ck.out.trans (ck.out.at'.dQ (dZ kW) bw wi.out));have vp:=ae (tG.out.only (dZ kW) oM);have J2:=ae (vo.out.frame jW.out (dZ kW));clear bw kW mZ ck tG vo x0 x1 x2 x3 x4 x5 x6 x7 xl p0 p1 qZ);have YS:bL w3 w3.drew:=(aX _ _).drew;have yJ:=ae (eV.out.later YS);have VC:=ae (vp.out.later YS);have J3:=ae (J2.out.later YS);have HS:Hid (w3.drew.cell? ⟨v,0,none⟩=some (.pointer (some ⟨b,0,none⟩))):=yJ.out.at'.cells.1;have eg:∀args w,Sem.run prog (callFunc 132 args) w=.ok (.enter 132 args) w:=by intro args w;go_simp
 clear eV vp J2 YS
 (try simp only[Act.put,dP])
 refine eL (S:=fun wz=>wz.cell? ⟨v,0,none⟩=some (.pointer (some ⟨b,0,none⟩))) (d:=10) kR ?_;generalize w3.drew=w3 at *;refine tk 0 ?_ rfl (il ⟨by rfl,?_⟩) HS.out ?_;rotate_left;(focus(intro w0 s6;go_simp;(try with_reducible rfl)));(try simp only[Act.put,dP])
 refine tk 1 ?_ rfl (il ⟨by rfl,?_⟩) HS.out ?_;rotate_left;(focus(intro w0 s6;go_simp;(try with_reducible rfl)));(try simp only[Act.put,dP])
 refine tk 2 ?_ rfl (il ⟨by rfl,?_⟩) HS.out ?_;rotate_left;(focus(intro w0 s6;go_simp;(try with_reducible rfl)));(try simp only[Act.put,dP])
 refine tk 3 ?_ rfl (il ⟨by rfl,?_⟩) HS.out ?_;rotate_left;(focus(intro w0 s6;go_simp;(try with_reducible rfl)));(try simp only[Act.put,dP])
 refine tk 4 ?_ rfl (il ⟨by rfl,?_⟩) HS.out ?_;rotate_left;(focus(intro w0 s6;go_simp;(try with_reducible rfl)));(try simp only[Act.put,dP])
 refine tk 5 ?_ rfl (il ⟨by rfl,?_⟩) HS.out ?_;rotate_left;(focus(intro w0 s6;go_simp;(try with_reducible rfl)));(try simp only[Act.put,dP])
 obtain⟨⟨x0,x1,x2,x3,x4,x5,x6,x7⟩,-,xl⟩:=id VC.out;refine bn (i:=6) rfl kR ?_;intro K hK;go_simp;refine hK _ _ (fun _=>HS.out) ?_
 (try simp only[Act.put,dP])
 clear hK;refine bn (i:=7) rfl kR ?_;intro K hK;refine tB rfl 132 51 53 42 146 rfl eg (.pointer (some ⟨b,0,none⟩)) r.val rfl rfl .nilIface (fun w'=>∃a',cP b d1 a1 { d1 with busy:=d1.busy++[r] } a' w3 w') ((My b d1 a1 r _ yJ.out.at'.dev Bq.out J3.out fD.out).mono (fun e w' ⟨a',he,hs⟩=>⟨he,a',hs⟩)) ?_;rintro w4 ⟨a4,kX⟩;have O8:¬jU b bm a4 w.heap.size:=by
  rintro(e|e)
  ·omega
  ·rcases kX.ay _ e with e|e
   ·exact ES.out (ir e)
   ·omega
 have gD:=ae (yJ.out.trans (yJ.out.at'.step kX));have Yk:=ae (VC.out.only kX.only (fun e=>ES.out (ir e)));have RS:=ae O8;refine hK _ _ (fun _=>gD.out.at'.cells.1) ?_
 (try simp only[Act.put,dP])
 clear hK kX O8 x0 x1 x2 x3 x4 x5 x6 x7 xl yJ VC J3 HS;refine bn (i:=8) rfl kR ?_;intro K hK;refine Hr rfl (.tmp 6) (.tmp 47) rfl w.heap.size iD none 0 0 0 rfl rfl Yk.out.2.1 ?_;have eO:=ae (Da gD.out w.heap.size (aaO _) RS.out oM (fun q hq=>by rcases abh.1 hq with cI|cI;exact Br.out q cI;(rw[abq.1 cI];exact oP nj.out (fun k e=>oM))) (.bool iD.wr) (i6 iD.f) (i6 iD.m) (.slice iD.da iD.data.length iD.dc) (.slice iD.ta iD.tags.length iD.tc) (i6 iD.born) (.slice none 0 0) (i6 0));have Dm:=ae (gw (r:=iD) (xa:=none) (n:=0) (xc:=0) (er:=0) Yk.out.2.1 Yk.out.2.2);refine hK _ _ (fun _=>eO.out.at'.cells.1) ?_
 (try simp only[Act.put,dP])
 clear hK;generalize yV w4 w.heap.size (.bool iD.wr) (i6 iD.f) (i6 iD.m) (.slice iD.da iD.data.length iD.dc) (.slice iD.ta iD.tags.length iD.tc) (i6 iD.born) (.slice none 0 0) (i6 0)=w5 at *;clear gD Yk RS;refine bn (i:=9) rfl kR ?_;intro K hK;go_simp;refine hK _ _ (fun _=>eO.out.at'.cells.1) ?_;(try simp only[Act.put,dP]);clear hK;refine bn (i:=10) rfl kR ?_;intro K hK;go_simp;refine hK _ _ (fun _=>eO.out.at'.cells.1) ?_;(try simp only[Act.put,dP]);clear hK;refine fw kR ?_ _;obtain⟨⟨k0,k1,k2,k3,k4,k5,k6,k7⟩,-,-⟩:=id Dm.out;go_wp2;exact aaY (v:=.tuple #[px,.bool false,.nilIface]) (by simp[results,results87,go_sem,k0,k1,k2,k3,k4,k5,k6,k7,iD]) rfl ⟨a4,rfl,by have:=eO.out;rw[qN.out] at this;exact this⟩
theorem Mk(v b bm:Nat)(d:Dl)(a:An)(n:Nat)(D:DataW Unit)(t:Bool)(w:World)(h:mY v b bm d a n D w)(ht:decide (d.busy.length<2)=t):Calls prog 83 #[.pointer (some ⟨v,0,none⟩)] w (rB (.bool t) w):=by
 cases t with
 |true=>exact XC v b bm d a n D w h (agM ht)
 |false =>
  obtain⟨c0,c1⟩:=h.cells;have HV:=ae h;have h2:=of_decide_eq_false ht;have pq:¬(d.busy.length:Int)<2:=oM;clear h c1 ht h2;go_enter func83,ntmps83;go_wp2_with fail;refine(Af b d a _ HV.out.dev).mono ?_;rintro e w1 ⟨xa,xc,rfl,-,-,hb⟩;go_wp2;go_ret;exact⟨ey (aa9 oM),hb⟩
theorem mY.frame{F:Nat->Prop}{v b bm:Nat}{d:Dl}{a:An}{n:Nat}{D:DataW Unit}{w w':World}(h:mY v b bm d a n D w)(hk:aH F w w')(hF:∀k,jU b bm a k->¬F k)(hv:¬F v)(hr:∀r∈d.busy,r.dB F):mY v b bm d a n D w' :=
 ⟨h.dev.frame hk (fun k e=>hF k (ir e)) hr,by rw[hk.block v (aK h.a7) hv];exact h.a7,mJ h.map (hk.block bm h.mlt (hF bm (il rfl))),h.ay⟩
theorem mY.bC{v b bm:Nat}{d:Dl}{a:An}{n:Nat}{D:DataW Unit}{w:World}(h:mY v b bm d a n D w)(k:Nat)(hk:jU b bm a k):k<w.heap.size:=hk.elim (fun e=>by rw[e];exact h.mlt) (h.dev.bC k)
end
section
open Go.RowKit Go.BigFrame
structure Pu where
 pl:Nat
 data:ByteArray
structure Rd where
 kept:List ByteArray
 now:List ByteArray
 waits:List Pu
 busy:List Rq
def kU(kp:Int):Nat->List Pu->List ByteArray->List ByteArray
 |_,[],G=>G
 |i,x::l,G=>kU kp (i+1) l (if ng kp (i % 64)=true then G.set x.pl x.data else G)
theorem Dq(kp:Int)(l:List Pu)(x:Pu):∀(i:Nat) (G:List ByteArray),kU kp i (l++[x]) G=if ng kp ((i+l.length) % 64)=true then(kU kp i l G).set x.pl x.data else kU kp i l G:=by
 induction l with
 |nil=>intro i G;rfl
 |cons y l ih =>
  intro i G;show kU kp (i+1) (l++[x]) _=_;rw[ih,acf,show i+1+l.length=i+(l.length+1) from oM]
  rfl
def Rd.write(m:Rd)(p:Nat)(s:ByteArray):Rd:={ m with now:=m.now.set p s,waits:=m.waits++[⟨p,s⟩] }
def Rd.flush(m:Rd):Rd:={ m with kept:=m.now,waits:=[] }
def Rd.fs(m:Rd)(kp:Int):Rd:=⟨kU kp 0 m.waits m.kept,kU kp 0 m.waits m.kept,[],[]⟩
structure kN(d:Dl)(m:Rd):Prop where
 now:d.now=m.now
 bO:d.bO=m.kept
 next:d.next=m.waits.length % 64
 same:∀kp,d.after kp=kU kp 0 m.waits m.kept
theorem kN.start:kN d0 ⟨List.replicate 32 bE,List.replicate 32 bE,[],[]⟩:=⟨rfl,rfl,rfl,fun _=>rfl⟩
theorem kN.write{d:Dl}{m:Rd}(h:kN d m)(p:Nat)(s:ByteArray):kN (d.write p s) (m.write p s) where
 now:=by show d.now.set p s=m.now.set p s;rw[h.now]
 bO:=h.bO
 next:=by
  have:=h.next;show(d.next+1) % 64=(m.waits++[(⟨p,s⟩:Pu)]).length % 64;rw[aaQ,abl];omega
 same:=fun kp=>by
  show(d.write p s).after kp=kU kp 0 (m.waits++[⟨p,s⟩]) m.kept;rw[MS,Dq,h.same kp,h.next,abc]
theorem kN.busy{d:Dl}{m:Rd}(h:kN d m)(l l':List Rq):kN { d with busy:=l } { m with busy:=l' }:=⟨h.now,h.bO,h.next,h.same⟩
theorem kN.flush{d:Dl}{m:Rd}(h:kN d m):kN d.flush m.flush:=⟨h.now,h.now,rfl,fun _=>h.now⟩
theorem kN.fs{d:Dl}{m:Rd}(h:kN d m)(kp:Int):kN (d.fs kp) (m.fs kp):=⟨h.same kp,h.same kp,rfl,fun _=>h.same kp⟩
def Rd.cL(m:Rd)(r:Rq)(n:Nat):Rd:=(List.range n).foldl (fun m j=>m.write (r.f.toNat+j) (r.data.getD j bE)) m
theorem Rd.fJ(m:Rd)(r:Rq)(n:Nat):m.cL r (n+1)=(m.cL r n).write (r.f.toNat+n) (r.data.getD n bE):=by simp[Rd.cL,afU]
theorem kN.cL{d:Dl}{m:Rd}(h:kN d m)(r:Rq)(n:Nat):kN (d.cL r n) (m.cL r n):=by
 induction n with
 |zero=>exact h
 |succ n ih=>rw[Dl.fJ,Rd.fJ];exact ih.write _ _
def Rd.cr(m:Rd)(r:Rq):Rd:=if r.wr=true then m.cL r r.m.toNat else m
theorem kN.cr{d:Dl}{m:Rd}(h:kN d m)(r:Rq):kN (d.cr r) (m.cr r):=by
 unfold Dl.cr Rd.cr
 split
 ·exact h.cL r _
 ·exact h
theorem Rd.oT(m:Rd)(r:Rq)(n:Nat):(m.cL r n).busy=m.busy:=by
 induction n with
 |zero=>rfl
 |succ n ih=>rw[Rd.fJ];exact ih
def mK(l:List Pu):List Value:=l.flatMap fun x=>[i6 x.pl,.string x.data]
theorem DT(x:Pu)(l:List Pu):mK (x::l)=i6 x.pl::.string x.data::mK l:=rfl
theorem JB(l:List Pu):(mK l).length=l.length*2:=by
 induction l with
 |nil=>rfl
 |cons r l ih=>rw[DT,acf,acf,ih,acf];omega
theorem JA(l l':List Pu):mK (l++l')=mK l++mK l':=by simp[mK]
theorem Np(l:List Pu)(x:Pu):mK (l++[x])=mK l++[i6 x.pl,.string x.data]:=by rw[JA];rfl
theorem Ui(l:List Pu):∀(i:Nat) (h:i<l.length),(mK l)[i*2]?=some (i6 l[i].pl)/\(mK l)[i*2+1]?=some (.string l[i].data):=by
 induction l with
 |nil=>intro i h;exact absurd h (aa0 _)
 |cons r l ih =>
  intro i h
  cases i with
  |zero=>exact⟨rfl,rfl⟩
  |succ i =>
   have:=ih i (by simpa using h);rw[DT,show(i+1)*2=i*2+2 from oM];exact this
structure Ra where
 wa:Option Addr
 wc:Nat
 la:Option Addr
 lc:Nat
def Rd.cells(m:Rd)(a:Ra):List Value:=dx m.kept++dx m.now++[.slice a.wa m.waits.length a.wc,.slice a.la m.busy.length a.lc]
def Ra.ay(a:Ra)(b:Nat)(k:Nat):Prop:=k=b\/(∃p,a.wa=some p/\k=p.block)
structure dw(b:Nat)(m:Rd)(a:Ra)(w:World):Prop where
 lV:m.kept.length=32
 dv:m.now.length=32
 a7:w.heap[b]?=some (.cells (m.cells a).toArray 49 (0,0))
 jH:w.ownsRow 0 178 2 (.slice a.wa m.waits.length a.wc) m.waits.length (mK m.waits)
 fb:aW w a.la m.busy
 AG:a.la=none->a.lc=0
 rP:m.busy.length<=a.lc
 iF:m.busy ≠ []->∀p,a.la=some p->¬a.ay b p.block
 jl:∀p,a.wa=some p->p.block ≠ b
 reqs:∀r∈m.busy,r.dB (a.ay b)
 kn:∀x∈m.waits,x.pl<32
 gQ:m.busy.length<=2
structure dL(b:Nat)(m:Rd)(a:Ra)(m':Rd)(a':Ra)(w w':World):Prop where
 dev:dw b m' a' w'
 only:aH (a.ay b) w w'
 ay:∀k,a'.ay b k->a.ay b k\/w.heap.size<=k
 uU:m'.busy ≠ []->∀p,a'.la=some p->(m.busy ≠ []/\a.la=some p)\/w.heap.size<=p.block
theorem dL.trans{b:Nat}{d d' Su:Rd}{a a' RZ:Ra}{w w' eZ:World}(h:dL b d a d' a' w w')(k:dL b d' a' Su RZ w' eZ):dL b d a Su RZ w eZ :=
 ⟨k.dev,h.only.trans k.only h.ay,fun i hi=>(k.ay i hi).elim (h.ay i) (fun h'=>ir (abb h.only.size h')),fun aE p hp=>(k.uU aE p hp).elim (fun e=>h.uU e.1 p e.2) (fun h'=>ir (abb h.only.size h'))⟩
theorem Rd.lP{d:Rd}{a:Ra}(h1:d.kept.length=32)(h2:d.now.length=32):(d.cells a).length=66:=by simp[Rd.cells,aS,h1,h2]
theorem Rd.E4{d:Rd}{a:Ra}(h1:d.kept.length=32)(h2:d.now.length=32):(d.cells a)[64]?=some (.slice a.wa d.waits.length a.wc):=by
 rw[Rd.cells,abZ (by simp[aS,h1,h2])];simp[aS,h1,h2]
theorem Rd.E5{d:Rd}{a:Ra}(h1:d.kept.length=32)(h2:d.now.length=32):(d.cells a)[65]?=some (.slice a.la d.busy.length a.lc):=by
 rw[Rd.cells,abZ (by simp[aS,h1,h2])];simp[aS,h1,h2]
theorem Rd.GN{d:Rd}{a:Ra}(h1:d.kept.length=32)(h2:d.now.length=32)(k:Nat)(hk:k<32):(d.cells a)[32+k]?=some (.string (d.now.getD k bE)):=by
 rw[Rd.cells,abp,abZ (by rw[aS];omega),aS,h1,abU (by rw[aS];omega)]
 simp[dx,aaX (show k<d.now.length from oM)]
theorem Rd.VV{d:Rd}{a:Ra}(h1:d.kept.length=32)(k:Nat)(hk:k<32):(d.cells a)[k]?=some (.string (d.kept.getD k bE)):=by
 rw[Rd.cells,abp,abU (by rw[aS];omega)]
 simp[dx,aaX (show k<d.kept.length from oM)]
section
variable{b:Nat}{d:Rd}{a:Ra}{w:World}
theorem dw.pG(h:dw b d a w):w.cell? ⟨b,64,none⟩=some (.slice a.wa d.waits.length a.wc):=by rw[aR h.a7];exact Rd.E4 h.lV h.dv
theorem dw.j8(h:dw b d a w):w.cell? ⟨b,65,none⟩=some (.slice a.la d.busy.length a.lc):=by rw[aR h.a7];exact Rd.E5 h.lV h.dv
theorem dw.GL(h:dw b d a w)(k:Nat)(hk:k<32):w.cell? ⟨b,32+k,none⟩=some (.string (d.now.getD k bE)):=by rw[aR h.a7];exact Rd.GN h.lV h.dv k hk
theorem dw.adP(h:dw b d a w)(k:Nat)(hk:k<32):w.cell? ⟨b,k,none⟩=some (.string (d.kept.getD k bE)):=by rw[aR h.a7];exact Rd.VV h.lV k hk
theorem dw.fz(h:dw b d a w)(j:Nat):w.frozen? ⟨b,j,none⟩=false:=cG h.a7 j
theorem dw.lt(h:dw b d a w):b<w.heap.size:=aK h.a7
theorem dw.CB(h:dw b d a w)(p:Addr)(hp:a.wa=some p):p.block<w.heap.size:=(h.jH.lt p.block (by rw[hp];rfl)).2
theorem dw.bC(h:dw b d a w)(k:Nat)(hk:a.ay b k):k<w.heap.size:=by
 rcases hk with rfl|⟨p,hp,rfl⟩
 ·exact h.lt
 ·exact h.CB p hp
theorem vN{F:Nat->Prop}{w w':World}{a:Option Addr}{l:List Rq}(h:aW w a l)(hk:aH F w w')(hn:l ≠ []->∀p,a=some p->¬F p.block)(hr:∀r∈l,r.dB F):aW w' a l:=by
 obtain⟨h1,h2,h3⟩:=h;refine⟨?_,fun r dj=>(h2 r dj).frame (hr r dj) hk,h3⟩
 rcases h1 with h|⟨b,o,ha,hc⟩
 ·exact il h
 ·by_cases he:l=[]
  ·exact il he
  ·refine ir ⟨b,o,ha,fun i hi j hj=>?_⟩;have:=hc i hi j hj;rw[hk.cell (p:=⟨b,o+i*6+j,none⟩) (aq this) (hn he ⟨b,o,none⟩ ha)];exact this
theorem dw.frame{F:Nat->Prop}{w':World}(h:dw b d a w)(hk:aH F w w')(hF:∀k,a.ay b k->¬F k)(hl:d.busy ≠ []->∀p,a.la=some p->¬F p.block)(hr:∀r∈d.busy,r.dB F):dw b d a w' where
 lV:=h.lV
 dv:=h.dv
 a7:=by rw[hk.block b h.lt (hF b (il rfl))];exact h.a7
 jH:=dR h.jH fun g hg=>by
  obtain⟨p,hp,rfl⟩:=bG.1 hg;exact hk.block _ (h.CB p hp) (hF _ (ir ⟨p,hp,rfl⟩))
 fb:=vN h.fb hk hl hr
 AG:=h.AG
 rP:=h.rP
 iF:=h.iF
 jl:=h.jl
 reqs:=h.reqs
 kn:=h.kn
 gQ:=h.gQ
theorem dw.later{w':World}(h:dw b d a w)(hk:bL w w'):dw b d a w' :=
 h.frame (F:=fun _=>False) (aH.cj hk) (fun _ _ e=>e) (fun _ _ _ e=>e) (fun _ _=>⟨fun _ _ _ e=>e,fun _ _ _ e=>e⟩)
end
theorem dL.later{b:Nat}{d d':Rd}{a a':Ra}{w w' eZ:World}(h:dL b d a d' a' w w')(hb:bL w' eZ):dL b d a d' a' w eZ:=⟨h.dev.later hb,h.only.later hb,h.ay,h.uU⟩
theorem dL.pI{b:Nat}{d d':Rd}{a a':Ra}{w w':World}(h:dL b d a d' a' w w'):dL b d a d' a' w w'.drew:=h.later (aX _ _).drew
theorem dL.same{b:Nat}{d:Rd}{a:Ra}{w w':World}(h:dw b d a w)(hb:bL w w'):dL b d a d a w w':=⟨h.later hb,aH.cj hb,fun _ hk=>il hk,fun aE _ hp=>il ⟨aE,hp⟩⟩
theorem Ma(d:Rd)(a:Ra)(l:List Rq)(x:Option Addr)(c:Nat)(h1:d.kept.length=32)(h2:d.now.length=32):(d.cells a).set 65 (.slice x l.length c)=({ d with busy:=l }:Rd).cells { a with la:=x,lc:=c }:=by
 rw[Rd.cells,adn _ _ (by simp[aS,h1,h2])]
 simp[aS,h1,h2,Rd.cells]
theorem L9(d:Rd)(a:Ra)(l:List Pu)(x:Option Addr)(c:Nat)(h1:d.kept.length=32)(h2:d.now.length=32):(d.cells a).set 64 (.slice x l.length c)=({ d with waits:=l }:Rd).cells { a with wa:=x,wc:=c }:=by
 rw[Rd.cells,adn _ _ (by simp[aS,h1,h2])]
 simp[aS,h1,h2,Rd.cells]
theorem JD(d:Rd)(a:Ra)(p:Nat)(s:ByteArray)(h1:d.kept.length=32)(h2:d.now.length=32)(hp:p<32):(d.cells a).set (32+p) (.string s)=({ d with now:=d.now.set p s }:Rd).cells a:=by
 have e1:(dx d.kept).length=32:=by rw[aS,h1]
 rw[Rd.cells,Rd.cells,abp,adn _ _ oM,e1,show 32+p-32=p from oM,af2 _ _ (by rw[aS];omega),Mz,abp]
theorem G8(d:Rd)(a:Ra)(p:Nat)(s:ByteArray)(h1:d.kept.length=32)(hp:p<32):(d.cells a).set p (.string s)=({ d with kept:=d.kept.set p s }:Rd).cells a:=by
 rw[Rd.cells,Rd.cells,abp,af2 _ _ (by rw[aS];omega),Mz,abp]
theorem dw.wG{b:Nat}{d:Rd}{a:Ra}{w w3:World}(h:dw b d a w)(hb:bL w w3)(l:List Rq)(pN:l.length<=2)(x:Option Addr)(c:Nat)(hl:aW w3 x l)(hn:x=none->c=0)(hc:l.length<=c)(hx:l ≠ []->∀p,x=some p->w.heap.size<=p.block)(hr:∀r∈l,r.At w/\r.dB (a.ay b)) :
 dL b d a { d with busy:=l } { a with la:=x,lc:=c } w (w3.setCell ⟨b,65,none⟩ (.slice x l.length c)):=by
 have h3:=h.later hb;have yj:aH (a.ay b) w (w3.setCell ⟨b,65,none⟩ (.slice x l.length c)):=(aH.cj hb).setCell _ (il (il rfl)) _;have aeQ:aH (fun k=>k=b) w3 (w3.setCell ⟨b,65,none⟩ (.slice x l.length c)):=(aH.refl (fun k=>k=b) w3).setCell ⟨b,65,none⟩ (il rfl) _;have re:l ≠ []->∀p,x=some p->¬a.ay b p.block:=fun aE p hp hk=>by
  have:=h.bC _ hk;have:=hx aE p hp
  omega
 refine⟨?_,yj,fun k hk=>il hk,fun aE p hp=>ir (hx aE p hp)⟩;exact {
  lV:=h.lV
  dv:=h.dv
  a7:=by rw[bJ h3.a7,Ma d a l x c h.lV h.dv]
  jH:=dR h3.jH fun g hg=>by
   obtain⟨p,hp,rfl⟩:=bG.1 hg;exact mN _ _ (h.jl p hp)
  fb:=vN hl aeQ (fun aE p hp e=>re aE p hp (il e)) (fun r dj=>⟨fun he ad ha e=>(hr r dj).2.1 he ad ha (il e),fun he ad ha e=>(hr r dj).2.2 he ad ha (il e)⟩)
  AG:=hn
  rP:=hc
  iF:=re
  jl:=h.jl
  reqs:=fun r dj=>(hr r dj).2
  kn:=h.kn
  gQ:=pN }
theorem dw.sd{b:Nat}{d d':Rd}{a:Ra}{w w':World}(h:dw b d a w)(hO:aH (fun k=>k=b) w w')(ua:w'.heap[b]?=some (.cells (d'.cells a).toArray 49 (0,0)))(hw:d'.waits=d.waits)(hb:d'.busy=d.busy)(lV:d'.kept.length=32)(dv:d'.now.length=32):dL b d a d' a w w':=by
 refine⟨?_,hO.mono (fun k hk=>il hk),fun k hk=>il hk,fun aE p hp=>il ⟨by rw[<-hb];exact aE,hp⟩⟩;exact {
  lV:=lV
  dv:=dv
  a7:=ua
  jH:=by
   rw[hw];exact dR h.jH fun g hg=>by
    obtain⟨p,hp,rfl⟩:=bG.1 hg;exact hO.block _ (h.CB p hp) (h.jl p hp)
  fb:=by
   rw[hb];exact vN h.fb hO (fun aE p hp e=>h.iF aE p hp (il e)) (fun r dj=>⟨fun he ad ha e=>(h.reqs r dj).1 he ad ha (il e),fun he ad ha e=>(h.reqs r dj).2 he ad ha (il e)⟩)
  AG:=h.AG
  rP:=by rw[hb];exact h.rP
  iF:=by rw[hb];exact h.iF
  jl:=h.jl
  reqs:=by rw[hb];exact h.reqs
  kn:=by rw[hw];exact h.kn
  gQ:=by rw[hb];exact h.gQ }
theorem dw.Pl{b:Nat}{d:Rd}{a:Ra}{w w2 w3:World}(h:dw b d a w)(hb:bL w w2)(l:List Pu)(hf:∀x∈l,x.pl<32){v:Value}(bu:w3.ownsRow 0 178 2 v l.length (mK l))(hO:aH (fun k=>∃p,a.wa=some p/\k=p.block) w2 w3)(hv:∀g,v.ownBlock=some g->(∃p,a.wa=some p/\g=p.block)\/w2.heap.size<=g) :
 ∃x c,v=.slice x l.length c/\dL b d a { d with waits:=l } { a with wa:=x,wc:=c } w (w3.setCell ⟨b,64,none⟩ v):=by
 obtain⟨x,c,rfl,_⟩:=iA bu;have h2:=h.later hb;have qC:=hb.size;have nb:¬∃p,a.wa=some p/\b=p.block:=fun⟨p,hp,e⟩=>h.jl p hp e.symm
 have au:=h.lt;have e3:w3.heap[b]?=some (.cells (d.cells a).toArray 49 (0,0)):=by
  rw[hO.block b oM nb];exact h2.a7
 have xb:∀p,x=some p->p.block ≠ b:=fun p hp e=>by
  rcases hv p.block (bG.2 ⟨p,hp,rfl⟩) with⟨q,hq,e'⟩|h'
  ·exact h.jl q hq oM
  ·omega
 have aeP:aH (a.ay b) w2 (w3.setCell ⟨b,64,none⟩ (.slice x l.length c)):=(hO.mono (F':=a.ay b) (fun k hk=>ir hk)).setCell ⟨b,64,none⟩ (il (il rfl)) _;have yj:aH (a.ay b) w (w3.setCell ⟨b,64,none⟩ (.slice x l.length c)):=(aH.cj (F:=a.ay b) hb).trans aeP (fun i e=>il e);have mD:∀k,({ a with wa:=x,wc:=c }:Ra).ay b k->a.ay b k\/w.heap.size<=k:=by
  rintro k (rfl|⟨p,hp,rfl⟩)
  ·exact il (il rfl)
  ·rcases hv p.block (bG.2 ⟨p,hp,rfl⟩) with⟨q,hq,e'⟩|h'
   ·exact il (ir ⟨q,hq,e'⟩)
   ·exact ir oM
 refine⟨x,c,rfl,⟨?_,yj,mD,fun aE p hp=>il ⟨aE,hp⟩⟩⟩;have lr:aW (w3.setCell ⟨b,64,none⟩ (.slice x l.length c)) a.la d.busy:=vN h.fb yj h.iF h.reqs;exact {
  lV:=h.lV
  dv:=h.dv
  a7:=by rw[bJ e3,L9 d a l x c h.lV h.dv]
  jH:=dR bu fun g sJ=>by
   obtain⟨p,hp,rfl⟩:=bG.1 sJ;exact mN _ _ (xb p hp)
  fb:=lr
  AG:=h.AG
  rP:=h.rP
  iF:=fun aE p hp hk=>(mD _ hk).elim (h.iF aE p hp) (fun h'=>by
   rcases h.fb.1 with e|⟨b',o',ha,hc⟩
   ·exact aE e
   ·have DK:d.busy.length ≠ 0:=fun e=>aE (aaZ e)
    have:=aq (hc 0 oM 0 oM)
    change a.la=some p at hp
    rw[ha] at hp;simp only[aa4] at hp;subst hp;exact absurd h' (by simp only;omega))
  jl:=xb
  reqs:=fun r dj=>Rq.dB.step (h.fb.2.1 r dj) (h.reqs r dj) mD
  kn:=hf
  gQ:=h.gQ }
theorem kF{P:Program}{ops:Array Oper}{o:Oper}{a:Act}{w:World}{K:Act->World->Prop}{Q:Exit->Act->World->Prop}{E:Prop}
 (hg:o.guard=none) (s x:Operand) (t:TypeId) (qY:o.op=Op.call { callee:=Callee.builtin Builtin.append,args:=#[s,x],argTypes:=#[t,t] })
 (base:Nat) (e:TypeId) (i:TypeInfo) (z:Value) (size bytes:Nat) (ht:P.underlying t=some (.slice e)) (hi:P.info? e=some i) (hz:i.zero=some z)
 (sU:i.size=size) (jh:i.bytes=bytes) (zD:z.cells.size=size) (iV:0<size)
 (v:Value) (n:Nat) (xs:List Value) (hs:a.eval s=v) (bu:w.ownsRow base e size v n xs)
 (ad:Option Addr) (m c:Nat) (news:List Value) (hx:a.eval x=.slice ad m c) (gX:gg w size ad m c news)
 (BK:n+m<=maxLen) (oI:(n+m)*bytes<=140737488355328) (kx:base<=w.heap.size)
 (h:∀v' w',w'.ownsRow base e size v' (n+m) (xs++news)->Below base w w'->K (a.put o.dst v') w') :
 if Region.wanted o (yielded ops a.tmps)=true then Oper.wp P o a w K Q else E:=by
 have hw:Region.wanted o (yielded ops a.tmps)=true:=by simp[Region.wanted,hg]
 rw[aaV hw];obtain⟨h1,h2,h3⟩:=gX
 rcases h3 with⟨rfl,rfl,rfl⟩|⟨R0,rfl,hc⟩
 ·obtain rfl:news=[]:=aaZ (by rw[h1];simp);have hr:=agt (P:=P) w base t o.type e i size ht hi v n xs bu;unfold Oper.wp
  simp[execOp,qY,resolve,invoke,builtin,hs,hx,hr,Result.andThen]
  exact h v w (by simpa using bu) (aX _ _)
 ·obtain⟨v',w',gY,r1,r2,_⟩:=run_append_own (P:=P) w base t o.type e i z size bytes ht hi hz sU jh zD iV v n xs bu R0 m c news h1 hc h2 BK oI kx;unfold Oper.wp
  simp[execOp,qY,resolve,invoke,builtin,hs,hx,gY,Result.andThen]
  exact h v' w' r1 ((aX _ _).grown r2 kx fun k hk=>(bu.lt k hk).1)
theorem F7{w w':World}{B e size n:Nat}{v:Value}{xs:List Value}(h:w.ownsRow B e size v n xs)(hb:bL w w'):w'.ownsRow B e size v n xs:=dR h (fun g hg=>hb.block g (h.lt g hg).2)
structure PB(base:Nat)(w:World)(a:Option Addr)(c:Nat)(l:List Rq):Prop where
 here:aW w a l
 nil:a=none->c=0
 cap:l.length<=c
 new:∀p,a=some p->base<=p.block
theorem oO{w:World}{base:Nat}{v:Value}{l:List Rq}{n:Nat}(h:w.ownsRow base 146 6 v n (a8 l))(eB:∀r∈l,r.At w)(hn:n=l.length)(hb:l.length<=9223372036854775807):∃a c,v=.slice a l.length c/\PB base w a c l:=by
 obtain⟨a,c,hv,h1,h2,_,h3,h4⟩:=rF h eB hn hb;exact⟨a,c,hv,h1,h3,h2,fun p hp=>(h4 p hp).1⟩
theorem DC(l:List Rq)(k:Nat):l.eraseIdx k=l.take k++l.drop (k+1):=ack l k
theorem tz(l:List Rq)(b o c k:Nat)(w:World)(hl:aW w (some ⟨b,o,none⟩) l)(mj:l.length<=100000)(bS:l.length<=c)(hk:k<l.length) :
 Calls prog 102 #[.slice (some ⟨b,o,none⟩) l.length c,i6 k] w fun e w'=>∃a' c',e=.returned (.slice a' (l.eraseIdx k).length c')/\PB w.heap.size w' a' c' (l.eraseIdx k)/\bL w w':=by
 have esp:l=l.take k++[l[k]]++l.drop (k+1):=by rw[abp,afF,afW,ab8]
 have SB:(l.take k).length=k:=by rw[abm];omega
 have YF:(l.drop (k+1)).length=l.length-(k+1):=by rw[ac5]
 obtain⟨M,hM⟩:∃M,M=l.eraseIdx k:=⟨_,rfl⟩
 have hMl:M.length=k+(l.length-(k+1)):=by rw[hM,DC,aaQ,SB,YF]
 have hMa:∀x∈M,x.At w:=fun x hx=>hl.2.1 x (abo (by rw[hM] at hx;exact hx))
 have hMc:a8 (l.take k)++a8 (l.drop (k+1))=a8 M:=by rw[hM,DC,fI]
 have HM:=ae (⟨hMl,hMa,hMc⟩:_/\_/\_);rw[<-hM];clear hM hMl hMa hMc;have R1:gg w 6 (some ⟨b,o,none⟩) k c (a8 (l.take k)):=by
  have:=hl.row (c:=c) [] (l.take k) ([l[k]]++l.drop (k+1)) sM;rw[SB] at this
  simpa using this
 have sW:IntKind.i64.wrap ((k:Int)+1)=(k:Int)+1:=by rw[abr];omega
 have Ek:=fun w=>EB b o l.length c k w hk bS
 obtain⟨iR,zs,vv,zt,zu⟩:=eS uy
 by_cases qW:c=k+1
 ·subst qW;have Tw:l.length=k+1:=oM;have e3:l.drop (k+1)=[]:=aaZ oM;have R2:gg w 6 (some ⟨b,o,none⟩) 0 0 (a8 (l.drop (k+1))):=by
   rw[e3];exact⟨rfl,by simp[a8],ir ⟨_,rfl,fun j u h=>by simp[a8] at h⟩⟩
  have Av:=fun w=>Ji b o l.length k w Tw
  have fp:=HM.out.1;rw[show l.length-(k+1)=0 from oM] at fp;have HN:=ae fp;clear esp SB YF e3 Tw fp;go_enter func102,ntmps102;go_wp2_with fail
  go_region_held3 (fun _=>True) (trivial) (first|(refine kF (by rfl) (.const (.slice none 0 0)) (.tmp 7) 47 (by rfl) w.heap.size 146 iR _ 6 80 underlying47 zs vv zt zu rfl dM (.slice none 0 0) 0 [] (by rfl) (abg _ _ _ _) (some ⟨b,o,none⟩) k (k+1) (a8 (l.take k)) (by simp[Act.eval]) (R1.later bQ) (by unfold maxLen;omega) oM sM ?_;intro v1 wI aO aw;rw[abc,abJ] at aO;have eA:bL w wI:=adh bQ aw)|(refine kF (by rfl) (.tmp 8) (.tmp 12) 47 (by rfl) w.heap.size 146 iR _ 6 80 underlying47 zs vv zt zu rfl dM v1 k (a8 (l.take k)) (by simp[Act.eval]) (by first|exact aO|exact iy aO) (some ⟨b,o,none⟩) 0 0 (a8 (l.drop (k+1))) (by simp[Act.eval]) (R2.later bQ) (by unfold maxLen;omega) oM (by have:=eA.size;(try simp);omega) ?_;intro v2 wJ aT aC;have cY:bL w wJ:=(by first|exact eA.trans aC|exact eA.drew.trans aC)))
  rw[HM.out.2.2] at aT;obtain⟨aJ,cJ,rfl,hN⟩:=oO aT (fun x hx=>(HM.out.2.1 x hx).later cY) HN.out.symm (by rw[HN.out];omega);have bT:=ae cY;clear aO aT aw aC eA cY R1 R2;go_wp2;go_ret;exact⟨aJ,cJ,rfl,hN,bT.out⟩
 ·have R2:gg w 6 (some ⟨b,o+(k+1)*6,none⟩) (l.length-(k+1)) (c-(k+1)) (a8 (l.drop (k+1))):=by
   have:=hl.row (c:=c-(k+1)) (l.take k++[l[k]]) (l.drop (k+1)) [] sM;rw[aaQ,abl,SB,YF] at this;exact this
  have Av:=fun w=>Gs b o l.length c k w hk qW
  clear esp SB YF;go_enter func102,ntmps102;go_wp2_with fail
  go_region_held3 (fun _=>True) (trivial) (first|(refine kF (by rfl) (.const (.slice none 0 0)) (.tmp 7) 47 (by rfl) w.heap.size 146 iR _ 6 80 underlying47 zs vv zt zu rfl dM (.slice none 0 0) 0 [] (by rfl) (abg _ _ _ _) (some ⟨b,o,none⟩) k c (a8 (l.take k)) (by simp[Act.eval]) (R1.later bQ) (by unfold maxLen;omega) oM sM ?_;intro v1 wI aO aw;rw[abc,abJ] at aO;have eA:bL w wI:=adh bQ aw)|(refine kF (by rfl) (.tmp 8) (.tmp 12) 47 (by rfl) w.heap.size 146 iR _ 6 80 underlying47 zs vv zt zu rfl dM v1 k (a8 (l.take k)) (by simp[Act.eval]) (by first|exact aO|exact iy aO) (some ⟨b,o+(k+1)*6,none⟩) (l.length-(k+1)) (c-(k+1)) (a8 (l.drop (k+1))) (by simp[Act.eval]) (R2.later bQ) (by unfold maxLen;omega) oM (by have:=eA.size;(try simp);omega) ?_;intro v2 wJ aT aC;have cY:bL w wJ:=(by first|exact eA.trans aC|exact eA.drew.trans aC)))
  rw[HM.out.2.2] at aT;obtain⟨aJ,cJ,rfl,hN⟩:=oO aT (fun x hx=>(HM.out.2.1 x hx).later cY) HM.out.1.symm (by rw[HM.out.1];omega);have bT:=ae cY;clear aO aT aw aC eA cY R1 R2;go_wp2;go_ret;exact⟨aJ,cJ,rfl,hN,bT.out⟩
def GD(w':World)(b j q:Nat)(v:Value)(r:Rq):Prop:=w'.cell? ⟨b,j,none⟩=some v/\w'.frozen? ⟨b,j,none⟩=false/\b<w'.heap.size/\q<w'.heap.size/\hZ w' q r
theorem GD.later{w w':World}{b j q:Nat}{v:Value}{r:Rq}(h:GD w b j q v r)(hb:bL w w'):GD w' b j q v r :=
 ⟨ea hb h.1,by rw[hb.frozen (p:=⟨b,j,none⟩) h.2.2.1];exact h.2.1,abF h.2.2.1 hb.size,abF h.2.2.2.1 hb.size,h.2.2.2.2.later hb⟩
theorem Ml{w:World}{q c:Nat}(r:Rq)(h:hZ w q r):gg w 6 (some ⟨q,0,none⟩) 1 c (a8 [r]):=by
 refine⟨rfl,tm _,ir ⟨_,rfl,fun k u hk=>?_⟩⟩;obtain⟨i,j,hi,hj,rfl,rfl⟩:=vM hk;have:i=0:=by simp at hi;exact hi
 subst this;rw[vU];obtain⟨h0,h1,h2,h3,h4,h5⟩:=h
 match j,hj with
 |0,_=>exact h0
 |1,_=>exact h1
 |2,_=>exact h2
 |3,_=>exact h3
 |4,_=>exact h4
 |5,_=>exact h5
theorem G9{w:World}{b:Nat}{d:Rd}{a:Ra}(h:dw b d a w):gg w 6 a.la d.busy.length a.lc (a8 d.busy):=xB h.fb h.AG
theorem Jc(b:Nat)(d:Rd)(a:Ra)(r:Rq)(w:World)(h:dw b d a w)(h2:d.busy.length<2)(hr:r.At w)(ho:r.dB (a.ay b)) :
 Calls prog 103 #[.pointer (some ⟨b,0,none⟩),r.val] w fun e w'=>∃a',e=.returned (i6 0)/\a'.wa=a.wa/\dL b d a { d with busy:=d.busy++[r] } a' w w':=by
 obtain⟨iR,zs,vv,zt,zu⟩:=eS uy;have HI:=ae (⟨zs,vv,zt,zu⟩:prog.info? 146=some iR/\_/\_/\_);have c:=h.j8;have hl:=h.lt;have h3:((d.busy.length:Int)==2)=false:=by rw[aaU];omega
 have HD:=ae h;have HR:=ae (⟨hr,ho⟩:r.At w/\r.dB (a.ay b));have fq:=aA w (.cells #[.bool r.wr,i6 r.f,i6 r.m,.slice r.da r.data.length r.dc,.slice r.ta r.tags.length r.tc,i6 r.born] 146);have SV:GD (w.alloc (.cells #[.bool r.wr,i6 r.f,i6 r.m,.slice r.da r.data.length r.dc,.slice r.ta r.tags.length r.tc,i6 r.born] 146)).drew b 65 w.heap.size (.slice a.la d.busy.length a.lc) r:=by
  refine GD.later (w:=w.alloc (.cells #[.bool r.wr,i6 r.f,i6 r.m,.slice r.da r.data.length r.dc,.slice r.ta r.tags.length r.tc,i6 r.born] 146)) ⟨(h.later fq).j8,(h.later fq).fz 65,(h.later fq).lt,sM,mv _ _ _⟩ (aX _ _).drew
 have HS:=ae SV;have et:=ae fq;clear h hr ho zs vv zt zu SV fq;go_enter func103,ntmps103;go_wp2_with fail;refine eL (S:=fun wz=>GD wz b 65 w.heap.size (.slice a.la d.busy.length a.lc) r) (d:=11) kR ?_;refine tK 0 rfl HS.out ?_;(try simp only[Act.put,dP]);refine tK 1 rfl HS.out ?_;(try simp only[Act.put,dP]);refine tK 2 rfl HS.out ?_;(try simp only[Act.put,dP]);refine tK 3 rfl HS.out ?_;(try simp only[Act.put,dP]);refine tK 4 rfl HS.out ?_;(try simp only[Act.put,dP]);refine tK 6 rfl HS.out ?_;(try simp only[Act.put,dP]);refine MG (i:=5) (j:=7) rfl rfl kR ?_ ?_
 ·intro K hK;refine kF (by rfl) (.const (.slice none 0 0)) (.tmp 15) 47 (by rfl) (w.heap.size+1) 146 iR _ 6 80 underlying47 HI.out.1 HI.out.2.1 HI.out.2.2.1 HI.out.2.2.2 rfl dM (.slice none 0 0) 0 [] (by rfl) (abg _ _ _ _) a.la d.busy.length a.lc (a8 d.busy) (by rfl) ((G9 HD.out).later bQ) (by unfold maxLen;omega) oM sM ?_;intro v1 w1 aO aw;rw[abc,abJ] at aO;have eA:Below (w.heap.size+1) (w.alloc (.cells #[.bool r.wr,i6 r.f,i6 r.m,.slice r.da r.data.length r.dc,.slice r.ta r.tags.length r.tc,i6 r.born] 146)).drew w1:=by simpa using aw
  have cf:=ae (HS.out.later (w':=w1) (show Below _ _ _ by simpa using aw));have jL:=ae aO;have aN:=ae eA;clear aO aw eA;refine hK _ _ (fun _=>cf.out) ?_
  (try simp only[Act.put,dP])
  clear hK;refine bn (i:=7) rfl kR ?_;intro K hK;go_simp;refine hK _ _ (fun _=>cf.out.later (aA _ _)) ?_;(try simp only[Act.put,dP]);clear hK;refine bn (i:=8) rfl kR ?_;intro K hK;refine kF (by rfl) (.tmp 16) (.tmp 18) 47 (by rfl) (w.heap.size+1) 146 iR _ 6 80 underlying47 HI.out.1 HI.out.2.1 HI.out.2.2.1 HI.out.2.2.2 rfl dM v1 d.busy.length (a8 d.busy) (by rfl) (jL.out.alloc _) (some ⟨w1.heap.size,0,none⟩) 1 1 (a8 [r]) (by rfl) (Ml r (mv w1 _ r)) (by unfold maxLen;omega) oM (by have:=aN.out.size;simp at this ⊢;omega) ?_;intro v2 w2 aT aC;have cY:Below (w.heap.size+1) (w.alloc (.cells #[.bool r.wr,i6 r.f,i6 r.m,.slice r.da r.data.length r.dc,.slice r.ta r.tags.length r.tc,i6 r.born] 146)).drew w2:=(aN.out.alloc (by have:=aN.out.size;simp at this ⊢;omega) _).trans aC;have ck:=ae (HS.out.later (w':=w2) (show Below _ _ _ by simpa using cY));have Fj:bL w w2:=(et.out.drew).trans (cY.mono oM);rw[<-fI] at aT;obtain⟨aJ,cJ,rfl,hN⟩:=oO (l:=d.busy++[r]) aT (fun x hx=>by rcases abh.1 hx with nc|nc;exact(HD.out.fb.2.1 x nc).later Fj;(rw[abq.1 nc];exact HR.out.1.later Fj)) sM (by simp;omega);have aL:=ae (HD.out.wG Fj (d.busy++[r]) (by simp;omega) aJ cJ hN.here hN.nil hN.cap (fun _ p hp=>by have:=hN.new p hp;omega) (fun x hx=>by rcases abh.1 hx with nc|nc;exact⟨HD.out.fb.2.1 x nc,HD.out.reqs x nc⟩;(rw[abq.1 nc];exact HR.out)));clear aT aC cY Fj hN;refine hK _ _ (fun _=>ck.out) ?_;(try simp only[Act.put,dP]);clear hK;refine bn (i:=9) rfl kR ?_;intro K hK;go_simp;refine hK _ _ (fun _=>ck.out) ?_;(try simp only[Act.put,dP]);clear hK;refine bn (i:=10) rfl kR ?_;intro K hK;go_simp;refine hK _ _ (fun _=>ck.out) ?_;(try simp only[Act.put,dP]);clear hK;obtain⟨x0,x1,x2,x3,-⟩:=id ck.out;refine bn (i:=11) rfl kR ?_;intro K hK;go_simp;refine hK _ _ (fun h=>absurd rfl h) ?_;(try simp only[Act.put,dP]);clear hK;refine fw kR ?_ _;go_wp2;go_ret;exact⟨{ a with la:=aJ,lc:=cJ },rfl,rfl,by have:=aL.out;rw[aaQ,abl] at this;exact this⟩
 ·intro K hK;go_simp;refine hK _ _ (fun _=>HS.out.later (aA _ _)) ?_
  (try simp only[Act.put,dP])
  clear hK;refine bn (i:=5) rfl kR ?_;intro K hK;refine kF (by rfl) (.const (.slice none 0 0)) (.tmp 15) 47 (by rfl) (w.heap.size+2) 146 iR _ 6 80 underlying47 HI.out.1 HI.out.2.1 HI.out.2.2.1 HI.out.2.2.2 rfl dM (.slice none 0 0) 0 [] (by rfl) (abg _ _ _ _) a.la d.busy.length a.lc (a8 d.busy) (by rfl) ((G9 HD.out).later bQ) (by unfold maxLen;omega) oM sM ?_;intro v1 w1 aO aw;rw[abc,abJ] at aO;have BQ:hZ w1 (w.heap.size+1) r:=by
   have:=((mv (w.alloc (.cells #[.bool r.wr,i6 r.f,i6 r.m,.slice r.da r.data.length r.dc,.slice r.ta r.tags.length r.tc,i6 r.born] 146)) 146 r).later (aX _ _).drew).later (w':=w1) (show Below _ _ _ by simpa using aw)
   simpa using this
  have AW:=ae BQ;have eA:Below (w.heap.size+1) (w.alloc (.cells #[.bool r.wr,i6 r.f,i6 r.m,.slice r.da r.data.length r.dc,.slice r.ta r.tags.length r.tc,i6 r.born] 146)).drew w1:=adh ((aX _ _).alloc sM _) (aw.mono oM);have cf:=ae (HS.out.later (w':=w1) (show Below _ _ _ by simpa using eA));have jL:=ae aO;have aN:=ae eA;have kG:=ae aw;clear aO aw eA BQ;refine hK _ _ (fun _=>cf.out) ?_
  (try simp only[Act.put,dP])
  clear hK;refine bn (i:=8) rfl kR ?_;intro K hK;refine kF (by rfl) (.tmp 16) (.tmp 18) 47 (by rfl) (w.heap.size+1) 146 iR _ 6 80 underlying47 HI.out.1 HI.out.2.1 HI.out.2.2.1 HI.out.2.2.2 rfl dM v1 d.busy.length (a8 d.busy) (by rfl) (rm jL.out oM) (some ⟨w.heap.size+1,0,none⟩) 1 1 (a8 [r]) (by rfl) (Ml r AW.out) (by unfold maxLen;omega) oM (by have:=aN.out.size;simp at this ⊢;omega) ?_;intro v2 w2 aT aC;have cY:Below (w.heap.size+1) (w.alloc (.cells #[.bool r.wr,i6 r.f,i6 r.m,.slice r.da r.data.length r.dc,.slice r.ta r.tags.length r.tc,i6 r.born] 146)).drew w2:=aN.out.trans aC;have ck:=ae (HS.out.later (w':=w2) (show Below _ _ _ by simpa using cY));have Fj:bL w w2:=(et.out.drew).trans (cY.mono oM);rw[<-fI] at aT;obtain⟨aJ,cJ,rfl,hN⟩:=oO (l:=d.busy++[r]) aT (fun x hx=>by rcases abh.1 hx with nc|nc;exact(HD.out.fb.2.1 x nc).later Fj;(rw[abq.1 nc];exact HR.out.1.later Fj)) sM (by simp;omega);have aL:=ae (HD.out.wG Fj (d.busy++[r]) (by simp;omega) aJ cJ hN.here hN.nil hN.cap (fun _ p hp=>by have:=hN.new p hp;omega) (fun x hx=>by rcases abh.1 hx with nc|nc;exact⟨HD.out.fb.2.1 x nc,HD.out.reqs x nc⟩;(rw[abq.1 nc];exact HR.out)));clear aT aC cY Fj hN;refine hK _ _ (fun _=>ck.out) ?_;(try simp only[Act.put,dP]);clear hK;refine bn (i:=9) rfl kR ?_;intro K hK;go_simp;refine hK _ _ (fun _=>ck.out) ?_;(try simp only[Act.put,dP]);clear hK;refine bn (i:=10) rfl kR ?_;intro K hK;go_simp;refine hK _ _ (fun _=>ck.out) ?_;(try simp only[Act.put,dP]);clear hK;obtain⟨x0,x1,x2,x3,-⟩:=id ck.out;refine bn (i:=11) rfl kR ?_;intro K hK;go_simp;refine hK _ _ (fun h=>absurd rfl h) ?_;(try simp only[Act.put,dP]);clear hK;refine fw kR ?_ _;go_wp2;go_ret;exact⟨{ a with la:=aJ,lc:=cJ },rfl,rfl,by have:=aL.out;rw[aaQ,abl] at this;exact this⟩
theorem Ns(d:Rd)(a:Ra)(l:List ByteArray)(h1:d.kept.length=32)(h3:l.length=32):splice (d.cells a) 0 (dx l)=({ d with kept:=l }:Rd).cells a:=by
 have e1:(dx d.kept).length=32:=by rw[aS,h1]
 have e3:(dx l).length=32:=by rw[aS,h3]
 rw[splice,Rd.cells,Rd.cells,e3,afv,abJ,abp,afu,acA oM,abJ,e1,show 0+32-32=0 from oM,agD,abp]
theorem QN(d:Rd)(a:Ra)(l:List ByteArray)(h1:d.kept.length=32)(h2:d.now.length=32)(h3:l.length=32):splice (d.cells a) 32 (dx l)=({ d with now:=l }:Rd).cells a:=by
 have e1:(dx d.kept).length=32:=by rw[aS,h1]
 have e2:(dx d.now).length=32:=by rw[aS,h2]
 have e3:(dx l).length=32:=by rw[aS,h3]
 rw[splice,Rd.cells,Rd.cells,e3,abp,abT oM,abv oM,afu,acA oM,abJ,e1,show 32+32-32=32 from oM,afu,acA oM,abJ,e2,afC,agD,abp]
theorem dw.Uz{b:Nat}{d:Rd}{a:Ra}{w:World}(h:dw b d a w):w.rangeAt b 0 (dx d.kept):=fun j v hv=>by
 have hj:j<32:=by
  have:=(acp.1 hv).1;rw[aS,h.lV] at this;exact this
 rw[abc,aR h.a7,Rd.cells,abp,abU (by rw[aS,h.lV];exact hj)];exact hv
theorem dw.Es{b:Nat}{d:Rd}{a:Ra}{w:World}(h:dw b d a w):w.rangeAt b 32 (dx d.now):=fun j v hv=>by
 have hj:j<32:=by
  have:=(acp.1 hv).1;rw[aS,h.dv] at this;exact this
 rw[aR h.a7,Rd.cells,abp,abZ (by rw[aS,h.lV];omega),aS,h.lV,show 32+j-32=j from oM,abU (by rw[aS,h.dv];exact hj)];exact hv
theorem dw.there{b:Nat}{d:Rd}{a:Ra}{w:World}(h:dw b d a w)(o n:Nat)(ho:o+n<=66):w.there b o n:=fun j hj=>by
 refine⟨?_,h.fz _⟩;rw[aR h.a7,aaX (by rw[Rd.lP h.lV h.dv];omega)]
 rfl
theorem dw.aax{b:Nat}{d:Rd}{a:Ra}{w:World}(h:dw b d a w)(l:List ByteArray)(hl:l.length=32):dL b d a { d with kept:=l } a w (w.setCells b 0 (dx l)):=by
 have e:(dx l).length=32:=by rw[aS,hl]
 have a7:=kQ b 49 (dx l) 0 _ _ h.a7 (by rw[e,Rd.lP h.lV h.dv];omega);rw[Ns d a l h.lV hl] at a7;exact h.sd (qs b _ 0 _) a7 rfl rfl hl h.dv
theorem dw.aaz{b:Nat}{d:Rd}{a:Ra}{w:World}(h:dw b d a w)(l:List ByteArray)(hl:l.length=32):dL b d a { d with now:=l } a w (w.setCells b 32 (dx l)):=by
 have e:(dx l).length=32:=by rw[aS,hl]
 have a7:=kQ b 49 (dx l) 32 _ _ h.a7 (by rw[e,Rd.lP h.lV h.dv];omega);rw[QN d a l h.lV h.dv hl] at a7;exact h.sd (qs b _ 32 _) a7 rfl rfl h.lV hl
theorem dw.XO{b:Nat}{d:Rd}{a:Ra}{w:World}(h:dw b d a w){p:Nat}(hp:p<32)(s:ByteArray):dL b d a { d with kept:=d.kept.set p s } a w (w.setCell ⟨b,p,none⟩ (.string s)) :=
 h.sd ((aH.refl (fun k=>k=b) w).setCell ⟨b,p,none⟩ (il rfl) _) (by rw[bJ h.a7,G8 d a p s h.lV hp]) rfl rfl (by simpa using h.lV) h.dv
theorem dw.aay{b:Nat}{d:Rd}{a:Ra}{w:World}(h:dw b d a w){p:Nat}(hp:p<32)(s:ByteArray):dL b d a { d with now:=d.now.set p s } a w (w.setCell ⟨b,32+p,none⟩ (.string s)) :=
 h.sd ((aH.refl (fun k=>k=b) w).setCell ⟨b,32+p,none⟩ (il rfl) _) (by rw[bJ h.a7,JD d a p s h.lV h.dv hp]) rfl rfl h.lV (by simpa using h.dv)
theorem dw.Pf{b:Nat}{d:Rd}{a:Ra}{w:World}(h:dw b d a w):dL b d a { d with waits:=[] } { a with wa:=none,wc:=0 } w (w.setCell ⟨b,64,none⟩ (.slice none 0 0)):=by
 obtain⟨x,c,hv,hs⟩:=h.Pl (aX _ _) [] sM (abg w 0 178 2) (aH.refl _ _) (fun g hg=>by cases hg);simp only[abV] at hv;obtain⟨rfl,_,rfl⟩:=hv;exact hs
theorem dw.adl{b:Nat}{d:Rd}{a:Ra}{w:World}(h:dw b d a w):dL b d a { d with busy:=[] } { a with la:=none,lc:=0 } w (w.setCell ⟨b,65,none⟩ (.slice none 0 0)) :=
 h.wG (aX _ _) [] sM none 0 ⟨il rfl,sM,sM⟩ (fun _=>rfl) sM (fun h=>absurd rfl h) sM
theorem QU(b:Nat)(d:Rd)(a:Ra)(w:World)(h:dw b d a w) :
 Calls prog 146 #[.pointer (some ⟨b,0,none⟩)] w fun e w'=>e=.returned (.tuple #[])/\dL b d a d.flush { a with wa:=none,wc:=0 } w w':=by
 have HD:=ae h;have hl:=h.lt;have HE:Hid ((dx d.now).length=32):=by show _=_;rw[aS];exact h.dv
 have S1:=h.aax d.now h.dv;have S2:=S1.trans S1.dev.Pf;have pG:=S1.dev.pG;have f64:=S1.dev.fz 64;have ck:=ae S2;clear h S1 S2;go_enter func146,ntmps146;go_wp2_with(first|(refine wpList_load_mid rfl 45 (.tmp 5) rfl b 32 rfl (dx d.now) _ HD.out.Es underlying45 rfl (by rw[HE.out];exact rp) ?_)|(refine wpList_store_mid rfl 45 (.tmp 8) (.tmp 6) rfl b 0 (dx d.now).toArray rfl rfl (by rw[acB,HE.out];exact HD.out.there 0 32 oM) (by rw[acB,HE.out];exact rp) (all_oneCell_toArray (xH _)) ?_;simp only));go_end0;exact⟨rfl,ck.out⟩
end
end Go.Proofs.YtlhgjplipgandaaGreatDoor
