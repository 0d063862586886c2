/- Joined texts: Drv1, Drv2, Drv3. -/
import Derived.Maps.Own
import Derived.Maps.OwnOps
import Derived.Maps.OwnSet
import Derived.Test.YtlhgjplipgandaaGreatDoorD15
set_option maxRecDepth 100000
set_option maxHeartbeats 8000000
set_option linter.unusedSimpArgs false
namespace Go.Proofs.YtlhgjplipgandaaGreatDoor
open Go.RowKit Go.BigFrame Go.Maps
attribute [local go_sem] ze.cell ze.frozen
theorem keyI:Keyed Tryz.prog 3:=int_keyed Tryz.underlying3
theorem zeroI(w:World):(zeroValue 3).run Tryz.prog w=.ok (.int .i64 0) w:=by kernel_rfl
structure VAt(v b bm:Nat)(d:Dl)(a:An)(n:Nat)(D:DataW Unit)(w:World):Prop where
 dev:zo b d a w
 blk:w.heap[v]?=some (.cells [.pointer (some ⟨b,0,none⟩),.map (some bm)].toArray 186 (0,0))
 map:w.ownsMap Tryz.prog 3 (plainElem Tryz.prog 3) bm n D
 foot:∀k,a.foot b k→k ≠ v∧k ≠ bm
def za4(b bm:Nat)(a:An)(k:Nat):Prop:=k=bm∨a.foot b k
structure zaT(v b bm:Nat)(d:Dl)(a:An)(n:Nat)(D:DataW Unit)(d':Dl)(a':An)(n':Nat)(D':DataW Unit)(w w':World):Prop where
 at':VAt v b bm d' a' n' D' w'
 only:zh (za4 b bm a) w w'
 foot:∀k,za4 b bm a' k→za4 b bm a k∨w.heap.size≤k
theorem zc4{w w':World}{bm n:Nat}{D:DataW Unit}(h:w.ownsMap Tryz.prog 3 (plainElem Tryz.prog 3) bm n D)(e:w'.heap[bm]?=w.heap[bm]?):w'.ownsMap Tryz.prog 3 (plainElem Tryz.prog 3) bm n D:=by
 obtain⟨es,clock,hb,F,hs,hD⟩:=h;exact⟨es,clock,e.trans hb,F,hs,hD⟩
theorem VAt.mlt{v b bm:Nat}{d:Dl}{a:An}{n:Nat}{D:DataW Unit}{w:World}(h:VAt v b bm d a n D w):bm<w.heap.size:=h.map.lt
theorem VAt.ne{v b bm:Nat}{d:Dl}{a:An}{n:Nat}{D:DataW Unit}{w:World}(h:VAt v b bm d a n D w):v ≠ bm:=by
 rintro rfl;obtain⟨es,clock,hb,_⟩:=h.map;rw[h.blk] at hb
 cases hb
theorem VAt.step{v b bm:Nat}{d d':Dl}{a a':An}{n:Nat}{D:DataW Unit}{w w':World}(h:VAt v b bm d a n D w)(hs:zw b d a d' a' w w'):zaT v b bm d a n D d' a' n D w w' where
 at':=⟨hs.dev,by rw[hs.only.block v (zi h.blk) (fun e=>(h.foot v e).1 rfl)];exact h.blk,zc4 h.map (hs.only.block bm h.mlt (fun e=>(h.foot bm e).2 rfl)),fun k hk=>(hs.foot k hk).elim (h.foot k) (fun h'=>by have:=zi h.blk;have:=h.mlt;omega)⟩
 only:=hs.only.mono (fun _ e=>Or.inr e)
 foot:=fun k hk=>hk.elim (fun e=>Or.inl (Or.inl e)) (fun e=>(hs.foot k e).elim (fun h'=>Or.inl (Or.inr h')) Or.inr)
theorem zaT.trans{v b bm:Nat}{d d' d2:Dl}{a a' a2:An}{n n' n2:Nat}{D D' D2:DataW Unit}{w w' w2:World}(h:zaT v b bm d a n D d' a' n' D' w w')(k:zaT v b bm d' a' n' D' d2 a2 n2 D2 w' w2):zaT v b bm d a n D d2 a2 n2 D2 w w2 :=
 ⟨k.at',h.only.trans k.only h.foot,fun i hi=>(k.foot i hi).elim (h.foot i) (fun h'=>Or.inr (Nat.le_trans h.only.size h'))⟩
theorem VAt.later{v b bm:Nat}{d:Dl}{a:An}{n:Nat}{D:DataW Unit}{w w':World}(h:VAt v b bm d a n D w)(hb:Below w.heap.size w w'):VAt v b bm d a n D w':=(h.step (zw.same h.dev hb)).at'
theorem zaT.later{v b bm:Nat}{d d':Dl}{a a':An}{n n':Nat}{D D':DataW Unit}{w w' w2:World}(h:zaT v b bm d a n D d' a' n' D' w w')(hb:Below w'.heap.size w' w2):zaT v b bm d a n D d' a' n' D' w w2:=h.trans (h.at'.step (zw.same h.at'.dev hb))
theorem VAt.turn{v b bm:Nat}{d:Dl}{a:An}{n n':Nat}{D D':DataW Unit}{w w':World}(h:VAt v b bm d a n D w)(ho:zh (fun k=>k=bm) w w')(hm:w'.ownsMap Tryz.prog 3 (plainElem Tryz.prog 3) bm n' D')(hr:∀r∈d.busy,r.Off (fun k=>k=bm)):zaT v b bm d a n D d a n' D' w w' where
 at':=⟨h.dev.frame ho (fun k hk=>(h.foot k hk).2) hr,by rw[ho.block v (zi h.blk) h.ne];exact h.blk,hm,h.foot⟩
 only:=ho.mono (fun _ e=>Or.inl e)
 foot:=fun _ hk=>Or.inl hk
theorem zaY{w w':World}{bm:Nat}(h:w.grownBy w' (some bm)):zh (fun k=>k=bm) w w':=⟨h.os,h.tape,h.output,h.size,fun k hk hn=>h.block k hk (fun e=>hn (Option.some.inj e))⟩
theorem VAt.cells{v b bm:Nat}{d:Dl}{a:An}{n:Nat}{D:DataW Unit}{w:World}(h:VAt v b bm d a n D w):w.cell? ⟨v,0,none⟩=some (.pointer (some ⟨b,0,none⟩))∧w.cell? ⟨v,1,none⟩=some (.map (some bm)):=⟨by rw[zk h.blk];rfl,by rw[zk h.blk];rfl⟩
theorem zo0(b:Nat)(d:Dl)(a:An)(w:World)(h:zo b d a w):Calls Tryz.prog 77 #[.pointer (some ⟨b,0,none⟩)] w fun e w'=>e=.returned (.pointer (some ⟨w.heap.size+1,0,none⟩))∧VAt (w.heap.size+1) b w.heap.size d a 0 (.map []) w'∧Below w.heap.size w w':=by
 have HD:=za h;clear h;have hmm:=@run_makeMap Tryz.prog;go_enter Tryz.func77,Tryz.ntmps77;go_wp2;go_ret;have hb:=zbN w (.map #[] 0) (.cells [.pointer (some ⟨b,0,none⟩),.map (some w.heap.size)].toArray 186);refine⟨rfl,⟨HD.out.later hb,?_,(World.ownsMap_made _ _ _ _).alloc _,fun k hk=>?_⟩,hb⟩
 ·have:=heap_alloc_new (w.alloc (.map #[] 0)) (.cells [.pointer (some ⟨b,0,none⟩),.map (some w.heap.size)].toArray 186);rw[show(w.alloc (.map #[] 0)).heap.size=w.heap.size+1 by simp] at this;exact this
 ·have:=HD.out.footLt k hk;omega
theorem zoH(v b bm:Nat)(d:Dl)(a:An)(n:Nat)(D:DataW Unit)(w:World)(h:VAt v b bm d a n D w)(h2:d.busy.length<2):Calls Tryz.prog 83 #[.pointer (some ⟨v,0,none⟩)] w fun e w'=>e=.returned (.bool true)∧Below w.heap.size w w':=by
 obtain⟨c0,c1⟩:=h.cells;have HV:=za h;have h2':(d.busy.length:Int)<2:=by omega
 clear h c1;go_enter Tryz.func83,Tryz.ntmps83;go_wp2_with fail;refine(zeT b d a _ HV.out.dev).mono ?_;rintro e w1 ⟨xa,xc,rfl,-,-,hb⟩;go_wp2;go_ret;exact⟨rfl,hb⟩
theorem zny(v b bm:Nat)(d:Dl)(a:An)(n:Nat)(D:DataW Unit)(r:Rq)(w:World)(h:VAt v b bm d a n D w)(h2:d.busy.length<2)(hr:r.At w)(ho:r.Off (a.foot b)) :
 Calls Tryz.prog 86 #[.pointer (some ⟨v,0,none⟩),r.val] w fun e w'=>∃a',e=.returned .nilIface∧zaT v b bm d a n D { d with busy:=d.busy++[r] } a' n D w w':=by
 obtain⟨c0,c1⟩:=h.cells;have HV:=za h;have HR:=za hr;have HO:=za ho;have hv:=zi h.blk;clear h c1 hr ho;have hb0:=za (zs w (.cells #[.bool r.wr,.int .i64 r.f,.int .i64 r.m,.slice r.da r.data.length r.dc,.slice r.ta r.tags.length r.tc,.int .i64 r.born] 146));go_enter Tryz.func86,Tryz.ntmps86;go_wp2_with fail;have hS0:(w.alloc (.cells #[.bool r.wr,.int .i64 r.f,.int .i64 r.m,.slice r.da r.data.length r.dc,.slice r.ta r.tags.length r.tc,.int .i64 r.born] 146)).drew.cell? ⟨v,0,none⟩=some (.pointer (some ⟨b,0,none⟩))∧zaL (w.alloc (.cells #[.bool r.wr,.int .i64 r.f,.int .i64 r.m,.slice r.da r.data.length r.dc,.slice r.ta r.tags.length r.tc,.int .i64 r.born] 146)).drew w.heap.size r:=⟨(hb0.out.drew.cell (p:=⟨v,0,none⟩) hv).trans c0,(zdL w 146 r).later (Below.refl _ _).drew⟩
 have HS:=za hS0;have eg:∀args w,Sem.run Tryz.prog (callFunc 132 args) w=.ok (.enter 132 args) w:=by intro args w;go_simp
 clear hS0;refine zbH (S:=fun wz=>wz.cell? ⟨v,0,none⟩=some (.pointer (some ⟨b,0,none⟩))∧zaL wz w.heap.size r) (d:=6) (by kernel_rfl) ?_;refine tk 0 ?_ rfl (Or.inl ⟨by rfl,?_⟩) HS.out ?_;rotate_left;(focus(intro w0 hSw;obtain⟨s6,s0,s1,s2,s3,s4,s5⟩:=hSw;go_simp;(try with_reducible rfl)));(try simp only[Act.put,dP])
 refine tk 1 ?_ rfl (Or.inl ⟨by rfl,?_⟩) HS.out ?_;rotate_left;(focus(intro w0 hSw;obtain⟨s6,s0,s1,s2,s3,s4,s5⟩:=hSw;go_simp;(try with_reducible rfl)));(try simp only[Act.put,dP])
 refine tk 2 ?_ rfl (Or.inl ⟨by rfl,?_⟩) HS.out ?_;rotate_left;(focus(intro w0 hSw;obtain⟨s6,s0,s1,s2,s3,s4,s5⟩:=hSw;go_simp;(try with_reducible rfl)));(try simp only[Act.put,dP])
 refine tk 3 ?_ rfl (Or.inl ⟨by rfl,?_⟩) HS.out ?_;rotate_left;(focus(intro w0 hSw;obtain⟨s6,s0,s1,s2,s3,s4,s5⟩:=hSw;go_simp;(try with_reducible rfl)));(try simp only[Act.put,dP])
 refine tk 4 ?_ rfl (Or.inl ⟨by rfl,?_⟩) HS.out ?_;rotate_left;(focus(intro w0 hSw;obtain⟨s6,s0,s1,s2,s3,s4,s5⟩:=hSw;go_simp;(try with_reducible rfl)));(try simp only[Act.put,dP])
 refine zN (i:=5) rfl (by kernel_rfl) ?_;intro K hK;refine zdH rfl 132 8 9 42 146 rfl eg (.pointer (some ⟨b,0,none⟩)) r.val rfl rfl .nilIface (fun w'=>∃a',zw b d a { d with busy:=d.busy++[r] } a' w w'∧zaL w' w.heap.size r) ((zjA b d a r _ (HV.out.dev.later hb0.out.drew) h2 (HR.out.later hb0.out.drew) HO.out).mono ?_) ?_
 ·rintro e w1 ⟨a',he,hs⟩;exact⟨he,a',(zw.same HV.out.dev hb0.out.drew).trans hs,HS.out.2.only hs.only (fun e=>by have:=HV.out.dev.footLt _ e;omega)⟩
 rintro w1 ⟨a',hs,hbx⟩;have HVS:=za (HV.out.step hs);have hS1:w1.cell? ⟨v,0,none⟩=some (.pointer (some ⟨b,0,none⟩)):=HVS.out.at'.cells.1;refine hK _ _ (fun _=>⟨hS1,hbx⟩) ?_
 (try simp only[Act.put,dP])
 clear hK;refine zN (i:=6) rfl (by kernel_rfl) ?_;intro K hK;go_simp;refine hK _ _ (fun h=>absurd rfl h) ?_
 (try simp only[Act.put,dP])
 clear hK;refine zbX (by kernel_rfl) ?_ _;go_wp2;go_ret;exact⟨a',rfl,HVS.out⟩
theorem zmw(r:Rq)(w:World)(hr:r.At w)(h1:1≤r.tags.length):Calls Tryz.prog 134 #[r.val] w fun e w'=>e=.returned (.int .i64 (r.tags.getD 0 0))∧Below w.heap.size w w':=by
 obtain⟨wr,f,m,da,dc,data,ta,tc,tags,born⟩:=r
 rcases hr.tags with h|⟨tb,tof,h,hc⟩
 ·simp only at h h1;rw[h] at h1;simp at h1
 simp only at h h1 hc;subst h;have c0:=hc 0 (by omega);have lt:=zg c0;obtain⟨x,hx⟩:∃x,tags.getD 0 0=x:=⟨_,rfl⟩
 rw[hx] at c0;simp only[Nat.add_zero] at c0;have h1':¬(tags.length:Int)=0:=by omega
 have h2':(0:Int)<(tags.length:Int):=by omega
 show Calls Tryz.prog 134 #[(Rq.mk wr f m da dc data (some ⟨tb,tof,none⟩) tc tags born).val] w fun e w'=>e=.returned (.int .i64 (tags.getD 0 0))∧Below w.heap.size w w'
 rw[hx];clear hr hc hx;go_enter Tryz.func134,Tryz.ntmps134;go_wp2;go_ret;exact⟨rfl,by(with_reducible repeat first|exact Below.refl _ _|refine zc ?_ _|refine zd ?_|refine bset' ?_ (by omega) _|refine zb ?_ (by assumption))⟩
def zbe(w:World)(q:Nat)(r:Rq)(xa:Option Addr)(n xc:Nat)(er:Int):Prop:=zcV w q r xa n xc er∧w.there q 0 8∧q<w.heap.size
theorem zlZ{F:Nat→Prop}{w w':World}{q:Nat}(h:w.there q 0 8)(hl:q<w.heap.size)(hO:zh F w w')(hn:¬F q):w'.there q 0 8:=fun j hj=>by
 rw[hO.cell (p:=⟨q,0+j,none⟩) hl hn,hO.frozen (p:=⟨q,0+j,none⟩) hl hn];exact h j hj
theorem zbe.only{F:Nat→Prop}{w w':World}{q n xc:Nat}{r:Rq}{xa:Option Addr}{er:Int}(h:zbe w q r xa n xc er)(hO:zh F w w')(hn:¬F q):zbe w' q r xa n xc er:=by
 obtain⟨⟨h0,h1,h2,h3,h4,h5,h6,h7⟩,hf,hl⟩:=h;exact⟨⟨(hO.cell (p:=⟨q,0,none⟩) hl hn).trans h0,(hO.cell (p:=⟨q,1,none⟩) hl hn).trans h1,(hO.cell (p:=⟨q,2,none⟩) hl hn).trans h2,(hO.cell (p:=⟨q,3,none⟩) hl hn).trans h3,(hO.cell (p:=⟨q,4,none⟩) hl hn).trans h4,(hO.cell (p:=⟨q,5,none⟩) hl hn).trans h5,(hO.cell (p:=⟨q,6,none⟩) hl hn).trans h6,(hO.cell (p:=⟨q,7,none⟩) hl hn).trans h7⟩,zlZ hf hl hO hn,Nat.lt_of_lt_of_le hl hO.size⟩
theorem zbe.later{w w':World}{q n xc:Nat}{r:Rq}{xa:Option Addr}{er:Int}(h:zbe w q r xa n xc er)(hb:Below w.heap.size w w'):zbe w' q r xa n xc er:=h.only (F:=fun _=>False) (zh.of_below hb) (fun e=>e)
theorem zbE{w:World}{q:Nat}(h:zdi w q):w.there q 0 8:=by
 obtain⟨⟨z0,z1,z2,z3,z4,z5,z6,z7⟩,zf,zl⟩:=h;intro j hj;refine⟨?_,zf _⟩
 match j,hj with
 |0,_=>simp[z0]
 |1,_=>simp[z1]
 |2,_=>simp[z2]
 |3,_=>simp[z3]
 |4,_=>simp[z4]
 |5,_=>simp[z5]
 |6,_=>simp[z6]
 |7,_=>simp[z7]
def zgw(w:World)(q:Nat)(v0 v1 v2 v3 v4 v5 v6 v7:Value):World:=(((((((w.setCell ⟨q,0,none⟩ v0).setCell ⟨q,1,none⟩ v1).setCell ⟨q,2,none⟩ v2).setCell ⟨q,3,none⟩ v3).setCell ⟨q,4,none⟩ v4).setCell ⟨q,5,none⟩ v5).setCell ⟨q,6,none⟩ v6).setCell ⟨q,7,none⟩ v7
theorem zbd(w:World)(q:Nat)(v0 v1 v2 v3 v4 v5 v6 v7:Value):zh (fun k=>k=q) w (zgw w q v0 v1 v2 v3 v4 v5 v6 v7) :=
 ((((((((zh.refl (fun k=>k=q) w).setCell ⟨q,0,none⟩ (Or.inl rfl) v0).setCell ⟨q,1,none⟩ (Or.inl rfl) v1).setCell ⟨q,2,none⟩ (Or.inl rfl) v2).setCell ⟨q,3,none⟩ (Or.inl rfl) v3).setCell ⟨q,4,none⟩ (Or.inl rfl) v4).setCell ⟨q,5,none⟩ (Or.inl rfl) v5).setCell ⟨q,6,none⟩ (Or.inl rfl) v6).setCell ⟨q,7,none⟩ (Or.inl rfl) v7
theorem zcr{w:World}{q n xc:Nat}{r:Rq}{xa:Option Addr}{er:Int}(h:w.there q 0 8)(hl:q<w.heap.size):zbe (zgw w q (.bool r.wr) (.int .i64 r.f) (.int .i64 r.m) (.slice r.da r.data.length r.dc) (.slice r.ta r.tags.length r.tc) (.int .i64 r.born) (.slice xa n xc) (.int .i64 er)) q r xa n xc er:=by
 have hs:=World.rangeAt_setCells_same w q 0 [.bool r.wr,.int .i64 r.f,.int .i64 r.m,.slice r.da r.data.length r.dc,.slice r.ta r.tags.length r.tc,.int .i64 r.born,.slice xa n xc,.int .i64 er] h;exact⟨⟨hs 0 _ rfl,hs 1 _ rfl,hs 2 _ rfl,hs 3 _ rfl,hs 4 _ rfl,hs 5 _ rfl,hs 6 _ rfl,hs 7 _ rfl⟩,World.there_setCells h q 0 [.bool r.wr,.int .i64 r.f,.int .i64 r.m,.slice r.da r.data.length r.dc,.slice r.ta r.tags.length r.tc,.int .i64 r.born,.slice xa n xc,.int .i64 er],by simpa [zgw] using hl⟩
theorem zaQ{ops:Array Oper}{rest:List Oper}{op:Oper}{a:Act}{w:World}{Q:Exit→Act→World→Prop}(hgd:op.guard=none)(x y:Operand)(ho:op.op=.store 151 x y)
 (q:Nat) (r:Rq) (xa:Option Addr) (n xc:Nat) (er:Int) (hx:a.eval x=.pointer (some ⟨q,0,none⟩)) (hy:a.eval y=zaC r xa n xc er) (ht:w.there q 0 8)
 (R:World→Prop) (hR:R (zgw w q (.bool r.wr) (.int .i64 r.f) (.int .i64 r.m) (.slice r.da r.data.length r.dc) (.slice r.ta r.tags.length r.tc) (.int .i64 r.born) (.slice xa n xc) (.int .i64 er)))
 (h:∀w',R w'→wpList Tryz.prog ops Q rest (a.put op.dst undef) w'):wpList Tryz.prog ops Q (op::rest) a w :=
 wpList_store_mid hgd 151 x y ho q 0 _ hx hy ht (by kernel_rfl) (by simp[Value.oneCell']) (h _ hR)
def rq0:Rq:=⟨false,0,0,none,0,[],none,0,[],0⟩
theorem zf3{v b bm:Nat}{d d':Dl}{a a':An}{n n':Nat}{D D':DataW Unit}{w w':World}(h:zaT v b bm d a n D d' a' n' D' w w')(q:Nat)(hq:w.heap.size≤q)(hq':¬za4 b bm a' q)(hqv:q ≠ v)(hr:∀r∈d'.busy,r.Off (fun k=>k=q))(v0 v1 v2 v3 v4 v5 v6 v7:Value):zaT v b bm d a n D d' a' n' D' w (zgw w' q v0 v1 v2 v3 v4 v5 v6 v7) where
 at':=⟨h.at'.dev.frame (zbd w' q _ _ _ _ _ _ _ _) (fun k hk e=>hq' (by rw[←e];exact Or.inr hk)) hr,by rw[(zbd w' q v0 v1 v2 v3 v4 v5 v6 v7).block v (zi h.at'.blk) (Ne.symm hqv)];exact h.at'.blk,zc4 h.at'.map ((zbd w' q v0 v1 v2 v3 v4 v5 v6 v7).block bm h.at'.mlt (fun e=>hq' (Or.inl e.symm))),h.at'.foot⟩
 only:=h.only.trans (zbd w' q v0 v1 v2 v3 v4 v5 v6 v7) (fun i e=>Or.inr (by subst e;exact hq))
 foot:=h.foot
theorem zfp(r:Rq)(tg:Int)(ht:r.tags.getD 0 0=tg)(w:World)(hr:r.At w)(h1:1≤r.tags.length):Calls Tryz.prog 134 #[r.val] w fun e w'=>e=.returned (.int .i64 tg)∧Below w.heap.size w w':=by
 rw[←ht];exact zmw r w hr h1
theorem zem{b:Nat}{d d':Dl}{a a':An}{w w':World}{o:Obj}(hs:zw b d a d' a' (w.alloc o) w')(hl:∀k,a.foot b k→k<w.heap.size):¬a'.foot b w.heap.size:=by
 intro e
 rcases hs.foot _ e with e|e
 ·have:=hl _ e;omega
 ·rw[World.size_alloc] at e;omega
theorem zhN{ops:Array Oper}{o:Oper}{a:Act}{w:World}{K:Act→World→Prop}{Q:Exit→Act→World→Prop}{E:Prop}(hg:o.guard=none)(x y:Operand)(ho:o.op=.store 151 x y)
 (q:Nat) (r:Rq) (xa:Option Addr) (n xc:Nat) (er:Int) (hx:a.eval x=.pointer (some ⟨q,0,none⟩)) (hy:a.eval y=zaC r xa n xc er) (ht:w.there q 0 8)
 (h:K (a.put o.dst undef) (zgw w q (.bool r.wr) (.int .i64 r.f) (.int .i64 r.m) (.slice r.da r.data.length r.dc) (.slice r.ta r.tags.length r.tc) (.int .i64 r.born) (.slice xa n xc) (.int .i64 er))) :
 if Region.wanted o (yielded ops a.tmps)=true then Oper.wp Tryz.prog o a w K Q else E:=by
 have hw:Region.wanted o (yielded ops a.tmps)=true:=by simp[Region.wanted,hg]
 rw[if_pos hw];exact wp_store_mid 151 x y ho q 0 _ hx hy ht (by kernel_rfl) (by simp[Value.oneCell']) h
end Go.Proofs.YtlhgjplipgandaaGreatDoor
namespace Go.Proofs.YtlhgjplipgandaaGreatDoor
open Go.RowKit Go.BigFrame
attribute [local go_sem] ze.cell ze.frozen
theorem za2.other{b:Nat}{d d':Rd}{a a':Ra}{w w' w'':World}{q:Nat}(h:za2 b d a d' a' w w')(hO:zh (fun k=>k=q) w' w'')(hq:w.heap.size≤q)(nf:¬a'.foot b q)(nl:d'.busy ≠ []→∀p,a'.la=some p→p.block ≠ q)(nr:∀r∈d'.busy,r.Off (fun k=>k=q)):za2 b d a d' a' w w'' :=
 ⟨h.dev.frame hO (fun k hk e=>nf (e▸hk)) nl nr,h.only.trans hO (fun i e=>Or.inr (by subst e;exact hq)),h.foot,h.lan⟩
structure Out(b:Nat)(d:Rd)(a:Ra)(k:Nat)(r:Rq)(a':Ra)(w w4:World):Prop where
 step:za2 b d a { d with busy:=d.busy.eraseIdx k } a' w w4
 zero:zdi w4 w.heap.size
 box:zaL w4 (w.heap.size+1) r
 nf:∀q,w.heap.size≤q→¬a'.foot b q
 nl:∀p,a'.la=some p→w.heap.size+2≤p.block
 at':r.At w4
 off:r.Off (a'.foot b)
 same:a'.foot b=a.foot b
theorem Out.nr{b:Nat}{d:Rd}{a:Ra}{k:Nat}{r:Rq}{a':Ra}{w w4:World}(_h:Out b d a k r a' w w4)(hd:zay b d a w)(q:Nat)(hq:w.heap.size≤q):∀x∈d.busy.eraseIdx k,x.Off (fun j=>j=q):=fun x hx =>
 zcF (hd.lrow.2.1 x (List.mem_of_mem_eraseIdx hx)) (fun j e=>by omega)
def LS(w:World)(q b j:Nat)(v:Value)(da:Option Addr)(n dc db o:Nat)(s:ByteArray):Prop:=w.cell? ⟨q,3,none⟩=some (.slice da n dc)∧w.cell? ⟨db,o,none⟩=some (.string s)∧b<w.heap.size∧w.cell? ⟨b,j,none⟩=some v∧w.frozen? ⟨b,j,none⟩=false
theorem LS.later{w w':World}{q b j:Nat}{v:Value}{da:Option Addr}{n dc db o:Nat}{s:ByteArray}(h:LS w q b j v da n dc db o s)(hb:Below w.heap.size w w'):LS w' q b j v da n dc db o s :=
 ⟨zT hb h.1,zT hb h.2.1,Nat.lt_of_lt_of_le h.2.2.1 hb.size,zT hb h.2.2.2.1,by rw[hb.frozen (p:=⟨b,j,none⟩) h.2.2.1];exact h.2.2.2.2⟩
def LR(w:World)(q b p:Nat)(v:Value)(s:ByteArray):Prop:=w.cell? ⟨q,6,none⟩=some v∧w.cell? ⟨b,32+p,none⟩=some (.string s)∧b<w.heap.size∧w.frozen? ⟨q,6,none⟩=false
theorem LR.below{w w':World}{q b p B:Nat}{v:Value}{s:ByteArray}(h:LR w q b p v s)(hb:Below B w w')(hq:q<B)(hb':b<B):LR w' q b p v s :=
 ⟨(hb.cell (p:=⟨q,6,none⟩) hq).trans h.1,(hb.cell (p:=⟨b,32+p,none⟩) hb').trans h.2.1,Nat.lt_of_lt_of_le h.2.2.1 hb.size,(hb.frozen (p:=⟨q,6,none⟩) hq).trans h.2.2.2⟩
structure Duo(w:World)(b1:Nat)(d:Dl)(a:An)(b2:Nat)(m:Rd)(ra:Ra)(wr:World):Prop where
 c:zo b1 d a wr
 r:zay b2 m ra wr
 apart:∀k,a.foot b1 k→ra.foot b2 k→False
 fc:∀k,a.foot b1 k→w.heap.size≤k
 fr:∀k,ra.foot b2 k→w.heap.size≤k
 lf:m.busy ≠ []→∀p,ra.la=some p→¬a.foot b1 p.block
 same:d.busy=m.busy
 at':∀r∈d.busy,r.At w∧zv r
 tied:zbu d m
 bel:Below w.heap.size w wr
structure zed(w:World)(b1:Nat)(d:Dl)(a:An)(b2:Nat)(m:Rd)(ra:Ra)(wr:World):Prop where
 c:zo b1 d a wr
 r:zay b2 m ra wr
 apart:∀k,a.foot b1 k→ra.foot b2 k→False
 fc:∀k,a.foot b1 k→w.heap.size≤k
 fr:∀k,ra.foot b2 k→w.heap.size≤k
 lf:m.busy ≠ []→∀p,ra.la=some p→¬a.foot b1 p.block
 at1:∀r∈d.busy,r.At w
 at2:∀r∈m.busy,r.At w
 bel:Below w.heap.size w wr
theorem zay.llt{b:Nat}{d:Rd}{a:Ra}{w:World}(h:zay b d a w)(hne:d.busy ≠ []){p:Addr}(hp:a.la=some p):p.block<w.heap.size:=by
 rcases h.lrow.1 with e|⟨b',o',ha,hc⟩
 ·exact absurd e hne
 ·have hp':d.busy.length ≠ 0:=fun e=>hne (List.eq_nil_of_length_eq_zero e)
  have:=zg (hc 0 (by omega) 0 (by omega));rw[ha] at hp;simp only[Option.some.injEq] at hp;subst hp;exact this
theorem Duo.half{w wr:World}{b1 b2:Nat}{d:Dl}{a:An}{m:Rd}{ra:Ra}(h:Duo w b1 d a b2 m ra wr):zed w b1 d a b2 m ra wr:=⟨h.c,h.r,h.apart,h.fc,h.fr,h.lf,fun r hr=>(h.at' r hr).1,fun r hr=>(h.at' r (by rw[h.same];exact hr)).1,h.bel⟩
theorem zed.stepC{w wr wr':World}{b1 b2:Nat}{d d':Dl}{a a':An}{m:Rd}{ra:Ra}(h:zed w b1 d a b2 m ra wr)(hs:zw b1 d a d' a' wr wr')(hr:∀r∈d'.busy,r.At w):zed w b1 d' a' b2 m ra wr' where
 c:=hs.dev
 r:=h.r.frame hs.only (fun k hk hc=>h.apart k hc hk) h.lf (fun r hr'=>zcF (h.at2 r hr') h.fc)
 apart:=fun k hc hd=>(hs.foot k hc).elim (fun hc'=>h.apart k hc' hd) (fun h'=>by have:=h.r.footLt k hd;omega)
 fc:=fun k hk=>(hs.foot k hk).elim (h.fc k) (fun h'=>Nat.le_trans h.bel.size h')
 fr:=h.fr
 lf:=fun hne p hp hk=>(hs.foot _ hk).elim (h.lf hne p hp) (fun h'=>by have:=h.r.llt hne hp;omega)
 at1:=hr
 at2:=h.at2
 bel:=h.bel.trans (hs.only.below h.bel.size h.fc)
theorem zed.later{w wr wr':World}{b1 b2:Nat}{d:Dl}{a:An}{m:Rd}{ra:Ra}(h:zed w b1 d a b2 m ra wr)(hb:Below wr.heap.size wr wr'):zed w b1 d a b2 m ra wr':=h.stepC (zw.same h.c hb) h.at1
theorem zed.duo{w wr:World}{b1 b2:Nat}{d:Dl}{a:An}{m:Rd}{ra:Ra}(h:zed w b1 d a b2 m ra wr)(hs:d.busy=m.busy)(hg:∀r∈d.busy,zv r)(ht:zbu d m):Duo w b1 d a b2 m ra wr:=⟨h.c,h.r,h.apart,h.fc,h.fr,h.lf,hs,fun r hr=>⟨h.at1 r hr,hg r hr⟩,ht,h.bel⟩
theorem Duo.later{w wr wr':World}{b1 b2:Nat}{d:Dl}{a:An}{m:Rd}{ra:Ra}(h:Duo w b1 d a b2 m ra wr)(hb:Below wr.heap.size wr wr'):Duo w b1 d a b2 m ra wr':=(h.half.later hb).duo h.same (fun r hr=>(h.at' r hr).2) h.tied
def m0:Rd:=⟨List.replicate 32 ByteArray.empty,List.replicate 32 ByteArray.empty,[],[]⟩
end Go.Proofs.YtlhgjplipgandaaGreatDoor
