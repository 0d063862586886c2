/- Joined texts: RDrv2, UntilN, RDrv3. -/
import Derived.Deep.Cut
import Derived.Deep.MidRow
import Derived.Test.YtlhgjplipgandaaGreatB22
set_option maxRecDepth 100000
set_option maxHeartbeats 8000000
set_option linter.unusedSimpArgs false
namespace Go.Proofs.YtlhgjplipgandaaGreat
open Go.RowKit Go.BigFrame Go.Maps
attribute [local go_sem] ze.cell ze.frozen
theorem za6.onlyR{F:Nat→Prop}{w w':World}{q n xc:Nat}{r:Rq}{xa:Option Addr}{er:Int}(h:za6 w q r xa n xc er)(hO:zo F w w')(hn:¬F q):za6 w' q r xa n xc er:=by
 obtain⟨h0,h1,h2,h3,h4,h5,h6,h7⟩:=h;have hl:=zg h0;exact⟨(hO.cell (p:=⟨q,0,none⟩) hl hn).trans h0,(hO.cell (p:=⟨q,1,none⟩) hl hn).trans h1,(hO.cell (p:=⟨q,2,none⟩) hl hn).trans h2,(hO.cell (p:=⟨q,3,none⟩) hl hn).trans h3,(hO.cell (p:=⟨q,4,none⟩) hl hn).trans h4,(hO.cell (p:=⟨q,5,none⟩) hl hn).trans h5,(hO.cell (p:=⟨q,6,none⟩) hl hn).trans h6,(hO.cell (p:=⟨q,7,none⟩) hl hn).trans h7⟩
theorem rv_ok(v b bm:Nat)(m:Rd)(a:Ra)(n:Nat)(D:DataW Unit)(k:Nat)(r:Rq)(tg:Int)(w:World)(h:zbF v b bm m a n D w)(hr:zg1 bm m k r tg)(gr:zA r)(hW4:m.waits.length≤1000000)(hn:n≤1000000000) :
  Calls Tryz.prog 65 #[.pointer (some ⟨v,0,none⟩),.int .i64 k,.bool false] w fun e w'=>∃a' xa xc xs,e=.returned (.tuple #[zaI r xa (List.length xs) xc 0,.bool true,.int .i64 0])∧Hid (xs=zdh m r)∧zU w' xa xs∧(∀ad,xa=some ad→w.heap.size≤ad.block∧¬zb7 b bm a' ad.block)∧zaY v b bm m a n D (({ m with busy:=m.busy.eraseIdx k }:Rd).did r) a' (n+1) (D.put (.int .i64 tg) (.lit (.int .i64 0))) w w':=by
 have HA0:=za (h.dev.lrow.2.1 r hr.mem);have HMEM:=za hr.mem;have HRQ:=za hr;have HG:=za gr;have hkey:keyOf Tryz.prog 3 (.int .i64 tg)=some (.int .i64 tg):=keyOf_int_mk Tryz.underlying3 (WalkArith.wf_i64 hr.in');clear gr hr;obtain⟨c0,c1⟩:=h.cells;have HV:=za h;have hv:=zz h.blk;have hm:=h.mlt;have hbv:=h.dev.lt;have hb0:=za (zn w (.cells #[.bool false,.int .i64 0,.int .i64 0,.slice none 0 0,.slice none 0 0,.int .i64 0,.slice none 0 0,.int .i64 0] 120));clear h;go_enter Tryz.func65,Tryz.ntmps65;go_wp2_with fail;refine(zqU b m a k r HRQ.out.at' _ (HV.out.dev.later hb0.out) HG.out hW4).mono ?_;rintro e w1 ⟨a1,xa,xc,xs,rfl,hxs,hst,hnew,hs1⟩;obtain⟨m1,hm1⟩:∃m1:Rd,m1=(({ m with busy:=m.busy.eraseIdx k }:Rd).did r):=⟨_,rfl⟩
 have HM1:=za hm1;rw[←hm1] at hs1;have HBY:Hid (∀q∈m1.busy,q∈m.busy):=fun q hq=>by rw[HM1.out,Rd.did_busyR] at hq;exact List.mem_of_mem_eraseIdx hq
 have HOB:Hid (∀q∈m1.busy,q.Off (fun j=>j=bm)):=fun q hq=>HRQ.out.off q (HBY.out q hq)
 have HOQ:Hid (∀q∈m1.busy,q.Off (fun j=>j=w.heap.size)):=fun q hq=>zcd (HV.out.dev.lrow.2.1 q (HBY.out q hq)) (fun j e=>by omega)
 have hxn:∀ad,xa=some ad→ad.block ≠ w.heap.size∧ad.block ≠ bm:=fun ad e=>by have:=(hnew ad e).1;rw[World.size_alloc] at this;omega
 have HXN:=za hxn;have HNW:Hid (∀ad,xa=some ad→w.heap.size≤ad.block∧¬zb7 b bm a1 ad.block):=fun ad e=>⟨by have:=(hnew ad e).1;rw[World.size_alloc] at this;omega,fun hk=>hk.elim (hxn ad e).2 (hnew ad e).2⟩
 have HXS:=hxs;generalize hxlen:xs.length=xm at *;have HXL:=za hxlen;have HT1:=za hst;clear hm1 hxn hnew hxs hst hxlen;have HS1:=za (HV.out.step ((zat.same HV.out.dev hb0.out).trans hs1));have n0:¬a1.foot b w.heap.size:=(fun e=>by rcases hs1.foot _ e with e'|e';(have:=HV.out.dev.footLt _ e';omega);(rw[World.size_alloc] at e';omega));have nl:m1.busy ≠ []→∀p,a1.la=some p→p.block ≠ w.heap.size:=(fun hne p hp=>by rcases hs1.lan hne p hp with e'|e';(have:=HV.out.dev.llt e'.1 e'.2;omega);(rw[World.size_alloc] at e';omega));have hz1:=(zaE w 120).only hs1.only (fun e=>by have:=HV.out.dev.footLt _ e;omega);have ha1:=(HA0.out.later hb0.out).frame (HV.out.dev.reqs r HMEM.out) hs1.only;have hb2:=zn w1 (.cells #[.bool r.wr,.int .i64 r.f,.int .i64 r.m,.slice r.da r.data.length r.dc,.slice r.ta r.tags.length r.tc,.int .i64 r.born,.slice xa xm xc,.int .i64 0] 120);go_upto_region 2 with fail;refine zai (fun wK=>zaY v b bm m a n D m1 a1 n D w wK∧zcj wK w.heap.size∧za6 wK w1.heap.size r xa xm xc 0∧r.At wK∧(zU wK xa xs)) ⟨HS1.out.later hb2,hz1.only (F:=fun _=>False) (zo.of_below hb2) (fun e=>e),zfB w1 120 r xa xm xc 0,ha1.later hb2,HT1.out.later hb2⟩ ?_;rintro w2 ⟨hS2,hZ2,hX2,hA2,hT2⟩;have HS2:=za hS2;have HZ2:=za hZ2;have HX2:=za hX2;have HA2:=za hA2;have HT2:=za hT2;have HN0:=za (⟨n0,nl⟩:_∧_);obtain⟨tb,tof,hta,htc⟩:=zhD HA2.out HRQ.out.tag HRQ.out.some';have htl:=zg htc;have hti:0<r.tags.length:=HRQ.out.some';have hti':(0:Int)<(r.tags.length:Int):=(by omega);obtain⟨x0,x1,x2,x3,x4,x5,x6,x7⟩:=id HX2.out;rw[hta] at x4;have HTA:=za hta;have hw1:=HS1.out.only.size;have hxl:=zg x0;obtain⟨p0,p1⟩:=HS2.out.at'.cells;have hmp:=HS2.out.at'.map;have hvl:=zz HS2.out.at'.blk;have HVM:=za hvl;have HNQ9:Hid (¬a1.foot b w1.heap.size):=(fun e=>by have:=hs1.dev.footLt _ e;omega);clear hS2 hZ2 hX2 hA2 hT2 hs1 n0 nl hz1 ha1 hb2 hta HS1;generalize w1.heap.size=q9 at *;clear HT1;go_wp2_with(first
  |(at_mapUpdate;refine wpList_mapUpdate_own _ rfl _ _ _ 65 rfl 3 3 zdU Tryz.underlying65 _ bm n D rfl hmp (by unfold maxLen;omega) _ _ _ rfl rfl hkey _ [] (plainElem_int Tryz.underlying3 (WalkArith.wf_i64 (by omega))) ?_;intro w3 hown3 hgrow3;have HS3:=za (HS2.out.trans (HS2.out.at'.turn (zaq hgrow3) hown3 HOB.out));have HX3:=za (HX2.out.onlyR (zaq hgrow3) (by omega));have HZ3:=za (HZ2.out.only (zaq hgrow3) (by omega));have HT3:=za (za2 HT2.out (zaq hgrow3) (fun _ ad e=>(HXN.out ad e).2));clear hown3 hgrow3 hmp HS2 HX2 HZ2 x0 x1 x2 x3 x4 x5 x6 x7 p0 p1;obtain⟨x0,x1,x2,x3,x4,x5,x6,x7⟩:=id HX3.out)
  |(refine zP rfl (.tmp 6) (.tmp 39) rfl w.heap.size r xa xm xc 0 rfl rfl (zT HZ3.out) (fun wK=>(zaY v b bm m a n D m1 a1 (n+1) (D.put (.int .i64 tg) (.lit (.int .i64 0))) w wK∧zU wK xa xs)∧zal wK w.heap.size r xa xm xc 0) ⟨⟨zlB HS3.out w.heap.size (Nat.le_refl _) (fun e=>e.elim (fun e=>by omega) HN0.out.1) (by omega) HN0.out.2 HOQ.out _ _ _ _ _ _ _ _,za2 HT3.out (zan _ w.heap.size _ _ _ _ _ _ _ _) (fun _ ad e=>(HXN.out ad e).1)⟩,zaT (zT HZ3.out) HZ3.out.2.2⟩ ?_;rintro w4 ⟨hs4,⟨k0,k1,k2,k3,k4,k5,k6,k7⟩,-,-⟩;have HS4:=za hs4;clear hs4 HS3 HX3 HZ3))
 refine bodyPost_ret (v:=.tuple #[zaI r xa xm xc 0,.bool true,.int .i64 0]) (by simp[results,Tryz.results65,go_sem,k0,k1,k2,k3,k4,k5,k6,k7]) rfl ⟨a1,xa,xc,xs,by rw[HXL.out],HXS,HS4.out.2,HNW.out,?_⟩;rw[←HM1.out];exact HS4.out.1
end Go.Proofs.YtlhgjplipgandaaGreat
namespace Go.Proofs.YtlhgjplipgandaaGreat
section
variable{P:Program}{ops:Array Oper}{Q:Exit→Act→World→Prop}{S:World→Prop}{d:Nat}
theorem zmt{i:Nat}{oi:Oper}{v:Value}(hi:ops[i]?=some oi)(hsel:∀(j:Nat) (o:Oper) cs b,ops[j]?=some o→o.op ≠ .select cs b)(hd:ops.size≤d)
  (hQ:∀c a w,Q (.panic c) (a.put oi.dst v) w→Q (.panic c) a w):∀(k:Nat) (ls:Array Bool) (a:Act) (w:World),
   (∀j oj,ops[j]?=some oj→j ≠ i→ls.getD j true=false→(∀e∈oj.after,Region.binds .any e=true→e.on ≠ i)→oi.apart ops oj=true) →
   i∈Region.ready .any ops ls→YieldsIf P ops S oi v a→S w→zbY P ops Q S d k (ls.setIfInBounds i true) (a.put oi.dst v) w→zbY P ops Q S d (k+1) ls a w:=by
 intro k
 induction k with
 |zero =>
  intro ls a w _ hr hy hS H;refine⟨fun h=>(by rw[h] at hr;cases hr),fun j hj=>?_⟩
  by_cases e:j=i
  ·subst e;exact hy.wpOp hi hS ⟨fun _=>hS,H⟩
  ·have:=ready_mono hj e;rw[H.1] at this;cases this
 |succ k ih =>
  intro ls a w hfree hr hy hS H;refine⟨fun h=>(by rw[h] at hr;cases hr),fun j hj=>?_⟩
  by_cases e:j=i
  ·subst e;exact hy.wpOp hi hS ⟨fun _=>hS,H⟩
  obtain⟨hun,oj,hoj,hall⟩:=mem_ready.1 hj;have jd:j ≠ d:=fun e'=>by have:=(Array.getElem?_eq_some_iff.1 hoj).1;omega
  have h1:=H.2 j (ready_mono hj e);have hno:∀x∈oj.after,Region.binds .any x=true→x.on ≠ i:=fun x hx hb he=>by
   have h1:=hall x hx hb;have h0:=(mem_ready.1 hr).1;rw[he] at h1
   rcases Nat.lt_or_ge i ls.size with h'|h'
   ·simp[h'] at h0 h1;rw[h0] at h1;cases h1
   ·simp[Array.getElem?_eq_none h'] at h1
  have h2:=wpOp_putIf hoj (hfree j oj hoj e hun hno) (fun cs b=>hsel i oi cs b hi) (fun cs b=>hsel j oj cs b hoj) hQ hy h1;refine wpOp_mono (fun a' w' h3=>⟨fun _=>h3.2.1 jd,ih (ls.setIfInBounds j true) a' w' (fun m om hm hmi hmu hmn=>hfree m om hm hmi ?_ hmn) (ready_mono hr (Ne.symm e)) h3.1 (h3.2.1 jd) ?_⟩) h2
  ·by_cases hjm:j=m
   ·subst hjm;exact hun
   ·rw[getD_set_ne true hjm] at hmu;exact hmu
  ·rw[Array.setIfInBounds_comm _ _ e];exact h3.2.2
theorem zcW{i:Nat}{oi:Oper}{v:Value}{k:Nat}{ls:Array Bool}{a:Act}{w:World}(hi:ops[i]?=some oi)(hs:Region.noSelect ops=true)(hf:Region.free .any ops ls i=true)(hr:(Region.ready .any ops ls).contains i=true)(hd:decide (ops.size≤d)=true)
  (hQ:∀c a w,Q (.panic c) (a.put oi.dst v) w→Q (.panic c) a w) (hy:YieldsIf P ops S oi v a) (hS:S w) (h:zbY P ops Q S d k (ls.setIfInBounds i true) (a.put oi.dst v) w):zbY P ops Q S d (k+1) ls a w :=
 zmt hi (Region.noSelect_spec hs) (of_decide_eq_true hd) hQ k ls a w (Region.free_spec hi hf) (by simpa using hr) hy hS h
end
end Go.Proofs.YtlhgjplipgandaaGreat
namespace Go.Proofs.YtlhgjplipgandaaGreat
open Go.RowKit Go.BigFrame Go.Maps
attribute [local go_sem] ze.cell ze.frozen
theorem zfG{H:Type}{P:Program}{w:World}{ops:Array Oper}{o:Oper}{a:Act}{K:Act→World→Prop}{Q:Exit→Act→World→Prop}{E:Prop}
  (hg:o.guard=none) (m x v:Operand) (t:TypeId) (hop:o.op=Op.mapUpdate t m x v)
  (k e:TypeId) (hk:Keyed P k) (ht:P.underlying t=some (.map k e)) (R:Value→Option (DataW H × List MemPlace)) (b n:Nat) (D:DataW H)
  (hm:a.eval m=.map (some b)) (hown:w.ownsMap P k R b n D) (hn:n<maxLen) (key val:Value) (kl:Lit) (hx:a.eval x=key) (hv:a.eval v=val) (hkey:keyOf P k key=some kl)
  (d:DataW H) (ps:List MemPlace) (hval:R val=some (d,ps))
  (hK:∀w',w'.ownsMap P k R b (n+1) (D.put kl d)→w.grownBy w' (some b)→K (a.put o.dst undef) w') :
  if Region.wanted o (yielded ops a.tmps)=true then Oper.wp P o a w K Q else E:=by
 have hw:Region.wanted o (yielded ops a.tmps)=true:=by simp[Region.wanted,hg]
 rw[if_pos hw];obtain⟨w',hrun,r1,r2⟩:=hown.update hk ht hn hkey hval;unfold Oper.wp
 simp[execOp,hop,hm,hx,hv,hrun,Result.andThen]
 exact hK w' r1 r2
theorem znb(v b bm:Nat)(m:Rd)(a:Ra)(n:Nat)(D:DataW Unit)(k:Nat)(r:Rq)(tg c:Int)(w:World)(h:zbF v b bm m a n D w)(hr:zg1 bm m k r tg)(hD:IsMap D)(hc:D.atKey (.int .i64 tg) (.lit (.int .i64 0))=.lit (.int .i64 c))(hc2:2≤c∧c≤2)(hn:n≤1000000000) :
  Calls Tryz.prog 65 #[.pointer (some ⟨v,0,none⟩),.int .i64 k,.bool true] w fun e w'=>∃a',e=.returned (.tuple #[zaI r none 0 0 8,.bool true,.int .i64 0])∧zaY v b bm m a n D { m with busy:=m.busy.eraseIdx k } a' (n+2) ((D.put (.int .i64 tg) (.lit (.int .i64 (c+1)))).put (.int .i64 tg) (.lit (.int .i64 0))) w w':=by
 obtain⟨hc4,hc5⟩:=hc2;have HA0:=za (h.dev.lrow.2.1 r hr.mem);have HMEM:=za hr.mem;have HRQ:=za hr;have HC:=za hc;have HDM:=za hD;have hkey:keyOf Tryz.prog 3 (.int .i64 tg)=some (.int .i64 tg):=keyOf_int_mk Tryz.underlying3 (WalkArith.wf_i64 hr.in');have HOR:=za (hr.off r hr.mem);clear hc hr hD;obtain⟨c0,c1⟩:=h.cells;have HV:=za h;have hv:=zz h.blk;have hm:=h.mlt;have hbv:=h.dev.lt;have hb0:=za (zn w (.cells #[.bool false,.int .i64 0,.int .i64 0,.slice none 0 0,.slice none 0 0,.int .i64 0,.slice none 0 0,.int .i64 0] 120));clear h;go_enter Tryz.func65,Tryz.ntmps65;go_wp2_with fail;refine(zhx b m a k r HRQ.out.at' _ (HV.out.dev.later hb0.out)).mono ?_;rintro e w1 ⟨a1,rfl,-,hs1⟩;obtain⟨m1,hm1⟩:∃m1:Rd,m1={ m with busy:=m.busy.eraseIdx k }:=⟨_,rfl⟩;have HM1:=za hm1;rw[←hm1] at hs1;have HBY:Hid (∀q∈m1.busy,q∈m.busy):=(fun q hq=>by rw[HM1.out] at hq;exact List.mem_of_mem_eraseIdx hq);have HOB:Hid (∀q∈m1.busy,q.Off (fun j=>j=bm)):=(fun q hq=>HRQ.out.off q (HBY.out q hq));have HOQ:Hid (∀q∈m1.busy,q.Off (fun j=>j=w.heap.size)):=(fun q hq=>zcd (HV.out.dev.lrow.2.1 q (HBY.out q hq)) (fun j e=>by omega));clear hm1;have HS1:=za (HV.out.step ((zat.same HV.out.dev hb0.out).trans hs1));have n0:¬a1.foot b w.heap.size:=(fun e=>by rcases hs1.foot _ e with e'|e';(have:=HV.out.dev.footLt _ e';omega);(rw[World.size_alloc] at e';omega));have nl:m1.busy ≠ []→∀p,a1.la=some p→p.block ≠ w.heap.size:=(fun hne p hp=>by rcases hs1.lan hne p hp with e'|e';(have:=HV.out.dev.llt e'.1 e'.2;omega);(rw[World.size_alloc] at e';omega));have hz1:=(zaE w 120).only hs1.only (fun e=>by have:=HV.out.dev.footLt _ e;omega);have ha1:=(HA0.out.later hb0.out).frame (HV.out.dev.reqs r HMEM.out) hs1.only;have hb2:=zn w1 (.cells #[.bool r.wr,.int .i64 r.f,.int .i64 r.m,.slice r.da r.data.length r.dc,.slice r.ta r.tags.length r.tc,.int .i64 r.born,.slice none 0 0,.int .i64 8] 120);go_upto_region 2 with fail;refine zai (fun wK=>zaY v b bm m a n D m1 a1 n D w wK∧zcj wK w.heap.size∧za6 wK w1.heap.size r none 0 0 8∧r.At wK∧(True)) ⟨HS1.out.later hb2,hz1.only (F:=fun _=>False) (zo.of_below hb2) (fun e=>e),zfB w1 120 r none 0 0 8,ha1.later hb2,trivial⟩ ?_;rintro w2 ⟨hS2,hZ2,hX2,hA2,hT2⟩;have HS2:=za hS2;have HZ2:=za hZ2;have HX2:=za hX2;have HA2:=za hA2;have HT2:=za hT2;have HN0:=za (⟨n0,nl⟩:_∧_);obtain⟨tb,tof,hta,htc⟩:=zhD HA2.out HRQ.out.tag HRQ.out.some';have htl:=zg htc;have hti:0<r.tags.length:=HRQ.out.some';have hti':(0:Int)<(r.tags.length:Int):=(by omega);obtain⟨x0,x1,x2,x3,x4,x5,x6,x7⟩:=id HX2.out;rw[hta] at x4;have HTA:=za hta;have hw1:=HS1.out.only.size;have hxl:=zg x0;obtain⟨p0,p1⟩:=HS2.out.at'.cells;have hmp:=HS2.out.at'.map;have hvl:=zz HS2.out.at'.blk;have HVM:=za hvl;have HNQ9:Hid (¬a1.foot b w1.heap.size):=(fun e=>by have:=hs1.dev.footLt _ e;omega);clear hS2 hZ2 hX2 hA2 hT2 hs1 n0 nl hz1 ha1 hb2 hta HS1;generalize w1.heap.size=q9 at *;obtain⟨c2,hrun2,hat,-⟩:=hmp.drew.lookup_int zdU Tryz.underlying65 Tryz.underlying3 (zg4 _) hkey;obtain rfl:c=c2:=(by rw[HC.out] at hat;injection hat with e;injection e with _ e);have hwc:IntKind.i64.wrap (c+1)=c+1:=(by rw[IntKind.wrap_i64];omega);clear hat HT2
 have HS:Hid ((fun wz:World=>wz.cell? ⟨v,1,none⟩=some (.map (some bm))∧v<wz.heap.size∧Sem.run Tryz.prog (Instr.lookup 65 (.map (some bm)) (.int .i64 tg) false) wz=.ok (.int .i64 c) wz) w2.drew):=⟨p1,hvl,hrun2⟩;go_wp2_with fail;refine zaJ (S:=fun wz:World=>wz.cell? ⟨v,1,none⟩=some (.map (some bm))∧v<wz.heap.size∧Sem.run Tryz.prog (Instr.lookup 65 (.map (some bm)) (.int .i64 tg) false) wz=.ok (.int .i64 c) wz) (d:=12) (by kernel_rfl) ?_;refine tk 0 ?_ rfl (Or.inl ⟨by rfl,?_⟩) HS.out ?_;rotate_left;(focus(intro w0 hSw;obtain⟨s0,s1,s2⟩:=hSw;go_simp;(try with_reducible rfl)));(try simp only[Act.put,dP]);refine tk 1 ?_ rfl (Or.inl ⟨by rfl,?_⟩) HS.out ?_;rotate_left;(focus(intro w0 hSw;obtain⟨s0,s1,s2⟩:=hSw;go_simp;(try with_reducible rfl)));(try simp only[Act.put,dP]);refine tk 2 ?_ rfl (Or.inl ⟨by rfl,?_⟩) HS.out ?_;rotate_left;(focus(intro w0 hSw;obtain⟨s0,s1,s2⟩:=hSw;go_simp;(try with_reducible rfl)));(try simp only[Act.put,dP]);refine tk 3 ?_ rfl (Or.inl ⟨by rfl,?_⟩) HS.out ?_;rotate_left;(focus(intro w0 hSw;obtain⟨s0,s1,s2⟩:=hSw;go_simp;(try with_reducible rfl)));(try simp only[Act.put,dP]);refine tk 4 ?_ rfl (Or.inl ⟨by rfl,?_⟩) HS.out ?_;rotate_left;(focus(intro w0 hSw;obtain⟨s0,s1,s2⟩:=hSw;go_simp;(try with_reducible rfl)));(try simp only[Act.put,dP]);refine tk 5 ?_ rfl (Or.inl ⟨by rfl,?_⟩) HS.out ?_;rotate_left;(focus(intro w0 hSw;obtain⟨s0,s1,s2⟩:=hSw;go_simp;(try with_reducible rfl)));(try simp only[Act.put,dP]);refine tk 6 ?_ rfl (Or.inl ⟨by rfl,?_⟩) HS.out ?_;rotate_left;(focus(intro w0 hSw;obtain⟨s0,s1,s2⟩:=hSw;go_simp;(try with_reducible rfl)));(try simp only[Act.put,dP]);refine tk 7 ?_ rfl (Or.inl ⟨by rfl,?_⟩) HS.out ?_;rotate_left;(focus(intro w0 hSw;obtain⟨s0,s1,s2⟩:=hSw;go_simp;(try with_reducible rfl)));(try simp only[Act.put,dP]);refine tk 8 ?_ rfl (Or.inl ⟨by rfl,?_⟩) HS.out ?_;rotate_left;(focus(intro w0 hSw;obtain⟨s0,s1,s2⟩:=hSw;go_simp;(try with_reducible rfl)));(try simp only[Act.put,dP]);refine tk 9 ?_ rfl (Or.inl ⟨by rfl,?_⟩) HS.out ?_;rotate_left;(focus(intro w0 hSw;obtain⟨s0,s1,s2⟩:=hSw;go_simp;(try with_reducible rfl)));(try simp only[Act.put,dP]);refine tk 10 ?_ rfl (Or.inl ⟨by rfl,?_⟩) HS.out ?_;rotate_left;(focus(intro w0 hSw;obtain⟨s0,s1,s2⟩:=hSw;go_simp;(try with_reducible rfl)));(try simp only[Act.put,dP]);refine tk 11 ?_ rfl (Or.inl ⟨by rfl,?_⟩) HS.out ?_;rotate_left;(focus(intro w0 hSw;obtain⟨s0,s1,s2⟩:=hSw;go_simp;(try with_reducible rfl)));(try simp only[Act.put,dP]);refine zw (i:=12) rfl (by kernel_rfl) ?_;intro K hK;refine zfG rfl (.tmp 43) (.tmp 44) (.tmp 51) 65 rfl 3 3 zdU Tryz.underlying65 _ bm n D rfl hmp.drew (by unfold maxLen;omega) (.int .i64 tg) (.int .i64 (c+1)) (.int .i64 tg) rfl rfl hkey _ [] (plainElem_int Tryz.underlying3 (WalkArith.wf_i64 (by omega))) ?_;intro w3 hown3 hgrow3;have hO3:zo (fun k=>k=bm) w2 w3:=(zo.of_below (Below.refl _ _).drew).trans (zaq hgrow3) (fun i e=>Or.inl e);have HS3:=za (HS2.out.trans (HS2.out.at'.turn hO3 hown3 HOB.out));have HX3:=za (HX2.out.onlyR hO3 (by omega));have HZ3:=za (HZ2.out.only hO3 (by omega));have HA3:=za (HA2.out.frame HOR.out hO3);refine hK _ _ (fun h=>absurd rfl h) ?_;(try simp only[Act.put,dP]);clear hK hown3 hgrow3 hO3 hmp HS2 HX2 HZ2 HA2 x0 x1 x2 x3 x4 x5 x6 x7 p0 p1 HS hrun2;refine zaO (by kernel_rfl) ?_ _;obtain⟨x0,x1,x2,x3,x4,x5,x6,x7⟩:=id HX3.out;obtain⟨p0,p1⟩:=HS3.out.at'.cells;have hmp:=HS3.out.at'.map;have hvl:=zz HS3.out.at'.blk;obtain⟨c3,hrun,hat3,-⟩:=hmp.lookup_int zdU Tryz.underlying65 Tryz.underlying3 (zg4 _) hkey;obtain rfl:c3=c+1:=(by rw[atKey_put_same HDM.out (by trivial)] at hat3;injection hat3 with e;injection e with _ e;exact e.symm);clear hat3
 have hc3:(c+1==3)=true:=by rw[beq_iff_eq];omega
 have hn1:n+1≤1000000001:=by omega
 go_wp2_with(first
  |(at_mapUpdate;refine wpList_mapUpdate_own _ rfl _ _ _ 65 rfl 3 3 zdU Tryz.underlying65 _ bm (n+1) _ rfl hmp (by unfold maxLen;omega) _ _ _ rfl rfl hkey _ [] (plainElem_int Tryz.underlying3 (WalkArith.wf_i64 (by omega))) ?_;intro w4 hown4 hgrow4;have HS4:=za (HS3.out.trans (HS3.out.at'.turn (zaq hgrow4) hown4 HOB.out));have HX4:=za (HX3.out.onlyR (zaq hgrow4) (by omega));have HZ4:=za (HZ3.out.only (zaq hgrow4) (by omega));clear hown4 hgrow4 hmp HS3 HX3 HZ3 HA3 x0 x1 x2 x3 x4 x5 x6 x7 p0 p1;obtain⟨x0,x1,x2,x3,x4,x5,x6,x7⟩:=id HX4.out)
  |(refine zP rfl (.tmp 6) (.tmp 64) rfl w.heap.size r none 0 0 8 rfl rfl (zT HZ4.out) (fun wK=>zaY v b bm m a n D m1 a1 (n+2) ((D.put (.int .i64 tg) (.lit (.int .i64 (c+1)))).put (.int .i64 tg) (.lit (.int .i64 0))) w wK∧zal wK w.heap.size r none 0 0 8) ⟨zlB HS4.out w.heap.size (Nat.le_refl _) (fun e=>e.elim (fun e=>by omega) HN0.out.1) (by omega) HN0.out.2 HOQ.out _ _ _ _ _ _ _ _,zaT (zT HZ4.out) HZ4.out.2.2⟩ ?_;rintro w5 ⟨hs5,⟨k0,k1,k2,k3,k4,k5,k6,k7⟩,-,-⟩;have HS5:=za hs5;clear hs5 HS4 HX4 HZ4))
 refine bodyPost_ret (v:=.tuple #[zaI r none 0 0 8,.bool true,.int .i64 0]) (by simp[results,Tryz.results65,go_sem,k0,k1,k2,k3,k4,k5,k6,k7]) rfl ⟨a1,rfl,?_⟩;rw[←HM1.out];exact HS5.out
theorem zqx(v b bm:Nat)(m:Rd)(a:Ra)(n:Nat)(D:DataW Unit)(k:Nat)(r:Rq)(tg c:Int)(w:World)(h:zbF v b bm m a n D w)(hr:zg1 bm m k r tg)(hD:IsMap D)(hc:D.atKey (.int .i64 tg) (.lit (.int .i64 0))=.lit (.int .i64 c))(hc2:0≤c∧c<2)(hn:n≤1000000000) :
  Calls Tryz.prog 65 #[.pointer (some ⟨v,0,none⟩),.int .i64 k,.bool true] w fun e w'=>∃a',e=.returned (.tuple #[zcM,.bool false,.int .i64 0])∧zaY v b bm m a n D { m with busy:=m.busy.eraseIdx k++[r] } a' (n+1) (D.put (.int .i64 tg) (.lit (.int .i64 (c+1)))) w w':=by
 have HLE:Hid ((m.busy.eraseIdx k).length<2):=by
  show _<_;have h2:=h.dev.blen;have h3:=(List.getElem?_eq_some_iff.1 hr.at').1;rw[List.length_eraseIdx,if_pos h3];omega
 have HA0:=za (h.dev.lrow.2.1 r hr.mem);have HMEM:=za hr.mem;have HRQ:=za hr;have HC:=za hc;have HDM:=za hD;have hkey:keyOf Tryz.prog 3 (.int .i64 tg)=some (.int .i64 tg):=keyOf_int_mk Tryz.underlying3 (WalkArith.wf_i64 hr.in');have HOR:=za (hr.off r hr.mem);clear hc hr hD;obtain⟨c0,c1⟩:=h.cells;have HV:=za h;have hv:=zz h.blk;have hm:=h.mlt;have hbv:=h.dev.lt;have hb0:=za (zn w (.cells #[.bool false,.int .i64 0,.int .i64 0,.slice none 0 0,.slice none 0 0,.int .i64 0,.slice none 0 0,.int .i64 0] 120));clear h;go_enter Tryz.func65,Tryz.ntmps65;go_wp2_with fail;refine(zhx b m a k r HRQ.out.at' _ (HV.out.dev.later hb0.out)).mono ?_;rintro e w1 ⟨a1,rfl,-,hs1⟩;obtain⟨m1,hm1⟩:∃m1:Rd,m1={ m with busy:=m.busy.eraseIdx k }:=⟨_,rfl⟩;have HM1:=za hm1;rw[←hm1] at hs1;have HBY:Hid (∀q∈m1.busy,q∈m.busy):=(fun q hq=>by rw[HM1.out] at hq;exact List.mem_of_mem_eraseIdx hq);have HOB:Hid (∀q∈m1.busy,q.Off (fun j=>j=bm)):=(fun q hq=>HRQ.out.off q (HBY.out q hq));have HOQ:Hid (∀q∈m1.busy,q.Off (fun j=>j=w.heap.size)):=(fun q hq=>zcd (HV.out.dev.lrow.2.1 q (HBY.out q hq)) (fun j e=>by omega));clear hm1;have HS1:=za (HV.out.step ((zat.same HV.out.dev hb0.out).trans hs1));have n0:¬a1.foot b w.heap.size:=(fun e=>by rcases hs1.foot _ e with e'|e';(have:=HV.out.dev.footLt _ e';omega);(rw[World.size_alloc] at e';omega));have nl:m1.busy ≠ []→∀p,a1.la=some p→p.block ≠ w.heap.size:=(fun hne p hp=>by rcases hs1.lan hne p hp with e'|e';(have:=HV.out.dev.llt e'.1 e'.2;omega);(rw[World.size_alloc] at e';omega));have hz1:=(zaE w 120).only hs1.only (fun e=>by have:=HV.out.dev.footLt _ e;omega);have ha1:=(HA0.out.later hb0.out).frame (HV.out.dev.reqs r HMEM.out) hs1.only;have hb2:=zn w1 (.cells #[.bool r.wr,.int .i64 r.f,.int .i64 r.m,.slice r.da r.data.length r.dc,.slice r.ta r.tags.length r.tc,.int .i64 r.born,.slice none 0 0,.int .i64 8] 120);go_upto_region 2 with fail;refine zai (fun wK=>zaY v b bm m a n D m1 a1 n D w wK∧zcj wK w.heap.size∧za6 wK w1.heap.size r none 0 0 8∧r.At wK∧(True)) ⟨HS1.out.later hb2,hz1.only (F:=fun _=>False) (zo.of_below hb2) (fun e=>e),zfB w1 120 r none 0 0 8,ha1.later hb2,trivial⟩ ?_;rintro w2 ⟨hS2,hZ2,hX2,hA2,hT2⟩;have HS2:=za hS2;have HZ2:=za hZ2;have HX2:=za hX2;have HA2:=za hA2;have HT2:=za hT2;have HN0:=za (⟨n0,nl⟩:_∧_);obtain⟨tb,tof,hta,htc⟩:=zhD HA2.out HRQ.out.tag HRQ.out.some';have htl:=zg htc;have hti:0<r.tags.length:=HRQ.out.some';have hti':(0:Int)<(r.tags.length:Int):=(by omega);obtain⟨x0,x1,x2,x3,x4,x5,x6,x7⟩:=id HX2.out;rw[hta] at x4;have HTA:=za hta;have hw1:=HS1.out.only.size;have hxl:=zg x0;obtain⟨p0,p1⟩:=HS2.out.at'.cells;have hmp:=HS2.out.at'.map;have hvl:=zz HS2.out.at'.blk;have HVM:=za hvl;have HNQ9:Hid (¬a1.foot b w1.heap.size):=(fun e=>by have:=hs1.dev.footLt _ e;omega);clear hS2 hZ2 hX2 hA2 hT2 hs1 n0 nl hz1 ha1 hb2 hta HS1;generalize w1.heap.size=q9 at *;obtain⟨c2,hrun2,hat,-⟩:=hmp.drew.lookup_int zdU Tryz.underlying65 Tryz.underlying3 (zg4 _) hkey;obtain rfl:c=c2:=(by rw[HC.out] at hat;injection hat with e;injection e with _ e);have hwc:IntKind.i64.wrap (c+1)=c+1:=(by rw[IntKind.wrap_i64];omega);clear hat HT2
 have HL1:Hid (m1.busy.length<2):=by show _<_;rw[HM1.out];exact HLE.out
 have HOF:Hid (r.Off (a1.foot b)):=Rq.Off.step HA0.out (HV.out.dev.reqs r HMEM.out) (fun k hk=>by
  rcases HS2.out.foot k (Or.inr hk) with e|e
  ·rcases e with e|e
   ·exact absurd e (HS2.out.at'.foot k hk).2
   ·exact Or.inl e
  ·exact Or.inr e)
 have HS:Hid ((fun wz:World=>wz.cell? ⟨v,1,none⟩=some (.map (some bm))∧v<wz.heap.size∧Sem.run Tryz.prog (Instr.lookup 65 (.map (some bm)) (.int .i64 tg) false) wz=.ok (.int .i64 c) wz) w2.drew):=⟨p1,hvl,hrun2⟩;go_wp2_with fail;refine zaJ (S:=fun wz:World=>wz.cell? ⟨v,1,none⟩=some (.map (some bm))∧v<wz.heap.size∧Sem.run Tryz.prog (Instr.lookup 65 (.map (some bm)) (.int .i64 tg) false) wz=.ok (.int .i64 c) wz) (d:=12) (by kernel_rfl) ?_;refine tk 0 ?_ rfl (Or.inl ⟨by rfl,?_⟩) HS.out ?_;rotate_left;(focus(intro w0 hSw;obtain⟨s0,s1,s2⟩:=hSw;go_simp;(try with_reducible rfl)));(try simp only[Act.put,dP]);refine tk 1 ?_ rfl (Or.inl ⟨by rfl,?_⟩) HS.out ?_;rotate_left;(focus(intro w0 hSw;obtain⟨s0,s1,s2⟩:=hSw;go_simp;(try with_reducible rfl)));(try simp only[Act.put,dP]);refine tk 2 ?_ rfl (Or.inl ⟨by rfl,?_⟩) HS.out ?_;rotate_left;(focus(intro w0 hSw;obtain⟨s0,s1,s2⟩:=hSw;go_simp;(try with_reducible rfl)));(try simp only[Act.put,dP]);refine tk 3 ?_ rfl (Or.inl ⟨by rfl,?_⟩) HS.out ?_;rotate_left;(focus(intro w0 hSw;obtain⟨s0,s1,s2⟩:=hSw;go_simp;(try with_reducible rfl)));(try simp only[Act.put,dP]);refine tk 4 ?_ rfl (Or.inl ⟨by rfl,?_⟩) HS.out ?_;rotate_left;(focus(intro w0 hSw;obtain⟨s0,s1,s2⟩:=hSw;go_simp;(try with_reducible rfl)));(try simp only[Act.put,dP]);refine tk 5 ?_ rfl (Or.inl ⟨by rfl,?_⟩) HS.out ?_;rotate_left;(focus(intro w0 hSw;obtain⟨s0,s1,s2⟩:=hSw;go_simp;(try with_reducible rfl)));(try simp only[Act.put,dP]);refine tk 6 ?_ rfl (Or.inl ⟨by rfl,?_⟩) HS.out ?_;rotate_left;(focus(intro w0 hSw;obtain⟨s0,s1,s2⟩:=hSw;go_simp;(try with_reducible rfl)));(try simp only[Act.put,dP]);refine tk 7 ?_ rfl (Or.inl ⟨by rfl,?_⟩) HS.out ?_;rotate_left;(focus(intro w0 hSw;obtain⟨s0,s1,s2⟩:=hSw;go_simp;(try with_reducible rfl)));(try simp only[Act.put,dP]);refine tk 8 ?_ rfl (Or.inl ⟨by rfl,?_⟩) HS.out ?_;rotate_left;(focus(intro w0 hSw;obtain⟨s0,s1,s2⟩:=hSw;go_simp;(try with_reducible rfl)));(try simp only[Act.put,dP]);refine tk 9 ?_ rfl (Or.inl ⟨by rfl,?_⟩) HS.out ?_;rotate_left;(focus(intro w0 hSw;obtain⟨s0,s1,s2⟩:=hSw;go_simp;(try with_reducible rfl)));(try simp only[Act.put,dP]);refine tk 10 ?_ rfl (Or.inl ⟨by rfl,?_⟩) HS.out ?_;rotate_left;(focus(intro w0 hSw;obtain⟨s0,s1,s2⟩:=hSw;go_simp;(try with_reducible rfl)));(try simp only[Act.put,dP]);refine tk 11 ?_ rfl (Or.inl ⟨by rfl,?_⟩) HS.out ?_;rotate_left;(focus(intro w0 hSw;obtain⟨s0,s1,s2⟩:=hSw;go_simp;(try with_reducible rfl)));(try simp only[Act.put,dP]);refine zw (i:=12) rfl (by kernel_rfl) ?_;intro K hK;refine zfG rfl (.tmp 43) (.tmp 44) (.tmp 51) 65 rfl 3 3 zdU Tryz.underlying65 _ bm n D rfl hmp.drew (by unfold maxLen;omega) (.int .i64 tg) (.int .i64 (c+1)) (.int .i64 tg) rfl rfl hkey _ [] (plainElem_int Tryz.underlying3 (WalkArith.wf_i64 (by omega))) ?_;intro w3 hown3 hgrow3;have hO3:zo (fun k=>k=bm) w2 w3:=(zo.of_below (Below.refl _ _).drew).trans (zaq hgrow3) (fun i e=>Or.inl e);have HS3:=za (HS2.out.trans (HS2.out.at'.turn hO3 hown3 HOB.out));have HX3:=za (HX2.out.onlyR hO3 (by omega));have HZ3:=za (HZ2.out.only hO3 (by omega));have HA3:=za (HA2.out.frame HOR.out hO3);refine hK _ _ (fun h=>absurd rfl h) ?_;(try simp only[Act.put,dP]);clear hK hown3 hgrow3 hO3 hmp HS2 HX2 HZ2 HA2 x0 x1 x2 x3 x4 x5 x6 x7 p0 p1 HS hrun2;refine zaO (by kernel_rfl) ?_ _;obtain⟨x0,x1,x2,x3,x4,x5,x6,x7⟩:=id HX3.out;obtain⟨p0,p1⟩:=HS3.out.at'.cells;have hmp:=HS3.out.at'.map;have hvl:=zz HS3.out.at'.blk;obtain⟨c3,hrun,hat3,-⟩:=hmp.lookup_int zdU Tryz.underlying65 Tryz.underlying3 (zg4 _) hkey;obtain rfl:c3=c+1:=(by rw[atKey_put_same HDM.out (by trivial)] at hat3;injection hat3 with e;injection e with _ e;exact e.symm);clear hat3
 have hc3:(c+1==3)=false:=by rw[beq_eq_false_iff_ne];omega
 have HS:Hid ((fun wz:World=>wz.cell? ⟨v,0,none⟩=some (.pointer (some ⟨b,0,none⟩))∧v<wz.heap.size∧za6 wz q9 r none 0 0 8) w3.drew):=⟨p0,hvl,HX3.out⟩
 have eg:∀args w,Sem.run Tryz.prog (callFunc 61 args) w=.ok (.enter 61 args) w:=by intro args w;go_simp
 have HS3d:=za (HS3.out.later (Below.refl _ _).drew);have HA3d:=za (HA3.out.later (Below.refl _ _).drew);have HZ3d:Hid (zcj w3.drew w.heap.size):=HZ3.out;have hq3:w.heap.size<w3.heap.size:=HZ3.out.2.2;clear hwc;go_wp2_with fail;clear hrun;refine zaJ (S:=fun wz:World=>wz.cell? ⟨v,0,none⟩=some (.pointer (some ⟨b,0,none⟩))∧v<wz.heap.size∧za6 wz q9 r none 0 0 8) (d:=99) (by kernel_rfl) ?_;refine zcW (i:=0) (v:=?_) rfl (by kernel_rfl) (by kernel_rfl) (by kernel_rfl) (by kernel_rfl) (fun _ _ _ h=>h) (Or.inl ⟨by rfl,?_⟩) HS.out ?_;rotate_left;(focus(intro w0 hSw;obtain⟨s8,s9,s0,s1,s2,s3,s4,s5,-⟩:=hSw;go_simp;(try with_reducible rfl)));(try simp only[Act.put,dP])
 refine zcW (i:=1) (v:=?_) rfl (by kernel_rfl) (by kernel_rfl) (by kernel_rfl) (by kernel_rfl) (fun _ _ _ h=>h) (Or.inl ⟨by rfl,?_⟩) HS.out ?_;rotate_left;(focus(intro w0 hSw;obtain⟨s8,s9,s0,s1,s2,s3,s4,s5,-⟩:=hSw;go_simp;(try with_reducible rfl)));(try simp only[Act.put,dP])
 refine zcW (i:=2) (v:=?_) rfl (by kernel_rfl) (by kernel_rfl) (by kernel_rfl) (by kernel_rfl) (fun _ _ _ h=>h) (Or.inl ⟨by rfl,?_⟩) HS.out ?_;rotate_left;(focus(intro w0 hSw;obtain⟨s8,s9,s0,s1,s2,s3,s4,s5,-⟩:=hSw;go_simp;(try with_reducible rfl)));(try simp only[Act.put,dP])
 refine zcW (i:=3) (v:=?_) rfl (by kernel_rfl) (by kernel_rfl) (by kernel_rfl) (by kernel_rfl) (fun _ _ _ h=>h) (Or.inl ⟨by rfl,?_⟩) HS.out ?_;rotate_left;(focus(intro w0 hSw;obtain⟨s8,s9,s0,s1,s2,s3,s4,s5,-⟩:=hSw;go_simp;(try with_reducible rfl)));(try simp only[Act.put,dP])
 refine zcW (i:=4) (v:=?_) rfl (by kernel_rfl) (by kernel_rfl) (by kernel_rfl) (by kernel_rfl) (fun _ _ _ h=>h) (Or.inl ⟨by rfl,?_⟩) HS.out ?_;rotate_left;(focus(intro w0 hSw;obtain⟨s8,s9,s0,s1,s2,s3,s4,s5,-⟩:=hSw;go_simp;(try with_reducible rfl)));(try simp only[Act.put,dP])
 refine zcW (i:=5) (v:=?_) rfl (by kernel_rfl) (by kernel_rfl) (by kernel_rfl) (by kernel_rfl) (fun _ _ _ h=>h) (Or.inl ⟨by rfl,?_⟩) HS.out ?_;rotate_left;(focus(intro w0 hSw;obtain⟨s8,s9,s0,s1,s2,s3,s4,s5,-⟩:=hSw;go_simp;(try with_reducible rfl)));(try simp only[Act.put,dP])
 refine zw (i:=6) rfl (by kernel_rfl) ?_;intro K hK;refine zdN rfl 61 68 70 31 111 rfl eg (.pointer (some ⟨b,0,none⟩)) r.val rfl rfl (.int .i64 0) (fun w'=>∃a',zat b m1 a1 { m1 with busy:=m1.busy++[r] } a' w3.drew w') ((zjA b m1 a1 r _ HS3d.out.at'.dev HL1.out HA3d.out HOF.out).mono (fun e w' ⟨a',he,_,hs⟩=>⟨he,a',hs⟩)) ?_;rintro w4 ⟨a4,hs4⟩;have HS4:=za (HS3d.out.trans (HS3d.out.at'.step hs4));have HZ4:=za (HZ3d.out.only hs4.only HN0.out.1);have hq4:¬zb7 b bm a4 w.heap.size:=by
  rintro(e|e)
  ·omega
  ·rcases hs4.foot _ e with e|e
   ·exact HN0.out.1 e
   ·have:w3.heap.size≤w.heap.size:=e
    omega
 have hl4:m1.busy++[r] ≠ []→∀p,a4.la=some p→p.block ≠ w.heap.size:=fun hne p hp=>by
  rcases hs4.lan hne p hp with e|e
  ·exact HN0.out.2 e.1 p e.2
  ·have:w3.heap.size≤p.block:=e
   omega
 have HQ4:=za (⟨hq4,hl4⟩:_∧_);have nq9:¬a1.foot b q9:=HNQ9.out;refine hK _ _ (fun _=>⟨HS4.out.at'.cells.1,zz HS4.out.at'.blk,HS.out.2.2.onlyR hs4.only nq9⟩) ?_
 (try simp only[Act.put,dP])
 clear hK hs4 hq4 hl4 HS x0 x1 x2 x3 x4 x5 x6 x7 p0 p1 HS3d HA3d HZ3d HS3 HX3 HZ3 HA3 hmp;refine zaO (by kernel_rfl) ?_ _;go_wp2_with(refine zP rfl (.tmp 6) (.tmp 72) rfl w.heap.size rq0 none 0 0 0 rfl rfl (zT HZ4.out) (fun wK=>zaY v b bm m a n D { m1 with busy:=m1.busy++[r] } a4 (n+1) (D.put (.int .i64 tg) (.lit (.int .i64 (c+1)))) w wK∧zal wK w.heap.size rq0 none 0 0 0) ⟨zlB HS4.out w.heap.size (Nat.le_refl _) HQ4.out.1 (by omega) HQ4.out.2 (fun q hq=>by rcases List.mem_append.1 hq with hq'|hq';exact HOQ.out q hq';(rw[List.mem_singleton.1 hq'];exact zcd HA0.out (fun k e=>by omega))) _ _ _ _ _ _ _ _,zaT (zT HZ4.out) HZ4.out.2.2⟩ ?_;rintro w5 ⟨hs5,⟨k0,k1,k2,k3,k4,k5,k6,k7⟩,-,-⟩;have HS5:=za hs5;clear hs5 HS4 HZ4);refine bodyPost_ret (v:=.tuple #[zcM,.bool false,.int .i64 0]) (by simp[results,Tryz.results65,go_sem,k0,k1,k2,k3,k4,k5,k6,k7,rq0]) rfl ⟨a4,rfl,?_⟩;have:=HS5.out;rw[HM1.out] at this;exact this
end Go.Proofs.YtlhgjplipgandaaGreat
namespace Go.Proofs.YtlhgjplipgandaaGreat
open Go.RowKit Go.BigFrame
attribute [local go_sem] ze.cell ze.frozen
theorem zeC(l:List Bf)(a:Option Addr)(c:Nat)(at':Int)(w:World)(hl:zB w a l)(h:zap (plB at') l=-1) :
  Calls Tryz.prog 53 #[.slice a l.length c,.int .i64 at'] w fun e w'=>e=.returned (.tuple #[zkt,.bool false])∧Below w.heap.size w w':=by
 have hb3:=hl.2;have hno:∀j (hj:j<l.length),(l[j].pl==at')=false:=by
  rcases zbi (plB at') l with⟨_,h1⟩|⟨k,hk,e,_⟩
  ·exact h1
  ·rw[h] at e;omega
 have HN:=zk hno;clear hno h;go_enter Tryz.func53,Tryz.ntmps53;go_wp2
 go_loopw[6] (fun i wr=>∃k:Nat,k≤l.length∧i=.int .i64 k∧Below (w.alloc (.cells #[.int .i64 0,.string ⟨#[]⟩,.bool false,.int .i64 0] 97)).heap.size (w.alloc (.cells #[.int .i64 0,.string ⟨#[]⟩,.bool false,.int .i64 0] 97)) wr) (fun i _=>l.length-(intOf i).toNat)
 case atStart=>exact⟨0,by omega,rfl,Below.refl _ _⟩
 case round =>
  obtain⟨k,hk,rfl,HB⟩:=hrel;obtain⟨⟨m0,m1,m2,m3⟩,⟨f0,f1,f2,f3⟩,hz⟩:=zg2 HB;have HB1:Below w.heap.size w wr:=zb (zn _ _) HB
  by_cases hlt:k<l.length
  ·have h0:l ≠ []:=by rintro rfl;exact absurd hlt (Nat.not_lt_zero _)
   obtain⟨b,o,rfl⟩:=hl.form.resolve_left h0;obtain⟨c0,c1,c2,c3⟩:=(hl.later HB1).cells hlt;have hk':=HN.out k hlt;clear HN h0;go_wp2;go_roundw
   case rel=>exact⟨k+1,by omega,by go_num,HB⟩
   case measure=>simp[intOf];omega
  ·clear HB;go_wp2;refine bodyPost_ret (v:=.tuple #[zkt,.bool false]) ?_ rfl ⟨rfl,by(with_reducible repeat first|exact Below.refl _ _|refine zc ?_ _|refine zd ?_|refine bset' ?_ (by omega) _|refine zb ?_ (by assumption))⟩
   simp[results,Tryz.results53,go_sem,m0,m1,m2,m3]
theorem zeI(l:List Bf)(a:Option Addr)(c:Nat)(at':Int)(w:World)(hl:zB w a l)(j:Nat)(hj:j<l.length)(h:zap (plB at') l=j) :
  Calls Tryz.prog 53 #[.slice a l.length c,.int .i64 at'] w fun e w'=>e=.returned (.tuple #[l[j].val,.bool true])∧Below w.heap.size w w':=by
 have hb3:=hl.2;have hno:(l[j].pl==at')=true∧∀i (hi:i<j),((l[i]'(by omega)).pl==at')=false:=by
  rcases zbi (plB at') l with⟨e,_⟩|⟨k,hk,e,h1,h2⟩
  ·rw[h] at e;omega
  ·have:k=j:=by rw[h] at e;omega
   subst this;exact⟨h1,h2⟩
 obtain⟨hyes,hno⟩:=hno;have hno':∀i (hi:i<l.length),i<j→(l[i].pl==at')=false:=fun i _ hij=>hno i hij
 have HN:=zk hno';have HY:=zk hyes;clear hno hno' hyes h;have h0:l ≠ []:=by rintro rfl;exact absurd hj (Nat.not_lt_zero _)
 obtain⟨b,o,rfl⟩:=hl.form.resolve_left h0;have lb:=zh (hl.cells hj).1;clear h0;go_enter Tryz.func53,Tryz.ntmps53;go_wp2
 go_loopw[6] (fun i wr=>∃k:Nat,k≤j∧i=.int .i64 k∧Below (w.alloc (.cells #[.int .i64 0,.string ⟨#[]⟩,.bool false,.int .i64 0] 97)).heap.size (w.alloc (.cells #[.int .i64 0,.string ⟨#[]⟩,.bool false,.int .i64 0] 97)) wr) (fun i _=>l.length-(intOf i).toNat)
 case atStart=>exact⟨0,by omega,rfl,Below.refl _ _⟩
 case round =>
  obtain⟨k,hk,rfl,HB⟩:=hrel;obtain⟨⟨m0,m1,m2,m3⟩,⟨f0,f1,f2,f3⟩,hz⟩:=zg2 HB;have HB1:Below w.heap.size w wr:=zb (zn _ _) HB;have hlt:k<l.length:=by omega
  obtain⟨c0,c1,c2,c3⟩:=(hl.later HB1).cells hlt;have l0:=zh c0;have n1:b ≠ w.heap.size:=by omega
  by_cases hkj:k=j
  ·subst hkj;have hk':=HY.out;clear HN HY HB;go_wp2;refine bodyPost_ret (v:=.tuple #[l[k].val,.bool true]) ?_ rfl ⟨rfl,by(with_reducible repeat first|exact Below.refl _ _|refine zc ?_ _|refine zd ?_|refine bset' ?_ (by omega) _|refine zb ?_ (by assumption))⟩
   simp[results,Tryz.results53,go_sem,m0,m1,m2,m3]
  ·have hk':=HN.out k hlt (by omega);clear HN HY;go_wp2;go_roundw
   case rel=>exact⟨k+1,by omega,by go_num,HB⟩
   case measure=>simp[intOf];omega
def zbA(l:List Bf):Nat→Nat
 |0=>0
 |k+1=>match l[k]? with|some x=>(if x.dirty then zbA l k+1 else zbA l k)|none=>zbA l k
theorem zgf{l:List Bf}{k:Nat}(h:k<l.length)(hd:l[k].dirty=true):zbA l (k+1)=zbA l k+1:=by
 rw[zbA,List.getElem?_eq_getElem h];simp[hd]
theorem zgp{l:List Bf}{k:Nat}(h:k<l.length)(hd:l[k].dirty=false):zbA l (k+1)=zbA l k:=by
 rw[zbA,List.getElem?_eq_getElem h];simp[hd]
theorem zjJ(l:List Bf)(k:Nat):zbA l k≤k:=by
 induction k with
 |zero=>exact Nat.le_refl _
 |succ k ih =>
  rw[zbA]
  split
  ·split<;>omega
  ·omega
theorem ziy(l:List Bf)(a:Option Addr)(c:Nat)(w:World)(hl:zB w a l)(n:Nat)(hn:zbA l l.length=n) :
  Calls Tryz.prog 35 #[.slice a l.length c] w fun e w'=>e=.returned (.int .i64 n)∧Below w.heap.size w w':=by
 subst hn;have hb3:=hl.2;go_enter Tryz.func35,Tryz.ntmps35;go_wp2
 go_loopw[3,4] (fun n i wr=>∃k:Nat,k≤l.length∧i=.int .i64 k∧n=.int .i64 (zbA l k)∧Below w.heap.size w wr) (fun n i _=>l.length-(intOf i).toNat)
 case atStart=>exact⟨0,by omega,rfl,rfl,by(with_reducible repeat first|exact Below.refl _ _|refine zc ?_ _|refine zd ?_|refine bset' ?_ (by omega) _|refine zb ?_ (by assumption))⟩
 case round =>
  obtain⟨k,hk,rfl,rfl,HB⟩:=hrel;have hd:=zjJ l k
  by_cases hlt:k<l.length
  ·have h0:l ≠ []:=by rintro rfl;exact absurd hlt (Nat.not_lt_zero _)
   obtain⟨b,o,rfl⟩:=hl.form.resolve_left h0;obtain⟨c0,c1,c2,c3⟩:=(hl.later HB).cells hlt;clear h0
   cases hdd:l[k].dirty
   ·have HD:=zk (zgp hlt hdd);rw[hdd] at c2;clear hdd;go_wp2;go_roundw
    case rel=>exact⟨k+1,by omega,by go_num,by rw[HD.out],by(with_reducible repeat first|exact Below.refl _ _|refine zc ?_ _|refine zd ?_|refine bset' ?_ (by omega) _|refine zb ?_ (by assumption))⟩
    case measure=>simp[intOf];omega
   ·have HD:=zk (zgf hlt hdd);rw[hdd] at c2;clear hdd;go_wp2;go_roundw
    case rel=>exact⟨k+1,by omega,by go_num,by rw[HD.out];go_num,by(with_reducible repeat first|exact Below.refl _ _|refine zc ?_ _|refine zd ?_|refine bset' ?_ (by omega) _|refine zb ?_ (by assumption))⟩
    case measure=>simp[intOf];omega
  ·obtain rfl:k=l.length:=by omega
   go_wp2;go_ret;exact⟨rfl,by(with_reducible repeat first|exact Below.refl _ _|refine zc ?_ _|refine zd ?_|refine bset' ?_ (by omega) _|refine zb ?_ (by assumption))⟩
theorem zpB(l:List Bf)(a:Option Addr)(c:Nat)(w:World)(hl:zB w a l)(n:Nat)(hn:zbA l l.length=n) :
  Calls Tryz.prog 44 #[.slice a l.length c] w fun e w'=>e=.returned (.int .i64 n)∧Below w.heap.size w w':=by
 subst hn;have hb3:=hl.2;go_enter Tryz.func44,Tryz.ntmps44;go_wp2
 go_loopw[3,8] (fun n i wr=>∃k:Nat,k≤l.length∧i=.int .i64 k∧n=.int .i64 (zbA l k)∧Below w.heap.size w wr) (fun n i _=>l.length-(intOf i).toNat)
 case atStart=>exact⟨0,by omega,rfl,rfl,by(with_reducible repeat first|exact Below.refl _ _|refine zc ?_ _|refine zd ?_|refine bset' ?_ (by omega) _|refine zb ?_ (by assumption))⟩
 case round =>
  obtain⟨k,hk,rfl,rfl,HB⟩:=hrel;have hd:=zjJ l k
  by_cases hlt:k<l.length
  ·have h0:l ≠ []:=by rintro rfl;exact absurd hlt (Nat.not_lt_zero _)
   obtain⟨b,o,rfl⟩:=hl.form.resolve_left h0;obtain⟨c0,c1,c2,c3⟩:=(hl.later HB).cells hlt;clear h0
   cases hdd:l[k].dirty
   ·have HD:=zk (zgp hlt hdd);rw[hdd] at c2;clear hdd;go_wp2;go_roundw
    case rel=>exact⟨k+1,by omega,by go_num,by rw[HD.out],by(with_reducible repeat first|exact Below.refl _ _|refine zc ?_ _|refine zd ?_|refine bset' ?_ (by omega) _|refine zb ?_ (by assumption))⟩
    case measure=>simp[intOf];omega
   ·have HD:=zk (zgf hlt hdd);rw[hdd] at c2;clear hdd;go_wp2;go_roundw
    case rel=>exact⟨k+1,by omega,by go_num,by rw[HD.out];go_num,by(with_reducible repeat first|exact Below.refl _ _|refine zc ?_ _|refine zd ?_|refine bset' ?_ (by omega) _|refine zb ?_ (by assumption))⟩
    case measure=>simp[intOf];omega
  ·obtain rfl:k=l.length:=by omega
   go_wp2;go_ret;exact⟨rfl,by(with_reducible repeat first|exact Below.refl _ _|refine zc ?_ _|refine zd ?_|refine bset' ?_ (by omega) _|refine zb ?_ (by assumption))⟩
theorem zqJ{w:World}{hs:Array Value}{B:Nat→Bool}{T:TypeId}(hB:∀i,i<32→hs[i]?=some (.bool (B i))):zin (w.alloc (.cells hs T)) w.heap.size B:=by
 intro i hi;have:=hB i hi;have h:=heap_alloc_new w (.cells hs T);simp only[World.cell?,h];exact this
theorem zpf{d:Bool}{B:Nat→Bool}{x:Bf}{q:Nat}(hq:x.pl=(q:Int))(h32:q<32):zaw d (zbT B) x=((x.dirty==d)&&!B q):=by
 rw[zaw,hq,zbT,decide_eq_true (show(0:Int)≤(q:Int) by omega),decide_eq_true (show(q:Int)<32 by omega)]
 simp
theorem ziN(l:List Bf)(a:Option Addr)(c:Nat)(d:Bool)(hs:Array Value)(B:Nat→Bool)(w:World)(hl:zB w a l)(G:zbq l)(hB:∀i,i<32→hs[i]?=some (.bool (B i)))(r:Int)(hr:zab (zaw d (zbT B)) l l.length=r) :
  Calls Tryz.prog 88 #[.slice a l.length c,.bool d,.agg hs] w fun e w'=>e=.returned (.int .i64 r)∧Below w.heap.size w w':=by
 subst hr;have hb3:=hl.2;have HG:=zk G;have HV:=zk (zqJ (w:=w) (T:=104) hB);clear G hB;go_enter Tryz.func88,Tryz.ntmps88;go_wp2
 go_loopw[7,8] (fun n i wr=>∃k:Nat,k≤l.length∧i=.int .i64 k∧n=.int .i64 (zab (zaw d (zbT B)) l k)∧Below (w.alloc (.cells hs 104)).heap.size (w.alloc (.cells hs 104)) wr) (fun _ i _=>l.length-(intOf i).toNat)
 case atStart=>exact⟨0,by omega,rfl,rfl,Below.refl _ _⟩
 case round =>
  obtain⟨k,hk,rfl,rfl,HB⟩:=hrel;have HB1:Below w.heap.size w wr:=zb (zn _ _) HB
  by_cases hlt:k<l.length
  ·have h0:l ≠ []:=by rintro rfl;exact absurd hlt (Nat.not_lt_zero _)
   obtain⟨b,o,rfl⟩:=hl.form.resolve_left h0;have hl1:=hl.later HB1;obtain⟨c0,c1,c2,c3⟩:=hl1.cells hlt;have l0:=zh c0;obtain⟨g1,g2,-⟩:=HG.out.ok k hlt;obtain⟨q,hq⟩:=Int.eq_ofNat_of_zero_le g1;have hq32:q<32:=by omega
   have hv:=HV.out.later HB q hq32;have lv:=zh hv;have q1:(q:Int)<32:=by omega
   have HF:=zk (zpf (d:=d) (B:=B) hq hq32);rw[hq] at c0;have HQ:=zk hq;have HW:=zk HB;clear h0 hl HB HB1 hq g1 g2 HV
   cases hd:(l[k].dirty==d)
   ·have hf:zaw d (zbT B) l[k]=false:=by rw[HF.out,hd];rfl
    have HL:=zk (zea hlt hf rfl);clear hf HF;go_wp2_with fail;refine zj (by first|exact HB|exact zd HB|exact Below.refl _ _) (by kernel_rfl) (by kernel_rfl) ?_
    repeat(go_big_quiet_step (first|exact rfl|fail))
    refine wpQuiet_nil ?_;intro _ hw';obtain⟨p,hw''⟩:=hw';subst hw'';(try clear hc hf hz);(try clear HB);have HB:=p.below;obtain⟨hc,hf,hz⟩:=zu HB;go_wp2;go_roundw
    case rel=>exact⟨k+1,by omega,by go_num,by rw[HL.out],zb HW.out HB⟩
    case measure=>simp[intOf];omega
   ·cases hbq:B q
    ·have hf:zaw d (zbT B) l[k]=true:=by rw[HF.out,hd,hbq];rfl
     rw[hbq] at hv
     rcases zbd (zaw d (zbT B)) l k (by omega) with⟨hr,-⟩|⟨j,hj,-,hr,-⟩
     ·have HL:=zk (zeN hlt hf hr);rw[hr];clear hf HF hr hbq;go_wp2_with fail;refine zj (by first|exact HB|exact zd HB|exact Below.refl _ _) (by kernel_rfl) (by kernel_rfl) ?_
      repeat(go_big_quiet_step (first|exact rfl|fail))
      refine wpQuiet_nil ?_;intro _ hw';obtain⟨p,hw''⟩:=hw';subst hw'';(try clear hc hf hz);(try clear HB);have HB:=p.below;obtain⟨hc,hf,hz⟩:=zu HB;go_wp2;go_roundw
      case rel=>exact⟨k+1,by omega,by go_num,by rw[HL.out],zb HW.out HB⟩
      case measure=>simp[intOf];omega
     ·obtain⟨d0,d1,d2,d3⟩:=hl1.cells hj;rw[hr];have j0:decide ((j:Int)<0)=false:=decide_eq_false (by omega);have j1:(j:Int)<(l.length:Int):=by omega
      by_cases hu:l[k].used<l[j].used
      ·have HL:=zk (zgH hlt hj hf hr hu);have u0:decide (l[k].used<l[j].used)=true:=decide_eq_true hu;clear hf HF hr hbq hu;go_wp2_with fail;refine zj (by first|exact HB|exact zd HB|exact Below.refl _ _) (by kernel_rfl) (by kernel_rfl) ?_
       repeat(go_big_quiet_step (first|exact rfl|fail))
       refine wpQuiet_nil ?_;intro _ hw';obtain⟨p,hw''⟩:=hw';subst hw'';(try clear hc hf hz);(try clear HB);have HB:=p.below;obtain⟨hc,hf,hz⟩:=zu HB;go_wp2;go_roundw
       case rel=>exact⟨k+1,by omega,by go_num,by rw[HL.out],zb HW.out HB⟩
       case measure=>simp[intOf];omega
      ·have HL:=zk (zgo hlt hj hf hr hu);have u0:decide (l[k].used<l[j].used)=false:=decide_eq_false hu;clear hf HF hr hbq hu;go_wp2_with fail;refine zj (by first|exact HB|exact zd HB|exact Below.refl _ _) (by kernel_rfl) (by kernel_rfl) ?_
       repeat(go_big_quiet_step (first|exact rfl|fail))
       refine wpQuiet_nil ?_;intro _ hw';obtain⟨p,hw''⟩:=hw';subst hw'';(try clear hc hf hz);(try clear HB);have HB:=p.below;obtain⟨hc,hf,hz⟩:=zu HB;go_wp2;go_roundw
       case rel=>exact⟨k+1,by omega,by go_num,by rw[HL.out],zb HW.out HB⟩
       case measure=>simp[intOf];omega
    ·have hf:zaw d (zbT B) l[k]=false:=by rw[HF.out,hd,hbq];rfl
     have HL:=zk (zea hlt hf rfl);rw[hbq] at hv;clear hf HF hbq;go_wp2_with fail;refine zj (by first|exact HB|exact zd HB|exact Below.refl _ _) (by kernel_rfl) (by kernel_rfl) ?_
     repeat(go_big_quiet_step (first|exact rfl|fail))
     refine wpQuiet_nil ?_;intro _ hw';obtain⟨p,hw''⟩:=hw';subst hw'';(try clear hc hf hz);(try clear HB);have HB:=p.below;obtain⟨hc,hf,hz⟩:=zu HB;go_wp2;go_roundw
     case rel=>exact⟨k+1,by omega,by go_num,by rw[HL.out],zb HW.out HB⟩
     case measure=>simp[intOf];omega
  ·obtain rfl:k=l.length:=by omega
   go_wp2;go_ret;exact⟨rfl,HB1⟩
end Go.Proofs.YtlhgjplipgandaaGreat
namespace Go.Proofs.YtlhgjplipgandaaGreat
open Go.RowKit Go.BigFrame
def zct(base:Nat)(a:Option Addr)(c n:Nat):Prop:=(a=none→c=0)∧n≤c∧∀p,a=some p→base≤p.block
theorem zct.mono{b b':Nat}{a:Option Addr}{c n:Nat}(h:zct b a c n)(hb:b'≤b):zct b' a c n:=⟨h.1,h.2.1,fun p hp=>Nat.le_trans hb (h.2.2 p hp)⟩
theorem zjG{w:World}{base e size n c:Nat}{a:Option Addr}{xs:List Value}(h:w.ownsRow base e size (.slice a n c) n xs):∀p,a=some p→base≤p.block:=by
 rintro p rfl
 rcases h.2 with⟨h1,_⟩|⟨g,cap,cur,h1,hg,_⟩
 ·cases h1
 ·simp only[Value.slice.injEq,Option.some.injEq] at h1;rw[h1.1];exact hg
theorem zaN.newAt{base:Nat}{w:World}{a:Option Addr}{c:Nat}{l:List Bf}(h:zaN base w a c l):zct base a c l.length:=⟨h.nil,h.cap,zjG h.own⟩
theorem zco.newAt{base:Nat}{w:World}{a:Option Addr}{c:Nat}{l:List Rq}(h:zco base w a c l):zct base a c l.length:=⟨h.nil,h.cap,zjG h.own⟩
end Go.Proofs.YtlhgjplipgandaaGreat
namespace Go.Proofs.YtlhgjplipgandaaGreat
open Go.RowKit Go.BigFrame
attribute [local go_sem] ze.cell ze.frozen
theorem zf9(w:World)(hs:Array Value)(T:TypeId):(w.alloc (.cells hs T)).rangeAt w.heap.size 0 hs.toList:=by
 intro j v hj;have h:=heap_alloc_new w (.cells hs T);simp only[World.cell?,h,Nat.zero_add]
 simpa using hj
theorem zry(l:List Bf)(a:Option Addr)(c:Nat)(hs:Array Value)(hz:hs.size=32)(B:Nat→Bool)(w:World)(hl:zB w a l)(G:zbq l)(hB:∀i,i<32→hs[i]?=some (.bool (B i)))(hr:zab (zaw true (zbT B)) l l.length=-1) :
  Calls Tryz.prog 51 #[.slice a l.length c,.agg hs] w fun e w'=>e=.returned (.int .i64 (-1))∧Below w.heap.size w w':=by
 have HR:=zk hr;have HB0:=zk hB;clear hr hB;have hsz:Hid ((Tryz.prog.info? 104).map (·.size)=some hs.toList.length):=(by rw[Hid,Array.length_toList,hz];kernel_rfl)
 have HRG:=zk (zf9 w hs 104);have b0:=zn w (.cells hs 104);clear hz;go_enter Tryz.func51,Tryz.ntmps51;go_wp2_with(refine wpList_load_mid rfl 104 (.tmp 3) rfl w.heap.size 0 rfl hs.toList _ HRG.out Tryz.underlying104 rfl hsz.out ?_);refine(ziN l a c true hs B _ (hl.later b0) G HB0.out _ HR.out).mono ?_;rintro e w1 ⟨rfl,HB⟩;go_wp2;go_ret;exact⟨rfl,by(with_reducible repeat first|exact Below.refl _ _|refine zc ?_ _|refine zd ?_|refine bset' ?_ (by omega) _|refine zb ?_ (by assumption))⟩
theorem zpp(l:List Bf)(a:Option Addr)(c:Nat)(hs:Array Value)(hz:hs.size=32)(B:Nat→Bool)(w:World)(hl:zB w a l)(G:zbq l)(hB:∀i,i<32→hs[i]?=some (.bool (B i)))(k:Nat)(hk:k<l.length)(hr:zab (zaw true (zbT B)) l l.length=k) :
  Calls Tryz.prog 51 #[.slice a l.length c,.agg hs] w fun e w'=>e=.returned (.int .i64 l[k].pl)∧Below w.heap.size w w':=by
 have h0:l ≠ []:=by rintro rfl;exact absurd hk (Nat.not_lt_zero _)
 obtain⟨b,o,rfl⟩:=hl.form.resolve_left h0;have hb3:=hl.2;have HR:=zk hr;have HB0:=zk hB;clear hr hB h0;have hsz:Hid ((Tryz.prog.info? 104).map (·.size)=some hs.toList.length):=(by rw[Hid,Array.length_toList,hz];kernel_rfl)
 have HRG:=zk (zf9 w hs 104);have b0:=zn w (.cells hs 104);clear hz;go_enter Tryz.func51,Tryz.ntmps51;go_wp2_with(refine wpList_load_mid rfl 104 (.tmp 3) rfl w.heap.size 0 rfl hs.toList _ HRG.out Tryz.underlying104 rfl hsz.out ?_);refine(ziN l _ c true hs B _ (hl.later b0) G HB0.out _ HR.out).mono ?_;rintro e w1 ⟨rfl,HB⟩;obtain⟨c0,c1,c2,c3⟩:=((hl.later b0).later HB).cells hk;go_wp2;go_ret;exact⟨rfl,by(with_reducible repeat first|exact Below.refl _ _|refine zc ?_ _|refine zd ?_|refine bset' ?_ (by omega) _|refine zb ?_ (by assumption))⟩
def zck(f:Bf→Bf)(l:List Bf)(k:Nat):List Bf:=(l.take k).map f++l.drop k
theorem zoM(f:Bf→Bf)(l:List Bf):zck f l 0=l:=by simp[zck]
theorem zk4(f:Bf→Bf)(l:List Bf):zck f l l.length=l.map f:=by simp[zck]
theorem zff(f:Bf→Bf)(l:List Bf)(k:Nat):(zck f l k).length=l.length:=by
 simp only[zck,List.length_append,List.length_map,List.length_take,List.length_drop];omega
theorem zfH(f:Bf→Bf)(l:List Bf)(k:Nat)(hk:k<l.length)(h:k<(zck f l k).length):(zck f l k)[k]=l[k]:=by
 simp only[zck];rw[List.getElem_append_right (by rw[List.length_map,List.length_take];omega)]
 simp[List.length_take,Nat.min_eq_left (Nat.le_of_lt hk)]
theorem zgQ(f:Bf→Bf)(l:List Bf)(k:Nat)(hk:k<l.length):(zck f l k).set k (f l[k])=zck f l (k+1):=by
 have e:((l.take k).map f).length=k:=by rw[List.length_map,List.length_take];omega
 rw[zck,List.set_append_right _ _ (by omega),e,Nat.sub_self,zck,List.take_succ_eq_append_getElem hk,List.map_append,List.append_assoc]
 congr 1
 rw[List.drop_eq_getElem_cons hk]
 rfl
theorem zjI(f:Bf→Bf)(l:List Bf)(k:Nat)(hk:k<l.length)(h:f l[k]=l[k]):zck f l (k+1)=zck f l k:=by
 rw[←zgQ f l k hk,h];have h':k<(zck f l k).length:=by rw[zff];exact hk
 conv=>lhs;rw[←zfH f l k hk h']
 exact List.set_getElem_self h'
def zfg(at' now:Int)(x:Bf):Bf:=if x.pl=at' then { x with used:=now } else x
theorem zqH(l:List Bf)(at' now:Int):l.map (zfg at' now)=useL l at' now:=rfl
def zc3(at':Int)(data:ByteArray)(x:Bf):Bf:=if x.pl=at'∧x.data=data then { x with dirty:=false } else x
theorem znJ(l:List Bf)(at':Int)(data:ByteArray):l.map (zc3 at' data)=cleanL l at' data:=rfl
theorem ruseN(l:List Bf)(a:Option Addr)(c:Nat)(at' now:Int)(w:World)(hl:zB w a l)(hn:a=none→c=0)(h10:l.length≤1000) :
  Calls Tryz.prog 76 #[.slice a l.length c,.int .i64 at',.int .i64 now] w fun e w'=>∃a' c',e=.returned (.slice a' l.length c')∧zB w' a' (useL l at' now)∧Below w.heap.size w w'∧zct w.heap.size a' c' l.length:=by
 obtain⟨i,hi,hz0,hz1,hz2⟩:=zaL ze5;have R:=hl.rowAll hn;have HL:Hid (l.length≤1000):=h10;go_enter Tryz.func76,Tryz.ntmps76;go_wp2_with(at_builtin;refine zq rfl _ _ 56 rfl w.heap.size 97 i _ 4 40 Tryz.underlying56 hi hz0 hz1 hz2 rfl (by decide) _ 0 [] rfl (World.ownsRow_nil _ _ _ _) a l.length c (zr l) rfl (R.later (by(with_reducible repeat first|exact Below.refl _ _|refine zc ?_ _|refine zd ?_|refine bset' ?_ (by omega) _|refine zb ?_ (by assumption)))) (by unfold maxLen;omega) (by omega) (by simp) ?_;intro v1 w2 hown1 hb1);rw[Nat.zero_add,List.nil_append] at hown1;obtain⟨a1,c1,rfl,hN⟩:=zaP hown1 rfl (by have:=HL.out;omega);have cp:=hN.cap;have cm:=hN.capM;have HN:=zk hN;have HNA:=zk hN.newAt;clear hown1 hN R
 go_loopw[8] (fun i wr=>∃k:Nat,k≤l.length∧i=.int .i64 k∧zB wr a1 (zck (zfg at' now) l k)∧(∀b,a1=some ⟨b,0,none⟩→b<wr.heap.size∧∀o,wr.frozen? ⟨b,o,none⟩=false)∧Below w.heap.size w wr) (fun i _=>l.length-(intOf i).toNat)
 case atStart =>
  refine⟨0,by omega,rfl,by rw[zoM];exact HN.out.here,fun b hb=>?_,hb1⟩;have hlt:=HN.out.lt b hb;refine⟨hlt,fun o=>?_⟩;subst hb
  rcases HN.out.own.2 with⟨h1,_⟩|⟨g,cap,cur,h1,hg,hh,_⟩
  ·cases h1
  ·simp only[Value.slice.injEq,Option.some.injEq,Addr.mk.injEq,and_true] at h1;obtain⟨rfl,_⟩:=h1
   simp[World.frozen?,hh]
 case round =>
  obtain⟨k,hk,rfl,hU,hfz,HB⟩:=hrel
  by_cases hlt:k<l.length
  ·have h0:l ≠ []:=by rintro rfl;exact absurd hlt (Nat.not_lt_zero _)
   obtain⟨b,rfl,-,-,-⟩:=HN.out.place h0;obtain⟨hbl,hf⟩:=hfz b rfl;have hge:=HN.out.own.2;have hbw:w.heap.size≤b:=by
    rcases hge with⟨h1,_⟩|⟨g,cap,cur,h1,hg,_⟩
    ·cases h1
    ·simp only[Value.slice.injEq,Option.some.injEq,Addr.mk.injEq,and_true] at h1;obtain⟨rfl,_⟩:=h1;exact hg
   have hlt':k<(zck (zfg at' now) l k).length:=by rw[zff];exact hlt
   obtain⟨c0,c1',c2,c3⟩:=hU.cells hlt';rw[zfH _ _ _ hlt,Nat.zero_add] at c0 c1' c2 c3;have f3:=hf (k*4+3);have HU:=zk hU;have HF:=zk hf;clear hU hfz hf h0 hge HN
   by_cases hp:l[k].pl=at'
   ·have e:zfg at' now l[k]={ l[k] with used:=now }:=by rw[zfg,if_pos hp]
    have HS:=zk (zgQ (zfg at' now) l k hlt);have HE:=zk e;have HA:=zk (zfH (zfg at' now) l k hlt hlt');have s1:(l[k].pl==at')=true:=by rw[hp];simp
    clear hp e;go_wp2;go_roundw
    case rel =>
     refine⟨k+1,by omega,by go_num,?_,fun b' hb'=>?_,by(with_reducible repeat first|exact Below.refl _ _|refine zc ?_ _|refine zd ?_|refine bset' ?_ (by omega) _|refine zb ?_ (by assumption))⟩
     ·rw[←HS.out,HE.out];have:=HU.out.set hlt' 3 (by omega) { l[k] with used:=now } (.int .i64 now) rfl (fun i hi hne=>by rw[HA.out];rcases(show i=0∨i=1∨i=2 by omega) with rfl|rfl|rfl<;>rfl);rw[Nat.zero_add] at this;exact this
     ·simp only[Option.some.injEq,Addr.mk.injEq,and_true] at hb';subst hb';exact⟨by simpa using hbl,fun o=>by simpa using HF.out o⟩
    case measure=>simp[intOf];omega
   ·have e:zfg at' now l[k]=l[k]:=by rw[zfg,if_neg hp]
    have HS:=zk (zjI (zfg at' now) l k hlt e);have s1:(l[k].pl==at')=false:=by rw[beq_eq_false_iff_ne];exact hp
    clear hp e;go_wp2;go_roundw
    case rel =>
     refine⟨k+1,by omega,by go_num,by rw[HS.out];exact HU.out,fun b' hb'=>?_,by(with_reducible repeat first|exact Below.refl _ _|refine zc ?_ _|refine zd ?_|refine bset' ?_ (by omega) _|refine zb ?_ (by assumption))⟩;simp only[Option.some.injEq,Addr.mk.injEq,and_true] at hb';subst hb';exact⟨hbl,HF.out⟩
    case measure=>simp[intOf];omega
  ·obtain rfl:k=l.length:=by omega
   rw[zk4,zqH] at hU;have HU:=zk hU;clear hU hfz HN;go_wp2;go_ret;exact⟨a1,c1,rfl,HU.out,HB,HNA.out⟩
theorem zsf(l:List Bf)(a:Option Addr)(c:Nat)(at':Int)(data:ByteArray)(w:World)(hl:zB w a l)(hn:a=none→c=0)(h10:l.length≤1000) :
  Calls Tryz.prog 68 #[.slice a l.length c,.int .i64 at',.string data] w fun e w'=>∃a' c',e=.returned (.slice a' l.length c')∧zB w' a' (cleanL l at' data)∧Below w.heap.size w w'∧zct w.heap.size a' c' l.length:=by
 obtain⟨i,hi,hz0,hz1,hz2⟩:=zaL ze5;have R:=hl.rowAll hn;have HL:Hid (l.length≤1000):=h10;go_enter Tryz.func68,Tryz.ntmps68;go_wp2_with(at_builtin;refine zq rfl _ _ 56 rfl w.heap.size 97 i _ 4 40 Tryz.underlying56 hi hz0 hz1 hz2 rfl (by decide) _ 0 [] rfl (World.ownsRow_nil _ _ _ _) a l.length c (zr l) rfl (R.later (by(with_reducible repeat first|exact Below.refl _ _|refine zc ?_ _|refine zd ?_|refine bset' ?_ (by omega) _|refine zb ?_ (by assumption)))) (by unfold maxLen;omega) (by omega) (by simp) ?_;intro v1 w2 hown1 hb1);rw[Nat.zero_add,List.nil_append] at hown1;obtain⟨a1,c1,rfl,hN⟩:=zaP hown1 rfl (by have:=HL.out;omega);have cp:=hN.cap;have cm:=hN.capM;have HN:=zk hN;have HNA:=zk hN.newAt;clear hown1 hN R
 go_loopw[8] (fun i wr=>∃k:Nat,k≤l.length∧i=.int .i64 k∧zB wr a1 (zck (zc3 at' data) l k)∧(∀b,a1=some ⟨b,0,none⟩→b<wr.heap.size∧∀o,wr.frozen? ⟨b,o,none⟩=false)∧Below w.heap.size w wr) (fun i _=>l.length-(intOf i).toNat)
 case atStart =>
  refine⟨0,by omega,rfl,by rw[zoM];exact HN.out.here,fun b hb=>?_,hb1⟩;have hlt:=HN.out.lt b hb;refine⟨hlt,fun o=>?_⟩;subst hb
  rcases HN.out.own.2 with⟨h1,_⟩|⟨g,cap,cur,h1,hg,hh,_⟩
  ·cases h1
  ·simp only[Value.slice.injEq,Option.some.injEq,Addr.mk.injEq,and_true] at h1;obtain⟨rfl,_⟩:=h1
   simp[World.frozen?,hh]
 case round =>
  obtain⟨k,hk,rfl,hU,hfz,HB⟩:=hrel
  by_cases hlt:k<l.length
  ·have h0:l ≠ []:=by rintro rfl;exact absurd hlt (Nat.not_lt_zero _)
   obtain⟨b,rfl,-,-,-⟩:=HN.out.place h0;obtain⟨hbl,hf⟩:=hfz b rfl;have hge:=HN.out.own.2;have hbw:w.heap.size≤b:=by
    rcases hge with⟨h1,_⟩|⟨g,cap,cur,h1,hg,_⟩
    ·cases h1
    ·simp only[Value.slice.injEq,Option.some.injEq,Addr.mk.injEq,and_true] at h1;obtain⟨rfl,_⟩:=h1;exact hg
   have hlt':k<(zck (zc3 at' data) l k).length:=by rw[zff];exact hlt
   obtain⟨c0,c1',c2,c3⟩:=hU.cells hlt';rw[zfH _ _ _ hlt,Nat.zero_add] at c0 c1' c2 c3;have f3:=hf (k*4+3);have HU:=zk hU;have HF:=zk hf;clear hU hfz hf h0 hge HN;have f2:=HF.out (k*4+2);have hbw1:=hbw
   by_cases hp:l[k].pl=at'∧l[k].data=data
   ·have e:zc3 at' data l[k]={ l[k] with dirty:=false }:=by rw[zc3,if_pos hp]
    have HS:=zk (zgQ (zc3 at' data) l k hlt);have HE:=zk e;have HA:=zk (zfH (zc3 at' data) l k hlt hlt');have s1:(l[k].pl==at')=true:=by rw[hp.1];simp
    have s2:=zne hp.2;clear hp e f3;go_wp2;go_roundw
    case rel =>
     refine⟨k+1,by omega,by go_num,?_,fun b' hb'=>?_,by(with_reducible repeat first|exact Below.refl _ _|refine zc ?_ _|refine zd ?_|refine bset' ?_ (by omega) _|refine zb ?_ (by assumption))⟩
     ·rw[←HS.out,HE.out];have:=HU.out.set hlt' 2 (by omega) { l[k] with dirty:=false } (.bool false) rfl (fun i hi hne=>by rw[HA.out];rcases(show i=0∨i=1∨i=3 by omega) with rfl|rfl|rfl<;>rfl);rw[Nat.zero_add] at this;exact this
     ·simp only[Option.some.injEq,Addr.mk.injEq,and_true] at hb';subst hb';exact⟨by simpa using hbl,fun o=>by simpa using HF.out o⟩
    case measure=>simp[intOf];omega
   ·have e:zc3 at' data l[k]=l[k]:=by rw[zc3,if_neg hp]
    have HS:=zk (zjI (zc3 at' data) l k hlt e)
    by_cases h1:l[k].pl=at'
    ·have s1:(l[k].pl==at')=true:=by rw[h1];simp
     have s2:=zm0 (fun h=>hp ⟨h1,h⟩);clear hp e h1 f3;go_wp2;go_roundw
     case rel =>
      refine⟨k+1,by omega,by go_num,by rw[HS.out];exact HU.out,fun b' hb'=>?_,by(with_reducible repeat first|exact Below.refl _ _|refine zc ?_ _|refine zd ?_|refine bset' ?_ (by omega) _|refine zb ?_ (by assumption))⟩;simp only[Option.some.injEq,Addr.mk.injEq,and_true] at hb';subst hb';exact⟨hbl,HF.out⟩
     case measure=>simp[intOf];omega
    ·have s1:(l[k].pl==at')=false:=by rw[beq_eq_false_iff_ne];exact h1
     clear hp e h1 f3;go_wp2;go_roundw
     case rel =>
      refine⟨k+1,by omega,by go_num,by rw[HS.out];exact HU.out,fun b' hb'=>?_,by(with_reducible repeat first|exact Below.refl _ _|refine zc ?_ _|refine zd ?_|refine bset' ?_ (by omega) _|refine zb ?_ (by assumption))⟩;simp only[Option.some.injEq,Addr.mk.injEq,and_true] at hb';subst hb';exact⟨hbl,HF.out⟩
     case measure=>simp[intOf];omega
  ·obtain rfl:k=l.length:=by omega
   rw[zk4,znJ] at hU;have HU:=zk hU;clear hU hfz HN;go_wp2;go_ret;exact⟨a1,c1,rfl,HU.out,HB,HNA.out⟩
end Go.Proofs.YtlhgjplipgandaaGreat
