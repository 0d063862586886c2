/- Joined texts: GDrv1, GDrv2, GDrv3. -/
import Derived.Maps.Views
import Derived.Test.YtlhgjplipgandaaGreatDoorD16
set_option maxRecDepth 100000
set_option maxHeartbeats 8000000
set_option linter.unusedSimpArgs false
namespace Go.Proofs.YtlhgjplipgandaaGreatDoor
open Go.RowKit Go.BigFrame Go.Maps
attribute [local go_sem] ze.cell ze.frozen
def zcU(D:DataW Unit)(f:Int→Int):Prop:=∀t,D.atKey (.int .i64 t) (.lit (.int .i64 0))=.lit (.int .i64 (f t))
theorem zmV:zcU (.map []) (fun _=>0):=fun _=>rfl
theorem zcU.put{D:DataW Unit}{f:Int→Int}(h:zcU D f)(hD:IsMap D)(t c:Int):zcU (D.put (.int .i64 t) (.lit (.int .i64 c))) (fun x=>if x=t then c else f x):=fun x=>by
 by_cases e:x=t
 ·subst e;rw[atKey_put_same hD (by trivial)];simp
 ·rw[atKey_put_other (by simpa using e)];simp[e,h x]
theorem zcU.del{D:DataW Unit}{f:Int→Int}(h:zcU D f)(t:Int):zcU (D.del (.int .i64 t)) (fun x=>if x=t then 0 else f x):=fun x=>by
 by_cases e:x=t
 ·subst e;rw[atKey_del_same];simp
 ·rw[atKey_del_other (by simpa using e)];simp[e,h x]
theorem zgN(b:Nat)(d:Dl)(a:An)(l:List Rq)(k:Nat)(r:Rq)(hb:d.busy=l)(hk:l[k]?=some r)(w:World)(h:zo b d a w) :
 Calls Tryz.prog 133 #[.pointer (some ⟨b,0,none⟩),.int .i64 k,.bool true] w fun e w'=>∃a',e=.returned (.tuple #[zaC r none 0 0 8,.nilIface])∧zw b d a { d with busy:=d.busy.eraseIdx k } a' w w':=by
 subst hb;obtain⟨hk',rfl⟩:=List.getElem?_eq_some_iff.1 hk;exact zmt b d a k hk' w h
theorem zpO(v b bm:Nat)(d:Dl)(a:An)(n:Nat)(D:DataW Unit)(i:Int)(fl:Bool)(w:World)(h:VAt v b bm d a n D w)(hi:i<0∨(d.busy.length:Int)≤i) :
 Calls Tryz.prog 87 #[.pointer (some ⟨v,0,none⟩),.int .i64 i,.bool fl] w fun e w'=>e=.returned (.tuple #[ze7,.bool false,.iface 87 (.int .i64 5)])∧Below w.heap.size w w':=by
 obtain⟨c0,c1⟩:=h.cells;have HV:=za h;have hv:=zi h.blk;have hm:=h.mlt;have hbv:=h.dev.lt;have hb0:=za (zs w (.cells #[.bool false,.int .i64 0,.int .i64 0,.slice none 0 0,.slice none 0 0,.int .i64 0,.slice none 0 0,.int .i64 0] 151));clear h;have HI:=za hi;clear hi;go_enter Tryz.func87,Tryz.ntmps87;go_wp2_with fail;refine(zn2 b d a i fl _ (HV.out.dev.later hb0.out) HI.out).mono ?_;rintro e w1 ⟨rfl,hb1⟩;have hz1:=(zcP w 151).only (F:=fun _=>False) (zh.of_below hb1) (fun e=>e);have hB1:=hb0.out.trans (hb1.mono hb0.out.size);have HZ1:=za hz1;have HB1:=za hB1;clear hb1 hB1 hz1;go_wp2_with(first
  |(refine zaQ rfl (.tmp 6) (.tmp 18) rfl w.heap.size rq0 none 0 0 0 rfl rfl (zbE HZ1.out) (fun wK=>Below w.heap.size w wK∧zbe wK w.heap.size rq0 none 0 0 0) ⟨HB1.out.trans ((zbd w1 w.heap.size _ _ _ _ _ _ _ _).below HB1.out.size (fun i e=>by omega)),zcr (zbE HZ1.out) HZ1.out.2.2⟩ ?_;rintro w2 ⟨hb2,hr2⟩;have HB2:=za hb2;have HR2:=za hr2;clear hb2 hr2 HB1 HZ1)
  |(refine zaQ rfl (.tmp 6) (.tmp 22) rfl w.heap.size rq0 none 0 0 0 rfl rfl HR2.out.2.1 (fun wK=>Below w.heap.size w wK∧zbe wK w.heap.size rq0 none 0 0 0) ⟨HB2.out.trans ((zbd w2 w.heap.size _ _ _ _ _ _ _ _).below HB2.out.size (fun i e=>by omega)),zcr HR2.out.2.1 HR2.out.2.2⟩ ?_;rintro w3 ⟨hb3,⟨z0,z1,z2,z3,z4,z5,z6,z7⟩,-,-⟩;have HB3:=za hb3;clear hb3 HB2 HR2))
 exact bodyPost_ret (v:=.tuple #[ze7,.bool false,.iface 87 (.int .i64 5)]) (by simp[results,Tryz.results87,go_sem,z0,z1,z2,z3,z4,z5,z6,z7,rq0]) rfl ⟨rfl,HB3.out⟩
structure zhu(bm:Nat)(d:Dl)(k:Nat)(r:Rq)(tg:Int):Prop where
 at':d.busy[k]?=some r
 tag:r.tags.getD 0 0=tg
 in':zai tg
 some':1≤r.tags.length
 off:∀q∈d.busy,q.Off (fun j=>j=bm)
theorem zhu.mem{bm:Nat}{d:Dl}{k:Nat}{r:Rq}{tg:Int}(h:zhu bm d k r tg):r∈d.busy:=List.mem_of_getElem? h.at'
theorem zkS(v b bm:Nat)(d:Dl)(a:An)(n:Nat)(D:DataW Unit)(k:Nat)(r:Rq)(tg c:Int)(w:World)(h:VAt v b bm d a n D w)(hr:zhu bm d k r tg)(hc:D.atKey (.int .i64 tg) (.lit (.int .i64 0))=.lit (.int .i64 c))(hc2:2≤c∧c≤100) :
 Calls Tryz.prog 87 #[.pointer (some ⟨v,0,none⟩),.int .i64 k,.bool true] w fun e w'=>∃a',e=.returned (.tuple #[zaC r none 0 0 8,.bool true,.nilIface])∧zaT v b bm d a n D { d with busy:=d.busy.eraseIdx k } a' n (D.del (.int .i64 tg)) w w':=by
 have HA0:=za (h.dev.reqs r hr.mem).1;have HMEM:=za hr.mem;have HRQ:=za hr;have HC:=za hc;have hkey:keyOf Tryz.prog 3 (.int .i64 tg)=some (.int .i64 tg):=keyOf_int_mk Tryz.underlying3 (WalkArith.wf_i64 hr.in');have h1:=hr.some';have hc3:¬c+1<3:=by omega
 obtain⟨hc4,hc5⟩:=hc2;clear hc hr;obtain⟨c0,c1⟩:=h.cells;have HV:=za h;have hv:=zi h.blk;have hm:=h.mlt;have hbv:=h.dev.lt;have hb0:=za (zs w (.cells #[.bool false,.int .i64 0,.int .i64 0,.slice none 0 0,.slice none 0 0,.int .i64 0,.slice none 0 0,.int .i64 0] 151));clear h;go_enter Tryz.func87,Tryz.ntmps87;go_wp2_with fail;refine(zgN b d a _ k r rfl HRQ.out.at' _ (HV.out.dev.later hb0.out)).mono ?_;rintro e w1 ⟨a1,rfl,hs1⟩;have hs1n:¬a1.foot b w.heap.size:=zem hs1 HV.out.dev.footLt;obtain⟨d1,hd1⟩:∃d1:Dl,d1={ d with busy:=d.busy.eraseIdx k }:=⟨_,rfl⟩
 have HD1:=za hd1;rw[←hd1] at hs1;have HO1:Hid (∀q∈d1.busy,q.Off (fun j=>j=w.heap.size)):=fun q hq=>by rw[HD1.out] at hq;exact zcF (HV.out.dev.reqs q (List.mem_of_mem_eraseIdx hq)).1 (fun j e=>by omega)
 have HOQ:=HO1;have HOB:Hid (∀q∈d1.busy,q.Off (fun j=>j=bm)):=fun q hq=>by rw[HD1.out] at hq;exact HRQ.out.off q (List.mem_of_mem_eraseIdx hq)
 have HNF:Hid (¬za4 b bm a1 w.heap.size):=fun e=>e.elim (fun e=>by omega) hs1n
 clear hd1;have HS1:=za (HV.out.step ((zw.same HV.out.dev hb0.out).trans hs1));have HZ1:=za ((zcP w 151).only hs1.only (fun e=>by have:=HV.out.dev.footLt _ e;omega));have HN1:Hid (¬za4 b bm a1 w.heap.size):=(fun e=>e.elim (fun e=>by omega) (fun e=>(HS1.out.foot _ (Or.inr e)).elim (fun e=>e.elim (fun e=>by omega) (fun e=>by have:=HV.out.dev.footLt _ e;omega)) (fun _=>hs1n e)));have HA1:=za ((HA0.out.later hb0.out).frame (HV.out.dev.reqs r (HMEM.out)).2 hs1.only);clear hs1 hs1n;go_wp2_with(refine zaQ rfl (.tmp 6) (.tmp 18) rfl w.heap.size r none 0 0 8 rfl rfl (zbE HZ1.out) (fun wK=>zaT v b bm d a n D d1 a1 n D w wK∧zbe wK w.heap.size r none 0 0 8∧r.At wK) ⟨zf3 HS1.out w.heap.size (Nat.le_refl _) HN1.out (by omega) HO1.out _ _ _ _ _ _ _ _,zcr (zbE HZ1.out) HZ1.out.2.2,HA1.out.frame (zcF HA0.out (fun k e=>by omega)) (zbd w1 w.heap.size _ _ _ _ _ _ _ _)⟩ ?_;rintro wK ⟨hsK,hrK,haK⟩;have HSK:=za hsK;have HRK:=za hrK;have HAK:=za haK;obtain⟨⟨y0,y1,y2,y3,y4,y5,y6,y7⟩,-,yl⟩:=hrK;clear hsK haK HS1 HN1 HO1 HZ1 HA1);refine(zfp r tg HRQ.out.tag _ HAK.out h1).mono ?_;rintro e w2 ⟨rfl,hb2⟩;have HS2:=za (HSK.out.later hb2);have HR2:=za (HRK.out.later hb2);have HA2:=za (HAK.out.later hb2);clear HSK HRK HAK hb2 y0 y1 y2 y3 y4 y5 y6 y7 yl;obtain⟨⟨x0,x1,x2,x3,x4,x5,x6,x7⟩,-,xl⟩:=id HR2.out;obtain⟨p0,p1⟩:=HS2.out.at'.cells;have hmp:=HS2.out.at'.map;have hvl:=zi HS2.out.at'.blk;obtain⟨c',hrun,hat,-⟩:=hmp.lookup_int keyI Tryz.underlying131 Tryz.underlying3 (zeroI _) hkey;obtain rfl:c'=c:=by rw[HC.out] at hat;injection hat with e;injection e with _ e;exact e.symm
 have HAT:=za hat;clear hat;go_wp2_with(first|(at_delete;refine wpList_delete_own _ rfl _ _ 131 3 rfl 3 keyI Tryz.underlying131 _ bm n D rfl hmp _ _ rfl hkey ?_;intro w3 hown3 hturn3;have HS3:=za (HS2.out.trans (HS2.out.at'.turn (zaY hturn3.grown) hown3 HOB.out));have HR3:=za (HR2.out.only (zaY hturn3.grown) (by omega));obtain⟨⟨m0,m1,m2,m3,m4,m5,m6,m7⟩,-,ml⟩:=id HR3.out;have HN3:Hid (¬za4 b bm a1 w.heap.size):=HNF.out;clear hown3 hturn3 hmp HS2 HR2 HA2 x0 x1 x2 x3 x4 x5 x6 x7 xl p0 p1 hvl)|(refine zaQ rfl (.tmp 6) (.tmp 60) rfl w.heap.size r none 0 0 8 rfl rfl HR3.out.2.1 (fun wK=>zaT v b bm d a n D d1 a1 n (D.del (.int .i64 tg)) w wK∧zbe wK w.heap.size r none 0 0 8) ⟨zf3 HS3.out w.heap.size (Nat.le_refl _) HN3.out (by omega) HOQ.out _ _ _ _ _ _ _ _,zcr HR3.out.2.1 HR3.out.2.2⟩ ?_;rintro w4 ⟨hs4,⟨k0,k1,k2,k3,k4,k5,k6,k7⟩,-,-⟩;have HS4:=za hs4;clear hs4 HS3 HR3 HN3 m0 m1 m2 m3 m4 m5 m6 m7 ml));refine bodyPost_ret (v:=.tuple #[zaC r none 0 0 8,.bool true,.nilIface]) (by simp[results,Tryz.results87,go_sem,k0,k1,k2,k3,k4,k5,k6,k7]) rfl ⟨a1,rfl,?_⟩;rw[←HD1.out];exact HS4.out
theorem vg_ok(v b bm:Nat)(d:Dl)(a:An)(n:Nat)(D:DataW Unit)(k:Nat)(r:Rq)(tg:Int)(w:World)(h:VAt v b bm d a n D w)(hr:zhu bm d k r tg)(gr:zv r) :
 Calls Tryz.prog 87 #[.pointer (some ⟨v,0,none⟩),.int .i64 k,.bool false] w fun e w'=>∃a' xa xc xs,e=.returned (.tuple #[zaC r xa (List.length xs) xc 0,.bool true,.nilIface])∧Hid (xs=zaG d r)∧zP w' xa xs∧(∀ad,xa=some ad→w.heap.size≤ad.block∧¬za4 b bm a' ad.block)∧zaT v b bm d a n D (({ d with busy:=d.busy.eraseIdx k }:Dl).did r) a' n (D.del (.int .i64 tg)) w w':=by
 have HA0:=za (h.dev.reqs r hr.mem).1;have HMEM:=za hr.mem;have HRQ:=za hr;have HG:=za gr;have hkey:keyOf Tryz.prog 3 (.int .i64 tg)=some (.int .i64 tg):=keyOf_int_mk Tryz.underlying3 (WalkArith.wf_i64 hr.in');have h1:=hr.some';clear gr hr;obtain⟨c0,c1⟩:=h.cells;have HV:=za h;have hv:=zi h.blk;have hm:=h.mlt;have hbv:=h.dev.lt;have hb0:=za (zs w (.cells #[.bool false,.int .i64 0,.int .i64 0,.slice none 0 0,.slice none 0 0,.int .i64 0,.slice none 0 0,.int .i64 0] 151));clear h;go_enter Tryz.func87,Tryz.ntmps87;go_wp2_with fail;refine(end_at b d a _ k r rfl HRQ.out.at' _ (HV.out.dev.later hb0.out) HG.out).mono ?_;rintro e w1 ⟨a1,xa,xc,xs,rfl,hxs,hst,hnew,hs1⟩;have hs1n:¬a1.foot b w.heap.size:=zem hs1 HV.out.dev.footLt;obtain⟨d1,hd1⟩:∃d1:Dl,d1=(({ d with busy:=d.busy.eraseIdx k }:Dl).did r):=⟨_,rfl⟩
 have HD1:=za hd1;rw[←hd1] at hs1;have HBY:Hid (∀q∈d1.busy,q∈d.busy):=fun q hq=>by rw[HD1.out,Dl.did_busy] at hq;exact List.mem_of_mem_eraseIdx hq
 have HO1:Hid (∀q∈d1.busy,q.Off (fun j=>j=w.heap.size)):=fun q hq=>zcF (HV.out.dev.reqs q (HBY.out q hq)).1 (fun j e=>by omega)
 have HOQ:=HO1;have HOB:Hid (∀q∈d1.busy,q.Off (fun j=>j=bm)):=fun q hq=>HRQ.out.off q (HBY.out q hq)
 have HNF:Hid (¬za4 b bm a1 w.heap.size):=fun e=>e.elim (fun e=>by omega) hs1n
 have hxn:∀ad,xa=some ad→ad.block ≠ w.heap.size∧ad.block ≠ bm:=fun ad e=>by have:=(hnew ad e).1;rw[World.size_alloc] at this;omega
 have HXN:=za hxn;have HNW:Hid (∀ad,xa=some ad→w.heap.size≤ad.block∧¬za4 b bm a1 ad.block):=fun ad e=>⟨by have:=(hnew ad e).1;rw[World.size_alloc] at this;omega,fun hk=>hk.elim (hxn ad e).2 (hnew ad e).2⟩
 have HX1:=za hst;have HXS:=hxs;clear hd1 hxn hst hnew hxs;have HS1:=za (HV.out.step ((zw.same HV.out.dev hb0.out).trans hs1));have HZ1:=za ((zcP w 151).only hs1.only (fun e=>by have:=HV.out.dev.footLt _ e;omega));have HN1:Hid (¬za4 b bm a1 w.heap.size):=(fun e=>e.elim (fun e=>by omega) (fun e=>(HS1.out.foot _ (Or.inr e)).elim (fun e=>e.elim (fun e=>by omega) (fun e=>by have:=HV.out.dev.footLt _ e;omega)) (fun _=>hs1n e)));have HA1:=za ((HA0.out.later hb0.out).frame (HV.out.dev.reqs r (HMEM.out)).2 hs1.only);clear hs1 hs1n;generalize hxl:xs.length=xm at *;go_wp2_with(refine zaQ rfl (.tmp 6) (.tmp 18) rfl w.heap.size r xa xm xc 0 rfl rfl (zbE HZ1.out) (fun wK=>zaT v b bm d a n D d1 a1 n D w wK∧zbe wK w.heap.size r xa xm xc 0∧r.At wK∧zP wK xa xs) ⟨zf3 HS1.out w.heap.size (Nat.le_refl _) HN1.out (by omega) HO1.out _ _ _ _ _ _ _ _,zcr (zbE HZ1.out) HZ1.out.2.2,HA1.out.frame (zcF HA0.out (fun k e=>by omega)) (zbd w1 w.heap.size _ _ _ _ _ _ _ _),zb6 HX1.out (zbd w1 w.heap.size _ _ _ _ _ _ _ _) (fun _ ad e=>(HXN.out ad e).1)⟩ ?_;rintro wK ⟨hsK,hrK,haK,hxK⟩;have HXK:=za hxK;clear hxK;have HSK:=za hsK;have HRK:=za hrK;have HAK:=za haK;obtain⟨⟨y0,y1,y2,y3,y4,y5,y6,y7⟩,-,yl⟩:=hrK;clear hsK haK HS1 HN1 HO1 HZ1 HA1);refine(zfp r tg HRQ.out.tag _ HAK.out h1).mono ?_;rintro e w2 ⟨rfl,hb2⟩;have HX2:=za (HXK.out.later hb2);have HS2:=za (HSK.out.later hb2);have HR2:=za (HRK.out.later hb2);have HA2:=za (HAK.out.later hb2);clear HSK HRK HAK hb2 y0 y1 y2 y3 y4 y5 y6 y7 yl;obtain⟨⟨x0,x1,x2,x3,x4,x5,x6,x7⟩,-,xl⟩:=id HR2.out;obtain⟨p0,p1⟩:=HS2.out.at'.cells;have hmp:=HS2.out.at'.map;have hvl:=zi HS2.out.at'.blk;go_wp2_with(first|(at_delete;refine wpList_delete_own _ rfl _ _ 131 3 rfl 3 keyI Tryz.underlying131 _ bm n D rfl hmp _ _ rfl hkey ?_;intro w3 hown3 hturn3;have HX3:=za (zb6 HX2.out (zaY hturn3.grown) (fun _ ad e=>(HXN.out ad e).2));have HS3:=za (HS2.out.trans (HS2.out.at'.turn (zaY hturn3.grown) hown3 HOB.out));have HR3:=za (HR2.out.only (zaY hturn3.grown) (by omega));obtain⟨⟨m0,m1,m2,m3,m4,m5,m6,m7⟩,-,ml⟩:=id HR3.out;have HN3:Hid (¬za4 b bm a1 w.heap.size):=HNF.out;clear hown3 hturn3 hmp HS2 HR2 HA2 x0 x1 x2 x3 x4 x5 x6 x7 xl p0 p1 hvl)|(refine zaQ rfl (.tmp 6) (.tmp 60) rfl w.heap.size r xa xm xc 0 rfl rfl HR3.out.2.1 (fun wK=>zaT v b bm d a n D d1 a1 n (D.del (.int .i64 tg)) w wK∧zbe wK w.heap.size r xa xm xc 0∧zP wK xa xs) ⟨zf3 HS3.out w.heap.size (Nat.le_refl _) HN3.out (by omega) HOQ.out _ _ _ _ _ _ _ _,zcr HR3.out.2.1 HR3.out.2.2,zb6 HX3.out (zbd _ w.heap.size _ _ _ _ _ _ _ _) (fun _ ad e=>(HXN.out ad e).1)⟩ ?_;rintro w4 ⟨hs4,⟨⟨k0,k1,k2,k3,k4,k5,k6,k7⟩,-,-⟩,hx4⟩;have HX4:=za hx4;clear hx4;have HS4:=za hs4;clear hs4 HS3 HR3 HN3 m0 m1 m2 m3 m4 m5 m6 m7 ml));refine bodyPost_ret (v:=.tuple #[zaC r xa xm xc 0,.bool true,.nilIface]) (by simp[results,Tryz.results87,go_sem,k0,k1,k2,k3,k4,k5,k6,k7]) rfl ⟨a1,xa,xc,xs,by rw[hxl],HXS,HX4.out,HNW.out,?_⟩;rw[←HD1.out];exact HS4.out
theorem zoZ(v b bm:Nat)(d:Dl)(a:An)(n:Nat)(D:DataW Unit)(k:Nat)(r:Rq)(tg c:Int)(w:World)(h:VAt v b bm d a n D w)(hr:zhu bm d k r tg)(hc:D.atKey (.int .i64 tg) (.lit (.int .i64 0))=.lit (.int .i64 c))(hc2:0≤c∧c<2)(hn:n≤1000000000) :
 Calls Tryz.prog 87 #[.pointer (some ⟨v,0,none⟩),.int .i64 k,.bool true] w fun e w'=>∃a',e=.returned (.tuple #[ze7,.bool false,.nilIface])∧zaT v b bm d a n D { d with busy:=d.busy.eraseIdx k++[r] } a' (n+1) (D.put (.int .i64 tg) (.lit (.int .i64 (c+1)))) w w':=by
 have HA0:=za (h.dev.reqs r hr.mem).1;have HMEM:=za hr.mem;have HRQ:=za hr;have HC:=za hc;have hkey:keyOf Tryz.prog 3 (.int .i64 tg)=some (.int .i64 tg):=keyOf_int_mk Tryz.underlying3 (WalkArith.wf_i64 hr.in');have h1:=hr.some';have hc3:c+1<3:=by omega
 obtain⟨hc4,hc5⟩:=hc2;have HOR:=za (hr.off r hr.mem);have HLE:Hid ((d.busy.eraseIdx k).length<2):=by
  show _<_;have h2:=h.dev.blen;have h3:=(List.getElem?_eq_some_iff.1 hr.at').1;rw[List.length_eraseIdx,if_pos h3];omega
 clear hc hr;obtain⟨c0,c1⟩:=h.cells;have HV:=za h;have hv:=zi h.blk;have hm:=h.mlt;have hbv:=h.dev.lt;have hb0:=za (zs w (.cells #[.bool false,.int .i64 0,.int .i64 0,.slice none 0 0,.slice none 0 0,.int .i64 0,.slice none 0 0,.int .i64 0] 151));clear h;go_enter Tryz.func87,Tryz.ntmps87;go_wp2_with fail;refine(zgN b d a _ k r rfl HRQ.out.at' _ (HV.out.dev.later hb0.out)).mono ?_;rintro e w1 ⟨a1,rfl,hs1⟩;have hs1n:¬a1.foot b w.heap.size:=zem hs1 HV.out.dev.footLt;obtain⟨d1,hd1⟩:∃d1:Dl,d1={ d with busy:=d.busy.eraseIdx k }:=⟨_,rfl⟩
 have HD1:=za hd1;rw[←hd1] at hs1;have HBY:Hid (∀q∈d1.busy,q∈d.busy):=fun q hq=>by rw[HD1.out] at hq;exact List.mem_of_mem_eraseIdx hq
 have HL1:Hid (d1.busy.length<2):=by show _<_;rw[HD1.out];exact HLE.out
 have HO1:Hid (∀q∈d1.busy,q.Off (fun j=>j=w.heap.size)):=fun q hq=>zcF (HV.out.dev.reqs q (HBY.out q hq)).1 (fun j e=>by omega)
 have HOQ:=HO1;have HOB:Hid (∀q∈d1.busy,q.Off (fun j=>j=bm)):=fun q hq=>HRQ.out.off q (HBY.out q hq)
 clear hd1;have HNF:Hid (¬za4 b bm a1 w.heap.size):=fun e=>e.elim (fun e=>by omega) hs1n
 have HOF:Hid (r.Off (a1.foot b)):=⟨fun he ad ha hk=>(hs1.foot _ hk).elim ((HV.out.dev.reqs r (HMEM.out)).2.1 he ad ha) (fun h'=>by have:=zeI HA0.out.data he ha;rw[World.size_alloc] at h';omega),fun he ad ha hk=>(hs1.foot _ hk).elim ((HV.out.dev.reqs r (HMEM.out)).2.2 he ad ha) (fun h'=>by have:=zcQ HA0.out.tags he ha;rw[World.size_alloc] at h';omega)⟩
 have HS1:=za (HV.out.step ((zw.same HV.out.dev hb0.out).trans hs1));have HZ1:=za ((zcP w 151).only hs1.only (fun e=>by have:=HV.out.dev.footLt _ e;omega));have HN1:Hid (¬za4 b bm a1 w.heap.size):=(fun e=>e.elim (fun e=>by omega) (fun e=>(HS1.out.foot _ (Or.inr e)).elim (fun e=>e.elim (fun e=>by omega) (fun e=>by have:=HV.out.dev.footLt _ e;omega)) (fun _=>hs1n e)));have HA1:=za ((HA0.out.later hb0.out).frame (HV.out.dev.reqs r (HMEM.out)).2 hs1.only);clear hs1 hs1n;go_wp2_with(refine zaQ rfl (.tmp 6) (.tmp 18) rfl w.heap.size r none 0 0 8 rfl rfl (zbE HZ1.out) (fun wK=>zaT v b bm d a n D d1 a1 n D w wK∧zbe wK w.heap.size r none 0 0 8∧r.At wK) ⟨zf3 HS1.out w.heap.size (Nat.le_refl _) HN1.out (by omega) HO1.out _ _ _ _ _ _ _ _,zcr (zbE HZ1.out) HZ1.out.2.2,HA1.out.frame (zcF HA0.out (fun k e=>by omega)) (zbd w1 w.heap.size _ _ _ _ _ _ _ _)⟩ ?_;rintro wK ⟨hsK,hrK,haK⟩;have HSK:=za hsK;have HRK:=za hrK;have HAK:=za haK;obtain⟨⟨y0,y1,y2,y3,y4,y5,y6,y7⟩,-,yl⟩:=hrK;clear hsK haK HS1 HN1 HO1 HZ1 HA1);refine(zfp r tg HRQ.out.tag _ HAK.out h1).mono ?_;rintro e w2 ⟨rfl,hb2⟩;have HS2:=za (HSK.out.later hb2);have HR2:=za (HRK.out.later hb2);have HA2:=za (HAK.out.later hb2);clear HSK HRK HAK hb2 y0 y1 y2 y3 y4 y5 y6 y7 yl;obtain⟨⟨x0,x1,x2,x3,x4,x5,x6,x7⟩,-,xl⟩:=id HR2.out;obtain⟨p0,p1⟩:=HS2.out.at'.cells;have hmp:=HS2.out.at'.map;have hvl:=zi HS2.out.at'.blk;obtain⟨c',hrun,hat,-⟩:=hmp.lookup_int keyI Tryz.underlying131 Tryz.underlying3 (zeroI _) hkey;obtain rfl:c'=c:=by rw[HC.out] at hat;injection hat with e;injection e with _ e;exact e.symm
 have HAT:=za hat;clear hat;go_wp2_with(at_mapUpdate;refine wpList_mapUpdate_own _ rfl _ _ _ 131 rfl 3 3 keyI Tryz.underlying131 _ bm n D rfl hmp (by unfold maxLen;omega) _ _ _ rfl rfl hkey _ [] (plainElem_int Tryz.underlying3 (WalkArith.wf_i64 (by omega))) ?_;intro w3 hown3 hgrow3;have HS3:=za (HS2.out.trans (HS2.out.at'.turn (zaY hgrow3) hown3 HOB.out));have HR3:=za (HR2.out.only (zaY hgrow3) (by omega));have HA3:=za (HA2.out.frame HOR.out (zaY hgrow3));clear hown3 hgrow3 hmp HS2 HR2 HA2 x0 x1 x2 x3 x4 x5 x6 x7 xl p0 p1 hvl);have hd3:Below w3.heap.size w3 w3.drew:=(Below.refl _ _).drew;have HS3d:=za (HS3.out.later hd3);have HR3d:=za (HR3.out.later hd3);have HA3d:=za (HA3.out.later hd3);have HS:Hid (w3.drew.cell? ⟨v,0,none⟩=some (.pointer (some ⟨b,0,none⟩))):=HS3d.out.at'.cells.1;have eg:∀args w,Sem.run Tryz.prog (callFunc 132 args) w=.ok (.enter 132 args) w:=by intro args w;go_simp
 clear HS3 HR3 HA3 hd3
 (try simp only[Act.put,dP])
 refine zbH (S:=fun wz=>wz.cell? ⟨v,0,none⟩=some (.pointer (some ⟨b,0,none⟩))) (d:=10) (by kernel_rfl) ?_;generalize w3.drew=w3 at *;refine tk 0 ?_ rfl (Or.inl ⟨by rfl,?_⟩) HS.out ?_;rotate_left;(focus(intro w0 s6;go_simp;(try with_reducible rfl)));(try simp only[Act.put,dP])
 refine tk 1 ?_ rfl (Or.inl ⟨by rfl,?_⟩) HS.out ?_;rotate_left;(focus(intro w0 s6;go_simp;(try with_reducible rfl)));(try simp only[Act.put,dP])
 refine tk 2 ?_ rfl (Or.inl ⟨by rfl,?_⟩) HS.out ?_;rotate_left;(focus(intro w0 s6;go_simp;(try with_reducible rfl)));(try simp only[Act.put,dP])
 refine tk 3 ?_ rfl (Or.inl ⟨by rfl,?_⟩) HS.out ?_;rotate_left;(focus(intro w0 s6;go_simp;(try with_reducible rfl)));(try simp only[Act.put,dP])
 refine tk 4 ?_ rfl (Or.inl ⟨by rfl,?_⟩) HS.out ?_;rotate_left;(focus(intro w0 s6;go_simp;(try with_reducible rfl)));(try simp only[Act.put,dP])
 refine tk 5 ?_ rfl (Or.inl ⟨by rfl,?_⟩) HS.out ?_;rotate_left;(focus(intro w0 s6;go_simp;(try with_reducible rfl)));(try simp only[Act.put,dP])
 obtain⟨⟨x0,x1,x2,x3,x4,x5,x6,x7⟩,-,xl⟩:=id HR3d.out;refine zN (i:=6) rfl (by kernel_rfl) ?_;intro K hK;go_simp;refine hK _ _ (fun _=>HS.out) ?_
 (try simp only[Act.put,dP])
 clear hK;refine zN (i:=7) rfl (by kernel_rfl) ?_;intro K hK;refine zdH rfl 132 51 53 42 146 rfl eg (.pointer (some ⟨b,0,none⟩)) r.val rfl rfl .nilIface (fun w'=>∃a',zw b d1 a1 { d1 with busy:=d1.busy++[r] } a' w3 w') ((zjA b d1 a1 r _ HS3d.out.at'.dev HL1.out HA3d.out HOF.out).mono (fun e w' ⟨a',he,hs⟩=>⟨he,a',hs⟩)) ?_;rintro w4 ⟨a4,hs4⟩;have hq4:¬za4 b bm a4 w.heap.size:=by
  rintro(e|e)
  ·omega
  ·rcases hs4.foot _ e with e|e
   ·exact HNF.out (Or.inr e)
   ·omega
 have HS4:=za (HS3d.out.trans (HS3d.out.at'.step hs4));have HR4:=za (HR3d.out.only hs4.only (fun e=>HNF.out (Or.inr e)));have HQ4:=za hq4;refine hK _ _ (fun _=>HS4.out.at'.cells.1) ?_
 (try simp only[Act.put,dP])
 clear hK hs4 hq4 x0 x1 x2 x3 x4 x5 x6 x7 xl HS3d HR3d HA3d HS;refine zN (i:=8) rfl (by kernel_rfl) ?_;intro K hK;refine zhN rfl (.tmp 6) (.tmp 47) rfl w.heap.size rq0 none 0 0 0 rfl rfl HR4.out.2.1 ?_;have HS5:=za (zf3 HS4.out w.heap.size (Nat.le_refl _) HQ4.out (by omega) (fun q hq=>by rcases List.mem_append.1 hq with hq'|hq';exact HOQ.out q hq';(rw[List.mem_singleton.1 hq'];exact zcF HA0.out (fun k e=>by omega))) (.bool rq0.wr) (.int .i64 rq0.f) (.int .i64 rq0.m) (.slice rq0.da rq0.data.length rq0.dc) (.slice rq0.ta rq0.tags.length rq0.tc) (.int .i64 rq0.born) (.slice none 0 0) (.int .i64 0));have HR5:=za (zcr (r:=rq0) (xa:=none) (n:=0) (xc:=0) (er:=0) HR4.out.2.1 HR4.out.2.2);refine hK _ _ (fun _=>HS5.out.at'.cells.1) ?_
 (try simp only[Act.put,dP])
 clear hK;generalize zgw w4 w.heap.size (.bool rq0.wr) (.int .i64 rq0.f) (.int .i64 rq0.m) (.slice rq0.da rq0.data.length rq0.dc) (.slice rq0.ta rq0.tags.length rq0.tc) (.int .i64 rq0.born) (.slice none 0 0) (.int .i64 0)=w5 at *;clear HS4 HR4 HQ4;refine zN (i:=9) rfl (by kernel_rfl) ?_;intro K hK;go_simp;refine hK _ _ (fun _=>HS5.out.at'.cells.1) ?_;(try simp only[Act.put,dP]);clear hK;refine zN (i:=10) rfl (by kernel_rfl) ?_;intro K hK;go_simp;refine hK _ _ (fun _=>HS5.out.at'.cells.1) ?_;(try simp only[Act.put,dP]);clear hK;refine zbX (by kernel_rfl) ?_ _;obtain⟨⟨k0,k1,k2,k3,k4,k5,k6,k7⟩,-,-⟩:=id HR5.out;go_wp2;exact bodyPost_ret (v:=.tuple #[ze7,.bool false,.nilIface]) (by simp[results,Tryz.results87,go_sem,k0,k1,k2,k3,k4,k5,k6,k7,rq0]) rfl ⟨a4,rfl,by have:=HS5.out;rw[HD1.out] at this;exact this⟩
theorem zjv(v b bm:Nat)(d:Dl)(a:An)(n:Nat)(D:DataW Unit)(t:Bool)(w:World)(h:VAt v b bm d a n D w)(ht:decide (d.busy.length<2)=t):Calls Tryz.prog 83 #[.pointer (some ⟨v,0,none⟩)] w fun e w'=>e=.returned (.bool t)∧Below w.heap.size w w':=by
 cases t with
 |true=>exact zoH v b bm d a n D w h (of_decide_eq_true ht)
 |false =>
  obtain⟨c0,c1⟩:=h.cells;have HV:=za h;have h2:=of_decide_eq_false ht;have h2':¬(d.busy.length:Int)<2:=by omega
  clear h c1 ht h2;go_enter Tryz.func83,Tryz.ntmps83;go_wp2_with fail;refine(zeT b d a _ HV.out.dev).mono ?_;rintro e w1 ⟨xa,xc,rfl,-,-,hb⟩;go_wp2;go_ret;exact⟨zaH (decide_eq_false (by omega)),hb⟩
theorem VAt.frame{F:Nat→Prop}{v b bm:Nat}{d:Dl}{a:An}{n:Nat}{D:DataW Unit}{w w':World}(h:VAt v b bm d a n D w)(hk:zh F w w')(hF:∀k,za4 b bm a k→¬F k)(hv:¬F v)(hr:∀r∈d.busy,r.Off F):VAt v b bm d a n D w' :=
 ⟨h.dev.frame hk (fun k e=>hF k (Or.inr e)) hr,by rw[hk.block v (zi h.blk) hv];exact h.blk,zc4 h.map (hk.block bm h.mlt (hF bm (Or.inl rfl))),h.foot⟩
theorem VAt.footLt{v b bm:Nat}{d:Dl}{a:An}{n:Nat}{D:DataW Unit}{w:World}(h:VAt v b bm d a n D w)(k:Nat)(hk:za4 b bm a k):k<w.heap.size:=hk.elim (fun e=>by rw[e];exact h.mlt) (h.dev.footLt k)
structure zbt(v b bm:Nat)(m:Rd)(a:Ra)(n:Nat)(D:DataW Unit)(w:World):Prop where
 dev:zay b m a w
 blk:w.heap[v]?=some (.cells [.pointer (some ⟨b,0,none⟩),.map (some bm)].toArray 133 (0,0))
 map:w.ownsMap Tryz.prog 3 (plainElem Tryz.prog 3) bm n D
 foot:∀k,a.foot b k→k ≠ v∧k ≠ bm
def zcG(b bm:Nat)(a:Ra)(k:Nat):Prop:=k=bm∨a.foot b k
structure zcC(v b bm:Nat)(m:Rd)(a:Ra)(n:Nat)(D:DataW Unit)(m':Rd)(a':Ra)(n':Nat)(D':DataW Unit)(w w':World):Prop where
 at':zbt v b bm m' a' n' D' w'
 only:zh (zcG b bm a) w w'
 foot:∀k,zcG b bm a' k→zcG b bm a k∨w.heap.size≤k
 lan:m'.busy ≠ []→∀p,a'.la=some p→(m.busy ≠ []∧a.la=some p)∨w.heap.size≤p.block
section
variable{v b bm:Nat}{m m' m2:Rd}{a a' a2:Ra}{n n' n2:Nat}{D D' D2:DataW Unit}{w w' w2:World}
theorem zbt.mlt(h:zbt v b bm m a n D w):bm<w.heap.size:=h.map.lt
theorem zbt.ne(h:zbt v b bm m a n D w):v ≠ bm:=by
 rintro rfl;obtain⟨es,clock,hb,_⟩:=h.map;rw[h.blk] at hb
 cases hb
theorem zbt.lm(h:zbt v b bm m a n D w)(hne:m.busy ≠ [])(p:Addr)(hp:a.la=some p):p.block ≠ bm:=by
 rcases h.dev.lrow.1 with e|⟨b',o',ha,hc⟩
 ·exact absurd e hne
 ·have hp':m.busy.length ≠ 0:=fun e=>hne (List.eq_nil_of_length_eq_zero e)
  have:=hc 0 (by omega) 0 (by omega);rw[ha] at hp;simp only[Option.some.injEq] at hp;subst hp;rintro rfl;obtain⟨es,clock,hb,_⟩:=h.map;simp only at this hb
  simp[World.cell?,hb] at this
theorem zbt.step(h:zbt v b bm m a n D w)(hs:za2 b m a m' a' w w'):zcC v b bm m a n D m' a' n D w w' where
 at':=⟨hs.dev,by rw[hs.only.block v (zi h.blk) (fun e=>(h.foot v e).1 rfl)];exact h.blk,zc4 h.map (hs.only.block bm h.mlt (fun e=>(h.foot bm e).2 rfl)),fun k hk=>(hs.foot k hk).elim (h.foot k) (fun h'=>by have:=zi h.blk;have:=h.mlt;omega)⟩
 only:=hs.only.mono (fun _ e=>Or.inr e)
 foot:=fun k hk=>hk.elim (fun e=>Or.inl (Or.inl e)) (fun e=>(hs.foot k e).elim (fun h'=>Or.inl (Or.inr h')) Or.inr)
 lan:=hs.lan
theorem zcC.trans(h:zcC v b bm m a n D m' a' n' D' w w')(k:zcC v b bm m' a' n' D' m2 a2 n2 D2 w' w2):zcC v b bm m a n D m2 a2 n2 D2 w w2 :=
 ⟨k.at',h.only.trans k.only h.foot,fun i hi=>(k.foot i hi).elim (h.foot i) (fun h'=>Or.inr (Nat.le_trans h.only.size h')),fun hne p hp=>(k.lan hne p hp).elim (fun e=>h.lan e.1 p e.2) (fun h'=>Or.inr (Nat.le_trans h.only.size h'))⟩
theorem zbt.later(h:zbt v b bm m a n D w)(hb:Below w.heap.size w w'):zbt v b bm m a n D w':=(h.step (za2.same h.dev hb)).at'
theorem zcC.later(h:zcC v b bm m a n D m' a' n' D' w w')(hb:Below w'.heap.size w' w2):zcC v b bm m a n D m' a' n' D' w w2:=h.trans (h.at'.step (za2.same h.at'.dev hb))
theorem zbt.turn(h:zbt v b bm m a n D w)(ho:zh (fun k=>k=bm) w w')(hm:w'.ownsMap Tryz.prog 3 (plainElem Tryz.prog 3) bm n' D')(hr:∀r∈m.busy,r.Off (fun k=>k=bm)):zcC v b bm m a n D m a n' D' w w' where
 at':=⟨h.dev.frame ho (fun k hk=>(h.foot k hk).2) h.lm hr,by rw[ho.block v (zi h.blk) h.ne];exact h.blk,hm,h.foot⟩
 only:=ho.mono (fun _ e=>Or.inl e)
 foot:=fun _ hk=>Or.inl hk
 lan:=fun hne _ hp=>Or.inl ⟨hne,hp⟩
theorem zbt.cells(h:zbt v b bm m a n D w):w.cell? ⟨v,0,none⟩=some (.pointer (some ⟨b,0,none⟩))∧w.cell? ⟨v,1,none⟩=some (.map (some bm)):=⟨by rw[zk h.blk];rfl,by rw[zk h.blk];rfl⟩
end
structure RVReq(bm:Nat)(d:Rd)(k:Nat)(r:Rq)(tg:Int):Prop where
 at':d.busy[k]?=some r
 tag:r.tags.getD 0 0=tg
 in':zai tg
 some':1≤r.tags.length
 off:∀q∈d.busy,q.Off (fun j=>j=bm)
theorem RVReq.mem{bm:Nat}{d:Rd}{k:Nat}{r:Rq}{tg:Int}(h:RVReq bm d k r tg):r∈d.busy:=List.mem_of_getElem? h.at'
end Go.Proofs.YtlhgjplipgandaaGreatDoor
