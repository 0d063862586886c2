/- Joined texts: Stk25, Stk26, Stk27. -/
import Derived.Test.YtlhgjplipgandaaGreatDoorD37
set_option maxRecDepth 100000
set_option maxHeartbeats 8000000
set_option linter.unusedSimpArgs false
namespace Go.Proofs.YtlhgjplipgandaaGreatDoor
open Go.RowKit Go.BigFrame Go.Maps
attribute [local go_sem] ze.cell ze.frozen
theorem zm3{w:World}{B e k n:Nat}{v:Value}{xs:List Value}(h:w.ownsRow B e k v n xs):∃a c,v=.slice a n c:=by
 rcases h.2 with⟨rfl,h0⟩|⟨g,cap,cur,rfl,_⟩
 ·exact⟨none,0,by rw[h0]⟩
 ·exact⟨_,cap,rfl⟩
theorem znN(p:Sk)(i:Nat){kind pl:Int}{data:ByteArray}(h:¬kind=3):p.asks i kind pl data=p.asks0 i kind pl data:=by unfold Sk.asks Sk.asks0;rw[if_neg h]
theorem asks_3(p:Sk)(hl:p.cl.length=3){i:Nat}(hi:i<3){pl:Int}{data:ByteArray}:(p.asks0 i 3 pl data).setLeft i (zah p.hand)=p.asks i 3 pl data:=by
 unfold Sk.setLeft;rw[show(p.asks0 i 3 pl data).client i={ p.client i with kind:=3,pl:=pl,data:=data } by unfold Sk.asks0;rw[zao hl hi,if_pos rfl]];unfold Sk.asks0 Sk.asks;rw[List.set_set,if_pos rfl]
theorem ask_no(s:Nat)(p:Sk)(A:Sa)(w:World)(h:zj s p A w)(c kind pl:Int)(data:ByteArray)(t:Int)(ht:zY c kind pl data=t)(h0:¬t=0) :
 Calls Tryz.prog 27 #[.pointer (some ⟨s,0,none⟩),.int .i64 c,.int .i64 kind,.int .i64 pl,.string data] w fun e w'=>e=.returned (zI t)∧SOk s p A w w' p.nf:=by
 have HST:=za h;have HT:=za ht;have he:zI t=.iface 87 (.int .i64 t):=by unfold zI;rw[if_neg h0]
 have HE:=za he;clear h ht h0 he;go_enter Tryz.func27,Tryz.ntmps27;go_wp2_with fail;refine(zdF c kind pl data _ t HT.out).mono ?_;rintro e w1 ⟨rfl,rfl⟩;rw[HE.out];go_wp2;go_ret;exact⟨by rw[HE.out];rfl,p,A,zp.same' HST.out (Below.refl _ _),rfl⟩
theorem znM(s:Nat)(p:Sk)(A:Sa)(w:World)(h:zj s p A w)(c kind pl:Int)(data:ByteArray)(ht:zY c kind pl data=0)(hw:p.waits c=true) :
 Calls Tryz.prog 27 #[.pointer (some ⟨s,0,none⟩),.int .i64 c,.int .i64 kind,.int .i64 pl,.string data] w fun e w'=>e=.returned (zI 6)∧SOk s p A w w' p.nf:=by
 have HST:=za h;have HT:=za ht;have HW:=za hw;clear h ht hw;go_enter Tryz.func27,Tryz.ntmps27;go_wp2_with fail;refine(zdF c kind pl data _ 0 HT.out).mono ?_;rintro e w1 ⟨rfl,rfl⟩;rw[show zI 0=.nilIface from rfl];go_wp2_with fail;refine(zbZ s p A c _ HST.out true HW.out).mono ?_;rintro e w2 ⟨rfl,rfl⟩;go_wp2;go_ret;exact⟨rfl,p,A,zp.same' HST.out (Below.refl _ _),rfl⟩
theorem zo5(s:Nat)(p:Sk)(A:Sa)(w:World)(h:zj s p A w)(hI:Inv p)(hT:p.tags≤3999999999999999990)(hU:p.uses≤3999999999999999990)(i:Nat)(hi:i<3)(kind pl:Int)(data:ByteArray)(ht:zY (i:Int) kind pl data=0)(hw:p.waits (i:Int)=false)(q:Sk)(hq:(p.nf.asks i kind pl data).serve=q) :
 Calls Tryz.prog 27 #[.pointer (some ⟨s,0,none⟩),.int .i64 (i:Int),.int .i64 kind,.int .i64 pl,.string data] w fun e w'=>e=.returned (zI 0)∧SOk s p A w w' q:=by
 have HST:=za h;have HT:=za ht;have HW:=za hw;have hz:=zb9 ht;have HIA:=za (hI.asks i kind pl data hz.2.1 hz.2.2.1 hz.2.2.2.2.1);have HQ:=za hq;have HB:=za (And.intro hT hU);have hl3:=hI.cl3;have H8:=za hI.hand.len;have hi':(i:Int)<3:=by omega
 obtain⟨c0,c1,c2,c3,-⟩:=h.client i hi;have f0:=h.fz (2+i*6);have f1:=h.fz (2+i*6+1);have f2:=h.fz (2+i*6+2);have hl:=h.lt;have HX:=za (h.asks0 hl3 hi kind pl data);clear h ht hw hz hI hT hU hq;generalize (p.client i).kind=y0 at *;generalize (p.client i).pl=y1 at *;generalize (p.client i).data=y2 at *
 by_cases h3:kind=3
 ·subst h3;go_enter Tryz.func27,Tryz.ntmps27;go_wp2_with fail;refine(zdF i 3 pl data _ 0 HT.out).mono ?_;rintro e w1 ⟨rfl,rfl⟩;rw[show zI 0=.nilIface from rfl];go_wp2_with fail;refine(zbZ s p A i _ HST.out false HW.out).mono ?_;rintro e w2 ⟨rfl,rfl⟩;go_wp2_with fail;refine(zim s (p.asks0 i 3 pl data) A _ HX.out.at' (by have:=H8.out;show p.hand.length≤1000;omega)).mono ?_;rintro e w3 ⟨v,rfl,hown,hb3⟩;obtain⟨va,vc,rfl⟩:=zm3 hown;obtain⟨A',hs3⟩:=HX.out.at'.newLeft (show(p.asks0 i 3 pl data).cl.length=3 by unfold Sk.asks0;rw[List.length_set];exact hl3) hi (zah p.hand) _ hb3 hown;rw[asks_3 p hl3 hi] at hs3;have HS3:=za (HX.out.trans hs3);have hst3:=HX.out.at'.later hb3;have g3:=(hst3.client i hi).2.2.2.1;have gf:=hst3.fz (2+i*6+3);have l3:=hst3.lt;clear hown hb3 hs3 hst3 c0 c1 c2 c3 f0 f1 f2;obtain⟨y3,hy3⟩:∃y3,((p.asks0 i 3 pl data).client i).left.length=y3:=⟨_,rfl⟩
  rw[hy3] at g3;clear hy3;go_wp2_with fail;refine(zcq s (p.asks i 3 pl data) A' _ HS3.out.at' HIA.out HB.out.1 HB.out.2 q HQ.out).mono ?_;rintro e w4 ⟨rfl,hok⟩;have HO:=za (SOk.trans HS3.out hok);clear hok;go_wp2;go_ret;exact⟨rfl,HO.out⟩
 ·have HA:=za (znN p i (pl:=pl) (data:=data) h3);go_enter Tryz.func27,Tryz.ntmps27;go_wp2_with fail;refine(zdF i kind pl data _ 0 HT.out).mono ?_;rintro e w1 ⟨rfl,rfl⟩;rw[show zI 0=.nilIface from rfl];go_wp2_with fail;refine(zbZ s p A i _ HST.out false HW.out).mono ?_;rintro e w2 ⟨rfl,rfl⟩;go_wp2_with fail;refine(zcq s (p.asks0 i kind pl data) A _ HX.out.at' (by rw[←HA.out];exact HIA.out) HB.out.1 HB.out.2 q (by rw[←HA.out];exact HQ.out)).mono ?_;rintro e w4 ⟨rfl,hok⟩;have HO:=za (SOk.trans HX.out hok);clear hok;go_wp2;go_ret;exact⟨rfl,HO.out⟩
theorem zfI(s:Nat)(p:Sk)(A:Sa)(w:World)(h:zj s p A w)(hI:Inv p)(hT:p.tags≤3999999999999999990)(hU:p.uses≤3999999999999999990)(c kind pl:Int)(data:ByteArray)(n:Int)(q:Sk)(hq:p.nf.ask c kind pl data=(n,q)) :
 Calls Tryz.prog 27 #[.pointer (some ⟨s,0,none⟩),.int .i64 c,.int .i64 kind,.int .i64 pl,.string data] w fun e w'=>e=.returned (zI n)∧SOk s p A w w' q:=by
 unfold Sk.ask at hq
 by_cases h0:zY c kind pl data=0
 ·rw[if_neg (by simpa using h0)] at hq
  cases hw:p.waits c
  ·rw[if_neg (by rw[show p.nf.waits c=p.waits c from rfl,hw];exact Bool.false_ne_true)] at hq;simp only[Prod.mk.injEq] at hq;obtain⟨rfl,hq⟩:=hq;have hz:=(zb9 h0).1;obtain⟨i,rfl⟩:∃i:Nat,c=i:=⟨c.toNat,by omega⟩
   rw[Int.toNat_natCast] at hq;exact zo5 s p A w h hI hT hU i (by omega) kind pl data h0 hw q hq
  ·rw[if_pos (show p.nf.waits c=true from hw)] at hq;simp only[Prod.mk.injEq] at hq;obtain⟨rfl,rfl⟩:=hq;exact znM s p A w h c kind pl data h0 hw
 ·rw[if_pos h0] at hq;simp only[Prod.mk.injEq] at hq;obtain⟨rfl,rfl⟩:=hq;exact ask_no s p A w h c kind pl data _ rfl h0
theorem zH.setMoment{s:Nat}{p:Sk}{A:Sa}{w:World}(h:zH s p A w)(m:Int):zH s { p with moment:=m } A w where
 drv:=h.drv
 map:=h.map
 im:=h.im
 nb:=h.nb
 hand:=h.hand
 hnil:=h.hnil
 hcap:=h.hcap
 queue:=h.queue
 qnil:=h.qnil
 qcap:=h.qcap
 left:=h.left
 sv:=h.sv
 vl:=h.vl
 ll:=h.ll
 hoffX:=h.hoffX
 qoffX:=h.qoffX
 roffX:=h.roffX
 xlt:=h.xlt
theorem zj.setMoment{s:Nat}{p:Sk}{A:Sa}{w:World}(h:zj s p A w)(m:Int):zp s p A { p with moment:=m } A w (w.setCell ⟨s,26,none⟩ (.int .i64 m)):=h.put (h.mem.setMoment m) 26 _ rfl (fun _ hk=>hk) ⟨rfl,rfl,rfl,rfl⟩
theorem zjD(s:Nat)(p:Sk)(A:Sa)(w:World)(h:zj s p A w)(hI:Inv p)(hT:p.tags≤3999999999999999990)(hU:p.uses≤3999999999999999990)(q:Sk)(hq:p.nf.tick=q) :
 Calls Tryz.prog 37 #[.pointer (some ⟨s,0,none⟩)] w fun e w'=>e=.returned (.tuple #[])∧SOk s p A w w' q:=by
 obtain⟨m,hm⟩:∃m:Int,(if p.moment+1<1000000000 then p.moment+1 else 1000000000)=m:=⟨_,rfl⟩
 have HM:=za (hI.mom);have HX:=za (h.setMoment m);have HI2:Hid (Inv { p with moment:=m }):=⟨hI.cl3,hI.cok,hI.hand,hI.d6,hI.good,hI.apart,hI.q6,hI.b2,by
  have:=hI.mom;show 0≤m∧m≤1000000000;rw[←hm];split<;>omega,hI.tg,hI.us,hI.tin,hI.n32,hI.g32,hI.ts,hI.fr⟩
 have HQ:Hid (({ p with moment:=m }:Sk).nf.serve=q):=by
  rw[←hq,←hm];rfl
 have c26:=h.cell 26 _ rfl;have f26:=h.fz 26;have hl:=h.lt;have hwr:IntKind.i64.wrap (p.moment+1)=p.moment+1:=by have:=hI.mom;rw[IntKind.wrap_i64];omega
 clear h hI hq
 by_cases hlt:1000000000<p.moment+1
 ·obtain rfl:1000000000=m:=by rw[←hm,if_neg (by omega)]
  clear hm;go_enter Tryz.func37,Tryz.ntmps37;go_wp2_with fail;refine(zcq s _ A _ HX.out.at' HI2.out hT hU q HQ.out).mono ?_;rintro e w4 ⟨rfl,hok⟩;have HO:=za (SOk.trans HX.out hok);clear hok;go_wp2;go_end0;exact⟨rfl,HO.out⟩
 ·obtain rfl:p.moment+1=m:=by rw[←hm];split<;>omega
  clear hm;go_enter Tryz.func37,Tryz.ntmps37;go_wp2_with fail;refine(zcq s _ A _ HX.out.at' HI2.out hT hU q HQ.out).mono ?_;rintro e w4 ⟨rfl,hok⟩;have HO:=za (SOk.trans HX.out hok);clear hok;go_wp2;go_end0;exact⟨rfl,HO.out⟩
def zfG(c:Cl):Bool:=(c.kind==2)||(c.kind==3)
theorem zho(kd pl:Int)(hkd:0≤kd∧kd≤3)(da:ByteArray)(a:Option Addr)(n c:Nat)(got:ByteArray)(ev:Value)(w:World)(t:Bool)(ht:((kd==2)||(kd==3))=t) :
 Calls Tryz.prog 119 #[.agg #[.int .i64 kd,.int .i64 pl,.string da,.slice a n c,.string got,ev]] w fun e w'=>e=.returned (.bool t)∧Below w.heap.size w w':=by
 have h4:kd=0∨kd=1∨kd=2∨kd=3:=by omega
 clear hkd
 rcases h4 with rfl|rfl|rfl|rfl
 ·obtain rfl:false=t:=ht;go_enter Tryz.func119,Tryz.ntmps119;go_wp2;go_ret;exact⟨rfl,by(with_reducible repeat first|exact Below.refl _ _|refine zc ?_ _|refine zd ?_|refine bset' ?_ (by omega) _|refine zb ?_ (by assumption))⟩
 ·obtain rfl:false=t:=ht;go_enter Tryz.func119,Tryz.ntmps119;go_wp2;go_ret;exact⟨rfl,by(with_reducible repeat first|exact Below.refl _ _|refine zc ?_ _|refine zd ?_|refine bset' ?_ (by omega) _|refine zb ?_ (by assumption))⟩
 ·obtain rfl:true=t:=ht;go_enter Tryz.func119,Tryz.ntmps119;go_wp2;go_ret;exact⟨rfl,by(with_reducible repeat first|exact Below.refl _ _|refine zc ?_ _|refine zd ?_|refine bset' ?_ (by omega) _|refine zb ?_ (by assumption))⟩
 ·obtain rfl:true=t:=ht;go_enter Tryz.func119,Tryz.ntmps119;go_wp2;go_ret;exact⟨rfl,by(with_reducible repeat first|exact Below.refl _ _|refine zc ?_ _|refine zd ?_|refine bset' ?_ (by omega) _|refine zb ?_ (by assumption))⟩
theorem zkq{p:Sk}(hl:p.cl.length=3){k:Nat}(hk:k<3)(h:zfG (p.client k)=true):p.wantsClean=true:=List.any_eq_true.2 ⟨_,zk2 hl hk,h⟩
theorem zl2{p:Sk}(hl:p.cl.length=3)(h:∀k,k<3→zfG (p.client k)=false):p.wantsClean=false:=by
 unfold Sk.wantsClean;rw[List.any_eq_false];intro c hc;obtain⟨i,hi,rfl⟩:=zly hl hc;have:=h i hi;unfold zfG at this;rw[this];exact Bool.false_ne_true
theorem zli(s:Nat)(p:Sk)(A:Sa)(w:World)(h:zj s p A w)(hI:Inv p) :
 Calls Tryz.prog 164 #[.slice (some ⟨s,2,none⟩) 3 3,.func (.func 119) #[] #[]] w fun e w'=>∃n:Int,e=.returned (.int .i64 n)∧(decide (0≤n)=p.wantsClean)∧Below w.heap.size w w':=by
 have HST:=za h;have HI:=za hI;clear h hI;go_enter Tryz.func164,Tryz.ntmps164;go_wp2
 go_loopw[8] (fun i wr=>∃k:Nat,k≤3∧i=.int .i64 k∧(∀j,j<k→zfG (p.client j)=false)∧Below w.heap.size w wr) (fun i _=>3-(intOf i).toNat)
 case atStart=>exact⟨0,by omega,rfl,fun j hj=>absurd hj (Nat.not_lt_zero _),Below.refl _ _⟩
 case round =>
  obtain⟨k,hk,rfl,hno,HB⟩:=hrel;have HN:=za hno;clear hno
  by_cases hlt:k<3
  ·have hlt':(k:Int)<3:=by omega
   have hst:=HST.out.later HB;obtain⟨c0,c1,c2,c3,c4,c5⟩:=hst.client k hlt;have hl:=hst.lt;have hkd:=(HI.out.client k).kind;have HW:Hid (zfG (p.client k)=(((p.client k).kind==2)||((p.client k).kind==3))):=za rfl;clear hst;generalize (p.client k).kind=y0 at *;generalize (p.client k).pl=y1 at *;generalize (p.client k).data=y2 at *;generalize (p.client k).left.length=y3 at *;generalize (p.client k).got=y4 at *;generalize zI (p.client k).err=y5 at *;have HKD:=za hkd;clear hkd
   cases hw:((y0==2)||(y0==3))
   ·rw[hw] at HW;have HWW:=za hw;clear hw;go_wp2_with fail;refine(zho y0 y1 HKD.out y2 _ _ _ y4 y5 _ false HWW.out).mono ?_;rintro e w1 ⟨rfl,hb⟩;go_wp2;go_roundw
    case rel=>exact⟨k+1,by omega,by go_num,fun j hj=>by by_cases e:j=k;(subst e;exact HW.out);exact HN.out j (by omega),by(with_reducible repeat first|exact Below.refl _ _|refine zc ?_ _|refine zd ?_|refine bset' ?_ (by omega) _|refine zb ?_ (by assumption))⟩
    case measure=>simp[intOf];omega
   ·rw[hw] at HW;have HWW:=za hw;clear hw;go_wp2_with fail;refine(zho y0 y1 HKD.out y2 _ _ _ y4 y5 _ true HWW.out).mono ?_;rintro e w1 ⟨rfl,hb⟩;go_wp2;go_ret;exact⟨k,rfl,by rw[zkq HI.out.cl3 hlt HW.out];exact decide_eq_true (by omega),by(with_reducible repeat first|exact Below.refl _ _|refine zc ?_ _|refine zd ?_|refine bset' ?_ (by omega) _|refine zb ?_ (by assumption))⟩
  ·obtain rfl:k=3:=by omega
   go_wp2;go_ret;exact⟨-1,rfl,by rw[zl2 HI.out.cl3 (fun j hj=>HN.out j hj)];rfl,HB⟩
theorem zij(s:Nat)(p:Sk)(A:Sa)(w:World)(h:zj s p A w)(hI:Inv p)(t:Bool)(ht:p.wantsClean=t) :
 Calls Tryz.prog 78 #[.pointer (some ⟨s,0,none⟩)] w fun e w'=>e=.returned (.bool t)∧Below w.heap.size w w':=by
 have HST:=za h;have HI:=za hI;have HT:=za ht;have hl:=h.lt;clear h hI ht;have hcon:Calls Tryz.prog 120 #[.slice (some ⟨s,2,none⟩) 3 3,.func (.func 119) #[] #[]] w fun e w'=>e=.returned (.bool t)∧Below w.heap.size w w':=by
  go_enter Tryz.func120,Tryz.ntmps120;go_wp2_with fail;refine(zli s p A w HST.out HI.out).mono ?_;rintro e w1 ⟨n,rfl,hn,hb⟩;rw[HT.out] at hn;go_wp2;go_ret;exact⟨zaH (by rw[←hn]),hb⟩
 have HCON:=za hcon;clear hcon;go_enter Tryz.func78,Tryz.ntmps78;go_wp2_with fail;refine HCON.out.mono ?_;rintro e w1 ⟨rfl,hb⟩;go_wp2;go_ret;exact⟨rfl,hb⟩
theorem zk0(s:Nat)(p:Sk)(A:Sa)(w:World)(h:zj s p A w)(hd:p.dead=true) :
 Calls Tryz.prog 40 #[.pointer (some ⟨s,0,none⟩)] w fun e w'=>e=.returned (.bool false)∧SOk s p A w w' p.nf:=by
 have c29:=h.cell 29 _ rfl;rw[hd] at c29;have hl:=h.lt;have HST:=za h;clear h;go_enter Tryz.func40,Tryz.ntmps40;go_wp2;go_ret;exact⟨rfl,p,A,zp.same' HST.out (Below.refl _ _),rfl⟩
theorem zmi(s:Nat)(p:Sk)(A:Sa)(w:World)(h:zj s p A w)(hI:Inv p)(hd:p.dead=false)(h3:zE p.hand<3)(hw:p.wantsClean=false) :
 Calls Tryz.prog 40 #[.pointer (some ⟨s,0,none⟩)] w fun e w'=>e=.returned (.bool false)∧SOk s p A w w' p.nf:=by
 have c29:=h.cell 29 _ rfl;rw[hd] at c29;have hl:=h.lt;have HST:=za h;have HI:=za hI;have HW:=za hw;obtain⟨n,hn⟩:∃n,zE p.hand=n:=⟨_,rfl⟩
 rw[hn] at h3;have HN:=za hn;have h3':(n:Int)<3:=by omega
 clear h hI hw hn;go_enter Tryz.func40,Tryz.ntmps40;go_wp2_with fail;refine(zbC s p A w HST.out n HN.out).mono ?_;rintro e w1 ⟨rfl,hb1⟩;have HS1:=za (zp.same' HST.out hb1);clear hb1;go_wp2_with fail;refine(zij s p A w1 HS1.out.at' HI.out false HW.out).mono ?_;rintro e w2 ⟨rfl,hb2⟩;have HS2:=za (HS1.out.later hb2);clear hb2;go_wp2;go_ret;exact⟨rfl,p,A,HS2.out,rfl⟩
theorem zoQ{w:World}{b:Nat}{x:ByteArray}(h:w.cell? ⟨b,0,none⟩=some (.string x)):zP w (some ⟨b,0,none⟩) [x]:=by
 refine Or.inr ⟨b,0,rfl,?_⟩;intro i hi
 match i,hi with
 |0,_=>simpa using h
theorem zk1(s:Nat)(p:Sk)(A:Sa)(w:World)(h:zj s p A w)(hI:Inv p)(hT:p.tags≤4000000000000000000)(hd:p.dead=false)(hc:¬(zE p.hand<3∧p.wantsClean=false))(t:Bool)(q:Sk)(hq:p.nf.clean=(t,q)) :
 Calls Tryz.prog 40 #[.pointer (some ⟨s,0,none⟩)] w fun e w'=>e=.returned (.bool t)∧SOk s p A w w' q:=by
 have e1:p.nf.clean=if zb4 p.hand (zaB (p.queue++p.dev.busy))<0 then(false,p.nf) else p.nf.askQ (zb4 p.hand (zaB (p.queue++p.dev.busy))) true [((zat p.hand (zb4 p.hand (zaB (p.queue++p.dev.busy)))).getD ⟨0,ByteArray.empty,false,0⟩).data]:=by
  rw[←zgo];unfold Sk.clean;rw[if_neg (fun e=>e.elim (fun e=>by rw[show p.nf.dead=false from hd] at e;cases e) hc)]
  rfl
 rw[e1] at hq;have HQ:=za hq;have HC:=za hc;have HST:=za h;have HI:=za hI;have c29:=h.cell 29 _ rfl;rw[hd] at c29;have hl:=h.lt;have h9:zE p.hand≤8:=Nat.le_trans (List.length_filter_le _ _) hI.hand.len;obtain⟨n,hn⟩:∃n,zE p.hand=n:=⟨_,rfl⟩
 rw[hn] at h9;have HN:=za hn;clear h hI hc hq e1 hn
 by_cases h3:n<3
 have h3':(n:Int)<3:=by omega
 have HW:Hid (p.wantsClean=true):=by
  cases hw:p.wantsClean
  ·exact absurd ⟨by rw[HN.out];exact h3,hw⟩ HC.out
  ·rfl
 go_enter Tryz.func40,Tryz.ntmps40;go_wp2_with fail;refine(zbC s p A w HST.out n HN.out).mono ?_;rintro e w1 ⟨rfl,hb1⟩;have HS1:=za (zp.same' HST.out hb1);clear hb1;go_wp2_with fail;refine(zij s p A w1 HS1.out.at' HI.out true HW.out).mono ?_;rintro e w2 ⟨rfl,hb2⟩;have HS2:=za (HS1.out.later hb2);clear hb2;go_wp2_with fail
 rotate_left
 have h3':¬(n:Int)<3:=by omega
 go_enter Tryz.func40,Tryz.ntmps40;go_wp2_with fail;refine(zbC s p A w HST.out n HN.out).mono ?_;rintro e w2 ⟨rfl,hb2⟩;have HS2:=za (zp.same' HST.out hb2);clear hb2;go_wp2_with fail
 all_goals
  have y20:=HS2.out.at'.cell 20 _ rfl;have ly:=HS2.out.at'.lt
  rcases zbF (zaO true (zaB (p.queue++p.dev.busy))) p.hand p.hand.length (Nat.le_refl _) with⟨hr,-⟩|⟨k,hk,-,hr,-⟩
  ·have HR:=za hr;have HP:Hid (zb4 p.hand (zaB (p.queue++p.dev.busy))=-1):=by show zb4 p.hand (zaB (p.queue++p.dev.busy))=-1;unfold zb4;rw[hr,if_neg (by omega)]
   clear hr;rw[HP.out,if_pos (by omega)] at HQ
   go_region_held3 (fun w'=>w'.cell? ⟨s,20,none⟩=some (.slice A.ha p.hand.length A.hc)) (exact cellB_later' (w:=w2) (by(with_reducible repeat first|exact Below.refl _ _|refine zc ?_ _|refine zd ?_|refine bset' ?_ (by omega) _|refine zb ?_ (by assumption))) y20) (first|(go_at_call 80;refine(zcN s p A _ (HS2.out.at'.later (by(with_reducible repeat first|exact Below.refl _ _|refine zc ?_ _|refine zd ?_|refine bset' ?_ (by omega) _|refine zb ?_ (by assumption)))) (by have:=HI.out.q6;omega)).mono ?_;rintro e w3 ⟨hb,rfl,hH,hb3⟩)|(go_at_call 79;refine(zpy 123 (by intro args w;go_simp) #[.pointer (some ⟨hb,0,none⟩)] (zaB (p.queue++p.dev.busy)) p.hand A.ha A.hc _ (HS2.out.at'.mem.hand.later (by(with_reducible repeat first|exact Below.refl _ _|refine zc ?_ _|refine zd ?_|refine bset' ?_ (by omega) _|refine zb ?_ (by assumption)))) (fun n w' hb'=>zdm hb _ n w' ((zbz.later hH (by(with_reducible repeat first|exact Below.refl _ _|refine zc ?_ _|refine zd ?_|refine bset' ?_ (by omega) _|refine zb ?_ (by assumption)))).later hb')) HR.out).mono ?_;rintro e w4 ⟨rfl,hb4⟩))
   all_goals
    have HS4:Hid (zp s p A p A w w4):=HS2.out.later (by(with_reducible repeat first|exact Below.refl _ _|refine zc ?_ _|refine zd ?_|refine bset' ?_ (by omega) _|refine zb ?_ (by assumption)));clear hb3 hb4 hH;go_wp2;go_ret;have hz:=HQ.out;simp only[Prod.mk.injEq] at hz;exact⟨by rw[←hz.1];rfl,p,A,HS4.out,hz.2⟩
  ·have HR:=za hr;obtain⟨x,hx⟩:∃x,x=p.hand[k]:=⟨_,rfl⟩
   have hxm:x∈p.hand:=by rw[hx];exact List.getElem_mem hk
   have HIN:=za (HI.out.hand.in' x hxm);have HP:Hid (zb4 p.hand (zaB (p.queue++p.dev.busy))=x.pl):=by
    show zb4 p.hand (zaB (p.queue++p.dev.busy))=x.pl;unfold zb4;rw[hr,if_pos (by omega),Int.toNat_natCast,List.getD_eq_getElem?_getD,List.getElem?_eq_getElem hk,Option.getD_some,hx]
   have HG:=za (zdR HI.out.hand.rise hxm);have HXE:=za hx;rw[HP.out,if_neg (by have:=HIN.out;omega),HG.out] at HQ;have HIX:Hid (∃j,∃hj:j<p.hand.length,zZ (plB x.pl) p.hand=j∧p.hand[j]=x):=by
    rcases zaV p.hand x.pl with⟨h1,_⟩|⟨j,hj,h1,h2,_⟩
    ·rw[HG.out] at h1;cases h1
    ·rw[HG.out] at h1;exact⟨j,hj,h2,(Option.some.inj h1).symm⟩
   have hx0:¬x.pl<0:=by have:=HIN.out;omega
   clear hr hx hxm
   go_region_held3 (fun w'=>w'.cell? ⟨s,20,none⟩=some (.slice A.ha p.hand.length A.hc)) (exact cellB_later' (w:=w2) (by(with_reducible repeat first|exact Below.refl _ _|refine zc ?_ _|refine zd ?_|refine bset' ?_ (by omega) _|refine zb ?_ (by assumption))) y20) (first|(go_at_call 80;refine(zcN s p A _ (HS2.out.at'.later (by(with_reducible repeat first|exact Below.refl _ _|refine zc ?_ _|refine zd ?_|refine bset' ?_ (by omega) _|refine zb ?_ (by assumption)))) (by have:=HI.out.q6;omega)).mono ?_;rintro e w3 ⟨hb,rfl,hH,hb3⟩)|(go_at_call 79;refine(zox 123 (by intro args w;go_simp) #[.pointer (some ⟨hb,0,none⟩)] (zaB (p.queue++p.dev.busy)) p.hand A.ha A.hc _ (HS2.out.at'.mem.hand.later (by(with_reducible repeat first|exact Below.refl _ _|refine zc ?_ _|refine zd ?_|refine bset' ?_ (by omega) _|refine zb ?_ (by assumption)))) (fun n w' hb'=>zdm hb _ n w' ((zbz.later hH (by(with_reducible repeat first|exact Below.refl _ _|refine zc ?_ _|refine zd ?_|refine bset' ?_ (by omega) _|refine zb ?_ (by assumption)))).later hb')) k hk HR.out).mono ?_;rw[←HXE.out];rintro e w4 ⟨rfl,hb4⟩))
   all_goals
    have HS4:Hid (zp s p A p A w w4):=HS2.out.later (by(with_reducible repeat first|exact Below.refl _ _|refine zc ?_ _|refine zd ?_|refine bset' ?_ (by omega) _|refine zb ?_ (by assumption)));have g20:=HS4.out.at'.cell 20 _ rfl;have l4:=HS4.out.at'.lt;clear hb3 hb4 hH y20 ly;obtain⟨j,hj,hix,hjx⟩:=HIX.out;have HJ:=za (And.intro hix hjx);clear hix hjx;go_wp2_with fail;refine(zex p.hand A.ha A.hc x.pl _ (HS4.out.at'.mem.hand.later (by(with_reducible repeat first|exact Below.refl _ _|refine zc ?_ _|refine zd ?_|refine bset' ?_ (by omega) _|refine zb ?_ (by assumption)))) j hj HJ.out.1).mono ?_;rw[HJ.out.2];rintro e w5 ⟨rfl,hb5⟩;have HS5:Hid (zp s p A p A w w5):=HS4.out.later (by(with_reducible repeat first|exact Below.refl _ _|refine zc ?_ _|refine zd ?_|refine bset' ?_ (by omega) _|refine zb ?_ (by assumption)));have l5:=HS5.out.at'.lt;clear g20 l4;go_wp2_with fail;have HB5:=za (And.intro HI.out.tg hT);refine(ziU s p A _ (HS5.out.at'.later (by(with_reducible repeat first|exact Below.refl _ _|refine zc ?_ _|refine zd ?_|refine bset' ?_ (by omega) _|refine zb ?_ (by assumption)))) (by have:=HI.out.q6;omega) HI.out.goods ⟨HI.out.tg,hT⟩ HI.out.mom x.pl ⟨HIN.out.1,HIN.out.2.1⟩ true [x.data] (by simp) (some ⟨_,0,none⟩) 1 (zoQ (by simp)) (fun e=>by cases e) (fun _ ad ha e=>by simp only[Option.some.injEq] at ha;subst ha;have:=HS5.out.at'.offLt _ e;simp at this;omega) (fun tb=>zhR (zfa HI.out x.pl ⟨HIN.out.1,HIN.out.2.1⟩ true [x.data] (Or.inl ⟨rfl,rfl,fun s' hs'=>by rw[List.mem_singleton.1 hs'];exact HIN.out.2.2⟩)) _ 1 tb)).mono ?_;have hq2:p.nf.askQ x.pl true [x.data]=(t,q):=HQ.out;rw[hq2];clear hq2;rintro e w6 ⟨p',A',rfl,hs6,hn6⟩;have HS6:Hid (zp s p A p' A' w w6):=(HS5.out.later (by(with_reducible repeat first|exact Below.refl _ _|refine zc ?_ _|refine zd ?_|refine bset' ?_ (by omega) _|refine zb ?_ (by assumption)))).trans hs6;have HN6:=za hn6;clear hs6 hn6;go_wp2;go_ret;exact⟨rfl,p',A',HS6.out,HN6.out⟩
theorem zhc(s:Nat)(p:Sk)(A:Sa)(w:World)(h:zj s p A w)(hI:Inv p)(hT:p.tags≤4000000000000000000)(t:Bool)(q:Sk)(hq:p.nf.clean=(t,q)) :
 Calls Tryz.prog 40 #[.pointer (some ⟨s,0,none⟩)] w fun e w'=>e=.returned (.bool t)∧SOk s p A w w' q:=by
 cases hd:p.dead
 ·by_cases hc:zE p.hand<3∧p.wantsClean=false
  ·have e:p.nf.clean=(false,p.nf):=by
    unfold Sk.clean;exact if_pos (Or.inr hc)
   rw[e] at hq
   cases hq
   exact zmi s p A w h hI hd hc.1 hc.2
  ·exact zk1 s p A w h hI hT hd hc t q hq
 ·have e:p.nf.clean=(false,p.nf):=by
   unfold Sk.clean;exact if_pos (Or.inl hd)
  rw[e] at hq
  cases hq
  exact zk0 s p A w h hd
theorem zlC(l:List Rq)(hg:ziG l)(hne:l ≠ [])(b o c:Nat)(t:Tn)(now:Int)(n0:0≤now)(n1:now≤1000000000)(hs:zai t.s) :
 ∃(i:Nat) (T:Tn),i<l.length∧zbs l t now=((i:Int),T)∧ziN 84 b o c l t now i T:=by
 have ende:∀(i:Nat) (hi:i<l.length),zeX l (i:Int)=l[i].f+l[i].m:=fun i hi=>by unfold zeX;rw[Int.toNat_natCast,List.getElem?_eq_getElem hi]
 have begins:¬(0<t.g∧t.g<3∧0≤frI t.w t.p l)→∃(i:Nat) (T:Tn),i<l.length∧zbs l t now=((i:Int),T)∧ziN 84 b o c l t now i T:=by
  intro hpre;unfold zbs;rw[if_neg hpre];obtain⟨i0,hi0,hO,hw⟩:=zg2 l hne t _ _ rfl rfl;generalize d1:decide (0≤zaa false l)=b1 at *;generalize d2:decide (0≤zaa true l)=b2 at *;obtain⟨e1,e2⟩:=znO b1 b2 t;obtain⟨i,hi,hway⟩:=zmx l hg (zaf b1 b2 t) now i0 hi0 hw;have g:=(hg.good i hi).bds;have hbg:zdP l (zaf b1 b2 t) now=i:=by
   unfold zdP;have hborn:zev l (zaa (zaf b1 b2 t).w l)=l[i0].born:=by unfold zev;rw[hO,Int.toNat_natCast,List.getElem?_eq_getElem hi0]
   rw[hborn]
   rcases hway with⟨h1,rfl⟩|⟨h1,h2|⟨h2,h3⟩⟩
   ·rw[if_pos h1];exact hO
   ·rw[if_neg (by omega),if_pos (by omega)];exact h2
   ·rw[if_neg (by omega),if_neg (by omega)];exact h3
  refine⟨i,⟨(zaf b1 b2 t).w,1,(zaf b1 b2 t).s,l[i].f+l[i].m⟩,hi,by rw[hbg,ende i hi],?_⟩;intro w hl;have:=zlD l b o c t (zaf b1 b2 t) now w hl i hi ?_ (fun w' hl'=>zmd l b o c t w' hl' hs b1 b2 d1 d2) (fun w' hl'=>zlE l hg b o c _ now w' hl' n0 n1 i0 hi0 hO i hway) (by omega) (by omega) (by omega) (by omega)
  ·rw[e2] at this;exact this
  ·intro w' hl'
   by_cases hgo:t.g≤0∨3≤t.g
   ·exact zmB l _ c t w' hgo
   ·refine zgP l _ c t w' hl' (by omega) (by omega) _ ?_
    rcases zdM t.w t.p l with⟨h1,_⟩|⟨j,hj,h1,_⟩
    ·exact h1
    ·exact absurd ⟨by omega,by omega,by omega⟩ hpre
 by_cases hgo:0<t.g∧t.g<3∧0≤frI t.w t.p l
 ·rcases zdM t.w t.p l with⟨h1,_⟩|⟨j,hj,h1,h2,_⟩
  ·omega
  ·have g:=(hg.good j hj).bds;refine⟨j,⟨t.w,t.g+1,t.s,l[j].f+l[j].m⟩,hj,by unfold zbs;rw[if_pos hgo,h1,ende j hj],fun w hl=>?_⟩;exact zpv l b o c t now w hl (by omega) (by omega) j hj h1 (by omega) (by omega) (by omega) (by omega)
 ·exact begins hgo
theorem Inv.goodsQ{p:Sk}(h:Inv p):ziG p.queue:=by
 refine⟨h.goods,fun i j hi hj=>?_⟩;have hp:=List.pairwise_iff_getElem.1 h.queue.2 j i (by omega) hi hj;have h1:=h.goods i hi;have h2:=h.goods j (by omega);have:=(zgg (r:=p.queue[j]) h1 h2).2 hp.symm;exact this
theorem zh3(F:Rq→Bool)(R:Rq→Int)(hF:∀r:Rq,F r.nf=F r)(hR:∀r:Rq,R r.nf=R r)(l:List Rq):∀n,zaj F R (l.map Rq.nf) n=zaj F R l n:=by
 have e1:∀k,zfL F (l.map Rq.nf) k=zfL F l k:=fun k=>by
  unfold zfL;rw[List.getElem?_map]
  cases l[k]? with
  |none=>rfl
  |some r=>exact hF r
 have e2:∀k,zdV R (l.map Rq.nf) k=zdV R l k:=fun k=>by
  unfold zdV;rw[List.getElem?_map]
  cases l[k]? with
  |none=>rfl
  |some r=>exact hR r
 intro n
 induction n with
 |zero=>rfl
 |succ k ih =>
  unfold zaj;rw[ih,e1,e2,e2]
theorem zpw(b:Bool)(l:List Rq):zaa b (l.map Rq.nf)=zaa b l:=by unfold zaa;rw[List.length_map];exact zh3 _ _ (fun _=>rfl) (fun _=>rfl) l _
theorem frI_nf(b:Bool)(a:Int)(l:List Rq):frI b a (l.map Rq.nf)=frI b a l:=by unfold frI;rw[List.length_map];exact zh3 _ _ (fun _=>rfl) (fun _=>rfl) l _
theorem zn1(l:List Rq)(i:Int):zeX (l.map Rq.nf) i=zeX l i:=by
 unfold zeX;rw[List.getElem?_map]
 cases l[i.toNat]?<;>rfl
theorem zme(l:List Rq)(i:Int):zev (l.map Rq.nf) i=zev l i:=by
 unfold zev;rw[List.getElem?_map]
 cases l[i.toNat]?<;>rfl
theorem zoo(l:List Rq)(t:Tn)(now:Int):zbs (l.map Rq.nf) t now=zbs l t now:=by
 unfold zbs zdP;simp only[zpw,frI_nf,zn1,zme]
theorem set4c{w:World}{b:Nat}{u0 u1 u2 u3:Value}(v0 v1 v2 v3:Value)(k0:w.cell? ⟨b,0,none⟩=some u0)(k1:w.cell? ⟨b,1,none⟩=some u1)(k2:w.cell? ⟨b,2,none⟩=some u2)(k3:w.cell? ⟨b,3,none⟩=some u3){w':World}(hw:w'=(((w.setCell ⟨b,0,none⟩ v0).setCell ⟨b,1,none⟩ v1).setCell ⟨b,2,none⟩ v2).setCell ⟨b,3,none⟩ v3) :
 w'.cell? ⟨b,0,none⟩=some v0∧w'.cell? ⟨b,1,none⟩=some v1∧w'.cell? ⟨b,2,none⟩=some v2∧w'.cell? ⟨b,3,none⟩=some v3:=by
 subst hw;refine⟨?_,?_,?_,?_⟩
 ·exact(zL (Or.inr (by omega))).trans ((zL (Or.inr (by omega))).trans ((zL (Or.inr (by omega))).trans (World.cell?_setCell_same _ _ _ k0)))
 ·exact(zL (Or.inr (by omega))).trans ((zL (Or.inr (by omega))).trans (World.cell?_setCell_same _ _ _ ((zL (Or.inr (by omega))).trans k1)))
 ·exact(zL (Or.inr (by omega))).trans (World.cell?_setCell_same _ _ _ ((zL (Or.inr (by omega))).trans ((zL (Or.inr (by omega))).trans k2)))
 ·exact World.cell?_setCell_same _ _ _ ((zL (Or.inr (by omega))).trans ((zL (Or.inr (by omega))).trans ((zL (Or.inr (by omega))).trans k3)))
section
variable{s:Nat}{p:Sk}{A:Sa}{w w':World}
theorem zH.setQT(h:zH s p A w)(L:List Rq)(a':Option Addr)(c':Nat)(T:Tn)(hR:zm w a' L)(hcap:L.length≤c')(hnil:a'=none→c'=0)(ho:L ≠ []→∀q,a'=some q→¬A.off s q.block)(hro:∀r∈L,r.Off (A.off s)):zH s { p with queue:=L,turn:=T } { A with qa:=a',qc:=c' } w where
 drv:=h.drv
 map:=h.map
 im:=h.im
 nb:=h.nb
 hand:=h.hand
 hnil:=h.hnil
 hcap:=h.hcap
 queue:=hR
 qnil:=hnil
 qcap:=hcap
 left:=h.left
 sv:=h.sv
 vl:=h.vl
 ll:=h.ll
 hoffX:=h.hoffX
 qoffX:=ho
 roffX:=fun r hr=>(List.mem_append.1 hr).elim (hro r) (fun h'=>h.roffX r (List.mem_append_right _ h'))
 xlt:=h.xlt
def zhM(w:World)(s:Nat)(T:Tn):World:=(((w.setCell ⟨s,22,none⟩ (.bool T.w)).setCell ⟨s,23,none⟩ (.int .i64 T.g)).setCell ⟨s,24,none⟩ (.int .i64 T.s)).setCell ⟨s,25,none⟩ (.int .i64 T.p)
theorem zj.setQT(h:zj s p A w)(L:List Rq)(a':Option Addr)(c':Nat)(T:Tn)(hR:zm w a' L)(hcap:L.length≤c')(hnil:a'=none→c'=0)(ho:L ≠ []→∀q,a'=some q→¬A.off s q.block)(hro:∀r∈L,r.Off (A.off s)) :
 zp s p A { p with queue:=L,turn:=T } { A with qa:=a',qc:=c' } w (zhM (w.setCell ⟨s,21,none⟩ (.slice a' L.length c')) s T)∧zp s p A { p with queue:=L,turn:=T } { A with qa:=a',qc:=c' } w ((zhM w s T).setCell ⟨s,21,none⟩ (.slice a' L.length c')):=by
 have hm:=h.mem.setQT L a' c' T hR hcap hnil ho hro
 constructor
 ·refine hm.puts ?_ ?_ (fun k hk=>hk) ⟨rfl,rfl,rfl,rfl⟩
  ·unfold zhM;exact(((((zh.refl (fun k=>k=s) w).setCell _ (Or.inl rfl) _).setCell _ (Or.inl rfl) _).setCell _ (Or.inl rfl) _).setCell _ (Or.inl rfl) _).setCell _ (Or.inl rfl) _
  ·unfold zhM;rw[zx (zx (zx (zx (zx h.blk _ _) _ _) _ _) _ _)]
   rfl
 ·refine hm.puts ?_ ?_ (fun k hk=>hk) ⟨rfl,rfl,rfl,rfl⟩
  ·unfold zhM;exact(((((zh.refl (fun k=>k=s) w).setCell _ (Or.inl rfl) _).setCell _ (Or.inl rfl) _).setCell _ (Or.inl rfl) _).setCell _ (Or.inl rfl) _).setCell _ (Or.inl rfl) _
  ·unfold zhM;rw[zx (zx (zx (zx (zx h.blk _ _) _ _) _ _) _ _)]
   rfl
end
theorem zhH(s:Nat)(p:Sk)(A:Sa)(w:World)(h:zj s p A w)(he:p.queue=[]) :
 Calls Tryz.prog 41 #[.pointer (some ⟨s,0,none⟩)] w fun e w'=>e=.returned (.bool false)∧SOk s p A w w' p.nf:=by
 have c21:=h.cell 21 _ rfl;rw[he] at c21;have hl:=h.lt;have HST:=za h;clear h;go_enter Tryz.func41,Tryz.ntmps41;go_wp2;go_ret;exact⟨rfl,p,A,zp.same' HST.out (Below.refl _ _),rfl⟩
theorem zhG(s:Nat)(p:Sk)(A:Sa)(w:World)(h:zj s p A w)(hq:p.queue ≠ [])(hf:2≤p.dev.busy.length) :
 Calls Tryz.prog 41 #[.pointer (some ⟨s,0,none⟩)] w fun e w'=>e=.returned (.bool false)∧SOk s p A w w' p.nf:=by
 have c21:=h.cell 21 _ rfl;have c1:=h.cell 1 _ rfl;have hl:=h.lt;have HST:=za h;have h0:¬p.queue.length=0:=fun e=>hq (List.eq_nil_of_length_eq_zero e)
 have h1:¬(p.queue.length:Int)=0:=by omega
 have h2:((p.queue.length:Int)==0)=false:=beq_eq_false_iff_ne.2 h1;have HF:Hid (decide (p.dev.busy.length<2)=false):=decide_eq_false (by omega);clear h hq hf;generalize p.queue.length=n at *;go_enter Tryz.func41,Tryz.ntmps41;go_wp2_with fail;refine(zjv A.v A.b A.bm p.dev A.an A.n A.D false w HST.out.mem.drv HF.out).mono ?_;rintro e w1 ⟨rfl,hb1⟩;go_wp2;go_ret;exact⟨rfl,p,A,zp.same' HST.out hb1,rfl⟩
def zdh(w:World)(g:Nat)(T:Tn):Prop:=w.cell? ⟨g,0,none⟩=some (.bool T.w)∧w.cell? ⟨g,1,none⟩=some (.int .i64 T.g)∧w.cell? ⟨g,2,none⟩=some (.int .i64 T.s)∧w.cell? ⟨g,3,none⟩=some (.int .i64 T.p)
theorem zdh.only{F:Nat→Prop}{w w':World}{g:Nat}{T:Tn}(h:zdh w g T)(hO:zh F w w')(hn:¬F g):zdh w' g T:=by
 obtain⟨h0,h1,h2,h3⟩:=h;have hl:=zg h0;exact⟨(hO.cell (p:=⟨g,0,none⟩) hl hn).trans h0,(hO.cell (p:=⟨g,1,none⟩) hl hn).trans h1,(hO.cell (p:=⟨g,2,none⟩) hl hn).trans h2,(hO.cell (p:=⟨g,3,none⟩) hl hn).trans h3⟩
theorem zdh.later{w w':World}{g:Nat}{T:Tn}(h:zdh w g T)(hb:Below w.heap.size w w'):zdh w' g T:=h.only (F:=fun _=>False) (zh.of_below hb) (fun e=>e)
theorem zjQ{p:Sk}{i:Nat}{T:Tn}(hi:i<p.queue.length)(hne:p.queue ≠ [])(hb:p.dev.busy.length<2)(hn:zbs p.queue p.turn p.moment=((i:Int),T)):p.nf.dispatch=(true,({ p with dev:={ p.dev with busy:=p.dev.busy++[p.queue[i]] },queue:=p.queue.take i++p.queue.drop (i+1),turn:=T }:Sk).nf):=by
 unfold Sk.dispatch;have e1:zbs p.nf.queue p.nf.turn p.nf.moment=((i:Int),T):=(zoo p.queue p.turn p.moment).trans hn;rw[if_neg (by
  rintro(e|e)
  ·exact hne (List.map_eq_nil_iff.1 e)
  ·rw[show p.nf.dev.busy.length=p.dev.busy.length from List.length_map _] at e;omega),e1]
 have e2:p.nf.queue[((i:Int)).toNat]?=some p.queue[i].nf:=by
  rw[Int.toNat_natCast];show(p.queue.map Rq.nf)[i]?=_;rw[List.getElem?_map,List.getElem?_eq_getElem hi];rfl
 rw[e2];simp only[Sk.nf,Dl.nf,List.map_append,List.map_cons,List.map_nil,Int.toNat_natCast,Option.toList,List.eraseIdx_eq_take_drop_succ,List.map_take,List.map_drop]
theorem ziz(s:Nat)(p:Sk)(A:Sa)(w:World)(h:zj s p A w)(hI:Inv p)(hne:p.queue ≠ [])(hb:p.dev.busy.length<2)(q:Sk)(hq:p.nf.dispatch.2=q) :
 Calls Tryz.prog 41 #[.pointer (some ⟨s,0,none⟩)] w fun e w'=>e=.returned (.bool true)∧SOk s p A w w' q:=by
 obtain⟨bq,oq,hqa⟩:∃b o,A.qa=some ⟨b,o,none⟩:=by
  rcases h.mem.queue.1 with e|⟨b,o,e,_⟩
  ·exact absurd e hne
  ·exact⟨b,o,e⟩
 obtain⟨i,T,hi,hnx,hcall⟩:=zlC p.queue hI.goodsQ hne bq oq A.qc p.turn p.moment hI.mom.1 hI.mom.2 (by have:=hI.ts;unfold zai;omega);obtain⟨r,hr⟩:∃r,p.queue[i]=r:=⟨_,rfl⟩
 obtain⟨L,hL⟩:∃L,p.queue.take i++p.queue.drop (i+1)=L:=⟨_,rfl⟩
 have HQ:Hid (({ p with dev:={ p.dev with busy:=p.dev.busy++[r] },queue:=L,turn:=T }:Sk).nf=q):=by
  subst hr;subst hL;show Sk.nf _=q;rw[←hq,zjQ hi hne hb hnx]
 have c21:=h.cell 21 _ rfl;rw[hqa] at c21;have c1:=h.cell 1 _ rfl;have c22:=h.cell 22 _ rfl;have c23:=h.cell 23 _ rfl;have c24:=h.cell 24 _ rfl;have c25:=h.cell 25 _ rfl;have c26:=h.cell 26 _ rfl;have hl:=h.lt;have HST:=za h;have HI:=za hI;have HCALL:=za hcall;have HRQ:Hid (zm w (some ⟨bq,oq,none⟩) p.queue):=by have:=h.mem.queue;rw[hqa] at this;exact this
 have HB:Hid (p.dev.busy.length<2):=hb;have HRM:Hid (decide (p.dev.busy.length<2)=true):=decide_eq_true hb;have h0:¬p.queue.length=0:=fun e=>hne (List.eq_nil_of_length_eq_zero e)
 have h1:¬(p.queue.length:Int)=0:=by omega
 have h2:((p.queue.length:Int)==0)=false:=beq_eq_false_iff_ne.2 h1;have HR6:Hid (p.queue.length≤6∧p.queue.length≤A.qc):=⟨hI.q6,h.mem.qcap⟩
 have HQA:=za hqa;have HI':Hid (i<p.queue.length):=hi;clear h hI hne hb hq hcall hnx hqa;obtain⟨n,hn⟩:∃n,p.queue.length=n:=⟨_,rfl⟩
 have HCALLN:Hid (∀w',zm w' (some ⟨bq,oq,none⟩) p.queue→Calls Tryz.prog 84 #[.slice (some ⟨bq,oq,none⟩) n A.qc,p.turn.val,.int .i64 p.moment] w' fun e w2=>e=.returned (.tuple #[.int .i64 i,T.val])∧Below w'.heap.size w' w2):=by
  show ∀w',zm w' (some ⟨bq,oq,none⟩) p.queue→_;rw[←hn];exact HCALL.out
 have HLL:Hid (L.length=n-1∧(∀x∈L,x∈p.queue)∧r∈p.queue):=by
  refine⟨?_,fun x hx=>?_,by rw[←hr];exact List.getElem_mem hi⟩
  ·rw[←hL,List.length_append,List.length_take,List.length_drop];omega
  ·rw[←hL] at hx
   rcases List.mem_append.1 hx with h'|h'
   ·exact List.mem_of_mem_take h'
   ·exact List.mem_of_mem_drop h'
 have HTAKE:Hid (∀w',zm w' (some ⟨bq,oq,none⟩) p.queue→Calls Tryz.prog 85 #[.slice (some ⟨bq,oq,none⟩) n A.qc,.int .i64 i] w' fun e w2=>∃a' c',e=.returned (.tuple #[.slice a' L.length c',r.val])∧zbL w'.heap.size w2 a' c' L∧Below w'.heap.size w' w2):=by
  intro w' hw';have ht:=zoS p.queue bq oq A.qc w' hw' (by have:=HR6.out;omega) HR6.out.2 i hi;subst hr;subst hL;subst hn;refine ht.mono ?_;rintro e w2 ⟨v,he,hown,hb2⟩;obtain⟨a',c',rfl,hN⟩:=zcM hown (fun x hx=>(hw'.2.1 x (HLL.out.2.1 x hx)).later hb2) (by have:=HLL.out.1;omega) (by have:=HLL.out.1;have:=HR6.out;omega);exact⟨a',c',he,hN,hb2⟩
 rw[hn] at c21 h0 h1 h2;have HN:=za hn;clear hn HCALL hr hL;obtain⟨tw,tg,ts,tp⟩:=T;go_enter Tryz.func41,Tryz.ntmps41;go_wp2_with fail;refine(zjv A.v A.b A.bm p.dev A.an A.n A.D true w HST.out.mem.drv HRM.out).mono ?_;rintro e w1 ⟨rfl,hb1⟩;have HB1:=za hb1
 replace c21:=cellB_later' hb1 c21
 replace c1:=cellB_later' hb1 c1
 replace c22:=cellB_later' hb1 c22
 replace c23:=cellB_later' hb1 c23
 replace c24:=cellB_later' hb1 c24
 replace c25:=cellB_later' hb1 c25
 replace c26:=cellB_later' hb1 c26
 replace hl:=Nat.lt_of_lt_of_le hl hb1.size
 clear hb1;go_wp2_with fail
 go_region_held3 (fun w'=>w'.cell? ⟨s,21,none⟩=some (.slice (some ⟨bq,oq,none⟩) n A.qc)∧w'.cell? ⟨s,22,none⟩=some (.bool p.turn.w)∧w'.cell? ⟨s,23,none⟩=some (.int .i64 p.turn.g)∧w'.cell? ⟨s,24,none⟩=some (.int .i64 p.turn.s)∧w'.cell? ⟨s,25,none⟩=some (.int .i64 p.turn.p)∧w'.cell? ⟨s,26,none⟩=some (.int .i64 p.moment)) (exact⟨cellB_later' (w:=w1) (by(with_reducible repeat first|exact Below.refl _ _|refine zc ?_ _|refine zd ?_|refine bset' ?_ (by omega) _|refine zb ?_ (by assumption))) c21,cellB_later' (w:=w1) (by(with_reducible repeat first|exact Below.refl _ _|refine zc ?_ _|refine zd ?_|refine bset' ?_ (by omega) _|refine zb ?_ (by assumption))) c22,cellB_later' (w:=w1) (by(with_reducible repeat first|exact Below.refl _ _|refine zc ?_ _|refine zd ?_|refine bset' ?_ (by omega) _|refine zb ?_ (by assumption))) c23,cellB_later' (w:=w1) (by(with_reducible repeat first|exact Below.refl _ _|refine zc ?_ _|refine zd ?_|refine bset' ?_ (by omega) _|refine zb ?_ (by assumption))) c24,cellB_later' (w:=w1) (by(with_reducible repeat first|exact Below.refl _ _|refine zc ?_ _|refine zd ?_|refine bset' ?_ (by omega) _|refine zb ?_ (by assumption))) c25,cellB_later' (w:=w1) (by(with_reducible repeat first|exact Below.refl _ _|refine zc ?_ _|refine zd ?_|refine bset' ?_ (by omega) _|refine zb ?_ (by assumption))) c26⟩) (first|(go_at_call 84;refine(HCALLN.out _ (HRQ.out.later (zb HB1.out (by(with_reducible repeat first|exact Below.refl _ _|refine zc ?_ _|refine zd ?_|refine bset' ?_ (by omega) _|refine zb ?_ (by assumption)))))).mono ?_;rintro e w2 ⟨rfl,hb2⟩;have z2:w1.heap.size≤w2.heap.size:=(show Below w1.heap.size w1 w2 by(with_reducible repeat first|exact Below.refl _ _|refine zc ?_ _|refine zd ?_|refine bset' ?_ (by omega) _|refine zb ?_ (by assumption))).size;(try(obtain⟨k0,k1,k2,k3,k4,k5,k6,k7⟩:w2.cell? ⟨w1.heap.size,0,none⟩=some (.bool false)∧w2.cell? ⟨w1.heap.size,1,none⟩=some (.int .i64 0)∧w2.cell? ⟨w1.heap.size,2,none⟩=some (.int .i64 0)∧w2.cell? ⟨w1.heap.size,3,none⟩=some (.int .i64 0)∧w2.frozen? ⟨w1.heap.size,0,none⟩=false∧w2.frozen? ⟨w1.heap.size,1,none⟩=false∧w2.frozen? ⟨w1.heap.size,2,none⟩=false∧w2.frozen? ⟨w1.heap.size,3,none⟩=false;(focus((refine⟨(hb2.cell (p:=⟨w1.heap.size,0,none⟩) ?_).trans ?_,(hb2.cell (p:=⟨w1.heap.size,1,none⟩) ?_).trans ?_,(hb2.cell (p:=⟨w1.heap.size,2,none⟩) ?_).trans ?_,(hb2.cell (p:=⟨w1.heap.size,3,none⟩) ?_).trans ?_,(hb2.frozen (p:=⟨w1.heap.size,0,none⟩) ?_).trans ?_,(hb2.frozen (p:=⟨w1.heap.size,1,none⟩) ?_).trans ?_,(hb2.frozen (p:=⟨w1.heap.size,2,none⟩) ?_).trans ?_,(hb2.frozen (p:=⟨w1.heap.size,3,none⟩) ?_).trans ?_⟩);(all_goals simp);(all_goals omega)))))))
 refine zcZ (fun wz=>zp s p A p A w wz∧zdh wz w2.heap.size ⟨tw,tg,ts,tp⟩∧w.heap.size≤w2.heap.size) ⟨zp.same' HST.out (zb HB1.out (by(with_reducible repeat first|exact Below.refl _ _|refine zc ?_ _|refine zd ?_|refine bset' ?_ (by omega) _|refine zb ?_ (by assumption)))),⟨by simp,by simp,by simp,by simp⟩,Nat.le_trans HB1.out.size z2⟩ ?_;rintro w3 ⟨hsz,htz,hge⟩;generalize w2.heap.size=g at *
 rotate_left
 refine zcZ (fun wz=>zp s p A p A w wz∧zdh wz w1.heap.size ⟨tw,tg,ts,tp⟩∧w.heap.size≤w1.heap.size) ⟨zp.same' HST.out (zb HB1.out (by(with_reducible repeat first|exact Below.refl _ _|refine zc ?_ _|refine zd ?_|refine bset' ?_ (by omega) _|refine zb ?_ (by assumption)))),set4c _ _ _ _ k0 k1 k2 k3 rfl,HB1.out.size⟩ ?_;rintro w3 ⟨hsz,htz,hge⟩;clear k0 k1 k2 k3 k4 k5 k6 k7;generalize hg:w1.heap.size=g at *;clear hg
 all_goals
  clear hb2 z2 c1 c21 c22 c23 c24 c25 c26 hl;have HSZ:=za hsz;have HTZ:=za htz;have HGE:=za hge;have g21:=hsz.at'.cell 21 _ rfl;rw[HQA.out,HN.out] at g21;have l3:=hsz.at'.lt;clear hsz htz hge;go_wp2_with fail;refine(HTAKE.out _ (by have:=HSZ.out.at'.mem.queue;rw[HQA.out] at this;exact this)).mono ?_;rintro e w4 ⟨a',c',rfl,hN,hb4⟩;have HN4:=za hN;have HS4:=za (HSZ.out.later hb4);have HT4:=za (HTZ.out.later hb4);clear hN hb4 g21 l3;go_wp2_with fail;refine zbD (fun wK=>Below w4.heap.size w4 wK∧zaL wK w4.heap.size r) ⟨by(with_reducible repeat first|exact Below.refl _ _|refine zc ?_ _|refine zd ?_|refine bset' ?_ (by omega) _|refine zb ?_ (by assumption)),zdL w4 146 r⟩ ?_;rintro w5 ⟨hb5,hbx5⟩;have HX5:=za hbx5;have HS5:=za (HS4.out.later hb5);have HT5:=za (HT4.out.later hb5);have HR5:=za (HN4.out.here.later hb5);have HAT5:Hid (∀x∈p.queue++p.dev.busy,x.At w5):=HS5.out.at'.mem.rAt;have HS:Hid ((fun wz:World=>wz.cell? ⟨s,1,none⟩=some (.pointer (some ⟨A.v,0,none⟩))∧zaL wz w4.heap.size r) w5.drew):=⟨HS5.out.at'.cell 1 _ rfl,hbx5⟩
  have eg:∀args w,Sem.run Tryz.prog (callFunc 86 args) w=.ok (.enter 86 args) w:=by intro args w;go_simp
  have HOFF:Hid (∀x∈p.queue++p.dev.busy,x.Off (A.off s)):=HST.out.mem.roffX;have HRO:Hid (r.Off (A.an.foot A.b)):=by
   have:=HOFF.out r (List.mem_append_left _ HLL.out.2.2);exact⟨fun he ad ha e=>this.1 he ad ha (Or.inl (Or.inr (Or.inl (Or.inr e)))),fun he ad ha e=>this.2 he ad ha (Or.inl (Or.inr (Or.inl (Or.inr e))))⟩
  clear hb5 hbx5;refine zbH (S:=fun wz:World=>wz.cell? ⟨s,1,none⟩=some (.pointer (some ⟨A.v,0,none⟩))∧zaL wz w4.heap.size r) (d:=6) (by kernel_rfl) ?_;refine tk 0 ?_ rfl (Or.inl ⟨by rfl,?_⟩) HS.out ?_;rotate_left;(focus(intro w0 hSw;obtain⟨s6,s0,s1,s2,s3,s4,s5⟩:=hSw;go_simp;(try with_reducible rfl)));(try simp only[Act.put,dP])
  refine tk 1 ?_ rfl (Or.inl ⟨by rfl,?_⟩) HS.out ?_;rotate_left;(focus(intro w0 hSw;obtain⟨s6,s0,s1,s2,s3,s4,s5⟩:=hSw;go_simp;(try with_reducible rfl)));(try simp only[Act.put,dP])
  refine tk 2 ?_ rfl (Or.inl ⟨by rfl,?_⟩) HS.out ?_;rotate_left;(focus(intro w0 hSw;obtain⟨s6,s0,s1,s2,s3,s4,s5⟩:=hSw;go_simp;(try with_reducible rfl)));(try simp only[Act.put,dP])
  refine tk 3 ?_ rfl (Or.inl ⟨by rfl,?_⟩) HS.out ?_;rotate_left;(focus(intro w0 hSw;obtain⟨s6,s0,s1,s2,s3,s4,s5⟩:=hSw;go_simp;(try with_reducible rfl)));(try simp only[Act.put,dP])
  refine tk 4 ?_ rfl (Or.inl ⟨by rfl,?_⟩) HS.out ?_;rotate_left;(focus(intro w0 hSw;obtain⟨s6,s0,s1,s2,s3,s4,s5⟩:=hSw;go_simp;(try with_reducible rfl)));(try simp only[Act.put,dP])
  refine zN (i:=5) rfl (by kernel_rfl) ?_;intro K hK;refine zet rfl 86 50 51 121 146 rfl eg (.pointer (some ⟨A.v,0,none⟩)) r.val rfl rfl (fun rr w'=>rr=.nilIface∧∃an',zaT A.v A.b A.bm p.dev A.an A.n A.D { p.dev with busy:=p.dev.busy++[r] } an' A.n A.D w5 w') ((zny A.v A.b A.bm p.dev A.an A.n A.D r w5.drew (HS5.out.at'.mem.drv.later (Below.refl _ _).drew) HB.out ((HAT5.out r (List.mem_append_left _ HLL.out.2.2)).later (Below.refl _ _).drew) HRO.out).mono (fun e w' ⟨an',he,hv⟩=>⟨_,he,rfl,an',(HS5.out.at'.mem.drv.step (zw.same HS5.out.at'.mem.drv.dev (Below.refl _ _).drew)).trans hv⟩)) ?_;rintro rr w6 ⟨rfl,an',hv6⟩;have HV6:=za hv6;clear hv6;have HFT:Hid (∀k,({ A with an:=an',n:=A.n,D:=A.D }:Sa).off s k→A.off s k∨w5.heap.size≤k):=zeC HV6.out;have HS6:=za (HS5.out.trans (zj.step p.ag HS5.out.at'.mem.nb HS5.out.at' HV6.out HS5.out.at'.mem.map HS5.out.at'.mem.im (fun x hx=>by
   have hx':x∈p.queue++p.dev.busy:=by
    rcases List.mem_append.1 hx with h'|h'
    ·exact List.mem_append_right _ h'
    ·rw[List.mem_singleton.1 h'];exact List.mem_append_left _ HLL.out.2.2
   exact Rq.Off.step (HAT5.out x hx') (HOFF.out x hx') HFT.out)))
  have HX6:=za (HX5.out.only HV6.out.only (fun e=>by have:=HS4.out.at'.footLt _ (Or.inr (Or.inl e));omega));have HT6:=za (HT5.out.only HV6.out.only (fun e=>by have:=HST.out.footLt _ (Or.inr (Or.inl e));have:=HGE.out;omega));have HNEW:Hid (∀q',a'=some q'→w.heap.size≤q'.block∧q'.block<w5.heap.size):=by
   intro q' hq';have h1:=HN4.out.own.lt q'.block (by rw[hq'];rfl);have h2:=HSZ.out.only.size;have h3:w4.heap.size≤w5.heap.size:=by have:=zg HX5.out.1;omega
   omega
  have HR6':=za (zbI HR5.out HV6.out.only (fun _ q' hq' e=>by have h1:=HNEW.out q' hq';have:=HST.out.footLt _ (Or.inr (Or.inl e));omega) (fun x hx=>by
   have:=HOFF.out x (List.mem_append_left _ (HLL.out.2.1 x hx));exact⟨fun he ad ha e=>this.1 he ad ha (Or.inl (Or.inr (Or.inl e))),fun he ad ha e=>this.2 he ad ha (Or.inl (Or.inr (Or.inl e)))⟩))
  have HFIN:=za (HS6.out.at'.setQT L a' c' ⟨tw,tg,ts,tp⟩ HR6'.out HN4.out.cap HN4.out.nil (fun _ q' hq' e=>by
   have h1:=HNEW.out q' hq'
   rcases HFT.out _ e with e'|e'
   ·have:=HST.out.offLt _ e';omega
   ·omega) (fun x hx=>Rq.Off.step (HAT5.out x (List.mem_append_left _ (HLL.out.2.1 x hx))) (HOFF.out x (List.mem_append_left _ (HLL.out.2.1 x hx))) HFT.out))
  refine hK _ _ (fun _=>⟨HS6.out.at'.cell 1 _ rfl,HX6.out⟩) ?_
  (try simp only[Act.put,dP])
  clear hK;refine zN (i:=6) rfl (by kernel_rfl) ?_;intro K hK;go_simp;refine hK _ _ (fun h=>absurd rfl h) ?_;(try simp only[Act.put,dP]);clear hK;refine zbX (by kernel_rfl) ?_ _;have y21:=HS6.out.at'.cell 21 _ rfl;have y22:=HS6.out.at'.cell 22 _ rfl;have y23:=HS6.out.at'.cell 23 _ rfl;have y24:=HS6.out.at'.cell 24 _ rfl;have y25:=HS6.out.at'.cell 25 _ rfl;have x21:=HS6.out.at'.fz 21;have x22:=HS6.out.at'.fz 22;have x23:=HS6.out.at'.fz 23;have x24:=HS6.out.at'.fz 24;have x25:=HS6.out.at'.fz 25;have l6:=HS6.out.at'.lt;obtain⟨t0,t1,t2,t3⟩:=HT6.out;have lg:=zg t0;have nsg:g ≠ s:=by have:=HST.out.lt;have:=HGE.out;omega
  have nsg':s ≠ g:=Ne.symm nsg;have HSQ:Hid (∀w',zp s { p with dev:={ p.dev with busy:=p.dev.busy++[r] },f:=p.f } { A with an:=an',n:=A.n,D:=A.D } ({ p with dev:={ p.dev with busy:=p.dev.busy++[r] },queue:=L,turn:=⟨tw,tg,ts,tp⟩ }:Sk) { A with an:=an',n:=A.n,D:=A.D,qa:=a',qc:=c' } w6 w'→SOk s p A w w' q):=fun w' h'=>⟨_,_,HS6.out.trans h',HQ.out⟩
  clear HS6 HX6 HT6 HR6' HV6 HS HAT5 HOFF HRO eg HFT HS5 HT5 HR5 HX5 HS4 HT4 HNEW HSZ HTZ HGE HTAKE HCALLN HQ;go_wp2_with fail
  go_region
  all_goals
   go_wp2;go_ret;exact⟨rfl,HSQ.out _ (HFIN.out.1.later (Below.refl _ _).drew)⟩
theorem zfj(s:Nat)(p:Sk)(A:Sa)(w:World)(h:zj s p A w)(hI:Inv p)(t:Bool)(q:Sk)(hq:p.nf.dispatch=(t,q)) :
 Calls Tryz.prog 41 #[.pointer (some ⟨s,0,none⟩)] w fun e w'=>e=.returned (.bool t)∧SOk s p A w w' q:=by
 by_cases he:p.queue=[]
 ·have e:p.nf.dispatch=(false,p.nf):=by
   unfold Sk.dispatch;exact if_pos (Or.inl (by show p.queue.map Rq.nf=[];rw[he];rfl))
  rw[e] at hq
  cases hq
  exact zhH s p A w h he
 ·by_cases hf:2≤p.dev.busy.length
  ·have e:p.nf.dispatch=(false,p.nf):=by
    unfold Sk.dispatch;exact if_pos (Or.inr (by rw[show p.nf.dev.busy.length=p.dev.busy.length from List.length_map _];exact hf))
   rw[e] at hq
   cases hq
   exact zhG s p A w h he hf
  ·have e1:p.nf.dispatch.1=true:=by
    unfold Sk.dispatch;rw[if_neg];rintro(e|e)
    ·exact he (List.map_eq_nil_iff.1 e)
    ·rw[show p.nf.dev.busy.length=p.dev.busy.length from List.length_map _] at e;omega
   rw[hq] at e1;obtain rfl:t=true:=e1;exact ziz s p A w h hI he (by omega) q (by rw[hq])
def Sk.readers1(p:Sk)(F:Int→Bool)(s:ByteArray)(e:Int)(k:Nat):Sk:=if(p.client k).kind=1∧F (p.client k).pl=true then p.answer k s e else p
def Sk.readersTo(p:Sk)(F:Int→Bool)(s:ByteArray)(e:Int):Nat→Sk
 |0=>p
 |k+1=>(p.readersTo F s e k).readers1 F s e k
theorem zfy(p:Sk)(F:Int→Bool)(s:ByteArray)(e:Int):∀k,(p.readersTo F s e k).cl.length=p.cl.length
 |0=>rfl
 |k+1=>by
  have ih:=zfy p F s e k;unfold Sk.readersTo Sk.readers1
  split
  ·unfold Sk.answer;rw[List.length_set];exact ih
  ·exact ih
theorem zfh{p:Sk}(h:Inv p)(F:Int→Bool)(s:ByteArray)(e:Int):∀k,Inv (p.readersTo F s e k)
 |0=>h
 |k+1=>by
  have ih:=zfh h F s e k;unfold Sk.readersTo Sk.readers1
  split
  ·exact ih.answer k s e
  ·exact ih
theorem zlS(p:Sk)(hl:p.cl.length=3)(F:Int→Bool)(s:ByteArray)(e:Int):p.readersTo F s e 3=p.readers F s e:=by
 obtain⟨dev,f,cl,hand,queue,turn,moment,tags,uses,dead,ag⟩:=p;simp only at hl
 match cl,hl with
 |[a,b,c],_ =>
  simp only[Sk.readersTo,Sk.readers1,Sk.readers,Sk.client,Sk.answer,List.map_cons,List.map_nil]
  by_cases h0:a.kind=1∧F a.pl=true<;>by_cases h1:b.kind=1∧F b.pl=true<;>by_cases h2:c.kind=1∧F c.pl=true<;>simp[h0,h1,h2]
theorem zfi(p:Sk)(F G:Int→Bool)(s:ByteArray)(e:Int)(h:∀c∈p.cl,c.kind=1→F c.pl=G c.pl):p.readers F s e=p.readers G s e:=by
 unfold Sk.readers
 congr 1
 refine List.map_congr_left (fun c hc=>?_)
 by_cases hk:c.kind=1
 ·rw[h c hc hk]
 ·rw[if_neg (fun h'=>hk h'.1),if_neg (fun h'=>hk h'.1)]
theorem zeq(s:Nat)(p:Sk)(A:Sa)(w:World)(h:zj s p A w)(hI:Inv p)(f m:Int)(data:ByteArray)(e:Int)(q:Sk)(hq:p.nf.readers (zau f m) data e=q) :
 Calls Tryz.prog 89 #[.pointer (some ⟨s,0,none⟩),.agg #[.int .i64 f,.int .i64 m],.string data,zI e] w fun x w'=>x=.returned (.tuple #[])∧SOk s p A w w' q:=by
 have HST:=za h;have HI:=za hI;have hl3:=hI.cl3;have HQ:=za hq;have HANS:Hid (∀p' A' w',zj s p' A' w'→p'.cl.length=3→∀i,i<3→Calls Tryz.prog 138 #[.pointer (some ⟨s,2+i*6,none⟩),.string data,zI e] w' fun x w2=>x=.returned (.tuple #[])∧zp s p' A' (p'.answer i data e) (A'.drop i) w' w2):=fun p' A' w' h' hl' i hi=>zcv s p' A' w' h' hl' i hi data e
 clear h hq hI;generalize zI e=ev at *;go_enter Tryz.func89,Tryz.ntmps89;go_wp2;have hw0:Below w.heap.size w (w.alloc (.cells #[.int .i64 f,.int .i64 m] 144)):=by(with_reducible repeat first|exact Below.refl _ _|refine zc ?_ _|refine zd ?_|refine bset' ?_ (by omega) _|refine zb ?_ (by assumption))
 have hx0:(w.alloc (.cells #[.int .i64 f,.int .i64 m] 144)).cell? ⟨w.heap.size,0,none⟩=some (.int .i64 f):=by simp
 have hx1:(w.alloc (.cells #[.int .i64 f,.int .i64 m] 144)).cell? ⟨w.heap.size,1,none⟩=some (.int .i64 m):=by simp
 generalize hW:w.alloc (.cells #[.int .i64 f,.int .i64 m] 144)=w0 at *;clear hW;have HS0:=za (zp.same' HST.out hw0);have HX:=za (And.intro hx0 hx1);clear hw0 hx0 hx1
 go_loopw[10] (fun i wr=>∃k:Nat,k≤3∧i=.int .i64 k∧SRel s p A w0 wr (p.nf.readersTo (zau f m) data e k)) (fun i _=>3-(intOf i).toNat)
 case atStart=>exact⟨0,by omega,rfl,p,A,zp.same' HS0.out.at' (Below.refl _ _),rfl⟩
 case round =>
  obtain⟨k,hk,rfl,p',A',hs,hn⟩:=hrel;have HS:=za hs;have HN:=za hn
  by_cases hlt:k<3
  ·have hlt':(k:Int)<3:=by omega
   have HL':Hid (p'.cl.length=3):=by
    have h1:p'.nf.cl.length=3:=by rw[hn,zfy];exact hl3
    exact h1
   have hkd4:0≤(p'.client k).kind∧(p'.client k).kind≤3:=by
    have h1:=zfh HI.out.nf (zau f m) data e k;rw[←hn] at h1;exact(h1.of_nf.client k).kind
   obtain⟨c0,c1,-⟩:=hs.at'.client k hlt;have hl:=hs.at'.lt;have b0:=hs.box HST.out (Nat.le_refl _) HX.out.1;have b1:=hs.box HST.out (Nat.le_refl _) HX.out.2;have lb:=zg b0;have HE:Hid (p'.nf.readers1 (zau f m) data e k=if(p'.client k).kind=1∧zau f m (p'.client k).pl=true then p'.nf.answer k data e else p'.nf):=za rfl;clear hs hn;obtain⟨kd,hkd⟩:∃kd,(p'.client k).kind=kd:=⟨_,rfl⟩
   obtain⟨pl,hpl⟩:∃pl,(p'.client k).pl=pl:=⟨_,rfl⟩
   rw[hkd] at c0 HE hkd4;rw[hpl] at c1 HE;clear hkd hpl
   by_cases h1:kd=1
   ·subst h1
    cases hB:zau f m pl
    ·rw[hB,if_neg (fun h'=>by cases h'.2)] at HE;have HBB:=za hB;clear hB;go_wp2_with fail
     go_region_held3 (fun w'=>w'.cell? ⟨s,2+k*6,none⟩=some (.int .i64 1)∧w'.cell? ⟨s,2+k*6+1,none⟩=some (.int .i64 pl)∧w'.cell? ⟨w.heap.size,0,none⟩=some (.int .i64 f)∧w'.cell? ⟨w.heap.size,1,none⟩=some (.int .i64 m)) (exact⟨cellB_later' (w:=wr) (by(with_reducible repeat first|exact Below.refl _ _|refine zc ?_ _|refine zd ?_|refine bset' ?_ (by omega) _|refine zb ?_ (by assumption))) c0,cellB_later' (w:=wr) (by(with_reducible repeat first|exact Below.refl _ _|refine zc ?_ _|refine zd ?_|refine bset' ?_ (by omega) _|refine zb ?_ (by assumption))) c1,cellB_later' (w:=wr) (by(with_reducible repeat first|exact Below.refl _ _|refine zc ?_ _|refine zd ?_|refine bset' ?_ (by omega) _|refine zb ?_ (by assumption))) b0,cellB_later' (w:=wr) (by(with_reducible repeat first|exact Below.refl _ _|refine zc ?_ _|refine zd ?_|refine bset' ?_ (by omega) _|refine zb ?_ (by assumption))) b1⟩) (first|(go_at_call 126;refine(zc2 f m pl _ false HBB.out).mono ?_;rintro x w1 ⟨rfl,hb1⟩))
     all_goals
      have HS1:Hid (zp s p A p' A' w0 w1):=HS.out.later (by(with_reducible repeat first|exact Below.refl _ _|refine zc ?_ _|refine zd ?_|refine bset' ?_ (by omega) _|refine zb ?_ (by assumption)));clear hb1;go_wp2;go_roundw
      case rel=>exact⟨k+1,by omega,by go_num,p',A',HS1.out,by rw[Sk.readersTo,←HN.out,HE.out]⟩
      case measure=>simp[intOf];omega
    ·rw[hB,if_pos ⟨rfl,rfl⟩] at HE;have HBB:=za hB;clear hB;go_wp2_with fail
     go_region_held3 (fun w'=>w'.cell? ⟨s,2+k*6,none⟩=some (.int .i64 1)∧w'.cell? ⟨s,2+k*6+1,none⟩=some (.int .i64 pl)∧w'.cell? ⟨w.heap.size,0,none⟩=some (.int .i64 f)∧w'.cell? ⟨w.heap.size,1,none⟩=some (.int .i64 m)) (exact⟨cellB_later' (w:=wr) (by(with_reducible repeat first|exact Below.refl _ _|refine zc ?_ _|refine zd ?_|refine bset' ?_ (by omega) _|refine zb ?_ (by assumption))) c0,cellB_later' (w:=wr) (by(with_reducible repeat first|exact Below.refl _ _|refine zc ?_ _|refine zd ?_|refine bset' ?_ (by omega) _|refine zb ?_ (by assumption))) c1,cellB_later' (w:=wr) (by(with_reducible repeat first|exact Below.refl _ _|refine zc ?_ _|refine zd ?_|refine bset' ?_ (by omega) _|refine zb ?_ (by assumption))) b0,cellB_later' (w:=wr) (by(with_reducible repeat first|exact Below.refl _ _|refine zc ?_ _|refine zd ?_|refine bset' ?_ (by omega) _|refine zb ?_ (by assumption))) b1⟩) (first|(go_at_call 126;refine(zc2 f m pl _ true HBB.out).mono ?_;rintro x w1 ⟨rfl,hb1⟩))
     all_goals
      have HS1:Hid (zp s p A p' A' w0 w1):=HS.out.later (by(with_reducible repeat first|exact Below.refl _ _|refine zc ?_ _|refine zd ?_|refine bset' ?_ (by omega) _|refine zb ?_ (by assumption)));clear hb1;go_wp2_with fail;refine(HANS.out p' A' _ HS1.out.at' HL'.out k hlt).mono ?_;rintro x w2 ⟨rfl,hs2⟩;have HS2:=za (HS1.out.trans hs2);clear hs2;go_wp2;go_roundw
      case rel=>exact⟨k+1,by omega,by go_num,_,_,HS2.out,by rw[Sk.readersTo,←HN.out,HE.out];rfl⟩
      case measure=>simp[intOf];omega
   ·rw[if_neg (fun h'=>h1 h'.1)] at HE;have h4:kd=0∨kd=2∨kd=3:=by omega
    clear h1 hkd4
    rcases h4 with rfl|rfl|rfl
    ·go_wp2_with fail
     go_region
     all_goals
      go_wp2;go_roundw
      case rel=>exact⟨k+1,by omega,by go_num,p',A',HS.out.later (by(with_reducible repeat first|exact Below.refl _ _|refine zc ?_ _|refine zd ?_|refine bset' ?_ (by omega) _|refine zb ?_ (by assumption))),by rw[Sk.readersTo,←HN.out,HE.out]⟩
      case measure=>simp[intOf];omega
    ·go_wp2_with fail
     go_region
     all_goals
      go_wp2;go_roundw
      case rel=>exact⟨k+1,by omega,by go_num,p',A',HS.out.later (by(with_reducible repeat first|exact Below.refl _ _|refine zc ?_ _|refine zd ?_|refine bset' ?_ (by omega) _|refine zb ?_ (by assumption))),by rw[Sk.readersTo,←HN.out,HE.out]⟩
      case measure=>simp[intOf];omega
    ·go_wp2_with fail
     go_region
     all_goals
      go_wp2;go_roundw
      case rel=>exact⟨k+1,by omega,by go_num,p',A',HS.out.later (by(with_reducible repeat first|exact Below.refl _ _|refine zc ?_ _|refine zd ?_|refine bset' ?_ (by omega) _|refine zb ?_ (by assumption))),by rw[Sk.readersTo,←HN.out,HE.out]⟩
      case measure=>simp[intOf];omega
  ·obtain rfl:k=3:=by omega
   clear hs hn;go_wp2;go_end0;refine⟨rfl,p',A',HS0.out.trans HS.out,HN.out.trans ?_⟩;rw[zlS p.nf hl3];exact HQ.out
theorem zkI{pl x:Int}(hpl:0≤pl∧pl≤31)(hx:x≤31):(x==pl)=zau pl 1 x:=by
 rw[zey pl 1 4 x (by simp only[okB,decide_eq_true_eq];omega) (by omega),Bool.eq_iff_iff];simp only[beq_iff_eq,zbh,decide_eq_true_eq]
 omega
theorem zkg{p:Sk}(hI:Inv p){pl:Int}(hpl:0≤pl∧pl≤31)(s:ByteArray)(e:Int):p.readers (fun x=>x==pl) s e=p.readers (zau pl 1) s e :=
 zfi p _ _ s e (fun c hc hk=>zkI hpl ((hI.cok c hc).pl (by rw[hk];omega)).2)
theorem zl3(s:Nat)(p:Sk)(A:Sa)(w:World)(h:zj s p A w)(pl:Int)(data:ByteArray)(k:Nat)(hk:k<p.hand.length)(hix:zZ (plB pl) p.hand=k) :
 Calls Tryz.prog 137 #[.pointer (some ⟨s,0,none⟩),.int .i64 pl,.string data] w fun e w'=>e=.returned (.tuple #[])∧SOk s p A w w' p.nf:=by
 have c20:=h.cell 20 _ rfl;have hl:=h.lt;have HST:=za h;have HIX:=za hix;clear h hix;go_enter Tryz.func137,Tryz.ntmps137;go_wp2_with fail;refine(zex p.hand A.ha A.hc pl _ (HST.out.mem.hand.later (by(with_reducible repeat first|exact Below.refl _ _|refine zc ?_ _|refine zd ?_|refine bset' ?_ (by omega) _|refine zb ?_ (by assumption)))) k hk HIX.out).mono ?_;rintro e w1 ⟨rfl,hb1⟩;go_wp2;refine bodyPost_ret (v:=.tuple #[]) (by simp[results,Tryz.results137,go_sem]) rfl ?_;exact⟨rfl,p,A,zp.same' HST.out (by(with_reducible repeat first|exact Below.refl _ _|refine zc ?_ _|refine zd ?_|refine bset' ?_ (by omega) _|refine zb ?_ (by assumption))),rfl⟩
theorem zj.setHU{s:Nat}{p:Sk}{A:Sa}{w:World}(h:zj s p A w)(l:List Bf)(a':Option Addr)(c':Nat)(u:Int)(hB:zB w a' l)(hcap:l.length≤c')(hnil:a'=none→c'=0)(ho:l ≠ []→∀q,a'=some q→¬A.off s q.block):zp s p A { p with hand:=l,uses:=u } { A with ha:=a',hc:=c' } w ((w.setCell ⟨s,20,none⟩ (.slice a' l.length c')).setCell ⟨s,28,none⟩ (.int .i64 u)) :=
 (h.setHand l a' c' hB hcap hnil ho).trans ((h.setHand l a' c' hB hcap hnil ho).at'.setUses u)
theorem zkt(s:Nat)(p:Sk)(A:Sa)(w:World)(h:zj s p A w)(hI:Inv p)(hU:p.uses≤4000000000000000000)(pl:Int)(hpl:0≤pl∧pl≤31)(data:ByteArray)(hs4:data.size≤4)(hg:zat p.hand pl=none)(q:Sk)(hq:p.nf.wasRead pl data=q) :
 Calls Tryz.prog 137 #[.pointer (some ⟨s,0,none⟩),.int .i64 pl,.string data] w fun e w'=>e=.returned (.tuple #[])∧SOk s p A w w' q:=by
 have e1:p.nf.wasRead pl data=match zcj p.hand ⟨pl,data,false,p.uses+1⟩ (zaB (p.queue++p.dev.busy)) with
  |some l=>({ p.nf with hand:=l,uses:=p.uses+1 }:Sk).readers (fun x=>x==pl) data 0
  |none=>p.nf.readers (fun x=>x==pl) data 0:=by
  rw[←zgo];show(match zat p.hand pl with|some _=>_|none=>_)=_;rw[hg];rfl
 rw[e1] at hq;have HIX:Hid (zZ (plB pl) p.hand=-1):=by
  rcases zaV p.hand pl with⟨_,h'⟩|⟨k,hk',h',_⟩
  ·exact h'
  ·rw[hg] at h';cases h'
 have HPL:=za hpl;have HI:=za hI;have HQ:=za hq;have HST:=za h;have h8:=hI.hand.len;have c20:=h.cell 20 _ rfl;have hl:=h.lt;have hwr:IntKind.i64.wrap (p.uses+1)=p.uses+1:=by have:=hI.us;rw[IntKind.wrap_i64];omega
 clear h hI hpl hq e1 hg;go_enter Tryz.func137,Tryz.ntmps137;go_wp2_with fail;refine(zgO p.hand A.ha A.hc pl _ (HST.out.mem.hand.later (by(with_reducible repeat first|exact Below.refl _ _|refine zc ?_ _|refine zd ?_|refine bset' ?_ (by omega) _|refine zb ?_ (by assumption)))) HIX.out).mono ?_;rintro e w1 ⟨rfl,hb1⟩;go_wp2_with fail;refine zbD (fun wy=>zp s p A p A w wy) (zp.same' HST.out (by(with_reducible repeat first|exact Below.refl _ _|refine zc ?_ _|refine zd ?_|refine bset' ?_ (by omega) _|refine zb ?_ (by assumption)))) ?_;intro wy hsy;have HSy:=za hsy;have y20:=hsy.at'.cell 20 _ rfl;have y28:=hsy.at'.cell 28 _ rfl;have ly:=hsy.at'.lt;clear hsy hb1 c20 hl
 cases hP:zcj p.hand ⟨pl,data,false,p.uses+1⟩ (zaB (p.queue++p.dev.busy)) with
 |none =>
  have HP:=za hP;have HQ2:Hid (p.nf.readers (zau pl 1) data 0=q):=by
   have:=HQ.out;rw[hP] at this;rw[←zkg HI.out.nf HPL.out];exact this
  clear hP HQ
  go_region_held3 (fun w'=>w'.cell? ⟨s,20,none⟩=some (.slice A.ha p.hand.length A.hc)∧w'.cell? ⟨s,28,none⟩=some (.int .i64 p.uses)) (exact⟨cellB_later' (w:=wy) (by(with_reducible repeat first|exact Below.refl _ _|refine zc ?_ _|refine zd ?_|refine bset' ?_ (by omega) _|refine zb ?_ (by assumption))) y20,cellB_later' (w:=wy) (by(with_reducible repeat first|exact Below.refl _ _|refine zc ?_ _|refine zd ?_|refine bset' ?_ (by omega) _|refine zb ?_ (by assumption))) y28⟩) (first|(go_at_call 80;refine(zcN s p A _ (HSy.out.at'.later (by(with_reducible repeat first|exact Below.refl _ _|refine zc ?_ _|refine zd ?_|refine bset' ?_ (by omega) _|refine zb ?_ (by assumption)))) (by have:=HI.out.q6;omega)).mono ?_;rintro e w3 ⟨hb,rfl,hH,hb3⟩)|(go_at_call 161;refine(zjp hb (p.queue++p.dev.busy) p.hand A.ha A.hc ⟨pl,data,false,p.uses+1⟩ _ (HSy.out.at'.mem.hand.later (by(with_reducible repeat first|exact Below.refl _ _|refine zc ?_ _|refine zd ?_|refine bset' ?_ (by omega) _|refine zb ?_ (by assumption)))) HSy.out.at'.mem.hnil h8 (zbz.later hH (by(with_reducible repeat first|exact Below.refl _ _|refine zc ?_ _|refine zd ?_|refine bset' ?_ (by omega) _|refine zb ?_ (by assumption)))) HP.out).mono ?_;rintro e w4 ⟨rfl,hb4⟩))
  all_goals
   have HS4:Hid (zp s p A p A w w4):=HSy.out.later (by(with_reducible repeat first|exact Below.refl _ _|refine zc ?_ _|refine zd ?_|refine bset' ?_ (by omega) _|refine zb ?_ (by assumption)));clear hb3 hb4 hH;go_wp2_with fail;have hrd:=zeq s p A _ HS4.out.at' HI.out pl 1 data 0 q HQ2.out;rw[show zI 0=.nilIface from rfl] at hrd;refine hrd.mono ?_;clear hrd;rintro e w5 ⟨rfl,hok⟩;have HO:=za (SOk.trans HS4.out hok);clear hok;go_wp2;go_end0;exact⟨rfl,HO.out⟩
 |some l =>
  have HP:=za hP;have P:=zd7 HI.out.hand hP;have HIN:Hid (∀c∈p.cl,c.kind=1→c.pl≤31):=fun c hc hk=>((HI.out.cok c hc).pl (by rw[hk];omega)).2
  have HQ2:Hid (({ p with hand:=l,uses:=p.uses+1 }:Sk).nf.readers (zau pl 1) data 0=q):=by
   have:=HQ.out;rw[hP] at this;rw[←this];exact(zfi ({ p with hand:=l,uses:=p.uses+1 }:Sk).nf (fun x=>x==pl) (zau pl 1) data 0 (fun c hc hk=>zkI HPL.out (HIN.out c hc hk))).symm
  have HI2:=za (HI.out.setHand l (p.uses+1) (P.ok ⟨HPL.out.1,HPL.out.2,hs4⟩) (by have h1:=P.dirty;simp only[Bool.false_eq_true,if_false] at h1;have:=HI.out.d6;omega) (by have:=HI.out.us;omega));clear hP HQ P
  go_region_held3 (fun w'=>w'.cell? ⟨s,20,none⟩=some (.slice A.ha p.hand.length A.hc)∧w'.cell? ⟨s,28,none⟩=some (.int .i64 p.uses)) (exact⟨cellB_later' (w:=wy) (by(with_reducible repeat first|exact Below.refl _ _|refine zc ?_ _|refine zd ?_|refine bset' ?_ (by omega) _|refine zb ?_ (by assumption))) y20,cellB_later' (w:=wy) (by(with_reducible repeat first|exact Below.refl _ _|refine zc ?_ _|refine zd ?_|refine bset' ?_ (by omega) _|refine zb ?_ (by assumption))) y28⟩) (first|(go_at_call 80;refine(zcN s p A _ (HSy.out.at'.later (by(with_reducible repeat first|exact Below.refl _ _|refine zc ?_ _|refine zd ?_|refine bset' ?_ (by omega) _|refine zb ?_ (by assumption)))) (by have:=HI.out.q6;omega)).mono ?_;rintro e w3 ⟨hb,rfl,hH,hb3⟩;have z3:wy.heap.size≤w3.heap.size:=(show Below wy.heap.size wy w3 by(with_reducible repeat first|exact Below.refl _ _|refine zc ?_ _|refine zd ?_|refine bset' ?_ (by omega) _|refine zb ?_ (by assumption))).size)|(go_at_call 161;refine(zjq hb (p.queue++p.dev.busy) p.hand A.ha A.hc ⟨pl,data,false,p.uses+1⟩ _ (HSy.out.at'.mem.hand.later (by(with_reducible repeat first|exact Below.refl _ _|refine zc ?_ _|refine zd ?_|refine bset' ?_ (by omega) _|refine zb ?_ (by assumption)))) HSy.out.at'.mem.hnil h8 (zbz.later hH (by(with_reducible repeat first|exact Below.refl _ _|refine zc ?_ _|refine zd ?_|refine bset' ?_ (by omega) _|refine zb ?_ (by assumption)))) l HP.out).mono ?_;rintro e w4 ⟨a',c',rfl,hput,hb4⟩;have HPU:=za hput;clear hput))
  all_goals
   have HS4:Hid (zp s p A p A w w4):=HSy.out.later (by(with_reducible repeat first|exact Below.refl _ _|refine zc ?_ _|refine zd ?_|refine bset' ?_ (by omega) _|refine zb ?_ (by assumption)));have HS5:=za (HS4.out.trans (HS4.out.at'.setHU l a' c' (p.uses+1) HPU.out.1 HPU.out.2.1 HPU.out.2.2.2 (fun _ q' hq' e=>by have:=HPU.out.2.2.1 q' hq';have:=HSy.out.at'.offLt _ e;omega)));have v20:=HS4.out.at'.cell 20 _ rfl;have x20:=HS4.out.at'.fz 20;have v28:=HS4.out.at'.cell 28 _ rfl;have x28:=HS4.out.at'.fz 28;have l4:=HS4.out.at'.lt;clear hb3 hb4 hH y20 y28;go_wp2_with fail;have hrd:=zeq s _ _ _ HS5.out.at' HI2.out pl 1 data 0 q HQ2.out;rw[show zI 0=.nilIface from rfl] at hrd;refine hrd.mono ?_;clear hrd;rintro e w5 ⟨rfl,hok⟩;have HO:=za (SOk.trans HS5.out hok);clear hok;go_wp2;go_end0;exact⟨rfl,HO.out⟩
theorem zks(s:Nat)(p:Sk)(A:Sa)(w:World)(h:zj s p A w)(hI:Inv p)(hU:p.uses≤4000000000000000000)(pl:Int)(hpl:0≤pl∧pl≤31)(data:ByteArray)(hs4:data.size≤4)(q:Sk)(hq:p.nf.wasRead pl data=q) :
 Calls Tryz.prog 137 #[.pointer (some ⟨s,0,none⟩),.int .i64 pl,.string data] w fun e w'=>e=.returned (.tuple #[])∧SOk s p A w w' q:=by
 rcases zaV p.hand pl with⟨hg,_⟩|⟨k,hk',hg,hix,_⟩
 ·exact zkt s p A w h hI hU pl hpl data hs4 hg q hq
 ·have e:p.nf.wasRead pl data=p.nf:=by
   show(match zat p.hand pl with|some _=>_|none=>_)=_;rw[hg]
  rw[e] at hq;subst hq;exact zl3 s p A w h pl data k hk' hix
theorem zgi{F:Nat→Prop}{w w':World}{q n xc:Nat}{r:Rq}{xa:Option Addr}{er:Int}(h:zcV w q r xa n xc er)(hO:zh F w w')(hn:¬F q):zcV w' q r xa n xc er:=by
 obtain⟨h0,h1,h2,h3,h4,h5,h6,h7⟩:=h;exact⟨only_cell' hO hn h0,only_cell' hO hn h1,only_cell' hO hn h2,only_cell' hO hn h3,only_cell' hO hn h4,only_cell' hO hn h5,only_cell' hO hn h6,only_cell' hO hn h7⟩
structure Went(s:Nat)(p:Sk)(A:Sa)(w0 wr:World)(q:Sk)(p':Sk)(A':Sa):Prop where
 step:zp s p A p' A' w0 wr
 nf:p'.nf=q
theorem wrapK(k f:Int)(h0:0≤f∧f≤31)(h1:0≤k∧k≤32):wrap64 (k-f)=k-f:=by unfold wrap64;omega
theorem zkx(s:Nat)(p:Sk)(A:Sa)(w:World)(h:zj s p A w)(hI:Inv p)(r:Rq)(gr:zv r)(hw:r.wr=true)(hd:zP w r.da r.data)(hdo:r.data ≠ []→∀ad,r.da=some ad→¬A.foot s ad.block)(xa:Option Addr)(xn xc:Nat)(xs:List ByteArray)(hx4:∀j,(xs.getD j ByteArray.empty).size≤4)(q:Sk)(hq:p.nf.wentWell r xs=q) :
 Calls Tryz.prog 88 #[.pointer (some ⟨s,0,none⟩),zaC r xa xn xc 0] w fun e w'=>e=.returned (.tuple #[])∧SOk s p A w w' q:=by
 have HST:=za h;have HI:=za hI;have HG:=za gr;have HD:=za hd;have HDO:=za hdo;have HQ:=za hq;have HHAS:=za (zgS r gr);have HB0:=za gr.bndD;have HLEN:=za (gr.shapeW hw);have HWR:=za hw;have hl:=h.lt;clear h hI gr hd hdo hq;have ev:zaC r xa xn xc 0=.agg #[.bool true,.int .i64 r.f,.int .i64 r.m,.slice r.da r.data.length r.dc,.slice r.ta r.tags.length r.tc,.int .i64 r.born,.slice xa xn xc,.int .i64 0]:=by
  unfold zaC;rw[hw]
 rw[ev];clear ev;go_enter Tryz.func88,Tryz.ntmps88;go_wp2;have hw0:Below w.heap.size w (w.alloc (.cells #[.bool true,.int .i64 r.f,.int .i64 r.m,.slice r.da r.data.length r.dc,.slice r.ta r.tags.length r.tc,.int .i64 r.born,.slice r.da r.data.length r.dc,.int .i64 0] 151)):=by(with_reducible repeat first|exact Below.refl _ _|refine zc ?_ _|refine zd ?_|refine bset' ?_ (by omega) _|refine zb ?_ (by assumption))
 have hx0:zcV (w.alloc (.cells #[.bool true,.int .i64 r.f,.int .i64 r.m,.slice r.da r.data.length r.dc,.slice r.ta r.tags.length r.tc,.int .i64 r.born,.slice r.da r.data.length r.dc,.int .i64 0] 151)) w.heap.size r r.da r.data.length r.dc 0:=by
  have hr:=zkP w 151 r r.da r.data.length r.dc 0;rw[hw] at hr;exact hr
 generalize hW:(w.alloc (.cells #[.bool true,.int .i64 r.f,.int .i64 r.m,.slice r.da r.data.length r.dc,.slice r.ta r.tags.length r.tc,.int .i64 r.born,.slice r.da r.data.length r.dc,.int .i64 0] 151))=w0 at *;clear hW;have HS0:=za (zp.same' HST.out hw0);have HX:=za hx0;have HD0:=za (HD.out.later hw0);have HGF:Hid (¬A.foot s w.heap.size):=fun e=>by have:=HST.out.footLt _ e;omega
 have HSH:Hid (∀j,(xs.getD j ByteArray.empty).size≤4):=hx4;clear hx4
 go_loopw[14] (fun i wr=>∃k:Nat,k≤32∧i=.int .i64 k∧SRel s p A w0 wr (p.nf.wentTo r xs (below r.f.toNat r.m.toNat k))) (fun i _=>32-(intOf i).toNat)
 case atStart=>exact⟨0,by omega,rfl,p,A,zp.same' HS0.out.at' (Below.refl _ _),by rw[show below r.f.toNat r.m.toNat 0=0 by unfold below;omega];rfl⟩
 case round =>
  obtain⟨k,hk,rfl,p',A',hs,hn⟩:=hrel;have HS:=za hs;have HN:=za hn
  by_cases hlt:k<32
  ·have hlt':(k:Int)<32:=by omega
   have HBX:=za (zgi HX.out hs.only HGF.out);have HDD:=za (zb6 HD0.out hs.only HDO.out);obtain⟨b0,b1,b2,b3,b4,b5,b6,b7⟩:=id HBX.out;rw[hw] at b0;have lb:=zg b0;have hl1:=hs.at'.lt;have c20:=hs.at'.cell 20 _ rfl;have f20:=hs.at'.fz 20;have hh:=HHAS.out k hlt;have HJ:Hid (below r.f.toNat r.m.toNat k≤r.m.toNat):=by show below r.f.toNat r.m.toNat k≤r.m.toNat;unfold below;omega
   have HI':Hid (Inv p'):=by
    have:=HI.out.nf.wentTo r HG.out xs HSH.out _ HJ.out;rw[←hn] at this;exact this.of_nf
   clear hs hn
   by_cases hin:r.f.toNat≤k∧k<r.f.toNat+r.m.toNat
   ·rw[decide_eq_true hin] at hh;have HH:=za hh;obtain⟨e1,e2⟩:=zeS hin.1 hin.2;obtain⟨j,hj⟩:∃j,below r.f.toNat r.m.toNat k=j:=⟨_,rfl⟩
    rw[hj] at e1 e2 HN HJ;have HE1:=za e1;have HKJ:Hid ((k:Int)=r.f+j):=by have:=HB0.out;show(k:Int)=r.f+j;omega
    have HWP:Hid (wrap64 ((k:Int)-r.f)=(j:Nat)):=by
     have:=HB0.out;have:=HKJ.out;rw[wrapK k r.f (by omega) (by omega)];show(k:Int)-r.f=j;omega
    have HJL:Hid (j<r.data.length):=by have:=HLEN.out;have:=HB0.out;show j<r.data.length;omega
    obtain⟨d,hd⟩:∃d,r.data.getD j ByteArray.empty=d:=⟨_,rfl⟩
    have HDJ:=za hd;have HSTEP:Hid (p'.nf.wentOne r xs j={ p'.nf with hand:=cleanL p'.hand k d }):=by
     show p'.nf.wentOne r xs j=_;unfold Sk.wentOne;rw[if_pos hw,hd,←HKJ.out]
     rfl
    clear hh hin e1 e2 hj hd;go_wp2_with fail;have hpt:=zhE r r.data r.da r.dc 0 k _ HDD.out HH.out j HWP.out HJL.out d HDJ.out;rw[show zaC r r.da r.data.length r.dc 0=.agg #[.bool true,.int .i64 r.f,.int .i64 r.m,.slice r.da r.data.length r.dc,.slice r.ta r.tags.length r.tc,.int .i64 r.born,.slice r.da r.data.length r.dc,.int .i64 0] by unfold zaC;rw[hw]] at hpt;refine hpt.mono ?_;clear hpt;rintro e w1 ⟨rfl,hb1⟩;have HS1:=za (HS.out.later hb1)
    replace c20:=cellB_later' hb1 c20
    replace f20:=HS1.out.at'.fz 20
    replace b0:=cellB_later' hb1 b0
    replace hl1:=HS1.out.at'.lt
    replace lb:=zg b0
    clear hb1 b1 b2 b3 b4 b5 b6 b7;go_wp2_with fail;refine(cleanN p'.hand A'.ha A'.hc k d _ HS1.out.at'.mem.hand HS1.out.at'.mem.hnil (by have:=HI'.out.hand.len;omega) HI'.out.hand.once).mono ?_;rintro e w2 ⟨a',c',rfl,u1,u2,u3,u4,u5⟩;have HS2:=za (HS1.out.later u5);have HS3:=za (HS2.out.trans (HS2.out.at'.setHand (cleanL p'.hand k d) a' c' u1 (by rw[show(cleanL p'.hand k d).length=p'.hand.length by simp[cleanL]];exact u2) u4 (fun _ q' hq' e=>by have:=u3 q' hq';have:=HS1.out.at'.offLt _ e;omega)));rw[show(cleanL p'.hand k d).length=p'.hand.length by simp[cleanL]] at HS3;have v20:=HS2.out.at'.cell 20 _ rfl;have x20:=HS2.out.at'.fz 20;have l2:=HS2.out.at'.lt;clear c20 f20 u1 u2 u3 u4 u5;go_wp2;go_roundw
    case rel=>exact⟨k+1,by omega,by go_num,_,_,HS3.out,by rw[HE1.out,zbl,←HN.out,HSTEP.out];rfl⟩
    case measure=>simp[intOf];omega
   ·rw[decide_eq_false hin] at hh;have HH:=za hh;have HE1:=za (zd1 hin);clear hh hin;go_wp2_with fail;have hpt:=zkM r r.da r.data.length r.dc 0 k wr HH.out;rw[show zaC r r.da r.data.length r.dc 0=.agg #[.bool true,.int .i64 r.f,.int .i64 r.m,.slice r.da r.data.length r.dc,.slice r.ta r.tags.length r.tc,.int .i64 r.born,.slice r.da r.data.length r.dc,.int .i64 0] by unfold zaC;rw[hw]] at hpt;refine hpt.mono ?_;clear hpt;rintro e w1 ⟨rfl,hb1⟩;have HS1:=za (HS.out.later hb1);clear hb1 b0 b1 b2 b3 b4 b5 b6 b7;go_wp2;go_roundw
    case rel=>exact⟨k+1,by omega,by go_num,p',A',HS1.out,by rw[HE1.out];exact HN.out⟩
    case measure=>simp[intOf];omega
  ·obtain rfl:k=32:=by omega
   clear hs hn;go_wp2;go_end0;refine⟨rfl,p',A',HS0.out.trans HS.out,HN.out.trans ?_⟩;rw[zd0 (by have:=HB0.out;omega)];exact HQ.out
theorem zkw(s:Nat)(p:Sk)(A:Sa)(w:World)(h:zj s p A w)(hI:Inv p)(r:Rq)(hU:p.uses≤3999999999999999990)(gr:zv r)(hw:r.wr=false)(xa:Option Addr)(xc:Nat)(xs:List ByteArray)(hd:zP w xa xs)(hdo:xs ≠ []→∀ad,xa=some ad→¬A.foot s ad.block)(hlen:xs.length=r.m.toNat)(hx4:∀j,(xs.getD j ByteArray.empty).size≤4)(q:Sk)(hq:p.nf.wentWell r xs=q) :
 Calls Tryz.prog 88 #[.pointer (some ⟨s,0,none⟩),zaC r xa xs.length xc 0] w fun e w'=>e=.returned (.tuple #[])∧SOk s p A w w' q:=by
 have HST:=za h;have HI:=za hI;have HG:=za gr;have HD:=za hd;have HDO:=za hdo;have HQ:=za hq;have HHAS:=za (zgS r gr);have HB0:=za gr.bndD;have HLEN:=za hlen;have HU:=za hU;have HWR:=za hw;have hl:=h.lt;clear h hI gr hd hdo hq hlen hU;have ev:zaC r xa xs.length xc 0=.agg #[.bool false,.int .i64 r.f,.int .i64 r.m,.slice r.da r.data.length r.dc,.slice r.ta r.tags.length r.tc,.int .i64 r.born,.slice xa xs.length xc,.int .i64 0]:=by
  unfold zaC;rw[hw]
 rw[ev];clear ev;go_enter Tryz.func88,Tryz.ntmps88;go_wp2;have hw0:Below w.heap.size w (w.alloc (.cells #[.bool false,.int .i64 r.f,.int .i64 r.m,.slice r.da r.data.length r.dc,.slice r.ta r.tags.length r.tc,.int .i64 r.born,.slice xa xs.length xc,.int .i64 0] 151)):=by(with_reducible repeat first|exact Below.refl _ _|refine zc ?_ _|refine zd ?_|refine bset' ?_ (by omega) _|refine zb ?_ (by assumption))
 have hx0:zcV (w.alloc (.cells #[.bool false,.int .i64 r.f,.int .i64 r.m,.slice r.da r.data.length r.dc,.slice r.ta r.tags.length r.tc,.int .i64 r.born,.slice xa xs.length xc,.int .i64 0] 151)) w.heap.size r xa xs.length xc 0:=by
  have hr:=zkP w 151 r xa xs.length xc 0;rw[hw] at hr;exact hr
 generalize hW:(w.alloc (.cells #[.bool false,.int .i64 r.f,.int .i64 r.m,.slice r.da r.data.length r.dc,.slice r.ta r.tags.length r.tc,.int .i64 r.born,.slice xa xs.length xc,.int .i64 0] 151))=w0 at *;clear hW;have HS0:=za (zp.same' HST.out hw0);have HX:=za hx0;have HD0:=za (HD.out.later hw0);have HGF:Hid (¬A.foot s w.heap.size):=fun e=>by have:=HST.out.footLt _ e;omega
 have HSH:Hid (∀j,(xs.getD j ByteArray.empty).size≤4):=hx4;clear hx4
 go_loopw[14] (fun i wr=>∃k:Nat,k≤32∧i=.int .i64 k∧SRel s p A w0 wr (p.nf.wentTo r xs (below r.f.toNat r.m.toNat k))) (fun i _=>32-(intOf i).toNat)
 case atStart=>exact⟨0,by omega,rfl,p,A,zp.same' HS0.out.at' (Below.refl _ _),by rw[show below r.f.toNat r.m.toNat 0=0 by unfold below;omega];rfl⟩
 case round =>
  obtain⟨k,hk,rfl,p',A',hs,hn⟩:=hrel;have HS:=za hs;have HN:=za hn
  by_cases hlt:k<32
  ·have hlt':(k:Int)<32:=by omega
   have HBX:=za (zgi HX.out hs.only HGF.out);have HDD:=za (zb6 HD0.out hs.only HDO.out);obtain⟨b0,b1,b2,b3,b4,b5,b6,b7⟩:=id HBX.out;rw[hw] at b0;have lb:=zg b0;have hl1:=hs.at'.lt;have c20:=hs.at'.cell 20 _ rfl;have f20:=hs.at'.fz 20;have hh:=HHAS.out k hlt;have HJ:Hid (below r.f.toNat r.m.toNat k≤r.m.toNat):=by show below r.f.toNat r.m.toNat k≤r.m.toNat;unfold below;omega
   have HI':Hid (Inv p'):=by
    have:=HI.out.nf.wentTo r HG.out xs HSH.out _ HJ.out;rw[←hn] at this;exact this.of_nf
   clear hs hn
   by_cases hin:r.f.toNat≤k∧k<r.f.toNat+r.m.toNat
   ·rw[decide_eq_true hin] at hh;have HH:=za hh;obtain⟨e1,e2⟩:=zeS hin.1 hin.2;obtain⟨j,hj⟩:∃j,below r.f.toNat r.m.toNat k=j:=⟨_,rfl⟩
    rw[hj] at e1 e2 HN HJ;have HE1:=za e1;have HKJ:Hid ((k:Int)=r.f+j):=by have:=HB0.out;show(k:Int)=r.f+j;omega
    have HWP:Hid (wrap64 ((k:Int)-r.f)=(j:Nat)):=by
     have:=HB0.out;have:=HKJ.out;rw[wrapK k r.f (by omega) (by omega)];show(k:Int)-r.f=j;omega
    have HJL:Hid (j<xs.length):=by have:=HLEN.out;have:=HB0.out;show j<xs.length;omega
    obtain⟨d,hd⟩:∃d,xs.getD j ByteArray.empty=d:=⟨_,rfl⟩
    have HDJ:=za hd;have HSTEP:Hid (p'.nf.wentOne r xs j=p'.nf.wasRead k d):=by
     show p'.nf.wentOne r xs j=_;unfold Sk.wentOne;rw[if_neg (by rw[hw];exact Bool.false_ne_true),hd,←HKJ.out]
    have HD4:Hid (d.size≤4):=by have:=HSH.out j;rw[hd] at this;exact this
    have HUU:Hid (p'.uses≤4000000000000000000):=by
     have h1:=(zde p.nf r xs j).uses;rw[←HN.out] at h1;have h2:p'.uses≤p.uses+j:=h1;have:=HU.out;have:=HJ.out;have:=HB0.out;show p'.uses≤4000000000000000000
     omega
    clear hh hin e1 e2 hj hd;go_wp2_with fail;have hpt:=zhE r xs xa xc 0 k _ HDD.out HH.out j HWP.out HJL.out d HDJ.out;rw[show zaC r xa xs.length xc 0=.agg #[.bool false,.int .i64 r.f,.int .i64 r.m,.slice r.da r.data.length r.dc,.slice r.ta r.tags.length r.tc,.int .i64 r.born,.slice xa xs.length xc,.int .i64 0] by unfold zaC;rw[hw]] at hpt;refine hpt.mono ?_;clear hpt;rintro e w1 ⟨rfl,hb1⟩;have HS1:=za (HS.out.later hb1)
    replace c20:=cellB_later' hb1 c20
    replace f20:=HS1.out.at'.fz 20
    replace b0:=cellB_later' hb1 b0
    replace hl1:=HS1.out.at'.lt
    replace lb:=zg b0
    clear hb1 b1 b2 b3 b4 b5 b6 b7;go_wp2_with fail;refine(zks s p' A' _ HS1.out.at' HI'.out HUU.out k (by have:=HB0.out;have:=HKJ.out;omega) d HD4.out _ rfl).mono ?_;rintro e w2 ⟨rfl,hok⟩;have HO:=za (SOk.trans HS1.out hok);clear hok c20 f20;go_wp2;go_roundw
    case rel=>exact⟨k+1,by omega,by go_num,by rw[HE1.out,zbl,←HN.out,HSTEP.out];exact HO.out⟩
    case measure=>simp[intOf];omega
   ·rw[decide_eq_false hin] at hh;have HH:=za hh;have HE1:=za (zd1 hin);clear hh hin;go_wp2_with fail;have hpt:=zkM r xa xs.length xc 0 k wr HH.out;rw[show zaC r xa xs.length xc 0=.agg #[.bool false,.int .i64 r.f,.int .i64 r.m,.slice r.da r.data.length r.dc,.slice r.ta r.tags.length r.tc,.int .i64 r.born,.slice xa xs.length xc,.int .i64 0] by unfold zaC;rw[hw]] at hpt;refine hpt.mono ?_;clear hpt;rintro e w1 ⟨rfl,hb1⟩;have HS1:=za (HS.out.later hb1);clear hb1 b0 b1 b2 b3 b4 b5 b6 b7;go_wp2;go_roundw
    case rel=>exact⟨k+1,by omega,by go_num,p',A',HS1.out,by rw[HE1.out];exact HN.out⟩
    case measure=>simp[intOf];omega
  ·obtain rfl:k=32:=by omega
   clear hs hn;go_wp2;go_end0;refine⟨rfl,p',A',HS0.out.trans HS.out,HN.out.trans ?_⟩;rw[zd0 (by have:=HB0.out;omega)];exact HQ.out
theorem zgm(d:Dl)(l:List Rq)(r:Rq):∀n,({ d with busy:=l }:Dl).writesTo r n={ d.writesTo r n with busy:=l }
 |0=>rfl
 |n+1=>by rw[Dl.writesTo_succ,zgm d l r n,Dl.writesTo_succ];rfl
theorem did_at(d:Dl)(l:List Rq)(r:Rq):({ d with busy:=l }:Dl).did r={ d.did r with busy:=l }:=by
 unfold Dl.did
 split
 ·exact zgm d l r _
 ·rfl
theorem did_nf(d:Dl)(r:Rq):d.nf.did r.nf=(d.did r).nf:=by
 show({ d with busy:=d.busy.map Rq.nf }:Dl).did r={ d.did r with busy:=(d.did r).busy.map Rq.nf };rw[did_at,Dl.did_busy]
theorem zf2(p:Sk)(k:Nat):p.nf.took k=(p.took k).nf:=by
 simp only[Sk.took,Sk.nf,Dl.nf,List.eraseIdx_eq_take_drop_succ,List.map_append,List.map_take,List.map_drop]
theorem zoN(p:Sk)(r:Rq):p.nf.did r.nf=(p.did r).nf:=by
 have e:p.nf.dev.did r.nf=(p.dev.did r).nf:=did_nf p.dev r;unfold Sk.did;rw[e]
 rfl
theorem znI(p:Sk)(r:Rq):p.nf.again r.nf=(p.again r).nf:=by
 simp only[Sk.again,Sk.nf,Dl.nf,List.map_append,List.map_cons,List.map_nil]
 rfl
theorem zfJ{p:Sk}{k:Nat}{r:Rq}(h:p.dev.busy[k]?=some r):p.nf.dev.busy[((k:Int)).toNat]?=some r.nf:=by
 rw[Int.toNat_natCast];show(p.dev.busy.map Rq.nf)[k]?=_;rw[List.getElem?_map,h];rfl
section
variable{p:Sk}{k:Nat}{r:Rq}
theorem zmu(h:p.dev.busy[k]?=some r):p.nf.end' (k:Int) false=(0,(((p.took k).did r).nf.wentWell r (zaG p.dev r)).serve):=by
 unfold Sk.end';rw[if_neg (by omega),zfJ h];simp only[Int.toNat_natCast,if_true];rw[zf2,zoN];rfl
theorem zi5(h:p.dev.busy[k]?=some r)(hf:p.f (r.tags.getD 0 0)<2):p.nf.end' (k:Int) true=(0,((p.took k).again r).nf):=by
 unfold Sk.end';rw[if_neg (by omega),zfJ h];simp only[Int.toNat_natCast];rw[if_neg (by decide),if_pos (show p.nf.f (r.nf.tags.getD 0 0)<2 from hf),zf2,znI]
theorem zjR(h:p.dev.busy[k]?=some r)(hf:¬p.f (r.tags.getD 0 0)<2)(hw:r.wr=true):p.nf.end' (k:Int) true=(0,({ (p.took k).lost r with dead:=true }:Sk).nf.serve):=by
 unfold Sk.end';rw[if_neg (by omega),zfJ h];simp only[Int.toNat_natCast];rw[if_neg (by decide),if_neg (show ¬p.nf.f (r.nf.tags.getD 0 0)<2 from hf),if_pos (show r.nf.wr=true from hw),zf2];rfl
theorem zjS(h:p.dev.busy[k]?=some r)(hf:¬p.f (r.tags.getD 0 0)<2)(hw:r.wr=false):p.nf.end' (k:Int) true=(0,((((p.took k).lost r).nf.readers (zau r.f r.m) ByteArray.empty 8).serve)):=by
 unfold Sk.end';rw[if_neg (by omega),zfJ h];simp only[Int.toNat_natCast];rw[if_neg (by decide),if_neg (show ¬p.nf.f (r.nf.tags.getD 0 0)<2 from hf),if_neg (by rw[show r.nf.wr=false from hw];exact Bool.false_ne_true),zf2];rfl
end
theorem zk8{p:Sk}{i:Int}(h:i<0∨(p.dev.busy.length:Int)≤i)(fl:Bool):p.nf.end' i fl=(5,p.nf):=by
 unfold Sk.end'
 by_cases h0:i<0
 ·rw[if_pos h0]
 ·rw[if_neg h0];have:p.nf.dev.busy[i.toNat]?=none:=by
   show(p.dev.busy.map Rq.nf)[i.toNat]?=none;rw[List.getElem?_eq_none];rw[List.length_map];omega
  rw[this]
section
variable{s:Nat}{p:Sk}{A:Sa}{w:World}{k:Nat}{r:Rq}
theorem zj.vreq(h:zj s p A w)(hI:Inv p)(hT:p.tags≤4000000000000000000)(hk:p.dev.busy[k]?=some r):zhu A.bm p.dev k r (r.tags.getD 0 0):=by
 have hm:r∈p.queue++p.dev.busy:=List.mem_append_right _ (List.mem_of_getElem? hk);have g:=hI.good r hm;refine⟨hk,rfl,?_,g.t1,fun q hq=>?_⟩
 ·have h1:0<r.tags.length:=g.t1;have h2:r.tags.getD 0 0∈r.tags:=by
   rw[List.getD_eq_getElem?_getD,List.getElem?_eq_getElem h1,Option.getD_some];exact List.getElem_mem h1
  have h3:=hI.tin r hm _ h2;unfold zai
  omega
 ·have:=h.mem.roff q (List.mem_append_right _ hq);exact⟨fun he ad ha e=>this.1 he ad ha (Or.inr (Or.inl (Or.inl e))),fun he ad ha e=>this.2 he ad ha (Or.inr (Or.inl (Or.inl e)))⟩
end
theorem zH.setDead{s:Nat}{p:Sk}{A:Sa}{w:World}(h:zH s p A w)(b:Bool):zH s { p with dead:=b } A w where
 drv:=h.drv
 map:=h.map
 im:=h.im
 nb:=h.nb
 hand:=h.hand
 hnil:=h.hnil
 hcap:=h.hcap
 queue:=h.queue
 qnil:=h.qnil
 qcap:=h.qcap
 left:=h.left
 sv:=h.sv
 vl:=h.vl
 ll:=h.ll
 hoffX:=h.hoffX
 qoffX:=h.qoffX
 roffX:=h.roffX
 xlt:=h.xlt
theorem zj.setDead{s:Nat}{p:Sk}{A:Sa}{w:World}(h:zj s p A w)(b:Bool):zp s p A { p with dead:=b } A w (w.setCell ⟨s,29,none⟩ (.bool b)):=h.put (h.mem.setDead b) 29 _ rfl (fun _ hk=>hk) ⟨rfl,rfl,rfl,rfl⟩
theorem zoJ(s:Nat)(p:Sk)(A:Sa)(w:World)(h:zj s p A w)(i:Int)(fl:Bool)(hi:i<0∨(p.dev.busy.length:Int)≤i) :
 Calls Tryz.prog 42 #[.pointer (some ⟨s,0,none⟩),.int .i64 i,.bool fl] w fun e w'=>e=.returned (zI 5)∧SOk s p A w w' p.nf:=by
 have c1:=h.cell 1 _ rfl;have hl:=h.lt;have HST:=za h;have HI:=za hi;clear h hi;go_enter Tryz.func42,Tryz.ntmps42;go_wp2_with fail;refine(zpO A.v A.b A.bm p.dev A.an A.n A.D i fl w HST.out.mem.drv HI.out).mono ?_;rintro e w1 ⟨rfl,hb1⟩;go_wp2;go_ret;exact⟨rfl,p,A,zp.same' HST.out (by(with_reducible repeat first|exact Below.refl _ _|refine zc ?_ _|refine zd ?_|refine bset' ?_ (by omega) _|refine zb ?_ (by assumption))),rfl⟩
section
variable{s:Nat}{p:Sk}{A:Sa}{w w':World}{d':Dl}{an':An}{n':Nat}{D':DataW Unit}
theorem zoY(h:zaT A.v A.b A.bm p.dev A.an A.n A.D d' an' n' D' w w'):∀k,({ A with an:=an',n:=n',D:=D' }:Sa).foot s k→A.foot s k∨w.heap.size≤k:=by
 rintro k (e|e|e)
 ·exact Or.inl (Or.inl e)
 ·exact(h.foot k e).imp (fun e=>Or.inr (Or.inl e)) id
 ·exact Or.inl (Or.inr (Or.inr e))
end
theorem zlT(s:Nat)(p:Sk)(A:Sa)(w:World)(h:zj s p A w)(hI:Inv p)(hT:p.tags≤4000000000000000000)(hA:p.ag≤1000000000)(k:Nat)(r:Rq)(hk:p.dev.busy[k]?=some r)(hf:p.f (r.tags.getD 0 0)<2) :
 Calls Tryz.prog 42 #[.pointer (some ⟨s,0,none⟩),.int .i64 k,.bool true] w fun e w'=>e=.returned (zI 0)∧SOk s p A w w' ((p.took k).again r).nf:=by
 have c1:=h.cell 1 _ rfl;have hl:=h.lt;have HST:=za h;have HV:=za (h.vreq hI hT hk);have HF:Hid (0≤p.f (r.tags.getD 0 0)∧p.f (r.tags.getD 0 0)<2):=⟨(hI.fr _).1,hf⟩
 have HN:Hid (A.n≤1000000000):=Nat.le_trans h.mem.nb hA;have HK:=za hk;clear h hI hT hA hk hf;go_enter Tryz.func42,Tryz.ntmps42;go_wp2_with fail;refine(zoZ A.v A.b A.bm p.dev A.an A.n A.D k r _ _ w HST.out.mem.drv HV.out (HST.out.mem.map _) HF.out HN.out).mono ?_;rintro e w1 ⟨a',rfl,hv⟩;have HS1:=za (zj.step (f':=fun t=>if t=r.tags.getD 0 0 then p.f t+1 else p.f t) (p.ag+1) (by have:=HST.out.mem.nb;omega) HST.out hv (by
  have hm:=HST.out.mem.map.put HST.out.mem.im (r.tags.getD 0 0) (p.f (r.tags.getD 0 0)+1);intro t;have:=hm t;rw[this]
  by_cases e:t=r.tags.getD 0 0
  ·simp only[e,if_true]
  ·simp only[e,if_false]) hv.at'.map.isMap (fun q hq=>by
   have hm:q∈p.dev.busy:=by
    rcases List.mem_append.1 hq with h'|h'
    ·exact List.mem_of_mem_eraseIdx h'
    ·rw[List.mem_singleton.1 h'];exact List.mem_of_getElem? HK.out
   exact Rq.Off.step (HST.out.mem.drv.dev.reqs q hm).1 (HST.out.mem.roffX q (List.mem_append_right _ hm)) (zeC hv)))
 clear hv;go_wp2;go_ret;exact⟨rfl,_,_,HS1.out.later (by(with_reducible repeat first|exact Below.refl _ _|refine zc ?_ _|refine zd ?_|refine bset' ?_ (by omega) _|refine zb ?_ (by assumption))),rfl⟩
theorem zni(s:Nat)(p:Sk)(A:Sa)(w:World)(h:zj s p A w)(hI:Inv p)(hT:p.tags≤3999999999999999990)(hU:p.uses≤3999999999999999990)(k:Nat)(r:Rq)(hk:p.dev.busy[k]?=some r)(hf:¬p.f (r.tags.getD 0 0)<2)(hw:r.wr=true)(q:Sk)(hq:({ (p.took k).lost r with dead:=true }:Sk).nf.serve=q) :
 Calls Tryz.prog 42 #[.pointer (some ⟨s,0,none⟩),.int .i64 k,.bool true] w fun e w'=>e=.returned (zI 0)∧SOk s p A w w' q:=by
 have c1:=h.cell 1 _ rfl;have hl:=h.lt;have HST:=za h;have HV:=za (h.vreq hI (by omega) hk);have HF:Hid (2≤p.f (r.tags.getD 0 0)∧p.f (r.tags.getD 0 0)≤100):=⟨by omega,by have:=(hI.fr (r.tags.getD 0 0)).2;omega⟩
 have HIL:=za ((hI.took k).lost r true);have HQ:=za hq;have HB:=za (And.intro hT hU);have HW:=za hw;clear h hI hT hU hk hf hq;go_enter Tryz.func42,Tryz.ntmps42;go_wp2_with fail;refine(zkS A.v A.b A.bm p.dev A.an A.n A.D k r _ _ w HST.out.mem.drv HV.out (HST.out.mem.map _) HF.out).mono ?_;rintro e w1 ⟨a',rfl,hv⟩;have HS1:=za (zj.step (f':=fun t=>if t=r.tags.getD 0 0 then 0 else p.f t) p.ag HST.out.mem.nb HST.out hv (HST.out.mem.map.del (r.tags.getD 0 0)) hv.at'.map.isMap (fun q hq=>by
  have hm:q∈p.dev.busy:=List.mem_of_mem_eraseIdx hq;exact Rq.Off.step (HST.out.mem.drv.dev.reqs q hm).1 (HST.out.mem.roffX q (List.mem_append_right _ hm)) (zeC hv)))
 clear hv;have y29:=HS1.out.at'.cell 29 _ rfl;have x29:=HS1.out.at'.fz 29;have l1:=HS1.out.at'.lt;rw[show zaC r none 0 0 8=.agg #[.bool true,.int .i64 r.f,.int .i64 r.m,.slice r.da r.data.length r.dc,.slice r.ta r.tags.length r.tc,.int .i64 r.born,.slice none 0 0,.int .i64 8] by unfold zaC;rw[HW.out]];go_wp2_with fail;have HS2:=za (HS1.out.trans (HS1.out.at'.setDead true));refine(zcq s ({ (p.took k).lost r with dead:=true }:Sk) _ _ (HS2.out.at'.later (by(with_reducible repeat first|exact Below.refl _ _|refine zc ?_ _|refine zd ?_|refine bset' ?_ (by omega) _|refine zb ?_ (by assumption)))) HIL.out HB.out.1 HB.out.2 q HQ.out).mono ?_;rintro e w4 ⟨rfl,hok⟩;have HO:=za (SOk.trans (HS2.out.later (by(with_reducible repeat first|exact Below.refl _ _|refine zc ?_ _|refine zd ?_|refine bset' ?_ (by omega) _|refine zb ?_ (by assumption)))) hok);clear hok;go_wp2;go_ret;exact⟨rfl,HO.out⟩
theorem znj(s:Nat)(p:Sk)(A:Sa)(w:World)(h:zj s p A w)(hI:Inv p)(hT:p.tags≤3999999999999999990)(hU:p.uses≤3999999999999999990)(k:Nat)(r:Rq)(hk:p.dev.busy[k]?=some r)(hf:¬p.f (r.tags.getD 0 0)<2)(hw:r.wr=false)(q:Sk)(hq:(((p.took k).lost r).nf.readers (zau r.f r.m) ByteArray.empty 8).serve=q) :
 Calls Tryz.prog 42 #[.pointer (some ⟨s,0,none⟩),.int .i64 k,.bool true] w fun e w'=>e=.returned (zI 0)∧SOk s p A w w' q:=by
 have c1:=h.cell 1 _ rfl;have hl:=h.lt;have HST:=za h;have HV:=za (h.vreq hI (by omega) hk);have HF:Hid (2≤p.f (r.tags.getD 0 0)∧p.f (r.tags.getD 0 0)≤100):=⟨by omega,by have:=(hI.fr (r.tags.getD 0 0)).2;omega⟩
 have HIL:=za ((hI.took k).lost' r);have HQ:=za hq;have HB:=za (And.intro hT hU);have HW:=za hw;clear h hI hT hU hk hf hq;go_enter Tryz.func42,Tryz.ntmps42;go_wp2_with fail;refine(zkS A.v A.b A.bm p.dev A.an A.n A.D k r _ _ w HST.out.mem.drv HV.out (HST.out.mem.map _) HF.out).mono ?_;rintro e w1 ⟨a',rfl,hv⟩;have HS1:=za (zj.step (f':=fun t=>if t=r.tags.getD 0 0 then 0 else p.f t) p.ag HST.out.mem.nb HST.out hv (HST.out.mem.map.del (r.tags.getD 0 0)) hv.at'.map.isMap (fun q hq=>by
  have hm:q∈p.dev.busy:=List.mem_of_mem_eraseIdx hq;exact Rq.Off.step (HST.out.mem.drv.dev.reqs q hm).1 (HST.out.mem.roffX q (List.mem_append_right _ hm)) (zeC hv)))
 clear hv;have l1:=HS1.out.at'.lt;rw[show zaC r none 0 0 8=.agg #[.bool false,.int .i64 r.f,.int .i64 r.m,.slice r.da r.data.length r.dc,.slice r.ta r.tags.length r.tc,.int .i64 r.born,.slice none 0 0,.int .i64 8] by unfold zaC;rw[HW.out]];go_wp2_with fail;refine(zeq s ((p.took k).lost r) _ _ (HS1.out.at'.later (by(with_reducible repeat first|exact Below.refl _ _|refine zc ?_ _|refine zd ?_|refine bset' ?_ (by omega) _|refine zb ?_ (by assumption)))) HIL.out r.f r.m ByteArray.empty 8 _ rfl).mono ?_;rintro e w2 ⟨rfl,p2,A2,hs2,hn2⟩;have HS2:Hid (zp s p A p2 A2 w w2):=(HS1.out.later (by(with_reducible repeat first|exact Below.refl _ _|refine zc ?_ _|refine zd ?_|refine bset' ?_ (by omega) _|refine zb ?_ (by assumption)))).trans hs2;have HI2:Hid (Inv p2):=by
  have:=HIL.out.nf.readers (zau r.f r.m) ByteArray.empty 8;rw[←hn2] at this;exact this.of_nf
 have HB2:Hid (p2.tags≤3999999999999999990∧p2.uses≤3999999999999999990):=by
  have e1:p2.nf.tags=p.tags:=by rw[hn2];rfl
  have e2:p2.nf.uses=p.uses:=by rw[hn2];rfl
  have:=HB.out;exact⟨e1▸this.1,e2▸this.2⟩
 have HQ2:Hid (p2.nf.serve=q):=by
  show p2.nf.serve=q;rw[hn2];exact HQ.out
 clear hs2 hn2;go_wp2_with fail;refine(zcq s p2 A2 _ HS2.out.at' HI2.out HB2.out.1 HB2.out.2 q HQ2.out).mono ?_;rintro e w4 ⟨rfl,hok⟩;have HO:=za (SOk.trans HS2.out hok);clear hok;go_wp2;go_ret;exact⟨rfl,HO.out⟩
theorem zpE(s:Nat)(p:Sk)(A:Sa)(w:World)(h:zj s p A w)(hI:Inv p)(hS:zQ p.dev)(hT:p.tags≤3999999999999999980)(hU:p.uses≤3999999999999999980)(k:Nat)(r:Rq)(hk:p.dev.busy[k]?=some r)(q:Sk)(hq:(((p.took k).did r).nf.wentWell r (zaG p.dev r)).serve=q) :
 Calls Tryz.prog 42 #[.pointer (some ⟨s,0,none⟩),.int .i64 k,.bool false] w fun e w'=>e=.returned (zI 0)∧SOk s p A w w' q:=by
 have c1:=h.cell 1 _ rfl;have hl:=h.lt;have HST:=za h;have hmem:r∈p.dev.busy:=List.mem_of_getElem? hk;have HG:=za (hI.good r (List.mem_append_right _ hmem));have HV:=za (h.vreq hI (by omega) hk);have HI1:=za ((hI.took k).did r);have HQ:=za hq;have HB:=za (And.intro hT hU);have HSH:=za (zbw hS r);have HAT:=za (h.mem.drv.dev.reqs r hmem).1;have HOF:=za (h.mem.roff r (List.mem_append_right _ hmem));clear h hI hT hU hk hq hmem hS;go_enter Tryz.func42,Tryz.ntmps42;go_wp2_with fail;refine(vg_ok A.v A.b A.bm p.dev A.an A.n A.D k r _ w HST.out.mem.drv HV.out HG.out).mono ?_;rintro e w1 ⟨a',xa,xc,xs,rfl,hxs,hx1,hx2,hv⟩;have HXS:=za hxs.out;have HX1:=za hx1;have HX2:=za hx2;have HFT:=za (zoY (s:=s) hv);have HR1:Hid (r.At w1):=HAT.out.frame ⟨fun he ad ha e=>HOF.out.1 he ad ha (Or.inr (Or.inl e)),fun he ad ha e=>HOF.out.2 he ad ha (Or.inr (Or.inl e))⟩ hv.only;have HRO:Hid (r.Off (({ A with an:=a',n:=A.n,D:=A.D.del (.int .i64 (r.tags.getD 0 0)) }:Sa).foot s)):=Rq.Off.step HAT.out HOF.out HFT.out;have HXO:Hid (∀ad,xa=some ad→¬({ A with an:=a',n:=A.n,D:=A.D.del (.int .i64 (r.tags.getD 0 0)) }:Sa).foot s ad.block):=by
  rintro ad had (e|e|⟨i,hi,q',hq',e⟩)
  ·have:=(HX2.out ad had).1;have:=HST.out.lt;omega
  ·exact(HX2.out ad had).2 e
  ·have:=(HX2.out ad had).1;have:=HST.out.mem.lrow hi hq';omega
 have HS1:=za (zj.step (f':=fun t=>if t=r.tags.getD 0 0 then 0 else p.f t) p.ag HST.out.mem.nb HST.out hv (HST.out.mem.map.del (r.tags.getD 0 0)) hv.at'.map.isMap (fun q hq=>by
  rw[Dl.did_busy] at hq;have hm:q∈p.dev.busy:=List.mem_of_mem_eraseIdx hq;exact Rq.Off.step (HST.out.mem.drv.dev.reqs q hm).1 (HST.out.mem.roffX q (List.mem_append_right _ hm)) (zeC hv)))
 have l1:=HS1.out.at'.lt;have HWW:Hid (∀W,Below w1.heap.size w1 W→Calls Tryz.prog 88 #[.pointer (some ⟨s,0,none⟩),zaC r xa xs.length xc 0] W fun e w'=>e=.returned (.tuple #[])∧SOk s ((p.took k).did r) { A with an:=a',n:=A.n,D:=A.D.del (.int .i64 (r.tags.getD 0 0)) } W w' (((p.took k).did r).nf.wentWell r (zaG p.dev r))):=by
  intro W hW
  cases hw:r.wr
  ·refine zkw s ((p.took k).did r) _ W (HS1.out.at'.later hW) HI1.out r (by have:=HB.out;show p.uses≤_;omega) HG.out hw xa xc xs (HX1.out.later hW) (fun _ ad ha=>HXO.out ad ha) ?_ ?_ _ (by rw[HXS.out])
   ·rw[HXS.out];unfold zaG;rw[hw];exact zfg _ _ _
   ·rw[HXS.out];exact HSH.out
  ·exact zkx s ((p.took k).did r) _ W (HS1.out.at'.later hW) HI1.out r HG.out hw (HR1.out.later hW).data HRO.out.1 xa xs.length xc (zaG p.dev r) HSH.out _ rfl
 clear hxs hx1 hx2 hv;generalize hn:xs.length=n at *;go_wp2_with fail;refine(HWW.out _ (by(with_reducible repeat first|exact Below.refl _ _|refine zc ?_ _|refine zd ?_|refine bset' ?_ (by omega) _|refine zb ?_ (by assumption)))).mono ?_;rintro e w2 ⟨rfl,p2,A2,hs2,hn2⟩;have HS2:Hid (zp s p A p2 A2 w w2):=(HS1.out.later (by(with_reducible repeat first|exact Below.refl _ _|refine zc ?_ _|refine zd ?_|refine bset' ?_ (by omega) _|refine zb ?_ (by assumption)))).trans hs2;have hmil:=zde ((p.took k).did r).nf r (zaG p.dev r) r.m.toNat;have HI2:Hid (Inv p2):=by
  have:=HI1.out.nf.wentTo r HG.out (zaG p.dev r) HSH.out r.m.toNat (Nat.le_refl _);rw[show((p.took k).did r).nf.wentTo r (zaG p.dev r) r.m.toNat=p2.nf from hn2.symm] at this;exact this.of_nf
 have HB2:Hid (p2.tags≤3999999999999999990∧p2.uses≤3999999999999999990):=by
  have e0:((p.took k).did r).nf.wentTo r (zaG p.dev r) r.m.toNat=p2.nf:=hn2.symm;rw[e0] at hmil;have e1:p2.tags≤p.tags+r.m.toNat:=hmil.tags;have e2:p2.uses≤p.uses+r.m.toNat:=hmil.uses;have:=HB.out;have:=HG.out.bds;exact⟨by omega,by omega⟩
 have HQ2:Hid (p2.nf.serve=q):=by
  show p2.nf.serve=q;rw[hn2];exact HQ.out
 clear hs2 hn2 hmil;go_wp2_with fail;refine(zcq s p2 A2 _ HS2.out.at' HI2.out HB2.out.1 HB2.out.2 q HQ2.out).mono ?_;rintro e w4 ⟨rfl,hok⟩;have HO:=za (SOk.trans HS2.out hok);clear hok;go_wp2;go_ret;exact⟨rfl,HO.out⟩
theorem zgu(s:Nat)(p:Sk)(A:Sa)(w:World)(h:zj s p A w)(hI:Inv p)(hS:zQ p.dev)(hT:p.tags≤3999999999999999980)(hU:p.uses≤3999999999999999980)(hA:p.ag≤1000000000)(i:Int)(fl:Bool)(n:Int)(q:Sk)(hq:p.nf.end' i fl=(n,q)) :
 Calls Tryz.prog 42 #[.pointer (some ⟨s,0,none⟩),.int .i64 i,.bool fl] w fun e w'=>e=.returned (zI n)∧SOk s p A w w' q:=by
 by_cases hi:i<0∨(p.dev.busy.length:Int)≤i
 ·rw[zk8 hi] at hq
  cases hq
  exact zoJ s p A w h i fl hi
 ·obtain⟨k,rfl⟩:∃k:Nat,i=k:=⟨i.toNat,by omega⟩
  have hk:k<p.dev.busy.length:=by omega
  have hk':=List.getElem?_eq_getElem hk
  cases fl
  ·rw[zmu hk'] at hq;simp only[Prod.mk.injEq] at hq;obtain⟨rfl,hq⟩:=hq;exact zpE s p A w h hI hS hT hU k _ hk' q hq
  ·by_cases hf:p.f (p.dev.busy[k].tags.getD 0 0)<2
   ·rw[zi5 hk' hf] at hq
    cases hq
    exact zlT s p A w h hI (by omega) hA k _ hk' hf
   ·cases hw:p.dev.busy[k].wr
    ·rw[zjS hk' hf hw] at hq;simp only[Prod.mk.injEq] at hq;obtain⟨rfl,hq⟩:=hq;exact znj s p A w h hI (by omega) (by omega) k _ hk' hf hw q hq
    ·rw[zjR hk' hf hw] at hq;simp only[Prod.mk.injEq] at hq;obtain⟨rfl,hq⟩:=hq;exact zni s p A w h hI (by omega) (by omega) k _ hk' hf hw q hq
def Own(W:World)(s b:Nat)(q:Sk)(wr:World):Prop:=∃p A,zj s p A wr∧p.nf=q∧A.b=b∧(∀k,A.foot s k→W.heap.size≤k)∧Below W.heap.size W wr
section
variable{W wr w':World}{s b:Nat}{q q':Sk}
theorem Own.bel(h:Own W s b q wr):Below W.heap.size W wr:=by obtain⟨_,_,_,_,_,_,h⟩:=h;exact h
theorem Own.later(h:Own W s b q wr)(hb:Below wr.heap.size wr w'):Own W s b q w':=by
 obtain⟨p,A,h1,h2,h3,h4,h5⟩:=h;exact⟨p,A,h1.later hb,h2,h3,h4,zb h5 hb⟩
theorem Own.of{p:Sk}{A:Sa}(h3:A.b=b)(h4:∀k,A.foot s k→W.heap.size≤k)(h5:Below W.heap.size W wr)(h:SOk s p A wr w' q'):Own W s b q' w':=by
 obtain⟨p',A',hs,hn⟩:=h;exact⟨p',A',hs.at',hn,hs.same.1.trans h3,fun k hk=>(hs.foot k hk).elim (h4 k) (fun h'=>Nat.le_trans h5.size h'),h5.trans (hs.only.below h5.size h4)⟩
theorem Own.lt(h:Own W s b q wr):W.heap.size≤s∧s<wr.heap.size:=by
 obtain⟨p,A,h1,h2,h3,h4,h5⟩:=h;exact⟨h4 s (Or.inl rfl),h1.lt⟩
end
section
variable(W w:World)(s b:Nat)(q:Sk)(n:Nat)
end
def sa0(b v bm:Nat):Sa:=⟨b,v,bm,an0,0,.map [],fun _=>none,fun _=>0,none,0,none,0,fun _=>False⟩
def saN(b v bm:Nat)(an:An)(X:Nat→Prop):Sa:=⟨b,v,bm,an,0,.map [],fun _=>none,fun _=>0,none,0,none,0,X⟩
def skN(d:Dl):Sk:={ sk0 with dev:=d }
theorem skN_nf(d:Dl)(h:d.busy=[]):(skN d).nf=skN d:=by
 unfold skN Sk.nf Dl.nf sk0;simp only[h,List.map_nil]
 congr 1
 cases d
 simp only at h;subst h
 rfl
theorem zig(b:Nat)(d:Dl)(an:An)(w:World)(h:zo b d an w)(hb0:d.busy=[])(X:Nat→Prop)(hX:∀j,X j→j<w.heap.size) :
 Calls Tryz.prog 31 #[.pointer (some ⟨b,0,none⟩)] w fun e w'=>∃s v bm,e=.returned (.pointer (some ⟨s,0,none⟩))∧zj s (skN d) (saN b v bm an X) w'∧Below w.heap.size w w'∧w.heap.size≤s∧w.heap.size≤v∧w.heap.size≤bm:=by
 have HD:=za h;have HB0:=za hb0;have HXX:=za hX;clear h hb0 hX;have hzv:∀w',Sem.run Tryz.prog (zeroValue 127) w'=.ok (.agg (([Value.pointer none,Value.pointer none]:List Value)++(zaA cl0 none 0++(zaA cl0 none 0++(zaA cl0 none 0++sk0.tail (sa0 0 0 0))))).toArray) w':=fun _=>rfl
 go_enter Tryz.func31,Tryz.ntmps31;go_wp2_with fail;refine(zo0 b d an w HD.out).mono ?_;rintro e w1 ⟨rfl,hv,hb1⟩;have HV:=za hv;have HB1:=za hb1;clear hv hb1;go_wp2;go_ret;have hb2:=zs w1 (.cells ((Value.pointer (some ⟨b,0,none⟩)::Value.pointer (some ⟨w.heap.size+1,0,none⟩)::(zaA cl0 none 0++(zaA cl0 none 0++(zaA cl0 none 0++sk0.tail (sa0 0 0 0))))).toArray) 127);have hvl:=zi HV.out.blk;have hsz:=HB1.out.size;refine⟨w1.heap.size,w.heap.size+1,w.heap.size,rfl,⟨heap_alloc_new _ _,?_⟩,zb HB1.out hb2,by omega,by omega,by omega⟩;exact {
  drv:=HV.out.later hb2
  map:=zmV
  im:=HV.out.map.isMap
  nb:=Nat.le_refl 0
  hand:=⟨Or.inl rfl,by show 0≤_;omega⟩
  hnil:=fun _=>rfl
  hcap:=Nat.le_refl 0
  queue:=⟨Or.inl rfl,(fun r hr=>by cases hr),by show 0≤_;omega⟩
  qnil:=fun _=>rfl
  qcap:=Nat.le_refl 0
  left:=fun i hi=>by
   have e:((skN d).client i).left=[]:=by
    match i,hi with
    |0,_=>rfl
    |1,_=>rfl
    |2,_=>rfl
   rw[e];exact World.ownsRow_nil _ _ _ _
  sv:=⟨fun e=>by have:=HV.out.footLt _ e;omega,fun(e:w1.heap.size=w.heap.size+1)=>by omega⟩
  vl:=fun i _ q' hq'=>by cases hq'
  ll:=fun i j _ _ _ q' _ hq'=>by cases hq'
  hoffX:=fun hne=>absurd rfl hne
  qoffX:=fun hne=>absurd rfl hne
  roffX:=fun r hr=>by
   have hr':r∈([]:List Rq)++d.busy:=hr;rw[HB0.out] at hr'
   cases hr'
  xlt:=fun j e=>Nat.lt_of_lt_of_le (HXX.out j e) (by simp;omega) }
theorem znc{q:Sk}(h:∀i:Nat,i<3→q.waits (i:Int)=false):q.quiet=(q.queue.isEmpty&&q.dev.busy.isEmpty):=by
 have h0:q.waits 0=false:=h 0 (by omega);have h1:q.waits 1=false:=h 1 (by omega);have h2:q.waits 2=false:=h 2 (by omega);unfold Sk.quiet;rw[h0,h1,h2];rfl
theorem zne{q:Sk}{i:Nat}(hi:i<3)(h:q.waits (i:Int)=true):q.quiet=false:=by
 cases e:q.quiet
 ·rfl
 ·have:=((znd q).1 e).1 i hi;exact absurd this ((zii q i hi).1 h)
theorem zge{α:Type}(l:List α):l.isEmpty=((l.length:Int)==0):=by
 cases l with
 |nil=>rfl
 |cons x l=>symm;rw[beq_eq_false_iff_ne.2];rfl;rw[List.length_cons];omega
def zoO:Option Value→Nat
 |some (.slice _ n _)=>n
 |_=>0
def ziW(w:World)(b:Nat):Nat:=zoO (w.cell? ⟨b,66,none⟩)
theorem zin{q:Sk}(hI:Inv q)(h:q.dispatch.1=true):q.dispatch.2.dev.busy.length=q.dev.busy.length+1:=by
 rcases zbQ hI with⟨_,e⟩|⟨i,hi,T,_,_,_,_,e⟩
 ·rw[e] at h;cases h
 ·rw[e];simp

structure Ref where
 p:Sk
 A:Sa
 w:World
def zam(R:Ref)(s b:Nat)(q:Sk)(wr:World):Prop:=∃p A,zp s R.p R.A p A R.w wr∧p.nf=q∧R.A.b=b
section
variable{W:Ref}{wr w':World}{s b:Nat}{q q':Sk}
theorem zam.later(h:zam W s b q wr)(hb:Below wr.heap.size wr w'):zam W s b q w':=by
 obtain⟨p,A,h1,h2,h3⟩:=h;exact⟨p,A,h1.later hb,h2,h3⟩
theorem zam.of{p:Sk}{A:Sa}(h3:W.A.b=b)(hs:zp s W.p W.A p A W.w wr)(h:SOk s p A wr w' q'):zam W s b q' w':=by
 obtain⟨p',A',h',hn⟩:=h;exact⟨p',A',hs.trans h',hn,h3⟩
theorem zha(h:zam W s b q wr):ziW wr b=q.dev.busy.length:=by
 obtain⟨p,A,hs,rfl,rfl⟩:=h;unfold ziW;rw[←hs.same.1,hs.at'.mem.drv.dev.c66];exact(List.length_map _).symm
end
section
variable(W:Ref)(w:World)(s b:Nat)(q:Sk)(n:Nat)
theorem zid(h:zam W s b q w)(c:Int)(t:Bool)(ht:q.waits c=t):Calls Tryz.prog 63 #[.pointer (some ⟨s,0,none⟩),.int .i64 c] w fun e w'=>e=.returned (.bool t)∧w'=w:=by
 obtain⟨p,A,hs,rfl,_⟩:=h;have h1:=hs.at';exact zbZ s p A c w h1 t ht
theorem zoF(h:zam W s b q w):Calls Tryz.prog 26 #[.pointer (some ⟨s,0,none⟩)] w fun e w'=>e=.returned (.bool q.dead)∧w'=w:=by
 obtain⟨p,A,hs,rfl,_⟩:=h;have h1:=hs.at';exact znV s p A w h1
theorem zpB(h:zam W s b q w)(i:Nat)(hi:i<3):Calls Tryz.prog 29 #[.pointer (some ⟨s,0,none⟩),.int .i64 i] w fun e w'=>e=.returned (.tuple #[.string (q.client i).got,zI (q.client i).err])∧Below w.heap.size w w':=by
 obtain⟨p,A,hs,rfl,_⟩:=h;have h1:=hs.at';exact zmC s p A i hi w h1
theorem zng(h:zam W s b q w)(k:Nat)(hk:zE q.hand=k):Calls Tryz.prog 25 #[.pointer (some ⟨s,0,none⟩)] w fun e w'=>e=.returned (.int .i64 k)∧Below w.heap.size w w':=by
 obtain⟨p,A,hs,rfl,_⟩:=h;have h1:=hs.at';exact zbC s p A w h1 k hk
theorem zib(h:zam W s b q w)(h6:q.queue.length≤1000):Calls Tryz.prog 45 #[.pointer (some ⟨s,0,none⟩)] w fun e w'=>∃a' c' l,e=.returned (.slice a' q.queue.length c')∧zm w' a' l∧l.map Rq.nf=q.queue∧(a'=none→c'=0)∧Below w.heap.size w w':=by
 obtain⟨p,A,hs,rfl,_⟩:=h;have h1:=hs.at';have e:p.nf.queue.length=p.queue.length:=List.length_map _;rw[e] at h6 ⊢;refine(zhh s p A w h1 h6).mono ?_;rintro x w' ⟨a',c',rfl,hR,hn,hb⟩;exact⟨a',c',p.queue,rfl,hR,rfl,hn,hb⟩
theorem zoE(h:zam W s b q w):Calls Tryz.prog 46 #[.pointer (some ⟨s,0,none⟩)] w fun e w'=>∃a' c' l,e=.returned (.slice a' q.dev.busy.length c')∧zm w' a' l∧l.map Rq.nf=q.dev.busy∧(a'=none→c'=0)∧Below w.heap.size w w':=by
 obtain⟨p,A,hs,rfl,_⟩:=h;have h1:=hs.at';have e:p.nf.dev.busy.length=p.dev.busy.length:=List.length_map _;rw[e];refine(zie s p A w h1).mono ?_;rintro x w' ⟨a',c',rfl,hR,hn,hb⟩;exact⟨a',c',p.dev.busy,rfl,hR,rfl,hn,hb⟩
theorem zpz(h:zam W s b q w)(hf:Fit n q)(hn:n≤1000000)(c kind pl:Int)(data:ByteArray)(x:Int)(q':Sk)(hq:q.ask c kind pl data=(x,q')):Calls Tryz.prog 27 #[.pointer (some ⟨s,0,none⟩),.int .i64 c,.int .i64 kind,.int .i64 pl,.string data] w fun e w'=>e=.returned (zI x)∧zam W s b q' w':=by
 obtain⟨p,A,hs,rfl,h3⟩:=h;have h1:=hs.at';have hf':=hf.of_nf;refine(zfI s p A w h1 hf'.inv (by have:=hf'.tags;omega) (by have:=hf'.uses;omega) c kind pl data x q' hq).mono ?_;rintro e w' ⟨he,hok⟩;exact⟨he,zam.of h3 hs hok⟩
theorem zoG(h:zam W s b q w)(hf:Fit n q)(hn:n≤1000000)(q':Sk)(hq:q.tick=q'):Calls Tryz.prog 37 #[.pointer (some ⟨s,0,none⟩)] w fun e w'=>e=.returned (.tuple #[])∧zam W s b q' w':=by
 obtain⟨p,A,hs,rfl,h3⟩:=h;have h1:=hs.at';have hf':=hf.of_nf;refine(zjD s p A w h1 hf'.inv (by have:=hf'.tags;omega) (by have:=hf'.uses;omega) q' hq).mono ?_;rintro e w' ⟨he,hok⟩;exact⟨he,zam.of h3 hs hok⟩
theorem znf(h:zam W s b q w)(hf:Fit n q)(hn:n≤1000000)(t:Bool)(q':Sk)(hq:q.clean=(t,q')):Calls Tryz.prog 40 #[.pointer (some ⟨s,0,none⟩)] w fun e w'=>e=.returned (.bool t)∧zam W s b q' w':=by
 obtain⟨p,A,hs,rfl,h3⟩:=h;have h1:=hs.at';have hf':=hf.of_nf;refine(zhc s p A w h1 hf'.inv (by have:=hf'.tags;omega) t q' hq).mono ?_;rintro e w' ⟨he,hok⟩;exact⟨he,zam.of h3 hs hok⟩
theorem zfz(h:zam W s b q w)(hf:Fit n q)(t:Bool)(q':Sk)(hq:q.dispatch=(t,q')):Calls Tryz.prog 41 #[.pointer (some ⟨s,0,none⟩)] w fun e w'=>e=.returned (.bool t)∧zam W s b q' w':=by
 obtain⟨p,A,hs,rfl,h3⟩:=h;have h1:=hs.at';have hf':=hf.of_nf;refine(zfj s p A w h1 hf'.inv t q' hq).mono ?_;rintro e w' ⟨he,hok⟩;exact⟨he,zam.of h3 hs hok⟩
theorem zpA(h:zam W s b q w)(hf:Fit n q)(hn:n≤1000000)(i:Int)(fl:Bool)(x:Int)(q':Sk)(hq:q.end' i fl=(x,q')):Calls Tryz.prog 42 #[.pointer (some ⟨s,0,none⟩),.int .i64 i,.bool fl] w fun e w'=>e=.returned (zI x)∧zam W s b q' w':=by
 obtain⟨p,A,hs,rfl,h3⟩:=h;have h1:=hs.at';have hf':=hf.of_nf;refine(zgu s p A w h1 hf'.inv hf'.short (by have:=hf'.tags;omega) (by have:=hf'.uses;omega) (by have:=hf'.ag;omega) i fl x q' hq).mono ?_;rintro e w' ⟨he,hok⟩;exact⟨he,zam.of h3 hs hok⟩
end
theorem zdo(W:Ref)(w:World)(s b:Nat)(q:Sk)(h:zam W s b q w)(h6:q.queue.length≤1000)(t:Bool)(ht:q.quiet=t) :
 Calls Tryz.prog 24 #[.pointer (some ⟨s,0,none⟩)] w fun e w'=>e=.returned (.bool t)∧Below w.heap.size w w':=by
 have HO:=za h;have H6:=za h6;have HT:=za ht;clear h h6 ht;go_enter Tryz.func24,Tryz.ntmps24;go_wp2
 go_loopw[4] (fun i wr=>∃k:Nat,k≤3∧i=.int .i64 k∧(∀j:Nat,j<k→q.waits (j:Int)=false)∧Below w.heap.size w wr) (fun i _=>3-(intOf i).toNat)
 case atStart=>exact⟨0,by omega,rfl,fun j hj=>absurd hj (Nat.not_lt_zero _),Below.refl _ _⟩
 case round =>
  obtain⟨k,hk,rfl,hno,hbr⟩:=hrel;have HBR:=za hbr;have HOR:=za (HO.out.later hbr);clear hbr;have HN:=za hno;clear hno
  by_cases hlt:k<3
  ·have hlt':(k:Int)<3:=by omega
   cases hwt:q.waits (k:Int)
   ·have HW:=za hwt;clear hwt;go_wp2_with fail;refine(zid W wr s b q HOR.out k false HW.out).mono ?_;rintro e w1 ⟨rfl,rfl⟩;go_wp2;go_roundw
    case rel=>exact⟨k+1,by omega,by go_num,fun j hj=>by by_cases e:j=k;(subst e;exact HW.out);exact HN.out j (by omega),HBR.out⟩
    case measure=>simp[intOf];omega
   ·have HW:=za hwt;have HF:Hid (false=t):=(zne hlt hwt).symm.trans HT.out;clear hwt;go_wp2_with fail;refine(zid W wr s b q HOR.out k true HW.out).mono ?_;rintro e w1 ⟨rfl,rfl⟩;go_wp2;go_ret;exact⟨zaH HF.out,HBR.out⟩
  ·obtain rfl:k=3:=by omega
   have HE:Hid ((q.queue.isEmpty&&q.dev.busy.isEmpty)=t):=(znc (fun i hi=>HN.out i hi)).symm.trans HT.out
   cases hq:q.queue.isEmpty
   ·have HF:Hid (false=t):=by have:=HE.out;rw[hq] at this;exact this
    have hq2:((q.queue.length:Int)==0)=false:=(zge _).symm.trans hq;have hq3:¬(q.queue.length:Int)=0:=beq_eq_false_iff_ne.1 hq2;have hq4:¬q.queue.length=0:=by omega
    clear hq;go_wp2_with fail;refine(zib W wr s b q HOR.out H6.out).mono ?_;rintro e w1 ⟨a',c',l,rfl,-,-,-,hb1⟩;generalize q.queue.length=n at *;go_wp2;go_ret;exact⟨zaH HF.out,zb HBR.out hb1⟩
   ·have HF:Hid (q.dev.busy.isEmpty=t):=by have:=HE.out;rw[hq] at this;exact this
    have hq2:q.queue=[]:=List.isEmpty_iff.1 hq;have HQL:Hid (q.queue.length=0):=by show q.queue.length=0;rw[hq2];rfl
    clear hq hq2;go_wp2_with fail;refine(zib W wr s b q HOR.out H6.out).mono ?_;rw[HQL.out];rintro e w1 ⟨a',c',l,rfl,-,-,-,hb1⟩;go_wp2_with fail;refine(zoE W w1 s b q (HOR.out.later hb1)).mono ?_;rintro e w2 ⟨a2,c2,l2,rfl,-,-,-,hb2⟩;have HF2:Hid (((q.dev.busy.length:Int)==0)=t):=(zge _).symm.trans HF.out;generalize q.dev.busy.length=n at *;go_wp2;go_ret;exact⟨zaH HF2.out,zb HBR.out (zb hb1 hb2)⟩
theorem zic(W:Ref)(w:World)(s b:Nat)(q:Sk)(n:Nat)(h:zam W s b q w)(hf:Fit n q)(hn:n≤900000)(q':Sk)(hq:q.round=q') :
 Calls Tryz.prog 38 #[.pointer (some ⟨s,0,none⟩)] w fun e w'=>e=.returned (.tuple #[])∧zam W s b q' w':=by
 have HO:=za h;have HF:=za hf;have HQ:=za hq;clear h hf hq;go_enter Tryz.func38,Tryz.ntmps38;go_wp2_with fail;refine(zoG W w s b q n HO.out HF.out (by omega) _ rfl).mono ?_;rintro e w1 ⟨rfl,h1⟩;have HO1:=za h1;clear h1;go_wp2_with fail;refine(znf W w1 s b q.tick (n+3) HO1.out HF.out.tick (by omega) q.tick.clean.1 q.tick.clean.2 rfl).mono ?_;rintro e w2 ⟨rfl,h2⟩;have HO2:=za h2;have HF2:=za HF.out.tick.clean;have HQ2:Hid (((q.tick.clean.2.dispatches 3).end' 0 false).2=q'):=HQ.out;clear h2 HQ HO1;generalize q.tick.clean.1=t at *;generalize q.tick.clean.2=q2 at *;go_wp2
 go_loopw[] (fun wr=>∃(j:Nat) (r:Sk),zam W s b r wr∧Fit (n+3+1) r∧r.dispatches j=q2.dispatches 3∧3≤r.dev.busy.length+j) (fun wr=>3-ziW wr b)
 case atStart=>exact⟨3,q2,HO2.out,HF2.out,rfl,by omega⟩
 case round =>
  obtain⟨j,r,ho,hfr,hd,hj⟩:=hrel;have HOR:=za ho;have HFR:=za hfr;have HD:=za hd;have hb2:=hfr.inv.b2;obtain⟨i,rfl⟩:∃i,j=i+1:=⟨j-1,by omega⟩
  have HJ:=za hj;have HB2:=za hb2;clear ho hfr hd hj hb2
  cases ht:r.dispatch.1
  ·have HE:Hid (r=q2.dispatches 3):=by
    have:=HD.out;unfold Sk.dispatches at this;rw[ht,if_neg Bool.false_ne_true] at this;exact this
   have HS:Hid (r.dispatch=(false,r)):=by
    rcases zbQ HFR.out.inv with⟨_,e⟩|⟨_,_,_,_,_,_,_,e⟩
    ·exact e
    ·rw[e] at ht;cases ht
   clear ht;go_wp2_with fail;refine(zfz W wr s b r _ HOR.out HFR.out false r HS.out).mono ?_;rintro e w3 ⟨rfl,h3⟩;have HO3:=za h3;clear h3;go_wp2_with fail;refine(zpA W w3 s b r _ HO3.out HFR.out (by omega) 0 false (r.end' 0 false).1 q' (by rw[Prod.ext_iff];exact⟨rfl,by show(r.end' 0 false).2=q';rw[HE.out];exact HQ2.out⟩)).mono ?_;generalize (r.end' 0 false).1=x;rintro e w4 ⟨rfl,h4⟩;generalize zI x=ev;go_wp2;go_end0;exact⟨rfl,h4⟩
  ·have HE:Hid (r.dispatch.2.dispatches i=q2.dispatches 3):=by
    have:=HD.out;unfold Sk.dispatches at this;rw[ht,if_pos rfl] at this;exact this
   have HM:=za (zin HFR.out.inv ht);have HT:=za ht;clear ht;go_wp2_with fail;refine(zfz W wr s b r _ HOR.out HFR.out true r.dispatch.2 (by rw[Prod.ext_iff];exact⟨HT.out,rfl⟩)).mono ?_;rintro e w3 ⟨rfl,h3⟩;have HO3:=za h3;clear h3;go_wp2;go_roundw
   case rel=>exact⟨i,r.dispatch.2,HO3.out,HFR.out.dispatch,HE.out,by have:=HM.out;have:=HJ.out;omega⟩
   case measure=>rw[zha HOR.out,zha HO3.out];have:=HM.out;have:=HB2.out;omega
theorem zhb(W:Ref)(w:World)(s b:Nat)(q:Sk)(n m:Nat)(h:zam W s b q w)(hf:Fit n q)(hn:n+11*m≤900000)(x:Nat)(q':Sk)(hq:q.settle m=(x,q'))(t:Bool)(ht:q'.quiet=t) :
 Calls Tryz.prog 28 #[.pointer (some ⟨s,0,none⟩),.int .i64 m] w fun e w'=>e=.returned (.tuple #[.int .i64 x,.bool t])∧zam W s b q' w':=by
 have HO:=za h;have HF:=za hf;have HQ:=za hq;have HT:=za ht;clear h hf hq ht;go_enter Tryz.func28,Tryz.ntmps28;go_wp2
 go_loopw[6] (fun i wr=>∃(k:Nat) (r:Sk),k≤m∧i=.int .i64 k∧zam W s b r wr∧Fit (n+11*k) r∧q.settle m=((r.settle (m-k)).1+k,(r.settle (m-k)).2)) (fun i _=>m-(intOf i).toNat)
 case atStart=>exact⟨0,q,by omega,rfl,HO.out,HF.out,rfl⟩
 case round =>
  obtain⟨k,r,hk,rfl,ho,hfr,hd⟩:=hrel;have HOR:=za ho;have HFR:=za hfr;have HD:=za (hd.symm.trans HQ.out);have H6:Hid (r.queue.length≤1000):=by have:=hfr.inv.q6;show r.queue.length≤1000;omega
  clear ho hfr hd
  by_cases hlt:k<m
  ·have hlt':(k:Int)<(m:Int):=by omega
   obtain⟨i,hi⟩:∃i,m-k=i+1:=⟨m-k-1,by omega⟩
   have HI:=za hi;rw[hi] at HD
   cases hqt:r.quiet
   ·have HD2:Hid (((r.round.settle i).1+(k+1),(r.round.settle i).2)=(x,q')):=by
     have:=HD.out;unfold Sk.settle at this;rw[if_neg (by rw[hqt];exact Bool.false_ne_true)] at this;show _=_;rw[←this];simp only[Prod.mk.injEq,and_true]
     omega
    have HQT:=za hqt;clear hqt hi;go_wp2_with fail;refine(zdo W wr s b r HOR.out H6.out false HQT.out).mono ?_;rintro e w1 ⟨rfl,hb1⟩;have HO1:=za (HOR.out.later hb1);clear hb1;go_wp2_with fail;refine(zic W w1 s b r _ HO1.out HFR.out (by omega) _ rfl).mono ?_;rintro e w2 ⟨rfl,h2⟩;have HO2:=za h2;clear h2;go_wp2;go_roundw
    case rel=>exact⟨k+1,r.round,by omega,by go_num,HO2.out,HFR.out.round.mono (by omega),by
     have e:m-(k+1)=i:=by have:=HI.out;omega
     rw[e];exact HQ.out.trans HD2.out.symm⟩
    case measure=>simp[intOf];omega
   ·have HD2:Hid (k=x∧r=q'):=by
     show k=x∧r=q';have:=HD.out;unfold Sk.settle at this;rw[if_pos hqt] at this
     simpa using this
    have HQT:=za hqt;have HQ':Hid (true=t):=by have:=HT.out;rw[←HD2.out.2,hqt] at this;exact this
    clear hqt hi;go_wp2_with fail;refine(zdo W wr s b r HOR.out H6.out true HQT.out).mono ?_;rintro e w1 ⟨rfl,hb1⟩;have HO1:=za (HOR.out.later hb1);clear hb1;go_wp2_with fail;refine(zdo W w1 s b r HO1.out H6.out true HQT.out).mono ?_;rintro e w2 ⟨rfl,hb2⟩;have HO2:=za (HO1.out.later hb2);clear hb2;go_wp2;refine bodyPost_ret (v:=.tuple #[.int .i64 k,.bool true]) (by simp[results,Tryz.results28,go_sem]) rfl ?_;exact⟨by rw[←HD2.out.1,HQ'.out],by rw[←HD2.out.2];exact HO2.out⟩
  ·obtain rfl:k=m:=by omega
   have HD2:Hid (k=x∧r=q'):=by
    show k=x∧r=q';have:=HD.out;rw[Nat.sub_self] at this;unfold Sk.settle at this
    simpa using this
   have HQT:Hid (r.quiet=t):=by have:=HT.out;rw[←HD2.out.2] at this;exact this
   go_wp2_with fail;refine(zdo W wr s b r HOR.out H6.out t HQT.out).mono ?_;rintro e w1 ⟨rfl,hb1⟩;have HO1:=za (HOR.out.later hb1);clear hb1;go_wp2;refine bodyPost_ret (v:=.tuple #[.int .i64 k,.bool t]) (by simp[results,Tryz.results28,go_sem]) rfl ?_;exact⟨by rw[←HD2.out.1],by rw[←HD2.out.2];exact HO1.out⟩
end Go.Proofs.YtlhgjplipgandaaGreatDoor
