/- Joined texts: RStk11, RStk12, Stk23. -/
import Derived.Test.YtlhgjplipgandaaGreatB38
set_option maxRecDepth 100000
set_option maxHeartbeats 8000000
set_option linter.unusedSimpArgs false
namespace Go.Proofs.YtlhgjplipgandaaGreat
open Go.RowKit Go.BigFrame Go.Maps
attribute [local go_sem] ze.cell ze.frozen
theorem zH.askIs{s:Nat}{p:Sk}{A:Rs}{w:World}(h:zH s p A w){c:Nat}(hc:c<3):((p.client c).kind=0∧w.cell? ⟨s,11+c,none⟩=some (.pointer none))∨(¬(p.client c).kind=0∧∃k,w.cell? ⟨s,11+c,none⟩=some (.pointer (some ⟨k,0,none⟩))):=by
 have c11:=(h.c11 hc).1;unfold zdv at c11
 cases hka:A.ka c with
 |none =>
  rw[hka] at c11;exact Or.inl ⟨h.mem.idle c hc hka,c11⟩
 |some k =>
  rw[hka] at c11;exact Or.inr ⟨(h.mem.asks c hc k hka).kind,k,c11⟩
theorem zq0(p:Sk):p.nf.quiet=((p.client 0).kind==0&&((p.client 1).kind==0&&(p.client 2).kind==0)&&(p.queue.isEmpty&&p.dev.busy.isEmpty)):=by
 have e:∀c:Nat,c<3→p.nf.waits c=!((p.client c).kind==0):=fun c hc=>by
  unfold Sk.waits;rw[decide_eq_true (show 0≤(c:Int)∧(c:Int)<3 by omega),Bool.true_and,Int.toNat_natCast]
  rfl
 have e1:p.nf.queue.isEmpty=p.queue.isEmpty:=by show(p.queue.map Rq.nf).isEmpty=_;rw[List.isEmpty_map]
 have e2:p.nf.dev.busy.isEmpty=p.dev.busy.isEmpty:=by show(p.dev.busy.map Rq.nf).isEmpty=_;rw[List.isEmpty_map]
 have h0:=e 0 (by omega);have h1:=e 1 (by omega);have h2:=e 2 (by omega);unfold Sk.quiet;rw[show(0:Int)=((0:Nat):Int) from rfl,show(1:Int)=((1:Nat):Int) from rfl,show(2:Int)=((2:Nat):Int) from rfl,h0,h1,h2,e1,e2,Bool.not_not,Bool.not_not,Bool.not_not]
 rfl
theorem zij(s:Nat)(p:Sk)(A:Rs)(w:World)(h:zH s p A w)(t:Bool)(ht:p.nf.quiet=t):Calls Tryz.prog 14 #[.pointer (some ⟨s,0,none⟩)] w fun e w'=>e=.returned (.bool t)∧w'=w:=by
 rw[zq0] at ht;have a0:=h.askIs (c:=0) (by omega);have a1:=h.askIs (c:=1) (by omega);have a2:=h.askIs (c:=2) (by omega);have c0:=h.cell 0 _ rfl;have c3:=h.cell 3 _ rfl;have c65:=h.mem.drv.dev.c65;rw[h.mem.busy] at c65;have hbl:=h.mem.drv.dev.lt;have hl:=h.lt;have q0:p.queue.isEmpty=decide ((p.queue.length:Int)=0):=by cases p.queue<;>simp;omega
 have q1:p.dev.busy.isEmpty=decide ((p.dev.busy.length:Int)=0):=by cases p.dev.busy<;>simp;omega
 rw[q0,q1] at ht;clear h q0 q1;generalize p.queue.length=n at *;generalize p.dev.busy.length=m at *
 rcases a0 with⟨b0,a0⟩|⟨b0,k0,a0⟩
 ·rcases a1 with⟨b1,a1⟩|⟨b1,k1,a1⟩
  ·rcases a2 with⟨b2,a2⟩|⟨b2,k2,a2⟩
   ·rw[b0,b1,b2] at ht;have HT:=za ht;clear ht b0 b1 b2
    by_cases hn:n=0
    ·subst hn;go_enter Tryz.func14,Tryz.ntmps14;go_wp2;go_ret;exact⟨zad (by rw[←HT.out];rw[Bool.eq_iff_iff];simp),rfl⟩
    ·have hn1:¬(n:Int)=0:=by omega
     have hn2:((n:Int)==0)=false:=beq_eq_false_iff_ne.2 hn1;go_enter Tryz.func14,Tryz.ntmps14;go_wp2;go_ret;exact⟨zad (by rw[←HT.out];simp[hn]),rfl⟩
   ·have hb:((p.client 2).kind==0)=false:=beq_eq_false_iff_ne.2 b2;rw[b0,b1,hb] at ht;have HT:=za ht;clear ht b0 b1 b2 hb;go_enter Tryz.func14,Tryz.ntmps14;go_wp2;go_ret;exact⟨zad (by rw[←HT.out];rfl),rfl⟩
  ·have hb:((p.client 1).kind==0)=false:=beq_eq_false_iff_ne.2 b1;rw[b0,hb] at ht;have HT:=za ht;clear ht b0 b1 hb a2;go_enter Tryz.func14,Tryz.ntmps14;go_wp2;go_ret;exact⟨zad (by rw[←HT.out];rfl),rfl⟩
 ·have hb:((p.client 0).kind==0)=false:=beq_eq_false_iff_ne.2 b0;rw[hb] at ht;have HT:=za ht;clear ht b0 hb a1 a2;go_enter Tryz.func14,Tryz.ntmps14;go_wp2;go_ret;exact⟨zad (by rw[←HT.out];rfl),rfl⟩
theorem zjx(s:Nat)(p:Sk)(A:Rs)(w:World)(h:zH s p A w)(hI:Inv p)(hL:zp p)(hT:p.tags≤3999999999999999990)(hU:p.uses≤3999999999999999990)(q:Sk)(hq:p.nf.tick=q) :
  Calls Tryz.prog 22 #[.pointer (some ⟨s,0,none⟩)] w fun e w'=>e=.returned (.tuple #[])∧KOk 0 s p A w w' q:=by
 obtain⟨m,hm⟩:∃m:Int,(if p.moment+1<1000000000 then p.moment+1 else 1000000000)=m:=⟨_,rfl⟩
 have HM:=za (hI.mom);have HX:=za (h.setMoment m);have HI2:Hid (Inv { p with moment:=m }):=⟨hI.cl3,hI.cok,hI.hand,hI.d6,hI.good,hI.apart,hI.q6,hI.b2,by
  have:=hI.mom;show 0≤m∧m≤1000000000;rw[←hm];split<;>omega,hI.tg,hI.us,hI.tin,hI.n32,hI.g32,hI.ts,hI.fr⟩
 have HL2:Hid (zp { p with moment:=m }):=hL;have HQ:Hid (({ p with moment:=m }:Sk).nf.serve=q):=by
  rw[←hq,←hm];rfl
 have c8:=h.cell 8 _ rfl;have f8:=h.fz 8;have hl:=h.lt;have hwr:IntKind.i64.wrap (p.moment+1)=p.moment+1:=by have:=hI.mom;rw[IntKind.wrap_i64];omega
 clear h hI hq hL
 by_cases hlt:1000000000<p.moment+1
 ·obtain rfl:1000000000=m:=by rw[←hm,if_neg (by omega)]
  clear hm;go_enter Tryz.func22,Tryz.ntmps22;go_wp2_with fail;refine(zcu s _ A _ HX.out.at' HI2.out HL2.out hT hU q HQ.out).mono ?_;rintro e w4 ⟨rfl,hok⟩;have HO:Hid (KOk 0 s p A w w4 q):=KOk.before HX.out (Nat.le_refl _) hok (Nat.le_refl _);clear hok;go_wp2;go_end0;exact⟨rfl,HO.out⟩
 ·obtain rfl:p.moment+1=m:=by rw[←hm];split<;>omega
  clear hm;go_enter Tryz.func22,Tryz.ntmps22;go_wp2_with fail;refine(zcu s _ A _ HX.out.at' HI2.out HL2.out hT hU q HQ.out).mono ?_;rintro e w4 ⟨rfl,hok⟩;have HO:Hid (KOk 0 s p A w w4 q):=KOk.before HX.out (Nat.le_refl _) hok (Nat.le_refl _);clear hok;go_wp2;go_end0;exact⟨rfl,HO.out⟩
theorem zbV{s:ByteArray}(l:List UInt8)(h:¬s=⟨l.toArray⟩):(s.toList==l)=false:=by
 rw[beq_eq_false_iff_ne];intro e;apply h;rw[ByteArray.toList_eq] at e
 cases s
 simp only at e;rw[←e]
theorem zki{s:ByteArray}(h:s.size=0):s=⟨#[]⟩:=by
 cases s with
 |mk a=>simp only[ByteArray.size] at h;congr 1;exact Array.eq_empty_of_size_eq_zero h
theorem zrY{s:ByteArray}(h:¬s.size=0):(s.toList==[])=false:=zbV [] (fun e=>h (by rw[e];rfl))
theorem zeq(c kind pl:Int)(data:ByteArray)(w:World)(t:Int)(ht:zag c kind pl data=t) :
  Calls Tryz.prog 40 #[.int .i64 c,.int .i64 kind,.int .i64 pl,.string data] w fun e w'=>e=.returned (zae t)∧w'=w:=by
 by_cases hc:0≤c∧c<3
 case neg =>
  obtain rfl:3=t:=by rw[←ht];unfold zag;rw[if_pos (Or.inl hc)]
  have HC:=za hc;clear hc ht;go_enter Tryz.func40,Tryz.ntmps40;go_wp2_with fail;refine(zaA _ _ false (decide_eq_false HC.out)).mono ?_;rintro e w1 ⟨rfl,rfl⟩;go_wp2;go_ret;exact⟨rfl,rfl⟩
 have HC:=za hc
 by_cases hk:kind=1∨kind=2∨kind=3
 case neg =>
  obtain rfl:3=t:=by rw[←ht];unfold zag;rw[if_pos (Or.inr (by omega))]
  have k1:¬kind=1:=fun e=>hk (Or.inl e)
  have k2:¬kind=2:=fun e=>hk (Or.inr (Or.inl e))
  have k3:¬kind=3:=fun e=>hk (Or.inr (Or.inr e))
  have k4:(kind != 1)=true:=bne_iff_ne.2 k1;have k5:(kind != 2)=true:=bne_iff_ne.2 k2;have k6:(kind != 3)=true:=bne_iff_ne.2 k3;clear hc ht hk;go_enter Tryz.func40,Tryz.ntmps40;go_wp2_with fail;refine(zaA _ _ true (decide_eq_true HC.out)).mono ?_;rintro e w1 ⟨rfl,rfl⟩;go_wp2;go_ret;exact⟨rfl,rfl⟩
 by_cases p0:pl<0
 case pos =>
  obtain rfl:1=t:=by rw[←ht];unfold zag;(repeat' split)<;>omega
  clear hc ht
  rcases hk with rfl|rfl|rfl
  all_goals
   go_enter Tryz.func40,Tryz.ntmps40;go_wp2_with fail;refine(zaA _ _ true (decide_eq_true HC.out)).mono ?_;rintro e w1 ⟨rfl,rfl⟩;go_wp2;go_ret;exact⟨rfl,rfl⟩
 by_cases p1:32≤pl
 case pos =>
  obtain rfl:1=t:=by rw[←ht];unfold zag;(repeat' split)<;>omega
  clear hc ht
  rcases hk with rfl|rfl|rfl
  all_goals
   go_enter Tryz.func40,Tryz.ntmps40;go_wp2_with fail;refine(zaA _ _ true (decide_eq_true HC.out)).mono ?_;rintro e w1 ⟨rfl,rfl⟩;go_wp2;go_ret;exact⟨rfl,rfl⟩
 by_cases p2:kind=3∧¬pl=0
 case pos =>
  obtain rfl:1=t:=by rw[←ht];unfold zag;(repeat' split)<;>omega
  obtain⟨rfl,p3⟩:=p2;have p4:(pl != 0)=true:=bne_iff_ne.2 p3;clear hc ht hk;go_enter Tryz.func40,Tryz.ntmps40;go_wp2_with fail;refine(zaA _ _ true (decide_eq_true HC.out)).mono ?_;rintro e w1 ⟨rfl,rfl⟩;go_wp2;go_ret;exact⟨rfl,rfl⟩
 by_cases z4:4<data.size
 case pos =>
  obtain rfl:1=t:=by rw[←ht];unfold zag;(repeat' split)<;>omega
  have z4':(4:Int)<(data.size:Int):=by omega
  clear hc ht
  rcases hk with rfl|rfl|rfl
  ·go_enter Tryz.func40,Tryz.ntmps40;go_wp2_with fail;refine(zaA _ _ true (decide_eq_true HC.out)).mono ?_;rintro e w1 ⟨rfl,rfl⟩;go_wp2;go_ret;exact⟨rfl,rfl⟩
  ·go_enter Tryz.func40,Tryz.ntmps40;go_wp2_with fail;refine(zaA _ _ true (decide_eq_true HC.out)).mono ?_;rintro e w1 ⟨rfl,rfl⟩;go_wp2;go_ret;exact⟨rfl,rfl⟩
  ·obtain rfl:pl=0:=by omega
   go_enter Tryz.func40,Tryz.ntmps40;go_wp2_with fail;refine(zaA _ _ true (decide_eq_true HC.out)).mono ?_;rintro e w1 ⟨rfl,rfl⟩;go_wp2;go_ret;exact⟨rfl,rfl⟩
 have z4':¬(4:Int)<(data.size:Int):=by omega
 by_cases z0:data.size=0
 case pos =>
  obtain rfl:0=t:=by rw[←ht];unfold zag;(repeat' split)<;>omega
  obtain rfl:=zki z0;clear hc ht z0 z4 z4'
  rcases hk with rfl|rfl|rfl
  ·go_enter Tryz.func40,Tryz.ntmps40;go_wp2_with fail;refine(zaA _ _ true (decide_eq_true HC.out)).mono ?_;rintro e w1 ⟨rfl,rfl⟩;go_wp2;go_ret;exact⟨rfl,rfl⟩
  ·go_enter Tryz.func40,Tryz.ntmps40;go_wp2_with fail;refine(zaA _ _ true (decide_eq_true HC.out)).mono ?_;rintro e w1 ⟨rfl,rfl⟩;go_wp2;go_ret;exact⟨rfl,rfl⟩
  ·obtain rfl:pl=0:=by omega
   go_enter Tryz.func40,Tryz.ntmps40;go_wp2_with fail;refine(zaA _ _ true (decide_eq_true HC.out)).mono ?_;rintro e w1 ⟨rfl,rfl⟩;go_wp2;go_ret;exact⟨rfl,rfl⟩
 have z1:=zrY z0;have z2:data.toList.isEmpty=false:=by cases h:data.toList with|nil=>rw[h] at z1;cases z1|cons _ _=>rfl
 rcases hk with rfl|rfl|rfl
 ·obtain rfl:1=t:=by rw[←ht];unfold zag;(repeat' split)<;>omega
  clear hc ht z0;go_enter Tryz.func40,Tryz.ntmps40;go_wp2_with fail;refine(zaA _ _ true (decide_eq_true HC.out)).mono ?_;rintro e w1 ⟨rfl,rfl⟩;go_wp2;go_ret;exact⟨rfl,rfl⟩
 ·obtain rfl:0=t:=by rw[←ht];unfold zag;(repeat' split)<;>omega
  clear hc ht z0;go_enter Tryz.func40,Tryz.ntmps40;go_wp2_with fail;refine(zaA _ _ true (decide_eq_true HC.out)).mono ?_;rintro e w1 ⟨rfl,rfl⟩;go_wp2;go_ret;exact⟨rfl,rfl⟩
 ·obtain rfl:1=t:=by rw[←ht];unfold zag;(repeat' split)<;>omega
  obtain rfl:pl=0:=by omega
  clear hc ht z0;go_enter Tryz.func40,Tryz.ntmps40;go_wp2_with fail;refine(zaA _ _ true (decide_eq_true HC.out)).mono ?_;rintro e w1 ⟨rfl,rfl⟩;go_wp2;go_ret;exact⟨rfl,rfl⟩
theorem zoT{w:World}{B e k n:Nat}{v:Value}{xs:List Value}(h:w.ownsRow B e k v n xs):∃a c,v=.slice a n c:=by
 rcases h.2 with⟨rfl,h0⟩|⟨g,cap,cur,rfl,_⟩
 ·exact⟨none,0,by rw[h0]⟩
 ·exact⟨_,cap,rfl⟩
theorem zq3(p:Sk)(i:Nat){kind pl:Int}{data:ByteArray}(h:¬kind=3):p.asks i kind pl data=p.asks0 i kind pl data:=by unfold Sk.asks Sk.asks0;rw[if_neg h]
theorem asks_3(p:Sk)(hl:p.cl.length=3){i:Nat}(hi:i<3){pl:Int}{data:ByteArray}:(p.asks0 i 3 pl data).setLeft i (zL p.hand)=p.asks i 3 pl data:=by
 unfold Sk.setLeft;rw[show(p.asks0 i 3 pl data).client i={ p.client i with kind:=3,pl:=pl,data:=data } by unfold Sk.asks0;rw[zaQ hl hi,if_pos rfl]];unfold Sk.asks0 Sk.asks;rw[List.set_set,if_pos rfl]
theorem ask_no(s:Nat)(p:Sk)(A:Sa)(w:World)(h:zv s p A w)(c kind pl:Int)(data:ByteArray)(t:Int)(ht:zag c kind pl data=t)(h0:¬t=0) :
  Calls Tryz.prog 15 #[.pointer (some ⟨s,0,none⟩),.int .i64 c,.int .i64 kind,.int .i64 pl,.string data] w fun e w'=>e=.returned (zae t)∧SOk s p A w w' p.nf:=by
 have HST:=za h;have HT:=za ht;have he:zae t=.iface 88 (.int .i64 t):=by unfold zae;rw[if_neg h0]
 have HE:=za he;clear h ht h0 he;go_enter Tryz.func15,Tryz.ntmps15;go_wp2_with fail;refine(zeq c kind pl data _ t HT.out).mono ?_;rintro e w1 ⟨rfl,rfl⟩;rw[HE.out];go_wp2;go_ret;exact⟨by rw[HE.out];rfl,p,A,zG.same' HST.out (Below.refl _ _),rfl⟩
theorem zrf(s:Nat)(p:Sk)(A:Sa)(w:World)(h:zv s p A w)(c kind pl:Int)(data:ByteArray)(ht:zag c kind pl data=0)(hw:p.waits c=true) :
  Calls Tryz.prog 15 #[.pointer (some ⟨s,0,none⟩),.int .i64 c,.int .i64 kind,.int .i64 pl,.string data] w fun e w'=>e=.returned (zae 6)∧SOk s p A w w' p.nf:=by
 have HST:=za h;have HT:=za ht;have HW:=za hw;clear h ht hw;go_enter Tryz.func15,Tryz.ntmps15;go_wp2_with fail;refine(zeq c kind pl data _ 0 HT.out).mono ?_;rintro e w1 ⟨rfl,rfl⟩;rw[show zae 0=.nilIface from rfl];go_wp2_with fail;refine(zcT s p A c _ HST.out true HW.out).mono ?_;rintro e w2 ⟨rfl,rfl⟩;go_wp2;go_ret;exact⟨rfl,p,A,zG.same' HST.out (Below.refl _ _),rfl⟩
theorem zsn(s:Nat)(p:Sk)(A:Sa)(w:World)(h:zv s p A w)(hI:Inv p)(hT:p.tags≤3999999999999999990)(hU:p.uses≤3999999999999999990)(i:Nat)(hi:i<3)(kind pl:Int)(data:ByteArray)(ht:zag (i:Int) kind pl data=0)(hw:p.waits (i:Int)=false)(q:Sk)(hq:(p.nf.asks i kind pl data).serve=q) :
  Calls Tryz.prog 15 #[.pointer (some ⟨s,0,none⟩),.int .i64 (i:Int),.int .i64 kind,.int .i64 pl,.string data] w fun e w'=>e=.returned (zae 0)∧SOk s p A w w' q:=by
 have HST:=za h;have HT:=za ht;have HW:=za hw;have hz:=zcw ht;have HIA:=za (hI.asks i kind pl data hz.2.1 hz.2.2.1 hz.2.2.2.2.1);have HQ:=za hq;have HB:=za (And.intro hT hU);have hl3:=hI.cl3;have H8:=za hI.hand.len;have hi':(i:Int)<3:=by omega
 obtain⟨c0,c1,c2,c3,-⟩:=h.client i hi;have f0:=h.fz (2+i*6);have f1:=h.fz (2+i*6+1);have f2:=h.fz (2+i*6+2);have hl:=h.lt;have HX:=za (h.asks0 hl3 hi kind pl data);clear h ht hw hz hI hT hU hq;generalize (p.client i).kind=y0 at *;generalize (p.client i).pl=y1 at *;generalize (p.client i).data=y2 at *
 by_cases h3:kind=3
 ·subst h3;go_enter Tryz.func15,Tryz.ntmps15;go_wp2_with fail;refine(zeq i 3 pl data _ 0 HT.out).mono ?_;rintro e w1 ⟨rfl,rfl⟩;rw[show zae 0=.nilIface from rfl];go_wp2_with fail;refine(zcT s p A i _ HST.out false HW.out).mono ?_;rintro e w2 ⟨rfl,rfl⟩;go_wp2_with fail;refine(zka s (p.asks0 i 3 pl data) A _ HX.out.at' (by have:=H8.out;show p.hand.length≤1000;omega)).mono ?_;rintro e w3 ⟨v,rfl,hown,hb3⟩;obtain⟨va,vc,rfl⟩:=zoT hown;obtain⟨A',hs3⟩:=HX.out.at'.newLeft (show(p.asks0 i 3 pl data).cl.length=3 by unfold Sk.asks0;rw[List.length_set];exact hl3) hi (zL p.hand) _ hb3 hown;rw[asks_3 p hl3 hi] at hs3;have HS3:=za (HX.out.trans hs3);have hst3:=HX.out.at'.later hb3;have g3:=(hst3.client i hi).2.2.2.1;have gf:=hst3.fz (2+i*6+3);have l3:=hst3.lt;clear hown hb3 hs3 hst3 c0 c1 c2 c3 f0 f1 f2;obtain⟨y3,hy3⟩:∃y3,((p.asks0 i 3 pl data).client i).left.length=y3:=⟨_,rfl⟩
  rw[hy3] at g3;clear hy3;go_wp2_with fail;refine(zcO s (p.asks i 3 pl data) A' _ HS3.out.at' HIA.out HB.out.1 HB.out.2 q HQ.out).mono ?_;rintro e w4 ⟨rfl,hok⟩;have HO:=za (SOk.trans HS3.out hok);clear hok;go_wp2;go_ret;exact⟨rfl,HO.out⟩
 ·have HA:=za (zq3 p i (pl:=pl) (data:=data) h3);go_enter Tryz.func15,Tryz.ntmps15;go_wp2_with fail;refine(zeq i kind pl data _ 0 HT.out).mono ?_;rintro e w1 ⟨rfl,rfl⟩;rw[show zae 0=.nilIface from rfl];go_wp2_with fail;refine(zcT s p A i _ HST.out false HW.out).mono ?_;rintro e w2 ⟨rfl,rfl⟩;go_wp2_with fail;refine(zcO s (p.asks0 i kind pl data) A _ HX.out.at' (by rw[←HA.out];exact HIA.out) HB.out.1 HB.out.2 q (by rw[←HA.out];exact HQ.out)).mono ?_;rintro e w4 ⟨rfl,hok⟩;have HO:=za (SOk.trans HX.out hok);clear hok;go_wp2;go_ret;exact⟨rfl,HO.out⟩
theorem znh(s:Nat)(p:Sk)(A:Sa)(w:World)(h:zv s p A w)(hI:Inv p)(hT:p.tags≤3999999999999999990)(hU:p.uses≤3999999999999999990)(c kind pl:Int)(data:ByteArray)(n:Int)(q:Sk)(hq:p.nf.ask c kind pl data=(n,q)) :
  Calls Tryz.prog 15 #[.pointer (some ⟨s,0,none⟩),.int .i64 c,.int .i64 kind,.int .i64 pl,.string data] w fun e w'=>e=.returned (zae n)∧SOk s p A w w' q:=by
 unfold Sk.ask at hq
 by_cases h0:zag c kind pl data=0
 ·rw[if_neg (by simpa using h0)] at hq
  cases hw:p.waits c
  ·rw[if_neg (by rw[show p.nf.waits c=p.waits c from rfl,hw];exact Bool.false_ne_true)] at hq;simp only[Prod.mk.injEq] at hq;obtain⟨rfl,hq⟩:=hq;have hz:=(zcw h0).1;obtain⟨i,rfl⟩:∃i:Nat,c=i:=⟨c.toNat,by omega⟩
   rw[Int.toNat_natCast] at hq;exact zsn s p A w h hI hT hU i (by omega) kind pl data h0 hw q hq
  ·rw[if_pos (show p.nf.waits c=true from hw)] at hq;simp only[Prod.mk.injEq] at hq;obtain⟨rfl,rfl⟩:=hq;exact zrf s p A w h c kind pl data h0 hw
 ·rw[if_pos h0] at hq;simp only[Prod.mk.injEq] at hq;obtain⟨rfl,rfl⟩:=hq;exact ask_no s p A w h c kind pl data _ rfl h0
theorem z9.setMoment{s:Nat}{p:Sk}{A:Sa}{w:World}(h:z9 s p A w)(m:Int):z9 s { p with moment:=m } A w where
 drv:=h.drv
 map:=h.map
 im:=h.im
 nb:=h.nb
 hand:=h.hand
 hnil:=h.hnil
 hcap:=h.hcap
 queue:=h.queue
 qnil:=h.qnil
 qcap:=h.qcap
 left:=h.left
 sv:=h.sv
 vl:=h.vl
 ll:=h.ll
 hoffX:=h.hoffX
 qoffX:=h.qoffX
 roffX:=h.roffX
 xlt:=h.xlt
theorem zv.setMoment{s:Nat}{p:Sk}{A:Sa}{w:World}(h:zv s p A w)(m:Int):zG s p A { p with moment:=m } A w (w.setCell ⟨s,26,none⟩ (.int .i64 m)):=h.put (h.mem.setMoment m) 26 _ rfl (fun _ hk=>hk) ⟨rfl,rfl,rfl,rfl⟩
theorem zhE(s:Nat)(p:Sk)(A:Sa)(w:World)(h:zv s p A w)(hI:Inv p)(hT:p.tags≤3999999999999999990)(hU:p.uses≤3999999999999999990)(q:Sk)(hq:p.nf.tick=q) :
  Calls Tryz.prog 21 #[.pointer (some ⟨s,0,none⟩)] w fun e w'=>e=.returned (.tuple #[])∧SOk s p A w w' q:=by
 obtain⟨m,hm⟩:∃m:Int,(if p.moment+1<1000000000 then p.moment+1 else 1000000000)=m:=⟨_,rfl⟩
 have HM:=za (hI.mom);have HX:=za (h.setMoment m);have HI2:Hid (Inv { p with moment:=m }):=⟨hI.cl3,hI.cok,hI.hand,hI.d6,hI.good,hI.apart,hI.q6,hI.b2,by
  have:=hI.mom;show 0≤m∧m≤1000000000;rw[←hm];split<;>omega,hI.tg,hI.us,hI.tin,hI.n32,hI.g32,hI.ts,hI.fr⟩
 have HQ:Hid (({ p with moment:=m }:Sk).nf.serve=q):=by
  rw[←hq,←hm];rfl
 have c26:=h.cell 26 _ rfl;have f26:=h.fz 26;have hl:=h.lt;have hwr:IntKind.i64.wrap (p.moment+1)=p.moment+1:=by have:=hI.mom;rw[IntKind.wrap_i64];omega
 clear h hI hq
 by_cases hlt:1000000000<p.moment+1
 ·obtain rfl:1000000000=m:=by rw[←hm,if_neg (by omega)]
  clear hm;go_enter Tryz.func21,Tryz.ntmps21;go_wp2_with fail;refine(zcO s _ A _ HX.out.at' HI2.out hT hU q HQ.out).mono ?_;rintro e w4 ⟨rfl,hok⟩;have HO:=za (SOk.trans HX.out hok);clear hok;go_wp2;go_end0;exact⟨rfl,HO.out⟩
 ·obtain rfl:p.moment+1=m:=by rw[←hm];split<;>omega
  clear hm;go_enter Tryz.func21,Tryz.ntmps21;go_wp2_with fail;refine(zcO s _ A _ HX.out.at' HI2.out hT hU q HQ.out).mono ?_;rintro e w4 ⟨rfl,hok⟩;have HO:=za (SOk.trans HX.out hok);clear hok;go_wp2;go_end0;exact⟨rfl,HO.out⟩
def zgs(c:Cl):Bool:=(c.kind==2)||(c.kind==3)
theorem zih(kd pl:Int)(hkd:0≤kd∧kd≤3)(da:ByteArray)(a:Option Addr)(n c:Nat)(got:ByteArray)(ev:Value)(w:World)(t:Bool)(ht:((kd==2)||(kd==3))=t) :
  Calls Tryz.prog 78 #[.agg #[.int .i64 kd,.int .i64 pl,.string da,.slice a n c,.string got,ev]] w fun e w'=>e=.returned (.bool t)∧Below w.heap.size w w':=by
 have h4:kd=0∨kd=1∨kd=2∨kd=3:=by omega
 clear hkd
 rcases h4 with rfl|rfl|rfl|rfl
 ·obtain rfl:false=t:=ht;go_enter Tryz.func78,Tryz.ntmps78;go_wp2;go_ret;exact⟨rfl,by(with_reducible repeat first|exact Below.refl _ _|refine zc ?_ _|refine zd ?_|refine bset' ?_ (by omega) _|refine zb ?_ (by assumption))⟩
 ·obtain rfl:false=t:=ht;go_enter Tryz.func78,Tryz.ntmps78;go_wp2;go_ret;exact⟨rfl,by(with_reducible repeat first|exact Below.refl _ _|refine zc ?_ _|refine zd ?_|refine bset' ?_ (by omega) _|refine zb ?_ (by assumption))⟩
 ·obtain rfl:true=t:=ht;go_enter Tryz.func78,Tryz.ntmps78;go_wp2;go_ret;exact⟨rfl,by(with_reducible repeat first|exact Below.refl _ _|refine zc ?_ _|refine zd ?_|refine bset' ?_ (by omega) _|refine zb ?_ (by assumption))⟩
 ·obtain rfl:true=t:=ht;go_enter Tryz.func78,Tryz.ntmps78;go_wp2;go_ret;exact⟨rfl,by(with_reducible repeat first|exact Below.refl _ _|refine zc ?_ _|refine zd ?_|refine bset' ?_ (by omega) _|refine zb ?_ (by assumption))⟩
theorem zmM{p:Sk}(hl:p.cl.length=3){k:Nat}(hk:k<3)(h:zgs (p.client k)=true):p.wantsClean=true:=List.any_eq_true.2 ⟨_,zoe hl hk,h⟩
theorem zol{p:Sk}(hl:p.cl.length=3)(h:∀k,k<3→zgs (p.client k)=false):p.wantsClean=false:=by
 unfold Sk.wantsClean;rw[List.any_eq_false];intro c hc;obtain⟨i,hi,rfl⟩:=znq hl hc;have:=h i hi;unfold zgs at this;rw[this];exact Bool.false_ne_true
theorem zon(s:Nat)(p:Sk)(A:Sa)(w:World)(h:zv s p A w)(hI:Inv p) :
  Calls Tryz.prog 111 #[.slice (some ⟨s,2,none⟩) 3 3,.func (.func 78) #[] #[]] w fun e w'=>∃n:Int,e=.returned (.int .i64 n)∧(decide (0≤n)=p.wantsClean)∧Below w.heap.size w w':=by
 have HST:=za h;have HI:=za hI;clear h hI;go_enter Tryz.func111,Tryz.ntmps111;go_wp2
 go_loopw[8] (fun i wr=>∃k:Nat,k≤3∧i=.int .i64 k∧(∀j,j<k→zgs (p.client j)=false)∧Below w.heap.size w wr) (fun i _=>3-(intOf i).toNat)
 case atStart=>exact⟨0,by omega,rfl,fun j hj=>absurd hj (Nat.not_lt_zero _),Below.refl _ _⟩
 case round =>
  obtain⟨k,hk,rfl,hno,HB⟩:=hrel;have HN:=za hno;clear hno
  by_cases hlt:k<3
  ·have hlt':(k:Int)<3:=by omega
   have hst:=HST.out.later HB;obtain⟨c0,c1,c2,c3,c4,c5⟩:=hst.client k hlt;have hl:=hst.lt;have hkd:=(HI.out.client k).kind;have HW:Hid (zgs (p.client k)=(((p.client k).kind==2)||((p.client k).kind==3))):=za rfl;clear hst;generalize (p.client k).kind=y0 at *;generalize (p.client k).pl=y1 at *;generalize (p.client k).data=y2 at *;generalize (p.client k).left.length=y3 at *;generalize (p.client k).got=y4 at *;generalize zae (p.client k).err=y5 at *;have HKD:=za hkd;clear hkd
   cases hw:((y0==2)||(y0==3))
   ·rw[hw] at HW;have HWW:=za hw;clear hw;go_wp2_with fail;refine(zih y0 y1 HKD.out y2 _ _ _ y4 y5 _ false HWW.out).mono ?_;rintro e w1 ⟨rfl,hb⟩;go_wp2;go_roundw
    case rel=>exact⟨k+1,by omega,by go_num,fun j hj=>by by_cases e:j=k;(subst e;exact HW.out);exact HN.out j (by omega),by(with_reducible repeat first|exact Below.refl _ _|refine zc ?_ _|refine zd ?_|refine bset' ?_ (by omega) _|refine zb ?_ (by assumption))⟩
    case measure=>simp[intOf];omega
   ·rw[hw] at HW;have HWW:=za hw;clear hw;go_wp2_with fail;refine(zih y0 y1 HKD.out y2 _ _ _ y4 y5 _ true HWW.out).mono ?_;rintro e w1 ⟨rfl,hb⟩;go_wp2;go_ret;exact⟨k,rfl,by rw[zmM HI.out.cl3 hlt HW.out];exact decide_eq_true (by omega),by(with_reducible repeat first|exact Below.refl _ _|refine zc ?_ _|refine zd ?_|refine bset' ?_ (by omega) _|refine zb ?_ (by assumption))⟩
  ·obtain rfl:k=3:=by omega
   go_wp2;go_ret;exact⟨-1,rfl,by rw[zol HI.out.cl3 (fun j hj=>HN.out j hj)];rfl,HB⟩
theorem zjE(s:Nat)(p:Sk)(A:Sa)(w:World)(h:zv s p A w)(hI:Inv p)(t:Bool)(ht:p.wantsClean=t) :
  Calls Tryz.prog 46 #[.pointer (some ⟨s,0,none⟩)] w fun e w'=>e=.returned (.bool t)∧Below w.heap.size w w':=by
 have HST:=za h;have HI:=za hI;have HT:=za ht;have hl:=h.lt;clear h hI ht;have hcon:Calls Tryz.prog 79 #[.slice (some ⟨s,2,none⟩) 3 3,.func (.func 78) #[] #[]] w fun e w'=>e=.returned (.bool t)∧Below w.heap.size w w':=by
  go_enter Tryz.func79,Tryz.ntmps79;go_wp2_with fail;refine(zon s p A w HST.out HI.out).mono ?_;rintro e w1 ⟨n,rfl,hn,hb⟩;rw[HT.out] at hn;go_wp2;go_ret;exact⟨zad (by rw[←hn]),hb⟩
 have HCON:=za hcon;clear hcon;go_enter Tryz.func46,Tryz.ntmps46;go_wp2_with fail;refine HCON.out.mono ?_;rintro e w1 ⟨rfl,hb⟩;go_wp2;go_ret;exact⟨rfl,hb⟩
theorem zoa(s:Nat)(p:Sk)(A:Sa)(w:World)(h:zv s p A w)(hd:p.dead=true) :
  Calls Tryz.prog 23 #[.pointer (some ⟨s,0,none⟩)] w fun e w'=>e=.returned (.bool false)∧SOk s p A w w' p.nf:=by
 have c29:=h.cell 29 _ rfl;rw[hd] at c29;have hl:=h.lt;have HST:=za h;clear h;go_enter Tryz.func23,Tryz.ntmps23;go_wp2;go_ret;exact⟨rfl,p,A,zG.same' HST.out (Below.refl _ _),rfl⟩
theorem zpO(s:Nat)(p:Sk)(A:Sa)(w:World)(h:zv s p A w)(hI:Inv p)(hd:p.dead=false)(h3:zN p.hand<3)(hw:p.wantsClean=false) :
  Calls Tryz.prog 23 #[.pointer (some ⟨s,0,none⟩)] w fun e w'=>e=.returned (.bool false)∧SOk s p A w w' p.nf:=by
 have c29:=h.cell 29 _ rfl;rw[hd] at c29;have hl:=h.lt;have HST:=za h;have HI:=za hI;have HW:=za hw;obtain⟨n,hn⟩:∃n,zN p.hand=n:=⟨_,rfl⟩
 rw[hn] at h3;have HN:=za hn;have h3':(n:Int)<3:=by omega
 clear h hI hw hn;go_enter Tryz.func23,Tryz.ntmps23;go_wp2_with fail;refine(zb9 s p A w HST.out n HN.out).mono ?_;rintro e w1 ⟨rfl,hb1⟩;have HS1:=za (zG.same' HST.out hb1);clear hb1;go_wp2_with fail;refine(zjE s p A w1 HS1.out.at' HI.out false HW.out).mono ?_;rintro e w2 ⟨rfl,hb2⟩;have HS2:=za (HS1.out.later hb2);clear hb2;go_wp2;go_ret;exact⟨rfl,p,A,HS2.out,rfl⟩
theorem zrL{w:World}{b:Nat}{x:ByteArray}(h:w.cell? ⟨b,0,none⟩=some (.string x)):zU w (some ⟨b,0,none⟩) [x]:=by
 refine Or.inr ⟨b,0,rfl,?_⟩;intro i hi
 match i,hi with
 |0,_=>simpa using h
theorem zno(s:Nat)(p:Sk)(A:Sa)(w:World)(h:zv s p A w)(hI:Inv p)(hT:p.tags≤4000000000000000000)(hd:p.dead=false)(hc:¬(zN p.hand<3∧p.wantsClean=false))(t:Bool)(q:Sk)(hq:p.nf.clean=(t,q)) :
  Calls Tryz.prog 23 #[.pointer (some ⟨s,0,none⟩)] w fun e w'=>e=.returned (.bool t)∧SOk s p A w w' q:=by
 have e1:p.nf.clean=if zby p.hand (za0 (p.queue++p.dev.busy))<0 then(false,p.nf) else p.nf.askQ (zby p.hand (za0 (p.queue++p.dev.busy))) true [((zaH p.hand (zby p.hand (za0 (p.queue++p.dev.busy)))).getD ⟨0,ByteArray.empty,false,0⟩).data]:=by
  rw[←zhI];unfold Sk.clean;rw[if_neg (fun e=>e.elim (fun e=>by rw[show p.nf.dead=false from hd] at e;cases e) hc)]
  rfl
 rw[e1] at hq;have HQ:=za hq;have HC:=za hc;have HST:=za h;have HI:=za hI;have c29:=h.cell 29 _ rfl;rw[hd] at c29;have hl:=h.lt;have h9:zN p.hand≤8:=Nat.le_trans (List.length_filter_le _ _) hI.hand.len;obtain⟨n,hn⟩:∃n,zN p.hand=n:=⟨_,rfl⟩
 rw[hn] at h9;have HN:=za hn;clear h hI hc hq e1 hn
 by_cases h3:n<3
 have h3':(n:Int)<3:=by omega
 have HW:Hid (p.wantsClean=true):=by
  cases hw:p.wantsClean
  ·exact absurd ⟨by rw[HN.out];exact h3,hw⟩ HC.out
  ·rfl
 go_enter Tryz.func23,Tryz.ntmps23;go_wp2_with fail;refine(zb9 s p A w HST.out n HN.out).mono ?_;rintro e w1 ⟨rfl,hb1⟩;have HS1:=za (zG.same' HST.out hb1);clear hb1;go_wp2_with fail;refine(zjE s p A w1 HS1.out.at' HI.out true HW.out).mono ?_;rintro e w2 ⟨rfl,hb2⟩;have HS2:=za (HS1.out.later hb2);clear hb2;go_wp2_with fail
 rotate_left
 have h3':¬(n:Int)<3:=by omega
 go_enter Tryz.func23,Tryz.ntmps23;go_wp2_with fail;refine(zb9 s p A w HST.out n HN.out).mono ?_;rintro e w2 ⟨rfl,hb2⟩;have HS2:=za (zG.same' HST.out hb2);clear hb2;go_wp2_with fail
 all_goals
  have y20:=HS2.out.at'.cell 20 _ rfl;have ly:=HS2.out.at'.lt
  rcases zbd (zaw true (za0 (p.queue++p.dev.busy))) p.hand p.hand.length (Nat.le_refl _) with⟨hr,-⟩|⟨k,hk,-,hr,-⟩
  ·have HR:=za hr;have HP:Hid (zby p.hand (za0 (p.queue++p.dev.busy))=-1):=by show zby p.hand (za0 (p.queue++p.dev.busy))=-1;unfold zby;rw[hr,if_neg (by omega)]
   clear hr;rw[HP.out,if_pos (by omega)] at HQ
   go_region_held3 (fun w'=>w'.cell? ⟨s,20,none⟩=some (.slice A.ha p.hand.length A.hc)) (exact cellB_later' (w:=w2) (by(with_reducible repeat first|exact Below.refl _ _|refine zc ?_ _|refine zd ?_|refine bset' ?_ (by omega) _|refine zb ?_ (by assumption))) y20) (first|(go_at_call 48;refine(zdj s p A _ (HS2.out.at'.later (by(with_reducible repeat first|exact Below.refl _ _|refine zc ?_ _|refine zd ?_|refine bset' ?_ (by omega) _|refine zb ?_ (by assumption)))) (by have:=HI.out.q6;omega)).mono ?_;rintro e w3 ⟨hb,rfl,hH,hb3⟩)|(go_at_call 47;refine(zsk 82 (by intro args w;go_simp) #[.pointer (some ⟨hb,0,none⟩)] (za0 (p.queue++p.dev.busy)) p.hand A.ha A.hc _ (HS2.out.at'.mem.hand.later (by(with_reducible repeat first|exact Below.refl _ _|refine zc ?_ _|refine zd ?_|refine bset' ?_ (by omega) _|refine zb ?_ (by assumption)))) (fun n w' hb'=>zeb hb _ n w' ((zcb.later hH (by(with_reducible repeat first|exact Below.refl _ _|refine zc ?_ _|refine zd ?_|refine bset' ?_ (by omega) _|refine zb ?_ (by assumption)))).later hb')) HR.out).mono ?_;rintro e w4 ⟨rfl,hb4⟩))
   all_goals
    have HS4:Hid (zG s p A p A w w4):=HS2.out.later (by(with_reducible repeat first|exact Below.refl _ _|refine zc ?_ _|refine zd ?_|refine bset' ?_ (by omega) _|refine zb ?_ (by assumption)));clear hb3 hb4 hH;go_wp2;go_ret;have hz:=HQ.out;simp only[Prod.mk.injEq] at hz;exact⟨by rw[←hz.1];rfl,p,A,HS4.out,hz.2⟩
  ·have HR:=za hr;obtain⟨x,hx⟩:∃x,x=p.hand[k]:=⟨_,rfl⟩
   have hxm:x∈p.hand:=by rw[hx];exact List.getElem_mem hk
   have HIN:=za (HI.out.hand.in' x hxm);have HP:Hid (zby p.hand (za0 (p.queue++p.dev.busy))=x.pl):=by
    show zby p.hand (za0 (p.queue++p.dev.busy))=x.pl;unfold zby;rw[hr,if_pos (by omega),Int.toNat_natCast,List.getD_eq_getElem?_getD,List.getElem?_eq_getElem hk,Option.getD_some,hx]
   have HG:=za (zdi HI.out.hand.rise hxm);have HXE:=za hx;rw[HP.out,if_neg (by have:=HIN.out;omega),HG.out] at HQ;have HIX:Hid (∃j,∃hj:j<p.hand.length,zap (plB x.pl) p.hand=j∧p.hand[j]=x):=by
    rcases zaV p.hand x.pl with⟨h1,_⟩|⟨j,hj,h1,h2,_⟩
    ·rw[HG.out] at h1;cases h1
    ·rw[HG.out] at h1;exact⟨j,hj,h2,(Option.some.inj h1).symm⟩
   have hx0:¬x.pl<0:=by have:=HIN.out;omega
   clear hr hx hxm
   go_region_held3 (fun w'=>w'.cell? ⟨s,20,none⟩=some (.slice A.ha p.hand.length A.hc)) (exact cellB_later' (w:=w2) (by(with_reducible repeat first|exact Below.refl _ _|refine zc ?_ _|refine zd ?_|refine bset' ?_ (by omega) _|refine zb ?_ (by assumption))) y20) (first|(go_at_call 48;refine(zdj s p A _ (HS2.out.at'.later (by(with_reducible repeat first|exact Below.refl _ _|refine zc ?_ _|refine zd ?_|refine bset' ?_ (by omega) _|refine zb ?_ (by assumption)))) (by have:=HI.out.q6;omega)).mono ?_;rintro e w3 ⟨hb,rfl,hH,hb3⟩)|(go_at_call 47;refine(zrn 82 (by intro args w;go_simp) #[.pointer (some ⟨hb,0,none⟩)] (za0 (p.queue++p.dev.busy)) p.hand A.ha A.hc _ (HS2.out.at'.mem.hand.later (by(with_reducible repeat first|exact Below.refl _ _|refine zc ?_ _|refine zd ?_|refine bset' ?_ (by omega) _|refine zb ?_ (by assumption)))) (fun n w' hb'=>zeb hb _ n w' ((zcb.later hH (by(with_reducible repeat first|exact Below.refl _ _|refine zc ?_ _|refine zd ?_|refine bset' ?_ (by omega) _|refine zb ?_ (by assumption)))).later hb')) k hk HR.out).mono ?_;rw[←HXE.out];rintro e w4 ⟨rfl,hb4⟩))
   all_goals
    have HS4:Hid (zG s p A p A w w4):=HS2.out.later (by(with_reducible repeat first|exact Below.refl _ _|refine zc ?_ _|refine zd ?_|refine bset' ?_ (by omega) _|refine zb ?_ (by assumption)));have g20:=HS4.out.at'.cell 20 _ rfl;have l4:=HS4.out.at'.lt;clear hb3 hb4 hH y20 ly;obtain⟨j,hj,hix,hjx⟩:=HIX.out;have HJ:=za (And.intro hix hjx);clear hix hjx;go_wp2_with fail;refine(zfA p.hand A.ha A.hc x.pl _ (HS4.out.at'.mem.hand.later (by(with_reducible repeat first|exact Below.refl _ _|refine zc ?_ _|refine zd ?_|refine bset' ?_ (by omega) _|refine zb ?_ (by assumption)))) j hj HJ.out.1).mono ?_;rw[HJ.out.2];rintro e w5 ⟨rfl,hb5⟩;have HS5:Hid (zG s p A p A w w5):=HS4.out.later (by(with_reducible repeat first|exact Below.refl _ _|refine zc ?_ _|refine zd ?_|refine bset' ?_ (by omega) _|refine zb ?_ (by assumption)));have l5:=HS5.out.at'.lt;clear g20 l4;go_wp2_with fail;have HB5:=za (And.intro HI.out.tg hT);refine(zlM s p A _ (HS5.out.at'.later (by(with_reducible repeat first|exact Below.refl _ _|refine zc ?_ _|refine zd ?_|refine bset' ?_ (by omega) _|refine zb ?_ (by assumption)))) (by have:=HI.out.q6;omega) HI.out.goods ⟨HI.out.tg,hT⟩ HI.out.mom x.pl ⟨HIN.out.1,HIN.out.2.1⟩ true [x.data] (by simp) (some ⟨_,0,none⟩) 1 (zrL (by simp)) (fun e=>by cases e) (fun _ ad ha e=>by simp only[Option.some.injEq] at ha;subst ha;have:=HS5.out.at'.offLt _ e;simp at this;omega) (fun tb=>zfa (zdE HI.out x.pl ⟨HIN.out.1,HIN.out.2.1⟩ true [x.data] (Or.inl ⟨rfl,rfl,fun s' hs'=>by rw[List.mem_singleton.1 hs'];exact HIN.out.2.2⟩)) _ 1 tb)).mono ?_;have hq2:p.nf.askQ x.pl true [x.data]=(t,q):=HQ.out;rw[hq2];clear hq2;rintro e w6 ⟨p',A',rfl,hs6,hn6⟩;have HS6:Hid (zG s p A p' A' w w6):=(HS5.out.later (by(with_reducible repeat first|exact Below.refl _ _|refine zc ?_ _|refine zd ?_|refine bset' ?_ (by omega) _|refine zb ?_ (by assumption)))).trans hs6;have HN6:=za hn6;clear hs6 hn6;go_wp2;go_ret;exact⟨rfl,p',A',HS6.out,HN6.out⟩
theorem zgd(s:Nat)(p:Sk)(A:Sa)(w:World)(h:zv s p A w)(hI:Inv p)(hT:p.tags≤4000000000000000000)(t:Bool)(q:Sk)(hq:p.nf.clean=(t,q)) :
  Calls Tryz.prog 23 #[.pointer (some ⟨s,0,none⟩)] w fun e w'=>e=.returned (.bool t)∧SOk s p A w w' q:=by
 cases hd:p.dead
 ·by_cases hc:zN p.hand<3∧p.wantsClean=false
  ·have e:p.nf.clean=(false,p.nf):=by
    unfold Sk.clean;exact if_pos (Or.inr hc)
   rw[e] at hq
   cases hq
   exact zpO s p A w h hI hd hc.1 hc.2
  ·exact zno s p A w h hI hT hd hc t q hq
 ·have e:p.nf.clean=(false,p.nf):=by
   unfold Sk.clean;exact if_pos (Or.inl hd)
  rw[e] at hq
  cases hq
  exact zoa s p A w h hd
theorem z9.setDead{s:Nat}{p:Sk}{A:Sa}{w:World}(h:z9 s p A w)(b:Bool):z9 s { p with dead:=b } A w where
 drv:=h.drv
 map:=h.map
 im:=h.im
 nb:=h.nb
 hand:=h.hand
 hnil:=h.hnil
 hcap:=h.hcap
 queue:=h.queue
 qnil:=h.qnil
 qcap:=h.qcap
 left:=h.left
 sv:=h.sv
 vl:=h.vl
 ll:=h.ll
 hoffX:=h.hoffX
 qoffX:=h.qoffX
 roffX:=h.roffX
 xlt:=h.xlt
theorem zv.setDead{s:Nat}{p:Sk}{A:Sa}{w:World}(h:zv s p A w)(b:Bool):zG s p A { p with dead:=b } A w (w.setCell ⟨s,29,none⟩ (.bool b)):=h.put (h.mem.setDead b) 29 _ rfl (fun _ hk=>hk) ⟨rfl,rfl,rfl,rfl⟩
theorem zqn(s:Nat)(p:Sk)(A:Sa)(w:World)(h:zv s p A w)(i:Int)(fl:Bool)(hi:i<0∨(p.dev.busy.length:Int)≤i) :
  Calls Tryz.prog 27 #[.pointer (some ⟨s,0,none⟩),.int .i64 i,.bool fl] w fun e w'=>e=.returned (zae 5)∧SOk s p A w w' p.nf:=by
 have c1:=h.cell 1 _ rfl;have hl:=h.lt;have HST:=za h;have HI:=za hi;clear h hi;go_enter Tryz.func27,Tryz.ntmps27;go_wp2_with fail;refine(zsx A.v A.b A.bm p.dev A.an A.n A.D i fl w HST.out.mem.drv HI.out).mono ?_;rintro e w1 ⟨rfl,hb1⟩;go_wp2;go_ret;exact⟨rfl,p,A,zG.same' HST.out (by(with_reducible repeat first|exact Below.refl _ _|refine zc ?_ _|refine zd ?_|refine bset' ?_ (by omega) _|refine zb ?_ (by assumption))),rfl⟩
section
variable{s:Nat}{p:Sk}{A:Sa}{w w':World}{d':Dl}{an':An}{n':Nat}{D':DataW Unit}
theorem zqt(h:zbn A.v A.b A.bm p.dev A.an A.n A.D d' an' n' D' w w'):∀k,({ A with an:=an',n:=n',D:=D' }:Sa).foot s k→A.foot s k∨w.heap.size≤k:=by
 rintro k (e|e|e)
 ·exact Or.inl (Or.inl e)
 ·exact(h.foot k e).imp (fun e=>Or.inr (Or.inl e)) id
 ·exact Or.inl (Or.inr (Or.inr e))
end
theorem zoo(s:Nat)(p:Sk)(A:Sa)(w:World)(h:zv s p A w)(hI:Inv p)(hT:p.tags≤4000000000000000000)(hA:p.ag≤1000000000)(k:Nat)(r:Rq)(hk:p.dev.busy[k]?=some r)(hf:p.f (r.tags.getD 0 0)<2) :
  Calls Tryz.prog 27 #[.pointer (some ⟨s,0,none⟩),.int .i64 k,.bool true] w fun e w'=>e=.returned (zae 0)∧SOk s p A w w' ((p.took k).again r).nf:=by
 have c1:=h.cell 1 _ rfl;have hl:=h.lt;have HST:=za h;have HV:=za (h.vreq hI hT hk);have HF:Hid (0≤p.f (r.tags.getD 0 0)∧p.f (r.tags.getD 0 0)<2):=⟨(hI.fr _).1,hf⟩
 have HN:Hid (A.n≤1000000000):=Nat.le_trans h.mem.nb hA;have HK:=za hk;clear h hI hT hA hk hf;go_enter Tryz.func27,Tryz.ntmps27;go_wp2_with fail;refine(zqE A.v A.b A.bm p.dev A.an A.n A.D k r _ _ w HST.out.mem.drv HV.out (HST.out.mem.map _) HF.out HN.out).mono ?_;rintro e w1 ⟨a',rfl,hv⟩;have HS1:=za (zv.step (f':=fun t=>if t=r.tags.getD 0 0 then p.f t+1 else p.f t) (p.ag+1) (by have:=HST.out.mem.nb;omega) HST.out hv (by
  have hm:=HST.out.mem.map.put HST.out.mem.im (r.tags.getD 0 0) (p.f (r.tags.getD 0 0)+1);intro t;have:=hm t;rw[this]
  by_cases e:t=r.tags.getD 0 0
  ·simp only[e,if_true]
  ·simp only[e,if_false]) hv.at'.map.isMap (fun q hq=>by
   have hm:q∈p.dev.busy:=by
    rcases List.mem_append.1 hq with h'|h'
    ·exact List.mem_of_mem_eraseIdx h'
    ·rw[List.mem_singleton.1 h'];exact List.mem_of_getElem? HK.out
   exact Rq.Off.step (HST.out.mem.drv.dev.reqs q hm).1 (HST.out.mem.roffX q (List.mem_append_right _ hm)) (zft hv)))
 clear hv;go_wp2;go_ret;exact⟨rfl,_,_,HS1.out.later (by(with_reducible repeat first|exact Below.refl _ _|refine zc ?_ _|refine zd ?_|refine bset' ?_ (by omega) _|refine zb ?_ (by assumption))),rfl⟩
theorem zpM(s:Nat)(p:Sk)(A:Sa)(w:World)(h:zv s p A w)(hI:Inv p)(hT:p.tags≤3999999999999999990)(hU:p.uses≤3999999999999999990)(k:Nat)(r:Rq)(hk:p.dev.busy[k]?=some r)(hf:¬p.f (r.tags.getD 0 0)<2)(hw:r.wr=true)(q:Sk)(hq:({ (p.took k).lost r with dead:=true }:Sk).nf.serve=q) :
  Calls Tryz.prog 27 #[.pointer (some ⟨s,0,none⟩),.int .i64 k,.bool true] w fun e w'=>e=.returned (zae 0)∧SOk s p A w w' q:=by
 have c1:=h.cell 1 _ rfl;have hl:=h.lt;have HST:=za h;have HV:=za (h.vreq hI (by omega) hk);have HF:Hid (2≤p.f (r.tags.getD 0 0)∧p.f (r.tags.getD 0 0)≤100):=⟨by omega,by have:=(hI.fr (r.tags.getD 0 0)).2;omega⟩
 have HIL:=za ((hI.took k).lost r true);have HQ:=za hq;have HB:=za (And.intro hT hU);have HW:=za hw;clear h hI hT hU hk hf hq;go_enter Tryz.func27,Tryz.ntmps27;go_wp2_with fail;refine(znj A.v A.b A.bm p.dev A.an A.n A.D k r _ _ w HST.out.mem.drv HV.out (HST.out.mem.map _) HF.out).mono ?_;rintro e w1 ⟨a',rfl,hv⟩;have HS1:=za (zv.step (f':=fun t=>if t=r.tags.getD 0 0 then 0 else p.f t) p.ag HST.out.mem.nb HST.out hv (HST.out.mem.map.del (r.tags.getD 0 0)) hv.at'.map.isMap (fun q hq=>by
   have hm:q∈p.dev.busy:=List.mem_of_mem_eraseIdx hq;exact Rq.Off.step (HST.out.mem.drv.dev.reqs q hm).1 (HST.out.mem.roffX q (List.mem_append_right _ hm)) (zft hv)))
 clear hv;have y29:=HS1.out.at'.cell 29 _ rfl;have x29:=HS1.out.at'.fz 29;have l1:=HS1.out.at'.lt;rw[show zaI r none 0 0 8=.agg #[.bool true,.int .i64 r.f,.int .i64 r.m,.slice r.da r.data.length r.dc,.slice r.ta r.tags.length r.tc,.int .i64 r.born,.slice none 0 0,.int .i64 8] by unfold zaI;rw[HW.out]];go_wp2_with fail;have HS2:=za (HS1.out.trans (HS1.out.at'.setDead true));refine(zcO s ({ (p.took k).lost r with dead:=true }:Sk) _ _ (HS2.out.at'.later (by(with_reducible repeat first|exact Below.refl _ _|refine zc ?_ _|refine zd ?_|refine bset' ?_ (by omega) _|refine zb ?_ (by assumption)))) HIL.out HB.out.1 HB.out.2 q HQ.out).mono ?_;rintro e w4 ⟨rfl,hok⟩;have HO:=za (SOk.trans (HS2.out.later (by(with_reducible repeat first|exact Below.refl _ _|refine zc ?_ _|refine zd ?_|refine bset' ?_ (by omega) _|refine zb ?_ (by assumption)))) hok);clear hok;go_wp2;go_ret;exact⟨rfl,HO.out⟩
theorem zpd(s:Nat)(p:Sk)(A:Sa)(w:World)(h:zv s p A w)(hI:Inv p)(hT:p.tags≤3999999999999999990)(hU:p.uses≤3999999999999999990)(k:Nat)(r:Rq)(hk:p.dev.busy[k]?=some r)(hf:¬p.f (r.tags.getD 0 0)<2)(hw:r.wr=false)(q:Sk)(hq:(((p.took k).lost r).nf.readers (zam r.f r.m) ByteArray.empty 8).serve=q) :
  Calls Tryz.prog 27 #[.pointer (some ⟨s,0,none⟩),.int .i64 k,.bool true] w fun e w'=>e=.returned (zae 0)∧SOk s p A w w' q:=by
 have c1:=h.cell 1 _ rfl;have hl:=h.lt;have HST:=za h;have HV:=za (h.vreq hI (by omega) hk);have HF:Hid (2≤p.f (r.tags.getD 0 0)∧p.f (r.tags.getD 0 0)≤100):=⟨by omega,by have:=(hI.fr (r.tags.getD 0 0)).2;omega⟩
 have HIL:=za ((hI.took k).lost' r);have HQ:=za hq;have HB:=za (And.intro hT hU);have HW:=za hw;clear h hI hT hU hk hf hq;go_enter Tryz.func27,Tryz.ntmps27;go_wp2_with fail;refine(znj A.v A.b A.bm p.dev A.an A.n A.D k r _ _ w HST.out.mem.drv HV.out (HST.out.mem.map _) HF.out).mono ?_;rintro e w1 ⟨a',rfl,hv⟩;have HS1:=za (zv.step (f':=fun t=>if t=r.tags.getD 0 0 then 0 else p.f t) p.ag HST.out.mem.nb HST.out hv (HST.out.mem.map.del (r.tags.getD 0 0)) hv.at'.map.isMap (fun q hq=>by
   have hm:q∈p.dev.busy:=List.mem_of_mem_eraseIdx hq;exact Rq.Off.step (HST.out.mem.drv.dev.reqs q hm).1 (HST.out.mem.roffX q (List.mem_append_right _ hm)) (zft hv)))
 clear hv;have l1:=HS1.out.at'.lt;rw[show zaI r none 0 0 8=.agg #[.bool false,.int .i64 r.f,.int .i64 r.m,.slice r.da r.data.length r.dc,.slice r.ta r.tags.length r.tc,.int .i64 r.born,.slice none 0 0,.int .i64 8] by unfold zaI;rw[HW.out]];go_wp2_with fail;refine(zfr s ((p.took k).lost r) _ _ (HS1.out.at'.later (by(with_reducible repeat first|exact Below.refl _ _|refine zc ?_ _|refine zd ?_|refine bset' ?_ (by omega) _|refine zb ?_ (by assumption)))) HIL.out r.f r.m ByteArray.empty 8 _ rfl).mono ?_;rintro e w2 ⟨rfl,p2,A2,hs2,hn2⟩;have HS2:Hid (zG s p A p2 A2 w w2):=(HS1.out.later (by(with_reducible repeat first|exact Below.refl _ _|refine zc ?_ _|refine zd ?_|refine bset' ?_ (by omega) _|refine zb ?_ (by assumption)))).trans hs2;have HI2:Hid (Inv p2):=by
  have:=HIL.out.nf.readers (zam r.f r.m) ByteArray.empty 8;rw[←hn2] at this;exact this.of_nf
 have HB2:Hid (p2.tags≤3999999999999999990∧p2.uses≤3999999999999999990):=by
  have e1:p2.nf.tags=p.tags:=by rw[hn2];rfl
  have e2:p2.nf.uses=p.uses:=by rw[hn2];rfl
  have:=HB.out;exact⟨e1▸this.1,e2▸this.2⟩
 have HQ2:Hid (p2.nf.serve=q):=by
  show p2.nf.serve=q;rw[hn2];exact HQ.out
 clear hs2 hn2;go_wp2_with fail;refine(zcO s p2 A2 _ HS2.out.at' HI2.out HB2.out.1 HB2.out.2 q HQ2.out).mono ?_;rintro e w4 ⟨rfl,hok⟩;have HO:=za (SOk.trans HS2.out hok);clear hok;go_wp2;go_ret;exact⟨rfl,HO.out⟩
theorem zr3(s:Nat)(p:Sk)(A:Sa)(w:World)(h:zv s p A w)(hI:Inv p)(hS:zar p.dev)(hT:p.tags≤3999999999999999980)(hU:p.uses≤3999999999999999980)(k:Nat)(r:Rq)(hk:p.dev.busy[k]?=some r)(q:Sk)(hq:(((p.took k).did r).nf.wentWell r (zX p.dev r)).serve=q) :
  Calls Tryz.prog 27 #[.pointer (some ⟨s,0,none⟩),.int .i64 k,.bool false] w fun e w'=>e=.returned (zae 0)∧SOk s p A w w' q:=by
 have c1:=h.cell 1 _ rfl;have hl:=h.lt;have HST:=za h;have hmem:r∈p.dev.busy:=List.mem_of_getElem? hk;have HG:=za (hI.good r (List.mem_append_right _ hmem));have HV:=za (h.vreq hI (by omega) hk);have HI1:=za ((hI.took k).did r);have HQ:=za hq;have HB:=za (And.intro hT hU);have HSH:=za (zbN hS r);have HAT:=za (h.mem.drv.dev.reqs r hmem).1;have HOF:=za (h.mem.roff r (List.mem_append_right _ hmem));clear h hI hT hU hk hq hmem hS;go_enter Tryz.func27,Tryz.ntmps27;go_wp2_with fail;refine(vg_ok A.v A.b A.bm p.dev A.an A.n A.D k r _ w HST.out.mem.drv HV.out HG.out).mono ?_;rintro e w1 ⟨a',xa,xc,xs,rfl,hxs,hx1,hx2,hv⟩;have HXS:=za hxs.out;have HX1:=za hx1;have HX2:=za hx2;have HFT:=za (zqt (s:=s) hv);have HR1:Hid (r.At w1):=HAT.out.frame ⟨fun he ad ha e=>HOF.out.1 he ad ha (Or.inr (Or.inl e)),fun he ad ha e=>HOF.out.2 he ad ha (Or.inr (Or.inl e))⟩ hv.only;have HRO:Hid (r.Off (({ A with an:=a',n:=A.n,D:=A.D.del (.int .i64 (r.tags.getD 0 0)) }:Sa).foot s)):=Rq.Off.step HAT.out HOF.out HFT.out;have HXO:Hid (∀ad,xa=some ad→¬({ A with an:=a',n:=A.n,D:=A.D.del (.int .i64 (r.tags.getD 0 0)) }:Sa).foot s ad.block):=by
  rintro ad had (e|e|⟨i,hi,q',hq',e⟩)
  ·have:=(HX2.out ad had).1;have:=HST.out.lt;omega
  ·exact(HX2.out ad had).2 e
  ·have:=(HX2.out ad had).1;have:=HST.out.mem.lrow hi hq';omega
 have HS1:=za (zv.step (f':=fun t=>if t=r.tags.getD 0 0 then 0 else p.f t) p.ag HST.out.mem.nb HST.out hv (HST.out.mem.map.del (r.tags.getD 0 0)) hv.at'.map.isMap (fun q hq=>by
   rw[Dl.did_busy] at hq;have hm:q∈p.dev.busy:=List.mem_of_mem_eraseIdx hq;exact Rq.Off.step (HST.out.mem.drv.dev.reqs q hm).1 (HST.out.mem.roffX q (List.mem_append_right _ hm)) (zft hv)))
 have l1:=HS1.out.at'.lt;have HWW:Hid (∀W,Below w1.heap.size w1 W→Calls Tryz.prog 63 #[.pointer (some ⟨s,0,none⟩),zaI r xa xs.length xc 0] W fun e w'=>e=.returned (.tuple #[])∧SOk s ((p.took k).did r) { A with an:=a',n:=A.n,D:=A.D.del (.int .i64 (r.tags.getD 0 0)) } W w' (((p.took k).did r).nf.wentWell r (zX p.dev r))):=by
  intro W hW
  cases hw:r.wr
  ·refine zl1 s ((p.took k).did r) _ W (HS1.out.at'.later hW) HI1.out r (by have:=HB.out;show p.uses≤_;omega) HG.out hw xa xc xs (HX1.out.later hW) (fun _ ad ha=>HXO.out ad ha) ?_ ?_ _ (by rw[HXS.out])
   ·rw[HXS.out];unfold zX;rw[hw];exact zeh _ _ _
   ·rw[HXS.out];exact HSH.out
  ·exact zmI s ((p.took k).did r) _ W (HS1.out.at'.later hW) HI1.out r HG.out hw (HR1.out.later hW).data HRO.out.1 xa xs.length xc (zX p.dev r) HSH.out _ rfl
 clear hxs hx1 hx2 hv;generalize hn:xs.length=n at *;go_wp2_with fail;refine(HWW.out _ (by(with_reducible repeat first|exact Below.refl _ _|refine zc ?_ _|refine zd ?_|refine bset' ?_ (by omega) _|refine zb ?_ (by assumption)))).mono ?_;rintro e w2 ⟨rfl,p2,A2,hs2,hn2⟩;have HS2:Hid (zG s p A p2 A2 w w2):=(HS1.out.later (by(with_reducible repeat first|exact Below.refl _ _|refine zc ?_ _|refine zd ?_|refine bset' ?_ (by omega) _|refine zb ?_ (by assumption)))).trans hs2;have hmil:=zcI ((p.took k).did r).nf r (zX p.dev r) r.m.toNat;have HI2:Hid (Inv p2):=by
  have:=HI1.out.nf.wentTo r HG.out (zX p.dev r) HSH.out r.m.toNat (Nat.le_refl _);rw[show((p.took k).did r).nf.wentTo r (zX p.dev r) r.m.toNat=p2.nf from hn2.symm] at this;exact this.of_nf
 have HB2:Hid (p2.tags≤3999999999999999990∧p2.uses≤3999999999999999990):=by
  have e0:((p.took k).did r).nf.wentTo r (zX p.dev r) r.m.toNat=p2.nf:=hn2.symm;rw[e0] at hmil;have e1:p2.tags≤p.tags+r.m.toNat:=hmil.tags;have e2:p2.uses≤p.uses+r.m.toNat:=hmil.uses;have:=HB.out;have:=HG.out.bds;exact⟨by omega,by omega⟩
 have HQ2:Hid (p2.nf.serve=q):=by
  show p2.nf.serve=q;rw[hn2];exact HQ.out
 clear hs2 hn2 hmil;go_wp2_with fail;refine(zcO s p2 A2 _ HS2.out.at' HI2.out HB2.out.1 HB2.out.2 q HQ2.out).mono ?_;rintro e w4 ⟨rfl,hok⟩;have HO:=za (SOk.trans HS2.out hok);clear hok;go_wp2;go_ret;exact⟨rfl,HO.out⟩
theorem zhG(s:Nat)(p:Sk)(A:Sa)(w:World)(h:zv s p A w)(hI:Inv p)(hS:zar p.dev)(hT:p.tags≤3999999999999999980)(hU:p.uses≤3999999999999999980)(hA:p.ag≤1000000000)(i:Int)(fl:Bool)(n:Int)(q:Sk)(hq:p.nf.end' i fl=(n,q)) :
  Calls Tryz.prog 27 #[.pointer (some ⟨s,0,none⟩),.int .i64 i,.bool fl] w fun e w'=>e=.returned (zae n)∧SOk s p A w w' q:=by
 by_cases hi:i<0∨(p.dev.busy.length:Int)≤i
 ·rw[zip hi] at hq
  cases hq
  exact zqn s p A w h i fl hi
 ·obtain⟨k,rfl⟩:∃k:Nat,i=k:=⟨i.toNat,by omega⟩
  have hk:k<p.dev.busy.length:=by omega
  have hk':=List.getElem?_eq_getElem hk
  cases fl
  ·rw[zjH hk'] at hq;simp only[Prod.mk.injEq] at hq;obtain⟨rfl,hq⟩:=hq;exact zr3 s p A w h hI hS hT hU k _ hk' q hq
  ·by_cases hf:p.f (p.dev.busy[k].tags.getD 0 0)<2
   ·rw[zgu hk' hf] at hq
    cases hq
    exact zoo s p A w h hI (by omega) hA k _ hk' hf
   ·cases hw:p.dev.busy[k].wr
    ·rw[zhf hk' hf hw] at hq;simp only[Prod.mk.injEq] at hq;obtain⟨rfl,hq⟩:=hq;exact zpd s p A w h hI (by omega) (by omega) k _ hk' hf hw q hq
    ·rw[zht hk' hf hw] at hq;simp only[Prod.mk.injEq] at hq;obtain⟨rfl,hq⟩:=hq;exact zpM s p A w h hI (by omega) (by omega) k _ hk' hf hw q hq
def Own(W:World)(s b:Nat)(q:Sk)(wr:World):Prop:=∃p A,zv s p A wr∧p.nf=q∧A.b=b∧(∀k,A.foot s k→W.heap.size≤k)∧Below W.heap.size W wr
section
variable{W wr w':World}{s b:Nat}{q q':Sk}
theorem Own.bel(h:Own W s b q wr):Below W.heap.size W wr:=by obtain⟨_,_,_,_,_,_,h⟩:=h;exact h
theorem Own.later(h:Own W s b q wr)(hb:Below wr.heap.size wr w'):Own W s b q w':=by
 obtain⟨p,A,h1,h2,h3,h4,h5⟩:=h;exact⟨p,A,h1.later hb,h2,h3,h4,zb h5 hb⟩
theorem Own.of{p:Sk}{A:Sa}(h3:A.b=b)(h4:∀k,A.foot s k→W.heap.size≤k)(h5:Below W.heap.size W wr)(h:SOk s p A wr w' q'):Own W s b q' w':=by
 obtain⟨p',A',hs,hn⟩:=h;exact⟨p',A',hs.at',hn,hs.same.1.trans h3,fun k hk=>(hs.foot k hk).elim (h4 k) (fun h'=>Nat.le_trans h5.size h'),h5.trans (hs.only.below h5.size h4)⟩
theorem Own.lt(h:Own W s b q wr):W.heap.size≤s∧s<wr.heap.size:=by
 obtain⟨p,A,h1,h2,h3,h4,h5⟩:=h;exact⟨h4 s (Or.inl rfl),h1.lt⟩
end
section
variable(W w:World)(s b:Nat)(q:Sk)(n:Nat)
theorem zjO(h:Own W s b q w)(c:Int)(t:Bool)(ht:q.waits c=t):Calls Tryz.prog 33 #[.pointer (some ⟨s,0,none⟩),.int .i64 c] w fun e w'=>e=.returned (.bool t)∧w'=w:=by
 obtain⟨p,A,h1,rfl,_⟩:=h;exact zcT s p A c w h1 t ht
theorem zr5(h:Own W s b q w)(i:Nat)(hi:i<3):Calls Tryz.prog 16 #[.pointer (some ⟨s,0,none⟩),.int .i64 i] w fun e w'=>e=.returned (.tuple #[.string (q.client i).got,zae (q.client i).err])∧Below w.heap.size w w':=by
 obtain⟨p,A,h1,rfl,_⟩:=h;exact zpe s p A i hi w h1
theorem zpl(h:Own W s b q w)(k:Nat)(hk:zN q.hand=k):Calls Tryz.prog 18 #[.pointer (some ⟨s,0,none⟩)] w fun e w'=>e=.returned (.int .i64 k)∧Below w.heap.size w w':=by
 obtain⟨p,A,h1,rfl,_⟩:=h;exact zb9 s p A w h1 k hk
theorem zj1(h:Own W s b q w)(h6:q.queue.length≤1000):Calls Tryz.prog 38 #[.pointer (some ⟨s,0,none⟩)] w fun e w'=>∃a' c' l,e=.returned (.slice a' q.queue.length c')∧zs w' a' l∧l.map Rq.nf=q.queue∧(a'=none→c'=0)∧Below w.heap.size w w':=by
 obtain⟨p,A,h1,rfl,_⟩:=h;have e:p.nf.queue.length=p.queue.length:=List.length_map _;rw[e] at h6 ⊢;refine(zf2 s p A w h1 h6).mono ?_;rintro x w' ⟨a',c',rfl,hR,hn,hb⟩;exact⟨a',c',p.queue,rfl,hR,rfl,hn,hb⟩
theorem zrG(h:Own W s b q w):Calls Tryz.prog 39 #[.pointer (some ⟨s,0,none⟩)] w fun e w'=>∃a' c' l,e=.returned (.slice a' q.dev.busy.length c')∧zs w' a' l∧l.map Rq.nf=q.dev.busy∧(a'=none→c'=0)∧Below w.heap.size w w':=by
 obtain⟨p,A,h1,rfl,_⟩:=h;have e:p.nf.dev.busy.length=p.dev.busy.length:=List.length_map _;rw[e];refine(zgF s p A w h1).mono ?_;rintro x w' ⟨a',c',rfl,hR,hn,hb⟩;exact⟨a',c',p.dev.busy,rfl,hR,rfl,hn,hb⟩
theorem zja(h:Own W s b q w)(hf:Fit n q)(hn:n≤1000000)(c kind pl:Int)(data:ByteArray)(x:Int)(q':Sk)(hq:q.ask c kind pl data=(x,q')):Calls Tryz.prog 15 #[.pointer (some ⟨s,0,none⟩),.int .i64 c,.int .i64 kind,.int .i64 pl,.string data] w fun e w'=>e=.returned (zae x)∧Own W s b q' w':=by
 obtain⟨p,A,h1,rfl,h3,h4,h5⟩:=h;have hf':=hf.of_nf;refine(znh s p A w h1 hf'.inv (by have:=hf'.tags;omega) (by have:=hf'.uses;omega) c kind pl data x q' hq).mono ?_;rintro e w' ⟨he,hok⟩;exact⟨he,Own.of h3 h4 h5 hok⟩
theorem zro(h:Own W s b q w)(hf:Fit n q)(hn:n≤1000000)(q':Sk)(hq:q.tick=q'):Calls Tryz.prog 21 #[.pointer (some ⟨s,0,none⟩)] w fun e w'=>e=.returned (.tuple #[])∧Own W s b q' w':=by
 obtain⟨p,A,h1,rfl,h3,h4,h5⟩:=h;have hf':=hf.of_nf;refine(zhE s p A w h1 hf'.inv (by have:=hf'.tags;omega) (by have:=hf'.uses;omega) q' hq).mono ?_;rintro e w' ⟨he,hok⟩;exact⟨he,Own.of h3 h4 h5 hok⟩
theorem zo1(h:Own W s b q w)(hf:Fit n q)(hn:n≤1000000)(t:Bool)(q':Sk)(hq:q.clean=(t,q')):Calls Tryz.prog 23 #[.pointer (some ⟨s,0,none⟩)] w fun e w'=>e=.returned (.bool t)∧Own W s b q' w':=by
 obtain⟨p,A,h1,rfl,h3,h4,h5⟩:=h;have hf':=hf.of_nf;refine(zgd s p A w h1 hf'.inv (by have:=hf'.tags;omega) t q' hq).mono ?_;rintro e w' ⟨he,hok⟩;exact⟨he,Own.of h3 h4 h5 hok⟩
theorem zgR(h:Own W s b q w)(hf:Fit n q)(t:Bool)(q':Sk)(hq:q.dispatch=(t,q')):Calls Tryz.prog 25 #[.pointer (some ⟨s,0,none⟩)] w fun e w'=>e=.returned (.bool t)∧Own W s b q' w':=by
 obtain⟨p,A,h1,rfl,h3,h4,h5⟩:=h;have hf':=hf.of_nf;refine(zeg s p A w h1 hf'.inv t q' hq).mono ?_;rintro e w' ⟨he,hok⟩;exact⟨he,Own.of h3 h4 h5 hok⟩
theorem zsr(h:Own W s b q w)(hf:Fit n q)(hn:n≤1000000)(i:Int)(fl:Bool)(x:Int)(q':Sk)(hq:q.end' i fl=(x,q')):Calls Tryz.prog 27 #[.pointer (some ⟨s,0,none⟩),.int .i64 i,.bool fl] w fun e w'=>e=.returned (zae x)∧Own W s b q' w':=by
 obtain⟨p,A,h1,rfl,h3,h4,h5⟩:=h;have hf':=hf.of_nf;refine(zhG s p A w h1 hf'.inv hf'.short (by have:=hf'.tags;omega) (by have:=hf'.uses;omega) (by have:=hf'.ag;omega) i fl x q' hq).mono ?_;rintro e w' ⟨he,hok⟩;exact⟨he,Own.of h3 h4 h5 hok⟩
end
def sa0(b v bm:Nat):Sa:=⟨b,v,bm,an0,0,.map [],fun _=>none,fun _=>0,none,0,none,0,fun _=>False⟩
theorem zf4(W:World)(b:Nat)(w:World)(h:zM b d0 an0 w)(hb:W.heap.size≤b)(hB:Below W.heap.size W w) :
  Calls Tryz.prog 7 #[.pointer (some ⟨b,0,none⟩)] w fun e w'=>∃s,e=.returned (.pointer (some ⟨s,0,none⟩))∧Own W s b sk0 w':=by
 have HD:=za h;have HB:=za (And.intro hb hB);clear h hb hB;have hzv:∀w',Sem.run Tryz.prog (zeroValue 60) w'=.ok (.agg (([Value.pointer none,Value.pointer none]:List Value)++(zaZ cl0 none 0++(zaZ cl0 none 0++(zaZ cl0 none 0++sk0.tail (sa0 0 0 0))))).toArray) w':=fun _=>rfl
 go_enter Tryz.func7,Tryz.ntmps7;go_wp2_with fail;refine(zrb b d0 an0 w HD.out).mono ?_;rintro e w1 ⟨rfl,hv,hb1⟩;have HV:=za hv;have HB1:=za hb1;clear hv hb1;go_wp2;go_ret;have hb2:=zn w1 (.cells ((Value.pointer (some ⟨b,0,none⟩)::Value.pointer (some ⟨w.heap.size+1,0,none⟩)::(zaZ cl0 none 0++(zaZ cl0 none 0++(zaZ cl0 none 0++sk0.tail (sa0 0 0 0))))).toArray) 60);have hvl:=zz HV.out.blk;refine⟨w1.heap.size,rfl,sk0,sa0 b (w.heap.size+1) w.heap.size,⟨heap_alloc_new _ _,?_⟩,rfl,rfl,?_,zb (zb HB.out.2 HB1.out) hb2⟩
 ·exact {
   drv:=HV.out.later hb2
   map:=zjn
   im:=HV.out.map.isMap
   nb:=Nat.le_refl 0
   hand:=⟨Or.inl rfl,by show 0≤_;omega⟩
   hnil:=fun _=>rfl
   hcap:=Nat.le_refl 0
   queue:=⟨Or.inl rfl,(fun r hr=>by cases hr),by show 0≤_;omega⟩
   qnil:=fun _=>rfl
   qcap:=Nat.le_refl 0
   left:=fun i hi=>by
    have e:(sk0.client i).left=[]:=by
     match i,hi with
     |0,_=>rfl
     |1,_=>rfl
     |2,_=>rfl
    rw[e];exact World.ownsRow_nil _ _ _ _
   sv:=⟨fun e=>by have:=HV.out.footLt _ e;omega,fun(e:w1.heap.size=w.heap.size+1)=>by omega⟩
   vl:=fun i _ q' hq'=>by cases hq'
   ll:=fun i j _ _ _ q' _ hq'=>by cases hq'
   hoffX:=fun hne=>absurd rfl hne
   qoffX:=fun hne=>absurd rfl hne
   roffX:=fun r hr=>(by cases hr)
   xlt:=fun _ e=>e.elim }
 ·rintro k (rfl|(rfl|e)|⟨i,_,q',hq',_⟩)
  ·exact Nat.le_trans HB.out.2.size HB1.out.size
  ·exact HB.out.2.size
  ·rcases e with rfl|⟨_,h',_⟩|⟨_,h',_⟩
   ·exact HB.out.1
   ·cases h'
   ·cases h'
  ·cases hq'
theorem zjz{q:Sk}(h:∀i:Nat,i<3→q.waits (i:Int)=false):q.quiet=(q.queue.isEmpty&&q.dev.busy.isEmpty):=by
 have h0:q.waits 0=false:=h 0 (by omega);have h1:q.waits 1=false:=h 1 (by omega);have h2:q.waits 2=false:=h 2 (by omega);unfold Sk.quiet;rw[h0,h1,h2];rfl
theorem zjT{q:Sk}{i:Nat}(hi:i<3)(h:q.waits (i:Int)=true):q.quiet=false:=by
 cases e:q.quiet
 ·rfl
 ·have:=((zqd q).1 e).1 i hi;exact absurd this ((zeV q i hi).1 h)
theorem zd3{α:Type}(l:List α):l.isEmpty=((l.length:Int)==0):=by
 cases l with
 |nil=>rfl
 |cons x l=>symm;rw[beq_eq_false_iff_ne.2];rfl;rw[List.length_cons];omega
theorem zd7(W w:World)(s b:Nat)(q:Sk)(h:Own W s b q w)(h6:q.queue.length≤1000)(t:Bool)(ht:q.quiet=t) :
  Calls Tryz.prog 13 #[.pointer (some ⟨s,0,none⟩)] w fun e w'=>e=.returned (.bool t)∧Below w.heap.size w w':=by
 have HO:=za h;have H6:=za h6;have HT:=za ht;clear h h6 ht;go_enter Tryz.func13,Tryz.ntmps13;go_wp2
 go_loopw[4] (fun i wr=>∃k:Nat,k≤3∧i=.int .i64 k∧(∀j:Nat,j<k→q.waits (j:Int)=false)∧Below w.heap.size w wr) (fun i _=>3-(intOf i).toNat)
 case atStart=>exact⟨0,by omega,rfl,fun j hj=>absurd hj (Nat.not_lt_zero _),Below.refl _ _⟩
 case round =>
  obtain⟨k,hk,rfl,hno,hbr⟩:=hrel;have HBR:=za hbr;have HOR:=za (HO.out.later hbr);clear hbr;have HN:=za hno;clear hno
  by_cases hlt:k<3
  ·have hlt':(k:Int)<3:=by omega
   cases hwt:q.waits (k:Int)
   ·have HW:=za hwt;clear hwt;go_wp2_with fail;refine(zjO W wr s b q HOR.out k false HW.out).mono ?_;rintro e w1 ⟨rfl,rfl⟩;go_wp2;go_roundw
    case rel=>exact⟨k+1,by omega,by go_num,fun j hj=>by by_cases e:j=k;(subst e;exact HW.out);exact HN.out j (by omega),HBR.out⟩
    case measure=>simp[intOf];omega
   ·have HW:=za hwt;have HF:Hid (false=t):=(zjT hlt hwt).symm.trans HT.out;clear hwt;go_wp2_with fail;refine(zjO W wr s b q HOR.out k true HW.out).mono ?_;rintro e w1 ⟨rfl,rfl⟩;go_wp2;go_ret;exact⟨zad HF.out,HBR.out⟩
  ·obtain rfl:k=3:=by omega
   have HE:Hid ((q.queue.isEmpty&&q.dev.busy.isEmpty)=t):=(zjz (fun i hi=>HN.out i hi)).symm.trans HT.out
   cases hq:q.queue.isEmpty
   ·have HF:Hid (false=t):=by have:=HE.out;rw[hq] at this;exact this
    have hq2:((q.queue.length:Int)==0)=false:=(zd3 _).symm.trans hq;have hq3:¬(q.queue.length:Int)=0:=beq_eq_false_iff_ne.1 hq2;have hq4:¬q.queue.length=0:=by omega
    clear hq;go_wp2_with fail;refine(zj1 W wr s b q HOR.out H6.out).mono ?_;rintro e w1 ⟨a',c',l,rfl,-,-,-,hb1⟩;generalize q.queue.length=n at *;go_wp2;go_ret;exact⟨zad HF.out,zb HBR.out hb1⟩
   ·have HF:Hid (q.dev.busy.isEmpty=t):=by have:=HE.out;rw[hq] at this;exact this
    have hq2:q.queue=[]:=List.isEmpty_iff.1 hq;have HQL:Hid (q.queue.length=0):=by show q.queue.length=0;rw[hq2];rfl
    clear hq hq2;go_wp2_with fail;refine(zj1 W wr s b q HOR.out H6.out).mono ?_;rw[HQL.out];rintro e w1 ⟨a',c',l,rfl,-,-,-,hb1⟩;go_wp2_with fail;refine(zrG W w1 s b q (HOR.out.later hb1)).mono ?_;rintro e w2 ⟨a2,c2,l2,rfl,-,-,-,hb2⟩;have HF2:Hid (((q.dev.busy.length:Int)==0)=t):=(zd3 _).symm.trans HF.out;generalize q.dev.busy.length=n at *;go_wp2;go_ret;exact⟨zad HF2.out,zb HBR.out (zb hb1 hb2)⟩
end Go.Proofs.YtlhgjplipgandaaGreat
