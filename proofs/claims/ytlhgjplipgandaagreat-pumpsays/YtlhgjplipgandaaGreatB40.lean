/- Joined texts: Pump2, RPump, RAsk1. -/
import Derived.Test.YtlhgjplipgandaaGreatB39
set_option maxRecDepth 100000
set_option maxHeartbeats 8000000
set_option linter.unusedSimpArgs false
namespace Go.Proofs.YtlhgjplipgandaaGreat
open Go.RowKit Go.BigFrame Go.Maps
attribute [local go_sem] ze.cell ze.frozen
def zlm:Option Value→Nat
 |some (.slice _ n _)=>n
 |_=>0
def zfw(w:World)(b:Nat):Nat:=zlm (w.cell? ⟨b,66,none⟩)
theorem zh6{W w:World}{s b:Nat}{q:Sk}(h:Own W s b q w):zfw w b=q.dev.busy.length:=by
 obtain⟨p,A,h1,rfl,rfl,_⟩:=h;unfold zfw;rw[h1.mem.drv.dev.c66];exact(List.length_map _).symm
theorem zek{q:Sk}(hI:Inv q)(h:q.dispatch.1=true):q.dispatch.2.dev.busy.length=q.dev.busy.length+1:=by
 rcases zbE hI with⟨_,e⟩|⟨i,hi,T,_,_,_,_,e⟩
 ·rw[e] at h;cases h
 ·rw[e];simp
theorem zpD(W w:World)(s b:Nat)(q:Sk)(n:Nat)(h:Own W s b q w)(hf:Fit n q)(hn:n≤900000)(q':Sk)(hq:q.round=q') :
  Calls Tryz.prog 29 #[.pointer (some ⟨s,0,none⟩)] w fun e w'=>e=.returned (.tuple #[])∧Own W s b q' w':=by
 have HO:=za h;have HF:=za hf;have HQ:=za hq;clear h hf hq;go_enter Tryz.func29,Tryz.ntmps29;go_wp2_with fail;refine(zro W w s b q n HO.out HF.out (by omega) _ rfl).mono ?_;rintro e w1 ⟨rfl,h1⟩;have HO1:=za h1;clear h1;go_wp2_with fail;refine(zo1 W w1 s b q.tick (n+3) HO1.out HF.out.tick (by omega) q.tick.clean.1 q.tick.clean.2 rfl).mono ?_;rintro e w2 ⟨rfl,h2⟩;have HO2:=za h2;have HF2:=za HF.out.tick.clean;have HQ2:Hid (((q.tick.clean.2.dispatches 3).end' 0 false).2=q'):=HQ.out;clear h2 HQ HO1;generalize q.tick.clean.1=t at *;generalize q.tick.clean.2=q2 at *;go_wp2
 go_loopw[] (fun wr=>∃(j:Nat) (r:Sk),Own W s b r wr∧Fit (n+3+1) r∧r.dispatches j=q2.dispatches 3∧3≤r.dev.busy.length+j) (fun wr=>3-zfw wr b)
 case atStart=>exact⟨3,q2,HO2.out,HF2.out,rfl,by omega⟩
 case round =>
  obtain⟨j,r,ho,hfr,hd,hj⟩:=hrel;have HOR:=za ho;have HFR:=za hfr;have HD:=za hd;have hb2:=hfr.inv.b2;obtain⟨i,rfl⟩:∃i,j=i+1:=⟨j-1,by omega⟩
  have HJ:=za hj;have HB2:=za hb2;clear ho hfr hd hj hb2
  cases ht:r.dispatch.1
  ·have HE:Hid (r=q2.dispatches 3):=by
    have:=HD.out;unfold Sk.dispatches at this;rw[ht,if_neg Bool.false_ne_true] at this;exact this
   have HS:Hid (r.dispatch=(false,r)):=by
    rcases zbE HFR.out.inv with⟨_,e⟩|⟨_,_,_,_,_,_,_,e⟩
    ·exact e
    ·rw[e] at ht;cases ht
   clear ht;go_wp2_with fail;refine(zgR W wr s b r _ HOR.out HFR.out false r HS.out).mono ?_;rintro e w3 ⟨rfl,h3⟩;have HO3:=za h3;clear h3;go_wp2_with fail;refine(zsr W w3 s b r _ HO3.out HFR.out (by omega) 0 false (r.end' 0 false).1 q' (by rw[Prod.ext_iff];exact⟨rfl,by show(r.end' 0 false).2=q';rw[HE.out];exact HQ2.out⟩)).mono ?_;generalize (r.end' 0 false).1=x;rintro e w4 ⟨rfl,h4⟩;generalize zae x=ev;go_wp2;go_end0;exact⟨rfl,h4⟩
  ·have HE:Hid (r.dispatch.2.dispatches i=q2.dispatches 3):=by
    have:=HD.out;unfold Sk.dispatches at this;rw[ht,if_pos rfl] at this;exact this
   have HM:=za (zek HFR.out.inv ht);have HT:=za ht;clear ht;go_wp2_with fail;refine(zgR W wr s b r _ HOR.out HFR.out true r.dispatch.2 (by rw[Prod.ext_iff];exact⟨HT.out,rfl⟩)).mono ?_;rintro e w3 ⟨rfl,h3⟩;have HO3:=za h3;clear h3;go_wp2;go_roundw
   case rel=>exact⟨i,r.dispatch.2,HO3.out,HFR.out.dispatch,HE.out,by have:=HM.out;have:=HJ.out;omega⟩
   case measure=>rw[zh6 HOR.out,zh6 HO3.out];have:=HM.out;have:=HB2.out;omega
theorem zox(W w:World)(s b:Nat)(q:Sk)(n m:Nat)(h:Own W s b q w)(hf:Fit n q)(hn:n+11*m≤900000)(x:Nat)(q':Sk)(hq:q.settle m=(x,q'))(t:Bool)(ht:q'.quiet=t) :
  Calls Tryz.prog 31 #[.pointer (some ⟨s,0,none⟩),.int .i64 m] w fun e w'=>e=.returned (.tuple #[.int .i64 x,.bool t])∧Own W s b q' w':=by
 have HO:=za h;have HF:=za hf;have HQ:=za hq;have HT:=za ht;clear h hf hq ht;go_enter Tryz.func31,Tryz.ntmps31;go_wp2
 go_loopw[6] (fun i wr=>∃(k:Nat) (r:Sk),k≤m∧i=.int .i64 k∧Own W s b r wr∧Fit (n+11*k) r∧q.settle m=((r.settle (m-k)).1+k,(r.settle (m-k)).2)) (fun i _=>m-(intOf i).toNat)
 case atStart=>exact⟨0,q,by omega,rfl,HO.out,HF.out,rfl⟩
 case round =>
  obtain⟨k,r,hk,rfl,ho,hfr,hd⟩:=hrel;have HOR:=za ho;have HFR:=za hfr;have HD:=za (hd.symm.trans HQ.out);have H6:Hid (r.queue.length≤1000):=by have:=hfr.inv.q6;show r.queue.length≤1000;omega
  clear ho hfr hd
  by_cases hlt:k<m
  ·have hlt':(k:Int)<(m:Int):=by omega
   obtain⟨i,hi⟩:∃i,m-k=i+1:=⟨m-k-1,by omega⟩
   have HI:=za hi;rw[hi] at HD
   cases hqt:r.quiet
   ·have HD2:Hid (((r.round.settle i).1+(k+1),(r.round.settle i).2)=(x,q')):=by
     have:=HD.out;unfold Sk.settle at this;rw[if_neg (by rw[hqt];exact Bool.false_ne_true)] at this;show _=_;rw[←this];simp only[Prod.mk.injEq,and_true]
     omega
    have HQT:=za hqt;clear hqt hi;go_wp2_with fail;refine(zd7 W wr s b r HOR.out H6.out false HQT.out).mono ?_;rintro e w1 ⟨rfl,hb1⟩;have HO1:=za (HOR.out.later hb1);clear hb1;go_wp2_with fail;refine(zpD W w1 s b r _ HO1.out HFR.out (by omega) _ rfl).mono ?_;rintro e w2 ⟨rfl,h2⟩;have HO2:=za h2;clear h2;go_wp2;go_roundw
    case rel=>exact⟨k+1,r.round,by omega,by go_num,HO2.out,HFR.out.round.mono (by omega),by
     have e:m-(k+1)=i:=by have:=HI.out;omega
     rw[e];exact HQ.out.trans HD2.out.symm⟩
    case measure=>simp[intOf];omega
   ·have HD2:Hid (k=x∧r=q'):=by
     show k=x∧r=q';have:=HD.out;unfold Sk.settle at this;rw[if_pos hqt] at this
     simpa using this
    have HQT:=za hqt;have HQ':Hid (true=t):=by have:=HT.out;rw[←HD2.out.2,hqt] at this;exact this
    clear hqt hi;go_wp2_with fail;refine(zd7 W wr s b r HOR.out H6.out true HQT.out).mono ?_;rintro e w1 ⟨rfl,hb1⟩;have HO1:=za (HOR.out.later hb1);clear hb1;go_wp2_with fail;refine(zd7 W w1 s b r HO1.out H6.out true HQT.out).mono ?_;rintro e w2 ⟨rfl,hb2⟩;have HO2:=za (HO1.out.later hb2);clear hb2;go_wp2;refine bodyPost_ret (v:=.tuple #[.int .i64 k,.bool true]) (by simp[results,Tryz.results31,go_sem]) rfl ?_;exact⟨by rw[←HD2.out.1,HQ'.out],by rw[←HD2.out.2];exact HO2.out⟩
  ·obtain rfl:k=m:=by omega
   have HD2:Hid (k=x∧r=q'):=by
    show k=x∧r=q';have:=HD.out;rw[Nat.sub_self] at this;unfold Sk.settle at this
    simpa using this
   have HQT:Hid (r.quiet=t):=by have:=HT.out;rw[←HD2.out.2] at this;exact this
   go_wp2_with fail;refine(zd7 W wr s b r HOR.out H6.out t HQT.out).mono ?_;rintro e w1 ⟨rfl,hb1⟩;have HO1:=za (HOR.out.later hb1);clear hb1;go_wp2;refine bodyPost_ret (v:=.tuple #[.int .i64 k,.bool t]) (by simp[results,Tryz.results31,go_sem]) rfl ?_;exact⟨by rw[←HD2.out.1],by rw[←HD2.out.2];exact HO1.out⟩
section
variable{s:Nat}{p:Sk}{A:Rs}{w wr:World}{r q:Sk}{c c':Nat}
theorem KOk.then{f:Nat}{args:Array Value}{E:Ending→Prop}(h:KOk c s p A w wr r)(k:∀p' A',zH s p' A' wr→p'.nf=r→A'.cnt≤A.cnt+c→Calls Tryz.prog f args wr fun e w'=>E e∧KOk c' s p' A' wr w' q):Calls Tryz.prog f args wr fun e w'=>E e∧KOk (c+c') s p A w w' q:=by
 obtain⟨p',A',hs,hn,hc⟩:=h;refine(k p' A' hs.at' hn hc).mono ?_;rintro e w' ⟨he,hk⟩;exact⟨he,KOk.before hs hc hk (Nat.le_refl _)⟩
theorem KOk.refl(h:zH s p A w):KOk 0 s p A w w p.nf:=⟨p,A,zE.same' h (Below.refl _ _),rfl,by omega⟩
def ziW(w:World)(b:Nat):Nat:=zlm (w.cell? ⟨b,65,none⟩)
theorem ziO(h:KOk c s p A w wr r):ziW wr A.b=r.dev.busy.length:=by
 obtain⟨p',A',hs,rfl,_⟩:=h;unfold ziW;rw[←hs.same.1,hs.at'.mem.drv.dev.c65,hs.at'.mem.busy];exact(List.length_map _).symm
theorem zjL{n:Nat}(h:za7 n q):za7 (n+3) q.tick:=⟨h.fit.tick,zJ.tick h.fit.inv h.tight⟩
theorem ziF{n:Nat}(h:za7 n q):za7 (n+1) q.clean.2:=⟨h.fit.clean,zJ.clean h.fit.inv h.tight⟩
theorem zgm{n:Nat}(h:za7 n q):za7 n q.dispatch.2:=⟨h.fit.dispatch,zJ.dispatch h.fit.inv h.tight⟩
theorem zcp{n m:Nat}(h:za7 n q)(hm:n≤m):za7 m q:=⟨h.fit.mono hm,h.tight⟩
theorem zmF(m:Nat):∀{n:Nat} {q:Sk},za7 n q→za7 (n+11*m) (q.settle m).2:=by
 induction m with
 |zero=>intro n q h;exact h
 |succ m ih =>
  intro n q h;unfold Sk.settle
  split
  ·exact zcp h (by omega)
  ·exact zcp (ih h.round) (by omega)
theorem zqr{n:Nat}(h:za7 n q)(x kind pl:Int)(data:ByteArray):za7 (n+3) (q.ask x kind pl data).2:=⟨h.fit.ask x kind pl data,zJ.ask h.fit.inv h.tight x kind pl data⟩
theorem zqO{n:Nat}(h:za7 n q)(i:Int)(fl:Bool):za7 (n+7) (q.end' i fl).2:=⟨h.fit.end' i fl,zJ.end' h.fit.inv h.fit.short h.tight i fl⟩
end
theorem zix(s:Nat)(p:Sk)(A:Rs)(w:World)(h:zH s p A w)(n:Nat)(hf:za7 n p.nf)(hL:zp p.nf)(hn:n≤900000)(hc:A.cnt≤230000)(q:Sk)(hq:p.nf.round=q) :
  Calls Tryz.prog 30 #[.pointer (some ⟨s,0,none⟩)] w fun e w'=>e=.returned (.tuple #[])∧KOk 1 s p A w w' q:=by
 have HST:=za h;have HF:=za hf;have HL:=za hL;have HQ:=za hq;have HCN:=za hc;have hl:=h.lt;clear h hf hL hq hc;go_enter Tryz.func30,Tryz.ntmps30;go_wp2_with fail;refine(zjx s p A w HST.out HF.out.fit.of_nf.inv HL.out.of_nf (by have:=HF.out.fit.tags;have e:p.nf.tags=p.tags:=rfl;omega) (by have:=HF.out.fit.uses;have e:p.nf.uses=p.uses:=rfl;omega) _ rfl).mono ?_;rintro e w1 ⟨rfl,h1⟩;have HO1:=za h1;have HF1:=za (zjL HF.out);have HL1:=za HL.out.tick;clear h1;generalize hq1:p.nf.tick=q1 at *;have HQ1:=za hq1;clear hq1;go_wp2_with fail;refine(KOk.then HO1.out (c':=0) (q:=q1.clean.2) (E:=fun e=>e=.returned (.bool q1.clean.1)) (fun p' A' h' hn' _=>by subst hn';exact zhd s p' A' w1 h' HF1.out.fit.of_nf.inv (by have:=HF1.out.fit.tags;have e:p'.nf.tags=p'.tags:=rfl;omega) _ _ rfl)).mono ?_;rintro e w2 ⟨rfl,h2⟩;have HO2:=za h2;have HF2:=za (ziF HF1.out);have HL2:=za HL1.out.clean;have HQ2:Hid (((q1.clean.2.dispatches 3).end' 0 false).2=q):=by
  show((q1.clean.2.dispatches 3).end' 0 false).2=q;rw[←HQ1.out];exact HQ.out
 clear h2 HQ HO1 HQ1;generalize q1.clean.1=t at *;generalize q1.clean.2=q2 at *;go_wp2
 go_loopw[] (fun wr=>∃(j:Nat) (r:Sk),KOk 0 s p A w wr r∧za7 (n+3+1) r∧zp r∧r.dispatches j=q2.dispatches 3∧3≤r.dev.busy.length+j) (fun wr=>3-ziW wr A.b)
 case atStart=>exact⟨3,q2,HO2.out,HF2.out,HL2.out,rfl,by omega⟩
 case round =>
  obtain⟨j,r,ho,hfr,hlr,hd,hj⟩:=hrel;have HOR:=za ho;have HFR:=za hfr;have HLR:=za hlr;have HD:=za hd;have hb2:=hfr.fit.inv.b2;obtain⟨i,rfl⟩:∃i,j=i+1:=⟨j-1,by omega⟩
  have HJ:=za hj;have HB2:=za hb2;clear ho hfr hd hj hb2 hlr
  cases ht:r.dispatch.1
  ·have HE:Hid (r=q2.dispatches 3):=by
    have:=HD.out;unfold Sk.dispatches at this;rw[ht,if_neg Bool.false_ne_true] at this;exact this
   have HS:Hid (r.dispatch=(false,r)):=by
    rcases zbE HFR.out.fit.inv with⟨_,e⟩|⟨_,_,_,_,_,_,_,e⟩
    ·exact e
    ·rw[e] at ht;cases ht
   clear ht;go_wp2_with fail;refine(KOk.then HOR.out (c':=0) (q:=r) (E:=fun e=>e=.returned (.bool false)) (fun p' A' h' hn' _=>by subst hn';exact zdT s p' A' wr h' HFR.out.fit.of_nf.inv _ _ HS.out)).mono ?_;rintro e w3 ⟨rfl,h3⟩;have HO3:=za h3;clear h3;go_wp2_with fail;refine(KOk.then HO3.out (c':=1) (q:=q) (E:=fun e=>e=.returned (.int .i64 (r.end' 0 false).1)) (fun p' A' h' hn' hc'=>by subst hn';exact zkX s p' A' w3 h' _ HFR.out (by omega) (by have:=HCN.out;omega) HLR.out 0 false _ _ (by rw[Prod.ext_iff];exact⟨rfl,by show(p'.nf.end' 0 false).2=q;rw[HE.out];exact HQ2.out⟩))).mono ?_;generalize (r.end' 0 false).1=x;rintro e w4 ⟨rfl,h4⟩;go_wp2;go_end0;exact⟨rfl,h4⟩
  ·have HE:Hid (r.dispatch.2.dispatches i=q2.dispatches 3):=by
    have:=HD.out;unfold Sk.dispatches at this;rw[ht,if_pos rfl] at this;exact this
   have HM:=za (zek HFR.out.fit.inv ht);have HT:=za ht;clear ht;go_wp2_with fail;refine(KOk.then HOR.out (c':=0) (q:=r.dispatch.2) (E:=fun e=>e=.returned (.bool true)) (fun p' A' h' hn' _=>by subst hn';exact zdT s p' A' wr h' HFR.out.fit.of_nf.inv _ _ (by rw[Prod.ext_iff];exact⟨HT.out,rfl⟩))).mono ?_;rintro e w3 ⟨rfl,h3⟩;have HO3:=za h3;clear h3;go_wp2;go_roundw
   case rel=>exact⟨i,r.dispatch.2,HO3.out,zgm HFR.out,HLR.out.dispatch,HE.out,by have:=HM.out;have:=HJ.out;omega⟩
   case measure=>rw[ziO HOR.out,ziO HO3.out];have:=HM.out;have:=HB2.out;omega
theorem zmr(s:Nat)(p:Sk)(A:Rs)(w:World)(h:zH s p A w)(n m:Nat)(hf:za7 n p.nf)(hL:zp p.nf)(hn:n+11*m≤900000)(hc:A.cnt+m≤230000)(x:Nat)(q:Sk)(hq:p.nf.settle m=(x,q))(t:Bool)(ht:q.quiet=t) :
  Calls Tryz.prog 32 #[.pointer (some ⟨s,0,none⟩),.int .i64 m] w fun e w'=>e=.returned (.tuple #[.int .i64 x,.bool t])∧KOk m s p A w w' q:=by
 have HST:=za h;have HF:=za hf;have HL:=za hL;have HQ:=za hq;have HT:=za ht;have HCN:=za hc;clear h hf hL hq ht hc;go_enter Tryz.func32,Tryz.ntmps32;go_wp2
 go_loopw[6] (fun i wr=>∃(k:Nat) (r:Sk),k≤m∧i=.int .i64 k∧KOk k s p A w wr r∧za7 (n+11*k) r∧zp r∧p.nf.settle m=((r.settle (m-k)).1+k,(r.settle (m-k)).2)) (fun i _=>m-(intOf i).toNat)
 case atStart=>exact⟨0,p.nf,by omega,rfl,KOk.refl HST.out,HF.out,HL.out,rfl⟩
 case round =>
  obtain⟨k,r,hk,rfl,ho,hfr,hlr,hd⟩:=hrel;have HOR:=za ho;have HFR:=za hfr;have HLR:=za hlr;have HD:=za (hd.symm.trans HQ.out);have HOK:Hid (KOk m s p A w wr r):=by
   obtain⟨p',A',h1,h2,h3⟩:=ho;exact⟨p',A',h1,h2,by omega⟩
  have HQU:Hid (∀t',r.quiet=t'→Calls Tryz.prog 14 #[.pointer (some ⟨s,0,none⟩)] wr fun e w'=>e=.returned (.bool t')∧w'=wr):=by
   obtain⟨p',A',h1,rfl,h3⟩:=ho;exact fun t' ht'=>zij s p' A' wr h1.at' t' ht'
  clear ho hfr hd hlr
  by_cases hlt:k<m
  ·have hlt':(k:Int)<(m:Int):=by omega
   obtain⟨i,hi⟩:∃i,m-k=i+1:=⟨m-k-1,by omega⟩
   have HI:=za hi;rw[hi] at HD
   cases hqt:r.quiet
   ·have HD2:Hid (((r.round.settle i).1+(k+1),(r.round.settle i).2)=(x,q)):=by
     have:=HD.out;unfold Sk.settle at this;rw[if_neg (by rw[hqt];exact Bool.false_ne_true)] at this;show _=_;rw[←this];simp only[Prod.mk.injEq,and_true]
     omega
    have HQT:=za hqt;clear hqt hi;go_wp2_with fail;refine(HQU.out false HQT.out).mono ?_;rintro e w1 ⟨rfl,rfl⟩;go_wp2_with fail;refine(KOk.then HOR.out (c':=1) (q:=r.round) (E:=fun e=>e=.returned (.tuple #[])) (fun p' A' h' hn' hc'=>by subst hn';exact zix s p' A' w1 h' _ HFR.out HLR.out (by omega) (by have:=HCN.out;omega) _ rfl)).mono ?_;rintro e w2 ⟨rfl,h2⟩;have HO2:=za h2;clear h2;go_wp2;go_roundw
    case rel=>exact⟨k+1,r.round,by omega,by go_num,HO2.out,zcp HFR.out.round (by omega),HLR.out.round,by
     have e:m-(k+1)=i:=by have:=HI.out;omega
     rw[e];exact HQ.out.trans HD2.out.symm⟩
    case measure=>simp[intOf];omega
   ·have HD2:Hid (k=x∧r=q):=by
     show k=x∧r=q;have:=HD.out;unfold Sk.settle at this;rw[if_pos hqt] at this
     simpa using this
    have HQT:=za hqt;have HQ':Hid (true=t):=by have:=HT.out;rw[←HD2.out.2,hqt] at this;exact this
    clear hqt hi;go_wp2_with fail;refine(HQU.out true HQT.out).mono ?_;rintro e w1 ⟨rfl,rfl⟩;go_wp2_with fail;refine(HQU.out true HQT.out).mono ?_;rintro e w2 ⟨rfl,rfl⟩;go_wp2;refine bodyPost_ret (v:=.tuple #[.int .i64 k,.bool true]) (by simp[results,Tryz.results32,go_sem]) rfl ?_;exact⟨by rw[←HD2.out.1,HQ'.out],by rw[←HD2.out.2];exact HOK.out⟩
  ·obtain rfl:k=m:=by omega
   have HD2:Hid (k=x∧r=q):=by
    show k=x∧r=q;have:=HD.out;rw[Nat.sub_self] at this;unfold Sk.settle at this
    simpa using this
   have HQT:Hid (r.quiet=t):=by have:=HT.out;rw[←HD2.out.2] at this;exact this
   go_wp2_with fail;refine(HQU.out t HQT.out).mono ?_;rintro e w1 ⟨rfl,rfl⟩;go_wp2;refine bodyPost_ret (v:=.tuple #[.int .i64 k,.bool t]) (by simp[results,Tryz.results32,go_sem]) rfl ?_;exact⟨by rw[←HD2.out.1],by rw[←HD2.out.2];exact HOK.out⟩
theorem zob(s:Nat)(w:World)(c kind pl:Int)(data:ByteArray)(h:¬(0≤c∧c<3)∨¬(1≤kind∧kind≤3)) :
  Calls Tryz.prog 20 #[.pointer (some ⟨s,0,none⟩),.int .i64 c,.int .i64 kind,.int .i64 pl,.string data] w fun e w'=>e=.returned (.int .i64 3)∧w'=w:=by
 by_cases h1:c<0
 ·clear h;go_enter Tryz.func20,Tryz.ntmps20;go_wp2;go_ret;exact⟨rfl,rfl⟩
 by_cases h2:2<c
 ·clear h;go_enter Tryz.func20,Tryz.ntmps20;go_wp2;go_ret;exact⟨rfl,rfl⟩
 by_cases h3:kind<1
 ·clear h;go_enter Tryz.func20,Tryz.ntmps20;go_wp2;go_ret;exact⟨rfl,rfl⟩
 have h4:3<kind:=by omega
 clear h;go_enter Tryz.func20,Tryz.ntmps20;go_wp2;go_ret;exact⟨rfl,rfl⟩
theorem zrD(s:Nat)(w:World)(c kind pl:Int)(data:ByteArray)(hc:0≤c∧c<3)(hk:1≤kind∧kind≤3)(h:¬zag c kind pl data=0) :
  Calls Tryz.prog 20 #[.pointer (some ⟨s,0,none⟩),.int .i64 c,.int .i64 kind,.int .i64 pl,.string data] w fun e w'=>e=.returned (.int .i64 1)∧w'=w:=by
 obtain⟨c1,c2⟩:=hc;have d1:¬c<0:=by omega
 have d2:¬2<c:=by omega
 obtain⟨k1,k2⟩:=hk;have e1:¬kind<1:=by omega
 have e2:¬3<kind:=by omega
 by_cases p1:pl<0
 ·clear h;go_enter Tryz.func20,Tryz.ntmps20;go_wp2;go_ret;exact⟨rfl,rfl⟩
 by_cases p2:31<pl
 ·clear h;go_enter Tryz.func20,Tryz.ntmps20;go_wp2;go_ret;exact⟨rfl,rfl⟩
 by_cases p3:(4:Int)<(data.size:Int)
 ·clear h;go_enter Tryz.func20,Tryz.ntmps20;go_wp2;go_ret;exact⟨rfl,rfl⟩
 have hz:kind=3∧¬pl=0∨¬kind=2∧¬data.size=0:=by
  by_cases g1:kind=3∧¬pl=0
  ·exact Or.inl g1
  ·by_cases g2:¬kind=2∧¬data.size=0
   ·exact Or.inr g2
   ·exfalso
    apply h;unfold zag;rw[if_neg (by omega),if_neg (by omega),if_neg (by omega)]
 clear h;have hk3:kind=1∨kind=2∨kind=3:=by omega
 rcases hk3 with rfl|rfl|rfl
 ·have hd:data.toList.isEmpty=false:=by
   have:¬data.size=0:=by omega
   rw[ByteArray.toList_eq]
   cases data with
   |mk a =>
    cases a with
    |mk l=>cases l with
     |nil=>exact absurd rfl this
     |cons x l=>rfl
  clear hz k1 k2 e1 e2;go_enter Tryz.func20,Tryz.ntmps20;go_wp2;go_ret;exact⟨rfl,rfl⟩
 ·exfalso;omega
 ·by_cases p4:pl=0
  ·subst p4;have hd:data.toList.isEmpty=false:=by
    have:¬data.size=0:=by omega
    rw[ByteArray.toList_eq]
    cases data with
    |mk a =>
     cases a with
     |mk l=>cases l with
      |nil=>exact absurd rfl this
      |cons x l=>rfl
   clear hz k1 k2 e1 e2 p1 p2;go_enter Tryz.func20,Tryz.ntmps20;go_wp2;go_ret;exact⟨rfl,rfl⟩
  ·have p5:(pl != 0)=true:=by rw[bne_iff_ne];exact p4
   clear hz k1 k2 e1 e2;go_enter Tryz.func20,Tryz.ntmps20;go_wp2;go_ret;exact⟨rfl,rfl⟩
theorem zrQ(s:Nat)(p:Sk)(A:Rs)(w:World)(h:zH s p A w)(c kind pl:Int)(data:ByteArray)(h0:¬zag c kind pl data=0) :
  Calls Tryz.prog 20 #[.pointer (some ⟨s,0,none⟩),.int .i64 c,.int .i64 kind,.int .i64 pl,.string data] w fun e w'=>e=.returned (.int .i64 (zag c kind pl data))∧KOk 0 s p A w w' p.nf:=by
 by_cases h1:¬(0≤c∧c<3)∨¬(1≤kind∧kind≤3)
 ·have e:zag c kind pl data=3:=by unfold zag;rw[if_pos h1]
  rw[e];refine(zob s w c kind pl data h1).mono ?_;rintro e w' ⟨rfl,rfl⟩;exact⟨rfl,p,A,zE.same' h (Below.refl _ _),rfl,Nat.le_refl _⟩
 ·have e:zag c kind pl data=1:=by
   unfold zag at h0 ⊢;rw[if_neg h1] at h0 ⊢
   split
   ·rfl
   ·rename_i h2
    rw[if_neg h2] at h0
    split
    ·rfl
    ·rename_i h3
     rw[if_neg h3] at h0;exact absurd rfl h0
  have h2:0≤c∧c<3:=by omega
  have h3:1≤kind∧kind≤3:=by omega
  refine(zrD s w c kind pl data h2 h3 h0).mono ?_;rintro x w' ⟨rfl,rfl⟩;exact⟨by rw[e],p,A,zE.same' h (Below.refl _ _),rfl,Nat.le_refl _⟩
structure ziE(kind pl:Int)(data:ByteArray):Prop where
 kd:kind=1∨kind=2∨kind=3
 p0:0≤pl
 p1:pl≤31
 sz:data.size≤4
 sy:kind=3→pl=0
 em:¬kind=2→data=⟨#[]⟩
theorem zrE{c kind pl:Int}{data:ByteArray}(h:zag c kind pl data=0):(0≤c∧c<3)∧ziE kind pl data:=by
 have hz:=zcw h;obtain⟨z1,z2,z3,z4,z5,z6⟩:=hz;refine⟨z1,by omega,z3.1,z3.2,z5,z4,fun hk=>?_⟩;have:=z6 hk
 cases data with
 |mk a =>
  cases a with
  |mk l=>cases l with
   |nil=>rfl
   |cons x l=>exact absurd this (by simp[ByteArray.size])
theorem zpw(s:Nat)(p:Sk)(A:Rs)(w:World)(h:zH s p A w)(i:Nat)(hi:i<3)(kind pl:Int)(data:ByteArray)(ho:ziE kind pl data)(hb:¬(p.client i).kind=0) :
  Calls Tryz.prog 20 #[.pointer (some ⟨s,0,none⟩),.int .i64 i,.int .i64 kind,.int .i64 pl,.string data] w fun e w'=>e=.returned (.int .i64 6)∧w'=w:=by
 have c11:=(h.c11 hi).1;have hl:=h.lt;unfold zdv at c11
 cases hka:A.ka i with
 |none=>exact absurd (h.mem.idle i hi hka) hb
 |some k =>
  rw[hka] at c11;simp only[Option.map_some] at c11;obtain⟨kd,p0,p1,sz,sy,em⟩:=ho;have d0:(0:Int)≤(i:Int):=by omega
  have d3:(i:Int)<3:=by omega
  have d1:¬(i:Int)<0:=by omega
  have d2:¬2<(i:Int):=by omega
  have p2:¬pl<0:=by omega
  have p3:¬31<pl:=by omega
  have p4:¬(4:Int)<(data.size:Int):=by omega
  clear h hb hka
  rcases kd with rfl|rfl|rfl
  ·obtain rfl:=em (by decide);clear sy em sz p4;go_enter Tryz.func20,Tryz.ntmps20;go_wp2;go_ret;exact⟨rfl,rfl⟩
  ·clear sy em;go_enter Tryz.func20,Tryz.ntmps20;go_wp2;go_ret;exact⟨rfl,rfl⟩
  ·obtain rfl:=em (by decide);obtain rfl:=sy rfl;clear sy em sz p4;go_enter Tryz.func20,Tryz.ntmps20;go_wp2;go_ret;exact⟨rfl,rfl⟩
end Go.Proofs.YtlhgjplipgandaaGreat
namespace Go.Proofs.YtlhgjplipgandaaGreat
section
variable{P:Program}{ops:Array Oper}{Q:Exit→Act→World→Prop}{S:World→Prop}{d:Nat}
end
end Go.Proofs.YtlhgjplipgandaaGreat
namespace Go.Proofs.YtlhgjplipgandaaGreat
open Go.RowKit Go.BigFrame Go.Maps
attribute [local go_sem] ze.cell ze.frozen
def askL(p:Sk)(i:Nat)(kind:Int):List Int:=if kind=3 then zL p.hand else(p.client i).left
def zhN(p:Sk)(i:Nat)(kind pl:Int)(data:ByteArray):Cl:={ p.client i with kind:=kind,pl:=pl,data:=data,left:=askL p i kind }
section
variable{s:Nat}{p:Sk}{A:Rs}{w w1:World}{i:Nat}{kind pl:Int}{data:ByteArray}
theorem zlD(h:zH s p A w)(hi:i<3)(hka:A.ka i=none)(hb:Below w.heap.size w w1){a':Option Addr}{n:Nat}{L:List Int}(hblk:w1.heap[w.heap.size]?=some (.cells (zdl (zhN p i kind pl data) a' L.length n).toArray 95 (0,0)))(hk:¬kind=0)(hI:zay w1 a' L)(hn:a'=none→n=0)(hnew:∀b o,a'=some ⟨b,o,none⟩→w.heap.size+1≤b)(hL:kind=3→L=askL p i kind) :
  ∃A',zE s p A (p.asks i kind pl data) A' w (w1.setCell ⟨s,11+i,none⟩ (.pointer (some ⟨w.heap.size,0,none⟩)))∧A'.cnt=A.cnt:=by
 refine⟨_,h.asked hb hi (Nat.le_refl _) (zhN p i kind pl data) L a' n ⟨hblk,hk,hI,hn,hL⟩ (fun hne q hq=>?_) ⟨rfl,rfl⟩ hka,rfl⟩
 rcases hI.form with e|⟨b',o',e⟩
 ·exact absurd e hne
 ·rw[e] at hq;simp only[Option.some.injEq] at hq;subst hq;have:=hnew b' o' e;exact⟨by show w.heap.size≤b';omega,by show ¬b'=w.heap.size;omega⟩
theorem zrt(hI:Inv p)(ho:ziE kind pl data):Inv (p.asks i kind pl data):=hI.asks i kind pl data (by have:=ho.kd;omega) ⟨ho.p0,ho.p1⟩ ho.sz
theorem zoN(hI:Inv p)(hL:zp p):zp (p.asks i kind pl data):=hL.set i _ (zhY p hI.hand.len i (hL.client i)) rfl
end
def zkw(s:Nat)(p:Sk)(A:Rs)(w:World)(i:Nat)(kind pl:Int)(data:ByteArray)(q:Sk):Prop:=∀w1 A',zE s p A (p.asks i kind pl data) A' w w1→A'.cnt=A.cnt→Calls Tryz.prog 45 #[.pointer (some ⟨s,0,none⟩)] w1 fun e w'=>e=.returned (.tuple #[])∧KOk 0 s p A w w' q
theorem zpJ{s:Nat}{p:Sk}{A:Rs}{w:World}{i:Nat}{kind pl:Int}{data:ByteArray}(hI:Inv p)(hL:zp p)(hT:p.tags≤3999999999999999990)(hU:p.uses≤3999999999999999990)(ho:ziE kind pl data)(q:Sk)(hq:(p.asks i kind pl data).nf.serve=q):zkw s p A w i kind pl data q:=by
 intro w1 A' hs hc;refine(zcu s _ A' w1 hs.at' (zrt hI ho) (zoN hI hL) hT hU q hq).mono ?_;rintro e w' ⟨rfl,hok⟩;exact⟨rfl,KOk.before (c:=0) hs (by omega) hok (Nat.le_refl _)⟩
theorem znc(s:Nat)(p:Sk)(A:Rs)(w:World)(h:zH s p A w)(i:Nat)(hi:i<3)(kind pl:Int)(data:ByteArray)(ho:ziE kind pl data)(hk:kind=1∨kind=2)(hka:A.ka i=none)(q:Sk)(he:zkw s p A w i kind pl data q) :
  Calls Tryz.prog 20 #[.pointer (some ⟨s,0,none⟩),.int .i64 i,.int .i64 kind,.int .i64 pl,.string data] w fun e w'=>e=.returned (.int .i64 0)∧KOk 0 s p A w w' q:=by
 have c11:=(h.c11 hi).1;have f11:=(h.c11 hi).2;have hl:=h.lt;unfold zdv at c11;rw[hka] at c11;simp only[Option.map_none] at c11;have c2:=h.cell 2 _ rfl;have HST:=za h;have HE:=za he;have HKA:=za hka;have HKD:=za hk;obtain⟨kd,p0,p1,sz,sy,em⟩:=ho;have d0:(0:Int)≤(i:Int):=by omega
 have d3:(i:Int)<3:=by omega
 have d1:¬(i:Int)<0:=by omega
 have d2:¬2<(i:Int):=by omega
 have p2:¬pl<0:=by omega
 have p3:¬31<pl:=by omega
 have p4:¬(4:Int)<(data.size:Int):=by omega
 have HA0:Hid (∀w1,Below w.heap.size w w1→w1.heap[w.heap.size]?=some (.cells (zdl (zhN p i kind pl data) none 0 0).toArray 95 (0,0))→∃A',zE s p A (p.asks i kind pl data) A' w (w1.setCell ⟨s,11+i,none⟩ (.pointer (some ⟨w.heap.size,0,none⟩)))∧A'.cnt=A.cnt):=fun w1 hb hblk=>zlD h hi hka hb (a':=none) (n:=0) (L:=[]) hblk (by omega) (Or.inl rfl) (fun _=>rfl) (fun _ _ e=>by cases e) (fun e=>by omega)
 clear h he hka sy kd;generalize p.hand.length=hn at *
 rcases hk with rfl|rfl
 ·obtain rfl:=em (by decide);clear em sz p4;go_enter Tryz.func20,Tryz.ntmps20;go_wp2
  go_loopw[12] (fun x wr=>x=.int .i64 0∧wr=w.alloc (.cells (zdl (zhN p i 1 pl ⟨#[]⟩) none 0 0).toArray 95)) (fun _ _=>0)
  case atStart=>exact⟨rfl,rfl⟩
  case round =>
   obtain⟨rfl,rfl⟩:=hrel;obtain⟨A',hs,hc⟩:=HA0.out _ (zn w _) (heap_alloc_new w _);rw[World.setCell_alloc_past _ _ _ _ hl] at hs;have HS:=za hs;have HC:=za hc;clear hs hc HA0
   by_cases hz:(0:Int)<(hn:Int)
   ·go_wp2_with fail;refine(HE.out _ A' HS.out HC.out).mono ?_;rintro e w5 ⟨rfl,hok⟩;have HOK:=za hok;clear hok;go_wp2;go_ret;exact⟨rfl,HOK.out⟩
   ·go_wp2_with fail;refine(HE.out _ A' HS.out HC.out).mono ?_;rintro e w5 ⟨rfl,hok⟩;have HOK:=za hok;clear hok;go_wp2;go_ret;exact⟨rfl,HOK.out⟩
 ·clear em;go_enter Tryz.func20,Tryz.ntmps20;go_wp2
  go_loopw[12] (fun x wr=>x=.int .i64 0∧wr=w.alloc (.cells (zdl (zhN p i 2 pl data) none 0 0).toArray 95)) (fun _ _=>0)
  case atStart=>exact⟨rfl,rfl⟩
  case round =>
   obtain⟨rfl,rfl⟩:=hrel;obtain⟨A',hs,hc⟩:=HA0.out _ (zn w _) (heap_alloc_new w _);rw[World.setCell_alloc_past _ _ _ _ hl] at hs;have HS:=za hs;have HC:=za hc;clear hs hc HA0
   by_cases hz:(0:Int)<(hn:Int)
   ·go_wp2_with fail;refine(HE.out _ A' HS.out HC.out).mono ?_;rintro e w5 ⟨rfl,hok⟩;have HOK:=za hok;clear hok;go_wp2;go_ret;exact⟨rfl,HOK.out⟩
   ·go_wp2_with fail;refine(HE.out _ A' HS.out HC.out).mono ?_;rintro e w5 ⟨rfl,hok⟩;have HOK:=za hok;clear hok;go_wp2;go_ret;exact⟨rfl,HOK.out⟩
structure zei(s:Nat)(p:Sk)(A:Rs)(w:World)(i:Nat)(j:Nat)(a':Option Addr)(n:Nat)(wr:World):Prop where
 blk:wr.heap[w.heap.size]?=some (.cells (zdl (zhN p i 3 0 ⟨#[]⟩) a' (zL (p.hand.take j)).length n).toArray 95 (0,0))
 own:wr.ownsRow (w.heap.size+1) 3 1 (.slice a' (zL (p.hand.take j)).length n) (zL (p.hand.take j)).length (za5 (zL (p.hand.take j)))
 bel:Below w.heap.size w wr
def zfV(s k:Nat)(hv:Value)(bh oh j:Nat)(x:Int)(lv:Value)(w:World):Prop:=w.cell? ⟨s,2,none⟩=some hv∧w.cell? ⟨bh,oh+j*4,none⟩=some (.int .i64 x)∧w.cell? ⟨k,3,none⟩=some lv∧w.frozen? ⟨k,3,none⟩=false∧k<w.heap.size
theorem zfV.later{s k:Nat}{hv:Value}{bh oh j:Nat}{x:Int}{lv:Value}{w w':World}(h:zfV s k hv bh oh j x lv w)(hb:Below w.heap.size w w'):zfV s k hv bh oh j x lv w':=by
 obtain⟨h0,h1,h2,h3,h4⟩:=h;exact⟨cellB_later' hb h0,cellB_later' hb h1,cellB_later' hb h2,(hb.frozen (p:=⟨k,3,none⟩) h4).trans h3,Nat.lt_of_lt_of_le h4 hb.size⟩
theorem zfV.base{s k:Nat}{hv:Value}{bh oh j:Nat}{x:Int}{lv:Value}{w w':World}{B:Nat}(h:zfV s k hv bh oh j x lv w)(hb:Below B w w')(h1:s<B)(h2:bh<B)(h3:k<B):zfV s k hv bh oh j x lv w':=by
 obtain⟨e0,e1,e2,e3,e4⟩:=h;exact⟨(hb.cell (p:=⟨s,2,none⟩) h1).trans e0,(hb.cell (p:=⟨bh,oh+j*4,none⟩) h2).trans e1,(hb.cell (p:=⟨k,3,none⟩) h3).trans e2,(hb.frozen (p:=⟨k,3,none⟩) h3).trans e3,Nat.lt_of_lt_of_le e4 hb.size⟩
theorem zei.ints{s:Nat}{p:Sk}{A:Rs}{w:World}{i j:Nat}{a':Option Addr}{n:Nat}{wr:World}(h:zei s p A w i j a' n wr):zay wr a' (zL (p.hand.take j))∧(a'=none→n=0)∧(∀b o,a'=some ⟨b,o,none⟩→w.heap.size+1≤b):=by
 obtain⟨a,c,e,h1,h2,h3⟩:=zbO (xs:=zL (p.hand.take j)) h.own rfl;injection e with e1 e2 e3;subst e1 e3;exact⟨h1,h2,h3⟩
theorem zei.same{s:Nat}{p:Sk}{A:Rs}{w:World}{i j:Nat}{a':Option Addr}{n:Nat}{wr:World}(h:zei s p A w i j a' n wr)(e:zL (p.hand.take (j+1))=zL (p.hand.take j)):zei s p A w i (j+1) a' n wr:=⟨by rw[e];exact h.blk,by rw[e];exact h.own,h.bel⟩
theorem zei.more{s:Nat}{p:Sk}{A:Rs}{w:World}{i j:Nat}{a' a2:Option Addr}{n c2:Nat}{wr w4 w5:World}{x:Int}(h:zei s p A w i j a' n wr)(e:zL (p.hand.take (j+1))=zL (p.hand.take j)++[x])(hb4:Below wr.heap.size wr w4)(hb5:Below (w.heap.size+1) w4 w5)(hown:w5.ownsRow (w.heap.size+1) 3 1 (.slice a2 ((zL (p.hand.take j)).length+1) c2) ((zL (p.hand.take j)).length+1) (za5 (zL (p.hand.take j))++[.int .i64 x])):zei s p A w i (j+1) a2 c2 (w5.setCell ⟨w.heap.size,3,none⟩ (.slice a2 ((zL (p.hand.take j)).length+1) c2)):=by
 have l0:=zz h.blk;have hblk:w5.heap[w.heap.size]?=some (.cells (zdl (zhN p i 3 0 ⟨#[]⟩) a' (zL (p.hand.take j)).length n).toArray 95 (0,0)):=by
  rw[hb5.block _ (by omega),hb4.block _ l0];exact h.blk
 have el:(zL (p.hand.take (j+1))).length=(zL (p.hand.take j)).length+1:=by rw[e];simp
 refine⟨?_,?_,?_⟩
 ·rw[zK hblk,el]
  rfl
 ·rw[el,e];have:=ownsRow_setCell_below hown (a:=⟨w.heap.size,3,none⟩) (by show w.heap.size<w.heap.size+1;omega) (.slice a2 ((zL (p.hand.take j)).length+1) c2)
  simpa [za5] using this
 ·have hw4:Below w.heap.size w w4:=zb h.bel hb4;have hw5:Below w.heap.size w w5:=hw4.trans (hb5.mono (by omega));exact bset' hw5 (Nat.le_refl _) _
theorem zo9(s:Nat)(p:Sk)(A:Rs)(w:World)(h:zH s p A w)(hI:Inv p)(i:Nat)(hi:i<3)(hka:A.ka i=none)(q:Sk)(he:zkw s p A w i 3 0 ⟨#[]⟩ q) :
  Calls Tryz.prog 20 #[.pointer (some ⟨s,0,none⟩),.int .i64 i,.int .i64 3,.int .i64 0,.string ⟨#[]⟩] w fun e w'=>e=.returned (.int .i64 0)∧KOk 0 s p A w w' q:=by
 have c11:=(h.c11 hi).1;have f11:=(h.c11 hi).2;have hl:=h.lt;unfold zdv at c11;rw[hka] at c11;simp only[Option.map_none] at c11;have c2:=h.cell 2 _ rfl;have HE:=za he;have HM:=za h.mem.hand;have h8:=hI.hand.len;have d0:(0:Int)≤(i:Int):=by omega
 have d3:(i:Int)<3:=by omega
 have d1:¬(i:Int)<0:=by omega
 have d2:¬2<(i:Int):=by omega
 obtain⟨iI,hi1,hz0,hz1,hz2⟩:=zaL zoG;have HII:=za (⟨hi1,hz0,hz1,hz2⟩:Tryz.prog.info? 3=some iI∧_∧_∧_);have HA0:Hid (∀w1 a' n,zei s p A w i p.hand.length a' n w1→∃A',zE s p A (p.asks i 3 0 ⟨#[]⟩) A' w (w1.setCell ⟨s,11+i,none⟩ (.pointer (some ⟨w.heap.size,0,none⟩)))∧A'.cnt=A.cnt):=fun w1 a' n hG=>by
  have e:p.hand.take p.hand.length=p.hand:=List.take_length;obtain⟨g1,g2,g3⟩:=hG.ints;have hb:=hG.blk;rw[e] at g1 hb;exact zlD h hi hka hG.bel hb (by omega) g1 g2 g3 (fun _=>by unfold askL;rw[if_pos rfl])
 clear h he hka hi1 hz0 hz1 hz2 hI;go_enter Tryz.func20,Tryz.ntmps20;go_wp2
 go_loopw[12] (fun x wr=>∃(j:Nat) (a':Option Addr) (n:Nat),j≤p.hand.length∧x=.int .i64 j∧zei s p A w i j a' n wr) (fun x _=>p.hand.length-(intOf x).toNat)
 case atStart=>exact⟨0,none,0,by omega,rfl,heap_alloc_new w _,World.ownsRow_nil _ _ _ _,zn w _⟩
 case round =>
  obtain⟨j,a',n,hj,rfl,hG⟩:=hrel;have HG:=za hG;have c2r:=cellB_later' hG.bel c2;have lk:=zz hG.blk;have ls:=zg c2r
  by_cases hlt:j<p.hand.length
  ·have hlt':(j:Int)<(p.hand.length:Int):=by omega
   have h0:p.hand ≠ []:=fun e=>by rw[e] at hlt;exact absurd hlt (Nat.not_lt_zero _)
   obtain⟨bh,oh,hbh⟩:=HM.out.form.resolve_left h0;have HM1:=HM.out;rw[hbh] at HM1 c2r;have hbl:=zg (HM1.cells hlt).1;obtain⟨e0,e1,e2,e3⟩:=(HM1.later hG.bel).cells hlt;have ht:=zjD hlt;have hL:=zkY p.hand j;have HT:=za ht;clear h0 HM1 hG ht
   cases hd:p.hand[j].dirty
   ·rw[hd] at e2 HT;have HN:Hid (zei s p A w i (j+1) a' n wr):=HG.out.same (by rw[HT.out];simp);clear hd;go_wp2;go_roundw
    case rel=>exact⟨j+1,a',n,by omega,by go_num,HN.out⟩
    case measure=>simp[intOf];omega
   ·rw[hd] at e2 HT;have HTE:Hid (zL (p.hand.take (j+1))=zL (p.hand.take j)++[p.hand[j].pl]):=by show _=_;rw[HT.out];simp
    obtain⟨x,hx⟩:∃x,p.hand[j].pl=x:=⟨_,rfl⟩
    rw[hx] at e0 HTE;clear hd HT hx;have hblk:=HG.out.blk;have k3:wr.cell? ⟨w.heap.size,3,none⟩=some (.slice a' (zL (p.hand.take j)).length n):=by rw[zy hblk];rfl
    have k3f:wr.frozen? ⟨w.heap.size,3,none⟩=false:=zac hblk 3;have HOW:=za HG.out.own;clear hblk;obtain⟨n0,hn0⟩:∃n0,(zL (p.hand.take j)).length=n0:=⟨_,rfl⟩
    have HN0:=za hn0;rw[hn0] at k3 hL HOW;clear hn0;go_upto_region 12 with fail;have HS:Hid (zfV s w.heap.size (.slice (some ⟨bh,oh,none⟩) p.hand.length A.hc) bh oh j x (.slice a' n0 n) wr.drew):=⟨c2r,e0,k3,k3f,lk⟩
    have HSW:Hid (zfV s w.heap.size (.slice (some ⟨bh,oh,none⟩) p.hand.length A.hc) bh oh j x (.slice a' n0 n) wr):=⟨c2r,e0,k3,k3f,lk⟩
    refine zaJ (S:=zfV s w.heap.size (.slice (some ⟨bh,oh,none⟩) p.hand.length A.hc) bh oh j x (.slice a' n0 n)) (d:=17) (by kernel_rfl) ?_;refine tk 0 ?_ rfl (Or.inl ⟨by rfl,?_⟩) HS.out ?_;rotate_left;(focus(intro w0 hSw;obtain⟨s0,s1,s2,s3,s4⟩:=hSw;go_simp;(try with_reducible rfl)));(try simp only[Act.put,dP])
    refine tk 1 ?_ rfl (Or.inl ⟨by rfl,?_⟩) HS.out ?_;rotate_left;(focus(intro w0 hSw;obtain⟨s0,s1,s2,s3,s4⟩:=hSw;go_simp;(try with_reducible rfl)));(try simp only[Act.put,dP])
    refine tk 2 ?_ rfl (Or.inl ⟨by rfl,?_⟩) HS.out ?_;rotate_left;(focus(intro w0 hSw;obtain⟨s0,s1,s2,s3,s4⟩:=hSw;go_simp;(try with_reducible rfl)));(try simp only[Act.put,dP])
    refine tk 3 ?_ rfl (Or.inl ⟨by rfl,?_⟩) HS.out ?_;rotate_left;(focus(intro w0 hSw;obtain⟨s0,s1,s2,s3,s4⟩:=hSw;go_simp;(try with_reducible rfl)));(try simp only[Act.put,dP])
    refine tk 4 ?_ rfl (Or.inl ⟨by rfl,?_⟩) HS.out ?_;rotate_left;(focus(intro w0 hSw;obtain⟨s0,s1,s2,s3,s4⟩:=hSw;go_simp;(try with_reducible rfl)));(try simp only[Act.put,dP])
    refine tk 5 ?_ rfl (Or.inl ⟨by rfl,?_⟩) HS.out ?_;rotate_left;(focus(intro w0 hSw;obtain⟨s0,s1,s2,s3,s4⟩:=hSw;go_simp;(try with_reducible rfl)));(try simp only[Act.put,dP])
    refine tk 6 ?_ rfl (Or.inl ⟨by rfl,?_⟩) HS.out ?_;rotate_left;(focus(intro w0 hSw;obtain⟨s0,s1,s2,s3,s4⟩:=hSw;go_simp;(try with_reducible rfl)));(try simp only[Act.put,dP])
    refine tk 7 ?_ rfl (Or.inl ⟨by rfl,?_⟩) HS.out ?_;rotate_left;(focus(intro w0 hSw;obtain⟨s0,s1,s2,s3,s4⟩:=hSw;go_simp;(try with_reducible rfl)));(try simp only[Act.put,dP])
    refine tk 8 ?_ rfl (Or.inl ⟨by rfl,?_⟩) HS.out ?_;rotate_left;(focus(intro w0 hSw;obtain⟨s0,s1,s2,s3,s4⟩:=hSw;go_simp;(try with_reducible rfl)));(try simp only[Act.put,dP])
    refine tk 9 ?_ rfl (Or.inl ⟨by rfl,?_⟩) HS.out ?_;rotate_left;(focus(intro w0 hSw;obtain⟨s0,s1,s2,s3,s4⟩:=hSw;go_simp;(try with_reducible rfl)));(try simp only[Act.put,dP])
    refine tk 10 ?_ rfl (Or.inl ⟨by rfl,?_⟩) HS.out ?_;rotate_left;(focus(intro w0 hSw;obtain⟨s0,s1,s2,s3,s4⟩:=hSw;go_simp;(try with_reducible rfl)));(try simp only[Act.put,dP])
    refine tk 11 ?_ rfl (Or.inl ⟨by rfl,?_⟩) HS.out ?_;rotate_left;(focus(intro w0 hSw;obtain⟨s0,s1,s2,s3,s4⟩:=hSw;go_simp;(try with_reducible rfl)));(try simp only[Act.put,dP])
    refine tk 12 ?_ rfl (Or.inl ⟨by rfl,?_⟩) HS.out ?_;rotate_left;(focus(intro w0 hSw;obtain⟨s0,s1,s2,s3,s4⟩:=hSw;go_simp;(try with_reducible rfl)));(try simp only[Act.put,dP])
    refine zw (i:=13) rfl (by kernel_rfl) ?_;intro K hK;go_simp;refine hK _ _ (fun _=>HS.out.later (zn _ _)) ?_
    (try simp only[Act.put,dP])
    clear hK;refine zw (i:=14) rfl (by kernel_rfl) ?_;intro K hK;refine zaD rfl (.tmp 91) (.tmp 100) 52 rfl (w.heap.size+1) 3 iI (.int .i64 0) 1 8 Tryz.underlying52 HII.out.1 HII.out.2.1 HII.out.2.2.1 HII.out.2.2.2 rfl (by decide) (.slice a' n0 n) n0 (za5 (zL (p.hand.take j))) rfl (zcc HOW.out (by(with_reducible repeat first|exact Below.refl _ _|refine zc ?_ _|refine zd ?_|refine bset' ?_ (by omega) _|refine zb ?_ (by assumption)))) (some ⟨wr.heap.size,0,none⟩) 1 1 [.int .i64 x] rfl (rowI (by simp)) (by unfold maxLen;omega) (by omega) (by simp;omega) ?_;intro v2 w5 hown2 hb2;obtain⟨a2,c2',rfl,-⟩:=zba hown2;have HB4:Hid (∃w4,Below wr.heap.size wr w4∧Below (w.heap.size+1) w4 w5):=⟨_,by(with_reducible repeat first|exact Below.refl _ _|refine zc ?_ _|refine zd ?_|refine bset' ?_ (by omega) _|refine zb ?_ (by assumption)),hb2⟩
    have HS5:=za ((HSW.out.later (by(with_reducible repeat first|exact Below.refl _ _|refine zc ?_ _|refine zd ?_|refine bset' ?_ (by omega) _|refine zb ?_ (by assumption)))).base hb2 (by omega) (by omega) (by omega));obtain⟨s0,s1,s2,s3,s4⟩:=HS5.out;have HNX:Hid (zei s p A w i (j+1) a2 c2' (w5.setCell ⟨w.heap.size,3,none⟩ (.slice a2 (n0+1) c2'))):=by
     obtain⟨w4,b4,b5⟩:=HB4.out;have:=HG.out.more HTE.out b4 b5 (a2:=a2) (c2:=c2') (by rw[HN0.out];exact hown2);rw[HN0.out] at this;exact this
    refine hK _ _ (fun _=>HS5.out) ?_
    (try simp only[Act.put,dP])
    clear hK;refine zw (i:=15) rfl (by kernel_rfl) ?_;intro K hK;go_simp;refine hK _ _ (fun _=>HS5.out) ?_
    (try simp only[Act.put,dP])
    clear hK;refine zw (i:=16) rfl (by kernel_rfl) ?_;intro K hK;go_simp;refine hK _ _ (fun _=>HS5.out) ?_
    (try simp only[Act.put,dP])
    clear hK;refine zw (i:=17) rfl (by kernel_rfl) ?_;intro K hK;go_simp;refine hK _ _ (fun h=>absurd rfl h) ?_
    (try simp only[Act.put,dP])
    clear hK;refine zaO (by kernel_rfl) ?_ _;clear s0 s1 s2 s3 s4 hown2 hb2 HB4 HS HS5 HSW c2r e0 k3 k3f HOW;go_wp2;go_roundw
    case rel=>exact⟨j+1,a2,c2',by omega,by go_num,HNX.out⟩
    case measure=>simp[intOf];omega
  ·obtain rfl:j=p.hand.length:=by omega
   obtain⟨A',hs,hc⟩:=HA0.out _ _ _ hG;have HS:=za hs;have HC:=za hc;have r11:=cellB_later' hG.bel c11;have rf11:=(hG.bel.frozen (p:=⟨s,11+i,none⟩) hl).trans f11;clear hs hc HA0 hG c11 f11;generalize p.hand.length=hn at *;go_wp2_with fail;refine(HE.out _ A' HS.out HC.out).mono ?_;rintro e w5 ⟨rfl,hok⟩;have HOK:=za hok;clear hok;go_wp2;go_ret;exact⟨rfl,HOK.out⟩
theorem zqK(s:Nat)(p:Sk)(A:Rs)(w:World)(h:zH s p A w)(hI:Inv p)(hL:zp p)(hT:p.tags≤3999999999999999990)(hU:p.uses≤3999999999999999990)(c kind pl:Int)(data:ByteArray)(n:Int)(q:Sk)(hq:p.nf.ask c kind pl data=(n,q)) :
  Calls Tryz.prog 20 #[.pointer (some ⟨s,0,none⟩),.int .i64 c,.int .i64 kind,.int .i64 pl,.string data] w fun e w'=>e=.returned (.int .i64 n)∧KOk 0 s p A w w' q:=by
 unfold Sk.ask at hq
 by_cases h0:zag c kind pl data=0
 ·rw[if_neg (by simpa using h0)] at hq;obtain⟨hz,ho⟩:=zrE h0;obtain⟨i,rfl⟩:∃i:Nat,c=i:=⟨c.toNat,by omega⟩
  have hi:i<3:=by omega
  cases hw:p.waits i
  ·rw[if_neg (by rw[show p.nf.waits (i:Int)=p.waits i from rfl,hw];exact Bool.false_ne_true)] at hq;simp only[Prod.mk.injEq] at hq;obtain⟨rfl,hq⟩:=hq;rw[Int.toNat_natCast] at hq;have hk0:=(zeG p i hi).1 hw;have hka:A.ka i=none:=by
    cases e:A.ka i with
    |none=>rfl
    |some k=>exact absurd hk0 (h.mem.asks i hi k e).kind
   have he:=zpJ (s:=s) (A:=A) (w:=w) (i:=i) hI hL hT hU ho q hq
   rcases ho.kd with e|e|e
   ·exact znc s p A w h i hi kind pl data ho (Or.inl e) hka q he
   ·exact znc s p A w h i hi kind pl data ho (Or.inr e) hka q he
   ·subst e;obtain rfl:=ho.sy rfl;obtain rfl:=ho.em (by decide);exact zo9 s p A w h hI i hi hka q he
  ·rw[if_pos (show p.nf.waits (i:Int)=true from hw)] at hq;simp only[Prod.mk.injEq] at hq;obtain⟨rfl,rfl⟩:=hq;refine(zpw s p A w h i hi kind pl data ho ((zeV p i hi).1 hw)).mono ?_;rintro e w' ⟨rfl,rfl⟩;exact⟨rfl,p,A,zE.same' h (Below.refl _ _),rfl,Nat.le_refl _⟩
 ·rw[if_pos h0] at hq;simp only[Prod.mk.injEq] at hq;obtain⟨rfl,rfl⟩:=hq;exact zrQ s p A w h c kind pl data h0
end Go.Proofs.YtlhgjplipgandaaGreat
namespace Go.Proofs.YtlhgjplipgandaaGreat
open Go.RowKit
def zI(p:Sk):Prop:=∀c∈p.cl,ze3 c
theorem ziX(s:ByteArray):ze3 ⟨0,0,ByteArray.empty,[],s,0⟩:=Or.inl rfl
theorem zm1(e:Int)(h:0<e):ze3 ⟨0,0,ByteArray.empty,[],ByteArray.empty,e⟩:=Or.inr ⟨h,rfl⟩
section
variable{p:Sk}
theorem zI.client(h:zI p)(i:Nat):ze3 (p.client i):=by
 unfold Sk.client;rw[List.getD_eq_getElem?_getD]
 cases e:p.cl[i]? with
 |none=>exact Or.inl rfl
 |some c=>exact h c (List.mem_of_getElem? e)
theorem zI.set{q:Sk}(h:zI p)(i:Nat)(x:Cl)(hx:ze3 x)(hq:q.cl=p.cl.set i x):zI q:=fun c hc=>by
 rw[hq] at hc;exact(List.mem_or_eq_of_mem_set hc).elim (h c) (fun e=>e▸hx)
theorem zI.same{q:Sk}(h:zI p)(hq:q.cl=p.cl):zI q:=fun c hc=>h c (hq▸hc)
theorem zI.askQ(h:zI p)(pl:Int)(wr:Bool)(data:List ByteArray):zI (p.askQ pl wr data).2:=h.same (zm5 p pl wr data)
theorem zI.serve1(h:zI p)(i:Nat):zI (p.serve1 i):=by
 unfold Sk.serve1
 split
 ·unfold Sk.serveRead
  split
  ·exact h.set i _ (ziX _) rfl
  ·split
   ·exact h
   ·exact h.askQ _ _ _
 split
 ·unfold Sk.serveWrite
  split
  ·exact h.set i _ (zm1 9 (by omega)) rfl
  split
  ·exact h
  split
  ·exact h.set i _ (ziX _) rfl
  ·exact h.same rfl
 split
 ·unfold Sk.serveSync
  split
  ·exact h.set i _ (zm1 9 (by omega)) rfl
  split
  ·exact h.set i _ (ziX _) rfl
  ·exact h.set i { p.client i with left:=(p.client i).left.filter (zQ p.hand) } (h.client i) rfl
 ·exact h
theorem zI.serve(h:zI p):zI p.serve:=((h.serve1 0).serve1 1).serve1 2
theorem zI.ask(h:zI p)(c kind pl:Int)(data:ByteArray):zI (p.ask c kind pl data).2:=by
 unfold Sk.ask
 split
 ·exact h
 split
 ·exact h
 ·exact zI.serve (h.set (q:=p.asks c.toNat kind pl data) c.toNat { p.client c.toNat with kind:=kind,pl:=pl,data:=data,left:=if kind=3 then zL p.hand else(p.client c.toNat).left } (h.client c.toNat) rfl)
theorem zI.tick(h:zI p):zI p.tick:=zI.serve (h.same rfl)
theorem zI.clean(h:zI p):zI p.clean.2:=by
 unfold Sk.clean
 split
 ·exact h
 split
 ·exact h
 ·exact h.askQ _ _ _
theorem zI.dispatch(h:zI p):zI p.dispatch.2:=by
 unfold Sk.dispatch
 split
 ·exact h
 ·exact h.same rfl
theorem zI.dispatches(n:Nat):∀{p:Sk},zI p→zI (p.dispatches n):=by
 induction n with
 |zero=>exact fun h=>h
 |succ n ih =>
  intro p h;unfold Sk.dispatches
  split
  ·exact ih h.dispatch
  ·exact h
theorem zI.readers(h:zI p)(F:Int→Bool)(s:ByteArray)(e:Int)(he:e=0∨(0<e∧s=ByteArray.empty)):zI (p.readers F s e):=fun c hc=>by
 obtain⟨x,hx,rfl⟩:=List.mem_map.1 hc
 split
 ·exact he
 ·exact h x hx
theorem zI.wasRead(h:zI p)(pl:Int)(s:ByteArray):zI (p.wasRead pl s):=by
 unfold Sk.wasRead
 split
 ·exact h
 split
 ·exact zI.readers (p:={ p with hand:=_,uses:=p.uses+1 }) (h.same rfl) _ _ _ (Or.inl rfl)
 ·exact h.readers _ _ _ (Or.inl rfl)
theorem zI.wentOne(h:zI p)(r:Rq)(xs:List ByteArray)(j:Nat):zI (p.wentOne r xs j):=by
 unfold Sk.wentOne
 split
 ·exact h.same rfl
 ·exact h.wasRead _ _
theorem zI.wentTo(h:zI p)(r:Rq)(xs:List ByteArray):∀n,zI (p.wentTo r xs n)
 |0=>h
 |n+1=>by rw[zbp];exact(h.wentTo r xs n).wentOne r xs n
theorem zI.end'(h:zI p)(i:Int)(fault:Bool):zI (p.end' i fault).2:=by
 unfold Sk.end'
 split
 ·exact h
 split
 ·exact h
 split
 ·exact zI.serve (zI.wentTo (p:=(p.took i.toNat).did _) (h.same rfl) _ _ _)
 split
 ·exact h.same rfl
 split
 ·exact zI.serve (h.same rfl)
 ·exact zI.serve (zI.readers (h.same rfl) _ _ _ (Or.inr ⟨by omega,rfl⟩))
theorem zI.round(h:zI p):zI p.round:=(h.tick.clean.dispatches 3).end' 0 false
theorem zI.settle(n:Nat):∀{p:Sk},zI p→zI (p.settle n).2:=by
 induction n with
 |zero=>exact fun h=>h
 |succ n ih =>
  intro p h;unfold Sk.settle
  split
  ·exact h
  ·exact ih h.round
theorem zI.nf(h:zI p):zI p.nf:=h
theorem zI.of_nf(h:zI p.nf):zI p:=h
theorem zsa:zI sk0:=fun c hc=>by
 rcases List.mem_cons.1 hc with rfl|hc
 ·exact Or.inl rfl
 rcases List.mem_cons.1 hc with rfl|hc
 ·exact Or.inl rfl
 rcases List.mem_cons.1 hc with rfl|hc
 ·exact Or.inl rfl
 ·cases hc
end
end Go.Proofs.YtlhgjplipgandaaGreat
namespace Go.Proofs.YtlhgjplipgandaaGreat
open Go.RowKit Go.BigFrame Go.Maps
attribute [local go_sem] ze.cell ze.frozen


theorem zql{x y:Rq}(h:x.nf=y.nf):zf0 x y=true:=by
 have h1:x.wr=y.wr:=(Rq.mk.inj h).1;have h2:x.f=y.f:=(Rq.mk.inj h).2.1;have h3:x.m=y.m:=(Rq.mk.inj h).2.2.1;have h4:x.data=y.data:=(Rq.mk.inj h).2.2.2.2.2.1;have h5:x.tags=y.tags:=(Rq.mk.inj h).2.2.2.2.2.2.2.2.1;have h6:x.born=y.born:=(Rq.mk.inj h).2.2.2.2.2.2.2.2.2
 simp[zf0,eqS,eqN,h1,h2,h3,h4,h5,h6]
theorem zkz{l m:List Rq}(h:l.map Rq.nf=m.map Rq.nf):zks l m:=by
 have hlen:l.length=m.length:=by have:=congrArg List.length h;simpa using this
 refine⟨hlen,fun i hi hi'=>zql ?_⟩;have:=congrArg (fun x=>x[i]?) h;simp only[List.getElem?_map,List.getElem?_eq_getElem hi,List.getElem?_eq_getElem hi',Option.map_some,Option.some.injEq] at this;exact this
end Go.Proofs.YtlhgjplipgandaaGreat
