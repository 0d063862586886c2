/- Joined texts: OwnR, OwnR2, RLaw2. -/
import Derived.Maps.OwnSet
import Derived.Maps.OwnOps
import Derived.Maps.Views
import Derived.Test.YtlhgjplipgandaaGreatB41
set_option maxRecDepth 100000
set_option maxHeartbeats 8000000
set_option linter.unusedSimpArgs false
namespace Go.Proofs.YtlhgjplipgandaaGreat
open Go.RowKit Go.BigFrame Go.Maps
attribute [local go_sem] ze.cell ze.frozen
structure Ref where
 p:Sk
 A:Sa
 w:World
def zbv(R:Ref)(s b:Nat)(q:Sk)(wr:World):Prop:=∃p A,zG s R.p R.A p A R.w wr∧p.nf=q∧R.A.b=b
section
variable{W:Ref}{wr w':World}{s b:Nat}{q q':Sk}
theorem zbv.later(h:zbv W s b q wr)(hb:Below wr.heap.size wr w'):zbv W s b q w':=by
 obtain⟨p,A,h1,h2,h3⟩:=h;exact⟨p,A,h1.later hb,h2,h3⟩
theorem zbv.of{p:Sk}{A:Sa}(h3:W.A.b=b)(hs:zG s W.p W.A p A W.w wr)(h:SOk s p A wr w' q'):zbv W s b q' w':=by
 obtain⟨p',A',h',hn⟩:=h;exact⟨p',A',hs.trans h',hn,h3⟩
theorem ziv(h:zbv W s b q wr):zfw wr b=q.dev.busy.length:=by
 obtain⟨p,A,hs,rfl,rfl⟩:=h;unfold zfw;rw[←hs.same.1,hs.at'.mem.drv.dev.c66];exact(List.length_map _).symm
end
section
variable(W:Ref)(w:World)(s b:Nat)(q:Sk)(n:Nat)
theorem zjY(h:zbv W s b q w)(c:Int)(t:Bool)(ht:q.waits c=t):Calls Tryz.prog 33 #[.pointer (some ⟨s,0,none⟩),.int .i64 c] w fun e w'=>e=.returned (.bool t)∧w'=w:=by
 obtain⟨p,A,hs,rfl,_⟩:=h;have h1:=hs.at';exact zcT s p A c w h1 t ht
theorem zjv(h:zbv W s b q w)(h6:q.queue.length≤1000):Calls Tryz.prog 38 #[.pointer (some ⟨s,0,none⟩)] w fun e w'=>∃a' c' l,e=.returned (.slice a' q.queue.length c')∧zs w' a' l∧l.map Rq.nf=q.queue∧(a'=none→c'=0)∧Below w.heap.size w w':=by
 obtain⟨p,A,hs,rfl,_⟩:=h;have h1:=hs.at';have e:p.nf.queue.length=p.queue.length:=List.length_map _;rw[e] at h6 ⊢;refine(zf2 s p A w h1 h6).mono ?_;rintro x w' ⟨a',c',rfl,hR,hn,hb⟩;exact⟨a',c',p.queue,rfl,hR,rfl,hn,hb⟩
theorem zrr(h:zbv W s b q w):Calls Tryz.prog 39 #[.pointer (some ⟨s,0,none⟩)] w fun e w'=>∃a' c' l,e=.returned (.slice a' q.dev.busy.length c')∧zs w' a' l∧l.map Rq.nf=q.dev.busy∧(a'=none→c'=0)∧Below w.heap.size w w':=by
 obtain⟨p,A,hs,rfl,_⟩:=h;have h1:=hs.at';have e:p.nf.dev.busy.length=p.dev.busy.length:=List.length_map _;rw[e];refine(zgF s p A w h1).mono ?_;rintro x w' ⟨a',c',rfl,hR,hn,hb⟩;exact⟨a',c',p.dev.busy,rfl,hR,rfl,hn,hb⟩
theorem zqv(h:zbv W s b q w)(hf:Fit n q)(hn:n≤1000000)(q':Sk)(hq:q.tick=q'):Calls Tryz.prog 21 #[.pointer (some ⟨s,0,none⟩)] w fun e w'=>e=.returned (.tuple #[])∧zbv W s b q' w':=by
 obtain⟨p,A,hs,rfl,h3⟩:=h;have h1:=hs.at';have hf':=hf.of_nf;refine(zhE s p A w h1 hf'.inv (by have:=hf'.tags;omega) (by have:=hf'.uses;omega) q' hq).mono ?_;rintro e w' ⟨he,hok⟩;exact⟨he,zbv.of h3 hs hok⟩
theorem zpL(h:zbv W s b q w)(hf:Fit n q)(hn:n≤1000000)(t:Bool)(q':Sk)(hq:q.clean=(t,q')):Calls Tryz.prog 23 #[.pointer (some ⟨s,0,none⟩)] w fun e w'=>e=.returned (.bool t)∧zbv W s b q' w':=by
 obtain⟨p,A,hs,rfl,h3⟩:=h;have h1:=hs.at';have hf':=hf.of_nf;refine(zgd s p A w h1 hf'.inv (by have:=hf'.tags;omega) t q' hq).mono ?_;rintro e w' ⟨he,hok⟩;exact⟨he,zbv.of h3 hs hok⟩
theorem zgq(h:zbv W s b q w)(hf:Fit n q)(t:Bool)(q':Sk)(hq:q.dispatch=(t,q')):Calls Tryz.prog 25 #[.pointer (some ⟨s,0,none⟩)] w fun e w'=>e=.returned (.bool t)∧zbv W s b q' w':=by
 obtain⟨p,A,hs,rfl,h3⟩:=h;have h1:=hs.at';have hf':=hf.of_nf;refine(zeg s p A w h1 hf'.inv t q' hq).mono ?_;rintro e w' ⟨he,hok⟩;exact⟨he,zbv.of h3 hs hok⟩
theorem zsg(h:zbv W s b q w)(hf:Fit n q)(hn:n≤1000000)(i:Int)(fl:Bool)(x:Int)(q':Sk)(hq:q.end' i fl=(x,q')):Calls Tryz.prog 27 #[.pointer (some ⟨s,0,none⟩),.int .i64 i,.bool fl] w fun e w'=>e=.returned (zae x)∧zbv W s b q' w':=by
 obtain⟨p,A,hs,rfl,h3⟩:=h;have h1:=hs.at';have hf':=hf.of_nf;refine(zhG s p A w h1 hf'.inv hf'.short (by have:=hf'.tags;omega) (by have:=hf'.uses;omega) (by have:=hf'.ag;omega) i fl x q' hq).mono ?_;rintro e w' ⟨he,hok⟩;exact⟨he,zbv.of h3 hs hok⟩
end
theorem zed(W:Ref)(w:World)(s b:Nat)(q:Sk)(h:zbv W s b q w)(h6:q.queue.length≤1000)(t:Bool)(ht:q.quiet=t) :
  Calls Tryz.prog 13 #[.pointer (some ⟨s,0,none⟩)] w fun e w'=>e=.returned (.bool t)∧Below w.heap.size w w':=by
 have HO:=za h;have H6:=za h6;have HT:=za ht;clear h h6 ht;go_enter Tryz.func13,Tryz.ntmps13;go_wp2
 go_loopw[4] (fun i wr=>∃k:Nat,k≤3∧i=.int .i64 k∧(∀j:Nat,j<k→q.waits (j:Int)=false)∧Below w.heap.size w wr) (fun i _=>3-(intOf i).toNat)
 case atStart=>exact⟨0,by omega,rfl,fun j hj=>absurd hj (Nat.not_lt_zero _),Below.refl _ _⟩
 case round =>
  obtain⟨k,hk,rfl,hno,hbr⟩:=hrel;have HBR:=za hbr;have HOR:=za (HO.out.later hbr);clear hbr;have HN:=za hno;clear hno
  by_cases hlt:k<3
  ·have hlt':(k:Int)<3:=by omega
   cases hwt:q.waits (k:Int)
   ·have HW:=za hwt;clear hwt;go_wp2_with fail;refine(zjY W wr s b q HOR.out k false HW.out).mono ?_;rintro e w1 ⟨rfl,rfl⟩;go_wp2;go_roundw
    case rel=>exact⟨k+1,by omega,by go_num,fun j hj=>by by_cases e:j=k;(subst e;exact HW.out);exact HN.out j (by omega),HBR.out⟩
    case measure=>simp[intOf];omega
   ·have HW:=za hwt;have HF:Hid (false=t):=(zjT hlt hwt).symm.trans HT.out;clear hwt;go_wp2_with fail;refine(zjY W wr s b q HOR.out k true HW.out).mono ?_;rintro e w1 ⟨rfl,rfl⟩;go_wp2;go_ret;exact⟨zad HF.out,HBR.out⟩
  ·obtain rfl:k=3:=by omega
   have HE:Hid ((q.queue.isEmpty&&q.dev.busy.isEmpty)=t):=(zjz (fun i hi=>HN.out i hi)).symm.trans HT.out
   cases hq:q.queue.isEmpty
   ·have HF:Hid (false=t):=by have:=HE.out;rw[hq] at this;exact this
    have hq2:((q.queue.length:Int)==0)=false:=(zd3 _).symm.trans hq;have hq3:¬(q.queue.length:Int)=0:=beq_eq_false_iff_ne.1 hq2;have hq4:¬q.queue.length=0:=by omega
    clear hq;go_wp2_with fail;refine(zjv W wr s b q HOR.out H6.out).mono ?_;rintro e w1 ⟨a',c',l,rfl,-,-,-,hb1⟩;generalize q.queue.length=n at *;go_wp2;go_ret;exact⟨zad HF.out,zb HBR.out hb1⟩
   ·have HF:Hid (q.dev.busy.isEmpty=t):=by have:=HE.out;rw[hq] at this;exact this
    have hq2:q.queue=[]:=List.isEmpty_iff.1 hq;have HQL:Hid (q.queue.length=0):=by show q.queue.length=0;rw[hq2];rfl
    clear hq hq2;go_wp2_with fail;refine(zjv W wr s b q HOR.out H6.out).mono ?_;rw[HQL.out];rintro e w1 ⟨a',c',l,rfl,-,-,-,hb1⟩;go_wp2_with fail;refine(zrr W w1 s b q (HOR.out.later hb1)).mono ?_;rintro e w2 ⟨a2,c2,l2,rfl,-,-,-,hb2⟩;have HF2:Hid (((q.dev.busy.length:Int)==0)=t):=(zd3 _).symm.trans HF.out;generalize q.dev.busy.length=n at *;go_wp2;go_ret;exact⟨zad HF2.out,zb HBR.out (zb hb1 hb2)⟩
theorem zjZ(W:Ref)(w:World)(s b:Nat)(q:Sk)(n:Nat)(h:zbv W s b q w)(hf:Fit n q)(hn:n≤900000)(q':Sk)(hq:q.round=q') :
  Calls Tryz.prog 29 #[.pointer (some ⟨s,0,none⟩)] w fun e w'=>e=.returned (.tuple #[])∧zbv W s b q' w':=by
 have HO:=za h;have HF:=za hf;have HQ:=za hq;clear h hf hq;go_enter Tryz.func29,Tryz.ntmps29;go_wp2_with fail;refine(zqv W w s b q n HO.out HF.out (by omega) _ rfl).mono ?_;rintro e w1 ⟨rfl,h1⟩;have HO1:=za h1;clear h1;go_wp2_with fail;refine(zpL W w1 s b q.tick (n+3) HO1.out HF.out.tick (by omega) q.tick.clean.1 q.tick.clean.2 rfl).mono ?_;rintro e w2 ⟨rfl,h2⟩;have HO2:=za h2;have HF2:=za HF.out.tick.clean;have HQ2:Hid (((q.tick.clean.2.dispatches 3).end' 0 false).2=q'):=HQ.out;clear h2 HQ HO1;generalize q.tick.clean.1=t at *;generalize q.tick.clean.2=q2 at *;go_wp2
 go_loopw[] (fun wr=>∃(j:Nat) (r:Sk),zbv W s b r wr∧Fit (n+3+1) r∧r.dispatches j=q2.dispatches 3∧3≤r.dev.busy.length+j) (fun wr=>3-zfw wr b)
 case atStart=>exact⟨3,q2,HO2.out,HF2.out,rfl,by omega⟩
 case round =>
  obtain⟨j,r,ho,hfr,hd,hj⟩:=hrel;have HOR:=za ho;have HFR:=za hfr;have HD:=za hd;have hb2:=hfr.inv.b2;obtain⟨i,rfl⟩:∃i,j=i+1:=⟨j-1,by omega⟩
  have HJ:=za hj;have HB2:=za hb2;clear ho hfr hd hj hb2
  cases ht:r.dispatch.1
  ·have HE:Hid (r=q2.dispatches 3):=by
    have:=HD.out;unfold Sk.dispatches at this;rw[ht,if_neg Bool.false_ne_true] at this;exact this
   have HS:Hid (r.dispatch=(false,r)):=by
    rcases zbE HFR.out.inv with⟨_,e⟩|⟨_,_,_,_,_,_,_,e⟩
    ·exact e
    ·rw[e] at ht;cases ht
   clear ht;go_wp2_with fail;refine(zgq W wr s b r _ HOR.out HFR.out false r HS.out).mono ?_;rintro e w3 ⟨rfl,h3⟩;have HO3:=za h3;clear h3;go_wp2_with fail;refine(zsg W w3 s b r _ HO3.out HFR.out (by omega) 0 false (r.end' 0 false).1 q' (by rw[Prod.ext_iff];exact⟨rfl,by show(r.end' 0 false).2=q';rw[HE.out];exact HQ2.out⟩)).mono ?_;generalize (r.end' 0 false).1=x;rintro e w4 ⟨rfl,h4⟩;generalize zae x=ev;go_wp2;go_end0;exact⟨rfl,h4⟩
  ·have HE:Hid (r.dispatch.2.dispatches i=q2.dispatches 3):=by
    have:=HD.out;unfold Sk.dispatches at this;rw[ht,if_pos rfl] at this;exact this
   have HM:=za (zek HFR.out.inv ht);have HT:=za ht;clear ht;go_wp2_with fail;refine(zgq W wr s b r _ HOR.out HFR.out true r.dispatch.2 (by rw[Prod.ext_iff];exact⟨HT.out,rfl⟩)).mono ?_;rintro e w3 ⟨rfl,h3⟩;have HO3:=za h3;clear h3;go_wp2;go_roundw
   case rel=>exact⟨i,r.dispatch.2,HO3.out,HFR.out.dispatch,HE.out,by have:=HM.out;have:=HJ.out;omega⟩
   case measure=>rw[ziv HOR.out,ziv HO3.out];have:=HM.out;have:=HB2.out;omega
theorem znv(W:Ref)(w:World)(s b:Nat)(q:Sk)(n m:Nat)(h:zbv W s b q w)(hf:Fit n q)(hn:n+11*m≤900000)(x:Nat)(q':Sk)(hq:q.settle m=(x,q'))(t:Bool)(ht:q'.quiet=t) :
  Calls Tryz.prog 31 #[.pointer (some ⟨s,0,none⟩),.int .i64 m] w fun e w'=>e=.returned (.tuple #[.int .i64 x,.bool t])∧zbv W s b q' w':=by
 have HO:=za h;have HF:=za hf;have HQ:=za hq;have HT:=za ht;clear h hf hq ht;go_enter Tryz.func31,Tryz.ntmps31;go_wp2
 go_loopw[6] (fun i wr=>∃(k:Nat) (r:Sk),k≤m∧i=.int .i64 k∧zbv W s b r wr∧Fit (n+11*k) r∧q.settle m=((r.settle (m-k)).1+k,(r.settle (m-k)).2)) (fun i _=>m-(intOf i).toNat)
 case atStart=>exact⟨0,q,by omega,rfl,HO.out,HF.out,rfl⟩
 case round =>
  obtain⟨k,r,hk,rfl,ho,hfr,hd⟩:=hrel;have HOR:=za ho;have HFR:=za hfr;have HD:=za (hd.symm.trans HQ.out);have H6:Hid (r.queue.length≤1000):=by have:=hfr.inv.q6;show r.queue.length≤1000;omega
  clear ho hfr hd
  by_cases hlt:k<m
  ·have hlt':(k:Int)<(m:Int):=by omega
   obtain⟨i,hi⟩:∃i,m-k=i+1:=⟨m-k-1,by omega⟩
   have HI:=za hi;rw[hi] at HD
   cases hqt:r.quiet
   ·have HD2:Hid (((r.round.settle i).1+(k+1),(r.round.settle i).2)=(x,q')):=by
     have:=HD.out;unfold Sk.settle at this;rw[if_neg (by rw[hqt];exact Bool.false_ne_true)] at this;show _=_;rw[←this];simp only[Prod.mk.injEq,and_true]
     omega
    have HQT:=za hqt;clear hqt hi;go_wp2_with fail;refine(zed W wr s b r HOR.out H6.out false HQT.out).mono ?_;rintro e w1 ⟨rfl,hb1⟩;have HO1:=za (HOR.out.later hb1);clear hb1;go_wp2_with fail;refine(zjZ W w1 s b r _ HO1.out HFR.out (by omega) _ rfl).mono ?_;rintro e w2 ⟨rfl,h2⟩;have HO2:=za h2;clear h2;go_wp2;go_roundw
    case rel=>exact⟨k+1,r.round,by omega,by go_num,HO2.out,HFR.out.round.mono (by omega),by
     have e:m-(k+1)=i:=by have:=HI.out;omega
     rw[e];exact HQ.out.trans HD2.out.symm⟩
    case measure=>simp[intOf];omega
   ·have HD2:Hid (k=x∧r=q'):=by
     show k=x∧r=q';have:=HD.out;unfold Sk.settle at this;rw[if_pos hqt] at this
     simpa using this
    have HQT:=za hqt;have HQ':Hid (true=t):=by have:=HT.out;rw[←HD2.out.2,hqt] at this;exact this
    clear hqt hi;go_wp2_with fail;refine(zed W wr s b r HOR.out H6.out true HQT.out).mono ?_;rintro e w1 ⟨rfl,hb1⟩;have HO1:=za (HOR.out.later hb1);clear hb1;go_wp2_with fail;refine(zed W w1 s b r HO1.out H6.out true HQT.out).mono ?_;rintro e w2 ⟨rfl,hb2⟩;have HO2:=za (HO1.out.later hb2);clear hb2;go_wp2;refine bodyPost_ret (v:=.tuple #[.int .i64 k,.bool true]) (by simp[results,Tryz.results31,go_sem]) rfl ?_;exact⟨by rw[←HD2.out.1,HQ'.out],by rw[←HD2.out.2];exact HO2.out⟩
  ·obtain rfl:k=m:=by omega
   have HD2:Hid (k=x∧r=q'):=by
    show k=x∧r=q';have:=HD.out;rw[Nat.sub_self] at this;unfold Sk.settle at this
    simpa using this
   have HQT:Hid (r.quiet=t):=by have:=HT.out;rw[←HD2.out.2] at this;exact this
   go_wp2_with fail;refine(zed W wr s b r HOR.out H6.out t HQT.out).mono ?_;rintro e w1 ⟨rfl,hb1⟩;have HO1:=za (HOR.out.later hb1);clear hb1;go_wp2;refine bodyPost_ret (v:=.tuple #[.int .i64 k,.bool t]) (by simp[results,Tryz.results31,go_sem]) rfl ?_;exact⟨by rw[←HD2.out.1],by rw[←HD2.out.2];exact HO1.out⟩
def zaf(W:World)(s k n g:Nat)(q1 q2:Sk)(w:World):Prop:=∃p p2 A B,zeL W s k n q1 q2 p p2 A B w∧¬A.foot s g∧¬B.foot k g∧g<w.heap.size
def zci(g:Nat)(w w':World):Prop:=∀j,w'.cell? ⟨g,j,none⟩=w.cell? ⟨g,j,none⟩
section
variable{W:World}{s k n m c g:Nat}{q q1 q2 q3:Sk}{p p2 p':Sk}{A A':Sa}{B B':Rs}{w w':World}
theorem zaf.later(h:zaf W s k n g q1 q2 w)(hb:Below w.heap.size w w'):zaf W s k n g q1 q2 w':=by
 obtain⟨p,p2,A,B,h,g1,g2,g3⟩:=h;exact⟨p,p2,A,B,h.later hb,g1,g2,Nat.lt_of_lt_of_le g3 hb.size⟩
theorem zaf.pr(h:zaf W s k n g q q w):Pr W s k n q w:=by
 obtain⟨p,p2,A,B,h,_⟩:=h;exact⟨p,p2,A,B,h⟩
theorem zaf.fits(h:zaf W s k n g q1 q2 w):Fit n q1∧za7 n q2∧zp q2∧zI q2:=by
 obtain⟨p,p2,A,B,h,_⟩:=h;exact⟨h.f1,h.f2,h.left,h.got⟩
theorem Pr.box(h:Pr W s k n q w)(hb:Below w.heap.size w w')(hl:w.heap.size<w'.heap.size):zaf W s k n w.heap.size q q w':=by
 obtain⟨p,p2,A,B,h⟩:=h;exact⟨p,p2,A,B,h.later hb,fun e=>by have:=h.both.one.footLt _ e;omega,fun e=>by have:=h.both.two.footLt _ e;omega,hl⟩
theorem zaf.code{f:Nat}{args:Array Value}{E:Ending→Prop}(h:zaf W s k n g q1 q2 w)(con:∀p A,zv s p A w→p.nf=q1→Calls Tryz.prog f args w fun e w'=>E e∧SOk s p A w w' q3)(hf:Fit m q3)(hm:n≤m):Calls Tryz.prog f args w fun e w'=>E e∧zaf W s k m g q3 q2 w'∧zci g w w':=by
 obtain⟨p,p2,A,B,h,g1,g2,g3⟩:=h;refine(con p A h.both.one h.n1).mono ?_;rintro e w' ⟨he,p',A',hs,hn⟩;exact⟨he,⟨p',p2,A',_,h.code hs hn hf hm,fun e'=>(hs.foot g e').elim g1 (fun e2=>by omega),g2,Nat.lt_of_lt_of_le g3 hs.only.size⟩,fun j=>hs.only.cell (p:=⟨g,j,none⟩) g3 g1⟩
theorem zaf.ref{f:Nat}{args:Array Value}{E:Ending→Prop}(h:zaf W s k n g q1 q2 w)(con:∀p B,zH k p B w→p.nf=q2→10*B.cnt≤n→Calls Tryz.prog f args w fun e w'=>E e∧KOk c k p B w w' q3)(hc:n+10*c≤m)(hf:za7 m q3)(hl:zp q3)(hg:zI q3):Calls Tryz.prog f args w fun e w'=>E e∧zaf W s k m g q1 q3 w'∧zci g w w':=by
 obtain⟨p,p2,A,B,h,g1,g2,g3⟩:=h;refine(con p2 B h.both.two h.n2 h.cnt).mono ?_;rintro e w' ⟨he,p',B',hs,hn,hcn⟩;have hcc:=h.cnt;exact⟨he,⟨p,p',_,B',h.ref hs hn (by omega) hf (by omega) hl hg,g1,fun e'=>(hs.foot g e').elim g2 (fun e2=>by omega),Nat.lt_of_lt_of_le g3 hs.only.size⟩,fun j=>hs.only.cell (p:=⟨g,j,none⟩) g3 g2⟩
end
section
variable{W:World}{s k n g:Nat}{q1 q2:Sk}{w:World}
theorem zhM(h:zaf W s k n g q1 q2 w)(hn:n≤850000)(x kind pl:Int)(data:ByteArray):Calls Tryz.prog 15 #[.pointer (some ⟨s,0,none⟩),.int .i64 x,.int .i64 kind,.int .i64 pl,.string data] w fun e w'=>e=.returned (zae (q1.ask x kind pl data).1)∧zaf W s k (n+3) g (q1.ask x kind pl data).2 q2 w'∧zci g w w' :=
 h.code (E:=fun e=>e=.returned (zae (q1.ask x kind pl data).1)) (fun p A hp he=>by
  subst he;have hf:=h.fits.1.of_nf;exact znh s p A w hp hf.inv (by have:=hf.tags;omega) (by have:=hf.uses;omega) x kind pl data _ _ rfl) (h.fits.1.ask x kind pl data) (by omega)
theorem zgO(h:zaf W s k n g q1 q2 w)(hn:n≤850000)(x kind pl:Int)(data:ByteArray):Calls Tryz.prog 20 #[.pointer (some ⟨k,0,none⟩),.int .i64 x,.int .i64 kind,.int .i64 pl,.string data] w fun e w'=>e=.returned (.int .i64 (q2.ask x kind pl data).1)∧zaf W s k (n+3) g q1 (q2.ask x kind pl data).2 w'∧zci g w w' :=
 h.ref (c:=0) (E:=fun e=>e=.returned (.int .i64 (q2.ask x kind pl data).1)) (fun p B hp he _=>by
  subst he;have hf:=h.fits.2.1.fit.of_nf;exact zqK k p B w hp hf.inv h.fits.2.2.1.of_nf (by have:=hf.tags;omega) (by have:=hf.uses;omega) x kind pl data _ _ rfl) (by omega) (zqr h.fits.2.1 x kind pl data) (h.fits.2.2.1.ask h.fits.2.1.fit.inv.hand.len x kind pl data) (h.fits.2.2.2.ask x kind pl data)
theorem zoX(h:zaf W s k n g q1 q2 w)(hn:n≤850000):Calls Tryz.prog 21 #[.pointer (some ⟨s,0,none⟩)] w fun e w'=>e=.returned (.tuple #[])∧zaf W s k (n+3) g q1.tick q2 w'∧zci g w w' :=
 h.code (E:=fun e=>e=.returned (.tuple #[])) (fun p A hp he=>by
  subst he;have hf:=h.fits.1.of_nf;exact zhE s p A w hp hf.inv (by have:=hf.tags;omega) (by have:=hf.uses;omega) _ rfl) h.fits.1.tick (by omega)
theorem zn5(h:zaf W s k n g q1 q2 w)(hn:n≤850000):Calls Tryz.prog 22 #[.pointer (some ⟨k,0,none⟩)] w fun e w'=>e=.returned (.tuple #[])∧zaf W s k (n+3) g q1 q2.tick w'∧zci g w w' :=
 h.ref (c:=0) (E:=fun e=>e=.returned (.tuple #[])) (fun p B hp he _=>by
  subst he;have hf:=h.fits.2.1.fit.of_nf;exact zjx k p B w hp hf.inv h.fits.2.2.1.of_nf (by have:=hf.tags;omega) (by have:=hf.uses;omega) _ rfl) (by omega) (zjL h.fits.2.1) h.fits.2.2.1.tick h.fits.2.2.2.tick
theorem znr(h:zaf W s k n g q1 q2 w)(hn:n≤850000):Calls Tryz.prog 23 #[.pointer (some ⟨s,0,none⟩)] w fun e w'=>e=.returned (.bool q1.clean.1)∧zaf W s k (n+3) g q1.clean.2 q2 w'∧zci g w w' :=
 h.code (E:=fun e=>e=.returned (.bool q1.clean.1)) (fun p A hp he=>by
  subst he;have hf:=h.fits.1.of_nf;exact zgd s p A w hp hf.inv (by have:=hf.tags;omega) _ _ rfl) (h.fits.1.clean.mono (by omega)) (by omega)
theorem zmj(h:zaf W s k n g q1 q2 w)(hn:n≤850000):Calls Tryz.prog 24 #[.pointer (some ⟨k,0,none⟩)] w fun e w'=>e=.returned (.bool q2.clean.1)∧zaf W s k (n+3) g q1 q2.clean.2 w'∧zci g w w' :=
 h.ref (c:=0) (E:=fun e=>e=.returned (.bool q2.clean.1)) (fun p B hp he _=>by
  subst he;have hf:=h.fits.2.1.fit.of_nf;exact zhd k p B w hp hf.inv (by have:=hf.tags;omega) _ _ rfl) (by omega) (zcp (ziF h.fits.2.1) (by omega)) h.fits.2.2.1.clean h.fits.2.2.2.clean
theorem zj6(h:zaf W s k n g q1 q2 w):Calls Tryz.prog 25 #[.pointer (some ⟨s,0,none⟩)] w fun e w'=>e=.returned (.bool q1.dispatch.1)∧zaf W s k (n+3) g q1.dispatch.2 q2 w'∧zci g w w' :=
 h.code (E:=fun e=>e=.returned (.bool q1.dispatch.1)) (fun p A hp he=>by
  subst he;exact zeg s p A w hp h.fits.1.of_nf.inv _ _ rfl) (h.fits.1.dispatch.mono (by omega)) (by omega)
theorem zi3(h:zaf W s k n g q1 q2 w):Calls Tryz.prog 26 #[.pointer (some ⟨k,0,none⟩)] w fun e w'=>e=.returned (.bool q2.dispatch.1)∧zaf W s k (n+3) g q1 q2.dispatch.2 w'∧zci g w w' :=
 h.ref (c:=0) (E:=fun e=>e=.returned (.bool q2.dispatch.1)) (fun p B hp he _=>by
  subst he;exact zdT k p B w hp h.fits.2.1.fit.of_nf.inv _ _ rfl) (by omega) (zcp (zgm h.fits.2.1) (by omega)) h.fits.2.2.1.dispatch h.fits.2.2.2.dispatch
theorem zkC(h:zaf W s k n g q1 q2 w)(hn:n≤850000)(i:Int)(fl:Bool):Calls Tryz.prog 27 #[.pointer (some ⟨s,0,none⟩),.int .i64 i,.bool fl] w fun e w'=>e=.returned (zae (q1.end' i fl).1)∧zaf W s k (n+7) g (q1.end' i fl).2 q2 w'∧zci g w w' :=
 h.code (E:=fun e=>e=.returned (zae (q1.end' i fl).1)) (fun p A hp he=>by
  subst he;have hf:=h.fits.1.of_nf;exact zhG s p A w hp hf.inv hf.short (by have:=hf.tags;omega) (by have:=hf.uses;omega) (by have:=hf.ag;omega) i fl _ _ rfl) (h.fits.1.end' i fl) (by omega)
theorem zjs(h:zaf W s k n g q1 q2 w)(hn:n≤850000)(i:Int)(fl:Bool):Calls Tryz.prog 28 #[.pointer (some ⟨k,0,none⟩),.int .i64 i,.bool fl] w fun e w'=>e=.returned (.int .i64 (q2.end' i fl).1)∧zaf W s k (n+10) g q1 (q2.end' i fl).2 w'∧zci g w w' :=
 h.ref (c:=1) (E:=fun e=>e=.returned (.int .i64 (q2.end' i fl).1)) (fun p B hp he hc=>by
  subst he;exact zkX k p B w hp n h.fits.2.1 (by omega) (by omega) h.fits.2.2.1 i fl _ _ rfl) (by omega) (zcp (zqO h.fits.2.1 i fl) (by omega)) (h.fits.2.2.1.end' i fl) (h.fits.2.2.2.end' i fl)
theorem znH(h:zaf W s k n g q1 q2 w)(hn:n≤850000):Calls Tryz.prog 29 #[.pointer (some ⟨s,0,none⟩)] w fun e w'=>e=.returned (.tuple #[])∧zaf W s k (n+11) g q1.round q2 w'∧zci g w w' :=
 h.code (E:=fun e=>e=.returned (.tuple #[])) (fun p A hp he=>by
  subst he;refine(zjZ ⟨p,A,w⟩ w s A.b p.nf n ⟨p,A,zG.same' hp (Below.refl _ _),rfl,rfl⟩ h.fits.1 (by omega) _ rfl).mono ?_;rintro e w' ⟨he,p',A',hs,hn',-⟩;exact⟨he,p',A',hs,hn'⟩) h.fits.1.round (by omega)
theorem zmZ(h:zaf W s k n g q1 q2 w)(hn:n≤850000):Calls Tryz.prog 30 #[.pointer (some ⟨k,0,none⟩)] w fun e w'=>e=.returned (.tuple #[])∧zaf W s k (n+11) g q1 q2.round w'∧zci g w w' :=
 h.ref (c:=1) (E:=fun e=>e=.returned (.tuple #[])) (fun p B hp he hc=>by
  subst he;exact zix k p B w hp n h.fits.2.1 h.fits.2.2.1 (by omega) (by omega) _ rfl) (by omega) h.fits.2.1.round h.fits.2.2.1.round h.fits.2.2.2.round
theorem zl6(h:zaf W s k n g q1 q2 w)(m:Nat)(hn:n+11*m≤850000):Calls Tryz.prog 31 #[.pointer (some ⟨s,0,none⟩),.int .i64 m] w fun e w'=>e=.returned (.tuple #[.int .i64 (q1.settle m).1,.bool (q1.settle m).2.quiet])∧zaf W s k (n+11*m) g (q1.settle m).2 q2 w'∧zci g w w' :=
 h.code (E:=fun e=>e=.returned (.tuple #[.int .i64 (q1.settle m).1,.bool (q1.settle m).2.quiet])) (fun p A hp he=>by
  subst he;refine(znv ⟨p,A,w⟩ w s A.b p.nf n m ⟨p,A,zG.same' hp (Below.refl _ _),rfl,rfl⟩ h.fits.1 (by omega) _ _ rfl _ rfl).mono ?_;rintro e w' ⟨he,p',A',hs,hn',-⟩;exact⟨he,p',A',hs,hn'⟩) (h.fits.1.settle m) (by omega)
theorem zk3(h:zaf W s k n g q1 q2 w)(m:Nat)(hn:n+11*m≤850000):Calls Tryz.prog 32 #[.pointer (some ⟨k,0,none⟩),.int .i64 m] w fun e w'=>e=.returned (.tuple #[.int .i64 (q2.settle m).1,.bool (q2.settle m).2.quiet])∧zaf W s k (n+11*m) g q1 (q2.settle m).2 w'∧zci g w w' :=
 h.ref (c:=m) (E:=fun e=>e=.returned (.tuple #[.int .i64 (q2.settle m).1,.bool (q2.settle m).2.quiet])) (fun p B hp he hc=>by
  subst he;exact zmr k p B w hp n m h.fits.2.1 h.fits.2.2.1 (by omega) (by omega) _ _ rfl _ rfl) (by omega) (zmF m h.fits.2.1) (h.fits.2.2.1.settle m) (h.fits.2.2.2.settle m)
end
theorem zbH{bm:Nat}{W w w':World}(h:Below W.heap.size W w)(ht:w.mapTurned w' bm)(hb:W.heap.size≤bm):Below W.heap.size W w':=by
 have g:=ht.grown;have hs:=h.size;exact⟨g.os.trans h.os,g.tape.trans h.tape,g.output.trans h.output,Nat.le_trans h.size g.size,fun k hk=>(g.block k (by omega) (fun e=>by have:=Option.some.inj e;omega)).trans (h.block k hk)⟩
theorem zaR{P:Program}(w:World){ops:Array Oper}{rest:List Oper}{o:Oper}{a:Act}{Q:Exit→Act→World→Prop}(hg:o.guard=none)(m x v:Operand)(t:TypeId)(hop:o.op=Op.insert t m x v)
  (k e:TypeId) (K:Keyed P k) (ht:P.underlying t=some (.map k e)) (R:Value→Option (DataW Unit × List MemPlace)) (b n:Nat) (D:DataW Unit)
  (hm:a.eval m=.map (some b)) (hown:w.ownsMap P k R b n D) (hn:n<maxLen) (key val:Value) (kl:Lit) (hx:a.eval x=key) (hv:a.eval v=val) (hkey:keyOf P k key=some kl)
  (d:DataW Unit) (ps:List MemPlace) (hval:R val=some (d,ps))
  (hK:∀w',w'.ownsMap P k R b (n+1) (D.put kl d)→w.mapTurned w' b→wpList P ops Q rest (a.put o.dst undef) w') :
  wpList P ops Q (o::rest) a w:=by
 refine wpList_plain hg fun K' hK'=>?_
 obtain⟨w',hrun,r1,r2⟩:=hown.store K ht hn hkey hval;unfold Oper.wp
 simp[execOp,hop,hm,hx,hv,hrun,Result.andThen]
 exact hK' _ _ (hK w' r1 r2)
def zfq(w0:World)(k:Nat)(D:DataW Unit)(w':World):Prop:=w'.ownsMap Tryz.prog 9 (plainElem Tryz.prog 3) w0.heap.size k D∧Below w0.heap.size w0 w'
theorem zhz(w0:World):zfq w0 0 (.map []) (w0.alloc (.map #[] 0)):=⟨World.ownsMap_made w0 _ _ _,zn w0 _⟩
def zdz:ByteArray:=⟨#[114,101,97,100]⟩
def zc0:ByteArray:=⟨#[119,114,105,116,101]⟩
def zdO:ByteArray:=⟨#[115,121,110,99]⟩
theorem zfQ{D:DataW Unit}(h:IsMap D)(k:Lit)(d:DataW Unit):IsMap (D.put k d):=by
 obtain⟨l,rfl⟩:=h;exact⟨_,rfl⟩
theorem zhJ{s t:ByteArray}(h:¬s=t):(Lit.string s.data.toList) ≠ (Lit.string t.data.toList):=by
 intro e;simp only[Lit.string.injEq] at e;apply h
 cases s;cases t
 simp only[ByteArray.mk.injEq];exact Array.toList_inj.1 e
def zdI:DataW Unit:=(((DataW.map []).put (.string zdz.data.toList) (.lit (.int .i64 1))).put (.string zc0.data.toList) (.lit (.int .i64 2))).put (.string zdO.data.toList) (.lit (.int .i64 3))
theorem zop{c:Int}(h:zdI.atKey (.string zdz.data.toList) (.lit (.int .i64 0))=.lit (.int .i64 c)):c=1:=by
 unfold zdI at h;rw[atKey_put_other (zhJ (by decide)),atKey_put_other (zhJ (by decide)),atKey_put_same ⟨_,rfl⟩ (by trivial)] at h;injection h with e;injection e with _ e;exact e.symm
theorem zmT{c:Int}(h:zdI.atKey (.string zc0.data.toList) (.lit (.int .i64 0))=.lit (.int .i64 c)):c=2:=by
 unfold zdI at h;rw[atKey_put_other (zhJ (by decide)),atKey_put_same (zfQ ⟨_,rfl⟩ _ _) (by trivial)] at h;injection h with e;injection e with _ e;exact e.symm
theorem zoj{c:Int}(h:zdI.atKey (.string zdO.data.toList) (.lit (.int .i64 0))=.lit (.int .i64 c)):c=3:=by
 unfold zdI at h;rw[atKey_put_same (zfQ (zfQ ⟨_,rfl⟩ _ _) _ _) (by trivial)] at h;injection h with e;injection e with _ e;exact e.symm
theorem zlA(w:World):(zeroValue 3).run Tryz.prog w=.ok (.int .i64 0) w:=by kernel_rfl
theorem ziP(s:ByteArray)(h:s.size≤9223372036854775807):keyOf Tryz.prog 9 (.string s)=some (.string s.data.toList):=WideMaps.keyOf_string_mk Tryz.underlying9 (by unfold maxLen;exact h)
theorem zkN(q:Sk)(x kind pl:Int)(data:ByteArray):0≤(q.ask x kind pl data).1:=by
 unfold Sk.ask
 split
 ·show 0≤zag x kind pl data;unfold zag
  split
  ·omega
  ·split
   ·omega
   ·split<;>omega
 ·split
  ·show(0:Int)≤6;omega
  ·show(0:Int)≤0;omega
theorem zpR(q:Sk)(i:Int)(fl:Bool):0≤(q.end' i fl).1:=by
 unfold Sk.end'
 split
 ·show(0:Int)≤5;omega
 ·split
  ·show(0:Int)≤5;omega
  ·split
   ·show(0:Int)≤0;omega
   ·split
    ·show(0:Int)≤0;omega
    ·split
     ·show(0:Int)≤0;omega
     ·show(0:Int)≤0;omega
theorem Pr.mono{W:World}{s k n m:Nat}{q:Sk}{w:World}(h:Pr W s k n q w)(hm:n≤m):Pr W s k m q w:=by
 obtain⟨p,p2,A,B,h⟩:=h;exact⟨p,p2,A,B,⟨h.both,h.n1,h.n2,Nat.le_trans h.cnt hm,h.f1.mono hm,zcp h.f2 hm,h.left,h.got,h.w1,h.w2,h.bel⟩⟩
def zbQ(W:World)(s k n:Nat)(e:Ending)(w':World):Prop:=e=.returned (.bool true)∧∃q',Pr W s k n q' w'
section
variable(W:World)(s k n:Nat)(q:Sk)(w:World)
theorem zkH(h:Pr W s k n q w)(hn:n≤800000)(xa xb:Int)(dt:ByteArray) :
  Calls Tryz.prog 10 #[.pointer (some ⟨s,0,none⟩),.pointer (some ⟨k,0,none⟩),.agg #[.string ⟨#[114,101,97,100]⟩,.int .i64 xa,.int .i64 xb,.string dt]] w (zbQ W s k (n+11)):=by
 have HP:=za h;have hmm:=@run_makeMap Tryz.prog;clear h;go_enter Tryz.func10,Tryz.ntmps10;go_upto_region 5 with fail;refine zai (fun w0=>zaf W s k n w.heap.size q q w0∧w0.cell? ⟨w.heap.size,0,none⟩=some (.string ⟨#[114,101,97,100]⟩)∧w0.cell? ⟨w.heap.size,1,none⟩=some (.int .i64 xa)∧w0.cell? ⟨w.heap.size,2,none⟩=some (.int .i64 xb)∧w0.cell? ⟨w.heap.size,3,none⟩=some (.string dt)) ⟨HP.out.box (zn w _) (by simp),by simp,by simp,by simp,by simp⟩ ?_;rintro w0 ⟨hpg,b0,b1,b2,b3⟩;have HPG:=za hpg;clear hpg HP;generalize w.heap.size=g at *;have lg:=zg b0;have H0:=za (zhz w0);go_wp2_with(first|(obtain⟨ho,hb⟩:=H0.out;have HB:=za hb;clear hb;have hkey:keyOf Tryz.prog 9 (.string zdz)=some (.string zdz.data.toList):=WideMaps.keyOf_string_mk Tryz.underlying9 (by unfold maxLen;decide);refine zaR _ rfl _ _ _ 74 rfl 9 3 (string_keyed Tryz.underlying9) Tryz.underlying74 (plainElem Tryz.prog 3) w0.heap.size 0 _ rfl ho (by unfold maxLen;omega) _ _ _ rfl rfl hkey _ [] (plainElem_int Tryz.underlying3 (WalkArith.wf_i64 (by omega))) ?_;intro w2 ho2 ht2;have H1:Hid (zfq w0 (0+1) _ w2):=⟨ho2,zbH HB.out ht2 (Nat.le_refl _)⟩;(try clear z0);have z0:=cellB_later' H1.out.2 b0;clear ho ho2 ht2 HB hkey H0)|(obtain⟨ho,hb⟩:=H1.out;have HB:=za hb;clear hb;have hkey:keyOf Tryz.prog 9 (.string zc0)=some (.string zc0.data.toList):=WideMaps.keyOf_string_mk Tryz.underlying9 (by unfold maxLen;decide);refine zaR _ rfl _ _ _ 74 rfl 9 3 (string_keyed Tryz.underlying9) Tryz.underlying74 (plainElem Tryz.prog 3) w0.heap.size 1 _ rfl ho (by unfold maxLen;omega) _ _ _ rfl rfl hkey _ [] (plainElem_int Tryz.underlying3 (WalkArith.wf_i64 (by omega))) ?_;intro w2 ho2 ht2;have H2:Hid (zfq w0 (1+1) _ w2):=⟨ho2,zbH HB.out ht2 (Nat.le_refl _)⟩;(try clear z0);have z0:=cellB_later' H2.out.2 b0;clear ho ho2 ht2 HB hkey H1)|(obtain⟨ho,hb⟩:=H2.out;have HB:=za hb;clear hb;have hkey:keyOf Tryz.prog 9 (.string zdO)=some (.string zdO.data.toList):=WideMaps.keyOf_string_mk Tryz.underlying9 (by unfold maxLen;decide);refine zaR _ rfl _ _ _ 74 rfl 9 3 (string_keyed Tryz.underlying9) Tryz.underlying74 (plainElem Tryz.prog 3) w0.heap.size 2 _ rfl ho (by unfold maxLen;omega) _ _ _ rfl rfl hkey _ [] (plainElem_int Tryz.underlying3 (WalkArith.wf_i64 (by omega))) ?_;intro w2 ho2 ht2;have H3:Hid (zfq w0 (2+1) _ w2):=⟨ho2,zbH HB.out ht2 (Nat.le_refl _)⟩;(try clear z0);have z0:=cellB_later' H3.out.2 b0;clear ho ho2 ht2 HB hkey H2)|(at_lookup;refine wpList_lookup_own_int _ rfl _ _ 74 rfl 9 3 .i64 (string_keyed Tryz.underlying9) Tryz.underlying74 Tryz.underlying3 (zlA _) w0.heap.size 3 zdI rfl H3.out.1 _ _ rfl (ziP zdz (by decide)) ?_;intro c hat hwc;obtain rfl:c=1:=zop hat;clear hat hwc;have HP3:=za (HPG.out.later H3.out.2);have a1:=cellB_later' H3.out.2 b1;have a2:=cellB_later' H3.out.2 b2;have a3:=cellB_later' H3.out.2 b3;(try clear z0);clear H3 HPG b0 b1 b2 b3));go_region_held3 (fun w'=>w'.cell? ⟨g,1,none⟩=some (.int .i64 xa)∧w'.cell? ⟨g,2,none⟩=some (.int .i64 xb)∧w'.cell? ⟨g,3,none⟩=some (.string dt)) (first|exact⟨cellB_later' (w:=w2) (Below.refl _ _) a1,cellB_later' (w:=w2) (Below.refl _ _) a2,cellB_later' (w:=w2) (Below.refl _ _) a3⟩|exact⟨cellB_later' (w:=w2) (Below.refl _ _).drew a1,cellB_later' (w:=w2) (Below.refl _ _).drew a2,cellB_later' (w:=w2) (Below.refl _ _).drew a3⟩|exact⟨by assumption,by assumption,by assumption⟩) (first|(go_at_call 15;refine(zhM (HP3.out.later (by(with_reducible repeat first|exact Below.refl _ _|refine zc ?_ _|refine zd ?_|refine bset' ?_ (by omega) _|refine zb ?_ (by assumption)))) (by omega) xa 1 xb dt).mono ?_;rintro e wA ⟨rfl,hpA,hsA⟩;have HPA:=za hpA;have d1:=(hsA 1).trans (cellB_later' (w:=w2) (by(with_reducible repeat first|exact Below.refl _ _|refine zc ?_ _|refine zd ?_|refine bset' ?_ (by omega) _|refine zb ?_ (by assumption))) a1);have d2:=(hsA 2).trans (cellB_later' (w:=w2) (by(with_reducible repeat first|exact Below.refl _ _|refine zc ?_ _|refine zd ?_|refine bset' ?_ (by omega) _|refine zb ?_ (by assumption))) a2);have d3:=(hsA 3).trans (cellB_later' (w:=w2) (by(with_reducible repeat first|exact Below.refl _ _|refine zc ?_ _|refine zd ?_|refine bset' ?_ (by omega) _|refine zb ?_ (by assumption))) a3))|(go_at_call 20;refine(zgO (HPA.out.later (by(with_reducible repeat first|exact Below.refl _ _|refine zc ?_ _|refine zd ?_|refine bset' ?_ (by omega) _|refine zb ?_ (by assumption)))) (by omega) xa 1 xb dt).mono ?_;rintro e wB ⟨rfl,hpB,hsB⟩;have HPB:=za hpB;have f1:=(hsB 1).trans (cellB_later' (w:=wA) (by(with_reducible repeat first|exact Below.refl _ _|refine zc ?_ _|refine zd ?_|refine bset' ?_ (by omega) _|refine zb ?_ (by assumption))) d1);have f2:=(hsB 2).trans (cellB_later' (w:=wA) (by(with_reducible repeat first|exact Below.refl _ _|refine zc ?_ _|refine zd ?_|refine bset' ?_ (by omega) _|refine zb ?_ (by assumption))) d2);have f3:=(hsB 3).trans (cellB_later' (w:=wA) (by(with_reducible repeat first|exact Below.refl _ _|refine zc ?_ _|refine zd ?_|refine bset' ?_ (by omega) _|refine zb ?_ (by assumption))) d3))|(go_at_call 17;refine(zdk (q.ask xa 1 xb dt).1 _ (zkN q xa 1 xb dt)).mono ?_;rintro e wC ⟨rfl,hbC⟩;have m1:=cellB_later' hbC f1;have m2:=cellB_later' hbC f2;have m3:=cellB_later' hbC f3));all_goals (have HF:Hid (zaf W s k (n+3+3) g (q.ask xa 1 xb dt).2 (q.ask xa 1 xb dt).2 wC):=HPB.out.later (by(with_reducible repeat first|exact Below.refl _ _|refine zc ?_ _|refine zd ?_|refine bset' ?_ (by omega) _|refine zb ?_ (by assumption)));(clear hpA hsA hpB hsB hbC);go_wp2;go_ret;exact⟨rfl,_,HF.out.pr.mono (by omega)⟩)
theorem zke(h:Pr W s k n q w)(hn:n≤800000)(xa xb:Int)(dt:ByteArray) :
  Calls Tryz.prog 10 #[.pointer (some ⟨s,0,none⟩),.pointer (some ⟨k,0,none⟩),.agg #[.string ⟨#[119,114,105,116,101]⟩,.int .i64 xa,.int .i64 xb,.string dt]] w (zbQ W s k (n+11)):=by
 have HP:=za h;have hmm:=@run_makeMap Tryz.prog;clear h;go_enter Tryz.func10,Tryz.ntmps10;go_upto_region 5 with fail;refine zai (fun w0=>zaf W s k n w.heap.size q q w0∧w0.cell? ⟨w.heap.size,0,none⟩=some (.string ⟨#[119,114,105,116,101]⟩)∧w0.cell? ⟨w.heap.size,1,none⟩=some (.int .i64 xa)∧w0.cell? ⟨w.heap.size,2,none⟩=some (.int .i64 xb)∧w0.cell? ⟨w.heap.size,3,none⟩=some (.string dt)) ⟨HP.out.box (zn w _) (by simp),by simp,by simp,by simp,by simp⟩ ?_;rintro w0 ⟨hpg,b0,b1,b2,b3⟩;have HPG:=za hpg;clear hpg HP;generalize w.heap.size=g at *;have lg:=zg b0;have H0:=za (zhz w0);go_wp2_with(first|(obtain⟨ho,hb⟩:=H0.out;have HB:=za hb;clear hb;have hkey:keyOf Tryz.prog 9 (.string zdz)=some (.string zdz.data.toList):=WideMaps.keyOf_string_mk Tryz.underlying9 (by unfold maxLen;decide);refine zaR _ rfl _ _ _ 74 rfl 9 3 (string_keyed Tryz.underlying9) Tryz.underlying74 (plainElem Tryz.prog 3) w0.heap.size 0 _ rfl ho (by unfold maxLen;omega) _ _ _ rfl rfl hkey _ [] (plainElem_int Tryz.underlying3 (WalkArith.wf_i64 (by omega))) ?_;intro w2 ho2 ht2;have H1:Hid (zfq w0 (0+1) _ w2):=⟨ho2,zbH HB.out ht2 (Nat.le_refl _)⟩;(try clear z0);have z0:=cellB_later' H1.out.2 b0;clear ho ho2 ht2 HB hkey H0)|(obtain⟨ho,hb⟩:=H1.out;have HB:=za hb;clear hb;have hkey:keyOf Tryz.prog 9 (.string zc0)=some (.string zc0.data.toList):=WideMaps.keyOf_string_mk Tryz.underlying9 (by unfold maxLen;decide);refine zaR _ rfl _ _ _ 74 rfl 9 3 (string_keyed Tryz.underlying9) Tryz.underlying74 (plainElem Tryz.prog 3) w0.heap.size 1 _ rfl ho (by unfold maxLen;omega) _ _ _ rfl rfl hkey _ [] (plainElem_int Tryz.underlying3 (WalkArith.wf_i64 (by omega))) ?_;intro w2 ho2 ht2;have H2:Hid (zfq w0 (1+1) _ w2):=⟨ho2,zbH HB.out ht2 (Nat.le_refl _)⟩;(try clear z0);have z0:=cellB_later' H2.out.2 b0;clear ho ho2 ht2 HB hkey H1)|(obtain⟨ho,hb⟩:=H2.out;have HB:=za hb;clear hb;have hkey:keyOf Tryz.prog 9 (.string zdO)=some (.string zdO.data.toList):=WideMaps.keyOf_string_mk Tryz.underlying9 (by unfold maxLen;decide);refine zaR _ rfl _ _ _ 74 rfl 9 3 (string_keyed Tryz.underlying9) Tryz.underlying74 (plainElem Tryz.prog 3) w0.heap.size 2 _ rfl ho (by unfold maxLen;omega) _ _ _ rfl rfl hkey _ [] (plainElem_int Tryz.underlying3 (WalkArith.wf_i64 (by omega))) ?_;intro w2 ho2 ht2;have H3:Hid (zfq w0 (2+1) _ w2):=⟨ho2,zbH HB.out ht2 (Nat.le_refl _)⟩;(try clear z0);have z0:=cellB_later' H3.out.2 b0;clear ho ho2 ht2 HB hkey H2)|(at_lookup;refine wpList_lookup_own_int _ rfl _ _ 74 rfl 9 3 .i64 (string_keyed Tryz.underlying9) Tryz.underlying74 Tryz.underlying3 (zlA _) w0.heap.size 3 zdI rfl H3.out.1 _ _ rfl (ziP zc0 (by decide)) ?_;intro c hat hwc;obtain rfl:c=2:=zmT hat;clear hat hwc;have HP3:=za (HPG.out.later H3.out.2);have a1:=cellB_later' H3.out.2 b1;have a2:=cellB_later' H3.out.2 b2;have a3:=cellB_later' H3.out.2 b3;(try clear z0);clear H3 HPG b0 b1 b2 b3));go_region_held3 (fun w'=>w'.cell? ⟨g,1,none⟩=some (.int .i64 xa)∧w'.cell? ⟨g,2,none⟩=some (.int .i64 xb)∧w'.cell? ⟨g,3,none⟩=some (.string dt)) (first|exact⟨cellB_later' (w:=w2) (Below.refl _ _) a1,cellB_later' (w:=w2) (Below.refl _ _) a2,cellB_later' (w:=w2) (Below.refl _ _) a3⟩|exact⟨cellB_later' (w:=w2) (Below.refl _ _).drew a1,cellB_later' (w:=w2) (Below.refl _ _).drew a2,cellB_later' (w:=w2) (Below.refl _ _).drew a3⟩|exact⟨by assumption,by assumption,by assumption⟩) (first|(go_at_call 15;refine(zhM (HP3.out.later (by(with_reducible repeat first|exact Below.refl _ _|refine zc ?_ _|refine zd ?_|refine bset' ?_ (by omega) _|refine zb ?_ (by assumption)))) (by omega) xa 2 xb dt).mono ?_;rintro e wA ⟨rfl,hpA,hsA⟩;have HPA:=za hpA;have d1:=(hsA 1).trans (cellB_later' (w:=w2) (by(with_reducible repeat first|exact Below.refl _ _|refine zc ?_ _|refine zd ?_|refine bset' ?_ (by omega) _|refine zb ?_ (by assumption))) a1);have d2:=(hsA 2).trans (cellB_later' (w:=w2) (by(with_reducible repeat first|exact Below.refl _ _|refine zc ?_ _|refine zd ?_|refine bset' ?_ (by omega) _|refine zb ?_ (by assumption))) a2);have d3:=(hsA 3).trans (cellB_later' (w:=w2) (by(with_reducible repeat first|exact Below.refl _ _|refine zc ?_ _|refine zd ?_|refine bset' ?_ (by omega) _|refine zb ?_ (by assumption))) a3))|(go_at_call 20;refine(zgO (HPA.out.later (by(with_reducible repeat first|exact Below.refl _ _|refine zc ?_ _|refine zd ?_|refine bset' ?_ (by omega) _|refine zb ?_ (by assumption)))) (by omega) xa 2 xb dt).mono ?_;rintro e wB ⟨rfl,hpB,hsB⟩;have HPB:=za hpB;have f1:=(hsB 1).trans (cellB_later' (w:=wA) (by(with_reducible repeat first|exact Below.refl _ _|refine zc ?_ _|refine zd ?_|refine bset' ?_ (by omega) _|refine zb ?_ (by assumption))) d1);have f2:=(hsB 2).trans (cellB_later' (w:=wA) (by(with_reducible repeat first|exact Below.refl _ _|refine zc ?_ _|refine zd ?_|refine bset' ?_ (by omega) _|refine zb ?_ (by assumption))) d2);have f3:=(hsB 3).trans (cellB_later' (w:=wA) (by(with_reducible repeat first|exact Below.refl _ _|refine zc ?_ _|refine zd ?_|refine bset' ?_ (by omega) _|refine zb ?_ (by assumption))) d3))|(go_at_call 17;refine(zdk (q.ask xa 2 xb dt).1 _ (zkN q xa 2 xb dt)).mono ?_;rintro e wC ⟨rfl,hbC⟩;have m1:=cellB_later' hbC f1;have m2:=cellB_later' hbC f2;have m3:=cellB_later' hbC f3));all_goals (have HF:Hid (zaf W s k (n+3+3) g (q.ask xa 2 xb dt).2 (q.ask xa 2 xb dt).2 wC):=HPB.out.later (by(with_reducible repeat first|exact Below.refl _ _|refine zc ?_ _|refine zd ?_|refine bset' ?_ (by omega) _|refine zb ?_ (by assumption)));(clear hpA hsA hpB hsB hbC);go_wp2;go_ret;exact⟨rfl,_,HF.out.pr.mono (by omega)⟩)
theorem zlP(h:Pr W s k n q w)(hn:n≤800000)(xa xb:Int)(dt:ByteArray) :
  Calls Tryz.prog 10 #[.pointer (some ⟨s,0,none⟩),.pointer (some ⟨k,0,none⟩),.agg #[.string ⟨#[115,121,110,99]⟩,.int .i64 xa,.int .i64 xb,.string dt]] w (zbQ W s k (n+11)):=by
 have HP:=za h;have hmm:=@run_makeMap Tryz.prog;clear h;go_enter Tryz.func10,Tryz.ntmps10;go_upto_region 5 with fail;refine zai (fun w0=>zaf W s k n w.heap.size q q w0∧w0.cell? ⟨w.heap.size,0,none⟩=some (.string ⟨#[115,121,110,99]⟩)∧w0.cell? ⟨w.heap.size,1,none⟩=some (.int .i64 xa)∧w0.cell? ⟨w.heap.size,2,none⟩=some (.int .i64 xb)∧w0.cell? ⟨w.heap.size,3,none⟩=some (.string dt)) ⟨HP.out.box (zn w _) (by simp),by simp,by simp,by simp,by simp⟩ ?_;rintro w0 ⟨hpg,b0,b1,b2,b3⟩;have HPG:=za hpg;clear hpg HP;generalize w.heap.size=g at *;have lg:=zg b0;have H0:=za (zhz w0);go_wp2_with(first|(obtain⟨ho,hb⟩:=H0.out;have HB:=za hb;clear hb;have hkey:keyOf Tryz.prog 9 (.string zdz)=some (.string zdz.data.toList):=WideMaps.keyOf_string_mk Tryz.underlying9 (by unfold maxLen;decide);refine zaR _ rfl _ _ _ 74 rfl 9 3 (string_keyed Tryz.underlying9) Tryz.underlying74 (plainElem Tryz.prog 3) w0.heap.size 0 _ rfl ho (by unfold maxLen;omega) _ _ _ rfl rfl hkey _ [] (plainElem_int Tryz.underlying3 (WalkArith.wf_i64 (by omega))) ?_;intro w2 ho2 ht2;have H1:Hid (zfq w0 (0+1) _ w2):=⟨ho2,zbH HB.out ht2 (Nat.le_refl _)⟩;(try clear z0);have z0:=cellB_later' H1.out.2 b0;clear ho ho2 ht2 HB hkey H0)|(obtain⟨ho,hb⟩:=H1.out;have HB:=za hb;clear hb;have hkey:keyOf Tryz.prog 9 (.string zc0)=some (.string zc0.data.toList):=WideMaps.keyOf_string_mk Tryz.underlying9 (by unfold maxLen;decide);refine zaR _ rfl _ _ _ 74 rfl 9 3 (string_keyed Tryz.underlying9) Tryz.underlying74 (plainElem Tryz.prog 3) w0.heap.size 1 _ rfl ho (by unfold maxLen;omega) _ _ _ rfl rfl hkey _ [] (plainElem_int Tryz.underlying3 (WalkArith.wf_i64 (by omega))) ?_;intro w2 ho2 ht2;have H2:Hid (zfq w0 (1+1) _ w2):=⟨ho2,zbH HB.out ht2 (Nat.le_refl _)⟩;(try clear z0);have z0:=cellB_later' H2.out.2 b0;clear ho ho2 ht2 HB hkey H1)|(obtain⟨ho,hb⟩:=H2.out;have HB:=za hb;clear hb;have hkey:keyOf Tryz.prog 9 (.string zdO)=some (.string zdO.data.toList):=WideMaps.keyOf_string_mk Tryz.underlying9 (by unfold maxLen;decide);refine zaR _ rfl _ _ _ 74 rfl 9 3 (string_keyed Tryz.underlying9) Tryz.underlying74 (plainElem Tryz.prog 3) w0.heap.size 2 _ rfl ho (by unfold maxLen;omega) _ _ _ rfl rfl hkey _ [] (plainElem_int Tryz.underlying3 (WalkArith.wf_i64 (by omega))) ?_;intro w2 ho2 ht2;have H3:Hid (zfq w0 (2+1) _ w2):=⟨ho2,zbH HB.out ht2 (Nat.le_refl _)⟩;(try clear z0);have z0:=cellB_later' H3.out.2 b0;clear ho ho2 ht2 HB hkey H2)|(at_lookup;refine wpList_lookup_own_int _ rfl _ _ 74 rfl 9 3 .i64 (string_keyed Tryz.underlying9) Tryz.underlying74 Tryz.underlying3 (zlA _) w0.heap.size 3 zdI rfl H3.out.1 _ _ rfl (ziP zdO (by decide)) ?_;intro c hat hwc;obtain rfl:c=3:=zoj hat;clear hat hwc;have HP3:=za (HPG.out.later H3.out.2);have a1:=cellB_later' H3.out.2 b1;have a2:=cellB_later' H3.out.2 b2;have a3:=cellB_later' H3.out.2 b3;(try clear z0);clear H3 HPG b0 b1 b2 b3));go_region_held3 (fun w'=>w'.cell? ⟨g,1,none⟩=some (.int .i64 xa)∧w'.cell? ⟨g,2,none⟩=some (.int .i64 xb)∧w'.cell? ⟨g,3,none⟩=some (.string dt)) (first|exact⟨cellB_later' (w:=w2) (Below.refl _ _) a1,cellB_later' (w:=w2) (Below.refl _ _) a2,cellB_later' (w:=w2) (Below.refl _ _) a3⟩|exact⟨cellB_later' (w:=w2) (Below.refl _ _).drew a1,cellB_later' (w:=w2) (Below.refl _ _).drew a2,cellB_later' (w:=w2) (Below.refl _ _).drew a3⟩|exact⟨by assumption,by assumption,by assumption⟩) (first|(go_at_call 15;refine(zhM (HP3.out.later (by(with_reducible repeat first|exact Below.refl _ _|refine zc ?_ _|refine zd ?_|refine bset' ?_ (by omega) _|refine zb ?_ (by assumption)))) (by omega) xa 3 xb dt).mono ?_;rintro e wA ⟨rfl,hpA,hsA⟩;have HPA:=za hpA;have d1:=(hsA 1).trans (cellB_later' (w:=w2) (by(with_reducible repeat first|exact Below.refl _ _|refine zc ?_ _|refine zd ?_|refine bset' ?_ (by omega) _|refine zb ?_ (by assumption))) a1);have d2:=(hsA 2).trans (cellB_later' (w:=w2) (by(with_reducible repeat first|exact Below.refl _ _|refine zc ?_ _|refine zd ?_|refine bset' ?_ (by omega) _|refine zb ?_ (by assumption))) a2);have d3:=(hsA 3).trans (cellB_later' (w:=w2) (by(with_reducible repeat first|exact Below.refl _ _|refine zc ?_ _|refine zd ?_|refine bset' ?_ (by omega) _|refine zb ?_ (by assumption))) a3))|(go_at_call 20;refine(zgO (HPA.out.later (by(with_reducible repeat first|exact Below.refl _ _|refine zc ?_ _|refine zd ?_|refine bset' ?_ (by omega) _|refine zb ?_ (by assumption)))) (by omega) xa 3 xb dt).mono ?_;rintro e wB ⟨rfl,hpB,hsB⟩;have HPB:=za hpB;have f1:=(hsB 1).trans (cellB_later' (w:=wA) (by(with_reducible repeat first|exact Below.refl _ _|refine zc ?_ _|refine zd ?_|refine bset' ?_ (by omega) _|refine zb ?_ (by assumption))) d1);have f2:=(hsB 2).trans (cellB_later' (w:=wA) (by(with_reducible repeat first|exact Below.refl _ _|refine zc ?_ _|refine zd ?_|refine bset' ?_ (by omega) _|refine zb ?_ (by assumption))) d2);have f3:=(hsB 3).trans (cellB_later' (w:=wA) (by(with_reducible repeat first|exact Below.refl _ _|refine zc ?_ _|refine zd ?_|refine bset' ?_ (by omega) _|refine zb ?_ (by assumption))) d3))|(go_at_call 17;refine(zdk (q.ask xa 3 xb dt).1 _ (zkN q xa 3 xb dt)).mono ?_;rintro e wC ⟨rfl,hbC⟩;have m1:=cellB_later' hbC f1;have m2:=cellB_later' hbC f2;have m3:=cellB_later' hbC f3));all_goals (have HF:Hid (zaf W s k (n+3+3) g (q.ask xa 3 xb dt).2 (q.ask xa 3 xb dt).2 wC):=HPB.out.later (by(with_reducible repeat first|exact Below.refl _ _|refine zc ?_ _|refine zd ?_|refine bset' ?_ (by omega) _|refine zb ?_ (by assumption)));(clear hpA hsA hpB hsB hbC);go_wp2;go_ret;exact⟨rfl,_,HF.out.pr.mono (by omega)⟩)
end
section
variable(W:World)(s k n:Nat)(q:Sk)(w:World)
theorem zlC(h:Pr W s k n q w)(hn:n≤800000)(xa xb:Int)(dt:ByteArray) :
  Calls Tryz.prog 10 #[.pointer (some ⟨s,0,none⟩),.pointer (some ⟨k,0,none⟩),.agg #[.string ⟨#[116,105,99,107]⟩,.int .i64 xa,.int .i64 xb,.string dt]] w (zbQ W s k (n+11)):=by
 have HP:=za h;clear h;go_enter Tryz.func10,Tryz.ntmps10;go_wp2_with fail;refine(zoX (HP.out.box (zn w _) (by simp)) (by omega)).mono ?_;rintro e wA ⟨rfl,hpA,-⟩;have HPA:=za hpA;clear hpA HP;go_wp2_with fail;refine(zn5 HPA.out (by omega)).mono ?_;rintro e wB ⟨rfl,hpB,-⟩;have HPB:=za hpB;clear hpB HPA;go_wp2;go_ret;exact⟨rfl,_,HPB.out.pr.mono (by omega)⟩
theorem zj3(h:Pr W s k n q w)(hn:n≤800000)(xa xb:Int)(dt:ByteArray) :
  Calls Tryz.prog 10 #[.pointer (some ⟨s,0,none⟩),.pointer (some ⟨k,0,none⟩),.agg #[.string ⟨#[99,108,101,97,110]⟩,.int .i64 xa,.int .i64 xb,.string dt]] w (zbQ W s k (n+11)):=by
 have HP:=za h;clear h;go_enter Tryz.func10,Tryz.ntmps10;go_wp2_with fail;refine(znr (HP.out.box (zn w _) (by simp)) (by omega)).mono ?_;have HC:=za (fun wA=>zmj (W:=W) (s:=s) (k:=k) (n:=n+3) (g:=w.heap.size) (q1:=q.clean.2) (q2:=q) (w:=wA));obtain⟨t,ht⟩:∃t,q.clean.1=t:=⟨_,rfl⟩
 rw[ht] at HC;rw[ht];clear ht;rintro e wA ⟨rfl,hpA,-⟩;have HPA:=za hpA;clear hpA HP;go_wp2_with fail;refine(HC.out _ HPA.out (by omega)).mono ?_;rintro e wB ⟨rfl,hpB,-⟩;have HPB:=za hpB;have ht2:(t==t)=true:=by simp
 clear hpB HPA HC;go_wp2;go_ret;exact⟨by first|rfl|simp,_,HPB.out.pr.mono (by omega)⟩
theorem zhK(h:Pr W s k n q w)(xa xb:Int)(dt:ByteArray) :
  Calls Tryz.prog 10 #[.pointer (some ⟨s,0,none⟩),.pointer (some ⟨k,0,none⟩),.agg #[.string ⟨#[100,105,115,112,97,116,99,104]⟩,.int .i64 xa,.int .i64 xb,.string dt]] w (zbQ W s k (n+11)):=by
 have HP:=za h;clear h;go_enter Tryz.func10,Tryz.ntmps10;go_wp2_with fail;refine(zj6 (HP.out.box (zn w _) (by simp))).mono ?_;have HC:=za (fun wA=>zi3 (W:=W) (s:=s) (k:=k) (n:=n+3) (g:=w.heap.size) (q1:=q.dispatch.2) (q2:=q) (w:=wA));obtain⟨t,ht⟩:∃t,q.dispatch.1=t:=⟨_,rfl⟩
 rw[ht] at HC;rw[ht];clear ht;rintro e wA ⟨rfl,hpA,-⟩;have HPA:=za hpA;clear hpA HP;go_wp2_with fail;refine(HC.out _ HPA.out).mono ?_;rintro e wB ⟨rfl,hpB,-⟩;have HPB:=za hpB;have ht2:(t==t)=true:=by simp
 clear hpB HPA HC;go_wp2;go_ret;exact⟨by first|rfl|simp,_,HPB.out.pr.mono (by omega)⟩
theorem zmV(h:Pr W s k n q w)(hn:n≤800000)(xa xb:Int)(dt:ByteArray) :
  Calls Tryz.prog 10 #[.pointer (some ⟨s,0,none⟩),.pointer (some ⟨k,0,none⟩),.agg #[.string ⟨#[101,110,100]⟩,.int .i64 xa,.int .i64 xb,.string dt]] w (zbQ W s k (n+17)):=by
 have HP:=za h;clear h;go_enter Tryz.func10,Tryz.ntmps10;go_upto_region 16 with fail;refine zai (fun w0=>zaf W s k n w.heap.size q q w0∧w0.cell? ⟨w.heap.size,0,none⟩=some (.string ⟨#[101,110,100]⟩)∧w0.cell? ⟨w.heap.size,1,none⟩=some (.int .i64 xa)) ⟨HP.out.box (zn w _) (by simp),by simp,by simp⟩ ?_;rintro w0 ⟨hpg,b0,b1⟩;have HPG:=za hpg;clear hpg HP;generalize w.heap.size=g at *;have lg:=zg b0;go_region_held3 (fun w'=>w'.cell? ⟨g,0,none⟩=some (.string ⟨#[101,110,100]⟩)∧w'.cell? ⟨g,1,none⟩=some (.int .i64 xa)) (first|exact⟨cellB_later' (w:=w0) (Below.refl _ _) b0,cellB_later' (w:=w0) (Below.refl _ _) b1⟩|exact⟨cellB_later' (w:=w0) (Below.refl _ _).drew b0,cellB_later' (w:=w0) (Below.refl _ _).drew b1⟩|exact⟨by assumption,by assumption⟩) (first|(go_at_call 27;refine(zkC (HPG.out.later (by(with_reducible repeat first|exact Below.refl _ _|refine zc ?_ _|refine zd ?_|refine bset' ?_ (by omega) _|refine zb ?_ (by assumption)))) (by omega) xa false).mono ?_;rintro e wA ⟨rfl,hpA,hsA⟩;have HPA:=za hpA;have d0:=(hsA 0).trans (cellB_later' (w:=w0) (by(with_reducible repeat first|exact Below.refl _ _|refine zc ?_ _|refine zd ?_|refine bset' ?_ (by omega) _|refine zb ?_ (by assumption))) b0);have d1:=(hsA 1).trans (cellB_later' (w:=w0) (by(with_reducible repeat first|exact Below.refl _ _|refine zc ?_ _|refine zd ?_|refine bset' ?_ (by omega) _|refine zb ?_ (by assumption))) b1))|(go_at_call 28;refine(zjs (HPA.out.later (by(with_reducible repeat first|exact Below.refl _ _|refine zc ?_ _|refine zd ?_|refine bset' ?_ (by omega) _|refine zb ?_ (by assumption)))) (by omega) xa false).mono ?_;rintro e wB ⟨rfl,hpB,hsB⟩;have HPB:=za hpB;have f0:=(hsB 0).trans (cellB_later' (w:=wA) (by(with_reducible repeat first|exact Below.refl _ _|refine zc ?_ _|refine zd ?_|refine bset' ?_ (by omega) _|refine zb ?_ (by assumption))) d0);have f1:=(hsB 1).trans (cellB_later' (w:=wA) (by(with_reducible repeat first|exact Below.refl _ _|refine zc ?_ _|refine zd ?_|refine bset' ?_ (by omega) _|refine zb ?_ (by assumption))) d1))|(go_at_call 17;refine(zdk (q.end' xa false).1 _ (zpR q xa false)).mono ?_;rintro e wC ⟨rfl,hbC⟩;have m0:=cellB_later' hbC f0;have m1:=cellB_later' hbC f1));all_goals (have HF:Hid (zaf W s k (n+7+10) g (q.end' xa false).2 (q.end' xa false).2 wC):=HPB.out.later (by(with_reducible repeat first|exact Below.refl _ _|refine zc ?_ _|refine zd ?_|refine bset' ?_ (by omega) _|refine zb ?_ (by assumption)));(clear hpA hsA hpB hsB hbC);go_wp2;go_ret;exact⟨rfl,_,HF.out.pr.mono (by omega)⟩)
theorem zkk(h:Pr W s k n q w)(hn:n≤800000)(xa xb:Int)(dt:ByteArray) :
  Calls Tryz.prog 10 #[.pointer (some ⟨s,0,none⟩),.pointer (some ⟨k,0,none⟩),.agg #[.string ⟨#[102,97,117,108,116]⟩,.int .i64 xa,.int .i64 xb,.string dt]] w (zbQ W s k (n+17)):=by
 have HP:=za h;clear h;go_enter Tryz.func10,Tryz.ntmps10;go_upto_region 16 with fail;refine zai (fun w0=>zaf W s k n w.heap.size q q w0∧w0.cell? ⟨w.heap.size,0,none⟩=some (.string ⟨#[102,97,117,108,116]⟩)∧w0.cell? ⟨w.heap.size,1,none⟩=some (.int .i64 xa)) ⟨HP.out.box (zn w _) (by simp),by simp,by simp⟩ ?_;rintro w0 ⟨hpg,b0,b1⟩;have HPG:=za hpg;clear hpg HP;generalize w.heap.size=g at *;have lg:=zg b0;go_region_held3 (fun w'=>w'.cell? ⟨g,0,none⟩=some (.string ⟨#[102,97,117,108,116]⟩)∧w'.cell? ⟨g,1,none⟩=some (.int .i64 xa)) (first|exact⟨cellB_later' (w:=w0) (Below.refl _ _) b0,cellB_later' (w:=w0) (Below.refl _ _) b1⟩|exact⟨cellB_later' (w:=w0) (Below.refl _ _).drew b0,cellB_later' (w:=w0) (Below.refl _ _).drew b1⟩|exact⟨by assumption,by assumption⟩) (first|(go_at_call 27;refine(zkC (HPG.out.later (by(with_reducible repeat first|exact Below.refl _ _|refine zc ?_ _|refine zd ?_|refine bset' ?_ (by omega) _|refine zb ?_ (by assumption)))) (by omega) xa true).mono ?_;rintro e wA ⟨rfl,hpA,hsA⟩;have HPA:=za hpA;have d0:=(hsA 0).trans (cellB_later' (w:=w0) (by(with_reducible repeat first|exact Below.refl _ _|refine zc ?_ _|refine zd ?_|refine bset' ?_ (by omega) _|refine zb ?_ (by assumption))) b0);have d1:=(hsA 1).trans (cellB_later' (w:=w0) (by(with_reducible repeat first|exact Below.refl _ _|refine zc ?_ _|refine zd ?_|refine bset' ?_ (by omega) _|refine zb ?_ (by assumption))) b1))|(go_at_call 28;refine(zjs (HPA.out.later (by(with_reducible repeat first|exact Below.refl _ _|refine zc ?_ _|refine zd ?_|refine bset' ?_ (by omega) _|refine zb ?_ (by assumption)))) (by omega) xa true).mono ?_;rintro e wB ⟨rfl,hpB,hsB⟩;have HPB:=za hpB;have f0:=(hsB 0).trans (cellB_later' (w:=wA) (by(with_reducible repeat first|exact Below.refl _ _|refine zc ?_ _|refine zd ?_|refine bset' ?_ (by omega) _|refine zb ?_ (by assumption))) d0);have f1:=(hsB 1).trans (cellB_later' (w:=wA) (by(with_reducible repeat first|exact Below.refl _ _|refine zc ?_ _|refine zd ?_|refine bset' ?_ (by omega) _|refine zb ?_ (by assumption))) d1))|(go_at_call 17;refine(zdk (q.end' xa true).1 _ (zpR q xa true)).mono ?_;rintro e wC ⟨rfl,hbC⟩;have m0:=cellB_later' hbC f0;have m1:=cellB_later' hbC f1));all_goals (have HF:Hid (zaf W s k (n+7+10) g (q.end' xa true).2 (q.end' xa true).2 wC):=HPB.out.later (by(with_reducible repeat first|exact Below.refl _ _|refine zc ?_ _|refine zd ?_|refine bset' ?_ (by omega) _|refine zb ?_ (by assumption)));(clear hpA hsA hpB hsB hbC);go_wp2;go_ret;exact⟨rfl,_,HF.out.pr.mono (by omega)⟩)
theorem zkf(h:Pr W s k n q w)(hn:n≤800000)(xa xb:Int)(dt:ByteArray) :
  Calls Tryz.prog 10 #[.pointer (some ⟨s,0,none⟩),.pointer (some ⟨k,0,none⟩),.agg #[.string ⟨#[114,111,117,110,100]⟩,.int .i64 xa,.int .i64 xb,.string dt]] w (zbQ W s k (n+22)):=by
 have HP:=za h;clear h;go_enter Tryz.func10,Tryz.ntmps10;go_wp2_with fail;refine(znH (HP.out.box (zn w _) (by simp)) (by omega)).mono ?_;rintro e wA ⟨rfl,hpA,-⟩;have HPA:=za hpA;clear hpA HP;go_wp2_with fail;refine(zmZ HPA.out (by omega)).mono ?_;rintro e wB ⟨rfl,hpB,-⟩;have HPB:=za hpB;clear hpB HPA;go_wp2;go_ret;exact⟨rfl,_,HPB.out.pr.mono (by omega)⟩
theorem zjc(h:Pr W s k n q w)(hn:n≤800000)(xa xb:Int)(dt:ByteArray) :
  Calls Tryz.prog 10 #[.pointer (some ⟨s,0,none⟩),.pointer (some ⟨k,0,none⟩),.agg #[.string ⟨#[115,101,116,116,108,101]⟩,.int .i64 xa,.int .i64 xb,.string dt]] w (zbQ W s k (n+4400)):=by
 have HP:=za h;clear h
 by_cases h1:xa<0
 ·go_enter Tryz.func10,Tryz.ntmps10;go_wp2;go_ret;exact⟨rfl,_,(HP.out.later (by(with_reducible repeat first|exact Below.refl _ _|refine zc ?_ _|refine zd ?_|refine bset' ?_ (by omega) _|refine zb ?_ (by assumption)))).mono (by omega)⟩
 by_cases h2:200<xa
 ·go_enter Tryz.func10,Tryz.ntmps10;go_wp2;go_ret;exact⟨rfl,_,(HP.out.later (by(with_reducible repeat first|exact Below.refl _ _|refine zc ?_ _|refine zd ?_|refine bset' ?_ (by omega) _|refine zb ?_ (by assumption)))).mono (by omega)⟩
 obtain⟨m,rfl⟩:∃m:Nat,xa=m:=⟨xa.toNat,by omega⟩
 go_enter Tryz.func10,Tryz.ntmps10;go_upto_region 23 with fail;refine zai (fun w0=>zaf W s k n w.heap.size q q w0∧w0.cell? ⟨w.heap.size,1,none⟩=some (.int .i64 m)) ⟨HP.out.box (zn w _) (by simp),by simp⟩ ?_;rintro w0 ⟨hpg,b1⟩;have HPG:=za hpg;clear hpg HP;generalize w.heap.size=g at *;have lg:=zg b1;go_wp2_with fail;refine(zl6 HPG.out m (by omega)).mono ?_;have HC:=za (fun(wA:World) (h:zaf W s k (n+11*m) g (q.settle m).2 q wA)=>zk3 h m (by omega));obtain⟨t,ht⟩:∃t,(q.settle m).2.quiet=t:=⟨_,rfl⟩
 obtain⟨x,hx⟩:∃x,(q.settle m).1=x:=⟨_,rfl⟩
 rw[ht,hx] at HC;rw[ht,hx];clear ht hx;rintro e wA ⟨rfl,hpA,hsA⟩;have HPA:=za hpA;have c1:=(hsA 1).trans b1;have lA:=zg c1;clear hpA HPG hsA b1;go_wp2_with fail;refine(HC.out _ HPA.out).mono ?_;rintro e wB ⟨rfl,hpB,-⟩;have HPB:=za hpB;have ht2:(t==t)=true:=by simp
 have hx2:((x:Int)==(x:Int))=true:=by simp
 clear hpB HPA HC;go_wp2;go_ret;exact⟨by first|rfl|simp,_,HPB.out.pr.mono (by omega)⟩
theorem zkp(h:Pr W s k n q w)(wd:ByteArray)(xa xb:Int)(dt:ByteArray)(h1:¬wd=znp)(h2:¬wd=zlj)(h3:¬wd=znO)(h4:¬wd=zot)(h5:¬wd=zlr)(h6:¬wd=zgE)(h7:¬wd=wEnd)(h8:¬wd=zk8)(h9:¬wd=zgr)(h10:¬wd=⟨#[115,101,116,116,108,101]⟩) :
  Calls Tryz.prog 10 #[.pointer (some ⟨s,0,none⟩),.pointer (some ⟨k,0,none⟩),.agg #[.string wd,.int .i64 xa,.int .i64 xb,.string dt]] w (zbQ W s k (n+11)):=by
 have HP:=za h;have g1:(wd.toList==[114,101,97,100])=false:=zbV _ h1;have g2:(wd.toList==[119,114,105,116,101])=false:=zbV _ h2;have g3:(wd.toList==[115,121,110,99])=false:=zbV _ h3;have g4:(wd.toList==[116,105,99,107])=false:=zbV _ h4;have g5:(wd.toList==[99,108,101,97,110])=false:=zbV _ h5;have g6:(wd.toList==[100,105,115,112,97,116,99,104])=false:=zbV _ h6;have g7:(wd.toList==[101,110,100])=false:=zbV _ h7;have g8:(wd.toList==[102,97,117,108,116])=false:=zbV _ h8;have g9:(wd.toList==[114,111,117,110,100])=false:=zbV _ h9;have g10:(wd.toList==[115,101,116,116,108,101])=false:=zbV _ h10;clear h h1 h2 h3 h4 h5 h6 h7 h8 h9 h10;go_enter Tryz.func10,Tryz.ntmps10;go_wp2;go_ret;exact⟨rfl,_,(HP.out.later (by(with_reducible repeat first|exact Below.refl _ _|refine zc ?_ _|refine zd ?_|refine bset' ?_ (by omega) _|refine zb ?_ (by assumption)))).mono (by omega)⟩
def zdR:ByteArray:=⟨#[115,101,116,116,108,101]⟩
theorem zhu(h:Pr W s k n q w)(hn:n≤800000)(x:Sp):Calls Tryz.prog 10 #[.pointer (some ⟨s,0,none⟩),.pointer (some ⟨k,0,none⟩),x.val] w (zbQ W s k (n+if x.word=zdR then 4400 else 22)):=by
 obtain⟨wd,xa,xb,dt⟩:=x;have up:∀{m m':Nat},m≤m'→∀e w',zbQ W s k (n+m) e w'→zbQ W s k (n+m') e w':=fun hm e w' ⟨he,q',hq⟩=>⟨he,q',hq.mono (by omega)⟩
 have hge:22≤(if wd=zdR then 4400 else 22):=by split<;>omega
 show Calls _ _ _ _ (zbQ W s k (n+if wd=zdR then 4400 else 22))
 by_cases h1:wd=znp
 ·subst h1;exact(zkH W s k n q w h hn xa xb dt).mono (up (by omega))
 by_cases h2:wd=zlj
 ·subst h2;exact(zke W s k n q w h hn xa xb dt).mono (up (by omega))
 by_cases h3:wd=znO
 ·subst h3;exact(zlP W s k n q w h hn xa xb dt).mono (up (by omega))
 by_cases h4:wd=zot
 ·subst h4;exact(zlC W s k n q w h hn xa xb dt).mono (up (by omega))
 by_cases h5:wd=zlr
 ·subst h5;exact(zj3 W s k n q w h hn xa xb dt).mono (up (by omega))
 by_cases h6:wd=zgE
 ·subst h6;exact(zhK W s k n q w h xa xb dt).mono (up (by omega))
 by_cases h7:wd=wEnd
 ·subst h7;exact(zmV W s k n q w h hn xa xb dt).mono (up (by omega))
 by_cases h8:wd=zk8
 ·subst h8;exact(zkk W s k n q w h hn xa xb dt).mono (up (by omega))
 by_cases h9:wd=zgr
 ·subst h9;exact(zkf W s k n q w h hn xa xb dt).mono (up (by omega))
 by_cases h10:wd=zdR
 ·subst h10;rw[if_pos rfl];exact zjc W s k n q w h hn xa xb dt
 exact(zkp W s k n q w h wd xa xb dt h1 h2 h3 h4 h5 h6 h7 h8 h9 h10).mono (up (by omega))
end
end Go.Proofs.YtlhgjplipgandaaGreat
