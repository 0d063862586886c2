/- Joined. -/
import Derived.Test.YtlhgjplipgandaaGreatDoorE29
set_option maxRecDepth 100000
set_option maxHeartbeats 8000000
set_option linter.unusedSimpArgs false
set_option linter.unusedSectionVars false
namespace Go.Proofs.YtlhgjplipgandaaGreatDoor
open Tryz
section
open Go.RowKit Go.BigFrame Go.Maps
theorem Ya{s:ByteArray}(l:List UInt8)(h:¬s=⟨l.toArray⟩):(s.toList==l)=false:=by
 rw[ab8];intro e;apply h;rw[adL] at e
 cases s
 simp only at e;rw[<-e]
theorem Hq{s:ByteArray}(h:s.size=0):s=⟨#[]⟩:=by
 cases s with
 |mk a=>simp only[ByteArray.size] at h;congr 1;exact Array.eq_empty_of_size_eq_zero h
theorem X9{s:ByteArray}(h:¬s.size=0):(s.toList==[])=false:=Ya [] (fun e=>h (by rw[e];rfl))
theorem ux(c kind pl:Int)(data:ByteArray)(w:World)(t:Int)(ht:dx c kind pl data=t) :
 Calls prog 73 #[i6 c,i6 kind,i6 pl,.string data] w fun e w'=>e=.returned (dz t)/\w'=w:=by
 by_cases hc:0<=c/\c<3
 case neg =>
  obtain rfl:3=t:=by rw[<-ht];unfold dx;rw[aca (il hc)]
  have HC:=aa hc;clear hc ht;go_enter func73,ntmps73;go_wp2_with fail;refine cM (ee _ _ false (aci HC.out)) ?_;intro w1 rfl;go_wp2;go_ret;exact⟨rfl,rfl⟩
 have HC:=aa hc
 by_cases hk:kind=1\/kind=2\/kind=3
 case neg =>
  obtain rfl:3=t:=by rw[<-ht];unfold dx;rw[aca (ir oM)]
  have k1:¬kind=1:=fun e=>hk (il e)
  have k2:¬kind=2:=fun e=>hk (ir (il e))
  have k3:¬kind=3:=fun e=>hk (ir (ir e))
  have k4:(kind != 1)=true:=adP.2 k1;have k5:(kind != 2)=true:=adP.2 k2;have k6:(kind != 3)=true:=adP.2 k3;clear hc ht hk;go_enter func73,ntmps73;go_wp2_with fail;refine cM (ee _ _ true (acf HC.out)) ?_;intro w1 rfl;go_wp2;go_ret;exact⟨rfl,rfl⟩
 by_cases p0:pl<0
 case pos =>
  obtain rfl:1=t:=by rw[<-ht];unfold dx;(repeat' split)<;>omega
  clear hc ht
  rcases hk with rfl|rfl|rfl
  all_goals
   go_enter func73,ntmps73;go_wp2_with fail;refine cM (ee _ _ true (acf HC.out)) ?_;intro w1 rfl;go_wp2;go_ret;exact⟨rfl,rfl⟩
 by_cases p1:32<=pl
 case pos =>
  obtain rfl:1=t:=by rw[<-ht];unfold dx;(repeat' split)<;>omega
  clear hc ht
  rcases hk with rfl|rfl|rfl
  all_goals
   go_enter func73,ntmps73;go_wp2_with fail;refine cM (ee _ _ true (acf HC.out)) ?_;intro w1 rfl;go_wp2;go_ret;exact⟨rfl,rfl⟩
 by_cases p2:kind=3/\¬pl=0
 case pos =>
  obtain rfl:1=t:=by rw[<-ht];unfold dx;(repeat' split)<;>omega
  obtain⟨rfl,p3⟩:=p2;have p4:(pl != 0)=true:=adP.2 p3;clear hc ht hk;go_enter func73,ntmps73;go_wp2_with fail;refine cM (ee _ _ true (acf HC.out)) ?_;intro w1 rfl;go_wp2;go_ret;exact⟨rfl,rfl⟩
 by_cases z4:4<data.size
 case pos =>
  obtain rfl:1=t:=by rw[<-ht];unfold dx;(repeat' split)<;>omega
  have z4':(4:Int)<(data.size:Int):=oM;clear hc ht
  rcases hk with rfl|rfl|rfl
  ·go_enter func73,ntmps73;go_wp2_with fail;refine cM (ee _ _ true (acf HC.out)) ?_;intro w1 rfl;go_wp2;go_ret;exact⟨rfl,rfl⟩
  ·go_enter func73,ntmps73;go_wp2_with fail;refine cM (ee _ _ true (acf HC.out)) ?_;intro w1 rfl;go_wp2;go_ret;exact⟨rfl,rfl⟩
  ·obtain rfl:pl=0:=oM;go_enter func73,ntmps73;go_wp2_with fail;refine cM (ee _ _ true (acf HC.out)) ?_;intro w1 rfl;go_wp2;go_ret;exact⟨rfl,rfl⟩
 have z4':¬(4:Int)<(data.size:Int):=oM
 by_cases z0:data.size=0
 case pos =>
  obtain rfl:0=t:=by rw[<-ht];unfold dx;(repeat' split)<;>omega
  obtain rfl:=Hq z0;clear hc ht z0 z4 z4'
  rcases hk with rfl|rfl|rfl
  ·go_enter func73,ntmps73;go_wp2_with fail;refine cM (ee _ _ true (acf HC.out)) ?_;intro w1 rfl;go_wp2;go_ret;exact⟨rfl,rfl⟩
  ·go_enter func73,ntmps73;go_wp2_with fail;refine cM (ee _ _ true (acf HC.out)) ?_;intro w1 rfl;go_wp2;go_ret;exact⟨rfl,rfl⟩
  ·obtain rfl:pl=0:=oM;go_enter func73,ntmps73;go_wp2_with fail;refine cM (ee _ _ true (acf HC.out)) ?_;intro w1 rfl;go_wp2;go_ret;exact⟨rfl,rfl⟩
 have z1:=X9 z0;have z2:data.toList.isEmpty=false:=by cases h:data.toList with|nil=>rw[h] at z1;cases z1|cons _ _=>rfl
 rcases hk with rfl|rfl|rfl
 ·obtain rfl:1=t:=by rw[<-ht];unfold dx;(repeat' split)<;>omega
  clear hc ht z0;go_enter func73,ntmps73;go_wp2_with fail;refine cM (ee _ _ true (acf HC.out)) ?_;intro w1 rfl;go_wp2;go_ret;exact⟨rfl,rfl⟩
 ·obtain rfl:0=t:=by rw[<-ht];unfold dx;(repeat' split)<;>omega
  clear hc ht z0;go_enter func73,ntmps73;go_wp2_with fail;refine cM (ee _ _ true (acf HC.out)) ?_;intro w1 rfl;go_wp2;go_ret;exact⟨rfl,rfl⟩
 ·obtain rfl:1=t:=by rw[<-ht];unfold dx;(repeat' split)<;>omega
  obtain rfl:pl=0:=oM;clear hc ht z0;go_enter func73,ntmps73;go_wp2_with fail;refine cM (ee _ _ true (acf HC.out)) ?_;intro w1 rfl;go_wp2;go_ret;exact⟨rfl,rfl⟩
theorem R6{w:World}{B e k n:Nat}{v:Value}{xs:List Value}(h:w.ownsRow B e k v n xs):∃a c,v=.slice a n c:=by
 rcases h.2 with⟨rfl,h0⟩|⟨g,cap,cur,rfl,_⟩
 ·exact⟨none,0,by rw[h0]⟩
 ·exact⟨_,cap,rfl⟩
theorem TL(p:Sk)(i:Nat){kind pl:Int}{data:ByteArray}(h:¬kind=3):p.asks i kind pl data=p.j7 i kind pl data:=by unfold Sk.asks Sk.j7;rw[ab6 h]
theorem Y1(p:Sk)(hl:p.cl.length=3){i:Nat}(hi:i<3){pl:Int}{data:ByteArray}:(p.j7 i 3 pl data).gE i (bV p.hand)=p.asks i 3 pl data:=by
 unfold Sk.gE;rw[show(p.j7 i 3 pl data).aj i={ p.aj i with kind:=3,pl:=pl,data:=data } by unfold Sk.j7;rw[fH hl hi,aca rfl]];unfold Sk.j7 Sk.asks;rw[adY,aca rfl]
theorem Y0(s:Nat)(p:Sk)(A:Sa)(w:World)(h:bo s p A w)(c kind pl:Int)(data:ByteArray)(t:Int)(ht:dx c kind pl data=t)(h0:¬t=0) :
 Calls prog 27 #[.pointer (some ⟨s,0,none⟩),i6 c,i6 kind,i6 pl,.string data] w fun e w'=>e=.returned (dz t)/\fE s p A w w' p.nf:=by
 have aI:=aa h;have HT:=aa ht;have he:dz t=.iface 87 (i6 t):=by unfold dz;rw[ab6 h0]
 have HE:=aa he;clear h ht h0 he;go_enter func27,ntmps27;go_wp2_with fail;refine cM (ux c kind pl data _ t HT.out) ?_;intro w1 rfl;rw[HE.out];go_wp2;go_ret;exact⟨by rw[HE.out];rfl,p,A,bN.cW aI.out (aQ _ _),rfl⟩
theorem TJ(s:Nat)(p:Sk)(A:Sa)(w:World)(h:bo s p A w)(c kind pl:Int)(data:ByteArray)(ht:dx c kind pl data=0)(hw:p.waits c=true) :
 Calls prog 27 #[.pointer (some ⟨s,0,none⟩),i6 c,i6 kind,i6 pl,.string data] w fun e w'=>e=.returned (dz 6)/\fE s p A w w' p.nf:=by
 have aI:=aa h;have HT:=aa ht;have HW:=aa hw;clear h ht hw;go_enter func27,ntmps27;go_wp2_with fail;refine cM (ux c kind pl data _ 0 HT.out) ?_;intro w1 rfl;rw[show dz 0=.nilIface from rfl];go_wp2_with fail;refine cM (kU s p A c _ aI.out true HW.out) ?_;intro w2 rfl;go_wp2;go_ret;exact⟨rfl,p,A,bN.cW aI.out (aQ _ _),rfl⟩
theorem W8(s:Nat)(p:Sk)(A:Sa)(w:World)(h:bo s p A w)(hI:aZ p)(hT:p.tags<=3999999999999999990)(hU:p.ax<=3999999999999999990)(i:Nat)(hi:i<3)(kind pl:Int)(data:ByteArray)(ht:dx (i:Int) kind pl data=0)(hw:p.waits (i:Int)=false)(q:Sk)(hq:(p.nf.asks i kind pl data).serve=q) :
 Calls prog 27 #[.pointer (some ⟨s,0,none⟩),i6 (i:Int),i6 kind,i6 pl,.string data] w fun e w'=>e=.returned (dz 0)/\fE s p A w w' q:=by
 have aI:=aa h;have HT:=aa ht;have HW:=aa hw;have hz:=lQ ht;have HIA:=aa (hI.asks i kind pl data hz.2.1 hz.2.2.1 hz.2.2.2.2.1);have HQ:=aa hq;have HB:=aa (And.intro hT hU);have oE:=hI.fR;have H8:=aa hI.hand.len;have pK:(i:Int)<3:=oM;obtain⟨c0,c1,c2,c3,-⟩:=h.aj i hi;have f0:=h.fz (2+i*6);have f1:=h.fz (2+i*6+1);have f2:=h.fz (2+i*6+2);have hl:=h.lt;have HX:=aa (h.j7 oE hi kind pl data);clear h ht hw hz hI hT hU hq;generalize (p.aj i).kind=y0 at *;generalize (p.aj i).pl=y1 at *;generalize (p.aj i).data=y2 at *
 by_cases h3:kind=3
 ·subst h3;go_enter func27,ntmps27;go_wp2_with fail;refine cM (ux i 3 pl data _ 0 HT.out) ?_;intro w1 rfl;rw[show dz 0=.nilIface from rfl];go_wp2_with fail;refine cM (kU s p A i _ aI.out false HW.out) ?_;intro w2 rfl;go_wp2_with fail;refine(Hp s (p.j7 i 3 pl data) A _ HX.out.at' (by have:=H8.out;show p.hand.length<=1000;omega)).mono ?_;rintro e w3 ⟨v,rfl,bp,bC⟩;obtain⟨va,vc,rfl⟩:=R6 bp;obtain⟨A',zG⟩:=HX.out.at'.XJ (show(p.j7 i 3 pl data).cl.length=3 by unfold Sk.j7;rw[acK];exact oE) hi (bV p.hand) _ bC bp;rw[Y1 p oE hi] at zG;have fL:=aa (HX.out.trans zG);have C2:=HX.out.at'.later bC;have g3:=(C2.aj i hi).2.2.2.1;have gf:=C2.fz (2+i*6+3);have l3:=C2.lt;clear bp bC zG C2 c0 c1 c2 c3 f0 f1 f2;obtain⟨y3,hy3⟩:∃y3,((p.j7 i 3 pl data).aj i).left.length=y3:=⟨_,rfl⟩
  rw[hy3] at g3;clear hy3;go_wp2_with fail;refine cM (o8 s (p.asks i 3 pl data) A' _ fL.out.at' HIA.out HB.out.1 HB.out.2 q HQ.out) ?_;intro w4 hok;have HO:=aa (fE.trans fL.out hok);clear hok;go_wp2;go_ret;exact⟨rfl,HO.out⟩
 ·have HA:=aa (TL p i (pl:=pl) (data:=data) h3);go_enter func27,ntmps27;go_wp2_with fail;refine cM (ux i kind pl data _ 0 HT.out) ?_;intro w1 rfl;rw[show dz 0=.nilIface from rfl];go_wp2_with fail;refine cM (kU s p A i _ aI.out false HW.out) ?_;intro w2 rfl;go_wp2_with fail;refine cM (o8 s (p.j7 i kind pl data) A _ HX.out.at' (by rw[<-HA.out];exact HIA.out) HB.out.1 HB.out.2 q (by rw[<-HA.out];exact HQ.out)) ?_;intro w4 hok;have HO:=aa (fE.trans HX.out hok);clear hok;go_wp2;go_ret;exact⟨rfl,HO.out⟩
theorem Bt(s:Nat)(p:Sk)(A:Sa)(w:World)(h:bo s p A w)(hI:aZ p)(hT:p.tags<=3999999999999999990)(hU:p.ax<=3999999999999999990)(c kind pl:Int)(data:ByteArray)(n:Int)(q:Sk)(hq:p.nf.ask c kind pl data=(n,q)) :
 Calls prog 27 #[.pointer (some ⟨s,0,none⟩),i6 c,i6 kind,i6 pl,.string data] w fun e w'=>e=.returned (dz n)/\fE s p A w w' q:=by
 unfold Sk.ask at hq
 by_cases h0:dx c kind pl data=0
 ·rw[ab6 (by simpa using h0)] at hq
  cases hw:p.waits c
  ·rw[ab6 (by rw[show p.nf.waits c=p.waits c from rfl,hw];exact acn)] at hq;simp only[ada] at hq;obtain⟨rfl,hq⟩:=hq;have hz:=(lQ h0).1;obtain⟨i,rfl⟩:∃i:Nat,c=i:=⟨c.toNat,oM⟩
   rw[acE] at hq;exact W8 s p A w h hI hT hU i oM kind pl data h0 hw q hq
  ·rw[aca (show p.nf.waits c=true from hw)] at hq;simp only[ada] at hq;obtain⟨rfl,rfl⟩:=hq;exact TJ s p A w h c kind pl data h0 hw
 ·rw[aca h0] at hq;simp only[ada] at hq;obtain⟨rfl,rfl⟩:=hq;exact Y0 s p A w h c kind pl data _ rfl h0
theorem dj.tL{s:Nat}{p:Sk}{A:Sa}{w:World}(h:dj s p A w)(m:Int):dj s { p with bJ:=m } A w where
 cz:=h.cz
 map:=h.map
 im:=h.im
 nb:=h.nb
 hand:=h.hand
 cU:=h.cU
 bU:=h.bU
 queue:=h.queue
 fa:=h.fa
 fq:=h.fq
 left:=h.left
 sv:=h.sv
 vl:=h.vl
 ll:=h.ll
 gX:=h.gX
 iu:=h.iu
 fe:=h.fe
 gU:=h.gU
theorem bo.tL{s:Nat}{p:Sk}{A:Sa}{w:World}(h:bo s p A w)(m:Int):bN s p A { p with bJ:=m } A w (w.setCell ⟨s,26,none⟩ (i6 m)):=h.put (h.mem.tL m) 26 _ rfl (fun _ hk=>hk) ⟨rfl,rfl,rfl,rfl⟩
theorem KQ(s:Nat)(p:Sk)(A:Sa)(w:World)(h:bo s p A w)(hI:aZ p)(hT:p.tags<=3999999999999999990)(hU:p.ax<=3999999999999999990)(q:Sk)(hq:p.nf.tick=q) :
 Calls prog 37 #[.pointer (some ⟨s,0,none⟩)] w fun e w'=>e=.returned (.tuple #[])/\fE s p A w w' q:=by
 obtain⟨m,hm⟩:∃m:Int,(if p.bJ+1<1000000000 then p.bJ+1 else 1000000000)=m:=⟨_,rfl⟩
 have HM:=aa (hI.jZ);have HX:=aa (h.tL m);have zU:Hid (aZ { p with bJ:=m }):=⟨hI.fR,hI.nU,hI.hand,hI.d6,hI.bP,hI.apart,hI.q6,hI.b2,by
  have:=hI.jZ;show 0<=m/\m<=1000000000;rw[<-hm];split<;>omega,hI.tg,hI.us,hI.oH,hI.dr,hI.fV,hI.ts,hI.fr⟩
 have HQ:Hid (({ p with bJ:=m }:Sk).nf.serve=q):=by
  rw[<-hq,<-hm];rfl
 have Gb:=h.cell 26 _ rfl;have f26:=h.fz 26;have hl:=h.lt;have si:IntKind.i64.wrap (p.bJ+1)=p.bJ+1:=by have:=hI.jZ;rw[acC];omega
 clear h hI hq
 by_cases aq:1000000000<p.bJ+1
 ·obtain rfl:1000000000=m:=by rw[<-hm,ab6 oM]
  clear hm;go_enter func37,ntmps37;go_wp2_with fail;refine cM (o8 s _ A _ HX.out.at' zU.out hT hU q HQ.out) ?_;intro w4 hok;have HO:=aa (fE.trans HX.out hok);clear hok;go_wp2;go_end0;exact⟨rfl,HO.out⟩
 ·obtain rfl:p.bJ+1=m:=by rw[<-hm];split<;>omega
  clear hm;go_enter func37,ntmps37;go_wp2_with fail;refine cM (o8 s _ A _ HX.out.at' zU.out hT hU q HQ.out) ?_;intro w4 hok;have HO:=aa (fE.trans HX.out hok);clear hok;go_wp2;go_end0;exact⟨rfl,HO.out⟩
def Bh(c:Cl):Bool:=(c.kind==2)||(c.kind==3)
theorem E2(kd pl:Int)(gC:0<=kd/\kd<=3)(da:ByteArray)(a:Option Addr)(n c:Nat)(gG:ByteArray)(ev:Value)(w:World)(t:Bool)(ht:((kd==2)||(kd==3))=t) :
 Calls prog 119 #[.agg #[i6 kd,i6 pl,.string da,.slice a n c,.string gG,ev]] w (rB (.bool t) w):=by
 have h4:kd=0\/kd=1\/kd=2\/kd=3:=oM;clear gC
 rcases h4 with rfl|rfl|rfl|rfl
 ·obtain rfl:false=t:=ht;go_enter func119,ntmps119;go_wp2;go_ret;exact⟨rfl,bQ⟩
 ·obtain rfl:false=t:=ht;go_enter func119,ntmps119;go_wp2;go_ret;exact⟨rfl,bQ⟩
 ·obtain rfl:true=t:=ht;go_enter func119,ntmps119;go_wp2;go_ret;exact⟨rfl,bQ⟩
 ·obtain rfl:true=t:=ht;go_enter func119,ntmps119;go_wp2;go_ret;exact⟨rfl,bQ⟩
theorem Mr{p:Sk}(hl:p.cl.length=3){k:Nat}(hk:k<3)(h:Bh (p.aj k)=true):p.ec=true:=adS.2 ⟨_,NY hl hk,h⟩
theorem PI{p:Sk}(hl:p.cl.length=3)(h:∀k,k<3->Bh (p.aj k)=false):p.ec=false:=by
 unfold Sk.ec;rw[aeo];intro c hc;obtain⟨i,hi,rfl⟩:=OH hl hc;have:=h i hi;unfold Bh at this;rw[this];exact acn
theorem Ou(s:Nat)(p:Sk)(A:Sa)(w:World)(h:bo s p A w)(hI:aZ p) :
 Calls prog 164 #[.slice (some ⟨s,2,none⟩) 3 3,.func (.func 119) #[] #[]] w fun e w'=>∃n:Int,e=.returned (i6 n)/\(decide (0<=n)=p.ec)/\bL w w':=by
 have aI:=aa h;have HI:=aa hI;clear h hI;go_enter func164,ntmps164;go_wp2
 go_loopw[8] (fun i wr=>∃k:Nat,k<=3/\i=i6 k/\(∀j,j<k->Bh (p.aj j)=false)/\bL w wr) (fun i _=>3-(intOf i).toNat)
 case atStart=>exact⟨0,oM,rfl,fun j hj=>absurd hj (acg _),aQ _ _⟩
 case round =>
  obtain⟨k,hk,rfl,dS,HB⟩:=hrel;have HN:=aa dS;clear dS
  by_cases aq:k<3
  ·have fM:(k:Int)<3:=oM;have dA:=aI.out.later HB;obtain⟨c0,c1,c2,c3,c4,c5⟩:=dA.aj k aq;have hl:=dA.lt;have gC:=(HI.out.aj k).kind;have HW:Hid (Bh (p.aj k)=(((p.aj k).kind==2)||((p.aj k).kind==3))):=aa rfl;clear dA;generalize (p.aj k).kind=y0 at *;generalize (p.aj k).pl=y1 at *;generalize (p.aj k).data=y2 at *;generalize (p.aj k).left.length=y3 at *;generalize (p.aj k).gG=y4 at *;generalize dz (p.aj k).err=y5 at *;have uI:=aa gC;clear gC
   cases hw:((y0==2)||(y0==3))
   ·rw[hw] at HW;have P4:=aa hw;clear hw;go_wp2_with fail;refine cM (E2 y0 y1 uI.out y2 _ _ _ y4 y5 _ false P4.out) ?_;intro w1 hb;go_wp2;go_roundw
    case rel=>exact⟨k+1,oM,gN,fun j hj=>by by_cases e:j=k;(subst e;exact HW.out);exact HN.out j oM,bQ⟩
    case measure=>simp[intOf];omega
   ·rw[hw] at HW;have P4:=aa hw;clear hw;go_wp2_with fail;refine cM (E2 y0 y1 uI.out y2 _ _ _ y4 y5 _ true P4.out) ?_;intro w1 hb;go_wp2;go_ret;exact⟨k,rfl,by rw[Mr HI.out.fR aq HW.out];exact acf oM,bQ⟩
  ·obtain rfl:k=3:=oM;go_wp2;go_ret;exact⟨-1,rfl,by rw[PI HI.out.fR (fun j hj=>HN.out j hj)];rfl,HB⟩
theorem Hk(s:Nat)(p:Sk)(A:Sa)(w:World)(h:bo s p A w)(hI:aZ p)(t:Bool)(ht:p.ec=t) :
 Calls prog 78 #[.pointer (some ⟨s,0,none⟩)] w (rB (.bool t) w):=by
 have aI:=aa h;have HI:=aa hI;have HT:=aa ht;have hl:=h.lt;clear h hI ht;have ZG:Calls prog 120 #[.slice (some ⟨s,2,none⟩) 3 3,.func (.func 119) #[] #[]] w (rB (.bool t) w):=by
  go_enter func120,ntmps120;go_wp2_with fail;refine(Ou s p A w aI.out HI.out).mono ?_;rintro e w1 ⟨n,rfl,hn,hb⟩;rw[HT.out] at hn;go_wp2;go_ret;exact⟨dN (by rw[<-hn]),hb⟩
 have abp:=aa ZG;clear ZG;go_enter func78,ntmps78;go_wp2_with fail;refine abp.out.mono ?_;rintro e w1 ⟨rfl,hb⟩;go_wp2;go_ret;exact⟨rfl,hb⟩
theorem NW(s:Nat)(p:Sk)(A:Sa)(w:World)(h:bo s p A w)(hd:p.dead=true) :
 Calls prog 40 #[.pointer (some ⟨s,0,none⟩)] w fun e w'=>e=.returned (.bool false)/\fE s p A w w' p.nf:=by
 have ud:=h.cell 29 _ rfl;rw[hd] at ud;have hl:=h.lt;have aI:=aa h;clear h;go_enter func40,ntmps40;go_wp2;go_ret;exact⟨rfl,p,A,bN.cW aI.out (aQ _ _),rfl⟩
theorem Qo(s:Nat)(p:Sk)(A:Sa)(w:World)(h:bo s p A w)(hI:aZ p)(hd:p.dead=false)(h3:bT p.hand<3)(hw:p.ec=false) :
 Calls prog 40 #[.pointer (some ⟨s,0,none⟩)] w fun e w'=>e=.returned (.bool false)/\fE s p A w w' p.nf:=by
 have ud:=h.cell 29 _ rfl;rw[hd] at ud;have hl:=h.lt;have aI:=aa h;have HI:=aa hI;have HW:=aa hw;obtain⟨n,hn⟩:∃n,bT p.hand=n:=⟨_,rfl⟩
 rw[hn] at h3;have HN:=aa hn;have zD:(n:Int)<3:=oM;clear h hI hw hn;go_enter func40,ntmps40;go_wp2_with fail;refine cM (mr s p A w aI.out n HN.out) ?_;intro w1 aw;have cg:=aa (bN.cW aI.out aw);clear aw;go_wp2_with fail;refine cM (Hk s p A w1 cg.out.at' HI.out false HW.out) ?_;intro w2 aA;have cu:=aa (cg.out.later aA);clear aA;go_wp2;go_ret;exact⟨rfl,p,A,cu.out,rfl⟩
theorem Vz{w:World}{b:Nat}{x:ByteArray}(h:w.cell? ⟨b,0,none⟩=some (.string x)):cy w (some ⟨b,0,none⟩) [x]:=by
 refine ir ⟨b,0,rfl,?_⟩;intro i hi
 match i,hi with
 |0,_=>simpa using h
theorem NX(s:Nat)(p:Sk)(A:Sa)(w:World)(h:bo s p A w)(hI:aZ p)(hT:p.tags<=4000000000000000000)(hd:p.dead=false)(hc:¬(bT p.hand<3/\p.ec=false))(t:Bool)(q:Sk)(hq:p.nf.clean=(t,q)) :
 Calls prog 40 #[.pointer (some ⟨s,0,none⟩)] w fun e w'=>e=.returned (.bool t)/\fE s p A w w' q:=by
 have e1:p.nf.clean=if jI p.hand (gR (p.queue++p.dev.busy))<0 then(false,p.nf) else p.nf.gF (jI p.hand (gR (p.queue++p.dev.busy))) true [((eZ p.hand (jI p.hand (gR (p.queue++p.dev.busy)))).getD ⟨0,bE,false,0⟩).data]:=by
  rw[<-CX];unfold Sk.clean;rw[ab6 (fun e=>e.elim (fun e=>by rw[show p.nf.dead=false from hd] at e;cases e) hc)]
  rfl
 rw[e1] at hq;have HQ:=aa hq;have HC:=aa hc;have aI:=aa h;have HI:=aa hI;have ud:=h.cell 29 _ rfl;rw[hd] at ud;have hl:=h.lt;have h9:bT p.hand<=8:=acv (ade _ _) hI.hand.len;obtain⟨n,hn⟩:∃n,bT p.hand=n:=⟨_,rfl⟩
 rw[hn] at h9;have HN:=aa hn;clear h hI hc hq e1 hn
 by_cases h3:n<3
 have zD:(n:Int)<3:=oM;have HW:Hid (p.ec=true):=by
  cases hw:p.ec
  ·exact absurd ⟨by rw[HN.out];exact h3,hw⟩ HC.out
  ·rfl
 go_enter func40,ntmps40;go_wp2_with fail;refine cM (mr s p A w aI.out n HN.out) ?_;intro w1 aw;have cg:=aa (bN.cW aI.out aw);clear aw;go_wp2_with fail;refine cM (Hk s p A w1 cg.out.at' HI.out true HW.out) ?_;intro w2 aA;have cu:=aa (cg.out.later aA);clear aA;go_wp2_with fail
 rotate_left
 have zD:¬(n:Int)<3:=oM;go_enter func40,ntmps40;go_wp2_with fail;refine cM (mr s p A w aI.out n HN.out) ?_;intro w2 aA;have cu:=aa (bN.cW aI.out aA);clear aA;go_wp2_with fail
 all_goals
  have Bm:=cu.out.at'.cell 20 _ rfl;have ly:=cu.out.at'.lt
  rcases jn (ez true (gR (p.queue++p.dev.busy))) p.hand p.hand.length (ab5 _) with⟨hr,-⟩|⟨k,hk,-,hr,-⟩
  ·have HR:=aa hr;have HP:Hid (jI p.hand (gR (p.queue++p.dev.busy))=-1):=by show jI p.hand (gR (p.queue++p.dev.busy))=-1;unfold jI;rw[hr,ab6 oM]
   clear hr;rw[HP.out,aca oM] at HQ
   go_region_held3 (fun w'=>w'.cell? ⟨s,20,none⟩=some (.slice A.ha p.hand.length A.hc)) (exact af (w:=w2) bQ Bm) (first|(go_at_call 80;refine(qD s p A _ (cu.out.at'.later bQ) (by have:=HI.out.q6;omega)).mono ?_;rintro e w3 ⟨hb,rfl,hH,bC⟩)|(go_at_call 79;refine(XR 123 (by intro args w;go_simp) #[.pointer (some ⟨hb,0,none⟩)] (gR (p.queue++p.dev.busy)) p.hand A.ha A.hc _ (cu.out.at'.mem.hand.later bQ) (fun n w' gP=>tC hb _ n w' ((lZ.later hH bQ).later gP)) HR.out).mono ?_;rintro e w4 ⟨rfl,gj⟩))
   all_goals
    have gA:Hid (bN s p A p A w w4):=cu.out.later bQ;clear bC gj hH;go_wp2;go_ret;have hz:=HQ.out;simp only[ada] at hz;exact⟨by rw[<-hz.1];rfl,p,A,gA.out,hz.2⟩
  ·have HR:=aa hr;obtain⟨x,hx⟩:∃x,x=p.hand[k]:=⟨_,rfl⟩
   have hxm:x∈p.hand:=by rw[hx];exact ach hk
   have lG:=aa (HI.out.hand.rS x hxm);have HP:Hid (jI p.hand (gR (p.queue++p.dev.busy))=x.pl):=by
    show jI p.hand (gR (p.queue++p.dev.busy))=x.pl;unfold jI;rw[hr,aca oM,acE,acr,acb hk,adl,hx]
   have HG:=aa (qC HI.out.hand.lP hxm);have HXE:=aa hx;rw[HP.out,ab6 (by have:=lG.out;omega),HG.out] at HQ;have rl:Hid (∃j,∃hj:j<p.hand.length,en (eR x.pl) p.hand=j/\p.hand[j]=x):=by
    rcases gg p.hand x.pl with⟨h1,_⟩|⟨j,hj,h1,h2,_⟩
    ·rw[HG.out] at h1;cases h1
    ·rw[HG.out] at h1;exact⟨j,hj,h2,(acR h1).symm⟩
   have GI:¬x.pl<0:=by have:=lG.out;omega
   clear hr hx hxm
   go_region_held3 (fun w'=>w'.cell? ⟨s,20,none⟩=some (.slice A.ha p.hand.length A.hc)) (exact af (w:=w2) bQ Bm) (first|(go_at_call 80;refine(qD s p A _ (cu.out.at'.later bQ) (by have:=HI.out.q6;omega)).mono ?_;rintro e w3 ⟨hb,rfl,hH,bC⟩)|(go_at_call 79;refine(UY 123 (by intro args w;go_simp) #[.pointer (some ⟨hb,0,none⟩)] (gR (p.queue++p.dev.busy)) p.hand A.ha A.hc _ (cu.out.at'.mem.hand.later bQ) (fun n w' gP=>tC hb _ n w' ((lZ.later hH bQ).later gP)) k hk HR.out).mono ?_;rw[<-HXE.out];rintro e w4 ⟨rfl,gj⟩))
   all_goals
    have gA:Hid (bN s p A p A w w4):=cu.out.later bQ;have g20:=gA.out.at'.cell 20 _ rfl;have l4:=gA.out.at'.lt;clear bC gj hH Bm ly;obtain⟨j,hj,gy,hjx⟩:=rl.out;have HJ:=aa (And.intro gy hjx);clear gy hjx;go_wp2_with fail;refine(xX p.hand A.ha A.hc x.pl _ (gA.out.at'.mem.hand.later bQ) j hj HJ.out.1).mono ?_;rw[HJ.out.2];rintro e w5 ⟨rfl,fT⟩;have eP:Hid (bN s p A p A w w5):=gA.out.later bQ;have l5:=eP.out.at'.lt;clear g20 l4;go_wp2_with fail;have lW:=aa (And.intro HI.out.tg hT);refine(I1 s p A _ (eP.out.at'.later bQ) (by have:=HI.out.q6;omega) HI.out.Bz ⟨HI.out.tg,hT⟩ HI.out.jZ x.pl ⟨lG.out.1,lG.out.2.1⟩ true [x.data] sM (some ⟨_,0,none⟩) 1 (Vz sM) (fun e=>by cases e) (fun _ ad ha e=>by simp only[ace] at ha;subst ha;have:=eP.out.at'.kb _ e;simp at this;omega) (fun tb=>vL (rY HI.out x.pl ⟨lG.out.1,lG.out.2.1⟩ true [x.data] (il ⟨rfl,rfl,fun s' Ef=>by rw[acz.1 Ef];exact lG.out.2.2⟩)) _ 1 tb)).mono ?_;have dL:p.nf.gF x.pl true [x.data]=(t,q):=HQ.out;rw[dL];clear dL;rintro e w6 ⟨p',A',rfl,oY,hn6⟩;have lY:Hid (bN s p A p' A' w w6):=(eP.out.later bQ).trans oY;have HN6:=aa hn6;clear oY hn6;go_wp2;go_ret;exact⟨rfl,p',A',lY.out,HN6.out⟩
theorem EO(s:Nat)(p:Sk)(A:Sa)(w:World)(h:bo s p A w)(hI:aZ p)(hT:p.tags<=4000000000000000000)(t:Bool)(q:Sk)(hq:p.nf.clean=(t,q)) :
 Calls prog 40 #[.pointer (some ⟨s,0,none⟩)] w fun e w'=>e=.returned (.bool t)/\fE s p A w w' q:=by
 cases hd:p.dead
 ·by_cases hc:bT p.hand<3/\p.ec=false
  ·have e:p.nf.clean=(false,p.nf):=by
    unfold Sk.clean;exact aca (ir hc)
   rw[e] at hq
   cases hq
   exact Qo s p A w h hI hd hc.1 hc.2
  ·exact NX s p A w h hI hT hd hc t q hq
 ·have e:p.nf.clean=(false,p.nf):=by
   unfold Sk.clean;exact aca (il hd)
  rw[e] at hq
  cases hq
  exact NW s p A w h hd
theorem dj.uF{s:Nat}{p:Sk}{A:Sa}{w:World}(h:dj s p A w)(b:Bool):dj s { p with dead:=b } A w where
 cz:=h.cz
 map:=h.map
 im:=h.im
 nb:=h.nb
 hand:=h.hand
 cU:=h.cU
 bU:=h.bU
 queue:=h.queue
 fa:=h.fa
 fq:=h.fq
 left:=h.left
 sv:=h.sv
 vl:=h.vl
 ll:=h.ll
 gX:=h.gX
 iu:=h.iu
 fe:=h.fe
 gU:=h.gU
theorem bo.uF{s:Nat}{p:Sk}{A:Sa}{w:World}(h:bo s p A w)(b:Bool):bN s p A { p with dead:=b } A w (w.setCell ⟨s,29,none⟩ (.bool b)):=h.put (h.mem.uF b) 29 _ rfl (fun _ hk=>hk) ⟨rfl,rfl,rfl,rfl⟩
theorem Vs(s:Nat)(p:Sk)(A:Sa)(w:World)(h:bo s p A w)(i:Int)(fl:Bool)(hi:i<0\/(p.dev.busy.length:Int)<=i) :
 Calls prog 42 #[.pointer (some ⟨s,0,none⟩),i6 i,.bool fl] w fun e w'=>e=.returned (dz 5)/\fE s p A w w' p.nf:=by
 have c1:=h.cell 1 _ rfl;have hl:=h.lt;have aI:=aa h;have HI:=aa hi;clear h hi;go_enter func42,ntmps42;go_wp2_with fail;refine cM (Yf A.v A.b A.bm p.dev A.an A.n A.D i fl w aI.out.mem.cz HI.out) ?_;intro w1 aw;go_wp2;go_ret;exact⟨rfl,p,A,bN.cW aI.out bQ,rfl⟩
section
variable{s:Nat}{p:Sk}{A:Sa}{w w':World}{d':Dl}{np:An}{n':Nat}{D':DataW Unit}
theorem VK(h:jh A.v A.b A.bm p.dev A.an A.n A.D d' np n' D' w w'):∀k,({ A with an:=np,n:=n',D:=D' }:Sa).au s k->A.au s k\/w.heap.size<=k:=by
 rintro k (e|e|e)
 ·exact il (il e)
 ·exact(h.au k e).imp (fun e=>ir (il e)) id
 ·exact il (ir (ir e))
end
theorem Pr(s:Nat)(p:Sk)(A:Sa)(w:World)(h:bo s p A w)(hI:aZ p)(hT:p.tags<=4000000000000000000)(hA:p.ag<=1000000000)(k:Nat)(r:Rq)(hk:p.dev.busy[k]?=some r)(hf:p.f (r.tags.getD 0 0)<2) :
 Calls prog 42 #[.pointer (some ⟨s,0,none⟩),i6 k,.bool true] w fun e w'=>e=.returned (dz 0)/\fE s p A w w' ((p.bD k).again r).nf:=by
 have c1:=h.cell 1 _ rfl;have hl:=h.lt;have aI:=aa h;have HV:=aa (h.PG hI hT hk);have HF:Hid (0<=p.f (r.tags.getD 0 0)/\p.f (r.tags.getD 0 0)<2):=⟨(hI.fr _).1,hf⟩
 have HN:Hid (A.n<=1000000000):=acv h.mem.nb hA;have HK:=aa hk;clear h hI hT hA hk hf;go_enter func42,ntmps42;go_wp2_with fail;refine(VL A.v A.b A.bm p.dev A.an A.n A.D k r _ _ w aI.out.mem.cz HV.out (aI.out.mem.map _) HF.out HN.out).mono ?_;rintro e w1 ⟨a',rfl,hv⟩;have cg:=aa (bo.step (f':=fun t=>if t=r.tags.getD 0 0 then p.f t+1 else p.f t) (p.ag+1) (by have:=aI.out.mem.nb;omega) aI.out hv (by
  have hm:=aI.out.mem.map.put aI.out.mem.im (r.tags.getD 0 0) (p.f (r.tags.getD 0 0)+1);intro t;have:=hm t;rw[this]
  by_cases e:t=r.tags.getD 0 0
  ·simp only[e,adR]
  ·simp only[e,adU]) hv.at'.map.isMap (fun q hq=>by
   have hm:q∈p.dev.busy:=by
    rcases acs.1 hq with h'|h'
    ·exact acy h'
    ·rw[acz.1 h'];exact acX HK.out
   exact Rq.dC.step (aI.out.mem.cz.dev.reqs q hm).1 (aI.out.mem.fe q (acj _ hm)) (yn hv)))
 clear hv;go_wp2;go_ret;exact⟨rfl,_,_,cg.out.later bQ,rfl⟩
theorem SP(s:Nat)(p:Sk)(A:Sa)(w:World)(h:bo s p A w)(hI:aZ p)(hT:p.tags<=3999999999999999990)(hU:p.ax<=3999999999999999990)(k:Nat)(r:Rq)(hk:p.dev.busy[k]?=some r)(hf:¬p.f (r.tags.getD 0 0)<2)(hw:r.wr=true)(q:Sk)(hq:({ (p.bD k).lost r with dead:=true }:Sk).nf.serve=q) :
 Calls prog 42 #[.pointer (some ⟨s,0,none⟩),i6 k,.bool true] w fun e w'=>e=.returned (dz 0)/\fE s p A w w' q:=by
 have c1:=h.cell 1 _ rfl;have hl:=h.lt;have aI:=aa h;have HV:=aa (h.PG hI oM hk);have HF:Hid (2<=p.f (r.tags.getD 0 0)/\p.f (r.tags.getD 0 0)<=100):=⟨oM,by have:=(hI.fr (r.tags.getD 0 0)).2;omega⟩
 have BW:=aa ((hI.bD k).lost r true);have HQ:=aa hq;have HB:=aa (And.intro hT hU);have HW:=aa hw;clear h hI hT hU hk hf hq;go_enter func42,ntmps42;go_wp2_with fail;refine(NI A.v A.b A.bm p.dev A.an A.n A.D k r _ _ w aI.out.mem.cz HV.out (aI.out.mem.map _) HF.out).mono ?_;rintro e w1 ⟨a',rfl,hv⟩;have cg:=aa (bo.step (f':=fun t=>if t=r.tags.getD 0 0 then 0 else p.f t) p.ag aI.out.mem.nb aI.out hv (aI.out.mem.map.del (r.tags.getD 0 0)) hv.at'.map.isMap (fun q hq=>by
  have hm:q∈p.dev.busy:=acy hq;exact Rq.dC.step (aI.out.mem.cz.dev.reqs q hm).1 (aI.out.mem.fe q (acj _ hm)) (yn hv)))
 clear hv;have y29:=cg.out.at'.cell 29 _ rfl;have x29:=cg.out.at'.fz 29;have l1:=cg.out.at'.lt;rw[show fb r none 0 0 8=.agg #[.bool true,i6 r.f,i6 r.m,.slice r.da r.data.length r.dc,.slice r.ta r.tags.length r.tc,i6 r.born,.slice none 0 0,i6 8] by unfold fb;rw[HW.out]];go_wp2_with fail;have cu:=aa (cg.out.trans (cg.out.at'.uF true));refine cM (o8 s ({ (p.bD k).lost r with dead:=true }:Sk) _ _ (cu.out.at'.later bQ) BW.out HB.out.1 HB.out.2 q HQ.out) ?_;intro w4 hok;have HO:=aa (fE.trans (cu.out.later bQ) hok);clear hok;go_wp2;go_ret;exact⟨rfl,HO.out⟩
theorem SQ(s:Nat)(p:Sk)(A:Sa)(w:World)(h:bo s p A w)(hI:aZ p)(hT:p.tags<=3999999999999999990)(hU:p.ax<=3999999999999999990)(k:Nat)(r:Rq)(hk:p.dev.busy[k]?=some r)(hf:¬p.f (r.tags.getD 0 0)<2)(hw:r.wr=false)(q:Sk)(hq:(((p.bD k).lost r).nf.cH (dU r.f r.m) bE 8).serve=q) :
 Calls prog 42 #[.pointer (some ⟨s,0,none⟩),i6 k,.bool true] w fun e w'=>e=.returned (dz 0)/\fE s p A w w' q:=by
 have c1:=h.cell 1 _ rfl;have hl:=h.lt;have aI:=aa h;have HV:=aa (h.PG hI oM hk);have HF:Hid (2<=p.f (r.tags.getD 0 0)/\p.f (r.tags.getD 0 0)<=100):=⟨oM,by have:=(hI.fr (r.tags.getD 0 0)).2;omega⟩
 have BW:=aa ((hI.bD k).BF r);have HQ:=aa hq;have HB:=aa (And.intro hT hU);have HW:=aa hw;clear h hI hT hU hk hf hq;go_enter func42,ntmps42;go_wp2_with fail;refine(NI A.v A.b A.bm p.dev A.an A.n A.D k r _ _ w aI.out.mem.cz HV.out (aI.out.mem.map _) HF.out).mono ?_;rintro e w1 ⟨a',rfl,hv⟩;have cg:=aa (bo.step (f':=fun t=>if t=r.tags.getD 0 0 then 0 else p.f t) p.ag aI.out.mem.nb aI.out hv (aI.out.mem.map.del (r.tags.getD 0 0)) hv.at'.map.isMap (fun q hq=>by
  have hm:q∈p.dev.busy:=acy hq;exact Rq.dC.step (aI.out.mem.cz.dev.reqs q hm).1 (aI.out.mem.fe q (acj _ hm)) (yn hv)))
 clear hv;have l1:=cg.out.at'.lt;rw[show fb r none 0 0 8=.agg #[.bool false,i6 r.f,i6 r.m,.slice r.da r.data.length r.dc,.slice r.ta r.tags.length r.tc,i6 r.born,.slice none 0 0,i6 8] by unfold fb;rw[HW.out]];go_wp2_with fail;refine(xz s ((p.bD k).lost r) _ _ (cg.out.at'.later bQ) BW.out r.f r.m bE 8 _ rfl).mono ?_;rintro e w2 ⟨rfl,p2,A2,pN,lo⟩;have cu:Hid (bN s p A p2 A2 w w2):=(cg.out.later bQ).trans pN;have zU:Hid (aZ p2):=by
  have:=BW.out.nf.cH (dU r.f r.m) bE 8;rw[<-lo] at this;exact this.cD
 have cw:Hid (p2.tags<=3999999999999999990/\p2.ax<=3999999999999999990):=by
  have e1:p2.nf.tags=p.tags:=by rw[lo];rfl
  have e2:p2.nf.ax=p.ax:=by rw[lo];rfl
  have:=HB.out;exact⟨e1▸this.1,e2▸this.2⟩
 have kN:Hid (p2.nf.serve=q):=by
  show p2.nf.serve=q;rw[lo];exact HQ.out
 clear pN lo;go_wp2_with fail;refine cM (o8 s p2 A2 _ cu.out.at' zU.out cw.out.1 cw.out.2 q kN.out) ?_;intro w4 hok;have HO:=aa (fE.trans cu.out hok);clear hok;go_wp2;go_ret;exact⟨rfl,HO.out⟩
theorem X2(s:Nat)(p:Sk)(A:Sa)(w:World)(h:bo s p A w)(hI:aZ p)(hS:dG p.dev)(hT:p.tags<=3999999999999999980)(hU:p.ax<=3999999999999999980)(k:Nat)(r:Rq)(hk:p.dev.busy[k]?=some r)(q:Sk)(hq:(((p.bD k).cq r).nf.nS r (cV p.dev r)).serve=q) :
 Calls prog 42 #[.pointer (some ⟨s,0,none⟩),i6 k,.bool false] w fun e w'=>e=.returned (dz 0)/\fE s p A w w' q:=by
 have c1:=h.cell 1 _ rfl;have hl:=h.lt;have aI:=aa h;have lN:r∈p.dev.busy:=acX hk;have HG:=aa (hI.bP r (acj _ lN));have HV:=aa (h.PG hI oM hk);have oK:=aa ((hI.bD k).cq r);have HQ:=aa hq;have HB:=aa (And.intro hT hU);have pZ:=aa (iN hS r);have lV:=aa (h.mem.cz.dev.reqs r lN).1;have fu:=aa (h.mem.eX r (acj _ lN));clear h hI hT hU hk hq lN hS;go_enter func42,ntmps42;go_wp2_with fail;refine(abh A.v A.b A.bm p.dev A.an A.n A.D k r _ w aI.out.mem.cz HV.out HG.out).mono ?_;rintro e w1 ⟨a',xa,xc,xs,rfl,jQ,wm,kh,hv⟩;have xM:=aa jQ.out;have sZ:=aa wm;have nm:=aa kh;have sY:=aa (VK (s:=s) hv);have BZ:Hid (r.At w1):=lV.out.frame ⟨fun he ad ha e=>fu.out.1 he ad ha (ir (il e)),fun he ad ha e=>fu.out.2 he ad ha (ir (il e))⟩ hv.only;have B2:Hid (r.dC (({ A with an:=a',n:=A.n,D:=A.D.del (.int .i64 (r.tags.getD 0 0)) }:Sa).au s)):=Rq.dC.step lV.out fu.out sY.out;have MS:Hid (∀ad,xa=some ad->¬({ A with an:=a',n:=A.n,D:=A.D.del (.int .i64 (r.tags.getD 0 0)) }:Sa).au s ad.block):=by
  rintro ad pG (e|e|⟨i,hi,q',cE,e⟩)
  ·have:=(nm.out ad pG).1;have:=aI.out.lt;omega
  ·exact(nm.out ad pG).2 e
  ·have:=(nm.out ad pG).1;have:=aI.out.mem.eW hi cE;omega
 have cg:=aa (bo.step (f':=fun t=>if t=r.tags.getD 0 0 then 0 else p.f t) p.ag aI.out.mem.nb aI.out hv (aI.out.mem.map.del (r.tags.getD 0 0)) hv.at'.map.isMap (fun q hq=>by
  rw[Dl.mw] at hq;have hm:q∈p.dev.busy:=acy hq;exact Rq.dC.step (aI.out.mem.cz.dev.reqs q hm).1 (aI.out.mem.fe q (acj _ hm)) (yn hv)))
 have l1:=cg.out.at'.lt;have P4:Hid (∀W,bL w1 W->Calls prog 88 #[.pointer (some ⟨s,0,none⟩),fb r xa xs.length xc 0] W fun e w'=>e=.returned (.tuple #[])/\fE s ((p.bD k).cq r) { A with an:=a',n:=A.n,D:=A.D.del (.int .i64 (r.tags.getD 0 0)) } W w' (((p.bD k).cq r).nf.nS r (cV p.dev r))):=by
  intro W hW
  cases hw:r.wr
  ·refine My s ((p.bD k).cq r) _ W (cg.out.at'.later hW) oK.out r (by have:=HB.out;show p.ax<=_;omega) HG.out hw xa xc xs (sZ.out.later hW) (fun _ ad ha=>MS.out ad ha) ?_ ?_ _ (by rw[xM.out])
   ·rw[xM.out];unfold cV;rw[hw];exact tT _ _ _
   ·rw[xM.out];exact pZ.out
  ·exact Mz s ((p.bD k).cq r) _ W (cg.out.at'.later hW) oK.out r HG.out hw (BZ.out.later hW).data B2.out.1 xa xs.length xc (cV p.dev r) pZ.out _ rfl
 clear jQ wm kh hv;generalize hn:xs.length=n at *;go_wp2_with fail;refine(P4.out _ bQ).mono ?_;rintro e w2 ⟨rfl,p2,A2,pN,lo⟩;have cu:Hid (bN s p A p2 A2 w w2):=(cg.out.later bQ).trans pN;have rL:=ou ((p.bD k).cq r).nf r (cV p.dev r) r.m.toNat;have zU:Hid (aZ p2):=by
  have:=oK.out.nf.cR r HG.out (cV p.dev r) pZ.out r.m.toNat (ab5 _);rw[show((p.bD k).cq r).nf.cR r (cV p.dev r) r.m.toNat=p2.nf from lo.symm] at this;exact this.cD
 have cw:Hid (p2.tags<=3999999999999999990/\p2.ax<=3999999999999999990):=by
  have e0:((p.bD k).cq r).nf.cR r (cV p.dev r) r.m.toNat=p2.nf:=lo.symm;rw[e0] at rL;have e1:p2.tags<=p.tags+r.m.toNat:=rL.tags;have e2:p2.ax<=p.ax+r.m.toNat:=rL.ax;have:=HB.out;have:=HG.out.te;exact⟨oM,oM⟩
 have kN:Hid (p2.nf.serve=q):=by
  show p2.nf.serve=q;rw[lo];exact HQ.out
 clear pN lo rL;go_wp2_with fail;refine cM (o8 s p2 A2 _ cu.out.at' zU.out cw.out.1 cw.out.2 q kN.out) ?_;intro w4 hok;have HO:=aa (fE.trans cu.out hok);clear hok;go_wp2;go_ret;exact⟨rfl,HO.out⟩
theorem Df(s:Nat)(p:Sk)(A:Sa)(w:World)(h:bo s p A w)(hI:aZ p)(hS:dG p.dev)(hT:p.tags<=3999999999999999980)(hU:p.ax<=3999999999999999980)(hA:p.ag<=1000000000)(i:Int)(fl:Bool)(n:Int)(q:Sk)(hq:p.nf.cA i fl=(n,q)) :
 Calls prog 42 #[.pointer (some ⟨s,0,none⟩),i6 i,.bool fl] w fun e w'=>e=.returned (dz n)/\fE s p A w w' q:=by
 by_cases hi:i<0\/(p.dev.busy.length:Int)<=i
 ·rw[DO hi] at hq
  cases hq
  exact Vs s p A w h i fl hi
 ·obtain⟨k,rfl⟩:∃k:Nat,i=k:=⟨i.toNat,oM⟩
  have hk:k<p.dev.busy.length:=oM;have eH:=acb hk
  cases fl
  ·rw[Gi eH] at hq;simp only[ada] at hq;obtain⟨rfl,hq⟩:=hq;exact X2 s p A w h hI hS hT hU k _ eH q hq
  ·by_cases hf:p.f (p.dev.busy[k].tags.getD 0 0)<2
   ·rw[Ak eH hf] at hq
    cases hq
    exact Pr s p A w h hI oM hA k _ eH hf
   ·cases hw:p.dev.busy[k].wr
    ·rw[Cg eH hf hw] at hq;simp only[ada] at hq;obtain⟨rfl,hq⟩:=hq;exact SQ s p A w h hI oM oM k _ eH hf hw q hq
    ·rw[Cf eH hf hw] at hq;simp only[ada] at hq;obtain⟨rfl,hq⟩:=hq;exact SP s p A w h hI oM oM k _ eH hf hw q hq
section
variable{W wr w':World}{s b:Nat}{q q':Sk}
end
section
variable(W w:World)(s b:Nat)(q:Sk)(n:Nat)
end
def sa0(b v bm:Nat):Sa:=⟨b,v,bm,F8,0,.map [],fun _=>none,fun _=>0,none,0,none,0,fun _=>False⟩
theorem Sn{q:Sk}(h:∀i:Nat,i<3->q.waits (i:Int)=false):q.quiet=(q.queue.isEmpty&&q.dev.busy.isEmpty):=by
 have h0:q.waits 0=false:=h 0 oM;have h1:q.waits 1=false:=h 1 oM;have h2:q.waits 2=false:=h 2 oM;unfold Sk.quiet;rw[h0,h1,h2];rfl
theorem Sp{q:Sk}{i:Nat}(hi:i<3)(h:q.waits (i:Int)=true):q.quiet=false:=by
 cases e:q.quiet
 ·rfl
 ·have:=((So q).1 e).1 i hi;exact absurd this ((wZ q i hi).1 h)
theorem Cv{α:Type}(l:List α):l.isEmpty=((l.length:Int)==0):=by
 cases l with
 |nil=>rfl
 |cons x l=>symm;rw[ab8.2];rfl;rw[ac7];omega
def KL:Option Value->Nat
 |some (.slice _ n _)=>n
 |_=>0
def Ja(w:World)(b:Nat):Nat:=KL (w.cell? ⟨b,66,none⟩)
theorem zA{q:Sk}(hI:aZ q)(h:q.bf.1=true):q.bf.2.dev.busy.length=q.dev.busy.length+1:=by
 rcases kV hI with⟨_,e⟩|⟨i,hi,T,_,_,_,_,e⟩
 ·rw[e] at h;cases h
 ·rw[e];simp
section
variable{s:Nat}{p:Sk}{A:Rs}{w wr:World}{r q:Sk}{c c':Nat}
theorem ed.then{f:Nat}{args:Array Value}{E:Ending->Prop}(h:ed c s p A w wr r)(k:∀p' A',bK s p' A' wr->p'.nf=r->A'.bX<=A.bX+c->Calls prog f args wr fun e w'=>E e/\ed c' s p' A' wr w' q):Calls prog f args wr fun e w'=>E e/\ed (c+c') s p A w w' q:=by
 obtain⟨p',A',hs,hn,hc⟩:=h;refine(k p' A' hs.at' hn hc).mono ?_;rintro e w' ⟨he,hk⟩;exact⟨he,ed.before hs hc hk (ab5 _)⟩
theorem ed.refl(h:bK s p A w):ed 0 s p A w w p.nf:=⟨p,A,bI.cW h (aQ _ _),rfl,oM⟩
def Fw(w:World)(b:Nat):Nat:=KL (w.cell? ⟨b,65,none⟩)
theorem Es(h:ed c s p A w wr r):Fw wr A.b=r.dev.busy.length:=by
 obtain⟨p',A',hs,rfl,_⟩:=h;unfold Fw;rw[<-hs.same.1,hs.at'.mem.cz.dev.jb,hs.at'.mem.busy];exact(acp _).symm
theorem Gk{n:Nat}(h:ig n q):ig (n+3) q.tick:=⟨h.fit.tick,ck.tick h.fit.inv h.tight⟩
theorem DP{n:Nat}(h:ig n q):ig (n+1) q.clean.2:=⟨h.fit.clean,ck.clean h.fit.inv h.tight⟩
theorem zC{n:Nat}(h:ig n q):ig n q.bf.2:=⟨h.fit.bf,ck.bf h.fit.inv h.tight⟩
theorem iz{n m:Nat}(h:ig n q)(hm:n<=m):ig m q:=⟨h.fit.mono hm,h.tight⟩
theorem Lh(m:Nat):∀{n:Nat} {q:Sk},ig n q->ig (n+11*m) (q.settle m).2:=by
 induction m with
 |zero=>intro n q h;exact h
 |succ m ih =>
  intro n q h;unfold Sk.settle
  split
  ·exact iz h oM
  ·exact iz (ih h.round) oM
theorem CQ{n:Nat}(h:ig n q)(x kind pl:Int)(data:ByteArray):ig (n+3) (q.ask x kind pl data).2:=⟨h.fit.ask x kind pl data,ck.ask h.fit.inv h.tight x kind pl data⟩
theorem Jo{n:Nat}(h:ig n q)(i:Int)(fl:Bool):ig (n+7) (q.cA i fl).2:=⟨h.fit.cA i fl,ck.cA h.fit.inv h.fit.short h.tight i fl⟩
end
theorem EH(s:Nat)(p:Sk)(A:Rs)(w:World)(h:bK s p A w)(n:Nat)(hf:ig n p.nf)(hL:aL p.nf)(hn:n<=3900000)(hc:A.bX<=230000)(q:Sk)(hq:p.nf.round=q) :
 Calls prog 57 #[.pointer (some ⟨s,0,none⟩)] w fun e w'=>e=.returned (.tuple #[])/\ed 1 s p A w w' q:=by
 have aI:=aa h;have HF:=aa hf;have HL:=aa hL;have HQ:=aa hq;have oz:=aa hc;have hl:=h.lt;clear h hf hL hq hc;go_enter func57,ntmps57;go_wp2_with fail;refine cM (G6 s p A w aI.out HF.out.fit.cD.inv HL.out.cD (by have:=HF.out.fit.tags;have e:p.nf.tags=p.tags:=rfl;omega) (by have:=HF.out.fit.ax;have e:p.nf.ax=p.ax:=rfl;omega) _ rfl) ?_;intro w1 h1;have jB:=aa h1;have Yt:=aa (Gk HF.out);have zV:=aa HL.out.tick;clear h1;generalize dD:p.nf.tick=q1 at *;have P1:=aa dD;clear dD;go_wp2_with fail;refine cM (ed.then jB.out (c':=0) (q:=q1.clean.2) (E:=fun e=>e=.returned (.bool q1.clean.1)) (fun p' A' h' nu _=>by subst nu;exact CF s p' A' w1 h' Yt.out.fit.cD.inv (by have:=Yt.out.fit.tags;have e:p'.nf.tags=p'.tags:=rfl;omega) _ _ rfl)) ?_;intro w2 h2;have eB:=aa h2;have PV:=aa (DP Yt.out);have Dw:=aa zV.out.clean;have kN:Hid (((q1.clean.2.bS 3).cA 0 false).2=q):=by
  show((q1.clean.2.bS 3).cA 0 false).2=q;rw[<-P1.out];exact HQ.out
 clear h2 HQ jB P1;generalize q1.clean.1=t at *;generalize q1.clean.2=q2 at *;go_wp2
 go_loopw[] (fun wr=>∃(j:Nat) (r:Sk),ed 0 s p A w wr r/\ig (n+3+1) r/\aL r/\r.bS j=q2.bS 3/\3<=r.dev.busy.length+j) (fun wr=>3-Fw wr A.b)
 case atStart=>exact⟨3,q2,eB.out,PV.out,Dw.out,rfl,oM⟩
 case round =>
  obtain⟨j,r,ho,pJ,D9,hd,hj⟩:=hrel;have jL:=aa ho;have eE:=aa pJ;have PX:=aa D9;have HD:=aa hd;have aA:=pJ.fit.inv.b2;obtain⟨i,rfl⟩:∃i,j=i+1:=⟨j-1,oM⟩
  have HJ:=aa hj;have cw:=aa aA;clear ho pJ hd hj aA D9
  cases ht:r.bf.1
  ·have HE:Hid (r=q2.bS 3):=by
    have:=HD.out;unfold Sk.bS at this;rw[ht,ab6 acn] at this;exact this
   have HS:Hid (r.bf=(false,r)):=by
    rcases kV eE.out.fit.inv with⟨_,e⟩|⟨_,_,_,_,_,_,_,e⟩
    ·exact e
    ·rw[e] at ht;cases ht
   clear ht;go_wp2_with fail;refine cM (ed.then jL.out (c':=0) (q:=r) (E:=fun e=>e=.returned (.bool false)) (fun p' A' h' nu _=>by subst nu;exact sG s p' A' wr h' eE.out.fit.cD.inv _ _ HS.out)) ?_;intro w3 h3;have lX:=aa h3;clear h3;go_wp2_with fail;refine(ed.then lX.out (c':=1) (q:=q) (E:=fun e=>e=.returned (i6 (r.cA 0 false).1)) (fun p' A' h' nu hc'=>by subst nu;exact Da s p' A' w3 h' _ eE.out oM (by have:=oz.out;omega) PX.out 0 false _ _ (by rw[afd];exact⟨rfl,by show(p'.nf.cA 0 false).2=q;rw[HE.out];exact kN.out⟩))).mono ?_;generalize (r.cA 0 false).1=x;rintro e w4 ⟨rfl,h4⟩;go_wp2;go_end0;exact⟨rfl,h4⟩
  ·have HE:Hid (r.bf.2.bS i=q2.bS 3):=by
    have:=HD.out;unfold Sk.bS at this;rw[ht,aca rfl] at this;exact this
   have HM:=aa (zA eE.out.fit.inv ht);have HT:=aa ht;clear ht;go_wp2_with fail;refine cM (ed.then jL.out (c':=0) (q:=r.bf.2) (E:=fun e=>e=.returned (.bool true)) (fun p' A' h' nu _=>by subst nu;exact sG s p' A' wr h' eE.out.fit.cD.inv _ _ (by rw[afd];exact⟨HT.out,rfl⟩))) ?_;intro w3 h3;have lX:=aa h3;clear h3;go_wp2;go_roundw
   case rel=>exact⟨i,r.bf.2,lX.out,zC eE.out,PX.out.bf,HE.out,by have:=HM.out;have:=HJ.out;omega⟩
   case measure=>rw[Es jL.out,Es lX.out];have:=HM.out;have:=cw.out;omega
theorem L9(s:Nat)(p:Sk)(A:Rs)(w:World)(h:bK s p A w)(n m:Nat)(hf:ig n p.nf)(hL:aL p.nf)(hn:n+11*m<=3900000)(hc:A.bX+m<=230000)(x:Nat)(q:Sk)(hq:p.nf.settle m=(x,q))(t:Bool)(ht:q.quiet=t) :
 Calls prog 58 #[.pointer (some ⟨s,0,none⟩),i6 m] w fun e w'=>e=.returned (.tuple #[i6 x,.bool t])/\ed m s p A w w' q:=by
 have aI:=aa h;have HF:=aa hf;have HL:=aa hL;have HQ:=aa hq;have HT:=aa ht;have oz:=aa hc;clear h hf hL hq ht hc;go_enter func58,ntmps58;go_wp2
 go_loopw[6] (fun i wr=>∃(k:Nat) (r:Sk),k<=m/\i=i6 k/\ed k s p A w wr r/\ig (n+11*k) r/\aL r/\p.nf.settle m=((r.settle (m-k)).1+k,(r.settle (m-k)).2)) (fun i _=>m-(intOf i).toNat)
 case atStart=>exact⟨0,p.nf,oM,rfl,ed.refl aI.out,HF.out,HL.out,rfl⟩
 case round =>
  obtain⟨k,r,hk,rfl,ho,pJ,D9,hd⟩:=hrel;have jL:=aa ho;have eE:=aa pJ;have PX:=aa D9;have HD:=aa (hd.symm.trans HQ.out);have ey:Hid (ed m s p A w wr r):=by
   obtain⟨p',A',h1,h2,h3⟩:=ho;exact⟨p',A',h1,h2,oM⟩
  have VY:Hid (∀t',r.quiet=t'->Calls prog 109 #[.pointer (some ⟨s,0,none⟩)] wr fun e w'=>e=.returned (.bool t')/\w'=wr):=by
   obtain⟨p',A',h1,rfl,h3⟩:=ho;exact fun t' wj=>Pm s p' A' wr h1.at' t' wj
  clear ho pJ hd D9
  by_cases aq:k<m
  ·have fM:(k:Int)<(m:Int):=oM;obtain⟨i,hi⟩:∃i,m-k=i+1:=⟨m-k-1,oM⟩
   have HI:=aa hi;rw[hi] at HD
   cases sh:r.quiet
   ·have nk:Hid (((r.round.settle i).1+(k+1),(r.round.settle i).2)=(x,q)):=by
     have:=HD.out;unfold Sk.settle at this;rw[ab6 (by rw[sh];exact acn)] at this;show _=_;rw[<-this];simp only[ada,adh]
     omega
    have xK:=aa sh;clear sh hi;go_wp2_with fail;refine cM (VY.out false xK.out) ?_;intro w1 rfl;go_wp2_with fail;refine cM (ed.then jL.out (c':=1) (q:=r.round) (E:=fun e=>e=.returned (.tuple #[])) (fun p' A' h' nu hc'=>by subst nu;exact EH s p' A' w1 h' _ eE.out PX.out oM (by have:=oz.out;omega) _ rfl)) ?_;intro w2 h2;have eB:=aa h2;clear h2;go_wp2;go_roundw
    case rel=>exact⟨k+1,r.round,oM,gN,eB.out,iz eE.out.round oM,PX.out.round,by
     have e:m-(k+1)=i:=by have:=HI.out;omega
     rw[e];exact HQ.out.trans nk.out.symm⟩
    case measure=>simp[intOf];omega
   ·have nk:Hid (k=x/\r=q):=by
     show k=x/\r=q;have:=HD.out;unfold Sk.settle at this;rw[aca sh] at this
     simpa using this
    have xK:=aa sh;have YF:Hid (true=t):=by have:=HT.out;rw[<-nk.out.2,sh] at this;exact this
    clear sh hi;go_wp2_with fail;refine cM (VY.out true xK.out) ?_;intro w1 rfl;go_wp2_with fail;refine cM (VY.out true xK.out) ?_;intro w2 rfl;go_wp2;refine ack (v:=.tuple #[i6 k,.bool true]) (by simp[results,results58,go_sem]) rfl ?_;exact⟨by rw[<-nk.out.1,YF.out],by rw[<-nk.out.2];exact ey.out⟩
  ·obtain rfl:k=m:=oM;have nk:Hid (k=x/\r=q):=by
    show k=x/\r=q;have:=HD.out;rw[aeB] at this;unfold Sk.settle at this
    simpa using this
   have xK:Hid (r.quiet=t):=by have:=HT.out;rw[<-nk.out.2] at this;exact this
   go_wp2_with fail;refine cM (VY.out t xK.out) ?_;intro w1 rfl;go_wp2;refine ack (v:=.tuple #[i6 k,.bool t]) (by simp[results,results58,go_sem]) rfl ?_;exact⟨by rw[<-nk.out.1],by rw[<-nk.out.2];exact ey.out⟩
theorem O0(s:Nat)(w:World)(c kind pl:Int)(data:ByteArray)(h:¬(0<=c/\c<3)\/¬(1<=kind/\kind<=3)) :
 Calls prog 50 #[.pointer (some ⟨s,0,none⟩),i6 c,i6 kind,i6 pl,.string data] w fun e w'=>e=.returned (i6 3)/\w'=w:=by
 by_cases h1:c<0
 ·clear h;go_enter func50,ntmps50;go_wp2;go_ret;exact⟨rfl,rfl⟩
 by_cases h2:2<c
 ·clear h;go_enter func50,ntmps50;go_wp2;go_ret;exact⟨rfl,rfl⟩
 by_cases h3:kind<1
 ·clear h;go_enter func50,ntmps50;go_wp2;go_ret;exact⟨rfl,rfl⟩
 have h4:3<kind:=oM;clear h;go_enter func50,ntmps50;go_wp2;go_ret;exact⟨rfl,rfl⟩
theorem U8(s:Nat)(w:World)(c kind pl:Int)(data:ByteArray)(hc:0<=c/\c<3)(hk:1<=kind/\kind<=3)(h:¬dx c kind pl data=0) :
 Calls prog 50 #[.pointer (some ⟨s,0,none⟩),i6 c,i6 kind,i6 pl,.string data] w fun e w'=>e=.returned (i6 1)/\w'=w:=by
 obtain⟨c1,c2⟩:=hc;have d1:¬c<0:=oM;have d2:¬2<c:=oM;obtain⟨k1,k2⟩:=hk;have e1:¬kind<1:=oM;have e2:¬3<kind:=oM
 by_cases p1:pl<0
 ·clear h;go_enter func50,ntmps50;go_wp2;go_ret;exact⟨rfl,rfl⟩
 by_cases p2:31<pl
 ·clear h;go_enter func50,ntmps50;go_wp2;go_ret;exact⟨rfl,rfl⟩
 by_cases p3:(4:Int)<(data.size:Int)
 ·clear h;go_enter func50,ntmps50;go_wp2;go_ret;exact⟨rfl,rfl⟩
 have hz:kind=3/\¬pl=0\/¬kind=2/\¬data.size=0:=by
  by_cases g1:kind=3/\¬pl=0
  ·exact il g1
  ·by_cases g2:¬kind=2/\¬data.size=0
   ·exact ir g2
   ·exfalso
    apply h;unfold dx;rw[ab6 oM,ab6 oM,ab6 oM]
 clear h;have GB:kind=1\/kind=2\/kind=3:=oM
 rcases GB with rfl|rfl|rfl
 ·have hd:data.toList.isEmpty=false:=by
   have:¬data.size=0:=oM;rw[adL]
   cases data with
   |mk a =>
    cases a with
    |mk l=>cases l with
     |nil=>exact absurd rfl this
     |cons x l=>rfl
  clear hz k1 k2 e1 e2;go_enter func50,ntmps50;go_wp2;go_ret;exact⟨rfl,rfl⟩
 ·exfalso;omega
 ·by_cases p4:pl=0
  ·subst p4;have hd:data.toList.isEmpty=false:=by
    have:¬data.size=0:=oM;rw[adL]
    cases data with
    |mk a =>
     cases a with
     |mk l=>cases l with
      |nil=>exact absurd rfl this
      |cons x l=>rfl
   clear hz k1 k2 e1 e2 p1 p2;go_enter func50,ntmps50;go_wp2;go_ret;exact⟨rfl,rfl⟩
  ·have p5:(pl != 0)=true:=by rw[adP];exact p4
   clear hz k1 k2 e1 e2;go_enter func50,ntmps50;go_wp2;go_ret;exact⟨rfl,rfl⟩
theorem XU(s:Nat)(p:Sk)(A:Rs)(w:World)(h:bK s p A w)(c kind pl:Int)(data:ByteArray)(h0:¬dx c kind pl data=0) :
 Calls prog 50 #[.pointer (some ⟨s,0,none⟩),i6 c,i6 kind,i6 pl,.string data] w fun e w'=>e=.returned (i6 (dx c kind pl data))/\ed 0 s p A w w' p.nf:=by
 by_cases h1:¬(0<=c/\c<3)\/¬(1<=kind/\kind<=3)
 ·have e:dx c kind pl data=3:=by unfold dx;rw[aca h1]
  rw[e];refine cM (O0 s w c kind pl data h1) ?_;intro w' rfl;exact⟨rfl,p,A,bI.cW h (aQ _ _),rfl,ab5 _⟩
 ·have e:dx c kind pl data=1:=by
   unfold dx at h0 ⊢;rw[ab6 h1] at h0 ⊢
   split
   ·rfl
   ·rename_i h2
    rw[ab6 h2] at h0
    split
    ·rfl
    ·rename_i h3
     rw[ab6 h3] at h0;exact absurd rfl h0
  have h2:0<=c/\c<3:=oM;have h3:1<=kind/\kind<=3:=oM;refine(U8 s w c kind pl data h2 h3 h0).mono ?_;rintro x w' ⟨rfl,rfl⟩;exact⟨by rw[e],p,A,bI.cW h (aQ _ _),rfl,ab5 _⟩
structure Dn(kind pl:Int)(data:ByteArray):Prop where
 kd:kind=1\/kind=2\/kind=3
 p0:0<=pl
 p1:pl<=31
 sz:data.size<=4
 sy:kind=3->pl=0
 em:¬kind=2->data=⟨#[]⟩
theorem TI{c kind pl:Int}{data:ByteArray}(h:dx c kind pl data=0):(0<=c/\c<3)/\Dn kind pl data:=by
 have hz:=lQ h;obtain⟨z1,z2,z3,z4,z5,z6⟩:=hz;refine⟨z1,oM,z3.1,z3.2,z5,z4,fun hk=>?_⟩;have:=z6 hk
 cases data with
 |mk a =>
  cases a with
  |mk l=>cases l with
   |nil=>rfl
   |cons x l=>exact absurd this (by simp[ByteArray.size])
theorem Sv(s:Nat)(p:Sk)(A:Rs)(w:World)(h:bK s p A w)(i:Nat)(hi:i<3)(kind pl:Int)(data:ByteArray)(ho:Dn kind pl data)(hb:¬(p.aj i).kind=0) :
 Calls prog 50 #[.pointer (some ⟨s,0,none⟩),i6 i,i6 kind,i6 pl,.string data] w fun e w'=>e=.returned (i6 6)/\w'=w:=by
 have eQ:=(h.eQ hi).1;have hl:=h.lt;unfold ru at eQ
 cases eY:A.ka i with
 |none=>exact absurd (h.mem.idle i hi eY) hb
 |some k =>
  rw[eY] at eQ;simp only[adE] at eQ;obtain⟨kd,p0,p1,sz,sy,em⟩:=ho;have d0:(0:Int)<=(i:Int):=oM;have d3:(i:Int)<3:=oM;have d1:¬(i:Int)<0:=oM;have d2:¬2<(i:Int):=oM;have p2:¬pl<0:=oM;have p3:¬31<pl:=oM;have p4:¬(4:Int)<(data.size:Int):=oM;clear h hb eY
  rcases kd with rfl|rfl|rfl
  ·obtain rfl:=em dM;clear sy em sz p4;go_enter func50,ntmps50;go_wp2;go_ret;exact⟨rfl,rfl⟩
  ·clear sy em;go_enter func50,ntmps50;go_wp2;go_ret;exact⟨rfl,rfl⟩
  ·obtain rfl:=em dM;obtain rfl:=sy rfl;clear sy em sz p4;go_enter func50,ntmps50;go_wp2;go_ret;exact⟨rfl,rfl⟩
def TH(p:Sk)(i:Nat)(kind:Int):List Int:=if kind=3 then bV p.hand else(p.aj i).left
def CO(p:Sk)(i:Nat)(kind pl:Int)(data:ByteArray):Cl:={ p.aj i with kind:=kind,pl:=pl,data:=data,left:=TH p i kind }
section
variable{s:Nat}{p:Sk}{A:Rs}{w w1:World}{i:Nat}{kind pl:Int}{data:ByteArray}
theorem I2(h:bK s p A w)(hi:i<3)(eY:A.ka i=none)(hb:bL w w1){a':Option Addr}{n:Nat}{L:List Int}(sx:w1.heap[w.heap.size]?=some (.cells (qB (CO p i kind pl data) a' L.length n).toArray 160 (0,0)))(hk:¬kind=0)(hI:dZ w1 a' L)(hn:a'=none->n=0)(kg:∀b o,a'=some ⟨b,o,none⟩->w.heap.size+1<=b)(hL:kind=3->L=TH p i kind) :
 ∃A',bI s p A (p.asks i kind pl data) A' w (w1.setCell ⟨s,11+i,none⟩ (.pointer (some ⟨w.heap.size,0,none⟩)))/\A'.bX=A.bX:=by
 refine⟨_,h.asked hb hi (ab5 _) (CO p i kind pl data) L a' n ⟨sx,hk,hI,hn,hL⟩ (fun aE q hq=>?_) ⟨rfl,rfl⟩ eY,rfl⟩
 rcases hI.form with e|⟨b',o',e⟩
 ·exact absurd e aE
 ·rw[e] at hq;simp only[ace] at hq;subst hq;have:=kg b' o' e;exact⟨by show w.heap.size<=b';omega,by show ¬b'=w.heap.size;omega⟩
theorem TK(hI:aZ p)(ho:Dn kind pl data):aZ (p.asks i kind pl data):=hI.asks i kind pl data (by have:=ho.kd;omega) ⟨ho.p0,ho.p1⟩ ho.sz
theorem Qg(hI:aZ p)(hL:aL p):aL (p.asks i kind pl data):=hL.set i _ (Ew p hI.hand.len i (hL.aj i)) rfl
end
def Ix(s:Nat)(p:Sk)(A:Rs)(w:World)(i:Nat)(kind pl:Int)(data:ByteArray)(q:Sk):Prop:=∀w1 A',bI s p A (p.asks i kind pl data) A' w w1->A'.bX=A.bX->Calls prog 96 #[.pointer (some ⟨s,0,none⟩)] w1 fun e w'=>e=.returned (.tuple #[])/\ed 0 s p A w w' q
theorem Qf{s:Nat}{p:Sk}{A:Rs}{w:World}{i:Nat}{kind pl:Int}{data:ByteArray}(hI:aZ p)(hL:aL p)(hT:p.tags<=3999999999999999990)(hU:p.ax<=3999999999999999990)(ho:Dn kind pl data)(q:Sk)(hq:(p.asks i kind pl data).nf.serve=q):Ix s p A w i kind pl data q:=by
 intro w1 A' hs hc;refine cM (nO s _ A' w1 hs.at' (TK hI ho) (Qg hI hL) hT hU q hq) ?_;intro w' hok;exact⟨rfl,ed.before (c:=0) hs oM hok (ab5 _)⟩
theorem Nx(s:Nat)(p:Sk)(A:Rs)(w:World)(h:bK s p A w)(i:Nat)(hi:i<3)(kind pl:Int)(data:ByteArray)(ho:Dn kind pl data)(hk:kind=1\/kind=2)(eY:A.ka i=none)(q:Sk)(he:Ix s p A w i kind pl data q) :
 Calls prog 50 #[.pointer (some ⟨s,0,none⟩),i6 i,i6 kind,i6 pl,.string data] w fun e w'=>e=.returned (i6 0)/\ed 0 s p A w w' q:=by
 have eQ:=(h.eQ hi).1;have f11:=(h.eQ hi).2;have hl:=h.lt;unfold ru at eQ;rw[eY] at eQ;simp only[aek] at eQ;have c2:=h.cell 2 _ rfl;have aI:=aa h;have HE:=aa he;have IM:=aa eY;have uI:=aa hk;obtain⟨kd,p0,p1,sz,sy,em⟩:=ho;have d0:(0:Int)<=(i:Int):=oM;have d3:(i:Int)<3:=oM;have d1:¬(i:Int)<0:=oM;have d2:¬2<(i:Int):=oM;have p2:¬pl<0:=oM;have p3:¬31<pl:=oM;have p4:¬(4:Int)<(data.size:Int):=oM;have mJ:Hid (∀w1,bL w w1->w1.heap[w.heap.size]?=some (.cells (qB (CO p i kind pl data) none 0 0).toArray 160 (0,0))->∃A',bI s p A (p.asks i kind pl data) A' w (w1.setCell ⟨s,11+i,none⟩ (.pointer (some ⟨w.heap.size,0,none⟩)))/\A'.bX=A.bX):=fun w1 hb sx=>I2 h hi eY hb (a':=none) (n:=0) (L:=[]) sx oM (il rfl) (fun _=>rfl) (fun _ _ e=>by cases e) (fun e=>oM)
 clear h he eY sy kd;generalize p.hand.length=hn at *
 rcases hk with rfl|rfl
 ·obtain rfl:=em dM;clear em sz p4;go_enter func50,ntmps50;go_wp2
  go_loopw[12] (fun x wr=>x=i6 0/\wr=w.alloc (.cells (qB (CO p i 1 pl ⟨#[]⟩) none 0 0).toArray 160)) (fun _ _=>0)
  case atStart=>exact⟨rfl,rfl⟩
  case round =>
   obtain⟨rfl,rfl⟩:=hrel;obtain⟨A',hs,hc⟩:=mJ.out _ (aB w _) (ac8 w _);rw[World.setCell_alloc_past _ _ _ _ hl] at hs;have HS:=aa hs;have HC:=aa hc;clear hs hc mJ
   by_cases hz:(0:Int)<(hn:Int)
   ·go_wp2_with fail;refine cM (HE.out _ A' HS.out HC.out) ?_;intro w5 hok;have ey:=aa hok;clear hok;go_wp2;go_ret;exact⟨rfl,ey.out⟩
   ·go_wp2_with fail;refine cM (HE.out _ A' HS.out HC.out) ?_;intro w5 hok;have ey:=aa hok;clear hok;go_wp2;go_ret;exact⟨rfl,ey.out⟩
 ·clear em;go_enter func50,ntmps50;go_wp2
  go_loopw[12] (fun x wr=>x=i6 0/\wr=w.alloc (.cells (qB (CO p i 2 pl data) none 0 0).toArray 160)) (fun _ _=>0)
  case atStart=>exact⟨rfl,rfl⟩
  case round =>
   obtain⟨rfl,rfl⟩:=hrel;obtain⟨A',hs,hc⟩:=mJ.out _ (aB w _) (ac8 w _);rw[World.setCell_alloc_past _ _ _ _ hl] at hs;have HS:=aa hs;have HC:=aa hc;clear hs hc mJ
   by_cases hz:(0:Int)<(hn:Int)
   ·go_wp2_with fail;refine cM (HE.out _ A' HS.out HC.out) ?_;intro w5 hok;have ey:=aa hok;clear hok;go_wp2;go_ret;exact⟨rfl,ey.out⟩
   ·go_wp2_with fail;refine cM (HE.out _ A' HS.out HC.out) ?_;intro w5 hok;have ey:=aa hok;clear hok;go_wp2;go_ret;exact⟨rfl,ey.out⟩
structure tO(s:Nat)(p:Sk)(A:Rs)(w:World)(i:Nat)(j:Nat)(a':Option Addr)(n:Nat)(wr:World):Prop where
 aW:wr.heap[w.heap.size]?=some (.cells (qB (CO p i 3 0 ⟨#[]⟩) a' (bV (p.hand.take j)).length n).toArray 160 (0,0))
 own:wr.ownsRow (w.heap.size+1) 3 1 (.slice a' (bV (p.hand.take j)).length n) (bV (p.hand.take j)).length (hY (bV (p.hand.take j)))
 bel:bL w wr
def yE(s k:Nat)(hv:Value)(bh oh j:Nat)(x:Int)(lv:Value)(w:World):Prop:=w.cell? ⟨s,2,none⟩=some hv/\w.cell? ⟨bh,oh+j*4,none⟩=some (i6 x)/\w.cell? ⟨k,3,none⟩=some lv/\w.frozen? ⟨k,3,none⟩=false/\k<w.heap.size
theorem yE.later{s k:Nat}{hv:Value}{bh oh j:Nat}{x:Int}{lv:Value}{w w':World}(h:yE s k hv bh oh j x lv w)(hb:bL w w'):yE s k hv bh oh j x lv w':=by
 obtain⟨h0,h1,h2,h3,h4⟩:=h;exact⟨af hb h0,af hb h1,af hb h2,(hb.frozen (p:=⟨k,3,none⟩) h4).trans h3,acD h4 hb.size⟩
theorem yE.base{s k:Nat}{hv:Value}{bh oh j:Nat}{x:Int}{lv:Value}{w w':World}{B:Nat}(h:yE s k hv bh oh j x lv w)(hb:Below B w w')(h1:s<B)(h2:bh<B)(h3:k<B):yE s k hv bh oh j x lv w':=by
 obtain⟨e0,e1,e2,e3,e4⟩:=h;exact⟨(hb.cell (p:=⟨s,2,none⟩) h1).trans e0,(hb.cell (p:=⟨bh,oh+j*4,none⟩) h2).trans e1,(hb.cell (p:=⟨k,3,none⟩) h3).trans e2,(hb.frozen (p:=⟨k,3,none⟩) h3).trans e3,acD e4 hb.size⟩
theorem tO.ints{s:Nat}{p:Sk}{A:Rs}{w:World}{i j:Nat}{a':Option Addr}{n:Nat}{wr:World}(h:tO s p A w i j a' n wr):dZ wr a' (bV (p.hand.take j))/\(a'=none->n=0)/\(∀b o,a'=some ⟨b,o,none⟩->w.heap.size+1<=b):=by
 obtain⟨a,c,e,h1,h2,h3⟩:=kr (xs:=bV (p.hand.take j)) h.own rfl;injection e with e1 e2 e3;subst e1 e3;exact⟨h1,h2,h3⟩
theorem tO.same{s:Nat}{p:Sk}{A:Rs}{w:World}{i j:Nat}{a':Option Addr}{n:Nat}{wr:World}(h:tO s p A w i j a' n wr)(e:bV (p.hand.take (j+1))=bV (p.hand.take j)):tO s p A w i (j+1) a' n wr:=⟨by rw[e];exact h.aW,by rw[e];exact h.own,h.bel⟩
theorem tO.more{s:Nat}{p:Sk}{A:Rs}{w:World}{i j:Nat}{a' a2:Option Addr}{n c2:Nat}{wr w4 w5:World}{x:Int}(h:tO s p A w i j a' n wr)(e:bV (p.hand.take (j+1))=bV (p.hand.take j)++[x])(gj:bL wr w4)(fT:Below (w.heap.size+1) w4 w5)(bp:w5.ownsRow (w.heap.size+1) 3 1 (.slice a2 ((bV (p.hand.take j)).length+1) c2) ((bV (p.hand.take j)).length+1) (hY (bV (p.hand.take j))++[i6 x])):tO s p A w i (j+1) a2 c2 (w5.setCell ⟨w.heap.size,3,none⟩ (.slice a2 ((bV (p.hand.take j)).length+1) c2)):=by
 have l0:=aH h.aW;have sx:w5.heap[w.heap.size]?=some (.cells (qB (CO p i 3 0 ⟨#[]⟩) a' (bV (p.hand.take j)).length n).toArray 160 (0,0)):=by
  rw[fT.block _ oM,gj.block _ l0];exact h.aW
 have el:(bV (p.hand.take (j+1))).length=(bV (p.hand.take j)).length+1:=by rw[e];simp
 refine⟨?_,?_,?_⟩
 ·rw[bM sx,el]
  rfl
 ·rw[el,e];have:=ac6 bp (a:=⟨w.heap.size,3,none⟩) (by show w.heap.size<w.heap.size+1;omega) (.slice a2 ((bV (p.hand.take j)).length+1) c2)
  simpa [hY] using this
 ·have hw4:bL w w4:=ab h.bel gj;have hw5:bL w w5:=hw4.trans (fT.mono oM);exact ai hw5 (ab5 _) _
theorem Sw(s:Nat)(p:Sk)(A:Rs)(w:World)(h:bK s p A w)(hI:aZ p)(i:Nat)(hi:i<3)(eY:A.ka i=none)(q:Sk)(he:Ix s p A w i 3 0 ⟨#[]⟩ q) :
 Calls prog 50 #[.pointer (some ⟨s,0,none⟩),i6 i,i6 3,i6 0,.string ⟨#[]⟩] w fun e w'=>e=.returned (i6 0)/\ed 0 s p A w w' q:=by
 have eQ:=(h.eQ hi).1;have f11:=(h.eQ hi).2;have hl:=h.lt;unfold ru at eQ;rw[eY] at eQ;simp only[aek] at eQ;have c2:=h.cell 2 _ rfl;have HE:=aa he;have HM:=aa h.mem.hand;have h8:=hI.hand.len;have d0:(0:Int)<=(i:Int):=oM;have d3:(i:Int)<3:=oM;have d1:¬(i:Int)<0:=oM;have d2:¬2<(i:Int):=oM;obtain⟨iI,Rc,dB,cP,cS⟩:=fi RN;have Dv:=aa (⟨Rc,dB,cP,cS⟩:prog.info? 3=some iI/\_/\_/\_);have mJ:Hid (∀w1 a' n,tO s p A w i p.hand.length a' n w1->∃A',bI s p A (p.asks i 3 0 ⟨#[]⟩) A' w (w1.setCell ⟨s,11+i,none⟩ (.pointer (some ⟨w.heap.size,0,none⟩)))/\A'.bX=A.bX):=fun w1 a' n hG=>by
  have e:p.hand.take p.hand.length=p.hand:=adG;obtain⟨g1,g2,g3⟩:=hG.ints;have hb:=hG.aW;rw[e] at g1 hb;exact I2 h hi eY hG.bel hb oM g1 g2 g3 (fun _=>by unfold TH;rw[aca rfl])
 clear h he eY Rc dB cP cS hI;go_enter func50,ntmps50;go_wp2
 go_loopw[12] (fun x wr=>∃(j:Nat) (a':Option Addr) (n:Nat),j<=p.hand.length/\x=i6 j/\tO s p A w i j a' n wr) (fun x _=>p.hand.length-(intOf x).toNat)
 case atStart=>exact⟨0,none,0,oM,rfl,ac8 w _,acx _ _ _ _,aB w _⟩
 case round =>
  obtain⟨j,a',n,hj,rfl,hG⟩:=hrel;have HG:=aa hG;have B8:=af hG.bel c2;have lk:=aH hG.aW;have ls:=al B8
  by_cases aq:j<p.hand.length
  ·have fM:(j:Int)<(p.hand.length:Int):=oM;have h0:p.hand ≠ []:=fun e=>by rw[e] at aq;exact absurd aq (acg _)
   obtain⟨bh,oh,hbh⟩:=HM.out.form.resolve_left h0;have vG:=HM.out;rw[hbh] at vG B8;have qU:=al (vG.cells aq).1;obtain⟨e0,e1,e2,e3⟩:=(vG.later hG.bel).cells aq;have ht:=GQ aq;have hL:=Kf p.hand j;have HT:=aa ht;clear h0 vG hG ht
   cases hd:p.hand[j].bO
   ·rw[hd] at e2 HT;have HN:Hid (tO s p A w i (j+1) a' n wr):=HG.out.same (by rw[HT.out];simp);clear hd;go_wp2;go_roundw
    case rel=>exact⟨j+1,a',n,oM,gN,HN.out⟩
    case measure=>simp[intOf];omega
   ·rw[hd] at e2 HT;have HTE:Hid (bV (p.hand.take (j+1))=bV (p.hand.take j)++[p.hand[j].pl]):=by show _=_;rw[HT.out];simp
    obtain⟨x,hx⟩:∃x,p.hand[j].pl=x:=⟨_,rfl⟩
    rw[hx] at e0 HTE;clear hd HT hx;have sx:=HG.out.aW;have k3:wr.cell? ⟨w.heap.size,3,none⟩=some (.slice a' (bV (p.hand.take j)).length n):=by rw[aP sx];rfl
    have Nl:wr.frozen? ⟨w.heap.size,3,none⟩=false:=cQ sx 3;have P0:=aa HG.out.own;clear sx;obtain⟨n0,fh⟩:∃n0,(bV (p.hand.take j)).length=n0:=⟨_,rfl⟩
    have gq:=aa fh;rw[fh] at k3 hL P0;clear fh;go_upto_region 12 with fail;have HS:Hid (yE s w.heap.size (.slice (some ⟨bh,oh,none⟩) p.hand.length A.hc) bh oh j x (.slice a' n0 n) wr.drew):=⟨B8,e0,k3,Nl,lk⟩
    have HSW:Hid (yE s w.heap.size (.slice (some ⟨bh,oh,none⟩) p.hand.length A.hc) bh oh j x (.slice a' n0 n) wr):=⟨B8,e0,k3,Nl,lk⟩
    refine eK (S:=yE s w.heap.size (.slice (some ⟨bh,oh,none⟩) p.hand.length A.hc) bh oh j x (.slice a' n0 n)) (d:=17) kR ?_;refine tK 0 rfl HS.out ?_;(try simp only[Act.put,dP]);refine tK 1 rfl HS.out ?_;(try simp only[Act.put,dP]);refine tK 2 rfl HS.out ?_;(try simp only[Act.put,dP]);refine tK 3 rfl HS.out ?_;(try simp only[Act.put,dP]);refine tK 4 rfl HS.out ?_;(try simp only[Act.put,dP]);refine tK 5 rfl HS.out ?_;(try simp only[Act.put,dP]);refine tK 6 rfl HS.out ?_;(try simp only[Act.put,dP]);refine tK 7 rfl HS.out ?_;(try simp only[Act.put,dP]);refine tK 8 rfl HS.out ?_;(try simp only[Act.put,dP]);refine tK 9 rfl HS.out ?_;(try simp only[Act.put,dP]);refine tK 10 rfl HS.out ?_;(try simp only[Act.put,dP]);refine tK 11 rfl HS.out ?_;(try simp only[Act.put,dP]);refine tK 12 rfl HS.out ?_;(try simp only[Act.put,dP]);refine bn (i:=13) rfl kR ?_;intro K hK;go_simp;refine hK _ _ (fun _=>HS.out.later (aB _ _)) ?_
    (try simp only[Act.put,dP])
    clear hK;refine bn (i:=14) rfl kR ?_;intro K hK;refine eL rfl (.tmp 91) (.tmp 100) 122 rfl (w.heap.size+1) 3 iI (i6 0) 1 8 underlying122 Dv.out.1 Dv.out.2.1 Dv.out.2.2.1 Dv.out.2.2.2 rfl dM (.slice a' n0 n) n0 (hY (bV (p.hand.take j))) rfl (mi P0.out bQ) (some ⟨wr.heap.size,0,none⟩) 1 1 [i6 x] rfl (Vk sM) (by unfold maxLen;omega) oM (by simp;omega) ?_;intro v2 w5 aT aA;obtain⟨a2,uT,rfl,-⟩:=iK aT;have rj:Hid (∃w4,bL wr w4/\Below (w.heap.size+1) w4 w5):=⟨_,bQ,aA⟩
    have eP:=aa ((HSW.out.later bQ).base aA oM oM oM);obtain⟨s0,s1,s2,s3,s4⟩:=eP.out;have HNX:Hid (tO s p A w i (j+1) a2 uT (w5.setCell ⟨w.heap.size,3,none⟩ (.slice a2 (n0+1) uT))):=by
     obtain⟨w4,b4,b5⟩:=rj.out;have:=HG.out.more HTE.out b4 b5 (a2:=a2) (c2:=uT) (by rw[gq.out];exact aT);rw[gq.out] at this;exact this
    refine hK _ _ (fun _=>eP.out) ?_
    (try simp only[Act.put,dP])
    clear hK;refine bn (i:=15) rfl kR ?_;intro K hK;go_simp;refine hK _ _ (fun _=>eP.out) ?_
    (try simp only[Act.put,dP])
    clear hK;refine bn (i:=16) rfl kR ?_;intro K hK;go_simp;refine hK _ _ (fun _=>eP.out) ?_
    (try simp only[Act.put,dP])
    clear hK;refine bn (i:=17) rfl kR ?_;intro K hK;go_simp;refine hK _ _ (fun h=>absurd rfl h) ?_
    (try simp only[Act.put,dP])
    clear hK;refine fp kR ?_ _;clear s0 s1 s2 s3 s4 aT aA rj HS eP HSW B8 e0 k3 Nl P0;go_wp2;go_roundw
    case rel=>exact⟨j+1,a2,uT,oM,gN,HNX.out⟩
    case measure=>simp[intOf];omega
  ·obtain rfl:j=p.hand.length:=oM;obtain⟨A',hs,hc⟩:=mJ.out _ _ _ hG;have HS:=aa hs;have HC:=aa hc;have r11:=af hG.bel eQ;have rf11:=(hG.bel.frozen (p:=⟨s,11+i,none⟩) hl).trans f11;clear hs hc mJ hG eQ f11;generalize p.hand.length=hn at *;go_wp2_with fail;refine cM (HE.out _ A' HS.out HC.out) ?_;intro w5 hok;have ey:=aa hok;clear hok;go_wp2;go_ret;exact⟨rfl,ey.out⟩
theorem C9(s:Nat)(p:Sk)(A:Rs)(w:World)(h:bK s p A w)(hI:aZ p)(hL:aL p)(hT:p.tags<=3999999999999999990)(hU:p.ax<=3999999999999999990)(c kind pl:Int)(data:ByteArray)(n:Int)(q:Sk)(hq:p.nf.ask c kind pl data=(n,q)) :
 Calls prog 50 #[.pointer (some ⟨s,0,none⟩),i6 c,i6 kind,i6 pl,.string data] w fun e w'=>e=.returned (i6 n)/\ed 0 s p A w w' q:=by
 unfold Sk.ask at hq
 by_cases h0:dx c kind pl data=0
 ·rw[ab6 (by simpa using h0)] at hq;obtain⟨hz,ho⟩:=TI h0;obtain⟨i,rfl⟩:∃i:Nat,c=i:=⟨c.toNat,oM⟩
  have hi:i<3:=oM
  cases hw:p.waits i
  ·rw[ab6 (by rw[show p.nf.waits (i:Int)=p.waits i from rfl,hw];exact acn)] at hq;simp only[ada] at hq;obtain⟨rfl,hq⟩:=hq;rw[acE] at hq;have v8:=(vC p i hi).1 hw;have eY:A.ka i=none:=by
    cases e:A.ka i with
    |none=>rfl
    |some k=>exact absurd v8 (h.mem.asks i hi k e).kind
   have he:=Qf (s:=s) (A:=A) (w:=w) (i:=i) hI hL hT hU ho q hq
   rcases ho.kd with e|e|e
   ·exact Nx s p A w h i hi kind pl data ho (il e) eY q he
   ·exact Nx s p A w h i hi kind pl data ho (ir e) eY q he
   ·subst e;obtain rfl:=ho.sy rfl;obtain rfl:=ho.em dM;exact Sw s p A w h hI i hi eY q he
  ·rw[aca (show p.nf.waits (i:Int)=true from hw)] at hq;simp only[ada] at hq;obtain⟨rfl,rfl⟩:=hq;refine cM (Sv s p A w h i hi kind pl data ho ((wZ p i hi).1 hw)) ?_;intro w' rfl;exact⟨rfl,p,A,bI.cW h (aQ _ _),rfl,ab5 _⟩
 ·rw[aca h0] at hq;simp only[ada] at hq;obtain⟨rfl,rfl⟩:=hq;exact XU s p A w h c kind pl data h0
end
section
open Go.RowKit
def cd(p:Sk):Prop:=∀c∈p.cl,vE c
theorem Fl(s:ByteArray):vE ⟨0,0,bE,[],s,0⟩:=il rfl
theorem M5(e:Int)(h:0<e):vE ⟨0,0,bE,[],bE,e⟩:=ir ⟨h,rfl⟩
section
variable{p:Sk}
theorem cd.aj(h:cd p)(i:Nat):vE (p.aj i):=by
 unfold Sk.aj;rw[acr]
 cases e:p.cl[i]? with
 |none=>exact il rfl
 |some c=>exact h c (acX e)
theorem cd.set{q:Sk}(h:cd p)(i:Nat)(x:Cl)(hx:vE x)(hq:q.cl=p.cl.set i x):cd q:=fun c hc=>by
 rw[hq] at hc;exact(acW hc).elim (h c) (fun e=>e▸hx)
theorem cd.same{q:Sk}(h:cd p)(hq:q.cl=p.cl):cd q:=fun c hc=>h c (hq▸hc)
theorem cd.gF(h:cd p)(pl:Int)(wr:Bool)(data:List ByteArray):cd (p.gF pl wr data).2:=h.same (Bs p pl wr data)
theorem cd.aV(h:cd p)(i:Nat):cd (p.aV i):=by
 unfold Sk.aV
 split
 ·unfold Sk.fX
  split
  ·exact h.set i _ (Fl _) rfl
  ·split
   ·exact h
   ·exact h.gF _ _ _
 split
 ·unfold Sk.dJ
  split
  ·exact h.set i _ (M5 9 oM) rfl
  split
  ·exact h
  split
  ·exact h.set i _ (Fl _) rfl
  ·exact h.same rfl
 split
 ·unfold Sk.eS
  split
  ·exact h.set i _ (M5 9 oM) rfl
  split
  ·exact h.set i _ (Fl _) rfl
  ·exact h.set i { p.aj i with left:=(p.aj i).left.filter (bZ p.hand) } (h.aj i) rfl
 ·exact h
theorem cd.serve(h:cd p):cd p.serve:=((h.aV 0).aV 1).aV 2
theorem cd.ask(h:cd p)(c kind pl:Int)(data:ByteArray):cd (p.ask c kind pl data).2:=by
 unfold Sk.ask
 split
 ·exact h
 split
 ·exact h
 ·exact cd.serve (h.set (q:=p.asks c.toNat kind pl data) c.toNat { p.aj c.toNat with kind:=kind,pl:=pl,data:=data,left:=if kind=3 then bV p.hand else(p.aj c.toNat).left } (h.aj c.toNat) rfl)
theorem cd.tick(h:cd p):cd p.tick:=cd.serve (h.same rfl)
theorem cd.clean(h:cd p):cd p.clean.2:=by
 unfold Sk.clean
 split
 ·exact h
 split
 ·exact h
 ·exact h.gF _ _ _
theorem cd.bf(h:cd p):cd p.bf.2:=by
 unfold Sk.bf
 split
 ·exact h
 ·exact h.same rfl
theorem cd.bS(n:Nat):∀{p:Sk},cd p->cd (p.bS n):=by
 induction n with
 |zero=>exact fun h=>h
 |succ n ih =>
  intro p h;unfold Sk.bS
  split
  ·exact ih h.bf
  ·exact h
theorem cd.cH(h:cd p)(F:Int->Bool)(s:ByteArray)(e:Int)(he:e=0\/(0<e/\s=bE)):cd (p.cH F s e):=fun c hc=>by
 obtain⟨x,hx,rfl⟩:=adn.1 hc
 split
 ·exact he
 ·exact h x hx
theorem cd.dQ(h:cd p)(pl:Int)(s:ByteArray):cd (p.dQ pl s):=by
 unfold Sk.dQ
 split
 ·exact h
 split
 ·exact cd.cH (p:={ p with hand:=_,ax:=p.ax+1 }) (h.same rfl) _ _ _ (il rfl)
 ·exact h.cH _ _ _ (il rfl)
theorem cd.eo(h:cd p)(r:Rq)(xs:List ByteArray)(j:Nat):cd (p.eo r xs j):=by
 unfold Sk.eo
 split
 ·exact h.same rfl
 ·exact h.dQ _ _
theorem cd.cR(h:cd p)(r:Rq)(xs:List ByteArray):∀n,cd (p.cR r xs n)
 |0=>h
 |n+1=>by rw[iL];exact(h.cR r xs n).eo r xs n
theorem cd.cA(h:cd p)(i:Int)(fault:Bool):cd (p.cA i fault).2:=by
 unfold Sk.cA
 split
 ·exact h
 split
 ·exact h
 split
 ·exact cd.serve (cd.cR (p:=(p.bD i.toNat).cq _) (h.same rfl) _ _ _)
 split
 ·exact h.same rfl
 split
 ·exact cd.serve (h.same rfl)
 ·exact cd.serve (cd.cH (h.same rfl) _ _ _ (ir ⟨oM,rfl⟩))
theorem cd.round(h:cd p):cd p.round:=(h.tick.clean.bS 3).cA 0 false
theorem cd.settle(n:Nat):∀{p:Sk},cd p->cd (p.settle n).2:=by
 induction n with
 |zero=>exact fun h=>h
 |succ n ih =>
  intro p h;unfold Sk.settle
  split
  ·exact h
  ·exact ih h.round
theorem NC:cd lL:=fun c hc=>by
 rcases ac3.1 hc with rfl|hc
 ·exact il rfl
 rcases ac3.1 hc with rfl|hc
 ·exact il rfl
 rcases ac3.1 hc with rfl|hc
 ·exact il rfl
 ·cases hc
end
end
section
open Go.RowKit Go.BigFrame Go.Maps
theorem Vo{x y:Rq}(h:x.nf=y.nf):EN x y=true:=by
 have h1:x.wr=y.wr:=(Rq.mk.inj h).1;have h2:x.f=y.f:=(Rq.mk.inj h).2.1;have h3:x.m=y.m:=(Rq.mk.inj h).2.2.1;have h4:x.data=y.data:=(Rq.mk.inj h).2.2.2.2.2.1;have h5:x.tags=y.tags:=(Rq.mk.inj h).2.2.2.2.2.2.2.2.1;have h6:x.born=y.born:=(Rq.mk.inj h).2.2.2.2.2.2.2.2.2
 simp[EN,M3,M1,h1,h2,h3,h4,h5,h6]
theorem KE{l m:List Rq}(h:l.map Rq.nf=m.map Rq.nf):Io l m:=by
 have hlen:l.length=m.length:=by have:=adI List.length h;simpa using this
 refine⟨hlen,fun i hi pK=>Vo ?_⟩;have:=adI (fun x=>x[i]?) h;simp only[adq,acb hi,acb pK,adE,ace] at this;exact this
end
end Go.Proofs.YtlhgjplipgandaaGreatDoor
