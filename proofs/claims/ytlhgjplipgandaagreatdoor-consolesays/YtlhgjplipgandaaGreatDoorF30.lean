/- Joined. -/
import Derived.Test.YtlhgjplipgandaaGreatDoorF29
set_option maxRecDepth 100000
set_option maxHeartbeats 8000000
set_option linter.unusedSimpArgs false
set_option linter.unusedSectionVars false
namespace Go.Proofs.YtlhgjplipgandaaGreatDoor
open Tryz
open Go.RowKit Go.BigFrame Go.Maps
theorem Us{p:Sk}(hI:bg p)(hT:cq p){x:Bf}(hp:jw p.hand x p.held=none):False:=by
 obtain⟨_,h8,hy⟩:=Uo hI.hand hp;have hd:∀y∈p.hand,y.bM=true:=fun y hy'=>by
  cases e:y.bM
  ·have hh:=hy y hy' e;have bV:=(hI.hand.sY y hy').2.1
   cases e2:p.all.any fun r=>dO r.f r.m y.pl
   ·have:p.held y.pl=false:=e2;rw[this] at hh;cases hh
   ·obtain⟨r,hr,hx⟩:=afo.1 e2;have yj:=(K5 (hI.bO r hr) y.pl oM).1 hx;have:=(hT r hr y.pl yj).1 y (rJ hI.hand.mr hy');rw[e] at this;cases this
  ·rfl
 have:bW p.hand=8:=by
  unfold bW;rw[afN.2 hd,h8]
 have:=hI.d6
 omega
theorem Oe{p:Sk}(h:cq p.nf):cq p:=fun r hr a ho=>h r.nf (by
 show r.nf∈p.nf.queue++p.nf.dev.busy;rw[xu];exact List.mem_map_of_mem hr) a ho
theorem Rt{p:Sk}(hI:bg p)(hT:cq p.nf)(hS:dE p.dev){k:Nat}{r:Rq}(hk:p.dev.busy[k]?=some r)(j:Nat)(hj:j<=r.m.toNat):cq (((p.bD k).cr r).nf.cT r (cW p.dev r) j):=by
 have au:=(acp.1 hk).1;have hb:=zk hk;rw[abG] at hb;obtain⟨eH,e⟩:=acp.1 hb;have gr:=hI.bO r (aa8 _ (acg hk));have h1:cq ((p.nf.bD k).cr r.nf):=hT.congr rfl (fun r' hr=>by rw[CO] at hr;exact AP k r' hr);have hf:CF ((p.nf.bD k).cr r.nf) r.nf:=by
  have:=Gw hI.nf eH;rw[e] at this;unfold CF at this ⊢;rw[CO];exact this
 have:=cq.cT ((hI.nf.bD k).cr r.nf) h1 r.nf ((GU r).2 gr) hf (cW p.dev r) (jb hS r) j hj;rw[Vq,zU,Mv] at this;exact this
theorem ML{p:Sk}{pl:Int}{s:ByteArray}{b:Bf}(h:fa p.hand pl=some b):p.dJ pl s=p:=by
 unfold Sk.dJ;rw[h]
theorem Om{p:Sk}{pl:Int}{s:ByteArray}{l:List Bf}(h:fa p.hand pl=none)(hp:jw p.hand ⟨pl,s,false,p.az+1⟩ p.held=some l):p.nf.dJ pl s=({ p with hand:=l,az:=p.az+1 }:Sk).nf.cO (fun x=>x==pl) s 0:=by
 have e4:p.nf.held=p.held:=funext (ub p);unfold Sk.dJ;rw[e4];rw[show p.nf.hand=p.hand from rfl,h];simp only;rw[show p.nf.az=p.az from rfl,hp]
 rfl
theorem UR(s:Nat)(p:Sk)(A:Rs)(w:World)(h:bN s p A w)(hI:bg p)(hL:aQ p)(hTi:cq p.nf)(hS:dE p.dev)(hT:p.tags<=3999999999999999980)(hU:p.az<=3999999999999999980)(hA:A.bX<=240000)(k:Nat)(r:Rq)(hk:p.dev.busy[k]?=some r)(hw:r.wr=false)(q:Sk)(hq:(((p.bD k).cr r).nf.oB r (cW p.dev r)).serve=q) :
 Calls prog 56 #[.pointer (some ⟨s,0,none⟩),i6 k,.bool false] w fun e w'=>e=.returned (i6 0)/\ed 1 s p A w w' q:=by
 have c1:=h.cell 1 _ rfl;have hl:=h.lt;have aL:=ae h;have mq:r∈p.dev.busy:=acg hk;have HG:=ae (hI.bO r (aa8 _ mq));have HV:=ae (h.Gh hI oM hk);have pD:=ae ((hI.bD k).cr r);have Bq:Hid (aQ ((p.bD k).cr r)):=hL;have HQ:=ae hq;have HB:=ae (And.intro hT hU);have qR:=ae (jb hS r);have iJ:=ae (h.KC mq);have fD:=ae (h.mem.eY r (aa8 _ mq));have HN:Hid (A.n<=1000000000):=(by have:=h.mem.nb;show _<=_;omega);have RT:Hid (A.m.waits.length<=1000000):=(by have:=h.mem.wb;show _<=_;omega)
 have HTW:Hid (∀j,j<=r.m.toNat->cq (((p.bD k).cr r).nf.cT r (cW p.dev r) j)):=fun j hj=>Rt hI hTi hS hk j hj
 clear h hI hT hU hk hq mq hS hL hA hTi;go_enter func56,ntmps56;go_wp2_with fail;refine(Zh A.v A.b A.bm A.m A.ra A.n A.D k r _ w aL.out.mem.cE HV.out HG.out RT.out HN.out).mono ?_;rintro e w1 ⟨a',xa,xc,xs,rfl,kc,yn,kD,hv⟩;have zg:Hid (xs=cW p.dev r):=(kc.out.trans (AZ aL.out.mem.tied r).symm);have AW:=ae yn;have nQ:=ae kD;have uE:=ae (Mg (s:=s) (c':=A.bX+1) hv);have xN:Hid (r.At w1):=iJ.out.frame ⟨fun he ad ha e=>fD.out.1 he ad ha (il (ir (il e))),fun he ad ha e=>fD.out.2 he ad ha (il (ir (il e)))⟩ hv.only;have cf:=ae (aL.out.Vp HG.out hv (by have:=aL.out.mem.nb;omega) (aL.out.mem.map.put aL.out.mem.im (r.tags.getD 0 0) 0));have RI:Hid (∀j,({ A with m:=(({ A.m with busy:=A.m.busy.eraseIdx k }:Rd).cr r),ra:=a',n:=A.n+1,D:=A.D.put (.int .i64 (r.tags.getD 0 0)) (.lit (.int .i64 0)),bX:=A.bX+1 }:Rs).ay s j->j<w1.heap.size):=fun j hj=>cf.out.at'.bC j hj
 have OO:Hid (∀ad,xa=some ad->¬({ A with m:=(({ A.m with busy:=A.m.busy.eraseIdx k }:Rd).cr r),ra:=a',n:=A.n+1,D:=A.D.put (.int .i64 (r.tags.getD 0 0)) (.lit (.int .i64 0)),bX:=A.bX+1 }:Rs).ay s ad.block):=by
  rintro ad qx (e|e|⟨i,hi,e⟩)
  ·have:=(nQ.out ad qx).1;have:=aL.out.lt;omega
  ·exact(nQ.out ad qx).2 e
  ·have:=(nQ.out ad qx).1;have:=aL.out.mem.CK hi e;omega
 have HXL:Hid (xs.length=r.m.toNat):=by show _=_;rw[zg.out];unfold cW;rw[hw];exact vj _ _ _
 clear kc yn kD hv;generalize lF:xs.length=xm at *;have HXM:=ae lF;clear lF;obtain⟨A1,KV⟩:∃A1:Rs,A1={ A with m:=(({ A.m with busy:=A.m.busy.eraseIdx k }:Rd).cr r),ra:=a',n:=A.n+1,D:=A.D.put (.int .i64 (r.tags.getD 0 0)) (.lit (.int .i64 0)),bX:=A.bX+1 }:=⟨_,rfl⟩
 have Ow:Hid (A1.bX<=A.bX+1):=by show A1.bX<=_;rw[KV];exact aaO _
 rw[<-KV] at cf RI OO;clear KV uE aL HV iJ fD HN RT xN nQ;have RW:=ae (bH.cX cf.out.at' (aX _ _));go_upto_region 2 with(refine cc rfl (.tmp 7) (.tmp 28) rfl w1.heap.size r xa xm xc 0 rfl rfl (cw (eN w1 151)) (fun wK=>bH s _ A1 _ A1 w1 wK/\dI wK w1.heap.size r xa xm xc 0) (G0 RW.out r xa xm xc 0) ?_;rintro wK ⟨lE,nX⟩;have lL:=ae lE;have qQ:=ae nX;obtain⟨⟨y0,y1,y2,y3,y4,y5,y6,y7⟩,-,yl⟩:=nX;have FW:=lE.at'.lt;clear lE RW)
 have EK:Hid (sw s ((p.bD k).cr r) A1 w1 w1.heap.size r xa xm xc 0 ((p.bD k).cr r).nf wK ((p.bD k).cr r) A1):=⟨lL.out,rfl,aaO _,qQ.out.1,aaO _,fun e=>by have:=RI.out _ e;omega⟩
 clear lL qQ;obtain⟨M,hM⟩:∃M:Nat,r.m=M:=⟨r.m.toNat,by have:=HG.out.uG;omega⟩
 have HM:=ae hM;rw[hM] at y2;have fk:=HG.out.uG;rw[hM] at fk;have abt:Hid (xm=M):=by have:=HXL.out;show xm=M;omega
 rw[hw] at y0;have xL:Hid (w1.heap.size=w1.heap.size):=rfl;clear xL;generalize w1.heap.size=g at *;go_upto_region 15 with fail
 go_loopw[12] (fun x wr=>∃(j:Nat) (p2:Sk) (A2:Rs),j<=M/\x=i6 j/\sw s ((p.bD k).cr r) A1 w1 g r xa xm xc 0 (((p.bD k).cr r).nf.cT r (cW p.dev r) j) wr p2 A2) (fun x _=>M-(intOf x).toNat)
 case atStart=>exact⟨0,_,A1,oM,rfl,EK.out⟩
 case round =>
  clear y0 y1 y2 y3 y4 y5 y6 y7 yl FW;obtain⟨j,p2,A2,hj,rfl,hr⟩:=hrel;have HR:=ae hr;obtain⟨b0,b1,b2,-,-,-,b6,-⟩:=id hr.box;rw[hw] at b0;rw[hM] at b2;have lg:=aq b0;have l2:=hr.st.at'.lt;have sK:=oZ ((p.bD k).cr r).nf r (cW p.dev r) j;rw[<-hr.nf] at sK;have SY:p2.az<=p.az+j:=sK.az;have qV:p2.tags<=p.tags+j:=sK.tags;have bT:Hid (p2.tags<=3999999999999999990/\p2.az<=3999999999999999990):=by
   have:=HB.out;exact⟨oM,oM⟩
  have mX:Hid (bg p2):=by
   have h1:=pD.out.nf.cT r HG.out (cW p.dev r) qR.out j (by have:=HM.out;omega);rw[<-hr.nf] at h1;exact h1.cD
  clear sK SY qV
  by_cases au:j<M
  ·have gC:(j:Int)<(M:Int):=oM;have uQ:(0:Int)<=(j:Int):=oM;have sW:IntKind.i64.wrap (r.f+(j:Int))=r.f+(j:Int):=by rw[abr];omega
   have hwu:IntKind.i64.wrap (p2.az+1)=p2.az+1:=by have:=mX.out.us;have:=bT.out.2;rw[abr];omega
   have oC:Hid (0<=r.f+(j:Int)/\r.f+(j:Int)<=31):=⟨oM,oM⟩
   have cZ:=gV AW.out hr.st.only (fun _ ad e=>OO.out ad e);have r9:j<xs.length:=by rw[HXM.out,abt.out];exact au
   have acD:(j:Int)<(xm:Int):=by have:=abt.out;omega
   obtain⟨db,nS,DH⟩:∃b o,xa=some ⟨b,o,none⟩:=by
    rcases cZ.form with e|h'
    ·rw[e] at r9;exact absurd r9 (aa0 _)
    ·exact h'
   rw[DH] at cZ b6;have e0:=cZ.at r9;obtain⟨dt,r7⟩:∃dt,xs[j]=dt:=⟨_,rfl⟩
   rw[r7] at e0;have Yd:Hid ((cW p.dev r).getD j bE=dt):=by
    show _=_;rw[<-zg.out,abd,aaX r9,acO];exact r7
   have HD4:Hid (dt.size<=4):=by have:=qR.out j;rw[Yd.out] at this;exact this
   have EV:Hid (((p.bD k).cr r).nf.cT r (cW p.dev r) (j+1)=p2.nf.dJ (r.f+(j:Int)) dt):=by
    show _=_;rw[iZ,<-hr.nf];unfold Sk.en;rw[aaP (by rw[hw];exact aa7),Yd.out]
   have Km:Hid (cq p2):=by
    have h1:=HTW.out j (by have:=HM.out;omega);rw[<-hr.nf] at h1;exact Oe h1
   have lC:Hid (xa=some ⟨db,nS,none⟩):=DH;have Yu:Hid (∀h:j<xs.length,xs[j]=dt):=fun _=>r7
   have Yf:=ae r9;clear cZ r7 DH r9;have c2:=hr.st.at'.cell 2 _ rfl;have tR:=ae hr.st.at';have H8:=ae mX.out.hand.len;clear hr
   rcases gq p2.hand (r.f+(j:Int)) with⟨hg,gA⟩|⟨jj,hjj,hg,gA,hjp⟩
   ·as_aux_lemma =>
    have HGN:=ae hg;have sr:=ae gA;clear hg gA;go_wp2_with fail;refine cM (vX p2.hand A2.ha A2.hc (r.f+(j:Int)) _ tR.out.mem.hand sr.out) ?_;intro w4 Ef;have yK:=ae (bH.cX tR.out Ef);have c9:=yK.out.at'.cell 9 _ rfl;have f9:=yK.out.at'.fz 9;have l4:=yK.out.at'.lt;have e04:=ai Ef e0;have b64:=ai Ef b6;clear Ef c2 b0 b1 b2 b6 e0 lg l2;go_upto_region 23 with fail;refine ei (fun wv=>bH s p2 A2 { p2 with az:=p2.az+1 } A2 wr wv) (by first|exact(yK.out.later (aA w4 _)).trans ((yK.out.later (aA w4 _)).at'.o6 (p2.az+1))|exact(yK.out.trans (yK.out.at'.o6 (p2.az+1))).later (aA _ _)) ?_;intro wv pT;have zd:=ae pT;have HRV:=ae (HR.out.step pT rfl (aaO _));obtain⟨-,-,-,-,-,-,b6v,-⟩:=id HRV.out.box;have WK:=gV AW.out HRV.out.st.only (fun _ ad e=>OO.out ad e);rw[lC.out] at b6v WK;have e0v:=WK.at Yf.out;rw[Yu.out Yf.out] at e0v;have v2:=pT.at'.cell 2 _ rfl;have v9:=pT.at'.cell 9 _ rfl;have lv:=pT.at'.lt;have Hw:Hid (bg { p2 with az:=p2.az+1 }):=mX.out.fT p2.hand (p2.az+1) mX.out.hand mX.out.d6 (by have:=mX.out.us;omega);clear pT WK c9 f9 l4 e04 b64
    cases rM:jw p2.hand ⟨r.f+(j:Int),dt,false,p2.az+1⟩ p2.held with
    |none=>exact absurd (Us mX.out Km.out rM) id
    |some l =>
     have Bs:=ae rM;have Kn:=ae (EV.out.trans (Om HGN.out rM));clear rM;obtain⟨X,hX⟩:∃X:Sk,X={ p2 with az:=p2.az+1,hand:=l }:=⟨_,rfl⟩
     have RV:=ae hX;clear hX
     go_region_held3 (fun w'=>w'.cell? ⟨s,2,none⟩=some (.slice A2.ha p2.hand.length A2.hc)/\w'.cell? ⟨s,9,none⟩=some (i6 (p2.az+1))/\w'.cell? ⟨g,6,none⟩=some (.slice (some ⟨db,nS,none⟩) xm xc)/\w'.cell? ⟨db,nS+j,none⟩=some (.string dt)) (exact⟨ai (w:=wv) bQ v2,ai (w:=wv) bQ v9,ai (w:=wv) bQ b6v,ai (w:=wv) bQ e0v⟩) (first|(go_at_call 98;refine cM (se s { p2 with az:=p2.az+1 } A2 _ (zd.out.at'.later bQ) Hw.out) ?_;intro wH O3)|(go_at_call 108;refine(Jb { p2 with az:=p2.az+1 } A2.ha A2.hc _ Hw.out (zd.out.at'.mem.hand.later bQ) ⟨r.f+(j:Int),dt,false,p2.az+1⟩ l Bs.out).mono ?_;rintro e wP ⟨a2,wL,rfl,u1,u2,K6⟩))
     all_goals
      have Ov:Hid (bL wv wP):=(by show bL wv wP;exact bQ)
      have wj:=ae (zd.out.later Ov.out);have mE:wv.heap.size<=wH.heap.size:=(show bL wv wH from bQ).size;have abi:Hid (bH s p2 A2 X { A2 with ha:=a2,hc:=wL } wr (wP.setCell ⟨s,2,none⟩ (.slice a2 l.length wL))):=by
       show bH _ _ _ _ _ _ _;rw[RV.out];exact wj.out.trans (wj.out.at'.fT l a2 wL u1 u2.2.1 u2.1 (fun _ q' cI e=>by have h9:=u2.2.2 q' cI;have:=zd.out.at'.ky _ e;(try simp only[World.drew] at h9);omega))
      have HRX:Hid (sw s ((p.bD k).cr r) A1 w1 g r xa xm xc 0 (X.nf.dF (fun y=>y==r.f+(j:Int)) dt 0 0) (wP.setCell ⟨s,2,none⟩ (.slice a2 l.length wL)) X { A2 with ha:=a2,hc:=wL }):=HR.out.step abi.out rfl (aaO _);have x2:=wj.out.at'.cell 2 _ rfl;have z2:=wj.out.at'.fz 2;have lp:=wj.out.at'.lt;have aa3:Hid (bg X):=by
       show bg X;rw[RV.out];have P:=uW mX.out.hand Bs.out;exact mX.out.fT l (p2.az+1) (P.ok ⟨oC.out.1,oC.out.2,HD4.out⟩) (by have h1:=P.bM;simp only[adi,afr] at h1;have:=mX.out.d6;omega) (by have:=mX.out.us;omega)
      have HXW:Hid (((p.bD k).cr r).nf.cT r (cW p.dev r) (j+1)=X.nf.cO (fun y=>y==r.f+(j:Int)) dt 0):=by show _=_;rw[RV.out];exact Kn.out
      clear K6 v2 v9 b6v e0v u1 u2 O3 mE wj Ov abi HRV zd lv Hw yK;go_wp2
      go_loopw[18] (fun x wx=>∃(i:Nat) (p3:Sk) (A3:Rs),i<=3/\x=i6 i/\sw s ((p.bD k).cr r) A1 w1 g r xa xm xc 0 (X.nf.dF (fun y=>y==r.f+(j:Int)) dt 0 i) wx p3 A3) (fun x _=>3-(intOf x).toNat)
      case atStart=>exact⟨0,_,_,oM,rfl,HRX.out⟩
      case round =>
       clear x2 z2 lp HRX;obtain⟨i,p3,A3,hi,rfl,hr⟩:=hrel;have vp:=ae hr;obtain⟨b0,-,-,-,-,-,b6,-⟩:=id hr.box;rw[hw] at b0;have cZ:=gV AW.out hr.st.only (fun _ ad e=>OO.out ad e);rw[lC.out] at b6 cZ;have e0:=cZ.at Yf.out;rw[Yu.out Yf.out] at e0;have lg:=aq b0;have l2:=hr.st.at'.lt;clear cZ
       by_cases DJ:i<3
       ·as_aux_lemma =>
        have iT:(0:Int)<=(i:Int):=oM;have hi3':(i:Int)<3:=oM;have fE:=(hr.st.at'.fE DJ).1;unfold tU at fE;have HE:Hid (p3.nf.ov (fun y=>y==r.f+(j:Int)) dt 0 i=if(p3.ao i).kind=1/\((p3.ao i).pl==r.f+(j:Int))=true then p3.nf.answer i dt 0 else p3.nf):=ae rfl;have EU:Hid (X.nf.dF (fun y=>y==r.f+(j:Int)) dt 0 (i+1)=p3.nf.ov (fun y=>y==r.f+(j:Int)) dt 0 i):=by show _=_;rw[Sk.dF,<-hr.nf]
        cases fC:A3.ka i with
        |none =>
         rw[fC] at fE;simp only[afV] at fE;have Di:=ae (hr.st.at'.mem.idle i DJ fC);have ko:Hid (sw s ((p.bD k).cr r) A1 w1 g r xa xm xc 0 (X.nf.dF (fun y=>y==r.f+(j:Int)) dt 0 (i+1)) wr p3 A3):=⟨hr.st,by rw[EU.out,HE.out,aaP (fun e=>by rw[Di.out] at e;cases e.1)],hr.bX,hr.box,hr.new,hr.off⟩
         clear hr fC;go_wp2;go_roundw
         case rel=>exact⟨i+1,p3,A3,oM,gN,ko.out⟩
         case measure=>simp[intOf];omega
        |some ak =>
         rw[fC] at fE;simp only[afl] at fE;have lo:=hr.st.at'.mem.asks i DJ ak fC;obtain⟨k0,k1,-,-,-,LC⟩:=lo.cells;have fR:0<=(p3.ao i).kind/\(p3.ao i).kind<=3:=by
          have h1:=rE aa3.out.nf (fun y=>y==r.f+(j:Int)) dt 0 i;rw[<-hr.nf] at h1;exact(h1.cD.ao i).kind
         have IP:=lo.kind;obtain⟨kd,gF⟩:∃kd,(p3.ao i).kind=kd:=⟨_,rfl⟩
         obtain⟨pl,bV⟩:∃pl,(p3.ao i).pl=pl:=⟨_,rfl⟩
         rw[gF] at k0 fR IP;rw[bV] at k1;rw[gF,bV] at HE;clear lo fC gF bV;obtain⟨wU,kJ⟩:=fR
         by_cases h1:kd=1
         ·subst h1;clear wU kJ IP
          cases kI:(pl==r.f+(j:Int))
          ·have ko:Hid (sw s ((p.bD k).cr r) A1 w1 g r xa xm xc 0 (X.nf.dF (fun y=>y==r.f+(j:Int)) dt 0 (i+1)) wr p3 A3):=⟨hr.st,by rw[EU.out,HE.out,aaP (fun e=>by rw[kI] at e;cases e.2)],hr.bX,hr.box,hr.new,hr.off⟩
           have aE:¬pl=r.f+(j:Int):=aaU.1 kI;clear hr;go_wp2;go_roundw
           case rel=>exact⟨i+1,p3,A3,oM,gN,ko.out⟩
           case measure=>simp[intOf];omega
          ·have so:=ae kI;have aen:=ae hr.st.at';clear hr;go_wp2_with fail;refine cM (o5 s p3 A3 _ aen.out i DJ dt 0) ?_;intro w7 lD;have ko:Hid (sw s ((p.bD k).cr r) A1 w1 g r xa xm xc 0 (X.nf.dF (fun y=>y==r.f+(j:Int)) dt 0 (i+1)) w7 (p3.answer i dt 0) { A3 with ka:=gP A3.ka i none }):=vp.out.step lD (by rw[EU.out,HE.out,aaV (by first|exact⟨rfl,so.out⟩|exact⟨trivial,so.out⟩)];rfl) (aaO _);clear lD;go_wp2;go_roundw
           case rel=>exact⟨i+1,_,_,oM,gN,ko.out⟩
           case measure=>simp[intOf];omega
         ·have ko:Hid (sw s ((p.bD k).cr r) A1 w1 g r xa xm xc 0 (X.nf.dF (fun y=>y==r.f+(j:Int)) dt 0 (i+1)) wr p3 A3):=⟨hr.st,by rw[EU.out,HE.out,aaP (fun e=>h1 e.1)],hr.bX,hr.box,hr.new,hr.off⟩
          have h4:kd=2\/kd=3:=oM;clear hr h1 wU kJ IP
          rcases h4 with rfl|rfl
          ·go_wp2;go_roundw
           case rel=>exact⟨i+1,p3,A3,oM,gN,ko.out⟩
           case measure=>simp[intOf];omega
          ·go_wp2;go_roundw
           case rel=>exact⟨i+1,p3,A3,oM,gN,ko.out⟩
           case measure=>simp[intOf];omega
       ·as_aux_lemma =>
        obtain rfl:i=3:=oM;have ko:Hid (sw s ((p.bD k).cr r) A1 w1 g r xa xm xc 0 (((p.bD k).cr r).nf.cT r (cW p.dev r) (j+1)) wr p3 A3):=⟨hr.st,by rw[hr.nf,AL X.nf aa3.out.fV,HXW.out],hr.bX,hr.box,hr.new,hr.off⟩
        clear hr b0 b6 e0;go_wp2;go_roundw
        case rel=>exact⟨j+1,p3,A3,oM,gN,ko.out⟩
        case measure=>simp[intOf];omega
   ·as_aux_lemma =>
    have ko:Hid (sw s ((p.bD k).cr r) A1 w1 g r xa xm xc 0 (((p.bD k).cr r).nf.cT r (cW p.dev r) (j+1)) wr p2 A2):=⟨HR.out.st,by rw[EV.out,ML (show fa p2.nf.hand _=_ from hg)],HR.out.bX,HR.out.box,HR.out.new,HR.out.off⟩
    have sr:=ae gA;clear hg gA hjp;obtain⟨bx,cA⟩:∃bx,p2.hand[jj]=bx:=⟨_,rfl⟩
    have Hu:=xA p2.hand A2.ha A2.hc (r.f+(j:Int)) wr tR.out.mem.hand jj hjj sr.out;rw[cA] at Hu;have HC:=ae Hu;clear cA Hu;obtain⟨Yx,sC,sD,JS⟩:=bx;go_wp2_with fail;refine HC.out.mono ?_;rintro e w4 ⟨rfl,Ef⟩;have Hx:=ae (ko.out.later Ef);clear Ef c2 b0 b1 b2 b6 e0 lg l2 HC;go_wp2;go_roundw
    case rel=>exact⟨j+1,p2,A2,oM,gN,Hx.out.later bQ⟩
    case measure=>simp[intOf];omega
  ·as_aux_lemma =>
   obtain rfl:j=M:=oM;have qX:=hr.nf;have Lh:j=r.m.toNat:=by have:=HM.out;omega
   have eU:Hid (aQ p2):=by
    have h1:=Bq.out.nf.cT r (cW p.dev r) j;rw[<-qX] at h1;exact h1.cD
   have mh:Hid (p2.nf.serve=q):=by
    show p2.nf.serve=q;rw[qX,Lh];exact HQ.out
   clear hr qX Lh;go_wp2_with fail;refine cM (ow s p2 A2 _ HR.out.st.at' mX.out eU.out bT.out.1 bT.out.2 q mh.out) ?_;intro w4 hok;have HO:Hid (ed 1 s p A w w4 q):=ed.before (c':=0) cf.out Ow.out (ed.before (c:=0) HR.out.st HR.out.bX hok (aaO _)) (aaO _);clear hok b0 b1 b2 b6;go_wp2;go_ret;exact⟨rfl,HO.out⟩
theorem Eu(s:Nat)(p:Sk)(A:Rs)(w:World)(h:bN s p A w)(n:Nat)(hf:iE n p.nf)(hn:n<=3950000)(hA:A.bX<=240000)(hL:aQ p.nf)(i:Int)(fl:Bool)(x:Int)(q:Sk)(hq:p.nf.cz i fl=(x,q)) :
 Calls prog 56 #[.pointer (some ⟨s,0,none⟩),i6 i,.bool fl] w fun e w'=>e=.returned (i6 x)/\ed 1 s p A w w' q:=by
 have hI:=hf.fit.cD.inv;have hS:=hf.fit.cD.short;have hT:=hf.fit.cD.tags;have hU:=hf.fit.cD.az
 by_cases hi:i<0\/(p.dev.busy.length:Int)<=i
 ·rw[Fa hi] at hq
  cases hq
  exact UT s p A w h i fl hi
 ·obtain⟨k,rfl⟩:∃k:Nat,i=k:=⟨i.toNat,oM⟩
  have hk:k<p.dev.busy.length:=oM;have eH:=aaX hk
  cases fl
  ·rw[Is eH] at hq;simp only[acK] at hq;obtain⟨rfl,hq⟩:=hq
   cases hw:p.dev.busy[k].wr
   ·exact UR s p A w h hI hL.cD hf.tight hS oM oM hA k _ eH hw q hq
   ·exact US s p A w h hI hL.cD hS oM oM hA k _ eH hw q hq
  ·by_cases DI:p.f (p.dev.busy[k].tags.getD 0 0)<2
   ·rw[BC eH DI] at hq
    cases hq
    exact NT s p A w h hI oM hA k _ eH DI
   ·cases hw:p.dev.busy[k].wr
    ·rw[DB eH DI hw] at hq;simp only[acK] at hq;obtain⟨rfl,hq⟩:=hq;exact Q9 s p A w h hI hL.cD oM oM hA k _ eH DI hw q hq
    ·rw[DA eH DI hw] at hq;simp only[acK] at hq;obtain⟨rfl,hq⟩:=hq;exact Q8 s p A w h hI hL.cD oM oM hA k _ eH DI hw q hq
theorem KE{P:Program}{f:Nat}{args:Array Value}{Q:Ending->World->Prop}{w:World}(R:World->Prop)(h:R w)(k:∀w',R w'->Calls P f args w' Q):Calls P f args w Q:=k w h
def yH(p:Sk)(k:Nat):Bool:=(List.range k).any fun j=>decide (1<(p.ao j).kind)
theorem Rw(p:Sk)(k:Nat):yH p (k+1)=(yH p k||decide (1<(p.ao k).kind)):=by
 unfold yH;rw[afU,List.any_append,agI,List.any_nil,afG]
theorem Vo{p:Sk}(hI:bg p):yH p 3=p.ec:=by
 obtain⟨x,y,z,e⟩:=Ah hI.fV;have k1:=(hI.oE x (by rw[e];simp)).kind;have k2:=(hI.oE y (by rw[e];simp)).kind;have k3:=(hI.oE z (by rw[e];simp)).kind;have one:∀{c:Cl},0<=c.kind/\c.kind<=3->decide (1<c.kind)=(c.kind==2||c.kind==3):=by
  intro c hc;rw[ac0,aba,afS,ac3,ac3]
  omega
 have a1:p.ao 0=x:=by unfold Sk.ao;rw[e];rfl
 have a2:p.ao 1=y:=by unfold Sk.ao;rw[e];rfl
 have a3:p.ao 2=z:=by unfold Sk.ao;rw[e];rfl
 unfold Sk.ec;rw[e];show([0,1,2]:List Nat).any _=_;simp only[agI,List.any_nil,afG,a1,a2,a3,one k1,one k2,one k3]
section
variable{p:Sk}
theorem Io(h:p.dead=true\/(bW p.hand<3/\p.ec=false)):p.nf.clean=(false,p.nf):=by
 have h':p.nf.dead=true\/(bW p.nf.hand<3/\p.nf.ec=false):=h;unfold Sk.clean;rw[aaV h']
theorem Sh(h:¬(p.dead=true\/(bW p.hand<3/\p.ec=false)))(hp:jT p.hand p.held<0):p.nf.clean=(false,p.nf):=by
 have h':¬(p.nf.dead=true\/(bW p.nf.hand<3/\p.nf.ec=false)):=h;have e4:p.nf.held=p.held:=funext (ub p);have e5:p.nf.hand=p.hand:=rfl;unfold Sk.clean;rw[aaP h',e4,e5,aaV hp]
theorem VZ(h:¬(p.dead=true\/(bW p.hand<3/\p.ec=false)))(hp:¬jT p.hand p.held<0){x:Bf}(hx:fa p.hand (jT p.hand p.held)=some x):p.nf.clean=p.nf.gI (jT p.hand p.held) true [x.data]:=by
 have h':¬(p.nf.dead=true\/(bW p.nf.hand<3/\p.nf.ec=false)):=h;have e4:p.nf.held=p.held:=funext (ub p);have e5:p.nf.hand=p.hand:=rfl;unfold Sk.clean;rw[aaP h',e4,e5,aaP hp,hx]
 rfl
end
theorem DY(s:Nat)(p:Sk)(A:Rs)(w:World)(h:bN s p A w)(hI:bg p)(hT:p.tags<=4000000000000000000)(t:Bool)(q:Sk)(hq:p.nf.clean=(t,q)):Calls prog 54 #[.pointer (some ⟨s,0,none⟩)] w fun e w'=>e=.returned (.bool t)/\ed 0 s p A w w' q:=by
 have aL:=ae h;have HI:=ae hI;have HQ:=ae hq;have HH:=ae h.mem.hand;have hl:=h.lt;have c2:=h.cell 2 _ rfl;have J6:=ae (vD p.hand);obtain⟨dn,nV⟩:∃dn,bW p.hand=dn:=⟨_,rfl⟩
 have lC:=ae nV;clear h hI hq nV;go_enter func54,ntmps54;go_wp2_with fail;refine cM (F9 p.hand A.ha A.hc _ HH.out dn (J6.out.trans lC.out)) ?_;intro w1 aw;have aN:=ae aw;clear aw c2;go_wp2_with fail
 go_loopw[3,4] (fun m i wr=>∃k:Nat,k<=3/\i=i6 k/\m=.bool (decide (3<=dn)||yH p k)/\bL w wr) (fun _ i _=>3-(intOf i).toNat)
 case atStart=>exact⟨0,oM,rfl,acT Value.bool (by rw[show yH p 0=false from rfl,afG,ac0];simp;omega),aN.out⟩
 case round =>
  obtain⟨k,IN,rfl,rfl,jN⟩:=hrel;have xK:=ae jN;have wm:=ae (bH.cX aL.out jN);have lr:=wm.out.at'.lt;clear jN
  by_cases hk:k<3
  ·have yg:(0:Int)<=(k:Int):=oM;have aeK:(k:Int)<3:=oM;have HW:=ae (Rw p k);have fE:=(wm.out.at'.fE hk).1;unfold tU at fE;generalize hm:(decide (3<=dn)||yH p k)=mm;have HM:=ae hm;clear hm
   cases mm
   ·cases fC:A.ka k with
    |none =>
     rw[fC] at fE;simp only[afV] at fE;have HZ:=ae (wm.out.at'.mem.idle k hk fC);clear fC;go_wp2;go_roundw
     case rel=>exact⟨k+1,oM,gN,acT Value.bool (by rw[HW.out,<-Bool.or_assoc,HM.out,HZ.out];rfl),xK.out⟩
     case measure=>simp[intOf];omega
    |some ak =>
     rw[fC] at fE;simp only[afl] at fE;obtain⟨k0,-,-,-,-,LC⟩:=(wm.out.at'.mem.asks k hk ak fC).cells;clear fC;go_wp2;go_roundw
     case rel=>exact⟨k+1,oM,gN,acT Value.bool (by rw[HW.out,<-Bool.or_assoc,HM.out];rfl),xK.out⟩
     case measure=>simp[intOf];omega
   ·clear fE;go_wp2;go_roundw
    case rel=>exact⟨k+1,oM,gN,acT Value.bool (by rw[HW.out,<-Bool.or_assoc,HM.out];rfl),xK.out⟩
    case measure=>simp[intOf];omega
  ·obtain rfl:k=3:=oM;have HWA:=ae (Vo HI.out);have c2:=wm.out.at'.cell 2 _ rfl;have c20:=wm.out.at'.cell 20 _ rfl;generalize hm:(decide (3<=dn)||yH p 3)=mm;have HM:Hid ((decide (3<=dn)||p.ec)=mm):=by show _=_;rw[<-HWA.out];exact hm
   clear hm
   cases ij:p.dead
   ·rw[ij] at c20;have Oz:=ae ij;clear ij
    cases mm
    ·have HNO:Hid (bW p.hand<3/\p.ec=false):=by
      have:=HM.out;rw[afe,acv] at this;exact⟨by rw[lC.out];omega,this.2⟩
     have HE:=ae (af5 ((Io (ir HNO.out)).symm.trans HQ.out));go_wp2;go_ret;exact⟨by(have h9:=HE.out.1);subst h9;rfl,p,A,wm.out,HE.out.2,aaO _⟩
    ·have RJ:Hid (¬(p.dead=true\/(bW p.hand<3/\p.ec=false))):=by
      rintro(e|⟨e1,e2⟩)
      ·rw[Oz.out] at e;cases e
      ·have:=HM.out;rw[e2,afG,aba] at this;rw[lC.out] at e1
       omega
     have OC:=ae (HH.out.later xK.out);obtain⟨pk,kb⟩:∃pk,jT p.hand p.held=pk:=⟨_,rfl⟩
     have Ki:=ae kb;clear kb HM;go_wp2_with fail
     go_region_held3 (fun w'=>w'.cell? ⟨s,2,none⟩=some (.slice A.ha p.hand.length A.hc)) (exact ai (w:=wr) bQ c2) (first|(go_at_call 98;refine(se s p A _ (wm.out.at'.later bQ) HI.out).mono ?_;rintro e wH ⟨rfl,O3⟩)|(go_at_call 97;refine(UJ p A.ha A.hc _ HI.out (OC.out.later bQ) pk Ki.out).mono ?_;rintro e wP ⟨rfl,K6⟩))
     all_goals
      refine ku (fun wx=>bL wr wx) bQ ?_;intro wc qy;clear O3 K6;have vq:=ae (bH.cX aL.out (af xK.out qy));have lc:=vq.out.at'.lt;have c2c:=vq.out.at'.cell 2 _ rfl;have HHc:=ae (OC.out.later qy);clear qy c2 wm OC
      rcases AJ p.hand p.held with⟨hp,-⟩|⟨x,hx,hp,-,-⟩
      ·have oL:pk=-1:=Ki.out.symm.trans hp;have HE:=ae (af5 ((Sh RJ.out (by rw[hp];decide)).symm.trans HQ.out));subst oL;clear hp;go_wp2;go_ret;exact⟨by(have h9:=HE.out.1);subst h9;rfl,p,A,vq.out,HE.out.2,aaO _⟩
      ·have ac4:=HI.out.hand.sY x hx;have hpx:pk=x.pl:=Ki.out.symm.trans hp;have hg:fa p.hand pk=some x:=by rw[hpx];exact rJ HI.out.hand.mr hx
       have acQ:0<=pk/\pk<=31:=oM;have mh:=ae (((VZ RJ.out (by rw[Ki.out];omega) (by rw[Ki.out];exact hg)).symm.trans HQ.out))
       rcases gq p.hand pk with⟨h1,_⟩|⟨j,hj,h1,gA,_⟩
       ·rw[hg] at h1;cases h1
       ·have hxj:x=p.hand[j]:=by rw[hg] at h1;exact abY h1
        have Yu:=ae hxj;have sr:=ae gA;have HPI:=ae acQ;have zg:Hid (x.data.size<=4):=ac4.2.2;have HQ3:Hid (p.nf.gI pk true [x.data]=(t,q)):=by have:=mh.out;rw[Ki.out] at this;exact this
        have hk0':¬pk<0:=oM;clear hp ac4 hpx hg h1 hxj hx acQ gA mh Ki;obtain⟨xpl,RA,afa,xused⟩:=x;go_wp2_with fail;refine(xA p.hand A.ha A.hc pk _ HHc.out j hj sr.out).mono ?_;rw[<-Yu.out];rintro e w3 ⟨rfl,bo⟩;have eV:=ae (vq.out.later bo);have ud:=bo.size;have hlw:w.heap.size<=w3.heap.size:=eV.out.only.size;have l3:=eV.out.at'.lt;clear bo c2c lc;go_wp2_with fail;refine KE (fun wy=>bH s p A p A w wy/\StrsAt wy (some ⟨w3.heap.size+1,0,none⟩) [RA]) ⟨eV.out.later bQ,ir ⟨_,_,rfl,fun i hi=>?_⟩⟩ ?_
        ·obtain rfl:i=0:=by simp at hi;omega
         simp
        ·rintro wy ⟨iU,aeR⟩;refine cM (Gc s p A wy iU.at' HI.out hT pk HPI.out true [RA] sM (some ⟨w3.heap.size+1,0,none⟩) 1 aeR (fun e=>by cases e) (fun _ ad qx e=>by have h9:=aL.out.ky _ e;simp only[aa4] at qx;subst qx;simp only at h9;omega) (fun tb=>xS (tt HI.out pk HPI.out true [RA] (il ⟨rfl,rfl,fun s hs=>by rw[abq.1 hs];exact zg.out⟩)) _ 1 tb) t q HQ3.out) ?_;intro w7 Tm;have qP:Hid (ed 0 s p A w w7 q):=ed.before iU (aaO _) Tm (aaO _);clear Tm;go_wp2;go_ret;exact⟨rfl,qP.out⟩
   ·rw[ij] at c20;have HE:=ae (af5 ((Io (il ij)).symm.trans HQ.out));clear ij;go_wp2;go_ret;exact⟨by(have h9:=HE.out.1);subst h9;rfl,p,A,wm.out,HE.out.2,aaO _⟩
theorem No(l:List Rq)(hg:EI l)(aE:l ≠ [])(b o c:Nat)(t:Tn)(now:Int)(n0:0<=now)(n1:now<=1000000000)(hs:cH t.s) :
 ∃(i:Nat) (T:Tn),i<l.length/\jR l t now=((i:Int),T)/\Aa 101 b o c l t now i T:=by
 have KQ:∀(i:Nat) (hi:i<l.length),vE l (i:Int)=l[i].f+l[i].m:=fun i hi=>by unfold vE;rw[abG,aaX hi]
 have Kz:¬(0<t.g/\t.g<3/\0<=fX t.w t.p l)->∃(i:Nat) (T:Tn),i<l.length/\jR l t now=((i:Int),T)/\Aa 101 b o c l t now i T:=by
  intro hpre;unfold jR;rw[aaP hpre];obtain⟨i0,iT,hO,hw⟩:=AD l aE t _ _ rfl rfl;generalize d1:decide (0<=dG false l)=b1 at *;generalize d2:decide (0<=dG true l)=b2 at *;obtain⟨e1,e2⟩:=Ky b1 b2 t;obtain⟨i,hi,rN⟩:=Iw l hg (dh b1 b2 t) now i0 iT hw;have g:=(hg.bO i hi).uG;have YQ:sE l (dh b1 b2 t) now=i:=by
   unfold sE;have P7:uH l (dG (dh b1 b2 t).w l)=l[i0].born:=by unfold uH;rw[hO,abG,aaX iT]
   rw[P7]
   rcases rN with⟨h1,rfl⟩|⟨h1,h2|⟨h2,h3⟩⟩
   ·rw[aaV h1];exact hO
   ·rw[aaP oM,aaV oM];exact h2
   ·rw[aaP oM,aaP oM];exact h3
  refine⟨i,⟨(dh b1 b2 t).w,1,(dh b1 b2 t).s,l[i].f+l[i].m⟩,hi,by rw[YQ,KQ i hi],?_⟩;intro w hl;have g0:=hg.bO i0 iT;rw[e1] at rN
  by_cases BW:t.g<=0\/3<=t.g
  ·exact NI l b o c t now w hl (by rw[aaU];omega) (by rw[aaU];omega) hs.1 _ _ rfl rfl b1 b2 d1 d2 _ _ rfl rfl i0 iT hO i hi n0 n1 g0.b0 g0.b1 oM oM oM oM rN
  ·have qA:fX t.w t.p l=-1:=by
    rcases rZ t.w t.p l with⟨h1,_⟩|⟨j,hj,h1,_⟩
    ·exact h1
    ·exact absurd ⟨oM,oM,oM⟩ hpre
   refine QY l b o c t now w hl _ rfl ?_ qA hs.1 _ _ rfl rfl b1 b2 d1 d2 _ _ rfl rfl i0 iT hO i hi n0 n1 g0.b0 g0.b1 oM oM oM oM rN
   by_cases h1:t.g=1
   ·rw[h1];rfl
   ·obtain h2:t.g=2:=oM;rw[h2];rfl
 by_cases BW:0<t.g/\t.g<3/\0<=fX t.w t.p l
 ·rcases rZ t.w t.p l with⟨h1,_⟩|⟨j,hj,h1,h2,_⟩
  ·omega
  ·have g:=(hg.bO j hj).uG;refine⟨j,⟨t.w,t.g+1,t.s,l[j].f+l[j].m⟩,hj,by unfold jR;rw[aaV BW,h1,KQ j hj],fun w hl=>?_⟩;refine XB l b o c t now w hl _ rfl ?_ oM oM j hj h1 oM oM oM oM
   by_cases h3:t.g=1
   ·rw[h3];rfl
   ·obtain h4:t.g=2:=oM;rw[h4];rfl
 ·exact Kz BW
section
variable{s:Nat}{p:Sk}{A:Rs}{w:World}
theorem bN.ae5(h:bN s p A w)(L:List Rq)(a':Option Addr)(c':Nat)(hR:aW w a' L)(bS:L.length<=c')(cU:a'=none->c'=0)(ho:L ≠ []->∀q,a'=some q->¬A.off s q.block)(zz:∀r∈L,r.dB (A.off s)):bH s p A { p with queue:=L } { A with qa:=a',qc:=c' } w (w.setCell ⟨s,3,none⟩ (.slice a' L.length c')) :=
 h.put (p':={ p with queue:=L }) (A':={ A with qa:=a',qc:=c' }) (h.mem.p7 L a' c' p.tags hR bS cU ho zz) 3 _ rfl (fun _ hk=>il hk) ⟨rfl,rfl,rfl,rfl⟩
theorem bN.aaA(h:bN s p A w)(T:Tn):bH s p A { p with dQ:=T } A w ((((w.setCell ⟨s,4,none⟩ (.bool T.w)).setCell ⟨s,5,none⟩ (i6 T.g)).setCell ⟨s,6,none⟩ (i6 T.s)).setCell ⟨s,7,none⟩ (i6 T.p)):=by
 have hm:jB s { p with dQ:=T } A w:={ h.mem with }
 refine hm.yR ?_ ?_ (fun k hk=>il hk) (il rfl) ⟨rfl,rfl,rfl,rfl⟩
 ·exact((((aH.refl (fun k=>k=s) w).setCell _ (il rfl) _).setCell _ (il rfl) _).setCell _ (il rfl) _).setCell _ (il rfl) _
 ·rw[bJ (bJ (bJ (bJ h.a7 _ _) _ _) _ _)]
  rfl
end
theorem Gf(s:Nat)(p:Sk)(A:Rs)(w:World)(h:bN s p A w)(he:p.queue=[]):Calls prog 55 #[.pointer (some ⟨s,0,none⟩)] w fun e w'=>e=.returned (.bool false)/\ed 0 s p A w w' p.nf:=by
 have c3:=h.cell 3 _ rfl;rw[he] at c3;have hl:=h.lt;have aL:=ae h;clear h;go_enter func55,ntmps55;go_wp2;go_ret;exact⟨rfl,p,A,bH.cX aL.out (aX _ _),rfl,aaO _⟩
theorem Ge(s:Nat)(p:Sk)(A:Rs)(w:World)(h:bN s p A w)(hq:p.queue ≠ [])(hf:p.dev.busy.length=2):Calls prog 55 #[.pointer (some ⟨s,0,none⟩)] w fun e w'=>e=.returned (.bool false)/\ed 0 s p A w w' p.nf:=by
 have c3:=h.cell 3 _ rfl;have c0:=h.cell 0 _ rfl;have j8:=h.mem.cE.dev.j8;rw[h.mem.busy,hf] at j8;have qz:=h.mem.cE.dev.lt;have hl:=h.lt;have aL:=ae h;have h0:¬p.queue.length=0:=fun e=>hq (aaZ e)
 have h1:¬(p.queue.length:Int)=0:=oM;have h2:((p.queue.length:Int)==0)=false:=aaU.2 h1;clear h hq hf;generalize p.queue.length=n at *;go_enter func55,ntmps55;go_wp2;go_ret;exact⟨rfl,p,A,bH.cX aL.out (aX _ _),rfl,aaO _⟩
theorem bH.aet{s:Nat}{p p':Sk}{A A':Rs}{w wz w':World}{g:Nat}{r:Rq}(hs:bH s p A p' A' wz w')(h0:bN s p A w)(hg:w.heap.size<=g)(hc:ve wz g r):ve w' g r:=by
 have one:∀{j:Nat} {v:Value},wz.cell? ⟨g,j,none⟩=some v->w'.cell? ⟨g,j,none⟩=some v:=fun {j v} hc=>(hs.only.cell (p:=⟨g,j,none⟩) (aq hc) (fun e=>by have:=h0.bC _ e;simp only at this;omega)).trans hc
 exact⟨one hc.1,one hc.2.1,one hc.2.2.1,one hc.2.2.2.1,one hc.2.2.2.2.1,one hc.2.2.2.2.2⟩
theorem ve.only{F:Nat->Prop}{w w':World}{g:Nat}{r:Rq}(hc:ve w g r)(hO:aH F w w')(hn:¬F g):ve w' g r:=by
 have one:∀{j:Nat} {v:Value},w.cell? ⟨g,j,none⟩=some v->w'.cell? ⟨g,j,none⟩=some v:=fun {j v} hc=>(hO.cell (p:=⟨g,j,none⟩) (aq hc) hn).trans hc
 exact⟨one hc.1,one hc.2.1,one hc.2.2.1,one hc.2.2.2.1,one hc.2.2.2.2.1,one hc.2.2.2.2.2⟩
theorem He(s:Nat)(p:Sk)(A:Rs)(w:World)(h:bN s p A w)(hI:bg p)(aE:p.queue ≠ [])(hb:p.dev.busy.length<2)(q:Sk)(hq:p.nf.bf.2=q):Calls prog 55 #[.pointer (some ⟨s,0,none⟩)] w fun e w'=>e=.returned (.bool true)/\ed 0 s p A w w' q:=by
 obtain⟨g,o,du⟩:=h.mem.queue.form.resolve_left aE;have hQ:=h.mem.queue;rw[du] at hQ;obtain⟨i,T,hi,sN,Fp⟩:=No p.queue hI.SK aE g o A.qc p.dQ p.bI hI.kr.1 hI.kr.2 (by have:=hI.ts;unfold cH;omega);rw[Dz hi aE hb sN] at hq;obtain⟨r,hr⟩:∃r,p.queue[i]=r:=⟨_,rfl⟩
 have HR:Hid (p.queue[i]=r):=hr;have HQ:=ae hq;have JP:=ae Fp;have HQR:=ae hQ;have aL:=ae h;have mq:r∈p.queue:=hr▸aa5 hi;have AU:=ae (And.intro (hQ.2.1 r mq) (h.mem.eY r (abn _ mq)));have h6:=hI.q6;have bS:=h.mem.fA;have c0:=h.cell 0 _ rfl;have c3:=h.cell 3 _ rfl;have c4:=h.cell 4 _ rfl;have c5:=h.cell 5 _ rfl;have c6:=h.cell 6 _ rfl;have c7:=h.cell 7 _ rfl;have c8:=h.cell 8 _ rfl;have j8:=h.mem.cE.dev.j8;rw[h.mem.busy] at j8;rw[du] at c3;have qz:=h.mem.cE.dev.lt;have hl:=h.lt;have gm:=ae du;obtain⟨d0,d1,d2,d3,d4,d5⟩:=hQ.cells hi;rw[hr] at d0 d1 d2 d3 d4 d5;have lg:=aq d0;have HD:=ae (And.intro d0 (And.intro d1 (And.intro d2 (And.intro d3 (And.intro d4 d5)))));have fp:¬p.queue.length=0:=fun e=>aE (aaZ e)
 have BZ:¬(p.queue.length:Int)=0:=oM;have lU:((p.queue.length:Int)==0)=false:=aaU.2 BZ;have aw:¬(p.dev.busy.length:Int)=2:=oM;have aC:((p.dev.busy.length:Int)==2)=false:=aaU.2 aw;have HB:=ae hb;have iT:(0:Int)<=(i:Int):=oM;have Ti:(i:Int)<(p.queue.length:Int):=oM;clear h hI aE hb hq sN Fp hQ hr mq du d0 d1 d2 d3 d4 d5;obtain⟨tw,tg,ts,tp⟩:=T;go_enter func55,ntmps55;go_upto_region 3 with fail
 go_cut[3,4] (fun s3 s4 wx=>∃Qt,s3=.int .i64 i/\s4=.pointer (some ⟨Qt,0,none⟩)/\sA wx Qt ⟨tw,tg,ts,tp⟩/\w.heap.size<=Qt/\bL w wx)
 case first =>
  go_region_held3 (fun w'=>w'.cell? ⟨s,3,none⟩=some (.slice (some ⟨g,o,none⟩) p.queue.length A.qc)/\w'.cell? ⟨s,4,none⟩=some (.bool p.dQ.w)/\w'.cell? ⟨s,5,none⟩=some (.int .i64 p.dQ.g)/\w'.cell? ⟨s,6,none⟩=some (.int .i64 p.dQ.s)/\w'.cell? ⟨s,7,none⟩=some (.int .i64 p.dQ.p)/\w'.cell? ⟨s,8,none⟩=some (.int .i64 p.bI)) (exact⟨ai (w:=w) bQ c3,ai (w:=w) bQ c4,ai (w:=w) bQ c5,ai (w:=w) bQ c6,ai (w:=w) bQ c7,ai (w:=w) bQ c8⟩) (first|(go_at_call 101;refine cM (JP.out _ (HQR.out.later bQ)) ?_;intro w1 mT;have z1:w.heap.size<=w1.heap.size:=(show bL w w1 from bQ).size;(try(obtain⟨m0,m1,m2,m3,m4,m5,m6,m7⟩:w1.cell? ⟨w.heap.size,0,none⟩=some (.bool false)/\w1.cell? ⟨w.heap.size,1,none⟩=some (.int .i64 0)/\w1.cell? ⟨w.heap.size,2,none⟩=some (.int .i64 0)/\w1.cell? ⟨w.heap.size,3,none⟩=some (.int .i64 0)/\w1.frozen? ⟨w.heap.size,0,none⟩=false/\w1.frozen? ⟨w.heap.size,1,none⟩=false/\w1.frozen? ⟨w.heap.size,2,none⟩=false/\w1.frozen? ⟨w.heap.size,3,none⟩=false;(focus((refine⟨(mT.cell (p:=⟨w.heap.size,0,none⟩) ?_).trans ?_,(mT.cell (p:=⟨w.heap.size,1,none⟩) ?_).trans ?_,(mT.cell (p:=⟨w.heap.size,2,none⟩) ?_).trans ?_,(mT.cell (p:=⟨w.heap.size,3,none⟩) ?_).trans ?_,(mT.frozen (p:=⟨w.heap.size,0,none⟩) ?_).trans ?_,(mT.frozen (p:=⟨w.heap.size,1,none⟩) ?_).trans ?_,(mT.frozen (p:=⟨w.heap.size,2,none⟩) ?_).trans ?_,(mT.frozen (p:=⟨w.heap.size,3,none⟩) ?_).trans ?_⟩);(all_goals simp);(all_goals omega)))))))
  all_goals
   go_wp2
   go_meet
   case rel=>first|exact⟨_,rfl,rfl,⟨sM,sM,sM,sM⟩,z1,bQ⟩|exact⟨_,rfl,rfl,Zi _ _ _ _ m0 m1 m2 m3 rfl,aaO _,bQ⟩
 case rest =>
  obtain⟨Qt,rfl,rfl,ym,tP,qy⟩:=hcut;have vq:=ae (bH.cX aL.out qy);have c3c:=ai qy c3;obtain⟨e0,e1,e2,e3,e4,e5⟩:=HD.out;have e0:=ai qy e0;have e1:=ai qy e1;have e2:=ai qy e2;have e3:=ai qy e3;have e4:=ai qy e4;have e5:=ai qy e5;have lc:=vq.out.at'.lt;have lgc:=aq e0;have Y0:=qy.size;have Yr:=ae ym;have RF:=ae qy;clear c0 c3 c4 c5 c6 c7 c8 j8 ym qy;go_wp2_with fail;have aej:Hid (ve (wc.alloc (.cells #[.bool r.wr,.int .i64 r.f,.int .i64 r.m,.slice r.da r.data.length r.dc,.slice r.ta r.tags.length r.tc,.int .i64 r.born] 146)) wc.heap.size r):=⟨sM,sM,sM,sM,sM,sM⟩
  refine(tz p.queue g o A.qc i _ (HQR.out.later (by have qy:=RF.out;exact bQ)) oM bS hi).mono ?_;rintro e w3 ⟨a',c',rfl,hN,bo⟩;have hsw:wc.heap.size<(wc.alloc (.cells #[.bool r.wr,.int .i64 r.f,.int .i64 r.m,.slice r.da r.data.length r.dc,.slice r.ta r.tags.length r.tc,.int .i64 r.born] 146)).heap.size:=sM;have eV:=ae (vq.out.later (af (aA wc _) bo));have aei:=ae (aej.out.later bo);have aeo:=ae ((Yr.out.later (aA wc _)).later bo);have Yo:=ae (eV.out.at'.ae5 (p.queue.eraseIdx i) a' c' hN.here hN.cap hN.nil (fun _ q' cI e=>by have h9:=hN.new q' cI;have h8:=aL.out.ky _ e;omega) (fun x hx=>aL.out.mem.eY x (abn _ (abo hx))));have abk:=ae (Yo.out.trans (Yo.out.at'.aaA ⟨tw,tg,ts,tp⟩));obtain⟨t0,t1,t2,t3⟩:=id aeo.out;have y3:=eV.out.at'.cell 3 _ rfl;have y4:=eV.out.at'.cell 4 _ rfl;have y5:=eV.out.at'.cell 5 _ rfl;have y6:=eV.out.at'.cell 6 _ rfl;have y7:=eV.out.at'.cell 7 _ rfl;have x3:=eV.out.at'.fz 3;have x4:=eV.out.at'.fz 4;have x5:=eV.out.at'.fz 5;have x6:=eV.out.at'.fz 6;have x7:=eV.out.at'.fz 7;have l3:=eV.out.at'.lt;have hqs:Qt ≠ s:=oM;have hqs':s ≠ Qt:=oM;clear bo hN e0 e1 e2 e3 e4 e5 c3c;go_upto_region 7 with fail;refine ei (fun wv=>bH s p A { p with queue:=p.queue.eraseIdx i,dQ:=⟨tw,tg,ts,tp⟩ } { A with qa:=a',qc:=c' } w wv/\ve wv wc.heap.size r) ⟨eV.out.trans abk.out,abk.out.aet aL.out Y0 aei.out⟩ ?_;rintro wv ⟨pT,hqb⟩;have zd:=ae pT;have HQB:=ae hqb;have c0v:=pT.at'.cell 0 _ rfl;have lv:=pT.at'.lt;have iJ:Hid (r.At wv):=AU.out.1.frame (F:=A.ay s) ⟨fun he ad ha e=>AU.out.2.1 he ad ha (il e),fun he ad ha e=>AU.out.2.2 he ad ha (il e)⟩ pT.only;have fD:Hid (r.dB (A.ra.ay A.b)):=⟨fun he ad ha e=>AU.out.2.1 he ad ha (il (ir (il (ir e)))),fun he ad ha e=>AU.out.2.2 he ad ha (il (ir (il (ir e))))⟩
  have za:Hid (A.m.busy.length<2):=by show _<_;rw[aL.out.mem.busy];exact HB.out
  clear pT hqb t0 t1 t2 t3 y3 y4 y5 y6 y7 x3 x4 x5 x6 x7
  go_region_held3 (fun w'=>w'.cell? ⟨s,0,none⟩=some (.pointer (some ⟨A.b,0,none⟩))/\w'.cell? ⟨wc.heap.size,0,none⟩=some (.bool r.wr)/\w'.cell? ⟨wc.heap.size,1,none⟩=some (.int .i64 r.f)/\w'.cell? ⟨wc.heap.size,2,none⟩=some (.int .i64 r.m)/\w'.cell? ⟨wc.heap.size,3,none⟩=some (.slice r.da r.data.length r.dc)/\w'.cell? ⟨wc.heap.size,4,none⟩=some (.slice r.ta r.tags.length r.tc)/\w'.cell? ⟨wc.heap.size,5,none⟩=some (.int .i64 r.born)) (first|exact⟨ai (w:=wv) (aX _ _) c0v,HQB.out.later (aX _ _)⟩|exact⟨ai (w:=wv) (aX _ _).drew c0v,HQB.out.later (aX _ _).drew⟩|exact⟨aM,aM,aM,aM,aM,aM,aM⟩) (first|(go_at_call 103;refine(Jc A.b A.m A.ra r _ (zd.out.at'.mem.cE.dev.later bQ) za.out (iJ.out.later bQ) fD.out).mono ?_;rintro e w5 ⟨xy,rfl,hwa,cZ⟩;have yy:=(cZ.only.cell (p:=⟨s,0,none⟩) lv (fun e=>aL.out.mem.sv.1 (ir e))).trans c0v;obtain⟨yy0,yy1,yy2,yy3,yy4,yy5⟩  :=ve.only (w:=wv.drew) HQB.out cZ.only (fun e=>by have h9:=aL.out.mem.cE.dev.bC _ e;omega)))
  all_goals
   have Oy:=ae (zd.out.later (by first|exact(aX _ _).drew|exact aX _ _));have pg:Hid (ed 0 s p A w w5 q):=by
    have H:=Oy.out.at';refine⟨_,_,Oy.out.trans (bN.step (d':={ p.dev with busy:=p.dev.busy++[r] }) (f':=p.f) p.ag A.bX H (H.mem.cE.step cZ) (H.mem.tied.busy _ _) (by show A.m.busy++[r]=p.dev.busy++[r];rw[aL.out.mem.busy]) H.mem.nb H.mem.wb H.mem.map H.mem.im ?_),by rw[<-HQ.out,HR.out,ack],aaO _⟩;intro x hx;have nc:x∈p.dev.busy++[r]:=hx;have hF:=(H.mem.cE.step cZ).ay;have eB:x.At wv.drew/\x.dB (A.off s):=by
     rcases abh.1 nc with h'|h'
     ·exact⟨H.mem.cE.dev.fb.2.1 x (by rw[aL.out.mem.busy];exact h'),aL.out.mem.eY x (aa8 _ h')⟩
     ·rw[abq.1 h'];exact⟨iJ.out.later (aX _ _).drew,AU.out.2⟩
    refine Rq.dB.step eB.1 eB.2 ?_;rintro k ((e|e|e)|e)
    ·exact il (il (il e))
    ·exact(hF k e).imp (fun e=>il (ir (il e))) id
    ·exact il (il (ir (ir e)))
    ·exact il (ir e)
   clear cZ;go_wp2;go_ret;exact⟨rfl,pg.out⟩
theorem uj(s:Nat)(p:Sk)(A:Rs)(w:World)(h:bN s p A w)(hI:bg p)(t:Bool)(q:Sk)(hq:p.nf.bf=(t,q)) :
 Calls prog 55 #[.pointer (some ⟨s,0,none⟩)] w fun e w'=>e=.returned (.bool t)/\ed 0 s p A w w' q:=by
 by_cases he:p.queue=[]
 ·have e:p.nf.bf=(false,p.nf):=by
   unfold Sk.bf;exact aaV (il (by show p.queue.map Rq.nf=[];rw[he];rfl))
  rw[e] at hq
  cases hq
  exact Gf s p A w h he
 ·by_cases hf:2<=p.dev.busy.length
  ·have e:p.nf.bf=(false,p.nf):=by
    unfold Sk.bf;exact aaV (ir (by rw[show p.nf.dev.busy.length=p.dev.busy.length from abe _];exact hf))
   rw[e] at hq
   cases hq
   exact Ge s p A w h he (by have:=hI.b2;omega)
  ·have e1:p.nf.bf.1=true:=by
    unfold Sk.bf;rw[aaP];rintro(e|e)
    ·exact he (agC.1 e)
    ·rw[show p.nf.dev.busy.length=p.dev.busy.length from abe _] at e;omega
   rw[hq] at e1;obtain rfl:t=true:=e1;exact He s p A w h hI he oM q (by rw[hq])
theorem bN.JR{s:Nat}{p:Sk}{A:Rs}{w:World}(h:bN s p A w){c:Nat}(hc:c<3):((p.ao c).kind=0/\w.cell? ⟨s,11+c,none⟩=some (.pointer none))\/(¬(p.ao c).kind=0/\∃k,w.cell? ⟨s,11+c,none⟩=some (.pointer (some ⟨k,0,none⟩))):=by
 have fE:=(h.fE hc).1;unfold tU at fE
 cases fC:A.ka c with
 |none =>
  rw[fC] at fE;exact il ⟨h.mem.idle c hc fC,fE⟩
 |some k =>
  rw[fC] at fE;exact ir ⟨(h.mem.asks c hc k fC).kind,k,fE⟩
theorem Xn(p:Sk):p.nf.quiet=((p.ao 0).kind==0&&((p.ao 1).kind==0&&(p.ao 2).kind==0)&&(p.queue.isEmpty&&p.dev.busy.isEmpty)):=by
 have e:∀c:Nat,c<3->p.nf.waits c=!((p.ao c).kind==0):=fun c hc=>by
  unfold Sk.waits;rw[aa1 (show 0<=(c:Int)/\(c:Int)<3 from oM),adA,abG]
  rfl
 have e1:p.nf.queue.isEmpty=p.queue.isEmpty:=by show(p.queue.map Rq.nf).isEmpty=_;rw[List.isEmpty_map]
 have e2:p.nf.dev.busy.isEmpty=p.dev.busy.isEmpty:=by show(p.dev.busy.map Rq.nf).isEmpty=_;rw[List.isEmpty_map]
 have h0:=e 0 oM;have h1:=e 1 oM;have h2:=e 2 oM;unfold Sk.quiet;rw[show(0:Int)=((0:Nat):Int) from rfl,show(1:Int)=((1:Nat):Int) from rfl,show(2:Int)=((2:Nat):Int) from rfl,h0,h1,h2,e1,e2,agO,agO,agO]
 rfl
theorem Q7(s:Nat)(p:Sk)(A:Rs)(w:World)(h:bN s p A w)(t:Bool)(ht:p.nf.quiet=t):Calls prog 109 #[.pointer (some ⟨s,0,none⟩)] w fun e w'=>e=.returned (.bool t)/\w'=w:=by
 rw[Xn] at ht;have a0:=h.JR (c:=0) oM;have a1:=h.JR (c:=1) oM;have a2:=h.JR (c:=2) oM;have c0:=h.cell 0 _ rfl;have c3:=h.cell 3 _ rfl;have j8:=h.mem.cE.dev.j8;rw[h.mem.busy] at j8;have qz:=h.mem.cE.dev.lt;have hl:=h.lt;have q0:p.queue.isEmpty=decide ((p.queue.length:Int)=0):=by cases p.queue<;>simp;omega
 have q1:p.dev.busy.isEmpty=decide ((p.dev.busy.length:Int)=0):=by cases p.dev.busy<;>simp;omega
 rw[q0,q1] at ht;clear h q0 q1;generalize p.queue.length=n at *;generalize p.dev.busy.length=m at *
 rcases a0 with⟨b0,a0⟩|⟨b0,k0,a0⟩
 ·rcases a1 with⟨b1,a1⟩|⟨b1,k1,a1⟩
  ·rcases a2 with⟨b2,a2⟩|⟨b2,k2,a2⟩
   ·rw[b0,b1,b2] at ht;have HT:=ae ht;clear ht b0 b1 b2
    by_cases hn:n=0
    ·subst hn;go_enter func109,ntmps109;go_wp2;go_ret;exact⟨ey (by rw[<-HT.out];rw[ac0];simp),rfl⟩
    ·have BZ:¬(n:Int)=0:=oM;have lU:((n:Int)==0)=false:=aaU.2 BZ;go_enter func109,ntmps109;go_wp2;go_ret;exact⟨ey (by rw[<-HT.out];simp[hn]),rfl⟩
   ·have hb:((p.ao 2).kind==0)=false:=aaU.2 b2;rw[b0,b1,hb] at ht;have HT:=ae ht;clear ht b0 b1 b2 hb;go_enter func109,ntmps109;go_wp2;go_ret;exact⟨ey (by rw[<-HT.out];rfl),rfl⟩
  ·have hb:((p.ao 1).kind==0)=false:=aaU.2 b1;rw[b0,hb] at ht;have HT:=ae ht;clear ht b0 b1 hb a2;go_enter func109,ntmps109;go_wp2;go_ret;exact⟨ey (by rw[<-HT.out];rfl),rfl⟩
 ·have hb:((p.ao 0).kind==0)=false:=aaU.2 b0;rw[hb] at ht;have HT:=ae ht;clear ht b0 hb a1 a2;go_enter func109,ntmps109;go_wp2;go_ret;exact⟨ey (by rw[<-HT.out];rfl),rfl⟩
theorem Jd(s:Nat)(p:Sk)(A:Rs)(w:World)(h:bN s p A w)(hI:bg p)(hL:aQ p)(hT:p.tags<=3999999999999999990)(hU:p.az<=3999999999999999990)(q:Sk)(hq:p.nf.tick=q) :
 Calls prog 52 #[.pointer (some ⟨s,0,none⟩)] w fun e w'=>e=.returned (.tuple #[])/\ed 0 s p A w w' q:=by
 obtain⟨m,hm⟩:∃m:Int,(if p.bI+1<1000000000 then p.bI+1 else 1000000000)=m:=⟨_,rfl⟩
 have HM:=ae (hI.kr);have HX:=ae (h.uX m);have Bp:Hid (bg { p with bI:=m }):=⟨hI.fV,hI.oE,hI.hand,hI.d6,hI.bO,hI.apart,hI.q6,hI.b2,by
  have:=hI.kr;show 0<=m/\m<=1000000000;rw[<-hm];split<;>omega,hI.tg,hI.us,hI.pz,hI.dv,hI.fY,hI.ts,hI.fr⟩
 have EP:Hid (aQ { p with bI:=m }):=hL;have HQ:Hid (({ p with bI:=m }:Sk).nf.serve=q):=by
  rw[<-hq,<-hm];rfl
 have c8:=h.cell 8 _ rfl;have f8:=h.fz 8;have hl:=h.lt;have sW:IntKind.i64.wrap (p.bI+1)=p.bI+1:=by have:=hI.kr;rw[abr];omega
 clear h hI hq hL
 by_cases au:1000000000<p.bI+1
 ·obtain rfl:1000000000=m:=by rw[<-hm,aaP oM]
  clear hm;go_enter func52,ntmps52;go_wp2_with fail;refine cM (ow s _ A _ HX.out.at' Bp.out EP.out hT hU q HQ.out) ?_;intro w4 hok;have HO:Hid (ed 0 s p A w w4 q):=ed.before HX.out (aaO _) hok (aaO _);clear hok;go_wp2;go_end0;exact⟨rfl,HO.out⟩
 ·obtain rfl:p.bI+1=m:=by rw[<-hm];split<;>omega
  clear hm;go_enter func52,ntmps52;go_wp2_with fail;refine cM (ow s _ A _ HX.out.at' Bp.out EP.out hT hU q HQ.out) ?_;intro w4 hok;have HO:Hid (ed 0 s p A w w4 q):=ed.before HX.out (aaO _) hok (aaO _);clear hok;go_wp2;go_end0;exact⟨rfl,HO.out⟩
section
variable{s:Nat}{p:Sk}{A:Rs}{w wr:World}{r q:Sk}{c c':Nat}
theorem ed.then{f:Nat}{args:Array Value}{E:Ending->Prop}(h:ed c s p A w wr r)(k:∀p' A',bN s p' A' wr->p'.nf=r->A'.bX<=A.bX+c->Calls prog f args wr fun e w'=>E e/\ed c' s p' A' wr w' q):Calls prog f args wr fun e w'=>E e/\ed (c+c') s p A w w' q:=by
 obtain⟨p',A',hs,hn,hc⟩:=h;refine(k p' A' hs.at' hn hc).mono ?_;rintro e w' ⟨he,hk⟩;exact⟨he,ed.before hs hc hk (aaO _)⟩
theorem ed.refl(h:bN s p A w):ed 0 s p A w w p.nf:=⟨p,A,bH.cX h (aX _ _),rfl,oM⟩
def G7(w:World)(b:Nat):Nat:=Mw (w.cell? ⟨b,65,none⟩)
theorem FP(h:ed c s p A w wr r):G7 wr A.b=r.dev.busy.length:=by
 obtain⟨p',A',hs,rfl,_⟩:=h;unfold G7;rw[<-hs.same.1,hs.at'.mem.cE.dev.j8,hs.at'.mem.busy];exact(abe _).symm
theorem Iv{n:Nat}(h:iE n q):iE (n+3) q.tick:=⟨h.fit.tick,cq.tick h.fit.inv h.tight⟩
theorem Fb{n:Nat}(h:iE n q):iE (n+1) q.clean.2:=⟨h.fit.clean,cq.clean h.fit.inv h.tight⟩
theorem A5{n:Nat}(h:iE n q):iE n q.bf.2:=⟨h.fit.bf,cq.bf h.fit.inv h.tight⟩
theorem iK{n m:Nat}(h:iE n q)(hm:n<=m):iE m q:=⟨h.fit.mono hm,h.tight⟩
theorem M3(m:Nat):∀{n:Nat} {q:Sk},iE n q->iE (n+11*m) (q.settle m).2:=by
 induction m with
 |zero=>intro n q h;exact h
 |succ m ih =>
  intro n q h;unfold Sk.settle
  split
  ·exact iK h oM
  ·exact iK (ih h.round) oM
theorem Ec{n:Nat}(h:iE n q)(x kind pl:Int)(data:ByteArray):iE (n+3) (q.ask x kind pl data).2:=⟨h.fit.ask x kind pl data,cq.ask h.fit.inv h.tight x kind pl data⟩
theorem KS{n:Nat}(h:iE n q)(i:Int)(fl:Bool):iE (n+7) (q.cz i fl).2:=⟨h.fit.cz i fl,cq.cz h.fit.inv h.fit.short h.tight i fl⟩
end
theorem Gd(s:Nat)(p:Sk)(A:Rs)(w:World)(h:bN s p A w)(n:Nat)(hf:iE n p.nf)(hL:aQ p.nf)(hn:n<=3900000)(hc:A.bX<=230000)(q:Sk)(hq:p.nf.round=q) :
 Calls prog 57 #[.pointer (some ⟨s,0,none⟩)] w fun e w'=>e=.returned (.tuple #[])/\ed 1 s p A w w' q:=by
 have aL:=ae h;have HF:=ae hf;have HL:=ae hL;have HQ:=ae hq;have o9:=ae hc;have hl:=h.lt;clear h hf hL hq hc;go_enter func57,ntmps57;go_wp2_with fail;refine cM (Jd s p A w aL.out HF.out.fit.cD.inv HL.out.cD (by have:=HF.out.fit.tags;have e:p.nf.tags=p.tags:=rfl;omega) (by have:=HF.out.fit.az;have e:p.nf.az=p.az:=rfl;omega) _ rfl) ?_;intro w1 h1;have jL:=ae h1;have OA:=ae (Iv HF.out);have Bq:=ae HL.out.tick;clear h1;generalize dA:p.nf.tick=q1 at *;have RR:=ae dA;clear dA;go_wp2_with fail;refine cM (ed.then jL.out (c':=0) (q:=q1.clean.2) (E:=fun e=>e=.returned (.bool q1.clean.1)) (fun p' A' h' nW _=>by subst nW;exact DY s p' A' w1 h' OA.out.fit.cD.inv (by have:=OA.out.fit.tags;have e:p'.nf.tags=p'.tags:=rfl;omega) _ _ rfl)) ?_;intro w2 h2;have ez:=ae h2;have J9:=ae (Fb OA.out);have EP:=ae Bq.out.clean;have mh:Hid (((q1.clean.2.bP 3).cz 0 false).2=q):=by
  show((q1.clean.2.bP 3).cz 0 false).2=q;rw[<-RR.out];exact HQ.out
 clear h2 HQ jL RR;generalize q1.clean.1=t at *;generalize q1.clean.2=q2 at *;go_wp2
 go_loopw[] (fun wr=>∃(j:Nat) (r:Sk),ed 0 s p A w wr r/\iE (n+3+1) r/\aQ r/\r.bP j=q2.bP 3/\3<=r.dev.busy.length+j) (fun wr=>3-G7 wr A.b)
 case atStart=>exact⟨3,q2,ez.out,J9.out,EP.out,rfl,oM⟩
 case round =>
  obtain⟨j,r,ho,qA,Fw,hd,hj⟩:=hrel;have jW:=ae ho;have eD:=ae qA;have RM:=ae Fw;have HD:=ae hd;have aC:=qA.fit.inv.b2;obtain⟨i,rfl⟩:∃i,j=i+1:=⟨j-1,oM⟩
  have HJ:=ae hj;have bT:=ae aC;clear ho qA hd hj aC Fw
  cases ht:r.bf.1
  ·have HE:Hid (r=q2.bP 3):=by
    have:=HD.out;unfold Sk.bP at this;rw[ht,aaP aa7] at this;exact this
   have HS:Hid (r.bf=(false,r)):=by
    rcases lJ eD.out.fit.inv with⟨_,e⟩|⟨_,_,_,_,_,_,_,e⟩
    ·exact e
    ·rw[e] at ht;cases ht
   clear ht;go_wp2_with fail;refine cM (ed.then jW.out (c':=0) (q:=r) (E:=fun e=>e=.returned (.bool false)) (fun p' A' h' nW _=>by subst nW;exact uj s p' A' wr h' eD.out.fit.cD.inv _ _ HS.out)) ?_;intro w3 h3;have mz:=ae h3;clear h3;go_wp2_with fail;refine(ed.then mz.out (c':=1) (q:=q) (E:=fun e=>e=.returned (i6 (r.cz 0 false).1)) (fun p' A' h' nW hc'=>by subst nW;exact Eu s p' A' w3 h' _ eD.out oM (by have:=o9.out;omega) RM.out 0 false _ _ (by rw[agT];exact⟨rfl,by show(p'.nf.cz 0 false).2=q;rw[HE.out];exact mh.out⟩))).mono ?_;generalize (r.cz 0 false).1=x;rintro e w4 ⟨rfl,h4⟩;go_wp2;go_end0;exact⟨rfl,h4⟩
  ·have HE:Hid (r.bf.2.bP i=q2.bP 3):=by
    have:=HD.out;unfold Sk.bP at this;rw[ht,aaV rfl] at this;exact this
   have HM:=ae (A4 eD.out.fit.inv ht);have HT:=ae ht;clear ht;go_wp2_with fail;refine cM (ed.then jW.out (c':=0) (q:=r.bf.2) (E:=fun e=>e=.returned (.bool true)) (fun p' A' h' nW _=>by subst nW;exact uj s p' A' wr h' eD.out.fit.cD.inv _ _ (by rw[agT];exact⟨HT.out,rfl⟩))) ?_;intro w3 h3;have mz:=ae h3;clear h3;go_wp2;go_roundw
   case rel=>exact⟨i,r.bf.2,mz.out,A5 eD.out,RM.out.bf,HE.out,by have:=HM.out;have:=HJ.out;omega⟩
   case measure=>rw[FP jW.out,FP mz.out];have:=HM.out;have:=bT.out;omega
theorem NU(s:Nat)(p:Sk)(A:Rs)(w:World)(h:bN s p A w)(n m:Nat)(hf:iE n p.nf)(hL:aQ p.nf)(hn:n+11*m<=3900000)(hc:A.bX+m<=230000)(x:Nat)(q:Sk)(hq:p.nf.settle m=(x,q))(t:Bool)(ht:q.quiet=t) :
 Calls prog 58 #[.pointer (some ⟨s,0,none⟩),i6 m] w fun e w'=>e=.returned (.tuple #[i6 x,.bool t])/\ed m s p A w w' q:=by
 have aL:=ae h;have HF:=ae hf;have HL:=ae hL;have HQ:=ae hq;have HT:=ae ht;have o9:=ae hc;clear h hf hL hq ht hc;go_enter func58,ntmps58;go_wp2
 go_loopw[6] (fun i wr=>∃(k:Nat) (r:Sk),k<=m/\i=i6 k/\ed k s p A w wr r/\iE (n+11*k) r/\aQ r/\p.nf.settle m=((r.settle (m-k)).1+k,(r.settle (m-k)).2)) (fun i _=>m-(intOf i).toNat)
 case atStart=>exact⟨0,p.nf,oM,rfl,ed.refl aL.out,HF.out,HL.out,rfl⟩
 case round =>
  obtain⟨k,r,hk,rfl,ho,qA,Fw,hd⟩:=hrel;have jW:=ae ho;have eD:=ae qA;have RM:=ae Fw;have HD:=ae (hd.symm.trans HQ.out);have dW:Hid (ed m s p A w wr r):=by
   obtain⟨p',A',h1,h2,h3⟩:=ho;exact⟨p',A',h1,h2,oM⟩
  have Yj:Hid (∀t',r.quiet=t'->Calls prog 109 #[.pointer (some ⟨s,0,none⟩)] wr fun e w'=>e=.returned (.bool t')/\w'=wr):=by
   obtain⟨p',A',h1,rfl,h3⟩:=ho;exact fun t' yk=>Q7 s p' A' wr h1.at' t' yk
  clear ho qA hd Fw
  by_cases au:k<m
  ·have gC:(k:Int)<(m:Int):=oM;obtain⟨i,hi⟩:∃i,m-k=i+1:=⟨m-k-1,oM⟩
   have HI:=ae hi;rw[hi] at HD
   cases tP:r.quiet
   ·have pa:Hid (((r.round.settle i).1+(k+1),(r.round.settle i).2)=(x,q)):=by
     have:=HD.out;unfold Sk.settle at this;rw[aaP (by rw[tP];exact aa7)] at this;show _=_;rw[<-this];simp only[acK,acS]
     omega
    have zc:=ae tP;clear tP hi;go_wp2_with fail;refine cM (Yj.out false zc.out) ?_;intro w1 rfl;go_wp2_with fail;refine cM (ed.then jW.out (c':=1) (q:=r.round) (E:=fun e=>e=.returned (.tuple #[])) (fun p' A' h' nW hc'=>by subst nW;exact Gd s p' A' w1 h' _ eD.out RM.out oM (by have:=o9.out;omega) _ rfl)) ?_;intro w2 h2;have ez:=ae h2;clear h2;go_wp2;go_roundw
    case rel=>exact⟨k+1,r.round,oM,gN,ez.out,iK eD.out.round oM,RM.out.round,by
     have e:m-(k+1)=i:=by have:=HI.out;omega
     rw[e];exact HQ.out.trans pa.out.symm⟩
    case measure=>simp[intOf];omega
   ·have pa:Hid (k=x/\r=q):=by
     show k=x/\r=q;have:=HD.out;unfold Sk.settle at this;rw[aaV tP] at this
     simpa using this
    have zc:=ae tP;have HQ':Hid (true=t):=by have:=HT.out;rw[<-pa.out.2,tP] at this;exact this
    clear tP hi;go_wp2_with fail;refine cM (Yj.out true zc.out) ?_;intro w1 rfl;go_wp2_with fail;refine cM (Yj.out true zc.out) ?_;intro w2 rfl;go_wp2;refine aaY (v:=.tuple #[i6 k,.bool true]) (by simp[results,results58,go_sem]) rfl ?_;exact⟨by rw[<-pa.out.1,HQ'.out],by rw[<-pa.out.2];exact dW.out⟩
  ·obtain rfl:k=m:=oM;have pa:Hid (k=x/\r=q):=by
    show k=x/\r=q;have:=HD.out;rw[afC] at this;unfold Sk.settle at this
    simpa using this
   have zc:Hid (r.quiet=t):=by have:=HT.out;rw[<-pa.out.2] at this;exact this
   go_wp2_with fail;refine cM (Yj.out t zc.out) ?_;intro w1 rfl;go_wp2;refine aaY (v:=.tuple #[i6 k,.bool t]) (by simp[results,results58,go_sem]) rfl ?_;exact⟨by rw[<-pa.out.1],by rw[<-pa.out.2];exact dW.out⟩
theorem QM(s:Nat)(w:World)(c kind pl:Int)(data:ByteArray)(h:¬(0<=c/\c<3)\/¬(1<=kind/\kind<=3)) :
 Calls prog 50 #[.pointer (some ⟨s,0,none⟩),i6 c,i6 kind,i6 pl,.string data] w fun e w'=>e=.returned (i6 3)/\w'=w:=by
 by_cases h1:c<0
 ·clear h;go_enter func50,ntmps50;go_wp2;go_ret;exact⟨rfl,rfl⟩
 by_cases h2:2<c
 ·clear h;go_enter func50,ntmps50;go_wp2;go_ret;exact⟨rfl,rfl⟩
 by_cases h3:kind<1
 ·clear h;go_enter func50,ntmps50;go_wp2;go_ret;exact⟨rfl,rfl⟩
 have h4:3<kind:=oM;clear h;go_enter func50,ntmps50;go_wp2;go_ret;exact⟨rfl,rfl⟩
theorem Xo(s:Nat)(w:World)(c kind pl:Int)(data:ByteArray)(hc:0<=c/\c<3)(hk:1<=kind/\kind<=3)(h:¬dy c kind pl data=0) :
 Calls prog 50 #[.pointer (some ⟨s,0,none⟩),i6 c,i6 kind,i6 pl,.string data] w fun e w'=>e=.returned (i6 1)/\w'=w:=by
 obtain⟨c1,c2⟩:=hc;have d1:¬c<0:=oM;have d2:¬2<c:=oM;obtain⟨k1,k2⟩:=hk;have e1:¬kind<1:=oM;have e2:¬3<kind:=oM
 by_cases p1:pl<0
 ·clear h;go_enter func50,ntmps50;go_wp2;go_ret;exact⟨rfl,rfl⟩
 by_cases p2:31<pl
 ·clear h;go_enter func50,ntmps50;go_wp2;go_ret;exact⟨rfl,rfl⟩
 by_cases p3:(4:Int)<(data.size:Int)
 ·clear h;go_enter func50,ntmps50;go_wp2;go_ret;exact⟨rfl,rfl⟩
 have hz:kind=3/\¬pl=0\/¬kind=2/\¬data.size=0:=by
  by_cases g1:kind=3/\¬pl=0
  ·exact il g1
  ·by_cases g2:¬kind=2/\¬data.size=0
   ·exact ir g2
   ·exfalso
    apply h;unfold dy;rw[aaP oM,aaP oM,aaP oM]
 clear h;have IN:kind=1\/kind=2\/kind=3:=oM
 rcases IN with rfl|rfl|rfl
 ·have hd:data.toList.isEmpty=false:=by
   have:¬data.size=0:=oM;rw[afm]
   cases data with
   |mk a =>
    cases a with
    |mk l=>cases l with
     |nil=>exact absurd rfl this
     |cons x l=>rfl
  clear hz k1 k2 e1 e2;go_enter func50,ntmps50;go_wp2;go_ret;exact⟨rfl,rfl⟩
 ·exfalso;omega
 ·by_cases p4:pl=0
  ·subst p4;have hd:data.toList.isEmpty=false:=by
    have:¬data.size=0:=oM;rw[afm]
    cases data with
    |mk a =>
     cases a with
     |mk l=>cases l with
      |nil=>exact absurd rfl this
      |cons x l=>rfl
   clear hz k1 k2 e1 e2 p1 p2;go_enter func50,ntmps50;go_wp2;go_ret;exact⟨rfl,rfl⟩
  ·have p5:(pl != 0)=true:=by rw[afg];exact p4
   clear hz k1 k2 e1 e2;go_enter func50,ntmps50;go_wp2;go_ret;exact⟨rfl,rfl⟩
theorem aan(s:Nat)(p:Sk)(A:Rs)(w:World)(h:bN s p A w)(c kind pl:Int)(data:ByteArray)(h0:¬dy c kind pl data=0) :
 Calls prog 50 #[.pointer (some ⟨s,0,none⟩),i6 c,i6 kind,i6 pl,.string data] w fun e w'=>e=.returned (i6 (dy c kind pl data))/\ed 0 s p A w w' p.nf:=by
 by_cases h1:¬(0<=c/\c<3)\/¬(1<=kind/\kind<=3)
 ·have e:dy c kind pl data=3:=by unfold dy;rw[aaV h1]
  rw[e];refine cM (QM s w c kind pl data h1) ?_;intro w' rfl;exact⟨rfl,p,A,bH.cX h (aX _ _),rfl,aaO _⟩
 ·have e:dy c kind pl data=1:=by
   unfold dy at h0 ⊢;rw[aaP h1] at h0 ⊢
   split
   ·rfl
   ·rename_i h2
    rw[aaP h2] at h0
    split
    ·rfl
    ·rename_i h3
     rw[aaP h3] at h0;exact absurd rfl h0
  have h2:0<=c/\c<3:=oM;have h3:1<=kind/\kind<=3:=oM;refine(Xo s w c kind pl data h2 h3 h0).mono ?_;rintro x w' ⟨rfl,rfl⟩;exact⟨by rw[e],p,A,bH.cX h (aX _ _),rfl,aaO _⟩
structure EH(kind pl:Int)(data:ByteArray):Prop where
 kd:kind=1\/kind=2\/kind=3
 p0:0<=pl
 p1:pl<=31
 sz:data.size<=4
 sy:kind=3->pl=0
 em:¬kind=2->data=⟨#[]⟩
theorem VQ{c kind pl:Int}{data:ByteArray}(h:dy c kind pl data=0):(0<=c/\c<3)/\EH kind pl data:=by
 have hz:=mu h;obtain⟨z1,z2,z3,z4,z5,z6⟩:=hz;refine⟨z1,oM,z3.1,z3.2,z5,z4,fun hk=>?_⟩;have:=z6 hk
 cases data with
 |mk a =>
  cases a with
  |mk l=>cases l with
   |nil=>rfl
   |cons x l=>exact absurd this (by simp[ByteArray.size])
theorem UA(s:Nat)(p:Sk)(A:Rs)(w:World)(h:bN s p A w)(i:Nat)(hi:i<3)(kind pl:Int)(data:ByteArray)(ho:EH kind pl data)(hb:¬(p.ao i).kind=0) :
 Calls prog 50 #[.pointer (some ⟨s,0,none⟩),i6 i,i6 kind,i6 pl,.string data] w fun e w'=>e=.returned (i6 6)/\w'=w:=by
 have fE:=(h.fE hi).1;have hl:=h.lt;unfold tU at fE
 cases fC:A.ka i with
 |none=>exact absurd (h.mem.idle i hi fC) hb
 |some k =>
  rw[fC] at fE;simp only[afl] at fE;obtain⟨kd,p0,p1,sz,sy,em⟩:=ho;have d0:(0:Int)<=(i:Int):=oM;have d3:(i:Int)<3:=oM;have d1:¬(i:Int)<0:=oM;have d2:¬2<(i:Int):=oM;have p2:¬pl<0:=oM;have p3:¬31<pl:=oM;have p4:¬(4:Int)<(data.size:Int):=oM;clear h hb fC
  rcases kd with rfl|rfl|rfl
  ·obtain rfl:=em dM;clear sy em sz p4;go_enter func50,ntmps50;go_wp2;go_ret;exact⟨rfl,rfl⟩
  ·clear sy em;go_enter func50,ntmps50;go_wp2;go_ret;exact⟨rfl,rfl⟩
  ·obtain rfl:=em dM;obtain rfl:=sy rfl;clear sy em sz p4;go_enter func50,ntmps50;go_wp2;go_ret;exact⟨rfl,rfl⟩
end Go.Proofs.YtlhgjplipgandaaGreatDoor
