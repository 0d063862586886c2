/- Joined texts: REnd4. -/
import Derived.Test.YtlhgjplipgandaaGreatB36
set_option maxRecDepth 100000
set_option maxHeartbeats 8000000
set_option linter.unusedSimpArgs false
namespace Go.Proofs.YtlhgjplipgandaaGreat
open Go.RowKit Go.BigFrame Go.Maps
attribute [local go_sem] ze.cell ze.frozen
theorem zpA{p:Sk}(hI:Inv p)(hT:zJ p){x:Bf}(hp:zbo p.hand x p.held=none):False:=by
 obtain⟨_,h8,hy⟩:=zo2 hI.hand hp;have hd:∀y∈p.hand,y.dirty=true:=fun y hy'=>by
  cases e:y.dirty
  ·have hh:=hy y hy' e;have hpl:=(hI.hand.in' y hy').2.1
   cases e2:p.all.any fun r=>zam r.f r.m y.pl
   ·have:p.held y.pl=false:=e2;rw[this] at hh;cases hh
   ·obtain⟨r,hr,hx⟩:=List.any_eq_true.1 e2;have hon:=(zku (hI.good r hr) y.pl (by omega)).1 hx;have:=(hT r hr y.pl hon).1 y (zdi hI.hand.rise hy');rw[e] at this;cases this
  ·rfl
 have:zN p.hand=8:=by
  unfold zN;rw[List.filter_eq_self.2 hd,h8]
 have:=hI.d6
 omega
theorem zlT{p:Sk}(h:zJ p.nf):zJ p:=fun r hr a ho=>h r.nf (by
 show r.nf∈p.nf.queue++p.nf.dev.busy;rw[zeO];exact List.mem_map_of_mem hr) a ho
theorem zof{p:Sk}(hI:Inv p)(hT:zJ p.nf)(hS:zar p.dev){k:Nat}{r:Rq}(hk:p.dev.busy[k]?=some r)(j:Nat)(hj:j≤r.m.toNat):zJ (((p.took k).did r).nf.wentTo r (zX p.dev r) j):=by
 have hlt:=(List.getElem?_eq_some_iff.1 hk).1;have hb:=zfv hk;rw[Int.toNat_natCast] at hb;obtain⟨hk',e⟩:=List.getElem?_eq_some_iff.1 hb;have gr:=hI.good r (List.mem_append_right _ (List.mem_of_getElem? hk));have h1:zJ ((p.nf.took k).did r.nf):=hT.congr rfl (fun r' hr=>by rw[zg8] at hr;exact zfS k r' hr);have hf:zgW ((p.nf.took k).did r.nf) r.nf:=by
  have:=ziJ hI.nf hk';rw[e] at this;unfold zgW at this ⊢;rw[zg8];exact this
 have:=zJ.wentTo ((hI.nf.took k).did r.nf) h1 r.nf ((zjb r).2 gr) hf (zX p.dev r) (zbN hS r) j hj;rw[zoP,zfy,zkU] at this;exact this
theorem zlf{p:Sk}{pl:Int}{s:ByteArray}{b:Bf}(h:zaH p.hand pl=some b):p.wasRead pl s=p:=by
 unfold Sk.wasRead;rw[h]
theorem zl0{p:Sk}{pl:Int}{s:ByteArray}{l:List Bf}(h:zaH p.hand pl=none)(hp:zbo p.hand ⟨pl,s,false,p.uses+1⟩ p.held=some l):p.nf.wasRead pl s=({ p with hand:=l,uses:=p.uses+1 }:Sk).nf.readers (fun x=>x==pl) s 0:=by
 have e4:p.nf.held=p.held:=funext (zdP p);unfold Sk.wasRead;rw[e4];rw[show p.nf.hand=p.hand from rfl,h];simp only;rw[show p.nf.uses=p.uses from rfl,hp]
 rfl
theorem zpi(s:Nat)(p:Sk)(A:Rs)(w:World)(h:zH s p A w)(hI:Inv p)(hL:zp p)(hTi:zJ p.nf)(hS:zar p.dev)(hT:p.tags≤3999999999999999980)(hU:p.uses≤3999999999999999980)(hA:A.cnt≤240000)(k:Nat)(r:Rq)(hk:p.dev.busy[k]?=some r)(hw:r.wr=false)(q:Sk)(hq:(((p.took k).did r).nf.wentWell r (zX p.dev r)).serve=q) :
  Calls Tryz.prog 28 #[.pointer (some ⟨s,0,none⟩),.int .i64 k,.bool false] w fun e w'=>e=.returned (.int .i64 0)∧KOk 1 s p A w w' q:=by
 have c1:=h.cell 1 _ rfl;have hl:=h.lt;have HST:=za h;have hmem:r∈p.dev.busy:=List.mem_of_getElem? hk;have HG:=za (hI.good r (List.mem_append_right _ hmem));have HV:=za (h.rvreq hI (by omega) hk);have HI1:=za ((hI.took k).did r);have HL1:Hid (zp ((p.took k).did r)):=hL;have HQ:=za hq;have HB:=za (And.intro hT hU);have HSH:=za (zbN hS r);have HAT:=za (h.busyAt hmem);have HOF:=za (h.mem.roff r (List.mem_append_right _ hmem));have HN:Hid (A.n≤1000000000):=(by have:=h.mem.nb;show _≤_;omega);have HW4:Hid (A.m.waits.length≤1000000):=(by have:=h.mem.wb;show _≤_;omega)
 have HTW:Hid (∀j,j≤r.m.toNat→zJ (((p.took k).did r).nf.wentTo r (zX p.dev r) j)):=fun j hj=>zof hI hTi hS hk j hj
 clear h hI hT hU hk hq hmem hS hL hA hTi;go_enter Tryz.func28,Tryz.ntmps28;go_wp2_with fail;refine(rv_ok A.v A.b A.bm A.m A.ra A.n A.D k r _ w HST.out.mem.drv HV.out HG.out HW4.out HN.out).mono ?_;rintro e w1 ⟨a',xa,xc,xs,rfl,hxs,hx1,hx2,hv⟩;have HXS:Hid (xs=zX p.dev r):=(hxs.out.trans (zgh HST.out.mem.tied r).symm);have HX1:=za hx1;have HX2:=za hx2;have HFT:=za (zkQ (s:=s) (c':=A.cnt+1) hv);have HR1:Hid (r.At w1):=HAT.out.frame ⟨fun he ad ha e=>HOF.out.1 he ad ha (Or.inl (Or.inr (Or.inl e))),fun he ad ha e=>HOF.out.2 he ad ha (Or.inl (Or.inr (Or.inl e)))⟩ hv.only;have HS1:=za (HST.out.wentAt HG.out hv (by have:=HST.out.mem.nb;omega) (HST.out.mem.map.put HST.out.mem.im (r.tags.getD 0 0) 0));have HFL:Hid (∀j,({ A with m:=(({ A.m with busy:=A.m.busy.eraseIdx k }:Rd).did r),ra:=a',n:=A.n+1,D:=A.D.put (.int .i64 (r.tags.getD 0 0)) (.lit (.int .i64 0)),cnt:=A.cnt+1 }:Rs).foot s j→j<w1.heap.size):=fun j hj=>HS1.out.at'.footLt j hj
 have HXO:Hid (∀ad,xa=some ad→¬({ A with m:=(({ A.m with busy:=A.m.busy.eraseIdx k }:Rd).did r),ra:=a',n:=A.n+1,D:=A.D.put (.int .i64 (r.tags.getD 0 0)) (.lit (.int .i64 0)),cnt:=A.cnt+1 }:Rs).foot s ad.block):=by
  rintro ad had (e|e|⟨i,hi,e⟩)
  ·have:=(HX2.out ad had).1;have:=HST.out.lt;omega
  ·exact(HX2.out ad had).2 e
  ·have:=(HX2.out ad had).1;have:=HST.out.mem.askLt hi e;omega
 have HXL:Hid (xs.length=r.m.toNat):=by show _=_;rw[HXS.out];unfold zX;rw[hw];exact zeh _ _ _
 clear hxs hx1 hx2 hv;generalize hxl:xs.length=xm at *;have HXM:=za hxl;clear hxl;obtain⟨A1,hA1⟩:∃A1:Rs,A1={ A with m:=(({ A.m with busy:=A.m.busy.eraseIdx k }:Rd).did r),ra:=a',n:=A.n+1,D:=A.D.put (.int .i64 (r.tags.getD 0 0)) (.lit (.int .i64 0)),cnt:=A.cnt+1 }:=⟨_,rfl⟩
 have HC1:Hid (A1.cnt≤A.cnt+1):=by show A1.cnt≤_;rw[hA1];exact Nat.le_refl _
 rw[←hA1] at HS1 HFL HXO;clear hA1 HFT HST HV HAT HOF HN HW4 HR1 HX2;have HZ0:=za (zE.same' HS1.out.at' (Below.refl _ _));go_upto_region 2 with(refine zP rfl (.tmp 7) (.tmp 28) rfl w1.heap.size r xa xm xc 0 rfl rfl (zT (zaE w1 120)) (fun wK=>zE s _ A1 _ A1 w1 wK∧zal wK w1.heap.size r xa xm xc 0) (zjd HZ0.out r xa xm xc 0) ?_;rintro wK ⟨hsK,hrK⟩;have HSK:=za hsK;have HRK:=za hrK;obtain⟨⟨y0,y1,y2,y3,y4,y5,y6,y7⟩,-,yl⟩:=hrK;have lsK:=hsK.at'.lt;clear hsK HZ0)
 have HC0:Hid (RdB s ((p.took k).did r) A1 w1 w1.heap.size r xa xm xc 0 ((p.took k).did r).nf wK ((p.took k).did r) A1):=⟨HSK.out,rfl,Nat.le_refl _,HRK.out.1,Nat.le_refl _,fun e=>by have:=HFL.out _ e;omega⟩
 clear HSK HRK;obtain⟨M,hM⟩:∃M:Nat,r.m=M:=⟨r.m.toNat,by have:=HG.out.bds;omega⟩
 have HM:=za hM;rw[hM] at y2;have hb4:=HG.out.bds;rw[hM] at hb4;have HXMM:Hid (xm=M):=by have:=HXL.out;show xm=M;omega
 rw[hw] at y0;have HGG:Hid (w1.heap.size=w1.heap.size):=rfl;clear HGG;generalize w1.heap.size=g at *;go_upto_region 15 with fail
 go_loopw[12] (fun x wr=>∃(j:Nat) (p2:Sk) (A2:Rs),j≤M∧x=.int .i64 j∧RdB s ((p.took k).did r) A1 w1 g r xa xm xc 0 (((p.took k).did r).nf.wentTo r (zX p.dev r) j) wr p2 A2) (fun x _=>M-(intOf x).toNat)
 case atStart=>exact⟨0,_,A1,by omega,rfl,HC0.out⟩
 case round =>
  clear y0 y1 y2 y3 y4 y5 y6 y7 yl lsK;obtain⟨j,p2,A2,hj,rfl,hr⟩:=hrel;have HR:=za hr;obtain⟨b0,b1,b2,-,-,-,b6,-⟩:=id hr.box;rw[hw] at b0;rw[hM] at b2;have lg:=zg b0;have l2:=hr.st.at'.lt;have hmil:=zcI ((p.took k).did r).nf r (zX p.dev r) j;rw[←hr.nf] at hmil;have hU2:p2.uses≤p.uses+j:=hmil.uses;have hT2:p2.tags≤p.tags+j:=hmil.tags;have HB2:Hid (p2.tags≤3999999999999999990∧p2.uses≤3999999999999999990):=by
   have:=HB.out;exact⟨by omega,by omega⟩
  have HIN:Hid (Inv p2):=by
   have h1:=HI1.out.nf.wentTo r HG.out (zX p.dev r) HSH.out j (by have:=HM.out;omega);rw[←hr.nf] at h1;exact h1.of_nf
  clear hmil hU2 hT2
  by_cases hlt:j<M
  ·have hlt':(j:Int)<(M:Int):=by omega
   have hj0:(0:Int)≤(j:Int):=by omega
   have hwr:IntKind.i64.wrap (r.f+(j:Int))=r.f+(j:Int):=by rw[IntKind.wrap_i64];omega
   have hwu:IntKind.i64.wrap (p2.uses+1)=p2.uses+1:=by have:=HIN.out.us;have:=HB2.out.2;rw[IntKind.wrap_i64];omega
   have HPL:Hid (0≤r.f+(j:Int)∧r.f+(j:Int)≤31):=⟨by omega,by omega⟩
   have hst:=za2 HX1.out hr.st.only (fun _ ad e=>HXO.out ad e);have hjd:j<xs.length:=by rw[HXM.out,HXMM.out];exact hlt
   have hjd':(j:Int)<(xm:Int):=by have:=HXMM.out;omega
   obtain⟨db,do',hda⟩:∃b o,xa=some ⟨b,o,none⟩:=by
    rcases hst.form with e|h'
    ·rw[e] at hjd;exact absurd hjd (Nat.not_lt_zero _)
    ·exact h'
   rw[hda] at hst b6;have e0:=hst.at hjd;obtain⟨dt,hdt⟩:∃dt,xs[j]=dt:=⟨_,rfl⟩
   rw[hdt] at e0;have HDT:Hid ((zX p.dev r).getD j ByteArray.empty=dt):=by
    show _=_;rw[←HXS.out,List.getD_eq_getElem?_getD,List.getElem?_eq_getElem hjd,Option.getD_some];exact hdt
   have HD4:Hid (dt.size≤4):=by have:=HSH.out j;rw[HDT.out] at this;exact this
   have HWN:Hid (((p.took k).did r).nf.wentTo r (zX p.dev r) (j+1)=p2.nf.wasRead (r.f+(j:Int)) dt):=by
    show _=_;rw[zbp,←hr.nf];unfold Sk.wentOne;rw[if_neg (by rw[hw];exact Bool.false_ne_true),HDT.out]
   have HTI:Hid (zJ p2):=by
    have h1:=HTW.out j (by have:=HM.out;omega);rw[←hr.nf] at h1;exact zlT h1
   have HDB:Hid (xa=some ⟨db,do',none⟩):=hda;have HXJ:Hid (∀h:j<xs.length,xs[j]=dt):=fun _=>hdt
   have HJX:=za hjd;clear hst hdt hda hjd;have c2:=hr.st.at'.cell 2 _ rfl;have HST2:=za hr.st.at';have H8:=za HIN.out.hand.len;clear hr
   rcases zaV p2.hand (r.f+(j:Int)) with⟨hg,hix⟩|⟨jj,hjj,hg,hix,hjp⟩
   ·as_aux_lemma =>
    have HGN:=za hg;have HIX:=za hix;clear hg hix;go_wp2_with fail;refine(zeC p2.hand A2.ha A2.hc (r.f+(j:Int)) _ HST2.out.mem.hand HIX.out).mono ?_;rintro e w4 ⟨rfl,hb4'⟩;have HST4:=za (zE.same' HST2.out hb4');have c9:=HST4.out.at'.cell 9 _ rfl;have f9:=HST4.out.at'.fz 9;have l4:=HST4.out.at'.lt;have e04:=cellB_later' hb4' e0;have b64:=cellB_later' hb4' b6;clear hb4' c2 b0 b1 b2 b6 e0 lg l2;go_upto_region 23 with fail;refine zai (fun wv=>zE s p2 A2 { p2 with uses:=p2.uses+1 } A2 wr wv) (by first|exact(HST4.out.later (zn w4 _)).trans ((HST4.out.later (zn w4 _)).at'.setUses (p2.uses+1))|exact(HST4.out.trans (HST4.out.at'.setUses (p2.uses+1))).later (zn _ _)) ?_;intro wv hsv;have HSV:=za hsv;have HRV:=za (HR.out.step hsv rfl (Nat.le_refl _));obtain⟨-,-,-,-,-,-,b6v,-⟩:=id HRV.out.box;have hstv:=za2 HX1.out HRV.out.st.only (fun _ ad e=>HXO.out ad e);rw[HDB.out] at b6v hstv;have e0v:=hstv.at HJX.out;rw[HXJ.out HJX.out] at e0v;have v2:=hsv.at'.cell 2 _ rfl;have v9:=hsv.at'.cell 9 _ rfl;have lv:=hsv.at'.lt;have HIU:Hid (Inv { p2 with uses:=p2.uses+1 }):=HIN.out.setHand p2.hand (p2.uses+1) HIN.out.hand HIN.out.d6 (by have:=HIN.out.us;omega);clear hsv hstv c9 f9 l4 e04 b64
    cases hput:zbo p2.hand ⟨r.f+(j:Int),dt,false,p2.uses+1⟩ p2.held with
    |none=>exact absurd (zpA HIN.out HTI.out hput) id
    |some l =>
     have HPUT:=za hput;have HWP:=za (HWN.out.trans (zl0 HGN.out hput));clear hput;obtain⟨X,hX⟩:∃X:Sk,X={ p2 with uses:=p2.uses+1,hand:=l }:=⟨_,rfl⟩
     have HXX:=za hX;clear hX
     go_region_held3 (fun w'=>w'.cell? ⟨s,2,none⟩=some (.slice A2.ha p2.hand.length A2.hc)∧w'.cell? ⟨s,9,none⟩=some (.int .i64 (p2.uses+1))∧w'.cell? ⟨g,6,none⟩=some (.slice (some ⟨db,do',none⟩) xm xc)∧w'.cell? ⟨db,do'+j,none⟩=some (.string dt)) (exact⟨cellB_later' (w:=wv) (by(with_reducible repeat first|exact Below.refl _ _|refine zc ?_ _|refine zd ?_|refine bset' ?_ (by omega) _|refine zb ?_ (by assumption))) v2,cellB_later' (w:=wv) (by(with_reducible repeat first|exact Below.refl _ _|refine zc ?_ _|refine zd ?_|refine bset' ?_ (by omega) _|refine zb ?_ (by assumption))) v9,cellB_later' (w:=wv) (by(with_reducible repeat first|exact Below.refl _ _|refine zc ?_ _|refine zd ?_|refine bset' ?_ (by omega) _|refine zb ?_ (by assumption))) b6v,cellB_later' (w:=wv) (by(with_reducible repeat first|exact Below.refl _ _|refine zc ?_ _|refine zd ?_|refine bset' ?_ (by omega) _|refine zb ?_ (by assumption))) e0v⟩) (first|(go_at_call 52;refine(zdt s { p2 with uses:=p2.uses+1 } A2 _ (HSV.out.at'.later (by(with_reducible repeat first|exact Below.refl _ _|refine zc ?_ _|refine zd ?_|refine bset' ?_ (by omega) _|refine zb ?_ (by assumption)))) HIU.out).mono ?_;rintro e wH ⟨rfl,hbH⟩)|(go_at_call 69;refine(zj2 { p2 with uses:=p2.uses+1 } A2.ha A2.hc _ HIU.out (HSV.out.at'.mem.hand.later (by(with_reducible repeat first|exact Below.refl _ _|refine zc ?_ _|refine zd ?_|refine bset' ?_ (by omega) _|refine zb ?_ (by assumption)))) ⟨r.f+(j:Int),dt,false,p2.uses+1⟩ l HPUT.out).mono ?_;rintro e wP ⟨a2,c2',rfl,u1,u2,hbP⟩))
     all_goals
      have HBP:Hid (Below wv.heap.size wv wP):=(by show Below wv.heap.size wv wP;(with_reducible repeat first|exact Below.refl _ _|refine zc ?_ _|refine zd ?_|refine bset' ?_ (by omega) _|refine zb ?_ (by assumption)))
      have HSP:=za (HSV.out.later HBP.out);have hge:wv.heap.size≤wH.heap.size:=(show Below wv.heap.size wv wH by(with_reducible repeat first|exact Below.refl _ _|refine zc ?_ _|refine zd ?_|refine bset' ?_ (by omega) _|refine zb ?_ (by assumption))).size;have HSH0:Hid (zE s p2 A2 X { A2 with ha:=a2,hc:=c2' } wr (wP.setCell ⟨s,2,none⟩ (.slice a2 l.length c2'))):=by
       show zE _ _ _ _ _ _ _;rw[HXX.out];exact HSP.out.trans (HSP.out.at'.setHand l a2 c2' u1 u2.2.1 u2.1 (fun _ q' hq' e=>by have h9:=u2.2.2 q' hq';have:=HSV.out.at'.offLt _ e;(try simp only[World.drew] at h9);omega))
      have HRX:Hid (RdB s ((p.took k).did r) A1 w1 g r xa xm xc 0 (X.nf.readersTo (fun y=>y==r.f+(j:Int)) dt 0 0) (wP.setCell ⟨s,2,none⟩ (.slice a2 l.length c2')) X { A2 with ha:=a2,hc:=c2' }):=HR.out.step HSH0.out rfl (Nat.le_refl _);have x2:=HSP.out.at'.cell 2 _ rfl;have z2:=HSP.out.at'.fz 2;have lp:=HSP.out.at'.lt;have HIX2:Hid (Inv X):=by
       show Inv X;rw[HXX.out];have P:=zd6 HIN.out.hand HPUT.out;exact HIN.out.setHand l (p2.uses+1) (P.ok ⟨HPL.out.1,HPL.out.2,HD4.out⟩) (by have h1:=P.dirty;simp only[Bool.false_eq_true,if_false] at h1;have:=HIN.out.d6;omega) (by have:=HIN.out.us;omega)
      have HXW:Hid (((p.took k).did r).nf.wentTo r (zX p.dev r) (j+1)=X.nf.readers (fun y=>y==r.f+(j:Int)) dt 0):=by show _=_;rw[HXX.out];exact HWP.out
      clear hbP v2 v9 b6v e0v u1 u2 hbH hge HSP HBP HSH0 HRV HSV lv HIU HST4;go_wp2
      go_loopw[18] (fun x wx=>∃(i:Nat) (p3:Sk) (A3:Rs),i≤3∧x=.int .i64 i∧RdB s ((p.took k).did r) A1 w1 g r xa xm xc 0 (X.nf.readersTo (fun y=>y==r.f+(j:Int)) dt 0 i) wx p3 A3) (fun x _=>3-(intOf x).toNat)
      case atStart=>exact⟨0,_,_,by omega,rfl,HRX.out⟩
      case round =>
       clear x2 z2 lp HRX;obtain⟨i,p3,A3,hi,rfl,hr⟩:=hrel;have HR3:=za hr;obtain⟨b0,-,-,-,-,-,b6,-⟩:=id hr.box;rw[hw] at b0;have hst:=za2 HX1.out hr.st.only (fun _ ad e=>HXO.out ad e);rw[HDB.out] at b6 hst;have e0:=hst.at HJX.out;rw[HXJ.out HJX.out] at e0;have lg:=zg b0;have l2:=hr.st.at'.lt;clear hst
       by_cases hi3:i<3
       ·as_aux_lemma =>
        have hi0:(0:Int)≤(i:Int):=by omega
        have hi3':(i:Int)<3:=by omega
        have c11:=(hr.st.at'.c11 hi3).1;unfold zdv at c11;have HE:Hid (p3.nf.readers1 (fun y=>y==r.f+(j:Int)) dt 0 i=if(p3.client i).kind=1∧((p3.client i).pl==r.f+(j:Int))=true then p3.nf.answer i dt 0 else p3.nf):=za rfl;have HRT:Hid (X.nf.readersTo (fun y=>y==r.f+(j:Int)) dt 0 (i+1)=p3.nf.readers1 (fun y=>y==r.f+(j:Int)) dt 0 i):=by show _=_;rw[Sk.readersTo,←hr.nf]
        cases hka:A3.ka i with
        |none =>
         rw[hka] at c11;simp only[Option.map_none] at c11;have HK0:=za (hr.st.at'.mem.idle i hi3 hka);have HN2:Hid (RdB s ((p.took k).did r) A1 w1 g r xa xm xc 0 (X.nf.readersTo (fun y=>y==r.f+(j:Int)) dt 0 (i+1)) wr p3 A3):=⟨hr.st,by rw[HRT.out,HE.out,if_neg (fun e=>by rw[HK0.out] at e;cases e.1)],hr.cnt,hr.box,hr.new,hr.off⟩
         clear hr hka;go_wp2;go_roundw
         case rel=>exact⟨i+1,p3,A3,by omega,by go_num,HN2.out⟩
         case measure=>simp[intOf];omega
        |some ak =>
         rw[hka] at c11;simp only[Option.map_some] at c11;have hask:=hr.st.at'.mem.asks i hi3 ak hka;obtain⟨k0,k1,-,-,-,klt⟩:=hask.cells;have hcl:0≤(p3.client i).kind∧(p3.client i).kind≤3:=by
          have h1:=zdd HIX2.out.nf (fun y=>y==r.f+(j:Int)) dt 0 i;rw[←hr.nf] at h1;exact(h1.of_nf.client i).kind
         have hkn:=hask.kind;obtain⟨kd,hkd⟩:∃kd,(p3.client i).kind=kd:=⟨_,rfl⟩
         obtain⟨pl,hpl⟩:∃pl,(p3.client i).pl=pl:=⟨_,rfl⟩
         rw[hkd] at k0 hcl hkn;rw[hpl] at k1;rw[hkd,hpl] at HE;clear hask hka hkd hpl;obtain⟨hc1,hc2⟩:=hcl
         by_cases h1:kd=1
         ·subst h1;clear hc1 hc2 hkn
          cases hbb:(pl==r.f+(j:Int))
          ·have HN2:Hid (RdB s ((p.took k).did r) A1 w1 g r xa xm xc 0 (X.nf.readersTo (fun y=>y==r.f+(j:Int)) dt 0 (i+1)) wr p3 A3):=⟨hr.st,by rw[HRT.out,HE.out,if_neg (fun e=>by rw[hbb] at e;cases e.2)],hr.cnt,hr.box,hr.new,hr.off⟩
           have hne:¬pl=r.f+(j:Int):=beq_eq_false_iff_ne.1 hbb;clear hr;go_wp2;go_roundw
           case rel=>exact⟨i+1,p3,A3,by omega,by go_num,HN2.out⟩
           case measure=>simp[intOf];omega
          ·have HBB:=za hbb;have HST3:=za hr.st.at';clear hr;go_wp2_with fail;refine(zcE s p3 A3 _ HST3.out i hi3 dt 0).mono ?_;rintro e w7 ⟨rfl,hs7⟩;have HN2:Hid (RdB s ((p.took k).did r) A1 w1 g r xa xm xc 0 (X.nf.readersTo (fun y=>y==r.f+(j:Int)) dt 0 (i+1)) w7 (p3.answer i dt 0) { A3 with ka:=upd A3.ka i none }):=HR3.out.step hs7 (by rw[HRT.out,HE.out,if_pos (by first|exact⟨rfl,HBB.out⟩|exact⟨trivial,HBB.out⟩)];rfl) (Nat.le_refl _);clear hs7;go_wp2;go_roundw
           case rel=>exact⟨i+1,_,_,by omega,by go_num,HN2.out⟩
           case measure=>simp[intOf];omega
         ·have HN2:Hid (RdB s ((p.took k).did r) A1 w1 g r xa xm xc 0 (X.nf.readersTo (fun y=>y==r.f+(j:Int)) dt 0 (i+1)) wr p3 A3):=⟨hr.st,by rw[HRT.out,HE.out,if_neg (fun e=>h1 e.1)],hr.cnt,hr.box,hr.new,hr.off⟩
          have h4:kd=2∨kd=3:=by omega
          clear hr h1 hc1 hc2 hkn
          rcases h4 with rfl|rfl
          ·go_wp2;go_roundw
           case rel=>exact⟨i+1,p3,A3,by omega,by go_num,HN2.out⟩
           case measure=>simp[intOf];omega
          ·go_wp2;go_roundw
           case rel=>exact⟨i+1,p3,A3,by omega,by go_num,HN2.out⟩
           case measure=>simp[intOf];omega
       ·as_aux_lemma =>
        obtain rfl:i=3:=by omega
        have HN2:Hid (RdB s ((p.took k).did r) A1 w1 g r xa xm xc 0 (((p.took k).did r).nf.wentTo r (zX p.dev r) (j+1)) wr p3 A3):=⟨hr.st,by rw[hr.nf,zfU X.nf HIX2.out.cl3,HXW.out],hr.cnt,hr.box,hr.new,hr.off⟩
        clear hr b0 b6 e0;go_wp2;go_roundw
        case rel=>exact⟨j+1,p3,A3,by omega,by go_num,HN2.out⟩
        case measure=>simp[intOf];omega
   ·as_aux_lemma =>
    have HN2:Hid (RdB s ((p.took k).did r) A1 w1 g r xa xm xc 0 (((p.took k).did r).nf.wentTo r (zX p.dev r) (j+1)) wr p2 A2):=⟨HR.out.st,by rw[HWN.out,zlf (show zaH p2.nf.hand _=_ from hg)],HR.out.cnt,HR.out.box,HR.out.new,HR.out.off⟩
    have HIX:=za hix;clear hg hix hjp;obtain⟨bx,hbx⟩:∃bx,p2.hand[jj]=bx:=⟨_,rfl⟩
    have HCL:=zeI p2.hand A2.ha A2.hc (r.f+(j:Int)) wr HST2.out.mem.hand jj hjj HIX.out;rw[hbx] at HCL;have HC:=za HCL;clear hbx HCL;obtain⟨bpl,bdata,bdirty,bused⟩:=bx;go_wp2_with fail;refine HC.out.mono ?_;rintro e w4 ⟨rfl,hb4'⟩;have HN4:=za (HN2.out.later hb4');clear hb4' c2 b0 b1 b2 b6 e0 lg l2 HC;go_wp2;go_roundw
    case rel=>exact⟨j+1,p2,A2,by omega,by go_num,HN4.out.later (by(with_reducible repeat first|exact Below.refl _ _|refine zc ?_ _|refine zd ?_|refine bset' ?_ (by omega) _|refine zb ?_ (by assumption)))⟩
    case measure=>simp[intOf];omega
  ·as_aux_lemma =>
   obtain rfl:j=M:=by omega
   have hnf:=hr.nf;have hje:j=r.m.toNat:=by have:=HM.out;omega
   have HLN:Hid (zp p2):=by
    have h1:=HL1.out.nf.wentTo r (zX p.dev r) j;rw[←hnf] at h1;exact h1.of_nf
   have HQ2:Hid (p2.nf.serve=q):=by
    show p2.nf.serve=q;rw[hnf,hje];exact HQ.out
   clear hr hnf hje;go_wp2_with fail;refine(zcu s p2 A2 _ HR.out.st.at' HIN.out HLN.out HB2.out.1 HB2.out.2 q HQ2.out).mono ?_;rintro e w4 ⟨rfl,hok⟩;have HO:Hid (KOk 1 s p A w w4 q):=KOk.before (c':=0) HS1.out HC1.out (KOk.before (c:=0) HR.out.st HR.out.cnt hok (Nat.le_refl _)) (Nat.le_refl _);clear hok b0 b1 b2 b6;go_wp2;go_ret;exact⟨rfl,HO.out⟩
end Go.Proofs.YtlhgjplipgandaaGreat
