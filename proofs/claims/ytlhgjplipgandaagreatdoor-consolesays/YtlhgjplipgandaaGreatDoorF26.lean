/- Joined. -/
import Derived.Test.YtlhgjplipgandaaGreatDoorF25
set_option maxRecDepth 100000
set_option maxHeartbeats 8000000
set_option linter.unusedSimpArgs false
set_option linter.unusedSectionVars false
namespace Go.Proofs.YtlhgjplipgandaaGreatDoor
open Tryz
section
open Go.RowKit Go.BigFrame Go.Maps
theorem O2{pl x:Int}(bV:0<=pl/\pl<=31)(hx:x<=31):(x==pl)=dO pl 1 x:=by
 rw[vV pl 1 4 x (by simp only[gK,aba];omega) oM,ac0];simp only[ac3,gU,aba]
 omega
theorem NB{p:Sk}(hI:bg p){pl:Int}(bV:0<=pl/\pl<=31)(s:ByteArray)(e:Int):p.cO (fun x=>x==pl) s e=p.cO (dO pl 1) s e :=
 Bd p _ _ s e (fun c hc hk=>O2 bV ((hI.oE c hc).pl (by rw[hk];omega)).2)
theorem Ry(s:Nat)(p:Sk)(A:Sa)(w:World)(h:bp s p A w)(pl:Int)(data:ByteArray)(k:Nat)(hk:k<p.hand.length)(gA:ej (eP pl) p.hand=k) :
 Calls prog 137 #[.pointer (some ⟨s,0,none⟩),i6 pl,.string data] w fun e w'=>e=.returned (.tuple #[])/\fL s p A w w' p.nf:=by
 have c20:=h.cell 20 _ rfl;have hl:=h.lt;have aL:=ae h;have sr:=ae gA;clear h gA;go_enter func137,ntmps137;go_wp2_with fail;refine cM (zr p.hand A.ha A.hc pl _ (aL.out.mem.hand.later bQ) k hk sr.out) ?_;intro w1 aw;go_wp2;refine aaY (v:=.tuple #[]) (by simp[results,results137,go_sem]) rfl ?_;exact⟨rfl,p,A,bK.cX aL.out bQ,rfl⟩
theorem bp.aed{s:Nat}{p:Sk}{A:Sa}{w:World}(h:bp s p A w)(l:List Bf)(a':Option Addr)(c':Nat)(u:Int)(hB:bA w a' l)(bS:l.length<=c')(cU:a'=none->c'=0)(ho:l ≠ []->∀q,a'=some q->¬A.off s q.block):bK s p A { p with hand:=l,az:=u } { A with ha:=a',hc:=c' } w ((w.setCell ⟨s,20,none⟩ (.slice a' l.length c')).setCell ⟨s,28,none⟩ (i6 u)) :=
 (h.fT l a' c' hB bS cU ho).trans ((h.fT l a' c' hB bS cU ho).at'.o6 u)
theorem Ol(s:Nat)(p:Sk)(A:Sa)(w:World)(h:bp s p A w)(hI:bg p)(hU:p.az<=4000000000000000000)(pl:Int)(bV:0<=pl/\pl<=31)(data:ByteArray)(kX:data.size<=4)(hg:fa p.hand pl=none)(q:Sk)(hq:p.nf.dJ pl data=q) :
 Calls prog 137 #[.pointer (some ⟨s,0,none⟩),i6 pl,.string data] w fun e w'=>e=.returned (.tuple #[])/\fL s p A w w' q:=by
 have e1:p.nf.dJ pl data=match jw p.hand ⟨pl,data,false,p.az+1⟩ (gT (p.queue++p.dev.busy)) with
  |some l=>({ p.nf with hand:=l,az:=p.az+1 }:Sk).cO (fun x=>x==pl) data 0
  |none=>p.nf.cO (fun x=>x==pl) data 0:=by
  rw[<-Eg];show(match fa p.hand pl with|some _=>_|none=>_)=_;rw[hg];rfl
 rw[e1] at hq;have sr:Hid (ej (eP pl) p.hand=-1):=by
  rcases gq p.hand pl with⟨_,h'⟩|⟨k,eH,h',_⟩
  ·exact h'
  ·rw[hg] at h';cases h'
 have oC:=ae bV;have HI:=ae hI;have HQ:=ae hq;have aL:=ae h;have h8:=hI.hand.len;have c20:=h.cell 20 _ rfl;have hl:=h.lt;have sW:IntKind.i64.wrap (p.az+1)=p.az+1:=by have:=hI.us;rw[abr];omega
 clear h hI bV hq e1 hg;go_enter func137,ntmps137;go_wp2_with fail;refine cM (Fe p.hand A.ha A.hc pl _ (aL.out.mem.hand.later bQ) sr.out) ?_;intro w1 aw;go_wp2_with fail;refine ei (fun wy=>bK s p A p A w wy) (bK.cX aL.out bQ) ?_;intro wy iU;have jY:=ae iU;have CE:=iU.at'.cell 20 _ rfl;have MO:=iU.at'.cell 28 _ rfl;have ly:=iU.at'.lt;clear iU aw c20 hl
 cases hP:jw p.hand ⟨pl,data,false,p.az+1⟩ (gT (p.queue++p.dev.busy)) with
 |none =>
  have HP:=ae hP;have mh:Hid (p.nf.cO (dO pl 1) data 0=q):=by
   have:=HQ.out;rw[hP] at this;rw[<-NB HI.out.nf oC.out];exact this
  clear hP HQ
  go_region_held3 (fun w'=>w'.cell? ⟨s,20,none⟩=some (.slice A.ha p.hand.length A.hc)/\w'.cell? ⟨s,28,none⟩=some (i6 p.az)) (exact⟨ai (w:=wy) bQ CE,ai (w:=wy) bQ MO⟩) (first|(go_at_call 80;refine(rK s p A _ (jY.out.at'.later bQ) (by have:=HI.out.q6;omega)).mono ?_;rintro e w3 ⟨hb,rfl,hH,bo⟩)|(go_at_call 161;refine(L5 hb (p.queue++p.dev.busy) p.hand A.ha A.hc ⟨pl,data,false,p.az+1⟩ _ (jY.out.at'.mem.hand.later bQ) jY.out.at'.mem.cU h8 (mB.later hH bQ) HP.out).mono ?_;rintro e w4 ⟨rfl,fk⟩))
  all_goals
   have gD:Hid (bK s p A p A w w4):=jY.out.later bQ;clear bo fk hH;go_wp2_with fail;have DM:=yT s p A _ gD.out.at' HI.out pl 1 data 0 q mh.out;rw[show dm 0=.nilIface from rfl] at DM;refine DM.mono ?_;clear DM;rintro e w5 ⟨rfl,hok⟩;have HO:=ae (fL.trans gD.out hok);clear hok;go_wp2;go_end0;exact⟨rfl,HO.out⟩
 |some l =>
  have HP:=ae hP;have P:=uW HI.out.hand hP;have mX:Hid (∀c∈p.cl,c.kind=1->c.pl<=31):=fun c hc hk=>((HI.out.oE c hc).pl (by rw[hk];omega)).2
  have mh:Hid (({ p with hand:=l,az:=p.az+1 }:Sk).nf.cO (dO pl 1) data 0=q):=by
   have:=HQ.out;rw[hP] at this;rw[<-this];exact(Bd ({ p with hand:=l,az:=p.az+1 }:Sk).nf (fun x=>x==pl) (dO pl 1) data 0 (fun c hc hk=>O2 oC.out (mX.out c hc hk))).symm
  have Bp:=ae (HI.out.fT l (p.az+1) (P.ok ⟨oC.out.1,oC.out.2,kX⟩) (by have h1:=P.bM;simp only[adi,afr] at h1;have:=HI.out.d6;omega) (by have:=HI.out.us;omega));clear hP HQ P
  go_region_held3 (fun w'=>w'.cell? ⟨s,20,none⟩=some (.slice A.ha p.hand.length A.hc)/\w'.cell? ⟨s,28,none⟩=some (i6 p.az)) (exact⟨ai (w:=wy) bQ CE,ai (w:=wy) bQ MO⟩) (first|(go_at_call 80;refine(rK s p A _ (jY.out.at'.later bQ) (by have:=HI.out.q6;omega)).mono ?_;rintro e w3 ⟨hb,rfl,hH,bo⟩;have z3:wy.heap.size<=w3.heap.size:=(show bL wy w3 from bQ).size)|(go_at_call 161;refine(L6 hb (p.queue++p.dev.busy) p.hand A.ha A.hc ⟨pl,data,false,p.az+1⟩ _ (jY.out.at'.mem.hand.later bQ) jY.out.at'.mem.cU h8 (mB.later hH bQ) l HP.out).mono ?_;rintro e w4 ⟨a',c',rfl,rM,fk⟩;have ET:=ae rM;clear rM))
  all_goals
   have gD:Hid (bK s p A p A w w4):=jY.out.later bQ;have eO:=ae (gD.out.trans (gD.out.at'.aed l a' c' (p.az+1) ET.out.1 ET.out.2.1 ET.out.2.2.2 (fun _ q' cI e=>by have:=ET.out.2.2.1 q' cI;have:=jY.out.at'.ky _ e;omega)));have v20:=gD.out.at'.cell 20 _ rfl;have Js:=gD.out.at'.fz 20;have v28:=gD.out.at'.cell 28 _ rfl;have x28:=gD.out.at'.fz 28;have l4:=gD.out.at'.lt;clear bo fk hH CE MO;go_wp2_with fail;have DM:=yT s _ _ _ eO.out.at' Bp.out pl 1 data 0 q mh.out;rw[show dm 0=.nilIface from rfl] at DM;refine DM.mono ?_;clear DM;rintro e w5 ⟨rfl,hok⟩;have HO:=ae (fL.trans eO.out hok);clear hok;go_wp2;go_end0;exact⟨rfl,HO.out⟩
theorem Ok(s:Nat)(p:Sk)(A:Sa)(w:World)(h:bp s p A w)(hI:bg p)(hU:p.az<=4000000000000000000)(pl:Int)(bV:0<=pl/\pl<=31)(data:ByteArray)(kX:data.size<=4)(q:Sk)(hq:p.nf.dJ pl data=q) :
 Calls prog 137 #[.pointer (some ⟨s,0,none⟩),i6 pl,.string data] w fun e w'=>e=.returned (.tuple #[])/\fL s p A w w' q:=by
 rcases gq p.hand pl with⟨hg,_⟩|⟨k,eH,hg,gA,_⟩
 ·exact Ol s p A w h hI hU pl bV data kX hg q hq
 ·have e:p.nf.dJ pl data=p.nf:=by
   show(match fa p.hand pl with|some _=>_|none=>_)=_;rw[hg]
  rw[e] at hq;subst hq;exact Ry s p A w h pl data k eH gA
theorem DX{F:Nat->Prop}{w w':World}{q n xc:Nat}{r:Rq}{xa:Option Addr}{er:Int}(h:jA w q r xa n xc er)(hO:aH F w w')(hn:¬F q):jA w' q r xa n xc er:=by
 obtain⟨h0,h1,h2,h3,h4,h5,h6,h7⟩:=h;exact⟨iG hO hn h0,iG hO hn h1,iG hO hn h2,iG hO hn h3,iG hO hn h4,iG hO hn h5,iG hO hn h6,iG hO hn h7⟩
theorem Vq(p:Sk)(r:Rq)(xs:List ByteArray)(n:Nat):p.cT r.nf xs n=p.cT r xs n:=rfl
theorem Zo(k f:Int)(h0:0<=f/\f<=31)(h1:0<=k/\k<=32):wrap64 (k-f)=k-f:=by unfold wrap64;omega
theorem Ot(s:Nat)(p:Sk)(A:Sa)(w:World)(h:bp s p A w)(hI:bg p)(r:Rq)(gr:bz r)(hw:r.wr=true)(hd:StrsAt w r.da r.data)(S4:r.data ≠ []->∀ad,r.da=some ad->¬A.ay s ad.block)(xa:Option Addr)(xn xc:Nat)(xs:List ByteArray)(yo:∀j,(xs.getD j bE).size<=4)(q:Sk)(hq:p.nf.oB r xs=q) :
 Calls prog 88 #[.pointer (some ⟨s,0,none⟩),fg r xa xn xc 0] w fun e w'=>e=.returned (.tuple #[])/\fL s p A w w' q:=by
 have aL:=ae h;have HI:=ae hI;have HG:=ae gr;have HD:=ae hd;have HDO:=ae S4;have HQ:=ae hq;have D6:=ae (BR r gr);have et:=ae gr.GJ;have kL:=ae (gr.xE hw);have HWR:=ae hw;have hl:=h.lt;clear h hI gr hd S4 hq;have ev:fg r xa xn xc 0=.agg #[.bool true,i6 r.f,i6 r.m,.slice r.da r.data.length r.dc,.slice r.ta r.tags.length r.tc,i6 r.born,.slice xa xn xc,i6 0]:=by
  unfold fg;rw[hw]
 rw[ev];clear ev;go_enter func88,ntmps88;go_wp2;have hw0:bL w (w.alloc (.cells #[.bool true,i6 r.f,i6 r.m,.slice r.da r.data.length r.dc,.slice r.ta r.tags.length r.tc,i6 r.born,.slice r.da r.data.length r.dc,i6 0] 151)):=bQ;have IV:jA (w.alloc (.cells #[.bool true,i6 r.f,i6 r.m,.slice r.da r.data.length r.dc,.slice r.ta r.tags.length r.tc,i6 r.born,.slice r.da r.data.length r.dc,i6 0] 151)) w.heap.size r r.da r.data.length r.dc 0:=by
  have hr:=zI w 151 r r.da r.data.length r.dc 0;rw[hw] at hr;exact hr
 generalize hW:(w.alloc (.cells #[.bool true,i6 r.f,i6 r.m,.slice r.da r.data.length r.dc,.slice r.ta r.tags.length r.tc,i6 r.born,.slice r.da r.data.length r.dc,i6 0] 151))=w0 at *;clear hW;have su:=ae (bK.cX aL.out hw0);have HX:=ae IV;have HD0:=ae (HD.out.later hw0);have HGF:Hid (¬A.ay s w.heap.size):=fun e=>by have:=aL.out.bC _ e;omega
 have qR:Hid (∀j,(xs.getD j bE).size<=4):=yo;clear yo
 go_loopw[14] (fun i wr=>∃k:Nat,k<=32/\i=i6 k/\PD s p A w0 wr (p.nf.cT r xs (below r.f.toNat r.m.toNat k))) (fun i _=>32-(intOf i).toNat)
 case atStart=>exact⟨0,oM,rfl,p,A,bK.cX su.out.at' (aX _ _),by rw[show below r.f.toNat r.m.toNat 0=0 by unfold below;omega];rfl⟩
 case round =>
  obtain⟨k,hk,rfl,p',A',hs,hn⟩:=hrel;have HS:=ae hs;have HN:=ae hn
  by_cases au:k<32
  ·have gC:(k:Int)<32:=oM;have kG:=ae (DX HX.out hs.only HGF.out);have Oz:=ae (gV HD0.out hs.only HDO.out);obtain⟨b0,b1,b2,b3,b4,b5,b6,b7⟩:=id kG.out;rw[hw] at b0;have lb:=aq b0;have mG:=hs.at'.lt;have c20:=hs.at'.cell 20 _ rfl;have f20:=hs.at'.fz 20;have hh:=D6.out k au;have HJ:Hid (below r.f.toNat r.m.toNat k<=r.m.toNat):=by show below r.f.toNat r.m.toNat k<=r.m.toNat;unfold below;omega
   have EN:Hid (bg p'):=by
    have:=HI.out.nf.cT r HG.out xs qR.out _ HJ.out;rw[<-hn] at this;exact this.cD
   clear hs hn
   by_cases hY:r.f.toNat<=k/\k<r.f.toNat+r.m.toNat
   ·rw[aa1 hY] at hh;have HH:=ae hh;obtain⟨e1,e2⟩:=Ad hY.1 hY.2;obtain⟨j,hj⟩:∃j,below r.f.toNat r.m.toNat k=j:=⟨_,rfl⟩
    rw[hj] at e1 e2 HN HJ;have J7:=ae e1;have OD:Hid ((k:Int)=r.f+j):=by have:=et.out;show(k:Int)=r.f+j;omega
    have Kn:Hid (wrap64 ((k:Int)-r.f)=(j:Nat)):=by
     have:=et.out;have:=OD.out;rw[Zo k r.f oM oM];show(k:Int)-r.f=j;omega
    have HJL:Hid (j<r.data.length):=by have:=kL.out;have:=et.out;show j<r.data.length;omega
    obtain⟨d,hd⟩:∃d,r.data.getD j bE=d:=⟨_,rfl⟩
    have HDJ:=ae hd;have PA:Hid (p'.nf.en r xs j={ p'.nf with hand:=fO p'.hand k d }):=by
     show p'.nf.en r xs j=_;unfold Sk.en;rw[aaV hw,hd,<-OD.out]
     rfl
    clear hh hY e1 e2 hj hd;go_wp2_with fail;have xf:=G6 r r.data r.da r.dc 0 k _ Oz.out HH.out j Kn.out HJL.out d HDJ.out;rw[show fg r r.da r.data.length r.dc 0=.agg #[.bool true,i6 r.f,i6 r.m,.slice r.da r.data.length r.dc,.slice r.ta r.tags.length r.tc,i6 r.born,.slice r.da r.data.length r.dc,i6 0] by unfold fg;rw[hw]] at xf;refine xf.mono ?_;clear xf;rintro e w1 ⟨rfl,aw⟩;have cf:=ae (HS.out.later aw)
    replace c20:=ai aw c20
    replace f20:=cf.out.at'.fz 20
    replace b0:=ai aw b0
    replace mG:=cf.out.at'.lt
    replace lb:=aq b0
    clear aw b1 b2 b3 b4 b5 b6 b7;go_wp2_with fail;refine(abN p'.hand A'.ha A'.hc k d _ cf.out.at'.mem.hand cf.out.at'.mem.cU (by have:=EN.out.hand.len;omega) EN.out.hand.once).mono ?_;rintro e w2 ⟨a',c',rfl,u1,u2,u3,u4,u5⟩;have ck:=ae (cf.out.later u5);have eV:=ae (ck.out.trans (ck.out.at'.fT (fO p'.hand k d) a' c' u1 (by rw[show(fO p'.hand k d).length=p'.hand.length by simp[fO]];exact u2) u4 (fun _ q' cI e=>by have:=u3 q' cI;have:=cf.out.at'.ky _ e;omega)));rw[show(fO p'.hand k d).length=p'.hand.length by simp[fO]] at eV;have v20:=ck.out.at'.cell 20 _ rfl;have Js:=ck.out.at'.fz 20;have l2:=ck.out.at'.lt;clear c20 f20 u1 u2 u3 u4 u5;go_wp2;go_roundw
    case rel=>exact⟨k+1,oM,gN,_,_,eV.out,by rw[J7.out,iZ,<-HN.out,PA.out];rfl⟩
    case measure=>simp[intOf];omega
   ·rw[aa9 hY] at hh;have HH:=ae hh;have J7:=ae (xU hY);clear hh hY;go_wp2_with fail;have xf:=Ph r r.da r.data.length r.dc 0 k wr HH.out;rw[show fg r r.da r.data.length r.dc 0=.agg #[.bool true,i6 r.f,i6 r.m,.slice r.da r.data.length r.dc,.slice r.ta r.tags.length r.tc,i6 r.born,.slice r.da r.data.length r.dc,i6 0] by unfold fg;rw[hw]] at xf;refine xf.mono ?_;clear xf;rintro e w1 ⟨rfl,aw⟩;have cf:=ae (HS.out.later aw);clear aw b0 b1 b2 b3 b4 b5 b6 b7;go_wp2;go_roundw
    case rel=>exact⟨k+1,oM,gN,p',A',cf.out,by rw[J7.out];exact HN.out⟩
    case measure=>simp[intOf];omega
  ·obtain rfl:k=32:=oM;clear hs hn;go_wp2;go_end0;refine⟨rfl,p',A',su.out.trans HS.out,HN.out.trans ?_⟩;rw[xT (by have:=et.out;omega)];exact HQ.out
theorem Oq(s:Nat)(p:Sk)(A:Sa)(w:World)(h:bp s p A w)(hI:bg p)(r:Rq)(hU:p.az<=3999999999999999990)(gr:bz r)(hw:r.wr=false)(xa:Option Addr)(xc:Nat)(xs:List ByteArray)(hd:StrsAt w xa xs)(S4:xs ≠ []->∀ad,xa=some ad->¬A.ay s ad.block)(hlen:xs.length=r.m.toNat)(yo:∀j,(xs.getD j bE).size<=4)(q:Sk)(hq:p.nf.oB r xs=q) :
 Calls prog 88 #[.pointer (some ⟨s,0,none⟩),fg r xa xs.length xc 0] w fun e w'=>e=.returned (.tuple #[])/\fL s p A w w' q:=by
 have aL:=ae h;have HI:=ae hI;have HG:=ae gr;have HD:=ae hd;have HDO:=ae S4;have HQ:=ae hq;have D6:=ae (BR r gr);have et:=ae gr.GJ;have kL:=ae hlen;have HU:=ae hU;have HWR:=ae hw;have hl:=h.lt;clear h hI gr hd S4 hq hlen hU;have ev:fg r xa xs.length xc 0=.agg #[.bool false,i6 r.f,i6 r.m,.slice r.da r.data.length r.dc,.slice r.ta r.tags.length r.tc,i6 r.born,.slice xa xs.length xc,i6 0]:=by
  unfold fg;rw[hw]
 rw[ev];clear ev;go_enter func88,ntmps88;go_wp2;have hw0:bL w (w.alloc (.cells #[.bool false,i6 r.f,i6 r.m,.slice r.da r.data.length r.dc,.slice r.ta r.tags.length r.tc,i6 r.born,.slice xa xs.length xc,i6 0] 151)):=bQ;have IV:jA (w.alloc (.cells #[.bool false,i6 r.f,i6 r.m,.slice r.da r.data.length r.dc,.slice r.ta r.tags.length r.tc,i6 r.born,.slice xa xs.length xc,i6 0] 151)) w.heap.size r xa xs.length xc 0:=by
  have hr:=zI w 151 r xa xs.length xc 0;rw[hw] at hr;exact hr
 generalize hW:(w.alloc (.cells #[.bool false,i6 r.f,i6 r.m,.slice r.da r.data.length r.dc,.slice r.ta r.tags.length r.tc,i6 r.born,.slice xa xs.length xc,i6 0] 151))=w0 at *;clear hW;have su:=ae (bK.cX aL.out hw0);have HX:=ae IV;have HD0:=ae (HD.out.later hw0);have HGF:Hid (¬A.ay s w.heap.size):=fun e=>by have:=aL.out.bC _ e;omega
 have qR:Hid (∀j,(xs.getD j bE).size<=4):=yo;clear yo
 go_loopw[14] (fun i wr=>∃k:Nat,k<=32/\i=i6 k/\PD s p A w0 wr (p.nf.cT r xs (below r.f.toNat r.m.toNat k))) (fun i _=>32-(intOf i).toNat)
 case atStart=>exact⟨0,oM,rfl,p,A,bK.cX su.out.at' (aX _ _),by rw[show below r.f.toNat r.m.toNat 0=0 by unfold below;omega];rfl⟩
 case round =>
  obtain⟨k,hk,rfl,p',A',hs,hn⟩:=hrel;have HS:=ae hs;have HN:=ae hn
  by_cases au:k<32
  ·have gC:(k:Int)<32:=oM;have kG:=ae (DX HX.out hs.only HGF.out);have Oz:=ae (gV HD0.out hs.only HDO.out);obtain⟨b0,b1,b2,b3,b4,b5,b6,b7⟩:=id kG.out;rw[hw] at b0;have lb:=aq b0;have mG:=hs.at'.lt;have c20:=hs.at'.cell 20 _ rfl;have f20:=hs.at'.fz 20;have hh:=D6.out k au;have HJ:Hid (below r.f.toNat r.m.toNat k<=r.m.toNat):=by show below r.f.toNat r.m.toNat k<=r.m.toNat;unfold below;omega
   have EN:Hid (bg p'):=by
    have:=HI.out.nf.cT r HG.out xs qR.out _ HJ.out;rw[<-hn] at this;exact this.cD
   clear hs hn
   by_cases hY:r.f.toNat<=k/\k<r.f.toNat+r.m.toNat
   ·rw[aa1 hY] at hh;have HH:=ae hh;obtain⟨e1,e2⟩:=Ad hY.1 hY.2;obtain⟨j,hj⟩:∃j,below r.f.toNat r.m.toNat k=j:=⟨_,rfl⟩
    rw[hj] at e1 e2 HN HJ;have J7:=ae e1;have OD:Hid ((k:Int)=r.f+j):=by have:=et.out;show(k:Int)=r.f+j;omega
    have Kn:Hid (wrap64 ((k:Int)-r.f)=(j:Nat)):=by
     have:=et.out;have:=OD.out;rw[Zo k r.f oM oM];show(k:Int)-r.f=j;omega
    have HJL:Hid (j<xs.length):=by have:=kL.out;have:=et.out;show j<xs.length;omega
    obtain⟨d,hd⟩:∃d,xs.getD j bE=d:=⟨_,rfl⟩
    have HDJ:=ae hd;have PA:Hid (p'.nf.en r xs j=p'.nf.dJ k d):=by
     show p'.nf.en r xs j=_;unfold Sk.en;rw[aaP (by rw[hw];exact aa7),hd,<-OD.out]
    have HD4:Hid (d.size<=4):=by have:=qR.out j;rw[hd] at this;exact this
    have HUU:Hid (p'.az<=4000000000000000000):=by
     have h1:=(oZ p.nf r xs j).az;rw[<-HN.out] at h1;have h2:p'.az<=p.az+j:=h1;have:=HU.out;have:=HJ.out;have:=et.out;show p'.az<=4000000000000000000
     omega
    clear hh hY e1 e2 hj hd;go_wp2_with fail;have xf:=G6 r xs xa xc 0 k _ Oz.out HH.out j Kn.out HJL.out d HDJ.out;rw[show fg r xa xs.length xc 0=.agg #[.bool false,i6 r.f,i6 r.m,.slice r.da r.data.length r.dc,.slice r.ta r.tags.length r.tc,i6 r.born,.slice xa xs.length xc,i6 0] by unfold fg;rw[hw]] at xf;refine xf.mono ?_;clear xf;rintro e w1 ⟨rfl,aw⟩;have cf:=ae (HS.out.later aw)
    replace c20:=ai aw c20
    replace f20:=cf.out.at'.fz 20
    replace b0:=ai aw b0
    replace mG:=cf.out.at'.lt
    replace lb:=aq b0
    clear aw b1 b2 b3 b4 b5 b6 b7;go_wp2_with fail;refine cM (Ok s p' A' _ cf.out.at' EN.out HUU.out k (by have:=et.out;have:=OD.out;omega) d HD4.out _ rfl) ?_;intro w2 hok;have HO:=ae (fL.trans cf.out hok);clear hok c20 f20;go_wp2;go_roundw
    case rel=>exact⟨k+1,oM,gN,by rw[J7.out,iZ,<-HN.out,PA.out];exact HO.out⟩
    case measure=>simp[intOf];omega
   ·rw[aa9 hY] at hh;have HH:=ae hh;have J7:=ae (xU hY);clear hh hY;go_wp2_with fail;have xf:=Ph r xa xs.length xc 0 k wr HH.out;rw[show fg r xa xs.length xc 0=.agg #[.bool false,i6 r.f,i6 r.m,.slice r.da r.data.length r.dc,.slice r.ta r.tags.length r.tc,i6 r.born,.slice xa xs.length xc,i6 0] by unfold fg;rw[hw]] at xf;refine xf.mono ?_;clear xf;rintro e w1 ⟨rfl,aw⟩;have cf:=ae (HS.out.later aw);clear aw b0 b1 b2 b3 b4 b5 b6 b7;go_wp2;go_roundw
    case rel=>exact⟨k+1,oM,gN,p',A',cf.out,by rw[J7.out];exact HN.out⟩
    case measure=>simp[intOf];omega
  ·obtain rfl:k=32:=oM;clear hs hn;go_wp2;go_end0;refine⟨rfl,p',A',su.out.trans HS.out,HN.out.trans ?_⟩;rw[xT (by have:=et.out;omega)];exact HQ.out
theorem D4(d:Dl)(l:List Rq)(r:Rq):∀n,({ d with busy:=l }:Dl).cL r n={ d.cL r n with busy:=l }
 |0=>rfl
 |n+1=>by rw[Dl.fJ,D4 d l r n,Dl.fJ];rfl
theorem abP(d:Dl)(l:List Rq)(r:Rq):({ d with busy:=l }:Dl).cr r={ d.cr r with busy:=l }:=by
 unfold Dl.cr
 split
 ·exact D4 d l r _
 ·rfl
theorem abQ(d:Dl)(r:Rq):d.nf.cr r.nf=(d.cr r).nf:=by
 show({ d with busy:=d.busy.map Rq.nf }:Dl).cr r={ d.cr r with busy:=(d.cr r).busy.map Rq.nf };rw[abP,Dl.mR]
theorem zU(p:Sk)(k:Nat):p.nf.bD k=(p.bD k).nf:=by
 simp only[Sk.bD,Sk.nf,Dl.nf,ack,aca,List.map_take,List.map_drop]
theorem Mv(p:Sk)(r:Rq):p.nf.cr r.nf=(p.cr r).nf:=by
 have e:p.nf.dev.cr r.nf=(p.dev.cr r).nf:=abQ p.dev r;unfold Sk.cr;rw[e]
 rfl
theorem VL(p:Sk)(r:Rq):p.nf.again r.nf=(p.again r).nf:=by
 simp only[Sk.again,Sk.nf,Dl.nf,aca,aft,afz]
 rfl
theorem zk{p:Sk}{k:Nat}{r:Rq}(h:p.dev.busy[k]?=some r):p.nf.dev.busy[((k:Int)).toNat]?=some r.nf:=by
 rw[abG];show(p.dev.busy.map Rq.nf)[k]?=_;rw[acq,h];rfl
section
variable{p:Sk}{k:Nat}{r:Rq}
theorem Is(h:p.dev.busy[k]?=some r):p.nf.cz (k:Int) false=(0,(((p.bD k).cr r).nf.oB r (cW p.dev r)).serve):=by
 unfold Sk.cz;rw[aaP oM,zk h];simp only[abG,afj];rw[zU,Mv];rfl
theorem BC(h:p.dev.busy[k]?=some r)(hf:p.f (r.tags.getD 0 0)<2):p.nf.cz (k:Int) true=(0,((p.bD k).again r).nf):=by
 unfold Sk.cz;rw[aaP oM,zk h];simp only[abG];rw[aaP dM,aaV (show p.nf.f (r.nf.tags.getD 0 0)<2 from hf),zU,VL]
theorem DA(h:p.dev.busy[k]?=some r)(hf:¬p.f (r.tags.getD 0 0)<2)(hw:r.wr=true):p.nf.cz (k:Int) true=(0,({ (p.bD k).lost r with dead:=true }:Sk).nf.serve):=by
 unfold Sk.cz;rw[aaP oM,zk h];simp only[abG];rw[aaP dM,aaP (show ¬p.nf.f (r.nf.tags.getD 0 0)<2 from hf),aaV (show r.nf.wr=true from hw),zU];rfl
theorem DB(h:p.dev.busy[k]?=some r)(hf:¬p.f (r.tags.getD 0 0)<2)(hw:r.wr=false):p.nf.cz (k:Int) true=(0,((((p.bD k).lost r).nf.cO (dO r.f r.m) bE 8).serve)):=by
 unfold Sk.cz;rw[aaP oM,zk h];simp only[abG];rw[aaP dM,aaP (show ¬p.nf.f (r.nf.tags.getD 0 0)<2 from hf),aaP (by rw[show r.nf.wr=false from hw];exact aa7),zU];rfl
end
theorem Fa{p:Sk}{i:Int}(h:i<0\/(p.dev.busy.length:Int)<=i)(fl:Bool):p.nf.cz i fl=(5,p.nf):=by
 unfold Sk.cz
 by_cases h0:i<0
 ·rw[aaV h0]
 ·rw[aaP h0];have:p.nf.dev.busy[i.toNat]?=none:=by
   show(p.dev.busy.map Rq.nf)[i.toNat]?=none;rw[acC];rw[abe];omega
  rw[this]
section
variable{s:Nat}{p:Sk}{A:Sa}{w:World}{k:Nat}{r:Rq}
theorem bp.Rv(h:bp s p A w)(hI:bg p)(hT:p.tags<=4000000000000000000)(hk:p.dev.busy[k]?=some r):GI A.bm p.dev k r (r.tags.getD 0 0):=by
 have hm:r∈p.queue++p.dev.busy:=aa8 _ (acg hk);have g:=hI.bO r hm;refine⟨hk,rfl,?_,g.t1,fun q hq=>?_⟩
 ·have h1:0<r.tags.length:=g.t1;have h2:r.tags.getD 0 0∈r.tags:=by
   rw[abd,aaX h1,acO];exact aa5 h1
  have h3:=hI.pz r hm _ h2;unfold cH
  omega
 ·have:=h.mem.eY q (aa8 _ hq);exact⟨fun he ad ha e=>this.1 he ad ha (ir (il (il e))),fun he ad ha e=>this.2 he ad ha (ir (il (il e)))⟩
end
theorem dk.vY{s:Nat}{p:Sk}{A:Sa}{w:World}(h:dk s p A w)(b:Bool):dk s { p with dead:=b } A w where
 cE:=h.cE
 map:=h.map
 im:=h.im
 nb:=h.nb
 hand:=h.hand
 cU:=h.cU
 bS:=h.bS
 queue:=h.queue
 fe:=h.fe
 fA:=h.fA
 left:=h.left
 sv:=h.sv
 vl:=h.vl
 ll:=h.ll
 ia:=h.ia
 iH:=h.iH
 fh:=h.fh
 gW:=h.gW
theorem bp.vY{s:Nat}{p:Sk}{A:Sa}{w:World}(h:bp s p A w)(b:Bool):bK s p A { p with dead:=b } A w (w.setCell ⟨s,29,none⟩ (.bool b)):=h.put (h.mem.vY b) 29 _ rfl (fun _ hk=>hk) ⟨rfl,rfl,rfl,rfl⟩
theorem XK(s:Nat)(p:Sk)(A:Sa)(w:World)(h:bp s p A w)(i:Int)(fl:Bool)(hi:i<0\/(p.dev.busy.length:Int)<=i) :
 Calls prog 42 #[.pointer (some ⟨s,0,none⟩),i6 i,.bool fl] w fun e w'=>e=.returned (dm 5)/\fL s p A w w' p.nf:=by
 have c1:=h.cell 1 _ rfl;have hl:=h.lt;have aL:=ae h;have HI:=ae hi;clear h hi;go_enter func42,ntmps42;go_wp2_with fail;refine cM (aaL A.v A.b A.bm p.dev A.an A.n A.D i fl w aL.out.mem.cE HI.out) ?_;intro w1 aw;go_wp2;go_ret;exact⟨rfl,p,A,bK.cX aL.out bQ,rfl⟩
section
variable{s:Nat}{p:Sk}{A:Sa}{w w':World}{d':Dl}{nR:An}{n':Nat}{D':DataW Unit}
theorem X7(h:jt A.v A.b A.bm p.dev A.an A.n A.D d' nR n' D' w w'):∀k,({ A with an:=nR,n:=n',D:=D' }:Sa).ay s k->A.ay s k\/w.heap.size<=k:=by
 rintro k (e|e|e)
 ·exact il (il e)
 ·exact(h.ay k e).imp (fun e=>ir (il e)) id
 ·exact il (ir (ir e))
end
theorem Re(s:Nat)(p:Sk)(A:Sa)(w:World)(h:bp s p A w)(hI:bg p)(hT:p.tags<=4000000000000000000)(hA:p.ag<=1000000000)(k:Nat)(r:Rq)(hk:p.dev.busy[k]?=some r)(hf:p.f (r.tags.getD 0 0)<2) :
 Calls prog 42 #[.pointer (some ⟨s,0,none⟩),i6 k,.bool true] w fun e w'=>e=.returned (dm 0)/\fL s p A w w' ((p.bD k).again r).nf:=by
 have c1:=h.cell 1 _ rfl;have hl:=h.lt;have aL:=ae h;have HV:=ae (h.Rv hI hT hk);have HF:Hid (0<=p.f (r.tags.getD 0 0)/\p.f (r.tags.getD 0 0)<2):=⟨(hI.fr _).1,hf⟩
 have HN:Hid (A.n<=1000000000):=abb h.mem.nb hA;have HK:=ae hk;clear h hI hT hA hk hf;go_enter func42,ntmps42;go_wp2_with fail;refine(X8 A.v A.b A.bm p.dev A.an A.n A.D k r _ _ w aL.out.mem.cE HV.out (aL.out.mem.map _) HF.out HN.out).mono ?_;rintro e w1 ⟨a',rfl,hv⟩;have cf:=ae (bp.step (f':=fun t=>if t=r.tags.getD 0 0 then p.f t+1 else p.f t) (p.ag+1) (by have:=aL.out.mem.nb;omega) aL.out hv (by
  have hm:=aL.out.mem.map.put aL.out.mem.im (r.tags.getD 0 0) (p.f (r.tags.getD 0 0)+1);intro t;have:=hm t;rw[this]
  by_cases e:t=r.tags.getD 0 0
  ·simp only[e,afj]
  ·simp only[e,afr]) hv.at'.map.isMap (fun q hq=>by
   have hm:q∈p.dev.busy:=by
    rcases abh.1 hq with h'|h'
    ·exact abo h'
    ·rw[abq.1 h'];exact acg HK.out
   exact Rq.dB.step (aL.out.mem.cE.dev.reqs q hm).1 (aL.out.mem.fh q (aa8 _ hm)) (zG hv)))
 clear hv;go_wp2;go_ret;exact⟨rfl,_,_,cf.out.later bQ,rfl⟩
theorem UW(s:Nat)(p:Sk)(A:Sa)(w:World)(h:bp s p A w)(hI:bg p)(hT:p.tags<=3999999999999999990)(hU:p.az<=3999999999999999990)(k:Nat)(r:Rq)(hk:p.dev.busy[k]?=some r)(hf:¬p.f (r.tags.getD 0 0)<2)(hw:r.wr=true)(q:Sk)(hq:({ (p.bD k).lost r with dead:=true }:Sk).nf.serve=q) :
 Calls prog 42 #[.pointer (some ⟨s,0,none⟩),i6 k,.bool true] w fun e w'=>e=.returned (dm 0)/\fL s p A w w' q:=by
 have c1:=h.cell 1 _ rfl;have hl:=h.lt;have aL:=ae h;have HV:=ae (h.Rv hI oM hk);have HF:Hid (2<=p.f (r.tags.getD 0 0)/\p.f (r.tags.getD 0 0)<=100):=⟨oM,by have:=(hI.fr (r.tags.getD 0 0)).2;omega⟩
 have Dh:=ae ((hI.bD k).lost r true);have HQ:=ae hq;have HB:=ae (And.intro hT hU);have HW:=ae hw;clear h hI hT hU hk hf hq;go_enter func42,ntmps42;go_wp2_with fail;refine(Px A.v A.b A.bm p.dev A.an A.n A.D k r _ _ w aL.out.mem.cE HV.out (aL.out.mem.map _) HF.out).mono ?_;rintro e w1 ⟨a',rfl,hv⟩;have cf:=ae (bp.step (f':=fun t=>if t=r.tags.getD 0 0 then 0 else p.f t) p.ag aL.out.mem.nb aL.out hv (aL.out.mem.map.del (r.tags.getD 0 0)) hv.at'.map.isMap (fun q hq=>by
  have hm:q∈p.dev.busy:=abo hq;exact Rq.dB.step (aL.out.mem.cE.dev.reqs q hm).1 (aL.out.mem.fh q (aa8 _ hm)) (zG hv)))
 clear hv;have y29:=cf.out.at'.cell 29 _ rfl;have x29:=cf.out.at'.fz 29;have l1:=cf.out.at'.lt;rw[show fg r none 0 0 8=.agg #[.bool true,i6 r.f,i6 r.m,.slice r.da r.data.length r.dc,.slice r.ta r.tags.length r.tc,i6 r.born,.slice none 0 0,i6 8] by unfold fg;rw[HW.out]];go_wp2_with fail;have ck:=ae (cf.out.trans (cf.out.at'.vY true));refine cM (p6 s ({ (p.bD k).lost r with dead:=true }:Sk) _ _ (ck.out.at'.later bQ) Dh.out HB.out.1 HB.out.2 q HQ.out) ?_;intro w4 hok;have HO:=ae (fL.trans (ck.out.later bQ) hok);clear hok;go_wp2;go_ret;exact⟨rfl,HO.out⟩
theorem UX(s:Nat)(p:Sk)(A:Sa)(w:World)(h:bp s p A w)(hI:bg p)(hT:p.tags<=3999999999999999990)(hU:p.az<=3999999999999999990)(k:Nat)(r:Rq)(hk:p.dev.busy[k]?=some r)(hf:¬p.f (r.tags.getD 0 0)<2)(hw:r.wr=false)(q:Sk)(hq:(((p.bD k).lost r).nf.cO (dO r.f r.m) bE 8).serve=q) :
 Calls prog 42 #[.pointer (some ⟨s,0,none⟩),i6 k,.bool true] w fun e w'=>e=.returned (dm 0)/\fL s p A w w' q:=by
 have c1:=h.cell 1 _ rfl;have hl:=h.lt;have aL:=ae h;have HV:=ae (h.Rv hI oM hk);have HF:Hid (2<=p.f (r.tags.getD 0 0)/\p.f (r.tags.getD 0 0)<=100):=⟨oM,by have:=(hI.fr (r.tags.getD 0 0)).2;omega⟩
 have Dh:=ae ((hI.bD k).CY r);have HQ:=ae hq;have HB:=ae (And.intro hT hU);have HW:=ae hw;clear h hI hT hU hk hf hq;go_enter func42,ntmps42;go_wp2_with fail;refine(Px A.v A.b A.bm p.dev A.an A.n A.D k r _ _ w aL.out.mem.cE HV.out (aL.out.mem.map _) HF.out).mono ?_;rintro e w1 ⟨a',rfl,hv⟩;have cf:=ae (bp.step (f':=fun t=>if t=r.tags.getD 0 0 then 0 else p.f t) p.ag aL.out.mem.nb aL.out hv (aL.out.mem.map.del (r.tags.getD 0 0)) hv.at'.map.isMap (fun q hq=>by
  have hm:q∈p.dev.busy:=abo hq;exact Rq.dB.step (aL.out.mem.cE.dev.reqs q hm).1 (aL.out.mem.fh q (aa8 _ hm)) (zG hv)))
 clear hv;have l1:=cf.out.at'.lt;rw[show fg r none 0 0 8=.agg #[.bool false,i6 r.f,i6 r.m,.slice r.da r.data.length r.dc,.slice r.ta r.tags.length r.tc,i6 r.born,.slice none 0 0,i6 8] by unfold fg;rw[HW.out]];go_wp2_with fail;refine(yT s ((p.bD k).lost r) _ _ (cf.out.at'.later bQ) Dh.out r.f r.m bE 8 _ rfl).mono ?_;rintro e w2 ⟨rfl,p2,A2,qC,lU⟩;have ck:Hid (bK s p A p2 A2 w w2):=(cf.out.later bQ).trans qC;have Bp:Hid (bg p2):=by
  have:=Dh.out.nf.cO (dO r.f r.m) bE 8;rw[<-lU] at this;exact this.cD
 have bT:Hid (p2.tags<=3999999999999999990/\p2.az<=3999999999999999990):=by
  have e1:p2.nf.tags=p.tags:=by rw[lU];rfl
  have e2:p2.nf.az=p.az:=by rw[lU];rfl
  have:=HB.out;exact⟨e1▸this.1,e2▸this.2⟩
 have mh:Hid (p2.nf.serve=q):=by
  show p2.nf.serve=q;rw[lU];exact HQ.out
 clear qC lU;go_wp2_with fail;refine cM (p6 s p2 A2 _ ck.out.at' Bp.out bT.out.1 bT.out.2 q mh.out) ?_;intro w4 hok;have HO:=ae (fL.trans ck.out hok);clear hok;go_wp2;go_ret;exact⟨rfl,HO.out⟩
theorem aaw(s:Nat)(p:Sk)(A:Sa)(w:World)(h:bp s p A w)(hI:bg p)(hS:dE p.dev)(hT:p.tags<=3999999999999999980)(hU:p.az<=3999999999999999980)(k:Nat)(r:Rq)(hk:p.dev.busy[k]?=some r)(q:Sk)(hq:(((p.bD k).cr r).nf.oB r (cW p.dev r)).serve=q) :
 Calls prog 42 #[.pointer (some ⟨s,0,none⟩),i6 k,.bool false] w fun e w'=>e=.returned (dm 0)/\fL s p A w w' q:=by
 have c1:=h.cell 1 _ rfl;have hl:=h.lt;have aL:=ae h;have mq:r∈p.dev.busy:=acg hk;have HG:=ae (hI.bO r (aa8 _ mq));have HV:=ae (h.Rv hI oM hk);have pD:=ae ((hI.bD k).cr r);have HQ:=ae hq;have HB:=ae (And.intro hT hU);have qR:=ae (jb hS r);have iJ:=ae (h.mem.cE.dev.reqs r mq).1;have fD:=ae (h.mem.eY r (aa8 _ mq));clear h hI hT hU hk hq mq hS;go_enter func42,ntmps42;go_wp2_with fail;refine(aee A.v A.b A.bm p.dev A.an A.n A.D k r _ w aL.out.mem.cE HV.out HG.out).mono ?_;rintro e w1 ⟨a',xa,xc,xs,rfl,kc,yn,kD,hv⟩;have zg:=ae kc.out;have AW:=ae yn;have nQ:=ae kD;have uE:=ae (X7 (s:=s) hv);have xN:Hid (r.At w1):=iJ.out.frame ⟨fun he ad ha e=>fD.out.1 he ad ha (ir (il e)),fun he ad ha e=>fD.out.2 he ad ha (ir (il e))⟩ hv.only;have Dn:Hid (r.dB (({ A with an:=a',n:=A.n,D:=A.D.del (.int .i64 (r.tags.getD 0 0)) }:Sa).ay s)):=Rq.dB.step iJ.out fD.out uE.out;have OO:Hid (∀ad,xa=some ad->¬({ A with an:=a',n:=A.n,D:=A.D.del (.int .i64 (r.tags.getD 0 0)) }:Sa).ay s ad.block):=by
  rintro ad qx (e|e|⟨i,hi,q',cI,e⟩)
  ·have:=(nQ.out ad qx).1;have:=aL.out.lt;omega
  ·exact(nQ.out ad qx).2 e
  ·have:=(nQ.out ad qx).1;have:=aL.out.mem.fb hi cI;omega
 have cf:=ae (bp.step (f':=fun t=>if t=r.tags.getD 0 0 then 0 else p.f t) p.ag aL.out.mem.nb aL.out hv (aL.out.mem.map.del (r.tags.getD 0 0)) hv.at'.map.isMap (fun q hq=>by
  rw[Dl.mR] at hq;have hm:q∈p.dev.busy:=abo hq;exact Rq.dB.step (aL.out.mem.cE.dev.reqs q hm).1 (aL.out.mem.fh q (aa8 _ hm)) (zG hv)))
 have l1:=cf.out.at'.lt;have RU:Hid (∀W,bL w1 W->Calls prog 88 #[.pointer (some ⟨s,0,none⟩),fg r xa xs.length xc 0] W fun e w'=>e=.returned (.tuple #[])/\fL s ((p.bD k).cr r) { A with an:=a',n:=A.n,D:=A.D.del (.int .i64 (r.tags.getD 0 0)) } W w' (((p.bD k).cr r).nf.oB r (cW p.dev r))):=by
  intro W hW
  cases hw:r.wr
  ·refine Oq s ((p.bD k).cr r) _ W (cf.out.at'.later hW) pD.out r (by have:=HB.out;show p.az<=_;omega) HG.out hw xa xc xs (AW.out.later hW) (fun _ ad ha=>OO.out ad ha) ?_ ?_ _ (by rw[zg.out])
   ·rw[zg.out];unfold cW;rw[hw];exact vj _ _ _
   ·rw[zg.out];exact qR.out
  ·exact Ot s ((p.bD k).cr r) _ W (cf.out.at'.later hW) pD.out r HG.out hw (xN.out.later hW).data Dn.out.1 xa xs.length xc (cW p.dev r) qR.out _ rfl
 clear kc yn kD hv;generalize hn:xs.length=n at *;go_wp2_with fail;refine(RU.out _ bQ).mono ?_;rintro e w2 ⟨rfl,p2,A2,qC,lU⟩;have ck:Hid (bK s p A p2 A2 w w2):=(cf.out.later bQ).trans qC;have sK:=oZ ((p.bD k).cr r).nf r (cW p.dev r) r.m.toNat;have Bp:Hid (bg p2):=by
  have:=pD.out.nf.cT r HG.out (cW p.dev r) qR.out r.m.toNat (aaO _);rw[show((p.bD k).cr r).nf.cT r (cW p.dev r) r.m.toNat=p2.nf from lU.symm] at this;exact this.cD
 have bT:Hid (p2.tags<=3999999999999999990/\p2.az<=3999999999999999990):=by
  have e0:((p.bD k).cr r).nf.cT r (cW p.dev r) r.m.toNat=p2.nf:=lU.symm;rw[e0] at sK;have e1:p2.tags<=p.tags+r.m.toNat:=sK.tags;have e2:p2.az<=p.az+r.m.toNat:=sK.az;have:=HB.out;have:=HG.out.uG;exact⟨oM,oM⟩
 have mh:Hid (p2.nf.serve=q):=by
  show p2.nf.serve=q;rw[lU];exact HQ.out
 clear qC lU sK;go_wp2_with fail;refine cM (p6 s p2 A2 _ ck.out.at' Bp.out bT.out.1 bT.out.2 q mh.out) ?_;intro w4 hok;have HO:=ae (fL.trans ck.out hok);clear hok;go_wp2;go_ret;exact⟨rfl,HO.out⟩
theorem Ez(s:Nat)(p:Sk)(A:Sa)(w:World)(h:bp s p A w)(hI:bg p)(hS:dE p.dev)(hT:p.tags<=3999999999999999980)(hU:p.az<=3999999999999999980)(hA:p.ag<=1000000000)(i:Int)(fl:Bool)(n:Int)(q:Sk)(hq:p.nf.cz i fl=(n,q)) :
 Calls prog 42 #[.pointer (some ⟨s,0,none⟩),i6 i,.bool fl] w fun e w'=>e=.returned (dm n)/\fL s p A w w' q:=by
 by_cases hi:i<0\/(p.dev.busy.length:Int)<=i
 ·rw[Fa hi] at hq
  cases hq
  exact XK s p A w h i fl hi
 ·obtain⟨k,rfl⟩:∃k:Nat,i=k:=⟨i.toNat,oM⟩
  have hk:k<p.dev.busy.length:=oM;have eH:=aaX hk
  cases fl
  ·rw[Is eH] at hq;simp only[acK] at hq;obtain⟨rfl,hq⟩:=hq;exact aaw s p A w h hI hS hT hU k _ eH q hq
  ·by_cases hf:p.f (p.dev.busy[k].tags.getD 0 0)<2
   ·rw[BC eH hf] at hq
    cases hq
    exact Re s p A w h hI oM hA k _ eH hf
   ·cases hw:p.dev.busy[k].wr
    ·rw[DB eH hf hw] at hq;simp only[acK] at hq;obtain⟨rfl,hq⟩:=hq;exact UX s p A w h hI oM oM k _ eH hf hw q hq
    ·rw[DA eH hf hw] at hq;simp only[acK] at hq;obtain⟨rfl,hq⟩:=hq;exact UW s p A w h hI oM oM k _ eH hf hw q hq
section
variable{W wr w':World}{s b:Nat}{q q':Sk}
end
section
variable(W w:World)(s b:Nat)(q:Sk)(n:Nat)
end
def sa0(b v bm:Nat):Sa:=⟨b,v,bm,Ih,0,.map [],fun _=>none,fun _=>0,none,0,none,0,fun _=>False⟩
def Po(b v bm:Nat)(an:An)(X:Nat->Prop):Sa:=⟨b,v,bm,an,0,.map [],fun _=>none,fun _=>0,none,0,none,0,X⟩
def xF(d:Dl):Sk:={ oQ with dev:=d }
theorem U5(d:Dl)(h:d.busy=[]):(xF d).nf=xF d:=by
 unfold xF Sk.nf Dl.nf oQ;simp only[h,afz]
 congr 1
 cases d
 simp only at h;subst h
 rfl
theorem Jj(b:Nat)(d:Dl)(an:An)(w:World)(h:bR b d an w)(fq:d.busy=[])(X:Nat->Prop)(hX:∀j,X j->j<w.heap.size) :
 Calls prog 31 #[.pointer (some ⟨b,0,none⟩)] w fun e w'=>∃s v bm,e=.returned (.pointer (some ⟨s,0,none⟩))/\bp s (xF d) (Po b v bm an X) w'/\bL w w'/\w.heap.size<=s/\w.heap.size<=v/\w.heap.size<=bm:=by
 have HD:=ae h;have et:=ae fq;have RV:=ae hX;clear h fq hX;have hzv:∀w',Sem.run prog (zeroValue 127) w'=.ok (.agg (([Value.pointer none,Value.pointer none]:List Value)++(gL zn none 0++(gL zn none 0++(gL zn none 0++oQ.tail (sa0 0 0 0))))).toArray) w':=fun _=>rfl
 go_enter func31,ntmps31;go_wp2_with fail;refine(X9 b d an w HD.out).mono ?_;rintro e w1 ⟨rfl,hv,aw⟩;have HV:=ae hv;have aN:=ae aw;clear hv aw;go_wp2;go_ret;have aC:=aA w1 (.cells ((Value.pointer (some ⟨b,0,none⟩)::Value.pointer (some ⟨w.heap.size+1,0,none⟩)::(gL zn none 0++(gL zn none 0++(gL zn none 0++oQ.tail (sa0 0 0 0))))).toArray) 127);have qZ:=aK HV.out.a7;have iV:=aN.out.size;refine⟨w1.heap.size,w.heap.size+1,w.heap.size,rfl,⟨acm _ _,?_⟩,af aN.out aC,oM,oM,oM⟩;exact {
  cE:=HV.out.later aC
  map:=IY
  im:=HV.out.map.isMap
  nb:=aaO 0
  hand:=⟨il rfl,by show 0<=_;omega⟩
  cU:=fun _=>rfl
  bS:=aaO 0
  queue:=⟨il rfl,(fun r hr=>by cases hr),by show 0<=_;omega⟩
  fe:=fun _=>rfl
  fA:=aaO 0
  left:=fun i hi=>by
   have e:((xF d).ao i).left=[]:=by
    match i,hi with
    |0,_=>rfl
    |1,_=>rfl
    |2,_=>rfl
   rw[e];exact abg _ _ _ _
  sv:=⟨fun e=>by have:=HV.out.bC _ e;omega,fun(e:w1.heap.size=w.heap.size+1)=>oM⟩
  vl:=fun i _ q' cI=>by cases cI
  ll:=fun i j _ _ _ q' _ cI=>by cases cI
  ia:=fun aE=>absurd rfl aE
  iH:=fun aE=>absurd rfl aE
  fh:=fun r hr=>by
   have dj:r∈([]:List Rq)++d.busy:=hr;rw[et.out] at dj
   cases dj
  gW:=fun j e=>abF (RV.out j e) (by simp;omega) }
theorem Uu{q:Sk}(h:∀i:Nat,i<3->q.waits (i:Int)=false):q.quiet=(q.queue.isEmpty&&q.dev.busy.isEmpty):=by
 have h0:q.waits 0=false:=h 0 oM;have h1:q.waits 1=false:=h 1 oM;have h2:q.waits 2=false:=h 2 oM;unfold Sk.quiet;rw[h0,h1,h2];rfl
theorem Uw{q:Sk}{i:Nat}(hi:i<3)(h:q.waits (i:Int)=true):q.quiet=false:=by
 cases e:q.quiet
 ·rfl
 ·have:=((Uv q).1 e).1 i hi;exact absurd this ((Cy q i hi).1 h)
theorem DP{α:Type}(l:List α):l.isEmpty=((l.length:Int)==0):=by
 cases l with
 |nil=>rfl
 |cons x l=>symm;rw[aaU.2];rfl;rw[acf];omega
def Mw:Option Value->Nat
 |some (.slice _ n _)=>n
 |_=>0
def KD(w:World)(b:Nat):Nat:=Mw (w.cell? ⟨b,66,none⟩)
theorem A4{q:Sk}(hI:bg q)(h:q.bf.1=true):q.bf.2.dev.busy.length=q.dev.busy.length+1:=by
 rcases lJ hI with⟨_,e⟩|⟨i,hi,T,_,_,_,_,e⟩
 ·rw[e] at h;cases h
 ·rw[e];simp
structure OP where
 p:Sk
 A:Sa
 w:World
def iO(R:OP)(s b:Nat)(q:Sk)(wr:World):Prop:=∃p A,bK s R.p R.A p A R.w wr/\p.nf=q/\R.A.b=b
section
variable{W:OP}{wr w':World}{s b:Nat}{q q':Sk}
theorem iO.later(h:iO W s b q wr)(hb:bL wr w'):iO W s b q w':=by
 obtain⟨p,A,h1,h2,h3⟩:=h;exact⟨p,A,h1.later hb,h2,h3⟩
theorem iO.of{p:Sk}{A:Sa}(h3:W.A.b=b)(hs:bK s W.p W.A p A W.w wr)(h:fL s p A wr w' q'):iO W s b q' w':=by
 obtain⟨p',A',h',hn⟩:=h;exact⟨p',A',hs.trans h',hn,h3⟩
theorem Ga(h:iO W s b q wr):KD wr b=q.dev.busy.length:=by
 obtain⟨p,A,hs,rfl,rfl⟩:=h;unfold KD;rw[<-hs.same.1,hs.at'.mem.cE.dev.zm];exact(abe _).symm
end
section
variable(W:OP)(w:World)(s b:Nat)(q:Sk)(n:Nat)
theorem I8(h:iO W s b q w)(c:Int)(t:Bool)(ht:q.waits c=t):Calls prog 63 #[.pointer (some ⟨s,0,none⟩),i6 c] w fun e w'=>e=.returned (.bool t)/\w'=w:=by
 obtain⟨p,A,hs,rfl,_⟩:=h;have h1:=hs.at';exact n6 s p A c w h1 t ht
theorem I6(h:iO W s b q w)(h6:q.queue.length<=1000):Calls prog 45 #[.pointer (some ⟨s,0,none⟩)] w fun e w'=>∃a' c' l,e=.returned (.slice a' q.queue.length c')/\aW w' a' l/\l.map Rq.nf=q.queue/\(a'=none->c'=0)/\bL w w':=by
 obtain⟨p,A,hs,rfl,_⟩:=h;have h1:=hs.at';have e:p.nf.queue.length=p.queue.length:=abe _;rw[e] at h6 ⊢;refine(Gt s p A w h1 h6).mono ?_;rintro x w' ⟨a',c',rfl,hR,hn,hb⟩;exact⟨a',c',p.queue,rfl,hR,rfl,hn,hb⟩
theorem Xq(h:iO W s b q w):Calls prog 46 #[.pointer (some ⟨s,0,none⟩)] w fun e w'=>∃a' c' l,e=.returned (.slice a' q.dev.busy.length c')/\aW w' a' l/\l.map Rq.nf=q.dev.busy/\(a'=none->c'=0)/\bL w w':=by
 obtain⟨p,A,hs,rfl,_⟩:=h;have h1:=hs.at';have e:p.nf.dev.busy.length=p.dev.busy.length:=abe _;rw[e];refine(Je s p A w h1).mono ?_;rintro x w' ⟨a',c',rfl,hR,hn,hb⟩;exact⟨a',c',p.dev.busy,rfl,hR,rfl,hn,hb⟩
theorem ae7(h:iO W s b q w)(hf:eT n q)(hn:n<=4000000)(c kind pl:Int)(data:ByteArray)(x:Int)(q':Sk)(hq:q.ask c kind pl data=(x,q')):Calls prog 27 #[.pointer (some ⟨s,0,none⟩),i6 c,i6 kind,i6 pl,.string data] w fun e w'=>e=.returned (dm x)/\iO W s b q' w':=by
 obtain⟨p,A,hs,rfl,h3⟩:=h;have h1:=hs.at';have tN:=hf.cD;refine(CM s p A w h1 tN.inv (by have:=tN.tags;omega) (by have:=tN.az;omega) c kind pl data x q' hq).mono ?_;rintro e w' ⟨he,hok⟩;exact⟨he,iO.of h3 hs hok⟩
theorem Xr(h:iO W s b q w)(hf:eT n q)(hn:n<=4000000)(q':Sk)(hq:q.tick=q'):Calls prog 37 #[.pointer (some ⟨s,0,none⟩)] w fun e w'=>e=.returned (.tuple #[])/\iO W s b q' w':=by
 obtain⟨p,A,hs,rfl,h3⟩:=h;have h1:=hs.at';have tN:=hf.cD;refine(ME s p A w h1 tN.inv (by have:=tN.tags;omega) (by have:=tN.az;omega) q' hq).mono ?_;rintro e w' ⟨he,hok⟩;exact⟨he,iO.of h3 hs hok⟩
theorem UD(h:iO W s b q w)(hf:eT n q)(hn:n<=4000000)(t:Bool)(q':Sk)(hq:q.clean=(t,q')):Calls prog 40 #[.pointer (some ⟨s,0,none⟩)] w fun e w'=>e=.returned (.bool t)/\iO W s b q' w':=by
 obtain⟨p,A,hs,rfl,h3⟩:=h;have h1:=hs.at';have tN:=hf.cD;refine(Gi s p A w h1 tN.inv (by have:=tN.tags;omega) t q' hq).mono ?_;rintro e w' ⟨he,hok⟩;exact⟨he,iO.of h3 hs hok⟩
theorem Cg(h:iO W s b q w)(hf:eT n q)(t:Bool)(q':Sk)(hq:q.bf=(t,q')):Calls prog 41 #[.pointer (some ⟨s,0,none⟩)] w fun e w'=>e=.returned (.bool t)/\iO W s b q' w':=by
 obtain⟨p,A,hs,rfl,h3⟩:=h;have h1:=hs.at';have tN:=hf.cD;refine(Bg s p A w h1 tN.inv t q' hq).mono ?_;rintro e w' ⟨he,hok⟩;exact⟨he,iO.of h3 hs hok⟩
theorem aap(h:iO W s b q w)(hf:eT n q)(hn:n<=4000000)(i:Int)(fl:Bool)(x:Int)(q':Sk)(hq:q.cz i fl=(x,q')):Calls prog 42 #[.pointer (some ⟨s,0,none⟩),i6 i,.bool fl] w fun e w'=>e=.returned (dm x)/\iO W s b q' w':=by
 obtain⟨p,A,hs,rfl,h3⟩:=h;have h1:=hs.at';have tN:=hf.cD;refine(Ez s p A w h1 tN.inv tN.short (by have:=tN.tags;omega) (by have:=tN.az;omega) (by have:=tN.ag;omega) i fl x q' hq).mono ?_;rintro e w' ⟨he,hok⟩;exact⟨he,iO.of h3 hs hok⟩
end
theorem yA(W:OP)(w:World)(s b:Nat)(q:Sk)(h:iO W s b q w)(h6:q.queue.length<=1000)(t:Bool)(ht:q.quiet=t) :
 Calls prog 24 #[.pointer (some ⟨s,0,none⟩)] w (rB (.bool t) w):=by
 have HO:=ae h;have H6:=ae h6;have HT:=ae ht;clear h h6 ht;go_enter func24,ntmps24;go_wp2
 go_loopw[4] (fun i wr=>∃k:Nat,k<=3/\i=i6 k/\(∀j:Nat,j<k->q.waits (j:Int)=false)/\bL w wr) (fun i _=>3-(intOf i).toNat)
 case atStart=>exact⟨0,oM,rfl,fun j hj=>absurd hj (aa0 _),aX _ _⟩
 case round =>
  obtain⟨k,hk,rfl,dV,jN⟩:=hrel;have xK:=ae jN;have jW:=ae (HO.out.later jN);clear jN;have HN:=ae dV;clear dV
  by_cases au:k<3
  ·have gC:(k:Int)<3:=oM
   cases TE:q.waits (k:Int)
   ·have HW:=ae TE;clear TE;go_wp2_with fail;refine cM (I8 W wr s b q jW.out k false HW.out) ?_;intro w1 rfl;go_wp2;go_roundw
    case rel=>exact⟨k+1,oM,gN,fun j hj=>by by_cases e:j=k;(subst e;exact HW.out);exact HN.out j oM,xK.out⟩
    case measure=>simp[intOf];omega
   ·have HW:=ae TE;have HF:Hid (false=t):=(Uw au TE).symm.trans HT.out;clear TE;go_wp2_with fail;refine cM (I8 W wr s b q jW.out k true HW.out) ?_;intro w1 rfl;go_wp2;go_ret;exact⟨ey HF.out,xK.out⟩
  ·obtain rfl:k=3:=oM;have HE:Hid ((q.queue.isEmpty&&q.dev.busy.isEmpty)=t):=(Uu (fun i hi=>HN.out i hi)).symm.trans HT.out
   cases hq:q.queue.isEmpty
   ·have HF:Hid (false=t):=by have:=HE.out;rw[hq] at this;exact this
    have dC:((q.queue.length:Int)==0)=false:=(DP _).symm.trans hq;have hq3:¬(q.queue.length:Int)=0:=aaU.1 dC;have O8:¬q.queue.length=0:=oM;clear hq;go_wp2_with fail;refine(I6 W wr s b q jW.out H6.out).mono ?_;rintro e w1 ⟨a',c',l,rfl,-,-,-,aw⟩;generalize q.queue.length=n at *;go_wp2;go_ret;exact⟨ey HF.out,af xK.out aw⟩
   ·have HF:Hid (q.dev.busy.isEmpty=t):=by have:=HE.out;rw[hq] at this;exact this
    have dC:q.queue=[]:=agR.1 hq;have HQL:Hid (q.queue.length=0):=by show q.queue.length=0;rw[dC];rfl
    clear hq dC;go_wp2_with fail;refine(I6 W wr s b q jW.out H6.out).mono ?_;rw[HQL.out];rintro e w1 ⟨a',c',l,rfl,-,-,-,aw⟩;go_wp2_with fail;refine(Xq W w1 s b q (jW.out.later aw)).mono ?_;rintro e w2 ⟨a2,c2,l2,rfl,-,-,-,aC⟩;have J9:Hid (((q.dev.busy.length:Int)==0)=t):=(DP _).symm.trans HF.out;generalize q.dev.busy.length=n at *;go_wp2;go_ret;exact⟨ey J9.out,af xK.out (af aw aC)⟩
theorem I7(W:OP)(w:World)(s b:Nat)(q:Sk)(n:Nat)(h:iO W s b q w)(hf:eT n q)(hn:n<=3900000)(q':Sk)(hq:q.round=q') :
 Calls prog 38 #[.pointer (some ⟨s,0,none⟩)] w fun e w'=>e=.returned (.tuple #[])/\iO W s b q' w':=by
 have HO:=ae h;have HF:=ae hf;have HQ:=ae hq;clear h hf hq;go_enter func38,ntmps38;go_wp2_with fail;refine cM (Xr W w s b q n HO.out HF.out oM _ rfl) ?_;intro w1 h1;have jL:=ae h1;clear h1;go_wp2_with fail;refine cM (UD W w1 s b q.tick (n+3) jL.out HF.out.tick oM q.tick.clean.1 q.tick.clean.2 rfl) ?_;intro w2 h2;have ez:=ae h2;have J9:=ae HF.out.tick.clean;have mh:Hid (((q.tick.clean.2.bP 3).cz 0 false).2=q'):=HQ.out;clear h2 HQ jL;generalize q.tick.clean.1=t at *;generalize q.tick.clean.2=q2 at *;go_wp2
 go_loopw[] (fun wr=>∃(j:Nat) (r:Sk),iO W s b r wr/\eT (n+3+1) r/\r.bP j=q2.bP 3/\3<=r.dev.busy.length+j) (fun wr=>3-KD wr b)
 case atStart=>exact⟨3,q2,ez.out,J9.out,rfl,oM⟩
 case round =>
  obtain⟨j,r,ho,qA,hd,hj⟩:=hrel;have jW:=ae ho;have eD:=ae qA;have HD:=ae hd;have aC:=qA.inv.b2;obtain⟨i,rfl⟩:∃i,j=i+1:=⟨j-1,oM⟩
  have HJ:=ae hj;have bT:=ae aC;clear ho qA hd hj aC
  cases ht:r.bf.1
  ·have HE:Hid (r=q2.bP 3):=by
    have:=HD.out;unfold Sk.bP at this;rw[ht,aaP aa7] at this;exact this
   have HS:Hid (r.bf=(false,r)):=by
    rcases lJ eD.out.inv with⟨_,e⟩|⟨_,_,_,_,_,_,_,e⟩
    ·exact e
    ·rw[e] at ht;cases ht
   clear ht;go_wp2_with fail;refine cM (Cg W wr s b r _ jW.out eD.out false r HS.out) ?_;intro w3 h3;have mz:=ae h3;clear h3;go_wp2_with fail;refine(aap W w3 s b r _ mz.out eD.out oM 0 false (r.cz 0 false).1 q' (by rw[agT];exact⟨rfl,by show(r.cz 0 false).2=q';rw[HE.out];exact mh.out⟩)).mono ?_;generalize (r.cz 0 false).1=x;rintro e w4 ⟨rfl,h4⟩;generalize dm x=ev;go_wp2;go_end0;exact⟨rfl,h4⟩
  ·have HE:Hid (r.bf.2.bP i=q2.bP 3):=by
    have:=HD.out;unfold Sk.bP at this;rw[ht,aaV rfl] at this;exact this
   have HM:=ae (A4 eD.out.inv ht);have HT:=ae ht;clear ht;go_wp2_with fail;refine cM (Cg W wr s b r _ jW.out eD.out true r.bf.2 (by rw[agT];exact⟨HT.out,rfl⟩)) ?_;intro w3 h3;have mz:=ae h3;clear h3;go_wp2;go_roundw
   case rel=>exact⟨i,r.bf.2,mz.out,eD.out.bf,HE.out,by have:=HM.out;have:=HJ.out;omega⟩
   case measure=>rw[Ga jW.out,Ga mz.out];have:=HM.out;have:=bT.out;omega
theorem QQ(W:OP)(w:World)(s b:Nat)(q:Sk)(n m:Nat)(h:iO W s b q w)(hf:eT n q)(hn:n+11*m<=3900000)(x:Nat)(q':Sk)(hq:q.settle m=(x,q'))(t:Bool)(ht:q'.quiet=t) :
 Calls prog 28 #[.pointer (some ⟨s,0,none⟩),i6 m] w fun e w'=>e=.returned (.tuple #[i6 x,.bool t])/\iO W s b q' w':=by
 have HO:=ae h;have HF:=ae hf;have HQ:=ae hq;have HT:=ae ht;clear h hf hq ht;go_enter func28,ntmps28;go_wp2
 go_loopw[6] (fun i wr=>∃(k:Nat) (r:Sk),k<=m/\i=i6 k/\iO W s b r wr/\eT (n+11*k) r/\q.settle m=((r.settle (m-k)).1+k,(r.settle (m-k)).2)) (fun i _=>m-(intOf i).toNat)
 case atStart=>exact⟨0,q,oM,rfl,HO.out,HF.out,rfl⟩
 case round =>
  obtain⟨k,r,hk,rfl,ho,qA,hd⟩:=hrel;have jW:=ae ho;have eD:=ae qA;have HD:=ae (hd.symm.trans HQ.out);have H6:Hid (r.queue.length<=1000):=by have:=qA.inv.q6;show r.queue.length<=1000;omega
  clear ho qA hd
  by_cases au:k<m
  ·have gC:(k:Int)<(m:Int):=oM;obtain⟨i,hi⟩:∃i,m-k=i+1:=⟨m-k-1,oM⟩
   have HI:=ae hi;rw[hi] at HD
   cases tP:r.quiet
   ·have pa:Hid (((r.round.settle i).1+(k+1),(r.round.settle i).2)=(x,q')):=by
     have:=HD.out;unfold Sk.settle at this;rw[aaP (by rw[tP];exact aa7)] at this;show _=_;rw[<-this];simp only[acK,acS]
     omega
    have zc:=ae tP;clear tP hi;go_wp2_with fail;refine cM (yA W wr s b r jW.out H6.out false zc.out) ?_;intro w1 aw;have jL:=ae (jW.out.later aw);clear aw;go_wp2_with fail;refine cM (I7 W w1 s b r _ jL.out eD.out oM _ rfl) ?_;intro w2 h2;have ez:=ae h2;clear h2;go_wp2;go_roundw
    case rel=>exact⟨k+1,r.round,oM,gN,ez.out,eD.out.round.mono oM,by
     have e:m-(k+1)=i:=by have:=HI.out;omega
     rw[e];exact HQ.out.trans pa.out.symm⟩
    case measure=>simp[intOf];omega
   ·have pa:Hid (k=x/\r=q'):=by
     show k=x/\r=q';have:=HD.out;unfold Sk.settle at this;rw[aaV tP] at this
     simpa using this
    have zc:=ae tP;have HQ':Hid (true=t):=by have:=HT.out;rw[<-pa.out.2,tP] at this;exact this
    clear tP hi;go_wp2_with fail;refine cM (yA W wr s b r jW.out H6.out true zc.out) ?_;intro w1 aw;have jL:=ae (jW.out.later aw);clear aw;go_wp2_with fail;refine cM (yA W w1 s b r jL.out H6.out true zc.out) ?_;intro w2 aC;have ez:=ae (jL.out.later aC);clear aC;go_wp2;refine aaY (v:=.tuple #[i6 k,.bool true]) (by simp[results,results28,go_sem]) rfl ?_;exact⟨by rw[<-pa.out.1,HQ'.out],by rw[<-pa.out.2];exact ez.out⟩
  ·obtain rfl:k=m:=oM;have pa:Hid (k=x/\r=q'):=by
    show k=x/\r=q';have:=HD.out;rw[afC] at this;unfold Sk.settle at this
    simpa using this
   have zc:Hid (r.quiet=t):=by have:=HT.out;rw[<-pa.out.2] at this;exact this
   go_wp2_with fail;refine cM (yA W wr s b r jW.out H6.out t zc.out) ?_;intro w1 aw;have jL:=ae (jW.out.later aw);clear aw;go_wp2;refine aaY (v:=.tuple #[i6 k,.bool t]) (by simp[results,results28,go_sem]) rfl ?_;exact⟨by rw[<-pa.out.1],by rw[<-pa.out.2];exact jL.out⟩
end
section
open Go.RowKit Go.BigFrame
theorem Pw{a b:Rq}(h:gy a b=false):¬a.f+a.m=b.f\/(a.f+a.m=b.f/\¬a.wr=b.wr)\/(a.f+a.m=b.f/\a.wr=b.wr/\4<a.m+b.m)\/(a.f+a.m=b.f/\a.wr=b.wr/\a.m+b.m<=4/\4<a.tags.length+b.tags.length):=by
 by_cases c1:a.f+a.m=b.f
 ·by_cases c2:a.wr=b.wr
  ·by_cases c3:a.m+b.m<=4
   ·by_cases c4:a.tags.length+b.tags.length<=4
    ·rw[sh.2 ⟨c1,c2,c3,c4⟩] at h;cases h
    ·exact ir (ir (ir ⟨c1,c2,c3,oM⟩))
   ·exact ir (ir (il ⟨c1,c2,oM⟩))
  ·exact ir (il ⟨c1,c2⟩)
 ·exact il c1
theorem QX(a b:Rq)(w:World)(ga:bz a)(gb:bz b)(h1:(b.f+b.m==a.f)=false)(h2:gy a b=false) :
 Calls prog 190 #[a.val,b.val] w (rB (.tuple #[nh,.bool false]) w):=by
 obtain⟨x1,x2,x3,x4,x5⟩:=ga.mi;obtain⟨y1,y2,y3,y4,y5⟩:=gb.mi;have OR:=ga.t4;have OS:=gb.t4
 rcases Pw h2 with c1|⟨c1,c2⟩|⟨c1,c2,c3⟩|⟨c1,c2,c3,c4⟩
 ·have g1:(a.f+a.m != b.f)=true:=by rw[afg];exact c1
  clear c1 h2;go_enter func190,ntmps190;go_wp2;refine aaY (v:=.tuple #[nh,.bool false]) ?_ rfl ⟨rfl,bQ⟩;simp[results,results190,go_sem]
 ·have g1:(a.f+a.m != b.f)=false:=by rw[ace];exact c1
  have g2:(a.wr != b.wr)=true:=by rw[afg];exact c2
  clear c1 h2;go_enter func190,ntmps190;go_wp2;refine aaY (v:=.tuple #[nh,.bool false]) ?_ rfl ⟨rfl,bQ⟩;simp[results,results190,go_sem]
 ·have g1:(a.f+a.m != b.f)=false:=by rw[ace];exact c1
  have g3:decide (4<a.m+b.m)=true:=aa1 c3;clear c1 h2;go_enter func190,ntmps190;go_wp2;refine aaY (v:=.tuple #[nh,.bool false]) ?_ rfl ⟨rfl,bQ⟩;simp[results,results190,go_sem]
 ·have g1:(a.f+a.m != b.f)=false:=by rw[ace];exact c1
  have g3:decide (4<a.m+b.m)=false:=aa9 oM;have g4:(4:Int)<(a.tags.length:Int)+(b.tags.length:Int):=oM;clear c1 h2;go_enter func190,ntmps190;go_wp2;refine aaY (v:=.tuple #[nh,.bool false]) ?_ rfl ⟨rfl,bQ⟩;simp[results,results190,go_sem]
theorem NH(a b:Rq)(w:World)(ga:bz a)(gb:bz b)(h1:(a.f+a.m==b.f)=true)(h2:gy a b=false) :
 Calls prog 190 #[b.val,a.val] w (rB (.tuple #[nh,.bool false]) w):=by
 obtain⟨x1,x2,x3,x4,x5⟩:=ga.mi;obtain⟨y1,y2,y3,y4,y5⟩:=gb.mi;have OR:=ga.t4;have OS:=gb.t4;have g1:(a.f+a.m != b.f)=false:=by rw[ace];exact eq_of_beq h1
 rcases Pw h2 with c1|⟨c1,c2⟩|⟨c1,c2,c3⟩|⟨c1,c2,c3,c4⟩
 ·exact absurd (eq_of_beq h1) c1
 ·have g2:(a.wr != b.wr)=true:=by rw[afg];exact c2
  clear c1 h2;go_enter func190,ntmps190;go_wp2;refine aaY (v:=.tuple #[nh,.bool false]) ?_ rfl ⟨rfl,bQ⟩;simp[results,results190,go_sem]
 ·have g3:decide (4<a.m+b.m)=true:=aa1 c3;clear c1 h2;go_enter func190,ntmps190;go_wp2;refine aaY (v:=.tuple #[nh,.bool false]) ?_ rfl ⟨rfl,bQ⟩;simp[results,results190,go_sem]
 ·have g3:decide (4<a.m+b.m)=false:=aa9 oM;have g4:(4:Int)<(a.tags.length:Int)+(b.tags.length:Int):=oM;clear c1 h2;go_enter func190,ntmps190;go_wp2;refine aaY (v:=.tuple #[nh,.bool false]) ?_ rfl ⟨rfl,bQ⟩;simp[results,results190,go_sem]
end
end Go.Proofs.YtlhgjplipgandaaGreatDoor
