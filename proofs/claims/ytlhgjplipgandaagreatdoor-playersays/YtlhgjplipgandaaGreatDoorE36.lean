/- Joined. -/
import Derived.Test.YtlhgjplipgandaaGreatDoorE35
set_option maxRecDepth 100000
set_option maxHeartbeats 8000000
set_option linter.unusedSimpArgs false
set_option linter.unusedSectionVars false
namespace Go.Proofs.YtlhgjplipgandaaGreatDoor
open Tryz
open Go.RowKit Go.BigFrame Go.Maps
theorem eU.aaJ{n:Nat}{p:Sk}(h:eU n p)(hn:n<=3900000):(∀r∈p.queue,sJ r/\r.tags.length<=8)/\p.queue.length<=1000:=by
 refine⟨fun r hr=>⟨fun i hi=>?_,?_⟩,by have:=h.inv.q6;omega⟩
 ·have h1:=h.inv.oH r (acw _ hr) (r.tags.getD i 0) (by rw[acr,acb hi];exact ach hi);have:=h.tags;show _/\_
  constructor<;>omega
 ·have:=(h.inv.bP r (acw _ hr)).t4
  omega
theorem eU.aaI{n:Nat}{p:Sk}(h:eU n p)(hn:n<=3900000):(∀r∈p.dev.busy,sJ r/\r.tags.length<=8)/\p.dev.busy.length<=1000:=by
 refine⟨fun r hr=>⟨fun i hi=>?_,?_⟩,by have:=h.inv.b2;omega⟩
 ·have h1:=h.inv.oH r (acj _ hr) (r.tags.getD i 0) (by rw[acr,acb hi];exact ach hi);have:=h.tags;show _/\_
  constructor<;>omega
 ·have:=(h.inv.bP r (acj _ hr)).t4
  omega
section
variable(W:World)(g s:Nat)(p:Sk)(A:Sa)(w:World)
theorem U3(h:kF g s p A w)(n:Nat)(hf:eU n p)(_:n<=3880000)(hLW:TabW W)(ft:bL W w)(fy:∀j,A.au s j->W.heap.size<=j)(fA:W.heap.size<=g)(xa xb:Int)(dt:ByteArray)(HG:Hid (cr p))(hx:jC ⟨⟨#[103,111,116]⟩,xa,xb,dt⟩)(h0:bY ⟨⟨#[103,111,116]⟩,xa,xb,dt⟩=0):Calls prog 12 #[.pointer (some ⟨g,0,none⟩),.agg #[.string ⟨#[103,111,116]⟩,i6 xa,i6 xb,.string dt]] w (j6 g s A w (Aq p.nf xa) p.nf):=by
 have HP:=aa h;have gY:=aa (vw hx h0);have HI:=aa hf;have iy:=aa hLW;have iw:=aa (⟨ft,fy,fA⟩:_/\_/\_);have kS:=aH h.aW;have dq:¬A.au s w.heap.size:=(fun e=>by have:=h.st.bz _ e;omega);have fZ:=aa dq;clear h hx hf hLW ft fy fA dq h0;go_enter func12,ntmps12;go_wp2_with fail;refine cM (gY.out _) ?_;intro w1 aw;have aU:Hid (bL w w1):=ab (aB w _) aw;have dF:=aa (HP.out.later aU.out);have eE:=aa (fun t w' (hk:jT g s A w1 t w')=>hk.gO aU.out);obtain⟨b0,b1,b2,b3⟩:=pR aw;have g1:w1.cell? ⟨g,1,none⟩=some (.pointer (some ⟨s,0,none⟩)):=(HP.out.later aU.out).cells.2.1;have lK:=al g1;have nz:=al b0;clear aw gY;go_wp2_with fail;refine cM (UX g s p A _ dF.out ((iy.out.later iw.out.1).later aU.out) (fun i=>HG.out.aax i) xa) ?_;intro w2 aA;have gZ:=aa (eE.out _ _ (dF.out.same aA));clear aA;go_wp2;go_ret;exact⟨rfl,gZ.out⟩
theorem OU(h:kF g s p A w)(n:Nat)(hf:eU n p)(_:n<=3880000)(hLW:TabW W)(ft:bL W w)(fy:∀j,A.au s j->W.heap.size<=j)(fA:W.heap.size<=g)(xa xb:Int)(dt:ByteArray)(hx:jC ⟨⟨#[100,105,114,116,121]⟩,xa,xb,dt⟩)(h0:bY ⟨⟨#[100,105,114,116,121]⟩,xa,xb,dt⟩=0):Calls prog 12 #[.pointer (some ⟨g,0,none⟩),.agg #[.string ⟨#[100,105,114,116,121]⟩,i6 xa,i6 xb,.string dt]] w (j6 g s A w (Lib.itoa (bT p.hand)) p.nf):=by
 obtain⟨k,hk⟩:∃k,bT p.hand=k:=⟨_,rfl⟩
 have HK:=aa hk;have IL:Hid (k<=8):=by
  have h1:=hf.inv.hand.len;have h2:(p.hand.filter fun x=>x.bO).length<=p.hand.length:=ade _ _;have h3:(p.hand.filter fun x=>x.bO).length=k:=hk;show k<=8
  omega
 rw[hk];clear hk;have HP:=aa h;have gY:=aa (vw hx h0);have HI:=aa hf;have iy:=aa hLW;have iw:=aa (⟨ft,fy,fA⟩:_/\_/\_);have kS:=aH h.aW;have dq:¬A.au s w.heap.size:=(fun e=>by have:=h.st.bz _ e;omega);have fZ:=aa dq;clear h hx hf hLW ft fy fA dq h0;go_enter func12,ntmps12;go_wp2_with fail;refine cM (gY.out _) ?_;intro w1 aw;have aU:Hid (bL w w1):=ab (aB w _) aw;have dF:=aa (HP.out.later aU.out);have eE:=aa (fun t w' (hk:jT g s A w1 t w')=>hk.gO aU.out);obtain⟨b0,b1,b2,b3⟩:=pR aw;have g1:w1.cell? ⟨g,1,none⟩=some (.pointer (some ⟨s,0,none⟩)):=(HP.out.later aU.out).cells.2.1;have lK:=al g1;have nz:=al b0;clear aw gY;go_wp2_with fail;refine cM (mr s p A _ dF.out.st k HK.out) ?_;intro w2 aA;have cw:=aa aA;clear aA;go_wp2_with fail;refine cM (qI k _ (((iy.out.later iw.out.1).later aU.out).later cw.out) oM (by have:=IL.out;omega)) ?_;intro w3 bC;have gZ:=aa (eE.out _ _ (dF.out.same (ab cw.out bC)));clear bC;go_wp2;go_ret;exact⟨rfl,gZ.out⟩
theorem OW(h:kF g s p A w)(n:Nat)(hf:eU n p)(_:n<=3880000)(hLW:TabW W)(ft:bL W w)(fy:∀j,A.au s j->W.heap.size<=j)(fA:W.heap.size<=g)(xa xb:Int)(dt:ByteArray)(hx:jC ⟨⟨#[113,117,101,117,101]⟩,xa,xb,dt⟩)(h0:bY ⟨⟨#[113,117,101,117,101]⟩,xa,xb,dt⟩=0):Calls prog 12 #[.pointer (some ⟨g,0,none⟩),.agg #[.string ⟨#[113,117,101,117,101]⟩,i6 xa,i6 xb,.string dt]] w (j6 g s A w (lF p.queue) p.nf):=by
 have IQ:Hid ((∀r∈p.queue,sJ r/\r.tags.length<=8)/\p.queue.length<=1000):=hf.aaJ oM;have HP:=aa h;have gY:=aa (vw hx h0);have HI:=aa hf;have iy:=aa hLW;have iw:=aa (⟨ft,fy,fA⟩:_/\_/\_);have kS:=aH h.aW;have dq:¬A.au s w.heap.size:=(fun e=>by have:=h.st.bz _ e;omega);have fZ:=aa dq;clear h hx hf hLW ft fy fA dq h0;go_enter func12,ntmps12;go_wp2_with fail;refine cM (gY.out _) ?_;intro w1 aw;have aU:Hid (bL w w1):=ab (aB w _) aw;have dF:=aa (HP.out.later aU.out);have eE:=aa (fun t w' (hk:jT g s A w1 t w')=>hk.gO aU.out);obtain⟨b0,b1,b2,b3⟩:=pR aw;have g1:w1.cell? ⟨g,1,none⟩=some (.pointer (some ⟨s,0,none⟩)):=(HP.out.later aU.out).cells.2.1;have lK:=al g1;have nz:=al b0;clear aw gY;go_wp2_with fail;refine(zn s p A _ dF.out.st (by have:=HI.out.inv.q6;omega)).mono ?_;rintro e w2 ⟨a2,c2,rfl,dL,-,aA⟩;have cw:=aa aA;have kN:=aa dL;clear aA dL;go_wp2_with fail;refine cM (A0 p.queue a2 c2 _ kN.out (((iy.out.later iw.out.1).later aU.out).later cw.out) IQ.out.1 IQ.out.2) ?_;intro w3 bC;have gZ:=aa (eE.out _ _ (dF.out.same (ab cw.out bC)));clear bC;go_wp2;go_ret;exact⟨rfl,gZ.out⟩
theorem Sb(h:kF g s p A w)(n:Nat)(hf:eU n p)(_:n<=3880000)(hLW:TabW W)(ft:bL W w)(fy:∀j,A.au s j->W.heap.size<=j)(fA:W.heap.size<=g)(xa xb:Int)(dt:ByteArray)(hx:jC ⟨⟨#[98,117,115,121]⟩,xa,xb,dt⟩)(h0:bY ⟨⟨#[98,117,115,121]⟩,xa,xb,dt⟩=0):Calls prog 12 #[.pointer (some ⟨g,0,none⟩),.agg #[.string ⟨#[98,117,115,121]⟩,i6 xa,i6 xb,.string dt]] w (j6 g s A w (lF p.dev.busy) p.nf):=by
 have IQ:Hid ((∀r∈p.dev.busy,sJ r/\r.tags.length<=8)/\p.dev.busy.length<=1000):=hf.aaI oM;have HP:=aa h;have gY:=aa (vw hx h0);have HI:=aa hf;have iy:=aa hLW;have iw:=aa (⟨ft,fy,fA⟩:_/\_/\_);have kS:=aH h.aW;have dq:¬A.au s w.heap.size:=(fun e=>by have:=h.st.bz _ e;omega);have fZ:=aa dq;clear h hx hf hLW ft fy fA dq h0;go_enter func12,ntmps12;go_wp2_with fail;refine cM (gY.out _) ?_;intro w1 aw;have aU:Hid (bL w w1):=ab (aB w _) aw;have dF:=aa (HP.out.later aU.out);have eE:=aa (fun t w' (hk:jT g s A w1 t w')=>hk.gO aU.out);obtain⟨b0,b1,b2,b3⟩:=pR aw;have g1:w1.cell? ⟨g,1,none⟩=some (.pointer (some ⟨s,0,none⟩)):=(HP.out.later aU.out).cells.2.1;have lK:=al g1;have nz:=al b0;clear aw gY;go_wp2_with fail;refine(A8 s p A _ dF.out.st).mono ?_;rintro e w2 ⟨a2,c2,rfl,dL,-,aA⟩;have cw:=aa aA;have kN:=aa dL;clear aA dL;go_wp2_with fail;refine cM (A0 p.dev.busy a2 c2 _ kN.out (((iy.out.later iw.out.1).later aU.out).later cw.out) IQ.out.1 IQ.out.2) ?_;intro w3 bC;have gZ:=aa (eE.out _ _ (dF.out.same (ab cw.out bC)));clear bC;go_wp2;go_ret;exact⟨rfl,gZ.out⟩
end
theorem IX(wd:ByteArray)(xa xb:Int)(dt:ByteArray)(h:bY ⟨wd,xa,xb,dt⟩=0):0<=xa/\xa<=999:=(xW h).2.2.1
section
variable(W:World)(g s:Nat)(p:Sk)(A:Sa)(w:World)
theorem OT(h:kF g s p A w)(n:Nat)(hf:eU n p)(_:n<=3880000)(hLW:TabW W)(ft:bL W w)(fy:∀j,A.au s j->W.heap.size<=j)(fA:W.heap.size<=g)(xa xb:Int)(dt:ByteArray)(hx:jC ⟨⟨#[99,114,97,115,104]⟩,xa,xb,dt⟩)(h0:bY ⟨⟨#[99,114,97,115,104]⟩,xa,xb,dt⟩=0):Calls prog 12 #[.pointer (some ⟨g,0,none⟩),.agg #[.string ⟨#[99,114,97,115,104]⟩,i6 xa,i6 xb,.string dt]] w (j6 g s A w (eA 0) (vy (p.dev.fk xa))):=by
 have tE:=IX _ _ _ _ h0;have si:IntKind.u64.wrap xa=xa:=by clear h0 hx;rw[IntKind.wrap_u64];omega
 have P5:=aa tE;clear tE;have HP:=aa h;have gY:=aa (vw hx h0);have HI:=aa hf;have iy:=aa hLW;have iw:=aa (⟨ft,fy,fA⟩:_/\_/\_);have kS:=aH h.aW;have dq:¬A.au s w.heap.size:=(fun e=>by have:=h.st.bz _ e;omega);have fZ:=aa dq;clear h hx hf hLW ft fy fA dq h0;go_enter func12,ntmps12;go_wp2_with fail;refine cM (gY.out _) ?_;intro w1 aw;have aU:Hid (bL w w1):=ab (aB w _) aw;have dF:=aa (HP.out.later aU.out);have eE:=aa (fun t w' (hk:jT g s A w1 t w')=>hk.gO aU.out);obtain⟨b0,b1,b2,b3⟩:=pR aw;have g1:w1.cell? ⟨g,1,none⟩=some (.pointer (some ⟨s,0,none⟩)):=(HP.out.later aU.out).cells.2.1;have lK:=al g1;have nz:=al b0;clear aw gY;go_wp2_with fail;refine cM (TR g s p A _ dF.out xa (by have:=P5.out;omega) _ rfl) ?_;intro w2 hok;have ey:=aa (eE.out _ _ hok);clear hok;go_wp2_with fail;refine cM (vB 0 _ (iy.out.later (ey.out.bel iw.out.1 iw.out.2.1 iw.out.2.2)) oM) ?_;intro w3 bC;have gZ:=aa (ey.out.later bC);clear bC;go_wp2;go_ret;exact⟨rfl,gZ.out⟩
end
theorem G8(m:Nat):∀p:Sk,(p.settle m).1<=m:=by
 induction m with
 |zero=>exact fun _=>ab5 0
 |succ m ih =>
  intro p;unfold Sk.settle
  split
  ·exact ac0 _
  ·exact Nat.succ_le_succ (ih _)
section
variable(W:World)(g s:Nat)(p:Sk)(A:Sa)(w:World)
theorem LB(h:kF g s p A w)(n:Nat)(hf:eU n p)(_:n<=3880000)(hLW:TabW W)(ft:bL W w)(fy:∀j,A.au s j->W.heap.size<=j)(fA:W.heap.size<=g)(xa xb:Int)(dt:ByteArray)(hx:jC ⟨⟨#[115,101,116,116,108,101]⟩,xa,xb,dt⟩)(h0:bY ⟨⟨#[115,101,116,116,108,101]⟩,xa,xb,dt⟩=0):Calls prog 12 #[.pointer (some ⟨g,0,none⟩),.agg #[.string ⟨#[115,101,116,116,108,101]⟩,i6 xa,i6 xb,.string dt]] w (j6 g s A w (Lib.itoa (p.nf.settle xa.toNat).1++[32]++oc (p.nf.settle xa.toNat).2.quiet) (p.nf.settle xa.toNat).2):=by
 have tE:0<=xa/\xa<=999:=IX _ _ _ _ h0;obtain⟨m,hm⟩:∃m:Nat,xa=m:=⟨xa.toNat,(aeU tE.1).symm⟩
 have HM:Hid (m<=999):=by show m<=999;have:=tE.2;clear h0 hx;omega
 have HE:=aa hm;rw[show xa.toNat=m by rw[hm,acE]];clear tE hm;obtain⟨z,hz⟩:∃z,p.nf.settle m=z:=⟨_,rfl⟩
 obtain⟨k,q'⟩:=z;obtain⟨t,ht⟩:∃t,q'.quiet=t:=⟨_,rfl⟩
 have HZ:=aa hz;have HT:=aa ht;have HK:Hid (k<=1000):=by have:=G8 m p.nf;rw[hz] at this;have:=HM.out;show k<=1000;clear h0 hx;omega
 rw[hz];show Calls _ _ _ _ (j6 g s A w (Lib.itoa k++[32]++oc q'.quiet) q');rw[ht];clear hz ht;obtain⟨T1,DX⟩:∃T1,Lib.itoa k++[32]=T1:=⟨_,rfl⟩
 obtain⟨T2,p8⟩:∃T2,T1++oc t=T2:=⟨_,rfl⟩
 have mf:=nK k ⟨by clear h0 hx;omega,by have:=HK.out;clear h0 hx;omega⟩;have oU:(oc t).length<=10:=(by cases t<;>decide)
 have uZ:∀W',Sem.run prog (Op.stringOp .add ⟨(Lib.itoa k).toArray⟩ ⟨#[32]⟩) W'=.ok (.string ⟨T1.toArray⟩) W':=fun W'=>by rw[<-DX];exact xG (Lib.itoa k) [32] (by clear h0 hx;simp;omega) W'
 have lI:∀W',Sem.run prog (Op.stringOp .add ⟨T1.toArray⟩ ⟨(oc t).toArray⟩) W'=.ok (.string ⟨T2.toArray⟩) W':=fun W'=>by rw[<-p8];exact xG T1 (oc t) (by rw[<-DX];clear h0 hx;simp;omega) W'
 rw[DX,p8];clear DX p8 mf oU;have HP:=aa h;have gY:=aa (vw hx h0);have HI:=aa hf;have iy:=aa hLW;have iw:=aa (⟨ft,fy,fA⟩:_/\_/\_);have kS:=aH h.aW;have dq:¬A.au s w.heap.size:=(fun e=>by have:=h.st.bz _ e;omega);have fZ:=aa dq;clear h hx hf hLW ft fy fA dq h0;go_enter func12,ntmps12;go_wp2_with fail;refine cM (gY.out _) ?_;intro w1 aw;have aU:Hid (bL w w1):=ab (aB w _) aw;have dF:=aa (HP.out.later aU.out);have eE:=aa (fun t w' (hk:jT g s A w1 t w')=>hk.gO aU.out);obtain⟨b0,b1,b2,b3⟩:=pR aw;have g1:w1.cell? ⟨g,1,none⟩=some (.pointer (some ⟨s,0,none⟩)):=(HP.out.later aU.out).cells.2.1;have lK:=al g1;have nz:=al b0;clear aw gY;have IP:Hid (∀w',bL w1 w'->Calls prog 28 #[.pointer (some ⟨s,0,none⟩),i6 xa] w' fun e w2=>e=.returned (.tuple #[i6 k,.bool t])/\iE ⟨p,A,w1⟩ s A.b q' w2):=fun w' hb=>by
  rw[HE.out];exact O4 ⟨p,A,w1⟩ _ s A.b p.nf n m ⟨p,A,bN.cW dF.out.st hb,rfl,rfl⟩ HI.out.nf (by have:=HM.out;omega) k q' HZ.out t HT.out
 generalize w.heap.size=q at *;go_upto_region 23 with fail
 go_region_held3 (fun w'=>w'.cell? ⟨g,1,none⟩=some (.pointer (some ⟨s,0,none⟩))/\w'.cell? ⟨q,1,none⟩=some (i6 xa)) (first|exact⟨af (w:=w1) (aQ _ _) g1,af (w:=w1) (aQ _ _) b1⟩|exact⟨af (w:=w1) (aQ _ _).drew g1,af (w:=w1) (aQ _ _).drew b1⟩|exact⟨aM,aM⟩) (first|(go_at_call 28;refine(IP.out _ bQ).mono ?_;rintro e wA ⟨rfl,pA,AA,fo,hnA,-⟩;have ey:=aa (eE.out _ _ (dF.out.code (aQ _ _) ⟨pA,AA,fo,hnA⟩));have m0:=(fo.only.cell (p:=⟨g,1,none⟩) lK HP.out.off).trans g1;have m1:=(fo.only.cell (p:=⟨q,1,none⟩) nz fZ.out).trans b1))
 all_goals
  clear fo;go_wp2_with fail;refine cM (qI k _ (iy.out.later (ey.out.bel iw.out.1 iw.out.2.1 iw.out.2.2)) oM (by have:=HK.out;omega)) ?_;intro wT dY;have gZ:=aa (ey.out.later dY);clear dY;go_wp2_with fail;refine cM (K0 _ _) ?_;intro w3 rfl;go_wp2;go_ret;exact⟨rfl,gZ.out⟩
end
theorem I0(kp:Int)(l:List Wn)(hl:∀x∈l,x.data.size<=4):∀now:List ByteArray,(∀s∈now,s.size<=4)->∀s∈gM kp l now,s.size<=4:=by
 induction l with
 |nil=>exact fun _ h=>h
 |cons x l ih =>
  intro now h;refine ih (fun y hy=>hl y (adx _ hy)) (if mG kp x.bit=true then now.set x.pl x.data else now) ?_
  split
  ·intro s hs
   rcases acW hs with e|e
   ·exact h s e
   ·rw[e];exact hl x adi
  ·exact h
theorem dG.fk{d:Dl}(h:dG d)(kp:Int):dG (d.fk kp):=by
 have h1:∀s∈gM kp d.wr d.bP,s.size<=4:=I0 kp d.wr h.2.2 _ h.2.1;exact⟨h1,h1,fun x hx=>by cases hx⟩
theorem eU.fk{n:Nat}{q:Sk}(h:eU n q)(kp:Int):eU 0 (vy (q.dev.fk kp)):=by
 have hs:=FO;have e:(vy (q.dev.fk kp)).dev=q.dev.fk kp:=rfl;have hl:(gM kp q.dev.wr q.dev.bP).length=32:=by rw[Hn];exact h.inv.fV
 exact⟨⟨hs.inv.fR,hs.inv.nU,hs.inv.hand,hs.inv.d6,hs.inv.bP,hs.inv.apart,hs.inv.q6,hs.inv.b2,hs.inv.jZ,hs.inv.tg,hs.inv.us,hs.inv.oH,hl,hl,hs.inv.ts,hs.inv.fr⟩,h.short.fk kp,hs.tags,hs.ax,hs.ag⟩
def iD(q:Sk)(x:St):List UInt8 × Sk :=
 if x.word=pc then(eA (q.ask x.a 1 x.b x.data).1,(q.ask x.a 1 x.b x.data).2)
 else if x.word=nc then(eA (q.ask x.a 2 x.b x.data).1,(q.ask x.a 2 x.b x.data).2)
 else if x.word=pe then(eA (q.ask x.a 3 x.b x.data).1,(q.ask x.a 3 x.b x.data).2)
 else if x.word=r9 then(Aq q x.a,q)
 else if x.word=pf then(eA 0,q.tick)
 else if x.word=na then(eA 0,q.round)
 else if x.word=mV then(oc q.clean.1,q.clean.2)
 else if x.word=jw then(oc q.bf.1,q.bf.2)
 else if x.word=r8 then(eA (q.cA x.a false).1,(q.cA x.a false).2)
 else if x.word=mY then(eA (q.cA x.a true).1,(q.cA x.a true).2)
 else if x.word=lC then(Lib.itoa (q.settle x.a.toNat).1++[32]++oc (q.settle x.a.toNat).2.quiet,(q.settle x.a.toNat).2)
 else if x.word=mZ then(lF q.queue,q)
 else if x.word=pa then(lF q.dev.busy,q)
 else if x.word=mX then(Lib.itoa (bT q.hand),q)
 else if x.word=mW then(eA 0,vy (q.dev.fk x.a))
 else(eA 0,q)
def nM(q:Sk)(x:St):List UInt8 × Sk:=if bY x=0 then iD q x else(eA (bY x),q)
structure mF(n:Nat)(q:Sk):Prop where
 fit:eU n q
 gG:cr q
theorem mF.mono{n m:Nat}{q:Sk}(h:mF n q)(hm:n<=m):mF m q:=⟨h.fit.mono hm,h.gG⟩
theorem SV:mF 0 lL:=⟨FO,zm⟩
theorem mF.fk{n:Nat}{q:Sk}(h:mF n q)(kp:Int):mF 0 (vy (q.dev.fk kp)):=⟨h.fit.fk kp,zm⟩
theorem df{P:List UInt8 × Sk->Prop}{c:Prop} [Decidable c]{a b:List UInt8 × Sk}(ha:c->P a)(hb:¬c->P b):P (if c then a else b):=by
 by_cases h:c
 ·rw[aca h];exact ha h
 ·rw[ab6 h];exact hb h
abbrev ub(n:Nat)(z:List UInt8 × Sk):Prop:=mF (n+10989) z.2
theorem mF.step{n:Nat}{q:Sk}(h:mF n q)(x:St)(hx:x.a<=999):mF (n+10989) (iD q x).2:=by
 have key:ub n (iD q x):=by
  unfold iD;refine df (P:=ub n) (fun _=>⟨(h.fit.ask _ _ _ _).mono oM,cr.ask h.fit.inv h.gG _ _ _ _⟩) (fun _=>?_);refine df (P:=ub n) (fun _=>⟨(h.fit.ask _ _ _ _).mono oM,cr.ask h.fit.inv h.gG _ _ _ _⟩) (fun _=>?_);refine df (P:=ub n) (fun _=>⟨(h.fit.ask _ _ _ _).mono oM,cr.ask h.fit.inv h.gG _ _ _ _⟩) (fun _=>?_);refine df (P:=ub n) (fun _=>h.mono oM) (fun _=>?_);refine df (P:=ub n) (fun _=>⟨h.fit.tick.mono oM,cr.tick h.fit.inv h.gG⟩) (fun _=>?_);refine df (P:=ub n) (fun _=>⟨h.fit.round.mono oM,cr.round h.fit h.gG⟩) (fun _=>?_);refine df (P:=ub n) (fun _=>⟨h.fit.clean.mono oM,cr.clean h.gG⟩) (fun _=>?_);refine df (P:=ub n) (fun _=>⟨h.fit.bf.mono oM,cr.bf h.gG⟩) (fun _=>?_);refine df (P:=ub n) (fun _=>⟨(h.fit.cA _ _).mono oM,cr.cA h.fit.inv h.fit.short h.gG _ _⟩) (fun _=>?_);refine df (P:=ub n) (fun _=>⟨(h.fit.cA _ _).mono oM,cr.cA h.fit.inv h.fit.short h.gG _ _⟩) (fun _=>?_);refine df (P:=ub n) (fun _=>⟨(h.fit.settle _).mono oM,cr.settle _ h.fit h.gG⟩) (fun _=>?_);refine df (P:=ub n) (fun _=>h.mono oM) (fun _=>?_);refine df (P:=ub n) (fun _=>h.mono oM) (fun _=>?_);refine df (P:=ub n) (fun _=>h.mono oM) (fun _=>?_);refine df (P:=ub n) (fun _=>(h.fk _).mono oM) (fun _=>?_);exact h.mono oM
 exact key
theorem TB(x:St)(h:bY x=0):x.a<=999:=(xW h).2.2.1.2
theorem mF.abY{n:Nat}{q:Sk}(h:mF n q)(x:St):mF (n+10989) (nM q x).2:=by
 unfold nM
 split
 ·exact h.step x (TB x aM)
 ·exact h.mono oM
theorem zk(l:List Rq):lF (l.map Rq.nf)=lF l:=by
 unfold lF
 cases l with
 |nil=>rfl
 |cons r l =>
  rw[ab6 sM,ab6 sM,List.map_map]
  rfl
theorem wU(x:St):0<=bY x/\bY x<=100:=by
 unfold bY
 split
 ·omega
 split
 ·omega
 split
 ·omega
 split
 ·omega
 split
 ·omega
 split<;>omega
abbrev uc(g s:Nat)(A:Sa)(w:World)(xw:ByteArray)(xa xb:Int)(dt:ByteArray)(z:List UInt8 × Sk):Prop:=Calls prog 12 #[.pointer (some ⟨g,0,none⟩),.agg #[.string xw,i6 xa,i6 xb,.string dt]] w (j6 g s A w z.1 z.2)
section
variable(W:World)(g s:Nat)(p:Sk)(A:Sa)(w:World)
theorem UZ(h:kF g s p A w)(n:Nat)(_:mF n p.nf)(_:n<=3880000)(hLW:TabW W)(ft:bL W w)(_:∀j,A.au s j->W.heap.size<=j)(_:W.heap.size<=g)(xw:ByteArray)(xa xb:Int)(dt:ByteArray)(hx:jC ⟨xw,xa,xb,dt⟩)(h0:¬bY ⟨xw,xa,xb,dt⟩=0):Calls prog 12 #[.pointer (some ⟨g,0,none⟩),.agg #[.string xw,i6 xa,i6 xb,.string dt]] w (j6 g s A w (eA (bY ⟨xw,xa,xb,dt⟩)) p.nf):=by
 have gY:=aa (fun w'=>EM ⟨xw,xa,xb,dt⟩ w' hx);have HS:=aa (wU ⟨xw,xa,xb,dt⟩);generalize bY ⟨xw,xa,xb,dt⟩=er at *;have HP:=aa h;have iy:=aa (hLW.later ft);have Yl:=aa (fun w':World=>(by have:=gY.out w';rw[show dz er=.iface 87 (i6 er) by rw[dz,ab6 h0]] at this;exact this));have B3:=aa (fun w' h'=>(by have:=nA er w' h' HS.out;rw[show dz er=.iface 87 (i6 er) by rw[dz,ab6 h0]] at this;exact this));clear h hLW ft hx h0 gY;go_enter func12,ntmps12;go_wp2_with fail;refine cM (Yl.out _) ?_;intro w1 aw;have aU:Hid (bL w w1):=ab (aB w _) aw;clear aw Yl;go_wp2_with fail;refine cM (B3.out _ (iy.out.later aU.out)) ?_;intro w2 aA;have cw:=aa (ab aU.out aA);clear aA B3;go_wp2;go_ret;exact⟨rfl,HP.out.same cw.out⟩
theorem Kh(h:kF g s p A w)(n:Nat)(hf:mF n p.nf)(hn:n<=3880000)(hLW:TabW W)(ft:bL W w)(fy:∀j,A.au s j->W.heap.size<=j)(fA:W.heap.size<=g)(x:St)(hx:jC x):Calls prog 12 #[.pointer (some ⟨g,0,none⟩),x.val] w (j6 g s A w (nM p.nf x).1 (nM p.nf x).2):=by
 have hF:eU n p:=hf.fit.cD;obtain⟨xw,xa,xb,dt⟩:=x;show Calls prog 12 #[.pointer (some ⟨g,0,none⟩),.agg #[.string xw,i6 xa,i6 xb,.string dt]] w _;unfold nM
 by_cases h0:bY ⟨xw,xa,xb,dt⟩=0
 ·rw[aca h0];have hw:=(xW h0).1;have key:uc g s A w xw xa xb dt (iD p.nf ⟨xw,xa,xb,dt⟩):=by
   unfold iD;refine df (P:=uc g s A w xw xa xb dt) (fun e=>by subst e;exact Sc W g s p A w h n hF hn hLW ft fy fA xa xb dt hx h0) (fun e0=>?_);refine df (P:=uc g s A w xw xa xb dt) (fun e=>by subst e;exact OY W g s p A w h n hF hn hLW ft fy fA xa xb dt hx h0) (fun e1=>?_);refine df (P:=uc g s A w xw xa xb dt) (fun e=>by subst e;exact Sd W g s p A w h n hF hn hLW ft fy fA xa xb dt hx h0) (fun e2=>?_);refine df (P:=uc g s A w xw xa xb dt) (fun e=>by subst e;exact U3 W g s p A w h n hF hn hLW ft fy fA xa xb dt (aa hf.gG) hx h0) (fun e3=>?_);refine df (P:=uc g s A w xw xa xb dt) (fun e=>by subst e;exact Se W g s p A w h n hF hn hLW ft fy fA xa xb dt hx h0) (fun e4=>?_);refine df (P:=uc g s A w xw xa xb dt) (fun e=>by subst e;exact OX W g s p A w h n hF hn hLW ft fy fA xa xb dt hx h0) (fun e5=>?_);refine df (P:=uc g s A w xw xa xb dt) (fun e=>by subst e;exact OS W g s p A w h n hF hn hLW ft fy fA xa xb dt hx h0) (fun e6=>?_);refine df (P:=uc g s A w xw xa xb dt) (fun e=>by subst e;exact Hx W g s p A w h n hF hn hLW ft fy fA xa xb dt hx h0) (fun e7=>?_);refine df (P:=uc g s A w xw xa xb dt) (fun e=>by subst e;exact U0 W g s p A w h n hF hn hLW ft fy fA xa xb dt hx h0) (fun e8=>?_);refine df (P:=uc g s A w xw xa xb dt) (fun e=>by subst e;exact OV W g s p A w h n hF hn hLW ft fy fA xa xb dt hx h0) (fun e9=>?_);refine df (P:=uc g s A w xw xa xb dt) (fun e=>by subst e;exact LB W g s p A w h n hF hn hLW ft fy fA xa xb dt hx h0) (fun Zg=>?_);refine df (P:=uc g s A w xw xa xb dt) (fun e=>by subst e;have:=OW W g s p A w h n hF hn hLW ft fy fA xa xb dt hx h0;rw[<-zk] at this;exact this) (fun Zh=>?_);refine df (P:=uc g s A w xw xa xb dt) (fun e=>by subst e;have:=Sb W g s p A w h n hF hn hLW ft fy fA xa xb dt hx h0;rw[<-zk] at this;exact this) (fun Zi=>?_);refine df (P:=uc g s A w xw xa xb dt) (fun e=>by subst e;exact OU W g s p A w h n hF hn hLW ft fy fA xa xb dt hx h0) (fun Zj=>?_);refine df (P:=uc g s A w xw xa xb dt) (fun e=>by subst e;exact OT W g s p A w h n hF hn hLW ft fy fA xa xb dt hx h0) (fun Zk=>?_);have fh:fJ xw=none:=by
    unfold fJ;rw[ab6 Zj,ab6 Zi,ab6 Zh,ab6 e5,ab6 e7,ab6 e6,ab6 e4,ab6 Zk,ab6 Zg,ab6 e9,ab6 e8,ab6 e3,ab6 e2,ab6 e1,ab6 e0]
   rw[show fJ (St.mk xw xa xb dt).word=none from fh] at hw
   cases hw
  exact key
 ·rw[ab6 h0];exact UZ W g s p A w h n hf hn hLW ft fy fA xw xa xb dt hx h0
end
def jS(g k:Nat)(B:Rs)(j:Nat):Prop:=B.au k j\/j=g
structure jg(g k:Nat)(p:Sk)(B:Rs)(w:World):Prop where
 st:bK k p B w
 aW:w.heap[g]?=some (.cells #[.pointer (some ⟨B.b,0,none⟩),.pointer (some ⟨k,0,none⟩)] 41 (0,0))
 off:¬B.au k g
section
variable{g k:Nat}{p p':Sk}{B B':Rs}{w w':World}
theorem jg.later(h:jg g k p B w)(hb:bL w w'):jg g k p B w':=⟨h.st.later hb,by rw[hb.block g (aH h.aW)];exact h.aW,h.off⟩
theorem jg.cells(h:jg g k p B w):w.cell? ⟨g,0,none⟩=some (.pointer (some ⟨B.b,0,none⟩))/\w.cell? ⟨g,1,none⟩=some (.pointer (some ⟨k,0,none⟩))/\w.frozen? ⟨g,1,none⟩=false/\g<w.heap.size:=⟨by rw[aP h.aW];rfl,by rw[aP h.aW];rfl,cQ h.aW 1,aH h.aW⟩
theorem jg.zJ(h:jg g k p B w)(j:Nat)(hj:jS g k B j):j<w.heap.size:=by
 rcases hj with e|e
 ·exact h.st.bz j e
 ·rw[e];exact aH h.aW
end
structure xN(c g k:Nat)(B:Rs)(w:World)(q:Sk)(k':Nat)(p':Sk)(B':Rs)(w':World):Prop where
 at':jg g k' p' B' w'
 nf:p'.nf=q
 only:aG (fun j=>B.au k j\/j=g) w w'
 au:∀j,B'.au k' j->B.au k j\/w.heap.size<=j
 b:B'.b=B.b
 X:B'.X=B.X
 v:B'.v=B.v\/w.heap.size<=B'.v
 bX:B'.bX<=B.bX+c
def jE(c g k:Nat)(B:Rs)(w:World)(q:Sk)(w':World):Prop:=∃k' p' B',xN c g k B w q k' p' B' w'
section
variable{c g k k':Nat}{p p':Sk}{B B':Rs}{w w1 w':World}{q:Sk}
theorem jg.code(h:jg g k p B w)(hb:bL w w1)(hk:ed c k p B w1 w' q):jE c g k B w q w':=by
 obtain⟨p',B',hs,hn,hc⟩:=hk;have h1:=h.later hb;refine⟨k,p',B',⟨hs.at',?_,?_⟩,hn,?_,?_,hs.same.1,hs.same.2.2.2,il hs.same.2.1,hc⟩
 ·rw[hs.only.block g (aH h1.aW) h.off,hs.same.1];exact h1.aW
 ·exact fun e=>(hs.au g e).elim h.off (fun e2=>by have:=aH h1.aW;omega)
 ·exact(aG.cj (F:=fun j=>B.au k j\/j=g) hb).trans hs.only (fun j e=>il (il e))
 ·exact fun j hj=>(hs.au j hj).imp id (fun e=>acv hb.size e)
theorem jg.same(h:jg g k p B w)(hb:bL w w'):jE 0 g k B w p.nf w':=h.code (aQ _ _) ⟨p,B,bI.cW h.st hb,rfl,ab5 _⟩
theorem xN.later(h:xN c g k B w q k' p' B' w1)(hb:bL w1 w'):xN c g k B w q k' p' B' w' :=
 ⟨h.at'.later hb,h.nf,h.only.trans (aG.cj (F:=fun _=>False) hb) (fun _ e=>e.elim),h.au,h.b,h.X,h.v,h.bX⟩
theorem jE.later(h:jE c g k B w q w1)(hb:bL w1 w'):jE c g k B w q w':=by
 obtain⟨k',p',B',h⟩:=h;exact⟨k',p',B',h.later hb⟩
theorem jE.gO(h:jE c g k B w1 q w')(hb:bL w w1):jE c g k B w q w':=by
 obtain⟨k',p',B',hs⟩:=h;refine⟨k',p',B',hs.at',hs.nf,(aG.cj (F:=fun j=>B.au k j\/j=g) hb).trans hs.only (fun j e=>il e),fun j hj=>(hs.au j hj).imp id (fun e=>acv hb.size e),hs.b,hs.X,hs.v.imp id (fun e=>acv hb.size e),hs.bX⟩
end
theorem bK.fresh{s b v bm:Nat}{d:Dl}{m:Rd}{ra:Ra}{bX:Nat}{w:World}(h:bK s { lL with dev:=d } (vv b v bm m ra bX) w)(hd:d.busy=[])(X:Nat->Prop)(hX:∀j,X j->j<w.heap.size):bK s { lL with dev:=d } { vv b v bm m ra bX with X:=X } w :=
 ⟨h.aW,{
  fR:=h.mem.fR
  cz:=h.mem.cz
  tied:=h.mem.tied
  busy:=h.mem.busy
  map:=h.mem.map
  im:=h.mem.im
  nb:=h.mem.nb
  wb:=h.mem.wb
  hand:=h.mem.hand
  cU:=h.mem.cU
  bU:=h.mem.bU
  queue:=h.mem.queue
  fa:=h.mem.fa
  fq:=h.mem.fq
  asks:=h.mem.asks
  idle:=h.mem.idle
  sv:=h.mem.sv
  kv:=h.mem.kv
  kk:=h.mem.kk
  fj:=fun aE=>absurd rfl aE
  jW:=fun aE=>absurd rfl aE
  eX:=fun r hr=>by
   have dh:r∈([]:List Rq)++d.busy:=hr;rw[hd] at dh
   cases dh
  ij:=fun i _ k hk=>by cases hk
  mx:=fun aE=>absurd hd aE
  gU:=hX }⟩
structure IV(g k:Nat)(p:Sk)(B:Rs)(X:Nat->Prop)(w w':World):Prop where
 at':jg g k p B w'
 nf:p.nf=lL
 bel:bL w w'
 au:∀j,jS g k B j->w.heap.size<=j
 X:B.X=X
 v:w.heap.size<=B.v
 bX:B.bX=0
def fQ(c g k:Nat)(B:Rs)(w:World)(t:List UInt8)(q:Sk)(e:Ending)(w':World):Prop:=e=.returned (.string ⟨t.toArray⟩)/\jE c g k B w q w'
section
variable(g k:Nat)(p:Sk)(B:Rs)(w:World)
theorem Pg(h:jg g k p B w)(n:Nat)(hf:ig n p.nf)(hL:aL p.nf)(_:n<=3840000)(hc:B.bX<=230000)(xa xb:Int)(dt:ByteArray):Calls prog 13 #[.pointer (some ⟨g,0,none⟩),.agg #[.string ⟨#[116,105,99,107]⟩,i6 xa,i6 xb,.string dt]] w (fQ 0 g k B w (eA 0) p.nf.tick):=by
 have HP:=aa h;have HF:=aa hf;have HI:=aa hf.fit.cD;have jo:=aa hL;have oz:=aa hc;obtain⟨p0,p1,p2,kS⟩:=h.cells;clear h hf hL hc;go_enter func13,ntmps13;go_wp2_with fail;refine cM (G6 k p B _ (HP.out.st.later bQ) HI.out.inv jo.out.cD (by have:=HI.out.tags;omega) (by have:=HI.out.ax;omega) _ rfl) ?_;intro w2 hok;have ey:=aa (HP.out.code bQ hok);clear hok;go_wp2;go_ret;exact⟨rfl,ey.out⟩
theorem L6(h:jg g k p B w)(n:Nat)(hf:ig n p.nf)(hL:aL p.nf)(_:n<=3840000)(hc:B.bX<=230000)(xa xb:Int)(dt:ByteArray):Calls prog 13 #[.pointer (some ⟨g,0,none⟩),.agg #[.string ⟨#[114,111,117,110,100]⟩,i6 xa,i6 xb,.string dt]] w (fQ 1 g k B w (eA 0) p.nf.round):=by
 have HP:=aa h;have HF:=aa hf;have HI:=aa hf.fit.cD;have jo:=aa hL;have oz:=aa hc;obtain⟨p0,p1,p2,kS⟩:=h.cells;clear h hf hL hc;go_enter func13,ntmps13;go_wp2_with fail;refine cM (EH k p B _ (HP.out.st.later bQ) n HF.out jo.out oM oz.out _ rfl) ?_;intro w2 hok;have ey:=aa (HP.out.code bQ hok);clear hok;go_wp2;go_ret;exact⟨rfl,ey.out⟩
theorem LZ(h:jg g k p B w)(n:Nat)(hf:ig n p.nf)(hL:aL p.nf)(_:n<=3840000)(hc:B.bX<=230000)(xa xb:Int)(dt:ByteArray):Calls prog 13 #[.pointer (some ⟨g,0,none⟩),.agg #[.string ⟨#[99,108,101,97,110]⟩,i6 xa,i6 xb,.string dt]] w (fQ 0 g k B w (oc p.nf.clean.1) p.nf.clean.2):=by
 obtain⟨z,hz⟩:∃z,p.nf.clean=z:=⟨_,rfl⟩
 obtain⟨t,q'⟩:=z;have HZ:=aa hz;rw[hz];show Calls _ _ _ _ (fQ 0 g k B w (oc t) q');clear hz;have HP:=aa h;have HF:=aa hf;have HI:=aa hf.fit.cD;have jo:=aa hL;have oz:=aa hc;obtain⟨p0,p1,p2,kS⟩:=h.cells;clear h hf hL hc;go_enter func13,ntmps13;go_wp2_with fail;refine cM (CF k p B _ (HP.out.st.later bQ) HI.out.inv (by have:=HI.out.tags;omega) _ _ HZ.out) ?_;intro w2 hok;have ey:=aa (HP.out.code bQ hok);clear hok;go_wp2_with fail;refine cM (De _ _) ?_;intro w3 rfl;go_wp2;go_ret;exact⟨rfl,ey.out⟩
theorem FB(h:jg g k p B w)(n:Nat)(hf:ig n p.nf)(hL:aL p.nf)(_:n<=3840000)(hc:B.bX<=230000)(xa xb:Int)(dt:ByteArray):Calls prog 13 #[.pointer (some ⟨g,0,none⟩),.agg #[.string ⟨#[100,105,115,112,97,116,99,104]⟩,i6 xa,i6 xb,.string dt]] w (fQ 0 g k B w (oc p.nf.bf.1) p.nf.bf.2):=by
 obtain⟨z,hz⟩:∃z,p.nf.bf=z:=⟨_,rfl⟩
 obtain⟨t,q'⟩:=z;have HZ:=aa hz;rw[hz];show Calls _ _ _ _ (fQ 0 g k B w (oc t) q');clear hz;have HP:=aa h;have HF:=aa hf;have HI:=aa hf.fit.cD;have jo:=aa hL;have oz:=aa hc;obtain⟨p0,p1,p2,kS⟩:=h.cells;clear h hf hL hc;go_enter func13,ntmps13;go_wp2_with fail;refine cM (sG k p B _ (HP.out.st.later bQ) HI.out.inv _ _ HZ.out) ?_;intro w2 hok;have ey:=aa (HP.out.code bQ hok);clear hok;go_wp2_with fail;refine cM (De _ _) ?_;intro w3 rfl;go_wp2;go_ret;exact⟨rfl,ey.out⟩
end
theorem aZ.WY{p:Sk}(h:aZ p)(hn:p.tags<=1000000000)(r:Rq)(hr:r∈p.queue++p.dev.busy):DF r:=by
 have g:=h.bP r hr;have hb:=g.lH;have ht:∀i,i<r.tags.length->1<=r.tags.getD i 0/\r.tags.getD i 0<=p.tags:=fun i hi=>by
  refine h.oH r hr _ ?_;rw[acr,acb hi];exact ach hi
 refine⟨oM,oM,fun i hi=>?_,fun i hi=>?_,by have:=g.t4;omega⟩
 ·have:=ht i hi;show _/\_
  constructor<;>omega
 ·have:=ht i hi
  omega
section
variable(g k:Nat)(p:Sk)(B:Rs)(w:World)
theorem L5(h:jg g k p B w)(n:Nat)(hf:ig n p.nf)(hL:aL p.nf)(_:n<=3840000)(hc:B.bX<=230000)(xa xb:Int)(dt:ByteArray):Calls prog 13 #[.pointer (some ⟨g,0,none⟩),.agg #[.string ⟨#[113,117,101,117,101]⟩,i6 xa,i6 xb,.string dt]] w (fQ 0 g k B w (lF p.queue) p.nf):=by
 have YP:Hid (∀r∈p.queue,DF r):=fun r hr=>hf.fit.cD.inv.WY (by have:=hf.fit.cD.tags;omega) r (by first|exact acw _ hr|exact acj _ hr)
 have eO:Hid (p.queue.length<=1000):=by have h1:=hf.fit.cD.inv.q6;have h2:=hf.fit.cD.inv.b2;show p.queue.length<=1000;omega
 have jM:=aa h.st.mem.queue;have c3:=h.st.cell 3 _ rfl;have qU:=h.st.mem.cz.dev.lt;have we:=h.st.lt;have HP:=aa h;have HF:=aa hf;have HI:=aa hf.fit.cD;have jo:=aa hL;have oz:=aa hc;obtain⟨p0,p1,p2,kS⟩:=h.cells;clear h hf hL hc;go_enter func13,ntmps13;go_wp2_with fail;refine cM (EK p.queue B.qa B.qc _ (jM.out.later bQ) YP.out eO.out) ?_;intro w2 aA;have gZ:=aa (HP.out.same (ab (aB w _) aA));clear aA;go_wp2;go_ret;exact⟨rfl,gZ.out⟩
theorem Pd(h:jg g k p B w)(n:Nat)(hf:ig n p.nf)(hL:aL p.nf)(_:n<=3840000)(hc:B.bX<=230000)(xa xb:Int)(dt:ByteArray):Calls prog 13 #[.pointer (some ⟨g,0,none⟩),.agg #[.string ⟨#[98,117,115,121]⟩,i6 xa,i6 xb,.string dt]] w (fQ 0 g k B w (lF p.dev.busy) p.nf):=by
 have YP:Hid (∀r∈p.dev.busy,DF r):=fun r hr=>hf.fit.cD.inv.WY (by have:=hf.fit.cD.tags;omega) r (by first|exact acw _ hr|exact acj _ hr)
 have eO:Hid (p.dev.busy.length<=1000):=by have h1:=hf.fit.cD.inv.q6;have h2:=hf.fit.cD.inv.b2;show p.dev.busy.length<=1000;omega
 have D9:=h.st.mem.cz.dev.eW;rw[h.st.mem.busy] at D9;have jM:=aa D9;clear D9;have c0:=h.st.cell 0 _ rfl;have jb:=h.st.mem.cz.dev.jb;rw[h.st.mem.busy] at jb;have qU:=h.st.mem.cz.dev.lt;have we:=h.st.lt;have HP:=aa h;have HF:=aa hf;have HI:=aa hf.fit.cD;have jo:=aa hL;have oz:=aa hc;obtain⟨p0,p1,p2,kS⟩:=h.cells;clear h hf hL hc;go_enter func13,ntmps13;go_wp2_with fail;refine cM (EK p.dev.busy B.ra.la B.ra.lc _ (jM.out.later bQ) YP.out eO.out) ?_;intro w2 aA;have gZ:=aa (HP.out.same (ab (aB w _) aA));clear aA;go_wp2;go_ret;exact⟨rfl,gZ.out⟩
theorem L3(h:jg g k p B w)(n:Nat)(hf:ig n p.nf)(hL:aL p.nf)(_:n<=3840000)(hc:B.bX<=230000)(xa xb:Int)(dt:ByteArray):Calls prog 13 #[.pointer (some ⟨g,0,none⟩),.agg #[.string ⟨#[100,105,114,116,121]⟩,i6 xa,i6 xb,.string dt]] w (fQ 0 g k B w (Lib.itoa (bT p.hand)) p.nf):=by
 obtain⟨dn,lJ⟩:∃dn,bT p.hand=dn:=⟨_,rfl⟩
 have IF:Hid (jt p.hand p.hand.length=dn):=(rE p.hand).trans lJ;have PU:Hid (dn<=8):=by
  have h1:=hf.fit.cD.inv.hand.len;have h2:(p.hand.filter fun x=>x.bO).length<=p.hand.length:=ade _ _;have h3:(p.hand.filter fun x=>x.bO).length=dn:=lJ;show dn<=8
  omega
 rw[lJ,<-vO];clear lJ;have jM:=aa h.st.mem.hand;have c2:=h.st.cell 2 _ rfl;have we:=h.st.lt;have HP:=aa h;have HF:=aa hf;have HI:=aa hf.fit.cD;have jo:=aa hL;have oz:=aa hc;obtain⟨p0,p1,p2,kS⟩:=h.cells;clear h hf hL hc;go_enter func13,ntmps13;go_wp2_with fail;refine cM (AW p.hand B.ha B.hc _ (jM.out.later bQ) dn IF.out) ?_;intro w2 aA;have cw:=aa (ab (aB w _) aA);clear aA;go_wp2_with fail;refine cM (sr dn (by have:=PU.out;omega) dn _ rfl) ?_;intro w3 bC;have gZ:=aa (HP.out.same (ab cw.out bC));clear bC;go_wp2;go_ret;exact⟨rfl,gZ.out⟩
end
section
variable(g k:Nat)(p:Sk)(B:Rs)(w:World)
theorem SF(h:jg g k p B w)(n:Nat)(hf:ig n p.nf)(hL:aL p.nf)(_:n<=3840000)(hc:B.bX<=230000)(xa xb:Int)(dt:ByteArray):Calls prog 13 #[.pointer (some ⟨g,0,none⟩),.agg #[.string ⟨#[101,110,100]⟩,i6 xa,i6 xb,.string dt]] w (fQ 1 g k B w (eA (p.nf.cA xa false).1) (p.nf.cA xa false).2):=by
 obtain⟨n0,fh⟩:∃n0,(p.nf.cA xa false).1=n0:=⟨_,rfl⟩
 have jl:=aa (vQ p.nf xa false);rw[fh] at jl;have lM:Hid (p.nf.cA xa false=(n0,(p.nf.cA xa false).2)):=by show _=_;rw[<-fh]
 rw[fh];clear fh;have HP:=aa h;have HF:=aa hf;have HI:=aa hf.fit.cD;have jo:=aa hL;have oz:=aa hc;have kS:=aH h.aW;have dq:¬B.au k w.heap.size:=fun e=>by have:=h.st.bz _ e;omega
 have fZ:=aa dq;obtain⟨w1,gm⟩:∃w1,w.alloc (Obj.cells #[.string ⟨#[101,110,100]⟩,i6 xa,i6 xb,.string dt] 31)=w1:=⟨_,rfl⟩
 have aU:Hid (bL w w1):=by rw[<-gm];exact aB w _
 have dF:=aa (h.later aU.out);have eE:=aa (fun c t w' (hk:jE c g k B w1 t w')=>hk.gO aU.out);obtain⟨b0,b1,b2,b3⟩:=sN gm;have g1:w1.cell? ⟨g,1,none⟩=some (.pointer (some ⟨k,0,none⟩)):=dF.out.cells.2.1;have lK:=al g1;have nz:=al b1;clear h hf hL hc dq;go_enter func13,ntmps13;go_upto_region 24 with fail;clear gm;generalize w.heap.size=q at *
 go_region_held3 (fun w'=>w'.cell? ⟨g,1,none⟩=some (.pointer (some ⟨k,0,none⟩))/\w'.cell? ⟨q,1,none⟩=some (i6 xa)) (first|exact⟨af (w:=w1) (aQ _ _) g1,af (w:=w1) (aQ _ _) b1⟩|exact⟨af (w:=w1) (aQ _ _).drew g1,af (w:=w1) (aQ _ _).drew b1⟩|exact⟨aM,aM⟩) (first|(go_at_call 49;refine(o6 n0 _ jl.out).mono ?_;rintro e wT ⟨rfl,dY⟩;have gZ:=aa (ey.out.later (ab bQ dY));have tg:=af dY mg;have t1:=af dY m1)|(go_at_call 56;refine(Da k p B _ (dF.out.st.later bQ) n HF.out oM (by have:=oz.out;omega) jo.out xa false _ _ lM.out).mono ?_;rintro e wA ⟨rfl,hok⟩;have ey:=aa (eE.out _ _ _ (dF.out.code bQ hok));obtain⟨pA,AA,fo,-⟩:=hok;have mg:=(fo.only.cell (p:=⟨g,1,none⟩) (by(try simp);omega) HP.out.off).trans (af (w:=w1) bQ g1);have m1:=(fo.only.cell (p:=⟨q,1,none⟩) (by(try simp);omega) fZ.out).trans (af (w:=w1) bQ b1)))
 all_goals
  clear fo dY;go_wp2;go_ret;exact⟨rfl,gZ.out⟩
theorem L4(h:jg g k p B w)(n:Nat)(hf:ig n p.nf)(hL:aL p.nf)(_:n<=3840000)(hc:B.bX<=230000)(xa xb:Int)(dt:ByteArray):Calls prog 13 #[.pointer (some ⟨g,0,none⟩),.agg #[.string ⟨#[102,97,117,108,116]⟩,i6 xa,i6 xb,.string dt]] w (fQ 1 g k B w (eA (p.nf.cA xa true).1) (p.nf.cA xa true).2):=by
 obtain⟨n0,fh⟩:∃n0,(p.nf.cA xa true).1=n0:=⟨_,rfl⟩
 have jl:=aa (vQ p.nf xa true);rw[fh] at jl;have lM:Hid (p.nf.cA xa true=(n0,(p.nf.cA xa true).2)):=by show _=_;rw[<-fh]
 rw[fh];clear fh;have HP:=aa h;have HF:=aa hf;have HI:=aa hf.fit.cD;have jo:=aa hL;have oz:=aa hc;have kS:=aH h.aW;have dq:¬B.au k w.heap.size:=fun e=>by have:=h.st.bz _ e;omega
 have fZ:=aa dq;obtain⟨w1,gm⟩:∃w1,w.alloc (Obj.cells #[.string ⟨#[102,97,117,108,116]⟩,i6 xa,i6 xb,.string dt] 31)=w1:=⟨_,rfl⟩
 have aU:Hid (bL w w1):=by rw[<-gm];exact aB w _
 have dF:=aa (h.later aU.out);have eE:=aa (fun c t w' (hk:jE c g k B w1 t w')=>hk.gO aU.out);obtain⟨b0,b1,b2,b3⟩:=sN gm;have g1:w1.cell? ⟨g,1,none⟩=some (.pointer (some ⟨k,0,none⟩)):=dF.out.cells.2.1;have lK:=al g1;have nz:=al b1;clear h hf hL hc dq;go_enter func13,ntmps13;go_upto_region 26 with fail;clear gm;generalize w.heap.size=q at *
 go_region_held3 (fun w'=>w'.cell? ⟨g,1,none⟩=some (.pointer (some ⟨k,0,none⟩))/\w'.cell? ⟨q,1,none⟩=some (i6 xa)) (first|exact⟨af (w:=w1) (aQ _ _) g1,af (w:=w1) (aQ _ _) b1⟩|exact⟨af (w:=w1) (aQ _ _).drew g1,af (w:=w1) (aQ _ _).drew b1⟩|exact⟨aM,aM⟩) (first|(go_at_call 49;refine(o6 n0 _ jl.out).mono ?_;rintro e wT ⟨rfl,dY⟩;have gZ:=aa (ey.out.later (ab bQ dY));have tg:=af dY mg;have t1:=af dY m1)|(go_at_call 56;refine(Da k p B _ (dF.out.st.later bQ) n HF.out oM (by have:=oz.out;omega) jo.out xa true _ _ lM.out).mono ?_;rintro e wA ⟨rfl,hok⟩;have ey:=aa (eE.out _ _ _ (dF.out.code bQ hok));obtain⟨pA,AA,fo,-⟩:=hok;have mg:=(fo.only.cell (p:=⟨g,1,none⟩) (by(try simp);omega) HP.out.off).trans (af (w:=w1) bQ g1);have m1:=(fo.only.cell (p:=⟨q,1,none⟩) (by(try simp);omega) fZ.out).trans (af (w:=w1) bQ b1)))
 all_goals
  clear fo dY;go_wp2;go_ret;exact⟨rfl,gZ.out⟩
end
section
variable(g k:Nat)(p:Sk)(B:Rs)(w:World)
theorem Pe(h:jg g k p B w)(n:Nat)(hf:ig n p.nf)(hL:aL p.nf)(_:n<=3840000)(hc:B.bX<=230000)(xa xb:Int)(dt:ByteArray):Calls prog 13 #[.pointer (some ⟨g,0,none⟩),.agg #[.string ⟨#[114,101,97,100]⟩,i6 xa,i6 xb,.string dt]] w (fQ 0 g k B w (eA (p.nf.ask xa 1 xb ⟨#[]⟩).1) (p.nf.ask xa 1 xb ⟨#[]⟩).2):=by
 obtain⟨n0,fh⟩:∃n0,(p.nf.ask xa 1 xb ⟨#[]⟩).1=n0:=⟨_,rfl⟩
 have jl:=aa (qP p.nf xa 1 xb ⟨#[]⟩);rw[fh] at jl;have lM:Hid (p.nf.ask xa 1 xb ⟨#[]⟩=(n0,(p.nf.ask xa 1 xb ⟨#[]⟩).2)):=by show _=_;rw[<-fh]
 rw[fh];clear fh;have HP:=aa h;have HF:=aa hf;have HI:=aa hf.fit.cD;have jo:=aa hL;have oz:=aa hc;have kS:=aH h.aW;have dq:¬B.au k w.heap.size:=fun e=>by have:=h.st.bz _ e;omega
 have fZ:=aa dq;obtain⟨w1,gm⟩:∃w1,w.alloc (Obj.cells #[.string ⟨#[114,101,97,100]⟩,i6 xa,i6 xb,.string dt] 31)=w1:=⟨_,rfl⟩
 have aU:Hid (bL w w1):=by rw[<-gm];exact aB w _
 have dF:=aa (h.later aU.out);have eE:=aa (fun c t w' (hk:jE c g k B w1 t w')=>hk.gO aU.out);obtain⟨b0,b1,b2,b3⟩:=sN gm;have g1:w1.cell? ⟨g,1,none⟩=some (.pointer (some ⟨k,0,none⟩)):=dF.out.cells.2.1;have lK:=al g1;have nz:=al b1;clear h hf hL hc dq;go_enter func13,ntmps13;go_upto_region 3 with fail;clear gm;generalize w.heap.size=q at *
 go_region_held3 (fun w'=>w'.cell? ⟨g,1,none⟩=some (.pointer (some ⟨k,0,none⟩))/\w'.cell? ⟨q,1,none⟩=some (i6 xa)/\w'.cell? ⟨q,2,none⟩=some (i6 xb)) (first|exact⟨af (w:=w1) (aQ _ _) g1,af (w:=w1) (aQ _ _) b1,af (w:=w1) (aQ _ _) b2⟩|exact⟨af (w:=w1) (aQ _ _).drew g1,af (w:=w1) (aQ _ _).drew b1,af (w:=w1) (aQ _ _).drew b2⟩|exact⟨aM,aM,aM⟩) (first|(go_at_call 49;refine(o6 n0 _ jl.out).mono ?_;rintro e wT ⟨rfl,dY⟩;have gZ:=aa (ey.out.later (ab bQ dY));have tg:=af dY mg;have t1:=af dY m1;have t2:=af dY m2)|(go_at_call 50;refine(C9 k p B _ (dF.out.st.later bQ) HI.out.inv jo.out.cD (by have:=HI.out.tags;omega) (by have:=HI.out.ax;omega) xa 1 xb ⟨#[]⟩ _ _ lM.out).mono ?_;rintro e wA ⟨rfl,hok⟩;have ey:=aa (eE.out _ _ _ (dF.out.code bQ hok));obtain⟨pA,AA,fo,-⟩:=hok;have mg:=(fo.only.cell (p:=⟨g,1,none⟩) (by(try simp);omega) HP.out.off).trans (af (w:=w1) bQ g1);have m1:=(fo.only.cell (p:=⟨q,1,none⟩) (by(try simp);omega) fZ.out).trans (af (w:=w1) bQ b1);have m2:=(fo.only.cell (p:=⟨q,2,none⟩) (by(try simp);omega) fZ.out).trans (af (w:=w1) bQ b2)))
 all_goals
  clear fo dY;go_wp2;go_ret;exact⟨rfl,gZ.out⟩
theorem L7(h:jg g k p B w)(n:Nat)(hf:ig n p.nf)(hL:aL p.nf)(_:n<=3840000)(hc:B.bX<=230000)(xa xb:Int)(dt:ByteArray):Calls prog 13 #[.pointer (some ⟨g,0,none⟩),.agg #[.string ⟨#[119,114,105,116,101]⟩,i6 xa,i6 xb,.string dt]] w (fQ 0 g k B w (eA (p.nf.ask xa 2 xb dt).1) (p.nf.ask xa 2 xb dt).2):=by
 obtain⟨n0,fh⟩:∃n0,(p.nf.ask xa 2 xb dt).1=n0:=⟨_,rfl⟩
 have jl:=aa (qP p.nf xa 2 xb dt);rw[fh] at jl;have lM:Hid (p.nf.ask xa 2 xb dt=(n0,(p.nf.ask xa 2 xb dt).2)):=by show _=_;rw[<-fh]
 rw[fh];clear fh;have HP:=aa h;have HF:=aa hf;have HI:=aa hf.fit.cD;have jo:=aa hL;have oz:=aa hc;have kS:=aH h.aW;have dq:¬B.au k w.heap.size:=fun e=>by have:=h.st.bz _ e;omega
 have fZ:=aa dq;obtain⟨w1,gm⟩:∃w1,w.alloc (Obj.cells #[.string ⟨#[119,114,105,116,101]⟩,i6 xa,i6 xb,.string dt] 31)=w1:=⟨_,rfl⟩
 have aU:Hid (bL w w1):=by rw[<-gm];exact aB w _
 have dF:=aa (h.later aU.out);have eE:=aa (fun c t w' (hk:jE c g k B w1 t w')=>hk.gO aU.out);obtain⟨b0,b1,b2,b3⟩:=sN gm;have g1:w1.cell? ⟨g,1,none⟩=some (.pointer (some ⟨k,0,none⟩)):=dF.out.cells.2.1;have lK:=al g1;have nz:=al b1;clear h hf hL hc dq;go_enter func13,ntmps13;go_upto_region 5 with fail;clear gm;generalize w.heap.size=q at *
 go_region_held3 (fun w'=>w'.cell? ⟨g,1,none⟩=some (.pointer (some ⟨k,0,none⟩))/\w'.cell? ⟨q,1,none⟩=some (i6 xa)/\w'.cell? ⟨q,2,none⟩=some (i6 xb)/\w'.cell? ⟨q,3,none⟩=some (.string dt)) (first|exact⟨af (w:=w1) (aQ _ _) g1,af (w:=w1) (aQ _ _) b1,af (w:=w1) (aQ _ _) b2,af (w:=w1) (aQ _ _) b3⟩|exact⟨af (w:=w1) (aQ _ _).drew g1,af (w:=w1) (aQ _ _).drew b1,af (w:=w1) (aQ _ _).drew b2,af (w:=w1) (aQ _ _).drew b3⟩|exact⟨aM,aM,aM,aM⟩) (first|(go_at_call 49;refine(o6 n0 _ jl.out).mono ?_;rintro e wT ⟨rfl,dY⟩;have gZ:=aa (ey.out.later (ab bQ dY));have tg:=af dY mg;have t1:=af dY m1;have t2:=af dY m2;have t3:=af dY m3)|(go_at_call 50;refine(C9 k p B _ (dF.out.st.later bQ) HI.out.inv jo.out.cD (by have:=HI.out.tags;omega) (by have:=HI.out.ax;omega) xa 2 xb dt _ _ lM.out).mono ?_;rintro e wA ⟨rfl,hok⟩;have ey:=aa (eE.out _ _ _ (dF.out.code bQ hok));obtain⟨pA,AA,fo,-⟩:=hok;have mg:=(fo.only.cell (p:=⟨g,1,none⟩) (by(try simp);omega) HP.out.off).trans (af (w:=w1) bQ g1);have m1:=(fo.only.cell (p:=⟨q,1,none⟩) (by(try simp);omega) fZ.out).trans (af (w:=w1) bQ b1);have m2:=(fo.only.cell (p:=⟨q,2,none⟩) (by(try simp);omega) fZ.out).trans (af (w:=w1) bQ b2);have m3:=(fo.only.cell (p:=⟨q,3,none⟩) (by(try simp);omega) fZ.out).trans (af (w:=w1) bQ b3)))
 all_goals
  clear fo dY;go_wp2;go_ret;exact⟨rfl,gZ.out⟩
theorem Pf(h:jg g k p B w)(n:Nat)(hf:ig n p.nf)(hL:aL p.nf)(_:n<=3840000)(hc:B.bX<=230000)(xa xb:Int)(dt:ByteArray):Calls prog 13 #[.pointer (some ⟨g,0,none⟩),.agg #[.string ⟨#[115,121,110,99]⟩,i6 xa,i6 xb,.string dt]] w (fQ 0 g k B w (eA (p.nf.ask xa 3 0 ⟨#[]⟩).1) (p.nf.ask xa 3 0 ⟨#[]⟩).2):=by
 obtain⟨n0,fh⟩:∃n0,(p.nf.ask xa 3 0 ⟨#[]⟩).1=n0:=⟨_,rfl⟩
 have jl:=aa (qP p.nf xa 3 0 ⟨#[]⟩);rw[fh] at jl;have lM:Hid (p.nf.ask xa 3 0 ⟨#[]⟩=(n0,(p.nf.ask xa 3 0 ⟨#[]⟩).2)):=by show _=_;rw[<-fh]
 rw[fh];clear fh;have HP:=aa h;have HF:=aa hf;have HI:=aa hf.fit.cD;have jo:=aa hL;have oz:=aa hc;have kS:=aH h.aW;have dq:¬B.au k w.heap.size:=fun e=>by have:=h.st.bz _ e;omega
 have fZ:=aa dq;obtain⟨w1,gm⟩:∃w1,w.alloc (Obj.cells #[.string ⟨#[115,121,110,99]⟩,i6 xa,i6 xb,.string dt] 31)=w1:=⟨_,rfl⟩
 have aU:Hid (bL w w1):=by rw[<-gm];exact aB w _
 have dF:=aa (h.later aU.out);have eE:=aa (fun c t w' (hk:jE c g k B w1 t w')=>hk.gO aU.out);obtain⟨b0,b1,b2,b3⟩:=sN gm;have g1:w1.cell? ⟨g,1,none⟩=some (.pointer (some ⟨k,0,none⟩)):=dF.out.cells.2.1;have lK:=al g1;have nz:=al b1;clear h hf hL hc dq;go_enter func13,ntmps13;go_upto_region 7 with fail;clear gm;generalize w.heap.size=q at *
 go_region_held3 (fun w'=>w'.cell? ⟨g,1,none⟩=some (.pointer (some ⟨k,0,none⟩))/\w'.cell? ⟨q,1,none⟩=some (i6 xa)) (first|exact⟨af (w:=w1) (aQ _ _) g1,af (w:=w1) (aQ _ _) b1⟩|exact⟨af (w:=w1) (aQ _ _).drew g1,af (w:=w1) (aQ _ _).drew b1⟩|exact⟨aM,aM⟩) (first|(go_at_call 49;refine(o6 n0 _ jl.out).mono ?_;rintro e wT ⟨rfl,dY⟩;have gZ:=aa (ey.out.later (ab bQ dY));have tg:=af dY mg;have t1:=af dY m1)|(go_at_call 50;refine(C9 k p B _ (dF.out.st.later bQ) HI.out.inv jo.out.cD (by have:=HI.out.tags;omega) (by have:=HI.out.ax;omega) xa 3 0 ⟨#[]⟩ _ _ lM.out).mono ?_;rintro e wA ⟨rfl,hok⟩;have ey:=aa (eE.out _ _ _ (dF.out.code bQ hok));obtain⟨pA,AA,fo,-⟩:=hok;have mg:=(fo.only.cell (p:=⟨g,1,none⟩) (by(try simp);omega) HP.out.off).trans (af (w:=w1) bQ g1);have m1:=(fo.only.cell (p:=⟨q,1,none⟩) (by(try simp);omega) fZ.out).trans (af (w:=w1) bQ b1)))
 all_goals
  clear fo dY;go_wp2;go_ret;exact⟨rfl,gZ.out⟩
end
section
variable(g k:Nat)(p:Sk)(B:Rs)(w:World)
theorem KA(h:jg g k p B w)(n:Nat)(hf:ig n p.nf)(hL:aL p.nf)(_:n<=3840000)(hc:B.bX<=230000)(xb:Int)(dt:ByteArray)(m:Nat)(hm:m<=999)(iA:B.bX+m<=230000)(hnm:n+11*m<=3850000):Calls prog 13 #[.pointer (some ⟨g,0,none⟩),.agg #[.string ⟨#[115,101,116,116,108,101]⟩,i6 m,i6 xb,.string dt]] w (fQ m g k B w (Lib.itoa (p.nf.settle m).1++[32]++oc (p.nf.settle m).2.quiet) (p.nf.settle m).2):=by
 obtain⟨z,hz⟩:∃z,p.nf.settle m=z:=⟨_,rfl⟩
 obtain⟨c,q'⟩:=z;obtain⟨t,ht⟩:∃t,q'.quiet=t:=⟨_,rfl⟩
 have HZ:=aa hz;have HT:=aa ht;have HM:=aa (⟨hm,iA,hnm⟩:_/\_/\_);have HK:Hid (c<=1000):=by have:=G8 m p.nf;rw[hz] at this;show c<=1000;omega
 rw[hz];show Calls _ _ _ _ (fQ m g k B w (Lib.itoa c++[32]++oc q'.quiet) q');rw[ht,<-vO];clear hz ht hm iA hnm;obtain⟨T1,DX⟩:∃T1,gd c++[32]=T1:=⟨_,rfl⟩
 obtain⟨T2,p8⟩:∃T2,T1++oc t=T2:=⟨_,rfl⟩
 have mf:=nG 18 c (by have:=HK.out;omega);have oU:(oc t).length<=10:=(by cases t<;>decide)
 have uZ:∀W',Sem.run prog (Op.stringOp .add ⟨(gd c).toArray⟩ ⟨#[32]⟩) W'=.ok (.string ⟨T1.toArray⟩) W':=fun W'=>by rw[<-DX];exact xG (gd c) [32] (by simp;omega) W'
 have lI:∀W',Sem.run prog (Op.stringOp .add ⟨T1.toArray⟩ ⟨(oc t).toArray⟩) W'=.ok (.string ⟨T2.toArray⟩) W':=fun W'=>by rw[<-p8];exact xG T1 (oc t) (by rw[<-DX];simp;omega) W'
 rw[DX,p8];clear DX p8 mf oU;obtain⟨xa,tE⟩:∃xa:Int,xa=(m:Int):=⟨_,rfl⟩
 have HE:=aa tE;rw[<-tE];clear tE;have HP:=aa h;have HF:=aa hf;have HI:=aa hf.fit.cD;have jo:=aa hL;have oz:=aa hc;have kS:=aH h.aW;have dq:¬B.au k w.heap.size:=fun e=>by have:=h.st.bz _ e;omega
 have fZ:=aa dq;obtain⟨w1,gm⟩:∃w1,w.alloc (Obj.cells #[.string ⟨#[115,101,116,116,108,101]⟩,i6 xa,i6 xb,.string dt] 31)=w1:=⟨_,rfl⟩
 have aU:Hid (bL w w1):=by rw[<-gm];exact aB w _
 have dF:=aa (h.later aU.out);have eE:=aa (fun c t w' (hk:jE c g k B w1 t w')=>hk.gO aU.out);obtain⟨b0,b1,b2,b3⟩:=sN gm;have g1:w1.cell? ⟨g,1,none⟩=some (.pointer (some ⟨k,0,none⟩)):=dF.out.cells.2.1;have lK:=al g1;have nz:=al b1;clear h hf hL hc dq;go_enter func13,ntmps13;have IP:Hid (∀w',bL w1 w'->Calls prog 58 #[.pointer (some ⟨k,0,none⟩),i6 xa] w' fun e w2=>e=.returned (.tuple #[i6 c,.bool t])/\ed m k p B w' w2 q'):=fun w' hb=>by
  rw[HE.out];exact L9 k p B w' (dF.out.later hb).st n m HF.out jo.out (by have:=HM.out;omega) (by have:=HM.out;omega) c q' HZ.out t HT.out
 go_upto_region 30 with fail;clear gm;generalize w.heap.size=q at *
 go_region_held3 (fun w'=>w'.cell? ⟨g,1,none⟩=some (.pointer (some ⟨k,0,none⟩))/\w'.cell? ⟨q,1,none⟩=some (i6 xa)) (first|exact⟨af (w:=w1) (aQ _ _) g1,af (w:=w1) (aQ _ _) b1⟩|exact⟨af (w:=w1) (aQ _ _).drew g1,af (w:=w1) (aQ _ _).drew b1⟩|exact⟨aM,aM⟩) (first|(go_at_call 58;refine cM (IP.out _ bQ) ?_;intro wA hok;have ey:=aa (eE.out _ _ _ (dF.out.code bQ hok));obtain⟨pA,AA,fo,-⟩:=hok;have mg:=(fo.only.cell (p:=⟨g,1,none⟩) (by(try simp);omega) HP.out.off).trans (af (w:=w1) bQ g1);have m1:=(fo.only.cell (p:=⟨q,1,none⟩) (by(try simp);omega) fZ.out).trans (af (w:=w1) bQ b1)))
 all_goals
  clear fo;go_wp2_with fail;refine cM (sr c (by have:=HK.out;omega) c _ rfl) ?_;intro wT dY;have gZ:=aa (ey.out.later dY);clear dY;go_wp2_with fail;refine cM (De _ _) ?_;intro w3 rfl;go_wp2;go_ret;exact⟨rfl,gZ.out⟩
end
section
variable(g k:Nat)(p:Sk)(B:Rs)(w:World)
theorem Vf(h:jg g k p B w)(n:Nat)(hf:ig n p.nf)(hL:aL p.nf)(_:n<=3840000)(hc:B.bX<=230000)(xa xb:Int)(dt:ByteArray)(hx:2<xa):Calls prog 13 #[.pointer (some ⟨g,0,none⟩),.agg #[.string ⟨#[103,111,116]⟩,i6 xa,i6 xb,.string dt]] w (fQ 0 g k B w (eA 5) p.nf):=by
 have HP:=aa h;have HF:=aa hf;have HI:=aa hf.fit.cD;have jo:=aa hL;have oz:=aa hc;obtain⟨p0,p1,p2,kS⟩:=h.cells;clear h hf hL hc;go_enter func13,ntmps13;go_wp2_with fail;refine cM (o6 5 _ oM) ?_;intro w2 aA;have gZ:=aa (HP.out.same (ab (aB w _) aA));clear aA;go_wp2;go_ret;exact⟨rfl,gZ.out⟩
theorem O9(h:jg g k p B w)(n:Nat)(hf:ig n p.nf)(hL:aL p.nf)(_:n<=3840000)(hc:B.bX<=230000)(xb:Int)(dt:ByteArray)(i:Nat)(hi:i<3)(k0:Nat)(eY:w.cell? ⟨k,11+i,none⟩=some (.pointer (some ⟨k0,0,none⟩))):Calls prog 13 #[.pointer (some ⟨g,0,none⟩),.agg #[.string ⟨#[103,111,116]⟩,i6 i,i6 xb,.string dt]] w (fQ 0 g k B w [119,97,105,116,115] p.nf):=by
 have hi2:¬(2:Int)<(i:Int):=oM;have iB:(0:Int)<=(i:Int):=oM;have Cp:(i:Int)<3:=oM;have HP:=aa h;have HF:=aa hf;have HI:=aa hf.fit.cD;have jo:=aa hL;have oz:=aa hc;have kS:=aH h.aW;have dq:¬B.au k w.heap.size:=fun e=>by have:=h.st.bz _ e;omega
 have fZ:=aa dq;obtain⟨w1,gm⟩:∃w1,w.alloc (Obj.cells #[.string ⟨#[103,111,116]⟩,i6 i,i6 xb,.string dt] 31)=w1:=⟨_,rfl⟩
 have aU:Hid (bL w w1):=by rw[<-gm];exact aB w _
 have dF:=aa (h.later aU.out);have eE:=aa (fun c t w' (hk:jE c g k B w1 t w')=>hk.gO aU.out);obtain⟨b0,b1,b2,b3⟩:=sN gm;have g1:w1.cell? ⟨g,1,none⟩=some (.pointer (some ⟨k,0,none⟩)):=dF.out.cells.2.1;have lK:=al g1;have nz:=al b1;have ca:w1.cell? ⟨k,11+i,none⟩=some (.pointer (some ⟨k0,0,none⟩)):=af aU.out eY;have lk1:=al ca;clear h hf hL hc dq eY;go_enter func13,ntmps13;go_upto_region 11 with fail;clear gm;generalize w.heap.size=q at *
 go_region_held3 (fun w'=>w'.cell? ⟨k,11+i,none⟩=some (.pointer (some ⟨k0,0,none⟩))/\w'.cell? ⟨g,1,none⟩=some (.pointer (some ⟨k,0,none⟩))/\w'.cell? ⟨q,1,none⟩=some (i6 i)) (first|exact⟨af (w:=w1) (aQ _ _) ca,af (w:=w1) (aQ _ _) g1,af (w:=w1) (aQ _ _) b1⟩|exact⟨af (w:=w1) (aQ _ _).drew ca,af (w:=w1) (aQ _ _).drew g1,af (w:=w1) (aQ _ _).drew b1⟩|exact⟨aM,aM,aM⟩) (fail)
 all_goals
  go_wp2;go_ret;exact⟨rfl,eE.out _ _ _ (dF.out.same bQ)⟩
end
section
variable(g k:Nat)(p:Sk)(B:Rs)(w:World)
theorem aaA(h:jg g k p B w)(n:Nat)(hf:ig n p.nf)(hL:aL p.nf)(_:n<=3840000)(hc:B.bX<=230000)(xb:Int)(dt:ByteArray)(i:Nat)(hi:i<3)(eY:w.cell? ⟨k,11+i,none⟩=some (.pointer none))(gt:ByteArray)(Rb:gt.size<=1000)(JG:∀w',bL w w'->Calls prog 51 #[.pointer (some ⟨k,0,none⟩),i6 i] w' (rB (.tuple #[.string gt,i6 0]) w')):Calls prog 13 #[.pointer (some ⟨g,0,none⟩),.agg #[.string ⟨#[103,111,116]⟩,i6 i,i6 xb,.string dt]] w (fQ 0 g k B w ([100,97,116,97,32]++gt.data.toList) p.nf):=by
 have hi2:¬(2:Int)<(i:Int):=oM;have iB:(0:Int)<=(i:Int):=oM;have Cp:(i:Int)<3:=oM;have HG:=aa JG;have JD:=aaF [100,97,116,97,32] gt (by simp;omega);obtain⟨T,hT⟩:∃T,([100,97,116,97,32]:List UInt8)++gt.data.toList=T:=⟨_,rfl⟩
 rw[hT] at JD ⊢;clear hT Rb;clear JG;have HP:=aa h;have HF:=aa hf;have HI:=aa hf.fit.cD;have jo:=aa hL;have oz:=aa hc;have kS:=aH h.aW;have dq:¬B.au k w.heap.size:=fun e=>by have:=h.st.bz _ e;omega
 have fZ:=aa dq;obtain⟨w1,gm⟩:∃w1,w.alloc (Obj.cells #[.string ⟨#[103,111,116]⟩,i6 i,i6 xb,.string dt] 31)=w1:=⟨_,rfl⟩
 have aU:Hid (bL w w1):=by rw[<-gm];exact aB w _
 have dF:=aa (h.later aU.out);have eE:=aa (fun c t w' (hk:jE c g k B w1 t w')=>hk.gO aU.out);obtain⟨b0,b1,b2,b3⟩:=sN gm;have g1:w1.cell? ⟨g,1,none⟩=some (.pointer (some ⟨k,0,none⟩)):=dF.out.cells.2.1;have lK:=al g1;have nz:=al b1;have ca:w1.cell? ⟨k,11+i,none⟩=some (.pointer none):=af aU.out eY;have lk1:=al ca;clear h hf hL hc dq eY;go_enter func13,ntmps13;have Dt:=aa (fun w' (hb:bL w1 w')=>HG.out w' (ab aU.out hb));clear HG;go_upto_region 11 with fail;clear gm;generalize w.heap.size=q at *
 go_region_held3 (fun w'=>w'.cell? ⟨k,11+i,none⟩=some (.pointer none)/\w'.cell? ⟨g,1,none⟩=some (.pointer (some ⟨k,0,none⟩))/\w'.cell? ⟨q,1,none⟩=some (i6 i)) (first|exact⟨af (w:=w1) (aQ _ _) ca,af (w:=w1) (aQ _ _) g1,af (w:=w1) (aQ _ _) b1⟩|exact⟨af (w:=w1) (aQ _ _).drew ca,af (w:=w1) (aQ _ _).drew g1,af (w:=w1) (aQ _ _).drew b1⟩|exact⟨aM,aM,aM⟩) (fail)
 all_goals
  go_upto_region 13 with fail
  go_region_held3 (fun w'=>w'.cell? ⟨g,1,none⟩=some (.pointer (some ⟨k,0,none⟩))/\w'.cell? ⟨q,1,none⟩=some (i6 i)) (first|exact⟨af (w:=w1) bQ g1,af (w:=w1) bQ b1⟩|exact⟨aM,aM⟩) (first|(go_at_call 51;refine cM (Dt.out _ bQ) ?_;intro wA dY;have ey:Hid (bL w1 wA):=ab bQ dY;have mg:=af (w:=w1) ey.out g1;have m1:=af (w:=w1) ey.out b1))
 all_goals
  clear dY;go_wp2;go_ret;exact⟨rfl,eE.out _ _ _ (dF.out.same ey.out)⟩
theorem aaB(h:jg g k p B w)(n:Nat)(hf:ig n p.nf)(hL:aL p.nf)(_:n<=3840000)(hc:B.bX<=230000)(xb:Int)(dt:ByteArray)(i:Nat)(hi:i<3)(eY:w.cell? ⟨k,11+i,none⟩=some (.pointer none))(gt:ByteArray)(er:Int)(pI:0<er/\er<=100)(JG:∀w',bL w w'->Calls prog 51 #[.pointer (some ⟨k,0,none⟩),i6 i] w' (rB (.tuple #[.string gt,i6 er]) w')):Calls prog 13 #[.pointer (some ⟨g,0,none⟩),.agg #[.string ⟨#[103,111,116]⟩,i6 i,i6 xb,.string dt]] w (fQ 0 g k B w (eA er) p.nf):=by
 have hi2:¬(2:Int)<(i:Int):=oM;have iB:(0:Int)<=(i:Int):=oM;have Cp:(i:Int)<3:=oM;have HG:=aa JG;have B3:=aa (fun w'=>o6 er w' ⟨oM,pI.2⟩);have abG:0<er:=pI.1;generalize eA er=T at *;clear JG;have HP:=aa h;have HF:=aa hf;have HI:=aa hf.fit.cD;have jo:=aa hL;have oz:=aa hc;have kS:=aH h.aW;have dq:¬B.au k w.heap.size:=fun e=>by have:=h.st.bz _ e;omega
 have fZ:=aa dq;obtain⟨w1,gm⟩:∃w1,w.alloc (Obj.cells #[.string ⟨#[103,111,116]⟩,i6 i,i6 xb,.string dt] 31)=w1:=⟨_,rfl⟩
 have aU:Hid (bL w w1):=by rw[<-gm];exact aB w _
 have dF:=aa (h.later aU.out);have eE:=aa (fun c t w' (hk:jE c g k B w1 t w')=>hk.gO aU.out);obtain⟨b0,b1,b2,b3⟩:=sN gm;have g1:w1.cell? ⟨g,1,none⟩=some (.pointer (some ⟨k,0,none⟩)):=dF.out.cells.2.1;have lK:=al g1;have nz:=al b1;have ca:w1.cell? ⟨k,11+i,none⟩=some (.pointer none):=af aU.out eY;have lk1:=al ca;clear h hf hL hc dq eY;go_enter func13,ntmps13;have Dt:=aa (fun w' (hb:bL w1 w')=>HG.out w' (ab aU.out hb));clear HG;go_upto_region 11 with fail;clear gm;generalize w.heap.size=q at *
 go_region_held3 (fun w'=>w'.cell? ⟨k,11+i,none⟩=some (.pointer none)/\w'.cell? ⟨g,1,none⟩=some (.pointer (some ⟨k,0,none⟩))/\w'.cell? ⟨q,1,none⟩=some (i6 i)) (first|exact⟨af (w:=w1) (aQ _ _) ca,af (w:=w1) (aQ _ _) g1,af (w:=w1) (aQ _ _) b1⟩|exact⟨af (w:=w1) (aQ _ _).drew ca,af (w:=w1) (aQ _ _).drew g1,af (w:=w1) (aQ _ _).drew b1⟩|exact⟨aM,aM,aM⟩) (fail)
 all_goals
  go_upto_region 13 with fail
  go_region_held3 (fun w'=>w'.cell? ⟨g,1,none⟩=some (.pointer (some ⟨k,0,none⟩))/\w'.cell? ⟨q,1,none⟩=some (i6 i)) (first|exact⟨af (w:=w1) bQ g1,af (w:=w1) bQ b1⟩|exact⟨aM,aM⟩) (first|(go_at_call 51;refine cM (Dt.out _ bQ) ?_;intro wA dY;have ey:Hid (bL w1 wA):=ab bQ dY;have mg:=af (w:=w1) ey.out g1;have m1:=af (w:=w1) ey.out b1))
 all_goals
  clear dY;go_wp2_with fail;refine cM (B3.out _) ?_;intro wT dY;have gZ:=aa (eE.out _ _ _ (dF.out.same (ab ey.out dY)));clear dY;go_wp2;go_ret;exact⟨rfl,gZ.out⟩
end
section
variable(g k:Nat)(p:Sk)(B:Rs)(w:World)
theorem L0(h:jg g k p B w)(n:Nat)(hf:ig n p.nf)(hL:aL p.nf)(_:n<=3840000)(hc:B.bX<=230000)(xa xb:Int)(dt:ByteArray)(tE:0<=xa/\xa<=999):Calls prog 13 #[.pointer (some ⟨g,0,none⟩),.agg #[.string ⟨#[99,114,97,115,104]⟩,i6 xa,i6 xb,.string dt]] w (fQ 0 g k B w (eA 0) (vy (p.dev.fk xa))):=by
 have si:IntKind.u64.wrap xa=xa:=by rw[IntKind.wrap_u64];omega
 have P5:=aa tE;clear tE;have HWT:Hid (B.m.waits.length<=1000000):=by have:=h.st.mem.wb;show B.m.waits.length<=1000000;omega
 have HP:=aa h;have HF:=aa hf;have HI:=aa hf.fit.cD;have jo:=aa hL;have oz:=aa hc;have kS:=aH h.aW;have dq:¬B.au k w.heap.size:=fun e=>by have:=h.st.bz _ e;omega
 have fZ:=aa dq;obtain⟨w1,gm⟩:∃w1,w.alloc (Obj.cells #[.string ⟨#[99,114,97,115,104]⟩,i6 xa,i6 xb,.string dt] 31)=w1:=⟨_,rfl⟩
 have aU:Hid (bL w w1):=by rw[<-gm];exact aB w _
 have dF:=aa (h.later aU.out);have eE:=aa (fun c t w' (hk:jE c g k B w1 t w')=>hk.gO aU.out);obtain⟨b0,b1,b2,b3⟩:=sN gm;have g1:w1.cell? ⟨g,1,none⟩=some (.pointer (some ⟨k,0,none⟩)):=dF.out.cells.2.1;have lK:=al g1;have nz:=al b1;have g0:w1.cell? ⟨g,0,none⟩=some (.pointer (some ⟨B.b,0,none⟩)):=dF.out.cells.1;clear h hf hL hc dq;go_enter func13,ntmps13;go_upto_region 39 with fail;clear gm;generalize w.heap.size=q at *
 go_region_held3 (fun w'=>w'.cell? ⟨g,0,none⟩=some (.pointer (some ⟨B.b,0,none⟩))/\w'.cell? ⟨g,1,none⟩=some (.pointer (some ⟨k,0,none⟩))/\w'.cell? ⟨q,1,none⟩=some (i6 xa)) (first|exact⟨af (w:=w1) (aQ _ _) g0,af (w:=w1) (aQ _ _) g1,af (w:=w1) (aQ _ _) b1⟩|exact⟨af (w:=w1) (aQ _ _).drew g0,af (w:=w1) (aQ _ _).drew g1,af (w:=w1) (aQ _ _).drew b1⟩|exact⟨aM,aM,aM⟩) (first|(go_at_call 62;refine cM (O3 B.b B.m B.ra xa (by have:=P5.out;omega) _ (dF.out.later bQ).st.mem.cz.dev HWT.out) ?_;intro wA hd;have HD:=aa hd;have uX:∀j,B.ra.au B.b j->B.au k j:=fun j hj=>ir (il (ir hj));have VR:=aa uX;have MI:Hid (aG (fun j=>B.au k j) w1 wA):=(aG.cj (F:=fun j=>B.au k j) bQ).trans (hd.only.mono (fun j e=>uX j e)) (fun j e=>il e);have mg0:=(MI.out.cell (p:=⟨g,0,none⟩) lK HP.out.off).trans g0;have mg:=(MI.out.cell (p:=⟨g,1,none⟩) lK HP.out.off).trans g1;have m1:=(MI.out.cell (p:=⟨q,1,none⟩) nz fZ.out).trans b1))
 all_goals
  clear hd uX;have Ds:=aa mg0;have Oi:wA.heap[g]?=some (.cells #[.pointer (some ⟨B.b,0,none⟩),.pointer (some ⟨k,0,none⟩)] 41 (0,0)):=by rw[MI.out.block g lK HP.out.off];exact dF.out.aW
  have ID:=aa Oi;have lgA:=aH Oi;clear Oi;go_wp2_with fail;refine(zL B.b (p.dev.fk xa) (B.m.fk xa) ⟨none,0,none,0⟩ _ HD.out.dev (HP.out.st.mem.tied.fk xa) rfl rfl B.bX (ac0 _)).mono ?_;rintro e w2 ⟨s',v',DH,rfl,dA,aA,z1,z2,z3⟩;have HS:=aa dA;have HZ:=aa (⟨aA,z1,z2,z3⟩:_/\_/\_/\_);have ur:w2.heap[g]?=some (.cells #[.pointer (some ⟨B.b,0,none⟩),.pointer (some ⟨k,0,none⟩)] 41 (0,0)):=by rw[aA.block g lgA];exact ID.out
  have cw:=aa ur;have d1:w2.cell? ⟨g,1,none⟩=some (.pointer (some ⟨k,0,none⟩)):=by rw[aP ur];rfl
  have f1:w2.frozen? ⟨g,1,none⟩=false:=cQ ur 1;have lg2:=al d1;clear dA aA z1 z2 z3 ur;go_wp2;go_ret;refine⟨rfl,eE.out _ _ _ ?_⟩;have hz:=MI.out.size;have hX:∀j,B.X j->j<w2.heap.size:=fun j hj=>acD (dF.out.st.mem.gU j hj) (acv hz HZ.out.1.size)
  have hS:=HS.out.fresh rfl B.X hX;have hfn:∀j,({ vv B.b v' DH (B.m.fk xa) ⟨none,0,none,0⟩ B.bX with X:=B.X }:Rs).au s' j->B.au k j\/w1.heap.size<=j:=by
   obtain⟨-,z1,z2,z3⟩:=HZ.out;rintro j (e|(e|e)|⟨i,_,hi⟩)
   ·exact ir oM
   ·have e':j=DH:=e;exact ir oM
   ·rcases e with e|⟨q',cE,_⟩
    ·exact il (VR.out j (il e))
    ·cases cE
   ·cases hi
  have Rp:¬({ vv B.b v' DH (B.m.fk xa) ⟨none,0,none,0⟩ B.bX with X:=B.X }:Rs).au s' g:=fun e=>by
   rcases hfn g e with h1|h1
   ·exact HP.out.off h1
   ·omega
  have hvg:¬v'=g:=by have:=HZ.out.2.2.1;omega
  have hO:aG (fun j=>j=g) w2 (w2.setCell ⟨g,1,none⟩ (.pointer (some ⟨s',0,none⟩))):=(aG.refl (fun j=>j=g) w2).setCell ⟨g,1,none⟩ (il rfl) _;refine⟨s',{ lL with dev:=p.dev.fk xa },{ vv B.b v' DH (B.m.fk xa) ⟨none,0,none,0⟩ B.bX with X:=B.X },⟨?_,?_,Rp⟩,?_,?_,hfn,rfl,rfl,ir (by have:=HZ.out.2.2.1;show w1.heap.size<=v';omega),ab5 _⟩
  ·exact hS.frame hO (fun j hj e=>Rp (e▸hj)) hvg (fun aE=>absurd rfl aE) (fun aE=>absurd rfl aE) (fun r hr=>by
    have dh:r∈([]:List Rq)++([]:List Rq):=hr
    cases dh) (fun i _ j hj=>by cases hj) (fun aE=>absurd rfl aE)
  ·rw[bM cw.out];rfl
  ·exact SW _ rfl
  ·exact((MI.out.mono (fun j e=>il e)).trans (aG.cj (F:=fun _=>False) HZ.out.1) (fun _ e=>e.elim)).trans hO (fun j e=>il (ir e))
end
theorem Jq{n:Int}{x:St}(h:ss n false x=true):x.data=⟨#[]⟩:=by
 unfold ss at h;simp only[ac2,Bool.false_or] at h;have h2:=h.2;rw[ad0] at h2;have h3:x.data.data.toList=[]:=afb.1 h2;exact ByteArray.ext (by rw[<-adM];exact h3)
theorem aa1{b:Bool}{x:St}(h:ss 1 b x=true):x.b=0:=by
 unfold ss at h;simp only[ac2] at h;have h2:=h.1.2
 simpa using h2
theorem jE.mono{c c' g k:Nat}{B:Rs}{w w':World}{q:Sk}(h:jE c g k B w q w')(hc:c<=c'):jE c' g k B w q w':=by
 obtain⟨k',p',B',hs⟩:=h;exact⟨k',p',B',hs.at',hs.nf,hs.only,hs.au,hs.b,hs.X,hs.v,acv hs.bX oM⟩
theorem fQ.mono{c c' g k:Nat}{B:Rs}{w w':World}{t:List UInt8}{q:Sk}{e:Ending}(hc:c<=c')(h:fQ c g k B w t q e w'):fQ c' g k B w t q e w':=⟨h.1,h.2.mono hc⟩
theorem SG(g k:Nat)(p:Sk)(B:Rs)(w:World)(h:jg g k p B w)(n:Nat)(hf:ig n p.nf)(hL:aL p.nf)(hn:n<=3840000)(hc:B.bX<=230000)(hG:cd p)(Zv:cr p)(xa xb:Int)(dt:ByteArray)(hx:0<=xa):Calls prog 13 #[.pointer (some ⟨g,0,none⟩),.agg #[.string ⟨#[103,111,116]⟩,i6 xa,i6 xb,.string dt]] w (fQ 0 g k B w (Aq p.nf xa) p.nf):=by
 by_cases h2:2<xa
 ·have e:Aq p.nf xa=eA 5:=by
   unfold Aq Sk.waits Oc;rw[aci oM,aeX,ab6 acn,ab6 oM]
  rw[e];exact Vf g k p B w h n hf hL hn hc xa xb dt h2
 ·obtain⟨i,rfl⟩:∃i:Nat,xa=i:=⟨xa.toNat,oM⟩
  have hi:i<3:=oM;have ew:p.nf.waits i=!((p.aj i).kind==0):=by
   unfold Sk.waits;rw[acf (show 0<=(i:Int)/\(i:Int)<3 from oM),adJ,acE]
   rfl
  unfold Aq;rw[ew]
  rcases h.st.Iq hi with⟨hk,yd⟩|⟨hk,k0,yd⟩
  ·rw[hk];rw[ab6 dM];unfold Oc;rw[aca (show 0<=(i:Int)/\(i:Int)<3 from oM),acE];have GA:=Zv.aax i;have ZI:∀w',bL w w'->Calls prog 51 #[.pointer (some ⟨k,0,none⟩),i6 i] w' (rB (.tuple #[.string (p.aj i).gG,i6 (p.aj i).err]) w'):=fun w' hb=>Ku k p B w' (h.later hb).st i hi (hG.aj i)
   show Calls _ _ _ _ (fQ 0 g k B w (if(p.aj i).err=0 then _ else _) p.nf)
   by_cases he:(p.aj i).err=0
   ·rw[aca he];rw[he] at ZI;exact aaA g k p B w h n hf hL hn hc xb dt i hi yd (p.aj i).gG GA.2.2 ZI
   ·rw[ab6 he];exact aaB g k p B w h n hf hL hn hc xb dt i hi yd (p.aj i).gG (p.aj i).err ⟨oM,GA.2.1⟩ ZI
  ·have hb:((p.aj i).kind==0)=false:=ab8.2 hk;rw[hb,aca dM];exact O9 g k p B w h n hf hL hn hc xb dt i hi k0 yd
abbrev pQ(g k:Nat)(B:Rs)(w:World)(xw:ByteArray)(xa xb:Int)(dt:ByteArray)(z:List UInt8 × Sk):Prop:=Calls prog 13 #[.pointer (some ⟨g,0,none⟩),.agg #[.string xw,i6 xa,i6 xb,.string dt]] w (fQ 999 g k B w z.1 z.2)
theorem SE(g k:Nat)(p:Sk)(B:Rs)(w:World)(h:jg g k p B w)(n:Nat)(hf:ig n p.nf)(hL:aL p.nf)(hG:cd p)(Zv:cr p)(hn:n<=3830000)(hc:B.bX<=229000)(x:St)(h0:bY x=0):Calls prog 13 #[.pointer (some ⟨g,0,none⟩),x.val] w (fQ 999 g k B w (iD p.nf x).1 (iD p.nf x).2):=by
 obtain⟨xw,xa,xb,dt⟩:=x;have mP:=(xW h0).2.1;have ha:0<=xa/\xa<=999:=(xW h0).2.2.1;have hw:=(xW h0).1;have lo:n<=3840000:=oM;have lI:B.bX<=230000:=oM;clear h0;have key:pQ g k B w xw xa xb dt (iD p.nf ⟨xw,xa,xb,dt⟩):=by
  unfold iD;refine df (P:=pQ g k B w xw xa xb dt) (fun e=>by subst e;have hd:dt=⟨#[]⟩:=Jq (n:=2) mP;subst hd;exact(Pe g k p B w h n hf hL lo lI xa xb _).mono (fun e w' h'=>h'.mono oM)) (fun e0=>?_);refine df (P:=pQ g k B w xw xa xb dt) (fun e=>by subst e;exact(L7 g k p B w h n hf hL lo lI xa xb dt).mono (fun e w' h'=>h'.mono oM)) (fun e1=>?_);refine df (P:=pQ g k B w xw xa xb dt) (fun e=>by subst e;have hd:dt=⟨#[]⟩:=Jq (n:=1) mP;have hb:xb=0:=aa1 (b:=false) mP;subst hd;subst hb;exact(Pf g k p B w h n hf hL lo lI xa 0 _).mono (fun e w' h'=>h'.mono oM)) (fun e2=>?_);refine df (P:=pQ g k B w xw xa xb dt) (fun e=>by subst e;exact(SG g k p B w h n hf hL lo lI hG Zv xa xb dt ha.1).mono (fun e w' h'=>h'.mono oM)) (fun e3=>?_);refine df (P:=pQ g k B w xw xa xb dt) (fun e=>by subst e;exact(Pg g k p B w h n hf hL lo lI xa xb dt).mono (fun e w' h'=>h'.mono oM)) (fun e4=>?_);refine df (P:=pQ g k B w xw xa xb dt) (fun e=>by subst e;exact(L6 g k p B w h n hf hL lo lI xa xb dt).mono (fun e w' h'=>h'.mono oM)) (fun e5=>?_);refine df (P:=pQ g k B w xw xa xb dt) (fun e=>by subst e;exact(LZ g k p B w h n hf hL lo lI xa xb dt).mono (fun e w' h'=>h'.mono oM)) (fun e6=>?_);refine df (P:=pQ g k B w xw xa xb dt) (fun e=>by subst e;exact(FB g k p B w h n hf hL lo lI xa xb dt).mono (fun e w' h'=>h'.mono oM)) (fun e7=>?_);refine df (P:=pQ g k B w xw xa xb dt) (fun e=>by subst e;exact(SF g k p B w h n hf hL lo lI xa xb dt).mono (fun e w' h'=>h'.mono oM)) (fun e8=>?_);refine df (P:=pQ g k B w xw xa xb dt) (fun e=>by subst e;exact(L4 g k p B w h n hf hL lo lI xa xb dt).mono (fun e w' h'=>h'.mono oM)) (fun e9=>?_);refine df (P:=pQ g k B w xw xa xb dt) (fun e=>by subst e;obtain⟨m,hm⟩:∃m:Nat,xa=m:=⟨xa.toNat,(aeU ha.1).symm⟩;have hm9:m<=999:=(by clear mP hw;omega);subst hm;have:=KA g k p B w h n hf hL lo lI xb dt m hm9 oM oM;exact this.mono (fun e w' h'=>h'.mono hm9)) (fun Zg=>?_);refine df (P:=pQ g k B w xw xa xb dt) (fun e=>by subst e;have:=L5 g k p B w h n hf hL lo lI xa xb dt;rw[<-zk] at this;exact this.mono (fun e w' h'=>h'.mono oM)) (fun Zh=>?_);refine df (P:=pQ g k B w xw xa xb dt) (fun e=>by subst e;have:=Pd g k p B w h n hf hL lo lI xa xb dt;rw[<-zk] at this;exact this.mono (fun e w' h'=>h'.mono oM)) (fun Zi=>?_);refine df (P:=pQ g k B w xw xa xb dt) (fun e=>by subst e;exact(L3 g k p B w h n hf hL lo lI xa xb dt).mono (fun e w' h'=>h'.mono oM)) (fun Zj=>?_);refine df (P:=pQ g k B w xw xa xb dt) (fun e=>by subst e;exact(L0 g k p B w h n hf hL lo lI xa xb dt ha).mono (fun e w' h'=>h'.mono oM)) (fun Zk=>?_);have fh:fJ xw=none:=by
   unfold fJ;rw[ab6 Zj,ab6 Zi,ab6 Zh,ab6 e5,ab6 e7,ab6 e6,ab6 e4,ab6 Zk,ab6 Zg,ab6 e9,ab6 e8,ab6 e3,ab6 e2,ab6 e1,ab6 e0]
  rw[show fJ (St.mk xw xa xb dt).word=none from fh] at hw
  cases hw
 exact key
theorem SH(w:World)(X:Nat->Prop)(hX:∀j,X j->j<w.heap.size):Calls prog 10 #[] w fun e w'=>∃g k p B,e=.returned (.pointer (some ⟨g,0,none⟩))/\IV g k p B X w w':=by
 have HX:=aa hX;clear hX;have hzv:∀w',Sem.run prog (zeroValue 49) w'=.ok (.agg (m0.cells Km).toArray) w':=fun _=>rfl
 go_enter func10,ntmps10;go_wp2_with fail;have HW1:=aa (aB w (.cells (m0.cells Km).toArray 49));refine(zL w.heap.size d0 m0 Km _ (abd _ _ (ac8 w _)) kq.start rfl rfl 0 (ac0 _)).mono ?_;rintro e w2 ⟨k,v,bm,rfl,dA,aA,z1,z2,z3⟩;have HS:=aa dA;have HZ:=aa (⟨ab HW1.out aA,z1,z2,z3⟩:_/\_/\_/\_);clear dA aA z1 z2 z3 hzv HW1;go_wp2;go_ret;obtain⟨aA,z1,z2,z3⟩:=HZ.out;rw[ab9] at z1 z2 z3;have Ck:∀j,X j->j<w2.heap.size:=fun j hj=>acD (HX.out j hj) aA.size
 have hS:=HS.out.fresh rfl X Ck;have Om:∀j,({ vv w.heap.size v bm m0 Km 0 with X:=X }:Rs).au k j->w.heap.size<=j:=by
  rintro j (e|(e|e)|⟨i,_,hi⟩)
  ·omega
  ·have e':j=bm:=e
   omega
  ·rcases e with e|⟨q,hq,_⟩
   ·have e':j=w.heap.size:=e
    omega
   ·cases hq
  ·cases hi
 have Jz:bL w2 (w2.alloc (.cells #[.pointer (some ⟨w.heap.size,0,none⟩),.pointer (some ⟨k,0,none⟩)] 41 (0,0))):=aB w2 _;refine⟨w2.heap.size,k,{ lL with dev:=d0 },{ vv w.heap.size v bm m0 Km 0 with X:=X },rfl,⟨hS.later Jz,Array.getElem?_push_size,fun e=>by have:=hS.bz _ e;omega⟩,rfl,ab aA Jz,?_,rfl,by show w.heap.size<=v;omega,rfl⟩;rintro j (e|e)
 ·exact Om j e
 ·rw[e];exact aA.size
def ko(g s:Nat)(A:Sa)(j:Nat):Prop:=A.au s j\/j=g
structure DE(g s:Nat)(p:Sk)(A:Sa)(X:Nat->Prop)(w w':World):Prop where
 at':kF g s p A w'
 nf:p.nf=lL
 bel:bL w w'
 au:∀j,ko g s A j->w.heap.size<=j
 X:A.X=X
 v:w.heap.size<=A.v
theorem Ki(w:World)(X:Nat->Prop)(hX:∀j,X j->j<w.heap.size):Calls prog 9 #[] w fun e w'=>∃g s p A,e=.returned (.pointer (some ⟨g,0,none⟩))/\DE g s p A X w w':=by
 have HX:=aa hX;clear hX;go_enter func9,ntmps9;go_wp2_with fail;refine(XK _).mono ?_;rintro e w1 ⟨rfl,hd,aw,eI⟩;have HD:=aa hd;have aU:=aa aw;have cg:=aa eI;clear hd aw eI;go_wp2_with fail;refine(He _ d0 F8 w1 HD.out rfl X (fun j hj=>acD (HX.out j hj) aU.out.size)).mono ?_;rintro e w2 ⟨s,v,bm,rfl,dA,aA,z1,z2,z3⟩;have HS:=aa dA;have HZ:=aa (⟨aA,z1,z2,z3⟩:_/\_/\_/\_);clear dA aA z1 z2 z3;go_wp2;go_ret;have hz:=aU.out.size;have cP:=cg.out;obtain⟨aA,z1,z2,z3⟩:=HZ.out;have Om:∀j,(NB w.heap.size v bm F8 X).au s j->w.heap.size<=j:=by
  rintro j (e|(e|e)|⟨i,_,q',cE,_⟩)
  ·omega
  ·have e':j=bm:=e
   omega
  ·rcases e with e|⟨q,hq,_⟩|⟨q,hq,_⟩
   ·have e':j=w.heap.size:=e
    omega
   ·cases hq
   ·cases hq
  ·cases cE
 have Jz:bL w2 (w2.alloc (.cells #[.pointer (some ⟨w.heap.size,0,none⟩),.pointer (some ⟨s,0,none⟩)] 72 (0,0))):=aB w2 _;refine⟨w2.heap.size,s,vy d0,NB w.heap.size v bm F8 X,rfl,⟨HS.out.later Jz,Array.getElem?_push_size,fun e=>by have:=HS.out.bz _ e;omega⟩,rfl,ab (ab aU.out aA) Jz,?_,rfl,by show w.heap.size<=v;omega⟩;rintro j (e|e)
 ·exact Om j e
 ·rw[e];have:=aA.size;omega
section
variable{W:World}{g1 s1 g2 s2 s':Nat}{p1 p2 p' q:Sk}{A1 A2 A':Sa}{w w':World}
theorem kF.zJ{g s:Nat}{p:Sk}{A:Sa}{w:World}(h:kF g s p A w)(j:Nat)(hj:ko g s A j):j<w.heap.size:=by
 rcases hj with e|e
 ·exact h.st.bz j e
 ·rw[e];exact aH h.aW
end
end Go.Proofs.YtlhgjplipgandaaGreatDoor
