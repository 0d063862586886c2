/- Joined texts: PlyE, PlyF, PlyG. -/
import Derived.Test.YtlhgjplipgandaaGreatDoorD47
import Derived.Test.YtlhgjplipgandaaGreatDoorD40
import Derived.Test.YtlhgjplipgandaaGreatDoorD32
set_option maxRecDepth 100000
set_option maxHeartbeats 8000000
set_option linter.unusedSimpArgs false
set_option linter.unusedSectionVars false
namespace Go.Proofs.YtlhgjplipgandaaGreatDoor
open Go.RowKit Go.BigFrame Go.Maps
attribute [local go_sem] ze.cell ze.frozen
section
variable(W:World)(g s:Nat)(p:Sk)(A:Sa)(w:World)
theorem zm8(h:zbf g s p A w)(n:Nat)(hf:Fit n p)(_:n≤880000)(hLW:TabW W)(hbW:Below W.heap.size W w)(hfW:∀j,A.foot s j→W.heap.size≤j)(hgW:W.heap.size≤g)(xa xb:Int)(dt:ByteArray)(hx:za1 ⟨⟨#[116,105,99,107]⟩,xa,xb,dt⟩)(h0:zz ⟨⟨#[116,105,99,107]⟩,xa,xb,dt⟩=0):Calls Tryz.prog 12 #[.pointer (some ⟨g,0,none⟩),.agg #[.string ⟨#[116,105,99,107]⟩,.int .i64 xa,.int .i64 xb,.string dt]] w (zak g s A w (zaD 0) p.nf.tick):=by
 have HP:=za h;have HCK:Hid (∀w',Calls Tryz.prog 23 #[.agg #[.string ⟨#[116,105,99,107]⟩,.int .i64 xa,.int .i64 xb,.string dt]] w' fun e w2=>e=.returned .nilIface∧Below w'.heap.size w' w2):=(fun w'=>by have:=zag ⟨⟨#[116,105,99,107]⟩,xa,xb,dt⟩ w' hx;rw[h0] at this;exact this);have HI:=za hf;have HLW:=za hLW;have HBW:=za (⟨hbW,hfW,hgW⟩:_∧_∧_);have lg0:=zi h.blk;have hqa:¬A.foot s w.heap.size:=(fun e=>by have:=h.st.footLt _ e;omega);have HQA:=za hqa;clear h hx hf hLW hbW hfW hgW hqa h0;go_enter Tryz.func12,Tryz.ntmps12;go_wp2_with fail;refine(HCK.out _).mono ?_;rintro e w1 ⟨rfl,hb1⟩;have HB1:Hid (Below w.heap.size w w1):=zb (zs w _) hb1;have HP1:=za (HP.out.later HB1.out);have HFR:=za (fun t w' (hk:za6 g s A w1 t w')=>hk.from' HB1.out);have b0:w1.cell? ⟨w.heap.size,0,none⟩=some (.string ⟨#[116,105,99,107]⟩):=(hb1.cell (p:=⟨w.heap.size,0,none⟩) (by simp)).trans (by simp);have b1:w1.cell? ⟨w.heap.size,1,none⟩=some (.int .i64 xa):=(hb1.cell (p:=⟨w.heap.size,1,none⟩) (by simp)).trans (by simp);have b2:w1.cell? ⟨w.heap.size,2,none⟩=some (.int .i64 xb):=(hb1.cell (p:=⟨w.heap.size,2,none⟩) (by simp)).trans (by simp);have b3:w1.cell? ⟨w.heap.size,3,none⟩=some (.string dt):=(hb1.cell (p:=⟨w.heap.size,3,none⟩) (by simp)).trans (by simp);have g1:w1.cell? ⟨g,1,none⟩=some (.pointer (some ⟨s,0,none⟩)):=(HP.out.later HB1.out).cells.2.1;have lg1:=zg g1;have lq1:=zg b0;clear hb1 HCK;have HQQ:Hid (w.heap.size=w.heap.size):=rfl;clear HQQ;go_wp2_with fail;refine(zjD s p A _ HP1.out.st HI.out.inv (by have:=HI.out.tags;omega) (by have:=HI.out.uses;omega) _ rfl).mono ?_;rintro e w2 ⟨rfl,hok⟩;have HOK:=za (HFR.out _ _ (HP1.out.code (Below.refl _ _) hok));clear hok;go_wp2_with fail;refine(zdY 0 _ (HLW.out.later (HOK.out.bel HBW.out.1 HBW.out.2.1 HBW.out.2.2)) (by omega)).mono ?_;rintro e w3 ⟨rfl,hb3⟩;have HOT:=za (HOK.out.later hb3);clear hb3;go_wp2;go_ret;exact⟨rfl,HOT.out⟩
theorem zlN(h:zbf g s p A w)(n:Nat)(hf:Fit n p)(_:n≤880000)(hLW:TabW W)(hbW:Below W.heap.size W w)(hfW:∀j,A.foot s j→W.heap.size≤j)(hgW:W.heap.size≤g)(xa xb:Int)(dt:ByteArray)(hx:za1 ⟨⟨#[114,111,117,110,100]⟩,xa,xb,dt⟩)(h0:zz ⟨⟨#[114,111,117,110,100]⟩,xa,xb,dt⟩=0):Calls Tryz.prog 12 #[.pointer (some ⟨g,0,none⟩),.agg #[.string ⟨#[114,111,117,110,100]⟩,.int .i64 xa,.int .i64 xb,.string dt]] w (zak g s A w (zaD 0) p.nf.round):=by
 have HP:=za h;have HCK:Hid (∀w',Calls Tryz.prog 23 #[.agg #[.string ⟨#[114,111,117,110,100]⟩,.int .i64 xa,.int .i64 xb,.string dt]] w' fun e w2=>e=.returned .nilIface∧Below w'.heap.size w' w2):=(fun w'=>by have:=zag ⟨⟨#[114,111,117,110,100]⟩,xa,xb,dt⟩ w' hx;rw[h0] at this;exact this);have HI:=za hf;have HLW:=za hLW;have HBW:=za (⟨hbW,hfW,hgW⟩:_∧_∧_);have lg0:=zi h.blk;have hqa:¬A.foot s w.heap.size:=(fun e=>by have:=h.st.footLt _ e;omega);have HQA:=za hqa;clear h hx hf hLW hbW hfW hgW hqa h0;go_enter Tryz.func12,Tryz.ntmps12;go_wp2_with fail;refine(HCK.out _).mono ?_;rintro e w1 ⟨rfl,hb1⟩;have HB1:Hid (Below w.heap.size w w1):=zb (zs w _) hb1;have HP1:=za (HP.out.later HB1.out);have HFR:=za (fun t w' (hk:za6 g s A w1 t w')=>hk.from' HB1.out);have b0:w1.cell? ⟨w.heap.size,0,none⟩=some (.string ⟨#[114,111,117,110,100]⟩):=(hb1.cell (p:=⟨w.heap.size,0,none⟩) (by simp)).trans (by simp);have b1:w1.cell? ⟨w.heap.size,1,none⟩=some (.int .i64 xa):=(hb1.cell (p:=⟨w.heap.size,1,none⟩) (by simp)).trans (by simp);have b2:w1.cell? ⟨w.heap.size,2,none⟩=some (.int .i64 xb):=(hb1.cell (p:=⟨w.heap.size,2,none⟩) (by simp)).trans (by simp);have b3:w1.cell? ⟨w.heap.size,3,none⟩=some (.string dt):=(hb1.cell (p:=⟨w.heap.size,3,none⟩) (by simp)).trans (by simp);have g1:w1.cell? ⟨g,1,none⟩=some (.pointer (some ⟨s,0,none⟩)):=(HP.out.later HB1.out).cells.2.1;have lg1:=zg g1;have lq1:=zg b0;clear hb1 HCK;have HQQ:Hid (w.heap.size=w.heap.size):=rfl;clear HQQ;go_wp2_with fail;refine(zic ⟨p,A,w1⟩ w1 s A.b p.nf n ⟨p,A,zp.same' HP1.out.st (Below.refl _ _),rfl,rfl⟩ HI.out.nf (by omega) _ rfl).mono ?_;rintro e w2 ⟨rfl,p',A',hs,hn',-⟩;have HOK:=za (HFR.out _ _ (HP1.out.code (Below.refl _ _) ⟨p',A',hs,hn'⟩));clear hs hn';go_wp2_with fail;refine(zdY 0 _ (HLW.out.later (HOK.out.bel HBW.out.1 HBW.out.2.1 HBW.out.2.2)) (by omega)).mono ?_;rintro e w3 ⟨rfl,hb3⟩;have HOT:=za (HOK.out.later hb3);clear hb3;go_wp2;go_ret;exact⟨rfl,HOT.out⟩
theorem zlI(h:zbf g s p A w)(n:Nat)(hf:Fit n p)(_:n≤880000)(hLW:TabW W)(hbW:Below W.heap.size W w)(hfW:∀j,A.foot s j→W.heap.size≤j)(hgW:W.heap.size≤g)(xa xb:Int)(dt:ByteArray)(hx:za1 ⟨⟨#[99,108,101,97,110]⟩,xa,xb,dt⟩)(h0:zz ⟨⟨#[99,108,101,97,110]⟩,xa,xb,dt⟩=0):Calls Tryz.prog 12 #[.pointer (some ⟨g,0,none⟩),.agg #[.string ⟨#[99,108,101,97,110]⟩,.int .i64 xa,.int .i64 xb,.string dt]] w (zak g s A w (ynL p.nf.clean.1) p.nf.clean.2):=by
 obtain⟨z,hz⟩:∃z,p.nf.clean=z:=⟨_,rfl⟩
 obtain⟨t,q'⟩:=z;have HZ:=za hz;rw[hz];show Calls _ _ _ _ (zak g s A w (ynL t) q');clear hz;have HP:=za h;have HCK:Hid (∀w',Calls Tryz.prog 23 #[.agg #[.string ⟨#[99,108,101,97,110]⟩,.int .i64 xa,.int .i64 xb,.string dt]] w' fun e w2=>e=.returned .nilIface∧Below w'.heap.size w' w2):=(fun w'=>by have:=zag ⟨⟨#[99,108,101,97,110]⟩,xa,xb,dt⟩ w' hx;rw[h0] at this;exact this);have HI:=za hf;have HLW:=za hLW;have HBW:=za (⟨hbW,hfW,hgW⟩:_∧_∧_);have lg0:=zi h.blk;have hqa:¬A.foot s w.heap.size:=(fun e=>by have:=h.st.footLt _ e;omega);have HQA:=za hqa;clear h hx hf hLW hbW hfW hgW hqa h0;go_enter Tryz.func12,Tryz.ntmps12;go_wp2_with fail;refine(HCK.out _).mono ?_;rintro e w1 ⟨rfl,hb1⟩;have HB1:Hid (Below w.heap.size w w1):=zb (zs w _) hb1;have HP1:=za (HP.out.later HB1.out);have HFR:=za (fun t w' (hk:za6 g s A w1 t w')=>hk.from' HB1.out);have b0:w1.cell? ⟨w.heap.size,0,none⟩=some (.string ⟨#[99,108,101,97,110]⟩):=(hb1.cell (p:=⟨w.heap.size,0,none⟩) (by simp)).trans (by simp);have b1:w1.cell? ⟨w.heap.size,1,none⟩=some (.int .i64 xa):=(hb1.cell (p:=⟨w.heap.size,1,none⟩) (by simp)).trans (by simp);have b2:w1.cell? ⟨w.heap.size,2,none⟩=some (.int .i64 xb):=(hb1.cell (p:=⟨w.heap.size,2,none⟩) (by simp)).trans (by simp);have b3:w1.cell? ⟨w.heap.size,3,none⟩=some (.string dt):=(hb1.cell (p:=⟨w.heap.size,3,none⟩) (by simp)).trans (by simp);have g1:w1.cell? ⟨g,1,none⟩=some (.pointer (some ⟨s,0,none⟩)):=(HP.out.later HB1.out).cells.2.1;have lg1:=zg g1;have lq1:=zg b0;clear hb1 HCK;have HQQ:Hid (w.heap.size=w.heap.size):=rfl;clear HQQ;go_wp2_with fail;refine(zhc s p A _ HP1.out.st HI.out.inv (by have:=HI.out.tags;omega) _ _ HZ.out).mono ?_;rintro e w2 ⟨rfl,hok⟩;have HOK:=za (HFR.out _ _ (HP1.out.code (Below.refl _ _) hok));clear hok;go_wp2_with fail;refine(zjH _ _).mono ?_;rintro e w3 ⟨rfl,rfl⟩;go_wp2;go_ret;exact⟨rfl,HOK.out⟩
theorem ziu(h:zbf g s p A w)(n:Nat)(hf:Fit n p)(_:n≤880000)(hLW:TabW W)(hbW:Below W.heap.size W w)(hfW:∀j,A.foot s j→W.heap.size≤j)(hgW:W.heap.size≤g)(xa xb:Int)(dt:ByteArray)(hx:za1 ⟨⟨#[100,105,115,112,97,116,99,104]⟩,xa,xb,dt⟩)(h0:zz ⟨⟨#[100,105,115,112,97,116,99,104]⟩,xa,xb,dt⟩=0):Calls Tryz.prog 12 #[.pointer (some ⟨g,0,none⟩),.agg #[.string ⟨#[100,105,115,112,97,116,99,104]⟩,.int .i64 xa,.int .i64 xb,.string dt]] w (zak g s A w (ynL p.nf.dispatch.1) p.nf.dispatch.2):=by
 obtain⟨z,hz⟩:∃z,p.nf.dispatch=z:=⟨_,rfl⟩
 obtain⟨t,q'⟩:=z;have HZ:=za hz;rw[hz];show Calls _ _ _ _ (zak g s A w (ynL t) q');clear hz;have HP:=za h;have HCK:Hid (∀w',Calls Tryz.prog 23 #[.agg #[.string ⟨#[100,105,115,112,97,116,99,104]⟩,.int .i64 xa,.int .i64 xb,.string dt]] w' fun e w2=>e=.returned .nilIface∧Below w'.heap.size w' w2):=(fun w'=>by have:=zag ⟨⟨#[100,105,115,112,97,116,99,104]⟩,xa,xb,dt⟩ w' hx;rw[h0] at this;exact this);have HI:=za hf;have HLW:=za hLW;have HBW:=za (⟨hbW,hfW,hgW⟩:_∧_∧_);have lg0:=zi h.blk;have hqa:¬A.foot s w.heap.size:=(fun e=>by have:=h.st.footLt _ e;omega);have HQA:=za hqa;clear h hx hf hLW hbW hfW hgW hqa h0;go_enter Tryz.func12,Tryz.ntmps12;go_wp2_with fail;refine(HCK.out _).mono ?_;rintro e w1 ⟨rfl,hb1⟩;have HB1:Hid (Below w.heap.size w w1):=zb (zs w _) hb1;have HP1:=za (HP.out.later HB1.out);have HFR:=za (fun t w' (hk:za6 g s A w1 t w')=>hk.from' HB1.out);have b0:w1.cell? ⟨w.heap.size,0,none⟩=some (.string ⟨#[100,105,115,112,97,116,99,104]⟩):=(hb1.cell (p:=⟨w.heap.size,0,none⟩) (by simp)).trans (by simp);have b1:w1.cell? ⟨w.heap.size,1,none⟩=some (.int .i64 xa):=(hb1.cell (p:=⟨w.heap.size,1,none⟩) (by simp)).trans (by simp);have b2:w1.cell? ⟨w.heap.size,2,none⟩=some (.int .i64 xb):=(hb1.cell (p:=⟨w.heap.size,2,none⟩) (by simp)).trans (by simp);have b3:w1.cell? ⟨w.heap.size,3,none⟩=some (.string dt):=(hb1.cell (p:=⟨w.heap.size,3,none⟩) (by simp)).trans (by simp);have g1:w1.cell? ⟨g,1,none⟩=some (.pointer (some ⟨s,0,none⟩)):=(HP.out.later HB1.out).cells.2.1;have lg1:=zg g1;have lq1:=zg b0;clear hb1 HCK;have HQQ:Hid (w.heap.size=w.heap.size):=rfl;clear HQQ;go_wp2_with fail;refine(zfj s p A _ HP1.out.st HI.out.inv _ _ HZ.out).mono ?_;rintro e w2 ⟨rfl,hok⟩;have HOK:=za (HFR.out _ _ (HP1.out.code (Below.refl _ _) hok));clear hok;go_wp2_with fail;refine(zjH _ _).mono ?_;rintro e w3 ⟨rfl,rfl⟩;go_wp2;go_ret;exact⟨rfl,HOK.out⟩
end
section
variable(W:World)(g s:Nat)(p:Sk)(A:Sa)(w:World)
theorem zoz(h:zbf g s p A w)(n:Nat)(hf:Fit n p)(_:n≤880000)(hLW:TabW W)(hbW:Below W.heap.size W w)(hfW:∀j,A.foot s j→W.heap.size≤j)(hgW:W.heap.size≤g)(xa xb:Int)(dt:ByteArray)(hx:za1 ⟨⟨#[101,110,100]⟩,xa,xb,dt⟩)(h0:zz ⟨⟨#[101,110,100]⟩,xa,xb,dt⟩=0):Calls Tryz.prog 12 #[.pointer (some ⟨g,0,none⟩),.agg #[.string ⟨#[101,110,100]⟩,.int .i64 xa,.int .i64 xb,.string dt]] w (zak g s A w (zaD (p.nf.end' xa false).1) (p.nf.end' xa false).2):=by
 obtain⟨n0,hn0⟩:∃n0,(p.nf.end' xa false).1=n0:=⟨_,rfl⟩;have HNN:=za (zhX p.nf xa false);rw[hn0] at HNN;have HASK:Hid (p.nf.end' xa false=(n0,(p.nf.end' xa false).2)):=(by show _=_;rw[←hn0]);rw[hn0];clear hn0;have HP:=za h;have HCK:Hid (∀w',Calls Tryz.prog 23 #[.agg #[.string ⟨#[101,110,100]⟩,.int .i64 xa,.int .i64 xb,.string dt]] w' fun e w2=>e=.returned .nilIface∧Below w'.heap.size w' w2):=(fun w'=>by have:=zag ⟨⟨#[101,110,100]⟩,xa,xb,dt⟩ w' hx;rw[h0] at this;exact this);have HI:=za hf;have HLW:=za hLW;have HBW:=za (⟨hbW,hfW,hgW⟩:_∧_∧_);have lg0:=zi h.blk;have hqa:¬A.foot s w.heap.size:=(fun e=>by have:=h.st.footLt _ e;omega);have HQA:=za hqa;clear h hx hf hLW hbW hfW hgW hqa h0;go_enter Tryz.func12,Tryz.ntmps12;go_wp2_with fail;refine(HCK.out _).mono ?_;rintro e w1 ⟨rfl,hb1⟩;have HB1:Hid (Below w.heap.size w w1):=zb (zs w _) hb1;have HP1:=za (HP.out.later HB1.out);have HFR:=za (fun t w' (hk:za6 g s A w1 t w')=>hk.from' HB1.out);have b0:w1.cell? ⟨w.heap.size,0,none⟩=some (.string ⟨#[101,110,100]⟩):=(hb1.cell (p:=⟨w.heap.size,0,none⟩) (by simp)).trans (by simp);have b1:w1.cell? ⟨w.heap.size,1,none⟩=some (.int .i64 xa):=(hb1.cell (p:=⟨w.heap.size,1,none⟩) (by simp)).trans (by simp);have b2:w1.cell? ⟨w.heap.size,2,none⟩=some (.int .i64 xb):=(hb1.cell (p:=⟨w.heap.size,2,none⟩) (by simp)).trans (by simp);have b3:w1.cell? ⟨w.heap.size,3,none⟩=some (.string dt):=(hb1.cell (p:=⟨w.heap.size,3,none⟩) (by simp)).trans (by simp);have g1:w1.cell? ⟨g,1,none⟩=some (.pointer (some ⟨s,0,none⟩)):=(HP.out.later HB1.out).cells.2.1;have lg1:=zg g1;have lq1:=zg b0;clear hb1 HCK;have HQQ:Hid (w.heap.size=w.heap.size):=rfl;clear HQQ;generalize w.heap.size=q at *;go_upto_region 21 with fail;go_region_held3 (fun w'=>w'.cell? ⟨g,1,none⟩=some (.pointer (some ⟨s,0,none⟩))∧w'.cell? ⟨q,0,none⟩=some (.string ⟨#[101,110,100]⟩)∧w'.cell? ⟨q,1,none⟩=some (.int .i64 xa)) (first|exact⟨cellB_later' (w:=w1) (Below.refl _ _) g1,cellB_later' (w:=w1) (Below.refl _ _) b0,cellB_later' (w:=w1) (Below.refl _ _) b1⟩|exact⟨cellB_later' (w:=w1) (Below.refl _ _).drew g1,cellB_later' (w:=w1) (Below.refl _ _).drew b0,cellB_later' (w:=w1) (Below.refl _ _).drew b1⟩|exact⟨by assumption,by assumption,by assumption⟩) (first|(go_at_call 34;refine(zbY n0 _ (HLW.out.later (zb (HOK.out.bel HBW.out.1 HBW.out.2.1 HBW.out.2.2) (by(with_reducible repeat first|exact Below.refl _ _|refine zc ?_ _|refine zd ?_|refine bset' ?_ (by omega) _|refine zb ?_ (by assumption))))) HNN.out).mono ?_;rintro e wT ⟨rfl,hbT⟩;have HOT:=za (HOK.out.later (zb (Below.refl _ _) hbT));have t0:=cellB_later' hbT m0;have t1:=cellB_later' hbT m1;have t2:=cellB_later' hbT m2)|(go_at_call 42;refine(zgu s p A _ (HP1.out.st.later (by(with_reducible repeat first|exact Below.refl _ _|refine zc ?_ _|refine zd ?_|refine bset' ?_ (by omega) _|refine zb ?_ (by assumption)))) HI.out.inv HI.out.short (by have:=HI.out.tags;omega) (by have:=HI.out.uses;omega) (by have:=HI.out.ag;omega) xa false _ _ HASK.out).mono ?_;rintro e wA ⟨rfl,hok⟩;have HOK:=za (HFR.out _ _ (HP1.out.code (by(with_reducible repeat first|exact Below.refl _ _|refine zc ?_ _|refine zd ?_|refine bset' ?_ (by omega) _|refine zb ?_ (by assumption))) hok));obtain⟨pA,AA,hsA,-⟩:=hok;have m0:=(hsA.only.cell (p:=⟨g,1,none⟩) (by(try simp);omega) HP.out.off).trans (cellB_later' (w:=w1) (by(with_reducible repeat first|exact Below.refl _ _|refine zc ?_ _|refine zd ?_|refine bset' ?_ (by omega) _|refine zb ?_ (by assumption))) g1);have m1:=(hsA.only.cell (p:=⟨q,0,none⟩) (by(try simp);omega) HQA.out).trans (cellB_later' (w:=w1) (by(with_reducible repeat first|exact Below.refl _ _|refine zc ?_ _|refine zd ?_|refine bset' ?_ (by omega) _|refine zb ?_ (by assumption))) b0);have m2:=(hsA.only.cell (p:=⟨q,1,none⟩) (by(try simp);omega) HQA.out).trans (cellB_later' (w:=w1) (by(with_reducible repeat first|exact Below.refl _ _|refine zc ?_ _|refine zd ?_|refine bset' ?_ (by omega) _|refine zb ?_ (by assumption))) b1)));all_goals (clear hsA hbT;go_wp2;go_ret;exact⟨rfl,HOT.out⟩)
theorem zlL(h:zbf g s p A w)(n:Nat)(hf:Fit n p)(_:n≤880000)(hLW:TabW W)(hbW:Below W.heap.size W w)(hfW:∀j,A.foot s j→W.heap.size≤j)(hgW:W.heap.size≤g)(xa xb:Int)(dt:ByteArray)(hx:za1 ⟨⟨#[102,97,117,108,116]⟩,xa,xb,dt⟩)(h0:zz ⟨⟨#[102,97,117,108,116]⟩,xa,xb,dt⟩=0):Calls Tryz.prog 12 #[.pointer (some ⟨g,0,none⟩),.agg #[.string ⟨#[102,97,117,108,116]⟩,.int .i64 xa,.int .i64 xb,.string dt]] w (zak g s A w (zaD (p.nf.end' xa true).1) (p.nf.end' xa true).2):=by
 obtain⟨n0,hn0⟩:∃n0,(p.nf.end' xa true).1=n0:=⟨_,rfl⟩;have HNN:=za (zhX p.nf xa true);rw[hn0] at HNN;have HASK:Hid (p.nf.end' xa true=(n0,(p.nf.end' xa true).2)):=(by show _=_;rw[←hn0]);rw[hn0];clear hn0;have HP:=za h;have HCK:Hid (∀w',Calls Tryz.prog 23 #[.agg #[.string ⟨#[102,97,117,108,116]⟩,.int .i64 xa,.int .i64 xb,.string dt]] w' fun e w2=>e=.returned .nilIface∧Below w'.heap.size w' w2):=(fun w'=>by have:=zag ⟨⟨#[102,97,117,108,116]⟩,xa,xb,dt⟩ w' hx;rw[h0] at this;exact this);have HI:=za hf;have HLW:=za hLW;have HBW:=za (⟨hbW,hfW,hgW⟩:_∧_∧_);have lg0:=zi h.blk;have hqa:¬A.foot s w.heap.size:=(fun e=>by have:=h.st.footLt _ e;omega);have HQA:=za hqa;clear h hx hf hLW hbW hfW hgW hqa h0;go_enter Tryz.func12,Tryz.ntmps12;go_wp2_with fail;refine(HCK.out _).mono ?_;rintro e w1 ⟨rfl,hb1⟩;have HB1:Hid (Below w.heap.size w w1):=zb (zs w _) hb1;have HP1:=za (HP.out.later HB1.out);have HFR:=za (fun t w' (hk:za6 g s A w1 t w')=>hk.from' HB1.out);have b0:w1.cell? ⟨w.heap.size,0,none⟩=some (.string ⟨#[102,97,117,108,116]⟩):=(hb1.cell (p:=⟨w.heap.size,0,none⟩) (by simp)).trans (by simp);have b1:w1.cell? ⟨w.heap.size,1,none⟩=some (.int .i64 xa):=(hb1.cell (p:=⟨w.heap.size,1,none⟩) (by simp)).trans (by simp);have b2:w1.cell? ⟨w.heap.size,2,none⟩=some (.int .i64 xb):=(hb1.cell (p:=⟨w.heap.size,2,none⟩) (by simp)).trans (by simp);have b3:w1.cell? ⟨w.heap.size,3,none⟩=some (.string dt):=(hb1.cell (p:=⟨w.heap.size,3,none⟩) (by simp)).trans (by simp);have g1:w1.cell? ⟨g,1,none⟩=some (.pointer (some ⟨s,0,none⟩)):=(HP.out.later HB1.out).cells.2.1;have lg1:=zg g1;have lq1:=zg b0;clear hb1 HCK;have HQQ:Hid (w.heap.size=w.heap.size):=rfl;clear HQQ;generalize w.heap.size=q at *;go_upto_region 21 with fail;go_region_held3 (fun w'=>w'.cell? ⟨g,1,none⟩=some (.pointer (some ⟨s,0,none⟩))∧w'.cell? ⟨q,0,none⟩=some (.string ⟨#[102,97,117,108,116]⟩)∧w'.cell? ⟨q,1,none⟩=some (.int .i64 xa)) (first|exact⟨cellB_later' (w:=w1) (Below.refl _ _) g1,cellB_later' (w:=w1) (Below.refl _ _) b0,cellB_later' (w:=w1) (Below.refl _ _) b1⟩|exact⟨cellB_later' (w:=w1) (Below.refl _ _).drew g1,cellB_later' (w:=w1) (Below.refl _ _).drew b0,cellB_later' (w:=w1) (Below.refl _ _).drew b1⟩|exact⟨by assumption,by assumption,by assumption⟩) (first|(go_at_call 34;refine(zbY n0 _ (HLW.out.later (zb (HOK.out.bel HBW.out.1 HBW.out.2.1 HBW.out.2.2) (by(with_reducible repeat first|exact Below.refl _ _|refine zc ?_ _|refine zd ?_|refine bset' ?_ (by omega) _|refine zb ?_ (by assumption))))) HNN.out).mono ?_;rintro e wT ⟨rfl,hbT⟩;have HOT:=za (HOK.out.later (zb (Below.refl _ _) hbT));have t0:=cellB_later' hbT m0;have t1:=cellB_later' hbT m1;have t2:=cellB_later' hbT m2)|(go_at_call 42;refine(zgu s p A _ (HP1.out.st.later (by(with_reducible repeat first|exact Below.refl _ _|refine zc ?_ _|refine zd ?_|refine bset' ?_ (by omega) _|refine zb ?_ (by assumption)))) HI.out.inv HI.out.short (by have:=HI.out.tags;omega) (by have:=HI.out.uses;omega) (by have:=HI.out.ag;omega) xa true _ _ HASK.out).mono ?_;rintro e wA ⟨rfl,hok⟩;have HOK:=za (HFR.out _ _ (HP1.out.code (by(with_reducible repeat first|exact Below.refl _ _|refine zc ?_ _|refine zd ?_|refine bset' ?_ (by omega) _|refine zb ?_ (by assumption))) hok));obtain⟨pA,AA,hsA,-⟩:=hok;have m0:=(hsA.only.cell (p:=⟨g,1,none⟩) (by(try simp);omega) HP.out.off).trans (cellB_later' (w:=w1) (by(with_reducible repeat first|exact Below.refl _ _|refine zc ?_ _|refine zd ?_|refine bset' ?_ (by omega) _|refine zb ?_ (by assumption))) g1);have m1:=(hsA.only.cell (p:=⟨q,0,none⟩) (by(try simp);omega) HQA.out).trans (cellB_later' (w:=w1) (by(with_reducible repeat first|exact Below.refl _ _|refine zc ?_ _|refine zd ?_|refine bset' ?_ (by omega) _|refine zb ?_ (by assumption))) b0);have m2:=(hsA.only.cell (p:=⟨q,1,none⟩) (by(try simp);omega) HQA.out).trans (cellB_later' (w:=w1) (by(with_reducible repeat first|exact Below.refl _ _|refine zc ?_ _|refine zd ?_|refine bset' ?_ (by omega) _|refine zb ?_ (by assumption))) b1)));all_goals (clear hsA hbT;go_wp2;go_ret;exact⟨rfl,HOT.out⟩)
end
theorem Fit.tagsIQ{n:Nat}{p:Sk}(h:Fit n p)(hn:n≤900000):(∀r∈p.queue,zdw r∧r.tags.length≤8)∧p.queue.length≤1000:=by
 refine⟨fun r hr=>⟨fun i hi=>?_,?_⟩,by have:=h.inv.q6;omega⟩
 ·have h1:=h.inv.tin r (List.mem_append_left _ hr) (r.tags.getD i 0) (by rw[List.getD_eq_getElem?_getD,List.getElem?_eq_getElem hi];exact List.getElem_mem hi);have:=h.tags;show _∧_
  constructor<;>omega
 ·have:=(h.inv.good r (List.mem_append_left _ hr)).t4
  omega
theorem Fit.tagsIB{n:Nat}{p:Sk}(h:Fit n p)(hn:n≤900000):(∀r∈p.dev.busy,zdw r∧r.tags.length≤8)∧p.dev.busy.length≤1000:=by
 refine⟨fun r hr=>⟨fun i hi=>?_,?_⟩,by have:=h.inv.b2;omega⟩
 ·have h1:=h.inv.tin r (List.mem_append_right _ hr) (r.tags.getD i 0) (by rw[List.getD_eq_getElem?_getD,List.getElem?_eq_getElem hi];exact List.getElem_mem hi);have:=h.tags;show _∧_
  constructor<;>omega
 ·have:=(h.inv.good r (List.mem_append_right _ hr)).t4
  omega
section
variable(W:World)(g s:Nat)(p:Sk)(A:Sa)(w:World)
theorem zoA(h:zbf g s p A w)(n:Nat)(hf:Fit n p)(_:n≤880000)(hLW:TabW W)(hbW:Below W.heap.size W w)(hfW:∀j,A.foot s j→W.heap.size≤j)(hgW:W.heap.size≤g)(xa xb:Int)(dt:ByteArray)(HG:Hid (zD p))(hx:za1 ⟨⟨#[103,111,116]⟩,xa,xb,dt⟩)(h0:zz ⟨⟨#[103,111,116]⟩,xa,xb,dt⟩=0):Calls Tryz.prog 12 #[.pointer (some ⟨g,0,none⟩),.agg #[.string ⟨#[103,111,116]⟩,.int .i64 xa,.int .i64 xb,.string dt]] w (zak g s A w (gotL p.nf xa) p.nf):=by
 have HP:=za h;have HCK:Hid (∀w',Calls Tryz.prog 23 #[.agg #[.string ⟨#[103,111,116]⟩,.int .i64 xa,.int .i64 xb,.string dt]] w' fun e w2=>e=.returned .nilIface∧Below w'.heap.size w' w2):=(fun w'=>by have:=zag ⟨⟨#[103,111,116]⟩,xa,xb,dt⟩ w' hx;rw[h0] at this;exact this);have HI:=za hf;have HLW:=za hLW;have HBW:=za (⟨hbW,hfW,hgW⟩:_∧_∧_);have lg0:=zi h.blk;have hqa:¬A.foot s w.heap.size:=(fun e=>by have:=h.st.footLt _ e;omega);have HQA:=za hqa;clear h hx hf hLW hbW hfW hgW hqa h0;go_enter Tryz.func12,Tryz.ntmps12;go_wp2_with fail;refine(HCK.out _).mono ?_;rintro e w1 ⟨rfl,hb1⟩;have HB1:Hid (Below w.heap.size w w1):=zb (zs w _) hb1;have HP1:=za (HP.out.later HB1.out);have HFR:=za (fun t w' (hk:za6 g s A w1 t w')=>hk.from' HB1.out);have b0:w1.cell? ⟨w.heap.size,0,none⟩=some (.string ⟨#[103,111,116]⟩):=(hb1.cell (p:=⟨w.heap.size,0,none⟩) (by simp)).trans (by simp);have b1:w1.cell? ⟨w.heap.size,1,none⟩=some (.int .i64 xa):=(hb1.cell (p:=⟨w.heap.size,1,none⟩) (by simp)).trans (by simp);have b2:w1.cell? ⟨w.heap.size,2,none⟩=some (.int .i64 xb):=(hb1.cell (p:=⟨w.heap.size,2,none⟩) (by simp)).trans (by simp);have b3:w1.cell? ⟨w.heap.size,3,none⟩=some (.string dt):=(hb1.cell (p:=⟨w.heap.size,3,none⟩) (by simp)).trans (by simp);have g1:w1.cell? ⟨g,1,none⟩=some (.pointer (some ⟨s,0,none⟩)):=(HP.out.later HB1.out).cells.2.1;have lg1:=zg g1;have lq1:=zg b0;clear hb1 HCK;have HQQ:Hid (w.heap.size=w.heap.size):=rfl;clear HQQ;go_wp2_with fail;refine(zow g s p A _ HP1.out ((HLW.out.later HBW.out.1).later HB1.out) (fun i=>HG.out.pgot i) xa).mono ?_;rintro e w2 ⟨rfl,hb2⟩;have HOT:=za (HFR.out _ _ (HP1.out.same hb2));clear hb2;go_wp2;go_ret;exact⟨rfl,HOT.out⟩
theorem zlK(h:zbf g s p A w)(n:Nat)(hf:Fit n p)(_:n≤880000)(hLW:TabW W)(hbW:Below W.heap.size W w)(hfW:∀j,A.foot s j→W.heap.size≤j)(hgW:W.heap.size≤g)(xa xb:Int)(dt:ByteArray)(hx:za1 ⟨⟨#[100,105,114,116,121]⟩,xa,xb,dt⟩)(h0:zz ⟨⟨#[100,105,114,116,121]⟩,xa,xb,dt⟩=0):Calls Tryz.prog 12 #[.pointer (some ⟨g,0,none⟩),.agg #[.string ⟨#[100,105,114,116,121]⟩,.int .i64 xa,.int .i64 xb,.string dt]] w (zak g s A w (Lib.itoa (zE p.hand)) p.nf):=by
 obtain⟨k,hk⟩:∃k,zE p.hand=k:=⟨_,rfl⟩
 have HK:=za hk;have HK2:Hid (k≤8):=by
  have h1:=hf.inv.hand.len;have h2:(p.hand.filter fun x=>x.dirty).length≤p.hand.length:=List.length_filter_le _ _;have h3:(p.hand.filter fun x=>x.dirty).length=k:=hk;show k≤8
  omega
 rw[hk];clear hk;have HP:=za h;have HCK:Hid (∀w',Calls Tryz.prog 23 #[.agg #[.string ⟨#[100,105,114,116,121]⟩,.int .i64 xa,.int .i64 xb,.string dt]] w' fun e w2=>e=.returned .nilIface∧Below w'.heap.size w' w2):=(fun w'=>by have:=zag ⟨⟨#[100,105,114,116,121]⟩,xa,xb,dt⟩ w' hx;rw[h0] at this;exact this);have HI:=za hf;have HLW:=za hLW;have HBW:=za (⟨hbW,hfW,hgW⟩:_∧_∧_);have lg0:=zi h.blk;have hqa:¬A.foot s w.heap.size:=(fun e=>by have:=h.st.footLt _ e;omega);have HQA:=za hqa;clear h hx hf hLW hbW hfW hgW hqa h0;go_enter Tryz.func12,Tryz.ntmps12;go_wp2_with fail;refine(HCK.out _).mono ?_;rintro e w1 ⟨rfl,hb1⟩;have HB1:Hid (Below w.heap.size w w1):=zb (zs w _) hb1;have HP1:=za (HP.out.later HB1.out);have HFR:=za (fun t w' (hk:za6 g s A w1 t w')=>hk.from' HB1.out);have b0:w1.cell? ⟨w.heap.size,0,none⟩=some (.string ⟨#[100,105,114,116,121]⟩):=(hb1.cell (p:=⟨w.heap.size,0,none⟩) (by simp)).trans (by simp);have b1:w1.cell? ⟨w.heap.size,1,none⟩=some (.int .i64 xa):=(hb1.cell (p:=⟨w.heap.size,1,none⟩) (by simp)).trans (by simp);have b2:w1.cell? ⟨w.heap.size,2,none⟩=some (.int .i64 xb):=(hb1.cell (p:=⟨w.heap.size,2,none⟩) (by simp)).trans (by simp);have b3:w1.cell? ⟨w.heap.size,3,none⟩=some (.string dt):=(hb1.cell (p:=⟨w.heap.size,3,none⟩) (by simp)).trans (by simp);have g1:w1.cell? ⟨g,1,none⟩=some (.pointer (some ⟨s,0,none⟩)):=(HP.out.later HB1.out).cells.2.1;have lg1:=zg g1;have lq1:=zg b0;clear hb1 HCK;have HQQ:Hid (w.heap.size=w.heap.size):=rfl;clear HQQ;go_wp2_with fail;refine(zbC s p A _ HP1.out.st k HK.out).mono ?_;rintro e w2 ⟨rfl,hb2⟩;have HB2:=za hb2;clear hb2;go_wp2_with fail;refine(zcO k _ (((HLW.out.later HBW.out.1).later HB1.out).later HB2.out) (by omega) (by have:=HK2.out;omega)).mono ?_;rintro e w3 ⟨rfl,hb3⟩;have HOT:=za (HFR.out _ _ (HP1.out.same (zb HB2.out hb3)));clear hb3;go_wp2;go_ret;exact⟨rfl,HOT.out⟩
theorem zlM(h:zbf g s p A w)(n:Nat)(hf:Fit n p)(_:n≤880000)(hLW:TabW W)(hbW:Below W.heap.size W w)(hfW:∀j,A.foot s j→W.heap.size≤j)(hgW:W.heap.size≤g)(xa xb:Int)(dt:ByteArray)(hx:za1 ⟨⟨#[113,117,101,117,101]⟩,xa,xb,dt⟩)(h0:zz ⟨⟨#[113,117,101,117,101]⟩,xa,xb,dt⟩=0):Calls Tryz.prog 12 #[.pointer (some ⟨g,0,none⟩),.agg #[.string ⟨#[113,117,101,117,101]⟩,.int .i64 xa,.int .i64 xb,.string dt]] w (zak g s A w (zdE p.queue) p.nf):=by
 have HTI:Hid ((∀r∈p.queue,zdw r∧r.tags.length≤8)∧p.queue.length≤1000):=hf.tagsIQ (by omega);have HP:=za h;have HCK:Hid (∀w',Calls Tryz.prog 23 #[.agg #[.string ⟨#[113,117,101,117,101]⟩,.int .i64 xa,.int .i64 xb,.string dt]] w' fun e w2=>e=.returned .nilIface∧Below w'.heap.size w' w2):=(fun w'=>by have:=zag ⟨⟨#[113,117,101,117,101]⟩,xa,xb,dt⟩ w' hx;rw[h0] at this;exact this);have HI:=za hf;have HLW:=za hLW;have HBW:=za (⟨hbW,hfW,hgW⟩:_∧_∧_);have lg0:=zi h.blk;have hqa:¬A.foot s w.heap.size:=(fun e=>by have:=h.st.footLt _ e;omega);have HQA:=za hqa;clear h hx hf hLW hbW hfW hgW hqa h0;go_enter Tryz.func12,Tryz.ntmps12;go_wp2_with fail;refine(HCK.out _).mono ?_;rintro e w1 ⟨rfl,hb1⟩;have HB1:Hid (Below w.heap.size w w1):=zb (zs w _) hb1;have HP1:=za (HP.out.later HB1.out);have HFR:=za (fun t w' (hk:za6 g s A w1 t w')=>hk.from' HB1.out);have b0:w1.cell? ⟨w.heap.size,0,none⟩=some (.string ⟨#[113,117,101,117,101]⟩):=(hb1.cell (p:=⟨w.heap.size,0,none⟩) (by simp)).trans (by simp);have b1:w1.cell? ⟨w.heap.size,1,none⟩=some (.int .i64 xa):=(hb1.cell (p:=⟨w.heap.size,1,none⟩) (by simp)).trans (by simp);have b2:w1.cell? ⟨w.heap.size,2,none⟩=some (.int .i64 xb):=(hb1.cell (p:=⟨w.heap.size,2,none⟩) (by simp)).trans (by simp);have b3:w1.cell? ⟨w.heap.size,3,none⟩=some (.string dt):=(hb1.cell (p:=⟨w.heap.size,3,none⟩) (by simp)).trans (by simp);have g1:w1.cell? ⟨g,1,none⟩=some (.pointer (some ⟨s,0,none⟩)):=(HP.out.later HB1.out).cells.2.1;have lg1:=zg g1;have lq1:=zg b0;clear hb1 HCK;have HQQ:Hid (w.heap.size=w.heap.size):=rfl;clear HQQ;go_wp2_with fail;refine(zhh s p A _ HP1.out.st (by have:=HI.out.inv.q6;omega)).mono ?_;rintro e w2 ⟨a2,c2,rfl,hq2,-,hb2⟩;have HB2:=za hb2;have HQ2:=za hq2;clear hb2 hq2;go_wp2_with fail;refine(zfA p.queue a2 c2 _ HQ2.out (((HLW.out.later HBW.out.1).later HB1.out).later HB2.out) HTI.out.1 HTI.out.2).mono ?_;rintro e w3 ⟨rfl,hb3⟩;have HOT:=za (HFR.out _ _ (HP1.out.same (zb HB2.out hb3)));clear hb3;go_wp2;go_ret;exact⟨rfl,HOT.out⟩
theorem zm5(h:zbf g s p A w)(n:Nat)(hf:Fit n p)(_:n≤880000)(hLW:TabW W)(hbW:Below W.heap.size W w)(hfW:∀j,A.foot s j→W.heap.size≤j)(hgW:W.heap.size≤g)(xa xb:Int)(dt:ByteArray)(hx:za1 ⟨⟨#[98,117,115,121]⟩,xa,xb,dt⟩)(h0:zz ⟨⟨#[98,117,115,121]⟩,xa,xb,dt⟩=0):Calls Tryz.prog 12 #[.pointer (some ⟨g,0,none⟩),.agg #[.string ⟨#[98,117,115,121]⟩,.int .i64 xa,.int .i64 xb,.string dt]] w (zak g s A w (zdE p.dev.busy) p.nf):=by
 have HTI:Hid ((∀r∈p.dev.busy,zdw r∧r.tags.length≤8)∧p.dev.busy.length≤1000):=hf.tagsIB (by omega);have HP:=za h;have HCK:Hid (∀w',Calls Tryz.prog 23 #[.agg #[.string ⟨#[98,117,115,121]⟩,.int .i64 xa,.int .i64 xb,.string dt]] w' fun e w2=>e=.returned .nilIface∧Below w'.heap.size w' w2):=(fun w'=>by have:=zag ⟨⟨#[98,117,115,121]⟩,xa,xb,dt⟩ w' hx;rw[h0] at this;exact this);have HI:=za hf;have HLW:=za hLW;have HBW:=za (⟨hbW,hfW,hgW⟩:_∧_∧_);have lg0:=zi h.blk;have hqa:¬A.foot s w.heap.size:=(fun e=>by have:=h.st.footLt _ e;omega);have HQA:=za hqa;clear h hx hf hLW hbW hfW hgW hqa h0;go_enter Tryz.func12,Tryz.ntmps12;go_wp2_with fail;refine(HCK.out _).mono ?_;rintro e w1 ⟨rfl,hb1⟩;have HB1:Hid (Below w.heap.size w w1):=zb (zs w _) hb1;have HP1:=za (HP.out.later HB1.out);have HFR:=za (fun t w' (hk:za6 g s A w1 t w')=>hk.from' HB1.out);have b0:w1.cell? ⟨w.heap.size,0,none⟩=some (.string ⟨#[98,117,115,121]⟩):=(hb1.cell (p:=⟨w.heap.size,0,none⟩) (by simp)).trans (by simp);have b1:w1.cell? ⟨w.heap.size,1,none⟩=some (.int .i64 xa):=(hb1.cell (p:=⟨w.heap.size,1,none⟩) (by simp)).trans (by simp);have b2:w1.cell? ⟨w.heap.size,2,none⟩=some (.int .i64 xb):=(hb1.cell (p:=⟨w.heap.size,2,none⟩) (by simp)).trans (by simp);have b3:w1.cell? ⟨w.heap.size,3,none⟩=some (.string dt):=(hb1.cell (p:=⟨w.heap.size,3,none⟩) (by simp)).trans (by simp);have g1:w1.cell? ⟨g,1,none⟩=some (.pointer (some ⟨s,0,none⟩)):=(HP.out.later HB1.out).cells.2.1;have lg1:=zg g1;have lq1:=zg b0;clear hb1 HCK;have HQQ:Hid (w.heap.size=w.heap.size):=rfl;clear HQQ;go_wp2_with fail;refine(zie s p A _ HP1.out.st).mono ?_;rintro e w2 ⟨a2,c2,rfl,hq2,-,hb2⟩;have HB2:=za hb2;have HQ2:=za hq2;clear hb2 hq2;go_wp2_with fail;refine(zfA p.dev.busy a2 c2 _ HQ2.out (((HLW.out.later HBW.out.1).later HB1.out).later HB2.out) HTI.out.1 HTI.out.2).mono ?_;rintro e w3 ⟨rfl,hb3⟩;have HOT:=za (HFR.out _ _ (HP1.out.same (zb HB2.out hb3)));clear hb3;go_wp2;go_ret;exact⟨rfl,HOT.out⟩
end
theorem ziP(wd:ByteArray)(xa xb:Int)(dt:ByteArray)(h:zz ⟨wd,xa,xb,dt⟩=0):0≤xa∧xa≤999:=(zi6 h).2.2.1
section
variable(W:World)(g s:Nat)(p:Sk)(A:Sa)(w:World)
theorem zlJ(h:zbf g s p A w)(n:Nat)(hf:Fit n p)(_:n≤880000)(hLW:TabW W)(hbW:Below W.heap.size W w)(hfW:∀j,A.foot s j→W.heap.size≤j)(hgW:W.heap.size≤g)(xa xb:Int)(dt:ByteArray)(hx:za1 ⟨⟨#[99,114,97,115,104]⟩,xa,xb,dt⟩)(h0:zz ⟨⟨#[99,114,97,115,104]⟩,xa,xb,dt⟩=0):Calls Tryz.prog 12 #[.pointer (some ⟨g,0,none⟩),.agg #[.string ⟨#[99,114,97,115,104]⟩,.int .i64 xa,.int .i64 xb,.string dt]] w (zak g s A w (zaD 0) (skN (p.dev.crash xa))):=by
 have hxa:=ziP _ _ _ _ h0;have hwr:IntKind.u64.wrap xa=xa:=by clear h0 hx;rw[IntKind.wrap_u64];omega
 have HXA:=za hxa;clear hxa;have HP:=za h;have HCK:Hid (∀w',Calls Tryz.prog 23 #[.agg #[.string ⟨#[99,114,97,115,104]⟩,.int .i64 xa,.int .i64 xb,.string dt]] w' fun e w2=>e=.returned .nilIface∧Below w'.heap.size w' w2):=(fun w'=>by have:=zag ⟨⟨#[99,114,97,115,104]⟩,xa,xb,dt⟩ w' hx;rw[h0] at this;exact this);have HI:=za hf;have HLW:=za hLW;have HBW:=za (⟨hbW,hfW,hgW⟩:_∧_∧_);have lg0:=zi h.blk;have hqa:¬A.foot s w.heap.size:=(fun e=>by have:=h.st.footLt _ e;omega);have HQA:=za hqa;clear h hx hf hLW hbW hfW hgW hqa h0;go_enter Tryz.func12,Tryz.ntmps12;go_wp2_with fail;refine(HCK.out _).mono ?_;rintro e w1 ⟨rfl,hb1⟩;have HB1:Hid (Below w.heap.size w w1):=zb (zs w _) hb1;have HP1:=za (HP.out.later HB1.out);have HFR:=za (fun t w' (hk:za6 g s A w1 t w')=>hk.from' HB1.out);have b0:w1.cell? ⟨w.heap.size,0,none⟩=some (.string ⟨#[99,114,97,115,104]⟩):=(hb1.cell (p:=⟨w.heap.size,0,none⟩) (by simp)).trans (by simp);have b1:w1.cell? ⟨w.heap.size,1,none⟩=some (.int .i64 xa):=(hb1.cell (p:=⟨w.heap.size,1,none⟩) (by simp)).trans (by simp);have b2:w1.cell? ⟨w.heap.size,2,none⟩=some (.int .i64 xb):=(hb1.cell (p:=⟨w.heap.size,2,none⟩) (by simp)).trans (by simp);have b3:w1.cell? ⟨w.heap.size,3,none⟩=some (.string dt):=(hb1.cell (p:=⟨w.heap.size,3,none⟩) (by simp)).trans (by simp);have g1:w1.cell? ⟨g,1,none⟩=some (.pointer (some ⟨s,0,none⟩)):=(HP.out.later HB1.out).cells.2.1;have lg1:=zg g1;have lq1:=zg b0;clear hb1 HCK;have HQQ:Hid (w.heap.size=w.heap.size):=rfl;clear HQQ;go_wp2_with fail;refine(znT g s p A _ HP1.out xa (by have:=HXA.out;omega) _ rfl).mono ?_;rintro e w2 ⟨rfl,hok⟩;have HOK:=za (HFR.out _ _ hok);clear hok;go_wp2_with fail;refine(zdY 0 _ (HLW.out.later (HOK.out.bel HBW.out.1 HBW.out.2.1 HBW.out.2.2)) (by omega)).mono ?_;rintro e w3 ⟨rfl,hb3⟩;have HOT:=za (HOK.out.later hb3);clear hb3;go_wp2;go_ret;exact⟨rfl,HOT.out⟩
end
theorem znl(m:Nat):∀p:Sk,(p.settle m).1≤m:=by
 induction m with
 |zero=>exact fun _=>Nat.le_refl 0
 |succ m ih =>
  intro p;unfold Sk.settle
  split
  ·exact Nat.zero_le _
  ·exact Nat.succ_le_succ (ih _)
section
variable(W:World)(g s:Nat)(p:Sk)(A:Sa)(w:World)
theorem zj6(h:zbf g s p A w)(n:Nat)(hf:Fit n p)(_:n≤880000)(hLW:TabW W)(hbW:Below W.heap.size W w)(hfW:∀j,A.foot s j→W.heap.size≤j)(hgW:W.heap.size≤g)(xa xb:Int)(dt:ByteArray)(hx:za1 ⟨⟨#[115,101,116,116,108,101]⟩,xa,xb,dt⟩)(h0:zz ⟨⟨#[115,101,116,116,108,101]⟩,xa,xb,dt⟩=0):Calls Tryz.prog 12 #[.pointer (some ⟨g,0,none⟩),.agg #[.string ⟨#[115,101,116,116,108,101]⟩,.int .i64 xa,.int .i64 xb,.string dt]] w (zak g s A w (Lib.itoa (p.nf.settle xa.toNat).1++[32]++ynL (p.nf.settle xa.toNat).2.quiet) (p.nf.settle xa.toNat).2):=by
 have hxa:0≤xa∧xa≤999:=ziP _ _ _ _ h0;obtain⟨m,hm⟩:∃m:Nat,xa=m:=⟨xa.toNat,(Int.toNat_of_nonneg hxa.1).symm⟩
 have HM:Hid (m≤999):=by show m≤999;have:=hxa.2;clear h0 hx;omega
 have HE:=za hm;rw[show xa.toNat=m by rw[hm,Int.toNat_natCast]];clear hxa hm;obtain⟨z,hz⟩:∃z,p.nf.settle m=z:=⟨_,rfl⟩
 obtain⟨k,q'⟩:=z;obtain⟨t,ht⟩:∃t,q'.quiet=t:=⟨_,rfl⟩
 have HZ:=za hz;have HT:=za ht;have HK:Hid (k≤1000):=by have:=znl m p.nf;rw[hz] at this;have:=HM.out;show k≤1000;clear h0 hx;omega
 rw[hz];show Calls _ _ _ _ (zak g s A w (Lib.itoa k++[32]++ynL q'.quiet) q');rw[ht];clear hz ht;obtain⟨T1,hT1⟩:∃T1,Lib.itoa k++[32]=T1:=⟨_,rfl⟩
 obtain⟨T2,hT2⟩:∃T2,T1++ynL t=T2:=⟨_,rfl⟩
 have hl1:=zb2 k ⟨by clear h0 hx;omega,by have:=HK.out;clear h0 hx;omega⟩;have hl2:(ynL t).length≤10:=(by cases t<;>decide)
 have hc1:∀W',Sem.run Tryz.prog (Op.stringOp .add ⟨(Lib.itoa k).toArray⟩ ⟨#[32]⟩) W'=.ok (.string ⟨T1.toArray⟩) W':=fun W'=>by rw[←hT1];exact strS (Lib.itoa k) [32] (by clear h0 hx;simp;omega) W'
 have hc2:∀W',Sem.run Tryz.prog (Op.stringOp .add ⟨T1.toArray⟩ ⟨(ynL t).toArray⟩) W'=.ok (.string ⟨T2.toArray⟩) W':=fun W'=>by rw[←hT2];exact strS T1 (ynL t) (by rw[←hT1];clear h0 hx;simp;omega) W'
 rw[hT1,hT2];clear hT1 hT2 hl1 hl2;have HP:=za h;have HCK:Hid (∀w',Calls Tryz.prog 23 #[.agg #[.string ⟨#[115,101,116,116,108,101]⟩,.int .i64 xa,.int .i64 xb,.string dt]] w' fun e w2=>e=.returned .nilIface∧Below w'.heap.size w' w2):=(fun w'=>by have:=zag ⟨⟨#[115,101,116,116,108,101]⟩,xa,xb,dt⟩ w' hx;rw[h0] at this;exact this);have HI:=za hf;have HLW:=za hLW;have HBW:=za (⟨hbW,hfW,hgW⟩:_∧_∧_);have lg0:=zi h.blk;have hqa:¬A.foot s w.heap.size:=(fun e=>by have:=h.st.footLt _ e;omega);have HQA:=za hqa;clear h hx hf hLW hbW hfW hgW hqa h0;go_enter Tryz.func12,Tryz.ntmps12;go_wp2_with fail;refine(HCK.out _).mono ?_;rintro e w1 ⟨rfl,hb1⟩;have HB1:Hid (Below w.heap.size w w1):=zb (zs w _) hb1;have HP1:=za (HP.out.later HB1.out);have HFR:=za (fun t w' (hk:za6 g s A w1 t w')=>hk.from' HB1.out);have b0:w1.cell? ⟨w.heap.size,0,none⟩=some (.string ⟨#[115,101,116,116,108,101]⟩):=(hb1.cell (p:=⟨w.heap.size,0,none⟩) (by simp)).trans (by simp);have b1:w1.cell? ⟨w.heap.size,1,none⟩=some (.int .i64 xa):=(hb1.cell (p:=⟨w.heap.size,1,none⟩) (by simp)).trans (by simp);have b2:w1.cell? ⟨w.heap.size,2,none⟩=some (.int .i64 xb):=(hb1.cell (p:=⟨w.heap.size,2,none⟩) (by simp)).trans (by simp);have b3:w1.cell? ⟨w.heap.size,3,none⟩=some (.string dt):=(hb1.cell (p:=⟨w.heap.size,3,none⟩) (by simp)).trans (by simp);have g1:w1.cell? ⟨g,1,none⟩=some (.pointer (some ⟨s,0,none⟩)):=(HP.out.later HB1.out).cells.2.1;have lg1:=zg g1;have lq1:=zg b0;clear hb1 HCK;have HQQ:Hid (w.heap.size=w.heap.size):=rfl;clear HQQ;have HSET:Hid (∀w',Below w1.heap.size w1 w'→Calls Tryz.prog 28 #[.pointer (some ⟨s,0,none⟩),.int .i64 xa] w' fun e w2=>e=.returned (.tuple #[.int .i64 k,.bool t])∧zam ⟨p,A,w1⟩ s A.b q' w2):=fun w' hb=>by
  rw[HE.out];exact zhb ⟨p,A,w1⟩ _ s A.b p.nf n m ⟨p,A,zp.same' HP1.out.st hb,rfl,rfl⟩ HI.out.nf (by have:=HM.out;omega) k q' HZ.out t HT.out
 generalize w.heap.size=q at *;go_upto_region 23 with fail
 go_region_held3 (fun w'=>w'.cell? ⟨g,1,none⟩=some (.pointer (some ⟨s,0,none⟩))∧w'.cell? ⟨q,1,none⟩=some (.int .i64 xa)) (first|exact⟨cellB_later' (w:=w1) (Below.refl _ _) g1,cellB_later' (w:=w1) (Below.refl _ _) b1⟩|exact⟨cellB_later' (w:=w1) (Below.refl _ _).drew g1,cellB_later' (w:=w1) (Below.refl _ _).drew b1⟩|exact⟨by assumption,by assumption⟩) (first|(go_at_call 28;refine(HSET.out _ (by(with_reducible repeat first|exact Below.refl _ _|refine zc ?_ _|refine zd ?_|refine bset' ?_ (by omega) _|refine zb ?_ (by assumption)))).mono ?_;rintro e wA ⟨rfl,pA,AA,hsA,hnA,-⟩;have HOK:=za (HFR.out _ _ (HP1.out.code (Below.refl _ _) ⟨pA,AA,hsA,hnA⟩));have m0:=(hsA.only.cell (p:=⟨g,1,none⟩) lg1 HP.out.off).trans g1;have m1:=(hsA.only.cell (p:=⟨q,1,none⟩) lq1 HQA.out).trans b1))
 all_goals
  clear hsA;go_wp2_with fail;refine(zcO k _ (HLW.out.later (HOK.out.bel HBW.out.1 HBW.out.2.1 HBW.out.2.2)) (by omega) (by have:=HK.out;omega)).mono ?_;rintro e wT ⟨rfl,hbT⟩;have HOT:=za (HOK.out.later hbT);clear hbT;go_wp2_with fail;refine(zjH _ _).mono ?_;rintro e w3 ⟨rfl,rfl⟩;go_wp2;go_ret;exact⟨rfl,HOT.out⟩
end
theorem ziT(kp:Int)(l:List Wn)(hl:∀x∈l,x.data.size≤4):∀now:List ByteArray,(∀s∈now,s.size≤4)→∀s∈zaw kp l now,s.size≤4:=by
 induction l with
 |nil=>exact fun _ h=>h
 |cons x l ih =>
  intro now h;refine ih (fun y hy=>hl y (List.mem_cons_of_mem _ hy)) (if zcn kp x.bit=true then now.set x.pl x.data else now) ?_
  split
  ·intro s hs
   rcases List.mem_or_eq_of_mem_set hs with e|e
   ·exact h s e
   ·rw[e];exact hl x List.mem_cons_self
  ·exact h
theorem zQ.crash{d:Dl}(h:zQ d)(kp:Int):zQ (d.crash kp):=by
 have h1:∀s∈zaw kp d.wr d.good,s.size≤4:=ziT kp d.wr h.2.2 _ h.2.1;exact⟨h1,h1,fun x hx=>by cases hx⟩
theorem Fit.crash{n:Nat}{q:Sk}(h:Fit n q)(kp:Int):Fit 0 (skN (q.dev.crash kp)):=by
 have hs:=zkQ;have e:(skN (q.dev.crash kp)).dev=q.dev.crash kp:=rfl;have hl:(zaw kp q.dev.wr q.dev.good).length=32:=by rw[zik];exact h.inv.g32
 exact⟨⟨hs.inv.cl3,hs.inv.cok,hs.inv.hand,hs.inv.d6,hs.inv.good,hs.inv.apart,hs.inv.q6,hs.inv.b2,hs.inv.mom,hs.inv.tg,hs.inv.us,hs.inv.tin,hl,hl,hs.inv.ts,hs.inv.fr⟩,h.short.crash kp,hs.tags,hs.uses,hs.ag⟩
def zd6(q:Sk)(x:St):List UInt8 × Sk :=
 if x.word=zhk then(zaD (q.ask x.a 1 x.b x.data).1,(q.ask x.a 1 x.b x.data).2)
 else if x.word=zf0 then(zaD (q.ask x.a 2 x.b x.data).1,(q.ask x.a 2 x.b x.data).2)
 else if x.word=zhl then(zaD (q.ask x.a 3 x.b x.data).1,(q.ask x.a 3 x.b x.data).2)
 else if x.word=ziJ then(gotL q x.a,q)
 else if x.word=zhm then(zaD 0,q.tick)
 else if x.word=zfZ then(zaD 0,q.round)
 else if x.word=zfV then(ynL q.clean.1,q.clean.2)
 else if x.word=zdI then(ynL q.dispatch.1,q.dispatch.2)
 else if x.word=ziI then(zaD (q.end' x.a false).1,(q.end' x.a false).2)
 else if x.word=zfX then(zaD (q.end' x.a true).1,(q.end' x.a true).2)
 else if x.word=zfc then(Lib.itoa (q.settle x.a.toNat).1++[32]++ynL (q.settle x.a.toNat).2.quiet,(q.settle x.a.toNat).2)
 else if x.word=zfY then(zdE q.queue,q)
 else if x.word=zhj then(zdE q.dev.busy,q)
 else if x.word=zfW then(Lib.itoa (zE q.hand),q)
 else if x.word=zeJ then(zaD 0,skN (q.dev.crash x.a))
 else(zaD 0,q)
def zaM(q:Sk)(x:St):List UInt8 × Sk:=if zz x=0 then zd6 q x else(zaD (zz x),q)
structure zan(n:Nat)(q:Sk):Prop where
 fit:Fit n q
 got:zD q
theorem zan.mono{n m:Nat}{q:Sk}(h:zan n q)(hm:n≤m):zan m q:=⟨h.fit.mono hm,h.got⟩
theorem zd9:zan 0 sk0:=⟨zkQ,zjy⟩
theorem zan.crash{n:Nat}{q:Sk}(h:zan n q)(kp:Int):zan 0 (skN (q.dev.crash kp)):=⟨h.fit.crash kp,zjy⟩
theorem zaz{P:List UInt8 × Sk→Prop}{c:Prop} [Decidable c]{a b:List UInt8 × Sk}(ha:c→P a)(hb:¬c→P b):P (if c then a else b):=by
 by_cases h:c
 ·rw[if_pos h];exact ha h
 ·rw[if_neg h];exact hb h
theorem zan.step{n:Nat}{q:Sk}(h:zan n q)(x:St)(hx:x.a≤999):zan (n+10989) (zd6 q x).2:=by
 have key:(fun z:List UInt8 × Sk=>zan (n+10989) z.2) (zd6 q x):=by
  unfold zd6;refine zaz (P:=fun z:List UInt8 × Sk=>zan (n+10989) z.2) (fun _=>⟨(h.fit.ask _ _ _ _).mono (by omega),zD.ask h.fit.inv h.got _ _ _ _⟩) (fun _=>?_);refine zaz (P:=fun z:List UInt8 × Sk=>zan (n+10989) z.2) (fun _=>⟨(h.fit.ask _ _ _ _).mono (by omega),zD.ask h.fit.inv h.got _ _ _ _⟩) (fun _=>?_);refine zaz (P:=fun z:List UInt8 × Sk=>zan (n+10989) z.2) (fun _=>⟨(h.fit.ask _ _ _ _).mono (by omega),zD.ask h.fit.inv h.got _ _ _ _⟩) (fun _=>?_);refine zaz (P:=fun z:List UInt8 × Sk=>zan (n+10989) z.2) (fun _=>h.mono (by omega)) (fun _=>?_);refine zaz (P:=fun z:List UInt8 × Sk=>zan (n+10989) z.2) (fun _=>⟨h.fit.tick.mono (by omega),zD.tick h.fit.inv h.got⟩) (fun _=>?_);refine zaz (P:=fun z:List UInt8 × Sk=>zan (n+10989) z.2) (fun _=>⟨h.fit.round.mono (by omega),zD.round h.fit h.got⟩) (fun _=>?_);refine zaz (P:=fun z:List UInt8 × Sk=>zan (n+10989) z.2) (fun _=>⟨h.fit.clean.mono (by omega),zD.clean h.got⟩) (fun _=>?_);refine zaz (P:=fun z:List UInt8 × Sk=>zan (n+10989) z.2) (fun _=>⟨h.fit.dispatch.mono (by omega),zD.dispatch h.got⟩) (fun _=>?_);refine zaz (P:=fun z:List UInt8 × Sk=>zan (n+10989) z.2) (fun _=>⟨(h.fit.end' _ _).mono (by omega),zD.end' h.fit.inv h.fit.short h.got _ _⟩) (fun _=>?_);refine zaz (P:=fun z:List UInt8 × Sk=>zan (n+10989) z.2) (fun _=>⟨(h.fit.end' _ _).mono (by omega),zD.end' h.fit.inv h.fit.short h.got _ _⟩) (fun _=>?_);refine zaz (P:=fun z:List UInt8 × Sk=>zan (n+10989) z.2) (fun _=>⟨(h.fit.settle _).mono (by omega),zD.settle _ h.fit h.got⟩) (fun _=>?_);refine zaz (P:=fun z:List UInt8 × Sk=>zan (n+10989) z.2) (fun _=>h.mono (by omega)) (fun _=>?_);refine zaz (P:=fun z:List UInt8 × Sk=>zan (n+10989) z.2) (fun _=>h.mono (by omega)) (fun _=>?_);refine zaz (P:=fun z:List UInt8 × Sk=>zan (n+10989) z.2) (fun _=>h.mono (by omega)) (fun _=>?_);refine zaz (P:=fun z:List UInt8 × Sk=>zan (n+10989) z.2) (fun _=>(h.crash _).mono (by omega)) (fun _=>?_);exact h.mono (by omega)
 exact key
theorem a_le(x:St)(h:zz x=0):x.a≤999:=(zi6 h).2.2.1.2
theorem zan.play{n:Nat}{q:Sk}(h:zan n q)(x:St):zan (n+10989) (zaM q x).2:=by
 unfold zaM
 split
 ·exact h.step x (a_le x (by assumption))
 ·exact h.mono (by omega)
theorem zju(l:List Rq):zdE (l.map Rq.nf)=zdE l:=by
 unfold zdE
 cases l with
 |nil=>rfl
 |cons r l =>
  rw[if_neg (by simp),if_neg (by simp),List.map_map]
  rfl
theorem zhi(x:St):0≤zz x∧zz x≤100:=by
 unfold zz
 split
 ·omega
 split
 ·omega
 split
 ·omega
 split
 ·omega
 split
 ·omega
 split<;>omega
section
variable(W:World)(g s:Nat)(p:Sk)(A:Sa)(w:World)
theorem zoy(h:zbf g s p A w)(n:Nat)(_:zan n p.nf)(_:n≤880000)(hLW:TabW W)(hbW:Below W.heap.size W w)(_:∀j,A.foot s j→W.heap.size≤j)(_:W.heap.size≤g)(xw:ByteArray)(xa xb:Int)(dt:ByteArray)(hx:za1 ⟨xw,xa,xb,dt⟩)(h0:¬zz ⟨xw,xa,xb,dt⟩=0):Calls Tryz.prog 12 #[.pointer (some ⟨g,0,none⟩),.agg #[.string xw,.int .i64 xa,.int .i64 xb,.string dt]] w (zak g s A w (zaD (zz ⟨xw,xa,xb,dt⟩)) p.nf):=by
 have HCK:=za (fun w'=>zag ⟨xw,xa,xb,dt⟩ w' hx);have HS:=za (zhi ⟨xw,xa,xb,dt⟩);generalize zz ⟨xw,xa,xb,dt⟩=er at *;have HP:=za h;have HLW:=za (hLW.later hbW);have HCK2:=za (fun w':World=>(by have:=HCK.out w';rw[show zI er=.iface 87 (.int .i64 er) by rw[zI,if_neg h0]] at this;exact this));have HTO:=za (fun w' h'=>(by have:=zbY er w' h' HS.out;rw[show zI er=.iface 87 (.int .i64 er) by rw[zI,if_neg h0]] at this;exact this));clear h hLW hbW hx h0 HCK;go_enter Tryz.func12,Tryz.ntmps12;go_wp2_with fail;refine(HCK2.out _).mono ?_;rintro e w1 ⟨rfl,hb1⟩;have HB1:Hid (Below w.heap.size w w1):=zb (zs w _) hb1;clear hb1 HCK2;go_wp2_with fail;refine(HTO.out _ (HLW.out.later HB1.out)).mono ?_;rintro e w2 ⟨rfl,hb2⟩;have HB2:=za (zb HB1.out hb2);clear hb2 HTO;go_wp2;go_ret;exact⟨rfl,HP.out.same HB2.out⟩
theorem zjn(h:zbf g s p A w)(n:Nat)(hf:zan n p.nf)(hn:n≤880000)(hLW:TabW W)(hbW:Below W.heap.size W w)(hfW:∀j,A.foot s j→W.heap.size≤j)(hgW:W.heap.size≤g)(x:St)(hx:za1 x):Calls Tryz.prog 12 #[.pointer (some ⟨g,0,none⟩),x.val] w (zak g s A w (zaM p.nf x).1 (zaM p.nf x).2):=by
 have hF:Fit n p:=hf.fit.of_nf;obtain⟨xw,xa,xb,dt⟩:=x;show Calls Tryz.prog 12 #[.pointer (some ⟨g,0,none⟩),.agg #[.string xw,.int .i64 xa,.int .i64 xb,.string dt]] w _;unfold zaM
 by_cases h0:zz ⟨xw,xa,xb,dt⟩=0
 ·rw[if_pos h0];have hw:=(zi6 h0).1;have key:(fun z:List UInt8 × Sk=>Calls Tryz.prog 12 #[.pointer (some ⟨g,0,none⟩),.agg #[.string xw,.int .i64 xa,.int .i64 xb,.string dt]] w (zak g s A w z.1 z.2)) (zd6 p.nf ⟨xw,xa,xb,dt⟩):=by
   unfold zd6;refine zaz (P:=fun z:List UInt8 × Sk=>Calls Tryz.prog 12 #[.pointer (some ⟨g,0,none⟩),.agg #[.string xw,.int .i64 xa,.int .i64 xb,.string dt]] w (zak g s A w z.1 z.2)) (fun e=>by subst e;exact zm6 W g s p A w h n hF hn hLW hbW hfW hgW xa xb dt hx h0) (fun e0=>?_);refine zaz (P:=fun z:List UInt8 × Sk=>Calls Tryz.prog 12 #[.pointer (some ⟨g,0,none⟩),.agg #[.string xw,.int .i64 xa,.int .i64 xb,.string dt]] w (zak g s A w z.1 z.2)) (fun e=>by subst e;exact zlO W g s p A w h n hF hn hLW hbW hfW hgW xa xb dt hx h0) (fun e1=>?_);refine zaz (P:=fun z:List UInt8 × Sk=>Calls Tryz.prog 12 #[.pointer (some ⟨g,0,none⟩),.agg #[.string xw,.int .i64 xa,.int .i64 xb,.string dt]] w (zak g s A w z.1 z.2)) (fun e=>by subst e;exact zm7 W g s p A w h n hF hn hLW hbW hfW hgW xa xb dt hx h0) (fun e2=>?_);refine zaz (P:=fun z:List UInt8 × Sk=>Calls Tryz.prog 12 #[.pointer (some ⟨g,0,none⟩),.agg #[.string xw,.int .i64 xa,.int .i64 xb,.string dt]] w (zak g s A w z.1 z.2)) (fun e=>by subst e;exact zoA W g s p A w h n hF hn hLW hbW hfW hgW xa xb dt (za hf.got) hx h0) (fun e3=>?_);refine zaz (P:=fun z:List UInt8 × Sk=>Calls Tryz.prog 12 #[.pointer (some ⟨g,0,none⟩),.agg #[.string xw,.int .i64 xa,.int .i64 xb,.string dt]] w (zak g s A w z.1 z.2)) (fun e=>by subst e;exact zm8 W g s p A w h n hF hn hLW hbW hfW hgW xa xb dt hx h0) (fun e4=>?_);refine zaz (P:=fun z:List UInt8 × Sk=>Calls Tryz.prog 12 #[.pointer (some ⟨g,0,none⟩),.agg #[.string xw,.int .i64 xa,.int .i64 xb,.string dt]] w (zak g s A w z.1 z.2)) (fun e=>by subst e;exact zlN W g s p A w h n hF hn hLW hbW hfW hgW xa xb dt hx h0) (fun e5=>?_);refine zaz (P:=fun z:List UInt8 × Sk=>Calls Tryz.prog 12 #[.pointer (some ⟨g,0,none⟩),.agg #[.string xw,.int .i64 xa,.int .i64 xb,.string dt]] w (zak g s A w z.1 z.2)) (fun e=>by subst e;exact zlI W g s p A w h n hF hn hLW hbW hfW hgW xa xb dt hx h0) (fun e6=>?_);refine zaz (P:=fun z:List UInt8 × Sk=>Calls Tryz.prog 12 #[.pointer (some ⟨g,0,none⟩),.agg #[.string xw,.int .i64 xa,.int .i64 xb,.string dt]] w (zak g s A w z.1 z.2)) (fun e=>by subst e;exact ziu W g s p A w h n hF hn hLW hbW hfW hgW xa xb dt hx h0) (fun e7=>?_);refine zaz (P:=fun z:List UInt8 × Sk=>Calls Tryz.prog 12 #[.pointer (some ⟨g,0,none⟩),.agg #[.string xw,.int .i64 xa,.int .i64 xb,.string dt]] w (zak g s A w z.1 z.2)) (fun e=>by subst e;exact zoz W g s p A w h n hF hn hLW hbW hfW hgW xa xb dt hx h0) (fun e8=>?_);refine zaz (P:=fun z:List UInt8 × Sk=>Calls Tryz.prog 12 #[.pointer (some ⟨g,0,none⟩),.agg #[.string xw,.int .i64 xa,.int .i64 xb,.string dt]] w (zak g s A w z.1 z.2)) (fun e=>by subst e;exact zlL W g s p A w h n hF hn hLW hbW hfW hgW xa xb dt hx h0) (fun e9=>?_);refine zaz (P:=fun z:List UInt8 × Sk=>Calls Tryz.prog 12 #[.pointer (some ⟨g,0,none⟩),.agg #[.string xw,.int .i64 xa,.int .i64 xb,.string dt]] w (zak g s A w z.1 z.2)) (fun e=>by subst e;exact zj6 W g s p A w h n hF hn hLW hbW hfW hgW xa xb dt hx h0) (fun e10=>?_);refine zaz (P:=fun z:List UInt8 × Sk=>Calls Tryz.prog 12 #[.pointer (some ⟨g,0,none⟩),.agg #[.string xw,.int .i64 xa,.int .i64 xb,.string dt]] w (zak g s A w z.1 z.2)) (fun e=>by subst e;have:=zlM W g s p A w h n hF hn hLW hbW hfW hgW xa xb dt hx h0;rw[←zju] at this;exact this) (fun e11=>?_)
   refine zaz (P:=fun z:List UInt8 × Sk=>Calls Tryz.prog 12 #[.pointer (some ⟨g,0,none⟩),.agg #[.string xw,.int .i64 xa,.int .i64 xb,.string dt]] w (zak g s A w z.1 z.2)) (fun e=>by subst e;have:=zm5 W g s p A w h n hF hn hLW hbW hfW hgW xa xb dt hx h0;rw[←zju] at this;exact this) (fun e12=>?_);refine zaz (P:=fun z:List UInt8 × Sk=>Calls Tryz.prog 12 #[.pointer (some ⟨g,0,none⟩),.agg #[.string xw,.int .i64 xa,.int .i64 xb,.string dt]] w (zak g s A w z.1 z.2)) (fun e=>by subst e;exact zlK W g s p A w h n hF hn hLW hbW hfW hgW xa xb dt hx h0) (fun e13=>?_);refine zaz (P:=fun z:List UInt8 × Sk=>Calls Tryz.prog 12 #[.pointer (some ⟨g,0,none⟩),.agg #[.string xw,.int .i64 xa,.int .i64 xb,.string dt]] w (zak g s A w z.1 z.2)) (fun e=>by subst e;exact zlJ W g s p A w h n hF hn hLW hbW hfW hgW xa xb dt hx h0) (fun e14=>?_);have hn0:zb7 xw=none:=by
    unfold zb7;rw[if_neg e13,if_neg e12,if_neg e11,if_neg e5,if_neg e7,if_neg e6,if_neg e4,if_neg e14,if_neg e10,if_neg e9,if_neg e8,if_neg e3,if_neg e2,if_neg e1,if_neg e0]
   rw[show zb7 (St.mk xw xa xb dt).word=none from hn0] at hw
   cases hw
  exact key
 ·rw[if_neg h0];exact zoy W g s p A w h n hf hn hLW hbW hfW hgW xw xa xb dt hx h0
end
def zaW(g s:Nat)(A:Sa)(j:Nat):Prop:=A.foot s j∨j=g
structure zgI(g s:Nat)(p:Sk)(A:Sa)(X:Nat→Prop)(w w':World):Prop where
 at':zbf g s p A w'
 nf:p.nf=sk0
 bel:Below w.heap.size w w'
 foot:∀j,zaW g s A j→w.heap.size≤j
 X:A.X=X
 v:w.heap.size≤A.v
theorem ze8(w:World)(X:Nat→Prop)(hX:∀j,X j→j<w.heap.size):Calls Tryz.prog 9 #[] w fun e w'=>∃g s p A,e=.returned (.pointer (some ⟨g,0,none⟩))∧zgI g s p A X w w':=by
 have HX:=za hX;clear hX;go_enter Tryz.func9,Tryz.ntmps9;go_wp2_with fail;refine(zpu _).mono ?_;rintro e w1 ⟨rfl,hd,hb1,hs1⟩;have HD:=za hd;have HB1:=za hb1;have HS1:=za hs1;clear hd hb1 hs1;go_wp2_with fail;refine(zig _ d0 an0 w1 HD.out rfl X (fun j hj=>Nat.lt_of_lt_of_le (HX.out j hj) HB1.out.size)).mono ?_;rintro e w2 ⟨s,v,bm,rfl,hst,hb2,z1,z2,z3⟩;have HS:=za hst;have HZ:=za (⟨hb2,z1,z2,z3⟩:_∧_∧_∧_);clear hst hb2 z1 z2 z3;go_wp2;go_ret;have hz:=HB1.out.size;have hz1:=HS1.out;obtain⟨hb2,z1,z2,z3⟩:=HZ.out;have hfoot:∀j,(saN w.heap.size v bm an0 X).foot s j→w.heap.size≤j:=by
  rintro j (e|(e|e)|⟨i,_,q',hq',_⟩)
  ·omega
  ·have e':j=bm:=e
   omega
  ·rcases e with e|⟨q,hq,_⟩|⟨q,hq,_⟩
   ·have e':j=w.heap.size:=e
    omega
   ·cases hq
   ·cases hq
  ·cases hq'
 have hbal:Below w2.heap.size w2 (w2.alloc (.cells #[.pointer (some ⟨w.heap.size,0,none⟩),.pointer (some ⟨s,0,none⟩)] 72 (0,0))):=zs w2 _;refine⟨w2.heap.size,s,skN d0,saN w.heap.size v bm an0 X,rfl,⟨HS.out.later hbal,Array.getElem?_push_size,fun e=>by have:=HS.out.footLt _ e;omega⟩,rfl,zb (zb HB1.out hb2) hbal,?_,rfl,by show w.heap.size≤v;omega⟩;rintro j (e|e)
 ·exact hfoot j e
 ·rw[e];have:=hb2.size;omega
structure zee(W:World)(g1 s1 g2 s2:Nat)(p1 p2:Sk)(A1 A2:Sa)(w:World):Prop where
 one:zbf g1 s1 p1 A1 w
 two:zbf g2 s2 p2 A2 w
 xa:A1.X=zaW g2 s2 A2
 xb:A2.X=zaW g1 s1 A1
 apart:∀j,zaW g1 s1 A1 j→¬zaW g2 s2 A2 j
 av:¬zaW g2 s2 A2 A1.v
 bv:¬zaW g1 s1 A1 A2.v
 bel:Below W.heap.size W w
 f1:∀j,zaW g1 s1 A1 j→W.heap.size≤j
 f2:∀j,zaW g2 s2 A2 j→W.heap.size≤j
section
variable{W:World}{g1 s1 g2 s2 s':Nat}{p1 p2 p' q:Sk}{A1 A2 A':Sa}{w w':World}
theorem zbf.plt{g s:Nat}{p:Sk}{A:Sa}{w:World}(h:zbf g s p A w)(j:Nat)(hj:zaW g s A j):j<w.heap.size:=by
 rcases hj with e|e
 ·exact h.st.footLt j e
 ·rw[e];exact zi h.blk
theorem zee.swap(h:zee W g1 s1 g2 s2 p1 p2 A1 A2 w):zee W g2 s2 g1 s1 p2 p1 A2 A1 w:=⟨h.two,h.one,h.xb,h.xa,fun j h2 h1=>h.apart j h1 h2,h.bv,h.av,h.bel,h.f2,h.f1⟩
theorem zee.later(h:zee W g1 s1 g2 s2 p1 p2 A1 A2 w)(hb:Below w.heap.size w w'):zee W g1 s1 g2 s2 p1 p2 A1 A2 w':=⟨h.one.later hb,h.two.later hb,h.xa,h.xb,h.apart,h.av,h.bv,zb h.bel hb,h.f1,h.f2⟩
theorem zee.step(h:zee W g1 s1 g2 s2 p1 p2 A1 A2 w)(hs:zfm g1 s1 A1 w q s' p' A' w'):zee W g1 s' g2 s2 p' p2 A' { A2 with X:=zaW g1 s' A' } w':=by
 have hx:∀j,zaW g1 s1 A1 j→A2.off s2 j:=fun j hj=>Or.inr (by rw[h.xb];exact hj)
 have hoff:∀{j:Nat},¬A2.off s2 j→¬zaW g1 s1 A1 j:=fun h1 e=>h1 (hx _ e)
 have hfo:∀j,zaW g1 s' A' j→zaW g1 s1 A1 j∨w.heap.size≤j:=by
  rintro j (e|e)
  ·exact(hs.foot j e).imp Or.inl id
  ·exact Or.inl (Or.inr e)
 have h2:zj s2 p2 A2 w':=h.two.st.frame hs.only (fun j hj e=>h.apart j e (Or.inl hj)) h.bv (fun hne q hq=>hoff (h.two.st.mem.hoffX hne q hq)) (fun hne q hq=>hoff (h.two.st.mem.qoffX hne q hq)) (fun r hr=>(h.two.st.mem.roffX r hr).mono hx);have hlt:∀j,zaW g1 s' A' j→j<w'.heap.size:=fun j hj=>hs.at'.plt j hj
 have hg2:¬zaW g1 s1 A1 g2:=fun e=>h.apart g2 e (Or.inr rfl)
 refine⟨hs.at',⟨h.two.st.foreign h2 (zaW g1 s' A') (fun j hj=>(hfo j hj).imp (fun e=>by rw[h.xb];exact e) id) hlt,?_,h.two.off⟩,by rw[hs.X];exact h.xa,rfl,fun j hj e=>?_,?_,fun e=>?_,?_,?_,h.f2⟩
 ·rw[hs.only.block g2 (zi h.two.blk) hg2];exact h.two.blk
 ·rcases hfo j hj with h1|h1
  ·exact h.apart j h1 e
  ·have:=h.two.plt j e;omega
 ·rcases hs.v with e|e
  ·rw[e];exact h.av
  ·intro e2;have:=h.two.plt _ e2;omega
 ·rcases hfo _ e with h1|h1
  ·exact h.bv h1
  ·have h3:w.heap.size≤A2.v:=h1;have:=zi h.two.st.mem.drv.blk;omega
 ·exact h.bel.trans (hs.only.below h.bel.size h.f1)
 ·intro j hj
  rcases hfo j hj with h1|h1
  ·exact h.f1 j h1
  ·exact Nat.le_trans h.bel.size h1
end
def TwN(W:World)(g1 g2 n1 n2:Nat)(q1 q2:Sk)(w:World):Prop:=∃s1 s2 p1 p2 A1 A2,zee W g1 s1 g2 s2 p1 p2 A1 A2 w∧p1.nf=q1∧p2.nf=q2∧zan n1 q1∧zan n2 q2
section
variable{W:World}{g1 g2 n1 n2:Nat}{q1 q2:Sk}{w w':World}
theorem TwN.swap(h:TwN W g1 g2 n1 n2 q1 q2 w):TwN W g2 g1 n2 n1 q2 q1 w:=by
 obtain⟨s1,s2,p1,p2,A1,A2,ht,e1,e2,f1,f2⟩:=h;exact⟨s2,s1,p2,p1,A2,A1,ht.swap,e2,e1,f2,f1⟩
theorem TwN.bel(h:TwN W g1 g2 n1 n2 q1 q2 w):Below W.heap.size W w:=by
 obtain⟨s1,s2,p1,p2,A1,A2,ht,_⟩:=h;exact ht.bel
theorem TwN.later(h:TwN W g1 g2 n1 n2 q1 q2 w)(hb:Below w.heap.size w w'):TwN W g1 g2 n1 n2 q1 q2 w':=by
 obtain⟨s1,s2,p1,p2,A1,A2,ht,e⟩:=h;exact⟨s1,s2,p1,p2,A1,A2,ht.later hb,e⟩
theorem zjF(h:TwN W g1 g2 n1 n2 q1 q2 w)(hn:n1≤880000)(hT:TabW W)(x:St)(hx:za1 x) :
 Calls Tryz.prog 12 #[.pointer (some ⟨g1,0,none⟩),x.val] w fun e w'=>e=.returned (.string ⟨(zaM q1 x).1.toArray⟩)∧TwN W g1 g2 (n1+10989) n2 (zaM q1 x).2 q2 w':=by
 obtain⟨s1,s2,p1,p2,A1,A2,ht,rfl,e2,f1,f2⟩:=h;refine(zjn W g1 s1 p1 A1 w ht.one n1 f1 hn hT ht.bel (fun j hj=>ht.f1 j (Or.inl hj)) (ht.f1 g1 (Or.inr rfl)) x hx).mono ?_;rintro e w' ⟨he,s',p',A',hs⟩;exact⟨he,s',s2,p',p2,A',_,ht.step hs,hs.nf,e2,f1.play x,f2⟩
theorem znx(h:TwN W g1 g2 n1 n2 q1 q2 w)(hn:n2≤880000)(hT:TabW W)(x:St)(hx:za1 x) :
 Calls Tryz.prog 12 #[.pointer (some ⟨g2,0,none⟩),x.val] w fun e w'=>e=.returned (.string ⟨(zaM q2 x).1.toArray⟩)∧TwN W g1 g2 n1 (n2+10989) q1 (zaM q2 x).2 w':=by
 refine(zjF h.swap hn hT x hx).mono ?_;rintro e w' ⟨he,h'⟩;exact⟨he,h'.swap⟩
end
theorem zoW{w w1 w2:World}{g1 s1 g2 s2:Nat}{p1 p2:Sk}{A1 A2:Sa}{X:Nat→Prop}(h1:zgI g1 s1 p1 A1 X w w1)(h2:zgI g2 s2 p2 A2 (zaW g1 s1 A1) w1 w2):TwN w g1 g2 0 0 sk0 sk0 w2:=by
 have hlt:=h1.at'.plt;have h1':=h1.at'.later h2.bel;have hsz:=h1.bel.size;refine⟨s1,s2,p1,p2,{ A1 with X:=zaW g2 s2 A2 },A2,⟨⟨h1.at'.st.foreign h1'.st (zaW g2 s2 A2) (fun j hj=>Or.inr (h2.foot j hj)) h2.at'.plt,h1'.blk,h1'.off⟩,h2.at',rfl,h2.X,fun j hj e=>?_,fun e=>?_,fun e=>?_,zb h1.bel h2.bel,h1.foot,fun j hj=>Nat.le_trans hsz (h2.foot j hj)⟩,h1.nf,h2.nf,zd9,zd9⟩
 ·have a:=hlt j hj;have b:=h2.foot j e
  omega
 ·have a:A1.v<w1.heap.size:=zi h1.at'.st.mem.drv.blk;have b:w1.heap.size≤A1.v:=h2.foot _ e
  omega
 ·have a:=hlt _ e;have b:=h2.v
  omega
def zb0(W:World)(g n:Nat)(q:Sk)(w:World):Prop:=∃s p A,zbf g s p A w∧p.nf=q∧zan n q∧Below W.heap.size W w∧(∀j,zaW g s A j→W.heap.size≤j)
section
variable{W:World}{g n:Nat}{q:Sk}{w w':World}
theorem zb0.bel(h:zb0 W g n q w):Below W.heap.size W w:=by
 obtain⟨s,p,A,_,_,_,hb,_⟩:=h;exact hb
theorem zb0.later(h:zb0 W g n q w)(hb:Below w.heap.size w w'):zb0 W g n q w':=by
 obtain⟨s,p,A,h1,h2,h3,h4,h5⟩:=h;exact⟨s,p,A,h1.later hb,h2,h3,zb h4 hb,h5⟩
theorem zgI.onep{s:Nat}{p:Sk}{A:Sa}{X:Nat→Prop}(h:zgI g s p A X w w')(hb:Below W.heap.size W w):zb0 W g 0 sk0 w':=⟨s,p,A,h.at',h.nf,zd9,zb hb h.bel,fun j hj=>Nat.le_trans hb.size (h.foot j hj)⟩
theorem zd5(h:zb0 W g n q w)(hn:n≤880000)(hT:TabW W)(x:St)(hx:za1 x) :
 Calls Tryz.prog 12 #[.pointer (some ⟨g,0,none⟩),x.val] w fun e w'=>e=.returned (.string ⟨(zaM q x).1.toArray⟩)∧zb0 W g (n+10989) (zaM q x).2 w':=by
 obtain⟨s,p,A,h1,rfl,h3,h4,h5⟩:=h;refine(zjn W g s p A w h1 n h3 hn hT h4 (fun j hj=>h5 j (Or.inl hj)) (h5 g (Or.inr rfl)) x hx).mono ?_;rintro e w' ⟨he,s',p',A',hs⟩;refine⟨he,s',p',A',hs.at',hs.nf,h3.play x,h4.trans (hs.only.below h4.size h5),?_⟩;rintro j (hj|hj)
 ·rcases hs.foot j hj with e|e
  ·exact h5 j (Or.inl e)
  ·exact Nat.le_trans h4.size e
 ·exact h5 j (Or.inr hj)
end
def zcY:St:=⟨⟨#[100,105,114,116,121]⟩,0,0,⟨#[]⟩⟩
theorem zmr:za1 zcY:=⟨by unfold zai zcY;decide,by unfold zai zcY;decide,by unfold zcY;decide,by unfold zcY;decide⟩
theorem zjP:zaM sk0 zcY=([48],sk0):=by
 unfold zaM;rw[if_pos (show zz zcY=0 by decide +kernel)];unfold zd6
 iterate 13 rw[if_neg (by decide +kernel)]
 rw[if_pos (by decide +kernel),show Lib.itoa (zE sk0.hand:Nat)=[48] by decide +kernel]
theorem zgf{l:List St}{n:Nat}(h:zdN l n=true):l.length≤n:=by
 unfold zdN at h;simp only[Bool.and_eq_true,decide_eq_true_eq] at h;exact h.1
theorem TwN.mono{W:World}{g1 g2 n1 n2 m1 m2:Nat}{q1 q2:Sk}{w:World}(h:TwN W g1 g2 n1 n2 q1 q2 w)(h1:n1≤m1)(h2:n2≤m2):TwN W g1 g2 m1 m2 q1 q2 w:=by
 obtain⟨s1,s2,p1,p2,A1,A2,ht,e1,e2,f1,f2⟩:=h;exact⟨s1,s2,p1,p2,A1,A2,ht,e1,e2,f1.mono h1,f2.mono h2⟩
theorem topTwice_walk(l:List St)(la:Option Addr)(lc:Nat)(w:World)(hl:zcu w la l∧∀x∈l,za1 x)(hLW:TabW w) :
 Calls Tryz.prog 5 #[.slice la l.length lc] w fun e w'=>e=.returned (.bool true)∧Below w.heap.size w w':=by
 have HL:=za hl.1;have HIN:=za hl.2;have HLW:=za hLW;clear hl hLW;go_enter Tryz.func5,Tryz.ntmps5;go_wp2_with fail;refine(ze8 _ (fun _=>False) (fun _ h=>h.elim)).mono ?_;rintro e w0 ⟨g,s,p,A,rfl,hp⟩;have HP:=za (hp.onep (W:=w) (Below.refl _ _));clear hp;have HPL:=za (fun w' (h:zb0 w g 0 sk0 w')=>(by have:=zd5 h (by omega) HLW.out zcY zmr;rw[zjP] at this;unfold zcY at this;exact this));go_wp2_with fail;refine(HPL.out _ HP.out).mono ?_;rintro e w1 ⟨rfl,hp1⟩;have HB1:=za hp1.bel;clear hp1 HPL HP;go_wp2_with fail
 cases hb:zdN l 80
 ·refine(zdc l la lc 80 _ (HL.out.later HB1.out) (by omega) false hb).mono ?_;rintro e w2 ⟨rfl,hb2⟩;go_wp2;go_ret;exact⟨rfl,zb HB1.out hb2⟩
 refine(zdc l la lc 80 _ (HL.out.later HB1.out) (by omega) true hb).mono ?_;rintro e w2 ⟨rfl,hb2⟩;have h80:=zgf hb;have HB2:=za (zb HB1.out hb2);clear hb2 hb HB1;go_wp2_with fail;refine(ze8 _ (fun _=>False) (fun _ h=>h.elim)).mono ?_;rintro e w3 ⟨g1,s1,p1,A1,rfl,hp1⟩;have HP1:=za hp1;clear hp1;go_wp2_with fail;refine(ze8 _ (zaW g1 s1 A1) HP1.out.at'.plt).mono ?_;rintro e w4 ⟨g2,s2,p2,A2,rfl,hp2⟩;have HTW:=za (zoW HP1.out hp2);clear hp2 HP1;go_wp2
 go_loopw[5] (fun i wr=>∃(j:Nat) (q:Sk),j≤l.length∧i=.int .i64 j∧TwN w2 g1 g2 (10989*j) (10989*j) q q wr) (fun i _=>l.length-(intOf i).toNat)
 case atStart=>exact⟨0,sk0,by omega,rfl,HTW.out⟩
 case round =>
  clear HTW;obtain⟨j,q,hj,rfl,hp⟩:=hrel;have HP:=za hp;have HBr:=zb HB2.out hp.bel;have HT2:=za (HLW.out.later HB2.out);clear hp
  by_cases hlt:j<l.length
  ·have hlt':(j:Int)<(l.length:Int):=by omega
   have hj0:(0:Int)≤(j:Int):=by omega
   rcases HL.out.form with rfl|⟨bl,ol,rfl⟩
   ·exact absurd hlt (Nat.not_lt_zero _)
   obtain⟨c0,c1,c2,c3⟩:=(HL.out.later HBr).cells hlt;have hxin:=HIN.out _ (List.getElem_mem hlt);have hcl:Hid (∀w',TwN w2 g1 g2 (10989*j) (10989*j) q q w'∨True→True):=fun _ _=>trivial
   clear hcl;have HCE:Hid (∀w',Below w2.heap.size w2 w'→w'.cell? ⟨bl,ol+j*4,none⟩=some (.string l[j].word)∧w'.cell? ⟨bl,ol+j*4+1,none⟩=some (.int .i64 l[j].a)∧w'.cell? ⟨bl,ol+j*4+2,none⟩=some (.int .i64 l[j].b)∧w'.cell? ⟨bl,ol+j*4+3,none⟩=some (.string l[j].data)):=fun w' hb'=>(HL.out.later (zb HB2.out hb')).cells hlt
   generalize hx:l[j]=x at *;clear hx;obtain⟨wd,xa,xb,dt⟩:=x;have HXI:=za hxin;have HCK:=za (fun w'=>zag ⟨wd,xa,xb,dt⟩ w' hxin)
   by_cases h0:zz ⟨wd,xa,xb,dt⟩=0
   ·rw[h0,show zI 0=.nilIface from rfl] at HCK;have H1:Hid (∀w',TwN w2 g1 g2 (10989*j) (10989*j) q q w'→Calls Tryz.prog 12 #[.pointer (some ⟨g1,0,none⟩),.agg #[.string wd,.int .i64 xa,.int .i64 xb,.string dt]] w' fun e w'=>e=.returned (.string ⟨(zaM q ⟨wd,xa,xb,dt⟩).1.toArray⟩)∧TwN w2 g1 g2 (10989*j+10989) (10989*j) (zaM q ⟨wd,xa,xb,dt⟩).2 q w'):=za (fun w' (h:TwN w2 g1 g2 (10989*j) (10989*j) q q w')=>zjF h (by omega) HT2.out ⟨wd,xa,xb,dt⟩ hxin);have H2:Hid (∀q' w',TwN w2 g1 g2 (10989*j+10989) (10989*j) q' q w'→Calls Tryz.prog 12 #[.pointer (some ⟨g2,0,none⟩),.agg #[.string wd,.int .i64 xa,.int .i64 xb,.string dt]] w' fun e w'=>e=.returned (.string ⟨(zaM q ⟨wd,xa,xb,dt⟩).1.toArray⟩)∧TwN w2 g1 g2 (10989*j+10989) (10989*j+10989) q' (zaM q ⟨wd,xa,xb,dt⟩).2 w'):=za (fun q' w' (h:TwN w2 g1 g2 (10989*j+10989) (10989*j) q' q w')=>znx h (by omega) HT2.out ⟨wd,xa,xb,dt⟩ hxin);obtain⟨T,hT⟩:∃T,(zaM q ⟨wd,xa,xb,dt⟩).1=T:=⟨_,rfl⟩
    obtain⟨q',hq'⟩:∃q',(zaM q ⟨wd,xa,xb,dt⟩).2=q':=⟨_,rfl⟩
    rw[hT,hq'] at H1 H2;clear h0 hxin hT hq';go_wp2_with fail;refine(HCK.out _).mono ?_;rintro e w5 ⟨rfl,hb5⟩;have HP5:=za (HP.out.later hb5);obtain⟨d0,d1,d2,d3⟩:=HCE.out _ HP5.out.bel;clear hb5 HCK c0 c1 c2 c3 HP;go_upto_region 12 with fail
    go_region_held3 (fun w'=>w'.cell? ⟨bl,ol+j*4,none⟩=some (.string wd)∧w'.cell? ⟨bl,ol+j*4+1,none⟩=some (.int .i64 xa)∧w'.cell? ⟨bl,ol+j*4+2,none⟩=some (.int .i64 xb)∧w'.cell? ⟨bl,ol+j*4+3,none⟩=some (.string dt)) (first|exact⟨cellB_later' (w:=w5) (Below.refl _ _) d0,cellB_later' (w:=w5) (Below.refl _ _) d1,cellB_later' (w:=w5) (Below.refl _ _) d2,cellB_later' (w:=w5) (Below.refl _ _) d3⟩|exact⟨cellB_later' (w:=w5) (Below.refl _ _).drew d0,cellB_later' (w:=w5) (Below.refl _ _).drew d1,cellB_later' (w:=w5) (Below.refl _ _).drew d2,cellB_later' (w:=w5) (Below.refl _ _).drew d3⟩|exact⟨by assumption,by assumption,by assumption,by assumption⟩) (first|(go_at_call 12;refine(H2.out _ _ (HA.out.later (by(with_reducible repeat first|exact Below.refl _ _|refine zc ?_ _|refine zd ?_|refine bset' ?_ (by omega) _|refine zb ?_ (by assumption))))).mono ?_;rintro e wB ⟨rfl,hp⟩;have HBB:=za hp;obtain⟨b0,b1,b2,b3⟩:=HCE.out _ hp.bel;clear hp)|(go_at_call 12;refine(H1.out _ (HP5.out.later (by(with_reducible repeat first|exact Below.refl _ _|refine zc ?_ _|refine zd ?_|refine bset' ?_ (by omega) _|refine zb ?_ (by assumption))))).mono ?_;rintro e wA ⟨rfl,hp⟩;have HA:=za hp;obtain⟨m0,m1,m2,m3⟩:=HCE.out _ hp.bel;clear hp))
    all_goals
     go_wp2;go_roundw
     case rel=>exact⟨j+1,q',by omega,by go_num,(HBB.out).mono (by omega) (by omega)⟩
     case measure=>simp[intOf];omega
   ·obtain⟨er,her⟩:∃er,zz ⟨wd,xa,xb,dt⟩=er:=⟨_,rfl⟩
    rw[her,show zI er=.iface 87 (.int .i64 er) by rw[zI,if_neg (by rw[←her];exact h0)]] at HCK;clear h0 hxin her;go_wp2_with fail;refine(HCK.out _).mono ?_;rintro e w5 ⟨rfl,hb5⟩;have HP5:=za (HP.out.later hb5);clear hb5 HCK c0 c1 c2 c3 HP;go_wp2;go_roundw
    case rel=>exact⟨j+1,q,by omega,by go_num,(HP5.out).mono (by omega) (by omega)⟩
    case measure=>simp[intOf];omega
  ·go_wp2;go_ret;exact⟨rfl,HBr⟩
end Go.Proofs.YtlhgjplipgandaaGreatDoor
namespace Go.Proofs.YtlhgjplipgandaaGreatDoor
open Go.RowKit
def BootB(now good:List ByteArray)(wr:List Wn)(nx:Nat)(i:Nat):Prop:=∀q1,q1=((skN ⟨now,good,wr,nx,[]⟩).ask 1 1 i ByteArray.empty).2→((skN ⟨now,good,wr,nx,[]⟩).ask 1 1 i ByteArray.empty).1=0∧(q1.settle 5).2.quiet=true∧((q1.settle 5).2.client 1).err=0∧((q1.settle 5).2.client 1).got=now.getD i ByteArray.empty
theorem znP(now good:List ByteArray)(wr:List Wn)(nx:Nat):∀i,i<32→BootB now good wr nx i
 |0,_=>fun q1 e=>by rw[e];exact⟨by kernel_rfl,by kernel_rfl,by kernel_rfl,by kernel_rfl⟩
 |1,_=>fun q1 e=>by rw[e];exact⟨by kernel_rfl,by kernel_rfl,by kernel_rfl,by kernel_rfl⟩
 |2,_=>fun q1 e=>by rw[e];exact⟨by kernel_rfl,by kernel_rfl,by kernel_rfl,by kernel_rfl⟩
 |3,_=>fun q1 e=>by rw[e];exact⟨by kernel_rfl,by kernel_rfl,by kernel_rfl,by kernel_rfl⟩
 |4,_=>fun q1 e=>by rw[e];exact⟨by kernel_rfl,by kernel_rfl,by kernel_rfl,by kernel_rfl⟩
 |5,_=>fun q1 e=>by rw[e];exact⟨by kernel_rfl,by kernel_rfl,by kernel_rfl,by kernel_rfl⟩
 |6,_=>fun q1 e=>by rw[e];exact⟨by kernel_rfl,by kernel_rfl,by kernel_rfl,by kernel_rfl⟩
 |7,_=>fun q1 e=>by rw[e];exact⟨by kernel_rfl,by kernel_rfl,by kernel_rfl,by kernel_rfl⟩
 |8,_=>fun q1 e=>by rw[e];exact⟨by kernel_rfl,by kernel_rfl,by kernel_rfl,by kernel_rfl⟩
 |9,_=>fun q1 e=>by rw[e];exact⟨by kernel_rfl,by kernel_rfl,by kernel_rfl,by kernel_rfl⟩
 |10,_=>fun q1 e=>by rw[e];exact⟨by kernel_rfl,by kernel_rfl,by kernel_rfl,by kernel_rfl⟩
 |11,_=>fun q1 e=>by rw[e];exact⟨by kernel_rfl,by kernel_rfl,by kernel_rfl,by kernel_rfl⟩
 |12,_=>fun q1 e=>by rw[e];exact⟨by kernel_rfl,by kernel_rfl,by kernel_rfl,by kernel_rfl⟩
 |13,_=>fun q1 e=>by rw[e];exact⟨by kernel_rfl,by kernel_rfl,by kernel_rfl,by kernel_rfl⟩
 |14,_=>fun q1 e=>by rw[e];exact⟨by kernel_rfl,by kernel_rfl,by kernel_rfl,by kernel_rfl⟩
 |15,_=>fun q1 e=>by rw[e];exact⟨by kernel_rfl,by kernel_rfl,by kernel_rfl,by kernel_rfl⟩
 |16,_=>fun q1 e=>by rw[e];exact⟨by kernel_rfl,by kernel_rfl,by kernel_rfl,by kernel_rfl⟩
 |17,_=>fun q1 e=>by rw[e];exact⟨by kernel_rfl,by kernel_rfl,by kernel_rfl,by kernel_rfl⟩
 |18,_=>fun q1 e=>by rw[e];exact⟨by kernel_rfl,by kernel_rfl,by kernel_rfl,by kernel_rfl⟩
 |19,_=>fun q1 e=>by rw[e];exact⟨by kernel_rfl,by kernel_rfl,by kernel_rfl,by kernel_rfl⟩
 |20,_=>fun q1 e=>by rw[e];exact⟨by kernel_rfl,by kernel_rfl,by kernel_rfl,by kernel_rfl⟩
 |21,_=>fun q1 e=>by rw[e];exact⟨by kernel_rfl,by kernel_rfl,by kernel_rfl,by kernel_rfl⟩
 |22,_=>fun q1 e=>by rw[e];exact⟨by kernel_rfl,by kernel_rfl,by kernel_rfl,by kernel_rfl⟩
 |23,_=>fun q1 e=>by rw[e];exact⟨by kernel_rfl,by kernel_rfl,by kernel_rfl,by kernel_rfl⟩
 |24,_=>fun q1 e=>by rw[e];exact⟨by kernel_rfl,by kernel_rfl,by kernel_rfl,by kernel_rfl⟩
 |25,_=>fun q1 e=>by rw[e];exact⟨by kernel_rfl,by kernel_rfl,by kernel_rfl,by kernel_rfl⟩
 |26,_=>fun q1 e=>by rw[e];exact⟨by kernel_rfl,by kernel_rfl,by kernel_rfl,by kernel_rfl⟩
 |27,_=>fun q1 e=>by rw[e];exact⟨by kernel_rfl,by kernel_rfl,by kernel_rfl,by kernel_rfl⟩
 |28,_=>fun q1 e=>by rw[e];exact⟨by kernel_rfl,by kernel_rfl,by kernel_rfl,by kernel_rfl⟩
 |29,_=>fun q1 e=>by rw[e];exact⟨by kernel_rfl,by kernel_rfl,by kernel_rfl,by kernel_rfl⟩
 |30,_=>fun q1 e=>by rw[e];exact⟨by kernel_rfl,by kernel_rfl,by kernel_rfl,by kernel_rfl⟩
 |31,_=>fun q1 e=>by rw[e];exact⟨by kernel_rfl,by kernel_rfl,by kernel_rfl,by kernel_rfl⟩
 |_+32,h=>absurd h (by omega)
theorem zkX(q:Sk)(k:Int)(i:Nat)(hi:i<32):∃q1 q2 c,(skN (q.dev.crash k)).ask 1 1 i ByteArray.empty=(0,q1)∧q1.settle 5=(c,q2)∧q2.quiet=true∧(q2.client 1).err=0∧(q2.client 1).got=(q.dev.crash k).now.getD i ByteArray.empty:=by
 obtain⟨h1,h2,h3,h4⟩:=znP (zaw k q.dev.wr q.dev.good) (zaw k q.dev.wr q.dev.good) [] 0 i hi _ rfl;exact⟨_,_,_,Prod.ext h1 rfl,rfl,h2,h3,h4⟩
theorem znn(d:Dl)(h:d.busy=[]):(skN d).quiet=true∧zE (skN d).hand=0∧(skN d).dead=false:=by
 refine⟨?_,rfl,rfl⟩;have e:(skN d).dev.busy=[]:=h;unfold Sk.quiet;rw[e]
 rfl
def zaE(k:Int):St:=⟨⟨#[99,114,97,115,104]⟩,k,0,⟨#[]⟩⟩
theorem zhV(k:Int)(hk:0≤k∧k≤999):za1 (zaE k):=⟨by unfold zaE;simp only;unfold zai;omega,by unfold zaE;simp only;unfold zai;omega,by show(⟨#[99,114,97,115,104]⟩:ByteArray).size≤9223372036854775807;decide,by show(⟨#[]⟩:ByteArray).size≤9223372036854775807;decide⟩
theorem ziZ(k:Int)(hk:0≤k∧k≤999):zz (zaE k)=0:=by
 unfold zz;have h1:zb7 (zaE k).word=some (1,false):=by show zb7 ⟨#[99,114,97,115,104]⟩=_;decide +kernel
 have h2:zbx (zaE k).word=(1,false):=by unfold zbx;rw[h1];rfl
 have h3:zei 1 false (zaE k)=true:=by
  unfold zei zaE
  simp
 have h4:zar (zaE k).a=false:=by
  show zar k=false;unfold zar;rw[decide_eq_false (by omega),decide_eq_false (by omega)]
  rfl
 have h5:zar (zaE k).b=false:=rfl;rw[h1,h2,h4,h5];show(if false=true then(3:Int) else if zei 1 false (zaE k)=false then 3 else if(false||false)=true then 1 else if 9<(zaE k).data.size then 1 else if zbm (zaE k).data=true then 3 else if(zaE k).data=zcX then 3 else 0)=0;rw[h3];rw[if_neg (by decide),if_neg (by decide),if_neg (by decide),if_neg (show ¬9<(zaE k).data.size by show ¬9<(⟨#[]⟩:ByteArray).size;decide),if_neg (show ¬zbm (zaE k).data=true by show ¬zbm (⟨#[]⟩:ByteArray)=true;decide),if_neg (show ¬(zaE k).data=zcX by show ¬(⟨#[]⟩:ByteArray)=zcX;decide)]
theorem zgb(q:Sk)(k:Int)(hk:0≤k∧k≤999):zaM q (zaE k)=([111,107],skN (q.dev.crash k)):=by
 unfold zaM;rw[if_pos (ziZ k hk)];have hn:∀s:ByteArray,¬(⟨#[99,114,97,115,104]⟩:ByteArray)=s→¬(zaE k).word=s:=fun _ h=>h
 unfold zd6
 iterate 14 rw[if_neg (hn _ (by decide +kernel))]
 rw[if_pos (show(zaE k).word=zeJ from rfl)]
 rfl
theorem zb0.refit{W:World}{g n m:Nat}{q:Sk}{w:World}(h:zb0 W g n q w)(hf:zan m q):zb0 W g m q w:=by
 obtain⟨s,p,A,h1,h2,h3,h4,h5⟩:=h;exact⟨s,p,A,h1,h2,hf,h4,h5⟩
end Go.Proofs.YtlhgjplipgandaaGreatDoor
namespace Go.Proofs.YtlhgjplipgandaaGreatDoor
open Go.RowKit Go.BigFrame Go.Maps
attribute [local go_sem] ze.cell ze.frozen
theorem zlP(g s:Nat)(w:World)(h:w.cell? ⟨g,1,none⟩=some (.pointer (some ⟨s,0,none⟩))):Calls Tryz.prog 15 #[.pointer (some ⟨g,0,none⟩)] w fun e w'=>e=.returned (.pointer (some ⟨s,0,none⟩))∧w'=w:=by
 have lg:=zg h;go_enter Tryz.func15,Tryz.ntmps15;go_wp2;go_ret;exact⟨rfl,rfl⟩
theorem zj5(g b:Nat)(w:World)(h:w.cell? ⟨g,0,none⟩=some (.pointer (some ⟨b,0,none⟩))):Calls Tryz.prog 16 #[.pointer (some ⟨g,0,none⟩)] w fun e w'=>e=.returned (.pointer (some ⟨b,0,none⟩))∧w'=w:=by
 have lg:=zg h;go_enter Tryz.func16,Tryz.ntmps16;go_wp2;go_ret;exact⟨rfl,rfl⟩
theorem topBoot_walk(l:List St)(la:Option Addr)(lc:Nat)(kp xi:Int)(w:World)(hl:zcu w la l∧∀x∈l,za1 x)(hLW:TabW w) :
 Calls Tryz.prog 6 #[.slice la l.length lc,.int .i64 kp,.int .i64 xi] w fun e w'=>e=.returned (.bool true)∧Below w.heap.size w w':=by
 have HL:=za hl.1;have HIN:=za hl.2;have HLW:=za hLW;clear hl hLW;go_enter Tryz.func6,Tryz.ntmps6;go_wp2_with fail;refine(ze8 _ (fun _=>False) (fun _ h=>h.elim)).mono ?_;rintro e w0 ⟨g,s0,p0,A0,rfl,hp⟩;have HP:=za (hp.onep (W:=w) (Below.refl _ _));clear hp;have HPL:=za (fun w' (h:zb0 w g 0 sk0 w')=>(by have:=zd5 h (by omega) HLW.out (zaE 0) (zhV 0 (by omega));rw[zgb _ _ (by omega)] at this;unfold zaE at this;exact this));go_wp2_with fail;refine(HPL.out _ HP.out).mono ?_;rintro e w1 ⟨rfl,hp1⟩;have HP1:=za (hp1.refit (zd9.crash 0));have HB1:=za hp1.bel;clear hp1 HPL HP;go_wp2_with fail
 cases hb:zdN l 80
 ·refine(zdc l la lc 80 _ (HL.out.later HB1.out) (by omega) false hb).mono ?_;rintro e w2 ⟨rfl,hb2⟩;go_wp2;go_ret;exact⟨rfl,zb HB1.out hb2⟩
 refine(zdc l la lc 80 _ (HL.out.later HB1.out) (by omega) true hb).mono ?_;rintro e w2 ⟨rfl,hb2⟩;have h80:=zgf hb;have HB2:=za (zb HB1.out hb2);have HP2:=za (HP1.out.later hb2);clear hb2 hb HB1 HP1
 by_cases k0:kp<0
 ·go_wp2;go_ret;exact⟨rfl,HB2.out⟩
 by_cases k1:999<kp
 ·go_wp2;go_ret;exact⟨rfl,HB2.out⟩
 by_cases k2:xi<0
 ·go_wp2;go_ret;exact⟨rfl,HB2.out⟩
 by_cases k3:32≤xi
 ·go_wp2;go_ret;exact⟨rfl,HB2.out⟩
 obtain⟨i,rfl⟩:∃i:Nat,xi=i:=⟨xi.toNat,by omega⟩
 have HI:Hid (i<32):=by show i<32;omega
 have HK:Hid (0≤kp∧kp≤999):=⟨by omega,by omega⟩
 go_wp2
 go_loopw[8] (fun i wr=>∃(j:Nat) (q:Sk),j≤l.length∧i=.int .i64 j∧zb0 w g (10989*j) q wr) (fun i _=>l.length-(intOf i).toNat)
 case atStart=>exact⟨0,_,by omega,rfl,HP2.out⟩
 case round =>
  clear HP2;obtain⟨j,q,hj,rfl,hp⟩:=hrel;have HP:=za hp;have HBr:=hp.bel;clear hp
  by_cases hlt:j<l.length
  ·have hlt':(j:Int)<(l.length:Int):=by omega
   have hj0:(0:Int)≤(j:Int):=by omega
   rcases HL.out.form with rfl|⟨bl,ol,rfl⟩
   ·exact absurd hlt (Nat.not_lt_zero _)
   obtain⟨c0,c1,c2,c3⟩:=(HL.out.later HBr).cells hlt;have hxin:=HIN.out _ (List.getElem_mem hlt);have HCE:Hid (∀w',Below w.heap.size w w'→w'.cell? ⟨bl,ol+j*4,none⟩=some (.string l[j].word)∧w'.cell? ⟨bl,ol+j*4+1,none⟩=some (.int .i64 l[j].a)∧w'.cell? ⟨bl,ol+j*4+2,none⟩=some (.int .i64 l[j].b)∧w'.cell? ⟨bl,ol+j*4+3,none⟩=some (.string l[j].data)):=fun w' hb'=>(HL.out.later hb').cells hlt
   generalize hx:l[j]=x at *;clear hx;obtain⟨wd,xa,xb,dt⟩:=x;have HCK:=za (fun w'=>zag ⟨wd,xa,xb,dt⟩ w' hxin)
   by_cases h0:zz ⟨wd,xa,xb,dt⟩=0
   ·rw[h0,show zI 0=.nilIface from rfl] at HCK;have H1:Hid (∀w',zb0 w g (10989*j) q w'→Calls Tryz.prog 12 #[.pointer (some ⟨g,0,none⟩),.agg #[.string wd,.int .i64 xa,.int .i64 xb,.string dt]] w' fun e w'=>e=.returned (.string ⟨(zaM q ⟨wd,xa,xb,dt⟩).1.toArray⟩)∧zb0 w g (10989*j+10989) (zaM q ⟨wd,xa,xb,dt⟩).2 w'):=za (fun w' (h:zb0 w g (10989*j) q w')=>zd5 h (by omega) HLW.out ⟨wd,xa,xb,dt⟩ hxin);obtain⟨T,hT⟩:∃T,(zaM q ⟨wd,xa,xb,dt⟩).1=T:=⟨_,rfl⟩
    obtain⟨q',hq'⟩:∃q',(zaM q ⟨wd,xa,xb,dt⟩).2=q':=⟨_,rfl⟩
    rw[hT,hq'] at H1;clear h0 hxin hT hq';go_wp2_with fail;refine(HCK.out _).mono ?_;rintro e w5 ⟨rfl,hb5⟩;have HP5:=za (HP.out.later hb5);obtain⟨d0',d1,d2,d3⟩:=HCE.out _ HP5.out.bel;clear hb5 HCK c0 c1 c2 c3 HP;go_wp2_with fail;refine(H1.out _ HP5.out).mono ?_;rintro e w6 ⟨rfl,hp6⟩;have HP6:=za hp6;clear hp6 H1 HP5 d0' d1 d2 d3;go_wp2;go_roundw
    case rel=>exact⟨j+1,q',by omega,by go_num,by have:=HP6.out;rwa [show 10989*(j+1)=10989*j+10989 by omega]⟩
    case measure=>simp[intOf];omega
   ·obtain⟨er,her⟩:∃er,zz ⟨wd,xa,xb,dt⟩=er:=⟨_,rfl⟩
    rw[her,show zI er=.iface 87 (.int .i64 er) by rw[zI,if_neg (by rw[←her];exact h0)]] at HCK;clear h0 hxin her;go_wp2_with fail;refine(HCK.out _).mono ?_;rintro e w5 ⟨rfl,hb5⟩;have HP5:=za (HP.out.later hb5);clear hb5 HCK c0 c1 c2 c3 HP;go_wp2;go_roundw
    case rel =>
     obtain⟨s,p,A,h1,h2,h3,h4⟩:=HP5.out;exact⟨j+1,q,by omega,by go_num,s,p,A,h1,h2,h3.mono (by omega),h4⟩
    case measure=>simp[intOf];omega
  ·have HC:Hid (∀w',zb0 w g (10989*j) q w'→Calls Tryz.prog 12 #[.pointer (some ⟨g,0,none⟩),.agg #[.string ⟨#[99,114,97,115,104]⟩,.int .i64 kp,.int .i64 0,.string ⟨#[]⟩]] w' fun e w'=>e=.returned (.string ⟨#[111,107]⟩)∧zb0 w g (10989*j+10989) (skN (q.dev.crash kp)) w'):=fun w' h=>by
    have:=zd5 h (by omega) HLW.out (zaE kp) (zhV kp HK.out);rw[zgb _ _ HK.out] at this;exact this
   have HF:Hid (zan 0 (skN (q.dev.crash kp))):=by
    obtain⟨s,p,A,h1,h2,h3,h4⟩:=HP.out;exact h3.crash kp
   obtain⟨q1,q2,c,b1,b2,b3,b4,b5⟩:=zkX q kp i HI.out;have HST:=za (znn (q.dev.crash kp) rfl);obtain⟨d,hd⟩:∃d,q.dev.crash kp=d:=⟨_,rfl⟩
   rw[hd] at HC HF b1 b5 HST;have HBB:=za (⟨b1,b2,b3,b4,b5⟩:_∧_∧_∧_∧_);clear hd b1 b2 b3 b4 b5;go_wp2_with fail;refine(HC.out _ HP.out).mono ?_;rintro e w5 ⟨rfl,s,p,A,hpl,hnf,-,hbl,hfo⟩;have HPA:=za hpl;have HNF:=za hnf;have HBL:=za (⟨hbl,hfo⟩:_∧_);have HO:Hid (zam ⟨p,A,w5⟩ s A.b (skN d) w5):=⟨p,A,zp.same' hpl.st (Below.refl _ _),hnf,rfl⟩
   obtain⟨e0,e1,_,lg⟩:=hpl.cells;clear hpl hnf hbl hfo HC HP HBr;obtain⟨T,hT⟩:∃T,d.now.getD i ByteArray.empty=T:=⟨_,rfl⟩
   have HPK:Hid (∀w',Below w5.heap.size w5 w'→Calls Tryz.prog 17 #[.pointer (some ⟨A.b,0,none⟩),.int .i64 i] w' fun e w2=>e=.returned (.string T)∧Below w'.heap.size w' w2):=fun w' hb=>zpx A.b p.dev A.an i w' (HPA.out.later hb).st.mem.drv.dev HI.out T (by rw[←hT];have:=congrArg (fun z=>z.dev.now) HNF.out;exact congrArg (fun z=>z.getD i ByteArray.empty) this)
   have HQU:Hid (∀w',zam ⟨p,A,w5⟩ s A.b (skN d) w'→Calls Tryz.prog 24 #[.pointer (some ⟨s,0,none⟩)] w' fun e w2=>e=.returned (.bool true)∧Below w'.heap.size w' w2):=fun w' ho=>zdo _ w' s A.b _ ho (Nat.zero_le _) true HST.out.1
   have HDY:Hid (∀w',zam ⟨p,A,w5⟩ s A.b (skN d) w'→Calls Tryz.prog 25 #[.pointer (some ⟨s,0,none⟩)] w' fun e w2=>e=.returned (.int .i64 0)∧Below w'.heap.size w' w2):=fun w' ho=>zng (h:=ho) (k:=0) (hk:=HST.out.2.1)
   have HDE:Hid (∀w',zam ⟨p,A,w5⟩ s A.b (skN d) w'→Calls Tryz.prog 26 #[.pointer (some ⟨s,0,none⟩)] w' fun e w2=>e=.returned (.bool false)∧w2=w'):=fun w' ho=>by have:=zoF (h:=ho);rw[HST.out.2.2] at this;exact this
   have HAS:Hid (∀w',zam ⟨p,A,w5⟩ s A.b (skN d) w'→Calls Tryz.prog 27 #[.pointer (some ⟨s,0,none⟩),.int .i64 1,.int .i64 1,.int .i64 i,.string ⟨#[]⟩] w' fun e w2=>e=.returned .nilIface∧zam ⟨p,A,w5⟩ s A.b q1 w2):=fun w' ho=>zpz (h:=ho) (hf:=HF.out.fit) (hn:=by omega) (c:=1) (kind:=1) (pl:=i) (data:=ByteArray.empty) (x:=0) (q':=q1) (hq:=HBB.out.1)
   have HSE:Hid (∀w',zam ⟨p,A,w5⟩ s A.b q1 w'→Calls Tryz.prog 28 #[.pointer (some ⟨s,0,none⟩),.int .i64 5] w' fun e w2=>e=.returned (.tuple #[.int .i64 c,.bool true])∧zam ⟨p,A,w5⟩ s A.b q2 w2):=fun w' ho=>zhb _ w' s A.b q1 3 5 ho (by have:=HF.out.fit.ask 1 1 i ByteArray.empty;rw[HBB.out.1] at this;exact this) (by omega) c q2 HBB.out.2.1 true HBB.out.2.2.1
   have HGO:Hid (∀w',zam ⟨p,A,w5⟩ s A.b q2 w'→Calls Tryz.prog 29 #[.pointer (some ⟨s,0,none⟩),.int .i64 1] w' fun e w2=>e=.returned (.tuple #[.string T,.nilIface])∧Below w'.heap.size w' w2):=fun w' ho=>by
    have:=zpB (h:=ho) (i:=1) (hi:=by omega);rw[HBB.out.2.2.2.1,HBB.out.2.2.2.2,hT] at this;exact this
   have HSTK:Hid (∀w',Below w5.heap.size w5 w'→Calls Tryz.prog 15 #[.pointer (some ⟨g,0,none⟩)] w' fun e w2=>e=.returned (.pointer (some ⟨s,0,none⟩))∧w2=w'):=fun w' hb=>zlP g s w' (HPA.out.later hb).cells.2.1
   have HDVC:Hid (∀w',Below w5.heap.size w5 w'→Calls Tryz.prog 16 #[.pointer (some ⟨g,0,none⟩)] w' fun e w2=>e=.returned (.pointer (some ⟨A.b,0,none⟩))∧w2=w'):=fun w' hb=>zj5 g A.b w' (HPA.out.later hb).cells.1
   clear hT HBB HF HST HNF HPA e0 e1;generalize A.b=bq at *;go_wp2_with fail;refine(HSTK.out _ (Below.refl _ _)).mono ?_;rintro e w6 ⟨rfl,rfl⟩;clear HSTK;go_wp2_with fail;refine(HQU.out _ HO.out).mono ?_;rintro e w7 ⟨rfl,hb7⟩;have HB7:=za hb7;have HO7:=za (HO.out.later hb7);clear hb7 HQU;go_wp2_with fail;refine(HDY.out _ HO7.out).mono ?_;rintro e w8 ⟨rfl,hb8⟩;have HB8:=za (zb HB7.out hb8);have HO8:=za (HO7.out.later hb8);clear hb8 HDY HO7 HB7;go_wp2_with fail;refine(HDE.out _ HO8.out).mono ?_;rintro e w9 ⟨rfl,rfl⟩;clear HDE;go_wp2_with fail;refine(HDVC.out _ HB8.out).mono ?_;rintro e w10 ⟨rfl,rfl⟩;clear HDVC;go_wp2_with fail;refine(HPK.out _ HB8.out).mono ?_;rintro e w11 ⟨rfl,hb11⟩;have HO11:=za (HO8.out.later hb11);clear hb11 HPK HO8 HB8;go_wp2_with fail;refine(HAS.out _ HO11.out).mono ?_;rintro e w12 ⟨rfl,ho12⟩;have HO12:=za ho12;clear ho12 HAS HO11;go_wp2_with fail;refine(HSE.out _ HO12.out).mono ?_;rintro e w13 ⟨rfl,ho13⟩;have HO13:=za ho13;clear ho13 HSE HO12;go_wp2_with fail;refine(HGO.out _ HO13.out).mono ?_;rintro e w14 ⟨rfl,hb14⟩;have HB14:Hid (Below w.heap.size w w14):=by
    obtain⟨p',A',hs,-,-⟩:=HO13.out;exact zb (HBL.out.1.trans (hs.only.below HBL.out.1.size (fun j hj=>HBL.out.2 j (Or.inl hj)))) hb14
   clear hb14 HGO HO13;go_wp2;go_ret;exact⟨rfl,HB14.out⟩
end Go.Proofs.YtlhgjplipgandaaGreatDoor
