/- A driver of a device: a request ends, well or for good. -/
import Derived.Test.YtgjkdhedkbkagaaGreatJ26
import Derived.Test.YtgjkdhedkbkagaaGreatJ12
import Derived.Maps.Views
namespace Go.Proofs.YtgjkdhedkbkagaaGreat
open Go.RowKit Go.BigFrame Go.Maps
set_option maxRecDepth 100000
attribute [local go_sem] Later.cell Later.frozen

theorem first_tag (r : Rq) (tg : Int) (ht : r.tags.getD 0 0 = tg) (w : World) (hr : r.At w) (h1 : 1 ≤ r.tags.length) : Calls Tryz.prog 83 #[r.val] w fun e w' => e = .returned (.int .i64 tg) ∧ Below w.heap.size w w' := by
  rw [← ht]; exact first_any r w hr h1
theorem end_fault1 (b : Nat) (d : Dl) (a : An) (r : Rq) (w : World) (hd : d.busy = []) (h : DevAt b { d with busy := [r] } a w) :
    Calls Tryz.prog 82 #[.pointer (some ⟨b, 0, none⟩), .int .i64 0, .bool true] w fun e w' => ∃ a', e = .returned (.tuple #[resV r none 0 0 8, .nilIface]) ∧ DStep b { d with busy := [r] } a d a' w w' := by
  refine (end_fault b { d with busy := [r] } a 0 (by simp) w h).mono ?_
  rintro e w' ⟨a', he, hs⟩
  refine ⟨a', he, ?_⟩
  have : ({ ({ d with busy := [r] } : Dl) with busy := ({ d with busy := [r] } : Dl).busy.eraseIdx 0 } : Dl) = d := by cases d; simp only at hd; subst hd; rfl
  rw [this] at hs
  exact hs
theorem new_notfoot {b : Nat} {d d' : Dl} {a a' : An} {w w' : World} {o : Obj} (hs : DStep b d a d' a' (w.alloc o) w') (hl : ∀ k, a.foot b k → k < w.heap.size) : ¬ a'.foot b w.heap.size := by
  intro e
  rcases hs.foot _ e with e | e
  · have := hl _ e; omega
  · rw [World.size_alloc] at e; omega
set_option maxRecDepth 100000 in
set_option maxHeartbeats 2000000 in
theorem vend_done (v b bm : Nat) (d : Dl) (a : An) (n : Nat) (D : DataW Unit) (r : Rq) (tg c : Int) (w : World) (h : VAt v b bm { d with busy := [r] } a n D w) (hd : d.busy = []) (ht : r.tags.getD 0 0 = tg) (htw : In64 tg) (h1 : 1 ≤ r.tags.length) (hc : D.atKey (.int .i64 tg) (.lit (.int .i64 0)) = .lit (.int .i64 c)) (hc2 : 2 ≤ c ∧ c ≤ 100) :
    Calls Tryz.prog 62 #[.pointer (some ⟨v, 0, none⟩), .int .i64 0, .bool true] w fun e w' => ∃ a', e = .returned (.tuple #[resV r none 0 0 8, .bool true, .nilIface]) ∧ VStep v b bm { d with busy := [r] } a n D d a' n (D.del (.int .i64 tg)) w w' := by
  have HA0 := hidT (h.dev.reqs r (List.mem_singleton.2 rfl)).1
  have HTG := hidT ht
  have HED := hidT hd
  have HC := hidT hc
  have hkey : keyOf Tryz.prog 3 (.int .i64 tg) = some (.int .i64 tg) := keyOf_int_mk Tryz.underlying3 (WalkArith.wf_i64 htw)
  have hc3 : ¬ c + 1 < 3 := by omega
  obtain ⟨hc4, hc5⟩ := hc2
  clear ht hd hc htw
  obtain ⟨c0, c1⟩ := h.cells; have HV := hidT h; have hv := lt_of_heap h.blk; have hm := h.mlt; have hbv := h.dev.lt; have hb0 := hidT (below1 w (.cells #[.bool false, .int .i64 0, .int .i64 0, .slice none 0 0, .slice none 0 0, .int .i64 0, .slice none 0 0, .int .i64 0] 110)); clear h
  go_enter Tryz.func62, Tryz.ntmps62
  go_wp2_with fail
  refine (end_fault1 b d a r _ HED.out (HV.out.dev.later hb0.out)).mono ?_
  rintro e w1 ⟨a1, rfl, hs1⟩
  have hs1n : ¬ a1.foot b w.heap.size := new_notfoot hs1 HV.out.dev.footLt
  have HO1 : Hid (∀ r ∈ d.busy, r.Off (fun k => k = w.heap.size)) := fun r hr => by rw [HED.out] at hr; cases hr
  have HOQ := HO1
  have HOB : Hid (∀ r ∈ d.busy, r.Off (fun k => k = bm)) := fun r hr => by rw [HED.out] at hr; cases hr
  have HNF : Hid (¬ vfoot b bm a1 w.heap.size) := fun e => e.elim (fun e => by omega) hs1n
  have HS1 := hidT (HV.out.step ((DStep.same HV.out.dev hb0.out).trans hs1)); have HZ1 := hidT ((zero_new w 110).only hs1.only (fun e => by have := HV.out.dev.footLt _ e; omega)); have HN1 : Hid (¬ vfoot b bm a1 w.heap.size) := (fun e => e.elim (fun e => by omega) (fun e => (HS1.out.foot _ (Or.inr e)).elim (fun e => e.elim (fun e => by omega) (fun e => by have := HV.out.dev.footLt _ e; omega)) (fun _ => hs1n e))); have HA1 := hidT ((HA0.out.later hb0.out).frame (HV.out.dev.reqs r (List.mem_singleton.2 rfl)).2 hs1.only); clear hs1 hs1n
  go_wp2_with (refine wpList_store_res rfl (.tmp 6) (.tmp 18) rfl w.heap.size r none 0 0 8 rfl rfl (zero_there HZ1.out) (fun wK => VStep v b bm { d with busy := [r] } a n D d a1 n D w wK ∧ ResBoxF wK w.heap.size r none 0 0 8 ∧ r.At wK) ⟨vset8 HS1.out w.heap.size (Nat.le_refl _) HN1.out (by omega) HO1.out _ _ _ _ _ _ _ _, set8_res (zero_there HZ1.out) HZ1.out.2.2, HA1.out.frame (off_of HA0.out (fun k e => by omega)) (set8_only w1 w.heap.size _ _ _ _ _ _ _ _)⟩ ?_; rintro wK ⟨hsK, hrK, haK⟩; have HSK := hidT hsK; have HRK := hidT hrK; have HAK := hidT haK; obtain ⟨⟨y0, y1, y2, y3, y4, y5, y6, y7⟩, -, yl⟩ := hrK; clear hsK haK HS1 HN1 HO1 HZ1 HA1)
  refine (first_tag r tg HTG.out _ HAK.out h1).mono ?_
  rintro e w2 ⟨rfl, hb2⟩; have HS2 := hidT (HSK.out.later hb2); have HR2 := hidT (HRK.out.later hb2); have HA2 := hidT (HAK.out.later hb2); clear HSK HRK HAK hb2 y0 y1 y2 y3 y4 y5 y6 y7 yl; obtain ⟨⟨x0, x1, x2, x3, x4, x5, x6, x7⟩, -, xl⟩ := id HR2.out; obtain ⟨p0, p1⟩ := HS2.out.at'.cells; have hmp := HS2.out.at'.map; have hvl := lt_of_heap HS2.out.at'.blk
  obtain ⟨c', hrun, hat, -⟩ := hmp.lookup_int keyI Tryz.underlying106 Tryz.underlying3 (zeroI _) hkey
  obtain rfl : c' = c := by rw [HC.out] at hat; injection hat with e; injection e with _ e; exact e.symm
  have HAT := hidT hat
  clear hat
  go_wp2_with (first | (at_delete; refine wpList_delete_own _ rfl _ _ 106 3 rfl 3 keyI Tryz.underlying106 _ bm n D rfl hmp _ _ rfl hkey ?_; intro w3 hown3 hturn3; have HS3 := hidT (HS2.out.trans (HS2.out.at'.turn (only_of_grown hturn3.grown) hown3 HOB.out)); have HR3 := hidT (HR2.out.only (only_of_grown hturn3.grown) (by omega)); obtain ⟨⟨m0, m1, m2, m3, m4, m5, m6, m7⟩, -, ml⟩ := id HR3.out; have HN3 : Hid (¬ vfoot b bm a1 w.heap.size) := HNF.out; clear hown3 hturn3 hmp HS2 HR2 HA2 x0 x1 x2 x3 x4 x5 x6 x7 xl p0 p1 hvl) | (refine wpList_store_res rfl (.tmp 6) (.tmp 60) rfl w.heap.size r none 0 0 8 rfl rfl HR3.out.2.1 (fun wK => VStep v b bm { d with busy := [r] } a n D d a1 n (D.del (.int .i64 tg)) w wK ∧ ResBoxF wK w.heap.size r none 0 0 8) ⟨vset8 HS3.out w.heap.size (Nat.le_refl _) HN3.out (by omega) HOQ.out _ _ _ _ _ _ _ _, set8_res HR3.out.2.1 HR3.out.2.2⟩ ?_; rintro w4 ⟨hs4, ⟨k0, k1, k2, k3, k4, k5, k6, k7⟩, -, -⟩; have HS4 := hidT hs4; clear hs4 HS3 HR3 HN3 m0 m1 m2 m3 m4 m5 m6 m7 ml))
  exact bodyPost_ret (v := .tuple #[resV r none 0 0 8, .bool true, .nilIface]) (by simp [results, Tryz.results62, go_sem, k0, k1, k2, k3, k4, k5, k6, k7]) rfl ⟨a1, rfl, HS4.out⟩
set_option maxRecDepth 100000 in
set_option maxHeartbeats 2000000 in
theorem vend_ok (v b bm : Nat) (d : Dl) (a : An) (n : Nat) (D : DataW Unit) (r : Rq) (tg : Int) (w : World) (h : VAt v b bm { d with busy := [r] } a n D w) (hd : d.busy = []) (ht : r.tags.getD 0 0 = tg) (htw : In64 tg) (h1 : 1 ≤ r.tags.length) (gr : Good r) :
    Calls Tryz.prog 62 #[.pointer (some ⟨v, 0, none⟩), .int .i64 0, .bool false] w fun e w' => ∃ a' xa xc m, e = .returned (.tuple #[resV r xa m xc 0, .bool true, .nilIface]) ∧ VStep v b bm { d with busy := [r] } a n D (d.did r) a' n (D.del (.int .i64 tg)) w w' := by
  have HA0 := hidT (h.dev.reqs r (List.mem_singleton.2 rfl)).1
  have HTG := hidT ht
  have HED := hidT hd
  have HG := hidT gr
  have hkey : keyOf Tryz.prog 3 (.int .i64 tg) = some (.int .i64 tg) := keyOf_int_mk Tryz.underlying3 (WalkArith.wf_i64 htw)
  clear ht hd gr htw
  obtain ⟨c0, c1⟩ := h.cells; have HV := hidT h; have hv := lt_of_heap h.blk; have hm := h.mlt; have hbv := h.dev.lt; have hb0 := hidT (below1 w (.cells #[.bool false, .int .i64 0, .int .i64 0, .slice none 0 0, .slice none 0 0, .int .i64 0, .slice none 0 0, .int .i64 0] 110)); clear h
  go_enter Tryz.func62, Tryz.ntmps62
  go_wp2_with fail
  refine (end_only b d r a _ HED.out (HV.out.dev.later hb0.out) HG.out).mono ?_
  rintro e w1 ⟨a1, xa, xc, xs, rfl, -, -, -, hs1⟩
  generalize xs.length = xm at *
  have hs1n : ¬ a1.foot b w.heap.size := new_notfoot hs1 HV.out.dev.footLt
  have HO1 : Hid (∀ q ∈ (d.did r).busy, q.Off (fun k => k = w.heap.size)) := fun q hr => by rw [Dl.did_busy, HED.out] at hr; cases hr
  have HOQ := HO1
  have HOB : Hid (∀ q ∈ (d.did r).busy, q.Off (fun k => k = bm)) := fun q hr => by rw [Dl.did_busy, HED.out] at hr; cases hr
  have HNF : Hid (¬ vfoot b bm a1 w.heap.size) := fun e => e.elim (fun e => by omega) hs1n
  have HS1 := hidT (HV.out.step ((DStep.same HV.out.dev hb0.out).trans hs1)); have HZ1 := hidT ((zero_new w 110).only hs1.only (fun e => by have := HV.out.dev.footLt _ e; omega)); have HN1 : Hid (¬ vfoot b bm a1 w.heap.size) := (fun e => e.elim (fun e => by omega) (fun e => (HS1.out.foot _ (Or.inr e)).elim (fun e => e.elim (fun e => by omega) (fun e => by have := HV.out.dev.footLt _ e; omega)) (fun _ => hs1n e))); have HA1 := hidT ((HA0.out.later hb0.out).frame (HV.out.dev.reqs r (List.mem_singleton.2 rfl)).2 hs1.only); clear hs1 hs1n
  go_wp2_with (refine wpList_store_res rfl (.tmp 6) (.tmp 18) rfl w.heap.size r xa xm xc 0 rfl rfl (zero_there HZ1.out) (fun wK => VStep v b bm { d with busy := [r] } a n D (d.did r) a1 n D w wK ∧ ResBoxF wK w.heap.size r xa xm xc 0 ∧ r.At wK) ⟨vset8 HS1.out w.heap.size (Nat.le_refl _) HN1.out (by omega) HO1.out _ _ _ _ _ _ _ _, set8_res (zero_there HZ1.out) HZ1.out.2.2, HA1.out.frame (off_of HA0.out (fun k e => by omega)) (set8_only w1 w.heap.size _ _ _ _ _ _ _ _)⟩ ?_; rintro wK ⟨hsK, hrK, haK⟩; have HSK := hidT hsK; have HRK := hidT hrK; have HAK := hidT haK; obtain ⟨⟨y0, y1, y2, y3, y4, y5, y6, y7⟩, -, yl⟩ := hrK; clear hsK haK HS1 HN1 HO1 HZ1 HA1)
  refine (first_tag r tg HTG.out _ HAK.out h1).mono ?_
  rintro e w2 ⟨rfl, hb2⟩; have HS2 := hidT (HSK.out.later hb2); have HR2 := hidT (HRK.out.later hb2); have HA2 := hidT (HAK.out.later hb2); clear HSK HRK HAK hb2 y0 y1 y2 y3 y4 y5 y6 y7 yl; obtain ⟨⟨x0, x1, x2, x3, x4, x5, x6, x7⟩, -, xl⟩ := id HR2.out; obtain ⟨p0, p1⟩ := HS2.out.at'.cells; have hmp := HS2.out.at'.map; have hvl := lt_of_heap HS2.out.at'.blk
  go_wp2_with (first | (at_delete; refine wpList_delete_own _ rfl _ _ 106 3 rfl 3 keyI Tryz.underlying106 _ bm n D rfl hmp _ _ rfl hkey ?_; intro w3 hown3 hturn3; have HS3 := hidT (HS2.out.trans (HS2.out.at'.turn (only_of_grown hturn3.grown) hown3 HOB.out)); have HR3 := hidT (HR2.out.only (only_of_grown hturn3.grown) (by omega)); obtain ⟨⟨m0, m1, m2, m3, m4, m5, m6, m7⟩, -, ml⟩ := id HR3.out; have HN3 : Hid (¬ vfoot b bm a1 w.heap.size) := HNF.out; clear hown3 hturn3 hmp HS2 HR2 HA2 x0 x1 x2 x3 x4 x5 x6 x7 xl p0 p1 hvl) | (refine wpList_store_res rfl (.tmp 6) (.tmp 60) rfl w.heap.size r xa xm xc 0 rfl rfl HR3.out.2.1 (fun wK => VStep v b bm { d with busy := [r] } a n D (d.did r) a1 n (D.del (.int .i64 tg)) w wK ∧ ResBoxF wK w.heap.size r xa xm xc 0) ⟨vset8 HS3.out w.heap.size (Nat.le_refl _) HN3.out (by omega) HOQ.out _ _ _ _ _ _ _ _, set8_res HR3.out.2.1 HR3.out.2.2⟩ ?_; rintro w4 ⟨hs4, ⟨k0, k1, k2, k3, k4, k5, k6, k7⟩, -, -⟩; have HS4 := hidT hs4; clear hs4 HS3 HR3 HN3 m0 m1 m2 m3 m4 m5 m6 m7 ml))
  exact bodyPost_ret (v := .tuple #[resV r xa xm xc 0, .bool true, .nilIface]) (by simp [results, Tryz.results62, go_sem, k0, k1, k2, k3, k4, k5, k6, k7]) rfl ⟨a1, xa, xc, xm, rfl, HS4.out⟩
end Go.Proofs.YtgjkdhedkbkagaaGreat
/- A driver of a device: a request is tried again. -/
namespace Go.Proofs.YtgjkdhedkbkagaaGreat
open Go.RowKit Go.BigFrame Go.Maps
set_option maxRecDepth 100000
attribute [local go_sem] Later.cell Later.frozen

theorem step_store_res {ops : Array Oper} {o : Oper} {a : Act} {w : World} {K : Act → World → Prop} {Q : Exit → Act → World → Prop} {E : Prop} (hg : o.guard = none) (x y : Operand) (ho : o.op = .store 110 x y)
    (q : Nat) (r : Rq) (xa : Option Addr) (n xc : Nat) (er : Int) (hx : a.eval x = .pointer (some ⟨q, 0, none⟩)) (hy : a.eval y = resV r xa n xc er) (ht : w.there q 0 8)
    (h : K (a.put o.dst undef) (set8 w q (.bool r.wr) (.int .i64 r.f) (.int .i64 r.m) (.slice r.da r.data.length r.dc) (.slice r.ta r.tags.length r.tc) (.int .i64 r.born) (.slice xa n xc) (.int .i64 er))) :
    if Region.wanted o (yielded ops a.tmps) = true then Oper.wp Tryz.prog o a w K Q else E := by
  have hw : Region.wanted o (yielded ops a.tmps) = true := by simp [Region.wanted, hg]
  rw [if_pos hw]
  exact wp_store_mid 110 x y ho q 0 _ hx hy ht (by kernel_rfl) (by simp [Value.oneCell']) h
set_option linter.unusedSimpArgs false in
set_option maxRecDepth 100000 in
set_option maxHeartbeats 2000000 in
theorem vend_again (v b bm : Nat) (d : Dl) (a : An) (n : Nat) (D : DataW Unit) (r : Rq) (tg c : Int) (w : World) (h : VAt v b bm { d with busy := [r] } a n D w) (hd : d.busy = []) (ht : r.tags.getD 0 0 = tg) (htw : In64 tg) (h1 : 1 ≤ r.tags.length) (hc : D.atKey (.int .i64 tg) (.lit (.int .i64 0)) = .lit (.int .i64 c)) (hc2 : 0 ≤ c ∧ c < 2) (hn : n ≤ 100) (hob : r.Off (fun k => k = bm)) :
    Calls Tryz.prog 62 #[.pointer (some ⟨v, 0, none⟩), .int .i64 0, .bool true] w fun e w' => ∃ a', e = .returned (.tuple #[noRes, .bool false, .nilIface]) ∧ VStep v b bm { d with busy := [r] } a n D { d with busy := [r] } a' (n + 1) (D.put (.int .i64 tg) (.lit (.int .i64 (c + 1)))) w w' := by
  have HA0 := hidT (h.dev.reqs r (List.mem_singleton.2 rfl)).1
  have HTG := hidT ht
  have HED := hidT hd
  have HC := hidT hc
  have hkey : keyOf Tryz.prog 3 (.int .i64 tg) = some (.int .i64 tg) := keyOf_int_mk Tryz.underlying3 (WalkArith.wf_i64 htw)
  have hc3 : c + 1 < 3 := by omega
  obtain ⟨hc4, hc5⟩ := hc2
  have HOR := hidT hob
  clear ht hd hc htw hob
  obtain ⟨c0, c1⟩ := h.cells; have HV := hidT h; have hv := lt_of_heap h.blk; have hm := h.mlt; have hbv := h.dev.lt; have hb0 := hidT (below1 w (.cells #[.bool false, .int .i64 0, .int .i64 0, .slice none 0 0, .slice none 0 0, .int .i64 0, .slice none 0 0, .int .i64 0] 110)); clear h
  go_enter Tryz.func62, Tryz.ntmps62
  go_wp2_with fail
  refine (end_fault1 b d a r _ HED.out (HV.out.dev.later hb0.out)).mono ?_
  rintro e w1 ⟨a1, rfl, hs1⟩
  have hs1n : ¬ a1.foot b w.heap.size := new_notfoot hs1 HV.out.dev.footLt
  have HO1 : Hid (∀ r ∈ d.busy, r.Off (fun k => k = w.heap.size)) := fun r hr => by rw [HED.out] at hr; cases hr
  have HOQ := HO1
  have HOB : Hid (∀ r ∈ d.busy, r.Off (fun k => k = bm)) := fun r hr => by rw [HED.out] at hr; cases hr
  have HNF : Hid (¬ vfoot b bm a1 w.heap.size) := fun e => e.elim (fun e => by omega) hs1n
  have HOF : Hid (r.Off (a1.foot b)) := ⟨fun he ad ha hk => (hs1.foot _ hk).elim ((HV.out.dev.reqs r (List.mem_singleton.2 rfl)).2.1 he ad ha) (fun h' => by have := strs_lt HA0.out.data he ha; rw [World.size_alloc] at h'; omega), fun he ad ha hk => (hs1.foot _ hk).elim ((HV.out.dev.reqs r (List.mem_singleton.2 rfl)).2.2 he ad ha) (fun h' => by have := ints_lt HA0.out.tags he ha; rw [World.size_alloc] at h'; omega)⟩
  have HS1 := hidT (HV.out.step ((DStep.same HV.out.dev hb0.out).trans hs1)); have HZ1 := hidT ((zero_new w 110).only hs1.only (fun e => by have := HV.out.dev.footLt _ e; omega)); have HN1 : Hid (¬ vfoot b bm a1 w.heap.size) := (fun e => e.elim (fun e => by omega) (fun e => (HS1.out.foot _ (Or.inr e)).elim (fun e => e.elim (fun e => by omega) (fun e => by have := HV.out.dev.footLt _ e; omega)) (fun _ => hs1n e))); have HA1 := hidT ((HA0.out.later hb0.out).frame (HV.out.dev.reqs r (List.mem_singleton.2 rfl)).2 hs1.only); clear hs1 hs1n
  go_wp2_with (refine wpList_store_res rfl (.tmp 6) (.tmp 18) rfl w.heap.size r none 0 0 8 rfl rfl (zero_there HZ1.out) (fun wK => VStep v b bm { d with busy := [r] } a n D d a1 n D w wK ∧ ResBoxF wK w.heap.size r none 0 0 8 ∧ r.At wK) ⟨vset8 HS1.out w.heap.size (Nat.le_refl _) HN1.out (by omega) HO1.out _ _ _ _ _ _ _ _, set8_res (zero_there HZ1.out) HZ1.out.2.2, HA1.out.frame (off_of HA0.out (fun k e => by omega)) (set8_only w1 w.heap.size _ _ _ _ _ _ _ _)⟩ ?_; rintro wK ⟨hsK, hrK, haK⟩; have HSK := hidT hsK; have HRK := hidT hrK; have HAK := hidT haK; obtain ⟨⟨y0, y1, y2, y3, y4, y5, y6, y7⟩, -, yl⟩ := hrK; clear hsK haK HS1 HN1 HO1 HZ1 HA1)
  refine (first_tag r tg HTG.out _ HAK.out h1).mono ?_
  rintro e w2 ⟨rfl, hb2⟩; have HS2 := hidT (HSK.out.later hb2); have HR2 := hidT (HRK.out.later hb2); have HA2 := hidT (HAK.out.later hb2); clear HSK HRK HAK hb2 y0 y1 y2 y3 y4 y5 y6 y7 yl; obtain ⟨⟨x0, x1, x2, x3, x4, x5, x6, x7⟩, -, xl⟩ := id HR2.out; obtain ⟨p0, p1⟩ := HS2.out.at'.cells; have hmp := HS2.out.at'.map; have hvl := lt_of_heap HS2.out.at'.blk
  obtain ⟨c', hrun, hat, -⟩ := hmp.lookup_int keyI Tryz.underlying106 Tryz.underlying3 (zeroI _) hkey
  obtain rfl : c' = c := by rw [HC.out] at hat; injection hat with e; injection e with _ e; exact e.symm
  have HAT := hidT hat
  clear hat
  go_wp2_with (at_mapUpdate; refine wpList_mapUpdate_own _ rfl _ _ _ 106 rfl 3 3 keyI Tryz.underlying106 _ bm n D rfl hmp (by unfold maxLen; omega) _ _ _ rfl rfl hkey _ [] (plainElem_int Tryz.underlying3 (WalkArith.wf_i64 (by omega))) ?_; intro w3 hown3 hgrow3; have HS3 := hidT (HS2.out.trans (HS2.out.at'.turn (only_of_grown hgrow3) hown3 HOB.out)); have HR3 := hidT (HR2.out.only (only_of_grown hgrow3) (by omega)); have HA3 := hidT (HA2.out.frame HOR.out (only_of_grown hgrow3)); clear hown3 hgrow3 hmp HS2 HR2 HA2 x0 x1 x2 x3 x4 x5 x6 x7 xl p0 p1 hvl)
  have hd3 : Below w3.heap.size w3 w3.drew := (Below.refl _ _).drew
  have HS3d := hidT (HS3.out.later hd3)
  have HR3d := hidT (HR3.out.later hd3)
  have HA3d := hidT (HA3.out.later hd3)
  have HS : Hid (w3.drew.cell? ⟨v, 0, none⟩ = some (.pointer (some ⟨b, 0, none⟩))) := HS3d.out.at'.cells.1
  have eg : ∀ args w, Sem.run Tryz.prog (callFunc 80 args) w = .ok (.enter 80 args) w := by intro args w; go_simp
  clear HS3 HR3 HA3 hd3
  (try simp only [Act.put, List.getElem_toArray, List.getElem_cons_succ, List.getElem_cons_zero, List.setIfInBounds_toArray, List.set_cons_zero, List.set_cons_succ])
  refine region_till (S := fun wz => wz.cell? ⟨v, 0, none⟩ = some (.pointer (some ⟨b, 0, none⟩))) (d := 10) (by kernel_rfl) ?_
  generalize w3.drew = w3 at *
  refine till_take (i := 0) (v := ?_) rfl (by kernel_rfl) (by kernel_rfl) (by kernel_rfl) (by kernel_rfl) (fun _ _ _ h => h) (Or.inl ⟨by rfl, ?_⟩) HS.out ?_; rotate_left; (focus (intro w0 s6; go_simp; (try with_reducible rfl))); (try simp only [Act.put, List.getElem_toArray, List.getElem_cons_succ, List.getElem_cons_zero, List.setIfInBounds_toArray, List.set_cons_zero, List.set_cons_succ])
  refine till_take (i := 1) (v := ?_) rfl (by kernel_rfl) (by kernel_rfl) (by kernel_rfl) (by kernel_rfl) (fun _ _ _ h => h) (Or.inl ⟨by rfl, ?_⟩) HS.out ?_; rotate_left; (focus (intro w0 s6; go_simp; (try with_reducible rfl))); (try simp only [Act.put, List.getElem_toArray, List.getElem_cons_succ, List.getElem_cons_zero, List.setIfInBounds_toArray, List.set_cons_zero, List.set_cons_succ])
  refine till_take (i := 2) (v := ?_) rfl (by kernel_rfl) (by kernel_rfl) (by kernel_rfl) (by kernel_rfl) (fun _ _ _ h => h) (Or.inl ⟨by rfl, ?_⟩) HS.out ?_; rotate_left; (focus (intro w0 s6; go_simp; (try with_reducible rfl))); (try simp only [Act.put, List.getElem_toArray, List.getElem_cons_succ, List.getElem_cons_zero, List.setIfInBounds_toArray, List.set_cons_zero, List.set_cons_succ])
  refine till_take (i := 3) (v := ?_) rfl (by kernel_rfl) (by kernel_rfl) (by kernel_rfl) (by kernel_rfl) (fun _ _ _ h => h) (Or.inl ⟨by rfl, ?_⟩) HS.out ?_; rotate_left; (focus (intro w0 s6; go_simp; (try with_reducible rfl))); (try simp only [Act.put, List.getElem_toArray, List.getElem_cons_succ, List.getElem_cons_zero, List.setIfInBounds_toArray, List.set_cons_zero, List.set_cons_succ])
  refine till_take (i := 4) (v := ?_) rfl (by kernel_rfl) (by kernel_rfl) (by kernel_rfl) (by kernel_rfl) (fun _ _ _ h => h) (Or.inl ⟨by rfl, ?_⟩) HS.out ?_; rotate_left; (focus (intro w0 s6; go_simp; (try with_reducible rfl))); (try simp only [Act.put, List.getElem_toArray, List.getElem_cons_succ, List.getElem_cons_zero, List.setIfInBounds_toArray, List.set_cons_zero, List.set_cons_succ])
  refine till_take (i := 5) (v := ?_) rfl (by kernel_rfl) (by kernel_rfl) (by kernel_rfl) (by kernel_rfl) (fun _ _ _ h => h) (Or.inl ⟨by rfl, ?_⟩) HS.out ?_; rotate_left; (focus (intro w0 s6; go_simp; (try with_reducible rfl))); (try simp only [Act.put, List.getElem_toArray, List.getElem_cons_succ, List.getElem_cons_zero, List.setIfInBounds_toArray, List.set_cons_zero, List.set_cons_succ])
  obtain ⟨⟨x0, x1, x2, x3, x4, x5, x6, x7⟩, -, xl⟩ := id HR3d.out
  refine till_one (i := 6) rfl (by kernel_rfl) ?_
  intro K hK
  go_simp
  refine hK _ _ (fun _ => HS.out) ?_
  (try simp only [Act.put, List.getElem_toArray, List.getElem_cons_succ, List.getElem_cons_zero, List.setIfInBounds_toArray, List.set_cons_zero, List.set_cons_succ])
  clear hK
  refine till_one (i := 7) rfl (by kernel_rfl) ?_
  intro K hK
  refine step_call2 rfl 80 51 53 27 44 rfl eg (.pointer (some ⟨b, 0, none⟩)) r.val rfl rfl .nilIface (fun w' => ∃ a', DStep b d a1 { d with busy := [r] } a' w3 w') ((start_ok b d a1 r _ HS3d.out.at'.dev (by rw [HED.out]; simp) HA3d.out HOF.out).mono ?_) ?_
  · rintro e w4 ⟨a', he, hs⟩
    rw [HED.out] at hs
    exact ⟨he, a', hs⟩
  rintro w4 ⟨a4, hs4⟩
  have hq4 : ¬ vfoot b bm a4 w.heap.size := by
    rintro (e | e)
    · omega
    · rcases hs4.foot _ e with e | e
      · exact HNF.out (Or.inr e)
      · omega
  have HS4 := hidT (HS3d.out.trans (HS3d.out.at'.step hs4))
  have HR4 := hidT (HR3d.out.only hs4.only (fun e => HNF.out (Or.inr e)))
  have HQ4 := hidT hq4
  refine hK _ _ (fun _ => HS4.out.at'.cells.1) ?_
  (try simp only [Act.put, List.getElem_toArray, List.getElem_cons_succ, List.getElem_cons_zero, List.setIfInBounds_toArray, List.set_cons_zero, List.set_cons_succ])
  clear hK hs4 hq4 x0 x1 x2 x3 x4 x5 x6 x7 xl HS3d HR3d HA3d HS
  refine till_one (i := 8) rfl (by kernel_rfl) ?_
  intro K hK
  refine step_store_res rfl (.tmp 6) (.tmp 47) rfl w.heap.size rq0 none 0 0 0 rfl rfl HR4.out.2.1 ?_
  have HS5 := hidT (vset8 HS4.out w.heap.size (Nat.le_refl _) HQ4.out (by omega) (fun q hq => by rw [List.mem_singleton.1 hq]; exact off_of HA0.out (fun k e => by omega)) (.bool rq0.wr) (.int .i64 rq0.f) (.int .i64 rq0.m) (.slice rq0.da rq0.data.length rq0.dc) (.slice rq0.ta rq0.tags.length rq0.tc) (.int .i64 rq0.born) (.slice none 0 0) (.int .i64 0))
  have HR5 := hidT (set8_res (r := rq0) (xa := none) (n := 0) (xc := 0) (er := 0) HR4.out.2.1 HR4.out.2.2)
  refine hK _ _ (fun _ => HS5.out.at'.cells.1) ?_
  (try simp only [Act.put, List.getElem_toArray, List.getElem_cons_succ, List.getElem_cons_zero, List.setIfInBounds_toArray, List.set_cons_zero, List.set_cons_succ])
  clear hK
  generalize set8 w4 w.heap.size (.bool rq0.wr) (.int .i64 rq0.f) (.int .i64 rq0.m) (.slice rq0.da rq0.data.length rq0.dc) (.slice rq0.ta rq0.tags.length rq0.tc) (.int .i64 rq0.born) (.slice none 0 0) (.int .i64 0) = w5 at *
  clear HS4 HR4 HQ4
  refine till_one (i := 9) rfl (by kernel_rfl) ?_; intro K hK; go_simp; refine hK _ _ (fun _ => HS5.out.at'.cells.1) ?_; (try simp only [Act.put, List.getElem_toArray, List.getElem_cons_succ, List.getElem_cons_zero, List.setIfInBounds_toArray, List.set_cons_zero, List.set_cons_succ]); clear hK
  refine till_one (i := 10) rfl (by kernel_rfl) ?_; intro K hK; go_simp; refine hK _ _ (fun _ => HS5.out.at'.cells.1) ?_; (try simp only [Act.put, List.getElem_toArray, List.getElem_cons_succ, List.getElem_cons_zero, List.setIfInBounds_toArray, List.set_cons_zero, List.set_cons_succ]); clear hK
  refine till_done (by kernel_rfl) ?_ _
  obtain ⟨⟨k0, k1, k2, k3, k4, k5, k6, k7⟩, -, -⟩ := id HR5.out
  go_wp2
  exact bodyPost_ret (v := .tuple #[noRes, .bool false, .nilIface]) (by simp [results, Tryz.results62, go_sem, k0, k1, k2, k3, k4, k5, k6, k7, rq0]) rfl ⟨a4, rfl, HS5.out⟩
end Go.Proofs.YtgjkdhedkbkagaaGreat
/- A driver of a device, whatever requests it has: End of none; what its map says. -/
namespace Go.Proofs.YtgjkdhedkbkagaaGreat
open Go.RowKit Go.BigFrame Go.Maps
set_option maxRecDepth 100000
attribute [local go_sem] Later.cell Later.frozen

/-- What a map of numbers says of each. -/
def MapIs (D : DataW Unit) (f : Int → Int) : Prop := ∀ t, D.atKey (.int .i64 t) (.lit (.int .i64 0)) = .lit (.int .i64 (f t))
theorem mapIs_new : MapIs (.map []) (fun _ => 0) := fun _ => rfl
theorem MapIs.put {D : DataW Unit} {f : Int → Int} (h : MapIs D f) (hD : IsMap D) (t c : Int) : MapIs (D.put (.int .i64 t) (.lit (.int .i64 c))) (fun x => if x = t then c else f x) := fun x => by
  by_cases e : x = t
  · subst e; rw [atKey_put_same hD (by trivial)]; simp
  · rw [atKey_put_other (by simpa using e)]; simp [e, h x]
theorem MapIs.del {D : DataW Unit} {f : Int → Int} (h : MapIs D f) (t : Int) : MapIs (D.del (.int .i64 t)) (fun x => if x = t then 0 else f x) := fun x => by
  by_cases e : x = t
  · subst e; rw [atKey_del_same]; simp
  · rw [atKey_del_other (by simpa using e)]; simp [e, h x]
theorem end_faultG (b : Nat) (d : Dl) (a : An) (l : List Rq) (k : Nat) (r : Rq) (hb : d.busy = l) (hk : l[k]? = some r) (w : World) (h : DevAt b d a w) :
    Calls Tryz.prog 82 #[.pointer (some ⟨b, 0, none⟩), .int .i64 k, .bool true] w fun e w' => ∃ a', e = .returned (.tuple #[resV r none 0 0 8, .nilIface]) ∧ DStep b d a { d with busy := d.busy.eraseIdx k } a' w w' := by
  subst hb
  obtain ⟨hk', rfl⟩ := List.getElem?_eq_some_iff.1 hk
  exact end_fault b d a k hk' w h
set_option maxRecDepth 100000 in
set_option maxHeartbeats 1000000 in
theorem vg_none (v b bm : Nat) (d : Dl) (a : An) (n : Nat) (D : DataW Unit) (i : Int) (fl : Bool) (w : World) (h : VAt v b bm d a n D w) (hi : i < 0 ∨ (d.busy.length : Int) ≤ i) :
    Calls Tryz.prog 62 #[.pointer (some ⟨v, 0, none⟩), .int .i64 i, .bool fl] w fun e w' => e = .returned (.tuple #[noRes, .bool false, .iface 89 (.int .i64 5)]) ∧ Below w.heap.size w w' := by
  obtain ⟨c0, c1⟩ := h.cells; have HV := hidT h; have hv := lt_of_heap h.blk; have hm := h.mlt; have hbv := h.dev.lt; have hb0 := hidT (below1 w (.cells #[.bool false, .int .i64 0, .int .i64 0, .slice none 0 0, .slice none 0 0, .int .i64 0, .slice none 0 0, .int .i64 0] 110)); clear h
  have HI := hidT hi
  clear hi
  go_enter Tryz.func62, Tryz.ntmps62
  go_wp2_with fail
  refine (end_none b d a i fl _ (HV.out.dev.later hb0.out) HI.out).mono ?_
  rintro e w1 ⟨rfl, hb1⟩
  have hz1 := (zero_new w 110).only (F := fun _ => False) (Only.of_below hb1) (fun e => e)
  have hB1 := hb0.out.trans (hb1.mono hb0.out.size)
  have HZ1 := hidT hz1
  have HB1 := hidT hB1
  clear hb1 hB1 hz1
  go_wp2_with (first
    | (refine wpList_store_res rfl (.tmp 6) (.tmp 18) rfl w.heap.size rq0 none 0 0 0 rfl rfl (zero_there HZ1.out) (fun wK => Below w.heap.size w wK ∧ ResBoxF wK w.heap.size rq0 none 0 0 0) ⟨HB1.out.trans ((set8_only w1 w.heap.size _ _ _ _ _ _ _ _).below HB1.out.size (fun i e => by omega)), set8_res (zero_there HZ1.out) HZ1.out.2.2⟩ ?_; rintro w2 ⟨hb2, hr2⟩; have HB2 := hidT hb2; have HR2 := hidT hr2; clear hb2 hr2 HB1 HZ1)
    | (refine wpList_store_res rfl (.tmp 6) (.tmp 22) rfl w.heap.size rq0 none 0 0 0 rfl rfl HR2.out.2.1 (fun wK => Below w.heap.size w wK ∧ ResBoxF wK w.heap.size rq0 none 0 0 0) ⟨HB2.out.trans ((set8_only w2 w.heap.size _ _ _ _ _ _ _ _).below HB2.out.size (fun i e => by omega)), set8_res HR2.out.2.1 HR2.out.2.2⟩ ?_; rintro w3 ⟨hb3, ⟨z0, z1, z2, z3, z4, z5, z6, z7⟩, -, -⟩; have HB3 := hidT hb3; clear hb3 HB2 HR2))
  exact bodyPost_ret (v := .tuple #[noRes, .bool false, .iface 89 (.int .i64 5)]) (by simp [results, Tryz.results62, go_sem, z0, z1, z2, z3, z4, z5, z6, z7, rq0]) rfl ⟨rfl, HB3.out⟩
/-- What is known of a driver's requests. -/
structure VReq (bm : Nat) (d : Dl) (k : Nat) (r : Rq) (tg : Int) : Prop where
  at' : d.busy[k]? = some r
  tag : r.tags.getD 0 0 = tg
  in' : In64 tg
  some' : 1 ≤ r.tags.length
  off : ∀ q ∈ d.busy, q.Off (fun j => j = bm)
theorem VReq.mem {bm : Nat} {d : Dl} {k : Nat} {r : Rq} {tg : Int} (h : VReq bm d k r tg) : r ∈ d.busy := List.mem_of_getElem? h.at'
set_option maxRecDepth 100000 in
set_option maxHeartbeats 2000000 in
theorem vg_done (v b bm : Nat) (d : Dl) (a : An) (n : Nat) (D : DataW Unit) (k : Nat) (r : Rq) (tg c : Int) (w : World) (h : VAt v b bm d a n D w) (hr : VReq bm d k r tg) (hc : D.atKey (.int .i64 tg) (.lit (.int .i64 0)) = .lit (.int .i64 c)) (hc2 : 2 ≤ c ∧ c ≤ 100) :
    Calls Tryz.prog 62 #[.pointer (some ⟨v, 0, none⟩), .int .i64 k, .bool true] w fun e w' => ∃ a', e = .returned (.tuple #[resV r none 0 0 8, .bool true, .nilIface]) ∧ VStep v b bm d a n D { d with busy := d.busy.eraseIdx k } a' n (D.del (.int .i64 tg)) w w' := by
  have HA0 := hidT (h.dev.reqs r hr.mem).1
  have HMEM := hidT hr.mem
  have HRQ := hidT hr
  have HC := hidT hc
  have hkey : keyOf Tryz.prog 3 (.int .i64 tg) = some (.int .i64 tg) := keyOf_int_mk Tryz.underlying3 (WalkArith.wf_i64 hr.in')
  have h1 := hr.some'
  have hc3 : ¬ c + 1 < 3 := by omega
  obtain ⟨hc4, hc5⟩ := hc2
  clear hc hr
  obtain ⟨c0, c1⟩ := h.cells; have HV := hidT h; have hv := lt_of_heap h.blk; have hm := h.mlt; have hbv := h.dev.lt; have hb0 := hidT (below1 w (.cells #[.bool false, .int .i64 0, .int .i64 0, .slice none 0 0, .slice none 0 0, .int .i64 0, .slice none 0 0, .int .i64 0] 110)); clear h
  go_enter Tryz.func62, Tryz.ntmps62
  go_wp2_with fail
  refine (end_faultG b d a _ k r rfl HRQ.out.at' _ (HV.out.dev.later hb0.out)).mono ?_
  rintro e w1 ⟨a1, rfl, hs1⟩
  have hs1n : ¬ a1.foot b w.heap.size := new_notfoot hs1 HV.out.dev.footLt
  obtain ⟨d1, hd1⟩ : ∃ d1 : Dl, d1 = { d with busy := d.busy.eraseIdx k } := ⟨_, rfl⟩
  have HD1 := hidT hd1
  rw [← hd1] at hs1
  have HO1 : Hid (∀ q ∈ d1.busy, q.Off (fun j => j = w.heap.size)) := fun q hq => by rw [HD1.out] at hq; exact off_of (HV.out.dev.reqs q (List.mem_of_mem_eraseIdx hq)).1 (fun j e => by omega)
  have HOQ := HO1
  have HOB : Hid (∀ q ∈ d1.busy, q.Off (fun j => j = bm)) := fun q hq => by rw [HD1.out] at hq; exact HRQ.out.off q (List.mem_of_mem_eraseIdx hq)
  have HNF : Hid (¬ vfoot b bm a1 w.heap.size) := fun e => e.elim (fun e => by omega) hs1n
  clear hd1
  have HS1 := hidT (HV.out.step ((DStep.same HV.out.dev hb0.out).trans hs1)); have HZ1 := hidT ((zero_new w 110).only hs1.only (fun e => by have := HV.out.dev.footLt _ e; omega)); have HN1 : Hid (¬ vfoot b bm a1 w.heap.size) := (fun e => e.elim (fun e => by omega) (fun e => (HS1.out.foot _ (Or.inr e)).elim (fun e => e.elim (fun e => by omega) (fun e => by have := HV.out.dev.footLt _ e; omega)) (fun _ => hs1n e))); have HA1 := hidT ((HA0.out.later hb0.out).frame (HV.out.dev.reqs r (HMEM.out)).2 hs1.only); clear hs1 hs1n
  go_wp2_with (refine wpList_store_res rfl (.tmp 6) (.tmp 18) rfl w.heap.size r none 0 0 8 rfl rfl (zero_there HZ1.out) (fun wK => VStep v b bm d a n D d1 a1 n D w wK ∧ ResBoxF wK w.heap.size r none 0 0 8 ∧ r.At wK) ⟨vset8 HS1.out w.heap.size (Nat.le_refl _) HN1.out (by omega) HO1.out _ _ _ _ _ _ _ _, set8_res (zero_there HZ1.out) HZ1.out.2.2, HA1.out.frame (off_of HA0.out (fun k e => by omega)) (set8_only w1 w.heap.size _ _ _ _ _ _ _ _)⟩ ?_; rintro wK ⟨hsK, hrK, haK⟩; have HSK := hidT hsK; have HRK := hidT hrK; have HAK := hidT haK; obtain ⟨⟨y0, y1, y2, y3, y4, y5, y6, y7⟩, -, yl⟩ := hrK; clear hsK haK HS1 HN1 HO1 HZ1 HA1)
  refine (first_tag r tg HRQ.out.tag _ HAK.out h1).mono ?_
  rintro e w2 ⟨rfl, hb2⟩; have HS2 := hidT (HSK.out.later hb2); have HR2 := hidT (HRK.out.later hb2); have HA2 := hidT (HAK.out.later hb2); clear HSK HRK HAK hb2 y0 y1 y2 y3 y4 y5 y6 y7 yl; obtain ⟨⟨x0, x1, x2, x3, x4, x5, x6, x7⟩, -, xl⟩ := id HR2.out; obtain ⟨p0, p1⟩ := HS2.out.at'.cells; have hmp := HS2.out.at'.map; have hvl := lt_of_heap HS2.out.at'.blk
  obtain ⟨c', hrun, hat, -⟩ := hmp.lookup_int keyI Tryz.underlying106 Tryz.underlying3 (zeroI _) hkey
  obtain rfl : c' = c := by rw [HC.out] at hat; injection hat with e; injection e with _ e; exact e.symm
  have HAT := hidT hat
  clear hat
  go_wp2_with (first | (at_delete; refine wpList_delete_own _ rfl _ _ 106 3 rfl 3 keyI Tryz.underlying106 _ bm n D rfl hmp _ _ rfl hkey ?_; intro w3 hown3 hturn3; have HS3 := hidT (HS2.out.trans (HS2.out.at'.turn (only_of_grown hturn3.grown) hown3 HOB.out)); have HR3 := hidT (HR2.out.only (only_of_grown hturn3.grown) (by omega)); obtain ⟨⟨m0, m1, m2, m3, m4, m5, m6, m7⟩, -, ml⟩ := id HR3.out; have HN3 : Hid (¬ vfoot b bm a1 w.heap.size) := HNF.out; clear hown3 hturn3 hmp HS2 HR2 HA2 x0 x1 x2 x3 x4 x5 x6 x7 xl p0 p1 hvl) | (refine wpList_store_res rfl (.tmp 6) (.tmp 60) rfl w.heap.size r none 0 0 8 rfl rfl HR3.out.2.1 (fun wK => VStep v b bm d a n D d1 a1 n (D.del (.int .i64 tg)) w wK ∧ ResBoxF wK w.heap.size r none 0 0 8) ⟨vset8 HS3.out w.heap.size (Nat.le_refl _) HN3.out (by omega) HOQ.out _ _ _ _ _ _ _ _, set8_res HR3.out.2.1 HR3.out.2.2⟩ ?_; rintro w4 ⟨hs4, ⟨k0, k1, k2, k3, k4, k5, k6, k7⟩, -, -⟩; have HS4 := hidT hs4; clear hs4 HS3 HR3 HN3 m0 m1 m2 m3 m4 m5 m6 m7 ml))
  refine bodyPost_ret (v := .tuple #[resV r none 0 0 8, .bool true, .nilIface]) (by simp [results, Tryz.results62, go_sem, k0, k1, k2, k3, k4, k5, k6, k7]) rfl ⟨a1, rfl, ?_⟩
  rw [← HD1.out]
  exact HS4.out
end Go.Proofs.YtgjkdhedkbkagaaGreat
