/- A driver of a device: a request ends, well or for good. -/
import Derived.Test.YtpmjgofjdejeeadDrv2
namespace Go.Proofs.Ytpmjgofjdejeead
open Go.RowKit Go.BigFrame Go.Maps
attribute [local go_sem] Later.cell Later.frozen

theorem first_tag (r : Rq) (tg : Int) (ht : r.tags.getD 0 0 = tg) (w : World) (hr : r.At w) (h1 : 1 ≤ r.tags.length) : Calls Try.prog 32 #[r.val] w fun e w' => e = .returned (.int .i64 tg) ∧ Below w.heap.size w w' := by
  rw [← ht]; exact first_any r w hr h1
theorem end_fault1 (b : Nat) (d : Dl) (a : An) (r : Rq) (w : World) (hd : d.busy = []) (h : DevAt b { d with busy := [r] } a w) :
    Calls Try.prog 31 #[.pointer (some ⟨b, 0, none⟩), .int .i64 0, .bool true] w fun e w' => ∃ a', e = .returned (.tuple #[resV r none 0 0 8, .nilIface]) ∧ DStep b { d with busy := [r] } a d a' w w' := by
  refine (end_fault b { d with busy := [r] } a 0 (by simp) w h).mono ?_
  rintro e w' ⟨a', he, hs⟩
  refine ⟨a', he, ?_⟩
  have : ({ ({ d with busy := [r] } : Dl) with busy := ({ d with busy := [r] } : Dl).busy.eraseIdx 0 } : Dl) = d := by cases d; simp only at hd; subst hd; rfl
  rw [this] at hs
  exact hs
theorem new_notfoot {b : Nat} {d d' : Dl} {a a' : An} {w w' : World} {o : Obj} (hs : DStep b d a d' a' (w.alloc o) w') (hl : ∀ k, a.foot b k → k < w.heap.size) : ¬ a'.foot b w.heap.size := by
  intro e
  rcases hs.foot _ e with e | e
  · have := hl _ e; omega
  · rw [World.size_alloc] at e; omega
set_option maxRecDepth 100000 in
set_option maxHeartbeats 2000000 in
theorem vend_done (v b bm : Nat) (d : Dl) (a : An) (n : Nat) (D : DataW Unit) (r : Rq) (tg c : Int) (w : World) (h : VAt v b bm { d with busy := [r] } a n D w) (hd : d.busy = []) (ht : r.tags.getD 0 0 = tg) (htw : In64 tg) (h1 : 1 ≤ r.tags.length) (hc : D.atKey (.int .i64 tg) (.lit (.int .i64 0)) = .lit (.int .i64 c)) (hc2 : 2 ≤ c ∧ c ≤ 100) :
    Calls Try.prog 13 #[.pointer (some ⟨v, 0, none⟩), .int .i64 0, .bool true] w fun e w' => ∃ a', e = .returned (.tuple #[resV r none 0 0 8, .bool true, .nilIface]) ∧ VStep v b bm { d with busy := [r] } a n D d a' n (D.del (.int .i64 tg)) w w' := by
  have HA0 := hidT (h.dev.reqs r (List.mem_singleton.2 rfl)).1
  have HTG := hidT ht
  have HED := hidT hd
  have HC := hidT hc
  have hkey : keyOf Try.prog 3 (.int .i64 tg) = some (.int .i64 tg) := keyOf_int_mk Try.underlying3 (WalkArith.wf_i64 htw)
  have hc3 : ¬ c + 1 < 3 := by omega
  obtain ⟨hc4, hc5⟩ := hc2
  clear ht hd hc htw
  obtain ⟨c0, c1⟩ := h.cells; have HV := hidT h; have hv := lt_of_heap h.blk; have hm := h.mlt; have hbv := h.dev.lt; have hb0 := hidT (below1 w (.cells #[.bool false, .int .i64 0, .int .i64 0, .slice none 0 0, .slice none 0 0, .int .i64 0, .slice none 0 0, .int .i64 0] 39)); clear h
  go_enter Try.func13, Try.ntmps13
  go_wp2_with fail
  refine (end_fault1 b d a r _ HED.out (HV.out.dev.later hb0.out)).mono ?_
  rintro e w1 ⟨a1, rfl, hs1⟩
  have hs1n : ¬ a1.foot b w.heap.size := new_notfoot hs1 HV.out.dev.footLt
  have HO1 : Hid (∀ r ∈ d.busy, r.Off (fun k => k = w.heap.size)) := fun r hr => by rw [HED.out] at hr; cases hr
  have HOQ := HO1
  have HOB : Hid (∀ r ∈ d.busy, r.Off (fun k => k = bm)) := fun r hr => by rw [HED.out] at hr; cases hr
  have HNF : Hid (¬ vfoot b bm a1 w.heap.size) := fun e => e.elim (fun e => by omega) hs1n
  have HS1 := hidT (HV.out.step ((DStep.same HV.out.dev hb0.out).trans hs1)); have HZ1 := hidT ((zero_new w 39).only hs1.only (fun e => by have := HV.out.dev.footLt _ e; omega)); have HN1 : Hid (¬ vfoot b bm a1 w.heap.size) := (fun e => e.elim (fun e => by omega) (fun e => (HS1.out.foot _ (Or.inr e)).elim (fun e => e.elim (fun e => by omega) (fun e => by have := HV.out.dev.footLt _ e; omega)) (fun _ => hs1n e))); have HA1 := hidT ((HA0.out.later hb0.out).frame (HV.out.dev.reqs r (List.mem_singleton.2 rfl)).2 hs1.only); clear hs1 hs1n
  go_wp2_with (refine wpList_store_res rfl (.tmp 6) (.tmp 18) rfl w.heap.size r none 0 0 8 rfl rfl (zero_there HZ1.out) (fun wK => VStep v b bm { d with busy := [r] } a n D d a1 n D w wK ∧ ResBoxF wK w.heap.size r none 0 0 8 ∧ r.At wK) ⟨vset8 HS1.out w.heap.size (Nat.le_refl _) HN1.out (by omega) HO1.out _ _ _ _ _ _ _ _, set8_res (zero_there HZ1.out) HZ1.out.2.2, HA1.out.frame (off_of HA0.out (fun k e => by omega)) (set8_only w1 w.heap.size _ _ _ _ _ _ _ _)⟩ ?_; rintro wK ⟨hsK, hrK, haK⟩; have HSK := hidT hsK; have HRK := hidT hrK; have HAK := hidT haK; obtain ⟨⟨y0, y1, y2, y3, y4, y5, y6, y7⟩, -, yl⟩ := hrK; clear hsK haK HS1 HN1 HO1 HZ1 HA1)
  refine (first_tag r tg HTG.out _ HAK.out h1).mono ?_
  rintro e w2 ⟨rfl, hb2⟩; have HS2 := hidT (HSK.out.later hb2); have HR2 := hidT (HRK.out.later hb2); have HA2 := hidT (HAK.out.later hb2); clear HSK HRK HAK hb2 y0 y1 y2 y3 y4 y5 y6 y7 yl; obtain ⟨⟨x0, x1, x2, x3, x4, x5, x6, x7⟩, -, xl⟩ := id HR2.out; obtain ⟨p0, p1⟩ := HS2.out.at'.cells; have hmp := HS2.out.at'.map; have hvl := lt_of_heap HS2.out.at'.blk
  obtain ⟨c', hrun, hat, -⟩ := hmp.lookup_int keyI Try.underlying61 Try.underlying3 (zeroI _) hkey
  obtain rfl : c' = c := by rw [HC.out] at hat; injection hat with e; injection e with _ e; exact e.symm
  have HAT := hidT hat
  clear hat
  go_wp2_with (first | (at_delete; refine wpList_delete_own _ rfl _ _ 61 3 rfl 3 keyI Try.underlying61 _ bm n D rfl hmp _ _ rfl hkey ?_; intro w3 hown3 hturn3; have HS3 := hidT (HS2.out.trans (HS2.out.at'.turn (only_of_grown hturn3.grown) hown3 HOB.out)); have HR3 := hidT (HR2.out.only (only_of_grown hturn3.grown) (by omega)); obtain ⟨⟨m0, m1, m2, m3, m4, m5, m6, m7⟩, -, ml⟩ := id HR3.out; have HN3 : Hid (¬ vfoot b bm a1 w.heap.size) := HNF.out; clear hown3 hturn3 hmp HS2 HR2 HA2 x0 x1 x2 x3 x4 x5 x6 x7 xl p0 p1 hvl) | (refine wpList_store_res rfl (.tmp 6) (.tmp 60) rfl w.heap.size r none 0 0 8 rfl rfl HR3.out.2.1 (fun wK => VStep v b bm { d with busy := [r] } a n D d a1 n (D.del (.int .i64 tg)) w wK ∧ ResBoxF wK w.heap.size r none 0 0 8) ⟨vset8 HS3.out w.heap.size (Nat.le_refl _) HN3.out (by omega) HOQ.out _ _ _ _ _ _ _ _, set8_res HR3.out.2.1 HR3.out.2.2⟩ ?_; rintro w4 ⟨hs4, ⟨k0, k1, k2, k3, k4, k5, k6, k7⟩, -, -⟩; have HS4 := hidT hs4; clear hs4 HS3 HR3 HN3 m0 m1 m2 m3 m4 m5 m6 m7 ml))
  exact bodyPost_ret (v := .tuple #[resV r none 0 0 8, .bool true, .nilIface]) (by simp [results, Try.results13, go_sem, k0, k1, k2, k3, k4, k5, k6, k7]) rfl ⟨a1, rfl, HS4.out⟩
set_option maxRecDepth 100000 in
set_option maxHeartbeats 2000000 in
theorem vend_ok (v b bm : Nat) (d : Dl) (a : An) (n : Nat) (D : DataW Unit) (r : Rq) (tg : Int) (w : World) (h : VAt v b bm { d with busy := [r] } a n D w) (hd : d.busy = []) (ht : r.tags.getD 0 0 = tg) (htw : In64 tg) (h1 : 1 ≤ r.tags.length) (gr : Good r) :
    Calls Try.prog 13 #[.pointer (some ⟨v, 0, none⟩), .int .i64 0, .bool false] w fun e w' => ∃ a' xa xc m, e = .returned (.tuple #[resV r xa m xc 0, .bool true, .nilIface]) ∧ VStep v b bm { d with busy := [r] } a n D (d.did r) a' n (D.del (.int .i64 tg)) w w' := by
  have HA0 := hidT (h.dev.reqs r (List.mem_singleton.2 rfl)).1
  have HTG := hidT ht
  have HED := hidT hd
  have HG := hidT gr
  have hkey : keyOf Try.prog 3 (.int .i64 tg) = some (.int .i64 tg) := keyOf_int_mk Try.underlying3 (WalkArith.wf_i64 htw)
  clear ht hd gr htw
  obtain ⟨c0, c1⟩ := h.cells; have HV := hidT h; have hv := lt_of_heap h.blk; have hm := h.mlt; have hbv := h.dev.lt; have hb0 := hidT (below1 w (.cells #[.bool false, .int .i64 0, .int .i64 0, .slice none 0 0, .slice none 0 0, .int .i64 0, .slice none 0 0, .int .i64 0] 39)); clear h
  go_enter Try.func13, Try.ntmps13
  go_wp2_with fail
  refine (end_only b d r a _ HED.out (HV.out.dev.later hb0.out) HG.out).mono ?_
  rintro e w1 ⟨a1, xa, xc, xs, rfl, -, -, -, hs1⟩
  generalize xs.length = xm at *
  have hs1n : ¬ a1.foot b w.heap.size := new_notfoot hs1 HV.out.dev.footLt
  have HO1 : Hid (∀ q ∈ (d.did r).busy, q.Off (fun k => k = w.heap.size)) := fun q hr => by rw [Dl.did_busy, HED.out] at hr; cases hr
  have HOQ := HO1
  have HOB : Hid (∀ q ∈ (d.did r).busy, q.Off (fun k => k = bm)) := fun q hr => by rw [Dl.did_busy, HED.out] at hr; cases hr
  have HNF : Hid (¬ vfoot b bm a1 w.heap.size) := fun e => e.elim (fun e => by omega) hs1n
  have HS1 := hidT (HV.out.step ((DStep.same HV.out.dev hb0.out).trans hs1)); have HZ1 := hidT ((zero_new w 39).only hs1.only (fun e => by have := HV.out.dev.footLt _ e; omega)); have HN1 : Hid (¬ vfoot b bm a1 w.heap.size) := (fun e => e.elim (fun e => by omega) (fun e => (HS1.out.foot _ (Or.inr e)).elim (fun e => e.elim (fun e => by omega) (fun e => by have := HV.out.dev.footLt _ e; omega)) (fun _ => hs1n e))); have HA1 := hidT ((HA0.out.later hb0.out).frame (HV.out.dev.reqs r (List.mem_singleton.2 rfl)).2 hs1.only); clear hs1 hs1n
  go_wp2_with (refine wpList_store_res rfl (.tmp 6) (.tmp 18) rfl w.heap.size r xa xm xc 0 rfl rfl (zero_there HZ1.out) (fun wK => VStep v b bm { d with busy := [r] } a n D (d.did r) a1 n D w wK ∧ ResBoxF wK w.heap.size r xa xm xc 0 ∧ r.At wK) ⟨vset8 HS1.out w.heap.size (Nat.le_refl _) HN1.out (by omega) HO1.out _ _ _ _ _ _ _ _, set8_res (zero_there HZ1.out) HZ1.out.2.2, HA1.out.frame (off_of HA0.out (fun k e => by omega)) (set8_only w1 w.heap.size _ _ _ _ _ _ _ _)⟩ ?_; rintro wK ⟨hsK, hrK, haK⟩; have HSK := hidT hsK; have HRK := hidT hrK; have HAK := hidT haK; obtain ⟨⟨y0, y1, y2, y3, y4, y5, y6, y7⟩, -, yl⟩ := hrK; clear hsK haK HS1 HN1 HO1 HZ1 HA1)
  refine (first_tag r tg HTG.out _ HAK.out h1).mono ?_
  rintro e w2 ⟨rfl, hb2⟩; have HS2 := hidT (HSK.out.later hb2); have HR2 := hidT (HRK.out.later hb2); have HA2 := hidT (HAK.out.later hb2); clear HSK HRK HAK hb2 y0 y1 y2 y3 y4 y5 y6 y7 yl; obtain ⟨⟨x0, x1, x2, x3, x4, x5, x6, x7⟩, -, xl⟩ := id HR2.out; obtain ⟨p0, p1⟩ := HS2.out.at'.cells; have hmp := HS2.out.at'.map; have hvl := lt_of_heap HS2.out.at'.blk
  go_wp2_with (first | (at_delete; refine wpList_delete_own _ rfl _ _ 61 3 rfl 3 keyI Try.underlying61 _ bm n D rfl hmp _ _ rfl hkey ?_; intro w3 hown3 hturn3; have HS3 := hidT (HS2.out.trans (HS2.out.at'.turn (only_of_grown hturn3.grown) hown3 HOB.out)); have HR3 := hidT (HR2.out.only (only_of_grown hturn3.grown) (by omega)); obtain ⟨⟨m0, m1, m2, m3, m4, m5, m6, m7⟩, -, ml⟩ := id HR3.out; have HN3 : Hid (¬ vfoot b bm a1 w.heap.size) := HNF.out; clear hown3 hturn3 hmp HS2 HR2 HA2 x0 x1 x2 x3 x4 x5 x6 x7 xl p0 p1 hvl) | (refine wpList_store_res rfl (.tmp 6) (.tmp 60) rfl w.heap.size r xa xm xc 0 rfl rfl HR3.out.2.1 (fun wK => VStep v b bm { d with busy := [r] } a n D (d.did r) a1 n (D.del (.int .i64 tg)) w wK ∧ ResBoxF wK w.heap.size r xa xm xc 0) ⟨vset8 HS3.out w.heap.size (Nat.le_refl _) HN3.out (by omega) HOQ.out _ _ _ _ _ _ _ _, set8_res HR3.out.2.1 HR3.out.2.2⟩ ?_; rintro w4 ⟨hs4, ⟨k0, k1, k2, k3, k4, k5, k6, k7⟩, -, -⟩; have HS4 := hidT hs4; clear hs4 HS3 HR3 HN3 m0 m1 m2 m3 m4 m5 m6 m7 ml))
  exact bodyPost_ret (v := .tuple #[resV r xa xm xc 0, .bool true, .nilIface]) (by simp [results, Try.results13, go_sem, k0, k1, k2, k3, k4, k5, k6, k7]) rfl ⟨a1, xa, xc, xm, rfl, HS4.out⟩
end Go.Proofs.Ytpmjgofjdejeead
