/- A driver of a device, whatever requests it has: one ends well, or is tried again. -/
import Derived.Test.YtgjkdhedkbkagaaGreatJ25
import Derived.Test.YtgjkdhedkbkagaaGreatJ23
namespace Go.Proofs.YtgjkdhedkbkagaaGreat
open Go.RowKit Go.BigFrame Go.Maps
set_option maxRecDepth 100000
attribute [local go_sem] Later.cell Later.frozen

set_option maxRecDepth 100000 in
set_option maxHeartbeats 2000000 in
theorem vg_ok (v b bm : Nat) (d : Dl) (a : An) (n : Nat) (D : DataW Unit) (k : Nat) (r : Rq) (tg : Int) (w : World) (h : VAt v b bm d a n D w) (hr : VReq bm d k r tg) (gr : Good r) :
    Calls Tryz.prog 62 #[.pointer (some ⟨v, 0, none⟩), .int .i64 k, .bool false] w fun e w' => ∃ a' xa xc xs, e = .returned (.tuple #[resV r xa (List.length xs) xc 0, .bool true, .nilIface]) ∧ Hid (xs = didRead d r) ∧ StrsAt w' xa xs ∧ (∀ ad, xa = some ad → w.heap.size ≤ ad.block ∧ ¬ vfoot b bm a' ad.block) ∧ VStep v b bm d a n D (({ d with busy := d.busy.eraseIdx k } : Dl).did r) a' n (D.del (.int .i64 tg)) w w' := by
  have HA0 := hidT (h.dev.reqs r hr.mem).1
  have HMEM := hidT hr.mem
  have HRQ := hidT hr
  have HG := hidT gr
  have hkey : keyOf Tryz.prog 3 (.int .i64 tg) = some (.int .i64 tg) := keyOf_int_mk Tryz.underlying3 (WalkArith.wf_i64 hr.in')
  have h1 := hr.some'
  clear gr hr
  obtain ⟨c0, c1⟩ := h.cells; have HV := hidT h; have hv := lt_of_heap h.blk; have hm := h.mlt; have hbv := h.dev.lt; have hb0 := hidT (below1 w (.cells #[.bool false, .int .i64 0, .int .i64 0, .slice none 0 0, .slice none 0 0, .int .i64 0, .slice none 0 0, .int .i64 0] 110)); clear h
  go_enter Tryz.func62, Tryz.ntmps62
  go_wp2_with fail
  refine (end_at b d a _ k r rfl HRQ.out.at' _ (HV.out.dev.later hb0.out) HG.out).mono ?_
  rintro e w1 ⟨a1, xa, xc, xs, rfl, hxs, hst, hnew, hs1⟩
  have hs1n : ¬ a1.foot b w.heap.size := new_notfoot hs1 HV.out.dev.footLt
  obtain ⟨d1, hd1⟩ : ∃ d1 : Dl, d1 = (({ d with busy := d.busy.eraseIdx k } : Dl).did r) := ⟨_, rfl⟩
  have HD1 := hidT hd1
  rw [← hd1] at hs1
  have HBY : Hid (∀ q ∈ d1.busy, q ∈ d.busy) := fun q hq => by rw [HD1.out, Dl.did_busy] at hq; exact List.mem_of_mem_eraseIdx hq
  have HO1 : Hid (∀ q ∈ d1.busy, q.Off (fun j => j = w.heap.size)) := fun q hq => off_of (HV.out.dev.reqs q (HBY.out q hq)).1 (fun j e => by omega)
  have HOQ := HO1
  have HOB : Hid (∀ q ∈ d1.busy, q.Off (fun j => j = bm)) := fun q hq => HRQ.out.off q (HBY.out q hq)
  have HNF : Hid (¬ vfoot b bm a1 w.heap.size) := fun e => e.elim (fun e => by omega) hs1n
  have hxn : ∀ ad, xa = some ad → ad.block ≠ w.heap.size ∧ ad.block ≠ bm := fun ad e => by have := (hnew ad e).1; rw [World.size_alloc] at this; omega
  have HXN := hidT hxn
  have HNW : Hid (∀ ad, xa = some ad → w.heap.size ≤ ad.block ∧ ¬ vfoot b bm a1 ad.block) := fun ad e => ⟨by have := (hnew ad e).1; rw [World.size_alloc] at this; omega, fun hk => hk.elim (hxn ad e).2 (hnew ad e).2⟩
  have HX1 := hidT hst
  have HXS := hxs
  clear hd1 hxn hst hnew hxs
  have HS1 := hidT (HV.out.step ((DStep.same HV.out.dev hb0.out).trans hs1)); have HZ1 := hidT ((zero_new w 110).only hs1.only (fun e => by have := HV.out.dev.footLt _ e; omega)); have HN1 : Hid (¬ vfoot b bm a1 w.heap.size) := (fun e => e.elim (fun e => by omega) (fun e => (HS1.out.foot _ (Or.inr e)).elim (fun e => e.elim (fun e => by omega) (fun e => by have := HV.out.dev.footLt _ e; omega)) (fun _ => hs1n e))); have HA1 := hidT ((HA0.out.later hb0.out).frame (HV.out.dev.reqs r (HMEM.out)).2 hs1.only); clear hs1 hs1n
  generalize hxl : xs.length = xm at *
  go_wp2_with (refine wpList_store_res rfl (.tmp 6) (.tmp 18) rfl w.heap.size r xa xm xc 0 rfl rfl (zero_there HZ1.out) (fun wK => VStep v b bm d a n D d1 a1 n D w wK ∧ ResBoxF wK w.heap.size r xa xm xc 0 ∧ r.At wK ∧ StrsAt wK xa xs) ⟨vset8 HS1.out w.heap.size (Nat.le_refl _) HN1.out (by omega) HO1.out _ _ _ _ _ _ _ _, set8_res (zero_there HZ1.out) HZ1.out.2.2, HA1.out.frame (off_of HA0.out (fun k e => by omega)) (set8_only w1 w.heap.size _ _ _ _ _ _ _ _), strs_frame HX1.out (set8_only w1 w.heap.size _ _ _ _ _ _ _ _) (fun _ ad e => (HXN.out ad e).1)⟩ ?_; rintro wK ⟨hsK, hrK, haK, hxK⟩; have HXK := hidT hxK; clear hxK; have HSK := hidT hsK; have HRK := hidT hrK; have HAK := hidT haK; obtain ⟨⟨y0, y1, y2, y3, y4, y5, y6, y7⟩, -, yl⟩ := hrK; clear hsK haK HS1 HN1 HO1 HZ1 HA1)
  refine (first_tag r tg HRQ.out.tag _ HAK.out h1).mono ?_
  rintro e w2 ⟨rfl, hb2⟩; have HX2 := hidT (HXK.out.later hb2); have HS2 := hidT (HSK.out.later hb2); have HR2 := hidT (HRK.out.later hb2); have HA2 := hidT (HAK.out.later hb2); clear HSK HRK HAK hb2 y0 y1 y2 y3 y4 y5 y6 y7 yl; obtain ⟨⟨x0, x1, x2, x3, x4, x5, x6, x7⟩, -, xl⟩ := id HR2.out; obtain ⟨p0, p1⟩ := HS2.out.at'.cells; have hmp := HS2.out.at'.map; have hvl := lt_of_heap HS2.out.at'.blk
  go_wp2_with (first | (at_delete; refine wpList_delete_own _ rfl _ _ 106 3 rfl 3 keyI Tryz.underlying106 _ bm n D rfl hmp _ _ rfl hkey ?_; intro w3 hown3 hturn3; have HX3 := hidT (strs_frame HX2.out (only_of_grown hturn3.grown) (fun _ ad e => (HXN.out ad e).2)); have HS3 := hidT (HS2.out.trans (HS2.out.at'.turn (only_of_grown hturn3.grown) hown3 HOB.out)); have HR3 := hidT (HR2.out.only (only_of_grown hturn3.grown) (by omega)); obtain ⟨⟨m0, m1, m2, m3, m4, m5, m6, m7⟩, -, ml⟩ := id HR3.out; have HN3 : Hid (¬ vfoot b bm a1 w.heap.size) := HNF.out; clear hown3 hturn3 hmp HS2 HR2 HA2 x0 x1 x2 x3 x4 x5 x6 x7 xl p0 p1 hvl) | (refine wpList_store_res rfl (.tmp 6) (.tmp 60) rfl w.heap.size r xa xm xc 0 rfl rfl HR3.out.2.1 (fun wK => VStep v b bm d a n D d1 a1 n (D.del (.int .i64 tg)) w wK ∧ ResBoxF wK w.heap.size r xa xm xc 0 ∧ StrsAt wK xa xs) ⟨vset8 HS3.out w.heap.size (Nat.le_refl _) HN3.out (by omega) HOQ.out _ _ _ _ _ _ _ _, set8_res HR3.out.2.1 HR3.out.2.2, strs_frame HX3.out (set8_only _ w.heap.size _ _ _ _ _ _ _ _) (fun _ ad e => (HXN.out ad e).1)⟩ ?_; rintro w4 ⟨hs4, ⟨⟨k0, k1, k2, k3, k4, k5, k6, k7⟩, -, -⟩, hx4⟩; have HX4 := hidT hx4; clear hx4; have HS4 := hidT hs4; clear hs4 HS3 HR3 HN3 m0 m1 m2 m3 m4 m5 m6 m7 ml))
  refine bodyPost_ret (v := .tuple #[resV r xa xm xc 0, .bool true, .nilIface]) (by simp [results, Tryz.results62, go_sem, k0, k1, k2, k3, k4, k5, k6, k7]) rfl ⟨a1, xa, xc, xs, by rw [hxl], HXS, HX4.out, HNW.out, ?_⟩
  rw [← HD1.out]
  exact HS4.out
set_option linter.unusedSimpArgs false in
set_option maxRecDepth 100000 in
set_option maxHeartbeats 2000000 in
theorem vg_again (v b bm : Nat) (d : Dl) (a : An) (n : Nat) (D : DataW Unit) (k : Nat) (r : Rq) (tg c : Int) (w : World) (h : VAt v b bm d a n D w) (hr : VReq bm d k r tg) (hc : D.atKey (.int .i64 tg) (.lit (.int .i64 0)) = .lit (.int .i64 c)) (hc2 : 0 ≤ c ∧ c < 2) (hn : n ≤ 1000000000) :
    Calls Tryz.prog 62 #[.pointer (some ⟨v, 0, none⟩), .int .i64 k, .bool true] w fun e w' => ∃ a', e = .returned (.tuple #[noRes, .bool false, .nilIface]) ∧ VStep v b bm d a n D { d with busy := d.busy.eraseIdx k ++ [r] } a' (n + 1) (D.put (.int .i64 tg) (.lit (.int .i64 (c + 1)))) w w' := by
  have HA0 := hidT (h.dev.reqs r hr.mem).1
  have HMEM := hidT hr.mem
  have HRQ := hidT hr
  have HC := hidT hc
  have hkey : keyOf Tryz.prog 3 (.int .i64 tg) = some (.int .i64 tg) := keyOf_int_mk Tryz.underlying3 (WalkArith.wf_i64 hr.in')
  have h1 := hr.some'
  have hc3 : c + 1 < 3 := by omega
  obtain ⟨hc4, hc5⟩ := hc2
  have HOR := hidT (hr.off r hr.mem)
  have HLE : Hid ((d.busy.eraseIdx k).length < 2) := by
    show _ < _
    have h2 := h.dev.blen
    have h3 := (List.getElem?_eq_some_iff.1 hr.at').1
    rw [List.length_eraseIdx, if_pos h3]; omega
  clear hc hr
  obtain ⟨c0, c1⟩ := h.cells; have HV := hidT h; have hv := lt_of_heap h.blk; have hm := h.mlt; have hbv := h.dev.lt; have hb0 := hidT (below1 w (.cells #[.bool false, .int .i64 0, .int .i64 0, .slice none 0 0, .slice none 0 0, .int .i64 0, .slice none 0 0, .int .i64 0] 110)); clear h
  go_enter Tryz.func62, Tryz.ntmps62
  go_wp2_with fail
  refine (end_faultG b d a _ k r rfl HRQ.out.at' _ (HV.out.dev.later hb0.out)).mono ?_
  rintro e w1 ⟨a1, rfl, hs1⟩
  have hs1n : ¬ a1.foot b w.heap.size := new_notfoot hs1 HV.out.dev.footLt
  obtain ⟨d1, hd1⟩ : ∃ d1 : Dl, d1 = { d with busy := d.busy.eraseIdx k } := ⟨_, rfl⟩
  have HD1 := hidT hd1
  rw [← hd1] at hs1
  have HBY : Hid (∀ q ∈ d1.busy, q ∈ d.busy) := fun q hq => by rw [HD1.out] at hq; exact List.mem_of_mem_eraseIdx hq
  have HL1 : Hid (d1.busy.length < 2) := by show _ < _; rw [HD1.out]; exact HLE.out
  have HO1 : Hid (∀ q ∈ d1.busy, q.Off (fun j => j = w.heap.size)) := fun q hq => off_of (HV.out.dev.reqs q (HBY.out q hq)).1 (fun j e => by omega)
  have HOQ := HO1
  have HOB : Hid (∀ q ∈ d1.busy, q.Off (fun j => j = bm)) := fun q hq => HRQ.out.off q (HBY.out q hq)
  clear hd1
  have HNF : Hid (¬ vfoot b bm a1 w.heap.size) := fun e => e.elim (fun e => by omega) hs1n
  have HOF : Hid (r.Off (a1.foot b)) := ⟨fun he ad ha hk => (hs1.foot _ hk).elim ((HV.out.dev.reqs r (HMEM.out)).2.1 he ad ha) (fun h' => by have := strs_lt HA0.out.data he ha; rw [World.size_alloc] at h'; omega), fun he ad ha hk => (hs1.foot _ hk).elim ((HV.out.dev.reqs r (HMEM.out)).2.2 he ad ha) (fun h' => by have := ints_lt HA0.out.tags he ha; rw [World.size_alloc] at h'; omega)⟩
  have HS1 := hidT (HV.out.step ((DStep.same HV.out.dev hb0.out).trans hs1)); have HZ1 := hidT ((zero_new w 110).only hs1.only (fun e => by have := HV.out.dev.footLt _ e; omega)); have HN1 : Hid (¬ vfoot b bm a1 w.heap.size) := (fun e => e.elim (fun e => by omega) (fun e => (HS1.out.foot _ (Or.inr e)).elim (fun e => e.elim (fun e => by omega) (fun e => by have := HV.out.dev.footLt _ e; omega)) (fun _ => hs1n e))); have HA1 := hidT ((HA0.out.later hb0.out).frame (HV.out.dev.reqs r (HMEM.out)).2 hs1.only); clear hs1 hs1n
  go_wp2_with (refine wpList_store_res rfl (.tmp 6) (.tmp 18) rfl w.heap.size r none 0 0 8 rfl rfl (zero_there HZ1.out) (fun wK => VStep v b bm d a n D d1 a1 n D w wK ∧ ResBoxF wK w.heap.size r none 0 0 8 ∧ r.At wK) ⟨vset8 HS1.out w.heap.size (Nat.le_refl _) HN1.out (by omega) HO1.out _ _ _ _ _ _ _ _, set8_res (zero_there HZ1.out) HZ1.out.2.2, HA1.out.frame (off_of HA0.out (fun k e => by omega)) (set8_only w1 w.heap.size _ _ _ _ _ _ _ _)⟩ ?_; rintro wK ⟨hsK, hrK, haK⟩; have HSK := hidT hsK; have HRK := hidT hrK; have HAK := hidT haK; obtain ⟨⟨y0, y1, y2, y3, y4, y5, y6, y7⟩, -, yl⟩ := hrK; clear hsK haK HS1 HN1 HO1 HZ1 HA1)
  refine (first_tag r tg HRQ.out.tag _ HAK.out h1).mono ?_
  rintro e w2 ⟨rfl, hb2⟩; have HS2 := hidT (HSK.out.later hb2); have HR2 := hidT (HRK.out.later hb2); have HA2 := hidT (HAK.out.later hb2); clear HSK HRK HAK hb2 y0 y1 y2 y3 y4 y5 y6 y7 yl; obtain ⟨⟨x0, x1, x2, x3, x4, x5, x6, x7⟩, -, xl⟩ := id HR2.out; obtain ⟨p0, p1⟩ := HS2.out.at'.cells; have hmp := HS2.out.at'.map; have hvl := lt_of_heap HS2.out.at'.blk
  obtain ⟨c', hrun, hat, -⟩ := hmp.lookup_int keyI Tryz.underlying106 Tryz.underlying3 (zeroI _) hkey
  obtain rfl : c' = c := by rw [HC.out] at hat; injection hat with e; injection e with _ e; exact e.symm
  have HAT := hidT hat
  clear hat
  go_wp2_with (at_mapUpdate; refine wpList_mapUpdate_own _ rfl _ _ _ 106 rfl 3 3 keyI Tryz.underlying106 _ bm n D rfl hmp (by unfold maxLen; omega) _ _ _ rfl rfl hkey _ [] (plainElem_int Tryz.underlying3 (WalkArith.wf_i64 (by omega))) ?_; intro w3 hown3 hgrow3; have HS3 := hidT (HS2.out.trans (HS2.out.at'.turn (only_of_grown hgrow3) hown3 HOB.out)); have HR3 := hidT (HR2.out.only (only_of_grown hgrow3) (by omega)); have HA3 := hidT (HA2.out.frame HOR.out (only_of_grown hgrow3)); clear hown3 hgrow3 hmp HS2 HR2 HA2 x0 x1 x2 x3 x4 x5 x6 x7 xl p0 p1 hvl)
  have hd3 : Below w3.heap.size w3 w3.drew := (Below.refl _ _).drew
  have HS3d := hidT (HS3.out.later hd3)
  have HR3d := hidT (HR3.out.later hd3)
  have HA3d := hidT (HA3.out.later hd3)
  have HS : Hid (w3.drew.cell? ⟨v, 0, none⟩ = some (.pointer (some ⟨b, 0, none⟩))) := HS3d.out.at'.cells.1
  have eg : ∀ args w, Sem.run Tryz.prog (callFunc 80 args) w = .ok (.enter 80 args) w := by intro args w; go_simp
  clear HS3 HR3 HA3 hd3
  (try simp only [Act.put, List.getElem_toArray, List.getElem_cons_succ, List.getElem_cons_zero, List.setIfInBounds_toArray, List.set_cons_zero, List.set_cons_succ])
  refine region_till (S := fun wz => wz.cell? ⟨v, 0, none⟩ = some (.pointer (some ⟨b, 0, none⟩))) (d := 10) (by kernel_rfl) ?_
  generalize w3.drew = w3 at *
  refine till_take (i := 0) (v := ?_) rfl (by kernel_rfl) (by kernel_rfl) (by kernel_rfl) (by kernel_rfl) (fun _ _ _ h => h) (Or.inl ⟨by rfl, ?_⟩) HS.out ?_; rotate_left; (focus (intro w0 s6; go_simp; (try with_reducible rfl))); (try simp only [Act.put, List.getElem_toArray, List.getElem_cons_succ, List.getElem_cons_zero, List.setIfInBounds_toArray, List.set_cons_zero, List.set_cons_succ])
  refine till_take (i := 1) (v := ?_) rfl (by kernel_rfl) (by kernel_rfl) (by kernel_rfl) (by kernel_rfl) (fun _ _ _ h => h) (Or.inl ⟨by rfl, ?_⟩) HS.out ?_; rotate_left; (focus (intro w0 s6; go_simp; (try with_reducible rfl))); (try simp only [Act.put, List.getElem_toArray, List.getElem_cons_succ, List.getElem_cons_zero, List.setIfInBounds_toArray, List.set_cons_zero, List.set_cons_succ])
  refine till_take (i := 2) (v := ?_) rfl (by kernel_rfl) (by kernel_rfl) (by kernel_rfl) (by kernel_rfl) (fun _ _ _ h => h) (Or.inl ⟨by rfl, ?_⟩) HS.out ?_; rotate_left; (focus (intro w0 s6; go_simp; (try with_reducible rfl))); (try simp only [Act.put, List.getElem_toArray, List.getElem_cons_succ, List.getElem_cons_zero, List.setIfInBounds_toArray, List.set_cons_zero, List.set_cons_succ])
  refine till_take (i := 3) (v := ?_) rfl (by kernel_rfl) (by kernel_rfl) (by kernel_rfl) (by kernel_rfl) (fun _ _ _ h => h) (Or.inl ⟨by rfl, ?_⟩) HS.out ?_; rotate_left; (focus (intro w0 s6; go_simp; (try with_reducible rfl))); (try simp only [Act.put, List.getElem_toArray, List.getElem_cons_succ, List.getElem_cons_zero, List.setIfInBounds_toArray, List.set_cons_zero, List.set_cons_succ])
  refine till_take (i := 4) (v := ?_) rfl (by kernel_rfl) (by kernel_rfl) (by kernel_rfl) (by kernel_rfl) (fun _ _ _ h => h) (Or.inl ⟨by rfl, ?_⟩) HS.out ?_; rotate_left; (focus (intro w0 s6; go_simp; (try with_reducible rfl))); (try simp only [Act.put, List.getElem_toArray, List.getElem_cons_succ, List.getElem_cons_zero, List.setIfInBounds_toArray, List.set_cons_zero, List.set_cons_succ])
  refine till_take (i := 5) (v := ?_) rfl (by kernel_rfl) (by kernel_rfl) (by kernel_rfl) (by kernel_rfl) (fun _ _ _ h => h) (Or.inl ⟨by rfl, ?_⟩) HS.out ?_; rotate_left; (focus (intro w0 s6; go_simp; (try with_reducible rfl))); (try simp only [Act.put, List.getElem_toArray, List.getElem_cons_succ, List.getElem_cons_zero, List.setIfInBounds_toArray, List.set_cons_zero, List.set_cons_succ])
  obtain ⟨⟨x0, x1, x2, x3, x4, x5, x6, x7⟩, -, xl⟩ := id HR3d.out
  refine till_one (i := 6) rfl (by kernel_rfl) ?_
  intro K hK
  go_simp
  refine hK _ _ (fun _ => HS.out) ?_
  (try simp only [Act.put, List.getElem_toArray, List.getElem_cons_succ, List.getElem_cons_zero, List.setIfInBounds_toArray, List.set_cons_zero, List.set_cons_succ])
  clear hK
  refine till_one (i := 7) rfl (by kernel_rfl) ?_
  intro K hK
  refine step_call2 rfl 80 51 53 27 44 rfl eg (.pointer (some ⟨b, 0, none⟩)) r.val rfl rfl .nilIface (fun w' => ∃ a', DStep b d1 a1 { d1 with busy := d1.busy ++ [r] } a' w3 w') ((start_ok b d1 a1 r _ HS3d.out.at'.dev HL1.out HA3d.out HOF.out).mono (fun e w' ⟨a', he, hs⟩ => ⟨he, a', hs⟩)) ?_
  rintro w4 ⟨a4, hs4⟩
  have hq4 : ¬ vfoot b bm a4 w.heap.size := by
    rintro (e | e)
    · omega
    · rcases hs4.foot _ e with e | e
      · exact HNF.out (Or.inr e)
      · omega
  have HS4 := hidT (HS3d.out.trans (HS3d.out.at'.step hs4))
  have HR4 := hidT (HR3d.out.only hs4.only (fun e => HNF.out (Or.inr e)))
  have HQ4 := hidT hq4
  refine hK _ _ (fun _ => HS4.out.at'.cells.1) ?_
  (try simp only [Act.put, List.getElem_toArray, List.getElem_cons_succ, List.getElem_cons_zero, List.setIfInBounds_toArray, List.set_cons_zero, List.set_cons_succ])
  clear hK hs4 hq4 x0 x1 x2 x3 x4 x5 x6 x7 xl HS3d HR3d HA3d HS
  refine till_one (i := 8) rfl (by kernel_rfl) ?_
  intro K hK
  refine step_store_res rfl (.tmp 6) (.tmp 47) rfl w.heap.size rq0 none 0 0 0 rfl rfl HR4.out.2.1 ?_
  have HS5 := hidT (vset8 HS4.out w.heap.size (Nat.le_refl _) HQ4.out (by omega) (fun q hq => by rcases List.mem_append.1 hq with hq' | hq'; exact HOQ.out q hq'; (rw [List.mem_singleton.1 hq']; exact off_of HA0.out (fun k e => by omega))) (.bool rq0.wr) (.int .i64 rq0.f) (.int .i64 rq0.m) (.slice rq0.da rq0.data.length rq0.dc) (.slice rq0.ta rq0.tags.length rq0.tc) (.int .i64 rq0.born) (.slice none 0 0) (.int .i64 0))
  have HR5 := hidT (set8_res (r := rq0) (xa := none) (n := 0) (xc := 0) (er := 0) HR4.out.2.1 HR4.out.2.2)
  refine hK _ _ (fun _ => HS5.out.at'.cells.1) ?_
  (try simp only [Act.put, List.getElem_toArray, List.getElem_cons_succ, List.getElem_cons_zero, List.setIfInBounds_toArray, List.set_cons_zero, List.set_cons_succ])
  clear hK
  generalize set8 w4 w.heap.size (.bool rq0.wr) (.int .i64 rq0.f) (.int .i64 rq0.m) (.slice rq0.da rq0.data.length rq0.dc) (.slice rq0.ta rq0.tags.length rq0.tc) (.int .i64 rq0.born) (.slice none 0 0) (.int .i64 0) = w5 at *
  clear HS4 HR4 HQ4
  refine till_one (i := 9) rfl (by kernel_rfl) ?_; intro K hK; go_simp; refine hK _ _ (fun _ => HS5.out.at'.cells.1) ?_; (try simp only [Act.put, List.getElem_toArray, List.getElem_cons_succ, List.getElem_cons_zero, List.setIfInBounds_toArray, List.set_cons_zero, List.set_cons_succ]); clear hK
  refine till_one (i := 10) rfl (by kernel_rfl) ?_; intro K hK; go_simp; refine hK _ _ (fun _ => HS5.out.at'.cells.1) ?_; (try simp only [Act.put, List.getElem_toArray, List.getElem_cons_succ, List.getElem_cons_zero, List.setIfInBounds_toArray, List.set_cons_zero, List.set_cons_succ]); clear hK
  refine till_done (by kernel_rfl) ?_ _
  obtain ⟨⟨k0, k1, k2, k3, k4, k5, k6, k7⟩, -, -⟩ := id HR5.out
  go_wp2
  exact bodyPost_ret (v := .tuple #[noRes, .bool false, .nilIface]) (by simp [results, Tryz.results62, go_sem, k0, k1, k2, k3, k4, k5, k6, k7, rq0]) rfl ⟨a4, rfl, by have := HS5.out; rw [HD1.out] at this; exact this⟩
end Go.Proofs.YtgjkdhedkbkagaaGreat
/- A driver of a device, whatever requests it has: Room, Start of one too many; drivers that lie beside others. -/
namespace Go.Proofs.YtgjkdhedkbkagaaGreat
open Go.RowKit Go.BigFrame Go.Maps
set_option maxRecDepth 100000
attribute [local go_sem] Later.cell Later.frozen

set_option maxRecDepth 100000 in
set_option maxHeartbeats 400000 in
theorem room_any (v b bm : Nat) (d : Dl) (a : An) (n : Nat) (D : DataW Unit) (t : Bool) (w : World) (h : VAt v b bm d a n D w) (ht : decide (d.busy.length < 2) = t) : Calls Tryz.prog 55 #[.pointer (some ⟨v, 0, none⟩)] w fun e w' => e = .returned (.bool t) ∧ Below w.heap.size w w' := by
  cases t with
  | true => exact room_yes v b bm d a n D w h (of_decide_eq_true ht)
  | false =>
    obtain ⟨c0, c1⟩ := h.cells
    have HV := hidT h
    have h2 := of_decide_eq_false ht
    have h2' : ¬ (d.busy.length : Int) < 2 := by omega
    clear h c1 ht h2
    go_enter Tryz.func55, Tryz.ntmps55
    go_wp2_with fail
    refine (busy_any b d a _ HV.out.dev).mono ?_
    rintro e w1 ⟨xa, xc, rfl, -, -, hb⟩
    go_wp2
    go_ret
    exact ⟨ret_bool (decide_eq_false (by omega)), hb⟩
/-- A driver that nothing of its own has turned. -/
theorem VAt.frame {F : Nat → Prop} {v b bm : Nat} {d : Dl} {a : An} {n : Nat} {D : DataW Unit} {w w' : World} (h : VAt v b bm d a n D w) (hk : Only F w w') (hF : ∀ k, vfoot b bm a k → ¬ F k) (hv : ¬ F v) (hr : ∀ r ∈ d.busy, r.Off F) : VAt v b bm d a n D w' :=
  ⟨h.dev.frame hk (fun k e => hF k (Or.inr e)) hr, by rw [hk.block v (lt_of_heap h.blk) hv]; exact h.blk, owns_block h.map (hk.block bm h.mlt (hF bm (Or.inl rfl))), h.foot⟩
theorem VAt.footLt {v b bm : Nat} {d : Dl} {a : An} {n : Nat} {D : DataW Unit} {w : World} (h : VAt v b bm d a n D w) (k : Nat) (hk : vfoot b bm a k) : k < w.heap.size := hk.elim (fun e => by rw [e]; exact h.mlt) (h.dev.footLt k)
end Go.Proofs.YtgjkdhedkbkagaaGreat
/- queue.Add, told with where what it answers lies. -/
namespace Go.Proofs.YtgjkdhedkbkagaaGreat
open Go.RowKit Go.BigFrame
set_option maxRecDepth 100000
attribute [local go_sem] Later.cell Later.frozen

theorem mergeEN (o r : Rq) (w : World) (go : Good o) (gr : Good r) (ho : o.At w) (hr : r.At w) (h : togE o r = true) :
    Calls Tryz.prog 98 #[o.val, r.val] w fun e w' => ∃ q : Rq, e = .returned (.tuple #[q.val, .bool true]) ∧ BothE o r q ∧ q.At w' ∧ FreshQ q w.heap.size ∧ Below w.heap.size w w' := by
  cases h1 : togB o r
  · have h2 : togB r o = true := by simpa [togE, h1] using h
    exact (merge_trueN' r o w gr go hr ho h2).mono fun e w' ⟨q, he, hq, ha, hf, hb⟩ => ⟨q, he, Or.inr ⟨h1, h2, hq⟩, ha, hf, hb⟩
  · exact (merge_trueN o r w go gr ho hr h1).mono fun e w' ⟨q, he, hq, ha, hf, hb⟩ => ⟨q, he, Or.inl ⟨h1, hq⟩, ha, hf, hb⟩
def AddedN (base : Nat) (l : List Rq) (r : Rq) (L : List Rq) : Prop :=
  (∃ (k : Nat) (hk : k < l.length) (q : Rq), (∀ j (hj : j < l.length), j < k → togE l[j] r = false) ∧ togE l[k] r = true ∧ BothE l[k] r q ∧ FreshQ q base ∧ L = l.set k q) ∨
  ((∀ j (hj : j < l.length), togE l[j] r = false) ∧ l.length < 6 ∧ L = l ++ [r])
def AddOutN (base : Nat) (l : List Rq) (r : Rq) (w' : World) (e : Ending) : Prop :=
  (∃ (L : List Rq) (a' : Option Addr) (c' : Nat), AddedN base l r L ∧ e = .returned (.tuple #[.slice a' L.length c', .nilIface]) ∧ ReqsAt w' a' L ∧ L.length ≤ c' ∧ (a' = none → c' = 0) ∧ ∀ p, a' = some p → base ≤ p.block) ∨
  ((∀ j (hj : j < l.length), togE l[j] r = false) ∧ 6 ≤ l.length ∧ e = .returned (.tuple #[.slice none 0 0, .iface 89 (.int .i64 7)]))
set_option linter.unusedSimpArgs false in
set_option maxRecDepth 100000 in
set_option maxHeartbeats 4000000 in
theorem add_new (l : List Rq) (a : Option Addr) (c : Nat) (r : Rq) (w : World) (hl : ReqsAt w a l) (hn : a = none → c = 0) (hr : r.At w) (h10 : l.length ≤ 1000) (gr : Good r) (gl : ∀ i (h : i < l.length), Good l[i]) (hm : l.any (meetsB r) = false) :
    Calls Tryz.prog 73 #[.slice a l.length c, r.val] w fun e w' => AddOutN w.heap.size l r w' e ∧ Below w.heap.size w w' := by
  obtain ⟨i, hi, hz0, hz1, hz2⟩ := pluck infoR
  have HI := hid_of (⟨hi, hz0, hz1, hz2⟩ : Tryz.prog.info? 44 = some i ∧ _ ∧ _ ∧ _)
  clear hi hz0 hz1 hz2
  have HGL := hid_of gl
  clear gl
  go_enter Tryz.func73, Tryz.ntmps73
  go_wp2_with fail
  refine (rcheck_nilA r _ (hr.later (below1 _ _)) ((good_iff r).2 gr)).mono ?_
  rintro e w1 ⟨rfl, hb⟩
  have S := (six_newA w 44 r).later hb
  have HS := hid_of S
  go_wp2_with fail
  refine (containsR_any 97 (by intro args w; go_simp) (.pointer (some ⟨w.heap.size, 0, none⟩)) (meetsB r) l a c _ (hl.later (by repeat (first | with_reducible exact Below.refl _ _ | with_reducible refine balloc ?_ _ | with_reducible refine bdrew ?_ | with_reducible refine bset' ?_ (by omega) _ | with_reducible refine bthen ?_ (by assumption)))) (fun x w' _ hb' => meets_any x r w.heap.size w' (cell_later' hb' HS.out.2.1) (cell_later' hb' HS.out.2.2.1)) false hm).mono ?_
  rintro e w2 ⟨rfl, hb2⟩
  have S2 : Six w2 w.heap.size r := S.later hb2
  have HB2 : Below w.heap.size w w2 := by repeat (first | with_reducible exact Below.refl _ _ | with_reducible refine balloc ?_ _ | with_reducible refine bdrew ?_ | with_reducible refine bset' ?_ (by omega) _ | with_reducible refine bthen ?_ (by assumption))
  have hl2 := hl.later HB2
  have hlen := hl.2.2
  clear S HS hb hb2 hm
  go_wp2_with fail
  go_loopw [25] (fun iv wr => ∃ n : Nat, n ≤ l.length ∧ iv = .int .i64 n ∧ (∀ j (hj : j < l.length), j < n → togE l[j] r = false) ∧ Below w2.heap.size w2 wr) (fun iv _ => l.length - (intOf iv).toNat)
  case atStart => exact ⟨0, by omega, rfl, fun j hj h => absurd h (Nat.not_lt_zero _), Below.refl _ _⟩
  case round =>
    obtain ⟨n, hnl, rfl, hno, HB⟩ := hrel
    have HN := hid_of hno
    clear hno
    have S3 := S2.later HB
    have hl3 := hl2.later HB
    have HB3 := bthen HB2 HB
    have HR := hid_of HB
    clear HB S2
    obtain ⟨s0, s1, s2, s3, s4, s5⟩ := id S3
    have ls := lt_of_cell s0
    by_cases hlt : n < l.length
    · have h0 : l ≠ [] := by rintro rfl; exact absurd hlt (Nat.not_lt_zero _)
      have H0 := hid_of h0
      obtain ⟨b, o, rfl⟩ := hl3.form.resolve_left h0
      clear h0
      obtain ⟨c0, c1, c2, c3, c4, c5⟩ := hl3.cells hlt
      have lc := lt_of_cell c0
      cases ht : togE l[n] r
      · go_wp2_with fail
        refine (mergeN l[n] r _ (HGL.out n hlt) gr ht).mono ?_
        rintro e w4 ⟨rfl, hb4⟩
        go_wp2
        go_roundw
        case rel => exact ⟨n + 1, by omega, by go_num, fun j hj h => by by_cases e : j = n; (subst e; exact ht); exact HN.out j hj (by omega), bthen HR.out (by repeat (first | with_reducible exact Below.refl _ _ | with_reducible refine balloc ?_ _ | with_reducible refine bdrew ?_ | with_reducible refine bset' ?_ (by omega) _ | with_reducible refine bthen ?_ (by assumption)))⟩
        case measure => simp [intOf]; omega
      · go_wp2_with fail
        refine (mergeEN l[n] r _ (HGL.out n hlt) gr (Rq.At.of hl hlt (by repeat (first | with_reducible exact Below.refl _ _ | with_reducible refine balloc ?_ _ | with_reducible refine bdrew ?_ | with_reducible refine bset' ?_ (by omega) _ | with_reducible refine bthen ?_ (by assumption)))) (hr.later (by repeat (first | with_reducible exact Below.refl _ _ | with_reducible refine balloc ?_ _ | with_reducible refine bdrew ?_ | with_reducible refine bset' ?_ (by omega) _ | with_reducible refine bthen ?_ (by assumption)))) ht).mono ?_
        rintro e w4 ⟨q, rfl, hq, hqa, hqf, hb4⟩
        have HB4 : Below w.heap.size w w4 := by repeat (first | with_reducible exact Below.refl _ _ | with_reducible refine balloc ?_ _ | with_reducible refine bdrew ?_ | with_reducible refine bset' ?_ (by omega) _ | with_reducible refine bthen ?_ (by assumption))
        have HQ := hid_of hq
        have hw4s : w.heap.size ≤ wr.heap.size := HB3.size
        have HQF : Hid (FreshQ q w.heap.size) := ⟨fun b o e => by have := hqf.1 b o e; rw [World.size_alloc] at this; omega, fun b o e => by have := hqf.2 b o e; rw [World.size_alloc] at this; omega⟩
        clear hqf hw4s
        clear hq hb4 c0 c1 c2 c3 c4 c5 lc s0 s1 s2 s3 s4 s5 ls S3 hl3
        go_wp2_with fail
        refine (cloneR_any l _ c _ (hl.later (by repeat (first | with_reducible exact Below.refl _ _ | with_reducible refine balloc ?_ _ | with_reducible refine bdrew ?_ | with_reducible refine bset' ?_ (by omega) _ | with_reducible refine bthen ?_ (by assumption)))) hn (by omega)).mono ?_
        rintro e w5 ⟨a5, c5, rfl, hN, hb5⟩
        obtain ⟨b5, rfl, hbb, hlt5, hfz⟩ := hN.place H0.out
        rw [World.size_alloc] at hbb
        have Sq : Six w5 w4.heap.size q := (six_newA w4 44 q).later hb5
        obtain ⟨s0, s1, s2, s3, s4, s5⟩ := id Sq
        have ls := lt_of_cell s0
        obtain ⟨d0, d1, d2, d3, d4, d5⟩ := hN.here.cells hlt
        rw [Nat.zero_add] at d0 d1 d2 d3 d4 d5
        have f0 := hfz (n * 6)
        have f1 := hfz (n * 6 + 1)
        have f2 := hfz (n * 6 + 2)
        have f3 := hfz (n * 6 + 3)
        have f4 := hfz (n * 6 + 4)
        have f5 := hfz (n * 6 + 5)
        have nb : b5 ≠ w4.heap.size := by omega
        have hcap := hN.cap
        have HH := hid_of hN.here
        have hB5 : Below w4.heap.size w4 w5 := by repeat (first | with_reducible exact Below.refl _ _ | with_reducible refine balloc ?_ _ | with_reducible refine bdrew ?_ | with_reducible refine bset' ?_ (by omega) _ | with_reducible refine bthen ?_ (by assumption))
        clear hb5 hfz Sq hN
        have hz4 := HB4.size
        go_wp2
        go_ret2
        refine ⟨Or.inl ⟨l.set n q, _, c5, Or.inl ⟨n, hlt, q, HN.out, ht, HQ.out, HQF.out, rfl⟩, (by show Ending.returned (.tuple #[.slice (some ⟨b5, 0, none⟩) l.length c5, .nilIface]) = _; rw [List.length_set]), HH.out.put hlt (fun r' hr' => (hl.2.1 r' hr').later ?_) (hqa.later ?_) rfl, by rw [List.length_set]; exact hcap, by simp, fun p e => by simp only [Option.some.injEq] at e; subst e; simp only; omega⟩, ?_⟩
        all_goals repeat (first | with_reducible exact Below.refl _ _ | with_reducible refine balloc ?_ _ | with_reducible refine bdrew ?_ | with_reducible refine bset' ?_ (by omega) _ | with_reducible refine bthen ?_ (by assumption))
    · have hnn : n = l.length := by omega
      subst hnn
      by_cases h6 : 6 ≤ l.length
      · go_wp2
        go_ret2
        exact ⟨Or.inr ⟨fun j hj => HN.out j hj hj, h6, rfl⟩, by repeat (first | with_reducible exact Below.refl _ _ | with_reducible refine balloc ?_ _ | with_reducible refine bdrew ?_ | with_reducible refine bset' ?_ (by omega) _ | with_reducible refine bthen ?_ (by assumption))⟩
      · go_wp2_with fail
        obtain ⟨hi, hz0, hz1, hz2⟩ := HI.out
        go_region_held3 (fun w' => w'.cell? ⟨w.heap.size, 0, none⟩ = some (.bool r.wr) ∧ w'.cell? ⟨w.heap.size, 1, none⟩ = some (.int .i64 r.f) ∧ w'.cell? ⟨w.heap.size, 2, none⟩ = some (.int .i64 r.m) ∧ w'.cell? ⟨w.heap.size, 3, none⟩ = some (.slice r.da r.data.length r.dc) ∧ w'.cell? ⟨w.heap.size, 4, none⟩ = some (.slice r.ta r.tags.length r.tc) ∧ w'.cell? ⟨w.heap.size, 5, none⟩ = some (.int .i64 r.born)) (exact (show Six _ _ r by first | ((repeat (first | with_reducible exact S3 | with_reducible refine Six.drew ?_ | with_reducible refine Six.alloc ?_ _ | with_reducible refine Six.later ?_ (by assumption) | with_reducible refine Six.set ?_ (by omega) _)); done) | (refine Six.belowB ?_ (by assumption) ls; (repeat (first | with_reducible exact S3 | with_reducible refine Six.drew ?_ | with_reducible refine Six.alloc ?_ _ | with_reducible refine Six.later ?_ (by assumption) | with_reducible refine Six.set ?_ (by omega) _)); done))) (first | (go_at_call 43; refine (cloneR_any l a c _ (hl.later (by repeat (first | with_reducible exact Below.refl _ _ | with_reducible refine balloc ?_ _ | with_reducible refine bdrew ?_ | with_reducible refine bset' ?_ (by omega) _ | with_reducible refine bthen ?_ (by assumption)))) hn (by omega)).mono ?_; rintro e w4 ⟨a4, c4, rfl, hN, hb4⟩) | (refine step_append (by rfl) (.tmp 50) (.tmp 52) 35 (by rfl) wr.heap.size 44 i _ 6 80 Tryz.underlying35 hi hz0 hz1 hz2 rfl (by decide) (.slice a4 l.length c4) l.length (rcells l) (by simp [Act.eval, Act.put]) (ownsRow_le' (ownA_later hN.own (by repeat (first | with_reducible exact Below.refl _ _ | with_reducible refine balloc ?_ _ | with_reducible refine bdrew ?_ | with_reducible refine bset' ?_ (by omega) _ | with_reducible refine bthen ?_ (by assumption)))) (by simp)) _ 1 1 (rcells [r]) (by simp [Act.eval, Act.put]; rfl) (by first | (refine row_sixA r ?_; simp [Six]; done) | (refine row_sixA r (Six.later ?_ hb4); simp [Six]; done)) (by unfold maxLen; omega) (by omega) (by have := hb4.size; simp at this ⊢; omega) ?_; intro v5 w5 hown5 hb5))
        all_goals
          rw [← rcells_append] at hown5
          have HB5 : Below w.heap.size w w5 := by have hq5 : Below wr.heap.size wr w5 := Below.trans (by repeat (first | with_reducible exact Below.refl _ _ | with_reducible refine balloc ?_ _ | with_reducible refine bdrew ?_ | with_reducible refine bset' ?_ (by omega) _ | with_reducible refine bthen ?_ (by assumption))) hb5; exact bthen HB3 hq5
          obtain ⟨a5, c5, rfl, hN5⟩ := newR_of_owned hown5 (fun r' hr' => by rcases List.mem_append.1 hr' with h | h; exact (hl.2.1 r' h).later HB5; (rw [List.mem_singleton.1 h]; exact hr.later HB5)) (by simp) (by simp; omega)
          have HN5 := hid_of hN5
          have HNB : Hid (∀ p, a5 = some p → w.heap.size ≤ p.block) := fun p e => by have := (hN5.own.lt p.block (by rw [e]; rfl)).1; have := HB3.size; omega
          clear hown5 hN5 hN hi hz0 hz1 hz2
          go_wp2
          go_ret2
          exact ⟨Or.inl ⟨l ++ [r], a5, c5, Or.inr ⟨fun j hj => HN.out j hj hj, by omega, rfl⟩, rfl, HN5.out.here, HN5.out.cap, HN5.out.nil, fun p e => HNB.out p e⟩, HB5⟩
end Go.Proofs.YtgjkdhedkbkagaaGreat
