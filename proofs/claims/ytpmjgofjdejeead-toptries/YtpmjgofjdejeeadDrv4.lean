/- A driver of a device: a request is tried again. -/
import Derived.Test.YtpmjgofjdejeeadDrv3
namespace Go.Proofs.Ytpmjgofjdejeead
open Go.RowKit Go.BigFrame Go.Maps
attribute [local go_sem] Later.cell Later.frozen

theorem step_store_res {ops : Array Oper} {o : Oper} {a : Act} {w : World} {K : Act → World → Prop} {Q : Exit → Act → World → Prop} {E : Prop} (hg : o.guard = none) (x y : Operand) (ho : o.op = .store 39 x y)
    (q : Nat) (r : Rq) (xa : Option Addr) (n xc : Nat) (er : Int) (hx : a.eval x = .pointer (some ⟨q, 0, none⟩)) (hy : a.eval y = resV r xa n xc er) (ht : w.there q 0 8)
    (h : K (a.put o.dst undef) (set8 w q (.bool r.wr) (.int .i64 r.f) (.int .i64 r.m) (.slice r.da r.data.length r.dc) (.slice r.ta r.tags.length r.tc) (.int .i64 r.born) (.slice xa n xc) (.int .i64 er))) :
    if Region.wanted o (yielded ops a.tmps) = true then Oper.wp Try.prog o a w K Q else E := by
  have hw : Region.wanted o (yielded ops a.tmps) = true := by simp [Region.wanted, hg]
  rw [if_pos hw]
  exact wp_store_mid 39 x y ho q 0 _ hx hy ht (by kernel_rfl) (by simp [Value.oneCell']) h
set_option linter.unusedSimpArgs false in
set_option maxRecDepth 100000 in
set_option maxHeartbeats 2000000 in
theorem vend_again (v b bm : Nat) (d : Dl) (a : An) (n : Nat) (D : DataW Unit) (r : Rq) (tg c : Int) (w : World) (h : VAt v b bm { d with busy := [r] } a n D w) (hd : d.busy = []) (ht : r.tags.getD 0 0 = tg) (htw : In64 tg) (h1 : 1 ≤ r.tags.length) (hc : D.atKey (.int .i64 tg) (.lit (.int .i64 0)) = .lit (.int .i64 c)) (hc2 : 0 ≤ c ∧ c < 2) (hn : n ≤ 100) (hob : r.Off (fun k => k = bm)) :
    Calls Try.prog 13 #[.pointer (some ⟨v, 0, none⟩), .int .i64 0, .bool true] w fun e w' => ∃ a', e = .returned (.tuple #[noRes, .bool false, .nilIface]) ∧ VStep v b bm { d with busy := [r] } a n D { d with busy := [r] } a' (n + 1) (D.put (.int .i64 tg) (.lit (.int .i64 (c + 1)))) w w' := by
  have HA0 := hidT (h.dev.reqs r (List.mem_singleton.2 rfl)).1
  have HTG := hidT ht
  have HED := hidT hd
  have HC := hidT hc
  have hkey : keyOf Try.prog 3 (.int .i64 tg) = some (.int .i64 tg) := keyOf_int_mk Try.underlying3 (WalkArith.wf_i64 htw)
  have hc3 : c + 1 < 3 := by omega
  obtain ⟨hc4, hc5⟩ := hc2
  have HOR := hidT hob
  clear ht hd hc htw hob
  obtain ⟨c0, c1⟩ := h.cells; have HV := hidT h; have hv := lt_of_heap h.blk; have hm := h.mlt; have hbv := h.dev.lt; have hb0 := hidT (below1 w (.cells #[.bool false, .int .i64 0, .int .i64 0, .slice none 0 0, .slice none 0 0, .int .i64 0, .slice none 0 0, .int .i64 0] 39)); clear h
  go_enter Try.func13, Try.ntmps13
  go_wp2_with fail
  refine (end_fault1 b d a r _ HED.out (HV.out.dev.later hb0.out)).mono ?_
  rintro e w1 ⟨a1, rfl, hs1⟩
  have hs1n : ¬ a1.foot b w.heap.size := new_notfoot hs1 HV.out.dev.footLt
  have HO1 : Hid (∀ r ∈ d.busy, r.Off (fun k => k = w.heap.size)) := fun r hr => by rw [HED.out] at hr; cases hr
  have HOQ := HO1
  have HOB : Hid (∀ r ∈ d.busy, r.Off (fun k => k = bm)) := fun r hr => by rw [HED.out] at hr; cases hr
  have HNF : Hid (¬ vfoot b bm a1 w.heap.size) := fun e => e.elim (fun e => by omega) hs1n
  have HOF : Hid (r.Off (a1.foot b)) := ⟨fun he ad ha hk => (hs1.foot _ hk).elim ((HV.out.dev.reqs r (List.mem_singleton.2 rfl)).2.1 he ad ha) (fun h' => by have := strs_lt HA0.out.data he ha; rw [World.size_alloc] at h'; omega), fun he ad ha hk => (hs1.foot _ hk).elim ((HV.out.dev.reqs r (List.mem_singleton.2 rfl)).2.2 he ad ha) (fun h' => by have := ints_lt HA0.out.tags he ha; rw [World.size_alloc] at h'; omega)⟩
  have HS1 := hidT (HV.out.step ((DStep.same HV.out.dev hb0.out).trans hs1)); have HZ1 := hidT ((zero_new w 39).only hs1.only (fun e => by have := HV.out.dev.footLt _ e; omega)); have HN1 : Hid (¬ vfoot b bm a1 w.heap.size) := (fun e => e.elim (fun e => by omega) (fun e => (HS1.out.foot _ (Or.inr e)).elim (fun e => e.elim (fun e => by omega) (fun e => by have := HV.out.dev.footLt _ e; omega)) (fun _ => hs1n e))); have HA1 := hidT ((HA0.out.later hb0.out).frame (HV.out.dev.reqs r (List.mem_singleton.2 rfl)).2 hs1.only); clear hs1 hs1n
  go_wp2_with (refine wpList_store_res rfl (.tmp 6) (.tmp 18) rfl w.heap.size r none 0 0 8 rfl rfl (zero_there HZ1.out) (fun wK => VStep v b bm { d with busy := [r] } a n D d a1 n D w wK ∧ ResBoxF wK w.heap.size r none 0 0 8 ∧ r.At wK) ⟨vset8 HS1.out w.heap.size (Nat.le_refl _) HN1.out (by omega) HO1.out _ _ _ _ _ _ _ _, set8_res (zero_there HZ1.out) HZ1.out.2.2, HA1.out.frame (off_of HA0.out (fun k e => by omega)) (set8_only w1 w.heap.size _ _ _ _ _ _ _ _)⟩ ?_; rintro wK ⟨hsK, hrK, haK⟩; have HSK := hidT hsK; have HRK := hidT hrK; have HAK := hidT haK; obtain ⟨⟨y0, y1, y2, y3, y4, y5, y6, y7⟩, -, yl⟩ := hrK; clear hsK haK HS1 HN1 HO1 HZ1 HA1)
  refine (first_tag r tg HTG.out _ HAK.out h1).mono ?_
  rintro e w2 ⟨rfl, hb2⟩; have HS2 := hidT (HSK.out.later hb2); have HR2 := hidT (HRK.out.later hb2); have HA2 := hidT (HAK.out.later hb2); clear HSK HRK HAK hb2 y0 y1 y2 y3 y4 y5 y6 y7 yl; obtain ⟨⟨x0, x1, x2, x3, x4, x5, x6, x7⟩, -, xl⟩ := id HR2.out; obtain ⟨p0, p1⟩ := HS2.out.at'.cells; have hmp := HS2.out.at'.map; have hvl := lt_of_heap HS2.out.at'.blk
  obtain ⟨c', hrun, hat, -⟩ := hmp.lookup_int keyI Try.underlying61 Try.underlying3 (zeroI _) hkey
  obtain rfl : c' = c := by rw [HC.out] at hat; injection hat with e; injection e with _ e; exact e.symm
  have HAT := hidT hat
  clear hat
  go_wp2_with (at_mapUpdate; refine wpList_mapUpdate_own _ rfl _ _ _ 61 rfl 3 3 keyI Try.underlying61 _ bm n D rfl hmp (by unfold maxLen; omega) _ _ _ rfl rfl hkey _ [] (plainElem_int Try.underlying3 (WalkArith.wf_i64 (by omega))) ?_; intro w3 hown3 hgrow3; have HS3 := hidT (HS2.out.trans (HS2.out.at'.turn (only_of_grown hgrow3) hown3 HOB.out)); have HR3 := hidT (HR2.out.only (only_of_grown hgrow3) (by omega)); have HA3 := hidT (HA2.out.frame HOR.out (only_of_grown hgrow3)); clear hown3 hgrow3 hmp HS2 HR2 HA2 x0 x1 x2 x3 x4 x5 x6 x7 xl p0 p1 hvl)
  have hd3 : Below w3.heap.size w3 w3.drew := (Below.refl _ _).drew
  have HS3d := hidT (HS3.out.later hd3)
  have HR3d := hidT (HR3.out.later hd3)
  have HA3d := hidT (HA3.out.later hd3)
  have HS : Hid (w3.drew.cell? ⟨v, 0, none⟩ = some (.pointer (some ⟨b, 0, none⟩))) := HS3d.out.at'.cells.1
  have eg : ∀ args w, Sem.run Try.prog (callFunc 30 args) w = .ok (.enter 30 args) w := by intro args w; go_simp
  clear HS3 HR3 HA3 hd3
  (try simp only [Act.put, List.getElem_toArray, List.getElem_cons_succ, List.getElem_cons_zero, List.setIfInBounds_toArray, List.set_cons_zero, List.set_cons_succ])
  refine region_till (S := fun wz => wz.cell? ⟨v, 0, none⟩ = some (.pointer (some ⟨b, 0, none⟩))) (d := 10) (by kernel_rfl) ?_
  generalize w3.drew = w3 at *
  refine till_take (i := 0) (v := ?_) rfl (by kernel_rfl) (by kernel_rfl) (by kernel_rfl) (by kernel_rfl) (fun _ _ _ h => h) (Or.inl ⟨by rfl, ?_⟩) HS.out ?_; rotate_left; (focus (intro w0 s6; go_simp; (try with_reducible rfl))); (try simp only [Act.put, List.getElem_toArray, List.getElem_cons_succ, List.getElem_cons_zero, List.setIfInBounds_toArray, List.set_cons_zero, List.set_cons_succ])
  refine till_take (i := 1) (v := ?_) rfl (by kernel_rfl) (by kernel_rfl) (by kernel_rfl) (by kernel_rfl) (fun _ _ _ h => h) (Or.inl ⟨by rfl, ?_⟩) HS.out ?_; rotate_left; (focus (intro w0 s6; go_simp; (try with_reducible rfl))); (try simp only [Act.put, List.getElem_toArray, List.getElem_cons_succ, List.getElem_cons_zero, List.setIfInBounds_toArray, List.set_cons_zero, List.set_cons_succ])
  refine till_take (i := 2) (v := ?_) rfl (by kernel_rfl) (by kernel_rfl) (by kernel_rfl) (by kernel_rfl) (fun _ _ _ h => h) (Or.inl ⟨by rfl, ?_⟩) HS.out ?_; rotate_left; (focus (intro w0 s6; go_simp; (try with_reducible rfl))); (try simp only [Act.put, List.getElem_toArray, List.getElem_cons_succ, List.getElem_cons_zero, List.setIfInBounds_toArray, List.set_cons_zero, List.set_cons_succ])
  refine till_take (i := 3) (v := ?_) rfl (by kernel_rfl) (by kernel_rfl) (by kernel_rfl) (by kernel_rfl) (fun _ _ _ h => h) (Or.inl ⟨by rfl, ?_⟩) HS.out ?_; rotate_left; (focus (intro w0 s6; go_simp; (try with_reducible rfl))); (try simp only [Act.put, List.getElem_toArray, List.getElem_cons_succ, List.getElem_cons_zero, List.setIfInBounds_toArray, List.set_cons_zero, List.set_cons_succ])
  refine till_take (i := 4) (v := ?_) rfl (by kernel_rfl) (by kernel_rfl) (by kernel_rfl) (by kernel_rfl) (fun _ _ _ h => h) (Or.inl ⟨by rfl, ?_⟩) HS.out ?_; rotate_left; (focus (intro w0 s6; go_simp; (try with_reducible rfl))); (try simp only [Act.put, List.getElem_toArray, List.getElem_cons_succ, List.getElem_cons_zero, List.setIfInBounds_toArray, List.set_cons_zero, List.set_cons_succ])
  refine till_take (i := 5) (v := ?_) rfl (by kernel_rfl) (by kernel_rfl) (by kernel_rfl) (by kernel_rfl) (fun _ _ _ h => h) (Or.inl ⟨by rfl, ?_⟩) HS.out ?_; rotate_left; (focus (intro w0 s6; go_simp; (try with_reducible rfl))); (try simp only [Act.put, List.getElem_toArray, List.getElem_cons_succ, List.getElem_cons_zero, List.setIfInBounds_toArray, List.set_cons_zero, List.set_cons_succ])
  obtain ⟨⟨x0, x1, x2, x3, x4, x5, x6, x7⟩, -, xl⟩ := id HR3d.out
  refine till_one (i := 6) rfl (by kernel_rfl) ?_
  intro K hK
  go_simp
  refine hK _ _ (fun _ => HS.out) ?_
  (try simp only [Act.put, List.getElem_toArray, List.getElem_cons_succ, List.getElem_cons_zero, List.setIfInBounds_toArray, List.set_cons_zero, List.set_cons_succ])
  clear hK
  refine till_one (i := 7) rfl (by kernel_rfl) ?_
  intro K hK
  refine step_call2 rfl 30 51 53 30 27 rfl eg (.pointer (some ⟨b, 0, none⟩)) r.val rfl rfl .nilIface (fun w' => ∃ a', DStep b d a1 { d with busy := [r] } a' w3 w') ((start_ok b d a1 r _ HS3d.out.at'.dev (by rw [HED.out]; simp) HA3d.out HOF.out).mono ?_) ?_
  · rintro e w4 ⟨a', he, hs⟩
    rw [HED.out] at hs
    exact ⟨he, a', hs⟩
  rintro w4 ⟨a4, hs4⟩
  have hq4 : ¬ vfoot b bm a4 w.heap.size := by
    rintro (e | e)
    · omega
    · rcases hs4.foot _ e with e | e
      · exact HNF.out (Or.inr e)
      · omega
  have HS4 := hidT (HS3d.out.trans (HS3d.out.at'.step hs4))
  have HR4 := hidT (HR3d.out.only hs4.only (fun e => HNF.out (Or.inr e)))
  have HQ4 := hidT hq4
  refine hK _ _ (fun _ => HS4.out.at'.cells.1) ?_
  (try simp only [Act.put, List.getElem_toArray, List.getElem_cons_succ, List.getElem_cons_zero, List.setIfInBounds_toArray, List.set_cons_zero, List.set_cons_succ])
  clear hK hs4 hq4 x0 x1 x2 x3 x4 x5 x6 x7 xl HS3d HR3d HA3d HS
  refine till_one (i := 8) rfl (by kernel_rfl) ?_
  intro K hK
  refine step_store_res rfl (.tmp 6) (.tmp 47) rfl w.heap.size rq0 none 0 0 0 rfl rfl HR4.out.2.1 ?_
  have HS5 := hidT (vset8 HS4.out w.heap.size (Nat.le_refl _) HQ4.out (by omega) (fun q hq => by rw [List.mem_singleton.1 hq]; exact off_of HA0.out (fun k e => by omega)) (.bool rq0.wr) (.int .i64 rq0.f) (.int .i64 rq0.m) (.slice rq0.da rq0.data.length rq0.dc) (.slice rq0.ta rq0.tags.length rq0.tc) (.int .i64 rq0.born) (.slice none 0 0) (.int .i64 0))
  have HR5 := hidT (set8_res (r := rq0) (xa := none) (n := 0) (xc := 0) (er := 0) HR4.out.2.1 HR4.out.2.2)
  refine hK _ _ (fun _ => HS5.out.at'.cells.1) ?_
  (try simp only [Act.put, List.getElem_toArray, List.getElem_cons_succ, List.getElem_cons_zero, List.setIfInBounds_toArray, List.set_cons_zero, List.set_cons_succ])
  clear hK
  generalize set8 w4 w.heap.size (.bool rq0.wr) (.int .i64 rq0.f) (.int .i64 rq0.m) (.slice rq0.da rq0.data.length rq0.dc) (.slice rq0.ta rq0.tags.length rq0.tc) (.int .i64 rq0.born) (.slice none 0 0) (.int .i64 0) = w5 at *
  clear HS4 HR4 HQ4
  refine till_one (i := 9) rfl (by kernel_rfl) ?_; intro K hK; go_simp; refine hK _ _ (fun _ => HS5.out.at'.cells.1) ?_; (try simp only [Act.put, List.getElem_toArray, List.getElem_cons_succ, List.getElem_cons_zero, List.setIfInBounds_toArray, List.set_cons_zero, List.set_cons_succ]); clear hK
  refine till_one (i := 10) rfl (by kernel_rfl) ?_; intro K hK; go_simp; refine hK _ _ (fun _ => HS5.out.at'.cells.1) ?_; (try simp only [Act.put, List.getElem_toArray, List.getElem_cons_succ, List.getElem_cons_zero, List.setIfInBounds_toArray, List.set_cons_zero, List.set_cons_succ]); clear hK
  refine till_done (by kernel_rfl) ?_ _
  obtain ⟨⟨k0, k1, k2, k3, k4, k5, k6, k7⟩, -, -⟩ := id HR5.out
  go_wp2
  exact bodyPost_ret (v := .tuple #[noRes, .bool false, .nilIface]) (by simp [results, Try.results13, go_sem, k0, k1, k2, k3, k4, k5, k6, k7, rq0]) rfl ⟨a4, rfl, HS5.out⟩
end Go.Proofs.Ytpmjgofjdejeead
