/- The document's device: Crash. -/
import Derived.Test.YthmeaclekedilacRDev5
namespace Go.Proofs.Ythmeaclekedilac
open Go.RowKit Go.BigFrame
attribute [local go_sem] Later.cell Later.frozen

theorem applyP_take (kp : Int) (l : List Pu) (k : Nat) (h : k < l.length) (G : List ByteArray) : applyP kp 0 (l.take (k + 1)) G = if bitOn kp (k % 64) = true then (applyP kp 0 (l.take k) G).set l[k].pl l[k].data else applyP kp 0 (l.take k) G := by
  rw [List.take_succ_eq_append_getElem h, applyP_snoc, List.length_take, Nat.min_eq_left (by omega), Nat.zero_add]
theorem RdAt.putAt {b : Nat} {d : Rd} {a : Ra} {w : World} (h : RdAt b d a w) {k : Nat} (hk : k < d.waits.length) : ∃ g, a.wa = some ⟨g, 0, none⟩ ∧ w.cell? ⟨g, k * 2, none⟩ = some (.int .i64 d.waits[k].pl) ∧ w.cell? ⟨g, k * 2 + 1, none⟩ = some (.string d.waits[k].data) := by
  rcases h.wrow.2 with ⟨e, h0⟩ | ⟨g, cap, cur, e, hg, hh, _⟩
  · omega
  · simp only [Value.slice.injEq] at e
    obtain ⟨e, _, _⟩ := e
    have hl := pcells_length d.waits
    have hw := h.wrow
    rw [e] at hw
    have h1 := hw.cellAt (k * 2) (by omega)
    have h2 := hw.cellAt (k * 2 + 1) (by omega)
    obtain ⟨p1, p2⟩ := pcells_at d.waits k hk
    exact ⟨g, e, h1.trans p1, h2.trans p2⟩
set_option linter.unusedSimpArgs false in
set_option maxRecDepth 100000 in
set_option maxHeartbeats 4000000 in
theorem rcrash_any (b : Nat) (d : Rd) (a : Ra) (kp : Int) (_hkp : 0 ≤ kp ∧ kp ≤ 18446744073709551615) (w : World) (h : RdAt b d a w) (hw0 : d.waits.length ≤ 1000000) :
    Calls Try.prog 22 #[.pointer (some ⟨b, 0, none⟩), .int .u64 kp] w fun e w' => e = .returned (.tuple #[]) ∧ RStep b d a (d.crash kp) ⟨none, 0, none, 0⟩ w w' := by
  have HD := hidT h
  clear h
  go_enter Try.func22, Try.ntmps22
  go_wp2_with fail
  go_loopw [4] (fun i wr => ∃ k : Nat, k ≤ d.waits.length ∧ i = .int .i64 k ∧ RStep b d a { d with kept := applyP kp 0 (d.waits.take k) d.kept } a w wr) (fun i _ => d.waits.length - (intOf i).toNat)
  case atStart => exact ⟨0, by omega, rfl, RStep.same HD.out (Below.refl _ _)⟩
  case round =>
    obtain ⟨k, hk, rfl, hs⟩ := hrel
    have HSt := hidT hs
    have c64 := hs.dev.c64
    have lbr := hs.dev.lt
    simp only at c64
    clear hs
    by_cases hlt : k < d.waits.length
    · have hlt' : (k : Int) < (d.waits.length : Int) := by omega
      obtain ⟨g, hg, p1, p2⟩ := HSt.out.dev.putAt hlt
      have hf := HD.out.wfin _ (List.getElem_mem hlt)
      have htk := applyP_take kp d.waits k hlt d.kept
      simp only at p1 p2 hg
      generalize d.waits[k] = x at *
      have HTK := hidT htk
      obtain ⟨r, hr⟩ : ∃ r : Nat, r = k % 64 := ⟨_, rfl⟩
      have hrm : (k : Int).tmod 64 = (r : Int) := by rw [Int.tmod_eq_emod_of_nonneg (by omega)]; omega
      have hr64 : r < 64 := by omega
      have hcv : IntKind.u64.wrap (k : Int) = (k : Int) := by rw [IntKind.wrap_u64]; omega
      rw [← hr] at HTK
      rw [hg] at c64
      clear htk hr
      have p1' : (x.pl : Int) < 32 := by omega
      cases hbt : bitOn kp r
      · have hb' : (bits BinOp.and IntKind.u64 (kp / 2 ^ r) 1 == 1) = false := hbt
        have HBT := hidT hbt
        clear hbt
        go_wp2
        go_roundw
        case rel =>
          refine ⟨k + 1, by omega, by go_num, ?_⟩
          rw [HTK.out, HBT.out, if_neg (by simp)]
          exact HSt.out
        case measure => simp [intOf]; omega
      · have hb' : (bits BinOp.and IntKind.u64 (kp / 2 ^ r) 1 == 1) = true := hbt
        have HBT := hidT hbt
        have cK := HSt.out.dev.cKept x.pl hf
        have fK := HSt.out.dev.fz x.pl
        have lg := lt_of_cell p1
        have HS : Hid ((fun wz : World => wz.cell? ⟨b, 64, none⟩ = some (.slice (some ⟨g, 0, none⟩) d.waits.length a.wc) ∧ wz.cell? ⟨g, k * 2, none⟩ = some (.int .i64 x.pl) ∧ wz.cell? ⟨g, k * 2 + 1, none⟩ = some (.string x.data) ∧ b < wz.heap.size ∧ wz.frozen? ⟨b, x.pl, none⟩ = false ∧ ∃ u, wz.cell? ⟨b, x.pl, none⟩ = some u) wr.drew) := ⟨c64, p1, p2, lbr, fK, _, cK⟩
        have hk0 : (0 : Int) ≤ (k : Int) := by omega
        have hx0 : (0 : Int) ≤ (x.pl : Int) := by omega
        clear hbt
        go_wp2_with fail
        refine region_till (S := fun wz : World => wz.cell? ⟨b, 64, none⟩ = some (.slice (some ⟨g, 0, none⟩) d.waits.length a.wc) ∧ wz.cell? ⟨g, k * 2, none⟩ = some (.int .i64 x.pl) ∧ wz.cell? ⟨g, k * 2 + 1, none⟩ = some (.string x.data) ∧ b < wz.heap.size ∧ wz.frozen? ⟨b, x.pl, none⟩ = false ∧ ∃ u, wz.cell? ⟨b, x.pl, none⟩ = some u) (d := 20) (by kernel_rfl) ?_
        refine till_take (i := 0) (v := ?_) rfl (by kernel_rfl) (by kernel_rfl) (by kernel_rfl) (by kernel_rfl) (fun _ _ _ h => h) (Or.inl ⟨by rfl, ?_⟩) HS.out ?_; rotate_left; (focus (intro w0 hSw; obtain ⟨s0, s1, s2, s3, s4, s5⟩ := hSw; go_simp; (try with_reducible rfl))); (try simp only [Act.put, List.getElem_toArray, List.getElem_cons_succ, List.getElem_cons_zero, List.setIfInBounds_toArray, List.set_cons_zero, List.set_cons_succ])
        refine till_take (i := 1) (v := ?_) rfl (by kernel_rfl) (by kernel_rfl) (by kernel_rfl) (by kernel_rfl) (fun _ _ _ h => h) (Or.inl ⟨by rfl, ?_⟩) HS.out ?_; rotate_left; (focus (intro w0 hSw; obtain ⟨s0, s1, s2, s3, s4, s5⟩ := hSw; go_simp; (try with_reducible rfl))); (try simp only [Act.put, List.getElem_toArray, List.getElem_cons_succ, List.getElem_cons_zero, List.setIfInBounds_toArray, List.set_cons_zero, List.set_cons_succ])
        refine till_take (i := 2) (v := ?_) rfl (by kernel_rfl) (by kernel_rfl) (by kernel_rfl) (by kernel_rfl) (fun _ _ _ h => h) (Or.inl ⟨by rfl, ?_⟩) HS.out ?_; rotate_left; (focus (intro w0 hSw; obtain ⟨s0, s1, s2, s3, s4, s5⟩ := hSw; go_simp; (try with_reducible rfl))); (try simp only [Act.put, List.getElem_toArray, List.getElem_cons_succ, List.getElem_cons_zero, List.setIfInBounds_toArray, List.set_cons_zero, List.set_cons_succ])
        refine till_take (i := 3) (v := ?_) rfl (by kernel_rfl) (by kernel_rfl) (by kernel_rfl) (by kernel_rfl) (fun _ _ _ h => h) (Or.inl ⟨by rfl, ?_⟩) HS.out ?_; rotate_left; (focus (intro w0 hSw; obtain ⟨s0, s1, s2, s3, s4, s5⟩ := hSw; go_simp; (try with_reducible rfl))); (try simp only [Act.put, List.getElem_toArray, List.getElem_cons_succ, List.getElem_cons_zero, List.setIfInBounds_toArray, List.set_cons_zero, List.set_cons_succ])
        refine till_take (i := 4) (v := ?_) rfl (by kernel_rfl) (by kernel_rfl) (by kernel_rfl) (by kernel_rfl) (fun _ _ _ h => h) (Or.inl ⟨by rfl, ?_⟩) HS.out ?_; rotate_left; (focus (intro w0 hSw; obtain ⟨s0, s1, s2, s3, s4, s5⟩ := hSw; go_simp; (try with_reducible rfl))); (try simp only [Act.put, List.getElem_toArray, List.getElem_cons_succ, List.getElem_cons_zero, List.setIfInBounds_toArray, List.set_cons_zero, List.set_cons_succ])
        refine till_take (i := 5) (v := ?_) rfl (by kernel_rfl) (by kernel_rfl) (by kernel_rfl) (by kernel_rfl) (fun _ _ _ h => h) (Or.inl ⟨by rfl, ?_⟩) HS.out ?_; rotate_left; (focus (intro w0 hSw; obtain ⟨s0, s1, s2, s3, s4, s5⟩ := hSw; go_simp; (try with_reducible rfl))); (try simp only [Act.put, List.getElem_toArray, List.getElem_cons_succ, List.getElem_cons_zero, List.setIfInBounds_toArray, List.set_cons_zero, List.set_cons_succ])
        refine till_take (i := 6) (v := ?_) rfl (by kernel_rfl) (by kernel_rfl) (by kernel_rfl) (by kernel_rfl) (fun _ _ _ h => h) (Or.inl ⟨by rfl, ?_⟩) HS.out ?_; rotate_left; (focus (intro w0 hSw; obtain ⟨s0, s1, s2, s3, s4, s5⟩ := hSw; go_simp; (try with_reducible rfl))); (try simp only [Act.put, List.getElem_toArray, List.getElem_cons_succ, List.getElem_cons_zero, List.setIfInBounds_toArray, List.set_cons_zero, List.set_cons_succ])
        refine till_take (i := 7) (v := ?_) rfl (by kernel_rfl) (by kernel_rfl) (by kernel_rfl) (by kernel_rfl) (fun _ _ _ h => h) (Or.inl ⟨by rfl, ?_⟩) HS.out ?_; rotate_left; (focus (intro w0 hSw; obtain ⟨s0, s1, s2, s3, s4, s5⟩ := hSw; go_simp; (try with_reducible rfl))); (try simp only [Act.put, List.getElem_toArray, List.getElem_cons_succ, List.getElem_cons_zero, List.setIfInBounds_toArray, List.set_cons_zero, List.set_cons_succ])
        refine till_take (i := 8) (v := ?_) rfl (by kernel_rfl) (by kernel_rfl) (by kernel_rfl) (by kernel_rfl) (fun _ _ _ h => h) (Or.inl ⟨by rfl, ?_⟩) HS.out ?_; rotate_left; (focus (intro w0 hSw; obtain ⟨s0, s1, s2, s3, s4, s5⟩ := hSw; go_simp; (try with_reducible rfl))); (try simp only [Act.put, List.getElem_toArray, List.getElem_cons_succ, List.getElem_cons_zero, List.setIfInBounds_toArray, List.set_cons_zero, List.set_cons_succ])
        refine till_take (i := 9) (v := ?_) rfl (by kernel_rfl) (by kernel_rfl) (by kernel_rfl) (by kernel_rfl) (fun _ _ _ h => h) (Or.inl ⟨by rfl, ?_⟩) HS.out ?_; rotate_left; (focus (intro w0 hSw; obtain ⟨s0, s1, s2, s3, s4, s5⟩ := hSw; go_simp; (try with_reducible rfl))); (try simp only [Act.put, List.getElem_toArray, List.getElem_cons_succ, List.getElem_cons_zero, List.setIfInBounds_toArray, List.set_cons_zero, List.set_cons_succ])
        refine till_take (i := 10) (v := ?_) rfl (by kernel_rfl) (by kernel_rfl) (by kernel_rfl) (by kernel_rfl) (fun _ _ _ h => h) (Or.inl ⟨by rfl, ?_⟩) HS.out ?_; rotate_left; (focus (intro w0 hSw; obtain ⟨s0, s1, s2, s3, s4, s5⟩ := hSw; go_simp; (try with_reducible rfl))); (try simp only [Act.put, List.getElem_toArray, List.getElem_cons_succ, List.getElem_cons_zero, List.setIfInBounds_toArray, List.set_cons_zero, List.set_cons_succ])
        refine till_take (i := 11) (v := ?_) rfl (by kernel_rfl) (by kernel_rfl) (by kernel_rfl) (by kernel_rfl) (fun _ _ _ h => h) (Or.inl ⟨by rfl, ?_⟩) HS.out ?_; rotate_left; (focus (intro w0 hSw; obtain ⟨s0, s1, s2, s3, s4, s5⟩ := hSw; go_simp; (try with_reducible rfl))); (try simp only [Act.put, List.getElem_toArray, List.getElem_cons_succ, List.getElem_cons_zero, List.setIfInBounds_toArray, List.set_cons_zero, List.set_cons_succ])
        refine till_take (i := 12) (v := ?_) rfl (by kernel_rfl) (by kernel_rfl) (by kernel_rfl) (by kernel_rfl) (fun _ _ _ h => h) (Or.inl ⟨by rfl, ?_⟩) HS.out ?_; rotate_left; (focus (intro w0 hSw; obtain ⟨s0, s1, s2, s3, s4, s5⟩ := hSw; go_simp; (try with_reducible rfl))); (try simp only [Act.put, List.getElem_toArray, List.getElem_cons_succ, List.getElem_cons_zero, List.setIfInBounds_toArray, List.set_cons_zero, List.set_cons_succ])
        refine till_take (i := 13) (v := ?_) rfl (by kernel_rfl) (by kernel_rfl) (by kernel_rfl) (by kernel_rfl) (fun _ _ _ h => h) (Or.inl ⟨by rfl, ?_⟩) HS.out ?_; rotate_left; (focus (intro w0 hSw; obtain ⟨s0, s1, s2, s3, s4, s5⟩ := hSw; go_simp; (try with_reducible rfl))); (try simp only [Act.put, List.getElem_toArray, List.getElem_cons_succ, List.getElem_cons_zero, List.setIfInBounds_toArray, List.set_cons_zero, List.set_cons_succ])
        refine till_take (i := 14) (v := ?_) rfl (by kernel_rfl) (by kernel_rfl) (by kernel_rfl) (by kernel_rfl) (fun _ _ _ h => h) (Or.inl ⟨by rfl, ?_⟩) HS.out ?_; rotate_left; (focus (intro w0 hSw; obtain ⟨s0, s1, s2, s3, s4, s5⟩ := hSw; go_simp; (try with_reducible rfl))); (try simp only [Act.put, List.getElem_toArray, List.getElem_cons_succ, List.getElem_cons_zero, List.setIfInBounds_toArray, List.set_cons_zero, List.set_cons_succ])
        refine till_take (i := 15) (v := ?_) rfl (by kernel_rfl) (by kernel_rfl) (by kernel_rfl) (by kernel_rfl) (fun _ _ _ h => h) (Or.inl ⟨by rfl, ?_⟩) HS.out ?_; rotate_left; (focus (intro w0 hSw; obtain ⟨s0, s1, s2, s3, s4, s5⟩ := hSw; go_simp; (try with_reducible rfl))); (try simp only [Act.put, List.getElem_toArray, List.getElem_cons_succ, List.getElem_cons_zero, List.setIfInBounds_toArray, List.set_cons_zero, List.set_cons_succ])
        refine till_take (i := 16) (v := ?_) rfl (by kernel_rfl) (by kernel_rfl) (by kernel_rfl) (by kernel_rfl) (fun _ _ _ h => h) (Or.inl ⟨by rfl, ?_⟩) HS.out ?_; rotate_left; (focus (intro w0 hSw; obtain ⟨s0, s1, s2, s3, s4, s5⟩ := hSw; go_simp; (try with_reducible rfl))); (try simp only [Act.put, List.getElem_toArray, List.getElem_cons_succ, List.getElem_cons_zero, List.setIfInBounds_toArray, List.set_cons_zero, List.set_cons_succ])
        refine till_one (i := 17) rfl (by kernel_rfl) ?_; intro K hK; go_simp; refine hK _ _ (fun _ => HS.out) ?_; (try simp only [Act.put, List.getElem_toArray, List.getElem_cons_succ, List.getElem_cons_zero, List.setIfInBounds_toArray, List.set_cons_zero, List.set_cons_succ]); clear hK
        refine till_one (i := 18) rfl (by kernel_rfl) ?_; intro K hK; go_simp; refine hK _ _ (fun _ => HS.out) ?_; (try simp only [Act.put, List.getElem_toArray, List.getElem_cons_succ, List.getElem_cons_zero, List.setIfInBounds_toArray, List.set_cons_zero, List.set_cons_succ]); clear hK
        refine till_one (i := 19) rfl (by kernel_rfl) ?_; intro K hK; go_simp; refine hK _ _ (fun _ => HS.out) ?_; (try simp only [Act.put, List.getElem_toArray, List.getElem_cons_succ, List.getElem_cons_zero, List.setIfInBounds_toArray, List.set_cons_zero, List.set_cons_succ]); clear hK
        refine till_one (i := 20) rfl (by kernel_rfl) ?_
        intro K hK
        go_simp
        refine hK _ _ (fun h => absurd rfl h) ?_
        (try simp only [Act.put, List.getElem_toArray, List.getElem_cons_succ, List.getElem_cons_zero, List.setIfInBounds_toArray, List.set_cons_zero, List.set_cons_succ])
        clear hK
        refine till_done (by kernel_rfl) ?_ _
        go_wp2
        go_roundw
        case rel =>
          refine ⟨k + 1, by omega, by go_num, ?_⟩
          rw [HTK.out, if_pos HBT.out]
          exact (HSt.out.trans (HSt.out.dev.setKept1 hf x.data)).drewAt
        case measure => simp [intOf]; omega
    · have hkl : k = d.waits.length := by omega
      subst hkl
      rw [List.take_length] at HSt
      have hK32 := HSt.out.dev.k32
      have S5 := HSt.out.dev.setNows _ hK32
      have S6 := S5.dev.noWaits
      have S7 := S6.dev.noBusy
      have HE : Hid ((strV (applyP kp 0 d.waits d.kept)).length = 32) := by show _ = _; rw [strV_length]; exact hK32
      have f64 := S5.dev.fz 64
      have x64 := S5.dev.c64
      have f65 := S6.dev.fz 65
      have x65 := S6.dev.c65
      have HS7 := hidT (((HSt.out.trans S5).trans S6).trans S7)
      simp only at f64 x64 f65 x65
      clear S5 S6 S7 hK32
      go_wp2_with (first | (refine wpList_load_mid rfl 28 (.tmp 44) rfl b 0 rfl (strV (applyP kp 0 d.waits d.kept)) _ HSt.out.dev.rangeKept Try.underlying28 rfl (by rw [HE.out]; exact size32) ?_) | (refine wpList_store_mid rfl 28 (.tmp 47) (.tmp 45) rfl b 32 (strV (applyP kp 0 d.waits d.kept)).toArray rfl rfl (by rw [List.size_toArray, HE.out]; exact HSt.out.dev.there 32 32 (by omega)) (by rw [List.size_toArray, HE.out]; exact size32) (all_oneCell_toArray (strV_one _)) ?_; simp only))
      go_end0
      exact ⟨rfl, HS7.out⟩
end Go.Proofs.Ythmeaclekedilac
