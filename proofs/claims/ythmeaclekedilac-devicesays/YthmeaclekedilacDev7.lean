/- A device: do: what a request reads, or writes. -/
import Derived.Test.YthmeaclekedilacDev6
import Derived.Test.YthmeaclekedilacGood
namespace Go.Proofs.Ythmeaclekedilac
open Go.RowKit Go.BigFrame
attribute [local go_sem] Later.cell Later.frozen

theorem Good.bndD {r : Rq} (h : Good r) : 0 ≤ r.f ∧ r.f ≤ 31 ∧ 1 ≤ r.m ∧ r.m ≤ 4 ∧ r.m ≤ 32 - r.f := by
  have := h.ok
  simp only [okB, decide_eq_true_eq] at this
  omega
theorem strs_of_ownedD {w : World} {base e n : Nat} {v : Value} {xs : List ByteArray} (h : w.ownsRow base e 1 v n (strV xs)) (hn : n = xs.length) : ∃ a c, v = .slice a xs.length c ∧ StrsAt w a xs ∧ (a = none → c = 0) ∧ ∀ ad, a = some ad → base ≤ ad.block := by
  subst hn
  rcases h.2 with ⟨rfl, h0⟩ | ⟨g, cap, cur, rfl, hg, hh, hnc, hcm, hcs, ht⟩
  · obtain rfl := List.eq_nil_of_length_eq_zero h0
    exact ⟨none, 0, rfl, Or.inl rfl, fun _ => rfl, by simp⟩
  · refine ⟨_, cap, rfl, Or.inr ⟨g, 0, rfl, fun i hi => ?_⟩, by simp, fun ad e => ?_⟩
    · have hc := h.cellAt i (by omega)
      rw [Nat.zero_add, hc]
      simp [strV, List.getElem?_eq_getElem hi]
    · simp only [Option.some.injEq] at e; subst e; exact hg
/-- What has been read, so far. -/
def readTo (d : Dl) (f n : Nat) : List ByteArray := (List.range n).map fun j => d.now.getD (f + j) ByteArray.empty
theorem readTo_succ (d : Dl) (f n : Nat) : readTo d f (n + 1) = readTo d f n ++ [d.now.getD (f + n) ByteArray.empty] := by simp [readTo, List.range_succ]
theorem readTo_length (d : Dl) (f n : Nat) : (readTo d f n).length = n := by simp [readTo]
theorem infoS : (Try.prog.info? 9).map (fun i => (i.zero, i.size, i.bytes)) = some (some (.string ByteArray.empty), 1, 16) := by kernel_rfl
theorem has_in (r : Rq) (gr : Good r) (k : Nat) (hk : k < 32) : hasB r.f r.m k = decide (r.f.toNat ≤ k ∧ k < r.f.toNat + r.m.toNat) := by
  have := gr.bndD
  rw [hasB_ok r.f r.m 4 k gr.ok (by omega), inSpan]
  congr 1
  simp only [eq_iff_iff]
  omega
/-- How many sectors of the span lie below k. -/
def below (f m k : Nat) : Nat := min (k - f) m
theorem below_in {f m k : Nat} (h1 : f ≤ k) (h2 : k < f + m) : below f m (k + 1) = below f m k + 1 ∧ f + below f m k = k := by unfold below; omega
theorem below_out {f m k : Nat} (h : ¬ (f ≤ k ∧ k < f + m)) : below f m (k + 1) = below f m k := by unfold below; omega
theorem below_all {f m : Nat} (h : f + m ≤ 32) : below f m 32 = m := by unfold below; omega

set_option maxRecDepth 100000 in
set_option maxHeartbeats 2000000 in
theorem do_read (b : Nat) (d : Dl) (a : An) (r : Rq) (w : World) (h : DevAt b d a w) (gr : Good r) (hw : r.wr = false) :
    Calls Try.prog 57 #[.pointer (some ⟨b, 0, none⟩), r.val] w fun e w' => ∃ xa xc, e = .returned (.slice xa (readTo d r.f.toNat r.m.toNat).length xc) ∧ StrsAt w' xa (readTo d r.f.toNat r.m.toNat) ∧ (xa = none → xc = 0) ∧ (∀ ad, xa = some ad → w.heap.size ≤ ad.block) ∧ Below w.heap.size w w' := by
  obtain ⟨iS, hi, hz0, hz1, hz2⟩ := pluck infoS
  have HI := hidT (⟨hi, hz0, hz1, hz2⟩ : Try.prog.info? 9 = some iS ∧ _ ∧ _ ∧ _)
  have HB0 := hidT gr.bndD
  have HHAS := hidT (has_in r gr)
  have HD := hidT h
  have hl := h.lt
  clear hi hz0 hz1 hz2 h gr
  obtain ⟨wr0, f, m, da, dc, data, ta, tc, tags, born⟩ := r
  simp only at *
  subst hw
  go_enter Try.func57, Try.ntmps57
  go_wp2_with fail
  have hB0 := hidT (below1 w (.cells #[.bool false, .int .i64 f, .int .i64 m, .slice da data.length dc, .slice ta tags.length tc, .int .i64 born] 38))
  have hc0 : Hid (∀ wr, Below (w.heap.size + 1) (w.alloc (.cells #[.bool false, .int .i64 f, .int .i64 m, .slice da data.length dc, .slice ta tags.length tc, .int .i64 born] 38)) wr → wr.cell? ⟨w.heap.size, 0, none⟩ = some (.bool false) ∧ wr.cell? ⟨w.heap.size, 1, none⟩ = some (.int .i64 f) ∧ wr.cell? ⟨w.heap.size, 2, none⟩ = some (.int .i64 m)) := fun wr hb =>
    ⟨(hb.cell (p := ⟨w.heap.size, 0, none⟩) (by simp)).trans (by simp), (hb.cell (p := ⟨w.heap.size, 1, none⟩) (by simp)).trans (by simp), (hb.cell (p := ⟨w.heap.size, 2, none⟩) (by simp)).trans (by simp)⟩
  generalize hW1 : w.alloc (.cells #[.bool false, .int .i64 f, .int .i64 m, .slice da data.length dc, .slice ta tags.length tc, .int .i64 born] 38) = w1 at *
  have hs1 : w1.heap.size = w.heap.size + 1 := by rw [← hW1]; simp
  have HS1 := hidT hs1
  clear hW1 hs1
  go_loopw [5, 9] (fun v i wr => ∃ k : Nat, k ≤ 32 ∧ i = .int .i64 k ∧ wr.ownsRow (w.heap.size + 1) 9 1 v (below f.toNat m.toNat k) (strV (readTo d f.toNat (below f.toNat m.toNat k))) ∧ Below (w.heap.size + 1) w1 wr) (fun _ i _ => 32 - (intOf i).toNat)
  case atStart => exact ⟨0, by omega, rfl, by simpa [below, readTo, strV] using World.ownsRow_nil w1 (w.heap.size + 1) 9 1, Below.refl _ _⟩
  case round =>
    obtain ⟨k, hk, rfl, hown, HB⟩ := hrel
    have HOWN := hidT hown
    obtain ⟨c0, c1, c2⟩ := hc0.out wr HB
    have hsz := HB.size
    rw [HS1.out] at hsz
    clear hown
    by_cases hlt : k < 32
    · have hhs := HHAS.out k hlt
      have hlt' : (k : Int) < 32 := by omega
      by_cases hin : f.toNat ≤ k ∧ k < f.toNat + m.toNat
      · rw [decide_eq_true hin] at hhs
        obtain ⟨e1, e2⟩ := below_in hin.1 hin.2
        have HE := hidT (⟨e1, e2⟩ : _ ∧ _)
        have hbm : below f.toNat m.toNat k ≤ 32 := by unfold below; omega
        clear e1 e2 hin
        go_wp2_with fail
        refine (has_eq _ _ _ _ _ hhs).mono ?_
        rintro e w2 ⟨rfl, hb2⟩
        have HB2 := HB.trans (hb2.mono hsz)
        have hown2 := hidT (own_frame HOWN.out (fun g hg => hb2.block g (HOWN.out.lt g hg).2))
        obtain ⟨c0', c1', c2'⟩ := hc0.out w2 HB2
        have hsz2 := HB2.size
        rw [HS1.out] at hsz2
        have hdev : DevAt b d a w2 := HD.out.later (bthen hB0.out (HB2.mono (by rw [HS1.out]; omega)))
        have cn := hdev.cNow k hlt
        have lbb := hdev.lt
        have HBL := hidT hbm
        clear hdev hb2 hhs hbm c0 c1 c2
        generalize hs : d.now.getD k ByteArray.empty = s at *
        have HSS := hidT hs
        clear hs
        go_wp2_with (at_builtin; refine wpList_append_row rfl _ _ 35 rfl (w.heap.size + 1) 9 iS _ 1 16 Try.underlying35 HI.out.1 HI.out.2.1 HI.out.2.2.1 HI.out.2.2.2 rfl (by decide) _ (below f.toNat m.toNat k) (strV (readTo d f.toNat (below f.toNat m.toNat k))) rfl (hown2.out.alloc _) (some ⟨w2.heap.size, 0, none⟩) 1 1 [.string s] rfl ⟨rfl, by simp [Value.oneCell'], Or.inr ⟨_, rfl, fun j u hj => newRowAt rfl _ _ j u hj⟩⟩ (by have := HBL.out; unfold maxLen; omega) (by have := HBL.out; omega) (by simp; omega) ?_; intro v3 w3 hown3 hb3)
        go_roundw
        case rel =>
          refine ⟨k + 1, by omega, by go_num, ?_, HB2.trans (((Below.refl _ _).alloc (by omega) _).trans hb3)⟩
          rw [HE.out.1, readTo_succ, HE.out.2, HSS.out]
          simpa [strV] using hown3
        case measure => simp [intOf]; omega
      · rw [decide_eq_false hin] at hhs
        have HE := hidT (below_out hin)
        clear hin
        go_wp2_with fail
        refine (has_eq _ _ _ _ _ hhs).mono ?_
        rintro e w2 ⟨rfl, hb2⟩
        have HB2 := HB.trans (hb2.mono hsz)
        have hown2 := hidT (own_frame HOWN.out (fun g hg => hb2.block g (HOWN.out.lt g hg).2))
        clear hb2 hhs c0 c1 c2
        go_wp2
        go_roundw
        case rel => exact ⟨k + 1, by omega, by go_num, by rw [HE.out]; exact hown2.out, HB2⟩
        case measure => simp [intOf]; omega
    · have hk32 : k = 32 := by omega
      subst hk32
      obtain ⟨b1, b2, b3, b4, b5⟩ := HB0.out
      have hall : below f.toNat m.toNat 32 = m.toNat := below_all (by omega)
      rw [hall] at HOWN
      obtain ⟨xa, xc, rfl, hst, hnn, had⟩ := strs_of_ownedD HOWN.out (readTo_length _ _ _).symm
      have HST := hidT (⟨hst, hnn, had⟩ : _ ∧ _ ∧ _)
      clear hst hnn had b1 b2 b3 b4 b5 hall
      go_wp2
      go_ret
      exact ⟨xa, xc, rfl, HST.out.1, HST.out.2.1, fun ad e => Nat.le_of_succ_le (HST.out.2.2 ad e), hB0.out.trans (HB.mono (by omega))⟩
end Go.Proofs.Ythmeaclekedilac
