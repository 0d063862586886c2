/- slices.Insert of one sector, in the midst, where there is no room. -/
import Derived.Test.YtpmjgofjdejeeacCache9
import Derived.Lib.AppendZeros
namespace Go.Proofs.Ytpmjgofjdejeeac
open Go.RowKit Go.BigFrame
attribute [local go_sem] Later.cell Later.frozen

set_option maxRecDepth 100000 in
set_option maxHeartbeats 2000000 in
theorem insB_grow (b n i vb : Nat) (ys xs X : List Value) (tv : TypeId) (w : World) (hi : i < n) (hn : n ≤ 1000)
    (hyl : ys.length = i * 4) (hy : ∀ j v, ys[j]? = some v → w.cell? ⟨b, j, none⟩ = some v) (hlt : b < w.heap.size)
    (hxl : xs.length = (n - i) * 4) (hx : ∀ j v, xs[j]? = some v → w.cell? ⟨b, i * 4 + j, none⟩ = some v) (h1 : ∀ v ∈ xs, v.oneCell' = true) (hv : w.heap[vb]? = some (.cells X.toArray tv (0, 0))) (hvl : vb < w.heap.size) (hXl : X.length = 4) (hX1 : ∀ v ∈ X, v.oneCell' = true) :
    Calls Try.prog 70 #[.slice (some ⟨b, 0, none⟩) n n, .int .i64 i, .slice (some ⟨vb, 0, none⟩) 1 1] w fun e w' =>
      ∃ G ROW, e = .returned (.slice (some ⟨w.heap.size, 0, none⟩) (n + 1) G) ∧ n + 1 ≤ G ∧ G ≤ maxLen ∧ ROW.length = G * 4 ∧ ROW.take (i * 4) = ys ∧ w'.heap[w.heap.size]? = some (.cells (splice (splice ROW (i * 4) X) ((i + 1) * 4) xs).toArray 72 (0, 0)) ∧ Below w.heap.size w w' := by
  have q1 : ¬ ((i : Int) = (n : Int)) := by omega
  have q2 : ((n : Int) < (n : Int) + 1) := by omega
  have hwr : IntKind.i64.wrap ((n : Int) + 1) = (n : Int) + 1 := by rw [IntKind.wrap_i64]; omega
  have hwi : IntKind.i64.wrap ((i : Int) + 1) = (i : Int) + 1 := by rw [IntKind.wrap_i64]; omega
  have hws : IntKind.i64.wrap ((n : Int) + 1 - (i : Int)) = (n : Int) + 1 - (i : Int) := by rw [IntKind.wrap_i64]; omega
  obtain ⟨i0, hi0, hz0, hzs, hzb⟩ := pluck infoB
  have hold : (Builtin.firstCells i0.size i (.slice (some ⟨b, 0, none⟩) i n)).run Try.prog w.drew = .ok ys.toArray w.drew := by
    rw [hzs]
    exact run_firstCells_some w.drew 4 i ⟨b, 0, none⟩ i n ys (by omega) (fun j v hj => by rw [addB_mk, Nat.zero_add]; exact hy j v hj)
  have hik : i + (n + 1 - i) = n + 1 := by omega
  have hkk : (n : Int) + 1 - (i : Int) = ((n + 1 - i : Nat) : Int) := by omega
  obtain ⟨G, hG⟩ : ∃ G, G = grownCap w (n + 1) n 72 := ⟨_, rfl⟩
  obtain ⟨ROW, hROW⟩ : ∃ ROW : List Value, ROW = (ys.toArray ++ (Builtin.zeroCells (Value.agg #[.int .i64 0, .string ByteArray.empty, .bool false, .int .i64 0]).cells (n + 1 - i)) ++ (Builtin.zeroCells (Value.agg #[.int .i64 0, .string ByteArray.empty, .bool false, .int .i64 0]).cells (G - (n + 1)))).toList := ⟨_, rfl⟩
  have hrz : ∀ ty, (Builtin.append_ #[70, 3] ty #[.slice (some ⟨b, 0, none⟩) i n, .int .i64 ((n : Int) + 1 - (i : Int))]).run Try.prog w =
      .ok (.slice (some ⟨w.heap.size, 0, none⟩) (n + 1) G) (w.drew.alloc (.cells ROW.toArray 72)) := fun ty => by
    have h := Lib.run_append_grow_zeros w 70 3 ty 72 i0 _ .i64 .i64 Try.underlying70 Try.underlying3 hi0 hz0 (some ⟨b, 0, none⟩) i n ys hold (n + 1 - i) (by omega) (by omega) (by omega) (by omega) (by rw [hzb]; omega) (by rw [hzb, hik]; exact growslice_fits (by omega) (by omega))
    rw [hik, ← hG] at h
    rw [hkk, h, hROW, Array.toArray_toList]
  have hge : n + 1 ≤ G := by rw [hG]; exact grownCap_ge w _ _ _
  have hGm : G ≤ maxLen := by rw [hG]; exact grownCap_le_maxLen w (n + 1) n _ (by unfold maxLen; omega)
  have hG63 : G ≤ 9223372036854775807 := by unfold maxLen at hGm; omega
  have hRl : ROW.length = G * 4 := by
    rw [hROW]
    simp only [Array.size_append, Array.length_toList, size_zeroCells, List.size_toArray, hyl]
    simp [Value.cells]
    omega
  have hRt : ROW.take (i * 4) = ys := by rw [hROW, Array.toList_append, Array.toList_append, List.toList_toArray, List.append_assoc, List.take_append_of_le_length (by omega), List.take_of_length_le (by omega)]
  clear hROW hold hG hkk hik
  obtain ⟨W1, hW1⟩ : ∃ W1, W1 = w.drew.alloc (.cells ROW.toArray 72) := ⟨_, rfl⟩
  rw [← hW1] at hrz
  have g1 : W1.heap[w.heap.size]? = some (.cells ROW.toArray 72 (0, 0)) := by rw [hW1]; exact heap_alloc_new w.drew _
  have b1 : Below w.heap.size w W1 := by rw [hW1]; exact ((Below.refl _ _).drew).alloc (Nat.le_refl _) _
  have o1 : ∀ k, k < w.heap.size → W1.heap[k]? = w.heap[k]? := fun k hk => by rw [hW1]; exact Below.heap_alloc w.drew _ k hk
  have z1 : W1.heap.size = w.heap.size + 1 := by rw [hW1]; simp
  have e1 : ROW.length = G * 4 ∧ xs.length = (n - i) * 4 ∧ X.length = 4 := ⟨hRl, hxl, hXl⟩
  clear hW1
  have hM2 : Nat.min 1 (n + 1 - i) = 1 := by simp only [Nat.min_def]; split <;> omega
  have hM : Nat.min (n - i) (n + 1 - (i + 1)) = n - i := by simp only [Nat.min_def]; split <;> omega
  have hv1 : W1.heap[vb]? = some (.cells X.toArray tv (0, 0)) := (o1 vb hvl).trans hv
  obtain ⟨W2, hc1, g2, bb2, o2⟩ := run_copy_sp (P := Try.prog) W1 70 70 3 72 4 (some ⟨w.heap.size, i * 4, none⟩) (some ⟨vb, 0, none⟩) (n + 1 - i) (G - i) 1 1 w.heap.size (i * 4) _ 72 X Try.underlying70 sizeB g1 (by rw [hM2, hXl]) (fun _ => ⟨rfl, _, rfl, fun j v hj => cell_row hv1 _ _ _ (by simpa using hj)⟩) (by rw [hRl, hXl]; omega) hX1
  have s2 : (splice ROW (i * 4) X).length = G * 4 := by rw [length_splice _ _ _ (by rw [hRl, hXl]; omega), hRl]
  have src : ∀ j v, xs[j]? = some v → W2.cell? (Addr.add ⟨b, i * 4, none⟩ j) = some v := fun j v hj => by
    rw [addB_mk]
    have := hx j v hj
    simp only [World.cell?] at this ⊢
    rw [o2 b (by omega), o1 b hlt]
    exact this
  have HE := hidB e1
  have HS := hidB src
  have HG2 := hidB g2
  have H1 := hidB h1
  have HT := hidB hRt
  have HB := hidB (b1.trans (bb2 w.heap.size (Nat.le_refl _)))
  have HL2 := hidB s2
  have HM := hidB hM
  have hs1 := fun w' => sliceB_to b n n i w' hi (Nat.le_refl _)
  have hs2 := fun w' => sliceB_at w.heap.size (n + 1) G i w' (by omega) hge
  have hs3 := fun w' => sliceB_from w.heap.size (n + 1) G i w' (by omega) (by omega)
  have hs4 := fun w' => sliceB_at b n n i w' hi (Nat.le_refl _)
  have hcp1 := hc1
  clear hc1 e1 src g2 h1 hRt b1 bb2 s2 hM o1 o2 z1 hRl hxl hXl hx hy hyl hv hv1 g1 hX1 hM2 hG63
  go_enter Try.func70, Try.ntmps70
  go_wp2_with (at_builtin; refine Lib.wpList_append_run _ rfl _ _ _ _ rfl _ _ rfl rfl _ _ (hrz _) ?_)
  go_region_law (refine step_copy_sp rfl (.tmp 50) (.tmp 53) 70 70 rfl 72 4 Try.underlying70 sizeB (some ⟨w.heap.size, (i + 1) * 4, none⟩) (some ⟨b, i * 4, none⟩) (n + 1 - (i + 1)) (G - (i + 1)) (n - i) (n - i) (by simp [Act.eval, Act.put]) (by simp [Act.eval, Act.put]) w.heap.size ((i + 1) * 4) (splice ROW (i * 4) X) 72 xs HG2.out (by rw [HE.out.2.1, HM.out]) (fun _ => ⟨rfl, _, rfl, HS.out⟩) (by rw [HL2.out, HE.out.2.1]; omega) H1.out w.heap.size (Nat.le_refl _) ?_; intro w3 n3 G3 hb3 K3)
  go_wp2
  go_ret
  exact ⟨G, ROW, rfl, hge, hGm, HE.out.1, HT.out, G3.out, (HB.out.drew).trans hb3⟩

theorem insB (l : List Bf) (a : Option Addr) (c base vb i : Nat) (x : Bf) (tv : TypeId) (w : World) (hi : i ≤ l.length) (h8 : l.length ≤ 1000) (hbase : base ≤ w.heap.size) (hN : NewBufs base w a c l) (hv : w.heap[vb]? = some (.cells (bcs x).toArray tv (0, 0)))
    (hne : ∀ b, a = some ⟨b, 0, none⟩ → vb ≠ b) :
    Calls Try.prog 70 #[.slice a l.length c, .int .i64 i, .slice (some ⟨vb, 0, none⟩) 1 1] w fun e w' =>
      ∃ a' c', e = .returned (.slice a' (l.length + 1) c') ∧ NewBufs base w' a' c' (l.take i ++ x :: l.drop i) ∧ Below base w w' := by
  have hvl : vb < w.heap.size := by
    rcases Nat.lt_or_ge vb w.heap.size with h' | h'
    · exact h'
    · rw [Array.getElem?_eq_none h'] at hv; cases hv
  by_cases hin : i = l.length
  · subst hin
    rw [List.take_length, List.drop_length]
    exact insB_end l a c base vb x tv w h8 hbase hN hv
  · have hlt : i < l.length := by omega
    have h0 : l ≠ [] := by rintro rfl; exact absurd hlt (Nat.not_lt_zero _)
    obtain ⟨b, rfl, hbb, hblt, hfz⟩ := hN.place h0
    have hne := hne b rfl
    have hnl : (l.take i ++ x :: l.drop i).length = l.length + 1 := by simp; omega
    have hcells : bcells (l.take i ++ x :: l.drop i) = bcells (l.take i) ++ bcs x ++ bcells (l.drop i) := by
      rw [show l.take i ++ x :: l.drop i = l.take i ++ [x] ++ l.drop i by simp, bcells_append, bcells_append, bcs_bcells]
    have hdl : (bcells (l.drop i)).length = (l.length - i) * 4 := by rw [bcells_length, List.length_drop]
    have hX1 : ∀ v ∈ bcs x, v.oneCell' = true := by rw [← bcs_bcells]; exact bcells_one _
    rcases hN.own.2 with ⟨h, _⟩ | ⟨g, cap, cur, hvv, hg, hh, hnc, hcm, hcs, ht⟩
    · cases h
    · simp only [Value.slice.injEq, Option.some.injEq, Addr.mk.injEq, and_true, true_and] at hvv
      obtain ⟨rfl, rfl⟩ := hvv
      have hcm' : c ≤ 9223372036854775807 := by unfold maxLen at hcm; omega
      have hcl : cur.toList.length = c * 4 := by rw [Array.length_toList]; exact hcs
      have hh' : w.heap[b]? = some (.cells cur.toList.toArray 72 (0, 0)) := by rw [Array.toArray_toList]; exact hh
      have hxs : ∀ j v, (bcells (l.drop i))[j]? = some v → cur.toList[i * 4 + j]? = some v := fun j v hj => by
        rw [bcells_drop, ← ht, List.getElem?_take] at hj
        split at hj
        · exact hj
        · cases hj
      have hys : (bcells (l.take i)) = cur.toList.take (i * 4) := by rw [← bcells_take, ← ht, List.take_take, Nat.min_eq_left (by omega)]
      by_cases hroom : l.length + 1 ≤ c
      · refine (insB_shift b l.length c i vb cur.toList (bcells (l.drop i)) (bcs x) tv base w hg hne hh' hcl hlt hroom hcm' hdl hxs (bcells_one _) hv rfl hX1).mono ?_
        rintro e w' ⟨rfl, hrow, hB⟩
        have hsl : (splice cur.toList ((i + 1) * 4) (bcells (l.drop i))).length = c * 4 := by rw [length_splice _ _ _ (by rw [hcl, hdl]; omega), hcl]
        have hX4 : (bcs x).length = 4 := rfl
        have ho : w'.ownsRow base 72 4 (.slice (some ⟨b, 0, none⟩) (l.take i ++ x :: l.drop i).length c) (l.take i ++ x :: l.drop i).length (bcells (l.take i ++ x :: l.drop i)) := by
          refine ⟨bcells_length _, Or.inr ⟨b, c, _, rfl, hg, hrow, by omega, hcm, ?_, ?_⟩⟩
          · rw [List.size_toArray, length_splice _ _ _ (by rw [hsl, hX4]; omega), hsl]
          · rw [List.toList_toArray, hnl, hcells]
            have e1 : (splice (splice cur.toList ((i + 1) * 4) (bcells (l.drop i))) (i * 4) (bcs x)) = cur.toList.take (i * 4) ++ (bcs x ++ (splice cur.toList ((i + 1) * 4) (bcells (l.drop i))).drop ((i + 1) * 4)) := by
              rw [splice, take_splice_le _ _ _ _ (by omega) (by omega), hX4, show i * 4 + 4 = (i + 1) * 4 by omega]
            have e2 : (splice cur.toList ((i + 1) * 4) (bcells (l.drop i))).drop ((i + 1) * 4) = bcells (l.drop i) ++ cur.toList.drop ((i + 1) * 4 + (bcells (l.drop i)).length) := by
              rw [splice, List.drop_append_of_le_length (by rw [List.length_take]; omega), List.drop_eq_nil_of_le (by rw [List.length_take]; omega), List.nil_append]
            rw [e1, e2, ← hys, ← List.append_assoc, ← List.append_assoc, List.take_append_of_le_length (by simp only [List.length_append, hX4, hdl, bcells_length, List.length_take]; omega), List.take_of_length_le (by simp only [List.length_append, hX4, hdl, bcells_length, List.length_take]; omega)]
        obtain ⟨a', c', hv', hN'⟩ := new_of_owned ho rfl (by omega)
        simp only [Value.slice.injEq, true_and] at hv'
        obtain ⟨rfl, rfl⟩ := hv'
        exact ⟨_, _, rfl, hN', hB⟩
      · obtain rfl : c = l.length := by omega
        refine (insB_grow b l.length i vb (bcells (l.take i)) (bcells (l.drop i)) (bcs x) tv w hlt h8 (by rw [bcells_length, List.length_take]; omega) (fun j v hj => ?_) hblt hdl (fun j v hj => ?_) (bcells_one _) hv hvl rfl hX1).mono ?_
        · have := cell_row hh' 0 j v (by
            rw [hys, List.getElem?_take] at hj
            split at hj
            · simpa using hj
            · cases hj)
          rw [addB_mk, Nat.zero_add] at this
          exact this
        · have := cell_row hh' (i * 4) j v (hxs j v hj)
          rw [addB_mk] at this
          exact this
        · rintro e w' ⟨G, ROW, rfl, hge, hGm, hRl, hRt, hrow, hB⟩
          have hX4 : (bcs x).length = 4 := rfl
          have hsl : (splice ROW (i * 4) (bcs x)).length = G * 4 := by rw [length_splice _ _ _ (by rw [hRl, hX4]; omega), hRl]
          have ho : w'.ownsRow base 72 4 (.slice (some ⟨w.heap.size, 0, none⟩) (l.take i ++ x :: l.drop i).length G) (l.take i ++ x :: l.drop i).length (bcells (l.take i ++ x :: l.drop i)) := by
            refine ⟨bcells_length _, Or.inr ⟨w.heap.size, G, _, rfl, hbase, hrow, by omega, hGm, ?_, ?_⟩⟩
            · rw [List.size_toArray, length_splice _ _ _ (by rw [hsl, hdl]; omega), hsl]
            · rw [List.toList_toArray, hnl, hcells, show (l.length + 1) * 4 = (i + 1) * 4 + (bcells (l.drop i)).length by rw [hdl]; omega, take_splice _ _ _ (by rw [hsl]; omega), show (i + 1) * 4 = i * 4 + (bcs x).length by rw [hX4]; omega, take_splice _ _ _ (by rw [hRl]; omega), hRt]
          obtain ⟨a', c', hv', hN'⟩ := new_of_owned ho rfl (by omega)
          simp only [Value.slice.injEq, true_and] at hv'
          obtain ⟨rfl, rfl⟩ := hv'
          refine ⟨_, _, ?_, hN', hB.mono hbase⟩
          rfl
end Go.Proofs.Ytpmjgofjdejeeac
