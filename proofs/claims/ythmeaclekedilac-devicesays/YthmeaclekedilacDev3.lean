/- slices.Delete of one request, in place. -/
import Derived.Test.YthmeaclekedilacDev2
import Derived.Test.YthmeaclekedilacSplice2
import Derived.Deep.RegionLaw
namespace Go.Proofs.Ythmeaclekedilac
open Go.RowKit Go.BigFrame
attribute [local go_sem] Later.cell Later.frozen

theorem grow_trans {a b c : World} {g : Nat} (h : a.grownBy b (some g)) (k : b.grownBy c (some g)) : a.grownBy c (some g) :=
  ⟨k.os.trans h.os, k.tape.trans h.tape, k.output.trans h.output, Nat.le_trans h.size k.size, fun i hi hn => (k.block i (Nat.lt_of_lt_of_le hi h.size) hn).trans (h.block i hi hn)⟩
theorem grow_drew {a b : World} {row : Option Nat} (h : a.drew.grownBy b row) : a.grownBy b row := ⟨h.os, h.tape, h.output, h.size, h.block⟩
theorem zeroR (w : World) : (zeroValue 38).run Try.prog w = .ok (.agg #[.bool false, .int .i64 0, .int .i64 0, .slice none 0 0, .slice none 0 0, .int .i64 0]) w := Try.zeroValue38 w
theorem sizeR : (Try.prog.info? 38).map (·.size) = some 6 := by kernel_rfl

theorem sliceR_from (b n c i : Nat) (w : World) (hlt : i < n) (hce : ¬ c = i + 1) : (Instr.slice 30 (.slice (some ⟨b, 0, none⟩) n c) (some (.int .i64 ((i : Int) + 1))) none none).run Try.prog w = .ok (.slice (some ⟨b, (i + 1) * 6, none⟩) (n - (i + 1)) (c - (i + 1))) w := by
  have h1 : (0 : Int) ≤ (i : Int) + 1 := by omega
  have h2 : (i : Int) + 1 ≤ (n : Int) := by omega
  simp [go_sem, h1, h2, hce]
theorem sliceR_to (b n c i : Nat) (w : World) (hlt : i < n) (hcap : n ≤ c) : (Instr.slice 30 (.slice (some ⟨b, 0, none⟩) n c) none (some (.int .i64 (i : Int))) none).run Try.prog w = .ok (.slice (some ⟨b, 0, none⟩) i c) w := by
  have h2 : i ≤ c := by omega
  simp [go_sem, h2]
theorem sliceR_end (b n i : Nat) (w : World) (hlt : n = i + 1) : (Instr.slice 30 (.slice (some ⟨b, 0, none⟩) n (i + 1)) (some (.int .i64 ((i : Int) + 1))) none none).run Try.prog w = .ok (.slice (some ⟨b, 0, none⟩) 0 0) w := by
  subst hlt
  have h1 : (0 : Int) ≤ (i : Int) + 1 := by omega
  simp [go_sem, h1]
theorem sliceR_cut (b n c i : Nat) (w : World) (hlt : i < n) (hcap : n ≤ c) (hm : c ≤ 9223372036854775807) : (Instr.slice 30 (.slice (some ⟨b, 0, none⟩) (n - 1) c) (some (.int .i64 ((n - 1 : Nat) : Int))) (some (.int .i64 (n : Int))) none).run Try.prog w = .ok (.slice (some ⟨b, (n - 1) * 6, none⟩) 1 (c - (n - 1))) w := by
  have h1 : ((n - 1 : Nat) : Int) ≤ (n : Int) := by omega
  have h2 : ¬ c = n - 1 := by omega
  have h3 : n - (n - 1) = 1 := by omega
  simp [go_sem, h1, h2, h3, hcap]

def zs6 : List Value := (Builtin.zeroCells (Value.agg #[.bool false, .int .i64 0, .int .i64 0, .slice none 0 0, .slice none 0 0, .int .i64 0]).cells 1).toList
theorem zs6_length : zs6.length = 6 := by simp [zs6, Builtin.zeroCells, Value.cells]
theorem cell_row {w : World} {b : Nat} {cur : List Value} {t : TypeId} (hg : w.heap[b]? = some (.cells cur.toArray t (0, 0))) (o j : Nat) (v : Value) (h : cur[o + j]? = some v) : w.cell? (Addr.add ⟨b, o, none⟩ j) = some v := by
  rw [Addr.add_mid]
  simp [World.cell?, hg, h]

set_option maxRecDepth 100000 in
set_option maxHeartbeats 2000000 in
theorem delR_core (b n c k : Nat) (cur xs : List Value) (w : World) (hg : w.heap[b]? = some (.cells cur.toArray 38 (0, 0))) (hcl : cur.length = c * 6) (hk : k < n) (hnc : n ≤ c) (hcm : c ≤ 9223372036854775807)
    (hxl : xs.length = (n - (k + 1)) * 6) (hx : ∀ j v, xs[j]? = some v → cur[(k + 1) * 6 + j]? = some v) (h1 : ∀ v ∈ xs, v.oneCell' = true) :
    Calls Try.prog 56 #[.slice (some ⟨b, 0, none⟩) n c, .int .i64 k, .int .i64 ((k : Int) + 1)] w fun e w' =>
      e = .returned (.slice (some ⟨b, 0, none⟩) (n - 1) c) ∧ w'.heap[b]? = some (.cells (splice (splice cur (k * 6) xs) ((n - 1) * 6) zs6).toArray 38 (0, 0)) ∧ w.grownBy w' (some b) := by
  have q1 : (k : Int) + 1 ≤ (n : Int) := by omega
  have q2 : (0 : Int) ≤ (k : Int) + 1 := by omega
  have q3 : ¬ ((k : Int) = (k : Int) + 1) := by omega
  have q4 : (k : Int) ≤ (k : Int) + 1 := by omega
  have HC := hidT hcl
  have HX := hidT hx
  have HL := hidT hxl
  have HG := hidT hg
  have H1 := hidT h1
  clear hcl hx hxl hg h1
  have hsl1 := fun w => sliceR_to b n c k w hk hnc
  have hsl3 := fun w => sliceR_cut b n c k w hk hnc hcm
  have hcut : (splice cur (k * 6) xs).length = c * 6 := by rw [length_splice _ _ _ (by rw [HC.out, HL.out]; omega), HC.out]
  have HS := hidT hcut
  clear hcut
  have hn1 : k + (n - (k + 1)) = n - 1 := by omega
  have HN1 := hidT hn1
  clear hn1
  by_cases hce : c = k + 1
  · have hnk : n = k + 1 := by omega
    subst hce
    subst hnk
    clear hsl3
    have hsl3 := fun w => sliceR_cut b (k + 1) (k + 1) k w hk hnc hcm
    simp only [Nat.add_sub_cancel] at hsl3 HS
    rw [show k + 1 - k = 1 by omega] at hsl3
    have hsl2 := fun w => sliceR_end b (k + 1) k w rfl
    obtain rfl : xs = [] := List.eq_nil_of_length_eq_zero (by rw [HL.out]; omega)
    go_enter Try.func56, Try.ntmps56
    go_wp2_with fail
    go_region_law (refine step_append_gp rfl (.tmp 22) (.tmp 25) 30 rfl 38 6 Try.underlying30 sizeR b k (k + 1) (some ⟨b, 0, none⟩) 0 0 (by simp [Act.eval, Act.put]) (by simp [Act.eval, Act.put]) cur 38 [] HG.out rfl (by omega) (fun h => absurd h (Nat.not_lt_zero _)) (by rw [HC.out]; simp; omega) (by simp) ?_; intro w1 G1 hb1)
    obtain ⟨w2, hcl, G2, hb2⟩ := run_clear_gp (P := Try.prog) w1 30 38 0 _ 6 Try.underlying30 zeroR rfl (by decide) b (k * 6) 1 1 _ 38 G1.out (by omega) (by have := HS.out; omega) (by omega)
    have HG2 := hidT G2
    have HB2 := hidT hb2
    clear G2 hb2
    go_wp2
    go_ret
    exact ⟨rfl, HG2.out, grow_trans (grow_drew hb1) HB2.out⟩
  · have hsl2 := fun w => sliceR_from b n c k w hk hce
    go_enter Try.func56, Try.ntmps56
    go_wp2_with fail
    go_region_law (refine step_append_gp rfl (.tmp 22) (.tmp 25) 30 rfl 38 6 Try.underlying30 sizeR b k c (some ⟨b, (k + 1) * 6, none⟩) (n - (k + 1)) (c - (k + 1)) (by simp [Act.eval, Act.put]) (by simp [Act.eval, Act.put]) cur 38 xs HG.out HL.out (by omega) (fun _ => ⟨_, rfl, fun j v hj => cell_row HG.out _ _ _ (HX.out j v hj)⟩) (by rw [HC.out, HL.out]; omega) H1.out ?_; intro w1 G1 hb1; rw [HN1.out])
    obtain ⟨w2, hcl, G2, hb2⟩ := run_clear_gp (P := Try.prog) w1 30 38 0 _ 6 Try.underlying30 zeroR rfl (by decide) b ((n - 1) * 6) 1 (c - (n - 1)) _ 38 G1.out (by omega) (by rw [HS.out]; omega) (by omega)
    have HG2 := hidT G2
    have HB2 := hidT hb2
    clear G2 hb2
    go_wp2
    go_ret
    exact ⟨rfl, HG2.out, grow_trans (grow_drew hb1) HB2.out⟩

theorem take_splice {α : Type} (L cs : List α) (o : Nat) (h : o ≤ L.length) : (splice L o cs).take (o + cs.length) = L.take o ++ cs := by
  have e : (L.take o).length = o := by rw [List.length_take]; omega
  rw [splice, ← List.append_assoc, List.take_append_of_le_length (by rw [List.length_append, e]; exact Nat.le_refl _), List.take_of_length_le (by rw [List.length_append, e]; exact Nat.le_refl _)]
theorem take_splice_le {α : Type} (L cs : List α) (o m : Nat) (h : o ≤ L.length) (hm : m ≤ o) : (splice L o cs).take m = L.take m := by
  have e : (L.take o).length = o := by rw [List.length_take]; omega
  rw [splice, List.take_append_of_le_length (by rw [e]; exact hm), List.take_take, Nat.min_eq_left hm]
theorem rcells_take (l : List Rq) (k : Nat) : (rcells l).take (k * 6) = rcells (l.take k) := by
  by_cases hk : k ≤ l.length
  · have e := rcells_append (l.take k) (l.drop k)
    rw [List.take_append_drop] at e
    have hl : (rcells (l.take k)).length = k * 6 := by rw [rcells_length, List.length_take, Nat.min_eq_left hk]
    rw [e, List.take_append_of_le_length (by omega), List.take_of_length_le (by omega)]
  · rw [List.take_of_length_le (by rw [rcells_length]; omega), List.take_of_length_le (by omega)]
theorem rcells_drop (l : List Rq) (k j : Nat) : (rcells (l.drop k))[j]? = (rcells l)[k * 6 + j]? := by
  by_cases hk : k ≤ l.length
  · have e := rcells_append (l.take k) (l.drop k)
    rw [List.take_append_drop] at e
    have hl : (rcells (l.take k)).length = k * 6 := by rw [rcells_length, List.length_take, Nat.min_eq_left hk]
    rw [e, List.getElem?_append_right (by omega), hl]
    congr 1; omega
  · rw [List.drop_eq_nil_of_le (by omega), List.getElem?_eq_none (by simp [rcells]), List.getElem?_eq_none (by rw [rcells_length]; omega)]
theorem delR (l : List Rq) (b c k : Nat) (w : World) (hk : k < l.length) (hN : w.ownsRow 0 38 6 (.slice (some ⟨b, 0, none⟩) l.length c) l.length (rcells l)) :
    Calls Try.prog 56 #[.slice (some ⟨b, 0, none⟩) l.length c, .int .i64 k, .int .i64 ((k : Int) + 1)] w fun e w' =>
      e = .returned (.slice (some ⟨b, 0, none⟩) (l.eraseIdx k).length c) ∧ w'.ownsRow 0 38 6 (.slice (some ⟨b, 0, none⟩) (l.eraseIdx k).length c) (l.eraseIdx k).length (rcells (l.eraseIdx k)) ∧ w.grownBy w' (some b) := by
  rcases hN.2 with ⟨h, _⟩ | ⟨g, cap, cur, hv, hg, hh, hnc, hcm, hcs, ht⟩
  · cases h
  · simp only [Value.slice.injEq, Option.some.injEq, Addr.mk.injEq, and_true, true_and] at hv
    obtain ⟨rfl, rfl⟩ := hv
    have hcm' : c ≤ 9223372036854775807 := by unfold maxLen at hcm; omega
    have hcl : cur.toList.length = c * 6 := by rw [Array.length_toList]; exact hcs
    have hxl : (rcells (l.drop (k + 1))).length = (l.length - (k + 1)) * 6 := by rw [rcells_length, List.length_drop]
    have hel : (l.eraseIdx k).length = l.length - 1 := by rw [List.length_eraseIdx, if_pos hk]
    refine (delR_core b l.length c k cur.toList (rcells (l.drop (k + 1))) w (by rw [Array.toArray_toList]; exact hh) hcl hk hnc hcm' hxl (fun j v hj => ?_) (rcells_one _)).mono ?_
    · rw [rcells_drop, ← ht, List.getElem?_take] at hj
      split at hj
      · exact hj
      · cases hj
    · rintro e w' ⟨rfl, hrow, hB⟩
      refine ⟨by rw [hel], ?_, hB⟩
      have hsl : (splice cur.toList (k * 6) (rcells (l.drop (k + 1)))).length = c * 6 := by rw [length_splice _ _ _ (by rw [hcl, hxl]; omega), hcl]
      refine ⟨rcells_length _, Or.inr ⟨b, c, _, rfl, Nat.zero_le _, hrow, by omega, hcm, ?_, ?_⟩⟩
      · rw [List.size_toArray, length_splice _ _ _ (by rw [hsl, zs6_length]; omega), hsl]
      · rw [List.toList_toArray, hel, take_splice_le _ _ _ _ (by rw [hsl]; omega) (Nat.le_refl _), show (l.length - 1) * 6 = k * 6 + (rcells (l.drop (k + 1))).length by rw [hxl]; omega, take_splice _ _ _ (by omega), List.eraseIdx_eq_take_drop_succ, rcells_append, ← rcells_take, ← ht, List.take_take, Nat.min_eq_left (by omega)]
end Go.Proofs.Ythmeaclekedilac
