/- A step of a script: Check. -/
import Derived.Test.YtlhgjplipgandaaDoorScript4
namespace Go.Proofs.YtlhgjplipgandaaDoor
open Go.RowKit Go.BigFrame Go.Maps
attribute [local go_sem] Later.cell Later.frozen

theorem retB {x y : Bool} (h : x = y) : Ending.returned (.bool x) = Ending.returned (.bool y) := by rw [h]
theorem retI {x y : Int} (h : x = y) : Ending.returned (.int .i64 x) = Ending.returned (.int .i64 y) := by rw [h]
theorem idxAny_breaks (l : List UInt8) : decide (0 ≤ Lib.indexAny l [32, 10]) = l.any breakB := by
  induction l with
  | nil => rfl
  | cons b l ih =>
    have hge := Lib.indexAny_ge [32, 10] l
    have hc : [32, 10].contains b = breakB b := by simp only [breakB, List.contains_cons, List.contains_nil, Bool.or_false]
    rw [List.any_cons, Lib.indexAny, hc]
    cases hb : breakB b
    · rw [if_neg Bool.false_ne_true, Bool.false_or, ← ih]
      split
      · rename_i e
        have : Lib.indexAny l [32, 10] = -1 := by simpa using e
        rw [this]
      · rename_i e
        have : ¬ Lib.indexAny l [32, 10] = -1 := by simpa using e
        rw [decide_eq_true (by omega), decide_eq_true (by omega)]
    · rfl
set_option maxRecDepth 100000 in
theorem zero_set (w : World) : (zeroValue 73).run Tryd.prog w = .ok (.agg (Array.replicate 256 (.bool false))) w := by kernel_rfl
set_option maxRecDepth 100000 in
theorem indexAny_any (s : ByteArray) (h9 : s.size ≤ 9) (w : World) : Calls Tryd.prog 29 #[.string s, .string ⟨#[32, 10]⟩] w fun e w' => ∃ n : Int, e = .returned (.int .i64 n) ∧ decide (0 ≤ n) = breaks s ∧ Below w.heap.size w w' := by
  by_cases h8 : s.size ≤ 8
  · exact indexAny_short s h8 w
  · refine (Tryd.strings_IndexAny_long zero_set s ⟨#[32, 10]⟩ w (by decide) (by omega) (by omega) (by decide) (fun j b hb => ?_)).mono ?_
    · match j, hb with
      | 0, hb => cases hb; decide
      | 1, hb => cases hb; decide
    · rintro e w' ⟨rfl, rfl⟩
      exact ⟨_, rfl, idxAny_breaks _, ((Below.refl _ _).alloc (Nat.le_refl _) _).alloc (by simp) _⟩
set_option maxRecDepth 100000 in
set_option maxHeartbeats 1000000 in
theorem containsAny_any (s : ByteArray) (h9 : s.size ≤ 9) (t : Bool) (ht : breaks s = t) (w : World) : Calls Tryd.prog 23 #[.string s, .string ⟨#[32, 10]⟩] w fun e w' => e = .returned (.bool t) ∧ Below w.heap.size w w' := by
  go_enter Tryd.func23, Tryd.ntmps23
  go_wp2_with fail
  refine (indexAny_any s h9 _).mono ?_
  rintro e w1 ⟨n, rfl, hn, hb⟩
  rw [ht] at hn
  have HN := hidT hn
  have HB := hidT hb
  clear hn hb ht
  go_wp2
  go_ret
  exact ⟨retB HN.out, HB.out⟩
/-- A number that a step may not have. -/
def boundB (n : Int) : Bool := decide (n < 0) || decide (999 < n)
set_option maxRecDepth 100000 in
theorem bound1_any (n : Int) (t : Bool) (ht : boundB n = t) (w : World) : Calls Tryd.prog 28 #[.int .i64 n] w fun e w' => e = .returned (.bool t) ∧ Below w.heap.size w w' := by
  subst ht
  unfold boundB
  cases g1 : decide (n < 0) <;> cases g2 : decide ((999 : Int) < n)
  all_goals
    go_enter Tryd.func28, Tryd.ntmps28
    go_wp2
    go_ret
    exact ⟨rfl, Below.refl _ _⟩
def idx2 (x y : Int) : Int := if boundB x = true then 0 else if boundB y = true then 1 else -1
set_option maxRecDepth 100000 in
set_option maxHeartbeats 1000000 in
theorem index2_any (b : Nat) (x y : Int) (w : World) (h0 : w.cell? ⟨b, 0, none⟩ = some (.int .i64 x)) (h1 : w.cell? ⟨b, 1, none⟩ = some (.int .i64 y)) : Calls Tryd.prog 33 #[.slice (some ⟨b, 0, none⟩) 2 2, .func (.func 28) #[] #[]] w fun e w' => e = .returned (.int .i64 (idx2 x y)) ∧ Below w.heap.size w w' := by
  have eg : ∀ args w, (callFunc 28 args).run Tryd.prog w = .ok (.enter 28 args) w := by intro args w; go_simp
  have H0 := hidT h0
  have H1 := hidT h1
  clear h0 h1
  go_enter Tryd.func33, Tryd.ntmps33
  go_wp2
  go_loopw [8] (fun i wr => ∃ k : Nat, k ≤ 2 ∧ i = .int .i64 k ∧ (1 ≤ k → boundB x = false) ∧ (2 ≤ k → boundB y = false) ∧ Below w.heap.size w wr) (fun i _ => 2 - (intOf i).toNat)
  case atStart => exact ⟨0, by omega, rfl, fun h => by omega, fun h => by omega, Below.refl _ _⟩
  case round =>
    obtain ⟨k, hk, rfl, hx, hy, hb⟩ := hrel
    have HX := hidT hx
    have HY := hidT hy
    have HB := hidT hb
    have c0 := cellB_later' hb H0.out
    have c1 := cellB_later' hb H1.out
    clear hx hy hb
    have hk3 : k = 0 ∨ k = 1 ∨ k = 2 := by omega
    rcases hk3 with rfl | rfl | rfl
    · obtain ⟨tx, hbx⟩ : ∃ t, boundB x = t := ⟨_, rfl⟩
      cases tx
      · go_wp2_with fail
        refine (bound1_any x _ hbx _).mono ?_
        rintro e w1 ⟨rfl, hb1⟩
        have HB1 := hidT (bthen HB.out hb1)
        have HBX := hidT hbx
        clear hb1 hbx
        go_wp2
        go_roundw
        case rel => exact ⟨1, by omega, by first | rfl | go_num, fun _ => HBX.out, fun h => by omega, HB1.out⟩
        case measure => simp [intOf]
      · go_wp2_with fail
        refine (bound1_any x _ hbx _).mono ?_
        rintro e w1 ⟨rfl, hb1⟩
        have HB1 := hidT (bthen HB.out hb1)
        have HBX := hidT hbx
        clear hb1 hbx
        go_wp2
        go_ret
        exact ⟨retI (by unfold idx2; rw [if_pos HBX.out]), HB1.out⟩
    · obtain ⟨ty, hby⟩ : ∃ t, boundB y = t := ⟨_, rfl⟩
      cases ty
      · go_wp2_with fail
        refine (bound1_any y _ hby _).mono ?_
        rintro e w1 ⟨rfl, hb1⟩
        have HB1 := hidT (bthen HB.out hb1)
        have HBY := hidT hby
        clear hb1 hby
        go_wp2
        go_roundw
        case rel => exact ⟨2, by omega, by first | rfl | go_num, fun _ => HX.out (by omega), fun _ => HBY.out, HB1.out⟩
        case measure => simp [intOf]
      · go_wp2_with fail
        refine (bound1_any y _ hby _).mono ?_
        rintro e w1 ⟨rfl, hb1⟩
        have HB1 := hidT (bthen HB.out hb1)
        have HBY := hidT hby
        clear hb1 hby
        go_wp2
        go_ret
        exact ⟨retI (by unfold idx2; rw [HX.out (by omega), if_neg Bool.false_ne_true, if_pos HBY.out]), HB1.out⟩
    · go_wp2
      go_ret
      exact ⟨retI (by unfold idx2; rw [HX.out (by omega), HY.out (by omega), if_neg Bool.false_ne_true, if_neg Bool.false_ne_true]), HB.out⟩
set_option maxRecDepth 100000 in
theorem contains2_any (b : Nat) (x y : Int) (t : Bool) (ht : (boundB x || boundB y) = t) (w : World) (h0 : w.cell? ⟨b, 0, none⟩ = some (.int .i64 x)) (h1 : w.cell? ⟨b, 1, none⟩ = some (.int .i64 y)) : Calls Tryd.prog 27 #[.slice (some ⟨b, 0, none⟩) 2 2, .func (.func 28) #[] #[]] w fun e w' => e = .returned (.bool t) ∧ Below w.heap.size w w' := by
  have hi : decide (0 ≤ idx2 x y) = t := by
    rw [← ht]
    unfold idx2
    cases boundB x <;> cases boundB y <;> rfl
  have HI := hidT hi
  clear hi ht
  go_enter Tryd.func27, Tryd.ntmps27
  go_wp2_with fail
  refine (index2_any b x y _ h0 h1).mono ?_
  generalize idx2 x y = n at *
  rintro e w1 ⟨rfl, hb1⟩
  have HB1 := hidT hb1
  clear hb1
  go_wp2
  go_ret
  exact ⟨retB HI.out, HB1.out⟩
set_option maxRecDepth 100000 in
theorem inBounds_any (b : Nat) (x y : Int) (t : Bool) (ht : (boundB x || boundB y) = !t) (w : World) (h0 : w.cell? ⟨b, 0, none⟩ = some (.int .i64 x)) (h1 : w.cell? ⟨b, 1, none⟩ = some (.int .i64 y)) : Calls Tryd.prog 22 #[.slice (some ⟨b, 0, none⟩) 2 2] w fun e w' => e = .returned (.bool t) ∧ Below w.heap.size w w' := by
  go_enter Tryd.func22, Tryd.ntmps22
  go_wp2_with fail
  refine (contains2_any b x y _ ht _ h0 h1).mono ?_
  rintro e w1 ⟨rfl, hb1⟩
  have HB1 := hidT hb1
  clear hb1
  go_wp2
  go_ret
  exact ⟨retB (by cases t <;> rfl), HB1.out⟩
end Go.Proofs.YtlhgjplipgandaaDoor
