/- What is held: the closure over an array; the document's facts on Pick and Get. -/
import Derived.Test.YtpmjgofjdejeeadCache4
namespace Go.Proofs.Ytpmjgofjdejeead
open Go.RowKit Go.BigFrame
attribute [local go_sem] Later.cell Later.frozen

def HeldAt (w : World) (pb : Nat) (B : Nat → Bool) : Prop := ∀ i, i < 32 → w.cell? ⟨pb, i, none⟩ = some (.bool (B i))
theorem HeldAt.later {w w' : World} {pb : Nat} {B : Nat → Bool} (h : HeldAt w pb B) (hb : Below w.heap.size w w') : HeldAt w' pb B := fun i hi => cellB_later' hb (h i hi)
def holdB (B : Nat → Bool) (n : Int) : Bool := decide (0 ≤ n) && (decide (n < 32) && B n.toNat)

theorem neqSelf (x : Bf) (w : World) : (binOp .neq 47 x.val x.val).run Try.prog w = .ok (.bool false) w := by
  have u3 := Try.underlying3
  have hS : Try.prog.underlying 47 = some (.struct (Try.prog.fieldsOf 47)) := by kernel_rfl
  have hp : Try.prog.stoodInHeld 47 = false := by kernel_rfl
  rw [run_neq_struct, show (10000 : Nat) = 9999 + 1 from rfl, run_equalIn_agg w 9999 47 _ _ hS hp]
  simp only [Program.fieldsOf, Try.underlying47]
  go_simp

set_option maxHeartbeats 1000000 in
theorem holdC_any (n : Int) (pb : Nat) (B : Nat → Bool) (w : World) (hB : HeldAt w pb B) (t : Bool) (ht : holdB B n = t) :
    Calls Try.prog 23 #[.int .i64 n, .pointer (some ⟨pb, 0, none⟩)] w fun e w' => e = .returned (.bool t) ∧ Below w.heap.size w w' := by
  subst ht
  by_cases h0 : 0 ≤ n
  · by_cases h1 : n < 32
    · obtain ⟨k, rfl⟩ := Int.eq_ofNat_of_zero_le h0
      have hk : k < 32 := by omega
      have hc := hB k hk
      have e : holdB B (k : Int) = B k := by rw [holdB, decide_eq_true h0, decide_eq_true h1]; simp
      rw [e]
      clear e hB
      go_enter Try.func23, Try.ntmps23
      go_wp2
      go_ret
      exact ⟨rfl, by repeat (first | with_reducible exact Below.refl _ _ | with_reducible refine balloc ?_ _ | with_reducible refine bdrew ?_ | with_reducible refine bset' ?_ (by omega) _ | with_reducible refine bthen ?_ (by assumption))⟩
    · have e : holdB B n = false := by simp [holdB, h1]
      rw [e]
      go_enter Try.func23, Try.ntmps23
      go_wp2
      go_ret
      exact ⟨rfl, by repeat (first | with_reducible exact Below.refl _ _ | with_reducible refine balloc ?_ _ | with_reducible refine bdrew ?_ | with_reducible refine bset' ?_ (by omega) _ | with_reducible refine bthen ?_ (by assumption))⟩
  · have e : holdB B n = false := by simp [holdB, h0]
    rw [e]
    go_enter Try.func23, Try.ntmps23
    go_wp2
    go_ret
    exact ⟨rfl, by repeat (first | with_reducible exact Below.refl _ _ | with_reducible refine balloc ?_ _ | with_reducible refine bdrew ?_ | with_reducible refine bset' ?_ (by omega) _ | with_reducible refine bthen ?_ (by assumption))⟩

/-- A sector that isn't there (below 0) is at no place. -/
theorem GoodB.neg {l : List Bf} (h : GoodB l) : idxB (plB (-1)) l = -1 := by
  apply idx_none
  intro j hj
  have := (h.ok j hj).1
  simp only [plB, beq_eq_false_iff_ne]; omega
theorem GoodB.at {l : List Bf} (h : GoodB l) (j : Nat) (hj : j < l.length) : idxB (plB l[j].pl) l = j := by
  apply idx_found hj (by simp [plB])
  intro i hi
  have := h.lt' i j hi hj
  simp only [plB, beq_eq_false_iff_ne]; omega
end Go.Proofs.Ytpmjgofjdejeead
