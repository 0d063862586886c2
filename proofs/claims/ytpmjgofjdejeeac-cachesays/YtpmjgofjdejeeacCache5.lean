/- What is held: the closure over an array; the document's facts on Pick and Get. -/
import Derived.Test.YtpmjgofjdejeeacCache4
namespace Go.Proofs.Ytpmjgofjdejeeac
open Go.RowKit Go.BigFrame
attribute [local go_sem] Later.cell Later.frozen

def HeldAt (w : World) (pb : Nat) (B : Nat → Bool) : Prop := ∀ i, i < 32 → w.cell? ⟨pb, i, none⟩ = some (.bool (B i))
theorem HeldAt.later {w w' : World} {pb : Nat} {B : Nat → Bool} (h : HeldAt w pb B) (hb : Below w.heap.size w w') : HeldAt w' pb B := fun i hi => cellB_later' hb (h i hi)
def holdB (B : Nat → Bool) (n : Int) : Bool := decide (0 ≤ n) && (decide (n < 32) && B n.toNat)

theorem neqSelf (x : Bf) (w : World) : (binOp .neq 72 x.val x.val).run Try.prog w = .ok (.bool false) w := by
  have u3 := Try.underlying3
  have hS : Try.prog.underlying 72 = some (.struct (Try.prog.fieldsOf 72)) := by kernel_rfl
  have hp : Try.prog.stoodInHeld 72 = false := by kernel_rfl
  rw [run_neq_struct, show (10000 : Nat) = 9999 + 1 from rfl, run_equalIn_agg w 9999 72 _ _ hS hp]
  simp only [Program.fieldsOf, Try.underlying72]
  go_simp


/-- A sector that isn't there (below 0) is at no place. -/
theorem GoodB.neg {l : List Bf} (h : GoodB l) : idxB (plB (-1)) l = -1 := by
  apply idx_none
  intro j hj
  have := (h.ok j hj).1
  simp only [plB, beq_eq_false_iff_ne]; omega
theorem GoodB.at {l : List Bf} (h : GoodB l) (j : Nat) (hj : j < l.length) : idxB (plB l[j].pl) l = j := by
  apply idx_found hj (by simp [plB])
  intro i hi
  have := h.lt' i j hi hj
  simp only [plB, beq_eq_false_iff_ne]; omega
end Go.Proofs.Ytpmjgofjdejeeac
