/- The spans of the document's answer: Has, Meet, by their loops; and same: an error told by its number. -/
import Derived.Test.YtpmjgofjdejeeadSpan
namespace Go.Proofs.Ytpmjgofjdejeead
open Go.RowKit

def crossB (f m g n : Int) : Bool := decide (f < g + n ∧ g < f + m)
theorem cross_no {f m g n : Int} (h : ¬ (f < g + n ∧ g < f + m)) : crossB f m g n = false := decide_eq_false h
theorem cross_yes {f m g n : Int} (h : f < g + n ∧ g < f + m) : crossB f m g n = true := decide_eq_true h

theorem no_step {f m g n j : Int} (h : ∀ t : Int, 0 ≤ t → t < j → ¬ ((f ≤ t ∧ t < f + m) ∧ (g ≤ t ∧ t < g + n))) (hx : ¬ ((f ≤ j ∧ j < f + m) ∧ (g ≤ j ∧ j < g + n))) :
    ∀ t : Int, 0 ≤ t → t < j + 1 → ¬ ((f ≤ t ∧ t < f + m) ∧ (g ≤ t ∧ t < g + n)) := by
  intro t t0 t1
  by_cases e : t = j
  · subst e; exact hx
  · exact h t t0 (by omega)

end Go.Proofs.Ytpmjgofjdejeead
