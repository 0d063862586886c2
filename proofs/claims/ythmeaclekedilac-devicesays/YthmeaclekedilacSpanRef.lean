/- The spans of the document's answer: Has, Meet, by their loops; and same: an error told by its number. -/
import Derived.Test.YthmeaclekedilacSpan
namespace Go.Proofs.Ythmeaclekedilac
open Go.RowKit

set_option maxHeartbeats 400000 in
theorem same_nil (f : Int) (w : World) :
    Calls Try.prog 13 #[.nilIface, .int .i64 f] w fun e w' => e = .returned (.bool (f == 0)) ∧ Below w.heap.size w w' := by
  go_enter Try.func13, Try.ntmps13
  go_wp2
  go_ret
  exact ⟨rfl, Below.refl _ _⟩

theorem run_assert (n : Int) (w : World) : Sem.run Try.prog (Instr.typeAssert (.iface 47 (.int .i64 n)) 45 47 true) w = .ok (.tuple #[.int .i64 n, .bool true]) w := by kernel_rfl

set_option maxHeartbeats 400000 in
theorem same_err (n f : Int) (w : World) :
    Calls Try.prog 13 #[.iface 47 (.int .i64 n), .int .i64 f] w fun e w' => e = .returned (.bool (decide (0 < f) && (n == f))) ∧ Below w.heap.size w w' := by
  have ra := run_assert n
  by_cases h : 0 < f
  · go_enter Try.func13, Try.ntmps13
    go_wp2
    go_ret
    exact ⟨ret_bool (by simp [h]), Below.refl _ _⟩
  · go_enter Try.func13, Try.ntmps13
    go_wp2
    go_ret
    exact ⟨ret_bool (by rw [decide_eq_false (by omega)]; rfl), Below.refl _ _⟩

def crossB (f m g n : Int) : Bool := decide (f < g + n ∧ g < f + m)
theorem cross_no {f m g n : Int} (h : ¬ (f < g + n ∧ g < f + m)) : crossB f m g n = false := decide_eq_false h
theorem cross_yes {f m g n : Int} (h : f < g + n ∧ g < f + m) : crossB f m g n = true := decide_eq_true h

theorem no_step {f m g n j : Int} (h : ∀ t : Int, 0 ≤ t → t < j → ¬ ((f ≤ t ∧ t < f + m) ∧ (g ≤ t ∧ t < g + n))) (hx : ¬ ((f ≤ j ∧ j < f + m) ∧ (g ≤ j ∧ j < g + n))) :
    ∀ t : Int, 0 ≤ t → t < j + 1 → ¬ ((f ≤ t ∧ t < f + m) ∧ (g ≤ t ∧ t < g + n)) := by
  intro t t0 t1
  by_cases e : t = j
  · subst e; exact hx
  · exact h t t0 (by omega)

end Go.Proofs.Ythmeaclekedilac
