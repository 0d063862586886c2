/- The spans of the document's answer: Has, Meet, by their loops; and same: an error told by its number. -/
import Derived.Test.YtfdmchhaiikeaaaSpan
namespace Go.Proofs.Ytfdmchhaiikeaaa
open Go.RowKit

set_option maxHeartbeats 400000 in
theorem same_nil (f : Int) (w : World) :
    Calls Try.prog 9 #[.nilIface, .int .i64 f] w fun e w' => e = .returned (.bool (f == 0)) ∧ Below w.heap.size w w' := by
  go_enter Try.func9, Try.ntmps9
  go_wp2
  go_ret
  exact ⟨rfl, Below.refl _ _⟩

theorem run_assert (n : Int) (w : World) : Sem.run Try.prog (Instr.typeAssert (.iface 57 (.int .i64 n)) 27 57 true) w = .ok (.tuple #[.int .i64 n, .bool true]) w := by kernel_rfl

set_option maxHeartbeats 400000 in
theorem same_err (n f : Int) (w : World) :
    Calls Try.prog 9 #[.iface 57 (.int .i64 n), .int .i64 f] w fun e w' => e = .returned (.bool (decide (0 < f) && (n == f))) ∧ Below w.heap.size w w' := by
  have ra := run_assert n
  by_cases h : 0 < f
  · go_enter Try.func9, Try.ntmps9
    go_wp2
    go_ret
    exact ⟨ret_bool (by simp [h]), Below.refl _ _⟩
  · go_enter Try.func9, Try.ntmps9
    go_wp2
    go_ret
    exact ⟨ret_bool (by rw [decide_eq_false (by omega)]; rfl), Below.refl _ _⟩

set_option maxHeartbeats 400000 in
theorem rhas_core (f m a : Int) (w : World) (h0 : 0 ≤ f) (h1 : f < 32) (h2 : 1 ≤ m) (h3 : m ≤ 32 - f) :
    Calls Try.prog 14 #[.agg #[.int .i64 f, .int .i64 m], .int .i64 a] w fun e w' => e = .returned (.bool (inSpan f m a)) ∧ Below w.heap.size w w' := by
  go_enter Try.func14, Try.ntmps14
  go_wp2
  go_loop [5] (fun i => ∃ k : Int, 0 ≤ k ∧ k ≤ m ∧ i = .int .i64 k ∧ ¬ (f ≤ a ∧ a < f + k)) (fun i => (m - intOf i).toNat)
  case atStart => exact ⟨0, by omega, by omega, rfl, by omega⟩
  case round =>
    obtain ⟨k, hk0, hk1, rfl, hno⟩ := hrel
    by_cases hlt : k < m
    · by_cases he : (f + k == a) = true
      · go_wp2
        go_ret
        exact ⟨ret_bool (by simp only [beq_iff_eq] at he; symm; simp only [inSpan, decide_eq_true_eq]; omega), below1 _ _⟩
      · have he' : (f + k == a) = false := by simpa using he
        clear he
        go_wp2
        go_round
        case rel => exact ⟨k + 1, by omega, by omega, by go_num, by simp only [beq_eq_false_iff_ne, ne_eq] at he'; omega⟩
        case measure => simp [intOf]; omega
    · go_wp2
      go_ret
      exact ⟨ret_bool (by symm; simp only [inSpan, decide_eq_false_iff_not]; omega), below1 _ _⟩

theorem rhas_any (f m n a : Int) (w : World) (h : okB f m n = true) (b : Bool) (hb : inSpan f m a = b) :
    Calls Try.prog 14 #[.agg #[.int .i64 f, .int .i64 m], .int .i64 a] w fun e w' => e = .returned (.bool b) ∧ Below w.heap.size w w' := by
  subst hb
  simp only [okB, decide_eq_true_eq] at h
  exact rhas_core f m a w (by omega) (by omega) (by omega) (by omega)

def crossB (f m g n : Int) : Bool := decide (f < g + n ∧ g < f + m)
theorem cross_no {f m g n : Int} (h : ¬ (f < g + n ∧ g < f + m)) : crossB f m g n = false := decide_eq_false h
theorem cross_yes {f m g n : Int} (h : f < g + n ∧ g < f + m) : crossB f m g n = true := decide_eq_true h

theorem no_step {f m g n j : Int} (h : ∀ t : Int, 0 ≤ t → t < j → ¬ ((f ≤ t ∧ t < f + m) ∧ (g ≤ t ∧ t < g + n))) (hx : ¬ ((f ≤ j ∧ j < f + m) ∧ (g ≤ j ∧ j < g + n))) :
    ∀ t : Int, 0 ≤ t → t < j + 1 → ¬ ((f ≤ t ∧ t < f + m) ∧ (g ≤ t ∧ t < g + n)) := by
  intro t t0 t1
  by_cases e : t = j
  · subst e; exact hx
  · exact h t t0 (by omega)

set_option maxHeartbeats 1000000 in
theorem rmeet_core (f m g n : Int) (w : World) (h : okB f m 32 = true) (k : okB g n 32 = true) :
    Calls Try.prog 12 #[.agg #[.int .i64 f, .int .i64 m], .agg #[.int .i64 g, .int .i64 n]] w fun e w' => e = .returned (.bool (crossB f m g n)) ∧ Below w.heap.size w w' := by
  go_enter Try.func12, Try.ntmps12
  go_wp2
  have h' := h; have k' := k
  simp only [okB, decide_eq_true_eq] at h' k'
  obtain ⟨f0, f1, m1, m2, m3⟩ := h'
  obtain ⟨g0, g1, n1, n2, n3⟩ := k'
  go_loopw [5] (fun i wr => ∃ j : Int, 0 ≤ j ∧ j ≤ 32 ∧ i = .int .i64 j ∧ (∀ t : Int, 0 ≤ t → t < j → ¬ ((f ≤ t ∧ t < f + m) ∧ (g ≤ t ∧ t < g + n))) ∧ Below ((w.alloc (Obj.cells #[Value.int IntKind.i64 f, Value.int IntKind.i64 m] 23)).alloc (Obj.cells #[Value.int IntKind.i64 g, Value.int IntKind.i64 n] 23)).heap.size ((w.alloc (Obj.cells #[Value.int IntKind.i64 f, Value.int IntKind.i64 m] 23)).alloc (Obj.cells #[Value.int IntKind.i64 g, Value.int IntKind.i64 n] 23)) wr) (fun i _ => (32 - intOf i).toNat)
  case atStart => exact ⟨0, by omega, by omega, rfl, fun t _ _ => by omega, Below.refl _ _⟩
  case round =>
    obtain ⟨j, hj0, hj1, rfl, hno, HB⟩ := hrel
    have HN : Hid (∀ t : Int, 0 ≤ t → t < j → ¬ ((f ≤ t ∧ t < f + m) ∧ (g ≤ t ∧ t < g + n))) := hno
    clear hno
    obtain ⟨hc, hf, hz⟩ := bcell HB
    by_cases hlt : j < 32
    · cases hx : inSpan f m j
      all_goals
        cases hy : inSpan g n j
        all_goals
          go_wp2_with (go_at_call 14; refine (rhas_any _ _ 32 _ _ (by assumption) _ (by assumption)).mono ?_; rintro e w1 ⟨rfl, hb⟩; (try clear hc hf hz); (first | replace HB := bthen HB hb | replace HB := bthen (bdrew HB) hb | have HB := hb); clear hb; obtain ⟨hc, hf, hz⟩ := bcell HB)
          simp only [inSpan, decide_eq_true_eq, decide_eq_false_iff_not] at hx hy
          first
            | (go_ret; exact ⟨ret_bool (cross_yes (by omega)).symm, by repeat (first | with_reducible exact Below.refl _ _ | with_reducible refine balloc ?_ _ | with_reducible refine bdrew ?_ | with_reducible refine bset' ?_ (by omega) _ | with_reducible refine bthen ?_ (by assumption))⟩)
            | (go_roundw; (case rel => exact ⟨j + 1, by omega, by omega, by go_num, no_step HN.out (by omega), HB⟩); (case measure => simp [intOf]; omega))
    · go_wp2
      go_ret
      have hno := HN.out
      have hd : ¬ (f < g + n ∧ g < f + m) := fun ⟨a1, a2⟩ => hno (maxI f g) (by unfold maxI; split <;> omega) (by unfold maxI; split <;> omega) (by unfold maxI; split <;> omega)
      exact ⟨ret_bool (cross_no hd).symm, by repeat (first | with_reducible exact Below.refl _ _ | with_reducible refine balloc ?_ _ | with_reducible refine bdrew ?_ | with_reducible refine bset' ?_ (by omega) _ | with_reducible refine bthen ?_ (by assumption))⟩

theorem rmeet_any (f m g n : Int) (w : World) (h : okB f m 32 = true) (k : okB g n 32 = true) (b : Bool) (hb : meetB f m g n = b) :
    Calls Try.prog 12 #[.agg #[.int .i64 f, .int .i64 m], .agg #[.int .i64 g, .int .i64 n]] w fun e w' => e = .returned (.bool b) ∧ Below w.heap.size w w' := by
  subst hb
  rw [meetB_ok f m g n h k]
  exact rmeet_core f m g n w h k

end Go.Proofs.Ytfdmchhaiikeaaa
