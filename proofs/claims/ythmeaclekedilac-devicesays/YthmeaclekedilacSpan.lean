/- The contracts of package span, and of the spans in the document's answer: what each call returns; it makes new memory alone. -/
import Derived.Test.YthmeaclekedilacLater
namespace Go.Proofs.Ythmeaclekedilac
open Go.RowKit

def hasB (f m a : Int) : Bool := decide (f ≤ a) && decide (0 ≤ wrap64 (a - f)) && decide (wrap64 (a - f) < m)
def inSpan (f m a : Int) : Bool := decide (f ≤ a ∧ a < f + m)
def maxI (f g : Int) : Int := if f < g then g else f
def meetB (f m g n : Int) : Bool := hasB f m (maxI f g) && hasB g n (maxI f g)
/-- A span that may be, of n sectors at most. -/
def okB (f m n : Int) : Bool := decide (0 ≤ f ∧ f < 32 ∧ 1 ≤ m ∧ m ≤ n ∧ m ≤ 32 - f)
def errB (b : Bool) : Value := if b then .nilIface else .iface 47 (.int .i64 1)
def faultB (b : Bool) : Int := if b then 0 else 1

theorem hasB_ok (f m n a : Int) (h : okB f m n = true) (ha : a ≤ 9223372036854775807) : hasB f m a = inSpan f m a := by
  simp only [okB, decide_eq_true_eq] at h
  rw [Bool.eq_iff_iff]
  simp only [hasB, inSpan, Bool.and_eq_true, decide_eq_true_eq]
  by_cases h1 : f ≤ a
  · have : wrap64 (a - f) = a - f := by unfold wrap64; omega
    rw [this]; omega
  · omega

theorem meetB_ok (f m g n : Int) (h : okB f m 32 = true) (k : okB g n 32 = true) : meetB f m g n = decide (f < g + n ∧ g < f + m) := by
  have h' := h; have k' := k
  simp only [okB, decide_eq_true_eq] at h' k'
  have hk : maxI f g ≤ 9223372036854775807 := by unfold maxI; split <;> omega
  unfold meetB
  rw [hasB_ok f m 32 _ h hk, hasB_ok g n 32 _ k hk, Bool.eq_iff_iff]
  simp only [inSpan, Bool.and_eq_true, decide_eq_true_eq]
  unfold maxI; split <;> omega

theorem hasB_yes {f m a : Int} (h1 : f ≤ a) (h2 : 0 ≤ wrap64 (a - f)) : decide (wrap64 (a - f) < m) = hasB f m a := by simp [hasB, h1, h2]
theorem hasB_no1 {f m a : Int} (h2 : wrap64 (a - f) < 0) : false = hasB f m a := by
  have : ¬ 0 ≤ wrap64 (a - f) := by omega
  simp [hasB, this]
theorem hasB_no2 {f m a : Int} (h2 : a < f) : false = hasB f m a := by
  have : ¬ f ≤ a := by omega
  simp [hasB, this]

set_option maxHeartbeats 400000 in
theorem has_any (f m a : Int) (w : World) :
    Calls Try.prog 54 #[.agg #[.int .i64 f, .int .i64 m], .int .i64 a] w fun e w' => e = .returned (.bool (hasB f m a)) ∧ Below w.heap.size w w' := by
  go_enter Try.func54, Try.ntmps54
  go_wp2
  all_goals
    go_ret
    exact ⟨ret_bool (by first | exact hasB_yes ‹_› ‹_› | exact hasB_no1 ‹_› | exact hasB_no2 ‹_›), below1 _ _⟩

set_option maxHeartbeats 400000 in
theorem meet_core (f m g n : Int) (w : World) (b1 b2 : Bool) (k : Int) (hk : maxI f g = k) (h1 : hasB f m k = b1) (h2 : hasB g n k = b2) :
    Calls Try.prog 51 #[.agg #[.int .i64 f, .int .i64 m], .agg #[.int .i64 g, .int .i64 n]] w fun e w' => e = .returned (.bool (b1 && b2)) ∧ Below w.heap.size w w' := by
  by_cases hfg : f < g
  · obtain rfl : g = k := by simpa [maxI, hfg] using hk
    clear hk
    cases b1
    all_goals
      go_enter Try.func51, Try.ntmps51
      go_wp2_with (go_at_call 54; refine (has_any _ _ _ _).mono ?_; rintro e w1 ⟨rfl, hb⟩; (try clear hc hf hz); (first | replace HB := bthen HB hb | replace HB := bthen (bdrew HB) hb | have HB := hb); clear hb; obtain ⟨hc, hf, hz⟩ := bcell HB)
      go_ret
      exact ⟨rfl, by repeat (first | with_reducible exact Below.refl _ _ | with_reducible refine balloc ?_ _ | with_reducible refine bdrew ?_ | with_reducible refine bset' ?_ (by omega) _ | with_reducible refine bthen ?_ (by assumption))⟩
  · obtain rfl : f = k := by simpa [maxI, hfg] using hk
    clear hk
    cases b1
    all_goals
      go_enter Try.func51, Try.ntmps51
      go_wp2_with (go_at_call 54; refine (has_any _ _ _ _).mono ?_; rintro e w1 ⟨rfl, hb⟩; (try clear hc hf hz); (first | replace HB := bthen HB hb | replace HB := bthen (bdrew HB) hb | have HB := hb); clear hb; obtain ⟨hc, hf, hz⟩ := bcell HB)
      go_ret
      exact ⟨rfl, by repeat (first | with_reducible exact Below.refl _ _ | with_reducible refine balloc ?_ _ | with_reducible refine bdrew ?_ | with_reducible refine bset' ?_ (by omega) _ | with_reducible refine bthen ?_ (by assumption))⟩

theorem meet_any (f m g n : Int) (w : World) :
    Calls Try.prog 51 #[.agg #[.int .i64 f, .int .i64 m], .agg #[.int .i64 g, .int .i64 n]] w fun e w' => e = .returned (.bool (meetB f m g n)) ∧ Below w.heap.size w w' :=
  meet_core f m g n w _ _ _ rfl rfl rfl

theorem ok_no {f m n : Int} (h : f < 0 ∨ 31 < f ∨ m < 1 ∨ n < m ∨ 32 - f < m) : okB f m n = false := by
  simp only [okB, decide_eq_false_iff_not]; omega
theorem ok_yes {f m n : Int} (h1 : 0 ≤ f) (h2 : f < 32) (h3 : 1 ≤ m) (h4 : m ≤ n) (h5 : m ≤ 32 - f) : okB f m n = true := by
  simp only [okB, decide_eq_true_eq]; omega

set_option maxHeartbeats 400000 in
theorem check_any (f m n : Int) (w : World) :
    Calls Try.prog 72 #[.agg #[.int .i64 f, .int .i64 m], .int .i64 n] w fun e w' => e = .returned (errB (okB f m n)) ∧ Below w.heap.size w w' := by
  go_enter Try.func72, Try.ntmps72
  go_wp2
  all_goals
    go_ret
    refine ⟨ret_val ?_, below1 _ _⟩
    first | (rw [ok_no (by omega)]; rfl) | (rw [ok_yes (by omega) (by omega) (by omega) (by omega) (by omega)]; rfl)

theorem check_yes (f m n : Int) (w : World) (h : okB f m n = true) :
    Calls Try.prog 72 #[.agg #[.int .i64 f, .int .i64 m], .int .i64 n] w fun e w' => e = .returned .nilIface ∧ Below w.heap.size w w' := by
  have := check_any f m n w; rw [h] at this; exact this
theorem check_no (f m n : Int) (w : World) (h : okB f m n = false) :
    Calls Try.prog 72 #[.agg #[.int .i64 f, .int .i64 m], .int .i64 n] w fun e w' => e = .returned (.iface 47 (.int .i64 1)) ∧ Below w.heap.size w w' := by
  have := check_any f m n w; rw [h] at this; exact this

set_option maxHeartbeats 400000 in
theorem fault_any (f m n : Int) (w : World) :
    Calls Try.prog 55 #[.agg #[.int .i64 f, .int .i64 m], .int .i64 n] w fun e w' => e = .returned (.int .i64 (faultB (okB f m n))) ∧ Below w.heap.size w w' := by
  go_enter Try.func55, Try.ntmps55
  go_wp2
  all_goals
    go_ret
    refine ⟨ret_int ?_, below1 _ _⟩
    first | (rw [ok_no (by omega)]; rfl) | (rw [ok_yes (by omega) (by omega) (by omega) (by omega) (by omega)]; rfl)

theorem meet_eq (f m g n : Int) (w : World) (b : Bool) (h : meetB f m g n = b) :
    Calls Try.prog 51 #[.agg #[.int .i64 f, .int .i64 m], .agg #[.int .i64 g, .int .i64 n]] w fun e w' => e = .returned (.bool b) ∧ Below w.heap.size w w' := by
  subst h; exact meet_any f m g n w
theorem has_eq (f m a : Int) (w : World) (b : Bool) (h : hasB f m a = b) :
    Calls Try.prog 54 #[.agg #[.int .i64 f, .int .i64 m], .int .i64 a] w fun e w' => e = .returned (.bool b) ∧ Below w.heap.size w w' := by
  subst h; exact has_any f m a w
theorem fault_yes (f m n : Int) (w : World) (h : okB f m n = true) :
    Calls Try.prog 55 #[.agg #[.int .i64 f, .int .i64 m], .int .i64 n] w fun e w' => e = .returned (.int .i64 0) ∧ Below w.heap.size w w' := by
  have := fault_any f m n w; rw [h] at this; exact this
theorem fault_no (f m n : Int) (w : World) (h : okB f m n = false) :
    Calls Try.prog 55 #[.agg #[.int .i64 f, .int .i64 m], .int .i64 n] w fun e w' => e = .returned (.int .i64 1) ∧ Below w.heap.size w w' := by
  have := fault_any f m n w; rw [h] at this; exact this
theorem fault_eq (f m n : Int) (w : World) (b : Bool) (h : okB f m n = b) :
    Calls Try.prog 55 #[.agg #[.int .i64 f, .int .i64 m], .int .i64 n] w fun e w' => e = .returned (.int .i64 (faultB b)) ∧ Below w.heap.size w w' := by
  subst h; exact fault_any f m n w

end Go.Proofs.Ythmeaclekedilac
