/- TopSpan: a span has just as many sectors as it says. The walk. -/
import Derived.Test.YtigjmhnmjhhmmabSpan
namespace Go.Proofs.Ytigjmhnmjhhmmab
open Go.RowKit Go.BigFrame

def cntI (f m j : Int) : Int := if j ≤ f then 0 else if j ≤ f + m then j - f else m
theorem cnt_yes {f m j : Int} (h : inSpan f m j = true) : cntI f m (j + 1) = cntI f m j + 1 ∧ cntI f m j = j - f := by
  simp only [inSpan, decide_eq_true_eq] at h
  unfold cntI; constructor <;> (repeat split) <;> omega
theorem cnt_no {f m j : Int} (hm : 0 ≤ m) (h : inSpan f m j = false) : cntI f m (j + 1) = cntI f m j := by
  simp only [inSpan, decide_eq_false_iff_not] at h
  unfold cntI; (repeat split) <;> omega
theorem cnt_bd {f m j : Int} (hm : 0 ≤ m) : 0 ≤ cntI f m j ∧ cntI f m j ≤ m := by unfold cntI; (repeat split) <;> omega
theorem cnt_end {f m : Int} (h : okB f m 32 = true) : cntI f m 35 = m := by
  simp only [okB, decide_eq_true_eq] at h
  unfold cntI; (repeat split) <;> omega

set_option maxHeartbeats 400000 in
theorem ts_bad (f m : Int) (w : World) (h : okB f m 32 = false) :
    Calls Try.prog 3 #[.agg #[.int .i64 f, .int .i64 m]] w fun e w' => e = .returned (.bool true) ∧ Below w.heap.size w w' := by
  go_enter Try.func3, Try.ntmps3
  go_wp2_with fail
  go_at_call 9; refine (has_eq 4 2 5 _ true (by decide +kernel)).mono ?_; rintro e w1 ⟨rfl, hb⟩; (try clear hc hf hz); (first | replace HB := bthen HB hb | replace HB := bthen (bdrew HB) hb | have HB := hb); clear hb; obtain ⟨hc, hf, hz⟩ := bcell HB
  go_wp2_with fail
  go_at_call 10; refine (check_no _ _ _ _ h).mono ?_; rintro e w1 ⟨rfl, hb⟩; (try clear hc hf hz); (first | replace HB := bthen HB hb | replace HB := bthen (bdrew HB) hb | have HB := hb); clear hb; obtain ⟨hc, hf, hz⟩ := bcell HB
  go_wp2_with fail
  go_ret
  exact ⟨rfl, by repeat (first | exact Below.refl _ _ | refine balloc ?_ _ | refine bdrew ?_ | refine bthen ?_ (by assumption))⟩

set_option maxHeartbeats 1000000 in
theorem ts_good (f m : Int) (w : World) (h : okB f m 32 = true) (h1 : hasB f m f = true) (h2 : hasB f m (f - 1) = false) :
    Calls Try.prog 3 #[.agg #[.int .i64 f, .int .i64 m]] w fun e w' => e = .returned (.bool true) ∧ Below w.heap.size w w' := by
  have h' := h
  simp only [okB, decide_eq_true_eq] at h'
  obtain ⟨f0, f1, m1, m2, m3⟩ := h'
  go_enter Try.func3, Try.ntmps3
  go_wp2_with fail
  go_at_call 9; refine (has_eq 4 2 5 _ true (by decide +kernel)).mono ?_; rintro e w1 ⟨rfl, hb⟩; (try clear hc hf hz); (first | replace HB := bthen HB hb | replace HB := bthen (bdrew HB) hb | have HB := hb); clear hb; obtain ⟨hc, hf, hz⟩ := bcell HB
  go_wp2_with fail
  go_at_call 10; refine (check_yes _ _ _ _ h).mono ?_; rintro e w1 ⟨rfl, hb⟩; (try clear hc hf hz); (first | replace HB := bthen HB hb | replace HB := bthen (bdrew HB) hb | have HB := hb); clear hb; obtain ⟨hc, hf, hz⟩ := bcell HB
  go_wp2_with fail
  clear hc hf hz
  go_loopw [3, 4] (fun c i wr => ∃ j : Int, -3 ≤ j ∧ j ≤ 35 ∧ i = .int .i64 j ∧ c = .int .i64 (cntI f m j) ∧ Below (w.alloc (Obj.cells #[Value.int IntKind.i64 f, Value.int IntKind.i64 m] 23)).heap.size (w.alloc (Obj.cells #[Value.int IntKind.i64 f, Value.int IntKind.i64 m] 23)) wr) (fun _ i _ => (35 - intOf i).toNat)
  case atStart => exact ⟨-3, by omega, by omega, rfl, by simp [cntI]; omega, HB⟩
  case round =>
    clear HB
    obtain ⟨j, hj0, hj1, rfl, rfl, HB⟩ := hrel
    obtain ⟨hc, hf, hz⟩ := bcell HB
    have bd := cnt_bd (f := f) (m := m) (j := j) (by omega)
    obtain ⟨bd0, bd1⟩ := bd
    by_cases hlt : j < 35
    · cases hx : inSpan f m j
      · have hxb : hasB f m j = false := by rw [hasB_ok f m 32 j h (by omega)]; exact hx
        have HC : Hid (cntI f m (j + 1) = cntI f m j) := cnt_no (by omega) hx
        clear hx
        go_wp2_with (go_at_call 9; refine (has_eq _ _ _ _ _ hxb).mono ?_; rintro e w1 ⟨rfl, hb⟩; (try clear hc hf hz); (first | replace HB := bthen HB hb | replace HB := bthen (bdrew HB) hb | have HB := hb); clear hb; obtain ⟨hc, hf, hz⟩ := bcell HB)
        go_roundw
        case rel => exact ⟨j + 1, by omega, by omega, by go_num, by rw [HC.out], HB⟩
        case measure => simp [intOf]; omega
      · have hxb : hasB f m j = true := by rw [hasB_ok f m 32 j h (by omega)]; exact hx
        have HC : Hid (cntI f m (j + 1) = cntI f m j + 1) := (cnt_yes hx).1
        clear hx
        go_wp2_with (go_at_call 9; refine (has_eq _ _ _ _ _ hxb).mono ?_; rintro e w1 ⟨rfl, hb⟩; (try clear hc hf hz); (first | replace HB := bthen HB hb | replace HB := bthen (bdrew HB) hb | have HB := hb); clear hb; obtain ⟨hc, hf, hz⟩ := bcell HB)
        go_roundw
        case rel => exact ⟨j + 1, by omega, by omega, by go_num, by rw [HC.out], HB⟩
        case measure => simp [intOf]; omega
    · obtain rfl : j = 35 := by omega
      have hce : (cntI f m 35 == m) = true := by rw [cnt_end h]; simp
      go_wp2_with fail
      go_at_call 9; refine (has_eq _ _ _ _ _ h1).mono ?_; rintro e w1 ⟨rfl, hb⟩; (try clear hc hf hz); (first | replace HB := bthen HB hb | replace HB := bthen (bdrew HB) hb | have HB := hb); clear hb; obtain ⟨hc, hf, hz⟩ := bcell HB
      go_wp2_with fail
      go_at_call 9; refine (has_eq _ _ _ _ _ h2).mono ?_; rintro e w1 ⟨rfl, hb⟩; (try clear hc hf hz); (first | replace HB := bthen HB hb | replace HB := bthen (bdrew HB) hb | have HB := hb); clear hb; obtain ⟨hc, hf, hz⟩ := bcell HB
      go_wp2_with fail
      go_ret
      exact ⟨rfl, by repeat (first | exact Below.refl _ _ | refine balloc ?_ _ | refine bdrew ?_ | refine bthen ?_ (by assumption))⟩

end Go.Proofs.Ytigjmhnmjhhmmab
