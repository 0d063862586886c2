/- TopMeet: two spans meet either way round, if a sector is in both; those next to each other don't. For all spans and every sector. -/
import Derived.Test.YtigjmhnmjhhmmaaSpan
namespace Go.Proofs.Ytigjmhnmjhhmmaa
open Go.RowKit Go.BigFrame
attribute [local go_sem] Later.cell Later.frozen

theorem tm_facts (f m g n a : Int) (h : okB f m 32 = true) (k : okB g n 32 = true) (ha : a ≤ 9223372036854775807) :
    meetB g n f m = meetB f m g n ∧ meetB f m f m = true ∧ (hasB f m a = true → hasB g n a = true → meetB f m g n = true) ∧ ((wrap64 (f + m) == g) = true → meetB f m g n = false) := by
  have h' := h; have k' := k
  simp only [okB, decide_eq_true_eq] at h' k'
  rw [meetB_ok _ _ _ _ h k, meetB_ok _ _ _ _ k h, meetB_ok _ _ _ _ h h, hasB_ok f m 32 _ h ha, hasB_ok g n 32 _ k ha]
  have : wrap64 (f + m) = f + m := by unfold wrap64; omega
  rw [this]
  simp only [inSpan, decide_eq_true_eq, decide_eq_false_iff_not, beq_iff_eq, decide_eq_decide]
  omega

set_option maxHeartbeats 400000 in
theorem tm_bad1 (f m g n a : Int) (w : World) (h : okB f m 32 = false) :
    Calls Try.prog 6 #[.agg #[.int .i64 f, .int .i64 m], .agg #[.int .i64 g, .int .i64 n], .int .i64 a] w fun e w' => e = .returned (.bool true) ∧ Below w.heap.size w w' := by
  have h0 : meetB 1 1 2 1 = false := by decide +kernel
  go_enter Try.func6, Try.ntmps6
  go_wp2_with (first | (go_at_call 7; refine (meet_any _ _ _ _ _).mono ?_; rintro e w1 ⟨rfl, hb⟩; (try clear hc hf hz); (first | replace HB := bthen HB hb | replace HB := bthen (bdrew HB) hb | have HB := hb); clear hb; obtain ⟨hc, hf, hz⟩ := bcell HB) | (go_at_call 10; refine (check_no _ _ _ _ h).mono ?_; rintro e w1 ⟨rfl, hb⟩; (try clear hc hf hz); (first | replace HB := bthen HB hb | replace HB := bthen (bdrew HB) hb | have HB := hb); clear hb; obtain ⟨hc, hf, hz⟩ := bcell HB))
  go_ret
  exact ⟨rfl, by repeat (first | exact Below.refl _ _ | refine balloc ?_ _ | refine bdrew ?_ | refine bthen ?_ (by assumption))⟩

set_option maxHeartbeats 400000 in
theorem tm_bad2 (f m g n a : Int) (w : World) (h : okB f m 32 = true) (k : okB g n 32 = false) :
    Calls Try.prog 6 #[.agg #[.int .i64 f, .int .i64 m], .agg #[.int .i64 g, .int .i64 n], .int .i64 a] w fun e w' => e = .returned (.bool true) ∧ Below w.heap.size w w' := by
  have h0 : meetB 1 1 2 1 = false := by decide +kernel
  go_enter Try.func6, Try.ntmps6
  go_wp2_with fail
  go_at_call 7; refine (meet_any _ _ _ _ _).mono ?_; rintro e w1 ⟨rfl, hb⟩; (try clear hc hf hz); (first | replace HB := bthen HB hb | replace HB := bthen (bdrew HB) hb | have HB := hb); clear hb; obtain ⟨hc, hf, hz⟩ := bcell HB
  go_wp2_with fail
  go_at_call 10; refine (check_yes _ _ _ _ h).mono ?_; rintro e w1 ⟨rfl, hb⟩; (try clear hc hf hz); (first | replace HB := bthen HB hb | replace HB := bthen (bdrew HB) hb | have HB := hb); clear hb; obtain ⟨hc, hf, hz⟩ := bcell HB
  go_wp2_with fail
  go_at_call 10; refine (check_no _ _ _ _ k).mono ?_; rintro e w1 ⟨rfl, hb⟩; (try clear hc hf hz); (first | replace HB := bthen HB hb | replace HB := bthen (bdrew HB) hb | have HB := hb); clear hb; obtain ⟨hc, hf, hz⟩ := bcell HB
  go_wp2_with fail
  go_ret
  exact ⟨rfl, by repeat (first | exact Below.refl _ _ | refine balloc ?_ _ | refine bdrew ?_ | refine bthen ?_ (by assumption))⟩

set_option maxHeartbeats 1000000 in
theorem tm_good (f m g n a : Int) (w : World) (x y M Nx : Bool) (h : okB f m 32 = true) (k : okB g n 32 = true)
    (hx : hasB f m a = x) (hy : hasB g n a = y) (hm : meetB f m g n = M) (hm2 : meetB g n f m = M) (hm3 : meetB f m f m = true) (hn : (wrap64 (f + m) == g) = Nx)
    (c1 : x = true → y = true → M = true) (c2 : Nx = true → M = false) :
    Calls Try.prog 6 #[.agg #[.int .i64 f, .int .i64 m], .agg #[.int .i64 g, .int .i64 n], .int .i64 a] w fun e w' => e = .returned (.bool true) ∧ Below w.heap.size w w' := by
  have h0 : meetB 1 1 2 1 = false := by decide +kernel
  cases x <;> cases y <;> cases M <;> cases Nx <;> simp only [reduceCtorEq, forall_const, imp_false] at c1 c2
  all_goals
    go_enter Try.func6, Try.ntmps6
    go_wp2_with (first | (go_at_call 7; refine (meet_any _ _ _ _ _).mono ?_; rintro e w1 ⟨rfl, hb⟩; (try clear hc hf hz); (first | replace HB := bthen HB hb | replace HB := bthen (bdrew HB) hb | have HB := hb); clear hb; obtain ⟨hc, hf, hz⟩ := bcell HB) | (go_at_call 10; refine (check_yes _ _ _ _ (by assumption)).mono ?_; rintro e w1 ⟨rfl, hb⟩; (try clear hc hf hz); (first | replace HB := bthen HB hb | replace HB := bthen (bdrew HB) hb | have HB := hb); clear hb; obtain ⟨hc, hf, hz⟩ := bcell HB) | (go_at_call 13; refine (has_any _ _ _ _).mono ?_; rintro e w1 ⟨rfl, hb⟩; (try clear hc hf hz); (first | replace HB := bthen HB hb | replace HB := bthen (bdrew HB) hb | have HB := hb); clear hb; obtain ⟨hc, hf, hz⟩ := bcell HB))
    refine wp_region_later (by first | exact HB | exact bdrew HB | exact Below.refl _ _) (by kernel_rfl) (by kernel_rfl) ?_
    repeat (go_big_quiet_step (first | exact rfl | (go_at_call 7; exact calls_later (meet_eq _ _ _ _ _ _ (by assumption))) | (go_at_call 8; exact calls_later (next_eq _ _ _ _ _ _ (by assumption)))))
    refine wpQuiet_nil ?_; intro _ hw'; obtain ⟨p, hw''⟩ := hw'; subst hw''; (try clear hc hf hz); (try clear HB); have HB := p.below; obtain ⟨hc, hf, hz⟩ := bcell HB
    go_wp2
    go_ret
    exact ⟨rfl, by repeat (first | exact Below.refl _ _ | refine balloc ?_ _ | refine bdrew ?_ | refine bthen ?_ (by assumption))⟩

end Go.Proofs.Ytigjmhnmjhhmmaa
