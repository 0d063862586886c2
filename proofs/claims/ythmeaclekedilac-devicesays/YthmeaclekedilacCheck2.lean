/- request.Check of any request: the error that B1 names. -/
import Derived.Test.YthmeaclekedilacGood
import Derived.Test.YthmeaclekedilacCheck
namespace Go.Proofs.Ythmeaclekedilac
open Go.RowKit Go.BigFrame
attribute [local go_sem] Later.cell Later.frozen

theorem dataOf_eq (r : Rq) (w : World) (D : Int) (hD : (if r.wr = true then r.m else 0) = D) :
    Calls Try.prog 73 #[r.val] w fun e w' => e = .returned (.int .i64 D) ∧ Below w.heap.size w w' := by
  subst hD; exact dataOf_any r w
def errN (n : Int) : Value := .iface 47 (.int .i64 n)

set_option maxHeartbeats 400000 in
theorem rcheck_span (r : Rq) (w : World) (h : okB r.f r.m 4 = false) :
    Calls Try.prog 50 #[r.val] w fun e w' => e = .returned (.iface 47 (.int .i64 1)) ∧ Below w.heap.size w w' := by
  obtain ⟨wr, f, m, da, dc, data, ta, tc, tags, born⟩ := r
  simp only at h
  go_enter Try.func50, Try.ntmps50
  go_wp2_with fail
  go_at_call 72; refine (check_no _ _ _ _ h).mono ?_; rintro e w1 ⟨rfl, hb⟩; (try clear hc hf hz); (first | replace HB := bthen HB hb | replace HB := bthen (bdrew HB) hb | have HB := hb); clear hb; obtain ⟨hc, hf, hz⟩ := bcell HB
  go_wp2
  go_ret
  exact ⟨rfl, by repeat (first | with_reducible exact Below.refl _ _ | with_reducible refine balloc ?_ _ | with_reducible refine bdrew ?_ | with_reducible refine bset' ?_ (by omega) _ | with_reducible refine bthen ?_ (by assumption))⟩

set_option maxHeartbeats 1000000 in
theorem rcheck_shape (r : Rq) (w : World) (hr : r.At w) (h : okB r.f r.m 4 = true) (D : Int) (hD : (if r.wr = true then r.m else 0) = D) (h2 : ((r.data.length : Int) != D) = true) :
    Calls Try.prog 50 #[r.val] w fun e w' => e = .returned (.iface 47 (.int .i64 3)) ∧ Below w.heap.size w w' := by
  have HD : Hid ((if r.wr = true then r.m else 0) = D) := hD
  clear hD
  have l1 := hr.dl
  have l2 := hr.tl
  all_goals
    go_enter Try.func50, Try.ntmps50
    go_wp2_with fail
    go_at_call 72; refine (check_yes _ _ _ _ h).mono ?_; rintro e w1 ⟨rfl, hb⟩; (try clear hc hf hz); (first | replace HB := bthen HB hb | replace HB := bthen (bdrew HB) hb | have HB := hb); clear hb; obtain ⟨hc, hf, hz⟩ := bcell HB
    go_wp2_with fail
    refine wp_region_later (by first | exact HB | exact bdrew HB | exact Below.refl _ _) (by kernel_rfl) (by kernel_rfl) ?_
    repeat (go_big_quiet_step (first | exact rfl | (go_at_call 73; exact calls_later (dataOf_eq r _ D HD.out))))
    refine wpQuiet_nil ?_; intro _ hw'; obtain ⟨p, hw''⟩ := hw'; subst hw''; (try clear hc hf hz); (try clear HB); have HB := p.below; obtain ⟨hc, hf, hz⟩ := bcell HB
    go_wp2
    go_ret
    exact ⟨rfl, by repeat (first | with_reducible exact Below.refl _ _ | with_reducible refine balloc ?_ _ | with_reducible refine bdrew ?_ | with_reducible refine bset' ?_ (by omega) _ | with_reducible refine bthen ?_ (by assumption))⟩

set_option maxHeartbeats 1000000 in
theorem rcheck_tags (r : Rq) (w : World) (hr : r.At w) (h : okB r.f r.m 4 = true) (D : Int) (hD : (if r.wr = true then r.m else 0) = D) (h2 : ((r.data.length : Int) != D) = false) (h3 : r.tags.length < 1 ∨ 4 < r.tags.length) :
    Calls Try.prog 50 #[r.val] w fun e w' => e = .returned (.iface 47 (.int .i64 3)) ∧ Below w.heap.size w w' := by
  have HD : Hid ((if r.wr = true then r.m else 0) = D) := hD
  clear hD
  have l1 := hr.dl
  have l2 := hr.tl
  rcases h3 with h3 | h3
  all_goals
    go_enter Try.func50, Try.ntmps50
    go_wp2_with fail
    go_at_call 72; refine (check_yes _ _ _ _ h).mono ?_; rintro e w1 ⟨rfl, hb⟩; (try clear hc hf hz); (first | replace HB := bthen HB hb | replace HB := bthen (bdrew HB) hb | have HB := hb); clear hb; obtain ⟨hc, hf, hz⟩ := bcell HB
    go_wp2_with fail
    refine wp_region_later (by first | exact HB | exact bdrew HB | exact Below.refl _ _) (by kernel_rfl) (by kernel_rfl) ?_
    repeat (go_big_quiet_step (first | exact rfl | (go_at_call 73; exact calls_later (dataOf_eq r _ D HD.out))))
    refine wpQuiet_nil ?_; intro _ hw'; obtain ⟨p, hw''⟩ := hw'; subst hw''; (try clear hc hf hz); (try clear HB); have HB := p.below; obtain ⟨hc, hf, hz⟩ := bcell HB
    go_wp2
    go_ret
    exact ⟨rfl, by repeat (first | with_reducible exact Below.refl _ _ | with_reducible refine balloc ?_ _ | with_reducible refine bdrew ?_ | with_reducible refine bset' ?_ (by omega) _ | with_reducible refine bthen ?_ (by assumption))⟩

set_option maxHeartbeats 1000000 in
theorem rcheck_born (r : Rq) (w : World) (hr : r.At w) (h : okB r.f r.m 4 = true) (D : Int) (hD : (if r.wr = true then r.m else 0) = D) (h2 : ((r.data.length : Int) != D) = false) (t1 : ¬ r.tags.length < 1) (t2 : ¬ 4 < r.tags.length) (h4 : r.born < 0 ∨ (0 ≤ r.born ∧ 1000000000 < r.born)) :
    Calls Try.prog 50 #[r.val] w fun e w' => e = .returned (.iface 47 (.int .i64 1)) ∧ Below w.heap.size w w' := by
  have HD : Hid ((if r.wr = true then r.m else 0) = D) := hD
  clear hD
  have l1 := hr.dl
  have l2 := hr.tl
  rcases h4 with h4 | ⟨h4, h5⟩
  all_goals
    go_enter Try.func50, Try.ntmps50
    go_wp2_with fail
    go_at_call 72; refine (check_yes _ _ _ _ h).mono ?_; rintro e w1 ⟨rfl, hb⟩; (try clear hc hf hz); (first | replace HB := bthen HB hb | replace HB := bthen (bdrew HB) hb | have HB := hb); clear hb; obtain ⟨hc, hf, hz⟩ := bcell HB
    go_wp2_with fail
    refine wp_region_later (by first | exact HB | exact bdrew HB | exact Below.refl _ _) (by kernel_rfl) (by kernel_rfl) ?_
    repeat (go_big_quiet_step (first | exact rfl | (go_at_call 73; exact calls_later (dataOf_eq r _ D HD.out))))
    refine wpQuiet_nil ?_; intro _ hw'; obtain ⟨p, hw''⟩ := hw'; subst hw''; (try clear hc hf hz); (try clear HB); have HB := p.below; obtain ⟨hc, hf, hz⟩ := bcell HB
    go_wp2
    go_ret
    exact ⟨rfl, by repeat (first | with_reducible exact Below.refl _ _ | with_reducible refine balloc ?_ _ | with_reducible refine bdrew ?_ | with_reducible refine bset' ?_ (by omega) _ | with_reducible refine bthen ?_ (by assumption))⟩

set_option maxHeartbeats 1000000 in
theorem rcheck_long (r : Rq) (w : World) (hr : r.At w) (h : okB r.f r.m 4 = true) (D : Int) (hD : (if r.wr = true then r.m else 0) = D) (h2 : ((r.data.length : Int) != D) = false) (t1 : ¬ r.tags.length < 1) (t2 : ¬ 4 < r.tags.length) (h4 : 0 ≤ r.born) (h5 : r.born ≤ 1000000000) (h6 : r.data.any longB = true) :
    Calls Try.prog 50 #[r.val] w fun e w' => e = .returned (.iface 47 (.int .i64 1)) ∧ Below w.heap.size w w' := by
  have HD : Hid ((if r.wr = true then r.m else 0) = D) := hD
  clear hD
  have l1 := hr.dl
  have l2 := hr.tl
  all_goals
    go_enter Try.func50, Try.ntmps50
    go_wp2_with fail
    go_at_call 72; refine (check_yes _ _ _ _ h).mono ?_; rintro e w1 ⟨rfl, hb⟩; (try clear hc hf hz); (first | replace HB := bthen HB hb | replace HB := bthen (bdrew HB) hb | have HB := hb); clear hb; obtain ⟨hc, hf, hz⟩ := bcell HB
    go_wp2_with fail
    refine wp_region_later (by first | exact HB | exact bdrew HB | exact Below.refl _ _) (by kernel_rfl) (by kernel_rfl) ?_
    repeat (go_big_quiet_step (first | exact rfl | (go_at_call 73; exact calls_later (dataOf_eq r _ D HD.out))))
    refine wpQuiet_nil ?_; intro _ hw'; obtain ⟨p, hw''⟩ := hw'; subst hw''; (try clear hc hf hz); (try clear HB); have HB := p.below; obtain ⟨hc, hf, hz⟩ := bcell HB
    go_wp2_with fail
    go_at_call 74; refine (containsS_any r.data _ _ _ (hr.data.later (by repeat (first | with_reducible exact Below.refl _ _ | with_reducible refine balloc ?_ _ | with_reducible refine bdrew ?_ | with_reducible refine bset' ?_ (by omega) _ | with_reducible refine bthen ?_ (by assumption)))) l1 _ h6).mono ?_; rintro e w1 ⟨rfl, hb⟩; (try clear hc hf hz); (first | replace HB := bthen HB hb | replace HB := bthen (bdrew HB) hb | have HB := hb); clear hb; obtain ⟨hc, hf, hz⟩ := bcell HB
    go_wp2
    go_ret
    exact ⟨rfl, by repeat (first | with_reducible exact Below.refl _ _ | with_reducible refine balloc ?_ _ | with_reducible refine bdrew ?_ | with_reducible refine bset' ?_ (by omega) _ | with_reducible refine bthen ?_ (by assumption))⟩

set_option maxHeartbeats 1000000 in
theorem rcheck_fine (r : Rq) (w : World) (hr : r.At w) (h : okB r.f r.m 4 = true) (D : Int) (hD : (if r.wr = true then r.m else 0) = D) (h2 : ((r.data.length : Int) != D) = false) (t1 : ¬ r.tags.length < 1) (t2 : ¬ 4 < r.tags.length) (h4 : 0 ≤ r.born) (h5 : r.born ≤ 1000000000) (h6 : r.data.any longB = false) :
    Calls Try.prog 50 #[r.val] w fun e w' => e = .returned .nilIface ∧ Below w.heap.size w w' := by
  have HD : Hid ((if r.wr = true then r.m else 0) = D) := hD
  clear hD
  have l1 := hr.dl
  have l2 := hr.tl
  all_goals
    go_enter Try.func50, Try.ntmps50
    go_wp2_with fail
    go_at_call 72; refine (check_yes _ _ _ _ h).mono ?_; rintro e w1 ⟨rfl, hb⟩; (try clear hc hf hz); (first | replace HB := bthen HB hb | replace HB := bthen (bdrew HB) hb | have HB := hb); clear hb; obtain ⟨hc, hf, hz⟩ := bcell HB
    go_wp2_with fail
    refine wp_region_later (by first | exact HB | exact bdrew HB | exact Below.refl _ _) (by kernel_rfl) (by kernel_rfl) ?_
    repeat (go_big_quiet_step (first | exact rfl | (go_at_call 73; exact calls_later (dataOf_eq r _ D HD.out))))
    refine wpQuiet_nil ?_; intro _ hw'; obtain ⟨p, hw''⟩ := hw'; subst hw''; (try clear hc hf hz); (try clear HB); have HB := p.below; obtain ⟨hc, hf, hz⟩ := bcell HB
    go_wp2_with fail
    go_at_call 74; refine (containsS_any r.data _ _ _ (hr.data.later (by repeat (first | with_reducible exact Below.refl _ _ | with_reducible refine balloc ?_ _ | with_reducible refine bdrew ?_ | with_reducible refine bset' ?_ (by omega) _ | with_reducible refine bthen ?_ (by assumption)))) l1 _ h6).mono ?_; rintro e w1 ⟨rfl, hb⟩; (try clear hc hf hz); (first | replace HB := bthen HB hb | replace HB := bthen (bdrew HB) hb | have HB := hb); clear hb; obtain ⟨hc, hf, hz⟩ := bcell HB
    go_wp2
    go_ret
    exact ⟨rfl, by repeat (first | with_reducible exact Below.refl _ _ | with_reducible refine balloc ?_ _ | with_reducible refine bdrew ?_ | with_reducible refine bset' ?_ (by omega) _ | with_reducible refine bthen ?_ (by assumption))⟩

def errOf (n : Int) : Value := if n = 0 then .nilIface else .iface 47 (.int .i64 n)
theorem shape_D (r : Rq) (D : Int) (hD : (if r.wr = true then r.m else 0) = D) : ((r.data.length : Int) != D) = !(shapeB r) := by
  subst hD
  unfold shapeB
  cases r.wr
  all_goals
    simp only [if_true, if_false, Bool.false_eq_true]
    rw [Bool.eq_iff_iff]
    simp only [bne_iff_ne, Bool.not_eq_true', decide_eq_false_iff_not, ne_eq]
    try omega
theorem long_small (r : Rq) : r.data.any longB = !(small4 r) := by
  unfold small4
  rw [List.not_all_eq_any_not]
  congr 1
  funext s
  simp only [longB]
  rw [← decide_not]
  congr 1
  simp
/-- request.Check says what B1 says. -/
theorem rcheck_any (r : Rq) (w : World) (hr : r.At w) (n : Int) (hn : faultR r = n) :
    Calls Try.prog 50 #[r.val] w fun e w' => e = .returned (errOf n) ∧ Below w.heap.size w w' := by
  subst hn
  unfold faultR
  have hD := shape_D r _ rfl
  by_cases h : okB r.f r.m 4 = false
  · rw [if_pos h]; exact rcheck_span r w h
  · rw [if_neg h]
    have h' : okB r.f r.m 4 = true := by simpa using h
    by_cases h2 : shapeB r = false
    · rw [if_pos h2]; exact rcheck_shape r w hr h' _ rfl (by rw [hD, h2]; rfl)
    · rw [if_neg h2]
      have h2' : ((r.data.length : Int) != (if r.wr = true then r.m else 0)) = false := by
        rw [hD]; simpa using h2
      by_cases h3 : r.tags.length < 1 ∨ 4 < r.tags.length
      · rw [if_pos h3]; exact rcheck_tags r w hr h' _ rfl h2' h3
      · rw [if_neg h3]
        by_cases h4 : r.born < 0 ∨ 1000000000 < r.born
        · rw [if_pos h4]; exact rcheck_born r w hr h' _ rfl h2' (by omega) (by omega) (by omega)
        · rw [if_neg h4]
          have hls := long_small r
          cases hs : small4 r
          · rw [hs] at hls; exact rcheck_long r w hr h' _ rfl h2' (by omega) (by omega) (by omega) (by omega) hls
          · rw [hs] at hls; exact rcheck_fine r w hr h' _ rfl h2' (by omega) (by omega) (by omega) (by omega) hls
end Go.Proofs.Ythmeaclekedilac
