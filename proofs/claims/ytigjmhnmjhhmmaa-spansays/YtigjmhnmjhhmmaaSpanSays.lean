/- SpanSays: for all spans, every sector and number, what may be, meets, is next and is in is what A1 and A2 say. The walk. -/
import Derived.Test.YtigjmhnmjhhmmaaSpanRef
namespace Go.Proofs.Ytigjmhnmjhhmmaa
open Go.RowKit Go.BigFrame
attribute [local go_sem] Later.cell Later.frozen

set_option maxHeartbeats 1000000 in
theorem ss_bad1 (f m g n a k : Int) (w : World) (h : okB f m 32 = false) :
    Calls Try.prog 3 #[.agg #[.int .i64 f, .int .i64 m], .agg #[.int .i64 g, .int .i64 n], .int .i64 a, .int .i64 k] w fun e w' => e = .returned (.bool true) ∧ Below w.heap.size w w' := by
  cases hk : okB f m k
  · go_enter Try.func3, Try.ntmps3; go_wp2_with fail; go_at_call 7; refine (meet_eq 1 2 2 1 _ true (by decide +kernel)).mono ?_; rintro e w1 ⟨rfl, hb⟩; (try clear hc hf hz); (first | replace HB := bthen HB hb | replace HB := bthen (bdrew HB) hb | have HB := hb); clear hb; obtain ⟨hc, hf, hz⟩ := bcell HB; go_wp2_with fail; go_at_call 8; refine (next_eq 1 2 3 1 _ true (by decide +kernel)).mono ?_; rintro e w1 ⟨rfl, hb⟩; (try clear hc hf hz); (first | replace HB := bthen HB hb | replace HB := bthen (bdrew HB) hb | have HB := hb); clear hb; obtain ⟨hc, hf, hz⟩ := bcell HB; go_wp2_with fail; refine wp_region_later (by first | exact HB | exact bdrew HB | exact Below.refl _ _) (by kernel_rfl) (by kernel_rfl) ?_; (repeat (go_big_quiet_step (first | exact rfl | (go_at_call 10; exact calls_later (check_no _ _ _ _ hk)) | (go_at_call 11; exact calls_later (fault_no _ _ _ _ hk)) | (go_at_call 9; exact calls_later (same_err _ _ _)) ))); refine wpQuiet_nil ?_; intro _ hw'; obtain ⟨p, hw''⟩ := hw'; subst hw''; (try clear hc hf hz); (try clear HB); have HB := p.below; obtain ⟨hc, hf, hz⟩ := bcell HB
    go_wp2_with (go_at_call 11; refine (fault_no _ _ _ _ h).mono ?_; rintro e w1 ⟨rfl, hb⟩; (try clear hc hf hz); (first | replace HB := bthen HB hb | replace HB := bthen (bdrew HB) hb | have HB := hb); clear hb; obtain ⟨hc, hf, hz⟩ := bcell HB)
    go_ret
    exact ⟨rfl, by repeat (first | exact Below.refl _ _ | refine balloc ?_ _ | refine bdrew ?_ | refine bthen ?_ (by assumption))⟩
  · go_enter Try.func3, Try.ntmps3; go_wp2_with fail; go_at_call 7; refine (meet_eq 1 2 2 1 _ true (by decide +kernel)).mono ?_; rintro e w1 ⟨rfl, hb⟩; (try clear hc hf hz); (first | replace HB := bthen HB hb | replace HB := bthen (bdrew HB) hb | have HB := hb); clear hb; obtain ⟨hc, hf, hz⟩ := bcell HB; go_wp2_with fail; go_at_call 8; refine (next_eq 1 2 3 1 _ true (by decide +kernel)).mono ?_; rintro e w1 ⟨rfl, hb⟩; (try clear hc hf hz); (first | replace HB := bthen HB hb | replace HB := bthen (bdrew HB) hb | have HB := hb); clear hb; obtain ⟨hc, hf, hz⟩ := bcell HB; go_wp2_with fail; refine wp_region_later (by first | exact HB | exact bdrew HB | exact Below.refl _ _) (by kernel_rfl) (by kernel_rfl) ?_; (repeat (go_big_quiet_step (first | exact rfl | (go_at_call 10; exact calls_later (check_yes _ _ _ _ hk)) | (go_at_call 11; exact calls_later (fault_yes _ _ _ _ hk)) | (go_at_call 9; exact calls_later (same_nil _ _)) ))); refine wpQuiet_nil ?_; intro _ hw'; obtain ⟨p, hw''⟩ := hw'; subst hw''; (try clear hc hf hz); (try clear HB); have HB := p.below; obtain ⟨hc, hf, hz⟩ := bcell HB
    go_wp2_with (go_at_call 11; refine (fault_no _ _ _ _ h).mono ?_; rintro e w1 ⟨rfl, hb⟩; (try clear hc hf hz); (first | replace HB := bthen HB hb | replace HB := bthen (bdrew HB) hb | have HB := hb); clear hb; obtain ⟨hc, hf, hz⟩ := bcell HB)
    go_ret
    exact ⟨rfl, by repeat (first | exact Below.refl _ _ | refine balloc ?_ _ | refine bdrew ?_ | refine bthen ?_ (by assumption))⟩

set_option maxHeartbeats 1000000 in
theorem ss_bad2 (f m g n a k : Int) (w : World) (h : okB f m 32 = true) (h2 : okB g n 32 = false) :
    Calls Try.prog 3 #[.agg #[.int .i64 f, .int .i64 m], .agg #[.int .i64 g, .int .i64 n], .int .i64 a, .int .i64 k] w fun e w' => e = .returned (.bool true) ∧ Below w.heap.size w w' := by
  cases hk : okB f m k
  · go_enter Try.func3, Try.ntmps3; go_wp2_with fail; go_at_call 7; refine (meet_eq 1 2 2 1 _ true (by decide +kernel)).mono ?_; rintro e w1 ⟨rfl, hb⟩; (try clear hc hf hz); (first | replace HB := bthen HB hb | replace HB := bthen (bdrew HB) hb | have HB := hb); clear hb; obtain ⟨hc, hf, hz⟩ := bcell HB; go_wp2_with fail; go_at_call 8; refine (next_eq 1 2 3 1 _ true (by decide +kernel)).mono ?_; rintro e w1 ⟨rfl, hb⟩; (try clear hc hf hz); (first | replace HB := bthen HB hb | replace HB := bthen (bdrew HB) hb | have HB := hb); clear hb; obtain ⟨hc, hf, hz⟩ := bcell HB; go_wp2_with fail; refine wp_region_later (by first | exact HB | exact bdrew HB | exact Below.refl _ _) (by kernel_rfl) (by kernel_rfl) ?_; (repeat (go_big_quiet_step (first | exact rfl | (go_at_call 10; exact calls_later (check_no _ _ _ _ hk)) | (go_at_call 11; exact calls_later (fault_no _ _ _ _ hk)) | (go_at_call 9; exact calls_later (same_err _ _ _)) ))); refine wpQuiet_nil ?_; intro _ hw'; obtain ⟨p, hw''⟩ := hw'; subst hw''; (try clear hc hf hz); (try clear HB); have HB := p.below; obtain ⟨hc, hf, hz⟩ := bcell HB
    go_wp2_with fail
    go_at_call 11; refine (fault_yes _ _ _ _ h).mono ?_; rintro e w1 ⟨rfl, hb⟩; (try clear hc hf hz); (first | replace HB := bthen HB hb | replace HB := bthen (bdrew HB) hb | have HB := hb); clear hb; obtain ⟨hc, hf, hz⟩ := bcell HB
    go_wp2_with fail
    go_at_call 11; refine (fault_no _ _ _ _ h2).mono ?_; rintro e w1 ⟨rfl, hb⟩; (try clear hc hf hz); (first | replace HB := bthen HB hb | replace HB := bthen (bdrew HB) hb | have HB := hb); clear hb; obtain ⟨hc, hf, hz⟩ := bcell HB
    go_wp2_with fail
    go_ret
    exact ⟨rfl, by repeat (first | exact Below.refl _ _ | refine balloc ?_ _ | refine bdrew ?_ | refine bthen ?_ (by assumption))⟩
  · go_enter Try.func3, Try.ntmps3; go_wp2_with fail; go_at_call 7; refine (meet_eq 1 2 2 1 _ true (by decide +kernel)).mono ?_; rintro e w1 ⟨rfl, hb⟩; (try clear hc hf hz); (first | replace HB := bthen HB hb | replace HB := bthen (bdrew HB) hb | have HB := hb); clear hb; obtain ⟨hc, hf, hz⟩ := bcell HB; go_wp2_with fail; go_at_call 8; refine (next_eq 1 2 3 1 _ true (by decide +kernel)).mono ?_; rintro e w1 ⟨rfl, hb⟩; (try clear hc hf hz); (first | replace HB := bthen HB hb | replace HB := bthen (bdrew HB) hb | have HB := hb); clear hb; obtain ⟨hc, hf, hz⟩ := bcell HB; go_wp2_with fail; refine wp_region_later (by first | exact HB | exact bdrew HB | exact Below.refl _ _) (by kernel_rfl) (by kernel_rfl) ?_; (repeat (go_big_quiet_step (first | exact rfl | (go_at_call 10; exact calls_later (check_yes _ _ _ _ hk)) | (go_at_call 11; exact calls_later (fault_yes _ _ _ _ hk)) | (go_at_call 9; exact calls_later (same_nil _ _)) ))); refine wpQuiet_nil ?_; intro _ hw'; obtain ⟨p, hw''⟩ := hw'; subst hw''; (try clear hc hf hz); (try clear HB); have HB := p.below; obtain ⟨hc, hf, hz⟩ := bcell HB
    go_wp2_with fail
    go_at_call 11; refine (fault_yes _ _ _ _ h).mono ?_; rintro e w1 ⟨rfl, hb⟩; (try clear hc hf hz); (first | replace HB := bthen HB hb | replace HB := bthen (bdrew HB) hb | have HB := hb); clear hb; obtain ⟨hc, hf, hz⟩ := bcell HB
    go_wp2_with fail
    go_at_call 11; refine (fault_no _ _ _ _ h2).mono ?_; rintro e w1 ⟨rfl, hb⟩; (try clear hc hf hz); (first | replace HB := bthen HB hb | replace HB := bthen (bdrew HB) hb | have HB := hb); clear hb; obtain ⟨hc, hf, hz⟩ := bcell HB
    go_wp2_with fail
    go_ret
    exact ⟨rfl, by repeat (first | exact Below.refl _ _ | refine balloc ?_ _ | refine bdrew ?_ | refine bthen ?_ (by assumption))⟩

set_option maxHeartbeats 1000000 in
theorem ss_good (f m g n a k : Int) (w : World) (h : okB f m 32 = true) (h2 : okB g n 32 = true) (hs : inSpan f m a = hasB f m a) :
    Calls Try.prog 3 #[.agg #[.int .i64 f, .int .i64 m], .agg #[.int .i64 g, .int .i64 n], .int .i64 a, .int .i64 k] w fun e w' => e = .returned (.bool true) ∧ Below w.heap.size w w' := by
  have HS : Hid (inSpan f m a = hasB f m a) := hs
  clear hs
  cases hk : okB f m k
  · go_enter Try.func3, Try.ntmps3; go_wp2_with fail; go_at_call 7; refine (meet_eq 1 2 2 1 _ true (by decide +kernel)).mono ?_; rintro e w1 ⟨rfl, hb⟩; (try clear hc hf hz); (first | replace HB := bthen HB hb | replace HB := bthen (bdrew HB) hb | have HB := hb); clear hb; obtain ⟨hc, hf, hz⟩ := bcell HB; go_wp2_with fail; go_at_call 8; refine (next_eq 1 2 3 1 _ true (by decide +kernel)).mono ?_; rintro e w1 ⟨rfl, hb⟩; (try clear hc hf hz); (first | replace HB := bthen HB hb | replace HB := bthen (bdrew HB) hb | have HB := hb); clear hb; obtain ⟨hc, hf, hz⟩ := bcell HB; go_wp2_with fail; refine wp_region_later (by first | exact HB | exact bdrew HB | exact Below.refl _ _) (by kernel_rfl) (by kernel_rfl) ?_; (repeat (go_big_quiet_step (first | exact rfl | (go_at_call 10; exact calls_later (check_no _ _ _ _ hk)) | (go_at_call 11; exact calls_later (fault_no _ _ _ _ hk)) | (go_at_call 9; exact calls_later (same_err _ _ _)) ))); refine wpQuiet_nil ?_; intro _ hw'; obtain ⟨p, hw''⟩ := hw'; subst hw''; (try clear hc hf hz); (try clear HB); have HB := p.below; obtain ⟨hc, hf, hz⟩ := bcell HB
    go_wp2_with fail
    go_at_call 11; refine (fault_yes _ _ _ _ h).mono ?_; rintro e w1 ⟨rfl, hb⟩; (try clear hc hf hz); (first | replace HB := bthen HB hb | replace HB := bthen (bdrew HB) hb | have HB := hb); clear hb; obtain ⟨hc, hf, hz⟩ := bcell HB
    go_wp2_with fail
    go_at_call 11; refine (fault_yes _ _ _ _ h2).mono ?_; rintro e w1 ⟨rfl, hb⟩; (try clear hc hf hz); (first | replace HB := bthen HB hb | replace HB := bthen (bdrew HB) hb | have HB := hb); clear hb; obtain ⟨hc, hf, hz⟩ := bcell HB
    go_wp2_with fail
    refine wp_region_later (by first | exact HB | exact bdrew HB | exact Below.refl _ _) (by kernel_rfl) (by kernel_rfl) ?_
    repeat (go_big_quiet_step (first | exact rfl | (go_at_call 7; exact calls_later (meet_any _ _ _ _ _)) | (go_at_call 12; exact calls_later (rmeet_any _ _ _ _ _ h h2 _ rfl)) | (go_at_call 8; exact calls_later (next_any _ _ _ _ _)) | (go_at_call 13; exact calls_later (has_any _ _ _ _)) | (go_at_call 14; exact calls_later (rhas_any _ _ 32 _ _ h _ HS.out))))
    refine wpQuiet_nil ?_; intro _ hw'; obtain ⟨p, hw''⟩ := hw'; subst hw''; (try clear hc hf hz); (try clear HB); have HB := p.below; obtain ⟨hc, hf, hz⟩ := bcell HB
    go_wp2_with fail
    go_ret
    exact ⟨rfl, by repeat (first | exact Below.refl _ _ | refine balloc ?_ _ | refine bdrew ?_ | refine bthen ?_ (by assumption))⟩
  · go_enter Try.func3, Try.ntmps3; go_wp2_with fail; go_at_call 7; refine (meet_eq 1 2 2 1 _ true (by decide +kernel)).mono ?_; rintro e w1 ⟨rfl, hb⟩; (try clear hc hf hz); (first | replace HB := bthen HB hb | replace HB := bthen (bdrew HB) hb | have HB := hb); clear hb; obtain ⟨hc, hf, hz⟩ := bcell HB; go_wp2_with fail; go_at_call 8; refine (next_eq 1 2 3 1 _ true (by decide +kernel)).mono ?_; rintro e w1 ⟨rfl, hb⟩; (try clear hc hf hz); (first | replace HB := bthen HB hb | replace HB := bthen (bdrew HB) hb | have HB := hb); clear hb; obtain ⟨hc, hf, hz⟩ := bcell HB; go_wp2_with fail; refine wp_region_later (by first | exact HB | exact bdrew HB | exact Below.refl _ _) (by kernel_rfl) (by kernel_rfl) ?_; (repeat (go_big_quiet_step (first | exact rfl | (go_at_call 10; exact calls_later (check_yes _ _ _ _ hk)) | (go_at_call 11; exact calls_later (fault_yes _ _ _ _ hk)) | (go_at_call 9; exact calls_later (same_nil _ _)) ))); refine wpQuiet_nil ?_; intro _ hw'; obtain ⟨p, hw''⟩ := hw'; subst hw''; (try clear hc hf hz); (try clear HB); have HB := p.below; obtain ⟨hc, hf, hz⟩ := bcell HB
    go_wp2_with fail
    go_at_call 11; refine (fault_yes _ _ _ _ h).mono ?_; rintro e w1 ⟨rfl, hb⟩; (try clear hc hf hz); (first | replace HB := bthen HB hb | replace HB := bthen (bdrew HB) hb | have HB := hb); clear hb; obtain ⟨hc, hf, hz⟩ := bcell HB
    go_wp2_with fail
    go_at_call 11; refine (fault_yes _ _ _ _ h2).mono ?_; rintro e w1 ⟨rfl, hb⟩; (try clear hc hf hz); (first | replace HB := bthen HB hb | replace HB := bthen (bdrew HB) hb | have HB := hb); clear hb; obtain ⟨hc, hf, hz⟩ := bcell HB
    go_wp2_with fail
    refine wp_region_later (by first | exact HB | exact bdrew HB | exact Below.refl _ _) (by kernel_rfl) (by kernel_rfl) ?_
    repeat (go_big_quiet_step (first | exact rfl | (go_at_call 7; exact calls_later (meet_any _ _ _ _ _)) | (go_at_call 12; exact calls_later (rmeet_any _ _ _ _ _ h h2 _ rfl)) | (go_at_call 8; exact calls_later (next_any _ _ _ _ _)) | (go_at_call 13; exact calls_later (has_any _ _ _ _)) | (go_at_call 14; exact calls_later (rhas_any _ _ 32 _ _ h _ HS.out))))
    refine wpQuiet_nil ?_; intro _ hw'; obtain ⟨p, hw''⟩ := hw'; subst hw''; (try clear hc hf hz); (try clear HB); have HB := p.below; obtain ⟨hc, hf, hz⟩ := bcell HB
    go_wp2_with fail
    go_ret
    exact ⟨rfl, by repeat (first | exact Below.refl _ _ | refine balloc ?_ _ | refine bdrew ?_ | refine bthen ?_ (by assumption))⟩

end Go.Proofs.Ytigjmhnmjhhmmaa
