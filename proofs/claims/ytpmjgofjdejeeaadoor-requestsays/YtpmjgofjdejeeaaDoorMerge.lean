/- request.Merge of two requests that may be: what B2 says. -/
import Derived.Test.YtpmjgofjdejeeaaDoorCheck2
import Derived.Test.YtpmjgofjdejeeaaDoorConcat
namespace Go.Proofs.YtpmjgofjdejeeaaDoor
open Go.RowKit Go.BigFrame
attribute [local go_sem] Later.cell Later.frozen

/-- Do two go together, the first one with the lower sectors? -/
def togB (a b : Rq) : Bool := decide (a.f + a.m = b.f) && ((a.wr == b.wr) && (decide (a.m + b.m ≤ 4) && decide (a.tags.length + b.tags.length ≤ 4)))

theorem Good.bnd {r : Rq} (h : Good r) : 0 ≤ r.f ∧ r.f ≤ 31 ∧ 1 ≤ r.m ∧ r.m ≤ 4 ∧ r.m ≤ 32 - r.f := by
  have := h.ok
  simp only [okB, decide_eq_true_eq] at this
  omega
theorem wrap_sum {f m : Int} (h0 : 0 ≤ f) (h1 : f ≤ 100) (h2 : 0 ≤ m) (h3 : m ≤ 100) : wrap64 (f + m) = f + m := by
  unfold wrap64; omega

set_option maxHeartbeats 1000000 in
theorem tog_any (a b : Rq) (w : World) (ha : Good a) (hb : Good b) :
    Calls Tryd.prog 26 #[a.val, b.val] w fun e w' => e = .returned (.bool (togB a b)) ∧ Below w.heap.size w w' := by
  obtain ⟨x1, x2, x3, x4, x5⟩ := ha.bnd
  obtain ⟨y1, y2, y3, y4, y5⟩ := hb.bnd
  have at4 := ha.t4
  have bt4 := hb.t4
  have e1 : wrap64 (a.f + a.m) = a.f + a.m := wrap_sum (by omega) (by omega) (by omega) (by omega)
  have hn : (wrap64 (a.f + a.m) == b.f) = decide (a.f + a.m = b.f) := by rw [e1]; rfl
  clear ha hb e1
  have HT : Hid (togB a b = (decide (a.f + a.m = b.f) && ((a.wr == b.wr) && (decide (a.m + b.m ≤ 4) && decide (a.tags.length + b.tags.length ≤ 4))))) := rfl
  generalize togB a b = R at HT ⊢
  have e2 : IntKind.i64.wrap (a.m + b.m) = a.m + b.m := by rw [IntKind.wrap_i64]; omega
  have e3 : IntKind.i64.wrap ((a.tags.length : Int) + (b.tags.length : Int)) = (a.tags.length : Int) + (b.tags.length : Int) := by rw [IntKind.wrap_i64]; omega
  have e4 : decide (a.tags.length + b.tags.length ≤ 4) = decide ((a.tags.length : Int) + (b.tags.length : Int) ≤ 4) := by rw [decide_eq_decide]; omega
  replace HT : Hid (R = (decide (a.f + a.m = b.f) && ((a.wr == b.wr) && (decide (a.m + b.m ≤ 4) && decide ((a.tags.length : Int) + (b.tags.length : Int) ≤ 4))))) := by rw [← e4]; exact HT
  clear e4
  cases h1 : decide (a.f + a.m = b.f)
  · rw [h1] at hn
    rw [h1] at HT
    clear h1
    obtain rfl : R = false := HT.out
    clear HT
    go_enter Tryd.func26, Tryd.ntmps26
    go_wp2_with fail
    go_at_call 25; refine (next_eq _ _ _ _ _ _ hn).mono ?_; rintro e w1 ⟨rfl, hb⟩; (try clear hc hf hz); (first | replace HB := bthen HB hb | replace HB := bthen (bdrew HB) hb | have HB := hb); clear hb; obtain ⟨hc, hf, hz⟩ := bcell HB
    go_wp2
    go_ret
    exact ⟨rfl, by repeat (first | with_reducible exact Below.refl _ _ | with_reducible refine balloc ?_ _ | with_reducible refine bdrew ?_ | with_reducible refine bset' ?_ (by omega) _ | with_reducible refine bthen ?_ (by assumption))⟩
  · rw [h1] at hn HT
    clear h1
    cases h2 : (a.wr == b.wr)
    · rw [h2] at HT
      obtain rfl : R = false := HT.out
      clear HT
      go_enter Tryd.func26, Tryd.ntmps26
      go_wp2_with fail
      go_at_call 25; refine (next_eq _ _ _ _ _ _ hn).mono ?_; rintro e w1 ⟨rfl, hb⟩; (try clear hc hf hz); (first | replace HB := bthen HB hb | replace HB := bthen (bdrew HB) hb | have HB := hb); clear hb; obtain ⟨hc, hf, hz⟩ := bcell HB
      go_wp2
      go_ret
      exact ⟨rfl, by repeat (first | with_reducible exact Below.refl _ _ | with_reducible refine balloc ?_ _ | with_reducible refine bdrew ?_ | with_reducible refine bset' ?_ (by omega) _ | with_reducible refine bthen ?_ (by assumption))⟩
    · rw [h2] at HT
      cases h3 : decide (a.m + b.m ≤ 4)
      · rw [h3] at HT
        obtain rfl : R = false := HT.out
        clear HT
        go_enter Tryd.func26, Tryd.ntmps26
        go_wp2_with fail
        go_at_call 25; refine (next_eq _ _ _ _ _ _ hn).mono ?_; rintro e w1 ⟨rfl, hb⟩; (try clear hc hf hz); (first | replace HB := bthen HB hb | replace HB := bthen (bdrew HB) hb | have HB := hb); clear hb; obtain ⟨hc, hf, hz⟩ := bcell HB
        go_wp2
        go_ret
        exact ⟨rfl, by repeat (first | with_reducible exact Below.refl _ _ | with_reducible refine balloc ?_ _ | with_reducible refine bdrew ?_ | with_reducible refine bset' ?_ (by omega) _ | with_reducible refine bthen ?_ (by assumption))⟩
      · rw [h3] at HT
        obtain rfl : R = decide ((a.tags.length : Int) + (b.tags.length : Int) ≤ 4) := HT.out
        clear HT
        go_enter Tryd.func26, Tryd.ntmps26
        go_wp2_with fail
        go_at_call 25; refine (next_eq _ _ _ _ _ _ hn).mono ?_; rintro e w1 ⟨rfl, hb⟩; (try clear hc hf hz); (first | replace HB := bthen HB hb | replace HB := bthen (bdrew HB) hb | have HB := hb); clear hb; obtain ⟨hc, hf, hz⟩ := bcell HB
        go_wp2
        go_ret
        exact ⟨rfl, by repeat (first | with_reducible exact Below.refl _ _ | with_reducible refine balloc ?_ _ | with_reducible refine bdrew ?_ | with_reducible refine bset' ?_ (by omega) _ | with_reducible refine bthen ?_ (by assumption))⟩
end Go.Proofs.YtpmjgofjdejeeaaDoor
