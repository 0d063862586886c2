/- request.Merge of two requests that may be: what B2 says. -/
import Derived.Test.YtpmjgofjdejeeaaDoorMerge
import Derived.Test.YtpmjgofjdejeeaaDoorTake
namespace Go.Proofs.YtpmjgofjdejeeaaDoor
open Go.RowKit Go.BigFrame
attribute [local go_sem] Later.cell Later.frozen

abbrev noReq : Value := .agg #[.bool false, .int .i64 0, .int .i64 0, .slice none 0 0, .slice none 0 0, .int .i64 0]

theorem sixLast {w w1 : World} {a0 a1 a2 a3 a4 a5 : Value} {T : TypeId} (HB : Below (w.alloc (.cells #[a0, a1, a2, a3, a4, a5] T)).heap.size (w.alloc (.cells #[a0, a1, a2, a3, a4, a5] T)) w1) :
    w1.cell? ⟨w.heap.size, 0, none⟩ = some a0 ∧ w1.cell? ⟨w.heap.size, 1, none⟩ = some a1 ∧ w1.cell? ⟨w.heap.size, 2, none⟩ = some a2 ∧ w1.cell? ⟨w.heap.size, 3, none⟩ = some a3 ∧ w1.cell? ⟨w.heap.size, 4, none⟩ = some a4 ∧ w1.cell? ⟨w.heap.size, 5, none⟩ = some a5 := by
  have c := fun o => HB.cell (p := ⟨w.heap.size, o, none⟩) (by simp only [World.size_alloc]; omega)
  refine ⟨?_, ?_, ?_, ?_, ?_, ?_⟩
  all_goals rw [c]
  all_goals simp

theorem tog_eq (a b : Rq) (w : World) (ha : Good a) (hb : Good b) (t : Bool) (ht : togB a b = t) :
    Calls Tryd.prog 26 #[a.val, b.val] w fun e w' => e = .returned (.bool t) ∧ Below w.heap.size w w' := by
  subst ht; exact tog_any a b w ha hb

set_option maxHeartbeats 1000000 in
theorem merge_no (a b : Rq) (w : World) (ha : Good a) (hb : Good b) (h1 : (wrap64 (b.f + b.m) == a.f) = false) (h2 : togB a b = false) :
    Calls Tryd.prog 12 #[a.val, b.val] w fun e w' => e = .returned (.tuple #[noReq, .bool false]) ∧ Below w.heap.size w w' := by
  go_enter Tryd.func12, Tryd.ntmps12
  go_wp2_with fail
  go_at_call 25; refine (next_eq _ _ _ _ _ _ h1).mono ?_; rintro e w1 ⟨rfl, hb⟩; (try clear hc hf hz); (first | replace HB := bthen HB hb | replace HB := bthen (bdrew HB) hb | have HB := hb); clear hb; obtain ⟨hc, hf, hz⟩ := bcell HB
  go_wp2_with fail
  go_at_call 26; refine (tog_eq a b _ ha hb _ h2).mono ?_; rintro e w1 ⟨rfl, hb⟩; (try clear hc hf hz); (first | replace HB := bthen HB hb | replace HB := bthen (bdrew HB) hb | have HB := hb); clear hb; obtain ⟨hc, hf, hz⟩ := bcell HB
  go_wp2
  refine bodyPost_ret (v := .tuple #[noReq, .bool false]) ?_ rfl ⟨rfl, by repeat (first | with_reducible exact Below.refl _ _ | with_reducible refine balloc ?_ _ | with_reducible refine bdrew ?_ | with_reducible refine bset' ?_ (by omega) _ | with_reducible refine bthen ?_ (by assumption))⟩
  have m := sixLast HB
  rw [World.size_alloc, World.size_alloc] at m
  obtain ⟨m0, m1, m2, m3, m4, m5⟩ := m
  clear hc hf hz HB
  simp [results, Tryd.results12, go_sem, m0, m1, m2, m3, m4, m5]
end Go.Proofs.YtpmjgofjdejeeaaDoor
