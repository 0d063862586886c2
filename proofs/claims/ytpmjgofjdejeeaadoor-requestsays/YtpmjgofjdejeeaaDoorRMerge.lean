/- The document's answer to Merge (R.Merged): where they don't go together. -/
import Derived.Test.YtpmjgofjdejeeaaDoorAdd2
namespace Go.Proofs.YtpmjgofjdejeeaaDoor
open Go.RowKit Go.BigFrame
attribute [local go_sem] Later.cell Later.frozen

theorem tog_not {a b : Rq} (h : togB a b = false) : ¬ a.f + a.m = b.f ∨ (a.f + a.m = b.f ∧ ¬ a.wr = b.wr) ∨ (a.f + a.m = b.f ∧ a.wr = b.wr ∧ 4 < a.m + b.m) ∨ (a.f + a.m = b.f ∧ a.wr = b.wr ∧ a.m + b.m ≤ 4 ∧ 4 < a.tags.length + b.tags.length) := by
  by_cases c1 : a.f + a.m = b.f
  · by_cases c2 : a.wr = b.wr
    · by_cases c3 : a.m + b.m ≤ 4
      · by_cases c4 : a.tags.length + b.tags.length ≤ 4
        · rw [tog_iff.2 ⟨c1, c2, c3, c4⟩] at h; cases h
        · exact Or.inr (Or.inr (Or.inr ⟨c1, c2, c3, by omega⟩))
      · exact Or.inr (Or.inr (Or.inl ⟨c1, c2, by omega⟩))
    · exact Or.inr (Or.inl ⟨c1, c2⟩)
  · exact Or.inl c1

set_option linter.unusedSimpArgs false in
set_option maxRecDepth 100000 in
set_option maxHeartbeats 4000000 in
theorem rmerged_no (a b : Rq) (w : World) (ga : Good a) (gb : Good b) (h1 : (b.f + b.m == a.f) = false) (h2 : togB a b = false) :
    Calls Tryd.prog 13 #[a.val, b.val] w fun e w' => e = .returned (.tuple #[noReq, .bool false]) ∧ Below w.heap.size w w' := by
  obtain ⟨x1, x2, x3, x4, x5⟩ := ga.bnd
  obtain ⟨y1, y2, y3, y4, y5⟩ := gb.bnd
  have at4 := ga.t4
  have bt4 := gb.t4
  rcases tog_not h2 with c1 | ⟨c1, c2⟩ | ⟨c1, c2, c3⟩ | ⟨c1, c2, c3, c4⟩
  · have g1 : (a.f + a.m != b.f) = true := by rw [bne_iff_ne]; exact c1
    clear c1 h2
    go_enter Tryd.func13, Tryd.ntmps13; go_wp2; refine bodyPost_ret (v := .tuple #[noReq, .bool false]) ?_ rfl ⟨rfl, by repeat (first | with_reducible exact Below.refl _ _ | with_reducible refine balloc ?_ _ | with_reducible refine bdrew ?_ | with_reducible refine bset' ?_ (by omega) _ | with_reducible refine bthen ?_ (by assumption))⟩; simp [results, Tryd.results13, go_sem]
  · have g1 : (a.f + a.m != b.f) = false := by rw [bne_eq_false_iff_eq]; exact c1
    have g2 : (a.wr != b.wr) = true := by rw [bne_iff_ne]; exact c2
    clear c1 h2
    go_enter Tryd.func13, Tryd.ntmps13; go_wp2; refine bodyPost_ret (v := .tuple #[noReq, .bool false]) ?_ rfl ⟨rfl, by repeat (first | with_reducible exact Below.refl _ _ | with_reducible refine balloc ?_ _ | with_reducible refine bdrew ?_ | with_reducible refine bset' ?_ (by omega) _ | with_reducible refine bthen ?_ (by assumption))⟩; simp [results, Tryd.results13, go_sem]
  · have g1 : (a.f + a.m != b.f) = false := by rw [bne_eq_false_iff_eq]; exact c1
    have g3 : decide (4 < a.m + b.m) = true := decide_eq_true c3
    clear c1 h2
    go_enter Tryd.func13, Tryd.ntmps13; go_wp2; refine bodyPost_ret (v := .tuple #[noReq, .bool false]) ?_ rfl ⟨rfl, by repeat (first | with_reducible exact Below.refl _ _ | with_reducible refine balloc ?_ _ | with_reducible refine bdrew ?_ | with_reducible refine bset' ?_ (by omega) _ | with_reducible refine bthen ?_ (by assumption))⟩; simp [results, Tryd.results13, go_sem]
  · have g1 : (a.f + a.m != b.f) = false := by rw [bne_eq_false_iff_eq]; exact c1
    have g3 : decide (4 < a.m + b.m) = false := decide_eq_false (by omega)
    have g4 : (4 : Int) < (a.tags.length : Int) + (b.tags.length : Int) := by omega
    clear c1 h2
    go_enter Tryd.func13, Tryd.ntmps13; go_wp2; refine bodyPost_ret (v := .tuple #[noReq, .bool false]) ?_ rfl ⟨rfl, by repeat (first | with_reducible exact Below.refl _ _ | with_reducible refine balloc ?_ _ | with_reducible refine bdrew ?_ | with_reducible refine bset' ?_ (by omega) _ | with_reducible refine bthen ?_ (by assumption))⟩; simp [results, Tryd.results13, go_sem]
end Go.Proofs.YtpmjgofjdejeeaaDoor
