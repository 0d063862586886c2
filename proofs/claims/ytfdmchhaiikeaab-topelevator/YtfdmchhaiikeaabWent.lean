/- went: a closed fact: whose turn it is. -/
import Derived.Test.YtfdmchhaiikeaabNexts
namespace Go.Proofs.Ytfdmchhaiikeaab
open Go.RowKit Go.BigFrame
attribute [local go_sem] Later.cell Later.frozen

def rq0 (b : Nat) : Rq := ⟨false, 3, 1, none, 0, [], some ⟨b, 0, none⟩, 1, [1], 0⟩
theorem good0 (b : Nat) : Goods [rq0 b] := by
  refine ⟨fun i h => ?_, fun i j hi hj => ?_⟩
  · obtain rfl : i = 0 := by simp at h; omega
    exact ⟨by simp [rq0, okB], by simp [rq0, shapeB], by simp [rq0], by simp [rq0], by simp [rq0], by simp [rq0], by simp [rq0, small4]⟩
  · simp at hi; omega
theorem at0 {w : World} {b b' : Nat} (h : w.cell? ⟨b, 0, none⟩ = some (.int .i64 1))
    (c0 : w.cell? ⟨b', 0, none⟩ = some (.bool false)) (c1 : w.cell? ⟨b', 1, none⟩ = some (.int .i64 3)) (c2 : w.cell? ⟨b', 2, none⟩ = some (.int .i64 1)) (c3 : w.cell? ⟨b', 3, none⟩ = some (.slice none 0 0))
    (c4 : w.cell? ⟨b', 4, none⟩ = some (.slice (some ⟨b, 0, none⟩) 1 1)) (c5 : w.cell? ⟨b', 5, none⟩ = some (.int .i64 0)) : ReqsAt w (some ⟨b', 0, none⟩) [rq0 b] := by
  refine ⟨Or.inr ⟨b', 0, rfl, ?_⟩, ?_, by simp⟩
  · intro i hi j hj
    obtain rfl : i = 0 := by simp at hi; omega
    match j, hj with
    | 0, _ => simpa [rq0, Rq.cell] using c0
    | 1, _ => simpa [rq0, Rq.cell] using c1
    | 2, _ => simpa [rq0, Rq.cell] using c2
    | 3, _ => simpa [rq0, Rq.cell] using c3
    | 4, _ => simpa [rq0, Rq.cell] using c4
    | 5, _ => simpa [rq0, Rq.cell] using c5
  · intro r hr
    simp only [List.mem_singleton] at hr
    subst hr
    refine ⟨Or.inl rfl, Or.inr ⟨b, 0, rfl, ?_⟩, by simp [rq0], by simp [rq0], by simp [rq0, In64], by simp [rq0, In64], by simp [rq0, In64], by simp [rq0], by simp [rq0]⟩
    intro i hi
    obtain rfl : i = 0 := by simp [rq0] at hi; omega
    simpa [rq0] using h

set_option maxHeartbeats 400000 in
theorem went_any (w : World) : Calls Try.prog 18 #[] w fun e w' => e = .returned (.bool true) ∧ Below w.heap.size w w' := by
  obtain ⟨i, T, hN, hC, _⟩ := nexts [rq0 w.heap.size] (good0 _) (by simp) (w.heap.size + 1) 0 1 ⟨false, 0, 0, 0⟩ 0 (by omega) (by omega) (by simp [In64])
  have hi : i = 0 := by have := hN.lt; simp at this; omega
  subst hi
  have hp : T.p = 4 := by rw [hN.p]; rfl
  have hw : T.w = false := by rw [← hN.w]; rfl
  have hg : T.g = 1 := by
    rcases hN.way with ⟨h, _⟩ | ⟨_, h, _⟩
    · simp at h
    · exact h
  obtain ⟨tw, tg, ts, tp⟩ := T
  simp only at hp hw hg
  subst hp hw hg
  have HC : Hid (NextCall _ _ _ _ _ _ _ _ _) := hC
  clear hC hN
  go_enter Try.func18, Try.ntmps18
  go_wp2_with fail
  refine (HC.out _ (at0 (by simp) (by simp) (by simp) (by simp) (by simp) (by simp) (by simp))).mono ?_
  rintro e w1 ⟨rfl, HB⟩
  go_wp2
  go_ret
  exact ⟨rfl, by repeat (first | with_reducible exact Below.refl _ _ | with_reducible refine balloc ?_ _ | with_reducible refine bdrew ?_ | with_reducible refine bset' ?_ (by omega) _ | with_reducible refine bthen ?_ (by assumption))⟩

end Go.Proofs.Ytfdmchhaiikeaab
