/- request.Merge of two requests that may be: what B2 says, either way round. -/
import Derived.Test.YtpmjgofjdejeeaaDoorMerge5
import Derived.Test.YtpmjgofjdejeeaaDoorMerge6
import Derived.Test.YtpmjgofjdejeeaaDoorMerge7
import Derived.Test.YtpmjgofjdejeeaaDoorMerge8
import Derived.Test.YtpmjgofjdejeeaaDoorBoth
namespace Go.Proofs.YtpmjgofjdejeeaaDoor
open Go.RowKit Go.BigFrame
attribute [local go_sem] Later.cell Later.frozen

set_option maxRecDepth 100000 in
set_option maxHeartbeats 4000000 in
theorem merge_no2 (a b : Rq) (w : World) (ga : Good a) (gb : Good b) (h1 : (wrap64 (a.f + a.m) == b.f) = true) (h2 : togB a b = false) :
    Calls Tryd.prog 12 #[b.val, a.val] w fun e w' => e = .returned (.tuple #[noReq, .bool false]) ∧ Below w.heap.size w w' := by
  go_enter Tryd.func12, Tryd.ntmps12; go_wp2_with fail; (go_at_call 25; refine (next_eq _ _ _ _ _ _ h1).mono ?_; rintro e w0 ⟨rfl, hb0⟩); obtain ⟨T1, T2, T3, hw0⟩ := three6 b a hb0; obtain ⟨U1, U2⟩ := three6z b a hb0; have HB0 : Below w.heap.size w w0 := (by repeat (first | with_reducible exact Below.refl _ _ | with_reducible refine balloc ?_ _ | with_reducible refine bdrew ?_ | with_reducible refine bset' ?_ (by omega) _ | with_reducible refine bthen ?_ (by assumption))); clear hb0; obtain ⟨p0, p1, p2, p3, p4, p5⟩ := id T1; obtain ⟨q0, q1, q2, q3, q4, q5⟩ := id T2; obtain ⟨i0, i1, i2, i3, i4, i5⟩ := U1.2; obtain ⟨j0, j1, j2, j3, j4, j5⟩ := U2.2; go_wp2_with fail; refine (tog_eq a b _ ga gb _ h2).mono ?_; rintro e w1 ⟨rfl, hb1⟩; have HB1 : Below w.heap.size w w1 := (by repeat (first | with_reducible exact Below.refl _ _ | with_reducible refine balloc ?_ _ | with_reducible refine bdrew ?_ | with_reducible refine bset' ?_ (by omega) _ | with_reducible refine bthen ?_ (by assumption))); have hs1 := hb1.size; simp only [World.size_setCell] at hs1; have hb1' : Below (set6 (set6 w0 w.heap.size (.bool a.wr) (.int .i64 a.f) (.int .i64 a.m) (.slice a.da a.data.length a.dc) (.slice a.ta a.tags.length a.tc) (.int .i64 a.born)) (w.heap.size + 1) (.bool b.wr) (.int .i64 b.f) (.int .i64 b.m) (.slice b.da b.data.length b.dc) (.slice b.ta b.tags.length b.tc) (.int .i64 b.born)).heap.size (set6 (set6 w0 w.heap.size (.bool a.wr) (.int .i64 a.f) (.int .i64 a.m) (.slice a.da a.data.length a.dc) (.slice a.ta a.tags.length a.tc) (.int .i64 a.born)) (w.heap.size + 1) (.bool b.wr) (.int .i64 b.f) (.int .i64 b.m) (.slice b.da b.data.length b.dc) (.slice b.ta b.tags.length b.tc) (.int .i64 b.born)) w1 := hb1; obtain ⟨S1, S2, S3⟩ := swapped6 a b U1 U2 T3 hb1'; have hws : w.heap.size + 3 ≤ w1.heap.size := (by omega); clear hb1 hb1' HB0 T1 T2 T3 U1 U2 p0 p1 p2 p3 p4 p5 q0 q1 q2 q3 q4 q5 i0 i1 i2 i3 i4 i5 j0 j1 j2 j3 j4 j5; obtain ⟨p0, p1, p2, p3, p4, p5⟩ := id S1; obtain ⟨q0, q1, q2, q3, q4, q5⟩ := id S2; obtain ⟨⟨z0, z1, z2, z3, z4, z5⟩, ⟨f0, f1, f2, f3, f4, f5⟩⟩ := id S3
  have Z : Zix w1 (w.heap.size + 1 + 1) := S3
  obtain ⟨m0, m1, m2, m3, m4, m5⟩ := set6_cells Z (.bool false) (.int .i64 0) (.int .i64 0) (.slice none 0 0) (.slice none 0 0) (.int .i64 0)
  unfold set6 at m0 m1 m2 m3 m4 m5
  go_wp2
  refine bodyPost_ret (v := .tuple #[noReq, .bool false]) ?_ rfl ⟨rfl, by repeat (first | with_reducible exact Below.refl _ _ | with_reducible refine balloc ?_ _ | with_reducible refine bdrew ?_ | with_reducible refine bset' ?_ (by omega) _ | with_reducible refine bthen ?_ (by assumption))⟩
  simp [results, Tryd.results12, go_sem, m0, m1, m2, m3, m4, m5]

theorem merge_false (a b : Rq) (w : World) (ga : Good a) (gb : Good b) (h : togB a b = false) (h' : togB b a = false) :
    Calls Tryd.prog 12 #[a.val, b.val] w fun e w' => e = .returned (.tuple #[noReq, .bool false]) ∧ Below w.heap.size w w' := by
  cases h1 : (wrap64 (b.f + b.m) == a.f)
  · exact merge_no a b w ga gb h1 h
  · exact merge_no2 b a w gb ga h1 h'
theorem merge_true (a b : Rq) (w : World) (ga : Good a) (gb : Good b) (ha : a.At w) (hb : b.At w) (h : togB a b = true) :
    Calls Tryd.prog 12 #[a.val, b.val] w fun e w' => ∃ q : Rq, e = .returned (.tuple #[q.val, .bool true]) ∧ IsBoth a b q ∧ q.At w' ∧ Below w.heap.size w w' := by
  rcases Decidable.em (b.born < a.born) with hm | hm
  · exact merge_yes1 a b w ga gb ha hb (tog_one ga gb h).1 h _ rfl _ rfl hm
  · exact merge_yes2 a b w ga gb ha hb (tog_one ga gb h).1 h _ rfl _ rfl hm
theorem merge_true' (a b : Rq) (w : World) (ga : Good a) (gb : Good b) (ha : a.At w) (hb : b.At w) (h : togB a b = true) :
    Calls Tryd.prog 12 #[b.val, a.val] w fun e w' => ∃ q : Rq, e = .returned (.tuple #[q.val, .bool true]) ∧ IsBoth a b q ∧ q.At w' ∧ Below w.heap.size w w' := by
  rcases Decidable.em (b.born < a.born) with hm | hm
  · exact merge_swap1 a b w ga gb ha hb (tog_one ga gb h).2 h _ rfl _ rfl hm
  · exact merge_swap2 a b w ga gb ha hb (tog_one ga gb h).2 h _ rfl _ rfl hm
end Go.Proofs.YtpmjgofjdejeeaaDoor
