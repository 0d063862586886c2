/- TopMerge: what goes together does so either way round, with all that both have. The walk. -/
import Derived.Test.YtfdmchhaiikeaabMerge9
namespace Go.Proofs.Ytfdmchhaiikeaab
open Go.RowKit Go.BigFrame
attribute [local go_sem] Later.cell Later.frozen

/-- A closed request that reads one sector. -/
def rqOne (f : Int) (t : Int) (b : Nat) : Rq := ⟨false, f, 1, none, 0, [], some ⟨b, 0, none⟩, 1, [t], 0⟩
theorem goodOne (f t : Int) (b : Nat) (h0 : 0 ≤ f) (h1 : f < 32) : Good (rqOne f t b) := by
  refine ⟨by simp [rqOne, okB]; omega, by simp [rqOne, shapeB], by simp [rqOne], by simp [rqOne], by simp [rqOne], by simp [rqOne], by simp [rqOne, small4]⟩
theorem atOne (f t : Int) (b : Nat) (w : World) (h : w.cell? ⟨b, 0, none⟩ = some (.int .i64 t)) (h0 : 0 ≤ f) (h1 : f < 32) : (rqOne f t b).At w := by
  refine ⟨Or.inl rfl, Or.inr ⟨b, 0, rfl, ?_⟩, by simp [rqOne], by simp [rqOne], by simp [rqOne, In64]; omega, by simp [rqOne, In64], by simp [rqOne, In64], by simp [rqOne], by simp [rqOne]⟩
  intro i hi
  obtain rfl : i = 0 := by simp [rqOne] at hi; omega
  simpa [rqOne] using h
theorem togOne (b b' : Nat) : togB (rqOne 3 1 b) (rqOne 4 2 b') = true := by simp [togB, rqOne]

/-- Whichever way round they go together. -/
theorem either (a b : Rq) (ga : Good a) (gb : Good b) : (togB a b = false ∧ togB b a = false) ∨ ∃ lo hi : Rq, (∀ q, IsBoth lo hi q → Joined a b q) ∧
    (∀ w, a.At w → b.At w → Calls Try.prog 11 #[a.val, b.val] w fun e w' => ∃ q : Rq, e = .returned (.tuple #[q.val, .bool true]) ∧ IsBoth lo hi q ∧ q.At w' ∧ Below w.heap.size w w') ∧
    (∀ w, a.At w → b.At w → Calls Try.prog 11 #[b.val, a.val] w fun e w' => ∃ q : Rq, e = .returned (.tuple #[q.val, .bool true]) ∧ IsBoth lo hi q ∧ q.At w' ∧ Below w.heap.size w w') := by
  cases h1 : togB a b
  · cases h2 : togB b a
    · exact Or.inl ⟨rfl, rfl⟩
    · exact Or.inr ⟨b, a, fun q hq => (hq.joined gb ga h2).swap, fun w ha hb => merge_true' b a w gb ga hb ha h2, fun w ha hb => merge_true b a w gb ga hb ha h2⟩
  · exact Or.inr ⟨a, b, fun q hq => hq.joined ga gb h1, fun w ha hb => merge_true a b w ga gb ha hb h1, fun w ha hb => merge_true' a b w ga gb ha hb h1⟩

theorem six_new (w : World) (T : TypeId) (a : Rq) : Six (w.alloc (.cells #[.bool a.wr, .int .i64 a.f, .int .i64 a.m, .slice a.da a.data.length a.dc, .slice a.ta a.tags.length a.tc, .int .i64 a.born] T)) w.heap.size a := by
  refine ⟨?_, ?_, ?_, ?_, ?_, ?_⟩ <;> simp
theorem two6 {w w1 : World} {T : TypeId} (a b : Rq) {X Y : Obj} (HB : Below ((((w.alloc (.cells #[.bool a.wr, .int .i64 a.f, .int .i64 a.m, .slice a.da a.data.length a.dc, .slice a.ta a.tags.length a.tc, .int .i64 a.born] T)).alloc (.cells #[.bool b.wr, .int .i64 b.f, .int .i64 b.m, .slice b.da b.data.length b.dc, .slice b.ta b.tags.length b.tc, .int .i64 b.born] T)).alloc X).alloc Y).heap.size ((((w.alloc (.cells #[.bool a.wr, .int .i64 a.f, .int .i64 a.m, .slice a.da a.data.length a.dc, .slice a.ta a.tags.length a.tc, .int .i64 a.born] T)).alloc (.cells #[.bool b.wr, .int .i64 b.f, .int .i64 b.m, .slice b.da b.data.length b.dc, .slice b.ta b.tags.length b.tc, .int .i64 b.born] T)).alloc X).alloc Y) w1) :
    Six w1 w.heap.size a ∧ Six w1 (w.heap.size + 1) b ∧ w.heap.size + 4 ≤ w1.heap.size := by
  have hz := HB.size
  simp only [World.size_alloc] at hz
  refine ⟨(((six_new w T a).alloc _).alloc _ |>.alloc _).later HB, ?_, hz⟩
  have := six_new (w.alloc (.cells #[.bool a.wr, .int .i64 a.f, .int .i64 a.m, .slice a.da a.data.length a.dc, .slice a.ta a.tags.length a.tc, .int .i64 a.born] T)) T b
  rw [World.size_alloc] at this
  exact ((this.alloc _).alloc _).later HB
theorem zero_at {w : World} : Rq.At ⟨false, 0, 0, none, 0, [], none, 0, [], 0⟩ w :=
  ⟨Or.inl rfl, Or.inl rfl, by simp, by simp, by simp [In64], by simp [In64], by simp [In64], fun _ => rfl, fun _ => rfl⟩
theorem errOf0 : errOf 0 = .nilIface := rfl
theorem errOfN {n : Int} (h : ¬ n = 0) : errOf n = .iface 53 (.int .i64 n) := by rw [errOf, if_neg h]
theorem rcheck_nil (r : Rq) (w : World) (hr : r.At w) (hn : faultR r = 0) : Calls Try.prog 13 #[r.val] w fun e w' => e = .returned .nilIface ∧ Below w.heap.size w w' := by
  have := rcheck_any r w hr 0 hn
  rwa [errOf0] at this
theorem rcheck_err (r : Rq) (w : World) (hr : r.At w) (hn : ¬ faultR r = 0) : Calls Try.prog 13 #[r.val] w fun e w' => e = .returned (.iface 53 (.int .i64 (faultR r))) ∧ Below w.heap.size w w' := by
  have := rcheck_any r w hr _ rfl
  rwa [errOfN hn] at this

set_option maxRecDepth 100000 in
set_option maxHeartbeats 4000000 in
theorem tm_walk (a b : Rq) (w : World) (ha : a.At w) (hb : b.At w) :
    Calls Try.prog 4 #[a.val, b.val] w fun e w' => e = .returned (.bool true) ∧ Below w.heap.size w w' := by
  go_enter Try.func4, Try.ntmps4
  go_wp2_with fail
  refine (merge_true (rqOne 3 1 (w.heap.size + 2)) (rqOne 4 2 (w.heap.size + 3)) _ (goodOne _ _ _ (by omega) (by omega)) (goodOne _ _ _ (by omega) (by omega)) (atOne _ _ _ _ (by simp [go_sem]) (by omega) (by omega)) (atOne _ _ _ _ (by simp [go_sem]) (by omega) (by omega)) (togOne _ _)).mono ?_
  rintro e w1 ⟨q, rfl, hq, -, hb1⟩
  obtain ⟨S1, S2, hws⟩ := two6 a b hb1
  have HB : Below w.heap.size w w1 := by repeat (first | with_reducible exact Below.refl _ _ | with_reducible refine balloc ?_ _ | with_reducible refine bdrew ?_ | with_reducible refine bset' ?_ (by omega) _ | with_reducible refine bthen ?_ (by assumption))
  have hqm : q.m = 2 := hq.m
  obtain ⟨qw, qf, qm, qda, qdc, qd, qta, qtc, qt, qb⟩ := q
  simp only at hqm
  subst hqm
  clear hq hb1
  obtain ⟨p0, p1, p2, p3, p4, p5⟩ := id S1
  obtain ⟨q0, q1, q2, q3, q4, q5⟩ := id S2
  have l1 := lt_of_cell p0
  have l2 := lt_of_cell q0
  go_wp2_with fail
  cases hla : lightB a
  · refine (light_any a _ (ha.later (by repeat (first | with_reducible exact Below.refl _ _ | with_reducible refine balloc ?_ _ | with_reducible refine bdrew ?_ | with_reducible refine bset' ?_ (by omega) _ | with_reducible refine bthen ?_ (by assumption)))) _ hla).mono ?_
    rintro e w2 ⟨rfl, hbx⟩
    go_wp2
    go_ret
    exact ⟨rfl, by repeat (first | with_reducible exact Below.refl _ _ | with_reducible refine balloc ?_ _ | with_reducible refine bdrew ?_ | with_reducible refine bset' ?_ (by omega) _ | with_reducible refine bthen ?_ (by assumption))⟩
  refine (light_any a _ (ha.later (by repeat (first | with_reducible exact Below.refl _ _ | with_reducible refine balloc ?_ _ | with_reducible refine bdrew ?_ | with_reducible refine bset' ?_ (by omega) _ | with_reducible refine bthen ?_ (by assumption)))) _ hla).mono ?_
  rintro e w2 ⟨rfl, hbx⟩
  have T1 : Six w2 w.heap.size a := (by repeat (first | with_reducible exact S1 | with_reducible refine Six.drew ?_ | with_reducible refine Six.alloc ?_ _ | with_reducible refine Six.later ?_ (by assumption) | with_reducible refine Six.set ?_ (by omega) _)); have T2 : Six w2 (w.heap.size + 1) b := (by repeat (first | with_reducible exact S2 | with_reducible refine Six.drew ?_ | with_reducible refine Six.alloc ?_ _ | with_reducible refine Six.later ?_ (by assumption) | with_reducible refine Six.set ?_ (by omega) _)); have HC : Below w.heap.size w w2 := (by repeat (first | with_reducible exact Below.refl _ _ | with_reducible refine balloc ?_ _ | with_reducible refine bdrew ?_ | with_reducible refine bset' ?_ (by omega) _ | with_reducible refine bthen ?_ (by assumption))); clear S1 S2 HB p0 p1 p2 p3 p4 p5 q0 q1 q2 q3 q4 q5 l1 l2; have S1 := T1; have S2 := T2; have HB := HC; clear T1 T2 HC; obtain ⟨p0, p1, p2, p3, p4, p5⟩ := id S1; obtain ⟨q0, q1, q2, q3, q4, q5⟩ := id S2; have l1 := lt_of_cell p0; have l2 := lt_of_cell q0
  clear hbx hws
  go_wp2_with fail
  cases hlb : lightB b
  · refine (light_any b _ (hb.later (by repeat (first | with_reducible exact Below.refl _ _ | with_reducible refine balloc ?_ _ | with_reducible refine bdrew ?_ | with_reducible refine bset' ?_ (by omega) _ | with_reducible refine bthen ?_ (by assumption)))) _ hlb).mono ?_
    rintro e w3 ⟨rfl, hbx⟩
    go_wp2
    go_ret
    exact ⟨rfl, by repeat (first | with_reducible exact Below.refl _ _ | with_reducible refine balloc ?_ _ | with_reducible refine bdrew ?_ | with_reducible refine bset' ?_ (by omega) _ | with_reducible refine bthen ?_ (by assumption))⟩
  refine (light_any b _ (hb.later (by repeat (first | with_reducible exact Below.refl _ _ | with_reducible refine balloc ?_ _ | with_reducible refine bdrew ?_ | with_reducible refine bset' ?_ (by omega) _ | with_reducible refine bthen ?_ (by assumption)))) _ hlb).mono ?_
  rintro e w3 ⟨rfl, hbx⟩
  have T1 : Six w3 w.heap.size a := (by repeat (first | with_reducible exact S1 | with_reducible refine Six.drew ?_ | with_reducible refine Six.alloc ?_ _ | with_reducible refine Six.later ?_ (by assumption) | with_reducible refine Six.set ?_ (by omega) _)); have T2 : Six w3 (w.heap.size + 1) b := (by repeat (first | with_reducible exact S2 | with_reducible refine Six.drew ?_ | with_reducible refine Six.alloc ?_ _ | with_reducible refine Six.later ?_ (by assumption) | with_reducible refine Six.set ?_ (by omega) _)); have HC : Below w.heap.size w w3 := (by repeat (first | with_reducible exact Below.refl _ _ | with_reducible refine balloc ?_ _ | with_reducible refine bdrew ?_ | with_reducible refine bset' ?_ (by omega) _ | with_reducible refine bthen ?_ (by assumption))); clear S1 S2 HB p0 p1 p2 p3 p4 p5 q0 q1 q2 q3 q4 q5 l1 l2; have S1 := T1; have S2 := T2; have HB := HC; clear T1 T2 HC; obtain ⟨p0, p1, p2, p3, p4, p5⟩ := id S1; obtain ⟨q0, q1, q2, q3, q4, q5⟩ := id S2; have l1 := lt_of_cell p0; have l2 := lt_of_cell q0
  clear hbx
  go_wp2_with fail
  by_cases hfa : faultR a = 0
  case neg =>
    refine (rcheck_err a _ (ha.later (by repeat (first | with_reducible exact Below.refl _ _ | with_reducible refine balloc ?_ _ | with_reducible refine bdrew ?_ | with_reducible refine bset' ?_ (by omega) _ | with_reducible refine bthen ?_ (by assumption)))) hfa).mono ?_
    rintro e w4 ⟨rfl, hbx⟩
    go_wp2
    go_ret
    exact ⟨rfl, by repeat (first | with_reducible exact Below.refl _ _ | with_reducible refine balloc ?_ _ | with_reducible refine bdrew ?_ | with_reducible refine bset' ?_ (by omega) _ | with_reducible refine bthen ?_ (by assumption))⟩
  refine (rcheck_nil a _ (ha.later (by repeat (first | with_reducible exact Below.refl _ _ | with_reducible refine balloc ?_ _ | with_reducible refine bdrew ?_ | with_reducible refine bset' ?_ (by omega) _ | with_reducible refine bthen ?_ (by assumption)))) hfa).mono ?_
  rintro e w4 ⟨rfl, hbx⟩
  have T1 : Six w4 w.heap.size a := (by repeat (first | with_reducible exact S1 | with_reducible refine Six.drew ?_ | with_reducible refine Six.alloc ?_ _ | with_reducible refine Six.later ?_ (by assumption) | with_reducible refine Six.set ?_ (by omega) _)); have T2 : Six w4 (w.heap.size + 1) b := (by repeat (first | with_reducible exact S2 | with_reducible refine Six.drew ?_ | with_reducible refine Six.alloc ?_ _ | with_reducible refine Six.later ?_ (by assumption) | with_reducible refine Six.set ?_ (by omega) _)); have HC : Below w.heap.size w w4 := (by repeat (first | with_reducible exact Below.refl _ _ | with_reducible refine balloc ?_ _ | with_reducible refine bdrew ?_ | with_reducible refine bset' ?_ (by omega) _ | with_reducible refine bthen ?_ (by assumption))); clear S1 S2 HB p0 p1 p2 p3 p4 p5 q0 q1 q2 q3 q4 q5 l1 l2; have S1 := T1; have S2 := T2; have HB := HC; clear T1 T2 HC; obtain ⟨p0, p1, p2, p3, p4, p5⟩ := id S1; obtain ⟨q0, q1, q2, q3, q4, q5⟩ := id S2; have l1 := lt_of_cell p0; have l2 := lt_of_cell q0
  clear hbx
  go_wp2_with fail
  by_cases hfb : faultR b = 0
  case neg =>
    refine (rcheck_err b _ (hb.later (by repeat (first | with_reducible exact Below.refl _ _ | with_reducible refine balloc ?_ _ | with_reducible refine bdrew ?_ | with_reducible refine bset' ?_ (by omega) _ | with_reducible refine bthen ?_ (by assumption)))) hfb).mono ?_
    rintro e w5 ⟨rfl, hbx⟩
    go_wp2
    go_ret
    exact ⟨rfl, by repeat (first | with_reducible exact Below.refl _ _ | with_reducible refine balloc ?_ _ | with_reducible refine bdrew ?_ | with_reducible refine bset' ?_ (by omega) _ | with_reducible refine bthen ?_ (by assumption))⟩
  refine (rcheck_nil b _ (hb.later (by repeat (first | with_reducible exact Below.refl _ _ | with_reducible refine balloc ?_ _ | with_reducible refine bdrew ?_ | with_reducible refine bset' ?_ (by omega) _ | with_reducible refine bthen ?_ (by assumption)))) hfb).mono ?_
  rintro e w5 ⟨rfl, hbx⟩
  have T1 : Six w5 w.heap.size a := (by repeat (first | with_reducible exact S1 | with_reducible refine Six.drew ?_ | with_reducible refine Six.alloc ?_ _ | with_reducible refine Six.later ?_ (by assumption) | with_reducible refine Six.set ?_ (by omega) _)); have T2 : Six w5 (w.heap.size + 1) b := (by repeat (first | with_reducible exact S2 | with_reducible refine Six.drew ?_ | with_reducible refine Six.alloc ?_ _ | with_reducible refine Six.later ?_ (by assumption) | with_reducible refine Six.set ?_ (by omega) _)); have HC : Below w.heap.size w w5 := (by repeat (first | with_reducible exact Below.refl _ _ | with_reducible refine balloc ?_ _ | with_reducible refine bdrew ?_ | with_reducible refine bset' ?_ (by omega) _ | with_reducible refine bthen ?_ (by assumption))); clear S1 S2 HB p0 p1 p2 p3 p4 p5 q0 q1 q2 q3 q4 q5 l1 l2; have S1 := T1; have S2 := T2; have HB := HC; clear T1 T2 HC; obtain ⟨p0, p1, p2, p3, p4, p5⟩ := id S1; obtain ⟨q0, q1, q2, q3, q4, q5⟩ := id S2; have l1 := lt_of_cell p0; have l2 := lt_of_cell q0
  clear hbx
  have ga := (good_iff a).1 hfa
  have gb := (good_iff b).1 hfb
  clear hfa hfb hla hlb
  go_wp2_with fail
  rcases either a b ga gb with ⟨t1, t2⟩ | ⟨lo, hi, hJ, hC1, hC2⟩
  · refine (merge_false a b _ ga gb t1 t2).mono ?_
    rintro e w6 ⟨rfl, hbx⟩
    have T1 : Six w6 w.heap.size a := (by repeat (first | with_reducible exact S1 | with_reducible refine Six.drew ?_ | with_reducible refine Six.alloc ?_ _ | with_reducible refine Six.later ?_ (by assumption) | with_reducible refine Six.set ?_ (by omega) _)); have T2 : Six w6 (w.heap.size + 1) b := (by repeat (first | with_reducible exact S2 | with_reducible refine Six.drew ?_ | with_reducible refine Six.alloc ?_ _ | with_reducible refine Six.later ?_ (by assumption) | with_reducible refine Six.set ?_ (by omega) _)); have HC : Below w.heap.size w w6 := (by repeat (first | with_reducible exact Below.refl _ _ | with_reducible refine balloc ?_ _ | with_reducible refine bdrew ?_ | with_reducible refine bset' ?_ (by omega) _ | with_reducible refine bthen ?_ (by assumption))); clear S1 S2 HB p0 p1 p2 p3 p4 p5 q0 q1 q2 q3 q4 q5 l1 l2; have S1 := T1; have S2 := T2; have HB := HC; clear T1 T2 HC; obtain ⟨p0, p1, p2, p3, p4, p5⟩ := id S1; obtain ⟨q0, q1, q2, q3, q4, q5⟩ := id S2; have l1 := lt_of_cell p0; have l2 := lt_of_cell q0
    clear hbx
    go_wp2_with fail
    refine (merge_false b a _ gb ga t2 t1).mono ?_
    rintro e w7 ⟨rfl, hbx⟩
    have S3 : Six w7 w6.heap.size ⟨false, 0, 0, none, 0, [], none, 0, [], 0⟩ := (six_new w6 32 ⟨false, 0, 0, none, 0, [], none, 0, [], 0⟩).later hbx
    have T1 : Six w7 w.heap.size a := (by repeat (first | with_reducible exact S1 | with_reducible refine Six.drew ?_ | with_reducible refine Six.alloc ?_ _ | with_reducible refine Six.later ?_ (by assumption) | with_reducible refine Six.set ?_ (by omega) _)); have T2 : Six w7 (w.heap.size + 1) b := (by repeat (first | with_reducible exact S2 | with_reducible refine Six.drew ?_ | with_reducible refine Six.alloc ?_ _ | with_reducible refine Six.later ?_ (by assumption) | with_reducible refine Six.set ?_ (by omega) _)); have HC : Below w.heap.size w w7 := (by repeat (first | with_reducible exact Below.refl _ _ | with_reducible refine balloc ?_ _ | with_reducible refine bdrew ?_ | with_reducible refine bset' ?_ (by omega) _ | with_reducible refine bthen ?_ (by assumption))); clear S1 S2 HB p0 p1 p2 p3 p4 p5 q0 q1 q2 q3 q4 q5 l1 l2; have S1 := T1; have S2 := T2; have HB := HC; clear T1 T2 HC; obtain ⟨p0, p1, p2, p3, p4, p5⟩ := id S1; obtain ⟨q0, q1, q2, q3, q4, q5⟩ := id S2; have l1 := lt_of_cell p0; have l2 := lt_of_cell q0
    obtain ⟨r0, r1, r2, r3, r4, r5⟩ := id S3
    have l3 := lt_of_cell r0
    clear hbx
    go_wp2_with fail
    refine (sameReq_any ⟨false, 0, 0, none, 0, [], none, 0, [], 0⟩ ⟨false, 0, 0, none, 0, [], none, 0, [], 0⟩ _ zero_at zero_at true rfl).mono ?_
    rintro e w8 ⟨rfl, hbx⟩
    go_wp2
    go_ret
    exact ⟨rfl, by repeat (first | with_reducible exact Below.refl _ _ | with_reducible refine balloc ?_ _ | with_reducible refine bdrew ?_ | with_reducible refine bset' ?_ (by omega) _ | with_reducible refine bthen ?_ (by assumption))⟩
  · have HC2 := hid_of hC2
    refine (hC1 _ (ha.later (by repeat (first | with_reducible exact Below.refl _ _ | with_reducible refine balloc ?_ _ | with_reducible refine bdrew ?_ | with_reducible refine bset' ?_ (by omega) _ | with_reducible refine bthen ?_ (by assumption)))) (hb.later (by repeat (first | with_reducible exact Below.refl _ _ | with_reducible refine balloc ?_ _ | with_reducible refine bdrew ?_ | with_reducible refine bset' ?_ (by omega) _ | with_reducible refine bthen ?_ (by assumption))))).mono ?_
    rintro e w6 ⟨x, rfl, hx, hxa, hbx⟩
    have T1 : Six w6 w.heap.size a := (by repeat (first | with_reducible exact S1 | with_reducible refine Six.drew ?_ | with_reducible refine Six.alloc ?_ _ | with_reducible refine Six.later ?_ (by assumption) | with_reducible refine Six.set ?_ (by omega) _)); have T2 : Six w6 (w.heap.size + 1) b := (by repeat (first | with_reducible exact S2 | with_reducible refine Six.drew ?_ | with_reducible refine Six.alloc ?_ _ | with_reducible refine Six.later ?_ (by assumption) | with_reducible refine Six.set ?_ (by omega) _)); have HC : Below w.heap.size w w6 := (by repeat (first | with_reducible exact Below.refl _ _ | with_reducible refine balloc ?_ _ | with_reducible refine bdrew ?_ | with_reducible refine bset' ?_ (by omega) _ | with_reducible refine bthen ?_ (by assumption))); clear S1 S2 HB p0 p1 p2 p3 p4 p5 q0 q1 q2 q3 q4 q5 l1 l2; have S1 := T1; have S2 := T2; have HB := HC; clear T1 T2 HC; obtain ⟨p0, p1, p2, p3, p4, p5⟩ := id S1; obtain ⟨q0, q1, q2, q3, q4, q5⟩ := id S2; have l1 := lt_of_cell p0; have l2 := lt_of_cell q0
    clear hbx hC1 hC2
    go_wp2_with fail
    refine Calls.mono (HC2.out _ (ha.later (by repeat (first | with_reducible exact Below.refl _ _ | with_reducible refine balloc ?_ _ | with_reducible refine bdrew ?_ | with_reducible refine bset' ?_ (by omega) _ | with_reducible refine bthen ?_ (by assumption)))) (hb.later (by repeat (first | with_reducible exact Below.refl _ _ | with_reducible refine balloc ?_ _ | with_reducible refine bdrew ?_ | with_reducible refine bset' ?_ (by omega) _ | with_reducible refine bthen ?_ (by assumption))))) ?_
    rintro e w7 ⟨y, rfl, hy, hya, hbx⟩
    have S3 : Six w7 w6.heap.size x := (six_new w6 32 x).later hbx
    have hxa7 : x.At w7 := hxa.later (by repeat (first | with_reducible exact Below.refl _ _ | with_reducible refine balloc ?_ _ | with_reducible refine bdrew ?_ | with_reducible refine bset' ?_ (by omega) _ | with_reducible refine bthen ?_ (by assumption)))
    have T1 : Six w7 w.heap.size a := (by repeat (first | with_reducible exact S1 | with_reducible refine Six.drew ?_ | with_reducible refine Six.alloc ?_ _ | with_reducible refine Six.later ?_ (by assumption) | with_reducible refine Six.set ?_ (by omega) _)); have T2 : Six w7 (w.heap.size + 1) b := (by repeat (first | with_reducible exact S2 | with_reducible refine Six.drew ?_ | with_reducible refine Six.alloc ?_ _ | with_reducible refine Six.later ?_ (by assumption) | with_reducible refine Six.set ?_ (by omega) _)); have HC : Below w.heap.size w w7 := (by repeat (first | with_reducible exact Below.refl _ _ | with_reducible refine balloc ?_ _ | with_reducible refine bdrew ?_ | with_reducible refine bset' ?_ (by omega) _ | with_reducible refine bthen ?_ (by assumption))); clear S1 S2 HB p0 p1 p2 p3 p4 p5 q0 q1 q2 q3 q4 q5 l1 l2; have S1 := T1; have S2 := T2; have HB := HC; clear T1 T2 HC; obtain ⟨p0, p1, p2, p3, p4, p5⟩ := id S1; obtain ⟨q0, q1, q2, q3, q4, q5⟩ := id S2; have l1 := lt_of_cell p0; have l2 := lt_of_cell q0
    obtain ⟨r0, r1, r2, r3, r4, r5⟩ := id S3
    have l3 := lt_of_cell r0
    have J := hJ x hx
    have HS := hid_of (hx.same hy)
    clear hbx HC2 hxa hJ hx hy
    go_wp2_with fail
    refine (sameReq_any x y _ (hxa7.later (by repeat (first | with_reducible exact Below.refl _ _ | with_reducible refine balloc ?_ _ | with_reducible refine bdrew ?_ | with_reducible refine bset' ?_ (by omega) _ | with_reducible refine bthen ?_ (by assumption)))) (hya.later (by repeat (first | with_reducible exact Below.refl _ _ | with_reducible refine balloc ?_ _ | with_reducible refine bdrew ?_ | with_reducible refine bset' ?_ (by omega) _ | with_reducible refine bthen ?_ (by assumption)))) true HS.out).mono ?_
    rintro e w8 ⟨rfl, hbx⟩
    replace S3 : Six w8 w6.heap.size x := (by repeat (first | with_reducible exact S3 | with_reducible refine Six.drew ?_ | with_reducible refine Six.alloc ?_ _ | with_reducible refine Six.later ?_ (by assumption) | with_reducible refine Six.set ?_ (by omega) _))
    have hxa8 : x.At w8 := hxa7.later (by repeat (first | with_reducible exact Below.refl _ _ | with_reducible refine balloc ?_ _ | with_reducible refine bdrew ?_ | with_reducible refine bset' ?_ (by omega) _ | with_reducible refine bthen ?_ (by assumption)))
    have T1 : Six w8 w.heap.size a := (by repeat (first | with_reducible exact S1 | with_reducible refine Six.drew ?_ | with_reducible refine Six.alloc ?_ _ | with_reducible refine Six.later ?_ (by assumption) | with_reducible refine Six.set ?_ (by omega) _)); have T2 : Six w8 (w.heap.size + 1) b := (by repeat (first | with_reducible exact S2 | with_reducible refine Six.drew ?_ | with_reducible refine Six.alloc ?_ _ | with_reducible refine Six.later ?_ (by assumption) | with_reducible refine Six.set ?_ (by omega) _)); have HC : Below w.heap.size w w8 := (by repeat (first | with_reducible exact Below.refl _ _ | with_reducible refine balloc ?_ _ | with_reducible refine bdrew ?_ | with_reducible refine bset' ?_ (by omega) _ | with_reducible refine bthen ?_ (by assumption))); clear S1 S2 HB p0 p1 p2 p3 p4 p5 q0 q1 q2 q3 q4 q5 l1 l2; have S1 := T1; have S2 := T2; have HB := HC; clear T1 T2 HC; obtain ⟨p0, p1, p2, p3, p4, p5⟩ := id S1; obtain ⟨q0, q1, q2, q3, q4, q5⟩ := id S2; have l1 := lt_of_cell p0; have l2 := lt_of_cell q0
    clear r0 r1 r2 r3 r4 r5 l3 hbx hxa7 hya HS
    obtain ⟨r0, r1, r2, r3, r4, r5⟩ := id S3
    have l3 := lt_of_cell r0
    go_wp2_with fail
    refine (rcheck_nil x _ hxa8 ((good_iff x).2 J.good)).mono ?_
    rintro e w9 ⟨rfl, hbx⟩
    replace S3 : Six w9 w6.heap.size x := (by repeat (first | with_reducible exact S3 | with_reducible refine Six.drew ?_ | with_reducible refine Six.alloc ?_ _ | with_reducible refine Six.later ?_ (by assumption) | with_reducible refine Six.set ?_ (by omega) _))
    have hxa9 : x.At w9 := hxa8.later (by repeat (first | with_reducible exact Below.refl _ _ | with_reducible refine balloc ?_ _ | with_reducible refine bdrew ?_ | with_reducible refine bset' ?_ (by omega) _ | with_reducible refine bthen ?_ (by assumption)))
    have T1 : Six w9 w.heap.size a := (by repeat (first | with_reducible exact S1 | with_reducible refine Six.drew ?_ | with_reducible refine Six.alloc ?_ _ | with_reducible refine Six.later ?_ (by assumption) | with_reducible refine Six.set ?_ (by omega) _)); have T2 : Six w9 (w.heap.size + 1) b := (by repeat (first | with_reducible exact S2 | with_reducible refine Six.drew ?_ | with_reducible refine Six.alloc ?_ _ | with_reducible refine Six.later ?_ (by assumption) | with_reducible refine Six.set ?_ (by omega) _)); have HC : Below w.heap.size w w9 := (by repeat (first | with_reducible exact Below.refl _ _ | with_reducible refine balloc ?_ _ | with_reducible refine bdrew ?_ | with_reducible refine bset' ?_ (by omega) _ | with_reducible refine bthen ?_ (by assumption))); clear S1 S2 HB p0 p1 p2 p3 p4 p5 q0 q1 q2 q3 q4 q5 l1 l2; have S1 := T1; have S2 := T2; have HB := HC; clear T1 T2 HC; obtain ⟨p0, p1, p2, p3, p4, p5⟩ := id S1; obtain ⟨q0, q1, q2, q3, q4, q5⟩ := id S2; have l1 := lt_of_cell p0; have l2 := lt_of_cell q0
    clear r0 r1 r2 r3 r4 r5 l3 hbx hxa8
    obtain ⟨r0, r1, r2, r3, r4, r5⟩ := id S3
    have l3 := lt_of_cell r0
    obtain ⟨x1, x2, x3, x4, x5⟩ := ga.bnd
    obtain ⟨y1, y2, y3, y4, y5⟩ := gb.bnd
    have hat4 := ga.t4
    have hbt4 := gb.t4
    rw [J.wra] at r0
    rw [J.m] at r2
    have g3 : ((x.tags.length : Int) != (a.tags.length : Int) + (b.tags.length : Int)) = false := by rw [bne_eq_false_iff_eq, J.tags]; omega
    have g4 : decide (a.born < x.born) = false := decide_eq_false (by have := J.borna; omega)
    have g5 : decide (b.born < x.born) = false := decide_eq_false (by have := J.bornb; omega)
    have g4' : x.born ≤ a.born := J.borna
    have g5' : x.born ≤ b.born := J.bornb
    have HJ := hid_of J
    obtain ⟨v1, v2, -, -, -⟩ := J.good.bnd
    clear J
    go_wp2_with fail
    clear g3 g4 g5 g4' g5' hat4 hbt4
    have HW := hid_of HB
    clear HB
    go_loopw [10] (fun i wr => ∃ k : Nat, k ≤ 32 ∧ i = .int .i64 k ∧ Below w9.heap.size w9 wr) (fun i _ => 32 - (intOf i).toNat)
    case atStart => exact ⟨0, by omega, rfl, Below.refl _ _⟩
    case round =>
      obtain ⟨k, hk, rfl, HB⟩ := hrel
      have T1 := S1.later HB
      have T2 := S2.later HB
      have T3 := S3.later HB
      clear S1 S2 S3 p0 p1 p2 p3 p4 p5 q0 q1 q2 q3 q4 q5 r0 r1 r2 r3 r4 r5 l1 l2 l3
      obtain ⟨p0, p1, p2, p3, p4, p5⟩ := id T1
      obtain ⟨q0, q1, q2, q3, q4, q5⟩ := id T2
      obtain ⟨r0, r1, r2, r3, r4, r5⟩ := id T3
      have l1 := lt_of_cell p0
      have l2 := lt_of_cell q0
      have l3 := lt_of_cell r0
      have HR := hid_of HB
      clear HB
      by_cases hlt : k < 32
      · have eA := hasB_ok a.f a.m 4 (k : Int) ga.ok (by omega)
        have eB := hasB_ok b.f b.m 4 (k : Int) gb.ok (by omega)
        have eX := hasB_ok x.f x.m 4 (k : Int) HJ.out.good.ok (by omega)
        rw [HJ.out.has] at eX
        cases hta : inSpan a.f a.m (k : Int)
        · cases htb : inSpan b.f b.m (k : Int)
          · cases hxw : x.wr
            · rw [hxw] at r0
              rw [hta] at eA eX
              rw [htb] at eB eX
              rw [Bool.false_or] at eX
              clear hta htb hxw
              go_wp2_with fail; refine wp_region_later (by first | exact HB | exact bdrew HB | exact Below.refl _ _) (by kernel_rfl) (by kernel_rfl) ?_; (repeat (go_big_quiet_step (first | exact rfl | (go_at_call 9; first | with_reducible exact calls_later (has_eq x.f x.m _ _ _ eX) | with_reducible exact calls_later (has_eq a.f a.m _ _ _ eA) | with_reducible exact calls_later (has_eq b.f b.m _ _ _ eB))))); refine wpQuiet_nil ?_; intro _ hw'; obtain ⟨p, hw''⟩ := hw'; subst hw''; (try clear hc hf hz); (try clear HB); have HB := p.below; obtain ⟨hc, hf, hz⟩ := bcell HB
              go_wp2
              go_roundw; (case rel => exact ⟨k + 1, by omega, by go_num, bthen HR.out (by repeat (first | with_reducible exact Below.refl _ _ | with_reducible refine balloc ?_ _ | with_reducible refine bdrew ?_ | with_reducible refine bset' ?_ (by omega) _ | with_reducible refine bthen ?_ (by assumption)))⟩); (case measure => simp [intOf]; omega)
            · rw [hxw] at r0
              rw [hta] at eA eX
              rw [htb] at eB eX
              rw [Bool.false_or] at eX
              clear hta htb hxw
              go_wp2_with fail; refine wp_region_later (by first | exact HB | exact bdrew HB | exact Below.refl _ _) (by kernel_rfl) (by kernel_rfl) ?_; (repeat (go_big_quiet_step (first | exact rfl | (go_at_call 9; first | with_reducible exact calls_later (has_eq x.f x.m _ _ _ eX) | with_reducible exact calls_later (has_eq a.f a.m _ _ _ eA) | with_reducible exact calls_later (has_eq b.f b.m _ _ _ eB))))); refine wpQuiet_nil ?_; intro _ hw'; obtain ⟨p, hw''⟩ := hw'; subst hw''; (try clear hc hf hz); (try clear HB); have HB := p.below; obtain ⟨hc, hf, hz⟩ := bcell HB
              go_wp2_with fail
              go_at_call 9; refine (has_eq x.f x.m _ _ _ eX).mono ?_; rintro e w1 ⟨rfl, hb⟩; (try clear hc hf hz); (first | replace HB := bthen HB hb | replace HB := bthen (bdrew HB) hb | have HB := hb); clear hb; obtain ⟨hc, hf, hz⟩ := bcell HB
              go_wp2
              go_roundw; (case rel => exact ⟨k + 1, by omega, by go_num, bthen HR.out (by repeat (first | with_reducible exact Below.refl _ _ | with_reducible refine balloc ?_ _ | with_reducible refine bdrew ?_ | with_reducible refine bset' ?_ (by omega) _ | with_reducible refine bthen ?_ (by assumption)))⟩); (case measure => simp [intOf]; omega)
          · cases hxw : x.wr
            · rw [hxw] at r0
              rw [hta] at eA eX
              rw [htb] at eB eX
              rw [Bool.false_or] at eX
              clear hta htb hxw
              go_wp2_with fail; refine wp_region_later (by first | exact HB | exact bdrew HB | exact Below.refl _ _) (by kernel_rfl) (by kernel_rfl) ?_; (repeat (go_big_quiet_step (first | exact rfl | (go_at_call 9; first | with_reducible exact calls_later (has_eq x.f x.m _ _ _ eX) | with_reducible exact calls_later (has_eq a.f a.m _ _ _ eA) | with_reducible exact calls_later (has_eq b.f b.m _ _ _ eB))))); refine wpQuiet_nil ?_; intro _ hw'; obtain ⟨p, hw''⟩ := hw'; subst hw''; (try clear hc hf hz); (try clear HB); have HB := p.below; obtain ⟨hc, hf, hz⟩ := bcell HB
              go_wp2
              go_roundw; (case rel => exact ⟨k + 1, by omega, by go_num, bthen HR.out (by repeat (first | with_reducible exact Below.refl _ _ | with_reducible refine balloc ?_ _ | with_reducible refine bdrew ?_ | with_reducible refine bset' ?_ (by omega) _ | with_reducible refine bthen ?_ (by assumption)))⟩); (case measure => simp [intOf]; omega)
            · obtain ⟨i, j, hi1, hj1, hi, hj, hxd⟩ := HJ.out.inb hxw (k : Int) htb
              have sA : StrsAt wr b.da b.data := hb.data.later (bthen HW.out HR.out)
              have sX : StrsAt wr x.da x.data := hxa9.data.later HR.out
              obtain ⟨ab, ao, hda⟩ := sA.form.resolve_left (by intro h; rw [h] at hi; exact absurd hi (Nat.not_lt_zero _))
              obtain ⟨xb, xo, hxda⟩ := sX.form.resolve_left (by intro h; rw [h] at hj; exact absurd hj (Nat.not_lt_zero _))
              rw [hda] at sA q3
              rw [hxda] at sX r3
              have cA := sA.at hi
              have cX := sX.at hj
              have lA := lt_of_cell cA
              have lX := lt_of_cell cX
              have sE := str_eq hxd
              have i0 : (0 : Int) ≤ (i : Int) := by omega
              have i1 : (i : Int) < (b.data.length : Int) := by omega
              have j0 : (0 : Int) ≤ (j : Int) := by omega
              have j1 : (j : Int) < (x.data.length : Int) := by omega
              clear sA sX hda hxda hxd
              rw [hxw] at r0
              rw [hta] at eA eX
              rw [htb] at eB eX
              rw [Bool.false_or] at eX
              clear hta htb hxw
              go_wp2_with fail; refine wp_region_later (by first | exact HB | exact bdrew HB | exact Below.refl _ _) (by kernel_rfl) (by kernel_rfl) ?_; (repeat (go_big_quiet_step (first | exact rfl | (go_at_call 9; first | with_reducible exact calls_later (has_eq x.f x.m _ _ _ eX) | with_reducible exact calls_later (has_eq a.f a.m _ _ _ eA) | with_reducible exact calls_later (has_eq b.f b.m _ _ _ eB))))); refine wpQuiet_nil ?_; intro _ hw'; obtain ⟨p, hw''⟩ := hw'; subst hw''; (try clear hc hf hz); (try clear HB); have HB := p.below; obtain ⟨hc, hf, hz⟩ := bcell HB
              go_wp2_with fail
              go_at_call 9; refine (has_eq x.f x.m _ _ _ eX).mono ?_; rintro e w1 ⟨rfl, hb⟩; (try clear hc hf hz); (first | replace HB := bthen HB hb | replace HB := bthen (bdrew HB) hb | have HB := hb); clear hb; obtain ⟨hc, hf, hz⟩ := bcell HB
              go_wp2_with fail
              go_at_call 9; refine (has_eq a.f a.m _ _ _ eA).mono ?_; rintro e w1 ⟨rfl, hb⟩; (try clear hc hf hz); (first | replace HB := bthen HB hb | replace HB := bthen (bdrew HB) hb | have HB := hb); clear hb; obtain ⟨hc, hf, hz⟩ := bcell HB
              go_wp2
              go_roundw; (case rel => exact ⟨k + 1, by omega, by go_num, bthen HR.out (by repeat (first | with_reducible exact Below.refl _ _ | with_reducible refine balloc ?_ _ | with_reducible refine bdrew ?_ | with_reducible refine bset' ?_ (by omega) _ | with_reducible refine bthen ?_ (by assumption)))⟩); (case measure => simp [intOf]; omega)
        · cases htb : inSpan b.f b.m (k : Int)
          · cases hxw : x.wr
            · rw [hxw] at r0
              rw [hta] at eA eX
              rw [htb] at eB eX
              rw [Bool.true_or] at eX
              clear hta htb hxw
              go_wp2_with fail; refine wp_region_later (by first | exact HB | exact bdrew HB | exact Below.refl _ _) (by kernel_rfl) (by kernel_rfl) ?_; (repeat (go_big_quiet_step (first | exact rfl | (go_at_call 9; first | with_reducible exact calls_later (has_eq x.f x.m _ _ _ eX) | with_reducible exact calls_later (has_eq a.f a.m _ _ _ eA) | with_reducible exact calls_later (has_eq b.f b.m _ _ _ eB))))); refine wpQuiet_nil ?_; intro _ hw'; obtain ⟨p, hw''⟩ := hw'; subst hw''; (try clear hc hf hz); (try clear HB); have HB := p.below; obtain ⟨hc, hf, hz⟩ := bcell HB
              go_wp2
              go_roundw; (case rel => exact ⟨k + 1, by omega, by go_num, bthen HR.out (by repeat (first | with_reducible exact Below.refl _ _ | with_reducible refine balloc ?_ _ | with_reducible refine bdrew ?_ | with_reducible refine bset' ?_ (by omega) _ | with_reducible refine bthen ?_ (by assumption)))⟩); (case measure => simp [intOf]; omega)
            · obtain ⟨i, j, hi1, hj1, hi, hj, hxd⟩ := HJ.out.ina hxw (k : Int) hta
              have sA : StrsAt wr a.da a.data := ha.data.later (bthen HW.out HR.out)
              have sX : StrsAt wr x.da x.data := hxa9.data.later HR.out
              obtain ⟨ab, ao, hda⟩ := sA.form.resolve_left (by intro h; rw [h] at hi; exact absurd hi (Nat.not_lt_zero _))
              obtain ⟨xb, xo, hxda⟩ := sX.form.resolve_left (by intro h; rw [h] at hj; exact absurd hj (Nat.not_lt_zero _))
              rw [hda] at sA p3
              rw [hxda] at sX r3
              have cA := sA.at hi
              have cX := sX.at hj
              have lA := lt_of_cell cA
              have lX := lt_of_cell cX
              have sE := str_eq hxd
              have i0 : (0 : Int) ≤ (i : Int) := by omega
              have i1 : (i : Int) < (a.data.length : Int) := by omega
              have j0 : (0 : Int) ≤ (j : Int) := by omega
              have j1 : (j : Int) < (x.data.length : Int) := by omega
              clear sA sX hda hxda hxd
              rw [hxw] at r0
              rw [hta] at eA eX
              rw [htb] at eB eX
              rw [Bool.true_or] at eX
              clear hta htb hxw
              go_wp2_with fail; refine wp_region_later (by first | exact HB | exact bdrew HB | exact Below.refl _ _) (by kernel_rfl) (by kernel_rfl) ?_; (repeat (go_big_quiet_step (first | exact rfl | (go_at_call 9; first | with_reducible exact calls_later (has_eq x.f x.m _ _ _ eX) | with_reducible exact calls_later (has_eq a.f a.m _ _ _ eA) | with_reducible exact calls_later (has_eq b.f b.m _ _ _ eB))))); refine wpQuiet_nil ?_; intro _ hw'; obtain ⟨p, hw''⟩ := hw'; subst hw''; (try clear hc hf hz); (try clear HB); have HB := p.below; obtain ⟨hc, hf, hz⟩ := bcell HB
              go_wp2_with fail
              go_at_call 9; refine (has_eq x.f x.m _ _ _ eX).mono ?_; rintro e w1 ⟨rfl, hb⟩; (try clear hc hf hz); (first | replace HB := bthen HB hb | replace HB := bthen (bdrew HB) hb | have HB := hb); clear hb; obtain ⟨hc, hf, hz⟩ := bcell HB
              go_wp2_with fail
              go_at_call 9; refine (has_eq a.f a.m _ _ _ eA).mono ?_; rintro e w1 ⟨rfl, hb⟩; (try clear hc hf hz); (first | replace HB := bthen HB hb | replace HB := bthen (bdrew HB) hb | have HB := hb); clear hb; obtain ⟨hc, hf, hz⟩ := bcell HB
              go_wp2
              go_roundw; (case rel => exact ⟨k + 1, by omega, by go_num, bthen HR.out (by repeat (first | with_reducible exact Below.refl _ _ | with_reducible refine balloc ?_ _ | with_reducible refine bdrew ?_ | with_reducible refine bset' ?_ (by omega) _ | with_reducible refine bthen ?_ (by assumption)))⟩); (case measure => simp [intOf]; omega)
          · cases hxw : x.wr
            · rw [hxw] at r0
              rw [hta] at eA eX
              rw [htb] at eB eX
              rw [Bool.true_or] at eX
              clear hta htb hxw
              go_wp2_with fail; refine wp_region_later (by first | exact HB | exact bdrew HB | exact Below.refl _ _) (by kernel_rfl) (by kernel_rfl) ?_; (repeat (go_big_quiet_step (first | exact rfl | (go_at_call 9; first | with_reducible exact calls_later (has_eq x.f x.m _ _ _ eX) | with_reducible exact calls_later (has_eq a.f a.m _ _ _ eA) | with_reducible exact calls_later (has_eq b.f b.m _ _ _ eB))))); refine wpQuiet_nil ?_; intro _ hw'; obtain ⟨p, hw''⟩ := hw'; subst hw''; (try clear hc hf hz); (try clear HB); have HB := p.below; obtain ⟨hc, hf, hz⟩ := bcell HB
              go_wp2
              go_roundw; (case rel => exact ⟨k + 1, by omega, by go_num, bthen HR.out (by repeat (first | with_reducible exact Below.refl _ _ | with_reducible refine balloc ?_ _ | with_reducible refine bdrew ?_ | with_reducible refine bset' ?_ (by omega) _ | with_reducible refine bthen ?_ (by assumption)))⟩); (case measure => simp [intOf]; omega)
            · obtain ⟨i, j, hi1, hj1, hi, hj, hxd⟩ := HJ.out.ina hxw (k : Int) hta
              have sA : StrsAt wr a.da a.data := ha.data.later (bthen HW.out HR.out)
              have sX : StrsAt wr x.da x.data := hxa9.data.later HR.out
              obtain ⟨ab, ao, hda⟩ := sA.form.resolve_left (by intro h; rw [h] at hi; exact absurd hi (Nat.not_lt_zero _))
              obtain ⟨xb, xo, hxda⟩ := sX.form.resolve_left (by intro h; rw [h] at hj; exact absurd hj (Nat.not_lt_zero _))
              rw [hda] at sA p3
              rw [hxda] at sX r3
              have cA := sA.at hi
              have cX := sX.at hj
              have lA := lt_of_cell cA
              have lX := lt_of_cell cX
              have sE := str_eq hxd
              have i0 : (0 : Int) ≤ (i : Int) := by omega
              have i1 : (i : Int) < (a.data.length : Int) := by omega
              have j0 : (0 : Int) ≤ (j : Int) := by omega
              have j1 : (j : Int) < (x.data.length : Int) := by omega
              clear sA sX hda hxda hxd
              rw [hxw] at r0
              rw [hta] at eA eX
              rw [htb] at eB eX
              rw [Bool.true_or] at eX
              clear hta htb hxw
              go_wp2_with fail; refine wp_region_later (by first | exact HB | exact bdrew HB | exact Below.refl _ _) (by kernel_rfl) (by kernel_rfl) ?_; (repeat (go_big_quiet_step (first | exact rfl | (go_at_call 9; first | with_reducible exact calls_later (has_eq x.f x.m _ _ _ eX) | with_reducible exact calls_later (has_eq a.f a.m _ _ _ eA) | with_reducible exact calls_later (has_eq b.f b.m _ _ _ eB))))); refine wpQuiet_nil ?_; intro _ hw'; obtain ⟨p, hw''⟩ := hw'; subst hw''; (try clear hc hf hz); (try clear HB); have HB := p.below; obtain ⟨hc, hf, hz⟩ := bcell HB
              go_wp2_with fail
              go_at_call 9; refine (has_eq x.f x.m _ _ _ eX).mono ?_; rintro e w1 ⟨rfl, hb⟩; (try clear hc hf hz); (first | replace HB := bthen HB hb | replace HB := bthen (bdrew HB) hb | have HB := hb); clear hb; obtain ⟨hc, hf, hz⟩ := bcell HB
              go_wp2_with fail
              go_at_call 9; refine (has_eq a.f a.m _ _ _ eA).mono ?_; rintro e w1 ⟨rfl, hb⟩; (try clear hc hf hz); (first | replace HB := bthen HB hb | replace HB := bthen (bdrew HB) hb | have HB := hb); clear hb; obtain ⟨hc, hf, hz⟩ := bcell HB
              go_wp2
              go_roundw; (case rel => exact ⟨k + 1, by omega, by go_num, bthen HR.out (by repeat (first | with_reducible exact Below.refl _ _ | with_reducible refine balloc ?_ _ | with_reducible refine bdrew ?_ | with_reducible refine bset' ?_ (by omega) _ | with_reducible refine bthen ?_ (by assumption)))⟩); (case measure => simp [intOf]; omega)
      · go_wp2
        go_ret
        exact ⟨rfl, bthen HW.out HR.out⟩
end Go.Proofs.Ytfdmchhaiikeaab
