/- RequestSays: what stands below it: merges; both answers to Merge; Part. -/
import Derived.Test.YtpmjgofjdejeeaaDoorRAdd
import Derived.Test.YtpmjgofjdejeeaaDoorText2
import Derived.Test.YtpmjgofjdejeeaaDoorPart
namespace Go.Proofs.YtpmjgofjdejeeaaDoor
open Go.RowKit Go.BigFrame
attribute [local go_sem] Later.cell Later.frozen

theorem sameB_refl (r : Rq) : sameB r r = true := by simp [sameB, eqS, eqN]
theorem both_same {o r q q' : Rq} (h : BothE o r q) (h' : BothE o r q') : sameB q q' = true := by
  rcases h with ⟨h1, h⟩ | ⟨h1, h2, h⟩
  · rcases h' with ⟨k1, h'⟩ | ⟨k1, k2, h'⟩
    · exact h.same h'
    · rw [h1] at k1; cases k1
  · rcases h' with ⟨k1, h'⟩ | ⟨k1, k2, h'⟩
    · rw [h1] at k1; cases k1
    · exact h.same h'
/-- A closed request that reads one sector. -/
def rqOne (f : Int) (t : Int) (b : Nat) : Rq := ⟨false, f, 1, none, 0, [], some ⟨b, 0, none⟩, 1, [t], 0⟩
theorem goodOne (f t : Int) (b : Nat) (h0 : 0 ≤ f) (h1 : f < 32) : Good (rqOne f t b) := by
  refine ⟨by simp [rqOne, okB]; omega, by simp [rqOne, shapeB], by simp [rqOne], by simp [rqOne], by simp [rqOne], by simp [rqOne], by simp [rqOne, small4]⟩
theorem atOne (f t : Int) (b : Nat) (w : World) (h : w.cell? ⟨b, 0, none⟩ = some (.int .i64 t)) (h0 : 0 ≤ f) (h1 : f < 32) : (rqOne f t b).At w := by
  refine ⟨Or.inl rfl, Or.inr ⟨b, 0, rfl, ?_⟩, by simp [rqOne], by simp [rqOne], by simp [rqOne, In64]; omega, by simp [rqOne, In64], by simp [rqOne, In64], by simp [rqOne], by simp [rqOne]⟩
  intro i hi
  obtain rfl : i = 0 := by simp [rqOne] at hi; omega
  simpa [rqOne] using h
theorem togOne (b b' : Nat) : togB (rqOne 2 2 b) (rqOne 3 1 b') = true := by simp [togB, rqOne]
theorem two_at (w : World) (b : Nat) (h0 : w.cell? ⟨b, 0, none⟩ = some (.int .i64 2)) (h1 : w.cell? ⟨b, 1, none⟩ = some (.int .i64 1)) : IntsAt w (some ⟨b, 0, none⟩) [2, 1] := by
  refine Or.inr ⟨b, 0, rfl, ?_⟩
  intro i hi
  match i, hi with
  | 0, _ => simpa using h0
  | 1, _ => simpa using h1

def zeroQ : Rq := ⟨false, 0, 0, none, 0, [], none, 0, [], 0⟩
theorem zeroQ_at (w : World) : zeroQ.At w :=
  ⟨Or.inl rfl, Or.inl rfl, by simp [zeroQ], by simp [zeroQ], by simp [zeroQ, In64], by simp [zeroQ, In64], by simp [zeroQ, In64], fun _ => rfl, fun _ => rfl⟩
def MQ (a b q : Rq) (t : Bool) : Prop := (t = true → BothE a b q) ∧ (t = false → q = zeroQ)
theorem MQ.same {a b q q' : Rq} {t : Bool} (h : MQ a b q t) (h' : MQ a b q' t) : sameB q q' = true := by
  cases t
  · rw [h.2 rfl, h'.2 rfl]; exact sameB_refl _
  · exact both_same (h.1 rfl) (h'.1 rfl)
theorem mergeU (a b : Rq) (w : World) (ga : Good a) (gb : Good b) (ha : a.At w) (hb : b.At w) (t : Bool) (h : togE a b = t) :
    Calls Tryd.prog 12 #[a.val, b.val] w fun e w' => ∃ q : Rq, e = .returned (.tuple #[q.val, .bool t]) ∧ MQ a b q t ∧ q.At w' ∧ Below w.heap.size w w' := by
  cases t
  · exact (mergeN a b w ga gb h).mono fun e w' ⟨he, hb⟩ => ⟨zeroQ, he, ⟨by simp, fun _ => rfl⟩, zeroQ_at _, hb⟩
  · exact (mergeE a b w ga gb ha hb h).mono fun e w' ⟨q, he, hq, hqa, hb⟩ => ⟨q, he, ⟨fun _ => hq, by simp⟩, hqa, hb⟩
theorem rmergeU (a b : Rq) (w : World) (ga : Good a) (gb : Good b) (ha : a.At w) (hb : b.At w) (t : Bool) (h : togE a b = t) :
    Calls Tryd.prog 13 #[a.val, b.val] w fun e w' => ∃ q : Rq, e = .returned (.tuple #[q.val, .bool t]) ∧ MQ a b q t ∧ q.At w' ∧ Below w.heap.size w w' := by
  cases t
  · exact (rmergedN a b w ga gb h).mono fun e w' ⟨he, hb⟩ => ⟨zeroQ, he, ⟨by simp, fun _ => rfl⟩, zeroQ_at _, hb⟩
  · exact (rmergedE a b w ga gb ha hb h).mono fun e w' ⟨q, he, hq, hqa, _, hb⟩ => ⟨q, he, ⟨fun _ => hq, by simp⟩, hqa, hb⟩

/-- What Part answers. -/
def PartOut (r : Rq) (xs : List ByteArray) (p : Int) (s : ByteArray) (ok : Bool) : Prop :=
  (∃ j : Nat, p = r.f + j ∧ (j : Int) < r.m ∧ j < xs.length ∧ s = xs.getD j ByteArray.empty ∧ ok = true) ∨ ((∀ j : Nat, (j : Int) < r.m → j < xs.length → r.f + j ≠ p) ∧ s = ⟨#[]⟩ ∧ ok = false)
theorem part_all (r : Rq) (gr : Good r) (xs : List ByteArray) (xa : Option Addr) (xc : Nat) (p : Int) (hp : In64 p) : ∃ s ok, PartOut r xs p s ok ∧
    ∀ w, StrsAt w xa xs → Calls Tryd.prog 18 #[resV r xa xs.length xc 0, .int .i64 p] w fun e w' => e = .returned (.tuple #[.string s, .bool ok]) ∧ Below w.heap.size w w' := by
  have h1 := gr.bnd
  have h2 := hasB_ok r.f r.m 4 p gr.ok hp.2
  cases hh : hasB r.f r.m p
  · refine ⟨⟨#[]⟩, false, Or.inr ⟨fun j hj _ e => ?_, rfl, rfl⟩, fun w _ => part_no r xa xs.length xc 0 p w hh⟩
    rw [hh] at h2
    simp only [inSpan] at h2
    have := of_decide_eq_false h2.symm
    omega
  · have hsp : r.f ≤ p ∧ p < r.f + r.m := by
      rw [hh] at h2
      simp only [inSpan] at h2
      exact of_decide_eq_true h2.symm
    have hw : wrap64 (p - r.f) = ((p - r.f).toNat : Int) := by unfold wrap64; omega
    by_cases hn : (p - r.f).toNat < xs.length
    · exact ⟨_, true, Or.inl ⟨(p - r.f).toNat, by omega, by omega, hn, rfl, rfl⟩, fun w hx => part_in r xs xa xc 0 p w hx hh _ hw hn _ rfl⟩
    · refine ⟨⟨#[]⟩, false, Or.inr ⟨fun j hj hl e => ?_, rfl, rfl⟩, fun w _ => part_out r xa xs.length xc 0 p w hh _ hw (by omega)⟩
      omega
/-- The loop of the law, after k rounds. -/
def PartTo (r : Rq) (xs : List ByteArray) (p : Int) (k : Nat) (t has : Value) : Prop :=
  (∃ j : Nat, j < k ∧ p = r.f + j ∧ t = .string (xs.getD j ByteArray.empty) ∧ has = .bool true) ∨ ((∀ j : Nat, j < k → r.f + j ≠ p) ∧ t = .string ⟨#[]⟩ ∧ has = .bool false)
theorem part_end {r : Rq} {xs : List ByteArray} {p : Int} {s : ByteArray} {ok : Bool} {k : Nat} {t has : Value} (h : PartOut r xs p s ok) (h' : PartTo r xs p k t has) (hk : (k : Int) ≤ r.m) (hk' : k ≤ xs.length) (he : ¬ ((k : Int) < r.m ∧ k < xs.length)) : t = .string s ∧ has = .bool ok := by
  rcases h with ⟨j, rfl, h1, h2, rfl, rfl⟩ | ⟨h1, rfl, rfl⟩
  · rcases h' with ⟨i, g1, g2, g3, g4⟩ | ⟨g1, _, _⟩
    · obtain rfl : i = j := by omega
      exact ⟨g3, g4⟩
    · exact absurd rfl (g1 j (by omega))
  · rcases h' with ⟨i, g1, g2, g3, g4⟩ | ⟨g1, g2, g3⟩
    · exact absurd g2.symm (h1 i (by omega) (by omega))
    · exact ⟨g2, g3⟩

set_option maxRecDepth 100000 in
set_option maxHeartbeats 1000000 in
theorem merges_any (w : World) : Calls Tryd.prog 8 #[] w fun e w' => e = .returned (.bool true) ∧ Below w.heap.size w w' := by
  go_enter Tryd.func8, Tryd.ntmps8
  go_wp2_with fail
  refine (merge_true' (rqOne 2 2 (w.heap.size + 1)) (rqOne 3 1 w.heap.size) _ (goodOne _ _ _ (by omega) (by omega)) (goodOne _ _ _ (by omega) (by omega)) (atOne _ _ _ _ (by simp [go_sem]) (by omega) (by omega)) (atOne _ _ _ _ (by simp [go_sem]) (by omega) (by omega)) (togOne _ _)).mono ?_
  rintro e w1 ⟨q, rfl, hq, hqa, hb1⟩
  have e1 : q.f = 2 := hq.f
  have e2 : q.m = 2 := hq.m
  have e3 : q.tags = [2, 1] := hq.tags
  have ht := hqa.tags
  have HB : Below w.heap.size w w1 := by repeat (first | with_reducible exact Below.refl _ _ | with_reducible refine balloc ?_ _ | with_reducible refine bdrew ?_ | with_reducible refine bset' ?_ (by omega) _ | with_reducible refine bthen ?_ (by assumption))
  obtain ⟨qw, qf, qm, qda, qdc, qd, qta, qtc, qt, qb⟩ := q
  simp only at e1 e2 e3 ht
  subst e1 e2 e3
  clear hq hqa hb1
  go_wp2_with fail
  refine (numbers_any [2, 1] [2, 1] _ _ _ _ _ (ht.later (by repeat (first | with_reducible exact Below.refl _ _ | with_reducible refine balloc ?_ _ | with_reducible refine bdrew ?_ | with_reducible refine bset' ?_ (by omega) _ | with_reducible refine bthen ?_ (by assumption)))) (two_at _ _ (by simp [go_sem]) (by simp [go_sem])) (by simp)).mono ?_
  rintro e w2 ⟨rfl, hb2⟩
  go_wp2
  go_ret
  exact ⟨rfl, by repeat (first | with_reducible exact Below.refl _ _ | with_reducible refine balloc ?_ _ | with_reducible refine bdrew ?_ | with_reducible refine bset' ?_ (by omega) _ | with_reducible refine bthen ?_ (by assumption))⟩
end Go.Proofs.YtpmjgofjdejeeaaDoor
