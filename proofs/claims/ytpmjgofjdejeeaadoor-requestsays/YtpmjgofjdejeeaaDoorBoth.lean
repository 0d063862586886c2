/- Two requests as one: what it has. -/
import Derived.Test.YtpmjgofjdejeeaaDoorMerge4
namespace Go.Proofs.YtpmjgofjdejeeaaDoor
open Go.RowKit

theorem tog_iff {a b : Rq} : togB a b = true ↔ a.f + a.m = b.f ∧ a.wr = b.wr ∧ a.m + b.m ≤ 4 ∧ a.tags.length + b.tags.length ≤ 4 := by
  simp only [togB, Bool.and_eq_true, decide_eq_true_eq, beq_iff_eq]
theorem Good.shapeW {r : Rq} (h : Good r) (hw : r.wr = true) : (r.data.length : Int) = r.m := by
  have := h.shape
  simpa [shapeB, hw] using this
theorem Good.shapeR {r : Rq} (h : Good r) (hw : r.wr = false) : r.data = [] := by
  have := h.shape
  simpa [shapeB, hw] using this

theorem IsBoth.good {a b q : Rq} (ga : Good a) (gb : Good b) (h : IsBoth a b q) (ht : togB a b = true) : Good q := by
  obtain ⟨t1, t2, t3, t4⟩ := tog_iff.1 ht
  have ba := ga.bnd
  have bb := gb.bnd
  have hm := h.m
  have hf := h.f
  refine ⟨?_, ?_, ?_, ?_, ?_, ?_, ?_⟩
  · simp only [okB, decide_eq_true_eq]; omega
  · unfold shapeB
    rw [h.wr, h.data, List.length_append, hm]
    cases hw : a.wr
    · rw [ga.shapeR hw, gb.shapeR (t2 ▸ hw)]; rfl
    · have := ga.shapeW hw
      have := gb.shapeW (t2 ▸ hw)
      simp only [if_true, decide_eq_true_eq]; omega
  · rw [h.tags, List.length_append]; have := ga.t1; omega
  · rw [h.tags, List.length_append]; omega
  · rw [h.born]; have := ga.b0; have := gb.b0; omega
  · rw [h.born]; have := ga.b1; omega
  · have s1 := ga.small
    have s2 := gb.small
    unfold small4 at *
    rw [h.data, List.all_append, s1, s2]; rfl

/-- All that both have. -/
structure Joined (a b q : Rq) : Prop where
  good : Good q
  wra : q.wr = a.wr
  wrb : q.wr = b.wr
  m : q.m = a.m + b.m
  tags : q.tags.length = a.tags.length + b.tags.length
  borna : q.born ≤ a.born
  bornb : q.born ≤ b.born
  has : ∀ at' : Int, inSpan q.f q.m at' = (inSpan a.f a.m at' || inSpan b.f b.m at')
  ina : q.wr = true → ∀ at' : Int, inSpan a.f a.m at' = true → ∃ i j : Nat, at' - a.f = i ∧ at' - q.f = j ∧ ∃ (hi : i < a.data.length) (hj : j < q.data.length), q.data[j] = a.data[i]
  inb : q.wr = true → ∀ at' : Int, inSpan b.f b.m at' = true → ∃ i j : Nat, at' - b.f = i ∧ at' - q.f = j ∧ ∃ (hi : i < b.data.length) (hj : j < q.data.length), q.data[j] = b.data[i]

theorem IsBoth.joined {a b q : Rq} (ga : Good a) (gb : Good b) (h : IsBoth a b q) (ht : togB a b = true) : Joined a b q := by
  obtain ⟨t1, t2, t3, t4⟩ := tog_iff.1 ht
  have ba := ga.bnd
  have bb := gb.bnd
  refine ⟨h.good ga gb ht, h.wr, h.wr.trans t2, h.m, by rw [h.tags, List.length_append], ?_, ?_, ?_, ?_, ?_⟩
  · rw [h.born]; omega
  · rw [h.born]; omega
  · intro at'
    rw [h.f, h.m, Bool.eq_iff_iff]
    simp only [inSpan, Bool.or_eq_true, decide_eq_true_eq]
    omega
  · intro hw at' hat
    simp only [inSpan, decide_eq_true_eq] at hat
    have l1 := ga.shapeW (h.wr ▸ hw)
    refine ⟨(at' - a.f).toNat, (at' - a.f).toNat, by omega, by rw [h.f]; omega, by omega, by rw [h.data, List.length_append]; omega, ?_⟩
    simp only [h.data]
    rw [List.getElem_append_left (by omega)]
  · intro hw at' hat
    simp only [inSpan, decide_eq_true_eq] at hat
    have l1 := ga.shapeW (h.wr ▸ hw)
    have l2 := gb.shapeW (t2 ▸ (h.wr ▸ hw))
    refine ⟨(at' - b.f).toNat, (at' - a.f).toNat, by omega, by rw [h.f]; omega, by omega, by rw [h.data, List.length_append]; omega, ?_⟩
    simp only [h.data]
    rw [List.getElem_append_right (by omega)]
    congr 1
    omega
theorem Joined.swap {a b q : Rq} (h : Joined a b q) : Joined b a q :=
  ⟨h.good, h.wrb, h.wra, by rw [h.m]; omega, by rw [h.tags]; omega, h.bornb, h.borna, fun at' => by rw [h.has, Bool.or_comm], h.inb, h.ina⟩

theorem IsBoth.same {a b q r : Rq} (h : IsBoth a b q) (k : IsBoth a b r) : sameB q r = true := by
  unfold sameB eqS eqN
  rw [h.wr, h.f, h.m, h.data, h.tags, h.born, k.wr, k.f, k.m, k.data, k.tags, k.born]
  simp
/-- They go together just one way round. -/
theorem tog_one {a b : Rq} (ga : Good a) (gb : Good b) (h : togB a b = true) : (wrap64 (b.f + b.m) == a.f) = false ∧ (wrap64 (a.f + a.m) == b.f) = true := by
  obtain ⟨t1, _⟩ := tog_iff.1 h
  have ba := ga.bnd
  have bb := gb.bnd
  rw [wrap_sum (by omega) (by omega) (by omega) (by omega), wrap_sum (by omega) (by omega) (by omega) (by omega)]
  constructor
  · rw [beq_eq_false_iff_ne]; omega
  · rw [beq_iff_eq]; exact t1
end Go.Proofs.YtpmjgofjdejeeaaDoor
