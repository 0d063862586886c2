/- The document's answer to Add (R.Added). -/
import Derived.Test.YtpmjgofjdejeeaaDoorRMerge2
import Derived.Test.YtpmjgofjdejeeaaDoorRMerge5
namespace Go.Proofs.YtpmjgofjdejeeaaDoor
open Go.RowKit Go.BigFrame
attribute [local go_sem] Later.cell Later.frozen

theorem rmergedE (o r : Rq) (w : World) (go : Good o) (gr : Good r) (ho : o.At w) (hr : r.At w) (h : togE o r = true) :
    Calls Tryd.prog 13 #[o.val, r.val] w fun e w' => ∃ q : Rq, e = .returned (.tuple #[q.val, .bool true]) ∧ BothE o r q ∧ q.At w' ∧ FreshL q w.heap.size ∧ Below w.heap.size w w' := by
  cases h1 : togB o r
  · have h2 : togB r o = true := by simpa [togE, h1] using h
    rcases Decidable.em (o.born < r.born) with hm | hm
    · exact (rmerged_swap1 r o w gr go hr ho h2 hm _ rfl _ rfl).mono fun e w' ⟨q, he, hq, ha, hf, hb⟩ => ⟨q, he, Or.inr ⟨h1, h2, hq⟩, ha, hf, hb⟩
    · exact (rmerged_swap2 r o w gr go hr ho h2 hm _ rfl _ rfl).mono fun e w' ⟨q, he, hq, ha, hf, hb⟩ => ⟨q, he, Or.inr ⟨h1, h2, hq⟩, ha, hf, hb⟩
  · rcases Decidable.em (r.born < o.born) with hm | hm
    · exact (rmerged_yes1 o r w go gr ho hr h1 hm _ rfl _ rfl).mono fun e w' ⟨q, he, hq, ha, hf, hb⟩ => ⟨q, he, Or.inl ⟨h1, hq⟩, ha, hf, hb⟩
    · exact (rmerged_yes2 o r w go gr ho hr h1 hm _ rfl _ rfl).mono fun e w' ⟨q, he, hq, ha, hf, hb⟩ => ⟨q, he, Or.inl ⟨h1, hq⟩, ha, hf, hb⟩
theorem rmergedN (o r : Rq) (w : World) (go : Good o) (gr : Good r) (h : togE o r = false) :
    Calls Tryd.prog 13 #[o.val, r.val] w fun e w' => e = .returned (.tuple #[noReq, .bool false]) ∧ Below w.heap.size w w' := by
  simp only [togE, Bool.or_eq_false_iff] at h
  cases h1 : (r.f + r.m == o.f)
  · exact rmerged_no o r w go gr h1 h.1
  · exact rmerged_no2 r o w gr go h1 h.2

/-- A request's cells in the midst of a block. -/
def SixO (w : World) (b p : Nat) (q : Rq) : Prop :=
  w.cell? ⟨b, p, none⟩ = some (.bool q.wr) ∧ w.cell? ⟨b, p + 1, none⟩ = some (.int .i64 q.f) ∧ w.cell? ⟨b, p + 2, none⟩ = some (.int .i64 q.m) ∧ w.cell? ⟨b, p + 3, none⟩ = some (.slice q.da q.data.length q.dc) ∧ w.cell? ⟨b, p + 4, none⟩ = some (.slice q.ta q.tags.length q.tc) ∧ w.cell? ⟨b, p + 5, none⟩ = some (.int .i64 q.born)
theorem SixO.later {w w' : World} {b p : Nat} {q : Rq} (h : SixO w b p q) (hb : Below w.heap.size w w') : SixO w' b p q := by
  obtain ⟨h0, h1, h2, h3, h4, h5⟩ := h
  exact ⟨cellA_later hb h0, cellA_later hb h1, cellA_later hb h2, cellA_later hb h3, cellA_later hb h4, cellA_later hb h5⟩
theorem SixO.drew {w : World} {b p : Nat} {q : Rq} (h : SixO w b p q) : SixO w.drew b p q := h
theorem SixO.alloc {w : World} {b p : Nat} {q : Rq} (h : SixO w b p q) (x : Obj) : SixO (w.alloc x) b p q := h.later (below1 w x)
theorem SixO.set {w : World} {b p : Nat} {q : Rq} (h : SixO w b p q) {c o : Nat} (hn : b ≠ c) (u : Value) : SixO (w.setCell ⟨c, o, none⟩ u) b p q := by
  obtain ⟨h0, h1, h2, h3, h4, h5⟩ := h
  have k : ∀ i, (w.setCell ⟨c, o, none⟩ u).cell? ⟨b, i, none⟩ = w.cell? ⟨b, i, none⟩ := fun i => World.cell?_setCell_other _ _ _ _ (fun e => hn (by injection e with e _; exact e.symm))
  exact ⟨(k _).trans h0, (k _).trans h1, (k _).trans h2, (k _).trans h3, (k _).trans h4, (k _).trans h5⟩
theorem NewReqs.later {base : Nat} {w w' : World} {a : Option Addr} {c : Nat} {l : List Rq} (h : NewReqs base w a c l) (hb : Below w.heap.size w w') : NewReqs base w' a c l :=
  ⟨h.here.later hb, h.cap, h.capM, h.nil, ownA_later h.own hb⟩

end Go.Proofs.YtpmjgofjdejeeaaDoor
