/- queue.Add: what C1 says. -/
import Derived.Test.YtpmjgofjdejeeaaDoorMerge9
import Derived.Test.YtpmjgofjdejeeaaDoorMeets
import Derived.Deep.RegionHeld3
namespace Go.Proofs.YtpmjgofjdejeeaaDoor
open Go.RowKit Go.BigFrame
attribute [local go_sem] Later.cell Later.frozen

/-- Do two go together, either way round? -/
def togE (o r : Rq) : Bool := togB o r || togB r o
/-- Both as one, the one with the lower sectors first. -/
def BothE (o r q : Rq) : Prop := (togB o r = true ∧ IsBoth o r q) ∨ (togB o r = false ∧ togB r o = true ∧ IsBoth r o q)
theorem BothE.joined {o r q : Rq} (go : Good o) (gr : Good r) (h : BothE o r q) : Joined o r q := by
  rcases h with ⟨h1, h2⟩ | ⟨_, h1, h2⟩
  · exact h2.joined go gr h1
  · exact (h2.joined gr go h1).swap
theorem mergeE (o r : Rq) (w : World) (go : Good o) (gr : Good r) (ho : o.At w) (hr : r.At w) (h : togE o r = true) :
    Calls Tryd.prog 12 #[o.val, r.val] w fun e w' => ∃ q : Rq, e = .returned (.tuple #[q.val, .bool true]) ∧ BothE o r q ∧ q.At w' ∧ Below w.heap.size w w' := by
  cases h1 : togB o r
  · have h2 : togB r o = true := by simpa [togE, h1] using h
    exact (merge_true' r o w gr go hr ho h2).mono fun e w' ⟨q, he, hq, ha, hb⟩ => ⟨q, he, Or.inr ⟨h1, h2, hq⟩, ha, hb⟩
  · exact (merge_true o r w go gr ho hr h1).mono fun e w' ⟨q, he, hq, ha, hb⟩ => ⟨q, he, Or.inl ⟨h1, hq⟩, ha, hb⟩
theorem mergeN (o r : Rq) (w : World) (go : Good o) (gr : Good r) (h : togE o r = false) :
    Calls Tryd.prog 12 #[o.val, r.val] w fun e w' => e = .returned (.tuple #[noReq, .bool false]) ∧ Below w.heap.size w w' := by
  simp only [togE, Bool.or_eq_false_iff] at h
  exact merge_false o r w go gr h.1 h.2

def meetsB (r o : Rq) : Bool := meetB o.f o.m r.f r.m

theorem six_newA (w : World) (T : TypeId) (a : Rq) : Six (w.alloc (.cells #[.bool a.wr, .int .i64 a.f, .int .i64 a.m, .slice a.da a.data.length a.dc, .slice a.ta a.tags.length a.tc, .int .i64 a.born] T)) w.heap.size a := by
  refine ⟨?_, ?_, ?_, ?_, ?_, ?_⟩ <;> simp
theorem errOfA {n : Int} (h : ¬ n = 0) : errOf n = .iface 23 (.int .i64 n) := by rw [errOf, if_neg h]
theorem rcheck_nilA (r : Rq) (w : World) (hr : r.At w) (hn : faultR r = 0) : Calls Tryd.prog 10 #[r.val] w fun e w' => e = .returned .nilIface ∧ Below w.heap.size w w' := rcheck_any r w hr 0 hn
theorem rcheck_errA (r : Rq) (w : World) (hr : r.At w) (n : Int) (hn : faultR r = n) (h0 : ¬ n = 0) : Calls Tryd.prog 10 #[r.val] w fun e w' => e = .returned (.iface 23 (.int .i64 n)) ∧ Below w.heap.size w w' := by
  have := rcheck_any r w hr n hn
  rwa [errOfA h0] at this

def set6o (w : World) (b p : Nat) (v0 v1 v2 v3 v4 v5 : Value) : World := (((((w.setCell ⟨b, p, none⟩ v0).setCell ⟨b, p + 1, none⟩ v1).setCell ⟨b, p + 2, none⟩ v2).setCell ⟨b, p + 3, none⟩ v3).setCell ⟨b, p + 4, none⟩ v4).setCell ⟨b, p + 5, none⟩ v5
theorem set6o_out {w : World} {b p : Nat} {v0 v1 v2 v3 v4 v5 : Value} {o : Nat} (h : o < p ∨ p + 6 ≤ o) : (set6o w b p v0 v1 v2 v3 v4 v5).cell? ⟨b, o, none⟩ = w.cell? ⟨b, o, none⟩ := by
  have ne : ∀ i : Nat, i < 6 → ∀ (W : World) (u : Value), (W.setCell ⟨b, p + i, none⟩ u).cell? ⟨b, o, none⟩ = W.cell? ⟨b, o, none⟩ := fun i hi W u => World.cell?_setCell_other _ _ _ _ (fun e => by injection e with _ e _; omega)
  unfold set6o
  rw [ne 5 (by decide), ne 4 (by decide), ne 3 (by decide), ne 2 (by decide), ne 1 (by decide)]
  exact ne 0 (by decide) _ _
theorem set6o_in {w : World} {b p : Nat} (v : Nat → Value) (h : ∀ j, j < 6 → ∃ u, w.cell? ⟨b, p + j, none⟩ = some u) (j : Nat) (hj : j < 6) : (set6o w b p (v 0) (v 1) (v 2) (v 3) (v 4) (v 5)).cell? ⟨b, p + j, none⟩ = some (v j) := by
  have ne : ∀ i j : Nat, i ≠ j → ∀ (W : World) (u : Value), (W.setCell ⟨b, p + i, none⟩ u).cell? ⟨b, p + j, none⟩ = W.cell? ⟨b, p + j, none⟩ := fun i j hij W u => World.cell?_setCell_other _ _ _ _ (fun e => hij (by injection e with _ e _; omega))
  have ne0 : ∀ j : Nat, 0 ≠ j → ∀ (W : World) (u : Value), (W.setCell ⟨b, p, none⟩ u).cell? ⟨b, p + j, none⟩ = W.cell? ⟨b, p + j, none⟩ := fun j hj W u => ne 0 j hj W u
  obtain ⟨u, hu⟩ := h j hj
  unfold set6o
  match j, hj with
  | 0, _ => rw [ne 5 0 (by decide), ne 4 0 (by decide), ne 3 0 (by decide), ne 2 0 (by decide), ne 1 0 (by decide)]; exact World.cell?_setCell_same _ _ _ hu
  | 1, _ => rw [ne 5 1 (by decide), ne 4 1 (by decide), ne 3 1 (by decide), ne 2 1 (by decide)]; exact World.cell?_setCell_same _ _ _ ((ne0 1 (by decide) _ _).trans hu)
  | 2, _ => rw [ne 5 2 (by decide), ne 4 2 (by decide), ne 3 2 (by decide)]; exact World.cell?_setCell_same _ _ _ ((ne 1 2 (by decide) _ _).trans ((ne0 2 (by decide) _ _).trans hu))
  | 3, _ => rw [ne 5 3 (by decide), ne 4 3 (by decide)]; exact World.cell?_setCell_same _ _ _ ((ne 2 3 (by decide) _ _).trans ((ne 1 3 (by decide) _ _).trans ((ne0 3 (by decide) _ _).trans hu)))
  | 4, _ => rw [ne 5 4 (by decide)]; exact World.cell?_setCell_same _ _ _ ((ne 3 4 (by decide) _ _).trans ((ne 2 4 (by decide) _ _).trans ((ne 1 4 (by decide) _ _).trans ((ne0 4 (by decide) _ _).trans hu))))
  | 5, _ => exact World.cell?_setCell_same _ _ _ ((ne 4 5 (by decide) _ _).trans ((ne 3 5 (by decide) _ _).trans ((ne 2 5 (by decide) _ _).trans ((ne 1 5 (by decide) _ _).trans ((ne0 5 (by decide) _ _).trans hu)))))
/-- One of a list is written over. -/
theorem ReqsAt.put {w W : World} {b k : Nat} {l : List Rq} {q : Rq} (h : ReqsAt w (some ⟨b, 0, none⟩) l) (hk : k < l.length) (hat : ∀ r ∈ l, r.At W) (hq : q.At W) (e : W = set6o w b (k * 6) (q.cell 0) (q.cell 1) (q.cell 2) (q.cell 3) (q.cell 4) (q.cell 5)) : ReqsAt W (some ⟨b, 0, none⟩) (l.set k q) := by
  rcases h.1 with rfl | ⟨b', o', ha, hc⟩
  · exact absurd hk (Nat.not_lt_zero _)
  · simp only [Option.some.injEq, Addr.mk.injEq, and_true] at ha
    obtain ⟨rfl, rfl⟩ := ha
    refine ⟨Or.inr ⟨b, 0, rfl, fun i hi m hm => ?_⟩, fun r hr => ?_, by rw [List.length_set]; exact h.2.2⟩
    · have hi' : i < l.length := by simpa using hi
      by_cases ik : i = k
      · subst ik
        rw [List.getElem_set_self, e, Nat.zero_add]
        exact set6o_in (fun j => q.cell j) (fun j hj => ⟨_, by have := hc i hi' j hj; rwa [Nat.zero_add] at this⟩) m hm
      · rw [List.getElem_set_ne (fun h => ik h.symm), e, set6o_out (by omega)]
        exact hc i hi' m hm
    · rcases List.mem_or_eq_of_mem_set hr with hr | rfl
      · exact hat r hr
      · exact hq
end Go.Proofs.YtpmjgofjdejeeaaDoor
