/- TopPart: of what was read of several sectors each has its own. The walk. -/
import Derived.Test.YtpmjgofjdejeeadDev11
namespace Go.Proofs.Ytpmjgofjdejeead
open Go.RowKit Go.BigFrame
attribute [local go_sem] Later.cell Later.frozen

theorem off_of {F : Nat → Prop} {w : World} {r : Rq} (h : r.At w) (hF : ∀ k, F k → w.heap.size ≤ k) : r.Off F :=
  ⟨fun he ad ha hk => by have h1 := strs_lt h.data he ha; have h2 := hF _ hk; omega, fun he ad ha hk => by have h1 := ints_lt h.tags he ha; have h2 := hF _ hk; omega⟩
theorem an0_foot {b k : Nat} (h : an0.foot b k) : k = b := by
  rcases h with h | ⟨p, hp, _⟩ | ⟨p, hp, _⟩
  · exact h
  · cases hp
  · cases hp
def rqX : Rq := ⟨false, 3, 1, none, 0, [], none, 0, [], 0⟩
theorem x_at (w : World) (b : Nat) (h : w.cell? ⟨b, 0, none⟩ = some (.string ⟨#[120]⟩)) : StrsAt w (some ⟨b, 0, none⟩) [⟨#[120]⟩] := by
  refine Or.inr ⟨b, 0, rfl, ?_⟩
  intro i hi
  match i, hi with
  | 0, _ => simpa using h
theorem readTo_at (d : Dl) (f n j : Nat) (h : j < n) : (readTo d f n).getD j ByteArray.empty = d.now.getD (f + j) ByteArray.empty := by
  unfold readTo
  rw [List.getD_eq_getElem?_getD, List.getElem?_map, List.getElem?_range h]
  rfl
/-- A result in a block of its own. -/
def ResBox (w : World) (q : Nat) (r : Rq) (xa : Option Addr) (n xc : Nat) (er : Int) : Prop := w.cell? ⟨q, 0, none⟩ = some (.bool r.wr) ∧ w.cell? ⟨q, 1, none⟩ = some (.int .i64 r.f) ∧ w.cell? ⟨q, 2, none⟩ = some (.int .i64 r.m) ∧ w.cell? ⟨q, 3, none⟩ = some (.slice r.da r.data.length r.dc) ∧ w.cell? ⟨q, 4, none⟩ = some (.slice r.ta r.tags.length r.tc) ∧ w.cell? ⟨q, 5, none⟩ = some (.int .i64 r.born) ∧ w.cell? ⟨q, 6, none⟩ = some (.slice xa n xc) ∧ w.cell? ⟨q, 7, none⟩ = some (.int .i64 er)
theorem ResBox.later {w w' : World} {q n xc : Nat} {r : Rq} {xa : Option Addr} {er : Int} (h : ResBox w q r xa n xc er) (hb : Below w.heap.size w w') : ResBox w' q r xa n xc er := by
  obtain ⟨h0, h1, h2, h3, h4, h5, h6, h7⟩ := h
  exact ⟨cell_later' hb h0, cell_later' hb h1, cell_later' hb h2, cell_later' hb h3, cell_later' hb h4, cell_later' hb h5, cell_later' hb h6, cell_later' hb h7⟩
theorem res_new (w : World) (T : TypeId) (r : Rq) (xa : Option Addr) (n xc : Nat) (er : Int) : ResBox (w.alloc (.cells #[.bool r.wr, .int .i64 r.f, .int .i64 r.m, .slice r.da r.data.length r.dc, .slice r.ta r.tags.length r.tc, .int .i64 r.born, .slice xa n xc, .int .i64 er] T)) w.heap.size r xa n xc er := by
  refine ⟨?_, ?_, ?_, ?_, ?_, ?_, ?_, ?_⟩ <;> simp
/-- A device of a law's own, that has no request: what was there stands. -/
structure Mine (w w2 : World) (b : Nat) (d : Dl) (a : An) (wr : World) : Prop where
  step : DStep b d0 an0 d a w2 wr
  none : d.busy = []
theorem Mine.below {w w2 wr : World} {b : Nat} {d : Dl} {a : An} (h : Mine w w2 b d a wr) (hb : w.heap.size ≤ b) (hw : Below w.heap.size w w2) : Below w.heap.size w wr :=
  hw.trans (h.step.only.below hw.size (fun k hk => by rw [an0_foot hk]; exact hb))
theorem Mine.foot {w w2 wr : World} {b : Nat} {d : Dl} {a : An} (h : Mine w w2 b d a wr) (hb : w.heap.size ≤ b) (hw : Below w.heap.size w w2) : ∀ k, a.foot b k → w.heap.size ≤ k := fun k hk =>
  (h.step.foot k hk).elim (fun e => by rw [an0_foot e]; exact hb) (fun h' => Nat.le_trans hw.size h')
end Go.Proofs.Ytpmjgofjdejeead
