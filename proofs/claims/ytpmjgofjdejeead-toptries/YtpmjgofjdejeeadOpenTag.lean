/- How a request reads whose tags' range matters. -/
import Derived.Test.YtpmjgofjdejeeadOpenReq
namespace Go.Proofs.Ytpmjgofjdejeead
open Go.ChangeShapes Go.WideShapes Go.RowKit Go.Deep
set_option maxRecDepth 100000
section
variable {H : Type} {enc : TypeId × Value → H} {W : World} {base b0 fuel : Nat} {spare : Nat → Bool} {held : Bool} {r : Reach} {v : Value} {d : DataW H} {p : List MemPlace} {x : DataW H × List MemPlace} {cs : List Value}
theorem openIntsT (h : DataW.trod enc Try.prog W base spare held fuel 25 cs = some x) : ∃ a c xs, cs = [.slice a (List.length xs) c] ∧ IntsAt W a xs ∧ List.length xs ≤ 9223372036854775807 ∧ (a = none → c = 0) ∧ ∀ t ∈ xs, In64 t := by
  rcases open_ints Try.underlying25 Try.underlying3 cellsInt h with ⟨rfl, _⟩ | ⟨a, len, cap, zs, rfl, _, hl, hm, hz, _, hc, hwf⟩
  · exact ⟨none, 0, [], rfl, Or.inl rfl, by simp, fun _ => rfl, fun t ht => by cases ht⟩
  · have hlm : len ≤ zs.length := by rw [hz]; split <;> omega
    refine ⟨some a, cap, zs.take len, by simp; omega, ?_, by simp; unfold maxLen at hm; omega, by simp, fun t ht => in64 (hwf t (List.mem_of_mem_take ht))⟩
    rcases Nat.eq_zero_or_pos len with rfl | hp
    · exact Or.inl (by simp)
    · right
      have e := spot_none (hc 0 (by omega))
      refine ⟨a.block, a.off, by rw [← e], fun i hi => ?_⟩
      simp only [List.length_take] at hi
      have := hc i (by omega)
      rw [e, add_mk] at this
      rw [this]
      simp [List.getD, show i < len by omega]
theorem openReqCellsT (h : DataW.trod enc Try.prog W base spare held fuel 27 cs = some x) : ∃ q : Rq, cs = [q.cell 0, q.cell 1, q.cell 2, q.cell 3, q.cell 4, q.cell 5] ∧ q.At W ∧ ∀ t ∈ q.tags, In64 t := by
  obtain ⟨xs, n, _, _, hl, hlen, hf⟩ := DataW.trod_struct Try.underlying27 h
  rw [cellsReq] at hl
  obtain ⟨v0, v1, v2, v3, v4, v5, rfl⟩ := six hl
  have hlen' : xs.length = 5 := hlen
  obtain ⟨y0, f0⟩ := fieldAt hf 0 4 0 1 rfl cellsBool (by omega)
  obtain ⟨y1, f1⟩ := fieldAt hf 1 23 1 2 rfl cellsSpan (by omega)
  obtain ⟨y2, f2⟩ := fieldAt hf 2 24 3 1 rfl cellsStrs (by omega)
  obtain ⟨y3, f3⟩ := fieldAt hf 3 25 4 1 rfl cellsInts (by omega)
  obtain ⟨y4, f4⟩ := fieldAt hf 4 3 5 1 rfl cellsInt (by omega)
  obtain ⟨w, g0, _⟩ := DataW.trod_bool Try.underlying4 f0
  obtain ⟨zs, k, _, _, _, zlen, hz⟩ := DataW.trod_struct Try.underlying23 f1
  have zlen' : zs.length = 2 := zlen
  obtain ⟨z0, s0⟩ := fieldAt hz 0 3 0 1 rfl cellsInt (by omega)
  obtain ⟨z1, s1⟩ := fieldAt hz 1 3 1 1 rfl cellsInt (by omega)
  obtain ⟨f, g1, _, wf⟩ := DataW.trod_int Try.underlying3 s0
  obtain ⟨m, g2, _, wm⟩ := DataW.trod_int Try.underlying3 s1
  obtain ⟨da, dc, data, g3, hd, hd', hdn⟩ := openStrs f2
  obtain ⟨ta, tc, tags, g4, ht, ht', htn, htw⟩ := openIntsT f3
  obtain ⟨born, g5, _, wb⟩ := DataW.trod_int Try.underlying3 f4
  simp only [List.drop, List.take, List.cons.injEq, and_true] at g0 g1 g2 g3 g4 g5
  subst g0 g1 g2 g3 g4 g5
  exact ⟨⟨w, f, m, da, dc, data, ta, tc, tags, born⟩, rfl, ⟨hd, ht, hd', ht', in64 wf, in64 wm, in64 wb, hdn, htn⟩, htw⟩
theorem openReqT (hv : Value.okWide Try.prog W r b0 27 v) (h : DataW.Trod enc Try.prog W base spare held 27 v d p) : ∃ q : Rq, v = q.val ∧ (q.At W ∧ ∀ t ∈ q.tags, In64 t) := by
  obtain ⟨cs, rfl, _⟩ := okWide_struct Try.underlying27 hv
  obtain ⟨fuel, hf⟩ := h
  obtain ⟨q, hq, hat⟩ := openReqCellsT hf
  refine ⟨q, ?_, hat⟩
  simp only [Value.cells] at hq
  have : cs = #[q.cell 0, q.cell 1, q.cell 2, q.cell 3, q.cell 4, q.cell 5] := by rw [← Array.toList_inj]; exact hq
  rw [this]; rfl
end
end Go.Proofs.Ytpmjgofjdejeead
