/- How lists of acts among the arguments of the laws read. -/
import Derived.Test.YthmeaclekedilacOpenReq
import Derived.Test.YthmeaclekedilacActs
namespace Go.Proofs.Ythmeaclekedilac
open Go.ChangeShapes Go.WideShapes Go.RowKit Go.Deep
set_option maxRecDepth 100000

theorem cellsAct : Try.prog.cellsOf 41 = 9 := by kernel_rfl
theorem cellsU64 : Try.prog.cellsOf 39 = 1 := by kernel_rfl
def InU64 (n : Int) : Prop := 0 ≤ n ∧ n ≤ 18446744073709551615
def ActsIn (l : List Ac) : Prop := ∀ x ∈ l, In64 x.n ∧ InU64 x.k
theorem inU64 {n : Int} (h : (Lit.int .u64 n).wf = true) : InU64 n := bounds_u64 h
section
variable {H : Type} {enc : TypeId × Value → H} {W : World} {base b0 fuel : Nat} {spare : Nat → Bool} {held : Bool} {r : Reach} {v : Value} {d : DataW H} {p : List MemPlace} {x : DataW H × List MemPlace} {cs : List Value}
theorem nine {cs : List Value} (h : cs.length = 9) : ∃ a b c d e f g i j, cs = [a, b, c, d, e, f, g, i, j] := by
  match cs, h with
  | [a, b, c, d, e, f, g, i, j], _ => exact ⟨a, b, c, d, e, f, g, i, j, rfl⟩
theorem openActCells (h : DataW.trod enc Try.prog W base spare held fuel 41 cs = some x) : ∃ q : Ac, cs = [q.cell 0, q.cell 1, q.cell 2, q.cell 3, q.cell 4, q.cell 5, q.cell 6, q.cell 7, q.cell 8] ∧ q.req.At W ∧ In64 q.n ∧ InU64 q.k := by
  obtain ⟨xs, n, _, _, hl, hlen, hf⟩ := DataW.trod_struct Try.underlying41 h
  rw [cellsAct] at hl
  obtain ⟨v0, v1, v2, v3, v4, v5, v6, v7, v8, rfl⟩ := nine hl
  have hlen' : xs.length = 4 := hlen
  obtain ⟨y0, f0⟩ := fieldAt hf 0 9 0 1 rfl cellsStr (by omega)
  obtain ⟨y1, f1⟩ := fieldAt hf 1 38 1 6 rfl cellsReq (by omega)
  obtain ⟨y2, f2⟩ := fieldAt hf 2 3 7 1 rfl cellsInt (by omega)
  obtain ⟨y3, f3⟩ := fieldAt hf 3 39 8 1 rfl cellsU64 (by omega)
  obtain ⟨s, g0, _⟩ := DataW.trod_string Try.underlying9 f0
  obtain ⟨q, hq, hat⟩ := openReqCells f1
  obtain ⟨nn, g2, _, wn⟩ := DataW.trod_int Try.underlying3 f2
  obtain ⟨kk, g3, _, wk⟩ := DataW.trod_int Try.underlying39 f3
  simp only [List.drop, List.take, List.cons.injEq, and_true] at g0 hq g2 g3
  obtain ⟨rfl, rfl, rfl, rfl, rfl, rfl⟩ := hq
  subst g0 g2 g3
  exact ⟨⟨s, q, nn, kk⟩, rfl, hat, in64 wn, inU64 wk⟩
theorem openActs (hv : Value.okWide Try.prog W r b0 22 v) (h : DataW.Trod enc Try.prog W base spare held 22 v d p) : ∃ (l : List Ac) (a : Option Addr) (c : Nat), v = .slice a l.length c ∧ ActsAt W a l ∧ ActsIn l := by
  obtain ⟨a, len, cap, rfl⟩ := okWide_slice Try.underlying22 hv
  obtain ⟨fuel, hf⟩ := h
  rcases open_slice Try.underlying22 hf with ⟨hcs, _⟩ | ⟨a', len', cap', m, n, D, Pl, hcs, _, hl, hm, hmm, _, hel⟩
  · simp [Value.cells] at hcs
    obtain ⟨rfl, rfl, rfl⟩ := hcs
    exact ⟨[], none, 0, rfl, ⟨Or.inl rfl, by simp, by simp⟩, fun x hx => by cases hx⟩
  · simp [Value.cells] at hcs
    obtain ⟨rfl, rfl, rfl⟩ := hcs
    have hlm : len ≤ m := by rw [hmm]; split <;> omega
    rw [cellsAct] at hel
    have each : ∀ i, i < len → ∃ q : Ac, (∀ j, j < 9 → W.cell? ((a'.add (i * 9)).add j) = some (q.cell j)) ∧ q.req.At W ∧ In64 q.n ∧ InU64 q.k := by
      intro i hi
      obtain ⟨cs, h1, h2⟩ := hel i (by omega)
      obtain ⟨q, hq, hat⟩ := openActCells h2
      obtain ⟨_, _, h3⟩ := World.cells?_some h1
      refine ⟨q, fun j hj => ?_, hat⟩
      rw [h3 j hj, hq]
      match j, hj with
      | 0, _ => rfl
      | 1, _ => rfl
      | 2, _ => rfl
      | 3, _ => rfl
      | 4, _ => rfl
      | 5, _ => rfl
      | 6, _ => rfl
      | 7, _ => rfl
      | 8, _ => rfl
    have inh : Inhabited Ac := ⟨⟨ByteArray.empty, ⟨false, 0, 0, none, 0, [], none, 0, [], 0⟩, 0, 0⟩⟩
    obtain ⟨Q, hQ⟩ := choose_lt each
    have hm' : cap ≤ 9223372036854775807 := by unfold maxLen at hm; omega
    refine ⟨(List.range len).map Q, some a', cap, by simp, ⟨?_, ?_, by simp; omega⟩, ?_⟩
    · rcases Nat.eq_zero_or_pos len with rfl | hp
      · exact Or.inl rfl
      · right
        have e : a' = ⟨a'.block, a'.off, none⟩ := by
          have h0 := (hQ 0 hp).1 0 (by omega)
          rw [Nat.zero_mul] at h0
          have h1 : a'.spot = none := by simpa [Addr.add] using World.cell?_spot h0
          cases a'; simp_all
        refine ⟨a'.block, a'.off, by rw [← e], fun i hi j hj => ?_⟩
        simp only [List.length_map, List.length_range] at hi
        have := (hQ i hi).1 j hj
        rw [e, add_mk, add_mk] at this
        rw [this]; simp
    · intro q hq
      simp only [List.mem_map, List.mem_range] at hq
      obtain ⟨i, hi, rfl⟩ := hq
      exact (hQ i hi).2.1
    · intro q hq
      simp only [List.mem_map, List.mem_range] at hq
      obtain ⟨i, hi, rfl⟩ := hq
      exact (hQ i hi).2.2
theorem openU64 (hv : Value.okWide Try.prog W r b0 39 v) (h : DataW.Trod enc Try.prog W base spare held 39 v d p) : ∃ n, v = .int .u64 n ∧ InU64 n := by
  obtain ⟨x, rfl, rfl, rfl, wx⟩ := open_int Try.underlying39 hv h
  exact ⟨x, rfl, inU64 wx⟩
end
end Go.Proofs.Ythmeaclekedilac
