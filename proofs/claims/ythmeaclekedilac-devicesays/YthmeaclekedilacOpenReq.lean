/- How requests, lists of requests and turns among the arguments of the laws read. -/
import Derived.Test.YthmeaclekedilacOpen
import Derived.Test.YthmeaclekedilacReq
import Derived.Deep.Slices
import Derived.Deep.Strs
namespace Go.Proofs.Ythmeaclekedilac
open Go.ChangeShapes Go.WideShapes Go.RowKit Go.Deep
set_option maxRecDepth 100000

theorem cellsReq : Try.prog.cellsOf 38 = 6 := by kernel_rfl
theorem cellsInt : Try.prog.cellsOf 3 = 1 := by kernel_rfl
theorem cellsStr : Try.prog.cellsOf 9 = 1 := by kernel_rfl
theorem cellsBool : Try.prog.cellsOf 4 = 1 := by kernel_rfl
theorem cellsStrs : Try.prog.cellsOf 35 = 1 := by kernel_rfl
theorem cellsInts : Try.prog.cellsOf 36 = 1 := by kernel_rfl

theorem spot_none {w : World} {a : Addr} {v : Value} (h : w.cell? (a.add 0) = some v) : a = ⟨a.block, a.off, none⟩ := by
  have : a.spot = none := by simpa [Addr.add] using World.cell?_spot h
  cases a; simp_all
theorem add_mk (b o i : Nat) : (Addr.add ⟨b, o, none⟩ i) = ⟨b, o + i, none⟩ := by
  unfold Addr.add; split
  · rename_i h; subst h; rfl
  · rfl

section
variable {H : Type} {enc : TypeId × Value → H} {W : World} {base b0 fuel : Nat} {spare : Nat → Bool} {held : Bool} {r : Reach} {v : Value} {d : DataW H} {p : List MemPlace} {x : DataW H × List MemPlace} {cs : List Value}

theorem openStrs (h : DataW.trod enc Try.prog W base spare held fuel 35 cs = some x) : ∃ a c xs, cs = [.slice a (List.length xs) c] ∧ StrsAt W a xs ∧ List.length xs ≤ 9223372036854775807 ∧ (a = none → c = 0) := by
  rcases open_strs Try.underlying35 Try.underlying9 cellsStr h with ⟨rfl, _⟩ | ⟨a, len, cap, m, Sx, rfl, _, hl, hm, hmm, _, hc⟩
  · exact ⟨none, 0, [], rfl, Or.inl rfl, by simp, fun _ => rfl⟩
  · have hlm : len ≤ m := by rw [hmm]; split <;> omega
    refine ⟨some a, cap, (List.range len).map Sx, by simp, ?_, by simp; unfold maxLen at hm; omega, by simp⟩
    rcases Nat.eq_zero_or_pos len with rfl | hp
    · exact Or.inl rfl
    · right
      have e := spot_none (hc 0 (by omega)).1
      refine ⟨a.block, a.off, by rw [← e], fun i hi => ?_⟩
      simp only [List.length_map, List.length_range] at hi
      have := (hc i (by omega)).1
      rw [e, add_mk] at this
      rw [this]; simp [List.getD, hi]
theorem openInts (h : DataW.trod enc Try.prog W base spare held fuel 36 cs = some x) : ∃ a c xs, cs = [.slice a (List.length xs) c] ∧ IntsAt W a xs ∧ List.length xs ≤ 9223372036854775807 ∧ (a = none → c = 0) := by
  rcases open_ints Try.underlying36 Try.underlying3 cellsInt h with ⟨rfl, _⟩ | ⟨a, len, cap, zs, rfl, _, hl, hm, hz, _, hc, _⟩
  · exact ⟨none, 0, [], rfl, Or.inl rfl, by simp, fun _ => rfl⟩
  · have hlm : len ≤ zs.length := by rw [hz]; split <;> omega
    refine ⟨some a, cap, zs.take len, by simp; omega, ?_, by simp; unfold maxLen at hm; omega, by simp⟩
    rcases Nat.eq_zero_or_pos len with rfl | hp
    · exact Or.inl (by simp)
    · right
      have e := spot_none (hc 0 (by omega))
      refine ⟨a.block, a.off, by rw [← e], fun i hi => ?_⟩
      simp only [List.length_take] at hi
      have := hc i (by omega)
      rw [e, add_mk] at this
      rw [this]
      simp [List.getD, show i < len by omega]

theorem fieldAt {fs : Array Field} {xs : List (DataW H × List MemPlace)} {n : Nat} (hf : ∀ (i : Nat) (f : Field), fs[i]? = some f → DataW.trod enc Try.prog W base spare held n f.type ((cs.drop f.offset).take (Try.prog.cellsOf f.type)) = xs[i]?)
    (i T o c : Nat) (h : (fs[i]?).map (fun f => (f.type, f.offset)) = some (T, o)) (hc : Try.prog.cellsOf T = c) (hi : i < xs.length) : ∃ y, DataW.trod enc Try.prog W base spare held n T ((cs.drop o).take c) = some y := by
  cases e : fs[i]? with
  | none => rw [e] at h; cases h
  | some f =>
    rw [e] at h
    simp only [Option.map_some, Option.some.injEq, Prod.mk.injEq] at h
    obtain ⟨rfl, rfl⟩ := h
    subst hc
    exact ⟨_, (hf i f e).trans (List.getElem?_eq_getElem hi)⟩

theorem six {cs : List Value} (h : cs.length = 6) : ∃ a b c d e f, cs = [a, b, c, d, e, f] := by
  match cs, h with
  | [a, b, c, d, e, f], _ => exact ⟨a, b, c, d, e, f, rfl⟩

theorem openReqCells (h : DataW.trod enc Try.prog W base spare held fuel 38 cs = some x) : ∃ q : Rq, cs = [q.cell 0, q.cell 1, q.cell 2, q.cell 3, q.cell 4, q.cell 5] ∧ q.At W := by
  obtain ⟨xs, n, _, _, hl, hlen, hf⟩ := DataW.trod_struct Try.underlying38 h
  rw [cellsReq] at hl
  obtain ⟨v0, v1, v2, v3, v4, v5, rfl⟩ := six hl
  have hlen' : xs.length = 5 := hlen
  obtain ⟨y0, f0⟩ := fieldAt hf 0 4 0 1 rfl cellsBool (by omega)
  obtain ⟨y1, f1⟩ := fieldAt hf 1 34 1 2 rfl cellsSpan (by omega)
  obtain ⟨y2, f2⟩ := fieldAt hf 2 35 3 1 rfl cellsStrs (by omega)
  obtain ⟨y3, f3⟩ := fieldAt hf 3 36 4 1 rfl cellsInts (by omega)
  obtain ⟨y4, f4⟩ := fieldAt hf 4 3 5 1 rfl cellsInt (by omega)
  obtain ⟨w, g0, _⟩ := DataW.trod_bool Try.underlying4 f0
  obtain ⟨zs, k, _, _, _, zlen, hz⟩ := DataW.trod_struct Try.underlying34 f1
  have zlen' : zs.length = 2 := zlen
  obtain ⟨z0, s0⟩ := fieldAt hz 0 3 0 1 rfl cellsInt (by omega)
  obtain ⟨z1, s1⟩ := fieldAt hz 1 3 1 1 rfl cellsInt (by omega)
  obtain ⟨f, g1, _, wf⟩ := DataW.trod_int Try.underlying3 s0
  obtain ⟨m, g2, _, wm⟩ := DataW.trod_int Try.underlying3 s1
  obtain ⟨da, dc, data, g3, hd, hd', hdn⟩ := openStrs f2
  obtain ⟨ta, tc, tags, g4, ht, ht', htn⟩ := openInts f3
  obtain ⟨born, g5, _, wb⟩ := DataW.trod_int Try.underlying3 f4
  simp only [List.drop, List.take, List.cons.injEq, and_true] at g0 g1 g2 g3 g4 g5
  subst g0 g1 g2 g3 g4 g5
  exact ⟨⟨w, f, m, da, dc, data, ta, tc, tags, born⟩, rfl, ⟨hd, ht, hd', ht', in64 wf, in64 wm, in64 wb, hdn, htn⟩⟩

theorem openReq (hv : Value.okWide Try.prog W r b0 38 v) (h : DataW.Trod enc Try.prog W base spare held 38 v d p) : ∃ q : Rq, v = q.val ∧ q.At W := by
  obtain ⟨cs, rfl, _⟩ := okWide_struct Try.underlying38 hv
  obtain ⟨fuel, hf⟩ := h
  obtain ⟨q, hq, hat⟩ := openReqCells hf
  refine ⟨q, ?_, hat⟩
  simp only [Value.cells] at hq
  have : cs = #[q.cell 0, q.cell 1, q.cell 2, q.cell 3, q.cell 4, q.cell 5] := by rw [← Array.toList_inj]; exact hq
  rw [this]; rfl

theorem openReqsC (hv : Value.okWide Try.prog W r b0 30 v) (h : DataW.Trod enc Try.prog W base spare held 30 v d p) : ∃ (l : List Rq) (a : Option Addr) (c : Nat), v = .slice a l.length c ∧ ReqsAt W a l ∧ l.length ≤ c ∧ c ≤ 9223372036854775807 ∧ (a = none → c = 0) := by
  obtain ⟨a, len, cap, rfl⟩ := okWide_slice Try.underlying30 hv
  obtain ⟨fuel, hf⟩ := h
  rcases open_slice Try.underlying30 hf with ⟨hcs, _⟩ | ⟨a', len', cap', m, n, D, Pl, hcs, _, hl, hm, hmm, _, hel⟩
  · simp [Value.cells] at hcs
    obtain ⟨rfl, rfl, rfl⟩ := hcs
    exact ⟨[], none, 0, rfl, ⟨Or.inl rfl, by simp, by simp⟩, by simp, by simp, fun _ => rfl⟩
  · simp [Value.cells] at hcs
    obtain ⟨rfl, rfl, rfl⟩ := hcs
    have hlm : len ≤ m := by rw [hmm]; split <;> omega
    rw [cellsReq] at hel
    have each : ∀ i, i < len → ∃ q : Rq, (∀ j, j < 6 → W.cell? ((a'.add (i * 6)).add j) = some (q.cell j)) ∧ q.At W := by
      intro i hi
      obtain ⟨cs, h1, h2⟩ := hel i (by omega)
      obtain ⟨q, hq, hat⟩ := openReqCells h2
      obtain ⟨_, _, h3⟩ := World.cells?_some h1
      refine ⟨q, fun j hj => ?_, hat⟩
      rw [h3 j hj, hq]
      match j, hj with
      | 0, _ => rfl
      | 1, _ => rfl
      | 2, _ => rfl
      | 3, _ => rfl
      | 4, _ => rfl
      | 5, _ => rfl
    have inh : Inhabited Rq := ⟨⟨false, 0, 0, none, 0, [], none, 0, [], 0⟩⟩
    obtain ⟨Q, hQ⟩ := choose_lt each
    have hm' : cap ≤ 9223372036854775807 := by unfold maxLen at hm; omega
    refine ⟨(List.range len).map Q, some a', cap, by simp, ⟨?_, ?_, by simp; omega⟩, by simpa using hl, hm', by simp⟩
    · rcases Nat.eq_zero_or_pos len with rfl | hp
      · exact Or.inl rfl
      · right
        have e : a' = ⟨a'.block, a'.off, none⟩ := by
          have h0 := (hQ 0 hp).1 0 (by omega)
          rw [Nat.zero_mul] at h0
          have h1 : a'.spot = none := by simpa [Addr.add] using World.cell?_spot h0
          cases a'; simp_all
        refine ⟨a'.block, a'.off, by rw [← e], fun i hi j hj => ?_⟩
        simp only [List.length_map, List.length_range] at hi
        have := (hQ i hi).1 j hj
        rw [e, add_mk, add_mk] at this
        rw [this]; simp
    · intro q hq
      simp only [List.mem_map, List.mem_range] at hq
      obtain ⟨i, hi, rfl⟩ := hq
      exact (hQ i hi).2

theorem openReqs (hv : Value.okWide Try.prog W r b0 30 v) (h : DataW.Trod enc Try.prog W base spare held 30 v d p) : ∃ (l : List Rq) (a : Option Addr) (c : Nat), v = .slice a l.length c ∧ ReqsAt W a l := by
  obtain ⟨l, a, c, h1, h2, _⟩ := openReqsC hv h
  exact ⟨l, a, c, h1, h2⟩
end
end Go.Proofs.Ythmeaclekedilac
