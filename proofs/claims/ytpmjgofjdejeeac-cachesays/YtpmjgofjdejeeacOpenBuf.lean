/- How sectors at hand, texts and what is held among the arguments of the laws read. -/
import Derived.Test.YtpmjgofjdejeeacChecked
import Derived.Test.YtpmjgofjdejeeacBuf
import Derived.ProofKit
import Derived.OpenShut
import Derived.Lib.SmallJoins
import Derived.Deep.Slices
import Derived.Deep.Strs
set_option maxRecDepth 100000
namespace Go.Proofs.Ytpmjgofjdejeeac
open Go.ChangeShapes Go.WideShapes Go.RowKit Go.Deep

theorem own : ownKnob Try.prog.godebug = none := by kernel_rfl
theorem laidOut : laidOutB Try.prog = true := by kernel_rfl
theorem cellsBuf : Try.prog.cellsOf 72 = 4 := by kernel_rfl
theorem cellsIntB : Try.prog.cellsOf 3 = 1 := by kernel_rfl
theorem cellsStrB : Try.prog.cellsOf 9 = 1 := by kernel_rfl
theorem cellsBoolB : Try.prog.cellsOf 4 = 1 := by kernel_rfl
theorem in64B {n : Int} (h : (Lit.int .i64 n).wf = true) : In64 n := bounds_i64 h

theorem quad4 {cs : List Value} (h : cs.length = 4) : ∃ a b c d, cs = [a, b, c, d] := by
  match cs, h with
  | [a, b, c, d], _ => exact ⟨a, b, c, d, rfl⟩
/-- The cells of 32 bools. -/
def IsHeld (hs : Array Value) (H : Nat → Bool) : Prop := hs.size = 32 ∧ ∀ i, i < 32 → hs[i]? = some (.bool (H i))

section
variable {H : Type} {enc : TypeId × Value → H} {W : World} {base b0 fuel : Nat} {spare : Nat → Bool} {held : Bool} {r : Reach} {v : Value} {d : DataW H} {p : List MemPlace} {x : DataW H × List MemPlace} {cs : List Value}

theorem openInt (hv : Value.okWide Try.prog W r b0 3 v) (h : DataW.Trod enc Try.prog W base spare held 3 v d p) : ∃ n, v = .int .i64 n ∧ In64 n := by
  obtain ⟨x, rfl, rfl, rfl, wx⟩ := open_int Try.underlying3 hv h
  exact ⟨x, rfl, in64B wx⟩
theorem openString (hv : Value.okWide Try.prog W r b0 9 v) (h : DataW.Trod enc Try.prog W base spare held 9 v d p) : ∃ s : ByteArray, v = .string s ∧ s.size ≤ maxLen := by
  obtain ⟨s, rfl⟩ := okWide_string Try.underlying9 hv
  obtain ⟨fuel, hf⟩ := h
  obtain ⟨s', h, hx, hs⟩ := DataW.trod_string Try.underlying9 hf
  simp [Value.cells] at h
  subst h
  exact ⟨s, rfl, hs⟩

theorem fieldAtB {fs : Array Field} {xs : List (DataW H × List MemPlace)} {n : Nat} (hf : ∀ (i : Nat) (f : Field), fs[i]? = some f → DataW.trod enc Try.prog W base spare held n f.type ((cs.drop f.offset).take (Try.prog.cellsOf f.type)) = xs[i]?)
    (i T o c : Nat) (h : (fs[i]?).map (fun f => (f.type, f.offset)) = some (T, o)) (hc : Try.prog.cellsOf T = c) (hi : i < xs.length) : ∃ y, DataW.trod enc Try.prog W base spare held n T ((cs.drop o).take c) = some y := by
  cases e : fs[i]? with
  | none => rw [e] at h; cases h
  | some f =>
    rw [e] at h
    simp only [Option.map_some, Option.some.injEq, Prod.mk.injEq] at h
    obtain ⟨rfl, rfl⟩ := h
    subst hc
    exact ⟨_, (hf i f e).trans (List.getElem?_eq_getElem hi)⟩

theorem openBufCells (h : DataW.trod enc Try.prog W base spare held fuel 72 cs = some x) : ∃ q : Bf, cs = [q.cell 0, q.cell 1, q.cell 2, q.cell 3] ∧ In64 q.pl ∧ In64 q.used ∧ q.data.size ≤ maxLen := by
  obtain ⟨xs, n, _, _, hl, hlen, hf⟩ := DataW.trod_struct Try.underlying72 h
  rw [cellsBuf] at hl
  obtain ⟨v0, v1, v2, v3, rfl⟩ := quad4 hl
  have hlen' : xs.length = 4 := hlen
  obtain ⟨y0, f0⟩ := fieldAtB hf 0 3 0 1 rfl cellsIntB (by omega)
  obtain ⟨y1, f1⟩ := fieldAtB hf 1 9 1 1 rfl cellsStrB (by omega)
  obtain ⟨y2, f2⟩ := fieldAtB hf 2 4 2 1 rfl cellsBoolB (by omega)
  obtain ⟨y3, f3⟩ := fieldAtB hf 3 3 3 1 rfl cellsIntB (by omega)
  obtain ⟨a, g0, _, wa⟩ := DataW.trod_int Try.underlying3 f0
  obtain ⟨s, g1, _, ws⟩ := DataW.trod_string Try.underlying9 f1
  obtain ⟨b, g2, _⟩ := DataW.trod_bool Try.underlying4 f2
  obtain ⟨u, g3, _, wu⟩ := DataW.trod_int Try.underlying3 f3
  simp only [List.drop, List.take, List.cons.injEq, and_true] at g0 g1 g2 g3
  subst g0 g1 g2 g3
  exact ⟨⟨a, s, b, u⟩, rfl, in64B wa, in64B wu, ws⟩

theorem openBuf (hv : Value.okWide Try.prog W r b0 72 v) (h : DataW.Trod enc Try.prog W base spare held 72 v d p) : ∃ q : Bf, v = q.val ∧ In64 q.pl ∧ In64 q.used ∧ q.data.size ≤ maxLen := by
  obtain ⟨cs, rfl, _⟩ := okWide_struct Try.underlying72 hv
  obtain ⟨fuel, hf⟩ := h
  obtain ⟨q, hq, hat⟩ := openBufCells hf
  refine ⟨q, ?_, hat⟩
  simp only [Value.cells] at hq
  have : cs = #[q.cell 0, q.cell 1, q.cell 2, q.cell 3] := by rw [← Array.toList_inj]; exact hq
  rw [this]; rfl

theorem openBufs (hv : Value.okWide Try.prog W r b0 70 v) (h : DataW.Trod enc Try.prog W base spare held 70 v d p) : ∃ (l : List Bf) (a : Option Addr) (c : Nat), v = .slice a l.length c ∧ BufsAt W a l ∧ l.length ≤ c ∧ c ≤ 9223372036854775807 ∧ (a = none → c = 0) := by
  obtain ⟨a, len, cap, rfl⟩ := okWide_slice Try.underlying70 hv
  obtain ⟨fuel, hf⟩ := h
  rcases open_slice Try.underlying70 hf with ⟨hcs, _⟩ | ⟨a', len', cap', m, n, D, Pl, hcs, _, hl, hm, hmm, _, hel⟩
  · simp [Value.cells] at hcs
    obtain ⟨rfl, rfl, rfl⟩ := hcs
    exact ⟨[], none, 0, rfl, ⟨Or.inl rfl, by simp⟩, by simp, by simp, fun _ => rfl⟩
  · simp [Value.cells] at hcs
    obtain ⟨rfl, rfl, rfl⟩ := hcs
    have hlm : len ≤ m := by rw [hmm]; split <;> omega
    rw [cellsBuf] at hel
    have each : ∀ i, i < len → ∃ q : Bf, (∀ j, j < 4 → W.cell? ((a'.add (i * 4)).add j) = some (q.cell j)) := by
      intro i hi
      obtain ⟨cs, h1, h2⟩ := hel i (by omega)
      obtain ⟨q, hq, _⟩ := openBufCells h2
      obtain ⟨_, _, h3⟩ := World.cells?_some h1
      refine ⟨q, fun j hj => ?_⟩
      rw [h3 j hj, hq]
      match j, hj with
      | 0, _ => rfl
      | 1, _ => rfl
      | 2, _ => rfl
      | 3, _ => rfl
    have inh : Inhabited Bf := ⟨⟨0, ByteArray.empty, false, 0⟩⟩
    obtain ⟨Q, hQ⟩ := choose_lt each
    have hm' : cap ≤ 9223372036854775807 := by unfold maxLen at hm; omega
    refine ⟨(List.range len).map Q, some a', cap, by simp, ⟨?_, by simp; omega⟩, by simpa using hl, hm', by simp⟩
    rcases Nat.eq_zero_or_pos len with rfl | hp
    · exact Or.inl rfl
    · right
      have e : a' = ⟨a'.block, a'.off, none⟩ := by
        have h0 := hQ 0 hp 0 (by omega)
        rw [Nat.zero_mul] at h0
        have h1 : a'.spot = none := by simpa [Addr.add] using World.cell?_spot h0
        cases a'; simp_all
      refine ⟨a'.block, a'.off, by rw [← e], fun i hi j hj => ?_⟩
      simp only [List.length_map, List.length_range] at hi
      have := hQ i hi j hj
      rw [e, addB_mk, addB_mk] at this
      rw [this]; simp

theorem okWide_array' {n : Nat} {e : TypeId} {t : TypeId} (ht : Try.prog.underlying t = some (.array n e)) (h : Value.okWide Try.prog W r b0 t v) : ∃ cs, v = .agg cs := by
  simp only [Value.okWide, ht] at h
  obtain ⟨cs, h1, _⟩ := h
  exact ⟨cs, h1⟩
theorem openHeld (hv : Value.okWide Try.prog W r b0 73 v) (h : DataW.Trod enc Try.prog W base spare held 73 v d p) : ∃ (hs : Array Value) (B : Nat → Bool), v = .agg hs ∧ IsHeld hs B := by
  obtain ⟨hs, rfl⟩ := okWide_array' Try.underlying73 hv
  obtain ⟨fuel, hf⟩ := h
  obtain ⟨xs, m, _, _, hlen, hxl, hel⟩ := DataW.trod_array Try.underlying73 hf
  have hz : hs.size = 32 := by
    have : (Value.agg hs).cells.toList.length = 32 := hlen.trans (by kernel_rfl)
    simpa [Value.cells] using this
  have each : ∀ i, i < 32 → ∃ b : Bool, hs[i]? = some (.bool b) := by
    intro i hi
    have h1 := hel i hi
    rw [cellsBoolB, List.getElem?_eq_getElem (by omega)] at h1
    obtain ⟨b, g, _⟩ := DataW.trod_bool Try.underlying4 h1
    refine ⟨b, ?_⟩
    simp only [Value.cells, Nat.mul_one] at g
    have h2 : (hs.toList.drop i)[0]? = some (.bool b) := by
      have h3 : ((hs.toList.drop i).take 1)[0]? = some (.bool b) := by rw [g]; rfl
      rwa [List.getElem?_take, if_pos (by omega)] at h3
    rw [List.getElem?_drop, Nat.add_zero, Array.getElem?_toList] at h2
    exact h2
  obtain ⟨B, hB⟩ := choose_lt each
  exact ⟨hs, B, rfl, hz, hB⟩
end
end Go.Proofs.Ytpmjgofjdejeeac
