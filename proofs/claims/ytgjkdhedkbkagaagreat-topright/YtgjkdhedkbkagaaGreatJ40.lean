/- How requests, lists of requests and turns among the arguments of the laws read. -/
import Derived.Test.YtgjkdhedkbkagaaGreatJ39
import Derived.Test.YtgjkdhedkbkagaaGreatJ1
import Derived.Deep.Slices
import Derived.Deep.Strs
import Derived.Test.YtgjkdhedkbkagaaGreatJ38
namespace Go.Proofs.YtgjkdhedkbkagaaGreat
open Go.ChangeShapes Go.WideShapes Go.RowKit Go.Deep
set_option maxRecDepth 100000
set_option maxRecDepth 100000

theorem cellsReq : Tryz.prog.cellsOf 44 = 6 := by kernel_rfl
theorem cellsInt : Tryz.prog.cellsOf 3 = 1 := by kernel_rfl
theorem cellsStr : Tryz.prog.cellsOf 9 = 1 := by kernel_rfl
theorem cellsBool : Tryz.prog.cellsOf 4 = 1 := by kernel_rfl
theorem cellsStrs : Tryz.prog.cellsOf 41 = 1 := by kernel_rfl
theorem cellsInts : Tryz.prog.cellsOf 42 = 1 := by kernel_rfl

theorem spot_none {w : World} {a : Addr} {v : Value} (h : w.cell? (a.add 0) = some v) : a = ⟨a.block, a.off, none⟩ := by
  have : a.spot = none := by simpa [Addr.add] using World.cell?_spot h
  cases a; simp_all
theorem add_mk (b o i : Nat) : (Addr.add ⟨b, o, none⟩ i) = ⟨b, o + i, none⟩ := by
  unfold Addr.add; split
  · rename_i h; subst h; rfl
  · rfl

section
variable {H : Type} {enc : TypeId × Value → H} {W : World} {base b0 fuel : Nat} {spare : Nat → Bool} {held : Bool} {r : Reach} {v : Value} {d : DataW H} {p : List MemPlace} {x : DataW H × List MemPlace} {cs : List Value}

theorem openStrs (h : DataW.trod enc Tryz.prog W base spare held fuel 41 cs = some x) : ∃ a c xs, cs = [.slice a (List.length xs) c] ∧ StrsAt W a xs ∧ List.length xs ≤ 9223372036854775807 ∧ (a = none → c = 0) := by
  rcases open_strs Tryz.underlying41 Tryz.underlying9 cellsStr h with ⟨rfl, _⟩ | ⟨a, len, cap, m, Sx, rfl, _, hl, hm, hmm, _, hc⟩
  · exact ⟨none, 0, [], rfl, Or.inl rfl, by simp, fun _ => rfl⟩
  · have hlm : len ≤ m := by rw [hmm]; split <;> omega
    refine ⟨some a, cap, (List.range len).map Sx, by simp, ?_, by simp; unfold maxLen at hm; omega, by simp⟩
    rcases Nat.eq_zero_or_pos len with rfl | hp
    · exact Or.inl rfl
    · right
      have e := spot_none (hc 0 (by omega)).1
      refine ⟨a.block, a.off, by rw [← e], fun i hi => ?_⟩
      simp only [List.length_map, List.length_range] at hi
      have := (hc i (by omega)).1
      rw [e, add_mk] at this
      rw [this]; simp [List.getD, hi]
theorem openInts (h : DataW.trod enc Tryz.prog W base spare held fuel 42 cs = some x) : ∃ a c xs, cs = [.slice a (List.length xs) c] ∧ IntsAt W a xs ∧ List.length xs ≤ 9223372036854775807 ∧ (a = none → c = 0) := by
  rcases open_ints Tryz.underlying42 Tryz.underlying3 cellsInt h with ⟨rfl, _⟩ | ⟨a, len, cap, zs, rfl, _, hl, hm, hz, _, hc, _⟩
  · exact ⟨none, 0, [], rfl, Or.inl rfl, by simp, fun _ => rfl⟩
  · have hlm : len ≤ zs.length := by rw [hz]; split <;> omega
    refine ⟨some a, cap, zs.take len, by simp; omega, ?_, by simp; unfold maxLen at hm; omega, by simp⟩
    rcases Nat.eq_zero_or_pos len with rfl | hp
    · exact Or.inl (by simp)
    · right
      have e := spot_none (hc 0 (by omega))
      refine ⟨a.block, a.off, by rw [← e], fun i hi => ?_⟩
      simp only [List.length_take] at hi
      have := hc i (by omega)
      rw [e, add_mk] at this
      rw [this]
      simp [List.getD, show i < len by omega]

theorem fieldAt {fs : Array Field} {xs : List (DataW H × List MemPlace)} {n : Nat} (hf : ∀ (i : Nat) (f : Field), fs[i]? = some f → DataW.trod enc Tryz.prog W base spare held n f.type ((cs.drop f.offset).take (Tryz.prog.cellsOf f.type)) = xs[i]?)
    (i T o c : Nat) (h : (fs[i]?).map (fun f => (f.type, f.offset)) = some (T, o)) (hc : Tryz.prog.cellsOf T = c) (hi : i < xs.length) : ∃ y, DataW.trod enc Tryz.prog W base spare held n T ((cs.drop o).take c) = some y := by
  cases e : fs[i]? with
  | none => rw [e] at h; cases h
  | some f =>
    rw [e] at h
    simp only [Option.map_some, Option.some.injEq, Prod.mk.injEq] at h
    obtain ⟨rfl, rfl⟩ := h
    subst hc
    exact ⟨_, (hf i f e).trans (List.getElem?_eq_getElem hi)⟩

theorem six {cs : List Value} (h : cs.length = 6) : ∃ a b c d e f, cs = [a, b, c, d, e, f] := by
  match cs, h with
  | [a, b, c, d, e, f], _ => exact ⟨a, b, c, d, e, f, rfl⟩

theorem openReqCells (h : DataW.trod enc Tryz.prog W base spare held fuel 44 cs = some x) : ∃ q : Rq, cs = [q.cell 0, q.cell 1, q.cell 2, q.cell 3, q.cell 4, q.cell 5] ∧ q.At W := by
  obtain ⟨xs, n, _, _, hl, hlen, hf⟩ := DataW.trod_struct Tryz.underlying44 h
  rw [cellsReq] at hl
  obtain ⟨v0, v1, v2, v3, v4, v5, rfl⟩ := six hl
  have hlen' : xs.length = 5 := hlen
  obtain ⟨y0, f0⟩ := fieldAt hf 0 4 0 1 rfl cellsBool (by omega)
  obtain ⟨y1, f1⟩ := fieldAt hf 1 40 1 2 rfl cellsSpan (by omega)
  obtain ⟨y2, f2⟩ := fieldAt hf 2 41 3 1 rfl cellsStrs (by omega)
  obtain ⟨y3, f3⟩ := fieldAt hf 3 42 4 1 rfl cellsInts (by omega)
  obtain ⟨y4, f4⟩ := fieldAt hf 4 3 5 1 rfl cellsInt (by omega)
  obtain ⟨w, g0, _⟩ := DataW.trod_bool Tryz.underlying4 f0
  obtain ⟨zs, k, _, _, _, zlen, hz⟩ := DataW.trod_struct Tryz.underlying40 f1
  have zlen' : zs.length = 2 := zlen
  obtain ⟨z0, s0⟩ := fieldAt hz 0 3 0 1 rfl cellsInt (by omega)
  obtain ⟨z1, s1⟩ := fieldAt hz 1 3 1 1 rfl cellsInt (by omega)
  obtain ⟨f, g1, _, wf⟩ := DataW.trod_int Tryz.underlying3 s0
  obtain ⟨m, g2, _, wm⟩ := DataW.trod_int Tryz.underlying3 s1
  obtain ⟨da, dc, data, g3, hd, hd', hdn⟩ := openStrs f2
  obtain ⟨ta, tc, tags, g4, ht, ht', htn⟩ := openInts f3
  obtain ⟨born, g5, _, wb⟩ := DataW.trod_int Tryz.underlying3 f4
  simp only [List.drop, List.take, List.cons.injEq, and_true] at g0 g1 g2 g3 g4 g5
  subst g0 g1 g2 g3 g4 g5
  exact ⟨⟨w, f, m, da, dc, data, ta, tc, tags, born⟩, rfl, ⟨hd, ht, hd', ht', in64 wf, in64 wm, in64 wb, hdn, htn⟩⟩

theorem openReq (hv : Value.okWide Tryz.prog W r b0 44 v) (h : DataW.Trod enc Tryz.prog W base spare held 44 v d p) : ∃ q : Rq, v = q.val ∧ q.At W := by
  obtain ⟨cs, rfl, _⟩ := okWide_struct Tryz.underlying44 hv
  obtain ⟨fuel, hf⟩ := h
  obtain ⟨q, hq, hat⟩ := openReqCells hf
  refine ⟨q, ?_, hat⟩
  simp only [Value.cells] at hq
  have : cs = #[q.cell 0, q.cell 1, q.cell 2, q.cell 3, q.cell 4, q.cell 5] := by rw [← Array.toList_inj]; exact hq
  rw [this]; rfl

theorem openReqsC (hv : Value.okWide Tryz.prog W r b0 35 v) (h : DataW.Trod enc Tryz.prog W base spare held 35 v d p) : ∃ (l : List Rq) (a : Option Addr) (c : Nat), v = .slice a l.length c ∧ ReqsAt W a l ∧ l.length ≤ c ∧ c ≤ 9223372036854775807 ∧ (a = none → c = 0) := by
  obtain ⟨a, len, cap, rfl⟩ := okWide_slice Tryz.underlying35 hv
  obtain ⟨fuel, hf⟩ := h
  rcases open_slice Tryz.underlying35 hf with ⟨hcs, _⟩ | ⟨a', len', cap', m, n, D, Pl, hcs, _, hl, hm, hmm, _, hel⟩
  · simp [Value.cells] at hcs
    obtain ⟨rfl, rfl, rfl⟩ := hcs
    exact ⟨[], none, 0, rfl, ⟨Or.inl rfl, by simp, by simp⟩, by simp, by simp, fun _ => rfl⟩
  · simp [Value.cells] at hcs
    obtain ⟨rfl, rfl, rfl⟩ := hcs
    have hlm : len ≤ m := by rw [hmm]; split <;> omega
    rw [cellsReq] at hel
    have each : ∀ i, i < len → ∃ q : Rq, (∀ j, j < 6 → W.cell? ((a'.add (i * 6)).add j) = some (q.cell j)) ∧ q.At W := by
      intro i hi
      obtain ⟨cs, h1, h2⟩ := hel i (by omega)
      obtain ⟨q, hq, hat⟩ := openReqCells h2
      obtain ⟨_, _, h3⟩ := World.cells?_some h1
      refine ⟨q, fun j hj => ?_, hat⟩
      rw [h3 j hj, hq]
      match j, hj with
      | 0, _ => rfl
      | 1, _ => rfl
      | 2, _ => rfl
      | 3, _ => rfl
      | 4, _ => rfl
      | 5, _ => rfl
    have inh : Inhabited Rq := ⟨⟨false, 0, 0, none, 0, [], none, 0, [], 0⟩⟩
    obtain ⟨Q, hQ⟩ := choose_lt each
    have hm' : cap ≤ 9223372036854775807 := by unfold maxLen at hm; omega
    refine ⟨(List.range len).map Q, some a', cap, by simp, ⟨?_, ?_, by simp; omega⟩, by simpa using hl, hm', by simp⟩
    · rcases Nat.eq_zero_or_pos len with rfl | hp
      · exact Or.inl rfl
      · right
        have e : a' = ⟨a'.block, a'.off, none⟩ := by
          have h0 := (hQ 0 hp).1 0 (by omega)
          rw [Nat.zero_mul] at h0
          have h1 : a'.spot = none := by simpa [Addr.add] using World.cell?_spot h0
          cases a'; simp_all
        refine ⟨a'.block, a'.off, by rw [← e], fun i hi j hj => ?_⟩
        simp only [List.length_map, List.length_range] at hi
        have := (hQ i hi).1 j hj
        rw [e, add_mk, add_mk] at this
        rw [this]; simp
    · intro q hq
      simp only [List.mem_map, List.mem_range] at hq
      obtain ⟨i, hi, rfl⟩ := hq
      exact (hQ i hi).2

theorem openReqs (hv : Value.okWide Tryz.prog W r b0 35 v) (h : DataW.Trod enc Tryz.prog W base spare held 35 v d p) : ∃ (l : List Rq) (a : Option Addr) (c : Nat), v = .slice a l.length c ∧ ReqsAt W a l := by
  obtain ⟨l, a, c, h1, h2, _⟩ := openReqsC hv h
  exact ⟨l, a, c, h1, h2⟩
theorem cellsTurn : Tryz.prog.cellsOf 77 = 4 := by kernel_rfl
theorem openTurn (hv : Value.okWide Tryz.prog W r b0 77 v) (h : DataW.Trod enc Tryz.prog W base spare held 77 v d p) : ∃ (tw : Bool) (tg ts tp : Int), v = .agg #[.bool tw, .int .i64 tg, .int .i64 ts, .int .i64 tp] ∧ In64 tg ∧ In64 ts ∧ In64 tp := by
  obtain ⟨cs, rfl, _⟩ := okWide_struct Tryz.underlying77 hv
  obtain ⟨fuel, hf⟩ := h
  obtain ⟨xs, n, _, _, hl, hlen, hf⟩ := DataW.trod_struct Tryz.underlying77 hf
  rw [cellsTurn] at hl
  simp only [Value.cells] at hl hf
  obtain ⟨l⟩ := cs
  obtain ⟨v0, v1, v2, v3, rfl⟩ : ∃ a b c d, l = [a, b, c, d] := by
    match l, hl with
    | [a, b, c, d], _ => exact ⟨a, b, c, d, rfl⟩
  have hlen' : xs.length = 4 := hlen
  obtain ⟨y0, f0⟩ := fieldAt hf 0 4 0 1 rfl cellsBool (by omega)
  obtain ⟨y1, f1⟩ := fieldAt hf 1 3 1 1 rfl cellsInt (by omega)
  obtain ⟨y2, f2⟩ := fieldAt hf 2 3 2 1 rfl cellsInt (by omega)
  obtain ⟨y3, f3⟩ := fieldAt hf 3 3 3 1 rfl cellsInt (by omega)
  obtain ⟨w, g0, _⟩ := DataW.trod_bool Tryz.underlying4 f0
  obtain ⟨a, g1, _, wa⟩ := DataW.trod_int Tryz.underlying3 f1
  obtain ⟨b, g2, _, wb⟩ := DataW.trod_int Tryz.underlying3 f2
  obtain ⟨c, g3, _, wc⟩ := DataW.trod_int Tryz.underlying3 f3
  simp only [List.drop, List.take, List.cons.injEq, and_true] at g0 g1 g2 g3
  subst g0 g1 g2 g3
  exact ⟨w, a, b, c, rfl, in64 wa, in64 wb, in64 wc⟩
end
end Go.Proofs.YtgjkdhedkbkagaaGreat
/- How lists of steps among the arguments of the laws read. -/
namespace Go.Proofs.YtgjkdhedkbkagaaGreat
open Go.ChangeShapes Go.WideShapes Go.RowKit Go.Deep
set_option maxRecDepth 100000
set_option maxRecDepth 100000

theorem cellsStep : Tryz.prog.cellsOf 33 = 4 := by kernel_rfl
def StepsIn (l : List Sp) : Prop := ∀ x ∈ l, In64 x.a ∧ In64 x.b
section
variable {H : Type} {enc : TypeId × Value → H} {W : World} {base b0 fuel : Nat} {spare : Nat → Bool} {held : Bool} {r : Reach} {v : Value} {d : DataW H} {p : List MemPlace} {x : DataW H × List MemPlace} {cs : List Value}
theorem four4 {cs : List Value} (h : cs.length = 4) : ∃ a b c d, cs = [a, b, c, d] := by
  match cs, h with
  | [a, b, c, d], _ => exact ⟨a, b, c, d, rfl⟩
theorem openStepCells (h : DataW.trod enc Tryz.prog W base spare held fuel 33 cs = some x) : ∃ q : Sp, cs = [q.cell 0, q.cell 1, q.cell 2, q.cell 3] ∧ In64 q.a ∧ In64 q.b := by
  obtain ⟨xs, n, _, _, hl, hlen, hf⟩ := DataW.trod_struct Tryz.underlying33 h
  rw [cellsStep] at hl
  obtain ⟨v0, v1, v2, v3, rfl⟩ := four4 hl
  have hlen' : xs.length = 4 := hlen
  obtain ⟨y0, f0⟩ := fieldAt hf 0 9 0 1 rfl cellsStr (by omega)
  obtain ⟨y1, f1⟩ := fieldAt hf 1 3 1 1 rfl cellsInt (by omega)
  obtain ⟨y2, f2⟩ := fieldAt hf 2 3 2 1 rfl cellsInt (by omega)
  obtain ⟨y3, f3⟩ := fieldAt hf 3 9 3 1 rfl cellsStr (by omega)
  obtain ⟨s, g0, _⟩ := DataW.trod_string Tryz.underlying9 f0
  obtain ⟨n1, g1, _, w1⟩ := DataW.trod_int Tryz.underlying3 f1
  obtain ⟨n2, g2, _, w2⟩ := DataW.trod_int Tryz.underlying3 f2
  obtain ⟨t, g3, _⟩ := DataW.trod_string Tryz.underlying9 f3
  simp only [List.drop, List.take, List.cons.injEq, and_true] at g0 g1 g2 g3
  subst g0 g1 g2 g3
  exact ⟨⟨s, n1, n2, t⟩, rfl, in64 w1, in64 w2⟩
theorem openSteps (hv : Value.okWide Tryz.prog W r b0 22 v) (h : DataW.Trod enc Tryz.prog W base spare held 22 v d p) : ∃ (l : List Sp) (a : Option Addr) (c : Nat), v = .slice a l.length c ∧ StepsAt W a l ∧ StepsIn l := by
  obtain ⟨a, len, cap, rfl⟩ := okWide_slice Tryz.underlying22 hv
  obtain ⟨fuel, hf⟩ := h
  rcases open_slice Tryz.underlying22 hf with ⟨hcs, _⟩ | ⟨a', len', cap', m, n, D, Pl, hcs, _, hl, hm, hmm, _, hel⟩
  · simp [Value.cells] at hcs
    obtain ⟨rfl, rfl, rfl⟩ := hcs
    exact ⟨[], none, 0, rfl, ⟨Or.inl rfl, by simp⟩, fun x hx => by cases hx⟩
  · simp [Value.cells] at hcs
    obtain ⟨rfl, rfl, rfl⟩ := hcs
    have hlm : len ≤ m := by rw [hmm]; split <;> omega
    rw [cellsStep] at hel
    have each : ∀ i, i < len → ∃ q : Sp, (∀ j, j < 4 → W.cell? ((a'.add (i * 4)).add j) = some (q.cell j)) ∧ In64 q.a ∧ In64 q.b := by
      intro i hi
      obtain ⟨cs, h1, h2⟩ := hel i (by omega)
      obtain ⟨q, hq, hat⟩ := openStepCells h2
      obtain ⟨_, _, h3⟩ := World.cells?_some h1
      refine ⟨q, fun j hj => ?_, hat⟩
      rw [h3 j hj, hq]
      match j, hj with
      | 0, _ => rfl
      | 1, _ => rfl
      | 2, _ => rfl
      | 3, _ => rfl
    have inh : Inhabited Sp := ⟨⟨ByteArray.empty, 0, 0, ByteArray.empty⟩⟩
    obtain ⟨Q, hQ⟩ := choose_lt each
    have hm' : cap ≤ 9223372036854775807 := by unfold maxLen at hm; omega
    refine ⟨(List.range len).map Q, some a', cap, by simp, ⟨?_, by simp; omega⟩, ?_⟩
    · rcases Nat.eq_zero_or_pos len with rfl | hp
      · exact Or.inl rfl
      · right
        have e : a' = ⟨a'.block, a'.off, none⟩ := by
          have h0 := (hQ 0 hp).1 0 (by omega)
          rw [Nat.zero_mul] at h0
          have h1 : a'.spot = none := by simpa [Addr.add] using World.cell?_spot h0
          cases a'; simp_all
        refine ⟨a'.block, a'.off, by rw [← e], fun i hi j hj => ?_⟩
        simp only [List.length_map, List.length_range] at hi
        have := (hQ i hi).1 j hj
        rw [e, add_mk, add_mk] at this
        rw [this]; simp
    · intro q hq
      simp only [List.mem_map, List.mem_range] at hq
      obtain ⟨i, hi, rfl⟩ := hq
      exact (hQ i hi).2
end
end Go.Proofs.YtgjkdhedkbkagaaGreat
/- A stack of all, from where it was: what each call makes of it; a step. -/
namespace Go.Proofs.YtgjkdhedkbkagaaGreat
open Go.RowKit Go.BigFrame Go.Maps
set_option maxRecDepth 100000
attribute [local go_sem] Later.cell Later.frozen

/-- Where a stack was. -/
structure Ref where
  p : Sk
  A : Sa
  w : World
/-- From there it has become q, but for the places of lists. -/
def OwnR (R : Ref) (s b : Nat) (q : Sk) (wr : World) : Prop := ∃ p A, SStep s R.p R.A p A R.w wr ∧ p.nf = q ∧ R.A.b = b
section
variable {W : Ref} {wr w' : World} {s b : Nat} {q q' : Sk}
theorem OwnR.later (h : OwnR W s b q wr) (hb : Below wr.heap.size wr w') : OwnR W s b q w' := by
  obtain ⟨p, A, h1, h2, h3⟩ := h
  exact ⟨p, A, h1.later hb, h2, h3⟩
theorem OwnR.of {p : Sk} {A : Sa} (h3 : W.A.b = b) (hs : SStep s W.p W.A p A W.w wr) (h : SOk s p A wr w' q') : OwnR W s b q' w' := by
  obtain ⟨p', A', h', hn⟩ := h
  exact ⟨p', A', hs.trans h', hn, h3⟩
theorem ref_busyOf (h : OwnR W s b q wr) : busyOf wr b = q.dev.busy.length := by
  obtain ⟨p, A, hs, rfl, rfl⟩ := h
  unfold busyOf
  rw [← hs.same.1, hs.at'.mem.drv.dev.c66]
  exact (List.length_map _).symm
end
section
variable (W : Ref) (w : World) (s b : Nat) (q : Sk) (n : Nat)
theorem ref_waits (h : OwnR W s b q w) (c : Int) (t : Bool) (ht : q.waits c = t) : Calls Tryz.prog 31 #[.pointer (some ⟨s, 0, none⟩), .int .i64 c] w fun e w' => e = .returned (.bool t) ∧ w' = w := by
  obtain ⟨p, A, hs, rfl, _⟩ := h
  have h1 := hs.at'
  exact waits_any s p A c w h1 t ht
theorem ref_dead (h : OwnR W s b q w) : Calls Tryz.prog 28 #[.pointer (some ⟨s, 0, none⟩)] w fun e w' => e = .returned (.bool q.dead) ∧ w' = w := by
  obtain ⟨p, A, hs, rfl, _⟩ := h
  have h1 := hs.at'
  exact dead_any s p A w h1
theorem ref_got (h : OwnR W s b q w) (i : Nat) (hi : i < 3) : Calls Tryz.prog 27 #[.pointer (some ⟨s, 0, none⟩), .int .i64 i] w fun e w' => e = .returned (.tuple #[.string (q.client i).got, errOf (q.client i).err]) ∧ Below w.heap.size w w' := by
  obtain ⟨p, A, hs, rfl, _⟩ := h
  have h1 := hs.at'
  exact got_in s p A i hi w h1
theorem ref_dirty (h : OwnR W s b q w) (k : Nat) (hk : dirtyB q.hand = k) : Calls Tryz.prog 19 #[.pointer (some ⟨s, 0, none⟩)] w fun e w' => e = .returned (.int .i64 k) ∧ Below w.heap.size w w' := by
  obtain ⟨p, A, hs, rfl, _⟩ := h
  have h1 := hs.at'
  exact sdirty_any s p A w h1 k hk
theorem ref_queue (h : OwnR W s b q w) (h6 : q.queue.length ≤ 1000) : Calls Tryz.prog 20 #[.pointer (some ⟨s, 0, none⟩)] w fun e w' => ∃ a' c' l, e = .returned (.slice a' q.queue.length c') ∧ ReqsAt w' a' l ∧ l.map Rq.nf = q.queue ∧ (a' = none → c' = 0) ∧ Below w.heap.size w w' := by
  obtain ⟨p, A, hs, rfl, _⟩ := h
  have h1 := hs.at'
  have e : p.nf.queue.length = p.queue.length := List.length_map _
  rw [e] at h6 ⊢
  refine (squeue_any s p A w h1 h6).mono ?_
  rintro x w' ⟨a', c', rfl, hR, hn, hb⟩
  exact ⟨a', c', p.queue, rfl, hR, rfl, hn, hb⟩
theorem ref_busy (h : OwnR W s b q w) : Calls Tryz.prog 21 #[.pointer (some ⟨s, 0, none⟩)] w fun e w' => ∃ a' c' l, e = .returned (.slice a' q.dev.busy.length c') ∧ ReqsAt w' a' l ∧ l.map Rq.nf = q.dev.busy ∧ (a' = none → c' = 0) ∧ Below w.heap.size w w' := by
  obtain ⟨p, A, hs, rfl, _⟩ := h
  have h1 := hs.at'
  have e : p.nf.dev.busy.length = p.dev.busy.length := List.length_map _
  rw [e]
  refine (sbusy_any s p A w h1).mono ?_
  rintro x w' ⟨a', c', rfl, hR, hn, hb⟩
  exact ⟨a', c', p.dev.busy, rfl, hR, rfl, hn, hb⟩
theorem ref_ask (h : OwnR W s b q w) (hf : Fit n q) (hn : n ≤ 1000000) (c kind pl : Int) (data : ByteArray) (x : Int) (q' : Sk) (hq : q.ask c kind pl data = (x, q')) : Calls Tryz.prog 37 #[.pointer (some ⟨s, 0, none⟩), .int .i64 c, .int .i64 kind, .int .i64 pl, .string data] w fun e w' => e = .returned (errOf x) ∧ OwnR W s b q' w' := by
  obtain ⟨p, A, hs, rfl, h3⟩ := h
  have h1 := hs.at'
  have hf' := hf.of_nf
  refine (ask_any s p A w h1 hf'.inv (by have := hf'.tags; omega) (by have := hf'.uses; omega) c kind pl data x q' hq).mono ?_
  rintro e w' ⟨he, hok⟩
  exact ⟨he, OwnR.of h3 hs hok⟩
theorem ref_tick (h : OwnR W s b q w) (hf : Fit n q) (hn : n ≤ 1000000) (q' : Sk) (hq : q.tick = q') : Calls Tryz.prog 34 #[.pointer (some ⟨s, 0, none⟩)] w fun e w' => e = .returned (.tuple #[]) ∧ OwnR W s b q' w' := by
  obtain ⟨p, A, hs, rfl, h3⟩ := h
  have h1 := hs.at'
  have hf' := hf.of_nf
  refine (tick_any s p A w h1 hf'.inv (by have := hf'.tags; omega) (by have := hf'.uses; omega) q' hq).mono ?_
  rintro e w' ⟨he, hok⟩
  exact ⟨he, OwnR.of h3 hs hok⟩
theorem ref_clean (h : OwnR W s b q w) (hf : Fit n q) (hn : n ≤ 1000000) (t : Bool) (q' : Sk) (hq : q.clean = (t, q')) : Calls Tryz.prog 33 #[.pointer (some ⟨s, 0, none⟩)] w fun e w' => e = .returned (.bool t) ∧ OwnR W s b q' w' := by
  obtain ⟨p, A, hs, rfl, h3⟩ := h
  have h1 := hs.at'
  have hf' := hf.of_nf
  refine (sclean_any s p A w h1 hf'.inv (by have := hf'.tags; omega) t q' hq).mono ?_
  rintro e w' ⟨he, hok⟩
  exact ⟨he, OwnR.of h3 hs hok⟩
theorem ref_dispatch (h : OwnR W s b q w) (hf : Fit n q) (t : Bool) (q' : Sk) (hq : q.dispatch = (t, q')) : Calls Tryz.prog 35 #[.pointer (some ⟨s, 0, none⟩)] w fun e w' => e = .returned (.bool t) ∧ OwnR W s b q' w' := by
  obtain ⟨p, A, hs, rfl, h3⟩ := h
  have h1 := hs.at'
  have hf' := hf.of_nf
  refine (sdispatch_any s p A w h1 hf'.inv t q' hq).mono ?_
  rintro e w' ⟨he, hok⟩
  exact ⟨he, OwnR.of h3 hs hok⟩
theorem ref_end (h : OwnR W s b q w) (hf : Fit n q) (hn : n ≤ 1000000) (i : Int) (fl : Bool) (x : Int) (q' : Sk) (hq : q.end' i fl = (x, q')) : Calls Tryz.prog 41 #[.pointer (some ⟨s, 0, none⟩), .int .i64 i, .bool fl] w fun e w' => e = .returned (errOf x) ∧ OwnR W s b q' w' := by
  obtain ⟨p, A, hs, rfl, h3⟩ := h
  have h1 := hs.at'
  have hf' := hf.of_nf
  refine (send_any s p A w h1 hf'.inv hf'.short (by have := hf'.tags; omega) (by have := hf'.uses; omega) (by have := hf'.ag; omega) i fl x q' hq).mono ?_
  rintro e w' ⟨he, hok⟩
  exact ⟨he, OwnR.of h3 hs hok⟩
end
set_option maxHeartbeats 2000000 in
theorem ref_quiet (W : Ref) (w : World) (s b : Nat) (q : Sk) (h : OwnR W s b q w) (h6 : q.queue.length ≤ 1000) (t : Bool) (ht : q.quiet = t) :
    Calls Tryz.prog 32 #[.pointer (some ⟨s, 0, none⟩)] w fun e w' => e = .returned (.bool t) ∧ Below w.heap.size w w' := by
  have HO := hidT h
  have H6 := hidT h6
  have HT := hidT ht
  clear h h6 ht
  go_enter Tryz.func32, Tryz.ntmps32
  go_wp2
  go_loopw [4] (fun i wr => ∃ k : Nat, k ≤ 3 ∧ i = .int .i64 k ∧ (∀ j : Nat, j < k → q.waits (j : Int) = false) ∧ Below w.heap.size w wr) (fun i _ => 3 - (intOf i).toNat)
  case atStart => exact ⟨0, by omega, rfl, fun j hj => absurd hj (Nat.not_lt_zero _), Below.refl _ _⟩
  case round =>
    obtain ⟨k, hk, rfl, hno, hbr⟩ := hrel
    have HBR := hidT hbr
    have HOR := hidT (HO.out.later hbr)
    clear hbr
    have HN := hidT hno
    clear hno
    by_cases hlt : k < 3
    · have hlt' : (k : Int) < 3 := by omega
      cases hwt : q.waits (k : Int)
      · have HW := hidT hwt
        clear hwt
        go_wp2_with fail
        refine (ref_waits W wr s b q HOR.out k false HW.out).mono ?_
        rintro e w1 ⟨rfl, rfl⟩
        go_wp2
        go_roundw
        case rel => exact ⟨k + 1, by omega, by go_num, fun j hj => by by_cases e : j = k; (subst e; exact HW.out); exact HN.out j (by omega), HBR.out⟩
        case measure => simp [intOf]; omega
      · have HW := hidT hwt
        have HF : Hid (false = t) := (quiet_not hlt hwt).symm.trans HT.out
        clear hwt
        go_wp2_with fail
        refine (ref_waits W wr s b q HOR.out k true HW.out).mono ?_
        rintro e w1 ⟨rfl, rfl⟩
        go_wp2
        go_ret
        exact ⟨ret_bool HF.out, HBR.out⟩
    · obtain rfl : k = 3 := by omega
      have HE : Hid ((q.queue.isEmpty && q.dev.busy.isEmpty) = t) := (quiet_all (fun i hi => HN.out i hi)).symm.trans HT.out
      cases hq : q.queue.isEmpty
      · have HF : Hid (false = t) := by have := HE.out; rw [hq] at this; exact this
        have hq2 : ((q.queue.length : Int) == 0) = false := (isEmpty_len _).symm.trans hq
        have hq3 : ¬ (q.queue.length : Int) = 0 := beq_eq_false_iff_ne.1 hq2
        have hq4 : ¬ q.queue.length = 0 := by omega
        clear hq
        go_wp2_with fail
        refine (ref_queue W wr s b q HOR.out H6.out).mono ?_
        rintro e w1 ⟨a', c', l, rfl, -, -, -, hb1⟩
        generalize q.queue.length = n at *
        go_wp2
        go_ret
        exact ⟨ret_bool HF.out, bthen HBR.out hb1⟩
      · have HF : Hid (q.dev.busy.isEmpty = t) := by have := HE.out; rw [hq] at this; exact this
        have hq2 : q.queue = [] := List.isEmpty_iff.1 hq
        have HQL : Hid (q.queue.length = 0) := by show q.queue.length = 0; rw [hq2]; rfl
        clear hq hq2
        go_wp2_with fail
        refine (ref_queue W wr s b q HOR.out H6.out).mono ?_
        rw [HQL.out]
        rintro e w1 ⟨a', c', l, rfl, -, -, -, hb1⟩
        go_wp2_with fail
        refine (ref_busy W w1 s b q (HOR.out.later hb1)).mono ?_
        rintro e w2 ⟨a2, c2, l2, rfl, -, -, -, hb2⟩
        have HF2 : Hid (((q.dev.busy.length : Int) == 0) = t) := (isEmpty_len _).symm.trans HF.out
        generalize q.dev.busy.length = n at *
        go_wp2
        go_ret
        exact ⟨ret_bool HF2.out, bthen HBR.out (bthen hb1 hb2)⟩
set_option linter.unusedSimpArgs false in
set_option maxHeartbeats 2000000 in
theorem ref_round (W : Ref) (w : World) (s b : Nat) (q : Sk) (n : Nat) (h : OwnR W s b q w) (hf : Fit n q) (hn : n ≤ 900000) (q' : Sk) (hq : q.round = q') :
    Calls Tryz.prog 39 #[.pointer (some ⟨s, 0, none⟩)] w fun e w' => e = .returned (.tuple #[]) ∧ OwnR W s b q' w' := by
  have HO := hidT h
  have HF := hidT hf
  have HQ := hidT hq
  clear h hf hq
  go_enter Tryz.func39, Tryz.ntmps39
  go_wp2_with fail
  refine (ref_tick W w s b q n HO.out HF.out (by omega) _ rfl).mono ?_
  rintro e w1 ⟨rfl, h1⟩
  have HO1 := hidT h1
  clear h1
  go_wp2_with fail
  refine (ref_clean W w1 s b q.tick (n + 3) HO1.out HF.out.tick (by omega) q.tick.clean.1 q.tick.clean.2 rfl).mono ?_
  rintro e w2 ⟨rfl, h2⟩
  have HO2 := hidT h2
  have HF2 := hidT HF.out.tick.clean
  have HQ2 : Hid (((q.tick.clean.2.dispatches 3).end' 0 false).2 = q') := HQ.out
  clear h2 HQ HO1
  generalize q.tick.clean.1 = t at *
  generalize q.tick.clean.2 = q2 at *
  go_wp2
  go_loopw [] (fun wr => ∃ (j : Nat) (r : Sk), OwnR W s b r wr ∧ Fit (n + 3 + 1) r ∧ r.dispatches j = q2.dispatches 3 ∧ 3 ≤ r.dev.busy.length + j) (fun wr => 3 - busyOf wr b)
  case atStart => exact ⟨3, q2, HO2.out, HF2.out, rfl, by omega⟩
  case round =>
    obtain ⟨j, r, ho, hfr, hd, hj⟩ := hrel
    have HOR := hidT ho
    have HFR := hidT hfr
    have HD := hidT hd
    have hb2 := hfr.inv.b2
    obtain ⟨i, rfl⟩ : ∃ i, j = i + 1 := ⟨j - 1, by omega⟩
    have HJ := hidT hj
    have HB2 := hidT hb2
    clear ho hfr hd hj hb2
    cases ht : r.dispatch.1
    · have HE : Hid (r = q2.dispatches 3) := by
        have := HD.out
        unfold Sk.dispatches at this
        rw [ht, if_neg Bool.false_ne_true] at this
        exact this
      have HS : Hid (r.dispatch = (false, r)) := by
        rcases dispatch_cases HFR.out.inv with ⟨_, e⟩ | ⟨_, _, _, _, _, _, _, e⟩
        · exact e
        · rw [e] at ht; cases ht
      clear ht
      go_wp2_with fail
      refine (ref_dispatch W wr s b r _ HOR.out HFR.out false r HS.out).mono ?_
      rintro e w3 ⟨rfl, h3⟩
      have HO3 := hidT h3
      clear h3
      go_wp2_with fail
      refine (ref_end W w3 s b r _ HO3.out HFR.out (by omega) 0 false (r.end' 0 false).1 q' (by rw [Prod.ext_iff]; exact ⟨rfl, by show (r.end' 0 false).2 = q'; rw [HE.out]; exact HQ2.out⟩)).mono ?_
      generalize (r.end' 0 false).1 = x
      rintro e w4 ⟨rfl, h4⟩
      generalize errOf x = ev
      go_wp2
      go_end0
      exact ⟨rfl, h4⟩
    · have HE : Hid (r.dispatch.2.dispatches i = q2.dispatches 3) := by
        have := HD.out
        unfold Sk.dispatches at this
        rw [ht, if_pos rfl] at this
        exact this
      have HM := hidT (dispatch_more HFR.out.inv ht)
      have HT := hidT ht
      clear ht
      go_wp2_with fail
      refine (ref_dispatch W wr s b r _ HOR.out HFR.out true r.dispatch.2 (by rw [Prod.ext_iff]; exact ⟨HT.out, rfl⟩)).mono ?_
      rintro e w3 ⟨rfl, h3⟩
      have HO3 := hidT h3
      clear h3
      go_wp2
      go_roundw
      case rel => exact ⟨i, r.dispatch.2, HO3.out, HFR.out.dispatch, HE.out, by have := HM.out; have := HJ.out; omega⟩
      case measure => rw [ref_busyOf HOR.out, ref_busyOf HO3.out]; have := HM.out; have := HB2.out; omega
set_option linter.unusedSimpArgs false in
set_option maxRecDepth 100000 in
set_option maxHeartbeats 4000000 in
theorem ref_step (W : Ref) (w : World) (s b : Nat) (q : Sk) (n : Nat) (h : OwnR W s b q w) (hf : Fit n q) (hn : n ≤ 800000) (x : Sp) (e : Int) (q' : Sk) (hq : q.doStep x = (e, q')) :
    Calls Tryz.prog 18 #[.pointer (some ⟨s, 0, none⟩), x.val] w fun r w' => r = .returned (errOf e) ∧ OwnR W s b q' w' := by
  have HO := hidT h
  have HF := hidT hf
  clear h hf
  obtain ⟨wd, xa, xb, dt⟩ := x
  by_cases h1 : wd = wRead
  · subst h1
    have HQ : Hid (((q.ask xa 1 xb ByteArray.empty) : Int × Sk) = (e, q')) := by
      show ((q.ask xa 1 xb ByteArray.empty) : Int × Sk) = (e, q')
      have := hq
      unfold Sk.doStep at this
      rw [if_pos rfl] at this
      exact this
    clear hq
    unfold wRead
    go_enter Tryz.func18, Tryz.ntmps18
    go_wp2_with fail
    refine (ref_ask W _ s b q n (HO.out.later (by repeat (first | with_reducible exact Below.refl _ _ | with_reducible refine balloc ?_ _ | with_reducible refine bdrew ?_ | with_reducible refine bset' ?_ (by omega) _ | with_reducible refine bthen ?_ (by assumption)))) HF.out (by omega) xa 1 xb ByteArray.empty e q' HQ.out).mono ?_
    rintro r w1 ⟨rfl, h1⟩
    generalize hev : errOf e = ev
    go_wp2
    go_ret
    exact ⟨by rw [hev]; rfl, h1⟩
  by_cases h2 : wd = wWrite
  · subst h2
    have HQ : Hid (((q.ask xa 2 xb dt) : Int × Sk) = (e, q')) := by
      show ((q.ask xa 2 xb dt) : Int × Sk) = (e, q')
      have := hq
      unfold Sk.doStep at this
      rw [if_neg (show ¬ wWrite = wRead by decide)] at this
      rw [if_pos rfl] at this
      exact this
    clear h1
    clear hq
    unfold wWrite
    go_enter Tryz.func18, Tryz.ntmps18
    go_wp2_with fail
    refine (ref_ask W _ s b q n (HO.out.later (by repeat (first | with_reducible exact Below.refl _ _ | with_reducible refine balloc ?_ _ | with_reducible refine bdrew ?_ | with_reducible refine bset' ?_ (by omega) _ | with_reducible refine bthen ?_ (by assumption)))) HF.out (by omega) xa 2 xb dt e q' HQ.out).mono ?_
    rintro r w1 ⟨rfl, h1⟩
    generalize hev : errOf e = ev
    go_wp2
    go_ret
    exact ⟨by rw [hev]; rfl, h1⟩
  by_cases h3 : wd = wSync
  · subst h3
    have HQ : Hid (((q.ask xa 3 0 ByteArray.empty) : Int × Sk) = (e, q')) := by
      show ((q.ask xa 3 0 ByteArray.empty) : Int × Sk) = (e, q')
      have := hq
      unfold Sk.doStep at this
      rw [if_neg (show ¬ wSync = wRead by decide)] at this
      rw [if_neg (show ¬ wSync = wWrite by decide)] at this
      rw [if_pos rfl] at this
      exact this
    clear h1 h2
    clear hq
    unfold wSync
    go_enter Tryz.func18, Tryz.ntmps18
    go_wp2_with fail
    refine (ref_ask W _ s b q n (HO.out.later (by repeat (first | with_reducible exact Below.refl _ _ | with_reducible refine balloc ?_ _ | with_reducible refine bdrew ?_ | with_reducible refine bset' ?_ (by omega) _ | with_reducible refine bthen ?_ (by assumption)))) HF.out (by omega) xa 3 0 ByteArray.empty e q' HQ.out).mono ?_
    rintro r w1 ⟨rfl, h1⟩
    generalize hev : errOf e = ev
    go_wp2
    go_ret
    exact ⟨by rw [hev]; rfl, h1⟩
  by_cases h4 : wd = wTick
  · subst h4
    have HQ : Hid ((((0, q.tick)) : Int × Sk) = (e, q')) := by
      show (((0, q.tick)) : Int × Sk) = (e, q')
      have := hq
      unfold Sk.doStep at this
      rw [if_neg (show ¬ wTick = wRead by decide)] at this
      rw [if_neg (show ¬ wTick = wWrite by decide)] at this
      rw [if_neg (show ¬ wTick = wSync by decide)] at this
      rw [if_pos rfl] at this
      exact this
    clear h1 h2 h3
    clear hq
    unfold wTick
    obtain ⟨rfl, rfl⟩ := Prod.mk.inj HQ.out
    clear HQ
    go_enter Tryz.func18, Tryz.ntmps18
    go_wp2_with fail
    refine (ref_tick W _ s b q n (HO.out.later (by repeat (first | with_reducible exact Below.refl _ _ | with_reducible refine balloc ?_ _ | with_reducible refine bdrew ?_ | with_reducible refine bset' ?_ (by omega) _ | with_reducible refine bthen ?_ (by assumption)))) HF.out (by omega) _ rfl).mono ?_
    rintro r w1 ⟨rfl, h1⟩
    go_wp2
    go_ret
    exact ⟨rfl, h1⟩
  by_cases h5 : wd = wClean
  · subst h5
    have HQ : Hid ((((0, q.clean.2)) : Int × Sk) = (e, q')) := by
      show (((0, q.clean.2)) : Int × Sk) = (e, q')
      have := hq
      unfold Sk.doStep at this
      rw [if_neg (show ¬ wClean = wRead by decide)] at this
      rw [if_neg (show ¬ wClean = wWrite by decide)] at this
      rw [if_neg (show ¬ wClean = wSync by decide)] at this
      rw [if_neg (show ¬ wClean = wTick by decide)] at this
      rw [if_pos rfl] at this
      exact this
    clear h1 h2 h3 h4
    clear hq
    unfold wClean
    obtain ⟨rfl, rfl⟩ := Prod.mk.inj HQ.out
    clear HQ
    go_enter Tryz.func18, Tryz.ntmps18
    go_wp2_with fail
    refine (ref_clean W _ s b q n (HO.out.later (by repeat (first | with_reducible exact Below.refl _ _ | with_reducible refine balloc ?_ _ | with_reducible refine bdrew ?_ | with_reducible refine bset' ?_ (by omega) _ | with_reducible refine bthen ?_ (by assumption)))) HF.out (by omega) q.clean.1 q.clean.2 rfl).mono ?_
    generalize q.clean.1 = t
    rintro r w1 ⟨rfl, h1⟩
    go_wp2
    go_ret
    exact ⟨rfl, h1⟩
  by_cases h6 : wd = wDispatch
  · subst h6
    have HQ : Hid ((((0, q.dispatch.2)) : Int × Sk) = (e, q')) := by
      show (((0, q.dispatch.2)) : Int × Sk) = (e, q')
      have := hq
      unfold Sk.doStep at this
      rw [if_neg (show ¬ wDispatch = wRead by decide)] at this
      rw [if_neg (show ¬ wDispatch = wWrite by decide)] at this
      rw [if_neg (show ¬ wDispatch = wSync by decide)] at this
      rw [if_neg (show ¬ wDispatch = wTick by decide)] at this
      rw [if_neg (show ¬ wDispatch = wClean by decide)] at this
      rw [if_pos rfl] at this
      exact this
    clear h1 h2 h3 h4 h5
    clear hq
    unfold wDispatch
    obtain ⟨rfl, rfl⟩ := Prod.mk.inj HQ.out
    clear HQ
    go_enter Tryz.func18, Tryz.ntmps18
    go_wp2_with fail
    refine (ref_dispatch W _ s b q n (HO.out.later (by repeat (first | with_reducible exact Below.refl _ _ | with_reducible refine balloc ?_ _ | with_reducible refine bdrew ?_ | with_reducible refine bset' ?_ (by omega) _ | with_reducible refine bthen ?_ (by assumption)))) HF.out q.dispatch.1 q.dispatch.2 rfl).mono ?_
    generalize q.dispatch.1 = t
    rintro r w1 ⟨rfl, h1⟩
    go_wp2
    go_ret
    exact ⟨rfl, h1⟩
  by_cases h7 : wd = wEnd
  · subst h7
    have HQ : Hid (((q.end' xa false) : Int × Sk) = (e, q')) := by
      show ((q.end' xa false) : Int × Sk) = (e, q')
      have := hq
      unfold Sk.doStep at this
      rw [if_neg (show ¬ wEnd = wRead by decide)] at this
      rw [if_neg (show ¬ wEnd = wWrite by decide)] at this
      rw [if_neg (show ¬ wEnd = wSync by decide)] at this
      rw [if_neg (show ¬ wEnd = wTick by decide)] at this
      rw [if_neg (show ¬ wEnd = wClean by decide)] at this
      rw [if_neg (show ¬ wEnd = wDispatch by decide)] at this
      rw [if_pos rfl] at this
      exact this
    clear h1 h2 h3 h4 h5 h6
    clear hq
    unfold wEnd
    go_enter Tryz.func18, Tryz.ntmps18
    go_wp2_with fail
    refine (ref_end W _ s b q n (HO.out.later (by repeat (first | with_reducible exact Below.refl _ _ | with_reducible refine balloc ?_ _ | with_reducible refine bdrew ?_ | with_reducible refine bset' ?_ (by omega) _ | with_reducible refine bthen ?_ (by assumption)))) HF.out (by omega) xa false e q' HQ.out).mono ?_
    rintro r w1 ⟨rfl, h1⟩
    generalize hev : errOf e = ev
    go_wp2
    go_ret
    exact ⟨by rw [hev]; rfl, h1⟩
  by_cases h8 : wd = wFault
  · subst h8
    have HQ : Hid (((q.end' xa true) : Int × Sk) = (e, q')) := by
      show ((q.end' xa true) : Int × Sk) = (e, q')
      have := hq
      unfold Sk.doStep at this
      rw [if_neg (show ¬ wFault = wRead by decide)] at this
      rw [if_neg (show ¬ wFault = wWrite by decide)] at this
      rw [if_neg (show ¬ wFault = wSync by decide)] at this
      rw [if_neg (show ¬ wFault = wTick by decide)] at this
      rw [if_neg (show ¬ wFault = wClean by decide)] at this
      rw [if_neg (show ¬ wFault = wDispatch by decide)] at this
      rw [if_neg (show ¬ wFault = wEnd by decide)] at this
      rw [if_pos rfl] at this
      exact this
    clear h1 h2 h3 h4 h5 h6 h7
    clear hq
    unfold wFault
    go_enter Tryz.func18, Tryz.ntmps18
    go_wp2_with fail
    refine (ref_end W _ s b q n (HO.out.later (by repeat (first | with_reducible exact Below.refl _ _ | with_reducible refine balloc ?_ _ | with_reducible refine bdrew ?_ | with_reducible refine bset' ?_ (by omega) _ | with_reducible refine bthen ?_ (by assumption)))) HF.out (by omega) xa true e q' HQ.out).mono ?_
    rintro r w1 ⟨rfl, h1⟩
    generalize hev : errOf e = ev
    go_wp2
    go_ret
    exact ⟨by rw [hev]; rfl, h1⟩
  by_cases h9 : wd = wRound
  · subst h9
    have HQ : Hid ((((0, q.round)) : Int × Sk) = (e, q')) := by
      show (((0, q.round)) : Int × Sk) = (e, q')
      have := hq
      unfold Sk.doStep at this
      rw [if_neg (show ¬ wRound = wRead by decide)] at this
      rw [if_neg (show ¬ wRound = wWrite by decide)] at this
      rw [if_neg (show ¬ wRound = wSync by decide)] at this
      rw [if_neg (show ¬ wRound = wTick by decide)] at this
      rw [if_neg (show ¬ wRound = wClean by decide)] at this
      rw [if_neg (show ¬ wRound = wDispatch by decide)] at this
      rw [if_neg (show ¬ wRound = wEnd by decide)] at this
      rw [if_neg (show ¬ wRound = wFault by decide)] at this
      rw [if_pos rfl] at this
      exact this
    clear h1 h2 h3 h4 h5 h6 h7 h8
    clear hq
    unfold wRound
    obtain ⟨rfl, rfl⟩ := Prod.mk.inj HQ.out
    clear HQ
    go_enter Tryz.func18, Tryz.ntmps18
    go_wp2_with fail
    refine (ref_round W _ s b q n (HO.out.later (by repeat (first | with_reducible exact Below.refl _ _ | with_reducible refine balloc ?_ _ | with_reducible refine bdrew ?_ | with_reducible refine bset' ?_ (by omega) _ | with_reducible refine bthen ?_ (by assumption)))) HF.out (by omega) _ rfl).mono ?_
    rintro r w1 ⟨rfl, h1⟩
    go_wp2
    go_ret
    exact ⟨rfl, h1⟩
  obtain ⟨rfl, rfl⟩ : (0 : Int) = e ∧ q = q' := by
    have := hq
    unfold Sk.doStep at this
    rw [if_neg h1, if_neg h2, if_neg h3, if_neg h4, if_neg h5, if_neg h6, if_neg h7, if_neg h8, if_neg h9] at this
    exact Prod.mk.inj this
  have g1 : (wd.toList == [114, 101, 97, 100]) = false := strK_ne _ h1
  have g2 : (wd.toList == [119, 114, 105, 116, 101]) = false := strK_ne _ h2
  have g3 : (wd.toList == [115, 121, 110, 99]) = false := strK_ne _ h3
  have g4 : (wd.toList == [116, 105, 99, 107]) = false := strK_ne _ h4
  have g5 : (wd.toList == [99, 108, 101, 97, 110]) = false := strK_ne _ h5
  have g6 : (wd.toList == [100, 105, 115, 112, 97, 116, 99, 104]) = false := strK_ne _ h6
  have g7 : (wd.toList == [101, 110, 100]) = false := strK_ne _ h7
  have g8 : (wd.toList == [102, 97, 117, 108, 116]) = false := strK_ne _ h8
  have g9 : (wd.toList == [114, 111, 117, 110, 100]) = false := strK_ne _ h9
  clear h1 h2 h3 h4 h5 h6 h7 h8 h9 hq
  go_enter Tryz.func18, Tryz.ntmps18
  go_wp2
  go_ret
  exact ⟨rfl, HO.out.later (by repeat (first | with_reducible exact Below.refl _ _ | with_reducible refine balloc ?_ _ | with_reducible refine bdrew ?_ | with_reducible refine bset' ?_ (by omega) _ | with_reducible refine bthen ?_ (by assumption)))⟩
theorem step_any (s : Nat) (p : Sk) (A : Sa) (w : World) (h : StkAt s p A w) (n : Nat) (hf : Fit n p.nf) (hn : n ≤ 800000) (x : Sp) (e : Int) (q' : Sk) (hq : p.nf.doStep x = (e, q')) :
    Calls Tryz.prog 18 #[.pointer (some ⟨s, 0, none⟩), x.val] w fun r w' => r = .returned (errOf e) ∧ SOk s p A w w' q' := by
  refine (ref_step ⟨p, A, w⟩ w s A.b p.nf n ⟨p, A, SStep.same' h (Below.refl _ _), rfl, rfl⟩ hf hn x e q' hq).mono ?_
  rintro r w' ⟨he, p', A', hs, hn', _⟩
  exact ⟨he, p', A', hs, hn'⟩
/-- A step, and a block that is not the stack's. -/
theorem own_stepK (W w : World) (s b : Nat) (q : Sk) (n : Nat) (w0 : World) (h : Own W s b q w0) (hb : Below w0.heap.size w0 w) (hf : Fit n q) (hn : n ≤ 800000) (x : Sp) (e : Int) (q' : Sk) (hq : q.doStep x = (e, q')) :
    Calls Tryz.prog 18 #[.pointer (some ⟨s, 0, none⟩), x.val] w fun r w' => r = .returned (errOf e) ∧ Own W s b q' w' ∧ w.heap.size ≤ w'.heap.size ∧ ∀ g, w0.heap.size ≤ g → g < w.heap.size → w'.heap[g]? = w.heap[g]? := by
  obtain ⟨p, A, h1, rfl, h3, h4, h5⟩ := h
  refine (step_any s p A w (h1.later hb) n hf hn x e q' hq).mono ?_
  rintro r w' ⟨he, hok⟩
  have hO := Own.of h3 h4 (bthen h5 hb) hok
  obtain ⟨p', A', hs, hn'⟩ := hok
  exact ⟨he, hO, hs.only.size, fun g h6 h7 => hs.only.block g h7 (fun e => by have := h1.footLt _ e; omega)⟩
end Go.Proofs.YtgjkdhedkbkagaaGreat
/- The number of an error; lists of requests that are the same but for their places. -/
namespace Go.Proofs.YtgjkdhedkbkagaaGreat
open Go.RowKit Go.BigFrame Go.Maps
set_option maxRecDepth 100000
attribute [local go_sem] Later.cell Later.frozen

theorem run_assertM (n : Int) (w : World) : Sem.run Tryz.prog (Instr.typeAssert (.iface 89 (.int .i64 n)) 30 89 true) w = .ok (.tuple #[.int .i64 n, .bool true]) w := by kernel_rfl
theorem number_any (n : Int) (w : World) : Calls Tryz.prog 36 #[errOf n] w fun e w' => e = .returned (.int .i64 n) ∧ Below w.heap.size w w' := by
  by_cases h : n = 0
  · subst h
    rw [show errOf 0 = .nilIface from rfl]
    go_enter Tryz.func36, Tryz.ntmps36
    go_wp2
    go_ret
    exact ⟨rfl, Below.refl _ _⟩
  · have ra := run_assertM n
    rw [show errOf n = .iface 89 (.int .i64 n) by unfold errOf; rw [if_neg h]]
    clear h
    go_enter Tryz.func36, Tryz.ntmps36
    go_wp2
    go_ret
    exact ⟨rfl, Below.refl _ _⟩
theorem sameB_nf {x y : Rq} (h : x.nf = y.nf) : sameB x y = true := by
  have h1 : x.wr = y.wr := (Rq.mk.inj h).1
  have h2 : x.f = y.f := (Rq.mk.inj h).2.1
  have h3 : x.m = y.m := (Rq.mk.inj h).2.2.1
  have h4 : x.data = y.data := (Rq.mk.inj h).2.2.2.2.2.1
  have h5 : x.tags = y.tags := (Rq.mk.inj h).2.2.2.2.2.2.2.2.1
  have h6 : x.born = y.born := (Rq.mk.inj h).2.2.2.2.2.2.2.2.2
  simp [sameB, eqS, eqN, h1, h2, h3, h4, h5, h6]
theorem sames_nf {l m : List Rq} (h : l.map Rq.nf = m.map Rq.nf) : Sames l m := by
  have hlen : l.length = m.length := by have := congrArg List.length h; simpa using this
  refine ⟨hlen, fun i hi hi' => sameB_nf ?_⟩
  have := congrArg (fun x => x[i]?) h
  simp only [List.getElem?_map, List.getElem?_eq_getElem hi, List.getElem?_eq_getElem hi', Option.map_some, Option.some.injEq] at this
  exact this
end Go.Proofs.YtgjkdhedkbkagaaGreat
