/- A step of a script: what may be: the parts that fit. -/
import Derived.Test.YtlhgjplipgandaaDoorScript1
namespace Go.Proofs.YtlhgjplipgandaaDoor
open Go.RowKit Go.BigFrame Go.Maps
attribute [local go_sem] Later.cell Later.frozen

/-- A step. -/
structure St where
  word : ByteArray
  a : Int
  b : Int
  data : ByteArray
abbrev St.val (x : St) : Value := .agg #[.string x.word, .int .i64 x.a, .int .i64 x.b, .string x.data]
def partsOf (s : ByteArray) : Int × Bool := (wordF s).getD (0, false)
def PartQ (o : Option (Int × Bool)) : Prop := o = none ∨ ∃ n b, o = some (n, b) ∧ ((n = 0 ∧ b = false) ∨ (n = 1 ∧ b = false) ∨ (n = 2 ∧ b = true) ∨ (n = 2 ∧ b = false))
theorem partQ_if {c : Prop} [Decidable c] {x y : Option (Int × Bool)} (h1 : PartQ x) (h2 : PartQ y) : PartQ (if c then x else y) := by split <;> assumption
theorem wordF_cases (s : ByteArray) : PartQ (wordF s) := by
  have q0 : PartQ (some (0, false)) := Or.inr ⟨_, _, rfl, Or.inl ⟨rfl, rfl⟩⟩
  have q1 : PartQ (some (1, false)) := Or.inr ⟨_, _, rfl, Or.inr (Or.inl ⟨rfl, rfl⟩)⟩
  have q2 : PartQ (some (2, true)) := Or.inr ⟨_, _, rfl, Or.inr (Or.inr (Or.inl ⟨rfl, rfl⟩))⟩
  have q3 : PartQ (some (2, false)) := Or.inr ⟨_, _, rfl, Or.inr (Or.inr (Or.inr ⟨rfl, rfl⟩))⟩
  have qn : PartQ none := Or.inl rfl
  unfold wordF
  repeat' (first | exact q0 | exact q1 | exact q2 | exact q3 | exact qn | refine partQ_if ?_ ?_)
theorem partsOf_cases (s : ByteArray) : ∃ n b, partsOf s = (n, b) ∧ ((n = 0 ∧ b = false) ∨ (n = 1 ∧ b = false) ∨ (n = 2 ∧ b = true) ∨ (n = 2 ∧ b = false)) := by
  unfold partsOf
  rcases wordF_cases s with h | ⟨n, b, h, h2⟩
  · rw [h]; exact ⟨0, false, rfl, Or.inl ⟨rfl, rfl⟩⟩
  · rw [h]; exact ⟨n, b, rfl, h2⟩
set_option maxRecDepth 100000 in
theorem zero_parts (w : World) : (zeroValue 43).run Tryd.prog w = .ok (.agg #[.int .i64 0, .bool false]) w := rfl
/-- The words, in a block somewhere. -/
def WsB (w : World) (mb : Nat) (w' : World) : Prop := ∃ D, w'.ownsMap Tryd.prog 9 partE mb 15 D ∧ WIs D wordF ∧ Below w.heap.size w w'
theorem words_b (w : World) : Calls Tryd.prog 14 #[] w fun e w' => ∃ mb, e = .returned (.map (some mb)) ∧ WsB w mb w' := (words_any w).mono (fun _ _ h => ⟨_, h.1, h.2⟩)
theorem WsB.bel {w w' : World} {mb : Nat} (h : WsB w mb w') : Below w.heap.size w w' := h.choose_spec.2.2
theorem look_wb {w w' w2 : World} {mb : Nat} (h : WsB w mb w') (hb : Below w'.heap.size w' w2) (s : ByteArray) (hs : s.size ≤ 9223372036854775807) (n : Int) (b : Bool) (hn : partsOf s = (n, b)) (c : Bool) (hc : (wordF s).isSome = c) :
    (Instr.lookup 44 (.map (some mb)) (.string s) true).run Tryd.prog w2 = .ok (.tuple #[.agg #[.int .i64 n, .bool b], .bool c]) w2 ∧ (Instr.lookup 44 (.map (some mb)) (.string s) false).run Tryd.prog w2 = .ok (.agg #[.int .i64 n, .bool b]) w2 := by
  obtain ⟨D, ho, hD, _⟩ := h
  have ho2 : w2.ownsMap Tryd.prog 9 partE mb 15 D := by
    obtain ⟨es, clock, h1, h2, h3, h4⟩ := ho
    exact ⟨es, clock, (hb.block _ (Array.getElem?_eq_some_iff.1 h1).1).trans h1, h2, h3, h4⟩
  have hkey : keyOf Tryd.prog 9 (.string s) = some (.string s.data.toList) := WideMaps.keyOf_string_mk Tryd.underlying9 (by unfold maxLen; omega)
  have h3 : D.atKey (.string s.data.toList) (partD 0 false) = partD n b := by
    rw [hD.at' s]
    unfold partsOf at hn
    cases e : wordF s with
    | none => rw [e] at hn; cases hn; rfl
    | some p => rw [e] at hn; cases hn; rfl
  refine ⟨?_, ?_⟩
  · obtain ⟨v, ps, h1, h2⟩ := ho2.look_ok (string_keyed Tryd.underlying9) Tryd.underlying44 (zero_parts w2) (partE_mk 0 false) hkey
    rw [h3] at h2
    rw [h1, partE_inv h2, hD.has s, hc]
  · obtain ⟨v, ps, h1, h2⟩ := ho2.lookup (string_keyed Tryd.underlying9) Tryd.underlying44 (zero_parts w2) (partE_mk 0 false) hkey
    rw [h3] at h2
    rw [h1, partE_inv h2]
/-- Has a step just such parts? -/
def fitB (n : Int) (b : Bool) (x : St) : Bool := (decide (0 < n) || x.a == 0) && (decide (1 < n) || x.b == 0) && (b || x.data.toList.isEmpty)
set_option maxRecDepth 100000 in
set_option maxHeartbeats 2000000 in
theorem fit_any (n : Int) (b : Bool) (x : St) (w : World) (hn : (n = 0 ∧ b = false) ∨ (n = 1 ∧ b = false) ∨ (n = 2 ∧ b = true) ∨ (n = 2 ∧ b = false)) (t : Bool) (ht : fitB n b x = t) :
    Calls Tryd.prog 21 #[.agg #[.int .i64 n, .bool b], x.val] w fun e w' => e = .returned (.bool t) ∧ Below w.heap.size w w' := by
  subst ht
  obtain ⟨wd, xa, xb, dt⟩ := x
  have H := fun q => hidT (show fitB n b ⟨wd, xa, xb, dt⟩ = q → fitB n b ⟨wd, xa, xb, dt⟩ = q from id)
  unfold fitB
  simp only
  cases ha : (xa == 0) <;> cases hb : (xb == 0) <;> cases hd : dt.toList.isEmpty <;> rcases hn with ⟨rfl, rfl⟩ | ⟨rfl, rfl⟩ | ⟨rfl, rfl⟩ | ⟨rfl, rfl⟩
  all_goals
    clear H
    go_enter Tryd.func21, Tryd.ntmps21
    go_wp2
    go_ret
    exact ⟨rfl, by repeat (first | with_reducible exact Below.refl _ _ | with_reducible refine balloc ?_ _ | with_reducible refine bdrew ?_ | with_reducible refine bset' ?_ (by omega) _ | with_reducible refine bthen ?_ (by assumption))⟩
end Go.Proofs.YtlhgjplipgandaaDoor
