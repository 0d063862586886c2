/- The reference's natural number of a text. -/
import Derived.Test.YtlhgjplipgandaaDoorRPure
import Derived.Test.YtlhgjplipgandaaDoorRFault
namespace Go.Proofs.YtlhgjplipgandaaDoor
open Go.RowKit Go.BigFrame Go.Maps
attribute [local go_sem] Later.cell Later.frozen

theorem fold_le : ∀ (l : List UInt8) (n m : Nat), l.all digB = true → n < 10 ^ m → l.foldl natS n < 10 ^ (m + l.length)
  | [], n, m, _, h => by simpa using h
  | z :: l, n, m, hd, h => by
    simp only [List.all_cons, Bool.and_eq_true] at hd
    have hz := hd.1
    unfold digB at hz
    simp only [Bool.and_eq_true, decide_eq_true_eq] at hz
    have := fold_le l (natS n z) (m + 1) hd.2 (by unfold natS; rw [Nat.pow_succ]; omega)
    simp only [List.foldl_cons, List.length_cons]
    rwa [show m + (l.length + 1) = m + 1 + l.length by omega]
theorem natV_lt (l : List UInt8) (h : l.all digB = true) (h9 : l.length ≤ 9) : natV l < 1000000000 := by
  have := fold_le l 0 0 h (by simp)
  rw [Nat.zero_add] at this
  exact Nat.lt_of_lt_of_le this (Nat.le_trans (Nat.pow_le_pow_right (by omega) h9) (by decide))
theorem natV_snoc (l : List UInt8) (z : UInt8) : natV (l ++ [z]) = natS (natV l) z := by unfold natV; rw [List.foldl_append]; rfl
/-- How far a number has been read. -/
structure NatAt (s : ByteArray) (j n : Nat) : Prop where
  all : (s.data.toList.take j).all digB = true
  val : natV (s.data.toList.take j) = n
theorem NatAt.lt {s : ByteArray} {j n : Nat} (h : NatAt s j n) (h9 : j ≤ 9) : n < 1000000000 := by
  rw [← h.val]
  exact natV_lt _ h.all (by rw [List.length_take]; omega)
theorem take_byte (s : ByteArray) (j : Nat) (h : j < s.size) : s.data.toList.take (j + 1) = s.data.toList.take j ++ [s[j]'h] := by
  have h' : j < s.data.toList.length := h
  rw [List.take_succ_eq_append_getElem h']
  rfl
theorem NatAt.step {s : ByteArray} {j n z : Nat} (h : NatAt s j n) (hj : j < s.size) (hz : (s[j]'hj).toNat = z) (h1 : 48 ≤ z) (h2 : z ≤ 57) : NatAt s (j + 1) (10 * n + (z - 48)) := by
  have hd : digB (s[j]'hj) = true := by unfold digB; rw [hz, decide_eq_true h1, decide_eq_true h2]; rfl
  refine ⟨?_, ?_⟩
  · rw [take_byte s j hj, List.all_append, h.all]
    simp [hd]
  · rw [take_byte s j hj, natV_snoc, h.val]
    unfold natS
    rw [hz]
theorem nat_bad {s : ByteArray} {j : Nat} (hj : j < s.size) (hd : digB (s[j]'hj) = false) : s.data.toList.all digB = false := by
  rw [List.all_eq_false]
  exact ⟨s.data.toList[j]'hj, List.getElem_mem hj, by show ¬ digB (s[j]'hj) = true; rw [hd]; exact Bool.false_ne_true⟩
theorem digB_no {z : UInt8} (h : z.toNat < 48 ∨ 57 < z.toNat) : digB z = false := by
  unfold digB
  rcases h with h | h
  · rw [decide_eq_false (show ¬ 48 ≤ z.toNat by omega)]; rfl
  · rw [decide_eq_false (show ¬ z.toNat ≤ 57 by omega), Bool.and_false]
/-- The number, once its length and its first sign fit. -/
def natG (s : ByteArray) : Int := if s.data.toList.all digB = false then -1 else if 999 < natV s.data.toList then -1 else (natV s.data.toList : Int)
theorem natR_short {s : ByteArray} (h : s.size < 1 ∨ 9 < s.size) : natR s.data.toList = -1 := by
  have e : s.data.toList.length = s.size := Array.length_toList
  unfold natR
  rw [e, if_pos (h.elim Or.inl (fun h => Or.inr (Or.inl h)))]
theorem head_byte (s : ByteArray) (h : 0 < s.size) : s.data.toList.head? = some (s[0]'h) := by
  have h' : 0 < s.data.toList.length := h
  rw [List.head?_eq_getElem?, List.getElem?_eq_getElem h']
  rfl
theorem natR_zero {s : ByteArray} (h : 1 < s.size) (h0 : (s[0]'(by omega)).toNat = 48) : natR s.data.toList = -1 := by
  have e : s.data.toList.length = s.size := Array.length_toList
  unfold natR
  rw [if_pos]
  refine Or.inr (Or.inr ⟨?_, by rw [e]; exact h⟩)
  rw [head_byte s (by omega)]
  congr 1
  apply UInt8.toNat_inj.1
  rw [h0]; rfl
theorem natR_fit {s : ByteArray} (h1 : 1 ≤ s.size) (h9 : s.size ≤ 9) (h0 : ¬ (1 < s.size ∧ (s[0]'(by omega)).toNat = 48)) : natR s.data.toList = natG s := by
  have e : s.data.toList.length = s.size := Array.length_toList
  unfold natR natG
  rw [if_neg]
  rw [e]
  rintro (h | h | ⟨h, h2⟩)
  · omega
  · omega
  · rw [head_byte s (by omega)] at h
    apply h0
    refine ⟨h2, ?_⟩
    rw [Option.some.inj h]; rfl
theorem natG_bad {s : ByteArray} {j : Nat} (hj : j < s.size) (h : (s[j]'hj).toNat < 48 ∨ 57 < (s[j]'hj).toNat) : natG s = -1 := by
  unfold natG
  rw [if_pos (nat_bad hj (digB_no h))]
theorem NatAt.done {s : ByteArray} {n : Nat} (h : NatAt s s.size n) : natG s = if 999 < n then -1 else (n : Int) := by
  have e : s.data.toList.take s.size = s.data.toList := List.take_of_length_le (Nat.le_of_eq Array.length_toList)
  have h1 := h.all
  have h2 := h.val
  rw [e] at h1 h2
  unfold natG
  rw [h1, h2, if_neg (by decide)]
set_option maxRecDepth 100000 in
set_option maxHeartbeats 4000000 in
theorem natural_any (s : ByteArray) (hs : s.size ≤ 9223372036854775807) (w : World) : Calls Tryd.prog 20 #[.string s, .int .i64 999] w fun e w' => e = .returned (.int .i64 (natR s.data.toList)) ∧ Below w.heap.size w w' := by
  obtain ⟨r, hr⟩ : ∃ r, natR s.data.toList = r := ⟨_, rfl⟩
  rw [hr]
  have HR := hidT hr
  clear hr
  by_cases h1 : s.size < 1
  · have h10 : s.size = 0 := by omega
    have he : r = -1 := by rw [← HR.out]; exact natR_short (Or.inl h1)
    clear HR h1
    go_enter Tryd.func20, Tryd.ntmps20
    go_wp2
    go_ret
    exact ⟨by (try subst he); rfl, Below.refl _ _⟩
  have h10 : ¬ s.size = 0 := by omega
  have h1' : ¬ (s.size : Int) < 1 := by omega
  by_cases h9 : 9 < s.size
  · have h9' : (9 : Int) < (s.size : Int) := by omega
    have he : r = -1 := by rw [← HR.out]; exact natR_short (Or.inr h9)
    clear HR
    go_enter Tryd.func20, Tryd.ntmps20
    go_wp2
    go_ret
    exact ⟨by (try subst he); rfl, Below.refl _ _⟩
  have h9' : ¬ (9 : Int) < (s.size : Int) := by omega
  have k0 : 0 < s.size := by omega
  have k0' : (0 : Int) < (s.size : Int) := by omega
  obtain ⟨z0, hz0⟩ : ∃ z0 : Nat, (s[0]'k0).toNat = z0 := ⟨_, rfl⟩
  by_cases hb : z0 = 48 ∧ 1 < s.size
  · obtain ⟨rfl, hb⟩ := hb
    have hb' : (1 : Int) < (s.size : Int) := by omega
    have he : r = -1 := by rw [← HR.out]; exact natR_zero hb hz0
    clear HR
    go_enter Tryd.func20, Tryd.ntmps20
    go_wp2
    go_ret
    exact ⟨by (try subst he); rfl, Below.refl _ _⟩
  have HFIT : Hid (natR s.data.toList = natG s) := natR_fit (by omega) (by omega) (fun h => hb ⟨hz0.symm.trans h.2, h.1⟩)
  have hor : ((z0 : Int) == 48) = false ∨ (z0 = 48 ∧ ¬ (1 : Int) < (s.size : Int)) := by
    by_cases e : z0 = 48
    · exact Or.inr ⟨e, by omega⟩
    · exact Or.inl (beq_eq_false_iff_ne.2 (by omega))
  clear hb
  rcases hor with hq | ⟨rfl, hq⟩
  all_goals
    go_enter Tryd.func20, Tryd.ntmps20
    go_wp2
    clear hq hz0
    go_loopw [5, 6] (fun v i wr => ∃ j m : Nat, j ≤ s.size ∧ v = .int .i64 m ∧ i = .int .i64 j ∧ NatAt s j m ∧ SameW wr w) (fun _ i _ => s.size - (intOf i).toNat)
    case atStart => exact ⟨0, 0, by omega, rfl, rfl, ⟨rfl, rfl⟩, ⟨rfl⟩⟩
    case round =>
      obtain ⟨j, m, hj, rfl, rfl, hat, hw⟩ := hrel
      have hw2 := hw.same
      clear hw
      subst hw2
      have HAT := hidT hat
      have HM : m < 1000000000 := hat.lt (by omega)
      clear hat
      by_cases hlt : j < s.size
      · have hlt' : (j : Int) < (s.size : Int) := by omega
        have hj0 : (0 : Int) ≤ (j : Int) := by omega
        obtain ⟨z, hz⟩ : ∃ z : Nat, (s[j]'hlt).toNat = z := ⟨_, rfl⟩
        have HZ := hidT hz
        have hz8 : z < 256 := by rw [← hz]; exact UInt8.toNat_lt _
        by_cases h48 : z < 48
        · have q1 : (z : Int) < 48 := by omega
          have he : r = -1 := by rw [← HR.out, HFIT.out]; exact natG_bad hlt (Or.inl (by rw [HZ.out]; exact h48))
          clear HR HFIT HAT
          go_wp2
          go_ret
          exact ⟨by (try subst he); rfl, Below.refl _ _⟩
        have q1 : ¬ (z : Int) < 48 := by omega
        by_cases h57 : 57 < z
        · have q2 : (57 : Int) < (z : Int) := by omega
          have he : r = -1 := by rw [← HR.out, HFIT.out]; exact natG_bad hlt (Or.inr (by rw [HZ.out]; exact h57))
          clear HR HFIT HAT
          go_wp2
          go_ret
          exact ⟨by (try subst he); rfl, Below.refl _ _⟩
        · have q2 : ¬ (57 : Int) < (z : Int) := by omega
          have HN := hidT (HAT.out.step hlt HZ.out (by omega) (by omega))
          clear HAT
          go_wp2
          go_roundw
          case rel => exact ⟨j + 1, 10 * m + (z - 48), by omega, by go_num, by go_num, HN.out, ⟨rfl⟩⟩
          case measure => simp [intOf]; omega
      · obtain rfl : j = s.size := by omega
        have HD := hidT HAT.out.done
        by_cases h999 : 999 < m
        · have h' : (999 : Int) < (m : Int) := by omega
          have he : r = -1 := by rw [← HR.out, HFIT.out, HD.out, if_pos h999]
          clear HR HFIT HAT HD
          go_wp2
          go_ret
          exact ⟨by (try subst he); rfl, Below.refl _ _⟩
        · have h' : ¬ (999 : Int) < (m : Int) := by omega
          have he : r = m := by rw [← HR.out, HFIT.out, HD.out, if_neg h999]
          clear HR HFIT HAT HD
          go_wp2
          go_ret
          exact ⟨by (try subst he); rfl, Below.refl _ _⟩
end Go.Proofs.YtlhgjplipgandaaDoor
