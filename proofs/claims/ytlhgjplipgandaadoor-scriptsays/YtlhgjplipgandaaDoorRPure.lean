/- The reference's numbers of texts: a number's digits are its text: no world in it. -/
import Derived.Test.YtlhgjplipgandaaDoorScript12
namespace Go.Proofs.YtlhgjplipgandaaDoor
open Go.RowKit

def digB (z : UInt8) : Bool := decide (48 ≤ z.toNat) && decide (z.toNat ≤ 57)
def natS (n : Nat) (z : UInt8) : Nat := 10 * n + (z.toNat - 48)
def natV (l : List UInt8) : Nat := l.foldl natS 0
/-- The natural number of a text, up to 999; below 0: none. -/
def natR (l : List UInt8) : Int := if l.length < 1 ∨ 9 < l.length ∨ (l.head? = some 48 ∧ 1 < l.length) then -1 else if l.all digB = false then -1 else if 999 < natV l then -1 else (natV l : Int)
theorem fold_ge : ∀ (l : List UInt8) (n : Nat), n * 10 ^ l.length ≤ l.foldl natS n
  | [], n => by simp
  | z :: l, n => by
    have ih := fold_ge l (natS n z)
    simp only [List.foldl_cons, List.length_cons]
    refine Nat.le_trans ?_ ih
    rw [Nat.pow_succ, ← Nat.mul_assoc, Nat.mul_right_comm]
    refine Nat.mul_le_mul_right _ ?_
    unfold natS
    omega
theorem dig_fin {z : UInt8} (h : digB z = true) : ∃ k : Fin 10, z = UInt8.ofNat (48 + k.val) := by
  unfold digB at h
  simp only [Bool.and_eq_true, decide_eq_true_eq] at h
  refine ⟨⟨z.toNat - 48, by omega⟩, ?_⟩
  apply UInt8.toNat_inj.1
  simp
  omega
theorem nat1 : ∀ a : Fin 10, [UInt8.ofNat (48 + a.val)] = Lib.itoa (natV [UInt8.ofNat (48 + a.val)] : Nat) := by decide +kernel
theorem nat2 : ∀ a b : Fin 10, a.val = 0 ∨ [UInt8.ofNat (48 + a.val), UInt8.ofNat (48 + b.val)] = Lib.itoa (natV [UInt8.ofNat (48 + a.val), UInt8.ofNat (48 + b.val)] : Nat) := by decide +kernel
theorem nat3 : ∀ a b c : Fin 10, a.val = 0 ∨ [UInt8.ofNat (48 + a.val), UInt8.ofNat (48 + b.val), UInt8.ofNat (48 + c.val)] = Lib.itoa (natV [UInt8.ofNat (48 + a.val), UInt8.ofNat (48 + b.val), UInt8.ofNat (48 + c.val)] : Nat) := by decide +kernel
theorem nat_fin : ∀ n : Fin 1000, natR (Lib.itoa (n.val : Int)) = (n.val : Int) := by decide +kernel
/-- A number's text tells it. -/
theorem nat_itoa (n : Int) (h : 0 ≤ n ∧ n ≤ 999) : natR (Lib.itoa n) = n := by
  have := nat_fin ⟨n.toNat, by omega⟩
  rwa [show ((⟨n.toNat, by omega⟩ : Fin 1000).val : Int) = n by simp; omega] at this
/-- And what tells a number is its text. -/
theorem nat_back (l : List UInt8) (n : Int) (h : natR l = n) (h0 : 0 ≤ n) : l = Lib.itoa n ∧ n ≤ 999 := by
  unfold natR at h
  split at h
  · omega
  rename_i h1
  split at h
  · omega
  rename_i h2
  split at h
  · omega
  rename_i h3
  have h2' : l.all digB = true := by simpa using h2
  refine ⟨?_, by omega⟩
  rw [← h]
  match l, h1, h2', h3 with
  | [], h1, _, _ => exact absurd (Or.inl (by simp)) h1
  | [a], _, hd, _ =>
    simp only [List.all_cons, List.all_nil, Bool.and_true] at hd
    obtain ⟨x, rfl⟩ := dig_fin hd
    exact nat1 x
  | [a, b], h1, hd, _ =>
    simp only [List.all_cons, List.all_nil, Bool.and_true, Bool.and_eq_true] at hd
    obtain ⟨x, rfl⟩ := dig_fin hd.1
    obtain ⟨y, rfl⟩ := dig_fin hd.2
    rcases nat2 x y with e | e
    · exact absurd (Or.inr (Or.inr ⟨by simp [e], by simp⟩)) h1
    · exact e
  | [a, b, c], h1, hd, _ =>
    simp only [List.all_cons, List.all_nil, Bool.and_true, Bool.and_eq_true] at hd
    obtain ⟨x, rfl⟩ := dig_fin hd.1
    obtain ⟨y, rfl⟩ := dig_fin hd.2.1
    obtain ⟨z, rfl⟩ := dig_fin hd.2.2
    rcases nat3 x y z with e | e
    · exact absurd (Or.inr (Or.inr ⟨by simp [e], by simp⟩)) h1
    · exact e
  | a :: b :: c :: d :: r, h1, hd, h3 =>
    exfalso
    simp only [List.all_cons, Bool.and_eq_true] at hd
    obtain ⟨x, rfl⟩ := dig_fin hd.1
    have hx : ¬ x.val = 0 := fun e => h1 (Or.inr (Or.inr ⟨by simp [e], by simp⟩))
    apply h3
    have e1 : natV (UInt8.ofNat (48 + x.val) :: b :: c :: d :: r) = (b :: c :: d :: r).foldl natS (natS 0 (UInt8.ofNat (48 + x.val))) := rfl
    have e2 := fold_ge (b :: c :: d :: r) (natS 0 (UInt8.ofNat (48 + x.val)))
    have e3 : natS 0 (UInt8.ofNat (48 + x.val)) = x.val := by
      unfold natS
      have := x.isLt
      simp
      omega
    rw [e1]
    rw [e3] at e2 ⊢
    simp only [List.length_cons] at e2
    have e4 : 1000 ≤ 10 ^ (r.length + 1 + 1 + 1) := by
      have : 10 ^ 3 ≤ 10 ^ (r.length + 3) := Nat.pow_le_pow_right (by omega) (by omega)
      exact this
    have e5 : 10 ^ (r.length + 1 + 1 + 1) ≤ x.val * 10 ^ (r.length + 1 + 1 + 1) := Nat.le_mul_of_pos_left _ (by omega)
    omega
end Go.Proofs.YtlhgjplipgandaaDoor
