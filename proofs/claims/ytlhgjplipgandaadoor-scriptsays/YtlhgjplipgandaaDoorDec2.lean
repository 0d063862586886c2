/- The document's answer: a number's digits, with a sign. -/
import Derived.Test.YtlhgjplipgandaaDoorDec
namespace Go.Proofs.YtlhgjplipgandaaDoor
open Go.RowKit Go.BigFrame
attribute [local go_sem] Later.cell Later.frozen

theorem strB (a b : List UInt8) (h : a.length + b.length ≤ 9223372036854775807) (W : World) : Sem.run Tryd.prog (Op.stringOp .add ⟨a.toArray⟩ ⟨b.toArray⟩) W = .ok (.string ⟨(a ++ b).toArray⟩) W := by
  rw [run_string_add_sum]
  · congr 2
  · simpa [ByteArray.size] using h
theorem tdiv_neg (m : Nat) : (-(m : Int)).tdiv 10 = -((m / 10 : Nat) : Int) := by rw [Int.neg_tdiv, Int.tdiv_eq_ediv_of_nonneg (by omega)]; omega
theorem tmod_neg (m : Nat) : (-(m : Int)).tmod 10 = -((m % 10 : Nat) : Int) := by rw [Int.neg_tmod, Int.tmod_eq_emod_of_nonneg (by omega)]; omega
set_option maxHeartbeats 400000 in
theorem dec_neg (m : Nat) (n : Int) (hn : n = -(m : Int)) (w : World) (h1 : n < -9) (hm : -9223372036854775808 ≤ n) :
    Calls Tryd.prog 17 #[.int .i64 n] w fun e w' => e = .returned (.string (decB n)) ∧ Below w.heap.size w w' := by
  have hq : wrap64 (-n.tdiv 10) = ((m / 10 : Nat) : Int) := by
    rw [hn, tdiv_neg]; unfold wrap64; omega
  have hr : wrap64 (-n.tmod 10) = ((m % 10 : Nat) : Int) := by
    rw [hn, tmod_neg]; unfold wrap64; omega
  have e : decB n = ⟨([45] ++ digs (m / 10) ++ digs (m % 10)).toArray⟩ := by unfold decB; rw [if_pos h1, show n.natAbs = m by omega]; simp
  have l1 := digs_len 18 (m / 10) (by omega)
  have l2 := digs_len 18 (m % 10) (by omega)
  have D1 := dec_nat (m / 10) (by omega)
  have D2 := dec_nat (m % 10) (by omega)
  rw [e]
  have s1 := strB [45] (digs (m / 10)) (by simp; omega)
  have s2 := strB ([45] ++ digs (m / 10)) (digs (m % 10)) (by simp; omega)
  generalize ([45] ++ digs (m / 10) ++ digs (m % 10)) = u at *
  generalize ([45] ++ digs (m / 10)) = v at *
  generalize digs (m / 10) = x at *
  generalize digs (m % 10) = y at *
  generalize m / 10 = q at *
  generalize m % 10 = r at *
  clear e l1 l2 hn
  go_enter Tryd.func17, Tryd.ntmps17
  go_wp2_with fail
  refine (D1 _ _ rfl).mono ?_
  rintro e w1 ⟨rfl, hb1⟩
  go_wp2_with fail
  refine (D2 _ _ rfl).mono ?_
  rintro e w2 ⟨rfl, hb2⟩
  go_wp2
  go_ret
  exact ⟨rfl, by repeat (first | with_reducible exact Below.refl _ _ | with_reducible refine balloc ?_ _ | with_reducible refine bdrew ?_ | with_reducible refine bset' ?_ (by omega) _ | with_reducible refine bthen ?_ (by assumption))⟩
set_option maxHeartbeats 400000 in
theorem dec_negs (m : Nat) (n : Int) (hn : n = -(m : Int)) (w : World) (h1 : ¬ n < -9) (h0 : n < 0) :
    Calls Tryd.prog 17 #[.int .i64 n] w fun e w' => e = .returned (.string (decB n)) ∧ Below w.heap.size w w' := by
  have hq : wrap64 (-n) = (m : Int) := by
    rw [hn]; unfold wrap64; omega
  have e : decB n = ⟨([45] ++ digs m).toArray⟩ := by unfold decB; rw [if_neg h1, if_pos h0, show n.natAbs = m by omega]; simp
  have l1 := digs_len 18 m (by omega)
  have D1 := dec_nat m (by omega)
  rw [e]
  have s1 := strB [45] (digs m) (by simp; omega)
  generalize ([45] ++ digs m) = u at *
  generalize digs m = x at *
  have HN : Hid (-n = (m : Int)) := by show -n = (m : Int); omega
  clear e l1 hn hq
  go_enter Tryd.func17, Tryd.ntmps17
  go_wp2_with fail
  refine (D1 _ _ HN.out).mono ?_
  rintro e w1 ⟨rfl, hb1⟩
  go_wp2
  go_ret
  exact ⟨rfl, by repeat (first | with_reducible exact Below.refl _ _ | with_reducible refine balloc ?_ _ | with_reducible refine bdrew ?_ | with_reducible refine bset' ?_ (by omega) _ | with_reducible refine bthen ?_ (by assumption))⟩
theorem dec_any (n : Int) (w : World) (h1 : -9223372036854775808 ≤ n) (h2 : n ≤ 9223372036854775807) :
    Calls Tryd.prog 17 #[.int .i64 n] w fun e w' => e = .returned (.string (decB n)) ∧ Below w.heap.size w w' := by
  by_cases h9 : n < -9
  · exact dec_neg n.natAbs n (by omega) w h9 h1
  by_cases h0 : n < 0
  · exact dec_negs n.natAbs n (by omega) w h9 h0
  have e : decB n = ⟨(digs n.natAbs).toArray⟩ := by unfold decB; rw [if_neg h9, if_neg h0]
  rw [e]
  exact dec_nat n.natAbs (by omega) n w (by omega)
theorem decB_len (n : Int) (h1 : -9223372036854775808 ≤ n) (h2 : n ≤ 9223372036854775807) : (decB n).size ≤ 60 := by
  have l1 := digs_len 18 (n.natAbs / 10) (by omega)
  have l2 := digs_len 18 (n.natAbs % 10) (by omega)
  have l3 := digs_len 18 n.natAbs (by omega)
  unfold decB
  simp only [ByteArray.size]
  split
  · simp; omega
  · split
    · simp; omega
    · simp; omega
end Go.Proofs.YtlhgjplipgandaaDoor
