/- slices.Insert of one sector. -/
import Derived.Test.YtpmjgofjdejeeacCache7
import Derived.Lib.Overlaps
namespace Go.Proofs.Ytpmjgofjdejeeac
open Go.RowKit Go.BigFrame
attribute [local go_sem] Later.cell Later.frozen

def bcs (x : Bf) : List Value := [x.cell 0, x.cell 1, x.cell 2, x.cell 3]
theorem bcs_bcells (x : Bf) : bcells [x] = bcs x := rfl

set_option maxRecDepth 100000 in
set_option maxHeartbeats 2000000 in
/-- At the end. -/
theorem insB_end (l : List Bf) (a : Option Addr) (c base vb : Nat) (x : Bf) (tv : TypeId) (w : World) (h8 : l.length ≤ 1000) (hbase : base ≤ w.heap.size) (hN : NewBufs base w a c l) (hv : w.heap[vb]? = some (.cells (bcs x).toArray tv (0, 0))) :
    Calls Try.prog 70 #[.slice a l.length c, .int .i64 l.length, .slice (some ⟨vb, 0, none⟩) 1 1] w fun e w' =>
      ∃ a' c', e = .returned (.slice a' (l.length + 1) c') ∧ NewBufs base w' a' c' (l ++ [x]) ∧ Below base w w' := by
  obtain ⟨i, hi, hz0, hz1, hz2⟩ := pluck infoB
  have R : RowAt w 4 (some ⟨vb, 0, none⟩) 1 1 (bcells [x]) := ⟨rfl, bcells_one _, Or.inr ⟨_, rfl, fun j u hj => by rw [bcs_bcells] at hj; exact cell_row hv 0 j u (by simpa using hj)⟩⟩
  have HL : Hid (l.length ≤ 1000) := h8
  have HO := hidB hN.own
  have HNil := hidB hN.nil
  have cp := hN.cap
  clear hN hv
  cases a with
  | none =>
    obtain rfl := HNil.out rfl
    have h0 : l.length = 0 := by omega
    obtain rfl := List.eq_nil_of_length_eq_zero h0
    go_enter Try.func70, Try.ntmps70
    go_wp2_with (at_builtin; refine wpList_append_row rfl _ _ 70 rfl base 72 i _ 4 40 Try.underlying70 hi hz0 hz1 hz2 rfl (by decide) _ 0 [] rfl HO.out (some ⟨vb, 0, none⟩) 1 1 (bcells [x]) rfl R (by unfold maxLen; omega) (by omega) hbase ?_; intro v1 w2 hown1 hb1)
    all_goals
      rw [Nat.zero_add, List.nil_append] at hown1
      obtain ⟨a', c', rfl, hN'⟩ := new_of_owned (l := [x]) hown1 rfl (by simp; try omega)
      have HN := hidB hN'
      clear hN'
      go_wp2
      go_ret
      exact ⟨a', c', rfl, HN.out, hb1⟩
  | some ad =>
    go_enter Try.func70, Try.ntmps70
    go_wp2_with (at_builtin; refine wpList_append_row rfl _ _ 70 rfl base 72 i _ 4 40 Try.underlying70 hi hz0 hz1 hz2 rfl (by decide) _ l.length (bcells l) rfl HO.out (some ⟨vb, 0, none⟩) 1 1 (bcells [x]) rfl R (by unfold maxLen; omega) (by omega) hbase ?_; intro v1 w2 hown1 hb1)
    all_goals
      rw [← bcells_append] at hown1
      obtain ⟨a', c', rfl, hN'⟩ := new_of_owned (l := l ++ [x]) hown1 (by simp) (by simp; try omega)
      have e : (l ++ [x]).length = l.length + 1 := by simp
      have HN := hidB hN'
      clear hN'
      rw [e]
      clear e
      go_wp2
      go_ret
      exact ⟨a', c', rfl, HN.out, hb1⟩
end Go.Proofs.Ytpmjgofjdejeeac
