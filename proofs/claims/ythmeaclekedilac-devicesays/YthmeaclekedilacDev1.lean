/- A device: New, Peek, Busy. -/
import Derived.Test.YthmeaclekedilacDev
import Derived.Lib.SliceRun
namespace Go.Proofs.Ythmeaclekedilac
open Go.RowKit Go.BigFrame
attribute [local go_sem] Later.cell Later.frozen

def d0 : Dl := ⟨List.replicate 32 ByteArray.empty, List.replicate 32 ByteArray.empty, [], 0, []⟩
def an0 : An := ⟨none, 0, none, 0⟩
theorem d0_at (w : World) (b : Nat) (h : w.heap[b]? = some (.cells (d0.cells an0).toArray 101 (0, 0))) : DevAt b d0 an0 w where
  n32 := rfl
  g32 := rfl
  blk := h
  wrow := World.ownsRow_nil _ _ _ _
  brow := World.ownsRow_nil _ _ _ _
  sepw := fun p hp => by cases hp
  sepb := fun p hp => by cases hp
  sepwb := fun p q hp => by cases hp
  reqs := fun r hr => by cases hr
  wfin := fun r hr => by cases hr
  nod := by simp [d0]
  blen := by simp [d0]
  nxt := by simp [d0]
set_option maxRecDepth 100000 in
set_option maxHeartbeats 400000 in
theorem new_any (w : World) : Calls Try.prog 11 #[] w fun e w' => e = .returned (.pointer (some ⟨w.heap.size, 0, none⟩)) ∧ DevAt w.heap.size d0 an0 w' ∧ Below w.heap.size w w' ∧ w'.heap.size = w.heap.size + 1 := by
  have hz : ∀ w', Sem.run Try.prog (zeroValue 101) w' = .ok (.agg (d0.cells an0).toArray) w' := fun _ => rfl
  go_enter Try.func11, Try.ntmps11
  go_wp2
  go_ret
  refine ⟨rfl, d0_at _ _ ?_, below1 _ _, by simp⟩
  rw [heap_alloc_new]
set_option maxHeartbeats 400000 in
theorem peek_no (b : Nat) (p : Int) (w : World) (h : p < 0 ∨ 32 ≤ p) :
    Calls Try.prog 25 #[.pointer (some ⟨b, 0, none⟩), .int .i64 p] w fun e w' => e = .returned (.string ⟨#[]⟩) ∧ Below w.heap.size w w' := by
  rcases h with h | h
  · go_enter Try.func25, Try.ntmps25
    go_wp2
    go_ret
    exact ⟨rfl, Below.refl _ _⟩
  · have h' : ¬ p < 0 := by omega
    go_enter Try.func25, Try.ntmps25
    go_wp2
    go_ret
    exact ⟨rfl, Below.refl _ _⟩
set_option maxHeartbeats 400000 in
theorem peek_in (b : Nat) (d : Dl) (a : An) (k : Nat) (w : World) (h : DevAt b d a w) (hk : k < 32) (s : ByteArray) (hs : d.now.getD k ByteArray.empty = s) :
    Calls Try.prog 25 #[.pointer (some ⟨b, 0, none⟩), .int .i64 k] w fun e w' => e = .returned (.string s) ∧ Below w.heap.size w w' := by
  have c := h.cNow k hk
  rw [hs] at c
  have h1 : ¬ (k : Int) < 0 := by omega
  have h2 : ¬ (32 : Int) ≤ (k : Int) := by omega
  have h3 : (k : Int) < 32 := by omega
  clear hs h
  go_enter Try.func25, Try.ntmps25
  go_wp2
  go_ret
  exact ⟨rfl, Below.refl _ _⟩
theorem infoR : (Try.prog.info? 38).map (fun i => (i.zero, i.size, i.bytes)) = some (some (.agg #[.bool false, .int .i64 0, .int .i64 0, .slice none 0 0, .slice none 0 0, .int .i64 0]), 6, 80) := by kernel_rfl
theorem rowAll {w : World} {a : Option Addr} {c : Nat} {l : List Rq} (h : ReqsAt w a l) (hn : a = none → c = 0) : RowAt w 6 a l.length c (rcells l) := by
  rcases h.1 with rfl | ⟨b, o, rfl, hc⟩
  · cases a with
    | none => exact ⟨rfl, by simp [rcells], Or.inl ⟨rfl, rfl, hn rfl⟩⟩
    | some ad => exact ⟨rfl, by simp [rcells], Or.inr ⟨ad, rfl, fun j u h => by simp [rcells] at h⟩⟩
  · refine ⟨rcells_length l, rcells_one l, Or.inr ⟨_, rfl, fun k u hk => ?_⟩⟩
    obtain ⟨i, j, hi, hj, rfl, rfl⟩ := rcells_inv hk
    rw [add_mk', ← hc i hi j hj]
    congr 2
    omega
set_option maxRecDepth 100000 in
set_option maxHeartbeats 1000000 in
theorem cloneD (l : List Rq) (a : Option Addr) (c : Nat) (w : World) (hl : ReqsAt w a l) (hn : a = none → c = 0) (h10 : l.length ≤ 100000) :
    Calls Try.prog 61 #[.slice a l.length c] w fun e w' => ∃ a' c', e = .returned (.slice a' l.length c') ∧ ReqsAt w' a' l ∧ (a' = none → c' = 0) ∧ Below w.heap.size w w' := by
  obtain ⟨i, hi, hz0, hz1, hz2⟩ := pluck infoR
  have R := rowAll hl hn
  have q22 : ∀ (w : World) (a : Option Addr) (n c n' c' : Nat), (binOp .eql 30 (.slice a n c) (.slice none n' c')).run Try.prog w = .ok (.bool a.isNone) w := fun w a n c n' c' => Lib.run_eql_slice_nil w _ _ a n c n' c' Try.underlying30
  cases a with
  | none =>
    obtain rfl := hn rfl
    have hl0 : l = [] := by
      rcases hl.form with h | ⟨b, o, h⟩
      · exact h
      · cases h
    subst hl0
    go_enter Try.func61, Try.ntmps61
    go_wp2
    go_ret
    exact ⟨none, 0, rfl, ⟨Or.inl rfl, by simp, by simp⟩, fun _ => rfl, by repeat (first | with_reducible exact Below.refl _ _ | with_reducible refine balloc ?_ _ | with_reducible refine bdrew ?_ | with_reducible refine bset' ?_ (by omega) _ | with_reducible refine bthen ?_ (by assumption))⟩
  | some ad =>
    have HL : Hid (l.length ≤ 100000) := h10
    go_enter Try.func61, Try.ntmps61
    go_wp2_with (at_builtin; refine wpList_append_row rfl _ _ 30 rfl w.heap.size 38 i _ 6 80 Try.underlying30 hi hz0 hz1 hz2 rfl (by decide) _ 0 [] rfl (World.ownsRow_made _ _ _ (Nat.le_refl _) (by unfold maxLen; omega) (by simp)) (some ad) l.length c (rcells l) rfl (R.later (by repeat (first | with_reducible exact Below.refl _ _ | with_reducible refine balloc ?_ _ | with_reducible refine bdrew ?_ | with_reducible refine bset' ?_ (by omega) _ | with_reducible refine bthen ?_ (by assumption)))) (by unfold maxLen; omega) (by omega) (by simp) ?_; intro v1 w2 hown1 hb1)
    rw [Nat.zero_add, List.nil_append] at hown1
    obtain ⟨a', c', rfl, hR, _, _, hnn, _⟩ := reqs_of_owned hown1 (fun r hr => (hl.2.1 r hr).later ((balloc (Below.refl _ _) _).trans hb1)) rfl (by omega)
    go_wp2
    go_ret
    exact ⟨a', c', rfl, hR, hnn, (balloc (Below.refl _ _) _).trans hb1⟩
theorem DevAt.bnil {b : Nat} {d : Dl} {a : An} {w : World} (h : DevAt b d a w) : a.ba = none → a.bc = 0 := by
  obtain ⟨x, c, hv, h1, _⟩ := slice_of_own h.brow
  simp only [Value.slice.injEq, true_and] at hv
  obtain ⟨rfl, rfl⟩ := hv
  exact h1
set_option maxHeartbeats 400000 in
theorem busy_any (b : Nat) (d : Dl) (a : An) (w : World) (h : DevAt b d a w) :
    Calls Try.prog 24 #[.pointer (some ⟨b, 0, none⟩)] w fun e w' => ∃ a' c', e = .returned (.slice a' d.busy.length c') ∧ ReqsAt w' a' d.busy ∧ (a' = none → c' = 0) ∧ Below w.heap.size w w' := by
  have c := h.c66
  have hb := h.blen
  go_enter Try.func24, Try.ntmps24
  go_wp2_with fail
  refine (cloneD d.busy a.ba a.bc _ h.reqsAt h.bnil (by omega)).mono ?_
  rintro e w1 ⟨a', c', rfl, hR, hn, hb1⟩
  go_wp2
  go_ret
  exact ⟨a', c', rfl, hR, hn, hb1⟩
end Go.Proofs.Ythmeaclekedilac
