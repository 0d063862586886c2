/- slices.Concat of two lists: new memory with the cells of the one, then of the other. -/
import Derived.Test.YtpmjgofjdejeeaaDoorAppend
namespace Go.Proofs.YtpmjgofjdejeeaaDoor
open Go.RowKit
theorem cellB_later {w w' : World} {b o : Nat} {v : Value} (hb : Below w.heap.size w w') (h : w.cell? ⟨b, o, none⟩ = some v) : w'.cell? ⟨b, o, none⟩ = some v := cellA_later hb h


set_option maxHeartbeats 1000000 in
theorem concatS_any (g o : Nat) (a1 a2 : Option Addr) (n1 n2 c1 c2 : Nat) (xs1 xs2 : List Value) (w : World) (h0 : w.cell? ⟨g, o, none⟩ = some (.slice a1 n1 c1)) (h1 : w.cell? ⟨g, o + 1, none⟩ = some (.slice a2 n2 c2))
    (r1 : RowAt w 1 a1 n1 c1 xs1) (r2 : RowAt w 1 a2 n2 c2 xs2) (b1 : n1 ≤ 100000) (b2 : n2 ≤ 100000) :
    Calls Tryd.prog 27 #[.slice (some ⟨g, o, none⟩) 2 2] w fun e w' => ∃ v, e = .returned v ∧ w'.ownsRow w.heap.size 9 1 v (n1 + n2) (xs1 ++ xs2) ∧ Below w.heap.size w w' := by
  obtain ⟨i, hi, hz0, hz1, hz2⟩ := pluck infoS
  have hl0 := lt_of_cellA h0
  go_enter Tryd.func27, Tryd.ntmps27
  go_wp2
  go_loopw [3, 11] (fun sz ix wr => w = wr ∧ ((ix = .int .i64 0 ∧ sz = .int .i64 0) ∨ (ix = .int .i64 1 ∧ sz = .int .i64 (n1 : Int)) ∨ (ix = .int .i64 2 ∧ sz = .int .i64 ((n1 : Int) + (n2 : Int))))) (fun _ ix _ => (2 - intOf ix).toNat)
  case atStart => exact ⟨rfl, Or.inl ⟨rfl, rfl⟩⟩
  case round =>
    obtain ⟨rfl, ⟨rfl, rfl⟩ | ⟨rfl, rfl⟩ | ⟨rfl, rfl⟩⟩ := hrel
    · go_wp2
      go_roundw
      case rel => simp
      case measure => simp [intOf]
    · go_wp2
      go_roundw
      case rel => simp
      case measure => simp [intOf]
    · go_wp2_with fail
      rw [show ((n1 : Int) + (n2 : Int)) = ((n1 + n2 : Nat) : Int) by omega]
      refine (growS_any (n1 + n2) _ (by omega)).mono ?_
      rintro e w1 ⟨v, rfl, hown, HB⟩
      go_wp2_with fail
      go_loopw [6, 27] (fun nv ix w2 => Below w.heap.size w w2 ∧ ((ix = .int .i64 0 ∧ w2.ownsRow w.heap.size 9 1 nv 0 []) ∨ (ix = .int .i64 1 ∧ w2.ownsRow w.heap.size 9 1 nv n1 xs1) ∨ (ix = .int .i64 2 ∧ w2.ownsRow w.heap.size 9 1 nv (n1 + n2) (xs1 ++ xs2)))) (fun _ ix _ => (2 - intOf ix).toNat)
      case atStart => exact ⟨HB, Or.inl ⟨rfl, hown⟩⟩
      case round =>
        clear HB hown
        obtain ⟨HB, ⟨rfl, hown⟩ | ⟨rfl, hown⟩ | ⟨rfl, hown⟩⟩ := hrel
        · have k0 := cellB_later HB h0
          have q1 := r1.later HB
          go_wp2_with (at_builtin; refine wpList_append_row rfl _ _ 33 rfl w.heap.size 9 i (.string ByteArray.empty) 1 16 Tryd.underlying33 hi hz0 hz1 hz2 rfl (by decide) _ _ _ rfl hown a1 n1 c1 xs1 rfl q1 (by unfold maxLen; omega) (by omega) HB.size ?_; intro v' w3 hown' HB')
          go_roundw
          case rel => exact ⟨HB.trans HB', Or.inr (Or.inl ⟨rfl, by simpa using hown'⟩)⟩
          case measure => simp [intOf]
        · have k0 := cellB_later HB h1
          have q1 := r2.later HB
          go_wp2_with (at_builtin; refine wpList_append_row rfl _ _ 33 rfl w.heap.size 9 i (.string ByteArray.empty) 1 16 Tryd.underlying33 hi hz0 hz1 hz2 rfl (by decide) _ _ _ rfl hown a2 n2 c2 xs2 rfl q1 (by unfold maxLen; omega) (by omega) HB.size ?_; intro v' w3 hown' HB')
          go_roundw
          case rel => exact ⟨HB.trans HB', Or.inr (Or.inr ⟨rfl, hown'⟩)⟩
          case measure => simp [intOf]
        · go_wp2
          go_ret
          exact ⟨_, rfl, hown, HB⟩

set_option maxHeartbeats 1000000 in
theorem concatI_any (g o : Nat) (a1 a2 : Option Addr) (n1 n2 c1 c2 : Nat) (xs1 xs2 : List Value) (w : World) (h0 : w.cell? ⟨g, o, none⟩ = some (.slice a1 n1 c1)) (h1 : w.cell? ⟨g, o + 1, none⟩ = some (.slice a2 n2 c2))
    (r1 : RowAt w 1 a1 n1 c1 xs1) (r2 : RowAt w 1 a2 n2 c2 xs2) (b1 : n1 ≤ 100000) (b2 : n2 ≤ 100000) :
    Calls Tryd.prog 28 #[.slice (some ⟨g, o, none⟩) 2 2] w fun e w' => ∃ v, e = .returned v ∧ w'.ownsRow w.heap.size 3 1 v (n1 + n2) (xs1 ++ xs2) ∧ Below w.heap.size w w' := by
  obtain ⟨i, hi, hz0, hz1, hz2⟩ := pluck infoI
  have hl0 := lt_of_cellA h0
  go_enter Tryd.func28, Tryd.ntmps28
  go_wp2
  go_loopw [3, 11] (fun sz ix wr => w = wr ∧ ((ix = .int .i64 0 ∧ sz = .int .i64 0) ∨ (ix = .int .i64 1 ∧ sz = .int .i64 (n1 : Int)) ∨ (ix = .int .i64 2 ∧ sz = .int .i64 ((n1 : Int) + (n2 : Int))))) (fun _ ix _ => (2 - intOf ix).toNat)
  case atStart => exact ⟨rfl, Or.inl ⟨rfl, rfl⟩⟩
  case round =>
    obtain ⟨rfl, ⟨rfl, rfl⟩ | ⟨rfl, rfl⟩ | ⟨rfl, rfl⟩⟩ := hrel
    · go_wp2
      go_roundw
      case rel => simp
      case measure => simp [intOf]
    · go_wp2
      go_roundw
      case rel => simp
      case measure => simp [intOf]
    · go_wp2_with fail
      rw [show ((n1 : Int) + (n2 : Int)) = ((n1 + n2 : Nat) : Int) by omega]
      refine (growI_any (n1 + n2) _ (by omega)).mono ?_
      rintro e w1 ⟨v, rfl, hown, HB⟩
      go_wp2_with fail
      go_loopw [6, 27] (fun nv ix w2 => Below w.heap.size w w2 ∧ ((ix = .int .i64 0 ∧ w2.ownsRow w.heap.size 3 1 nv 0 []) ∨ (ix = .int .i64 1 ∧ w2.ownsRow w.heap.size 3 1 nv n1 xs1) ∨ (ix = .int .i64 2 ∧ w2.ownsRow w.heap.size 3 1 nv (n1 + n2) (xs1 ++ xs2)))) (fun _ ix _ => (2 - intOf ix).toNat)
      case atStart => exact ⟨HB, Or.inl ⟨rfl, hown⟩⟩
      case round =>
        clear HB hown
        obtain ⟨HB, ⟨rfl, hown⟩ | ⟨rfl, hown⟩ | ⟨rfl, hown⟩⟩ := hrel
        · have k0 := cellB_later HB h0
          have q1 := r1.later HB
          go_wp2_with (at_builtin; refine wpList_append_row rfl _ _ 22 rfl w.heap.size 3 i (.int .i64 0) 1 8 Tryd.underlying22 hi hz0 hz1 hz2 rfl (by decide) _ _ _ rfl hown a1 n1 c1 xs1 rfl q1 (by unfold maxLen; omega) (by omega) HB.size ?_; intro v' w3 hown' HB')
          go_roundw
          case rel => exact ⟨HB.trans HB', Or.inr (Or.inl ⟨rfl, by simpa using hown'⟩)⟩
          case measure => simp [intOf]
        · have k0 := cellB_later HB h1
          have q1 := r2.later HB
          go_wp2_with (at_builtin; refine wpList_append_row rfl _ _ 22 rfl w.heap.size 3 i (.int .i64 0) 1 8 Tryd.underlying22 hi hz0 hz1 hz2 rfl (by decide) _ _ _ rfl hown a2 n2 c2 xs2 rfl q1 (by unfold maxLen; omega) (by omega) HB.size ?_; intro v' w3 hown' HB')
          go_roundw
          case rel => exact ⟨HB.trans HB', Or.inr (Or.inr ⟨rfl, hown'⟩)⟩
          case measure => simp [intOf]
        · go_wp2
          go_ret
          exact ⟨_, rfl, hown, HB⟩

end Go.Proofs.YtpmjgofjdejeeaaDoor
