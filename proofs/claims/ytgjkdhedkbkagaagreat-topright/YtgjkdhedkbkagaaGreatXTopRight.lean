/- TopRight: what is read is what was written last. The walk. -/
import Derived.Test.YtgjkdhedkbkagaaGreatJ45
namespace Go.Proofs.YtgjkdhedkbkagaaGreat
open Go.RowKit Go.BigFrame Go.Maps
set_option maxRecDepth 100000
attribute [local go_sem] Later.cell Later.frozen

set_option linter.unusedSimpArgs false in
set_option maxRecDepth 100000 in
set_option maxHeartbeats 8000000 in
theorem topRight_walk (l : List Sp) (la : Option Addr) (lc : Nat) (w : World) (hl : StepsAt w la l) :
    Calls Tryz.prog 5 #[.slice la l.length lc] w fun e w' => e = .returned (.bool true) ∧ Below w.heap.size w w' := by
  have HL := hidT hl
  clear hl
  go_enter Tryz.func5, Tryz.ntmps5
  go_wp2_with fail
  refine (works_any _).mono ?_
  rintro e w0 ⟨rfl, hb0⟩
  have HB0 := hidT hb0
  clear hb0
  go_wp2_with fail
  cases hb : lightsS l 120
  · refine (lightsS_any l la lc 120 _ (HL.out.later HB0.out) (by omega) false hb).mono ?_
    rintro e w1 ⟨rfl, hb1⟩
    go_wp2
    go_ret
    exact ⟨rfl, bthen HB0.out hb1⟩
  refine (lightsS_any l la lc 120 _ (HL.out.later HB0.out) (by omega) true hb).mono ?_
  rintro e w1 ⟨rfl, hb1⟩
  have h120 := lightsS_len hb
  have HB1 := hidT (bthen HB0.out hb1)
  clear hb1 hb HB0
  go_wp2_with fail
  refine (new_any _).mono ?_
  rintro e w2 ⟨rfl, hd, hb2, -⟩
  have HD := hidT hd
  have HB2 := hidT (bthen HB1.out hb2)
  have HG : Hid (w.heap.size ≤ w1.heap.size) := HB1.out.size
  clear hd hb2
  generalize w1.heap.size = b at *
  go_wp2_with fail
  refine (snew_any w b w2 HD.out HG.out HB2.out).mono ?_
  rintro e w3 ⟨s, rfl, ho⟩
  have HO3 := hidT ho
  clear ho HD HB2 HB1
  go_wp2_with fail
  refine wp_worldD (fun wz => AlW w w3.heap.size s b sk0 am0 0 wz) (al_new HO3.out) ?_
  intro w4 h4
  have HA4 := hidT h4
  clear h4 HO3
  generalize w3.heap.size = g at *
  go_wp2
  go_loopw [6] (fun i wr => ∃ (k : Nat) (q : Sk) (m : Am), k ≤ l.length ∧ i = .int .i64 k ∧ AlW w g s b q m k wr ∧ RI q m ∧ Fit (11 * k) q) (fun i _ => l.length - (intOf i).toNat)
  case atStart => exact ⟨0, sk0, am0, by omega, rfl, HA4.out, am0_ri, sk0_fit⟩
  case round =>
    obtain ⟨k, q, m, hk, rfl, ha, hri, hfi⟩ := hrel
    have HA := hidT ha
    have HI : Hid (RI q m ∧ Fit (11 * k) q) := ⟨hri, hfi⟩
    have HBr := ha.bel
    clear ha hri hfi
    by_cases hlt : k < l.length
    · have hlt' : (k : Int) < (l.length : Int) := by omega
      rcases HL.out.form with rfl | ⟨bl, ol, rfl⟩
      · exact absurd hlt (Nat.not_lt_zero _)
      obtain ⟨c0, c1, c2, c3⟩ := (HL.out.later HBr).cells hlt
      generalize hx : l[k] = x at *
      clear hx
      go_wp2_with fail
      refine (alone_step w wr g s b q m k HA.out (by omega) (11 * k) HI.out.2 (by omega) HI.out.1 x).mono ?_
      rintro e w5 ⟨rfl, q5, m5, ha5, hri5, hfi5, -⟩
      have HA5 := hidT ha5
      have HI5 : Hid (RI q5 m5 ∧ Fit (11 * (k + 1)) q5) := ⟨hri5, hfi5.mono (by omega)⟩
      clear ha5 hri5 hfi5 c0 c1 c2 c3
      go_wp2
      go_roundw
      case rel => exact ⟨k + 1, q5, m5, by omega, by go_num, HA5.out, HI5.out.1, HI5.out.2⟩
      case measure => simp [intOf]; omega
    · go_wp2
      go_ret
      exact ⟨rfl, HBr⟩
end Go.Proofs.YtgjkdhedkbkagaaGreat
