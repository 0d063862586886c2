/- TopHard: never is too much dirty, nor too much waiting, nor has the disk too much. The walk. -/
import Derived.Test.YtgjkdhedkbkagaaGreatJ39
namespace Go.Proofs.YtgjkdhedkbkagaaGreat
open Go.RowKit Go.BigFrame Go.Maps
set_option maxRecDepth 100000
attribute [local go_sem] Later.cell Later.frozen

set_option maxHeartbeats 4000000 in
theorem topHard_walk (l : List Sp) (la : Option Addr) (lc : Nat) (w : World) (hl : StepsAt w la l) :
    Calls Tryz.prog 3 #[.slice la l.length lc] w fun e w' => e = .returned (.bool true) ∧ Below w.heap.size w w' := by
  have HL := hidT hl
  clear hl
  go_enter Tryz.func3, Tryz.ntmps3
  go_wp2_with fail
  refine (works_any _).mono ?_
  rintro e w0 ⟨rfl, hb0⟩
  have HB0 := hidT hb0
  clear hb0
  go_wp2_with fail
  cases hb : lightsS l 120
  · refine (lightsS_any l la lc 120 _ (HL.out.later HB0.out) (by omega) false hb).mono ?_
    rintro e w1 ⟨rfl, hb1⟩
    go_wp2
    go_ret
    exact ⟨rfl, bthen HB0.out hb1⟩
  refine (lightsS_any l la lc 120 _ (HL.out.later HB0.out) (by omega) true hb).mono ?_
  rintro e w1 ⟨rfl, hb1⟩
  have h120 := lightsS_len hb
  have HB1 := hidT (bthen HB0.out hb1)
  clear hb1 hb HB0
  go_wp2_with fail
  refine (new_any _).mono ?_
  rintro e w2 ⟨rfl, hd, hb2, -⟩
  have HD := hidT hd
  have HB2 := hidT (bthen HB1.out hb2)
  have HG : Hid (w.heap.size ≤ w1.heap.size) := HB1.out.size
  clear hd hb2
  generalize w1.heap.size = b at *
  go_wp2_with fail
  refine (snew_any w b w2 HD.out HG.out HB2.out).mono ?_
  rintro e w3 ⟨s, rfl, ho⟩
  have HO3 := hidT ho
  clear ho HD HB2 HB1
  go_wp2
  go_loopw [5] (fun i wr => ∃ k : Nat, k ≤ l.length ∧ i = .int .i64 k ∧ Own w s b (sk0.steps (l.take k)) wr) (fun i _ => l.length - (intOf i).toNat)
  case atStart => exact ⟨0, by omega, rfl, HO3.out⟩
  case round =>
    obtain ⟨k, hk, rfl, ho⟩ := hrel
    have HO := hidT ho
    have HBr := ho.bel
    clear ho
    by_cases hlt : k < l.length
    · have hlt' : (k : Int) < (l.length : Int) := by omega
      rcases HL.out.form with rfl | ⟨bl, ol, rfl⟩
      · exact absurd hlt (Nat.not_lt_zero _)
      obtain ⟨c0, c1, c2, c3⟩ := (HL.out.later HBr).cells hlt
      have HT := hidT (steps_take hlt sk0)
      have HF := hidT (sk0_fit.steps (l.take k))
      have HF2 := hidT (sk0_fit.steps (l.take (k + 1)))
      have HLK : Hid ((l.take k).length ≤ 120) := by show (l.take k).length ≤ 120; rw [List.length_take]; omega
      generalize hx : l[k] = x at *
      clear hx
      go_wp2_with fail
      refine (own_step w wr s b _ _ HO.out HF.out (by have := HLK.out; omega) x ((sk0.steps (l.take k)).doStep x).1 (sk0.steps (l.take (k + 1))) (Prod.ext rfl HT.out.symm)).mono ?_
      generalize errOf ((sk0.steps (l.take k)).doStep x).1 = ev
      rintro e w4 ⟨rfl, ho4⟩
      have HO4 := hidT ho4
      have h6 := HF2.out.inv.d6
      have q6 := HF2.out.inv.q6
      have b2 := HF2.out.inv.b2
      clear ho4
      obtain ⟨q, hq⟩ : ∃ q, sk0.steps (l.take (k + 1)) = q := ⟨_, rfl⟩
      rw [hq] at HO4 h6 q6 b2
      have HQ := hidT hq
      clear hq
      obtain ⟨d, hd⟩ : ∃ d, dirtyB q.hand = d := ⟨_, rfl⟩
      rw [hd] at h6
      have h6' : ¬ (6 : Int) < (d : Int) := by omega
      have HDD := hidT hd
      have Q6 : Hid (q.queue.length ≤ 1000) := by show q.queue.length ≤ 1000; omega
      have q6' : ¬ (6 : Int) < (q.queue.length : Int) := by omega
      have b2' : ¬ (2 : Int) < (q.dev.busy.length : Int) := by omega
      clear hd
      go_wp2_with fail
      refine (own_dirty w w4 s b q HO4.out d HDD.out).mono ?_
      rintro e w5 ⟨rfl, hb5⟩
      have HO5 := hidT (HO4.out.later hb5)
      clear hb5
      go_wp2_with fail
      refine (own_queue w w5 s b q HO5.out Q6.out).mono ?_
      rintro e w6 ⟨a6, c6, l6, rfl, -, -, -, hb6⟩
      have HO6 := hidT (HO5.out.later hb6)
      clear hb6
      go_wp2_with fail
      refine (own_busy w w6 s b q HO6.out).mono ?_
      rintro e w7 ⟨a7, c7, l7, rfl, -, -, -, hb7⟩
      have HO7 := hidT (HO6.out.later hb7)
      clear hb7
      go_wp2
      go_roundw
      case rel => exact ⟨k + 1, by omega, by go_num, by rw [HQ.out]; exact HO7.out⟩
      case measure => simp [intOf]; omega
    · go_wp2
      go_ret
      exact ⟨rfl, HBr⟩
end Go.Proofs.YtgjkdhedkbkagaaGreat
