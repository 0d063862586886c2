/- TopSoft: nothing is written as long as little is dirty, and nobody waits for it. The walk. -/
import Derived.Test.YtgjkdhedkbkagaaGreatJ39
namespace Go.Proofs.YtgjkdhedkbkagaaGreat
open Go.RowKit Go.BigFrame Go.Maps
set_option maxRecDepth 100000
attribute [local go_sem] Later.cell Later.frozen

set_option maxHeartbeats 4000000 in
theorem topSoft_walk (l : List Sp) (la : Option Addr) (lc : Nat) (w : World) (hl : StepsAt w la l) :
    Calls Tryz.prog 12 #[.slice la l.length lc] w fun e w' => e = .returned (.bool true) ∧ Below w.heap.size w w' := by
  have HL := hidT hl
  clear hl
  go_enter Tryz.func12, Tryz.ntmps12
  go_wp2_with fail
  refine (works_any _).mono ?_
  rintro e w0 ⟨rfl, hb0⟩
  have HB0 := hidT hb0
  clear hb0
  go_wp2_with fail
  cases hb : lightsS l 120
  · refine (stepped_no l la lc _ (HL.out.later HB0.out) hb).mono ?_
    rintro e w1 ⟨rfl, hb1⟩
    go_wp2
    go_ret
    exact ⟨rfl, bthen HB0.out hb1⟩
  refine (stepped_yes l la lc _ (HL.out.later HB0.out) hb).mono ?_
  rintro e w1 ⟨s, b, rfl, ho⟩
  have h120 := lightsS_len hb
  have HO := hidT ho
  have HF := hidT (sk0_fit.steps l)
  clear ho hb
  generalize sk0.steps l = q at *
  have H6 : Hid (q.queue.length ≤ 1000) := by have := HF.out.inv.q6; show q.queue.length ≤ 1000; omega
  go_wp2_with fail
  cases hqt : q.quiet
  · refine (own_quiet w0 w1 s b q HO.out H6.out false hqt).mono ?_
    rintro e w2 ⟨rfl, hb2⟩
    have HO2 := hidT (HO.out.later hb2)
    clear hb2 hqt
    go_wp2
    go_ret
    exact ⟨rfl, bthen HB0.out HO2.out.bel⟩
  refine (own_quiet w0 w1 s b q HO.out H6.out true hqt).mono ?_
  rintro e w2 ⟨rfl, hb2⟩
  have HO2 := hidT (HO.out.later hb2)
  have HQT := hidT hqt
  clear hb2 hqt
  go_wp2_with fail
  obtain ⟨d, hd⟩ : ∃ d, dirtyB q.hand = d := ⟨_, rfl⟩
  refine (own_dirty w0 w2 s b q HO2.out d hd).mono ?_
  rintro e w3 ⟨rfl, hb3⟩
  have HO3 := hidT (HO2.out.later hb3)
  have HDD := hidT hd
  clear hb3 hd
  by_cases h3 : 3 ≤ d
  · have h3' : (3 : Int) ≤ (d : Int) := by omega
    go_wp2
    go_ret
    exact ⟨rfl, bthen HB0.out HO3.out.bel⟩
  have h3' : ¬ (3 : Int) ≤ (d : Int) := by omega
  have HC : Hid (q.clean = (false, q)) := soft_clean HF.out.inv.cl3 HQT.out (by rw [HDD.out]; omega)
  have HQL : Hid (q.queue.length = 0) := by show q.queue.length = 0; rw [((quiet_iff q).1 HQT.out).2.1]; rfl
  go_wp2_with fail
  refine (own_clean w0 w3 s b q _ HO3.out HF.out (by omega) false q HC.out).mono ?_
  rintro e w4 ⟨rfl, ho4⟩
  have HO4 := hidT ho4
  clear ho4
  go_wp2_with fail
  refine (own_queue w0 w4 s b q HO4.out H6.out).mono ?_
  rw [HQL.out]
  rintro e w5 ⟨a5, c5, l5, rfl, -, -, -, hb5⟩
  have HO5 := hidT (HO4.out.later hb5)
  clear hb5
  go_wp2
  go_ret
  exact ⟨rfl, bthen HB0.out HO5.out.bel⟩
end Go.Proofs.YtgjkdhedkbkagaaGreat
