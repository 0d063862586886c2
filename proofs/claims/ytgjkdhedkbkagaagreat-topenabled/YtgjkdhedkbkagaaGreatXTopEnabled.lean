/- TopEnabled: while somebody waits, or something, something can be done. The walk. -/
import Derived.Test.YtgjkdhedkbkagaaGreatJ39
namespace Go.Proofs.YtgjkdhedkbkagaaGreat
open Go.RowKit Go.BigFrame Go.Maps
set_option maxRecDepth 100000
attribute [local go_sem] Later.cell Later.frozen

theorem tick_busy (q : Sk) : q.tick.dev.busy = q.dev.busy := by
  rcases (mild_serve ({ q with moment := if q.moment + 1 < 1000000000 then q.moment + 1 else 1000000000 } : Sk)).dev with e | e
  · show (Sk.serve _).dev.busy = _; rw [e]
  · show (Sk.serve _).dev.busy = _; rw [e]; rfl
theorem tick_enabled {q : Sk} (hI : Inv q) (hb : q.dev.busy = []) (hd : q.tick.dispatch.1 = false) : q.tick.dispatch = (false, q.tick) ∧ q.tick.queue = [] ∧ (q.tick.clean.1 = true ∨ q.tick.quiet = true) := by
  have hI1 := hI.tick
  have hb1 : q.tick.dev.busy = [] := (tick_busy q).trans hb
  have hq1 : q.tick.queue = [] := by
    rcases dispatch_cases hI1 with ⟨h | h, _⟩ | ⟨_, _, _, _, _, _, _, e⟩
    · exact h
    · rw [hb1] at h; simp at h
    · rw [e] at hd; cases hd
  have hds : q.tick.dispatch = (false, q.tick) := by
    rcases dispatch_cases hI1 with ⟨_, e⟩ | ⟨_, _, _, _, _, _, _, e⟩
    · exact e
    · rw [e] at hd; cases hd
  refine ⟨hds, hq1, ?_⟩
  have hIm : Inv ({ q with moment := if q.moment + 1 < 1000000000 then q.moment + 1 else 1000000000 } : Sk) := by
    refine ⟨hI.cl3, hI.cok, hI.hand, hI.d6, hI.good, hI.apart, hI.q6, hI.b2, ?_, hI.tg, hI.us, hI.tin, hI.n32, hI.g32, hI.ts, hI.fr⟩
    have := hI.mom
    show 0 ≤ (if q.moment + 1 < 1000000000 then q.moment + 1 else 1000000000) ∧ (if q.moment + 1 < 1000000000 then q.moment + 1 else 1000000000) ≤ 1000000000
    split <;> omega
  have hq0 : ({ q with moment := if q.moment + 1 < 1000000000 then q.moment + 1 else 1000000000 } : Sk).queue = [] := by
    by_cases e : q.queue = []
    · exact e
    · exact absurd hq1 (serve_queue_ne (p := { q with moment := if q.moment + 1 < 1000000000 then q.moment + 1 else 1000000000 }) e)
  rcases serve_stuck hIm hq0 hb hq1 with h | ⟨h1, h2, h3⟩
  · exact Or.inr ((quiet_iff _).2 ⟨h, hq1, hb1⟩)
  · exact Or.inl (cleanQ_yes hI1 hq1 hb1 h1 h2 (Or.inr h3))
set_option maxHeartbeats 4000000 in
theorem topEnabled_walk (l : List Sp) (la : Option Addr) (lc : Nat) (w : World) (hl : StepsAt w la l) :
    Calls Tryz.prog 9 #[.slice la l.length lc] w fun e w' => e = .returned (.bool true) ∧ Below w.heap.size w w' := by
  have HL := hidT hl
  clear hl
  go_enter Tryz.func9, Tryz.ntmps9
  go_wp2_with fail
  refine (works_any _).mono ?_
  rintro e w0 ⟨rfl, hb0⟩
  have HB0 := hidT hb0
  clear hb0
  go_wp2_with fail
  cases hb : lightsS l 120
  · refine (stepped_no l la lc _ (HL.out.later HB0.out) hb).mono ?_
    rintro e w1 ⟨rfl, hb1⟩
    go_wp2
    go_ret
    exact ⟨rfl, bthen HB0.out hb1⟩
  refine (stepped_yes l la lc _ (HL.out.later HB0.out) hb).mono ?_
  rintro e w1 ⟨s, b, rfl, ho⟩
  have h120 := lightsS_len hb
  have HO := hidT ho
  have HF := hidT (sk0_fit.steps l)
  clear ho hb
  generalize sk0.steps l = q at *
  have H6 : Hid (q.queue.length ≤ 1000) := by have := HF.out.inv.q6; show q.queue.length ≤ 1000; omega
  go_wp2_with fail
  cases hqt : q.quiet
  case true =>
    refine (own_quiet w0 w1 s b q HO.out H6.out true hqt).mono ?_
    rintro e w2 ⟨rfl, hb2⟩
    have HO2 := hidT (HO.out.later hb2)
    clear hb2 hqt
    go_wp2
    go_ret
    exact ⟨rfl, bthen HB0.out HO2.out.bel⟩
  refine (own_quiet w0 w1 s b q HO.out H6.out false hqt).mono ?_
  rintro e w2 ⟨rfl, hb2⟩
  have HO2 := hidT (HO.out.later hb2)
  clear hb2 hqt
  go_wp2_with fail
  refine (own_busy w0 w2 s b q HO2.out).mono ?_
  rintro e w3 ⟨a3, c3, l3, rfl, -, -, -, hb3⟩
  have HO3 := hidT (HO2.out.later hb3)
  clear hb3
  by_cases hbl : 0 < q.dev.busy.length
  · have hbl' : (0 : Int) < (q.dev.busy.length : Int) := by omega
    generalize q.dev.busy.length = n at *
    go_wp2
    go_ret
    exact ⟨rfl, bthen HB0.out HO3.out.bel⟩
  have hbl' : ¬ (0 : Int) < (q.dev.busy.length : Int) := by omega
  have HBE : Hid (q.dev.busy = []) := List.eq_nil_of_length_eq_zero (by omega)
  generalize q.dev.busy.length = n at *
  cases hc : q.clean.1
  case true =>
    have HC : Hid (q.clean = (true, q.clean.2)) := Prod.ext hc rfl
    clear hc
    go_wp2_with fail
    refine (own_clean w0 w3 s b q _ HO3.out HF.out (by omega) true q.clean.2 HC.out).mono ?_
    rintro e w4 ⟨rfl, ho4⟩
    go_wp2
    go_ret
    exact ⟨rfl, bthen HB0.out ho4.bel⟩
  have HC : Hid (q.clean = (false, q)) := Prod.ext hc (clean_no_same hc)
  clear hc
  go_wp2_with fail
  refine (own_clean w0 w3 s b q _ HO3.out HF.out (by omega) false q HC.out).mono ?_
  rintro e w4 ⟨rfl, ho4⟩
  have HO4 := hidT ho4
  clear ho4
  go_wp2_with fail
  refine (own_tick w0 w4 s b q _ HO4.out HF.out (by omega) q.tick rfl).mono ?_
  rintro e w5 ⟨rfl, ho5⟩
  have HO5 := hidT ho5
  clear ho5
  have HF5 := hidT HF.out.tick
  cases hd : q.tick.dispatch.1
  case true =>
    have HD : Hid (q.tick.dispatch = (true, q.tick.dispatch.2)) := Prod.ext hd rfl
    clear hd
    go_wp2_with fail
    refine (own_dispatch w0 w5 s b q.tick _ HO5.out HF5.out true q.tick.dispatch.2 HD.out).mono ?_
    rintro e w6 ⟨rfl, ho6⟩
    go_wp2
    go_ret
    exact ⟨rfl, bthen HB0.out ho6.bel⟩
  obtain ⟨hds, hq1, hor⟩ := tick_enabled HF.out.inv HBE.out hd
  have HD := hidT hds
  have HQ1 := hidT hq1
  have HOR := hidT hor
  clear hd hds hq1 hor
  generalize q.tick = q1 at *
  go_wp2_with fail
  refine (own_dispatch w0 w5 s b q1 _ HO5.out HF5.out false q1 HD.out).mono ?_
  rintro e w6 ⟨rfl, ho6⟩
  have HO6 := hidT ho6
  clear ho6
  cases hc : q1.clean.1
  case true =>
    have HC : Hid (q1.clean = (true, q1.clean.2)) := Prod.ext hc rfl
    clear hc
    go_wp2_with fail
    refine (own_clean w0 w6 s b q1 _ HO6.out HF5.out (by omega) true q1.clean.2 HC.out).mono ?_
    rintro e w7 ⟨rfl, ho7⟩
    go_wp2
    go_ret
    exact ⟨rfl, bthen HB0.out ho7.bel⟩
  have HC1 : Hid (q1.clean = (false, q1)) := Prod.ext hc (clean_no_same hc)
  have HQT : Hid (q1.quiet = true) := HOR.out.resolve_left (by rw [hc]; exact Bool.false_ne_true)
  have H61 : Hid (q1.queue.length ≤ 1000) := by show q1.queue.length ≤ 1000; rw [HQ1.out]; simp
  have HQL : Hid (q1.queue.length = 0) := by show q1.queue.length = 0; rw [HQ1.out]; rfl
  clear hc
  go_wp2_with fail
  refine (own_clean w0 w6 s b q1 _ HO6.out HF5.out (by omega) false q1 HC1.out).mono ?_
  rintro e w7 ⟨rfl, ho7⟩
  have HO7 := hidT ho7
  clear ho7
  go_wp2_with fail
  refine (own_queue w0 w7 s b q1 HO7.out H61.out).mono ?_
  rw [HQL.out]
  rintro e w8 ⟨a8, c8, l8, rfl, -, -, -, hb8⟩
  have HO8 := hidT (HO7.out.later hb8)
  clear hb8
  go_wp2_with fail
  refine (own_quiet w0 w8 s b q1 HO8.out H61.out true HQT.out).mono ?_
  rintro e w9 ⟨rfl, hb9⟩
  have HO9 := hidT (HO8.out.later hb9)
  go_wp2
  go_ret
  exact ⟨rfl, bthen HB0.out HO9.out.bel⟩
end Go.Proofs.YtgjkdhedkbkagaaGreat
