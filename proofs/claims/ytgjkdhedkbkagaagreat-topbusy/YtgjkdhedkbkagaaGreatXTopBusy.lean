/- TopBusy: who waits can't ask for more; that changes nothing. The walk. -/
import Derived.Test.YtgjkdhedkbkagaaGreatJ40
namespace Go.Proofs.YtgjkdhedkbkagaaGreat
open Go.RowKit Go.BigFrame Go.Maps
set_option maxRecDepth 100000
attribute [local go_sem] Later.cell Later.frozen

theorem busy_fault {c p : Int} (hc : 0 ≤ c ∧ c < 3) (hp : 0 ≤ p ∧ p < 32) : askFault c 2 p ⟨#[120]⟩ = 0 := by
  have hs : (⟨#[120]⟩ : ByteArray).size = 1 := rfl
  unfold askFault
  (repeat' split) <;> omega
set_option maxRecDepth 100000 in
set_option maxHeartbeats 2000000 in
theorem own_asked (W w : World) (s b : Nat) (q : Sk) (h : Own W s b q w) (c kind pl : Int) (data : ByteArray) (ht : askFault c kind pl data = 0) (hw : q.waits c = true) :
    Calls Tryz.prog 37 #[.pointer (some ⟨s, 0, none⟩), .int .i64 c, .int .i64 kind, .int .i64 pl, .string data] w fun e w' => e = .returned (.iface 89 (.int .i64 6)) ∧ w' = w := by
  have HST := hidT h
  have HT := hidT ht
  have HW := hidT hw
  clear h ht hw
  go_enter Tryz.func37, Tryz.ntmps37
  go_wp2_with fail
  refine (scheck_any c kind pl data _ 0 HT.out).mono ?_
  rintro e w1 ⟨rfl, rfl⟩
  rw [show errOf 0 = .nilIface from rfl]
  go_wp2_with fail
  refine (own_waits W _ s b q HST.out c true HW.out).mono ?_
  rintro e w2 ⟨rfl, rfl⟩
  go_wp2
  go_ret
  exact ⟨rfl, rfl⟩
set_option maxHeartbeats 4000000 in
theorem topBusy_walk (l : List Sp) (la : Option Addr) (lc : Nat) (c p : Int) (w : World) (hl : StepsAt w la l) (_hc : In64 c) (_hp : In64 p) :
    Calls Tryz.prog 11 #[.slice la l.length lc, .int .i64 c, .int .i64 p] w fun e w' => e = .returned (.bool true) ∧ Below w.heap.size w w' := by
  have HL := hidT hl
  clear hl _hc _hp
  go_enter Tryz.func11, Tryz.ntmps11
  go_wp2_with fail
  refine (works_any _).mono ?_
  rintro e w0 ⟨rfl, hb0⟩
  have HB0 := hidT hb0
  clear hb0
  go_wp2_with fail
  cases hb : lightsS l 120
  · refine (stepped_no l la lc _ (HL.out.later HB0.out) hb).mono ?_
    rintro e w1 ⟨rfl, hb1⟩
    go_wp2
    go_ret
    exact ⟨rfl, bthen HB0.out hb1⟩
  refine (stepped_yes l la lc _ (HL.out.later HB0.out) hb).mono ?_
  rintro e w1 ⟨s, b, rfl, ho⟩
  have h120 := lightsS_len hb
  have HO := hidT ho
  have HF := hidT (sk0_fit.steps l)
  clear ho hb
  generalize sk0.steps l = q at *
  have H6 : Hid (q.queue.length ≤ 1000) := by have := HF.out.inv.q6; show q.queue.length ≤ 1000; omega
  by_cases h1 : c < 0
  · go_wp2
    go_ret
    exact ⟨rfl, bthen HB0.out HO.out.bel⟩
  by_cases h2 : 3 ≤ c
  · go_wp2
    go_ret
    exact ⟨rfl, bthen HB0.out HO.out.bel⟩
  by_cases h3 : p < 0
  · go_wp2
    go_ret
    exact ⟨rfl, bthen HB0.out HO.out.bel⟩
  by_cases h4 : 32 ≤ p
  · go_wp2
    go_ret
    exact ⟨rfl, bthen HB0.out HO.out.bel⟩
  cases hw : q.waits c
  · have HW := hidT hw
    clear hw
    go_wp2_with fail
    refine (own_waits w0 w1 s b q HO.out c false HW.out).mono ?_
    rintro e w2 ⟨rfl, rfl⟩
    go_wp2
    go_ret
    exact ⟨rfl, bthen HB0.out HO.out.bel⟩
  have HW := hidT hw
  have HAQ := hidT (busy_fault (c := c) (p := p) (by omega) (by omega))
  obtain ⟨d, hd⟩ : ∃ d, dirtyB q.hand = d := ⟨_, rfl⟩
  have HDD := hidT hd
  clear hw hd
  go_wp2_with fail
  refine (own_waits w0 w1 s b q HO.out c true HW.out).mono ?_
  rintro e w2 ⟨rfl, rfl⟩
  go_wp2_with fail
  refine (own_queue w0 w2 s b q HO.out H6.out).mono ?_
  rintro e w3 ⟨a3, c3, l3, rfl, hR3, hl3, -, hb3⟩
  have HO3 := hidT (HO.out.later hb3)
  have HR3 := hidT hR3
  have HL3 := hidT hl3
  clear hb3 hR3 hl3
  go_wp2_with fail
  refine (own_dirty w0 w3 s b q HO3.out d HDD.out).mono ?_
  rintro e w4 ⟨rfl, hb4⟩
  have HO4 := hidT (HO3.out.later hb4)
  have HR4 := hidT (HR3.out.later hb4)
  clear hb4 HR3
  go_wp2_with fail
  refine (own_asked w0 w4 s b q HO4.out c 2 p ⟨#[120]⟩ HAQ.out HW.out).mono ?_
  rintro e w5 ⟨rfl, rfl⟩
  go_wp2_with fail
  have hnum := number_any 6 w5
  rw [show errOf 6 = .iface 89 (.int .i64 6) from rfl] at hnum
  refine hnum.mono ?_
  clear hnum
  rintro e w6 ⟨rfl, hb6⟩
  have HO6 := hidT (HO4.out.later hb6)
  have HR6 := hidT (HR4.out.later hb6)
  clear hb6
  go_wp2_with fail
  refine (own_waits w0 w6 s b q HO6.out c true HW.out).mono ?_
  rintro e w7 ⟨rfl, rfl⟩
  go_wp2_with fail
  refine (own_queue w0 w7 s b q HO6.out H6.out).mono ?_
  rintro e w8 ⟨a8, c8, l8, rfl, hR8, hl8, -, hb8⟩
  have HO8 := hidT (HO6.out.later hb8)
  have HR8 := hidT hR8
  have HR9 := hidT (HR6.out.later hb8)
  have HE : Hid (l3.map Rq.nf = l8.map Rq.nf) := HL3.out.trans hl8.symm
  have HN3 : Hid (l3.length = q.queue.length) := by have h1 := congrArg List.length HL3.out; rw [List.length_map] at h1; exact h1
  have HN8 : Hid (l8.length = q.queue.length) := by have h1 := congrArg List.length hl8; rw [List.length_map] at h1; exact h1
  clear hb8 hR8 hl8
  go_wp2_with fail
  have hsm := sames_yes l3 l8 a3 a8 c3 c8 w8 HR9.out HR8.out (sames_nf HE.out)
  rw [HN3.out, HN8.out] at hsm
  refine hsm.mono ?_
  clear hsm
  rintro e w9 ⟨rfl, hb9⟩
  have HO9 := hidT (HO8.out.later hb9)
  clear hb9
  go_wp2_with fail
  refine (own_dirty w0 w9 s b q HO9.out d HDD.out).mono ?_
  rintro e wA ⟨rfl, hbA⟩
  have HOA := hidT (HO9.out.later hbA)
  clear hbA
  go_wp2
  go_ret
  exact ⟨rfl, bthen HB0.out HOA.out.bel⟩
end Go.Proofs.YtgjkdhedkbkagaaGreat
