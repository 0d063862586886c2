/- TopDead: once a write went wrong for good nothing that is written, or synced, is answered well any more. The walk. -/
import Derived.Test.YtgjkdhedkbkagaaGreatJ40
namespace Go.Proofs.YtgjkdhedkbkagaaGreat
open Go.RowKit Go.BigFrame Go.Maps
set_option maxRecDepth 100000
attribute [local go_sem] Later.cell Later.frozen

theorem dead_write {q : Sk} (hI : Inv q) (hd : q.dead = true) {x : Sp} (hw : x.word = wWrite ∨ x.word = wSync) (h0 : (q.doStep x).1 = 0) : ∃ c : Nat, c < 3 ∧ x.a = c ∧ (q.doStep x).2.waits (c : Int) = false ∧ ((q.doStep x).2.client c).err = 9 := by
  have key : ∀ (kind pl : Int) (data : ByteArray), (kind = 2 ∨ kind = 3) → q.doStep x = q.ask x.a kind pl data → ∃ c : Nat, c < 3 ∧ x.a = c ∧ (q.doStep x).2.waits (c : Int) = false ∧ ((q.doStep x).2.client c).err = 9 := by
    intro kind pl data hk e
    rw [e] at h0 ⊢
    have hz : askFault x.a kind pl data = 0 := by
      unfold Sk.ask at h0
      split at h0
      · exact absurd h0 (by assumption)
      · rename_i hf
        simpa using hf
    have h3 := (askFault_zero hz).1
    obtain ⟨c, hc⟩ : ∃ c : Nat, x.a = c := ⟨x.a.toNat, by omega⟩
    rw [hc] at h0 ⊢
    have := dead_ask hI hd (c := c) (by omega) hk h0
    exact ⟨c, by omega, rfl, this⟩
  rcases hw with hw | hw
  · refine key 2 x.b x.data (Or.inl rfl) ?_
    unfold Sk.doStep
    rw [hw, if_neg (by decide), if_pos rfl]
  · refine key 3 0 ByteArray.empty (Or.inr rfl) ?_
    unfold Sk.doStep
    rw [hw, if_neg (by decide), if_neg (by decide), if_pos rfl]
theorem cell_of_heapA {w : World} {g : Nat} {vs : Array Value} {T : TypeId} {fz : Nat × Nat} (h : w.heap[g]? = some (.cells vs T fz)) {j : Nat} : w.cell? ⟨g, j, none⟩ = vs[j]? := by
  simp [World.cell?, h]
theorem errOf_nil {e : Int} (h : errOf e = .nilIface) : e = 0 := by
  unfold errOf at h
  split at h
  · assumption
  · cases h
theorem errOf_eq (e : Int) : (e = 0 ∧ errOf e = .nilIface) ∨ (¬ e = 0 ∧ errOf e = .iface 89 (.int .i64 e)) := by
  unfold errOf
  by_cases h : e = 0
  · exact Or.inl ⟨h, if_pos h⟩
  · exact Or.inr ⟨h, if_neg h⟩
/-- A step's own copy. -/
def StepBox (w : World) (g : Nat) (x : Sp) : Prop := w.cell? ⟨g, 0, none⟩ = some (.string x.word) ∧ w.cell? ⟨g, 1, none⟩ = some (.int .i64 x.a)
set_option linter.unusedSimpArgs false in
set_option maxHeartbeats 8000000 in
theorem topDead_walk (l : List Sp) (la : Option Addr) (lc : Nat) (m : List Sp) (ma : Option Addr) (mc : Nat) (w : World) (hl : StepsAt w la l) (hm : StepsAt w ma m) :
    Calls Tryz.prog 10 #[.slice la l.length lc, .slice ma m.length mc] w fun e w' => e = .returned (.bool true) ∧ Below w.heap.size w w' := by
  have HL := hidT hl
  have HM := hidT hm
  clear hl hm
  go_enter Tryz.func10, Tryz.ntmps10
  go_wp2_with fail
  refine (works_any _).mono ?_
  rintro e w0 ⟨rfl, hb0⟩
  have HB0 := hidT hb0
  clear hb0
  go_wp2_with fail
  cases hb : lightsS l 120
  · refine (stepped_no l la lc _ (HL.out.later HB0.out) hb).mono ?_
    rintro e w1 ⟨rfl, hb1⟩
    go_wp2
    go_ret
    exact ⟨rfl, bthen HB0.out hb1⟩
  refine (stepped_yes l la lc _ (HL.out.later HB0.out) hb).mono ?_
  rintro e w1 ⟨s, b, rfl, ho⟩
  have h120 := lightsS_len hb
  have HO := hidT ho
  have HF := hidT ((sk0_fit.steps l).mono (show 0 + 11 * l.length ≤ 2000 by omega))
  clear ho hb
  generalize sk0.steps l = q at *
  have HM1 := hidT (HM.out.later (bthen HB0.out HO.out.bel))
  go_wp2_with fail
  cases hb : lightsS m 60
  · refine (lightsS_any m ma mc 60 _ HM1.out (by omega) false hb).mono ?_
    rintro e w2 ⟨rfl, hb2⟩
    have HO2 := hidT (HO.out.later hb2)
    clear hb2 hb
    go_wp2
    go_ret
    exact ⟨rfl, bthen HB0.out HO2.out.bel⟩
  refine (lightsS_any m ma mc 60 _ HM1.out (by omega) true hb).mono ?_
  rintro e w2 ⟨rfl, hb2⟩
  have h60 := lightsS_len hb
  have HO2 := hidT (HO.out.later hb2)
  clear hb2 hb HM1
  go_wp2_with fail
  refine (own_dead w0 w2 s b q HO2.out).mono ?_
  rintro e w3 ⟨rfl, rfl⟩
  cases hd : q.dead
  · go_wp2
    go_ret
    exact ⟨rfl, bthen HB0.out HO2.out.bel⟩
  have HD := hidT hd
  clear hd
  go_wp2
  go_loopw [8] (fun i wr => ∃ (k : Nat) (r : Sk), k ≤ m.length ∧ i = .int .i64 k ∧ Own w0 s b r wr ∧ Fit (2000 + 11 * k) r ∧ Hid (r.dead = true)) (fun i _ => m.length - (intOf i).toNat)
  case atStart => exact ⟨0, q, by omega, rfl, HO2.out, HF.out, HD.out⟩
  case round =>
    obtain ⟨k, r, hk, rfl, ho, hfr, hdr⟩ := hrel
    have HOR := hidT ho
    have HFR := hidT hfr
    have HDR := hidT hdr.out
    have HBr := bthen HB0.out ho.bel
    clear ho hfr hdr
    by_cases hlt : k < m.length
    case neg =>
      go_wp2
      go_ret
      exact ⟨rfl, HBr⟩
    have hlt' : (k : Int) < (m.length : Int) := by omega
    rcases HM.out.form with rfl | ⟨bl, ol, rfl⟩
    · exact absurd hlt (Nat.not_lt_zero _)
    obtain ⟨c0, c1, c2, c3⟩ := (HM.out.later HBr).cells hlt
    generalize hx : m[k] = x at *
    clear hx
    have HF2 := hidT ((HFR.out.doStep x).mono (show 2000 + 11 * k + 11 ≤ 2000 + 11 * (k + 1) by omega))
    have HD2 := hidT (dead_doStep r x HDR.out)
    go_wp2_with fail
    have hbox0 : Below wr.heap.size wr (wr.alloc (.cells #[.string x.word, .int .i64 x.a, .int .i64 x.b, .string x.data] 33)) := by repeat (first | with_reducible exact Below.refl _ _ | with_reducible refine balloc ?_ _ | with_reducible refine bdrew ?_ | with_reducible refine bset' ?_ (by omega) _ | with_reducible refine bthen ?_ (by assumption))
    have hblk : (wr.alloc (.cells #[.string x.word, .int .i64 x.a, .int .i64 x.b, .string x.data] 33)).heap[wr.heap.size]? = some (.cells #[.string x.word, .int .i64 x.a, .int .i64 x.b, .string x.data] 33 (0, 0)) := heap_alloc_new _ _
    have hsz : wr.heap.size < (wr.alloc (.cells #[.string x.word, .int .i64 x.a, .int .i64 x.b, .string x.data] 33)).heap.size := by simp
    have HDS := hidT (fun hw h0 => dead_write HFR.out.inv HDR.out (x := x) hw h0)
    have HST := hidT (own_stepK w0 _ s b r _ wr HOR.out hbox0 HFR.out (by omega) x (r.doStep x).1 (r.doStep x).2 rfl)
    obtain ⟨r2, hr2⟩ : ∃ r2, (r.doStep x).2 = r2 := ⟨_, rfl⟩
    obtain ⟨er, her⟩ : ∃ er, (r.doStep x).1 = er := ⟨_, rfl⟩
    rw [hr2, her] at HST
    rw [hr2] at HF2 HD2
    rw [hr2, her] at HDS
    clear hr2 her
    refine HST.out.mono ?_
    rintro e w4 ⟨rfl, ho4, hz4, hk4⟩
    have hx4 := (hk4 wr.heap.size (Nat.le_refl _) hsz).trans hblk
    have x0 : w4.cell? ⟨wr.heap.size, 0, none⟩ = some (.string x.word) := by rw [cell_of_heapA hx4]; rfl
    have x1 : w4.cell? ⟨wr.heap.size, 1, none⟩ = some (.int .i64 x.a) := by rw [cell_of_heapA hx4]; rfl
    have HO4 := hidT ho4
    have lx := lt_of_cell x0
    clear ho4 hz4 hk4 hx4 hblk hsz hbox0 HST c0 c1 c2 c3
    generalize wr.heap.size = g at *
    rcases errOf_eq er with ⟨h0, he⟩ | ⟨h0, he⟩
    case inr =>
      rw [he]
      clear he h0 HDS
      go_wp2_with fail
      refine (own_dead w0 w4 s b r2 HO4.out).mono ?_
      rw [HD2.out]
      rintro e w5 ⟨rfl, rfl⟩
      go_wp2
      go_roundw
      case rel => exact ⟨k + 1, r2, by omega, by go_num, HO4.out, HF2.out, HD2.out⟩
      case measure => simp [intOf]; omega
    rw [he]
    have H0 := hidT h0
    clear he h0
    by_cases hw1 : x.word = wWrite
    · obtain ⟨c, hc3, hxa, hwt, her9⟩ := HDS.out (Or.inl hw1) H0.out
      have HWT := hidT hwt
      have HE9 := hidT her9
      rw [hw1] at x0
      rw [hxa] at x1
      unfold wWrite at x0
      clear hwt her9 hw1 hxa HDS
      go_wp2_with fail
      refine (own_dead w0 w4 s b r2 HO4.out).mono ?_
      rw [HD2.out]
      rintro e w5 ⟨rfl, rfl⟩
      go_wp2_with fail
      refine (own_got w0 w5 s b r2 HO4.out c hc3).mono ?_
      rw [HE9.out, show errOf 9 = .iface 89 (.int .i64 9) from rfl]
      generalize (r2.client c).got = gt
      rintro e w6 ⟨rfl, hb6⟩
      have HO6 := hidT (HO4.out.later hb6)
      replace x1 := cellB_later' hb6 x1
      replace lx := lt_of_cell x1
      clear hb6 x0
      go_wp2_with fail
      refine (own_waits w0 w6 s b r2 HO6.out c false HWT.out).mono ?_
      rintro e w7 ⟨rfl, rfl⟩
      go_wp2_with fail
      have hnum := number_any 9 w7
      rw [show errOf 9 = .iface 89 (.int .i64 9) from rfl] at hnum
      refine hnum.mono ?_
      clear hnum
      rintro e w8 ⟨rfl, hb8⟩
      have HO8 := hidT (HO6.out.later hb8)
      clear hb8
      go_wp2
      go_roundw
      case rel => exact ⟨k + 1, r2, by omega, by go_num, HO8.out, HF2.out, HD2.out⟩
      case measure => simp [intOf]; omega
    have g1 : (x.word.toList == [119, 114, 105, 116, 101]) = false := strK_ne _ hw1
    by_cases hw2 : x.word = wSync
    · obtain ⟨c, hc3, hxa, hwt, her9⟩ := HDS.out (Or.inr hw2) H0.out
      have HWT := hidT hwt
      have HE9 := hidT her9
      rw [hw2] at x0
      rw [hxa] at x1
      unfold wSync at x0
      clear hwt her9 hw1 hw2 hxa HDS g1
      go_wp2_with fail
      refine (own_dead w0 w4 s b r2 HO4.out).mono ?_
      rw [HD2.out]
      rintro e w5 ⟨rfl, rfl⟩
      go_wp2_with fail
      refine (own_got w0 w5 s b r2 HO4.out c hc3).mono ?_
      rw [HE9.out, show errOf 9 = .iface 89 (.int .i64 9) from rfl]
      generalize (r2.client c).got = gt
      rintro e w6 ⟨rfl, hb6⟩
      have HO6 := hidT (HO4.out.later hb6)
      replace x1 := cellB_later' hb6 x1
      replace lx := lt_of_cell x1
      clear hb6 x0
      go_wp2_with fail
      refine (own_waits w0 w6 s b r2 HO6.out c false HWT.out).mono ?_
      rintro e w7 ⟨rfl, rfl⟩
      go_wp2_with fail
      have hnum := number_any 9 w7
      rw [show errOf 9 = .iface 89 (.int .i64 9) from rfl] at hnum
      refine hnum.mono ?_
      clear hnum
      rintro e w8 ⟨rfl, hb8⟩
      have HO8 := hidT (HO6.out.later hb8)
      clear hb8
      go_wp2
      go_roundw
      case rel => exact ⟨k + 1, r2, by omega, by go_num, HO8.out, HF2.out, HD2.out⟩
      case measure => simp [intOf]; omega
    have g2 : (x.word.toList == [115, 121, 110, 99]) = false := strK_ne _ hw2
    clear hw1 hw2 HDS
    go_wp2_with fail
    refine (own_dead w0 w4 s b r2 HO4.out).mono ?_
    rw [HD2.out]
    rintro e w5 ⟨rfl, rfl⟩
    go_wp2
    go_roundw
    case rel => exact ⟨k + 1, r2, by omega, by go_num, HO4.out, HF2.out, HD2.out⟩
    case measure => simp [intOf]; omega
end Go.Proofs.YtgjkdhedkbkagaaGreat
