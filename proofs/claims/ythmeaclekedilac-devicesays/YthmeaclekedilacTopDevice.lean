/- TopDevice: what was flushed is there behind a crash; of what was written behind that just what is kept. The walk. -/
import Derived.Test.YthmeaclekedilacDev15
namespace Go.Proofs.Ythmeaclekedilac
open Go.RowKit Go.BigFrame
attribute [local go_sem] Later.cell Later.frozen

/-- A device of a law's own, that has no request. -/
structure Ph0 (w : World) (b : Nat) (d : Dl) (a : An) (wr : World) : Prop where
  dev : DevAt b d a wr
  idle : d.busy = []
  foot : ∀ k, a.foot b k → w.heap.size ≤ k
  bel : Below w.heap.size w wr
theorem Ph0.step {w wr wr' : World} {b : Nat} {d d' : Dl} {a a' : An} (h : Ph0 w b d a wr) (hs : DStep b d a d' a' wr wr') (hn : d'.busy = []) : Ph0 w b d' a' wr' where
  dev := hs.dev
  idle := hn
  foot := fun k hk => (hs.foot k hk).elim (h.foot k) (fun h' => Nat.le_trans h.bel.size h')
  bel := h.bel.trans (hs.only.below h.bel.size h.foot)
theorem Ph0.later {w wr wr' : World} {b : Nat} {d : Dl} {a : An} (h : Ph0 w b d a wr) (hb : Below wr.heap.size wr wr') : Ph0 w b d a wr' := h.step (DStep.same h.dev hb) h.idle
theorem Ph0.want {w wr : World} {b : Nat} {d : Dl} {a : An} (h : Ph0 w b d a wr) (o : Obj) (ho : o = .cells (strV (List.replicate 32 ByteArray.empty)).toArray 28) : Ph w b wr.heap.size d a (List.replicate 32 ByteArray.empty) (wr.alloc o) := by
  subst ho
  have h' := h.later (below1 wr (.cells (strV (List.replicate 32 ByteArray.empty)).toArray 28))
  exact ⟨h'.dev, h.idle, fun k hk => ⟨h.foot k hk, fun e => by have := h.dev.footLt k hk; omega⟩, heap_alloc_new _ _, rfl, h.bel.size, h'.bel⟩
/-- A closed request that writes one sector. -/
def rqW (b c : Nat) : Rq := ⟨true, 3, 1, some ⟨b, 0, none⟩, 1, [⟨#[120]⟩], some ⟨c, 0, none⟩, 1, [1], 0⟩
theorem goodW (b c : Nat) : Good (rqW b c) := ⟨(show okB 3 1 4 = true by decide +kernel), rfl, by simp [rqW], by simp [rqW], by simp [rqW], by simp [rqW], (show ([⟨#[120]⟩] : List ByteArray).all (fun s => decide (s.size ≤ 4)) = true by decide +kernel)⟩
theorem atW (b c : Nat) (w : World) (h1 : w.cell? ⟨b, 0, none⟩ = some (.string ⟨#[120]⟩)) (h2 : w.cell? ⟨c, 0, none⟩ = some (.int .i64 1)) : (rqW b c).At w := by
  refine ⟨Or.inr ⟨b, 0, rfl, ?_⟩, Or.inr ⟨c, 0, rfl, ?_⟩, by simp [rqW], by simp [rqW], by simp [rqW, In64], by simp [rqW, In64], by simp [rqW, In64], by simp [rqW], by simp [rqW]⟩
  · intro i hi
    obtain rfl : i = 0 := by simp [rqW] at hi; omega
    simpa [rqW] using h1
  · intro i hi
    obtain rfl : i = 0 := by simp [rqW] at hi; omega
    simpa [rqW] using h2
theorem has3 (b c : Nat) : ((d0.did (rqW b c)).now.getD 3 ByteArray.empty) = ⟨#[120]⟩ := by
  have := did_has d0 (rqW b c) 3 (show 3 + 1 ≤ 32 by omega)
  rw [if_pos ⟨rfl, (show 3 ≤ 3 by omega), (show 3 < 3 + 1 by omega)⟩] at this
  exact this
theorem wants (r : Rq) (hw : r.wr = true) (g : Good r) : ∃ F M : Nat, r.f = F ∧ r.m = M ∧ F + M ≤ 32 ∧ 1 ≤ M ∧ r.data.length = M := by
  have h1 := g.ok
  have h2 := g.shape
  simp only [okB, decide_eq_true_eq] at h1
  simp only [shapeB, hw, if_true, decide_eq_true_eq] at h2
  exact ⟨r.f.toNat, r.m.toNat, by omega, by omega, by omega, by omega, by omega⟩
theorem ext_get {l m : List ByteArray} (h1 : l.length = 32) (h2 : m.length = 32) (h : ∀ p, p < 32 → l.getD p ByteArray.empty = m.getD p ByteArray.empty) : l = m := by
  apply List.ext_getElem (by rw [h1, h2])
  intro p hp hq
  have := h p (by omega)
  simpa [List.getElem?_eq_getElem hp, List.getElem?_eq_getElem hq] using this
set_option maxRecDepth 100000 in
set_option maxHeartbeats 4000000 in
theorem td_walk (l : List Ac) (la : Option Addr) (lc : Nat) (m : List Ac) (ma : Option Addr) (mc : Nat) (kp : Int) (w : World) (hl : ActsAt w la l) (hm : ActsAt w ma m) (hkp : 0 ≤ kp ∧ kp ≤ 18446744073709551615) :
    Calls Try.prog 6 #[.slice la l.length lc, .slice ma m.length mc, .int .u64 kp] w fun e w' => e = .returned (.bool true) ∧ Below w.heap.size w w' := by
  have HL := hidT hl
  have HM := hidT hm
  have HKP := hidT hkp
  clear hl hm hkp
  go_enter Try.func6, Try.ntmps6
  go_wp2_with fail
  refine (new_any _).mono ?_
  rintro e w1 ⟨rfl, hd1, hb1, hz1⟩
  have HD1 := hidT (⟨hd1, hb1, hz1⟩ : _ ∧ _ ∧ _)
  clear hd1 hb1 hz1
  go_wp2_with fail
  have hbx := below2 w1 (.cells #[.string ⟨#[120]⟩] 9) (.cells #[.int .i64 1] 3)
  have hra := atW w1.heap.size (w1.heap.size + 1) ((w1.alloc (.cells #[.string ⟨#[120]⟩] 9)).alloc (.cells #[.int .i64 1] 3)) (by simp [go_sem]) (by simp [go_sem])
  refine (start_ok w.heap.size d0 an0 (rqW w1.heap.size (w1.heap.size + 1)) _ (HD1.out.1.later hbx) (by decide) hra ⟨fun _ ad e hk => by have := an0_foot hk; have h9 := HD1.out.2.2; simp [rqW] at e; subst e; simp at this; omega, fun _ ad e hk => by have := an0_foot hk; have h9 := HD1.out.2.2; simp [rqW] at e; subst e; simp at this; omega⟩).mono ?_
  rintro e w2 ⟨a2, rfl, hs2⟩
  have HS2 := hidT hs2
  have HBX := hidT hbx
  clear hs2 hbx hra
  go_wp2_with fail
  refine (end_only w.heap.size d0 (rqW w1.heap.size (w1.heap.size + 1)) a2 _ rfl HS2.out.dev (goodW _ _)).mono ?_
  rintro e w3 ⟨a3, xa, xc, xs, rfl, -, -, -, hs3⟩
  have HS3 := hidT (((DStep.same HD1.out.1 HBX.out).trans HS2.out).trans hs3)
  clear hs3 HS2 HBX
  go_wp2_with fail
  refine (peek_in w.heap.size _ a3 3 _ (HS3.out.dev.later (below1 _ _)) (by omega) ⟨#[120]⟩ (has3 _ _)).mono ?_
  rintro e w4 ⟨rfl, hb4⟩
  have HM4 := hidT ((HS3.out.later (below1 w3 _)).later hb4)
  have hB4 : Below w.heap.size w w4 := HD1.out.2.1.trans (HM4.out.only.below HD1.out.2.1.size (fun k hk => by rw [an0_foot hk]; exact Nat.le_refl _))
  have hF4 : ∀ k, a3.foot w.heap.size k → w.heap.size ≤ k := fun k hk => (HM4.out.foot k hk).elim (fun e => by rw [an0_foot e]; exact Nat.le_refl _) (fun h' => Nat.le_trans HD1.out.2.1.size h')
  have hI4 : (d0.did (rqW w1.heap.size (w1.heap.size + 1))).busy = [] := Dl.did_busy _ _
  obtain ⟨dd, hdd⟩ : ∃ dd, dd = d0.did (rqW w1.heap.size (w1.heap.size + 1)) := ⟨_, rfl⟩
  rw [← hdd] at HM4 hI4
  have HB4 := hidT hB4
  have HF4 := hidT hF4
  have HI4 := hidT hI4
  have HD4 := hidT HM4.out.dev
  clear hb4 HS3 HM4 HD1 hB4 hF4 hI4 hdd
  go_wp2_with fail
  cases hla : lightsA l 30
  · refine (lightsA_any l la lc 30 _ (HL.out.later HB4.out) (by omega) _ hla).mono ?_
    rintro e w5 ⟨rfl, hb5⟩
    go_wp2
    go_ret
    exact ⟨rfl, bthen HB4.out hb5⟩
  refine (lightsA_any l la lc 30 _ (HL.out.later HB4.out) (by omega) _ hla).mono ?_
  rintro e w5 ⟨rfl, hb5⟩
  go_wp2_with fail
  cases hlm : lightsA m 30
  · refine (lightsA_any m ma mc 30 _ (HM.out.later (bthen HB4.out hb5)) (by omega) _ hlm).mono ?_
    rintro e w6 ⟨rfl, hb6⟩
    go_wp2
    go_ret
    exact ⟨rfl, bthen (bthen HB4.out hb5) hb6⟩
  refine (lightsA_any m ma mc 30 _ (HM.out.later (bthen HB4.out hb5)) (by omega) _ hlm).mono ?_
  rintro e w6 ⟨rfl, hb6⟩
  have h30l : l.length ≤ 30 := by simp only [lightsA, Bool.and_eq_true, decide_eq_true_eq] at hla; exact hla.1
  have h30m : m.length ≤ 30 := by simp only [lightsA, Bool.and_eq_true, decide_eq_true_eq] at hlm; exact hlm.1
  have HP6 : Hid (Ph0 w w.heap.size dd a3 w6) := (⟨HD4.out, HI4.out, HF4.out, HB4.out⟩ : Ph0 w w.heap.size dd a3 w4).later (bthen hb5 hb6)
  clear hla hlm hb5 hb6 HD4 HI4 HF4 HB4
  go_wp2_with fail
  go_loopw [10] (fun i wr => ∃ (k : Nat) (d : Dl) (a : An), k ≤ l.length ∧ i = .int .i64 k ∧ Ph0 w w.heap.size d a wr) (fun i _ => l.length - (intOf i).toNat)
  case atStart => exact ⟨0, dd, a3, by omega, rfl, HP6.out⟩
  case round =>
    obtain ⟨k, d, a, hk, rfl, hp⟩ := hrel
    have HP := hidT hp
    have HBr := hp.bel
    clear hp
    by_cases hlt : k < l.length
    · have hlt' : (k : Int) < (l.length : Int) := by omega
      rcases HL.out.form with rfl | ⟨bl, ol, rfl⟩
      · exact absurd hlt (Nat.not_lt_zero _)
      have hla := HL.out.later HBr
      obtain ⟨c0, c1, c2, c3, c4, c5, c6, c7, c8⟩ := hla.cells hlt
      have hat := hidT (hla.2.1 _ (List.getElem_mem hlt))
      have hoff := hidT (off_of (HL.out.2.1 _ (List.getElem_mem hlt)) HP.out.foot)
      clear hla
      generalize hx : l[k] = x at *
      clear hx
      go_wp2_with fail
      by_cases hf : faultR x.req = 0
      case neg =>
        have HFX := hidT hf
        clear hf
        refine (written_no w.heap.size x _ hat.out HFX.out).mono ?_
        rintro e w7 ⟨rfl, hb7⟩
        have HP7 := hidT (HP.out.later hb7)
        clear hb7 c0 c1 c2 c3 c4 c5 c6 c7 c8 hat hoff
        go_wp2
        go_roundw
        case rel => exact ⟨k + 1, d, a, by omega, by go_num, HP7.out⟩
        case measure => simp [intOf]; omega
      have HFX := hidT hf
      clear hf
      refine (written_yes w.heap.size d a x _ HP.out.dev HP.out.idle hat.out hoff.out HFX.out).mono ?_
      rintro e w7 ⟨a7, rfl, hs7⟩
      have HP7 := hidT (HP.out.step hs7 (by rw [Dl.did_busy]; exact HP.out.idle))
      clear hs7 c0 c1 c2 c3 c4 c5 c6 c7 c8 hat hoff
      go_wp2
      go_roundw
      case rel => exact ⟨k + 1, _, a7, by omega, by go_num, HP7.out⟩
      case measure => simp [intOf]; omega
    · have hgt : ¬ (k : Int) < (l.length : Int) := by omega
      go_wp2_with fail
      refine (flush_any w.heap.size d a _ HP.out.dev).mono ?_
      rintro e w8 ⟨rfl, hs8⟩
      have HP8 := hidT (HP.out.step hs8 HP.out.idle)
      clear hs8 HP HBr HP6
      go_wp2_with fail
      refine wp_worldD (fun wK => Ph w w.heap.size w8.heap.size d.flush { a with wa := none, wc := 0 } (List.replicate 32 ByteArray.empty) wK) (HP8.out.want _ rfl) ?_
      intro w9 h9
      have HP9 := hidT h9
      have hq8 : w.heap.size ≠ w8.heap.size := by have := HP8.out.dev.lt; omega
      clear h9 HP8
      generalize w8.heap.size = q at *
      go_loopw [12] (fun i wr => ∃ (k : Nat) (L : List ByteArray), k ≤ 32 ∧ i = .int .i64 k ∧ (∀ p, p < k → L.getD p ByteArray.empty = d.flush.now.getD p ByteArray.empty) ∧ Ph w w.heap.size q d.flush { a with wa := none, wc := 0 } L wr) (fun i _ => 32 - (intOf i).toNat)
      case atStart => exact ⟨0, _, by omega, rfl, fun p h => absurd h (Nat.not_lt_zero _), HP9.out⟩
      case round =>
        obtain ⟨j, L, hj, rfl, hL, hp⟩ := hrel
        have HP := hidT hp
        have HL2 := hidT hL
        clear hp hL
        by_cases hlt : j < 32
        · have hlt' : (j : Int) < 32 := by omega
          go_wp2_with fail
          refine (peek_in w.heap.size _ _ j _ HP.out.dev hlt _ rfl).mono ?_
          rintro e w7 ⟨rfl, hb7⟩
          have HP7 := hidT (HP.out.later hb7)
          obtain ⟨f1, f2, f3⟩ := HP7.out.cell hlt
          clear hb7
          go_wp2
          go_roundw
          case rel =>
            refine ⟨j + 1, _, by omega, by go_num, ?_, HP7.out.set j _⟩
            intro p hp
            by_cases e : p = j
            · subst e; simp [HP7.out.len, hlt]
            · have := HL2.out p (by omega)
              rw [← this]; simp [Ne.symm e]
          case measure => simp [intOf]; omega
        · have hgt : ¬ (j : Int) < 32 := by omega
          obtain rfl : j = 32 := by omega
          have hE : L = d.flush.after kp := ext_get HP.out.len HP.out.dev.g32 (fun p hp => HL2.out p hp)
          clear HP9 HL2
          go_wp2_with fail
          go_loopw [13, 14] (fun n i wr => ∃ (N k : Nat) (d : Dl) (a : An), k ≤ m.length ∧ N ≤ 4 * k ∧ n = .int .i64 N ∧ i = .int .i64 k ∧ d.next = N % 64 ∧ Ph w w.heap.size q d a (d.after kp) wr) (fun _ i _ => m.length - (intOf i).toNat)
          case atStart => exact ⟨0, 0, _, _, by omega, by omega, rfl, rfl, rfl, by rw [← hE]; exact HP.out⟩
          case round =>
            clear HP hE
            obtain ⟨N, i, d, a, hi, hN, rfl, rfl, hn, hp⟩ := hrel
            have HP := hidT hp
            have HBr := hp.bel
            have HNX := hidT hn
            clear hp hn
            by_cases hlt : i < m.length
            · have hlt' : (i : Int) < (m.length : Int) := by omega
              rcases HM.out.form with rfl | ⟨bl, ol, rfl⟩
              · exact absurd hlt (Nat.not_lt_zero _)
              obtain ⟨x, hx⟩ : ∃ x, x = m[i] := ⟨_, rfl⟩
              have HX := hidT hx
              have hcs := (HM.out.later HBr).cells hlt
              have HAT := hidT (HM.out.2.1 _ (List.getElem_mem hlt))
              rw [← hx] at hcs HAT
              obtain ⟨c0, c1, c2, c3, c4, c5, c6, c7, c8⟩ := hcs
              have hoff := hidT (off_of HAT.out (fun k hk => (HP.out.foot k hk).1))
              clear hx
              go_wp2_with fail
              by_cases hf : faultR x.req = 0
              case neg =>
                have HFX := hidT hf
                clear hf
                refine (written_no w.heap.size x _ (HAT.out.later HBr) HFX.out).mono ?_
                rintro e w7 ⟨rfl, hb7⟩
                have HP7 := hidT (HP.out.later hb7)
                clear hb7 c0 c1 c2 c3 c4 c5 c6 c7 c8 hoff
                go_wp2
                go_roundw
                case rel => exact ⟨N, i + 1, d, a, by omega, by omega, rfl, by go_num, HNX.out, HP7.out⟩
                case measure => simp [intOf]; omega
              have HFX := hidT hf
              clear hf
              refine (written_yes w.heap.size d a x _ HP.out.dev HP.out.idle (HAT.out.later HBr) hoff.out HFX.out).mono ?_
              rintro e w7 ⟨a7, rfl, hs7⟩
              have HP7 := hidT (HP.out.step hs7 (by rw [Dl.did_busy]; exact HP.out.idle))
              have HLT := hidT HP.out.dev.nxt
              clear hs7 c0 c1 c2 c3 c4 c5 c6 c7 c8 hoff HBr HP
              have hcs := (HM.out.later HP7.out.bel).cells hlt
              rw [← HX.out] at hcs
              obtain ⟨c0, c1, c2, c3, c4, c5, c6, c7, c8⟩ := hcs
              go_wp2_with fail
              obtain ⟨B, hB⟩ : ∃ B : Nat, B = if x.req.wr = true then x.req.m.toNat else 0 := ⟨_, rfl⟩
              have HBB := hidT hB
              have HGX := hidT ((good_iff _).1 HFX.out)
              have hB4 : B ≤ 4 := by
                have := HGX.out.ok
                simp only [okB, decide_eq_true_eq] at this
                rw [hB]; split <;> omega
              have HPB := hidT (HP7.out.later (below1 w7 (.cells #[.bool x.req.wr, .int .i64 x.req.f, .int .i64 x.req.m, .slice x.req.da x.req.data.length x.req.dc, .slice x.req.ta x.req.tags.length x.req.tc, .int .i64 x.req.born] 38)))
              have hq7 : q ≠ w7.heap.size := by have := lt_of_heap HP7.out.want; omega
              clear hB c0 c1 c2 c3 c4 c5 c6 c7 c8
              go_loopw [13, 16] (fun n k wr => ∃ (n' j : Nat), j ≤ B ∧ n' = N + j ∧ n = .int .i64 n' ∧ k = .int .i64 j ∧ Ph w w.heap.size q (d.did x.req) a7 ((d.writesTo x.req j).after kp) wr ∧ BoxAt wr w7.heap.size x.req) (fun _ k _ => B - (intOf k).toNat)
              case atStart => exact ⟨N, 0, by omega, rfl, rfl, rfl, HPB.out, box_new _ _ _⟩
              case round =>
                clear HPB HP7
                obtain ⟨n', j, hj, hn', rfl, rfl, hp, hbx⟩ := hrel
                have HP := hidT hp
                have HBX := hidT hbx
                obtain ⟨b0, b1, b2, b3, b4, b5⟩ := hbx
                clear hp
                cases hw : x.req.wr with
                | false =>
                  rw [hw] at b0
                  have hB0 : B = 0 := by rw [HBB.out, hw]; rfl
                  obtain rfl : j = 0 := by omega
                  obtain rfl : n' = N := by omega
                  have HW := hidT hw
                  clear hw hn'
                  by_cases h0m : 0 < x.req.m
                  · go_wp2
                    go_roundw
                    case rel =>
                      refine ⟨n', i + 1, d.did x.req, a7, by omega, by omega, rfl, by go_num, ?_, ?_⟩
                      · rw [Dl.did, HW.out]; exact HNX.out
                      · have := HP.out
                        have e : (d.writesTo x.req 0) = d.did x.req := by rw [Dl.did, HW.out]; rfl
                        rw [e] at this
                        exact this
                    case measure => simp [intOf]; omega
                  · exact absurd (by have := HGX.out.ok; simp only [okB, decide_eq_true_eq] at this; omega) h0m
                | true =>
                  rw [hw] at b0
                  obtain ⟨F, M, hF, hM, hFM, hM1, hdl⟩ := wants x.req hw HGX.out
                  rw [hF] at b1
                  rw [hM] at b2
                  have hBM : B = M := by rw [HBB.out, hw, if_pos rfl, hM]; rfl
                  have HW := hidT hw
                  have HFF := hidT hF
                  have HMM := hidT hM
                  clear hw hF hM
                  by_cases hjl : j < M
                  · have hjl' : (j : Int) < (M : Int) := by omega
                    have hjd : j < x.req.data.length := by omega
                    have hjd' : (j : Int) < (x.req.data.length : Int) := by omega
                    obtain ⟨P, hP⟩ : ∃ P : Nat, P = F + j := ⟨_, rfl⟩
                    have hPi : (F : Int) + (j : Int) = (P : Int) := by omega
                    have hP32 : P < 32 := by omega
                    have hP32' : (P : Int) < 32 := by omega
                    obtain ⟨f1, f2, f3⟩ := HP.out.cell hP32
                    obtain ⟨db, do', hda, hdc⟩ : ∃ db do', x.req.da = some ⟨db, do', none⟩ ∧ wr.cell? ⟨db, do' + j, none⟩ = some (.string (x.req.data.getD j ByteArray.empty)) := by
                      rcases (HAT.out.later HP.out.bel).data with h | ⟨db, o, h, hc⟩
                      · rw [h] at hjd; exact absurd hjd (Nat.not_lt_zero _)
                      · exact ⟨db, o, h, by rw [hc j hjd]⟩
                    rw [hda] at b3
                    have HDA := hidT hda
                    clear hda
                    obtain ⟨r, hr⟩ : ∃ r : Nat, r = n' % 64 := ⟨_, rfl⟩
                    have hrm : (n' : Int).tmod 64 = (r : Int) := by rw [Int.tmod_eq_emod_of_nonneg (by omega)]; omega
                    have hr64 : r < 64 := by omega
                    have hA := writesTo_after d kp x.req j HLT.out
                    rw [HNX.out, show (N % 64 + j) % 64 = r by omega, HFF.out, show ((F : Int).toNat + j) = P by omega] at hA
                    have hnb : n' ≤ 1000 := by omega
                    generalize x.req.data.getD j ByteArray.empty = s at hdc hA
                    have HA := hidT hA
                    have HNJ := hidT hn'
                    clear hA hr hP hn'
                    cases hbt : bitOn kp r
                    · have hb' : (bits BinOp.and IntKind.u64 (kp / 2 ^ r) 1 == 1) = false := hbt
                      have HBT := hidT hbt
                      clear hbt
                      go_wp2
                      go_roundw
                      case rel =>
                        refine ⟨n' + 1, j + 1, by omega, by rw [HNJ.out]; rfl, by go_num, by go_num, ?_, HBX.out⟩
                        rw [HA.out, HBT.out, if_neg (by simp)]
                        exact HP.out
                      case measure => simp [intOf]; omega
                    · have hb' : (bits BinOp.and IntKind.u64 (kp / 2 ^ r) 1 == 1) = true := hbt
                      have HBT := hidT hbt
                      clear hbt
                      go_wp2_with fail
                      go_region
                      go_wp2
                      go_roundw
                      case rel =>
                        refine ⟨n' + 1, j + 1, by omega, by rw [HNJ.out]; rfl, by go_num, by go_num, ?_, ?_⟩
                        · rw [HA.out, if_pos HBT.out]
                          exact (HP.out.set P _).later (Below.refl _ _).drew
                        · exact (boxSet HBX.out (Ne.symm hq7)).later (Below.refl _ _).drew
                      case measure => simp [intOf]; omega
                  · have hgt : ¬ (j : Int) < (M : Int) := by omega
                    have hjM : j = M := by omega
                    go_wp2
                    go_roundw
                    case rel =>
                      have e : d.did x.req = d.writesTo x.req j := by rw [Dl.did, HW.out, if_pos rfl, HMM.out, hjM]; rfl
                      refine ⟨n', i + 1, d.did x.req, a7, by omega, by omega, rfl, by go_num, ?_, ?_⟩
                      · rw [e, writesTo_next _ _ _ HLT.out, HNX.out]; omega
                      · have := HP.out
                        rw [← e] at this
                        exact this
                    case measure => simp [intOf]; omega
            · have hgt : ¬ (i : Int) < (m.length : Int) := by omega
              go_wp2_with fail
              refine (crash_any w.heap.size d a kp HKP.out _ HP.out.dev).mono ?_
              rintro e w7 ⟨a7, rfl, hs7⟩
              have HP7 := hidT (HP.out.step hs7 rfl)
              have hL7 : ∀ p, (d.crash kp).now.getD p ByteArray.empty = (d.after kp).getD p ByteArray.empty := fun p => rfl
              have HL7 := hidT hL7
              clear hs7 HP HBr HNX hL7
              generalize d.after kp = L7 at *
              go_wp2_with fail
              go_loopw [17] (fun i wr => ∃ k : Nat, k ≤ 32 ∧ i = .int .i64 k ∧ Below w7.heap.size w7 wr) (fun i _ => 32 - (intOf i).toNat)
              case atStart => exact ⟨0, by omega, rfl, Below.refl _ _⟩
              case round =>
                obtain ⟨j, hj, rfl, HBk⟩ := hrel
                have HPk := hidT (HP7.out.later HBk)
                by_cases hlt : j < 32
                · have hlt' : (j : Int) < 32 := by omega
                  obtain ⟨f1, f2, f3⟩ := HPk.out.cell hlt
                  obtain ⟨s, hs⟩ : ∃ s, L7.getD j ByteArray.empty = s := ⟨_, rfl⟩
                  rw [hs] at f1
                  have HS := hidT ((HL7.out j).trans hs)
                  have hss : (!(s.toList == s.toList)) = false := by simp
                  clear hs
                  go_wp2_with fail
                  refine wp_region_later (Below.refl _ _) (by kernel_rfl) (by kernel_rfl) ?_
                  repeat (go_big_quiet_step (first | exact rfl | (go_at_call 25; exact calls_later (peek_in w.heap.size _ _ j _ (HPk.out.dev.later (Later.below _)) hlt s HS.out))))
                  refine wpQuiet_nil ?_
                  rintro _ ⟨p, rfl⟩
                  have HBp := hidT p.below
                  go_wp2
                  go_roundw
                  case rel => exact ⟨j + 1, by omega, by go_num, bthen HBk HBp.out⟩
                  case measure => simp [intOf]; omega
                · have hge : ¬ (j : Int) < 32 := by omega
                  go_wp2_with fail
                  refine (busy_any w.heap.size _ _ _ HPk.out.dev).mono ?_
                  rintro e w8 ⟨xa', xc', rfl, -, -, hb8⟩
                  have hbz : (d.crash kp).busy.length = 0 := rfl
                  have HB8 := hidT (bthen HPk.out.bel hb8)
                  clear hb8
                  rw [hbz]
                  go_wp2
                  go_ret
                  exact ⟨rfl, HB8.out⟩
end Go.Proofs.Ythmeaclekedilac
