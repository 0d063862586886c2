/- TopPart: of what was read of several sectors each has its own. The walk. -/
import Derived.Test.YthmeaclekedilacDev11
namespace Go.Proofs.Ythmeaclekedilac
open Go.RowKit Go.BigFrame
attribute [local go_sem] Later.cell Later.frozen

theorem off_of {F : Nat → Prop} {w : World} {r : Rq} (h : r.At w) (hF : ∀ k, F k → w.heap.size ≤ k) : r.Off F :=
  ⟨fun he ad ha hk => by have h1 := strs_lt h.data he ha; have h2 := hF _ hk; omega, fun he ad ha hk => by have h1 := ints_lt h.tags he ha; have h2 := hF _ hk; omega⟩
theorem an0_foot {b k : Nat} (h : an0.foot b k) : k = b := by
  rcases h with h | ⟨p, hp, _⟩ | ⟨p, hp, _⟩
  · exact h
  · cases hp
  · cases hp
def rqX : Rq := ⟨false, 3, 1, none, 0, [], none, 0, [], 0⟩
theorem x_at (w : World) (b : Nat) (h : w.cell? ⟨b, 0, none⟩ = some (.string ⟨#[120]⟩)) : StrsAt w (some ⟨b, 0, none⟩) [⟨#[120]⟩] := by
  refine Or.inr ⟨b, 0, rfl, ?_⟩
  intro i hi
  match i, hi with
  | 0, _ => simpa using h
theorem readTo_at (d : Dl) (f n j : Nat) (h : j < n) : (readTo d f n).getD j ByteArray.empty = d.now.getD (f + j) ByteArray.empty := by
  unfold readTo
  rw [List.getD_eq_getElem?_getD, List.getElem?_map, List.getElem?_range h]
  rfl
theorem peek_inI (b : Nat) (d : Dl) (a : An) (p : Int) (k : Nat) (w : World) (h : DevAt b d a w) (hp : p = k) (hk : k < 32) (s : ByteArray) (hs : d.now.getD k ByteArray.empty = s) :
    Calls Try.prog 25 #[.pointer (some ⟨b, 0, none⟩), .int .i64 p] w fun e w' => e = .returned (.string s) ∧ Below w.heap.size w w' := by
  subst hp; exact peek_in b d a k w h hk s hs
/-- A result in a block of its own. -/
def ResBox (w : World) (q : Nat) (r : Rq) (xa : Option Addr) (n xc : Nat) (er : Int) : Prop := w.cell? ⟨q, 0, none⟩ = some (.bool r.wr) ∧ w.cell? ⟨q, 1, none⟩ = some (.int .i64 r.f) ∧ w.cell? ⟨q, 2, none⟩ = some (.int .i64 r.m) ∧ w.cell? ⟨q, 3, none⟩ = some (.slice r.da r.data.length r.dc) ∧ w.cell? ⟨q, 4, none⟩ = some (.slice r.ta r.tags.length r.tc) ∧ w.cell? ⟨q, 5, none⟩ = some (.int .i64 r.born) ∧ w.cell? ⟨q, 6, none⟩ = some (.slice xa n xc) ∧ w.cell? ⟨q, 7, none⟩ = some (.int .i64 er)
theorem ResBox.later {w w' : World} {q n xc : Nat} {r : Rq} {xa : Option Addr} {er : Int} (h : ResBox w q r xa n xc er) (hb : Below w.heap.size w w') : ResBox w' q r xa n xc er := by
  obtain ⟨h0, h1, h2, h3, h4, h5, h6, h7⟩ := h
  exact ⟨cell_later' hb h0, cell_later' hb h1, cell_later' hb h2, cell_later' hb h3, cell_later' hb h4, cell_later' hb h5, cell_later' hb h6, cell_later' hb h7⟩
theorem res_new (w : World) (T : TypeId) (r : Rq) (xa : Option Addr) (n xc : Nat) (er : Int) : ResBox (w.alloc (.cells #[.bool r.wr, .int .i64 r.f, .int .i64 r.m, .slice r.da r.data.length r.dc, .slice r.ta r.tags.length r.tc, .int .i64 r.born, .slice xa n xc, .int .i64 er] T)) w.heap.size r xa n xc er := by
  refine ⟨?_, ?_, ?_, ?_, ?_, ?_, ?_, ?_⟩ <;> simp
/-- A device of a law's own, that has no request: what was there stands. -/
structure Mine (w w2 : World) (b : Nat) (d : Dl) (a : An) (wr : World) : Prop where
  step : DStep b d0 an0 d a w2 wr
  none : d.busy = []
theorem Mine.below {w w2 wr : World} {b : Nat} {d : Dl} {a : An} (h : Mine w w2 b d a wr) (hb : w.heap.size ≤ b) (hw : Below w.heap.size w w2) : Below w.heap.size w wr :=
  hw.trans (h.step.only.below hw.size (fun k hk => by rw [an0_foot hk]; exact hb))
theorem Mine.foot {w w2 wr : World} {b : Nat} {d : Dl} {a : An} (h : Mine w w2 b d a wr) (hb : w.heap.size ≤ b) (hw : Below w.heap.size w w2) : ∀ k, a.foot b k → w.heap.size ≤ k := fun k hk =>
  (h.step.foot k hk).elim (fun e => by rw [an0_foot e]; exact hb) (fun h' => Nat.le_trans hw.size h')
set_option maxRecDepth 100000 in
set_option maxHeartbeats 4000000 in
theorem tp_walk (l : List Ac) (la : Option Addr) (lc : Nat) (r : Rq) (w : World) (hl : ActsAt w la l) (hr : r.At w) :
    Calls Try.prog 8 #[.slice la l.length lc, r.val] w fun e w' => e = .returned (.bool true) ∧ Below w.heap.size w w' := by
  have HL := hidT hl
  have HR := hidT hr
  clear hl hr
  go_enter Try.func8, Try.ntmps8
  go_wp2_with fail
  refine (part_in rqX [⟨#[120]⟩] (some ⟨w.heap.size + 1, 0, none⟩) 1 0 3 _ (x_at _ _ (by simp [go_sem])) (by decide +kernel) 0 (by decide +kernel) (by decide) ⟨#[120]⟩ rfl).mono ?_
  rintro e w1 ⟨rfl, hb1⟩
  have HX1 := hidT ((box_new w 38 r).later (bthen (below1 _ _) hb1))
  have HB1 := hidT (show Below w.heap.size w w1 by repeat (first | with_reducible exact Below.refl _ _ | with_reducible refine balloc ?_ _ | with_reducible refine bdrew ?_ | with_reducible refine bset' ?_ (by omega) _ | with_reducible refine bthen ?_ (by assumption)))
  clear hb1
  go_wp2_with fail
  refine (new_any _).mono ?_
  rintro e w2 ⟨rfl, hdev, hb2, -⟩
  have HX2 := HX1.out.later hb2
  have HB2 := bthen HB1.out hb2
  have hb0 : w.heap.size ≤ w1.heap.size := HB1.out.size
  have hne : w.heap.size ≠ w1.heap.size := by have := lt_of_cell HX1.out.1; omega
  generalize w1.heap.size = b at *
  have HD2 := hidT hdev
  clear hb2 hdev
  go_wp2_with fail
  cases hla : lightsA l 30
  · refine (lightsA_any l la lc 30 _ (HL.out.later HB2) (by omega) _ hla).mono ?_
    rintro e w3 ⟨rfl, hb3⟩
    go_wp2
    go_ret
    exact ⟨rfl, by repeat (first | with_reducible exact Below.refl _ _ | with_reducible refine balloc ?_ _ | with_reducible refine bdrew ?_ | with_reducible refine bset' ?_ (by omega) _ | with_reducible refine bthen ?_ (by assumption))⟩
  refine (lightsA_any l la lc 30 _ (HL.out.later HB2) (by omega) _ hla).mono ?_
  rintro e w3 ⟨rfl, hb3⟩
  have HX3 := HX2.later hb3
  have HB3 := bthen HB2 hb3
  have HD3 := hidT (HD2.out.later hb3)
  have h30 : l.length ≤ 30 := by simp only [lightsA, Bool.and_eq_true, decide_eq_true_eq] at hla; exact hla.1
  clear hb3 HX2 HB2 HD2 hla HX1 HB1
  obtain ⟨x0, x1, x2, x3, x4, x5⟩ := id HX3
  go_wp2_with fail
  cases hlr : lightB r
  · refine (light_any r _ (HR.out.later HB3) _ hlr).mono ?_
    rintro e w4 ⟨rfl, hb4⟩
    go_wp2
    go_ret
    exact ⟨rfl, by repeat (first | with_reducible exact Below.refl _ _ | with_reducible refine balloc ?_ _ | with_reducible refine bdrew ?_ | with_reducible refine bset' ?_ (by omega) _ | with_reducible refine bthen ?_ (by assumption))⟩
  refine (light_any r _ (HR.out.later HB3) _ hlr).mono ?_
  rintro e w4 ⟨rfl, hb4⟩
  have HX4 := HX3.later hb4
  have HB4 := bthen HB3 hb4
  have HD4 := hidT (HD3.out.later hb4)
  clear hb4 HX3 HB3 HD3 hlr x0 x1 x2 x3 x4 x5
  obtain ⟨x0, x1, x2, x3, x4, x5⟩ := id HX4
  go_wp2_with fail
  by_cases hf : faultR r = 0
  case neg =>
    have HF := hidT hf
    clear hf
    refine (rcheck_err r _ (HR.out.later HB4) HF.out).mono ?_
    rintro e w5 ⟨rfl, hb5⟩
    go_wp2
    go_ret
    exact ⟨rfl, by repeat (first | with_reducible exact Below.refl _ _ | with_reducible refine balloc ?_ _ | with_reducible refine bdrew ?_ | with_reducible refine bset' ?_ (by omega) _ | with_reducible refine bthen ?_ (by assumption))⟩
  have GR := hidT ((good_iff r).1 hf)
  refine (rcheck_nil r _ (HR.out.later HB4) hf).mono ?_
  rintro e w5 ⟨rfl, hb5⟩
  have HX5 := HX4.later hb5
  have HB5 := bthen HB4 hb5
  have HD5 := hidT (HD4.out.later hb5)
  clear hb5 HX4 HB4 HD4 hf x0 x1 x2 x3 x4 x5
  obtain ⟨x0, x1, x2, x3, x4, x5⟩ := id HX5
  cases hw : r.wr
  case true =>
    have HW := hidT hw
    rw [hw] at x0
    clear hw
    go_wp2
    go_ret
    exact ⟨rfl, HB5⟩
  have HW := hidT hw
  rw [hw] at x0
  have HX := hidT HX5
  have HB := hidT HB5
  clear hw HX5 HB5
  go_wp2_with fail
  clear x0 x1 x2 x3 x4 x5
  go_loopw [8] (fun i wr => ∃ (k : Nat) (d : Dl) (a : An), k ≤ l.length ∧ i = .int .i64 k ∧ Mine w w5 b d a wr) (fun i _ => l.length - (intOf i).toNat)
  case atStart => exact ⟨0, d0, an0, by omega, rfl, DStep.same HD5.out (Below.refl _ _), rfl⟩
  case round =>
    obtain ⟨k, d, a, hk, rfl, hm⟩ := hrel
    have HM := hidT hm
    have HBr := hm.below hb0 HB.out
    have HF := hidT (hm.foot hb0 HB.out)
    clear hm
    by_cases hlt : k < l.length
    · have hlt' : (k : Int) < (l.length : Int) := by omega
      rcases HL.out.form with rfl | ⟨bl, ol, rfl⟩
      · exact absurd hlt (Nat.not_lt_zero _)
      have hla := HL.out.later HBr
      obtain ⟨c0, c1, c2, c3, c4, c5, c6, c7, c8⟩ := hla.cells hlt
      have hat := hidT (hla.2.1 _ (List.getElem_mem hlt))
      have hoff := hidT (off_of (HL.out.2.1 _ (List.getElem_mem hlt)) HF.out)
      clear hla
      generalize hx : l[k] = x at *
      clear hx
      go_wp2_with fail
      by_cases hf : faultR x.req = 0
      case neg =>
        have HFX := hidT hf
        clear hf
        refine (written_no b x _ hat.out HFX.out).mono ?_
        rintro e w6 ⟨rfl, hb6⟩
        have HM6 := hidT (⟨HM.out.step.later hb6, HM.out.none⟩ : Mine w w5 b d a w6)
        clear hb6 c0 c1 c2 c3 c4 c5 c6 c7 c8 hat hoff
        go_wp2
        go_roundw
        case rel => exact ⟨k + 1, d, a, by omega, by go_num, HM6.out⟩
        case measure => simp [intOf]; omega
      have HFX := hidT hf
      clear hf
      refine (written_yes b d a x _ HM.out.step.dev HM.out.none hat.out hoff.out HFX.out).mono ?_
      rintro e w6 ⟨a6, rfl, hs6⟩
      have HM6 := hidT (⟨HM.out.step.trans hs6, by rw [Dl.did_busy]; exact HM.out.none⟩ : Mine w w5 b (d.did x.req) a6 w6)
      clear hs6 c0 c1 c2 c3 c4 c5 c6 c7 c8 hat hoff
      go_wp2
      go_roundw
      case rel => exact ⟨k + 1, _, a6, by omega, by go_num, HM6.out⟩
      case measure => simp [intOf]; omega
    · have hbx := HX.out.only HM.out.step.only (fun e => hne (an0_foot e))
      obtain ⟨x0, x1, x2, x3, x4, x5⟩ := hbx
      have hgt : ¬ (k : Int) < (l.length : Int) := by omega
      go_wp2_with fail
      have hraw := HR.out.later HBr
      refine (start_ok b d a r _ HM.out.step.dev (by rw [HM.out.none]; simp) hraw (off_of HR.out HF.out)).mono ?_
      rintro e w6 ⟨a6, rfl, hs6⟩
      rw [HM.out.none, List.nil_append] at hs6
      have HS6 := hidT hs6
      clear hs6 x0 x1 x2 x3 x4 x5
      go_wp2_with fail
      refine (end_only b d r a6 _ HM.out.none HS6.out.dev GR.out).mono ?_
      rintro e w8 ⟨a8, xa, xc, xs, rfl, hxs, hst, hxb, hs8⟩
      have hxs' : xs = readTo d r.f.toNat r.m.toNat := by rw [hxs.out, didRead, if_neg (by rw [HW.out]; simp)]
      have hdid : d.did r = d := by rw [Dl.did, if_neg (by rw [HW.out]; simp)]
      rw [hdid] at hs8
      have HS8 := hidT (HS6.out.trans hs8)
      have nq : ¬ a.foot b w.heap.size := fun e => (HM.out.step.foot _ e).elim (fun e' => hne (an0_foot e')) (fun h' => by have := lt_of_cell HX.out.1; omega)
      have hbx8 := hidT (((HX.out.only HM.out.step.only (fun e => hne (an0_foot e)))).only HS8.out.only nq)
      have HB8 := hidT (HBr.trans (HS8.out.only.below HBr.size HF.out))
      have HXS := hidT (⟨hxs', hst⟩ : _ ∧ _)
      have hxl : xs.length = r.m.toNat := by rw [hxs', readTo_length]
      have HXL := hidT hxl
      clear hs8 hdid hxs hxs' hst hxb hraw nq hxl
      go_wp2_with fail
      have HR9 := hidT (res_new w8 49 r xa xs.length xc 0)
      have HD9 := hidT (HS8.out.dev.alloc (.cells #[.bool r.wr, .int .i64 r.f, .int .i64 r.m, .slice r.da r.data.length r.dc, .slice r.ta r.tags.length r.tc, .int .i64 r.born, .slice xa xs.length xc, .int .i64 0] 49))
      have HST9 := hidT (HXS.out.2.later (below1 w8 (.cells #[.bool r.wr, .int .i64 r.f, .int .i64 r.m, .slice r.da r.data.length r.dc, .slice r.ta r.tags.length r.tc, .int .i64 r.born, .slice xa xs.length xc, .int .i64 0] 49)))
      have HBX9 := hidT (hbx8.out.later (below1 w8 (.cells #[.bool r.wr, .int .i64 r.f, .int .i64 r.m, .slice r.da r.data.length r.dc, .slice r.ta r.tags.length r.tc, .int .i64 r.born, .slice xa xs.length xc, .int .i64 0] 49)))
      have HB9 := hidT (bthen HB8.out (below1 w8 (.cells #[.bool r.wr, .int .i64 r.f, .int .i64 r.m, .slice r.da r.data.length r.dc, .slice r.ta r.tags.length r.tc, .int .i64 r.born, .slice xa xs.length xc, .int .i64 0] 49)))
      generalize w8.alloc (.cells #[.bool r.wr, .int .i64 r.f, .int .i64 r.m, .slice r.da r.data.length r.dc, .slice r.ta r.tags.length r.tc, .int .i64 r.born, .slice xa xs.length xc, .int .i64 0] 49) = w9 at *
      obtain ⟨b1, b2, b3, b4, b5⟩ := GR.out.bndD
      go_loopw [11] (fun i wr => ∃ k : Nat, k ≤ 34 ∧ i = .int .i64 ((k : Int) - 1) ∧ Below w9.heap.size w9 wr) (fun i _ => (34 - (intOf i)).toNat)
      case atStart => exact ⟨0, by omega, rfl, Below.refl _ _⟩
      case round =>
        obtain ⟨n, hn, rfl, HBn⟩ := hrel
        obtain ⟨y0, y1, y2, y3, y4, y5, y6, y7⟩ := HR9.out.later HBn
        by_cases hn34 : n < 34
        · have hle : (n : Int) - 1 ≤ 32 := by omega
          have hmh := hidT (hasB_ok r.f r.m 4 ((n : Int) - 1) GR.out.ok (by omega))
          obtain ⟨z0, z1, z2, z3, z4, z5⟩ := HBX9.out.later HBn
          cases hh : hasB r.f r.m ((n : Int) - 1)
          · have HH := hidT hh
            clear hh
            go_wp2_with fail
            refine (part_no r xa xs.length xc 0 ((n : Int) - 1) _ HH.out).mono ?_
            rintro e wA ⟨rfl, hbA⟩
            obtain ⟨v0, v1, v2, v3, v4, v5⟩ := (HBX9.out.later HBn).later hbA
            go_wp2_with fail
            refine (has_eq _ _ _ _ _ HH.out).mono ?_
            rintro e wB ⟨rfl, hbB⟩
            have HBB := hidT (bthen (bthen HBn hbA) hbB)
            clear hbA hbB v0 v1 v2 v3 v4 v5 y0 y1 y2 y3 y4 y5 y6 y7 z0 z1 z2 z3 z4 z5
            go_wp2
            go_roundw
            case rel => exact ⟨n + 1, by omega, by congr 1; omega, HBB.out⟩
            case measure => simp [intOf]; omega
          · have hsp : r.f ≤ (n : Int) - 1 ∧ (n : Int) - 1 < r.f + r.m := by
              have h2 := hmh.out
              rw [hh, inSpan] at h2
              exact of_decide_eq_true h2.symm
            have HH := hidT hh
            obtain ⟨pk, hpk⟩ : ∃ pk : Nat, (n : Int) - 1 = pk := ⟨((n : Int) - 1).toNat, by omega⟩
            obtain ⟨jj, hjj⟩ : ∃ jj : Nat, pk = r.f.toNat + jj := ⟨pk - r.f.toNat, by omega⟩
            have hwj : wrap64 ((n : Int) - 1 - r.f) = jj := by unfold wrap64; omega
            have hjl : jj < xs.length := by rw [HXL.out]; omega
            have hsx : xs.getD jj ByteArray.empty = d.now.getD pk ByteArray.empty := by rw [HXS.out.1, readTo_at _ _ _ _ (by omega), hjj]
            have HPK := hidT (⟨hpk, (by omega : pk < 32)⟩ : (n : Int) - 1 = (pk : Int) ∧ pk < 32)
            generalize hs : d.now.getD pk ByteArray.empty = s at *
            have HS := hidT hs
            have hss : (!(s.toList == s.toList)) = false := by simp
            clear hh hsp hpk hjj hs
            go_wp2_with fail
            refine (part_in r xs xa xc 0 ((n : Int) - 1) _ (HST9.out.later HBn) HH.out jj hwj hjl s hsx).mono ?_
            rintro e wA ⟨rfl, hbA⟩
            obtain ⟨v0, v1, v2, v3, v4, v5⟩ := (HBX9.out.later HBn).later hbA
            clear hwj
            go_wp2_with fail
            refine (has_eq _ _ _ _ _ HH.out).mono ?_
            rintro e wB ⟨rfl, hbB⟩
            have HBB := bthen (bthen HBn hbA) hbB
            clear v0 v1 v2 v3 v4 v5
            go_wp2_with fail
            refine (peek_inI b d a8 ((n : Int) - 1) pk _ (HD9.out.later HBB) HPK.out.1 HPK.out.2 s HS.out).mono ?_
            rintro e wC ⟨rfl, hbC⟩
            have HBC := hidT (bthen HBB hbC)
            clear hbA hbB hbC HBB y0 y1 y2 y3 y4 y5 y6 y7 z0 z1 z2 z3 z4 z5 hsx hjl
            go_wp2
            go_roundw
            case rel => exact ⟨n + 1, by omega, by congr 1; omega, HBC.out⟩
            case measure => simp [intOf]; omega
        · have hle : ¬ (n : Int) - 1 ≤ 32 := by omega
          go_wp2
          go_ret
          exact ⟨rfl, bthen HB9.out HBn⟩
end Go.Proofs.Ythmeaclekedilac
