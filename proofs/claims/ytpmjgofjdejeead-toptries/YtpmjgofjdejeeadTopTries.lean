/- TopTries: a request is tried three times, and then it is told. The walk. -/
import Derived.Test.YtpmjgofjdejeeadDrv4
namespace Go.Proofs.Ytpmjgofjdejeead
open Go.RowKit Go.BigFrame Go.Maps
attribute [local go_sem] Later.cell Later.frozen

theorem run_assertV (n : Int) (w : World) : Sem.run Try.prog (Instr.typeAssert (.iface 37 (.int .i64 n)) 35 37 true) w = .ok (.tuple #[.int .i64 n, .bool true]) w := by kernel_rfl
set_option maxHeartbeats 400000 in
theorem number_errV (n : Int) (w : World) : Calls Try.prog 15 #[.iface 37 (.int .i64 n)] w fun e w' => e = .returned (.int .i64 n) ∧ Below w.heap.size w w' := by
  have ra := run_assertV n
  go_enter Try.func15, Try.ntmps15
  go_wp2
  go_ret
  exact ⟨rfl, Below.refl _ _⟩
theorem sameV (r : Rq) : sameB r r = true := by simp [sameB, eqS, eqN]
/-- A driver of a law's own, behind the world wB. -/
structure Vh (wB : World) (v b bm : Nat) (d : Dl) (a : An) (n : Nat) (D : DataW Unit) (wr : World) : Prop where
  at' : VAt v b bm d a n D wr
  foot : ∀ k, vfoot b bm a k → wB.heap.size ≤ k
  bel : Below wB.heap.size wB wr
theorem Vh.step {wB : World} {v b bm : Nat} {d d' : Dl} {a a' : An} {n n' : Nat} {D D' : DataW Unit} {wr w' : World} (h : Vh wB v b bm d a n D wr) (hs : VStep v b bm d a n D d' a' n' D' wr w') : Vh wB v b bm d' a' n' D' w' where
  at' := hs.at'
  foot := fun k hk => (hs.foot k hk).elim (h.foot k) (fun h' => Nat.le_trans h.bel.size h')
  bel := h.bel.trans (hs.only.below h.bel.size h.foot)
theorem Vh.later {wB : World} {v b bm : Nat} {d : Dl} {a : An} {n : Nat} {D : DataW Unit} {wr w' : World} (h : Vh wB v b bm d a n D wr) (hb : Below wr.heap.size wr w') : Vh wB v b bm d a n D w' := h.step (h.at'.step (DStep.same h.at'.dev hb))
set_option maxRecDepth 100000 in
set_option maxHeartbeats 4000000 in
theorem tt_walk (r : Rq) (fl : Int) (w : World) (hr : r.At w) (htw : ∀ t ∈ r.tags, In64 t) :
    Calls Try.prog 3 #[r.val, .int .i64 fl] w fun e w' => e = .returned (.bool true) ∧ Below w.heap.size w w' := by
  have HR := hidT hr
  have HTW := hidT htw
  clear hr htw
  have HX := hidT (box_new w 27 r)
  obtain ⟨wB, hwB⟩ : ∃ wB, wB = w.alloc (.cells #[.bool r.wr, .int .i64 r.f, .int .i64 r.m, .slice r.da r.data.length r.dc, .slice r.ta r.tags.length r.tc, .int .i64 r.born] 27) := ⟨_, rfl⟩
  have hb0 : Below w.heap.size w wB := by rw [hwB]; exact below1 _ _
  have hz0 : wB.heap.size = w.heap.size + 1 := by rw [hwB]; simp
  rw [← hwB] at HX
  go_enter Try.func3, Try.ntmps3
  go_wp2_with fail
  rw [← hwB]
  have HBw := hidT hb0
  have HRB := hidT (HR.out.later hb0)
  have HZ0 := hidT hz0
  clear hwB hb0 hz0
  refine (new_any wB).mono ?_
  rintro e w1 ⟨rfl, hd1, hb1, hz1⟩
  go_wp2_with fail
  refine (vnew_any wB.heap.size d0 an0 w1 hd1).mono ?_
  rintro e w2 ⟨rfl, hv2, hb2⟩
  have HV2 : Hid (Vh wB (w1.heap.size + 1) wB.heap.size w1.heap.size d0 an0 0 (.map []) w2) := ⟨hv2, fun k hk => hk.elim (fun e => by omega) (fun e => by rw [an0_foot e]; exact Nat.le_refl _), bthen hb1 hb2⟩
  clear hd1 hb1 hz1 hv2 hb2
  generalize w1.heap.size + 1 = v at *
  generalize w1.heap.size = bm at *
  generalize hbe : wB.heap.size = b at *
  have HBE := hidT hbe
  clear hbe
  obtain ⟨x0, x1, x2, x3, x4, x5⟩ := HX.out.later HV2.out.bel
  have xl := lt_of_cell x0
  go_wp2_with fail
  refine (room_yes v b bm d0 an0 0 _ _ HV2.out.at' (by decide)).mono ?_
  rintro e w3 ⟨rfl, hb3⟩
  have HV3 := hidT (HV2.out.later hb3)
  clear hb3 HV2 x0 x1 x2 x3 x4 x5 xl
  obtain ⟨x0, x1, x2, x3, x4, x5⟩ := HX.out.later HV3.out.bel
  have xl := lt_of_cell x0
  go_wp2_with fail
  cases hla : lightB r
  · refine (light_any r _ (HRB.out.later HV3.out.bel) _ hla).mono ?_
    rintro e w4 ⟨rfl, hb4⟩
    have HV4 := hidT (HV3.out.later hb4)
    clear hb4
    go_wp2
    go_ret
    exact ⟨rfl, bthen HBw.out HV4.out.bel⟩
  refine (light_any r _ (HRB.out.later HV3.out.bel) _ hla).mono ?_
  rintro e w4 ⟨rfl, hb4⟩
  have HV4 := hidT (HV3.out.later hb4)
  clear hb4 hla HV3 x0 x1 x2 x3 x4 x5 xl
  obtain ⟨x0, x1, x2, x3, x4, x5⟩ := HX.out.later HV4.out.bel
  have xl := lt_of_cell x0
  go_wp2_with fail
  by_cases hf : faultR r = 0
  case neg =>
    have HF := hidT hf
    clear hf
    refine (rcheck_err r _ (HRB.out.later HV4.out.bel) HF.out).mono ?_
    rintro e w5 ⟨rfl, hb5⟩
    have HV5 := hidT (HV4.out.later hb5)
    clear hb5
    go_wp2
    go_ret
    exact ⟨rfl, bthen HBw.out HV5.out.bel⟩
  have HG := hidT ((good_iff r).1 hf)
  refine (rcheck_nil r _ (HRB.out.later HV4.out.bel) hf).mono ?_
  rintro e w5 ⟨rfl, hb5⟩
  have HV5 := hidT (HV4.out.later hb5)
  clear hb5 hf HV4 x0 x1 x2 x3 x4 x5 xl
  obtain ⟨x0, x1, x2, x3, x4, x5⟩ := HX.out.later HV5.out.bel
  have xl := lt_of_cell x0
  go_wp2_with fail
  refine (vstart_ok v b bm d0 an0 0 _ r _ HV5.out.at' (by decide) (HRB.out.later HV5.out.bel) (off_of HRB.out (fun k hk => HV5.out.foot k (Or.inr hk)))).mono ?_
  rintro e w6 ⟨a6, rfl, hs6⟩
  have HV6 : Hid (Vh wB v b bm { d0 with busy := [r] } a6 0 (.map []) w6) := HV5.out.step hs6
  clear hs6 HV5 x0 x1 x2 x3 x4 x5 xl
  obtain ⟨tg, htg⟩ : ∃ tg, r.tags.getD 0 0 = tg := ⟨_, rfl⟩
  have h1 := HG.out.t1
  have HTG := hidT htg
  have HT64 : Hid (In64 tg) := by rw [← htg]; exact HTW.out _ (by rw [List.getD_eq_getElem?_getD, List.getElem?_eq_getElem (show 0 < r.tags.length by omega)]; exact List.getElem_mem _)
  have HOB : Hid (r.Off (fun k => k = bm)) := off_of HRB.out (fun k e => by subst e; exact HV6.out.foot _ (Or.inl rfl))
  clear htg
  go_wp2_with fail
  generalize bits BinOp.and IntKind.i64 fl 7 = K at *
  go_loopw [7] (fun i wr => ∃ (j n : Nat) (a : An) (D : DataW Unit), 1 ≤ j ∧ j ≤ 3 ∧ n ≤ j ∧ i = .int .i64 j ∧ D.atKey (.int .i64 tg) (.lit (.int .i64 0)) = .lit (.int .i64 ((j : Int) - 1)) ∧ Vh wB v b bm { d0 with busy := [r] } a n D wr) (fun i _ => 4 - (intOf i).toNat)
  case atStart => exact ⟨1, 0, a6, .map [], by omega, by omega, by omega, rfl, rfl, HV6.out⟩
  case round =>
    obtain ⟨j, n, a, D, hj1, hj3, hnj, rfl, hc, hv⟩ := hrel
    have HV := hidT hv
    have HC := hidT hc
    clear hv hc HV6
    have xl : w.heap.size < wr.heap.size := lt_of_cell (HX.out.later HV.out.bel).1
    by_cases hjK : (j : Int) ≤ K
    · go_wp2_with fail
      by_cases hlt : j < 3
      · refine (vend_again v b bm d0 a n D r tg ((j : Int) - 1) _ HV.out.at' rfl HTG.out HT64.out h1 HC.out ⟨by omega, by omega⟩ (by omega) HOB.out).mono ?_
        rintro e w7 ⟨a7, rfl, hs7⟩
        have HD7 := hidT (HV.out.at'.map.isMap)
        have HV7 := hidT (HV.out.step hs7)
        have hj' : ¬ (j : Int) = 3 := by omega
        clear hs7 HV
        go_wp2
        go_roundw
        case rel =>
          refine ⟨j + 1, n + 1, a7, D.put (.int .i64 tg) (.lit (.int .i64 ((j : Int) - 1 + 1))), by omega, by omega, by omega, by go_num, ?_, HV7.out.later (below1 _ _)⟩
          rw [atKey_put_same HD7.out (by trivial)]
          congr 2; omega
        case measure => simp [intOf]; omega
      · obtain rfl : j = 3 := by omega
        refine (vend_done v b bm d0 a n D r tg 2 _ HV.out.at' rfl HTG.out HT64.out h1 HC.out ⟨by omega, by omega⟩).mono ?_
        rintro e w7 ⟨a7, rfl, hs7⟩
        have HV7 := hidT (HV.out.step hs7)
        have HXR := hidT (res_new w7 39 r none 0 0 8)
        have HV8 := hidT (HV7.out.later (below1 w7 (.cells #[.bool r.wr, .int .i64 r.f, .int .i64 r.m, .slice r.da r.data.length r.dc, .slice r.ta r.tags.length r.tc, .int .i64 r.born, .slice none 0 0, .int .i64 8] 39)))
        clear hs7 HV HV7
        go_wp2_with fail
        refine (vend_none v b bm d0 a7 n _ true _ HV8.out.at' rfl).mono ?_
        rintro e w9 ⟨rfl, hb9⟩
        have HV9 := hidT (HV8.out.later hb9)
        obtain ⟨y0, y1, y2, y3, y4, y5, y6, y7⟩ := HXR.out.later hb9
        have yl := lt_of_cell y0
        clear hb9 HV8 HXR
        obtain ⟨x0, x1, x2, x3, x4, x5⟩ := HX.out.later HV9.out.bel
        have xl9 := lt_of_cell x0
        go_wp2_with fail
        refine (sameReq_any r r _ (HRB.out.later HV9.out.bel) (HRB.out.later HV9.out.bel) true (sameV r)).mono ?_
        rintro e wA ⟨rfl, hbA⟩
        have HVA := hidT (HV9.out.later hbA)
        clear hbA HV9
        go_wp2_with fail
        refine (number_errV 5 _).mono ?_
        rintro e wC ⟨rfl, hbC⟩
        have HVC := hidT (HVA.out.later hbC)
        clear hbC HVA
        go_wp2
        go_ret
        exact ⟨rfl, bthen HBw.out HVC.out.bel⟩
    · go_wp2_with fail
      refine (vend_ok v b bm d0 a n D r tg _ HV.out.at' rfl HTG.out HT64.out h1 HG.out).mono ?_
      rintro e w7 ⟨a7, xa, xc, xm, rfl, hs7⟩
      have HV7 := hidT (HV.out.step hs7)
      have HXR := hidT (res_new w7 39 r xa xm xc 0)
      have HV8 := hidT (HV7.out.later (below1 w7 (.cells #[.bool r.wr, .int .i64 r.f, .int .i64 r.m, .slice r.da r.data.length r.dc, .slice r.ta r.tags.length r.tc, .int .i64 r.born, .slice xa xm xc, .int .i64 0] 39)))
      clear hs7 HV HV7
      obtain ⟨x0, x1, x2, x3, x4, x5⟩ := HX.out.later HV8.out.bel
      go_wp2_with fail
      refine (sameReq_any r r _ (HRB.out.later HV8.out.bel) (HRB.out.later HV8.out.bel) true (sameV r)).mono ?_
      rintro e wA ⟨rfl, hbA⟩
      have HVA := hidT (HV8.out.later hbA)
      clear hbA HV8
      go_wp2
      go_ret
      exact ⟨rfl, bthen HBw.out HVA.out.bel⟩
end Go.Proofs.Ytpmjgofjdejeead
