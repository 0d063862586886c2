/- TopQueue: no two that wait have a sector in common; what is added is in one of them. The walk. -/
import Derived.Test.YtfdmchhaiikeaabAddMath
namespace Go.Proofs.Ytfdmchhaiikeaab
open Go.RowKit Go.BigFrame
attribute [local go_sem] Later.cell Later.frozen

/-- A closed request that reads one sector. -/
def rqOne (f : Int) (t : Int) (b : Nat) : Rq := ⟨false, f, 1, none, 0, [], some ⟨b, 0, none⟩, 1, [t], 0⟩
theorem goodOne (f t : Int) (b : Nat) (h0 : 0 ≤ f) (h1 : f < 32) : Good (rqOne f t b) := by
  refine ⟨by simp [rqOne, okB]; omega, by simp [rqOne, shapeB], by simp [rqOne], by simp [rqOne], by simp [rqOne], by simp [rqOne], by simp [rqOne, small4]⟩
theorem atOne (f t : Int) (b : Nat) (w : World) (h : w.cell? ⟨b, 0, none⟩ = some (.int .i64 t)) (h0 : 0 ≤ f) (h1 : f < 32) : (rqOne f t b).At w := by
  refine ⟨Or.inl rfl, Or.inr ⟨b, 0, rfl, ?_⟩, by simp [rqOne], by simp [rqOne], by simp [rqOne, In64]; omega, by simp [rqOne, In64], by simp [rqOne, In64], by simp [rqOne], by simp [rqOne]⟩
  intro i hi
  obtain rfl : i = 0 := by simp [rqOne] at hi; omega
  simpa [rqOne] using h
theorem addNil (f t : Int) (b : Nat) (w : World) (h : w.cell? ⟨b, 0, none⟩ = some (.int .i64 t)) (h0 : 0 ≤ f) (h1 : f < 32) :
    Calls Try.prog 15 #[.slice none 0 0, (rqOne f t b).val] w fun e w' => ∃ a' c', e = .returned (.tuple #[.slice a' 1 c', .nilIface]) ∧ Below w.heap.size w w' := by
  refine (add_core [] none 0 (rqOne f t b) w ⟨Or.inl rfl, by simp, by simp⟩ (fun _ => rfl) (atOne f t b w h h0 h1) (by simp) (goodOne f t b h0 h1) (fun i h => absurd h (Nat.not_lt_zero _)) rfl).mono ?_
  rintro e w' ⟨ho, hb⟩
  rcases ho with ⟨L, a', c', hA, rfl, _, _, _⟩ | ⟨_, h6, _⟩
  · rcases hA with ⟨k, hk, _⟩ | ⟨_, _, rfl⟩
    · exact absurd hk (Nat.not_lt_zero _)
    · exact ⟨a', c', rfl, hb⟩
  · simp at h6

set_option maxRecDepth 100000 in
set_option maxHeartbeats 4000000 in
theorem tq_walk (l : List Rq) (a : Option Addr) (c : Nat) (r : Rq) (w : World) (hl : ReqsAt w a l) (hn : a = none → c = 0) (hr : r.At w) :
    Calls Try.prog 5 #[.slice a l.length c, r.val] w fun e w' => e = .returned (.bool true) ∧ Below w.heap.size w w' := by
  have hlen := hl.2.2
  go_enter Try.func5, Try.ntmps5
  go_wp2_with fail
  refine (addNil 3 1 (w.heap.size + 1) _ (by simp) (by omega) (by omega)).mono ?_
  rintro e w1 ⟨a1, c1, rfl, hb1⟩
  have S : Six w1 w.heap.size r := by
    have := (six_newA w 32 r)
    exact (this.alloc _).later hb1
  have HB : Below w.heap.size w w1 := by repeat (first | with_reducible exact Below.refl _ _ | with_reducible refine balloc ?_ _ | with_reducible refine bdrew ?_ | with_reducible refine bset' ?_ (by omega) _ | with_reducible refine bthen ?_ (by assumption))
  clear hb1
  obtain ⟨s0, s1, s2, s3, s4, s5⟩ := id S
  go_wp2_with fail
  cases hll : lightsB l
  · refine (lights_any l _ c _ (hl.later HB) _ hll).mono ?_
    rintro e w2 ⟨rfl, hbx⟩
    go_wp2
    go_ret
    exact ⟨rfl, by repeat (first | with_reducible exact Below.refl _ _ | with_reducible refine balloc ?_ _ | with_reducible refine bdrew ?_ | with_reducible refine bset' ?_ (by omega) _ | with_reducible refine bthen ?_ (by assumption))⟩
  have h10 : l.length ≤ 10 := by simp only [lightsB, Bool.and_eq_true, decide_eq_true_eq] at hll; exact hll.1
  refine (lights_any l _ c _ (hl.later HB) _ hll).mono ?_
  rintro e w2 ⟨rfl, hbx⟩
  have T1 : Six w2 w.heap.size r := (by repeat (first | with_reducible exact S | with_reducible refine Six.drew ?_ | with_reducible refine Six.alloc ?_ _ | with_reducible refine Six.later ?_ (by assumption) | with_reducible refine Six.set ?_ (by omega) _)); have HC : Below w.heap.size w w2 := (by repeat (first | with_reducible exact Below.refl _ _ | with_reducible refine balloc ?_ _ | with_reducible refine bdrew ?_ | with_reducible refine bset' ?_ (by omega) _ | with_reducible refine bthen ?_ (by assumption))); clear S HB s0 s1 s2 s3 s4 s5 hbx; have S := T1; have HB := HC; clear T1 HC; obtain ⟨s0, s1, s2, s3, s4, s5⟩ := id S
  go_wp2_with fail
  cases hlr : lightB r
  · refine (light_any r _ (hr.later HB) _ hlr).mono ?_
    rintro e w3 ⟨rfl, hbx⟩
    go_wp2
    go_ret
    exact ⟨rfl, by repeat (first | with_reducible exact Below.refl _ _ | with_reducible refine balloc ?_ _ | with_reducible refine bdrew ?_ | with_reducible refine bset' ?_ (by omega) _ | with_reducible refine bthen ?_ (by assumption))⟩
  refine (light_any r _ (hr.later HB) _ hlr).mono ?_
  rintro e w3 ⟨rfl, hbx⟩
  have T1 : Six w3 w.heap.size r := (by repeat (first | with_reducible exact S | with_reducible refine Six.drew ?_ | with_reducible refine Six.alloc ?_ _ | with_reducible refine Six.later ?_ (by assumption) | with_reducible refine Six.set ?_ (by omega) _)); have HC : Below w.heap.size w w3 := (by repeat (first | with_reducible exact Below.refl _ _ | with_reducible refine balloc ?_ _ | with_reducible refine bdrew ?_ | with_reducible refine bset' ?_ (by omega) _ | with_reducible refine bthen ?_ (by assumption))); clear S HB s0 s1 s2 s3 s4 s5 hbx; have S := T1; have HB := HC; clear T1 HC; obtain ⟨s0, s1, s2, s3, s4, s5⟩ := id S
  go_wp2_with fail
  cases hg : goodsB l
  · refine (goods_any l _ c _ (hl.later HB)).mono ?_
    rw [hg]
    rintro e w4 ⟨rfl, hbx⟩
    go_wp2
    go_ret
    exact ⟨rfl, by repeat (first | with_reducible exact Below.refl _ _ | with_reducible refine balloc ?_ _ | with_reducible refine bdrew ?_ | with_reducible refine bset' ?_ (by omega) _ | with_reducible refine bthen ?_ (by assumption))⟩
  refine (goods_any l _ c _ (hl.later HB)).mono ?_
  rw [hg]
  rintro e w4 ⟨rfl, hbx⟩
  have T1 : Six w4 w.heap.size r := (by repeat (first | with_reducible exact S | with_reducible refine Six.drew ?_ | with_reducible refine Six.alloc ?_ _ | with_reducible refine Six.later ?_ (by assumption) | with_reducible refine Six.set ?_ (by omega) _)); have HC : Below w.heap.size w w4 := (by repeat (first | with_reducible exact Below.refl _ _ | with_reducible refine balloc ?_ _ | with_reducible refine bdrew ?_ | with_reducible refine bset' ?_ (by omega) _ | with_reducible refine bthen ?_ (by assumption))); clear S HB s0 s1 s2 s3 s4 s5 hbx; have S := T1; have HB := HC; clear T1 HC; obtain ⟨s0, s1, s2, s3, s4, s5⟩ := id S
  have G := goods_of hg
  have HG := hid_of G
  clear hg hll hlr G
  go_wp2_with fail
  by_cases hf : faultR r = 0
  case neg =>
    refine (add_bad l a c r _ (hr.later HB) _ rfl hf).mono ?_
    rintro e w5 ⟨rfl, hbx⟩
    go_wp2
    go_ret
    exact ⟨rfl, by repeat (first | with_reducible exact Below.refl _ _ | with_reducible refine balloc ?_ _ | with_reducible refine bdrew ?_ | with_reducible refine bset' ?_ (by omega) _ | with_reducible refine bthen ?_ (by assumption))⟩
  have gr := (good_iff r).1 hf
  cases hm : l.any (meetsB r)
  case true =>
    refine (add_busy l a c r _ (hl.later HB) (hr.later HB) hf hm).mono ?_
    rintro e w5 ⟨rfl, hbx⟩
    go_wp2
    go_ret
    exact ⟨rfl, by repeat (first | with_reducible exact Below.refl _ _ | with_reducible refine balloc ?_ _ | with_reducible refine bdrew ?_ | with_reducible refine bset' ?_ (by omega) _ | with_reducible refine bthen ?_ (by assumption))⟩
  refine (add_core l a c r _ (hl.later HB) hn (hr.later HB) (by omega) gr HG.out.good hm).mono ?_
  rintro e w5 ⟨ho, hbx⟩
  rcases ho with ⟨L, a', c', hA, rfl, hL, hcap, hnil⟩ | ⟨_, _, rfl⟩
  case inr =>
    go_wp2
    go_ret
    exact ⟨rfl, by repeat (first | with_reducible exact Below.refl _ _ | with_reducible refine balloc ?_ _ | with_reducible refine bdrew ?_ | with_reducible refine bset' ?_ (by omega) _ | with_reducible refine bthen ?_ (by assumption))⟩
  have OK := hA.ok HG.out gr hm
  have T1 : Six w5 w.heap.size r := (by repeat (first | with_reducible exact S | with_reducible refine Six.drew ?_ | with_reducible refine Six.alloc ?_ _ | with_reducible refine Six.later ?_ (by assumption) | with_reducible refine Six.set ?_ (by omega) _)); have HC : Below w.heap.size w w5 := (by repeat (first | with_reducible exact Below.refl _ _ | with_reducible refine balloc ?_ _ | with_reducible refine bdrew ?_ | with_reducible refine bset' ?_ (by omega) _ | with_reducible refine bthen ?_ (by assumption))); clear S HB s0 s1 s2 s3 s4 s5 hbx; have S := T1; have HB := HC; clear T1 HC; obtain ⟨s0, s1, s2, s3, s4, s5⟩ := id S
  have HO := hid_of OK
  have hgs := goods_true OK.goods
  have hLl : L.length ≤ l.length + 1 := OK.len
  clear hA hm hf OK
  go_wp2_with fail
  refine (goods_any L _ c' _ hL).mono ?_
  rw [hgs]
  rintro e w6 ⟨rfl, hbx⟩
  replace hL := hL.later hbx
  have T1 : Six w6 w.heap.size r := (by repeat (first | with_reducible exact S | with_reducible refine Six.drew ?_ | with_reducible refine Six.alloc ?_ _ | with_reducible refine Six.later ?_ (by assumption) | with_reducible refine Six.set ?_ (by omega) _)); have HC : Below w.heap.size w w6 := (by repeat (first | with_reducible exact Below.refl _ _ | with_reducible refine balloc ?_ _ | with_reducible refine bdrew ?_ | with_reducible refine bset' ?_ (by omega) _ | with_reducible refine bthen ?_ (by assumption))); clear S HB s0 s1 s2 s3 s4 s5 hbx; have S := T1; have HB := HC; clear T1 HC; obtain ⟨s0, s1, s2, s3, s4, s5⟩ := id S
  clear hgs
  have hl6 := hl.later HB
  have hLg := hid_of HO.out.goods.good
  obtain ⟨v1, v2, v3, v4, v5⟩ := gr.bnd
  have ls := lt_of_cell s0
  have hL11 : L.length ≤ 11 := by omega
  clear hlen hcap hnil hn hl hr
  go_wp2_with fail
  go_loopw [7, 9] (fun nv iv wr => ∃ k : Nat, k ≤ L.length ∧ iv = .int .i64 k ∧ nv = .int .i64 (sumM L k) ∧ w6 = wr) (fun _ iv _ => L.length - (intOf iv).toNat)
  case atStart => exact ⟨0, by omega, rfl, rfl, rfl⟩
  case round =>
    obtain ⟨k, hk, rfl, rfl, rfl⟩ := hrel
    obtain ⟨u1, u2⟩ := sumM_bd hLg.out k hk
    have u3 : sumM L k ≤ 44 := by omega
    clear u2
    by_cases hlt : k < L.length
    · have h0 : L ≠ [] := by rintro rfl; exact absurd hlt (Nat.not_lt_zero _)
      obtain ⟨b, o, rfl⟩ := hL.form.resolve_left h0
      obtain ⟨d0, d1, d2, d3, d4, d5⟩ := hL.cells hlt
      obtain ⟨x1, x2, x3, x4, x5⟩ := (hLg.out k hlt).bnd
      have HE := hid_of (sumM_step hlt)
      clear h0
      go_wp2
      go_roundw
      case rel => exact ⟨k + 1, by omega, by go_num, by rw [HE.out], by first | exact trivial | rfl⟩
      case measure => simp [intOf]; omega
    · have hkk : k = L.length := by omega
      subst hkk
      go_wp2_with fail
      go_loopw [8, 10] (fun mv iv wr => ∃ k : Nat, k ≤ l.length ∧ iv = .int .i64 k ∧ mv = .int .i64 (r.m + sumM l k) ∧ w6 = wr) (fun _ iv _ => l.length - (intOf iv).toNat)
      case atStart => exact ⟨0, by omega, rfl, by simp [sumM], rfl⟩
      case round =>
        obtain ⟨k, hk2, rfl, rfl, rfl⟩ := hrel
        obtain ⟨y1, y2⟩ := sumM_bd HG.out.good k hk2
        have y3 : sumM l k ≤ 44 := by omega
        clear y2
        by_cases hlt2 : k < l.length
        · have h0 : l ≠ [] := by rintro rfl; exact absurd hlt2 (Nat.not_lt_zero _)
          obtain ⟨b, o, rfl⟩ := hl6.form.resolve_left h0
          obtain ⟨d0, d1, d2, d3, d4, d5⟩ := hl6.cells hlt2
          obtain ⟨x1, x2, x3, x4, x5⟩ := (HG.out.good k hlt2).bnd
          have HE := hid_of (sumM_step hlt2)
          clear h0
          go_wp2
          go_roundw
          case rel => exact ⟨k + 1, by omega, by go_num, by rw [HE.out, Int.add_assoc], by first | exact trivial | rfl⟩
          case measure => simp [intOf]; omega
        · have hkk : k = l.length := by omega
          subst hkk
          have hne : (sumM L L.length != r.m + sumM l l.length) = false := by rw [bne_eq_false_iff_eq]; exact HO.out.sum
          go_wp2_with fail
          clear hne u1 u3 y1 y3 hlt hlt2
          go_loopw [11] (fun iv wr => ∃ k : Nat, k ≤ L.length ∧ iv = .int .i64 k ∧ (∀ j (hj : j < L.length), j < k → inSpan L[j].f L[j].m r.f = false) ∧ Below w6.heap.size w6 wr) (fun iv _ => L.length - (intOf iv).toNat)
          case atStart => exact ⟨0, by omega, rfl, fun j hj h => absurd h (Nat.not_lt_zero _), Below.refl _ _⟩
          case round =>
            obtain ⟨k, hk3, rfl, hno, HR⟩ := hrel
            have HN := hid_of hno
            clear hno
            by_cases hlt3 : k < L.length
            · have h0 : L ≠ [] := by rintro rfl; exact absurd hlt3 (Nat.not_lt_zero _)
              have hLr := hL.later HR
              obtain ⟨b, o, rfl⟩ := hLr.form.resolve_left h0
              obtain ⟨d0, d1, d2, d3, d4, d5⟩ := hLr.cells hlt3
              have ld := lt_of_cell d0
              obtain ⟨s0, s1, s2, s3, s4, s5⟩ := S.later HR
              have ls := lt_of_cell s0
              have eH := hasB_ok L[k].f L[k].m 4 r.f (hLg.out k hlt3).ok (by omega)
              have k0 : (0 : Int) ≤ (k : Int) := by omega
              have k1 : (k : Int) < (L.length : Int) := by omega
              have HRR := hid_of HR
              have HW := hid_of HB
              clear h0 hLr HR HB
              cases hin : inSpan L[k].f L[k].m r.f
              · rw [hin] at eH
                go_wp2_with fail
                refine wp_region_later (by first | exact HB | exact bdrew HB | exact Below.refl _ _) (by kernel_rfl) (by kernel_rfl) ?_
                repeat (go_big_quiet_step (first | exact rfl | (go_at_call 9; exact calls_later (has_eq _ _ _ _ _ eH))))
                refine wpQuiet_nil ?_; intro _ hw'; obtain ⟨p, hw''⟩ := hw'; subst hw''; (try clear hc hf hz); (try clear HB); have HB := p.below; obtain ⟨hc, hf, hz⟩ := bcell HB
                go_wp2
                go_roundw
                case rel => exact ⟨k + 1, by omega, by go_num, fun j hj h => by by_cases e : j = k; (subst e; exact hin); exact HN.out j hj (by omega), bthen HRR.out HB⟩
                case measure => simp [intOf]; omega
              · rw [hin] at eH
                obtain ⟨fw, ft⟩ := HO.out.fits k hlt3 hin
                rw [fw] at d0
                have ew : (r.wr == r.wr) = true := by simp
                clear hin fw
                rcases Decidable.em (L.length = l.length + 1) with hll | hll
                · have e1 : ((L.length : Int) == (l.length : Int) + 1) = true := by rw [beq_iff_eq]; omega
                  have e2 : IntKind.i64.wrap ((l.length : Int) + 1) = (l.length : Int) + 1 := by rw [IntKind.wrap_i64]; omega
                  clear ft hll
                  go_wp2_with fail
                  refine wp_region_later (by first | exact HB | exact bdrew HB | exact Below.refl _ _) (by kernel_rfl) (by kernel_rfl) ?_
                  repeat (go_big_quiet_step (first | exact rfl | (go_at_call 9; exact calls_later (has_eq _ _ _ _ _ eH))))
                  refine wpQuiet_nil ?_; intro _ hw'; obtain ⟨p, hw''⟩ := hw'; subst hw''; (try clear hc hf hz); (try clear HB); have HB := p.below; obtain ⟨hc, hf, hz⟩ := bcell HB
                  go_wp2_with fail
                  refine wp_region_later (by first | exact HB | exact bdrew HB | exact Below.refl _ _) (by kernel_rfl) (by kernel_rfl) ?_
                  repeat (go_big_quiet_step (first | exact rfl | fail))
                  refine wpQuiet_nil ?_; intro _ hw'; obtain ⟨p, hw''⟩ := hw'; subst hw''; (try clear hc hf hz); (try clear HB); have HB := p.below; obtain ⟨hc, hf, hz⟩ := bcell HB
                  go_wp2
                  go_ret
                  exact ⟨rfl, bthen HW.out (bthen HRR.out HB)⟩
                · have ft' : r.tags.length < L[k].tags.length := ft.resolve_left hll
                  have e1 : ((L.length : Int) == (l.length : Int) + 1) = false := by rw [beq_eq_false_iff_ne]; omega
                  have e2 : IntKind.i64.wrap ((l.length : Int) + 1) = (l.length : Int) + 1 := by rw [IntKind.wrap_i64]; omega
                  have e3 : decide ((r.tags.length : Int) < (L[k].tags.length : Int)) = true := decide_eq_true (by omega)
                  have e4 : decide (r.tags.length < L[k].tags.length) = true := decide_eq_true ft'
                  clear ft hll
                  go_wp2_with fail
                  refine wp_region_later (by first | exact HB | exact bdrew HB | exact Below.refl _ _) (by kernel_rfl) (by kernel_rfl) ?_
                  repeat (go_big_quiet_step (first | exact rfl | (go_at_call 9; exact calls_later (has_eq _ _ _ _ _ eH))))
                  refine wpQuiet_nil ?_; intro _ hw'; obtain ⟨p, hw''⟩ := hw'; subst hw''; (try clear hc hf hz); (try clear HB); have HB := p.below; obtain ⟨hc, hf, hz⟩ := bcell HB
                  go_wp2_with fail
                  refine wp_region_later (by first | exact HB | exact bdrew HB | exact Below.refl _ _) (by kernel_rfl) (by kernel_rfl) ?_
                  repeat (go_big_quiet_step (first | exact rfl | fail))
                  refine wpQuiet_nil ?_; intro _ hw'; obtain ⟨p, hw''⟩ := hw'; subst hw''; (try clear hc hf hz); (try clear HB); have HB := p.below; obtain ⟨hc, hf, hz⟩ := bcell HB
                  go_wp2
                  go_ret
                  exact ⟨rfl, bthen HW.out (bthen HRR.out HB)⟩
            · exfalso
              obtain ⟨i, hi, hit⟩ := HO.out.there
              rw [HN.out i hi (by omega)] at hit
              cases hit
end Go.Proofs.Ytfdmchhaiikeaab
