/- RequestSays: the walk. -/
import Derived.Test.YtpmjgofjdejeeaaDoorReqSays1
namespace Go.Proofs.YtpmjgofjdejeeaaDoor
open Go.RowKit Go.BigFrame
attribute [local go_sem] Later.cell Later.frozen

theorem same_of (n : Int) (w : World) (h0 : 0 ≤ n) : Calls Tryd.prog 5 #[errOf n, .int .i64 n] w fun e w' => e = .returned (.bool true) ∧ Below w.heap.size w w' := by
  by_cases h : n = 0
  · subst h; exact same_nil 0 w
  · rw [errOfA h]
    have := same_err n n w
    rw [show (decide (0 < n) && (n == n)) = true by rw [decide_eq_true (by omega)]; simp] at this
    exact this
theorem fault_nn (r : Rq) : 0 ≤ faultR r := by
  by_cases h : faultR r = 0
  · omega
  · have := fault_pos r h; omega
set_option maxRecDepth 100000 in
set_option maxHeartbeats 4000000 in
theorem rs_walk (a b : Rq) (p : Int) (xs : List ByteArray) (xa : Option Addr) (xc : Nat) (w : World) (ha : a.At w) (hb : b.At w) (tg : Tags64 a) (hp : In64 p) (hx : StrsAt w xa xs) (hxl : xs.length ≤ 9223372036854775807) :
    Calls Tryd.prog 4 #[a.val, b.val, .int .i64 p, .slice xa xs.length xc] w fun e w' => e = .returned (.bool true) ∧ Below w.heap.size w w' := by
  have HTG := hidT tg
  have HPP := hidT hp
  clear tg hp
  go_enter Tryd.func4, Tryd.ntmps4
  go_wp2_with fail
  refine (merges_any _).mono ?_
  rintro e w1 ⟨rfl, hbx⟩
  have S1 := (six_newA w 35 a).alloc (.cells #[.bool b.wr, .int .i64 b.f, .int .i64 b.m, .slice b.da b.data.length b.dc, .slice b.ta b.tags.length b.tc, .int .i64 b.born] 35)
  have S2 := six_newA (w.alloc (.cells #[.bool a.wr, .int .i64 a.f, .int .i64 a.m, .slice a.da a.data.length a.dc, .slice a.ta a.tags.length a.tc, .int .i64 a.born] 35)) 35 b
  rw [World.size_alloc] at S2
  have HB := below2 w (.cells #[.bool a.wr, .int .i64 a.f, .int .i64 a.m, .slice a.da a.data.length a.dc, .slice a.ta a.tags.length a.tc, .int .i64 a.born] 35) (.cells #[.bool b.wr, .int .i64 b.f, .int .i64 b.m, .slice b.da b.data.length b.dc, .slice b.ta b.tags.length b.tc, .int .i64 b.born] 35)
  have T1 := S1.later hbx; have T2 := S2.later hbx; have HC := bthen HB hbx; clear S1 S2 HB hbx; (try clear p0 p1 p2 p3 p4 p5 q0 q1 q2 q3 q4 q5 l1 l2); have S1 := T1; have S2 := T2; have HB := HC; clear T1 T2 HC; obtain ⟨p0, p1, p2, p3, p4, p5⟩ := id S1; obtain ⟨q0, q1, q2, q3, q4, q5⟩ := id S2; have l1 := lt_of_cell p0; have l2 := lt_of_cell q0
  go_wp2_with fail
  cases hla : lightB a
  · refine (light_any a _ (ha.later HB) _ hla).mono ?_
    rintro e w2 ⟨rfl, hbx⟩
    go_wp2
    go_ret
    exact ⟨rfl, by repeat (first | with_reducible exact Below.refl _ _ | with_reducible refine balloc ?_ _ | with_reducible refine bdrew ?_ | with_reducible refine bset' ?_ (by omega) _ | with_reducible refine bthen ?_ (by assumption))⟩
  refine (light_any a _ (ha.later HB) _ hla).mono ?_
  rintro e w2 ⟨rfl, hbx⟩
  have T1 := S1.later hbx; have T2 := S2.later hbx; have HC := bthen HB hbx; clear S1 S2 HB hbx; (try clear p0 p1 p2 p3 p4 p5 q0 q1 q2 q3 q4 q5 l1 l2); have S1 := T1; have S2 := T2; have HB := HC; clear T1 T2 HC; obtain ⟨p0, p1, p2, p3, p4, p5⟩ := id S1; obtain ⟨q0, q1, q2, q3, q4, q5⟩ := id S2; have l1 := lt_of_cell p0; have l2 := lt_of_cell q0
  go_wp2_with fail
  cases hlb : lightB b
  · refine (light_any b _ (hb.later HB) _ hlb).mono ?_
    rintro e w3 ⟨rfl, hbx⟩
    go_wp2
    go_ret
    exact ⟨rfl, by repeat (first | with_reducible exact Below.refl _ _ | with_reducible refine balloc ?_ _ | with_reducible refine bdrew ?_ | with_reducible refine bset' ?_ (by omega) _ | with_reducible refine bthen ?_ (by assumption))⟩
  refine (light_any b _ (hb.later HB) _ hlb).mono ?_
  rintro e w3 ⟨rfl, hbx⟩
  have T1 := S1.later hbx; have T2 := S2.later hbx; have HC := bthen HB hbx; clear S1 S2 HB hbx; (try clear p0 p1 p2 p3 p4 p5 q0 q1 q2 q3 q4 q5 l1 l2); have S1 := T1; have S2 := T2; have HB := HC; clear T1 T2 HC; obtain ⟨p0, p1, p2, p3, p4, p5⟩ := id S1; obtain ⟨q0, q1, q2, q3, q4, q5⟩ := id S2; have l1 := lt_of_cell p0; have l2 := lt_of_cell q0
  by_cases h8 : 8 < xs.length
  · have h8' : (8 : Int) < (xs.length : Int) := by omega
    go_wp2
    go_ret
    exact ⟨rfl, HB⟩
  have h8' : ¬ (8 : Int) < (xs.length : Int) := by omega
  have hfa := fault_nn a
  have HLA := hidT hla
  clear hla hlb
  have ha3 := hidT (ha.later HB)
  go_wp2_with fail
  refine wp_region_later (Below.refl _ _) (by kernel_rfl) (by kernel_rfl) ?_
  repeat (go_big_quiet_step (first | exact rfl | (go_at_call 10; exact calls_later (rcheck_any a _ (ha3.out.later (Later.below _)) _ rfl)) | (go_at_call 11; exact calls_later (rfault_any a _ (ha3.out.later (Later.below _)) _ rfl)) | (go_at_call 5; exact calls_later (same_of _ _ hfa))))
  refine wpQuiet_nil ?_
  intro _ hw'
  obtain ⟨pl, hw''⟩ := hw'
  subst hw''
  have hbx := pl.below
  generalize pl.v = w4 at *
  clear pl ha3
  have T1 := S1.later hbx; have T2 := S2.later hbx; have HC := bthen HB hbx; clear S1 S2 HB hbx; (try clear p0 p1 p2 p3 p4 p5 q0 q1 q2 q3 q4 q5 l1 l2); have S1 := T1; have S2 := T2; have HB := HC; clear T1 T2 HC; obtain ⟨p0, p1, p2, p3, p4, p5⟩ := id S1; obtain ⟨q0, q1, q2, q3, q4, q5⟩ := id S2; have l1 := lt_of_cell p0; have l2 := lt_of_cell q0
  go_wp2_with fail
  by_cases hfa0 : faultR a = 0
  case neg =>
    have hfp := fault_pos a hfa0
    refine (rfault_any a _ (ha.later HB) _ rfl).mono ?_
    rintro e w5 ⟨rfl, hbx⟩
    go_wp2
    go_ret
    exact ⟨rfl, by repeat (first | with_reducible exact Below.refl _ _ | with_reducible refine balloc ?_ _ | with_reducible refine bdrew ?_ | with_reducible refine bset' ?_ (by omega) _ | with_reducible refine bthen ?_ (by assumption))⟩
  refine (rfault_any a _ (ha.later HB) _ hfa0).mono ?_
  rintro e w5 ⟨rfl, hbx⟩
  have T1 := S1.later hbx; have T2 := S2.later hbx; have HC := bthen HB hbx; clear S1 S2 HB hbx; (try clear p0 p1 p2 p3 p4 p5 q0 q1 q2 q3 q4 q5 l1 l2); have S1 := T1; have S2 := T2; have HB := HC; clear T1 T2 HC; obtain ⟨p0, p1, p2, p3, p4, p5⟩ := id S1; obtain ⟨q0, q1, q2, q3, q4, q5⟩ := id S2; have l1 := lt_of_cell p0; have l2 := lt_of_cell q0
  have ga := (good_iff a).1 hfa0
  clear hfa0 hfa
  go_wp2_with fail
  by_cases hfb0 : faultR b = 0
  case neg =>
    have hfp := fault_pos b hfb0
    refine (rfault_any b _ (hb.later HB) _ rfl).mono ?_
    rintro e w6 ⟨rfl, hbx⟩
    go_wp2
    go_ret
    exact ⟨rfl, by repeat (first | with_reducible exact Below.refl _ _ | with_reducible refine balloc ?_ _ | with_reducible refine bdrew ?_ | with_reducible refine bset' ?_ (by omega) _ | with_reducible refine bthen ?_ (by assumption))⟩
  refine (rfault_any b _ (hb.later HB) _ hfb0).mono ?_
  rintro e w6 ⟨rfl, hbx⟩
  have T1 := S1.later hbx; have T2 := S2.later hbx; have HC := bthen HB hbx; clear S1 S2 HB hbx; (try clear p0 p1 p2 p3 p4 p5 q0 q1 q2 q3 q4 q5 l1 l2); have S1 := T1; have S2 := T2; have HB := HC; clear T1 T2 HC; obtain ⟨p0, p1, p2, p3, p4, p5⟩ := id S1; obtain ⟨q0, q1, q2, q3, q4, q5⟩ := id S2; have l1 := lt_of_cell p0; have l2 := lt_of_cell q0
  have gb := (good_iff b).1 hfb0
  clear hfb0
  obtain ⟨t, ht⟩ : ∃ t, togE a b = t := ⟨_, rfl⟩
  have HT := hidT ht
  clear ht
  go_wp2_with fail
  refine (mergeU a b _ ga gb (ha.later HB) (hb.later HB) t HT.out).mono ?_
  rintro e w7 ⟨q, rfl, hq, hqa, hbx⟩
  have HQ := hidT hq
  clear hq
  have T1 := S1.later hbx; have T2 := S2.later hbx; have HC := bthen HB hbx; clear S1 S2 HB hbx; (try clear p0 p1 p2 p3 p4 p5 q0 q1 q2 q3 q4 q5 l1 l2); have S1 := T1; have S2 := T2; have HB := HC; clear T1 T2 HC; obtain ⟨p0, p1, p2, p3, p4, p5⟩ := id S1; obtain ⟨q0, q1, q2, q3, q4, q5⟩ := id S2; have l1 := lt_of_cell p0; have l2 := lt_of_cell q0
  go_wp2_with fail
  refine (rmergeU a b _ ga gb (ha.later (by repeat (first | with_reducible exact Below.refl _ _ | with_reducible refine balloc ?_ _ | with_reducible refine bdrew ?_ | with_reducible refine bset' ?_ (by omega) _ | with_reducible refine bthen ?_ (by assumption)))) (hb.later (by repeat (first | with_reducible exact Below.refl _ _ | with_reducible refine balloc ?_ _ | with_reducible refine bdrew ?_ | with_reducible refine bset' ?_ (by omega) _ | with_reducible refine bthen ?_ (by assumption)))) t HT.out).mono ?_
  rintro e w8 ⟨q', rfl, hq', hqa', hbx'⟩
  have HS := hidT (HQ.out.same hq')
  have SQ := (six_newA w7 35 q).later hbx'
  have hqb := hqa.later (balloc (Below.refl _ _) (.cells #[.bool q.wr, .int .i64 q.f, .int .i64 q.m, .slice q.da q.data.length q.dc, .slice q.ta q.tags.length q.tc, .int .i64 q.born] 35))
  have hqc := hqb.later hbx'
  have hbx := bthen (balloc (Below.refl w7.heap.size w7) _) hbx'
  clear HQ hq' hqa hqb hbx'
  have T1 := S1.later hbx; have T2 := S2.later hbx; have HC := bthen HB hbx; clear S1 S2 HB hbx; (try clear p0 p1 p2 p3 p4 p5 q0 q1 q2 q3 q4 q5 l1 l2); have S1 := T1; have S2 := T2; have HB := HC; clear T1 T2 HC; obtain ⟨p0, p1, p2, p3, p4, p5⟩ := id S1; obtain ⟨q0, q1, q2, q3, q4, q5⟩ := id S2; have l1 := lt_of_cell p0; have l2 := lt_of_cell q0
  go_wp2_with fail
  refine wp_world (fun wK => Six wK w.heap.size a ∧ Six wK w7.heap.size q ∧ Six wK w8.heap.size q' ∧ q.At wK ∧ q'.At wK ∧ Below w.heap.size w wK) ⟨S1.later (by repeat (first | with_reducible exact Below.refl _ _ | with_reducible refine balloc ?_ _ | with_reducible refine bdrew ?_ | with_reducible refine bset' ?_ (by omega) _ | with_reducible refine bthen ?_ (by assumption))), SQ.later (by repeat (first | with_reducible exact Below.refl _ _ | with_reducible refine balloc ?_ _ | with_reducible refine bdrew ?_ | with_reducible refine bset' ?_ (by omega) _ | with_reducible refine bthen ?_ (by assumption))), six_newA w8 _ q', hqc.later (by repeat (first | with_reducible exact Below.refl _ _ | with_reducible refine balloc ?_ _ | with_reducible refine bdrew ?_ | with_reducible refine bset' ?_ (by omega) _ | with_reducible refine bthen ?_ (by assumption))), hqa'.later (by repeat (first | with_reducible exact Below.refl _ _ | with_reducible refine balloc ?_ _ | with_reducible refine bdrew ?_ | with_reducible refine bset' ?_ (by omega) _ | with_reducible refine bthen ?_ (by assumption))), by repeat (first | with_reducible exact Below.refl _ _ | with_reducible refine balloc ?_ _ | with_reducible refine bdrew ?_ | with_reducible refine bset' ?_ (by omega) _ | with_reducible refine bthen ?_ (by assumption))⟩ ?_
  clear S1 SQ hqc hqa' HB p0 p1 p2 p3 p4 p5 q0 q1 q2 q3 q4 q5 l1 l2 S2
  rintro w9 ⟨S1, SQ, SR, hqa, hqa', HB⟩
  obtain ⟨p0, p1, p2, p3, p4, p5⟩ := id S1
  obtain ⟨q0, q1, q2, q3, q4, q5⟩ := id SQ
  obtain ⟨r0, r1, r2, r3, r4, r5⟩ := id SR
  have l1 := lt_of_cell p0
  have l2 := lt_of_cell q0
  have l3 := lt_of_cell r0
  have ha9 := hidT (ha.later HB)
  have Hq := hidT hqa
  have Hq' := hidT hqa'
  have hl8 : a.tags.length ≤ 8 := by have := ga.t4; omega
  have hne : (t != t) = false := by simp
  have hst : (!(({ data := (textT a).toArray } : ByteArray).toList == ({ data := (textT a).toArray } : ByteArray).toList)) = false := by simp
  refine wp_region_later (Below.refl _ _) (by kernel_rfl) (by kernel_rfl) ?_
  repeat (go_big_quiet_step (first | exact rfl | (go_at_call 14; exact calls_later (sameReq_any q q' _ (Hq.out.later (Later.below _)) (Hq'.out.later (Later.below _)) _ HS.out)) | (go_at_call 15; exact calls_later (text_any a _ (ha9.out.later (Later.below _)) HTG.out hl8)) | (go_at_call 17; exact calls_later (reqtext_any a _ (ha9.out.later (Later.below _)) HTG.out hl8))))
  refine wpQuiet_nil ?_
  intro _ hw'
  obtain ⟨pl, hw''⟩ := hw'
  subst hw''
  have hbx := pl.below
  generalize pl.v = wA at *
  clear pl
  have SA := S1.later hbx
  have HA := bthen HB hbx
  clear p0 p1 p2 p3 p4 p5 q0 q1 q2 q3 q4 q5 r0 r1 r2 r3 r4 r5 l1 l2 l3 hbx ha9 Hq Hq' HB S1 SQ SR hqa hqa'
  obtain ⟨p0, p1, p2, p3, p4, p5⟩ := id SA
  have l1 := lt_of_cell p0
  obtain ⟨s, ok, hpo, hpc⟩ := part_all a ga xs xa xc p HPP.out
  have HPO := hidT hpo
  have HPC := hidT hpc
  clear hpo hpc
  go_wp2_with fail
  refine (HPC.out _ (hx.later HA)).mono ?_
  rintro e wB ⟨rfl, hbx⟩
  have SB := SA.later hbx
  have HB := bthen HA hbx
  clear p0 p1 p2 p3 p4 p5 l1 hbx SA HA HPC hne hst HS HT
  obtain ⟨p0, p1, p2, p3, p4, p5⟩ := id SB
  obtain ⟨x1, x2, x3, x4, x5⟩ := ga.bnd
  have hx' := hidT (hx.later HB)
  have hp1 := HPP.out.1
  have hp2 := HPP.out.2
  have HAL := hidT ha
  have HBL := hidT hb
  have HXL := hidT hx
  clear SB ha hb hx
  go_wp2_with fail
  go_loopw [15, 13, 16] (fun t has i wr => ∃ k : Nat, (k : Int) ≤ a.m ∧ k ≤ xs.length ∧ i = .int .i64 k ∧ PartTo a xs p k t has ∧ wr = wB) (fun _ _ i _ => 8 - (intOf i).toNat)
  case atStart => exact ⟨0, by omega, by omega, rfl, Or.inr ⟨fun j hj => absurd hj (Nat.not_lt_zero _), rfl, rfl⟩, rfl⟩
  case round =>
    obtain ⟨k, hk1, hk2, rfl, hpt, rfl⟩ := hrel
    have HPT := hidT hpt
    clear hpt
    by_cases hkm : (k : Int) < a.m
    · by_cases hkx : k < xs.length
      · have hkx' : (k : Int) < (xs.length : Int) := by omega
        by_cases he : a.f + (k : Int) = p
        · rcases hx'.out with h | ⟨bx, ox, hxa, hcx⟩
          · rw [h] at hkx; exact absurd hkx (Nat.not_lt_zero _)
          have cx := hcx k hkx
          clear hcx
          have heb : (a.f + (k : Int) == p) = true := by rw [beq_iff_eq]; exact he
          have HE := hidT he
          clear he
          subst hxa
          generalize hgs : xs.getD k ByteArray.empty = sx at *
          have HGS := hidT hgs
          clear hgs
          go_wp2
          go_roundw
          case rel => exact ⟨k + 1, by omega, by omega, by go_num, Or.inl ⟨k, by omega, HE.out.symm, by rw [HGS.out], rfl⟩, trivial⟩
          case measure => simp [intOf]; omega
        · have heb : (a.f + (k : Int) == p) = false := by rw [beq_eq_false_iff_ne]; exact he
          have HE := hidT he
          clear he
          go_wp2
          go_roundw
          case rel =>
            refine ⟨k + 1, by omega, by omega, by go_num, ?_, trivial⟩
            rcases HPT.out with ⟨j, h1, h2, h3, h4⟩ | ⟨h1, h2, h3⟩
            · exact Or.inl ⟨j, by omega, h2, h3, h4⟩
            · refine Or.inr ⟨fun j hj => ?_, h2, h3⟩
              by_cases e : j = k
              · subst e; exact HE.out
              · exact h1 j (by omega)
          case measure => simp [intOf]; omega
      · obtain ⟨rfl, rfl⟩ := part_end HPO.out HPT.out hk1 hk2 (fun h => hkx h.2)
        have hkx' : ¬ (k : Int) < (xs.length : Int) := by omega
        have hss : (s.toList == s.toList) = true := by simp
        go_wp2
        go_ret
        exact ⟨rfl, HB⟩
    · obtain ⟨rfl, rfl⟩ := part_end HPO.out HPT.out hk1 hk2 (fun h => hkm h.1)
      have hss : (s.toList == s.toList) = true := by simp
      go_wp2
      go_ret
      exact ⟨rfl, HB⟩
end Go.Proofs.YtpmjgofjdejeeaaDoor
