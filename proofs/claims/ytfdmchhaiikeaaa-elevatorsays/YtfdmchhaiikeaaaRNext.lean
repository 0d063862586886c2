/- Next of the document's answer. -/
import Derived.Test.YtfdmchhaiikeaaaElev3
import Derived.Test.YtfdmchhaiikeaaaLeast3
import Derived.Deep.DeepCutAuto
namespace Go.Proofs.Ytfdmchhaiikeaaa
open Go.RowKit Go.BigFrame
attribute [local go_sem] Later.cell Later.frozen

theorem roldest_eq (l : List Rq) (a : Option Addr) (c : Nat) (b : Bool) (w : World) (hl : ReqsAt w a l) (n : Int) (hn : oldI b l = n) :
    Calls Try.prog 25 #[.slice a l.length c, .bool b] w fun e w' => e = .returned (.int .i64 n) ∧ Below w.heap.size w w' := by
  subst hn; exact roldest_any l a c b w hl
theorem rfrom_eq (l : List Rq) (a : Option Addr) (c : Nat) (b : Bool) (a' : Int) (w : World) (hl : ReqsAt w a l) (n : Int) (hn : frI b a' l = n) :
    Calls Try.prog 27 #[.slice a l.length c, .bool b, .int .i64 a'] w fun e w' => e = .returned (.int .i64 n) ∧ Below w.heap.size w w' := by
  subst hn; exact rfrom_any l a c b a' w hl



set_option maxRecDepth 100000 in
set_option maxHeartbeats 1000000 in
theorem rnext_begin (l : List Rq) (b o : Nat) (c : Nat) (t : Tn) (now : Int) (w : World) (hl : ReqsAt w (some ⟨b, o, none⟩) l) (g1 : (t.g == 1) = false) (g2 : (t.g == 2) = false)
    (hs : -9223372036854775808 ≤ t.s) (n1 n2 : Int) (h1 : oldI false l = n1) (h2 : oldI true l = n2) (b1 b2 : Bool) (d1 : decide (0 ≤ n1) = b1) (d2 : decide (0 ≤ n2) = b2) (TW : Bool) (TS : Int) (hTW : (beginT b1 b2 t).w = TW) (hTS : (beginT b1 b2 t).s = TS) (i0 : Nat) (hi0 : i0 < l.length) (hO : oldI TW l = i0) (i : Nat) (hi : i < l.length)
    (n0 : 0 ≤ now) (n3 : now ≤ 1000000000) (b0 : 0 ≤ l[i0].born) (b3 : l[i0].born ≤ 1000000000) (f0 : 0 ≤ l[i].f) (f1 : l[i].f ≤ 31) (m0 : 1 ≤ l[i].m) (m1 : l[i].m ≤ 32)
    (hway : (patI TW ≤ now - l[i0].born ∧ i = i0) ∨ (now - l[i0].born < patI TW ∧ (frI TW t.p l = i ∨ (frI TW t.p l = -1 ∧ frI TW 0 l = i)))) :
    Calls Try.prog 30 #[.slice (some ⟨b, o, none⟩) l.length c, t.val, .int .i64 now] w fun e w' => e = .returned (.tuple #[.int .i64 i, Tn.val ⟨TW, 1, TS, l[i].f + l[i].m⟩]) ∧ Below w.heap.size w w' := by
  have hb3 := hl.2.2
  obtain ⟨c0, c1, c2, c3, c4, c5⟩ := hl.cells hi
  have l0 := lt_of_cell c0
  have H1 : Hid (oldI false l = n1) := h1
  have H2 : Hid (oldI true l = n2) := h2
  have H3 : Hid (oldI TW l = i0) := hO
  have HW : Hid ((patI TW ≤ now - l[i0].born ∧ i = i0) ∨ (now - l[i0].born < patI TW ∧ (frI TW t.p l = i ∨ (frI TW t.p l = -1 ∧ frI TW 0 l = i)))) := hway
  have HT : Hid ((beginT b1 b2 t).w = TW ∧ (beginT b1 b2 t).s = TS) := ⟨hTW, hTS⟩
  clear h1 h2 hO hway hTW hTS
  go_enter Try.func30, Try.ntmps30
  go_wp2_with fail
  refine (roldest_eq l _ c _ _ (hl.later (by repeat (first | with_reducible exact Below.refl _ _ | with_reducible refine balloc ?_ _ | with_reducible refine bdrew ?_ | with_reducible refine bset' ?_ (by omega) _ | with_reducible refine bthen ?_ (by assumption)))) n1 H1.out).mono ?_
  rintro e w1 ⟨rfl, HB⟩
  go_wp2_with fail
  refine (roldest_eq l _ c _ _ (hl.later (by repeat (first | with_reducible exact Below.refl _ _ | with_reducible refine balloc ?_ _ | with_reducible refine bdrew ?_ | with_reducible refine bset' ?_ (by omega) _ | with_reducible refine bthen ?_ (by assumption)))) n2 H2.out).mono ?_
  rintro e w2 ⟨rfl, hb⟩
  replace HB := bthen HB hb
  clear hb
  obtain ⟨⟨p0, p1, p2, p3⟩, ⟨k0, k1, k2, k3⟩, q, e, z0, z1⟩ := four2 HB
  have HB0 : Below w.heap.size w w2 := by repeat (first | with_reducible exact Below.refl _ _ | with_reducible refine balloc ?_ _ | with_reducible refine bdrew ?_ | with_reducible refine bset' ?_ (by omega) _ | with_reducible refine bthen ?_ (by assumption))
  have F1 : FourAt w2 w.heap.size (.bool t.w) (.int .i64 t.g) (.int .i64 t.s) (.int .i64 t.p) := ⟨⟨p0, p1, p2, p3⟩, ⟨k0, k1, k2, k3⟩⟩
  have F2 : FourAt w2 (w.heap.size + 1) (.bool false) (.int .i64 0) (.int .i64 0) (.int .i64 0) := ⟨q, e⟩
  clear q e
  go_upto_if 56 with (fail)
  go_cut [9] (fun s9 wx => s9 = .bool b1 ∧ Below w.heap.size w wx ∧ FourAt wx w.heap.size (.bool TW) (.int .i64 t.g) (.int .i64 TS) (.int .i64 t.p) ∧ FourAt wx (w.heap.size + 1) (.bool false) (.int .i64 0) (.int .i64 0) (.int .i64 0))
  case first =>
    obtain ⟨t1, t2⟩ := HT.out
    clear HT H1 H2 H3 HW
    cases b2
    · obtain rfl : false = TW := t1
      obtain rfl : t.s = TS := t2
      go_wp2
      go_meet
      case rel => exact ⟨rfl, by repeat (first | with_reducible exact Below.refl _ _ | with_reducible refine balloc ?_ _ | with_reducible refine bdrew ?_ | with_reducible refine bset' ?_ (by omega) _ | with_reducible refine bthen ?_ (by assumption)), F1.set0 _, F2.other (by omega) _⟩
    · cases b1
      · obtain rfl : true = TW := t1
        obtain rfl : 0 = TS := t2
        go_wp2
        go_meet
        case rel => exact ⟨rfl, by repeat (first | with_reducible exact Below.refl _ _ | with_reducible refine balloc ?_ _ | with_reducible refine bdrew ?_ | with_reducible refine bset' ?_ (by omega) _ | with_reducible refine bthen ?_ (by assumption)), (F1.set0 _).set2 _, (F2.other (by omega) _).other (by omega) _⟩
      · by_cases hst : 2 ≤ t.s
        · have e1 : beginT true true t = ⟨true, 1, 0, t.p⟩ := by simp [beginT, hst]
          rw [e1] at t1 t2
          subst t1 t2
          clear e1
          go_wp2
          go_meet
          case rel => exact ⟨rfl, by repeat (first | with_reducible exact Below.refl _ _ | with_reducible refine balloc ?_ _ | with_reducible refine bdrew ?_ | with_reducible refine bset' ?_ (by omega) _ | with_reducible refine bthen ?_ (by assumption)), (F1.set0 _).set2 _, (F2.other (by omega) _).other (by omega) _⟩
        · have e1 : beginT true true t = ⟨false, 1, t.s + 1, t.p⟩ := by simp [beginT, hst]
          rw [e1] at t1 t2
          subst t1 t2
          clear e1
          go_wp2
          go_meet
          case rel => exact ⟨rfl, by repeat (first | with_reducible exact Below.refl _ _ | with_reducible refine balloc ?_ _ | with_reducible refine bdrew ?_ | with_reducible refine bset' ?_ (by omega) _ | with_reducible refine bthen ?_ (by assumption)), (F1.set0 _).set2 _, (F2.other (by omega) _).other (by omega) _⟩
  case rest =>
    obtain ⟨rfl, HBc, G1, G2⟩ := hcut
    have H3' := H3.out
    have HW' := HW.out
    clear HT H1 H2 H3 HW F1 F2 p0 p1 p2 p3 k0 k1 k2 k3 HB HB0 z0 z1 d1 d2 c0 c3 c4 c5
    have H3 : Hid (oldI TW l = i0) := H3'
    clear H3'
    obtain ⟨_, d1, d2, _, _, d5⟩ := hl.cells hi0
    have ll0 := lt_of_cell c1
    obtain ⟨⟨x0, x1, x2, x3⟩, ⟨y0, y1, y2, y3⟩⟩ := id G1
    go_wp2_with fail
    refine (roldest_eq l _ c _ _ (hl.later HBc) _ H3.out).mono ?_
    rintro e w3 ⟨rfl, hb⟩
    clear x0 x1 x2 x3 y0 y1 y2 y3
    replace G1 := G1.later hb
    replace G2 := G2.later hb
    replace HBc := bthen HBc hb
    clear hb
    replace d5 := cell_later' HBc d5
    rcases HW' with ⟨hw1, rfl⟩ | ⟨hw1, hw2⟩
    · clear d1 d2
      cases TW
      all_goals
        simp only [patI, if_true, if_false, Bool.false_eq_true] at hw1
        obtain ⟨⟨x0, x1, x2, x3⟩, ⟨y0, y1, y2, y3⟩⟩ := G1
        obtain ⟨⟨r0, r1, r2, r3⟩, ⟨s0, s1, s2, s3⟩⟩ := G2
        replace c1 := cell_later' HBc c1
        replace c2 := cell_later' HBc c2
        have l1 := lt_of_cell c1
        have l2 := lt_of_cell x0
        have l3 := lt_of_cell r0
        have hne1 : ¬ b = w.heap.size + 1 := by omega
        have hne2 : ¬ b = w.heap.size := by omega
        have hne3 : ¬ w.heap.size = b := by omega
        have hne4 : ¬ w.heap.size + 1 = b := by omega
        go_wp2_with fail
        go_region
        go_wp2_with fail
        go_region
        go_wp2
        refine bodyPost_ret (v := .tuple #[.int .i64 i, Tn.val ⟨_, 1, TS, l[i].f + l[i].m⟩]) ?_ rfl ⟨rfl, by repeat (first | with_reducible exact Below.refl _ _ | with_reducible refine balloc ?_ _ | with_reducible refine bdrew ?_ | with_reducible refine bset' ?_ (by omega) _ | with_reducible refine bthen ?_ (by assumption))⟩
        simp [results, Try.results30, go_sem, r0, r1, r2, r3]
    · rcases hw2 with hw2 | ⟨hw2, hw3⟩
      · have HK : Hid (frI TW t.p l = i) := hw2
        clear hw2 d1 d2
        have hii : decide ((i : Int) < 0) = false := decide_eq_false (by omega)
        cases TW
        all_goals
          simp only [patI, if_true, if_false, Bool.false_eq_true] at hw1
          obtain ⟨⟨x0, x1, x2, x3⟩, ⟨y0, y1, y2, y3⟩⟩ := id G1
          go_wp2_with fail
          refine (rfrom_eq l _ c _ _ _ (hl.later HBc) _ HK.out).mono ?_
          rintro e w4 ⟨rfl, hb⟩
          clear x0 x1 x2 x3 y0 y1 y2 y3 d5
          replace G1 := G1.later hb
          replace G2 := G2.later hb
          replace HBc := bthen HBc hb
          clear hb
          obtain ⟨⟨x0, x1, x2, x3⟩, ⟨y0, y1, y2, y3⟩⟩ := G1
          obtain ⟨⟨r0, r1, r2, r3⟩, ⟨s0, s1, s2, s3⟩⟩ := G2
          replace c1 := cell_later' HBc c1
          replace c2 := cell_later' HBc c2
          have l1 := lt_of_cell c1
          have l2 := lt_of_cell x0
          have l3 := lt_of_cell r0
          have hne1 : ¬ b = w.heap.size + 1 := by omega
          have hne2 : ¬ b = w.heap.size := by omega
          have hne3 : ¬ w.heap.size = b := by omega
          have hne4 : ¬ w.heap.size + 1 = b := by omega
          go_wp2_with fail
          go_region
          go_wp2_with fail
          go_region
          go_wp2
          refine bodyPost_ret (v := .tuple #[.int .i64 i, Tn.val ⟨_, 1, TS, l[i].f + l[i].m⟩]) ?_ rfl ⟨rfl, by repeat (first | with_reducible exact Below.refl _ _ | with_reducible refine balloc ?_ _ | with_reducible refine bdrew ?_ | with_reducible refine bset' ?_ (by omega) _ | with_reducible refine bthen ?_ (by assumption))⟩
          simp [results, Try.results30, go_sem, r0, r1, r2, r3]
      · have HK : Hid (frI TW t.p l = -1) := hw2
        have HK2 : Hid (frI TW 0 l = i) := hw3
        clear hw2 hw3 d1 d2
        cases TW
        all_goals
          simp only [patI, if_true, if_false, Bool.false_eq_true] at hw1
          obtain ⟨⟨x0, x1, x2, x3⟩, ⟨y0, y1, y2, y3⟩⟩ := id G1
          go_wp2_with fail
          refine (rfrom_eq l _ c _ _ _ (hl.later HBc) _ HK.out).mono ?_
          rintro e w4 ⟨rfl, hb⟩
          clear x0 x1 x2 x3 y0 y1 y2 y3 d5
          replace G1 := G1.later hb
          replace G2 := G2.later hb
          replace HBc := bthen HBc hb
          clear hb
          obtain ⟨⟨x0, x1, x2, x3⟩, ⟨y0, y1, y2, y3⟩⟩ := id G1
          go_wp2_with fail
          refine (rfrom_eq l _ c _ _ _ (hl.later HBc) _ HK2.out).mono ?_
          rintro e w5 ⟨rfl, hb⟩
          clear x0 x1 x2 x3 y0 y1 y2 y3
          replace G1 := G1.later hb
          replace G2 := G2.later hb
          replace HBc := bthen HBc hb
          clear hb
          obtain ⟨⟨x0, x1, x2, x3⟩, ⟨y0, y1, y2, y3⟩⟩ := G1
          obtain ⟨⟨r0, r1, r2, r3⟩, ⟨s0, s1, s2, s3⟩⟩ := G2
          replace c1 := cell_later' HBc c1
          replace c2 := cell_later' HBc c2
          have l1 := lt_of_cell c1
          have l2 := lt_of_cell x0
          have l3 := lt_of_cell r0
          have hne1 : ¬ b = w.heap.size + 1 := by omega
          have hne2 : ¬ b = w.heap.size := by omega
          have hne3 : ¬ w.heap.size = b := by omega
          have hne4 : ¬ w.heap.size + 1 = b := by omega
          go_wp2_with fail
          go_region
          go_wp2_with fail
          go_region
          go_wp2
          refine bodyPost_ret (v := .tuple #[.int .i64 i, Tn.val ⟨_, 1, TS, l[i].f + l[i].m⟩]) ?_ rfl ⟨rfl, by repeat (first | with_reducible exact Below.refl _ _ | with_reducible refine balloc ?_ _ | with_reducible refine bdrew ?_ | with_reducible refine bset' ?_ (by omega) _ | with_reducible refine bthen ?_ (by assumption))⟩
          simp [results, Try.results30, go_sem, r0, r1, r2, r3]
end Go.Proofs.Ytfdmchhaiikeaaa
