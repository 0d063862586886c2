/- TopElevator: the one that is next is there, and of the kind whose turn it is; never more than Batch go in one turn. The walk. -/
import Derived.Test.YtfdmchhaiikeaabWent
import Derived.Test.YtfdmchhaiikeaabTake
namespace Go.Proofs.Ytfdmchhaiikeaab
open Go.RowKit Go.BigFrame
attribute [local go_sem] Later.cell Later.frozen

/-- The requests but one are still such that each may be, and no two have a sector in common. -/
theorem Goods.without {l : List Rq} (h : Goods l) (i : Nat) : Goods (l.take i ++ l.drop (i + 1)) := by
  have pick : ∀ k (hk : k < (l.take i ++ l.drop (i + 1)).length), ∃ k', ∃ hk' : k' < l.length, (l.take i ++ l.drop (i + 1))[k] = l[k'] ∧ (k < i → k' = k) ∧ (i ≤ k → k' = k + 1) := by
    intro k hk
    rw [List.length_append, List.length_take, List.length_drop] at hk
    by_cases hki : k < i
    · have hkl : k < l.length := by omega
      refine ⟨k, hkl, ?_, fun _ => rfl, fun h => by omega⟩
      rw [List.getElem_append_left (by rw [List.length_take]; omega), List.getElem_take]
    · have hkl : k + 1 < l.length := by omega
      refine ⟨k + 1, hkl, ?_, fun h => absurd h hki, fun _ => rfl⟩
      have e : (l.take i).length = i := by rw [List.length_take]; omega
      rw [List.getElem_append_right (by omega), List.getElem_drop]
      congr 1; omega
  refine ⟨fun k hk => ?_, fun k j hk hj => ?_⟩
  · obtain ⟨k', hk', e, _⟩ := pick k hk
    rw [e]; exact h.good k' hk'
  · obtain ⟨k', hk', e, e1, e2⟩ := pick k hk
    obtain ⟨j', hj', f, f1, f2⟩ := pick j (by omega)
    rw [e, f]
    refine h.apart k' j' hk' ?_
    by_cases a : k < i
    · rw [e1 a, f1 (by omega)]; exact hj
    · rw [e2 (by omega)]
      by_cases b : j < i
      · rw [f1 b]; omega
      · rw [f2 (by omega)]; omega

/-- The turn's own numbers stay small. -/
theorem IsNext.small {l : List Rq} {t T : Tn} {now : Int} {i : Nat} (h : IsNext l t now i T) (h0 : 0 ≤ t.s) (h2 : t.s ≤ 2) : 0 ≤ T.s ∧ T.s ≤ 2 ∧ 1 ≤ T.g ∧ T.g ≤ 3 := by
  rcases h.way with ⟨a, b, _, _, e1, e2⟩ | ⟨_, e1, b1, b2, _, _, _, e2, _⟩
  · rw [e1, e2]; omega
  · rw [e1, e2]
    unfold beginT
    split
    · simp only; omega
    · split
      · simp only; omega
      · rename_i hc
        simp only
        have : ¬ 2 ≤ t.s := fun h' => hc (Or.inr h')
        omega

set_option maxHeartbeats 400000 in
theorem te_light (l : List Rq) (a : Option Addr) (c : Nat) (now : Int) (w : World) (hl : ReqsAt w a l) (h : lightsB l = false) :
    Calls Try.prog 6 #[.slice a l.length c, .int .i64 now] w fun e w' => e = .returned (.bool true) ∧ Below w.heap.size w w' := by
  go_enter Try.func6, Try.ntmps6
  go_wp2_with fail
  go_at_call 18; refine (went_any _).mono ?_; rintro e w1 ⟨rfl, hb⟩; (try clear hc hf hz); (first | replace HB := bthen HB hb | replace HB := bthen (bdrew HB) hb | have HB := hb); clear hb; obtain ⟨hc, hf, hz⟩ := bcell HB
  go_wp2_with fail
  go_at_call 16; refine (lights_any l _ c _ (hl.later (by repeat (first | with_reducible exact Below.refl _ _ | with_reducible refine balloc ?_ _ | with_reducible refine bdrew ?_ | with_reducible refine bset' ?_ (by omega) _ | with_reducible refine bthen ?_ (by assumption)))) _ h).mono ?_; rintro e w1 ⟨rfl, hb⟩; (try clear hc hf hz); (first | replace HB := bthen HB hb | replace HB := bthen (bdrew HB) hb | have HB := hb); clear hb; obtain ⟨hc, hf, hz⟩ := bcell HB
  go_wp2
  go_ret
  exact ⟨rfl, by repeat (first | with_reducible exact Below.refl _ _ | with_reducible refine balloc ?_ _ | with_reducible refine bdrew ?_ | with_reducible refine bset' ?_ (by omega) _ | with_reducible refine bthen ?_ (by assumption))⟩
set_option maxHeartbeats 400000 in
theorem te_good (l : List Rq) (a : Option Addr) (c : Nat) (now : Int) (w : World) (hl : ReqsAt w a l) (h : lightsB l = true) (h2 : goodsB l = false) :
    Calls Try.prog 6 #[.slice a l.length c, .int .i64 now] w fun e w' => e = .returned (.bool true) ∧ Below w.heap.size w w' := by
  go_enter Try.func6, Try.ntmps6
  go_wp2_with fail
  go_at_call 18; refine (went_any _).mono ?_; rintro e w1 ⟨rfl, hb⟩; (try clear hc hf hz); (first | replace HB := bthen HB hb | replace HB := bthen (bdrew HB) hb | have HB := hb); clear hb; obtain ⟨hc, hf, hz⟩ := bcell HB
  go_wp2_with fail
  go_at_call 16; refine (lights_any l _ c _ (hl.later (by repeat (first | with_reducible exact Below.refl _ _ | with_reducible refine balloc ?_ _ | with_reducible refine bdrew ?_ | with_reducible refine bset' ?_ (by omega) _ | with_reducible refine bthen ?_ (by assumption)))) _ h).mono ?_; rintro e w1 ⟨rfl, hb⟩; (try clear hc hf hz); (first | replace HB := bthen HB hb | replace HB := bthen (bdrew HB) hb | have HB := hb); clear hb; obtain ⟨hc, hf, hz⟩ := bcell HB
  go_wp2_with fail
  go_at_call 17; refine (goods_any l a c _ (hl.later (by repeat (first | with_reducible exact Below.refl _ _ | with_reducible refine balloc ?_ _ | with_reducible refine bdrew ?_ | with_reducible refine bset' ?_ (by omega) _ | with_reducible refine bthen ?_ (by assumption))))).mono ?_; rintro e w1 ⟨rfl, hb⟩; (try clear hc hf hz); (first | replace HB := bthen HB hb | replace HB := bthen (bdrew HB) hb | have HB := hb); clear hb; obtain ⟨hc, hf, hz⟩ := bcell HB
  go_wp2
  go_ret
  exact ⟨rfl, by repeat (first | with_reducible exact Below.refl _ _ | with_reducible refine balloc ?_ _ | with_reducible refine bdrew ?_ | with_reducible refine bset' ?_ (by omega) _ | with_reducible refine bthen ?_ (by assumption))⟩
set_option maxHeartbeats 1000000 in
theorem te_bad (l : List Rq) (a : Option Addr) (c : Nat) (now : Int) (w : World) (hl : ReqsAt w a l) (h : lightsB l = true) (h2 : goodsB l = true) (h3 : now < 0 ∨ (0 ≤ now ∧ 1000000000 < now)) :
    Calls Try.prog 6 #[.slice a l.length c, .int .i64 now] w fun e w' => e = .returned (.bool true) ∧ Below w.heap.size w w' := by
  rcases h3 with h4 | ⟨h4, h5⟩
  all_goals
    go_enter Try.func6, Try.ntmps6
    go_wp2_with fail
    go_at_call 18; refine (went_any _).mono ?_; rintro e w1 ⟨rfl, hb⟩; (try clear hc hf hz); (first | replace HB := bthen HB hb | replace HB := bthen (bdrew HB) hb | have HB := hb); clear hb; obtain ⟨hc, hf, hz⟩ := bcell HB
    go_wp2_with fail
    go_at_call 16; refine (lights_any l _ c _ (hl.later (by repeat (first | with_reducible exact Below.refl _ _ | with_reducible refine balloc ?_ _ | with_reducible refine bdrew ?_ | with_reducible refine bset' ?_ (by omega) _ | with_reducible refine bthen ?_ (by assumption)))) _ h).mono ?_; rintro e w1 ⟨rfl, hb⟩; (try clear hc hf hz); (first | replace HB := bthen HB hb | replace HB := bthen (bdrew HB) hb | have HB := hb); clear hb; obtain ⟨hc, hf, hz⟩ := bcell HB
    go_wp2_with fail
    go_at_call 17; refine (goods_any l _ c _ (hl.later (by repeat (first | with_reducible exact Below.refl _ _ | with_reducible refine balloc ?_ _ | with_reducible refine bdrew ?_ | with_reducible refine bset' ?_ (by omega) _ | with_reducible refine bthen ?_ (by assumption))))).mono ?_; rintro e w1 ⟨rfl, hb⟩; (try clear hc hf hz); (first | replace HB := bthen HB hb | replace HB := bthen (bdrew HB) hb | have HB := hb); clear hb; obtain ⟨hc, hf, hz⟩ := bcell HB
    go_wp2
    go_ret
    exact ⟨rfl, by repeat (first | with_reducible exact Below.refl _ _ | with_reducible refine balloc ?_ _ | with_reducible refine bdrew ?_ | with_reducible refine bset' ?_ (by omega) _ | with_reducible refine bthen ?_ (by assumption))⟩

theorem ReqsAt.set {w : World} {a : Option Addr} {l : List Rq} (h : ReqsAt w a l) {b o : Nat} (u : Value) (hat : ∀ r ∈ l, r.At (w.setCell ⟨b, o, none⟩ u)) (hne : ∀ b' o', a = some ⟨b', o', none⟩ → b' ≠ b) : ReqsAt (w.setCell ⟨b, o, none⟩ u) a l := by
  refine ⟨?_, hat, h.2.2⟩
  rcases h.1 with h0 | ⟨b', o', ha, hc⟩
  · exact Or.inl h0
  · refine Or.inr ⟨b', o', ha, fun i hi j hj => ?_⟩
    rw [sc_other (Or.inl (hne b' o' ha))]; exact hc i hi j hj

theorem ReqsAt.set4 {w0 w : World} {a : Option Addr} {l : List Rq} (h : ReqsAt w a l) (hb : Below w0.heap.size w0 w) (hat : ∀ r ∈ l, r.At w0) {b : Nat} (hbb : w0.heap.size ≤ b) (hne : ∀ b' o', a = some ⟨b', o', none⟩ → b' ≠ b) (v0 v1 v2 v3 : Value) :
    ReqsAt ((((w.setCell ⟨b, 0, none⟩ v0).setCell ⟨b, 1, none⟩ v1).setCell ⟨b, 2, none⟩ v2).setCell ⟨b, 3, none⟩ v3) a l := by
  have k0 := bset' hb (b := b) (o := 0) hbb v0
  have k1 := bset' k0 (b := b) (o := 1) hbb v1
  have k2 := bset' k1 (b := b) (o := 2) hbb v2
  have k3 := bset' k2 (b := b) (o := 3) hbb v3
  exact (((h.set v0 (fun r hr => (hat r hr).later k0) hne).set v1 (fun r hr => (hat r hr).later k1) hne).set v2 (fun r hr => (hat r hr).later k2) hne).set v3 (fun r hr => (hat r hr).later k3) hne
theorem FourAt.set4 {w : World} {b : Nat} {a0 a1 a2 a3 : Value} (h : FourAt w b a0 a1 a2 a3) (v0 v1 v2 v3 : Value) : FourAt ((((w.setCell ⟨b, 0, none⟩ v0).setCell ⟨b, 1, none⟩ v1).setCell ⟨b, 2, none⟩ v2).setCell ⟨b, 3, none⟩ v3) b v0 v1 v2 v3 := by
  obtain ⟨⟨s0, s1⟩, _⟩ := Proofs.Ytfdmchhaiikeaab.set4 v0 v1 v2 v3 h _ rfl
  exact ⟨s0, s1⟩

set_option maxRecDepth 100000 in
set_option maxHeartbeats 4000000 in
theorem te_main (l : List Rq) (a : Option Addr) (c : Nat) (now : Int) (w : World) (hl : ReqsAt w a l) (hcap : l.length ≤ c) (h : lightsB l = true) (h2 : goodsB l = true) (n0 : 0 ≤ now) (n1 : now ≤ 1000000000) :
    Calls Try.prog 6 #[.slice a l.length c, .int .i64 now] w fun e w' => e = .returned (.bool true) ∧ Below w.heap.size w w' := by
  have hlen : l.length ≤ 10 := by
    simp only [lightsB, Bool.and_eq_true, decide_eq_true_eq] at h; exact h.1
  go_enter Try.func6, Try.ntmps6
  go_wp2_with fail
  go_at_call 18; refine (went_any _).mono ?_; rintro e w1 ⟨rfl, hb⟩; (try clear hc hf hz); (first | replace HB := bthen HB hb | replace HB := bthen (bdrew HB) hb | have HB := hb); clear hb; obtain ⟨hc, hf, hz⟩ := bcell HB
  go_wp2_with fail
  go_at_call 16; refine (lights_any l _ c _ (hl.later (by repeat (first | with_reducible exact Below.refl _ _ | with_reducible refine balloc ?_ _ | with_reducible refine bdrew ?_ | with_reducible refine bset' ?_ (by omega) _ | with_reducible refine bthen ?_ (by assumption)))) _ h).mono ?_; rintro e w1 ⟨rfl, hb⟩; (try clear hc hf hz); (first | replace HB := bthen HB hb | replace HB := bthen (bdrew HB) hb | have HB := hb); clear hb; obtain ⟨hc, hf, hz⟩ := bcell HB
  go_wp2_with fail
  go_at_call 17; refine (goods_any l _ c _ (hl.later (by repeat (first | with_reducible exact Below.refl _ _ | with_reducible refine balloc ?_ _ | with_reducible refine bdrew ?_ | with_reducible refine bset' ?_ (by omega) _ | with_reducible refine bthen ?_ (by assumption))))).mono ?_; rintro e w1 ⟨rfl, hb⟩; (try clear hc hf hz); (first | replace HB := bthen HB hb | replace HB := bthen (bdrew HB) hb | have HB := hb); clear hb; obtain ⟨hc, hf, hz⟩ := bcell HB
  have HB0 : Below w.heap.size w w1 := by repeat (first | with_reducible exact Below.refl _ _ | with_reducible refine balloc ?_ _ | with_reducible refine bdrew ?_ | with_reducible refine bset' ?_ (by omega) _ | with_reducible refine bthen ?_ (by assumption))
  clear hc hf hz HB
  go_wp2_with fail
  have hwz := HB0.size
  go_loopw [7, 8] (fun lv nv wr => ∃ (ll : List Rq) (a' : Option Addr) (c' k : Nat) (T : Tn), lv = .slice a' ll.length c' ∧ nv = .int .i64 k ∧ ReqsAt wr a' ll ∧ Goods ll ∧ ll.length + k = l.length ∧ ll.length ≤ c' ∧ 0 ≤ T.s ∧ T.s ≤ 2 ∧ T.g ≤ 3 ∧ (∀ r ∈ ll, r.At w) ∧ (ll = [] ∨ ∀ b' o', a' = some ⟨b', o', none⟩ → b' ≠ w1.heap.size) ∧
      FourAt wr w1.heap.size (.bool T.w) (.int .i64 T.g) (.int .i64 T.s) (.int .i64 T.p) ∧ Below w.heap.size w wr) (fun _ nv _ => l.length + 1 - (intOf nv).toNat)
  case atStart =>
    refine ⟨l, a, c, 0, ⟨false, 0, 0, 0⟩, rfl, rfl, hl.later (by repeat (first | with_reducible exact Below.refl _ _ | with_reducible refine balloc ?_ _ | with_reducible refine bdrew ?_ | with_reducible refine bset' ?_ (by omega) _ | with_reducible refine bthen ?_ (by assumption))), goods_of h2, rfl, hcap, by decide, by decide, by decide, hl.2.1, ?_, ?_, by repeat (first | with_reducible exact Below.refl _ _ | with_reducible refine balloc ?_ _ | with_reducible refine bdrew ?_ | with_reducible refine bset' ?_ (by omega) _ | with_reducible refine bthen ?_ (by assumption))⟩
    · rcases hl.1 with h0 | ⟨b', o', ha, hcc⟩
      · exact Or.inl h0
      · by_cases h0 : l = []
        · exact Or.inl h0
        · right
          intro b'' o'' ha'
          rw [ha] at ha'
          simp only [Option.some.injEq, Addr.mk.injEq, and_true] at ha'
          have := lt_of_cell (hcc 0 (List.length_pos_iff.2 h0) 0 (by omega))
          omega
    · exact ⟨⟨by simp, by simp, by simp, by simp⟩, ⟨by simp, by simp, by simp, by simp⟩⟩
  case round =>
    obtain ⟨ll, a', c', k, T, rfl, rfl, hll, hg, hk, hcap', s0, s2, g3, hat, hne, F1, HB⟩ := hrel
    have hb3 := hll.2.2
    by_cases he : ll = []
    · subst he
      go_wp2
      go_ret
      exact ⟨rfl, by repeat (first | with_reducible exact Below.refl _ _ | with_reducible refine balloc ?_ _ | with_reducible refine bdrew ?_ | with_reducible refine bset' ?_ (by omega) _ | with_reducible refine bthen ?_ (by assumption))⟩
    · replace hne := hne.resolve_left he
      have hpos : 0 < ll.length := List.length_pos_iff.2 he
      rcases hll.form with h0 | ⟨b, o, rfl⟩
      · exact absurd h0 he
      have hnb := hne b o rfl
      clear hne
      obtain ⟨i, T', hN, hC, _⟩ := nexts ll hg he b o c' T now n0 n1 ⟨by omega, by omega⟩
      obtain ⟨t0, t2, t1, t3⟩ := hN.small s0 s2
      have hi := hN.lt
      have hp : T'.p = ll[i].f + ll[i].m := hN.p
      have hw : ll[i].wr = T'.w := hN.w
      have bds := (hg.good i hi).bds
      obtain ⟨bd1, bd2, bd3, bd4, bd5⟩ := bds
      have hway : (T'.g = 1) ∨ (1 < T'.g ∧ T'.w = T.w ∧ T.p ≤ ll[i].f) := by
        rcases hN.way with ⟨q1, q2, q3, q4, q5, _⟩ | ⟨_, q, _⟩
        · right
          refine ⟨by omega, q4, ?_⟩
          rcases fr_spec T.w T.p ll with ⟨z, _⟩ | ⟨j, hj, z, _, z3⟩
          · omega
          · obtain rfl : i = j := by omega
            exact z3
        · exact Or.inl q
      clear hN
      obtain ⟨tw, tg, ts, tp⟩ := T
      obtain ⟨uw, ug, us, up⟩ := T'
      simp only at hp hw hway t0 t1 t2 t3 s0 s2 g3
      subst hp
      have HC : Hid (NextCall 19 b o c' ll ⟨tw, tg, ts, tp⟩ now i ⟨uw, ug, us, ll[i].f + ll[i].m⟩) := hC
      have HG : Hid (Goods ll ∧ ll.length + k = l.length ∧ (∀ r ∈ ll, r.At w)) := ⟨hg, hk, hat⟩
      have HW : Hid ((ug = 1) ∨ (1 < ug ∧ uw = tw ∧ tp ≤ ll[i].f)) := hway
      have hkl : (k : Int) ≤ (l.length : Int) := by omega
      clear hC hg hk hat hway h2 h hl
      obtain ⟨⟨x0, x1, x2, x3⟩, ⟨y0, y1, y2, y3⟩⟩ := id F1
      go_wp2_with fail
      refine (HC.out _ hll).mono ?_
      rintro e w2 ⟨rfl, hb⟩
      clear x0 x1 x2 x3 y0 y1 y2 y3
      replace F1 := F1.later hb
      replace hll := hll.later hb
      replace HB := bthen HB hb
      clear hb
      obtain ⟨⟨x0, x1, x2, x3⟩, ⟨y0, y1, y2, y3⟩⟩ := id F1
      obtain ⟨c0, c1, c2, c3, c4, c5⟩ := hll.cells hi
      have l0 := lt_of_cell c0
      have l1 := lt_of_cell x0
      have i0 : decide ((i : Int) < 0) = false := decide_eq_false (by omega)
      have i1 : decide ((ll.length : Int) ≤ (i : Int)) = false := decide_eq_false (by omega)
      have i1' : decide (ll.length ≤ i) = false := decide_eq_false (by omega)
      have i2 : decide (ug < 1) = false := decide_eq_false (by omega)
      have i3 : decide (3 < ug) = false := decide_eq_false (by omega)
      have HBW : Hid (Below w.heap.size w w2) := HB
      clear HB
      go_wp2_with fail
      refine wp_region_later (by first | exact HB | exact bdrew HB | exact Below.refl _ _) (by kernel_rfl) (by kernel_rfl) ?_
      repeat (go_big_quiet_step (exact rfl))
      refine wpQuiet_nil ?_; intro _ hw'; obtain ⟨p, hw''⟩ := hw'; subst hw''; (try clear hc hf hz); (try clear HB); have HB := p.below; obtain ⟨hc, hf, hz⟩ := bcell HB
      rcases HW.out with hw1 | ⟨hw1, hw2, hw3⟩
      · have i4 : decide (1 < ug) = false := decide_eq_false (by omega)
        clear hw1
        go_wp2_with fail
        refine wp_region_later (by first | exact HB | exact bdrew HB | exact Below.refl _ _) (by kernel_rfl) (by kernel_rfl) ?_
        repeat (go_big_quiet_step (exact rfl))
        refine wpQuiet_nil ?_; intro _ hw'; obtain ⟨p, hw''⟩ := hw'; subst hw''; (try clear hc hf hz); (try clear HB); have HB := p.below; obtain ⟨hc, hf, hz⟩ := bcell HB
        clear hc hf hz
        have F2 : FourAt p.v w1.heap.size (.bool tw) (.int .i64 tg) (.int .i64 ts) (.int .i64 tp) := F1.later (bthen (below1 _ _) HB)
        have hll2 := hll.later (bthen (below1 _ _) HB)
        have HB2 : Below w.heap.size w p.v := bthen HBW.out (bthen (below1 _ _) HB)
        obtain ⟨⟨m0, m1, m2, m3⟩, ⟨f0, f1, f2, f3⟩, z0⟩ := four1 HB
        clear x0 x1 x2 x3 y0 y1 y2 y3 c0 c1 c2 c3 c4 c5
        obtain ⟨⟨x0, x1, x2, x3⟩, ⟨y0, y1, y2, y3⟩⟩ := id F2
        have hne1 : ¬ w2.heap.size = w1.heap.size := by omega
        have hne2 : ¬ w1.heap.size = w2.heap.size := by omega
        go_wp2_with fail
        refine (take_any ll b o c' _ (hll2.set4 HB2 HG.out.2.2 hwz (fun b' o' hh => by cases hh; exact hnb) _ _ _ _) (by have := HG.out.2.1; omega) hcap' i hi).mono ?_
        rintro e w3 ⟨v, rfl, hown, hb⟩
        have HB3 : Below w.heap.size w w3 := bthen (bset' (bset' (bset' (bset' HB2 (b := w1.heap.size) (o := 0) hwz _) (b := w1.heap.size) (o := 1) hwz _) (b := w1.heap.size) (o := 2) hwz _) (b := w1.heap.size) (o := 3) hwz _) hb
        have F3 := (F2.set4 (.bool uw) (.int .i64 ug) (.int .i64 us) (.int .i64 (ll[i].f + ll[i].m))).later hb
        have hat' : ∀ r ∈ ll.take i ++ ll.drop (i + 1), r.At w := fun r hr => HG.out.2.2 r (by
          rcases List.mem_append.1 hr with h' | h'
          · exact List.mem_of_mem_take h'
          · exact List.mem_of_mem_drop h')
        have hlen' : (ll.take i ++ ll.drop (i + 1)).length = ll.length - 1 := by rw [List.length_append, List.length_take, List.length_drop]; omega
        obtain ⟨a2, c2, rfl, hq, hc2, _, _, hblk⟩ := reqs_of_owned hown (fun r hr => (hat' r hr).later HB3) hlen'.symm (by omega)
        have k1 : decide ((l.length : Int) < (k : Int)) = false := decide_eq_false (by omega)
        have k1' : decide (l.length < k) = false := decide_eq_false (by omega)
        have hkk : k < 9223372036854775807 := by omega
        have hbs := hb.size
        have z1 := lt_of_cell x0
        have HX : Hid (Goods (ll.take i ++ ll.drop (i + 1)) ∧ (ll.take i ++ ll.drop (i + 1)).length + (k + 1) = l.length ∧ ∀ b' o', a2 = some ⟨b', o', none⟩ → b' ≠ w1.heap.size) := by
          refine ⟨HG.out.1.without i, by have := HG.out.2.1; omega, fun b' o' hh => ?_⟩
          have := (hblk _ hh).1
          simp only [World.size_setCell] at this
          omega
        clear hbs hlen' hblk hb hown x0 x1 x2 x3 y0 y1 y2 y3 m0 m1 m2 m3 f0 f1 f2 f3 F2 hll2 HB2 hne1 hne2
        generalize ll.take i ++ ll.drop (i + 1) = l2 at hq hc2 hat' HX ⊢
        go_wp2
        go_roundw
        case rel => exact ⟨l2, a2, c2, k + 1, ⟨uw, ug, us, ll[i].f + ll[i].m⟩, rfl, by go_num, hq, HX.out.1, HX.out.2.1, hc2, t0, t2, t3, hat', Or.inr HX.out.2.2, F3, HB3⟩
        case measure => simp [intOf]; omega
      · have i4 : decide (1 < ug) = true := decide_eq_true (by omega)
        have i5 : decide (ll[i].f < tp) = false := decide_eq_false (by omega)
        subst hw2
        go_wp2_with fail
        refine wp_region_later (by first | exact HB | exact bdrew HB | exact Below.refl _ _) (by kernel_rfl) (by kernel_rfl) ?_
        repeat (go_big_quiet_step (exact rfl))
        refine wpQuiet_nil ?_; intro _ hw'; obtain ⟨p, hw''⟩ := hw'; subst hw''; (try clear hc hf hz); (try clear HB); have HB := p.below; obtain ⟨hc, hf, hz⟩ := bcell HB
        clear hc hf hz
        have F2 : FourAt p.v w1.heap.size (.bool uw) (.int .i64 tg) (.int .i64 ts) (.int .i64 tp) := F1.later (bthen (below1 _ _) HB)
        have hll2 := hll.later (bthen (below1 _ _) HB)
        have HB2 : Below w.heap.size w p.v := bthen HBW.out (bthen (below1 _ _) HB)
        obtain ⟨⟨m0, m1, m2, m3⟩, ⟨f0, f1, f2, f3⟩, z0⟩ := four1 HB
        clear x0 x1 x2 x3 y0 y1 y2 y3 c0 c1 c2 c3 c4 c5
        obtain ⟨⟨x0, x1, x2, x3⟩, ⟨y0, y1, y2, y3⟩⟩ := id F2
        have hne1 : ¬ w2.heap.size = w1.heap.size := by omega
        have hne2 : ¬ w1.heap.size = w2.heap.size := by omega
        go_wp2_with fail
        refine (take_any ll b o c' _ (hll2.set4 HB2 HG.out.2.2 hwz (fun b' o' hh => by cases hh; exact hnb) _ _ _ _) (by have := HG.out.2.1; omega) hcap' i hi).mono ?_
        rintro e w3 ⟨v, rfl, hown, hb⟩
        have HB3 : Below w.heap.size w w3 := bthen (bset' (bset' (bset' (bset' HB2 (b := w1.heap.size) (o := 0) hwz _) (b := w1.heap.size) (o := 1) hwz _) (b := w1.heap.size) (o := 2) hwz _) (b := w1.heap.size) (o := 3) hwz _) hb
        have F3 := (F2.set4 (.bool uw) (.int .i64 ug) (.int .i64 us) (.int .i64 (ll[i].f + ll[i].m))).later hb
        have hat' : ∀ r ∈ ll.take i ++ ll.drop (i + 1), r.At w := fun r hr => HG.out.2.2 r (by
          rcases List.mem_append.1 hr with h' | h'
          · exact List.mem_of_mem_take h'
          · exact List.mem_of_mem_drop h')
        have hlen' : (ll.take i ++ ll.drop (i + 1)).length = ll.length - 1 := by rw [List.length_append, List.length_take, List.length_drop]; omega
        obtain ⟨a2, c2, rfl, hq, hc2, _, _, hblk⟩ := reqs_of_owned hown (fun r hr => (hat' r hr).later HB3) hlen'.symm (by omega)
        have k1 : decide ((l.length : Int) < (k : Int)) = false := decide_eq_false (by omega)
        have k1' : decide (l.length < k) = false := decide_eq_false (by omega)
        have hkk : k < 9223372036854775807 := by omega
        have hbs := hb.size
        have z1 := lt_of_cell x0
        have HX : Hid (Goods (ll.take i ++ ll.drop (i + 1)) ∧ (ll.take i ++ ll.drop (i + 1)).length + (k + 1) = l.length ∧ ∀ b' o', a2 = some ⟨b', o', none⟩ → b' ≠ w1.heap.size) := by
          refine ⟨HG.out.1.without i, by have := HG.out.2.1; omega, fun b' o' hh => ?_⟩
          have := (hblk _ hh).1
          simp only [World.size_setCell] at this
          omega
        clear hbs hlen' hblk hb hown x0 x1 x2 x3 y0 y1 y2 y3 m0 m1 m2 m3 f0 f1 f2 f3 F2 hll2 HB2 hne1 hne2
        generalize ll.take i ++ ll.drop (i + 1) = l2 at hq hc2 hat' HX ⊢
        go_wp2
        go_roundw
        case rel => exact ⟨l2, a2, c2, k + 1, ⟨uw, ug, us, ll[i].f + ll[i].m⟩, rfl, by go_num, hq, HX.out.1, HX.out.2.1, hc2, t0, t2, t3, hat', Or.inr HX.out.2.2, F3, HB3⟩
        case measure => simp [intOf]; omega
end Go.Proofs.Ytfdmchhaiikeaab
