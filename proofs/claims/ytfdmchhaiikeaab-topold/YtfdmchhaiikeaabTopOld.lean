/- TopOld: who waited too long goes first of its kind, as soon as a turn begins. The walk. -/
import Derived.Test.YtfdmchhaiikeaabWent
namespace Go.Proofs.Ytfdmchhaiikeaab
open Go.RowKit Go.BigFrame
attribute [local go_sem] Later.cell Later.frozen

set_option maxHeartbeats 400000 in
theorem to_light (l : List Rq) (a : Option Addr) (c : Nat) (now : Int) (w : World) (hl : ReqsAt w a l) (h : lightsB l = false) :
    Calls Try.prog 8 #[.slice a l.length c, .int .i64 now] w fun e w' => e = .returned (.bool true) ∧ Below w.heap.size w w' := by
  go_enter Try.func8, Try.ntmps8
  go_wp2_with fail
  go_at_call 18; refine (went_any _).mono ?_; rintro e w1 ⟨rfl, hb⟩; (try clear hc hf hz); (first | replace HB := bthen HB hb | replace HB := bthen (bdrew HB) hb | have HB := hb); clear hb; obtain ⟨hc, hf, hz⟩ := bcell HB
  go_wp2_with fail
  go_at_call 16; refine (lights_any l _ c _ (hl.later (by repeat (first | with_reducible exact Below.refl _ _ | with_reducible refine balloc ?_ _ | with_reducible refine bdrew ?_ | with_reducible refine bset' ?_ (by omega) _ | with_reducible refine bthen ?_ (by assumption)))) _ h).mono ?_; rintro e w1 ⟨rfl, hb⟩; (try clear hc hf hz); (first | replace HB := bthen HB hb | replace HB := bthen (bdrew HB) hb | have HB := hb); clear hb; obtain ⟨hc, hf, hz⟩ := bcell HB
  go_wp2
  go_ret
  exact ⟨rfl, by repeat (first | with_reducible exact Below.refl _ _ | with_reducible refine balloc ?_ _ | with_reducible refine bdrew ?_ | with_reducible refine bset' ?_ (by omega) _ | with_reducible refine bthen ?_ (by assumption))⟩
set_option maxHeartbeats 400000 in
theorem to_good (l : List Rq) (a : Option Addr) (c : Nat) (now : Int) (w : World) (hl : ReqsAt w a l) (h : lightsB l = true) (h2 : goodsB l = false) :
    Calls Try.prog 8 #[.slice a l.length c, .int .i64 now] w fun e w' => e = .returned (.bool true) ∧ Below w.heap.size w w' := by
  go_enter Try.func8, Try.ntmps8
  go_wp2_with fail
  go_at_call 18; refine (went_any _).mono ?_; rintro e w1 ⟨rfl, hb⟩; (try clear hc hf hz); (first | replace HB := bthen HB hb | replace HB := bthen (bdrew HB) hb | have HB := hb); clear hb; obtain ⟨hc, hf, hz⟩ := bcell HB
  go_wp2_with fail
  go_at_call 16; refine (lights_any l _ c _ (hl.later (by repeat (first | with_reducible exact Below.refl _ _ | with_reducible refine balloc ?_ _ | with_reducible refine bdrew ?_ | with_reducible refine bset' ?_ (by omega) _ | with_reducible refine bthen ?_ (by assumption)))) _ h).mono ?_; rintro e w1 ⟨rfl, hb⟩; (try clear hc hf hz); (first | replace HB := bthen HB hb | replace HB := bthen (bdrew HB) hb | have HB := hb); clear hb; obtain ⟨hc, hf, hz⟩ := bcell HB
  go_wp2_with fail
  go_at_call 17; refine (goods_any l a c _ (hl.later (by repeat (first | with_reducible exact Below.refl _ _ | with_reducible refine balloc ?_ _ | with_reducible refine bdrew ?_ | with_reducible refine bset' ?_ (by omega) _ | with_reducible refine bthen ?_ (by assumption))))).mono ?_; rintro e w1 ⟨rfl, hb⟩; (try clear hc hf hz); (first | replace HB := bthen HB hb | replace HB := bthen (bdrew HB) hb | have HB := hb); clear hb; obtain ⟨hc, hf, hz⟩ := bcell HB
  go_wp2
  go_ret
  exact ⟨rfl, by repeat (first | with_reducible exact Below.refl _ _ | with_reducible refine balloc ?_ _ | with_reducible refine bdrew ?_ | with_reducible refine bset' ?_ (by omega) _ | with_reducible refine bthen ?_ (by assumption))⟩
set_option maxHeartbeats 1000000 in
theorem to_bad (l : List Rq) (a : Option Addr) (c : Nat) (now : Int) (w : World) (hl : ReqsAt w a l) (h : lightsB l = true) (h2 : goodsB l = true) (h3 : ((l.length : Int) == 0) = true ∨ (((l.length : Int) == 0) = false ∧ (now < 0 ∨ (0 ≤ now ∧ 1000000000 < now)))) :
    Calls Try.prog 8 #[.slice a l.length c, .int .i64 now] w fun e w' => e = .returned (.bool true) ∧ Below w.heap.size w w' := by
  have hb3 := hl.2.2
  rcases h3 with h3 | ⟨h3, h4 | ⟨h4, h5⟩⟩
  all_goals
    go_enter Try.func8, Try.ntmps8
    go_wp2_with fail
    go_at_call 18; refine (went_any _).mono ?_; rintro e w1 ⟨rfl, hb⟩; (try clear hc hf hz); (first | replace HB := bthen HB hb | replace HB := bthen (bdrew HB) hb | have HB := hb); clear hb; obtain ⟨hc, hf, hz⟩ := bcell HB
    go_wp2_with fail
    go_at_call 16; refine (lights_any l _ c _ (hl.later (by repeat (first | with_reducible exact Below.refl _ _ | with_reducible refine balloc ?_ _ | with_reducible refine bdrew ?_ | with_reducible refine bset' ?_ (by omega) _ | with_reducible refine bthen ?_ (by assumption)))) _ h).mono ?_; rintro e w1 ⟨rfl, hb⟩; (try clear hc hf hz); (first | replace HB := bthen HB hb | replace HB := bthen (bdrew HB) hb | have HB := hb); clear hb; obtain ⟨hc, hf, hz⟩ := bcell HB
    go_wp2_with fail
    go_at_call 17; refine (goods_any l a c _ (hl.later (by repeat (first | with_reducible exact Below.refl _ _ | with_reducible refine balloc ?_ _ | with_reducible refine bdrew ?_ | with_reducible refine bset' ?_ (by omega) _ | with_reducible refine bthen ?_ (by assumption))))).mono ?_; rintro e w1 ⟨rfl, hb⟩; (try clear hc hf hz); (first | replace HB := bthen HB hb | replace HB := bthen (bdrew HB) hb | have HB := hb); clear hb; obtain ⟨hc, hf, hz⟩ := bcell HB
    go_wp2
    go_ret
    exact ⟨rfl, by repeat (first | with_reducible exact Below.refl _ _ | with_reducible refine balloc ?_ _ | with_reducible refine bdrew ?_ | with_reducible refine bset' ?_ (by omega) _ | with_reducible refine bthen ?_ (by assumption))⟩

set_option maxHeartbeats 1000000 in
theorem to_main (l : List Rq) (b o c : Nat) (now : Int) (w : World) (hl : ReqsAt w (some ⟨b, o, none⟩) l) (h : lightsB l = true) (h2 : goodsB l = true) (h3 : ((l.length : Int) == 0) = false) (n0 : 0 ≤ now) (n1 : now ≤ 1000000000) (i : Nat) (T : Tn)
    (hC : NextCall 19 b o c l ⟨false, 0, 0, 0⟩ now i T) (i0 : Nat) (hi0 : i0 < l.length) (hO : oldI T.w l = i0) (b0 : 0 ≤ l[i0].born) (b1 : l[i0].born ≤ 1000000000) (hw : (patI T.w ≤ now - l[i0].born ∧ i = i0) ∨ now - l[i0].born < patI T.w) :
    Calls Try.prog 8 #[.slice (some ⟨b, o, none⟩) l.length c, .int .i64 now] w fun e w' => e = .returned (.bool true) ∧ Below w.heap.size w w' := by
  have hb3 := hl.2.2
  have hi1 : decide ((0 : Int) ≤ (i0 : Int)) = true := decide_eq_true (by omega)
  obtain ⟨c0, c1, c2, c3, c4, c5⟩ := hl.cells hi0
  clear c0 c1 c2 c3 c4
  obtain ⟨tw, tg, ts, tp⟩ := T
  simp only at hO hw
  have HC : Hid (NextCall 19 b o c l ⟨false, 0, 0, 0⟩ now i ⟨tw, tg, ts, tp⟩) := hC
  have HO : Hid (oldI tw l = i0) := hO
  clear hC hO
  rcases hw with ⟨hw, rfl⟩ | hw
  all_goals
    cases tw
    all_goals
      simp only [patI, if_true, if_false, Bool.false_eq_true] at hw
      go_enter Try.func8, Try.ntmps8
      go_wp2_with fail
      go_at_call 18; refine (went_any _).mono ?_; rintro e w1 ⟨rfl, hb⟩; (try clear hc hf hz); (first | replace HB := bthen HB hb | replace HB := bthen (bdrew HB) hb | have HB := hb); clear hb; obtain ⟨hc, hf, hz⟩ := bcell HB
      go_wp2_with fail
      go_at_call 16; refine (lights_any l _ c _ (hl.later (by repeat (first | with_reducible exact Below.refl _ _ | with_reducible refine balloc ?_ _ | with_reducible refine bdrew ?_ | with_reducible refine bset' ?_ (by omega) _ | with_reducible refine bthen ?_ (by assumption)))) _ h).mono ?_; rintro e w1 ⟨rfl, hb⟩; (try clear hc hf hz); (first | replace HB := bthen HB hb | replace HB := bthen (bdrew HB) hb | have HB := hb); clear hb; obtain ⟨hc, hf, hz⟩ := bcell HB
      go_wp2_with fail
      go_at_call 17; refine (goods_any l _ c _ (hl.later (by repeat (first | with_reducible exact Below.refl _ _ | with_reducible refine balloc ?_ _ | with_reducible refine bdrew ?_ | with_reducible refine bset' ?_ (by omega) _ | with_reducible refine bthen ?_ (by assumption))))).mono ?_; rintro e w1 ⟨rfl, hb⟩; (try clear hc hf hz); (first | replace HB := bthen HB hb | replace HB := bthen (bdrew HB) hb | have HB := hb); clear hb; obtain ⟨hc, hf, hz⟩ := bcell HB
      go_wp2_with fail
      refine (HC.out _ (hl.later (by repeat (first | with_reducible exact Below.refl _ _ | with_reducible refine balloc ?_ _ | with_reducible refine bdrew ?_ | with_reducible refine bset' ?_ (by omega) _ | with_reducible refine bthen ?_ (by assumption))))).mono ?_
      rintro e w2 ⟨rfl, hb⟩
      replace HB := bthen HB hb
      clear hb hc hf hz
      go_wp2_with fail
      refine (oldest_eq l _ c _ _ (hl.later (by repeat (first | with_reducible exact Below.refl _ _ | with_reducible refine balloc ?_ _ | with_reducible refine bdrew ?_ | with_reducible refine bset' ?_ (by omega) _ | with_reducible refine bthen ?_ (by assumption)))) _ HO.out).mono ?_
      rintro e w3 ⟨rfl, hb⟩
      obtain ⟨⟨p0, p1, p2, p3⟩, ⟨f0, f1, f2, f3⟩, z0⟩ := four1 hb
      have HB4 : Below w.heap.size w w3 := by repeat (first | with_reducible exact Below.refl _ _ | with_reducible refine balloc ?_ _ | with_reducible refine bdrew ?_ | with_reducible refine bset' ?_ (by omega) _ | with_reducible refine bthen ?_ (by assumption))
      have c6 := cell_later' HB4 c5
      go_wp2
      go_ret
      exact ⟨rfl, HB4⟩

theorem old_walk (l : List Rq) (a : Option Addr) (c : Nat) (now : Int) (w : World) (hl : ReqsAt w a l) :
    Calls Try.prog 8 #[.slice a l.length c, .int .i64 now] w fun e w' => e = .returned (.bool true) ∧ Below w.heap.size w w' := by
  cases h : lightsB l
  · exact to_light l a c now w hl h
  · cases h2 : goodsB l
    · exact to_good l a c now w hl h h2
    · cases h3 : ((l.length : Int) == 0)
      · by_cases h4 : 0 ≤ now ∧ now ≤ 1000000000
        · have hne : l ≠ [] := by rintro rfl; simp at h3
          rcases hl.form with rfl | ⟨b, o, rfl⟩
          · exact absurd rfl hne
          · have hg := goods_of h2
            obtain ⟨i, T, hN, hC, _⟩ := nexts l hg hne b o c ⟨false, 0, 0, 0⟩ now h4.1 h4.2 (by simp [In64])
            rcases hN.way with ⟨h', _⟩ | ⟨_, _, _, _, _, _, _, _, i0, hi0, hO, hw⟩
            · simp at h'
            · exact to_main l b o c now w hl h h2 h3 h4.1 h4.2 i T hC i0 hi0 hO (hg.good i0 hi0).b0 (hg.good i0 hi0).b1 hw
        · exact to_bad l a c now w hl h h2 (Or.inr ⟨h3, by omega⟩)
      · exact to_bad l a c now w hl h h2 (Or.inl h3)
end Go.Proofs.Ytfdmchhaiikeaab
