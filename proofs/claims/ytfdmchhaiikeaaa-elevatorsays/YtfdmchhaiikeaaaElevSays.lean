/- ElevatorSays: the walk. -/
import Derived.Test.YtfdmchhaiikeaaaNexts
namespace Go.Proofs.Ytfdmchhaiikeaaa
open Go.RowKit Go.BigFrame
attribute [local go_sem] Later.cell Later.frozen

def rq0 (b : Nat) : Rq := ⟨false, 3, 1, none, 0, [], some ⟨b, 0, none⟩, 1, [1], 0⟩
theorem good0 (b : Nat) : Goods [rq0 b] := by
  refine ⟨fun i h => ?_, fun i j hi hj => ?_⟩
  · obtain rfl : i = 0 := by simp at h; omega
    exact ⟨by simp [rq0, okB], by simp [rq0, shapeB], by simp [rq0], by simp [rq0], by simp [rq0], by simp [rq0], by simp [rq0, small4]⟩
  · simp at hi; omega
theorem at0 {w : World} {b b' : Nat} (h : w.cell? ⟨b, 0, none⟩ = some (.int .i64 1))
    (c0 : w.cell? ⟨b', 0, none⟩ = some (.bool false)) (c1 : w.cell? ⟨b', 1, none⟩ = some (.int .i64 3)) (c2 : w.cell? ⟨b', 2, none⟩ = some (.int .i64 1)) (c3 : w.cell? ⟨b', 3, none⟩ = some (.slice none 0 0))
    (c4 : w.cell? ⟨b', 4, none⟩ = some (.slice (some ⟨b, 0, none⟩) 1 1)) (c5 : w.cell? ⟨b', 5, none⟩ = some (.int .i64 0)) : ReqsAt w (some ⟨b', 0, none⟩) [rq0 b] := by
  refine ⟨Or.inr ⟨b', 0, rfl, ?_⟩, ?_, by simp⟩
  · intro i hi j hj
    obtain rfl : i = 0 := by simp at hi; omega
    match j, hj with
    | 0, _ => simpa [rq0, Rq.cell] using c0
    | 1, _ => simpa [rq0, Rq.cell] using c1
    | 2, _ => simpa [rq0, Rq.cell] using c2
    | 3, _ => simpa [rq0, Rq.cell] using c3
    | 4, _ => simpa [rq0, Rq.cell] using c4
    | 5, _ => simpa [rq0, Rq.cell] using c5
  · intro r hr
    simp only [List.mem_singleton] at hr
    subst hr
    refine ⟨Or.inl rfl, Or.inr ⟨b, 0, rfl, ?_⟩, by simp [rq0], by simp [rq0], by simp [rq0, In64], by simp [rq0, In64], by simp [rq0, In64], by simp [rq0], by simp [rq0]⟩
    intro i hi
    obtain rfl : i = 0 := by simp [rq0] at hi; omega
    simpa [rq0] using h

set_option maxHeartbeats 400000 in
theorem turns_any (w : World) : Calls Try.prog 28 #[] w fun e w' => e = .returned (.bool true) ∧ Below w.heap.size w w' := by
  obtain ⟨i, T, hN, hC, _⟩ := nexts [rq0 w.heap.size] (good0 _) (by simp) (w.heap.size + 1) 0 1 ⟨false, 0, 0, 0⟩ 0 (by omega) (by omega) (by simp [In64])
  have hi : i = 0 := by have := hN.lt; simp at this; omega
  subst hi
  have hp : T.p = 4 := by rw [hN.p]; rfl
  have hw : T.w = false := by rw [← hN.w]; rfl
  have hg : T.g = 1 := by
    rcases hN.way with ⟨h, _⟩ | ⟨_, h, _⟩
    · simp at h
    · exact h
  obtain ⟨tw, tg, ts, tp⟩ := T
  simp only at hp hw hg
  subst hp hw hg
  have HC : Hid (NextCall _ _ _ _ _ _ _ _ _) := hC
  clear hC hN
  go_enter Try.func28, Try.ntmps28
  go_wp2_with fail
  refine (HC.out _ (at0 (by simp) (by simp) (by simp) (by simp) (by simp) (by simp) (by simp))).mono ?_
  rintro e w1 ⟨rfl, HB⟩
  go_wp2
  go_ret
  exact ⟨rfl, by repeat (first | with_reducible exact Below.refl _ _ | with_reducible refine balloc ?_ _ | with_reducible refine bdrew ?_ | with_reducible refine bset' ?_ (by omega) _ | with_reducible refine bthen ?_ (by assumption))⟩

set_option maxHeartbeats 400000 in
theorem es_light (l : List Rq) (a : Option Addr) (c : Nat) (t : Tn) (now : Int) (w : World) (hl : ReqsAt w a l) (h : lightsB l = false) :
    Calls Try.prog 5 #[.slice a l.length c, t.val, .int .i64 now] w fun e w' => e = .returned (.bool true) ∧ Below w.heap.size w w' := by
  go_enter Try.func5, Try.ntmps5
  go_wp2_with fail
  go_at_call 28; refine (turns_any _).mono ?_; rintro e w1 ⟨rfl, hb⟩; (try clear hc hf hz); (first | replace HB := bthen HB hb | replace HB := bthen (bdrew HB) hb | have HB := hb); clear hb; obtain ⟨hc, hf, hz⟩ := bcell HB
  go_wp2_with fail
  go_at_call 16; refine (lights_any l a c _ (hl.later (by repeat (first | with_reducible exact Below.refl _ _ | with_reducible refine balloc ?_ _ | with_reducible refine bdrew ?_ | with_reducible refine bset' ?_ (by omega) _ | with_reducible refine bthen ?_ (by assumption)))) _ h).mono ?_; rintro e w1 ⟨rfl, hb⟩; (try clear hc hf hz); (first | replace HB := bthen HB hb | replace HB := bthen (bdrew HB) hb | have HB := hb); clear hb; obtain ⟨hc, hf, hz⟩ := bcell HB
  go_wp2
  go_ret
  exact ⟨rfl, by repeat (first | with_reducible exact Below.refl _ _ | with_reducible refine balloc ?_ _ | with_reducible refine bdrew ?_ | with_reducible refine bset' ?_ (by omega) _ | with_reducible refine bthen ?_ (by assumption))⟩
set_option maxHeartbeats 400000 in
theorem es_good (l : List Rq) (a : Option Addr) (c : Nat) (t : Tn) (now : Int) (w : World) (hl : ReqsAt w a l) (h : lightsB l = true) (h2 : goodsB l = false) :
    Calls Try.prog 5 #[.slice a l.length c, t.val, .int .i64 now] w fun e w' => e = .returned (.bool true) ∧ Below w.heap.size w w' := by
  go_enter Try.func5, Try.ntmps5
  go_wp2_with fail
  go_at_call 28; refine (turns_any _).mono ?_; rintro e w1 ⟨rfl, hb⟩; (try clear hc hf hz); (first | replace HB := bthen HB hb | replace HB := bthen (bdrew HB) hb | have HB := hb); clear hb; obtain ⟨hc, hf, hz⟩ := bcell HB
  go_wp2_with fail
  go_at_call 16; refine (lights_any l a c _ (hl.later (by repeat (first | with_reducible exact Below.refl _ _ | with_reducible refine balloc ?_ _ | with_reducible refine bdrew ?_ | with_reducible refine bset' ?_ (by omega) _ | with_reducible refine bthen ?_ (by assumption)))) _ h).mono ?_; rintro e w1 ⟨rfl, hb⟩; (try clear hc hf hz); (first | replace HB := bthen HB hb | replace HB := bthen (bdrew HB) hb | have HB := hb); clear hb; obtain ⟨hc, hf, hz⟩ := bcell HB
  go_wp2_with fail
  go_at_call 18; refine (goods_any l a c _ (hl.later (by repeat (first | with_reducible exact Below.refl _ _ | with_reducible refine balloc ?_ _ | with_reducible refine bdrew ?_ | with_reducible refine bset' ?_ (by omega) _ | with_reducible refine bthen ?_ (by assumption))))).mono ?_; rintro e w1 ⟨rfl, hb⟩; (try clear hc hf hz); (first | replace HB := bthen HB hb | replace HB := bthen (bdrew HB) hb | have HB := hb); clear hb; obtain ⟨hc, hf, hz⟩ := bcell HB
  go_wp2
  go_ret
  exact ⟨rfl, by repeat (first | with_reducible exact Below.refl _ _ | with_reducible refine balloc ?_ _ | with_reducible refine bdrew ?_ | with_reducible refine bset' ?_ (by omega) _ | with_reducible refine bthen ?_ (by assumption))⟩
set_option maxHeartbeats 1000000 in
theorem es_bad (l : List Rq) (a : Option Addr) (c : Nat) (t : Tn) (now : Int) (w : World) (hl : ReqsAt w a l) (h : lightsB l = true) (h2 : goodsB l = true) (h3 : ((l.length : Int) == 0) = true ∨ (((l.length : Int) == 0) = false ∧ (now < 0 ∨ (0 ≤ now ∧ 1000000000 < now)))) :
    Calls Try.prog 5 #[.slice a l.length c, t.val, .int .i64 now] w fun e w' => e = .returned (.bool true) ∧ Below w.heap.size w w' := by
  have hb3 := hl.2.2
  rcases h3 with h3 | ⟨h3, h4 | ⟨h4, h5⟩⟩
  all_goals
    go_enter Try.func5, Try.ntmps5
    go_wp2_with fail
    go_at_call 28; refine (turns_any _).mono ?_; rintro e w1 ⟨rfl, hb⟩; (try clear hc hf hz); (first | replace HB := bthen HB hb | replace HB := bthen (bdrew HB) hb | have HB := hb); clear hb; obtain ⟨hc, hf, hz⟩ := bcell HB
    go_wp2_with fail
    go_at_call 16; refine (lights_any l a c _ (hl.later (by repeat (first | with_reducible exact Below.refl _ _ | with_reducible refine balloc ?_ _ | with_reducible refine bdrew ?_ | with_reducible refine bset' ?_ (by omega) _ | with_reducible refine bthen ?_ (by assumption)))) _ h).mono ?_; rintro e w1 ⟨rfl, hb⟩; (try clear hc hf hz); (first | replace HB := bthen HB hb | replace HB := bthen (bdrew HB) hb | have HB := hb); clear hb; obtain ⟨hc, hf, hz⟩ := bcell HB
    go_wp2_with fail
    go_at_call 18; refine (goods_any l a c _ (hl.later (by repeat (first | with_reducible exact Below.refl _ _ | with_reducible refine balloc ?_ _ | with_reducible refine bdrew ?_ | with_reducible refine bset' ?_ (by omega) _ | with_reducible refine bthen ?_ (by assumption))))).mono ?_; rintro e w1 ⟨rfl, hb⟩; (try clear hc hf hz); (first | replace HB := bthen HB hb | replace HB := bthen (bdrew HB) hb | have HB := hb); clear hb; obtain ⟨hc, hf, hz⟩ := bcell HB
    go_wp2
    go_ret
    exact ⟨rfl, by repeat (first | with_reducible exact Below.refl _ _ | with_reducible refine balloc ?_ _ | with_reducible refine bdrew ?_ | with_reducible refine bset' ?_ (by omega) _ | with_reducible refine bthen ?_ (by assumption))⟩
set_option maxHeartbeats 1000000 in
theorem es_main (l : List Rq) (b o c : Nat) (t : Tn) (now : Int) (w : World) (hl : ReqsAt w (some ⟨b, o, none⟩) l) (h : lightsB l = true) (h2 : goodsB l = true) (h3 : ((l.length : Int) == 0) = false) (n0 : 0 ≤ now) (n1 : now ≤ 1000000000) (i : Nat) (T : Tn)
    (hC : NextCall 29 b o c l t now i T) (hR : NextCall 30 b o c l t now i T) :
    Calls Try.prog 5 #[.slice (some ⟨b, o, none⟩) l.length c, t.val, .int .i64 now] w fun e w' => e = .returned (.bool true) ∧ Below w.heap.size w w' := by
  have hb3 := hl.2.2
  have HC : Hid (NextCall 29 b o c l t now i T) := hC
  have HR : Hid (NextCall 30 b o c l t now i T) := hR
  clear hC hR
  go_enter Try.func5, Try.ntmps5
  go_wp2_with fail
  go_at_call 28; refine (turns_any _).mono ?_; rintro e w1 ⟨rfl, hb⟩; (try clear hc hf hz); (first | replace HB := bthen HB hb | replace HB := bthen (bdrew HB) hb | have HB := hb); clear hb; obtain ⟨hc, hf, hz⟩ := bcell HB
  go_wp2_with fail
  go_at_call 16; refine (lights_any l _ c _ (hl.later (by repeat (first | with_reducible exact Below.refl _ _ | with_reducible refine balloc ?_ _ | with_reducible refine bdrew ?_ | with_reducible refine bset' ?_ (by omega) _ | with_reducible refine bthen ?_ (by assumption)))) _ h).mono ?_; rintro e w1 ⟨rfl, hb⟩; (try clear hc hf hz); (first | replace HB := bthen HB hb | replace HB := bthen (bdrew HB) hb | have HB := hb); clear hb; obtain ⟨hc, hf, hz⟩ := bcell HB
  go_wp2_with fail
  go_at_call 18; refine (goods_any l _ c _ (hl.later (by repeat (first | with_reducible exact Below.refl _ _ | with_reducible refine balloc ?_ _ | with_reducible refine bdrew ?_ | with_reducible refine bset' ?_ (by omega) _ | with_reducible refine bthen ?_ (by assumption))))).mono ?_; rintro e w1 ⟨rfl, hb⟩; (try clear hc hf hz); (first | replace HB := bthen HB hb | replace HB := bthen (bdrew HB) hb | have HB := hb); clear hb; obtain ⟨hc, hf, hz⟩ := bcell HB
  go_wp2_with fail
  go_at_call 29; refine (HC.out _ (hl.later (by repeat (first | with_reducible exact Below.refl _ _ | with_reducible refine balloc ?_ _ | with_reducible refine bdrew ?_ | with_reducible refine bset' ?_ (by omega) _ | with_reducible refine bthen ?_ (by assumption))))).mono ?_; rintro e w1 ⟨rfl, hb⟩; (try clear hc hf hz); (first | replace HB := bthen HB hb | replace HB := bthen (bdrew HB) hb | have HB := hb); clear hb; obtain ⟨hc, hf, hz⟩ := bcell HB
  clear hc hf hz
  obtain ⟨⟨p0, p1, p2, p3⟩, ⟨f0, f1, f2, f3⟩, z0⟩ := four1 HB
  have HB0 : Below w.heap.size w w1 := by repeat (first | with_reducible exact Below.refl _ _ | with_reducible refine balloc ?_ _ | with_reducible refine bdrew ?_ | with_reducible refine bset' ?_ (by omega) _ | with_reducible refine bthen ?_ (by assumption))
  go_wp2_with fail
  refine (HR.out _ (hl.later (by repeat (first | with_reducible exact Below.refl _ _ | with_reducible refine balloc ?_ _ | with_reducible refine bdrew ?_ | with_reducible refine bset' ?_ (by omega) _ | with_reducible refine bthen ?_ (by assumption))))).mono ?_
  rintro e w2 ⟨rfl, hb⟩
  clear p0 p1 p2 p3 f0 f1 f2 f3
  obtain ⟨⟨p0, p1, p2, p3⟩, ⟨f0, f1, f2, f3⟩, z1⟩ := four1 hb
  go_wp2
  go_ret
  exact ⟨rfl, by repeat (first | with_reducible exact Below.refl _ _ | with_reducible refine balloc ?_ _ | with_reducible refine bdrew ?_ | with_reducible refine bset' ?_ (by omega) _ | with_reducible refine bthen ?_ (by assumption))⟩

theorem elev_walk (l : List Rq) (a : Option Addr) (c : Nat) (t : Tn) (now : Int) (w : World) (hl : ReqsAt w a l) (hs : In64 t.s) :
    Calls Try.prog 5 #[.slice a l.length c, t.val, .int .i64 now] w fun e w' => e = .returned (.bool true) ∧ Below w.heap.size w w' := by
  cases h : lightsB l
  · exact es_light l a c t now w hl h
  · cases h2 : goodsB l
    · exact es_good l a c t now w hl h h2
    · cases h3 : ((l.length : Int) == 0)
      · by_cases h4 : 0 ≤ now ∧ now ≤ 1000000000
        · have hne : l ≠ [] := by rintro rfl; simp at h3
          rcases hl.form with rfl | ⟨b, o, rfl⟩
          · exact absurd rfl hne
          · obtain ⟨i, T, _, hC, hR⟩ := nexts l (goods_of h2) hne b o c t now h4.1 h4.2 hs
            exact es_main l b o c t now w hl h h2 h3 h4.1 h4.2 i T hC hR
        · exact es_bad l a c t now w hl h h2 (Or.inr ⟨h3, by omega⟩)
      · exact es_bad l a c t now w hl h h2 (Or.inl h3)
end Go.Proofs.Ytfdmchhaiikeaaa
