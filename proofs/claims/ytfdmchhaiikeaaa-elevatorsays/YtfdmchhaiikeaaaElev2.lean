/- firstOf: who is first in a turn that begins. -/
import Derived.Test.YtfdmchhaiikeaaaElev
namespace Go.Proofs.Ytfdmchhaiikeaaa
open Go.RowKit Go.BigFrame
attribute [local go_sem] Later.cell Later.frozen

def beginT (b1 b2 : Bool) (t : Tn) : Tn := if b2 = false then ⟨false, 1, t.s, t.p⟩ else if b1 = false ∨ 2 ≤ t.s then ⟨true, 1, 0, t.p⟩ else ⟨false, 1, t.s + 1, t.p⟩

theorem least_spec (F : Rq → Bool) (R : Rq → Int) (l : List Rq) : ∀ k, k ≤ l.length → (leastI F R l k = -1 ∧ ∀ i (h : i < l.length), i < k → F l[i] = false) ∨ ∃ j, ∃ h : j < l.length, leastI F R l k = j ∧ j < k ∧ F l[j] = true := by
  intro k
  induction k with
  | zero => intro _; exact Or.inl ⟨rfl, fun i _ hi => absurd hi (Nat.not_lt_zero _)⟩
  | succ k ih =>
    intro hk
    have hlt : k < l.length := by omega
    rcases ih (by omega) with ⟨h1, h2⟩ | ⟨j, hj, h1, h2, h3⟩
    · cases hF : F l[k]
      · left
        refine ⟨least_no hlt hF h1, fun i h hi => ?_⟩
        by_cases e : i = k
        · subst e; exact hF
        · exact h2 i h (by omega)
      · exact Or.inr ⟨k, hlt, least_first hlt hF h1, by omega, hF⟩
    · cases hF : F l[k]
      · exact Or.inr ⟨j, hj, least_no hlt hF h1, by omega, h3⟩
      · by_cases hR : R l[k] < R l[j]
        · exact Or.inr ⟨k, hlt, least_lt hlt hj hF h1 hR, by omega, hF⟩
        · exact Or.inr ⟨j, hj, least_ge hlt hj hF h1 hR, by omega, h3⟩
theorem old_spec (b : Bool) (l : List Rq) : (oldI b l = -1 ∧ ∀ i (h : i < l.length), l[i].wr = !b) ∨ ∃ j, ∃ h : j < l.length, oldI b l = j ∧ l[j].wr = b := by
  rcases least_spec (oldF b) Rq.born l l.length (Nat.le_refl _) with ⟨h1, h2⟩ | ⟨j, hj, h1, _, h3⟩
  · refine Or.inl ⟨h1, fun i h => ?_⟩
    have := h2 i h h
    simp only [oldF, beq_eq_false_iff_ne] at this
    revert this; cases l[i].wr <;> cases b <;> simp
  · exact Or.inr ⟨j, hj, h1, by simpa [oldF] using h3⟩
theorem fr_spec (b : Bool) (a : Int) (l : List Rq) : (frI b a l = -1 ∧ ∀ i (h : i < l.length), l[i].wr = b → l[i].f < a) ∨ ∃ j, ∃ h : j < l.length, frI b a l = j ∧ l[j].wr = b ∧ a ≤ l[j].f := by
  rcases least_spec (fromF b a) Rq.f l l.length (Nat.le_refl _) with ⟨h1, h2⟩ | ⟨j, hj, h1, _, h3⟩
  · refine Or.inl ⟨h1, fun i h hw => ?_⟩
    have := h2 i h h
    simp only [fromF, hw, beq_self_eq_true, Bool.true_and, decide_eq_false_iff_not] at this
    omega
  · refine Or.inr ⟨j, hj, h1, ?_⟩
    simpa [fromF] using h3

def patI (b : Bool) : Int := if b = true then 8 else 4
theorem patience_eq (b : Bool) (w : World) (n : Int) (hn : patI b = n) : Calls Try.prog 57 #[.bool b] w fun e w' => e = .returned (.int .i64 n) ∧ Below w.heap.size w w' := by
  subst hn; exact patience_any b w

set_option maxHeartbeats 1000000 in
theorem first_a (l : List Rq) (b o : Nat) (c : Nat) (t : Tn) (now : Int) (w : World) (hl : ReqsAt w (some ⟨b, o, none⟩) l) (i : Nat) (hi : i < l.length) (h1 : oldI t.w l = i)
    (n0 : 0 ≤ now) (n1 : now ≤ 1000000000) (b0 : 0 ≤ l[i].born) (b1 : l[i].born ≤ 1000000000) (P : Int) (hP : patI t.w = P) (hn : P ≤ now - l[i].born) :
    Calls Try.prog 48 #[.slice (some ⟨b, o, none⟩) l.length c, t.val, .int .i64 now] w fun e w' => e = .returned (.int .i64 i) ∧ Below w.heap.size w w' := by
  have hb3 := hl.2.2
  have hi0 : decide ((0 : Int) ≤ (i : Int)) = true := decide_eq_true (by omega)
  go_enter Try.func48, Try.ntmps48
  go_wp2_with fail
  refine (oldest_eq l _ c _ _ (hl.later (by repeat (first | with_reducible exact Below.refl _ _ | with_reducible refine balloc ?_ _ | with_reducible refine bdrew ?_ | with_reducible refine bset' ?_ (by omega) _ | with_reducible refine bthen ?_ (by assumption)))) _ h1).mono ?_
  rintro e w1 ⟨rfl, HB⟩
  have HB0 := bthen (below1 _ _) HB
  obtain ⟨c0, c1, c2, c3, c4, c5⟩ := hl.cells hi
  have l0 := lt_of_cell c0
  have HH : Hid (oldI t.w l = i) := h1
  clear h1
  go_wp2_with fail
  refine wp_region_later (by first | exact HB | exact bdrew HB | exact Below.refl _ _) (by kernel_rfl) (by kernel_rfl) ?_
  repeat (go_big_quiet_step (first | exact rfl | (go_at_call 57; exact calls_later (patience_eq _ _ _ hP))))
  refine wpQuiet_nil ?_; intro _ hw'; obtain ⟨p, hw''⟩ := hw'; subst hw''; (try clear hc hf hz); (try clear HB); have HB := p.below; obtain ⟨hc, hf, hz⟩ := bcell HB
  go_wp2
  go_ret
  exact ⟨rfl, by repeat (first | with_reducible exact Below.refl _ _ | with_reducible refine balloc ?_ _ | with_reducible refine bdrew ?_ | with_reducible refine bset' ?_ (by omega) _ | with_reducible refine bthen ?_ (by assumption))⟩

set_option maxHeartbeats 1000000 in
theorem first_b (l : List Rq) (b o : Nat) (c : Nat) (t : Tn) (now : Int) (w : World) (hl : ReqsAt w (some ⟨b, o, none⟩) l) (i : Nat) (hi : i < l.length) (h1 : oldI t.w l = i)
    (n0 : 0 ≤ now) (n1 : now ≤ 1000000000) (b0 : 0 ≤ l[i].born) (b1 : l[i].born ≤ 1000000000) (P : Int) (hP : patI t.w = P) (hn : now - l[i].born < P) (j : Nat) (hj : frI t.w t.p l = j) :
    Calls Try.prog 48 #[.slice (some ⟨b, o, none⟩) l.length c, t.val, .int .i64 now] w fun e w' => e = .returned (.int .i64 j) ∧ Below w.heap.size w w' := by
  have hb3 := hl.2.2
  have hi0 : decide ((0 : Int) ≤ (i : Int)) = true := decide_eq_true (by omega)
  have hj0 : decide ((0 : Int) ≤ (j : Int)) = true := decide_eq_true (by omega)
  go_enter Try.func48, Try.ntmps48
  go_wp2_with fail
  refine (oldest_eq l _ c _ _ (hl.later (by repeat (first | with_reducible exact Below.refl _ _ | with_reducible refine balloc ?_ _ | with_reducible refine bdrew ?_ | with_reducible refine bset' ?_ (by omega) _ | with_reducible refine bthen ?_ (by assumption)))) _ h1).mono ?_
  rintro e w1 ⟨rfl, HB⟩
  obtain ⟨c0, c1, c2, c3, c4, c5⟩ := hl.cells hi
  have l0 := lt_of_cell c0
  have HJ : Hid (frI t.w t.p l = j) := hj
  clear h1 hj
  go_wp2_with fail
  refine wp_region_later (by first | exact HB | exact bdrew HB | exact Below.refl _ _) (by kernel_rfl) (by kernel_rfl) ?_
  repeat (go_big_quiet_step (first | exact rfl | (go_at_call 57; exact calls_later (patience_eq _ _ _ hP))))
  refine wpQuiet_nil ?_; intro _ hw'; obtain ⟨p, hw''⟩ := hw'; subst hw''; (try clear hc hf hz); (try clear HB); have HB := p.below; obtain ⟨hc, hf, hz⟩ := bcell HB
  go_wp2_with fail
  refine (from_eq l _ c _ _ _ (hl.later (by repeat (first | with_reducible exact Below.refl _ _ | with_reducible refine balloc ?_ _ | with_reducible refine bdrew ?_ | with_reducible refine bset' ?_ (by omega) _ | with_reducible refine bthen ?_ (by assumption)))) _ HJ.out).mono ?_
  rintro e w2 ⟨rfl, hb⟩
  go_wp2
  go_ret
  exact ⟨rfl, by repeat (first | with_reducible exact Below.refl _ _ | with_reducible refine balloc ?_ _ | with_reducible refine bdrew ?_ | with_reducible refine bset' ?_ (by omega) _ | with_reducible refine bthen ?_ (by assumption))⟩

set_option maxHeartbeats 1000000 in
theorem first_c (l : List Rq) (b o : Nat) (c : Nat) (t : Tn) (now : Int) (w : World) (hl : ReqsAt w (some ⟨b, o, none⟩) l) (i : Nat) (hi : i < l.length) (h1 : oldI t.w l = i)
    (n0 : 0 ≤ now) (n1 : now ≤ 1000000000) (b0 : 0 ≤ l[i].born) (b1 : l[i].born ≤ 1000000000) (P : Int) (hP : patI t.w = P) (hn : now - l[i].born < P) (hj : frI t.w t.p l = -1) (n : Int) (hn2 : frI t.w 0 l = n) :
    Calls Try.prog 48 #[.slice (some ⟨b, o, none⟩) l.length c, t.val, .int .i64 now] w fun e w' => e = .returned (.int .i64 n) ∧ Below w.heap.size w w' := by
  have hb3 := hl.2.2
  have hi0 : decide ((0 : Int) ≤ (i : Int)) = true := decide_eq_true (by omega)
  go_enter Try.func48, Try.ntmps48
  go_wp2_with fail
  refine (oldest_eq l _ c _ _ (hl.later (by repeat (first | with_reducible exact Below.refl _ _ | with_reducible refine balloc ?_ _ | with_reducible refine bdrew ?_ | with_reducible refine bset' ?_ (by omega) _ | with_reducible refine bthen ?_ (by assumption)))) _ h1).mono ?_
  rintro e w1 ⟨rfl, HB⟩
  obtain ⟨c0, c1, c2, c3, c4, c5⟩ := hl.cells hi
  have l0 := lt_of_cell c0
  have HJ : Hid (frI t.w t.p l = -1) := hj
  have HK : Hid (frI t.w 0 l = n) := hn2
  clear h1 hj hn2
  go_wp2_with fail
  refine wp_region_later (by first | exact HB | exact bdrew HB | exact Below.refl _ _) (by kernel_rfl) (by kernel_rfl) ?_
  repeat (go_big_quiet_step (first | exact rfl | (go_at_call 57; exact calls_later (patience_eq _ _ _ hP))))
  refine wpQuiet_nil ?_; intro _ hw'; obtain ⟨p, hw''⟩ := hw'; subst hw''; (try clear hc hf hz); (try clear HB); have HB := p.below; obtain ⟨hc, hf, hz⟩ := bcell HB
  go_wp2_with fail
  refine (from_eq l _ c _ _ _ (hl.later (by repeat (first | with_reducible exact Below.refl _ _ | with_reducible refine balloc ?_ _ | with_reducible refine bdrew ?_ | with_reducible refine bset' ?_ (by omega) _ | with_reducible refine bthen ?_ (by assumption)))) _ HJ.out).mono ?_
  rintro e w2 ⟨rfl, hb⟩
  replace HB := bthen HB hb
  clear hb hc hf hz
  obtain ⟨hc, hf, hz⟩ := bcell HB
  go_wp2_with fail
  refine (from_eq l _ c _ _ _ (hl.later (by repeat (first | with_reducible exact Below.refl _ _ | with_reducible refine balloc ?_ _ | with_reducible refine bdrew ?_ | with_reducible refine bset' ?_ (by omega) _ | with_reducible refine bthen ?_ (by assumption)))) _ HK.out).mono ?_
  rintro e w3 ⟨rfl, hb⟩
  go_wp2
  go_ret
  exact ⟨rfl, by repeat (first | with_reducible exact Below.refl _ _ | with_reducible refine balloc ?_ _ | with_reducible refine bdrew ?_ | with_reducible refine bset' ?_ (by omega) _ | with_reducible refine bthen ?_ (by assumption))⟩

end Go.Proofs.Ytfdmchhaiikeaaa
