/- The elevator's parts: whether a turn goes on, how one begins, who is first in it. -/
import Derived.Test.YtgjkdhedkbkagaaGreatJ12
import Derived.BigRegion
import Derived.Test.YtgjkdhedkbkagaaGreatJ11
import Derived.Deep.DeepCutAuto
namespace Go.Proofs.YtgjkdhedkbkagaaGreat
open Go.RowKit Go.BigFrame
set_option maxRecDepth 100000
attribute [local go_sem] Later.cell Later.frozen

structure Tn where
  w : Bool
  g : Int
  s : Int
  p : Int
abbrev Tn.val (t : Tn) : Value := .agg #[.bool t.w, .int .i64 t.g, .int .i64 t.s, .int .i64 t.p]
def oldI (b : Bool) (l : List Rq) : Int := leastI (oldF b) Rq.born l l.length
def frI (b : Bool) (a : Int) (l : List Rq) : Int := leastI (fromF b a) Rq.f l l.length
theorem oldest_eq (l : List Rq) (a : Option Addr) (c : Nat) (b : Bool) (w : World) (hl : ReqsAt w a l) (n : Int) (hn : oldI b l = n) :
    Calls Tryz.prog 105 #[.slice a l.length c, .bool b] w fun e w' => e = .returned (.int .i64 n) ∧ Below w.heap.size w w' := by
  subst hn; exact oldest_any l a c b w hl
theorem from_eq (l : List Rq) (a : Option Addr) (c : Nat) (b : Bool) (a' : Int) (w : World) (hl : ReqsAt w a l) (n : Int) (hn : frI b a' l = n) :
    Calls Tryz.prog 104 #[.slice a l.length c, .bool b, .int .i64 a'] w fun e w' => e = .returned (.int .i64 n) ∧ Below w.heap.size w w' := by
  subst hn; exact from_any l a c b a' w hl

/-- What a world has of two blocks of four cells that lay at the end of an earlier one. -/
theorem four2 {w w2 : World} {a0 a1 a2 a3 b0 b1 b2 b3 : Value} {T T' : TypeId} (HB : Below ((w.alloc (.cells #[a0, a1, a2, a3] T)).alloc (.cells #[b0, b1, b2, b3] T')).heap.size ((w.alloc (.cells #[a0, a1, a2, a3] T)).alloc (.cells #[b0, b1, b2, b3] T')) w2) :
    (w2.cell? ⟨w.heap.size, 0, none⟩ = some a0 ∧ w2.cell? ⟨w.heap.size, 1, none⟩ = some a1 ∧ w2.cell? ⟨w.heap.size, 2, none⟩ = some a2 ∧ w2.cell? ⟨w.heap.size, 3, none⟩ = some a3) ∧
    (w2.frozen? ⟨w.heap.size, 0, none⟩ = false ∧ w2.frozen? ⟨w.heap.size, 1, none⟩ = false ∧ w2.frozen? ⟨w.heap.size, 2, none⟩ = false ∧ w2.frozen? ⟨w.heap.size, 3, none⟩ = false) ∧
    (w2.cell? ⟨w.heap.size + 1, 0, none⟩ = some b0 ∧ w2.cell? ⟨w.heap.size + 1, 1, none⟩ = some b1 ∧ w2.cell? ⟨w.heap.size + 1, 2, none⟩ = some b2 ∧ w2.cell? ⟨w.heap.size + 1, 3, none⟩ = some b3) ∧
    (w2.frozen? ⟨w.heap.size + 1, 0, none⟩ = false ∧ w2.frozen? ⟨w.heap.size + 1, 1, none⟩ = false ∧ w2.frozen? ⟨w.heap.size + 1, 2, none⟩ = false ∧ w2.frozen? ⟨w.heap.size + 1, 3, none⟩ = false) ∧
    w.heap.size < w2.heap.size ∧ w.heap.size + 1 < w2.heap.size := by
  have hz := HB.size
  simp only [World.size_alloc] at hz
  have c := fun o => HB.cell (p := ⟨w.heap.size, o, none⟩) (by simp only [World.size_alloc]; omega)
  have f := fun o => HB.frozen (p := ⟨w.heap.size, o, none⟩) (by simp only [World.size_alloc]; omega)
  have c' := fun o => HB.cell (p := ⟨w.heap.size + 1, o, none⟩) (by simp only [World.size_alloc]; omega)
  have f' := fun o => HB.frozen (p := ⟨w.heap.size + 1, o, none⟩) (by simp only [World.size_alloc]; omega)
  refine ⟨⟨?_, ?_, ?_, ?_⟩, ⟨?_, ?_, ?_, ?_⟩, ⟨?_, ?_, ?_, ?_⟩, ⟨?_, ?_, ?_, ?_⟩, by omega, by omega⟩
  all_goals first | rw [c] | rw [f] | rw [c'] | rw [f']
  all_goals simp

set_option maxHeartbeats 400000 in
theorem patience_any (b : Bool) (w : World) : Calls Tryz.prog 106 #[.bool b] w fun e w' => e = .returned (.int .i64 (if b = true then 8 else 4)) ∧ Below w.heap.size w w' := by
  cases b
  all_goals
    go_enter Tryz.func106, Tryz.ntmps106
    go_wp2
    go_ret
    exact ⟨rfl, Below.refl _ _⟩

set_option maxHeartbeats 400000 in
theorem goesOn_no (l : List Rq) (a : Option Addr) (c : Nat) (t : Tn) (w : World) (h : t.g ≤ 0 ∨ 3 ≤ t.g) :
    Calls Tryz.prog 77 #[.slice a l.length c, t.val] w fun e w' => e = .returned (.int .i64 (-1)) ∧ Below w.heap.size w w' := by
  rcases h with h | h
  · go_enter Tryz.func77, Tryz.ntmps77
    go_wp2
    go_ret
    exact ⟨rfl, by repeat (first | with_reducible exact Below.refl _ _ | with_reducible refine balloc ?_ _ | with_reducible refine bdrew ?_ | with_reducible refine bset' ?_ (by omega) _ | with_reducible refine bthen ?_ (by assumption))⟩
  · have h' : ¬ t.g ≤ 0 := by omega
    go_enter Tryz.func77, Tryz.ntmps77
    go_wp2
    go_ret
    exact ⟨rfl, by repeat (first | with_reducible exact Below.refl _ _ | with_reducible refine balloc ?_ _ | with_reducible refine bdrew ?_ | with_reducible refine bset' ?_ (by omega) _ | with_reducible refine bthen ?_ (by assumption))⟩
set_option maxHeartbeats 400000 in
theorem goesOn_yes (l : List Rq) (a : Option Addr) (c : Nat) (t : Tn) (w : World) (hl : ReqsAt w a l) (h : 0 < t.g) (h2 : t.g < 3) (n : Int) (hn : frI t.w t.p l = n) :
    Calls Tryz.prog 77 #[.slice a l.length c, t.val] w fun e w' => e = .returned (.int .i64 n) ∧ Below w.heap.size w w' := by
  go_enter Tryz.func77, Tryz.ntmps77
  go_wp2_with fail
  refine (from_eq l a c _ _ _ (hl.later (below1 _ _)) n hn).mono ?_
  rintro e w1 ⟨rfl, HB⟩
  go_wp2
  go_ret
  exact ⟨rfl, by repeat (first | with_reducible exact Below.refl _ _ | with_reducible refine balloc ?_ _ | with_reducible refine bdrew ?_ | with_reducible refine bset' ?_ (by omega) _ | with_reducible refine bthen ?_ (by assumption))⟩

set_option maxHeartbeats 400000 in
theorem begin_a (l : List Rq) (a : Option Addr) (c : Nat) (t : Tn) (w : World) (hl : ReqsAt w a l) (b1 : Bool) (n1 n2 : Int) (h1 : oldI false l = n1) (h2 : oldI true l = n2) (d1 : decide (0 ≤ n1) = b1) (d2 : decide (0 ≤ n2) = false) :
    Calls Tryz.prog 78 #[.slice a l.length c, t.val] w fun e w' => e = .returned (Tn.val ⟨false, 1, t.s, t.p⟩) ∧ Below w.heap.size w w' := by
  go_enter Tryz.func78, Tryz.ntmps78
  go_wp2_with fail
  refine (oldest_eq l a c _ _ (hl.later (by repeat (first | with_reducible exact Below.refl _ _ | with_reducible refine balloc ?_ _ | with_reducible refine bdrew ?_ | with_reducible refine bset' ?_ (by omega) _ | with_reducible refine bthen ?_ (by assumption)))) n1 h1).mono ?_
  rintro e w1 ⟨rfl, HB⟩
  go_wp2_with fail
  refine (oldest_eq l a c _ _ (hl.later (by repeat (first | with_reducible exact Below.refl _ _ | with_reducible refine balloc ?_ _ | with_reducible refine bdrew ?_ | with_reducible refine bset' ?_ (by omega) _ | with_reducible refine bthen ?_ (by assumption)))) n2 h2).mono ?_
  rintro e w2 ⟨rfl, hb⟩
  replace HB := bthen HB hb
  clear hb h1 h2
  obtain ⟨⟨p0, p1, p2, p3⟩, ⟨f0, f1, f2, f3⟩, ⟨q0, q1, q2, q3⟩, ⟨g0, g1, g2, g3⟩, z0, z1⟩ := four2 HB
  go_wp2
  exact bodyPost_ret (v := Tn.val ⟨false, 1, t.s, t.p⟩) (by simp [results, Tryz.results78, go_sem, q0, q1, q2, q3]) rfl ⟨rfl, by repeat (first | with_reducible exact Below.refl _ _ | with_reducible refine balloc ?_ _ | with_reducible refine bdrew ?_ | with_reducible refine bset' ?_ (by omega) _ | with_reducible refine bthen ?_ (by assumption))⟩

set_option maxHeartbeats 400000 in
theorem begin_b (l : List Rq) (a : Option Addr) (c : Nat) (t : Tn) (w : World) (hl : ReqsAt w a l) (n1 n2 : Int) (h1 : oldI false l = n1) (h2 : oldI true l = n2) (d1 : decide (0 ≤ n1) = false) (d2 : decide (0 ≤ n2) = true) :
    Calls Tryz.prog 78 #[.slice a l.length c, t.val] w fun e w' => e = .returned (Tn.val ⟨true, 1, 0, t.p⟩) ∧ Below w.heap.size w w' := by
  go_enter Tryz.func78, Tryz.ntmps78
  go_wp2_with fail
  refine (oldest_eq l a c _ _ (hl.later (by repeat (first | with_reducible exact Below.refl _ _ | with_reducible refine balloc ?_ _ | with_reducible refine bdrew ?_ | with_reducible refine bset' ?_ (by omega) _ | with_reducible refine bthen ?_ (by assumption)))) n1 h1).mono ?_
  rintro e w1 ⟨rfl, HB⟩
  go_wp2_with fail
  refine (oldest_eq l a c _ _ (hl.later (by repeat (first | with_reducible exact Below.refl _ _ | with_reducible refine balloc ?_ _ | with_reducible refine bdrew ?_ | with_reducible refine bset' ?_ (by omega) _ | with_reducible refine bthen ?_ (by assumption)))) n2 h2).mono ?_
  rintro e w2 ⟨rfl, hb⟩
  replace HB := bthen HB hb
  clear hb h1 h2
  obtain ⟨⟨p0, p1, p2, p3⟩, ⟨f0, f1, f2, f3⟩, ⟨q0, q1, q2, q3⟩, ⟨g0, g1, g2, g3⟩, z0, z1⟩ := four2 HB
  go_wp2
  exact bodyPost_ret (v := Tn.val ⟨true, 1, 0, t.p⟩) (by simp [results, Tryz.results78, go_sem, q0, q1, q2, q3]) rfl ⟨rfl, by repeat (first | with_reducible exact Below.refl _ _ | with_reducible refine balloc ?_ _ | with_reducible refine bdrew ?_ | with_reducible refine bset' ?_ (by omega) _ | with_reducible refine bthen ?_ (by assumption))⟩

set_option maxHeartbeats 400000 in
theorem begin_c (l : List Rq) (a : Option Addr) (c : Nat) (t : Tn) (w : World) (hl : ReqsAt w a l) (n1 n2 : Int) (h1 : oldI false l = n1) (h2 : oldI true l = n2) (d1 : decide (0 ≤ n1) = true) (d2 : decide (0 ≤ n2) = true) (hs : 2 ≤ t.s) :
    Calls Tryz.prog 78 #[.slice a l.length c, t.val] w fun e w' => e = .returned (Tn.val ⟨true, 1, 0, t.p⟩) ∧ Below w.heap.size w w' := by
  go_enter Tryz.func78, Tryz.ntmps78
  go_wp2_with fail
  refine (oldest_eq l a c _ _ (hl.later (by repeat (first | with_reducible exact Below.refl _ _ | with_reducible refine balloc ?_ _ | with_reducible refine bdrew ?_ | with_reducible refine bset' ?_ (by omega) _ | with_reducible refine bthen ?_ (by assumption)))) n1 h1).mono ?_
  rintro e w1 ⟨rfl, HB⟩
  go_wp2_with fail
  refine (oldest_eq l a c _ _ (hl.later (by repeat (first | with_reducible exact Below.refl _ _ | with_reducible refine balloc ?_ _ | with_reducible refine bdrew ?_ | with_reducible refine bset' ?_ (by omega) _ | with_reducible refine bthen ?_ (by assumption)))) n2 h2).mono ?_
  rintro e w2 ⟨rfl, hb⟩
  replace HB := bthen HB hb
  clear hb h1 h2
  obtain ⟨⟨p0, p1, p2, p3⟩, ⟨f0, f1, f2, f3⟩, ⟨q0, q1, q2, q3⟩, ⟨g0, g1, g2, g3⟩, z0, z1⟩ := four2 HB
  go_wp2
  exact bodyPost_ret (v := Tn.val ⟨true, 1, 0, t.p⟩) (by simp [results, Tryz.results78, go_sem, q0, q1, q2, q3]) rfl ⟨rfl, by repeat (first | with_reducible exact Below.refl _ _ | with_reducible refine balloc ?_ _ | with_reducible refine bdrew ?_ | with_reducible refine bset' ?_ (by omega) _ | with_reducible refine bthen ?_ (by assumption))⟩

set_option maxHeartbeats 400000 in
theorem begin_d (l : List Rq) (a : Option Addr) (c : Nat) (t : Tn) (w : World) (hl : ReqsAt w a l) (n1 n2 : Int) (h1 : oldI false l = n1) (h2 : oldI true l = n2) (d1 : decide (0 ≤ n1) = true) (d2 : decide (0 ≤ n2) = true) (hs : t.s < 2) (hlo : -9223372036854775808 ≤ t.s) :
    Calls Tryz.prog 78 #[.slice a l.length c, t.val] w fun e w' => e = .returned (Tn.val ⟨false, 1, t.s + 1, t.p⟩) ∧ Below w.heap.size w w' := by
  go_enter Tryz.func78, Tryz.ntmps78
  go_wp2_with fail
  refine (oldest_eq l a c _ _ (hl.later (by repeat (first | with_reducible exact Below.refl _ _ | with_reducible refine balloc ?_ _ | with_reducible refine bdrew ?_ | with_reducible refine bset' ?_ (by omega) _ | with_reducible refine bthen ?_ (by assumption)))) n1 h1).mono ?_
  rintro e w1 ⟨rfl, HB⟩
  go_wp2_with fail
  refine (oldest_eq l a c _ _ (hl.later (by repeat (first | with_reducible exact Below.refl _ _ | with_reducible refine balloc ?_ _ | with_reducible refine bdrew ?_ | with_reducible refine bset' ?_ (by omega) _ | with_reducible refine bthen ?_ (by assumption)))) n2 h2).mono ?_
  rintro e w2 ⟨rfl, hb⟩
  replace HB := bthen HB hb
  clear hb h1 h2
  obtain ⟨⟨p0, p1, p2, p3⟩, ⟨f0, f1, f2, f3⟩, ⟨q0, q1, q2, q3⟩, ⟨g0, g1, g2, g3⟩, z0, z1⟩ := four2 HB
  go_wp2
  exact bodyPost_ret (v := Tn.val ⟨false, 1, t.s + 1, t.p⟩) (by simp [results, Tryz.results78, go_sem, q0, q1, q2, q3]) rfl ⟨rfl, by repeat (first | with_reducible exact Below.refl _ _ | with_reducible refine balloc ?_ _ | with_reducible refine bdrew ?_ | with_reducible refine bset' ?_ (by omega) _ | with_reducible refine bthen ?_ (by assumption))⟩

end Go.Proofs.YtgjkdhedkbkagaaGreat
/- firstOf: who is first in a turn that begins. -/
namespace Go.Proofs.YtgjkdhedkbkagaaGreat
open Go.RowKit Go.BigFrame
set_option maxRecDepth 100000
attribute [local go_sem] Later.cell Later.frozen

def beginT (b1 b2 : Bool) (t : Tn) : Tn := if b2 = false then ⟨false, 1, t.s, t.p⟩ else if b1 = false ∨ 2 ≤ t.s then ⟨true, 1, 0, t.p⟩ else ⟨false, 1, t.s + 1, t.p⟩

theorem least_spec (F : Rq → Bool) (R : Rq → Int) (l : List Rq) : ∀ k, k ≤ l.length → (leastI F R l k = -1 ∧ ∀ i (h : i < l.length), i < k → F l[i] = false) ∨ ∃ j, ∃ h : j < l.length, leastI F R l k = j ∧ j < k ∧ F l[j] = true := by
  intro k
  induction k with
  | zero => intro _; exact Or.inl ⟨rfl, fun i _ hi => absurd hi (Nat.not_lt_zero _)⟩
  | succ k ih =>
    intro hk
    have hlt : k < l.length := by omega
    rcases ih (by omega) with ⟨h1, h2⟩ | ⟨j, hj, h1, h2, h3⟩
    · cases hF : F l[k]
      · left
        refine ⟨least_no hlt hF h1, fun i h hi => ?_⟩
        by_cases e : i = k
        · subst e; exact hF
        · exact h2 i h (by omega)
      · exact Or.inr ⟨k, hlt, least_first hlt hF h1, by omega, hF⟩
    · cases hF : F l[k]
      · exact Or.inr ⟨j, hj, least_no hlt hF h1, by omega, h3⟩
      · by_cases hR : R l[k] < R l[j]
        · exact Or.inr ⟨k, hlt, least_lt hlt hj hF h1 hR, by omega, hF⟩
        · exact Or.inr ⟨j, hj, least_ge hlt hj hF h1 hR, by omega, h3⟩
theorem old_spec (b : Bool) (l : List Rq) : (oldI b l = -1 ∧ ∀ i (h : i < l.length), l[i].wr = !b) ∨ ∃ j, ∃ h : j < l.length, oldI b l = j ∧ l[j].wr = b := by
  rcases least_spec (oldF b) Rq.born l l.length (Nat.le_refl _) with ⟨h1, h2⟩ | ⟨j, hj, h1, _, h3⟩
  · refine Or.inl ⟨h1, fun i h => ?_⟩
    have := h2 i h h
    simp only [oldF, beq_eq_false_iff_ne] at this
    revert this; cases l[i].wr <;> cases b <;> simp
  · exact Or.inr ⟨j, hj, h1, by simpa [oldF] using h3⟩
theorem fr_spec (b : Bool) (a : Int) (l : List Rq) : (frI b a l = -1 ∧ ∀ i (h : i < l.length), l[i].wr = b → l[i].f < a) ∨ ∃ j, ∃ h : j < l.length, frI b a l = j ∧ l[j].wr = b ∧ a ≤ l[j].f := by
  rcases least_spec (fromF b a) Rq.f l l.length (Nat.le_refl _) with ⟨h1, h2⟩ | ⟨j, hj, h1, _, h3⟩
  · refine Or.inl ⟨h1, fun i h hw => ?_⟩
    have := h2 i h h
    simp only [fromF, hw, beq_self_eq_true, Bool.true_and, decide_eq_false_iff_not] at this
    omega
  · refine Or.inr ⟨j, hj, h1, ?_⟩
    simpa [fromF] using h3

def patI (b : Bool) : Int := if b = true then 8 else 4
theorem patience_eq (b : Bool) (w : World) (n : Int) (hn : patI b = n) : Calls Tryz.prog 106 #[.bool b] w fun e w' => e = .returned (.int .i64 n) ∧ Below w.heap.size w w' := by
  subst hn; exact patience_any b w

set_option maxHeartbeats 1000000 in
theorem first_a (l : List Rq) (b o : Nat) (c : Nat) (t : Tn) (now : Int) (w : World) (hl : ReqsAt w (some ⟨b, o, none⟩) l) (i : Nat) (hi : i < l.length) (h1 : oldI t.w l = i)
    (n0 : 0 ≤ now) (n1 : now ≤ 1000000000) (b0 : 0 ≤ l[i].born) (b1 : l[i].born ≤ 1000000000) (P : Int) (hP : patI t.w = P) (hn : P ≤ now - l[i].born) :
    Calls Tryz.prog 79 #[.slice (some ⟨b, o, none⟩) l.length c, t.val, .int .i64 now] w fun e w' => e = .returned (.int .i64 i) ∧ Below w.heap.size w w' := by
  have hb3 := hl.2.2
  have hi0 : decide ((0 : Int) ≤ (i : Int)) = true := decide_eq_true (by omega)
  go_enter Tryz.func79, Tryz.ntmps79
  go_wp2_with fail
  refine (oldest_eq l _ c _ _ (hl.later (by repeat (first | with_reducible exact Below.refl _ _ | with_reducible refine balloc ?_ _ | with_reducible refine bdrew ?_ | with_reducible refine bset' ?_ (by omega) _ | with_reducible refine bthen ?_ (by assumption)))) _ h1).mono ?_
  rintro e w1 ⟨rfl, HB⟩
  have HB0 := bthen (below1 _ _) HB
  obtain ⟨c0, c1, c2, c3, c4, c5⟩ := hl.cells hi
  have l0 := lt_of_cell c0
  have HH : Hid (oldI t.w l = i) := h1
  clear h1
  go_wp2_with fail
  refine wp_region_later (by first | exact HB | exact bdrew HB | exact Below.refl _ _) (by kernel_rfl) (by kernel_rfl) ?_
  repeat (go_big_quiet_step (first | exact rfl | (go_at_call 106; exact calls_later (patience_eq _ _ _ hP))))
  refine wpQuiet_nil ?_; intro _ hw'; obtain ⟨p, hw''⟩ := hw'; subst hw''; (try clear hc hf hz); (try clear HB); have HB := p.below; obtain ⟨hc, hf, hz⟩ := bcell HB
  go_wp2
  go_ret
  exact ⟨rfl, by repeat (first | with_reducible exact Below.refl _ _ | with_reducible refine balloc ?_ _ | with_reducible refine bdrew ?_ | with_reducible refine bset' ?_ (by omega) _ | with_reducible refine bthen ?_ (by assumption))⟩

set_option maxHeartbeats 1000000 in
theorem first_b (l : List Rq) (b o : Nat) (c : Nat) (t : Tn) (now : Int) (w : World) (hl : ReqsAt w (some ⟨b, o, none⟩) l) (i : Nat) (hi : i < l.length) (h1 : oldI t.w l = i)
    (n0 : 0 ≤ now) (n1 : now ≤ 1000000000) (b0 : 0 ≤ l[i].born) (b1 : l[i].born ≤ 1000000000) (P : Int) (hP : patI t.w = P) (hn : now - l[i].born < P) (j : Nat) (hj : frI t.w t.p l = j) :
    Calls Tryz.prog 79 #[.slice (some ⟨b, o, none⟩) l.length c, t.val, .int .i64 now] w fun e w' => e = .returned (.int .i64 j) ∧ Below w.heap.size w w' := by
  have hb3 := hl.2.2
  have hi0 : decide ((0 : Int) ≤ (i : Int)) = true := decide_eq_true (by omega)
  have hj0 : decide ((0 : Int) ≤ (j : Int)) = true := decide_eq_true (by omega)
  go_enter Tryz.func79, Tryz.ntmps79
  go_wp2_with fail
  refine (oldest_eq l _ c _ _ (hl.later (by repeat (first | with_reducible exact Below.refl _ _ | with_reducible refine balloc ?_ _ | with_reducible refine bdrew ?_ | with_reducible refine bset' ?_ (by omega) _ | with_reducible refine bthen ?_ (by assumption)))) _ h1).mono ?_
  rintro e w1 ⟨rfl, HB⟩
  obtain ⟨c0, c1, c2, c3, c4, c5⟩ := hl.cells hi
  have l0 := lt_of_cell c0
  have HJ : Hid (frI t.w t.p l = j) := hj
  clear h1 hj
  go_wp2_with fail
  refine wp_region_later (by first | exact HB | exact bdrew HB | exact Below.refl _ _) (by kernel_rfl) (by kernel_rfl) ?_
  repeat (go_big_quiet_step (first | exact rfl | (go_at_call 106; exact calls_later (patience_eq _ _ _ hP))))
  refine wpQuiet_nil ?_; intro _ hw'; obtain ⟨p, hw''⟩ := hw'; subst hw''; (try clear hc hf hz); (try clear HB); have HB := p.below; obtain ⟨hc, hf, hz⟩ := bcell HB
  go_wp2_with fail
  refine (from_eq l _ c _ _ _ (hl.later (by repeat (first | with_reducible exact Below.refl _ _ | with_reducible refine balloc ?_ _ | with_reducible refine bdrew ?_ | with_reducible refine bset' ?_ (by omega) _ | with_reducible refine bthen ?_ (by assumption)))) _ HJ.out).mono ?_
  rintro e w2 ⟨rfl, hb⟩
  go_wp2
  go_ret
  exact ⟨rfl, by repeat (first | with_reducible exact Below.refl _ _ | with_reducible refine balloc ?_ _ | with_reducible refine bdrew ?_ | with_reducible refine bset' ?_ (by omega) _ | with_reducible refine bthen ?_ (by assumption))⟩

set_option maxHeartbeats 1000000 in
theorem first_c (l : List Rq) (b o : Nat) (c : Nat) (t : Tn) (now : Int) (w : World) (hl : ReqsAt w (some ⟨b, o, none⟩) l) (i : Nat) (hi : i < l.length) (h1 : oldI t.w l = i)
    (n0 : 0 ≤ now) (n1 : now ≤ 1000000000) (b0 : 0 ≤ l[i].born) (b1 : l[i].born ≤ 1000000000) (P : Int) (hP : patI t.w = P) (hn : now - l[i].born < P) (hj : frI t.w t.p l = -1) (n : Int) (hn2 : frI t.w 0 l = n) :
    Calls Tryz.prog 79 #[.slice (some ⟨b, o, none⟩) l.length c, t.val, .int .i64 now] w fun e w' => e = .returned (.int .i64 n) ∧ Below w.heap.size w w' := by
  have hb3 := hl.2.2
  have hi0 : decide ((0 : Int) ≤ (i : Int)) = true := decide_eq_true (by omega)
  go_enter Tryz.func79, Tryz.ntmps79
  go_wp2_with fail
  refine (oldest_eq l _ c _ _ (hl.later (by repeat (first | with_reducible exact Below.refl _ _ | with_reducible refine balloc ?_ _ | with_reducible refine bdrew ?_ | with_reducible refine bset' ?_ (by omega) _ | with_reducible refine bthen ?_ (by assumption)))) _ h1).mono ?_
  rintro e w1 ⟨rfl, HB⟩
  obtain ⟨c0, c1, c2, c3, c4, c5⟩ := hl.cells hi
  have l0 := lt_of_cell c0
  have HJ : Hid (frI t.w t.p l = -1) := hj
  have HK : Hid (frI t.w 0 l = n) := hn2
  clear h1 hj hn2
  go_wp2_with fail
  refine wp_region_later (by first | exact HB | exact bdrew HB | exact Below.refl _ _) (by kernel_rfl) (by kernel_rfl) ?_
  repeat (go_big_quiet_step (first | exact rfl | (go_at_call 106; exact calls_later (patience_eq _ _ _ hP))))
  refine wpQuiet_nil ?_; intro _ hw'; obtain ⟨p, hw''⟩ := hw'; subst hw''; (try clear hc hf hz); (try clear HB); have HB := p.below; obtain ⟨hc, hf, hz⟩ := bcell HB
  go_wp2_with fail
  refine (from_eq l _ c _ _ _ (hl.later (by repeat (first | with_reducible exact Below.refl _ _ | with_reducible refine balloc ?_ _ | with_reducible refine bdrew ?_ | with_reducible refine bset' ?_ (by omega) _ | with_reducible refine bthen ?_ (by assumption)))) _ HJ.out).mono ?_
  rintro e w2 ⟨rfl, hb⟩
  replace HB := bthen HB hb
  clear hb hc hf hz
  obtain ⟨hc, hf, hz⟩ := bcell HB
  go_wp2_with fail
  refine (from_eq l _ c _ _ _ (hl.later (by repeat (first | with_reducible exact Below.refl _ _ | with_reducible refine balloc ?_ _ | with_reducible refine bdrew ?_ | with_reducible refine bset' ?_ (by omega) _ | with_reducible refine bthen ?_ (by assumption)))) _ HK.out).mono ?_
  rintro e w3 ⟨rfl, hb⟩
  go_wp2
  go_ret
  exact ⟨rfl, by repeat (first | with_reducible exact Below.refl _ _ | with_reducible refine balloc ?_ _ | with_reducible refine bdrew ?_ | with_reducible refine bset' ?_ (by omega) _ | with_reducible refine bthen ?_ (by assumption))⟩

end Go.Proofs.YtgjkdhedkbkagaaGreat
/- Next of the elevator: a turn that goes on; a turn that begins. -/
namespace Go.Proofs.YtgjkdhedkbkagaaGreat
open Go.RowKit Go.BigFrame
set_option maxRecDepth 100000
attribute [local go_sem] Later.cell Later.frozen

set_option maxHeartbeats 1000000 in
theorem next_on (l : List Rq) (b o : Nat) (c : Nat) (t : Tn) (now : Int) (w : World) (hl : ReqsAt w (some ⟨b, o, none⟩) l) (g0 : 0 < t.g) (g1 : t.g < 3) (j : Nat) (hj : j < l.length) (h1 : frI t.w t.p l = j)
    (f0 : 0 ≤ l[j].f) (f1 : l[j].f ≤ 31) (m0 : 1 ≤ l[j].m) (m1 : l[j].m ≤ 32) :
    Calls Tryz.prog 56 #[.slice (some ⟨b, o, none⟩) l.length c, t.val, .int .i64 now] w fun e w' => e = .returned (.tuple #[.int .i64 j, Tn.val ⟨t.w, t.g + 1, t.s, l[j].f + l[j].m⟩]) ∧ Below w.heap.size w w' := by
  have hb3 := hl.2.2
  have hi0 : decide ((0 : Int) ≤ (j : Int)) = true := decide_eq_true (by omega)
  have hi1 : decide ((j : Int) < 0) = false := decide_eq_false (by omega)
  obtain ⟨c0, c1, c2, c3, c4, c5⟩ := hl.cells hj
  have l0 := lt_of_cell c0
  go_enter Tryz.func56, Tryz.ntmps56
  go_wp2_with fail
  refine (goesOn_yes l _ c t _ (hl.later (by repeat (first | with_reducible exact Below.refl _ _ | with_reducible refine balloc ?_ _ | with_reducible refine bdrew ?_ | with_reducible refine bset' ?_ (by omega) _ | with_reducible refine bthen ?_ (by assumption)))) g0 g1 _ h1).mono ?_
  rintro e w1 ⟨rfl, HB⟩
  clear h1
  have HB0 : Below w.heap.size w w1 := by repeat (first | with_reducible exact Below.refl _ _ | with_reducible refine balloc ?_ _ | with_reducible refine bdrew ?_ | with_reducible refine bset' ?_ (by omega) _ | with_reducible refine bthen ?_ (by assumption))
  obtain ⟨⟨p0, p1, p2, p3⟩, ⟨k0, k1, k2, k3⟩, ⟨q0, q1, q2, q3⟩, ⟨e0, e1, e2, e3⟩, z0, z1⟩ := four2 HB
  replace c1 := cell_later' HB0 c1
  replace c2 := cell_later' HB0 c2
  have l1 : b < w1.heap.size := lt_of_cell c1
  have hne : ¬ b = w.heap.size := by omega
  have hne1 : ¬ b = w.heap.size + 1 := by omega
  have hne2 : ¬ b = w1.heap.size := by omega
  clear c0 c3 c4 c5 HB0
  go_wp2_with fail
  go_region
  go_wp2_with fail
  go_region
  go_wp2
  refine bodyPost_ret (v := .tuple #[.int .i64 j, Tn.val ⟨t.w, t.g + 1, t.s, l[j].f + l[j].m⟩]) ?_ rfl ⟨rfl, by repeat (first | with_reducible exact Below.refl _ _ | with_reducible refine balloc ?_ _ | with_reducible refine bdrew ?_ | with_reducible refine bset' ?_ (by omega) _ | with_reducible refine bthen ?_ (by assumption))⟩
  simp [results, Tryz.results56, go_sem, q0, q1, q2, q3, z1]

/-- What a world has of three blocks of four cells, the last one laid later. -/
theorem four1 {w1 w2 : World} {a0 a1 a2 a3 : Value} {T : TypeId} (HB : Below (w1.alloc (.cells #[a0, a1, a2, a3] T)).heap.size (w1.alloc (.cells #[a0, a1, a2, a3] T)) w2) :
    (w2.cell? ⟨w1.heap.size, 0, none⟩ = some a0 ∧ w2.cell? ⟨w1.heap.size, 1, none⟩ = some a1 ∧ w2.cell? ⟨w1.heap.size, 2, none⟩ = some a2 ∧ w2.cell? ⟨w1.heap.size, 3, none⟩ = some a3) ∧
    (w2.frozen? ⟨w1.heap.size, 0, none⟩ = false ∧ w2.frozen? ⟨w1.heap.size, 1, none⟩ = false ∧ w2.frozen? ⟨w1.heap.size, 2, none⟩ = false ∧ w2.frozen? ⟨w1.heap.size, 3, none⟩ = false) ∧
    w1.heap.size < w2.heap.size := by
  have hz := HB.size
  simp only [World.size_alloc] at hz
  have c := fun o => HB.cell (p := ⟨w1.heap.size, o, none⟩) (by simp only [World.size_alloc]; omega)
  have f := fun o => HB.frozen (p := ⟨w1.heap.size, o, none⟩) (by simp only [World.size_alloc]; omega)
  refine ⟨⟨?_, ?_, ?_, ?_⟩, ⟨?_, ?_, ?_, ?_⟩, by omega⟩
  all_goals first | rw [c] | rw [f]
  all_goals simp
theorem frozen_laterE {w w' : World} {b o : Nat} {x : Bool} (hb : Below w.heap.size w w') (hlt : b < w.heap.size) (h : w.frozen? ⟨b, o, none⟩ = x) : w'.frozen? ⟨b, o, none⟩ = x := by
  rw [hb.frozen (p := ⟨b, o, none⟩) hlt]; exact h
theorem four_later {w w' : World} {b : Nat} {a0 a1 a2 a3 : Value} (hb : Below w.heap.size w w')
    (h : (w.cell? ⟨b, 0, none⟩ = some a0 ∧ w.cell? ⟨b, 1, none⟩ = some a1 ∧ w.cell? ⟨b, 2, none⟩ = some a2 ∧ w.cell? ⟨b, 3, none⟩ = some a3) ∧ (w.frozen? ⟨b, 0, none⟩ = false ∧ w.frozen? ⟨b, 1, none⟩ = false ∧ w.frozen? ⟨b, 2, none⟩ = false ∧ w.frozen? ⟨b, 3, none⟩ = false)) :
    (w'.cell? ⟨b, 0, none⟩ = some a0 ∧ w'.cell? ⟨b, 1, none⟩ = some a1 ∧ w'.cell? ⟨b, 2, none⟩ = some a2 ∧ w'.cell? ⟨b, 3, none⟩ = some a3) ∧ (w'.frozen? ⟨b, 0, none⟩ = false ∧ w'.frozen? ⟨b, 1, none⟩ = false ∧ w'.frozen? ⟨b, 2, none⟩ = false ∧ w'.frozen? ⟨b, 3, none⟩ = false) := by
  obtain ⟨⟨c0, c1, c2, c3⟩, ⟨f0, f1, f2, f3⟩⟩ := h
  have hlt := lt_of_cell c0
  exact ⟨⟨cell_later' hb c0, cell_later' hb c1, cell_later' hb c2, cell_later' hb c3⟩, ⟨frozen_laterE hb hlt f0, frozen_laterE hb hlt f1, frozen_laterE hb hlt f2, frozen_laterE hb hlt f3⟩⟩

theorem sc_other {w : World} {b o b' o' : Nat} {v : Value} (h : b' ≠ b ∨ o' ≠ o) : (w.setCell ⟨b, o, none⟩ v).cell? ⟨b', o', none⟩ = w.cell? ⟨b', o', none⟩ := by
  apply World.cell?_setCell_other
  intro e
  simp only [Addr.mk.injEq, and_true] at e
  rcases h with h | h
  · exact h e.1.symm
  · exact h e.2.symm
/-- Four cells of a block that is there are written anew. -/
theorem set4 {w : World} {b : Nat} {a0 a1 a2 a3 : Value} (v0 v1 v2 v3 : Value)
    (h : (w.cell? ⟨b, 0, none⟩ = some a0 ∧ w.cell? ⟨b, 1, none⟩ = some a1 ∧ w.cell? ⟨b, 2, none⟩ = some a2 ∧ w.cell? ⟨b, 3, none⟩ = some a3) ∧ (w.frozen? ⟨b, 0, none⟩ = false ∧ w.frozen? ⟨b, 1, none⟩ = false ∧ w.frozen? ⟨b, 2, none⟩ = false ∧ w.frozen? ⟨b, 3, none⟩ = false)) :
    ∀ X, X = (((w.setCell ⟨b, 0, none⟩ v0).setCell ⟨b, 1, none⟩ v1).setCell ⟨b, 2, none⟩ v2).setCell ⟨b, 3, none⟩ v3 →
    ((X.cell? ⟨b, 0, none⟩ = some v0 ∧ X.cell? ⟨b, 1, none⟩ = some v1 ∧ X.cell? ⟨b, 2, none⟩ = some v2 ∧ X.cell? ⟨b, 3, none⟩ = some v3) ∧ (X.frozen? ⟨b, 0, none⟩ = false ∧ X.frozen? ⟨b, 1, none⟩ = false ∧ X.frozen? ⟨b, 2, none⟩ = false ∧ X.frozen? ⟨b, 3, none⟩ = false)) ∧
    (∀ b' o', b' ≠ b → X.cell? ⟨b', o', none⟩ = w.cell? ⟨b', o', none⟩) ∧ (∀ b' o', b' ≠ b → X.frozen? ⟨b', o', none⟩ = w.frozen? ⟨b', o', none⟩) ∧ X.heap.size = w.heap.size := by
  obtain ⟨⟨c0, c1, c2, c3⟩, ⟨f0, f1, f2, f3⟩⟩ := h
  intro X hX
  subst hX
  refine ⟨⟨⟨?_, ?_, ?_, ?_⟩, ⟨?_, ?_, ?_, ?_⟩⟩, ?_, ?_, ?_⟩
  · rw [sc_other (Or.inr (by decide)), sc_other (Or.inr (by decide)), sc_other (Or.inr (by decide))]; exact World.cell?_setCell_same _ _ _ c0
  · rw [sc_other (Or.inr (by decide)), sc_other (Or.inr (by decide))]; exact World.cell?_setCell_same _ _ _ (by rw [sc_other (Or.inr (by decide))]; exact c1)
  · rw [sc_other (Or.inr (by decide))]; exact World.cell?_setCell_same _ _ _ (by rw [sc_other (Or.inr (by decide)), sc_other (Or.inr (by decide))]; exact c2)
  · exact World.cell?_setCell_same _ _ _ (by rw [sc_other (Or.inr (by decide)), sc_other (Or.inr (by decide)), sc_other (Or.inr (by decide))]; exact c3)
  · simpa using f0
  · simpa using f1
  · simpa using f2
  · simpa using f3
  · intro b' o' hb
    rw [sc_other (Or.inl hb), sc_other (Or.inl hb), sc_other (Or.inl hb), sc_other (Or.inl hb)]
  · intro b' o' _; simp
  · simp

set_option maxHeartbeats 1000000 in
theorem next_begin (l : List Rq) (b o : Nat) (c : Nat) (t T : Tn) (now : Int) (w : World) (hl : ReqsAt w (some ⟨b, o, none⟩) l) (i : Nat) (hi : i < l.length)
    (Hg : ∀ w', ReqsAt w' (some ⟨b, o, none⟩) l → Calls Tryz.prog 77 #[.slice (some ⟨b, o, none⟩) l.length c, t.val] w' fun e w'' => e = .returned (.int .i64 (-1)) ∧ Below w'.heap.size w' w'')
    (Hb : ∀ w', ReqsAt w' (some ⟨b, o, none⟩) l → Calls Tryz.prog 78 #[.slice (some ⟨b, o, none⟩) l.length c, t.val] w' fun e w'' => e = .returned T.val ∧ Below w'.heap.size w' w'')
    (Hf : ∀ w', ReqsAt w' (some ⟨b, o, none⟩) l → Calls Tryz.prog 79 #[.slice (some ⟨b, o, none⟩) l.length c, T.val, .int .i64 now] w' fun e w'' => e = .returned (.int .i64 i) ∧ Below w'.heap.size w' w'')
    (f0 : 0 ≤ l[i].f) (f1 : l[i].f ≤ 31) (m0 : 1 ≤ l[i].m) (m1 : l[i].m ≤ 32) :
    Calls Tryz.prog 56 #[.slice (some ⟨b, o, none⟩) l.length c, t.val, .int .i64 now] w fun e w' => e = .returned (.tuple #[.int .i64 i, Tn.val ⟨T.w, T.g, T.s, l[i].f + l[i].m⟩]) ∧ Below w.heap.size w w' := by
  have hb3 := hl.2.2
  have hi0 : decide ((0 : Int) ≤ (i : Int)) = true := decide_eq_true (by omega)
  have hi1 : decide ((i : Int) < 0) = false := decide_eq_false (by omega)
  obtain ⟨c0, c1, c2, c3, c4, c5⟩ := hl.cells hi
  have l0 := lt_of_cell c0
  clear c0 c3 c4 c5
  have HG : Hid (∀ w', ReqsAt w' (some ⟨b, o, none⟩) l → Calls Tryz.prog 77 #[.slice (some ⟨b, o, none⟩) l.length c, t.val] w' fun e w'' => e = .returned (.int .i64 (-1)) ∧ Below w'.heap.size w' w'') := Hg
  have HE : Hid (∀ w', ReqsAt w' (some ⟨b, o, none⟩) l → Calls Tryz.prog 78 #[.slice (some ⟨b, o, none⟩) l.length c, t.val] w' fun e w'' => e = .returned T.val ∧ Below w'.heap.size w' w'') := Hb
  have HF : Hid (∀ w', ReqsAt w' (some ⟨b, o, none⟩) l → Calls Tryz.prog 79 #[.slice (some ⟨b, o, none⟩) l.length c, T.val, .int .i64 now] w' fun e w'' => e = .returned (.int .i64 i) ∧ Below w'.heap.size w' w'') := Hf
  clear Hg Hb Hf
  go_enter Tryz.func56, Tryz.ntmps56
  go_wp2_with fail
  refine (HG.out _ (hl.later (by repeat (first | with_reducible exact Below.refl _ _ | with_reducible refine balloc ?_ _ | with_reducible refine bdrew ?_ | with_reducible refine bset' ?_ (by omega) _ | with_reducible refine bthen ?_ (by assumption))))).mono ?_
  rintro e w1 ⟨rfl, HB⟩
  have HB0 : Below w.heap.size w w1 := by repeat (first | with_reducible exact Below.refl _ _ | with_reducible refine balloc ?_ _ | with_reducible refine bdrew ?_ | with_reducible refine bset' ?_ (by omega) _ | with_reducible refine bthen ?_ (by assumption))
  obtain ⟨p, k, q, e, z0, z1⟩ := four2 HB
  clear HB
  obtain ⟨⟨p0, p1, p2, p3⟩, ⟨k0, k1, k2, k3⟩⟩ := (⟨p, k⟩ : _ ∧ _)
  go_wp2_with fail
  refine (HE.out _ (hl.later (by repeat (first | with_reducible exact Below.refl _ _ | with_reducible refine balloc ?_ _ | with_reducible refine bdrew ?_ | with_reducible refine bset' ?_ (by omega) _ | with_reducible refine bthen ?_ (by assumption))))).mono ?_
  rintro e' w2 ⟨rfl, HB⟩
  clear p0 p1 p2 p3 k0 k1 k2 k3
  obtain ⟨⟨p0, p1, p2, p3⟩, ⟨k0, k1, k2, k3⟩, y0⟩ := four1 HB
  obtain ⟨q, e⟩ := four_later (bthen (below1 _ _) HB) ⟨q, e⟩
  obtain ⟨⟨q0, q1, q2, q3⟩, ⟨e0, e1, e2, e3⟩⟩ := (⟨q, e⟩ : _ ∧ _)
  have HB1 : Below w.heap.size w w2 := bthen HB0 (bthen (below1 _ _) HB)
  go_wp2_with fail
  obtain ⟨⟨s0, s1⟩, s2, s3, s4⟩ := set4 (Value.bool T.w) (Value.int .i64 T.g) (Value.int .i64 T.s) (Value.int .i64 T.p) ⟨⟨p0, p1, p2, p3⟩, ⟨k0, k1, k2, k3⟩⟩ _ rfl
  have hq := fun o' => s2 (w.heap.size + 1) o' (by omega)
  have he := fun o' => s3 (w.heap.size + 1) o' (by omega)
  have HB2 : Below w.heap.size w _ := bset' (bset' (bset' (bset' HB1 (b := w1.heap.size) (o := 0) (by omega) (Value.bool T.w)) (b := w1.heap.size) (o := 1) (by omega) (Value.int .i64 T.g)) (b := w1.heap.size) (o := 2) (by omega) (Value.int .i64 T.s)) (b := w1.heap.size) (o := 3) (by omega) (Value.int .i64 T.p)
  refine (HF.out _ (hl.later HB2)).mono ?_
  rintro e' w3 ⟨rfl, HB3⟩
  obtain ⟨⟨r0, r1, r2, r3⟩, ⟨x0, x1, x2, x3⟩⟩ := four_later HB3 ⟨s0, s1⟩
  obtain ⟨⟨t0, t1, t2, t3⟩, ⟨y0', y1', y2', y3'⟩⟩ := four_later (b := w.heap.size + 1) HB3 ⟨⟨(hq 0).trans q0, (hq 1).trans q1, (hq 2).trans q2, (hq 3).trans q3⟩, ⟨(he 0).trans e0, (he 1).trans e1, (he 2).trans e2, (he 3).trans e3⟩⟩
  have HB4 : Below w.heap.size w w3 := bthen HB2 HB3
  replace c1 := cell_later' HB4 c1
  replace c2 := cell_later' HB4 c2
  have l1 : b < w3.heap.size := lt_of_cell c1
  have z3 : w1.heap.size < w3.heap.size := lt_of_cell r0
  have z4 : w.heap.size + 1 < w3.heap.size := lt_of_cell t0
  have hne1 : ¬ b = w.heap.size + 1 := by omega
  have hne2 : ¬ b = w1.heap.size := by omega
  have hne3 : ¬ w.heap.size + 1 = w1.heap.size := by omega
  have hne4 : ¬ w1.heap.size = w.heap.size + 1 := by omega
  have hne5 : ¬ w1.heap.size = b := by omega
  have hne6 : ¬ w.heap.size + 1 = b := by omega
  clear p0 p1 p2 p3 k0 k1 k2 k3 q0 q1 q2 q3 e0 e1 e2 e3 s0 s1 s2 s3 s4 hq he HB2 HB3 HB HB1 HB0 y0 z1 l0 hl HG HE HF
  go_wp2_with fail
  go_region
  go_wp2_with fail
  go_region
  go_wp2
  refine bodyPost_ret (v := .tuple #[.int .i64 i, Tn.val ⟨T.w, T.g, T.s, l[i].f + l[i].m⟩]) ?_ rfl ⟨rfl, by repeat (first | with_reducible exact Below.refl _ _ | with_reducible refine balloc ?_ _ | with_reducible refine bdrew ?_ | with_reducible refine bset' ?_ (by omega) _ | with_reducible refine bthen ?_ (by assumption))⟩
  simp [results, Tryz.results56, go_sem, t0, t1, t2, t3]
/-- A block's first four cells, not frozen. -/
def FourAt (w : World) (b : Nat) (a0 a1 a2 a3 : Value) : Prop :=
  (w.cell? ⟨b, 0, none⟩ = some a0 ∧ w.cell? ⟨b, 1, none⟩ = some a1 ∧ w.cell? ⟨b, 2, none⟩ = some a2 ∧ w.cell? ⟨b, 3, none⟩ = some a3) ∧ (w.frozen? ⟨b, 0, none⟩ = false ∧ w.frozen? ⟨b, 1, none⟩ = false ∧ w.frozen? ⟨b, 2, none⟩ = false ∧ w.frozen? ⟨b, 3, none⟩ = false)
section
variable {w w' : World} {b b' o : Nat} {a0 a1 a2 a3 : Value}
theorem FourAt.later (h : FourAt w b a0 a1 a2 a3) (hb : Below w.heap.size w w') : FourAt w' b a0 a1 a2 a3 := four_later hb h
theorem FourAt.other (h : FourAt w b a0 a1 a2 a3) (hne : b ≠ b') (v : Value) : FourAt (w.setCell ⟨b', o, none⟩ v) b a0 a1 a2 a3 := by
  obtain ⟨⟨c0, c1, c2, c3⟩, ⟨f0, f1, f2, f3⟩⟩ := h
  refine ⟨⟨?_, ?_, ?_, ?_⟩, ⟨?_, ?_, ?_, ?_⟩⟩
  all_goals first | (rw [sc_other (Or.inl hne)]; assumption) | (rw [World.frozen?_setCell]; assumption)
end

end Go.Proofs.YtgjkdhedkbkagaaGreat
/- Oldest and From of the document's answer. -/
namespace Go.Proofs.YtgjkdhedkbkagaaGreat
open Go.RowKit Go.BigFrame
set_option maxRecDepth 100000
attribute [local go_sem] Later.cell Later.frozen

end Go.Proofs.YtgjkdhedkbkagaaGreat
/- Next of the document's answer. -/
namespace Go.Proofs.YtgjkdhedkbkagaaGreat
open Go.RowKit Go.BigFrame
set_option maxRecDepth 100000
attribute [local go_sem] Later.cell Later.frozen

end Go.Proofs.YtgjkdhedkbkagaaGreat
/- Next of the document's answer: a turn that is over since nothing lies ahead; a turn that goes on. -/
namespace Go.Proofs.YtgjkdhedkbkagaaGreat
open Go.RowKit Go.BigFrame
set_option maxRecDepth 100000
attribute [local go_sem] Later.cell Later.frozen

end Go.Proofs.YtgjkdhedkbkagaaGreat
/- Whose turn it is: the elevator's answer, and the document's, are one: at all requests that may wait, every turn, every moment. -/
namespace Go.Proofs.YtgjkdhedkbkagaaGreat
open Go.RowKit
set_option maxRecDepth 100000

theorem Good.bds {r : Rq} (h : Good r) : 0 ≤ r.f ∧ r.f ≤ 31 ∧ 1 ≤ r.m ∧ r.m ≤ 4 ∧ r.m ≤ 32 - r.f := by
  have := h.ok
  simp only [okB, decide_eq_true_eq] at this
  omega

theorem beginT_p (b1 b2 : Bool) (t : Tn) : (beginT b1 b2 t).p = t.p ∧ (beginT b1 b2 t).g = 1 := by
  unfold beginT; split
  · exact ⟨rfl, rfl⟩
  · split <;> exact ⟨rfl, rfl⟩

/-- Of the kind whose turn begins there is one. -/
theorem kind_there (l : List Rq) (hne : l ≠ []) (t : Tn) (b1 b2 : Bool) (d1 : decide (0 ≤ oldI false l) = b1) (d2 : decide (0 ≤ oldI true l) = b2) : ∃ i0, ∃ h : i0 < l.length, oldI (beginT b1 b2 t).w l = i0 ∧ l[i0].wr = (beginT b1 b2 t).w := by
  have hpos : 0 < l.length := List.length_pos_iff.2 hne
  have key : ∀ x : Bool, (∃ i0, ∃ h : i0 < l.length, oldI x l = i0 ∧ l[i0].wr = x) ∨ (oldI x l = -1 ∧ ∀ i (h : i < l.length), l[i].wr = !x) := fun x => by
    rcases old_spec x l with h | ⟨j, hj, h1, h2⟩
    · exact Or.inr h
    · exact Or.inl ⟨j, hj, h1, h2⟩
  cases b2
  · -- none writes
    have e : (beginT b1 false t).w = false := rfl
    rw [e]
    rcases key false with h | ⟨_, h⟩
    · exact h
    · exfalso
      rcases key true with ⟨j, hj, h1, _⟩ | ⟨_, h'⟩
      · rw [h1] at d2; simp only [decide_eq_false_iff_not] at d2; omega
      · have a := h 0 hpos; have b := h' 0 hpos; rw [a] at b; cases b
  · have h2 : 0 ≤ oldI true l := by simpa using d2
    have ht : ∃ i0, ∃ h : i0 < l.length, oldI true l = i0 ∧ l[i0].wr = true := by
      rcases key true with h | ⟨h, _⟩
      · exact h
      · omega
    by_cases hc : b1 = false ∨ 2 ≤ t.s
    · have e : (beginT b1 true t).w = true := by simp [beginT, hc]
      rw [e]; exact ht
    · have e : (beginT b1 true t).w = false := by simp [beginT, hc]
      rw [e]
      have h1 : 0 ≤ oldI false l := by
        cases b1
        · exact absurd (Or.inl rfl) hc
        · simpa using d1
      rcases key false with h | ⟨h, _⟩
      · exact h
      · omega

/-- How one begins, whatever the kind. -/
theorem begin_any (l : List Rq) (b o c : Nat) (t : Tn) (w : World) (hl : ReqsAt w (some ⟨b, o, none⟩) l) (hs : In64 t.s) (b1 b2 : Bool) (d1 : decide (0 ≤ oldI false l) = b1) (d2 : decide (0 ≤ oldI true l) = b2) :
    Calls Tryz.prog 78 #[.slice (some ⟨b, o, none⟩) l.length c, t.val] w fun e w' => e = .returned (beginT b1 b2 t).val ∧ Below w.heap.size w w' := by
  cases b2
  · exact begin_a l _ c t w hl b1 _ _ rfl rfl d1 d2
  · cases b1
    · exact begin_b l _ c t w hl _ _ rfl rfl d1 d2
    · by_cases h : 2 ≤ t.s
      · have e : beginT true true t = ⟨true, 1, 0, t.p⟩ := by simp [beginT, h]
        rw [e]; exact begin_c l _ c t w hl _ _ rfl rfl d1 d2 h
      · have e : beginT true true t = ⟨false, 1, t.s + 1, t.p⟩ := by simp [beginT, h]
        rw [e]; exact begin_d l _ c t w hl _ _ rfl rfl d1 d2 (by omega) hs.1

def NextCall (F : Nat) (b o c : Nat) (l : List Rq) (t : Tn) (now : Int) (i : Nat) (T : Tn) : Prop :=
  ∀ w, ReqsAt w (some ⟨b, o, none⟩) l → Calls Tryz.prog F #[.slice (some ⟨b, o, none⟩) l.length c, t.val, .int .i64 now] w fun e w' => e = .returned (.tuple #[.int .i64 i, T.val]) ∧ Below w.heap.size w w'

def RCall (_b _o _c : Nat) (_l : List Rq) (_t : Tn) (_now : Int) (_i : Nat) (_T : Tn) : Prop := True

/-- A turn that begins: who is first. -/
theorem first_way (l : List Rq) (hg : Goods l) (t : Tn) (now : Int) (i0 : Nat) (hi0 : i0 < l.length) (hw : l[i0].wr = t.w) :
    ∃ i, i < l.length ∧ ((patI t.w ≤ now - l[i0].born ∧ i = i0) ∨ (now - l[i0].born < patI t.w ∧ (frI t.w t.p l = i ∨ (frI t.w t.p l = -1 ∧ frI t.w 0 l = i)))) := by
  by_cases h : patI t.w ≤ now - l[i0].born
  · exact ⟨i0, hi0, Or.inl ⟨h, rfl⟩⟩
  · rcases fr_spec t.w t.p l with ⟨h1, _⟩ | ⟨j, hj, h1, _⟩
    · rcases fr_spec t.w 0 l with ⟨_, h2⟩ | ⟨j, hj, h2, _⟩
      · exfalso
        have := h2 i0 hi0 hw
        have := (hg.good i0 hi0).bds
        omega
      · exact ⟨j, hj, Or.inr ⟨by omega, Or.inr ⟨h1, h2⟩⟩⟩
    · exact ⟨j, hj, Or.inr ⟨by omega, Or.inl h1⟩⟩

theorem nfirst_any (l : List Rq) (hg : Goods l) (b o c : Nat) (t : Tn) (now : Int) (w : World) (hl : ReqsAt w (some ⟨b, o, none⟩) l) (n0 : 0 ≤ now) (n1 : now ≤ 1000000000) (i0 : Nat) (hi0 : i0 < l.length) (hO : oldI t.w l = i0) (i : Nat)
    (hway : (patI t.w ≤ now - l[i0].born ∧ i = i0) ∨ (now - l[i0].born < patI t.w ∧ (frI t.w t.p l = i ∨ (frI t.w t.p l = -1 ∧ frI t.w 0 l = i)))) :
    Calls Tryz.prog 79 #[.slice (some ⟨b, o, none⟩) l.length c, t.val, .int .i64 now] w fun e w' => e = .returned (.int .i64 i) ∧ Below w.heap.size w w' := by
  have g := hg.good i0 hi0
  rcases hway with ⟨h, rfl⟩ | ⟨h, h1 | ⟨h1, h2⟩⟩
  · exact first_a l b o c t now w hl i hi0 hO n0 n1 g.b0 g.b1 _ rfl h
  · exact first_b l b o c t now w hl i0 hi0 hO n0 n1 g.b0 g.b1 _ rfl h i h1
  · exact first_c l b o c t now w hl i0 hi0 hO n0 n1 g.b0 g.b1 _ rfl h h1 _ h2

/-- What the next one, and the turn then, are. -/
structure IsNext (l : List Rq) (t : Tn) (now : Int) (i : Nat) (T : Tn) : Prop where
  lt : i < l.length
  p : T.p = l[i].f + l[i].m
  w : l[i].wr = T.w
  way : (0 < t.g ∧ t.g < 3 ∧ frI t.w t.p l = i ∧ T.w = t.w ∧ T.g = t.g + 1 ∧ T.s = t.s) ∨
    ((t.g ≤ 0 ∨ 3 ≤ t.g ∨ frI t.w t.p l = -1) ∧ T.g = 1 ∧ ∃ b1 b2, decide (0 ≤ oldI false l) = b1 ∧ decide (0 ≤ oldI true l) = b2 ∧ T.w = (beginT b1 b2 t).w ∧ T.s = (beginT b1 b2 t).s ∧
      ∃ i0, ∃ h : i0 < l.length, oldI T.w l = i0 ∧ ((patI T.w ≤ now - l[i0].born ∧ i = i0) ∨ now - l[i0].born < patI T.w))

end Go.Proofs.YtgjkdhedkbkagaaGreat
