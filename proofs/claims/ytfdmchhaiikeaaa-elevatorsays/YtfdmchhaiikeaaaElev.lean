/- The elevator's parts: whether a turn goes on, how one begins, who is first in it. -/
import Derived.Test.YtfdmchhaiikeaaaLeast2
import Derived.BigRegion
namespace Go.Proofs.Ytfdmchhaiikeaaa
open Go.RowKit Go.BigFrame
attribute [local go_sem] Later.cell Later.frozen

structure Tn where
  w : Bool
  g : Int
  s : Int
  p : Int
abbrev Tn.val (t : Tn) : Value := .agg #[.bool t.w, .int .i64 t.g, .int .i64 t.s, .int .i64 t.p]
def oldI (b : Bool) (l : List Rq) : Int := leastI (oldF b) Rq.born l l.length
def frI (b : Bool) (a : Int) (l : List Rq) : Int := leastI (fromF b a) Rq.f l l.length
theorem oldest_eq (l : List Rq) (a : Option Addr) (c : Nat) (b : Bool) (w : World) (hl : ReqsAt w a l) (n : Int) (hn : oldI b l = n) :
    Calls Try.prog 24 #[.slice a l.length c, .bool b] w fun e w' => e = .returned (.int .i64 n) ∧ Below w.heap.size w w' := by
  subst hn; exact oldest_any l a c b w hl
theorem from_eq (l : List Rq) (a : Option Addr) (c : Nat) (b : Bool) (a' : Int) (w : World) (hl : ReqsAt w a l) (n : Int) (hn : frI b a' l = n) :
    Calls Try.prog 26 #[.slice a l.length c, .bool b, .int .i64 a'] w fun e w' => e = .returned (.int .i64 n) ∧ Below w.heap.size w w' := by
  subst hn; exact from_any l a c b a' w hl

/-- What a world has of two blocks of four cells that lay at the end of an earlier one. -/
theorem four2 {w w2 : World} {a0 a1 a2 a3 b0 b1 b2 b3 : Value} {T T' : TypeId} (HB : Below ((w.alloc (.cells #[a0, a1, a2, a3] T)).alloc (.cells #[b0, b1, b2, b3] T')).heap.size ((w.alloc (.cells #[a0, a1, a2, a3] T)).alloc (.cells #[b0, b1, b2, b3] T')) w2) :
    (w2.cell? ⟨w.heap.size, 0, none⟩ = some a0 ∧ w2.cell? ⟨w.heap.size, 1, none⟩ = some a1 ∧ w2.cell? ⟨w.heap.size, 2, none⟩ = some a2 ∧ w2.cell? ⟨w.heap.size, 3, none⟩ = some a3) ∧
    (w2.frozen? ⟨w.heap.size, 0, none⟩ = false ∧ w2.frozen? ⟨w.heap.size, 1, none⟩ = false ∧ w2.frozen? ⟨w.heap.size, 2, none⟩ = false ∧ w2.frozen? ⟨w.heap.size, 3, none⟩ = false) ∧
    (w2.cell? ⟨w.heap.size + 1, 0, none⟩ = some b0 ∧ w2.cell? ⟨w.heap.size + 1, 1, none⟩ = some b1 ∧ w2.cell? ⟨w.heap.size + 1, 2, none⟩ = some b2 ∧ w2.cell? ⟨w.heap.size + 1, 3, none⟩ = some b3) ∧
    (w2.frozen? ⟨w.heap.size + 1, 0, none⟩ = false ∧ w2.frozen? ⟨w.heap.size + 1, 1, none⟩ = false ∧ w2.frozen? ⟨w.heap.size + 1, 2, none⟩ = false ∧ w2.frozen? ⟨w.heap.size + 1, 3, none⟩ = false) ∧
    w.heap.size < w2.heap.size ∧ w.heap.size + 1 < w2.heap.size := by
  have hz := HB.size
  simp only [World.size_alloc] at hz
  have c := fun o => HB.cell (p := ⟨w.heap.size, o, none⟩) (by simp only [World.size_alloc]; omega)
  have f := fun o => HB.frozen (p := ⟨w.heap.size, o, none⟩) (by simp only [World.size_alloc]; omega)
  have c' := fun o => HB.cell (p := ⟨w.heap.size + 1, o, none⟩) (by simp only [World.size_alloc]; omega)
  have f' := fun o => HB.frozen (p := ⟨w.heap.size + 1, o, none⟩) (by simp only [World.size_alloc]; omega)
  refine ⟨⟨?_, ?_, ?_, ?_⟩, ⟨?_, ?_, ?_, ?_⟩, ⟨?_, ?_, ?_, ?_⟩, ⟨?_, ?_, ?_, ?_⟩, by omega, by omega⟩
  all_goals first | rw [c] | rw [f] | rw [c'] | rw [f']
  all_goals simp

set_option maxHeartbeats 400000 in
theorem patience_any (b : Bool) (w : World) : Calls Try.prog 57 #[.bool b] w fun e w' => e = .returned (.int .i64 (if b = true then 8 else 4)) ∧ Below w.heap.size w w' := by
  cases b
  all_goals
    go_enter Try.func57, Try.ntmps57
    go_wp2
    go_ret
    exact ⟨rfl, Below.refl _ _⟩

set_option maxHeartbeats 400000 in
theorem goesOn_no (l : List Rq) (a : Option Addr) (c : Nat) (t : Tn) (w : World) (h : t.g ≤ 0 ∨ 3 ≤ t.g) :
    Calls Try.prog 46 #[.slice a l.length c, t.val] w fun e w' => e = .returned (.int .i64 (-1)) ∧ Below w.heap.size w w' := by
  rcases h with h | h
  · go_enter Try.func46, Try.ntmps46
    go_wp2
    go_ret
    exact ⟨rfl, by repeat (first | with_reducible exact Below.refl _ _ | with_reducible refine balloc ?_ _ | with_reducible refine bdrew ?_ | with_reducible refine bset' ?_ (by omega) _ | with_reducible refine bthen ?_ (by assumption))⟩
  · have h' : ¬ t.g ≤ 0 := by omega
    go_enter Try.func46, Try.ntmps46
    go_wp2
    go_ret
    exact ⟨rfl, by repeat (first | with_reducible exact Below.refl _ _ | with_reducible refine balloc ?_ _ | with_reducible refine bdrew ?_ | with_reducible refine bset' ?_ (by omega) _ | with_reducible refine bthen ?_ (by assumption))⟩
set_option maxHeartbeats 400000 in
theorem goesOn_yes (l : List Rq) (a : Option Addr) (c : Nat) (t : Tn) (w : World) (hl : ReqsAt w a l) (h : 0 < t.g) (h2 : t.g < 3) (n : Int) (hn : frI t.w t.p l = n) :
    Calls Try.prog 46 #[.slice a l.length c, t.val] w fun e w' => e = .returned (.int .i64 n) ∧ Below w.heap.size w w' := by
  go_enter Try.func46, Try.ntmps46
  go_wp2_with fail
  refine (from_eq l a c _ _ _ (hl.later (below1 _ _)) n hn).mono ?_
  rintro e w1 ⟨rfl, HB⟩
  go_wp2
  go_ret
  exact ⟨rfl, by repeat (first | with_reducible exact Below.refl _ _ | with_reducible refine balloc ?_ _ | with_reducible refine bdrew ?_ | with_reducible refine bset' ?_ (by omega) _ | with_reducible refine bthen ?_ (by assumption))⟩

set_option maxHeartbeats 400000 in
theorem begin_a (l : List Rq) (a : Option Addr) (c : Nat) (t : Tn) (w : World) (hl : ReqsAt w a l) (b1 : Bool) (n1 n2 : Int) (h1 : oldI false l = n1) (h2 : oldI true l = n2) (d1 : decide (0 ≤ n1) = b1) (d2 : decide (0 ≤ n2) = false) :
    Calls Try.prog 47 #[.slice a l.length c, t.val] w fun e w' => e = .returned (Tn.val ⟨false, 1, t.s, t.p⟩) ∧ Below w.heap.size w w' := by
  go_enter Try.func47, Try.ntmps47
  go_wp2_with fail
  refine (oldest_eq l a c _ _ (hl.later (by repeat (first | with_reducible exact Below.refl _ _ | with_reducible refine balloc ?_ _ | with_reducible refine bdrew ?_ | with_reducible refine bset' ?_ (by omega) _ | with_reducible refine bthen ?_ (by assumption)))) n1 h1).mono ?_
  rintro e w1 ⟨rfl, HB⟩
  go_wp2_with fail
  refine (oldest_eq l a c _ _ (hl.later (by repeat (first | with_reducible exact Below.refl _ _ | with_reducible refine balloc ?_ _ | with_reducible refine bdrew ?_ | with_reducible refine bset' ?_ (by omega) _ | with_reducible refine bthen ?_ (by assumption)))) n2 h2).mono ?_
  rintro e w2 ⟨rfl, hb⟩
  replace HB := bthen HB hb
  clear hb h1 h2
  obtain ⟨⟨p0, p1, p2, p3⟩, ⟨f0, f1, f2, f3⟩, ⟨q0, q1, q2, q3⟩, ⟨g0, g1, g2, g3⟩, z0, z1⟩ := four2 HB
  go_wp2
  exact bodyPost_ret (v := Tn.val ⟨false, 1, t.s, t.p⟩) (by simp [results, Try.results47, go_sem, q0, q1, q2, q3]) rfl ⟨rfl, by repeat (first | with_reducible exact Below.refl _ _ | with_reducible refine balloc ?_ _ | with_reducible refine bdrew ?_ | with_reducible refine bset' ?_ (by omega) _ | with_reducible refine bthen ?_ (by assumption))⟩

set_option maxHeartbeats 400000 in
theorem begin_b (l : List Rq) (a : Option Addr) (c : Nat) (t : Tn) (w : World) (hl : ReqsAt w a l) (n1 n2 : Int) (h1 : oldI false l = n1) (h2 : oldI true l = n2) (d1 : decide (0 ≤ n1) = false) (d2 : decide (0 ≤ n2) = true) :
    Calls Try.prog 47 #[.slice a l.length c, t.val] w fun e w' => e = .returned (Tn.val ⟨true, 1, 0, t.p⟩) ∧ Below w.heap.size w w' := by
  go_enter Try.func47, Try.ntmps47
  go_wp2_with fail
  refine (oldest_eq l a c _ _ (hl.later (by repeat (first | with_reducible exact Below.refl _ _ | with_reducible refine balloc ?_ _ | with_reducible refine bdrew ?_ | with_reducible refine bset' ?_ (by omega) _ | with_reducible refine bthen ?_ (by assumption)))) n1 h1).mono ?_
  rintro e w1 ⟨rfl, HB⟩
  go_wp2_with fail
  refine (oldest_eq l a c _ _ (hl.later (by repeat (first | with_reducible exact Below.refl _ _ | with_reducible refine balloc ?_ _ | with_reducible refine bdrew ?_ | with_reducible refine bset' ?_ (by omega) _ | with_reducible refine bthen ?_ (by assumption)))) n2 h2).mono ?_
  rintro e w2 ⟨rfl, hb⟩
  replace HB := bthen HB hb
  clear hb h1 h2
  obtain ⟨⟨p0, p1, p2, p3⟩, ⟨f0, f1, f2, f3⟩, ⟨q0, q1, q2, q3⟩, ⟨g0, g1, g2, g3⟩, z0, z1⟩ := four2 HB
  go_wp2
  exact bodyPost_ret (v := Tn.val ⟨true, 1, 0, t.p⟩) (by simp [results, Try.results47, go_sem, q0, q1, q2, q3]) rfl ⟨rfl, by repeat (first | with_reducible exact Below.refl _ _ | with_reducible refine balloc ?_ _ | with_reducible refine bdrew ?_ | with_reducible refine bset' ?_ (by omega) _ | with_reducible refine bthen ?_ (by assumption))⟩

set_option maxHeartbeats 400000 in
theorem begin_c (l : List Rq) (a : Option Addr) (c : Nat) (t : Tn) (w : World) (hl : ReqsAt w a l) (n1 n2 : Int) (h1 : oldI false l = n1) (h2 : oldI true l = n2) (d1 : decide (0 ≤ n1) = true) (d2 : decide (0 ≤ n2) = true) (hs : 2 ≤ t.s) :
    Calls Try.prog 47 #[.slice a l.length c, t.val] w fun e w' => e = .returned (Tn.val ⟨true, 1, 0, t.p⟩) ∧ Below w.heap.size w w' := by
  go_enter Try.func47, Try.ntmps47
  go_wp2_with fail
  refine (oldest_eq l a c _ _ (hl.later (by repeat (first | with_reducible exact Below.refl _ _ | with_reducible refine balloc ?_ _ | with_reducible refine bdrew ?_ | with_reducible refine bset' ?_ (by omega) _ | with_reducible refine bthen ?_ (by assumption)))) n1 h1).mono ?_
  rintro e w1 ⟨rfl, HB⟩
  go_wp2_with fail
  refine (oldest_eq l a c _ _ (hl.later (by repeat (first | with_reducible exact Below.refl _ _ | with_reducible refine balloc ?_ _ | with_reducible refine bdrew ?_ | with_reducible refine bset' ?_ (by omega) _ | with_reducible refine bthen ?_ (by assumption)))) n2 h2).mono ?_
  rintro e w2 ⟨rfl, hb⟩
  replace HB := bthen HB hb
  clear hb h1 h2
  obtain ⟨⟨p0, p1, p2, p3⟩, ⟨f0, f1, f2, f3⟩, ⟨q0, q1, q2, q3⟩, ⟨g0, g1, g2, g3⟩, z0, z1⟩ := four2 HB
  go_wp2
  exact bodyPost_ret (v := Tn.val ⟨true, 1, 0, t.p⟩) (by simp [results, Try.results47, go_sem, q0, q1, q2, q3]) rfl ⟨rfl, by repeat (first | with_reducible exact Below.refl _ _ | with_reducible refine balloc ?_ _ | with_reducible refine bdrew ?_ | with_reducible refine bset' ?_ (by omega) _ | with_reducible refine bthen ?_ (by assumption))⟩

set_option maxHeartbeats 400000 in
theorem begin_d (l : List Rq) (a : Option Addr) (c : Nat) (t : Tn) (w : World) (hl : ReqsAt w a l) (n1 n2 : Int) (h1 : oldI false l = n1) (h2 : oldI true l = n2) (d1 : decide (0 ≤ n1) = true) (d2 : decide (0 ≤ n2) = true) (hs : t.s < 2) (hlo : -9223372036854775808 ≤ t.s) :
    Calls Try.prog 47 #[.slice a l.length c, t.val] w fun e w' => e = .returned (Tn.val ⟨false, 1, t.s + 1, t.p⟩) ∧ Below w.heap.size w w' := by
  go_enter Try.func47, Try.ntmps47
  go_wp2_with fail
  refine (oldest_eq l a c _ _ (hl.later (by repeat (first | with_reducible exact Below.refl _ _ | with_reducible refine balloc ?_ _ | with_reducible refine bdrew ?_ | with_reducible refine bset' ?_ (by omega) _ | with_reducible refine bthen ?_ (by assumption)))) n1 h1).mono ?_
  rintro e w1 ⟨rfl, HB⟩
  go_wp2_with fail
  refine (oldest_eq l a c _ _ (hl.later (by repeat (first | with_reducible exact Below.refl _ _ | with_reducible refine balloc ?_ _ | with_reducible refine bdrew ?_ | with_reducible refine bset' ?_ (by omega) _ | with_reducible refine bthen ?_ (by assumption)))) n2 h2).mono ?_
  rintro e w2 ⟨rfl, hb⟩
  replace HB := bthen HB hb
  clear hb h1 h2
  obtain ⟨⟨p0, p1, p2, p3⟩, ⟨f0, f1, f2, f3⟩, ⟨q0, q1, q2, q3⟩, ⟨g0, g1, g2, g3⟩, z0, z1⟩ := four2 HB
  go_wp2
  exact bodyPost_ret (v := Tn.val ⟨false, 1, t.s + 1, t.p⟩) (by simp [results, Try.results47, go_sem, q0, q1, q2, q3]) rfl ⟨rfl, by repeat (first | with_reducible exact Below.refl _ _ | with_reducible refine balloc ?_ _ | with_reducible refine bdrew ?_ | with_reducible refine bset' ?_ (by omega) _ | with_reducible refine bthen ?_ (by assumption))⟩

end Go.Proofs.Ytfdmchhaiikeaaa
