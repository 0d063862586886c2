/- Two lists of texts, of numbers, two requests, two lists of requests: are they the same? -/
import Derived.Test.YtgjkdhedkbkagaaGreatJ1
namespace Go.Proofs.YtgjkdhedkbkagaaGreat
open Go.RowKit Go.BigFrame
set_option maxRecDepth 100000
attribute [local go_sem] Later.cell Later.frozen

theorem StrsAt.form {w : World} {a : Option Addr} {l : List ByteArray} (h : StrsAt w a l) : l = [] ∨ ∃ b o, a = some ⟨b, o, none⟩ := by
  rcases h with h | ⟨b, o, ha, _⟩
  · exact Or.inl h
  · exact Or.inr ⟨b, o, ha⟩
theorem IntsAt.form {w : World} {a : Option Addr} {l : List Int} (h : IntsAt w a l) : l = [] ∨ ∃ b o, a = some ⟨b, o, none⟩ := by
  rcases h with h | ⟨b, o, ha, _⟩
  · exact Or.inl h
  · exact Or.inr ⟨b, o, ha⟩
theorem StrsAt.at {w : World} {b o : Nat} {l : List ByteArray} (h : StrsAt w (some ⟨b, o, none⟩) l) {i : Nat} (hi : i < l.length) : w.cell? ⟨b, o + i, none⟩ = some (.string l[i]) := by
  rcases h with rfl | ⟨b', o', ha, hc⟩
  · exact absurd hi (Nat.not_lt_zero _)
  · simp only [Option.some.injEq, Addr.mk.injEq, and_true] at ha
    obtain ⟨rfl, rfl⟩ := ha
    simpa [List.getD, hi] using hc i hi
theorem IntsAt.at {w : World} {b o : Nat} {l : List Int} (h : IntsAt w (some ⟨b, o, none⟩) l) {i : Nat} (hi : i < l.length) : w.cell? ⟨b, o + i, none⟩ = some (.int .i64 l[i]) := by
  rcases h with rfl | ⟨b', o', ha, hc⟩
  · exact absurd hi (Nat.not_lt_zero _)
  · simp only [Option.some.injEq, Addr.mk.injEq, and_true] at ha
    obtain ⟨rfl, rfl⟩ := ha
    simpa [List.getD, hi] using hc i hi

theorem take_eq_step {α : Type} {xs ys : List α} {k : Nat} (h1 : k < xs.length) (h2 : k < ys.length) (h : xs.take k = ys.take k) (he : xs[k] = ys[k]) : xs.take (k + 1) = ys.take (k + 1) := by
  rw [List.take_succ_eq_append_getElem h1, List.take_succ_eq_append_getElem h2, h, he]
theorem ne_at {α : Type} {xs ys : List α} {k : Nat} (h1 : k < xs.length) (h2 : k < ys.length) (he : ¬ xs[k] = ys[k]) : ¬ xs = ys := by
  rintro rfl; exact he rfl
theorem take_eq_end {α : Type} {xs ys : List α} {k : Nat} (h1 : xs.length ≤ k) (h2 : ys.length ≤ k) (h : xs.take k = ys.take k) : xs = ys := by
  rwa [List.take_of_length_le h1, List.take_of_length_le h2] at h

theorem str_ne {s t : ByteArray} (h : ¬ s = t) : (s.toList == t.toList) = false := by
  rw [beq_eq_false_iff_ne]
  intro e
  apply h
  rw [ByteArray.toList_eq, ByteArray.toList_eq] at e
  have e' : s.data = t.data := by rw [← Array.toList_inj]; exact e
  cases s; cases t; simp_all
theorem str_eq {s t : ByteArray} (h : s = t) : (s.toList == t.toList) = true := by rw [h]; simp

def eqS (xs ys : List ByteArray) : Bool := decide (xs = ys)
def eqN (xs ys : List Int) : Bool := decide (xs = ys)

set_option maxHeartbeats 400000 in
theorem texts_short (xs ys : List ByteArray) (a a' : Option Addr) (c c' : Nat) (w : World) (hx : StrsAt w a xs) (hy : StrsAt w a' ys) (hl : xs.length ≤ 9223372036854775807) (he : ((xs.length : Int) != (ys.length : Int)) = false) :
    Calls Tryz.prog 25 #[.slice a xs.length c, .slice a' ys.length c'] w fun e w' => e = .returned (.bool (eqS xs ys)) ∧ Below w.heap.size w w' := by
  have hlen : xs.length = ys.length := by simp only [bne_eq_false_iff_eq] at he; omega
  have HE : Hid (xs.length = ys.length) := hlen
  rcases hx.form with rfl | ⟨b, o, rfl⟩
  · obtain rfl : ys = [] := List.eq_nil_of_length_eq_zero hlen.symm
    go_enter Tryz.func25, Tryz.ntmps25; go_wp2; go_loop [5] (fun i => i = .int .i64 0) (fun _ => 0); (case atStart => rfl); (case round => subst hrel; go_wp2; go_ret; exact ⟨rfl, by repeat (first | with_reducible exact Below.refl _ _ | with_reducible refine balloc ?_ _ | with_reducible refine bdrew ?_ | with_reducible refine bset' ?_ (by omega) _ | with_reducible refine bthen ?_ (by assumption))⟩)
  rcases hy.form with rfl | ⟨b', o', rfl⟩
  · obtain rfl : xs = [] := List.eq_nil_of_length_eq_zero hlen
    go_enter Tryz.func25, Tryz.ntmps25; go_wp2; go_loop [5] (fun i => i = .int .i64 0) (fun _ => 0); (case atStart => rfl); (case round => subst hrel; go_wp2; go_ret; exact ⟨rfl, by repeat (first | with_reducible exact Below.refl _ _ | with_reducible refine balloc ?_ _ | with_reducible refine bdrew ?_ | with_reducible refine bset' ?_ (by omega) _ | with_reducible refine bthen ?_ (by assumption))⟩)
  clear hlen
  go_enter Tryz.func25, Tryz.ntmps25
  go_wp2
  go_loopw [5] (fun i wr => ∃ k : Nat, k ≤ xs.length ∧ i = .int .i64 k ∧ xs.take k = ys.take k ∧ Below w.heap.size w wr) (fun i _ => xs.length - (intOf i).toNat)
  case atStart => exact ⟨0, by omega, rfl, by simp, Below.refl _ _⟩
  case round =>
    obtain ⟨k, hk, rfl, hall, HB⟩ := hrel
    have HL : Hid (xs.take k = ys.take k) := hall
    clear hall
    by_cases hlt : k < xs.length
    · have hlt' : k < ys.length := by have := HE.out; omega
      have c0 := hx.at hlt
      have c1 := hy.at hlt'
      have l0 := lt_of_cell c0
      have l1 := lt_of_cell c1
      by_cases hq : xs[k] = ys[k]
      · go_wp2_with fail
        refine wp_region_later (by first | exact HB | exact bdrew HB | exact Below.refl _ _) (by kernel_rfl) (by kernel_rfl) ?_
        repeat (go_big_quiet_step (exact rfl))
        refine wpQuiet_nil ?_; intro _ hw'; obtain ⟨p, hw''⟩ := hw'; subst hw''; (try clear hc hf hz); (try clear HB); have HB := p.below; obtain ⟨hc, hf, hz⟩ := bcell HB
        go_wp2
        go_roundw
        case rel => exact ⟨k + 1, by omega, by go_num, take_eq_step hlt hlt' HL.out hq, HB⟩
        case measure => simp [intOf]; omega
      · have hq' : (xs[k].toList == ys[k].toList) = false := str_ne hq
        go_wp2_with fail
        refine wp_region_later (by first | exact HB | exact bdrew HB | exact Below.refl _ _) (by kernel_rfl) (by kernel_rfl) ?_
        repeat (go_big_quiet_step (exact rfl))
        refine wpQuiet_nil ?_; intro _ hw'; obtain ⟨p, hw''⟩ := hw'; subst hw''; (try clear hc hf hz); (try clear HB); have HB := p.below; obtain ⟨hc, hf, hz⟩ := bcell HB
        go_wp2
        go_ret
        exact ⟨ret_bool (decide_eq_false (ne_at hlt hlt' hq)).symm, by repeat (first | with_reducible exact Below.refl _ _ | with_reducible refine balloc ?_ _ | with_reducible refine bdrew ?_ | with_reducible refine bset' ?_ (by omega) _ | with_reducible refine bthen ?_ (by assumption))⟩
    · go_wp2
      go_ret
      exact ⟨ret_bool (decide_eq_true (take_eq_end (by omega) (by have := HE.out; omega) HL.out)).symm, by repeat (first | with_reducible exact Below.refl _ _ | with_reducible refine balloc ?_ _ | with_reducible refine bdrew ?_ | with_reducible refine bset' ?_ (by omega) _ | with_reducible refine bthen ?_ (by assumption))⟩

set_option maxHeartbeats 400000 in
theorem texts_long (xs ys : List ByteArray) (a a' : Option Addr) (c c' : Nat) (w : World) (he : ((xs.length : Int) != (ys.length : Int)) = true) :
    Calls Tryz.prog 25 #[.slice a xs.length c, .slice a' ys.length c'] w fun e w' => e = .returned (.bool false) ∧ Below w.heap.size w w' := by
  go_enter Tryz.func25, Tryz.ntmps25
  go_wp2
  go_ret
  exact ⟨rfl, Below.refl _ _⟩

theorem texts_any (xs ys : List ByteArray) (a a' : Option Addr) (c c' : Nat) (w : World) (hx : StrsAt w a xs) (hy : StrsAt w a' ys) (hl : xs.length ≤ 9223372036854775807) :
    Calls Tryz.prog 25 #[.slice a xs.length c, .slice a' ys.length c'] w fun e w' => e = .returned (.bool (eqS xs ys)) ∧ Below w.heap.size w w' := by
  cases he : ((xs.length : Int) != (ys.length : Int))
  · exact texts_short xs ys a a' c c' w hx hy hl he
  · have : eqS xs ys = false := decide_eq_false (by rintro rfl; simp at he)
    rw [this]; exact texts_long xs ys a a' c c' w he

set_option maxHeartbeats 400000 in
theorem numbers_short (xs ys : List Int) (a a' : Option Addr) (c c' : Nat) (w : World) (hx : IntsAt w a xs) (hy : IntsAt w a' ys) (hl : xs.length ≤ 9223372036854775807) (he : ((xs.length : Int) != (ys.length : Int)) = false) :
    Calls Tryz.prog 81 #[.slice a xs.length c, .slice a' ys.length c'] w fun e w' => e = .returned (.bool (eqN xs ys)) ∧ Below w.heap.size w w' := by
  have hlen : xs.length = ys.length := by simp only [bne_eq_false_iff_eq] at he; omega
  have HE : Hid (xs.length = ys.length) := hlen
  rcases hx.form with rfl | ⟨b, o, rfl⟩
  · obtain rfl : ys = [] := List.eq_nil_of_length_eq_zero hlen.symm
    go_enter Tryz.func81, Tryz.ntmps81; go_wp2; go_loop [5] (fun i => i = .int .i64 0) (fun _ => 0); (case atStart => rfl); (case round => subst hrel; go_wp2; go_ret; exact ⟨rfl, by repeat (first | with_reducible exact Below.refl _ _ | with_reducible refine balloc ?_ _ | with_reducible refine bdrew ?_ | with_reducible refine bset' ?_ (by omega) _ | with_reducible refine bthen ?_ (by assumption))⟩)
  rcases hy.form with rfl | ⟨b', o', rfl⟩
  · obtain rfl : xs = [] := List.eq_nil_of_length_eq_zero hlen
    go_enter Tryz.func81, Tryz.ntmps81; go_wp2; go_loop [5] (fun i => i = .int .i64 0) (fun _ => 0); (case atStart => rfl); (case round => subst hrel; go_wp2; go_ret; exact ⟨rfl, by repeat (first | with_reducible exact Below.refl _ _ | with_reducible refine balloc ?_ _ | with_reducible refine bdrew ?_ | with_reducible refine bset' ?_ (by omega) _ | with_reducible refine bthen ?_ (by assumption))⟩)
  clear hlen
  go_enter Tryz.func81, Tryz.ntmps81
  go_wp2
  go_loopw [5] (fun i wr => ∃ k : Nat, k ≤ xs.length ∧ i = .int .i64 k ∧ xs.take k = ys.take k ∧ Below w.heap.size w wr) (fun i _ => xs.length - (intOf i).toNat)
  case atStart => exact ⟨0, by omega, rfl, by simp, Below.refl _ _⟩
  case round =>
    obtain ⟨k, hk, rfl, hall, HB⟩ := hrel
    have HL : Hid (xs.take k = ys.take k) := hall
    clear hall
    by_cases hlt : k < xs.length
    · have hlt' : k < ys.length := by have := HE.out; omega
      have c0 := hx.at hlt
      have c1 := hy.at hlt'
      have l0 := lt_of_cell c0
      have l1 := lt_of_cell c1
      by_cases hq : xs[k] = ys[k]
      · go_wp2_with fail
        refine wp_region_later (by first | exact HB | exact bdrew HB | exact Below.refl _ _) (by kernel_rfl) (by kernel_rfl) ?_
        repeat (go_big_quiet_step (exact rfl))
        refine wpQuiet_nil ?_; intro _ hw'; obtain ⟨p, hw''⟩ := hw'; subst hw''; (try clear hc hf hz); (try clear HB); have HB := p.below; obtain ⟨hc, hf, hz⟩ := bcell HB
        go_wp2
        go_roundw
        case rel => exact ⟨k + 1, by omega, by go_num, take_eq_step hlt hlt' HL.out hq, HB⟩
        case measure => simp [intOf]; omega
      · go_wp2_with fail
        refine wp_region_later (by first | exact HB | exact bdrew HB | exact Below.refl _ _) (by kernel_rfl) (by kernel_rfl) ?_
        repeat (go_big_quiet_step (exact rfl))
        refine wpQuiet_nil ?_; intro _ hw'; obtain ⟨p, hw''⟩ := hw'; subst hw''; (try clear hc hf hz); (try clear HB); have HB := p.below; obtain ⟨hc, hf, hz⟩ := bcell HB
        go_wp2
        go_ret
        exact ⟨ret_bool (decide_eq_false (ne_at hlt hlt' hq)).symm, by repeat (first | with_reducible exact Below.refl _ _ | with_reducible refine balloc ?_ _ | with_reducible refine bdrew ?_ | with_reducible refine bset' ?_ (by omega) _ | with_reducible refine bthen ?_ (by assumption))⟩
    · go_wp2
      go_ret
      exact ⟨ret_bool (decide_eq_true (take_eq_end (by omega) (by have := HE.out; omega) HL.out)).symm, by repeat (first | with_reducible exact Below.refl _ _ | with_reducible refine balloc ?_ _ | with_reducible refine bdrew ?_ | with_reducible refine bset' ?_ (by omega) _ | with_reducible refine bthen ?_ (by assumption))⟩

set_option maxHeartbeats 400000 in
theorem numbers_long (xs ys : List Int) (a a' : Option Addr) (c c' : Nat) (w : World) (he : ((xs.length : Int) != (ys.length : Int)) = true) :
    Calls Tryz.prog 81 #[.slice a xs.length c, .slice a' ys.length c'] w fun e w' => e = .returned (.bool false) ∧ Below w.heap.size w w' := by
  go_enter Tryz.func81, Tryz.ntmps81
  go_wp2
  go_ret
  exact ⟨rfl, Below.refl _ _⟩

theorem numbers_any (xs ys : List Int) (a a' : Option Addr) (c c' : Nat) (w : World) (hx : IntsAt w a xs) (hy : IntsAt w a' ys) (hl : xs.length ≤ 9223372036854775807) :
    Calls Tryz.prog 81 #[.slice a xs.length c, .slice a' ys.length c'] w fun e w' => e = .returned (.bool (eqN xs ys)) ∧ Below w.heap.size w w' := by
  cases he : ((xs.length : Int) != (ys.length : Int))
  · exact numbers_short xs ys a a' c c' w hx hy hl he
  · have : eqN xs ys = false := decide_eq_false (by rintro rfl; simp at he)
    rw [this]; exact numbers_long xs ys a a' c c' w he


end Go.Proofs.YtgjkdhedkbkagaaGreat
