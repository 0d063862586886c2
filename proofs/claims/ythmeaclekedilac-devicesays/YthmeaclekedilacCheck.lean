/- request.Check: what is wrong with a request, as B1 says. -/
import Derived.Test.YthmeaclekedilacFault
namespace Go.Proofs.Ythmeaclekedilac
open Go.RowKit Go.BigFrame
attribute [local go_sem] Later.cell Later.frozen

def longB (s : ByteArray) : Bool := decide (4 < s.size)

set_option maxHeartbeats 400000 in
theorem tooLong_any (s : ByteArray) (w : World) (b : Bool) (hb : longB s = b) :
    Calls Try.prog 75 #[.string s] w fun e w' => e = .returned (.bool b) ∧ Below w.heap.size w w' := by
  subst hb
  go_enter Try.func75, Try.ntmps75
  go_wp2
  go_ret
  exact ⟨ret_bool (by simp only [longB]; rw [decide_eq_decide]; omega), by repeat (first | with_reducible exact Below.refl _ _ | with_reducible refine balloc ?_ _ | with_reducible refine bdrew ?_ | with_reducible refine bset' ?_ (by omega) _ | with_reducible refine bthen ?_ (by assumption))⟩

set_option maxHeartbeats 400000 in
theorem dataOf_any (r : Rq) (w : World) :
    Calls Try.prog 73 #[r.val] w fun e w' => e = .returned (.int .i64 (if r.wr = true then r.m else 0)) ∧ Below w.heap.size w w' := by
  obtain ⟨wr, f, m, da, dc, data, ta, tc, tags, born⟩ := r
  cases wr
  all_goals
    go_enter Try.func73, Try.ntmps73
    go_wp2
    go_ret
    exact ⟨rfl, by repeat (first | with_reducible exact Below.refl _ _ | with_reducible refine balloc ?_ _ | with_reducible refine bdrew ?_ | with_reducible refine bset' ?_ (by omega) _ | with_reducible refine bthen ?_ (by assumption))⟩

set_option maxHeartbeats 1000000 in
theorem indexS_any (xs : List ByteArray) (a : Option Addr) (c : Nat) (w : World) (hx : StrsAt w a xs) (hl : xs.length ≤ 9223372036854775807) :
    Calls Try.prog 84 #[.slice a xs.length c, .func (.func 75) #[] #[]] w fun e w' => ∃ n : Int, e = .returned (.int .i64 n) ∧ decide (0 ≤ n) = xs.any longB ∧ Below w.heap.size w w' := by
  rcases hx with rfl | ⟨b, o, rfl, hc⟩
  · go_enter Try.func84, Try.ntmps84
    go_wp2
    go_loop [8] (fun i => i = .int .i64 0) (fun _ => 0)
    case atStart => rfl
    case round =>
      subst hrel
      go_wp2
      go_ret
      exact ⟨-1, rfl, by first | rfl | decide, Below.refl _ _⟩
  go_enter Try.func84, Try.ntmps84
  go_wp2
  go_loopw [8] (fun i wr => ∃ k : Nat, k ≤ xs.length ∧ i = .int .i64 k ∧ (xs.take k).any longB = false ∧ Below w.heap.size w wr) (fun i _ => xs.length - (intOf i).toNat)
  case atStart => exact ⟨0, by omega, rfl, by simp, Below.refl _ _⟩
  case round =>
    obtain ⟨k, hk, rfl, hno, HB⟩ := hrel
    have HN : Hid ((xs.take k).any longB = false) := hno
    clear hno
    by_cases hlt : k < xs.length
    · have c0 := cell_later' HB (hc k hlt)
      have hgd : xs.getD k ByteArray.empty = xs[k] := by simp [hlt]
      rw [hgd] at c0
      clear hgd hc
      have l0 := lt_of_cell c0
      have i0 : decide ((k : Int) < 0) = false := decide_eq_false (by omega)
      have i1 : decide ((xs.length : Int) ≤ (k : Int)) = false := decide_eq_false (by omega)
      have i1' : decide (xs.length ≤ k) = false := decide_eq_false (by omega)
      cases hlb : longB xs[k]
      · go_wp2_with fail
        refine (tooLong_any _ _ _ hlb).mono ?_
        rintro e w1 ⟨rfl, hb⟩
        replace HB := bthen HB hb
        clear hb
        go_wp2
        go_roundw
        case rel => exact ⟨k + 1, by omega, by go_num, by rw [List.take_add_one, List.getElem?_eq_getElem hlt, List.any_append, HN.out]; simp [hlb], HB⟩
        case measure => simp [intOf]; omega
      · go_wp2_with fail
        refine (tooLong_any _ _ _ hlb).mono ?_
        rintro e w1 ⟨rfl, hb⟩
        replace HB := bthen HB hb
        clear hb
        go_wp2
        go_ret
        exact ⟨k, rfl, by rw [List.any_eq_true.2 ⟨xs[k], List.getElem_mem _, hlb⟩]; exact decide_eq_true (by omega), by repeat (first | with_reducible exact Below.refl _ _ | with_reducible refine balloc ?_ _ | with_reducible refine bdrew ?_ | with_reducible refine bset' ?_ (by omega) _ | with_reducible refine bthen ?_ (by assumption))⟩
    · have hkl : k = xs.length := by omega
      have HN2 : Hid (xs.any longB = false) := by have := HN.out; rw [hkl, List.take_length] at this; exact this
      subst hkl
      go_wp2
      go_ret
      exact ⟨-1, rfl, by rw [HN2.out]; rfl, by repeat (first | with_reducible exact Below.refl _ _ | with_reducible refine balloc ?_ _ | with_reducible refine bdrew ?_ | with_reducible refine bset' ?_ (by omega) _ | with_reducible refine bthen ?_ (by assumption))⟩

set_option maxHeartbeats 400000 in
theorem containsS_any (xs : List ByteArray) (a : Option Addr) (c : Nat) (w : World) (hx : StrsAt w a xs) (hl : xs.length ≤ 9223372036854775807) (b : Bool) (hb : xs.any longB = b) :
    Calls Try.prog 74 #[.slice a xs.length c, .func (.func 75) #[] #[]] w fun e w' => e = .returned (.bool b) ∧ Below w.heap.size w w' := by
  go_enter Try.func74, Try.ntmps74
  go_wp2_with fail
  refine (indexS_any xs a c _ hx hl).mono ?_
  rintro e w1 ⟨n, rfl, hn, HB⟩
  rw [hb] at hn
  clear hb
  go_wp2
  go_ret
  exact ⟨rfl, by repeat (first | with_reducible exact Below.refl _ _ | with_reducible refine balloc ?_ _ | with_reducible refine bdrew ?_ | with_reducible refine bset' ?_ (by omega) _ | with_reducible refine bthen ?_ (by assumption))⟩
end Go.Proofs.Ythmeaclekedilac
