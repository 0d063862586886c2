/- Which sector: slices.IndexFunc, place, Get. -/
import Derived.Test.YtpmjgofjdejeeacBuf
namespace Go.Proofs.Ytpmjgofjdejeeac
open Go.RowKit Go.BigFrame
attribute [local go_sem] Later.cell Later.frozen

/-- The first one that fits; -1: none. -/
def idxB (p : Bf → Bool) (l : List Bf) : Int := match l.findIdx? p with | some k => (k : Int) | none => -1
theorem idx_found {p : Bf → Bool} {l : List Bf} {k : Nat} (h : k < l.length) (hp : p l[k] = true) (hb : ∀ j (hj : j < k), p (l[j]'(by omega)) = false) : idxB p l = k := by
  have : l.findIdx? p = some k := by
    rw [List.findIdx?_eq_some_iff_getElem]
    exact ⟨h, hp, fun j hj => by rw [hb j hj]; exact Bool.false_ne_true⟩
  rw [idxB, this]
theorem idx_none {p : Bf → Bool} {l : List Bf} (h : ∀ j (hj : j < l.length), p l[j] = false) : idxB p l = -1 := by
  have : l.findIdx? p = none := by
    rw [List.findIdx?_eq_none_iff]
    intro x hx
    obtain ⟨j, hj, rfl⟩ := List.getElem_of_mem hx
    exact h j hj
  rw [idxB, this]
theorem idx_spec (p : Bf → Bool) (l : List Bf) : (idxB p l = -1 ∧ ∀ j (hj : j < l.length), p l[j] = false) ∨ ∃ (k : Nat) (h : k < l.length), idxB p l = k ∧ p l[k] = true ∧ ∀ j (hj : j < k), p (l[j]'(by omega)) = false := by
  cases e : l.findIdx? p with
  | none =>
    left
    refine ⟨by rw [idxB, e], fun j hj => ?_⟩
    rw [List.findIdx?_eq_none_iff] at e
    exact e _ (List.getElem_mem hj)
  | some k =>
    right
    have e' := e
    rw [List.findIdx?_eq_some_iff_getElem] at e
    obtain ⟨h1, h2, h3⟩ := e
    refine ⟨k, h1, by rw [idxB, e'], h2, fun j hj => ?_⟩
    have := h3 j hj
    simpa using this

set_option maxHeartbeats 1000000 in
theorem indexB_any (g : Nat) (eg : ∀ args w, (callFunc g args).run Try.prog w = .ok (.enter g args) w) (cp : Value) (p : Bf → Bool) (l : List Bf) (a : Option Addr) (c : Nat) (w : World) (hl : BufsAt w a l)
    (hp : ∀ (x : Bf) w', Below w.heap.size w w' → Calls Try.prog g #[x.val, cp] w' fun e w'' => e = .returned (.bool (p x)) ∧ Below w'.heap.size w' w'') :
    Calls Try.prog 68 #[.slice a l.length c, .func (.func g) #[] #[cp]] w fun e w' => e = .returned (.int .i64 (idxB p l)) ∧ Below w.heap.size w w' := by
  have hb3 := hl.2
  rcases hl.form with rfl | ⟨b, o, rfl⟩
  · clear hp
    go_enter Try.func68, Try.ntmps68
    go_wp2
    go_loop [8] (fun i => i = .int .i64 0) (fun _ => 0)
    case atStart => rfl
    case round =>
      subst hrel
      go_wp2
      go_ret
      exact ⟨rfl, by repeat (first | with_reducible exact Below.refl _ _ | with_reducible refine balloc ?_ _ | with_reducible refine bdrew ?_ | with_reducible refine bset' ?_ (by omega) _ | with_reducible refine bthen ?_ (by assumption))⟩
  have HP : Hid (∀ (x : Bf) w', Below w.heap.size w w' → Calls Try.prog g #[x.val, cp] w' fun e w'' => e = .returned (.bool (p x)) ∧ Below w'.heap.size w' w'') := hp
  clear hp
  go_enter Try.func68, Try.ntmps68
  go_wp2
  go_loopw [8] (fun i wr => ∃ k : Nat, k ≤ l.length ∧ i = .int .i64 k ∧ (∀ j (hj : j < l.length), j < k → p l[j] = false) ∧ Below w.heap.size w wr) (fun i _ => l.length - (intOf i).toNat)
  case atStart => exact ⟨0, by omega, rfl, fun j hj h => absurd h (Nat.not_lt_zero _), Below.refl _ _⟩
  case round =>
    obtain ⟨k, hk, rfl, hno, HB⟩ := hrel
    have HN : Hid (∀ j (hj : j < l.length), j < k → p l[j] = false) := hno
    clear hno
    by_cases hlt : k < l.length
    · obtain ⟨c0, c1, c2, c3⟩ := (hl.later HB).cells hlt
      have hq := HP.out l[k] wr HB
      cases hpk : p l[k]
      · rw [hpk] at hq
        have HQ : Hid _ := hq
        clear hq
        go_wp2_with fail
        refine Calls.mono HQ.out ?_
        rintro e w1 ⟨rfl, hb⟩
        go_wp2
        go_roundw
        case rel => exact ⟨k + 1, by omega, by go_num, fun j hj h => by by_cases e : j = k; (subst e; exact hpk); exact HN.out j hj (by omega), bthen HB hb⟩
        case measure => simp [intOf]; omega
      · rw [hpk] at hq
        have HQ : Hid _ := hq
        clear hq
        go_wp2_with fail
        refine Calls.mono HQ.out ?_
        rintro e w1 ⟨rfl, hb⟩
        go_wp2
        go_ret
        exact ⟨ret_int (idx_found hlt hpk (fun j hj => HN.out j (by omega) hj)).symm, bthen HB hb⟩
    · go_wp2
      go_ret
      exact ⟨ret_int (idx_none (fun j hj => HN.out j hj (by omega))).symm, HB⟩

set_option maxHeartbeats 400000 in
theorem place1_any (x : Bf) (at' : Int) (pb po : Nat) (w : World) (hp : w.cell? ⟨pb, po, none⟩ = some (.int .i64 at')) :
    Calls Try.prog 78 #[x.val, .pointer (some ⟨pb, po, none⟩)] w fun e w' => e = .returned (.bool (x.pl == at')) ∧ Below w.heap.size w w' := by
  have hp' := allocB_cell hp
  go_enter Try.func78, Try.ntmps78
  go_wp2
  go_ret
  exact ⟨rfl, by repeat (first | with_reducible exact Below.refl _ _ | with_reducible refine balloc ?_ _ | with_reducible refine bdrew ?_ | with_reducible refine bset' ?_ (by omega) _ | with_reducible refine bthen ?_ (by assumption))⟩

def plB (at' : Int) (x : Bf) : Bool := x.pl == at'
set_option maxHeartbeats 400000 in
theorem place_any (l : List Bf) (a : Option Addr) (c : Nat) (at' : Int) (w : World) (hl : BufsAt w a l) :
    Calls Try.prog 64 #[.slice a l.length c, .int .i64 at'] w fun e w' => e = .returned (.int .i64 (idxB (plB at') l)) ∧ Below w.heap.size w w' := by
  go_enter Try.func64, Try.ntmps64
  go_wp2_with fail
  refine (indexB_any 78 (by intro args w; go_simp) (.pointer (some ⟨w.heap.size, 0, none⟩)) (plB at') l a c _ (hl.later (below1 _ _)) (fun x w' hb => place1_any x at' w.heap.size 0 w' (cellB_later' hb (by simp)))).mono ?_
  rintro e w1 ⟨rfl, HB⟩
  go_wp2
  go_ret
  exact ⟨rfl, by repeat (first | with_reducible exact Below.refl _ _ | with_reducible refine balloc ?_ _ | with_reducible refine bdrew ?_ | with_reducible refine bset' ?_ (by omega) _ | with_reducible refine bthen ?_ (by assumption))⟩
end Go.Proofs.Ytpmjgofjdejeeac
