/- Oldest and From: which request, of those that fit, has the least of something; of package queue and of the document's answer. -/
import Derived.Test.YtfdmchhaiikeaaaGood
namespace Go.Proofs.Ytfdmchhaiikeaaa
open Go.RowKit Go.BigFrame
attribute [local go_sem] Later.cell Later.frozen

def rankAt (R : Rq → Int) (l : List Rq) (i : Nat) : Int := match l[i]? with | some r => R r | none => 0
def fitAt (F : Rq → Bool) (l : List Rq) (i : Nat) : Bool := match l[i]? with | some r => F r | none => false
/-- Of the first k: the first one of those that fit with the least rank; -1: none. -/
def leastI (F : Rq → Bool) (R : Rq → Int) (l : List Rq) : Nat → Int
  | 0 => -1
  | k + 1 => if fitAt F l k = true ∧ (leastI F R l k < 0 ∨ rankAt R l k < rankAt R l (leastI F R l k).toNat) then k else leastI F R l k

section
variable {F : Rq → Bool} {R : Rq → Int} {l : List Rq} {k j : Nat}
theorem fitAt_eq (h : k < l.length) : fitAt F l k = F l[k] := by simp [fitAt, h]
theorem rankAt_eq (h : k < l.length) : rankAt R l k = R l[k] := by simp [rankAt, h]
theorem least_no {B : Int} (h : k < l.length) (hF : F l[k] = false) (hB : leastI F R l k = B) : leastI F R l (k + 1) = B := by
  rw [leastI, fitAt_eq h, hF, if_neg (by simp), hB]
theorem least_first (h : k < l.length) (hF : F l[k] = true) (hB : leastI F R l k = -1) : leastI F R l (k + 1) = k := by
  rw [leastI, fitAt_eq h, hF, hB, if_pos (by simp)]
theorem least_lt (h : k < l.length) (hj : j < l.length) (hF : F l[k] = true) (hB : leastI F R l k = j) (hR : R l[k] < R l[j]) : leastI F R l (k + 1) = k := by
  rw [leastI, fitAt_eq h, hF, hB, rankAt_eq h, Int.toNat_natCast, rankAt_eq hj, if_pos ⟨rfl, Or.inr hR⟩]
theorem least_ge (h : k < l.length) (hj : j < l.length) (hF : F l[k] = true) (hB : leastI F R l k = j) (hR : ¬ R l[k] < R l[j]) : leastI F R l (k + 1) = j := by
  rw [leastI, fitAt_eq h, hF, hB, rankAt_eq h, Int.toNat_natCast, rankAt_eq hj, if_neg (by rintro ⟨_, h' | h'⟩; omega; exact hR h')]
end

def oldF (b : Bool) (r : Rq) : Bool := r.wr == b
def fromF (b : Bool) (at' : Int) (r : Rq) : Bool := (r.wr == b) && decide (at' ≤ r.f)

set_option maxHeartbeats 400000 in
theorem oldFit_any (r : Rq) (b : Bool) (pb po : Nat) (w : World) (hp : w.cell? ⟨pb, po, none⟩ = some (.bool b)) (ff : Bool) (hff : oldF b r = ff) :
    Calls Try.prog 41 #[r.val, .pointer (some ⟨pb, po, none⟩)] w fun e w' => e = .returned (.bool ff) ∧ Below w.heap.size w w' := by
  subst hff
  have hp' := alloc_cell hp
  go_enter Try.func41, Try.ntmps41
  go_wp2
  go_ret
  exact ⟨rfl, by repeat (first | with_reducible exact Below.refl _ _ | with_reducible refine balloc ?_ _ | with_reducible refine bdrew ?_ | with_reducible refine bset' ?_ (by omega) _ | with_reducible refine bthen ?_ (by assumption))⟩
set_option maxHeartbeats 400000 in
theorem oldRank_any (r : Rq) (w : World) :
    Calls Try.prog 43 #[r.val] w fun e w' => e = .returned (.int .i64 r.born) ∧ Below w.heap.size w w' := by
  go_enter Try.func43, Try.ntmps43
  go_wp2
  go_ret
  exact ⟨rfl, by repeat (first | with_reducible exact Below.refl _ _ | with_reducible refine balloc ?_ _ | with_reducible refine bdrew ?_ | with_reducible refine bset' ?_ (by omega) _ | with_reducible refine bthen ?_ (by assumption))⟩
set_option maxHeartbeats 400000 in
theorem fromFit_any (r : Rq) (b : Bool) (a : Int) (pb po qb qo : Nat) (w : World) (hp : w.cell? ⟨pb, po, none⟩ = some (.bool b)) (hq : w.cell? ⟨qb, qo, none⟩ = some (.int .i64 a)) (ff : Bool) (hff : fromF b a r = ff) :
    Calls Try.prog 44 #[r.val, .pointer (some ⟨pb, po, none⟩), .pointer (some ⟨qb, qo, none⟩)] w fun e w' => e = .returned (.bool ff) ∧ Below w.heap.size w w' := by
  subst hff
  have hp' := alloc_cell hp
  have hq' := alloc_cell hq
  cases hb : (r.wr == b)
  · go_enter Try.func44, Try.ntmps44
    go_wp2
    go_ret
    exact ⟨ret_bool (by rw [fromF, hb]; rfl), by repeat (first | with_reducible exact Below.refl _ _ | with_reducible refine balloc ?_ _ | with_reducible refine bdrew ?_ | with_reducible refine bset' ?_ (by omega) _ | with_reducible refine bthen ?_ (by assumption))⟩
  · go_enter Try.func44, Try.ntmps44
    go_wp2
    go_ret
    exact ⟨ret_bool (by rw [fromF, hb]; rfl), by repeat (first | with_reducible exact Below.refl _ _ | with_reducible refine balloc ?_ _ | with_reducible refine bdrew ?_ | with_reducible refine bset' ?_ (by omega) _ | with_reducible refine bthen ?_ (by assumption))⟩
set_option maxHeartbeats 400000 in
theorem fromRank_any (r : Rq) (w : World) :
    Calls Try.prog 45 #[r.val] w fun e w' => e = .returned (.int .i64 r.f) ∧ Below w.heap.size w w' := by
  go_enter Try.func45, Try.ntmps45
  go_wp2
  go_ret
  exact ⟨rfl, by repeat (first | with_reducible exact Below.refl _ _ | with_reducible refine balloc ?_ _ | with_reducible refine bdrew ?_ | with_reducible refine bset' ?_ (by omega) _ | with_reducible refine bthen ?_ (by assumption))⟩

end Go.Proofs.Ytfdmchhaiikeaaa
