/- A device: End of any request; two devices at once; what a sector has behind it. -/
import Derived.Test.YtgjkdhedkbkagaaGreatJ10
import Derived.Test.YtgjkdhedkbkagaaGreatJ9
import Derived.Test.YtgjkdhedkbkagaaGreatJ4
namespace Go.Proofs.YtgjkdhedkbkagaaGreat
open Go.RowKit Go.BigFrame
set_option maxRecDepth 100000
attribute [local go_sem] Later.cell Later.frozen

theorem end_any (b : Nat) (d : Dl) (a : An) (k : Nat) (hk : k < d.busy.length) (w : World) (h : DevAt b d a w) (gr : Good d.busy[k]) :
    Calls Tryz.prog 82 #[.pointer (some ⟨b, 0, none⟩), .int .i64 k, .bool false] w fun e w' => ∃ a' xa xc xs, e = .returned (.tuple #[resV d.busy[k] xa (List.length xs) xc 0, .nilIface]) ∧ Hid (xs = didRead d d.busy[k]) ∧ StrsAt w' xa xs ∧ (∀ ad, xa = some ad → w.heap.size ≤ ad.block ∧ ¬ a'.foot b ad.block) ∧ DStep b d a (({ d with busy := d.busy.eraseIdx k } : Dl).did d.busy[k]) a' w w' := by
  by_cases hw : d.busy[k].wr = true
  · refine (end_write b d a k hk w h gr hw).mono ?_
    rintro e w' ⟨a', rfl, hs⟩
    refine ⟨a', none, 0, [], rfl, by show _ = _; rw [didRead, if_pos hw], Or.inl rfl, by simp, ?_⟩
    rw [Dl.did, if_pos hw]; exact hs
  · have hw' : d.busy[k].wr = false := by simpa using hw
    refine (end_read b d a k hk w h gr hw').mono ?_
    rintro e w' ⟨a', xa, xc, rfl, h1, h2, h3, hs⟩
    refine ⟨a', xa, xc, _, rfl, by show _ = _; rw [didRead, if_neg hw], h1, h3, ?_⟩
    rw [Dl.did, if_neg hw]; exact hs

theorem end_at (b : Nat) (d : Dl) (a : An) (l : List Rq) (k : Nat) (r : Rq) (hb : d.busy = l) (hk : l[k]? = some r) (w : World) (h : DevAt b d a w) (gr : Good r) :
    Calls Tryz.prog 82 #[.pointer (some ⟨b, 0, none⟩), .int .i64 k, .bool false] w fun e w' => ∃ a' xa xc xs, e = .returned (.tuple #[resV r xa (List.length xs) xc 0, .nilIface]) ∧ Hid (xs = didRead d r) ∧ StrsAt w' xa xs ∧ (∀ ad, xa = some ad → w.heap.size ≤ ad.block ∧ ¬ a'.foot b ad.block) ∧ DStep b d a (({ d with busy := l.eraseIdx k } : Dl).did r) a' w w' := by
  subst hb
  obtain ⟨hk', rfl⟩ := List.getElem?_eq_some_iff.1 hk
  exact end_any b d a k hk' w h gr
/-- What a sector has. -/
def Dl.has (d : Dl) (p : Nat) : ByteArray := d.now.getD p ByteArray.empty
theorem write_has (d : Dl) (q : Nat) (s : ByteArray) (p : Nat) (hq : q < d.now.length) : (d.write q s).has p = if p = q then s else d.has p := by
  unfold Dl.has Dl.write
  simp only [List.getD_eq_getElem?_getD, List.getElem?_set]
  by_cases e : q = p
  · subst e; simp [hq]
  · rw [if_neg e, if_neg (fun h => e h.symm)]
theorem write_len (d : Dl) (q : Nat) (s : ByteArray) : (d.write q s).now.length = d.now.length := by simp [Dl.write]
theorem writesTo_len (d : Dl) (r : Rq) (n : Nat) : (d.writesTo r n).now.length = d.now.length := by
  induction n with
  | zero => rfl
  | succ n ih => rw [Dl.writesTo_succ, write_len, ih]
theorem writesTo_has (d : Dl) (r : Rq) (n p : Nat) (h : r.f.toNat + n ≤ d.now.length) : (d.writesTo r n).has p = if r.f.toNat ≤ p ∧ p < r.f.toNat + n then r.data.getD (p - r.f.toNat) ByteArray.empty else d.has p := by
  induction n with
  | zero => rw [if_neg (by omega)]; rfl
  | succ n ih =>
    rw [Dl.writesTo_succ, write_has _ _ _ _ (by rw [writesTo_len]; omega), ih (by omega)]
    by_cases e : p = r.f.toNat + n
    · subst e
      rw [if_pos rfl, if_pos (by omega)]
      congr 1; omega
    · rw [if_neg e]
      by_cases e2 : r.f.toNat ≤ p ∧ p < r.f.toNat + n
      · rw [if_pos e2, if_pos (by omega)]
      · rw [if_neg e2, if_neg (by omega)]
theorem did_has (d : Dl) (r : Rq) (p : Nat) (h : r.f.toNat + r.m.toNat ≤ d.now.length) : (d.did r).has p = if r.wr = true ∧ r.f.toNat ≤ p ∧ p < r.f.toNat + r.m.toNat then r.data.getD (p - r.f.toNat) ByteArray.empty else d.has p := by
  unfold Dl.did
  by_cases hw : r.wr = true
  · rw [if_pos hw, writesTo_has d r _ p h]; simp [hw]
  · rw [if_neg hw, if_neg (fun h => hw h.1)]
theorem did_len (d : Dl) (r : Rq) : (d.did r).now.length = d.now.length := by unfold Dl.did; split; exact writesTo_len _ _ _; rfl
/-- Two devices of a law's own. -/
structure Two (w : World) (bc : Nat) (dc : Dl) (ac : An) (bd : Nat) (dd : Dl) (ad : An) (wr : World) : Prop where
  c : DevAt bc dc ac wr
  d : DevAt bd dd ad wr
  apart : ∀ k, ac.foot bc k → ad.foot bd k → False
  fc : ∀ k, ac.foot bc k → w.heap.size ≤ k
  fd : ∀ k, ad.foot bd k → w.heap.size ≤ k
  rc : ∀ r ∈ dc.busy, r.At w
  rd : ∀ r ∈ dd.busy, r.At w
  bel : Below w.heap.size w wr
theorem Two.swap {w wr : World} {bc bd : Nat} {dc dd : Dl} {ac ad : An} (h : Two w bc dc ac bd dd ad wr) : Two w bd dd ad bc dc ac wr := ⟨h.d, h.c, fun k h1 h2 => h.apart k h2 h1, h.fd, h.fc, h.rd, h.rc, h.bel⟩
theorem Two.later {w wr wr' : World} {bc bd : Nat} {dc dd : Dl} {ac ad : An} (h : Two w bc dc ac bd dd ad wr) (hb : Below wr.heap.size wr wr') : Two w bc dc ac bd dd ad wr' := ⟨h.c.later hb, h.d.later hb, h.apart, h.fc, h.fd, h.rc, h.rd, bthen h.bel hb⟩
end Go.Proofs.YtgjkdhedkbkagaaGreat
/- What a crash keeps, write by write; a device of a law's own beside a row of texts. -/
namespace Go.Proofs.YtgjkdhedkbkagaaGreat
open Go.RowKit Go.BigFrame
set_option maxRecDepth 100000
attribute [local go_sem] Later.cell Later.frozen

theorem applyW_cons (kp : Int) (x : Wn) (l : List Wn) (G : List ByteArray) : applyW kp (x :: l) G = applyW kp l (if bitOn kp x.bit = true then G.set x.pl x.data else G) := rfl
/-- What a crash leaves. -/
def Dl.after (d : Dl) (kp : Int) : List ByteArray := applyW kp d.wr d.good
theorem writesTo_good (d : Dl) (r : Rq) (n : Nat) : (d.writesTo r n).good = d.good := by
  induction n with
  | zero => rfl
  | succ n ih => rw [Dl.writesTo_succ]; exact ih
/-- A device of a law's own, that has no request, and a row of texts beside it. -/
structure Ph (w : World) (b q : Nat) (d : Dl) (a : An) (l : List ByteArray) (wr : World) : Prop where
  dev : DevAt b d a wr
  idle : d.busy = []
  foot : ∀ k, a.foot b k → w.heap.size ≤ k ∧ k ≠ q
  want : wr.heap[q]? = some (.cells (strV l).toArray 46 (0, 0))
  len : l.length = 32
  qb : w.heap.size ≤ q
  bel : Below w.heap.size w wr
theorem Ph.step {w wr wr' : World} {b q : Nat} {d d' : Dl} {a a' : An} {l : List ByteArray} (h : Ph w b q d a l wr) (hs : DStep b d a d' a' wr wr') (hn : d'.busy = []) : Ph w b q d' a' l wr' where
  dev := hs.dev
  idle := hn
  foot := fun k hk => (hs.foot k hk).elim (h.foot k) (fun h' => ⟨Nat.le_trans h.bel.size h', fun e => by have := lt_of_heap h.want; omega⟩)
  want := by rw [hs.only.block q (lt_of_heap h.want) (fun e => (h.foot q e).2 rfl)]; exact h.want
  len := h.len
  qb := h.qb
  bel := h.bel.trans (hs.only.below h.bel.size (fun k hk => (h.foot k hk).1))
theorem Ph.later {w wr wr' : World} {b q : Nat} {d : Dl} {a : An} {l : List ByteArray} (h : Ph w b q d a l wr) (hb : Below wr.heap.size wr wr') : Ph w b q d a l wr' := h.step (DStep.same h.dev hb) h.idle
theorem strV_set (l : List ByteArray) (p : Nat) (s : ByteArray) : (strV l).set p (.string s) = strV (l.set p s) := by simp [strV, List.map_set]
theorem Ph.set {w wr : World} {b q : Nat} {d : Dl} {a : An} {l : List ByteArray} (h : Ph w b q d a l wr) (p : Nat) (s : ByteArray) : Ph w b q d a (l.set p s) (wr.setCell ⟨q, p, none⟩ (.string s)) where
  dev := h.dev.frame (Only.of_set _) (fun k hk e => (h.foot k hk).2 e) (fun r hr => by rw [h.idle] at hr; cases hr)
  idle := h.idle
  foot := h.foot
  want := by rw [set_same h.want, strV_set]
  len := by simpa using h.len
  qb := h.qb
  bel := h.bel.setCell h.qb _
theorem Ph.cell {w wr : World} {b q : Nat} {d : Dl} {a : An} {l : List ByteArray} (h : Ph w b q d a l wr) {p : Nat} (hp : p < 32) : wr.cell? ⟨q, p, none⟩ = some (.string (l.getD p ByteArray.empty)) ∧ wr.frozen? ⟨q, p, none⟩ = false ∧ q < wr.heap.size := by
  refine ⟨?_, frozen_of_heap h.want p, lt_of_heap h.want⟩
  rw [cell_of_heap h.want]
  simp [strV, List.getElem?_eq_getElem (show p < l.length by rw [h.len]; exact hp)]
end Go.Proofs.YtgjkdhedkbkagaaGreat
/- Oldest and From: which request, of those that fit, has the least of something; of package queue and of the document's answer. -/
namespace Go.Proofs.YtgjkdhedkbkagaaGreat
open Go.RowKit Go.BigFrame
set_option maxRecDepth 100000
attribute [local go_sem] Later.cell Later.frozen

def rankAt (R : Rq → Int) (l : List Rq) (i : Nat) : Int := match l[i]? with | some r => R r | none => 0
def fitAt (F : Rq → Bool) (l : List Rq) (i : Nat) : Bool := match l[i]? with | some r => F r | none => false
/-- Of the first k: the first one of those that fit with the least rank; -1: none. -/
def leastI (F : Rq → Bool) (R : Rq → Int) (l : List Rq) : Nat → Int
  | 0 => -1
  | k + 1 => if fitAt F l k = true ∧ (leastI F R l k < 0 ∨ rankAt R l k < rankAt R l (leastI F R l k).toNat) then k else leastI F R l k

section
variable {F : Rq → Bool} {R : Rq → Int} {l : List Rq} {k j : Nat}
theorem fitAt_eq (h : k < l.length) : fitAt F l k = F l[k] := by simp [fitAt, h]
theorem rankAt_eq (h : k < l.length) : rankAt R l k = R l[k] := by simp [rankAt, h]
theorem least_no {B : Int} (h : k < l.length) (hF : F l[k] = false) (hB : leastI F R l k = B) : leastI F R l (k + 1) = B := by
  rw [leastI, fitAt_eq h, hF, if_neg (by simp), hB]
theorem least_first (h : k < l.length) (hF : F l[k] = true) (hB : leastI F R l k = -1) : leastI F R l (k + 1) = k := by
  rw [leastI, fitAt_eq h, hF, hB, if_pos (by simp)]
theorem least_lt (h : k < l.length) (hj : j < l.length) (hF : F l[k] = true) (hB : leastI F R l k = j) (hR : R l[k] < R l[j]) : leastI F R l (k + 1) = k := by
  rw [leastI, fitAt_eq h, hF, hB, rankAt_eq h, Int.toNat_natCast, rankAt_eq hj, if_pos ⟨rfl, Or.inr hR⟩]
theorem least_ge (h : k < l.length) (hj : j < l.length) (hF : F l[k] = true) (hB : leastI F R l k = j) (hR : ¬ R l[k] < R l[j]) : leastI F R l (k + 1) = j := by
  rw [leastI, fitAt_eq h, hF, hB, rankAt_eq h, Int.toNat_natCast, rankAt_eq hj, if_neg (by rintro ⟨_, h' | h'⟩; omega; exact hR h')]
end

def oldF (b : Bool) (r : Rq) : Bool := r.wr == b
def fromF (b : Bool) (at' : Int) (r : Rq) : Bool := (r.wr == b) && decide (at' ≤ r.f)

set_option maxHeartbeats 400000 in
theorem oldFit_any (r : Rq) (b : Bool) (pb po : Nat) (w : World) (hp : w.cell? ⟨pb, po, none⟩ = some (.bool b)) (ff : Bool) (hff : oldF b r = ff) :
    Calls Tryz.prog 125 #[r.val, .pointer (some ⟨pb, po, none⟩)] w fun e w' => e = .returned (.bool ff) ∧ Below w.heap.size w w' := by
  subst hff
  have hp' := alloc_cell hp
  go_enter Tryz.func125, Tryz.ntmps125
  go_wp2
  go_ret
  exact ⟨rfl, by repeat (first | with_reducible exact Below.refl _ _ | with_reducible refine balloc ?_ _ | with_reducible refine bdrew ?_ | with_reducible refine bset' ?_ (by omega) _ | with_reducible refine bthen ?_ (by assumption))⟩
set_option maxHeartbeats 400000 in
theorem oldRank_any (r : Rq) (w : World) :
    Calls Tryz.prog 126 #[r.val] w fun e w' => e = .returned (.int .i64 r.born) ∧ Below w.heap.size w w' := by
  go_enter Tryz.func126, Tryz.ntmps126
  go_wp2
  go_ret
  exact ⟨rfl, by repeat (first | with_reducible exact Below.refl _ _ | with_reducible refine balloc ?_ _ | with_reducible refine bdrew ?_ | with_reducible refine bset' ?_ (by omega) _ | with_reducible refine bthen ?_ (by assumption))⟩
set_option maxHeartbeats 400000 in
theorem fromFit_any (r : Rq) (b : Bool) (a : Int) (pb po qb qo : Nat) (w : World) (hp : w.cell? ⟨pb, po, none⟩ = some (.bool b)) (hq : w.cell? ⟨qb, qo, none⟩ = some (.int .i64 a)) (ff : Bool) (hff : fromF b a r = ff) :
    Calls Tryz.prog 122 #[r.val, .pointer (some ⟨pb, po, none⟩), .pointer (some ⟨qb, qo, none⟩)] w fun e w' => e = .returned (.bool ff) ∧ Below w.heap.size w w' := by
  subst hff
  have hp' := alloc_cell hp
  have hq' := alloc_cell hq
  cases hb : (r.wr == b)
  · go_enter Tryz.func122, Tryz.ntmps122
    go_wp2
    go_ret
    exact ⟨ret_bool (by rw [fromF, hb]; rfl), by repeat (first | with_reducible exact Below.refl _ _ | with_reducible refine balloc ?_ _ | with_reducible refine bdrew ?_ | with_reducible refine bset' ?_ (by omega) _ | with_reducible refine bthen ?_ (by assumption))⟩
  · go_enter Tryz.func122, Tryz.ntmps122
    go_wp2
    go_ret
    exact ⟨ret_bool (by rw [fromF, hb]; rfl), by repeat (first | with_reducible exact Below.refl _ _ | with_reducible refine balloc ?_ _ | with_reducible refine bdrew ?_ | with_reducible refine bset' ?_ (by omega) _ | with_reducible refine bthen ?_ (by assumption))⟩
set_option maxHeartbeats 400000 in
theorem fromRank_any (r : Rq) (w : World) :
    Calls Tryz.prog 124 #[r.val] w fun e w' => e = .returned (.int .i64 r.f) ∧ Below w.heap.size w w' := by
  go_enter Tryz.func124, Tryz.ntmps124
  go_wp2
  go_ret
  exact ⟨rfl, by repeat (first | with_reducible exact Below.refl _ _ | with_reducible refine balloc ?_ _ | with_reducible refine bdrew ?_ | with_reducible refine bset' ?_ (by omega) _ | with_reducible refine bthen ?_ (by assumption))⟩

end Go.Proofs.YtgjkdhedkbkagaaGreat
