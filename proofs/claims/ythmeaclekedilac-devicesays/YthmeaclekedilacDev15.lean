/- What a crash keeps, write by write; a device of a law's own beside a row of texts. -/
import Derived.Test.YthmeaclekedilacDev14
import Derived.Test.YthmeaclekedilacDev12
namespace Go.Proofs.Ythmeaclekedilac
open Go.RowKit Go.BigFrame
attribute [local go_sem] Later.cell Later.frozen

theorem applyW_cons (kp : Int) (x : Wn) (l : List Wn) (G : List ByteArray) : applyW kp (x :: l) G = applyW kp l (if bitOn kp x.bit = true then G.set x.pl x.data else G) := rfl
theorem keepW_cons (p n : Nat) (x : Wn) (l : List Wn) : keepW p n (x :: l) = if hidB p n x = true then keepW p n l else x :: keepW p n l := by
  unfold keepW
  rw [List.filter_cons]
  cases hidB p n x <;> simp
theorem hid_is {p n : Nat} {x : Wn} (h : hidB p n x = true) : x.pl = p ∧ x.bit = n := by simpa [hidB] using h
theorem apply_off (kp : Int) (p n : Nat) (h : bitOn kp n = false) (l : List Wn) : ∀ G, applyW kp (keepW p n l) G = applyW kp l G := by
  induction l with
  | nil => intro G; rfl
  | cons x l ih =>
    intro G
    rw [keepW_cons]
    by_cases e : hidB p n x = true
    · rw [if_pos e, ih, applyW_cons, (hid_is e).2, h]; rfl
    · rw [if_neg e, applyW_cons, applyW_cons, ih]
theorem apply_on (kp : Int) (p n : Nat) (s : ByteArray) (l : List Wn) : ∀ G H : List ByteArray, G.set p s = H.set p s → (applyW kp (keepW p n l) G).set p s = (applyW kp l H).set p s := by
  induction l with
  | nil => intro G H h; exact h
  | cons x l ih =>
    intro G H h
    rw [keepW_cons]
    by_cases e : hidB p n x = true
    · rw [if_pos e, applyW_cons]
      refine ih _ _ ?_
      by_cases hb : bitOn kp x.bit = true
      · rw [if_pos hb, (hid_is e).1, List.set_set]; exact h
      · rw [if_neg hb]; exact h
    · rw [if_neg e, applyW_cons, applyW_cons]
      refine ih _ _ ?_
      by_cases hb : bitOn kp x.bit = true
      · rw [if_pos hb, if_pos hb]
        by_cases hq : x.pl = p
        · rw [hq, List.set_set, List.set_set]; exact h
        · rw [List.set_comm _ _ hq, List.set_comm _ _ hq, h]
      · rw [if_neg hb, if_neg hb]; exact h
theorem apply_write (kp : Int) (p n : Nat) (s : ByteArray) (l : List Wn) (G : List ByteArray) : applyW kp (keepW p n l ++ [⟨p, s, n⟩]) G = if bitOn kp n = true then (applyW kp l G).set p s else applyW kp l G := by
  rw [applyW_snoc]
  by_cases hb : bitOn kp n = true
  · rw [if_pos hb, if_pos hb]; exact apply_on kp p n s l G G rfl
  · rw [if_neg hb, if_neg hb]; exact apply_off kp p n (by simpa using hb) l G
/-- What a crash leaves. -/
def Dl.after (d : Dl) (kp : Int) : List ByteArray := applyW kp d.wr d.good
theorem after_write (d : Dl) (kp : Int) (p : Nat) (s : ByteArray) : (d.write p s).after kp = if bitOn kp d.next = true then (d.after kp).set p s else d.after kp := apply_write kp p d.next s d.wr d.good
theorem writesTo_next (d : Dl) (r : Rq) (n : Nat) (h : d.next < 64) : (d.writesTo r n).next = (d.next + n) % 64 := by
  induction n with
  | zero => show d.next = _; omega
  | succ n ih => rw [Dl.writesTo_succ]; show ((d.writesTo r n).next + 1) % 64 = _; rw [ih]; omega
theorem writesTo_after (d : Dl) (kp : Int) (r : Rq) (n : Nat) (h : d.next < 64) : (d.writesTo r (n + 1)).after kp = if bitOn kp ((d.next + n) % 64) = true then ((d.writesTo r n).after kp).set (r.f.toNat + n) (r.data.getD n ByteArray.empty) else (d.writesTo r n).after kp := by
  rw [Dl.writesTo_succ, after_write, writesTo_next d r n h]
theorem writesTo_good (d : Dl) (r : Rq) (n : Nat) : (d.writesTo r n).good = d.good := by
  induction n with
  | zero => rfl
  | succ n ih => rw [Dl.writesTo_succ]; exact ih
theorem after_length (d : Dl) (kp : Int) : (d.after kp).length = d.good.length := applyW_length kp d.wr d.good

/-- A device of a law's own, that has no request, and a row of texts beside it. -/
structure Ph (w : World) (b q : Nat) (d : Dl) (a : An) (l : List ByteArray) (wr : World) : Prop where
  dev : DevAt b d a wr
  idle : d.busy = []
  foot : ∀ k, a.foot b k → w.heap.size ≤ k ∧ k ≠ q
  want : wr.heap[q]? = some (.cells (strV l).toArray 28 (0, 0))
  len : l.length = 32
  qb : w.heap.size ≤ q
  bel : Below w.heap.size w wr
theorem Ph.step {w wr wr' : World} {b q : Nat} {d d' : Dl} {a a' : An} {l : List ByteArray} (h : Ph w b q d a l wr) (hs : DStep b d a d' a' wr wr') (hn : d'.busy = []) : Ph w b q d' a' l wr' where
  dev := hs.dev
  idle := hn
  foot := fun k hk => (hs.foot k hk).elim (h.foot k) (fun h' => ⟨Nat.le_trans h.bel.size h', fun e => by have := lt_of_heap h.want; omega⟩)
  want := by rw [hs.only.block q (lt_of_heap h.want) (fun e => (h.foot q e).2 rfl)]; exact h.want
  len := h.len
  qb := h.qb
  bel := h.bel.trans (hs.only.below h.bel.size (fun k hk => (h.foot k hk).1))
theorem Ph.later {w wr wr' : World} {b q : Nat} {d : Dl} {a : An} {l : List ByteArray} (h : Ph w b q d a l wr) (hb : Below wr.heap.size wr wr') : Ph w b q d a l wr' := h.step (DStep.same h.dev hb) h.idle
theorem strV_set (l : List ByteArray) (p : Nat) (s : ByteArray) : (strV l).set p (.string s) = strV (l.set p s) := by simp [strV, List.map_set]
theorem Ph.set {w wr : World} {b q : Nat} {d : Dl} {a : An} {l : List ByteArray} (h : Ph w b q d a l wr) (p : Nat) (s : ByteArray) : Ph w b q d a (l.set p s) (wr.setCell ⟨q, p, none⟩ (.string s)) where
  dev := h.dev.frame (Only.of_set _) (fun k hk e => (h.foot k hk).2 e) (fun r hr => by rw [h.idle] at hr; cases hr)
  idle := h.idle
  foot := h.foot
  want := by rw [set_same h.want, strV_set]
  len := by simpa using h.len
  qb := h.qb
  bel := h.bel.setCell h.qb _
theorem Ph.cell {w wr : World} {b q : Nat} {d : Dl} {a : An} {l : List ByteArray} (h : Ph w b q d a l wr) {p : Nat} (hp : p < 32) : wr.cell? ⟨q, p, none⟩ = some (.string (l.getD p ByteArray.empty)) ∧ wr.frozen? ⟨q, p, none⟩ = false ∧ q < wr.heap.size := by
  refine ⟨?_, frozen_of_heap h.want p, lt_of_heap h.want⟩
  rw [cell_of_heap h.want]
  simp [strV, List.getElem?_eq_getElem (show p < l.length by rw [h.len]; exact hp)]
end Go.Proofs.Ythmeaclekedilac
