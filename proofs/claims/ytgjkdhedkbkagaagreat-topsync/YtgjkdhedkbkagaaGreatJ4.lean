/- ReqFault of any request; GoodReqs: each may be, and no two have a sector in common. -/
import Derived.Test.YtgjkdhedkbkagaaGreatJ2
import Derived.Test.YtgjkdhedkbkagaaGreatJ3
namespace Go.Proofs.YtgjkdhedkbkagaaGreat
open Go.RowKit Go.BigFrame
set_option maxRecDepth 100000
attribute [local go_sem] Later.cell Later.frozen

def shapeB (r : Rq) : Bool := if r.wr then decide ((r.data.length : Int) = r.m) else decide (r.data.length = 0)
def faultR (r : Rq) : Int :=
  if okB r.f r.m 4 = false then 1 else if shapeB r = false then 3 else if r.tags.length < 1 ∨ 4 < r.tags.length then 3 else if r.born < 0 ∨ 1000000000 < r.born then 1 else faultB (small4 r)

/-- A request that may be. -/
def goodR (r : Rq) : Bool := decide (faultR r = 0)
structure Good (r : Rq) : Prop where
  ok : okB r.f r.m 4 = true
  shape : shapeB r = true
  t1 : 1 ≤ r.tags.length
  t4 : r.tags.length ≤ 4
  b0 : 0 ≤ r.born
  b1 : r.born ≤ 1000000000
  small : small4 r = true
theorem good_iff (r : Rq) : faultR r = 0 ↔ Good r := by
  unfold faultR
  constructor
  · intro h
    split at h
    · cases h
    split at h
    · cases h
    split at h
    · cases h
    split at h
    · cases h
    rename_i h1 h2 h3 h4
    have h5 : small4 r = true := by
      cases e : small4 r
      · rw [e] at h; cases h
      · rfl
    exact ⟨by simpa using h1, by simpa using h2, by omega, by omega, by omega, by omega, h5⟩
  · intro ⟨h1, h2, h3, h4, h5, h6, h7⟩
    rw [if_neg (by simp [h1]), if_neg (by simp [h2]), if_neg (by omega), if_neg (by omega), h7]; rfl
theorem ok4_32 {f m : Int} (h : okB f m 4 = true) : okB f m 32 = true := by
  simp only [okB, decide_eq_true_eq] at *; omega

def goodAt (l : List Rq) (i : Nat) : Bool := match l[i]? with | some r => goodR r | none => true
def pairB (l : List Rq) (i j : Nat) : Bool := match l[i]?, l[j]? with | some r, some s => !meetB r.f r.m s.f s.m | _, _ => true
def rowB (l : List Rq) (i : Nat) : Bool := goodAt l i && (List.range i).all (pairB l i)
def goodsB (l : List Rq) : Bool := (List.range l.length).all (rowB l)

/-- Each may be, and no two have a sector in common. -/
structure Goods (l : List Rq) : Prop where
  good : ∀ i (h : i < l.length), Good l[i]
  apart : ∀ i j (hi : i < l.length) (hj : j < i), meetB l[i].f l[i].m (l[j]'(by omega)).f (l[j]'(by omega)).m = false
end Go.Proofs.YtgjkdhedkbkagaaGreat
