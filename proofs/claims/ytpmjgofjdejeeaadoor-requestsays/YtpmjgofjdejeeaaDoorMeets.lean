/- Does a request meet one of those that wait: slices.IndexFunc, ContainsFunc over requests, Add's closure; slices.Clone of requests. -/
import Derived.Test.YtpmjgofjdejeeaaDoorTake
import Derived.Lib.SliceRun
namespace Go.Proofs.YtpmjgofjdejeeaaDoor
open Go.RowKit Go.BigFrame
attribute [local go_sem] Later.cell Later.frozen

theorem hidR {p : Prop} (h : p) : Hid p := h
/-- The first one that fits; -1: none. -/
def idxR (p : Rq → Bool) (l : List Rq) : Int := match l.findIdx? p with | some k => (k : Int) | none => -1
theorem idxR_found {p : Rq → Bool} {l : List Rq} {k : Nat} (h : k < l.length) (hp : p l[k] = true) (hb : ∀ j (hj : j < k), p (l[j]'(by omega)) = false) : idxR p l = k := by
  have : l.findIdx? p = some k := by
    rw [List.findIdx?_eq_some_iff_getElem]
    exact ⟨h, hp, fun j hj => by rw [hb j hj]; exact Bool.false_ne_true⟩
  rw [idxR, this]
theorem idxR_none {p : Rq → Bool} {l : List Rq} (h : ∀ j (hj : j < l.length), p l[j] = false) : idxR p l = -1 := by
  have : l.findIdx? p = none := by
    rw [List.findIdx?_eq_none_iff]
    intro x hx
    obtain ⟨j, hj, rfl⟩ := List.getElem_of_mem hx
    exact h j hj
  rw [idxR, this]
theorem idxR_any (p : Rq → Bool) (l : List Rq) : decide (0 ≤ idxR p l) = l.any p := by
  cases e : l.findIdx? p with
  | none =>
    rw [idxR, e]
    rw [List.findIdx?_eq_none_iff] at e
    have : l.any p = false := by rw [List.any_eq_false]; intro x hx; rw [e x hx]; exact Bool.false_ne_true
    rw [this]; rfl
  | some k =>
    rw [idxR, e]
    rw [List.findIdx?_eq_some_iff_getElem] at e
    obtain ⟨h1, h2, _⟩ := e
    have : l.any p = true := by rw [List.any_eq_true]; exact ⟨l[k], List.getElem_mem h1, h2⟩
    rw [this]; simp

/-- A list of requests of the call's own: it lies in new memory, that may be written. -/
structure NewReqs (base : Nat) (w : World) (a : Option Addr) (c : Nat) (l : List Rq) : Prop where
  here : ReqsAt w a l
  cap : l.length ≤ c
  capM : c ≤ 9223372036854775807
  nil : a = none → c = 0
  own : w.ownsRow base 35 6 (.slice a l.length c) l.length (rcells l)
theorem newR_of_owned {w : World} {base : Nat} {v : Value} {l : List Rq} {n : Nat} (h : w.ownsRow base 35 6 v n (rcells l)) (hat : ∀ r ∈ l, r.At w) (hn : n = l.length) (hb : l.length ≤ 9223372036854775807) :
    ∃ a c, v = .slice a l.length c ∧ NewReqs base w a c l := by
  have h' := h
  obtain ⟨a, c, rfl, h1, h2, h3, h4, _⟩ := reqs_of_owned h hat hn hb
  subst hn
  exact ⟨a, c, rfl, ⟨h1, h2, h3, h4, h'⟩⟩
theorem NewReqs.place {base : Nat} {w : World} {a : Option Addr} {c : Nat} {l : List Rq} (h : NewReqs base w a c l) (hl : l ≠ []) : ∃ b, a = some ⟨b, 0, none⟩ ∧ base ≤ b ∧ b < w.heap.size ∧ ∀ o, w.frozen? ⟨b, o, none⟩ = false := by
  rcases h.own.2 with ⟨h1, h2⟩ | ⟨g, cap, cur, h1, hg, hh, hnc, hcm, hcs, ht⟩
  · exact absurd (List.eq_nil_of_length_eq_zero h2) hl
  · simp only [Value.slice.injEq] at h1
    refine ⟨g, h1.1, hg, ?_, fun o => by simp [World.frozen?, hh]⟩
    rcases Nat.lt_or_ge g w.heap.size with h' | h'
    · exact h'
    · rw [Array.getElem?_eq_none h'] at hh; cases hh

theorem ReqsAt.rowAll' {w : World} {a : Option Addr} {c : Nat} {l : List Rq} (h : ReqsAt w a l) (hn : a = none → c = 0) : RowAt w 6 a l.length c (rcells l) := by
  rcases h.1 with rfl | ⟨b, o, rfl, hc⟩
  · cases a with
    | none => exact ⟨rfl, by simp [rcells], Or.inl ⟨rfl, rfl, hn rfl⟩⟩
    | some ad => exact ⟨rfl, by simp [rcells], Or.inr ⟨ad, rfl, fun j u h => by simp [rcells] at h⟩⟩
  · have := h.row (c := c) [] l [] (by simp)
    simpa using this

end Go.Proofs.YtpmjgofjdejeeaaDoor
