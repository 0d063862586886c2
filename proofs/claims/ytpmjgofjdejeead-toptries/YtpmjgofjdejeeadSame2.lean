/- Two requests, two lists of requests: are they the same? -/
import Derived.Test.YtpmjgofjdejeeadSame
namespace Go.Proofs.Ytpmjgofjdejeead
open Go.RowKit Go.BigFrame
attribute [local go_sem] Later.cell Later.frozen

def sameB (r s : Rq) : Bool := (r.wr == s.wr) && ((r.f == s.f) && (r.m == s.m)) && (r.born == s.born) && eqS r.data s.data && eqN r.tags s.tags

set_option maxHeartbeats 1000000 in
theorem sameReq_core (r s : Rq) (w : World) (hr : r.At w) (hs : s.At w) (b1 b2 b6 b3 b4 b5 : Bool) (h1 : (r.wr == s.wr) = b1) (h2 : (r.f == s.f) = b2) (h6 : (r.m == s.m) = b6) (h3 : (r.born == s.born) = b3) (h4 : eqS r.data s.data = b4) (h5 : eqN r.tags s.tags = b5) :
    Calls Try.prog 14 #[r.val, s.val] w fun e w' => e = .returned (.bool (b1 && (b2 && b6) && b3 && b4 && b5)) ∧ Below w.heap.size w w' := by
  obtain ⟨wr, f, m, da, dc, data, ta, tc, tags, born⟩ := r
  obtain ⟨wr', f', m', da', dc', data', ta', tc', tags', born'⟩ := s
  obtain ⟨d1, t1, l1, l2, -, -, -⟩ := hr
  obtain ⟨d2, t2, -, -, -, -, -⟩ := hs
  simp only at h1 h2 h6 h3 h4 h5 d1 t1 d2 t2 l1 l2
  simp only [Rq.val]
  go_enter Try.func14, Try.ntmps14
  go_wp2_with fail
  refine (texts_any _ _ _ _ _ _ _ (d1.later (by repeat (first | with_reducible exact Below.refl _ _ | with_reducible refine balloc ?_ _ | with_reducible refine bdrew ?_ | with_reducible refine bset' ?_ (by omega) _ | with_reducible refine bthen ?_ (by assumption)))) (d2.later (by repeat (first | with_reducible exact Below.refl _ _ | with_reducible refine balloc ?_ _ | with_reducible refine bdrew ?_ | with_reducible refine bset' ?_ (by omega) _ | with_reducible refine bthen ?_ (by assumption)))) l1).mono ?_
  rintro e w1 ⟨rfl, HB⟩
  obtain ⟨hc, hf, hz⟩ := bcell HB
  go_wp2_with fail
  refine (numbers_any _ _ _ _ _ _ _ (t1.later (by repeat (first | with_reducible exact Below.refl _ _ | with_reducible refine balloc ?_ _ | with_reducible refine bdrew ?_ | with_reducible refine bset' ?_ (by omega) _ | with_reducible refine bthen ?_ (by assumption)))) (t2.later (by repeat (first | with_reducible exact Below.refl _ _ | with_reducible refine balloc ?_ _ | with_reducible refine bdrew ?_ | with_reducible refine bset' ?_ (by omega) _ | with_reducible refine bthen ?_ (by assumption)))) l2).mono ?_
  rintro e w1 ⟨rfl, hb⟩
  clear hc hf hz
  replace HB := bthen HB hb
  clear hb
  obtain ⟨hc, hf, hz⟩ := bcell HB
  rw [h5]
  clear h4 h5 d1 d2 t1 t2 l1 l2
  cases b1 <;> cases b2 <;> cases b6 <;> cases b3 <;> cases b4
  all_goals
    go_wp2
    go_ret
    exact ⟨rfl, by repeat (first | with_reducible exact Below.refl _ _ | with_reducible refine balloc ?_ _ | with_reducible refine bdrew ?_ | with_reducible refine bset' ?_ (by omega) _ | with_reducible refine bthen ?_ (by assumption))⟩

theorem sameReq_any (r s : Rq) (w : World) (hr : r.At w) (hs : s.At w) (b : Bool) (hb : sameB r s = b) :
    Calls Try.prog 14 #[r.val, s.val] w fun e w' => e = .returned (.bool b) ∧ Below w.heap.size w w' := by
  subst hb
  exact sameReq_core r s w hr hs _ _ _ _ _ _ rfl rfl rfl rfl rfl rfl

theorem Rq.At.of {w w' : World} {a : Option Addr} {l : List Rq} (h : ReqsAt w a l) {i : Nat} (hi : i < l.length) (hb : Below w.heap.size w w') : l[i].At w' := (h.2.1 _ (List.getElem_mem hi)).later hb

/-- Two lists of requests have the same. -/
def Sames (l l' : List Rq) : Prop := l.length = l'.length ∧ ∀ i (h : i < l.length) (h' : i < l'.length), sameB l[i] l'[i] = true

end Go.Proofs.Ytpmjgofjdejeead
