/- queue.Add of a request that meets none of those that wait. -/
import Derived.Test.YtpmjgofjdejeeaaDoorAdd
import Derived.Deep.RegionLawGrows
namespace Go.Proofs.YtpmjgofjdejeeaaDoor
open Go.RowKit Go.BigFrame
attribute [local go_sem] Later.cell Later.frozen

/-- 'append(s, xs...)' onto a row of the call's own, as one step of a region that draws. -/
theorem step_append {P : Program} {ops : Array Oper} {o : Oper} {a : Act} {w : World} {K : Act → World → Prop} {Q : Exit → Act → World → Prop} {E : Prop}
    (hg : o.guard = none) (s x : Operand) (t : TypeId) (hop : o.op = Op.call { callee := Callee.builtin Builtin.append, args := #[s, x], argTypes := #[t, t] })
    (base : Nat) (e : TypeId) (i : TypeInfo) (z : Value) (size bytes : Nat) (ht : P.underlying t = some (.slice e)) (hi : P.info? e = some i) (hz : i.zero = some z)
    (hsize : i.size = size) (hby : i.bytes = bytes) (hzs : z.cells.size = size) (hsz : 0 < size)
    (v : Value) (n : Nat) (xs : List Value) (hs : a.eval s = v) (hown : w.ownsRow base e size v n xs)
    (ad : Option Addr) (m c : Nat) (news : List Value) (hx : a.eval x = .slice ad m c) (hrow : RowAt w size ad m c news)
    (h63 : n + m ≤ maxLen) (hbytes : (n + m) * bytes ≤ 140737488355328) (hbase : base ≤ w.heap.size)
    (h : ∀ v' w', w'.ownsRow base e size v' (n + m) (xs ++ news) → Below base w w' → K (a.put o.dst v') w') :
    if Region.wanted o (yielded ops a.tmps) = true then Oper.wp P o a w K Q else E := by
  have hw : Region.wanted o (yielded ops a.tmps) = true := by simp [Region.wanted, hg]
  rw [if_pos hw]
  obtain ⟨h1, h2, h3⟩ := hrow
  rcases h3 with ⟨rfl, rfl, rfl⟩ | ⟨ad', rfl, hc⟩
  · obtain rfl : news = [] := List.eq_nil_of_length_eq_zero (by rw [h1]; simp)
    have hr := run_append_owned_none (P := P) w base t o.type e i size ht hi v n xs hown
    unfold Oper.wp
    simp [execOp, hop, resolve, invoke, builtin, hs, hx, hr, Result.andThen]
    exact h v w (by simpa using hown) (Below.refl _ _)
  · obtain ⟨v', w', hrun, r1, r2, _⟩ := run_append_own (P := P) w base t o.type e i z size bytes ht hi hz hsize hby hzs hsz v n xs hown ad' m c news h1 hc h2 h63 hbytes hbase
    unfold Oper.wp
    simp [execOp, hop, resolve, invoke, builtin, hs, hx, hrun, Result.andThen]
    exact h v' w' r1 ((Below.refl _ _).grown r2 hbase fun k hk => (hown.lt k hk).1)
theorem ownA_later {w w' : World} {B e size n : Nat} {v : Value} {xs : List Value} (h : w.ownsRow B e size v n xs) (hb : Below w.heap.size w w') : w'.ownsRow B e size v n xs := by
  refine ⟨h.1, h.2.elim Or.inl ?_⟩
  rintro ⟨g, cap, cur, hv, hg, hh, r⟩
  refine Or.inr ⟨g, cap, cur, hv, hg, ?_, r⟩
  have : g < w.heap.size := by
    rcases Nat.lt_or_ge g w.heap.size with h' | h'
    · exact h'
    · rw [Array.getElem?_eq_none h'] at hh; cases hh
  rw [hb.block g this]; exact hh
theorem row_sixA {w : World} {b c : Nat} (q : Rq) (h : Six w b q) : RowAt w 6 (some ⟨b, 0, none⟩) 1 c (rcells [q]) := by
  refine ⟨rfl, rcells_one _, Or.inr ⟨_, rfl, fun k u hk => ?_⟩⟩
  obtain ⟨i, j, hi, hj, rfl, rfl⟩ := rcells_inv hk
  have : i = 0 := by simp at hi; exact hi
  subst this
  rw [add_mk']
  obtain ⟨h0, h1, h2, h3, h4, h5⟩ := h
  match j, hj with
  | 0, _ => exact h0
  | 1, _ => exact h1
  | 2, _ => exact h2
  | 3, _ => exact h3
  | 4, _ => exact h4
  | 5, _ => exact h5

theorem Six.belowB {w w' : World} {b B : Nat} {q : Rq} (h : Six w b q) (hb : Below B w w') (hl : b < B) : Six w' b q := by
  obtain ⟨h0, h1, h2, h3, h4, h5⟩ := h
  refine ⟨?_, ?_, ?_, ?_, ?_, ?_⟩ <;> (rw [hb.cell hl]; assumption)
/-- What waits then. -/
def Added (l : List Rq) (r : Rq) (L : List Rq) : Prop :=
  (∃ (k : Nat) (hk : k < l.length) (q : Rq), (∀ j (hj : j < l.length), j < k → togE l[j] r = false) ∧ togE l[k] r = true ∧ BothE l[k] r q ∧ L = l.set k q) ∨
  ((∀ j (hj : j < l.length), togE l[j] r = false) ∧ l.length < 6 ∧ L = l ++ [r])
def AddOut (l : List Rq) (r : Rq) (w' : World) (e : Ending) : Prop :=
  (∃ (L : List Rq) (a' : Option Addr) (c' : Nat), Added l r L ∧ e = .returned (.tuple #[.slice a' L.length c', .nilIface]) ∧ ReqsAt w' a' L ∧ L.length ≤ c' ∧ (a' = none → c' = 0)) ∨
  ((∀ j (hj : j < l.length), togE l[j] r = false) ∧ 6 ≤ l.length ∧ e = .returned (.tuple #[.slice none 0 0, .iface 23 (.int .i64 7)]))

end Go.Proofs.YtpmjgofjdejeeaaDoor
