/- A device: what is hidden goes out of the row of what was written: slices.IndexFunc, slices.DeleteFunc, with the closure of write. -/
import Derived.Test.YthmeaclekedilacDev3
import Derived.Deep.QuietTactic
import Derived.BigQuiet
namespace Go.Proofs.Ythmeaclekedilac
open Go.RowKit Go.BigFrame
attribute [local go_sem] Later.cell Later.frozen

def hidB (pl nx : Nat) (x : Wn) : Bool := x.pl == pl && x.bit == nx
/-- What the closure reads: the sector, the device, its next bit. -/
structure HidAt (pb pd b pl nx : Nat) (w : World) : Prop where
  c1 : w.cell? ⟨pb, 0, none⟩ = some (.int .i64 pl)
  c2 : w.cell? ⟨pd, 0, none⟩ = some (.pointer (some ⟨b, 0, none⟩))
  c3 : w.cell? ⟨b, 65, none⟩ = some (.int .i64 nx)
theorem HidAt.later {pb pd b pl nx : Nat} {w w' : World} (h : HidAt pb pd b pl nx w) (hb : Below w.heap.size w w') : HidAt pb pd b pl nx w' := ⟨cell_later' hb h.c1, cell_later' hb h.c2, cell_later' hb h.c3⟩
theorem HidAt.frame {F : Nat → Prop} {pb pd b pl nx : Nat} {w w' : World} (h : HidAt pb pd b pl nx w) (hk : Only F w w') (h1 : ¬ F pb) (h2 : ¬ F pd) (h3 : ¬ F b) : HidAt pb pd b pl nx w' :=
  ⟨by rw [hk.cell (p := ⟨pb, 0, none⟩) (lt_of_cell h.c1) h1]; exact h.c1, by rw [hk.cell (p := ⟨pd, 0, none⟩) (lt_of_cell h.c2) h2]; exact h.c2, by rw [hk.cell (p := ⟨b, 65, none⟩) (lt_of_cell h.c3) h3]; exact h.c3⟩

theorem bdrewN {B : Nat} {a w : World} (h : Below B a w) (n : Nat) : Below B a (w.drewN n) := ⟨h.os, h.tape, h.output, h.size, h.block⟩
set_option maxHeartbeats 1000000 in
theorem hidden_any (x : Wn) (pb pd b pl nx : Nat) (w : World) (h : HidAt pb pd b pl nx w) :
    Calls Try.prog 85 #[x.val, .pointer (some ⟨pb, 0, none⟩), .pointer (some ⟨pd, 0, none⟩)] w fun e w' => e = .returned (.bool (hidB pl nx x)) ∧ Below w.heap.size w w' := by
  have c1 := alloc_cell h.c1
  have c2 := alloc_cell h.c2
  have c3 := alloc_cell h.c3
  have l1 := lt_of_cell h.c1
  have l2 := lt_of_cell h.c2
  have l3 := lt_of_cell h.c3
  have d1 := h.c1
  have d2 := h.c2
  have d3 := h.c3
  clear h
  unfold hidB
  by_cases hp : x.pl = pl
  · have e1 : ((x.pl : Int) == (pl : Int)) = true := by rw [beq_iff_eq]; omega
    have e2 : ((x.bit : Int) == (nx : Int)) = (x.bit == nx) := by
      rw [Bool.eq_iff_iff, beq_iff_eq, beq_iff_eq]; omega
    have e3 : (x.pl == pl) = true := by rw [beq_iff_eq]; exact hp
    rw [e3, Bool.true_and]
    have HP := hidT hp
    clear hp e3
    go_enter Try.func85, Try.ntmps85
    go_wp2_with fail
    go_quiet (fail)
    go_wp2
    go_ret
    exact ⟨rfl, bdrewN (below1 _ _) _⟩
  · have e1 : ((x.pl : Int) == (pl : Int)) = false := by rw [beq_eq_false_iff_ne]; omega
    have e3 : (x.pl == pl) = false := by rw [beq_eq_false_iff_ne]; exact hp
    rw [e3, Bool.false_and]
    have HP := hidT hp
    clear hp e3
    go_enter Try.func85, Try.ntmps85
    go_wp2_with fail
    go_quiet (fail)
    go_wp2
    go_ret
    exact ⟨rfl, bdrewN (below1 _ _) _⟩

/-- From an address on lie these writes. -/
def WnsAt (w : World) (a : Option Addr) (l : List Wn) : Prop := l = [] ∨ ∃ g, a = some ⟨g, 0, none⟩ ∧ ∀ i (h : i < l.length), w.cell? ⟨g, i * 3, none⟩ = some (.int .i64 l[i].pl) ∧ w.cell? ⟨g, i * 3 + 1, none⟩ = some (.string l[i].data) ∧ w.cell? ⟨g, i * 3 + 2, none⟩ = some (.int .i64 l[i].bit)
theorem WnsAt.later {w w' : World} {a : Option Addr} {l : List Wn} (h : WnsAt w a l) (hb : Below w.heap.size w w') : WnsAt w' a l := by
  rcases h with h | ⟨g, ha, hc⟩
  · exact Or.inl h
  · exact Or.inr ⟨g, ha, fun i hi => ⟨cell_later' hb (hc i hi).1, cell_later' hb (hc i hi).2.1, cell_later' hb (hc i hi).2.2⟩⟩
theorem wns_of_own {w : World} {a : Option Addr} {c : Nat} {l : List Wn} (h : w.ownsRow 0 111 3 (.slice a l.length c) l.length (wcells l)) : WnsAt w a l := by
  rcases h.2 with ⟨h1, h2⟩ | ⟨g, cap, cur, hv, hg, hh, hnc, hcm, hcs, ht⟩
  · exact Or.inl (List.eq_nil_of_length_eq_zero h2)
  · simp only [Value.slice.injEq, true_and] at hv
    obtain ⟨rfl, rfl⟩ := hv
    refine Or.inr ⟨g, rfl, fun i hi => ?_⟩
    obtain ⟨k0, k1, k2⟩ := wcells_at l i hi
    exact ⟨(h.cellAt (i * 3) (by omega)).trans k0, (h.cellAt (i * 3 + 1) (by omega)).trans k1, (h.cellAt (i * 3 + 2) (by omega)).trans k2⟩
def idxW (p : Wn → Bool) (l : List Wn) : Int := match l.findIdx? p with | some k => (k : Int) | none => -1
theorem idxW_found {p : Wn → Bool} {l : List Wn} {k : Nat} (h : k < l.length) (hp : p l[k] = true) (hb : ∀ j (hj : j < k), p (l[j]'(by omega)) = false) : idxW p l = k := by
  have : l.findIdx? p = some k := by
    rw [List.findIdx?_eq_some_iff_getElem]
    exact ⟨h, hp, fun j hj => by rw [hb j hj]; exact Bool.false_ne_true⟩
  rw [idxW, this]
theorem idxW_none {p : Wn → Bool} {l : List Wn} (h : ∀ j (hj : j < l.length), p l[j] = false) : idxW p l = -1 := by
  have : l.findIdx? p = none := by
    rw [List.findIdx?_eq_none_iff]
    intro x hx
    obtain ⟨j, hj, rfl⟩ := List.getElem_of_mem hx
    exact h j hj
  rw [idxW, this]
theorem idxW_spec (p : Wn → Bool) (l : List Wn) : (idxW p l = -1 ∧ ∀ j (hj : j < l.length), p l[j] = false) ∨ ∃ (k : Nat) (h : k < l.length), idxW p l = k ∧ p l[k] = true ∧ ∀ j (hj : j < k), p (l[j]'(by omega)) = false := by
  cases e : l.findIdx? p with
  | none =>
    left
    refine ⟨by rw [idxW, e], fun j hj => ?_⟩
    rw [List.findIdx?_eq_none_iff] at e
    exact e _ (List.getElem_mem hj)
  | some k =>
    right
    have e' := e
    rw [List.findIdx?_eq_some_iff_getElem] at e
    obtain ⟨h1, h2, h3⟩ := e
    refine ⟨k, h1, by rw [idxW, e'], h2, fun j hj => ?_⟩
    have := h3 j hj
    simpa using this
set_option maxHeartbeats 1000000 in
theorem indexW_any (pb pd b pl nx : Nat) (l : List Wn) (a : Option Addr) (c : Nat) (w : World) (hl : WnsAt w a l) (hlen : l.length ≤ 100000) (hh : HidAt pb pd b pl nx w) :
    Calls Try.prog 88 #[.slice a l.length c, .func (.func 85) #[] #[.pointer (some ⟨pb, 0, none⟩), .pointer (some ⟨pd, 0, none⟩)]] w fun e w' => e = .returned (.int .i64 (idxW (hidB pl nx) l)) ∧ Below w.heap.size w w' := by
  rcases hl with rfl | ⟨g, rfl, hcs⟩
  · clear hh
    go_enter Try.func88, Try.ntmps88
    go_wp2
    go_loop [8] (fun i => i = .int .i64 0) (fun _ => 0)
    case atStart => rfl
    case round =>
      subst hrel
      go_wp2
      go_ret
      exact ⟨rfl, by repeat (first | with_reducible exact Below.refl _ _ | with_reducible refine balloc ?_ _ | with_reducible refine bdrew ?_ | with_reducible refine bset' ?_ (by omega) _ | with_reducible refine bthen ?_ (by assumption))⟩
  have HC := hidT hcs
  have HH := hidT hh
  clear hcs hh
  go_enter Try.func88, Try.ntmps88
  go_wp2
  go_loopw [8] (fun i wr => ∃ k : Nat, k ≤ l.length ∧ i = .int .i64 k ∧ (∀ j (hj : j < l.length), j < k → hidB pl nx l[j] = false) ∧ Below w.heap.size w wr) (fun i _ => l.length - (intOf i).toNat)
  case atStart => exact ⟨0, by omega, rfl, fun j hj h => absurd h (Nat.not_lt_zero _), Below.refl _ _⟩
  case round =>
    obtain ⟨k, hk, rfl, hno, HB⟩ := hrel
    have HN := hidT hno
    clear hno
    by_cases hlt : k < l.length
    · obtain ⟨c0, c1, c2⟩ := HC.out k hlt
      replace c0 := cell_later' HB c0
      replace c1 := cell_later' HB c1
      replace c2 := cell_later' HB c2
      have hq := hidden_any l[k] pb pd b pl nx wr (HH.out.later HB)
      cases hpk : hidB pl nx l[k]
      · rw [hpk] at hq
        have HQ := hidT hq
        clear hq
        go_wp2_with fail
        refine Calls.mono HQ.out ?_
        rintro e w1 ⟨rfl, hb⟩
        go_wp2
        go_roundw
        case rel => exact ⟨k + 1, by omega, by go_num, fun j hj h => by by_cases e : j = k; (subst e; exact hpk); exact HN.out j hj (by omega), bthen HB hb⟩
        case measure => simp [intOf]; omega
      · rw [hpk] at hq
        have HQ := hidT hq
        clear hq
        go_wp2_with fail
        refine Calls.mono HQ.out ?_
        rintro e w1 ⟨rfl, hb⟩
        go_wp2
        go_ret
        exact ⟨ret_int (idxW_found hlt hpk (fun j hj => HN.out j (by omega) hj)).symm, bthen HB hb⟩
    · go_wp2
      go_ret
      exact ⟨ret_int (idxW_none (fun j hj => HN.out j hj (by omega))).symm, HB⟩
end Go.Proofs.Ythmeaclekedilac
