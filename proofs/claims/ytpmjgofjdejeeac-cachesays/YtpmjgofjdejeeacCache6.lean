/- Use. -/
import Derived.Test.YtpmjgofjdejeeacCache4
namespace Go.Proofs.Ytpmjgofjdejeeac
open Go.RowKit Go.BigFrame
attribute [local go_sem] Later.cell Later.frozen

/-- What Use leaves: the sector was used now. -/
def useL (l : List Bf) (at' now : Int) : List Bf := l.map fun x => if x.pl = at' then { x with used := now } else x
theorem use_no {l : List Bf} {at' now : Int} (h : idxB (plB at') l = -1) : useL l at' now = l := by
  rcases idx_spec (plB at') l with ⟨_, h1⟩ | ⟨k, hk, e, _⟩
  · apply List.ext_getElem (by simp [useL])
    intro i hi h2
    simp only [useL, List.getElem_map]
    have := h1 i h2
    simp only [plB, beq_eq_false_iff_ne] at this
    rw [if_neg this]
  · rw [h] at e; omega
theorem use_yes {l : List Bf} {at' now : Int} {k : Nat} (hk : k < l.length) (ho : OnceB l) (h : idxB (plB at') l = k) : useL l at' now = l.set k { l[k] with used := now } := by
  have hp : l[k].pl = at' := by
    rcases idx_spec (plB at') l with ⟨e, _⟩ | ⟨k', hk', e, h2, _⟩
    · rw [h] at e; omega
    · have : k' = k := by omega
      subst this
      simpa [plB] using h2
  apply List.ext_getElem (by simp [useL])
  intro i hi h2
  rw [List.length_set] at h2
  simp only [useL, List.getElem_map]
  by_cases e : i = k
  · subst e
    rw [List.getElem_set_self, if_pos hp]
  · rw [List.getElem_set_ne (fun h => e h.symm), if_neg (fun c => e (ho i k h2 hk (c.trans hp.symm)))]

set_option maxHeartbeats 2000000 in
theorem useG (l : List Bf) (a : Option Addr) (c : Nat) (at' now : Int) (w : World) (hl : BufsAt w a l) (hn : a = none → c = 0) (h10 : l.length ≤ 1000) (ho : OnceB l) :
    Calls Try.prog 38 #[.slice a l.length c, .int .i64 at', .int .i64 now] w fun e w' => ∃ a' c', e = .returned (.slice a' l.length c') ∧ BufsAt w' a' (useL l at' now) ∧ l.length ≤ c' ∧ Below w.heap.size w w' := by
  have HO := hidB ho
  clear ho
  rcases idx_spec (plB at') l with ⟨h, _⟩ | ⟨k, hk, h, _, _⟩
  · have HC := hidB (use_no (now := now) h)
    go_enter Try.func38, Try.ntmps38
    go_wp2_with fail
    refine (cloneB_any l a c _ hl hn (by omega)).mono ?_
    rintro e w1 ⟨a', c', rfl, hN, hb1⟩
    go_wp2_with fail
    refine (place_eq l a' c' at' _ hN.here _ h).mono ?_
    rintro e w2 ⟨rfl, hb2⟩
    have R := hN.here.later hb2
    have cp := hN.cap
    clear hN h
    go_wp2
    go_ret
    exact ⟨a', c', rfl, by rw [HC.out]; exact R, cp, bthen hb1 hb2⟩
  · have h0 : l ≠ [] := by rintro rfl; exact absurd hk (Nat.not_lt_zero _)
    have H0 := hidB h0
    clear h0
    have HC := hidB (use_yes (now := now) hk HO.out h)
    go_enter Try.func38, Try.ntmps38
    go_wp2_with fail
    refine (cloneB_any l a c _ hl hn (by omega)).mono ?_
    rintro e w1 ⟨a', c', rfl, hN, hb1⟩
    obtain ⟨b, rfl, hbb, hlt, hfz⟩ := hN.place H0.out
    go_wp2_with fail
    refine (place_eq l _ c' at' _ hN.here _ h).mono ?_
    rintro e w2 ⟨rfl, hb2⟩
    have R := hN.here.later hb2
    have cp := hN.cap
    have hf2 : w2.frozen? ⟨b, 0 + k * 4 + 3, none⟩ = false := by rw [hb2.frozen (p := ⟨b, 0 + k * 4 + 3, none⟩) hlt]; exact hfz _
    obtain ⟨c0, c1, c2, c3⟩ := R.cells hk
    rw [Nat.zero_add] at c0 c1 c2 c3 hf2
    clear hN h hfz
    have HB2 := bthen hb1 hb2
    go_wp2
    go_ret
    refine ⟨_, c', rfl, ?_, cp, by repeat (first | with_reducible exact Below.refl _ _ | with_reducible refine balloc ?_ _ | with_reducible refine bdrew ?_ | with_reducible refine bset' ?_ (by omega) _ | with_reducible refine bthen ?_ (by assumption))⟩
    rw [HC.out]
    have := R.set hk 3 (by omega) { l[k] with used := now } (.int .i64 now) rfl (fun i hi hne => by rcases (show i = 0 ∨ i = 1 ∨ i = 2 by omega) with rfl | rfl | rfl <;> rfl)
    rw [Nat.zero_add] at this
    exact this
end Go.Proofs.Ytpmjgofjdejeeac
