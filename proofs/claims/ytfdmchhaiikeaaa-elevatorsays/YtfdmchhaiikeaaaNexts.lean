/- Whose turn it is: the elevator's answer, and the document's, are one: at all requests that may wait, every turn, every moment. -/
import Derived.Test.YtfdmchhaiikeaaaElev3
import Derived.Test.YtfdmchhaiikeaaaRNext2
namespace Go.Proofs.Ytfdmchhaiikeaaa
open Go.RowKit

theorem Good.bds {r : Rq} (h : Good r) : 0 ≤ r.f ∧ r.f ≤ 31 ∧ 1 ≤ r.m ∧ r.m ≤ 4 ∧ r.m ≤ 32 - r.f := by
  have := h.ok
  simp only [okB, decide_eq_true_eq] at this
  omega

theorem beginT_p (b1 b2 : Bool) (t : Tn) : (beginT b1 b2 t).p = t.p ∧ (beginT b1 b2 t).g = 1 := by
  unfold beginT; split
  · exact ⟨rfl, rfl⟩
  · split <;> exact ⟨rfl, rfl⟩

/-- Of the kind whose turn begins there is one. -/
theorem kind_there (l : List Rq) (hne : l ≠ []) (t : Tn) (b1 b2 : Bool) (d1 : decide (0 ≤ oldI false l) = b1) (d2 : decide (0 ≤ oldI true l) = b2) : ∃ i0, ∃ h : i0 < l.length, oldI (beginT b1 b2 t).w l = i0 ∧ l[i0].wr = (beginT b1 b2 t).w := by
  have hpos : 0 < l.length := List.length_pos_iff.2 hne
  have key : ∀ x : Bool, (∃ i0, ∃ h : i0 < l.length, oldI x l = i0 ∧ l[i0].wr = x) ∨ (oldI x l = -1 ∧ ∀ i (h : i < l.length), l[i].wr = !x) := fun x => by
    rcases old_spec x l with h | ⟨j, hj, h1, h2⟩
    · exact Or.inr h
    · exact Or.inl ⟨j, hj, h1, h2⟩
  cases b2
  · -- none writes
    have e : (beginT b1 false t).w = false := rfl
    rw [e]
    rcases key false with h | ⟨_, h⟩
    · exact h
    · exfalso
      rcases key true with ⟨j, hj, h1, _⟩ | ⟨_, h'⟩
      · rw [h1] at d2; simp only [decide_eq_false_iff_not] at d2; omega
      · have a := h 0 hpos; have b := h' 0 hpos; rw [a] at b; cases b
  · have h2 : 0 ≤ oldI true l := by simpa using d2
    have ht : ∃ i0, ∃ h : i0 < l.length, oldI true l = i0 ∧ l[i0].wr = true := by
      rcases key true with h | ⟨h, _⟩
      · exact h
      · omega
    by_cases hc : b1 = false ∨ 2 ≤ t.s
    · have e : (beginT b1 true t).w = true := by simp [beginT, hc]
      rw [e]; exact ht
    · have e : (beginT b1 true t).w = false := by simp [beginT, hc]
      rw [e]
      have h1 : 0 ≤ oldI false l := by
        cases b1
        · exact absurd (Or.inl rfl) hc
        · simpa using d1
      rcases key false with h | ⟨h, _⟩
      · exact h
      · omega

/-- How one begins, whatever the kind. -/
theorem begin_any (l : List Rq) (b o c : Nat) (t : Tn) (w : World) (hl : ReqsAt w (some ⟨b, o, none⟩) l) (hs : In64 t.s) (b1 b2 : Bool) (d1 : decide (0 ≤ oldI false l) = b1) (d2 : decide (0 ≤ oldI true l) = b2) :
    Calls Try.prog 47 #[.slice (some ⟨b, o, none⟩) l.length c, t.val] w fun e w' => e = .returned (beginT b1 b2 t).val ∧ Below w.heap.size w w' := by
  cases b2
  · exact begin_a l _ c t w hl b1 _ _ rfl rfl d1 d2
  · cases b1
    · exact begin_b l _ c t w hl _ _ rfl rfl d1 d2
    · by_cases h : 2 ≤ t.s
      · have e : beginT true true t = ⟨true, 1, 0, t.p⟩ := by simp [beginT, h]
        rw [e]; exact begin_c l _ c t w hl _ _ rfl rfl d1 d2 h
      · have e : beginT true true t = ⟨false, 1, t.s + 1, t.p⟩ := by simp [beginT, h]
        rw [e]; exact begin_d l _ c t w hl _ _ rfl rfl d1 d2 (by omega) hs.1

def NextCall (F : Nat) (b o c : Nat) (l : List Rq) (t : Tn) (now : Int) (i : Nat) (T : Tn) : Prop :=
  ∀ w, ReqsAt w (some ⟨b, o, none⟩) l → Calls Try.prog F #[.slice (some ⟨b, o, none⟩) l.length c, t.val, .int .i64 now] w fun e w' => e = .returned (.tuple #[.int .i64 i, T.val]) ∧ Below w.heap.size w w'

def RCall (b o c : Nat) (l : List Rq) (t : Tn) (now : Int) (i : Nat) (T : Tn) : Prop := NextCall 30 b o c l t now i T

/-- A turn that begins: who is first. -/
theorem first_way (l : List Rq) (hg : Goods l) (t : Tn) (now : Int) (i0 : Nat) (hi0 : i0 < l.length) (hw : l[i0].wr = t.w) :
    ∃ i, i < l.length ∧ ((patI t.w ≤ now - l[i0].born ∧ i = i0) ∨ (now - l[i0].born < patI t.w ∧ (frI t.w t.p l = i ∨ (frI t.w t.p l = -1 ∧ frI t.w 0 l = i)))) := by
  by_cases h : patI t.w ≤ now - l[i0].born
  · exact ⟨i0, hi0, Or.inl ⟨h, rfl⟩⟩
  · rcases fr_spec t.w t.p l with ⟨h1, _⟩ | ⟨j, hj, h1, _⟩
    · rcases fr_spec t.w 0 l with ⟨_, h2⟩ | ⟨j, hj, h2, _⟩
      · exfalso
        have := h2 i0 hi0 hw
        have := (hg.good i0 hi0).bds
        omega
      · exact ⟨j, hj, Or.inr ⟨by omega, Or.inr ⟨h1, h2⟩⟩⟩
    · exact ⟨j, hj, Or.inr ⟨by omega, Or.inl h1⟩⟩

theorem first_any (l : List Rq) (hg : Goods l) (b o c : Nat) (t : Tn) (now : Int) (w : World) (hl : ReqsAt w (some ⟨b, o, none⟩) l) (n0 : 0 ≤ now) (n1 : now ≤ 1000000000) (i0 : Nat) (hi0 : i0 < l.length) (hO : oldI t.w l = i0) (i : Nat)
    (hway : (patI t.w ≤ now - l[i0].born ∧ i = i0) ∨ (now - l[i0].born < patI t.w ∧ (frI t.w t.p l = i ∨ (frI t.w t.p l = -1 ∧ frI t.w 0 l = i)))) :
    Calls Try.prog 48 #[.slice (some ⟨b, o, none⟩) l.length c, t.val, .int .i64 now] w fun e w' => e = .returned (.int .i64 i) ∧ Below w.heap.size w w' := by
  have g := hg.good i0 hi0
  rcases hway with ⟨h, rfl⟩ | ⟨h, h1 | ⟨h1, h2⟩⟩
  · exact first_a l b o c t now w hl i hi0 hO n0 n1 g.b0 g.b1 _ rfl h
  · exact first_b l b o c t now w hl i0 hi0 hO n0 n1 g.b0 g.b1 _ rfl h i h1
  · exact first_c l b o c t now w hl i0 hi0 hO n0 n1 g.b0 g.b1 _ rfl h h1 _ h2

/-- What the next one, and the turn then, are. -/
structure IsNext (l : List Rq) (t : Tn) (now : Int) (i : Nat) (T : Tn) : Prop where
  lt : i < l.length
  p : T.p = l[i].f + l[i].m
  w : l[i].wr = T.w
  way : (0 < t.g ∧ t.g < 3 ∧ frI t.w t.p l = i ∧ T.w = t.w ∧ T.g = t.g + 1 ∧ T.s = t.s) ∨
    ((t.g ≤ 0 ∨ 3 ≤ t.g ∨ frI t.w t.p l = -1) ∧ T.g = 1 ∧ ∃ b1 b2, decide (0 ≤ oldI false l) = b1 ∧ decide (0 ≤ oldI true l) = b2 ∧ T.w = (beginT b1 b2 t).w ∧ T.s = (beginT b1 b2 t).s ∧
      ∃ i0, ∃ h : i0 < l.length, oldI T.w l = i0 ∧ ((patI T.w ≤ now - l[i0].born ∧ i = i0) ∨ now - l[i0].born < patI T.w))

theorem nexts (l : List Rq) (hg : Goods l) (hne : l ≠ []) (b o c : Nat) (t : Tn) (now : Int) (n0 : 0 ≤ now) (n1 : now ≤ 1000000000) (hs : In64 t.s) :
    ∃ i T, IsNext l t now i T ∧ NextCall 29 b o c l t now i T ∧ RCall b o c l t now i T := by
  have begins : (t.g ≤ 0 ∨ 3 ≤ t.g ∨ frI t.w t.p l = -1) →
      ∃ i T, IsNext l t now i T ∧ NextCall 29 b o c l t now i T ∧ RCall b o c l t now i T := by
    intro hpre
    obtain ⟨i0, hi0, hO, hw⟩ := kind_there l hne t _ _ rfl rfl
    generalize d1 : decide (0 ≤ oldI false l) = b1 at *
    generalize d2 : decide (0 ≤ oldI true l) = b2 at *
    obtain ⟨e1, e2⟩ := beginT_p b1 b2 t
    obtain ⟨i, hi, hway⟩ := first_way l hg (beginT b1 b2 t) now i0 hi0 hw
    have g := (hg.good i hi).bds
    have g0 := hg.good i0 hi0
    have hwi : l[i].wr = (beginT b1 b2 t).w := by
      rcases hway with ⟨_, rfl⟩ | ⟨_, h | ⟨_, h⟩⟩
      · exact hw
      · rcases fr_spec (beginT b1 b2 t).w (beginT b1 b2 t).p l with ⟨h', _⟩ | ⟨j, hj, h', h2, _⟩
        · omega
        · obtain rfl : i = j := by omega
          exact h2
      · rcases fr_spec (beginT b1 b2 t).w 0 l with ⟨h', _⟩ | ⟨j, hj, h', h2, _⟩
        · omega
        · obtain rfl : i = j := by omega
          exact h2
    refine ⟨i, ⟨(beginT b1 b2 t).w, (beginT b1 b2 t).g, (beginT b1 b2 t).s, l[i].f + l[i].m⟩, ⟨hi, rfl, hwi, Or.inr ⟨hpre, e2, b1, b2, d1, d2, rfl, rfl, i0, hi0, hO, ?_⟩⟩, ?_, ?_⟩
    · rcases hway with h | ⟨h, _⟩
      · exact Or.inl h
      · exact Or.inr h
    · intro w hl
      refine next_begin l b o c t (beginT b1 b2 t) now w hl i hi ?_ (fun w' hl' => begin_any l b o c t w' hl' hs b1 b2 d1 d2) (fun w' hl' => first_any l hg b o c _ now w' hl' n0 n1 i0 hi0 hO i hway) (by omega) (by omega) (by omega) (by omega)
      intro w' hl'
      by_cases hgo : t.g ≤ 0 ∨ 3 ≤ t.g
      · exact goesOn_no l _ c t w' hgo
      · exact goesOn_yes l _ c t w' hl' (by omega) (by omega) _ (by rcases hpre with h | h | h; exact absurd (Or.inl h) hgo; exact absurd (Or.inr h) hgo; exact h)
    · intro w hl
      rw [e2]
      rw [e1] at hway
      by_cases hgo : t.g ≤ 0 ∨ 3 ≤ t.g
      · exact rnext_begin l b o c t now w hl (by rw [beq_eq_false_iff_ne]; omega) (by rw [beq_eq_false_iff_ne]; omega) hs.1 _ _ rfl rfl b1 b2 d1 d2 _ _ rfl rfl i0 hi0 hO i hi n0 n1 g0.b0 g0.b1 (by omega) (by omega) (by omega) (by omega) hway
      · have hfr : frI t.w t.p l = -1 := by rcases hpre with h | h | h; exact absurd (Or.inl h) hgo; exact absurd (Or.inr h) hgo; exact h
        refine rnext_over l b o c t now w hl _ rfl ?_ hfr hs.1 _ _ rfl rfl b1 b2 d1 d2 _ _ rfl rfl i0 hi0 hO i hi n0 n1 g0.b0 g0.b1 (by omega) (by omega) (by omega) (by omega) hway
        by_cases h1 : t.g = 1
        · rw [h1]; rfl
        · obtain h2 : t.g = 2 := by omega
          rw [h2]; rfl
  by_cases hgo : t.g ≤ 0 ∨ 3 ≤ t.g
  · exact begins (by rcases hgo with h | h; exact Or.inl h; exact Or.inr (Or.inl h))
  · rcases fr_spec t.w t.p l with ⟨h1, _⟩ | ⟨j, hj, h1, h2, _⟩
    · exact begins (Or.inr (Or.inr h1))
    · have g := (hg.good j hj).bds
      refine ⟨j, ⟨t.w, t.g + 1, t.s, l[j].f + l[j].m⟩, ⟨hj, rfl, h2, Or.inl ⟨by omega, by omega, h1, rfl, rfl, rfl⟩⟩, fun w hl => ?_, ?_⟩
      · exact next_on l b o c t now w hl (by omega) (by omega) j hj h1 (by omega) (by omega) (by omega) (by omega)
      · intro w hl
        refine rnext_on l b o c t now w hl _ rfl ?_ (by omega) (by omega) j hj h1 (by omega) (by omega) (by omega) (by omega)
        by_cases h1 : t.g = 1
        · rw [h1]; rfl
        · obtain h2 : t.g = 2 := by omega
          rw [h2]; rfl

end Go.Proofs.Ytfdmchhaiikeaaa
