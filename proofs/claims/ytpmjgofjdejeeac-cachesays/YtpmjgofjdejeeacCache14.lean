/- Put: what is at hand then, in order. -/
import Derived.Test.YtpmjgofjdejeeacCache13
namespace Go.Proofs.Ytpmjgofjdejeeac

def ltB (a b : Bf) : Prop := a.pl < b.pl
theorem GoodB.pair {l : List Bf} (h : GoodB l) : l.Pairwise ltB := by
  rw [List.pairwise_iff_getElem]
  intro i j hi hj hij
  exact h.lt' i j hij hj
theorem gtAt_spec (at' : Int) (l : List Bf) : (∀ j (hj : j < l.length), j < gtAt at' l → l[j].pl ≤ at') ∧ (∀ (h : gtAt at' l < l.length), at' < l[gtAt at' l].pl) := by
  unfold gtAt
  cases e : l.findIdx? (gtB at') with
  | none =>
    rw [List.findIdx?_eq_none_iff] at e
    refine ⟨fun j hj _ => ?_, fun h => absurd h (Nat.lt_irrefl _)⟩
    have := e _ (List.getElem_mem hj)
    simp only [gtB, decide_eq_false_iff_not] at this
    omega
  | some k =>
    rw [List.findIdx?_eq_some_iff_getElem] at e
    obtain ⟨h1, h2, h3⟩ := e
    refine ⟨fun j hj hjk => ?_, fun h => by simpa [gtB] using h2⟩
    have := h3 j hjk
    simp only [gtB, decide_eq_true_eq] at this
    omega
theorem insL_pair {l : List Bf} {x : Bf} (h : l.Pairwise ltB) (hx : ∀ y ∈ l, y.pl ≠ x.pl) : (insL l x).Pairwise ltB := by
  obtain ⟨s1, s2⟩ := gtAt_spec x.pl l
  have hp := List.pairwise_iff_getElem.1 h
  have h1 : ∀ y ∈ l.take (gtAt x.pl l), y.pl < x.pl := by
    intro y hy
    obtain ⟨j, hj, rfl⟩ := List.getElem_of_mem hy
    rw [List.length_take] at hj
    rw [List.getElem_take]
    have a := s1 j (by omega) (by omega)
    have b := hx _ (List.getElem_mem (show j < l.length by omega))
    omega
  have h2 : ∀ y ∈ l.drop (gtAt x.pl l), x.pl < y.pl := by
    intro y hy
    obtain ⟨j, hj, rfl⟩ := List.getElem_of_mem hy
    rw [List.length_drop] at hj
    rw [List.getElem_drop]
    have hg : gtAt x.pl l < l.length := by omega
    have a := s2 hg
    by_cases e : j = 0
    · subst e; simpa using a
    · have b := hp (gtAt x.pl l) (gtAt x.pl l + j) hg (by omega) (by omega)
      simp only [ltB] at b
      omega
  rw [insL, List.pairwise_append]
  refine ⟨h.sublist (List.take_sublist _ _), ?_, ?_⟩
  · rw [List.pairwise_cons]
    exact ⟨h2, h.sublist (List.drop_sublist _ _)⟩
  · intro a ha b hb
    rw [List.mem_cons] at hb
    rcases hb with rfl | hb
    · exact h1 a ha
    · have := h1 a ha; have := h2 b hb; simp only [ltB]; omega
theorem at_mem {m : List Bf} (hr : m.Pairwise ltB) {y : Bf} (hy : y ∈ m) : ∃ j : Nat, ∃ hj : j < m.length, idxB (plB y.pl) m = j ∧ m[j] = y := by
  obtain ⟨j, hj, e⟩ := idx_mem hy
  refine ⟨j, hj, e, ?_⟩
  have hp := idx_pl hj e
  obtain ⟨n, hn, rfl⟩ := List.getElem_of_mem hy
  have hq := List.pairwise_iff_getElem.1 hr
  rcases Nat.lt_trichotomy j n with h | h | h
  · have := hq j n hj hn h; simp only [ltB] at this; omega
  · subst h; rfl
  · have := hq n j hn hj h; simp only [ltB] at this; omega

structure PutFacts (l : List Bf) (x : Bf) (H : Int → Bool) (m : List Bf) (K : Nat) : Prop where
  rise : m.Pairwise ltB
  len : m.length ≤ 8
  has : x ∈ m
  kle : K ≤ l.length
  kept : ∀ i (hi : i < l.length), l[i].pl ≠ x.pl → i ≠ K → l[i] ∈ m
  gone : ∀ (hK : K < l.length), l.length = 8 ∧ l[K].dirty = false ∧ H l[K].pl = false ∧ idxB (plB l[K].pl) m = -1 ∧ l[K].pl ≠ x.pl

theorem idx_no {l : List Bf} {at' : Int} (h : idxB (plB at') l = -1) : ∀ y ∈ l, y.pl ≠ at' := by
  intro y hy
  rcases idx_spec (plB at') l with ⟨_, h1⟩ | ⟨k, hk, e, _⟩
  · obtain ⟨j, hj, rfl⟩ := List.getElem_of_mem hy
    have := h1 j hj
    simpa [plB] using this
  · rw [h] at e; omega
theorem PutsM.facts {l : List Bf} {x : Bf} {H : Int → Bool} {m : List Bf} (h : PutsM l x H m) (G : GoodB l) : ∃ K, PutFacts l x H m K := by
  have hp := G.pair
  rcases h with ⟨k, hk, hix, rfl⟩ | ⟨hix, h8, rfl⟩ | ⟨hix, h8, k, hk, hr, rfl⟩
  · refine ⟨l.length, ⟨?_, by rw [List.length_set]; exact G.len, List.mem_set hk x, Nat.le_refl _, fun i hi hne _ => ?_, fun h => absurd h (Nat.lt_irrefl _)⟩⟩
    · have hpl := idx_pl hk hix
      rw [List.pairwise_iff_getElem]
      intro i j hi hj hij
      rw [List.length_set] at hi hj
      have := G.lt' i j hij hj
      simp only [ltB, List.getElem_set]
      split <;> split
      · omega
      · rename_i e1 _; subst e1; omega
      · rename_i _ e2; subst e2; omega
      · exact this
    · by_cases e : i = k
      · subst e; exact absurd (idx_pl hk hix) hne
      · have hi' : i < (l.set k x).length := by rw [List.length_set]; exact hi
        have hm := List.getElem_mem hi'
        rw [List.getElem_set_ne (fun h => e h.symm)] at hm
        exact hm
  · refine ⟨l.length, ⟨insL_pair hp (idx_no hix), by rw [insL_length]; omega, mem_insL.2 (Or.inl rfl), Nat.le_refl _, fun i hi _ _ => mem_insL.2 (Or.inr (List.getElem_mem hi)), fun h => absurd h (Nat.lt_irrefl _)⟩⟩
  · have hno : ∀ y ∈ l.eraseIdx k, y.pl ≠ x.pl := fun y hy => idx_no hix y (List.mem_of_mem_eraseIdx hy)
    refine ⟨k, ⟨insL_pair (hp.sublist (List.eraseIdx_sublist _ _)) hno, by rw [insL_length, List.length_eraseIdx, if_pos hk]; omega, mem_insL.2 (Or.inl rfl), Nat.le_of_lt hk, fun i hi _ hne => ?_, fun _ => ?_⟩⟩
    · rw [mem_insL, List.mem_eraseIdx_iff_getElem]
      exact Or.inr ⟨i, hi, hne, rfl⟩
    · have hf : fitB false H l[k] = true := by
        rcases leastU_spec (fitB false H) l l.length (Nat.le_refl _) with ⟨e2, _⟩ | ⟨k', hk', _, e2, hf, _⟩
        · rw [hr] at e2; omega
        · have : k' = k := by rw [hr] at e2; omega
          subst this; exact hf
      rw [fitB, Bool.and_eq_true] at hf
      have hx := idx_no hix _ (List.getElem_mem hk)
      refine ⟨h8, by simpa using hf.1, by simpa using hf.2, ?_, hx⟩
      apply idx_none
      intro j hj
      simp only [plB, beq_eq_false_iff_ne]
      have hm := List.getElem_mem hj
      rw [mem_insL, List.mem_eraseIdx_iff_getElem] at hm
      rcases hm with hm | ⟨n, hn, hne, hm⟩
      · rw [hm]; exact fun h => hx h.symm
      · rw [← hm]
        rcases Nat.lt_or_gt_of_ne hne with h | h
        · have := G.lt' n k h hk; omega
        · have := G.lt' k n h hn; omega
end Go.Proofs.Ytpmjgofjdejeeac
