/- The document's answer on sectors at hand: PutBuf. -/
import Derived.Test.YtpmjgofjdejeeacRCache4
import Derived.Test.YtpmjgofjdejeeacCache14
namespace Go.Proofs.Ytpmjgofjdejeeac
open Go.RowKit Go.BigFrame
attribute [local go_sem] Later.cell Later.frozen

/-- Strictly rising lists with the same sectors are the same. -/
theorem pair_eq : ∀ (a b : List Bf), a.Pairwise ltB → b.Pairwise ltB → (∀ y, y ∈ a ↔ y ∈ b) → a = b := by
  intro a
  induction a with
  | nil =>
    intro b _ _ h
    cases b with
    | nil => rfl
    | cons y b => exact absurd ((h y).2 (List.mem_cons_self)) (by simp)
  | cons x a ih =>
    intro b ha hb h
    cases b with
    | nil => exact absurd ((h x).1 (List.mem_cons_self)) (by simp)
    | cons y b =>
      rw [List.pairwise_cons] at ha hb
      have hxy : x = y := by
        have h1 := (h x).1 List.mem_cons_self
        have h2 := (h y).2 List.mem_cons_self
        rw [List.mem_cons] at h1 h2
        rcases h1 with h1 | h1
        · exact h1
        · rcases h2 with h2 | h2
          · exact h2.symm
          · have u := hb.1 x h1
            have v := ha.1 y h2
            simp only [ltB] at u v
            omega
      subst hxy
      congr 1
      apply ih b ha.2 hb.2
      intro z
      have hz := h z
      rw [List.mem_cons, List.mem_cons] at hz
      constructor
      · intro hza
        rcases hz.1 (Or.inr hza) with e | e
        · subst e; have := ha.1 z hza; simp only [ltB] at this; omega
        · exact e
      · intro hzb
        rcases hz.2 (Or.inr hzb) with e | e
        · subst e; have := hb.1 z hzb; simp only [ltB] at this; omega
        · exact e

theorem mem_ite {p : Prop} [Decidable p] {y z : Bf} : y ∈ (if p then [z] else []) ↔ p ∧ y = z := by
  by_cases h : p
  · rw [if_pos h, List.mem_singleton]; exact ⟨fun e => ⟨h, e⟩, fun e => e.2⟩
  · rw [if_neg h]; exact ⟨fun e => absurd e (by simp), fun e => absurd e.1 h⟩
/-- What is in the list behind k rounds; b: x is laid. -/
structure RPutK (l : List Bf) (x : Bf) (gone : Int) (k : Nat) (O : List Bf) (b : Bool) : Prop where
  rise : O.Pairwise ltB
  len : O.length ≤ 2 * k
  mem : ∀ y, y ∈ O ↔ (b = true ∧ y = x) ∨ ∃ i, ∃ hi : i < l.length, i < k ∧ (i : Int) ≠ gone ∧ l[i] = y ∧ y.pl ≠ x.pl
  no : b = false → ∀ i (hi : i < l.length), i < k → l[i].pl < x.pl
  yes : b = true → ∀ i (hi : i < l.length), k ≤ i → x.pl < l[i].pl
theorem rputK_0 (l : List Bf) (x : Bf) (gone : Int) : RPutK l x gone 0 [] false :=
  ⟨List.Pairwise.nil, by simp, fun y => by simp, fun _ i _ h => absurd h (Nat.not_lt_zero _), fun h => by cases h⟩

/-- One more round: the three that may be. -/
def roundL (l : List Bf) (x : Bf) (gone : Int) (k : Nat) (hk : k < l.length) (O : List Bf) (b : Bool) : List Bf :=
  (O ++ (if b = false ∧ x.pl ≤ l[k].pl then [x] else [])) ++ (if l[k].pl ≠ x.pl ∧ (k : Int) ≠ gone then [l[k]] else [])
theorem rputK_step {l : List Bf} {x : Bf} {gone : Int} {k : Nat} {O : List Bf} {b : Bool} (G : GoodB l) (hk : k < l.length) (h : RPutK l x gone k O b) :
    RPutK l x gone (k + 1) (roundL l x gone k hk O b) (b || decide (x.pl ≤ l[k].pl)) := by
  have hO : ∀ y ∈ O, y.pl < l[k].pl := by
    intro y hy
    rcases (h.mem y).1 hy with ⟨hb, rfl⟩ | ⟨i, hi, hik, _, rfl, _⟩
    · exact h.yes hb k hk (Nat.le_refl _)
    · exact G.lt' i k hik hk
  have hOx : b = false → ∀ y ∈ O, y.pl < x.pl := by
    intro hb y hy
    rcases (h.mem y).1 hy with ⟨hb', _⟩ | ⟨i, hi, hik, _, rfl, _⟩
    · rw [hb] at hb'; cases hb'
    · exact h.no hb i hi hik
  unfold roundL
  refine ⟨?_, ?_, ?_, ?_, ?_⟩
  · by_cases h1 : b = false ∧ x.pl ≤ l[k].pl
    · by_cases h2 : l[k].pl ≠ x.pl ∧ (k : Int) ≠ gone
      · rw [if_pos h1, if_pos h2, List.append_assoc, List.pairwise_append]
        refine ⟨h.rise, ?_, ?_⟩
        · simp only [List.singleton_append, List.pairwise_cons, List.mem_singleton, forall_eq, List.not_mem_nil, false_implies, implies_true, List.Pairwise.nil, and_true]
          simp only [ltB]; omega
        · intro y hy z hz
          simp only [List.singleton_append, List.mem_cons, List.not_mem_nil, or_false] at hz
          rcases hz with rfl | rfl
          · exact hOx h1.1 y hy
          · exact hO y hy
      · rw [if_pos h1, if_neg h2, List.append_nil, List.pairwise_append]
        refine ⟨h.rise, List.pairwise_singleton _ _, ?_⟩
        intro y hy z hz
        rw [List.mem_singleton] at hz
        subst hz
        exact hOx h1.1 y hy
    · by_cases h2 : l[k].pl ≠ x.pl ∧ (k : Int) ≠ gone
      · rw [if_neg h1, if_pos h2, List.append_nil, List.pairwise_append]
        refine ⟨h.rise, List.pairwise_singleton _ _, ?_⟩
        intro y hy z hz
        rw [List.mem_singleton] at hz
        subst hz
        exact hO y hy
      · rw [if_neg h1, if_neg h2, List.append_nil, List.append_nil]; exact h.rise
  · have := h.len
    rw [List.length_append, List.length_append]
    split <;> split <;> simp <;> omega
  · intro y
    rw [List.mem_append, List.mem_append, h.mem y, mem_ite, mem_ite]
    constructor
    · rintro (((⟨hb, rfl⟩ | ⟨i, hi, hik, hg, rfl, hne⟩) | ⟨h1, rfl⟩) | ⟨h2, rfl⟩)
      · exact Or.inl ⟨by rw [hb]; rfl, rfl⟩
      · exact Or.inr ⟨i, hi, by omega, hg, rfl, hne⟩
      · exact Or.inl ⟨by rw [decide_eq_true h1.2, Bool.or_true], rfl⟩
      · exact Or.inr ⟨k, hk, by omega, h2.2, rfl, h2.1⟩
    · rintro (⟨hb, rfl⟩ | ⟨i, hi, hik, hg, rfl, hne⟩)
      · cases b
        · simp only [Bool.false_or, decide_eq_true_eq] at hb
          exact Or.inl (Or.inr ⟨⟨rfl, hb⟩, rfl⟩)
        · exact Or.inl (Or.inl (Or.inl ⟨rfl, rfl⟩))
      · by_cases e : i = k
        · subst e
          exact Or.inr ⟨⟨hne, hg⟩, rfl⟩
        · exact Or.inl (Or.inl (Or.inr ⟨i, hi, by omega, hg, rfl, hne⟩))
  · intro hb i hi hik
    rw [Bool.or_eq_false_iff, decide_eq_false_iff_not] at hb
    by_cases e : i = k
    · subst e; omega
    · exact h.no hb.1 i hi (by omega)
  · intro hb i hi hik
    rw [Bool.or_eq_true, decide_eq_true_eq] at hb
    rcases hb with hb | hb
    · exact h.yes hb i hi (by omega)
    · have := G.lt' k i (by omega) hi; omega

/-- The whole. -/
def RefM (l : List Bf) (x : Bf) (gone : Int) (M : List Bf) : Prop := M.Pairwise ltB ∧ ∀ y, y ∈ M ↔ y = x ∨ ∃ i, ∃ hi : i < l.length, (i : Int) ≠ gone ∧ l[i] = y ∧ y.pl ≠ x.pl
theorem rputK_yes {l : List Bf} {x : Bf} {gone : Int} {O : List Bf} (h : RPutK l x gone l.length O true) : RefM l x gone O := by
  refine ⟨h.rise, fun y => ?_⟩
  rw [h.mem y]
  constructor
  · rintro (⟨_, e⟩ | ⟨i, hi, _, r⟩)
    · exact Or.inl e
    · exact Or.inr ⟨i, hi, r⟩
  · rintro (e | ⟨i, hi, r⟩)
    · exact Or.inl ⟨rfl, e⟩
    · exact Or.inr ⟨i, hi, hi, r⟩
theorem rputK_no {l : List Bf} {x : Bf} {gone : Int} {O : List Bf} (h : RPutK l x gone l.length O false) : RefM l x gone (O ++ [x]) := by
  refine ⟨?_, fun y => ?_⟩
  · rw [List.pairwise_append]
    refine ⟨h.rise, List.pairwise_singleton _ _, ?_⟩
    intro y hy z hz
    rw [List.mem_singleton] at hz
    subst hz
    rcases (h.mem y).1 hy with ⟨hb, _⟩ | ⟨i, hi, _, _, rfl, _⟩
    · cases hb
    · exact h.no rfl i hi hi
  · rw [List.mem_append, List.mem_singleton, h.mem y]
    constructor
    · rintro ((⟨hb, _⟩ | ⟨i, hi, _, r⟩) | e)
      · cases hb
      · exact Or.inr ⟨i, hi, r⟩
      · exact Or.inl e
    · rintro (e | ⟨i, hi, r⟩)
      · exact Or.inr e
      · exact Or.inl (Or.inr ⟨i, hi, hi, r⟩)
/-- Both lay the same. -/
theorem RefM.eq {l : List Bf} {x : Bf} {M m : List Bf} {H : Int → Bool} {gone : Int} (G : GoodB l) (hM : RefM l x gone M) (hm : PutsM l x H m)
    (hg : (idxB (plB x.pl) l = -1 ∧ l.length = 8 ∧ gone = leastU (fitB false H) l l.length) ∨ (¬ (idxB (plB x.pl) l = -1 ∧ l.length = 8) ∧ gone = -1)) : M = m := by
  obtain ⟨K, hF⟩ := hm.facts G
  refine pair_eq M m hM.1 hF.rise (fun y => ?_)
  rw [hM.2 y]
  rcases hm with ⟨k, hk, hix, rfl⟩ | ⟨hix, h8, rfl⟩ | ⟨hix, h8, k, hk, hr, rfl⟩
  · have hpl := idx_pl hk hix
    have hgo : gone = -1 := by
      rcases hg with ⟨h1, _⟩ | ⟨_, h1⟩
      · rw [hix] at h1; omega
      · exact h1
    constructor
    · rintro (rfl | ⟨i, hi, _, rfl, hne⟩)
      · exact List.mem_set hk _
      · have e : i ≠ k := by rintro rfl; exact hne hpl
        have hi' : i < (l.set k x).length := by rw [List.length_set]; exact hi
        have hm := List.getElem_mem hi'
        rw [List.getElem_set_ne (fun h => e h.symm)] at hm
        exact hm
    · intro hy
      obtain ⟨i, hi, rfl⟩ := List.getElem_of_mem hy
      rw [List.length_set] at hi
      by_cases e : i = k
      · subst e; left; simp
      · right
        rw [List.getElem_set_ne (fun h => e h.symm)]
        refine ⟨i, hi, by omega, rfl, ?_⟩
        rcases Nat.lt_or_gt_of_ne e with h | h
        · have := G.lt' i k h hk; omega
        · have := G.lt' k i h hi; omega
  · have hgo : gone = -1 := by
      rcases hg with ⟨_, h1, _⟩ | ⟨_, h1⟩
      · omega
      · exact h1
    rw [mem_insL]
    constructor
    · rintro (rfl | ⟨i, hi, _, rfl, _⟩)
      · exact Or.inl rfl
      · exact Or.inr (List.getElem_mem hi)
    · rintro (rfl | hy)
      · exact Or.inl rfl
      · have hne := idx_no hix y hy
        obtain ⟨i, hi, rfl⟩ := List.getElem_of_mem hy
        exact Or.inr ⟨i, hi, by omega, rfl, hne⟩
  · have hgo : gone = k := by
      rcases hg with ⟨_, _, h1⟩ | ⟨h1, _⟩
      · rw [h1, hr]
      · exact absurd ⟨hix, h8⟩ h1
    rw [mem_insL, List.mem_eraseIdx_iff_getElem]
    constructor
    · rintro (rfl | ⟨i, hi, hne, rfl, _⟩)
      · exact Or.inl rfl
      · exact Or.inr ⟨i, hi, by omega, rfl⟩
    · rintro (rfl | ⟨i, hi, hne, rfl⟩)
      · exact Or.inl rfl
      · exact Or.inr ⟨i, hi, by omega, rfl, idx_no hix _ (List.getElem_mem hi)⟩
theorem rowNew (x : Bf) (w : World) : RowAt (w.alloc (.cells #[.int .i64 x.pl, .string x.data, .bool x.dirty, .int .i64 x.used] 72)) 4 (some ⟨w.heap.size, 0, none⟩) 1 1 (bcells [x]) :=
  ⟨rfl, bcells_one _, Or.inr ⟨_, rfl, fun j u hj => by
    have hj' : [Value.int .i64 x.pl, .string x.data, .bool x.dirty, .int .i64 x.used][j]? = some u := hj
    rw [addB_mk]
    have h := heap_alloc_new w (.cells #[.int .i64 x.pl, .string x.data, .bool x.dirty, .int .i64 x.used] 72)
    simp only [World.cell?, h, Nat.zero_add]
    simpa using hj'⟩⟩
end Go.Proofs.Ytpmjgofjdejeeac
