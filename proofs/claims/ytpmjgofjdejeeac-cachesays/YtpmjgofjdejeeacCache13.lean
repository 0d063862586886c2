/- Put, all roads in one; what is at hand then. -/
import Derived.Test.YtpmjgofjdejeeacCache12
import Derived.Test.YtpmjgofjdejeeacCache5
namespace Go.Proofs.Ytpmjgofjdejeeac
open Go.RowKit Go.BigFrame
attribute [local go_sem] Later.cell Later.frozen

/-- What is at hand behind a Put that is done. -/
def PutsM (l : List Bf) (x : Bf) (H : Int → Bool) (m : List Bf) : Prop :=
  (∃ k : Nat, ∃ _ : k < l.length, idxB (plB x.pl) l = k ∧ m = l.set k x) ∨
  (idxB (plB x.pl) l = -1 ∧ l.length < 8 ∧ m = insL l x) ∨
  (idxB (plB x.pl) l = -1 ∧ l.length = 8 ∧ ∃ k : Nat, ∃ _ : k < l.length, leastU (fitB false H) l l.length = k ∧ m = insL (l.eraseIdx k) x)
def PutOut (l : List Bf) (x : Bf) (H : Int → Bool) (w' : World) (e : Ending) : Prop :=
  (∃ (m : List Bf) (a' : Option Addr) (c' : Nat), PutsM l x H m ∧ e = .returned (.tuple #[.slice a' m.length c', .nilIface]) ∧ BufsAt w' a' m ∧ m.length ≤ c') ∨
  (idxB (plB x.pl) l = -1 ∧ l.length = 8 ∧ leastU (fitB false H) l l.length = -1 ∧ e = .returned (.tuple #[.slice none 0 0, .iface 47 (.int .i64 7)]))

theorem insL_length (l : List Bf) (x : Bf) : (insL l x).length = l.length + 1 := by
  have := gtAt_le x.pl l
  simp [insL]; omega

theorem put_any (gh : Nat) (egh : ∀ args w, (callFunc gh args).run Try.prog w = .ok (.enter gh args) w) (hc : Array Value) (H : Int → Bool) (l : List Bf) (a : Option Addr) (c : Nat) (x : Bf) (w : World) (hl : BufsAt w a l) (hn : a = none → c = 0) (h8 : l.length ≤ 8)
    (hh : ∀ n w', Below w.heap.size w w' → Calls Try.prog gh (#[.int .i64 n] ++ hc) w' fun e w'' => e = .returned (.bool (H n)) ∧ Below w'.heap.size w' w'') :
    Calls Try.prog 42 #[.slice a l.length c, x.val, .func (.func gh) #[] hc] w fun e w' => PutOut l x H w' e ∧ Below w.heap.size w w' := by
  rcases idx_spec (plB x.pl) l with ⟨hi, _⟩ | ⟨k, hk, hi, _⟩
  · by_cases hlt : l.length < 8
    · refine (put_room gh hc l a c x w hl hn hlt hi).mono ?_
      rintro e w' ⟨a', c', rfl, h1, h2, h3⟩
      exact ⟨Or.inl ⟨insL l x, a', c', Or.inr (Or.inl ⟨hi, hlt, rfl⟩), by rw [insL_length], h1, by rw [insL_length]; exact h2⟩, h3⟩
    · have h8' : l.length = 8 := by omega
      rcases leastU_spec (fitB false H) l l.length (Nat.le_refl _) with ⟨hr, _⟩ | ⟨k, hk, _, hr, _⟩
      · refine (put_full gh egh hc H l a c x w hl hn h8' hi hh hr).mono ?_
        rintro e w' ⟨rfl, h3⟩
        exact ⟨Or.inr ⟨hi, h8', hr, rfl⟩, h3⟩
      · refine (put_drop gh egh hc H l a c x w hl hn h8' hi hh k hk hr).mono ?_
        rintro e w' ⟨a', c', rfl, h1, h2, h3⟩
        have hL : (insL (l.eraseIdx k) x).length = l.length := by rw [insL_length, List.length_eraseIdx, if_pos hk]; omega
        exact ⟨Or.inl ⟨insL (l.eraseIdx k) x, a', c', Or.inr (Or.inr ⟨hi, h8', k, hk, hr, rfl⟩), by rw [hL], h1, by rw [hL]; exact h2⟩, h3⟩
  · refine (put_have gh hc l a c x w hl hn h8 k hk hi).mono ?_
    rintro e w' ⟨a', c', rfl, h1, h2, h3⟩
    exact ⟨Or.inl ⟨l.set k x, a', c', Or.inl ⟨k, hk, hi, rfl⟩, by rw [List.length_set], h1, by rw [List.length_set]; exact h2⟩, h3⟩

theorem mem_insL {l : List Bf} {x y : Bf} : y ∈ insL l x ↔ y = x ∨ y ∈ l := by
  rw [insL, List.mem_append, List.mem_cons]
  constructor
  · rintro (h | h | h)
    · exact Or.inr (List.mem_of_mem_take h)
    · exact Or.inl h
    · exact Or.inr (List.mem_of_mem_drop h)
  · rintro (h | h)
    · exact Or.inr (Or.inl h)
    · rw [← List.take_append_drop (gtAt x.pl l) l, List.mem_append] at h
      exact h.imp id Or.inr
theorem idx_mem {l : List Bf} {y : Bf} (h : y ∈ l) : ∃ k : Nat, ∃ _ : k < l.length, idxB (plB y.pl) l = k := by
  rcases idx_spec (plB y.pl) l with ⟨_, h1⟩ | ⟨k, hk, e, _⟩
  · obtain ⟨j, hj, rfl⟩ := List.getElem_of_mem h
    have := h1 j hj
    simp [plB] at this
  · exact ⟨k, hk, e⟩
theorem idx_pl {l : List Bf} {at' : Int} {k : Nat} (hk : k < l.length) (h : idxB (plB at') l = k) : l[k].pl = at' := by
  rcases idx_spec (plB at') l with ⟨e, _⟩ | ⟨k', hk', e, h2, _⟩
  · rw [h] at e; omega
  · have : k' = k := by omega
    subst this
    simpa [plB] using h2

/-- Who is not at hand any more was used least lately of those that may go. -/
theorem PutsM.lately {l : List Bf} {x : Bf} {H : Int → Bool} {m : List Bf} (h : PutsM l x H m) (hH : ∀ n, H n = false) (i : Nat) (hi : i < l.length) :
    (∃ k : Nat, ∃ _ : k < m.length, idxB (plB l[i].pl) m = k) ∨ (idxB (plB l[i].pl) m = -1 ∧ ∀ n (hn : n < l.length), l[n].dirty = false → decide (l[n].used < l[i].used) = false) := by
  rcases h with ⟨k, hk, hix, rfl⟩ | ⟨_, _, rfl⟩ | ⟨_, _, k, hk, hr, rfl⟩
  · left
    by_cases e : i = k
    · subst e
      have hm : x ∈ l.set i x := List.mem_set hk x
      have := idx_mem hm
      rw [← idx_pl hk hix] at this
      exact this
    · have hi' : i < (l.set k x).length := by rw [List.length_set]; exact hi
      have hm := List.getElem_mem hi'
      rw [List.getElem_set_ne (fun h => e h.symm)] at hm
      exact idx_mem hm
  · exact Or.inl (idx_mem (mem_insL.2 (Or.inr (List.getElem_mem hi))))
  · by_cases e : i = k
    · subst e
      rcases idx_spec (plB l[i].pl) (insL (l.eraseIdx i) x) with ⟨e1, _⟩ | ⟨k, hk, e1, _⟩
      · right
        refine ⟨e1, fun n hn hd => ?_⟩
        rcases leastU_spec (fitB false H) l l.length (Nat.le_refl _) with ⟨e2, _⟩ | ⟨k', hk', _, e2, _, hmin, _⟩
        · rw [hr] at e2; omega
        · have : k' = i := by rw [hr] at e2; omega
          subst this
          have := hmin n hn hn (by simp [fitB, hd, hH])
          exact decide_eq_false (by omega)
      · exact Or.inl ⟨k, hk, e1⟩
    · left
      apply idx_mem
      rw [mem_insL]
      right
      rw [List.mem_eraseIdx_iff_getElem]
      exact ⟨i, hi, e, rfl⟩
end Go.Proofs.Ytpmjgofjdejeeac
