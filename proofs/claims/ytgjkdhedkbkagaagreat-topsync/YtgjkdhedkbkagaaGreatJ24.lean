/- A stack of all: what stays true of it. The sectors at hand, and the requests. -/
import Derived.Test.YtgjkdhedkbkagaaGreatJ23
namespace Go.Proofs.YtgjkdhedkbkagaaGreat
open Go.RowKit
set_option maxRecDepth 100000

/-! ### sectors at hand -/
theorem getB_idx (l : List Bf) (pl : Int) : (getB l pl = none ∧ idxB (plB pl) l = -1) ∨ ∃ (k : Nat) (hk : k < l.length), getB l pl = some l[k] ∧ idxB (plB pl) l = k ∧ l[k].pl = pl := by
  rcases idx_spec (plB pl) l with ⟨h1, h2⟩ | ⟨k, hk, h1, h2, h3⟩
  · refine Or.inl ⟨?_, h1⟩
    rw [getB, List.find?_eq_none]
    intro x hx
    obtain ⟨j, hj, rfl⟩ := List.getElem_of_mem hx
    rw [h2 j hj]; simp
  · refine Or.inr ⟨k, hk, ?_, h1, by simpa [plB] using h2⟩
    rw [getB, List.find?_eq_some_iff_getElem]
    exact ⟨h2, k, hk, rfl, fun j hj => by rw [h3 j hj]; rfl⟩
theorem getB_some {l : List Bf} {pl : Int} {x : Bf} (h : getB l pl = some x) : x ∈ l ∧ x.pl = pl := by
  rcases getB_idx l pl with ⟨h1, _⟩ | ⟨k, hk, h1, _, h3⟩
  · rw [h1] at h; cases h
  · rw [h1] at h
    obtain rfl := Option.some.inj h
    exact ⟨List.getElem_mem hk, h3⟩
theorem getB_none {l : List Bf} {pl : Int} (h : getB l pl = none) : ∀ x ∈ l, x.pl ≠ pl := fun x hx e => by
  rw [getB, List.find?_eq_none] at h
  have := h x hx
  simp [plB, e] at this
/-- In a list that rises a sector is found by its place. -/
theorem getB_mem {l : List Bf} (hr : l.Pairwise ltB) {x : Bf} (hx : x ∈ l) : getB l x.pl = some x := by
  obtain ⟨j, hj, hi, e⟩ := at_mem hr hx
  rcases getB_idx l x.pl with ⟨_, h2⟩ | ⟨k, hk, h1, h2, _⟩
  · rw [h2] at hi; omega
  · obtain rfl : k = j := by omega
    rw [h1, e]
theorem putB_putsM {l : List Bf} {x : Bf} {H : Int → Bool} {m : List Bf} (h8 : l.length ≤ 8) (h : putB l x H = some m) : PutsM l x H m := by
  unfold putB at h
  rcases getB_idx l x.pl with ⟨_, h2⟩ | ⟨k, hk, _, h2, _⟩
  · rw [h2, if_neg (by omega)] at h
    by_cases h3 : l.length < 8
    · rw [if_pos h3] at h
      exact Or.inr (Or.inl ⟨h2, h3, (Option.some.inj h).symm⟩)
    · rw [if_neg h3] at h
      rcases leastU_spec (fitB false H) l l.length (Nat.le_refl _) with ⟨hr, _⟩ | ⟨k, hk, _, hr, _⟩
      · rw [hr, if_neg (by omega)] at h; cases h
      · rw [hr, if_pos (by omega)] at h
        exact Or.inr (Or.inr ⟨h2, by omega, k, hk, hr, (Option.some.inj h).symm⟩)
  · rw [h2, if_pos (by omega)] at h
    exact Or.inl ⟨k, hk, h2, (Option.some.inj h).symm⟩
/-- What is at hand, in order, few. -/
structure HandOk (l : List Bf) : Prop where
  rise : l.Pairwise ltB
  len : l.length ≤ 8
  in' : ∀ x ∈ l, 0 ≤ x.pl ∧ x.pl ≤ 31 ∧ x.data.size ≤ 4
theorem HandOk.goodB {l : List Bf} (h : HandOk l) : GoodB l := by
  refine ⟨h.len, fun i hi => ?_, fun i hi => ?_⟩
  · have := h.in' _ (List.getElem_mem hi)
    omega
  · exact List.pairwise_iff_getElem.1 h.rise i (i + 1) (by omega) hi (by omega)
theorem HandOk.once {l : List Bf} (h : HandOk l) : OnceB l := h.goodB.once
theorem dirtyB_count (l : List Bf) : dirtyB l = l.countP (fun x => x.dirty) := by rw [dirtyB, List.countP_eq_length_filter]
theorem dirtyB_insL (l : List Bf) (x : Bf) : dirtyB (insL l x) = dirtyB l + if x.dirty = true then 1 else 0 := by
  have e : dirtyB l = (l.take (gtAt x.pl l)).countP (fun x => x.dirty) + (l.drop (gtAt x.pl l)).countP (fun x => x.dirty) := by rw [dirtyB_count, ← List.countP_append, List.take_append_drop]
  rw [e, dirtyB_count, insL, List.countP_append, List.countP_cons]
  omega
theorem dirtyB_set {l : List Bf} {k : Nat} (hk : k < l.length) (x : Bf) : dirtyB (l.set k x) + (if l[k].dirty = true then 1 else 0) = dirtyB l + if x.dirty = true then 1 else 0 := by
  have e : dirtyB l = (l.take k).countP (fun x => x.dirty) + ((l.drop (k + 1)).countP (fun x => x.dirty) + if l[k].dirty = true then 1 else 0) := by
    have := List.countP_append (p := fun x : Bf => x.dirty) (l₁ := l.take k) (l₂ := l.drop k)
    rw [List.take_append_drop, List.drop_eq_getElem_cons hk, List.countP_cons] at this
    rw [dirtyB_count]; exact this
  rw [e, dirtyB_count, List.set_eq_take_append_cons_drop, if_pos hk, List.countP_append, List.countP_cons]
  omega
theorem dirtyB_erase {l : List Bf} {k : Nat} (hk : k < l.length) (hd : l[k].dirty = false) : dirtyB (l.eraseIdx k) = dirtyB l := by
  have e : dirtyB l = (l.take k).countP (fun x => x.dirty) + ((l.drop (k + 1)).countP (fun x => x.dirty) + if l[k].dirty = true then 1 else 0) := by
    have := List.countP_append (p := fun x : Bf => x.dirty) (l₁ := l.take k) (l₂ := l.drop k)
    rw [List.take_append_drop, List.drop_eq_getElem_cons hk, List.countP_cons] at this
    rw [dirtyB_count]; exact this
  rw [e, hd, dirtyB_count, List.eraseIdx_eq_take_drop_succ, List.countP_append]
  simp
theorem isDirtyB_eq {l : List Bf} {pl : Int} : isDirtyB l pl = true ↔ ∃ x, getB l pl = some x ∧ x.dirty = true := by
  unfold isDirtyB
  cases getB l pl with
  | none => simp
  | some x => simp
theorem fitB_false {H : Int → Bool} {x : Bf} (h : fitB false H x = true) : x.dirty = false ∧ H x.pl = false := by
  simp only [fitB, Bool.and_eq_true, beq_iff_eq, Bool.not_eq_true'] at h
  exact h
theorem fitB_true {H : Int → Bool} {x : Bf} : fitB true H x = true ↔ x.dirty = true ∧ H x.pl = false := by
  simp only [fitB, Bool.and_eq_true, beq_iff_eq, Bool.not_eq_true']
/-- What a Put that is done leaves. -/
structure Puts (l : List Bf) (x : Bf) (H : Int → Bool) (m : List Bf) : Prop where
  ok : (0 ≤ x.pl ∧ x.pl ≤ 31 ∧ x.data.size ≤ 4) → HandOk m
  same : getB m x.pl = some x
  other : ∀ pl, pl ≠ x.pl → getB m pl = getB l pl ∨ (getB m pl = none ∧ l.length = 8 ∧ ∃ y, getB l pl = some y ∧ y.dirty = false ∧ H pl = false)
  mem : ∀ y ∈ m, y = x ∨ y ∈ l
  dirty : dirtyB m ≤ dirtyB l + if x.dirty = true then 1 else 0
  dirty' : isDirtyB l x.pl = true → dirtyB m ≤ dirtyB l
theorem putB_some {l : List Bf} {x : Bf} {H : Int → Bool} {m : List Bf} (h : HandOk l) (hp : putB l x H = some m) : Puts l x H m := by
  have hM := putB_putsM h.len hp
  obtain ⟨K, F⟩ := hM.facts h.goodB
  have hmem : ∀ y ∈ m, y = x ∨ y ∈ l := by
    intro y hy
    rcases hM with ⟨k, hk, _, rfl⟩ | ⟨_, _, rfl⟩ | ⟨_, _, k, hk, _, rfl⟩
    · rcases List.mem_or_eq_of_mem_set hy with h' | h'
      · exact Or.inr h'
      · exact Or.inl h'
    · exact mem_insL.1 hy
    · exact (mem_insL.1 hy).imp id List.mem_of_mem_eraseIdx
  have hsame : getB m x.pl = some x := getB_mem F.rise F.has
  refine ⟨fun hx => ⟨F.rise, F.len, fun y hy => ?_⟩, hsame, fun pl hne => ?_, hmem, ?_, ?_⟩
  · rcases hmem y hy with rfl | h'
    · exact hx
    · exact h.in' y h'
  · cases hl : getB l pl with
    | none =>
      left
      cases hm : getB m pl with
      | none => rfl
      | some y =>
        obtain ⟨h1, h2⟩ := getB_some hm
        rcases hmem y h1 with rfl | h'
        · exact absurd h2.symm hne
        · exact absurd h2 (getB_none hl y h')
    | some y =>
      obtain ⟨h1, h2⟩ := getB_some hl
      obtain ⟨i, hi, rfl⟩ := List.getElem_of_mem h1
      by_cases e : i = K
      · subst e
        obtain ⟨g1, g2, g3, g4, g5⟩ := F.gone hi
        right
        refine ⟨?_, g1, l[i], rfl, g2, by rw [← h2]; exact g3⟩
        rw [h2] at g4
        rcases getB_idx m pl with ⟨k1, _⟩ | ⟨k, hk, _, k2, _⟩
        · exact k1
        · omega
      · left
        have := getB_mem F.rise (F.kept i hi (by rw [h2]; exact hne) e)
        rw [h2] at this
        exact this
  · rcases hM with ⟨k, hk, _, rfl⟩ | ⟨_, _, rfl⟩ | ⟨_, _, k, hk, hr, rfl⟩
    · have := dirtyB_set hk x; omega
    · rw [dirtyB_insL]; omega
    · have hf : fitB false H l[k] = true := by
        rcases leastU_spec (fitB false H) l l.length (Nat.le_refl _) with ⟨h1, _⟩ | ⟨k', hk', _, h1, h2, _⟩
        · omega
        · obtain rfl : k = k' := by omega
          exact h2
      rw [dirtyB_insL, dirtyB_erase hk (fitB_false hf).1]; omega
  · intro hd
    obtain ⟨y, hy, hyd⟩ := isDirtyB_eq.1 hd
    rcases hM with ⟨k, hk, hi, rfl⟩ | ⟨hi, _, rfl⟩ | ⟨hi, _, k, hk, hr, rfl⟩
    · rcases getB_idx l x.pl with ⟨k1, _⟩ | ⟨k', hk', k1, k2, _⟩
      · rw [k1] at hy; cases hy
      · obtain rfl : k = k' := by omega
        rw [k1] at hy
        obtain rfl := Option.some.inj hy
        have := dirtyB_set hk x
        rw [hyd] at this
        simp only [if_true] at this
        split at this <;> omega
    · rcases getB_idx l x.pl with ⟨k1, _⟩ | ⟨k', hk', k1, k2, _⟩
      · rw [k1] at hy; cases hy
      · omega
    · rcases getB_idx l x.pl with ⟨k1, _⟩ | ⟨k', hk', k1, k2, _⟩
      · rw [k1] at hy; cases hy
      · omega
theorem putB_none {l : List Bf} {x : Bf} {H : Int → Bool} (h : HandOk l) (hp : putB l x H = none) : getB l x.pl = none ∧ l.length = 8 ∧ ∀ y ∈ l, y.dirty = false → H y.pl = true := by
  unfold putB at hp
  rcases getB_idx l x.pl with ⟨h1, h2⟩ | ⟨k, hk, _, h2, _⟩
  · rw [h2, if_neg (by omega)] at hp
    by_cases h3 : l.length < 8
    · rw [if_pos h3] at hp; cases hp
    · rw [if_neg h3] at hp
      have := h.len
      refine ⟨h1, by omega, fun y hy hd => ?_⟩
      rcases leastU_spec (fitB false H) l l.length (Nat.le_refl _) with ⟨_, h4⟩ | ⟨k, hk, _, hr, _⟩
      · obtain ⟨j, hj, rfl⟩ := List.getElem_of_mem hy
        have := h4 j hj hj
        simp only [fitB, hd] at this
        simpa using this
      · rw [hr, if_pos (by omega)] at hp; cases hp
  · rw [h2, if_pos (by omega)] at hp; cases hp
theorem map_find (l : List Bf) (g : Bf → Bf) (hg : ∀ x, (g x).pl = x.pl) (pl : Int) : getB (l.map g) pl = (getB l pl).map g := by
  unfold getB
  rw [List.find?_map]
  congr 2
  funext x
  simp [plB, hg]
theorem useL_get (l : List Bf) (pl u q : Int) : getB (useL l pl u) q = (getB l q).map fun x => if x.pl = pl then { x with used := u } else x := map_find l _ (fun x => by split <;> rfl) q
theorem HandOk.map {l : List Bf} (h : HandOk l) (g : Bf → Bf) (hg : ∀ x, (g x).pl = x.pl ∧ (g x).data = x.data) : HandOk (l.map g) := by
  refine ⟨?_, by rw [List.length_map]; exact h.len, fun y hy => ?_⟩
  · rw [List.pairwise_map]
    exact h.rise.imp (fun {a b} hab => by simp only [ltB, (hg a).1, (hg b).1] at *; exact hab)
  · obtain ⟨x, hx, rfl⟩ := List.mem_map.1 hy
    rw [(hg x).1, (hg x).2]; exact h.in' x hx
theorem HandOk.useL {l : List Bf} (h : HandOk l) (pl u : Int) : HandOk (useL l pl u) := h.map _ (fun x => by split <;> exact ⟨rfl, rfl⟩)
theorem HandOk.cleanL {l : List Bf} (h : HandOk l) (pl : Int) (s : ByteArray) : HandOk (cleanL l pl s) := h.map _ (fun x => by split <;> exact ⟨rfl, rfl⟩)
theorem dirty_map_eq (l : List Bf) (g : Bf → Bf) (hg : ∀ x, (g x).dirty = x.dirty) : dirtyB (l.map g) = dirtyB l := by
  rw [dirtyB_count, dirtyB_count, List.countP_map]
  congr 1
  funext x
  exact hg x
theorem dirty_map_le (l : List Bf) (g : Bf → Bf) (hg : ∀ x, (g x).dirty = true → x.dirty = true) : dirtyB (l.map g) ≤ dirtyB l := by
  rw [dirtyB_count, dirtyB_count, List.countP_map]
  exact List.countP_mono_left (fun x _ hx => hg x hx)
theorem dirty_useL (l : List Bf) (pl u : Int) : dirtyB (useL l pl u) = dirtyB l := dirty_map_eq l _ (fun x => by split <;> rfl)
theorem dirty_cleanL (l : List Bf) (pl : Int) (s : ByteArray) : dirtyB (cleanL l pl s) ≤ dirtyB l := dirty_map_le l _ (fun x => by split <;> simp)
end Go.Proofs.YtgjkdhedkbkagaaGreat
/- A stack of all: what stays true of the requests. -/
namespace Go.Proofs.YtgjkdhedkbkagaaGreat
open Go.RowKit
set_option maxRecDepth 100000

/-- A sector is one of the request's. -/
def Rq.on (q : Rq) (a : Int) : Prop := q.f ≤ a ∧ a < q.f + q.m
/-- What it writes there. -/
def dataAt (q : Rq) (a : Int) : ByteArray := q.data.getD (a - q.f).toNat ByteArray.empty
/-- No sector in common. -/
def apartQ (x y : Rq) : Prop := ∀ a : Int, x.on a → y.on a → False
theorem apartQ.symm {x y : Rq} (h : apartQ x y) : apartQ y x := fun a h1 h2 => h a h2 h1
theorem meets_apart {o r : Rq} (go : Good o) (gr : Good r) : meetsB r o = false ↔ apartQ o r := by
  rw [meetsB, meetB_ok _ _ _ _ (ok4_32 go.ok) (ok4_32 gr.ok), decide_eq_false_iff_not]
  have h1 := go.bds
  have h2 := gr.bds
  constructor
  · intro h a ⟨a1, a2⟩ ⟨a3, a4⟩
    exact h ⟨by omega, by omega⟩
  · intro h ⟨h3, h4⟩
    by_cases e : o.f ≤ r.f
    · exact h r.f ⟨e, by omega⟩ ⟨by omega, by omega⟩
    · exact h o.f ⟨by omega, by omega⟩ ⟨by omega, by omega⟩
theorem has_on {r : Rq} (gr : Good r) (a : Int) (ha : a ≤ 9223372036854775807) : hasB r.f r.m a = true ↔ r.on a := by
  rw [hasB_ok r.f r.m 4 a gr.ok ha]
  simp [inSpan, Rq.on]
theorem joinE_both {o r : Rq} (h : togE o r = true) : BothE o r (joinE o r) := by
  have hb : ∀ a b : Rq, IsBoth a b (joinF a b) := fun a b => ⟨rfl, rfl, rfl, rfl, rfl, rfl⟩
  unfold joinE
  by_cases h1 : togB o r = true
  · rw [if_pos h1]; exact Or.inl ⟨h1, hb o r⟩
  · rw [if_neg h1]
    have h1' : togB o r = false := by simpa using h1
    have h2 : togB r o = true := by simpa [togE, h1'] using h
    exact Or.inr ⟨h1', h2, hb r o⟩
theorem joinE_tags (o r : Rq) : ∀ t ∈ (joinE o r).tags, t ∈ o.tags ∨ t ∈ r.tags := by
  unfold joinE
  intro t ht
  split at ht
  · exact List.mem_append.1 ht
  · exact (List.mem_append.1 ht).symm
theorem on_in {q : Rq} {a : Int} : inSpan q.f q.m a = true ↔ q.on a := by simp [inSpan, Rq.on]
theorem Joined.on {a b q : Rq} (h : Joined a b q) (x : Int) : q.on x ↔ a.on x ∨ b.on x := by
  rw [← on_in, ← on_in, ← on_in, h.has, Bool.or_eq_true]
theorem Joined.dataA {a b q : Rq} (ga : Good a) (h : Joined a b q) {x : Int} (hx : a.on x) : dataAt q x = dataAt a x := by
  cases hw : q.wr with
  | true =>
    obtain ⟨i, j, e1, e2, hi, hj, e⟩ := h.ina hw x (on_in.2 hx)
    unfold dataAt
    rw [e1, e2, Int.toNat_natCast, Int.toNat_natCast, List.getD_eq_getElem?_getD, List.getD_eq_getElem?_getD, List.getElem?_eq_getElem hi, List.getElem?_eq_getElem hj, Option.getD_some, Option.getD_some, e]
  | false =>
    have h1 := h.good.shapeR hw
    have h2 := ga.shapeR (h.wra ▸ hw)
    unfold dataAt
    rw [h1, h2]; rfl
theorem Joined.dataB {a b q : Rq} (gb : Good b) (h : Joined a b q) {x : Int} (hx : b.on x) : dataAt q x = dataAt b x := h.swap.dataA gb hx
/-- What waits behind an Add that is done. -/
structure Adds (l : List Rq) (r : Rq) (L : List Rq) : Prop where
  good : ∀ q ∈ L, Good q
  apart : L.Pairwise apartQ
  len : L.length ≤ 6 ∨ L.length = l.length
  from' : ∀ q ∈ L, ∀ a, q.on a → ∃ q' ∈ r :: l, q'.on a ∧ q'.wr = q.wr ∧ dataAt q' a = dataAt q a
  to' : ∀ q' ∈ r :: l, ∀ a, q'.on a → ∃ q ∈ L, q.on a ∧ q.wr = q'.wr ∧ dataAt q a = dataAt q' a
  tags : ∀ q ∈ L, ∀ t ∈ q.tags, ∃ q' ∈ r :: l, t ∈ q'.tags
  ne : L ≠ []
theorem addF_some {l L : List Rq} {r : Rq} (gl : ∀ q ∈ l, Good q) (gr : Good r) (ha : l.Pairwise apartQ) (h : addF l r = some L) : Adds l r L := by
  unfold addF at h
  by_cases hm : l.any (meetsB r) = true
  · rw [if_pos hm] at h; cases h
  rw [if_neg hm] at h
  have hr : ∀ q ∈ l, apartQ q r := fun q hq => (meets_apart (gl q hq) gr).1 (by
    cases e : meetsB r q with
    | false => rfl
    | true => exact absurd (List.any_eq_true.2 ⟨q, hq, e⟩) hm)
  have hp := List.pairwise_iff_getElem.1 ha
  cases hf : l.findIdx? (fun o => togE o r) with
  | some k =>
    rw [hf] at h
    obtain ⟨hk, ht, _⟩ := List.findIdx?_eq_some_iff_getElem.1 hf
    have eg : l.getD k r = l[k] := by rw [List.getD_eq_getElem?_getD, List.getElem?_eq_getElem hk, Option.getD_some]
    simp only [eg] at h
    obtain rfl := Option.some.inj h
    have J := (joinE_both ht).joined (gl _ (List.getElem_mem hk)) gr
    have gk := gl _ (List.getElem_mem hk)
    generalize hq : joinE l[k] r = Q at *
    have hset : ∀ i (hi : i < (l.set k Q).length), (i = k ∧ (l.set k Q)[i] = Q) ∨ (i ≠ k ∧ ∃ hi' : i < l.length, (l.set k Q)[i] = l[i]) := fun i hi => by
      rw [List.length_set] at hi
      by_cases e : i = k
      · subst e; exact Or.inl ⟨rfl, by simp⟩
      · exact Or.inr ⟨e, hi, by rw [List.getElem_set_ne (fun h => e h.symm)]⟩
    have hQm : Q ∈ l.set k Q := List.mem_set hk Q
    have hkeep : ∀ i (hi : i < l.length), i ≠ k → l[i] ∈ l.set k Q := fun i hi e => by
      have hi' : i < (l.set k Q).length := by rw [List.length_set]; exact hi
      have := List.getElem_mem hi'
      rw [List.getElem_set_ne (fun h => e h.symm)] at this
      exact this
    refine ⟨fun q hq' => ?_, ?_, Or.inr (by rw [List.length_set]), fun q hq' a ha' => ?_, fun q' hq' a ha' => ?_, fun q hq' t ht' => ?_, fun e => by rw [e] at hQm; cases hQm⟩
    · rcases List.mem_or_eq_of_mem_set hq' with h' | rfl
      · exact gl q h'
      · exact J.good
    · rw [List.pairwise_iff_getElem]
      intro i j hi hj hij
      rcases hset i hi with ⟨e1, e2⟩ | ⟨e1, hi', e2⟩ <;> rcases hset j hj with ⟨f1, f2⟩ | ⟨f1, hj', f2⟩
      · omega
      · rw [e2, f2]
        intro a h1 h2
        subst e1
        rcases (J.on a).1 h1 with h3 | h3
        · exact hp i j hk hj' hij a h3 h2
        · exact hr _ (List.getElem_mem hj') a h2 h3
      · rw [e2, f2]
        intro a h1 h2
        subst f1
        rcases (J.on a).1 h2 with h3 | h3
        · exact hp i j hi' hk hij a h1 h3
        · exact hr _ (List.getElem_mem hi') a h1 h3
      · rw [e2, f2]; exact hp i j hi' hj' hij
    · rcases List.mem_or_eq_of_mem_set hq' with h' | rfl
      · exact ⟨q, List.mem_cons_of_mem _ h', ha', rfl, rfl⟩
      · rcases (J.on a).1 ha' with h1 | h1
        · exact ⟨l[k], List.mem_cons_of_mem _ (List.getElem_mem hk), h1, J.wra.symm, (J.dataA gk h1).symm⟩
        · exact ⟨r, List.mem_cons_self, h1, J.wrb.symm, (J.dataB gr h1).symm⟩
    · rcases List.mem_cons.1 hq' with rfl | h'
      · exact ⟨Q, hQm, (J.on a).2 (Or.inr ha'), J.wrb, J.dataB gr ha'⟩
      · obtain ⟨i, hi, rfl⟩ := List.getElem_of_mem h'
        by_cases e : i = k
        · subst e; exact ⟨Q, hQm, (J.on a).2 (Or.inl ha'), J.wra, J.dataA gk ha'⟩
        · exact ⟨l[i], hkeep i hi e, ha', rfl, rfl⟩
    · rcases List.mem_or_eq_of_mem_set hq' with h' | rfl
      · exact ⟨q, List.mem_cons_of_mem _ h', ht'⟩
      · rw [← hq] at ht'
        rcases joinE_tags _ _ t ht' with h1 | h1
        · exact ⟨l[k], List.mem_cons_of_mem _ (List.getElem_mem hk), h1⟩
        · exact ⟨r, List.mem_cons_self, h1⟩
  | none =>
    rw [hf] at h
    simp only at h
    by_cases h6 : l.length < 6
    · rw [if_pos h6] at h
      obtain rfl := Option.some.inj h
      refine ⟨fun q hq => ?_, ?_, Or.inl (by simp; omega), fun q hq a ha' => ?_, fun q' hq' a ha' => ?_, fun q hq t ht => ?_, by simp⟩
      · rcases List.mem_append.1 hq with h' | h'
        · exact gl q h'
        · rw [List.mem_singleton.1 h']; exact gr
      · rw [List.pairwise_append]
        exact ⟨ha, List.pairwise_singleton _ _, fun a ha' b hb' => by rw [List.mem_singleton.1 hb']; exact hr a ha'⟩
      · refine ⟨q, ?_, ha', rfl, rfl⟩
        rcases List.mem_append.1 hq with h' | h'
        · exact List.mem_cons_of_mem _ h'
        · rw [List.mem_singleton.1 h']; exact List.mem_cons_self
      · refine ⟨q', ?_, ha', rfl, rfl⟩
        rcases List.mem_cons.1 hq' with rfl | h'
        · exact List.mem_append_right _ List.mem_cons_self
        · exact List.mem_append_left _ h'
      · refine ⟨q, ?_, ht⟩
        rcases List.mem_append.1 hq with h' | h'
        · exact List.mem_cons_of_mem _ h'
        · rw [List.mem_singleton.1 h']; exact List.mem_cons_self
    · rw [if_neg h6] at h; cases h
theorem addF_none {l : List Rq} {r : Rq} (gl : ∀ q ∈ l, Good q) (gr : Good r) (hr : ∀ q ∈ l, apartQ q r) (h : addF l r = none) : 6 ≤ l.length := by
  unfold addF at h
  have hm : ¬ l.any (meetsB r) = true := fun hm => by
    obtain ⟨q, hq, e⟩ := List.any_eq_true.1 hm
    have := (meets_apart (gl q hq) gr).2 (hr q hq)
    rw [this] at e; cases e
  rw [if_neg hm] at h
  cases hf : l.findIdx? (fun o => togE o r) with
  | some k => rw [hf] at h; cases h
  | none =>
    rw [hf] at h
    simp only at h
    by_cases h6 : l.length < 6
    · rw [if_pos h6] at h; cases h
    · omega
end Go.Proofs.YtgjkdhedkbkagaaGreat
/- A stack of all: what stays true of it, call by call. -/
namespace Go.Proofs.YtgjkdhedkbkagaaGreat
open Go.RowKit
set_option maxRecDepth 100000

structure ClOk (c : Cl) : Prop where
  kind : 0 ≤ c.kind ∧ c.kind ≤ 3
  pl : ¬ c.kind = 0 → 0 ≤ c.pl ∧ c.pl ≤ 31
  data : c.data.size ≤ 4
  left : ∀ t ∈ c.left, 0 ≤ t ∧ t ≤ 31
theorem size_empty : ByteArray.empty.size = 0 := rfl
theorem idleOk (s : ByteArray) (e : Int) : ClOk ⟨0, 0, ByteArray.empty, [], s, e⟩ := ⟨⟨Int.le_refl 0, by show (0 : Int) ≤ 3; omega⟩, fun h => absurd rfl h, by show ByteArray.empty.size ≤ 4; rw [size_empty]; omega, fun t ht => by cases ht⟩
theorem cl0_ok : ClOk cl0 := idleOk _ _
structure Inv (p : Sk) : Prop where
  cl3 : p.cl.length = 3
  cok : ∀ c ∈ p.cl, ClOk c
  hand : HandOk p.hand
  d6 : dirtyB p.hand ≤ 6
  good : ∀ r ∈ p.queue ++ p.dev.busy, Good r
  apart : (p.queue ++ p.dev.busy).Pairwise apartQ
  q6 : p.queue.length ≤ 6
  b2 : p.dev.busy.length ≤ 2
  mom : 0 ≤ p.moment ∧ p.moment ≤ 1000000000
  tg : 0 ≤ p.tags
  us : 0 ≤ p.uses
  tin : ∀ r ∈ p.queue ++ p.dev.busy, ∀ t ∈ r.tags, 1 ≤ t ∧ t ≤ p.tags
  n32 : p.dev.now.length = 32
  g32 : p.dev.good.length = 32
  ts : 0 ≤ p.turn.s ∧ p.turn.s ≤ 2
  fr : ∀ t, 0 ≤ p.f t ∧ p.f t ≤ 2
section
variable {p : Sk}
theorem Inv.client (h : Inv p) (i : Nat) : ClOk (p.client i) := by
  unfold Sk.client
  rw [List.getD_eq_getElem?_getD]
  cases e : p.cl[i]? with
  | none => exact cl0_ok
  | some c => exact h.cok c (List.mem_of_getElem? e)
theorem Inv.setCl (h : Inv p) (i : Nat) (c : Cl) (hc : ClOk c) : Inv { p with cl := p.cl.set i c } :=
  ⟨by show (p.cl.set i c).length = 3; rw [List.length_set]; exact h.cl3, fun x hx => (List.mem_or_eq_of_mem_set hx).elim (h.cok x) (fun e => e ▸ hc), h.hand, h.d6, h.good, h.apart, h.q6, h.b2, h.mom, h.tg, h.us, h.tin, h.n32, h.g32, h.ts, h.fr⟩
theorem Inv.answer (h : Inv p) (i : Nat) (s : ByteArray) (e : Int) : Inv (p.answer i s e) := h.setCl i _ (idleOk s e)
theorem Inv.setHand (h : Inv p) (l : List Bf) (u : Int) (hl : HandOk l) (hd : dirtyB l ≤ 6) (hu : 0 ≤ u) : Inv { p with hand := l, uses := u } :=
  ⟨h.cl3, h.cok, hl, hd, h.good, h.apart, h.q6, h.b2, h.mom, h.tg, hu, h.tin, h.n32, h.g32, h.ts, h.fr⟩
theorem held_iff (h : Inv p) (pl : Int) (hpl : pl ≤ 31) : p.held pl = false ↔ ∀ r ∈ p.queue ++ p.dev.busy, ¬ r.on pl := by
  unfold Sk.held
  rw [List.any_eq_false]
  constructor
  · intro h1 r hr ho
    exact h1 r hr ((has_on (h.good r hr) pl (by omega)).2 ho)
  · intro h1 r hr ho
    exact h1 r hr ((has_on (h.good r hr) pl (by omega)).1 ho)
theorem reqOf_good (h : Inv p) (pl : Int) (hpl : 0 ≤ pl ∧ pl ≤ 31) (wr : Bool) (data : List ByteArray) (hd : (wr = true ∧ data.length = 1 ∧ ∀ s ∈ data, s.size ≤ 4) ∨ (wr = false ∧ data = [])) : Good (p.reqOf pl wr data) := by
  refine ⟨by show okB pl 1 4 = true; simp only [okB, decide_eq_true_eq]; omega, ?_, by simp [Sk.reqOf], by simp [Sk.reqOf], h.mom.1, h.mom.2, ?_⟩
  · rcases hd with ⟨rfl, h1, _⟩ | ⟨rfl, rfl⟩
    · simp [Sk.reqOf, shapeB, h1]
    · simp [Sk.reqOf, shapeB]
  · rcases hd with ⟨_, _, h2⟩ | ⟨_, rfl⟩
    · simp only [Sk.reqOf, small4, List.all_eq_true, decide_eq_true_eq]; exact h2
    · rfl
theorem reqOf_on (pl : Int) (wr : Bool) (data : List ByteArray) (a : Int) : (p.reqOf pl wr data).on a ↔ a = pl := by
  simp only [Rq.on, Sk.reqOf]; omega
/-- What asking the queue makes of what waits. -/
theorem askQ_cases (pl : Int) (wr : Bool) (data : List ByteArray) : (addF p.queue (p.reqOf pl wr data) = none ∧ p.askQ pl wr data = (false, p)) ∨ ∃ L, addF p.queue (p.reqOf pl wr data) = some L ∧ p.askQ pl wr data = (true, { p with queue := L, tags := p.tags + 1 }) := by
  unfold Sk.askQ
  cases e : addF p.queue (p.reqOf pl wr data) with
  | none => exact Or.inl ⟨rfl, rfl⟩
  | some L => exact Or.inr ⟨L, rfl, rfl⟩
theorem Inv.queue (h : Inv p) : (∀ q ∈ p.queue, Good q) ∧ p.queue.Pairwise apartQ := ⟨fun q hq => h.good q (List.mem_append_left _ hq), (List.pairwise_append.1 h.apart).1⟩
theorem Inv.adds (h : Inv p) {pl : Int} (hpl : 0 ≤ pl ∧ pl ≤ 31) {wr : Bool} {data : List ByteArray} (hd : (wr = true ∧ data.length = 1 ∧ ∀ s ∈ data, s.size ≤ 4) ∨ (wr = false ∧ data = [])) {L : List Rq} (e : addF p.queue (p.reqOf pl wr data) = some L) : Adds p.queue (p.reqOf pl wr data) L :=
  addF_some h.queue.1 (reqOf_good h pl hpl wr data hd) h.queue.2 e
theorem Inv.askQ (h : Inv p) (pl : Int) (hpl : 0 ≤ pl ∧ pl ≤ 31) (wr : Bool) (data : List ByteArray) (hd : (wr = true ∧ data.length = 1 ∧ ∀ s ∈ data, s.size ≤ 4) ∨ (wr = false ∧ data = [])) (hh : p.held pl = false) : Inv (p.askQ pl wr data).2 := by
  rcases askQ_cases (p := p) pl wr data with ⟨_, e⟩ | ⟨L, e1, e⟩
  · rw [e]; exact h
  · rw [e]
    have A := h.adds hpl hd e1
    have hno := (held_iff h pl hpl.2).1 hh
    have hap := List.pairwise_append.1 h.apart
    refine ⟨h.cl3, h.cok, h.hand, h.d6, fun r hr => ?_, ?_, ?_, h.b2, h.mom, by show 0 ≤ p.tags + 1; have := h.tg; omega, h.us, fun r hr t ht => ?_, h.n32, h.g32, h.ts, h.fr⟩
    · rcases List.mem_append.1 hr with h' | h'
      · exact A.good r h'
      · exact h.good r (List.mem_append_right _ h')
    · refine List.pairwise_append.2 ⟨A.apart, hap.2.1, fun q hq b hb a h1 h2 => ?_⟩
      obtain ⟨q', hq', h3, _, _⟩ := A.from' q hq a h1
      rcases List.mem_cons.1 hq' with rfl | h4
      · rw [reqOf_on] at h3
        subst h3
        exact hno b (List.mem_append_right _ hb) h2
      · exact hap.2.2 q' h4 b hb a h3 h2
    · have := h.q6
      show L.length ≤ 6
      rcases A.len with h' | h' <;> omega
    · have htg : ∀ r ∈ p.queue ++ p.dev.busy, ∀ t ∈ r.tags, 1 ≤ t ∧ t ≤ p.tags + 1 := fun r hr t ht => by have := h.tin r hr t ht; omega
      rcases List.mem_append.1 hr with h' | h'
      · obtain ⟨q', hq', ht'⟩ := A.tags r h' t ht
        rcases List.mem_cons.1 hq' with rfl | h4
        · have : t = p.tags + 1 := by simpa [Sk.reqOf] using ht'
          have := h.tg
          show 1 ≤ t ∧ t ≤ p.tags + 1
          omega
        · exact htg q' (List.mem_append_left _ h4) t ht'
      · exact htg r (List.mem_append_right _ h') t ht
theorem Inv.serveRead (h : Inv p) (i : Nat) (hk : (p.client i).kind = 1) : Inv (p.serveRead i) := by
  have hc := h.client i
  have hpl := hc.pl (by rw [hk]; omega)
  unfold Sk.serveRead
  cases e : getB p.hand (p.client i).pl with
  | some b => exact (h.setHand _ _ (h.hand.useL _ _) (by rw [dirty_useL]; exact h.d6) (by have := h.us; omega)).answer i _ _
  | none =>
    by_cases hh : p.held (p.client i).pl = true
    · simp only [hh, if_true]; exact h
    · simp only [hh]
      exact h.askQ _ hpl _ _ (Or.inr ⟨rfl, rfl⟩) (by simpa using hh)
theorem Inv.serveWrite (h : Inv p) (i : Nat) (hk : (p.client i).kind = 2) : Inv (p.serveWrite i) := by
  have hc := h.client i
  have hpl := hc.pl (by rw [hk]; omega)
  have hu : 0 ≤ p.uses + 1 := by have := h.us; omega
  unfold Sk.serveWrite
  by_cases hd : p.dead = true
  · rw [if_pos hd]; exact h.answer i _ _
  rw [if_neg hd]
  by_cases h6 : 6 ≤ dirtyB p.hand ∧ isDirtyB p.hand (p.client i).pl = false
  · rw [if_pos h6]; exact h
  rw [if_neg h6]
  cases e : putB p.hand ⟨(p.client i).pl, (p.client i).data, true, p.uses + 1⟩ p.held with
  | none => exact h.setHand p.hand _ h.hand h.d6 hu
  | some l =>
    have P := putB_some h.hand e
    refine (h.setHand l _ (P.ok ⟨hpl.1, hpl.2, hc.data⟩) ?_ hu).answer i _ _
    by_cases h7 : isDirtyB p.hand (p.client i).pl = true
    · have := P.dirty' h7
      have := h.d6
      omega
    · have := P.dirty
      simp only [if_true] at this
      have : ¬ 6 ≤ dirtyB p.hand := fun h' => h6 ⟨h', by simpa using h7⟩
      omega
theorem Inv.flushed (h : Inv p) : Inv { p with dev := p.dev.flush } :=
  ⟨h.cl3, h.cok, h.hand, h.d6, h.good, h.apart, h.q6, h.b2, h.mom, h.tg, h.us, h.tin, h.n32, h.n32, h.ts, h.fr⟩
theorem Inv.serveSync (h : Inv p) (i : Nat) : Inv (p.serveSync i) := by
  have hc := h.client i
  unfold Sk.serveSync
  by_cases hd : p.dead = true
  · rw [if_pos hd]; exact h.answer i _ _
  rw [if_neg hd]
  split
  · exact h.flushed.answer i _ _
  · exact h.setCl i _ ⟨hc.kind, hc.pl, hc.data, fun t ht => hc.left t ((List.mem_filter.1 ht).1)⟩
theorem Inv.serve1 (h : Inv p) (i : Nat) : Inv (p.serve1 i) := by
  unfold Sk.serve1
  split
  · exact h.serveRead i (by assumption)
  · split
    · exact h.serveWrite i (by assumption)
    · split
      · exact h.serveSync i
      · exact h
theorem Inv.serve (h : Inv p) : Inv p.serve := ((h.serve1 0).serve1 1).serve1 2
theorem dirtyOnes_in (h : Inv p) : ∀ t ∈ dirtyOnes p.hand, 0 ≤ t ∧ t ≤ 31 := fun t ht => by
  unfold dirtyOnes at ht
  obtain ⟨x, hx, rfl⟩ := List.mem_map.1 ht
  have := h.hand.in' x ((List.mem_filter.1 hx).1)
  omega
theorem askFault_zero {c kind pl : Int} {data : ByteArray} (h : askFault c kind pl data = 0) : (0 ≤ c ∧ c < 3) ∧ (1 ≤ kind ∧ kind ≤ 3) ∧ (0 ≤ pl ∧ pl ≤ 31) ∧ (kind = 3 → pl = 0) ∧ data.size ≤ 4 ∧ (¬ kind = 2 → data.size = 0) := by
  unfold askFault at h
  split at h
  · omega
  · split at h
    · omega
    · split at h
      · omega
      · omega
theorem Inv.asks (h : Inv p) (c : Nat) (kind pl : Int) (data : ByteArray) (hk : 1 ≤ kind ∧ kind ≤ 3) (hpl : 0 ≤ pl ∧ pl ≤ 31) (hd : data.size ≤ 4) : Inv (p.asks c kind pl data) := by
  refine h.setCl c _ ⟨⟨by show 0 ≤ kind; omega, hk.2⟩, fun _ => hpl, hd, fun t ht => ?_⟩
  have ht' : t ∈ (if kind = 3 then dirtyOnes p.hand else (p.client c).left) := ht
  split at ht'
  · exact dirtyOnes_in h t ht'
  · exact (h.client c).left t ht'
theorem Inv.ask (h : Inv p) (c kind pl : Int) (data : ByteArray) : Inv (p.ask c kind pl data).2 := by
  unfold Sk.ask
  by_cases hf : askFault c kind pl data = 0
  · rw [if_neg (by simpa using hf)]
    split
    · exact h
    · have := askFault_zero hf
      exact (h.asks c.toNat kind pl data this.2.1 this.2.2.1 this.2.2.2.2.1).serve
  · rw [if_pos hf]; exact h
theorem Inv.tick (h : Inv p) : Inv p.tick := by
  refine Inv.serve (p := { p with moment := if p.moment + 1 < 1000000000 then p.moment + 1 else 1000000000 }) ⟨h.cl3, h.cok, h.hand, h.d6, h.good, h.apart, h.q6, h.b2, ?_, h.tg, h.us, h.tin, h.n32, h.g32, h.ts, h.fr⟩
  have := h.mom
  show 0 ≤ (if p.moment + 1 < 1000000000 then p.moment + 1 else 1000000000) ∧ (if p.moment + 1 < 1000000000 then p.moment + 1 else 1000000000) ≤ 1000000000
  split <;> omega
/-- Who is picked. -/
theorem pickB_spec (l : List Bf) (H : Int → Bool) : (pickB l H = -1 ∧ ∀ x ∈ l, x.dirty = true → H x.pl = true) ∨ ∃ x ∈ l, pickB l H = x.pl ∧ x.dirty = true ∧ H x.pl = false := by
  unfold pickB
  rcases leastU_spec (fitB true H) l l.length (Nat.le_refl _) with ⟨h1, h2⟩ | ⟨k, hk, _, h1, h2, _⟩
  · rw [h1, if_neg (by omega)]
    refine Or.inl ⟨rfl, fun x hx hd => ?_⟩
    obtain ⟨j, hj, rfl⟩ := List.getElem_of_mem hx
    have := h2 j hj hj
    simp only [fitB, hd] at this
    simpa using this
  · rw [h1, if_pos (by omega)]
    have e : l.getD ((k : Int).toNat) ⟨0, ByteArray.empty, false, 0⟩ = l[k] := by rw [Int.toNat_natCast, List.getD_eq_getElem?_getD, List.getElem?_eq_getElem hk, Option.getD_some]
    rw [e]
    exact Or.inr ⟨l[k], List.getElem_mem hk, rfl, fitB_true.1 h2⟩
theorem Inv.clean (h : Inv p) : Inv p.clean.2 := by
  unfold Sk.clean
  split
  · exact h
  split
  · exact h
  · rename_i _ hp
    rcases pickB_spec p.hand p.held with ⟨e, _⟩ | ⟨x, hx, e, hd, hh⟩
    · rw [e] at hp; omega
    · have hin := h.hand.in' x hx
      rw [e, getB_mem h.hand.rise hx]
      exact h.askQ _ ⟨hin.1, hin.2.1⟩ _ _ (Or.inl ⟨rfl, rfl, fun s hs => by rw [List.mem_singleton.1 hs]; exact hin.2.2⟩) hh
end
end Go.Proofs.YtgjkdhedkbkagaaGreat
