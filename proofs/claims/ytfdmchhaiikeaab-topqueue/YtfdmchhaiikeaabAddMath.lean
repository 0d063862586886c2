/- What waits when a request was added: each may be, no two meet, all sectors are there. -/
import Derived.Test.YtfdmchhaiikeaabAdd2
namespace Go.Proofs.Ytfdmchhaiikeaab
open Go.RowKit

/-- No sector in common. -/
def ApartR (x y : Rq) : Prop := ¬ (x.f < y.f + y.m ∧ y.f < x.f + x.m)
theorem ApartR.symm {x y : Rq} (h : ApartR x y) : ApartR y x := fun ⟨a, b⟩ => h ⟨b, a⟩
theorem meet_apart {x y : Rq} (gx : Good x) (gy : Good y) : meetB x.f x.m y.f y.m = false ↔ ApartR x y := by
  rw [meetB_ok _ _ _ _ (ok4_32 gx.ok) (ok4_32 gy.ok), decide_eq_false_iff_not]; rfl
theorem Goods.apartR {l : List Rq} (h : Goods l) (i j : Nat) (hi : i < l.length) (hj : j < l.length) (hij : i ≠ j) : ApartR l[i] l[j] := by
  rcases Nat.lt_or_gt_of_ne hij with h' | h'
  · exact ((meet_apart (h.good j hj) (h.good i hi)).1 (h.apart j i hj h')).symm
  · exact (meet_apart (h.good i hi) (h.good j hj)).1 (h.apart i j hi h')
theorem goods_mk {l : List Rq} (hg : ∀ i (h : i < l.length), Good l[i]) (ha : ∀ i j (hi : i < l.length) (hj : j < l.length), i ≠ j → ApartR l[i] l[j]) : Goods l :=
  ⟨hg, fun i j hi hj => (meet_apart (hg i hi) (hg j (by omega))).2 (ha i j hi (by omega) (by omega))⟩
theorem goods_true {l : List Rq} (h : Goods l) : goodsB l = true := by
  simp only [goodsB, List.all_eq_true, List.mem_range, rowB, Bool.and_eq_true]
  intro i hi
  refine ⟨?_, fun j hj => ?_⟩
  · simp only [goodAt, List.getElem?_eq_getElem hi, goodR, decide_eq_true_eq]
    exact (good_iff _).2 (h.good i hi)
  · have hjl : j < l.length := by omega
    simp only [pairB, List.getElem?_eq_getElem hi, List.getElem?_eq_getElem hjl]
    rw [h.apart i j hi hj]; rfl

theorem Joined.apart {o r q x : Rq} (h : Joined o r q) (gx : Good x) (h1 : ApartR o x) (h2 : ApartR r x) : ApartR q x := by
  intro ⟨a, b⟩
  have bx := gx.bnd
  -- a sector of both
  have hs : ∃ t : Int, inSpan q.f q.m t = true ∧ inSpan x.f x.m t = true := by
    have bq := h.good.bnd
    by_cases c : q.f ≤ x.f
    · exact ⟨x.f, by simp only [inSpan, decide_eq_true_eq]; omega, by simp only [inSpan, decide_eq_true_eq]; omega⟩
    · exact ⟨q.f, by simp only [inSpan, decide_eq_true_eq]; omega, by simp only [inSpan, decide_eq_true_eq]; omega⟩
  obtain ⟨t, t1, t2⟩ := hs
  rw [h.has, Bool.or_eq_true] at t1
  simp only [inSpan, decide_eq_true_eq] at t1 t2
  rcases t1 with t1 | t1
  · exact h1 ⟨by omega, by omega⟩
  · exact h2 ⟨by omega, by omega⟩

/-- The sectors of the first k. -/
def sumM (l : List Rq) : Nat → Int
  | 0 => 0
  | k + 1 => sumM l k + (match l[k]? with | some r => r.m | none => 0)
theorem sumM_step {l : List Rq} {k : Nat} (h : k < l.length) : sumM l (k + 1) = sumM l k + l[k].m := by
  rw [sumM, List.getElem?_eq_getElem h]
theorem sumM_bd {l : List Rq} (hg : ∀ i (h : i < l.length), Good l[i]) : ∀ k, k ≤ l.length → 0 ≤ sumM l k ∧ sumM l k ≤ 4 * k := by
  intro k
  induction k with
  | zero => intro _; simp [sumM]
  | succ k ih =>
    intro hk
    have := ih (by omega)
    have b := (hg k (by omega)).bnd
    rw [sumM_step (by omega)]; omega
theorem sumM_congr {l l' : List Rq} : ∀ k, (∀ i, i < k → l[i]? = l'[i]?) → sumM l k = sumM l' k := by
  intro k
  induction k with
  | zero => intro _; rfl
  | succ k ih => intro h; rw [sumM, sumM, ih (fun i hi => h i (by omega)), h k (by omega)]
theorem sumM_set {l : List Rq} {k : Nat} (hk : k < l.length) (q : Rq) : ∀ n, k < n → n ≤ l.length → sumM (l.set k q) n = sumM l n + (q.m - l[k].m) := by
  intro n
  induction n with
  | zero => intro h; omega
  | succ n ih =>
    intro hkn hnl
    by_cases e : k = n
    · subst e
      rw [sumM_step (by rw [List.length_set]; omega), sumM_step hk, List.getElem_set_self, sumM_congr (l := l.set k q) (l' := l) k (fun i hi => by rw [List.getElem?_set_ne (by omega)])]
      omega
    · rw [sumM_step (by rw [List.length_set]; omega), sumM_step (by omega), ih (by omega) (by omega), List.getElem_set_ne e]
      omega

/-- All that TopQueue asks. -/
structure AddedOK (l : List Rq) (r : Rq) (L : List Rq) : Prop where
  goods : Goods L
  len : L.length ≤ l.length + 1
  sum : sumM L L.length = r.m + sumM l l.length
  there : ∃ i, ∃ h : i < L.length, inSpan L[i].f L[i].m r.f = true
  fits : ∀ i (h : i < L.length), inSpan L[i].f L[i].m r.f = true → L[i].wr = r.wr ∧ (L.length = l.length + 1 ∨ r.tags.length < L[i].tags.length)

theorem Added.ok {l L : List Rq} {r : Rq} (h : Added l r L) (gl : Goods l) (gr : Good r) (hm : l.any (meetsB r) = false) : AddedOK l r L := by
  have hap : ∀ j (hj : j < l.length), ApartR l[j] r := fun j hj => by
    rw [List.any_eq_false] at hm
    have := hm l[j] (List.getElem_mem hj)
    simp only [meetsB, Bool.not_eq_true] at this
    exact (meet_apart (gl.good j hj) gr).1 this
  have br := gr.bnd
  have hnot : ∀ j (hj : j < l.length), inSpan l[j].f l[j].m r.f = false := fun j hj => by
    have := hap j hj
    have b := (gl.good j hj).bnd
    simp only [inSpan, decide_eq_false_iff_not]
    intro ⟨x, y⟩
    exact this ⟨by omega, by omega⟩
  rcases h with ⟨k, hk, q, _, _, hq, rfl⟩ | ⟨_, _, rfl⟩
  · have J := hq.joined (gl.good k hk) gr
    have hqk : inSpan q.f q.m r.f = true := by
      rw [J.has, Bool.or_eq_true]; right
      simp only [inSpan, decide_eq_true_eq]; omega
    have hin : ∀ i (hi : i < (l.set k q).length), Good (l.set k q)[i] := fun i hi => by
      have hi' : i < l.length := by simpa using hi
      by_cases e : k = i
      · subst e; rw [List.getElem_set_self]; exact J.good
      · rw [List.getElem_set_ne e]; exact gl.good i hi'
    refine ⟨goods_mk hin (fun i j hi hj hij => ?_), by rw [List.length_set]; omega, ?_, ⟨k, by simpa using hk, by rw [List.getElem_set_self]; exact hqk⟩, fun i hi his => ?_⟩
    · have hi' : i < l.length := by simpa using hi
      have hj' : j < l.length := by simpa using hj
      by_cases e1 : k = i
      · subst e1
        rw [List.getElem_set_self, List.getElem_set_ne (by omega)]
        exact J.apart (gl.good j hj') (gl.apartR k j hk hj' hij) (hap j hj').symm
      · rw [List.getElem_set_ne e1]
        by_cases e2 : k = j
        · subst e2
          rw [List.getElem_set_self]
          exact (J.apart (gl.good i hi') (gl.apartR k i hk hi' (by omega)) (hap i hi').symm).symm
        · rw [List.getElem_set_ne e2]; exact gl.apartR i j hi' hj' hij
    · rw [List.length_set, sumM_set hk q l.length hk (Nat.le_refl _), J.m]; omega
    · have hi' : i < l.length := by simpa using hi
      by_cases e : k = i
      · subst e
        rw [List.getElem_set_self]
        refine ⟨J.wrb, Or.inr ?_⟩
        rw [J.tags]; have := (gl.good k hk).t1; omega
      · rw [List.getElem_set_ne e, hnot i hi'] at his; cases his
  · have hlast : (l ++ [r])[l.length]'(by simp) = r := by simp
    refine ⟨goods_mk (fun i hi => ?_) (fun i j hi hj hij => ?_), by simp, ?_, ⟨l.length, by simp, by rw [hlast]; simp only [inSpan, decide_eq_true_eq]; omega⟩, fun i hi his => ?_⟩
    · by_cases e : i < l.length
      · rw [List.getElem_append_left e]; exact gl.good i e
      · have : i = l.length := by simp at hi; omega
        subst this; rw [hlast]; exact gr
    · by_cases e1 : i < l.length
      · by_cases e2 : j < l.length
        · rw [List.getElem_append_left e1, List.getElem_append_left e2]; exact gl.apartR i j e1 e2 hij
        · have : j = l.length := by simp at hj; omega
          subst this; rw [hlast, List.getElem_append_left e1]; exact hap i e1
      · have : i = l.length := by simp at hi; omega
        subst this
        have e2 : j < l.length := by simp at hj; omega
        rw [hlast, List.getElem_append_left e2]; exact (hap j e2).symm
    · have e : (l ++ [r]).length = l.length + 1 := by simp
      rw [e, sumM_step (by simp), hlast, sumM_congr (l' := l) l.length (fun i hi => by rw [List.getElem?_append_left hi])]; omega
    · by_cases e : i < l.length
      · rw [List.getElem_append_left e, hnot i e] at his; cases his
      · have : i = l.length := by simp at hi; omega
        subst this
        rw [hlast]; exact ⟨rfl, Or.inl (by simp)⟩
end Go.Proofs.Ytfdmchhaiikeaab
