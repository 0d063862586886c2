/- A stack of all: what stays true of it: Dispatch, End, rounds. -/
import Derived.Test.YtgjkdhedkbkagaaGreatJ24
import Derived.Test.YtgjkdhedkbkagaaGreatJ10
import Derived.Maps.Own
import Derived.Maps.OwnOps
import Derived.Maps.OwnSet
import Derived.Test.YtgjkdhedkbkagaaGreatJ11
import Derived.Maps.Views
namespace Go.Proofs.YtgjkdhedkbkagaaGreat
open Go.RowKit
set_option maxRecDepth 100000

theorem fr_lt (b : Bool) (a : Int) (l : List Rq) : frI b a l = -1 ∨ ∃ j : Nat, j < l.length ∧ frI b a l = j := by
  rcases fr_spec b a l with ⟨h, _⟩ | ⟨j, hj, h, _⟩
  · exact Or.inl h
  · exact Or.inr ⟨j, hj, h⟩
theorem begin_s (b1 b2 : Bool) (t : Tn) (h : 0 ≤ t.s ∧ t.s ≤ 2) : 0 ≤ (beginT b1 b2 t).s ∧ (beginT b1 b2 t).s ≤ 2 := by
  unfold beginT
  split
  · exact h
  · split
    · exact ⟨by show (0 : Int) ≤ 0; omega, by show (0 : Int) ≤ 2; omega⟩
    · rename_i _ h2
      have : ¬ 2 ≤ t.s := fun h' => h2 (Or.inr h')
      exact ⟨by show 0 ≤ t.s + 1; omega, by show t.s + 1 ≤ 2; omega⟩
/-- The next one is there. -/
theorem nextF_lt (l : List Rq) (hne : l ≠ []) (hf : ∀ r ∈ l, 0 ≤ r.f) (t : Tn) (now : Int) (hs : 0 ≤ t.s ∧ t.s ≤ 2) : ∃ i : Nat, i < l.length ∧ (nextF l t now).1 = i ∧ 0 ≤ (nextF l t now).2.s ∧ (nextF l t now).2.s ≤ 2 := by
  unfold nextF
  split
  · rename_i h
    rcases fr_lt t.w t.p l with h' | ⟨j, hj, h'⟩
    · omega
    · exact ⟨j, hj, h', hs⟩
  · obtain ⟨i0, hi0, hO, hw⟩ := kind_there l hne t _ _ rfl rfl
    have hbs := begin_s (decide (0 ≤ oldI false l)) (decide (0 ≤ oldI true l)) t hs
    generalize beginT (decide (0 ≤ oldI false l)) (decide (0 ≤ oldI true l)) t = T at *
    have : ∃ i : Nat, i < l.length ∧ beginI l T now = i := by
      unfold beginI
      split
      · exact ⟨i0, hi0, hO⟩
      · split
        · rename_i h2
          rcases fr_lt T.w T.p l with h' | ⟨j, hj, h'⟩
          · omega
          · exact ⟨j, hj, h'⟩
        · rcases fr_spec T.w 0 l with ⟨h', h3⟩ | ⟨j, hj, h', _⟩
          · have := h3 i0 hi0 hw
            have := hf _ (List.getElem_mem hi0)
            omega
          · exact ⟨j, hj, h'⟩
    obtain ⟨i, hi, e⟩ := this
    exact ⟨i, hi, e, hbs⟩
section
variable {p : Sk}
/-- What Dispatch does. -/
theorem dispatch_cases (h : Inv p) : ((p.queue = [] ∨ 2 ≤ p.dev.busy.length) ∧ p.dispatch = (false, p)) ∨ ∃ (i : Nat) (hi : i < p.queue.length) (T : Tn), p.queue ≠ [] ∧ p.dev.busy.length < 2 ∧ (nextF p.queue p.turn p.moment).1 = i ∧ (0 ≤ T.s ∧ T.s ≤ 2) ∧ p.dispatch = (true, { p with dev := { p.dev with busy := p.dev.busy ++ [p.queue[i]] }, queue := p.queue.eraseIdx i, turn := T }) := by
  unfold Sk.dispatch
  by_cases hc : p.queue = [] ∨ 2 ≤ p.dev.busy.length
  · rw [if_pos hc]; exact Or.inl ⟨hc, rfl⟩
  · rw [if_neg hc]
    have h1 : p.queue ≠ [] := fun e => hc (Or.inl e)
    obtain ⟨i, hi, e, hs⟩ := nextF_lt p.queue h1 (fun r hr => (h.queue.1 r hr).bds.1) p.turn p.moment h.ts
    refine Or.inr ⟨i, hi, (nextF p.queue p.turn p.moment).2, h1, by omega, e, hs, ?_⟩
    rw [e, Int.toNat_natCast, List.getElem?_eq_getElem hi]
    rfl
theorem apart_perm {l m : List Rq} (hp : l.Perm m) (h : l.Pairwise apartQ) : m.Pairwise apartQ := (List.Perm.pairwise_iff (fun hxy => hxy.symm) hp).1 h
theorem erase_perm (l : List Rq) (i : Nat) (hi : i < l.length) : (l.eraseIdx i ++ [l[i]]).Perm l := by
  have e : l = l.take i ++ l[i] :: l.drop (i + 1) := by rw [List.getElem_cons_drop, List.take_append_drop]
  have h : (l.take i ++ (l.drop (i + 1) ++ [l[i]])).Perm (l.take i ++ ([l[i]] ++ l.drop (i + 1))) := List.Perm.append_left _ List.perm_append_comm
  rw [List.eraseIdx_eq_take_drop_succ, List.append_assoc]
  refine h.trans ?_
  rw [List.singleton_append, ← e]
theorem moved_perm (q b : List Rq) (i : Nat) (hi : i < q.length) : (q ++ b).Perm (q.eraseIdx i ++ (b ++ [q[i]])) := by
  have h1 := erase_perm q i hi
  have h2 : (q ++ b).Perm ((q.eraseIdx i ++ [q[i]]) ++ b) := h1.symm.append_right b
  refine h2.trans ?_
  rw [List.append_assoc]
  exact List.Perm.append_left _ List.perm_append_comm
theorem Inv.moved (h : Inv p) (i : Nat) (hi : i < p.queue.length) (T : Tn) (hT : 0 ≤ T.s ∧ T.s ≤ 2) (hb : p.dev.busy.length < 2) : Inv { p with dev := { p.dev with busy := p.dev.busy ++ [p.queue[i]] }, queue := p.queue.eraseIdx i, turn := T } := by
  have P := moved_perm p.queue p.dev.busy i hi
  refine ⟨h.cl3, h.cok, h.hand, h.d6, fun r hr => h.good r (P.mem_iff.2 hr), apart_perm P h.apart, ?_, ?_, h.mom, h.tg, h.us, fun r hr => h.tin r (P.mem_iff.2 hr), h.n32, h.g32, hT, h.fr⟩
  · show (p.queue.eraseIdx i).length ≤ 6
    have := h.q6
    rw [List.length_eraseIdx]; split <;> omega
  · show (p.dev.busy ++ [p.queue[i]]).length ≤ 2
    rw [List.length_append, List.length_singleton]; omega
theorem Inv.dispatch (h : Inv p) : Inv p.dispatch.2 := by
  rcases dispatch_cases h with ⟨_, e⟩ | ⟨i, hi, T, _, hb, _, hT, e⟩
  · rw [e]; exact h
  · rw [e]; exact h.moved i hi T hT hb
theorem Inv.dispatches (n : Nat) : ∀ {p : Sk}, Inv p → Inv (p.dispatches n) := by
  induction n with
  | zero => intro p h; exact h
  | succ n ih =>
    intro p h
    unfold Sk.dispatches
    split
    · exact ih h.dispatch
    · exact h
theorem Inv.readers (h : Inv p) (F : Int → Bool) (s : ByteArray) (e : Int) : Inv (p.readers F s e) :=
  ⟨by show (List.map _ p.cl).length = 3; rw [List.length_map]; exact h.cl3, fun c hc => by
    obtain ⟨x, hx, rfl⟩ := List.mem_map.1 hc
    show ClOk (if _ then _ else _)
    split
    · exact idleOk s e
    · exact h.cok x hx, h.hand, h.d6, h.good, h.apart, h.q6, h.b2, h.mom, h.tg, h.us, h.tin, h.n32, h.g32, h.ts, h.fr⟩
theorem Inv.wasRead (h : Inv p) (pl : Int) (s : ByteArray) (hpl : 0 ≤ pl ∧ pl ≤ 31) (hs : s.size ≤ 4) : Inv (p.wasRead pl s) := by
  unfold Sk.wasRead
  cases getB p.hand pl with
  | some _ => exact h
  | none =>
    simp only
    cases e : putB p.hand ⟨pl, s, false, p.uses + 1⟩ p.held with
    | none => exact h.readers _ _ _
    | some l =>
      have P := putB_some h.hand e
      have hd := P.dirty
      simp only [Bool.false_eq_true, if_false] at hd
      exact (h.setHand l _ (P.ok ⟨hpl.1, hpl.2, hs⟩) (by have := h.d6; omega) (by have := h.us; omega)).readers _ _ _
theorem Inv.wentOne (h : Inv p) (r : Rq) (gr : Good r) (xs : List ByteArray) (j : Nat) (hj : j < r.m.toNat) (hx : (xs.getD j ByteArray.empty).size ≤ 4) : Inv (p.wentOne r xs j) := by
  unfold Sk.wentOne
  have := gr.bds
  split
  · exact h.setHand _ _ (h.hand.cleanL _ _) (Nat.le_trans (dirty_cleanL _ _ _) h.d6) h.us
  · exact h.wasRead _ _ (by omega) hx
theorem wentTo_succ (p : Sk) (r : Rq) (xs : List ByteArray) (n : Nat) : p.wentTo r xs (n + 1) = (p.wentTo r xs n).wentOne r xs n := by simp [Sk.wentTo, List.range_succ]
theorem Inv.wentTo (h : Inv p) (r : Rq) (gr : Good r) (xs : List ByteArray) (hx : ∀ j, (xs.getD j ByteArray.empty).size ≤ 4) : ∀ n, n ≤ r.m.toNat → Inv (p.wentTo r xs n)
  | 0, _ => h
  | n + 1, hn => by rw [wentTo_succ]; exact (h.wentTo r gr xs hx n (by omega)).wentOne r gr xs n (by omega) (hx n)
/-- What a device's sectors hold is short. -/
def DevShort (d : Dl) : Prop := (∀ s ∈ d.now, s.size ≤ 4) ∧ (∀ s ∈ d.good, s.size ≤ 4) ∧ ∀ x ∈ d.wr, x.data.size ≤ 4
theorem getD_short {l : List ByteArray} (h : ∀ s ∈ l, s.size ≤ 4) (j : Nat) : (l.getD j ByteArray.empty).size ≤ 4 := by
  rw [List.getD_eq_getElem?_getD]
  cases e : l[j]? with
  | none => show ByteArray.empty.size ≤ 4; rw [size_empty]; omega
  | some s => exact h s (List.mem_of_getElem? e)
theorem didRead_short {d : Dl} (h : DevShort d) (r : Rq) (j : Nat) : ((didRead d r).getD j ByteArray.empty).size ≤ 4 := by
  refine getD_short (fun s hs => ?_) j
  unfold didRead at hs
  split at hs
  · cases hs
  · unfold readTo at hs
    obtain ⟨i, _, rfl⟩ := List.mem_map.1 hs
    exact getD_short h.1 _
theorem Inv.took (h : Inv p) (k : Nat) : Inv (p.took k) := by
  have S : (p.queue ++ p.dev.busy.eraseIdx k).Sublist (p.queue ++ p.dev.busy) := List.Sublist.append_left (List.eraseIdx_sublist _ _) _
  refine ⟨h.cl3, h.cok, h.hand, h.d6, fun r hr => h.good r (S.subset hr), h.apart.sublist S, h.q6, ?_, h.mom, h.tg, h.us, fun r hr => h.tin r (S.subset hr), h.n32, h.g32, h.ts, h.fr⟩
  show (p.dev.busy.eraseIdx k).length ≤ 2
  have := h.b2
  rw [List.length_eraseIdx]; split <;> omega
theorem did_good (d : Dl) (r : Rq) : (d.did r).good = d.good := by
  unfold Dl.did; split
  · exact writesTo_good _ _ _
  · rfl
theorem Inv.did (h : Inv p) (r : Rq) : Inv (p.did r) := by
  refine ⟨h.cl3, h.cok, h.hand, h.d6, ?_, ?_, h.q6, ?_, h.mom, h.tg, h.us, ?_, ?_, ?_, h.ts, fun t => ?_⟩
  · show ∀ x ∈ p.queue ++ (p.dev.did r).busy, Good x; rw [Dl.did_busy]; exact h.good
  · show (p.queue ++ (p.dev.did r).busy).Pairwise apartQ; rw [Dl.did_busy]; exact h.apart
  · show (p.dev.did r).busy.length ≤ 2; rw [Dl.did_busy]; exact h.b2
  · show ∀ x ∈ p.queue ++ (p.dev.did r).busy, _; rw [Dl.did_busy]; exact h.tin
  · show (p.dev.did r).now.length = 32; rw [did_len]; exact h.n32
  · show (p.dev.did r).good.length = 32; rw [did_good]; exact h.g32
  · have := h.fr t
    show 0 ≤ (if t = r.tags.getD 0 0 then 0 else p.f t) ∧ (if t = r.tags.getD 0 0 then 0 else p.f t) ≤ 2
    split <;> omega
theorem Inv.lost (h : Inv p) (r : Rq) (b : Bool) : Inv { p.lost r with dead := b } :=
  ⟨h.cl3, h.cok, h.hand, h.d6, h.good, h.apart, h.q6, h.b2, h.mom, h.tg, h.us, h.tin, h.n32, h.g32, h.ts, fun t => by
    have := h.fr t
    show 0 ≤ (if t = r.tags.getD 0 0 then 0 else p.f t) ∧ (if t = r.tags.getD 0 0 then 0 else p.f t) ≤ 2
    split <;> omega⟩
theorem Inv.again (h : Inv p) (k : Nat) (hk : k < p.dev.busy.length) (hf : p.f (p.dev.busy[k].tags.getD 0 0) < 2) : Inv ((p.took k).again p.dev.busy[k]) := by
  have P : (p.queue ++ p.dev.busy).Perm (p.queue ++ (p.dev.busy.eraseIdx k ++ [p.dev.busy[k]])) := List.Perm.append_left _ (erase_perm p.dev.busy k hk).symm
  refine ⟨h.cl3, h.cok, h.hand, h.d6, fun r hr => h.good r (P.mem_iff.2 hr), apart_perm P h.apart, h.q6, ?_, h.mom, h.tg, h.us, fun r hr => h.tin r (P.mem_iff.2 hr), h.n32, h.g32, h.ts, fun t => ?_⟩
  · show (p.dev.busy.eraseIdx k ++ [p.dev.busy[k]]).length ≤ 2
    have := h.b2
    rw [List.length_append, List.length_singleton, List.length_eraseIdx, if_pos hk]; omega
  · have h1 := h.fr t
    show 0 ≤ (if t = p.dev.busy[k].tags.getD 0 0 then p.f t + 1 else p.f t) ∧ (if t = p.dev.busy[k].tags.getD 0 0 then p.f t + 1 else p.f t) ≤ 2
    split
    · rename_i e; rw [← e] at hf; omega
    · exact h1
theorem Inv.lost' (h : Inv p) (r : Rq) : Inv (p.lost r) := h.lost r p.dead
/-- What an end does. -/
theorem end_cases (p : Sk) (i : Int) (fault : Bool) : ((i < 0 ∨ (p.dev.busy.length : Int) ≤ i) ∧ p.end' i fault = (5, p)) ∨ ∃ (k : Nat) (hk : k < p.dev.busy.length), i = k ∧
    ((fault = false ∧ p.end' i fault = (0, (((p.took k).did p.dev.busy[k]).wentWell p.dev.busy[k] (didRead p.dev p.dev.busy[k])).serve)) ∨
     (fault = true ∧ p.f (p.dev.busy[k].tags.getD 0 0) < 2 ∧ p.end' i fault = (0, (p.took k).again p.dev.busy[k])) ∨
     (fault = true ∧ ¬ p.f (p.dev.busy[k].tags.getD 0 0) < 2 ∧ p.dev.busy[k].wr = true ∧ p.end' i fault = (0, ({ (p.took k).lost p.dev.busy[k] with dead := true } : Sk).serve)) ∨
     (fault = true ∧ ¬ p.f (p.dev.busy[k].tags.getD 0 0) < 2 ∧ p.dev.busy[k].wr = false ∧ p.end' i fault = (0, (((p.took k).lost p.dev.busy[k]).readers (fun x => hasB p.dev.busy[k].f p.dev.busy[k].m x) ByteArray.empty 8).serve))) := by
  unfold Sk.end'
  by_cases h0 : i < 0
  · rw [if_pos h0]; exact Or.inl ⟨Or.inl h0, rfl⟩
  rw [if_neg h0]
  by_cases h1 : i.toNat < p.dev.busy.length
  · refine Or.inr ⟨i.toNat, h1, by omega, ?_⟩
    rw [List.getElem?_eq_getElem h1]
    simp only
    cases fault with
    | false => exact Or.inl ⟨rfl, rfl⟩
    | true =>
      rw [if_neg (by simp)]
      by_cases h2 : p.f (p.dev.busy[i.toNat].tags.getD 0 0) < 2
      · rw [if_pos h2]; exact Or.inr (Or.inl ⟨rfl, h2, rfl⟩)
      · rw [if_neg h2]
        by_cases h3 : p.dev.busy[i.toNat].wr = true
        · rw [if_pos h3]; exact Or.inr (Or.inr (Or.inl ⟨rfl, h2, h3, rfl⟩))
        · rw [if_neg h3]; exact Or.inr (Or.inr (Or.inr ⟨rfl, h2, by simpa using h3, rfl⟩))
  · rw [List.getElem?_eq_none (by omega)]
    exact Or.inl ⟨Or.inr (by omega), rfl⟩
theorem Inv.end' (h : Inv p) (hd : DevShort p.dev) (i : Int) (fault : Bool) : Inv (p.end' i fault).2 := by
  rcases end_cases p i fault with ⟨_, e⟩ | ⟨k, hk, _, ⟨_, e⟩ | ⟨_, hf, e⟩ | ⟨_, _, _, e⟩ | ⟨_, _, _, e⟩⟩
  · rw [e]; exact h
  · rw [e]
    have gr := h.good _ (List.mem_append_right _ (List.getElem_mem hk))
    exact ((((h.took k).did _).wentTo _ gr _ (didRead_short hd _) _ (Nat.le_refl _)).serve)
  · rw [e]; exact h.again k hk hf
  · rw [e]; exact ((h.took k).lost _ _).serve
  · rw [e]; exact ((((h.took k).lost' _).readers _ _ _).serve)
end
end Go.Proofs.YtgjkdhedkbkagaaGreat
/- A driver of a device: New, Room, Start, firstTag. -/
namespace Go.Proofs.YtgjkdhedkbkagaaGreat
open Go.RowKit Go.BigFrame Go.Maps
set_option maxRecDepth 100000
attribute [local go_sem] Later.cell Later.frozen

theorem keyI : Keyed Tryz.prog 3 := int_keyed Tryz.underlying3
theorem zeroI (w : World) : (zeroValue 3).run Tryz.prog w = .ok (.int .i64 0) w := by kernel_rfl
/-- The driver v of the device b, with the map bm. -/
structure VAt (v b bm : Nat) (d : Dl) (a : An) (n : Nat) (D : DataW Unit) (w : World) : Prop where
  dev : DevAt b d a w
  blk : w.heap[v]? = some (.cells [.pointer (some ⟨b, 0, none⟩), .map (some bm)].toArray 108 (0, 0))
  map : w.ownsMap Tryz.prog 3 (plainElem Tryz.prog 3) bm n D
  foot : ∀ k, a.foot b k → k ≠ v ∧ k ≠ bm
/-- What a step of the driver may turn. -/
def vfoot (b bm : Nat) (a : An) (k : Nat) : Prop := k = bm ∨ a.foot b k
structure VStep (v b bm : Nat) (d : Dl) (a : An) (n : Nat) (D : DataW Unit) (d' : Dl) (a' : An) (n' : Nat) (D' : DataW Unit) (w w' : World) : Prop where
  at' : VAt v b bm d' a' n' D' w'
  only : Only (vfoot b bm a) w w'
  foot : ∀ k, vfoot b bm a' k → vfoot b bm a k ∨ w.heap.size ≤ k
theorem owns_block {w w' : World} {bm n : Nat} {D : DataW Unit} (h : w.ownsMap Tryz.prog 3 (plainElem Tryz.prog 3) bm n D) (e : w'.heap[bm]? = w.heap[bm]?) : w'.ownsMap Tryz.prog 3 (plainElem Tryz.prog 3) bm n D := by
  obtain ⟨es, clock, hb, F, hs, hD⟩ := h
  exact ⟨es, clock, e.trans hb, F, hs, hD⟩
theorem VAt.mlt {v b bm : Nat} {d : Dl} {a : An} {n : Nat} {D : DataW Unit} {w : World} (h : VAt v b bm d a n D w) : bm < w.heap.size := h.map.lt
theorem VAt.ne {v b bm : Nat} {d : Dl} {a : An} {n : Nat} {D : DataW Unit} {w : World} (h : VAt v b bm d a n D w) : v ≠ bm := by
  rintro rfl
  obtain ⟨es, clock, hb, _⟩ := h.map
  rw [h.blk] at hb
  cases hb
/-- A step of its device. -/
theorem VAt.step {v b bm : Nat} {d d' : Dl} {a a' : An} {n : Nat} {D : DataW Unit} {w w' : World} (h : VAt v b bm d a n D w) (hs : DStep b d a d' a' w w') : VStep v b bm d a n D d' a' n D w w' where
  at' := ⟨hs.dev, by rw [hs.only.block v (lt_of_heap h.blk) (fun e => (h.foot v e).1 rfl)]; exact h.blk, owns_block h.map (hs.only.block bm h.mlt (fun e => (h.foot bm e).2 rfl)), fun k hk => (hs.foot k hk).elim (h.foot k) (fun h' => by have := lt_of_heap h.blk; have := h.mlt; omega)⟩
  only := hs.only.mono (fun _ e => Or.inr e)
  foot := fun k hk => hk.elim (fun e => Or.inl (Or.inl e)) (fun e => (hs.foot k e).elim (fun h' => Or.inl (Or.inr h')) Or.inr)
theorem VStep.trans {v b bm : Nat} {d d' d2 : Dl} {a a' a2 : An} {n n' n2 : Nat} {D D' D2 : DataW Unit} {w w' w2 : World} (h : VStep v b bm d a n D d' a' n' D' w w') (k : VStep v b bm d' a' n' D' d2 a2 n2 D2 w' w2) : VStep v b bm d a n D d2 a2 n2 D2 w w2 :=
  ⟨k.at', h.only.trans k.only h.foot, fun i hi => (k.foot i hi).elim (h.foot i) (fun h' => Or.inr (Nat.le_trans h.only.size h'))⟩
theorem VAt.later {v b bm : Nat} {d : Dl} {a : An} {n : Nat} {D : DataW Unit} {w w' : World} (h : VAt v b bm d a n D w) (hb : Below w.heap.size w w') : VAt v b bm d a n D w' := (h.step (DStep.same h.dev hb)).at'
theorem VStep.later {v b bm : Nat} {d d' : Dl} {a a' : An} {n n' : Nat} {D D' : DataW Unit} {w w' w2 : World} (h : VStep v b bm d a n D d' a' n' D' w w') (hb : Below w'.heap.size w' w2) : VStep v b bm d a n D d' a' n' D' w w2 := h.trans (h.at'.step (DStep.same h.at'.dev hb))
/-- Its map alone turns. -/
theorem VAt.turn {v b bm : Nat} {d : Dl} {a : An} {n n' : Nat} {D D' : DataW Unit} {w w' : World} (h : VAt v b bm d a n D w) (ho : Only (fun k => k = bm) w w') (hm : w'.ownsMap Tryz.prog 3 (plainElem Tryz.prog 3) bm n' D') (hr : ∀ r ∈ d.busy, r.Off (fun k => k = bm)) : VStep v b bm d a n D d a n' D' w w' where
  at' := ⟨h.dev.frame ho (fun k hk => (h.foot k hk).2) hr, by rw [ho.block v (lt_of_heap h.blk) h.ne]; exact h.blk, hm, h.foot⟩
  only := ho.mono (fun _ e => Or.inl e)
  foot := fun _ hk => Or.inl hk
theorem only_of_grown {w w' : World} {bm : Nat} (h : w.grownBy w' (some bm)) : Only (fun k => k = bm) w w' := ⟨h.os, h.tape, h.output, h.size, fun k hk hn => h.block k hk (fun e => hn (Option.some.inj e))⟩
theorem VAt.cells {v b bm : Nat} {d : Dl} {a : An} {n : Nat} {D : DataW Unit} {w : World} (h : VAt v b bm d a n D w) : w.cell? ⟨v, 0, none⟩ = some (.pointer (some ⟨b, 0, none⟩)) ∧ w.cell? ⟨v, 1, none⟩ = some (.map (some bm)) := ⟨by rw [cell_of_heap h.blk]; rfl, by rw [cell_of_heap h.blk]; rfl⟩
set_option maxRecDepth 100000 in
set_option maxHeartbeats 400000 in
theorem vnew_any (b : Nat) (d : Dl) (a : An) (w : World) (h : DevAt b d a w) : Calls Tryz.prog 40 #[.pointer (some ⟨b, 0, none⟩)] w fun e w' => e = .returned (.pointer (some ⟨w.heap.size + 1, 0, none⟩)) ∧ VAt (w.heap.size + 1) b w.heap.size d a 0 (.map []) w' ∧ Below w.heap.size w w' := by
  have HD := hidT h
  clear h
  have hmm := @run_makeMap Tryz.prog
  go_enter Tryz.func40, Tryz.ntmps40
  go_wp2
  go_ret
  have hb := below2 w (.map #[] 0) (.cells [.pointer (some ⟨b, 0, none⟩), .map (some w.heap.size)].toArray 108)
  refine ⟨rfl, ⟨HD.out.later hb, ?_, (World.ownsMap_made _ _ _ _).alloc _, fun k hk => ?_⟩, hb⟩
  · have := heap_alloc_new (w.alloc (.map #[] 0)) (.cells [.pointer (some ⟨b, 0, none⟩), .map (some w.heap.size)].toArray 108)
    rw [show (w.alloc (.map #[] 0)).heap.size = w.heap.size + 1 by simp] at this
    exact this
  · have := HD.out.footLt k hk; omega
set_option maxRecDepth 100000 in
set_option maxHeartbeats 400000 in
theorem room_yes (v b bm : Nat) (d : Dl) (a : An) (n : Nat) (D : DataW Unit) (w : World) (h : VAt v b bm d a n D w) (h2 : d.busy.length < 2) : Calls Tryz.prog 55 #[.pointer (some ⟨v, 0, none⟩)] w fun e w' => e = .returned (.bool true) ∧ Below w.heap.size w w' := by
  obtain ⟨c0, c1⟩ := h.cells
  have HV := hidT h
  have h2' : (d.busy.length : Int) < 2 := by omega
  clear h c1
  go_enter Tryz.func55, Tryz.ntmps55
  go_wp2_with fail
  refine (busy_any b d a _ HV.out.dev).mono ?_
  rintro e w1 ⟨xa, xc, rfl, -, -, hb⟩
  go_wp2
  go_ret
  exact ⟨rfl, hb⟩
set_option linter.unusedSimpArgs false in
set_option maxRecDepth 100000 in
set_option maxHeartbeats 400000 in
theorem vstart_ok (v b bm : Nat) (d : Dl) (a : An) (n : Nat) (D : DataW Unit) (r : Rq) (w : World) (h : VAt v b bm d a n D w) (h2 : d.busy.length < 2) (hr : r.At w) (ho : r.Off (a.foot b)) :
    Calls Tryz.prog 58 #[.pointer (some ⟨v, 0, none⟩), r.val] w fun e w' => ∃ a', e = .returned .nilIface ∧ VStep v b bm d a n D { d with busy := d.busy ++ [r] } a' n D w w' := by
  obtain ⟨c0, c1⟩ := h.cells
  have HV := hidT h
  have HR := hidT hr
  have HO := hidT ho
  have hv := lt_of_heap h.blk
  clear h c1 hr ho
  have hb0 := hidT (below1 w (.cells #[.bool r.wr, .int .i64 r.f, .int .i64 r.m, .slice r.da r.data.length r.dc, .slice r.ta r.tags.length r.tc, .int .i64 r.born] 44))
  go_enter Tryz.func58, Tryz.ntmps58
  go_wp2_with fail
  have hS0 : (w.alloc (.cells #[.bool r.wr, .int .i64 r.f, .int .i64 r.m, .slice r.da r.data.length r.dc, .slice r.ta r.tags.length r.tc, .int .i64 r.born] 44)).drew.cell? ⟨v, 0, none⟩ = some (.pointer (some ⟨b, 0, none⟩)) ∧ BoxAt (w.alloc (.cells #[.bool r.wr, .int .i64 r.f, .int .i64 r.m, .slice r.da r.data.length r.dc, .slice r.ta r.tags.length r.tc, .int .i64 r.born] 44)).drew w.heap.size r := ⟨(hb0.out.drew.cell (p := ⟨v, 0, none⟩) hv).trans c0, (box_new w 44 r).later (Below.refl _ _).drew⟩
  have HS := hidT hS0
  have eg : ∀ args w, Sem.run Tryz.prog (callFunc 80 args) w = .ok (.enter 80 args) w := by intro args w; go_simp
  clear hS0
  refine region_till (S := fun wz => wz.cell? ⟨v, 0, none⟩ = some (.pointer (some ⟨b, 0, none⟩)) ∧ BoxAt wz w.heap.size r) (d := 6) (by kernel_rfl) ?_
  refine till_take (i := 0) (v := ?_) rfl (by kernel_rfl) (by kernel_rfl) (by kernel_rfl) (by kernel_rfl) (fun _ _ _ h => h) (Or.inl ⟨by rfl, ?_⟩) HS.out ?_; rotate_left; (focus (intro w0 hSw; obtain ⟨s6, s0, s1, s2, s3, s4, s5⟩ := hSw; go_simp; (try with_reducible rfl))); (try simp only [Act.put, List.getElem_toArray, List.getElem_cons_succ, List.getElem_cons_zero, List.setIfInBounds_toArray, List.set_cons_zero, List.set_cons_succ])
  refine till_take (i := 1) (v := ?_) rfl (by kernel_rfl) (by kernel_rfl) (by kernel_rfl) (by kernel_rfl) (fun _ _ _ h => h) (Or.inl ⟨by rfl, ?_⟩) HS.out ?_; rotate_left; (focus (intro w0 hSw; obtain ⟨s6, s0, s1, s2, s3, s4, s5⟩ := hSw; go_simp; (try with_reducible rfl))); (try simp only [Act.put, List.getElem_toArray, List.getElem_cons_succ, List.getElem_cons_zero, List.setIfInBounds_toArray, List.set_cons_zero, List.set_cons_succ])
  refine till_take (i := 2) (v := ?_) rfl (by kernel_rfl) (by kernel_rfl) (by kernel_rfl) (by kernel_rfl) (fun _ _ _ h => h) (Or.inl ⟨by rfl, ?_⟩) HS.out ?_; rotate_left; (focus (intro w0 hSw; obtain ⟨s6, s0, s1, s2, s3, s4, s5⟩ := hSw; go_simp; (try with_reducible rfl))); (try simp only [Act.put, List.getElem_toArray, List.getElem_cons_succ, List.getElem_cons_zero, List.setIfInBounds_toArray, List.set_cons_zero, List.set_cons_succ])
  refine till_take (i := 3) (v := ?_) rfl (by kernel_rfl) (by kernel_rfl) (by kernel_rfl) (by kernel_rfl) (fun _ _ _ h => h) (Or.inl ⟨by rfl, ?_⟩) HS.out ?_; rotate_left; (focus (intro w0 hSw; obtain ⟨s6, s0, s1, s2, s3, s4, s5⟩ := hSw; go_simp; (try with_reducible rfl))); (try simp only [Act.put, List.getElem_toArray, List.getElem_cons_succ, List.getElem_cons_zero, List.setIfInBounds_toArray, List.set_cons_zero, List.set_cons_succ])
  refine till_take (i := 4) (v := ?_) rfl (by kernel_rfl) (by kernel_rfl) (by kernel_rfl) (by kernel_rfl) (fun _ _ _ h => h) (Or.inl ⟨by rfl, ?_⟩) HS.out ?_; rotate_left; (focus (intro w0 hSw; obtain ⟨s6, s0, s1, s2, s3, s4, s5⟩ := hSw; go_simp; (try with_reducible rfl))); (try simp only [Act.put, List.getElem_toArray, List.getElem_cons_succ, List.getElem_cons_zero, List.setIfInBounds_toArray, List.set_cons_zero, List.set_cons_succ])
  refine till_one (i := 5) rfl (by kernel_rfl) ?_
  intro K hK
  refine step_call2 rfl 80 8 9 27 44 rfl eg (.pointer (some ⟨b, 0, none⟩)) r.val rfl rfl .nilIface (fun w' => ∃ a', DStep b d a { d with busy := d.busy ++ [r] } a' w w' ∧ BoxAt w' w.heap.size r) ((start_ok b d a r _ (HV.out.dev.later hb0.out.drew) h2 (HR.out.later hb0.out.drew) HO.out).mono ?_) ?_
  · rintro e w1 ⟨a', he, hs⟩
    exact ⟨he, a', (DStep.same HV.out.dev hb0.out.drew).trans hs, HS.out.2.only hs.only (fun e => by have := HV.out.dev.footLt _ e; omega)⟩
  rintro w1 ⟨a', hs, hbx⟩
  have HVS := hidT (HV.out.step hs)
  have hS1 : w1.cell? ⟨v, 0, none⟩ = some (.pointer (some ⟨b, 0, none⟩)) := HVS.out.at'.cells.1
  refine hK _ _ (fun _ => ⟨hS1, hbx⟩) ?_
  (try simp only [Act.put, List.getElem_toArray, List.getElem_cons_succ, List.getElem_cons_zero, List.setIfInBounds_toArray, List.set_cons_zero, List.set_cons_succ])
  clear hK
  refine till_one (i := 6) rfl (by kernel_rfl) ?_
  intro K hK
  go_simp
  refine hK _ _ (fun h => absurd rfl h) ?_
  (try simp only [Act.put, List.getElem_toArray, List.getElem_cons_succ, List.getElem_cons_zero, List.setIfInBounds_toArray, List.set_cons_zero, List.set_cons_succ])
  clear hK
  refine till_done (by kernel_rfl) ?_ _
  go_wp2
  go_ret
  exact ⟨a', rfl, HVS.out⟩
set_option maxRecDepth 100000 in
set_option maxHeartbeats 400000 in
theorem first_any (r : Rq) (w : World) (hr : r.At w) (h1 : 1 ≤ r.tags.length) : Calls Tryz.prog 83 #[r.val] w fun e w' => e = .returned (.int .i64 (r.tags.getD 0 0)) ∧ Below w.heap.size w w' := by
  obtain ⟨wr, f, m, da, dc, data, ta, tc, tags, born⟩ := r
  rcases hr.tags with h | ⟨tb, tof, h, hc⟩
  · simp only at h h1; rw [h] at h1; simp at h1
  simp only at h h1 hc
  subst h
  have c0 := hc 0 (by omega)
  have lt := lt_of_cell c0
  obtain ⟨x, hx⟩ : ∃ x, tags.getD 0 0 = x := ⟨_, rfl⟩
  rw [hx] at c0
  simp only [Nat.add_zero] at c0
  have h1' : ¬ (tags.length : Int) = 0 := by omega
  have h2' : (0 : Int) < (tags.length : Int) := by omega
  show Calls Tryz.prog 83 #[(Rq.mk wr f m da dc data (some ⟨tb, tof, none⟩) tc tags born).val] w fun e w' => e = .returned (.int .i64 (tags.getD 0 0)) ∧ Below w.heap.size w w'
  rw [hx]
  clear hr hc hx
  go_enter Tryz.func83, Tryz.ntmps83
  go_wp2
  go_ret
  exact ⟨rfl, by repeat (first | with_reducible exact Below.refl _ _ | with_reducible refine balloc ?_ _ | with_reducible refine bdrew ?_ | with_reducible refine bset' ?_ (by omega) _ | with_reducible refine bthen ?_ (by assumption))⟩
end Go.Proofs.YtgjkdhedkbkagaaGreat
/- A driver of a device: the end of a request. -/
namespace Go.Proofs.YtgjkdhedkbkagaaGreat
open Go.RowKit Go.BigFrame Go.Maps
set_option maxRecDepth 100000
attribute [local go_sem] Later.cell Later.frozen

/-- A result in a block of its own, that may be written. -/
def ResBoxF (w : World) (q : Nat) (r : Rq) (xa : Option Addr) (n xc : Nat) (er : Int) : Prop := ResBox w q r xa n xc er ∧ w.there q 0 8 ∧ q < w.heap.size
theorem there_only {F : Nat → Prop} {w w' : World} {q : Nat} (h : w.there q 0 8) (hl : q < w.heap.size) (hO : Only F w w') (hn : ¬ F q) : w'.there q 0 8 := fun j hj => by
  rw [hO.cell (p := ⟨q, 0 + j, none⟩) hl hn, hO.frozen (p := ⟨q, 0 + j, none⟩) hl hn]; exact h j hj
theorem ResBoxF.only {F : Nat → Prop} {w w' : World} {q n xc : Nat} {r : Rq} {xa : Option Addr} {er : Int} (h : ResBoxF w q r xa n xc er) (hO : Only F w w') (hn : ¬ F q) : ResBoxF w' q r xa n xc er := by
  obtain ⟨⟨h0, h1, h2, h3, h4, h5, h6, h7⟩, hf, hl⟩ := h
  exact ⟨⟨(hO.cell (p := ⟨q, 0, none⟩) hl hn).trans h0, (hO.cell (p := ⟨q, 1, none⟩) hl hn).trans h1, (hO.cell (p := ⟨q, 2, none⟩) hl hn).trans h2, (hO.cell (p := ⟨q, 3, none⟩) hl hn).trans h3, (hO.cell (p := ⟨q, 4, none⟩) hl hn).trans h4, (hO.cell (p := ⟨q, 5, none⟩) hl hn).trans h5, (hO.cell (p := ⟨q, 6, none⟩) hl hn).trans h6, (hO.cell (p := ⟨q, 7, none⟩) hl hn).trans h7⟩, there_only hf hl hO hn, Nat.lt_of_lt_of_le hl hO.size⟩
theorem ResBoxF.later {w w' : World} {q n xc : Nat} {r : Rq} {xa : Option Addr} {er : Int} (h : ResBoxF w q r xa n xc er) (hb : Below w.heap.size w w') : ResBoxF w' q r xa n xc er := h.only (F := fun _ => False) (Only.of_below hb) (fun e => e)
theorem zero_there {w : World} {q : Nat} (h : ZeroAt w q) : w.there q 0 8 := by
  obtain ⟨⟨z0, z1, z2, z3, z4, z5, z6, z7⟩, zf, zl⟩ := h
  intro j hj
  refine ⟨?_, zf _⟩
  match j, hj with
  | 0, _ => simp [z0]
  | 1, _ => simp [z1]
  | 2, _ => simp [z2]
  | 3, _ => simp [z3]
  | 4, _ => simp [z4]
  | 5, _ => simp [z5]
  | 6, _ => simp [z6]
  | 7, _ => simp [z7]
/-- Eight cells of one block. -/
def set8 (w : World) (q : Nat) (v0 v1 v2 v3 v4 v5 v6 v7 : Value) : World := (((((((w.setCell ⟨q, 0, none⟩ v0).setCell ⟨q, 1, none⟩ v1).setCell ⟨q, 2, none⟩ v2).setCell ⟨q, 3, none⟩ v3).setCell ⟨q, 4, none⟩ v4).setCell ⟨q, 5, none⟩ v5).setCell ⟨q, 6, none⟩ v6).setCell ⟨q, 7, none⟩ v7
theorem set8_only (w : World) (q : Nat) (v0 v1 v2 v3 v4 v5 v6 v7 : Value) : Only (fun k => k = q) w (set8 w q v0 v1 v2 v3 v4 v5 v6 v7) :=
  ((((((((Only.refl (fun k => k = q) w).setCell ⟨q, 0, none⟩ (Or.inl rfl) v0).setCell ⟨q, 1, none⟩ (Or.inl rfl) v1).setCell ⟨q, 2, none⟩ (Or.inl rfl) v2).setCell ⟨q, 3, none⟩ (Or.inl rfl) v3).setCell ⟨q, 4, none⟩ (Or.inl rfl) v4).setCell ⟨q, 5, none⟩ (Or.inl rfl) v5).setCell ⟨q, 6, none⟩ (Or.inl rfl) v6).setCell ⟨q, 7, none⟩ (Or.inl rfl) v7
theorem set8_res {w : World} {q n xc : Nat} {r : Rq} {xa : Option Addr} {er : Int} (h : w.there q 0 8) (hl : q < w.heap.size) : ResBoxF (set8 w q (.bool r.wr) (.int .i64 r.f) (.int .i64 r.m) (.slice r.da r.data.length r.dc) (.slice r.ta r.tags.length r.tc) (.int .i64 r.born) (.slice xa n xc) (.int .i64 er)) q r xa n xc er := by
  have hs := World.rangeAt_setCells_same w q 0 [.bool r.wr, .int .i64 r.f, .int .i64 r.m, .slice r.da r.data.length r.dc, .slice r.ta r.tags.length r.tc, .int .i64 r.born, .slice xa n xc, .int .i64 er] h
  exact ⟨⟨hs 0 _ rfl, hs 1 _ rfl, hs 2 _ rfl, hs 3 _ rfl, hs 4 _ rfl, hs 5 _ rfl, hs 6 _ rfl, hs 7 _ rfl⟩, World.there_setCells h q 0 [.bool r.wr, .int .i64 r.f, .int .i64 r.m, .slice r.da r.data.length r.dc, .slice r.ta r.tags.length r.tc, .int .i64 r.born, .slice xa n xc, .int .i64 er], by simpa [set8] using hl⟩
/-- A result is stored over one. -/
theorem wpList_store_res {ops : Array Oper} {rest : List Oper} {op : Oper} {a : Act} {w : World} {Q : Exit → Act → World → Prop} (hgd : op.guard = none) (x y : Operand) (ho : op.op = .store 110 x y)
    (q : Nat) (r : Rq) (xa : Option Addr) (n xc : Nat) (er : Int) (hx : a.eval x = .pointer (some ⟨q, 0, none⟩)) (hy : a.eval y = resV r xa n xc er) (ht : w.there q 0 8)
    (R : World → Prop) (hR : R (set8 w q (.bool r.wr) (.int .i64 r.f) (.int .i64 r.m) (.slice r.da r.data.length r.dc) (.slice r.ta r.tags.length r.tc) (.int .i64 r.born) (.slice xa n xc) (.int .i64 er)))
    (h : ∀ w', R w' → wpList Tryz.prog ops Q rest (a.put op.dst undef) w') : wpList Tryz.prog ops Q (op :: rest) a w :=
  wpList_store_mid hgd 110 x y ho q 0 _ hx hy ht (by kernel_rfl) (by simp [Value.oneCell']) (h _ hR)
def rq0 : Rq := ⟨false, 0, 0, none, 0, [], none, 0, [], 0⟩
/-- A block of the call's own is written. -/
theorem vset8 {v b bm : Nat} {d d' : Dl} {a a' : An} {n n' : Nat} {D D' : DataW Unit} {w w' : World} (h : VStep v b bm d a n D d' a' n' D' w w') (q : Nat) (hq : w.heap.size ≤ q) (hq' : ¬ vfoot b bm a' q) (hqv : q ≠ v) (hr : ∀ r ∈ d'.busy, r.Off (fun k => k = q)) (v0 v1 v2 v3 v4 v5 v6 v7 : Value) : VStep v b bm d a n D d' a' n' D' w (set8 w' q v0 v1 v2 v3 v4 v5 v6 v7) where
  at' := ⟨h.at'.dev.frame (set8_only w' q _ _ _ _ _ _ _ _) (fun k hk e => hq' (by rw [← e]; exact Or.inr hk)) hr, by rw [(set8_only w' q v0 v1 v2 v3 v4 v5 v6 v7).block v (lt_of_heap h.at'.blk) (Ne.symm hqv)]; exact h.at'.blk, owns_block h.at'.map ((set8_only w' q v0 v1 v2 v3 v4 v5 v6 v7).block bm h.at'.mlt (fun e => hq' (Or.inl e.symm))), h.at'.foot⟩
  only := h.only.trans (set8_only w' q v0 v1 v2 v3 v4 v5 v6 v7) (fun i e => Or.inr (by subst e; exact hq))
  foot := h.foot
end Go.Proofs.YtgjkdhedkbkagaaGreat
/- A driver of a device: a request ends, well or for good. -/
namespace Go.Proofs.YtgjkdhedkbkagaaGreat
open Go.RowKit Go.BigFrame Go.Maps
set_option maxRecDepth 100000
attribute [local go_sem] Later.cell Later.frozen

theorem first_tag (r : Rq) (tg : Int) (ht : r.tags.getD 0 0 = tg) (w : World) (hr : r.At w) (h1 : 1 ≤ r.tags.length) : Calls Tryz.prog 83 #[r.val] w fun e w' => e = .returned (.int .i64 tg) ∧ Below w.heap.size w w' := by
  rw [← ht]; exact first_any r w hr h1
theorem new_notfoot {b : Nat} {d d' : Dl} {a a' : An} {w w' : World} {o : Obj} (hs : DStep b d a d' a' (w.alloc o) w') (hl : ∀ k, a.foot b k → k < w.heap.size) : ¬ a'.foot b w.heap.size := by
  intro e
  rcases hs.foot _ e with e | e
  · have := hl _ e; omega
  · rw [World.size_alloc] at e; omega
end Go.Proofs.YtgjkdhedkbkagaaGreat
/- A driver of a device: a request is tried again. -/
namespace Go.Proofs.YtgjkdhedkbkagaaGreat
open Go.RowKit Go.BigFrame Go.Maps
set_option maxRecDepth 100000
attribute [local go_sem] Later.cell Later.frozen

theorem step_store_res {ops : Array Oper} {o : Oper} {a : Act} {w : World} {K : Act → World → Prop} {Q : Exit → Act → World → Prop} {E : Prop} (hg : o.guard = none) (x y : Operand) (ho : o.op = .store 110 x y)
    (q : Nat) (r : Rq) (xa : Option Addr) (n xc : Nat) (er : Int) (hx : a.eval x = .pointer (some ⟨q, 0, none⟩)) (hy : a.eval y = resV r xa n xc er) (ht : w.there q 0 8)
    (h : K (a.put o.dst undef) (set8 w q (.bool r.wr) (.int .i64 r.f) (.int .i64 r.m) (.slice r.da r.data.length r.dc) (.slice r.ta r.tags.length r.tc) (.int .i64 r.born) (.slice xa n xc) (.int .i64 er))) :
    if Region.wanted o (yielded ops a.tmps) = true then Oper.wp Tryz.prog o a w K Q else E := by
  have hw : Region.wanted o (yielded ops a.tmps) = true := by simp [Region.wanted, hg]
  rw [if_pos hw]
  exact wp_store_mid 110 x y ho q 0 _ hx hy ht (by kernel_rfl) (by simp [Value.oneCell']) h
end Go.Proofs.YtgjkdhedkbkagaaGreat
/- A driver of a device, whatever requests it has: End of none; what its map says. -/
namespace Go.Proofs.YtgjkdhedkbkagaaGreat
open Go.RowKit Go.BigFrame Go.Maps
set_option maxRecDepth 100000
attribute [local go_sem] Later.cell Later.frozen

/-- What a map of numbers says of each. -/
def MapIs (D : DataW Unit) (f : Int → Int) : Prop := ∀ t, D.atKey (.int .i64 t) (.lit (.int .i64 0)) = .lit (.int .i64 (f t))
theorem mapIs_new : MapIs (.map []) (fun _ => 0) := fun _ => rfl
theorem MapIs.put {D : DataW Unit} {f : Int → Int} (h : MapIs D f) (hD : IsMap D) (t c : Int) : MapIs (D.put (.int .i64 t) (.lit (.int .i64 c))) (fun x => if x = t then c else f x) := fun x => by
  by_cases e : x = t
  · subst e; rw [atKey_put_same hD (by trivial)]; simp
  · rw [atKey_put_other (by simpa using e)]; simp [e, h x]
theorem MapIs.del {D : DataW Unit} {f : Int → Int} (h : MapIs D f) (t : Int) : MapIs (D.del (.int .i64 t)) (fun x => if x = t then 0 else f x) := fun x => by
  by_cases e : x = t
  · subst e; rw [atKey_del_same]; simp
  · rw [atKey_del_other (by simpa using e)]; simp [e, h x]
theorem end_faultG (b : Nat) (d : Dl) (a : An) (l : List Rq) (k : Nat) (r : Rq) (hb : d.busy = l) (hk : l[k]? = some r) (w : World) (h : DevAt b d a w) :
    Calls Tryz.prog 82 #[.pointer (some ⟨b, 0, none⟩), .int .i64 k, .bool true] w fun e w' => ∃ a', e = .returned (.tuple #[resV r none 0 0 8, .nilIface]) ∧ DStep b d a { d with busy := d.busy.eraseIdx k } a' w w' := by
  subst hb
  obtain ⟨hk', rfl⟩ := List.getElem?_eq_some_iff.1 hk
  exact end_fault b d a k hk' w h
set_option maxRecDepth 100000 in
set_option maxHeartbeats 1000000 in
theorem vg_none (v b bm : Nat) (d : Dl) (a : An) (n : Nat) (D : DataW Unit) (i : Int) (fl : Bool) (w : World) (h : VAt v b bm d a n D w) (hi : i < 0 ∨ (d.busy.length : Int) ≤ i) :
    Calls Tryz.prog 62 #[.pointer (some ⟨v, 0, none⟩), .int .i64 i, .bool fl] w fun e w' => e = .returned (.tuple #[noRes, .bool false, .iface 89 (.int .i64 5)]) ∧ Below w.heap.size w w' := by
  obtain ⟨c0, c1⟩ := h.cells; have HV := hidT h; have hv := lt_of_heap h.blk; have hm := h.mlt; have hbv := h.dev.lt; have hb0 := hidT (below1 w (.cells #[.bool false, .int .i64 0, .int .i64 0, .slice none 0 0, .slice none 0 0, .int .i64 0, .slice none 0 0, .int .i64 0] 110)); clear h
  have HI := hidT hi
  clear hi
  go_enter Tryz.func62, Tryz.ntmps62
  go_wp2_with fail
  refine (end_none b d a i fl _ (HV.out.dev.later hb0.out) HI.out).mono ?_
  rintro e w1 ⟨rfl, hb1⟩
  have hz1 := (zero_new w 110).only (F := fun _ => False) (Only.of_below hb1) (fun e => e)
  have hB1 := hb0.out.trans (hb1.mono hb0.out.size)
  have HZ1 := hidT hz1
  have HB1 := hidT hB1
  clear hb1 hB1 hz1
  go_wp2_with (first
    | (refine wpList_store_res rfl (.tmp 6) (.tmp 18) rfl w.heap.size rq0 none 0 0 0 rfl rfl (zero_there HZ1.out) (fun wK => Below w.heap.size w wK ∧ ResBoxF wK w.heap.size rq0 none 0 0 0) ⟨HB1.out.trans ((set8_only w1 w.heap.size _ _ _ _ _ _ _ _).below HB1.out.size (fun i e => by omega)), set8_res (zero_there HZ1.out) HZ1.out.2.2⟩ ?_; rintro w2 ⟨hb2, hr2⟩; have HB2 := hidT hb2; have HR2 := hidT hr2; clear hb2 hr2 HB1 HZ1)
    | (refine wpList_store_res rfl (.tmp 6) (.tmp 22) rfl w.heap.size rq0 none 0 0 0 rfl rfl HR2.out.2.1 (fun wK => Below w.heap.size w wK ∧ ResBoxF wK w.heap.size rq0 none 0 0 0) ⟨HB2.out.trans ((set8_only w2 w.heap.size _ _ _ _ _ _ _ _).below HB2.out.size (fun i e => by omega)), set8_res HR2.out.2.1 HR2.out.2.2⟩ ?_; rintro w3 ⟨hb3, ⟨z0, z1, z2, z3, z4, z5, z6, z7⟩, -, -⟩; have HB3 := hidT hb3; clear hb3 HB2 HR2))
  exact bodyPost_ret (v := .tuple #[noRes, .bool false, .iface 89 (.int .i64 5)]) (by simp [results, Tryz.results62, go_sem, z0, z1, z2, z3, z4, z5, z6, z7, rq0]) rfl ⟨rfl, HB3.out⟩
/-- What is known of a driver's requests. -/
structure VReq (bm : Nat) (d : Dl) (k : Nat) (r : Rq) (tg : Int) : Prop where
  at' : d.busy[k]? = some r
  tag : r.tags.getD 0 0 = tg
  in' : In64 tg
  some' : 1 ≤ r.tags.length
  off : ∀ q ∈ d.busy, q.Off (fun j => j = bm)
theorem VReq.mem {bm : Nat} {d : Dl} {k : Nat} {r : Rq} {tg : Int} (h : VReq bm d k r tg) : r ∈ d.busy := List.mem_of_getElem? h.at'
set_option maxRecDepth 100000 in
set_option maxHeartbeats 2000000 in
theorem vg_done (v b bm : Nat) (d : Dl) (a : An) (n : Nat) (D : DataW Unit) (k : Nat) (r : Rq) (tg c : Int) (w : World) (h : VAt v b bm d a n D w) (hr : VReq bm d k r tg) (hc : D.atKey (.int .i64 tg) (.lit (.int .i64 0)) = .lit (.int .i64 c)) (hc2 : 2 ≤ c ∧ c ≤ 100) :
    Calls Tryz.prog 62 #[.pointer (some ⟨v, 0, none⟩), .int .i64 k, .bool true] w fun e w' => ∃ a', e = .returned (.tuple #[resV r none 0 0 8, .bool true, .nilIface]) ∧ VStep v b bm d a n D { d with busy := d.busy.eraseIdx k } a' n (D.del (.int .i64 tg)) w w' := by
  have HA0 := hidT (h.dev.reqs r hr.mem).1
  have HMEM := hidT hr.mem
  have HRQ := hidT hr
  have HC := hidT hc
  have hkey : keyOf Tryz.prog 3 (.int .i64 tg) = some (.int .i64 tg) := keyOf_int_mk Tryz.underlying3 (WalkArith.wf_i64 hr.in')
  have h1 := hr.some'
  have hc3 : ¬ c + 1 < 3 := by omega
  obtain ⟨hc4, hc5⟩ := hc2
  clear hc hr
  obtain ⟨c0, c1⟩ := h.cells; have HV := hidT h; have hv := lt_of_heap h.blk; have hm := h.mlt; have hbv := h.dev.lt; have hb0 := hidT (below1 w (.cells #[.bool false, .int .i64 0, .int .i64 0, .slice none 0 0, .slice none 0 0, .int .i64 0, .slice none 0 0, .int .i64 0] 110)); clear h
  go_enter Tryz.func62, Tryz.ntmps62
  go_wp2_with fail
  refine (end_faultG b d a _ k r rfl HRQ.out.at' _ (HV.out.dev.later hb0.out)).mono ?_
  rintro e w1 ⟨a1, rfl, hs1⟩
  have hs1n : ¬ a1.foot b w.heap.size := new_notfoot hs1 HV.out.dev.footLt
  obtain ⟨d1, hd1⟩ : ∃ d1 : Dl, d1 = { d with busy := d.busy.eraseIdx k } := ⟨_, rfl⟩
  have HD1 := hidT hd1
  rw [← hd1] at hs1
  have HO1 : Hid (∀ q ∈ d1.busy, q.Off (fun j => j = w.heap.size)) := fun q hq => by rw [HD1.out] at hq; exact off_of (HV.out.dev.reqs q (List.mem_of_mem_eraseIdx hq)).1 (fun j e => by omega)
  have HOQ := HO1
  have HOB : Hid (∀ q ∈ d1.busy, q.Off (fun j => j = bm)) := fun q hq => by rw [HD1.out] at hq; exact HRQ.out.off q (List.mem_of_mem_eraseIdx hq)
  have HNF : Hid (¬ vfoot b bm a1 w.heap.size) := fun e => e.elim (fun e => by omega) hs1n
  clear hd1
  have HS1 := hidT (HV.out.step ((DStep.same HV.out.dev hb0.out).trans hs1)); have HZ1 := hidT ((zero_new w 110).only hs1.only (fun e => by have := HV.out.dev.footLt _ e; omega)); have HN1 : Hid (¬ vfoot b bm a1 w.heap.size) := (fun e => e.elim (fun e => by omega) (fun e => (HS1.out.foot _ (Or.inr e)).elim (fun e => e.elim (fun e => by omega) (fun e => by have := HV.out.dev.footLt _ e; omega)) (fun _ => hs1n e))); have HA1 := hidT ((HA0.out.later hb0.out).frame (HV.out.dev.reqs r (HMEM.out)).2 hs1.only); clear hs1 hs1n
  go_wp2_with (refine wpList_store_res rfl (.tmp 6) (.tmp 18) rfl w.heap.size r none 0 0 8 rfl rfl (zero_there HZ1.out) (fun wK => VStep v b bm d a n D d1 a1 n D w wK ∧ ResBoxF wK w.heap.size r none 0 0 8 ∧ r.At wK) ⟨vset8 HS1.out w.heap.size (Nat.le_refl _) HN1.out (by omega) HO1.out _ _ _ _ _ _ _ _, set8_res (zero_there HZ1.out) HZ1.out.2.2, HA1.out.frame (off_of HA0.out (fun k e => by omega)) (set8_only w1 w.heap.size _ _ _ _ _ _ _ _)⟩ ?_; rintro wK ⟨hsK, hrK, haK⟩; have HSK := hidT hsK; have HRK := hidT hrK; have HAK := hidT haK; obtain ⟨⟨y0, y1, y2, y3, y4, y5, y6, y7⟩, -, yl⟩ := hrK; clear hsK haK HS1 HN1 HO1 HZ1 HA1)
  refine (first_tag r tg HRQ.out.tag _ HAK.out h1).mono ?_
  rintro e w2 ⟨rfl, hb2⟩; have HS2 := hidT (HSK.out.later hb2); have HR2 := hidT (HRK.out.later hb2); have HA2 := hidT (HAK.out.later hb2); clear HSK HRK HAK hb2 y0 y1 y2 y3 y4 y5 y6 y7 yl; obtain ⟨⟨x0, x1, x2, x3, x4, x5, x6, x7⟩, -, xl⟩ := id HR2.out; obtain ⟨p0, p1⟩ := HS2.out.at'.cells; have hmp := HS2.out.at'.map; have hvl := lt_of_heap HS2.out.at'.blk
  obtain ⟨c', hrun, hat, -⟩ := hmp.lookup_int keyI Tryz.underlying106 Tryz.underlying3 (zeroI _) hkey
  obtain rfl : c' = c := by rw [HC.out] at hat; injection hat with e; injection e with _ e; exact e.symm
  have HAT := hidT hat
  clear hat
  go_wp2_with (first | (at_delete; refine wpList_delete_own _ rfl _ _ 106 3 rfl 3 keyI Tryz.underlying106 _ bm n D rfl hmp _ _ rfl hkey ?_; intro w3 hown3 hturn3; have HS3 := hidT (HS2.out.trans (HS2.out.at'.turn (only_of_grown hturn3.grown) hown3 HOB.out)); have HR3 := hidT (HR2.out.only (only_of_grown hturn3.grown) (by omega)); obtain ⟨⟨m0, m1, m2, m3, m4, m5, m6, m7⟩, -, ml⟩ := id HR3.out; have HN3 : Hid (¬ vfoot b bm a1 w.heap.size) := HNF.out; clear hown3 hturn3 hmp HS2 HR2 HA2 x0 x1 x2 x3 x4 x5 x6 x7 xl p0 p1 hvl) | (refine wpList_store_res rfl (.tmp 6) (.tmp 60) rfl w.heap.size r none 0 0 8 rfl rfl HR3.out.2.1 (fun wK => VStep v b bm d a n D d1 a1 n (D.del (.int .i64 tg)) w wK ∧ ResBoxF wK w.heap.size r none 0 0 8) ⟨vset8 HS3.out w.heap.size (Nat.le_refl _) HN3.out (by omega) HOQ.out _ _ _ _ _ _ _ _, set8_res HR3.out.2.1 HR3.out.2.2⟩ ?_; rintro w4 ⟨hs4, ⟨k0, k1, k2, k3, k4, k5, k6, k7⟩, -, -⟩; have HS4 := hidT hs4; clear hs4 HS3 HR3 HN3 m0 m1 m2 m3 m4 m5 m6 m7 ml))
  refine bodyPost_ret (v := .tuple #[resV r none 0 0 8, .bool true, .nilIface]) (by simp [results, Tryz.results62, go_sem, k0, k1, k2, k3, k4, k5, k6, k7]) rfl ⟨a1, rfl, ?_⟩
  rw [← HD1.out]
  exact HS4.out
end Go.Proofs.YtgjkdhedkbkagaaGreat
