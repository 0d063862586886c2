/- A stack of all: what stays true of it, the places of lists apart; what a device holds stays short; how much is given and used. -/
import Derived.Test.YtgjkdhedkbkagaaGreatJ25
import Derived.Test.YtgjkdhedkbkagaaGreatJ31
namespace Go.Proofs.YtgjkdhedkbkagaaGreat
open Go.RowKit
set_option maxRecDepth 100000

theorem good_nf (r : Rq) : Good r.nf ↔ Good r := ⟨fun g => ⟨g.ok, g.shape, g.t1, g.t4, g.b0, g.b1, g.small⟩, fun g => ⟨g.ok, g.shape, g.t1, g.t4, g.b0, g.b1, g.small⟩⟩
theorem nf_all (p : Sk) : p.nf.queue ++ p.nf.dev.busy = (p.queue ++ p.dev.busy).map Rq.nf := (List.map_append).symm
theorem Inv.nf {p : Sk} (h : Inv p) : Inv p.nf where
  cl3 := h.cl3
  cok := h.cok
  hand := h.hand
  d6 := h.d6
  good := fun r hr => by
    rw [nf_all] at hr
    obtain ⟨x, hx, rfl⟩ := List.mem_map.1 hr
    exact (good_nf x).2 (h.good x hx)
  apart := by rw [nf_all, List.pairwise_map]; exact h.apart
  q6 := by show (p.queue.map Rq.nf).length ≤ 6; rw [List.length_map]; exact h.q6
  b2 := by show (p.dev.busy.map Rq.nf).length ≤ 2; rw [List.length_map]; exact h.b2
  mom := h.mom
  tg := h.tg
  us := h.us
  tin := fun r hr => by
    rw [nf_all] at hr
    obtain ⟨x, hx, rfl⟩ := List.mem_map.1 hr
    exact h.tin x hx
  n32 := h.n32
  g32 := h.g32
  ts := h.ts
  fr := h.fr
theorem Inv.of_nf {p : Sk} (h : Inv p.nf) : Inv p where
  cl3 := h.cl3
  cok := h.cok
  hand := h.hand
  d6 := h.d6
  good := fun r hr => (good_nf r).1 (h.good r.nf (by rw [nf_all]; exact List.mem_map.2 ⟨r, hr, rfl⟩))
  apart := by have := h.apart; rw [nf_all, List.pairwise_map] at this; exact this
  q6 := by have := h.q6; rw [show p.nf.queue.length = p.queue.length from List.length_map _] at this; exact this
  b2 := by have := h.b2; rw [show p.nf.dev.busy.length = p.dev.busy.length from List.length_map _] at this; exact this
  mom := h.mom
  tg := h.tg
  us := h.us
  tin := fun r hr => h.tin r.nf (by rw [nf_all]; exact List.mem_map.2 ⟨r, hr, rfl⟩)
  n32 := h.n32
  g32 := h.g32
  ts := h.ts
  fr := h.fr
/-! ### short data -/
theorem DevShort.flush {d : Dl} (h : DevShort d) : DevShort d.flush := ⟨h.1, h.1, fun x hx => by cases hx⟩
theorem DevShort.busy {d : Dl} (h : DevShort d) (l : List Rq) : DevShort { d with busy := l } := h
theorem DevShort.write {d : Dl} (h : DevShort d) (k : Nat) (s : ByteArray) (hs : s.size ≤ 4) : DevShort (d.write k s) := by
  refine ⟨fun x hx => ?_, h.2.1, fun x hx => ?_⟩
  · rcases List.mem_or_eq_of_mem_set hx with h' | rfl
    · exact h.1 x h'
    · exact hs
  · rcases List.mem_append.1 hx with h' | h'
    · exact h.2.2 x (List.mem_filter.1 h').1
    · rw [List.mem_singleton.1 h']; exact hs
theorem DevShort.writesTo {d : Dl} (h : DevShort d) (r : Rq) (hr : ∀ s ∈ r.data, s.size ≤ 4) : ∀ n, DevShort (d.writesTo r n)
  | 0 => h
  | n + 1 => by rw [Dl.writesTo_succ]; exact (h.writesTo r hr n).write _ _ (getD_short hr n)
theorem good_short {r : Rq} (g : Good r) : ∀ s ∈ r.data, s.size ≤ 4 := by
  have := g.small
  simp only [small4, List.all_eq_true, decide_eq_true_eq] at this
  exact this
theorem DevShort.did {d : Dl} (h : DevShort d) (r : Rq) (g : Good r) : DevShort (d.did r) := by
  unfold Dl.did
  split
  · exact h.writesTo r (good_short g) _
  · exact h
theorem d0_short : DevShort d0 := ⟨fun s hs => by rw [(List.mem_replicate.1 hs).2, size_empty]; omega, fun s hs => by rw [(List.mem_replicate.1 hs).2, size_empty]; omega, fun x hx => by cases hx⟩
/-! ### what a serving leaves -/
structure Mild (n : Nat) (p p' : Sk) : Prop where
  dev : p'.dev = p.dev ∨ p'.dev = p.dev.flush
  tags : p'.tags ≤ p.tags + n
  uses : p'.uses ≤ p.uses + n
  dead : p'.dead = p.dead
  f : p'.f = p.f
  mom : p'.moment = p.moment
  turn : p'.turn = p.turn
  ag : p'.ag = p.ag
theorem Mild.refl (n : Nat) (p : Sk) : Mild n p p := ⟨Or.inl rfl, by omega, by omega, rfl, rfl, rfl, rfl, rfl⟩
theorem Mild.trans {n m : Nat} {p p' p2 : Sk} (h : Mild n p p') (k : Mild m p' p2) : Mild (n + m) p p2 := by
  refine ⟨?_, ?_, ?_, k.dead.trans h.dead, k.f.trans h.f, k.mom.trans h.mom, k.turn.trans h.turn, k.ag.trans h.ag⟩
  · rcases h.dev with h1 | h1 <;> rcases k.dev with k1 | k1
    · exact Or.inl (k1.trans h1)
    · exact Or.inr (by rw [k1, h1])
    · exact Or.inr (k1.trans h1)
    · exact Or.inr (by rw [k1, h1]; rfl)
  · have := h.tags; have := k.tags; omega
  · have := h.uses; have := k.uses; omega
theorem mild_askQ (p : Sk) (pl : Int) (wr : Bool) (data : List ByteArray) : Mild 1 p (p.askQ pl wr data).2 := by
  rcases askQ_cases (p := p) pl wr data with ⟨_, e⟩ | ⟨L, _, e⟩
  · rw [e]; exact Mild.refl 1 p
  · rw [e]; exact ⟨Or.inl rfl, by show p.tags + 1 ≤ p.tags + 1; omega, by show p.uses ≤ p.uses + 1; omega, rfl, rfl, rfl, rfl, rfl⟩
theorem mild_serveRead (p : Sk) (i : Nat) : Mild 1 p (p.serveRead i) := by
  unfold Sk.serveRead
  cases getB p.hand (p.client i).pl with
  | some b => exact ⟨Or.inl rfl, by show p.tags ≤ p.tags + 1; omega, by show p.uses + 1 ≤ p.uses + 1; omega, rfl, rfl, rfl, rfl, rfl⟩
  | none =>
    simp only
    split
    · exact Mild.refl 1 p
    · exact mild_askQ p _ _ _
theorem mild_serveWrite (p : Sk) (i : Nat) : Mild 1 p (p.serveWrite i) := by
  unfold Sk.serveWrite
  split
  · exact ⟨Or.inl rfl, by show p.tags ≤ p.tags + 1; omega, by show p.uses ≤ p.uses + 1; omega, rfl, rfl, rfl, rfl, rfl⟩
  split
  · exact Mild.refl 1 p
  · split
    · exact ⟨Or.inl rfl, by show p.tags ≤ p.tags + 1; omega, by show p.uses + 1 ≤ p.uses + 1; omega, rfl, rfl, rfl, rfl, rfl⟩
    · exact ⟨Or.inl rfl, by show p.tags ≤ p.tags + 1; omega, by show p.uses + 1 ≤ p.uses + 1; omega, rfl, rfl, rfl, rfl, rfl⟩
theorem mild_serveSync (p : Sk) (i : Nat) : Mild 1 p (p.serveSync i) := by
  unfold Sk.serveSync
  split
  · exact ⟨Or.inl rfl, by show p.tags ≤ p.tags + 1; omega, by show p.uses ≤ p.uses + 1; omega, rfl, rfl, rfl, rfl, rfl⟩
  split
  · exact ⟨Or.inr rfl, by show p.tags ≤ p.tags + 1; omega, by show p.uses ≤ p.uses + 1; omega, rfl, rfl, rfl, rfl, rfl⟩
  · exact ⟨Or.inl rfl, by show p.tags ≤ p.tags + 1; omega, by show p.uses ≤ p.uses + 1; omega, rfl, rfl, rfl, rfl, rfl⟩
theorem mild_serve1 (p : Sk) (i : Nat) : Mild 1 p (p.serve1 i) := by
  unfold Sk.serve1
  split
  · exact mild_serveRead p i
  split
  · exact mild_serveWrite p i
  split
  · exact mild_serveSync p i
  · exact Mild.refl 1 p
theorem mild_serve (p : Sk) : Mild 3 p p.serve := ((mild_serve1 p 0).trans (mild_serve1 _ 1)).trans (mild_serve1 _ 2)
theorem mild_wasRead (p : Sk) (pl : Int) (s : ByteArray) : Mild 1 p (p.wasRead pl s) := by
  unfold Sk.wasRead
  split
  · exact Mild.refl 1 p
  · split
    · exact ⟨Or.inl rfl, by show p.tags ≤ p.tags + 1; omega, by show p.uses + 1 ≤ p.uses + 1; omega, rfl, rfl, rfl, rfl, rfl⟩
    · exact ⟨Or.inl rfl, by show p.tags ≤ p.tags + 1; omega, by show p.uses ≤ p.uses + 1; omega, rfl, rfl, rfl, rfl, rfl⟩
theorem mild_wentOne (p : Sk) (r : Rq) (xs : List ByteArray) (j : Nat) : Mild 1 p (p.wentOne r xs j) := by
  unfold Sk.wentOne
  split
  · exact ⟨Or.inl rfl, by show p.tags ≤ p.tags + 1; omega, by show p.uses ≤ p.uses + 1; omega, rfl, rfl, rfl, rfl, rfl⟩
  · exact mild_wasRead p _ _
theorem mild_wentTo (p : Sk) (r : Rq) (xs : List ByteArray) : ∀ n, Mild n p (p.wentTo r xs n)
  | 0 => Mild.refl 0 p
  | n + 1 => by rw [wentTo_succ]; exact (mild_wentTo p r xs n).trans (mild_wentOne _ r xs n)
/-! ### a whole step -/
/-- All that is wanted of a stack between two calls. -/
structure Fit (n : Nat) (p : Sk) : Prop where
  inv : Inv p
  short : DevShort p.dev
  tags : p.tags ≤ n
  uses : p.uses ≤ n
  ag : p.ag ≤ n
theorem Fit.mono {n m : Nat} {p : Sk} (h : Fit n p) (hm : n ≤ m) : Fit m p := ⟨h.inv, h.short, by have := h.tags; omega, by have := h.uses; omega, by have := h.ag; omega⟩
theorem Fit.nf {n : Nat} {p : Sk} (h : Fit n p) : Fit n p.nf := ⟨h.inv.nf, h.short, h.tags, h.uses, h.ag⟩
theorem Fit.of_nf {n : Nat} {p : Sk} (h : Fit n p.nf) : Fit n p := ⟨h.inv.of_nf, h.short, h.tags, h.uses, h.ag⟩
theorem Fit.mild {n m : Nat} {p p' : Sk} (h : Fit n p) (hi : Inv p') (k : Mild m p p') : Fit (n + m) p' := by
  refine ⟨hi, ?_, by have := h.tags; have := k.tags; omega, by have := h.uses; have := k.uses; omega, by have := h.ag; have := k.ag; omega⟩
  rcases k.dev with e | e
  · rw [e]; exact h.short
  · rw [e]; exact h.short.flush
theorem Fit.serve {n : Nat} {p : Sk} (h : Fit n p) : Fit (n + 3) p.serve := h.mild h.inv.serve (mild_serve p)
theorem Fit.ask {n : Nat} {p : Sk} (h : Fit n p) (c kind pl : Int) (data : ByteArray) : Fit (n + 3) (p.ask c kind pl data).2 := by
  refine h.mild (h.inv.ask c kind pl data) ?_
  unfold Sk.ask
  split
  · exact Mild.refl 3 p
  split
  · exact Mild.refl 3 p
  · have := mild_serve (p.asks c.toNat kind pl data)
    exact ⟨this.dev, this.tags, this.uses, this.dead, this.f, this.mom, this.turn, this.ag⟩
theorem Fit.tick {n : Nat} {p : Sk} (h : Fit n p) : Fit (n + 3) p.tick := by
  have k := mild_serve ({ p with moment := if p.moment + 1 < 1000000000 then p.moment + 1 else 1000000000 } : Sk)
  refine ⟨h.inv.tick, ?_, by have := h.tags; have := k.tags; show _ ≤ _; exact Int.le_trans k.tags (by show p.tags + _ ≤ _; omega), Int.le_trans k.uses (by have := h.uses; show p.uses + _ ≤ _; omega), by have h1 := h.ag; have h2 : (Sk.serve _).ag = p.ag := k.ag; show (Sk.serve _).ag ≤ _; rw [h2]; omega⟩
  rcases k.dev with e | e
  · show DevShort (Sk.serve _).dev; rw [e]; exact h.short
  · show DevShort (Sk.serve _).dev; rw [e]; exact h.short.flush
theorem Fit.clean {n : Nat} {p : Sk} (h : Fit n p) : Fit (n + 1) p.clean.2 := by
  refine h.mild h.inv.clean ?_
  unfold Sk.clean
  split
  · exact Mild.refl 1 p
  split
  · exact Mild.refl 1 p
  · exact mild_askQ p _ _ _
theorem Fit.dispatch {n : Nat} {p : Sk} (h : Fit n p) : Fit n p.dispatch.2 := by
  rcases dispatch_cases h.inv with ⟨_, e⟩ | ⟨i, hi, T, _, hb, _, hT, e⟩
  · rw [e]; exact h
  · rw [e]; exact ⟨h.inv.moved i hi T hT hb, h.short, h.tags, h.uses, h.ag⟩
theorem Fit.dispatches (m : Nat) : ∀ {n : Nat} {p : Sk}, Fit n p → Fit n (p.dispatches m) := by
  induction m with
  | zero => intro n p h; exact h
  | succ m ih =>
    intro n p h
    unfold Sk.dispatches
    split
    · exact ih h.dispatch
    · exact h
theorem Fit.end' {n : Nat} {p : Sk} (h : Fit n p) (i : Int) (fault : Bool) : Fit (n + 7) (p.end' i fault).2 := by
  have hI := h.inv.end' h.short i fault
  rcases end_cases p i fault with ⟨_, e⟩ | ⟨k, hk, _, ⟨_, e⟩ | ⟨_, hf, e⟩ | ⟨_, _, _, e⟩ | ⟨_, _, _, e⟩⟩
  · rw [e]; exact h.mono (by omega)
  · rw [e] at hI ⊢
    have gr := h.inv.good _ (List.mem_append_right _ (List.getElem_mem hk))
    have h0 : Fit n ((p.took k).did p.dev.busy[k]) := ⟨(h.inv.took k).did _, (DevShort.busy h.short _).did _ gr, h.tags, h.uses, h.ag⟩
    have := gr.bds
    have k := (mild_wentTo ((p.took k).did p.dev.busy[k]) p.dev.busy[k] (didRead p.dev p.dev.busy[k]) p.dev.busy[k].m.toNat).trans (mild_serve _)
    exact (h0.mild hI k).mono (by omega)
  · rw [e] at hI ⊢; exact ⟨hI, h.short, by have := h.tags; show p.tags ≤ _; omega, by have := h.uses; show p.uses ≤ _; omega, by have := h.ag; show p.ag + 1 ≤ _; omega⟩
  · rw [e] at hI ⊢
    have h0 : Fit n ({ (p.took k).lost p.dev.busy[k] with dead := true } : Sk) := ⟨(h.inv.took k).lost _ _, h.short, h.tags, h.uses, h.ag⟩
    exact (h0.mild hI (mild_serve _)).mono (by omega)
  · rw [e] at hI ⊢
    have h0 : Fit n (((p.took k).lost p.dev.busy[k]).readers (fun x => hasB p.dev.busy[k].f p.dev.busy[k].m x) ByteArray.empty 8) := ⟨((h.inv.took k).lost' _).readers _ _ _, h.short, h.tags, h.uses, h.ag⟩
    exact (h0.mild hI (mild_serve _)).mono (by omega)
theorem Fit.round {n : Nat} {p : Sk} (h : Fit n p) : Fit (n + 11) p.round := ((h.tick.clean.dispatches 3).end' 0 false).mono (by omega)
theorem Fit.settle (m : Nat) : ∀ {n : Nat} {p : Sk}, Fit n p → Fit (n + 11 * m) (p.settle m).2 := by
  induction m with
  | zero => intro n p h; exact h
  | succ m ih =>
    intro n p h
    unfold Sk.settle
    split
    · exact h.mono (by omega)
    · exact (ih h.round).mono (by omega)
theorem sk0_fit : Fit 0 sk0 := by
  refine ⟨⟨rfl, fun c hc => ?_, ⟨List.Pairwise.nil, Nat.zero_le _, (fun x hx => by cases hx)⟩, Nat.zero_le _, (fun r hr => by cases hr), List.Pairwise.nil, Nat.zero_le _, Nat.zero_le _, ⟨Int.le_refl 0, by show (0 : Int) ≤ 1000000000; omega⟩, Int.le_refl 0, Int.le_refl 0, (fun r hr => by cases hr), rfl, rfl, ⟨Int.le_refl 0, by show (0 : Int) ≤ 2; omega⟩, fun t => ⟨Int.le_refl 0, by show (0 : Int) ≤ 2; omega⟩⟩, d0_short, Int.le_refl 0, Int.le_refl 0, Nat.le_refl 0⟩
  have : c = cl0 := by simpa [sk0] using hc
  rw [this]; exact cl0_ok
end Go.Proofs.YtgjkdhedkbkagaaGreat
/- A stack of all: who is served leaves the others; quiet; dead. -/
namespace Go.Proofs.YtgjkdhedkbkagaaGreat
open Go.RowKit
set_option maxRecDepth 100000

theorem clientSet (p : Sk) (hl : p.cl.length = 3) {i j : Nat} (hi : i < 3) (c : Cl) : ({ p with cl := p.cl.set i c } : Sk).client j = if j = i then c else p.client j := by
  unfold Sk.client
  by_cases h : j = i
  · subst h
    rw [if_pos rfl]
    simp [List.getD, hl, hi]
  · rw [if_neg h]
    simp [List.getD, Ne.symm h]
theorem clientSet_ne (p : Sk) {i j : Nat} (h : j ≠ i) (c : Cl) : ({ p with cl := p.cl.set i c } : Sk).client j = p.client j := by
  unfold Sk.client
  simp [List.getD, Ne.symm h]
theorem answer_client (p : Sk) (hl : p.cl.length = 3) {i : Nat} (hi : i < 3) (s : ByteArray) (e : Int) : (p.answer i s e).client i = ⟨0, 0, ByteArray.empty, [], s, e⟩ := by
  unfold Sk.answer
  rw [clientSet p hl hi, if_pos rfl]
theorem answer_ne (p : Sk) {i j : Nat} (h : j ≠ i) (s : ByteArray) (e : Int) : (p.answer i s e).client j = p.client j := clientSet_ne p h _
theorem askQ_cl (p : Sk) (pl : Int) (wr : Bool) (data : List ByteArray) : (p.askQ pl wr data).2.cl = p.cl := by
  rcases askQ_cases (p := p) pl wr data with ⟨_, e⟩ | ⟨L, _, e⟩ <;> rw [e]
theorem serve1_cl (p : Sk) (i : Nat) : (p.serve1 i).cl = p.cl ∨ ∃ c, (p.serve1 i).cl = p.cl.set i c := by
  unfold Sk.serve1
  split
  · unfold Sk.serveRead
    split
    · exact Or.inr ⟨_, rfl⟩
    · split
      · exact Or.inl rfl
      · exact Or.inl (askQ_cl p _ _ _)
  split
  · unfold Sk.serveWrite
    split
    · exact Or.inr ⟨_, rfl⟩
    split
    · exact Or.inl rfl
    split
    · exact Or.inr ⟨_, rfl⟩
    · exact Or.inl rfl
  split
  · unfold Sk.serveSync
    split
    · exact Or.inr ⟨_, rfl⟩
    split
    · exact Or.inr ⟨_, rfl⟩
    · exact Or.inr ⟨_, rfl⟩
  · exact Or.inl rfl
theorem client_cl {p q : Sk} (h : p.cl = q.cl) (j : Nat) : p.client j = q.client j := by unfold Sk.client; rw [h]
theorem serve1_other (p : Sk) {i j : Nat} (h : j ≠ i) : (p.serve1 i).client j = p.client j := by
  rcases serve1_cl p i with e | ⟨c, e⟩
  · exact client_cl e j
  · unfold Sk.client
    rw [e]
    simp [List.getD, Ne.symm h]
theorem waits_iff (p : Sk) (i : Nat) (hi : i < 3) : p.waits (i : Int) = true ↔ ¬ (p.client i).kind = 0 := by
  unfold Sk.waits
  rw [decide_eq_true (show (0 : Int) ≤ i ∧ (i : Int) < 3 by omega), Bool.true_and, Int.toNat_natCast]
  simp
theorem waits_no (p : Sk) (i : Nat) (hi : i < 3) : p.waits (i : Int) = false ↔ (p.client i).kind = 0 := by
  have := waits_iff p i hi
  cases h : p.waits (i : Int)
  · rw [h] at this
    simp at this
    simp [this]
  · rw [h] at this
    simp at this
    simp [this]
theorem quiet_iff (p : Sk) : p.quiet = true ↔ (∀ i, i < 3 → (p.client i).kind = 0) ∧ p.queue = [] ∧ p.dev.busy = [] := by
  have h0 : p.waits 0 = false ↔ (p.client 0).kind = 0 := waits_no p 0 (by omega)
  have h1 : p.waits 1 = false ↔ (p.client 1).kind = 0 := waits_no p 1 (by omega)
  have h2 : p.waits 2 = false ↔ (p.client 2).kind = 0 := waits_no p 2 (by omega)
  unfold Sk.quiet
  simp only [Bool.and_eq_true, Bool.not_eq_true', List.isEmpty_iff]
  rw [h0, h1, h2]
  constructor
  · rintro ⟨⟨a, b, c⟩, d⟩
    refine ⟨fun i hi => ?_, d⟩
    match i, hi with
    | 0, _ => exact a
    | 1, _ => exact b
    | 2, _ => exact c
  · rintro ⟨a, d⟩
    exact ⟨⟨a 0 (by omega), a 1 (by omega), a 2 (by omega)⟩, d⟩
theorem mem_client {p : Sk} (hl : p.cl.length = 3) {c : Cl} (hc : c ∈ p.cl) : ∃ i, i < 3 ∧ p.client i = c := by
  obtain ⟨i, hi, rfl⟩ := List.getElem_of_mem hc
  exact ⟨i, by omega, by unfold Sk.client; rw [List.getD_eq_getElem?_getD, List.getElem?_eq_getElem hi, Option.getD_some]⟩
theorem client_mem {p : Sk} (hl : p.cl.length = 3) {i : Nat} (hi : i < 3) : p.client i ∈ p.cl := by
  unfold Sk.client
  rw [List.getD_eq_getElem?_getD, List.getElem?_eq_getElem (by omega), Option.getD_some]
  exact List.getElem_mem _
theorem wants_no {p : Sk} (hl : p.cl.length = 3) (h : ∀ i, i < 3 → (p.client i).kind = 0) : p.wantsClean = false := by
  unfold Sk.wantsClean
  rw [List.any_eq_false]
  intro c hc
  obtain ⟨i, hi, rfl⟩ := mem_client hl hc
  rw [h i hi]
  simp
theorem soft_clean {p : Sk} (hl : p.cl.length = 3) (hq : p.quiet = true) (hd : dirtyB p.hand < 3) : p.clean = (false, p) := by
  unfold Sk.clean
  rw [if_pos (Or.inr ⟨hd, wants_no hl ((quiet_iff p).1 hq).1⟩)]
/-! ### dead -/
theorem dead_tick (p : Sk) : p.tick.dead = p.dead := (mild_serve _).dead
theorem dead_askQ (p : Sk) (pl : Int) (wr : Bool) (data : List ByteArray) : (p.askQ pl wr data).2.dead = p.dead := (mild_askQ p pl wr data).dead
theorem dead_clean (p : Sk) : p.clean.2.dead = p.dead := by
  unfold Sk.clean
  split
  · rfl
  split
  · rfl
  · exact dead_askQ p _ _ _
theorem dead_dispatch (p : Sk) : p.dispatch.2.dead = p.dead := by
  unfold Sk.dispatch
  split <;> rfl
theorem dead_dispatches (n : Nat) : ∀ p : Sk, (p.dispatches n).dead = p.dead := by
  induction n with
  | zero => intro p; rfl
  | succ n ih =>
    intro p
    unfold Sk.dispatches
    split
    · exact (ih _).trans (dead_dispatch p)
    · rfl
theorem dead_end (p : Sk) (i : Int) (fault : Bool) (h : p.dead = true) : (p.end' i fault).2.dead = true := by
  rcases end_cases p i fault with ⟨_, e⟩ | ⟨k, hk, _, ⟨_, e⟩ | ⟨_, _, e⟩ | ⟨_, _, _, e⟩ | ⟨_, _, _, e⟩⟩
  · rw [e]; exact h
  · rw [e]; exact ((mild_serve _).dead.trans (mild_wentTo _ _ _ _).dead).trans h
  · rw [e]; exact h
  · rw [e]; exact (mild_serve _).dead
  · rw [e]; exact (mild_serve _).dead.trans h
end Go.Proofs.YtgjkdhedkbkagaaGreat
/- A stack of all: all who wait are served. -/
namespace Go.Proofs.YtgjkdhedkbkagaaGreat
open Go.RowKit Go.BigFrame Go.Maps
set_option maxRecDepth 100000
attribute [local go_sem] Later.cell Later.frozen

def Sk.serveTo (p : Sk) : Nat → Sk
  | 0 => p
  | k + 1 => (p.serveTo k).serve1 k
theorem serveTo_inv {p : Sk} (h : Inv p) : ∀ k, Inv (p.serveTo k)
  | 0 => h
  | k + 1 => (serveTo_inv h k).serve1 k
theorem serveTo_mild (p : Sk) : ∀ k, Mild k p (p.serveTo k)
  | 0 => Mild.refl 0 p
  | k + 1 => (serveTo_mild p k).trans (mild_serve1 _ k)
/-- Where a loop stands. -/
def SRel (s : Nat) (p : Sk) (A : Sa) (w wr : World) (q : Sk) : Prop := ∃ p' A', SStep s p A p' A' w wr ∧ p'.nf = q
theorem SOk.trans {s : Nat} {p p' : Sk} {A A' : Sa} {w w1 w2 : World} {q : Sk} (h : SStep s p A p' A' w w1) (k : SOk s p' A' w1 w2 q) : SOk s p A w w2 q := by
  obtain ⟨p2, A2, h2, e⟩ := k
  exact ⟨p2, A2, h.trans h2, e⟩
theorem serve1_any (s : Nat) (p : Sk) (A : Sa) (w : World) (h : StkAt s p A w) (hI : Inv p) (hT : p.tags ≤ 4000000000000000000) (hU : p.uses ≤ 4000000000000000000) (i : Nat) (hi : i < 3) :
    ((p.client i).kind = 1 → Calls Tryz.prog 74 #[.pointer (some ⟨s, 0, none⟩), .pointer (some ⟨s, 2 + i * 6, none⟩)] w fun e w' => e = .returned (.tuple #[]) ∧ SOk s p A w w' (p.nf.serve1 i)) ∧
    ((p.client i).kind = 2 → Calls Tryz.prog 75 #[.pointer (some ⟨s, 0, none⟩), .pointer (some ⟨s, 2 + i * 6, none⟩)] w fun e w' => e = .returned (.tuple #[]) ∧ SOk s p A w w' (p.nf.serve1 i)) ∧
    ((p.client i).kind = 3 → Calls Tryz.prog 76 #[.pointer (some ⟨s, 0, none⟩), .pointer (some ⟨s, 2 + i * 6, none⟩)] w fun e w' => e = .returned (.tuple #[]) ∧ SOk s p A w w' (p.nf.serve1 i)) ∧
    ((p.client i).kind = 0 → p.nf.serve1 i = p.nf) := by
  have ek : (p.nf.client i).kind = (p.client i).kind := rfl
  refine ⟨fun hk => ?_, fun hk => ?_, fun hk => ?_, fun hk => ?_⟩
  · refine serveRead_any s p A w h hI hT hU i hi (by rw [hk]; omega) _ ?_
    unfold Sk.serve1; rw [ek, hk, if_pos rfl]
  · refine serveWrite_any s p A w h hI hU i hi _ ?_
    unfold Sk.serve1; rw [ek, hk, if_neg (by omega), if_pos rfl]
  · refine serveSync_any s p A w h hI.cl3 i hi _ ?_
    unfold Sk.serve1; rw [ek, hk, if_neg (by omega), if_neg (by omega), if_pos rfl]
  · unfold Sk.serve1; rw [ek, hk, if_neg (by omega), if_neg (by omega), if_neg (by omega)]
set_option maxRecDepth 100000 in
set_option maxHeartbeats 2000000 in
theorem serve_any (s : Nat) (p : Sk) (A : Sa) (w : World) (h : StkAt s p A w) (hI : Inv p) (hT : p.tags ≤ 3999999999999999990) (hU : p.uses ≤ 3999999999999999990) (q : Sk) (hq : p.nf.serve = q) :
    Calls Tryz.prog 54 #[.pointer (some ⟨s, 0, none⟩)] w fun e w' => e = .returned (.tuple #[]) ∧ SOk s p A w w' q := by
  have HQ := hidT hq
  have HST := hidT h
  have HI := hidT hI
  have HT := hidT (And.intro hT hU)
  clear h hI hT hU hq
  go_enter Tryz.func54, Tryz.ntmps54
  go_wp2
  go_loopw [4] (fun i wr => ∃ k : Nat, k ≤ 3 ∧ i = .int .i64 k ∧ SRel s p A w wr (p.nf.serveTo k)) (fun i _ => 3 - (intOf i).toNat)
  case atStart => exact ⟨0, by omega, rfl, p, A, SStep.same' HST.out (Below.refl _ _), rfl⟩
  case round =>
    obtain ⟨k, hk, rfl, p', A', hs, hn⟩ := hrel
    have HS := hidT hs
    have HN := hidT hn
    by_cases hlt : k < 3
    · have hlt' : (k : Int) < 3 := by omega
      have HI' : Hid (Inv p') := by
        have := serveTo_inv HI.out.nf k
        rw [← hn] at this
        exact this.of_nf
      have hM := serveTo_mild p.nf k
      rw [← hn] at hM
      have HB : Hid (p'.tags ≤ 4000000000000000000 ∧ p'.uses ≤ 4000000000000000000) := by
        have h1 : p'.tags ≤ p.tags + k := hM.tags
        have h2 : p'.uses ≤ p.uses + k := hM.uses
        have := HT.out
        exact ⟨by omega, by omega⟩
      have HC := hidT (serve1_any s p' A' wr hs.at' HI'.out HB.out.1 HB.out.2 k hlt)
      have hkd := (HI'.out.client k).kind
      have c0 := (hs.at'.client k hlt).1
      have hl := hs.at'.lt
      clear hs hn hM HI' HB
      obtain ⟨kd, hkd'⟩ : ∃ kd, (p'.client k).kind = kd := ⟨_, rfl⟩
      rw [hkd'] at hkd c0
      have HK := hidT hkd'
      clear hkd'
      have h4 : kd = 0 ∨ kd = 1 ∨ kd = 2 ∨ kd = 3 := by omega
      clear hkd
      rcases h4 with rfl | rfl | rfl | rfl
      · go_wp2
        go_roundw
        case rel => exact ⟨k + 1, by omega, by go_num, p', A', HS.out, by rw [Sk.serveTo, ← HN.out]; exact (HC.out.2.2.2 HK.out).symm⟩
        case measure => simp [intOf]; omega
      · go_wp2_with fail
        refine (HC.out.1 HK.out).mono ?_
        rintro e w1 ⟨rfl, hok⟩
        have HO := hidT (SOk.trans HS.out hok)
        clear hok
        go_wp2
        go_roundw
        case rel => exact ⟨k + 1, by omega, by go_num, by rw [Sk.serveTo, ← HN.out]; exact HO.out⟩
        case measure => simp [intOf]; omega
      · go_wp2_with fail
        refine (HC.out.2.1 HK.out).mono ?_
        rintro e w1 ⟨rfl, hok⟩
        have HO := hidT (SOk.trans HS.out hok)
        clear hok
        go_wp2
        go_roundw
        case rel => exact ⟨k + 1, by omega, by go_num, by rw [Sk.serveTo, ← HN.out]; exact HO.out⟩
        case measure => simp [intOf]; omega
      · go_wp2_with fail
        refine (HC.out.2.2.1 HK.out).mono ?_
        rintro e w1 ⟨rfl, hok⟩
        have HO := hidT (SOk.trans HS.out hok)
        clear hok
        go_wp2
        go_roundw
        case rel => exact ⟨k + 1, by omega, by go_num, by rw [Sk.serveTo, ← HN.out]; exact HO.out⟩
        case measure => simp [intOf]; omega
    · obtain rfl : k = 3 := by omega
      clear hs hn
      go_wp2
      go_end0
      exact ⟨rfl, p', A', HS.out, HN.out.trans HQ.out⟩
end Go.Proofs.YtgjkdhedkbkagaaGreat
/- A stack of all: what is asked may be; a client's cells, its new list; Ask, Tick. -/
namespace Go.Proofs.YtgjkdhedkbkagaaGreat
open Go.RowKit Go.BigFrame Go.Maps
set_option maxRecDepth 100000
attribute [local go_sem] Later.cell Later.frozen

theorem strK_ne {s : ByteArray} (l : List UInt8) (h : ¬ s = ⟨l.toArray⟩) : (s.toList == l) = false := by
  rw [beq_eq_false_iff_ne]
  intro e
  apply h
  rw [ByteArray.toList_eq] at e
  cases s
  simp only at e
  rw [← e]
theorem empty_of_size {s : ByteArray} (h : s.size = 0) : s = ⟨#[]⟩ := by
  cases s with
  | mk a => simp only [ByteArray.size] at h; congr 1; exact Array.eq_empty_of_size_eq_zero h
theorem size_ne {s : ByteArray} (h : ¬ s.size = 0) : (s.toList == []) = false := strK_ne [] (fun e => h (by rw [e]; rfl))
set_option maxRecDepth 100000 in
set_option maxHeartbeats 4000000 in
theorem scheck_any (c kind pl : Int) (data : ByteArray) (w : World) (t : Int) (ht : askFault c kind pl data = t) :
    Calls Tryz.prog 59 #[.int .i64 c, .int .i64 kind, .int .i64 pl, .string data] w fun e w' => e = .returned (errOf t) ∧ w' = w := by
  by_cases hc : 0 ≤ c ∧ c < 3
  case neg =>
    obtain rfl : 3 = t := by rw [← ht]; unfold askFault; rw [if_pos (Or.inl hc)]
    have HC := hidT hc
    clear hc ht
    go_enter Tryz.func59, Tryz.ntmps59
    go_wp2_with fail
    refine (isClient_any _ _ false (decide_eq_false HC.out)).mono ?_
    rintro e w1 ⟨rfl, rfl⟩
    go_wp2
    go_ret
    exact ⟨rfl, rfl⟩
  have HC := hidT hc
  by_cases hk : kind = 1 ∨ kind = 2 ∨ kind = 3
  case neg =>
    obtain rfl : 3 = t := by rw [← ht]; unfold askFault; rw [if_pos (Or.inr (by omega))]
    have k1 : ¬ kind = 1 := fun e => hk (Or.inl e)
    have k2 : ¬ kind = 2 := fun e => hk (Or.inr (Or.inl e))
    have k3 : ¬ kind = 3 := fun e => hk (Or.inr (Or.inr e))
    have k4 : (kind != 1) = true := bne_iff_ne.2 k1
    have k5 : (kind != 2) = true := bne_iff_ne.2 k2
    have k6 : (kind != 3) = true := bne_iff_ne.2 k3
    clear hc ht hk
    go_enter Tryz.func59, Tryz.ntmps59
    go_wp2_with fail
    refine (isClient_any _ _ true (decide_eq_true HC.out)).mono ?_
    rintro e w1 ⟨rfl, rfl⟩
    go_wp2
    go_ret
    exact ⟨rfl, rfl⟩
  by_cases p0 : pl < 0
  case pos =>
    obtain rfl : 1 = t := by rw [← ht]; unfold askFault; (repeat' split) <;> omega
    clear hc ht
    rcases hk with rfl | rfl | rfl
    all_goals
      go_enter Tryz.func59, Tryz.ntmps59
      go_wp2_with fail
      refine (isClient_any _ _ true (decide_eq_true HC.out)).mono ?_
      rintro e w1 ⟨rfl, rfl⟩
      go_wp2
      go_ret
      exact ⟨rfl, rfl⟩
  by_cases p1 : 32 ≤ pl
  case pos =>
    obtain rfl : 1 = t := by rw [← ht]; unfold askFault; (repeat' split) <;> omega
    clear hc ht
    rcases hk with rfl | rfl | rfl
    all_goals
      go_enter Tryz.func59, Tryz.ntmps59
      go_wp2_with fail
      refine (isClient_any _ _ true (decide_eq_true HC.out)).mono ?_
      rintro e w1 ⟨rfl, rfl⟩
      go_wp2
      go_ret
      exact ⟨rfl, rfl⟩
  by_cases p2 : kind = 3 ∧ ¬ pl = 0
  case pos =>
    obtain rfl : 1 = t := by rw [← ht]; unfold askFault; (repeat' split) <;> omega
    obtain ⟨rfl, p3⟩ := p2
    have p4 : (pl != 0) = true := bne_iff_ne.2 p3
    clear hc ht hk
    go_enter Tryz.func59, Tryz.ntmps59
    go_wp2_with fail
    refine (isClient_any _ _ true (decide_eq_true HC.out)).mono ?_
    rintro e w1 ⟨rfl, rfl⟩
    go_wp2
    go_ret
    exact ⟨rfl, rfl⟩
  by_cases z4 : 4 < data.size
  case pos =>
    obtain rfl : 1 = t := by rw [← ht]; unfold askFault; (repeat' split) <;> omega
    have z4' : (4 : Int) < (data.size : Int) := by omega
    clear hc ht
    rcases hk with rfl | rfl | rfl
    · go_enter Tryz.func59, Tryz.ntmps59
      go_wp2_with fail
      refine (isClient_any _ _ true (decide_eq_true HC.out)).mono ?_
      rintro e w1 ⟨rfl, rfl⟩
      go_wp2
      go_ret
      exact ⟨rfl, rfl⟩
    · go_enter Tryz.func59, Tryz.ntmps59
      go_wp2_with fail
      refine (isClient_any _ _ true (decide_eq_true HC.out)).mono ?_
      rintro e w1 ⟨rfl, rfl⟩
      go_wp2
      go_ret
      exact ⟨rfl, rfl⟩
    · obtain rfl : pl = 0 := by omega
      go_enter Tryz.func59, Tryz.ntmps59
      go_wp2_with fail
      refine (isClient_any _ _ true (decide_eq_true HC.out)).mono ?_
      rintro e w1 ⟨rfl, rfl⟩
      go_wp2
      go_ret
      exact ⟨rfl, rfl⟩
  have z4' : ¬ (4 : Int) < (data.size : Int) := by omega
  by_cases z0 : data.size = 0
  case pos =>
    obtain rfl : 0 = t := by rw [← ht]; unfold askFault; (repeat' split) <;> omega
    obtain rfl := empty_of_size z0
    clear hc ht z0 z4 z4'
    rcases hk with rfl | rfl | rfl
    · go_enter Tryz.func59, Tryz.ntmps59
      go_wp2_with fail
      refine (isClient_any _ _ true (decide_eq_true HC.out)).mono ?_
      rintro e w1 ⟨rfl, rfl⟩
      go_wp2
      go_ret
      exact ⟨rfl, rfl⟩
    · go_enter Tryz.func59, Tryz.ntmps59
      go_wp2_with fail
      refine (isClient_any _ _ true (decide_eq_true HC.out)).mono ?_
      rintro e w1 ⟨rfl, rfl⟩
      go_wp2
      go_ret
      exact ⟨rfl, rfl⟩
    · obtain rfl : pl = 0 := by omega
      go_enter Tryz.func59, Tryz.ntmps59
      go_wp2_with fail
      refine (isClient_any _ _ true (decide_eq_true HC.out)).mono ?_
      rintro e w1 ⟨rfl, rfl⟩
      go_wp2
      go_ret
      exact ⟨rfl, rfl⟩
  have z1 := size_ne z0
  have z2 : data.toList.isEmpty = false := by cases h : data.toList with | nil => rw [h] at z1; cases z1 | cons _ _ => rfl
  rcases hk with rfl | rfl | rfl
  · obtain rfl : 1 = t := by rw [← ht]; unfold askFault; (repeat' split) <;> omega
    clear hc ht z0
    go_enter Tryz.func59, Tryz.ntmps59
    go_wp2_with fail
    refine (isClient_any _ _ true (decide_eq_true HC.out)).mono ?_
    rintro e w1 ⟨rfl, rfl⟩
    go_wp2
    go_ret
    exact ⟨rfl, rfl⟩
  · obtain rfl : 0 = t := by rw [← ht]; unfold askFault; (repeat' split) <;> omega
    clear hc ht z0
    go_enter Tryz.func59, Tryz.ntmps59
    go_wp2_with fail
    refine (isClient_any _ _ true (decide_eq_true HC.out)).mono ?_
    rintro e w1 ⟨rfl, rfl⟩
    go_wp2
    go_ret
    exact ⟨rfl, rfl⟩
  · obtain rfl : 1 = t := by rw [← ht]; unfold askFault; (repeat' split) <;> omega
    obtain rfl : pl = 0 := by omega
    clear hc ht z0
    go_enter Tryz.func59, Tryz.ntmps59
    go_wp2_with fail
    refine (isClient_any _ _ true (decide_eq_true HC.out)).mono ?_
    rintro e w1 ⟨rfl, rfl⟩
    go_wp2
    go_ret
    exact ⟨rfl, rfl⟩
end Go.Proofs.YtgjkdhedkbkagaaGreat
/- A stack of all: a client's cells are others; its list is a new one. -/
namespace Go.Proofs.YtgjkdhedkbkagaaGreat
open Go.RowKit Go.BigFrame Go.Maps
set_option maxRecDepth 100000
attribute [local go_sem] Later.cell Later.frozen

/-- What a client asks for, its list apart. -/
def Sk.asks0 (p : Sk) (i : Nat) (kind pl : Int) (data : ByteArray) : Sk := { p with cl := p.cl.set i { p.client i with kind := kind, pl := pl, data := data } }
section
variable {s : Nat} {p : Sk} {A : Sa} {w w' : World}
theorem StkMem.asks0 (h : StkMem s p A w) (hl : p.cl.length = 3) {i : Nat} (hi : i < 3) (kind pl : Int) (data : ByteArray) : StkMem s (p.asks0 i kind pl data) A w where
  drv := h.drv
  map := h.map
  im := h.im
  nb := h.nb
  hand := h.hand
  hnil := h.hnil
  hcap := h.hcap
  queue := h.queue
  qnil := h.qnil
  qcap := h.qcap
  left := fun j hj => by
    unfold Sk.asks0
    rw [client_set hl hi]
    by_cases hji : j = i
    · rw [if_pos hji, hji]; exact h.left i hi
    · rw [if_neg hji]; exact h.left j hj
  sv := h.sv
  vl := h.vl
  ll := h.ll
  hoffX := h.hoffX
  qoffX := h.qoffX
  roffX := h.roffX
  xlt := h.xlt
def three3 (w : World) (s o : Nat) (v0 v1 v2 : Value) : World := ((w.setCell ⟨s, o, none⟩ v0).setCell ⟨s, o + 1, none⟩ v1).setCell ⟨s, o + 2, none⟩ v2
theorem StkAt.asks0 (h : StkAt s p A w) (hl : p.cl.length = 3) {i : Nat} (hi : i < 3) (kind pl : Int) (data : ByteArray) : SStep s p A (p.asks0 i kind pl data) A w (three3 w s (2 + i * 6) (.int .i64 kind) (.int .i64 pl) (.string data)) := by
  refine (h.mem.asks0 hl hi kind pl data).puts ?_ ?_ (fun k hk => hk) ⟨rfl, rfl, rfl, rfl⟩
  · unfold three3
    exact (((Only.refl (fun k => k = s) w).setCell _ (Or.inl rfl) _).setCell _ (Or.inl rfl) _).setCell _ (Or.inl rfl) _
  · unfold three3
    rw [set_same (set_same (set_same h.blk _ _) _ _)]
    congr 2
    match i, hi with
    | 0, hi => simp [Sk.cells, Sk.head, Sk.tail, clCells, Sk.asks0, client_set hl hi]
    | 1, hi => simp [Sk.cells, Sk.head, Sk.tail, clCells, Sk.asks0, client_set hl hi]
    | 2, hi => simp [Sk.cells, Sk.head, Sk.tail, clCells, Sk.asks0, client_set hl hi]
theorem StkMem.qlt (h : StkMem s p A w) (hne : p.queue ≠ []) {q : Addr} (hq : A.qa = some q) : q.block < w.heap.size := by
  rcases h.queue.1 with e | ⟨b', o', ha, hc⟩
  · exact absurd e hne
  · have : p.queue.length ≠ 0 := fun e => hne (List.eq_nil_of_length_eq_zero e)
    have := lt_of_cell (hc 0 (by omega) 0 (by omega))
    rw [ha] at hq; simp only [Option.some.injEq] at hq; subst hq; exact this
theorem StkMem.hlt (h : StkMem s p A w) (hne : p.hand ≠ []) {q : Addr} (hq : A.ha = some q) : q.block < w.heap.size := by
  rcases h.hand.1 with e | ⟨b', o', ha, hc⟩
  · exact absurd e hne
  · have : p.hand.length ≠ 0 := fun e => hne (List.eq_nil_of_length_eq_zero e)
    have := lt_of_cell (hc 0 (by omega) 0 (by omega))
    rw [ha] at hq; simp only [Option.some.injEq] at hq; subst hq; exact this
theorem StkMem.rAt (h : StkMem s p A w) : ∀ r ∈ p.queue ++ p.dev.busy, r.At w := fun r hr => (List.mem_append.1 hr).elim (h.queue.2.1 r) (fun hr => (h.drv.dev.reqs r hr).1)
/-- A client's list is a new one. -/
def Sa.lay (A : Sa) (i : Nat) (a : Option Addr) (c : Nat) : Sa := { A with la := fun j => if j = i then a else A.la j, lc := fun j => if j = i then c else A.lc j }
theorem Sa.lay_foot (A : Sa) (i : Nat) (a : Option Addr) (c k n : Nat) (hn : ∀ q, a = some q → n ≤ q.block) (h : (A.lay i a c).foot s k) : A.foot s k ∨ n ≤ k := by
  rcases h with h | h | ⟨j, hj, q, hq, e⟩
  · exact Or.inl (Or.inl h)
  · exact Or.inl (Or.inr (Or.inl h))
  · by_cases hji : j = i
    · simp only [Sa.lay, if_pos hji] at hq; exact Or.inr (by rw [e]; exact hn q hq)
    · simp only [Sa.lay, if_neg hji] at hq; exact Or.inl (Or.inr (Or.inr ⟨j, hj, q, hq, e⟩))
theorem Sa.lay_off (A : Sa) (i : Nat) (a : Option Addr) (c k n : Nat) (hn : ∀ q, a = some q → n ≤ q.block) (h : (A.lay i a c).off s k) : A.off s k ∨ n ≤ k := h.elim (fun e => (A.lay_foot i a c k n hn e).imp Or.inl id) (fun e => Or.inl (Or.inr e))
theorem StkAt.newLeft (h : StkAt s p A w) (hl : p.cl.length = 3) {i : Nat} (hi : i < 3) (L : List Int) (v : Value) (hb : Below w.heap.size w w') (hown : w'.ownsRow w.heap.size 3 1 v L.length (intV L)) : ∃ A', SStep s p A (p.setLeft i L) A' w (w'.setCell ⟨s, 2 + i * 6 + 3, none⟩ v) := by
  obtain ⟨a, c, rfl, hnew, hown0⟩ : ∃ a c, v = .slice a L.length c ∧ (∀ q, a = some q → w.heap.size ≤ q.block) ∧ w'.ownsRow 0 3 1 (.slice a L.length c) L.length (intV L) := by
    rcases hown.2 with ⟨rfl, h0⟩ | ⟨g, cap, cur, rfl, hg, r⟩
    · exact ⟨none, 0, by rw [h0], (fun q hq => by cases hq), hown.1, Or.inl ⟨by rw [h0], h0⟩⟩
    · exact ⟨_, cap, rfl, (fun q hq => by simp only [Option.some.injEq] at hq; subst hq; exact hg), hown.1, Or.inr ⟨g, cap, cur, rfl, Nat.zero_le _, r⟩⟩
  have h' := h.later hb
  have nf : ∀ q : Addr, ¬ A.off s q.block → q.block < w.heap.size → ¬ (A.lay i a c).off s q.block := fun q h1 h2 e => (A.lay_off i a c _ _ hnew e).elim h1 (fun h3 => by omega)
  have hm : StkMem s (p.setLeft i L) (A.lay i a c) w' := {
    drv := h'.mem.drv
    map := h'.mem.map
    im := h'.mem.im
    nb := h'.mem.nb
    hand := h'.mem.hand
    hnil := h'.mem.hnil
    hcap := h'.mem.hcap
    queue := h'.mem.queue
    qnil := h'.mem.qnil
    qcap := h'.mem.qcap
    left := fun j hj => by
      unfold Sk.setLeft
      rw [client_set hl hi]
      by_cases hji : j = i
      · simp only [Sa.lay, if_pos hji]; exact hown0
      · simp only [Sa.lay, if_neg hji]; exact h'.mem.left j hj
    sv := h'.mem.sv
    vl := fun j hj q hq => by
      by_cases hji : j = i
      · simp only [Sa.lay, if_pos hji] at hq
        have h1 := hnew q hq
        refine ⟨fun e => by have := h.lt; omega, fun (e : q.block = A.v) => by have := lt_of_heap h.mem.drv.blk; omega, fun e => by have := h.mem.drv.footLt _ e; omega⟩
      · simp only [Sa.lay, if_neg hji] at hq; exact h'.mem.vl j hj q hq
    ll := fun j k hj hk hne q q' hq hq' => by
      by_cases hji : j = i
      · have hki : ¬ k = i := fun e => hne (hji.trans e.symm)
        simp only [Sa.lay, if_pos hji] at hq; simp only [Sa.lay, if_neg hki] at hq'
        have h1 := hnew q hq
        have h2 := h.mem.lrow hk hq'
        omega
      · by_cases hki : k = i
        · simp only [Sa.lay, if_neg hji] at hq; simp only [Sa.lay, if_pos hki] at hq'
          have h1 := hnew q' hq'
          have h2 := h.mem.lrow hj hq
          omega
        · simp only [Sa.lay, if_neg hji] at hq; simp only [Sa.lay, if_neg hki] at hq'; exact h'.mem.ll j k hj hk hne q q' hq hq'
    hoffX := fun hne q hq => nf q (h.mem.hoffX hne q hq) (h.mem.hlt hne hq)
    qoffX := fun hne q hq => nf q (h.mem.qoffX hne q hq) (h.mem.qlt hne hq)
    roffX := fun r hr => Rq.Off.step (h.mem.rAt r hr) (h.mem.roffX r hr) (fun k hk => A.lay_off i a c k _ hnew hk)
    xlt := h'.mem.xlt }
  have hO : Only (fun k => k = s) w' (w'.setCell ⟨s, 2 + i * 6 + 3, none⟩ (.slice a L.length c)) := Only.of_set _
  refine ⟨A.lay i a c, ⟨⟨?_, hm.frame hO (fun k _ hne => hne) (fun e => hm.sv.2 e.symm) (fun hne q hq e => hm.hoff hne q hq (Or.inl e)) (fun hne q hq e => hm.qoff hne q hq (Or.inl e)) (fun r hr => ⟨fun he ad ha e => (hm.roff r hr).1 he ad ha (Or.inl e), fun he ad ha e => (hm.roff r hr).2 he ad ha (Or.inl e)⟩)⟩, ?_, fun k hk => A.lay_foot i a c k _ hnew hk, rfl, rfl, rfl, rfl⟩⟩
  · rw [set_same h'.blk]
    congr 2
    match i, hi with
    | 0, hi => simp [Sk.cells, Sk.head, Sk.tail, clCells, Sk.setLeft, client_set hl hi, Sa.lay]
    | 1, hi => simp [Sk.cells, Sk.head, Sk.tail, clCells, Sk.setLeft, client_set hl hi, Sa.lay]
    | 2, hi => simp [Sk.cells, Sk.head, Sk.tail, clCells, Sk.setLeft, client_set hl hi, Sa.lay]
  · exact (Only.of_below hb).trans (hO.mono (fun k e => Or.inl e)) (fun k hk => Or.inl hk)
end
end Go.Proofs.YtgjkdhedkbkagaaGreat
