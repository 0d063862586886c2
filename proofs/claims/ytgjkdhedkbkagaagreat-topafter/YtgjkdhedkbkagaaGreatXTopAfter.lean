/- Who asks alone: what may be found of each sector, call by call. -/
import Derived.Test.YtgjkdhedkbkagaaGreatJ40
import Derived.Test.YtgjkdhedkbkagaaGreatJ39
import Derived.Test.YtgjkdhedkbkagaaGreatJ42
import Derived.Test.YtgjkdhedkbkagaaGreatJ37
namespace Go.Proofs.YtgjkdhedkbkagaaGreat
open Go.RowKit
set_option maxRecDepth 100000

/-- What a device's sectors hold, or may hold behind a crash, is known. -/
structure Kd (d : Dl) (S : Int → ByteArray → Prop) : Prop where
  good : ∀ a : Int, 0 ≤ a → a ≤ 31 → S a (d.good.getD a.toNat ByteArray.empty)
  wr : ∀ x ∈ d.wr, x.pl < 32 → S (x.pl : Int) x.data
  now : ∀ a : Int, 0 ≤ a → a ≤ 31 → S a (d.hasI a)
/-- All that a stack has is known. -/
structure Kn (p : Sk) (S : Int → ByteArray → Prop) : Prop where
  dev : Kd p.dev S
  hand : ∀ x ∈ p.hand, 0 ≤ x.pl → x.pl ≤ 31 → S x.pl x.data
  req : ∀ r ∈ p.all, r.wr = true → ∀ a : Int, 0 ≤ a → a ≤ 31 → r.on a → S a (dataAt r a)
theorem Kd.mono {d : Dl} {S T : Int → ByteArray → Prop} (h : Kd d S) (hs : ∀ a s, 0 ≤ a → a ≤ 31 → S a s → T a s) : Kd d T :=
  ⟨fun a h0 h1 => hs _ _ h0 h1 (h.good a h0 h1), fun x hx h1 => hs _ _ (by omega) (by omega) (h.wr x hx h1), fun a h0 h1 => hs _ _ h0 h1 (h.now a h0 h1)⟩
theorem Kn.mono {p : Sk} {S T : Int → ByteArray → Prop} (h : Kn p S) (hs : ∀ a s, 0 ≤ a → a ≤ 31 → S a s → T a s) : Kn p T :=
  ⟨h.dev.mono hs, fun x hx h0 h1 => hs _ _ h0 h1 (h.hand x hx h0 h1), fun r hr hw a h0 h1 ho => hs _ _ h0 h1 (h.req r hr hw a h0 h1 ho)⟩
theorem Kd.write {d : Dl} {S : Int → ByteArray → Prop} (h : Kd d S) (h32 : d.now.length = 32) (q : Nat) (hq : q < 32) (s : ByteArray) (hs : S (q : Int) s) : Kd (d.write q s) S := by
  refine ⟨h.good, fun x hx h1 => ?_, fun a h0 h1 => ?_⟩
  · have hx' : x ∈ keepW q d.next d.wr ++ [⟨q, s, d.next⟩] := hx
    rcases List.mem_append.1 hx' with h' | h'
    · exact h.wr x (List.mem_filter.1 h').1 h1
    · rw [List.mem_singleton.1 h']; exact hs
  · have := h.now a h0 h1
    unfold Dl.hasI at this ⊢
    rw [if_pos h0] at this ⊢
    rw [write_has d q s a.toNat (by omega)]
    split
    · rename_i e
      have : a = (q : Int) := by omega
      rw [this]; exact hs
    · exact this
theorem Kd.writesTo {d : Dl} {S : Int → ByteArray → Prop} (h : Kd d S) (h32 : d.now.length = 32) {r : Rq} (gr : Good r) (hs : ∀ a : Int, 0 ≤ a → a ≤ 31 → r.on a → S a (dataAt r a)) : ∀ n : Nat, n ≤ r.m.toNat → Kd (d.writesTo r n) S
  | 0, _ => h
  | n + 1, hn => by
    have hb := gr.bds
    rw [Dl.writesTo_succ]
    refine (Kd.writesTo h h32 gr hs n (by omega)).write (by rw [writesTo_len]; exact h32) _ (by omega) _ ?_
    have h1 := hs ((r.f.toNat + n : Nat) : Int) (by omega) (by omega) ⟨by omega, by omega⟩
    unfold dataAt at h1
    rw [show (((r.f.toNat + n : Nat) : Int) - r.f).toNat = n by omega] at h1
    exact h1
theorem Kd.did {d : Dl} {S : Int → ByteArray → Prop} (h : Kd d S) (h32 : d.now.length = 32) {r : Rq} (gr : Good r) (hs : r.wr = true → ∀ a : Int, 0 ≤ a → a ≤ 31 → r.on a → S a (dataAt r a)) : Kd (d.did r) S := by
  unfold Dl.did
  split
  · exact h.writesTo h32 gr (hs (by assumption)) _ (Nat.le_refl _)
  · exact h
theorem Kd.busy {d : Dl} {S : Int → ByteArray → Prop} (h : Kd d S) (l : List Rq) : Kd { d with busy := l } S := ⟨h.good, h.wr, h.now⟩
/-- What is found behind a crash is known. -/
theorem Kd.after {d : Dl} {S : Int → ByteArray → Prop} (h : Kd d S) (hw : ∀ x ∈ d.wr, x.pl < 32) (h32 : d.good.length = 32) (kp : Int) (a : Int) (h0 : 0 ≤ a) (h1 : a ≤ 31) : S a ((d.after kp).getD a.toNat ByteArray.empty) := by
  unfold Dl.after
  have key : ∀ (l : List Wn) (G : List ByteArray), (∀ x ∈ l, x.pl < 32 ∧ S (x.pl : Int) x.data) → G.length = 32 → S a (G.getD a.toNat ByteArray.empty) → S a ((applyW kp l G).getD a.toNat ByteArray.empty) := by
    intro l
    induction l with
    | nil => intro G _ _ hG; exact hG
    | cons x l ih =>
      intro G hl hG hs
      rw [applyW_cons]
      refine ih _ (fun y hy => hl y (List.mem_cons_of_mem _ hy)) (by split <;> simp [hG]) ?_
      split
      · have hx := hl x List.mem_cons_self
        by_cases e : x.pl = a.toNat
        · rw [e, List.getD_eq_getElem?_getD, List.getElem?_set_self (by omega)]
          have : (x.pl : Int) = a := by omega
          rw [← this]; exact hx.2
        · rw [List.getD_eq_getElem?_getD, List.getElem?_set_ne e, ← List.getD_eq_getElem?_getD]; exact hs
      · exact hs
  exact key d.wr d.good (fun x hx => ⟨hw x hx, h.wr x hx (hw x hx)⟩) h32 (h.good a h0 h1)
/-- While a Sync waits each dirty sector is one that it waits for. -/
def Lf (p : Sk) : Prop := (p.client 0).kind = 3 → ∀ x ∈ p.hand, x.dirty = true → x.pl ∈ (p.client 0).left
def grow (p q : Sk) (S : Int → ByteArray → Prop) (a : Int) (s : ByteArray) : Prop :=
  ((p.client 0).kind = 3 ∧ (q.client 0).kind = 0 ∧ (q.client 0).err = 0 ∧ s = p.val a) ∨
  (¬ ((p.client 0).kind = 3 ∧ (q.client 0).kind = 0 ∧ (q.client 0).err = 0) ∧ (S a s ∨ ((p.client 0).kind = 2 ∧ (q.client 0).kind = 0 ∧ (q.client 0).err = 0 ∧ a = (p.client 0).pl ∧ s = (p.client 0).data)))
structure KE (p q : Sk) : Prop where
  lf : Lf p → Lf q
  kn : Lf p → ∀ S, Kn p S → Kn q (grow p q S)
theorem KE.plain {p q : Sk} (h3 : (q.client 0).kind = 3 → (p.client 0).kind = 3 ∧ (p.client 0).left = (q.client 0).left ∧ ∀ x ∈ q.hand, x.dirty = true → ∃ y ∈ p.hand, y.pl = x.pl ∧ y.dirty = true) (hn : ¬ ((p.client 0).kind = 3 ∧ (q.client 0).kind = 0 ∧ (q.client 0).err = 0)) (hk : ∀ S, Kn p S → Kn q S) : KE p q := by
  refine ⟨fun h k x hx hd => ?_, fun _ S h => (hk S h).mono (fun a s _ _ hs => Or.inr ⟨hn, Or.inl hs⟩)⟩
  obtain ⟨a1, a2, a3⟩ := h3 k
  obtain ⟨y, hy, e1, e2⟩ := a3 x hx hd
  rw [← a2, ← e1]
  exact h a1 y hy e2
/-- A client that is as it was. -/
theorem KE.still {p q : Sk} (hc : q.cl = p.cl) (hd : ∀ x ∈ q.hand, x.dirty = true → ∃ y ∈ p.hand, y.pl = x.pl ∧ y.dirty = true) (hk : ∀ S, Kn p S → Kn q S) : KE p q := by
  have e : q.client 0 = p.client 0 := client_cl hc 0
  refine KE.plain (fun h => ⟨by rw [← e]; exact h, by rw [e], hd⟩) (fun h => ?_) hk
  rw [e] at h
  omega
theorem KE.same {p q : Sk} (hc : q.cl = p.cl) (hh : q.hand = p.hand) (hk : ∀ S, Kn p S → Kn q S) : KE p q := KE.still hc (fun x hx hd => ⟨x, by rw [← hh]; exact hx, rfl, hd⟩) hk
theorem KE.refl (p : Sk) : KE p p := KE.same rfl rfl (fun _ h => h)
theorem KE.trans {p q r : Sk} (h : AEff p q) (k : AEff q r) (a : KE p q) (b : KE q r) : KE p r := by
  refine ⟨fun l => b.lf (a.lf l), fun l S hS => (b.kn (a.lf l) _ (a.kn l S hS)).mono (fun at' s _ _ hs => ?_)⟩
  have over : (q.client 0).kind = 0 → grow p r S at' s := fun h0 => by
    obtain ⟨c, v⟩ := k.idle h0
    have e1 : (r.client 0).kind = 0 := c.1.trans h0
    have e2 : (r.client 0).err = (q.client 0).err := c.2.2.2.2
    rcases hs with ⟨h1, _⟩ | ⟨_, h1 | ⟨h1, _⟩⟩
    · omega
    · unfold grow at h1 ⊢
      rw [e1, e2]
      rw [h0] at h1
      exact h1
    · omega
  rcases h with ⟨hc, hv⟩ | ⟨_, h0, _⟩ | ⟨_, h0, _⟩ | ⟨_, h0, _⟩ | ⟨_, h0, _⟩
  · obtain ⟨c1, c2, c3, c4, c5⟩ := hc
    have hg : grow p q S at' s → S at' s := fun hg => by
      rcases hg with ⟨h1, h2, _⟩ | ⟨_, h1 | ⟨h1, h2, _⟩⟩
      · omega
      · exact h1
      · omega
    rcases hs with ⟨h1, h2, h3, h4⟩ | ⟨hn, h1 | ⟨h1, h2, h3, h4, h5⟩⟩
    · exact Or.inl ⟨by omega, h2, h3, by rw [h4, hv]⟩
    · exact Or.inr ⟨fun h' => hn ⟨by omega, h'.2⟩, Or.inl (hg h1)⟩
    · exact Or.inr ⟨fun h' => by omega, Or.inr ⟨by omega, h2, h3, by rw [h4, c2], by rw [h5, c3]⟩⟩
  · exact over h0
  · exact over h0
  · exact over h0
  · exact over h0
section
variable {p : Sk}
theorem Kn.askQ {S : Int → ByteArray → Prop} (h : Kn p S) (hI : Inv p) (pl : Int) (hpl : 0 ≤ pl ∧ pl ≤ 31) (wr : Bool) (data : List ByteArray) (hd : (wr = true ∧ data.length = 1 ∧ ∀ s ∈ data, s.size ≤ 4) ∨ (wr = false ∧ data = [])) (hS : wr = true → S pl (data.getD 0 ByteArray.empty)) : Kn (p.askQ pl wr data).2 S := by
  rcases askQ_cases (p := p) pl wr data with ⟨_, e⟩ | ⟨L, e1, e⟩
  · rw [e]; exact h
  · rw [e]
    have A := hI.adds hpl hd e1
    refine ⟨h.dev, h.hand, fun r hr hw a h0 h1 ho => ?_⟩
    rcases List.mem_append.1 hr with h' | h'
    · obtain ⟨q', hq', o', w', d'⟩ := A.from' r h' a ho
      rw [← d']
      rcases List.mem_cons.1 hq' with rfl | h4
      · rw [reqOf_on] at o'
        subst o'
        have : wr = true := by rw [hw] at w'; exact w'
        have hs := hS this
        unfold dataAt
        show S a (data.getD (a - a).toNat ByteArray.empty)
        rw [Int.sub_self]; exact hs
      · exact h.req q' (List.mem_append_left _ h4) (by rw [w']; exact hw) a h0 h1 o'
    · exact h.req r (List.mem_append_right _ h') hw a h0 h1 ho
theorem Kn.hand' {S : Int → ByteArray → Prop} (h : Kn p S) {q : Sk} (hd : q.dev = p.dev) (hq : q.queue = p.queue) (hh : ∀ x ∈ q.hand, 0 ≤ x.pl → x.pl ≤ 31 → S x.pl x.data) : Kn q S :=
  ⟨by rw [hd]; exact h.dev, hh, fun r hr => h.req r (by unfold Sk.all at hr ⊢; rw [hd, hq] at hr; exact hr)⟩
theorem Kn.map {S : Int → ByteArray → Prop} (h : Kn p S) {q : Sk} (hd : q.dev = p.dev) (hq : q.queue = p.queue) (g : Bf → Bf) (hg : ∀ x, (g x).pl = x.pl ∧ (g x).data = x.data) (hh : q.hand = p.hand.map g) : Kn q S :=
  h.hand' hd hq (fun x hx h0 h1 => by
    rw [hh] at hx
    obtain ⟨y, hy, rfl⟩ := List.mem_map.1 hx
    rw [(hg y).1] at h0 h1 ⊢
    rw [(hg y).2]
    exact h.hand y hy h0 h1)
theorem kn_serve (h : AI p) : KE p p.serve := by
  have hI := h.inv
  rw [serve_alone h]
  have hans : ∀ (q : Sk) (s : ByteArray) (e : Int), q.cl.length = 3 → ((q.answer 0 s e).client 0) = ⟨0, 0, ByteArray.empty, [], s, e⟩ := fun q s e hq => answer_client q hq (by omega) s e
  by_cases k1 : (p.client 0).kind = 1
  · cases eg : getB p.hand (p.client 0).pl with
    | some b =>
      have es : p.serve1 0 = ({ p with uses := p.uses + 1, hand := useL p.hand (p.client 0).pl (p.uses + 1) } : Sk).answer 0 b.data 0 := by
        unfold Sk.serve1 Sk.serveRead; rw [if_pos k1, eg]
      have ec : ((p.serve1 0).client 0) = ⟨0, 0, ByteArray.empty, [], b.data, 0⟩ := by rw [es]; exact hans _ _ _ (by exact hI.cl3)
      refine KE.plain (fun h3 => by rw [ec] at h3; cases h3) (fun h3 => by omega) (fun S hS => ?_)
      exact hS.map (by rw [es]; rfl) (by rw [es]; rfl) (fun x => if x.pl = (p.client 0).pl then { x with used := p.uses + 1 } else x) (fun x => by split <;> exact ⟨rfl, rfl⟩) (by rw [es]; rfl)
    | none =>
      by_cases hh : p.held (p.client 0).pl = true
      · have es : p.serve1 0 = p := by unfold Sk.serve1 Sk.serveRead; rw [if_pos k1, eg]; simp only; rw [if_pos hh]
        rw [es]; exact KE.refl p
      · have es : p.serve1 0 = (p.askQ (p.client 0).pl false []).2 := by unfold Sk.serve1 Sk.serveRead; rw [if_pos k1, eg]; simp only; rw [if_neg hh]
        have e1 : (p.serve1 0).hand = p.hand := by rw [es]; rcases askQ_cases (p := p) (p.client 0).pl false [] with ⟨_, e⟩ | ⟨L, _, e⟩ <;> rw [e]
        refine KE.same (by rw [es]; exact askQ_cl p _ _ _) e1 (fun S hS => ?_)
        rw [es]
        exact hS.askQ hI _ ((hI.client 0).pl (by rw [k1]; omega)) _ _ (Or.inr ⟨rfl, rfl⟩) (fun e => by cases e)
  by_cases k2 : (p.client 0).kind = 2
  · have eu : p.serve1 0 = p.serveWrite 0 := by unfold Sk.serve1; rw [if_neg k1, if_pos k2]
    unfold Sk.serveWrite at eu
    by_cases hd : p.dead = true
    · rw [if_pos hd] at eu
      have ec : ((p.serve1 0).client 0) = ⟨0, 0, ByteArray.empty, [], ByteArray.empty, 9⟩ := by rw [eu]; exact hans _ _ _ (by exact hI.cl3)
      exact KE.plain (fun h3 => by rw [ec] at h3; cases h3) (fun h3 => by omega) (fun S hS => hS.hand' (by rw [eu]; rfl) (by rw [eu]; rfl) (by rw [eu]; exact hS.hand))
    rw [if_neg hd] at eu
    by_cases h6 : 6 ≤ dirtyB p.hand ∧ isDirtyB p.hand (p.client 0).pl = false
    · rw [if_pos h6] at eu
      rw [eu]; exact KE.refl p
    rw [if_neg h6] at eu
    cases ep : putB p.hand ⟨(p.client 0).pl, (p.client 0).data, true, p.uses + 1⟩ p.held with
    | none =>
      rw [ep] at eu
      simp only at eu
      exact KE.same (by rw [eu]) (by rw [eu]) (fun S hS => hS.hand' (by rw [eu]) (by rw [eu]) (by rw [eu]; exact hS.hand))
    | some m =>
      rw [ep] at eu
      simp only at eu
      have P := putB_some hI.hand ep
      have ec : ((p.serve1 0).client 0) = ⟨0, 0, ByteArray.empty, [], ByteArray.empty, 0⟩ := by rw [eu]; exact hans _ _ _ (by exact hI.cl3)
      refine ⟨(fun _ h3 => by rw [ec] at h3; cases h3), fun _ S hS => ?_⟩
      have hm := hS.mono (T := grow p (p.serve1 0) S) (fun a s _ _ hs => Or.inr ⟨fun h' => by omega, Or.inl hs⟩)
      refine hm.hand' (by rw [eu]; rfl) (by rw [eu]; rfl) (fun x hx h0 h1 => ?_)
      have hx' : x ∈ m := by rw [eu] at hx; exact hx
      rcases P.mem x hx' with rfl | h'
      · exact Or.inr ⟨fun h' => by omega, Or.inr ⟨k2, by rw [ec], by rw [ec], rfl, rfl⟩⟩
      · exact hm.hand x h' h0 h1
  by_cases k3 : (p.client 0).kind = 3
  · have eu : p.serve1 0 = p.serveSync 0 := by unfold Sk.serve1; rw [if_neg k1, if_neg k2, if_pos k3]
    unfold Sk.serveSync at eu
    by_cases hd : p.dead = true
    · rw [if_pos hd] at eu
      have ec : ((p.serve1 0).client 0) = ⟨0, 0, ByteArray.empty, [], ByteArray.empty, 9⟩ := by rw [eu]; exact hans _ _ _ (by exact hI.cl3)
      exact KE.plain (fun h3 => by rw [ec] at h3; cases h3) (fun h3 => by rw [ec] at h3; obtain ⟨_, _, h3⟩ := h3; cases h3) (fun S hS => hS.hand' (by rw [eu]; rfl) (by rw [eu]; rfl) (by rw [eu]; exact hS.hand))
    rw [if_neg hd] at eu
    by_cases hl : (p.client 0).left.filter (isDirtyB p.hand) = []
    · rw [if_pos hl] at eu
      have ec : ((p.serve1 0).client 0) = ⟨0, 0, ByteArray.empty, [], ByteArray.empty, 0⟩ := by rw [eu]; exact hans _ _ _ (by exact hI.cl3)
      refine ⟨(fun _ h3 => by rw [ec] at h3; cases h3), fun hlf S hS => ?_⟩
      have hcl : ∀ x ∈ p.hand, x.dirty = false := fun x hx => by
        cases hxd : x.dirty with
        | false => rfl
        | true =>
          have h1 := hlf k3 x hx hxd
          have h2 : x.pl ∈ (p.client 0).left.filter (isDirtyB p.hand) := List.mem_filter.2 ⟨h1, isDirtyB_eq.2 ⟨x, getB_mem hI.hand.rise hx, hxd⟩⟩
          rw [hl] at h2; cases h2
      have hval : ∀ a, p.dev.hasI a = p.val a := fun a => by
        cases eg : getB p.hand a with
        | none => rw [val_disk eg]
        | some x => rw [val_hand eg, h.same a x eg (hcl x (getB_some eg).1)]
      have gr : ∀ a s, s = p.val a → grow p (p.serve1 0) S a s := fun a s e => Or.inl ⟨k3, by rw [ec], by rw [ec], e⟩
      have ed : (p.serve1 0).dev = p.dev.flush := by rw [eu]; rfl
      refine ⟨⟨fun a h0 h1 => gr _ _ ?_, fun x hx => ?_, fun a h0 h1 => gr _ _ ?_⟩, fun x hx h0 h1 => gr _ _ ?_, fun r hr hw a h0 h1 ho => ?_⟩
      · rw [ed, ← hval]
        unfold Dl.hasI Dl.has
        rw [if_pos h0]; rfl
      · rw [ed] at hx; cases hx
      · rw [ed, ← hval]; rfl
      · have hx' : x ∈ p.hand := by rw [eu] at hx; exact hx
        rw [val_hand (getB_mem hI.hand.rise hx')]
      · have hr' : r ∈ p.all := by rw [eu] at hr; exact hr
        obtain ⟨x, hx⟩ := (h.tight r hr' a ho).2 hw
        have h1 := (h.tight r hr' a ho).1 x hx
        rw [hcl x (getB_some hx).1] at h1; cases h1
    · rw [if_neg hl] at eu
      have ec : (p.serve1 0).client 0 = { p.client 0 with left := (p.client 0).left.filter (isDirtyB p.hand) } := by rw [eu, clientSet p hI.cl3 (by omega), if_pos rfl]
      have eh : (p.serve1 0).hand = p.hand := by rw [eu]
      refine ⟨fun hlf _ x hx hxd => ?_, fun _ S hS => ?_⟩
      · rw [eh] at hx
        rw [ec]
        exact List.mem_filter.2 ⟨hlf k3 x hx hxd, isDirtyB_eq.2 ⟨x, getB_mem hI.hand.rise hx, hxd⟩⟩
      · refine (hS.mono (T := grow p (p.serve1 0) S) (fun a s _ _ hs => Or.inr ⟨fun h' => ?_, Or.inl hs⟩)).hand' (by rw [eu]) (by rw [eu]) (fun x hx h0 h1 => ?_)
        · have h2 := h'.2.1
          rw [ec] at h2
          have h3 : (p.client 0).kind = 0 := h2
          omega
        · refine Or.inr ⟨fun h' => ?_, Or.inl (hS.hand x (by rw [eh] at hx; exact hx) h0 h1)⟩
          have h2 := h'.2.1
          rw [ec] at h2
          have h3 : (p.client 0).kind = 0 := h2
          omega
  · have es : p.serve1 0 = p := by unfold Sk.serve1; rw [if_neg k1, if_neg k2, if_neg k3]
    rw [es]; exact KE.refl p
end
end Go.Proofs.YtgjkdhedkbkagaaGreat
/- Who asks alone: what may be found of each sector: a tick, a clean, a dispatch, an end, a round. -/
namespace Go.Proofs.YtgjkdhedkbkagaaGreat
open Go.RowKit
set_option maxRecDepth 100000

section
variable {p : Sk}
theorem KE.then {p q r : Sk} (h1 : AI q ∧ AEff p q) (h2 : AEff q r) (a : KE p q) (b : KE q r) : KE p r := KE.trans h1.2 h2 a b
theorem kn_tick (h : AI p) : KE p p.tick := by
  have h0 : AI ({ p with moment := if p.moment + 1 < 1000000000 then p.moment + 1 else 1000000000 } : Sk) := ⟨tick_inv h.inv, h.tight.congr rfl (fun _ hr => hr), h.only, h.same⟩
  refine KE.trans (q := { p with moment := if p.moment + 1 < 1000000000 then p.moment + 1 else 1000000000 }) (alone_still h (tick_inv h.inv) (h.tight.congr rfl (fun _ hr => hr)) rfl rfl rfl).2 (alone_serve h0).2 ?_ (kn_serve h0)
  exact KE.same rfl rfl (fun S hS => ⟨hS.dev, hS.hand, hS.req⟩)
theorem kn_clean (h : AI p) : KE p p.clean.2 := by
  refine KE.same (clean_hand p).2 (clean_hand p).1 (fun S hS => ?_)
  unfold Sk.clean
  split
  · exact hS
  split
  · exact hS
  · rename_i _ hp
    rcases pickB_spec p.hand p.held with ⟨e, _⟩ | ⟨x, hx, e, hd, hh⟩
    · rw [e] at hp; omega
    · have hin := h.inv.hand.in' x hx
      rw [e, getB_mem h.inv.hand.rise hx]
      exact hS.askQ h.inv _ ⟨hin.1, hin.2.1⟩ _ _ (Or.inl ⟨rfl, rfl, fun s hs => by rw [List.mem_singleton.1 hs]; exact hin.2.2⟩) (fun _ => hS.hand x hx hin.1 hin.2.1)
theorem kn_dispatch (h : AI p) : KE p p.dispatch.2 := by
  refine KE.same (dispatch_hand p).2 (dispatch_hand p).1 (fun S hS => ?_)
  rcases dispatch_cases h.inv with ⟨_, e⟩ | ⟨i, hi, T, _, hb, _, hT, e⟩
  · rw [e]; exact hS
  · rw [e]
    have P := moved_perm p.queue p.dev.busy i hi
    exact ⟨hS.dev.busy _, hS.hand, fun r hr => hS.req r (P.mem_iff.2 hr)⟩
theorem kn_dispatches (n : Nat) : ∀ {p : Sk}, AI p → KE p (p.dispatches n) := by
  induction n with
  | zero => intro p h; exact KE.refl p
  | succ n ih =>
    intro p h
    unfold Sk.dispatches
    split
    · have h1 := alone_dispatch h
      exact KE.trans h1.2 (alone_dispatches n h1.1).2 (kn_dispatch h) (ih h1.1)
    · exact KE.refl p
theorem Kn.took {S : Int → ByteArray → Prop} (h : Kn p S) (k : Nat) : Kn (p.took k) S := ⟨h.dev.busy _, h.hand, fun r hr => h.req r (took_sub k r hr)⟩
theorem kn_wrote (h : AI p) {k : Nat} (hk : k < p.dev.busy.length) (hw : p.dev.busy[k].wr = true) (xs : List ByteArray) : KE p (((p.took k).did p.dev.busy[k]).wentWell p.dev.busy[k] xs) := by
  have hm : p.dev.busy[k] ∈ p.all := List.mem_append_right _ (List.getElem_mem hk)
  have gr := h.inv.good _ hm
  generalize p.dev.busy[k] = r at *
  obtain ⟨e1, e2⟩ := wentTo_wr (p := (p.took k).did r) hw xs r.m.toNat
  have e1' : (((p.took k).did r).wentWell r xs).hand = p.hand.map (cleanW r r.m.toNat) := e1
  have hg : ∀ x, (cleanW r r.m.toNat x).pl = x.pl ∧ (cleanW r r.m.toNat x).data = x.data := fun x => by unfold cleanW; split <;> exact ⟨rfl, rfl⟩
  refine KE.still e2 (fun x hx hd => ?_) (fun S hS => ?_)
  · rw [e1'] at hx
    obtain ⟨y, hy, rfl⟩ := List.mem_map.1 hx
    refine ⟨y, hy, (hg y).1.symm, ?_⟩
    unfold cleanW at hd
    split at hd
    · cases hd
    · exact hd
  · have hD : Kn ((p.took k).did r) S := ⟨(hS.took k).dev.did (by exact h.inv.n32) gr (fun _ => hS.req r hm hw), hS.hand, fun r' hr' => hS.req r' (by rw [did_all] at hr'; exact took_sub k r' hr')⟩
    have em := mild_wentTo ((p.took k).did r) r xs r.m.toNat
    have eq : ((p.took k).did r).wentTo r xs r.m.toNat = { (p.took k).did r with hand := p.hand.map (cleanW r r.m.toNat) } := by
      have hrec : ∀ n, ((p.took k).did r).wentTo r xs n = { (p.took k).did r with hand := (((p.took k).did r).wentTo r xs n).hand } := by
        intro n
        induction n with
        | zero => rfl
        | succ n ih =>
          rw [wentTo_succ]
          unfold Sk.wentOne
          rw [if_pos hw, ih]
      rw [hrec, e1]; rfl
    show Kn (((p.took k).did r).wentTo r xs r.m.toNat) S
    rw [eq]
    exact hD.map rfl rfl (cleanW r r.m.toNat) hg rfl
theorem kn_wasRead (h : AI p) (pl : Int) (s : ByteArray) (hd : s = p.dev.hasI pl) : KE p (p.wasRead pl s) := by
  cases eg : getB p.hand pl with
  | some b =>
    have e : p.wasRead pl s = p := by unfold Sk.wasRead; rw [eg]
    rw [e]; exact KE.refl p
  | none =>
    have fin : ∀ q : Sk, q.cl = p.cl → (∀ x ∈ q.hand, x.dirty = true → x ∈ p.hand) → (∀ S, Kn p S → Kn q S) → KE p (q.readers (fun x => x == pl) s 0) := by
      intro q hq hdq hkq
      have hc : (q.readers (fun x => x == pl) s 0).client 0 = if (p.client 0).kind = 1 ∧ ((p.client 0).pl == pl) = true then ⟨0, 0, ByteArray.empty, [], s, 0⟩ else p.client 0 := by
        rw [readers_client (by rw [hq]; exact h.inv.cl3) _ _ _ (by omega), client_cl hq]
      have hkn : ∀ S, Kn p S → Kn (q.readers (fun x => x == pl) s 0) S := fun S hS => ⟨(hkq S hS).dev, (hkq S hS).hand, (hkq S hS).req⟩
      by_cases h1 : (p.client 0).kind = 1 ∧ ((p.client 0).pl == pl) = true
      · rw [if_pos h1] at hc
        exact KE.plain (fun h3 => by rw [hc] at h3; cases h3) (fun h3 => by omega) hkn
      · rw [if_neg h1] at hc
        refine KE.plain (fun h3 => ⟨by rw [hc] at h3; exact h3, by rw [hc], fun x hx hxd => ⟨x, hdq x hx hxd, rfl, hxd⟩⟩) (fun h3 => ?_) hkn
        rw [hc] at h3
        omega
    cases ep : putB p.hand ⟨pl, s, false, p.uses + 1⟩ p.held with
    | none =>
      have e : p.wasRead pl s = p.readers (fun x => x == pl) s 0 := by unfold Sk.wasRead; rw [eg]; simp only; rw [ep]
      rw [e]
      exact fin p rfl (fun x hx _ => hx) (fun _ hS => hS)
    | some l =>
      have e : p.wasRead pl s = ({ p with hand := l, uses := p.uses + 1 } : Sk).readers (fun x => x == pl) s 0 := by unfold Sk.wasRead; rw [eg]; simp only; rw [ep]
      rw [e]
      have P := putB_some h.inv.hand ep
      refine fin { p with hand := l, uses := p.uses + 1 } rfl (fun x hx hxd => ?_) (fun S hS => hS.hand' rfl rfl (fun x hx h0 h1 => ?_))
      · rcases P.mem x hx with rfl | h'
        · cases hxd
        · exact h'
      · rcases P.mem x hx with rfl | h'
        · have := hS.dev.now pl h0 h1
          rw [← hd] at this; exact this
        · exact hS.hand x h' h0 h1
theorem kn_read (h : AI p) (r : Rq) (gr : Good r) (hw : r.wr = false) (hf : Freed p r) (xs : List ByteArray) (hx : ∀ j, (xs.getD j ByteArray.empty).size ≤ 4) (hxs : ∀ j : Nat, (j : Int) < r.m → xs.getD j ByteArray.empty = p.dev.hasI (r.f + j)) : ∀ n : Nat, n ≤ r.m.toNat → KE p (p.wentTo r xs n)
  | 0, _ => KE.refl p
  | n + 1, hn => by
    have ih := kn_read h r gr hw hf xs hx hxs n (by omega)
    have iha := alone_read h r gr hw hf xs hx hxs n (by omega)
    have hb := gr.bds
    rw [wentTo_succ]
    unfold Sk.wentOne
    rw [if_neg (by rw [hw]; exact Bool.false_ne_true)]
    have hd : xs.getD n ByteArray.empty = (p.wentTo r xs n).dev.hasI (r.f + n) := by
      rw [hxs n (by omega)]
      unfold Dl.hasI Dl.has
      have : (p.wentTo r xs n).dev.now = p.dev.now := by rcases (mild_wentTo p r xs n).dev with e | e <;> rw [e]; rfl
      rw [this]
    exact KE.trans iha.2 (alone_wasRead iha.1 (r.f + n) (by omega) _ (hx n) (fun r' hr' => by rw [wentTo_all] at hr'; exact hf r' hr' _ ⟨by omega, by omega⟩) hd).2 ih (kn_wasRead iha.1 _ _ hd)
theorem kn_end (h : AI p) (hs : DevShort p.dev) (i : Int) (fault : Bool) : KE p (p.end' i fault).2 := by
  rcases end_cases p i fault with ⟨_, e⟩ | ⟨k, hk, _, ⟨_, e⟩ | ⟨_, hf, e⟩ | ⟨_, _, hw, e⟩ | ⟨_, _, hw, e⟩⟩
  · rw [e]; exact KE.refl p
  · rw [e]
    have hm : p.dev.busy[k] ∈ p.all := List.mem_append_right _ (List.getElem_mem hk)
    have gr := h.inv.good _ hm
    have hx := didRead_short hs p.dev.busy[k]
    have key : (AI (((p.took k).did p.dev.busy[k]).wentWell p.dev.busy[k] (didRead p.dev p.dev.busy[k])) ∧ AEff p (((p.took k).did p.dev.busy[k]).wentWell p.dev.busy[k] (didRead p.dev p.dev.busy[k]))) ∧ KE p (((p.took k).did p.dev.busy[k]).wentWell p.dev.busy[k] (didRead p.dev p.dev.busy[k])) := by
      cases hw : p.dev.busy[k].wr
      · have hdv : ((p.took k).did p.dev.busy[k]).dev = { p.dev with busy := p.dev.busy.eraseIdx k } := by
          show Dl.did _ _ = _
          unfold Dl.did
          rw [if_neg (by rw [hw]; exact Bool.false_ne_true)]
          rfl
        have hdev : ((p.took k).did p.dev.busy[k]).dev.now = p.dev.now := by rw [hdv]
        have h1 : AI ((p.took k).did p.dev.busy[k]) ∧ AEff p ((p.took k).did p.dev.busy[k]) := alone_still h ((h.inv.took k).did _) (h.tight.congr rfl (fun r' hr' => by rw [did_all] at hr'; exact took_sub k r' hr')) rfl rfl hdev
        have k1 : KE p ((p.took k).did p.dev.busy[k]) := KE.same rfl rfl (fun S hS => ⟨by rw [hdv]; exact hS.dev.busy _, hS.hand, fun r' hr' => hS.req r' (by rw [did_all] at hr'; exact took_sub k r' hr')⟩)
        have hfr : Freed ((p.took k).did p.dev.busy[k]) p.dev.busy[k] := by unfold Freed; rw [did_all]; exact took_freed h.inv hk
        have hxs : ∀ j : Nat, (j : Int) < p.dev.busy[k].m → (didRead p.dev p.dev.busy[k]).getD j ByteArray.empty = ((p.took k).did p.dev.busy[k]).dev.hasI (p.dev.busy[k].f + j) := fun j hj => by
          rw [didRead_hasI gr hw j hj]
          unfold Dl.hasI Dl.has
          rw [hdev]
        have a2 := alone_read h1.1 _ gr hw hfr _ hx hxs _ (Nat.le_refl _)
        exact ⟨Alone.then h1 a2 (fun hd => by show (Sk.wentTo _ _ _ _).dead = true; rw [(mild_wentTo _ _ _ _).dead]; exact hd), KE.trans h1.2 a2.2 k1 (kn_read h1.1 _ gr hw hfr _ hx hxs _ (Nat.le_refl _))⟩
      · exact ⟨alone_wrote h hk hw _ hx, kn_wrote h hk hw _⟩
    exact KE.trans key.1.2 (alone_serve key.1.1).2 key.2 (kn_serve key.1.1)
  · rw [e]
    have P : (p.queue ++ p.dev.busy).Perm (p.queue ++ (p.dev.busy.eraseIdx k ++ [p.dev.busy[k]])) := List.Perm.append_left _ (erase_perm p.dev.busy k hk).symm
    exact KE.same rfl rfl (fun S hS => ⟨hS.dev.busy _, hS.hand, fun r hr => hS.req r (P.mem_iff.2 hr)⟩)
  · rw [e]
    have h1 : AI ({ (p.took k).lost p.dev.busy[k] with dead := true } : Sk) ∧ AEff p ({ (p.took k).lost p.dev.busy[k] with dead := true } : Sk) := alone_still h ((h.inv.took k).lost _ _) (h.tight.congr rfl (fun r hr => took_sub (p := p) k r hr)) rfl rfl rfl
    have k1 : KE p ({ (p.took k).lost p.dev.busy[k] with dead := true } : Sk) := KE.same rfl rfl (fun S hS => ⟨hS.dev.busy _, hS.hand, fun r hr => hS.req r (took_sub (p := p) k r hr)⟩)
    exact KE.trans h1.2 (alone_serve h1.1).2 k1 (kn_serve h1.1)
  · rw [e]
    have hI2 := ((h.inv.took k).lost' p.dev.busy[k]).readers (fun x => hasB p.dev.busy[k].f p.dev.busy[k].m x) ByteArray.empty 8
    have hc : ∀ j, j < 3 → (((p.took k).lost p.dev.busy[k]).readers (fun x => hasB p.dev.busy[k].f p.dev.busy[k].m x) ByteArray.empty 8).client j = if (p.client j).kind = 1 ∧ hasB p.dev.busy[k].f p.dev.busy[k].m (p.client j).pl = true then ⟨0, 0, ByteArray.empty, [], ByteArray.empty, 8⟩ else p.client j := fun j hj => readers_client (p := (p.took k).lost p.dev.busy[k]) h.inv.cl3 _ _ _ hj
    have hkn : ∀ S, Kn p S → Kn (((p.took k).lost p.dev.busy[k]).readers (fun x => hasB p.dev.busy[k].f p.dev.busy[k].m x) ByteArray.empty 8) S := fun S hS => ⟨hS.dev.busy _, hS.hand, fun r hr => hS.req r (took_sub (p := p) k r hr)⟩
    have h1 : (AI (((p.took k).lost p.dev.busy[k]).readers (fun x => hasB p.dev.busy[k].f p.dev.busy[k].m x) ByteArray.empty 8) ∧ AEff p (((p.took k).lost p.dev.busy[k]).readers (fun x => hasB p.dev.busy[k].f p.dev.busy[k].m x) ByteArray.empty 8)) ∧ KE p (((p.took k).lost p.dev.busy[k]).readers (fun x => hasB p.dev.busy[k].f p.dev.busy[k].m x) ByteArray.empty 8) := by
      have h2 := hc 0 (by omega)
      refine ⟨⟨⟨hI2, h.tight.congr rfl (fun r hr => took_sub (p := p) k r hr), fun j hj h0 => ?_, h.same⟩, ?_⟩, ?_⟩
      · rw [hc j hj]
        split
        · rfl
        · exact h.only j hj h0
      · by_cases h3 : (p.client 0).kind = 1 ∧ hasB p.dev.busy[k].f p.dev.busy[k].m (p.client 0).pl = true
        · rw [if_pos h3] at h2
          exact .read h3.1 (by rw [h2]) (Or.inr (by rw [h2])) (fun _ => rfl)
        · rw [if_neg h3] at h2
          exact .still (by rw [h2]; exact SameCl.refl _) (fun _ => rfl)
      · by_cases h3 : (p.client 0).kind = 1 ∧ hasB p.dev.busy[k].f p.dev.busy[k].m (p.client 0).pl = true
        · rw [if_pos h3] at h2
          exact KE.plain (fun h4 => by rw [h2] at h4; cases h4) (fun h4 => by omega) hkn
        · rw [if_neg h3] at h2
          refine KE.plain (fun h4 => ⟨by rw [h2] at h4; exact h4, by rw [h2], fun x hx hxd => ⟨x, hx, rfl, hxd⟩⟩) (fun h4 => ?_) hkn
          rw [h2] at h4
          omega
    exact KE.trans h1.1.2 (alone_serve h1.1.1).2 h1.2 (kn_serve h1.1.1)
theorem kn_round {n : Nat} (hf : Fit n p) (h : AI p) : KE p p.round := by
  have h1 := alone_tick h
  have h2 := Alone.then h1 (alone_clean h1.1) (fun hd => by rw [dead_clean]; exact hd)
  have h3 := Alone.then h2 (alone_dispatches 3 h2.1) (fun hd => by rw [dead_dispatches]; exact hd)
  have k1 := kn_tick h
  have k2 := KE.trans h1.2 (alone_clean h1.1).2 k1 (kn_clean h1.1)
  have k3 := KE.trans h2.2 (alone_dispatches 3 h2.1).2 k2 (kn_dispatches 3 h2.1)
  have hs := (hf.tick.clean.dispatches 3).short
  exact KE.trans h3.2 (alone_end h3.1 hs 0 false).2 k3 (kn_end h3.1 hs 0 false)
end
/-- What may be found of a sector behind a crash. -/
def Am.may (m : Am) (a : Int) (s : ByteArray) : Prop := s ∈ m.since.getD a.toNat []
structure SI (q : Sk) (m : Am) : Prop where
  ri : RI q m
  lf : Lf q
  kn : Kn q m.may
theorem SI.told {p q : Sk} {m : Am} (h : SI p m) (hq : AI q) (e : AEff p q) (k : KE p q) : SI q (m.told q) := by
  refine ⟨(h.ri.told hq e).1, k.lf h.lf, (k.kn h.lf _ h.kn).mono (fun a s h0 h1 hs => ?_)⟩
  have hkm := h.ri.kind
  have hk4 := (h.ri.ai.inv.client 0).kind
  unfold Am.told
  by_cases hc : m.kind = 0 ∨ ¬ (q.client 0).kind = 0
  · rw [if_pos hc]
    rcases hs with ⟨h2, h3, _⟩ | ⟨_, h2 | ⟨h2, h3, _⟩⟩
    · omega
    · exact h2
    · omega
  rw [if_neg hc]
  have hq0 : (q.client 0).kind = 0 := by omega
  by_cases k1 : m.kind = 1
  · rw [if_pos k1]
    rcases hs with ⟨h2, h3, _⟩ | ⟨_, h2 | ⟨h2, h3, _⟩⟩
    · omega
    · exact h2
    · omega
  rw [if_neg k1]
  by_cases k2 : m.kind = 2
  · rw [if_pos k2]
    have hpl := h.ri.pl (Or.inr k2)
    have hr := (h.ri.ai.inv.client 0).pl (by omega)
    have hd := h.ri.data k2
    by_cases he : (q.client 0).err = 0
    · rw [if_pos he]
      show s ∈ (m.since.set m.pl.toNat (m.since.getD m.pl.toNat [] ++ [m.data])).getD a.toNat []
      by_cases ea : a.toNat = m.pl.toNat
      · rw [ea, List.getD_eq_getElem?_getD, List.getElem?_set_self (by rw [h.ri.s32]; omega)]
        show s ∈ m.since.getD m.pl.toNat [] ++ [m.data]
        rcases hs with ⟨h2, h3, _⟩ | ⟨_, h2 | ⟨h2, h3, h4, h5, h6⟩⟩
        · omega
        · refine List.mem_append_left _ ?_
          have : s ∈ m.since.getD a.toNat [] := h2
          rw [ea] at this; exact this
        · exact List.mem_append_right _ (by rw [h6, hd]; exact List.mem_singleton_self _)
      · rw [List.getD_eq_getElem?_getD, List.getElem?_set_ne (fun h' => ea h'.symm), ← List.getD_eq_getElem?_getD]
        rcases hs with ⟨h2, h3, _⟩ | ⟨_, h2 | ⟨h2, h3, h4, h5, h6⟩⟩
        · omega
        · exact h2
        · exact absurd (by rw [h5, hpl]) ea
    · rw [if_neg he]
      rcases hs with ⟨h2, h3, _⟩ | ⟨_, h2 | ⟨h2, h3, h4, _⟩⟩
      · omega
      · exact h2
      · exact absurd h4 he
  rw [if_neg k2]
  have k3 : (p.client 0).kind = 3 := by omega
  by_cases he : (q.client 0).err = 0
  · rw [if_pos he]
    show s ∈ (m.now.map fun s => [s]).getD a.toNat []
    have hn := h.ri.now a h0 h1
    have hl : a.toNat < m.now.length := by rw [h.ri.n32]; omega
    rw [List.getD_eq_getElem?_getD, List.getElem?_map, List.getElem?_eq_getElem hl]
    show s ∈ [m.now[a.toNat]]
    rw [List.getD_eq_getElem?_getD, List.getElem?_eq_getElem hl, Option.getD_some] at hn
    rw [hn]
    rcases hs with ⟨_, _, _, h4⟩ | ⟨h2, _⟩
    · rw [h4]; exact List.mem_singleton_self _
    · exact absurd ⟨k3, hq0, he⟩ h2
  · rw [if_neg he]
    rcases hs with ⟨_, _, h3, _⟩ | ⟨_, h2 | ⟨h2, h3, h4, _⟩⟩
    · exact absurd h3 he
    · exact h2
    · omega
theorem asked_may (m : Am) (x : Sp) (e : Int) : (m.asked x e).may = m.may := by unfold Am.asked Am.may; split <;> rfl
theorem lf_asks {p : Sk} (h : AI p) (kind pl : Int) (data : ByteArray) : Lf (p.asks 0 kind pl data) := by
  have hc : (p.asks 0 kind pl data).client 0 = { p.client 0 with kind := kind, pl := pl, data := data, left := if kind = 3 then dirtyOnes p.hand else (p.client 0).left } := by
    unfold Sk.asks; rw [clientSet p h.inv.cl3 (by omega), if_pos rfl]
  intro h3 x hx hd
  rw [hc] at h3 ⊢
  have h3' : kind = 3 := h3
  show x.pl ∈ (if kind = 3 then dirtyOnes p.hand else (p.client 0).left)
  rw [if_pos h3']
  exact List.mem_map.2 ⟨x, List.mem_filter.2 ⟨hx, hd⟩, rfl⟩
theorem ask_known {p : Sk} {m : Am} (h : RI p m) (hl : Lf p) (kind pl : Int) (data : ByteArray) (x : Sp) (hx : kindOf x = kind) (hkind : kind = 1 ∨ kind = 2 ∨ kind = 3) (hxb : kind = 1 ∨ kind = 2 → x.b = pl) (hxd : kind = 2 → x.data = data) (hs : p.doStep x = p.ask 0 kind pl data) : ∃ q0, RI q0 (m.asked x (p.doStep x).1) ∧ Lf q0 ∧ (∀ S, Kn p S → Kn q0 S) ∧ AI (p.doStep x).2 ∧ AEff q0 (p.doStep x).2 ∧ KE q0 (p.doStep x).2 := by
  rw [hs]
  unfold Sk.ask
  by_cases hf : askFault 0 kind pl data = 0
  · rw [if_neg (by simpa using hf)]
    by_cases hw : p.waits 0 = true
    · rw [if_pos hw]
      refine ⟨p, ?_, hl, fun _ h => h, h.ai, AEff.refl p, KE.refl p⟩
      have : m.asked x 6 = m := by unfold Am.asked; rw [if_neg (by omega)]
      rw [this]; exact h
    · rw [if_neg hw]
      obtain ⟨a1, a2, a3, a4, a5⟩ := asks_alone h.ai kind pl data hf
      have e0 : m.asked x 0 = { m with kind := kind, pl := x.b, data := x.data } := by unfold Am.asked; rw [hx, if_pos ⟨by omega, rfl⟩]
      have hsv := alone_serve a1
      refine ⟨p.asks 0 kind pl data, ?_, lf_asks h.ai kind pl data, fun S hS => ⟨hS.dev, hS.hand, hS.req⟩, hsv.1, hsv.2, kn_serve a1⟩
      rw [e0]
      exact ⟨a1, h.n32, h.s32, a3.symm, fun hk => by rw [a4]; exact hxb hk, fun hk => by rw [a5]; exact hxd hk, fun a b1 b2 => by rw [a2]; exact h.now a b1 b2⟩
  · rw [if_pos hf]
    refine ⟨p, ?_, hl, fun _ h => h, h.ai, AEff.refl p, KE.refl p⟩
    have : m.asked x (askFault 0 kind pl data) = m := by unfold Am.asked; rw [if_neg (fun h' => hf h'.2)]
    rw [this]; exact h
/-- A step of one who asks alone: what may be found stays known. -/
theorem step_known {n : Nat} {p : Sk} {m : Am} (hf : Fit n p) (h : RI p m) (hl : Lf p) (x : Sp) (hx : 0 < kindOf x → x.a = 0) : ∃ q0, RI q0 (m.asked x (p.doStep x).1) ∧ Lf q0 ∧ (∀ S, Kn p S → Kn q0 S) ∧ AI (p.doStep x).2 ∧ AEff q0 (p.doStep x).2 ∧ KE q0 (p.doStep x).2 := by
  by_cases k1 : x.word = wRead
  · have hk : kindOf x = 1 := by unfold kindOf; rw [if_pos k1]
    have ha := hx (by omega)
    exact ask_known h hl 1 x.b ByteArray.empty x hk (Or.inl rfl) (fun _ => rfl) (fun e => by omega) (by unfold Sk.doStep; rw [if_pos k1, ha])
  by_cases k2 : x.word = wWrite
  · have hk : kindOf x = 2 := by unfold kindOf; rw [if_neg k1, if_pos k2]
    have ha := hx (by omega)
    exact ask_known h hl 2 x.b x.data x hk (Or.inr (Or.inl rfl)) (fun _ => rfl) (fun _ => rfl) (by unfold Sk.doStep; rw [if_neg k1, if_pos k2, ha])
  by_cases k3 : x.word = wSync
  · have hk : kindOf x = 3 := by unfold kindOf; rw [if_neg k1, if_neg k2, if_pos k3]
    have ha := hx (by omega)
    exact ask_known h hl 3 0 ByteArray.empty x hk (Or.inr (Or.inr rfl)) (fun e => by omega) (fun e => by omega) (by unfold Sk.doStep; rw [if_neg k1, if_neg k2, if_pos k3, ha])
  have hk : kindOf x = 0 := by unfold kindOf; rw [if_neg k1, if_neg k2, if_neg k3]
  have ha : m.asked x (p.doStep x).1 = m := by unfold Am.asked; rw [if_neg (by omega)]
  rw [ha]
  have key : AI (p.doStep x).2 ∧ AEff p (p.doStep x).2 ∧ KE p (p.doStep x).2 := by
    have hA := h.ai
    unfold Sk.doStep
    rw [if_neg k1, if_neg k2, if_neg k3]
    split
    · exact ⟨(alone_tick hA).1, (alone_tick hA).2, kn_tick hA⟩
    split
    · exact ⟨(alone_clean hA).1, (alone_clean hA).2, kn_clean hA⟩
    split
    · exact ⟨(alone_dispatch hA).1, (alone_dispatch hA).2, kn_dispatch hA⟩
    split
    · exact ⟨(alone_end hA hf.short _ _).1, (alone_end hA hf.short _ _).2, kn_end hA hf.short _ _⟩
    split
    · exact ⟨(alone_end hA hf.short _ _).1, (alone_end hA hf.short _ _).2, kn_end hA hf.short _ _⟩
    split
    · exact ⟨(alone_round hf hA).1, (alone_round hf hA).2, kn_round hf hA⟩
    · exact ⟨hA, AEff.refl p, KE.refl p⟩
  exact ⟨p, h, hl, fun _ h => h, key.1, key.2.1, key.2.2⟩
theorem SI.step {n : Nat} {p : Sk} {m : Am} (hf : Fit n p) (h : SI p m) (x : Sp) (hx : 0 < kindOf x → x.a = 0) : SI (p.doStep x).2 ((m.asked x (p.doStep x).1).told (p.doStep x).2) := by
  obtain ⟨q0, h1, h2, h3, h4, h5, h6⟩ := step_known hf h.ri h.lf x hx
  exact SI.told ⟨h1, h2, by rw [asked_may]; exact h3 _ h.kn⟩ h4 h5 h6
theorem SI.found {q : Sk} {m : Am} (h : SI q m) (hw : ∀ x ∈ q.dev.wr, x.pl < 32) (kp : Int) (a : Int) (h0 : 0 ≤ a) (h1 : a ≤ 31) : (q.dev.after kp).getD a.toNat ByteArray.empty ∈ m.since.getD a.toNat [] := h.kn.dev.after hw h.ri.ai.inv.g32 kp a h0 h1
end Go.Proofs.YtgjkdhedkbkagaaGreat
/- A stack of all: rounds where nobody waits. -/
namespace Go.Proofs.YtgjkdhedkbkagaaGreat
open Go.RowKit
set_option maxRecDepth 100000

def NoOne (p : Sk) : Prop := ∀ c ∈ p.cl, c.kind = 0
theorem noOne_client {p : Sk} (h : NoOne p) (i : Nat) : (p.client i).kind = 0 := by
  unfold Sk.client
  rw [List.getD_eq_getElem?_getD]
  cases e : p.cl[i]? with
  | none => rfl
  | some c => exact h c (List.mem_of_getElem? e)
theorem noOne_serve1 {p : Sk} (h : NoOne p) (i : Nat) : p.serve1 i = p := by
  have := noOne_client h i
  unfold Sk.serve1
  rw [if_neg (by omega), if_neg (by omega), if_neg (by omega)]
theorem noOne_serve {p : Sk} (h : NoOne p) : p.serve = p := by
  show ((p.serve1 0).serve1 1).serve1 2 = p
  rw [noOne_serve1 h 0, noOne_serve1 h 1, noOne_serve1 h 2]
theorem noOne_readers {p : Sk} (h : NoOne p) (F : Int → Bool) (s : ByteArray) (e : Int) : p.readers F s e = p := by
  unfold Sk.readers
  have : p.cl.map (fun c => if c.kind = 1 ∧ F c.pl = true then (⟨0, 0, ByteArray.empty, [], s, e⟩ : Cl) else c) = p.cl := by
    rw [List.map_congr_left (g := id) (fun c hc => by rw [if_neg (by rw [h c hc]; omega)]; rfl), List.map_id]
  rw [this]
theorem noOne_wentTo {p : Sk} (hI : Inv p) (h : NoOne p) (r : Rq) (gr : Good r) (xs : List ByteArray) (hx : ∀ j, (xs.getD j ByteArray.empty).size ≤ 4) : ∀ n, n ≤ r.m.toNat → (p.wentTo r xs n).cl = p.cl ∧ dirtyB (p.wentTo r xs n).hand ≤ dirtyB p.hand
  | 0, _ => ⟨rfl, Nat.le_refl _⟩
  | n + 1, hn => by
    obtain ⟨h1, h2⟩ := noOne_wentTo hI h r gr xs hx n (by omega)
    have hIn := hI.wentTo r gr xs hx n (by omega)
    have hN : NoOne (p.wentTo r xs n) := by unfold NoOne; rw [h1]; exact h
    rw [wentTo_succ]
    unfold Sk.wentOne
    split
    · exact ⟨h1, Nat.le_trans (dirty_cleanL _ _ _) h2⟩
    · unfold Sk.wasRead
      split
      · exact ⟨h1, h2⟩
      · split
        · rename_i l e
          have P := putB_some hIn.hand e
          have hd := P.dirty
          simp only [Bool.false_eq_true, if_false] at hd
          have hN2 : NoOne ({ p.wentTo r xs n with hand := l, uses := (p.wentTo r xs n).uses + 1 } : Sk) := hN
          rw [noOne_readers hN2]
          exact ⟨h1, Nat.le_trans (by exact hd) h2⟩
        · rw [noOne_readers hN]
          exact ⟨h1, h2⟩
theorem noOne_round {n : Nat} {p : Sk} (hf : Fit n p) (h : NoOne p) : NoOne p.round ∧ dirtyB p.round.hand ≤ dirtyB p.hand := by
  have et : p.tick = ({ p with moment := if p.moment + 1 < 1000000000 then p.moment + 1 else 1000000000 } : Sk) := noOne_serve (p := { p with moment := if p.moment + 1 < 1000000000 then p.moment + 1 else 1000000000 }) h
  have hc := clean_hand p.tick
  have hd := dispatches_hand 3 p.tick.clean.2
  have e1 : (p.tick.clean.2.dispatches 3).hand = p.hand := by rw [hd.1, hc.1, et]
  have e2 : (p.tick.clean.2.dispatches 3).cl = p.cl := by rw [hd.2, hc.2, et]
  have f3 := (hf.tick.clean).dispatches 3
  show NoOne ((p.tick.clean.2.dispatches 3).end' 0 false).2 ∧ dirtyB ((p.tick.clean.2.dispatches 3).end' 0 false).2.hand ≤ _
  generalize p.tick.clean.2.dispatches 3 = q at *
  have hN : NoOne q := by unfold NoOne; rw [e2]; exact h
  rcases end_cases q 0 false with ⟨_, e⟩ | ⟨k, hk, _, ⟨_, e⟩ | ⟨h1, _⟩ | ⟨h1, _⟩ | ⟨h1, _⟩⟩
  · rw [e]; exact ⟨hN, by rw [e1]; exact Nat.le_refl _⟩
  · rw [e]
    have gr := f3.inv.good _ (List.mem_append_right _ (List.getElem_mem hk))
    have hI1 := (f3.inv.took k).did q.dev.busy[k]
    have hN1 : NoOne ((q.took k).did q.dev.busy[k]) := hN
    obtain ⟨k1, k2⟩ := noOne_wentTo hI1 hN1 q.dev.busy[k] gr (didRead q.dev q.dev.busy[k]) (didRead_short f3.short _) _ (Nat.le_refl _)
    have hN2 : NoOne (((q.took k).did q.dev.busy[k]).wentWell q.dev.busy[k] (didRead q.dev q.dev.busy[k])) := by
      unfold NoOne
      show ∀ c ∈ (Sk.wentTo _ _ _ _).cl, _
      rw [k1]; exact hN1
    show NoOne (Sk.serve _) ∧ dirtyB (Sk.serve _).hand ≤ _
    rw [noOne_serve hN2]
    exact ⟨hN2, Nat.le_trans k2 (by rw [← e1]; exact Nat.le_refl _)⟩
  · cases h1
  · cases h1
  · cases h1
theorem quiet_noOne {p : Sk} (hl : p.cl.length = 3) (h : p.quiet = true) : NoOne p := fun c hc => by
  obtain ⟨i, hi, rfl⟩ := mem_client hl hc
  exact ((quiet_iff p).1 h).1 i hi
theorem idle_round {n : Nat} {p : Sk} (hf : Fit n p) (h : p.idle) : p.round.idle := by
  have hN := quiet_noOne hf.inv.cl3 h.1
  obtain ⟨hk, hq, hb⟩ := (quiet_iff p).1 h.1
  have et : p.tick = ({ p with moment := if p.moment + 1 < 1000000000 then p.moment + 1 else 1000000000 } : Sk) := noOne_serve (p := { p with moment := if p.moment + 1 < 1000000000 then p.moment + 1 else 1000000000 }) hN
  have hqt : p.tick.quiet = true := by rw [et]; exact (quiet_iff _).2 ⟨hk, hq, hb⟩
  have hc : p.tick.clean = (false, p.tick) := by
    rcases h.2 with h' | h'
    · exact soft_clean hf.tick.inv.cl3 hqt (by rw [et]; exact h')
    · unfold Sk.clean
      rw [if_pos (Or.inl (by rw [et]; exact h'))]
  have hd : p.tick.dispatches 3 = p.tick := by
    unfold Sk.dispatches
    have : p.tick.dispatch = (false, p.tick) := by
      unfold Sk.dispatch
      rw [if_pos (Or.inl (by rw [et]; exact hq))]
    rw [this, if_neg Bool.false_ne_true]
  have er : p.round = p.tick := by
    show ((p.tick.clean.2.dispatches 3).end' 0 false).2 = _
    rw [hc]
    show ((p.tick.dispatches 3).end' 0 false).2 = _
    rw [hd]
    unfold Sk.end'
    rw [if_neg (by omega)]
    have : p.tick.dev.busy[(0 : Int).toNat]? = none := by rw [et]; show p.dev.busy[(0 : Int).toNat]? = none; rw [hb]; rfl
    rw [this]
  rw [er]
  exact ⟨hqt, by rw [et]; exact h.2⟩
def Sk.rounds (p : Sk) : Nat → Sk
  | 0 => p
  | k + 1 => (p.rounds k).round
theorem rounds_front (p : Sk) : ∀ k, p.rounds (k + 1) = p.round.rounds k
  | 0 => rfl
  | k + 1 => by
    show (p.rounds (k + 1)).round = (p.round.rounds k).round
    rw [rounds_front p k]
theorem Firm.rounds {n : Nat} {p : Sk} (h : Firm n p) : ∀ k, Firm (n + 11 * k) (p.rounds k)
  | 0 => h
  | k + 1 => ⟨(h.rounds k).round.fit.mono (by omega), (h.rounds k).round.tight⟩
theorem idle_rounds {n : Nat} {p : Sk} (hf : Firm n p) (h : p.idle) : ∀ k, (p.rounds k).idle
  | 0 => h
  | k + 1 => idle_round (hf.rounds k).fit (idle_rounds hf h k)
theorem idle_after (m : Nat) : ∀ {n : Nat} {p : Sk}, Firm n p → p.pot < m → (p.rounds m).idle := by
  induction m with
  | zero => intro n p _ h; omega
  | succ m ih =>
    intro n p h hp
    rw [rounds_front]
    rcases round_down h with hi | hi
    · exact idle_rounds h.round hi m
    · exact ih h.round (by omega)
theorem noOne_rounds {n : Nat} {p : Sk} (hf : Firm n p) (h : NoOne p) : ∀ k, NoOne (p.rounds k) ∧ dirtyB (p.rounds (k + 1)).hand ≤ dirtyB (p.rounds k).hand
  | 0 => ⟨h, (noOne_round hf.fit h).2⟩
  | k + 1 => by
    have h1 := (noOne_round (hf.rounds k).fit (noOne_rounds hf h k).1).1
    exact ⟨h1, (noOne_round (hf.rounds (k + 1)).fit h1).2⟩
theorem settle_firm (m : Nat) : ∀ {n : Nat} {p : Sk}, Firm n p → Firm (n + 11 * m) (p.settle m).2 := by
  induction m with
  | zero => intro n p h; exact h
  | succ m ih =>
    intro n p h
    unfold Sk.settle
    split
    · exact ⟨h.fit.mono (by omega), h.tight⟩
    · have := ih h.round
      exact ⟨this.fit.mono (by omega), this.tight⟩
end Go.Proofs.YtgjkdhedkbkagaaGreat
/- Who asks alone: a sync, and the rounds behind it. -/
namespace Go.Proofs.YtgjkdhedkbkagaaGreat
open Go.RowKit
set_option maxRecDepth 100000

/-- A sync is waited for, or was answered: well, then a device has just what was written; or all is dead. -/
def Vs (q : Sk) (m : Am) : Prop := m.kind = 3 ∨ (m.kind = 0 ∧ (((q.client 0).err = 0 ∧ Kn q (fun a s => s = m.now.getD a.toNat ByteArray.empty)) ∨ ((q.client 0).err = 9 ∧ q.dead = true)))
theorem vs_told {p q : Sk} {m : Am} (h : RI p m) (hl : Lf p) (hq : AI q) (e : AEff p q) (k : KE p q) (h3 : m.kind = 3) : Vs q (m.told q) := by
  obtain ⟨hr, hfine⟩ := h.told hq e
  have hpk : (p.client 0).kind = 3 := h.kind.symm.trans h3
  unfold Am.told at hr ⊢
  by_cases hc : (q.client 0).kind = 0
  · rw [if_neg (by omega), if_neg (by omega), if_neg (by omega)] at hr ⊢
    rcases (hfine (by omega) hc).2 (by omega) with he | ⟨he, hd⟩
    · rw [if_pos he] at hr ⊢
      refine Or.inr ⟨rfl, Or.inl ⟨he, ?_⟩⟩
      have hK := k.kn hl (fun _ _ => True) ⟨⟨fun _ _ _ => trivial, fun _ _ _ => trivial, fun _ _ _ => trivial⟩, fun _ _ _ _ => trivial, fun _ _ _ _ _ _ _ => trivial⟩
      refine hK.mono (fun a s h0 h1 hs => ?_)
      show s = m.now.getD a.toNat ByteArray.empty
      rw [h.now a h0 h1]
      rcases hs with ⟨_, _, _, h4⟩ | ⟨h2, _⟩
      · exact h4
      · exact absurd ⟨hpk, hc, he⟩ h2
    · rw [if_neg (by omega)] at hr ⊢
      exact Or.inr ⟨rfl, Or.inr ⟨he, hd⟩⟩
  · rw [if_pos (Or.inr hc)] at hr ⊢
    exact Or.inl h3
/-- What stands while one asks alone, and it goes on. -/
structure TI (n : Nat) (q : Sk) (m : Am) : Prop where
  ri : RI q m
  lf : Lf q
  fit : Fit n q
theorem TI.firm {n : Nat} {q : Sk} {m : Am} (h : TI n q m) : Firm n q := ⟨h.fit, h.ri.ai.tight⟩
theorem TI.step {n : Nat} {p : Sk} {m : Am} (h : TI n p m) {x : Sp} {q' : Sk} {m' : Am} (hr : RI q' m') (hf : Fit (n + 11) q') (e : AStep p m x q' m') : TI (n + 11) q' m' := by
  rcases e with ⟨_, _, rfl, rfl⟩ | ⟨h1, rfl, rfl⟩
  · exact ⟨hr, h.lf, hf⟩
  · obtain ⟨q0, _, h2, _, _, _, h6⟩ := step_known h.fit h.ri h.lf x h1
    exact ⟨hr, h6.lf h2, hf⟩
theorem TI.vs {n : Nat} {p : Sk} {m : Am} (h : TI n p m) {x : Sp} {q' : Sk} {m' : Am} (e : AStep p m x q' m') (h3 : (m.asked x (p.doStep x).1).kind = 3) (ha : x.a = 0) : Vs q' m' := by
  rcases e with ⟨_, h2, _, _⟩ | ⟨h1, rfl, rfl⟩
  · exact absurd ha h2
  · obtain ⟨q0, k1, k2, _, k4, k5, k6⟩ := step_known h.fit h.ri h.lf x h1
    exact vs_told k1 k2 k4 k5 k6 h3
def stRound : Sp := ⟨⟨#[114, 111, 117, 110, 100]⟩, 0, 0, ⟨#[]⟩⟩
def stSync : Sp := ⟨⟨#[115, 121, 110, 99]⟩, 0, 0, ⟨#[]⟩⟩
theorem round_do (q : Sk) : q.doStep stRound = (0, q.round) := rfl
theorem sync_do (q : Sk) : q.doStep stSync = q.ask 0 3 0 ByteArray.empty := rfl
theorem round_asked (m : Am) (e : Int) : m.asked stRound e = m := by unfold Am.asked; rw [if_neg]; rintro ⟨h, _⟩; exact absurd h (by decide)
theorem TI.round {n : Nat} {p : Sk} {m : Am} (_h : TI n p m) {q' : Sk} {m' : Am} (e : AStep p m stRound q' m') : q' = p.round ∧ m' = m.told p.round := by
  rcases e with ⟨h1, h2, _, _⟩ | ⟨_, h1, h2⟩
  · exact absurd rfl h2
  · rw [round_do] at h1 h2
    rw [round_asked] at h2
    exact ⟨h1, h2⟩
/-- It goes on: a round more. -/
theorem TI.down {n : Nat} {p : Sk} {m : Am} (h : TI n p m) {q' : Sk} {m' : Am} (e : AStep p m stRound q' m') (i : Nat) (hd : p.idle ∨ p.pot + i ≤ 35) (hk : ¬ m.kind = 0) : i ≤ 35 ∧ (q'.idle ∨ q'.pot + (i + 1) ≤ 35) := by
  obtain ⟨rfl, _⟩ := h.round e
  have hni : ¬ p.idle := fun hi => by
    have := (quiet_iff p).1 hi.1
    exact hk (h.ri.kind.trans (this.1 0 (by omega)))
  rcases hd with hd | hd
  · exact absurd hd hni
  · refine ⟨by omega, ?_⟩
    rcases round_down h.firm with h1 | h1
    · exact Or.inl h1
    · exact Or.inr (by omega)
theorem TI.idle {n : Nat} {p : Sk} {m : Am} (h : TI n p m) (hi : p.idle) : m.kind = 0 := h.ri.kind.trans (((quiet_iff p).1 hi.1).1 0 (by omega))
theorem TI.start {n : Nat} {p : Sk} {m : Am} (h : TI n p m) : p.idle ∨ p.pot + 0 ≤ 35 := Or.inr (by have := pot_bound h.fit; omega)
theorem am0_ti : TI 0 sk0 am0 := ⟨am0_ri, (fun h => by cases h), sk0_fit⟩
theorem TI.sync {n : Nat} {p : Sk} {m : Am} (h : TI n p m) (hk : m.kind = 0) {q' : Sk} {m' : Am} (e : AStep p m stSync q' m') : Vs q' m' := by
  refine h.vs e ?_ rfl
  have hw : p.waits 0 = false := (waits_no p 0 (by omega)).2 (h.ri.kind.symm.trans hk)
  have e0 : (p.doStep stSync).1 = 0 := by
    rw [sync_do]
    unfold Sk.ask
    rw [if_neg (by decide), if_neg (by rw [hw]; exact Bool.false_ne_true)]
  rw [e0]
  unfold Am.asked
  rw [if_pos ⟨by decide, rfl⟩]
  rfl
theorem Vs.round {n : Nat} {p : Sk} {m : Am} (h : TI n p m) (h3 : m.kind = 3) {q' : Sk} {m' : Am} (e : AStep p m stRound q' m') : Vs q' m' := h.vs e (by rw [round_asked]; exact h3) rfl
/-- What is found behind a crash then. -/
theorem Kn.just {q : Sk} {now : List ByteArray} (h : Kn q (fun a s => s = now.getD a.toNat ByteArray.empty)) (hg : q.dev.good.length = 32) (hw : ∀ x ∈ q.dev.wr, x.pl < 32) (kp : Int) (j : Nat) (hj : j < 32) : (q.dev.after kp).getD j ByteArray.empty = now.getD j ByteArray.empty := h.dev.after hw hg kp (j : Int) (by omega) (by omega)
end Go.Proofs.YtgjkdhedkbkagaaGreat
/- Who asks alone: a crash, and what is found behind it. -/
namespace Go.Proofs.YtgjkdhedkbkagaaGreat
open Go.RowKit Go.BigFrame Go.Maps
set_option maxRecDepth 100000
attribute [local go_sem] Later.cell Later.frozen

/-- Behind a crash: the device has F, what was kept in mind stands. -/
def Fd (W : World) (g s b : Nat) (m : Am) (N : Nat) (F : List ByteArray) (wr : World) : Prop := ∃ d a R, DevAt b d a wr ∧ d.now = F ∧ AlAt g s b m R N wr ∧ Below W.heap.size W wr
theorem Fd.later {W wr w' : World} {g s b N : Nat} {m : Am} {F : List ByteArray} (h : Fd W g s b m N F wr) (hb : Below wr.heap.size wr w') : Fd W g s b m N F w' := by
  obtain ⟨d, a, R, h1, h2, h3, h4⟩ := h
  exact ⟨d, a, R, h1.later hb, h2, h3.later hb, bthen h4 hb⟩
theorem Fd.bel {W wr : World} {g s b N : Nat} {m : Am} {F : List ByteArray} (h : Fd W g s b m N F wr) : Below W.heap.size W wr := by
  obtain ⟨_, _, _, _, _, _, h⟩ := h; exact h
section
variable (W w : World) (g s b : Nat) (q : Sk) (m : Am) (N : Nat)
theorem fd_peek (F : List ByteArray) (h : Fd W g s b m N F w) (k : Nat) (hk : k < 32) (x : ByteArray) (hx : F.getD k ByteArray.empty = x) : Calls Tryz.prog 26 #[.pointer (some ⟨b, 0, none⟩), .int .i64 k] w fun e w' => e = .returned (.string x) ∧ Below w.heap.size w w' := by
  obtain ⟨d, a, R, h1, h2, _, _⟩ := h
  exact peek_in b d a k w h1 hk x (by rw [h2]; exact hx)
theorem al_crash (h : AlW W g s b q m N w) (kp : Int) (hkp : 0 ≤ kp ∧ kp ≤ 18446744073709551615) : Calls Tryz.prog 24 #[.pointer (some ⟨b, 0, none⟩), .int .u64 kp] w fun e w' => e = .returned (.tuple #[]) ∧ Fd W g s b m N (q.dev.after kp) w' := by
  obtain ⟨p, A, R, h⟩ := h
  have hb := h.hb
  subst hb
  have hfo : ∀ k, A.an.foot A.b k → A.foot s k := fun k hk => Or.inr (Or.inl (Or.inr hk))
  refine (crash_any A.b p.dev A.an kp hkp w h.st.mem.drv.dev).mono ?_
  rintro e w' ⟨a', rfl, hs⟩
  refine ⟨rfl, p.dev.crash kp, a', R, hs.dev, ?_, h.al.frame hs.only (fun e => h.gf (hfo _ e)) (fun k hk ad ha e => (h.rows k hk ad ha).1 (hfo _ e)), h.bel.trans (hs.only.below h.bel.size (fun k hk => h.foot k (hfo k hk)))⟩
  rw [← h.nf]
  rfl
end
theorem SI.astep {n : Nat} {p : Sk} {m : Am} (hf : Fit n p) (h : SI p m) {x : Sp} {q' : Sk} {m' : Am} (e : AStep p m x q' m') : SI q' m' := by
  rcases e with ⟨_, _, rfl, rfl⟩ | ⟨h1, rfl, rfl⟩
  · exact h
  · exact h.step hf x h1
/-- The writes that a crash may keep lie within. -/
theorem AlW.fin {W w : World} {g s b N : Nat} {q : Sk} {m : Am} (h : AlW W g s b q m N w) : ∀ x ∈ q.dev.wr, x.pl < 32 := by
  obtain ⟨p, A, R, h⟩ := h
  have hw := h.st.mem.drv.dev.wfin
  rw [← h.nf]
  exact fun x hx => (hw x hx).1
def am1 : Am := { am0 with kind := 0, since := am0.now.map fun s => [s] }
theorem am1_si : SI sk0 am1 := by
  refine ⟨sk0_ri _ (by simp [am0]) 0, (fun h => by cases h), ⟨⟨fun a h0 h1 => ?_, (fun x hx => by cases hx), fun a h0 h1 => ?_⟩, (fun x hx => by cases hx), (fun r hr => by cases hr)⟩⟩
  all_goals
    have hl : a.toNat < 32 := by omega
    have e : am1.since.getD a.toNat [] = [ByteArray.empty] := by
      show (List.map (fun s => [s]) (List.replicate 32 ByteArray.empty)).getD a.toNat [] = _
      rw [List.map_replicate, List.getD_eq_getElem?_getD, List.getElem?_replicate, if_pos hl]; rfl
    unfold Am.may
    rw [e]
  · show (List.replicate 32 ByteArray.empty).getD a.toNat ByteArray.empty ∈ _
    rw [List.getD_eq_getElem?_getD, List.getElem?_replicate, if_pos hl]; exact List.mem_singleton_self _
  · show (if 0 ≤ a then (List.replicate 32 ByteArray.empty).getD a.toNat ByteArray.empty else ByteArray.empty) ∈ _
    rw [if_pos h0, List.getD_eq_getElem?_getD, List.getElem?_replicate, if_pos hl]; exact List.mem_singleton_self _
end Go.Proofs.YtgjkdhedkbkagaaGreat
/- A whole number without a sign that comes in. -/
namespace Go.Proofs.YtgjkdhedkbkagaaGreat
open Go.RowKit Go.ChangeShapes Go.WideShapes Go.WideElems Go.ChangeAt
set_option maxRecDepth 100000
theorem cellsU64 : Tryz.prog.cellsOf 51 = 1 := by kernel_rfl
def InU64 (n : Int) : Prop := 0 ≤ n ∧ n ≤ 18446744073709551615
theorem inU64 {n : Int} (h : (Lit.int .u64 n).wf = true) : InU64 n := bounds_u64 h
section
variable {H : Type} {enc : TypeId × Value → H} {W : World} {base b0 : Nat} {spare : Nat → Bool} {held : Bool} {r : Reach} {v : Value} {d : DataW H} {p : List MemPlace}
theorem openU64 (hv : Value.okWide Tryz.prog W r b0 51 v) (h : DataW.Trod enc Tryz.prog W base spare held 51 v d p) : ∃ n, v = .int .u64 n ∧ InU64 n := by
  obtain ⟨x, rfl, rfl, rfl, wx⟩ := open_int Tryz.underlying51 hv h
  exact ⟨x, rfl, inU64 wx⟩
end
end Go.Proofs.YtgjkdhedkbkagaaGreat
/- TopAfter: behind a sync that was answered well a crash takes nothing. The walk. -/
namespace Go.Proofs.YtgjkdhedkbkagaaGreat
open Go.RowKit Go.BigFrame Go.Maps
set_option maxRecDepth 100000
attribute [local go_sem] Later.cell Later.frozen

def AtJ (W : World) (g s b : Nat) (X N n : Nat) (q : Sk) (m : Am) (wr : World) : Prop := AlW W g s b q m N wr ∧ TI n q m ∧ N ≤ X ∧ n ≤ 11 * X
theorem AtJ.c66 {W : World} {g s b X N n : Nat} {q : Sk} {m : Am} {wr : World} (h : AtJ W g s b X N n q m wr) : wr.cell? ⟨g, 66, none⟩ = some (.int .i64 m.kind) ∧ wr.cell? ⟨g, 0, none⟩ = some (.pointer (some ⟨s, 0, none⟩)) ∧ g < wr.heap.size := by
  obtain ⟨⟨_, _, _, h⟩, _⟩ := h; exact ⟨h.al.c66, h.al.c0, h.al.lt⟩
section
variable (w : World) (g s b : Nat)
/-- Who asks alone: a crash that nothing is lost by. -/
theorem after_crash (q : Sk) (m : Am) (N : Nat) (wr : World) (h : AlW w g s b q m N wr) (hI : Inv q) (hK : Kn q (fun a s => s = m.now.getD a.toNat ByteArray.empty)) (kp : Int) (hkp : 0 ≤ kp ∧ kp ≤ 18446744073709551615) : Calls Tryz.prog 24 #[.pointer (some ⟨b, 0, none⟩), .int .u64 kp] wr fun e w' => e = .returned (.tuple #[]) ∧ ∃ F, Fd w g s b m N F w' ∧ ∀ j, j < 32 → F.getD j ByteArray.empty = m.now.getD j ByteArray.empty :=
  (al_crash w wr g s b q m N h kp hkp).mono (fun _ _ h' => ⟨h'.1, _, h'.2, fun j hj => hK.just hI.g32 h.fin kp j hj⟩)
end
set_option linter.unusedSimpArgs false in
set_option maxRecDepth 100000 in
set_option maxHeartbeats 16000000 in
theorem topAfter_walk (l : List Sp) (la : Option Addr) (lc : Nat) (kp : Int) (w : World) (hl : StepsAt w la l) (_hn : StepsIn l) (hkp : InU64 kp) :
    Calls Tryz.prog 7 #[.slice la l.length lc, .int .u64 kp] w fun e w' => e = .returned (.bool true) ∧ Below w.heap.size w w' := by
  have HL := hidT hl
  have HKP := hidT hkp
  clear hl hkp
  go_enter Tryz.func7, Tryz.ntmps7
  go_wp2_with fail
  refine (works_any _).mono ?_
  rintro e w0 ⟨rfl, hb0⟩
  have HB0 := hidT hb0
  clear hb0
  go_wp2_with fail
  cases hb : lightsS l 100
  · refine (lightsS_any l la lc 100 _ (HL.out.later HB0.out) (by omega) false hb).mono ?_
    rintro e w1 ⟨rfl, hb1⟩
    go_wp2
    go_ret
    exact ⟨rfl, bthen HB0.out hb1⟩
  refine (lightsS_any l la lc 100 _ (HL.out.later HB0.out) (by omega) true hb).mono ?_
  rintro e w1 ⟨rfl, hb1⟩
  have h100 := lightsS_len hb
  have HB1 := hidT (bthen HB0.out hb1)
  clear hb1 hb HB0
  go_wp2_with fail
  refine (new_any _).mono ?_
  rintro e w2 ⟨rfl, hd, hb2, -⟩
  have HD := hidT hd
  have HB2 := hidT (bthen HB1.out hb2)
  have HG : Hid (w.heap.size ≤ w1.heap.size) := HB1.out.size
  clear hd hb2
  generalize w1.heap.size = b at *
  go_wp2_with fail
  refine (snew_any w b w2 HD.out HG.out HB2.out).mono ?_
  rintro e w3 ⟨s, rfl, ho⟩
  have HO3 := hidT ho
  clear ho HD HB2 HB1
  go_wp2_with fail
  refine wp_worldD (fun wz => AlW w w3.heap.size s b sk0 am0 0 wz) (al_new HO3.out) ?_
  intro w4 h4
  have HA4 := hidT h4
  clear h4 HO3
  generalize w3.heap.size = g at *
  go_wp2
  go_loopw [8] (fun i wr => ∃ (k : Nat) (q : Sk) (m : Am), k ≤ l.length ∧ i = .int .i64 k ∧ AtJ w g s b k k (11 * k) q m wr) (fun i _ => l.length - (intOf i).toNat)
  case atStart => exact ⟨0, sk0, am0, by omega, rfl, HA4.out, am0_ti, by omega, by omega⟩
  case round =>
    obtain ⟨k, q, m, hk, rfl, ha⟩ := hrel
    have HA := hidT ha
    have HBr := ha.1.bel
    clear ha HA4
    by_cases hlt : k < l.length
    · have hlt' : (k : Int) < (l.length : Int) := by omega
      rcases HL.out.form with rfl | ⟨bl, ol, rfl⟩
      · exact absurd hlt (Nat.not_lt_zero _)
      obtain ⟨c0, c1, c2, c3⟩ := (HL.out.later HBr).cells hlt
      generalize hx : l[k] = x at *
      clear hx
      go_wp2_with fail
      refine (alone_step w wr g s b q m k HA.out.1 (by omega) (11 * k) HA.out.2.1.fit (by omega) HA.out.2.1.ri x).mono ?_
      rintro e w5 ⟨rfl, q5, m5, ha5, hri5, hfi5, hst⟩
      have HA5 : Hid (AtJ w g s b (k + 1) (k + 1) (11 * (k + 1)) q5 m5 w5) := ⟨ha5, HA.out.2.1.step hri5 hfi5 hst, by omega, by omega⟩
      clear ha5 hfi5 c0 c1 c2 c3 hst hri5
      go_wp2
      go_roundw
      case rel => exact ⟨k + 1, q5, m5, by omega, by go_num, HA5.out⟩
      case measure => simp [intOf]; omega
    · have HA5 : Hid (AtJ w g s b 100 k (11 * k) q m wr) := ⟨HA.out.1, HA.out.2.1, by omega, by omega⟩
      have HS5 : Hid (q.idle ∨ q.pot + 0 ≤ 35) := HA.out.2.1.start
      clear h100 HL HA HBr
      go_wp2_with fail
      clear hlt hk
      (go_loopw [10] (fun i wr => ∃ (n : Nat) (q : Sk) (m : Am) (N f : Nat), n ≤ 60 ∧ i = .int .i64 n ∧ AtJ w g s b (100 + n) N f q m wr ∧ (q.idle ∨ q.pot + n ≤ 35)) (fun i _ => 60 - (intOf i).toNat)); (case atStart => exact ⟨0, q, m, k, 11 * k, by omega, rfl, HA5.out, HS5.out⟩); (case round => (obtain ⟨n, q, m, N, f, hn, rfl, ha, hs⟩ := hrel; clear HA5 HS5; have HA := hidT ha; have HS := hidT hs; obtain ⟨c66, c0, hg⟩ := ha.c66; have hkk := HA.out.2.1.ri.kinds.1; clear ha hs; by_cases h0 : m.kind = 0; (focus (have HK0 := hidT h0; rw [h0] at c66; clear h0 hkk; by_cases h60 : (n : Int) < 60; (focus (have HA6 : Hid (AtJ w g s b 160 N f q m wr) := ⟨HA.out.1, HA.out.2.1, Nat.le_trans HA.out.2.2.1 (by omega), Nat.le_trans HA.out.2.2.2 (by omega)⟩; clear HA HS; go_wp2_with fail; (refine (alone_step w _ g s b q m N (HA6.out.1.later (by repeat (first | with_reducible exact Below.refl _ _ | with_reducible refine balloc ?_ _ | with_reducible refine bdrew ?_ | with_reducible refine bset' ?_ (by omega) _ | with_reducible refine bthen ?_ (by assumption)))) (by have := HA6.out.2.2.1; omega) f HA6.out.2.1.fit (by have := HA6.out.2.2.2; omega) HA6.out.2.1.ri stSync).mono ?_; rintro e w5 ⟨rfl, q5, m5, ha5, hri5, hfi5, hst⟩; have HA5 : Hid (AtJ w g s b 161 (N + 1) (f + 11) q5 m5 w5) := ⟨ha5, HA6.out.2.1.step hri5 hfi5 hst, (by have := HA6.out.2.2.1; omega), (by have := HA6.out.2.2.2; omega)⟩; have HV5 : Hid (Vs q5 m5) := HA6.out.2.1.sync HK0.out hst; have HS5 : Hid (q5.idle ∨ q5.pot + 0 ≤ 35) := HA5.out.2.1.start; clear ha5 hri5 hfi5 hst HA6 HK0 c66 c0; go_wp2_with fail; (go_loopw [5, 12] (fun o i wr => ∃ (n : Nat) (q : Sk) (m : Am) (N f : Nat), n ≤ 60 ∧ i = .int .i64 n ∧ o = .bool true ∧ AtJ w g s b (161 + n) N f q m wr ∧ (q.idle ∨ q.pot + n ≤ 35) ∧ Vs q m) (fun _ i _ => 60 - (intOf i).toNat)); (case atStart => exact ⟨0, q5, m5, N + 1, f + 11, by omega, rfl, rfl, HA5.out, HS5.out, HV5.out⟩); (case round => (obtain ⟨n, q, m, N, f, hn, rfl, rfl, ha, hs, hv⟩ := hrel; clear HA5 HS5 HV5; have HA := hidT ha; have HS := hidT hs; have HV := hidT hv; obtain ⟨c66, c0, hg⟩ := ha.c66; have hkk := HA.out.2.1.ri.kinds.1; clear ha hs hv; by_cases h0 : m.kind = 0; (focus (have HK0 := hidT h0; rw [h0] at c66; clear h0 hkk HS; by_cases h60 : (n : Int) < 60; (focus (go_wp2_with fail; (have HA7 : Hid (AlW w g s b q m N wr) := HA.out.1; have HIN : Hid (Inv q) := HA.out.2.1.ri.ai.inv; have hvv : ((q.client 0).err = 0 ∧ Kn q (fun a s => s = m.now.getD a.toNat ByteArray.empty)) ∨ ((q.client 0).err = 9 ∧ q.dead = true) := (by rcases HV.out with h3 | h3; (focus exact absurd (HK0.out.symm.trans h3) (by omega)); (focus exact h3.2)); clear HA HV HK0; rcases hvv with ⟨he, hk⟩ | ⟨he, hd⟩; (focus (have HKN := hidT hk; clear hk; refine (al_got w _ g s b q m N (HA7.out.later (by repeat (first | with_reducible exact Below.refl _ _ | with_reducible refine balloc ?_ _ | with_reducible refine bdrew ?_ | with_reducible refine bset' ?_ (by omega) _ | with_reducible refine bthen ?_ (by assumption))))).mono ?_; rw [he, show errOf 0 = .nilIface from rfl]; clear he; generalize (q.client 0).got = gt; rintro e w6 ⟨rfl, hb6⟩; have HA8 := hidT ((HA7.out.later (w' := w6) (by repeat (first | with_reducible exact Below.refl _ _ | with_reducible refine balloc ?_ _ | with_reducible refine bdrew ?_ | with_reducible refine bset' ?_ (by omega) _ | with_reducible refine bthen ?_ (by assumption))))); clear hb6 c66 c0 hg HA7; go_wp2_with fail; refine (after_crash w g s b q m N _ (HA8.out.later (by repeat (first | with_reducible exact Below.refl _ _ | with_reducible refine balloc ?_ _ | with_reducible refine bdrew ?_ | with_reducible refine bset' ?_ (by omega) _ | with_reducible refine bthen ?_ (by assumption)))) HIN.out HKN.out kp HKP.out).mono ?_; rintro e w7 ⟨rfl, F, hf7, hm7⟩; have HF7 := hidT hf7; have HM7 := hidT hm7; clear hf7 hm7 HA8 HIN HKN HKP; go_wp2_with fail; (go_loopw [15] (fun i wr => ∃ (j : Nat), j ≤ 32 ∧ i = .int .i64 j ∧ Fd w g s b m N F wr) (fun i _ => 32 - (intOf i).toNat)); (case atStart => exact ⟨0, by omega, rfl, HF7.out⟩); (case round => (obtain ⟨j, hj, rfl, hf⟩ := hrel; have HF := hidT hf; clear hf HF7; by_cases h32 : j = 32; (focus (have h32x : ¬ ((j : Int) < 32) := (by omega); clear h32; go_wp2; go_ret; exact ⟨rfl, HF.out.bel⟩)); (focus (have j32 : j < 32 := (by omega); have j32' : (j : Int) < 32 := (by omega); have jd : decide ((j : Int) < 32) = true := decide_eq_true j32'; obtain ⟨x, hx⟩ : ∃ x, F.getD j ByteArray.empty = x := ⟨_, rfl⟩; have HX := hidT hx; have hm := HM7.out j j32; rw [hx] at hm; obtain ⟨dv, av, R, hd1, hd2, ha3, hb4⟩ := HF.out; have a2 := ha3.cNow j j32; rw [← hm] at a2; have ga := ha3.lt; have q1 : (!x.toList == x.toList) = false := (by simp); clear hx h32 hm hd1 hd2 ha3 hb4; go_wp2_with fail; go_region_held3 (fun w' => w'.cell? ⟨g, 2 + j, none⟩ = some (.string x)) (exact cellB_later' (w := wr) (by repeat (first | with_reducible exact Below.refl _ _ | with_reducible refine balloc ?_ _ | with_reducible refine bdrew ?_ | with_reducible refine bset' ?_ (by omega) _ | with_reducible refine bthen ?_ (by assumption))) a2) (first | (go_at_call 26; refine (fd_peek w _ g s b m N F (HF.out.later (by repeat (first | with_reducible exact Below.refl _ _ | with_reducible refine balloc ?_ _ | with_reducible refine bdrew ?_ | with_reducible refine bset' ?_ (by omega) _ | with_reducible refine bthen ?_ (by assumption)))) j j32 x HX.out).mono ?_; rintro e w8 ⟨rfl, hb8⟩)); all_goals (go_wp2; go_roundw; (case rel => exact ⟨j + 1, by omega, by go_num, HF.out.later (by repeat (first | with_reducible exact Below.refl _ _ | with_reducible refine balloc ?_ _ | with_reducible refine bdrew ?_ | with_reducible refine bset' ?_ (by omega) _ | with_reducible refine bthen ?_ (by assumption)))⟩); (case measure => (simp [intOf]; omega))))))))); (focus (have HDD := hidT hd; clear hd; refine (al_got w _ g s b q m N (HA7.out.later (by repeat (first | with_reducible exact Below.refl _ _ | with_reducible refine balloc ?_ _ | with_reducible refine bdrew ?_ | with_reducible refine bset' ?_ (by omega) _ | with_reducible refine bthen ?_ (by assumption))))).mono ?_; rw [he, show errOf 9 = .iface 89 (.int .i64 9) from rfl]; clear he; generalize (q.client 0).got = gt; rintro e w6 ⟨rfl, hb6⟩; have HA8 := hidT ((HA7.out.later (w' := w6) (by repeat (first | with_reducible exact Below.refl _ _ | with_reducible refine balloc ?_ _ | with_reducible refine bdrew ?_ | with_reducible refine bset' ?_ (by omega) _ | with_reducible refine bthen ?_ (by assumption))))); clear hb6 c66 c0 hg HA7; obtain ⟨_, _, _, h9⟩ := HA8.out; have c0 := h9.al.c0; have hg := h9.al.lt; clear h9; go_wp2_with fail; refine (al_dead w _ g s b q m N (HA8.out.later (by repeat (first | with_reducible exact Below.refl _ _ | with_reducible refine balloc ?_ _ | with_reducible refine bdrew ?_ | with_reducible refine bset' ?_ (by omega) _ | with_reducible refine bthen ?_ (by assumption))))).mono ?_; rw [HDD.out]; rintro e w7 ⟨rfl, rfl⟩; go_wp2; go_ret; exact ⟨rfl, bthen HA8.out.bel (by repeat (first | with_reducible exact Below.refl _ _ | with_reducible refine balloc ?_ _ | with_reducible refine bdrew ?_ | with_reducible refine bset' ?_ (by omega) _ | with_reducible refine bthen ?_ (by assumption)))⟩))))); (focus (go_wp2_with fail; (have HA7 : Hid (AlW w g s b q m N wr) := HA.out.1; have HIN : Hid (Inv q) := HA.out.2.1.ri.ai.inv; have hvv : ((q.client 0).err = 0 ∧ Kn q (fun a s => s = m.now.getD a.toNat ByteArray.empty)) ∨ ((q.client 0).err = 9 ∧ q.dead = true) := (by rcases HV.out with h3 | h3; (focus exact absurd (HK0.out.symm.trans h3) (by omega)); (focus exact h3.2)); clear HA HV HK0; rcases hvv with ⟨he, hk⟩ | ⟨he, hd⟩; (focus (have HKN := hidT hk; clear hk; refine (al_got w _ g s b q m N (HA7.out.later (by repeat (first | with_reducible exact Below.refl _ _ | with_reducible refine balloc ?_ _ | with_reducible refine bdrew ?_ | with_reducible refine bset' ?_ (by omega) _ | with_reducible refine bthen ?_ (by assumption))))).mono ?_; rw [he, show errOf 0 = .nilIface from rfl]; clear he; generalize (q.client 0).got = gt; rintro e w6 ⟨rfl, hb6⟩; have HA8 := hidT ((HA7.out.later (w' := w6) (by repeat (first | with_reducible exact Below.refl _ _ | with_reducible refine balloc ?_ _ | with_reducible refine bdrew ?_ | with_reducible refine bset' ?_ (by omega) _ | with_reducible refine bthen ?_ (by assumption))))); clear hb6 c66 c0 hg HA7; go_wp2_with fail; refine (after_crash w g s b q m N _ (HA8.out.later (by repeat (first | with_reducible exact Below.refl _ _ | with_reducible refine balloc ?_ _ | with_reducible refine bdrew ?_ | with_reducible refine bset' ?_ (by omega) _ | with_reducible refine bthen ?_ (by assumption)))) HIN.out HKN.out kp HKP.out).mono ?_; rintro e w7 ⟨rfl, F, hf7, hm7⟩; have HF7 := hidT hf7; have HM7 := hidT hm7; clear hf7 hm7 HA8 HIN HKN HKP; go_wp2_with fail; (go_loopw [15] (fun i wr => ∃ (j : Nat), j ≤ 32 ∧ i = .int .i64 j ∧ Fd w g s b m N F wr) (fun i _ => 32 - (intOf i).toNat)); (case atStart => exact ⟨0, by omega, rfl, HF7.out⟩); (case round => (obtain ⟨j, hj, rfl, hf⟩ := hrel; have HF := hidT hf; clear hf HF7; by_cases h32 : j = 32; (focus (have h32x : ¬ ((j : Int) < 32) := (by omega); clear h32; go_wp2; go_ret; exact ⟨rfl, HF.out.bel⟩)); (focus (have j32 : j < 32 := (by omega); have j32' : (j : Int) < 32 := (by omega); have jd : decide ((j : Int) < 32) = true := decide_eq_true j32'; obtain ⟨x, hx⟩ : ∃ x, F.getD j ByteArray.empty = x := ⟨_, rfl⟩; have HX := hidT hx; have hm := HM7.out j j32; rw [hx] at hm; obtain ⟨dv, av, R, hd1, hd2, ha3, hb4⟩ := HF.out; have a2 := ha3.cNow j j32; rw [← hm] at a2; have ga := ha3.lt; have q1 : (!x.toList == x.toList) = false := (by simp); clear hx h32 hm hd1 hd2 ha3 hb4; go_wp2_with fail; go_region_held3 (fun w' => w'.cell? ⟨g, 2 + j, none⟩ = some (.string x)) (exact cellB_later' (w := wr) (by repeat (first | with_reducible exact Below.refl _ _ | with_reducible refine balloc ?_ _ | with_reducible refine bdrew ?_ | with_reducible refine bset' ?_ (by omega) _ | with_reducible refine bthen ?_ (by assumption))) a2) (first | (go_at_call 26; refine (fd_peek w _ g s b m N F (HF.out.later (by repeat (first | with_reducible exact Below.refl _ _ | with_reducible refine balloc ?_ _ | with_reducible refine bdrew ?_ | with_reducible refine bset' ?_ (by omega) _ | with_reducible refine bthen ?_ (by assumption)))) j j32 x HX.out).mono ?_; rintro e w8 ⟨rfl, hb8⟩)); all_goals (go_wp2; go_roundw; (case rel => exact ⟨j + 1, by omega, by go_num, HF.out.later (by repeat (first | with_reducible exact Below.refl _ _ | with_reducible refine balloc ?_ _ | with_reducible refine bdrew ?_ | with_reducible refine bset' ?_ (by omega) _ | with_reducible refine bthen ?_ (by assumption)))⟩); (case measure => (simp [intOf]; omega))))))))); (focus (have HDD := hidT hd; clear hd; refine (al_got w _ g s b q m N (HA7.out.later (by repeat (first | with_reducible exact Below.refl _ _ | with_reducible refine balloc ?_ _ | with_reducible refine bdrew ?_ | with_reducible refine bset' ?_ (by omega) _ | with_reducible refine bthen ?_ (by assumption))))).mono ?_; rw [he, show errOf 9 = .iface 89 (.int .i64 9) from rfl]; clear he; generalize (q.client 0).got = gt; rintro e w6 ⟨rfl, hb6⟩; have HA8 := hidT ((HA7.out.later (w' := w6) (by repeat (first | with_reducible exact Below.refl _ _ | with_reducible refine balloc ?_ _ | with_reducible refine bdrew ?_ | with_reducible refine bset' ?_ (by omega) _ | with_reducible refine bthen ?_ (by assumption))))); clear hb6 c66 c0 hg HA7; obtain ⟨_, _, _, h9⟩ := HA8.out; have c0 := h9.al.c0; have hg := h9.al.lt; clear h9; go_wp2_with fail; refine (al_dead w _ g s b q m N (HA8.out.later (by repeat (first | with_reducible exact Below.refl _ _ | with_reducible refine balloc ?_ _ | with_reducible refine bdrew ?_ | with_reducible refine bset' ?_ (by omega) _ | with_reducible refine bthen ?_ (by assumption))))).mono ?_; rw [HDD.out]; rintro e w7 ⟨rfl, rfl⟩; go_wp2; go_ret; exact ⟨rfl, bthen HA8.out.bel (by repeat (first | with_reducible exact Below.refl _ _ | with_reducible refine balloc ?_ _ | with_reducible refine bdrew ?_ | with_reducible refine bset' ?_ (by omega) _ | with_reducible refine bthen ?_ (by assumption)))⟩))))))); (focus (have hkp1 : (0 : Int) < m.kind := (by omega); have hn35 : n ≤ 35 := (by rcases HS.out with hi | hi; (focus (exact absurd (HA.out.2.1.idle hi) h0)); (focus omega)); have h60 : (n : Int) < 60 := (by omega); have HK0 := hidT h0; have HK3 : Hid (m.kind = 3) := (by rcases HV.out with h3 | h3; (focus exact h3); (focus exact absurd h3.1 h0) : m.kind = 3); clear h0 hkk; go_wp2_with fail; refine (alone_step w _ g s b q m N (HA.out.1.later (by repeat (first | with_reducible exact Below.refl _ _ | with_reducible refine balloc ?_ _ | with_reducible refine bdrew ?_ | with_reducible refine bset' ?_ (by omega) _ | with_reducible refine bthen ?_ (by assumption)))) (by have := HA.out.2.2.1; omega) f HA.out.2.1.fit (by have := HA.out.2.2.2; omega) HA.out.2.1.ri stRound).mono ?_; rintro e w5 ⟨rfl, q5, m5, ha5, hri5, hfi5, hst⟩; have HA5 : Hid (AtJ w g s b (161 + (n + 1)) (N + 1) (f + 11) q5 m5 w5) := ⟨ha5, HA.out.2.1.step hri5 hfi5 hst, (by have := HA.out.2.2.1; omega), (by have := HA.out.2.2.2; omega)⟩; have HS5 : Hid (q5.idle ∨ q5.pot + (n + 1) ≤ 35) := (HA.out.2.1.down hst n HS.out HK0.out).2; have HV5 : Hid (Vs q5 m5) := Vs.round HA.out.2.1 HK3.out hst; clear ha5 hri5 hfi5 hst HA HS HV c66 c0 HK3; go_wp2; go_roundw; (case rel => exact ⟨n + 1, q5, m5, N + 1, f + 11, by omega, by go_num, rfl, HA5.out, HS5.out, HV5.out⟩); (case measure => (simp [intOf]; omega))))))))); (focus (have HA6 : Hid (AtJ w g s b 160 N f q m wr) := ⟨HA.out.1, HA.out.2.1, Nat.le_trans HA.out.2.2.1 (by omega), Nat.le_trans HA.out.2.2.2 (by omega)⟩; clear HA HS; go_wp2_with fail; (refine (alone_step w _ g s b q m N (HA6.out.1.later (by repeat (first | with_reducible exact Below.refl _ _ | with_reducible refine balloc ?_ _ | with_reducible refine bdrew ?_ | with_reducible refine bset' ?_ (by omega) _ | with_reducible refine bthen ?_ (by assumption)))) (by have := HA6.out.2.2.1; omega) f HA6.out.2.1.fit (by have := HA6.out.2.2.2; omega) HA6.out.2.1.ri stSync).mono ?_; rintro e w5 ⟨rfl, q5, m5, ha5, hri5, hfi5, hst⟩; have HA5 : Hid (AtJ w g s b 161 (N + 1) (f + 11) q5 m5 w5) := ⟨ha5, HA6.out.2.1.step hri5 hfi5 hst, (by have := HA6.out.2.2.1; omega), (by have := HA6.out.2.2.2; omega)⟩; have HV5 : Hid (Vs q5 m5) := HA6.out.2.1.sync HK0.out hst; have HS5 : Hid (q5.idle ∨ q5.pot + 0 ≤ 35) := HA5.out.2.1.start; clear ha5 hri5 hfi5 hst HA6 HK0 c66 c0; go_wp2_with fail; (go_loopw [5, 12] (fun o i wr => ∃ (n : Nat) (q : Sk) (m : Am) (N f : Nat), n ≤ 60 ∧ i = .int .i64 n ∧ o = .bool true ∧ AtJ w g s b (161 + n) N f q m wr ∧ (q.idle ∨ q.pot + n ≤ 35) ∧ Vs q m) (fun _ i _ => 60 - (intOf i).toNat)); (case atStart => exact ⟨0, q5, m5, N + 1, f + 11, by omega, rfl, rfl, HA5.out, HS5.out, HV5.out⟩); (case round => (obtain ⟨n, q, m, N, f, hn, rfl, rfl, ha, hs, hv⟩ := hrel; clear HA5 HS5 HV5; have HA := hidT ha; have HS := hidT hs; have HV := hidT hv; obtain ⟨c66, c0, hg⟩ := ha.c66; have hkk := HA.out.2.1.ri.kinds.1; clear ha hs hv; by_cases h0 : m.kind = 0; (focus (have HK0 := hidT h0; rw [h0] at c66; clear h0 hkk HS; by_cases h60 : (n : Int) < 60; (focus (go_wp2_with fail; (have HA7 : Hid (AlW w g s b q m N wr) := HA.out.1; have HIN : Hid (Inv q) := HA.out.2.1.ri.ai.inv; have hvv : ((q.client 0).err = 0 ∧ Kn q (fun a s => s = m.now.getD a.toNat ByteArray.empty)) ∨ ((q.client 0).err = 9 ∧ q.dead = true) := (by rcases HV.out with h3 | h3; (focus exact absurd (HK0.out.symm.trans h3) (by omega)); (focus exact h3.2)); clear HA HV HK0; rcases hvv with ⟨he, hk⟩ | ⟨he, hd⟩; (focus (have HKN := hidT hk; clear hk; refine (al_got w _ g s b q m N (HA7.out.later (by repeat (first | with_reducible exact Below.refl _ _ | with_reducible refine balloc ?_ _ | with_reducible refine bdrew ?_ | with_reducible refine bset' ?_ (by omega) _ | with_reducible refine bthen ?_ (by assumption))))).mono ?_; rw [he, show errOf 0 = .nilIface from rfl]; clear he; generalize (q.client 0).got = gt; rintro e w6 ⟨rfl, hb6⟩; have HA8 := hidT ((HA7.out.later (w' := w6) (by repeat (first | with_reducible exact Below.refl _ _ | with_reducible refine balloc ?_ _ | with_reducible refine bdrew ?_ | with_reducible refine bset' ?_ (by omega) _ | with_reducible refine bthen ?_ (by assumption))))); clear hb6 c66 c0 hg HA7; go_wp2_with fail; refine (after_crash w g s b q m N _ (HA8.out.later (by repeat (first | with_reducible exact Below.refl _ _ | with_reducible refine balloc ?_ _ | with_reducible refine bdrew ?_ | with_reducible refine bset' ?_ (by omega) _ | with_reducible refine bthen ?_ (by assumption)))) HIN.out HKN.out kp HKP.out).mono ?_; rintro e w7 ⟨rfl, F, hf7, hm7⟩; have HF7 := hidT hf7; have HM7 := hidT hm7; clear hf7 hm7 HA8 HIN HKN HKP; go_wp2_with fail; (go_loopw [15] (fun i wr => ∃ (j : Nat), j ≤ 32 ∧ i = .int .i64 j ∧ Fd w g s b m N F wr) (fun i _ => 32 - (intOf i).toNat)); (case atStart => exact ⟨0, by omega, rfl, HF7.out⟩); (case round => (obtain ⟨j, hj, rfl, hf⟩ := hrel; have HF := hidT hf; clear hf HF7; by_cases h32 : j = 32; (focus (have h32x : ¬ ((j : Int) < 32) := (by omega); clear h32; go_wp2; go_ret; exact ⟨rfl, HF.out.bel⟩)); (focus (have j32 : j < 32 := (by omega); have j32' : (j : Int) < 32 := (by omega); have jd : decide ((j : Int) < 32) = true := decide_eq_true j32'; obtain ⟨x, hx⟩ : ∃ x, F.getD j ByteArray.empty = x := ⟨_, rfl⟩; have HX := hidT hx; have hm := HM7.out j j32; rw [hx] at hm; obtain ⟨dv, av, R, hd1, hd2, ha3, hb4⟩ := HF.out; have a2 := ha3.cNow j j32; rw [← hm] at a2; have ga := ha3.lt; have q1 : (!x.toList == x.toList) = false := (by simp); clear hx h32 hm hd1 hd2 ha3 hb4; go_wp2_with fail; go_region_held3 (fun w' => w'.cell? ⟨g, 2 + j, none⟩ = some (.string x)) (exact cellB_later' (w := wr) (by repeat (first | with_reducible exact Below.refl _ _ | with_reducible refine balloc ?_ _ | with_reducible refine bdrew ?_ | with_reducible refine bset' ?_ (by omega) _ | with_reducible refine bthen ?_ (by assumption))) a2) (first | (go_at_call 26; refine (fd_peek w _ g s b m N F (HF.out.later (by repeat (first | with_reducible exact Below.refl _ _ | with_reducible refine balloc ?_ _ | with_reducible refine bdrew ?_ | with_reducible refine bset' ?_ (by omega) _ | with_reducible refine bthen ?_ (by assumption)))) j j32 x HX.out).mono ?_; rintro e w8 ⟨rfl, hb8⟩)); all_goals (go_wp2; go_roundw; (case rel => exact ⟨j + 1, by omega, by go_num, HF.out.later (by repeat (first | with_reducible exact Below.refl _ _ | with_reducible refine balloc ?_ _ | with_reducible refine bdrew ?_ | with_reducible refine bset' ?_ (by omega) _ | with_reducible refine bthen ?_ (by assumption)))⟩); (case measure => (simp [intOf]; omega))))))))); (focus (have HDD := hidT hd; clear hd; refine (al_got w _ g s b q m N (HA7.out.later (by repeat (first | with_reducible exact Below.refl _ _ | with_reducible refine balloc ?_ _ | with_reducible refine bdrew ?_ | with_reducible refine bset' ?_ (by omega) _ | with_reducible refine bthen ?_ (by assumption))))).mono ?_; rw [he, show errOf 9 = .iface 89 (.int .i64 9) from rfl]; clear he; generalize (q.client 0).got = gt; rintro e w6 ⟨rfl, hb6⟩; have HA8 := hidT ((HA7.out.later (w' := w6) (by repeat (first | with_reducible exact Below.refl _ _ | with_reducible refine balloc ?_ _ | with_reducible refine bdrew ?_ | with_reducible refine bset' ?_ (by omega) _ | with_reducible refine bthen ?_ (by assumption))))); clear hb6 c66 c0 hg HA7; obtain ⟨_, _, _, h9⟩ := HA8.out; have c0 := h9.al.c0; have hg := h9.al.lt; clear h9; go_wp2_with fail; refine (al_dead w _ g s b q m N (HA8.out.later (by repeat (first | with_reducible exact Below.refl _ _ | with_reducible refine balloc ?_ _ | with_reducible refine bdrew ?_ | with_reducible refine bset' ?_ (by omega) _ | with_reducible refine bthen ?_ (by assumption))))).mono ?_; rw [HDD.out]; rintro e w7 ⟨rfl, rfl⟩; go_wp2; go_ret; exact ⟨rfl, bthen HA8.out.bel (by repeat (first | with_reducible exact Below.refl _ _ | with_reducible refine balloc ?_ _ | with_reducible refine bdrew ?_ | with_reducible refine bset' ?_ (by omega) _ | with_reducible refine bthen ?_ (by assumption)))⟩))))); (focus (go_wp2_with fail; (have HA7 : Hid (AlW w g s b q m N wr) := HA.out.1; have HIN : Hid (Inv q) := HA.out.2.1.ri.ai.inv; have hvv : ((q.client 0).err = 0 ∧ Kn q (fun a s => s = m.now.getD a.toNat ByteArray.empty)) ∨ ((q.client 0).err = 9 ∧ q.dead = true) := (by rcases HV.out with h3 | h3; (focus exact absurd (HK0.out.symm.trans h3) (by omega)); (focus exact h3.2)); clear HA HV HK0; rcases hvv with ⟨he, hk⟩ | ⟨he, hd⟩; (focus (have HKN := hidT hk; clear hk; refine (al_got w _ g s b q m N (HA7.out.later (by repeat (first | with_reducible exact Below.refl _ _ | with_reducible refine balloc ?_ _ | with_reducible refine bdrew ?_ | with_reducible refine bset' ?_ (by omega) _ | with_reducible refine bthen ?_ (by assumption))))).mono ?_; rw [he, show errOf 0 = .nilIface from rfl]; clear he; generalize (q.client 0).got = gt; rintro e w6 ⟨rfl, hb6⟩; have HA8 := hidT ((HA7.out.later (w' := w6) (by repeat (first | with_reducible exact Below.refl _ _ | with_reducible refine balloc ?_ _ | with_reducible refine bdrew ?_ | with_reducible refine bset' ?_ (by omega) _ | with_reducible refine bthen ?_ (by assumption))))); clear hb6 c66 c0 hg HA7; go_wp2_with fail; refine (after_crash w g s b q m N _ (HA8.out.later (by repeat (first | with_reducible exact Below.refl _ _ | with_reducible refine balloc ?_ _ | with_reducible refine bdrew ?_ | with_reducible refine bset' ?_ (by omega) _ | with_reducible refine bthen ?_ (by assumption)))) HIN.out HKN.out kp HKP.out).mono ?_; rintro e w7 ⟨rfl, F, hf7, hm7⟩; have HF7 := hidT hf7; have HM7 := hidT hm7; clear hf7 hm7 HA8 HIN HKN HKP; go_wp2_with fail; (go_loopw [15] (fun i wr => ∃ (j : Nat), j ≤ 32 ∧ i = .int .i64 j ∧ Fd w g s b m N F wr) (fun i _ => 32 - (intOf i).toNat)); (case atStart => exact ⟨0, by omega, rfl, HF7.out⟩); (case round => (obtain ⟨j, hj, rfl, hf⟩ := hrel; have HF := hidT hf; clear hf HF7; by_cases h32 : j = 32; (focus (have h32x : ¬ ((j : Int) < 32) := (by omega); clear h32; go_wp2; go_ret; exact ⟨rfl, HF.out.bel⟩)); (focus (have j32 : j < 32 := (by omega); have j32' : (j : Int) < 32 := (by omega); have jd : decide ((j : Int) < 32) = true := decide_eq_true j32'; obtain ⟨x, hx⟩ : ∃ x, F.getD j ByteArray.empty = x := ⟨_, rfl⟩; have HX := hidT hx; have hm := HM7.out j j32; rw [hx] at hm; obtain ⟨dv, av, R, hd1, hd2, ha3, hb4⟩ := HF.out; have a2 := ha3.cNow j j32; rw [← hm] at a2; have ga := ha3.lt; have q1 : (!x.toList == x.toList) = false := (by simp); clear hx h32 hm hd1 hd2 ha3 hb4; go_wp2_with fail; go_region_held3 (fun w' => w'.cell? ⟨g, 2 + j, none⟩ = some (.string x)) (exact cellB_later' (w := wr) (by repeat (first | with_reducible exact Below.refl _ _ | with_reducible refine balloc ?_ _ | with_reducible refine bdrew ?_ | with_reducible refine bset' ?_ (by omega) _ | with_reducible refine bthen ?_ (by assumption))) a2) (first | (go_at_call 26; refine (fd_peek w _ g s b m N F (HF.out.later (by repeat (first | with_reducible exact Below.refl _ _ | with_reducible refine balloc ?_ _ | with_reducible refine bdrew ?_ | with_reducible refine bset' ?_ (by omega) _ | with_reducible refine bthen ?_ (by assumption)))) j j32 x HX.out).mono ?_; rintro e w8 ⟨rfl, hb8⟩)); all_goals (go_wp2; go_roundw; (case rel => exact ⟨j + 1, by omega, by go_num, HF.out.later (by repeat (first | with_reducible exact Below.refl _ _ | with_reducible refine balloc ?_ _ | with_reducible refine bdrew ?_ | with_reducible refine bset' ?_ (by omega) _ | with_reducible refine bthen ?_ (by assumption)))⟩); (case measure => (simp [intOf]; omega))))))))); (focus (have HDD := hidT hd; clear hd; refine (al_got w _ g s b q m N (HA7.out.later (by repeat (first | with_reducible exact Below.refl _ _ | with_reducible refine balloc ?_ _ | with_reducible refine bdrew ?_ | with_reducible refine bset' ?_ (by omega) _ | with_reducible refine bthen ?_ (by assumption))))).mono ?_; rw [he, show errOf 9 = .iface 89 (.int .i64 9) from rfl]; clear he; generalize (q.client 0).got = gt; rintro e w6 ⟨rfl, hb6⟩; have HA8 := hidT ((HA7.out.later (w' := w6) (by repeat (first | with_reducible exact Below.refl _ _ | with_reducible refine balloc ?_ _ | with_reducible refine bdrew ?_ | with_reducible refine bset' ?_ (by omega) _ | with_reducible refine bthen ?_ (by assumption))))); clear hb6 c66 c0 hg HA7; obtain ⟨_, _, _, h9⟩ := HA8.out; have c0 := h9.al.c0; have hg := h9.al.lt; clear h9; go_wp2_with fail; refine (al_dead w _ g s b q m N (HA8.out.later (by repeat (first | with_reducible exact Below.refl _ _ | with_reducible refine balloc ?_ _ | with_reducible refine bdrew ?_ | with_reducible refine bset' ?_ (by omega) _ | with_reducible refine bthen ?_ (by assumption))))).mono ?_; rw [HDD.out]; rintro e w7 ⟨rfl, rfl⟩; go_wp2; go_ret; exact ⟨rfl, bthen HA8.out.bel (by repeat (first | with_reducible exact Below.refl _ _ | with_reducible refine balloc ?_ _ | with_reducible refine bdrew ?_ | with_reducible refine bset' ?_ (by omega) _ | with_reducible refine bthen ?_ (by assumption)))⟩))))))); (focus (have hkp1 : (0 : Int) < m.kind := (by omega); have hn35 : n ≤ 35 := (by rcases HS.out with hi | hi; (focus (exact absurd (HA.out.2.1.idle hi) h0)); (focus omega)); have h60 : (n : Int) < 60 := (by omega); have HK0 := hidT h0; have HK3 : Hid (m.kind = 3) := (by rcases HV.out with h3 | h3; (focus exact h3); (focus exact absurd h3.1 h0) : m.kind = 3); clear h0 hkk; go_wp2_with fail; refine (alone_step w _ g s b q m N (HA.out.1.later (by repeat (first | with_reducible exact Below.refl _ _ | with_reducible refine balloc ?_ _ | with_reducible refine bdrew ?_ | with_reducible refine bset' ?_ (by omega) _ | with_reducible refine bthen ?_ (by assumption)))) (by have := HA.out.2.2.1; omega) f HA.out.2.1.fit (by have := HA.out.2.2.2; omega) HA.out.2.1.ri stRound).mono ?_; rintro e w5 ⟨rfl, q5, m5, ha5, hri5, hfi5, hst⟩; have HA5 : Hid (AtJ w g s b (161 + (n + 1)) (N + 1) (f + 11) q5 m5 w5) := ⟨ha5, HA.out.2.1.step hri5 hfi5 hst, (by have := HA.out.2.2.1; omega), (by have := HA.out.2.2.2; omega)⟩; have HS5 : Hid (q5.idle ∨ q5.pot + (n + 1) ≤ 35) := (HA.out.2.1.down hst n HS.out HK0.out).2; have HV5 : Hid (Vs q5 m5) := Vs.round HA.out.2.1 HK3.out hst; clear ha5 hri5 hfi5 hst HA HS HV c66 c0 HK3; go_wp2; go_roundw; (case rel => exact ⟨n + 1, q5, m5, N + 1, f + 11, by omega, by go_num, rfl, HA5.out, HS5.out, HV5.out⟩); (case measure => (simp [intOf]; omega))))))))))); (focus (have hkp1 : (0 : Int) < m.kind := (by omega); have hn35 : n ≤ 35 := (by rcases HS.out with hi | hi; (focus (exact absurd (HA.out.2.1.idle hi) h0)); (focus omega)); have h60 : (n : Int) < 60 := (by omega); have HK0 := hidT h0; clear h0 hkk; go_wp2_with fail; refine (alone_step w _ g s b q m N (HA.out.1.later (by repeat (first | with_reducible exact Below.refl _ _ | with_reducible refine balloc ?_ _ | with_reducible refine bdrew ?_ | with_reducible refine bset' ?_ (by omega) _ | with_reducible refine bthen ?_ (by assumption)))) (by have := HA.out.2.2.1; omega) f HA.out.2.1.fit (by have := HA.out.2.2.2; omega) HA.out.2.1.ri stRound).mono ?_; rintro e w5 ⟨rfl, q5, m5, ha5, hri5, hfi5, hst⟩; have HA5 : Hid (AtJ w g s b (100 + (n + 1)) (N + 1) (f + 11) q5 m5 w5) := ⟨ha5, HA.out.2.1.step hri5 hfi5 hst, (by have := HA.out.2.2.1; omega), (by have := HA.out.2.2.2; omega)⟩; have HS5 : Hid (q5.idle ∨ q5.pot + (n + 1) ≤ 35) := (HA.out.2.1.down hst n HS.out HK0.out).2; clear ha5 hri5 hfi5 hst HA HS c66 c0; go_wp2; go_roundw; (case rel => exact ⟨n + 1, q5, m5, N + 1, f + 11, by omega, by go_num, HA5.out, HS5.out⟩); (case measure => (simp [intOf]; omega))))))
end Go.Proofs.YtgjkdhedkbkagaaGreat
