/- A stack of all: a read ends well; a round; so many rounds. -/
import Derived.Test.YtgjkdhedkbkagaaGreatJ38
namespace Go.Proofs.YtgjkdhedkbkagaaGreat
open Go.RowKit
set_option maxRecDepth 100000

/-- How much is left of a client while the sectors of a request that was read are told, from the n-th on. -/
def wtR (Q : List Rq) (h : List Bf) (r : Rq) (n : Nat) (c : Cl) : Nat := if c.kind = 2 then 5 else if c.kind = 1 ∧ (getB h c.pl).isNone = true ∧ readB Q c.pl = false ∧ ¬ (r.f + n ≤ c.pl ∧ c.pl < r.f + r.m) then 1 else 0
theorem wtR_zero (Q : List Rq) (h : List Bf) (r : Rq) (n : Nat) (c : Cl) (hk : c.kind = 0) : wtR Q h r n c = 0 := by
  unfold wtR
  rw [if_neg (by omega), if_neg (by omega)]
theorem wtR_mono {Q : List Rq} {h h' : List Bf} {r : Rq} {n n' : Nat} {c : Cl} (h1 : c.kind = 1 → (getB h' c.pl).isNone = true → (getB h c.pl).isNone = true ∧ (¬ (r.f + n' ≤ c.pl ∧ c.pl < r.f + r.m) → ¬ (r.f + n ≤ c.pl ∧ c.pl < r.f + r.m))) : wtR Q h' r n' c ≤ wtR Q h r n c := by
  unfold wtR
  split
  · omega
  · by_cases h3 : c.kind = 1 ∧ (getB h' c.pl).isNone = true ∧ readB Q c.pl = false ∧ ¬ (r.f + n' ≤ c.pl ∧ c.pl < r.f + r.m)
    · rw [if_pos h3]
      have := h1 h3.1 h3.2.1
      rw [if_pos ⟨h3.1, this.1, h3.2.2.1, this.2 h3.2.2.2⟩]
      omega
    · rw [if_neg h3]; omega
theorem readers_client {p : Sk} (hl : p.cl.length = 3) (F : Int → Bool) (s : ByteArray) (e : Int) {i : Nat} (hi : i < 3) : (p.readers F s e).client i = if (p.client i).kind = 1 ∧ F (p.client i).pl = true then ⟨0, 0, ByteArray.empty, [], s, e⟩ else p.client i := by
  unfold Sk.readers Sk.client
  simp only [List.getD_eq_getElem?_getD, List.getElem?_map, List.getElem?_eq_getElem (show i < p.cl.length by omega), Option.map_some, Option.getD_some]
/-- One sector is told. -/
theorem read_one {p : Sk} (hI : Inv p) (hS : Seen p) (r : Rq) (n : Nat) (s : ByteArray) : Seen (p.wasRead (r.f + n) s) ∧ (∀ i, i < 3 → wtR (p.wasRead (r.f + n) s).all (p.wasRead (r.f + n) s).hand r (n + 1) ((p.wasRead (r.f + n) s).client i) ≤ wtR p.all p.hand r n (p.client i)) ∧ sumB (wtB (p.wasRead (r.f + n) s).all) (p.wasRead (r.f + n) s).hand ≤ sumB (wtB p.all) p.hand := by
  rw [wasRead_all]
  have hfin : ∀ (q : Sk), q.cl = p.cl → (∀ c : Cl, c.kind = 1 → ¬ c.pl = r.f + n → ∀ i, i < 3 → p.client i = c → getB q.hand c.pl = getB p.hand c.pl) → ∀ i, i < 3 → wtR p.all q.hand r (n + 1) ((q.readers (fun x => x == r.f + n) s 0).client i) ≤ wtR p.all p.hand r n (p.client i) := by
    intro q hq hg i hi
    rw [readers_client (by rw [hq]; exact hI.cl3) _ _ _ hi, client_cl hq]
    by_cases hc : (p.client i).kind = 1 ∧ ((p.client i).pl == r.f + n) = true
    · rw [if_pos hc, wtR_zero _ _ _ _ _ rfl]; omega
    · rw [if_neg hc]
      refine wtR_mono (fun hk hn => ?_)
      have hne : ¬ (p.client i).pl = r.f + n := fun e => hc ⟨hk, by simpa using e⟩
      rw [hg _ hk hne i hi rfl] at hn
      exact ⟨hn, fun h1 h2 => h1 ⟨by omega, h2.2⟩⟩
  have hseen : ∀ (q : Sk), q.cl = p.cl → (∀ a, ¬ a = r.f + n → ∀ x, getB q.hand a = some x → getB p.hand a = some x) → Seen (q.readers (fun x => x == r.f + n) s 0) := by
    intro q hq hg i hi hk x hx
    rw [readers_client (by rw [hq]; exact hI.cl3) _ _ _ hi, client_cl hq] at hk hx
    by_cases hc : (p.client i).kind = 1 ∧ ((p.client i).pl == r.f + n) = true
    · rw [if_pos hc] at hk; cases hk
    · rw [if_neg hc] at hk hx
      exact hS i hi hk x (hg _ (fun e => hc ⟨hk, by simpa using e⟩) x hx)
  unfold Sk.wasRead
  cases eg : getB p.hand (r.f + n) with
  | some b =>
    simp only
    refine ⟨hS, fun i _ => wtR_mono (fun _ hn => ⟨hn, fun h1 h2 => ?_⟩), Nat.le_refl _⟩
    by_cases e : (p.client i).pl = r.f + n
    · rw [e, eg] at hn; cases hn
    · exact h1 ⟨by have h3 := h2.1; omega, h2.2⟩
  | none =>
    simp only
    cases ep : putB p.hand ⟨r.f + n, s, false, p.uses + 1⟩ p.held with
    | none =>
      exact ⟨hseen p rfl (fun _ _ x hx => hx), hfin p rfl (fun _ _ _ _ _ _ => rfl), Nat.le_refl _⟩
    | some l =>
      have P := putB_some hI.hand ep
      refine ⟨hseen { p with hand := l, uses := p.uses + 1 } rfl (fun a ha x hx => ?_), hfin { p with hand := l, uses := p.uses + 1 } rfl (fun c hk hne i hi hc => ?_), ?_⟩
      · rcases P.other a ha with e | ⟨e, _⟩
        · rw [← e]; exact hx
        · have hx' : getB l a = some x := hx
          rw [e] at hx'; cases hx'
      · rcases P.other c.pl hne with e | ⟨_, _, y, hy, hyd, _⟩
        · exact e
        · have := hS i hi (by rw [hc]; exact hk) y (by rw [hc]; exact hy)
          rw [this] at hyd; cases hyd
      · have := sumB_put hI.hand.len ep (wtB p.all)
        have h0 : wtB p.all ⟨r.f + n, s, false, p.uses + 1⟩ = 0 := rfl
        show sumB (wtB p.all) l ≤ _
        omega
theorem read_to {p : Sk} (hI : Inv p) (hS : Seen p) (r : Rq) (gr : Good r) (hw : r.wr = false) (xs : List ByteArray) (hx : ∀ j, (xs.getD j ByteArray.empty).size ≤ 4) : ∀ n, n ≤ r.m.toNat → Seen (p.wentTo r xs n) ∧ (∀ i, i < 3 → wtR p.all (p.wentTo r xs n).hand r n ((p.wentTo r xs n).client i) ≤ wtR p.all p.hand r 0 (p.client i)) ∧ sumB (wtB p.all) (p.wentTo r xs n).hand ≤ sumB (wtB p.all) p.hand
  | 0, _ => ⟨hS, fun _ _ => Nat.le_refl _, Nat.le_refl _⟩
  | n + 1, hn => by
    obtain ⟨h1, h2, h3⟩ := read_to hI hS r gr hw xs hx n (by omega)
    have hIn := hI.wentTo r gr xs hx n (by omega)
    rw [wentTo_succ]
    unfold Sk.wentOne
    rw [if_neg (by rw [hw]; exact Bool.false_ne_true)]
    obtain ⟨k1, k2, k3⟩ := read_one hIn h1 r n (xs.getD n ByteArray.empty)
    rw [wasRead_all, wentTo_all] at k2 k3
    exact ⟨k1, fun i hi => Nat.le_trans (k2 i hi) (h2 i hi), Nat.le_trans k3 h3⟩
theorem pot_read {p : Sk} (hI : Inv p) (hS : Seen p) {k : Nat} (hk : k < p.dev.busy.length) (hw : p.dev.busy[k].wr = false) (xs : List ByteArray) (hx : ∀ j, (xs.getD j ByteArray.empty).size ≤ 4) : (((p.took k).did p.dev.busy[k]).wentWell p.dev.busy[k] xs).pot + 1 ≤ p.pot := by
  have hm : p.dev.busy[k] ∈ p.all := List.mem_append_right _ (List.getElem_mem hk)
  have gr := hI.good _ hm
  have hb := gr.bds
  have hI1 := (hI.took k).did p.dev.busy[k]
  have hS1 : Seen ((p.took k).did p.dev.busy[k]) := hS.congr rfl rfl
  have hR := rdN_took hk
  have hRd := fun a => readB_took hk a
  generalize hr : p.dev.busy[k] = r at *
  obtain ⟨k1, k2, k3⟩ := read_to hI1 hS1 r gr hw xs hx r.m.toNat (Nat.le_refl _)
  have ea : (((p.took k).did r).wentWell r xs).all = (p.took k).all := by
    show (Sk.wentTo _ _ _ _).all = _
    rw [wentTo_all, did_all]
  rw [did_all] at k2 k3
  rw [hw] at hR
  simp only [Bool.false_eq_true, if_false] at hR
  have hc : ∀ i, i < 3 → (((p.took k).did r).wentWell r xs).wc i ≤ p.wc i := fun i hi => by
    refine Nat.le_trans ?_ (Nat.le_trans (k2 i hi) ?_)
    · unfold Sk.wc
      rw [ea]
      show wtC _ (Sk.wentTo _ _ _ _).hand (Sk.client (Sk.wentTo _ _ _ _) _) ≤ wtR _ (Sk.wentTo _ _ _ _).hand _ _ (Sk.client (Sk.wentTo _ _ _ _) _)
      unfold wtC wtR
      split
      · omega
      · split
        · rename_i h
          rw [if_pos ⟨h.1, h.2.1, h.2.2, fun h' => by have := h'.1; have := h'.2; omega⟩]; omega
        · omega
    · show wtR _ p.hand r 0 (p.client i) ≤ _
      unfold wtR Sk.wc wtC
      split
      · omega
      · split
        · rename_i h
          rw [if_pos]
          · omega
          · refine ⟨h.1, h.2.1, ?_⟩
            rw [hRd, h.2.2.1, hw]
            cases e : onB r (p.client i).pl
            · rfl
            · exact absurd (onB_iff.1 e) (fun h' => h.2.2.2 ⟨by have := h'.1; omega, h'.2⟩)
        · omega
  have h0 := hc 0 (by omega)
  have h1 := hc 1 (by omega)
  have h2 := hc 2 (by omega)
  have hH : sumB (wtB (p.took k).all) (((p.took k).did r).wentWell r xs).hand ≤ sumB (wtB p.all) p.hand := Nat.le_trans k3 (sumB_le (fun x _ => wtB_mono (stale_took k)))
  unfold Sk.pot
  rw [ea]
  omega
/-! ### a round -/
def Sk.idle (p : Sk) : Prop := p.quiet = true ∧ (dirtyB p.hand < 3 ∨ p.dead = true)
theorem clean_queue {p : Sk} (h : p.clean.1 = true) : p.clean.2.queue ≠ [] := by
  unfold Sk.clean at h ⊢
  split at h
  · cases h
  · rename_i h1
    rw [if_neg h1]
    split at h
    · cases h
    · rename_i h2
      rw [if_neg h2]
      rcases askQ_cases (p := p) (pickB p.hand p.held) true [((getB p.hand (pickB p.hand p.held)).getD ⟨0, ByteArray.empty, false, 0⟩).data] with ⟨_, e⟩ | ⟨L, e1, e⟩
      · rw [e] at h; cases h
      · rw [e]; exact addF_ne e1
theorem dispatches_busy {p : Sk} (hI : Inv p) (n : Nat) (h : (p.dispatches (n + 1)).dev.busy = []) : p.queue = [] ∧ p.dev.busy = [] ∧ p.dispatches (n + 1) = p := by
  have grow : ∀ (m : Nat) (q : Sk), Inv q → q.dev.busy ≠ [] → (q.dispatches m).dev.busy ≠ [] := by
    intro m
    induction m with
    | zero => intro q _ h; exact h
    | succ m ih =>
      intro q hq h
      unfold Sk.dispatches
      split
      · refine ih _ hq.dispatch ?_
        rcases dispatch_cases hq with ⟨_, e⟩ | ⟨i, hi, T, _, _, _, _, e⟩
        · rw [e]; exact h
        · rw [e]; simp
      · exact h
  have hb : p.dev.busy = [] := by
    by_cases e : p.dev.busy = []
    · exact e
    · exact absurd h (grow (n + 1) p hI e)
  unfold Sk.dispatches at h ⊢
  rcases dispatch_cases hI with ⟨h1, e⟩ | ⟨i, hi, T, _, _, _, _, e⟩
  · rw [e] at h ⊢
    rw [if_neg Bool.false_ne_true] at h ⊢
    refine ⟨?_, hb, rfl⟩
    rcases h1 with h1 | h1
    · exact h1
    · rw [hb] at h1; simp at h1
  · rw [e, if_pos rfl] at h
    have hI2 := hI.dispatch
    rw [e] at hI2
    exact absurd h (grow n _ hI2 (by simp))
theorem round_down {n : Nat} {p : Sk} (h : Firm n p) : p.round.idle ∨ p.round.pot + 1 ≤ p.pot := by
  have f1 := h.fit.tick
  have f2 := f1.clean
  have f3 := f2.dispatches 3
  have t3 := Tight.dispatches 3 f2.inv (Tight.clean f1.inv (Tight.tick h.fit.inv h.tight))
  have hpot : (p.tick.clean.2.dispatches 3).pot ≤ p.pot := by
    rw [pot_dispatches 3 f2.inv]
    exact Nat.le_trans (pot_clean f1.inv) (pot_tick h.fit.inv)
  have seen3 : Seen (p.tick.clean.2.dispatches 3) := by
    have s1 : Seen p.tick := seen_serve (tick_inv h.fit.inv)
    exact (s1.congr (clean_hand p.tick).2 (clean_hand p.tick).1).congr (dispatches_hand 3 _).2 (dispatches_hand 3 _).1
  by_cases hb : (p.tick.clean.2.dispatches 3).dev.busy = []
  · left
    obtain ⟨hq2, hb2, e3⟩ := dispatches_busy f2.inv 2 hb
    have hc : p.tick.clean.1 = false := by
      cases e : p.tick.clean.1
      · rfl
      · exact absurd hq2 (clean_queue e)
    have e2 := clean_no_same hc
    rw [e2] at hq2 hb2 e3
    have er : p.round = p.tick := by
      show ((p.tick.clean.2.dispatches 3).end' 0 false).2 = _
      rw [e2, e3]
      unfold Sk.end'
      rw [if_neg (by omega)]
      have : p.tick.dev.busy[(0 : Int).toNat]? = none := by rw [hb2]; rfl
      rw [this]
    rw [er]
    have hb0 : p.dev.busy = [] := by
      rcases (mild_serve ({ p with moment := if p.moment + 1 < 1000000000 then p.moment + 1 else 1000000000 } : Sk)).dev with e | e
      · have : p.tick.dev.busy = p.dev.busy := by show (Sk.serve _).dev.busy = _; rw [e]
        rw [← this]; exact hb2
      · have : p.tick.dev.busy = p.dev.busy := by show (Sk.serve _).dev.busy = _; rw [e]; rfl
        rw [← this]; exact hb2
    have hq0 : ({ p with moment := if p.moment + 1 < 1000000000 then p.moment + 1 else 1000000000 } : Sk).queue = [] := by
      by_cases e : p.queue = []
      · exact e
      · exact absurd hq2 (serve_queue_ne (p := { p with moment := if p.moment + 1 < 1000000000 then p.moment + 1 else 1000000000 }) e)
    rcases serve_stuck (tick_inv h.fit.inv) hq0 hb0 hq2 with h1 | ⟨h1, h2, h3⟩
    · refine ⟨(quiet_iff _).2 ⟨h1, hq2, hb2⟩, ?_⟩
      by_cases hd : dirtyB p.tick.hand < 3
      · exact Or.inl hd
      · right
        cases e : p.tick.dead
        · have := cleanQ_yes f1.inv hq2 hb2 e (by omega) (Or.inl (by omega))
          rw [this] at hc; cases hc
        · rfl
    · have := cleanQ_yes f1.inv hq2 hb2 h1 h2 (Or.inr h3)
      rw [this] at hc; cases hc
  · right
    have hk : 0 < (p.tick.clean.2.dispatches 3).dev.busy.length := List.length_pos_iff.2 hb
    show ((p.tick.clean.2.dispatches 3).end' 0 false).2.pot + 1 ≤ p.pot
    generalize hq : p.tick.clean.2.dispatches 3 = q at *
    rcases end_cases q 0 false with ⟨h1, _⟩ | ⟨k, hk', e0, ⟨_, e⟩ | ⟨h1, _⟩ | ⟨h1, _⟩ | ⟨h1, _⟩⟩
    · omega
    · rw [e]
      have gr := f3.inv.good _ (List.mem_append_right _ (List.getElem_mem hk'))
      have hIw := ((f3.inv.took k).did q.dev.busy[k]).wentTo q.dev.busy[k] gr (didRead q.dev q.dev.busy[k]) (didRead_short f3.short _) _ (Nat.le_refl _)
      have hs := pot_serve hIw
      have hp : (((q.took k).did q.dev.busy[k]).wentWell q.dev.busy[k] (didRead q.dev q.dev.busy[k])).pot + 1 ≤ q.pot := by
        cases hw : q.dev.busy[k].wr
        · exact pot_read f3.inv seen3 hk' hw _ (didRead_short f3.short _)
        · exact pot_wrote f3.inv t3 hk' hw _
      have hs' : (((q.took k).did q.dev.busy[k]).wentWell q.dev.busy[k] (didRead q.dev q.dev.busy[k])).serve.pot ≤ (((q.took k).did q.dev.busy[k]).wentWell q.dev.busy[k] (didRead q.dev q.dev.busy[k])).pot := hs
      show (((q.took k).did q.dev.busy[k]).wentWell q.dev.busy[k] (didRead q.dev q.dev.busy[k])).serve.pot + 1 ≤ p.pot
      omega
    · cases h1
    · cases h1
    · cases h1
theorem pot_bound {n : Nat} {p : Sk} (h : Fit n p) : p.pot ≤ 35 := by
  have hd := h.inv.d6
  have hq := h.inv.q6
  have hb := h.inv.b2
  have h0 : p.wc 0 ≤ 5 := wtC_le _ _ _
  have h1 : p.wc 1 ≤ 5 := wtC_le _ _ _
  have h2 : p.wc 2 ≤ 5 := wtC_le _ _ _
  have hr : rdN p.all ≤ 8 := by
    have : rdN p.all ≤ p.all.length := List.countP_le_length
    have e : p.all.length = p.queue.length + p.dev.busy.length := List.length_append
    omega
  have hh : sumB (wtB p.all) p.hand ≤ 2 * dirtyB p.hand := by
    have : ∀ l : List Bf, sumB (wtB p.all) l ≤ 2 * dirtyB l := fun l => by
      induction l with
      | nil => exact Nat.le_refl _
      | cons x l ih =>
        rw [sumB_cons]
        have hx : wtB p.all x ≤ if x.dirty = true then 2 else 0 := by unfold wtB; split; split <;> omega; omega
        have e : dirtyB (x :: l) = dirtyB l + if x.dirty = true then 1 else 0 := by rw [dirtyB_count, dirtyB_count, List.countP_cons]
        rw [e]
        split at hx
        · rename_i h'; rw [if_pos h']; omega
        · rename_i h'; rw [if_neg h']; omega
    exact this p.hand
  unfold Sk.pot
  omega
end Go.Proofs.YtgjkdhedkbkagaaGreat
/- Who asks alone: what is read is what was written last, in what a stack has. -/
namespace Go.Proofs.YtgjkdhedkbkagaaGreat
open Go.RowKit
set_option maxRecDepth 100000

/-- What a disk has of a sector. -/
def Dl.hasI (d : Dl) (a : Int) : ByteArray := if 0 ≤ a then d.has a.toNat else ByteArray.empty
/-- What a sector has, for who asks: what is at hand, else what the disk has. -/
def Sk.val (p : Sk) (a : Int) : ByteArray := match getB p.hand a with | some x => x.data | none => p.dev.hasI a
theorem val_hand {p : Sk} {a : Int} {x : Bf} (h : getB p.hand a = some x) : p.val a = x.data := by unfold Sk.val; rw [h]
theorem val_disk {p : Sk} {a : Int} (h : getB p.hand a = none) : p.val a = p.dev.hasI a := by unfold Sk.val; rw [h]
/-- Only the first client asks; what is clean at hand is what the disk has. -/
structure AI (p : Sk) : Prop where
  inv : Inv p
  tight : Tight p
  only : ∀ i, i < 3 → i ≠ 0 → (p.client i).kind = 0
  same : ∀ a x, getB p.hand a = some x → x.dirty = false → x.data = p.dev.hasI a
def SameCl (c c' : Cl) : Prop := c'.kind = c.kind ∧ c'.pl = c.pl ∧ c'.data = c.data ∧ c'.got = c.got ∧ c'.err = c.err
theorem SameCl.refl (c : Cl) : SameCl c c := ⟨rfl, rfl, rfl, rfl, rfl⟩
/-- What a call makes of the one who asks alone. -/
def AEff (p q : Sk) : Prop :=
  (SameCl (p.client 0) (q.client 0) ∧ ∀ a, q.val a = p.val a) ∨
  ((p.client 0).kind = 1 ∧ (q.client 0).kind = 0 ∧ (((q.client 0).err = 0 ∧ (q.client 0).got = p.val (p.client 0).pl) ∨ (q.client 0).err = 8) ∧ ∀ a, q.val a = p.val a) ∨
  ((p.client 0).kind = 2 ∧ (q.client 0).kind = 0 ∧ (q.client 0).err = 0 ∧ ∀ a, q.val a = if a = (p.client 0).pl then (p.client 0).data else p.val a) ∨
  (((p.client 0).kind = 2 ∨ (p.client 0).kind = 3) ∧ (q.client 0).kind = 0 ∧ (q.client 0).err = 9 ∧ q.dead = true ∧ ∀ a, q.val a = p.val a) ∨
  ((p.client 0).kind = 3 ∧ (q.client 0).kind = 0 ∧ (q.client 0).err = 0 ∧ ∀ a, q.val a = p.val a)
theorem AEff.still {p q : Sk} (hc : SameCl (p.client 0) (q.client 0)) (hv : ∀ a, q.val a = p.val a) : AEff p q := Or.inl ⟨hc, hv⟩
theorem AEff.read {p q : Sk} (hk : (p.client 0).kind = 1) (h0 : (q.client 0).kind = 0) (ha : ((q.client 0).err = 0 ∧ (q.client 0).got = p.val (p.client 0).pl) ∨ (q.client 0).err = 8) (hv : ∀ a, q.val a = p.val a) : AEff p q := Or.inr (Or.inl ⟨hk, h0, ha, hv⟩)
theorem AEff.wrote {p q : Sk} (hk : (p.client 0).kind = 2) (h0 : (q.client 0).kind = 0) (he : (q.client 0).err = 0) (hv : ∀ a, q.val a = if a = (p.client 0).pl then (p.client 0).data else p.val a) : AEff p q := Or.inr (Or.inr (Or.inl ⟨hk, h0, he, hv⟩))
theorem AEff.dead {p q : Sk} (hk : (p.client 0).kind = 2 ∨ (p.client 0).kind = 3) (h0 : (q.client 0).kind = 0) (he : (q.client 0).err = 9) (hd : q.dead = true) (hv : ∀ a, q.val a = p.val a) : AEff p q := Or.inr (Or.inr (Or.inr (Or.inl ⟨hk, h0, he, hd, hv⟩)))
theorem AEff.synced {p q : Sk} (hk : (p.client 0).kind = 3) (h0 : (q.client 0).kind = 0) (he : (q.client 0).err = 0) (hv : ∀ a, q.val a = p.val a) : AEff p q := Or.inr (Or.inr (Or.inr (Or.inr ⟨hk, h0, he, hv⟩)))
theorem AEff.refl (p : Sk) : AEff p p := .still (SameCl.refl _) (fun _ => rfl)
theorem AEff.idle {p q : Sk} (h : AEff p q) (hk : (p.client 0).kind = 0) : SameCl (p.client 0) (q.client 0) ∧ ∀ a, q.val a = p.val a := by
  rcases h with ⟨hc, hv⟩ | ⟨h, _⟩ | ⟨h, _⟩ | ⟨h, _⟩ | ⟨h, _⟩
  · exact ⟨hc, hv⟩
  · rw [hk] at h; cases h
  · rw [hk] at h; cases h
  · rw [hk] at h; rcases h with h | h <;> cases h
  · rw [hk] at h; cases h
theorem AEff.trans {p q r : Sk} (h : AEff p q) (k : AEff q r) (hd : q.dead = true → r.dead = true) : AEff p r := by
  rcases h with ⟨hc, hv⟩ | ⟨hk, h0, ha, hv⟩ | ⟨hk, h0, he, hv⟩ | ⟨hk, h0, he, hdd, hv⟩ | ⟨hk, h0, he, hv⟩
  · obtain ⟨c1, c2, c3, c4, c5⟩ := hc
    rcases k with ⟨kc, kv⟩ | ⟨k1, k0, ka, kv⟩ | ⟨k1, k0, ke, kv⟩ | ⟨k1, k0, ke, kd, kv⟩ | ⟨k1, k0, ke, kv⟩
    · exact .still ⟨kc.1.trans c1, kc.2.1.trans c2, kc.2.2.1.trans c3, kc.2.2.2.1.trans c4, kc.2.2.2.2.trans c5⟩ (fun a => (kv a).trans (hv a))
    · exact .read (c1.symm.trans k1) k0 (by rw [c2, hv] at ka; exact ka) (fun a => (kv a).trans (hv a))
    · exact .wrote (c1.symm.trans k1) k0 ke (fun a => by rw [kv, c2, c3, hv])
    · exact .dead (by rw [c1] at k1; exact k1) k0 ke kd (fun a => (kv a).trans (hv a))
    · exact .synced (c1.symm.trans k1) k0 ke (fun a => (kv a).trans (hv a))
  · obtain ⟨kc, kv⟩ := k.idle h0
    exact .read hk (kc.1.trans h0) (by rw [kc.2.2.2.1, kc.2.2.2.2]; exact ha) (fun a => (kv a).trans (hv a))
  · obtain ⟨kc, kv⟩ := k.idle h0
    exact .wrote hk (kc.1.trans h0) (kc.2.2.2.2.trans he) (fun a => (kv a).trans (hv a))
  · obtain ⟨kc, kv⟩ := k.idle h0
    exact .dead hk (kc.1.trans h0) (kc.2.2.2.2.trans he) (hd hdd) (fun a => (kv a).trans (hv a))
  · obtain ⟨kc, kv⟩ := k.idle h0
    exact .synced hk (kc.1.trans h0) (kc.2.2.2.2.trans he) (fun a => (kv a).trans (hv a))
section
variable {p : Sk}
/-- A Put: of the others what is there stays. -/
theorem put_val (h : AI p) {x : Bf} {m : List Bf} (hp : putB p.hand x p.held = some m) {q : Sk} (hh : q.hand = m) (hd : q.dev.now = p.dev.now) : (∀ a, q.val a = if a = x.pl then x.data else p.val a) ∧ ((x.dirty = false → x.data = p.dev.hasI x.pl) → ∀ a y, getB q.hand a = some y → y.dirty = false → y.data = q.dev.hasI a) := by
  have P := putB_some h.inv.hand hp
  have hdev : ∀ k, q.dev.hasI k = p.dev.hasI k := fun k => by unfold Dl.hasI Dl.has; rw [hd]
  refine ⟨fun a => ?_, fun hx a y hy hyd => ?_⟩
  · by_cases e : a = x.pl
    · rw [if_pos e, e]
      exact val_hand (by rw [hh]; exact P.same)
    · rw [if_neg e]
      rcases P.other a e with e1 | ⟨e1, _, y, hy, hyd, _⟩
      · unfold Sk.val; rw [hh, e1, hdev]
      · rw [val_disk (by rw [hh]; exact e1), val_hand hy, h.same a y hy hyd, hdev]
  · rw [hh] at hy
    by_cases e : a = x.pl
    · rw [e, P.same] at hy
      obtain rfl := Option.some.inj hy
      rw [hdev, e]; exact hx hyd
    · rcases P.other a e with e1 | ⟨e1, _⟩
      · rw [e1] at hy; rw [hdev]; exact h.same a y hy hyd
      · rw [e1] at hy; cases hy
theorem map_val (h : AI p) (g : Bf → Bf) (hg : ∀ x, (g x).pl = x.pl ∧ (g x).data = x.data ∧ (g x).dirty = x.dirty) {q : Sk} (hh : q.hand = p.hand.map g) (hd : q.dev.now = p.dev.now) : (∀ a, q.val a = p.val a) ∧ ∀ a y, getB q.hand a = some y → y.dirty = false → y.data = q.dev.hasI a := by
  have hdev : ∀ k, q.dev.hasI k = p.dev.hasI k := fun k => by unfold Dl.hasI Dl.has; rw [hd]
  have hf := fun a => map_find p.hand g (fun x => (hg x).1) a
  refine ⟨fun a => ?_, fun a y hy hyd => ?_⟩
  · unfold Sk.val
    rw [hh, hf, hdev]
    cases getB p.hand a with
    | none => rfl
    | some x => exact (hg x).2.1
  · rw [hh, hf] at hy
    obtain ⟨x, hx, rfl⟩ := Option.map_eq_some_iff.1 hy
    rw [(hg x).2.1, hdev]
    exact h.same a x hx ((hg x).2.2.symm.trans hyd)
theorem same_val {q : Sk} (hh : q.hand = p.hand) (hd : q.dev.now = p.dev.now) : ∀ a, q.val a = p.val a := fun a => by unfold Sk.val Dl.hasI Dl.has; rw [hh, hd]
theorem same_same (h : AI p) {q : Sk} (hh : q.hand = p.hand) (hd : q.dev.now = p.dev.now) : ∀ a y, getB q.hand a = some y → y.dirty = false → y.data = q.dev.hasI a := fun a y hy hyd => by
  rw [hh] at hy; unfold Dl.hasI Dl.has; rw [hd]; exact h.same a y hy hyd
theorem serve1_none {q : Sk} {i : Nat} (hk : (q.client i).kind = 0) : q.serve1 i = q := by
  unfold Sk.serve1
  rw [hk, if_neg (by omega), if_neg (by omega), if_neg (by omega)]
theorem serve_alone (h : AI p) : p.serve = p.serve1 0 := by
  have k1 : ((p.serve1 0).client 1).kind = 0 := by rw [serve1_other p (by omega)]; exact h.only 1 (by omega) (by omega)
  have k2 : ((p.serve1 0).client 2).kind = 0 := by rw [serve1_other p (by omega)]; exact h.only 2 (by omega) (by omega)
  show ((p.serve1 0).serve1 1).serve1 2 = _
  rw [serve1_none k1, serve1_none k2]
theorem alone_serve (h : AI p) : AI p.serve ∧ AEff p p.serve := by
  have hI := h.inv
  have hT := h.tight
  have hI2 := hI.serve
  have hT2 := Tight.serve hI hT
  have honly : ∀ i, i < 3 → i ≠ 0 → (p.serve.client i).kind = 0 := fun i hi h0 => by
    rw [serve_alone h, serve1_other p h0]; exact h.only i hi h0
  rw [serve_alone h] at hI2 hT2 honly ⊢
  have hans : ∀ (q : Sk) (s : ByteArray) (e : Int), q.cl.length = 3 → ((q.answer 0 s e).client 0) = ⟨0, 0, ByteArray.empty, [], s, e⟩ := fun q s e hq => answer_client q hq (by omega) s e
  have hk := (hI.client 0).kind
  have done : ∀ q : Sk, q = p.serve1 0 → (∀ a y, getB q.hand a = some y → y.dirty = false → y.data = q.dev.hasI a) → AEff p q → AI (p.serve1 0) ∧ AEff p (p.serve1 0) := fun q e h1 h2 => by
    subst e; exact ⟨⟨hI2, hT2, honly, h1⟩, h2⟩
  by_cases k1 : (p.client 0).kind = 1
  · cases eg : getB p.hand (p.client 0).pl with
    | some b =>
      have es : p.serve1 0 = ({ p with uses := p.uses + 1, hand := useL p.hand (p.client 0).pl (p.uses + 1) } : Sk).answer 0 b.data 0 := by
        unfold Sk.serve1 Sk.serveRead; rw [if_pos k1, eg]
      have hm := map_val h (fun x => if x.pl = (p.client 0).pl then { x with used := p.uses + 1 } else x) (fun x => by split <;> exact ⟨rfl, rfl, rfl⟩) (q := p.serve1 0) (by rw [es]; rfl) (by rw [es]; rfl)
      refine done _ rfl hm.2 (.read k1 ?_ (Or.inl ⟨?_, ?_⟩) hm.1)
      · rw [es, hans _ _ _ (by exact hI.cl3)]
      · rw [es, hans _ _ _ (by exact hI.cl3)]
      · rw [es, hans _ _ _ (by exact hI.cl3), val_hand eg]
    | none =>
      by_cases hh : p.held (p.client 0).pl = true
      · have es : p.serve1 0 = p := by unfold Sk.serve1 Sk.serveRead; rw [if_pos k1, eg]; simp only; rw [if_pos hh]
        rw [es]; exact ⟨h, AEff.refl p⟩
      · have es : p.serve1 0 = (p.askQ (p.client 0).pl false []).2 := by unfold Sk.serve1 Sk.serveRead; rw [if_pos k1, eg]; simp only; rw [if_neg hh]
        have e1 : (p.serve1 0).hand = p.hand := by rw [es]; rcases askQ_cases (p := p) (p.client 0).pl false [] with ⟨_, e⟩ | ⟨L, _, e⟩ <;> rw [e]
        have e2 : (p.serve1 0).dev = p.dev := by rw [es]; rcases askQ_cases (p := p) (p.client 0).pl false [] with ⟨_, e⟩ | ⟨L, _, e⟩ <;> rw [e]
        have e3 : (p.serve1 0).client 0 = p.client 0 := by rw [es]; exact client_cl (askQ_cl p _ _ _) 0
        exact done _ rfl (same_same h e1 (by rw [e2])) (.still (by rw [e3]; exact SameCl.refl _) (same_val e1 (by rw [e2])))
  by_cases k2 : (p.client 0).kind = 2
  · have eu : p.serve1 0 = p.serveWrite 0 := by unfold Sk.serve1; rw [if_neg k1, if_pos k2]
    unfold Sk.serveWrite at eu
    by_cases hd : p.dead = true
    · rw [if_pos hd] at eu
      refine done _ rfl (same_same h (by rw [eu]; rfl) (by rw [eu]; rfl)) (.dead (Or.inl k2) ?_ ?_ (by rw [eu]; exact hd) (same_val (by rw [eu]; rfl) (by rw [eu]; rfl)))
      · rw [eu, hans _ _ _ hI.cl3]
      · rw [eu, hans _ _ _ hI.cl3]
    rw [if_neg hd] at eu
    by_cases h6 : 6 ≤ dirtyB p.hand ∧ isDirtyB p.hand (p.client 0).pl = false
    · rw [if_pos h6] at eu
      rw [eu]; exact ⟨h, AEff.refl p⟩
    rw [if_neg h6] at eu
    cases ep : putB p.hand ⟨(p.client 0).pl, (p.client 0).data, true, p.uses + 1⟩ p.held with
    | none =>
      rw [ep] at eu
      simp only at eu
      refine done _ rfl (same_same h (by rw [eu]) (by rw [eu])) (.still ?_ (same_val (by rw [eu]) (by rw [eu])))
      rw [show (p.serve1 0).client 0 = p.client 0 by rw [eu]; rfl]; exact SameCl.refl _
    | some m =>
      rw [ep] at eu
      simp only at eu
      have hm := put_val h ep (q := p.serve1 0) (by rw [eu]; rfl) (by rw [eu]; rfl)
      refine done _ rfl (hm.2 (fun e => by cases e)) (.wrote k2 ?_ ?_ hm.1)
      · rw [eu, hans _ _ _ (by exact hI.cl3)]
      · rw [eu, hans _ _ _ (by exact hI.cl3)]
  by_cases k3 : (p.client 0).kind = 3
  · have eu : p.serve1 0 = p.serveSync 0 := by unfold Sk.serve1; rw [if_neg k1, if_neg k2, if_pos k3]
    unfold Sk.serveSync at eu
    by_cases hd : p.dead = true
    · rw [if_pos hd] at eu
      refine done _ rfl (same_same h (by rw [eu]; rfl) (by rw [eu]; rfl)) (.dead (Or.inr k3) ?_ ?_ (by rw [eu]; exact hd) (same_val (by rw [eu]; rfl) (by rw [eu]; rfl)))
      · rw [eu, hans _ _ _ hI.cl3]
      · rw [eu, hans _ _ _ hI.cl3]
    rw [if_neg hd] at eu
    by_cases hl : (p.client 0).left.filter (isDirtyB p.hand) = []
    · rw [if_pos hl] at eu
      refine done _ rfl (same_same h (by rw [eu]; rfl) (by rw [eu]; rfl)) (.synced k3 ?_ ?_ (same_val (by rw [eu]; rfl) (by rw [eu]; rfl)))
      · rw [eu, hans _ _ _ (by exact hI.cl3)]
      · rw [eu, hans _ _ _ (by exact hI.cl3)]
    · rw [if_neg hl] at eu
      refine done _ rfl (same_same h (by rw [eu]) (by rw [eu])) (.still ?_ (same_val (by rw [eu]) (by rw [eu])))
      rw [eu, clientSet p hI.cl3 (by omega), if_pos rfl]
      exact ⟨rfl, rfl, rfl, rfl, rfl⟩
  · have es : p.serve1 0 = p := by unfold Sk.serve1; rw [if_neg k1, if_neg k2, if_neg k3]
    rw [es]; exact ⟨h, AEff.refl p⟩
end
end Go.Proofs.YtgjkdhedkbkagaaGreat
/- Who asks alone: what each call makes of it. -/
namespace Go.Proofs.YtgjkdhedkbkagaaGreat
open Go.RowKit
set_option maxRecDepth 100000

theorem writesTo_atP (d : Dl) (l : List Rq) (r : Rq) : ∀ n, (({ d with busy := l } : Dl).writesTo r n).now = (d.writesTo r n).now ∧ ({ d with busy := l } : Dl).writesTo r n = { d.writesTo r n with busy := l }
  | 0 => ⟨rfl, rfl⟩
  | n + 1 => by
    have ih := (writesTo_atP d l r n).2
    rw [Dl.writesTo_succ, Dl.writesTo_succ, ih]
    exact ⟨rfl, rfl⟩
theorem did_atP (d : Dl) (l : List Rq) (r : Rq) : (({ d with busy := l } : Dl).did r).now = (d.did r).now := by
  unfold Dl.did
  split
  · exact (writesTo_atP d l r _).1
  · rfl
theorem Alone.then {p q r : Sk} (h : AI q ∧ AEff p q) (k : AI r ∧ AEff q r) (hd : q.dead = true → r.dead = true) : AI r ∧ AEff p r := ⟨k.1, h.2.trans k.2 hd⟩
theorem alone_still {p q : Sk} (h : AI p) (hI : Inv q) (hT : Tight q) (hc : q.cl = p.cl) (hh : q.hand = p.hand) (hd : q.dev.now = p.dev.now) : AI q ∧ AEff p q :=
  ⟨⟨hI, hT, fun i hi h0 => by rw [client_cl hc]; exact h.only i hi h0, same_same h hh hd⟩, .still (by rw [client_cl hc]; exact SameCl.refl _) (same_val hh hd)⟩
theorem alone_tick {p : Sk} (h : AI p) : AI p.tick ∧ AEff p p.tick :=
  Alone.then (q := { p with moment := if p.moment + 1 < 1000000000 then p.moment + 1 else 1000000000 }) (alone_still h (tick_inv h.inv) (h.tight.congr rfl (fun _ hr => hr)) rfl rfl rfl) (alone_serve ⟨tick_inv h.inv, h.tight.congr rfl (fun _ hr => hr), h.only, h.same⟩) (fun hd => by rw [dead_tick]; exact hd)
theorem clean_dev (p : Sk) : p.clean.2.dev = p.dev := by
  unfold Sk.clean
  split
  · rfl
  split
  · rfl
  · rcases askQ_cases (p := p) (pickB p.hand p.held) true [((getB p.hand (pickB p.hand p.held)).getD ⟨0, ByteArray.empty, false, 0⟩).data] with ⟨_, e⟩ | ⟨L, _, e⟩ <;> rw [e]
theorem alone_clean {p : Sk} (h : AI p) : AI p.clean.2 ∧ AEff p p.clean.2 := alone_still h h.inv.clean (Tight.clean h.inv h.tight) (clean_hand p).2 (clean_hand p).1 (by rw [clean_dev])
theorem dispatch_now (p : Sk) : p.dispatch.2.dev.now = p.dev.now := by
  unfold Sk.dispatch
  split <;> rfl
theorem alone_dispatch {p : Sk} (h : AI p) : AI p.dispatch.2 ∧ AEff p p.dispatch.2 := alone_still h h.inv.dispatch (Tight.dispatch h.inv h.tight) (dispatch_hand p).2 (dispatch_hand p).1 (dispatch_now p)
theorem alone_dispatches (n : Nat) : ∀ {p : Sk}, AI p → AI (p.dispatches n) ∧ AEff p (p.dispatches n) := by
  induction n with
  | zero => intro p h; exact ⟨h, AEff.refl p⟩
  | succ n ih =>
    intro p h
    unfold Sk.dispatches
    split
    · exact Alone.then (alone_dispatch h) (ih (alone_dispatch h).1) (fun hd => by rw [dead_dispatches]; exact hd)
    · exact ⟨h, AEff.refl p⟩
theorem did_hasI {d : Dl} (h32 : d.now.length = 32) {r : Rq} (gr : Good r) (a : Int) : (d.did r).hasI a = if r.wr = true ∧ r.f ≤ a ∧ a < r.f + r.m then dataAt r a else d.hasI a := by
  have hb := gr.bds
  unfold Dl.hasI
  by_cases ha : 0 ≤ a
  · rw [if_pos ha, if_pos ha, did_has d r a.toNat (by omega)]
    have hiff : (r.wr = true ∧ r.f.toNat ≤ a.toNat ∧ a.toNat < r.f.toNat + r.m.toNat) ↔ (r.wr = true ∧ r.f ≤ a ∧ a < r.f + r.m) := by
      constructor
      · rintro ⟨h1, h2, h3⟩; exact ⟨h1, by omega, by omega⟩
      · rintro ⟨h1, h2, h3⟩; exact ⟨h1, by omega, by omega⟩
    by_cases hc : r.wr = true ∧ r.f ≤ a ∧ a < r.f + r.m
    · rw [if_pos (hiff.2 hc), if_pos hc]
      unfold dataAt
      congr 1
      have := hc.2.1
      omega
    · rw [if_neg (fun h => hc (hiff.1 h)), if_neg hc]
  · rw [if_neg ha, if_neg ha, if_neg]
    rintro ⟨_, h1, _⟩
    omega
/-- A request to write went well. -/
theorem alone_wrote {p : Sk} (h : AI p) {k : Nat} (hk : k < p.dev.busy.length) (hw : p.dev.busy[k].wr = true) (xs : List ByteArray) (hx : ∀ j, (xs.getD j ByteArray.empty).size ≤ 4) : AI (((p.took k).did p.dev.busy[k]).wentWell p.dev.busy[k] xs) ∧ AEff p (((p.took k).did p.dev.busy[k]).wentWell p.dev.busy[k] xs) := by
  have hm : p.dev.busy[k] ∈ p.all := List.mem_append_right _ (List.getElem_mem hk)
  have gr := h.inv.good _ hm
  have hb := gr.bds
  have hf := took_freed h.inv hk
  have hI1 := (h.inv.took k).did p.dev.busy[k]
  generalize p.dev.busy[k] = r at *
  have hT1 : Tight ((p.took k).did r) := h.tight.congr rfl (fun r' hr' => by rw [did_all] at hr'; exact took_sub k r' hr')
  have hf1 : Freed ((p.took k).did r) r := by unfold Freed; rw [did_all]; exact hf
  have hI2 := hI1.wentTo r gr xs hx r.m.toNat (Nat.le_refl _)
  have hT2 := Tight.wentTo hI1 hT1 r gr hf1 xs hx r.m.toNat (Nat.le_refl _)
  obtain ⟨e1, e2⟩ := wentTo_wr (p := (p.took k).did r) hw xs r.m.toNat
  have ed : (((p.took k).did r).wentTo r xs r.m.toNat).dev.now = (p.dev.did r).now := by
    rcases (mild_wentTo ((p.took k).did r) r xs r.m.toNat).dev with e | e
    · rw [e]; exact did_atP p.dev _ r
    · rw [e]; exact did_atP p.dev _ r
  have eI : ∀ a, (((p.took k).did r).wentTo r xs r.m.toNat).dev.hasI a = if r.wr = true ∧ r.f ≤ a ∧ a < r.f + r.m then dataAt r a else p.dev.hasI a := fun a => by
    rw [← did_hasI h.inv.n32 gr]; unfold Dl.hasI Dl.has; rw [ed]
  have hg : ∀ x, (cleanW r r.m.toNat x).pl = x.pl ∧ (cleanW r r.m.toNat x).data = x.data := fun x => by unfold cleanW; split <;> exact ⟨rfl, rfl⟩
  have hfind := fun a => map_find p.hand (cleanW r r.m.toNat) (fun x => (hg x).1) a
  have hnot : ∀ a, getB p.hand a = none → ¬ r.on a := fun a ha ho => by
    obtain ⟨y, hy⟩ := (h.tight r hm a ho).2 hw
    rw [ha] at hy; cases hy
  have e1' : (((p.took k).did r).wentTo r xs r.m.toNat).hand = p.hand.map (cleanW r r.m.toNat) := e1
  have hv : ∀ a, (((p.took k).did r).wentTo r xs r.m.toNat).val a = p.val a := fun a => by
    unfold Sk.val
    rw [e1', hfind]
    cases eg : getB p.hand a with
    | some x => exact (hg x).2
    | none =>
      show Dl.hasI _ a = _
      rw [eI, if_neg (fun hc => hnot a eg hc.2)]
  refine ⟨⟨hI2, hT2, fun i hi h0 => ?_, fun a y hy hyd => ?_⟩, .still ?_ hv⟩
  · show ((Sk.wentTo _ _ _ _).client i).kind = 0
    rw [client_cl e2]; exact h.only i hi h0
  · show y.data = Dl.hasI (Sk.wentTo _ _ _ _).dev a
    have hy' : getB (((p.took k).did r).wentTo r xs r.m.toNat).hand a = some y := hy
    rw [e1', hfind] at hy'
    obtain ⟨x, hx', rfl⟩ := Option.map_eq_some_iff.1 hy'
    have hpl := (getB_some hx').2
    rw [(hg x).2, eI]
    by_cases ho : r.on a
    · rw [if_pos ⟨hw, ho⟩]
      have hxd := (h.tight r hm a ho).1 x hx'
      unfold cleanW at hyd
      split at hyd
      · rename_i hc
        rw [hc.2.2, hpl]
      · rw [hxd] at hyd; cases hyd
    · rw [if_neg (fun hc => ho hc.2)]
      refine h.same a x hx' ?_
      unfold cleanW at hyd
      split at hyd
      · rename_i hc
        exact absurd (show r.on a by rw [← hpl]; exact ⟨hc.1, by have := hc.2.1; omega⟩) ho
      · exact hyd
  · show SameCl _ ((Sk.wentTo _ _ _ _).client 0)
    rw [client_cl e2]; exact SameCl.refl _
/-- One sector was read. -/
theorem alone_wasRead {p : Sk} (h : AI p) (pl : Int) (hpl : 0 ≤ pl ∧ pl ≤ 31) (s : ByteArray) (hs : s.size ≤ 4) (hf : ∀ r ∈ p.all, ¬ r.on pl) (hd : s = p.dev.hasI pl) : AI (p.wasRead pl s) ∧ AEff p (p.wasRead pl s) := by
  have hI2 := h.inv.wasRead pl s hpl hs
  have hT2 := Tight.wasRead h.inv h.tight pl s hf
  cases eg : getB p.hand pl with
  | some b =>
    have e : p.wasRead pl s = p := by unfold Sk.wasRead; rw [eg]
    rw [e]; exact ⟨h, AEff.refl p⟩
  | none =>
    have hval : p.val pl = s := by rw [val_disk eg, hd]
    have fin : ∀ q : Sk, q.cl = p.cl → p.wasRead pl s = q.readers (fun x => x == pl) s 0 → (∀ a, q.val a = p.val a) → (∀ a y, getB q.hand a = some y → y.dirty = false → y.data = q.dev.hasI a) → AI (p.wasRead pl s) ∧ AEff p (p.wasRead pl s) := by
      intro q hq e hv hsame
      rw [e] at hI2 hT2 ⊢
      have hc : ∀ i, i < 3 → (q.readers (fun x => x == pl) s 0).client i = if (p.client i).kind = 1 ∧ ((p.client i).pl == pl) = true then ⟨0, 0, ByteArray.empty, [], s, 0⟩ else p.client i := fun i hi => by
        rw [readers_client (by rw [hq]; exact h.inv.cl3) _ _ _ hi, client_cl hq]
      refine ⟨⟨hI2, hT2, fun i hi h0 => ?_, hsame⟩, ?_⟩
      · rw [hc i hi]
        split
        · rfl
        · exact h.only i hi h0
      · by_cases h1 : (p.client 0).kind = 1 ∧ ((p.client 0).pl == pl) = true
        · have h2 := hc 0 (by omega)
          rw [if_pos h1] at h2
          have h3 : (p.client 0).pl = pl := by simpa using h1.2
          exact .read h1.1 (by rw [h2]) (Or.inl ⟨by rw [h2], by rw [h2, h3, hval]⟩) hv
        · have h2 := hc 0 (by omega)
          rw [if_neg h1] at h2
          exact .still (by rw [h2]; exact SameCl.refl _) hv
    cases ep : putB p.hand ⟨pl, s, false, p.uses + 1⟩ p.held with
    | none => exact fin p rfl (by unfold Sk.wasRead; rw [eg]; simp only; rw [ep]) (fun _ => rfl) h.same
    | some l =>
      have hm := put_val h ep (q := { p with hand := l, uses := p.uses + 1 }) rfl rfl
      refine fin { p with hand := l, uses := p.uses + 1 } rfl (by unfold Sk.wasRead; rw [eg]; simp only; rw [ep]) (fun a => ?_) (hm.2 (fun _ => hd))
      rw [hm.1 a]
      split
      · rename_i e
        have e' : a = pl := e
        rw [e', hval]
      · rfl
theorem alone_read {p : Sk} (h : AI p) (r : Rq) (gr : Good r) (hw : r.wr = false) (hf : Freed p r) (xs : List ByteArray) (hx : ∀ j, (xs.getD j ByteArray.empty).size ≤ 4) (hxs : ∀ j : Nat, (j : Int) < r.m → xs.getD j ByteArray.empty = p.dev.hasI (r.f + j)) : ∀ n : Nat, n ≤ r.m.toNat → AI (p.wentTo r xs n) ∧ AEff p (p.wentTo r xs n)
  | 0, _ => ⟨h, AEff.refl p⟩
  | n + 1, hn => by
    have ih := alone_read h r gr hw hf xs hx hxs n (by omega)
    have hb := gr.bds
    rw [wentTo_succ]
    unfold Sk.wentOne
    rw [if_neg (by rw [hw]; exact Bool.false_ne_true)]
    refine Alone.then ih (alone_wasRead ih.1 (r.f + n) (by omega) _ (hx n) (fun r' hr' => by rw [wentTo_all] at hr'; exact hf r' hr' _ ⟨by omega, by omega⟩) ?_) (fun hd => by rw [(mild_wasRead _ _ _).dead]; exact hd)
    rw [hxs n (by omega)]
    unfold Dl.hasI Dl.has
    have : (p.wentTo r xs n).dev.now = p.dev.now := by rcases (mild_wentTo p r xs n).dev with e | e <;> rw [e]; rfl
    rw [this]
theorem didRead_hasI {d : Dl} {r : Rq} (gr : Good r) (hw : r.wr = false) (j : Nat) (hj : (j : Int) < r.m) : (didRead d r).getD j ByteArray.empty = d.hasI (r.f + j) := by
  have hb := gr.bds
  unfold didRead Dl.hasI Dl.has
  rw [if_neg (by rw [hw]; exact Bool.false_ne_true), if_pos (by omega)]
  unfold readTo
  rw [List.getD_eq_getElem?_getD, List.getElem?_map, List.getElem?_range (by omega)]
  show d.now.getD (r.f.toNat + j) ByteArray.empty = _
  congr 1
  omega
theorem alone_end {p : Sk} (h : AI p) (hs : DevShort p.dev) (i : Int) (fault : Bool) : AI (p.end' i fault).2 ∧ AEff p (p.end' i fault).2 := by
  rcases end_cases p i fault with ⟨_, e⟩ | ⟨k, hk, _, ⟨_, e⟩ | ⟨_, hf, e⟩ | ⟨_, _, hw, e⟩ | ⟨_, _, hw, e⟩⟩
  · rw [e]; exact ⟨h, AEff.refl p⟩
  · rw [e]
    have hm : p.dev.busy[k] ∈ p.all := List.mem_append_right _ (List.getElem_mem hk)
    have gr := h.inv.good _ hm
    have hx := didRead_short hs p.dev.busy[k]
    have key : AI (((p.took k).did p.dev.busy[k]).wentWell p.dev.busy[k] (didRead p.dev p.dev.busy[k])) ∧ AEff p (((p.took k).did p.dev.busy[k]).wentWell p.dev.busy[k] (didRead p.dev p.dev.busy[k])) := by
      cases hw : p.dev.busy[k].wr
      · have hdev : ((p.took k).did p.dev.busy[k]).dev.now = p.dev.now := by
          show (Dl.did _ _).now = _
          unfold Dl.did
          rw [if_neg (by rw [hw]; exact Bool.false_ne_true)]
          rfl
        have h1 : AI ((p.took k).did p.dev.busy[k]) ∧ AEff p ((p.took k).did p.dev.busy[k]) := alone_still h ((h.inv.took k).did _) (h.tight.congr rfl (fun r' hr' => by rw [did_all] at hr'; exact took_sub k r' hr')) rfl rfl hdev
        have hfr : Freed ((p.took k).did p.dev.busy[k]) p.dev.busy[k] := by unfold Freed; rw [did_all]; exact took_freed h.inv hk
        refine Alone.then h1 (alone_read h1.1 _ gr hw hfr _ hx (fun j hj => ?_) _ (Nat.le_refl _)) (fun hd => by show (Sk.wentTo _ _ _ _).dead = true; rw [(mild_wentTo _ _ _ _).dead]; exact hd)
        rw [didRead_hasI gr hw j hj]
        unfold Dl.hasI Dl.has
        rw [hdev]
      · exact alone_wrote h hk hw _ hx
    exact Alone.then key (alone_serve key.1) (fun hd => (mild_serve _).dead.trans hd)
  · rw [e]
    exact alone_still h (h.inv.again k hk hf) (h.tight.congr rfl (fun r hr => by
      have P : (p.queue ++ p.dev.busy).Perm (p.queue ++ (p.dev.busy.eraseIdx k ++ [p.dev.busy[k]])) := List.Perm.append_left _ (erase_perm p.dev.busy k hk).symm
      exact P.mem_iff.2 hr)) rfl rfl rfl
  · rw [e]
    have h1 : AI ({ (p.took k).lost p.dev.busy[k] with dead := true } : Sk) ∧ AEff p ({ (p.took k).lost p.dev.busy[k] with dead := true } : Sk) := alone_still h ((h.inv.took k).lost _ _) (h.tight.congr rfl (fun r hr => took_sub (p := p) k r hr)) rfl rfl rfl
    exact Alone.then h1 (alone_serve h1.1) (fun hd => (mild_serve _).dead.trans hd)
  · rw [e]
    have hI2 := ((h.inv.took k).lost' p.dev.busy[k]).readers (fun x => hasB p.dev.busy[k].f p.dev.busy[k].m x) ByteArray.empty 8
    have hc : ∀ j, j < 3 → (((p.took k).lost p.dev.busy[k]).readers (fun x => hasB p.dev.busy[k].f p.dev.busy[k].m x) ByteArray.empty 8).client j = if (p.client j).kind = 1 ∧ hasB p.dev.busy[k].f p.dev.busy[k].m (p.client j).pl = true then ⟨0, 0, ByteArray.empty, [], ByteArray.empty, 8⟩ else p.client j := fun j hj => readers_client (p := (p.took k).lost p.dev.busy[k]) h.inv.cl3 _ _ _ hj
    have h1 : AI (((p.took k).lost p.dev.busy[k]).readers (fun x => hasB p.dev.busy[k].f p.dev.busy[k].m x) ByteArray.empty 8) ∧ AEff p (((p.took k).lost p.dev.busy[k]).readers (fun x => hasB p.dev.busy[k].f p.dev.busy[k].m x) ByteArray.empty 8) := by
      refine ⟨⟨hI2, h.tight.congr rfl (fun r hr => took_sub (p := p) k r hr), fun j hj h0 => ?_, h.same⟩, ?_⟩
      · rw [hc j hj]
        split
        · rfl
        · exact h.only j hj h0
      · have h2 := hc 0 (by omega)
        by_cases h3 : (p.client 0).kind = 1 ∧ hasB p.dev.busy[k].f p.dev.busy[k].m (p.client 0).pl = true
        · rw [if_pos h3] at h2
          exact .read h3.1 (by rw [h2]) (Or.inr (by rw [h2])) (fun _ => rfl)
        · rw [if_neg h3] at h2
          exact .still (by rw [h2]; exact SameCl.refl _) (fun _ => rfl)
    exact Alone.then h1 (alone_serve h1.1) (fun hd => (mild_serve _).dead.trans hd)
theorem alone_round {n : Nat} {p : Sk} (hf : Fit n p) (h : AI p) : AI p.round ∧ AEff p p.round := by
  have h1 := alone_tick h
  have h2 := Alone.then h1 (alone_clean h1.1) (fun hd => by rw [dead_clean]; exact hd)
  have h3 := Alone.then h2 (alone_dispatches 3 h2.1) (fun hd => by rw [dead_dispatches]; exact hd)
  exact Alone.then h3 (alone_end h3.1 (hf.tick.clean.dispatches 3).short 0 false) (fun hd => dead_end _ 0 false hd)
end Go.Proofs.YtgjkdhedkbkagaaGreat
