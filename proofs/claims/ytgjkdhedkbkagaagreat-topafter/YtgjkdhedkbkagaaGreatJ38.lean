/- A stack of all: how much is left to do: no serving, no cleaning, no dispatch makes it more. -/
import Derived.Test.YtgjkdhedkbkagaaGreatJ37
namespace Go.Proofs.YtgjkdhedkbkagaaGreat
open Go.RowKit
set_option maxRecDepth 100000

def onB (r : Rq) (a : Int) : Bool := decide (r.f ≤ a ∧ a < r.f + r.m)
def readB (Q : List Rq) (a : Int) : Bool := Q.any fun r => !r.wr && onB r a
def staleB (Q : List Rq) (x : Bf) : Bool := Q.any fun r => r.wr && (onB r x.pl && !decide (dataAt r x.pl = x.data))
theorem onB_iff {r : Rq} {a : Int} : onB r a = true ↔ r.on a := by simp [onB, Rq.on]
theorem readB_iff {Q : List Rq} {a : Int} : readB Q a = true ↔ ∃ r ∈ Q, r.wr = false ∧ r.on a := by
  unfold readB
  rw [List.any_eq_true]
  simp only [Bool.and_eq_true, Bool.not_eq_true', onB_iff]
theorem staleB_iff {Q : List Rq} {x : Bf} : staleB Q x = true ↔ ∃ r ∈ Q, r.wr = true ∧ r.on x.pl ∧ ¬ dataAt r x.pl = x.data := by
  unfold staleB
  rw [List.any_eq_true]
  simp only [Bool.and_eq_true, Bool.not_eq_true', onB_iff, decide_eq_false_iff_not]
def wtB (Q : List Rq) (x : Bf) : Nat := if x.dirty = true then (if staleB Q x = true then 2 else 1) else 0
def wtC (Q : List Rq) (h : List Bf) (c : Cl) : Nat := if c.kind = 2 then 5 else if c.kind = 1 ∧ (getB h c.pl).isNone = true ∧ readB Q c.pl = false then 1 else 0
def rdN (Q : List Rq) : Nat := Q.countP fun r => !r.wr
def sumB (f : Bf → Nat) (l : List Bf) : Nat := (l.map f).sum
def Sk.wc (p : Sk) (i : Nat) : Nat := wtC p.all p.hand (p.client i)
def Sk.pot (p : Sk) : Nat := p.wc 0 + p.wc 1 + p.wc 2 + rdN p.all + sumB (wtB p.all) p.hand
theorem wtB_le (Q : List Rq) (x : Bf) : wtB Q x ≤ 2 := by unfold wtB; split; split <;> omega; omega
theorem wtB_mono {Q Q' : List Rq} {x : Bf} (h : staleB Q' x = true → staleB Q x = true) : wtB Q' x ≤ wtB Q x := by
  unfold wtB
  split
  · by_cases h1 : staleB Q' x = true
    · rw [if_pos h1, if_pos (h h1)]; omega
    · rw [if_neg h1]; split <;> omega
  · omega
theorem wtC_le (Q : List Rq) (h : List Bf) (c : Cl) : wtC Q h c ≤ 5 := by unfold wtC; split; omega; split <;> omega
theorem wtC_up (Q Q' : List Rq) (h h' : List Bf) (c : Cl) : wtC Q' h' c ≤ wtC Q h c + 1 := by
  unfold wtC
  split
  · omega
  · split <;> omega
theorem wtC_mono {Q Q' : List Rq} {h h' : List Bf} {c : Cl} (h1 : readB Q c.pl = true → readB Q' c.pl = true) (h2 : c.kind = 1 → (getB h' c.pl).isNone = true → (getB h c.pl).isNone = true) : wtC Q' h' c ≤ wtC Q h c := by
  unfold wtC
  split
  · omega
  · by_cases h3 : c.kind = 1 ∧ (getB h' c.pl).isNone = true ∧ readB Q' c.pl = false
    · rw [if_pos h3, if_pos]
      · omega
      · refine ⟨h3.1, h2 h3.1 h3.2.1, ?_⟩
        cases e : readB Q c.pl
        · rfl
        · rw [h1 e] at h3; exact absurd h3.2.2 (by simp)
    · rw [if_neg h3]; omega
theorem wtC_idle (Q : List Rq) (h : List Bf) (c : Cl) (hk : c.kind = 0 ∨ c.kind = 3) : wtC Q h c = 0 := by
  unfold wtC
  rw [if_neg (by omega), if_neg (by omega)]
theorem sumB_le {f g : Bf → Nat} {l : List Bf} (h : ∀ x ∈ l, f x ≤ g x) : sumB f l ≤ sumB g l := by
  unfold sumB
  induction l with
  | nil => exact Nat.le_refl _
  | cons x l ih =>
    rw [List.map_cons, List.map_cons, List.sum_cons, List.sum_cons]
    have := h x List.mem_cons_self
    have := ih (fun y hy => h y (List.mem_cons_of_mem _ hy))
    omega
theorem sumB_lt {f g : Bf → Nat} {l : List Bf} (h : ∀ x ∈ l, f x ≤ g x) {y : Bf} (hy : y ∈ l) (hlt : f y < g y) : sumB f l + 1 ≤ sumB g l := by
  unfold sumB
  induction l with
  | nil => cases hy
  | cons x l ih =>
    rw [List.map_cons, List.map_cons, List.sum_cons, List.sum_cons]
    have h1 := h x List.mem_cons_self
    rcases List.mem_cons.1 hy with rfl | hy'
    · have := sumB_le (fun z hz => h z (List.mem_cons_of_mem _ hz))
      unfold sumB at this
      omega
    · have := ih (fun z hz => h z (List.mem_cons_of_mem _ hz)) hy'
      omega
theorem sumB_map (f : Bf → Nat) (g : Bf → Bf) (l : List Bf) : sumB f (l.map g) = sumB (fun x => f (g x)) l := by
  unfold sumB; rw [List.map_map]; rfl
theorem sumB_append (f : Bf → Nat) (l m : List Bf) : sumB f (l ++ m) = sumB f l + sumB f m := by
  unfold sumB; rw [List.map_append, List.sum_append]
theorem sumB_split (f : Bf → Nat) (l : List Bf) (k : Nat) : sumB f l = sumB f (l.take k) + sumB f (l.drop k) := by rw [← sumB_append, List.take_append_drop]
theorem sumB_cons (f : Bf → Nat) (x : Bf) (l : List Bf) : sumB f (x :: l) = f x + sumB f l := by unfold sumB; rw [List.map_cons, List.sum_cons]
theorem sumB_insL (f : Bf → Nat) (l : List Bf) (x : Bf) : sumB f (insL l x) = sumB f l + f x := by
  rw [insL, sumB_append, sumB_cons, sumB_split f l (gtAt x.pl l)]; omega
theorem sumB_erase (f : Bf → Nat) (l : List Bf) (k : Nat) : sumB f (l.eraseIdx k) ≤ sumB f l := by
  rw [List.eraseIdx_eq_take_drop_succ, sumB_append]
  by_cases hk : k < l.length
  · rw [sumB_split f l k, List.drop_eq_getElem_cons hk, sumB_cons]; omega
  · rw [List.drop_eq_nil_of_le (by omega), List.take_of_length_le (by omega)]
    show sumB f l + 0 ≤ _; omega
theorem sumB_set (f : Bf → Nat) (l : List Bf) (k : Nat) (x : Bf) : sumB f (l.set k x) ≤ sumB f l + f x := by
  by_cases hk : k < l.length
  · rw [List.set_eq_take_append_cons_drop, if_pos hk, sumB_append, sumB_cons, sumB_split f l k, List.drop_eq_getElem_cons hk, sumB_cons]; omega
  · rw [List.set_eq_of_length_le (by omega)]; omega
theorem sumB_put {l m : List Bf} {x : Bf} {H : Int → Bool} (h8 : l.length ≤ 8) (hp : putB l x H = some m) (f : Bf → Nat) : sumB f m ≤ sumB f l + f x := by
  rcases putB_putsM h8 hp with ⟨k, hk, _, rfl⟩ | ⟨_, _, rfl⟩ | ⟨_, _, k, hk, _, rfl⟩
  · exact sumB_set f l k x
  · rw [sumB_insL]; omega
  · rw [sumB_insL]; have := sumB_erase f l k; omega
/-- How much is left, client by client. -/
theorem pot_le {p q : Sk} (hc : ∀ i, i < 3 → q.wc i ≤ p.wc i) (hr : rdN q.all ≤ rdN p.all) (hh : sumB (wtB q.all) q.hand ≤ sumB (wtB p.all) p.hand) : q.pot ≤ p.pot := by
  have h0 := hc 0 (by omega)
  have h1 := hc 1 (by omega)
  have h2 := hc 2 (by omega)
  unfold Sk.pot
  omega
section
variable {p : Sk}
theorem pot_same {q : Sk} (hc : ∀ i, i < 3 → wtC p.all p.hand (q.client i) ≤ wtC p.all p.hand (p.client i)) (ha : q.all = p.all) (hh : q.hand = p.hand) : q.pot ≤ p.pot :=
  pot_le (fun i hi => by unfold Sk.wc; rw [ha, hh]; exact hc i hi) (by rw [ha]; exact Nat.le_refl _) (by rw [ha, hh]; exact Nat.le_refl _)
/-- The reads among the requests behind an Add. -/
theorem addF_reads {l L : List Rq} {r : Rq} (gl : ∀ q ∈ l, Good q) (gr : Good r) (h : addF l r = some L) : rdN L ≤ rdN l + if r.wr = true then 0 else 1 := by
  unfold addF at h
  split at h
  · cases h
  · split at h
    · rename_i k hk
      obtain ⟨hk', ht, _⟩ := List.findIdx?_eq_some_iff_getElem.1 hk
      have eg : l.getD k r = l[k] := by rw [List.getD_eq_getElem?_getD, List.getElem?_eq_getElem hk', Option.getD_some]
      simp only [eg] at h
      obtain rfl := Option.some.inj h
      have J := (joinE_both ht).joined (gl _ (List.getElem_mem hk')) gr
      have e : rdN (l.set k (joinE l[k] r)) = rdN l := by
        unfold rdN
        have h1 : l.countP (fun r => !r.wr) = (l.take k ++ l[k] :: l.drop (k + 1)).countP (fun r => !r.wr) := by rw [List.getElem_cons_drop, List.take_append_drop]
        rw [h1, List.set_eq_take_append_cons_drop, if_pos hk', List.countP_append, List.countP_append, List.countP_cons, List.countP_cons, J.wra]
      rw [e]; omega
    · split at h
      · obtain rfl := Option.some.inj h
        unfold rdN
        rw [List.countP_append, List.countP_cons, List.countP_nil]
        cases r.wr <;> simp
      · cases h
theorem rdN_append (l m : List Rq) : rdN (l ++ m) = rdN l + rdN m := by unfold rdN; exact List.countP_append
theorem readB_up {L : List Rq} {r : Rq} (A : Adds p.queue r L) {a : Int} (h : readB p.all a = true) : readB (L ++ p.dev.busy) a = true := by
  obtain ⟨q, hq, hw, ho⟩ := readB_iff.1 h
  refine readB_iff.2 ?_
  rcases List.mem_append.1 hq with h' | h'
  · obtain ⟨q', hq', ho', hw', _⟩ := A.to' q (List.mem_cons_of_mem _ h') a ho
    exact ⟨q', List.mem_append_left _ hq', hw'.trans hw, ho'⟩
  · exact ⟨q, List.mem_append_right _ h', hw, ho⟩
theorem staleB_down {L : List Rq} {r : Rq} (A : Adds p.queue r L) {x : Bf} (hr : r.wr = true → r.on x.pl → dataAt r x.pl = x.data) (h : staleB (L ++ p.dev.busy) x = true) : staleB p.all x = true := by
  obtain ⟨q, hq, hw, ho, hd⟩ := staleB_iff.1 h
  refine staleB_iff.2 ?_
  rcases List.mem_append.1 hq with h' | h'
  · obtain ⟨q', hq', ho', hw', hd'⟩ := A.from' q h' x.pl ho
    rcases List.mem_cons.1 hq' with rfl | h4
    · exact absurd (hd'.symm.trans (hr (hw'.trans hw) ho')) hd
    · exact ⟨q', List.mem_append_left _ h4, hw'.trans hw, ho', fun e => hd (hd'.symm.trans e)⟩
  · exact ⟨q, List.mem_append_right _ h', hw, ho, hd⟩
/-- One who waits to read asks. -/
theorem pot_askR (hI : Inv p) {i : Nat} (hi : i < 3) (hk : (p.client i).kind = 1) (hg : getB p.hand (p.client i).pl = none) (hh : p.held (p.client i).pl = false) : (p.askQ (p.client i).pl false []).2.pot ≤ p.pot := by
  have hpl := (hI.client i).pl (by rw [hk]; omega)
  rcases askQ_cases (p := p) (p.client i).pl false [] with ⟨_, e⟩ | ⟨L, e1, e⟩
  · rw [e]; exact Nat.le_refl _
  · rw [e]
    have A := hI.adds hpl (Or.inr ⟨rfl, rfl⟩) e1
    have hR := addF_reads hI.queue.1 (reqOf_good hI _ hpl false [] (Or.inr ⟨rfl, rfl⟩)) e1
    have hR' : rdN L ≤ rdN p.queue + 1 := by simpa [Sk.reqOf] using hR
    have hno : readB p.all (p.client i).pl = false := by
      cases e : readB p.all (p.client i).pl
      · rfl
      · obtain ⟨r, hr, _, ho⟩ := readB_iff.1 e
        exact absurd ho ((held_iff hI _ hpl.2).1 hh r hr)
    have hyes : readB (L ++ p.dev.busy) (p.client i).pl = true := by
      obtain ⟨q', hq', ho', hw', _⟩ := A.to' _ List.mem_cons_self (p.client i).pl ((reqOf_on _ _ _ _).2 rfl)
      exact readB_iff.2 ⟨q', List.mem_append_left _ hq', hw', ho'⟩
    have w0 : p.wc i = 1 := by
      unfold Sk.wc wtC
      rw [if_neg (by omega), if_pos ⟨hk, by rw [hg]; rfl, hno⟩]
    have w1 : ({ p with queue := L, tags := p.tags + 1 } : Sk).wc i = 0 := by
      show wtC (L ++ p.dev.busy) p.hand (p.client i) = 0
      unfold wtC
      rw [if_neg (by omega), if_neg (by rw [hyes]; simp)]
    have hoth : ∀ j, j < 3 → ({ p with queue := L, tags := p.tags + 1 } : Sk).wc j ≤ p.wc j := fun j _ => wtC_mono (fun h => readB_up A h) (fun _ h => h)
    have hH : sumB (wtB (L ++ p.dev.busy)) p.hand ≤ sumB (wtB p.all) p.hand := sumB_le (fun x _ => wtB_mono (staleB_down A (fun hw => by cases hw)))
    have ha : rdN (L ++ p.dev.busy) ≤ rdN p.all + 1 := by rw [rdN_append]; show _ ≤ rdN (p.queue ++ p.dev.busy) + 1; rw [rdN_append]; omega
    have o0 := hoth 0 (by omega)
    have o1 := hoth 1 (by omega)
    have o2 := hoth 2 (by omega)
    show ({ p with queue := L, tags := p.tags + 1 } : Sk).wc 0 + ({ p with queue := L, tags := p.tags + 1 } : Sk).wc 1 + ({ p with queue := L, tags := p.tags + 1 } : Sk).wc 2 + rdN (L ++ p.dev.busy) + sumB (wtB (L ++ p.dev.busy)) p.hand ≤ p.wc 0 + p.wc 1 + p.wc 2 + rdN p.all + sumB (wtB p.all) p.hand
    match i, hi with
    | 0, _ => omega
    | 1, _ => omega
    | 2, _ => omega
theorem pot_serve1 (hI : Inv p) (i : Nat) (hi : i < 3) : (p.serve1 i).pot ≤ p.pot := by
  have hc := hI.client i
  have idle : ∀ s e (q : Sk), q.cl.length = 3 → wtC p.all p.hand ((q.answer i s e).client i) = 0 := fun s e q hq => by
    rw [answer_client q hq hi]; exact wtC_idle _ _ _ (Or.inl rfl)
  have ans : ∀ s e, (p.answer i s e).pot ≤ p.pot := fun s e => pot_same (fun j _ => by
    by_cases hj : j = i
    · rw [hj, idle s e p hI.cl3]; omega
    · rw [answer_ne p hj]; exact Nat.le_refl _) rfl rfl
  unfold Sk.serve1
  split
  · rename_i hk
    unfold Sk.serveRead
    cases e : getB p.hand (p.client i).pl with
    | some b =>
      refine pot_le (fun j _ => ?_) (Nat.le_refl _) ?_
      · by_cases hj : j = i
        · subst hj
          show wtC _ _ (Sk.client (Sk.answer _ _ _ _) _) ≤ _
          rw [answer_client _ (by exact hI.cl3) hi, wtC_idle _ _ _ (Or.inl rfl)]; omega
        · show wtC p.all (useL p.hand _ _) (Sk.client (Sk.answer _ _ _ _) _) ≤ _
          rw [answer_ne _ hj]
          exact wtC_mono (fun h => h) (fun _ h => by rw [useL_get] at h; simpa using h)
      · show sumB (wtB p.all) (useL p.hand _ _) ≤ _
        unfold useL
        rw [sumB_map]
        refine sumB_le (fun x _ => ?_)
        show wtB p.all (if _ then _ else _) ≤ _
        split
        · exact Nat.le_refl _
        · exact Nat.le_refl _
    | none =>
      simp only
      split
      · exact Nat.le_refl _
      · rename_i hh
        exact pot_askR hI hi hk e (by simpa using hh)
  split
  · rename_i hk
    unfold Sk.serveWrite
    split
    · exact ans _ _
    split
    · exact Nat.le_refl _
    split
    · rename_i l e
      have hs := sumB_put hI.hand.len e (wtB p.all)
      have hx := wtB_le p.all ⟨(p.client i).pl, (p.client i).data, true, p.uses + 1⟩
      have w0 : p.wc i = 5 := by unfold Sk.wc wtC; rw [if_pos hk]
      have w1 : ∀ j, j < 3 → (({ p with uses := p.uses + 1, hand := l } : Sk).answer i ByteArray.empty 0).wc j ≤ if j = i then 0 else p.wc j + 1 := fun j _ => by
        by_cases hj : j = i
        · rw [if_pos hj]
          subst hj
          show wtC _ _ (Sk.client (Sk.answer _ _ _ _) _) ≤ _
          rw [answer_client _ (by exact hI.cl3) hi, wtC_idle _ _ _ (Or.inl rfl)]; omega
        · rw [if_neg hj]
          show wtC p.all l (Sk.client (Sk.answer _ _ _ _) _) ≤ _
          rw [answer_ne _ hj]
          exact wtC_up _ _ _ _ _
      have o0 := w1 0 (by omega)
      have o1 := w1 1 (by omega)
      have o2 := w1 2 (by omega)
      show (({ p with uses := p.uses + 1, hand := l } : Sk).answer i ByteArray.empty 0).wc 0 + (({ p with uses := p.uses + 1, hand := l } : Sk).answer i ByteArray.empty 0).wc 1 + (({ p with uses := p.uses + 1, hand := l } : Sk).answer i ByteArray.empty 0).wc 2 + rdN p.all + sumB (wtB p.all) l ≤ p.wc 0 + p.wc 1 + p.wc 2 + rdN p.all + sumB (wtB p.all) p.hand
      match i, hi with
      | 0, _ => simp at o0 o1 o2; omega
      | 1, _ => simp at o0 o1 o2; omega
      | 2, _ => simp at o0 o1 o2; omega
    · exact Nat.le_refl _
  split
  · rename_i hk
    unfold Sk.serveSync
    split
    · exact ans _ _
    split
    · exact ans _ _
    · refine pot_same (fun j _ => ?_) rfl rfl
      by_cases hj : j = i
      · subst hj
        rw [clientSet p hI.cl3 hi, if_pos rfl]
        exact Nat.le_trans (Nat.le_of_eq (wtC_idle _ _ _ (Or.inr hk))) (Nat.zero_le _)
      · rw [clientSet_ne p hj]; exact Nat.le_refl _
  · exact Nat.le_refl _
theorem pot_serve (hI : Inv p) : p.serve.pot ≤ p.pot :=
  Nat.le_trans (pot_serve1 ((hI.serve1 0).serve1 1) 2 (by omega)) (Nat.le_trans (pot_serve1 (hI.serve1 0) 1 (by omega)) (pot_serve1 hI 0 (by omega)))
theorem pot_tick (hI : Inv p) : p.tick.pot ≤ p.pot := pot_serve (tick_inv hI)
theorem pot_clean (hI : Inv p) : p.clean.2.pot ≤ p.pot := by
  unfold Sk.clean
  split
  · exact Nat.le_refl _
  split
  · exact Nat.le_refl _
  · rename_i _ hp
    rcases pickB_spec p.hand p.held with ⟨e, _⟩ | ⟨x, hx, e, hd, hh⟩
    · rw [e] at hp; omega
    · have hin := hI.hand.in' x hx
      have hg := getB_mem hI.hand.rise hx
      rw [e, hg]
      have hgd : (true = true ∧ [x.data].length = 1 ∧ ∀ s ∈ [x.data], s.size ≤ 4) ∨ (true = false ∧ [x.data] = []) := Or.inl ⟨rfl, rfl, fun s hs => by rw [List.mem_singleton.1 hs]; exact hin.2.2⟩
      show (p.askQ x.pl true [x.data]).2.pot ≤ p.pot
      rcases askQ_cases (p := p) x.pl true [x.data] with ⟨_, e⟩ | ⟨L, e1, e⟩
      · rw [e]; exact Nat.le_refl _
      · rw [e]
        have A := hI.adds ⟨hin.1, hin.2.1⟩ hgd e1
        have hR := addF_reads hI.queue.1 (reqOf_good hI _ ⟨hin.1, hin.2.1⟩ true [x.data] hgd) e1
        have hR' : rdN L ≤ rdN p.queue := by simpa [Sk.reqOf] using hR
        refine pot_le (fun j _ => wtC_mono (fun h => readB_up A h) (fun _ h => h)) ?_ (sumB_le (fun y hy => wtB_mono (staleB_down A (fun _ ho => ?_))))
        · show rdN (L ++ p.dev.busy) ≤ rdN (p.queue ++ p.dev.busy)
          rw [rdN_append, rdN_append]; omega
        · rw [reqOf_on] at ho
          have hy' := getB_mem hI.hand.rise hy
          rw [ho, hg] at hy'
          obtain rfl := Option.some.inj hy'
          unfold dataAt
          show [x.data].getD (x.pl - x.pl).toNat ByteArray.empty = x.data
          rw [Int.sub_self]; rfl
theorem pot_perm {q : Sk} (P : (p.all).Perm q.all) (hc : q.cl = p.cl) (hh : q.hand = p.hand) : q.pot = p.pot := by
  have hr : ∀ a, readB q.all a = readB p.all a := fun a => by
    rw [Bool.eq_iff_iff, readB_iff, readB_iff]
    exact ⟨fun ⟨r, h1, h2⟩ => ⟨r, P.mem_iff.2 h1, h2⟩, fun ⟨r, h1, h2⟩ => ⟨r, P.mem_iff.1 h1, h2⟩⟩
  have hs : ∀ x, staleB q.all x = staleB p.all x := fun x => by
    rw [Bool.eq_iff_iff, staleB_iff, staleB_iff]
    exact ⟨fun ⟨r, h1, h2⟩ => ⟨r, P.mem_iff.2 h1, h2⟩, fun ⟨r, h1, h2⟩ => ⟨r, P.mem_iff.1 h1, h2⟩⟩
  have e1 : ∀ i, q.wc i = p.wc i := fun i => by unfold Sk.wc wtC; rw [client_cl hc, hh, hr]
  have e2 : rdN q.all = rdN p.all := (P.countP_eq _).symm
  have e3 : wtB q.all = wtB p.all := funext fun x => by unfold wtB; rw [hs]
  unfold Sk.pot
  rw [e1, e1, e1, e2, e3, hh]
theorem pot_dispatch (hI : Inv p) : p.dispatch.2.pot = p.pot := by
  rcases dispatch_cases hI with ⟨_, e⟩ | ⟨i, hi, T, _, hb, _, hT, e⟩
  · rw [e]
  · rw [e]; exact pot_perm (moved_perm p.queue p.dev.busy i hi) rfl rfl
theorem pot_dispatches (n : Nat) : ∀ {p : Sk}, Inv p → (p.dispatches n).pot = p.pot := by
  induction n with
  | zero => intro p _; rfl
  | succ n ih =>
    intro p hI
    unfold Sk.dispatches
    split
    · exact (ih hI.dispatch).trans (pot_dispatch hI)
    · rfl
end
end Go.Proofs.YtgjkdhedkbkagaaGreat
/- A stack of all: a round leaves less to do, or all is quiet. -/
namespace Go.Proofs.YtgjkdhedkbkagaaGreat
open Go.RowKit
set_option maxRecDepth 100000

/-- Who waits to read finds what is dirty at hand, or nothing. -/
def Seen1 (p : Sk) (i : Nat) : Prop := (p.client i).kind = 1 → ∀ x, getB p.hand (p.client i).pl = some x → x.dirty = true
def Seen (p : Sk) : Prop := ∀ i, i < 3 → Seen1 p i
theorem seen_i {p : Sk} (hI : Inv p) {i : Nat} (hi : i < 3) : Seen1 (p.serve1 i) i := by
  have hc := hI.client i
  unfold Sk.serve1
  split
  · rename_i hk
    unfold Sk.serveRead
    cases e : getB p.hand (p.client i).pl with
    | some b => intro hk1; simp only at hk1; rw [answer_client _ (by exact hI.cl3) hi] at hk1; cases hk1
    | none =>
      simp only
      split
      · intro _ x hx; rw [e] at hx; cases hx
      · intro _ x hx
        have e2 := client_cl (askQ_cl p (p.client i).pl false []) i
        rw [e2] at hx
        have e3 : (p.askQ (p.client i).pl false []).2.hand = p.hand := by rcases askQ_cases (p := p) (p.client i).pl false [] with ⟨_, e⟩ | ⟨L, _, e⟩ <;> rw [e]
        rw [e3, e] at hx; cases hx
  · rename_i hk
    have none1 : ∀ q : Sk, q.cl.length = 3 → (q.client i).kind = (p.client i).kind ∨ (q.client i).kind = 0 → Seen1 q i := fun q _ h hk1 => by
      rcases h with h | h
      · exact absurd (h.symm.trans hk1) hk
      · rw [h] at hk1; cases hk1
    split
    · unfold Sk.serveWrite
      split
      · exact none1 _ (by show (List.set _ _ _).length = 3; rw [List.length_set]; exact hI.cl3) (Or.inr (by rw [answer_client _ hI.cl3 hi]))
      split
      · exact none1 _ hI.cl3 (Or.inl rfl)
      split
      · exact none1 _ (by show (List.set _ _ _).length = 3; rw [List.length_set]; exact hI.cl3) (Or.inr (by rw [answer_client _ (by exact hI.cl3) hi]))
      · exact none1 _ hI.cl3 (Or.inl rfl)
    split
    · unfold Sk.serveSync
      split
      · exact none1 _ (by show (List.set _ _ _).length = 3; rw [List.length_set]; exact hI.cl3) (Or.inr (by rw [answer_client _ hI.cl3 hi]))
      split
      · exact none1 _ (by show (List.set _ _ _).length = 3; rw [List.length_set]; exact hI.cl3) (Or.inr (by rw [answer_client _ (by exact hI.cl3) hi]))
      · exact none1 _ (by show (List.set _ _ _).length = 3; rw [List.length_set]; exact hI.cl3) (Or.inl (by rw [clientSet p hI.cl3 hi, if_pos rfl]))
    · exact none1 _ hI.cl3 (Or.inl rfl)
/-- What a serving makes of what is at hand: what is found there then was, or is dirty. -/
theorem serve1_hand {p : Sk} (hI : Inv p) (i : Nat) (a : Int) (x : Bf) (hx : getB (p.serve1 i).hand a = some x) : x.dirty = true ∨ ∃ y, getB p.hand a = some y ∧ y.dirty = x.dirty := by
  unfold Sk.serve1 at hx
  split at hx
  · unfold Sk.serveRead at hx
    split at hx
    · have hx' : getB (useL p.hand (p.client i).pl (p.uses + 1)) a = some x := hx
      rw [useL_get] at hx'
      obtain ⟨y, hy, rfl⟩ := Option.map_eq_some_iff.1 hx'
      exact Or.inr ⟨y, hy, by split <;> rfl⟩
    · split at hx
      · exact Or.inr ⟨x, hx, rfl⟩
      · have e3 : (p.askQ (p.client i).pl false []).2.hand = p.hand := by rcases askQ_cases (p := p) (p.client i).pl false [] with ⟨_, e⟩ | ⟨L, _, e⟩ <;> rw [e]
        rw [e3] at hx
        exact Or.inr ⟨x, hx, rfl⟩
  split at hx
  · unfold Sk.serveWrite at hx
    split at hx
    · exact Or.inr ⟨x, hx, rfl⟩
    split at hx
    · exact Or.inr ⟨x, hx, rfl⟩
    split at hx
    · rename_i l e
      have P := putB_some hI.hand e
      have hx' : getB l a = some x := hx
      by_cases ha : a = (p.client i).pl
      · have hs : getB l (p.client i).pl = _ := P.same
        rw [ha, hs] at hx'
        obtain rfl := Option.some.inj hx'
        exact Or.inl rfl
      · rcases P.other a ha with e1 | ⟨e1, _⟩
        · rw [e1] at hx'; exact Or.inr ⟨x, hx', rfl⟩
        · rw [e1] at hx'; cases hx'
    · exact Or.inr ⟨x, hx, rfl⟩
  split at hx
  · unfold Sk.serveSync at hx
    split at hx
    · exact Or.inr ⟨x, hx, rfl⟩
    split at hx
    · exact Or.inr ⟨x, hx, rfl⟩
    · exact Or.inr ⟨x, hx, rfl⟩
  · exact Or.inr ⟨x, hx, rfl⟩
theorem seen_j {p : Sk} (hI : Inv p) {i j : Nat} (hj : j ≠ i) (h : Seen1 p j) : Seen1 (p.serve1 i) j := by
  intro hk x hx
  rw [serve1_other p hj] at hk hx
  rcases serve1_hand hI i _ x hx with e | ⟨y, hy, e⟩
  · exact e
  · rw [← e]; exact h hk y hy
theorem seen_serve {p : Sk} (hI : Inv p) : Seen p.serve := by
  have i1 := hI.serve1 0
  have i2 := i1.serve1 1
  intro i hi
  match i, hi with
  | 0, _ => exact seen_j i2 (by omega) (seen_j i1 (by omega) (seen_i hI (by omega)))
  | 1, _ => exact seen_j i2 (by omega) (seen_i i1 (by omega))
  | 2, _ => exact seen_i i2 (by omega)
theorem Seen.congr {p q : Sk} (h : Seen p) (hc : q.cl = p.cl) (hh : q.hand = p.hand) : Seen q := fun i hi => by
  unfold Seen1; rw [client_cl hc, hh]; exact h i hi
theorem askQ_hand (p : Sk) (pl : Int) (wr : Bool) (data : List ByteArray) : (p.askQ pl wr data).2.hand = p.hand := by rcases askQ_cases (p := p) pl wr data with ⟨_, e⟩ | ⟨L, _, e⟩ <;> rw [e]
theorem clean_hand (p : Sk) : p.clean.2.hand = p.hand ∧ p.clean.2.cl = p.cl := by
  unfold Sk.clean
  split
  · exact ⟨rfl, rfl⟩
  split
  · exact ⟨rfl, rfl⟩
  · exact ⟨askQ_hand p _ _ _, askQ_cl p _ _ _⟩
theorem dispatch_hand (p : Sk) : p.dispatch.2.hand = p.hand ∧ p.dispatch.2.cl = p.cl := by
  unfold Sk.dispatch
  split
  · exact ⟨rfl, rfl⟩
  · exact ⟨rfl, rfl⟩
theorem dispatches_hand (n : Nat) : ∀ p : Sk, (p.dispatches n).hand = p.hand ∧ (p.dispatches n).cl = p.cl := by
  induction n with
  | zero => intro p; exact ⟨rfl, rfl⟩
  | succ n ih =>
    intro p
    unfold Sk.dispatches
    split
    · exact ⟨(ih _).1.trans (dispatch_hand p).1, (ih _).2.trans (dispatch_hand p).2⟩
    · exact ⟨rfl, rfl⟩
/-! ### a write ends well -/
def cleanW (r : Rq) (n : Nat) (x : Bf) : Bf := if r.f ≤ x.pl ∧ x.pl < r.f + n ∧ x.data = dataAt r x.pl then { x with dirty := false } else x
theorem wentTo_wr {p : Sk} {r : Rq} (hw : r.wr = true) (xs : List ByteArray) : ∀ n : Nat, (p.wentTo r xs n).hand = p.hand.map (cleanW r n) ∧ (p.wentTo r xs n).cl = p.cl
  | 0 => by
    refine ⟨?_, rfl⟩
    show p.hand = _
    have : ∀ x ∈ p.hand, cleanW r 0 x = x := fun x _ => by unfold cleanW; rw [if_neg]; rintro ⟨h1, h2, _⟩; simp at h2; omega
    rw [List.map_congr_left (g := id) this, List.map_id]
  | n + 1 => by
    obtain ⟨h1, h2⟩ := wentTo_wr hw xs n (p := p)
    rw [wentTo_succ]
    unfold Sk.wentOne
    rw [if_pos hw]
    refine ⟨?_, h2⟩
    show cleanL _ _ _ = _
    unfold cleanL
    rw [h1, List.map_map]
    refine List.map_congr_left (fun x _ => ?_)
    show (if (cleanW r n x).pl = r.f + n ∧ (cleanW r n x).data = r.data.getD n ByteArray.empty then { cleanW r n x with dirty := false } else cleanW r n x) = cleanW r (n + 1) x
    have e1 : (cleanW r n x).pl = x.pl := by unfold cleanW; split <;> rfl
    have e2 : (cleanW r n x).data = x.data := by unfold cleanW; split <;> rfl
    rw [e1, e2]
    by_cases ha : x.pl = r.f + n
    · have hd : dataAt r x.pl = r.data.getD n ByteArray.empty := by
        unfold dataAt; rw [ha]; congr 1; omega
      have hg : cleanW r n x = x := by unfold cleanW; rw [if_neg]; rintro ⟨_, h3, _⟩; omega
      rw [hg]
      unfold cleanW
      by_cases hx : x.data = r.data.getD n ByteArray.empty
      · rw [if_pos ⟨ha, hx⟩, if_pos ⟨by omega, by omega, hx.trans hd.symm⟩]
      · rw [if_neg (fun h => hx h.2), if_neg (fun h => hx (h.2.2.trans hd))]
    · rw [if_neg (fun h => ha h.1)]
      unfold cleanW
      by_cases hx : r.f ≤ x.pl ∧ x.pl < r.f + n ∧ x.data = dataAt r x.pl
      · rw [if_pos hx, if_pos ⟨hx.1, by omega, hx.2.2⟩]
      · rw [if_neg hx, if_neg (fun h => hx ⟨h.1, by have := h.2.1; omega, h.2.2⟩)]
theorem readB_took {p : Sk} {k : Nat} (hk : k < p.dev.busy.length) (a : Int) : readB p.all a = (readB (p.took k).all a || (!p.dev.busy[k].wr && onB p.dev.busy[k] a)) := by
  rw [Bool.eq_iff_iff, Bool.or_eq_true, readB_iff, readB_iff, Bool.and_eq_true, Bool.not_eq_true', onB_iff]
  constructor
  · rintro ⟨r, hr, h⟩
    rcases List.mem_append.1 ((took_all hk).mem_iff.1 hr) with h' | h'
    · exact Or.inl ⟨r, h', h⟩
    · rw [List.mem_singleton.1 h'] at h; exact Or.inr h
  · rintro (⟨r, hr, h⟩ | h)
    · exact ⟨r, took_sub k r hr, h⟩
    · exact ⟨_, List.mem_append_right _ (List.getElem_mem hk), h⟩
theorem rdN_took {p : Sk} {k : Nat} (hk : k < p.dev.busy.length) : rdN p.all = rdN (p.took k).all + if p.dev.busy[k].wr = true then 0 else 1 := by
  unfold rdN
  rw [(took_all hk).countP_eq, List.countP_append, List.countP_cons, List.countP_nil]
  cases p.dev.busy[k].wr <;> simp
theorem stale_took {p : Sk} (k : Nat) {x : Bf} (h : staleB (p.took k).all x = true) : staleB p.all x = true := by
  obtain ⟨r, hr, h⟩ := staleB_iff.1 h
  exact staleB_iff.2 ⟨r, took_sub k r hr, h⟩
theorem pot_wrote {p : Sk} (hI : Inv p) (hT : Tight p) {k : Nat} (hk : k < p.dev.busy.length) (hw : p.dev.busy[k].wr = true) (xs : List ByteArray) : (((p.took k).did p.dev.busy[k]).wentWell p.dev.busy[k] xs).pot + 1 ≤ p.pot := by
  have hm : p.dev.busy[k] ∈ p.all := List.mem_append_right _ (List.getElem_mem hk)
  have gr := hI.good _ hm
  have hb := gr.bds
  have hf := took_freed hI hk
  generalize hr : p.dev.busy[k] = r at *
  obtain ⟨e1, e2⟩ := wentTo_wr (p := (p.took k).did r) hw xs r.m.toNat
  have e3 : (((p.took k).did r).wentWell r xs).all = (p.took k).all := by
    show (Sk.wentTo _ _ _ _).all = _
    rw [wentTo_all, did_all]
  have ron : ∀ x : Bf, (r.f ≤ x.pl ∧ x.pl < r.f + r.m.toNat) ↔ r.on x.pl := fun x => by unfold Rq.on; omega
  have hle : ∀ x ∈ p.hand, wtB (p.took k).all (cleanW r r.m.toNat x) ≤ wtB p.all x ∧ (r.on x.pl → x.dirty = true → wtB (p.took k).all (cleanW r r.m.toNat x) < wtB p.all x) := fun x _ => by
    by_cases ho : r.on x.pl
    · have hns : staleB (p.took k).all x = false := by
        cases e : staleB (p.took k).all x
        · rfl
        · obtain ⟨r', hr', _, ho', _⟩ := staleB_iff.1 e
          exact absurd ho' (hf r' hr' _ ho)
      by_cases hd : x.dirty = true
      · by_cases hx : x.data = dataAt r x.pl
        · have : wtB (p.took k).all (cleanW r r.m.toNat x) = 0 := by
            unfold cleanW; rw [if_pos ⟨((ron x).2 ho).1, ((ron x).2 ho).2, hx⟩]; rfl
          have h1 : 1 ≤ wtB p.all x := by unfold wtB; rw [if_pos hd]; split <;> omega
          exact ⟨by omega, fun _ _ => by omega⟩
        · have h0 : cleanW r r.m.toNat x = x := by unfold cleanW; rw [if_neg (fun h => hx h.2.2)]
          have h1 : wtB (p.took k).all x = 1 := by unfold wtB; rw [if_pos hd, hns]; rfl
          have h2 : wtB p.all x = 2 := by
            unfold wtB
            rw [if_pos hd, if_pos (staleB_iff.2 ⟨r, hm, hw, ho, fun e => hx e.symm⟩)]
          rw [h0, h1, h2]
          exact ⟨by omega, fun _ _ => by omega⟩
      · have : wtB (p.took k).all (cleanW r r.m.toNat x) = 0 := by
          have h0 : (cleanW r r.m.toNat x).dirty = false := by
            unfold cleanW
            split
            · rfl
            · simpa using hd
          unfold wtB
          rw [if_neg (by rw [h0]; exact Bool.false_ne_true)]
        exact ⟨by omega, fun _ h => absurd h hd⟩
    · have h0 : cleanW r r.m.toNat x = x := by unfold cleanW; rw [if_neg (fun h => ho ((ron x).1 ⟨h.1, h.2.1⟩))]
      rw [h0]
      exact ⟨wtB_mono (stale_took k), fun h => absurd h ho⟩
  have hon : r.on r.f := ⟨by omega, by omega⟩
  obtain ⟨t1, t2⟩ := hT r hm r.f hon
  obtain ⟨y, hy⟩ := t2 hw
  have hyd := t1 y hy
  obtain ⟨hym, hyp⟩ := getB_some hy
  have hH : sumB (wtB (p.took k).all) (p.hand.map (cleanW r r.m.toNat)) + 1 ≤ sumB (wtB p.all) p.hand := by
    rw [sumB_map]
    exact sumB_lt (fun x hx => (hle x hx).1) hym ((hle y hym).2 (by rw [hyp]; exact hon) hyd)
  have hR : rdN (p.took k).all = rdN p.all := by have := rdN_took hk; rw [hr, hw] at this; simp at this; exact this.symm
  have hC : ∀ i, wtC (p.took k).all (p.hand.map (cleanW r r.m.toNat)) (p.client i) ≤ p.wc i := fun i => wtC_mono (fun h => by
    have := readB_took hk (p.client i).pl
    rw [hr, hw, h] at this
    simpa using this.symm) (fun _ h => by
    rw [map_find _ _ (fun x => by unfold cleanW; split <;> rfl)] at h
    simpa using h)
  have eh : (((p.took k).did r).wentWell r xs).hand = p.hand.map (cleanW r r.m.toNat) := e1
  have ec : (((p.took k).did r).wentWell r xs).cl = p.cl := e2
  unfold Sk.pot
  have w : ∀ i, (((p.took k).did r).wentWell r xs).wc i ≤ p.wc i := fun i => by
    unfold Sk.wc
    rw [e3, eh, client_cl ec]
    exact hC i
  have w0 := w 0
  have w1 := w 1
  have w2 := w 2
  rw [e3, eh, hR]
  omega
end Go.Proofs.YtgjkdhedkbkagaaGreat
