/- Put: what is at hand then, in order. -/
import Derived.Test.YtgjkdhedkbkagaaGreatJ18
import Derived.Test.YtgjkdhedkbkagaaGreatJ11
import Derived.Test.YtgjkdhedkbkagaaGreatJ2
import Derived.Test.YtgjkdhedkbkagaaGreatJ6
import Derived.Deep.RegionHeld3
import Derived.Deep.DeepCutAuto
namespace Go.Proofs.YtgjkdhedkbkagaaGreat
set_option maxRecDepth 100000

def ltB (a b : Bf) : Prop := a.pl < b.pl
theorem GoodB.pair {l : List Bf} (h : GoodB l) : l.Pairwise ltB := by
  rw [List.pairwise_iff_getElem]
  intro i j hi hj hij
  exact h.lt' i j hij hj
theorem gtAt_spec (at' : Int) (l : List Bf) : (∀ j (hj : j < l.length), j < gtAt at' l → l[j].pl ≤ at') ∧ (∀ (h : gtAt at' l < l.length), at' < l[gtAt at' l].pl) := by
  unfold gtAt
  cases e : l.findIdx? (gtB at') with
  | none =>
    rw [List.findIdx?_eq_none_iff] at e
    refine ⟨fun j hj _ => ?_, fun h => absurd h (Nat.lt_irrefl _)⟩
    have := e _ (List.getElem_mem hj)
    simp only [gtB, decide_eq_false_iff_not] at this
    omega
  | some k =>
    rw [List.findIdx?_eq_some_iff_getElem] at e
    obtain ⟨h1, h2, h3⟩ := e
    refine ⟨fun j hj hjk => ?_, fun h => by simpa [gtB] using h2⟩
    have := h3 j hjk
    simp only [gtB, decide_eq_true_eq] at this
    omega
theorem insL_pair {l : List Bf} {x : Bf} (h : l.Pairwise ltB) (hx : ∀ y ∈ l, y.pl ≠ x.pl) : (insL l x).Pairwise ltB := by
  obtain ⟨s1, s2⟩ := gtAt_spec x.pl l
  have hp := List.pairwise_iff_getElem.1 h
  have h1 : ∀ y ∈ l.take (gtAt x.pl l), y.pl < x.pl := by
    intro y hy
    obtain ⟨j, hj, rfl⟩ := List.getElem_of_mem hy
    rw [List.length_take] at hj
    rw [List.getElem_take]
    have a := s1 j (by omega) (by omega)
    have b := hx _ (List.getElem_mem (show j < l.length by omega))
    omega
  have h2 : ∀ y ∈ l.drop (gtAt x.pl l), x.pl < y.pl := by
    intro y hy
    obtain ⟨j, hj, rfl⟩ := List.getElem_of_mem hy
    rw [List.length_drop] at hj
    rw [List.getElem_drop]
    have hg : gtAt x.pl l < l.length := by omega
    have a := s2 hg
    by_cases e : j = 0
    · subst e; simpa using a
    · have b := hp (gtAt x.pl l) (gtAt x.pl l + j) hg (by omega) (by omega)
      simp only [ltB] at b
      omega
  rw [insL, List.pairwise_append]
  refine ⟨h.sublist (List.take_sublist _ _), ?_, ?_⟩
  · rw [List.pairwise_cons]
    exact ⟨h2, h.sublist (List.drop_sublist _ _)⟩
  · intro a ha b hb
    rw [List.mem_cons] at hb
    rcases hb with rfl | hb
    · exact h1 a ha
    · have := h1 a ha; have := h2 b hb; simp only [ltB]; omega
theorem at_mem {m : List Bf} (hr : m.Pairwise ltB) {y : Bf} (hy : y ∈ m) : ∃ j : Nat, ∃ hj : j < m.length, idxB (plB y.pl) m = j ∧ m[j] = y := by
  obtain ⟨j, hj, e⟩ := idx_mem hy
  refine ⟨j, hj, e, ?_⟩
  have hp := idx_pl hj e
  obtain ⟨n, hn, rfl⟩ := List.getElem_of_mem hy
  have hq := List.pairwise_iff_getElem.1 hr
  rcases Nat.lt_trichotomy j n with h | h | h
  · have := hq j n hj hn h; simp only [ltB] at this; omega
  · subst h; rfl
  · have := hq n j hn hj h; simp only [ltB] at this; omega

structure PutFacts (l : List Bf) (x : Bf) (H : Int → Bool) (m : List Bf) (K : Nat) : Prop where
  rise : m.Pairwise ltB
  len : m.length ≤ 8
  has : x ∈ m
  kle : K ≤ l.length
  kept : ∀ i (hi : i < l.length), l[i].pl ≠ x.pl → i ≠ K → l[i] ∈ m
  gone : ∀ (hK : K < l.length), l.length = 8 ∧ l[K].dirty = false ∧ H l[K].pl = false ∧ idxB (plB l[K].pl) m = -1 ∧ l[K].pl ≠ x.pl

theorem idx_no {l : List Bf} {at' : Int} (h : idxB (plB at') l = -1) : ∀ y ∈ l, y.pl ≠ at' := by
  intro y hy
  rcases idx_spec (plB at') l with ⟨_, h1⟩ | ⟨k, hk, e, _⟩
  · obtain ⟨j, hj, rfl⟩ := List.getElem_of_mem hy
    have := h1 j hj
    simpa [plB] using this
  · rw [h] at e; omega
theorem PutsM.facts {l : List Bf} {x : Bf} {H : Int → Bool} {m : List Bf} (h : PutsM l x H m) (G : GoodB l) : ∃ K, PutFacts l x H m K := by
  have hp := G.pair
  rcases h with ⟨k, hk, hix, rfl⟩ | ⟨hix, h8, rfl⟩ | ⟨hix, h8, k, hk, hr, rfl⟩
  · refine ⟨l.length, ⟨?_, by rw [List.length_set]; exact G.len, List.mem_set hk x, Nat.le_refl _, fun i hi hne _ => ?_, fun h => absurd h (Nat.lt_irrefl _)⟩⟩
    · have hpl := idx_pl hk hix
      rw [List.pairwise_iff_getElem]
      intro i j hi hj hij
      rw [List.length_set] at hi hj
      have := G.lt' i j hij hj
      simp only [ltB, List.getElem_set]
      split <;> split
      · omega
      · rename_i e1 _; subst e1; omega
      · rename_i _ e2; subst e2; omega
      · exact this
    · by_cases e : i = k
      · subst e; exact absurd (idx_pl hk hix) hne
      · have hi' : i < (l.set k x).length := by rw [List.length_set]; exact hi
        have hm := List.getElem_mem hi'
        rw [List.getElem_set_ne (fun h => e h.symm)] at hm
        exact hm
  · refine ⟨l.length, ⟨insL_pair hp (idx_no hix), by rw [insL_length]; omega, mem_insL.2 (Or.inl rfl), Nat.le_refl _, fun i hi _ _ => mem_insL.2 (Or.inr (List.getElem_mem hi)), fun h => absurd h (Nat.lt_irrefl _)⟩⟩
  · have hno : ∀ y ∈ l.eraseIdx k, y.pl ≠ x.pl := fun y hy => idx_no hix y (List.mem_of_mem_eraseIdx hy)
    refine ⟨k, ⟨insL_pair (hp.sublist (List.eraseIdx_sublist _ _)) hno, by rw [insL_length, List.length_eraseIdx, if_pos hk]; omega, mem_insL.2 (Or.inl rfl), Nat.le_of_lt hk, fun i hi _ hne => ?_, fun _ => ?_⟩⟩
    · rw [mem_insL, List.mem_eraseIdx_iff_getElem]
      exact Or.inr ⟨i, hi, hne, rfl⟩
    · have hf : fitB false H l[k] = true := by
        rcases leastU_spec (fitB false H) l l.length (Nat.le_refl _) with ⟨e2, _⟩ | ⟨k', hk', _, e2, hf, _⟩
        · rw [hr] at e2; omega
        · have : k' = k := by rw [hr] at e2; omega
          subst this; exact hf
      rw [fitB, Bool.and_eq_true] at hf
      have hx := idx_no hix _ (List.getElem_mem hk)
      refine ⟨h8, by simpa using hf.1, by simpa using hf.2, ?_, hx⟩
      apply idx_none
      intro j hj
      simp only [plB, beq_eq_false_iff_ne]
      have hm := List.getElem_mem hj
      rw [mem_insL, List.mem_eraseIdx_iff_getElem] at hm
      rcases hm with hm | ⟨n, hn, hne, hm⟩
      · rw [hm]; exact fun h => hx h.symm
      · rw [← hm]
        rcases Nat.lt_or_gt_of_ne hne with h | h
        · have := G.lt' n k h hk; omega
        · have := G.lt' k n h hn; omega
end Go.Proofs.YtgjkdhedkbkagaaGreat
/- Use. -/
namespace Go.Proofs.YtgjkdhedkbkagaaGreat
open Go.RowKit Go.BigFrame
set_option maxRecDepth 100000
attribute [local go_sem] Later.cell Later.frozen

/-- What Use leaves: the sector was used now. -/
def useL (l : List Bf) (at' now : Int) : List Bf := l.map fun x => if x.pl = at' then { x with used := now } else x
theorem use_no {l : List Bf} {at' now : Int} (h : idxB (plB at') l = -1) : useL l at' now = l := by
  rcases idx_spec (plB at') l with ⟨_, h1⟩ | ⟨k, hk, e, _⟩
  · apply List.ext_getElem (by simp [useL])
    intro i hi h2
    simp only [useL, List.getElem_map]
    have := h1 i h2
    simp only [plB, beq_eq_false_iff_ne] at this
    rw [if_neg this]
  · rw [h] at e; omega
theorem use_yes {l : List Bf} {at' now : Int} {k : Nat} (hk : k < l.length) (ho : OnceB l) (h : idxB (plB at') l = k) : useL l at' now = l.set k { l[k] with used := now } := by
  have hp : l[k].pl = at' := by
    rcases idx_spec (plB at') l with ⟨e, _⟩ | ⟨k', hk', e, h2, _⟩
    · rw [h] at e; omega
    · have : k' = k := by omega
      subst this
      simpa [plB] using h2
  apply List.ext_getElem (by simp [useL])
  intro i hi h2
  rw [List.length_set] at h2
  simp only [useL, List.getElem_map]
  by_cases e : i = k
  · subst e
    rw [List.getElem_set_self, if_pos hp]
  · rw [List.getElem_set_ne (fun h => e h.symm), if_neg (fun c => e (ho i k h2 hk (c.trans hp.symm)))]

set_option maxHeartbeats 2000000 in
theorem useG (l : List Bf) (a : Option Addr) (c : Nat) (at' now : Int) (w : World) (hl : BufsAt w a l) (hn : a = none → c = 0) (h10 : l.length ≤ 1000) (ho : OnceB l) :
    Calls Tryz.prog 99 #[.slice a l.length c, .int .i64 at', .int .i64 now] w fun e w' => ∃ a' c', e = .returned (.slice a' l.length c') ∧ BufsAt w' a' (useL l at' now) ∧ l.length ≤ c' ∧ Below w.heap.size w w' := by
  have HO := hidC ho
  clear ho
  rcases idx_spec (plB at') l with ⟨h, _⟩ | ⟨k, hk, h, _, _⟩
  · have HC := hidC (use_no (now := now) h)
    go_enter Tryz.func99, Tryz.ntmps99
    go_wp2_with fail
    refine (cloneB_any l a c _ hl hn (by omega)).mono ?_
    rintro e w1 ⟨a', c', rfl, hN, hb1⟩
    go_wp2_with fail
    refine (place_eq l a' c' at' _ hN.here _ h).mono ?_
    rintro e w2 ⟨rfl, hb2⟩
    have R := hN.here.later hb2
    have cp := hN.cap
    clear hN h
    go_wp2
    go_ret
    exact ⟨a', c', rfl, by rw [HC.out]; exact R, cp, bthen hb1 hb2⟩
  · have h0 : l ≠ [] := by rintro rfl; exact absurd hk (Nat.not_lt_zero _)
    have H0 := hidC h0
    clear h0
    have HC := hidC (use_yes (now := now) hk HO.out h)
    go_enter Tryz.func99, Tryz.ntmps99
    go_wp2_with fail
    refine (cloneB_any l a c _ hl hn (by omega)).mono ?_
    rintro e w1 ⟨a', c', rfl, hN, hb1⟩
    obtain ⟨b, rfl, hbb, hlt, hfz⟩ := hN.place H0.out
    go_wp2_with fail
    refine (place_eq l _ c' at' _ hN.here _ h).mono ?_
    rintro e w2 ⟨rfl, hb2⟩
    have R := hN.here.later hb2
    have cp := hN.cap
    have hf2 : w2.frozen? ⟨b, 0 + k * 4 + 3, none⟩ = false := by rw [hb2.frozen (p := ⟨b, 0 + k * 4 + 3, none⟩) hlt]; exact hfz _
    obtain ⟨c0, c1, c2, c3⟩ := R.cells hk
    rw [Nat.zero_add] at c0 c1 c2 c3 hf2
    clear hN h hfz
    have HB2 := bthen hb1 hb2
    go_wp2
    go_ret
    refine ⟨_, c', rfl, ?_, cp, by repeat (first | with_reducible exact Below.refl _ _ | with_reducible refine balloc ?_ _ | with_reducible refine bdrew ?_ | with_reducible refine bset' ?_ (by omega) _ | with_reducible refine bthen ?_ (by assumption))⟩
    rw [HC.out]
    have := R.set hk 3 (by omega) { l[k] with used := now } (.int .i64 now) rfl (fun i hi hne => by rcases (show i = 0 ∨ i = 1 ∨ i = 2 by omega) with rfl | rfl | rfl <;> rfl)
    rw [Nat.zero_add] at this
    exact this
end Go.Proofs.YtgjkdhedkbkagaaGreat
/- request.Merge of two requests that may be: what B2 says. -/
namespace Go.Proofs.YtgjkdhedkbkagaaGreat
open Go.RowKit Go.BigFrame
set_option maxRecDepth 100000
attribute [local go_sem] Later.cell Later.frozen

/-- Do two go together, the first one with the lower sectors? -/
def togB (a b : Rq) : Bool := decide (a.f + a.m = b.f) && ((a.wr == b.wr) && (decide (a.m + b.m ≤ 4) && decide (a.tags.length + b.tags.length ≤ 4)))

theorem Good.bnd {r : Rq} (h : Good r) : 0 ≤ r.f ∧ r.f ≤ 31 ∧ 1 ≤ r.m ∧ r.m ≤ 4 ∧ r.m ≤ 32 - r.f := by
  have := h.ok
  simp only [okB, decide_eq_true_eq] at this
  omega
theorem wrap_sum {f m : Int} (h0 : 0 ≤ f) (h1 : f ≤ 100) (h2 : 0 ≤ m) (h3 : m ≤ 100) : wrap64 (f + m) = f + m := by
  unfold wrap64; omega

set_option maxHeartbeats 1000000 in
theorem tog_any (a b : Rq) (w : World) (ha : Good a) (hb : Good b) :
    Calls Tryz.prog 115 #[a.val, b.val] w fun e w' => e = .returned (.bool (togB a b)) ∧ Below w.heap.size w w' := by
  obtain ⟨x1, x2, x3, x4, x5⟩ := ha.bnd
  obtain ⟨y1, y2, y3, y4, y5⟩ := hb.bnd
  have at4 := ha.t4
  have bt4 := hb.t4
  have e1 : wrap64 (a.f + a.m) = a.f + a.m := wrap_sum (by omega) (by omega) (by omega) (by omega)
  have hn : (wrap64 (a.f + a.m) == b.f) = decide (a.f + a.m = b.f) := by rw [e1]; rfl
  clear ha hb e1
  have HT : Hid (togB a b = (decide (a.f + a.m = b.f) && ((a.wr == b.wr) && (decide (a.m + b.m ≤ 4) && decide (a.tags.length + b.tags.length ≤ 4))))) := rfl
  generalize togB a b = R at HT ⊢
  have e2 : IntKind.i64.wrap (a.m + b.m) = a.m + b.m := by rw [IntKind.wrap_i64]; omega
  have e3 : IntKind.i64.wrap ((a.tags.length : Int) + (b.tags.length : Int)) = (a.tags.length : Int) + (b.tags.length : Int) := by rw [IntKind.wrap_i64]; omega
  have e4 : decide (a.tags.length + b.tags.length ≤ 4) = decide ((a.tags.length : Int) + (b.tags.length : Int) ≤ 4) := by rw [decide_eq_decide]; omega
  replace HT : Hid (R = (decide (a.f + a.m = b.f) && ((a.wr == b.wr) && (decide (a.m + b.m ≤ 4) && decide ((a.tags.length : Int) + (b.tags.length : Int) ≤ 4))))) := by rw [← e4]; exact HT
  clear e4
  cases h1 : decide (a.f + a.m = b.f)
  · rw [h1] at hn
    rw [h1] at HT
    clear h1
    obtain rfl : R = false := HT.out
    clear HT
    go_enter Tryz.func115, Tryz.ntmps115
    go_wp2_with fail
    go_at_call 114; refine (next_eq _ _ _ _ _ _ hn).mono ?_; rintro e w1 ⟨rfl, hb⟩; (try clear hc hf hz); (first | replace HB := bthen HB hb | replace HB := bthen (bdrew HB) hb | have HB := hb); clear hb; obtain ⟨hc, hf, hz⟩ := bcell HB
    go_wp2
    go_ret
    exact ⟨rfl, by repeat (first | with_reducible exact Below.refl _ _ | with_reducible refine balloc ?_ _ | with_reducible refine bdrew ?_ | with_reducible refine bset' ?_ (by omega) _ | with_reducible refine bthen ?_ (by assumption))⟩
  · rw [h1] at hn HT
    clear h1
    cases h2 : (a.wr == b.wr)
    · rw [h2] at HT
      obtain rfl : R = false := HT.out
      clear HT
      go_enter Tryz.func115, Tryz.ntmps115
      go_wp2_with fail
      go_at_call 114; refine (next_eq _ _ _ _ _ _ hn).mono ?_; rintro e w1 ⟨rfl, hb⟩; (try clear hc hf hz); (first | replace HB := bthen HB hb | replace HB := bthen (bdrew HB) hb | have HB := hb); clear hb; obtain ⟨hc, hf, hz⟩ := bcell HB
      go_wp2
      go_ret
      exact ⟨rfl, by repeat (first | with_reducible exact Below.refl _ _ | with_reducible refine balloc ?_ _ | with_reducible refine bdrew ?_ | with_reducible refine bset' ?_ (by omega) _ | with_reducible refine bthen ?_ (by assumption))⟩
    · rw [h2] at HT
      cases h3 : decide (a.m + b.m ≤ 4)
      · rw [h3] at HT
        obtain rfl : R = false := HT.out
        clear HT
        go_enter Tryz.func115, Tryz.ntmps115
        go_wp2_with fail
        go_at_call 114; refine (next_eq _ _ _ _ _ _ hn).mono ?_; rintro e w1 ⟨rfl, hb⟩; (try clear hc hf hz); (first | replace HB := bthen HB hb | replace HB := bthen (bdrew HB) hb | have HB := hb); clear hb; obtain ⟨hc, hf, hz⟩ := bcell HB
        go_wp2
        go_ret
        exact ⟨rfl, by repeat (first | with_reducible exact Below.refl _ _ | with_reducible refine balloc ?_ _ | with_reducible refine bdrew ?_ | with_reducible refine bset' ?_ (by omega) _ | with_reducible refine bthen ?_ (by assumption))⟩
      · rw [h3] at HT
        obtain rfl : R = decide ((a.tags.length : Int) + (b.tags.length : Int) ≤ 4) := HT.out
        clear HT
        go_enter Tryz.func115, Tryz.ntmps115
        go_wp2_with fail
        go_at_call 114; refine (next_eq _ _ _ _ _ _ hn).mono ?_; rintro e w1 ⟨rfl, hb⟩; (try clear hc hf hz); (first | replace HB := bthen HB hb | replace HB := bthen (bdrew HB) hb | have HB := hb); clear hb; obtain ⟨hc, hf, hz⟩ := bcell HB
        go_wp2
        go_ret
        exact ⟨rfl, by repeat (first | with_reducible exact Below.refl _ _ | with_reducible refine balloc ?_ _ | with_reducible refine bdrew ?_ | with_reducible refine bset' ?_ (by omega) _ | with_reducible refine bthen ?_ (by assumption))⟩
end Go.Proofs.YtgjkdhedkbkagaaGreat
/- request.Merge of two requests that may be: what B2 says. -/
namespace Go.Proofs.YtgjkdhedkbkagaaGreat
open Go.RowKit Go.BigFrame
set_option maxRecDepth 100000
attribute [local go_sem] Later.cell Later.frozen

abbrev noReq : Value := .agg #[.bool false, .int .i64 0, .int .i64 0, .slice none 0 0, .slice none 0 0, .int .i64 0]

theorem sixLast {w w1 : World} {a0 a1 a2 a3 a4 a5 : Value} {T : TypeId} (HB : Below (w.alloc (.cells #[a0, a1, a2, a3, a4, a5] T)).heap.size (w.alloc (.cells #[a0, a1, a2, a3, a4, a5] T)) w1) :
    w1.cell? ⟨w.heap.size, 0, none⟩ = some a0 ∧ w1.cell? ⟨w.heap.size, 1, none⟩ = some a1 ∧ w1.cell? ⟨w.heap.size, 2, none⟩ = some a2 ∧ w1.cell? ⟨w.heap.size, 3, none⟩ = some a3 ∧ w1.cell? ⟨w.heap.size, 4, none⟩ = some a4 ∧ w1.cell? ⟨w.heap.size, 5, none⟩ = some a5 := by
  have c := fun o => HB.cell (p := ⟨w.heap.size, o, none⟩) (by simp only [World.size_alloc]; omega)
  refine ⟨?_, ?_, ?_, ?_, ?_, ?_⟩
  all_goals rw [c]
  all_goals simp

theorem tog_eq (a b : Rq) (w : World) (ha : Good a) (hb : Good b) (t : Bool) (ht : togB a b = t) :
    Calls Tryz.prog 115 #[a.val, b.val] w fun e w' => e = .returned (.bool t) ∧ Below w.heap.size w w' := by
  subst ht; exact tog_any a b w ha hb

set_option maxHeartbeats 1000000 in
theorem merge_no (a b : Rq) (w : World) (ha : Good a) (hb : Good b) (h1 : (wrap64 (b.f + b.m) == a.f) = false) (h2 : togB a b = false) :
    Calls Tryz.prog 98 #[a.val, b.val] w fun e w' => e = .returned (.tuple #[noReq, .bool false]) ∧ Below w.heap.size w w' := by
  go_enter Tryz.func98, Tryz.ntmps98
  go_wp2_with fail
  go_at_call 114; refine (next_eq _ _ _ _ _ _ h1).mono ?_; rintro e w1 ⟨rfl, hb⟩; (try clear hc hf hz); (first | replace HB := bthen HB hb | replace HB := bthen (bdrew HB) hb | have HB := hb); clear hb; obtain ⟨hc, hf, hz⟩ := bcell HB
  go_wp2_with fail
  go_at_call 115; refine (tog_eq a b _ ha hb _ h2).mono ?_; rintro e w1 ⟨rfl, hb⟩; (try clear hc hf hz); (first | replace HB := bthen HB hb | replace HB := bthen (bdrew HB) hb | have HB := hb); clear hb; obtain ⟨hc, hf, hz⟩ := bcell HB
  go_wp2
  refine bodyPost_ret (v := .tuple #[noReq, .bool false]) ?_ rfl ⟨rfl, by repeat (first | with_reducible exact Below.refl _ _ | with_reducible refine balloc ?_ _ | with_reducible refine bdrew ?_ | with_reducible refine bset' ?_ (by omega) _ | with_reducible refine bthen ?_ (by assumption))⟩
  have m := sixLast HB
  rw [World.size_alloc, World.size_alloc] at m
  obtain ⟨m0, m1, m2, m3, m4, m5⟩ := m
  clear hc hf hz HB
  simp [results, Tryz.results98, go_sem, m0, m1, m2, m3, m4, m5]
end Go.Proofs.YtgjkdhedkbkagaaGreat
/- request.Merge of two requests that go together. -/
namespace Go.Proofs.YtgjkdhedkbkagaaGreat
open Go.RowKit Go.BigFrame
set_option maxRecDepth 100000
attribute [local go_sem] Later.cell Later.frozen

theorem StrsAt.row {w : World} {a : Option Addr} {xs : List ByteArray} {c : Nat} (h : StrsAt w a xs) (hn : a = none → c = 0) : RowAt w 1 a xs.length c (xs.map .string) := by
  refine ⟨by simp, by simp [Value.oneCell'], ?_⟩
  rcases h with rfl | ⟨b, o, rfl, hc⟩
  · cases a with
    | none => exact Or.inl ⟨rfl, rfl, hn rfl⟩
    | some ad => exact Or.inr ⟨ad, rfl, fun j u h => by simp at h⟩
  · refine Or.inr ⟨_, rfl, fun j u hj => ?_⟩
    rw [List.getElem?_map] at hj
    cases hx : xs[j]? with
    | none => rw [hx] at hj; cases hj
    | some x =>
      rw [hx] at hj
      simp only [Option.map_some, Option.some.injEq] at hj
      have hlt : j < xs.length := by
        rcases Nat.lt_or_ge j xs.length with h | h
        · exact h
        · rw [List.getElem?_eq_none h] at hx; cases hx
      rw [add_mk', hc j hlt, ← hj, List.getD, hx]; rfl
theorem IntsAt.row {w : World} {a : Option Addr} {xs : List Int} {c : Nat} (h : IntsAt w a xs) (hn : a = none → c = 0) : RowAt w 1 a xs.length c (xs.map (.int .i64)) := by
  refine ⟨by simp, by simp [Value.oneCell'], ?_⟩
  rcases h with rfl | ⟨b, o, rfl, hc⟩
  · cases a with
    | none => exact Or.inl ⟨rfl, rfl, hn rfl⟩
    | some ad => exact Or.inr ⟨ad, rfl, fun j u h => by simp at h⟩
  · refine Or.inr ⟨_, rfl, fun j u hj => ?_⟩
    rw [List.getElem?_map] at hj
    cases hx : xs[j]? with
    | none => rw [hx] at hj; cases hj
    | some x =>
      rw [hx] at hj
      simp only [Option.map_some, Option.some.injEq] at hj
      have hlt : j < xs.length := by
        rcases Nat.lt_or_ge j xs.length with h | h
        · exact h
        · rw [List.getElem?_eq_none h] at hx; cases hx
      rw [add_mk', hc j hlt, ← hj, List.getD, hx]; rfl
end Go.Proofs.YtgjkdhedkbkagaaGreat
/- request.Merge of two requests that go together: the region that puts both together. -/
namespace Go.Proofs.YtgjkdhedkbkagaaGreat
open Go.RowKit Go.BigFrame
set_option maxRecDepth 100000
attribute [local go_sem] Later.cell Later.frozen

theorem hid_of {p : Prop} (h : p) : Hid p := h
theorem strs_of_owned {w : World} {base e : Nat} {v : Value} {xs : List ByteArray} {n : Nat} (h : w.ownsRow base e 1 v n (xs.map .string)) (hn : n = xs.length) :
    ∃ a c, v = .slice a xs.length c ∧ StrsAt w a xs ∧ (a = none → c = 0) ∧ (∀ b o, a = some ⟨b, o, none⟩ → base ≤ b) := by
  subst hn
  rcases h.2 with ⟨rfl, h0⟩ | ⟨g, cap, cur, rfl, hg, hh, hnc, hcm, hcs, ht⟩
  · have hl := List.eq_nil_of_length_eq_zero h0
    subst hl
    exact ⟨none, 0, rfl, Or.inl rfl, fun _ => rfl, fun _ _ h => by cases h⟩
  · refine ⟨some ⟨g, 0, none⟩, cap, rfl, Or.inr ⟨g, 0, rfl, fun i hi => ?_⟩, by simp, fun _ _ h => by cases h; exact hg⟩
    have hc := h.cellAt i (by omega)
    rw [Nat.zero_add, hc]; simp [List.getD, hi]
theorem ints_of_owned {w : World} {base e : Nat} {v : Value} {xs : List Int} {n : Nat} (h : w.ownsRow base e 1 v n (xs.map (.int .i64))) (hn : n = xs.length) :
    ∃ a c, v = .slice a xs.length c ∧ IntsAt w a xs ∧ (a = none → c = 0) ∧ (∀ b o, a = some ⟨b, o, none⟩ → base ≤ b) := by
  subst hn
  rcases h.2 with ⟨rfl, h0⟩ | ⟨g, cap, cur, rfl, hg, hh, hnc, hcm, hcs, ht⟩
  · have hl := List.eq_nil_of_length_eq_zero h0
    subst hl
    exact ⟨none, 0, rfl, Or.inl rfl, fun _ => rfl, fun _ _ h => by cases h⟩
  · refine ⟨some ⟨g, 0, none⟩, cap, rfl, Or.inr ⟨g, 0, rfl, fun i hi => ?_⟩, by simp, fun _ _ h => by cases h; exact hg⟩
    have hc := h.cellAt i (by omega)
    rw [Nat.zero_add, hc]; simp [List.getD, hi]

theorem concatSx (xs ys D : List ByteArray) (hD : Hid (D = xs ++ ys)) (g : Nat) (a1 a2 : Option Addr) (c1 c2 : Nat) (w : World) (h0 : w.cell? ⟨g, 0, none⟩ = some (.slice a1 xs.length c1)) (h1 : w.cell? ⟨g, 1, none⟩ = some (.slice a2 ys.length c2))
    (r1 : StrsAt w a1 xs) (r2 : StrsAt w a2 ys) (n1 : a1 = none → c1 = 0) (n2 : a2 = none → c2 = 0) (b1 : xs.length ≤ 100000) (b2 : ys.length ≤ 100000) :
    Calls Tryz.prog 116 #[.slice (some ⟨g, 0, none⟩) 2 2] w fun e w' => ∃ a c, e = .returned (.slice a D.length c) ∧ StrsAt w' a D ∧ (a = none → c = 0) ∧ (∀ b o, a = some ⟨b, o, none⟩ → w.heap.size ≤ b) ∧ Below w.heap.size w w' := by
  refine (concatS_any g 0 a1 a2 xs.length ys.length c1 c2 (xs.map .string) (ys.map .string) w h0 h1 (r1.row n1) (r2.row n2) b1 b2).mono ?_
  rintro e w' ⟨v, rfl, hown, hb⟩
  rw [← List.map_append, ← hD.out] at hown
  obtain ⟨a, c, rfl, hs, hn, hbl⟩ := strs_of_owned hown (by rw [hD.out, List.length_append])
  exact ⟨a, c, rfl, hs, hn, hbl, hb⟩
theorem concatIx (xs ys D : List Int) (hD : Hid (D = xs ++ ys)) (g : Nat) (a1 a2 : Option Addr) (c1 c2 : Nat) (w : World) (h0 : w.cell? ⟨g, 0, none⟩ = some (.slice a1 xs.length c1)) (h1 : w.cell? ⟨g, 1, none⟩ = some (.slice a2 ys.length c2))
    (r1 : IntsAt w a1 xs) (r2 : IntsAt w a2 ys) (n1 : a1 = none → c1 = 0) (n2 : a2 = none → c2 = 0) (b1 : xs.length ≤ 100000) (b2 : ys.length ≤ 100000) :
    Calls Tryz.prog 117 #[.slice (some ⟨g, 0, none⟩) 2 2] w fun e w' => ∃ a c, e = .returned (.slice a D.length c) ∧ IntsAt w' a D ∧ (a = none → c = 0) ∧ (∀ b o, a = some ⟨b, o, none⟩ → w.heap.size ≤ b) ∧ Below w.heap.size w w' := by
  refine (concatI_any g 0 a1 a2 xs.length ys.length c1 c2 (xs.map (.int .i64)) (ys.map (.int .i64)) w h0 h1 (r1.row n1) (r2.row n2) b1 b2).mono ?_
  rintro e w' ⟨v, rfl, hown, hb⟩
  rw [← List.map_append, ← hD.out] at hown
  obtain ⟨a, c, rfl, hs, hn, hbl⟩ := ints_of_owned hown (by rw [hD.out, List.length_append])
  exact ⟨a, c, rfl, hs, hn, hbl, hb⟩

/-- Both as one: a has the lower sectors. -/
structure IsBoth (a b q : Rq) : Prop where
  wr : q.wr = a.wr
  f : q.f = a.f
  m : q.m = a.m + b.m
  data : q.data = a.data ++ b.data
  tags : q.tags = a.tags ++ b.tags
  born : q.born = min a.born b.born

/-- Its lists lie in new memory. -/
def FreshQ (q : Rq) (n : Nat) : Prop := (∀ b o, q.da = some ⟨b, o, none⟩ → n ≤ b) ∧ (∀ b o, q.ta = some ⟨b, o, none⟩ → n ≤ b)
/-- A request in a block's first six cells. -/
def Six (w : World) (b : Nat) (q : Rq) : Prop :=
  w.cell? ⟨b, 0, none⟩ = some (.bool q.wr) ∧ w.cell? ⟨b, 1, none⟩ = some (.int .i64 q.f) ∧ w.cell? ⟨b, 2, none⟩ = some (.int .i64 q.m) ∧ w.cell? ⟨b, 3, none⟩ = some (.slice q.da q.data.length q.dc) ∧ w.cell? ⟨b, 4, none⟩ = some (.slice q.ta q.tags.length q.tc) ∧ w.cell? ⟨b, 5, none⟩ = some (.int .i64 q.born)
theorem Six.later {w w' : World} {b : Nat} {q : Rq} (h : Six w b q) (hb : Below w.heap.size w w') : Six w' b q := by
  obtain ⟨h0, h1, h2, h3, h4, h5⟩ := h
  exact ⟨cellA_later hb h0, cellA_later hb h1, cellA_later hb h2, cellA_later hb h3, cellA_later hb h4, cellA_later hb h5⟩
theorem six_frozen {w w' : World} {b : Nat} (hb : Below w.heap.size w w') (h : b < w.heap.size) (hf : ∀ o, w.frozen? ⟨b, o, none⟩ = false) : ∀ o, w'.frozen? ⟨b, o, none⟩ = false := fun o => by
  rw [hb.frozen (p := ⟨b, o, none⟩) h]; exact hf o

theorem frozen_later {w w' : World} {b o : Nat} (hb : Below w.heap.size w w') (h : w.frozen? ⟨b, o, none⟩ = false) (hl : b < w.heap.size) : w'.frozen? ⟨b, o, none⟩ = false := by
  rw [hb.frozen (p := ⟨b, o, none⟩) hl]; exact h

theorem frozen_drew' {w : World} {a : Addr} (h : w.frozen? a = false) : w.drew.frozen? a = false := h
theorem frozen_alloc' {w : World} {b o : Nat} (h : w.frozen? ⟨b, o, none⟩ = false) (hl : b < w.heap.size) (x : Obj) : (w.alloc x).frozen? ⟨b, o, none⟩ = false := by
  rw [World.frozen?_alloc_past x b o hl]; exact h
/-- What a cell holds. -/
def atHand (w : World) (a : Addr) : Value := (w.cell? a).getD undef
theorem atHand_of {w : World} {a : Addr} {v : Value} (h : w.cell? a = some v) : w.cell? a = some (atHand w a) := by rw [atHand, h]; rfl
theorem atHand_later {w w' : World} {a : Addr} (hb : Below w.heap.size w w') (h : w.cell? a = some (atHand w a)) : w'.cell? a = some (atHand w' a) := atHand_of (cellA_later hb h)
theorem atHand_set {w : World} {a : Addr} (h : w.cell? a = some (atHand w a)) (p : Addr) (u : Value) : (w.setCell p u).cell? a = some (atHand (w.setCell p u) a) := by
  by_cases e : p = a
  · subst e; exact atHand_of (World.cell?_setCell_same _ _ _ h)
  · exact atHand_of ((World.cell?_setCell_other _ _ _ _ e).trans h)
theorem Six.set {w : World} {b : Nat} {q : Rq} (h : Six w b q) {c o : Nat} (hn : b ≠ c) (u : Value) : Six (w.setCell ⟨c, o, none⟩ u) b q := by
  obtain ⟨h0, h1, h2, h3, h4, h5⟩ := h
  have k : ∀ i, (w.setCell ⟨c, o, none⟩ u).cell? ⟨b, i, none⟩ = w.cell? ⟨b, i, none⟩ := fun i => World.cell?_setCell_other _ _ _ _ (fun e => hn (by injection e with e _; exact e.symm))
  exact ⟨(k 0).trans h0, (k 1).trans h1, (k 2).trans h2, (k 3).trans h3, (k 4).trans h4, (k 5).trans h5⟩
def Zix (w' : World) (n : Nat) : Prop := (w'.cell? ⟨n, 0, none⟩ = some (atHand w' ⟨n, 0, none⟩) ∧ w'.cell? ⟨n, 1, none⟩ = some (atHand w' ⟨n, 1, none⟩) ∧ w'.cell? ⟨n, 2, none⟩ = some (atHand w' ⟨n, 2, none⟩) ∧ w'.cell? ⟨n, 3, none⟩ = some (atHand w' ⟨n, 3, none⟩) ∧ w'.cell? ⟨n, 4, none⟩ = some (atHand w' ⟨n, 4, none⟩) ∧ w'.cell? ⟨n, 5, none⟩ = some (atHand w' ⟨n, 5, none⟩)) ∧ (w'.frozen? ⟨n, 0, none⟩ = false ∧ w'.frozen? ⟨n, 1, none⟩ = false ∧ w'.frozen? ⟨n, 2, none⟩ = false ∧ w'.frozen? ⟨n, 3, none⟩ = false ∧ w'.frozen? ⟨n, 4, none⟩ = false ∧ w'.frozen? ⟨n, 5, none⟩ = false)
theorem Six.drew {w : World} {b : Nat} {q : Rq} (h : Six w b q) : Six w.drew b q := h
theorem Six.alloc {w : World} {b : Nat} {q : Rq} (h : Six w b q) (x : Obj) : Six (w.alloc x) b q := h.later (below1 w x)
theorem Zix.later {w w' : World} {n : Nat} (h : Zix w n) (hb : Below w.heap.size w w') : Zix w' n := by
  obtain ⟨⟨h0, h1, h2, h3, h4, h5⟩, ⟨f0, f1, f2, f3, f4, f5⟩⟩ := h
  have hl := lt_of_cell h0
  exact ⟨⟨atHand_later hb h0, atHand_later hb h1, atHand_later hb h2, atHand_later hb h3, atHand_later hb h4, atHand_later hb h5⟩, ⟨frozen_later hb f0 hl, frozen_later hb f1 hl, frozen_later hb f2 hl, frozen_later hb f3 hl, frozen_later hb f4 hl, frozen_later hb f5 hl⟩⟩
theorem Zix.set {w : World} {n : Nat} (h : Zix w n) (p : Addr) (u : Value) : Zix (w.setCell p u) n := by
  obtain ⟨⟨h0, h1, h2, h3, h4, h5⟩, ⟨f0, f1, f2, f3, f4, f5⟩⟩ := h
  refine ⟨⟨atHand_set h0 p u, atHand_set h1 p u, atHand_set h2 p u, atHand_set h3 p u, atHand_set h4 p u, atHand_set h5 p u⟩, ?_⟩
  simp only [World.frozen?_setCell]
  exact ⟨f0, f1, f2, f3, f4, f5⟩
theorem Zix.drew {w : World} {n : Nat} (h : Zix w n) : Zix w.drew n := h
theorem Zix.alloc {w : World} {n : Nat} (h : Zix w n) (x : Obj) : Zix (w.alloc x) n := h.later (below1 w x)
theorem keepS {w' : World} (n : Nat) (a b : Rq) (h1 : Six w' n a) (h2 : Six w' (n + 1) b) (h3 : Zix w' (n + 2)) : (w'.cell? ⟨n, 0, none⟩ = some (.bool a.wr) ∧ w'.cell? ⟨n, 1, none⟩ = some (.int .i64 a.f) ∧ w'.cell? ⟨n, 2, none⟩ = some (.int .i64 a.m) ∧ w'.cell? ⟨n, 3, none⟩ = some (.slice a.da a.data.length a.dc) ∧ w'.cell? ⟨n, 4, none⟩ = some (.slice a.ta a.tags.length a.tc) ∧ w'.cell? ⟨n, 5, none⟩ = some (.int .i64 a.born)) ∧ (w'.cell? ⟨n + 1, 0, none⟩ = some (.bool b.wr) ∧ w'.cell? ⟨n + 1, 1, none⟩ = some (.int .i64 b.f) ∧ w'.cell? ⟨n + 1, 2, none⟩ = some (.int .i64 b.m) ∧ w'.cell? ⟨n + 1, 3, none⟩ = some (.slice b.da b.data.length b.dc) ∧ w'.cell? ⟨n + 1, 4, none⟩ = some (.slice b.ta b.tags.length b.tc) ∧ w'.cell? ⟨n + 1, 5, none⟩ = some (.int .i64 b.born)) ∧ (w'.cell? ⟨n + 2, 0, none⟩ = some (atHand w' ⟨n + 2, 0, none⟩) ∧ w'.cell? ⟨n + 2, 1, none⟩ = some (atHand w' ⟨n + 2, 1, none⟩) ∧ w'.cell? ⟨n + 2, 2, none⟩ = some (atHand w' ⟨n + 2, 2, none⟩) ∧ w'.cell? ⟨n + 2, 3, none⟩ = some (atHand w' ⟨n + 2, 3, none⟩) ∧ w'.cell? ⟨n + 2, 4, none⟩ = some (atHand w' ⟨n + 2, 4, none⟩) ∧ w'.cell? ⟨n + 2, 5, none⟩ = some (atHand w' ⟨n + 2, 5, none⟩)) ∧ (w'.frozen? ⟨n + 2, 0, none⟩ = false ∧ w'.frozen? ⟨n + 2, 1, none⟩ = false ∧ w'.frozen? ⟨n + 2, 2, none⟩ = false ∧ w'.frozen? ⟨n + 2, 3, none⟩ = false ∧ w'.frozen? ⟨n + 2, 4, none⟩ = false ∧ w'.frozen? ⟨n + 2, 5, none⟩ = false) := ⟨h1, h2, h3⟩

/-- Behind three new blocks of six: what they hold. -/
theorem three6 {w w1 : World} {T : TypeId} (a b : Rq) (HB : Below (((w.alloc (.cells #[.bool a.wr, .int .i64 a.f, .int .i64 a.m, .slice a.da a.data.length a.dc, .slice a.ta a.tags.length a.tc, .int .i64 a.born] T)).alloc (.cells #[.bool b.wr, .int .i64 b.f, .int .i64 b.m, .slice b.da b.data.length b.dc, .slice b.ta b.tags.length b.tc, .int .i64 b.born] T)).alloc (.cells #[.bool false, .int .i64 0, .int .i64 0, .slice none 0 0, .slice none 0 0, .int .i64 0] T)).heap.size (((w.alloc (.cells #[.bool a.wr, .int .i64 a.f, .int .i64 a.m, .slice a.da a.data.length a.dc, .slice a.ta a.tags.length a.tc, .int .i64 a.born] T)).alloc (.cells #[.bool b.wr, .int .i64 b.f, .int .i64 b.m, .slice b.da b.data.length b.dc, .slice b.ta b.tags.length b.tc, .int .i64 b.born] T)).alloc (.cells #[.bool false, .int .i64 0, .int .i64 0, .slice none 0 0, .slice none 0 0, .int .i64 0] T)) w1) :
    Six w1 w.heap.size a ∧ Six w1 (w.heap.size + 1) b ∧ Zix w1 (w.heap.size + 2) ∧ w.heap.size + 3 ≤ w1.heap.size := by
  have hz := HB.size
  simp only [World.size_alloc] at hz
  have c0 := fun o => HB.cell (p := ⟨w.heap.size, o, none⟩) (by simp only [World.size_alloc]; omega)
  have c1 := fun o => HB.cell (p := ⟨w.heap.size + 1, o, none⟩) (by simp only [World.size_alloc]; omega)
  have c2 := fun o => HB.cell (p := ⟨w.heap.size + 2, o, none⟩) (by simp only [World.size_alloc]; omega)
  have f2 := fun o => HB.frozen (p := ⟨w.heap.size + 2, o, none⟩) (by simp only [World.size_alloc]; omega)
  refine ⟨⟨?_, ?_, ?_, ?_, ?_, ?_⟩, ⟨?_, ?_, ?_, ?_, ?_, ?_⟩, ⟨⟨?_, ?_, ?_, ?_, ?_, ?_⟩, ⟨?_, ?_, ?_, ?_, ?_, ?_⟩⟩, hz⟩
  rotate_right 12
  exact atHand_of (v := .bool false) (by rw [c2]; simp [go_sem])
  exact atHand_of (v := .int .i64 0) (by rw [c2]; simp [go_sem])
  exact atHand_of (v := .int .i64 0) (by rw [c2]; simp [go_sem])
  exact atHand_of (v := .slice none 0 0) (by rw [c2]; simp [go_sem])
  exact atHand_of (v := .slice none 0 0) (by rw [c2]; simp [go_sem])
  exact atHand_of (v := .int .i64 0) (by rw [c2]; simp [go_sem])
  all_goals first | rw [c0] | rw [c1] | rw [f2]
  all_goals first | (simp [go_sem]; done) | simp [World.cell?, World.alloc, World.frozen?]

theorem three6z {w w1 : World} {T : TypeId} (a b : Rq) (HB : Below (((w.alloc (.cells #[.bool a.wr, .int .i64 a.f, .int .i64 a.m, .slice a.da a.data.length a.dc, .slice a.ta a.tags.length a.tc, .int .i64 a.born] T)).alloc (.cells #[.bool b.wr, .int .i64 b.f, .int .i64 b.m, .slice b.da b.data.length b.dc, .slice b.ta b.tags.length b.tc, .int .i64 b.born] T)).alloc (.cells #[.bool false, .int .i64 0, .int .i64 0, .slice none 0 0, .slice none 0 0, .int .i64 0] T)).heap.size (((w.alloc (.cells #[.bool a.wr, .int .i64 a.f, .int .i64 a.m, .slice a.da a.data.length a.dc, .slice a.ta a.tags.length a.tc, .int .i64 a.born] T)).alloc (.cells #[.bool b.wr, .int .i64 b.f, .int .i64 b.m, .slice b.da b.data.length b.dc, .slice b.ta b.tags.length b.tc, .int .i64 b.born] T)).alloc (.cells #[.bool false, .int .i64 0, .int .i64 0, .slice none 0 0, .slice none 0 0, .int .i64 0] T)) w1) :
    Zix w1 w.heap.size ∧ Zix w1 (w.heap.size + 1) := by
  obtain ⟨⟨h0, h1, h2, h3, h4, h5⟩, ⟨k0, k1, k2, k3, k4, k5⟩, _⟩ := three6 a b HB
  have f0 := fun o => HB.frozen (p := ⟨w.heap.size, o, none⟩) (by simp only [World.size_alloc]; omega)
  have f1 := fun o => HB.frozen (p := ⟨w.heap.size + 1, o, none⟩) (by simp only [World.size_alloc]; omega)
  refine ⟨⟨⟨atHand_of h0, atHand_of h1, atHand_of h2, atHand_of h3, atHand_of h4, atHand_of h5⟩, ⟨?_, ?_, ?_, ?_, ?_, ?_⟩⟩, ⟨⟨atHand_of k0, atHand_of k1, atHand_of k2, atHand_of k3, atHand_of k4, atHand_of k5⟩, ⟨?_, ?_, ?_, ?_, ?_, ?_⟩⟩⟩
  all_goals first | rw [f0] | rw [f1]
  all_goals first | (simp [go_sem]; done) | simp [World.frozen?, World.alloc]
theorem StrsAt.set {w : World} {a : Option Addr} {xs : List ByteArray} (h : StrsAt w a xs) {c o : Nat} (hn : ∀ b o, a = some ⟨b, o, none⟩ → b ≠ c) (u : Value) : StrsAt (w.setCell ⟨c, o, none⟩ u) a xs := by
  rcases h with h | ⟨b, o', ha, hc⟩
  · exact Or.inl h
  · exact Or.inr ⟨b, o', ha, fun i hi => (World.cell?_setCell_other _ _ _ _ (fun e => hn b o' ha (by injection e with e _; exact e.symm))).trans (hc i hi)⟩
theorem IntsAt.set {w : World} {a : Option Addr} {xs : List Int} (h : IntsAt w a xs) {c o : Nat} (hn : ∀ b o, a = some ⟨b, o, none⟩ → b ≠ c) (u : Value) : IntsAt (w.setCell ⟨c, o, none⟩ u) a xs := by
  rcases h with h | ⟨b, o', ha, hc⟩
  · exact Or.inl h
  · exact Or.inr ⟨b, o', ha, fun i hi => (World.cell?_setCell_other _ _ _ _ (fun e => hn b o' ha (by injection e with e _; exact e.symm))).trans (hc i hi)⟩
def set6 (w : World) (n : Nat) (v0 v1 v2 v3 v4 v5 : Value) : World := (((((w.setCell ⟨n, 0, none⟩ v0).setCell ⟨n, 1, none⟩ v1).setCell ⟨n, 2, none⟩ v2).setCell ⟨n, 3, none⟩ v3).setCell ⟨n, 4, none⟩ v4).setCell ⟨n, 5, none⟩ v5
theorem set6_cells {w : World} {n : Nat} (h : Zix w n) (v0 v1 v2 v3 v4 v5 : Value) :
    (set6 w n v0 v1 v2 v3 v4 v5).cell? ⟨n, 0, none⟩ = some v0 ∧ (set6 w n v0 v1 v2 v3 v4 v5).cell? ⟨n, 1, none⟩ = some v1 ∧ (set6 w n v0 v1 v2 v3 v4 v5).cell? ⟨n, 2, none⟩ = some v2 ∧ (set6 w n v0 v1 v2 v3 v4 v5).cell? ⟨n, 3, none⟩ = some v3 ∧ (set6 w n v0 v1 v2 v3 v4 v5).cell? ⟨n, 4, none⟩ = some v4 ∧ (set6 w n v0 v1 v2 v3 v4 v5).cell? ⟨n, 5, none⟩ = some v5 := by
  have ne : ∀ i j : Nat, i ≠ j → ∀ (W : World) (u : Value), (W.setCell ⟨n, i, none⟩ u).cell? ⟨n, j, none⟩ = W.cell? ⟨n, j, none⟩ := fun i j hij W u => World.cell?_setCell_other _ _ _ _ (fun e => hij (by injection e))
  obtain ⟨⟨h0, h1, h2, h3, h4, h5⟩, _⟩ := h
  unfold set6
  refine ⟨?_, ?_, ?_, ?_, ?_, ?_⟩
  · rw [ne 5 0 (by decide), ne 4 0 (by decide), ne 3 0 (by decide), ne 2 0 (by decide), ne 1 0 (by decide)]; exact World.cell?_setCell_same _ _ _ h0
  · rw [ne 5 1 (by decide), ne 4 1 (by decide), ne 3 1 (by decide), ne 2 1 (by decide)]; exact World.cell?_setCell_same _ _ _ ((ne 0 1 (by decide) _ _).trans h1)
  · rw [ne 5 2 (by decide), ne 4 2 (by decide), ne 3 2 (by decide)]; exact World.cell?_setCell_same _ _ _ ((ne 1 2 (by decide) _ _).trans ((ne 0 2 (by decide) _ _).trans h2))
  · rw [ne 5 3 (by decide), ne 4 3 (by decide)]; exact World.cell?_setCell_same _ _ _ ((ne 2 3 (by decide) _ _).trans ((ne 1 3 (by decide) _ _).trans ((ne 0 3 (by decide) _ _).trans h3)))
  · rw [ne 5 4 (by decide)]; exact World.cell?_setCell_same _ _ _ ((ne 3 4 (by decide) _ _).trans ((ne 2 4 (by decide) _ _).trans ((ne 1 4 (by decide) _ _).trans ((ne 0 4 (by decide) _ _).trans h4))))
  · exact World.cell?_setCell_same _ _ _ ((ne 4 5 (by decide) _ _).trans ((ne 3 5 (by decide) _ _).trans ((ne 2 5 (by decide) _ _).trans ((ne 1 5 (by decide) _ _).trans ((ne 0 5 (by decide) _ _).trans h5)))))
theorem set6_strs {w : World} {n : Nat} {a : Option Addr} {xs : List ByteArray} (h : StrsAt w a xs) (hn : ∀ b o, a = some ⟨b, o, none⟩ → b ≠ n) (v0 v1 v2 v3 v4 v5 : Value) : StrsAt (set6 w n v0 v1 v2 v3 v4 v5) a xs :=
  (((((h.set hn v0).set hn v1).set hn v2).set hn v3).set hn v4).set hn v5
theorem set6_ints {w : World} {n : Nat} {a : Option Addr} {xs : List Int} (h : IntsAt w a xs) (hn : ∀ b o, a = some ⟨b, o, none⟩ → b ≠ n) (v0 v1 v2 v3 v4 v5 : Value) : IntsAt (set6 w n v0 v1 v2 v3 v4 v5) a xs :=
  (((((h.set hn v0).set hn v1).set hn v2).set hn v3).set hn v4).set hn v5
theorem set6_six {w : World} {n c : Nat} {q : Rq} (h : Six w n q) (hn : n ≠ c) (v0 v1 v2 v3 v4 v5 : Value) : Six (set6 w c v0 v1 v2 v3 v4 v5) n q :=
  (((((h.set hn v0).set hn v1).set hn v2).set hn v3).set hn v4).set hn v5
theorem set6_zix {w : World} {n c : Nat} (h : Zix w n) (v0 v1 v2 v3 v4 v5 : Value) : Zix (set6 w c v0 v1 v2 v3 v4 v5) n :=
  (((((h.set _ v0).set _ v1).set _ v2).set _ v3).set _ v4).set _ v5
theorem swapped6 {w0 w1 : World} {n : Nat} (a b : Rq) (U1 : Zix w0 n) (U2 : Zix w0 (n + 1)) (T3 : Zix w0 (n + 2))
    (hb : Below (set6 (set6 w0 n (.bool a.wr) (.int .i64 a.f) (.int .i64 a.m) (.slice a.da a.data.length a.dc) (.slice a.ta a.tags.length a.tc) (.int .i64 a.born)) (n + 1) (.bool b.wr) (.int .i64 b.f) (.int .i64 b.m) (.slice b.da b.data.length b.dc) (.slice b.ta b.tags.length b.tc) (.int .i64 b.born)).heap.size (set6 (set6 w0 n (.bool a.wr) (.int .i64 a.f) (.int .i64 a.m) (.slice a.da a.data.length a.dc) (.slice a.ta a.tags.length a.tc) (.int .i64 a.born)) (n + 1) (.bool b.wr) (.int .i64 b.f) (.int .i64 b.m) (.slice b.da b.data.length b.dc) (.slice b.ta b.tags.length b.tc) (.int .i64 b.born)) w1) :
    Six w1 n a ∧ Six w1 (n + 1) b ∧ Zix w1 (n + 2) := by
  refine ⟨Six.later (set6_six ?_ (by omega) _ _ _ _ _ _) hb, Six.later ?_ hb, Zix.later (set6_zix (set6_zix T3 _ _ _ _ _ _) _ _ _ _ _ _) hb⟩
  · exact set6_cells U1 _ _ _ _ _ _
  · exact set6_cells (set6_zix U2 _ _ _ _ _ _) _ _ _ _ _ _
theorem Good.d4 {r : Rq} (h : Good r) : r.data.length ≤ 4 := by
  have h1 := h.shape
  have h2 := h.bnd
  unfold shapeB at h1
  split at h1
  · simp only [decide_eq_true_eq] at h1; omega
  · simp only [decide_eq_true_eq] at h1; omega

end Go.Proofs.YtgjkdhedkbkagaaGreat
