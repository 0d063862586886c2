/- Put: its closure, the roads. -/
import Derived.Test.YtgjkdhedkbkagaaGreatJ16
import Derived.Test.YtgjkdhedkbkagaaGreatJ10
import Derived.Test.YtgjkdhedkbkagaaGreatJ2
import Derived.Test.YtgjkdhedkbkagaaGreatJ5
import Derived.Deep.RegionHeld3
namespace Go.Proofs.YtgjkdhedkbkagaaGreat
open Go.RowKit Go.BigFrame
set_option maxRecDepth 100000
attribute [local go_sem] Later.cell Later.frozen

theorem ownsRow_laterB {w w' : World} {base size n : Nat} {e : TypeId} {v : Value} {xs : List Value} (h : w.ownsRow base e size v n xs) (hb : Below w.heap.size w w') : w'.ownsRow base e size v n xs := by
  refine ⟨h.1, h.2.elim Or.inl (fun ⟨g, cap, cur, hv, hg, hh, r⟩ => Or.inr ⟨g, cap, cur, hv, hg, ?_, r⟩)⟩
  have hlt : g < w.heap.size := by
    rcases Nat.lt_or_ge g w.heap.size with h' | h'
    · exact h'
    · rw [Array.getElem?_eq_none h'] at hh; cases hh
  rw [hb.block g hlt]
  exact hh
theorem NewBufs.later {base : Nat} {w w' : World} {a : Option Addr} {c : Nat} {l : List Bf} (h : NewBufs base w a c l) (hb : Below w.heap.size w w') : NewBufs base w' a c l :=
  ⟨h.here.later hb, h.cap, h.capM, h.nil, ownsRow_laterB h.own hb⟩

theorem NewBufs.lt {base : Nat} {w : World} {a : Option Addr} {c : Nat} {l : List Bf} (h : NewBufs base w a c l) (b : Nat) (hb : a = some ⟨b, 0, none⟩) : b < w.heap.size := by
  subst hb
  rcases h.own.2 with ⟨h1, _⟩ | ⟨g, cap, cur, h1, hg, hh, _⟩
  · cases h1
  · simp only [Value.slice.injEq, Option.some.injEq, Addr.mk.injEq, and_true] at h1
    obtain ⟨rfl, _⟩ := h1
    rcases Nat.lt_or_ge b w.heap.size with h' | h'
    · exact h'
    · rw [Array.getElem?_eq_none h'] at hh; cases hh
/-- The call of Insert as Put makes it. -/
theorem insP (l : List Bf) (a : Option Addr) (c base i : Nat) (x : Bf) (w : World) (hi : i ≤ l.length) (h8 : l.length ≤ 1000) (hbase : base ≤ w.heap.size) (hN : NewBufs base w a c l) :
    Calls Tryz.prog 120 #[.slice a l.length c, .int .i64 i, .slice (some ⟨w.heap.size, 0, none⟩) 1 1] (w.alloc (.cells #[.int .i64 x.pl, .string x.data, .bool x.dirty, .int .i64 x.used] 93)) fun e w' =>
      ∃ a' c', e = .returned (.slice a' (l.length + 1) c') ∧ NewBufs base w' a' c' (l.take i ++ x :: l.drop i) ∧ Below base w w' ∧ l.length + 1 ≤ c' := by
  refine (insB l a c base w.heap.size i x 93 _ hi h8 (by simp; omega) (hN.later (below1 _ _)) (heap_alloc_new _ _) (fun b hb => ?_)).mono ?_
  · have := hN.lt b hb; omega
  · rintro e w' ⟨a', c', he, h1, h2⟩
    refine ⟨a', c', he, h1, ((below1 _ _).mono hbase).trans h2, ?_⟩
    have := h1.cap
    rw [show (l.take i ++ x :: l.drop i).length = l.length + 1 by simp; omega] at this
    exact this

/-- The four cells of a sector that lies by itself. -/
def FourB (w : World) (b : Nat) (x : Bf) : Prop := w.cell? ⟨b, 0, none⟩ = some (.int .i64 x.pl) ∧ w.cell? ⟨b, 1, none⟩ = some (.string x.data) ∧ w.cell? ⟨b, 2, none⟩ = some (.bool x.dirty) ∧ w.cell? ⟨b, 3, none⟩ = some (.int .i64 x.used)
theorem FourB.later {w w' : World} {b : Nat} {x : Bf} (h : FourB w b x) (hb : Below w.heap.size w w') : FourB w' b x :=
  ⟨cellB_later' hb h.1, cellB_later' hb h.2.1, cellB_later' hb h.2.2.1, cellB_later' hb h.2.2.2⟩
theorem FourB.below {w w' : World} {b base : Nat} {x : Bf} (h : FourB w b x) (hb : Below base w w') (hlt : b < base) : FourB w' b x :=
  ⟨by rw [hb.cell hlt]; exact h.1, by rw [hb.cell hlt]; exact h.2.1, by rw [hb.cell hlt]; exact h.2.2.1, by rw [hb.cell hlt]; exact h.2.2.2⟩

def gtB (at' : Int) (x : Bf) : Bool := decide (at' < x.pl)
set_option maxHeartbeats 400000 in
theorem put1_any (y x : Bf) (pb : Nat) (w : World) (hp : FourB w pb x) :
    Calls Tryz.prog 119 #[y.val, .pointer (some ⟨pb, 0, none⟩)] w fun e w' => e = .returned (.bool (gtB x.pl y)) ∧ Below w.heap.size w w' := by
  have hp' := allocB_cell hp.1
  clear hp
  go_enter Tryz.func119, Tryz.ntmps119
  go_wp2
  go_ret
  exact ⟨rfl, by repeat (first | with_reducible exact Below.refl _ _ | with_reducible refine balloc ?_ _ | with_reducible refine bdrew ?_ | with_reducible refine bset' ?_ (by omega) _ | with_reducible refine bthen ?_ (by assumption))⟩
theorem gtidx_any (x : Bf) (pb : Nat) (l : List Bf) (a : Option Addr) (c : Nat) (w : World) (hl : BufsAt w a l) (hp : FourB w pb x) (r : Int) (hr : idxB (gtB x.pl) l = r) :
    Calls Tryz.prog 94 #[.slice a l.length c, .func (.func 119) #[] #[.pointer (some ⟨pb, 0, none⟩)]] w fun e w' => e = .returned (.int .i64 r) ∧ Below w.heap.size w w' := by
  subst hr
  exact indexB_any 119 (by intro args w; go_simp) (.pointer (some ⟨pb, 0, none⟩)) (gtB x.pl) l a c w hl (fun y w' hb => put1_any y x pb w' (hp.later hb))

/-- Where it goes. -/
def gtAt (at' : Int) (l : List Bf) : Nat := match l.findIdx? (gtB at') with | some k => k | none => l.length
def insL (l : List Bf) (x : Bf) : List Bf := l.take (gtAt x.pl l) ++ x :: l.drop (gtAt x.pl l)
theorem gtAt_le (at' : Int) (l : List Bf) : gtAt at' l ≤ l.length := by
  unfold gtAt
  cases e : l.findIdx? (gtB at') with
  | none => exact Nat.le_refl _
  | some k =>
    rw [List.findIdx?_eq_some_iff_getElem] at e
    exact Nat.le_of_lt e.1
theorem gt_idx (at' : Int) (l : List Bf) : (idxB (gtB at') l = -1 ∧ gtAt at' l = l.length) ∨ idxB (gtB at') l = (gtAt at' l : Int) := by
  unfold idxB gtAt
  cases e : l.findIdx? (gtB at') with
  | none => exact Or.inl ⟨rfl, rfl⟩
  | some k => exact Or.inr rfl

theorem gt_idx2 (at' : Int) (l : List Bf) : (idxB (gtB at') l = -1 ∧ gtAt at' l = l.length) ∨ (idxB (gtB at') l = (gtAt at' l : Int) ∧ gtAt at' l = gtAt at' l) := (gt_idx at' l).imp id (fun h => ⟨h, rfl⟩)
/-- A whole sector is written. -/
theorem BufsAt.set4 {w : World} {b : Nat} {l : List Bf} (h : BufsAt w (some ⟨b, 0, none⟩) l) {k : Nat} (hk : k < l.length) (x : Bf) :
    BufsAt ((((w.setCell ⟨b, k * 4, none⟩ (.int .i64 x.pl)).setCell ⟨b, k * 4 + 1, none⟩ (.string x.data)).setCell ⟨b, k * 4 + 2, none⟩ (.bool x.dirty)).setCell ⟨b, k * 4 + 3, none⟩ (.int .i64 x.used)) (some ⟨b, 0, none⟩) (l.set k x) := by
  have h1 := h.set hk 0 (by omega) { l[k] with pl := x.pl } (.int .i64 x.pl) rfl (fun i hi hne => by rcases (show i = 1 ∨ i = 2 ∨ i = 3 by omega) with rfl | rfl | rfl <;> rfl)
  have h2 := h1.set (k := k) (by simpa using hk) 1 (by omega) { l[k] with pl := x.pl, data := x.data } (.string x.data) rfl (fun i hi hne => by rw [List.getElem_set_self]; rcases (show i = 0 ∨ i = 2 ∨ i = 3 by omega) with rfl | rfl | rfl <;> rfl)
  rw [List.set_set] at h2
  have h3 := h2.set (k := k) (by simpa using hk) 2 (by omega) { x with used := l[k].used } (.bool x.dirty) rfl (fun i hi hne => by rw [List.getElem_set_self]; rcases (show i = 0 ∨ i = 1 ∨ i = 3 by omega) with rfl | rfl | rfl <;> rfl)
  rw [List.set_set] at h3
  have h4 := h3.set (k := k) (by simpa using hk) 3 (by omega) x (.int .i64 x.used) rfl (fun i hi hne => by rw [List.getElem_set_self]; rcases (show i = 0 ∨ i = 1 ∨ i = 2 by omega) with rfl | rfl | rfl <;> rfl)
  rw [List.set_set] at h4
  simpa using h4

end Go.Proofs.YtgjkdhedkbkagaaGreat
/- Put where there is no room. -/
namespace Go.Proofs.YtgjkdhedkbkagaaGreat
open Go.RowKit Go.BigFrame
set_option maxRecDepth 100000
attribute [local go_sem] Later.cell Later.frozen

set_option maxRecDepth 100000 in
set_option maxHeartbeats 2000000 in
theorem put_full (gh : Nat) (egh : ∀ args w, (callFunc gh args).run Tryz.prog w = .ok (.enter gh args) w) (hc : Array Value) (H : Int → Bool) (l : List Bf) (a : Option Addr) (c : Nat) (x : Bf) (w : World) (hl : BufsAt w a l) (hn : a = none → c = 0) (h8 : l.length = 8) (hi : idxB (plB x.pl) l = -1)
    (hh : ∀ n w', Below w.heap.size w w' → Calls Tryz.prog gh (#[.int .i64 n] ++ hc) w' fun e w'' => e = .returned (.bool (H n)) ∧ Below w'.heap.size w' w'') (hr : leastU (fitB false H) l l.length = -1) :
    Calls Tryz.prog 101 #[.slice a l.length c, x.val, .func (.func gh) #[] hc] w fun e w' => e = .returned (.tuple #[.slice none 0 0, .iface 89 (.int .i64 7)]) ∧ Below w.heap.size w w' := by
  have HI := hidC hi
  have HH := hidC hh
  have HR := hidC hr
  have H8 := hidC h8
  have h8' : (8 : Int) ≤ (l.length : Int) := by omega
  clear hi hh hr h8
  have b0 := below1 w (.cells #[.int .i64 x.pl, .string x.data, .bool x.dirty, .int .i64 x.used] 93)
  go_enter Tryz.func101, Tryz.ntmps101
  go_wp2_with fail
  refine (cloneB_any l a c _ (hl.later b0) hn (by have := H8.out; omega)).mono ?_
  rintro e w1 ⟨a1, c1, rfl, hN, hb1⟩
  have F1 : FourB w1 w.heap.size x := FourB.later ⟨by simp, by simp, by simp, by simp⟩ hb1
  have HB1 : Below w.heap.size w w1 := bthen b0 hb1
  have hN1 : NewBufs (w.heap.size + 1) w1 a1 c1 l := by simpa using hN
  clear hN hb1 b0
  obtain ⟨p0, p1, p2, p3⟩ := id F1
  go_wp2_with fail
  refine (place_eq l a1 c1 x.pl _ hN1.here _ HI.out).mono ?_
  rintro e w2 ⟨rfl, hb2⟩
  have HB2 := bthen HB1 hb2
  have hN2 := hN1.later hb2
  clear hb2 HB1 F1 p0 p1 p2 p3 hN1
  go_wp2_with fail
  refine (leastUsed_any false gh egh hc H l a1 c1 _ hN2.here (fun n w' hb => HH.out n w' (bthen HB2 hb)) _ HR.out).mono ?_
  rintro e w3 ⟨rfl, hb3⟩
  have HB3 := bthen HB2 hb3
  clear hb3 HB2 hN2
  go_wp2
  go_ret2
  exact ⟨rfl, HB3⟩

end Go.Proofs.YtgjkdhedkbkagaaGreat
/- GoodBufs; what is held. -/
namespace Go.Proofs.YtgjkdhedkbkagaaGreat
open Go.RowKit Go.BigFrame
set_option maxRecDepth 100000
attribute [local go_sem] Later.cell Later.frozen

def okAtB (l : List Bf) (i : Nat) : Bool := match l[i]? with | some x => decide (0 ≤ x.pl) && (decide (x.pl ≤ 31) && decide (x.data.size ≤ 10)) | none => true
def riseAt (l : List Bf) : Nat → Bool
  | 0 => true
  | i + 1 => match l[i]?, l[i + 1]? with | some x, some y => decide (x.pl < y.pl) | _, _ => true
def rowG (l : List Bf) (i : Nat) : Bool := okAtB l i && riseAt l i
def goodBB (l : List Bf) : Bool := decide (l.length ≤ 8) && (List.range l.length).all (rowG l)

/-- They rise, are of sectors that there are, and not too many. -/
structure GoodB (l : List Bf) : Prop where
  len : l.length ≤ 8
  ok : ∀ i (h : i < l.length), 0 ≤ l[i].pl ∧ l[i].pl ≤ 31 ∧ l[i].data.size ≤ 10
  rise : ∀ i (h : i + 1 < l.length), l[i].pl < l[i + 1].pl
theorem GoodB.lt {l : List Bf} (h : GoodB l) : ∀ (d i : Nat) (hj : i + d + 1 < l.length), l[i].pl < l[i + d + 1].pl := by
  intro d
  induction d with
  | zero => intro i hj; exact h.rise i hj
  | succ d ih =>
    intro i hj
    have a := ih i (by omega)
    have b := h.rise (i + d + 1) (by omega)
    have e : i + (d + 1) + 1 = i + d + 1 + 1 := by omega
    simp only [e]
    omega
theorem GoodB.lt' {l : List Bf} (h : GoodB l) (i j : Nat) (hij : i < j) (hj : j < l.length) : (l[i]'(by omega)).pl < l[j].pl := by
  have := h.lt (j - i - 1) i (by omega)
  have e : i + (j - i - 1) + 1 = j := by omega
  simp only [e] at this
  exact this
theorem GoodB.once {l : List Bf} (h : GoodB l) : OnceB l := by
  intro i j hi hj e
  rcases Nat.lt_trichotomy i j with h' | h' | h'
  · have := h.lt' i j h' hj; omega
  · exact h'
  · have := h.lt' j i h' hi; omega

end Go.Proofs.YtgjkdhedkbkagaaGreat
/- What is held: the closure over an array; the document's facts on Pick and Get. -/
namespace Go.Proofs.YtgjkdhedkbkagaaGreat
open Go.RowKit Go.BigFrame
set_option maxRecDepth 100000
attribute [local go_sem] Later.cell Later.frozen

def HeldAt (w : World) (pb : Nat) (B : Nat → Bool) : Prop := ∀ i, i < 32 → w.cell? ⟨pb, i, none⟩ = some (.bool (B i))
theorem HeldAt.later {w w' : World} {pb : Nat} {B : Nat → Bool} (h : HeldAt w pb B) (hb : Below w.heap.size w w') : HeldAt w' pb B := fun i hi => cellB_later' hb (h i hi)
def holdB (B : Nat → Bool) (n : Int) : Bool := decide (0 ≤ n) && (decide (n < 32) && B n.toNat)

/-- A sector that isn't there (below 0) is at no place. -/
theorem GoodB.neg {l : List Bf} (h : GoodB l) : idxB (plB (-1)) l = -1 := by
  apply idx_none
  intro j hj
  have := (h.ok j hj).1
  simp only [plB, beq_eq_false_iff_ne]; omega
theorem GoodB.at {l : List Bf} (h : GoodB l) (j : Nat) (hj : j < l.length) : idxB (plB l[j].pl) l = j := by
  apply idx_found hj (by simp [plB])
  intro i hi
  have := h.lt' i j hi hj
  simp only [plB, beq_eq_false_iff_ne]; omega
end Go.Proofs.YtgjkdhedkbkagaaGreat
/- Put, all roads in one; what is at hand then. -/
namespace Go.Proofs.YtgjkdhedkbkagaaGreat
open Go.RowKit Go.BigFrame
set_option maxRecDepth 100000
attribute [local go_sem] Later.cell Later.frozen

/-- What is at hand behind a Put that is done. -/
def PutsM (l : List Bf) (x : Bf) (H : Int → Bool) (m : List Bf) : Prop :=
  (∃ k : Nat, ∃ _ : k < l.length, idxB (plB x.pl) l = k ∧ m = l.set k x) ∨
  (idxB (plB x.pl) l = -1 ∧ l.length < 8 ∧ m = insL l x) ∨
  (idxB (plB x.pl) l = -1 ∧ l.length = 8 ∧ ∃ k : Nat, ∃ _ : k < l.length, leastU (fitB false H) l l.length = k ∧ m = insL (l.eraseIdx k) x)
def PutOut (l : List Bf) (x : Bf) (H : Int → Bool) (w' : World) (e : Ending) : Prop :=
  (∃ (m : List Bf) (a' : Option Addr) (c' : Nat), PutsM l x H m ∧ e = .returned (.tuple #[.slice a' m.length c', .nilIface]) ∧ BufsAt w' a' m ∧ m.length ≤ c') ∨
  (idxB (plB x.pl) l = -1 ∧ l.length = 8 ∧ leastU (fitB false H) l l.length = -1 ∧ e = .returned (.tuple #[.slice none 0 0, .iface 89 (.int .i64 7)]))

theorem insL_length (l : List Bf) (x : Bf) : (insL l x).length = l.length + 1 := by
  have := gtAt_le x.pl l
  simp [insL]; omega

theorem mem_insL {l : List Bf} {x y : Bf} : y ∈ insL l x ↔ y = x ∨ y ∈ l := by
  rw [insL, List.mem_append, List.mem_cons]
  constructor
  · rintro (h | h | h)
    · exact Or.inr (List.mem_of_mem_take h)
    · exact Or.inl h
    · exact Or.inr (List.mem_of_mem_drop h)
  · rintro (h | h)
    · exact Or.inr (Or.inl h)
    · rw [← List.take_append_drop (gtAt x.pl l) l, List.mem_append] at h
      exact h.imp id Or.inr
theorem idx_mem {l : List Bf} {y : Bf} (h : y ∈ l) : ∃ k : Nat, ∃ _ : k < l.length, idxB (plB y.pl) l = k := by
  rcases idx_spec (plB y.pl) l with ⟨_, h1⟩ | ⟨k, hk, e, _⟩
  · obtain ⟨j, hj, rfl⟩ := List.getElem_of_mem h
    have := h1 j hj
    simp [plB] at this
  · exact ⟨k, hk, e⟩
theorem idx_pl {l : List Bf} {at' : Int} {k : Nat} (hk : k < l.length) (h : idxB (plB at') l = k) : l[k].pl = at' := by
  rcases idx_spec (plB at') l with ⟨e, _⟩ | ⟨k', hk', e, h2, _⟩
  · rw [h] at e; omega
  · have : k' = k := by omega
    subst this
    simpa [plB] using h2

/-- Who is not at hand any more was used least lately of those that may go. -/
theorem PutsM.lately {l : List Bf} {x : Bf} {H : Int → Bool} {m : List Bf} (h : PutsM l x H m) (hH : ∀ n, H n = false) (i : Nat) (hi : i < l.length) :
    (∃ k : Nat, ∃ _ : k < m.length, idxB (plB l[i].pl) m = k) ∨ (idxB (plB l[i].pl) m = -1 ∧ ∀ n (hn : n < l.length), l[n].dirty = false → decide (l[n].used < l[i].used) = false) := by
  rcases h with ⟨k, hk, hix, rfl⟩ | ⟨_, _, rfl⟩ | ⟨_, _, k, hk, hr, rfl⟩
  · left
    by_cases e : i = k
    · subst e
      have hm : x ∈ l.set i x := List.mem_set hk x
      have := idx_mem hm
      rw [← idx_pl hk hix] at this
      exact this
    · have hi' : i < (l.set k x).length := by rw [List.length_set]; exact hi
      have hm := List.getElem_mem hi'
      rw [List.getElem_set_ne (fun h => e h.symm)] at hm
      exact idx_mem hm
  · exact Or.inl (idx_mem (mem_insL.2 (Or.inr (List.getElem_mem hi))))
  · by_cases e : i = k
    · subst e
      rcases idx_spec (plB l[i].pl) (insL (l.eraseIdx i) x) with ⟨e1, _⟩ | ⟨k, hk, e1, _⟩
      · right
        refine ⟨e1, fun n hn hd => ?_⟩
        rcases leastU_spec (fitB false H) l l.length (Nat.le_refl _) with ⟨e2, _⟩ | ⟨k', hk', _, e2, _, hmin, _⟩
        · rw [hr] at e2; omega
        · have : k' = i := by rw [hr] at e2; omega
          subst this
          have := hmin n hn hn (by simp [fitB, hd, hH])
          exact decide_eq_false (by omega)
      · exact Or.inl ⟨k, hk, e1⟩
    · left
      apply idx_mem
      rw [mem_insL]
      right
      rw [List.mem_eraseIdx_iff_getElem]
      exact ⟨i, hi, e, rfl⟩
end Go.Proofs.YtgjkdhedkbkagaaGreat
/- Put: what is at hand then, in order. -/
namespace Go.Proofs.YtgjkdhedkbkagaaGreat
set_option maxRecDepth 100000

def ltB (a b : Bf) : Prop := a.pl < b.pl
theorem GoodB.pair {l : List Bf} (h : GoodB l) : l.Pairwise ltB := by
  rw [List.pairwise_iff_getElem]
  intro i j hi hj hij
  exact h.lt' i j hij hj
theorem gtAt_spec (at' : Int) (l : List Bf) : (∀ j (hj : j < l.length), j < gtAt at' l → l[j].pl ≤ at') ∧ (∀ (h : gtAt at' l < l.length), at' < l[gtAt at' l].pl) := by
  unfold gtAt
  cases e : l.findIdx? (gtB at') with
  | none =>
    rw [List.findIdx?_eq_none_iff] at e
    refine ⟨fun j hj _ => ?_, fun h => absurd h (Nat.lt_irrefl _)⟩
    have := e _ (List.getElem_mem hj)
    simp only [gtB, decide_eq_false_iff_not] at this
    omega
  | some k =>
    rw [List.findIdx?_eq_some_iff_getElem] at e
    obtain ⟨h1, h2, h3⟩ := e
    refine ⟨fun j hj hjk => ?_, fun h => by simpa [gtB] using h2⟩
    have := h3 j hjk
    simp only [gtB, decide_eq_true_eq] at this
    omega
theorem insL_pair {l : List Bf} {x : Bf} (h : l.Pairwise ltB) (hx : ∀ y ∈ l, y.pl ≠ x.pl) : (insL l x).Pairwise ltB := by
  obtain ⟨s1, s2⟩ := gtAt_spec x.pl l
  have hp := List.pairwise_iff_getElem.1 h
  have h1 : ∀ y ∈ l.take (gtAt x.pl l), y.pl < x.pl := by
    intro y hy
    obtain ⟨j, hj, rfl⟩ := List.getElem_of_mem hy
    rw [List.length_take] at hj
    rw [List.getElem_take]
    have a := s1 j (by omega) (by omega)
    have b := hx _ (List.getElem_mem (show j < l.length by omega))
    omega
  have h2 : ∀ y ∈ l.drop (gtAt x.pl l), x.pl < y.pl := by
    intro y hy
    obtain ⟨j, hj, rfl⟩ := List.getElem_of_mem hy
    rw [List.length_drop] at hj
    rw [List.getElem_drop]
    have hg : gtAt x.pl l < l.length := by omega
    have a := s2 hg
    by_cases e : j = 0
    · subst e; simpa using a
    · have b := hp (gtAt x.pl l) (gtAt x.pl l + j) hg (by omega) (by omega)
      simp only [ltB] at b
      omega
  rw [insL, List.pairwise_append]
  refine ⟨h.sublist (List.take_sublist _ _), ?_, ?_⟩
  · rw [List.pairwise_cons]
    exact ⟨h2, h.sublist (List.drop_sublist _ _)⟩
  · intro a ha b hb
    rw [List.mem_cons] at hb
    rcases hb with rfl | hb
    · exact h1 a ha
    · have := h1 a ha; have := h2 b hb; simp only [ltB]; omega
theorem at_mem {m : List Bf} (hr : m.Pairwise ltB) {y : Bf} (hy : y ∈ m) : ∃ j : Nat, ∃ hj : j < m.length, idxB (plB y.pl) m = j ∧ m[j] = y := by
  obtain ⟨j, hj, e⟩ := idx_mem hy
  refine ⟨j, hj, e, ?_⟩
  have hp := idx_pl hj e
  obtain ⟨n, hn, rfl⟩ := List.getElem_of_mem hy
  have hq := List.pairwise_iff_getElem.1 hr
  rcases Nat.lt_trichotomy j n with h | h | h
  · have := hq j n hj hn h; simp only [ltB] at this; omega
  · subst h; rfl
  · have := hq n j hn hj h; simp only [ltB] at this; omega

structure PutFacts (l : List Bf) (x : Bf) (H : Int → Bool) (m : List Bf) (K : Nat) : Prop where
  rise : m.Pairwise ltB
  len : m.length ≤ 8
  has : x ∈ m
  kle : K ≤ l.length
  kept : ∀ i (hi : i < l.length), l[i].pl ≠ x.pl → i ≠ K → l[i] ∈ m
  gone : ∀ (hK : K < l.length), l.length = 8 ∧ l[K].dirty = false ∧ H l[K].pl = false ∧ idxB (plB l[K].pl) m = -1 ∧ l[K].pl ≠ x.pl

theorem idx_no {l : List Bf} {at' : Int} (h : idxB (plB at') l = -1) : ∀ y ∈ l, y.pl ≠ at' := by
  intro y hy
  rcases idx_spec (plB at') l with ⟨_, h1⟩ | ⟨k, hk, e, _⟩
  · obtain ⟨j, hj, rfl⟩ := List.getElem_of_mem hy
    have := h1 j hj
    simpa [plB] using this
  · rw [h] at e; omega
theorem PutsM.facts {l : List Bf} {x : Bf} {H : Int → Bool} {m : List Bf} (h : PutsM l x H m) (G : GoodB l) : ∃ K, PutFacts l x H m K := by
  have hp := G.pair
  rcases h with ⟨k, hk, hix, rfl⟩ | ⟨hix, h8, rfl⟩ | ⟨hix, h8, k, hk, hr, rfl⟩
  · refine ⟨l.length, ⟨?_, by rw [List.length_set]; exact G.len, List.mem_set hk x, Nat.le_refl _, fun i hi hne _ => ?_, fun h => absurd h (Nat.lt_irrefl _)⟩⟩
    · have hpl := idx_pl hk hix
      rw [List.pairwise_iff_getElem]
      intro i j hi hj hij
      rw [List.length_set] at hi hj
      have := G.lt' i j hij hj
      simp only [ltB, List.getElem_set]
      split <;> split
      · omega
      · rename_i e1 _; subst e1; omega
      · rename_i _ e2; subst e2; omega
      · exact this
    · by_cases e : i = k
      · subst e; exact absurd (idx_pl hk hix) hne
      · have hi' : i < (l.set k x).length := by rw [List.length_set]; exact hi
        have hm := List.getElem_mem hi'
        rw [List.getElem_set_ne (fun h => e h.symm)] at hm
        exact hm
  · refine ⟨l.length, ⟨insL_pair hp (idx_no hix), by rw [insL_length]; omega, mem_insL.2 (Or.inl rfl), Nat.le_refl _, fun i hi _ _ => mem_insL.2 (Or.inr (List.getElem_mem hi)), fun h => absurd h (Nat.lt_irrefl _)⟩⟩
  · have hno : ∀ y ∈ l.eraseIdx k, y.pl ≠ x.pl := fun y hy => idx_no hix y (List.mem_of_mem_eraseIdx hy)
    refine ⟨k, ⟨insL_pair (hp.sublist (List.eraseIdx_sublist _ _)) hno, by rw [insL_length, List.length_eraseIdx, if_pos hk]; omega, mem_insL.2 (Or.inl rfl), Nat.le_of_lt hk, fun i hi _ hne => ?_, fun _ => ?_⟩⟩
    · rw [mem_insL, List.mem_eraseIdx_iff_getElem]
      exact Or.inr ⟨i, hi, hne, rfl⟩
    · have hf : fitB false H l[k] = true := by
        rcases leastU_spec (fitB false H) l l.length (Nat.le_refl _) with ⟨e2, _⟩ | ⟨k', hk', _, e2, hf, _⟩
        · rw [hr] at e2; omega
        · have : k' = k := by rw [hr] at e2; omega
          subst this; exact hf
      rw [fitB, Bool.and_eq_true] at hf
      have hx := idx_no hix _ (List.getElem_mem hk)
      refine ⟨h8, by simpa using hf.1, by simpa using hf.2, ?_, hx⟩
      apply idx_none
      intro j hj
      simp only [plB, beq_eq_false_iff_ne]
      have hm := List.getElem_mem hj
      rw [mem_insL, List.mem_eraseIdx_iff_getElem] at hm
      rcases hm with hm | ⟨n, hn, hne, hm⟩
      · rw [hm]; exact fun h => hx h.symm
      · rw [← hm]
        rcases Nat.lt_or_gt_of_ne hne with h | h
        · have := G.lt' n k h hk; omega
        · have := G.lt' k n h hn; omega
end Go.Proofs.YtgjkdhedkbkagaaGreat
/- Use. -/
namespace Go.Proofs.YtgjkdhedkbkagaaGreat
open Go.RowKit Go.BigFrame
set_option maxRecDepth 100000
attribute [local go_sem] Later.cell Later.frozen

/-- What Use leaves: the sector was used now. -/
def useL (l : List Bf) (at' now : Int) : List Bf := l.map fun x => if x.pl = at' then { x with used := now } else x
theorem use_no {l : List Bf} {at' now : Int} (h : idxB (plB at') l = -1) : useL l at' now = l := by
  rcases idx_spec (plB at') l with ⟨_, h1⟩ | ⟨k, hk, e, _⟩
  · apply List.ext_getElem (by simp [useL])
    intro i hi h2
    simp only [useL, List.getElem_map]
    have := h1 i h2
    simp only [plB, beq_eq_false_iff_ne] at this
    rw [if_neg this]
  · rw [h] at e; omega
theorem use_yes {l : List Bf} {at' now : Int} {k : Nat} (hk : k < l.length) (ho : OnceB l) (h : idxB (plB at') l = k) : useL l at' now = l.set k { l[k] with used := now } := by
  have hp : l[k].pl = at' := by
    rcases idx_spec (plB at') l with ⟨e, _⟩ | ⟨k', hk', e, h2, _⟩
    · rw [h] at e; omega
    · have : k' = k := by omega
      subst this
      simpa [plB] using h2
  apply List.ext_getElem (by simp [useL])
  intro i hi h2
  rw [List.length_set] at h2
  simp only [useL, List.getElem_map]
  by_cases e : i = k
  · subst e
    rw [List.getElem_set_self, if_pos hp]
  · rw [List.getElem_set_ne (fun h => e h.symm), if_neg (fun c => e (ho i k h2 hk (c.trans hp.symm)))]

end Go.Proofs.YtgjkdhedkbkagaaGreat
/- request.Merge of two requests that may be: what B2 says. -/
namespace Go.Proofs.YtgjkdhedkbkagaaGreat
open Go.RowKit Go.BigFrame
set_option maxRecDepth 100000
attribute [local go_sem] Later.cell Later.frozen

/-- Do two go together, the first one with the lower sectors? -/
def togB (a b : Rq) : Bool := decide (a.f + a.m = b.f) && ((a.wr == b.wr) && (decide (a.m + b.m ≤ 4) && decide (a.tags.length + b.tags.length ≤ 4)))

theorem Good.bnd {r : Rq} (h : Good r) : 0 ≤ r.f ∧ r.f ≤ 31 ∧ 1 ≤ r.m ∧ r.m ≤ 4 ∧ r.m ≤ 32 - r.f := by
  have := h.ok
  simp only [okB, decide_eq_true_eq] at this
  omega
theorem wrap_sum {f m : Int} (h0 : 0 ≤ f) (h1 : f ≤ 100) (h2 : 0 ≤ m) (h3 : m ≤ 100) : wrap64 (f + m) = f + m := by
  unfold wrap64; omega

set_option maxHeartbeats 1000000 in
theorem tog_any (a b : Rq) (w : World) (ha : Good a) (hb : Good b) :
    Calls Tryz.prog 115 #[a.val, b.val] w fun e w' => e = .returned (.bool (togB a b)) ∧ Below w.heap.size w w' := by
  obtain ⟨x1, x2, x3, x4, x5⟩ := ha.bnd
  obtain ⟨y1, y2, y3, y4, y5⟩ := hb.bnd
  have at4 := ha.t4
  have bt4 := hb.t4
  have e1 : wrap64 (a.f + a.m) = a.f + a.m := wrap_sum (by omega) (by omega) (by omega) (by omega)
  have hn : (wrap64 (a.f + a.m) == b.f) = decide (a.f + a.m = b.f) := by rw [e1]; rfl
  clear ha hb e1
  have HT : Hid (togB a b = (decide (a.f + a.m = b.f) && ((a.wr == b.wr) && (decide (a.m + b.m ≤ 4) && decide (a.tags.length + b.tags.length ≤ 4))))) := rfl
  generalize togB a b = R at HT ⊢
  have e2 : IntKind.i64.wrap (a.m + b.m) = a.m + b.m := by rw [IntKind.wrap_i64]; omega
  have e3 : IntKind.i64.wrap ((a.tags.length : Int) + (b.tags.length : Int)) = (a.tags.length : Int) + (b.tags.length : Int) := by rw [IntKind.wrap_i64]; omega
  have e4 : decide (a.tags.length + b.tags.length ≤ 4) = decide ((a.tags.length : Int) + (b.tags.length : Int) ≤ 4) := by rw [decide_eq_decide]; omega
  replace HT : Hid (R = (decide (a.f + a.m = b.f) && ((a.wr == b.wr) && (decide (a.m + b.m ≤ 4) && decide ((a.tags.length : Int) + (b.tags.length : Int) ≤ 4))))) := by rw [← e4]; exact HT
  clear e4
  cases h1 : decide (a.f + a.m = b.f)
  · rw [h1] at hn
    rw [h1] at HT
    clear h1
    obtain rfl : R = false := HT.out
    clear HT
    go_enter Tryz.func115, Tryz.ntmps115
    go_wp2_with fail
    go_at_call 114; refine (next_eq _ _ _ _ _ _ hn).mono ?_; rintro e w1 ⟨rfl, hb⟩; (try clear hc hf hz); (first | replace HB := bthen HB hb | replace HB := bthen (bdrew HB) hb | have HB := hb); clear hb; obtain ⟨hc, hf, hz⟩ := bcell HB
    go_wp2
    go_ret
    exact ⟨rfl, by repeat (first | with_reducible exact Below.refl _ _ | with_reducible refine balloc ?_ _ | with_reducible refine bdrew ?_ | with_reducible refine bset' ?_ (by omega) _ | with_reducible refine bthen ?_ (by assumption))⟩
  · rw [h1] at hn HT
    clear h1
    cases h2 : (a.wr == b.wr)
    · rw [h2] at HT
      obtain rfl : R = false := HT.out
      clear HT
      go_enter Tryz.func115, Tryz.ntmps115
      go_wp2_with fail
      go_at_call 114; refine (next_eq _ _ _ _ _ _ hn).mono ?_; rintro e w1 ⟨rfl, hb⟩; (try clear hc hf hz); (first | replace HB := bthen HB hb | replace HB := bthen (bdrew HB) hb | have HB := hb); clear hb; obtain ⟨hc, hf, hz⟩ := bcell HB
      go_wp2
      go_ret
      exact ⟨rfl, by repeat (first | with_reducible exact Below.refl _ _ | with_reducible refine balloc ?_ _ | with_reducible refine bdrew ?_ | with_reducible refine bset' ?_ (by omega) _ | with_reducible refine bthen ?_ (by assumption))⟩
    · rw [h2] at HT
      cases h3 : decide (a.m + b.m ≤ 4)
      · rw [h3] at HT
        obtain rfl : R = false := HT.out
        clear HT
        go_enter Tryz.func115, Tryz.ntmps115
        go_wp2_with fail
        go_at_call 114; refine (next_eq _ _ _ _ _ _ hn).mono ?_; rintro e w1 ⟨rfl, hb⟩; (try clear hc hf hz); (first | replace HB := bthen HB hb | replace HB := bthen (bdrew HB) hb | have HB := hb); clear hb; obtain ⟨hc, hf, hz⟩ := bcell HB
        go_wp2
        go_ret
        exact ⟨rfl, by repeat (first | with_reducible exact Below.refl _ _ | with_reducible refine balloc ?_ _ | with_reducible refine bdrew ?_ | with_reducible refine bset' ?_ (by omega) _ | with_reducible refine bthen ?_ (by assumption))⟩
      · rw [h3] at HT
        obtain rfl : R = decide ((a.tags.length : Int) + (b.tags.length : Int) ≤ 4) := HT.out
        clear HT
        go_enter Tryz.func115, Tryz.ntmps115
        go_wp2_with fail
        go_at_call 114; refine (next_eq _ _ _ _ _ _ hn).mono ?_; rintro e w1 ⟨rfl, hb⟩; (try clear hc hf hz); (first | replace HB := bthen HB hb | replace HB := bthen (bdrew HB) hb | have HB := hb); clear hb; obtain ⟨hc, hf, hz⟩ := bcell HB
        go_wp2
        go_ret
        exact ⟨rfl, by repeat (first | with_reducible exact Below.refl _ _ | with_reducible refine balloc ?_ _ | with_reducible refine bdrew ?_ | with_reducible refine bset' ?_ (by omega) _ | with_reducible refine bthen ?_ (by assumption))⟩
end Go.Proofs.YtgjkdhedkbkagaaGreat
/- request.Merge of two requests that may be: what B2 says. -/
namespace Go.Proofs.YtgjkdhedkbkagaaGreat
open Go.RowKit Go.BigFrame
set_option maxRecDepth 100000
attribute [local go_sem] Later.cell Later.frozen

abbrev noReq : Value := .agg #[.bool false, .int .i64 0, .int .i64 0, .slice none 0 0, .slice none 0 0, .int .i64 0]

theorem sixLast {w w1 : World} {a0 a1 a2 a3 a4 a5 : Value} {T : TypeId} (HB : Below (w.alloc (.cells #[a0, a1, a2, a3, a4, a5] T)).heap.size (w.alloc (.cells #[a0, a1, a2, a3, a4, a5] T)) w1) :
    w1.cell? ⟨w.heap.size, 0, none⟩ = some a0 ∧ w1.cell? ⟨w.heap.size, 1, none⟩ = some a1 ∧ w1.cell? ⟨w.heap.size, 2, none⟩ = some a2 ∧ w1.cell? ⟨w.heap.size, 3, none⟩ = some a3 ∧ w1.cell? ⟨w.heap.size, 4, none⟩ = some a4 ∧ w1.cell? ⟨w.heap.size, 5, none⟩ = some a5 := by
  have c := fun o => HB.cell (p := ⟨w.heap.size, o, none⟩) (by simp only [World.size_alloc]; omega)
  refine ⟨?_, ?_, ?_, ?_, ?_, ?_⟩
  all_goals rw [c]
  all_goals simp

theorem tog_eq (a b : Rq) (w : World) (ha : Good a) (hb : Good b) (t : Bool) (ht : togB a b = t) :
    Calls Tryz.prog 115 #[a.val, b.val] w fun e w' => e = .returned (.bool t) ∧ Below w.heap.size w w' := by
  subst ht; exact tog_any a b w ha hb

set_option maxHeartbeats 1000000 in
theorem merge_no (a b : Rq) (w : World) (ha : Good a) (hb : Good b) (h1 : (wrap64 (b.f + b.m) == a.f) = false) (h2 : togB a b = false) :
    Calls Tryz.prog 98 #[a.val, b.val] w fun e w' => e = .returned (.tuple #[noReq, .bool false]) ∧ Below w.heap.size w w' := by
  go_enter Tryz.func98, Tryz.ntmps98
  go_wp2_with fail
  go_at_call 114; refine (next_eq _ _ _ _ _ _ h1).mono ?_; rintro e w1 ⟨rfl, hb⟩; (try clear hc hf hz); (first | replace HB := bthen HB hb | replace HB := bthen (bdrew HB) hb | have HB := hb); clear hb; obtain ⟨hc, hf, hz⟩ := bcell HB
  go_wp2_with fail
  go_at_call 115; refine (tog_eq a b _ ha hb _ h2).mono ?_; rintro e w1 ⟨rfl, hb⟩; (try clear hc hf hz); (first | replace HB := bthen HB hb | replace HB := bthen (bdrew HB) hb | have HB := hb); clear hb; obtain ⟨hc, hf, hz⟩ := bcell HB
  go_wp2
  refine bodyPost_ret (v := .tuple #[noReq, .bool false]) ?_ rfl ⟨rfl, by repeat (first | with_reducible exact Below.refl _ _ | with_reducible refine balloc ?_ _ | with_reducible refine bdrew ?_ | with_reducible refine bset' ?_ (by omega) _ | with_reducible refine bthen ?_ (by assumption))⟩
  have m := sixLast HB
  rw [World.size_alloc, World.size_alloc] at m
  obtain ⟨m0, m1, m2, m3, m4, m5⟩ := m
  clear hc hf hz HB
  simp [results, Tryz.results98, go_sem, m0, m1, m2, m3, m4, m5]
end Go.Proofs.YtgjkdhedkbkagaaGreat
/- request.Merge of two requests that go together. -/
namespace Go.Proofs.YtgjkdhedkbkagaaGreat
open Go.RowKit Go.BigFrame
set_option maxRecDepth 100000
attribute [local go_sem] Later.cell Later.frozen

theorem StrsAt.row {w : World} {a : Option Addr} {xs : List ByteArray} {c : Nat} (h : StrsAt w a xs) (hn : a = none → c = 0) : RowAt w 1 a xs.length c (xs.map .string) := by
  refine ⟨by simp, by simp [Value.oneCell'], ?_⟩
  rcases h with rfl | ⟨b, o, rfl, hc⟩
  · cases a with
    | none => exact Or.inl ⟨rfl, rfl, hn rfl⟩
    | some ad => exact Or.inr ⟨ad, rfl, fun j u h => by simp at h⟩
  · refine Or.inr ⟨_, rfl, fun j u hj => ?_⟩
    rw [List.getElem?_map] at hj
    cases hx : xs[j]? with
    | none => rw [hx] at hj; cases hj
    | some x =>
      rw [hx] at hj
      simp only [Option.map_some, Option.some.injEq] at hj
      have hlt : j < xs.length := by
        rcases Nat.lt_or_ge j xs.length with h | h
        · exact h
        · rw [List.getElem?_eq_none h] at hx; cases hx
      rw [add_mk', hc j hlt, ← hj, List.getD, hx]; rfl
theorem IntsAt.row {w : World} {a : Option Addr} {xs : List Int} {c : Nat} (h : IntsAt w a xs) (hn : a = none → c = 0) : RowAt w 1 a xs.length c (xs.map (.int .i64)) := by
  refine ⟨by simp, by simp [Value.oneCell'], ?_⟩
  rcases h with rfl | ⟨b, o, rfl, hc⟩
  · cases a with
    | none => exact Or.inl ⟨rfl, rfl, hn rfl⟩
    | some ad => exact Or.inr ⟨ad, rfl, fun j u h => by simp at h⟩
  · refine Or.inr ⟨_, rfl, fun j u hj => ?_⟩
    rw [List.getElem?_map] at hj
    cases hx : xs[j]? with
    | none => rw [hx] at hj; cases hj
    | some x =>
      rw [hx] at hj
      simp only [Option.map_some, Option.some.injEq] at hj
      have hlt : j < xs.length := by
        rcases Nat.lt_or_ge j xs.length with h | h
        · exact h
        · rw [List.getElem?_eq_none h] at hx; cases hx
      rw [add_mk', hc j hlt, ← hj, List.getD, hx]; rfl
end Go.Proofs.YtgjkdhedkbkagaaGreat
