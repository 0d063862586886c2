/- Put: its closure, the roads. -/
import Derived.Test.YtpmjgofjdejeeacCache10
namespace Go.Proofs.Ytpmjgofjdejeeac
open Go.RowKit Go.BigFrame
attribute [local go_sem] Later.cell Later.frozen

theorem ownsRow_laterB {w w' : World} {base size n : Nat} {e : TypeId} {v : Value} {xs : List Value} (h : w.ownsRow base e size v n xs) (hb : Below w.heap.size w w') : w'.ownsRow base e size v n xs := by
  refine ⟨h.1, h.2.elim Or.inl (fun ⟨g, cap, cur, hv, hg, hh, r⟩ => Or.inr ⟨g, cap, cur, hv, hg, ?_, r⟩)⟩
  have hlt : g < w.heap.size := by
    rcases Nat.lt_or_ge g w.heap.size with h' | h'
    · exact h'
    · rw [Array.getElem?_eq_none h'] at hh; cases hh
  rw [hb.block g hlt]
  exact hh
theorem NewBufs.later {base : Nat} {w w' : World} {a : Option Addr} {c : Nat} {l : List Bf} (h : NewBufs base w a c l) (hb : Below w.heap.size w w') : NewBufs base w' a c l :=
  ⟨h.here.later hb, h.cap, h.capM, h.nil, ownsRow_laterB h.own hb⟩

theorem NewBufs.lt {base : Nat} {w : World} {a : Option Addr} {c : Nat} {l : List Bf} (h : NewBufs base w a c l) (b : Nat) (hb : a = some ⟨b, 0, none⟩) : b < w.heap.size := by
  subst hb
  rcases h.own.2 with ⟨h1, _⟩ | ⟨g, cap, cur, h1, hg, hh, _⟩
  · cases h1
  · simp only [Value.slice.injEq, Option.some.injEq, Addr.mk.injEq, and_true] at h1
    obtain ⟨rfl, _⟩ := h1
    rcases Nat.lt_or_ge b w.heap.size with h' | h'
    · exact h'
    · rw [Array.getElem?_eq_none h'] at hh; cases hh
/-- The call of Insert as Put makes it. -/
theorem insP (l : List Bf) (a : Option Addr) (c base i : Nat) (x : Bf) (w : World) (hi : i ≤ l.length) (h8 : l.length ≤ 1000) (hbase : base ≤ w.heap.size) (hN : NewBufs base w a c l) :
    Calls Try.prog 70 #[.slice a l.length c, .int .i64 i, .slice (some ⟨w.heap.size, 0, none⟩) 1 1] (w.alloc (.cells #[.int .i64 x.pl, .string x.data, .bool x.dirty, .int .i64 x.used] 72)) fun e w' =>
      ∃ a' c', e = .returned (.slice a' (l.length + 1) c') ∧ NewBufs base w' a' c' (l.take i ++ x :: l.drop i) ∧ Below base w w' ∧ l.length + 1 ≤ c' := by
  refine (insB l a c base w.heap.size i x 72 _ hi h8 (by simp; omega) (hN.later (below1 _ _)) (heap_alloc_new _ _) (fun b hb => ?_)).mono ?_
  · have := hN.lt b hb; omega
  · rintro e w' ⟨a', c', he, h1, h2⟩
    refine ⟨a', c', he, h1, ((below1 _ _).mono hbase).trans h2, ?_⟩
    have := h1.cap
    rw [show (l.take i ++ x :: l.drop i).length = l.length + 1 by simp; omega] at this
    exact this

/-- The four cells of a sector that lies by itself. -/
def FourB (w : World) (b : Nat) (x : Bf) : Prop := w.cell? ⟨b, 0, none⟩ = some (.int .i64 x.pl) ∧ w.cell? ⟨b, 1, none⟩ = some (.string x.data) ∧ w.cell? ⟨b, 2, none⟩ = some (.bool x.dirty) ∧ w.cell? ⟨b, 3, none⟩ = some (.int .i64 x.used)
theorem FourB.later {w w' : World} {b : Nat} {x : Bf} (h : FourB w b x) (hb : Below w.heap.size w w') : FourB w' b x :=
  ⟨cellB_later' hb h.1, cellB_later' hb h.2.1, cellB_later' hb h.2.2.1, cellB_later' hb h.2.2.2⟩
theorem FourB.below {w w' : World} {b base : Nat} {x : Bf} (h : FourB w b x) (hb : Below base w w') (hlt : b < base) : FourB w' b x :=
  ⟨by rw [hb.cell hlt]; exact h.1, by rw [hb.cell hlt]; exact h.2.1, by rw [hb.cell hlt]; exact h.2.2.1, by rw [hb.cell hlt]; exact h.2.2.2⟩

def gtB (at' : Int) (x : Bf) : Bool := decide (at' < x.pl)
set_option maxHeartbeats 400000 in
theorem put1_any (y x : Bf) (pb : Nat) (w : World) (hp : FourB w pb x) :
    Calls Try.prog 69 #[y.val, .pointer (some ⟨pb, 0, none⟩)] w fun e w' => e = .returned (.bool (gtB x.pl y)) ∧ Below w.heap.size w w' := by
  have hp' := allocB_cell hp.1
  clear hp
  go_enter Try.func69, Try.ntmps69
  go_wp2
  go_ret
  exact ⟨rfl, by repeat (first | with_reducible exact Below.refl _ _ | with_reducible refine balloc ?_ _ | with_reducible refine bdrew ?_ | with_reducible refine bset' ?_ (by omega) _ | with_reducible refine bthen ?_ (by assumption))⟩
theorem gtidx_any (x : Bf) (pb : Nat) (l : List Bf) (a : Option Addr) (c : Nat) (w : World) (hl : BufsAt w a l) (hp : FourB w pb x) (r : Int) (hr : idxB (gtB x.pl) l = r) :
    Calls Try.prog 68 #[.slice a l.length c, .func (.func 69) #[] #[.pointer (some ⟨pb, 0, none⟩)]] w fun e w' => e = .returned (.int .i64 r) ∧ Below w.heap.size w w' := by
  subst hr
  exact indexB_any 69 (by intro args w; go_simp) (.pointer (some ⟨pb, 0, none⟩)) (gtB x.pl) l a c w hl (fun y w' hb => put1_any y x pb w' (hp.later hb))

/-- Where it goes. -/
def gtAt (at' : Int) (l : List Bf) : Nat := match l.findIdx? (gtB at') with | some k => k | none => l.length
def insL (l : List Bf) (x : Bf) : List Bf := l.take (gtAt x.pl l) ++ x :: l.drop (gtAt x.pl l)
theorem gtAt_le (at' : Int) (l : List Bf) : gtAt at' l ≤ l.length := by
  unfold gtAt
  cases e : l.findIdx? (gtB at') with
  | none => exact Nat.le_refl _
  | some k =>
    rw [List.findIdx?_eq_some_iff_getElem] at e
    exact Nat.le_of_lt e.1
theorem gt_idx (at' : Int) (l : List Bf) : (idxB (gtB at') l = -1 ∧ gtAt at' l = l.length) ∨ idxB (gtB at') l = (gtAt at' l : Int) := by
  unfold idxB gtAt
  cases e : l.findIdx? (gtB at') with
  | none => exact Or.inl ⟨rfl, rfl⟩
  | some k => exact Or.inr rfl

theorem gt_idx2 (at' : Int) (l : List Bf) : (idxB (gtB at') l = -1 ∧ gtAt at' l = l.length) ∨ (idxB (gtB at') l = (gtAt at' l : Int) ∧ gtAt at' l = gtAt at' l) := (gt_idx at' l).imp id (fun h => ⟨h, rfl⟩)
set_option maxRecDepth 100000 in
set_option maxHeartbeats 2000000 in
theorem put_room (gh : Nat) (hc : Array Value) (l : List Bf) (a : Option Addr) (c : Nat) (x : Bf) (w : World) (hl : BufsAt w a l) (hn : a = none → c = 0) (h8 : l.length < 8) (hi : idxB (plB x.pl) l = -1) :
    Calls Try.prog 42 #[.slice a l.length c, x.val, .func (.func gh) #[] hc] w fun e w' => ∃ a' c', e = .returned (.tuple #[.slice a' (l.length + 1) c', .nilIface]) ∧ BufsAt w' a' (insL l x) ∧ l.length + 1 ≤ c' ∧ Below w.heap.size w w' := by
  have HI := hidB hi
  clear hi
  have b0 := below1 w (.cells #[.int .i64 x.pl, .string x.data, .bool x.dirty, .int .i64 x.used] 72)
  go_enter Try.func42, Try.ntmps42
  go_wp2_with fail
  refine (cloneB_any l a c _ (hl.later b0) hn (by omega)).mono ?_
  rintro e w1 ⟨a1, c1, rfl, hN, hb1⟩
  have F1 : FourB w1 w.heap.size x := FourB.later ⟨by simp, by simp, by simp, by simp⟩ hb1
  have HB1 : Below w.heap.size w w1 := bthen b0 hb1
  have z1 : w.heap.size + 1 ≤ w1.heap.size := by have := hb1.size; simpa using this
  have hN1 : NewBufs (w.heap.size + 1) w1 a1 c1 l := by simpa using hN
  clear hN hb1 b0
  obtain ⟨p0, p1, p2, p3⟩ := id F1
  go_wp2_with fail
  refine (place_eq l a1 c1 x.pl _ hN1.here _ HI.out).mono ?_
  rintro e w2 ⟨rfl, hb2⟩
  have F2 := F1.later hb2
  have HB2 := bthen HB1 hb2
  have z2 : w.heap.size + 1 ≤ w2.heap.size := Nat.le_trans z1 hb2.size
  have hN2 := hN1.later hb2
  clear hb2 HB1 F1 p0 p1 p2 p3 hN1 z1
  obtain ⟨p0, p1, p2, p3⟩ := id F2
  have h8' : ¬ (8 : Int) ≤ (l.length : Int) := by omega
  rcases gt_idx2 x.pl l with ⟨hg, hgl⟩ | ⟨hg, hgl⟩
  all_goals
    have HG := hidB hg
    have HGL := hidB hgl
    clear hg hgl
    go_wp2_with fail
    refine (gtidx_any x w.heap.size l a1 c1 _ hN2.here F2 _ HG.out).mono ?_
    rintro e w3 ⟨rfl, hb3⟩
    have F3 := F2.later hb3
    have HB3 := bthen HB2 hb3
    have z3 : w.heap.size + 1 ≤ w3.heap.size := Nat.le_trans z2 hb3.size
    have hN3 := hN2.later hb3
    clear hb3 HB2 F2 p0 p1 p2 p3 hN2 z2
    obtain ⟨p0, p1, p2, p3⟩ := id F3
    go_wp2_with fail
    refine (insP l a1 c1 (w.heap.size + 1) _ x w3 (by first | exact Nat.le_refl _ | exact gtAt_le _ _) (by omega) z3 hN3).mono ?_
    rintro e w4 ⟨a4, c4, rfl, hN4, hb4, cp⟩
    have HB4 : Below w.heap.size w w4 := HB3.trans (hb4.mono (by omega))
    have R := hN4.here
    (try rw [← HGL.out] at R)
    go_wp2
    go_ret2
    refine ⟨a4, c4, rfl, R, cp, HB4⟩

/-- A whole sector is written. -/
theorem BufsAt.set4 {w : World} {b : Nat} {l : List Bf} (h : BufsAt w (some ⟨b, 0, none⟩) l) {k : Nat} (hk : k < l.length) (x : Bf) :
    BufsAt ((((w.setCell ⟨b, k * 4, none⟩ (.int .i64 x.pl)).setCell ⟨b, k * 4 + 1, none⟩ (.string x.data)).setCell ⟨b, k * 4 + 2, none⟩ (.bool x.dirty)).setCell ⟨b, k * 4 + 3, none⟩ (.int .i64 x.used)) (some ⟨b, 0, none⟩) (l.set k x) := by
  have h1 := h.set hk 0 (by omega) { l[k] with pl := x.pl } (.int .i64 x.pl) rfl (fun i hi hne => by rcases (show i = 1 ∨ i = 2 ∨ i = 3 by omega) with rfl | rfl | rfl <;> rfl)
  have h2 := h1.set (k := k) (by simpa using hk) 1 (by omega) { l[k] with pl := x.pl, data := x.data } (.string x.data) rfl (fun i hi hne => by rw [List.getElem_set_self]; rcases (show i = 0 ∨ i = 2 ∨ i = 3 by omega) with rfl | rfl | rfl <;> rfl)
  rw [List.set_set] at h2
  have h3 := h2.set (k := k) (by simpa using hk) 2 (by omega) { x with used := l[k].used } (.bool x.dirty) rfl (fun i hi hne => by rw [List.getElem_set_self]; rcases (show i = 0 ∨ i = 1 ∨ i = 3 by omega) with rfl | rfl | rfl <;> rfl)
  rw [List.set_set] at h3
  have h4 := h3.set (k := k) (by simpa using hk) 3 (by omega) x (.int .i64 x.used) rfl (fun i hi hne => by rw [List.getElem_set_self]; rcases (show i = 0 ∨ i = 1 ∨ i = 2 by omega) with rfl | rfl | rfl <;> rfl)
  rw [List.set_set] at h4
  simpa using h4

set_option maxRecDepth 100000 in
set_option maxHeartbeats 2000000 in
theorem put_have (gh : Nat) (hc : Array Value) (l : List Bf) (a : Option Addr) (c : Nat) (x : Bf) (w : World) (hl : BufsAt w a l) (hn : a = none → c = 0) (h8 : l.length ≤ 8) (k : Nat) (hk : k < l.length) (hi : idxB (plB x.pl) l = k) :
    Calls Try.prog 42 #[.slice a l.length c, x.val, .func (.func gh) #[] hc] w fun e w' => ∃ a' c', e = .returned (.tuple #[.slice a' l.length c', .nilIface]) ∧ BufsAt w' a' (l.set k x) ∧ l.length ≤ c' ∧ Below w.heap.size w w' := by
  have HI := hidB hi
  clear hi
  have h0 : l ≠ [] := by rintro rfl; exact absurd hk (Nat.not_lt_zero _)
  have H0 := hidB h0
  clear h0
  have b0 := below1 w (.cells #[.int .i64 x.pl, .string x.data, .bool x.dirty, .int .i64 x.used] 72)
  go_enter Try.func42, Try.ntmps42
  go_wp2_with fail
  refine (cloneB_any l a c _ (hl.later b0) hn (by omega)).mono ?_
  rintro e w1 ⟨a1, c1, rfl, hN, hb1⟩
  have F1 : FourB w1 w.heap.size x := FourB.later ⟨by simp, by simp, by simp, by simp⟩ hb1
  have HB1 : Below w.heap.size w w1 := bthen b0 hb1
  have hN1 : NewBufs (w.heap.size + 1) w1 a1 c1 l := by simpa using hN
  clear hN hb1 b0
  obtain ⟨b1, rfl, hbb, hlt, hfz⟩ := hN1.place H0.out
  obtain ⟨p0, p1, p2, p3⟩ := id F1
  go_wp2_with fail
  refine (place_eq l _ c1 x.pl _ hN1.here _ HI.out).mono ?_
  rintro e w2 ⟨rfl, hb2⟩
  have F2 := F1.later hb2
  have HB2 := bthen HB1 hb2
  have hN2 := hN1.later hb2
  have hl2 : b1 < w2.heap.size := hN2.lt b1 rfl
  have ff : ∀ o, w2.frozen? ⟨b1, o, none⟩ = false := fun o => by rw [hb2.frozen (p := ⟨b1, o, none⟩) hlt]; exact hfz o
  clear hb2 HB1 F1 p0 p1 p2 p3 hN1 hlt hfz
  obtain ⟨p0, p1, p2, p3⟩ := id F2
  have R := hN2.here
  have cp := hN2.cap
  obtain ⟨c0, c1', c2, c3⟩ := R.cells hk
  have f0 := ff (k * 4)
  have f1 := ff (k * 4 + 1)
  have f2 := ff (k * 4 + 2)
  have f3 := ff (k * 4 + 3)
  rw [Nat.zero_add] at c0 c1' c2 c3
  clear ff hN2 F2
  have HR := hidB R
  clear R
  have nb : b1 ≠ w.heap.size := by omega
  go_wp2
  go_ret2
  refine ⟨_, c1, rfl, HR.out.set4 hk x, cp, by repeat (first | with_reducible exact Below.refl _ _ | with_reducible refine balloc ?_ _ | with_reducible refine bdrew ?_ | with_reducible refine bset' ?_ (by omega) _ | with_reducible refine bthen ?_ (by assumption))⟩
end Go.Proofs.Ytpmjgofjdejeeac
