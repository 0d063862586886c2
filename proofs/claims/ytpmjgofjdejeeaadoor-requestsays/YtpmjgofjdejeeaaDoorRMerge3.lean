/- R.Merged where they go together. -/
import Derived.Test.YtpmjgofjdejeeaaDoorRMerge
namespace Go.Proofs.YtpmjgofjdejeeaaDoor
open Go.RowKit Go.BigFrame
attribute [local go_sem] Later.cell Later.frozen

theorem Zix.belowB {w w' : World} {n B : Nat} (h : Zix w n) (hb : Below B w w') (hl : n < B) : Zix w' n := by
  obtain ⟨⟨h0, h1, h2, h3, h4, h5⟩, ⟨f0, f1, f2, f3, f4, f5⟩⟩ := h
  have c := fun o => hb.cell (p := ⟨n, o, none⟩) hl
  have f := fun o => hb.frozen (p := ⟨n, o, none⟩) hl
  exact ⟨⟨atHand_of ((c 0).trans h0), atHand_of ((c 1).trans h1), atHand_of ((c 2).trans h2), atHand_of ((c 3).trans h3), atHand_of ((c 4).trans h4), atHand_of ((c 5).trans h5)⟩, ⟨(f 0).trans f0, (f 1).trans f1, (f 2).trans f2, (f 3).trans f3, (f 4).trans f4, (f 5).trans f5⟩⟩
theorem zix_new (w : World) (T : TypeId) (v0 v1 v2 v3 v4 v5 : Value) : Zix (w.alloc (.cells #[v0, v1, v2, v3, v4, v5] T)) w.heap.size := by
  refine ⟨⟨atHand_of (v := v0) (by simp), atHand_of (v := v1) (by simp), atHand_of (v := v2) (by simp), atHand_of (v := v3) (by simp), atHand_of (v := v4) (by simp), atHand_of (v := v5) (by simp)⟩, ⟨?_, ?_, ?_, ?_, ?_, ?_⟩⟩ <;> simp

theorem six_new1 {w : World} {X : Obj} (T : TypeId) (a : Rq) : Six ((w.alloc X).alloc (.cells #[.bool a.wr, .int .i64 a.f, .int .i64 a.m, .slice a.da a.data.length a.dc, .slice a.ta a.tags.length a.tc, .int .i64 a.born] T)) (w.heap.size + 1) a := by
  have := six_newA (w.alloc X) T a
  rwa [World.size_alloc] at this
theorem zix_new2 {w : World} {X Y : Obj} (T : TypeId) (v0 v1 v2 v3 v4 v5 : Value) : Zix (((w.alloc X).alloc Y).alloc (.cells #[v0, v1, v2, v3, v4, v5] T)) (w.heap.size + 1 + 1) := by
  have := zix_new ((w.alloc X).alloc Y) T v0 v1 v2 v3 v4 v5
  rwa [World.size_alloc, World.size_alloc] at this
theorem zix_new3 {w : World} {X Y Z : Obj} (T : TypeId) (v0 v1 v2 v3 v4 v5 : Value) : Zix ((((w.alloc X).alloc Y).alloc Z).alloc (.cells #[v0, v1, v2, v3, v4, v5] T)) (w.heap.size + 1 + 1 + 1) := by
  have := zix_new (((w.alloc X).alloc Y).alloc Z) T v0 v1 v2 v3 v4 v5
  rwa [World.size_alloc, World.size_alloc, World.size_alloc] at this
/-- The six cells, as values. -/
def Cel (w : World) (n : Nat) (v0 v1 v2 v3 v4 v5 : Value) : Prop := w.cell? ⟨n, 0, none⟩ = some v0 ∧ w.cell? ⟨n, 1, none⟩ = some v1 ∧ w.cell? ⟨n, 2, none⟩ = some v2 ∧ w.cell? ⟨n, 3, none⟩ = some v3 ∧ w.cell? ⟨n, 4, none⟩ = some v4 ∧ w.cell? ⟨n, 5, none⟩ = some v5
theorem cel_new (w : World) (T : TypeId) (v0 v1 v2 v3 v4 v5 : Value) : Cel (w.alloc (.cells #[v0, v1, v2, v3, v4, v5] T)) w.heap.size v0 v1 v2 v3 v4 v5 := by
  refine ⟨?_, ?_, ?_, ?_, ?_, ?_⟩ <;> simp
theorem cel_new3 {w : World} {X Y Z : Obj} (T : TypeId) (v0 v1 v2 v3 v4 v5 : Value) : Cel ((((w.alloc X).alloc Y).alloc Z).alloc (.cells #[v0, v1, v2, v3, v4, v5] T)) (w.heap.size + 1 + 1 + 1) v0 v1 v2 v3 v4 v5 := by
  have := cel_new (((w.alloc X).alloc Y).alloc Z) T v0 v1 v2 v3 v4 v5
  rwa [World.size_alloc, World.size_alloc, World.size_alloc] at this
theorem Cel.later {w w' : World} {n : Nat} {v0 v1 v2 v3 v4 v5 : Value} (h : Cel w n v0 v1 v2 v3 v4 v5) (hb : Below w.heap.size w w') : Cel w' n v0 v1 v2 v3 v4 v5 := by
  obtain ⟨h0, h1, h2, h3, h4, h5⟩ := h
  exact ⟨cell_later' hb h0, cell_later' hb h1, cell_later' hb h2, cell_later' hb h3, cell_later' hb h4, cell_later' hb h5⟩
theorem Cel.set3 {w : World} {n : Nat} {v0 v1 v2 v3 v4 v5 : Value} (h : Cel w n v0 v1 v2 v3 v4 v5) (u : Value) : Cel (w.setCell ⟨n, 3, none⟩ u) n v0 v1 v2 u v4 v5 := by
  have ne : ∀ j : Nat, 3 ≠ j → (w.setCell ⟨n, 3, none⟩ u).cell? ⟨n, j, none⟩ = w.cell? ⟨n, j, none⟩ := fun j hj => World.cell?_setCell_other _ _ _ _ (fun e => hj (by injection e))
  obtain ⟨h0, h1, h2, h3, h4, h5⟩ := h
  exact ⟨(ne 0 (by decide)).trans h0, (ne 1 (by decide)).trans h1, (ne 2 (by decide)).trans h2, World.cell?_setCell_same _ _ _ h3, (ne 4 (by decide)).trans h4, (ne 5 (by decide)).trans h5⟩
theorem Cel.set4 {w : World} {n : Nat} {v0 v1 v2 v3 v4 v5 : Value} (h : Cel w n v0 v1 v2 v3 v4 v5) (u : Value) : Cel (w.setCell ⟨n, 4, none⟩ u) n v0 v1 v2 v3 u v5 := by
  have ne : ∀ j : Nat, 4 ≠ j → (w.setCell ⟨n, 4, none⟩ u).cell? ⟨n, j, none⟩ = w.cell? ⟨n, j, none⟩ := fun j hj => World.cell?_setCell_other _ _ _ _ (fun e => hj (by injection e))
  obtain ⟨h0, h1, h2, h3, h4, h5⟩ := h
  exact ⟨(ne 0 (by decide)).trans h0, (ne 1 (by decide)).trans h1, (ne 2 (by decide)).trans h2, (ne 3 (by decide)).trans h3, World.cell?_setCell_same _ _ _ h4, (ne 5 (by decide)).trans h5⟩
/-- The world under a name, with what is known of it. -/
theorem wp_world {P : Program} {Q : Exit → Act → World → Prop} {a : Act} {c : Code} {w : World} (R : World → Prop) (h : R w) (k : ∀ w', R w' → c.wp P Q a w') : c.wp P Q a w := k w h

theorem zix_newAt {w : World} {n : Nat} (hn : w.heap.size = n) (T : TypeId) (v0 v1 v2 v3 v4 v5 : Value) : Zix (w.alloc (.cells #[v0, v1, v2, v3, v4, v5] T)) n := by
  subst hn; exact zix_new w T v0 v1 v2 v3 v4 v5
theorem cel_newAt {w : World} {n : Nat} (hn : w.heap.size = n) (T : TypeId) (v0 v1 v2 v3 v4 v5 : Value) : Cel (w.alloc (.cells #[v0, v1, v2, v3, v4, v5] T)) n v0 v1 v2 v3 v4 v5 := by
  subst hn; exact cel_new w T v0 v1 v2 v3 v4 v5
/-- Its lists lie in new memory. -/
def FreshL (q : Rq) (n : Nat) : Prop := (∀ b o, q.da = some ⟨b, o, none⟩ → n ≤ b) ∧ (∀ b o, q.ta = some ⟨b, o, none⟩ → n ≤ b)
theorem any_world {F : World → Prop} {w : World} (R : World → Prop) (h : R w) (k : ∀ w', R w' → F w') : F w := k w h

set_option linter.unusedSimpArgs false in
set_option maxRecDepth 100000 in
set_option maxHeartbeats 8000000 in
theorem rmerged_yes1 (a b : Rq) (w : World) (ga : Good a) (gb : Good b) (ha : a.At w) (hb : b.At w) (h2 : togB a b = true) (hm : b.born < a.born) (D : List ByteArray) (hD : Hid (D = a.data ++ b.data)) (G : List Int) (hG : Hid (G = a.tags ++ b.tags)) :
    Calls Tryd.prog 13 #[a.val, b.val] w fun e w' => ∃ q : Rq, e = .returned (.tuple #[q.val, .bool true]) ∧ IsBoth a b q ∧ q.At w' ∧ FreshL q w.heap.size ∧ Below w.heap.size w w' := by
  obtain ⟨x1, x2, x3, x4, x5⟩ := ga.bnd
  obtain ⟨y1, y2, y3, y4, y5⟩ := gb.bnd
  have at4 := ga.t4
  have bt4 := gb.t4
  have ad4 := ga.d4
  have bd4 := gb.d4
  obtain ⟨c1, c2, c3, c4⟩ := tog_iff.1 h2
  have h1 : (b.f + b.m == a.f) = false := by rw [beq_eq_false_iff_ne]; omega
  have g1 : (a.f + a.m != b.f) = false := by rw [bne_eq_false_iff_eq]; exact c1
  have g2 : (a.wr != b.wr) = false := by rw [bne_eq_false_iff_eq]; exact c2
  have g3 : decide (4 < a.m + b.m) = false := decide_eq_false (by omega)
  have g4 : (a.tags.length : Int) + (b.tags.length : Int) ≤ 4 := by omega
  have HI : Hid (In64 a.f ∧ In64 (a.m + b.m) ∧ In64 a.born ∧ In64 b.born ∧ D.length ≤ 9223372036854775807 ∧ G.length ≤ 9223372036854775807) := by
    refine ⟨ha.f, ⟨by omega, by omega⟩, ha.born, hb.born, ?_, ?_⟩
    · rw [hD.out, List.length_append]; omega
    · rw [hG.out, List.length_append]; omega
  obtain ⟨iS, hS1, hS2, hS3, hS4⟩ := pluck infoS
  obtain ⟨iI, hI1, hI2, hI3, hI4⟩ := pluck infoI
  have HW := hid_of c2
  clear c1 h2 c2
  go_enter Tryd.func13, Tryd.ntmps13
  go_wp2_with fail
  refine wp_world (fun wx => Six wx w.heap.size { a with wr := b.wr } ∧ Six wx (w.heap.size + 1) b ∧ Zix wx (w.heap.size + 1 + 1) ∧ Zix wx (w.heap.size + 1 + 1 + 1) ∧ Cel wx (w.heap.size + 1 + 1 + 1) (.bool b.wr) (.int .i64 a.f) (.int .i64 (a.m + b.m)) (.slice none 0 0) (.slice none 0 0) (.int .i64 b.born) ∧ Below w.heap.size w wx ∧ w.heap.size + 4 ≤ wx.heap.size) ⟨(((six_newA w _ { a with wr := b.wr }).alloc _).alloc _).alloc _, ((six_new1 _ b).alloc _).alloc _, (zix_new2 _ _ _ _ _ _ _).alloc _, zix_new3 _ _ _ _ _ _ _, cel_new3 _ _ _ _ _ _ _, by repeat (first | with_reducible exact Below.refl _ _ | with_reducible refine balloc ?_ _ | with_reducible refine bdrew ?_ | with_reducible refine bset' ?_ (by omega) _ | with_reducible refine bthen ?_ (by assumption)), by simp⟩ ?_
  rintro wx ⟨S1, S2, Z2, Z3, C3, HB, hws⟩
  have zx := Z3.1.2.2.2.1
  have fx := Z3.2.2.2.2.1
  obtain ⟨p0, p1, p2, p3, p4, p5⟩ := id S1
  obtain ⟨q0, q1, q2, q3, q4, q5⟩ := id S2
  go_region_held3 (fun w' => w'.cell? ⟨w.heap.size, 3, none⟩ = some (.slice a.da a.data.length a.dc) ∧ w'.cell? ⟨w.heap.size + 1, 3, none⟩ = some (.slice b.da b.data.length b.dc) ∧ w'.cell? ⟨w.heap.size + 1 + 1 + 1, 3, none⟩ = some (atHand w' ⟨w.heap.size + 1 + 1 + 1, 3, none⟩) ∧ w'.frozen? ⟨w.heap.size + 1 + 1 + 1, 3, none⟩ = false) (exact ⟨(show Six _ w.heap.size { a with wr := b.wr } by repeat (first | with_reducible exact S1 | with_reducible refine Six.drew ?_ | with_reducible refine Six.alloc ?_ _ | with_reducible refine Six.later ?_ (by assumption) | with_reducible refine Six.belowB ?_ (by assumption) (by (try simp); omega) | with_reducible refine Six.set ?_ (by omega) _)).2.2.2.1, (show Six _ (w.heap.size + 1) b by repeat (first | with_reducible exact S2 | with_reducible refine Six.drew ?_ | with_reducible refine Six.alloc ?_ _ | with_reducible refine Six.later ?_ (by assumption) | with_reducible refine Six.belowB ?_ (by assumption) (by (try simp); omega) | with_reducible refine Six.set ?_ (by omega) _)).2.2.2.1, (show Zix _ (w.heap.size + 1 + 1 + 1) by repeat (first | with_reducible exact Z3 | with_reducible refine Zix.drew ?_ | with_reducible refine Zix.alloc ?_ _ | with_reducible refine Zix.later ?_ (by assumption) | with_reducible refine Zix.belowB ?_ (by assumption) (by (try simp); omega) | with_reducible refine Zix.set ?_ _ _)).1.2.2.2.1, (show Zix _ (w.heap.size + 1 + 1 + 1) by repeat (first | with_reducible exact Z3 | with_reducible refine Zix.drew ?_ | with_reducible refine Zix.alloc ?_ _ | with_reducible refine Zix.later ?_ (by assumption) | with_reducible refine Zix.belowB ?_ (by assumption) (by (try simp); omega) | with_reducible refine Zix.set ?_ _ _)).2.2.2.2.1⟩) (first | (refine step_append (by rfl) (.const (.slice none 0 0)) (.tmp 79) 33 (by rfl) wx.heap.size 9 iS _ 1 16 Tryd.underlying33 hS1 hS2 hS3 hS4 rfl (by decide) (.slice none 0 0) 0 [] (by rfl) (World.ownsRow_nil _ _ _ _) a.da a.data.length a.dc (a.data.map .string) (by simp [Act.eval, Act.put]) ((ha.data.later (by repeat (first | with_reducible exact Below.refl _ _ | with_reducible refine balloc ?_ _ | with_reducible refine bdrew ?_ | with_reducible refine bset' ?_ (by omega) _ | with_reducible refine bthen ?_ (by assumption)))).row ha.dn) (by unfold maxLen; omega) (by omega) (by simp) ?_; intro v1 w4 hown1 hb1; rw [Nat.zero_add, List.nil_append] at hown1; have hB1 : Below wx.heap.size wx w4 := Below.trans (by repeat (first | with_reducible exact Below.refl _ _ | with_reducible refine balloc ?_ _ | with_reducible refine bdrew ?_ | with_reducible refine bset' ?_ (by omega) _ | with_reducible refine bthen ?_ (by assumption))) hb1) | (refine step_append (by rfl) (.tmp 80) (.tmp 82) 33 (by rfl) wx.heap.size 9 iS _ 1 16 Tryd.underlying33 hS1 hS2 hS3 hS4 rfl (by decide) v1 a.data.length (a.data.map .string) (by simp [Act.eval, Act.put]) (by first | exact hown1 | exact ownsRow_drew hown1) b.da b.data.length b.dc (b.data.map .string) (by simp [Act.eval, Act.put]) ((hb.data.later (by repeat (first | with_reducible exact Below.refl _ _ | with_reducible refine balloc ?_ _ | with_reducible refine bdrew ?_ | with_reducible refine bset' ?_ (by omega) _ | with_reducible refine bthen ?_ (by assumption)))).row hb.dn) (by unfold maxLen; omega) (by omega) (by have := hB1.size; (try simp); omega) ?_; intro v2 w5 hown2 hb2; have hB2 : Below wx.heap.size wx w5 := (by first | exact hB1.trans hb2 | exact hB1.drew.trans hb2); rw [← List.map_append, ← hD.out] at hown2; obtain ⟨da, dc, rfl, hds, hdn, hdb⟩ := strs_of_owned hown2 (by rw [hD.out, List.length_append])))
  have sz2 := hB2.size
  clear p0 p1 p2 p3 p4 p5 q0 q1 q2 q3 q4 q5 zx fx
  go_wp2_with fail
  refine wp_world (fun wy => Six wy w.heap.size { a with wr := b.wr } ∧ Six wy (w.heap.size + 1) b ∧ Zix wy (w.heap.size + 1 + 1) ∧ Zix wy (w.heap.size + 1 + 1 + 1) ∧ Cel wy (w.heap.size + 1 + 1 + 1) (.bool b.wr) (.int .i64 a.f) (.int .i64 (a.m + b.m)) (.slice da D.length dc) (.slice none 0 0) (.int .i64 b.born) ∧ StrsAt wy da D ∧ Below w.heap.size w wy ∧ wx.heap.size ≤ wy.heap.size)
    ⟨(S1.later hB2).set (by omega) _, (S2.later hB2).set (by omega) _, (Z2.later hB2).set _ _, (Z3.later hB2).set _ _, (C3.later hB2).set3 _, hds.set (fun b' o' hh => by have := hdb b' o' hh; omega) _, bset' (bthen HB hB2) (by omega) _, by rw [World.size_setCell]; exact sz2⟩ ?_
  have HDB := hid_of (⟨hdb, hdn⟩ : _ ∧ _)
  clear S1 S2 Z2 Z3 C3 HB hown1 hb1 hB1 hb2 hB2 hown2 hds hdn hdb sz2
  rintro wy ⟨S1, S2, Z2, Z3, C3, hds, HB, hwy⟩
  have zx := Z3.1.2.2.2.2.1
  have fx := Z3.2.2.2.2.2.1
  obtain ⟨p0, p1, p2, p3, p4, p5⟩ := id S1
  obtain ⟨q0, q1, q2, q3, q4, q5⟩ := id S2
  go_region_held3 (fun w' => w'.cell? ⟨w.heap.size, 4, none⟩ = some (.slice a.ta a.tags.length a.tc) ∧ w'.cell? ⟨w.heap.size + 1, 4, none⟩ = some (.slice b.ta b.tags.length b.tc) ∧ w'.cell? ⟨w.heap.size + 1 + 1 + 1, 4, none⟩ = some (atHand w' ⟨w.heap.size + 1 + 1 + 1, 4, none⟩) ∧ w'.frozen? ⟨w.heap.size + 1 + 1 + 1, 4, none⟩ = false) (exact ⟨(show Six _ w.heap.size { a with wr := b.wr } by repeat (first | with_reducible exact S1 | with_reducible refine Six.drew ?_ | with_reducible refine Six.alloc ?_ _ | with_reducible refine Six.later ?_ (by assumption) | with_reducible refine Six.belowB ?_ (by assumption) (by (try simp); omega) | with_reducible refine Six.set ?_ (by omega) _)).2.2.2.2.1, (show Six _ (w.heap.size + 1) b by repeat (first | with_reducible exact S2 | with_reducible refine Six.drew ?_ | with_reducible refine Six.alloc ?_ _ | with_reducible refine Six.later ?_ (by assumption) | with_reducible refine Six.belowB ?_ (by assumption) (by (try simp); omega) | with_reducible refine Six.set ?_ (by omega) _)).2.2.2.2.1, (show Zix _ (w.heap.size + 1 + 1 + 1) by repeat (first | with_reducible exact Z3 | with_reducible refine Zix.drew ?_ | with_reducible refine Zix.alloc ?_ _ | with_reducible refine Zix.later ?_ (by assumption) | with_reducible refine Zix.belowB ?_ (by assumption) (by (try simp); omega) | with_reducible refine Zix.set ?_ _ _)).1.2.2.2.2.1, (show Zix _ (w.heap.size + 1 + 1 + 1) by repeat (first | with_reducible exact Z3 | with_reducible refine Zix.drew ?_ | with_reducible refine Zix.alloc ?_ _ | with_reducible refine Zix.later ?_ (by assumption) | with_reducible refine Zix.belowB ?_ (by assumption) (by (try simp); omega) | with_reducible refine Zix.set ?_ _ _)).2.2.2.2.2.1⟩) (first | (refine step_append (by rfl) (.const (.slice none 0 0)) (.tmp 86) 22 (by rfl) wy.heap.size 3 iI _ 1 8 Tryd.underlying22 hI1 hI2 hI3 hI4 rfl (by decide) (.slice none 0 0) 0 [] (by rfl) (World.ownsRow_nil _ _ _ _) a.ta a.tags.length a.tc (a.tags.map (.int .i64)) (by simp [Act.eval, Act.put]) ((ha.tags.later (by repeat (first | with_reducible exact Below.refl _ _ | with_reducible refine balloc ?_ _ | with_reducible refine bdrew ?_ | with_reducible refine bset' ?_ (by omega) _ | with_reducible refine bthen ?_ (by assumption)))).row ha.tn) (by unfold maxLen; omega) (by omega) (by simp) ?_; intro v1 w6 hown1 hb1; rw [Nat.zero_add, List.nil_append] at hown1; have hB1 : Below wy.heap.size wy w6 := Below.trans (by repeat (first | with_reducible exact Below.refl _ _ | with_reducible refine balloc ?_ _ | with_reducible refine bdrew ?_ | with_reducible refine bset' ?_ (by omega) _ | with_reducible refine bthen ?_ (by assumption))) hb1) | (refine step_append (by rfl) (.tmp 87) (.tmp 89) 22 (by rfl) wy.heap.size 3 iI _ 1 8 Tryd.underlying22 hI1 hI2 hI3 hI4 rfl (by decide) v1 a.tags.length (a.tags.map (.int .i64)) (by simp [Act.eval, Act.put]) (by first | exact hown1 | exact ownsRow_drew hown1) b.ta b.tags.length b.tc (b.tags.map (.int .i64)) (by simp [Act.eval, Act.put]) ((hb.tags.later (by repeat (first | with_reducible exact Below.refl _ _ | with_reducible refine balloc ?_ _ | with_reducible refine bdrew ?_ | with_reducible refine bset' ?_ (by omega) _ | with_reducible refine bthen ?_ (by assumption)))).row hb.tn) (by unfold maxLen; omega) (by omega) (by have := hB1.size; (try simp); omega) ?_; intro v2 w7 hown2 hb2; have hB2 : Below wy.heap.size wy w7 := (by first | exact hB1.trans hb2 | exact hB1.drew.trans hb2); rw [← List.map_append, ← hG.out] at hown2; obtain ⟨ta, tc, rfl, hts, htn, htb⟩ := ints_of_owned hown2 (by rw [hG.out, List.length_append])))
  have sz2 := hB2.size
  clear p0 p1 p2 p3 p4 p5 q0 q1 q2 q3 q4 q5 zx fx
  refine any_world (F := fun w => Exit.then _ _ Exit.normal _ w) (fun wz => Zix wz (w.heap.size + 1 + 1) ∧ Cel wz (w.heap.size + 1 + 1 + 1) (.bool b.wr) (.int .i64 a.f) (.int .i64 (a.m + b.m)) (.slice da D.length dc) (.slice ta G.length tc) (.int .i64 b.born) ∧ StrsAt wz da D ∧ IntsAt wz ta G ∧ Below w.heap.size w wz ∧ wy.heap.size ≤ wz.heap.size)
    ⟨(Z2.later hB2).set _ _, (C3.later hB2).set4 _, (hds.later hB2).set (fun b' o' hh => by have := HDB.out.1 b' o' hh; omega) _, hts.set (fun b' o' hh => by have := htb b' o' hh; omega) _, bset' (bthen HB hB2) (by omega) _, by rw [World.size_setCell]; exact sz2⟩ ?_
  have HTB := hid_of (⟨htb, htn⟩ : _ ∧ _)
  clear S1 S2 Z2 Z3 C3 HB hown1 hb1 hB1 hb2 hB2 hown2 hds hts htn htb sz2
  rintro wz ⟨Z2, C3, hds, hts, HB, hwz⟩
  obtain ⟨k0, k1, k2, k3, k4, k5⟩ := id C3
  obtain ⟨⟨z0, z1, z2, z3, z4, z5⟩, ⟨f0, f1, f2, f3, f4, f5⟩⟩ := id Z2
  obtain ⟨m0, m1, m2, m3, m4, m5⟩ := set6_cells Z2 (.bool b.wr) (.int .i64 a.f) (.int .i64 (a.m + b.m)) (.slice da D.length dc) (.slice ta G.length tc) (.int .i64 b.born)
  unfold set6 at m0 m1 m2 m3 m4 m5
  have HM := hid_of (⟨m0, m1, m2, m3, m4, m5⟩ : _ ∧ _ ∧ _ ∧ _ ∧ _ ∧ _)
  clear m0 m1 m2 m3 m4 m5
  go_wp2
  refine bodyPost_ret (v := .tuple #[(Rq.mk b.wr a.f (a.m + b.m) da dc D ta tc G b.born).val, .bool true]) ?_ rfl ⟨_, rfl, ⟨HW.out.symm, rfl, rfl, hD.out, hG.out, (by simp only; omega)⟩, (show Rq.At _ (set6 wz (w.heap.size + 1 + 1) _ _ _ _ _ _) from ⟨set6_strs hds (fun b' o' hh => by have := HDB.out.1 b' o' hh; omega) _ _ _ _ _ _, set6_ints hts (fun b' o' hh => by have := HTB.out.1 b' o' hh; omega) _ _ _ _ _ _, HI.out.2.2.2.2.1, HI.out.2.2.2.2.2, HI.out.1, HI.out.2.1, (by first | exact HI.out.2.2.1 | exact HI.out.2.2.2.1), HDB.out.2, HTB.out.2⟩), ⟨fun b' o' hh => by have := HDB.out.1 b' o' hh; omega, fun b' o' hh => by have := HTB.out.1 b' o' hh; omega⟩, (by repeat (first | with_reducible exact Below.refl _ _ | with_reducible refine balloc ?_ _ | with_reducible refine bdrew ?_ | with_reducible refine bset' ?_ (by omega) _ | with_reducible refine bthen ?_ (by assumption)))⟩
  obtain ⟨m0, m1, m2, m3, m4, m5⟩ := HM.out
  simp [results, Tryd.results13, go_sem, m0, m1, m2, m3, m4, m5]
set_option linter.unusedSimpArgs false in
set_option maxRecDepth 100000 in
set_option maxHeartbeats 8000000 in
theorem rmerged_yes2 (a b : Rq) (w : World) (ga : Good a) (gb : Good b) (ha : a.At w) (hb : b.At w) (h2 : togB a b = true) (hm : ¬ b.born < a.born) (D : List ByteArray) (hD : Hid (D = a.data ++ b.data)) (G : List Int) (hG : Hid (G = a.tags ++ b.tags)) :
    Calls Tryd.prog 13 #[a.val, b.val] w fun e w' => ∃ q : Rq, e = .returned (.tuple #[q.val, .bool true]) ∧ IsBoth a b q ∧ q.At w' ∧ FreshL q w.heap.size ∧ Below w.heap.size w w' := by
  obtain ⟨x1, x2, x3, x4, x5⟩ := ga.bnd
  obtain ⟨y1, y2, y3, y4, y5⟩ := gb.bnd
  have at4 := ga.t4
  have bt4 := gb.t4
  have ad4 := ga.d4
  have bd4 := gb.d4
  obtain ⟨c1, c2, c3, c4⟩ := tog_iff.1 h2
  have h1 : (b.f + b.m == a.f) = false := by rw [beq_eq_false_iff_ne]; omega
  have g1 : (a.f + a.m != b.f) = false := by rw [bne_eq_false_iff_eq]; exact c1
  have g2 : (a.wr != b.wr) = false := by rw [bne_eq_false_iff_eq]; exact c2
  have g3 : decide (4 < a.m + b.m) = false := decide_eq_false (by omega)
  have g4 : (a.tags.length : Int) + (b.tags.length : Int) ≤ 4 := by omega
  have HI : Hid (In64 a.f ∧ In64 (a.m + b.m) ∧ In64 a.born ∧ In64 b.born ∧ D.length ≤ 9223372036854775807 ∧ G.length ≤ 9223372036854775807) := by
    refine ⟨ha.f, ⟨by omega, by omega⟩, ha.born, hb.born, ?_, ?_⟩
    · rw [hD.out, List.length_append]; omega
    · rw [hG.out, List.length_append]; omega
  obtain ⟨iS, hS1, hS2, hS3, hS4⟩ := pluck infoS
  obtain ⟨iI, hI1, hI2, hI3, hI4⟩ := pluck infoI
  have HW := hid_of c2
  clear c1 h2 c2
  go_enter Tryd.func13, Tryd.ntmps13
  go_wp2_with fail
  refine wp_world (fun wx => Six wx w.heap.size { a with wr := b.wr } ∧ Six wx (w.heap.size + 1) b ∧ Zix wx (w.heap.size + 1 + 1) ∧ Zix wx (w.heap.size + 1 + 1 + 1) ∧ Cel wx (w.heap.size + 1 + 1 + 1) (.bool b.wr) (.int .i64 a.f) (.int .i64 (a.m + b.m)) (.slice none 0 0) (.slice none 0 0) (.int .i64 a.born) ∧ Below w.heap.size w wx ∧ w.heap.size + 4 ≤ wx.heap.size) ⟨(((six_newA w _ { a with wr := b.wr }).alloc _).alloc _).alloc _, ((six_new1 _ b).alloc _).alloc _, (zix_new2 _ _ _ _ _ _ _).alloc _, zix_new3 _ _ _ _ _ _ _, cel_new3 _ _ _ _ _ _ _, by repeat (first | with_reducible exact Below.refl _ _ | with_reducible refine balloc ?_ _ | with_reducible refine bdrew ?_ | with_reducible refine bset' ?_ (by omega) _ | with_reducible refine bthen ?_ (by assumption)), by simp⟩ ?_
  rintro wx ⟨S1, S2, Z2, Z3, C3, HB, hws⟩
  have zx := Z3.1.2.2.2.1
  have fx := Z3.2.2.2.2.1
  obtain ⟨p0, p1, p2, p3, p4, p5⟩ := id S1
  obtain ⟨q0, q1, q2, q3, q4, q5⟩ := id S2
  go_region_held3 (fun w' => w'.cell? ⟨w.heap.size, 3, none⟩ = some (.slice a.da a.data.length a.dc) ∧ w'.cell? ⟨w.heap.size + 1, 3, none⟩ = some (.slice b.da b.data.length b.dc) ∧ w'.cell? ⟨w.heap.size + 1 + 1 + 1, 3, none⟩ = some (atHand w' ⟨w.heap.size + 1 + 1 + 1, 3, none⟩) ∧ w'.frozen? ⟨w.heap.size + 1 + 1 + 1, 3, none⟩ = false) (exact ⟨(show Six _ w.heap.size { a with wr := b.wr } by repeat (first | with_reducible exact S1 | with_reducible refine Six.drew ?_ | with_reducible refine Six.alloc ?_ _ | with_reducible refine Six.later ?_ (by assumption) | with_reducible refine Six.belowB ?_ (by assumption) (by (try simp); omega) | with_reducible refine Six.set ?_ (by omega) _)).2.2.2.1, (show Six _ (w.heap.size + 1) b by repeat (first | with_reducible exact S2 | with_reducible refine Six.drew ?_ | with_reducible refine Six.alloc ?_ _ | with_reducible refine Six.later ?_ (by assumption) | with_reducible refine Six.belowB ?_ (by assumption) (by (try simp); omega) | with_reducible refine Six.set ?_ (by omega) _)).2.2.2.1, (show Zix _ (w.heap.size + 1 + 1 + 1) by repeat (first | with_reducible exact Z3 | with_reducible refine Zix.drew ?_ | with_reducible refine Zix.alloc ?_ _ | with_reducible refine Zix.later ?_ (by assumption) | with_reducible refine Zix.belowB ?_ (by assumption) (by (try simp); omega) | with_reducible refine Zix.set ?_ _ _)).1.2.2.2.1, (show Zix _ (w.heap.size + 1 + 1 + 1) by repeat (first | with_reducible exact Z3 | with_reducible refine Zix.drew ?_ | with_reducible refine Zix.alloc ?_ _ | with_reducible refine Zix.later ?_ (by assumption) | with_reducible refine Zix.belowB ?_ (by assumption) (by (try simp); omega) | with_reducible refine Zix.set ?_ _ _)).2.2.2.2.1⟩) (first | (refine step_append (by rfl) (.const (.slice none 0 0)) (.tmp 79) 33 (by rfl) wx.heap.size 9 iS _ 1 16 Tryd.underlying33 hS1 hS2 hS3 hS4 rfl (by decide) (.slice none 0 0) 0 [] (by rfl) (World.ownsRow_nil _ _ _ _) a.da a.data.length a.dc (a.data.map .string) (by simp [Act.eval, Act.put]) ((ha.data.later (by repeat (first | with_reducible exact Below.refl _ _ | with_reducible refine balloc ?_ _ | with_reducible refine bdrew ?_ | with_reducible refine bset' ?_ (by omega) _ | with_reducible refine bthen ?_ (by assumption)))).row ha.dn) (by unfold maxLen; omega) (by omega) (by simp) ?_; intro v1 w4 hown1 hb1; rw [Nat.zero_add, List.nil_append] at hown1; have hB1 : Below wx.heap.size wx w4 := Below.trans (by repeat (first | with_reducible exact Below.refl _ _ | with_reducible refine balloc ?_ _ | with_reducible refine bdrew ?_ | with_reducible refine bset' ?_ (by omega) _ | with_reducible refine bthen ?_ (by assumption))) hb1) | (refine step_append (by rfl) (.tmp 80) (.tmp 82) 33 (by rfl) wx.heap.size 9 iS _ 1 16 Tryd.underlying33 hS1 hS2 hS3 hS4 rfl (by decide) v1 a.data.length (a.data.map .string) (by simp [Act.eval, Act.put]) (by first | exact hown1 | exact ownsRow_drew hown1) b.da b.data.length b.dc (b.data.map .string) (by simp [Act.eval, Act.put]) ((hb.data.later (by repeat (first | with_reducible exact Below.refl _ _ | with_reducible refine balloc ?_ _ | with_reducible refine bdrew ?_ | with_reducible refine bset' ?_ (by omega) _ | with_reducible refine bthen ?_ (by assumption)))).row hb.dn) (by unfold maxLen; omega) (by omega) (by have := hB1.size; (try simp); omega) ?_; intro v2 w5 hown2 hb2; have hB2 : Below wx.heap.size wx w5 := (by first | exact hB1.trans hb2 | exact hB1.drew.trans hb2); rw [← List.map_append, ← hD.out] at hown2; obtain ⟨da, dc, rfl, hds, hdn, hdb⟩ := strs_of_owned hown2 (by rw [hD.out, List.length_append])))
  have sz2 := hB2.size
  clear p0 p1 p2 p3 p4 p5 q0 q1 q2 q3 q4 q5 zx fx
  go_wp2_with fail
  refine wp_world (fun wy => Six wy w.heap.size { a with wr := b.wr } ∧ Six wy (w.heap.size + 1) b ∧ Zix wy (w.heap.size + 1 + 1) ∧ Zix wy (w.heap.size + 1 + 1 + 1) ∧ Cel wy (w.heap.size + 1 + 1 + 1) (.bool b.wr) (.int .i64 a.f) (.int .i64 (a.m + b.m)) (.slice da D.length dc) (.slice none 0 0) (.int .i64 a.born) ∧ StrsAt wy da D ∧ Below w.heap.size w wy ∧ wx.heap.size ≤ wy.heap.size)
    ⟨(S1.later hB2).set (by omega) _, (S2.later hB2).set (by omega) _, (Z2.later hB2).set _ _, (Z3.later hB2).set _ _, (C3.later hB2).set3 _, hds.set (fun b' o' hh => by have := hdb b' o' hh; omega) _, bset' (bthen HB hB2) (by omega) _, by rw [World.size_setCell]; exact sz2⟩ ?_
  have HDB := hid_of (⟨hdb, hdn⟩ : _ ∧ _)
  clear S1 S2 Z2 Z3 C3 HB hown1 hb1 hB1 hb2 hB2 hown2 hds hdn hdb sz2
  rintro wy ⟨S1, S2, Z2, Z3, C3, hds, HB, hwy⟩
  have zx := Z3.1.2.2.2.2.1
  have fx := Z3.2.2.2.2.2.1
  obtain ⟨p0, p1, p2, p3, p4, p5⟩ := id S1
  obtain ⟨q0, q1, q2, q3, q4, q5⟩ := id S2
  go_region_held3 (fun w' => w'.cell? ⟨w.heap.size, 4, none⟩ = some (.slice a.ta a.tags.length a.tc) ∧ w'.cell? ⟨w.heap.size + 1, 4, none⟩ = some (.slice b.ta b.tags.length b.tc) ∧ w'.cell? ⟨w.heap.size + 1 + 1 + 1, 4, none⟩ = some (atHand w' ⟨w.heap.size + 1 + 1 + 1, 4, none⟩) ∧ w'.frozen? ⟨w.heap.size + 1 + 1 + 1, 4, none⟩ = false) (exact ⟨(show Six _ w.heap.size { a with wr := b.wr } by repeat (first | with_reducible exact S1 | with_reducible refine Six.drew ?_ | with_reducible refine Six.alloc ?_ _ | with_reducible refine Six.later ?_ (by assumption) | with_reducible refine Six.belowB ?_ (by assumption) (by (try simp); omega) | with_reducible refine Six.set ?_ (by omega) _)).2.2.2.2.1, (show Six _ (w.heap.size + 1) b by repeat (first | with_reducible exact S2 | with_reducible refine Six.drew ?_ | with_reducible refine Six.alloc ?_ _ | with_reducible refine Six.later ?_ (by assumption) | with_reducible refine Six.belowB ?_ (by assumption) (by (try simp); omega) | with_reducible refine Six.set ?_ (by omega) _)).2.2.2.2.1, (show Zix _ (w.heap.size + 1 + 1 + 1) by repeat (first | with_reducible exact Z3 | with_reducible refine Zix.drew ?_ | with_reducible refine Zix.alloc ?_ _ | with_reducible refine Zix.later ?_ (by assumption) | with_reducible refine Zix.belowB ?_ (by assumption) (by (try simp); omega) | with_reducible refine Zix.set ?_ _ _)).1.2.2.2.2.1, (show Zix _ (w.heap.size + 1 + 1 + 1) by repeat (first | with_reducible exact Z3 | with_reducible refine Zix.drew ?_ | with_reducible refine Zix.alloc ?_ _ | with_reducible refine Zix.later ?_ (by assumption) | with_reducible refine Zix.belowB ?_ (by assumption) (by (try simp); omega) | with_reducible refine Zix.set ?_ _ _)).2.2.2.2.2.1⟩) (first | (refine step_append (by rfl) (.const (.slice none 0 0)) (.tmp 86) 22 (by rfl) wy.heap.size 3 iI _ 1 8 Tryd.underlying22 hI1 hI2 hI3 hI4 rfl (by decide) (.slice none 0 0) 0 [] (by rfl) (World.ownsRow_nil _ _ _ _) a.ta a.tags.length a.tc (a.tags.map (.int .i64)) (by simp [Act.eval, Act.put]) ((ha.tags.later (by repeat (first | with_reducible exact Below.refl _ _ | with_reducible refine balloc ?_ _ | with_reducible refine bdrew ?_ | with_reducible refine bset' ?_ (by omega) _ | with_reducible refine bthen ?_ (by assumption)))).row ha.tn) (by unfold maxLen; omega) (by omega) (by simp) ?_; intro v1 w6 hown1 hb1; rw [Nat.zero_add, List.nil_append] at hown1; have hB1 : Below wy.heap.size wy w6 := Below.trans (by repeat (first | with_reducible exact Below.refl _ _ | with_reducible refine balloc ?_ _ | with_reducible refine bdrew ?_ | with_reducible refine bset' ?_ (by omega) _ | with_reducible refine bthen ?_ (by assumption))) hb1) | (refine step_append (by rfl) (.tmp 87) (.tmp 89) 22 (by rfl) wy.heap.size 3 iI _ 1 8 Tryd.underlying22 hI1 hI2 hI3 hI4 rfl (by decide) v1 a.tags.length (a.tags.map (.int .i64)) (by simp [Act.eval, Act.put]) (by first | exact hown1 | exact ownsRow_drew hown1) b.ta b.tags.length b.tc (b.tags.map (.int .i64)) (by simp [Act.eval, Act.put]) ((hb.tags.later (by repeat (first | with_reducible exact Below.refl _ _ | with_reducible refine balloc ?_ _ | with_reducible refine bdrew ?_ | with_reducible refine bset' ?_ (by omega) _ | with_reducible refine bthen ?_ (by assumption)))).row hb.tn) (by unfold maxLen; omega) (by omega) (by have := hB1.size; (try simp); omega) ?_; intro v2 w7 hown2 hb2; have hB2 : Below wy.heap.size wy w7 := (by first | exact hB1.trans hb2 | exact hB1.drew.trans hb2); rw [← List.map_append, ← hG.out] at hown2; obtain ⟨ta, tc, rfl, hts, htn, htb⟩ := ints_of_owned hown2 (by rw [hG.out, List.length_append])))
  have sz2 := hB2.size
  clear p0 p1 p2 p3 p4 p5 q0 q1 q2 q3 q4 q5 zx fx
  refine any_world (F := fun w => Exit.then _ _ Exit.normal _ w) (fun wz => Zix wz (w.heap.size + 1 + 1) ∧ Cel wz (w.heap.size + 1 + 1 + 1) (.bool b.wr) (.int .i64 a.f) (.int .i64 (a.m + b.m)) (.slice da D.length dc) (.slice ta G.length tc) (.int .i64 a.born) ∧ StrsAt wz da D ∧ IntsAt wz ta G ∧ Below w.heap.size w wz ∧ wy.heap.size ≤ wz.heap.size)
    ⟨(Z2.later hB2).set _ _, (C3.later hB2).set4 _, (hds.later hB2).set (fun b' o' hh => by have := HDB.out.1 b' o' hh; omega) _, hts.set (fun b' o' hh => by have := htb b' o' hh; omega) _, bset' (bthen HB hB2) (by omega) _, by rw [World.size_setCell]; exact sz2⟩ ?_
  have HTB := hid_of (⟨htb, htn⟩ : _ ∧ _)
  clear S1 S2 Z2 Z3 C3 HB hown1 hb1 hB1 hb2 hB2 hown2 hds hts htn htb sz2
  rintro wz ⟨Z2, C3, hds, hts, HB, hwz⟩
  obtain ⟨k0, k1, k2, k3, k4, k5⟩ := id C3
  obtain ⟨⟨z0, z1, z2, z3, z4, z5⟩, ⟨f0, f1, f2, f3, f4, f5⟩⟩ := id Z2
  obtain ⟨m0, m1, m2, m3, m4, m5⟩ := set6_cells Z2 (.bool b.wr) (.int .i64 a.f) (.int .i64 (a.m + b.m)) (.slice da D.length dc) (.slice ta G.length tc) (.int .i64 a.born)
  unfold set6 at m0 m1 m2 m3 m4 m5
  have HM := hid_of (⟨m0, m1, m2, m3, m4, m5⟩ : _ ∧ _ ∧ _ ∧ _ ∧ _ ∧ _)
  clear m0 m1 m2 m3 m4 m5
  go_wp2
  refine bodyPost_ret (v := .tuple #[(Rq.mk b.wr a.f (a.m + b.m) da dc D ta tc G a.born).val, .bool true]) ?_ rfl ⟨_, rfl, ⟨HW.out.symm, rfl, rfl, hD.out, hG.out, (by simp only; omega)⟩, (show Rq.At _ (set6 wz (w.heap.size + 1 + 1) _ _ _ _ _ _) from ⟨set6_strs hds (fun b' o' hh => by have := HDB.out.1 b' o' hh; omega) _ _ _ _ _ _, set6_ints hts (fun b' o' hh => by have := HTB.out.1 b' o' hh; omega) _ _ _ _ _ _, HI.out.2.2.2.2.1, HI.out.2.2.2.2.2, HI.out.1, HI.out.2.1, (by first | exact HI.out.2.2.1 | exact HI.out.2.2.2.1), HDB.out.2, HTB.out.2⟩), ⟨fun b' o' hh => by have := HDB.out.1 b' o' hh; omega, fun b' o' hh => by have := HTB.out.1 b' o' hh; omega⟩, (by repeat (first | with_reducible exact Below.refl _ _ | with_reducible refine balloc ?_ _ | with_reducible refine bdrew ?_ | with_reducible refine bset' ?_ (by omega) _ | with_reducible refine bthen ?_ (by assumption)))⟩
  obtain ⟨m0, m1, m2, m3, m4, m5⟩ := HM.out
  simp [results, Tryd.results13, go_sem, m0, m1, m2, m3, m4, m5]
end Go.Proofs.YtpmjgofjdejeeaaDoor
