/- Next of the elevator: a turn that goes on; a turn that begins. -/
import Derived.Test.YtfdmchhaiikeaaaElev2
namespace Go.Proofs.Ytfdmchhaiikeaaa
open Go.RowKit Go.BigFrame
attribute [local go_sem] Later.cell Later.frozen

set_option maxHeartbeats 1000000 in
theorem next_on (l : List Rq) (b o : Nat) (c : Nat) (t : Tn) (now : Int) (w : World) (hl : ReqsAt w (some ⟨b, o, none⟩) l) (g0 : 0 < t.g) (g1 : t.g < 3) (j : Nat) (hj : j < l.length) (h1 : frI t.w t.p l = j)
    (f0 : 0 ≤ l[j].f) (f1 : l[j].f ≤ 31) (m0 : 1 ≤ l[j].m) (m1 : l[j].m ≤ 32) :
    Calls Try.prog 29 #[.slice (some ⟨b, o, none⟩) l.length c, t.val, .int .i64 now] w fun e w' => e = .returned (.tuple #[.int .i64 j, Tn.val ⟨t.w, t.g + 1, t.s, l[j].f + l[j].m⟩]) ∧ Below w.heap.size w w' := by
  have hb3 := hl.2.2
  have hi0 : decide ((0 : Int) ≤ (j : Int)) = true := decide_eq_true (by omega)
  have hi1 : decide ((j : Int) < 0) = false := decide_eq_false (by omega)
  obtain ⟨c0, c1, c2, c3, c4, c5⟩ := hl.cells hj
  have l0 := lt_of_cell c0
  go_enter Try.func29, Try.ntmps29
  go_wp2_with fail
  refine (goesOn_yes l _ c t _ (hl.later (by repeat (first | with_reducible exact Below.refl _ _ | with_reducible refine balloc ?_ _ | with_reducible refine bdrew ?_ | with_reducible refine bset' ?_ (by omega) _ | with_reducible refine bthen ?_ (by assumption)))) g0 g1 _ h1).mono ?_
  rintro e w1 ⟨rfl, HB⟩
  clear h1
  have HB0 : Below w.heap.size w w1 := by repeat (first | with_reducible exact Below.refl _ _ | with_reducible refine balloc ?_ _ | with_reducible refine bdrew ?_ | with_reducible refine bset' ?_ (by omega) _ | with_reducible refine bthen ?_ (by assumption))
  obtain ⟨⟨p0, p1, p2, p3⟩, ⟨k0, k1, k2, k3⟩, ⟨q0, q1, q2, q3⟩, ⟨e0, e1, e2, e3⟩, z0, z1⟩ := four2 HB
  replace c1 := cell_later' HB0 c1
  replace c2 := cell_later' HB0 c2
  have l1 : b < w1.heap.size := lt_of_cell c1
  have hne : ¬ b = w.heap.size := by omega
  have hne1 : ¬ b = w.heap.size + 1 := by omega
  have hne2 : ¬ b = w1.heap.size := by omega
  clear c0 c3 c4 c5 HB0
  go_wp2_with fail
  go_region
  go_wp2_with fail
  go_region
  go_wp2
  refine bodyPost_ret (v := .tuple #[.int .i64 j, Tn.val ⟨t.w, t.g + 1, t.s, l[j].f + l[j].m⟩]) ?_ rfl ⟨rfl, by repeat (first | with_reducible exact Below.refl _ _ | with_reducible refine balloc ?_ _ | with_reducible refine bdrew ?_ | with_reducible refine bset' ?_ (by omega) _ | with_reducible refine bthen ?_ (by assumption))⟩
  simp [results, Try.results29, go_sem, q0, q1, q2, q3, z1]

/-- What a world has of three blocks of four cells, the last one laid later. -/
theorem four1 {w1 w2 : World} {a0 a1 a2 a3 : Value} {T : TypeId} (HB : Below (w1.alloc (.cells #[a0, a1, a2, a3] T)).heap.size (w1.alloc (.cells #[a0, a1, a2, a3] T)) w2) :
    (w2.cell? ⟨w1.heap.size, 0, none⟩ = some a0 ∧ w2.cell? ⟨w1.heap.size, 1, none⟩ = some a1 ∧ w2.cell? ⟨w1.heap.size, 2, none⟩ = some a2 ∧ w2.cell? ⟨w1.heap.size, 3, none⟩ = some a3) ∧
    (w2.frozen? ⟨w1.heap.size, 0, none⟩ = false ∧ w2.frozen? ⟨w1.heap.size, 1, none⟩ = false ∧ w2.frozen? ⟨w1.heap.size, 2, none⟩ = false ∧ w2.frozen? ⟨w1.heap.size, 3, none⟩ = false) ∧
    w1.heap.size < w2.heap.size := by
  have hz := HB.size
  simp only [World.size_alloc] at hz
  have c := fun o => HB.cell (p := ⟨w1.heap.size, o, none⟩) (by simp only [World.size_alloc]; omega)
  have f := fun o => HB.frozen (p := ⟨w1.heap.size, o, none⟩) (by simp only [World.size_alloc]; omega)
  refine ⟨⟨?_, ?_, ?_, ?_⟩, ⟨?_, ?_, ?_, ?_⟩, by omega⟩
  all_goals first | rw [c] | rw [f]
  all_goals simp
theorem frozen_later {w w' : World} {b o : Nat} {x : Bool} (hb : Below w.heap.size w w') (hlt : b < w.heap.size) (h : w.frozen? ⟨b, o, none⟩ = x) : w'.frozen? ⟨b, o, none⟩ = x := by
  rw [hb.frozen (p := ⟨b, o, none⟩) hlt]; exact h
theorem four_later {w w' : World} {b : Nat} {a0 a1 a2 a3 : Value} (hb : Below w.heap.size w w')
    (h : (w.cell? ⟨b, 0, none⟩ = some a0 ∧ w.cell? ⟨b, 1, none⟩ = some a1 ∧ w.cell? ⟨b, 2, none⟩ = some a2 ∧ w.cell? ⟨b, 3, none⟩ = some a3) ∧ (w.frozen? ⟨b, 0, none⟩ = false ∧ w.frozen? ⟨b, 1, none⟩ = false ∧ w.frozen? ⟨b, 2, none⟩ = false ∧ w.frozen? ⟨b, 3, none⟩ = false)) :
    (w'.cell? ⟨b, 0, none⟩ = some a0 ∧ w'.cell? ⟨b, 1, none⟩ = some a1 ∧ w'.cell? ⟨b, 2, none⟩ = some a2 ∧ w'.cell? ⟨b, 3, none⟩ = some a3) ∧ (w'.frozen? ⟨b, 0, none⟩ = false ∧ w'.frozen? ⟨b, 1, none⟩ = false ∧ w'.frozen? ⟨b, 2, none⟩ = false ∧ w'.frozen? ⟨b, 3, none⟩ = false) := by
  obtain ⟨⟨c0, c1, c2, c3⟩, ⟨f0, f1, f2, f3⟩⟩ := h
  have hlt := lt_of_cell c0
  exact ⟨⟨cell_later' hb c0, cell_later' hb c1, cell_later' hb c2, cell_later' hb c3⟩, ⟨frozen_later hb hlt f0, frozen_later hb hlt f1, frozen_later hb hlt f2, frozen_later hb hlt f3⟩⟩

theorem sc_other {w : World} {b o b' o' : Nat} {v : Value} (h : b' ≠ b ∨ o' ≠ o) : (w.setCell ⟨b, o, none⟩ v).cell? ⟨b', o', none⟩ = w.cell? ⟨b', o', none⟩ := by
  apply World.cell?_setCell_other
  intro e
  simp only [Addr.mk.injEq, and_true] at e
  rcases h with h | h
  · exact h e.1.symm
  · exact h e.2.symm
/-- Four cells of a block that is there are written anew. -/
theorem set4 {w : World} {b : Nat} {a0 a1 a2 a3 : Value} (v0 v1 v2 v3 : Value)
    (h : (w.cell? ⟨b, 0, none⟩ = some a0 ∧ w.cell? ⟨b, 1, none⟩ = some a1 ∧ w.cell? ⟨b, 2, none⟩ = some a2 ∧ w.cell? ⟨b, 3, none⟩ = some a3) ∧ (w.frozen? ⟨b, 0, none⟩ = false ∧ w.frozen? ⟨b, 1, none⟩ = false ∧ w.frozen? ⟨b, 2, none⟩ = false ∧ w.frozen? ⟨b, 3, none⟩ = false)) :
    ∀ X, X = (((w.setCell ⟨b, 0, none⟩ v0).setCell ⟨b, 1, none⟩ v1).setCell ⟨b, 2, none⟩ v2).setCell ⟨b, 3, none⟩ v3 →
    ((X.cell? ⟨b, 0, none⟩ = some v0 ∧ X.cell? ⟨b, 1, none⟩ = some v1 ∧ X.cell? ⟨b, 2, none⟩ = some v2 ∧ X.cell? ⟨b, 3, none⟩ = some v3) ∧ (X.frozen? ⟨b, 0, none⟩ = false ∧ X.frozen? ⟨b, 1, none⟩ = false ∧ X.frozen? ⟨b, 2, none⟩ = false ∧ X.frozen? ⟨b, 3, none⟩ = false)) ∧
    (∀ b' o', b' ≠ b → X.cell? ⟨b', o', none⟩ = w.cell? ⟨b', o', none⟩) ∧ (∀ b' o', b' ≠ b → X.frozen? ⟨b', o', none⟩ = w.frozen? ⟨b', o', none⟩) ∧ X.heap.size = w.heap.size := by
  obtain ⟨⟨c0, c1, c2, c3⟩, ⟨f0, f1, f2, f3⟩⟩ := h
  intro X hX
  subst hX
  refine ⟨⟨⟨?_, ?_, ?_, ?_⟩, ⟨?_, ?_, ?_, ?_⟩⟩, ?_, ?_, ?_⟩
  · rw [sc_other (Or.inr (by decide)), sc_other (Or.inr (by decide)), sc_other (Or.inr (by decide))]; exact World.cell?_setCell_same _ _ _ c0
  · rw [sc_other (Or.inr (by decide)), sc_other (Or.inr (by decide))]; exact World.cell?_setCell_same _ _ _ (by rw [sc_other (Or.inr (by decide))]; exact c1)
  · rw [sc_other (Or.inr (by decide))]; exact World.cell?_setCell_same _ _ _ (by rw [sc_other (Or.inr (by decide)), sc_other (Or.inr (by decide))]; exact c2)
  · exact World.cell?_setCell_same _ _ _ (by rw [sc_other (Or.inr (by decide)), sc_other (Or.inr (by decide)), sc_other (Or.inr (by decide))]; exact c3)
  · simpa using f0
  · simpa using f1
  · simpa using f2
  · simpa using f3
  · intro b' o' hb
    rw [sc_other (Or.inl hb), sc_other (Or.inl hb), sc_other (Or.inl hb), sc_other (Or.inl hb)]
  · intro b' o' _; simp
  · simp

set_option maxHeartbeats 1000000 in
theorem next_begin (l : List Rq) (b o : Nat) (c : Nat) (t T : Tn) (now : Int) (w : World) (hl : ReqsAt w (some ⟨b, o, none⟩) l) (i : Nat) (hi : i < l.length)
    (Hg : ∀ w', ReqsAt w' (some ⟨b, o, none⟩) l → Calls Try.prog 46 #[.slice (some ⟨b, o, none⟩) l.length c, t.val] w' fun e w'' => e = .returned (.int .i64 (-1)) ∧ Below w'.heap.size w' w'')
    (Hb : ∀ w', ReqsAt w' (some ⟨b, o, none⟩) l → Calls Try.prog 47 #[.slice (some ⟨b, o, none⟩) l.length c, t.val] w' fun e w'' => e = .returned T.val ∧ Below w'.heap.size w' w'')
    (Hf : ∀ w', ReqsAt w' (some ⟨b, o, none⟩) l → Calls Try.prog 48 #[.slice (some ⟨b, o, none⟩) l.length c, T.val, .int .i64 now] w' fun e w'' => e = .returned (.int .i64 i) ∧ Below w'.heap.size w' w'')
    (f0 : 0 ≤ l[i].f) (f1 : l[i].f ≤ 31) (m0 : 1 ≤ l[i].m) (m1 : l[i].m ≤ 32) :
    Calls Try.prog 29 #[.slice (some ⟨b, o, none⟩) l.length c, t.val, .int .i64 now] w fun e w' => e = .returned (.tuple #[.int .i64 i, Tn.val ⟨T.w, T.g, T.s, l[i].f + l[i].m⟩]) ∧ Below w.heap.size w w' := by
  have hb3 := hl.2.2
  have hi0 : decide ((0 : Int) ≤ (i : Int)) = true := decide_eq_true (by omega)
  have hi1 : decide ((i : Int) < 0) = false := decide_eq_false (by omega)
  obtain ⟨c0, c1, c2, c3, c4, c5⟩ := hl.cells hi
  have l0 := lt_of_cell c0
  clear c0 c3 c4 c5
  have HG : Hid (∀ w', ReqsAt w' (some ⟨b, o, none⟩) l → Calls Try.prog 46 #[.slice (some ⟨b, o, none⟩) l.length c, t.val] w' fun e w'' => e = .returned (.int .i64 (-1)) ∧ Below w'.heap.size w' w'') := Hg
  have HE : Hid (∀ w', ReqsAt w' (some ⟨b, o, none⟩) l → Calls Try.prog 47 #[.slice (some ⟨b, o, none⟩) l.length c, t.val] w' fun e w'' => e = .returned T.val ∧ Below w'.heap.size w' w'') := Hb
  have HF : Hid (∀ w', ReqsAt w' (some ⟨b, o, none⟩) l → Calls Try.prog 48 #[.slice (some ⟨b, o, none⟩) l.length c, T.val, .int .i64 now] w' fun e w'' => e = .returned (.int .i64 i) ∧ Below w'.heap.size w' w'') := Hf
  clear Hg Hb Hf
  go_enter Try.func29, Try.ntmps29
  go_wp2_with fail
  refine (HG.out _ (hl.later (by repeat (first | with_reducible exact Below.refl _ _ | with_reducible refine balloc ?_ _ | with_reducible refine bdrew ?_ | with_reducible refine bset' ?_ (by omega) _ | with_reducible refine bthen ?_ (by assumption))))).mono ?_
  rintro e w1 ⟨rfl, HB⟩
  have HB0 : Below w.heap.size w w1 := by repeat (first | with_reducible exact Below.refl _ _ | with_reducible refine balloc ?_ _ | with_reducible refine bdrew ?_ | with_reducible refine bset' ?_ (by omega) _ | with_reducible refine bthen ?_ (by assumption))
  obtain ⟨p, k, q, e, z0, z1⟩ := four2 HB
  clear HB
  obtain ⟨⟨p0, p1, p2, p3⟩, ⟨k0, k1, k2, k3⟩⟩ := (⟨p, k⟩ : _ ∧ _)
  go_wp2_with fail
  refine (HE.out _ (hl.later (by repeat (first | with_reducible exact Below.refl _ _ | with_reducible refine balloc ?_ _ | with_reducible refine bdrew ?_ | with_reducible refine bset' ?_ (by omega) _ | with_reducible refine bthen ?_ (by assumption))))).mono ?_
  rintro e' w2 ⟨rfl, HB⟩
  clear p0 p1 p2 p3 k0 k1 k2 k3
  obtain ⟨⟨p0, p1, p2, p3⟩, ⟨k0, k1, k2, k3⟩, y0⟩ := four1 HB
  obtain ⟨q, e⟩ := four_later (bthen (below1 _ _) HB) ⟨q, e⟩
  obtain ⟨⟨q0, q1, q2, q3⟩, ⟨e0, e1, e2, e3⟩⟩ := (⟨q, e⟩ : _ ∧ _)
  have HB1 : Below w.heap.size w w2 := bthen HB0 (bthen (below1 _ _) HB)
  go_wp2_with fail
  obtain ⟨⟨s0, s1⟩, s2, s3, s4⟩ := set4 (Value.bool T.w) (Value.int .i64 T.g) (Value.int .i64 T.s) (Value.int .i64 T.p) ⟨⟨p0, p1, p2, p3⟩, ⟨k0, k1, k2, k3⟩⟩ _ rfl
  have hq := fun o' => s2 (w.heap.size + 1) o' (by omega)
  have he := fun o' => s3 (w.heap.size + 1) o' (by omega)
  have HB2 : Below w.heap.size w _ := bset' (bset' (bset' (bset' HB1 (b := w1.heap.size) (o := 0) (by omega) (Value.bool T.w)) (b := w1.heap.size) (o := 1) (by omega) (Value.int .i64 T.g)) (b := w1.heap.size) (o := 2) (by omega) (Value.int .i64 T.s)) (b := w1.heap.size) (o := 3) (by omega) (Value.int .i64 T.p)
  refine (HF.out _ (hl.later HB2)).mono ?_
  rintro e' w3 ⟨rfl, HB3⟩
  obtain ⟨⟨r0, r1, r2, r3⟩, ⟨x0, x1, x2, x3⟩⟩ := four_later HB3 ⟨s0, s1⟩
  obtain ⟨⟨t0, t1, t2, t3⟩, ⟨y0', y1', y2', y3'⟩⟩ := four_later (b := w.heap.size + 1) HB3 ⟨⟨(hq 0).trans q0, (hq 1).trans q1, (hq 2).trans q2, (hq 3).trans q3⟩, ⟨(he 0).trans e0, (he 1).trans e1, (he 2).trans e2, (he 3).trans e3⟩⟩
  have HB4 : Below w.heap.size w w3 := bthen HB2 HB3
  replace c1 := cell_later' HB4 c1
  replace c2 := cell_later' HB4 c2
  have l1 : b < w3.heap.size := lt_of_cell c1
  have z3 : w1.heap.size < w3.heap.size := lt_of_cell r0
  have z4 : w.heap.size + 1 < w3.heap.size := lt_of_cell t0
  have hne1 : ¬ b = w.heap.size + 1 := by omega
  have hne2 : ¬ b = w1.heap.size := by omega
  have hne3 : ¬ w.heap.size + 1 = w1.heap.size := by omega
  have hne4 : ¬ w1.heap.size = w.heap.size + 1 := by omega
  have hne5 : ¬ w1.heap.size = b := by omega
  have hne6 : ¬ w.heap.size + 1 = b := by omega
  clear p0 p1 p2 p3 k0 k1 k2 k3 q0 q1 q2 q3 e0 e1 e2 e3 s0 s1 s2 s3 s4 hq he HB2 HB3 HB HB1 HB0 y0 z1 l0 hl HG HE HF
  go_wp2_with fail
  go_region
  go_wp2_with fail
  go_region
  go_wp2
  refine bodyPost_ret (v := .tuple #[.int .i64 i, Tn.val ⟨T.w, T.g, T.s, l[i].f + l[i].m⟩]) ?_ rfl ⟨rfl, by repeat (first | with_reducible exact Below.refl _ _ | with_reducible refine balloc ?_ _ | with_reducible refine bdrew ?_ | with_reducible refine bset' ?_ (by omega) _ | with_reducible refine bthen ?_ (by assumption))⟩
  simp [results, Try.results29, go_sem, t0, t1, t2, t3]
/-- A block's first four cells, not frozen. -/
def FourAt (w : World) (b : Nat) (a0 a1 a2 a3 : Value) : Prop :=
  (w.cell? ⟨b, 0, none⟩ = some a0 ∧ w.cell? ⟨b, 1, none⟩ = some a1 ∧ w.cell? ⟨b, 2, none⟩ = some a2 ∧ w.cell? ⟨b, 3, none⟩ = some a3) ∧ (w.frozen? ⟨b, 0, none⟩ = false ∧ w.frozen? ⟨b, 1, none⟩ = false ∧ w.frozen? ⟨b, 2, none⟩ = false ∧ w.frozen? ⟨b, 3, none⟩ = false)
section
variable {w w' : World} {b b' o : Nat} {a0 a1 a2 a3 : Value}
theorem FourAt.later (h : FourAt w b a0 a1 a2 a3) (hb : Below w.heap.size w w') : FourAt w' b a0 a1 a2 a3 := four_later hb h
theorem FourAt.other (h : FourAt w b a0 a1 a2 a3) (hne : b ≠ b') (v : Value) : FourAt (w.setCell ⟨b', o, none⟩ v) b a0 a1 a2 a3 := by
  obtain ⟨⟨c0, c1, c2, c3⟩, ⟨f0, f1, f2, f3⟩⟩ := h
  refine ⟨⟨?_, ?_, ?_, ?_⟩, ⟨?_, ?_, ?_, ?_⟩⟩
  all_goals first | (rw [sc_other (Or.inl hne)]; assumption) | (rw [World.frozen?_setCell]; assumption)
theorem FourAt.set0 (h : FourAt w b a0 a1 a2 a3) (v : Value) : FourAt (w.setCell ⟨b, 0, none⟩ v) b v a1 a2 a3 := by
  obtain ⟨⟨c0, c1, c2, c3⟩, ⟨f0, f1, f2, f3⟩⟩ := h
  refine ⟨⟨World.cell?_setCell_same _ _ _ c0, ?_, ?_, ?_⟩, ⟨?_, ?_, ?_, ?_⟩⟩
  all_goals first | (rw [sc_other (Or.inr (by decide))]; assumption) | (rw [World.frozen?_setCell]; assumption)
theorem FourAt.set1 (h : FourAt w b a0 a1 a2 a3) (v : Value) : FourAt (w.setCell ⟨b, 1, none⟩ v) b a0 v a2 a3 := by
  obtain ⟨⟨c0, c1, c2, c3⟩, ⟨f0, f1, f2, f3⟩⟩ := h
  refine ⟨⟨?_, World.cell?_setCell_same _ _ _ c1, ?_, ?_⟩, ⟨?_, ?_, ?_, ?_⟩⟩
  all_goals first | (rw [sc_other (Or.inr (by decide))]; assumption) | (rw [World.frozen?_setCell]; assumption)
theorem FourAt.set2 (h : FourAt w b a0 a1 a2 a3) (v : Value) : FourAt (w.setCell ⟨b, 2, none⟩ v) b a0 a1 v a3 := by
  obtain ⟨⟨c0, c1, c2, c3⟩, ⟨f0, f1, f2, f3⟩⟩ := h
  refine ⟨⟨?_, ?_, World.cell?_setCell_same _ _ _ c2, ?_⟩, ⟨?_, ?_, ?_, ?_⟩⟩
  all_goals first | (rw [sc_other (Or.inr (by decide))]; assumption) | (rw [World.frozen?_setCell]; assumption)
end

end Go.Proofs.Ytfdmchhaiikeaaa
