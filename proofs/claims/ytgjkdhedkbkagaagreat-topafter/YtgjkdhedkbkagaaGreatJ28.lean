/- A stack of all: Dirty, isDirty, dirtyOnes. -/
import Derived.Test.YtgjkdhedkbkagaaGreatJ27
import Derived.Test.YtgjkdhedkbkagaaGreatJ7
namespace Go.Proofs.YtgjkdhedkbkagaaGreat
open Go.RowKit Go.BigFrame Go.Maps
set_option maxRecDepth 100000
attribute [local go_sem] Later.cell Later.frozen

theorem dirtyN_all (l : List Bf) : dirtyN l l.length = dirtyB l := by
  have : ∀ k, k ≤ l.length → dirtyN l k = dirtyB (l.take k) := by
    intro k
    induction k with
    | zero => intro _; rfl
    | succ k ih =>
      intro hk
      have h : k < l.length := by omega
      have e := ih (by omega)
      unfold dirtyB at e ⊢
      rw [List.take_succ_eq_append_getElem h, List.filter_append, List.length_append, ← e]
      cases hd : l[k].dirty
      · rw [dirtyN_no h hd, List.filter_cons_of_neg (by rw [hd]; exact Bool.false_ne_true)]; rfl
      · rw [dirtyN_yes h hd, List.filter_cons_of_pos (by exact hd)]; rfl
  have := this l.length (Nat.le_refl _)
  rwa [List.take_length] at this
set_option maxHeartbeats 400000 in
theorem sdirty_any (s : Nat) (p : Sk) (A : Sa) (w : World) (h : StkAt s p A w) (n : Nat) (hn : dirtyB p.hand = n) :
    Calls Tryz.prog 19 #[.pointer (some ⟨s, 0, none⟩)] w fun e w' => e = .returned (.int .i64 n) ∧ Below w.heap.size w w' := by
  have c := h.cell 20 _ rfl
  have hl := h.lt
  have HM := hidT h.mem.hand
  have HN := hidT hn
  clear h hn
  go_enter Tryz.func19, Tryz.ntmps19
  go_wp2_with fail
  refine (dirty_any p.hand A.ha A.hc _ HM.out n ((dirtyN_all _).trans HN.out)).mono ?_
  rintro e w1 ⟨rfl, hb1⟩
  go_wp2
  go_ret
  exact ⟨rfl, hb1⟩
set_option maxHeartbeats 1000000 in
theorem isDirty_any (s : Nat) (p : Sk) (A : Sa) (pl : Int) (w : World) (h : StkAt s p A w) (t : Bool) (ht : isDirtyB p.hand pl = t) :
    Calls Tryz.prog 100 #[.pointer (some ⟨s, 0, none⟩), .int .i64 pl] w fun e w' => e = .returned (.bool t) ∧ Below w.heap.size w w' := by
  have c := h.cell 20 _ rfl
  have hl := h.lt
  have HM := hidT h.mem.hand
  clear h
  subst ht
  unfold isDirtyB
  rcases getB_idx p.hand pl with ⟨e, hi⟩ | ⟨k, hk, e, hi, -⟩
  · rw [e]
    have HI := hidT hi
    clear hi e
    go_enter Tryz.func100, Tryz.ntmps100
    go_wp2_with fail
    refine (get_no p.hand A.ha A.hc pl _ (HM.out.later (by repeat (first | with_reducible exact Below.refl _ _ | with_reducible refine balloc ?_ _ | with_reducible refine bdrew ?_ | with_reducible refine bset' ?_ (by omega) _ | with_reducible refine bthen ?_ (by assumption)))) HI.out).mono ?_
    rintro e w1 ⟨rfl, hb1⟩
    go_wp2
    go_ret
    exact ⟨rfl, by repeat (first | with_reducible exact Below.refl _ _ | with_reducible refine balloc ?_ _ | with_reducible refine bdrew ?_ | with_reducible refine bset' ?_ (by omega) _ | with_reducible refine bthen ?_ (by assumption))⟩
  · rw [e]
    have HI := hidT hi
    clear hi e
    go_enter Tryz.func100, Tryz.ntmps100
    go_wp2_with fail
    refine (get_yes p.hand A.ha A.hc pl _ (HM.out.later (by repeat (first | with_reducible exact Below.refl _ _ | with_reducible refine balloc ?_ _ | with_reducible refine bdrew ?_ | with_reducible refine bset' ?_ (by omega) _ | with_reducible refine bthen ?_ (by assumption)))) k hk HI.out).mono ?_
    rintro e w1 ⟨rfl, hb1⟩
    go_wp2
    go_ret
    exact ⟨rfl, by repeat (first | with_reducible exact Below.refl _ _ | with_reducible refine balloc ?_ _ | with_reducible refine bdrew ?_ | with_reducible refine bset' ?_ (by omega) _ | with_reducible refine bthen ?_ (by assumption))⟩
theorem ones_take {l : List Bf} {k : Nat} (h : k < l.length) : dirtyOnes (l.take (k + 1)) = dirtyOnes (l.take k) ++ (if l[k].dirty = true then [l[k].pl] else []) := by
  unfold dirtyOnes
  rw [List.take_succ_eq_append_getElem h, List.filter_append, List.map_append]
  cases hd : l[k].dirty
  · rw [List.filter_cons_of_neg (by rw [hd]; exact Bool.false_ne_true)]; rfl
  · rw [List.filter_cons_of_pos (by exact hd)]; rfl
theorem ones_len (l : List Bf) (k : Nat) : (dirtyOnes (l.take k)).length ≤ l.length := by
  unfold dirtyOnes
  rw [List.length_map]
  exact Nat.le_trans (List.length_filter_le _ _) (by rw [List.length_take]; omega)
theorem rowI {w : World} {b : Nat} {n : Int} (h : w.cell? ⟨b, 0, none⟩ = some (.int .i64 n)) : RowAt w 1 (some ⟨b, 0, none⟩) 1 1 [.int .i64 n] := by
  refine ⟨rfl, by simp [Value.oneCell'], Or.inr ⟨_, rfl, fun j u hj => ?_⟩⟩
  match j, hj with
  | 0, hj =>
    simp only [List.getElem?_cons_zero, Option.some.injEq] at hj
    subst hj; exact h
set_option maxHeartbeats 2000000 in
theorem dirtyOnes_core (s : Nat) (l : List Bf) (a : Option Addr) (cp : Nat) (w : World) (c : w.cell? ⟨s, 20, none⟩ = some (.slice a l.length cp)) (hM : BufsAt w a l) (h8 : l.length ≤ 1000) :
    Calls Tryz.prog 60 #[.pointer (some ⟨s, 0, none⟩)] w fun e w' => ∃ v, e = .returned v ∧ w'.ownsRow w.heap.size 3 1 v (dirtyOnes l).length (intV (dirtyOnes l)) ∧ Below w.heap.size w w' := by
  have hb3 := hM.2
  obtain ⟨i, hi, hz0, hz1, hz2⟩ := pluck infoI
  go_enter Tryz.func60, Tryz.ntmps60
  go_wp2
  go_loopw [3, 11] (fun v i wr => ∃ k : Nat, k ≤ l.length ∧ i = .int .i64 k ∧ wr.ownsRow w.heap.size 3 1 v (dirtyOnes (l.take k)).length (intV (dirtyOnes (l.take k))) ∧ Below w.heap.size w wr) (fun _ i _ => l.length - (intOf i).toNat)
  case atStart => exact ⟨0, by omega, rfl, World.ownsRow_nil _ _ _ _, by repeat (first | with_reducible exact Below.refl _ _ | with_reducible refine balloc ?_ _ | with_reducible refine bdrew ?_ | with_reducible refine bset' ?_ (by omega) _ | with_reducible refine bthen ?_ (by assumption))⟩
  case round =>
    obtain ⟨k, hk, rfl, hown, HB⟩ := hrel
    by_cases hlt : k < l.length
    · have h0 : l ≠ [] := fun e => by rw [e] at hlt; exact absurd hlt (Nat.not_lt_zero _)
      obtain ⟨b, o, rfl⟩ := hM.form.resolve_left h0
      obtain ⟨c0, c1, c2, c3⟩ := (hM.later HB).cells hlt
      have ht := ones_take hlt
      have hL := ones_len l k
      clear h0
      cases hd : l[k].dirty
      · rw [hd] at ht c2
        have HT := hidC ht
        clear ht hd
        have HO := hidC hown
        clear hown
        go_wp2
        go_roundw
        case rel => exact ⟨k + 1, by omega, by go_num, by rw [HT.out]; simpa using ownA_later HO.out (by repeat (first | with_reducible exact Below.refl _ _ | with_reducible refine balloc ?_ _ | with_reducible refine bdrew ?_ | with_reducible refine bset' ?_ (by omega) _ | with_reducible refine bthen ?_ (by assumption))), by repeat (first | with_reducible exact Below.refl _ _ | with_reducible refine balloc ?_ _ | with_reducible refine bdrew ?_ | with_reducible refine bset' ?_ (by omega) _ | with_reducible refine bthen ?_ (by assumption))⟩
        case measure => simp [intOf]; omega
      · rw [hd] at ht c2
        have HT := hidC ht
        clear ht hd
        have HO := hidC hown
        clear hown
        go_wp2_with (at_builtin; refine wpList_append_row rfl _ _ 42 rfl w.heap.size 3 i (.int .i64 0) 1 8 Tryz.underlying42 hi hz0 hz1 hz2 rfl (by decide) _ _ _ rfl (ownA_later HO.out (by repeat (first | with_reducible exact Below.refl _ _ | with_reducible refine balloc ?_ _ | with_reducible refine bdrew ?_ | with_reducible refine bset' ?_ (by omega) _ | with_reducible refine bthen ?_ (by assumption)))) _ 1 1 [.int .i64 l[k].pl] rfl (rowI (by simp)) (by unfold maxLen; omega) (by omega) (by have := HB.size; (try simp); omega) ?_; intro v1 w2 hown1 hb1)
        all_goals
          have HO1 := hidC hown1
          clear hown1
          go_wp2
          go_roundw
        case rel => exact ⟨k + 1, by omega, by go_num, by rw [HT.out]; simpa [intV] using HO1.out, Below.trans (by repeat (first | with_reducible exact Below.refl _ _ | with_reducible refine balloc ?_ _ | with_reducible refine bdrew ?_ | with_reducible refine bset' ?_ (by omega) _ | with_reducible refine bthen ?_ (by assumption))) hb1⟩
        case measure => simp [intOf]; omega
    · obtain rfl : k = l.length := by omega
      rw [List.take_length] at hown
      go_wp2
      go_ret
      exact ⟨_, rfl, hown, HB⟩
theorem dirtyOnes_any (s : Nat) (p : Sk) (A : Sa) (w : World) (h : StkAt s p A w) (h8 : p.hand.length ≤ 1000) :
    Calls Tryz.prog 60 #[.pointer (some ⟨s, 0, none⟩)] w fun e w' => ∃ v, e = .returned v ∧ w'.ownsRow w.heap.size 3 1 v (dirtyOnes p.hand).length (intV (dirtyOnes p.hand)) ∧ Below w.heap.size w w' :=
  dirtyOnes_core s p.hand A.ha A.hc w (h.cell 20 _ rfl) h.mem.hand h8
end Go.Proofs.YtgjkdhedkbkagaaGreat
/- A region that draws its order, in which no operation writes what others read: what holds of the world all along is enough to take the reading ones first. -/
namespace Go.Proofs.YtgjkdhedkbkagaaGreat
set_option maxRecDepth 100000
section
variable {P : Program} {ops : Array Oper} {Q : Exit → Act → World → Prop} {S : World → Prop} {d : Nat}
end
end Go.Proofs.YtgjkdhedkbkagaaGreat
/- A stack of all: who is held now. -/
namespace Go.Proofs.YtgjkdhedkbkagaaGreat
open Go.RowKit Go.BigFrame Go.Maps
set_option maxRecDepth 100000
attribute [local go_sem] Later.cell Later.frozen

def holdsB (l : List Rq) (n : Int) : Bool := l.any fun r => hasB r.f r.m n
/-- Who is held, as a function in memory: a box that holds all. -/
def HoldAt (w : World) (hb : Nat) (l : List Rq) : Prop := ∃ a c, w.cell? ⟨hb, 0, none⟩ = some (.slice a l.length c) ∧ ReqsAt w a l
theorem HoldAt.later {w w' : World} {hb : Nat} {l : List Rq} (h : HoldAt w hb l) (k : Below w.heap.size w w') : HoldAt w' hb l := by
  obtain ⟨a, c, h1, h2⟩ := h
  exact ⟨a, c, cellB_later' k h1, h2.later k⟩
set_option maxHeartbeats 400000 in
theorem hold2_any (x : Rq) (pb : Nat) (n : Int) (w : World) (h : w.cell? ⟨pb, 0, none⟩ = some (.int .i64 n)) :
    Calls Tryz.prog 71 #[x.val, .pointer (some ⟨pb, 0, none⟩)] w fun e w' => e = .returned (.bool (hasB x.f x.m n)) ∧ Below w.heap.size w w' := by
  have h' := alloc_cell h
  have hl := lt_of_cell h
  go_enter Tryz.func71, Tryz.ntmps71
  go_wp2_with fail
  refine (has_eq x.f x.m n _ _ rfl).mono ?_
  rintro e w1 ⟨rfl, hb1⟩
  go_wp2
  go_ret
  exact ⟨rfl, by repeat (first | with_reducible exact Below.refl _ _ | with_reducible refine balloc ?_ _ | with_reducible refine bdrew ?_ | with_reducible refine bset' ?_ (by omega) _ | with_reducible refine bthen ?_ (by assumption))⟩
set_option maxHeartbeats 400000 in
theorem hold1_any (hb : Nat) (l : List Rq) (n : Int) (w : World) (h : HoldAt w hb l) :
    Calls Tryz.prog 69 #[.int .i64 n, .pointer (some ⟨hb, 0, none⟩)] w fun e w' => e = .returned (.bool (holdsB l n)) ∧ Below w.heap.size w w' := by
  obtain ⟨a, c, h1, h2⟩ := h
  have h1' := alloc_cell h1
  have hl := lt_of_cell h1
  have H2 := hidT h2
  have HE : Hid (l.any (fun r => hasB r.f r.m n) = holdsB l n) := hidT rfl
  clear h2
  generalize holdsB l n = t at *
  go_enter Tryz.func69, Tryz.ntmps69
  go_wp2_with fail
  refine (containsR_any 71 (by intro args w; go_simp) (.pointer (some ⟨w.heap.size, 0, none⟩)) (fun r => hasB r.f r.m n) l a c (w.alloc (.cells #[.int .i64 n] 3)) (H2.out.later (by repeat (first | with_reducible exact Below.refl _ _ | with_reducible refine balloc ?_ _ | with_reducible refine bdrew ?_ | with_reducible refine bset' ?_ (by omega) _ | with_reducible refine bthen ?_ (by assumption)))) (fun x w' _ hb' => hold2_any x w.heap.size n w' (cellB_later' hb' (by simp))) t HE.out).mono ?_
  rintro e w1 ⟨rfl, hb1⟩
  go_wp2
  go_ret
  exact ⟨rfl, by repeat (first | with_reducible exact Below.refl _ _ | with_reducible refine balloc ?_ _ | with_reducible refine bdrew ?_ | with_reducible refine bset' ?_ (by omega) _ | with_reducible refine bthen ?_ (by assumption))⟩
theorem hold_of {w w2 w3 : World} {base hb c2 : Nat} {a2 : Option Addr} {l : List Rq} (hN : NewReqs base w2 a2 c2 l) (hAt : ∀ r ∈ l, r.At w) (hcase : hb < base ∨ w2.heap.size ≤ hb) (hO : Only (fun k => k = hb) w2 w3) (hc : w3.cell? ⟨hb, 0, none⟩ = some (.slice a2 l.length c2)) (hB : Below w.heap.size w w3) : HoldAt w3 hb l := by
  refine ⟨a2, c2, hc, ?_, fun r hr => (hAt r hr).later hB, hN.here.2.2⟩
  rcases hN.here.1 with h | ⟨b, o, ha, hcl⟩
  · exact Or.inl h
  · refine Or.inr ⟨b, o, ha, fun i hi j hj => ?_⟩
    have h1 := hcl i hi j hj
    have h2 := lt_of_cell h1
    have h3 := (hN.own.lt b (by rw [ha]; rfl)).1
    rw [hO.cell (p := ⟨b, o + i * 6 + j, none⟩) h2 (show ¬ b = hb by omega)]
    exact h1
set_option linter.unusedSimpArgs false in
set_option maxRecDepth 100000 in
set_option maxHeartbeats 1000000 in
theorem held_any (s : Nat) (p : Sk) (A : Sa) (w : World) (h : StkAt s p A w) (h6 : p.queue.length ≤ 1000) :
    Calls Tryz.prog 51 #[.pointer (some ⟨s, 0, none⟩)] w fun e w' => ∃ hb, e = .returned (.func (.func 69) #[] #[.pointer (some ⟨hb, 0, none⟩)]) ∧ HoldAt w' hb (p.queue ++ p.dev.busy) ∧ Below w.heap.size w w' := by
  have c0 := h.cell 0 _ rfl
  have c1 := h.cell 21 _ rfl
  have hl := h.lt
  have HL := hidT h.blen
  have HD := hidT h.mem.drv.dev
  have HQ := hidT h.mem.queue
  have HR1 := hidT (h.mem.queue.rowAll' h.mem.qnil)
  have HAT : Hid (∀ r ∈ p.queue ++ p.dev.busy, r.At w) := fun r hr => (List.mem_append.1 hr).elim (h.mem.queue.2.1 r) (fun hr => (h.mem.drv.dev.reqs r hr).1)
  clear h
  go_enter Tryz.func51, Tryz.ntmps51
  go_wp2_with fail
  go_region_held3 (fun w' => w'.cell? ⟨s, 0, none⟩ = some (.pointer (some ⟨A.b, 0, none⟩)) ∧ w'.cell? ⟨s, 21, none⟩ = some (.slice A.qa p.queue.length A.qc)) (exact ⟨cellB_later' (w := w) (by repeat (first | with_reducible exact Below.refl _ _ | with_reducible refine balloc ?_ _ | with_reducible refine bdrew ?_ | with_reducible refine bset' ?_ (by omega) _ | with_reducible refine bthen ?_ (by assumption))) c0, cellB_later' (w := w) (by repeat (first | with_reducible exact Below.refl _ _ | with_reducible refine balloc ?_ _ | with_reducible refine bdrew ?_ | with_reducible refine bset' ?_ (by omega) _ | with_reducible refine bthen ?_ (by assumption))) c1⟩) (first | (go_at_call 44; refine (busy_any A.b p.dev A.an _ (HD.out.later (by repeat (first | with_reducible exact Below.refl _ _ | with_reducible refine balloc ?_ _ | with_reducible refine bdrew ?_ | with_reducible refine bset' ?_ (by omega) _ | with_reducible refine bthen ?_ (by assumption))))).mono ?_; rintro e w1 ⟨a', c', rfl, hR, hn, hb1⟩; have z1 : w.heap.size ≤ w1.heap.size := (show Below w.heap.size w w1 by repeat (first | with_reducible exact Below.refl _ _ | with_reducible refine balloc ?_ _ | with_reducible refine bdrew ?_ | with_reducible refine bset' ?_ (by omega) _ | with_reducible refine bthen ?_ (by assumption))).size; (try (obtain ⟨k1a, k1b⟩ : w1.cell? ⟨w.heap.size, 0, none⟩ = some (.slice none 0 0) ∧ w1.frozen? ⟨w.heap.size, 0, none⟩ = false; (focus ((refine ⟨(hb1.cell (p := ⟨w.heap.size, 0, none⟩) ?_).trans ?_, (hb1.frozen (p := ⟨w.heap.size, 0, none⟩) ?_).trans ?_⟩); (all_goals simp); (all_goals omega)))))) | (go_at_call 68; refine (concatR_any _ 0 A.qa a' p.queue.length p.dev.busy.length A.qc c' (rcells p.queue) (rcells p.dev.busy) _ (by simp) (by simp) (HR1.out.later (by repeat (first | with_reducible exact Below.refl _ _ | with_reducible refine balloc ?_ _ | with_reducible refine bdrew ?_ | with_reducible refine bset' ?_ (by omega) _ | with_reducible refine bthen ?_ (by assumption)))) ((hR.rowAll' hn).later (by repeat (first | with_reducible exact Below.refl _ _ | with_reducible refine balloc ?_ _ | with_reducible refine bdrew ?_ | with_reducible refine bset' ?_ (by omega) _ | with_reducible refine bthen ?_ (by assumption)))) (by omega) (by have := HL.out; omega)).mono ?_; rintro e w2 ⟨v, rfl, hown, hb2⟩; rw [← rcells_append] at hown; obtain ⟨a2, c2, rfl, hN2⟩ := newR_of_owned (l := p.queue ++ p.dev.busy) hown (fun r hr => (HAT.out r hr).later (by repeat (first | with_reducible exact Below.refl _ _ | with_reducible refine balloc ?_ _ | with_reducible refine bdrew ?_ | with_reducible refine bset' ?_ (by omega) _ | with_reducible refine bthen ?_ (by assumption)))) (by simp) (by have := HL.out; simp; omega); have HN2 := hidT hN2; have z2 : w.heap.size ≤ w2.heap.size := (show Below w.heap.size w w2 by repeat (first | with_reducible exact Below.refl _ _ | with_reducible refine balloc ?_ _ | with_reducible refine bdrew ?_ | with_reducible refine bset' ?_ (by omega) _ | with_reducible refine bthen ?_ (by assumption))).size; clear hN2 hown; (try (obtain ⟨k2a, k2b⟩ : w2.cell? ⟨w.heap.size, 0, none⟩ = some (.slice none 0 0) ∧ w2.frozen? ⟨w.heap.size, 0, none⟩ = false; (focus exact ⟨cellB_later' (w := w1) (by repeat (first | with_reducible exact Below.refl _ _ | with_reducible refine balloc ?_ _ | with_reducible refine bdrew ?_ | with_reducible refine bset' ?_ (by omega) _ | with_reducible refine bthen ?_ (by assumption))) k1a, frozen_laterE (w := w1) (by repeat (first | with_reducible exact Below.refl _ _ | with_reducible refine balloc ?_ _ | with_reducible refine bdrew ?_ | with_reducible refine bset' ?_ (by omega) _ | with_reducible refine bthen ?_ (by assumption))) (lt_of_cell k1a) k1b⟩))); (try (obtain ⟨k3a, k3b⟩ : w2.cell? ⟨w1.heap.size, 0, none⟩ = some (.slice none 0 0) ∧ w2.frozen? ⟨w1.heap.size, 0, none⟩ = false; (focus ((refine ⟨(hb2.cell (p := ⟨w1.heap.size, 0, none⟩) ?_).trans ?_, (hb2.frozen (p := ⟨w1.heap.size, 0, none⟩) ?_).trans ?_⟩); (all_goals simp); (all_goals omega))))); (try (obtain ⟨k4a, k4b⟩ : w2.cell? ⟨w1.heap.size + 1, 0, none⟩ = some (.slice none 0 0) ∧ w2.frozen? ⟨w1.heap.size + 1, 0, none⟩ = false; (focus ((refine ⟨(hb2.cell (p := ⟨w1.heap.size + 1, 0, none⟩) ?_).trans ?_, (hb2.frozen (p := ⟨w1.heap.size + 1, 0, none⟩) ?_).trans ?_⟩); (all_goals simp); (all_goals omega)))))))
  all_goals
    go_wp2
    go_ret
    refine ⟨_, rfl, hold_of HN2.out HAT.out ?_ ?_ ?_ ?_, ?_⟩
    · first | (left; simp; done) | (left; simp; omega) | (right; simp; done)
    · first | (refine Only.of_below ?_; (repeat (first | with_reducible exact Below.refl _ _ | with_reducible refine balloc ?_ _ | with_reducible refine bdrew ?_ | with_reducible refine bset' ?_ (by omega) _ | with_reducible refine bthen ?_ (by assumption))); done) | exact Only.of_set _
    · rw [List.length_append]
      first | (simp; done) | exact World.cell?_setCell_same _ _ _ (by assumption)
    · repeat (first | with_reducible exact Below.refl _ _ | with_reducible refine balloc ?_ _ | with_reducible refine bdrew ?_ | with_reducible refine bset' ?_ (by omega) _ | with_reducible refine bthen ?_ (by assumption))
    · repeat (first | with_reducible exact Below.refl _ _ | with_reducible refine balloc ?_ _ | with_reducible refine bdrew ?_ | with_reducible refine bset' ?_ (by omega) _ | with_reducible refine bthen ?_ (by assumption))
end Go.Proofs.YtgjkdhedkbkagaaGreat
/- A stack of all: a client is answered. -/
namespace Go.Proofs.YtgjkdhedkbkagaaGreat
open Go.RowKit Go.BigFrame Go.Maps
set_option maxRecDepth 100000
attribute [local go_sem] Later.cell Later.frozen

section
variable {s : Nat} {p p' : Sk} {A A' : Sa} {w w' : World}
/-- The block is written anew, what lies beyond it is that of the other state. -/
theorem StkMem.puts (hm : StkMem s p' A' w) (hO : Only (fun k => k = s) w w') (hb : w'.heap[s]? = some (.cells (p'.cells A').toArray 79 (0, 0))) (hf : ∀ k, A'.foot s k → A.foot s k) (hsame : A'.b = A.b ∧ A'.v = A.v ∧ A'.bm = A.bm ∧ A'.M = A.M) : SStep s p A p' A' w w' :=
  ⟨⟨hb, hm.frame hO (fun _ _ hne => hne) (fun e => hm.sv.2 e.symm) (fun hne q hq e => hm.hoff hne q hq (Or.inl e)) (fun hne q hq e => hm.qoff hne q hq (Or.inl e)) (fun r hr => ⟨fun he ad ha e => (hm.roff r hr).1 he ad ha (Or.inl e), fun he ad ha e => (hm.roff r hr).2 he ad ha (Or.inl e)⟩)⟩, hO.mono (fun _ e => Or.inl e), fun k hk => Or.inl (hf k hk), hsame⟩
/-- A client's list goes. -/
def Sa.drop (A : Sa) (i : Nat) : Sa := { A with la := fun j => if j = i then none else A.la j, lc := fun j => if j = i then 0 else A.lc j }
theorem Sa.drop_foot (A : Sa) (i k : Nat) (h : (A.drop i).foot s k) : A.foot s k := by
  rcases h with h | h | ⟨j, hj, q, hq, e⟩
  · exact Or.inl h
  · exact Or.inr (Or.inl h)
  · by_cases hji : j = i
    · simp only [Sa.drop, if_pos hji] at hq; cases hq
    · simp only [Sa.drop, if_neg hji] at hq; exact Or.inr (Or.inr ⟨j, hj, q, hq, e⟩)
theorem Sa.drop_off (A : Sa) (i k : Nat) (h : (A.drop i).off s k) : A.off s k := h.imp (A.drop_foot i k) id
theorem client_set (hl : p.cl.length = 3) {i j : Nat} (hi : i < 3) (c : Cl) : ({ p with cl := p.cl.set i c } : Sk).client j = if j = i then c else p.client j := by
  unfold Sk.client
  by_cases h : j = i
  · subst h
    rw [if_pos rfl]
    simp [List.getD, hl, hi]
  · rw [if_neg h]
    simp [List.getD, Ne.symm h]
/-- A client's cells are others, its list is gone. -/
theorem StkMem.drop (h : StkMem s p A w) (hl : p.cl.length = 3) {i : Nat} (hi : i < 3) (c : Cl) (hc : c.left = []) : StkMem s { p with cl := p.cl.set i c } (A.drop i) w where
  drv := h.drv
  map := h.map
  im := h.im
  nb := h.nb
  hand := h.hand
  hnil := h.hnil
  hcap := h.hcap
  queue := h.queue
  qnil := h.qnil
  qcap := h.qcap
  left := fun j hj => by
    rw [client_set hl hi]
    by_cases hji : j = i
    · simp only [Sa.drop, if_pos hji, hc]; exact World.ownsRow_nil _ _ _ _
    · simp only [Sa.drop, if_neg hji]; exact h.left j hj
  sv := h.sv
  vl := fun j hj q hq => by
    by_cases hji : j = i
    · simp only [Sa.drop, if_pos hji] at hq; cases hq
    · simp only [Sa.drop, if_neg hji] at hq; exact h.vl j hj q hq
  ll := fun j k hj hk hne q q' hq hq' => by
    by_cases hji : j = i
    · simp only [Sa.drop, if_pos hji] at hq; cases hq
    · by_cases hki : k = i
      · simp only [Sa.drop, if_pos hki] at hq'; cases hq'
      · simp only [Sa.drop, if_neg hji] at hq; simp only [Sa.drop, if_neg hki] at hq'; exact h.ll j k hj hk hne q q' hq hq'
  hoffX := fun hne q hq e => h.hoffX hne q hq (A.drop_off i _ e)
  qoffX := fun hne q hq e => h.qoffX hne q hq (A.drop_off i _ e)
  roffX := fun r hr => ⟨fun he ad ha e => (h.roffX r hr).1 he ad ha (A.drop_off i _ e), fun he ad ha e => (h.roffX r hr).2 he ad ha (A.drop_off i _ e)⟩
  xlt := h.xlt
end
/-- Six cells of a block. -/
def six6 (w : World) (s o : Nat) (v0 v1 v2 v3 v4 v5 : Value) : World := (((((w.setCell ⟨s, o, none⟩ v0).setCell ⟨s, o + 1, none⟩ v1).setCell ⟨s, o + 2, none⟩ v2).setCell ⟨s, o + 3, none⟩ v3).setCell ⟨s, o + 4, none⟩ v4).setCell ⟨s, o + 5, none⟩ v5
theorem six6_step {s : Nat} {p : Sk} {A : Sa} {w : World} (h : StkAt s p A w) (hl : p.cl.length = 3) (i : Nat) (hi : i < 3) (data : ByteArray) (e : Int) :
    SStep s p A (p.answer i data e) (A.drop i) w (six6 w s (2 + i * 6) (.int .i64 0) (.int .i64 0) (.string ByteArray.empty) (.slice none 0 0) (.string data) (errOf e)) := by
  refine (h.mem.drop hl hi ⟨0, 0, ByteArray.empty, [], data, e⟩ rfl).puts ?_ ?_ (fun k hk => A.drop_foot i k hk) ⟨rfl, rfl, rfl, rfl⟩
  · unfold six6
    exact ((((((Only.refl (fun k => k = s) w).setCell _ (Or.inl rfl) _).setCell _ (Or.inl rfl) _).setCell _ (Or.inl rfl) _).setCell _ (Or.inl rfl) _).setCell _ (Or.inl rfl) _).setCell _ (Or.inl rfl) _
  · unfold six6
    rw [set_same (set_same (set_same (set_same (set_same (set_same h.blk _ _) _ _) _ _) _ _) _ _)]
    congr 2
    match i, hi with
    | 0, hi => simp [Sk.cells, Sk.head, Sk.tail, clCells, client_set hl hi, Sa.drop]
    | 1, hi => simp [Sk.cells, Sk.head, Sk.tail, clCells, client_set hl hi, Sa.drop]
    | 2, hi => simp [Sk.cells, Sk.head, Sk.tail, clCells, client_set hl hi, Sa.drop]
theorem StkAt.there {s : Nat} {p : Sk} {A : Sa} {w : World} (h : StkAt s p A w) (o n : Nat) (ho : o + n ≤ 30) : w.there s o n := fun j hj => by
  have hlen : (p.cells A).length = 30 := rfl
  rw [cell_of_heap h.blk (o + j), List.getElem?_eq_getElem (by omega)]
  exact ⟨rfl, frozen_of_heap h.blk _⟩
theorem errOf_cases (e : Int) : errOf e = .nilIface ∨ errOf e = .iface 89 (.int .i64 e) := by
  unfold errOf
  split
  · exact Or.inl rfl
  · exact Or.inr rfl
set_option maxHeartbeats 1000000 in
theorem answer_any (s : Nat) (p : Sk) (A : Sa) (w : World) (h : StkAt s p A w) (hl : p.cl.length = 3) (i : Nat) (hi : i < 3) (data : ByteArray) (e : Int) :
    Calls Tryz.prog 87 #[.pointer (some ⟨s, 2 + i * 6, none⟩), .string data, errOf e] w fun x w' => x = .returned (.tuple #[]) ∧ SStep s p A (p.answer i data e) (A.drop i) w w' := by
  have HF := hidT (six6_step h hl i hi data e)
  have HT := hidT (h.there (2 + i * 6) 6 (by omega))
  clear h
  rcases errOf_cases e with he | he
  all_goals
    rw [he] at HF ⊢
    clear he
    go_enter Tryz.func87, Tryz.ntmps87
    go_wp2_with (refine wpList_store_mid rfl 73 (.tmp 10) (.tmp 9) rfl s (2 + i * 6) #[.int .i64 0, .int .i64 0, .string ByteArray.empty, .slice none 0 0, .string data, _] rfl rfl HT.out (by kernel_rfl) (by simp [Value.oneCell']) ?_; simp only)
    go_end0
    exact ⟨rfl, HF.out⟩
end Go.Proofs.YtgjkdhedkbkagaaGreat
/- A stack of all: what waits, asked for. -/
namespace Go.Proofs.YtgjkdhedkbkagaaGreat
open Go.RowKit Go.BigFrame Go.Maps
set_option maxRecDepth 100000
attribute [local go_sem] Later.cell Later.frozen

theorem joinE_nf {o r q : Rq} (h : BothE o r q) : q.nf = joinE o.nf r.nf := by
  have one : ∀ {a b : Rq}, IsBoth a b q → q.nf = joinF a.nf b.nf := fun {a b} h => by
    obtain ⟨h1, h2, h3, h4, h5, h6⟩ := h
    obtain ⟨wr, f, m, da, dc, data, ta, tc, tags, born⟩ := q
    simp only at h1 h2 h3 h4 h5 h6
    simp only [Rq.nf, joinF, h1, h2, h3, h4, h5, h6]
  unfold joinE
  rcases h with ⟨h1, h2⟩ | ⟨h1, _, h2⟩
  · rw [if_pos (show togB o.nf r.nf = true from h1)]; exact one h2
  · rw [if_neg (by rw [show togB o.nf r.nf = false from h1]; exact Bool.false_ne_true)]; exact one h2
theorem any_nf (l : List Rq) (r : Rq) : (l.map Rq.nf).any (meetsB r.nf) = l.any (meetsB r) := by
  rw [List.any_map]; rfl
theorem idx_nf (l : List Rq) (r : Rq) : (l.map Rq.nf).findIdx? (fun o => togE o r.nf) = l.findIdx? (fun o => togE o r) := by
  rw [List.findIdx?_map]; rfl
theorem addF_meets {l : List Rq} {r : Rq} (h : l.any (meetsB r) = true) : addF (l.map Rq.nf) r.nf = none := by
  unfold addF
  rw [any_nf, if_pos h]
theorem addF_full {l : List Rq} {r : Rq} (hm : l.any (meetsB r) = false) (h : ∀ j (hj : j < l.length), togE l[j] r = false) (h6 : 6 ≤ l.length) : addF (l.map Rq.nf) r.nf = none := by
  have e : l.findIdx? (fun o => togE o r) = none := by
    rw [List.findIdx?_eq_none_iff]
    intro x hx
    obtain ⟨j, hj, rfl⟩ := List.getElem_of_mem hx
    exact h j hj
  unfold addF
  rw [any_nf, if_neg (by rw [hm]; exact Bool.false_ne_true), idx_nf, e]
  simp only
  rw [if_neg (by rw [List.length_map]; omega)]
theorem addF_nf {base : Nat} {l L : List Rq} {r : Rq} (hm : l.any (meetsB r) = false) (h : AddedN base l r L) : addF (l.map Rq.nf) r.nf = some (L.map Rq.nf) := by
  unfold addF
  rw [any_nf, if_neg (by rw [hm]; exact Bool.false_ne_true), idx_nf]
  rcases h with ⟨k, hk, q, hb, ht, hq, _, rfl⟩ | ⟨hb, h6, rfl⟩
  · have e : l.findIdx? (fun o => togE o r) = some k := by
      rw [List.findIdx?_eq_some_iff_getElem]
      exact ⟨hk, ht, fun j hj => by rw [hb j (by omega) hj]; exact Bool.false_ne_true⟩
    rw [e]
    simp only
    rw [List.map_set, joinE_nf hq]
    congr 3
    rw [List.getD_eq_getElem?_getD, List.getElem?_map, List.getElem?_eq_getElem hk]; rfl
  · have e : l.findIdx? (fun o => togE o r) = none := by
      rw [List.findIdx?_eq_none_iff]
      intro x hx
      obtain ⟨j, hj, rfl⟩ := List.getElem_of_mem hx
      exact hb j hj
    rw [e]
    simp only
    rw [if_pos (by rw [List.length_map]; omega), List.map_append]
    rfl
section
variable {s : Nat} {p : Sk} {A : Sa} {w : World}
theorem StkMem.setQueue (h : StkMem s p A w) (L : List Rq) (a' : Option Addr) (c' : Nat) (n : Int) (hR : ReqsAt w a' L) (hcap : L.length ≤ c') (hnil : a' = none → c' = 0) (ho : L ≠ [] → ∀ q, a' = some q → ¬ A.off s q.block) (hro : ∀ r ∈ L, r.Off (A.off s)) : StkMem s { p with queue := L, tags := n } { A with qa := a', qc := c' } w where
  drv := h.drv
  map := h.map
  im := h.im
  nb := h.nb
  hand := h.hand
  hnil := h.hnil
  hcap := h.hcap
  queue := hR
  qnil := hnil
  qcap := hcap
  left := h.left
  sv := h.sv
  vl := h.vl
  ll := h.ll
  hoffX := h.hoffX
  qoffX := ho
  roffX := fun r hr => (List.mem_append.1 hr).elim (hro r) (fun h' => h.roffX r (List.mem_append_right _ h'))
  xlt := h.xlt
/-- The queue is another, and one more was asked for. -/
theorem StkAt.setQueue (h : StkAt s p A w) (L : List Rq) (a' : Option Addr) (c' : Nat) (n : Int) (hR : ReqsAt w a' L) (hcap : L.length ≤ c') (hnil : a' = none → c' = 0) (ho : L ≠ [] → ∀ q, a' = some q → ¬ A.off s q.block) (hro : ∀ r ∈ L, r.Off (A.off s)) : SStep s p A { p with queue := L, tags := n } { A with qa := a', qc := c' } w ((w.setCell ⟨s, 21, none⟩ (.slice a' L.length c')).setCell ⟨s, 27, none⟩ (.int .i64 n)) := by
  refine (h.mem.setQueue L a' c' n hR hcap hnil ho hro).puts ?_ ?_ (fun k hk => hk) ⟨rfl, rfl, rfl, rfl⟩
  · exact ((Only.refl (fun k => k = s) w).setCell _ (Or.inl rfl) _).setCell _ (Or.inl rfl) _
  · rw [set_same (set_same h.blk _ _)]
    rfl
end
end Go.Proofs.YtgjkdhedkbkagaaGreat
/- A stack of all: a request is asked for. -/
namespace Go.Proofs.YtgjkdhedkbkagaaGreat
open Go.RowKit Go.BigFrame Go.Maps
set_option maxRecDepth 100000
attribute [local go_sem] Later.cell Later.frozen

theorem add_none (l : List Rq) (a : Option Addr) (c : Nat) (r : Rq) (w : World) (hl : ReqsAt w a l) (hn : a = none → c = 0) (hr : r.At w) (h10 : l.length ≤ 1000) (gr : Good r) (gf : faultR r = 0) (gl : ∀ i (h : i < l.length), Good l[i]) (hN : addF (l.map Rq.nf) r.nf = none) :
    Calls Tryz.prog 73 #[.slice a l.length c, r.val] w fun e w' => ∃ n, e = .returned (.tuple #[.slice none 0 0, .iface 89 (.int .i64 n)]) ∧ Below w.heap.size w w' := by
  cases hm : l.any (meetsB r)
  · refine (add_new l a c r w hl hn hr h10 gr gl hm).mono ?_
    rintro e w' ⟨⟨L, a', c', hA, _⟩ | ⟨_, _, he⟩, hb⟩
    · rw [addF_nf hm hA] at hN; cases hN
    · exact ⟨7, he, hb⟩
  · exact (add_busy l a c r w hl hr gf hm).mono fun e w' ⟨he, hb⟩ => ⟨6, he, hb⟩
theorem add_some (l : List Rq) (a : Option Addr) (c : Nat) (r : Rq) (w : World) (hl : ReqsAt w a l) (hn : a = none → c = 0) (hr : r.At w) (h10 : l.length ≤ 1000) (gr : Good r) (gl : ∀ i (h : i < l.length), Good l[i]) (L' : List Rq) (hN : addF (l.map Rq.nf) r.nf = some L') :
    Calls Tryz.prog 73 #[.slice a l.length c, r.val] w fun e w' => ∃ (L : List Rq) (a' : Option Addr) (c' : Nat), e = .returned (.tuple #[.slice a' L.length c', .nilIface]) ∧ (AddedN w.heap.size l r L ∧ L' = L.map Rq.nf ∧ ReqsAt w' a' L ∧ L.length ≤ c' ∧ (a' = none → c' = 0) ∧ ∀ p, a' = some p → w.heap.size ≤ p.block) ∧ Below w.heap.size w w' := by
  cases hm : l.any (meetsB r)
  · refine (add_new l a c r w hl hn hr h10 gr gl hm).mono ?_
    rintro e w' ⟨⟨L, a', c', hA, he, h1, h2, h3, h4⟩ | ⟨h1, h2, _⟩, hb⟩
    · have := addF_nf hm hA
      rw [hN] at this
      exact ⟨L, a', c', he, ⟨hA, Option.some.inj this, h1, h2, h3, h4⟩, hb⟩
    · rw [addF_full hm h1 h2] at hN; cases hN
  · rw [addF_meets hm] at hN; cases hN
theorem fresh_off {F : Nat → Prop} {w : World} {q : Rq} {n : Nat} (h : q.At w) (hf : FreshQ q n) (hF : ∀ k, F k → k < n) : q.Off F := by
  refine ⟨fun he ad ha e => ?_, fun he ad ha e => ?_⟩
  · rcases h.data with h' | ⟨b, o, h', _⟩
    · exact he h'
    · have h1 := hf.1 b o h'
      rw [h'] at ha
      simp only [Option.some.injEq] at ha
      subst ha
      have := hF _ e
      simp only at this
      omega
  · rcases h.tags with h' | ⟨b, o, h', _⟩
    · exact he h'
    · have h1 := hf.2 b o h'
      rw [h'] at ha
      simp only [Option.some.injEq] at ha
      subst ha
      have := hF _ e
      simp only at this
      omega
/-- What is asked of the queue. -/
def askR (p : Sk) (pl : Int) (wr : Bool) (data : List ByteArray) (da : Option Addr) (dc tb : Nat) : Rq := ⟨wr, pl, 1, da, dc, data, some ⟨tb, 0, none⟩, 1, [p.tags + 1], p.moment⟩
set_option linter.unusedSimpArgs false in
set_option maxRecDepth 100000 in
set_option maxHeartbeats 1000000 in
theorem askQ_any (s : Nat) (p : Sk) (A : Sa) (w : World) (h : StkAt s p A w) (hq : p.queue.length ≤ 1000) (gl : ∀ i (h : i < p.queue.length), Good p.queue[i]) (hT : 0 ≤ p.tags ∧ p.tags ≤ 4000000000000000000) (hM : 0 ≤ p.moment ∧ p.moment ≤ 1000000000) (pl : Int) (hpl : 0 ≤ pl ∧ pl ≤ 31) (wr : Bool) (data : List ByteArray) (hdl : data.length ≤ 4) (da : Option Addr) (dc : Nat) (hd : StrsAt w da data) (hdn : da = none → dc = 0)
    (hoff : data ≠ [] → ∀ ad, da = some ad → ¬ A.off s ad.block) (gr : ∀ tb, Good (askR p pl wr data da dc tb) ∧ faultR (askR p pl wr data da dc tb) = 0) :
    Calls Tryz.prog 53 #[.pointer (some ⟨s, 0, none⟩), .int .i64 pl, .bool wr, .slice da data.length dc] w fun e w' => ∃ p' A', e = .returned (.bool (p.nf.askQ pl wr data).1) ∧ SStep s p A p' A' w w' ∧ p'.nf = (p.nf.askQ pl wr data).2 := by
  have c21 := h.cell 21 _ rfl
  have c26 := h.cell 26 _ rfl
  have c27 := h.cell 27 _ rfl
  have hl := h.lt
  have HQ := hidT h.mem.queue
  have HN := hidT h.mem.qnil
  have HST := hidT h
  have HGL := hidT gl
  have HGR := hidT (gr w.heap.size)
  have HOFF := hidT hoff
  have hwr : IntKind.i64.wrap (p.tags + 1) = p.tags + 1 := by rw [IntKind.wrap_i64]; omega
  have HAT : Hid ((askR p pl wr data da dc w.heap.size).At ((w.alloc (.cells #[.int .i64 (p.tags + 1)] 3)).drew)) := by
    refine ⟨hd.later (by repeat (first | with_reducible exact Below.refl _ _ | with_reducible refine balloc ?_ _ | with_reducible refine bdrew ?_ | with_reducible refine bset' ?_ (by omega) _ | with_reducible refine bthen ?_ (by assumption))), Or.inr ⟨w.heap.size, 0, rfl, fun i hi => ?_⟩, by show data.length ≤ _; omega, by show 1 ≤ _; omega, ?_, ?_, ?_, hdn, fun e => by cases e⟩
    · obtain rfl : i = 0 := by simp [askR] at hi; omega
      show (w.alloc (.cells #[.int .i64 (p.tags + 1)] 3)).cell? ⟨w.heap.size, 0, none⟩ = some (.int .i64 (p.tags + 1))
      simp
    · show In64 pl; unfold In64; omega
    · show In64 1; unfold In64; omega
    · show In64 p.moment; unfold In64; omega
  clear h gl gr hoff hd
  have hask : p.nf.askQ pl wr data = match addF (p.queue.map Rq.nf) (askR p pl wr data da dc w.heap.size).nf with
    | some l => (true, { p.nf with queue := l, tags := p.tags + 1 })
    | none => (false, p.nf) := rfl
  cases hF : addF (p.queue.map Rq.nf) (askR p pl wr data da dc w.heap.size).nf with
  | none =>
    rw [hF] at hask
    simp only at hask
    rw [hask]
    have HF := hidT hF
    clear hF hask
    go_enter Tryz.func53, Tryz.ntmps53
    go_wp2_with fail
    go_region_held3 (fun w' => w'.cell? ⟨s, 21, none⟩ = some (.slice A.qa p.queue.length A.qc) ∧ w'.cell? ⟨s, 26, none⟩ = some (.int .i64 p.moment) ∧ w'.cell? ⟨s, 27, none⟩ = some (.int .i64 p.tags)) (exact ⟨cellB_later' (w := w) (by repeat (first | with_reducible exact Below.refl _ _ | with_reducible refine balloc ?_ _ | with_reducible refine bdrew ?_ | with_reducible refine bset' ?_ (by omega) _ | with_reducible refine bthen ?_ (by assumption))) c21, cellB_later' (w := w) (by repeat (first | with_reducible exact Below.refl _ _ | with_reducible refine balloc ?_ _ | with_reducible refine bdrew ?_ | with_reducible refine bset' ?_ (by omega) _ | with_reducible refine bthen ?_ (by assumption))) c26, cellB_later' (w := w) (by repeat (first | with_reducible exact Below.refl _ _ | with_reducible refine balloc ?_ _ | with_reducible refine bdrew ?_ | with_reducible refine bset' ?_ (by omega) _ | with_reducible refine bthen ?_ (by assumption))) c27⟩) (first | (go_at_call 73; refine (add_none p.queue A.qa A.qc (askR p pl wr data da dc w.heap.size) ((w.alloc (.cells #[.int .i64 (p.tags + 1)] 3)).drew) (HQ.out.later (by repeat (first | with_reducible exact Below.refl _ _ | with_reducible refine balloc ?_ _ | with_reducible refine bdrew ?_ | with_reducible refine bset' ?_ (by omega) _ | with_reducible refine bthen ?_ (by assumption)))) HN.out HAT.out hq HGR.out.1 HGR.out.2 HGL.out HF.out).mono ?_; rintro e w2 ⟨n, rfl, hb2⟩))
    all_goals
      have HB2 : Hid (Below w.heap.size w w2) := (show Below w.heap.size w w2 by repeat (first | with_reducible exact Below.refl _ _ | with_reducible refine balloc ?_ _ | with_reducible refine bdrew ?_ | with_reducible refine bset' ?_ (by omega) _ | with_reducible refine bthen ?_ (by assumption)))
      go_wp2
      go_ret
      exact ⟨p, A, rfl, SStep.same' HST.out (by have := HB2.out; (repeat (first | with_reducible exact Below.refl _ _ | with_reducible refine balloc ?_ _ | with_reducible refine bdrew ?_ | with_reducible refine bset' ?_ (by omega) _ | with_reducible refine bthen ?_ (by assumption)))), rfl⟩
  | some L' =>
    rw [hF] at hask
    simp only at hask
    rw [hask]
    have HF := hidT hF
    clear hF hask
    go_enter Tryz.func53, Tryz.ntmps53
    go_wp2_with fail
    go_region_held3 (fun w' => w'.cell? ⟨s, 21, none⟩ = some (.slice A.qa p.queue.length A.qc) ∧ w'.cell? ⟨s, 26, none⟩ = some (.int .i64 p.moment) ∧ w'.cell? ⟨s, 27, none⟩ = some (.int .i64 p.tags)) (exact ⟨cellB_later' (w := w) (by repeat (first | with_reducible exact Below.refl _ _ | with_reducible refine balloc ?_ _ | with_reducible refine bdrew ?_ | with_reducible refine bset' ?_ (by omega) _ | with_reducible refine bthen ?_ (by assumption))) c21, cellB_later' (w := w) (by repeat (first | with_reducible exact Below.refl _ _ | with_reducible refine balloc ?_ _ | with_reducible refine bdrew ?_ | with_reducible refine bset' ?_ (by omega) _ | with_reducible refine bthen ?_ (by assumption))) c26, cellB_later' (w := w) (by repeat (first | with_reducible exact Below.refl _ _ | with_reducible refine balloc ?_ _ | with_reducible refine bdrew ?_ | with_reducible refine bset' ?_ (by omega) _ | with_reducible refine bthen ?_ (by assumption))) c27⟩) (first | (go_at_call 73; refine (add_some p.queue A.qa A.qc (askR p pl wr data da dc w.heap.size) ((w.alloc (.cells #[.int .i64 (p.tags + 1)] 3)).drew) (HQ.out.later (by repeat (first | with_reducible exact Below.refl _ _ | with_reducible refine balloc ?_ _ | with_reducible refine bdrew ?_ | with_reducible refine bset' ?_ (by omega) _ | with_reducible refine bthen ?_ (by assumption)))) HN.out HAT.out hq HGR.out.1 HGL.out L' HF.out).mono ?_; rintro e w2 ⟨L, a', c', rfl, hadd, hb2⟩; have HA := hidT hadd; clear hadd))
    all_goals
      have HB2 : Hid (Below w.heap.size w w2) := (show Below w.heap.size w w2 by repeat (first | with_reducible exact Below.refl _ _ | with_reducible refine balloc ?_ _ | with_reducible refine bdrew ?_ | with_reducible refine bset' ?_ (by omega) _ | with_reducible refine bthen ?_ (by assumption)))
      have HS2 := hidT (SStep.same' HST.out HB2.out)
      have g21 := HS2.out.at'.cell 21 _ rfl
      have g27 := HS2.out.at'.cell 27 _ rfl
      have f21 := HS2.out.at'.fz 21
      have f27 := HS2.out.at'.fz 27
      have l2 := HS2.out.at'.lt
      have HX : Hid (SStep s p A { p with queue := L, tags := p.tags + 1 } { A with qa := a', qc := c' } w ((w2.setCell ⟨s, 21, none⟩ (.slice a' L.length c')).setCell ⟨s, 27, none⟩ (.int .i64 (p.tags + 1)))) := by
        obtain ⟨h1, -, h3, h4, h5, h6⟩ := HA.out
        have hz : w.heap.size < ((w.alloc (.cells #[.int .i64 (p.tags + 1)] 3)).drew).heap.size := by simp
        refine HS2.out.trans (HS2.out.at'.setQueue L a' c' (p.tags + 1) h3 h4 h5 (fun _ q hq' e => ?_) (fun r hr => ?_))
        · have := h6 q hq'
          have := HST.out.offLt _ e
          omega
        · rcases h1 with ⟨k, hk, q, _, _, _, hf, rfl⟩ | ⟨_, _, rfl⟩
          · rcases List.mem_or_eq_of_mem_set hr with hr' | rfl
            · exact HST.out.mem.roffX r (List.mem_append_left _ hr')
            · exact fresh_off (h3.2.1 r hr) hf (fun k' hk' => by have := HST.out.offLt _ hk'; omega)
          · rcases List.mem_append.1 hr with hr' | hr'
            · exact HST.out.mem.roffX r (List.mem_append_left _ hr')
            · rw [List.mem_singleton.1 hr']
              refine ⟨HOFF.out, fun _ ad ha e => ?_⟩
              have hlt := HST.out.offLt _ e
              simp only [askR, Option.some.injEq] at ha
              subst ha
              exact absurd hlt (Nat.lt_irrefl _)
      have HL : Hid (L' = L.map Rq.nf) := HA.out.2.1
      clear hb2 HA HS2 HST HAT
      go_wp2
      go_ret
      exact ⟨_, _, rfl, HX.out, by rw [HL.out]; rfl⟩
end Go.Proofs.YtgjkdhedkbkagaaGreat
