/- GoodBufs; what is held. -/
import Derived.Test.YtpmjgofjdejeeacCache3
namespace Go.Proofs.Ytpmjgofjdejeeac
open Go.RowKit Go.BigFrame
attribute [local go_sem] Later.cell Later.frozen

def okAtB (l : List Bf) (i : Nat) : Bool := match l[i]? with | some x => decide (0 ≤ x.pl) && (decide (x.pl ≤ 31) && decide (x.data.size ≤ 10)) | none => true
def riseAt (l : List Bf) : Nat → Bool
  | 0 => true
  | i + 1 => match l[i]?, l[i + 1]? with | some x, some y => decide (x.pl < y.pl) | _, _ => true
def rowG (l : List Bf) (i : Nat) : Bool := okAtB l i && riseAt l i
def goodBB (l : List Bf) : Bool := decide (l.length ≤ 8) && (List.range l.length).all (rowG l)

theorem rangeB_step {p : Nat → Bool} {k : Nat} (h : (List.range k).all p = true) (hk : p k = true) : (List.range (k + 1)).all p = true := by
  rw [List.range_succ, List.all_append, h]; simp [hk]
theorem rangeB_stop {p : Nat → Bool} {k n : Nat} (h : k < n) (hk : p k = false) : (List.range n).all p = false := by
  rw [List.all_eq_false]; exact ⟨k, by simpa using h, by rw [hk]; exact Bool.false_ne_true⟩

/-- They rise, are of sectors that there are, and not too many. -/
structure GoodB (l : List Bf) : Prop where
  len : l.length ≤ 8
  ok : ∀ i (h : i < l.length), 0 ≤ l[i].pl ∧ l[i].pl ≤ 31 ∧ l[i].data.size ≤ 10
  rise : ∀ i (h : i + 1 < l.length), l[i].pl < l[i + 1].pl
theorem goodB_of {l : List Bf} (h : goodBB l = true) : GoodB l := by
  simp only [goodBB, Bool.and_eq_true, decide_eq_true_eq, List.all_eq_true, List.mem_range, rowG] at h
  obtain ⟨h1, h2⟩ := h
  refine ⟨h1, fun i hi => ?_, fun i hi => ?_⟩
  · have := (h2 i hi).1
    simp only [okAtB, List.getElem?_eq_getElem hi, Bool.and_eq_true, decide_eq_true_eq] at this
    exact ⟨this.1, this.2.1, this.2.2⟩
  · have := (h2 (i + 1) hi).2
    simp only [riseAt, List.getElem?_eq_getElem hi, List.getElem?_eq_getElem (show i < l.length by omega), decide_eq_true_eq] at this
    exact this
theorem GoodB.lt {l : List Bf} (h : GoodB l) : ∀ (d i : Nat) (hj : i + d + 1 < l.length), l[i].pl < l[i + d + 1].pl := by
  intro d
  induction d with
  | zero => intro i hj; exact h.rise i hj
  | succ d ih =>
    intro i hj
    have a := ih i (by omega)
    have b := h.rise (i + d + 1) (by omega)
    have e : i + (d + 1) + 1 = i + d + 1 + 1 := by omega
    simp only [e]
    omega
theorem GoodB.lt' {l : List Bf} (h : GoodB l) (i j : Nat) (hij : i < j) (hj : j < l.length) : (l[i]'(by omega)).pl < l[j].pl := by
  have := h.lt (j - i - 1) i (by omega)
  have e : i + (j - i - 1) + 1 = j := by omega
  simp only [e] at this
  exact this
theorem GoodB.once {l : List Bf} (h : GoodB l) : OnceB l := by
  intro i j hi hj e
  rcases Nat.lt_trichotomy i j with h' | h' | h'
  · have := h.lt' i j h' hj; omega
  · exact h'
  · have := h.lt' j i h' hi; omega

set_option maxHeartbeats 400000 in
theorem goodb_long (l : List Bf) (a : Option Addr) (c : Nat) (w : World) (hl : BufsAt w a l) (h : 8 < l.length) :
    Calls Try.prog 33 #[.slice a l.length c] w fun e w' => e = .returned (.bool false) ∧ Below w.heap.size w w' := by
  have hb3 := hl.2
  go_enter Try.func33, Try.ntmps33
  go_wp2
  go_ret
  exact ⟨rfl, by repeat (first | with_reducible exact Below.refl _ _ | with_reducible refine balloc ?_ _ | with_reducible refine bdrew ?_ | with_reducible refine bset' ?_ (by omega) _ | with_reducible refine bthen ?_ (by assumption))⟩

set_option maxRecDepth 100000 in
set_option maxHeartbeats 4000000 in
theorem goodb_short (l : List Bf) (a : Option Addr) (c : Nat) (w : World) (hl : BufsAt w a l) (h8 : l.length ≤ 8) :
    Calls Try.prog 33 #[.slice a l.length c] w fun e w' => e = .returned (.bool ((List.range l.length).all (rowG l))) ∧ Below w.heap.size w w' := by
  rcases hl.form with rfl | ⟨b, o, rfl⟩
  · go_enter Try.func33, Try.ntmps33; go_wp2; go_loop [3] (fun i => i = .int .i64 0) (fun _ => 0); (case atStart => rfl); (case round => subst hrel; go_wp2; go_ret; exact ⟨rfl, by repeat (first | with_reducible exact Below.refl _ _ | with_reducible refine balloc ?_ _ | with_reducible refine bdrew ?_ | with_reducible refine bset' ?_ (by omega) _ | with_reducible refine bthen ?_ (by assumption))⟩)
  go_enter Try.func33, Try.ntmps33
  go_wp2
  go_loopw [3] (fun i wr => ∃ k : Nat, k ≤ l.length ∧ i = .int .i64 k ∧ (List.range k).all (rowG l) = true ∧ Below w.heap.size w wr) (fun i _ => l.length - (intOf i).toNat)
  case atStart => exact ⟨0, by omega, rfl, rfl, Below.refl _ _⟩
  case round =>
    obtain ⟨k, hk, rfl, hall, HB⟩ := hrel
    have HL := hidB hall
    clear hall
    by_cases hlt : k < l.length
    · obtain ⟨c0, c1, c2, c3⟩ := hl.cells hlt
      have l0 := ltB_of_cell c0
      have hki : (k : Int) < (l.length : Int) := by omega
      have hk0 : (0 : Int) ≤ (k : Int) := by omega
      by_cases h1 : l[k].pl < 0
      · have HG : Hid (rowG l k = false) := by simp only [Hid, rowG, okAtB, List.getElem?_eq_getElem hlt]; rw [decide_eq_false (show ¬ 0 ≤ l[k].pl by omega)]; rfl
        have g1 : decide (l[k].pl < 0) = true := decide_eq_true h1
        go_wp2_with fail
        refine wp_region_later (by first | exact HB | exact bdrew HB | exact Below.refl _ _) (by kernel_rfl) (by kernel_rfl) ?_
        repeat (go_big_quiet_step (first | exact rfl | fail))
        refine wpQuiet_nil ?_; intro _ hw'; obtain ⟨p, hw''⟩ := hw'; subst hw''; (try clear hc hf hz); (try clear HB); have HB := p.below; obtain ⟨hc, hf, hz⟩ := bcell HB
        go_wp2
        go_ret
        exact ⟨ret_bool (rangeB_stop hlt HG.out).symm, by repeat (first | with_reducible exact Below.refl _ _ | with_reducible refine balloc ?_ _ | with_reducible refine bdrew ?_ | with_reducible refine bset' ?_ (by omega) _ | with_reducible refine bthen ?_ (by assumption))⟩
      have g1 : decide (l[k].pl < 0) = false := decide_eq_false h1
      by_cases h2 : 31 < l[k].pl
      · have HG : Hid (rowG l k = false) := by simp only [Hid, rowG, okAtB, List.getElem?_eq_getElem hlt]; rw [decide_eq_false (show ¬ l[k].pl ≤ 31 by omega)]; simp
        have g2 : decide (31 < l[k].pl) = true := decide_eq_true h2
        go_wp2_with fail
        refine wp_region_later (by first | exact HB | exact bdrew HB | exact Below.refl _ _) (by kernel_rfl) (by kernel_rfl) ?_
        repeat (go_big_quiet_step (first | exact rfl | fail))
        refine wpQuiet_nil ?_; intro _ hw'; obtain ⟨p, hw''⟩ := hw'; subst hw''; (try clear hc hf hz); (try clear HB); have HB := p.below; obtain ⟨hc, hf, hz⟩ := bcell HB
        go_wp2
        go_ret
        exact ⟨ret_bool (rangeB_stop hlt HG.out).symm, by repeat (first | with_reducible exact Below.refl _ _ | with_reducible refine balloc ?_ _ | with_reducible refine bdrew ?_ | with_reducible refine bset' ?_ (by omega) _ | with_reducible refine bthen ?_ (by assumption))⟩
      have g2 : decide (31 < l[k].pl) = false := decide_eq_false h2
      by_cases h3 : 10 < l[k].data.size
      · have HG : Hid (rowG l k = false) := by simp only [Hid, rowG, okAtB, List.getElem?_eq_getElem hlt]; rw [decide_eq_false (show ¬ l[k].data.size ≤ 10 by omega)]; simp
        have g3 : decide (10 < (l[k].data.size : Int)) = true := decide_eq_true (by omega)
        have g3' : decide (10 < l[k].data.size) = true := decide_eq_true (by omega)
        go_wp2_with fail
        refine wp_region_later (by first | exact HB | exact bdrew HB | exact Below.refl _ _) (by kernel_rfl) (by kernel_rfl) ?_
        repeat (go_big_quiet_step (first | exact rfl | fail))
        refine wpQuiet_nil ?_; intro _ hw'; obtain ⟨p, hw''⟩ := hw'; subst hw''; (try clear hc hf hz); (try clear HB); have HB := p.below; obtain ⟨hc, hf, hz⟩ := bcell HB
        go_wp2
        go_ret
        exact ⟨ret_bool (rangeB_stop hlt HG.out).symm, by repeat (first | with_reducible exact Below.refl _ _ | with_reducible refine balloc ?_ _ | with_reducible refine bdrew ?_ | with_reducible refine bset' ?_ (by omega) _ | with_reducible refine bthen ?_ (by assumption))⟩
      have g3 : decide (10 < (l[k].data.size : Int)) = false := decide_eq_false (by omega)
      have g3' : decide (10 < l[k].data.size) = false := decide_eq_false (by omega)
      have HO : Hid (okAtB l k = true) := by
        simp only [Hid, okAtB, List.getElem?_eq_getElem hlt]; rw [decide_eq_true (show 0 ≤ l[k].pl by omega), decide_eq_true (show l[k].pl ≤ 31 by omega), decide_eq_true (show l[k].data.size ≤ 10 by omega)]; rfl
      clear h1 h2 h3
      cases k with
      | zero =>
        have g4 : decide ((0 : Int) < ((0 : Nat) : Int)) = false := rfl
        simp only [Nat.zero_mul, Nat.add_zero] at c0 c1 c2 c3
        go_wp2_with fail
        refine wp_region_later (by first | exact HB | exact bdrew HB | exact Below.refl _ _) (by kernel_rfl) (by kernel_rfl) ?_
        repeat (go_big_quiet_step (first | exact rfl | fail))
        refine wpQuiet_nil ?_; intro _ hw'; obtain ⟨p, hw''⟩ := hw'; subst hw''; (try clear hc hf hz); (try clear HB); have HB := p.below; obtain ⟨hc, hf, hz⟩ := bcell HB
        go_wp2
        go_roundw
        case rel => exact ⟨1, by omega, by go_num, rangeB_step HL.out (by rw [rowG, HO.out]; rfl), HB⟩
        case measure => simp [intOf]; omega
      | succ j =>
        have hjl : j < l.length := by omega
        obtain ⟨d0, d1, d2, d3⟩ := hl.cells hjl
        have g4 : decide ((0 : Int) < (j : Int) + 1) = true := decide_eq_true (by omega)
        have g5 : IntKind.i64.wrap ((j : Int) + 1 - 1) = (j : Int) := by rw [IntKind.wrap_i64]; omega
        have hj0 : (0 : Int) ≤ (j : Int) := by omega
        have hj1 : (j : Int) < (l.length : Int) := by omega
        by_cases h6 : l[j + 1].pl ≤ l[j].pl
        · have HG : Hid (rowG l (j + 1) = false) := by
            simp only [Hid, rowG, riseAt, List.getElem?_eq_getElem hlt, List.getElem?_eq_getElem hjl]; rw [decide_eq_false (show ¬ l[j].pl < l[j + 1].pl by omega)]; simp
          have g6 : decide (l[j + 1].pl ≤ l[j].pl) = true := decide_eq_true h6
          go_wp2_with fail
          refine wp_region_later (by first | exact HB | exact bdrew HB | exact Below.refl _ _) (by kernel_rfl) (by kernel_rfl) ?_
          repeat (go_big_quiet_step (first | exact rfl | fail))
          refine wpQuiet_nil ?_; intro _ hw'; obtain ⟨p, hw''⟩ := hw'; subst hw''; (try clear hc hf hz); (try clear HB); have HB := p.below; obtain ⟨hc, hf, hz⟩ := bcell HB
          go_wp2
          go_ret
          exact ⟨ret_bool (rangeB_stop hlt HG.out).symm, by repeat (first | with_reducible exact Below.refl _ _ | with_reducible refine balloc ?_ _ | with_reducible refine bdrew ?_ | with_reducible refine bset' ?_ (by omega) _ | with_reducible refine bthen ?_ (by assumption))⟩
        · have HG : Hid (rowG l (j + 1) = true) := by
            rw [Hid, rowG, HO.out]; simp only [riseAt, List.getElem?_eq_getElem hlt, List.getElem?_eq_getElem hjl]; rw [decide_eq_true (show l[j].pl < l[j + 1].pl by omega)]; rfl
          have g6 : decide (l[j + 1].pl ≤ l[j].pl) = false := decide_eq_false h6
          go_wp2_with fail
          refine wp_region_later (by first | exact HB | exact bdrew HB | exact Below.refl _ _) (by kernel_rfl) (by kernel_rfl) ?_
          repeat (go_big_quiet_step (first | exact rfl | fail))
          refine wpQuiet_nil ?_; intro _ hw'; obtain ⟨p, hw''⟩ := hw'; subst hw''; (try clear hc hf hz); (try clear HB); have HB := p.below; obtain ⟨hc, hf, hz⟩ := bcell HB
          go_wp2
          go_roundw
          case rel => exact ⟨j + 1 + 1, by omega, by go_num, rangeB_step HL.out HG.out, HB⟩
          case measure => simp [intOf]; omega
    · go_wp2
      go_ret
      exact ⟨ret_bool (by rw [show k = l.length by omega] at HL; exact HL.out.symm), HB⟩

theorem goodb_any (l : List Bf) (a : Option Addr) (c : Nat) (w : World) (hl : BufsAt w a l) (t : Bool) (ht : goodBB l = t) :
    Calls Try.prog 33 #[.slice a l.length c] w fun e w' => e = .returned (.bool t) ∧ Below w.heap.size w w' := by
  subst ht
  unfold goodBB
  by_cases h : l.length ≤ 8
  · rw [decide_eq_true h, Bool.true_and]; exact goodb_short l a c w hl h
  · rw [decide_eq_false h, Bool.false_and]; exact goodb_long l a c w hl (by omega)
end Go.Proofs.Ytpmjgofjdejeeac
