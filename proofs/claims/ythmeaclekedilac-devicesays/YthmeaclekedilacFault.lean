/- ReqFault: what is wrong with a request, by B1. -/
import Derived.Test.YthmeaclekedilacReq
import Derived.Test.YthmeaclekedilacSpanRef
namespace Go.Proofs.Ythmeaclekedilac
open Go.RowKit Go.BigFrame
attribute [local go_sem] Later.cell Later.frozen

def shapeBad (r : Rq) : Prop := (r.wr = true ∧ (r.data.length : Int) ≠ r.m) ∨ (r.wr = false ∧ 0 < r.data.length)
def tagsBad (r : Rq) : Prop := r.tags.length < 1 ∨ 4 < r.tags.length
def bornBad (r : Rq) : Prop := r.born < 0 ∨ 1000000000 < r.born
def small4 (r : Rq) : Bool := r.data.all fun s => decide (s.size ≤ 4)
/-- Of a request whose span, shape, tags and birth are all right. -/
structure Fine (r : Rq) : Prop where
  ok : okB r.f r.m 4 = true
  shape : ¬ shapeBad r
  tags : ¬ tagsBad r
  born : ¬ bornBad r

set_option maxHeartbeats 400000 in
theorem rfault_span (r : Rq) (w : World) (h : okB r.f r.m 4 = false) :
    Calls Try.prog 12 #[r.val] w fun e w' => e = .returned (.int .i64 1) ∧ Below w.heap.size w w' := by
  obtain ⟨wr, f, m, da, dc, data, ta, tc, tags, born⟩ := r
  simp only [Rq.val]
  simp only at h
  go_enter Try.func12, Try.ntmps12
  go_wp2_with (go_at_call 55; refine (fault_no _ _ _ _ h).mono ?_; rintro e w1 ⟨rfl, hb⟩; (try clear hc hf hz); (first | replace HB := bthen HB hb | replace HB := bthen (bdrew HB) hb | have HB := hb); clear hb; obtain ⟨hc, hf, hz⟩ := bcell HB)
  go_ret
  exact ⟨rfl, by repeat (first | with_reducible exact Below.refl _ _ | with_reducible refine balloc ?_ _ | with_reducible refine bdrew ?_ | with_reducible refine bset' ?_ (by omega) _ | with_reducible refine bthen ?_ (by assumption))⟩

set_option maxHeartbeats 1000000 in
theorem rfault_shape (r : Rq) (w : World) (hr : r.At w) (h : okB r.f r.m 4 = true) (h2 : shapeBad r) :
    Calls Try.prog 12 #[r.val] w fun e w' => e = .returned (.int .i64 3) ∧ Below w.heap.size w w' := by
  obtain ⟨wr, f, m, da, dc, data, ta, tc, tags, born⟩ := r
  have l1 := hr.dl
  simp only [Rq.val]
  simp only [shapeBad] at h h2 l1
  rcases h2 with ⟨rfl, h2⟩ | ⟨rfl, h2⟩
  · have h3 : ((data.length : Int) != m) = true := by simp only [bne_iff_ne]; exact h2
    go_enter Try.func12, Try.ntmps12
    go_wp2_with (go_at_call 55; refine (fault_yes _ _ _ _ h).mono ?_; rintro e w1 ⟨rfl, hb⟩; (try clear hc hf hz); (first | replace HB := bthen HB hb | replace HB := bthen (bdrew HB) hb | have HB := hb); clear hb; obtain ⟨hc, hf, hz⟩ := bcell HB)
    go_ret
    exact ⟨rfl, by repeat (first | with_reducible exact Below.refl _ _ | with_reducible refine balloc ?_ _ | with_reducible refine bdrew ?_ | with_reducible refine bset' ?_ (by omega) _ | with_reducible refine bthen ?_ (by assumption))⟩
  · go_enter Try.func12, Try.ntmps12
    go_wp2_with (go_at_call 55; refine (fault_yes _ _ _ _ h).mono ?_; rintro e w1 ⟨rfl, hb⟩; (try clear hc hf hz); (first | replace HB := bthen HB hb | replace HB := bthen (bdrew HB) hb | have HB := hb); clear hb; obtain ⟨hc, hf, hz⟩ := bcell HB)
    go_ret
    exact ⟨rfl, by repeat (first | with_reducible exact Below.refl _ _ | with_reducible refine balloc ?_ _ | with_reducible refine bdrew ?_ | with_reducible refine bset' ?_ (by omega) _ | with_reducible refine bthen ?_ (by assumption))⟩

set_option maxHeartbeats 1000000 in
theorem rfault_tags (r : Rq) (w : World) (hr : r.At w) (h : okB r.f r.m 4 = true) (h2 : ¬ shapeBad r) (h3 : tagsBad r) :
    Calls Try.prog 12 #[r.val] w fun e w' => e = .returned (.int .i64 3) ∧ Below w.heap.size w w' := by
  obtain ⟨wr, f, m, da, dc, data, ta, tc, tags, born⟩ := r
  have l1 := hr.dl
  have l2 := hr.tl
  simp only [Rq.val]
  simp only [shapeBad, tagsBad] at h h2 h3 l1 l2
  have h2' : (wr = true ∧ ((data.length : Int) != m) = false) ∨ (wr = false ∧ ¬ (0 : Int) < (data.length : Int)) := by
    cases wr
    · right; refine ⟨rfl, fun h' => h2 (Or.inr ⟨rfl, by omega⟩)⟩
    · left; refine ⟨rfl, ?_⟩; rw [bne_eq_false_iff_eq]; rcases Int.decEq (data.length : Int) m with h' | h'; exact absurd (Or.inl ⟨rfl, h'⟩) h2; exact h'
  clear h2
  rcases h3 with h3 | h3
  all_goals
    rcases h2' with ⟨rfl, h3'⟩ | ⟨rfl, h3'⟩
    all_goals
      go_enter Try.func12, Try.ntmps12
      go_wp2_with (go_at_call 55; refine (fault_yes _ _ _ _ h).mono ?_; rintro e w1 ⟨rfl, hb⟩; (try clear hc hf hz); (first | replace HB := bthen HB hb | replace HB := bthen (bdrew HB) hb | have HB := hb); clear hb; obtain ⟨hc, hf, hz⟩ := bcell HB)
      go_ret
      exact ⟨rfl, by repeat (first | with_reducible exact Below.refl _ _ | with_reducible refine balloc ?_ _ | with_reducible refine bdrew ?_ | with_reducible refine bset' ?_ (by omega) _ | with_reducible refine bthen ?_ (by assumption))⟩

set_option maxHeartbeats 1000000 in
theorem rfault_born (r : Rq) (w : World) (hr : r.At w) (h : okB r.f r.m 4 = true) (h2 : ¬ shapeBad r) (h3 : ¬ tagsBad r) (h4 : bornBad r) :
    Calls Try.prog 12 #[r.val] w fun e w' => e = .returned (.int .i64 1) ∧ Below w.heap.size w w' := by
  obtain ⟨wr, f, m, da, dc, data, ta, tc, tags, born⟩ := r
  have l1 := hr.dl
  have l2 := hr.tl
  simp only [Rq.val]
  simp only [shapeBad, tagsBad, bornBad] at h h2 h3 h4 l1 l2
  have h2' : (wr = true ∧ ((data.length : Int) != m) = false) ∨ (wr = false ∧ ¬ (0 : Int) < (data.length : Int)) := by
    cases wr
    · right; refine ⟨rfl, fun h' => h2 (Or.inr ⟨rfl, by omega⟩)⟩
    · left; refine ⟨rfl, ?_⟩; rw [bne_eq_false_iff_eq]; rcases Int.decEq (data.length : Int) m with h' | h'; exact absurd (Or.inl ⟨rfl, h'⟩) h2; exact h'
  clear h2
  have t1 : ¬ tags.length < 1 := fun h' => h3 (Or.inl h')
  have t2 : ¬ 4 < tags.length := fun h' => h3 (Or.inr h')
  clear h3
  rcases h4 with h4 | h4
  all_goals
    rcases h2' with ⟨rfl, h3'⟩ | ⟨rfl, h3'⟩
    all_goals
      go_enter Try.func12, Try.ntmps12
      go_wp2_with (go_at_call 55; refine (fault_yes _ _ _ _ h).mono ?_; rintro e w1 ⟨rfl, hb⟩; (try clear hc hf hz); (first | replace HB := bthen HB hb | replace HB := bthen (bdrew HB) hb | have HB := hb); clear hb; obtain ⟨hc, hf, hz⟩ := bcell HB)
      go_ret
      exact ⟨rfl, by repeat (first | with_reducible exact Below.refl _ _ | with_reducible refine balloc ?_ _ | with_reducible refine bdrew ?_ | with_reducible refine bset' ?_ (by omega) _ | with_reducible refine bthen ?_ (by assumption))⟩

set_option maxHeartbeats 2000000 in
theorem rfault_data (r : Rq) (w : World) (hr : r.At w) (hfine : Fine r) :
    Calls Try.prog 12 #[r.val] w fun e w' => e = .returned (.int .i64 (faultB (small4 r))) ∧ Below w.heap.size w w' := by
  obtain ⟨h, h2, h3, h4⟩ := hfine
  obtain ⟨wr, f, m, da, dc, data, ta, tc, tags, born⟩ := r
  have l1 := hr.dl
  have l2 := hr.tl
  simp only [Rq.val]
  simp only [shapeBad, tagsBad, bornBad] at h h2 h3 h4 l1 l2
  have h2' : (wr = true ∧ ((data.length : Int) != m) = false) ∨ (wr = false ∧ ¬ (0 : Int) < (data.length : Int)) := by
    cases wr
    · right; refine ⟨rfl, fun h' => h2 (Or.inr ⟨rfl, by omega⟩)⟩
    · left; refine ⟨rfl, ?_⟩; rw [bne_eq_false_iff_eq]; rcases Int.decEq (data.length : Int) m with h' | h'; exact absurd (Or.inl ⟨rfl, h'⟩) h2; exact h'
  clear h2
  have hs := hr.data
  simp only at hs
  have t1 : ¬ tags.length < 1 := fun h' => h3 (Or.inl h')
  have t2 : ¬ 4 < tags.length := fun h' => h3 (Or.inr h')
  have t3 : ¬ born < 0 := fun h' => h4 (Or.inl h')
  have t4 : ¬ 1000000000 < born := fun h' => h4 (Or.inr h')
  clear h3 h4 hr
  simp only [small4]
  rcases h2' with ⟨rfl, h3'⟩ | ⟨rfl, h3'⟩
  · rcases hs with rfl | ⟨b, o, rfl, hcell⟩
    · exfalso
      simp only [okB, decide_eq_true_eq] at h
      simp only [List.length_nil, bne_eq_false_iff_eq] at h3'
      omega
    · have HA : Hid (∀ i, i < data.length → w.cell? ⟨b, o + i, none⟩ = some (.string (data.getD i ByteArray.empty))) := hcell
      clear hcell
      go_enter Try.func12, Try.ntmps12
      go_wp2_with (go_at_call 55; refine (fault_yes _ _ _ _ h).mono ?_; rintro e w1 ⟨rfl, hb⟩; (try clear hc hf hz); (first | replace HB := bthen HB hb | replace HB := bthen (bdrew HB) hb | have HB := hb); clear hb; obtain ⟨hc, hf, hz⟩ := bcell HB)
      go_loopw [4] (fun i wr => ∃ k : Nat, k ≤ data.length ∧ i = .int .i64 k ∧ (data.take k).all (fun s => decide (s.size ≤ 4)) = true ∧ wr = w1) (fun i _ => data.length - (intOf i).toNat)
      case atStart => exact ⟨0, by omega, rfl, by simp, rfl⟩
      case round =>
        clear h l2 t1 t2 t3 t4
        obtain ⟨k, hk, rfl, hall, rfl⟩ := hrel
        have HL : Hid ((data.take k).all (fun s => decide (s.size ≤ 4)) = true) := hall
        clear hall
        by_cases hlt : k < data.length
        · have hck := HA.out k hlt
          have hcl := alloc_cell hck
          have l0 := lt_of_cell hck
          go_wp2
          · go_ret
            exact ⟨ret_int (by rw [all_stop hlt (by simp only [decide_eq_false_iff_not]; omega)]; rfl), by repeat (first | with_reducible exact Below.refl _ _ | with_reducible refine balloc ?_ _ | with_reducible refine bdrew ?_ | with_reducible refine bset' ?_ (by omega) _ | with_reducible refine bthen ?_ (by assumption))⟩
          · go_roundw
            case rel => exact ⟨k + 1, by omega, by go_num, all_take hlt HL.out (by simp only [decide_eq_true_eq]; omega), trivial⟩
            case measure => simp [intOf]; omega
        · go_wp2
          go_ret
          exact ⟨ret_int (by rw [all_end (by omega) HL.out]; rfl), by repeat (first | with_reducible exact Below.refl _ _ | with_reducible refine balloc ?_ _ | with_reducible refine bdrew ?_ | with_reducible refine bset' ?_ (by omega) _ | with_reducible refine bthen ?_ (by assumption))⟩
  · obtain rfl : data = [] := List.eq_nil_of_length_eq_zero (by omega)
    go_enter Try.func12, Try.ntmps12
    go_wp2_with (go_at_call 55; refine (fault_yes _ _ _ _ h).mono ?_; rintro e w1 ⟨rfl, hb⟩; (try clear hc hf hz); (first | replace HB := bthen HB hb | replace HB := bthen (bdrew HB) hb | have HB := hb); clear hb; obtain ⟨hc, hf, hz⟩ := bcell HB)
    go_loop [4] (fun i => i = .int .i64 0) (fun _ => 0)
    case atStart => rfl
    case round =>
      subst hrel
      go_wp2
      go_ret
      exact ⟨rfl, by repeat (first | with_reducible exact Below.refl _ _ | with_reducible refine balloc ?_ _ | with_reducible refine bdrew ?_ | with_reducible refine bset' ?_ (by omega) _ | with_reducible refine bthen ?_ (by assumption))⟩

end Go.Proofs.Ythmeaclekedilac
