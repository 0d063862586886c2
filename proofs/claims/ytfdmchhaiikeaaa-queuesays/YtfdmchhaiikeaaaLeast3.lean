/- Oldest and From of the document's answer. -/
import Derived.Test.YtfdmchhaiikeaaaLeast
namespace Go.Proofs.Ytfdmchhaiikeaaa
open Go.RowKit Go.BigFrame
attribute [local go_sem] Later.cell Later.frozen

set_option maxHeartbeats 2000000 in
theorem roldest_any (l : List Rq) (a : Option Addr) (c : Nat) (b' : Bool) (w : World) (hl : ReqsAt w a l) :
    Calls Try.prog 25 #[.slice a l.length c, .bool b'] w fun e w' => e = .returned (.int .i64 (leastI (oldF b') Rq.born l l.length)) ∧ Below w.heap.size w w' := by
  have hb3 := hl.2.2
  rcases hl.form with rfl | ⟨b, o, rfl⟩
  · go_enter Try.func25, Try.ntmps25
    go_wp2
    go_loop [5, 6] (fun bi i => i = .int .i64 0 ∧ bi = .int .i64 (-1)) (fun _ _ => 0)
    case atStart => exact ⟨rfl, rfl⟩
    case round =>
      obtain ⟨rfl, rfl⟩ := hrel
      go_wp2
      go_ret
      exact ⟨rfl, by repeat (first | with_reducible exact Below.refl _ _ | with_reducible refine balloc ?_ _ | with_reducible refine bdrew ?_ | with_reducible refine bset' ?_ (by omega) _ | with_reducible refine bthen ?_ (by assumption))⟩
  go_enter Try.func25, Try.ntmps25
  go_wp2
  go_loopw [5, 6] (fun bi i wr => ∃ (k : Nat) (B : Int), k ≤ l.length ∧ i = .int .i64 k ∧ bi = .int .i64 B ∧ leastI (oldF b') Rq.born l k = B ∧ (B = -1 ∨ ∃ j : Nat, B = j ∧ j < k) ∧ Below w.heap.size w wr) (fun _ i _ => l.length - (intOf i).toNat)
  case atStart => exact ⟨0, -1, by omega, rfl, rfl, rfl, Or.inl rfl, Below.refl _ _⟩
  case round =>
    obtain ⟨k, B, hk, rfl, rfl, hB, hcase, HB⟩ := hrel
    have HL : Hid (leastI (oldF b') Rq.born l k = B) := hB
    clear hB
    by_cases hlt : k < l.length
    · obtain ⟨c0, c1, c2, c3, c4, c5⟩ := hl.cells hlt
      have l0 := lt_of_cell c0
      obtain ⟨hc, hf, hz⟩ := bcell HB
      cases hff : (l[k].wr == b')
      · have hcase' := hcase
        clear hcase
        go_wp2_with fail
        refine wp_region_later (by first | exact HB | exact bdrew HB | exact Below.refl _ _) (by kernel_rfl) (by kernel_rfl) ?_
        repeat (go_big_quiet_step (exact rfl))
        refine wpQuiet_nil ?_; intro _ hw'; obtain ⟨p, hw''⟩ := hw'; subst hw''; (try clear hc hf hz); (try clear HB); have HB := p.below; obtain ⟨hc, hf, hz⟩ := bcell HB
        go_wp2
        go_roundw
        case rel => exact ⟨k + 1, B, by omega, by go_num, rfl, least_no hlt (hff) HL.out, hcase'.elim (fun h => Or.inl h) (fun ⟨j, h, hj⟩ => Or.inr ⟨j, h, by omega⟩), HB⟩
        case measure => simp [intOf]; omega
      · have hff' : oldF b' l[k] = true := hff
        rcases hcase with rfl | ⟨j, rfl, hj⟩
        · go_wp2_with fail
          refine wp_region_later (by first | exact HB | exact bdrew HB | exact Below.refl _ _) (by kernel_rfl) (by kernel_rfl) ?_
          repeat (go_big_quiet_step (exact rfl))
          refine wpQuiet_nil ?_; intro _ hw'; obtain ⟨p, hw''⟩ := hw'; subst hw''; (try clear hc hf hz); (try clear HB); have HB := p.below; obtain ⟨hc, hf, hz⟩ := bcell HB
          go_wp2
          go_roundw
          case rel => exact ⟨k + 1, k, by omega, by go_num, rfl, least_first hlt (hff') HL.out, Or.inr ⟨k, rfl, by omega⟩, HB⟩
          case measure => simp [intOf]; omega
        · have hjl : j < l.length := by omega
          have hj0 : decide ((j : Int) < 0) = false := decide_eq_false (by omega)
          obtain ⟨d0, d1, d2, d3, d4, d5⟩ := hl.cells hjl
          by_cases hR : Rq.born l[k] < Rq.born l[j]
          · go_wp2_with fail
            refine wp_region_later (by first | exact HB | exact bdrew HB | exact Below.refl _ _) (by kernel_rfl) (by kernel_rfl) ?_
            repeat (go_big_quiet_step (exact rfl))
            refine wpQuiet_nil ?_; intro _ hw'; obtain ⟨p, hw''⟩ := hw'; subst hw''; (try clear hc hf hz); (try clear HB); have HB := p.below; obtain ⟨hc, hf, hz⟩ := bcell HB
            go_wp2
            go_roundw
            case rel => exact ⟨k + 1, k, by omega, by go_num, rfl, least_lt hlt hjl (hff') HL.out hR, Or.inr ⟨k, rfl, by omega⟩, HB⟩
            case measure => simp [intOf]; omega
          · go_wp2_with fail
            refine wp_region_later (by first | exact HB | exact bdrew HB | exact Below.refl _ _) (by kernel_rfl) (by kernel_rfl) ?_
            repeat (go_big_quiet_step (exact rfl))
            refine wpQuiet_nil ?_; intro _ hw'; obtain ⟨p, hw''⟩ := hw'; subst hw''; (try clear hc hf hz); (try clear HB); have HB := p.below; obtain ⟨hc, hf, hz⟩ := bcell HB
            go_wp2
            go_roundw
            case rel => exact ⟨k + 1, j, by omega, by go_num, rfl, least_ge hlt hjl (hff') HL.out (by omega), Or.inr ⟨j, rfl, by omega⟩, HB⟩
            case measure => simp [intOf]; omega
    · go_wp2
      go_ret
      exact ⟨ret_int (by rw [show l.length = k by omega]; exact HL.out.symm), by repeat (first | with_reducible exact Below.refl _ _ | with_reducible refine balloc ?_ _ | with_reducible refine bdrew ?_ | with_reducible refine bset' ?_ (by omega) _ | with_reducible refine bthen ?_ (by assumption))⟩

set_option maxHeartbeats 2000000 in
theorem rfrom_any (l : List Rq) (a : Option Addr) (c : Nat) (b' : Bool) (a' : Int) (w : World) (hl : ReqsAt w a l) :
    Calls Try.prog 27 #[.slice a l.length c, .bool b', .int .i64 a'] w fun e w' => e = .returned (.int .i64 (leastI (fromF b' a') Rq.f l l.length)) ∧ Below w.heap.size w w' := by
  have hb3 := hl.2.2
  rcases hl.form with rfl | ⟨b, o, rfl⟩
  · go_enter Try.func27, Try.ntmps27
    go_wp2
    go_loop [7, 8] (fun bi i => i = .int .i64 0 ∧ bi = .int .i64 (-1)) (fun _ _ => 0)
    case atStart => exact ⟨rfl, rfl⟩
    case round =>
      obtain ⟨rfl, rfl⟩ := hrel
      go_wp2
      go_ret
      exact ⟨rfl, by repeat (first | with_reducible exact Below.refl _ _ | with_reducible refine balloc ?_ _ | with_reducible refine bdrew ?_ | with_reducible refine bset' ?_ (by omega) _ | with_reducible refine bthen ?_ (by assumption))⟩
  go_enter Try.func27, Try.ntmps27
  go_wp2
  go_loopw [7, 8] (fun bi i wr => ∃ (k : Nat) (B : Int), k ≤ l.length ∧ i = .int .i64 k ∧ bi = .int .i64 B ∧ leastI (fromF b' a') Rq.f l k = B ∧ (B = -1 ∨ ∃ j : Nat, B = j ∧ j < k) ∧ Below w.heap.size w wr) (fun _ i _ => l.length - (intOf i).toNat)
  case atStart => exact ⟨0, -1, by omega, rfl, rfl, rfl, Or.inl rfl, Below.refl _ _⟩
  case round =>
    obtain ⟨k, B, hk, rfl, rfl, hB, hcase, HB⟩ := hrel
    have HL : Hid (leastI (fromF b' a') Rq.f l k = B) := hB
    clear hB
    by_cases hlt : k < l.length
    · obtain ⟨c0, c1, c2, c3, c4, c5⟩ := hl.cells hlt
      have l0 := lt_of_cell c0
      obtain ⟨hc, hf, hz⟩ := bcell HB
      by_cases hw : l[k].wr = b'
      · by_cases hlo : l[k].f < a'
        · have hcase' := hcase
          clear hcase
          go_wp2
          go_roundw
          case rel => exact ⟨k + 1, B, by omega, by go_num, rfl, least_no hlt (by simp only [fromF]; rw [decide_eq_false (by omega), Bool.and_false]) HL.out, hcase'.elim (fun h => Or.inl h) (fun ⟨j, h, hj⟩ => Or.inr ⟨j, h, by omega⟩), HB⟩
          case measure => simp [intOf]; omega
        · have hff' : fromF b' a' l[k] = true := by
            simp only [fromF, hw, beq_self_eq_true, Bool.true_and, decide_eq_true_eq]; omega
          have HF : Hid (fromF b' a' l[k] = true) := hff'
          clear hff'
          rcases hcase with rfl | ⟨j, rfl, hj⟩
          · go_wp2_with fail
            refine wp_region_later (by first | exact HB | exact bdrew HB | exact Below.refl _ _) (by kernel_rfl) (by kernel_rfl) ?_
            repeat (go_big_quiet_step (exact rfl))
            refine wpQuiet_nil ?_; intro _ hw'; obtain ⟨p, hw''⟩ := hw'; subst hw''; (try clear hc hf hz); (try clear HB); have HB := p.below; obtain ⟨hc, hf, hz⟩ := bcell HB
            go_wp2
            go_roundw
            case rel => exact ⟨k + 1, k, by omega, by go_num, rfl, least_first hlt (HF.out) HL.out, Or.inr ⟨k, rfl, by omega⟩, HB⟩
            case measure => simp [intOf]; omega
          · have hjl : j < l.length := by omega
            have hj0 : decide ((j : Int) < 0) = false := decide_eq_false (by omega)
            obtain ⟨d0, d1, d2, d3, d4, d5⟩ := hl.cells hjl
            by_cases hR : Rq.f l[k] < Rq.f l[j]
            · go_wp2_with fail
              refine wp_region_later (by first | exact HB | exact bdrew HB | exact Below.refl _ _) (by kernel_rfl) (by kernel_rfl) ?_
              repeat (go_big_quiet_step (exact rfl))
              refine wpQuiet_nil ?_; intro _ hw'; obtain ⟨p, hw''⟩ := hw'; subst hw''; (try clear hc hf hz); (try clear HB); have HB := p.below; obtain ⟨hc, hf, hz⟩ := bcell HB
              go_wp2
              go_roundw
              case rel => exact ⟨k + 1, k, by omega, by go_num, rfl, least_lt hlt hjl (HF.out) HL.out hR, Or.inr ⟨k, rfl, by omega⟩, HB⟩
              case measure => simp [intOf]; omega
            · go_wp2_with fail
              refine wp_region_later (by first | exact HB | exact bdrew HB | exact Below.refl _ _) (by kernel_rfl) (by kernel_rfl) ?_
              repeat (go_big_quiet_step (exact rfl))
              refine wpQuiet_nil ?_; intro _ hw'; obtain ⟨p, hw''⟩ := hw'; subst hw''; (try clear hc hf hz); (try clear HB); have HB := p.below; obtain ⟨hc, hf, hz⟩ := bcell HB
              go_wp2
              go_roundw
              case rel => exact ⟨k + 1, j, by omega, by go_num, rfl, least_ge hlt hjl (HF.out) HL.out (by omega), Or.inr ⟨j, rfl, by omega⟩, HB⟩
              case measure => simp [intOf]; omega
      · have hcase' := hcase
        clear hcase
        go_wp2
        go_roundw
        case rel => exact ⟨k + 1, B, by omega, by go_num, rfl, least_no hlt (by simp only [fromF]; rw [beq_eq_false_iff_ne.2 hw, Bool.false_and]) HL.out, hcase'.elim (fun h => Or.inl h) (fun ⟨j, h, hj⟩ => Or.inr ⟨j, h, by omega⟩), HB⟩
        case measure => simp [intOf]; omega
    · go_wp2
      go_ret
      exact ⟨ret_int (by rw [show l.length = k by omega]; exact HL.out.symm), by repeat (first | with_reducible exact Below.refl _ _ | with_reducible refine balloc ?_ _ | with_reducible refine bdrew ?_ | with_reducible refine bset' ?_ (by omega) _ | with_reducible refine bthen ?_ (by assumption))⟩

end Go.Proofs.Ytfdmchhaiikeaaa
