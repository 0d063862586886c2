/- least of package queue, with the closures of Oldest and of From; Oldest, From. -/
import Derived.Test.YtgjkdhedkbkagaaGreatJ11
namespace Go.Proofs.YtgjkdhedkbkagaaGreat
open Go.RowKit Go.BigFrame
set_option maxRecDepth 100000
attribute [local go_sem] Later.cell Later.frozen

set_option maxHeartbeats 2000000 in
theorem leastOld_any (l : List Rq) (a : Option Addr) (c : Nat) (b' : Bool) (pb po : Nat) (w : World) (hl : ReqsAt w a l) (hp : w.cell? ⟨pb, po, none⟩ = some (.bool b')) :
    Calls Tryz.prog 123 #[.slice a l.length c, .func (.func 125) #[] #[.pointer (some ⟨pb, po, none⟩)], .func (.func 126) #[] #[]] w
      fun e w' => e = .returned (.int .i64 (leastI (oldF b') Rq.born l l.length)) ∧ Below w.heap.size w w' := by
  have hb3 := hl.2.2
  rcases hl.form with rfl | ⟨b, o, rfl⟩
  · go_enter Tryz.func123, Tryz.ntmps123
    go_wp2
    go_loop [7, 12] (fun bi i => i = .int .i64 0 ∧ bi = .int .i64 (-1)) (fun _ _ => 0)
    case atStart => exact ⟨rfl, rfl⟩
    case round =>
      obtain ⟨rfl, rfl⟩ := hrel
      go_wp2
      go_ret
      exact ⟨rfl, by repeat (first | with_reducible exact Below.refl _ _ | with_reducible refine balloc ?_ _ | with_reducible refine bdrew ?_ | with_reducible refine bset' ?_ (by omega) _ | with_reducible refine bthen ?_ (by assumption))⟩
  go_enter Tryz.func123, Tryz.ntmps123
  go_wp2
  go_loopw [7, 12] (fun bi i wr => ∃ (k : Nat) (B : Int), k ≤ l.length ∧ i = .int .i64 k ∧ bi = .int .i64 B ∧ leastI (oldF b') Rq.born l k = B ∧ (B = -1 ∨ ∃ j : Nat, B = j ∧ j < k) ∧ Below w.heap.size w wr) (fun _ i _ => l.length - (intOf i).toNat)
  case atStart => exact ⟨0, -1, by omega, rfl, rfl, rfl, Or.inl rfl, Below.refl _ _⟩
  case round =>
    obtain ⟨k, B, hk, rfl, rfl, hB, hcase, HB⟩ := hrel
    have HL : Hid (leastI (oldF b') Rq.born l k = B) := hB
    clear hB
    by_cases hlt : k < l.length
    · obtain ⟨c0, c1, c2, c3, c4, c5⟩ := (hl.later HB).cells hlt
      have l0 := lt_of_cell c0
      have hpr := cell_later' HB hp
      have HB0 := HB
      clear HB
      have hcase' := hcase
      cases hff : oldF b' l[k]
      · clear hcase
        go_wp2_with fail
        refine wp_region_later (by first | exact HB | exact bdrew HB | exact Below.refl _ _) (by kernel_rfl) (by kernel_rfl) ?_
        repeat (go_big_quiet_step (first | exact rfl | (go_at_call 125; exact calls_later (oldFit_any l[k] _ _ _ _ (cell_later' (Later.below _) (alloc_cell hpr _)) _ hff)) | (go_at_call 126; exact calls_later (oldRank_any _ _))))
        refine wpQuiet_nil ?_; intro _ hw'; obtain ⟨p, hw''⟩ := hw'; subst hw''; (try clear hc hf hz); (try clear HB); have HB := p.below; obtain ⟨hc, hf, hz⟩ := bcell HB
        go_wp2
        go_roundw
        case rel => exact ⟨k + 1, B, by omega, by go_num, rfl, least_no hlt hff HL.out, hcase'.elim (fun h => Or.inl h) (fun ⟨j, h, hj⟩ => Or.inr ⟨j, h, by omega⟩), bthen (balloc HB0 _) HB⟩
        case measure => simp [intOf]; omega
      · rcases hcase with rfl | ⟨j, rfl, hj⟩
        · go_wp2_with fail
          refine wp_region_later (by first | exact HB | exact bdrew HB | exact Below.refl _ _) (by kernel_rfl) (by kernel_rfl) ?_
          repeat (go_big_quiet_step (first | exact rfl | (go_at_call 125; exact calls_later (oldFit_any l[k] _ _ _ _ (cell_later' (Later.below _) (alloc_cell hpr _)) _ hff)) | (go_at_call 126; exact calls_later (oldRank_any _ _))))
          refine wpQuiet_nil ?_; intro _ hw'; obtain ⟨p, hw''⟩ := hw'; subst hw''; (try clear hc hf hz); (try clear HB); have HB := p.below; obtain ⟨hc, hf, hz⟩ := bcell HB
          go_wp2
          go_roundw
          case rel => exact ⟨k + 1, k, by omega, by go_num, rfl, least_first hlt hff HL.out, Or.inr ⟨k, rfl, by omega⟩, bthen (balloc HB0 _) HB⟩
          case measure => simp [intOf]; omega
        · have hjl : j < l.length := by omega
          have hj0 : decide ((j : Int) < 0) = false := decide_eq_false (by omega)
          obtain ⟨d0, d1, d2, d3, d4, d5⟩ := (hl.later HB0).cells hjl
          by_cases hR : Rq.born l[k] < Rq.born l[j]
          · go_wp2_with fail
            refine wp_region_later (by first | exact HB | exact bdrew HB | exact Below.refl _ _) (by kernel_rfl) (by kernel_rfl) ?_
            repeat (go_big_quiet_step (first | exact rfl | (go_at_call 125; exact calls_later (oldFit_any l[k] _ _ _ _ (cell_later' (Later.below _) (alloc_cell hpr _)) _ hff)) | (go_at_call 126; exact calls_later (oldRank_any _ _))))
            refine wpQuiet_nil ?_; intro _ hw'; obtain ⟨p, hw''⟩ := hw'; subst hw''; (try clear hc hf hz); (try clear HB); have HB := p.below; obtain ⟨hc, hf, hz⟩ := bcell HB
            go_wp2
            go_roundw
            case rel => exact ⟨k + 1, k, by omega, by go_num, rfl, least_lt hlt hjl hff HL.out hR, Or.inr ⟨k, rfl, by omega⟩, bthen (balloc HB0 _) HB⟩
            case measure => simp [intOf]; omega
          · go_wp2_with fail
            refine wp_region_later (by first | exact HB | exact bdrew HB | exact Below.refl _ _) (by kernel_rfl) (by kernel_rfl) ?_
            repeat (go_big_quiet_step (first | exact rfl | (go_at_call 125; exact calls_later (oldFit_any l[k] _ _ _ _ (cell_later' (Later.below _) (alloc_cell hpr _)) _ hff)) | (go_at_call 126; exact calls_later (oldRank_any _ _))))
            refine wpQuiet_nil ?_; intro _ hw'; obtain ⟨p, hw''⟩ := hw'; subst hw''; (try clear hc hf hz); (try clear HB); have HB := p.below; obtain ⟨hc, hf, hz⟩ := bcell HB
            go_wp2
            go_roundw
            case rel => exact ⟨k + 1, j, by omega, by go_num, rfl, least_ge hlt hjl hff HL.out (by omega), Or.inr ⟨j, rfl, by omega⟩, bthen (balloc HB0 _) HB⟩
            case measure => simp [intOf]; omega
    · go_wp2
      go_ret
      exact ⟨ret_int (by rw [show l.length = k by omega]; exact HL.out.symm), by repeat (first | with_reducible exact Below.refl _ _ | with_reducible refine balloc ?_ _ | with_reducible refine bdrew ?_ | with_reducible refine bset' ?_ (by omega) _ | with_reducible refine bthen ?_ (by assumption))⟩

set_option maxHeartbeats 2000000 in
theorem leastFrom_any (l : List Rq) (a : Option Addr) (c : Nat) (b' : Bool) (a' : Int) (pb po qb qo : Nat) (w : World) (hl : ReqsAt w a l) (hp : w.cell? ⟨pb, po, none⟩ = some (.bool b')) (hq : w.cell? ⟨qb, qo, none⟩ = some (.int .i64 a')) :
    Calls Tryz.prog 123 #[.slice a l.length c, .func (.func 122) #[] #[.pointer (some ⟨pb, po, none⟩), .pointer (some ⟨qb, qo, none⟩)], .func (.func 124) #[] #[]] w
      fun e w' => e = .returned (.int .i64 (leastI (fromF b' a') Rq.f l l.length)) ∧ Below w.heap.size w w' := by
  have hb3 := hl.2.2
  rcases hl.form with rfl | ⟨b, o, rfl⟩
  · go_enter Tryz.func123, Tryz.ntmps123
    go_wp2
    go_loop [7, 12] (fun bi i => i = .int .i64 0 ∧ bi = .int .i64 (-1)) (fun _ _ => 0)
    case atStart => exact ⟨rfl, rfl⟩
    case round =>
      obtain ⟨rfl, rfl⟩ := hrel
      go_wp2
      go_ret
      exact ⟨rfl, by repeat (first | with_reducible exact Below.refl _ _ | with_reducible refine balloc ?_ _ | with_reducible refine bdrew ?_ | with_reducible refine bset' ?_ (by omega) _ | with_reducible refine bthen ?_ (by assumption))⟩
  go_enter Tryz.func123, Tryz.ntmps123
  go_wp2
  go_loopw [7, 12] (fun bi i wr => ∃ (k : Nat) (B : Int), k ≤ l.length ∧ i = .int .i64 k ∧ bi = .int .i64 B ∧ leastI (fromF b' a') Rq.f l k = B ∧ (B = -1 ∨ ∃ j : Nat, B = j ∧ j < k) ∧ Below w.heap.size w wr) (fun _ i _ => l.length - (intOf i).toNat)
  case atStart => exact ⟨0, -1, by omega, rfl, rfl, rfl, Or.inl rfl, Below.refl _ _⟩
  case round =>
    obtain ⟨k, B, hk, rfl, rfl, hB, hcase, HB⟩ := hrel
    have HL : Hid (leastI (fromF b' a') Rq.f l k = B) := hB
    clear hB
    by_cases hlt : k < l.length
    · obtain ⟨c0, c1, c2, c3, c4, c5⟩ := (hl.later HB).cells hlt
      have l0 := lt_of_cell c0
      have hpr := cell_later' HB hp
      have hqr := cell_later' HB hq
      have HB0 := HB
      clear HB
      have hcase' := hcase
      cases hff : fromF b' a' l[k]
      · clear hcase
        go_wp2_with fail
        refine wp_region_later (by first | exact HB | exact bdrew HB | exact Below.refl _ _) (by kernel_rfl) (by kernel_rfl) ?_
        repeat (go_big_quiet_step (first | exact rfl | (go_at_call 122; exact calls_later (fromFit_any l[k] _ _ _ _ _ _ _ (cell_later' (Later.below _) (alloc_cell hpr _)) (cell_later' (Later.below _) (alloc_cell hqr _)) _ hff)) | (go_at_call 124; exact calls_later (fromRank_any _ _))))
        refine wpQuiet_nil ?_; intro _ hw'; obtain ⟨p, hw''⟩ := hw'; subst hw''; (try clear hc hf hz); (try clear HB); have HB := p.below; obtain ⟨hc, hf, hz⟩ := bcell HB
        go_wp2
        go_roundw
        case rel => exact ⟨k + 1, B, by omega, by go_num, rfl, least_no hlt hff HL.out, hcase'.elim (fun h => Or.inl h) (fun ⟨j, h, hj⟩ => Or.inr ⟨j, h, by omega⟩), bthen (balloc HB0 _) HB⟩
        case measure => simp [intOf]; omega
      · rcases hcase with rfl | ⟨j, rfl, hj⟩
        · go_wp2_with fail
          refine wp_region_later (by first | exact HB | exact bdrew HB | exact Below.refl _ _) (by kernel_rfl) (by kernel_rfl) ?_
          repeat (go_big_quiet_step (first | exact rfl | (go_at_call 122; exact calls_later (fromFit_any l[k] _ _ _ _ _ _ _ (cell_later' (Later.below _) (alloc_cell hpr _)) (cell_later' (Later.below _) (alloc_cell hqr _)) _ hff)) | (go_at_call 124; exact calls_later (fromRank_any _ _))))
          refine wpQuiet_nil ?_; intro _ hw'; obtain ⟨p, hw''⟩ := hw'; subst hw''; (try clear hc hf hz); (try clear HB); have HB := p.below; obtain ⟨hc, hf, hz⟩ := bcell HB
          go_wp2
          go_roundw
          case rel => exact ⟨k + 1, k, by omega, by go_num, rfl, least_first hlt hff HL.out, Or.inr ⟨k, rfl, by omega⟩, bthen (balloc HB0 _) HB⟩
          case measure => simp [intOf]; omega
        · have hjl : j < l.length := by omega
          have hj0 : decide ((j : Int) < 0) = false := decide_eq_false (by omega)
          obtain ⟨d0, d1, d2, d3, d4, d5⟩ := (hl.later HB0).cells hjl
          by_cases hR : Rq.f l[k] < Rq.f l[j]
          · go_wp2_with fail
            refine wp_region_later (by first | exact HB | exact bdrew HB | exact Below.refl _ _) (by kernel_rfl) (by kernel_rfl) ?_
            repeat (go_big_quiet_step (first | exact rfl | (go_at_call 122; exact calls_later (fromFit_any l[k] _ _ _ _ _ _ _ (cell_later' (Later.below _) (alloc_cell hpr _)) (cell_later' (Later.below _) (alloc_cell hqr _)) _ hff)) | (go_at_call 124; exact calls_later (fromRank_any _ _))))
            refine wpQuiet_nil ?_; intro _ hw'; obtain ⟨p, hw''⟩ := hw'; subst hw''; (try clear hc hf hz); (try clear HB); have HB := p.below; obtain ⟨hc, hf, hz⟩ := bcell HB
            go_wp2
            go_roundw
            case rel => exact ⟨k + 1, k, by omega, by go_num, rfl, least_lt hlt hjl hff HL.out hR, Or.inr ⟨k, rfl, by omega⟩, bthen (balloc HB0 _) HB⟩
            case measure => simp [intOf]; omega
          · go_wp2_with fail
            refine wp_region_later (by first | exact HB | exact bdrew HB | exact Below.refl _ _) (by kernel_rfl) (by kernel_rfl) ?_
            repeat (go_big_quiet_step (first | exact rfl | (go_at_call 122; exact calls_later (fromFit_any l[k] _ _ _ _ _ _ _ (cell_later' (Later.below _) (alloc_cell hpr _)) (cell_later' (Later.below _) (alloc_cell hqr _)) _ hff)) | (go_at_call 124; exact calls_later (fromRank_any _ _))))
            refine wpQuiet_nil ?_; intro _ hw'; obtain ⟨p, hw''⟩ := hw'; subst hw''; (try clear hc hf hz); (try clear HB); have HB := p.below; obtain ⟨hc, hf, hz⟩ := bcell HB
            go_wp2
            go_roundw
            case rel => exact ⟨k + 1, j, by omega, by go_num, rfl, least_ge hlt hjl hff HL.out (by omega), Or.inr ⟨j, rfl, by omega⟩, bthen (balloc HB0 _) HB⟩
            case measure => simp [intOf]; omega
    · go_wp2
      go_ret
      exact ⟨ret_int (by rw [show l.length = k by omega]; exact HL.out.symm), by repeat (first | with_reducible exact Below.refl _ _ | with_reducible refine balloc ?_ _ | with_reducible refine bdrew ?_ | with_reducible refine bset' ?_ (by omega) _ | with_reducible refine bthen ?_ (by assumption))⟩

set_option maxHeartbeats 400000 in
theorem oldest_any (l : List Rq) (a : Option Addr) (c : Nat) (b : Bool) (w : World) (hl : ReqsAt w a l) :
    Calls Tryz.prog 105 #[.slice a l.length c, .bool b] w fun e w' => e = .returned (.int .i64 (leastI (oldF b) Rq.born l l.length)) ∧ Below w.heap.size w w' := by
  go_enter Tryz.func105, Tryz.ntmps105
  go_wp2_with fail
  refine (leastOld_any l a c b _ _ _ (hl.later (below1 _ _)) (by simp)).mono ?_
  rintro e w1 ⟨rfl, HB⟩
  go_wp2
  go_ret
  exact ⟨rfl, by repeat (first | with_reducible exact Below.refl _ _ | with_reducible refine balloc ?_ _ | with_reducible refine bdrew ?_ | with_reducible refine bset' ?_ (by omega) _ | with_reducible refine bthen ?_ (by assumption))⟩

set_option maxHeartbeats 400000 in
theorem from_any (l : List Rq) (a : Option Addr) (c : Nat) (b : Bool) (a' : Int) (w : World) (hl : ReqsAt w a l) :
    Calls Tryz.prog 104 #[.slice a l.length c, .bool b, .int .i64 a'] w fun e w' => e = .returned (.int .i64 (leastI (fromF b a') Rq.f l l.length)) ∧ Below w.heap.size w w' := by
  go_enter Tryz.func104, Tryz.ntmps104
  go_wp2_with fail
  refine (leastFrom_any l a c b a' _ _ _ _ _ (hl.later (below2 _ _ _)) (by simp) (by simp)).mono ?_
  rintro e w1 ⟨rfl, HB⟩
  go_wp2
  go_ret
  exact ⟨rfl, by repeat (first | with_reducible exact Below.refl _ _ | with_reducible refine balloc ?_ _ | with_reducible refine bdrew ?_ | with_reducible refine bset' ?_ (by omega) _ | with_reducible refine bthen ?_ (by assumption))⟩

end Go.Proofs.YtgjkdhedkbkagaaGreat
