/- The document's answer on sectors at hand: least, PickBuf. -/
import Derived.Test.YtpmjgofjdejeeacRCache
namespace Go.Proofs.Ytpmjgofjdejeeac
open Go.RowKit Go.BigFrame
attribute [local go_sem] Later.cell Later.frozen

theorem heldNewR {w : World} {hs : Array Value} {B : Nat → Bool} {T : TypeId} (hB : ∀ i, i < 32 → hs[i]? = some (.bool (B i))) : HeldAt (w.alloc (.cells hs T)) w.heap.size B := by
  intro i hi
  have := hB i hi
  have h := heap_alloc_new w (.cells hs T)
  simp only [World.cell?, h]
  exact this
theorem fitB_held {d : Bool} {B : Nat → Bool} {x : Bf} {q : Nat} (hq : x.pl = (q : Int)) (h32 : q < 32) : fitB d (holdB B) x = ((x.dirty == d) && !B q) := by
  rw [fitB, hq, holdB, decide_eq_true (show (0 : Int) ≤ (q : Int) by omega), decide_eq_true (show (q : Int) < 32 by omega)]
  simp

set_option maxRecDepth 100000 in
set_option maxHeartbeats 2000000 in
theorem rleast (l : List Bf) (a : Option Addr) (c : Nat) (d : Bool) (hs : Array Value) (B : Nat → Bool) (w : World) (hl : BufsAt w a l) (G : GoodB l) (hB : ∀ i, i < 32 → hs[i]? = some (.bool (B i))) (r : Int) (hr : leastU (fitB d (holdB B)) l l.length = r) :
    Calls Try.prog 71 #[.slice a l.length c, .bool d, .agg hs] w fun e w' => e = .returned (.int .i64 r) ∧ Below w.heap.size w w' := by
  subst hr
  have hb3 := hl.2
  have HG := hidB G
  have HV := hidB (heldNewR (w := w) (T := 73) hB)
  clear G hB
  go_enter Try.func71, Try.ntmps71
  go_wp2
  go_loopw [7, 8] (fun n i wr => ∃ k : Nat, k ≤ l.length ∧ i = .int .i64 k ∧ n = .int .i64 (leastU (fitB d (holdB B)) l k) ∧ Below (w.alloc (.cells hs 73)).heap.size (w.alloc (.cells hs 73)) wr) (fun _ i _ => l.length - (intOf i).toNat)
  case atStart => exact ⟨0, by omega, rfl, rfl, Below.refl _ _⟩
  case round =>
    obtain ⟨k, hk, rfl, rfl, HB⟩ := hrel
    have HB1 : Below w.heap.size w wr := bthen (below1 _ _) HB
    by_cases hlt : k < l.length
    · have h0 : l ≠ [] := by rintro rfl; exact absurd hlt (Nat.not_lt_zero _)
      obtain ⟨b, o, rfl⟩ := hl.form.resolve_left h0
      have hl1 := hl.later HB1
      obtain ⟨c0, c1, c2, c3⟩ := hl1.cells hlt
      have l0 := ltB_of_cell c0
      obtain ⟨g1, g2, -⟩ := HG.out.ok k hlt
      obtain ⟨q, hq⟩ := Int.eq_ofNat_of_zero_le g1
      have hq32 : q < 32 := by omega
      have hv := HV.out.later HB q hq32
      have lv := ltB_of_cell hv
      have q1 : (q : Int) < 32 := by omega
      have HF := hidB (fitB_held (d := d) (B := B) hq hq32)
      rw [hq] at c0
      have HQ := hidB hq
      have HW := hidB HB
      clear h0 hl HB HB1 hq g1 g2 HV
      cases hd : (l[k].dirty == d)
      · have hf : fitB d (holdB B) l[k] = false := by rw [HF.out, hd]; rfl
        have HL := hidB (leastU_no hlt hf rfl)
        clear hf HF
        go_wp2_with fail
        refine wp_region_later (by first | exact HB | exact bdrew HB | exact Below.refl _ _) (by kernel_rfl) (by kernel_rfl) ?_
        repeat (go_big_quiet_step (first | exact rfl | fail))
        refine wpQuiet_nil ?_; intro _ hw'; obtain ⟨p, hw''⟩ := hw'; subst hw''; (try clear hc hf hz); (try clear HB); have HB := p.below; obtain ⟨hc, hf, hz⟩ := bcell HB
        go_wp2
        go_roundw
        case rel => exact ⟨k + 1, by omega, by go_num, by rw [HL.out], bthen HW.out HB⟩
        case measure => simp [intOf]; omega
      · cases hbq : B q
        · have hf : fitB d (holdB B) l[k] = true := by rw [HF.out, hd, hbq]; rfl
          rw [hbq] at hv
          rcases leastU_spec (fitB d (holdB B)) l k (by omega) with ⟨hr, -⟩ | ⟨j, hj, -, hr, -⟩
          · have HL := hidB (leastU_first hlt hf hr)
            rw [hr]
            clear hf HF hr hbq
            go_wp2_with fail
            refine wp_region_later (by first | exact HB | exact bdrew HB | exact Below.refl _ _) (by kernel_rfl) (by kernel_rfl) ?_
            repeat (go_big_quiet_step (first | exact rfl | fail))
            refine wpQuiet_nil ?_; intro _ hw'; obtain ⟨p, hw''⟩ := hw'; subst hw''; (try clear hc hf hz); (try clear HB); have HB := p.below; obtain ⟨hc, hf, hz⟩ := bcell HB
            go_wp2
            go_roundw
            case rel => exact ⟨k + 1, by omega, by go_num, by rw [HL.out], bthen HW.out HB⟩
            case measure => simp [intOf]; omega
          · obtain ⟨d0, d1, d2, d3⟩ := hl1.cells hj
            rw [hr]
            have j0 : decide ((j : Int) < 0) = false := decide_eq_false (by omega)
            have j1 : (j : Int) < (l.length : Int) := by omega
            by_cases hu : l[k].used < l[j].used
            · have HL := hidB (leastU_lt hlt hj hf hr hu)
              have u0 : decide (l[k].used < l[j].used) = true := decide_eq_true hu
              clear hf HF hr hbq hu
              go_wp2_with fail
              refine wp_region_later (by first | exact HB | exact bdrew HB | exact Below.refl _ _) (by kernel_rfl) (by kernel_rfl) ?_
              repeat (go_big_quiet_step (first | exact rfl | fail))
              refine wpQuiet_nil ?_; intro _ hw'; obtain ⟨p, hw''⟩ := hw'; subst hw''; (try clear hc hf hz); (try clear HB); have HB := p.below; obtain ⟨hc, hf, hz⟩ := bcell HB
              go_wp2
              go_roundw
              case rel => exact ⟨k + 1, by omega, by go_num, by rw [HL.out], bthen HW.out HB⟩
              case measure => simp [intOf]; omega
            · have HL := hidB (leastU_ge hlt hj hf hr hu)
              have u0 : decide (l[k].used < l[j].used) = false := decide_eq_false hu
              clear hf HF hr hbq hu
              go_wp2_with fail
              refine wp_region_later (by first | exact HB | exact bdrew HB | exact Below.refl _ _) (by kernel_rfl) (by kernel_rfl) ?_
              repeat (go_big_quiet_step (first | exact rfl | fail))
              refine wpQuiet_nil ?_; intro _ hw'; obtain ⟨p, hw''⟩ := hw'; subst hw''; (try clear hc hf hz); (try clear HB); have HB := p.below; obtain ⟨hc, hf, hz⟩ := bcell HB
              go_wp2
              go_roundw
              case rel => exact ⟨k + 1, by omega, by go_num, by rw [HL.out], bthen HW.out HB⟩
              case measure => simp [intOf]; omega
        · have hf : fitB d (holdB B) l[k] = false := by rw [HF.out, hd, hbq]; rfl
          have HL := hidB (leastU_no hlt hf rfl)
          rw [hbq] at hv
          clear hf HF hbq
          go_wp2_with fail
          refine wp_region_later (by first | exact HB | exact bdrew HB | exact Below.refl _ _) (by kernel_rfl) (by kernel_rfl) ?_
          repeat (go_big_quiet_step (first | exact rfl | fail))
          refine wpQuiet_nil ?_; intro _ hw'; obtain ⟨p, hw''⟩ := hw'; subst hw''; (try clear hc hf hz); (try clear HB); have HB := p.below; obtain ⟨hc, hf, hz⟩ := bcell HB
          go_wp2
          go_roundw
          case rel => exact ⟨k + 1, by omega, by go_num, by rw [HL.out], bthen HW.out HB⟩
          case measure => simp [intOf]; omega
    · obtain rfl : k = l.length := by omega
      go_wp2
      go_ret
      exact ⟨rfl, HB1⟩
end Go.Proofs.Ytpmjgofjdejeeac
