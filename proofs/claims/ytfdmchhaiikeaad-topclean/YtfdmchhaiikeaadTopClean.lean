/- TopClean: a sector is clean just if it still has what was written; who is picked is dirty, not held, and was used least lately. The walk. -/
import Derived.Test.YtfdmchhaiikeaadCache5
namespace Go.Proofs.Ytfdmchhaiikeaad
open Go.RowKit Go.BigFrame
attribute [local go_sem] Later.cell Later.frozen

theorem oneAt {w : World} {b : Nat} (x : Bf) (h0 : w.cell? ⟨b, 0, none⟩ = some (.int .i64 x.pl)) (h1 : w.cell? ⟨b, 1, none⟩ = some (.string x.data)) (h2 : w.cell? ⟨b, 2, none⟩ = some (.bool x.dirty)) (h3 : w.cell? ⟨b, 3, none⟩ = some (.int .i64 x.used)) : BufsAt w (some ⟨b, 0, none⟩) [x] := by
  refine ⟨Or.inr ⟨b, 0, rfl, ?_⟩, by simp⟩
  intro i hi j hj
  obtain rfl : i = 0 := by simp at hi; omega
  match j, hj with
  | 0, _ => simpa [Bf.cell] using h0
  | 1, _ => simpa [Bf.cell] using h1
  | 2, _ => simpa [Bf.cell] using h2
  | 3, _ => simpa [Bf.cell] using h3
theorem onceOne (x : Bf) : OnceB [x] := by
  intro i j hi hj _
  simp at hi hj; omega

def bf0 : Bf := ⟨3, ⟨#[120]⟩, true, 0⟩
theorem clean0 : cleanL [bf0] 3 ⟨#[121]⟩ = [bf0] := by simp [cleanL, bf0]
theorem heldNew {w : World} {hs : Array Value} {B : Nat → Bool} {T : TypeId} (hB : ∀ i, i < 32 → hs[i]? = some (.bool (B i))) : HeldAt (w.alloc (.cells hs T)) w.heap.size B := by
  intro i hi
  have := hB i hi
  have h := heap_alloc_new w (.cells hs T)
  simp only [World.cell?, h]
  exact this
theorem holdQ (W : World) (pb : Nat) (B : Nat → Bool) (hB : HeldAt W pb B) : ∀ n w', Below W.heap.size W w' → Calls Try.prog 23 (#[.int .i64 n] ++ #[.pointer (some ⟨pb, 0, none⟩)]) w' fun e w'' => e = .returned (.bool (holdB B n)) ∧ Below w'.heap.size w' w'' :=
  fun n w' hb => holdC_any n pb B w' (hB.later hb) _ rfl
theorem cleanAt_yes {l : List Bf} {at' : Int} {data : ByteArray} {k : Nat} (h : k < l.length) (h' : k < (cleanL l at' data).length) (hc : l[k].pl = at' ∧ l[k].data = data) : (cleanL l at' data)[k] = ⟨l[k].pl, l[k].data, false, l[k].used⟩ := by
  simp only [cleanL, List.getElem_map]; rw [if_pos hc]
theorem cleanAt_no {l : List Bf} {at' : Int} {data : ByteArray} {k : Nat} (h : k < l.length) (h' : k < (cleanL l at' data).length) (hc : ¬ (l[k].pl = at' ∧ l[k].data = data)) : (cleanL l at' data)[k] = l[k] := by
  simp only [cleanL, List.getElem_map]; rw [if_neg hc]
theorem cleanL_length (l : List Bf) (at' : Int) (data : ByteArray) : (cleanL l at' data).length = l.length := by simp [cleanL]

set_option maxRecDepth 100000 in
set_option maxHeartbeats 4000000 in
theorem tc_walk (l : List Bf) (a : Option Addr) (c : Nat) (at' : Int) (data : ByteArray) (hs : Array Value) (B : Nat → Bool) (w : World) (hl : BufsAt w a l) (hn : a = none → c = 0) (hB : ∀ i, i < 32 → hs[i]? = some (.bool (B i))) (hd : data.size ≤ 9223372036854775807) :
    Calls Try.prog 6 #[.slice a l.length c, .int .i64 at', .string data, .agg hs] w fun e w' => e = .returned (.bool true) ∧ Below w.heap.size w w' := by
  have hlen := hl.2
  have HV : Hid (HeldAt (w.alloc (.cells hs 48)) w.heap.size B) := heldNew hB
  clear hB
  go_enter Try.func6, Try.ntmps6
  go_wp2_with fail
  refine (cleanG [bf0] (some ⟨w.heap.size + 1, 0, none⟩) 1 3 ⟨#[121]⟩ _ (oneAt bf0 (by simp [bf0]) (by simp [bf0]) (by simp [bf0]) (by simp [bf0])) (by simp) (by simp) (onceOne _)).mono ?_
  rintro e w1 ⟨a1, c1, rfl, hm1, hcap1, hb1⟩
  rw [clean0] at hm1
  obtain ⟨b1, o1, rfl⟩ := hm1.form.resolve_left (by simp)
  obtain ⟨-, -, k2, -⟩ := hm1.cells (i := 0) (by simp)
  simp only [Nat.zero_mul, Nat.add_zero, List.getElem_cons_zero, bf0] at k2
  have HB1 : Below w.heap.size w w1 := by repeat (first | with_reducible exact Below.refl _ _ | with_reducible refine balloc ?_ _ | with_reducible refine bdrew ?_ | with_reducible refine bset' ?_ (by omega) _ | with_reducible refine bthen ?_ (by assumption))
  have HV1 : Hid (HeldAt w1 w.heap.size B) := (HV.out.later (below1 _ _)).later hb1
  have hl1 := hl.later HB1
  clear hm1 hb1 hcap1 HV
  cases hg : goodBB l
  · go_wp2_with fail
    refine (goodb_any l a c _ hl1 _ hg).mono ?_
    rintro e w2 ⟨rfl, hb2⟩
    go_wp2
    go_ret
    exact ⟨rfl, bthen HB1 hb2⟩
  have G := goodB_of hg
  by_cases h10 : 10 < data.size
  · go_wp2_with fail
    refine (goodb_any l a c _ hl1 _ hg).mono ?_
    rintro e w2 ⟨rfl, hb2⟩
    go_wp2
    go_ret
    exact ⟨rfl, bthen HB1 hb2⟩
  go_wp2_with fail
  refine (goodb_any l a c _ hl1 _ hg).mono ?_
  rintro e w2 ⟨rfl, hb2⟩
  go_wp2_with fail
  refine (cleanG l a c at' data _ (hl1.later hb2) hn (by have := G.len; omega) G.once).mono ?_
  rintro e w3 ⟨a3, c3, rfl, hm3, hcap3, hb3⟩
  have HB3 : Below w.heap.size w w3 := bthen (bthen HB1 hb2) hb3
  have HV3 : Hid (HeldAt w3 w.heap.size B) := (HV1.out.later hb2).later hb3
  have hl3 := hl.later HB3
  have HG := hidB G
  clear hl1 HV1 HB1 hb2 hb3 k2 hg G hl
  go_wp2_with fail
  go_loopw [12] (fun i wr => ∃ k : Nat, k ≤ l.length ∧ i = .int .i64 k ∧ Below w3.heap.size w3 wr) (fun i _ => l.length - (intOf i).toNat)
  case atStart => exact ⟨0, by omega, rfl, Below.refl _ _⟩
  case round =>
    obtain ⟨k, hk, rfl, HB⟩ := hrel
    by_cases hlt : k < l.length
    · have h0 : l ≠ [] := by rintro rfl; exact absurd hlt (Nat.not_lt_zero _)
      have hlt' : k < (cleanL l at' data).length := by rw [cleanL_length]; exact hlt
      have h0' : cleanL l at' data ≠ [] := by intro h; rw [h] at hlt'; exact absurd hlt' (Nat.not_lt_zero _)
      obtain ⟨b, o, rfl⟩ := hl3.form.resolve_left h0
      obtain ⟨b3, o3, rfl⟩ := hm3.form.resolve_left h0'
      obtain ⟨c0, c1, c2, c3⟩ := (hl3.later HB).cells hlt
      obtain ⟨d0, d1, d2, d3⟩ := (hm3.later HB).cells hlt'
      have l0 := ltB_of_cell c0
      have l1 := ltB_of_cell d0
      have hgd : Try.prog.eqGuardType Try.prog.depth 47 = false := by kernel_rfl
      have HW := hidB HB
      clear HB h0 h0' hl3 hm3 hn
      by_cases hc : l[k].pl = at' ∧ l[k].data = data
      · have e := cleanAt_yes hlt hlt' hc
        rw [e] at d0 d1 d2 d3
        simp only at d0 d1 d2 d3
        have s1 : (l[k].pl == at') = true := by rw [hc.1]; simp
        have s2 := strB_eq hc.2
        have hq : ∀ w, (binOp .neq 47 (.agg #[.int .i64 l[k].pl, .string l[k].data, .bool false, .int .i64 l[k].used]) (.agg #[.int .i64 l[k].pl, .string l[k].data, .bool false, .int .i64 l[k].used])).run Try.prog w = .ok (.bool false) w := fun w => neqSelf ⟨l[k].pl, l[k].data, false, l[k].used⟩ w
        clear e hc hlt'
        go_wp2_with fail
        refine wp_region_later (by first | exact HB | exact bdrew HB | exact Below.refl _ _) (by kernel_rfl) (by kernel_rfl) ?_
        repeat (go_big_quiet_step (first | exact rfl | fail))
        refine wpQuiet_nil ?_; intro _ hw'; obtain ⟨p, hw''⟩ := hw'; subst hw''; (try clear hc hf hz); (try clear HB); have HB := p.below; obtain ⟨hc, hf, hz⟩ := bcell HB
        go_wp2
        go_roundw
        case rel => exact ⟨k + 1, by omega, by go_num, bthen (balloc HW.out _) HB⟩
        case measure => simp [intOf]; omega
      · have e := cleanAt_no hlt hlt' hc
        rw [e] at d0 d1 d2 d3
        have hq : ∀ w, (binOp .neq 47 (.agg #[.int .i64 l[k].pl, .string l[k].data, .bool l[k].dirty, .int .i64 l[k].used]) (.agg #[.int .i64 l[k].pl, .string l[k].data, .bool l[k].dirty, .int .i64 l[k].used])).run Try.prog w = .ok (.bool false) w := fun w => neqSelf l[k] w
        by_cases hp : l[k].pl = at'
        · have s1 : (l[k].pl == at') = true := by rw [hp]; simp
          have s2 := strB_ne (fun h => hc ⟨hp, h⟩)
          clear e hc hlt' hp
          go_wp2_with fail
          refine wp_region_later (by first | exact HB | exact bdrew HB | exact Below.refl _ _) (by kernel_rfl) (by kernel_rfl) ?_
          repeat (go_big_quiet_step (first | exact rfl | fail))
          refine wpQuiet_nil ?_; intro _ hw'; obtain ⟨p, hw''⟩ := hw'; subst hw''; (try clear hc hf hz); (try clear HB); have HB := p.below; obtain ⟨hc, hf, hz⟩ := bcell HB
          go_wp2
          go_roundw
          case rel => exact ⟨k + 1, by omega, by go_num, bthen (balloc HW.out _) HB⟩
          case measure => simp [intOf]; omega
        · have s1 : (l[k].pl == at') = false := by rw [beq_eq_false_iff_ne]; exact hp
          clear e hc hlt' hp
          go_wp2_with fail
          refine wp_region_later (by first | exact HB | exact bdrew HB | exact Below.refl _ _) (by kernel_rfl) (by kernel_rfl) ?_
          repeat (go_big_quiet_step (first | exact rfl | fail))
          refine wpQuiet_nil ?_; intro _ hw'; obtain ⟨p, hw''⟩ := hw'; subst hw''; (try clear hc hf hz); (try clear HB); have HB := p.below; obtain ⟨hc, hf, hz⟩ := bcell HB
          go_wp2
          go_roundw
          case rel => exact ⟨k + 1, by omega, by go_num, bthen (balloc HW.out _) HB⟩
          case measure => simp [intOf]; omega
    · have hl4 := hl3.later HB
      have HV4 : Hid (HeldAt wr w.heap.size B) := HV3.out.later HB
      have HB4 := bthen HB3 HB
      clear hl3 hm3 HV3 HB3 HB hcap3 hn
      go_wp2_with fail
      rcases leastU_spec (fitB true (holdB B)) l l.length (Nat.le_refl _) with ⟨hr, hno⟩ | ⟨j, hj, -, hr, hF, hmin, -⟩
      · refine (pick_no 23 (by intro args w; go_simp) #[.pointer (some ⟨w.heap.size, 0, none⟩)] (holdB B) l a c _ hl4 (holdQ _ _ _ HV4.out) hr).mono ?_
        rintro e w5 ⟨rfl, hb5⟩
        have HN := hidB hno
        clear hr hno
        go_wp2_with fail
        refine (get_no l a c (-1) _ (hl4.later hb5) HG.out.neg).mono ?_
        rintro e w6 ⟨rfl, hb6⟩
        have HB6 := bthen (bthen HB4 hb5) hb6
        have hl6 := (hl4.later hb5).later hb6
        have HV6 : Hid (HeldAt w6 w.heap.size B) := (HV4.out.later hb5).later hb6
        clear hl4 HV4 HB4 hb5 hb6
        go_wp2_with fail
        go_loopw [17] (fun i w7 => ∃ n : Nat, n ≤ l.length ∧ i = .int .i64 n ∧ Below w6.heap.size w6 w7) (fun i _ => l.length - (intOf i).toNat)
        case atStart => exact ⟨0, by omega, rfl, by repeat (first | with_reducible exact Below.refl _ _ | with_reducible refine balloc ?_ _ | with_reducible refine bdrew ?_ | with_reducible refine bset' ?_ (by omega) _ | with_reducible refine bthen ?_ (by assumption))⟩
        case round =>
          obtain ⟨n, hn, rfl, HB⟩ := hrel
          by_cases hlt' : n < l.length
          · have h0 : l ≠ [] := by rintro rfl; exact absurd hlt' (Nat.not_lt_zero _)
            have hl7 := hl6.later HB
            obtain ⟨b, o, rfl⟩ := hl7.form.resolve_left h0
            obtain ⟨c0, c1, c2, c3⟩ := hl7.cells hlt'
            have l0 := ltB_of_cell c0
            have HV7 : Hid (HeldAt wr w.heap.size B) := HV6.out.later HB
            have HW := hidB HB
            clear HB h0 hl6 hl7 HV6
            cases hdd : l[n].dirty
            · rw [hdd] at c2
              clear hdd HN
              go_wp2_with fail
              refine wp_region_later (by first | exact HB | exact bdrew HB | exact Below.refl _ _) (by kernel_rfl) (by kernel_rfl) ?_
              repeat (go_big_quiet_step (first | exact rfl | (go_at_call 23; exact calls_later (holdC_any _ _ B _ (HV7.out.later (Later.below _)) _ rfl))))
              refine wpQuiet_nil ?_; intro _ hw'; obtain ⟨p, hw''⟩ := hw'; subst hw''; (try clear hc hf hz); (try clear HB); have HB := p.below; obtain ⟨hc, hf, hz⟩ := bcell HB
              go_wp2
              go_roundw
              case rel => exact ⟨n + 1, by omega, by go_num, bthen HW.out HB⟩
              case measure => simp [intOf]; omega
            · have hho : holdB B l[n].pl = true := by
                have := HN.out n hlt' hlt'
                rw [fitB, hdd] at this
                simpa using this
              rw [hdd] at c2
              clear hdd HN
              go_wp2_with fail
              refine wp_region_later (by first | exact HB | exact bdrew HB | exact Below.refl _ _) (by kernel_rfl) (by kernel_rfl) ?_
              repeat (go_big_quiet_step (first | exact rfl | (go_at_call 23; exact calls_later (holdC_any _ _ B _ (HV7.out.later (Later.below _)) _ hho))))
              refine wpQuiet_nil ?_; intro _ hw'; obtain ⟨p, hw''⟩ := hw'; subst hw''; (try clear hc hf hz); (try clear HB); have HB := p.below; obtain ⟨hc, hf, hz⟩ := bcell HB
              go_wp2
              go_roundw
              case rel => exact ⟨n + 1, by omega, by go_num, bthen HW.out HB⟩
              case measure => simp [intOf]; omega
          · go_wp2
            go_ret
            exact ⟨rfl, bthen HB6 HB⟩
      · have hjd : l[j].dirty = true ∧ holdB B l[j].pl = false := by
          rw [fitB, Bool.and_eq_true] at hF
          refine ⟨by simpa using hF.1, by simpa using hF.2⟩
        obtain ⟨hjd1, hjd2⟩ := hjd
        have hj0 := (HG.out.ok j hj).1
        have g0 : decide (0 ≤ l[j].pl) = true := decide_eq_true hj0
        have g1 : decide (l[j].pl < 0) = false := decide_eq_false (by omega)
        refine (pick_yes 23 (by intro args w; go_simp) #[.pointer (some ⟨w.heap.size, 0, none⟩)] (holdB B) l a c _ hl4 (holdQ _ _ _ HV4.out) j hj hr).mono ?_
        rintro e w5 ⟨rfl, hb5⟩
        have HN := hidB hmin
        clear hr hmin hF
        go_wp2_with fail
        refine (get_yes l a c l[j].pl _ (hl4.later hb5) j hj (HG.out.at j hj)).mono ?_
        rintro e w6 ⟨rfl, hb6⟩
        have HB6 := bthen (bthen HB4 hb5) hb6
        have hl6 := (hl4.later hb5).later hb6
        have HV6 : Hid (HeldAt w6 w.heap.size B) := (HV4.out.later hb5).later hb6
        have HJ := hidB hjd2
        clear hl4 HV4 HB4 hb5 hb6 hjd2
        go_wp2_with fail
        refine (holdC_any l[j].pl w.heap.size B _ (HV6.out.later (by repeat (first | with_reducible exact Below.refl _ _ | with_reducible refine balloc ?_ _ | with_reducible refine bdrew ?_ | with_reducible refine bset' ?_ (by omega) _ | with_reducible refine bthen ?_ (by assumption)))) _ HJ.out).mono ?_
        rintro e w8 ⟨rfl, hb8⟩
        obtain ⟨⟨y0, y1, y2, y3⟩, -, -⟩ := quadNew hb8
        have HB8 : Below w6.heap.size w6 w8 := by repeat (first | with_reducible exact Below.refl _ _ | with_reducible refine balloc ?_ _ | with_reducible refine bdrew ?_ | with_reducible refine bset' ?_ (by omega) _ | with_reducible refine bthen ?_ (by assumption))
        clear hb8 HJ
        go_wp2_with fail
        go_loopw [17] (fun i w7 => ∃ n : Nat, n ≤ l.length ∧ i = .int .i64 n ∧ Below w8.heap.size w8 w7) (fun i _ => l.length - (intOf i).toNat)
        case atStart => exact ⟨0, by omega, rfl, by repeat (first | with_reducible exact Below.refl _ _ | with_reducible refine balloc ?_ _ | with_reducible refine bdrew ?_ | with_reducible refine bset' ?_ (by omega) _ | with_reducible refine bthen ?_ (by assumption))⟩
        case round =>
          obtain ⟨n, hn, rfl, HB⟩ := hrel
          by_cases hlt' : n < l.length
          · have h0 : l ≠ [] := by rintro rfl; exact absurd hlt' (Nat.not_lt_zero _)
            have hl7 := hl6.later (bthen HB8 HB)
            obtain ⟨b, o, rfl⟩ := hl7.form.resolve_left h0
            obtain ⟨c0, c1, c2, c3⟩ := hl7.cells hlt'
            have l0 := ltB_of_cell c0
            have HV7 : Hid (HeldAt wr w.heap.size B) := HV6.out.later (bthen HB8 HB)
            have HW := hidB HB
            replace y0 := cellB_later' HB y0
            replace y1 := cellB_later' HB y1
            replace y2 := cellB_later' HB y2
            replace y3 := cellB_later' HB y3
            have ly := ltB_of_cell y0
            clear HB h0 hl6 hl7 HV6
            cases hdd : l[n].dirty
            · rw [hdd] at c2
              clear hdd HN
              go_wp2_with fail
              refine wp_region_later (by first | exact HB | exact bdrew HB | exact Below.refl _ _) (by kernel_rfl) (by kernel_rfl) ?_
              repeat (go_big_quiet_step (first | exact rfl | (go_at_call 23; exact calls_later (holdC_any _ _ B _ (HV7.out.later (Later.below _)) _ rfl))))
              refine wpQuiet_nil ?_; intro _ hw'; obtain ⟨p, hw''⟩ := hw'; subst hw''; (try clear hc hf hz); (try clear HB); have HB := p.below; obtain ⟨hc, hf, hz⟩ := bcell HB
              go_wp2
              go_roundw
              case rel => exact ⟨n + 1, by omega, by go_num, bthen HW.out HB⟩
              case measure => simp [intOf]; omega
            · cases hho : holdB B l[n].pl
              · have hu : decide (l[n].used < l[j].used) = false := by
                  have := HN.out n hlt' hlt' (by rw [fitB, hdd, hho]; rfl)
                  exact decide_eq_false (by omega)
                rw [hdd] at c2
                clear hdd HN
                go_wp2_with fail
                refine wp_region_later (by first | exact HB | exact bdrew HB | exact Below.refl _ _) (by kernel_rfl) (by kernel_rfl) ?_
                repeat (go_big_quiet_step (first | exact rfl | (go_at_call 23; exact calls_later (holdC_any _ _ B _ (HV7.out.later (Later.below _)) _ hho))))
                refine wpQuiet_nil ?_; intro _ hw'; obtain ⟨p, hw''⟩ := hw'; subst hw''; (try clear hc hf hz); (try clear HB); have HB := p.below; obtain ⟨hc, hf, hz⟩ := bcell HB
                go_wp2
                go_roundw
                case rel => exact ⟨n + 1, by omega, by go_num, bthen HW.out HB⟩
                case measure => simp [intOf]; omega
              · rw [hdd] at c2
                clear hdd HN
                go_wp2_with fail
                refine wp_region_later (by first | exact HB | exact bdrew HB | exact Below.refl _ _) (by kernel_rfl) (by kernel_rfl) ?_
                repeat (go_big_quiet_step (first | exact rfl | (go_at_call 23; exact calls_later (holdC_any _ _ B _ (HV7.out.later (Later.below _)) _ hho))))
                refine wpQuiet_nil ?_; intro _ hw'; obtain ⟨p, hw''⟩ := hw'; subst hw''; (try clear hc hf hz); (try clear HB); have HB := p.below; obtain ⟨hc, hf, hz⟩ := bcell HB
                go_wp2
                go_roundw
                case rel => exact ⟨n + 1, by omega, by go_num, bthen HW.out HB⟩
                case measure => simp [intOf]; omega
          · go_wp2
            go_ret
            exact ⟨rfl, bthen HB6 (bthen HB8 HB)⟩
end Go.Proofs.Ytfdmchhaiikeaad
