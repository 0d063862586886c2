/- TopCache: the walk. -/
import Derived.Test.YtpmjgofjdejeeadCache14
import Derived.Test.YtpmjgofjdejeeadTopLately
namespace Go.Proofs.Ytpmjgofjdejeead
open Go.RowKit Go.BigFrame
attribute [local go_sem] Later.cell Later.frozen

theorem heldNewT {w : World} {hs : Array Value} {B : Nat → Bool} {T : TypeId} (hB : ∀ i, i < 32 → hs[i]? = some (.bool (B i))) : HeldAt (w.alloc (.cells hs T)) w.heap.size B := by
  intro i hi
  have := hB i hi
  have h := heap_alloc_new w (.cells hs T)
  simp only [World.cell?, h]
  exact this
set_option maxHeartbeats 1000000 in
theorem holdT_any (n : Int) (pb : Nat) (B : Nat → Bool) (w : World) (hB : HeldAt w pb B) (t : Bool) (ht : holdB B n = t) :
    Calls Try.prog 19 #[.int .i64 n, .pointer (some ⟨pb, 0, none⟩)] w fun e w' => e = .returned (.bool t) ∧ Below w.heap.size w w' := by
  subst ht
  by_cases h0 : 0 ≤ n
  · by_cases h1 : n < 32
    · obtain ⟨k, rfl⟩ := Int.eq_ofNat_of_zero_le h0
      have hk : k < 32 := by omega
      have hc := hB k hk
      have e : holdB B (k : Int) = B k := by rw [holdB, decide_eq_true h0, decide_eq_true h1]; simp
      rw [e]
      clear e hB
      go_enter Try.func19, Try.ntmps19
      go_wp2
      go_ret
      exact ⟨rfl, by repeat (first | with_reducible exact Below.refl _ _ | with_reducible refine balloc ?_ _ | with_reducible refine bdrew ?_ | with_reducible refine bset' ?_ (by omega) _ | with_reducible refine bthen ?_ (by assumption))⟩
    · have e : holdB B n = false := by simp [holdB, h1]
      rw [e]
      go_enter Try.func19, Try.ntmps19
      go_wp2
      go_ret
      exact ⟨rfl, by repeat (first | with_reducible exact Below.refl _ _ | with_reducible refine balloc ?_ _ | with_reducible refine bdrew ?_ | with_reducible refine bset' ?_ (by omega) _ | with_reducible refine bthen ?_ (by assumption))⟩
  · have e : holdB B n = false := by simp [holdB, h0]
    rw [e]
    go_enter Try.func19, Try.ntmps19
    go_wp2
    go_ret
    exact ⟨rfl, by repeat (first | with_reducible exact Below.refl _ _ | with_reducible refine balloc ?_ _ | with_reducible refine bdrew ?_ | with_reducible refine bset' ?_ (by omega) _ | with_reducible refine bthen ?_ (by assumption))⟩
theorem run_assertT (n : Int) (w : World) : Sem.run Try.prog (Instr.typeAssert (.iface 37 (.int .i64 n)) 35 37 true) w = .ok (.tuple #[.int .i64 n, .bool true]) w := by kernel_rfl
set_option maxHeartbeats 1000000 in
theorem number7 (w : World) : Calls Try.prog 15 #[.iface 37 (.int .i64 7)] w fun e w' => e = .returned (.int .i64 7) ∧ Below w.heap.size w w' := by
  have ra := run_assertT 7
  go_enter Try.func15, Try.ntmps15
  go_wp2
  go_ret
  exact ⟨rfl, by repeat (first | with_reducible exact Below.refl _ _ | with_reducible refine balloc ?_ _ | with_reducible refine bdrew ?_ | with_reducible refine bset' ?_ (by omega) _ | with_reducible refine bthen ?_ (by assumption))⟩
def bfT : Bf := ⟨3, ⟨#[120]⟩, false, 0⟩
theorem put0 {w' : World} {e : Ending} (h : PutOut [] bfT (fun _ => false) w' e) : ∃ (m : List Bf) (a' : Option Addr) (c' : Nat), m.length = 1 ∧ e = .returned (.tuple #[.slice a' m.length c', .nilIface]) := by
  rcases h with ⟨m, a', c', hm, he, _⟩ | ⟨_, h8, _⟩
  · refine ⟨m, a', c', ?_, he⟩
    rcases hm with ⟨k, hk, _⟩ | ⟨_, _, rfl⟩ | ⟨_, h8, _⟩
    · exact absurd hk (Nat.not_lt_zero _)
    · rw [insL_length]; rfl
    · cases h8
  · cases h8

/-- How many have gone. -/
def goneB (K k : Nat) : Int := if K < k then 1 else 0
theorem goneB_same {K k : Nat} (h : k ≠ K) : goneB K (k + 1) = goneB K k := by unfold goneB; split <;> split <;> omega
theorem goneB_0 {K k : Nat} (h : k ≤ K) : goneB K k = 0 := by unfold goneB; split <;> omega
theorem goneB_1 {K k : Nat} (h : K < k) : goneB K k = 1 := by unfold goneB; split <;> omega
set_option maxRecDepth 100000 in
set_option maxHeartbeats 4000000 in
theorem tk_walk (l : List Bf) (a : Option Addr) (c : Nat) (x : Bf) (hs : Array Value) (B : Nat → Bool) (w : World) (hl : BufsAt w a l) (hn : a = none → c = 0) (hd : x.data.size ≤ 9223372036854775807) (hB : ∀ i, i < 32 → hs[i]? = some (.bool (B i))) :
    Calls Try.prog 4 #[.slice a l.length c, x.val, .agg hs] w fun e w' => e = .returned (.bool true) ∧ Below w.heap.size w w' := by
  have hlen := hl.2
  go_enter Try.func4, Try.ntmps4
  go_wp2_with fail
  refine (put_any 17 (by intro args w; go_simp) #[] (fun _ => false) [] none 0 bfT _ ⟨Or.inl rfl, by simp⟩ (fun _ => rfl) (by simp) (fun n w' _ => none_any n w')).mono ?_
  rintro e w1 ⟨hout, hb1⟩
  obtain ⟨m0, a0, c0, hm0, rfl⟩ := put0 hout
  have HB1 : Below w.heap.size w w1 := by repeat (first | with_reducible exact Below.refl _ _ | with_reducible refine balloc ?_ _ | with_reducible refine bdrew ?_ | with_reducible refine bset' ?_ (by omega) _ | with_reducible refine bthen ?_ (by assumption))
  have F1 : FourB w1 w.heap.size x := FourB.later (FourB.later ⟨by simp, by simp, by simp, by simp⟩ (below1 _ _)) hb1
  have HV : HeldAt ((w.alloc (.cells #[.int .i64 x.pl, .string x.data, .bool x.dirty, .int .i64 x.used] 47)).alloc (.cells hs 48)) (w.heap.size + 1) B := by
    have := heldNewT (w := w.alloc (.cells #[.int .i64 x.pl, .string x.data, .bool x.dirty, .int .i64 x.used] 47)) (T := 48) hB
    simpa using this
  have HV1 := hidB (HV.later hb1)
  have hl1 := hl.later HB1
  clear hout hb1 HV hB
  rw [hm0]
  clear hm0
  obtain ⟨p0, p1, p2, p3⟩ := id F1
  cases hg : goodBB l
  · go_wp2_with fail
    refine (goodb_any l a c _ hl1 _ hg).mono ?_
    rintro e w2 ⟨rfl, hb2⟩
    go_wp2
    go_ret
    exact ⟨rfl, bthen HB1 hb2⟩
  have G := goodB_of hg
  go_wp2_with fail
  refine (goodb_any l a c _ hl1 _ hg).mono ?_
  rintro e w2 ⟨rfl, hb2⟩
  have F2 := F1.later hb2
  have HB2 := bthen HB1 hb2
  have hl2 := hl1.later hb2
  have HV2 := hidB (HV1.out.later hb2)
  clear F1 HB1 hl1 hb2 p0 p1 p2 p3 hg HV1
  obtain ⟨p0, p1, p2, p3⟩ := id F2
  by_cases q1 : x.pl < 0
  · go_wp2
    go_ret
    exact ⟨rfl, HB2⟩
  by_cases q2 : 32 ≤ x.pl
  · go_wp2
    go_ret
    exact ⟨rfl, HB2⟩
  by_cases q3 : 10 < x.data.size
  · go_wp2
    go_ret
    exact ⟨rfl, HB2⟩
  have HG := hidB G
  clear G
  go_wp2_with fail
  refine (put_any 19 (by intro args w; go_simp) #[.pointer (some ⟨w.heap.size + 1, 0, none⟩)] (holdB B) l a c x _ hl2 hn HG.out.len (fun n w' hb => holdT_any n _ B w' (HV2.out.later hb) _ rfl)).mono ?_
  rintro e w3 ⟨hout, hb3⟩
  have HB3 := bthen HB2 hb3
  have hl3 := hl2.later hb3
  have F3 := F2.later hb3
  have HV3 := hidB (HV2.out.later hb3)
  clear HB2 hl2 hb3 F2 p0 p1 p2 p3 HV2
  obtain ⟨p0, p1, p2, p3⟩ := id F3
  rcases hout with ⟨m, a3, c3, hP, rfl, hm3, -⟩ | ⟨-, h8, -, rfl⟩
  · obtain ⟨K, hK⟩ := hP.facts HG.out
    have HK := hidB hK
    obtain ⟨j, hj, hij, hjx⟩ := at_mem hK.rise hK.has
    have hm8 := hK.len
    have hge := hidB hij
    have HX := hidB hjx
    clear hP hK hij hjx
    have hgd : Try.prog.eqGuardType Try.prog.depth 47 = false := by kernel_rfl
    have hq : ∀ w, (binOp .neq 47 (.agg #[.int .i64 x.pl, .string x.data, .bool x.dirty, .int .i64 x.used]) (.agg #[.int .i64 x.pl, .string x.data, .bool x.dirty, .int .i64 x.used])).run Try.prog w = .ok (.bool false) w := fun w => neqSelf x w
    go_wp2_with fail
    refine (get_yes m a3 _ x.pl _ hm3 j hj hge.out).mono ?_
    rintro e w4 ⟨rfl, hb4⟩
    rw [HX.out]
    have HB4 := bthen HB3 hb4
    have hl4 := hl3.later hb4
    have hm4 := hm3.later hb4
    have F4 := F3.later hb4
    have HV4 := hidB (HV3.out.later hb4)
    clear HB3 hl3 hb4 F3 p0 p1 p2 p3 HV3 hm3
    obtain ⟨p0, p1, p2, p3⟩ := id F4
    have lx := ltB_of_cell p0
    go_wp2_with fail
    have HB4' : Below w.heap.size w (w4.alloc (.cells #[.int .i64 x.pl, .string x.data, .bool x.dirty, .int .i64 x.used] 47)) := by repeat (first | with_reducible exact Below.refl _ _ | with_reducible refine balloc ?_ _ | with_reducible refine bdrew ?_ | with_reducible refine bset' ?_ (by omega) _ | with_reducible refine bthen ?_ (by assumption))
    have b5 := below1 w4 (.cells #[.int .i64 x.pl, .string x.data, .bool x.dirty, .int .i64 x.used] 47)
    have hl5 := hl4.later b5
    have hm5 := hm4.later b5
    have F5 := F4.later b5
    have HV5 := hidB (HV4.out.later b5)
    clear b5 hl4 hm4 F4 HV4 HB4 p0 p1 p2 p3 lx
    obtain ⟨w5, hw5⟩ : ∃ w5, w5 = w4.alloc (.cells #[.int .i64 x.pl, .string x.data, .bool x.dirty, .int .i64 x.used] 47) := ⟨_, rfl⟩
    rw [← hw5] at HB4' hl5 hm5 F5 HV5 ⊢
    clear hw5
    go_loopw [13, 14] (fun g i wr => ∃ k : Nat, k ≤ l.length ∧ i = .int .i64 k ∧ g = .int .i64 (goneB K k) ∧ Below w5.heap.size w5 wr) (fun _ i _ => l.length - (intOf i).toNat)
    case atStart => exact ⟨0, by omega, rfl, by rw [goneB_0 (Nat.zero_le _)], Below.refl _ _⟩
    case round =>
      obtain ⟨k, hk, rfl, rfl, HB⟩ := hrel
      by_cases hlt : k < l.length
      · have h0 : l ≠ [] := by rintro rfl; exact absurd hlt (Nat.not_lt_zero _)
        obtain ⟨b, o, rfl⟩ := hl5.form.resolve_left h0
        have hl6 := hl5.later HB
        have hm6 := hm5.later HB
        have F6 := F5.later HB
        obtain ⟨p0, p1, p2, p3⟩ := id F6
        obtain ⟨c0, c1, c2, c3⟩ := hl6.cells hlt
        have lx := ltB_of_cell p0
        have lc := ltB_of_cell c0
        clear h0 hl5 hm5 hn
        by_cases hpl : l[k].pl = x.pl
        · have hkK : k ≠ K := by rintro rfl; exact (HK.out.gone hlt).2.2.2.2 hpl
          have HGS := hidB (goneB_same hkK)
          have hij' : idxB (plB l[k].pl) m = j := by rw [hpl]; exact hge.out
          have s1 : (l[k].pl == x.pl) = true := by rw [hpl]; simp
          have HPL := hidB hpl
          clear hpl hkK
          go_wp2_with fail
          refine (get_yes m a3 _ l[k].pl _ hm6 j hj hij').mono ?_
          rintro e w7 ⟨rfl, hb7⟩
          have F7 := F6.later hb7
          have hl7 := hl6.later hb7
          have HB7 := bthen HB hb7
          clear p0 p1 p2 p3 c0 c1 c2 c3 lx lc hm6 hl6 F6 hb7 HB
          obtain ⟨p0, p1, p2, p3⟩ := id F7
          obtain ⟨c0, c1, c2, c3⟩ := hl7.cells hlt
          have lx := ltB_of_cell p0
          have lc := ltB_of_cell c0
          have HW := hidB HB7
          clear HB7
          go_wp2_with fail
          refine wp_region_later (by first | exact HB | exact bdrew HB | exact Below.refl _ _) (by kernel_rfl) (by kernel_rfl) ?_
          repeat (go_big_quiet_step (first | exact rfl | fail))
          refine wpQuiet_nil ?_; intro _ hw'; obtain ⟨p, hw''⟩ := hw'; subst hw''; (try clear hc hf hz); (try clear HB); have HB := p.below; obtain ⟨hc, hf, hz⟩ := bcell HB
          go_wp2
          go_roundw
          case rel => exact ⟨k + 1, by omega, by go_num, by rw [HGS.out], bthen (balloc HW.out _) HB⟩
          case measure => simp [intOf]; omega
        · by_cases hkK : k = K
          · subst hkK
            obtain ⟨g8, gd, gh, gi, gx⟩ := HK.out.gone hlt
            have s1 : (l[k].pl == x.pl) = false := by rw [beq_eq_false_iff_ne]; exact hpl
            have g0 : goneB k k = 0 := goneB_0 (Nat.le_refl _)
            have g1 : goneB k (k + 1) = 1 := goneB_1 (by omega)
            have HG1 := hidB g1
            rw [g0]
            have HV6 := hidB (HV5.out.later HB)
            have HGH := hidB gh
            have HGI := hidB gi
            clear g0 g1 gh gi gx g8 hpl HV5
            rw [gd] at c2
            go_wp2_with fail
            refine (get_no m a3 _ l[k].pl _ hm6 HGI.out).mono ?_
            rintro e w7 ⟨rfl, hb7⟩
            have F7 := F6.later hb7
            have hl7 := hl6.later hb7
            have HV7 := hidB (HV6.out.later hb7)
            have HB7 := bthen HB hb7
            clear p0 p1 p2 p3 c0 c1 c2 c3 lx lc hm6 hl6 F6 hb7 HB HV6
            obtain ⟨p0, p1, p2, p3⟩ := id F7
            obtain ⟨c0, c1, c2, c3⟩ := hl7.cells hlt
            rw [gd] at c2
            have lx := ltB_of_cell p0
            have lc := ltB_of_cell c0
            have HW := hidB HB7
            clear HB7 gd
            go_wp2_with fail
            refine wp_region_later (by first | exact HB | exact bdrew HB | exact Below.refl _ _) (by kernel_rfl) (by kernel_rfl) ?_
            repeat (go_big_quiet_step (first | exact rfl | fail))
            refine wpQuiet_nil ?_; intro _ hw'; obtain ⟨p, hw''⟩ := hw'; subst hw''; (try clear hc hf hz); (try clear HB); have HB := p.below; obtain ⟨hc, hf, hz⟩ := bcell HB
            clear hc hf hz
            generalize p.v = w8 at HB ⊢
            have bb := bthen (below1 w7 _) HB
            have hl8 := hl7.later bb
            have HV8 := hidB (HV7.out.later bb)
            have HW8 := hidB (bthen HW.out bb)
            clear HB bb hl7 HV7 HW p0 p1 p2 p3 c0 c1 c2 c3 lx lc F7
            obtain ⟨c0, c1, c2, c3⟩ := hl8.cells hlt
            rw [(HK.out.gone hlt).2.1] at c2
            have lc := ltB_of_cell c0
            go_wp2_with fail
            refine (holdT_any l[k].pl _ B _ HV8.out _ HGH.out).mono ?_
            rintro e w9 ⟨rfl, hb9⟩
            go_wp2
            go_roundw
            case rel => exact ⟨k + 1, by omega, by go_num, by rw [HG1.out], bthen HW8.out hb9⟩
            case measure => simp [intOf]; omega
          · obtain ⟨j', hj', hij', hjx'⟩ := at_mem HK.out.rise (HK.out.kept k hlt hpl hkK)
            have HGS := hidB (goneB_same hkK)
            have HJX := hidB hjx'
            have HIJ := hidB hij'
            have s1 : (l[k].pl == x.pl) = false := by rw [beq_eq_false_iff_ne]; exact hpl
            have hql : ∀ w, (binOp .neq 47 (.agg #[.int .i64 l[k].pl, .string l[k].data, .bool l[k].dirty, .int .i64 l[k].used]) (.agg #[.int .i64 l[k].pl, .string l[k].data, .bool l[k].dirty, .int .i64 l[k].used])).run Try.prog w = .ok (.bool false) w := fun w => neqSelf l[k] w
            clear hpl hkK hjx' hij'
            go_wp2_with fail
            refine (get_yes m a3 _ l[k].pl _ hm6 j' hj' HIJ.out).mono ?_
            rintro e w7 ⟨rfl, hb7⟩
            rw [HJX.out]
            have F7 := F6.later hb7
            have hl7 := hl6.later hb7
            have HB7 := bthen HB hb7
            clear p0 p1 p2 p3 c0 c1 c2 c3 lx lc hm6 hl6 F6 hb7 HB
            obtain ⟨p0, p1, p2, p3⟩ := id F7
            obtain ⟨c0, c1, c2, c3⟩ := hl7.cells hlt
            have lx := ltB_of_cell p0
            have lc := ltB_of_cell c0
            have HW := hidB HB7
            clear HB7
            go_wp2_with fail
            refine wp_region_later (by first | exact HB | exact bdrew HB | exact Below.refl _ _) (by kernel_rfl) (by kernel_rfl) ?_
            repeat (go_big_quiet_step (first | exact rfl | fail))
            refine wpQuiet_nil ?_; intro _ hw'; obtain ⟨p, hw''⟩ := hw'; subst hw''; (try clear hc hf hz); (try clear HB); have HB := p.below; obtain ⟨hc, hf, hz⟩ := bcell HB
            clear hc hf hz
            generalize p.v = w8 at HB ⊢
            obtain ⟨⟨y0, y1, y2, y3⟩, -, -⟩ := quadNew HB
            have bb := bthen (below1 w7 _) HB
            have hl8 := hl7.later bb
            have HW8 := hidB (bthen HW.out bb)
            clear HB bb hl7 HW p0 p1 p2 p3 c0 c1 c2 c3 lx lc F7
            obtain ⟨c0, c1, c2, c3⟩ := hl8.cells hlt
            have lc := ltB_of_cell c0
            have ly := ltB_of_cell y0
            go_wp2_with fail
            refine wp_region_later (by first | exact HB | exact bdrew HB | exact Below.refl _ _) (by kernel_rfl) (by kernel_rfl) ?_
            repeat (go_big_quiet_step (first | exact rfl | fail))
            refine wpQuiet_nil ?_; intro _ hw'; obtain ⟨p, hw''⟩ := hw'; subst hw''; (try clear hc hf hz); (try clear HB); have HB := p.below; obtain ⟨hc, hf, hz⟩ := bcell HB
            go_wp2
            go_roundw
            case rel => exact ⟨k + 1, by omega, by go_num, by rw [HGS.out], bthen HW8.out HB⟩
            case measure => simp [intOf]; omega
      · obtain rfl : k = l.length := by omega
        have hm6 := hm5.later HB
        have HB6 := bthen HB4' HB
        clear hm5 HB hl5 F5 HV5 HB4' hn
        have hfin : ∃ g : Int, goneB K l.length = g ∧ (g = 0 ∨ g = 1 ∧ l.length = 8) := by
          refine ⟨_, rfl, ?_⟩
          by_cases h : K < l.length
          · exact Or.inr ⟨goneB_1 h, (HK.out.gone h).1⟩
          · exact Or.inl (goneB_0 (by omega))
        obtain ⟨g, hg, hgg⟩ := hfin
        rw [hg]
        have HRI := hidB HK.out.rise
        clear hg HK
        go_wp2_with fail
        go_loopw [17] (fun i w7 => ∃ n : Nat, 1 ≤ n ∧ i = .int .i64 n ∧ Below wr.heap.size wr w7) (fun i _ => m.length + 1 - (intOf i).toNat)
        case atStart => exact ⟨1, Nat.le_refl _, rfl, by repeat (first | with_reducible exact Below.refl _ _ | with_reducible refine balloc ?_ _ | with_reducible refine bdrew ?_ | with_reducible refine bset' ?_ (by omega) _ | with_reducible refine bthen ?_ (by assumption))⟩
        case round =>
          obtain ⟨n, hn1, rfl, HB⟩ := hrel
          by_cases hlt' : n < m.length
          · have h0 : m ≠ [] := by rintro rfl; exact absurd hlt' (Nat.not_lt_zero _)
            have hm7 := hm6.later HB
            obtain ⟨b3, o3, rfl⟩ := hm7.form.resolve_left h0
            obtain ⟨c0, c1, c2, c3⟩ := hm7.cells hlt'
            obtain ⟨n', rfl⟩ : ∃ n', n = n' + 1 := ⟨n - 1, by omega⟩
            have hlt2 : n' < m.length := by omega
            obtain ⟨d0, d1, d2, d3⟩ := hm7.cells hlt2
            have hri : decide (m[n' + 1].pl ≤ m[n'].pl) = false := by
              have := List.pairwise_iff_getElem.1 HRI.out n' (n' + 1) hlt2 hlt' (by omega)
              simp only [ltB] at this
              exact decide_eq_false (by omega)
            have lc := ltB_of_cell c0
            have HW := hidB HB
            clear HB h0 hm7 HRI
            have g5 : IntKind.i64.wrap ((n' : Int) + 1 - 1) = (n' : Int) := by rw [IntKind.wrap_i64]; omega
            have hj0 : (0 : Int) ≤ (n' : Int) := by omega
            have hj1 : (n' : Int) < (m.length : Int) := by omega
            go_wp2_with fail
            refine wp_region_later (by first | exact HB | exact bdrew HB | exact Below.refl _ _) (by kernel_rfl) (by kernel_rfl) ?_
            repeat (go_big_quiet_step (first | exact rfl | fail))
            refine wpQuiet_nil ?_; intro _ hw'; obtain ⟨p, hw''⟩ := hw'; subst hw''; (try clear hc hf hz); (try clear HB); have HB := p.below; obtain ⟨hc, hf, hz⟩ := bcell HB
            go_wp2
            go_roundw
            case rel => exact ⟨n' + 1 + 1, by omega, by go_num, bthen HW.out HB⟩
            case measure => simp [intOf]; omega
          · rcases hgg with rfl | ⟨rfl, h8⟩
            · go_wp2
              go_ret
              exact ⟨rfl, bthen HB6 HB⟩
            · have h8' : (l.length : Int) = 8 := by omega
              go_wp2
              go_ret
              exact ⟨rfl, bthen HB6 HB⟩
  · have h8' : (l.length : Int) = 8 := by omega
    go_wp2_with fail
    refine (number7 _).mono ?_
    rintro e w4 ⟨rfl, hb4⟩
    go_wp2
    go_ret
    exact ⟨rfl, bthen HB3 hb4⟩
end Go.Proofs.Ytpmjgofjdejeead
