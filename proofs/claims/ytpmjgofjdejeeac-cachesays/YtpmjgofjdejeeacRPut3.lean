/- The document's answer on sectors at hand: PutBuf: the walk. -/
import Derived.Test.YtpmjgofjdejeeacRPut
namespace Go.Proofs.Ytpmjgofjdejeeac
open Go.RowKit Go.BigFrame
attribute [local go_sem] Later.cell Later.frozen

set_option maxRecDepth 100000 in
set_option maxHeartbeats 2000000 in
theorem rput_room (l : List Bf) (a : Option Addr) (c : Nat) (x : Bf) (hs : Array Value) (w : World) (hl : BufsAt w a l) (G : GoodB l) (h8 : l.length < 8) (hi : idxB (plB x.pl) l = -1) :
    Calls Try.prog 43 #[.slice a l.length c, x.val, .agg hs] w fun e w' => ∃ M a' c', e = .returned (.tuple #[.slice a' M.length c', .int .i64 0]) ∧ BufsAt w' a' M ∧ RefM l x (-1) M ∧ Below w.heap.size w w' := by
  have hb3 := hl.2
  have HI := hidB hi
  clear hi
  have h8' : ¬ (8 : Int) ≤ (l.length : Int) := by omega
  go_enter Try.func43, Try.ntmps43
  go_wp2_with fail
  refine (rget_no l a c x.pl _ (hl.later (below2 _ _ _)) HI.out).mono ?_
  rintro e w1 ⟨rfl, hb1⟩
  have HB1 : Below w.heap.size w w1 := by repeat (first | with_reducible exact Below.refl _ _ | with_reducible refine balloc ?_ _ | with_reducible refine bdrew ?_ | with_reducible refine bset' ?_ (by omega) _ | with_reducible refine bthen ?_ (by assumption))
  have F1 : FourB w1 w.heap.size x := FourB.later (FourB.later ⟨by simp, by simp, by simp, by simp⟩ (below1 _ _)) hb1
  have hl1 := hl.later HB1
  obtain ⟨p0, p1, p2, p3⟩ := id F1
  clear hb1
  go_wp2_with fail
  have b2 := below1 w1 (.cells #[.int .i64 0, .string ⟨#[]⟩, .bool false, .int .i64 0] 72)
  have hlz := hl1.later b2
  have Fz := F1.later b2
  have HBz := bthen HB1 b2
  have G := hidB G
  clear b2 p0 p1 p2 p3 hl1 F1 HB1
  generalize hgg : (-1 : Int) = g
  have HGG := hidB hgg
  clear hgg
  generalize hWz : w1.alloc (.cells #[.int .i64 0, .string ⟨#[]⟩, .bool false, .int .i64 0] 72) = wz at hlz Fz HBz ⊢
  clear hWz
  obtain ⟨ib, hib, hz0, hz1, hz2⟩ := pluck infoB
  go_loopw [11, 12, 13] (fun out laid i wr => ∃ (k : Nat) (O : List Bf) (b : Bool), k ≤ l.length ∧ i = .int .i64 k ∧ laid = .bool b ∧ RPutK l x g k O b ∧ wr.ownsRow wz.heap.size 72 4 out O.length (bcells O) ∧ Below wz.heap.size wz wr) (fun _ _ i _ => l.length - (intOf i).toNat)
  case atStart => exact ⟨0, [], false, by omega, rfl, rfl, rputK_0 _ _ _, World.ownsRow_nil _ _ _ _, Below.refl _ _⟩
  case round =>
    rename_i u11
    obtain ⟨k, O, b, hk, rfl, rfl, hR, hown0, hbr⟩ := hrel
    have HR := hidB hR
    have HT0 := hidB hbr
    have hOl : O.length ≤ 2 * l.length := (by have := hR.len; omega)
    have HLN : Hid (O.length ≤ 16) := (by have := G.out.len; show O.length ≤ 16; omega)
    clear hR hbr hOl
    by_cases hlt : k < l.length
    · have h0 : l ≠ [] := by rintro rfl; exact absurd hlt (Nat.not_lt_zero _)
      obtain ⟨b0, o0, rfl⟩ := hlz.form.resolve_left h0
      obtain ⟨c0, c1, c2, c3⟩ := (hlz.later HT0.out).cells hlt
      obtain ⟨p0, p1, p2, p3⟩ := Fz.later HT0.out
      have lc := ltB_of_cell c0
      have lx := ltB_of_cell p0
      clear h0
      have hlt0 := hlt
      cases b
      · by_cases hxk : x.pl ≤ l[k].pl
        · by_cases hpl : l[k].pl = x.pl
          · have HN0 := hidB (rputK_step G.out hlt HR.out)
            have HRL : Hid (roundL l x g k hlt O false = O ++ [x]) := (by show roundL l x g k hlt O false = O ++ [x]; unfold roundL; rw [if_pos ⟨rfl, hxk⟩, if_neg (fun h => h.1 hpl)]; simp)
            have hd : decide (x.pl ≤ l[k].pl) = true := decide_eq_true hxk
            have hq1 : (l[k].pl == x.pl) = true := (by rw [hpl]; simp)
            have hq1b : (l[k].pl != x.pl) = false := (by simp [bne, hq1])
            have hq1c : (!(l[k].pl == x.pl)) = false := (by simp [hq1])
            have hq1d : decide (l[k].pl = x.pl) = true := (by simpa using hq1)
            have HD := hidB hd
            clear HR hpl hxk
            go_wp2_with fail
            refine wp_region_later (by first | exact HB | exact bdrew HB | exact Below.refl _ _) (by kernel_rfl) (by kernel_rfl) ?_
            repeat (go_big_quiet_step (first | exact rfl | fail))
            refine wpQuiet_nil ?_; intro _ hw'; obtain ⟨p, hw''⟩ := hw'; subst hw''; (try clear hc hf hz); (try clear HB); have HB := p.below; obtain ⟨hc, hf, hz⟩ := bcell HB
            clear hc hf hz
            generalize p.v = wq1 at HB ⊢
            have HT1 := hidB (bthen HT0.out HB)
            have hown1 := ownsRow_laterB hown0 HB
            clear HB c0 c1 c2 c3 p0 p1 p2 p3 lc lx HT0 hown0
            obtain ⟨c0, c1, c2, c3⟩ := (hlz.later HT1.out).cells hlt
            obtain ⟨p0, p1, p2, p3⟩ := Fz.later HT1.out
            have lc := ltB_of_cell c0
            have lx := ltB_of_cell p0
            have HO2 := hidB hown1
            have hsz2 := HT1.out.size
            go_wp2_with (at_builtin; refine wpList_append_row rfl _ _ 70 rfl wz.heap.size 72 ib _ 4 40 Try.underlying70 hib hz0 hz1 hz2 rfl (by decide) _ O.length (bcells O) rfl (ownsRow_laterB HO2.out (below1 _ _)) (some ⟨wq1.heap.size, 0, none⟩) 1 1 (bcells [x]) rfl (rowNew x wq1) (by unfold maxLen; have := HLN.out; omega) (by have := HLN.out; omega) (by simp only [World.size_alloc]; omega) ?_; intro v2 wq1b hown2 hbx)
            have HT2 := hidB (HT1.out.trans (((below1 wq1 _).mono (by omega)).trans hbx))
            clear hbx c0 c1 c2 c3 p0 p1 p2 p3 lc lx HO2 HT1 hown1 hsz2
            obtain ⟨c0, c1, c2, c3⟩ := (hlz.later HT2.out).cells hlt
            obtain ⟨p0, p1, p2, p3⟩ := Fz.later HT2.out
            have lc := ltB_of_cell c0
            have lx := ltB_of_cell p0
            go_wp2_with fail
            refine wp_region_later (by first | exact HB | exact bdrew HB | exact Below.refl _ _) (by kernel_rfl) (by kernel_rfl) ?_
            repeat (go_big_quiet_step (first | exact rfl | fail))
            refine wpQuiet_nil ?_; intro _ hw'; obtain ⟨p, hw''⟩ := hw'; subst hw''; (try clear hc hf hz); (try clear HB); have HB := p.below; obtain ⟨hc, hf, hz⟩ := bcell HB
            clear hc hf hz
            generalize p.v = wq2 at HB ⊢
            have HT3 := hidB (bthen HT2.out HB)
            have hown3 := ownsRow_laterB hown2 HB
            clear HB c0 c1 c2 c3 p0 p1 p2 p3 lc lx HT2 hown2
            obtain ⟨c0, c1, c2, c3⟩ := (hlz.later HT3.out).cells hlt
            obtain ⟨p0, p1, p2, p3⟩ := Fz.later HT3.out
            have lc := ltB_of_cell c0
            have lx := ltB_of_cell p0
            have HOF := hidB hown3
            clear hown3
            go_wp2
            go_roundw
            case rel => exact ⟨k + 1, O ++ [x], true, by omega, by go_num, rfl, by have h := HN0.out; rw [HRL.out, HD.out] at h; exact h, by have h := HOF.out; (try simp only [List.length_append, List.length_singleton, bcells_append]); exact h, HT3.out⟩
            case measure => simp [intOf]; omega
          · by_cases hkg : (k : Int) = g
            · have HN0 := hidB (rputK_step G.out hlt HR.out)
              have HRL : Hid (roundL l x g k hlt O false = O ++ [x]) := (by show roundL l x g k hlt O false = O ++ [x]; unfold roundL; rw [if_pos ⟨rfl, hxk⟩, if_neg (fun h => h.2 hkg)]; simp)
              have hd : decide (x.pl ≤ l[k].pl) = true := decide_eq_true hxk
              have hq1 : (l[k].pl == x.pl) = false := (by rw [beq_eq_false_iff_ne]; exact hpl)
              have hq1b : (l[k].pl != x.pl) = true := (by simp [bne, hq1])
              have hq1c : (!(l[k].pl == x.pl)) = true := (by simp [hq1])
              have hq1d : decide (l[k].pl = x.pl) = false := (by simpa using hq1)
              have hq2 : ((k : Int) == g) = true := (by rw [hkg]; simp)
              have hq2b : ((k : Int) != g) = false := (by simp [bne, hq2])
              have hq2c : (!((k : Int) == g)) = false := (by simp [hq2])
              have hq2d : decide ((k : Int) = g) = true := (by simpa using hq2)
              have HD := hidB hd
              clear hpl hkg HR hxk
              go_wp2_with fail
              refine wp_region_later (by first | exact HB | exact bdrew HB | exact Below.refl _ _) (by kernel_rfl) (by kernel_rfl) ?_
              repeat (go_big_quiet_step (first | exact rfl | fail))
              refine wpQuiet_nil ?_; intro _ hw'; obtain ⟨p, hw''⟩ := hw'; subst hw''; (try clear hc hf hz); (try clear HB); have HB := p.below; obtain ⟨hc, hf, hz⟩ := bcell HB
              clear hc hf hz
              generalize p.v = wq1 at HB ⊢
              have HT1 := hidB (bthen HT0.out HB)
              have hown1 := ownsRow_laterB hown0 HB
              clear HB c0 c1 c2 c3 p0 p1 p2 p3 lc lx HT0 hown0
              obtain ⟨c0, c1, c2, c3⟩ := (hlz.later HT1.out).cells hlt
              obtain ⟨p0, p1, p2, p3⟩ := Fz.later HT1.out
              have lc := ltB_of_cell c0
              have lx := ltB_of_cell p0
              have HO2 := hidB hown1
              have hsz2 := HT1.out.size
              go_wp2_with (at_builtin; refine wpList_append_row rfl _ _ 70 rfl wz.heap.size 72 ib _ 4 40 Try.underlying70 hib hz0 hz1 hz2 rfl (by decide) _ O.length (bcells O) rfl (ownsRow_laterB HO2.out (below1 _ _)) (some ⟨wq1.heap.size, 0, none⟩) 1 1 (bcells [x]) rfl (rowNew x wq1) (by unfold maxLen; have := HLN.out; omega) (by have := HLN.out; omega) (by simp only [World.size_alloc]; omega) ?_; intro v2 wq1b hown2 hbx)
              have HT2 := hidB (HT1.out.trans (((below1 wq1 _).mono (by omega)).trans hbx))
              clear hbx c0 c1 c2 c3 p0 p1 p2 p3 lc lx HO2 HT1 hown1 hsz2
              obtain ⟨c0, c1, c2, c3⟩ := (hlz.later HT2.out).cells hlt
              obtain ⟨p0, p1, p2, p3⟩ := Fz.later HT2.out
              have lc := ltB_of_cell c0
              have lx := ltB_of_cell p0
              go_wp2_with fail
              refine wp_region_later (by first | exact HB | exact bdrew HB | exact Below.refl _ _) (by kernel_rfl) (by kernel_rfl) ?_
              repeat (go_big_quiet_step (first | exact rfl | fail))
              refine wpQuiet_nil ?_; intro _ hw'; obtain ⟨p, hw''⟩ := hw'; subst hw''; (try clear hc hf hz); (try clear HB); have HB := p.below; obtain ⟨hc, hf, hz⟩ := bcell HB
              clear hc hf hz
              generalize p.v = wq2 at HB ⊢
              have HT3 := hidB (bthen HT2.out HB)
              have hown3 := ownsRow_laterB hown2 HB
              clear HB c0 c1 c2 c3 p0 p1 p2 p3 lc lx HT2 hown2
              obtain ⟨c0, c1, c2, c3⟩ := (hlz.later HT3.out).cells hlt
              obtain ⟨p0, p1, p2, p3⟩ := Fz.later HT3.out
              have lc := ltB_of_cell c0
              have lx := ltB_of_cell p0
              have HOF := hidB hown3
              clear hown3
              go_wp2
              go_roundw
              case rel => exact ⟨k + 1, O ++ [x], true, by omega, by go_num, rfl, by have h := HN0.out; rw [HRL.out, HD.out] at h; exact h, by have h := HOF.out; (try simp only [List.length_append, List.length_singleton, bcells_append]); exact h, HT3.out⟩
              case measure => simp [intOf]; omega
            · have HN0 := hidB (rputK_step G.out hlt HR.out)
              have HRL : Hid (roundL l x g k hlt O false = O ++ [x] ++ [l[k]]) := (by show roundL l x g k hlt O false = O ++ [x] ++ [l[k]]; unfold roundL; rw [if_pos ⟨rfl, hxk⟩, if_pos ⟨hpl, hkg⟩])
              have hd : decide (x.pl ≤ l[k].pl) = true := decide_eq_true hxk
              have hq1 : (l[k].pl == x.pl) = false := (by rw [beq_eq_false_iff_ne]; exact hpl)
              have hq1b : (l[k].pl != x.pl) = true := (by simp [bne, hq1])
              have hq1c : (!(l[k].pl == x.pl)) = true := (by simp [hq1])
              have hq1d : decide (l[k].pl = x.pl) = false := (by simpa using hq1)
              have hq2 : ((k : Int) == g) = false := (by rw [beq_eq_false_iff_ne]; exact hkg)
              have hq2b : ((k : Int) != g) = true := (by simp [bne, hq2])
              have hq2c : (!((k : Int) == g)) = true := (by simp [hq2])
              have hq2d : decide ((k : Int) = g) = false := (by simpa using hq2)
              have HD := hidB hd
              clear hpl hkg HR hxk
              go_wp2_with fail
              refine wp_region_later (by first | exact HB | exact bdrew HB | exact Below.refl _ _) (by kernel_rfl) (by kernel_rfl) ?_
              repeat (go_big_quiet_step (first | exact rfl | fail))
              refine wpQuiet_nil ?_; intro _ hw'; obtain ⟨p, hw''⟩ := hw'; subst hw''; (try clear hc hf hz); (try clear HB); have HB := p.below; obtain ⟨hc, hf, hz⟩ := bcell HB
              clear hc hf hz
              generalize p.v = wq1 at HB ⊢
              have HT1 := hidB (bthen HT0.out HB)
              have hown1 := ownsRow_laterB hown0 HB
              clear HB c0 c1 c2 c3 p0 p1 p2 p3 lc lx HT0 hown0
              obtain ⟨c0, c1, c2, c3⟩ := (hlz.later HT1.out).cells hlt
              obtain ⟨p0, p1, p2, p3⟩ := Fz.later HT1.out
              have lc := ltB_of_cell c0
              have lx := ltB_of_cell p0
              have HO2 := hidB hown1
              have hsz2 := HT1.out.size
              go_wp2_with (at_builtin; refine wpList_append_row rfl _ _ 70 rfl wz.heap.size 72 ib _ 4 40 Try.underlying70 hib hz0 hz1 hz2 rfl (by decide) _ O.length (bcells O) rfl (ownsRow_laterB HO2.out (below1 _ _)) (some ⟨wq1.heap.size, 0, none⟩) 1 1 (bcells [x]) rfl (rowNew x wq1) (by unfold maxLen; have := HLN.out; omega) (by have := HLN.out; omega) (by simp only [World.size_alloc]; omega) ?_; intro v2 wq1b hown2 hbx)
              have HT2 := hidB (HT1.out.trans (((below1 wq1 _).mono (by omega)).trans hbx))
              clear hbx c0 c1 c2 c3 p0 p1 p2 p3 lc lx HO2 HT1 hown1 hsz2
              obtain ⟨c0, c1, c2, c3⟩ := (hlz.later HT2.out).cells hlt
              obtain ⟨p0, p1, p2, p3⟩ := Fz.later HT2.out
              have lc := ltB_of_cell c0
              have lx := ltB_of_cell p0
              go_wp2_with fail
              refine wp_region_later (by first | exact HB | exact bdrew HB | exact Below.refl _ _) (by kernel_rfl) (by kernel_rfl) ?_
              repeat (go_big_quiet_step (first | exact rfl | fail))
              refine wpQuiet_nil ?_; intro _ hw'; obtain ⟨p, hw''⟩ := hw'; subst hw''; (try clear hc hf hz); (try clear HB); have HB := p.below; obtain ⟨hc, hf, hz⟩ := bcell HB
              clear hc hf hz
              generalize p.v = wq2 at HB ⊢
              have HT3 := hidB (bthen HT2.out HB)
              have hown3 := ownsRow_laterB hown2 HB
              clear HB c0 c1 c2 c3 p0 p1 p2 p3 lc lx HT2 hown2
              obtain ⟨c0, c1, c2, c3⟩ := (hlz.later HT3.out).cells hlt
              obtain ⟨p0, p1, p2, p3⟩ := Fz.later HT3.out
              have lc := ltB_of_cell c0
              have lx := ltB_of_cell p0
              have HO4 := hidB hown3
              have hsz4 := HT3.out.size
              go_wp2_with (at_builtin; refine wpList_append_row rfl _ _ 70 rfl wz.heap.size 72 ib _ 4 40 Try.underlying70 hib hz0 hz1 hz2 rfl (by decide) _ (O.length + 1) (bcells O ++ bcells [x]) rfl (ownsRow_laterB HO4.out (below1 _ _)) (some ⟨wq2.heap.size, 0, none⟩) 1 1 (bcells [l[k]]) rfl (rowNew l[k] wq2) (by unfold maxLen; have := HLN.out; omega) (by have := HLN.out; omega) (by simp only [World.size_alloc]; omega) ?_; intro v4 wq2b hown4 hbx)
              have HT4 := hidB (HT3.out.trans (((below1 wq2 _).mono (by omega)).trans hbx))
              clear hbx c0 c1 c2 c3 p0 p1 p2 p3 lc lx HO4 HT3 hown3 hsz4
              obtain ⟨c0, c1, c2, c3⟩ := (hlz.later HT4.out).cells hlt
              obtain ⟨p0, p1, p2, p3⟩ := Fz.later HT4.out
              have lc := ltB_of_cell c0
              have lx := ltB_of_cell p0
              have HOF := hidB hown4
              clear hown4
              go_wp2
              go_roundw
              case rel => exact ⟨k + 1, O ++ [x] ++ [l[k]], true, by omega, by go_num, rfl, by have h := HN0.out; rw [HRL.out, HD.out] at h; exact h, by have h := HOF.out; (try simp only [List.length_append, List.length_singleton, bcells_append]); exact h, HT4.out⟩
              case measure => simp [intOf]; omega
        · have hpl : ¬ l[k].pl = x.pl := (by omega)
          by_cases hkg : (k : Int) = g
          · have HN0 := hidB (rputK_step G.out hlt HR.out)
            have HRL : Hid (roundL l x g k hlt O false = O) := (by show roundL l x g k hlt O false = O; unfold roundL; rw [if_neg (fun h => hxk h.2), if_neg (fun h => h.2 hkg)]; simp)
            have hd : decide (x.pl ≤ l[k].pl) = false := decide_eq_false hxk
            have hq1 : (l[k].pl == x.pl) = false := (by rw [beq_eq_false_iff_ne]; exact hpl)
            have hq1b : (l[k].pl != x.pl) = true := (by simp [bne, hq1])
            have hq1c : (!(l[k].pl == x.pl)) = true := (by simp [hq1])
            have hq1d : decide (l[k].pl = x.pl) = false := (by simpa using hq1)
            have hq2 : ((k : Int) == g) = true := (by rw [hkg]; simp)
            have hq2b : ((k : Int) != g) = false := (by simp [bne, hq2])
            have hq2c : (!((k : Int) == g)) = false := (by simp [hq2])
            have hq2d : decide ((k : Int) = g) = true := (by simpa using hq2)
            have HD := hidB hd
            clear hpl hkg HR hxk
            go_wp2_with fail
            refine wp_region_later (by first | exact HB | exact bdrew HB | exact Below.refl _ _) (by kernel_rfl) (by kernel_rfl) ?_
            repeat (go_big_quiet_step (first | exact rfl | fail))
            refine wpQuiet_nil ?_; intro _ hw'; obtain ⟨p, hw''⟩ := hw'; subst hw''; (try clear hc hf hz); (try clear HB); have HB := p.below; obtain ⟨hc, hf, hz⟩ := bcell HB
            clear hc hf hz
            generalize p.v = wq1 at HB ⊢
            have HT1 := hidB (bthen HT0.out HB)
            have hown1 := ownsRow_laterB hown0 HB
            clear HB c0 c1 c2 c3 p0 p1 p2 p3 lc lx HT0 hown0
            obtain ⟨c0, c1, c2, c3⟩ := (hlz.later HT1.out).cells hlt
            obtain ⟨p0, p1, p2, p3⟩ := Fz.later HT1.out
            have lc := ltB_of_cell c0
            have lx := ltB_of_cell p0
            go_wp2_with fail
            refine wp_region_later (by first | exact HB | exact bdrew HB | exact Below.refl _ _) (by kernel_rfl) (by kernel_rfl) ?_
            repeat (go_big_quiet_step (first | exact rfl | fail))
            refine wpQuiet_nil ?_; intro _ hw'; obtain ⟨p, hw''⟩ := hw'; subst hw''; (try clear hc hf hz); (try clear HB); have HB := p.below; obtain ⟨hc, hf, hz⟩ := bcell HB
            clear hc hf hz
            generalize p.v = wq2 at HB ⊢
            have HT2 := hidB (bthen HT1.out HB)
            have hown2 := ownsRow_laterB hown1 HB
            clear HB c0 c1 c2 c3 p0 p1 p2 p3 lc lx HT1 hown1
            obtain ⟨c0, c1, c2, c3⟩ := (hlz.later HT2.out).cells hlt
            obtain ⟨p0, p1, p2, p3⟩ := Fz.later HT2.out
            have lc := ltB_of_cell c0
            have lx := ltB_of_cell p0
            have HOF := hidB hown2
            clear hown2
            go_wp2
            go_roundw
            case rel => exact ⟨k + 1, O, false, by omega, by go_num, rfl, by have h := HN0.out; rw [HRL.out, HD.out] at h; exact h, by have h := HOF.out; (try simp only [List.length_append, List.length_singleton, bcells_append]); exact h, HT2.out⟩
            case measure => simp [intOf]; omega
          · have HN0 := hidB (rputK_step G.out hlt HR.out)
            have HRL : Hid (roundL l x g k hlt O false = O ++ [l[k]]) := (by show roundL l x g k hlt O false = O ++ [l[k]]; unfold roundL; rw [if_neg (fun h => hxk h.2), if_pos ⟨hpl, hkg⟩]; simp)
            have hd : decide (x.pl ≤ l[k].pl) = false := decide_eq_false hxk
            have hq1 : (l[k].pl == x.pl) = false := (by rw [beq_eq_false_iff_ne]; exact hpl)
            have hq1b : (l[k].pl != x.pl) = true := (by simp [bne, hq1])
            have hq1c : (!(l[k].pl == x.pl)) = true := (by simp [hq1])
            have hq1d : decide (l[k].pl = x.pl) = false := (by simpa using hq1)
            have hq2 : ((k : Int) == g) = false := (by rw [beq_eq_false_iff_ne]; exact hkg)
            have hq2b : ((k : Int) != g) = true := (by simp [bne, hq2])
            have hq2c : (!((k : Int) == g)) = true := (by simp [hq2])
            have hq2d : decide ((k : Int) = g) = false := (by simpa using hq2)
            have HD := hidB hd
            clear hpl hkg HR hxk
            go_wp2_with fail
            refine wp_region_later (by first | exact HB | exact bdrew HB | exact Below.refl _ _) (by kernel_rfl) (by kernel_rfl) ?_
            repeat (go_big_quiet_step (first | exact rfl | fail))
            refine wpQuiet_nil ?_; intro _ hw'; obtain ⟨p, hw''⟩ := hw'; subst hw''; (try clear hc hf hz); (try clear HB); have HB := p.below; obtain ⟨hc, hf, hz⟩ := bcell HB
            clear hc hf hz
            generalize p.v = wq1 at HB ⊢
            have HT1 := hidB (bthen HT0.out HB)
            have hown1 := ownsRow_laterB hown0 HB
            clear HB c0 c1 c2 c3 p0 p1 p2 p3 lc lx HT0 hown0
            obtain ⟨c0, c1, c2, c3⟩ := (hlz.later HT1.out).cells hlt
            obtain ⟨p0, p1, p2, p3⟩ := Fz.later HT1.out
            have lc := ltB_of_cell c0
            have lx := ltB_of_cell p0
            go_wp2_with fail
            refine wp_region_later (by first | exact HB | exact bdrew HB | exact Below.refl _ _) (by kernel_rfl) (by kernel_rfl) ?_
            repeat (go_big_quiet_step (first | exact rfl | fail))
            refine wpQuiet_nil ?_; intro _ hw'; obtain ⟨p, hw''⟩ := hw'; subst hw''; (try clear hc hf hz); (try clear HB); have HB := p.below; obtain ⟨hc, hf, hz⟩ := bcell HB
            clear hc hf hz
            generalize p.v = wq2 at HB ⊢
            have HT2 := hidB (bthen HT1.out HB)
            have hown2 := ownsRow_laterB hown1 HB
            clear HB c0 c1 c2 c3 p0 p1 p2 p3 lc lx HT1 hown1
            obtain ⟨c0, c1, c2, c3⟩ := (hlz.later HT2.out).cells hlt
            obtain ⟨p0, p1, p2, p3⟩ := Fz.later HT2.out
            have lc := ltB_of_cell c0
            have lx := ltB_of_cell p0
            have HO3 := hidB hown2
            have hsz3 := HT2.out.size
            go_wp2_with (at_builtin; refine wpList_append_row rfl _ _ 70 rfl wz.heap.size 72 ib _ 4 40 Try.underlying70 hib hz0 hz1 hz2 rfl (by decide) _ O.length (bcells O) rfl (ownsRow_laterB HO3.out (below1 _ _)) (some ⟨wq2.heap.size, 0, none⟩) 1 1 (bcells [l[k]]) rfl (rowNew l[k] wq2) (by unfold maxLen; have := HLN.out; omega) (by have := HLN.out; omega) (by simp only [World.size_alloc]; omega) ?_; intro v3 wq2b hown3 hbx)
            have HT3 := hidB (HT2.out.trans (((below1 wq2 _).mono (by omega)).trans hbx))
            clear hbx c0 c1 c2 c3 p0 p1 p2 p3 lc lx HO3 HT2 hown2 hsz3
            obtain ⟨c0, c1, c2, c3⟩ := (hlz.later HT3.out).cells hlt
            obtain ⟨p0, p1, p2, p3⟩ := Fz.later HT3.out
            have lc := ltB_of_cell c0
            have lx := ltB_of_cell p0
            have HOF := hidB hown3
            clear hown3
            go_wp2
            go_roundw
            case rel => exact ⟨k + 1, O ++ [l[k]], false, by omega, by go_num, rfl, by have h := HN0.out; rw [HRL.out, HD.out] at h; exact h, by have h := HOF.out; (try simp only [List.length_append, List.length_singleton, bcells_append]); exact h, HT3.out⟩
            case measure => simp [intOf]; omega
      · have hpl : ¬ l[k].pl = x.pl := (by have := HR.out.yes rfl k hlt (Nat.le_refl _); omega)
        by_cases hkg : (k : Int) = g
        · have HN0 := hidB (rputK_step G.out hlt HR.out)
          have HRL : Hid (roundL l x g k hlt O true = O) := (by show roundL l x g k hlt O true = O; unfold roundL; rw [if_neg (by simp), if_neg (fun h => h.2 hkg)]; simp)
          have hd : decide (x.pl ≤ l[k].pl) = true := decide_eq_true (Int.le_of_lt (HR.out.yes rfl k hlt (Nat.le_refl _)))
          have hq1 : (l[k].pl == x.pl) = false := (by rw [beq_eq_false_iff_ne]; exact hpl)
          have hq1b : (l[k].pl != x.pl) = true := (by simp [bne, hq1])
          have hq1c : (!(l[k].pl == x.pl)) = true := (by simp [hq1])
          have hq1d : decide (l[k].pl = x.pl) = false := (by simpa using hq1)
          have hq2 : ((k : Int) == g) = true := (by rw [hkg]; simp)
          have hq2b : ((k : Int) != g) = false := (by simp [bne, hq2])
          have hq2c : (!((k : Int) == g)) = false := (by simp [hq2])
          have hq2d : decide ((k : Int) = g) = true := (by simpa using hq2)
          have HD := hidB hd
          clear hpl hkg HR hd
          go_wp2_with fail
          refine wp_region_later (by first | exact HB | exact bdrew HB | exact Below.refl _ _) (by kernel_rfl) (by kernel_rfl) ?_
          repeat (go_big_quiet_step (first | exact rfl | fail))
          refine wpQuiet_nil ?_; intro _ hw'; obtain ⟨p, hw''⟩ := hw'; subst hw''; (try clear hc hf hz); (try clear HB); have HB := p.below; obtain ⟨hc, hf, hz⟩ := bcell HB
          clear hc hf hz
          generalize p.v = wq1 at HB ⊢
          have HT1 := hidB (bthen HT0.out HB)
          have hown1 := ownsRow_laterB hown0 HB
          clear HB c0 c1 c2 c3 p0 p1 p2 p3 lc lx HT0 hown0
          obtain ⟨c0, c1, c2, c3⟩ := (hlz.later HT1.out).cells hlt
          obtain ⟨p0, p1, p2, p3⟩ := Fz.later HT1.out
          have lc := ltB_of_cell c0
          have lx := ltB_of_cell p0
          go_wp2_with fail
          refine wp_region_later (by first | exact HB | exact bdrew HB | exact Below.refl _ _) (by kernel_rfl) (by kernel_rfl) ?_
          repeat (go_big_quiet_step (first | exact rfl | fail))
          refine wpQuiet_nil ?_; intro _ hw'; obtain ⟨p, hw''⟩ := hw'; subst hw''; (try clear hc hf hz); (try clear HB); have HB := p.below; obtain ⟨hc, hf, hz⟩ := bcell HB
          clear hc hf hz
          generalize p.v = wq2 at HB ⊢
          have HT2 := hidB (bthen HT1.out HB)
          have hown2 := ownsRow_laterB hown1 HB
          clear HB c0 c1 c2 c3 p0 p1 p2 p3 lc lx HT1 hown1
          obtain ⟨c0, c1, c2, c3⟩ := (hlz.later HT2.out).cells hlt
          obtain ⟨p0, p1, p2, p3⟩ := Fz.later HT2.out
          have lc := ltB_of_cell c0
          have lx := ltB_of_cell p0
          have HOF := hidB hown2
          clear hown2
          go_wp2
          go_roundw
          case rel => exact ⟨k + 1, O, true, by omega, by go_num, rfl, by have h := HN0.out; rw [HRL.out, HD.out] at h; exact h, by have h := HOF.out; (try simp only [List.length_append, List.length_singleton, bcells_append]); exact h, HT2.out⟩
          case measure => simp [intOf]; omega
        · have HN0 := hidB (rputK_step G.out hlt HR.out)
          have HRL : Hid (roundL l x g k hlt O true = O ++ [l[k]]) := (by show roundL l x g k hlt O true = O ++ [l[k]]; unfold roundL; rw [if_neg (by simp), if_pos ⟨hpl, hkg⟩]; simp)
          have hd : decide (x.pl ≤ l[k].pl) = true := decide_eq_true (Int.le_of_lt (HR.out.yes rfl k hlt (Nat.le_refl _)))
          have hq1 : (l[k].pl == x.pl) = false := (by rw [beq_eq_false_iff_ne]; exact hpl)
          have hq1b : (l[k].pl != x.pl) = true := (by simp [bne, hq1])
          have hq1c : (!(l[k].pl == x.pl)) = true := (by simp [hq1])
          have hq1d : decide (l[k].pl = x.pl) = false := (by simpa using hq1)
          have hq2 : ((k : Int) == g) = false := (by rw [beq_eq_false_iff_ne]; exact hkg)
          have hq2b : ((k : Int) != g) = true := (by simp [bne, hq2])
          have hq2c : (!((k : Int) == g)) = true := (by simp [hq2])
          have hq2d : decide ((k : Int) = g) = false := (by simpa using hq2)
          have HD := hidB hd
          clear hpl hkg HR hd
          go_wp2_with fail
          refine wp_region_later (by first | exact HB | exact bdrew HB | exact Below.refl _ _) (by kernel_rfl) (by kernel_rfl) ?_
          repeat (go_big_quiet_step (first | exact rfl | fail))
          refine wpQuiet_nil ?_; intro _ hw'; obtain ⟨p, hw''⟩ := hw'; subst hw''; (try clear hc hf hz); (try clear HB); have HB := p.below; obtain ⟨hc, hf, hz⟩ := bcell HB
          clear hc hf hz
          generalize p.v = wq1 at HB ⊢
          have HT1 := hidB (bthen HT0.out HB)
          have hown1 := ownsRow_laterB hown0 HB
          clear HB c0 c1 c2 c3 p0 p1 p2 p3 lc lx HT0 hown0
          obtain ⟨c0, c1, c2, c3⟩ := (hlz.later HT1.out).cells hlt
          obtain ⟨p0, p1, p2, p3⟩ := Fz.later HT1.out
          have lc := ltB_of_cell c0
          have lx := ltB_of_cell p0
          go_wp2_with fail
          refine wp_region_later (by first | exact HB | exact bdrew HB | exact Below.refl _ _) (by kernel_rfl) (by kernel_rfl) ?_
          repeat (go_big_quiet_step (first | exact rfl | fail))
          refine wpQuiet_nil ?_; intro _ hw'; obtain ⟨p, hw''⟩ := hw'; subst hw''; (try clear hc hf hz); (try clear HB); have HB := p.below; obtain ⟨hc, hf, hz⟩ := bcell HB
          clear hc hf hz
          generalize p.v = wq2 at HB ⊢
          have HT2 := hidB (bthen HT1.out HB)
          have hown2 := ownsRow_laterB hown1 HB
          clear HB c0 c1 c2 c3 p0 p1 p2 p3 lc lx HT1 hown1
          obtain ⟨c0, c1, c2, c3⟩ := (hlz.later HT2.out).cells hlt
          obtain ⟨p0, p1, p2, p3⟩ := Fz.later HT2.out
          have lc := ltB_of_cell c0
          have lx := ltB_of_cell p0
          have HO3 := hidB hown2
          have hsz3 := HT2.out.size
          go_wp2_with (at_builtin; refine wpList_append_row rfl _ _ 70 rfl wz.heap.size 72 ib _ 4 40 Try.underlying70 hib hz0 hz1 hz2 rfl (by decide) _ O.length (bcells O) rfl (ownsRow_laterB HO3.out (below1 _ _)) (some ⟨wq2.heap.size, 0, none⟩) 1 1 (bcells [l[k]]) rfl (rowNew l[k] wq2) (by unfold maxLen; have := HLN.out; omega) (by have := HLN.out; omega) (by simp only [World.size_alloc]; omega) ?_; intro v3 wq2b hown3 hbx)
          have HT3 := hidB (HT2.out.trans (((below1 wq2 _).mono (by omega)).trans hbx))
          clear hbx c0 c1 c2 c3 p0 p1 p2 p3 lc lx HO3 HT2 hown2 hsz3
          obtain ⟨c0, c1, c2, c3⟩ := (hlz.later HT3.out).cells hlt
          obtain ⟨p0, p1, p2, p3⟩ := Fz.later HT3.out
          have lc := ltB_of_cell c0
          have lx := ltB_of_cell p0
          have HOF := hidB hown3
          clear hown3
          go_wp2
          go_roundw
          case rel => exact ⟨k + 1, O ++ [l[k]], true, by omega, by go_num, rfl, by have h := HN0.out; rw [HRL.out, HD.out] at h; exact h, by have h := HOF.out; (try simp only [List.length_append, List.length_singleton, bcells_append]); exact h, HT3.out⟩
          case measure => simp [intOf]; omega
    · obtain rfl : k = l.length := by omega
      obtain ⟨p0, p1, p2, p3⟩ := Fz.later HT0.out
      have lx := ltB_of_cell p0
      cases b
      · have HF := hidB (rputK_no HR.out)
        have HO0 := hidB hown0
        have hsz0 := HT0.out.size
        have hbz := HBz.size
        clear HR hown0
        go_wp2_with (at_builtin; refine wpList_append_row rfl _ _ 70 rfl wz.heap.size 72 ib _ 4 40 Try.underlying70 hib hz0 hz1 hz2 rfl (by decide) _ O.length (bcells O) rfl (ownsRow_laterB HO0.out (below1 _ _)) (some ⟨wr.heap.size, 0, none⟩) 1 1 (bcells [x]) rfl (rowNew x wr) (by unfold maxLen; have := HLN.out; omega) (by have := HLN.out; omega) (by simp only [World.size_alloc]; omega) ?_; intro v1 w9 hown9 hbx)
        have HT9 : Below wz.heap.size wz w9 := HT0.out.trans (((below1 wr _).mono (by omega)).trans hbx)
        rw [← bcells_append] at hown9
        obtain ⟨a9, c9, rfl, hN9⟩ := new_of_owned (l := O ++ [x]) hown9 (by simp) (by have := HLN.out; simp; omega)
        have R9 := hidB hN9.here
        have HT9h := hidB (HBz.trans (HT9.mono hbz))
        clear hown9 hbx HT9 hN9 p0 p1 p2 p3
        go_wp2
        go_ret2
        exact ⟨O ++ [x], a9, c9, rfl, R9.out, by rw [HGG.out]; exact HF.out, HT9h.out⟩
      · have HF := hidB (rputK_yes HR.out)
        have hbz := HBz.size
        obtain ⟨a9, c9, rfl, hN9⟩ := new_of_owned (l := O) hown0 rfl (by have := HLN.out; omega)
        have R9 := hidB hN9.here
        have HT9h := hidB (HBz.trans (HT0.out.mono hbz))
        clear HR hown0 hN9 p0 p1 p2 p3
        go_wp2
        go_ret2
        exact ⟨O, a9, c9, rfl, R9.out, by rw [HGG.out]; exact HF.out, HT9h.out⟩
end Go.Proofs.Ytpmjgofjdejeeac
