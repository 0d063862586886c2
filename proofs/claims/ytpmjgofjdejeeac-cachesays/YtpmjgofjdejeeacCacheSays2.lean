/- CacheSays: the walk. -/
import Derived.Test.YtpmjgofjdejeeacCacheSays1
import Derived.Deep.RegionHeld3
namespace Go.Proofs.Ytpmjgofjdejeeac
open Go.RowKit Go.BigFrame
attribute [local go_sem] Later.cell Later.frozen

set_option maxHeartbeats 1000000 in
theorem holdS_any (n : Int) (pb : Nat) (B : Nat → Bool) (w : World) (hB : HeldAt w pb B) (t : Bool) (ht : holdB B n = t) :
    Calls Try.prog 34 #[.int .i64 n, .pointer (some ⟨pb, 0, none⟩)] w fun e w' => e = .returned (.bool t) ∧ Below w.heap.size w w' := by
  subst ht
  by_cases h0 : 0 ≤ n
  · by_cases h1 : n < 32
    · obtain ⟨k, rfl⟩ := Int.eq_ofNat_of_zero_le h0
      have hk : k < 32 := by omega
      have hc := hB k hk
      have e : holdB B (k : Int) = B k := by rw [holdB, decide_eq_true h0, decide_eq_true h1]; simp
      rw [e]
      clear e hB
      go_enter Try.func34, Try.ntmps34
      go_wp2
      go_ret
      exact ⟨rfl, by repeat (first | with_reducible exact Below.refl _ _ | with_reducible refine balloc ?_ _ | with_reducible refine bdrew ?_ | with_reducible refine bset' ?_ (by omega) _ | with_reducible refine bthen ?_ (by assumption))⟩
    · have e : holdB B n = false := by simp [holdB, h1]
      rw [e]
      go_enter Try.func34, Try.ntmps34
      go_wp2
      go_ret
      exact ⟨rfl, by repeat (first | with_reducible exact Below.refl _ _ | with_reducible refine balloc ?_ _ | with_reducible refine bdrew ?_ | with_reducible refine bset' ?_ (by omega) _ | with_reducible refine bthen ?_ (by assumption))⟩
  · have e : holdB B n = false := by simp [holdB, h0]
    rw [e]
    go_enter Try.func34, Try.ntmps34
    go_wp2
    go_ret
    exact ⟨rfl, by repeat (first | with_reducible exact Below.refl _ _ | with_reducible refine balloc ?_ _ | with_reducible refine bdrew ?_ | with_reducible refine bset' ?_ (by omega) _ | with_reducible refine bthen ?_ (by assumption))⟩

theorem sameb_n (l : List Bf) (n : Nat) (hn : n = l.length) (a a' : Option Addr) (c c' : Nat) (w : World) (hl : BufsAt w a l) (hl' : BufsAt w a' l) :
    Calls Try.prog 37 #[.slice a n c, .slice a' n c'] w fun e w' => e = .returned (.bool true) ∧ Below w.heap.size w w' := by
  subst hn; exact sameb l a a' c c' w hl hl'
theorem useL_len (l : List Bf) (at' now : Int) : (useL l at' now).length = l.length := by simp [useL]
theorem cleanL_len (l : List Bf) (at' : Int) (data : ByteArray) : (cleanL l at' data).length = l.length := by simp [cleanL]
theorem FourB.drew {w : World} {b : Nat} {x : Bf} (h : FourB w b x) : FourB w.drew b x := h
theorem FourB.alloc {w : World} {b : Nat} {x : Bf} (h : FourB w b x) (o : Obj) : FourB (w.alloc o) b x := h.later (below1 w o)
theorem step_load_mid {P : Program} {ops : Array Oper} {op : Oper} {a : Act} {w : World} {K : Act → World → Prop} {Q : Exit → Act → World → Prop} {E : Prop} (hw : Region.wanted op (yielded ops a.tmps) = true) (ty : TypeId) (x : Operand) (ho : op.op = .load ty x)
    (b o : Nat) (hx : a.eval x = .pointer (some ⟨b, o, none⟩)) (cs : List Value) (d : TypeDesc) (hc : w.rangeAt b o cs) (hu : P.underlying ty = some d) (hd : d.isRow = true) (hi : (P.info? ty).map (·.size) = some cs.length)
    (h : K (a.put op.dst (.agg cs.toArray)) w) : if Region.wanted op (yielded ops a.tmps) = true then Oper.wp P op a w K Q else E := by
  rw [if_pos hw]; exact wp_load_mid ty x ho b o hx cs d hc hu hd hi h
theorem pick_both (l : List Bf) (a : Option Addr) (c : Nat) (hs : Array Value) (hz : hs.size = 32) (B : Nat → Bool) (pb : Nat) (G : GoodB l) (hB : ∀ i, i < 32 → hs[i]? = some (.bool (B i))) : ∃ r : Int,
    (∀ w, BufsAt w a l → w.rangeAt pb 0 hs.toList → Calls Try.prog 46 #[.slice a l.length c, .func (.func 34) #[] #[.pointer (some ⟨pb, 0, none⟩)]] w fun e w' => e = .returned (.int .i64 r) ∧ Below w.heap.size w w') ∧
    (∀ w, BufsAt w a l → Calls Try.prog 47 #[.slice a l.length c, .agg hs] w fun e w' => e = .returned (.int .i64 r) ∧ Below w.heap.size w w') := by
  have hat : ∀ (W : World), W.rangeAt pb 0 hs.toList → HeldAt W pb B := fun W h i hi => by
    have h1 := hB i hi
    have h2 := h i (.bool (B i)) (by simpa using h1)
    rwa [Nat.zero_add] at h2
  rcases leastU_spec (fitB true (holdB B)) l l.length (Nat.le_refl _) with ⟨hr, _⟩ | ⟨k, hk, _, hr, _⟩
  · exact ⟨-1, fun w hl h => pick_no 34 (by intro args w; go_simp) #[.pointer (some ⟨pb, 0, none⟩)] (holdB B) l a c w hl (fun n w' hb => holdS_any n pb B w' ((hat w h).later hb) _ rfl) hr, fun w hl => rpick_no l a c hs hz B w hl G hB hr⟩
  · exact ⟨l[k].pl, fun w hl h => pick_yes 34 (by intro args w; go_simp) #[.pointer (some ⟨pb, 0, none⟩)] (holdB B) l a c w hl (fun n w' hb => holdS_any n pb B w' ((hat w h).later hb) _ rfl) k hk hr, fun w hl => rpick_yes l a c hs hz B w hl G hB k hk hr⟩
theorem get_both (l : List Bf) (a : Option Addr) (c : Nat) (at' : Int) : ∃ (y : Bf) (t : Bool),
    (∀ w, BufsAt w a l → Calls Try.prog 35 #[.slice a l.length c, .int .i64 at'] w fun e w' => e = .returned (.tuple #[y.val, .bool t]) ∧ Below w.heap.size w w') ∧
    (∀ w, BufsAt w a l → Calls Try.prog 36 #[.slice a l.length c, .int .i64 at'] w fun e w' => e = .returned (.tuple #[y.val, .bool t]) ∧ Below w.heap.size w w') := by
  rcases idx_spec (plB at') l with ⟨hi, _⟩ | ⟨k, hk, hi, _⟩
  · exact ⟨⟨0, ⟨#[]⟩, false, 0⟩, false, fun w h => get_no l a c at' w h hi, fun w h => rget_no l a c at' w h hi⟩
  · exact ⟨l[k], true, fun w h => get_yes l a c at' w h k hk hi, fun w h => rget_yes l a c at' w h k hk hi⟩

set_option maxRecDepth 100000 in
set_option maxHeartbeats 4000000 in
theorem cs_walk (l : List Bf) (a : Option Addr) (c : Nat) (x : Bf) (hs : Array Value) (hz : hs.size = 32) (B : Nat → Bool) (now : Int) (w : World) (hl : BufsAt w a l) (hn : a = none → c = 0) (hd : x.data.size ≤ 9223372036854775807) (hB : ∀ i, i < 32 → hs[i]? = some (.bool (B i))) :
    Calls Try.prog 5 #[.slice a l.length c, x.val, .agg hs, .int .i64 now] w fun e w' => e = .returned (.bool true) ∧ Below w.heap.size w w' := by
  have hlen := hl.2
  have HH := hidB hB
  have HZ := hidB hz
  clear hB hz
  go_enter Try.func5, Try.ntmps5
  go_wp2_with fail
  refine (caches_any _).mono ?_
  rintro e w1 ⟨rfl, hb1⟩
  have HB1 : Below w.heap.size w w1 := by repeat (first | with_reducible exact Below.refl _ _ | with_reducible refine balloc ?_ _ | with_reducible refine bdrew ?_ | with_reducible refine bset' ?_ (by omega) _ | with_reducible refine bthen ?_ (by assumption))
  have F1 : FourB w1 w.heap.size x := FourB.later (FourB.later ⟨by simp, by simp, by simp, by simp⟩ (below1 _ _)) hb1
  have r0 := rangeNew (w.alloc (.cells #[.int .i64 x.pl, .string x.data, .bool x.dirty, .int .i64 x.used] 72)) hs 73
  simp only [World.size_alloc] at r0
  have RG1 : w1.rangeAt (w.heap.size + 1) 0 hs.toList := fun i v hv => cellB_later' hb1 (r0 i v hv)
  have HRG1 := hidB RG1
  have hl1 := hl.later HB1
  clear hb1 r0 RG1
  obtain ⟨p0, p1, p2, p3⟩ := id F1
  cases hg : goodBB l
  · go_wp2_with fail
    refine (goodb_any l a c _ hl1 _ hg).mono ?_
    rintro e w2 ⟨rfl, hb2⟩
    go_wp2
    go_ret
    exact ⟨rfl, bthen HB1 hb2⟩
  have G := goodB_of hg
  go_wp2_with fail
  refine (goodb_any l a c _ hl1 _ hg).mono ?_
  rintro e w2 ⟨rfl, hb2⟩
  have F2 := F1.later hb2
  have HB2 := bthen HB1 hb2
  have hl2 := hl1.later hb2
  have RG2 : w2.rangeAt (w.heap.size + 1) 0 hs.toList := fun i v hv => cellB_later' hb2 (HRG1.out i v hv)
  have HRG2 := hidB RG2
  clear F1 HB1 hl1 hb2 p0 p1 p2 p3 hg HRG1 RG2
  obtain ⟨p0, p1, p2, p3⟩ := id F2
  by_cases q1 : x.pl < 0
  · go_wp2
    go_ret
    exact ⟨rfl, HB2⟩
  by_cases q2 : 31 < x.pl
  · go_wp2
    go_ret
    exact ⟨rfl, HB2⟩
  by_cases q3 : 10 < x.data.size
  · go_wp2
    go_ret
    exact ⟨rfl, HB2⟩
  have HG := hidB G
  clear G
  obtain ⟨y, t, hg1, hg2⟩ := get_both l a c x.pl
  have HG1 := hidB hg1
  have HG2 := hidB hg2
  clear hg1 hg2
  have hgd : Try.prog.eqGuardType Try.prog.depth 72 = false := by kernel_rfl
  have hq : ∀ w, (binOp .neq 72 (.agg #[.int .i64 y.pl, .string y.data, .bool y.dirty, .int .i64 y.used]) (.agg #[.int .i64 y.pl, .string y.data, .bool y.dirty, .int .i64 y.used])).run Try.prog w = .ok (.bool false) w := fun w => neqSelf y w
  go_wp2_with fail
  refine (HG1.out _ hl2).mono ?_
  rintro e w3 ⟨rfl, hb3⟩
  have F3 := F2.later hb3
  have HB3 := bthen HB2 hb3
  have hl3 := hl2.later hb3
  have RG3 : w3.rangeAt (w.heap.size + 1) 0 hs.toList := fun i v hv => cellB_later' hb3 (HRG2.out i v hv)
  have HRG3 := hidB RG3
  clear F2 HB2 hl2 hb3 p0 p1 p2 p3 HRG2 RG3
  obtain ⟨p0, p1, p2, p3⟩ := id F3
  have lx := ltB_of_cell p0
  go_wp2_with fail
  refine (HG2.out _ (hl3.later (below1 _ _))).mono ?_
  rintro e w4 ⟨rfl, hb4⟩
  obtain ⟨⟨y0, y1, y2, y3⟩, -, -⟩ := quadNew hb4
  have bb := bthen (below1 w3 _) hb4
  have F4 := F3.later bb
  have HB4 := bthen HB3 bb
  have hl4 := hl3.later bb
  have RG4 : w4.rangeAt (w.heap.size + 1) 0 hs.toList := fun i v hv => cellB_later' bb (HRG3.out i v hv)
  have HRG4 := hidB RG4
  clear F3 HB3 hl3 hb4 p0 p1 p2 p3 HRG3 RG4 bb lx
  obtain ⟨p0, p1, p2, p3⟩ := id F4
  have lx := ltB_of_cell p0
  have ly := ltB_of_cell y0
  have Y0 : FourB w4 w3.heap.size y := ⟨y0, y1, y2, y3⟩
  go_wp2_with fail
  have b5 := below1 w4 (.cells #[.int .i64 y.pl, .string y.data, .bool y.dirty, .int .i64 y.used] 72)
  have F5 := F4.later b5
  have Y1 := Y0.later b5
  have Y2 : FourB (w4.alloc (.cells #[.int .i64 y.pl, .string y.data, .bool y.dirty, .int .i64 y.used] 72)) w4.heap.size y := ⟨by simp, by simp, by simp, by simp⟩
  have HB5 := bthen HB4 b5
  have hl5 := hl4.later b5
  have RG5 : (w4.alloc (.cells #[.int .i64 y.pl, .string y.data, .bool y.dirty, .int .i64 y.used] 72)).rangeAt (w.heap.size + 1) 0 hs.toList := fun i v hv => cellB_later' b5 (HRG4.out i v hv)
  have HRG5 := hidB RG5
  clear F4 HB4 hl4 p0 p1 p2 p3 HRG4 RG5 b5 lx ly y0 y1 y2 y3 Y0
  generalize hW5 : w4.alloc (.cells #[.int .i64 y.pl, .string y.data, .bool y.dirty, .int .i64 y.used] 72) = w5 at F5 Y1 Y2 HB5 hl5 HRG5 ⊢
  clear hW5
  have HBh := hidB HB5
  clear HB5 HG1 HG2
  go_region_held3 (fun w' => (w'.cell? ⟨w.heap.size, 0, none⟩ = some (.int .i64 x.pl) ∧ w'.cell? ⟨w.heap.size, 1, none⟩ = some (.string x.data) ∧ w'.cell? ⟨w.heap.size, 2, none⟩ = some (.bool x.dirty) ∧ w'.cell? ⟨w.heap.size, 3, none⟩ = some (.int .i64 x.used)) ∧ (w'.cell? ⟨w3.heap.size, 0, none⟩ = some (.int .i64 y.pl) ∧ w'.cell? ⟨w3.heap.size, 1, none⟩ = some (.string y.data) ∧ w'.cell? ⟨w3.heap.size, 2, none⟩ = some (.bool y.dirty) ∧ w'.cell? ⟨w3.heap.size, 3, none⟩ = some (.int .i64 y.used)) ∧ (w'.cell? ⟨w4.heap.size, 0, none⟩ = some (.int .i64 y.pl) ∧ w'.cell? ⟨w4.heap.size, 1, none⟩ = some (.string y.data) ∧ w'.cell? ⟨w4.heap.size, 2, none⟩ = some (.bool y.dirty) ∧ w'.cell? ⟨w4.heap.size, 3, none⟩ = some (.int .i64 y.used))) (exact ⟨(show FourB _ w.heap.size x by repeat (first | with_reducible exact F5 | with_reducible refine FourB.drew ?_ | with_reducible refine FourB.alloc ?_ _ | with_reducible refine FourB.later ?_ (by assumption))), (show FourB _ w3.heap.size y by repeat (first | with_reducible exact Y1 | with_reducible refine FourB.drew ?_ | with_reducible refine FourB.alloc ?_ _ | with_reducible refine FourB.later ?_ (by assumption))), (show FourB _ w4.heap.size y by repeat (first | with_reducible exact Y2 | with_reducible refine FourB.drew ?_ | with_reducible refine FourB.alloc ?_ _ | with_reducible refine FourB.later ?_ (by assumption)))⟩) (first | (go_at_call 38; refine (useG l a c x.pl now _ (hl5.later (by repeat (first | with_reducible exact Below.refl _ _ | with_reducible refine balloc ?_ _ | with_reducible refine bdrew ?_ | with_reducible refine bset' ?_ (by omega) _ | with_reducible refine bthen ?_ (by assumption)))) hn (by have := HG.out.len; omega) HG.out.once).mono ?_; rintro e wU ⟨aU, cU, rfl, hmU, hcU, hbU⟩) | (go_at_call 39; refine (ruse l a c x.pl now _ (hl5.later (by repeat (first | with_reducible exact Below.refl _ _ | with_reducible refine balloc ?_ _ | with_reducible refine bdrew ?_ | with_reducible refine bset' ?_ (by omega) _ | with_reducible refine bthen ?_ (by assumption)))) hn (by have := HG.out.len; omega)).mono ?_; rintro e wV ⟨aV, cV, rfl, hmV, hbV⟩) | (go_at_call 37; refine (sameb_n (useL l x.pl now) l.length (useL_len l x.pl now).symm aU aV cU cV _ (hmU.later (by repeat (first | with_reducible exact Below.refl _ _ | with_reducible refine balloc ?_ _ | with_reducible refine bdrew ?_ | with_reducible refine bset' ?_ (by omega) _ | with_reducible refine bthen ?_ (by assumption)))) (hmV.later (by repeat (first | with_reducible exact Below.refl _ _ | with_reducible refine balloc ?_ _ | with_reducible refine bdrew ?_ | with_reducible refine bset' ?_ (by omega) _ | with_reducible refine bthen ?_ (by assumption))))).mono ?_; rintro e wS ⟨rfl, hbS⟩) | (go_at_call 40; refine (dirty_any l a c _ (hl5.later (by repeat (first | with_reducible exact Below.refl _ _ | with_reducible refine balloc ?_ _ | with_reducible refine bdrew ?_ | with_reducible refine bset' ?_ (by omega) _ | with_reducible refine bthen ?_ (by assumption)))) _ rfl).mono ?_; rintro e wD ⟨rfl, hbD⟩) | (go_at_call 41; refine (rdirty l a c _ (hl5.later (by repeat (first | with_reducible exact Below.refl _ _ | with_reducible refine balloc ?_ _ | with_reducible refine bdrew ?_ | with_reducible refine bset' ?_ (by omega) _ | with_reducible refine bthen ?_ (by assumption)))) _ rfl).mono ?_; rintro e wE ⟨rfl, hbE⟩))
  have bE : Below w5.heap.size w5 wE := by repeat (first | with_reducible exact Below.refl _ _ | with_reducible refine balloc ?_ _ | with_reducible refine bdrew ?_ | with_reducible refine bset' ?_ (by omega) _ | with_reducible refine bthen ?_ (by assumption))
  have F6 := F5.later bE
  have HB6 := bthen HBh.out bE
  have hl6 := hl5.later bE
  have RG6 : wE.rangeAt (w.heap.size + 1) 0 hs.toList := fun i v hv => cellB_later' bE (HRG5.out i v hv)
  have HRG6 := hidB RG6
  clear RG6 HRG5 hbU hmU hcU hbV hmV hbS hbD hbE F5 Y1 Y2 hl5 HBh bE
  obtain ⟨p0, p1, p2, p3⟩ := id F6
  have lx := ltB_of_cell p0
  have hsz : Hid ((Try.prog.info? 73).map (·.size) = some hs.toList.length) := (by rw [Hid, Array.length_toList, HZ.out]; kernel_rfl)
  have heldAt : ∀ (W : World), W.rangeAt (w.heap.size + 1) 0 hs.toList → HeldAt W (w.heap.size + 1) B := fun _ h i hi => by
    have h1 := HH.out i hi
    have h2 := h i (.bool (B i)) (by simpa using h1)
    rwa [Nat.zero_add] at h2
  have HHA := hidB heldAt
  clear heldAt
  go_wp2_with fail
  refine (put_any 34 (by intro args w; go_simp) #[.pointer (some ⟨w.heap.size + 1, 0, none⟩)] (holdB B) l a c x _ hl6 hn HG.out.len (fun n w' hb => holdS_any n _ B w' ((HHA.out _ HRG6.out).later hb) _ rfl)).mono ?_
  rintro e w7 ⟨hout, hb7⟩
  have F7 := F6.later hb7
  have HB7 := bthen HB6 hb7
  have hl7 := hl6.later hb7
  have RG7 : w7.rangeAt (w.heap.size + 1) 0 hs.toList := fun i v hv => cellB_later' hb7 (HRG6.out i v hv)
  have HRG7 := hidB RG7
  clear RG7 HRG6 hb7 F6 hl6 HB6 p0 p1 p2 p3 lx
  obtain ⟨p0, p1, p2, p3⟩ := id F7
  have lx := ltB_of_cell p0
  rcases hout with ⟨m, a7, c7, hP, rfl, hm7, -⟩ | ⟨f1, f2, f3, rfl⟩
  · have HP := hidB hP
    clear hP
    go_wp2_with (refine wpList_load_mid rfl 73 (.tmp 6) rfl (w.heap.size + 1) 0 rfl hs.toList _ HRG7.out Try.underlying73 rfl hsz.out ?_)
    refine (rput_any l a c x hs HZ.out B _ hl7 HG.out HH.out).mono ?_
    rintro e w8 ⟨hout, hb8⟩
    rcases hout with ⟨m', a8, c8, hmm, -, rfl, hm8⟩ | ⟨hfull, -⟩
    · have hmm' := (hmm m HP.out).symm
      subst hmm'
      have F8 := F7.later hb8
      have HB8 := bthen HB7 hb8
      have hl8 := hl7.later hb8
      have hp8 := hm7.later hb8
      have RG8 : w8.rangeAt (w.heap.size + 1) 0 hs.toList := fun i v hv => cellB_later' hb8 (HRG7.out i v hv)
      have HRG8 := hidB RG8
      clear RG8 HRG7 hb8 F7 hl7 HB7 p0 p1 p2 p3 lx hm7 hmm HP
      obtain ⟨p0, p1, p2, p3⟩ := id F8
      have lx := ltB_of_cell p0
      have hsm := hidB (fun w => sameC0 w)
      obtain ⟨r, hr1, hr2⟩ := pick_both l a c hs HZ.out B (w.heap.size + 1) HG.out HH.out
      have HPK := hidB (And.intro hr1 hr2)
      clear hr1 hr2
      have HBh := hidB HB8
      clear HB8 p0 p1 p2 p3 lx
      have hsz2 : (Try.prog.info? 73).map (·.size) = some hs.toList.length := hsz.out
      have hu2 := Try.underlying73
      go_wp2_with fail
      go_region_held3 (fun w' => (w'.cell? ⟨w.heap.size, 0, none⟩ = some (.int .i64 x.pl) ∧ w'.cell? ⟨w.heap.size, 1, none⟩ = some (.string x.data) ∧ w'.cell? ⟨w.heap.size, 2, none⟩ = some (.bool x.dirty) ∧ w'.cell? ⟨w.heap.size, 3, none⟩ = some (.int .i64 x.used)) ∧ w'.rangeAt (w.heap.size + 1) 0 hs.toList) (exact ⟨(show FourB _ w.heap.size x by repeat (first | with_reducible exact F8 | with_reducible refine FourB.drew ?_ | with_reducible refine FourB.alloc ?_ _ | with_reducible refine FourB.later ?_ (by assumption))), fun i v hv => cellB_later' (by repeat (first | with_reducible exact Below.refl _ _ | with_reducible refine balloc ?_ _ | with_reducible refine bdrew ?_ | with_reducible refine bset' ?_ (by omega) _ | with_reducible refine bthen ?_ (by assumption))) (HRG8.out i v hv)⟩) (first | (go_at_call 13; refine (hsm.out _).mono ?_; rintro e wA ⟨rfl, hbA⟩) | (go_at_call 44; refine (cleanG l a c x.pl x.data _ (hl8.later (by repeat (first | with_reducible exact Below.refl _ _ | with_reducible refine balloc ?_ _ | with_reducible refine bdrew ?_ | with_reducible refine bset' ?_ (by omega) _ | with_reducible refine bthen ?_ (by assumption)))) hn (by have := HG.out.len; omega) HG.out.once).mono ?_; rintro e wC ⟨aC, cC, rfl, hmC, hcC, hbC⟩) | (go_at_call 45; refine (rclean l a c x.pl x.data _ (hl8.later (by repeat (first | with_reducible exact Below.refl _ _ | with_reducible refine balloc ?_ _ | with_reducible refine bdrew ?_ | with_reducible refine bset' ?_ (by omega) _ | with_reducible refine bthen ?_ (by assumption)))) hn (by have := HG.out.len; omega)).mono ?_; rintro e wD ⟨aD, cD, rfl, hmD, hbD⟩) | (go_at_call 37; refine (sameb_n (cleanL l x.pl x.data) l.length (cleanL_len l x.pl x.data).symm aC aD cC cD _ (hmC.later (by repeat (first | with_reducible exact Below.refl _ _ | with_reducible refine balloc ?_ _ | with_reducible refine bdrew ?_ | with_reducible refine bset' ?_ (by omega) _ | with_reducible refine bthen ?_ (by assumption)))) (hmD.later (by repeat (first | with_reducible exact Below.refl _ _ | with_reducible refine balloc ?_ _ | with_reducible refine bdrew ?_ | with_reducible refine bset' ?_ (by omega) _ | with_reducible refine bthen ?_ (by assumption))))).mono ?_; rintro e wS ⟨rfl, hbS⟩) | (go_at_call 37; refine (sameb_n m _ rfl a7 a8 _ _ _ (hp8.later (by repeat (first | with_reducible exact Below.refl _ _ | with_reducible refine balloc ?_ _ | with_reducible refine bdrew ?_ | with_reducible refine bset' ?_ (by omega) _ | with_reducible refine bthen ?_ (by assumption)))) (hm8.later (by repeat (first | with_reducible exact Below.refl _ _ | with_reducible refine balloc ?_ _ | with_reducible refine bdrew ?_ | with_reducible refine bset' ?_ (by omega) _ | with_reducible refine bthen ?_ (by assumption))))).mono ?_; rintro e wB ⟨rfl, hbB⟩) | (go_at_call 46; refine (HPK.out.1 _ (hl8.later (by repeat (first | with_reducible exact Below.refl _ _ | with_reducible refine balloc ?_ _ | with_reducible refine bdrew ?_ | with_reducible refine bset' ?_ (by omega) _ | with_reducible refine bthen ?_ (by assumption)))) (fun i v hv => cellB_later' (by repeat (first | with_reducible exact Below.refl _ _ | with_reducible refine balloc ?_ _ | with_reducible refine bdrew ?_ | with_reducible refine bset' ?_ (by omega) _ | with_reducible refine bthen ?_ (by assumption))) (HRG8.out i v hv))).mono ?_; rintro e wP ⟨rfl, hbP⟩) | (go_at_call 47; (try rw [Array.toArray_toList]); refine (HPK.out.2 _ (hl8.later (by repeat (first | with_reducible exact Below.refl _ _ | with_reducible refine balloc ?_ _ | with_reducible refine bdrew ?_ | with_reducible refine bset' ?_ (by omega) _ | with_reducible refine bthen ?_ (by assumption))))).mono ?_; rintro e wQ ⟨rfl, hbQ⟩))
      have bQ : Below w8.heap.size w8 wQ := by repeat (first | with_reducible exact Below.refl _ _ | with_reducible refine balloc ?_ _ | with_reducible refine bdrew ?_ | with_reducible refine bset' ?_ (by omega) _ | with_reducible refine bthen ?_ (by assumption))
      have HBQ := hidB (bthen HBh.out bQ)
      clear bQ hbA hbB hbC hbD hbS hbP hbQ hmC hmD HPK hsm
      go_wp2
      go_ret
      exact ⟨by simp, HBQ.out⟩
    · exact absurd hfull HP.out.notFull
  · have HF : Hid (FullB l x (holdB B)) := ⟨f1, f2, f3⟩
    clear f1 f2 f3
    go_wp2_with (refine wpList_load_mid rfl 73 (.tmp 6) rfl (w.heap.size + 1) 0 rfl hs.toList _ HRG7.out Try.underlying73 rfl hsz.out ?_)
    refine (rput_any l a c x hs HZ.out B _ hl7 HG.out HH.out).mono ?_
    rintro e w8 ⟨hout, hb8⟩
    rcases hout with ⟨m', a8, c8, -, hnf, -, -⟩ | ⟨-, rfl⟩
    · exact absurd HF.out hnf
    · have F8 := F7.later hb8
      have HB8 := bthen HB7 hb8
      have hl8 := hl7.later hb8
      have RG8 : w8.rangeAt (w.heap.size + 1) 0 hs.toList := fun i v hv => cellB_later' hb8 (HRG7.out i v hv)
      have HRG8 := hidB RG8
      have hp8 : BufsAt w8 none [] := ⟨Or.inl rfl, by simp⟩
      clear RG8 HRG7 hb8 F7 hl7 HB7 p0 p1 p2 p3 lx
      have hsm := hidB (fun w => sameC7 w)
      obtain ⟨r, hr1, hr2⟩ := pick_both l a c hs HZ.out B (w.heap.size + 1) HG.out HH.out
      have HPK := hidB (And.intro hr1 hr2)
      clear hr1 hr2
      have HBh := hidB HB8
      clear HB8
      have hsz2 : (Try.prog.info? 73).map (·.size) = some hs.toList.length := hsz.out
      have hu2 := Try.underlying73
      go_wp2_with fail
      go_region_held3 (fun w' => (w'.cell? ⟨w.heap.size, 0, none⟩ = some (.int .i64 x.pl) ∧ w'.cell? ⟨w.heap.size, 1, none⟩ = some (.string x.data) ∧ w'.cell? ⟨w.heap.size, 2, none⟩ = some (.bool x.dirty) ∧ w'.cell? ⟨w.heap.size, 3, none⟩ = some (.int .i64 x.used)) ∧ w'.rangeAt (w.heap.size + 1) 0 hs.toList) (exact ⟨(show FourB _ w.heap.size x by repeat (first | with_reducible exact F8 | with_reducible refine FourB.drew ?_ | with_reducible refine FourB.alloc ?_ _ | with_reducible refine FourB.later ?_ (by assumption))), fun i v hv => cellB_later' (by repeat (first | with_reducible exact Below.refl _ _ | with_reducible refine balloc ?_ _ | with_reducible refine bdrew ?_ | with_reducible refine bset' ?_ (by omega) _ | with_reducible refine bthen ?_ (by assumption))) (HRG8.out i v hv)⟩) (first | (go_at_call 13; refine (hsm.out _).mono ?_; rintro e wA ⟨rfl, hbA⟩) | (go_at_call 44; refine (cleanG l a c x.pl x.data _ (hl8.later (by repeat (first | with_reducible exact Below.refl _ _ | with_reducible refine balloc ?_ _ | with_reducible refine bdrew ?_ | with_reducible refine bset' ?_ (by omega) _ | with_reducible refine bthen ?_ (by assumption)))) hn (by have := HG.out.len; omega) HG.out.once).mono ?_; rintro e wC ⟨aC, cC, rfl, hmC, hcC, hbC⟩) | (go_at_call 45; refine (rclean l a c x.pl x.data _ (hl8.later (by repeat (first | with_reducible exact Below.refl _ _ | with_reducible refine balloc ?_ _ | with_reducible refine bdrew ?_ | with_reducible refine bset' ?_ (by omega) _ | with_reducible refine bthen ?_ (by assumption)))) hn (by have := HG.out.len; omega)).mono ?_; rintro e wD ⟨aD, cD, rfl, hmD, hbD⟩) | (go_at_call 37; refine (sameb_n (cleanL l x.pl x.data) l.length (cleanL_len l x.pl x.data).symm aC aD cC cD _ (hmC.later (by repeat (first | with_reducible exact Below.refl _ _ | with_reducible refine balloc ?_ _ | with_reducible refine bdrew ?_ | with_reducible refine bset' ?_ (by omega) _ | with_reducible refine bthen ?_ (by assumption)))) (hmD.later (by repeat (first | with_reducible exact Below.refl _ _ | with_reducible refine balloc ?_ _ | with_reducible refine bdrew ?_ | with_reducible refine bset' ?_ (by omega) _ | with_reducible refine bthen ?_ (by assumption))))).mono ?_; rintro e wS ⟨rfl, hbS⟩) | (go_at_call 37; refine (sameb_n [] 0 rfl none none 0 0 _ (hp8.later (by repeat (first | with_reducible exact Below.refl _ _ | with_reducible refine balloc ?_ _ | with_reducible refine bdrew ?_ | with_reducible refine bset' ?_ (by omega) _ | with_reducible refine bthen ?_ (by assumption)))) (hp8.later (by repeat (first | with_reducible exact Below.refl _ _ | with_reducible refine balloc ?_ _ | with_reducible refine bdrew ?_ | with_reducible refine bset' ?_ (by omega) _ | with_reducible refine bthen ?_ (by assumption))))).mono ?_; rintro e wB ⟨rfl, hbB⟩) | (go_at_call 46; refine (HPK.out.1 _ (hl8.later (by repeat (first | with_reducible exact Below.refl _ _ | with_reducible refine balloc ?_ _ | with_reducible refine bdrew ?_ | with_reducible refine bset' ?_ (by omega) _ | with_reducible refine bthen ?_ (by assumption)))) (fun i v hv => cellB_later' (by repeat (first | with_reducible exact Below.refl _ _ | with_reducible refine balloc ?_ _ | with_reducible refine bdrew ?_ | with_reducible refine bset' ?_ (by omega) _ | with_reducible refine bthen ?_ (by assumption))) (HRG8.out i v hv))).mono ?_; rintro e wP ⟨rfl, hbP⟩) | (go_at_call 47; (try rw [Array.toArray_toList]); refine (HPK.out.2 _ (hl8.later (by repeat (first | with_reducible exact Below.refl _ _ | with_reducible refine balloc ?_ _ | with_reducible refine bdrew ?_ | with_reducible refine bset' ?_ (by omega) _ | with_reducible refine bthen ?_ (by assumption))))).mono ?_; rintro e wQ ⟨rfl, hbQ⟩))
      have bQ : Below w8.heap.size w8 wQ := by repeat (first | with_reducible exact Below.refl _ _ | with_reducible refine balloc ?_ _ | with_reducible refine bdrew ?_ | with_reducible refine bset' ?_ (by omega) _ | with_reducible refine bthen ?_ (by assumption))
      have HBQ := hidB (bthen HBh.out bQ)
      clear bQ hbA hbB hbC hbD hbS hbP hbQ hmC hmD HPK hsm
      go_wp2
      go_ret
      exact ⟨by simp, HBQ.out⟩
end Go.Proofs.Ytpmjgofjdejeeac
