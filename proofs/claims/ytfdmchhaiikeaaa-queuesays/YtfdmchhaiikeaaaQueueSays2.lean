/- QueueSays: the walk. -/
import Derived.Test.YtfdmchhaiikeaaaQueueSays1
namespace Go.Proofs.Ytfdmchhaiikeaaa
open Go.RowKit Go.BigFrame
attribute [local go_sem] Later.cell Later.frozen

set_option linter.unusedSimpArgs false in
set_option maxRecDepth 100000 in
set_option maxHeartbeats 8000000 in
theorem qs_walk (l : List Rq) (a : Option Addr) (c : Nat) (r : Rq) (nn at' : Int) (w : World) (hl : ReqsAt w a l) (hcap : l.length ≤ c) (hn : a = none → c = 0) (hr : r.At w) :
    Calls Try.prog 4 #[.slice a l.length c, r.val, .int .i64 nn, .int .i64 at'] w fun e w' => e = .returned (.bool true) ∧ Below w.heap.size w w' := by
  have hlen := hl.2.2
  go_enter Try.func4, Try.ntmps4
  go_wp2_with fail
  refine (queues_any _).mono ?_
  rintro e w1 ⟨rfl, hbx⟩
  have S : Six w1 w.heap.size r := (six_newA w 36 r).later hbx
  have HB : Below w.heap.size w w1 := by repeat (first | with_reducible exact Below.refl _ _ | with_reducible refine balloc ?_ _ | with_reducible refine bdrew ?_ | with_reducible refine bset' ?_ (by omega) _ | with_reducible refine bthen ?_ (by assumption))
  clear hbx
  obtain ⟨s0, s1, s2, s3, s4, s5⟩ := id S
  go_wp2_with fail
  cases hll : lightsB l
  · refine (lights_any l _ c _ (hl.later HB) _ hll).mono ?_
    rintro e w2 ⟨rfl, hbx⟩
    go_wp2
    go_ret
    exact ⟨rfl, by repeat (first | with_reducible exact Below.refl _ _ | with_reducible refine balloc ?_ _ | with_reducible refine bdrew ?_ | with_reducible refine bset' ?_ (by omega) _ | with_reducible refine bthen ?_ (by assumption))⟩
  have h10 : l.length ≤ 10 := by simp only [lightsB, Bool.and_eq_true, decide_eq_true_eq] at hll; exact hll.1
  refine (lights_any l _ c _ (hl.later HB) _ hll).mono ?_
  rintro e w2 ⟨rfl, hbx⟩
  have T1 : Six w2 w.heap.size r := (by repeat (first | with_reducible exact S | with_reducible refine Six.drew ?_ | with_reducible refine Six.alloc ?_ _ | with_reducible refine Six.later ?_ (by assumption) | with_reducible refine Six.set ?_ (by omega) _)); have HC : Below w.heap.size w w2 := (by repeat (first | with_reducible exact Below.refl _ _ | with_reducible refine balloc ?_ _ | with_reducible refine bdrew ?_ | with_reducible refine bset' ?_ (by omega) _ | with_reducible refine bthen ?_ (by assumption))); clear S HB s0 s1 s2 s3 s4 s5; (try clear hbx); have S := T1; have HB := HC; clear T1 HC; obtain ⟨s0, s1, s2, s3, s4, s5⟩ := id S
  go_wp2_with fail
  cases hlr : lightB r
  · refine (light_any r _ (hr.later HB) _ hlr).mono ?_
    rintro e w3 ⟨rfl, hbx⟩
    go_wp2
    go_ret
    exact ⟨rfl, by repeat (first | with_reducible exact Below.refl _ _ | with_reducible refine balloc ?_ _ | with_reducible refine bdrew ?_ | with_reducible refine bset' ?_ (by omega) _ | with_reducible refine bthen ?_ (by assumption))⟩
  refine (light_any r _ (hr.later HB) _ hlr).mono ?_
  rintro e w3 ⟨rfl, hbx⟩
  have T1 : Six w3 w.heap.size r := (by repeat (first | with_reducible exact S | with_reducible refine Six.drew ?_ | with_reducible refine Six.alloc ?_ _ | with_reducible refine Six.later ?_ (by assumption) | with_reducible refine Six.set ?_ (by omega) _)); have HC : Below w.heap.size w w3 := (by repeat (first | with_reducible exact Below.refl _ _ | with_reducible refine balloc ?_ _ | with_reducible refine bdrew ?_ | with_reducible refine bset' ?_ (by omega) _ | with_reducible refine bthen ?_ (by assumption))); clear S HB s0 s1 s2 s3 s4 s5; (try clear hbx); have S := T1; have HB := HC; clear T1 HC; obtain ⟨s0, s1, s2, s3, s4, s5⟩ := id S
  go_wp2_with fail
  cases hg : goodsB l
  · refine (goods_any l _ c _ (hl.later HB)).mono ?_
    rw [hg]
    rintro e w4 ⟨rfl, hbx⟩
    go_wp2
    go_ret
    exact ⟨rfl, by repeat (first | with_reducible exact Below.refl _ _ | with_reducible refine balloc ?_ _ | with_reducible refine bdrew ?_ | with_reducible refine bset' ?_ (by omega) _ | with_reducible refine bthen ?_ (by assumption))⟩
  refine (goods_any l _ c _ (hl.later HB)).mono ?_
  rw [hg]
  rintro e w4 ⟨rfl, hbx⟩
  have T1 : Six w4 w.heap.size r := (by repeat (first | with_reducible exact S | with_reducible refine Six.drew ?_ | with_reducible refine Six.alloc ?_ _ | with_reducible refine Six.later ?_ (by assumption) | with_reducible refine Six.set ?_ (by omega) _)); have HC : Below w.heap.size w w4 := (by repeat (first | with_reducible exact Below.refl _ _ | with_reducible refine balloc ?_ _ | with_reducible refine bdrew ?_ | with_reducible refine bset' ?_ (by omega) _ | with_reducible refine bthen ?_ (by assumption))); clear S HB s0 s1 s2 s3 s4 s5; (try clear hbx); have S := T1; have HB := HC; clear T1 HC; obtain ⟨s0, s1, s2, s3, s4, s5⟩ := id S
  have G := goods_of hg
  have HG := hid_of G
  clear hg hll hlr G
  go_wp2_with fail
  by_cases hf : faultR r = 0
  case neg =>
    have hfp := fault_pos r hf
    have sE : (decide (0 < faultR r) && (faultR r == faultR r)) = true := by rw [decide_eq_true hfp]; simp
    refine (add_bad l a c r _ (hr.later HB) _ rfl hf).mono ?_
    rintro e w5 ⟨rfl, hbx⟩
    have T1 : Six w5 w.heap.size r := (by repeat (first | with_reducible exact S | with_reducible refine Six.drew ?_ | with_reducible refine Six.alloc ?_ _ | with_reducible refine Six.later ?_ (by assumption) | with_reducible refine Six.set ?_ (by omega) _)); have HC : Below w.heap.size w w5 := (by repeat (first | with_reducible exact Below.refl _ _ | with_reducible refine balloc ?_ _ | with_reducible refine bdrew ?_ | with_reducible refine bset' ?_ (by omega) _ | with_reducible refine bthen ?_ (by assumption))); clear S HB s0 s1 s2 s3 s4 s5; (try clear hbx); have S := T1; have HB := HC; clear T1 HC; obtain ⟨s0, s1, s2, s3, s4, s5⟩ := id S
    go_wp2_with fail
    refine (radd_bad l a c r _ (hr.later HB) _ rfl hf).mono ?_
    rintro e w6 ⟨rfl, hbx⟩
    have T1 : Six w6 w.heap.size r := (by repeat (first | with_reducible exact S | with_reducible refine Six.drew ?_ | with_reducible refine Six.alloc ?_ _ | with_reducible refine Six.later ?_ (by assumption) | with_reducible refine Six.set ?_ (by omega) _)); have HC : Below w.heap.size w w6 := (by repeat (first | with_reducible exact Below.refl _ _ | with_reducible refine balloc ?_ _ | with_reducible refine bdrew ?_ | with_reducible refine bset' ?_ (by omega) _ | with_reducible refine bthen ?_ (by assumption))); clear S HB s0 s1 s2 s3 s4 s5; (try clear hbx); have S := T1; have HB := HC; clear T1 HC; obtain ⟨s0, s1, s2, s3, s4, s5⟩ := id S
    go_wp2_with fail
    refine (same_err (faultR r) (faultR r) _).mono ?_
    rw [sE]
    rintro e w7 ⟨rfl, hbx⟩
    have T1 : Six w7 w.heap.size r := (by repeat (first | with_reducible exact S | with_reducible refine Six.drew ?_ | with_reducible refine Six.alloc ?_ _ | with_reducible refine Six.later ?_ (by assumption) | with_reducible refine Six.set ?_ (by omega) _)); have HC : Below w.heap.size w w7 := (by repeat (first | with_reducible exact Below.refl _ _ | with_reducible refine balloc ?_ _ | with_reducible refine bdrew ?_ | with_reducible refine bset' ?_ (by omega) _ | with_reducible refine bthen ?_ (by assumption))); clear S HB s0 s1 s2 s3 s4 s5; (try clear hbx); have S := T1; have HB := HC; clear T1 HC; obtain ⟨s0, s1, s2, s3, s4, s5⟩ := id S
    go_wp2_with fail
    refine (sames_yes [] [] none none 0 0 _ ⟨Or.inl rfl, by simp, by simp⟩ ⟨Or.inl rfl, by simp, by simp⟩ ⟨rfl, fun i h => absurd h (Nat.not_lt_zero _)⟩).mono ?_
    rintro e w8 ⟨rfl, hbx⟩
    have T1 : Six w8 w.heap.size r := (by repeat (first | with_reducible exact S | with_reducible refine Six.drew ?_ | with_reducible refine Six.alloc ?_ _ | with_reducible refine Six.later ?_ (by assumption) | with_reducible refine Six.set ?_ (by omega) _)); have HC : Below w.heap.size w w8 := (by repeat (first | with_reducible exact Below.refl _ _ | with_reducible refine balloc ?_ _ | with_reducible refine bdrew ?_ | with_reducible refine bset' ?_ (by omega) _ | with_reducible refine bthen ?_ (by assumption))); clear S HB s0 s1 s2 s3 s4 s5; (try clear hbx); have S := T1; have HB := HC; clear T1 HC; obtain ⟨s0, s1, s2, s3, s4, s5⟩ := id S
    clear hf hfp sE
    by_cases h0 : 0 < l.length
    case neg =>
      have g0 : decide ((0 : Int) < (l.length : Int)) = false := decide_eq_false (by omega)
      go_wp2_with fail; refine (oldest_any l _ _ true _ (hl.later HB)).mono ?_; rintro e wA ⟨rfl, hbx⟩; replace HB : Below w.heap.size w wA := (by repeat (first | with_reducible exact Below.refl _ _ | with_reducible refine balloc ?_ _ | with_reducible refine bdrew ?_ | with_reducible refine bset' ?_ (by omega) _ | with_reducible refine bthen ?_ (by assumption))); clear hbx; go_wp2_with fail; refine (roldest_any l _ _ true _ (hl.later HB)).mono ?_; rintro e wB ⟨rfl, hbx⟩; replace HB : Below w.heap.size w wB := (by repeat (first | with_reducible exact Below.refl _ _ | with_reducible refine balloc ?_ _ | with_reducible refine bdrew ?_ | with_reducible refine bset' ?_ (by omega) _ | with_reducible refine bthen ?_ (by assumption))); clear hbx; go_wp2_with fail; refine (oldest_any l _ _ false _ (hl.later HB)).mono ?_; rintro e wC ⟨rfl, hbx⟩; replace HB : Below w.heap.size w wC := (by repeat (first | with_reducible exact Below.refl _ _ | with_reducible refine balloc ?_ _ | with_reducible refine bdrew ?_ | with_reducible refine bset' ?_ (by omega) _ | with_reducible refine bthen ?_ (by assumption))); clear hbx; go_wp2_with fail; refine (roldest_any l _ _ false _ (hl.later HB)).mono ?_; rintro e wD ⟨rfl, hbx⟩; replace HB : Below w.heap.size w wD := (by repeat (first | with_reducible exact Below.refl _ _ | with_reducible refine balloc ?_ _ | with_reducible refine bdrew ?_ | with_reducible refine bset' ?_ (by omega) _ | with_reducible refine bthen ?_ (by assumption))); clear hbx; go_wp2_with fail; refine (from_any l _ _ true at' _ (hl.later HB)).mono ?_; rintro e wE ⟨rfl, hbx⟩; replace HB : Below w.heap.size w wE := (by repeat (first | with_reducible exact Below.refl _ _ | with_reducible refine balloc ?_ _ | with_reducible refine bdrew ?_ | with_reducible refine bset' ?_ (by omega) _ | with_reducible refine bthen ?_ (by assumption))); clear hbx; go_wp2_with fail; refine (rfrom_any l _ _ true at' _ (hl.later HB)).mono ?_; rintro e wF ⟨rfl, hbx⟩; replace HB : Below w.heap.size w wF := (by repeat (first | with_reducible exact Below.refl _ _ | with_reducible refine balloc ?_ _ | with_reducible refine bdrew ?_ | with_reducible refine bset' ?_ (by omega) _ | with_reducible refine bthen ?_ (by assumption))); clear hbx; go_wp2_with fail; refine (from_any l _ _ false at' _ (hl.later HB)).mono ?_; rintro e wG ⟨rfl, hbx⟩; replace HB : Below w.heap.size w wG := (by repeat (first | with_reducible exact Below.refl _ _ | with_reducible refine balloc ?_ _ | with_reducible refine bdrew ?_ | with_reducible refine bset' ?_ (by omega) _ | with_reducible refine bthen ?_ (by assumption))); clear hbx; go_wp2_with fail; refine (rfrom_any l _ _ false at' _ (hl.later HB)).mono ?_; rintro e wH ⟨rfl, hbx⟩; replace HB : Below w.heap.size w wH := (by repeat (first | with_reducible exact Below.refl _ _ | with_reducible refine balloc ?_ _ | with_reducible refine bdrew ?_ | with_reducible refine bset' ?_ (by omega) _ | with_reducible refine bthen ?_ (by assumption))); clear hbx; go_wp2; go_ret; exact ⟨rfl, by repeat (first | with_reducible exact Below.refl _ _ | with_reducible refine balloc ?_ _ | with_reducible refine bdrew ?_ | with_reducible refine bset' ?_ (by omega) _ | with_reducible refine bthen ?_ (by assumption))⟩
    obtain ⟨k, hk, hke⟩ := idx1023 nn l.length h0
    have hlne : l ≠ [] := by rintro rfl; exact absurd h0 (Nat.not_lt_zero _)
    obtain ⟨b, o, rfl⟩ := hl.form.resolve_left hlne
    have HE := hid_of hke
    clear hke hlne
    go_wp2_with fail
    rw [HE.out]
    refine (take_any l b o c _ (hl.later HB) (by omega) hcap k hk).mono ?_
    rintro e w9 ⟨v9, rfl, hown9, hbx⟩
    have HB9 : Below w.heap.size w w9 := by repeat (first | with_reducible exact Below.refl _ _ | with_reducible refine balloc ?_ _ | with_reducible refine bdrew ?_ | with_reducible refine bset' ?_ (by omega) _ | with_reducible refine bthen ?_ (by assumption))
    obtain ⟨M, hM⟩ : ∃ M, M = l.take k ++ l.drop (k + 1) := ⟨_, rfl⟩
    have hMl : l.length - 1 = M.length := by rw [hM, List.length_append, List.length_take, List.length_drop]; omega
    have hMa : ∀ x ∈ M, x ∈ l := fun x hx => by rw [hM] at hx; rcases List.mem_append.1 hx with h | h; exact List.mem_of_mem_take h; exact List.mem_of_mem_drop h
    rw [← hM] at hown9
    obtain ⟨a9, c9, rfl, hR9, hcap9, -, -, -⟩ := reqs_of_owned hown9 (fun x hx => (hl.2.1 x (hMa x hx)).later HB9) hMl (by omega)
    have HM := hid_of (⟨hM, hMl, hMa⟩ : _ ∧ _ ∧ _)
    obtain ⟨c0, c1, c2, c3, c4, c5⟩ := (hl.later HB9).cells hk
    have lc := lt_of_cell c0
    have S9 : Six w9 w.heap.size r := S.later hbx
    clear hM hMl hMa hown9 hbx S HB s0 s1 s2 s3 s4 s5
    go_wp2_with fail
    refine wp_world (fun wK => Six wK w9.heap.size l[k] ∧ ReqsAt wK a9 M ∧ ReqsAt wK (some ⟨b, o, none⟩) l ∧ Below w.heap.size w wK) ⟨six_newA w9 _ l[k], hR9.later (by repeat (first | with_reducible exact Below.refl _ _ | with_reducible refine balloc ?_ _ | with_reducible refine bdrew ?_ | with_reducible refine bset' ?_ (by omega) _ | with_reducible refine bthen ?_ (by assumption))), hl.later (by repeat (first | with_reducible exact Below.refl _ _ | with_reducible refine balloc ?_ _ | with_reducible refine bdrew ?_ | with_reducible refine bset' ?_ (by omega) _ | with_reducible refine bthen ?_ (by assumption))), by repeat (first | with_reducible exact Below.refl _ _ | with_reducible refine balloc ?_ _ | with_reducible refine bdrew ?_ | with_reducible refine bset' ?_ (by omega) _ | with_reducible refine bthen ?_ (by assumption))⟩ ?_
    clear hR9 c0 c1 c2 c3 c4 c5 lc S9 HB9
    rintro wK ⟨So, hR9, hlK, HBK⟩
    have esp : l = l.take k ++ [l[k]] ++ l.drop (k + 1) := by rw [List.append_assoc, List.singleton_append, List.getElem_cons_drop, List.take_append_drop]
    have elt : (l.take k).length = k := by rw [List.length_take]; omega
    have eld : (l.drop (k + 1)).length = l.length - (k + 1) := by rw [List.length_drop]
    have R1 : RowAt wK 6 (some ⟨b, o, none⟩) k c (rcells (l.take k)) := by
      have := hlK.row (c := c) [] (l.take k) ([l[k]] ++ l.drop (k + 1)) (by simp)
      rw [elt] at this
      simpa using this
    have hwr : IntKind.i64.wrap ((k : Int) + 1) = (k : Int) + 1 := by rw [IntKind.wrap_i64]; omega
    have hsl1 := fun w => slice_to b o l.length c k w hk hcap
    obtain ⟨iR, hR1, hR2, hR3, hR4⟩ := pluck infoR
    have HL := hid_of (⟨esp, elt, eld⟩ : _ ∧ _ ∧ _)
    by_cases hce : c = k + 1
    · subst hce
      have hni : l.length = k + 1 := by omega
      have e3 : l.drop (k + 1) = [] := List.eq_nil_of_length_eq_zero (by omega)
      have R2 : RowAt wK 6 (some ⟨b, o, none⟩) 0 0 (rcells (l.drop (k + 1))) := by
        rw [e3]; exact ⟨rfl, by simp [rcells], Or.inr ⟨_, rfl, fun j u h => by simp [rcells] at h⟩⟩
      have hsl2 := fun w => slice_end b o l.length k w hni
      clear esp elt eld e3 hni
      go_region_held3 (fun _ => True) (trivial) (first | (refine step_append (by rfl) (.const (.slice none 0 0)) (.tmp 75) 32 (by rfl) wK.heap.size 36 iR _ 6 80 Try.underlying32 hR1 hR2 hR3 hR4 rfl (by decide) (.slice none 0 0) 0 [] (by rfl) (World.ownsRow_nil _ _ _ _) (some ⟨b, o, none⟩) k (k + 1) (rcells (l.take k)) (by simp [Act.eval, Act.put]) (R1.later (by repeat (first | with_reducible exact Below.refl _ _ | with_reducible refine balloc ?_ _ | with_reducible refine bdrew ?_ | with_reducible refine bset' ?_ (by omega) _ | with_reducible refine bthen ?_ (by assumption)))) (by unfold maxLen; omega) (by omega) (by simp) ?_; intro v1 wI hown1 hb1; rw [Nat.zero_add, List.nil_append] at hown1; have hB1 : Below wK.heap.size wK wI := Below.trans (by repeat (first | with_reducible exact Below.refl _ _ | with_reducible refine balloc ?_ _ | with_reducible refine bdrew ?_ | with_reducible refine bset' ?_ (by omega) _ | with_reducible refine bthen ?_ (by assumption))) hb1) | (refine step_append (by rfl) (.tmp 76) (.tmp 80) 32 (by rfl) wK.heap.size 36 iR _ 6 80 Try.underlying32 hR1 hR2 hR3 hR4 rfl (by decide) v1 k (rcells (l.take k)) (by simp [Act.eval, Act.put]) (by first | exact hown1 | exact ownsRow_drew hown1) (some ⟨b, o, none⟩) 0 0 (rcells (l.drop (k + 1))) (by simp [Act.eval, Act.put]) (R2.later (by repeat (first | with_reducible exact Below.refl _ _ | with_reducible refine balloc ?_ _ | with_reducible refine bdrew ?_ | with_reducible refine bset' ?_ (by omega) _ | with_reducible refine bthen ?_ (by assumption)))) (by unfold maxLen; omega) (by omega) (by have := hB1.size; (try simp); omega) ?_; intro v2 wJ hown2 hb2; have hB2 : Below wK.heap.size wK wJ := (by first | exact hB1.trans hb2 | exact hB1.drew.trans hb2)))
      rw [← rcells_append, ← HM.out.1] at hown2
      obtain ⟨aJ, cJ, rfl, hRJ, -, -, -, -⟩ := reqs_of_owned hown2 (fun x hx => (hl.2.1 x (HM.out.2.2 x hx)).later (bthen HBK hB2)) (by rw [← HM.out.2.1]; omega) (by rw [← HM.out.2.1]; omega)
      have So' := So.later hB2
      have hR9' := hR9.later hB2
      have hlJ := hlK.later hB2
      have HBH := hid_of (bthen HBK hB2)
      have hAt : l[k].At wJ := Rq.At.of hl hk HBH.out
      obtain ⟨t0, t1, t2, t3, t4, t5⟩ := id So'
      have lt0 := lt_of_cell t0
      obtain ⟨c0, c1, c2, c3, c4, c5⟩ := hlJ.cells hk
      have lc := lt_of_cell c0
      have kk0 : (0 : Int) ≤ (k : Int) := by omega
      have kk1 : (k : Int) < (l.length : Int) := by omega
      have HRS := hid_of (⟨hR9', hRJ, hAt⟩ : _ ∧ _ ∧ _)
      clear hR9' hRJ hAt hlJ So' So hR9 hlK hB1 hB2 hb1 hb2 hown1 hown2 hR1 hR2 hR3 hR4 R1 R2 HBK
      go_wp2_with fail
      refine wp_region_later (by first | exact HB | exact bdrew HB | exact Below.refl _ _) (by kernel_rfl) (by kernel_rfl) ?_
      repeat (go_big_quiet_step (first | exact rfl | (go_at_call 21; exact calls_later (sames_yes M M _ _ _ _ _ (HRS.out.1.later (Later.below _)) (HRS.out.2.1.later (Later.below _)) (sames_refl M))) | (go_at_call 23; exact calls_later (sameReq_any l[k] l[k] _ (HRS.out.2.2.later (Later.below _)) (HRS.out.2.2.later (Later.below _)) true (sameB_refl _)))))
      refine wpQuiet_nil ?_; intro _ hw'; obtain ⟨p, hw''⟩ := hw'; subst hw''; (try clear hc hf hz); (try clear HB); have HB := p.below; obtain ⟨hc, hf, hz⟩ := bcell HB
      replace HB := bthen HBH.out HB
      clear hc hf hz
      go_wp2_with fail; refine (oldest_any l _ _ true _ (hl.later HB)).mono ?_; rintro e wA ⟨rfl, hbx⟩; replace HB : Below w.heap.size w wA := (by repeat (first | with_reducible exact Below.refl _ _ | with_reducible refine balloc ?_ _ | with_reducible refine bdrew ?_ | with_reducible refine bset' ?_ (by omega) _ | with_reducible refine bthen ?_ (by assumption))); clear hbx; go_wp2_with fail; refine (roldest_any l _ _ true _ (hl.later HB)).mono ?_; rintro e wB ⟨rfl, hbx⟩; replace HB : Below w.heap.size w wB := (by repeat (first | with_reducible exact Below.refl _ _ | with_reducible refine balloc ?_ _ | with_reducible refine bdrew ?_ | with_reducible refine bset' ?_ (by omega) _ | with_reducible refine bthen ?_ (by assumption))); clear hbx; go_wp2_with fail; refine (oldest_any l _ _ false _ (hl.later HB)).mono ?_; rintro e wC ⟨rfl, hbx⟩; replace HB : Below w.heap.size w wC := (by repeat (first | with_reducible exact Below.refl _ _ | with_reducible refine balloc ?_ _ | with_reducible refine bdrew ?_ | with_reducible refine bset' ?_ (by omega) _ | with_reducible refine bthen ?_ (by assumption))); clear hbx; go_wp2_with fail; refine (roldest_any l _ _ false _ (hl.later HB)).mono ?_; rintro e wD ⟨rfl, hbx⟩; replace HB : Below w.heap.size w wD := (by repeat (first | with_reducible exact Below.refl _ _ | with_reducible refine balloc ?_ _ | with_reducible refine bdrew ?_ | with_reducible refine bset' ?_ (by omega) _ | with_reducible refine bthen ?_ (by assumption))); clear hbx; go_wp2_with fail; refine (from_any l _ _ true at' _ (hl.later HB)).mono ?_; rintro e wE ⟨rfl, hbx⟩; replace HB : Below w.heap.size w wE := (by repeat (first | with_reducible exact Below.refl _ _ | with_reducible refine balloc ?_ _ | with_reducible refine bdrew ?_ | with_reducible refine bset' ?_ (by omega) _ | with_reducible refine bthen ?_ (by assumption))); clear hbx; go_wp2_with fail; refine (rfrom_any l _ _ true at' _ (hl.later HB)).mono ?_; rintro e wF ⟨rfl, hbx⟩; replace HB : Below w.heap.size w wF := (by repeat (first | with_reducible exact Below.refl _ _ | with_reducible refine balloc ?_ _ | with_reducible refine bdrew ?_ | with_reducible refine bset' ?_ (by omega) _ | with_reducible refine bthen ?_ (by assumption))); clear hbx; go_wp2_with fail; refine (from_any l _ _ false at' _ (hl.later HB)).mono ?_; rintro e wG ⟨rfl, hbx⟩; replace HB : Below w.heap.size w wG := (by repeat (first | with_reducible exact Below.refl _ _ | with_reducible refine balloc ?_ _ | with_reducible refine bdrew ?_ | with_reducible refine bset' ?_ (by omega) _ | with_reducible refine bthen ?_ (by assumption))); clear hbx; go_wp2_with fail; refine (rfrom_any l _ _ false at' _ (hl.later HB)).mono ?_; rintro e wH ⟨rfl, hbx⟩; replace HB : Below w.heap.size w wH := (by repeat (first | with_reducible exact Below.refl _ _ | with_reducible refine balloc ?_ _ | with_reducible refine bdrew ?_ | with_reducible refine bset' ?_ (by omega) _ | with_reducible refine bthen ?_ (by assumption))); clear hbx; go_wp2; go_ret; exact ⟨rfl, by repeat (first | with_reducible exact Below.refl _ _ | with_reducible refine balloc ?_ _ | with_reducible refine bdrew ?_ | with_reducible refine bset' ?_ (by omega) _ | with_reducible refine bthen ?_ (by assumption))⟩
    · have R2 : RowAt wK 6 (some ⟨b, o + (k + 1) * 6, none⟩) (l.length - (k + 1)) (c - (k + 1)) (rcells (l.drop (k + 1))) := by
        have := hlK.row (c := c - (k + 1)) (l.take k ++ [l[k]]) (l.drop (k + 1)) [] (by simp)
        rw [List.length_append, List.length_singleton, elt, eld] at this
        exact this
      have hsl2 := fun w => slice_from b o l.length c k w hk hce
      clear esp elt eld
      go_region_held3 (fun _ => True) (trivial) (first | (refine step_append (by rfl) (.const (.slice none 0 0)) (.tmp 75) 32 (by rfl) wK.heap.size 36 iR _ 6 80 Try.underlying32 hR1 hR2 hR3 hR4 rfl (by decide) (.slice none 0 0) 0 [] (by rfl) (World.ownsRow_nil _ _ _ _) (some ⟨b, o, none⟩) k c (rcells (l.take k)) (by simp [Act.eval, Act.put]) (R1.later (by repeat (first | with_reducible exact Below.refl _ _ | with_reducible refine balloc ?_ _ | with_reducible refine bdrew ?_ | with_reducible refine bset' ?_ (by omega) _ | with_reducible refine bthen ?_ (by assumption)))) (by unfold maxLen; omega) (by omega) (by simp) ?_; intro v1 wI hown1 hb1; rw [Nat.zero_add, List.nil_append] at hown1; have hB1 : Below wK.heap.size wK wI := Below.trans (by repeat (first | with_reducible exact Below.refl _ _ | with_reducible refine balloc ?_ _ | with_reducible refine bdrew ?_ | with_reducible refine bset' ?_ (by omega) _ | with_reducible refine bthen ?_ (by assumption))) hb1) | (refine step_append (by rfl) (.tmp 76) (.tmp 80) 32 (by rfl) wK.heap.size 36 iR _ 6 80 Try.underlying32 hR1 hR2 hR3 hR4 rfl (by decide) v1 k (rcells (l.take k)) (by simp [Act.eval, Act.put]) (by first | exact hown1 | exact ownsRow_drew hown1) (some ⟨b, o + (k + 1) * 6, none⟩) (l.length - (k + 1)) (c - (k + 1)) (rcells (l.drop (k + 1))) (by simp [Act.eval, Act.put]) (R2.later (by repeat (first | with_reducible exact Below.refl _ _ | with_reducible refine balloc ?_ _ | with_reducible refine bdrew ?_ | with_reducible refine bset' ?_ (by omega) _ | with_reducible refine bthen ?_ (by assumption)))) (by unfold maxLen; omega) (by omega) (by have := hB1.size; (try simp); omega) ?_; intro v2 wJ hown2 hb2; have hB2 : Below wK.heap.size wK wJ := (by first | exact hB1.trans hb2 | exact hB1.drew.trans hb2)))
      rw [← rcells_append, ← HM.out.1] at hown2
      obtain ⟨aJ, cJ, rfl, hRJ, -, -, -, -⟩ := reqs_of_owned hown2 (fun x hx => (hl.2.1 x (HM.out.2.2 x hx)).later (bthen HBK hB2)) (by rw [← HM.out.2.1]; omega) (by rw [← HM.out.2.1]; omega)
      have So' := So.later hB2
      have hR9' := hR9.later hB2
      have hlJ := hlK.later hB2
      have HBH := hid_of (bthen HBK hB2)
      have hAt : l[k].At wJ := Rq.At.of hl hk HBH.out
      obtain ⟨t0, t1, t2, t3, t4, t5⟩ := id So'
      have lt0 := lt_of_cell t0
      obtain ⟨c0, c1, c2, c3, c4, c5⟩ := hlJ.cells hk
      have lc := lt_of_cell c0
      have kk0 : (0 : Int) ≤ (k : Int) := by omega
      have kk1 : (k : Int) < (l.length : Int) := by omega
      have HRS := hid_of (⟨hR9', hRJ, hAt⟩ : _ ∧ _ ∧ _)
      clear hR9' hRJ hAt hlJ So' So hR9 hlK hB1 hB2 hb1 hb2 hown1 hown2 hR1 hR2 hR3 hR4 R1 R2 HBK
      go_wp2_with fail
      refine wp_region_later (by first | exact HB | exact bdrew HB | exact Below.refl _ _) (by kernel_rfl) (by kernel_rfl) ?_
      repeat (go_big_quiet_step (first | exact rfl | (go_at_call 21; exact calls_later (sames_yes M M _ _ _ _ _ (HRS.out.1.later (Later.below _)) (HRS.out.2.1.later (Later.below _)) (sames_refl M))) | (go_at_call 23; exact calls_later (sameReq_any l[k] l[k] _ (HRS.out.2.2.later (Later.below _)) (HRS.out.2.2.later (Later.below _)) true (sameB_refl _)))))
      refine wpQuiet_nil ?_; intro _ hw'; obtain ⟨p, hw''⟩ := hw'; subst hw''; (try clear hc hf hz); (try clear HB); have HB := p.below; obtain ⟨hc, hf, hz⟩ := bcell HB
      replace HB := bthen HBH.out HB
      clear hc hf hz
      go_wp2_with fail; refine (oldest_any l _ _ true _ (hl.later HB)).mono ?_; rintro e wA ⟨rfl, hbx⟩; replace HB : Below w.heap.size w wA := (by repeat (first | with_reducible exact Below.refl _ _ | with_reducible refine balloc ?_ _ | with_reducible refine bdrew ?_ | with_reducible refine bset' ?_ (by omega) _ | with_reducible refine bthen ?_ (by assumption))); clear hbx; go_wp2_with fail; refine (roldest_any l _ _ true _ (hl.later HB)).mono ?_; rintro e wB ⟨rfl, hbx⟩; replace HB : Below w.heap.size w wB := (by repeat (first | with_reducible exact Below.refl _ _ | with_reducible refine balloc ?_ _ | with_reducible refine bdrew ?_ | with_reducible refine bset' ?_ (by omega) _ | with_reducible refine bthen ?_ (by assumption))); clear hbx; go_wp2_with fail; refine (oldest_any l _ _ false _ (hl.later HB)).mono ?_; rintro e wC ⟨rfl, hbx⟩; replace HB : Below w.heap.size w wC := (by repeat (first | with_reducible exact Below.refl _ _ | with_reducible refine balloc ?_ _ | with_reducible refine bdrew ?_ | with_reducible refine bset' ?_ (by omega) _ | with_reducible refine bthen ?_ (by assumption))); clear hbx; go_wp2_with fail; refine (roldest_any l _ _ false _ (hl.later HB)).mono ?_; rintro e wD ⟨rfl, hbx⟩; replace HB : Below w.heap.size w wD := (by repeat (first | with_reducible exact Below.refl _ _ | with_reducible refine balloc ?_ _ | with_reducible refine bdrew ?_ | with_reducible refine bset' ?_ (by omega) _ | with_reducible refine bthen ?_ (by assumption))); clear hbx; go_wp2_with fail; refine (from_any l _ _ true at' _ (hl.later HB)).mono ?_; rintro e wE ⟨rfl, hbx⟩; replace HB : Below w.heap.size w wE := (by repeat (first | with_reducible exact Below.refl _ _ | with_reducible refine balloc ?_ _ | with_reducible refine bdrew ?_ | with_reducible refine bset' ?_ (by omega) _ | with_reducible refine bthen ?_ (by assumption))); clear hbx; go_wp2_with fail; refine (rfrom_any l _ _ true at' _ (hl.later HB)).mono ?_; rintro e wF ⟨rfl, hbx⟩; replace HB : Below w.heap.size w wF := (by repeat (first | with_reducible exact Below.refl _ _ | with_reducible refine balloc ?_ _ | with_reducible refine bdrew ?_ | with_reducible refine bset' ?_ (by omega) _ | with_reducible refine bthen ?_ (by assumption))); clear hbx; go_wp2_with fail; refine (from_any l _ _ false at' _ (hl.later HB)).mono ?_; rintro e wG ⟨rfl, hbx⟩; replace HB : Below w.heap.size w wG := (by repeat (first | with_reducible exact Below.refl _ _ | with_reducible refine balloc ?_ _ | with_reducible refine bdrew ?_ | with_reducible refine bset' ?_ (by omega) _ | with_reducible refine bthen ?_ (by assumption))); clear hbx; go_wp2_with fail; refine (rfrom_any l _ _ false at' _ (hl.later HB)).mono ?_; rintro e wH ⟨rfl, hbx⟩; replace HB : Below w.heap.size w wH := (by repeat (first | with_reducible exact Below.refl _ _ | with_reducible refine balloc ?_ _ | with_reducible refine bdrew ?_ | with_reducible refine bset' ?_ (by omega) _ | with_reducible refine bthen ?_ (by assumption))); clear hbx; go_wp2; go_ret; exact ⟨rfl, by repeat (first | with_reducible exact Below.refl _ _ | with_reducible refine balloc ?_ _ | with_reducible refine bdrew ?_ | with_reducible refine bset' ?_ (by omega) _ | with_reducible refine bthen ?_ (by assumption))⟩
  have gr := (good_iff r).1 hf
  cases hm : l.any (meetsB r)
  case true =>
    refine (add_busy l a c r _ (hl.later HB) (hr.later HB) hf hm).mono ?_
    rintro e w5 ⟨rfl, hbx⟩
    have T1 : Six w5 w.heap.size r := (by repeat (first | with_reducible exact S | with_reducible refine Six.drew ?_ | with_reducible refine Six.alloc ?_ _ | with_reducible refine Six.later ?_ (by assumption) | with_reducible refine Six.set ?_ (by omega) _)); have HC : Below w.heap.size w w5 := (by repeat (first | with_reducible exact Below.refl _ _ | with_reducible refine balloc ?_ _ | with_reducible refine bdrew ?_ | with_reducible refine bset' ?_ (by omega) _ | with_reducible refine bthen ?_ (by assumption))); clear S HB s0 s1 s2 s3 s4 s5; (try clear hbx); have S := T1; have HB := HC; clear T1 HC; obtain ⟨s0, s1, s2, s3, s4, s5⟩ := id S
    go_wp2_with fail
    refine (radd_core l a c r _ (hl.later HB) hn (hr.later HB) (by omega) gr HG.out.good).mono ?_
    rintro e w6 ⟨ho, hbx⟩
    rcases ho with ⟨-, rfl⟩ | ⟨hm', -⟩
    case inr => rw [hm] at hm'; cases hm'
    have T1 : Six w6 w.heap.size r := (by repeat (first | with_reducible exact S | with_reducible refine Six.drew ?_ | with_reducible refine Six.alloc ?_ _ | with_reducible refine Six.later ?_ (by assumption) | with_reducible refine Six.set ?_ (by omega) _)); have HC : Below w.heap.size w w6 := (by repeat (first | with_reducible exact Below.refl _ _ | with_reducible refine balloc ?_ _ | with_reducible refine bdrew ?_ | with_reducible refine bset' ?_ (by omega) _ | with_reducible refine bthen ?_ (by assumption))); clear S HB s0 s1 s2 s3 s4 s5; (try clear hbx); have S := T1; have HB := HC; clear T1 HC; obtain ⟨s0, s1, s2, s3, s4, s5⟩ := id S
    clear hm hf
    go_wp2_with fail
    refine (same_err 6 6 _).mono ?_
    rintro e w7 ⟨rfl, hbx⟩
    have T1 : Six w7 w.heap.size r := (by repeat (first | with_reducible exact S | with_reducible refine Six.drew ?_ | with_reducible refine Six.alloc ?_ _ | with_reducible refine Six.later ?_ (by assumption) | with_reducible refine Six.set ?_ (by omega) _)); have HC : Below w.heap.size w w7 := (by repeat (first | with_reducible exact Below.refl _ _ | with_reducible refine balloc ?_ _ | with_reducible refine bdrew ?_ | with_reducible refine bset' ?_ (by omega) _ | with_reducible refine bthen ?_ (by assumption))); clear S HB s0 s1 s2 s3 s4 s5; (try clear hbx); have S := T1; have HB := HC; clear T1 HC; obtain ⟨s0, s1, s2, s3, s4, s5⟩ := id S
    go_wp2_with fail
    refine (sames_yes [] [] none none 0 0 _ ⟨Or.inl rfl, by simp, by simp⟩ ⟨Or.inl rfl, by simp, by simp⟩ ⟨rfl, fun i h => absurd h (Nat.not_lt_zero _)⟩).mono ?_
    rintro e w8 ⟨rfl, hbx⟩
    have T1 : Six w8 w.heap.size r := (by repeat (first | with_reducible exact S | with_reducible refine Six.drew ?_ | with_reducible refine Six.alloc ?_ _ | with_reducible refine Six.later ?_ (by assumption) | with_reducible refine Six.set ?_ (by omega) _)); have HC : Below w.heap.size w w8 := (by repeat (first | with_reducible exact Below.refl _ _ | with_reducible refine balloc ?_ _ | with_reducible refine bdrew ?_ | with_reducible refine bset' ?_ (by omega) _ | with_reducible refine bthen ?_ (by assumption))); clear S HB s0 s1 s2 s3 s4 s5; (try clear hbx); have S := T1; have HB := HC; clear T1 HC; obtain ⟨s0, s1, s2, s3, s4, s5⟩ := id S
    by_cases h0 : 0 < l.length
    case neg =>
      have g0 : decide ((0 : Int) < (l.length : Int)) = false := decide_eq_false (by omega)
      go_wp2_with fail; refine (oldest_any l _ _ true _ (hl.later HB)).mono ?_; rintro e wA ⟨rfl, hbx⟩; replace HB : Below w.heap.size w wA := (by repeat (first | with_reducible exact Below.refl _ _ | with_reducible refine balloc ?_ _ | with_reducible refine bdrew ?_ | with_reducible refine bset' ?_ (by omega) _ | with_reducible refine bthen ?_ (by assumption))); clear hbx; go_wp2_with fail; refine (roldest_any l _ _ true _ (hl.later HB)).mono ?_; rintro e wB ⟨rfl, hbx⟩; replace HB : Below w.heap.size w wB := (by repeat (first | with_reducible exact Below.refl _ _ | with_reducible refine balloc ?_ _ | with_reducible refine bdrew ?_ | with_reducible refine bset' ?_ (by omega) _ | with_reducible refine bthen ?_ (by assumption))); clear hbx; go_wp2_with fail; refine (oldest_any l _ _ false _ (hl.later HB)).mono ?_; rintro e wC ⟨rfl, hbx⟩; replace HB : Below w.heap.size w wC := (by repeat (first | with_reducible exact Below.refl _ _ | with_reducible refine balloc ?_ _ | with_reducible refine bdrew ?_ | with_reducible refine bset' ?_ (by omega) _ | with_reducible refine bthen ?_ (by assumption))); clear hbx; go_wp2_with fail; refine (roldest_any l _ _ false _ (hl.later HB)).mono ?_; rintro e wD ⟨rfl, hbx⟩; replace HB : Below w.heap.size w wD := (by repeat (first | with_reducible exact Below.refl _ _ | with_reducible refine balloc ?_ _ | with_reducible refine bdrew ?_ | with_reducible refine bset' ?_ (by omega) _ | with_reducible refine bthen ?_ (by assumption))); clear hbx; go_wp2_with fail; refine (from_any l _ _ true at' _ (hl.later HB)).mono ?_; rintro e wE ⟨rfl, hbx⟩; replace HB : Below w.heap.size w wE := (by repeat (first | with_reducible exact Below.refl _ _ | with_reducible refine balloc ?_ _ | with_reducible refine bdrew ?_ | with_reducible refine bset' ?_ (by omega) _ | with_reducible refine bthen ?_ (by assumption))); clear hbx; go_wp2_with fail; refine (rfrom_any l _ _ true at' _ (hl.later HB)).mono ?_; rintro e wF ⟨rfl, hbx⟩; replace HB : Below w.heap.size w wF := (by repeat (first | with_reducible exact Below.refl _ _ | with_reducible refine balloc ?_ _ | with_reducible refine bdrew ?_ | with_reducible refine bset' ?_ (by omega) _ | with_reducible refine bthen ?_ (by assumption))); clear hbx; go_wp2_with fail; refine (from_any l _ _ false at' _ (hl.later HB)).mono ?_; rintro e wG ⟨rfl, hbx⟩; replace HB : Below w.heap.size w wG := (by repeat (first | with_reducible exact Below.refl _ _ | with_reducible refine balloc ?_ _ | with_reducible refine bdrew ?_ | with_reducible refine bset' ?_ (by omega) _ | with_reducible refine bthen ?_ (by assumption))); clear hbx; go_wp2_with fail; refine (rfrom_any l _ _ false at' _ (hl.later HB)).mono ?_; rintro e wH ⟨rfl, hbx⟩; replace HB : Below w.heap.size w wH := (by repeat (first | with_reducible exact Below.refl _ _ | with_reducible refine balloc ?_ _ | with_reducible refine bdrew ?_ | with_reducible refine bset' ?_ (by omega) _ | with_reducible refine bthen ?_ (by assumption))); clear hbx; go_wp2; go_ret; exact ⟨rfl, by repeat (first | with_reducible exact Below.refl _ _ | with_reducible refine balloc ?_ _ | with_reducible refine bdrew ?_ | with_reducible refine bset' ?_ (by omega) _ | with_reducible refine bthen ?_ (by assumption))⟩
    obtain ⟨k, hk, hke⟩ := idx1023 nn l.length h0
    have hlne : l ≠ [] := by rintro rfl; exact absurd h0 (Nat.not_lt_zero _)
    obtain ⟨b, o, rfl⟩ := hl.form.resolve_left hlne
    have HE := hid_of hke
    clear hke hlne
    go_wp2_with fail
    rw [HE.out]
    refine (take_any l b o c _ (hl.later HB) (by omega) hcap k hk).mono ?_
    rintro e w9 ⟨v9, rfl, hown9, hbx⟩
    have HB9 : Below w.heap.size w w9 := by repeat (first | with_reducible exact Below.refl _ _ | with_reducible refine balloc ?_ _ | with_reducible refine bdrew ?_ | with_reducible refine bset' ?_ (by omega) _ | with_reducible refine bthen ?_ (by assumption))
    obtain ⟨M, hM⟩ : ∃ M, M = l.take k ++ l.drop (k + 1) := ⟨_, rfl⟩
    have hMl : l.length - 1 = M.length := by rw [hM, List.length_append, List.length_take, List.length_drop]; omega
    have hMa : ∀ x ∈ M, x ∈ l := fun x hx => by rw [hM] at hx; rcases List.mem_append.1 hx with h | h; exact List.mem_of_mem_take h; exact List.mem_of_mem_drop h
    rw [← hM] at hown9
    obtain ⟨a9, c9, rfl, hR9, hcap9, -, -, -⟩ := reqs_of_owned hown9 (fun x hx => (hl.2.1 x (hMa x hx)).later HB9) hMl (by omega)
    have HM := hid_of (⟨hM, hMl, hMa⟩ : _ ∧ _ ∧ _)
    obtain ⟨c0, c1, c2, c3, c4, c5⟩ := (hl.later HB9).cells hk
    have lc := lt_of_cell c0
    have S9 : Six w9 w.heap.size r := S.later hbx
    clear hM hMl hMa hown9 hbx S HB s0 s1 s2 s3 s4 s5
    go_wp2_with fail
    refine wp_world (fun wK => Six wK w9.heap.size l[k] ∧ ReqsAt wK a9 M ∧ ReqsAt wK (some ⟨b, o, none⟩) l ∧ Below w.heap.size w wK) ⟨six_newA w9 _ l[k], hR9.later (by repeat (first | with_reducible exact Below.refl _ _ | with_reducible refine balloc ?_ _ | with_reducible refine bdrew ?_ | with_reducible refine bset' ?_ (by omega) _ | with_reducible refine bthen ?_ (by assumption))), hl.later (by repeat (first | with_reducible exact Below.refl _ _ | with_reducible refine balloc ?_ _ | with_reducible refine bdrew ?_ | with_reducible refine bset' ?_ (by omega) _ | with_reducible refine bthen ?_ (by assumption))), by repeat (first | with_reducible exact Below.refl _ _ | with_reducible refine balloc ?_ _ | with_reducible refine bdrew ?_ | with_reducible refine bset' ?_ (by omega) _ | with_reducible refine bthen ?_ (by assumption))⟩ ?_
    clear hR9 c0 c1 c2 c3 c4 c5 lc S9 HB9
    rintro wK ⟨So, hR9, hlK, HBK⟩
    have esp : l = l.take k ++ [l[k]] ++ l.drop (k + 1) := by rw [List.append_assoc, List.singleton_append, List.getElem_cons_drop, List.take_append_drop]
    have elt : (l.take k).length = k := by rw [List.length_take]; omega
    have eld : (l.drop (k + 1)).length = l.length - (k + 1) := by rw [List.length_drop]
    have R1 : RowAt wK 6 (some ⟨b, o, none⟩) k c (rcells (l.take k)) := by
      have := hlK.row (c := c) [] (l.take k) ([l[k]] ++ l.drop (k + 1)) (by simp)
      rw [elt] at this
      simpa using this
    have hwr : IntKind.i64.wrap ((k : Int) + 1) = (k : Int) + 1 := by rw [IntKind.wrap_i64]; omega
    have hsl1 := fun w => slice_to b o l.length c k w hk hcap
    obtain ⟨iR, hR1, hR2, hR3, hR4⟩ := pluck infoR
    have HL := hid_of (⟨esp, elt, eld⟩ : _ ∧ _ ∧ _)
    by_cases hce : c = k + 1
    · subst hce
      have hni : l.length = k + 1 := by omega
      have e3 : l.drop (k + 1) = [] := List.eq_nil_of_length_eq_zero (by omega)
      have R2 : RowAt wK 6 (some ⟨b, o, none⟩) 0 0 (rcells (l.drop (k + 1))) := by
        rw [e3]; exact ⟨rfl, by simp [rcells], Or.inr ⟨_, rfl, fun j u h => by simp [rcells] at h⟩⟩
      have hsl2 := fun w => slice_end b o l.length k w hni
      clear esp elt eld e3 hni
      go_region_held3 (fun _ => True) (trivial) (first | (refine step_append (by rfl) (.const (.slice none 0 0)) (.tmp 75) 32 (by rfl) wK.heap.size 36 iR _ 6 80 Try.underlying32 hR1 hR2 hR3 hR4 rfl (by decide) (.slice none 0 0) 0 [] (by rfl) (World.ownsRow_nil _ _ _ _) (some ⟨b, o, none⟩) k (k + 1) (rcells (l.take k)) (by simp [Act.eval, Act.put]) (R1.later (by repeat (first | with_reducible exact Below.refl _ _ | with_reducible refine balloc ?_ _ | with_reducible refine bdrew ?_ | with_reducible refine bset' ?_ (by omega) _ | with_reducible refine bthen ?_ (by assumption)))) (by unfold maxLen; omega) (by omega) (by simp) ?_; intro v1 wI hown1 hb1; rw [Nat.zero_add, List.nil_append] at hown1; have hB1 : Below wK.heap.size wK wI := Below.trans (by repeat (first | with_reducible exact Below.refl _ _ | with_reducible refine balloc ?_ _ | with_reducible refine bdrew ?_ | with_reducible refine bset' ?_ (by omega) _ | with_reducible refine bthen ?_ (by assumption))) hb1) | (refine step_append (by rfl) (.tmp 76) (.tmp 80) 32 (by rfl) wK.heap.size 36 iR _ 6 80 Try.underlying32 hR1 hR2 hR3 hR4 rfl (by decide) v1 k (rcells (l.take k)) (by simp [Act.eval, Act.put]) (by first | exact hown1 | exact ownsRow_drew hown1) (some ⟨b, o, none⟩) 0 0 (rcells (l.drop (k + 1))) (by simp [Act.eval, Act.put]) (R2.later (by repeat (first | with_reducible exact Below.refl _ _ | with_reducible refine balloc ?_ _ | with_reducible refine bdrew ?_ | with_reducible refine bset' ?_ (by omega) _ | with_reducible refine bthen ?_ (by assumption)))) (by unfold maxLen; omega) (by omega) (by have := hB1.size; (try simp); omega) ?_; intro v2 wJ hown2 hb2; have hB2 : Below wK.heap.size wK wJ := (by first | exact hB1.trans hb2 | exact hB1.drew.trans hb2)))
      rw [← rcells_append, ← HM.out.1] at hown2
      obtain ⟨aJ, cJ, rfl, hRJ, -, -, -, -⟩ := reqs_of_owned hown2 (fun x hx => (hl.2.1 x (HM.out.2.2 x hx)).later (bthen HBK hB2)) (by rw [← HM.out.2.1]; omega) (by rw [← HM.out.2.1]; omega)
      have So' := So.later hB2
      have hR9' := hR9.later hB2
      have hlJ := hlK.later hB2
      have HBH := hid_of (bthen HBK hB2)
      have hAt : l[k].At wJ := Rq.At.of hl hk HBH.out
      obtain ⟨t0, t1, t2, t3, t4, t5⟩ := id So'
      have lt0 := lt_of_cell t0
      obtain ⟨c0, c1, c2, c3, c4, c5⟩ := hlJ.cells hk
      have lc := lt_of_cell c0
      have kk0 : (0 : Int) ≤ (k : Int) := by omega
      have kk1 : (k : Int) < (l.length : Int) := by omega
      have HRS := hid_of (⟨hR9', hRJ, hAt⟩ : _ ∧ _ ∧ _)
      clear hR9' hRJ hAt hlJ So' So hR9 hlK hB1 hB2 hb1 hb2 hown1 hown2 hR1 hR2 hR3 hR4 R1 R2 HBK
      go_wp2_with fail
      refine wp_region_later (by first | exact HB | exact bdrew HB | exact Below.refl _ _) (by kernel_rfl) (by kernel_rfl) ?_
      repeat (go_big_quiet_step (first | exact rfl | (go_at_call 21; exact calls_later (sames_yes M M _ _ _ _ _ (HRS.out.1.later (Later.below _)) (HRS.out.2.1.later (Later.below _)) (sames_refl M))) | (go_at_call 23; exact calls_later (sameReq_any l[k] l[k] _ (HRS.out.2.2.later (Later.below _)) (HRS.out.2.2.later (Later.below _)) true (sameB_refl _)))))
      refine wpQuiet_nil ?_; intro _ hw'; obtain ⟨p, hw''⟩ := hw'; subst hw''; (try clear hc hf hz); (try clear HB); have HB := p.below; obtain ⟨hc, hf, hz⟩ := bcell HB
      replace HB := bthen HBH.out HB
      clear hc hf hz
      go_wp2_with fail; refine (oldest_any l _ _ true _ (hl.later HB)).mono ?_; rintro e wA ⟨rfl, hbx⟩; replace HB : Below w.heap.size w wA := (by repeat (first | with_reducible exact Below.refl _ _ | with_reducible refine balloc ?_ _ | with_reducible refine bdrew ?_ | with_reducible refine bset' ?_ (by omega) _ | with_reducible refine bthen ?_ (by assumption))); clear hbx; go_wp2_with fail; refine (roldest_any l _ _ true _ (hl.later HB)).mono ?_; rintro e wB ⟨rfl, hbx⟩; replace HB : Below w.heap.size w wB := (by repeat (first | with_reducible exact Below.refl _ _ | with_reducible refine balloc ?_ _ | with_reducible refine bdrew ?_ | with_reducible refine bset' ?_ (by omega) _ | with_reducible refine bthen ?_ (by assumption))); clear hbx; go_wp2_with fail; refine (oldest_any l _ _ false _ (hl.later HB)).mono ?_; rintro e wC ⟨rfl, hbx⟩; replace HB : Below w.heap.size w wC := (by repeat (first | with_reducible exact Below.refl _ _ | with_reducible refine balloc ?_ _ | with_reducible refine bdrew ?_ | with_reducible refine bset' ?_ (by omega) _ | with_reducible refine bthen ?_ (by assumption))); clear hbx; go_wp2_with fail; refine (roldest_any l _ _ false _ (hl.later HB)).mono ?_; rintro e wD ⟨rfl, hbx⟩; replace HB : Below w.heap.size w wD := (by repeat (first | with_reducible exact Below.refl _ _ | with_reducible refine balloc ?_ _ | with_reducible refine bdrew ?_ | with_reducible refine bset' ?_ (by omega) _ | with_reducible refine bthen ?_ (by assumption))); clear hbx; go_wp2_with fail; refine (from_any l _ _ true at' _ (hl.later HB)).mono ?_; rintro e wE ⟨rfl, hbx⟩; replace HB : Below w.heap.size w wE := (by repeat (first | with_reducible exact Below.refl _ _ | with_reducible refine balloc ?_ _ | with_reducible refine bdrew ?_ | with_reducible refine bset' ?_ (by omega) _ | with_reducible refine bthen ?_ (by assumption))); clear hbx; go_wp2_with fail; refine (rfrom_any l _ _ true at' _ (hl.later HB)).mono ?_; rintro e wF ⟨rfl, hbx⟩; replace HB : Below w.heap.size w wF := (by repeat (first | with_reducible exact Below.refl _ _ | with_reducible refine balloc ?_ _ | with_reducible refine bdrew ?_ | with_reducible refine bset' ?_ (by omega) _ | with_reducible refine bthen ?_ (by assumption))); clear hbx; go_wp2_with fail; refine (from_any l _ _ false at' _ (hl.later HB)).mono ?_; rintro e wG ⟨rfl, hbx⟩; replace HB : Below w.heap.size w wG := (by repeat (first | with_reducible exact Below.refl _ _ | with_reducible refine balloc ?_ _ | with_reducible refine bdrew ?_ | with_reducible refine bset' ?_ (by omega) _ | with_reducible refine bthen ?_ (by assumption))); clear hbx; go_wp2_with fail; refine (rfrom_any l _ _ false at' _ (hl.later HB)).mono ?_; rintro e wH ⟨rfl, hbx⟩; replace HB : Below w.heap.size w wH := (by repeat (first | with_reducible exact Below.refl _ _ | with_reducible refine balloc ?_ _ | with_reducible refine bdrew ?_ | with_reducible refine bset' ?_ (by omega) _ | with_reducible refine bthen ?_ (by assumption))); clear hbx; go_wp2; go_ret; exact ⟨rfl, by repeat (first | with_reducible exact Below.refl _ _ | with_reducible refine balloc ?_ _ | with_reducible refine bdrew ?_ | with_reducible refine bset' ?_ (by omega) _ | with_reducible refine bthen ?_ (by assumption))⟩
    · have R2 : RowAt wK 6 (some ⟨b, o + (k + 1) * 6, none⟩) (l.length - (k + 1)) (c - (k + 1)) (rcells (l.drop (k + 1))) := by
        have := hlK.row (c := c - (k + 1)) (l.take k ++ [l[k]]) (l.drop (k + 1)) [] (by simp)
        rw [List.length_append, List.length_singleton, elt, eld] at this
        exact this
      have hsl2 := fun w => slice_from b o l.length c k w hk hce
      clear esp elt eld
      go_region_held3 (fun _ => True) (trivial) (first | (refine step_append (by rfl) (.const (.slice none 0 0)) (.tmp 75) 32 (by rfl) wK.heap.size 36 iR _ 6 80 Try.underlying32 hR1 hR2 hR3 hR4 rfl (by decide) (.slice none 0 0) 0 [] (by rfl) (World.ownsRow_nil _ _ _ _) (some ⟨b, o, none⟩) k c (rcells (l.take k)) (by simp [Act.eval, Act.put]) (R1.later (by repeat (first | with_reducible exact Below.refl _ _ | with_reducible refine balloc ?_ _ | with_reducible refine bdrew ?_ | with_reducible refine bset' ?_ (by omega) _ | with_reducible refine bthen ?_ (by assumption)))) (by unfold maxLen; omega) (by omega) (by simp) ?_; intro v1 wI hown1 hb1; rw [Nat.zero_add, List.nil_append] at hown1; have hB1 : Below wK.heap.size wK wI := Below.trans (by repeat (first | with_reducible exact Below.refl _ _ | with_reducible refine balloc ?_ _ | with_reducible refine bdrew ?_ | with_reducible refine bset' ?_ (by omega) _ | with_reducible refine bthen ?_ (by assumption))) hb1) | (refine step_append (by rfl) (.tmp 76) (.tmp 80) 32 (by rfl) wK.heap.size 36 iR _ 6 80 Try.underlying32 hR1 hR2 hR3 hR4 rfl (by decide) v1 k (rcells (l.take k)) (by simp [Act.eval, Act.put]) (by first | exact hown1 | exact ownsRow_drew hown1) (some ⟨b, o + (k + 1) * 6, none⟩) (l.length - (k + 1)) (c - (k + 1)) (rcells (l.drop (k + 1))) (by simp [Act.eval, Act.put]) (R2.later (by repeat (first | with_reducible exact Below.refl _ _ | with_reducible refine balloc ?_ _ | with_reducible refine bdrew ?_ | with_reducible refine bset' ?_ (by omega) _ | with_reducible refine bthen ?_ (by assumption)))) (by unfold maxLen; omega) (by omega) (by have := hB1.size; (try simp); omega) ?_; intro v2 wJ hown2 hb2; have hB2 : Below wK.heap.size wK wJ := (by first | exact hB1.trans hb2 | exact hB1.drew.trans hb2)))
      rw [← rcells_append, ← HM.out.1] at hown2
      obtain ⟨aJ, cJ, rfl, hRJ, -, -, -, -⟩ := reqs_of_owned hown2 (fun x hx => (hl.2.1 x (HM.out.2.2 x hx)).later (bthen HBK hB2)) (by rw [← HM.out.2.1]; omega) (by rw [← HM.out.2.1]; omega)
      have So' := So.later hB2
      have hR9' := hR9.later hB2
      have hlJ := hlK.later hB2
      have HBH := hid_of (bthen HBK hB2)
      have hAt : l[k].At wJ := Rq.At.of hl hk HBH.out
      obtain ⟨t0, t1, t2, t3, t4, t5⟩ := id So'
      have lt0 := lt_of_cell t0
      obtain ⟨c0, c1, c2, c3, c4, c5⟩ := hlJ.cells hk
      have lc := lt_of_cell c0
      have kk0 : (0 : Int) ≤ (k : Int) := by omega
      have kk1 : (k : Int) < (l.length : Int) := by omega
      have HRS := hid_of (⟨hR9', hRJ, hAt⟩ : _ ∧ _ ∧ _)
      clear hR9' hRJ hAt hlJ So' So hR9 hlK hB1 hB2 hb1 hb2 hown1 hown2 hR1 hR2 hR3 hR4 R1 R2 HBK
      go_wp2_with fail
      refine wp_region_later (by first | exact HB | exact bdrew HB | exact Below.refl _ _) (by kernel_rfl) (by kernel_rfl) ?_
      repeat (go_big_quiet_step (first | exact rfl | (go_at_call 21; exact calls_later (sames_yes M M _ _ _ _ _ (HRS.out.1.later (Later.below _)) (HRS.out.2.1.later (Later.below _)) (sames_refl M))) | (go_at_call 23; exact calls_later (sameReq_any l[k] l[k] _ (HRS.out.2.2.later (Later.below _)) (HRS.out.2.2.later (Later.below _)) true (sameB_refl _)))))
      refine wpQuiet_nil ?_; intro _ hw'; obtain ⟨p, hw''⟩ := hw'; subst hw''; (try clear hc hf hz); (try clear HB); have HB := p.below; obtain ⟨hc, hf, hz⟩ := bcell HB
      replace HB := bthen HBH.out HB
      clear hc hf hz
      go_wp2_with fail; refine (oldest_any l _ _ true _ (hl.later HB)).mono ?_; rintro e wA ⟨rfl, hbx⟩; replace HB : Below w.heap.size w wA := (by repeat (first | with_reducible exact Below.refl _ _ | with_reducible refine balloc ?_ _ | with_reducible refine bdrew ?_ | with_reducible refine bset' ?_ (by omega) _ | with_reducible refine bthen ?_ (by assumption))); clear hbx; go_wp2_with fail; refine (roldest_any l _ _ true _ (hl.later HB)).mono ?_; rintro e wB ⟨rfl, hbx⟩; replace HB : Below w.heap.size w wB := (by repeat (first | with_reducible exact Below.refl _ _ | with_reducible refine balloc ?_ _ | with_reducible refine bdrew ?_ | with_reducible refine bset' ?_ (by omega) _ | with_reducible refine bthen ?_ (by assumption))); clear hbx; go_wp2_with fail; refine (oldest_any l _ _ false _ (hl.later HB)).mono ?_; rintro e wC ⟨rfl, hbx⟩; replace HB : Below w.heap.size w wC := (by repeat (first | with_reducible exact Below.refl _ _ | with_reducible refine balloc ?_ _ | with_reducible refine bdrew ?_ | with_reducible refine bset' ?_ (by omega) _ | with_reducible refine bthen ?_ (by assumption))); clear hbx; go_wp2_with fail; refine (roldest_any l _ _ false _ (hl.later HB)).mono ?_; rintro e wD ⟨rfl, hbx⟩; replace HB : Below w.heap.size w wD := (by repeat (first | with_reducible exact Below.refl _ _ | with_reducible refine balloc ?_ _ | with_reducible refine bdrew ?_ | with_reducible refine bset' ?_ (by omega) _ | with_reducible refine bthen ?_ (by assumption))); clear hbx; go_wp2_with fail; refine (from_any l _ _ true at' _ (hl.later HB)).mono ?_; rintro e wE ⟨rfl, hbx⟩; replace HB : Below w.heap.size w wE := (by repeat (first | with_reducible exact Below.refl _ _ | with_reducible refine balloc ?_ _ | with_reducible refine bdrew ?_ | with_reducible refine bset' ?_ (by omega) _ | with_reducible refine bthen ?_ (by assumption))); clear hbx; go_wp2_with fail; refine (rfrom_any l _ _ true at' _ (hl.later HB)).mono ?_; rintro e wF ⟨rfl, hbx⟩; replace HB : Below w.heap.size w wF := (by repeat (first | with_reducible exact Below.refl _ _ | with_reducible refine balloc ?_ _ | with_reducible refine bdrew ?_ | with_reducible refine bset' ?_ (by omega) _ | with_reducible refine bthen ?_ (by assumption))); clear hbx; go_wp2_with fail; refine (from_any l _ _ false at' _ (hl.later HB)).mono ?_; rintro e wG ⟨rfl, hbx⟩; replace HB : Below w.heap.size w wG := (by repeat (first | with_reducible exact Below.refl _ _ | with_reducible refine balloc ?_ _ | with_reducible refine bdrew ?_ | with_reducible refine bset' ?_ (by omega) _ | with_reducible refine bthen ?_ (by assumption))); clear hbx; go_wp2_with fail; refine (rfrom_any l _ _ false at' _ (hl.later HB)).mono ?_; rintro e wH ⟨rfl, hbx⟩; replace HB : Below w.heap.size w wH := (by repeat (first | with_reducible exact Below.refl _ _ | with_reducible refine balloc ?_ _ | with_reducible refine bdrew ?_ | with_reducible refine bset' ?_ (by omega) _ | with_reducible refine bthen ?_ (by assumption))); clear hbx; go_wp2; go_ret; exact ⟨rfl, by repeat (first | with_reducible exact Below.refl _ _ | with_reducible refine balloc ?_ _ | with_reducible refine bdrew ?_ | with_reducible refine bset' ?_ (by omega) _ | with_reducible refine bthen ?_ (by assumption))⟩
  refine (add_core l a c r _ (hl.later HB) hn (hr.later HB) (by omega) gr HG.out.good hm).mono ?_
  rintro e w5 ⟨ho, hbx⟩
  rcases ho with ⟨L, a5, c5, hA, rfl, hL, -, -⟩ | ⟨hno, h6, rfl⟩
  case inr =>
    have T1 : Six w5 w.heap.size r := (by repeat (first | with_reducible exact S | with_reducible refine Six.drew ?_ | with_reducible refine Six.alloc ?_ _ | with_reducible refine Six.later ?_ (by assumption) | with_reducible refine Six.set ?_ (by omega) _)); have HC : Below w.heap.size w w5 := (by repeat (first | with_reducible exact Below.refl _ _ | with_reducible refine balloc ?_ _ | with_reducible refine bdrew ?_ | with_reducible refine bset' ?_ (by omega) _ | with_reducible refine bthen ?_ (by assumption))); clear S HB s0 s1 s2 s3 s4 s5; (try clear hbx); have S := T1; have HB := HC; clear T1 HC; obtain ⟨s0, s1, s2, s3, s4, s5⟩ := id S
    go_wp2_with fail
    refine (radd_core l a c r _ (hl.later HB) hn (hr.later HB) (by omega) gr HG.out.good).mono ?_
    rintro e w6 ⟨ho, hbx⟩
    rcases ho with ⟨hm', -⟩ | ⟨-, ho⟩
    case inl => rw [hm] at hm'; cases hm'
    rcases ho with ⟨L, a6, c6, hA, -, -⟩ | ⟨-, -, rfl⟩
    case inl => exact (added_full hA hno h6).elim
    have T1 : Six w6 w.heap.size r := (by repeat (first | with_reducible exact S | with_reducible refine Six.drew ?_ | with_reducible refine Six.alloc ?_ _ | with_reducible refine Six.later ?_ (by assumption) | with_reducible refine Six.set ?_ (by omega) _)); have HC : Below w.heap.size w w6 := (by repeat (first | with_reducible exact Below.refl _ _ | with_reducible refine balloc ?_ _ | with_reducible refine bdrew ?_ | with_reducible refine bset' ?_ (by omega) _ | with_reducible refine bthen ?_ (by assumption))); clear S HB s0 s1 s2 s3 s4 s5; (try clear hbx); have S := T1; have HB := HC; clear T1 HC; obtain ⟨s0, s1, s2, s3, s4, s5⟩ := id S
    clear hm hf hno h6
    go_wp2_with fail
    refine (same_err 7 7 _).mono ?_
    rintro e w7 ⟨rfl, hbx⟩
    have T1 : Six w7 w.heap.size r := (by repeat (first | with_reducible exact S | with_reducible refine Six.drew ?_ | with_reducible refine Six.alloc ?_ _ | with_reducible refine Six.later ?_ (by assumption) | with_reducible refine Six.set ?_ (by omega) _)); have HC : Below w.heap.size w w7 := (by repeat (first | with_reducible exact Below.refl _ _ | with_reducible refine balloc ?_ _ | with_reducible refine bdrew ?_ | with_reducible refine bset' ?_ (by omega) _ | with_reducible refine bthen ?_ (by assumption))); clear S HB s0 s1 s2 s3 s4 s5; (try clear hbx); have S := T1; have HB := HC; clear T1 HC; obtain ⟨s0, s1, s2, s3, s4, s5⟩ := id S
    go_wp2_with fail
    refine (sames_yes [] [] none none 0 0 _ ⟨Or.inl rfl, by simp, by simp⟩ ⟨Or.inl rfl, by simp, by simp⟩ ⟨rfl, fun i h => absurd h (Nat.not_lt_zero _)⟩).mono ?_
    rintro e w8 ⟨rfl, hbx⟩
    have T1 : Six w8 w.heap.size r := (by repeat (first | with_reducible exact S | with_reducible refine Six.drew ?_ | with_reducible refine Six.alloc ?_ _ | with_reducible refine Six.later ?_ (by assumption) | with_reducible refine Six.set ?_ (by omega) _)); have HC : Below w.heap.size w w8 := (by repeat (first | with_reducible exact Below.refl _ _ | with_reducible refine balloc ?_ _ | with_reducible refine bdrew ?_ | with_reducible refine bset' ?_ (by omega) _ | with_reducible refine bthen ?_ (by assumption))); clear S HB s0 s1 s2 s3 s4 s5; (try clear hbx); have S := T1; have HB := HC; clear T1 HC; obtain ⟨s0, s1, s2, s3, s4, s5⟩ := id S
    by_cases h0 : 0 < l.length
    case neg =>
      have g0 : decide ((0 : Int) < (l.length : Int)) = false := decide_eq_false (by omega)
      go_wp2_with fail; refine (oldest_any l _ _ true _ (hl.later HB)).mono ?_; rintro e wA ⟨rfl, hbx⟩; replace HB : Below w.heap.size w wA := (by repeat (first | with_reducible exact Below.refl _ _ | with_reducible refine balloc ?_ _ | with_reducible refine bdrew ?_ | with_reducible refine bset' ?_ (by omega) _ | with_reducible refine bthen ?_ (by assumption))); clear hbx; go_wp2_with fail; refine (roldest_any l _ _ true _ (hl.later HB)).mono ?_; rintro e wB ⟨rfl, hbx⟩; replace HB : Below w.heap.size w wB := (by repeat (first | with_reducible exact Below.refl _ _ | with_reducible refine balloc ?_ _ | with_reducible refine bdrew ?_ | with_reducible refine bset' ?_ (by omega) _ | with_reducible refine bthen ?_ (by assumption))); clear hbx; go_wp2_with fail; refine (oldest_any l _ _ false _ (hl.later HB)).mono ?_; rintro e wC ⟨rfl, hbx⟩; replace HB : Below w.heap.size w wC := (by repeat (first | with_reducible exact Below.refl _ _ | with_reducible refine balloc ?_ _ | with_reducible refine bdrew ?_ | with_reducible refine bset' ?_ (by omega) _ | with_reducible refine bthen ?_ (by assumption))); clear hbx; go_wp2_with fail; refine (roldest_any l _ _ false _ (hl.later HB)).mono ?_; rintro e wD ⟨rfl, hbx⟩; replace HB : Below w.heap.size w wD := (by repeat (first | with_reducible exact Below.refl _ _ | with_reducible refine balloc ?_ _ | with_reducible refine bdrew ?_ | with_reducible refine bset' ?_ (by omega) _ | with_reducible refine bthen ?_ (by assumption))); clear hbx; go_wp2_with fail; refine (from_any l _ _ true at' _ (hl.later HB)).mono ?_; rintro e wE ⟨rfl, hbx⟩; replace HB : Below w.heap.size w wE := (by repeat (first | with_reducible exact Below.refl _ _ | with_reducible refine balloc ?_ _ | with_reducible refine bdrew ?_ | with_reducible refine bset' ?_ (by omega) _ | with_reducible refine bthen ?_ (by assumption))); clear hbx; go_wp2_with fail; refine (rfrom_any l _ _ true at' _ (hl.later HB)).mono ?_; rintro e wF ⟨rfl, hbx⟩; replace HB : Below w.heap.size w wF := (by repeat (first | with_reducible exact Below.refl _ _ | with_reducible refine balloc ?_ _ | with_reducible refine bdrew ?_ | with_reducible refine bset' ?_ (by omega) _ | with_reducible refine bthen ?_ (by assumption))); clear hbx; go_wp2_with fail; refine (from_any l _ _ false at' _ (hl.later HB)).mono ?_; rintro e wG ⟨rfl, hbx⟩; replace HB : Below w.heap.size w wG := (by repeat (first | with_reducible exact Below.refl _ _ | with_reducible refine balloc ?_ _ | with_reducible refine bdrew ?_ | with_reducible refine bset' ?_ (by omega) _ | with_reducible refine bthen ?_ (by assumption))); clear hbx; go_wp2_with fail; refine (rfrom_any l _ _ false at' _ (hl.later HB)).mono ?_; rintro e wH ⟨rfl, hbx⟩; replace HB : Below w.heap.size w wH := (by repeat (first | with_reducible exact Below.refl _ _ | with_reducible refine balloc ?_ _ | with_reducible refine bdrew ?_ | with_reducible refine bset' ?_ (by omega) _ | with_reducible refine bthen ?_ (by assumption))); clear hbx; go_wp2; go_ret; exact ⟨rfl, by repeat (first | with_reducible exact Below.refl _ _ | with_reducible refine balloc ?_ _ | with_reducible refine bdrew ?_ | with_reducible refine bset' ?_ (by omega) _ | with_reducible refine bthen ?_ (by assumption))⟩
    obtain ⟨k, hk, hke⟩ := idx1023 nn l.length h0
    have hlne : l ≠ [] := by rintro rfl; exact absurd h0 (Nat.not_lt_zero _)
    obtain ⟨b, o, rfl⟩ := hl.form.resolve_left hlne
    have HE := hid_of hke
    clear hke hlne
    go_wp2_with fail
    rw [HE.out]
    refine (take_any l b o c _ (hl.later HB) (by omega) hcap k hk).mono ?_
    rintro e w9 ⟨v9, rfl, hown9, hbx⟩
    have HB9 : Below w.heap.size w w9 := by repeat (first | with_reducible exact Below.refl _ _ | with_reducible refine balloc ?_ _ | with_reducible refine bdrew ?_ | with_reducible refine bset' ?_ (by omega) _ | with_reducible refine bthen ?_ (by assumption))
    obtain ⟨M, hM⟩ : ∃ M, M = l.take k ++ l.drop (k + 1) := ⟨_, rfl⟩
    have hMl : l.length - 1 = M.length := by rw [hM, List.length_append, List.length_take, List.length_drop]; omega
    have hMa : ∀ x ∈ M, x ∈ l := fun x hx => by rw [hM] at hx; rcases List.mem_append.1 hx with h | h; exact List.mem_of_mem_take h; exact List.mem_of_mem_drop h
    rw [← hM] at hown9
    obtain ⟨a9, c9, rfl, hR9, hcap9, -, -, -⟩ := reqs_of_owned hown9 (fun x hx => (hl.2.1 x (hMa x hx)).later HB9) hMl (by omega)
    have HM := hid_of (⟨hM, hMl, hMa⟩ : _ ∧ _ ∧ _)
    obtain ⟨c0, c1, c2, c3, c4, c5⟩ := (hl.later HB9).cells hk
    have lc := lt_of_cell c0
    have S9 : Six w9 w.heap.size r := S.later hbx
    clear hM hMl hMa hown9 hbx S HB s0 s1 s2 s3 s4 s5
    go_wp2_with fail
    refine wp_world (fun wK => Six wK w9.heap.size l[k] ∧ ReqsAt wK a9 M ∧ ReqsAt wK (some ⟨b, o, none⟩) l ∧ Below w.heap.size w wK) ⟨six_newA w9 _ l[k], hR9.later (by repeat (first | with_reducible exact Below.refl _ _ | with_reducible refine balloc ?_ _ | with_reducible refine bdrew ?_ | with_reducible refine bset' ?_ (by omega) _ | with_reducible refine bthen ?_ (by assumption))), hl.later (by repeat (first | with_reducible exact Below.refl _ _ | with_reducible refine balloc ?_ _ | with_reducible refine bdrew ?_ | with_reducible refine bset' ?_ (by omega) _ | with_reducible refine bthen ?_ (by assumption))), by repeat (first | with_reducible exact Below.refl _ _ | with_reducible refine balloc ?_ _ | with_reducible refine bdrew ?_ | with_reducible refine bset' ?_ (by omega) _ | with_reducible refine bthen ?_ (by assumption))⟩ ?_
    clear hR9 c0 c1 c2 c3 c4 c5 lc S9 HB9
    rintro wK ⟨So, hR9, hlK, HBK⟩
    have esp : l = l.take k ++ [l[k]] ++ l.drop (k + 1) := by rw [List.append_assoc, List.singleton_append, List.getElem_cons_drop, List.take_append_drop]
    have elt : (l.take k).length = k := by rw [List.length_take]; omega
    have eld : (l.drop (k + 1)).length = l.length - (k + 1) := by rw [List.length_drop]
    have R1 : RowAt wK 6 (some ⟨b, o, none⟩) k c (rcells (l.take k)) := by
      have := hlK.row (c := c) [] (l.take k) ([l[k]] ++ l.drop (k + 1)) (by simp)
      rw [elt] at this
      simpa using this
    have hwr : IntKind.i64.wrap ((k : Int) + 1) = (k : Int) + 1 := by rw [IntKind.wrap_i64]; omega
    have hsl1 := fun w => slice_to b o l.length c k w hk hcap
    obtain ⟨iR, hR1, hR2, hR3, hR4⟩ := pluck infoR
    have HL := hid_of (⟨esp, elt, eld⟩ : _ ∧ _ ∧ _)
    by_cases hce : c = k + 1
    · subst hce
      have hni : l.length = k + 1 := by omega
      have e3 : l.drop (k + 1) = [] := List.eq_nil_of_length_eq_zero (by omega)
      have R2 : RowAt wK 6 (some ⟨b, o, none⟩) 0 0 (rcells (l.drop (k + 1))) := by
        rw [e3]; exact ⟨rfl, by simp [rcells], Or.inr ⟨_, rfl, fun j u h => by simp [rcells] at h⟩⟩
      have hsl2 := fun w => slice_end b o l.length k w hni
      clear esp elt eld e3 hni
      go_region_held3 (fun _ => True) (trivial) (first | (refine step_append (by rfl) (.const (.slice none 0 0)) (.tmp 75) 32 (by rfl) wK.heap.size 36 iR _ 6 80 Try.underlying32 hR1 hR2 hR3 hR4 rfl (by decide) (.slice none 0 0) 0 [] (by rfl) (World.ownsRow_nil _ _ _ _) (some ⟨b, o, none⟩) k (k + 1) (rcells (l.take k)) (by simp [Act.eval, Act.put]) (R1.later (by repeat (first | with_reducible exact Below.refl _ _ | with_reducible refine balloc ?_ _ | with_reducible refine bdrew ?_ | with_reducible refine bset' ?_ (by omega) _ | with_reducible refine bthen ?_ (by assumption)))) (by unfold maxLen; omega) (by omega) (by simp) ?_; intro v1 wI hown1 hb1; rw [Nat.zero_add, List.nil_append] at hown1; have hB1 : Below wK.heap.size wK wI := Below.trans (by repeat (first | with_reducible exact Below.refl _ _ | with_reducible refine balloc ?_ _ | with_reducible refine bdrew ?_ | with_reducible refine bset' ?_ (by omega) _ | with_reducible refine bthen ?_ (by assumption))) hb1) | (refine step_append (by rfl) (.tmp 76) (.tmp 80) 32 (by rfl) wK.heap.size 36 iR _ 6 80 Try.underlying32 hR1 hR2 hR3 hR4 rfl (by decide) v1 k (rcells (l.take k)) (by simp [Act.eval, Act.put]) (by first | exact hown1 | exact ownsRow_drew hown1) (some ⟨b, o, none⟩) 0 0 (rcells (l.drop (k + 1))) (by simp [Act.eval, Act.put]) (R2.later (by repeat (first | with_reducible exact Below.refl _ _ | with_reducible refine balloc ?_ _ | with_reducible refine bdrew ?_ | with_reducible refine bset' ?_ (by omega) _ | with_reducible refine bthen ?_ (by assumption)))) (by unfold maxLen; omega) (by omega) (by have := hB1.size; (try simp); omega) ?_; intro v2 wJ hown2 hb2; have hB2 : Below wK.heap.size wK wJ := (by first | exact hB1.trans hb2 | exact hB1.drew.trans hb2)))
      rw [← rcells_append, ← HM.out.1] at hown2
      obtain ⟨aJ, cJ, rfl, hRJ, -, -, -, -⟩ := reqs_of_owned hown2 (fun x hx => (hl.2.1 x (HM.out.2.2 x hx)).later (bthen HBK hB2)) (by rw [← HM.out.2.1]; omega) (by rw [← HM.out.2.1]; omega)
      have So' := So.later hB2
      have hR9' := hR9.later hB2
      have hlJ := hlK.later hB2
      have HBH := hid_of (bthen HBK hB2)
      have hAt : l[k].At wJ := Rq.At.of hl hk HBH.out
      obtain ⟨t0, t1, t2, t3, t4, t5⟩ := id So'
      have lt0 := lt_of_cell t0
      obtain ⟨c0, c1, c2, c3, c4, c5⟩ := hlJ.cells hk
      have lc := lt_of_cell c0
      have kk0 : (0 : Int) ≤ (k : Int) := by omega
      have kk1 : (k : Int) < (l.length : Int) := by omega
      have HRS := hid_of (⟨hR9', hRJ, hAt⟩ : _ ∧ _ ∧ _)
      clear hR9' hRJ hAt hlJ So' So hR9 hlK hB1 hB2 hb1 hb2 hown1 hown2 hR1 hR2 hR3 hR4 R1 R2 HBK
      go_wp2_with fail
      refine wp_region_later (by first | exact HB | exact bdrew HB | exact Below.refl _ _) (by kernel_rfl) (by kernel_rfl) ?_
      repeat (go_big_quiet_step (first | exact rfl | (go_at_call 21; exact calls_later (sames_yes M M _ _ _ _ _ (HRS.out.1.later (Later.below _)) (HRS.out.2.1.later (Later.below _)) (sames_refl M))) | (go_at_call 23; exact calls_later (sameReq_any l[k] l[k] _ (HRS.out.2.2.later (Later.below _)) (HRS.out.2.2.later (Later.below _)) true (sameB_refl _)))))
      refine wpQuiet_nil ?_; intro _ hw'; obtain ⟨p, hw''⟩ := hw'; subst hw''; (try clear hc hf hz); (try clear HB); have HB := p.below; obtain ⟨hc, hf, hz⟩ := bcell HB
      replace HB := bthen HBH.out HB
      clear hc hf hz
      go_wp2_with fail; refine (oldest_any l _ _ true _ (hl.later HB)).mono ?_; rintro e wA ⟨rfl, hbx⟩; replace HB : Below w.heap.size w wA := (by repeat (first | with_reducible exact Below.refl _ _ | with_reducible refine balloc ?_ _ | with_reducible refine bdrew ?_ | with_reducible refine bset' ?_ (by omega) _ | with_reducible refine bthen ?_ (by assumption))); clear hbx; go_wp2_with fail; refine (roldest_any l _ _ true _ (hl.later HB)).mono ?_; rintro e wB ⟨rfl, hbx⟩; replace HB : Below w.heap.size w wB := (by repeat (first | with_reducible exact Below.refl _ _ | with_reducible refine balloc ?_ _ | with_reducible refine bdrew ?_ | with_reducible refine bset' ?_ (by omega) _ | with_reducible refine bthen ?_ (by assumption))); clear hbx; go_wp2_with fail; refine (oldest_any l _ _ false _ (hl.later HB)).mono ?_; rintro e wC ⟨rfl, hbx⟩; replace HB : Below w.heap.size w wC := (by repeat (first | with_reducible exact Below.refl _ _ | with_reducible refine balloc ?_ _ | with_reducible refine bdrew ?_ | with_reducible refine bset' ?_ (by omega) _ | with_reducible refine bthen ?_ (by assumption))); clear hbx; go_wp2_with fail; refine (roldest_any l _ _ false _ (hl.later HB)).mono ?_; rintro e wD ⟨rfl, hbx⟩; replace HB : Below w.heap.size w wD := (by repeat (first | with_reducible exact Below.refl _ _ | with_reducible refine balloc ?_ _ | with_reducible refine bdrew ?_ | with_reducible refine bset' ?_ (by omega) _ | with_reducible refine bthen ?_ (by assumption))); clear hbx; go_wp2_with fail; refine (from_any l _ _ true at' _ (hl.later HB)).mono ?_; rintro e wE ⟨rfl, hbx⟩; replace HB : Below w.heap.size w wE := (by repeat (first | with_reducible exact Below.refl _ _ | with_reducible refine balloc ?_ _ | with_reducible refine bdrew ?_ | with_reducible refine bset' ?_ (by omega) _ | with_reducible refine bthen ?_ (by assumption))); clear hbx; go_wp2_with fail; refine (rfrom_any l _ _ true at' _ (hl.later HB)).mono ?_; rintro e wF ⟨rfl, hbx⟩; replace HB : Below w.heap.size w wF := (by repeat (first | with_reducible exact Below.refl _ _ | with_reducible refine balloc ?_ _ | with_reducible refine bdrew ?_ | with_reducible refine bset' ?_ (by omega) _ | with_reducible refine bthen ?_ (by assumption))); clear hbx; go_wp2_with fail; refine (from_any l _ _ false at' _ (hl.later HB)).mono ?_; rintro e wG ⟨rfl, hbx⟩; replace HB : Below w.heap.size w wG := (by repeat (first | with_reducible exact Below.refl _ _ | with_reducible refine balloc ?_ _ | with_reducible refine bdrew ?_ | with_reducible refine bset' ?_ (by omega) _ | with_reducible refine bthen ?_ (by assumption))); clear hbx; go_wp2_with fail; refine (rfrom_any l _ _ false at' _ (hl.later HB)).mono ?_; rintro e wH ⟨rfl, hbx⟩; replace HB : Below w.heap.size w wH := (by repeat (first | with_reducible exact Below.refl _ _ | with_reducible refine balloc ?_ _ | with_reducible refine bdrew ?_ | with_reducible refine bset' ?_ (by omega) _ | with_reducible refine bthen ?_ (by assumption))); clear hbx; go_wp2; go_ret; exact ⟨rfl, by repeat (first | with_reducible exact Below.refl _ _ | with_reducible refine balloc ?_ _ | with_reducible refine bdrew ?_ | with_reducible refine bset' ?_ (by omega) _ | with_reducible refine bthen ?_ (by assumption))⟩
    · have R2 : RowAt wK 6 (some ⟨b, o + (k + 1) * 6, none⟩) (l.length - (k + 1)) (c - (k + 1)) (rcells (l.drop (k + 1))) := by
        have := hlK.row (c := c - (k + 1)) (l.take k ++ [l[k]]) (l.drop (k + 1)) [] (by simp)
        rw [List.length_append, List.length_singleton, elt, eld] at this
        exact this
      have hsl2 := fun w => slice_from b o l.length c k w hk hce
      clear esp elt eld
      go_region_held3 (fun _ => True) (trivial) (first | (refine step_append (by rfl) (.const (.slice none 0 0)) (.tmp 75) 32 (by rfl) wK.heap.size 36 iR _ 6 80 Try.underlying32 hR1 hR2 hR3 hR4 rfl (by decide) (.slice none 0 0) 0 [] (by rfl) (World.ownsRow_nil _ _ _ _) (some ⟨b, o, none⟩) k c (rcells (l.take k)) (by simp [Act.eval, Act.put]) (R1.later (by repeat (first | with_reducible exact Below.refl _ _ | with_reducible refine balloc ?_ _ | with_reducible refine bdrew ?_ | with_reducible refine bset' ?_ (by omega) _ | with_reducible refine bthen ?_ (by assumption)))) (by unfold maxLen; omega) (by omega) (by simp) ?_; intro v1 wI hown1 hb1; rw [Nat.zero_add, List.nil_append] at hown1; have hB1 : Below wK.heap.size wK wI := Below.trans (by repeat (first | with_reducible exact Below.refl _ _ | with_reducible refine balloc ?_ _ | with_reducible refine bdrew ?_ | with_reducible refine bset' ?_ (by omega) _ | with_reducible refine bthen ?_ (by assumption))) hb1) | (refine step_append (by rfl) (.tmp 76) (.tmp 80) 32 (by rfl) wK.heap.size 36 iR _ 6 80 Try.underlying32 hR1 hR2 hR3 hR4 rfl (by decide) v1 k (rcells (l.take k)) (by simp [Act.eval, Act.put]) (by first | exact hown1 | exact ownsRow_drew hown1) (some ⟨b, o + (k + 1) * 6, none⟩) (l.length - (k + 1)) (c - (k + 1)) (rcells (l.drop (k + 1))) (by simp [Act.eval, Act.put]) (R2.later (by repeat (first | with_reducible exact Below.refl _ _ | with_reducible refine balloc ?_ _ | with_reducible refine bdrew ?_ | with_reducible refine bset' ?_ (by omega) _ | with_reducible refine bthen ?_ (by assumption)))) (by unfold maxLen; omega) (by omega) (by have := hB1.size; (try simp); omega) ?_; intro v2 wJ hown2 hb2; have hB2 : Below wK.heap.size wK wJ := (by first | exact hB1.trans hb2 | exact hB1.drew.trans hb2)))
      rw [← rcells_append, ← HM.out.1] at hown2
      obtain ⟨aJ, cJ, rfl, hRJ, -, -, -, -⟩ := reqs_of_owned hown2 (fun x hx => (hl.2.1 x (HM.out.2.2 x hx)).later (bthen HBK hB2)) (by rw [← HM.out.2.1]; omega) (by rw [← HM.out.2.1]; omega)
      have So' := So.later hB2
      have hR9' := hR9.later hB2
      have hlJ := hlK.later hB2
      have HBH := hid_of (bthen HBK hB2)
      have hAt : l[k].At wJ := Rq.At.of hl hk HBH.out
      obtain ⟨t0, t1, t2, t3, t4, t5⟩ := id So'
      have lt0 := lt_of_cell t0
      obtain ⟨c0, c1, c2, c3, c4, c5⟩ := hlJ.cells hk
      have lc := lt_of_cell c0
      have kk0 : (0 : Int) ≤ (k : Int) := by omega
      have kk1 : (k : Int) < (l.length : Int) := by omega
      have HRS := hid_of (⟨hR9', hRJ, hAt⟩ : _ ∧ _ ∧ _)
      clear hR9' hRJ hAt hlJ So' So hR9 hlK hB1 hB2 hb1 hb2 hown1 hown2 hR1 hR2 hR3 hR4 R1 R2 HBK
      go_wp2_with fail
      refine wp_region_later (by first | exact HB | exact bdrew HB | exact Below.refl _ _) (by kernel_rfl) (by kernel_rfl) ?_
      repeat (go_big_quiet_step (first | exact rfl | (go_at_call 21; exact calls_later (sames_yes M M _ _ _ _ _ (HRS.out.1.later (Later.below _)) (HRS.out.2.1.later (Later.below _)) (sames_refl M))) | (go_at_call 23; exact calls_later (sameReq_any l[k] l[k] _ (HRS.out.2.2.later (Later.below _)) (HRS.out.2.2.later (Later.below _)) true (sameB_refl _)))))
      refine wpQuiet_nil ?_; intro _ hw'; obtain ⟨p, hw''⟩ := hw'; subst hw''; (try clear hc hf hz); (try clear HB); have HB := p.below; obtain ⟨hc, hf, hz⟩ := bcell HB
      replace HB := bthen HBH.out HB
      clear hc hf hz
      go_wp2_with fail; refine (oldest_any l _ _ true _ (hl.later HB)).mono ?_; rintro e wA ⟨rfl, hbx⟩; replace HB : Below w.heap.size w wA := (by repeat (first | with_reducible exact Below.refl _ _ | with_reducible refine balloc ?_ _ | with_reducible refine bdrew ?_ | with_reducible refine bset' ?_ (by omega) _ | with_reducible refine bthen ?_ (by assumption))); clear hbx; go_wp2_with fail; refine (roldest_any l _ _ true _ (hl.later HB)).mono ?_; rintro e wB ⟨rfl, hbx⟩; replace HB : Below w.heap.size w wB := (by repeat (first | with_reducible exact Below.refl _ _ | with_reducible refine balloc ?_ _ | with_reducible refine bdrew ?_ | with_reducible refine bset' ?_ (by omega) _ | with_reducible refine bthen ?_ (by assumption))); clear hbx; go_wp2_with fail; refine (oldest_any l _ _ false _ (hl.later HB)).mono ?_; rintro e wC ⟨rfl, hbx⟩; replace HB : Below w.heap.size w wC := (by repeat (first | with_reducible exact Below.refl _ _ | with_reducible refine balloc ?_ _ | with_reducible refine bdrew ?_ | with_reducible refine bset' ?_ (by omega) _ | with_reducible refine bthen ?_ (by assumption))); clear hbx; go_wp2_with fail; refine (roldest_any l _ _ false _ (hl.later HB)).mono ?_; rintro e wD ⟨rfl, hbx⟩; replace HB : Below w.heap.size w wD := (by repeat (first | with_reducible exact Below.refl _ _ | with_reducible refine balloc ?_ _ | with_reducible refine bdrew ?_ | with_reducible refine bset' ?_ (by omega) _ | with_reducible refine bthen ?_ (by assumption))); clear hbx; go_wp2_with fail; refine (from_any l _ _ true at' _ (hl.later HB)).mono ?_; rintro e wE ⟨rfl, hbx⟩; replace HB : Below w.heap.size w wE := (by repeat (first | with_reducible exact Below.refl _ _ | with_reducible refine balloc ?_ _ | with_reducible refine bdrew ?_ | with_reducible refine bset' ?_ (by omega) _ | with_reducible refine bthen ?_ (by assumption))); clear hbx; go_wp2_with fail; refine (rfrom_any l _ _ true at' _ (hl.later HB)).mono ?_; rintro e wF ⟨rfl, hbx⟩; replace HB : Below w.heap.size w wF := (by repeat (first | with_reducible exact Below.refl _ _ | with_reducible refine balloc ?_ _ | with_reducible refine bdrew ?_ | with_reducible refine bset' ?_ (by omega) _ | with_reducible refine bthen ?_ (by assumption))); clear hbx; go_wp2_with fail; refine (from_any l _ _ false at' _ (hl.later HB)).mono ?_; rintro e wG ⟨rfl, hbx⟩; replace HB : Below w.heap.size w wG := (by repeat (first | with_reducible exact Below.refl _ _ | with_reducible refine balloc ?_ _ | with_reducible refine bdrew ?_ | with_reducible refine bset' ?_ (by omega) _ | with_reducible refine bthen ?_ (by assumption))); clear hbx; go_wp2_with fail; refine (rfrom_any l _ _ false at' _ (hl.later HB)).mono ?_; rintro e wH ⟨rfl, hbx⟩; replace HB : Below w.heap.size w wH := (by repeat (first | with_reducible exact Below.refl _ _ | with_reducible refine balloc ?_ _ | with_reducible refine bdrew ?_ | with_reducible refine bset' ?_ (by omega) _ | with_reducible refine bthen ?_ (by assumption))); clear hbx; go_wp2; go_ret; exact ⟨rfl, by repeat (first | with_reducible exact Below.refl _ _ | with_reducible refine balloc ?_ _ | with_reducible refine bdrew ?_ | with_reducible refine bset' ?_ (by omega) _ | with_reducible refine bthen ?_ (by assumption))⟩
  have T1 : Six w5 w.heap.size r := (by repeat (first | with_reducible exact S | with_reducible refine Six.drew ?_ | with_reducible refine Six.alloc ?_ _ | with_reducible refine Six.later ?_ (by assumption) | with_reducible refine Six.set ?_ (by omega) _)); have HC : Below w.heap.size w w5 := (by repeat (first | with_reducible exact Below.refl _ _ | with_reducible refine balloc ?_ _ | with_reducible refine bdrew ?_ | with_reducible refine bset' ?_ (by omega) _ | with_reducible refine bthen ?_ (by assumption))); clear S HB s0 s1 s2 s3 s4 s5; (try clear hbx); have S := T1; have HB := HC; clear T1 HC; obtain ⟨s0, s1, s2, s3, s4, s5⟩ := id S
  go_wp2_with fail
  refine (radd_core l a c r _ (hl.later HB) hn (hr.later HB) (by omega) gr HG.out.good).mono ?_
  rintro e w6 ⟨ho, hbx⟩
  rcases ho with ⟨hm', -⟩ | ⟨-, ho⟩
  case inl => rw [hm] at hm'; cases hm'
  rcases ho with ⟨L', a6, c6, hA', rfl, hL'⟩ | ⟨hno, h6, -⟩
  case inr => exact (added_full hA hno h6).elim
  replace hL := hL.later hbx
  have T1 : Six w6 w.heap.size r := (by repeat (first | with_reducible exact S | with_reducible refine Six.drew ?_ | with_reducible refine Six.alloc ?_ _ | with_reducible refine Six.later ?_ (by assumption) | with_reducible refine Six.set ?_ (by omega) _)); have HC : Below w.heap.size w w6 := (by repeat (first | with_reducible exact Below.refl _ _ | with_reducible refine balloc ?_ _ | with_reducible refine bdrew ?_ | with_reducible refine bset' ?_ (by omega) _ | with_reducible refine bthen ?_ (by assumption))); clear S HB s0 s1 s2 s3 s4 s5; (try clear hbx); have S := T1; have HB := HC; clear T1 HC; obtain ⟨s0, s1, s2, s3, s4, s5⟩ := id S
  have HSS := hid_of (added_same hA hA')
  clear hm hf hA hA'
  go_wp2_with fail
  refine (same_nil 0 _).mono ?_
  rintro e w7 ⟨rfl, hbx⟩
  replace hL := hL.later hbx
  replace hL' := hL'.later hbx
  have T1 : Six w7 w.heap.size r := (by repeat (first | with_reducible exact S | with_reducible refine Six.drew ?_ | with_reducible refine Six.alloc ?_ _ | with_reducible refine Six.later ?_ (by assumption) | with_reducible refine Six.set ?_ (by omega) _)); have HC : Below w.heap.size w w7 := (by repeat (first | with_reducible exact Below.refl _ _ | with_reducible refine balloc ?_ _ | with_reducible refine bdrew ?_ | with_reducible refine bset' ?_ (by omega) _ | with_reducible refine bthen ?_ (by assumption))); clear S HB s0 s1 s2 s3 s4 s5; (try clear hbx); have S := T1; have HB := HC; clear T1 HC; obtain ⟨s0, s1, s2, s3, s4, s5⟩ := id S
  go_wp2_with fail
  refine (sames_yes L L' _ _ _ _ _ hL hL' HSS.out).mono ?_
  rintro e w8 ⟨rfl, hbx⟩
  have T1 : Six w8 w.heap.size r := (by repeat (first | with_reducible exact S | with_reducible refine Six.drew ?_ | with_reducible refine Six.alloc ?_ _ | with_reducible refine Six.later ?_ (by assumption) | with_reducible refine Six.set ?_ (by omega) _)); have HC : Below w.heap.size w w8 := (by repeat (first | with_reducible exact Below.refl _ _ | with_reducible refine balloc ?_ _ | with_reducible refine bdrew ?_ | with_reducible refine bset' ?_ (by omega) _ | with_reducible refine bthen ?_ (by assumption))); clear S HB s0 s1 s2 s3 s4 s5; (try clear hbx); have S := T1; have HB := HC; clear T1 HC; obtain ⟨s0, s1, s2, s3, s4, s5⟩ := id S
  clear hL hL' HSS
  by_cases h0 : 0 < l.length
  case neg =>
    have g0 : decide ((0 : Int) < (l.length : Int)) = false := decide_eq_false (by omega)
    go_wp2_with fail; refine (oldest_any l _ _ true _ (hl.later HB)).mono ?_; rintro e wA ⟨rfl, hbx⟩; replace HB : Below w.heap.size w wA := (by repeat (first | with_reducible exact Below.refl _ _ | with_reducible refine balloc ?_ _ | with_reducible refine bdrew ?_ | with_reducible refine bset' ?_ (by omega) _ | with_reducible refine bthen ?_ (by assumption))); clear hbx; go_wp2_with fail; refine (roldest_any l _ _ true _ (hl.later HB)).mono ?_; rintro e wB ⟨rfl, hbx⟩; replace HB : Below w.heap.size w wB := (by repeat (first | with_reducible exact Below.refl _ _ | with_reducible refine balloc ?_ _ | with_reducible refine bdrew ?_ | with_reducible refine bset' ?_ (by omega) _ | with_reducible refine bthen ?_ (by assumption))); clear hbx; go_wp2_with fail; refine (oldest_any l _ _ false _ (hl.later HB)).mono ?_; rintro e wC ⟨rfl, hbx⟩; replace HB : Below w.heap.size w wC := (by repeat (first | with_reducible exact Below.refl _ _ | with_reducible refine balloc ?_ _ | with_reducible refine bdrew ?_ | with_reducible refine bset' ?_ (by omega) _ | with_reducible refine bthen ?_ (by assumption))); clear hbx; go_wp2_with fail; refine (roldest_any l _ _ false _ (hl.later HB)).mono ?_; rintro e wD ⟨rfl, hbx⟩; replace HB : Below w.heap.size w wD := (by repeat (first | with_reducible exact Below.refl _ _ | with_reducible refine balloc ?_ _ | with_reducible refine bdrew ?_ | with_reducible refine bset' ?_ (by omega) _ | with_reducible refine bthen ?_ (by assumption))); clear hbx; go_wp2_with fail; refine (from_any l _ _ true at' _ (hl.later HB)).mono ?_; rintro e wE ⟨rfl, hbx⟩; replace HB : Below w.heap.size w wE := (by repeat (first | with_reducible exact Below.refl _ _ | with_reducible refine balloc ?_ _ | with_reducible refine bdrew ?_ | with_reducible refine bset' ?_ (by omega) _ | with_reducible refine bthen ?_ (by assumption))); clear hbx; go_wp2_with fail; refine (rfrom_any l _ _ true at' _ (hl.later HB)).mono ?_; rintro e wF ⟨rfl, hbx⟩; replace HB : Below w.heap.size w wF := (by repeat (first | with_reducible exact Below.refl _ _ | with_reducible refine balloc ?_ _ | with_reducible refine bdrew ?_ | with_reducible refine bset' ?_ (by omega) _ | with_reducible refine bthen ?_ (by assumption))); clear hbx; go_wp2_with fail; refine (from_any l _ _ false at' _ (hl.later HB)).mono ?_; rintro e wG ⟨rfl, hbx⟩; replace HB : Below w.heap.size w wG := (by repeat (first | with_reducible exact Below.refl _ _ | with_reducible refine balloc ?_ _ | with_reducible refine bdrew ?_ | with_reducible refine bset' ?_ (by omega) _ | with_reducible refine bthen ?_ (by assumption))); clear hbx; go_wp2_with fail; refine (rfrom_any l _ _ false at' _ (hl.later HB)).mono ?_; rintro e wH ⟨rfl, hbx⟩; replace HB : Below w.heap.size w wH := (by repeat (first | with_reducible exact Below.refl _ _ | with_reducible refine balloc ?_ _ | with_reducible refine bdrew ?_ | with_reducible refine bset' ?_ (by omega) _ | with_reducible refine bthen ?_ (by assumption))); clear hbx; go_wp2; go_ret; exact ⟨rfl, by repeat (first | with_reducible exact Below.refl _ _ | with_reducible refine balloc ?_ _ | with_reducible refine bdrew ?_ | with_reducible refine bset' ?_ (by omega) _ | with_reducible refine bthen ?_ (by assumption))⟩
  obtain ⟨k, hk, hke⟩ := idx1023 nn l.length h0
  have hlne : l ≠ [] := by rintro rfl; exact absurd h0 (Nat.not_lt_zero _)
  obtain ⟨b, o, rfl⟩ := hl.form.resolve_left hlne
  have HE := hid_of hke
  clear hke hlne
  go_wp2_with fail
  rw [HE.out]
  refine (take_any l b o c _ (hl.later HB) (by omega) hcap k hk).mono ?_
  rintro e w9 ⟨v9, rfl, hown9, hbx⟩
  have HB9 : Below w.heap.size w w9 := by repeat (first | with_reducible exact Below.refl _ _ | with_reducible refine balloc ?_ _ | with_reducible refine bdrew ?_ | with_reducible refine bset' ?_ (by omega) _ | with_reducible refine bthen ?_ (by assumption))
  obtain ⟨M, hM⟩ : ∃ M, M = l.take k ++ l.drop (k + 1) := ⟨_, rfl⟩
  have hMl : l.length - 1 = M.length := by rw [hM, List.length_append, List.length_take, List.length_drop]; omega
  have hMa : ∀ x ∈ M, x ∈ l := fun x hx => by rw [hM] at hx; rcases List.mem_append.1 hx with h | h; exact List.mem_of_mem_take h; exact List.mem_of_mem_drop h
  rw [← hM] at hown9
  obtain ⟨a9, c9, rfl, hR9, hcap9, -, -, -⟩ := reqs_of_owned hown9 (fun x hx => (hl.2.1 x (hMa x hx)).later HB9) hMl (by omega)
  have HM := hid_of (⟨hM, hMl, hMa⟩ : _ ∧ _ ∧ _)
  obtain ⟨c0, c1, c2, c3, c4, c5⟩ := (hl.later HB9).cells hk
  have lc := lt_of_cell c0
  have S9 : Six w9 w.heap.size r := S.later hbx
  clear hM hMl hMa hown9 hbx S HB s0 s1 s2 s3 s4 s5
  go_wp2_with fail
  refine wp_world (fun wK => Six wK w9.heap.size l[k] ∧ ReqsAt wK a9 M ∧ ReqsAt wK (some ⟨b, o, none⟩) l ∧ Below w.heap.size w wK) ⟨six_newA w9 _ l[k], hR9.later (by repeat (first | with_reducible exact Below.refl _ _ | with_reducible refine balloc ?_ _ | with_reducible refine bdrew ?_ | with_reducible refine bset' ?_ (by omega) _ | with_reducible refine bthen ?_ (by assumption))), hl.later (by repeat (first | with_reducible exact Below.refl _ _ | with_reducible refine balloc ?_ _ | with_reducible refine bdrew ?_ | with_reducible refine bset' ?_ (by omega) _ | with_reducible refine bthen ?_ (by assumption))), by repeat (first | with_reducible exact Below.refl _ _ | with_reducible refine balloc ?_ _ | with_reducible refine bdrew ?_ | with_reducible refine bset' ?_ (by omega) _ | with_reducible refine bthen ?_ (by assumption))⟩ ?_
  clear hR9 c0 c1 c2 c3 c4 c5 lc S9 HB9
  rintro wK ⟨So, hR9, hlK, HBK⟩
  have esp : l = l.take k ++ [l[k]] ++ l.drop (k + 1) := by rw [List.append_assoc, List.singleton_append, List.getElem_cons_drop, List.take_append_drop]
  have elt : (l.take k).length = k := by rw [List.length_take]; omega
  have eld : (l.drop (k + 1)).length = l.length - (k + 1) := by rw [List.length_drop]
  have R1 : RowAt wK 6 (some ⟨b, o, none⟩) k c (rcells (l.take k)) := by
    have := hlK.row (c := c) [] (l.take k) ([l[k]] ++ l.drop (k + 1)) (by simp)
    rw [elt] at this
    simpa using this
  have hwr : IntKind.i64.wrap ((k : Int) + 1) = (k : Int) + 1 := by rw [IntKind.wrap_i64]; omega
  have hsl1 := fun w => slice_to b o l.length c k w hk hcap
  obtain ⟨iR, hR1, hR2, hR3, hR4⟩ := pluck infoR
  have HL := hid_of (⟨esp, elt, eld⟩ : _ ∧ _ ∧ _)
  by_cases hce : c = k + 1
  · subst hce
    have hni : l.length = k + 1 := by omega
    have e3 : l.drop (k + 1) = [] := List.eq_nil_of_length_eq_zero (by omega)
    have R2 : RowAt wK 6 (some ⟨b, o, none⟩) 0 0 (rcells (l.drop (k + 1))) := by
      rw [e3]; exact ⟨rfl, by simp [rcells], Or.inr ⟨_, rfl, fun j u h => by simp [rcells] at h⟩⟩
    have hsl2 := fun w => slice_end b o l.length k w hni
    clear esp elt eld e3 hni
    go_region_held3 (fun _ => True) (trivial) (first | (refine step_append (by rfl) (.const (.slice none 0 0)) (.tmp 75) 32 (by rfl) wK.heap.size 36 iR _ 6 80 Try.underlying32 hR1 hR2 hR3 hR4 rfl (by decide) (.slice none 0 0) 0 [] (by rfl) (World.ownsRow_nil _ _ _ _) (some ⟨b, o, none⟩) k (k + 1) (rcells (l.take k)) (by simp [Act.eval, Act.put]) (R1.later (by repeat (first | with_reducible exact Below.refl _ _ | with_reducible refine balloc ?_ _ | with_reducible refine bdrew ?_ | with_reducible refine bset' ?_ (by omega) _ | with_reducible refine bthen ?_ (by assumption)))) (by unfold maxLen; omega) (by omega) (by simp) ?_; intro v1 wI hown1 hb1; rw [Nat.zero_add, List.nil_append] at hown1; have hB1 : Below wK.heap.size wK wI := Below.trans (by repeat (first | with_reducible exact Below.refl _ _ | with_reducible refine balloc ?_ _ | with_reducible refine bdrew ?_ | with_reducible refine bset' ?_ (by omega) _ | with_reducible refine bthen ?_ (by assumption))) hb1) | (refine step_append (by rfl) (.tmp 76) (.tmp 80) 32 (by rfl) wK.heap.size 36 iR _ 6 80 Try.underlying32 hR1 hR2 hR3 hR4 rfl (by decide) v1 k (rcells (l.take k)) (by simp [Act.eval, Act.put]) (by first | exact hown1 | exact ownsRow_drew hown1) (some ⟨b, o, none⟩) 0 0 (rcells (l.drop (k + 1))) (by simp [Act.eval, Act.put]) (R2.later (by repeat (first | with_reducible exact Below.refl _ _ | with_reducible refine balloc ?_ _ | with_reducible refine bdrew ?_ | with_reducible refine bset' ?_ (by omega) _ | with_reducible refine bthen ?_ (by assumption)))) (by unfold maxLen; omega) (by omega) (by have := hB1.size; (try simp); omega) ?_; intro v2 wJ hown2 hb2; have hB2 : Below wK.heap.size wK wJ := (by first | exact hB1.trans hb2 | exact hB1.drew.trans hb2)))
    rw [← rcells_append, ← HM.out.1] at hown2
    obtain ⟨aJ, cJ, rfl, hRJ, -, -, -, -⟩ := reqs_of_owned hown2 (fun x hx => (hl.2.1 x (HM.out.2.2 x hx)).later (bthen HBK hB2)) (by rw [← HM.out.2.1]; omega) (by rw [← HM.out.2.1]; omega)
    have So' := So.later hB2
    have hR9' := hR9.later hB2
    have hlJ := hlK.later hB2
    have HBH := hid_of (bthen HBK hB2)
    have hAt : l[k].At wJ := Rq.At.of hl hk HBH.out
    obtain ⟨t0, t1, t2, t3, t4, t5⟩ := id So'
    have lt0 := lt_of_cell t0
    obtain ⟨c0, c1, c2, c3, c4, c5⟩ := hlJ.cells hk
    have lc := lt_of_cell c0
    have kk0 : (0 : Int) ≤ (k : Int) := by omega
    have kk1 : (k : Int) < (l.length : Int) := by omega
    have HRS := hid_of (⟨hR9', hRJ, hAt⟩ : _ ∧ _ ∧ _)
    clear hR9' hRJ hAt hlJ So' So hR9 hlK hB1 hB2 hb1 hb2 hown1 hown2 hR1 hR2 hR3 hR4 R1 R2 HBK
    go_wp2_with fail
    refine wp_region_later (by first | exact HB | exact bdrew HB | exact Below.refl _ _) (by kernel_rfl) (by kernel_rfl) ?_
    repeat (go_big_quiet_step (first | exact rfl | (go_at_call 21; exact calls_later (sames_yes M M _ _ _ _ _ (HRS.out.1.later (Later.below _)) (HRS.out.2.1.later (Later.below _)) (sames_refl M))) | (go_at_call 23; exact calls_later (sameReq_any l[k] l[k] _ (HRS.out.2.2.later (Later.below _)) (HRS.out.2.2.later (Later.below _)) true (sameB_refl _)))))
    refine wpQuiet_nil ?_; intro _ hw'; obtain ⟨p, hw''⟩ := hw'; subst hw''; (try clear hc hf hz); (try clear HB); have HB := p.below; obtain ⟨hc, hf, hz⟩ := bcell HB
    replace HB := bthen HBH.out HB
    clear hc hf hz
    go_wp2_with fail; refine (oldest_any l _ _ true _ (hl.later HB)).mono ?_; rintro e wA ⟨rfl, hbx⟩; replace HB : Below w.heap.size w wA := (by repeat (first | with_reducible exact Below.refl _ _ | with_reducible refine balloc ?_ _ | with_reducible refine bdrew ?_ | with_reducible refine bset' ?_ (by omega) _ | with_reducible refine bthen ?_ (by assumption))); clear hbx; go_wp2_with fail; refine (roldest_any l _ _ true _ (hl.later HB)).mono ?_; rintro e wB ⟨rfl, hbx⟩; replace HB : Below w.heap.size w wB := (by repeat (first | with_reducible exact Below.refl _ _ | with_reducible refine balloc ?_ _ | with_reducible refine bdrew ?_ | with_reducible refine bset' ?_ (by omega) _ | with_reducible refine bthen ?_ (by assumption))); clear hbx; go_wp2_with fail; refine (oldest_any l _ _ false _ (hl.later HB)).mono ?_; rintro e wC ⟨rfl, hbx⟩; replace HB : Below w.heap.size w wC := (by repeat (first | with_reducible exact Below.refl _ _ | with_reducible refine balloc ?_ _ | with_reducible refine bdrew ?_ | with_reducible refine bset' ?_ (by omega) _ | with_reducible refine bthen ?_ (by assumption))); clear hbx; go_wp2_with fail; refine (roldest_any l _ _ false _ (hl.later HB)).mono ?_; rintro e wD ⟨rfl, hbx⟩; replace HB : Below w.heap.size w wD := (by repeat (first | with_reducible exact Below.refl _ _ | with_reducible refine balloc ?_ _ | with_reducible refine bdrew ?_ | with_reducible refine bset' ?_ (by omega) _ | with_reducible refine bthen ?_ (by assumption))); clear hbx; go_wp2_with fail; refine (from_any l _ _ true at' _ (hl.later HB)).mono ?_; rintro e wE ⟨rfl, hbx⟩; replace HB : Below w.heap.size w wE := (by repeat (first | with_reducible exact Below.refl _ _ | with_reducible refine balloc ?_ _ | with_reducible refine bdrew ?_ | with_reducible refine bset' ?_ (by omega) _ | with_reducible refine bthen ?_ (by assumption))); clear hbx; go_wp2_with fail; refine (rfrom_any l _ _ true at' _ (hl.later HB)).mono ?_; rintro e wF ⟨rfl, hbx⟩; replace HB : Below w.heap.size w wF := (by repeat (first | with_reducible exact Below.refl _ _ | with_reducible refine balloc ?_ _ | with_reducible refine bdrew ?_ | with_reducible refine bset' ?_ (by omega) _ | with_reducible refine bthen ?_ (by assumption))); clear hbx; go_wp2_with fail; refine (from_any l _ _ false at' _ (hl.later HB)).mono ?_; rintro e wG ⟨rfl, hbx⟩; replace HB : Below w.heap.size w wG := (by repeat (first | with_reducible exact Below.refl _ _ | with_reducible refine balloc ?_ _ | with_reducible refine bdrew ?_ | with_reducible refine bset' ?_ (by omega) _ | with_reducible refine bthen ?_ (by assumption))); clear hbx; go_wp2_with fail; refine (rfrom_any l _ _ false at' _ (hl.later HB)).mono ?_; rintro e wH ⟨rfl, hbx⟩; replace HB : Below w.heap.size w wH := (by repeat (first | with_reducible exact Below.refl _ _ | with_reducible refine balloc ?_ _ | with_reducible refine bdrew ?_ | with_reducible refine bset' ?_ (by omega) _ | with_reducible refine bthen ?_ (by assumption))); clear hbx; go_wp2; go_ret; exact ⟨rfl, by repeat (first | with_reducible exact Below.refl _ _ | with_reducible refine balloc ?_ _ | with_reducible refine bdrew ?_ | with_reducible refine bset' ?_ (by omega) _ | with_reducible refine bthen ?_ (by assumption))⟩
  · have R2 : RowAt wK 6 (some ⟨b, o + (k + 1) * 6, none⟩) (l.length - (k + 1)) (c - (k + 1)) (rcells (l.drop (k + 1))) := by
      have := hlK.row (c := c - (k + 1)) (l.take k ++ [l[k]]) (l.drop (k + 1)) [] (by simp)
      rw [List.length_append, List.length_singleton, elt, eld] at this
      exact this
    have hsl2 := fun w => slice_from b o l.length c k w hk hce
    clear esp elt eld
    go_region_held3 (fun _ => True) (trivial) (first | (refine step_append (by rfl) (.const (.slice none 0 0)) (.tmp 75) 32 (by rfl) wK.heap.size 36 iR _ 6 80 Try.underlying32 hR1 hR2 hR3 hR4 rfl (by decide) (.slice none 0 0) 0 [] (by rfl) (World.ownsRow_nil _ _ _ _) (some ⟨b, o, none⟩) k c (rcells (l.take k)) (by simp [Act.eval, Act.put]) (R1.later (by repeat (first | with_reducible exact Below.refl _ _ | with_reducible refine balloc ?_ _ | with_reducible refine bdrew ?_ | with_reducible refine bset' ?_ (by omega) _ | with_reducible refine bthen ?_ (by assumption)))) (by unfold maxLen; omega) (by omega) (by simp) ?_; intro v1 wI hown1 hb1; rw [Nat.zero_add, List.nil_append] at hown1; have hB1 : Below wK.heap.size wK wI := Below.trans (by repeat (first | with_reducible exact Below.refl _ _ | with_reducible refine balloc ?_ _ | with_reducible refine bdrew ?_ | with_reducible refine bset' ?_ (by omega) _ | with_reducible refine bthen ?_ (by assumption))) hb1) | (refine step_append (by rfl) (.tmp 76) (.tmp 80) 32 (by rfl) wK.heap.size 36 iR _ 6 80 Try.underlying32 hR1 hR2 hR3 hR4 rfl (by decide) v1 k (rcells (l.take k)) (by simp [Act.eval, Act.put]) (by first | exact hown1 | exact ownsRow_drew hown1) (some ⟨b, o + (k + 1) * 6, none⟩) (l.length - (k + 1)) (c - (k + 1)) (rcells (l.drop (k + 1))) (by simp [Act.eval, Act.put]) (R2.later (by repeat (first | with_reducible exact Below.refl _ _ | with_reducible refine balloc ?_ _ | with_reducible refine bdrew ?_ | with_reducible refine bset' ?_ (by omega) _ | with_reducible refine bthen ?_ (by assumption)))) (by unfold maxLen; omega) (by omega) (by have := hB1.size; (try simp); omega) ?_; intro v2 wJ hown2 hb2; have hB2 : Below wK.heap.size wK wJ := (by first | exact hB1.trans hb2 | exact hB1.drew.trans hb2)))
    rw [← rcells_append, ← HM.out.1] at hown2
    obtain ⟨aJ, cJ, rfl, hRJ, -, -, -, -⟩ := reqs_of_owned hown2 (fun x hx => (hl.2.1 x (HM.out.2.2 x hx)).later (bthen HBK hB2)) (by rw [← HM.out.2.1]; omega) (by rw [← HM.out.2.1]; omega)
    have So' := So.later hB2
    have hR9' := hR9.later hB2
    have hlJ := hlK.later hB2
    have HBH := hid_of (bthen HBK hB2)
    have hAt : l[k].At wJ := Rq.At.of hl hk HBH.out
    obtain ⟨t0, t1, t2, t3, t4, t5⟩ := id So'
    have lt0 := lt_of_cell t0
    obtain ⟨c0, c1, c2, c3, c4, c5⟩ := hlJ.cells hk
    have lc := lt_of_cell c0
    have kk0 : (0 : Int) ≤ (k : Int) := by omega
    have kk1 : (k : Int) < (l.length : Int) := by omega
    have HRS := hid_of (⟨hR9', hRJ, hAt⟩ : _ ∧ _ ∧ _)
    clear hR9' hRJ hAt hlJ So' So hR9 hlK hB1 hB2 hb1 hb2 hown1 hown2 hR1 hR2 hR3 hR4 R1 R2 HBK
    go_wp2_with fail
    refine wp_region_later (by first | exact HB | exact bdrew HB | exact Below.refl _ _) (by kernel_rfl) (by kernel_rfl) ?_
    repeat (go_big_quiet_step (first | exact rfl | (go_at_call 21; exact calls_later (sames_yes M M _ _ _ _ _ (HRS.out.1.later (Later.below _)) (HRS.out.2.1.later (Later.below _)) (sames_refl M))) | (go_at_call 23; exact calls_later (sameReq_any l[k] l[k] _ (HRS.out.2.2.later (Later.below _)) (HRS.out.2.2.later (Later.below _)) true (sameB_refl _)))))
    refine wpQuiet_nil ?_; intro _ hw'; obtain ⟨p, hw''⟩ := hw'; subst hw''; (try clear hc hf hz); (try clear HB); have HB := p.below; obtain ⟨hc, hf, hz⟩ := bcell HB
    replace HB := bthen HBH.out HB
    clear hc hf hz
    go_wp2_with fail; refine (oldest_any l _ _ true _ (hl.later HB)).mono ?_; rintro e wA ⟨rfl, hbx⟩; replace HB : Below w.heap.size w wA := (by repeat (first | with_reducible exact Below.refl _ _ | with_reducible refine balloc ?_ _ | with_reducible refine bdrew ?_ | with_reducible refine bset' ?_ (by omega) _ | with_reducible refine bthen ?_ (by assumption))); clear hbx; go_wp2_with fail; refine (roldest_any l _ _ true _ (hl.later HB)).mono ?_; rintro e wB ⟨rfl, hbx⟩; replace HB : Below w.heap.size w wB := (by repeat (first | with_reducible exact Below.refl _ _ | with_reducible refine balloc ?_ _ | with_reducible refine bdrew ?_ | with_reducible refine bset' ?_ (by omega) _ | with_reducible refine bthen ?_ (by assumption))); clear hbx; go_wp2_with fail; refine (oldest_any l _ _ false _ (hl.later HB)).mono ?_; rintro e wC ⟨rfl, hbx⟩; replace HB : Below w.heap.size w wC := (by repeat (first | with_reducible exact Below.refl _ _ | with_reducible refine balloc ?_ _ | with_reducible refine bdrew ?_ | with_reducible refine bset' ?_ (by omega) _ | with_reducible refine bthen ?_ (by assumption))); clear hbx; go_wp2_with fail; refine (roldest_any l _ _ false _ (hl.later HB)).mono ?_; rintro e wD ⟨rfl, hbx⟩; replace HB : Below w.heap.size w wD := (by repeat (first | with_reducible exact Below.refl _ _ | with_reducible refine balloc ?_ _ | with_reducible refine bdrew ?_ | with_reducible refine bset' ?_ (by omega) _ | with_reducible refine bthen ?_ (by assumption))); clear hbx; go_wp2_with fail; refine (from_any l _ _ true at' _ (hl.later HB)).mono ?_; rintro e wE ⟨rfl, hbx⟩; replace HB : Below w.heap.size w wE := (by repeat (first | with_reducible exact Below.refl _ _ | with_reducible refine balloc ?_ _ | with_reducible refine bdrew ?_ | with_reducible refine bset' ?_ (by omega) _ | with_reducible refine bthen ?_ (by assumption))); clear hbx; go_wp2_with fail; refine (rfrom_any l _ _ true at' _ (hl.later HB)).mono ?_; rintro e wF ⟨rfl, hbx⟩; replace HB : Below w.heap.size w wF := (by repeat (first | with_reducible exact Below.refl _ _ | with_reducible refine balloc ?_ _ | with_reducible refine bdrew ?_ | with_reducible refine bset' ?_ (by omega) _ | with_reducible refine bthen ?_ (by assumption))); clear hbx; go_wp2_with fail; refine (from_any l _ _ false at' _ (hl.later HB)).mono ?_; rintro e wG ⟨rfl, hbx⟩; replace HB : Below w.heap.size w wG := (by repeat (first | with_reducible exact Below.refl _ _ | with_reducible refine balloc ?_ _ | with_reducible refine bdrew ?_ | with_reducible refine bset' ?_ (by omega) _ | with_reducible refine bthen ?_ (by assumption))); clear hbx; go_wp2_with fail; refine (rfrom_any l _ _ false at' _ (hl.later HB)).mono ?_; rintro e wH ⟨rfl, hbx⟩; replace HB : Below w.heap.size w wH := (by repeat (first | with_reducible exact Below.refl _ _ | with_reducible refine balloc ?_ _ | with_reducible refine bdrew ?_ | with_reducible refine bset' ?_ (by omega) _ | with_reducible refine bthen ?_ (by assumption))); clear hbx; go_wp2; go_ret; exact ⟨rfl, by repeat (first | with_reducible exact Below.refl _ _ | with_reducible refine balloc ?_ _ | with_reducible refine bdrew ?_ | with_reducible refine bset' ?_ (by omega) _ | with_reducible refine bthen ?_ (by assumption))⟩
end Go.Proofs.Ytfdmchhaiikeaaa
