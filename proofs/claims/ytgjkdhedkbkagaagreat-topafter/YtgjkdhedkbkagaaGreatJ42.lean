/- Who asks alone: a step that asks. -/
import Derived.Test.YtgjkdhedkbkagaaGreatJ41
namespace Go.Proofs.YtgjkdhedkbkagaaGreat
open Go.RowKit Go.BigFrame Go.Maps
set_option maxRecDepth 100000
attribute [local go_sem] Later.cell Later.frozen

theorem errOf_eqX (e : Int) : (e = 0 ∧ errOf e = .nilIface) ∨ (¬ e = 0 ∧ errOf e = .iface 89 (.int .i64 e)) := by
  unfold errOf
  by_cases h : e = 0
  · rw [if_pos h]; exact Or.inl ⟨h, rfl⟩
  · rw [if_neg h]; exact Or.inr ⟨h, rfl⟩
section
variable (W w : World) (g s b : Nat) (q : Sk) (m : Am) (N : Nat)
set_option linter.unusedSimpArgs false in
set_option maxRecDepth 100000 in
set_option maxHeartbeats 4000000 in
theorem alone_early1 (h : AlW W g s b q m N w) (n : Nat) (hf : Fit n q) (hr : RI q m) (x : Sp) (hx : x.word = wRead) (ha : ¬ x.a = 0) : Calls Tryz.prog 23 #[.pointer (some ⟨g, 0, none⟩), x.val] w fun e w' => e = .returned (.bool true) ∧ ∃ q' m', AlW W g s b q' m' (N + 1) w' ∧ RI q' m' ∧ Fit (n + 11) q' ∧ AStep q m x q' m' := by
  have HKK : kindOf x = 1 := by unfold kindOf; rw [if_pos hx]
  have H5 : Hid (∀ w5, Below w.heap.size w w5 → ∃ q' m', AlW W g s b q' m' (N + 1) w5 ∧ RI q' m' ∧ Fit (n + 11) q' ∧ AStep q m x q' m') := fun w5 hb => ⟨q, m, (h.later hb).more (Nat.le_succ N), hr, hf.mono (by omega), Or.inl ⟨by rw [HKK]; omega, ha, rfl, rfl⟩⟩
  have a0 : (x.a != 0) = true := by simpa using ha
  have a1 : (x.a == 0) = false := by simpa using ha
  clear h hr hf ha HKK
  obtain ⟨wd, xa, xb, dt⟩ := x
  simp only at hx a0 a1
  subst hx
  unfold wRead
  go_enter Tryz.func23, Tryz.ntmps23
  go_wp2
  go_ret
  exact ⟨rfl, H5.out _ (by repeat (first | with_reducible exact Below.refl _ _ | with_reducible refine balloc ?_ _ | with_reducible refine bdrew ?_ | with_reducible refine bset' ?_ (by omega) _ | with_reducible refine bthen ?_ (by assumption)))⟩
set_option linter.unusedSimpArgs false in
set_option maxRecDepth 100000 in
set_option maxHeartbeats 4000000 in
theorem alone_ask1 (h : AlW W g s b q m N w) (hN : N ≤ 1000000) (n : Nat) (hf : Fit n q) (hn : n ≤ 800000) (hr : RI q m) (x : Sp) (hx : x.word = wRead) (ha : x.a = 0) : Calls Tryz.prog 23 #[.pointer (some ⟨g, 0, none⟩), x.val] w fun e w' => e = .returned (.bool true) ∧ ∃ q' m', AlW W g s b q' m' (N + 1) w' ∧ RI q' m' ∧ Fit (n + 11) q' ∧ AStep q m x q' m' := by
  have hk : kindOf x = 1 := by unfold kindOf; rw [if_pos hx]
  obtain ⟨q0, hr0, ha0, he0, hfree⟩ := RI.step hf hr x (fun _ => ha)
  have HR : Hid (RI q0 (m.asked x (q.doStep x).1) ∧ AI (q.doStep x).2 ∧ AEff q0 (q.doStep x).2) := ⟨hr0, ha0, he0⟩
  have HFR : Hid ((q.doStep x).1 = 0 → m.kind = 0) := hfree (by omega)
  have HK := hidT hk
  have HF := hidT (hf.doStep x)
  have hbox0 : Below w.heap.size w (w.alloc (.cells #[.string x.word, .int .i64 x.a, .int .i64 x.b, .string x.data] 33)) := by repeat (first | with_reducible exact Below.refl _ _ | with_reducible refine balloc ?_ _ | with_reducible refine bdrew ?_ | with_reducible refine bset' ?_ (by omega) _ | with_reducible refine bthen ?_ (by assumption))
  have HST := hidT (al_stepK W (w.alloc (.cells #[.string x.word, .int .i64 x.a, .int .i64 x.b, .string x.data] 33)).drew g s b q m N w h hbox0.drew n hf hn x (q.doStep x).1 (q.doStep x).2 rfl)
  have HM1 : Hid ((q.doStep x).1 = 0 → m.asked x (q.doStep x).1 = { m with kind := kindOf x, pl := x.b, data := x.data }) := fun h0 => by unfold Am.asked; rw [if_pos ⟨by omega, h0⟩]
  have HM2 : Hid (¬ (q.doStep x).1 = 0 → m.asked x (q.doStep x).1 = m) := fun h0 => by unfold Am.asked; rw [if_neg (fun h' => h0 h'.2)]
  rw [hk] at HM1
  obtain ⟨m2, hm2⟩ : ∃ m2, m.asked x (q.doStep x).1 = m2 := ⟨_, rfl⟩
  have HE : Hid (AStep q m x (q.doStep x).2 ((m.asked x (q.doStep x).1).told (q.doStep x).2)) := Or.inr ⟨fun _ => ha, rfl, rfl⟩
  rw [hm2] at HM1 HM2 HR HE
  clear hm2
  obtain ⟨er, her⟩ : ∃ er, (q.doStep x).1 = er := ⟨_, rfl⟩
  obtain ⟨q2, hq2⟩ : ∃ q2, (q.doStep x).2 = q2 := ⟨_, rfl⟩
  rw [her] at HM1 HM2 HFR
  rw [hq2] at HR HF HE
  rw [her, hq2] at HST
  clear her hq2
  obtain ⟨p, A, R, h⟩ := h
  have c66 := h.al.c66
  have c0 := h.al.c0
  have hl := h.al.lt
  clear h hr hr0 ha0 he0 hfree hk hf hbox0 HK
  obtain ⟨wd, xa, xb, dt⟩ := x
  simp only at hx ha
  subst hx ha
  unfold wRead at *
  go_enter Tryz.func23, Tryz.ntmps23
  go_wp2_with fail
  have HS : Hid (AtX g s w.heap.size ⟨⟨#[114, 101, 97, 100]⟩, 0, xb, dt⟩ (w.alloc (.cells #[.string ⟨#[114, 101, 97, 100]⟩, .int .i64 0, .int .i64 xb, .string dt] 33)).drew) := ⟨cellB_later' (below1 _ _).drew c0, by simp, by simp, by simp, by simp⟩
  refine region_till (S := AtX g s w.heap.size ⟨⟨#[114, 101, 97, 100]⟩, 0, xb, dt⟩) (d := 5) (by kernel_rfl) ?_
  refine till_takeJ (i := 0) (v := ?_) [1, 2, 3] rfl (by kernel_rfl) (by kernel_rfl) (by kernel_rfl) (by kernel_rfl) (fun _ _ _ h => h) (Or.inl ⟨by rfl, ?_⟩) HS.out ?_; rotate_left; (focus (intro w0 hSw; obtain ⟨s0, s1, s2, s3, s4⟩ := hSw; go_simp; (try with_reducible rfl))); (try simp only [Act.put, List.getElem_toArray, List.getElem_cons_succ, List.getElem_cons_zero, List.setIfInBounds_toArray, List.set_cons_zero, List.set_cons_succ])
  refine till_takeJ (i := 1) (v := ?_) [2, 3] rfl (by kernel_rfl) (by kernel_rfl) (by kernel_rfl) (by kernel_rfl) (fun _ _ _ h => h) (Or.inl ⟨by rfl, ?_⟩) HS.out ?_; rotate_left; (focus (intro w0 hSw; obtain ⟨s0, s1, s2, s3, s4⟩ := hSw; go_simp; (try with_reducible rfl))); (try simp only [Act.put, List.getElem_toArray, List.getElem_cons_succ, List.getElem_cons_zero, List.setIfInBounds_toArray, List.set_cons_zero, List.set_cons_succ])
  refine till_takeJ (i := 2) (v := ?_) [3] rfl (by kernel_rfl) (by kernel_rfl) (by kernel_rfl) (by kernel_rfl) (fun _ _ _ h => h) (Or.inl ⟨by rfl, ?_⟩) HS.out ?_; rotate_left; (focus (intro w0 hSw; obtain ⟨s0, s1, s2, s3, s4⟩ := hSw; go_simp; (try with_reducible rfl))); (try simp only [Act.put, List.getElem_toArray, List.getElem_cons_succ, List.getElem_cons_zero, List.setIfInBounds_toArray, List.set_cons_zero, List.set_cons_succ])
  refine till_takeJ (i := 3) (v := ?_) [] rfl (by kernel_rfl) (by kernel_rfl) (by kernel_rfl) (by kernel_rfl) (fun _ _ _ h => h) (Or.inl ⟨by rfl, ?_⟩) HS.out ?_; rotate_left; (focus (intro w0 hSw; obtain ⟨s0, s1, s2, s3, s4⟩ := hSw; go_simp; (try with_reducible rfl))); (try simp only [Act.put, List.getElem_toArray, List.getElem_cons_succ, List.getElem_cons_zero, List.setIfInBounds_toArray, List.set_cons_zero, List.set_cons_succ])
  refine till_takeJ (i := 4) (v := ?_) [] rfl (by kernel_rfl) (by kernel_rfl) (by kernel_rfl) (by kernel_rfl) (fun _ _ _ h => h) (Or.inl ⟨by rfl, ?_⟩) HS.out ?_; rotate_left; (focus (intro w0 hSw; obtain ⟨s0, s1, s2, s3, s4⟩ := hSw; go_simp; (try with_reducible rfl))); (try simp only [Act.put, List.getElem_toArray, List.getElem_cons_succ, List.getElem_cons_zero, List.setIfInBounds_toArray, List.set_cons_zero, List.set_cons_succ])
  refine till_one (i := 5) rfl (by kernel_rfl) ?_
  intro K hK
  refine step_call2 rfl 18 31 32 _ _ rfl (by intro args w; go_simp) (.pointer (some ⟨s, 0, none⟩)) (Sp.val ⟨⟨#[114, 101, 97, 100]⟩, 0, xb, dt⟩) rfl rfl _ _ HST.out ?_
  rintro w4 ⟨hA4, hz4, hk4⟩
  have hX4 : AtX g s w.heap.size ⟨⟨#[114, 101, 97, 100]⟩, 0, xb, dt⟩ w4 := by
    have hx4 := (hk4 w.heap.size (Nat.le_refl _) (by simp)).trans (heap_alloc_new _ _)
    obtain ⟨_, _, _, h4⟩ := hA4
    exact ⟨h4.al.c0, by rw [cell_of_heapX hx4]; rfl, by rw [cell_of_heapX hx4]; rfl, by rw [cell_of_heapX hx4]; rfl, by rw [cell_of_heapX hx4]; rfl⟩
  have HX4 := hidT hX4
  have HA4 := hidT hA4
  clear hz4 hk4 hX4 hA4
  refine hK _ _ (fun h => absurd rfl h) ?_
  (try simp only [Act.put, List.getElem_toArray, List.getElem_cons_succ, List.getElem_cons_zero, List.setIfInBounds_toArray, List.set_cons_zero, List.set_cons_succ])
  clear hK
  refine till_one (i := 6) rfl (by kernel_rfl) ?_
  intro K hK
  go_simp
  refine hK _ _ (fun _ => HX4.out) ?_
  (try simp only [Act.put, List.getElem_toArray, List.getElem_cons_succ, List.getElem_cons_zero, List.setIfInBounds_toArray, List.set_cons_zero, List.set_cons_succ])
  clear hK
  refine till_done (by kernel_rfl) ?_ _
  clear HS HST c66 c0
  rcases errOf_eqX er with ⟨h0, he⟩ | ⟨h0, he⟩
  · rw [he]
    have fk : (m.kind == 0) = true := by rw [HFR.out h0]; rfl
    have em := HM1.out h0
    subst em
    obtain ⟨p4, A4, R4, h4⟩ := HA4.out
    obtain ⟨-, -, -, x2, x3⟩ := HX4.out
    have d66 := h4.al.c66
    have d67 := h4.al.c67
    have d68 := h4.al.c68
    have f66 := h4.al.fz 66
    have f67 := h4.al.fz 67
    have f68 := h4.al.fz 68
    have l4 := h4.al.lt
    have htg : ¬ w.heap.size = g := by omega
    have hgt : ¬ g = w.heap.size := by omega
    have H5 := hidT (((h4.kind 1).pl xb).data dt)
    clear h4 he h0 HX4 HA4 HM1 HM2 HFR hl
    generalize w.heap.size = t at *
    go_wp2_with fail
    refine (answered_right W g s b N _ q0 q2 _ ⟨p4, A4, R4, H5.out⟩ hN HR.out.1 HR.out.2.1 HR.out.2.2).mono ?_
    rintro e w5 ⟨rfl, hA5, hR5⟩
    have H6 : Hid (∃ q' m', AlW W g s b q' m' (N + 1) w5 ∧ RI q' m' ∧ Fit (n + 11) q' ∧ AStep q m ⟨⟨#[114, 101, 97, 100]⟩, 0, xb, dt⟩ q' m') := ⟨_, _, hA5, hR5, HF.out, HE.out⟩
    clear hA5 hR5
    go_wp2
    go_ret
    exact ⟨rfl, H6.out⟩
  · rw [he]
    have em := HM2.out h0
    subst em
    clear he h0 HX4 HM1 HM2 HFR
    go_wp2_with fail
    refine (answered_right W g s b N w4 q0 q2 _ HA4.out hN HR.out.1 HR.out.2.1 HR.out.2.2).mono ?_
    rintro e w5 ⟨rfl, hA5, hR5⟩
    have H6 : Hid (∃ q' m', AlW W g s b q' m' (N + 1) w5 ∧ RI q' m' ∧ Fit (n + 11) q' ∧ AStep q m2 ⟨⟨#[114, 101, 97, 100]⟩, 0, xb, dt⟩ q' m') := ⟨_, _, hA5, hR5, HF.out, HE.out⟩
    clear hA5 hR5
    go_wp2
    go_ret
    exact ⟨rfl, H6.out⟩
set_option linter.unusedSimpArgs false in
set_option maxRecDepth 100000 in
set_option maxHeartbeats 4000000 in
theorem alone_early2 (h : AlW W g s b q m N w) (n : Nat) (hf : Fit n q) (hr : RI q m) (x : Sp) (hx : x.word = wWrite) (ha : ¬ x.a = 0) : Calls Tryz.prog 23 #[.pointer (some ⟨g, 0, none⟩), x.val] w fun e w' => e = .returned (.bool true) ∧ ∃ q' m', AlW W g s b q' m' (N + 1) w' ∧ RI q' m' ∧ Fit (n + 11) q' ∧ AStep q m x q' m' := by
  have HKK : kindOf x = 2 := by unfold kindOf; rw [if_neg (by rw [hx]; decide), if_pos hx]
  have H5 : Hid (∀ w5, Below w.heap.size w w5 → ∃ q' m', AlW W g s b q' m' (N + 1) w5 ∧ RI q' m' ∧ Fit (n + 11) q' ∧ AStep q m x q' m') := fun w5 hb => ⟨q, m, (h.later hb).more (Nat.le_succ N), hr, hf.mono (by omega), Or.inl ⟨by rw [HKK]; omega, ha, rfl, rfl⟩⟩
  have a0 : (x.a != 0) = true := by simpa using ha
  have a1 : (x.a == 0) = false := by simpa using ha
  clear h hr hf ha HKK
  obtain ⟨wd, xa, xb, dt⟩ := x
  simp only at hx a0 a1
  subst hx
  unfold wWrite
  go_enter Tryz.func23, Tryz.ntmps23
  go_wp2
  go_ret
  exact ⟨rfl, H5.out _ (by repeat (first | with_reducible exact Below.refl _ _ | with_reducible refine balloc ?_ _ | with_reducible refine bdrew ?_ | with_reducible refine bset' ?_ (by omega) _ | with_reducible refine bthen ?_ (by assumption)))⟩
set_option linter.unusedSimpArgs false in
set_option maxRecDepth 100000 in
set_option maxHeartbeats 4000000 in
theorem alone_ask2 (h : AlW W g s b q m N w) (hN : N ≤ 1000000) (n : Nat) (hf : Fit n q) (hn : n ≤ 800000) (hr : RI q m) (x : Sp) (hx : x.word = wWrite) (ha : x.a = 0) : Calls Tryz.prog 23 #[.pointer (some ⟨g, 0, none⟩), x.val] w fun e w' => e = .returned (.bool true) ∧ ∃ q' m', AlW W g s b q' m' (N + 1) w' ∧ RI q' m' ∧ Fit (n + 11) q' ∧ AStep q m x q' m' := by
  have hk : kindOf x = 2 := by unfold kindOf; rw [if_neg (by rw [hx]; decide), if_pos hx]
  obtain ⟨q0, hr0, ha0, he0, hfree⟩ := RI.step hf hr x (fun _ => ha)
  have HR : Hid (RI q0 (m.asked x (q.doStep x).1) ∧ AI (q.doStep x).2 ∧ AEff q0 (q.doStep x).2) := ⟨hr0, ha0, he0⟩
  have HFR : Hid ((q.doStep x).1 = 0 → m.kind = 0) := hfree (by omega)
  have HK := hidT hk
  have HF := hidT (hf.doStep x)
  have hbox0 : Below w.heap.size w (w.alloc (.cells #[.string x.word, .int .i64 x.a, .int .i64 x.b, .string x.data] 33)) := by repeat (first | with_reducible exact Below.refl _ _ | with_reducible refine balloc ?_ _ | with_reducible refine bdrew ?_ | with_reducible refine bset' ?_ (by omega) _ | with_reducible refine bthen ?_ (by assumption))
  have HST := hidT (al_stepK W (w.alloc (.cells #[.string x.word, .int .i64 x.a, .int .i64 x.b, .string x.data] 33)).drew g s b q m N w h hbox0.drew n hf hn x (q.doStep x).1 (q.doStep x).2 rfl)
  have HM1 : Hid ((q.doStep x).1 = 0 → m.asked x (q.doStep x).1 = { m with kind := kindOf x, pl := x.b, data := x.data }) := fun h0 => by unfold Am.asked; rw [if_pos ⟨by omega, h0⟩]
  have HM2 : Hid (¬ (q.doStep x).1 = 0 → m.asked x (q.doStep x).1 = m) := fun h0 => by unfold Am.asked; rw [if_neg (fun h' => h0 h'.2)]
  rw [hk] at HM1
  obtain ⟨m2, hm2⟩ : ∃ m2, m.asked x (q.doStep x).1 = m2 := ⟨_, rfl⟩
  have HE : Hid (AStep q m x (q.doStep x).2 ((m.asked x (q.doStep x).1).told (q.doStep x).2)) := Or.inr ⟨fun _ => ha, rfl, rfl⟩
  rw [hm2] at HM1 HM2 HR HE
  clear hm2
  obtain ⟨er, her⟩ : ∃ er, (q.doStep x).1 = er := ⟨_, rfl⟩
  obtain ⟨q2, hq2⟩ : ∃ q2, (q.doStep x).2 = q2 := ⟨_, rfl⟩
  rw [her] at HM1 HM2 HFR
  rw [hq2] at HR HF HE
  rw [her, hq2] at HST
  clear her hq2
  obtain ⟨p, A, R, h⟩ := h
  have c66 := h.al.c66
  have c0 := h.al.c0
  have hl := h.al.lt
  clear h hr hr0 ha0 he0 hfree hk hf hbox0 HK
  obtain ⟨wd, xa, xb, dt⟩ := x
  simp only at hx ha
  subst hx ha
  unfold wWrite at *
  go_enter Tryz.func23, Tryz.ntmps23
  go_wp2_with fail
  have HS : Hid (AtX g s w.heap.size ⟨⟨#[119, 114, 105, 116, 101]⟩, 0, xb, dt⟩ (w.alloc (.cells #[.string ⟨#[119, 114, 105, 116, 101]⟩, .int .i64 0, .int .i64 xb, .string dt] 33)).drew) := ⟨cellB_later' (below1 _ _).drew c0, by simp, by simp, by simp, by simp⟩
  refine region_till (S := AtX g s w.heap.size ⟨⟨#[119, 114, 105, 116, 101]⟩, 0, xb, dt⟩) (d := 5) (by kernel_rfl) ?_
  refine till_takeJ (i := 0) (v := ?_) [1, 2, 3] rfl (by kernel_rfl) (by kernel_rfl) (by kernel_rfl) (by kernel_rfl) (fun _ _ _ h => h) (Or.inl ⟨by rfl, ?_⟩) HS.out ?_; rotate_left; (focus (intro w0 hSw; obtain ⟨s0, s1, s2, s3, s4⟩ := hSw; go_simp; (try with_reducible rfl))); (try simp only [Act.put, List.getElem_toArray, List.getElem_cons_succ, List.getElem_cons_zero, List.setIfInBounds_toArray, List.set_cons_zero, List.set_cons_succ])
  refine till_takeJ (i := 1) (v := ?_) [2, 3] rfl (by kernel_rfl) (by kernel_rfl) (by kernel_rfl) (by kernel_rfl) (fun _ _ _ h => h) (Or.inl ⟨by rfl, ?_⟩) HS.out ?_; rotate_left; (focus (intro w0 hSw; obtain ⟨s0, s1, s2, s3, s4⟩ := hSw; go_simp; (try with_reducible rfl))); (try simp only [Act.put, List.getElem_toArray, List.getElem_cons_succ, List.getElem_cons_zero, List.setIfInBounds_toArray, List.set_cons_zero, List.set_cons_succ])
  refine till_takeJ (i := 2) (v := ?_) [3] rfl (by kernel_rfl) (by kernel_rfl) (by kernel_rfl) (by kernel_rfl) (fun _ _ _ h => h) (Or.inl ⟨by rfl, ?_⟩) HS.out ?_; rotate_left; (focus (intro w0 hSw; obtain ⟨s0, s1, s2, s3, s4⟩ := hSw; go_simp; (try with_reducible rfl))); (try simp only [Act.put, List.getElem_toArray, List.getElem_cons_succ, List.getElem_cons_zero, List.setIfInBounds_toArray, List.set_cons_zero, List.set_cons_succ])
  refine till_takeJ (i := 3) (v := ?_) [] rfl (by kernel_rfl) (by kernel_rfl) (by kernel_rfl) (by kernel_rfl) (fun _ _ _ h => h) (Or.inl ⟨by rfl, ?_⟩) HS.out ?_; rotate_left; (focus (intro w0 hSw; obtain ⟨s0, s1, s2, s3, s4⟩ := hSw; go_simp; (try with_reducible rfl))); (try simp only [Act.put, List.getElem_toArray, List.getElem_cons_succ, List.getElem_cons_zero, List.setIfInBounds_toArray, List.set_cons_zero, List.set_cons_succ])
  refine till_takeJ (i := 4) (v := ?_) [] rfl (by kernel_rfl) (by kernel_rfl) (by kernel_rfl) (by kernel_rfl) (fun _ _ _ h => h) (Or.inl ⟨by rfl, ?_⟩) HS.out ?_; rotate_left; (focus (intro w0 hSw; obtain ⟨s0, s1, s2, s3, s4⟩ := hSw; go_simp; (try with_reducible rfl))); (try simp only [Act.put, List.getElem_toArray, List.getElem_cons_succ, List.getElem_cons_zero, List.setIfInBounds_toArray, List.set_cons_zero, List.set_cons_succ])
  refine till_one (i := 5) rfl (by kernel_rfl) ?_
  intro K hK
  refine step_call2 rfl 18 31 32 _ _ rfl (by intro args w; go_simp) (.pointer (some ⟨s, 0, none⟩)) (Sp.val ⟨⟨#[119, 114, 105, 116, 101]⟩, 0, xb, dt⟩) rfl rfl _ _ HST.out ?_
  rintro w4 ⟨hA4, hz4, hk4⟩
  have hX4 : AtX g s w.heap.size ⟨⟨#[119, 114, 105, 116, 101]⟩, 0, xb, dt⟩ w4 := by
    have hx4 := (hk4 w.heap.size (Nat.le_refl _) (by simp)).trans (heap_alloc_new _ _)
    obtain ⟨_, _, _, h4⟩ := hA4
    exact ⟨h4.al.c0, by rw [cell_of_heapX hx4]; rfl, by rw [cell_of_heapX hx4]; rfl, by rw [cell_of_heapX hx4]; rfl, by rw [cell_of_heapX hx4]; rfl⟩
  have HX4 := hidT hX4
  have HA4 := hidT hA4
  clear hz4 hk4 hX4 hA4
  refine hK _ _ (fun h => absurd rfl h) ?_
  (try simp only [Act.put, List.getElem_toArray, List.getElem_cons_succ, List.getElem_cons_zero, List.setIfInBounds_toArray, List.set_cons_zero, List.set_cons_succ])
  clear hK
  refine till_one (i := 6) rfl (by kernel_rfl) ?_
  intro K hK
  go_simp
  refine hK _ _ (fun _ => HX4.out) ?_
  (try simp only [Act.put, List.getElem_toArray, List.getElem_cons_succ, List.getElem_cons_zero, List.setIfInBounds_toArray, List.set_cons_zero, List.set_cons_succ])
  clear hK
  refine till_done (by kernel_rfl) ?_ _
  clear HS HST c66 c0
  rcases errOf_eqX er with ⟨h0, he⟩ | ⟨h0, he⟩
  · rw [he]
    have fk : (m.kind == 0) = true := by rw [HFR.out h0]; rfl
    have em := HM1.out h0
    subst em
    obtain ⟨p4, A4, R4, h4⟩ := HA4.out
    obtain ⟨-, -, -, x2, x3⟩ := HX4.out
    have d66 := h4.al.c66
    have d67 := h4.al.c67
    have d68 := h4.al.c68
    have f66 := h4.al.fz 66
    have f67 := h4.al.fz 67
    have f68 := h4.al.fz 68
    have l4 := h4.al.lt
    have htg : ¬ w.heap.size = g := by omega
    have hgt : ¬ g = w.heap.size := by omega
    have H5 := hidT (((h4.kind 2).pl xb).data dt)
    clear h4 he h0 HX4 HA4 HM1 HM2 HFR hl
    generalize w.heap.size = t at *
    go_wp2_with fail
    refine (answered_right W g s b N _ q0 q2 _ ⟨p4, A4, R4, H5.out⟩ hN HR.out.1 HR.out.2.1 HR.out.2.2).mono ?_
    rintro e w5 ⟨rfl, hA5, hR5⟩
    have H6 : Hid (∃ q' m', AlW W g s b q' m' (N + 1) w5 ∧ RI q' m' ∧ Fit (n + 11) q' ∧ AStep q m ⟨⟨#[119, 114, 105, 116, 101]⟩, 0, xb, dt⟩ q' m') := ⟨_, _, hA5, hR5, HF.out, HE.out⟩
    clear hA5 hR5
    go_wp2
    go_ret
    exact ⟨rfl, H6.out⟩
  · rw [he]
    have em := HM2.out h0
    subst em
    clear he h0 HX4 HM1 HM2 HFR
    go_wp2_with fail
    refine (answered_right W g s b N w4 q0 q2 _ HA4.out hN HR.out.1 HR.out.2.1 HR.out.2.2).mono ?_
    rintro e w5 ⟨rfl, hA5, hR5⟩
    have H6 : Hid (∃ q' m', AlW W g s b q' m' (N + 1) w5 ∧ RI q' m' ∧ Fit (n + 11) q' ∧ AStep q m2 ⟨⟨#[119, 114, 105, 116, 101]⟩, 0, xb, dt⟩ q' m') := ⟨_, _, hA5, hR5, HF.out, HE.out⟩
    clear hA5 hR5
    go_wp2
    go_ret
    exact ⟨rfl, H6.out⟩
set_option linter.unusedSimpArgs false in
set_option maxRecDepth 100000 in
set_option maxHeartbeats 4000000 in
theorem alone_early3 (h : AlW W g s b q m N w) (n : Nat) (hf : Fit n q) (hr : RI q m) (x : Sp) (hx : x.word = wSync) (ha : ¬ x.a = 0) : Calls Tryz.prog 23 #[.pointer (some ⟨g, 0, none⟩), x.val] w fun e w' => e = .returned (.bool true) ∧ ∃ q' m', AlW W g s b q' m' (N + 1) w' ∧ RI q' m' ∧ Fit (n + 11) q' ∧ AStep q m x q' m' := by
  have HKK : kindOf x = 3 := by unfold kindOf; rw [if_neg (by rw [hx]; decide), if_neg (by rw [hx]; decide), if_pos hx]
  have H5 : Hid (∀ w5, Below w.heap.size w w5 → ∃ q' m', AlW W g s b q' m' (N + 1) w5 ∧ RI q' m' ∧ Fit (n + 11) q' ∧ AStep q m x q' m') := fun w5 hb => ⟨q, m, (h.later hb).more (Nat.le_succ N), hr, hf.mono (by omega), Or.inl ⟨by rw [HKK]; omega, ha, rfl, rfl⟩⟩
  have a0 : (x.a != 0) = true := by simpa using ha
  have a1 : (x.a == 0) = false := by simpa using ha
  clear h hr hf ha HKK
  obtain ⟨wd, xa, xb, dt⟩ := x
  simp only at hx a0 a1
  subst hx
  unfold wSync
  go_enter Tryz.func23, Tryz.ntmps23
  go_wp2
  go_ret
  exact ⟨rfl, H5.out _ (by repeat (first | with_reducible exact Below.refl _ _ | with_reducible refine balloc ?_ _ | with_reducible refine bdrew ?_ | with_reducible refine bset' ?_ (by omega) _ | with_reducible refine bthen ?_ (by assumption)))⟩
set_option linter.unusedSimpArgs false in
set_option maxRecDepth 100000 in
set_option maxHeartbeats 4000000 in
theorem alone_ask3 (h : AlW W g s b q m N w) (hN : N ≤ 1000000) (n : Nat) (hf : Fit n q) (hn : n ≤ 800000) (hr : RI q m) (x : Sp) (hx : x.word = wSync) (ha : x.a = 0) : Calls Tryz.prog 23 #[.pointer (some ⟨g, 0, none⟩), x.val] w fun e w' => e = .returned (.bool true) ∧ ∃ q' m', AlW W g s b q' m' (N + 1) w' ∧ RI q' m' ∧ Fit (n + 11) q' ∧ AStep q m x q' m' := by
  have hk : kindOf x = 3 := by unfold kindOf; rw [if_neg (by rw [hx]; decide), if_neg (by rw [hx]; decide), if_pos hx]
  obtain ⟨q0, hr0, ha0, he0, hfree⟩ := RI.step hf hr x (fun _ => ha)
  have HR : Hid (RI q0 (m.asked x (q.doStep x).1) ∧ AI (q.doStep x).2 ∧ AEff q0 (q.doStep x).2) := ⟨hr0, ha0, he0⟩
  have HFR : Hid ((q.doStep x).1 = 0 → m.kind = 0) := hfree (by omega)
  have HK := hidT hk
  have HF := hidT (hf.doStep x)
  have hbox0 : Below w.heap.size w (w.alloc (.cells #[.string x.word, .int .i64 x.a, .int .i64 x.b, .string x.data] 33)) := by repeat (first | with_reducible exact Below.refl _ _ | with_reducible refine balloc ?_ _ | with_reducible refine bdrew ?_ | with_reducible refine bset' ?_ (by omega) _ | with_reducible refine bthen ?_ (by assumption))
  have HST := hidT (al_stepK W (w.alloc (.cells #[.string x.word, .int .i64 x.a, .int .i64 x.b, .string x.data] 33)).drew g s b q m N w h hbox0.drew n hf hn x (q.doStep x).1 (q.doStep x).2 rfl)
  have HM1 : Hid ((q.doStep x).1 = 0 → m.asked x (q.doStep x).1 = { m with kind := kindOf x, pl := x.b, data := x.data }) := fun h0 => by unfold Am.asked; rw [if_pos ⟨by omega, h0⟩]
  have HM2 : Hid (¬ (q.doStep x).1 = 0 → m.asked x (q.doStep x).1 = m) := fun h0 => by unfold Am.asked; rw [if_neg (fun h' => h0 h'.2)]
  rw [hk] at HM1
  obtain ⟨m2, hm2⟩ : ∃ m2, m.asked x (q.doStep x).1 = m2 := ⟨_, rfl⟩
  have HE : Hid (AStep q m x (q.doStep x).2 ((m.asked x (q.doStep x).1).told (q.doStep x).2)) := Or.inr ⟨fun _ => ha, rfl, rfl⟩
  rw [hm2] at HM1 HM2 HR HE
  clear hm2
  obtain ⟨er, her⟩ : ∃ er, (q.doStep x).1 = er := ⟨_, rfl⟩
  obtain ⟨q2, hq2⟩ : ∃ q2, (q.doStep x).2 = q2 := ⟨_, rfl⟩
  rw [her] at HM1 HM2 HFR
  rw [hq2] at HR HF HE
  rw [her, hq2] at HST
  clear her hq2
  obtain ⟨p, A, R, h⟩ := h
  have c66 := h.al.c66
  have c0 := h.al.c0
  have hl := h.al.lt
  clear h hr hr0 ha0 he0 hfree hk hf hbox0 HK
  obtain ⟨wd, xa, xb, dt⟩ := x
  simp only at hx ha
  subst hx ha
  unfold wSync at *
  go_enter Tryz.func23, Tryz.ntmps23
  go_wp2_with fail
  have HS : Hid (AtX g s w.heap.size ⟨⟨#[115, 121, 110, 99]⟩, 0, xb, dt⟩ (w.alloc (.cells #[.string ⟨#[115, 121, 110, 99]⟩, .int .i64 0, .int .i64 xb, .string dt] 33)).drew) := ⟨cellB_later' (below1 _ _).drew c0, by simp, by simp, by simp, by simp⟩
  refine region_till (S := AtX g s w.heap.size ⟨⟨#[115, 121, 110, 99]⟩, 0, xb, dt⟩) (d := 5) (by kernel_rfl) ?_
  refine till_takeJ (i := 0) (v := ?_) [1, 2, 3] rfl (by kernel_rfl) (by kernel_rfl) (by kernel_rfl) (by kernel_rfl) (fun _ _ _ h => h) (Or.inl ⟨by rfl, ?_⟩) HS.out ?_; rotate_left; (focus (intro w0 hSw; obtain ⟨s0, s1, s2, s3, s4⟩ := hSw; go_simp; (try with_reducible rfl))); (try simp only [Act.put, List.getElem_toArray, List.getElem_cons_succ, List.getElem_cons_zero, List.setIfInBounds_toArray, List.set_cons_zero, List.set_cons_succ])
  refine till_takeJ (i := 1) (v := ?_) [2, 3] rfl (by kernel_rfl) (by kernel_rfl) (by kernel_rfl) (by kernel_rfl) (fun _ _ _ h => h) (Or.inl ⟨by rfl, ?_⟩) HS.out ?_; rotate_left; (focus (intro w0 hSw; obtain ⟨s0, s1, s2, s3, s4⟩ := hSw; go_simp; (try with_reducible rfl))); (try simp only [Act.put, List.getElem_toArray, List.getElem_cons_succ, List.getElem_cons_zero, List.setIfInBounds_toArray, List.set_cons_zero, List.set_cons_succ])
  refine till_takeJ (i := 2) (v := ?_) [3] rfl (by kernel_rfl) (by kernel_rfl) (by kernel_rfl) (by kernel_rfl) (fun _ _ _ h => h) (Or.inl ⟨by rfl, ?_⟩) HS.out ?_; rotate_left; (focus (intro w0 hSw; obtain ⟨s0, s1, s2, s3, s4⟩ := hSw; go_simp; (try with_reducible rfl))); (try simp only [Act.put, List.getElem_toArray, List.getElem_cons_succ, List.getElem_cons_zero, List.setIfInBounds_toArray, List.set_cons_zero, List.set_cons_succ])
  refine till_takeJ (i := 3) (v := ?_) [] rfl (by kernel_rfl) (by kernel_rfl) (by kernel_rfl) (by kernel_rfl) (fun _ _ _ h => h) (Or.inl ⟨by rfl, ?_⟩) HS.out ?_; rotate_left; (focus (intro w0 hSw; obtain ⟨s0, s1, s2, s3, s4⟩ := hSw; go_simp; (try with_reducible rfl))); (try simp only [Act.put, List.getElem_toArray, List.getElem_cons_succ, List.getElem_cons_zero, List.setIfInBounds_toArray, List.set_cons_zero, List.set_cons_succ])
  refine till_takeJ (i := 4) (v := ?_) [] rfl (by kernel_rfl) (by kernel_rfl) (by kernel_rfl) (by kernel_rfl) (fun _ _ _ h => h) (Or.inl ⟨by rfl, ?_⟩) HS.out ?_; rotate_left; (focus (intro w0 hSw; obtain ⟨s0, s1, s2, s3, s4⟩ := hSw; go_simp; (try with_reducible rfl))); (try simp only [Act.put, List.getElem_toArray, List.getElem_cons_succ, List.getElem_cons_zero, List.setIfInBounds_toArray, List.set_cons_zero, List.set_cons_succ])
  refine till_one (i := 5) rfl (by kernel_rfl) ?_
  intro K hK
  refine step_call2 rfl 18 31 32 _ _ rfl (by intro args w; go_simp) (.pointer (some ⟨s, 0, none⟩)) (Sp.val ⟨⟨#[115, 121, 110, 99]⟩, 0, xb, dt⟩) rfl rfl _ _ HST.out ?_
  rintro w4 ⟨hA4, hz4, hk4⟩
  have hX4 : AtX g s w.heap.size ⟨⟨#[115, 121, 110, 99]⟩, 0, xb, dt⟩ w4 := by
    have hx4 := (hk4 w.heap.size (Nat.le_refl _) (by simp)).trans (heap_alloc_new _ _)
    obtain ⟨_, _, _, h4⟩ := hA4
    exact ⟨h4.al.c0, by rw [cell_of_heapX hx4]; rfl, by rw [cell_of_heapX hx4]; rfl, by rw [cell_of_heapX hx4]; rfl, by rw [cell_of_heapX hx4]; rfl⟩
  have HX4 := hidT hX4
  have HA4 := hidT hA4
  clear hz4 hk4 hX4 hA4
  refine hK _ _ (fun h => absurd rfl h) ?_
  (try simp only [Act.put, List.getElem_toArray, List.getElem_cons_succ, List.getElem_cons_zero, List.setIfInBounds_toArray, List.set_cons_zero, List.set_cons_succ])
  clear hK
  refine till_one (i := 6) rfl (by kernel_rfl) ?_
  intro K hK
  go_simp
  refine hK _ _ (fun _ => HX4.out) ?_
  (try simp only [Act.put, List.getElem_toArray, List.getElem_cons_succ, List.getElem_cons_zero, List.setIfInBounds_toArray, List.set_cons_zero, List.set_cons_succ])
  clear hK
  refine till_done (by kernel_rfl) ?_ _
  clear HS HST c66 c0
  rcases errOf_eqX er with ⟨h0, he⟩ | ⟨h0, he⟩
  · rw [he]
    have fk : (m.kind == 0) = true := by rw [HFR.out h0]; rfl
    have em := HM1.out h0
    subst em
    obtain ⟨p4, A4, R4, h4⟩ := HA4.out
    obtain ⟨-, -, -, x2, x3⟩ := HX4.out
    have d66 := h4.al.c66
    have d67 := h4.al.c67
    have d68 := h4.al.c68
    have f66 := h4.al.fz 66
    have f67 := h4.al.fz 67
    have f68 := h4.al.fz 68
    have l4 := h4.al.lt
    have htg : ¬ w.heap.size = g := by omega
    have hgt : ¬ g = w.heap.size := by omega
    have H5 := hidT (((h4.kind 3).pl xb).data dt)
    clear h4 he h0 HX4 HA4 HM1 HM2 HFR hl
    generalize w.heap.size = t at *
    go_wp2_with fail
    refine (answered_right W g s b N _ q0 q2 _ ⟨p4, A4, R4, H5.out⟩ hN HR.out.1 HR.out.2.1 HR.out.2.2).mono ?_
    rintro e w5 ⟨rfl, hA5, hR5⟩
    have H6 : Hid (∃ q' m', AlW W g s b q' m' (N + 1) w5 ∧ RI q' m' ∧ Fit (n + 11) q' ∧ AStep q m ⟨⟨#[115, 121, 110, 99]⟩, 0, xb, dt⟩ q' m') := ⟨_, _, hA5, hR5, HF.out, HE.out⟩
    clear hA5 hR5
    go_wp2
    go_ret
    exact ⟨rfl, H6.out⟩
  · rw [he]
    have em := HM2.out h0
    subst em
    clear he h0 HX4 HM1 HM2 HFR
    go_wp2_with fail
    refine (answered_right W g s b N w4 q0 q2 _ HA4.out hN HR.out.1 HR.out.2.1 HR.out.2.2).mono ?_
    rintro e w5 ⟨rfl, hA5, hR5⟩
    have H6 : Hid (∃ q' m', AlW W g s b q' m' (N + 1) w5 ∧ RI q' m' ∧ Fit (n + 11) q' ∧ AStep q m2 ⟨⟨#[115, 121, 110, 99]⟩, 0, xb, dt⟩ q' m') := ⟨_, _, hA5, hR5, HF.out, HE.out⟩
    clear hA5 hR5
    go_wp2
    go_ret
    exact ⟨rfl, H6.out⟩
end
end Go.Proofs.YtgjkdhedkbkagaaGreat
/- Who asks alone: any step. -/
namespace Go.Proofs.YtgjkdhedkbkagaaGreat
open Go.RowKit Go.BigFrame Go.Maps
set_option maxRecDepth 100000

theorem alone_step (W w : World) (g s b : Nat) (q : Sk) (m : Am) (N : Nat) (h : AlW W g s b q m N w) (hN : N ≤ 1000000) (n : Nat) (hf : Fit n q) (hn : n ≤ 800000) (hr : RI q m) (x : Sp) : Calls Tryz.prog 23 #[.pointer (some ⟨g, 0, none⟩), x.val] w fun e w' => e = .returned (.bool true) ∧ ∃ q' m', AlW W g s b q' m' (N + 1) w' ∧ RI q' m' ∧ Fit (n + 11) q' ∧ AStep q m x q' m' := by
  by_cases k1 : x.word = wRead
  · by_cases ha : x.a = 0
    · exact alone_ask1 W w g s b q m N h hN n hf hn hr x k1 ha
    · exact alone_early1 W w g s b q m N h n hf hr x k1 ha
  by_cases k2 : x.word = wWrite
  · by_cases ha : x.a = 0
    · exact alone_ask2 W w g s b q m N h hN n hf hn hr x k2 ha
    · exact alone_early2 W w g s b q m N h n hf hr x k2 ha
  by_cases k3 : x.word = wSync
  · by_cases ha : x.a = 0
    · exact alone_ask3 W w g s b q m N h hN n hf hn hr x k3 ha
    · exact alone_early3 W w g s b q m N h n hf hr x k3 ha
  exact alone_step0 W w g s b q m N h hN n hf hn hr x k1 k2 k3
end Go.Proofs.YtgjkdhedkbkagaaGreat
/- Who asks alone: at the start. -/
namespace Go.Proofs.YtgjkdhedkbkagaaGreat
open Go.RowKit Go.BigFrame Go.Maps
set_option maxRecDepth 100000

def am0 : Am := ⟨List.replicate 32 ByteArray.empty, List.replicate 32 [], 0, 0, ByteArray.empty⟩
def ar0 : Ar := ⟨fun _ => none, fun _ => 0⟩
theorem am0_ri : RI sk0 am0 := sk0_ri _ (by simp) 0
theorem al_new {W w : World} {s b : Nat} (ho : Own W s b sk0 w) : AlW W w.heap.size s b sk0 am0 0 (w.alloc (.cells (am0.cells s b ar0).toArray 49)) := by
  obtain ⟨p, A, h1, h2, h3, h4, h5⟩ := ho
  have hb := below1 w (.cells (am0.cells s b ar0).toArray 49)
  have hh : p.hand = [] := congrArg Sk.hand h2
  have hq : p.queue = [] := List.map_eq_nil_iff.1 (congrArg Sk.queue h2)
  have hd : p.dev.busy = [] := List.map_eq_nil_iff.1 (congrArg (fun x : Sk => x.dev.busy) h2)
  have hv : A.v < w.heap.size := lt_of_heap h1.mem.drv.blk
  have h1' := h1.later hb
  have st : StkAt s p { A with M := w.heap.size + 1 } (w.alloc (.cells (am0.cells s b ar0).toArray 49)) := by
    refine ⟨h1'.blk, { h1'.mem with hoffX := fun hne => absurd hh hne, qoffX := fun hne => absurd hq hne, roffX := ?_, xlt := by simp }⟩
    intro r hr
    rw [hq, hd] at hr
    cases hr
  refine ⟨p, { A with M := w.heap.size + 1 }, ar0, st, h2, h3, h4, bthen h5 hb, ⟨heap_alloc_new _ _, by simp [am0], by simp [am0], fun k hk => ⟨Or.inl ?_, fun _ => rfl, ?_⟩⟩, Nat.lt_succ_self _, fun e => ?_, Nat.ne_of_lt hv, fun k hk ad ha => (by cases ha), h5.size⟩
  · show (List.replicate 32 ([] : List ByteArray)).getD k [] = []
    rw [List.getD_eq_getElem?_getD, List.getElem?_replicate, if_pos hk]; rfl
  · show ((List.replicate 32 ([] : List ByteArray)).getD k []).length ≤ 0
    rw [List.getD_eq_getElem?_getD, List.getElem?_replicate, if_pos hk]; exact Nat.le_refl _
  · have := h1.footLt _ e
    omega
end Go.Proofs.YtgjkdhedkbkagaaGreat
