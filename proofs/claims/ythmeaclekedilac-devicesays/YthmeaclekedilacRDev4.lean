/- The document's device: Start. -/
import Derived.Test.YthmeaclekedilacRDev3
namespace Go.Proofs.Ythmeaclekedilac
open Go.RowKit Go.BigFrame
attribute [local go_sem] Later.cell Later.frozen

set_option maxHeartbeats 400000 in
theorem rstart_full (b : Nat) (d : Rd) (a : Ra) (r : Rq) (w : World) (h : RdAt b d a w) (h2 : d.busy.length = 2) :
    Calls Try.prog 15 #[.pointer (some ⟨b, 0, none⟩), r.val] w fun e w' => e = .returned (.int .i64 7) ∧ Below w.heap.size w w' := by
  have c := h.c65
  have hl := h.lt
  have h3 : ((d.busy.length : Int) == 2) = true := by rw [h2]; rfl
  clear h
  go_enter Try.func15, Try.ntmps15
  go_wp2
  go_ret
  exact ⟨rfl, by repeat (first | with_reducible exact Below.refl _ _ | with_reducible refine balloc ?_ _ | with_reducible refine bdrew ?_ | with_reducible refine bset' ?_ (by omega) _ | with_reducible refine bthen ?_ (by assumption))⟩
/-- What a region of the device's reads, till it stores. -/
def DBox (w' : World) (b j q : Nat) (v : Value) (r : Rq) : Prop := w'.cell? ⟨b, j, none⟩ = some v ∧ w'.frozen? ⟨b, j, none⟩ = false ∧ b < w'.heap.size ∧ q < w'.heap.size ∧ BoxAt w' q r
theorem DBox.later {w w' : World} {b j q : Nat} {v : Value} {r : Rq} (h : DBox w b j q v r) (hb : Below w.heap.size w w') : DBox w' b j q v r :=
  ⟨cellA_later hb h.1, by rw [hb.frozen (p := ⟨b, j, none⟩) h.2.2.1]; exact h.2.1, Nat.lt_of_lt_of_le h.2.2.1 hb.size, Nat.lt_of_lt_of_le h.2.2.2.1 hb.size, h.2.2.2.2.later hb⟩
theorem row_boxD {w : World} {q c : Nat} (r : Rq) (h : BoxAt w q r) : RowAt w 6 (some ⟨q, 0, none⟩) 1 c (rcells [r]) := by
  refine ⟨rfl, rcells_one _, Or.inr ⟨_, rfl, fun k u hk => ?_⟩⟩
  obtain ⟨i, j, hi, hj, rfl, rfl⟩ := rcells_inv hk
  have : i = 0 := by simp at hi; exact hi
  subst this
  rw [add_mk']
  obtain ⟨h0, h1, h2, h3, h4, h5⟩ := h
  match j, hj with
  | 0, _ => exact h0
  | 1, _ => exact h1
  | 2, _ => exact h2
  | 3, _ => exact h3
  | 4, _ => exact h4
  | 5, _ => exact h5
theorem rowAllD {w : World} {b : Nat} {d : Rd} {a : Ra} (h : RdAt b d a w) : RowAt w 6 a.la d.busy.length a.lc (rcells d.busy) := rowAll h.lrow h.lnil
set_option linter.unusedSimpArgs false in
set_option maxRecDepth 100000 in
set_option maxHeartbeats 4000000 in
theorem rstart_ok (b : Nat) (d : Rd) (a : Ra) (r : Rq) (w : World) (h : RdAt b d a w) (h2 : d.busy.length < 2) (hr : r.At w) (ho : r.Off (a.foot b)) :
    Calls Try.prog 15 #[.pointer (some ⟨b, 0, none⟩), r.val] w fun e w' => ∃ a', e = .returned (.int .i64 0) ∧ a'.wa = a.wa ∧ RStep b d a { d with busy := d.busy ++ [r] } a' w w' := by
  obtain ⟨iR, hR1, hR2, hR3, hR4⟩ := pluck infoR
  have HI := hidT (⟨hR1, hR2, hR3, hR4⟩ : Try.prog.info? 38 = some iR ∧ _ ∧ _ ∧ _)
  have c := h.c65
  have hl := h.lt
  have h3 : ((d.busy.length : Int) == 2) = false := by rw [beq_eq_false_iff_ne]; omega
  have HD := hidT h
  have HR := hidT (⟨hr, ho⟩ : r.At w ∧ r.Off (a.foot b))
  have hb0 := below1 w (.cells #[.bool r.wr, .int .i64 r.f, .int .i64 r.m, .slice r.da r.data.length r.dc, .slice r.ta r.tags.length r.tc, .int .i64 r.born] 38)
  have hS0 : DBox (w.alloc (.cells #[.bool r.wr, .int .i64 r.f, .int .i64 r.m, .slice r.da r.data.length r.dc, .slice r.ta r.tags.length r.tc, .int .i64 r.born] 38)).drew b 65 w.heap.size (.slice a.la d.busy.length a.lc) r := by
    refine DBox.later (w := w.alloc (.cells #[.bool r.wr, .int .i64 r.f, .int .i64 r.m, .slice r.da r.data.length r.dc, .slice r.ta r.tags.length r.tc, .int .i64 r.born] 38)) ⟨(h.later hb0).c65, (h.later hb0).fz 65, (h.later hb0).lt, by simp, box_new _ _ _⟩ (Below.refl _ _).drew
  have HS := hidT hS0
  have HB0 := hidT hb0
  clear h hr ho hR1 hR2 hR3 hR4 hS0 hb0
  go_enter Try.func15, Try.ntmps15
  go_wp2_with fail
  refine region_till (S := fun wz => DBox wz b 65 w.heap.size (.slice a.la d.busy.length a.lc) r) (d := 11) (by kernel_rfl) ?_
  refine till_take (i := 0) (v := ?_) rfl (by kernel_rfl) (by kernel_rfl) (by kernel_rfl) (by kernel_rfl) (fun _ _ _ h => h) (Or.inl ⟨by rfl, ?_⟩) HS.out ?_; rotate_left; (focus (intro w0 hSw; obtain ⟨q0, q1, q2, q3, s0, s1, s2, s3, s4, s5⟩ := hSw; go_simp; (try with_reducible rfl))); (try simp only [Act.put, List.getElem_toArray, List.getElem_cons_succ, List.getElem_cons_zero, List.setIfInBounds_toArray, List.set_cons_zero, List.set_cons_succ])
  refine till_take (i := 1) (v := ?_) rfl (by kernel_rfl) (by kernel_rfl) (by kernel_rfl) (by kernel_rfl) (fun _ _ _ h => h) (Or.inl ⟨by rfl, ?_⟩) HS.out ?_; rotate_left; (focus (intro w0 hSw; obtain ⟨q0, q1, q2, q3, s0, s1, s2, s3, s4, s5⟩ := hSw; go_simp; (try with_reducible rfl))); (try simp only [Act.put, List.getElem_toArray, List.getElem_cons_succ, List.getElem_cons_zero, List.setIfInBounds_toArray, List.set_cons_zero, List.set_cons_succ])
  refine till_take (i := 2) (v := ?_) rfl (by kernel_rfl) (by kernel_rfl) (by kernel_rfl) (by kernel_rfl) (fun _ _ _ h => h) (Or.inl ⟨by rfl, ?_⟩) HS.out ?_; rotate_left; (focus (intro w0 hSw; obtain ⟨q0, q1, q2, q3, s0, s1, s2, s3, s4, s5⟩ := hSw; go_simp; (try with_reducible rfl))); (try simp only [Act.put, List.getElem_toArray, List.getElem_cons_succ, List.getElem_cons_zero, List.setIfInBounds_toArray, List.set_cons_zero, List.set_cons_succ])
  refine till_take (i := 3) (v := ?_) rfl (by kernel_rfl) (by kernel_rfl) (by kernel_rfl) (by kernel_rfl) (fun _ _ _ h => h) (Or.inl ⟨by rfl, ?_⟩) HS.out ?_; rotate_left; (focus (intro w0 hSw; obtain ⟨q0, q1, q2, q3, s0, s1, s2, s3, s4, s5⟩ := hSw; go_simp; (try with_reducible rfl))); (try simp only [Act.put, List.getElem_toArray, List.getElem_cons_succ, List.getElem_cons_zero, List.setIfInBounds_toArray, List.set_cons_zero, List.set_cons_succ])
  refine till_take (i := 4) (v := ?_) rfl (by kernel_rfl) (by kernel_rfl) (by kernel_rfl) (by kernel_rfl) (fun _ _ _ h => h) (Or.inl ⟨by rfl, ?_⟩) HS.out ?_; rotate_left; (focus (intro w0 hSw; obtain ⟨q0, q1, q2, q3, s0, s1, s2, s3, s4, s5⟩ := hSw; go_simp; (try with_reducible rfl))); (try simp only [Act.put, List.getElem_toArray, List.getElem_cons_succ, List.getElem_cons_zero, List.setIfInBounds_toArray, List.set_cons_zero, List.set_cons_succ])
  refine till_take (i := 6) (v := ?_) rfl (by kernel_rfl) (by kernel_rfl) (by kernel_rfl) (by kernel_rfl) (fun _ _ _ h => h) (Or.inl ⟨by rfl, ?_⟩) HS.out ?_; rotate_left; (focus (intro w0 hSw; obtain ⟨q0, q1, q2, q3, s0, s1, s2, s3, s4, s5⟩ := hSw; go_simp; (try with_reducible rfl))); (try simp only [Act.put, List.getElem_toArray, List.getElem_cons_succ, List.getElem_cons_zero, List.setIfInBounds_toArray, List.set_cons_zero, List.set_cons_succ])
  refine till_two (i := 5) (j := 7) rfl rfl (by kernel_rfl) ?_ ?_
  · intro K hK
    refine step_rowD (by rfl) (.const (.slice none 0 0)) (.tmp 15) 30 (by rfl) (w.heap.size + 1) 38 iR _ 6 80 Try.underlying30 HI.out.1 HI.out.2.1 HI.out.2.2.1 HI.out.2.2.2 rfl (by decide) (.slice none 0 0) 0 [] (by rfl) (World.ownsRow_nil _ _ _ _) a.la d.busy.length a.lc (rcells d.busy) (by rfl) ((rowAllD HD.out).later (by repeat (first | with_reducible exact Below.refl _ _ | with_reducible refine balloc ?_ _ | with_reducible refine bdrew ?_ | with_reducible refine bset' ?_ (by omega) _ | with_reducible refine bthen ?_ (by assumption)))) (by unfold maxLen; omega) (by omega) (by simp) ?_
    intro v1 w1 hown1 hb1
    rw [Nat.zero_add, List.nil_append] at hown1
    have hB1 : Below (w.heap.size + 1) (w.alloc (.cells #[.bool r.wr, .int .i64 r.f, .int .i64 r.m, .slice r.da r.data.length r.dc, .slice r.ta r.tags.length r.tc, .int .i64 r.born] 38)).drew w1 := by simpa using hb1
    have HS1 := hidT (HS.out.later (w' := w1) (by simpa using hb1))
    have HO1 := hidT hown1
    have HB1 := hidT hB1
    clear hown1 hb1 hB1
    refine hK _ _ (fun _ => HS1.out) ?_
    (try simp only [Act.put, List.getElem_toArray, List.getElem_cons_succ, List.getElem_cons_zero, List.setIfInBounds_toArray, List.set_cons_zero, List.set_cons_succ])
    clear hK
    refine till_one (i := 7) rfl (by kernel_rfl) ?_; intro K hK; go_simp; refine hK _ _ (fun _ => HS1.out.later (below1 _ _)) ?_; (try simp only [Act.put, List.getElem_toArray, List.getElem_cons_succ, List.getElem_cons_zero, List.setIfInBounds_toArray, List.set_cons_zero, List.set_cons_succ]); clear hK
    refine till_one (i := 8) rfl (by kernel_rfl) ?_
    intro K hK
    refine step_rowD (by rfl) (.tmp 16) (.tmp 18) 30 (by rfl) (w.heap.size + 1) 38 iR _ 6 80 Try.underlying30 HI.out.1 HI.out.2.1 HI.out.2.2.1 HI.out.2.2.2 rfl (by decide) v1 d.busy.length (rcells d.busy) (by rfl) (HO1.out.alloc _) (some ⟨w1.heap.size, 0, none⟩) 1 1 (rcells [r]) (by rfl) (row_boxD r (box_new w1 _ r)) (by unfold maxLen; omega) (by omega) (by have := HB1.out.size; simp at this ⊢; omega) ?_
    intro v2 w2 hown2 hb2
    have hB2 : Below (w.heap.size + 1) (w.alloc (.cells #[.bool r.wr, .int .i64 r.f, .int .i64 r.m, .slice r.da r.data.length r.dc, .slice r.ta r.tags.length r.tc, .int .i64 r.born] 38)).drew w2 := (HB1.out.alloc (by have := HB1.out.size; simp at this ⊢; omega) _).trans hb2
    have HS2 := hidT (HS.out.later (w' := w2) (by simpa using hB2))
    have hBw : Below w.heap.size w w2 := (HB0.out.drew).trans (hB2.mono (by omega)); rw [← rcells_append] at hown2; obtain ⟨aJ, cJ, rfl, hN⟩ := newL_of_owned (l := d.busy ++ [r]) hown2 (fun x hx => by rcases List.mem_append.1 hx with hx' | hx'; exact (HD.out.lrow.2.1 x hx').later hBw; (rw [List.mem_singleton.1 hx']; exact HR.out.1.later hBw)) (by simp) (by simp; omega); have HST := hidT (HD.out.busied hBw (d.busy ++ [r]) (by simp; omega) aJ cJ hN.here hN.nil hN.cap (fun _ p hp => by have := hN.new p hp; omega) (fun x hx => by rcases List.mem_append.1 hx with hx' | hx'; exact ⟨HD.out.lrow.2.1 x hx', HD.out.reqs x hx'⟩; (rw [List.mem_singleton.1 hx']; exact HR.out))); clear hown2 hb2 hB2 hBw hN; refine hK _ _ (fun _ => HS2.out) ?_; (try simp only [Act.put, List.getElem_toArray, List.getElem_cons_succ, List.getElem_cons_zero, List.setIfInBounds_toArray, List.set_cons_zero, List.set_cons_succ]); clear hK; refine till_one (i := 9) rfl (by kernel_rfl) ?_; intro K hK; go_simp; refine hK _ _ (fun _ => HS2.out) ?_; (try simp only [Act.put, List.getElem_toArray, List.getElem_cons_succ, List.getElem_cons_zero, List.setIfInBounds_toArray, List.set_cons_zero, List.set_cons_succ]); clear hK; refine till_one (i := 10) rfl (by kernel_rfl) ?_; intro K hK; go_simp; refine hK _ _ (fun _ => HS2.out) ?_; (try simp only [Act.put, List.getElem_toArray, List.getElem_cons_succ, List.getElem_cons_zero, List.setIfInBounds_toArray, List.set_cons_zero, List.set_cons_succ]); clear hK; obtain ⟨x0, x1, x2, x3, -⟩ := id HS2.out; refine till_one (i := 11) rfl (by kernel_rfl) ?_; intro K hK; go_simp; refine hK _ _ (fun h => absurd rfl h) ?_; (try simp only [Act.put, List.getElem_toArray, List.getElem_cons_succ, List.getElem_cons_zero, List.setIfInBounds_toArray, List.set_cons_zero, List.set_cons_succ]); clear hK; refine till_done (by kernel_rfl) ?_ _; go_wp2; go_ret; exact ⟨{ a with la := aJ, lc := cJ }, rfl, rfl, by have := HST.out; rw [List.length_append, List.length_singleton] at this; exact this⟩
  · intro K hK
    go_simp
    refine hK _ _ (fun _ => HS.out.later (below1 _ _)) ?_
    (try simp only [Act.put, List.getElem_toArray, List.getElem_cons_succ, List.getElem_cons_zero, List.setIfInBounds_toArray, List.set_cons_zero, List.set_cons_succ])
    clear hK
    refine till_one (i := 5) rfl (by kernel_rfl) ?_
    intro K hK
    refine step_rowD (by rfl) (.const (.slice none 0 0)) (.tmp 15) 30 (by rfl) (w.heap.size + 2) 38 iR _ 6 80 Try.underlying30 HI.out.1 HI.out.2.1 HI.out.2.2.1 HI.out.2.2.2 rfl (by decide) (.slice none 0 0) 0 [] (by rfl) (World.ownsRow_nil _ _ _ _) a.la d.busy.length a.lc (rcells d.busy) (by rfl) ((rowAllD HD.out).later (by repeat (first | with_reducible exact Below.refl _ _ | with_reducible refine balloc ?_ _ | with_reducible refine bdrew ?_ | with_reducible refine bset' ?_ (by omega) _ | with_reducible refine bthen ?_ (by assumption)))) (by unfold maxLen; omega) (by omega) (by simp) ?_
    intro v1 w1 hown1 hb1
    rw [Nat.zero_add, List.nil_append] at hown1
    have hX1 : BoxAt w1 (w.heap.size + 1) r := by
      have := ((box_new (w.alloc (.cells #[.bool r.wr, .int .i64 r.f, .int .i64 r.m, .slice r.da r.data.length r.dc, .slice r.ta r.tags.length r.tc, .int .i64 r.born] 38)) 38 r).later (Below.refl _ _).drew).later (w' := w1) (by simpa using hb1)
      simpa using this
    have HX1 := hidT hX1
    have hB1 : Below (w.heap.size + 1) (w.alloc (.cells #[.bool r.wr, .int .i64 r.f, .int .i64 r.m, .slice r.da r.data.length r.dc, .slice r.ta r.tags.length r.tc, .int .i64 r.born] 38)).drew w1 := Below.trans ((Below.refl _ _).alloc (by simp) _) (hb1.mono (by omega))
    have HS1 := hidT (HS.out.later (w' := w1) (by simpa using hB1))
    have HO1 := hidT hown1
    have HB1 := hidT hB1
    have HBX := hidT hb1
    clear hown1 hb1 hB1 hX1
    refine hK _ _ (fun _ => HS1.out) ?_
    (try simp only [Act.put, List.getElem_toArray, List.getElem_cons_succ, List.getElem_cons_zero, List.setIfInBounds_toArray, List.set_cons_zero, List.set_cons_succ])
    clear hK
    refine till_one (i := 8) rfl (by kernel_rfl) ?_
    intro K hK
    refine step_rowD (by rfl) (.tmp 16) (.tmp 18) 30 (by rfl) (w.heap.size + 1) 38 iR _ 6 80 Try.underlying30 HI.out.1 HI.out.2.1 HI.out.2.2.1 HI.out.2.2.2 rfl (by decide) v1 d.busy.length (rcells d.busy) (by rfl) (ownsRow_le' HO1.out (by omega)) (some ⟨w.heap.size + 1, 0, none⟩) 1 1 (rcells [r]) (by rfl) (row_boxD r HX1.out) (by unfold maxLen; omega) (by omega) (by have := HB1.out.size; simp at this ⊢; omega) ?_
    intro v2 w2 hown2 hb2
    have hB2 : Below (w.heap.size + 1) (w.alloc (.cells #[.bool r.wr, .int .i64 r.f, .int .i64 r.m, .slice r.da r.data.length r.dc, .slice r.ta r.tags.length r.tc, .int .i64 r.born] 38)).drew w2 := HB1.out.trans hb2
    have HS2 := hidT (HS.out.later (w' := w2) (by simpa using hB2))
    have hBw : Below w.heap.size w w2 := (HB0.out.drew).trans (hB2.mono (by omega)); rw [← rcells_append] at hown2; obtain ⟨aJ, cJ, rfl, hN⟩ := newL_of_owned (l := d.busy ++ [r]) hown2 (fun x hx => by rcases List.mem_append.1 hx with hx' | hx'; exact (HD.out.lrow.2.1 x hx').later hBw; (rw [List.mem_singleton.1 hx']; exact HR.out.1.later hBw)) (by simp) (by simp; omega); have HST := hidT (HD.out.busied hBw (d.busy ++ [r]) (by simp; omega) aJ cJ hN.here hN.nil hN.cap (fun _ p hp => by have := hN.new p hp; omega) (fun x hx => by rcases List.mem_append.1 hx with hx' | hx'; exact ⟨HD.out.lrow.2.1 x hx', HD.out.reqs x hx'⟩; (rw [List.mem_singleton.1 hx']; exact HR.out))); clear hown2 hb2 hB2 hBw hN; refine hK _ _ (fun _ => HS2.out) ?_; (try simp only [Act.put, List.getElem_toArray, List.getElem_cons_succ, List.getElem_cons_zero, List.setIfInBounds_toArray, List.set_cons_zero, List.set_cons_succ]); clear hK; refine till_one (i := 9) rfl (by kernel_rfl) ?_; intro K hK; go_simp; refine hK _ _ (fun _ => HS2.out) ?_; (try simp only [Act.put, List.getElem_toArray, List.getElem_cons_succ, List.getElem_cons_zero, List.setIfInBounds_toArray, List.set_cons_zero, List.set_cons_succ]); clear hK; refine till_one (i := 10) rfl (by kernel_rfl) ?_; intro K hK; go_simp; refine hK _ _ (fun _ => HS2.out) ?_; (try simp only [Act.put, List.getElem_toArray, List.getElem_cons_succ, List.getElem_cons_zero, List.setIfInBounds_toArray, List.set_cons_zero, List.set_cons_succ]); clear hK; obtain ⟨x0, x1, x2, x3, -⟩ := id HS2.out; refine till_one (i := 11) rfl (by kernel_rfl) ?_; intro K hK; go_simp; refine hK _ _ (fun h => absurd rfl h) ?_; (try simp only [Act.put, List.getElem_toArray, List.getElem_cons_succ, List.getElem_cons_zero, List.setIfInBounds_toArray, List.set_cons_zero, List.set_cons_succ]); clear hK; refine till_done (by kernel_rfl) ?_ _; go_wp2; go_ret; exact ⟨{ a with la := aJ, lc := cJ }, rfl, rfl, by have := HST.out; rw [List.length_append, List.length_singleton] at this; exact this⟩
end Go.Proofs.Ythmeaclekedilac
