/- A device: End of a request that is done. -/
import Derived.Test.YthmeaclekedilacDev9
namespace Go.Proofs.Ythmeaclekedilac
open Go.RowKit Go.BigFrame
attribute [local go_sem] Later.cell Later.frozen

theorem step_call2E {P : Program} {ops : Array Oper} {o : Oper} {a : Act} {w : World} {K : Act → World → Prop} {Q : Exit → Act → World → Prop} {E : Prop}
    (hg : o.guard = none) (f : FuncId) (x1 x2 : Nat) (t1 t2 : TypeId) (hop : o.op = Op.call { callee := Callee.value (.func f), args := #[.tmp x1, .tmp x2], argTypes := #[t1, t2] }) (eg : ∀ args w, (callFunc f args).run P w = .ok (.enter f args) w)
    (v1 v2 : Value) (e1 : a.tmps[x1]?.getD undef = v1) (e2 : a.tmps[x2]?.getD undef = v2) (R : Value → World → Prop) (hc : Calls P f #[v1, v2] w fun e w' => ∃ r, e = .returned r ∧ R r w') (h : ∀ r w', R r w' → K (a.put o.dst r) w') :
    if Region.wanted o (yielded ops a.tmps) = true then Oper.wp P o a w K Q else E := by
  have hw : Region.wanted o (yielded ops a.tmps) = true := by simp [Region.wanted, hg]
  rw [if_pos hw]
  unfold Oper.wp
  simp [execOp, hop, resolve, invoke, e1, e2, eg, go_sem]
  refine hc.mono ?_
  rintro _ w' ⟨r, rfl, hs⟩
  exact h r w' hs
theorem boxSet {w : World} {q q' o : Nat} {r : Rq} {v : Value} (h : BoxAt w q r) (hn : q ≠ q') : BoxAt (w.setCell ⟨q', o, none⟩ v) q r := h.only (Only.of_set v) hn
theorem box8 {w : World} {q : Nat} {r : Rq} {v0 v1 v2 v3 v4 v5 v6 v7 : Value} (h : BoxAt w (q + 1) r) : BoxAt ((((((((w.setCell ⟨q, 0, none⟩ v0).setCell ⟨q, 1, none⟩ v1).setCell ⟨q, 2, none⟩ v2).setCell ⟨q, 3, none⟩ v3).setCell ⟨q, 4, none⟩ v4).setCell ⟨q, 5, none⟩ v5).setCell ⟨q, 6, none⟩ v6).setCell ⟨q, 7, none⟩ v7) (q + 1) r :=
  boxSet (boxSet (boxSet (boxSet (boxSet (boxSet (boxSet (boxSet h (by omega)) (by omega)) (by omega)) (by omega)) (by omega)) (by omega)) (by omega)) (by omega)

theorem Dl.writesTo_busy (d : Dl) (r : Rq) (n : Nat) : (d.writesTo r n).busy = d.busy := by
  induction n with
  | zero => rfl
  | succ n ih => rw [Dl.writesTo_succ]; exact ih
set_option linter.unusedSimpArgs false in
set_option maxRecDepth 100000 in
set_option maxHeartbeats 2000000 in
theorem end_write (b : Nat) (d : Dl) (a : An) (k : Nat) (hk : k < d.busy.length) (w : World) (h : DevAt b d a w) (gr : Good d.busy[k]) (hw : d.busy[k].wr = true) :
    Calls Try.prog 16 #[.pointer (some ⟨b, 0, none⟩), .int .i64 k, .bool false] w fun e w' => ∃ a', e = .returned (.tuple #[resV d.busy[k] none 0 0 0, .nilIface]) ∧ DStep b d a (({ d with busy := d.busy.eraseIdx k } : Dl).writesTo d.busy[k] d.busy[k].m.toNat) a' w w' := by
  have HRA := hidT (h.reqs _ (List.getElem_mem hk))
  have GR := hidT gr
  have HW := hidT hw
  clear gr hw
  have hl := h.lt; have HD := hidT h; have h0 : ¬ (k : Int) < 0 := (by omega); have h1 : ¬ (d.busy.length : Int) ≤ (k : Int) := (by omega); have h2 : (k : Int) < (d.busy.length : Int) := (by omega); have hk2 : (k : Int) ≤ 1 := (by have := h.blen; omega); have hR := h.reqsAt; have c := h.c66; obtain ⟨g, hg0, lg⟩ := h.place hk; rw [hg0] at hR c; obtain ⟨r0, r1, r2, r3, r4, r5⟩ := hR.cells hk; simp only [Nat.zero_add] at r0 r1 r2 r3 r4 r5; have HG0 := hidT hg0; clear h hR hg0
  generalize hr : d.busy[k] = r at *
  have HRR := hidT hr
  clear hr
  go_enter Try.func16, Try.ntmps16; go_wp2_with fail; have hbr := (HD.out.later (below2 w (.cells #[.bool false, .int .i64 0, .int .i64 0, .slice none 0 0, .slice none 0 0, .int .i64 0, .slice none 0 0, .int .i64 0] 49) (.cells #[.bool r.wr, .int .i64 r.f, .int .i64 r.m, .slice r.da r.data.length r.dc, .slice r.ta r.tags.length r.tc, .int .i64 r.born] 38))).brow; rw [HG0.out] at hbr; refine (delR d.busy g a.bc k _ hk hbr).mono ?_; rintro e w3 ⟨rfl, hown3, hg3⟩; have hz2 := (zero_new w 49).only (F := fun _ => False) ((Only.refl _ _).alloc (.cells #[.bool r.wr, .int .i64 r.f, .int .i64 r.m, .slice r.da r.data.length r.dc, .slice r.ta r.tags.length r.tc, .int .i64 r.born] 38)) (fun e => e); have hx2 := box_new (w.alloc (.cells #[.bool false, .int .i64 0, .int .i64 0, .slice none 0 0, .slice none 0 0, .int .i64 0, .slice none 0 0, .int .i64 0] 49)) 38 r; rw [World.size_alloc] at hx2; obtain ⟨⟨c3, f3, l3⟩, a', hst, hz4, hx4, nf6, nf8⟩ := ended HD.out hk HG0.out (below2 w _ _) hz2 hx2 hown3 hg3; clear hz2 hx2 hbr hown3 hg3 r0 r1 r2 r3 r4 r5 c
  have HST := hidT hst
  generalize hW : w3.setCell ⟨b, 66, none⟩ (.slice (some ⟨g, 0, none⟩) (d.busy.eraseIdx k).length a.bc) = w4 at *
  clear hst
  have HS : Hid (BoxAt w4.drew (w.heap.size + 1) r) := hx4; have egd : ∀ args w, Sem.run Try.prog (callFunc 57 args) w = .ok (.enter 57 args) w := (by intro args w; go_simp); go_wp2_with fail; refine region_till (S := fun wz => BoxAt wz (w.heap.size + 1) r) (d := 5) (by kernel_rfl) ?_; refine till_take (i := 0) (v := ?_) rfl (by kernel_rfl) (by kernel_rfl) (by kernel_rfl) (by kernel_rfl) (fun _ _ _ h => h) (Or.inl ⟨by rfl, ?_⟩) HS.out ?_; rotate_left; (focus (intro w0 hSw; obtain ⟨s0, s1, s2, s3, s4, s5⟩ := hSw; go_simp; (try with_reducible rfl))); (try simp only [Act.put, List.getElem_toArray, List.getElem_cons_succ, List.getElem_cons_zero, List.setIfInBounds_toArray, List.set_cons_zero, List.set_cons_succ]); refine till_take (i := 1) (v := ?_) rfl (by kernel_rfl) (by kernel_rfl) (by kernel_rfl) (by kernel_rfl) (fun _ _ _ h => h) (Or.inl ⟨by rfl, ?_⟩) HS.out ?_; rotate_left; (focus (intro w0 hSw; obtain ⟨s0, s1, s2, s3, s4, s5⟩ := hSw; go_simp; (try with_reducible rfl))); (try simp only [Act.put, List.getElem_toArray, List.getElem_cons_succ, List.getElem_cons_zero, List.setIfInBounds_toArray, List.set_cons_zero, List.set_cons_succ]); refine till_take (i := 2) (v := ?_) rfl (by kernel_rfl) (by kernel_rfl) (by kernel_rfl) (by kernel_rfl) (fun _ _ _ h => h) (Or.inl ⟨by rfl, ?_⟩) HS.out ?_; rotate_left; (focus (intro w0 hSw; obtain ⟨s0, s1, s2, s3, s4, s5⟩ := hSw; go_simp; (try with_reducible rfl))); (try simp only [Act.put, List.getElem_toArray, List.getElem_cons_succ, List.getElem_cons_zero, List.setIfInBounds_toArray, List.set_cons_zero, List.set_cons_succ]); refine till_one (i := 3) rfl (by kernel_rfl) ?_; intro K hK
  refine step_call2E rfl 57 44 45 25 38 rfl egd (.pointer (some ⟨b, 0, none⟩)) r.val rfl rfl (fun v w5 => v = .slice none 0 0 ∧ ∃ a5, DStep b { d with busy := d.busy.eraseIdx k } a' (({ d with busy := d.busy.eraseIdx k } : Dl).writesTo r r.m.toNat) a5 w4.drew w5) ((do_write b _ a' r _ (HST.out.dev.later (Below.refl _ _).drew) GR.out HW.out ((HRA.out.1.frame HRA.out.2 HST.out.only).later (Below.refl _ _).drew) (HRA.out.2.step HRA.out.1 HST.out.foot)).mono fun e w' ⟨a5, he, hs⟩ => ⟨_, he, rfl, a5, hs⟩) ?_
  rintro v w5 ⟨rfl, a5, hst5⟩
  have hz5 := (hz4.only (F := fun _ => False) (Only.refl _ w4).drew (fun e => e)).only hst5.only nf6
  have HX5 := hidT (HS.out.only hst5.only nf8)
  have HST5 := hidT (HST.out.drewAt.trans hst5)
  have nf6' : ¬ a5.foot b w.heap.size := fun e => (hst5.foot _ e).elim nf6 (fun h' => by have := hz4.2.2; simp at h'; omega)
  refine hK _ _ (fun _ => HX5.out) ?_
  (try simp only [Act.put, List.getElem_toArray, List.getElem_cons_succ, List.getElem_cons_zero, List.setIfInBounds_toArray, List.set_cons_zero, List.set_cons_succ])
  clear hK hst5 hz4
  obtain ⟨⟨z0, z1, z2, z3, z4, z5, z6, z7⟩, zf, zl⟩ := hz5; refine till_one (i := 4) rfl (by kernel_rfl) ?_; intro K hK; go_simp; refine hK _ _ (fun _ => HX5.out) ?_; (try simp only [Act.put, List.getElem_toArray, List.getElem_cons_succ, List.getElem_cons_zero, List.setIfInBounds_toArray, List.set_cons_zero, List.set_cons_succ]); clear hK; refine till_one (i := 5) rfl (by kernel_rfl) ?_; intro K hK; go_simp; refine hK _ _ (fun h => absurd rfl h) ?_; (try simp only [Act.put, List.getElem_toArray, List.getElem_cons_succ, List.getElem_cons_zero, List.setIfInBounds_toArray, List.set_cons_zero, List.set_cons_succ]); clear hK; refine till_one (i := 6) rfl (by kernel_rfl) ?_; intro K hK; go_simp; refine hK _ _ (fun _ => box8 HX5.out) ?_; (try simp only [Act.put, List.getElem_toArray, List.getElem_cons_succ, List.getElem_cons_zero, List.setIfInBounds_toArray, List.set_cons_zero, List.set_cons_succ]); clear hK; refine till_done (by kernel_rfl) ?_ _; go_wp2
  refine bodyPost_ret (v := .tuple #[resV r none 0 0 0, .nilIface]) (by simp [results, Try.results16, go_sem, z0, z1, z2, z3, z4, z5, z6, z7]) rfl ⟨a5, rfl, ?_⟩
  repeat (first | with_reducible exact HST5.out | with_reducible refine DStep.setNew ?_ HD.out (fun q hq => List.mem_of_mem_eraseIdx (by rw [Dl.writesTo_busy] at hq; exact hq)) (Nat.le_refl _) nf6' _ _ | with_reducible refine DStep.drewAt ?_)

theorem strs_set {w : World} {q o : Nat} {v : Value} {xa : Option Addr} {xs : List ByteArray} (h : StrsAt w xa xs) (hn : ∀ ad, xa = some ad → ad.block ≠ q) : StrsAt (w.setCell ⟨q, o, none⟩ v) xa xs := strs_frame h (Only.of_set v) (fun _ ad ha => hn ad ha)
set_option linter.unusedSimpArgs false in
set_option maxRecDepth 100000 in
set_option maxHeartbeats 2000000 in
theorem end_read (b : Nat) (d : Dl) (a : An) (k : Nat) (hk : k < d.busy.length) (w : World) (h : DevAt b d a w) (gr : Good d.busy[k]) (hw : d.busy[k].wr = false) :
    Calls Try.prog 16 #[.pointer (some ⟨b, 0, none⟩), .int .i64 k, .bool false] w fun e w' => ∃ a' xa xc, e = .returned (.tuple #[resV d.busy[k] xa (readTo d d.busy[k].f.toNat d.busy[k].m.toNat).length xc 0, .nilIface]) ∧ StrsAt w' xa (readTo d d.busy[k].f.toNat d.busy[k].m.toNat) ∧ (xa = none → xc = 0) ∧ (∀ ad, xa = some ad → w.heap.size ≤ ad.block ∧ ¬ a'.foot b ad.block) ∧ DStep b d a { d with busy := d.busy.eraseIdx k } a' w w' := by
  have HRA := hidT (h.reqs _ (List.getElem_mem hk))
  have GR := hidT gr
  have HW := hidT hw
  clear gr hw
  have hl := h.lt; have HD := hidT h; have h0 : ¬ (k : Int) < 0 := (by omega); have h1 : ¬ (d.busy.length : Int) ≤ (k : Int) := (by omega); have h2 : (k : Int) < (d.busy.length : Int) := (by omega); have hk2 : (k : Int) ≤ 1 := (by have := h.blen; omega); have hR := h.reqsAt; have c := h.c66; obtain ⟨g, hg0, lg⟩ := h.place hk; rw [hg0] at hR c; obtain ⟨r0, r1, r2, r3, r4, r5⟩ := hR.cells hk; simp only [Nat.zero_add] at r0 r1 r2 r3 r4 r5; have HG0 := hidT hg0; clear h hR hg0
  generalize hr : d.busy[k] = r at *
  have HRR := hidT hr
  clear hr
  go_enter Try.func16, Try.ntmps16; go_wp2_with fail; have hbr := (HD.out.later (below2 w (.cells #[.bool false, .int .i64 0, .int .i64 0, .slice none 0 0, .slice none 0 0, .int .i64 0, .slice none 0 0, .int .i64 0] 49) (.cells #[.bool r.wr, .int .i64 r.f, .int .i64 r.m, .slice r.da r.data.length r.dc, .slice r.ta r.tags.length r.tc, .int .i64 r.born] 38))).brow; rw [HG0.out] at hbr; refine (delR d.busy g a.bc k _ hk hbr).mono ?_; rintro e w3 ⟨rfl, hown3, hg3⟩; have hz2 := (zero_new w 49).only (F := fun _ => False) ((Only.refl _ _).alloc (.cells #[.bool r.wr, .int .i64 r.f, .int .i64 r.m, .slice r.da r.data.length r.dc, .slice r.ta r.tags.length r.tc, .int .i64 r.born] 38)) (fun e => e); have hx2 := box_new (w.alloc (.cells #[.bool false, .int .i64 0, .int .i64 0, .slice none 0 0, .slice none 0 0, .int .i64 0, .slice none 0 0, .int .i64 0] 49)) 38 r; rw [World.size_alloc] at hx2; obtain ⟨⟨c3, f3, l3⟩, a', hst, hz4, hx4, nf6, nf8⟩ := ended HD.out hk HG0.out (below2 w _ _) hz2 hx2 hown3 hg3; clear hz2 hx2 hbr hown3 hg3 r0 r1 r2 r3 r4 r5 c
  have HST := hidT hst
  generalize hW : w3.setCell ⟨b, 66, none⟩ (.slice (some ⟨g, 0, none⟩) (d.busy.eraseIdx k).length a.bc) = w4 at *
  clear hst
  have HS : Hid (BoxAt w4.drew (w.heap.size + 1) r) := hx4; have egd : ∀ args w, Sem.run Try.prog (callFunc 57 args) w = .ok (.enter 57 args) w := (by intro args w; go_simp); go_wp2_with fail; refine region_till (S := fun wz => BoxAt wz (w.heap.size + 1) r) (d := 5) (by kernel_rfl) ?_; refine till_take (i := 0) (v := ?_) rfl (by kernel_rfl) (by kernel_rfl) (by kernel_rfl) (by kernel_rfl) (fun _ _ _ h => h) (Or.inl ⟨by rfl, ?_⟩) HS.out ?_; rotate_left; (focus (intro w0 hSw; obtain ⟨s0, s1, s2, s3, s4, s5⟩ := hSw; go_simp; (try with_reducible rfl))); (try simp only [Act.put, List.getElem_toArray, List.getElem_cons_succ, List.getElem_cons_zero, List.setIfInBounds_toArray, List.set_cons_zero, List.set_cons_succ]); refine till_take (i := 1) (v := ?_) rfl (by kernel_rfl) (by kernel_rfl) (by kernel_rfl) (by kernel_rfl) (fun _ _ _ h => h) (Or.inl ⟨by rfl, ?_⟩) HS.out ?_; rotate_left; (focus (intro w0 hSw; obtain ⟨s0, s1, s2, s3, s4, s5⟩ := hSw; go_simp; (try with_reducible rfl))); (try simp only [Act.put, List.getElem_toArray, List.getElem_cons_succ, List.getElem_cons_zero, List.setIfInBounds_toArray, List.set_cons_zero, List.set_cons_succ]); refine till_take (i := 2) (v := ?_) rfl (by kernel_rfl) (by kernel_rfl) (by kernel_rfl) (by kernel_rfl) (fun _ _ _ h => h) (Or.inl ⟨by rfl, ?_⟩) HS.out ?_; rotate_left; (focus (intro w0 hSw; obtain ⟨s0, s1, s2, s3, s4, s5⟩ := hSw; go_simp; (try with_reducible rfl))); (try simp only [Act.put, List.getElem_toArray, List.getElem_cons_succ, List.getElem_cons_zero, List.setIfInBounds_toArray, List.set_cons_zero, List.set_cons_succ]); refine till_one (i := 3) rfl (by kernel_rfl) ?_; intro K hK
  refine step_call2E rfl 57 44 45 25 38 rfl egd (.pointer (some ⟨b, 0, none⟩)) r.val rfl rfl (fun v w5 => ∃ xa xc, v = .slice xa (readTo d r.f.toNat r.m.toNat).length xc ∧ StrsAt w5 xa (readTo d r.f.toNat r.m.toNat) ∧ (xa = none → xc = 0) ∧ (∀ ad, xa = some ad → w4.heap.size ≤ ad.block) ∧ Below w4.heap.size w4.drew w5) ((do_read b _ a' r _ (HST.out.dev.later (Below.refl _ _).drew) GR.out HW.out).mono fun e w' ⟨xa, xc, he, h1, h2, h3, h4⟩ => ⟨_, he, xa, xc, rfl, h1, h2, h3, h4⟩) ?_
  rintro v w5 ⟨xa, xc, rfl, hxs, hxn, hxb, hb5⟩
  have hz5 := hz4.only (F := fun _ => False) (Only.of_below ((Below.refl w4.heap.size w4).drew.trans hb5)) (fun e => e)
  have HX5 := hidT (HS.out.later hb5)
  have HST5 := hidT (HST.out.drewAt.later hb5)
  have HXB := hidT (⟨hxs, hxn, hxb⟩ : _ ∧ _ ∧ _)
  have zl4 := hz4.2.2
  refine hK _ _ (fun _ => HX5.out) ?_
  (try simp only [Act.put, List.getElem_toArray, List.getElem_cons_succ, List.getElem_cons_zero, List.setIfInBounds_toArray, List.set_cons_zero, List.set_cons_succ])
  clear hK hz4 hxs hxn hxb hb5
  obtain ⟨⟨z0, z1, z2, z3, z4, z5, z6, z7⟩, zf, zl⟩ := hz5; refine till_one (i := 4) rfl (by kernel_rfl) ?_; intro K hK; go_simp; refine hK _ _ (fun _ => HX5.out) ?_; (try simp only [Act.put, List.getElem_toArray, List.getElem_cons_succ, List.getElem_cons_zero, List.setIfInBounds_toArray, List.set_cons_zero, List.set_cons_succ]); clear hK; refine till_one (i := 5) rfl (by kernel_rfl) ?_; intro K hK; go_simp; refine hK _ _ (fun h => absurd rfl h) ?_; (try simp only [Act.put, List.getElem_toArray, List.getElem_cons_succ, List.getElem_cons_zero, List.setIfInBounds_toArray, List.set_cons_zero, List.set_cons_succ]); clear hK; refine till_one (i := 6) rfl (by kernel_rfl) ?_; intro K hK; go_simp; refine hK _ _ (fun _ => box8 HX5.out) ?_; (try simp only [Act.put, List.getElem_toArray, List.getElem_cons_succ, List.getElem_cons_zero, List.setIfInBounds_toArray, List.set_cons_zero, List.set_cons_succ]); clear hK; refine till_done (by kernel_rfl) ?_ _; go_wp2
  obtain ⟨hxs, hxn, hxb⟩ := HXB.out
  refine bodyPost_ret (v := .tuple #[resV r xa (readTo d r.f.toNat r.m.toNat).length xc 0, .nilIface]) (by simp [results, Try.results16, go_sem, z0, z1, z2, z3, z4, z5, z6, z7]) rfl ⟨a', xa, xc, rfl, ?_, hxn, fun ad had => ⟨by have := hxb ad had; omega, fun e => ?_⟩, ?_⟩
  · repeat (first | with_reducible exact hxs | with_reducible refine strs_set ?_ (fun ad had => by have := hxb ad had; omega))
  · have h1 := HST.out.dev.footLt _ e
    have h2 := hxb ad had
    omega
  · repeat (first | with_reducible exact HST5.out | with_reducible refine DStep.setNew ?_ HD.out (fun q hq => List.mem_of_mem_eraseIdx hq) (Nat.le_refl _) nf6 _ _ | with_reducible refine DStep.drewAt ?_)
end Go.Proofs.Ythmeaclekedilac
