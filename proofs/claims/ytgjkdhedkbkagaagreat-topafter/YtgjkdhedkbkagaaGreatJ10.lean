/- A device: End of a request that is done. -/
import Derived.Test.YtgjkdhedkbkagaaGreatJ9
import Derived.Test.YtgjkdhedkbkagaaGreatJ1
import Derived.Test.YtgjkdhedkbkagaaGreatJ2
import Derived.Test.YtgjkdhedkbkagaaGreatJ4
namespace Go.Proofs.YtgjkdhedkbkagaaGreat
open Go.RowKit Go.BigFrame
set_option maxRecDepth 100000
attribute [local go_sem] Later.cell Later.frozen

theorem step_call2E {P : Program} {ops : Array Oper} {o : Oper} {a : Act} {w : World} {K : Act → World → Prop} {Q : Exit → Act → World → Prop} {E : Prop}
    (hg : o.guard = none) (f : FuncId) (x1 x2 : Nat) (t1 t2 : TypeId) (hop : o.op = Op.call { callee := Callee.value (.func f), args := #[.tmp x1, .tmp x2], argTypes := #[t1, t2] }) (eg : ∀ args w, (callFunc f args).run P w = .ok (.enter f args) w)
    (v1 v2 : Value) (e1 : a.tmps[x1]?.getD undef = v1) (e2 : a.tmps[x2]?.getD undef = v2) (R : Value → World → Prop) (hc : Calls P f #[v1, v2] w fun e w' => ∃ r, e = .returned r ∧ R r w') (h : ∀ r w', R r w' → K (a.put o.dst r) w') :
    if Region.wanted o (yielded ops a.tmps) = true then Oper.wp P o a w K Q else E := by
  have hw : Region.wanted o (yielded ops a.tmps) = true := by simp [Region.wanted, hg]
  rw [if_pos hw]
  unfold Oper.wp
  simp [execOp, hop, resolve, invoke, e1, e2, eg, go_sem]
  refine hc.mono ?_
  rintro _ w' ⟨r, rfl, hs⟩
  exact h r w' hs
theorem boxSet {w : World} {q q' o : Nat} {r : Rq} {v : Value} (h : BoxAt w q r) (hn : q ≠ q') : BoxAt (w.setCell ⟨q', o, none⟩ v) q r := h.only (Only.of_set v) hn
theorem box8 {w : World} {q : Nat} {r : Rq} {v0 v1 v2 v3 v4 v5 v6 v7 : Value} (h : BoxAt w (q + 1) r) : BoxAt ((((((((w.setCell ⟨q, 0, none⟩ v0).setCell ⟨q, 1, none⟩ v1).setCell ⟨q, 2, none⟩ v2).setCell ⟨q, 3, none⟩ v3).setCell ⟨q, 4, none⟩ v4).setCell ⟨q, 5, none⟩ v5).setCell ⟨q, 6, none⟩ v6).setCell ⟨q, 7, none⟩ v7) (q + 1) r :=
  boxSet (boxSet (boxSet (boxSet (boxSet (boxSet (boxSet (boxSet h (by omega)) (by omega)) (by omega)) (by omega)) (by omega)) (by omega)) (by omega)) (by omega)

theorem Dl.writesTo_busy (d : Dl) (r : Rq) (n : Nat) : (d.writesTo r n).busy = d.busy := by
  induction n with
  | zero => rfl
  | succ n ih => rw [Dl.writesTo_succ]; exact ih
set_option linter.unusedSimpArgs false in
set_option maxRecDepth 100000 in
set_option maxHeartbeats 2000000 in
theorem end_write (b : Nat) (d : Dl) (a : An) (k : Nat) (hk : k < d.busy.length) (w : World) (h : DevAt b d a w) (gr : Good d.busy[k]) (hw : d.busy[k].wr = true) :
    Calls Tryz.prog 82 #[.pointer (some ⟨b, 0, none⟩), .int .i64 k, .bool false] w fun e w' => ∃ a', e = .returned (.tuple #[resV d.busy[k] none 0 0 0, .nilIface]) ∧ DStep b d a (({ d with busy := d.busy.eraseIdx k } : Dl).writesTo d.busy[k] d.busy[k].m.toNat) a' w w' := by
  have HRA := hidT (h.reqs _ (List.getElem_mem hk))
  have GR := hidT gr
  have HW := hidT hw
  clear gr hw
  have hl := h.lt; have HD := hidT h; have h0 : ¬ (k : Int) < 0 := (by omega); have h1 : ¬ (d.busy.length : Int) ≤ (k : Int) := (by omega); have h2 : (k : Int) < (d.busy.length : Int) := (by omega); have hk2 : (k : Int) ≤ 1 := (by have := h.blen; omega); have hR := h.reqsAt; have c := h.c66; obtain ⟨g, hg0, lg⟩ := h.place hk; rw [hg0] at hR c; obtain ⟨r0, r1, r2, r3, r4, r5⟩ := hR.cells hk; simp only [Nat.zero_add] at r0 r1 r2 r3 r4 r5; have HG0 := hidT hg0; clear h hR hg0
  generalize hr : d.busy[k] = r at *
  have HRR := hidT hr
  clear hr
  go_enter Tryz.func82, Tryz.ntmps82; go_wp2_with fail; have hbr := (HD.out.later (below2 w (.cells #[.bool false, .int .i64 0, .int .i64 0, .slice none 0 0, .slice none 0 0, .int .i64 0, .slice none 0 0, .int .i64 0] 110) (.cells #[.bool r.wr, .int .i64 r.f, .int .i64 r.m, .slice r.da r.data.length r.dc, .slice r.ta r.tags.length r.tc, .int .i64 r.born] 44))).brow; rw [HG0.out] at hbr; refine (delR d.busy g a.bc k _ hk hbr).mono ?_; rintro e w3 ⟨rfl, hown3, hg3⟩; have hz2 := (zero_new w 110).only (F := fun _ => False) ((Only.refl _ _).alloc (.cells #[.bool r.wr, .int .i64 r.f, .int .i64 r.m, .slice r.da r.data.length r.dc, .slice r.ta r.tags.length r.tc, .int .i64 r.born] 44)) (fun e => e); have hx2 := box_new (w.alloc (.cells #[.bool false, .int .i64 0, .int .i64 0, .slice none 0 0, .slice none 0 0, .int .i64 0, .slice none 0 0, .int .i64 0] 110)) 44 r; rw [World.size_alloc] at hx2; obtain ⟨⟨c3, f3, l3⟩, a', hst, hz4, hx4, nf6, nf8⟩ := ended HD.out hk HG0.out (below2 w _ _) hz2 hx2 hown3 hg3; clear hz2 hx2 hbr hown3 hg3 r0 r1 r2 r3 r4 r5 c
  have HST := hidT hst
  generalize hW : w3.setCell ⟨b, 66, none⟩ (.slice (some ⟨g, 0, none⟩) (d.busy.eraseIdx k).length a.bc) = w4 at *
  clear hst
  have HS : Hid (BoxAt w4.drew (w.heap.size + 1) r) := hx4; have egd : ∀ args w, Sem.run Tryz.prog (callFunc 108 args) w = .ok (.enter 108 args) w := (by intro args w; go_simp); go_wp2_with fail; refine region_till (S := fun wz => BoxAt wz (w.heap.size + 1) r) (d := 5) (by kernel_rfl) ?_; refine till_take (i := 0) (v := ?_) rfl (by kernel_rfl) (by kernel_rfl) (by kernel_rfl) (by kernel_rfl) (fun _ _ _ h => h) (Or.inl ⟨by rfl, ?_⟩) HS.out ?_; rotate_left; (focus (intro w0 hSw; obtain ⟨s0, s1, s2, s3, s4, s5⟩ := hSw; go_simp; (try with_reducible rfl))); (try simp only [Act.put, List.getElem_toArray, List.getElem_cons_succ, List.getElem_cons_zero, List.setIfInBounds_toArray, List.set_cons_zero, List.set_cons_succ]); refine till_take (i := 1) (v := ?_) rfl (by kernel_rfl) (by kernel_rfl) (by kernel_rfl) (by kernel_rfl) (fun _ _ _ h => h) (Or.inl ⟨by rfl, ?_⟩) HS.out ?_; rotate_left; (focus (intro w0 hSw; obtain ⟨s0, s1, s2, s3, s4, s5⟩ := hSw; go_simp; (try with_reducible rfl))); (try simp only [Act.put, List.getElem_toArray, List.getElem_cons_succ, List.getElem_cons_zero, List.setIfInBounds_toArray, List.set_cons_zero, List.set_cons_succ]); refine till_take (i := 2) (v := ?_) rfl (by kernel_rfl) (by kernel_rfl) (by kernel_rfl) (by kernel_rfl) (fun _ _ _ h => h) (Or.inl ⟨by rfl, ?_⟩) HS.out ?_; rotate_left; (focus (intro w0 hSw; obtain ⟨s0, s1, s2, s3, s4, s5⟩ := hSw; go_simp; (try with_reducible rfl))); (try simp only [Act.put, List.getElem_toArray, List.getElem_cons_succ, List.getElem_cons_zero, List.setIfInBounds_toArray, List.set_cons_zero, List.set_cons_succ]); refine till_one (i := 3) rfl (by kernel_rfl) ?_; intro K hK
  refine step_call2E rfl 108 44 45 27 44 rfl egd (.pointer (some ⟨b, 0, none⟩)) r.val rfl rfl (fun v w5 => v = .slice none 0 0 ∧ ∃ a5, DStep b { d with busy := d.busy.eraseIdx k } a' (({ d with busy := d.busy.eraseIdx k } : Dl).writesTo r r.m.toNat) a5 w4.drew w5) ((do_write b _ a' r _ (HST.out.dev.later (Below.refl _ _).drew) GR.out HW.out ((HRA.out.1.frame HRA.out.2 HST.out.only).later (Below.refl _ _).drew) (HRA.out.2.step HRA.out.1 HST.out.foot)).mono fun e w' ⟨a5, he, hs⟩ => ⟨_, he, rfl, a5, hs⟩) ?_
  rintro v w5 ⟨rfl, a5, hst5⟩
  have hz5 := (hz4.only (F := fun _ => False) (Only.refl _ w4).drew (fun e => e)).only hst5.only nf6
  have HX5 := hidT (HS.out.only hst5.only nf8)
  have HST5 := hidT (HST.out.drewAt.trans hst5)
  have nf6' : ¬ a5.foot b w.heap.size := fun e => (hst5.foot _ e).elim nf6 (fun h' => by have := hz4.2.2; simp at h'; omega)
  refine hK _ _ (fun _ => HX5.out) ?_
  (try simp only [Act.put, List.getElem_toArray, List.getElem_cons_succ, List.getElem_cons_zero, List.setIfInBounds_toArray, List.set_cons_zero, List.set_cons_succ])
  clear hK hst5 hz4
  obtain ⟨⟨z0, z1, z2, z3, z4, z5, z6, z7⟩, zf, zl⟩ := hz5; refine till_one (i := 4) rfl (by kernel_rfl) ?_; intro K hK; go_simp; refine hK _ _ (fun _ => HX5.out) ?_; (try simp only [Act.put, List.getElem_toArray, List.getElem_cons_succ, List.getElem_cons_zero, List.setIfInBounds_toArray, List.set_cons_zero, List.set_cons_succ]); clear hK; refine till_one (i := 5) rfl (by kernel_rfl) ?_; intro K hK; go_simp; refine hK _ _ (fun h => absurd rfl h) ?_; (try simp only [Act.put, List.getElem_toArray, List.getElem_cons_succ, List.getElem_cons_zero, List.setIfInBounds_toArray, List.set_cons_zero, List.set_cons_succ]); clear hK; refine till_one (i := 6) rfl (by kernel_rfl) ?_; intro K hK; go_simp; refine hK _ _ (fun _ => box8 HX5.out) ?_; (try simp only [Act.put, List.getElem_toArray, List.getElem_cons_succ, List.getElem_cons_zero, List.setIfInBounds_toArray, List.set_cons_zero, List.set_cons_succ]); clear hK; refine till_done (by kernel_rfl) ?_ _; go_wp2
  refine bodyPost_ret (v := .tuple #[resV r none 0 0 0, .nilIface]) (by simp [results, Tryz.results82, go_sem, z0, z1, z2, z3, z4, z5, z6, z7]) rfl ⟨a5, rfl, ?_⟩
  repeat (first | with_reducible exact HST5.out | with_reducible refine DStep.setNew ?_ HD.out (fun q hq => List.mem_of_mem_eraseIdx (by rw [Dl.writesTo_busy] at hq; exact hq)) (Nat.le_refl _) nf6' _ _ | with_reducible refine DStep.drewAt ?_)

theorem strs_set {w : World} {q o : Nat} {v : Value} {xa : Option Addr} {xs : List ByteArray} (h : StrsAt w xa xs) (hn : ∀ ad, xa = some ad → ad.block ≠ q) : StrsAt (w.setCell ⟨q, o, none⟩ v) xa xs := strs_frame h (Only.of_set v) (fun _ ad ha => hn ad ha)
set_option linter.unusedSimpArgs false in
set_option maxRecDepth 100000 in
set_option maxHeartbeats 2000000 in
theorem end_read (b : Nat) (d : Dl) (a : An) (k : Nat) (hk : k < d.busy.length) (w : World) (h : DevAt b d a w) (gr : Good d.busy[k]) (hw : d.busy[k].wr = false) :
    Calls Tryz.prog 82 #[.pointer (some ⟨b, 0, none⟩), .int .i64 k, .bool false] w fun e w' => ∃ a' xa xc, e = .returned (.tuple #[resV d.busy[k] xa (readTo d d.busy[k].f.toNat d.busy[k].m.toNat).length xc 0, .nilIface]) ∧ StrsAt w' xa (readTo d d.busy[k].f.toNat d.busy[k].m.toNat) ∧ (xa = none → xc = 0) ∧ (∀ ad, xa = some ad → w.heap.size ≤ ad.block ∧ ¬ a'.foot b ad.block) ∧ DStep b d a { d with busy := d.busy.eraseIdx k } a' w w' := by
  have HRA := hidT (h.reqs _ (List.getElem_mem hk))
  have GR := hidT gr
  have HW := hidT hw
  clear gr hw
  have hl := h.lt; have HD := hidT h; have h0 : ¬ (k : Int) < 0 := (by omega); have h1 : ¬ (d.busy.length : Int) ≤ (k : Int) := (by omega); have h2 : (k : Int) < (d.busy.length : Int) := (by omega); have hk2 : (k : Int) ≤ 1 := (by have := h.blen; omega); have hR := h.reqsAt; have c := h.c66; obtain ⟨g, hg0, lg⟩ := h.place hk; rw [hg0] at hR c; obtain ⟨r0, r1, r2, r3, r4, r5⟩ := hR.cells hk; simp only [Nat.zero_add] at r0 r1 r2 r3 r4 r5; have HG0 := hidT hg0; clear h hR hg0
  generalize hr : d.busy[k] = r at *
  have HRR := hidT hr
  clear hr
  go_enter Tryz.func82, Tryz.ntmps82; go_wp2_with fail; have hbr := (HD.out.later (below2 w (.cells #[.bool false, .int .i64 0, .int .i64 0, .slice none 0 0, .slice none 0 0, .int .i64 0, .slice none 0 0, .int .i64 0] 110) (.cells #[.bool r.wr, .int .i64 r.f, .int .i64 r.m, .slice r.da r.data.length r.dc, .slice r.ta r.tags.length r.tc, .int .i64 r.born] 44))).brow; rw [HG0.out] at hbr; refine (delR d.busy g a.bc k _ hk hbr).mono ?_; rintro e w3 ⟨rfl, hown3, hg3⟩; have hz2 := (zero_new w 110).only (F := fun _ => False) ((Only.refl _ _).alloc (.cells #[.bool r.wr, .int .i64 r.f, .int .i64 r.m, .slice r.da r.data.length r.dc, .slice r.ta r.tags.length r.tc, .int .i64 r.born] 44)) (fun e => e); have hx2 := box_new (w.alloc (.cells #[.bool false, .int .i64 0, .int .i64 0, .slice none 0 0, .slice none 0 0, .int .i64 0, .slice none 0 0, .int .i64 0] 110)) 44 r; rw [World.size_alloc] at hx2; obtain ⟨⟨c3, f3, l3⟩, a', hst, hz4, hx4, nf6, nf8⟩ := ended HD.out hk HG0.out (below2 w _ _) hz2 hx2 hown3 hg3; clear hz2 hx2 hbr hown3 hg3 r0 r1 r2 r3 r4 r5 c
  have HST := hidT hst
  generalize hW : w3.setCell ⟨b, 66, none⟩ (.slice (some ⟨g, 0, none⟩) (d.busy.eraseIdx k).length a.bc) = w4 at *
  clear hst
  have HS : Hid (BoxAt w4.drew (w.heap.size + 1) r) := hx4; have egd : ∀ args w, Sem.run Tryz.prog (callFunc 108 args) w = .ok (.enter 108 args) w := (by intro args w; go_simp); go_wp2_with fail; refine region_till (S := fun wz => BoxAt wz (w.heap.size + 1) r) (d := 5) (by kernel_rfl) ?_; refine till_take (i := 0) (v := ?_) rfl (by kernel_rfl) (by kernel_rfl) (by kernel_rfl) (by kernel_rfl) (fun _ _ _ h => h) (Or.inl ⟨by rfl, ?_⟩) HS.out ?_; rotate_left; (focus (intro w0 hSw; obtain ⟨s0, s1, s2, s3, s4, s5⟩ := hSw; go_simp; (try with_reducible rfl))); (try simp only [Act.put, List.getElem_toArray, List.getElem_cons_succ, List.getElem_cons_zero, List.setIfInBounds_toArray, List.set_cons_zero, List.set_cons_succ]); refine till_take (i := 1) (v := ?_) rfl (by kernel_rfl) (by kernel_rfl) (by kernel_rfl) (by kernel_rfl) (fun _ _ _ h => h) (Or.inl ⟨by rfl, ?_⟩) HS.out ?_; rotate_left; (focus (intro w0 hSw; obtain ⟨s0, s1, s2, s3, s4, s5⟩ := hSw; go_simp; (try with_reducible rfl))); (try simp only [Act.put, List.getElem_toArray, List.getElem_cons_succ, List.getElem_cons_zero, List.setIfInBounds_toArray, List.set_cons_zero, List.set_cons_succ]); refine till_take (i := 2) (v := ?_) rfl (by kernel_rfl) (by kernel_rfl) (by kernel_rfl) (by kernel_rfl) (fun _ _ _ h => h) (Or.inl ⟨by rfl, ?_⟩) HS.out ?_; rotate_left; (focus (intro w0 hSw; obtain ⟨s0, s1, s2, s3, s4, s5⟩ := hSw; go_simp; (try with_reducible rfl))); (try simp only [Act.put, List.getElem_toArray, List.getElem_cons_succ, List.getElem_cons_zero, List.setIfInBounds_toArray, List.set_cons_zero, List.set_cons_succ]); refine till_one (i := 3) rfl (by kernel_rfl) ?_; intro K hK
  refine step_call2E rfl 108 44 45 27 44 rfl egd (.pointer (some ⟨b, 0, none⟩)) r.val rfl rfl (fun v w5 => ∃ xa xc, v = .slice xa (readTo d r.f.toNat r.m.toNat).length xc ∧ StrsAt w5 xa (readTo d r.f.toNat r.m.toNat) ∧ (xa = none → xc = 0) ∧ (∀ ad, xa = some ad → w4.heap.size ≤ ad.block) ∧ Below w4.heap.size w4.drew w5) ((do_read b _ a' r _ (HST.out.dev.later (Below.refl _ _).drew) GR.out HW.out).mono fun e w' ⟨xa, xc, he, h1, h2, h3, h4⟩ => ⟨_, he, xa, xc, rfl, h1, h2, h3, h4⟩) ?_
  rintro v w5 ⟨xa, xc, rfl, hxs, hxn, hxb, hb5⟩
  have hz5 := hz4.only (F := fun _ => False) (Only.of_below ((Below.refl w4.heap.size w4).drew.trans hb5)) (fun e => e)
  have HX5 := hidT (HS.out.later hb5)
  have HST5 := hidT (HST.out.drewAt.later hb5)
  have HXB := hidT (⟨hxs, hxn, hxb⟩ : _ ∧ _ ∧ _)
  have zl4 := hz4.2.2
  refine hK _ _ (fun _ => HX5.out) ?_
  (try simp only [Act.put, List.getElem_toArray, List.getElem_cons_succ, List.getElem_cons_zero, List.setIfInBounds_toArray, List.set_cons_zero, List.set_cons_succ])
  clear hK hz4 hxs hxn hxb hb5
  obtain ⟨⟨z0, z1, z2, z3, z4, z5, z6, z7⟩, zf, zl⟩ := hz5; refine till_one (i := 4) rfl (by kernel_rfl) ?_; intro K hK; go_simp; refine hK _ _ (fun _ => HX5.out) ?_; (try simp only [Act.put, List.getElem_toArray, List.getElem_cons_succ, List.getElem_cons_zero, List.setIfInBounds_toArray, List.set_cons_zero, List.set_cons_succ]); clear hK; refine till_one (i := 5) rfl (by kernel_rfl) ?_; intro K hK; go_simp; refine hK _ _ (fun h => absurd rfl h) ?_; (try simp only [Act.put, List.getElem_toArray, List.getElem_cons_succ, List.getElem_cons_zero, List.setIfInBounds_toArray, List.set_cons_zero, List.set_cons_succ]); clear hK; refine till_one (i := 6) rfl (by kernel_rfl) ?_; intro K hK; go_simp; refine hK _ _ (fun _ => box8 HX5.out) ?_; (try simp only [Act.put, List.getElem_toArray, List.getElem_cons_succ, List.getElem_cons_zero, List.setIfInBounds_toArray, List.set_cons_zero, List.set_cons_succ]); clear hK; refine till_done (by kernel_rfl) ?_ _; go_wp2
  obtain ⟨hxs, hxn, hxb⟩ := HXB.out
  refine bodyPost_ret (v := .tuple #[resV r xa (readTo d r.f.toNat r.m.toNat).length xc 0, .nilIface]) (by simp [results, Tryz.results82, go_sem, z0, z1, z2, z3, z4, z5, z6, z7]) rfl ⟨a', xa, xc, rfl, ?_, hxn, fun ad had => ⟨by have := hxb ad had; omega, fun e => ?_⟩, ?_⟩
  · repeat (first | with_reducible exact hxs | with_reducible refine strs_set ?_ (fun ad had => by have := hxb ad had; omega))
  · have h1 := HST.out.dev.footLt _ e
    have h2 := hxb ad had
    omega
  · repeat (first | with_reducible exact HST5.out | with_reducible refine DStep.setNew ?_ HD.out (fun q hq => List.mem_of_mem_eraseIdx hq) (Nat.le_refl _) nf6 _ _ | with_reducible refine DStep.drewAt ?_)
end Go.Proofs.YtgjkdhedkbkagaaGreat
/- Acts on a device, in memory; LightActs. -/
namespace Go.Proofs.YtgjkdhedkbkagaaGreat
open Go.RowKit Go.BigFrame
set_option maxRecDepth 100000
attribute [local go_sem] Later.cell Later.frozen

/-- What is done to a device. -/
structure Ac where
  kind : ByteArray
  req : Rq
  n : Int
  k : Int
def Ac.cell (x : Ac) : Nat → Value
  | 0 => .string x.kind
  | 1 => .bool x.req.wr
  | 2 => .int .i64 x.req.f
  | 3 => .int .i64 x.req.m
  | 4 => .slice x.req.da x.req.data.length x.req.dc
  | 5 => .slice x.req.ta x.req.tags.length x.req.tc
  | 6 => .int .i64 x.req.born
  | 7 => .int .i64 x.n
  | _ => .int .u64 x.k
abbrev Ac.val (x : Ac) : Value := .agg #[.string x.kind, .bool x.req.wr, .int .i64 x.req.f, .int .i64 x.req.m, .slice x.req.da x.req.data.length x.req.dc, .slice x.req.ta x.req.tags.length x.req.tc, .int .i64 x.req.born, .int .i64 x.n, .int .u64 x.k]
def ActsAt (w : World) (a : Option Addr) (l : List Ac) : Prop :=
  (l = [] ∨ ∃ b o, a = some ⟨b, o, none⟩ ∧ ∀ i (h : i < l.length) j, j < 9 → w.cell? ⟨b, o + i * 9 + j, none⟩ = some (l[i].cell j)) ∧ (∀ x ∈ l, x.req.At w) ∧ l.length ≤ 9223372036854775807
theorem ActsAt.later {w w' : World} {a : Option Addr} {l : List Ac} (h : ActsAt w a l) (hb : Below w.heap.size w w') : ActsAt w' a l := by
  obtain ⟨h1, h2, h3⟩ := h
  refine ⟨?_, fun r hr => (h2 r hr).later hb, h3⟩
  rcases h1 with h | ⟨b, o, ha, hc⟩
  · exact Or.inl h
  · exact Or.inr ⟨b, o, ha, fun i hi j hj => cell_later' hb (hc i hi j hj)⟩
theorem ActsAt.form {w : World} {a : Option Addr} {l : List Ac} (h : ActsAt w a l) : l = [] ∨ ∃ b o, a = some ⟨b, o, none⟩ := by
  rcases h.1 with h | ⟨b, o, ha, _⟩
  · exact Or.inl h
  · exact Or.inr ⟨b, o, ha⟩
theorem ActsAt.cells {w : World} {b o : Nat} {l : List Ac} (h : ActsAt w (some ⟨b, o, none⟩) l) {i : Nat} (hi : i < l.length) :
    w.cell? ⟨b, o + i * 9, none⟩ = some (.string l[i].kind) ∧ w.cell? ⟨b, o + i * 9 + 1, none⟩ = some (.bool l[i].req.wr) ∧ w.cell? ⟨b, o + i * 9 + 2, none⟩ = some (.int .i64 l[i].req.f) ∧ w.cell? ⟨b, o + i * 9 + 3, none⟩ = some (.int .i64 l[i].req.m) ∧ w.cell? ⟨b, o + i * 9 + 4, none⟩ = some (.slice l[i].req.da l[i].req.data.length l[i].req.dc) ∧ w.cell? ⟨b, o + i * 9 + 5, none⟩ = some (.slice l[i].req.ta l[i].req.tags.length l[i].req.tc) ∧ w.cell? ⟨b, o + i * 9 + 6, none⟩ = some (.int .i64 l[i].req.born) ∧ w.cell? ⟨b, o + i * 9 + 7, none⟩ = some (.int .i64 l[i].n) ∧ w.cell? ⟨b, o + i * 9 + 8, none⟩ = some (.int .u64 l[i].k) := by
  rcases h.1 with rfl | ⟨b', o', ha, hc⟩
  · exact absurd hi (Nat.not_lt_zero _)
  · simp only [Option.some.injEq, Addr.mk.injEq, and_true] at ha
    obtain ⟨rfl, rfl⟩ := ha
    exact ⟨hc i hi 0 (by omega), hc i hi 1 (by omega), hc i hi 2 (by omega), hc i hi 3 (by omega), hc i hi 4 (by omega), hc i hi 5 (by omega), hc i hi 6 (by omega), hc i hi 7 (by omega), hc i hi 8 (by omega)⟩
def lightsA (l : List Ac) (n : Nat) : Bool := decide (l.length ≤ n) && l.all fun x => lightB x.req
end Go.Proofs.YtgjkdhedkbkagaaGreat
/- request.Check: what is wrong with a request, as B1 says. -/
namespace Go.Proofs.YtgjkdhedkbkagaaGreat
open Go.RowKit Go.BigFrame
set_option maxRecDepth 100000
attribute [local go_sem] Later.cell Later.frozen

def longB (s : ByteArray) : Bool := decide (4 < s.size)

set_option maxHeartbeats 400000 in
theorem tooLong_any (s : ByteArray) (w : World) (b : Bool) (hb : longB s = b) :
    Calls Tryz.prog 113 #[.string s] w fun e w' => e = .returned (.bool b) ∧ Below w.heap.size w w' := by
  subst hb
  go_enter Tryz.func113, Tryz.ntmps113
  go_wp2
  go_ret
  exact ⟨ret_bool (by simp only [longB]; rw [decide_eq_decide]; omega), by repeat (first | with_reducible exact Below.refl _ _ | with_reducible refine balloc ?_ _ | with_reducible refine bdrew ?_ | with_reducible refine bset' ?_ (by omega) _ | with_reducible refine bthen ?_ (by assumption))⟩

set_option maxHeartbeats 400000 in
theorem dataOf_any (r : Rq) (w : World) :
    Calls Tryz.prog 111 #[r.val] w fun e w' => e = .returned (.int .i64 (if r.wr = true then r.m else 0)) ∧ Below w.heap.size w w' := by
  obtain ⟨wr, f, m, da, dc, data, ta, tc, tags, born⟩ := r
  cases wr
  all_goals
    go_enter Tryz.func111, Tryz.ntmps111
    go_wp2
    go_ret
    exact ⟨rfl, by repeat (first | with_reducible exact Below.refl _ _ | with_reducible refine balloc ?_ _ | with_reducible refine bdrew ?_ | with_reducible refine bset' ?_ (by omega) _ | with_reducible refine bthen ?_ (by assumption))⟩

set_option maxHeartbeats 1000000 in
theorem indexS_any (xs : List ByteArray) (a : Option Addr) (c : Nat) (w : World) (hx : StrsAt w a xs) (hl : xs.length ≤ 9223372036854775807) :
    Calls Tryz.prog 128 #[.slice a xs.length c, .func (.func 113) #[] #[]] w fun e w' => ∃ n : Int, e = .returned (.int .i64 n) ∧ decide (0 ≤ n) = xs.any longB ∧ Below w.heap.size w w' := by
  rcases hx with rfl | ⟨b, o, rfl, hc⟩
  · go_enter Tryz.func128, Tryz.ntmps128
    go_wp2
    go_loop [8] (fun i => i = .int .i64 0) (fun _ => 0)
    case atStart => rfl
    case round =>
      subst hrel
      go_wp2
      go_ret
      exact ⟨-1, rfl, by first | rfl | decide, Below.refl _ _⟩
  go_enter Tryz.func128, Tryz.ntmps128
  go_wp2
  go_loopw [8] (fun i wr => ∃ k : Nat, k ≤ xs.length ∧ i = .int .i64 k ∧ (xs.take k).any longB = false ∧ Below w.heap.size w wr) (fun i _ => xs.length - (intOf i).toNat)
  case atStart => exact ⟨0, by omega, rfl, by simp, Below.refl _ _⟩
  case round =>
    obtain ⟨k, hk, rfl, hno, HB⟩ := hrel
    have HN : Hid ((xs.take k).any longB = false) := hno
    clear hno
    by_cases hlt : k < xs.length
    · have c0 := cell_later' HB (hc k hlt)
      have hgd : xs.getD k ByteArray.empty = xs[k] := by simp [hlt]
      rw [hgd] at c0
      clear hgd hc
      have l0 := lt_of_cell c0
      have i0 : decide ((k : Int) < 0) = false := decide_eq_false (by omega)
      have i1 : decide ((xs.length : Int) ≤ (k : Int)) = false := decide_eq_false (by omega)
      have i1' : decide (xs.length ≤ k) = false := decide_eq_false (by omega)
      cases hlb : longB xs[k]
      · go_wp2_with fail
        refine (tooLong_any _ _ _ hlb).mono ?_
        rintro e w1 ⟨rfl, hb⟩
        replace HB := bthen HB hb
        clear hb
        go_wp2
        go_roundw
        case rel => exact ⟨k + 1, by omega, by go_num, by rw [List.take_add_one, List.getElem?_eq_getElem hlt, List.any_append, HN.out]; simp [hlb], HB⟩
        case measure => simp [intOf]; omega
      · go_wp2_with fail
        refine (tooLong_any _ _ _ hlb).mono ?_
        rintro e w1 ⟨rfl, hb⟩
        replace HB := bthen HB hb
        clear hb
        go_wp2
        go_ret
        exact ⟨k, rfl, by rw [List.any_eq_true.2 ⟨xs[k], List.getElem_mem _, hlb⟩]; exact decide_eq_true (by omega), by repeat (first | with_reducible exact Below.refl _ _ | with_reducible refine balloc ?_ _ | with_reducible refine bdrew ?_ | with_reducible refine bset' ?_ (by omega) _ | with_reducible refine bthen ?_ (by assumption))⟩
    · have hkl : k = xs.length := by omega
      have HN2 : Hid (xs.any longB = false) := by have := HN.out; rw [hkl, List.take_length] at this; exact this
      subst hkl
      go_wp2
      go_ret
      exact ⟨-1, rfl, by rw [HN2.out]; rfl, by repeat (first | with_reducible exact Below.refl _ _ | with_reducible refine balloc ?_ _ | with_reducible refine bdrew ?_ | with_reducible refine bset' ?_ (by omega) _ | with_reducible refine bthen ?_ (by assumption))⟩

set_option maxHeartbeats 400000 in
theorem containsS_any (xs : List ByteArray) (a : Option Addr) (c : Nat) (w : World) (hx : StrsAt w a xs) (hl : xs.length ≤ 9223372036854775807) (b : Bool) (hb : xs.any longB = b) :
    Calls Tryz.prog 112 #[.slice a xs.length c, .func (.func 113) #[] #[]] w fun e w' => e = .returned (.bool b) ∧ Below w.heap.size w w' := by
  go_enter Tryz.func112, Tryz.ntmps112
  go_wp2_with fail
  refine (indexS_any xs a c _ hx hl).mono ?_
  rintro e w1 ⟨n, rfl, hn, HB⟩
  rw [hb] at hn
  clear hb
  go_wp2
  go_ret
  exact ⟨rfl, by repeat (first | with_reducible exact Below.refl _ _ | with_reducible refine balloc ?_ _ | with_reducible refine bdrew ?_ | with_reducible refine bset' ?_ (by omega) _ | with_reducible refine bthen ?_ (by assumption))⟩
end Go.Proofs.YtgjkdhedkbkagaaGreat
/- request.Check of any request: the error that B1 names. -/
namespace Go.Proofs.YtgjkdhedkbkagaaGreat
open Go.RowKit Go.BigFrame
set_option maxRecDepth 100000
attribute [local go_sem] Later.cell Later.frozen

theorem dataOf_eq (r : Rq) (w : World) (D : Int) (hD : (if r.wr = true then r.m else 0) = D) :
    Calls Tryz.prog 111 #[r.val] w fun e w' => e = .returned (.int .i64 D) ∧ Below w.heap.size w w' := by
  subst hD; exact dataOf_any r w
def errN (n : Int) : Value := .iface 89 (.int .i64 n)

set_option maxHeartbeats 400000 in
theorem rcheck_span (r : Rq) (w : World) (h : okB r.f r.m 4 = false) :
    Calls Tryz.prog 96 #[r.val] w fun e w' => e = .returned (.iface 89 (.int .i64 1)) ∧ Below w.heap.size w w' := by
  obtain ⟨wr, f, m, da, dc, data, ta, tc, tags, born⟩ := r
  simp only at h
  go_enter Tryz.func96, Tryz.ntmps96
  go_wp2_with fail
  go_at_call 110; refine (check_no _ _ _ _ h).mono ?_; rintro e w1 ⟨rfl, hb⟩; (try clear hc hf hz); (first | replace HB := bthen HB hb | replace HB := bthen (bdrew HB) hb | have HB := hb); clear hb; obtain ⟨hc, hf, hz⟩ := bcell HB
  go_wp2
  go_ret
  exact ⟨rfl, by repeat (first | with_reducible exact Below.refl _ _ | with_reducible refine balloc ?_ _ | with_reducible refine bdrew ?_ | with_reducible refine bset' ?_ (by omega) _ | with_reducible refine bthen ?_ (by assumption))⟩

set_option maxHeartbeats 1000000 in
theorem rcheck_shape (r : Rq) (w : World) (hr : r.At w) (h : okB r.f r.m 4 = true) (D : Int) (hD : (if r.wr = true then r.m else 0) = D) (h2 : ((r.data.length : Int) != D) = true) :
    Calls Tryz.prog 96 #[r.val] w fun e w' => e = .returned (.iface 89 (.int .i64 3)) ∧ Below w.heap.size w w' := by
  have HD : Hid ((if r.wr = true then r.m else 0) = D) := hD
  clear hD
  have l1 := hr.dl
  have l2 := hr.tl
  all_goals
    go_enter Tryz.func96, Tryz.ntmps96
    go_wp2_with fail
    go_at_call 110; refine (check_yes _ _ _ _ h).mono ?_; rintro e w1 ⟨rfl, hb⟩; (try clear hc hf hz); (first | replace HB := bthen HB hb | replace HB := bthen (bdrew HB) hb | have HB := hb); clear hb; obtain ⟨hc, hf, hz⟩ := bcell HB
    go_wp2_with fail
    refine wp_region_later (by first | exact HB | exact bdrew HB | exact Below.refl _ _) (by kernel_rfl) (by kernel_rfl) ?_
    repeat (go_big_quiet_step (first | exact rfl | (go_at_call 111; exact calls_later (dataOf_eq r _ D HD.out))))
    refine wpQuiet_nil ?_; intro _ hw'; obtain ⟨p, hw''⟩ := hw'; subst hw''; (try clear hc hf hz); (try clear HB); have HB := p.below; obtain ⟨hc, hf, hz⟩ := bcell HB
    go_wp2
    go_ret
    exact ⟨rfl, by repeat (first | with_reducible exact Below.refl _ _ | with_reducible refine balloc ?_ _ | with_reducible refine bdrew ?_ | with_reducible refine bset' ?_ (by omega) _ | with_reducible refine bthen ?_ (by assumption))⟩

set_option maxHeartbeats 1000000 in
theorem rcheck_tags (r : Rq) (w : World) (hr : r.At w) (h : okB r.f r.m 4 = true) (D : Int) (hD : (if r.wr = true then r.m else 0) = D) (h2 : ((r.data.length : Int) != D) = false) (h3 : r.tags.length < 1 ∨ 4 < r.tags.length) :
    Calls Tryz.prog 96 #[r.val] w fun e w' => e = .returned (.iface 89 (.int .i64 3)) ∧ Below w.heap.size w w' := by
  have HD : Hid ((if r.wr = true then r.m else 0) = D) := hD
  clear hD
  have l1 := hr.dl
  have l2 := hr.tl
  rcases h3 with h3 | h3
  all_goals
    go_enter Tryz.func96, Tryz.ntmps96
    go_wp2_with fail
    go_at_call 110; refine (check_yes _ _ _ _ h).mono ?_; rintro e w1 ⟨rfl, hb⟩; (try clear hc hf hz); (first | replace HB := bthen HB hb | replace HB := bthen (bdrew HB) hb | have HB := hb); clear hb; obtain ⟨hc, hf, hz⟩ := bcell HB
    go_wp2_with fail
    refine wp_region_later (by first | exact HB | exact bdrew HB | exact Below.refl _ _) (by kernel_rfl) (by kernel_rfl) ?_
    repeat (go_big_quiet_step (first | exact rfl | (go_at_call 111; exact calls_later (dataOf_eq r _ D HD.out))))
    refine wpQuiet_nil ?_; intro _ hw'; obtain ⟨p, hw''⟩ := hw'; subst hw''; (try clear hc hf hz); (try clear HB); have HB := p.below; obtain ⟨hc, hf, hz⟩ := bcell HB
    go_wp2
    go_ret
    exact ⟨rfl, by repeat (first | with_reducible exact Below.refl _ _ | with_reducible refine balloc ?_ _ | with_reducible refine bdrew ?_ | with_reducible refine bset' ?_ (by omega) _ | with_reducible refine bthen ?_ (by assumption))⟩

set_option maxHeartbeats 1000000 in
theorem rcheck_born (r : Rq) (w : World) (hr : r.At w) (h : okB r.f r.m 4 = true) (D : Int) (hD : (if r.wr = true then r.m else 0) = D) (h2 : ((r.data.length : Int) != D) = false) (t1 : ¬ r.tags.length < 1) (t2 : ¬ 4 < r.tags.length) (h4 : r.born < 0 ∨ (0 ≤ r.born ∧ 1000000000 < r.born)) :
    Calls Tryz.prog 96 #[r.val] w fun e w' => e = .returned (.iface 89 (.int .i64 1)) ∧ Below w.heap.size w w' := by
  have HD : Hid ((if r.wr = true then r.m else 0) = D) := hD
  clear hD
  have l1 := hr.dl
  have l2 := hr.tl
  rcases h4 with h4 | ⟨h4, h5⟩
  all_goals
    go_enter Tryz.func96, Tryz.ntmps96
    go_wp2_with fail
    go_at_call 110; refine (check_yes _ _ _ _ h).mono ?_; rintro e w1 ⟨rfl, hb⟩; (try clear hc hf hz); (first | replace HB := bthen HB hb | replace HB := bthen (bdrew HB) hb | have HB := hb); clear hb; obtain ⟨hc, hf, hz⟩ := bcell HB
    go_wp2_with fail
    refine wp_region_later (by first | exact HB | exact bdrew HB | exact Below.refl _ _) (by kernel_rfl) (by kernel_rfl) ?_
    repeat (go_big_quiet_step (first | exact rfl | (go_at_call 111; exact calls_later (dataOf_eq r _ D HD.out))))
    refine wpQuiet_nil ?_; intro _ hw'; obtain ⟨p, hw''⟩ := hw'; subst hw''; (try clear hc hf hz); (try clear HB); have HB := p.below; obtain ⟨hc, hf, hz⟩ := bcell HB
    go_wp2
    go_ret
    exact ⟨rfl, by repeat (first | with_reducible exact Below.refl _ _ | with_reducible refine balloc ?_ _ | with_reducible refine bdrew ?_ | with_reducible refine bset' ?_ (by omega) _ | with_reducible refine bthen ?_ (by assumption))⟩

set_option maxHeartbeats 1000000 in
theorem rcheck_long (r : Rq) (w : World) (hr : r.At w) (h : okB r.f r.m 4 = true) (D : Int) (hD : (if r.wr = true then r.m else 0) = D) (h2 : ((r.data.length : Int) != D) = false) (t1 : ¬ r.tags.length < 1) (t2 : ¬ 4 < r.tags.length) (h4 : 0 ≤ r.born) (h5 : r.born ≤ 1000000000) (h6 : r.data.any longB = true) :
    Calls Tryz.prog 96 #[r.val] w fun e w' => e = .returned (.iface 89 (.int .i64 1)) ∧ Below w.heap.size w w' := by
  have HD : Hid ((if r.wr = true then r.m else 0) = D) := hD
  clear hD
  have l1 := hr.dl
  have l2 := hr.tl
  all_goals
    go_enter Tryz.func96, Tryz.ntmps96
    go_wp2_with fail
    go_at_call 110; refine (check_yes _ _ _ _ h).mono ?_; rintro e w1 ⟨rfl, hb⟩; (try clear hc hf hz); (first | replace HB := bthen HB hb | replace HB := bthen (bdrew HB) hb | have HB := hb); clear hb; obtain ⟨hc, hf, hz⟩ := bcell HB
    go_wp2_with fail
    refine wp_region_later (by first | exact HB | exact bdrew HB | exact Below.refl _ _) (by kernel_rfl) (by kernel_rfl) ?_
    repeat (go_big_quiet_step (first | exact rfl | (go_at_call 111; exact calls_later (dataOf_eq r _ D HD.out))))
    refine wpQuiet_nil ?_; intro _ hw'; obtain ⟨p, hw''⟩ := hw'; subst hw''; (try clear hc hf hz); (try clear HB); have HB := p.below; obtain ⟨hc, hf, hz⟩ := bcell HB
    go_wp2_with fail
    go_at_call 112; refine (containsS_any r.data _ _ _ (hr.data.later (by repeat (first | with_reducible exact Below.refl _ _ | with_reducible refine balloc ?_ _ | with_reducible refine bdrew ?_ | with_reducible refine bset' ?_ (by omega) _ | with_reducible refine bthen ?_ (by assumption)))) l1 _ h6).mono ?_; rintro e w1 ⟨rfl, hb⟩; (try clear hc hf hz); (first | replace HB := bthen HB hb | replace HB := bthen (bdrew HB) hb | have HB := hb); clear hb; obtain ⟨hc, hf, hz⟩ := bcell HB
    go_wp2
    go_ret
    exact ⟨rfl, by repeat (first | with_reducible exact Below.refl _ _ | with_reducible refine balloc ?_ _ | with_reducible refine bdrew ?_ | with_reducible refine bset' ?_ (by omega) _ | with_reducible refine bthen ?_ (by assumption))⟩

set_option maxHeartbeats 1000000 in
theorem rcheck_fine (r : Rq) (w : World) (hr : r.At w) (h : okB r.f r.m 4 = true) (D : Int) (hD : (if r.wr = true then r.m else 0) = D) (h2 : ((r.data.length : Int) != D) = false) (t1 : ¬ r.tags.length < 1) (t2 : ¬ 4 < r.tags.length) (h4 : 0 ≤ r.born) (h5 : r.born ≤ 1000000000) (h6 : r.data.any longB = false) :
    Calls Tryz.prog 96 #[r.val] w fun e w' => e = .returned .nilIface ∧ Below w.heap.size w w' := by
  have HD : Hid ((if r.wr = true then r.m else 0) = D) := hD
  clear hD
  have l1 := hr.dl
  have l2 := hr.tl
  all_goals
    go_enter Tryz.func96, Tryz.ntmps96
    go_wp2_with fail
    go_at_call 110; refine (check_yes _ _ _ _ h).mono ?_; rintro e w1 ⟨rfl, hb⟩; (try clear hc hf hz); (first | replace HB := bthen HB hb | replace HB := bthen (bdrew HB) hb | have HB := hb); clear hb; obtain ⟨hc, hf, hz⟩ := bcell HB
    go_wp2_with fail
    refine wp_region_later (by first | exact HB | exact bdrew HB | exact Below.refl _ _) (by kernel_rfl) (by kernel_rfl) ?_
    repeat (go_big_quiet_step (first | exact rfl | (go_at_call 111; exact calls_later (dataOf_eq r _ D HD.out))))
    refine wpQuiet_nil ?_; intro _ hw'; obtain ⟨p, hw''⟩ := hw'; subst hw''; (try clear hc hf hz); (try clear HB); have HB := p.below; obtain ⟨hc, hf, hz⟩ := bcell HB
    go_wp2_with fail
    go_at_call 112; refine (containsS_any r.data _ _ _ (hr.data.later (by repeat (first | with_reducible exact Below.refl _ _ | with_reducible refine balloc ?_ _ | with_reducible refine bdrew ?_ | with_reducible refine bset' ?_ (by omega) _ | with_reducible refine bthen ?_ (by assumption)))) l1 _ h6).mono ?_; rintro e w1 ⟨rfl, hb⟩; (try clear hc hf hz); (first | replace HB := bthen HB hb | replace HB := bthen (bdrew HB) hb | have HB := hb); clear hb; obtain ⟨hc, hf, hz⟩ := bcell HB
    go_wp2
    go_ret
    exact ⟨rfl, by repeat (first | with_reducible exact Below.refl _ _ | with_reducible refine balloc ?_ _ | with_reducible refine bdrew ?_ | with_reducible refine bset' ?_ (by omega) _ | with_reducible refine bthen ?_ (by assumption))⟩

def errOf (n : Int) : Value := if n = 0 then .nilIface else .iface 89 (.int .i64 n)
theorem shape_D (r : Rq) (D : Int) (hD : (if r.wr = true then r.m else 0) = D) : ((r.data.length : Int) != D) = !(shapeB r) := by
  subst hD
  unfold shapeB
  cases r.wr
  all_goals
    simp only [if_true, if_false, Bool.false_eq_true]
    rw [Bool.eq_iff_iff]
    simp only [bne_iff_ne, Bool.not_eq_true', decide_eq_false_iff_not, ne_eq]
    try omega
theorem long_small (r : Rq) : r.data.any longB = !(small4 r) := by
  unfold small4
  rw [List.not_all_eq_any_not]
  congr 1
  funext s
  simp only [longB]
  rw [← decide_not]
  congr 1
  simp
/-- request.Check says what B1 says. -/
theorem rcheck_any (r : Rq) (w : World) (hr : r.At w) (n : Int) (hn : faultR r = n) :
    Calls Tryz.prog 96 #[r.val] w fun e w' => e = .returned (errOf n) ∧ Below w.heap.size w w' := by
  subst hn
  unfold faultR
  have hD := shape_D r _ rfl
  by_cases h : okB r.f r.m 4 = false
  · rw [if_pos h]; exact rcheck_span r w h
  · rw [if_neg h]
    have h' : okB r.f r.m 4 = true := by simpa using h
    by_cases h2 : shapeB r = false
    · rw [if_pos h2]; exact rcheck_shape r w hr h' _ rfl (by rw [hD, h2]; rfl)
    · rw [if_neg h2]
      have h2' : ((r.data.length : Int) != (if r.wr = true then r.m else 0)) = false := by
        rw [hD]; simpa using h2
      by_cases h3 : r.tags.length < 1 ∨ 4 < r.tags.length
      · rw [if_pos h3]; exact rcheck_tags r w hr h' _ rfl h2' h3
      · rw [if_neg h3]
        by_cases h4 : r.born < 0 ∨ 1000000000 < r.born
        · rw [if_pos h4]; exact rcheck_born r w hr h' _ rfl h2' (by omega) (by omega) (by omega)
        · rw [if_neg h4]
          have hls := long_small r
          cases hs : small4 r
          · rw [hs] at hls; exact rcheck_long r w hr h' _ rfl h2' (by omega) (by omega) (by omega) (by omega) hls
          · rw [hs] at hls; exact rcheck_fine r w hr h' _ rfl h2' (by omega) (by omega) (by omega) (by omega) hls
end Go.Proofs.YtgjkdhedkbkagaaGreat
/- A request is done at once: written (of weighbridgetop). -/
namespace Go.Proofs.YtgjkdhedkbkagaaGreat
open Go.RowKit Go.BigFrame
set_option maxRecDepth 100000
attribute [local go_sem] Later.cell Later.frozen

/-- What a device has when a request is done. -/
def Dl.did (d : Dl) (r : Rq) : Dl := if r.wr = true then d.writesTo r r.m.toNat else d
theorem Dl.did_busy (d : Dl) (r : Rq) : (d.did r).busy = d.busy := by unfold Dl.did; split; exact Dl.writesTo_busy _ _ _; rfl
def didRead (d : Dl) (r : Rq) : List ByteArray := if r.wr = true then [] else readTo d r.f.toNat r.m.toNat
/-- An act in a block of its own. -/
def ActBox (w : World) (q : Nat) (x : Ac) : Prop := w.cell? ⟨q, 1, none⟩ = some (.bool x.req.wr) ∧ w.cell? ⟨q, 2, none⟩ = some (.int .i64 x.req.f) ∧ w.cell? ⟨q, 3, none⟩ = some (.int .i64 x.req.m) ∧ w.cell? ⟨q, 4, none⟩ = some (.slice x.req.da x.req.data.length x.req.dc) ∧ w.cell? ⟨q, 5, none⟩ = some (.slice x.req.ta x.req.tags.length x.req.tc) ∧ w.cell? ⟨q, 6, none⟩ = some (.int .i64 x.req.born)
theorem ActBox.later {w w' : World} {q : Nat} {x : Ac} (h : ActBox w q x) (hb : Below w.heap.size w w') : ActBox w' q x := by
  obtain ⟨h0, h1, h2, h3, h4, h5⟩ := h
  exact ⟨cell_later' hb h0, cell_later' hb h1, cell_later' hb h2, cell_later' hb h3, cell_later' hb h4, cell_later' hb h5⟩
end Go.Proofs.YtgjkdhedkbkagaaGreat
/- TopPart: of what was read of several sectors each has its own. The walk. -/
namespace Go.Proofs.YtgjkdhedkbkagaaGreat
open Go.RowKit Go.BigFrame
set_option maxRecDepth 100000
attribute [local go_sem] Later.cell Later.frozen

theorem off_of {F : Nat → Prop} {w : World} {r : Rq} (h : r.At w) (hF : ∀ k, F k → w.heap.size ≤ k) : r.Off F :=
  ⟨fun he ad ha hk => by have h1 := strs_lt h.data he ha; have h2 := hF _ hk; omega, fun he ad ha hk => by have h1 := ints_lt h.tags he ha; have h2 := hF _ hk; omega⟩
theorem an0_foot {b k : Nat} (h : an0.foot b k) : k = b := by
  rcases h with h | ⟨p, hp, _⟩ | ⟨p, hp, _⟩
  · exact h
  · cases hp
  · cases hp
def rqX : Rq := ⟨false, 3, 1, none, 0, [], none, 0, [], 0⟩
/-- A result in a block of its own. -/
def ResBox (w : World) (q : Nat) (r : Rq) (xa : Option Addr) (n xc : Nat) (er : Int) : Prop := w.cell? ⟨q, 0, none⟩ = some (.bool r.wr) ∧ w.cell? ⟨q, 1, none⟩ = some (.int .i64 r.f) ∧ w.cell? ⟨q, 2, none⟩ = some (.int .i64 r.m) ∧ w.cell? ⟨q, 3, none⟩ = some (.slice r.da r.data.length r.dc) ∧ w.cell? ⟨q, 4, none⟩ = some (.slice r.ta r.tags.length r.tc) ∧ w.cell? ⟨q, 5, none⟩ = some (.int .i64 r.born) ∧ w.cell? ⟨q, 6, none⟩ = some (.slice xa n xc) ∧ w.cell? ⟨q, 7, none⟩ = some (.int .i64 er)
theorem ResBox.later {w w' : World} {q n xc : Nat} {r : Rq} {xa : Option Addr} {er : Int} (h : ResBox w q r xa n xc er) (hb : Below w.heap.size w w') : ResBox w' q r xa n xc er := by
  obtain ⟨h0, h1, h2, h3, h4, h5, h6, h7⟩ := h
  exact ⟨cell_later' hb h0, cell_later' hb h1, cell_later' hb h2, cell_later' hb h3, cell_later' hb h4, cell_later' hb h5, cell_later' hb h6, cell_later' hb h7⟩
theorem res_new (w : World) (T : TypeId) (r : Rq) (xa : Option Addr) (n xc : Nat) (er : Int) : ResBox (w.alloc (.cells #[.bool r.wr, .int .i64 r.f, .int .i64 r.m, .slice r.da r.data.length r.dc, .slice r.ta r.tags.length r.tc, .int .i64 r.born, .slice xa n xc, .int .i64 er] T)) w.heap.size r xa n xc er := by
  refine ⟨?_, ?_, ?_, ?_, ?_, ?_, ?_, ?_⟩ <;> simp
/-- A device of a law's own, that has no request: what was there stands. -/
structure Mine (w w2 : World) (b : Nat) (d : Dl) (a : An) (wr : World) : Prop where
  step : DStep b d0 an0 d a w2 wr
  none : d.busy = []
theorem Mine.below {w w2 wr : World} {b : Nat} {d : Dl} {a : An} (h : Mine w w2 b d a wr) (hb : w.heap.size ≤ b) (hw : Below w.heap.size w w2) : Below w.heap.size w wr :=
  hw.trans (h.step.only.below hw.size (fun k hk => by rw [an0_foot hk]; exact hb))
theorem Mine.foot {w w2 wr : World} {b : Nat} {d : Dl} {a : An} (h : Mine w w2 b d a wr) (hb : w.heap.size ≤ b) (hw : Below w.heap.size w w2) : ∀ k, a.foot b k → w.heap.size ≤ k := fun k hk =>
  (h.step.foot k hk).elim (fun e => by rw [an0_foot e]; exact hb) (fun h' => Nat.le_trans hw.size h')
end Go.Proofs.YtgjkdhedkbkagaaGreat
