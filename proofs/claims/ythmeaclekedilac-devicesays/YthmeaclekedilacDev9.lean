/- A device: End. -/
import Derived.Test.YthmeaclekedilacDev8
namespace Go.Proofs.Ythmeaclekedilac
open Go.RowKit Go.BigFrame
attribute [local go_sem] Later.cell Later.frozen

abbrev noRes : Value := .agg #[.bool false, .int .i64 0, .int .i64 0, .slice none 0 0, .slice none 0 0, .int .i64 0, .slice none 0 0, .int .i64 0]
set_option maxHeartbeats 400000 in
theorem end_none (b : Nat) (d : Dl) (a : An) (i : Int) (fl : Bool) (w : World) (h : DevAt b d a w) (hi : i < 0 ∨ (d.busy.length : Int) ≤ i) :
    Calls Try.prog 16 #[.pointer (some ⟨b, 0, none⟩), .int .i64 i, .bool fl] w fun e w' => e = .returned (.tuple #[noRes, .iface 47 (.int .i64 5)]) ∧ Below w.heap.size w w' := by
  have c := h.c66
  have hl := h.lt
  clear h
  by_cases h0 : i < 0
  · go_enter Try.func16, Try.ntmps16
    go_wp2
    exact bodyPost_ret (v := .tuple #[noRes, .iface 47 (.int .i64 5)]) (by simp [results, Try.results16, go_sem]) rfl ⟨rfl, by repeat (first | with_reducible exact Below.refl _ _ | with_reducible refine balloc ?_ _ | with_reducible refine bdrew ?_ | with_reducible refine bset' ?_ (by omega) _ | with_reducible refine bthen ?_ (by assumption))⟩
  · have h1 : (d.busy.length : Int) ≤ i := by omega
    go_enter Try.func16, Try.ntmps16
    go_wp2
    exact bodyPost_ret (v := .tuple #[noRes, .iface 47 (.int .i64 5)]) (by simp [results, Try.results16, go_sem]) rfl ⟨rfl, by repeat (first | with_reducible exact Below.refl _ _ | with_reducible refine balloc ?_ _ | with_reducible refine bdrew ?_ | with_reducible refine bset' ?_ (by omega) _ | with_reducible refine bthen ?_ (by assumption))⟩
theorem Only.of_set {w : World} {q o : Nat} (v : Value) : Only (fun k => k = q) w (w.setCell ⟨q, o, none⟩ v) := (Only.refl (fun k => k = q) w).setCell ⟨q, o, none⟩ (Or.inl rfl) v
/-- Something of a call's own is written. -/
theorem DStep.setNew {b : Nat} {d d' : Dl} {a a' : An} {w w' : World} (h : DStep b d a d' a' w w') (hd : DevAt b d a w) (hs : ∀ r ∈ d'.busy, r ∈ d.busy) {q : Nat} (hq : w.heap.size ≤ q) (hn : ¬ a'.foot b q) (o : Nat) (v : Value) : DStep b d a d' a' w (w'.setCell ⟨q, o, none⟩ v) :=
  ⟨h.dev.frame (Only.of_set v) (fun k hk e => hn (e ▸ hk)) (fun r hr => by
    have hat := (hd.reqs r (hs r hr)).1
    exact ⟨fun he ad ha e => by have := strs_lt hat.data he ha; omega, fun he ad ha e => by have := ints_lt hat.tags he ha; omega⟩),
   h.only.setCell ⟨q, o, none⟩ (Or.inr hq) v, h.foot⟩
/-- A result without anything, in a block of its own, that may be written. -/
def ZeroAt (w : World) (q : Nat) : Prop := (w.cell? ⟨q, 0, none⟩ = some (.bool false) ∧ w.cell? ⟨q, 1, none⟩ = some (.int .i64 0) ∧ w.cell? ⟨q, 2, none⟩ = some (.int .i64 0) ∧ w.cell? ⟨q, 3, none⟩ = some (.slice none 0 0) ∧ w.cell? ⟨q, 4, none⟩ = some (.slice none 0 0) ∧ w.cell? ⟨q, 5, none⟩ = some (.int .i64 0) ∧ w.cell? ⟨q, 6, none⟩ = some (.slice none 0 0) ∧ w.cell? ⟨q, 7, none⟩ = some (.int .i64 0)) ∧ (∀ o, w.frozen? ⟨q, o, none⟩ = false) ∧ q < w.heap.size
theorem ZeroAt.only {F : Nat → Prop} {w w' : World} {q : Nat} (h : ZeroAt w q) (hO : Only F w w') (hn : ¬ F q) : ZeroAt w' q := by
  obtain ⟨⟨h0, h1, h2, h3, h4, h5, h6, h7⟩, hf, hl⟩ := h
  exact ⟨⟨(hO.cell (p := ⟨q, 0, none⟩) hl hn).trans h0, (hO.cell (p := ⟨q, 1, none⟩) hl hn).trans h1, (hO.cell (p := ⟨q, 2, none⟩) hl hn).trans h2, (hO.cell (p := ⟨q, 3, none⟩) hl hn).trans h3, (hO.cell (p := ⟨q, 4, none⟩) hl hn).trans h4, (hO.cell (p := ⟨q, 5, none⟩) hl hn).trans h5, (hO.cell (p := ⟨q, 6, none⟩) hl hn).trans h6, (hO.cell (p := ⟨q, 7, none⟩) hl hn).trans h7⟩, fun o => (hO.frozen (p := ⟨q, o, none⟩) hl hn).trans (hf o), Nat.lt_of_lt_of_le hl hO.size⟩
theorem zero_new (w : World) (T : TypeId) : ZeroAt (w.alloc (.cells #[.bool false, .int .i64 0, .int .i64 0, .slice none 0 0, .slice none 0 0, .int .i64 0, .slice none 0 0, .int .i64 0] T)) w.heap.size := by
  refine ⟨⟨?_, ?_, ?_, ?_, ?_, ?_, ?_, ?_⟩, fun o => ?_, ?_⟩ <;> simp
theorem DevAt.place {b : Nat} {d : Dl} {a : An} {w : World} (h : DevAt b d a w) {k : Nat} (hk : k < d.busy.length) : ∃ g, a.ba = some ⟨g, 0, none⟩ ∧ g < w.heap.size := by
  obtain ⟨x, cx, hv, h1, h2, _⟩ := slice_of_own h.brow
  simp only [Value.slice.injEq, true_and] at hv
  obtain ⟨rfl, rfl⟩ := hv
  cases ha : a.ba with
  | none =>
    have := h.reqsAt.form
    rw [ha] at this
    rcases this with e | ⟨_, _, e⟩
    · rw [e] at hk; exact absurd hk (Nat.not_lt_zero _)
    · cases e
  | some ad =>
    obtain ⟨g, rfl⟩ := h2 ad ha
    exact ⟨g, rfl, h.blt _ ha⟩
/-- The device behind slices.Delete and the store, and what else is at hand. -/
theorem ended {b : Nat} {d : Dl} {a : An} {w w2 w3 : World} {k g : Nat} {r : Rq} (h : DevAt b d a w) (hk : k < d.busy.length) (hg0 : a.ba = some ⟨g, 0, none⟩) (hb : Below w.heap.size w w2) (hz : ZeroAt w2 w.heap.size) (hx : BoxAt w2 (w.heap.size + 1) r)
    (hown : w3.ownsRow 0 38 6 (.slice (some ⟨g, 0, none⟩) (d.busy.eraseIdx k).length a.bc) (d.busy.eraseIdx k).length (rcells (d.busy.eraseIdx k))) (hg : w2.grownBy w3 (some g)) :
    (w3.cell? ⟨b, 66, none⟩ = some (.slice (some ⟨g, 0, none⟩) d.busy.length a.bc) ∧ w3.frozen? ⟨b, 66, none⟩ = false ∧ b < w3.heap.size) ∧ ∃ a', DStep b d a { d with busy := d.busy.eraseIdx k } a' w (w3.setCell ⟨b, 66, none⟩ (.slice (some ⟨g, 0, none⟩) (d.busy.eraseIdx k).length a.bc)) ∧ ZeroAt (w3.setCell ⟨b, 66, none⟩ (.slice (some ⟨g, 0, none⟩) (d.busy.eraseIdx k).length a.bc)) w.heap.size ∧ BoxAt (w3.setCell ⟨b, 66, none⟩ (.slice (some ⟨g, 0, none⟩) (d.busy.eraseIdx k).length a.bc)) (w.heap.size + 1) r ∧ ¬ a'.foot b w.heap.size ∧ ¬ a'.foot b (w.heap.size + 1) := by
  have hob : (Value.slice a.ba d.busy.length a.bc).ownBlock = some g := ownBlock_slice.2 ⟨_, hg0, rfl⟩
  have k66 := h.kept66 hb (by rw [hob]; exact hg)
  rw [hg0] at k66
  have hlt := h.lt
  have hgl := h.blt _ hg0
  have hel : (d.busy.eraseIdx k).length ≤ 2 := by rw [List.length_eraseIdx, if_pos hk]; have := h.blen; omega
  obtain ⟨x, c, e, hst⟩ := h.busied hb (d.busy.eraseIdx k) hel (fun q hq => h.reqs q (List.mem_of_mem_eraseIdx hq)) hown (by rw [hob]; exact hg) (fun g' hg' => Or.inl ⟨_, hg0, by simpa [Value.ownBlock] using hg'.symm⟩)
  simp only [Value.slice.injEq, true_and] at e
  obtain ⟨rfl, rfl⟩ := e
  have hO : Only (fun i => i = g ∨ i = b) w2 (w3.setCell ⟨b, 66, none⟩ (.slice (some ⟨g, 0, none⟩) (d.busy.eraseIdx k).length a.bc)) :=
    ((Only.refl (fun i => i = g ∨ i = b) w2).grown hg (fun i hi => Or.inl (Or.inl (by simpa using hi.symm)))).setCell ⟨b, 66, none⟩ (Or.inl (Or.inr rfl)) _
  have hft : ∀ q, w.heap.size ≤ q → ¬ ({ a with ba := some ⟨g, 0, none⟩, bc := a.bc } : An).foot b q := by
    rintro q hq (e | ⟨p, hp, e⟩ | ⟨p, hp, e⟩)
    · omega
    · have := h.wlt p hp; omega
    · simp only [Option.some.injEq] at hp; subst hp; simp only at e hgl; omega
  exact ⟨k66, _, hst, hz.only hO (by simp only at hgl; omega), hx.only hO (by simp only at hgl; omega), hft _ (Nat.le_refl _), hft _ (by omega)⟩

set_option maxRecDepth 100000 in
set_option maxHeartbeats 2000000 in
theorem end_fault (b : Nat) (d : Dl) (a : An) (k : Nat) (hk : k < d.busy.length) (w : World) (h : DevAt b d a w) :
    Calls Try.prog 16 #[.pointer (some ⟨b, 0, none⟩), .int .i64 k, .bool true] w fun e w' => ∃ a', e = .returned (.tuple #[resV d.busy[k] none 0 0 8, .nilIface]) ∧ DStep b d a { d with busy := d.busy.eraseIdx k } a' w w' := by
  have hl := h.lt; have HD := hidT h; have h0 : ¬ (k : Int) < 0 := (by omega); have h1 : ¬ (d.busy.length : Int) ≤ (k : Int) := (by omega); have h2 : (k : Int) < (d.busy.length : Int) := (by omega); have hk2 : (k : Int) ≤ 1 := (by have := h.blen; omega); have hR := h.reqsAt; have c := h.c66; obtain ⟨g, hg0, lg⟩ := h.place hk; rw [hg0] at hR c; obtain ⟨r0, r1, r2, r3, r4, r5⟩ := hR.cells hk; simp only [Nat.zero_add] at r0 r1 r2 r3 r4 r5; have HG0 := hidT hg0; clear h hR hg0
  generalize hr : d.busy[k] = r at *
  have HRR := hidT hr
  clear hr
  go_enter Try.func16, Try.ntmps16; go_wp2_with fail; have hbr := (HD.out.later (below2 w (.cells #[.bool false, .int .i64 0, .int .i64 0, .slice none 0 0, .slice none 0 0, .int .i64 0, .slice none 0 0, .int .i64 0] 49) (.cells #[.bool r.wr, .int .i64 r.f, .int .i64 r.m, .slice r.da r.data.length r.dc, .slice r.ta r.tags.length r.tc, .int .i64 r.born] 38))).brow; rw [HG0.out] at hbr; refine (delR d.busy g a.bc k _ hk hbr).mono ?_; rintro e w3 ⟨rfl, hown3, hg3⟩; have hz2 := (zero_new w 49).only (F := fun _ => False) ((Only.refl _ _).alloc (.cells #[.bool r.wr, .int .i64 r.f, .int .i64 r.m, .slice r.da r.data.length r.dc, .slice r.ta r.tags.length r.tc, .int .i64 r.born] 38)) (fun e => e); have hx2 := box_new (w.alloc (.cells #[.bool false, .int .i64 0, .int .i64 0, .slice none 0 0, .slice none 0 0, .int .i64 0, .slice none 0 0, .int .i64 0] 49)) 38 r; rw [World.size_alloc] at hx2; obtain ⟨⟨c3, f3, l3⟩, a', hst, hz4, hx4, nf6, nf8⟩ := ended HD.out hk HG0.out (below2 w _ _) hz2 hx2 hown3 hg3; clear hz2 hx2 hbr hown3 hg3 r0 r1 r2 r3 r4 r5 c
  obtain ⟨⟨z0, z1, z2, z3, z4, z5, z6, z7⟩, zf, zl⟩ := hz4
  obtain ⟨x0, x1, x2, x3, x4, x5⟩ := hx4
  have HST := hidT hst
  clear hst
  generalize hW : w3.setCell ⟨b, 66, none⟩ (.slice (some ⟨g, 0, none⟩) (d.busy.eraseIdx k).length a.bc) = w4 at *
  go_wp2
  refine bodyPost_ret (v := .tuple #[resV r none 0 0 8, .nilIface]) (by simp [results, Try.results16, go_sem, z0, z1, z2, z3, z4, z5, z6, z7]) rfl ⟨a', rfl, ?_⟩
  repeat (first | with_reducible exact HST.out | with_reducible refine DStep.setNew ?_ HD.out (fun q hq => List.mem_of_mem_eraseIdx hq) (Nat.le_refl _) nf6 _ _ | with_reducible refine DStep.drewAt ?_)
end Go.Proofs.Ythmeaclekedilac
