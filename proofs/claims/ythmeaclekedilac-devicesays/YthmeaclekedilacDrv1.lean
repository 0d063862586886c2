/- A driver of a device: New, Room, Start, firstTag. -/
import Derived.Test.YthmeaclekedilacDev11
import Derived.Maps.Own
import Derived.Maps.OwnOps
import Derived.Maps.OwnSet
namespace Go.Proofs.Ythmeaclekedilac
open Go.RowKit Go.BigFrame Go.Maps
attribute [local go_sem] Later.cell Later.frozen

theorem keyI : Keyed Try.prog 3 := int_keyed Try.underlying3
theorem zeroI (w : World) : (zeroValue 3).run Try.prog w = .ok (.int .i64 0) w := by kernel_rfl
/-- The driver v of the device b, with the map bm. -/
structure VAt (v b bm : Nat) (d : Dl) (a : An) (n : Nat) (D : DataW Unit) (w : World) : Prop where
  dev : DevAt b d a w
  blk : w.heap[v]? = some (.cells [.pointer (some ⟨b, 0, none⟩), .map (some bm)].toArray 115 (0, 0))
  map : w.ownsMap Try.prog 3 (plainElem Try.prog 3) bm n D
  foot : ∀ k, a.foot b k → k ≠ v ∧ k ≠ bm
/-- What a step of the driver may turn. -/
def vfoot (b bm : Nat) (a : An) (k : Nat) : Prop := k = bm ∨ a.foot b k
structure VStep (v b bm : Nat) (d : Dl) (a : An) (n : Nat) (D : DataW Unit) (d' : Dl) (a' : An) (n' : Nat) (D' : DataW Unit) (w w' : World) : Prop where
  at' : VAt v b bm d' a' n' D' w'
  only : Only (vfoot b bm a) w w'
  foot : ∀ k, vfoot b bm a' k → vfoot b bm a k ∨ w.heap.size ≤ k
theorem owns_block {w w' : World} {bm n : Nat} {D : DataW Unit} (h : w.ownsMap Try.prog 3 (plainElem Try.prog 3) bm n D) (e : w'.heap[bm]? = w.heap[bm]?) : w'.ownsMap Try.prog 3 (plainElem Try.prog 3) bm n D := by
  obtain ⟨es, clock, hb, F, hs, hD⟩ := h
  exact ⟨es, clock, e.trans hb, F, hs, hD⟩
theorem VAt.mlt {v b bm : Nat} {d : Dl} {a : An} {n : Nat} {D : DataW Unit} {w : World} (h : VAt v b bm d a n D w) : bm < w.heap.size := h.map.lt
theorem VAt.ne {v b bm : Nat} {d : Dl} {a : An} {n : Nat} {D : DataW Unit} {w : World} (h : VAt v b bm d a n D w) : v ≠ bm := by
  rintro rfl
  obtain ⟨es, clock, hb, _⟩ := h.map
  rw [h.blk] at hb
  cases hb
/-- A step of its device. -/
theorem VAt.step {v b bm : Nat} {d d' : Dl} {a a' : An} {n : Nat} {D : DataW Unit} {w w' : World} (h : VAt v b bm d a n D w) (hs : DStep b d a d' a' w w') : VStep v b bm d a n D d' a' n D w w' where
  at' := ⟨hs.dev, by rw [hs.only.block v (lt_of_heap h.blk) (fun e => (h.foot v e).1 rfl)]; exact h.blk, owns_block h.map (hs.only.block bm h.mlt (fun e => (h.foot bm e).2 rfl)), fun k hk => (hs.foot k hk).elim (h.foot k) (fun h' => by have := lt_of_heap h.blk; have := h.mlt; omega)⟩
  only := hs.only.mono (fun _ e => Or.inr e)
  foot := fun k hk => hk.elim (fun e => Or.inl (Or.inl e)) (fun e => (hs.foot k e).elim (fun h' => Or.inl (Or.inr h')) Or.inr)
theorem VStep.trans {v b bm : Nat} {d d' d2 : Dl} {a a' a2 : An} {n n' n2 : Nat} {D D' D2 : DataW Unit} {w w' w2 : World} (h : VStep v b bm d a n D d' a' n' D' w w') (k : VStep v b bm d' a' n' D' d2 a2 n2 D2 w' w2) : VStep v b bm d a n D d2 a2 n2 D2 w w2 :=
  ⟨k.at', h.only.trans k.only h.foot, fun i hi => (k.foot i hi).elim (h.foot i) (fun h' => Or.inr (Nat.le_trans h.only.size h'))⟩
theorem VAt.later {v b bm : Nat} {d : Dl} {a : An} {n : Nat} {D : DataW Unit} {w w' : World} (h : VAt v b bm d a n D w) (hb : Below w.heap.size w w') : VAt v b bm d a n D w' := (h.step (DStep.same h.dev hb)).at'
theorem VStep.later {v b bm : Nat} {d d' : Dl} {a a' : An} {n n' : Nat} {D D' : DataW Unit} {w w' w2 : World} (h : VStep v b bm d a n D d' a' n' D' w w') (hb : Below w'.heap.size w' w2) : VStep v b bm d a n D d' a' n' D' w w2 := h.trans (h.at'.step (DStep.same h.at'.dev hb))
/-- Its map alone turns. -/
theorem VAt.turn {v b bm : Nat} {d : Dl} {a : An} {n n' : Nat} {D D' : DataW Unit} {w w' : World} (h : VAt v b bm d a n D w) (ho : Only (fun k => k = bm) w w') (hm : w'.ownsMap Try.prog 3 (plainElem Try.prog 3) bm n' D') (hr : ∀ r ∈ d.busy, r.Off (fun k => k = bm)) : VStep v b bm d a n D d a n' D' w w' where
  at' := ⟨h.dev.frame ho (fun k hk => (h.foot k hk).2) hr, by rw [ho.block v (lt_of_heap h.blk) h.ne]; exact h.blk, hm, h.foot⟩
  only := ho.mono (fun _ e => Or.inl e)
  foot := fun _ hk => Or.inl hk
theorem only_of_grown {w w' : World} {bm : Nat} (h : w.grownBy w' (some bm)) : Only (fun k => k = bm) w w' := ⟨h.os, h.tape, h.output, h.size, fun k hk hn => h.block k hk (fun e => hn (Option.some.inj e))⟩
theorem VAt.cells {v b bm : Nat} {d : Dl} {a : An} {n : Nat} {D : DataW Unit} {w : World} (h : VAt v b bm d a n D w) : w.cell? ⟨v, 0, none⟩ = some (.pointer (some ⟨b, 0, none⟩)) ∧ w.cell? ⟨v, 1, none⟩ = some (.map (some bm)) := ⟨by rw [cell_of_heap h.blk]; rfl, by rw [cell_of_heap h.blk]; rfl⟩
set_option maxRecDepth 100000 in
set_option maxHeartbeats 400000 in
theorem vnew_any (b : Nat) (d : Dl) (a : An) (w : World) (h : DevAt b d a w) : Calls Try.prog 27 #[.pointer (some ⟨b, 0, none⟩)] w fun e w' => e = .returned (.pointer (some ⟨w.heap.size + 1, 0, none⟩)) ∧ VAt (w.heap.size + 1) b w.heap.size d a 0 (.map []) w' ∧ Below w.heap.size w w' := by
  have HD := hidT h
  clear h
  have hmm := @run_makeMap Try.prog
  go_enter Try.func27, Try.ntmps27
  go_wp2
  go_ret
  have hb := below2 w (.map #[] 0) (.cells [.pointer (some ⟨b, 0, none⟩), .map (some w.heap.size)].toArray 115)
  refine ⟨rfl, ⟨HD.out.later hb, ?_, (World.ownsMap_made _ _ _ _).alloc _, fun k hk => ?_⟩, hb⟩
  · have := heap_alloc_new (w.alloc (.map #[] 0)) (.cells [.pointer (some ⟨b, 0, none⟩), .map (some w.heap.size)].toArray 115)
    rw [show (w.alloc (.map #[] 0)).heap.size = w.heap.size + 1 by simp] at this
    exact this
  · have := HD.out.footLt k hk; omega
set_option maxRecDepth 100000 in
set_option maxHeartbeats 400000 in
theorem room_yes (v b bm : Nat) (d : Dl) (a : An) (n : Nat) (D : DataW Unit) (w : World) (h : VAt v b bm d a n D w) (h2 : d.busy.length < 2) : Calls Try.prog 31 #[.pointer (some ⟨v, 0, none⟩)] w fun e w' => e = .returned (.bool true) ∧ Below w.heap.size w w' := by
  obtain ⟨c0, c1⟩ := h.cells
  have HV := hidT h
  have h2' : (d.busy.length : Int) < 2 := by omega
  clear h c1
  go_enter Try.func31, Try.ntmps31
  go_wp2_with fail
  refine (busy_any b d a _ HV.out.dev).mono ?_
  rintro e w1 ⟨xa, xc, rfl, -, -, hb⟩
  go_wp2
  go_ret
  exact ⟨rfl, hb⟩
set_option linter.unusedSimpArgs false in
set_option maxRecDepth 100000 in
set_option maxHeartbeats 400000 in
theorem vstart_ok (v b bm : Nat) (d : Dl) (a : An) (n : Nat) (D : DataW Unit) (r : Rq) (w : World) (h : VAt v b bm d a n D w) (h2 : d.busy.length < 2) (hr : r.At w) (ho : r.Off (a.foot b)) :
    Calls Try.prog 28 #[.pointer (some ⟨v, 0, none⟩), r.val] w fun e w' => ∃ a', e = .returned .nilIface ∧ VStep v b bm d a n D { d with busy := d.busy ++ [r] } a' n D w w' := by
  obtain ⟨c0, c1⟩ := h.cells
  have HV := hidT h
  have HR := hidT hr
  have HO := hidT ho
  have hv := lt_of_heap h.blk
  clear h c1 hr ho
  have hb0 := hidT (below1 w (.cells #[.bool r.wr, .int .i64 r.f, .int .i64 r.m, .slice r.da r.data.length r.dc, .slice r.ta r.tags.length r.tc, .int .i64 r.born] 38))
  go_enter Try.func28, Try.ntmps28
  go_wp2_with fail
  have hS0 : (w.alloc (.cells #[.bool r.wr, .int .i64 r.f, .int .i64 r.m, .slice r.da r.data.length r.dc, .slice r.ta r.tags.length r.tc, .int .i64 r.born] 38)).drew.cell? ⟨v, 0, none⟩ = some (.pointer (some ⟨b, 0, none⟩)) ∧ BoxAt (w.alloc (.cells #[.bool r.wr, .int .i64 r.f, .int .i64 r.m, .slice r.da r.data.length r.dc, .slice r.ta r.tags.length r.tc, .int .i64 r.born] 38)).drew w.heap.size r := ⟨(hb0.out.drew.cell (p := ⟨v, 0, none⟩) hv).trans c0, (box_new w 38 r).later (Below.refl _ _).drew⟩
  have HS := hidT hS0
  have eg : ∀ args w, Sem.run Try.prog (callFunc 14 args) w = .ok (.enter 14 args) w := by intro args w; go_simp
  clear hS0
  refine region_till (S := fun wz => wz.cell? ⟨v, 0, none⟩ = some (.pointer (some ⟨b, 0, none⟩)) ∧ BoxAt wz w.heap.size r) (d := 6) (by kernel_rfl) ?_
  refine till_take (i := 0) (v := ?_) rfl (by kernel_rfl) (by kernel_rfl) (by kernel_rfl) (by kernel_rfl) (fun _ _ _ h => h) (Or.inl ⟨by rfl, ?_⟩) HS.out ?_; rotate_left; (focus (intro w0 hSw; obtain ⟨s6, s0, s1, s2, s3, s4, s5⟩ := hSw; go_simp; (try with_reducible rfl))); (try simp only [Act.put, List.getElem_toArray, List.getElem_cons_succ, List.getElem_cons_zero, List.setIfInBounds_toArray, List.set_cons_zero, List.set_cons_succ])
  refine till_take (i := 1) (v := ?_) rfl (by kernel_rfl) (by kernel_rfl) (by kernel_rfl) (by kernel_rfl) (fun _ _ _ h => h) (Or.inl ⟨by rfl, ?_⟩) HS.out ?_; rotate_left; (focus (intro w0 hSw; obtain ⟨s6, s0, s1, s2, s3, s4, s5⟩ := hSw; go_simp; (try with_reducible rfl))); (try simp only [Act.put, List.getElem_toArray, List.getElem_cons_succ, List.getElem_cons_zero, List.setIfInBounds_toArray, List.set_cons_zero, List.set_cons_succ])
  refine till_take (i := 2) (v := ?_) rfl (by kernel_rfl) (by kernel_rfl) (by kernel_rfl) (by kernel_rfl) (fun _ _ _ h => h) (Or.inl ⟨by rfl, ?_⟩) HS.out ?_; rotate_left; (focus (intro w0 hSw; obtain ⟨s6, s0, s1, s2, s3, s4, s5⟩ := hSw; go_simp; (try with_reducible rfl))); (try simp only [Act.put, List.getElem_toArray, List.getElem_cons_succ, List.getElem_cons_zero, List.setIfInBounds_toArray, List.set_cons_zero, List.set_cons_succ])
  refine till_take (i := 3) (v := ?_) rfl (by kernel_rfl) (by kernel_rfl) (by kernel_rfl) (by kernel_rfl) (fun _ _ _ h => h) (Or.inl ⟨by rfl, ?_⟩) HS.out ?_; rotate_left; (focus (intro w0 hSw; obtain ⟨s6, s0, s1, s2, s3, s4, s5⟩ := hSw; go_simp; (try with_reducible rfl))); (try simp only [Act.put, List.getElem_toArray, List.getElem_cons_succ, List.getElem_cons_zero, List.setIfInBounds_toArray, List.set_cons_zero, List.set_cons_succ])
  refine till_take (i := 4) (v := ?_) rfl (by kernel_rfl) (by kernel_rfl) (by kernel_rfl) (by kernel_rfl) (fun _ _ _ h => h) (Or.inl ⟨by rfl, ?_⟩) HS.out ?_; rotate_left; (focus (intro w0 hSw; obtain ⟨s6, s0, s1, s2, s3, s4, s5⟩ := hSw; go_simp; (try with_reducible rfl))); (try simp only [Act.put, List.getElem_toArray, List.getElem_cons_succ, List.getElem_cons_zero, List.setIfInBounds_toArray, List.set_cons_zero, List.set_cons_succ])
  refine till_one (i := 5) rfl (by kernel_rfl) ?_
  intro K hK
  refine step_call2 rfl 14 8 9 25 38 rfl eg (.pointer (some ⟨b, 0, none⟩)) r.val rfl rfl .nilIface (fun w' => ∃ a', DStep b d a { d with busy := d.busy ++ [r] } a' w w' ∧ BoxAt w' w.heap.size r) ((start_ok b d a r _ (HV.out.dev.later hb0.out.drew) h2 (HR.out.later hb0.out.drew) HO.out).mono ?_) ?_
  · rintro e w1 ⟨a', he, hs⟩
    exact ⟨he, a', (DStep.same HV.out.dev hb0.out.drew).trans hs, HS.out.2.only hs.only (fun e => by have := HV.out.dev.footLt _ e; omega)⟩
  rintro w1 ⟨a', hs, hbx⟩
  have HVS := hidT (HV.out.step hs)
  have hS1 : w1.cell? ⟨v, 0, none⟩ = some (.pointer (some ⟨b, 0, none⟩)) := HVS.out.at'.cells.1
  refine hK _ _ (fun _ => ⟨hS1, hbx⟩) ?_
  (try simp only [Act.put, List.getElem_toArray, List.getElem_cons_succ, List.getElem_cons_zero, List.setIfInBounds_toArray, List.set_cons_zero, List.set_cons_succ])
  clear hK
  refine till_one (i := 6) rfl (by kernel_rfl) ?_
  intro K hK
  go_simp
  refine hK _ _ (fun h => absurd rfl h) ?_
  (try simp only [Act.put, List.getElem_toArray, List.getElem_cons_succ, List.getElem_cons_zero, List.setIfInBounds_toArray, List.set_cons_zero, List.set_cons_succ])
  clear hK
  refine till_done (by kernel_rfl) ?_ _
  go_wp2
  go_ret
  exact ⟨a', rfl, HVS.out⟩
set_option maxRecDepth 100000 in
set_option maxHeartbeats 400000 in
theorem first_any (r : Rq) (w : World) (hr : r.At w) (h1 : 1 ≤ r.tags.length) : Calls Try.prog 62 #[r.val] w fun e w' => e = .returned (.int .i64 (r.tags.getD 0 0)) ∧ Below w.heap.size w w' := by
  obtain ⟨wr, f, m, da, dc, data, ta, tc, tags, born⟩ := r
  rcases hr.tags with h | ⟨tb, to, h, hc⟩
  · simp only at h h1; rw [h] at h1; simp at h1
  simp only at h h1 hc
  subst h
  have c0 := hc 0 (by omega)
  have lt := lt_of_cell c0
  obtain ⟨x, hx⟩ : ∃ x, tags.getD 0 0 = x := ⟨_, rfl⟩
  rw [hx] at c0
  simp only [Nat.add_zero] at c0
  have h1' : ¬ (tags.length : Int) = 0 := by omega
  have h2' : (0 : Int) < (tags.length : Int) := by omega
  show Calls Try.prog 62 #[(Rq.mk wr f m da dc data (some ⟨tb, to, none⟩) tc tags born).val] w fun e w' => e = .returned (.int .i64 (tags.getD 0 0)) ∧ Below w.heap.size w w'
  rw [hx]
  clear hr hc hx
  go_enter Try.func62, Try.ntmps62
  go_wp2
  go_ret
  exact ⟨rfl, by repeat (first | with_reducible exact Below.refl _ _ | with_reducible refine balloc ?_ _ | with_reducible refine bdrew ?_ | with_reducible refine bset' ?_ (by omega) _ | with_reducible refine bthen ?_ (by assumption))⟩
end Go.Proofs.Ythmeaclekedilac
