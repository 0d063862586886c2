/- A stack of all: End. -/
import Derived.Test.YtgjkdhedkbkagaaGreatJ35
import Derived.Test.YtgjkdhedkbkagaaGreatJ1
import Derived.Test.YtgjkdhedkbkagaaGreatJ32
import Derived.Test.YtgjkdhedkbkagaaGreatJ33
import Derived.Test.YtgjkdhedkbkagaaGreatJ34
namespace Go.Proofs.YtgjkdhedkbkagaaGreat
open Go.RowKit Go.BigFrame Go.Maps
set_option maxRecDepth 100000
attribute [local go_sem] Later.cell Later.frozen

theorem StkMem.setDead {s : Nat} {p : Sk} {A : Sa} {w : World} (h : StkMem s p A w) (b : Bool) : StkMem s { p with dead := b } A w where
  drv := h.drv
  map := h.map
  im := h.im
  nb := h.nb
  hand := h.hand
  hnil := h.hnil
  hcap := h.hcap
  queue := h.queue
  qnil := h.qnil
  qcap := h.qcap
  left := h.left
  sv := h.sv
  vl := h.vl
  ll := h.ll
  hoffX := h.hoffX
  qoffX := h.qoffX
  roffX := h.roffX
  xlt := h.xlt
theorem StkAt.setDead {s : Nat} {p : Sk} {A : Sa} {w : World} (h : StkAt s p A w) (b : Bool) : SStep s p A { p with dead := b } A w (w.setCell ⟨s, 29, none⟩ (.bool b)) := h.put (h.mem.setDead b) 29 _ rfl (fun _ hk => hk) ⟨rfl, rfl, rfl, rfl⟩
set_option maxRecDepth 100000 in
set_option maxHeartbeats 2000000 in
theorem send_out (s : Nat) (p : Sk) (A : Sa) (w : World) (h : StkAt s p A w) (i : Int) (fl : Bool) (hi : i < 0 ∨ (p.dev.busy.length : Int) ≤ i) :
    Calls Tryz.prog 41 #[.pointer (some ⟨s, 0, none⟩), .int .i64 i, .bool fl] w fun e w' => e = .returned (errOf 5) ∧ SOk s p A w w' p.nf := by
  have c1 := h.cell 1 _ rfl
  have hl := h.lt
  have HST := hidT h
  have HI := hidT hi
  clear h hi
  go_enter Tryz.func41, Tryz.ntmps41
  go_wp2_with fail
  refine (vg_none A.v A.b A.bm p.dev A.an A.n A.D i fl w HST.out.mem.drv HI.out).mono ?_
  rintro e w1 ⟨rfl, hb1⟩
  go_wp2
  go_ret
  exact ⟨rfl, p, A, SStep.same' HST.out (by repeat (first | with_reducible exact Below.refl _ _ | with_reducible refine balloc ?_ _ | with_reducible refine bdrew ?_ | with_reducible refine bset' ?_ (by omega) _ | with_reducible refine bthen ?_ (by assumption))), rfl⟩
section
variable {s : Nat} {p : Sk} {A : Sa} {w w' : World} {d' : Dl} {an' : An} {n' : Nat} {D' : DataW Unit}
theorem vfoot_to (h : VStep A.v A.b A.bm p.dev A.an A.n A.D d' an' n' D' w w') : ∀ k, ({ A with an := an', n := n', D := D' } : Sa).foot s k → A.foot s k ∨ w.heap.size ≤ k := by
  rintro k (e | e | e)
  · exact Or.inl (Or.inl e)
  · exact (h.foot k e).imp (fun e => Or.inr (Or.inl e)) id
  · exact Or.inl (Or.inr (Or.inr e))
end
set_option linter.unusedSimpArgs false in
set_option maxRecDepth 100000 in
set_option maxHeartbeats 2000000 in
theorem send_again (s : Nat) (p : Sk) (A : Sa) (w : World) (h : StkAt s p A w) (hI : Inv p) (hT : p.tags ≤ 4000000000000000000) (hA : p.ag ≤ 1000000000) (k : Nat) (r : Rq) (hk : p.dev.busy[k]? = some r) (hf : p.f (r.tags.getD 0 0) < 2) :
    Calls Tryz.prog 41 #[.pointer (some ⟨s, 0, none⟩), .int .i64 k, .bool true] w fun e w' => e = .returned (errOf 0) ∧ SOk s p A w w' ((p.took k).again r).nf := by
  have c1 := h.cell 1 _ rfl
  have hl := h.lt
  have HST := hidT h
  have HV := hidT (h.vreq hI hT hk)
  have HF : Hid (0 ≤ p.f (r.tags.getD 0 0) ∧ p.f (r.tags.getD 0 0) < 2) := ⟨(hI.fr _).1, hf⟩
  have HN : Hid (A.n ≤ 1000000000) := Nat.le_trans h.mem.nb hA
  have HK := hidT hk
  clear h hI hT hA hk hf
  go_enter Tryz.func41, Tryz.ntmps41
  go_wp2_with fail
  refine (vg_again A.v A.b A.bm p.dev A.an A.n A.D k r _ _ w HST.out.mem.drv HV.out (HST.out.mem.map _) HF.out HN.out).mono ?_
  rintro e w1 ⟨a', rfl, hv⟩
  have HS1 := hidT (StkAt.step (f' := fun t => if t = r.tags.getD 0 0 then p.f t + 1 else p.f t) (p.ag + 1) (by have := HST.out.mem.nb; omega) HST.out hv (by
    have hm := HST.out.mem.map.put HST.out.mem.im (r.tags.getD 0 0) (p.f (r.tags.getD 0 0) + 1)
    intro t
    have := hm t
    rw [this]
    by_cases e : t = r.tags.getD 0 0
    · simp only [e, if_true]
    · simp only [e, if_false]) hv.at'.map.isMap (fun q hq => by
      have hm : q ∈ p.dev.busy := by
        rcases List.mem_append.1 hq with h' | h'
        · exact List.mem_of_mem_eraseIdx h'
        · rw [List.mem_singleton.1 h']; exact List.mem_of_getElem? HK.out
      exact Rq.Off.step (HST.out.mem.drv.dev.reqs q hm).1 (HST.out.mem.roffX q (List.mem_append_right _ hm)) (off_to hv)))
  clear hv
  go_wp2
  go_ret
  exact ⟨rfl, _, _, HS1.out.later (by repeat (first | with_reducible exact Below.refl _ _ | with_reducible refine balloc ?_ _ | with_reducible refine bdrew ?_ | with_reducible refine bset' ?_ (by omega) _ | with_reducible refine bthen ?_ (by assumption))), rfl⟩
set_option linter.unusedSimpArgs false in
set_option maxRecDepth 100000 in
set_option maxHeartbeats 2000000 in
theorem send_dead (s : Nat) (p : Sk) (A : Sa) (w : World) (h : StkAt s p A w) (hI : Inv p) (hT : p.tags ≤ 3999999999999999990) (hU : p.uses ≤ 3999999999999999990) (k : Nat) (r : Rq) (hk : p.dev.busy[k]? = some r) (hf : ¬ p.f (r.tags.getD 0 0) < 2) (hw : r.wr = true) (q : Sk) (hq : ({ (p.took k).lost r with dead := true } : Sk).nf.serve = q) :
    Calls Tryz.prog 41 #[.pointer (some ⟨s, 0, none⟩), .int .i64 k, .bool true] w fun e w' => e = .returned (errOf 0) ∧ SOk s p A w w' q := by
  have c1 := h.cell 1 _ rfl
  have hl := h.lt
  have HST := hidT h
  have HV := hidT (h.vreq hI (by omega) hk)
  have HF : Hid (2 ≤ p.f (r.tags.getD 0 0) ∧ p.f (r.tags.getD 0 0) ≤ 100) := ⟨by omega, by have := (hI.fr (r.tags.getD 0 0)).2; omega⟩
  have HIL := hidT ((hI.took k).lost r true)
  have HQ := hidT hq
  have HB := hidT (And.intro hT hU)
  have HW := hidT hw
  clear h hI hT hU hk hf hq
  go_enter Tryz.func41, Tryz.ntmps41
  go_wp2_with fail
  refine (vg_done A.v A.b A.bm p.dev A.an A.n A.D k r _ _ w HST.out.mem.drv HV.out (HST.out.mem.map _) HF.out).mono ?_
  rintro e w1 ⟨a', rfl, hv⟩
  have HS1 := hidT (StkAt.step (f' := fun t => if t = r.tags.getD 0 0 then 0 else p.f t) p.ag HST.out.mem.nb HST.out hv (HST.out.mem.map.del (r.tags.getD 0 0)) hv.at'.map.isMap (fun q hq => by
      have hm : q ∈ p.dev.busy := List.mem_of_mem_eraseIdx hq
      exact Rq.Off.step (HST.out.mem.drv.dev.reqs q hm).1 (HST.out.mem.roffX q (List.mem_append_right _ hm)) (off_to hv)))
  clear hv
  have y29 := HS1.out.at'.cell 29 _ rfl
  have x29 := HS1.out.at'.fz 29
  have l1 := HS1.out.at'.lt
  rw [show resV r none 0 0 8 = .agg #[.bool true, .int .i64 r.f, .int .i64 r.m, .slice r.da r.data.length r.dc, .slice r.ta r.tags.length r.tc, .int .i64 r.born, .slice none 0 0, .int .i64 8] by unfold resV; rw [HW.out]]
  go_wp2_with fail
  have HS2 := hidT (HS1.out.trans (HS1.out.at'.setDead true))
  refine (serve_any s ({ (p.took k).lost r with dead := true } : Sk) _ _ (HS2.out.at'.later (by repeat (first | with_reducible exact Below.refl _ _ | with_reducible refine balloc ?_ _ | with_reducible refine bdrew ?_ | with_reducible refine bset' ?_ (by omega) _ | with_reducible refine bthen ?_ (by assumption)))) HIL.out HB.out.1 HB.out.2 q HQ.out).mono ?_
  rintro e w4 ⟨rfl, hok⟩
  have HO := hidT (SOk.trans (HS2.out.later (by repeat (first | with_reducible exact Below.refl _ _ | with_reducible refine balloc ?_ _ | with_reducible refine bdrew ?_ | with_reducible refine bset' ?_ (by omega) _ | with_reducible refine bthen ?_ (by assumption)))) hok)
  clear hok
  go_wp2
  go_ret
  exact ⟨rfl, HO.out⟩
set_option linter.unusedSimpArgs false in
set_option maxRecDepth 100000 in
set_option maxHeartbeats 2000000 in
theorem send_lost (s : Nat) (p : Sk) (A : Sa) (w : World) (h : StkAt s p A w) (hI : Inv p) (hT : p.tags ≤ 3999999999999999990) (hU : p.uses ≤ 3999999999999999990) (k : Nat) (r : Rq) (hk : p.dev.busy[k]? = some r) (hf : ¬ p.f (r.tags.getD 0 0) < 2) (hw : r.wr = false) (q : Sk) (hq : (((p.took k).lost r).nf.readers (hasB r.f r.m) ByteArray.empty 8).serve = q) :
    Calls Tryz.prog 41 #[.pointer (some ⟨s, 0, none⟩), .int .i64 k, .bool true] w fun e w' => e = .returned (errOf 0) ∧ SOk s p A w w' q := by
  have c1 := h.cell 1 _ rfl
  have hl := h.lt
  have HST := hidT h
  have HV := hidT (h.vreq hI (by omega) hk)
  have HF : Hid (2 ≤ p.f (r.tags.getD 0 0) ∧ p.f (r.tags.getD 0 0) ≤ 100) := ⟨by omega, by have := (hI.fr (r.tags.getD 0 0)).2; omega⟩
  have HIL := hidT ((hI.took k).lost' r)
  have HQ := hidT hq
  have HB := hidT (And.intro hT hU)
  have HW := hidT hw
  clear h hI hT hU hk hf hq
  go_enter Tryz.func41, Tryz.ntmps41
  go_wp2_with fail
  refine (vg_done A.v A.b A.bm p.dev A.an A.n A.D k r _ _ w HST.out.mem.drv HV.out (HST.out.mem.map _) HF.out).mono ?_
  rintro e w1 ⟨a', rfl, hv⟩
  have HS1 := hidT (StkAt.step (f' := fun t => if t = r.tags.getD 0 0 then 0 else p.f t) p.ag HST.out.mem.nb HST.out hv (HST.out.mem.map.del (r.tags.getD 0 0)) hv.at'.map.isMap (fun q hq => by
      have hm : q ∈ p.dev.busy := List.mem_of_mem_eraseIdx hq
      exact Rq.Off.step (HST.out.mem.drv.dev.reqs q hm).1 (HST.out.mem.roffX q (List.mem_append_right _ hm)) (off_to hv)))
  clear hv
  have l1 := HS1.out.at'.lt
  rw [show resV r none 0 0 8 = .agg #[.bool false, .int .i64 r.f, .int .i64 r.m, .slice r.da r.data.length r.dc, .slice r.ta r.tags.length r.tc, .int .i64 r.born, .slice none 0 0, .int .i64 8] by unfold resV; rw [HW.out]]
  go_wp2_with fail
  refine (readers_any s ((p.took k).lost r) _ _ (HS1.out.at'.later (by repeat (first | with_reducible exact Below.refl _ _ | with_reducible refine balloc ?_ _ | with_reducible refine bdrew ?_ | with_reducible refine bset' ?_ (by omega) _ | with_reducible refine bthen ?_ (by assumption)))) HIL.out r.f r.m ByteArray.empty 8 _ rfl).mono ?_
  rintro e w2 ⟨rfl, p2, A2, hs2, hn2⟩
  have HS2 : Hid (SStep s p A p2 A2 w w2) := (HS1.out.later (by repeat (first | with_reducible exact Below.refl _ _ | with_reducible refine balloc ?_ _ | with_reducible refine bdrew ?_ | with_reducible refine bset' ?_ (by omega) _ | with_reducible refine bthen ?_ (by assumption)))).trans hs2
  have HI2 : Hid (Inv p2) := by
    have := HIL.out.nf.readers (hasB r.f r.m) ByteArray.empty 8
    rw [← hn2] at this
    exact this.of_nf
  have HB2 : Hid (p2.tags ≤ 3999999999999999990 ∧ p2.uses ≤ 3999999999999999990) := by
    have e1 : p2.nf.tags = p.tags := by rw [hn2]; rfl
    have e2 : p2.nf.uses = p.uses := by rw [hn2]; rfl
    have := HB.out
    exact ⟨e1 ▸ this.1, e2 ▸ this.2⟩
  have HQ2 : Hid (p2.nf.serve = q) := by
    show p2.nf.serve = q
    rw [hn2]; exact HQ.out
  clear hs2 hn2
  go_wp2_with fail
  refine (serve_any s p2 A2 _ HS2.out.at' HI2.out HB2.out.1 HB2.out.2 q HQ2.out).mono ?_
  rintro e w4 ⟨rfl, hok⟩
  have HO := hidT (SOk.trans HS2.out hok)
  clear hok
  go_wp2
  go_ret
  exact ⟨rfl, HO.out⟩
set_option linter.unusedSimpArgs false in
set_option maxRecDepth 100000 in
set_option maxHeartbeats 2000000 in
theorem send_ok (s : Nat) (p : Sk) (A : Sa) (w : World) (h : StkAt s p A w) (hI : Inv p) (hS : DevShort p.dev) (hT : p.tags ≤ 3999999999999999980) (hU : p.uses ≤ 3999999999999999980) (k : Nat) (r : Rq) (hk : p.dev.busy[k]? = some r) (q : Sk) (hq : (((p.took k).did r).nf.wentWell r (didRead p.dev r)).serve = q) :
    Calls Tryz.prog 41 #[.pointer (some ⟨s, 0, none⟩), .int .i64 k, .bool false] w fun e w' => e = .returned (errOf 0) ∧ SOk s p A w w' q := by
  have c1 := h.cell 1 _ rfl
  have hl := h.lt
  have HST := hidT h
  have hmem : r ∈ p.dev.busy := List.mem_of_getElem? hk
  have HG := hidT (hI.good r (List.mem_append_right _ hmem))
  have HV := hidT (h.vreq hI (by omega) hk)
  have HI1 := hidT ((hI.took k).did r)
  have HQ := hidT hq
  have HB := hidT (And.intro hT hU)
  have HSH := hidT (didRead_short hS r)
  have HAT := hidT (h.mem.drv.dev.reqs r hmem).1
  have HOF := hidT (h.mem.roff r (List.mem_append_right _ hmem))
  clear h hI hT hU hk hq hmem hS
  go_enter Tryz.func41, Tryz.ntmps41
  go_wp2_with fail
  refine (vg_ok A.v A.b A.bm p.dev A.an A.n A.D k r _ w HST.out.mem.drv HV.out HG.out).mono ?_
  rintro e w1 ⟨a', xa, xc, xs, rfl, hxs, hx1, hx2, hv⟩
  have HXS := hidT hxs.out
  have HX1 := hidT hx1
  have HX2 := hidT hx2
  have HFT := hidT (vfoot_to (s := s) hv)
  have HR1 : Hid (r.At w1) := HAT.out.frame ⟨fun he ad ha e => HOF.out.1 he ad ha (Or.inr (Or.inl e)), fun he ad ha e => HOF.out.2 he ad ha (Or.inr (Or.inl e))⟩ hv.only
  have HRO : Hid (r.Off (({ A with an := a', n := A.n, D := A.D.del (.int .i64 (r.tags.getD 0 0)) } : Sa).foot s)) := Rq.Off.step HAT.out HOF.out HFT.out
  have HXO : Hid (∀ ad, xa = some ad → ¬ ({ A with an := a', n := A.n, D := A.D.del (.int .i64 (r.tags.getD 0 0)) } : Sa).foot s ad.block) := by
    rintro ad had (e | e | ⟨i, hi, q', hq', e⟩)
    · have := (HX2.out ad had).1; have := HST.out.lt; omega
    · exact (HX2.out ad had).2 e
    · have := (HX2.out ad had).1; have := HST.out.mem.lrow hi hq'; omega
  have HS1 := hidT (StkAt.step (f' := fun t => if t = r.tags.getD 0 0 then 0 else p.f t) p.ag HST.out.mem.nb HST.out hv (HST.out.mem.map.del (r.tags.getD 0 0)) hv.at'.map.isMap (fun q hq => by
      rw [Dl.did_busy] at hq
      have hm : q ∈ p.dev.busy := List.mem_of_mem_eraseIdx hq
      exact Rq.Off.step (HST.out.mem.drv.dev.reqs q hm).1 (HST.out.mem.roffX q (List.mem_append_right _ hm)) (off_to hv)))
  have l1 := HS1.out.at'.lt
  have HWW : Hid (∀ W, Below w1.heap.size w1 W → Calls Tryz.prog 63 #[.pointer (some ⟨s, 0, none⟩), resV r xa xs.length xc 0] W fun e w' => e = .returned (.tuple #[]) ∧ SOk s ((p.took k).did r) { A with an := a', n := A.n, D := A.D.del (.int .i64 (r.tags.getD 0 0)) } W w' (((p.took k).did r).nf.wentWell r (didRead p.dev r))) := by
    intro W hW
    cases hw : r.wr
    · refine wentWell_rd s ((p.took k).did r) _ W (HS1.out.at'.later hW) HI1.out r (by have := HB.out; show p.uses ≤ _; omega) HG.out hw xa xc xs (HX1.out.later hW) (fun _ ad ha => HXO.out ad ha) ?_ ?_ _ (by rw [HXS.out])
      · rw [HXS.out]; unfold didRead; rw [hw]; exact readTo_length _ _ _
      · rw [HXS.out]; exact HSH.out
    · exact wentWell_wr s ((p.took k).did r) _ W (HS1.out.at'.later hW) HI1.out r HG.out hw (HR1.out.later hW).data HRO.out.1 xa xs.length xc (didRead p.dev r) HSH.out _ rfl
  clear hxs hx1 hx2 hv
  generalize hn : xs.length = n at *
  go_wp2_with fail
  refine (HWW.out _ (by repeat (first | with_reducible exact Below.refl _ _ | with_reducible refine balloc ?_ _ | with_reducible refine bdrew ?_ | with_reducible refine bset' ?_ (by omega) _ | with_reducible refine bthen ?_ (by assumption)))).mono ?_
  rintro e w2 ⟨rfl, p2, A2, hs2, hn2⟩
  have HS2 : Hid (SStep s p A p2 A2 w w2) := (HS1.out.later (by repeat (first | with_reducible exact Below.refl _ _ | with_reducible refine balloc ?_ _ | with_reducible refine bdrew ?_ | with_reducible refine bset' ?_ (by omega) _ | with_reducible refine bthen ?_ (by assumption)))).trans hs2
  have hmil := mild_wentTo ((p.took k).did r).nf r (didRead p.dev r) r.m.toNat
  have HI2 : Hid (Inv p2) := by
    have := HI1.out.nf.wentTo r HG.out (didRead p.dev r) HSH.out r.m.toNat (Nat.le_refl _)
    rw [show ((p.took k).did r).nf.wentTo r (didRead p.dev r) r.m.toNat = p2.nf from hn2.symm] at this
    exact this.of_nf
  have HB2 : Hid (p2.tags ≤ 3999999999999999990 ∧ p2.uses ≤ 3999999999999999990) := by
    have e0 : ((p.took k).did r).nf.wentTo r (didRead p.dev r) r.m.toNat = p2.nf := hn2.symm
    rw [e0] at hmil
    have e1 : p2.tags ≤ p.tags + r.m.toNat := hmil.tags
    have e2 : p2.uses ≤ p.uses + r.m.toNat := hmil.uses
    have := HB.out
    have := HG.out.bds
    exact ⟨by omega, by omega⟩
  have HQ2 : Hid (p2.nf.serve = q) := by
    show p2.nf.serve = q
    rw [hn2]; exact HQ.out
  clear hs2 hn2 hmil
  go_wp2_with fail
  refine (serve_any s p2 A2 _ HS2.out.at' HI2.out HB2.out.1 HB2.out.2 q HQ2.out).mono ?_
  rintro e w4 ⟨rfl, hok⟩
  have HO := hidT (SOk.trans HS2.out hok)
  clear hok
  go_wp2
  go_ret
  exact ⟨rfl, HO.out⟩
theorem send_any (s : Nat) (p : Sk) (A : Sa) (w : World) (h : StkAt s p A w) (hI : Inv p) (hS : DevShort p.dev) (hT : p.tags ≤ 3999999999999999980) (hU : p.uses ≤ 3999999999999999980) (hA : p.ag ≤ 1000000000) (i : Int) (fl : Bool) (n : Int) (q : Sk) (hq : p.nf.end' i fl = (n, q)) :
    Calls Tryz.prog 41 #[.pointer (some ⟨s, 0, none⟩), .int .i64 i, .bool fl] w fun e w' => e = .returned (errOf n) ∧ SOk s p A w w' q := by
  by_cases hi : i < 0 ∨ (p.dev.busy.length : Int) ≤ i
  · rw [end_out_nf hi] at hq
    cases hq
    exact send_out s p A w h i fl hi
  · obtain ⟨k, rfl⟩ : ∃ k : Nat, i = k := ⟨i.toNat, by omega⟩
    have hk : k < p.dev.busy.length := by omega
    have hk' := List.getElem?_eq_getElem hk
    cases fl
    · rw [end_ok_nf hk'] at hq
      simp only [Prod.mk.injEq] at hq
      obtain ⟨rfl, hq⟩ := hq
      exact send_ok s p A w h hI hS hT hU k _ hk' q hq
    · by_cases hf : p.f (p.dev.busy[k].tags.getD 0 0) < 2
      · rw [end_again_nf hk' hf] at hq
        cases hq
        exact send_again s p A w h hI (by omega) hA k _ hk' hf
      · cases hw : p.dev.busy[k].wr
        · rw [end_lost_nf hk' hf hw] at hq
          simp only [Prod.mk.injEq] at hq
          obtain ⟨rfl, hq⟩ := hq
          exact send_lost s p A w h hI (by omega) (by omega) k _ hk' hf hw q hq
        · rw [end_dead_nf hk' hf hw] at hq
          simp only [Prod.mk.injEq] at hq
          obtain ⟨rfl, hq⟩ := hq
          exact send_dead s p A w h hI (by omega) (by omega) k _ hk' hf hw q hq
end Go.Proofs.YtgjkdhedkbkagaaGreat
/- Steps of a stack, in memory; LightSteps. -/
namespace Go.Proofs.YtgjkdhedkbkagaaGreat
open Go.RowKit Go.BigFrame
set_option maxRecDepth 100000
attribute [local go_sem] Later.cell Later.frozen

/-- What is done to a stack. -/
structure Sp where
  word : ByteArray
  a : Int
  b : Int
  data : ByteArray
def Sp.cell (x : Sp) : Nat → Value
  | 0 => .string x.word
  | 1 => .int .i64 x.a
  | 2 => .int .i64 x.b
  | _ => .string x.data
abbrev Sp.val (x : Sp) : Value := .agg #[.string x.word, .int .i64 x.a, .int .i64 x.b, .string x.data]
def StepsAt (w : World) (a : Option Addr) (l : List Sp) : Prop :=
  (l = [] ∨ ∃ b o, a = some ⟨b, o, none⟩ ∧ ∀ i (h : i < l.length) j, j < 4 → w.cell? ⟨b, o + i * 4 + j, none⟩ = some (l[i].cell j)) ∧ l.length ≤ 9223372036854775807
theorem StepsAt.later {w w' : World} {a : Option Addr} {l : List Sp} (h : StepsAt w a l) (hb : Below w.heap.size w w') : StepsAt w' a l := by
  obtain ⟨h1, h3⟩ := h
  refine ⟨?_, h3⟩
  rcases h1 with h | ⟨b, o, ha, hc⟩
  · exact Or.inl h
  · exact Or.inr ⟨b, o, ha, fun i hi j hj => cell_later' hb (hc i hi j hj)⟩
theorem StepsAt.form {w : World} {a : Option Addr} {l : List Sp} (h : StepsAt w a l) : l = [] ∨ ∃ b o, a = some ⟨b, o, none⟩ := by
  rcases h.1 with h | ⟨b, o, ha, _⟩
  · exact Or.inl h
  · exact Or.inr ⟨b, o, ha⟩
theorem StepsAt.cells {w : World} {b o : Nat} {l : List Sp} (h : StepsAt w (some ⟨b, o, none⟩) l) {i : Nat} (hi : i < l.length) :
    w.cell? ⟨b, o + i * 4, none⟩ = some (.string l[i].word) ∧ w.cell? ⟨b, o + i * 4 + 1, none⟩ = some (.int .i64 l[i].a) ∧ w.cell? ⟨b, o + i * 4 + 2, none⟩ = some (.int .i64 l[i].b) ∧ w.cell? ⟨b, o + i * 4 + 3, none⟩ = some (.string l[i].data) := by
  rcases h.1 with rfl | ⟨b', o', ha, hc⟩
  · exact absurd hi (Nat.not_lt_zero _)
  · simp only [Option.some.injEq, Addr.mk.injEq, and_true] at ha
    obtain ⟨rfl, rfl⟩ := ha
    exact ⟨hc i hi 0 (by omega), hc i hi 1 (by omega), hc i hi 2 (by omega), hc i hi 3 (by omega)⟩
def lightS (x : Sp) : Bool := decide (x.word.size ≤ 20) && decide (x.data.size ≤ 20)
def lightsS (l : List Sp) (n : Nat) : Bool := decide (l.length ≤ n) && l.all lightS
set_option maxHeartbeats 400000 in
theorem lightsS_long (l : List Sp) (a : Option Addr) (c n : Nat) (w : World) (_h3 : l.length ≤ 9223372036854775807) (h1 : n < l.length) :
    Calls Tryz.prog 15 #[.slice a l.length c, .int .i64 n] w fun e w' => e = .returned (.bool false) ∧ Below w.heap.size w w' := by
  have h1' : (n : Int) < (l.length : Int) := by omega
  go_enter Tryz.func15, Tryz.ntmps15
  go_wp2
  go_ret
  exact ⟨rfl, by repeat (first | with_reducible exact Below.refl _ _ | with_reducible refine balloc ?_ _ | with_reducible refine bdrew ?_ | with_reducible refine bset' ?_ (by omega) _ | with_reducible refine bthen ?_ (by assumption))⟩
set_option maxHeartbeats 1000000 in
theorem lightsS_short (l : List Sp) (a : Option Addr) (c n : Nat) (w : World) (hl : StepsAt w a l) (h1 : l.length ≤ n) (hn : n ≤ 1000) :
    Calls Tryz.prog 15 #[.slice a l.length c, .int .i64 n] w fun e w' => e = .returned (.bool (l.all lightS)) ∧ Below w.heap.size w w' := by
  have h1' : ¬ (n : Int) < (l.length : Int) := by omega
  rcases hl.form with rfl | ⟨b, o, rfl⟩
  · go_enter Tryz.func15, Tryz.ntmps15
    go_wp2
    go_loop [5] (fun i => i = .int .i64 0) (fun _ => 0)
    case atStart => rfl
    case round =>
      subst hrel
      go_wp2
      go_ret
      exact ⟨rfl, by repeat (first | with_reducible exact Below.refl _ _ | with_reducible refine balloc ?_ _ | with_reducible refine bdrew ?_ | with_reducible refine bset' ?_ (by omega) _ | with_reducible refine bthen ?_ (by assumption))⟩
  have HL : Hid (StepsAt w (some ⟨b, o, none⟩) l) := hl
  have hlen := hl.2
  clear hl
  go_enter Tryz.func15, Tryz.ntmps15
  go_wp2
  go_loopw [5] (fun i wr => ∃ k : Nat, k ≤ l.length ∧ i = .int .i64 k ∧ ((l.take k).all lightS) = true ∧ Below w.heap.size w wr) (fun i _ => l.length - (intOf i).toNat)
  case atStart => exact ⟨0, by omega, rfl, rfl, Below.refl _ _⟩
  case round =>
    obtain ⟨k, hk, rfl, hno, HB⟩ := hrel
    have HN : Hid (((l.take k).all lightS) = true) := hno
    clear hno
    by_cases hlt : k < l.length
    · obtain ⟨c0, c1, c2, c3⟩ := (HL.out.later HB).cells hlt
      have hlt' : (k : Int) < (l.length : Int) := by omega
      have HE : Hid (lightS l[k] = (decide (l[k].word.size ≤ 20) && decide (l[k].data.size ≤ 20))) := (show _ = _ from rfl)
      generalize hwd : l[k].word = wd at *
      generalize hdt : l[k].data = dt at *
      clear hwd hdt
      by_cases g1 : wd.size ≤ 20
      · have g1' : ¬ (20 : Int) < (wd.size : Int) := by omega
        by_cases g2 : dt.size ≤ 20
        · have g2' : ¬ (20 : Int) < (dt.size : Int) := by omega
          have hb : Hid (lightS l[k] = true) := HE.out.trans (by rw [decide_eq_true g1, decide_eq_true g2]; rfl)
          clear HE
          go_wp2
          go_roundw
          case rel => exact ⟨k + 1, by omega, by go_num, all_take hlt HN.out hb.out, HB⟩
          case measure => simp [intOf]; omega
        · have g2' : (20 : Int) < (dt.size : Int) := by omega
          have hb : Hid (lightS l[k] = false) := HE.out.trans (by rw [decide_eq_true g1, decide_eq_false g2]; rfl)
          clear HE
          go_wp2
          go_ret
          exact ⟨ret_bool (all_stop hlt hb.out).symm, HB⟩
      · have g1' : (20 : Int) < (wd.size : Int) := by omega
        have hb : Hid (lightS l[k] = false) := HE.out.trans (by rw [decide_eq_false g1]; rfl)
        clear HE
        go_wp2
        go_ret
        exact ⟨ret_bool (all_stop hlt hb.out).symm, HB⟩
    · go_wp2
      go_ret
      exact ⟨ret_bool (all_end (by omega) HN.out).symm, HB⟩
theorem lightsS_any (l : List Sp) (a : Option Addr) (c n : Nat) (w : World) (hl : StepsAt w a l) (hn : n ≤ 1000) (b : Bool) (hb : lightsS l n = b) :
    Calls Tryz.prog 15 #[.slice a l.length c, .int .i64 n] w fun e w' => e = .returned (.bool b) ∧ Below w.heap.size w w' := by
  subst hb
  unfold lightsS
  by_cases h : l.length ≤ n
  · rw [decide_eq_true h, Bool.true_and]; exact lightsS_short l a c n w hl h hn
  · rw [decide_eq_false h, Bool.false_and]; exact lightsS_long l a c n w hl.2 (by omega)
end Go.Proofs.YtgjkdhedkbkagaaGreat
/- A stack of all: steps. -/
namespace Go.Proofs.YtgjkdhedkbkagaaGreat
open Go.RowKit
set_option maxRecDepth 100000

def wRead : ByteArray := ⟨#[114, 101, 97, 100]⟩
def wWrite : ByteArray := ⟨#[119, 114, 105, 116, 101]⟩
def wSync : ByteArray := ⟨#[115, 121, 110, 99]⟩
def wTick : ByteArray := ⟨#[116, 105, 99, 107]⟩
def wClean : ByteArray := ⟨#[99, 108, 101, 97, 110]⟩
def wDispatch : ByteArray := ⟨#[100, 105, 115, 112, 97, 116, 99, 104]⟩
def wEnd : ByteArray := ⟨#[101, 110, 100]⟩
def wFault : ByteArray := ⟨#[102, 97, 117, 108, 116]⟩
def wRound : ByteArray := ⟨#[114, 111, 117, 110, 100]⟩
/-- A step: the error's number, and what is then. -/
def Sk.doStep (p : Sk) (x : Sp) : Int × Sk :=
  if x.word = wRead then p.ask x.a 1 x.b ByteArray.empty
  else if x.word = wWrite then p.ask x.a 2 x.b x.data
  else if x.word = wSync then p.ask x.a 3 0 ByteArray.empty
  else if x.word = wTick then (0, p.tick)
  else if x.word = wClean then (0, p.clean.2)
  else if x.word = wDispatch then (0, p.dispatch.2)
  else if x.word = wEnd then p.end' x.a false
  else if x.word = wFault then p.end' x.a true
  else if x.word = wRound then (0, p.round)
  else (0, p)
def Sk.steps (p : Sk) (l : List Sp) : Sk := l.foldl (fun q x => (q.doStep x).2) p
theorem Fit.doStep {n : Nat} {p : Sk} (h : Fit n p) (x : Sp) : Fit (n + 11) (p.doStep x).2 := by
  unfold Sk.doStep
  split
  · exact (h.ask _ _ _ _).mono (by omega)
  split
  · exact (h.ask _ _ _ _).mono (by omega)
  split
  · exact (h.ask _ _ _ _).mono (by omega)
  split
  · exact h.tick.mono (by omega)
  split
  · exact h.clean.mono (by omega)
  split
  · exact h.dispatch.mono (by omega)
  split
  · exact (h.end' _ _).mono (by omega)
  split
  · exact (h.end' _ _).mono (by omega)
  split
  · exact h.round
  · exact h.mono (by omega)
theorem Fit.steps (l : List Sp) : ∀ {n : Nat} {p : Sk}, Fit n p → Fit (n + 11 * l.length) (p.steps l) := by
  induction l with
  | nil => intro n p h; exact h
  | cons x l ih => intro n p h; exact (ih (h.doStep x)).mono (by rw [List.length_cons]; omega)
theorem addF_ne {l : List Rq} {r : Rq} {L : List Rq} (h : addF l r = some L) : L ≠ [] := by
  unfold addF at h
  split at h
  · cases h
  · split at h
    · rename_i k hk
      have hk' := (List.findIdx?_eq_some_iff_getElem.1 hk).1
      obtain rfl := Option.some.inj h
      intro e
      have : (l.set k (joinE (l.getD k r) r)).length = 0 := by rw [e]; rfl
      rw [List.length_set] at this
      omega
    · split at h
      · obtain rfl := Option.some.inj h
        simp
      · cases h
theorem askQ_queue_ne {p : Sk} (hq : p.queue ≠ []) (pl : Int) (wr : Bool) (data : List ByteArray) : (p.askQ pl wr data).2.queue ≠ [] := by
  rcases askQ_cases (p := p) pl wr data with ⟨_, e⟩ | ⟨L, e1, e⟩
  · rw [e]; exact hq
  · rw [e]; exact addF_ne e1
theorem serve1_queue_ne {p : Sk} (hq : p.queue ≠ []) (i : Nat) : (p.serve1 i).queue ≠ [] := by
  unfold Sk.serve1
  split
  · unfold Sk.serveRead
    split
    · exact hq
    · split
      · exact hq
      · exact askQ_queue_ne hq _ _ _
  split
  · unfold Sk.serveWrite
    split
    · exact hq
    split
    · exact hq
    split
    · exact hq
    · exact hq
  split
  · unfold Sk.serveSync
    split
    · exact hq
    split
    · exact hq
    · exact hq
  · exact hq
theorem serve_queue_ne {p : Sk} (hq : p.queue ≠ []) : p.serve.queue ≠ [] := serve1_queue_ne (serve1_queue_ne (serve1_queue_ne hq 0) 1) 2
theorem put_dirty_ge {l m : List Bf} {x : Bf} {H : Int → Bool} (h8 : l.length ≤ 8) (h : putB l x H = some m) (hd : x.dirty = true) : dirtyB l ≤ dirtyB m ∧ 1 ≤ dirtyB m := by
  rcases putB_putsM h8 h with ⟨k, hk, _, rfl⟩ | ⟨_, _, rfl⟩ | ⟨_, _, k, hk, hr, rfl⟩
  · have := dirtyB_set hk x
    rw [hd] at this
    simp only [if_true] at this
    split at this
    · rename_i h1
      have : 0 < dirtyB l := by rw [dirtyB_count]; exact List.countP_pos_iff.2 ⟨_, List.getElem_mem hk, h1⟩
      omega
    · omega
  · rw [dirtyB_insL, hd]; simp
  · have hf : fitB false H l[k] = true := by
      rcases leastU_spec (fitB false H) l l.length (Nat.le_refl _) with ⟨h1, _⟩ | ⟨k', hk', _, h1, h2, _⟩
      · omega
      · obtain rfl : k = k' := by omega
        exact h2
    rw [dirtyB_insL, dirtyB_erase hk (fitB_false hf).1, hd]; simp
theorem serve1_dirty_ge {p : Sk} (h : Inv p) (i : Nat) : dirtyB p.hand ≤ dirtyB (p.serve1 i).hand := by
  unfold Sk.serve1
  split
  · unfold Sk.serveRead
    split
    · show _ ≤ dirtyB (useL _ _ _); rw [dirty_useL]; exact Nat.le_refl _
    · split
      · exact Nat.le_refl _
      · rcases askQ_cases (p := p) (p.client i).pl false [] with ⟨_, e⟩ | ⟨L, e1, e⟩ <;> rw [e] <;> exact Nat.le_refl _
  split
  · unfold Sk.serveWrite
    split
    · exact Nat.le_refl _
    split
    · exact Nat.le_refl _
    split
    · rename_i l e
      exact (put_dirty_ge h.hand.len e rfl).1
    · exact Nat.le_refl _
  split
  · unfold Sk.serveSync
    split
    · exact Nat.le_refl _
    split
    · exact Nat.le_refl _
    · exact Nat.le_refl _
  · exact Nat.le_refl _
theorem serve1_busy (p : Sk) (i : Nat) : (p.serve1 i).dev.busy = p.dev.busy := by
  rcases (mild_serve1 p i).dev with e | e <;> rw [e]
  rfl
theorem dirty_some {l : List Bf} (h : 1 ≤ dirtyB l) : ∃ x ∈ l, x.dirty = true := by
  rw [dirtyB_count] at h
  exact List.countP_pos_iff.1 (Nat.lt_of_lt_of_le Nat.zero_lt_one h)
theorem dirty_of {l : List Bf} {x : Bf} (hx : x ∈ l) (hd : x.dirty = true) : 1 ≤ dirtyB l := by
  rw [dirtyB_count]
  exact List.countP_pos_iff.2 ⟨x, hx, hd⟩
theorem held_none {p : Sk} (hq : p.queue = []) (hb : p.dev.busy = []) (pl : Int) : p.held pl = false := by
  unfold Sk.held; rw [hq, hb]; rfl
/-- Who is served where nothing is on its way: it waits no more, or for dirty sectors, or something waits then. -/
theorem serve1_stuck {p : Sk} (h : Inv p) (i : Nat) (hi : i < 3) (hq : p.queue = []) (hb : p.dev.busy = []) (hq' : (p.serve1 i).queue = []) :
    ((p.serve1 i).client i).kind = 0 ∨ (p.dead = false ∧ 1 ≤ dirtyB (p.serve1 i).hand ∧ (((p.serve1 i).client i).kind = 2 ∨ ((p.serve1 i).client i).kind = 3)) := by
  have hk := (h.client i).kind
  unfold Sk.serve1 at hq' ⊢
  split
  · rename_i h1
    rw [if_pos h1] at hq'
    have hpl := (h.client i).pl (by rw [h1]; omega)
    unfold Sk.serveRead at hq' ⊢
    cases e : getB p.hand (p.client i).pl with
    | some b => left; simp only; rw [answer_client _ (by exact h.cl3) hi]
    | none =>
      rw [e] at hq'
      simp only [held_none hq hb] at hq'
      simp only [Bool.false_eq_true, if_false] at hq'
      exfalso
      rcases askQ_cases (p := p) (p.client i).pl false [] with ⟨e1, e2⟩ | ⟨L, e1, e2⟩
      · have := addF_none h.queue.1 (reqOf_good h _ hpl false [] (Or.inr ⟨rfl, rfl⟩)) (by rw [hq]; intro q hq; cases hq) e1
        rw [hq] at this
        simp at this
      · rw [e2] at hq'
        exact addF_ne e1 hq'
  · rename_i h1
    rw [if_neg h1] at hq'
    split
    · rename_i h2
      rw [if_pos h2] at hq'
      unfold Sk.serveWrite
      split
      · left; rw [answer_client _ h.cl3 hi]
      · rename_i hd
        have hd' : p.dead = false := by simpa using hd
        split
        · rename_i h6
          right
          exact ⟨hd', by omega, Or.inl h2⟩
        · split
          · left; rw [answer_client _ (by exact h.cl3) hi]
          · rename_i e
            exfalso
            obtain ⟨_, e8, e9⟩ := putB_none h.hand e
            have hall : ∀ x ∈ p.hand, x.dirty = true := fun x hx => by
              cases hxd : x.dirty
              · have := e9 x hx hxd
                rw [held_none hq hb] at this; cases this
              · rfl
            have : dirtyB p.hand = 8 := by
              unfold dirtyB
              rw [List.filter_eq_self.2 (fun x hx => hall x hx)]; exact e8
            have := h.d6
            omega
    · rename_i h2
      split
      · rename_i h3
        unfold Sk.serveSync
        split
        · left; rw [answer_client _ h.cl3 hi]
        · rename_i hd
          have hd' : p.dead = false := by simpa using hd
          split
          · left; rw [answer_client _ (by exact h.cl3) hi]
          · rename_i hne
            right
            refine ⟨hd', ?_, Or.inr (by rw [clientSet p h.cl3 hi, if_pos rfl]; exact h3)⟩
            obtain ⟨t, ht⟩ := List.exists_mem_of_ne_nil _ hne
            have := (List.mem_filter.1 ht).2
            obtain ⟨x, hx, hxd⟩ := isDirtyB_eq.1 this
            exact dirty_of (getB_some hx).1 hxd
      · left
        omega
/-- A dirty sector, and nothing on its way: it is asked to be written. -/
theorem cleanQ_yes {p : Sk} (h : Inv p) (hq : p.queue = []) (hb : p.dev.busy = []) (hd : p.dead = false) (h1 : 1 ≤ dirtyB p.hand) (hw : 3 ≤ dirtyB p.hand ∨ p.wantsClean = true) : p.clean.1 = true := by
  unfold Sk.clean
  rw [if_neg (by
    rintro (e | ⟨e1, e2⟩)
    · rw [hd] at e; cases e
    · rcases hw with h' | h'
      · omega
      · rw [h'] at e2; cases e2)]
  rcases pickB_spec p.hand p.held with ⟨_, e⟩ | ⟨x, hx, e, hxd, hh⟩
  · obtain ⟨x, hx, hxd⟩ := dirty_some h1
    have := e x hx hxd
    rw [held_none hq hb] at this; cases this
  · have hin := h.hand.in' x hx
    rw [e, if_neg (by omega), getB_mem h.hand.rise hx]
    rcases askQ_cases (p := p) x.pl true [x.data] with ⟨e1, e2⟩ | ⟨L, e1, e2⟩
    · have := addF_none h.queue.1 (reqOf_good h _ ⟨hin.1, hin.2.1⟩ true [x.data] (Or.inl ⟨rfl, rfl, fun s hs => by rw [List.mem_singleton.1 hs]; exact hin.2.2⟩)) (by rw [hq]; intro q hq; cases hq) e1
      rw [hq] at this
      simp at this
    · show (p.askQ x.pl true [x.data]).1 = true
      rw [e2]
theorem clean_no_same {p : Sk} (h : p.clean.1 = false) : p.clean.2 = p := by
  unfold Sk.clean at h ⊢
  split
  · rfl
  · rename_i h1
    rw [if_neg h1] at h
    split
    · rfl
    · rename_i h2
      rw [if_neg h2] at h
      rcases askQ_cases (p := p) (pickB p.hand p.held) true [((getB p.hand (pickB p.hand p.held)).getD ⟨0, ByteArray.empty, false, 0⟩).data] with ⟨_, e⟩ | ⟨L, _, e⟩
      · rw [e]
      · rw [e] at h; cases h
/-- All are served where nothing is on its way: nobody waits then, or dirty sectors are wanted, or something waits. -/
theorem serve_stuck {p : Sk} (h : Inv p) (hq : p.queue = []) (hb : p.dev.busy = []) (hq' : p.serve.queue = []) : (∀ i, i < 3 → (p.serve.client i).kind = 0) ∨ (p.serve.dead = false ∧ 1 ≤ dirtyB p.serve.hand ∧ p.serve.wantsClean = true) := by
  have q2 : ((p.serve1 0).serve1 1).queue = [] := by
    by_cases e : ((p.serve1 0).serve1 1).queue = []
    · exact e
    · exact absurd hq' (serve1_queue_ne e 2)
  have q1 : (p.serve1 0).queue = [] := by
    by_cases e : (p.serve1 0).queue = []
    · exact e
    · exact absurd q2 (serve1_queue_ne e 1)
  have i1 := h.serve1 0
  have i2 := i1.serve1 1
  have i3 := i2.serve1 2
  have b1 : (p.serve1 0).dev.busy = [] := (serve1_busy p 0).trans hb
  have b2 : ((p.serve1 0).serve1 1).dev.busy = [] := (serve1_busy _ 1).trans b1
  have s0 := serve1_stuck h 0 (by omega) hq hb q1
  have s1 := serve1_stuck i1 1 (by omega) q1 b1 q2
  have s2 := serve1_stuck i2 2 (by omega) q2 b2 hq'
  have c0 : p.serve.client 0 = (p.serve1 0).client 0 := by
    show (((p.serve1 0).serve1 1).serve1 2).client 0 = _
    rw [serve1_other _ (by omega), serve1_other _ (by omega)]
  have c1 : p.serve.client 1 = ((p.serve1 0).serve1 1).client 1 := by
    show (((p.serve1 0).serve1 1).serve1 2).client 1 = _
    rw [serve1_other _ (by omega)]
  have hd0 : p.serve.dead = p.dead := (mild_serve p).dead
  have d1 := serve1_dirty_ge i1 1
  have d2 := serve1_dirty_ge i2 2
  have wants : ∀ i, i < 3 → ((p.serve.client i).kind = 2 ∨ (p.serve.client i).kind = 3) → p.serve.wantsClean = true := fun i hi hk => by
    refine List.any_eq_true.2 ⟨_, client_mem i3.cl3 hi, ?_⟩
    rcases hk with e | e
    · show ((p.serve.client i).kind == 2 || (p.serve.client i).kind == 3) = true
      rw [e]; rfl
    · show ((p.serve.client i).kind == 2 || (p.serve.client i).kind == 3) = true
      rw [e]; rfl
  rcases s0 with k0 | ⟨dd, e1, e2⟩
  · rcases s1 with k1 | ⟨dd, e1, e2⟩
    · rcases s2 with k2 | ⟨dd, e1, e2⟩
      · left
        intro i hi
        match i, hi with
        | 0, _ => rw [c0]; exact k0
        | 1, _ => rw [c1]; exact k1
        | 2, _ => exact k2
      · right
        exact ⟨hd0.trans ((((mild_serve1 _ 1).dead.trans (mild_serve1 p 0).dead)).symm.trans dd), e1, wants 2 (by omega) e2⟩
    · right
      exact ⟨hd0.trans ((mild_serve1 p 0).dead.symm.trans dd), Nat.le_trans e1 d2, wants 1 (by omega) (by rw [c1]; exact e2)⟩
  · right
    exact ⟨hd0.trans dd, Nat.le_trans e1 (Nat.le_trans d1 d2), wants 0 (by omega) (by rw [c0]; exact e2)⟩
end Go.Proofs.YtgjkdhedkbkagaaGreat
/- A stack of all that is a law's own: what each call makes of it; New. -/
namespace Go.Proofs.YtgjkdhedkbkagaaGreat
open Go.RowKit Go.BigFrame Go.Maps
set_option maxRecDepth 100000
attribute [local go_sem] Later.cell Later.frozen

/-- A stack in memory that was made since W: it is q, but for the places of lists. -/
def Own (W : World) (s b : Nat) (q : Sk) (wr : World) : Prop := ∃ p A, StkAt s p A wr ∧ p.nf = q ∧ A.b = b ∧ (∀ k, A.foot s k → W.heap.size ≤ k) ∧ Below W.heap.size W wr
section
variable {W wr w' : World} {s b : Nat} {q q' : Sk}
theorem Own.bel (h : Own W s b q wr) : Below W.heap.size W wr := by obtain ⟨_, _, _, _, _, _, h⟩ := h; exact h
theorem Own.later (h : Own W s b q wr) (hb : Below wr.heap.size wr w') : Own W s b q w' := by
  obtain ⟨p, A, h1, h2, h3, h4, h5⟩ := h
  exact ⟨p, A, h1.later hb, h2, h3, h4, bthen h5 hb⟩
theorem Own.of {p : Sk} {A : Sa} (h3 : A.b = b) (h4 : ∀ k, A.foot s k → W.heap.size ≤ k) (h5 : Below W.heap.size W wr) (h : SOk s p A wr w' q') : Own W s b q' w' := by
  obtain ⟨p', A', hs, hn⟩ := h
  exact ⟨p', A', hs.at', hn, hs.same.1.trans h3, fun k hk => (hs.foot k hk).elim (h4 k) (fun h' => Nat.le_trans h5.size h'), h5.trans (hs.only.below h5.size h4)⟩
theorem Own.lt (h : Own W s b q wr) : W.heap.size ≤ s ∧ s < wr.heap.size := by
  obtain ⟨p, A, h1, h2, h3, h4, h5⟩ := h
  exact ⟨h4 s (Or.inl rfl), h1.lt⟩
end
section
variable (W w : World) (s b : Nat) (q : Sk) (n : Nat)
theorem own_got (h : Own W s b q w) (i : Nat) (hi : i < 3) : Calls Tryz.prog 27 #[.pointer (some ⟨s, 0, none⟩), .int .i64 i] w fun e w' => e = .returned (.tuple #[.string (q.client i).got, errOf (q.client i).err]) ∧ Below w.heap.size w w' := by
  obtain ⟨p, A, h1, rfl, _⟩ := h
  exact got_in s p A i hi w h1
theorem own_dirty (h : Own W s b q w) (k : Nat) (hk : dirtyB q.hand = k) : Calls Tryz.prog 19 #[.pointer (some ⟨s, 0, none⟩)] w fun e w' => e = .returned (.int .i64 k) ∧ Below w.heap.size w w' := by
  obtain ⟨p, A, h1, rfl, _⟩ := h
  exact sdirty_any s p A w h1 k hk
theorem own_ask (h : Own W s b q w) (hf : Fit n q) (hn : n ≤ 1000000) (c kind pl : Int) (data : ByteArray) (x : Int) (q' : Sk) (hq : q.ask c kind pl data = (x, q')) : Calls Tryz.prog 37 #[.pointer (some ⟨s, 0, none⟩), .int .i64 c, .int .i64 kind, .int .i64 pl, .string data] w fun e w' => e = .returned (errOf x) ∧ Own W s b q' w' := by
  obtain ⟨p, A, h1, rfl, h3, h4, h5⟩ := h
  have hf' := hf.of_nf
  refine (ask_any s p A w h1 hf'.inv (by have := hf'.tags; omega) (by have := hf'.uses; omega) c kind pl data x q' hq).mono ?_
  rintro e w' ⟨he, hok⟩
  exact ⟨he, Own.of h3 h4 h5 hok⟩
end
def sa0 (b v bm : Nat) : Sa := ⟨b, v, bm, an0, 0, .map [], fun _ => none, fun _ => 0, none, 0, none, 0, 0⟩
set_option linter.unusedSimpArgs false in
set_option maxHeartbeats 1000000 in
/-- A new one over a new device. -/
theorem snew_any (W : World) (b : Nat) (w : World) (h : DevAt b d0 an0 w) (hb : W.heap.size ≤ b) (hB : Below W.heap.size W w) :
    Calls Tryz.prog 16 #[.pointer (some ⟨b, 0, none⟩)] w fun e w' => ∃ s, e = .returned (.pointer (some ⟨s, 0, none⟩)) ∧ Own W s b sk0 w' := by
  have HD := hidT h
  have HB := hidT (And.intro hb hB)
  clear h hb hB
  have hzv : ∀ w', Sem.run Tryz.prog (zeroValue 79) w' = .ok (.agg (([Value.pointer none, Value.pointer none] : List Value) ++ (clCells cl0 none 0 ++ (clCells cl0 none 0 ++ (clCells cl0 none 0 ++ sk0.tail (sa0 0 0 0))))).toArray) w' := fun _ => rfl
  go_enter Tryz.func16, Tryz.ntmps16
  go_wp2_with fail
  refine (vnew_any b d0 an0 w HD.out).mono ?_
  rintro e w1 ⟨rfl, hv, hb1⟩
  have HV := hidT hv
  have HB1 := hidT hb1
  clear hv hb1
  go_wp2
  go_ret
  have hb2 := below1 w1 (.cells ((Value.pointer (some ⟨b, 0, none⟩) :: Value.pointer (some ⟨w.heap.size + 1, 0, none⟩) :: (clCells cl0 none 0 ++ (clCells cl0 none 0 ++ (clCells cl0 none 0 ++ sk0.tail (sa0 0 0 0))))).toArray) 79)
  have hvl := lt_of_heap HV.out.blk
  refine ⟨w1.heap.size, rfl, sk0, sa0 b (w.heap.size + 1) w.heap.size, ⟨heap_alloc_new _ _, ?_⟩, rfl, rfl, ?_, bthen (bthen HB.out.2 HB1.out) hb2⟩
  · exact {
      drv := HV.out.later hb2
      map := mapIs_new
      im := HV.out.map.isMap
      nb := Nat.le_refl 0
      hand := ⟨Or.inl rfl, by show 0 ≤ _; omega⟩
      hnil := fun _ => rfl
      hcap := Nat.le_refl 0
      queue := ⟨Or.inl rfl, (fun r hr => by cases hr), by show 0 ≤ _; omega⟩
      qnil := fun _ => rfl
      qcap := Nat.le_refl 0
      left := fun i hi => by
        have e : (sk0.client i).left = [] := by
          match i, hi with
          | 0, _ => rfl
          | 1, _ => rfl
          | 2, _ => rfl
        rw [e]; exact World.ownsRow_nil _ _ _ _
      sv := ⟨fun e => by have := HV.out.footLt _ e; omega, fun (e : w1.heap.size = w.heap.size + 1) => by omega⟩
      vl := fun i _ q' hq' => by cases hq'
      ll := fun i j _ _ _ q' _ hq' => by cases hq'
      hoffX := fun hne => absurd rfl hne
      qoffX := fun hne => absurd rfl hne
      roffX := fun r hr => (by cases hr)
      xlt := Nat.zero_le _ }
  · rintro k (rfl | (rfl | e) | ⟨i, _, q', hq', _⟩)
    · exact Nat.le_trans HB.out.2.size HB1.out.size
    · exact HB.out.2.size
    · rcases e with rfl | ⟨_, h', _⟩ | ⟨_, h', _⟩
      · exact HB.out.1
      · cases h'
      · cases h'
    · cases hq'
end Go.Proofs.YtgjkdhedkbkagaaGreat
/- All goes on: Quiet, Round, Settle. -/
namespace Go.Proofs.YtgjkdhedkbkagaaGreat
open Go.RowKit Go.BigFrame Go.Maps
set_option maxRecDepth 100000
attribute [local go_sem] Later.cell Later.frozen

end Go.Proofs.YtgjkdhedkbkagaaGreat
/- All goes on: Round, Settle. -/
namespace Go.Proofs.YtgjkdhedkbkagaaGreat
open Go.RowKit Go.BigFrame Go.Maps
set_option maxRecDepth 100000
attribute [local go_sem] Later.cell Later.frozen

def sliceLen : Option Value → Nat
  | some (.slice _ n _) => n
  | _ => 0
def busyOf (w : World) (b : Nat) : Nat := sliceLen (w.cell? ⟨b, 66, none⟩)
theorem dispatch_more {q : Sk} (hI : Inv q) (h : q.dispatch.1 = true) : q.dispatch.2.dev.busy.length = q.dev.busy.length + 1 := by
  rcases dispatch_cases hI with ⟨_, e⟩ | ⟨i, hi, T, _, _, _, _, e⟩
  · rw [e] at h; cases h
  · rw [e]; simp
end Go.Proofs.YtgjkdhedkbkagaaGreat
/- A step of a stack; steps. -/
namespace Go.Proofs.YtgjkdhedkbkagaaGreat
open Go.RowKit Go.BigFrame Go.Maps
set_option maxRecDepth 100000
attribute [local go_sem] Later.cell Later.frozen

end Go.Proofs.YtgjkdhedkbkagaaGreat
