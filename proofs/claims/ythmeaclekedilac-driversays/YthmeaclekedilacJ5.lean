/- The document's device: End of a request that reads; End of any. -/
import Derived.Test.YthmeaclekedilacJ4
import Derived.Test.YthmeaclekedilacJ3
import Derived.Maps.Views
import Derived.Deep.Cut
namespace Go.Proofs.Ythmeaclekedilac
open Go.RowKit Go.BigFrame
attribute [local go_sem] Later.cell Later.frozen

def rreadTo (d : Rd) (f n : Nat) : List ByteArray := (List.range n).map fun j => d.now.getD (f + j) ByteArray.empty
theorem rreadTo_succ (d : Rd) (f n : Nat) : rreadTo d f (n + 1) = rreadTo d f n ++ [d.now.getD (f + n) ByteArray.empty] := by simp [rreadTo, List.range_succ]
theorem rreadTo_length (d : Rd) (f n : Nat) : (rreadTo d f n).length = n := by simp [rreadTo]
theorem Only.of_belowB {a b : World} {B : Nat} (h : Below B a b) : Only (fun k => B ≤ k) a b := ⟨h.os, h.tape, h.output, h.size, fun i _ hn => h.block i (by omega)⟩
theorem resSet6 {w : World} {q n xc n' xc' : Nat} {r : Rq} {xa xa' : Option Addr} {er : Int} (h : ResBoxF w q r xa n xc er) : ResBoxF (w.setCell ⟨q, 6, none⟩ (.slice xa' n' xc')) q r xa' n' xc' er := by
  obtain ⟨⟨h0, h1, h2, h3, h4, h5, h6, h7⟩, ht, hl⟩ := h
  have k : ∀ o, o ≠ 6 → (w.setCell ⟨q, 6, none⟩ (.slice xa' n' xc')).cell? ⟨q, o, none⟩ = w.cell? ⟨q, o, none⟩ := fun o ho => World.cell?_setCell_other _ _ _ _ (fun e => ho (by injection e with _ e2 _; exact e2.symm))
  refine ⟨⟨(k 0 (by omega)).trans h0, (k 1 (by omega)).trans h1, (k 2 (by omega)).trans h2, (k 3 (by omega)).trans h3, (k 4 (by omega)).trans h4, (k 5 (by omega)).trans h5, ?_, (k 7 (by omega)).trans h7⟩, ?_, by simpa [World.setCell] using hl⟩
  · exact World.rangeAt_setCells_same w q 6 [.slice xa' n' xc'] (fun j hj => by have := ht (6 + j) (by simp at hj; omega); rw [Nat.zero_add] at this; exact this) 0 _ rfl
  · exact World.there_setCells ht q 6 [.slice xa' n' xc']
/-- What the loop of End reads, till it stores. -/
def LR (w : World) (q b p : Nat) (v : Value) (s : ByteArray) : Prop := w.cell? ⟨q, 6, none⟩ = some v ∧ w.cell? ⟨b, 32 + p, none⟩ = some (.string s) ∧ b < w.heap.size ∧ w.frozen? ⟨q, 6, none⟩ = false
theorem LR.below {w w' : World} {q b p B : Nat} {v : Value} {s : ByteArray} (h : LR w q b p v s) (hb : Below B w w') (hq : q < B) (hb' : b < B) : LR w' q b p v s :=
  ⟨(hb.cell (p := ⟨q, 6, none⟩) hq).trans h.1, (hb.cell (p := ⟨b, 32 + p, none⟩) hb').trans h.2.1, Nat.lt_of_lt_of_le h.2.2.1 hb.size, (hb.frozen (p := ⟨q, 6, none⟩) hq).trans h.2.2.2⟩
set_option linter.unusedSimpArgs false in
set_option maxRecDepth 100000 in
set_option maxHeartbeats 4000000 in
theorem rend_read (b : Nat) (d : Rd) (a : Ra) (k : Nat) (hk : k < d.busy.length) (w : World) (h : RdAt b d a w) (gr : Good d.busy[k]) (hw : d.busy[k].wr = false) :
    Calls Try.prog 17 #[.pointer (some ⟨b, 0, none⟩), .int .i64 k, .bool false] w fun e w' => ∃ a' xa xc, e = .returned (.tuple #[resV d.busy[k] xa (rreadTo d d.busy[k].f.toNat d.busy[k].m.toNat).length xc 0, .int .i64 0]) ∧ StrsAt w' xa (rreadTo d d.busy[k].f.toNat d.busy[k].m.toNat) ∧ (xa = none → xc = 0) ∧ (∀ ad, xa = some ad → w.heap.size ≤ ad.block ∧ ¬ a'.foot b ad.block) ∧ RStep b d a { d with busy := d.busy.eraseIdx k } a' w w' := by
  have HW := hidT hw
  have HWN := hidT (wantsR _ gr)
  clear hw gr
  have hl := h.lt; have HD := hidT h; have h0 : ¬ (k : Int) < 0 := (by omega); have h1 : ¬ (d.busy.length : Int) ≤ (k : Int) := (by omega); have h2 : (k : Int) < (d.busy.length : Int) := (by omega); have hk2 : (k : Int) ≤ 1 := (by have := h.blen; omega); have c := h.c65; obtain ⟨g, o, hg0, r0, r1, r2, r3, r4, r5⟩ := h.lplace hk; have hR := h.lrow; have hcap := h.lcap; rw [hg0] at c hR; have HR := hidT (⟨hR, hcap⟩ : _ ∧ _); have lg := lt_of_cell r0; have HBL := hidT h.blen; clear h hR hcap hg0; generalize hr : d.busy[k] = r at *; have HRR := hidT hr; clear hr; go_enter Try.func17, Try.ntmps17; go_wp2_with fail; have hB2 := below2 w (.cells #[.bool false, .int .i64 0, .int .i64 0, .slice none 0 0, .slice none 0 0, .int .i64 0, .slice none 0 0, .int .i64 0] 49) (.cells #[.bool r.wr, .int .i64 r.f, .int .i64 r.m, .slice r.da r.data.length r.dc, .slice r.ta r.tags.length r.tc, .int .i64 r.born] 38); refine (rwithout_any d.busy g o a.lc k _ (HR.out.1.later hB2) (by have := HBL.out; omega) HR.out.2 hk).mono ?_; rintro e w3 ⟨xa, xc, rfl, hN, hb3⟩; have hz2 := (zero_new w 49).only (F := fun _ => False) ((Only.refl _ _).alloc (.cells #[.bool r.wr, .int .i64 r.f, .int .i64 r.m, .slice r.da r.data.length r.dc, .slice r.ta r.tags.length r.tc, .int .i64 r.born] 38)) (fun e => e); have hx2 := box_new (w.alloc (.cells #[.bool false, .int .i64 0, .int .i64 0, .slice none 0 0, .slice none 0 0, .int .i64 0, .slice none 0 0, .int .i64 0] 49)) 38 r; rw [World.size_alloc] at hx2; have hO := ended_out hk HD.out hB2 hz2 (by rw [HRR.out]; exact hx2) (by simp) hb3 hN; rw [HRR.out] at hO; have c3 := (HD.out.later (bthen hB2 hb3)).c65; have f3 := (HD.out.later (bthen hB2 hb3)).fz 65; have l3 := (HD.out.later (bthen hB2 hb3)).lt; have HO := hidT hO; clear hz2 hx2 hO hN hb3 hB2 r0 r1 r2 r3 r4 r5 c lg; obtain ⟨x0, x1, x2, x3, x4, x5⟩ := id HO.out.box; generalize hW : w3.setCell ⟨b, 65, none⟩ (.slice xa (d.busy.eraseIdx k).length xc) = w4 at *
  have HX4 := hidT (id HO.out.box)
  have hz9 := hidT (zero_new w4 49)
  go_wp2_with (refine wpList_store_res rfl (.tmp 9) (.tmp 44) rfl w4.heap.size r none 0 0 0 rfl rfl (zero_there hz9.out) (fun wK => Below w4.heap.size w4 wK ∧ ResBoxF wK w4.heap.size r none 0 0 0) ⟨((below1 w4 _)).trans ((set8_only _ w4.heap.size _ _ _ _ _ _ _ _).below (by simp) (fun i e => by omega)), set8_res (zero_there hz9.out) hz9.out.2.2⟩ ?_; rintro w5 ⟨hb5, hr5⟩; have HB5 := hidT hb5; have HR5 := hidT hr5; clear hb5 hr5)
  obtain ⟨F, M, hF, hM, hFM, hM1, hM4, tF, tM⟩ := HWN.out
  have hq1 : w.heap.size + 1 < w4.heap.size := lt_of_cell x0
  have hb4 := HO.out.step.dev.lt
  obtain ⟨d1, hd1⟩ : ∃ d1 : Rd, d1 = { d with busy := d.busy.eraseIdx k } := ⟨_, rfl⟩
  obtain ⟨a1, ha1⟩ : ∃ a1 : Ra, a1 = { a with la := xa, lc := xc } := ⟨_, rfl⟩
  have hS4 := HO.out.step
  rw [← hd1, ← ha1] at hS4
  have HS4 := hidT hS4
  have hO2 := HO.out
  rw [← ha1] at hO2
  have HO2 := hidT hO2
  have hrd : ∀ n, rreadTo d F n = rreadTo d1 F n := fun n => by rw [hd1]; rfl
  have HD1 := hidT hd1
  have HRD := hidT hrd
  have HQ := hidT (⟨hF, hM, tF, tM⟩ : _ ∧ _ ∧ _ ∧ _)
  obtain ⟨iS, hi, hz0, hz1, hz2⟩ := pluck infoS
  have HI := hidT (⟨hi, hz0, hz1, hz2⟩ : Try.prog.info? 9 = some iS ∧ _ ∧ _ ∧ _)
  clear hd1 ha1 hO2 hS4 hrd x0 x1 x2 x3 x4 x5 hF hM tF tM HO hW c3 f3 l3 hz9 hi hz0 hz1 hz2
  go_loopw [10] (fun i wr => ∃ (j : Nat) (xa : Option Addr) (xc : Nat), j ≤ M ∧ i = .int .i64 j ∧ ResBoxF wr w4.heap.size r xa j xc 0 ∧ wr.ownsRow (w4.heap.size + 1) 9 1 (.slice xa j xc) j (strV (rreadTo d1 F j)) ∧ Below w4.heap.size w4 wr) (fun i _ => M - (intOf i).toNat)
  case atStart => exact ⟨0, none, 0, by omega, rfl, HR5.out, World.ownsRow_nil _ _ _ _, HB5.out⟩
  case round =>
    clear HB5 HR5
    obtain ⟨j, xa, xc, hj, rfl, hre, hown, hB⟩ := hrel
    have HRE := hidT hre
    have HOW := hidT hown
    have HB := hidT hB
    obtain ⟨⟨y0, y1, y2, y3, y4, y5, y6, y7⟩, yt, yl⟩ := hre
    obtain ⟨x0, x1, x2, x3, x4, x5⟩ := HX4.out.later hB
    have hdev := HS4.out.dev.later hB
    have lb := hdev.lt
    rw [HW.out] at x0
    rw [HQ.out.1] at x1
    rw [HQ.out.2.1] at x2
    by_cases hlt : j < M
    · have hlt' : (j : Int) < (M : Int) := by omega
      obtain ⟨P, hP⟩ : ∃ P : Nat, P = F + j := ⟨_, rfl⟩
      have hPi : (F : Int) + (j : Int) = (P : Int) := by omega
      have hP32 : P < 32 := by omega
      have hP32' : (P : Int) < 32 := by omega
      have hP0 : (0 : Int) ≤ (P : Int) := by omega
      have cn := hdev.cNow P hP32
      obtain ⟨s, hs'⟩ : ∃ s, d1.now.getD P ByteArray.empty = s := ⟨_, rfl⟩
      rw [hs'] at cn
      have HSS := hidT hs'
      have HPF := hidT hP
      have f6 : wr.frozen? ⟨w4.heap.size, 6, none⟩ = false := by have := (yt 6 (by omega)).2; rw [Nat.zero_add] at this; exact this
      have HS : Hid (LR wr.drew w4.heap.size b P (.slice xa j xc) s) := ⟨y6, cn, lb, f6⟩
      have HYL := hidT yl
      clear hs' hP yt hdev hown hB y0 y1 y2 y3 y4 y5 y7
      go_wp2_with fail
      refine region_till (S := fun wz => LR wz w4.heap.size b P (.slice xa j xc) s) (d := 11) (by kernel_rfl) ?_
      refine till_take (i := 0) (v := ?_) rfl (by kernel_rfl) (by kernel_rfl) (by kernel_rfl) (by kernel_rfl) (fun _ _ _ h => h) (Or.inl ⟨by rfl, ?_⟩) HS.out ?_; rotate_left; (focus (intro w0 hSw; obtain ⟨s0, s1, s2, s3⟩ := hSw; go_simp; (try with_reducible rfl))); (try simp only [Act.put, List.getElem_toArray, List.getElem_cons_succ, List.getElem_cons_zero, List.setIfInBounds_toArray, List.set_cons_zero, List.set_cons_succ])
      refine till_take (i := 1) (v := ?_) rfl (by kernel_rfl) (by kernel_rfl) (by kernel_rfl) (by kernel_rfl) (fun _ _ _ h => h) (Or.inl ⟨by rfl, ?_⟩) HS.out ?_; rotate_left; (focus (intro w0 hSw; obtain ⟨s0, s1, s2, s3⟩ := hSw; go_simp; (try with_reducible rfl))); (try simp only [Act.put, List.getElem_toArray, List.getElem_cons_succ, List.getElem_cons_zero, List.setIfInBounds_toArray, List.set_cons_zero, List.set_cons_succ])
      refine till_take (i := 2) (v := ?_) rfl (by kernel_rfl) (by kernel_rfl) (by kernel_rfl) (by kernel_rfl) (fun _ _ _ h => h) (Or.inl ⟨by rfl, ?_⟩) HS.out ?_; rotate_left; (focus (intro w0 hSw; obtain ⟨s0, s1, s2, s3⟩ := hSw; go_simp; (try with_reducible rfl))); (try simp only [Act.put, List.getElem_toArray, List.getElem_cons_succ, List.getElem_cons_zero, List.setIfInBounds_toArray, List.set_cons_zero, List.set_cons_succ])
      refine till_take (i := 3) (v := ?_) rfl (by kernel_rfl) (by kernel_rfl) (by kernel_rfl) (by kernel_rfl) (fun _ _ _ h => h) (Or.inl ⟨by rfl, ?_⟩) HS.out ?_; rotate_left; (focus (intro w0 hSw; obtain ⟨s0, s1, s2, s3⟩ := hSw; go_simp; (try with_reducible rfl))); (try simp only [Act.put, List.getElem_toArray, List.getElem_cons_succ, List.getElem_cons_zero, List.setIfInBounds_toArray, List.set_cons_zero, List.set_cons_succ])
      refine till_take (i := 4) (v := ?_) rfl (by kernel_rfl) (by kernel_rfl) (by kernel_rfl) (by kernel_rfl) (fun _ _ _ h => h) (Or.inl ⟨by rfl, ?_⟩) HS.out ?_; rotate_left; (focus (intro w0 hSw; obtain ⟨s0, s1, s2, s3⟩ := hSw; go_simp; (try with_reducible rfl))); (try simp only [Act.put, List.getElem_toArray, List.getElem_cons_succ, List.getElem_cons_zero, List.setIfInBounds_toArray, List.set_cons_zero, List.set_cons_succ])
      refine till_take (i := 5) (v := ?_) rfl (by kernel_rfl) (by kernel_rfl) (by kernel_rfl) (by kernel_rfl) (fun _ _ _ h => h) (Or.inl ⟨by rfl, ?_⟩) HS.out ?_; rotate_left; (focus (intro w0 hSw; obtain ⟨s0, s1, s2, s3⟩ := hSw; go_simp; (try with_reducible rfl))); (try simp only [Act.put, List.getElem_toArray, List.getElem_cons_succ, List.getElem_cons_zero, List.setIfInBounds_toArray, List.set_cons_zero, List.set_cons_succ])
      refine till_take (i := 6) (v := ?_) rfl (by kernel_rfl) (by kernel_rfl) (by kernel_rfl) (by kernel_rfl) (fun _ _ _ h => h) (Or.inl ⟨by rfl, ?_⟩) HS.out ?_; rotate_left; (focus (intro w0 hSw; obtain ⟨s0, s1, s2, s3⟩ := hSw; go_simp; (try with_reducible rfl))); (try simp only [Act.put, List.getElem_toArray, List.getElem_cons_succ, List.getElem_cons_zero, List.setIfInBounds_toArray, List.set_cons_zero, List.set_cons_succ])
      refine till_take (i := 7) (v := ?_) rfl (by kernel_rfl) (by kernel_rfl) (by kernel_rfl) (by kernel_rfl) (fun _ _ _ h => h) (Or.inl ⟨by rfl, ?_⟩) HS.out ?_; rotate_left; (focus (intro w0 hSw; obtain ⟨s0, s1, s2, s3⟩ := hSw; go_simp; (try with_reducible rfl))); (try simp only [Act.put, List.getElem_toArray, List.getElem_cons_succ, List.getElem_cons_zero, List.setIfInBounds_toArray, List.set_cons_zero, List.set_cons_succ])
      refine till_one (i := 8) rfl (by kernel_rfl) ?_; intro K hK; go_simp; refine hK _ _ (fun _ => HS.out.below (below1 _ _) yl lb) ?_; (try simp only [Act.put, List.getElem_toArray, List.getElem_cons_succ, List.getElem_cons_zero, List.setIfInBounds_toArray, List.set_cons_zero, List.set_cons_succ]); clear hK
      refine till_one (i := 9) rfl (by kernel_rfl) ?_
      intro K hK
      refine step_rowD rfl (.tmp 86) (.tmp 93) 35 rfl (w4.heap.size + 1) 9 iS _ 1 16 Try.underlying35 HI.out.1 HI.out.2.1 HI.out.2.2.1 HI.out.2.2.2 rfl (by decide) (.slice xa j xc) j (strV (rreadTo d1 F j)) rfl (ownD_later HOW.out (by repeat (first | with_reducible exact Below.refl _ _ | with_reducible refine balloc ?_ _ | with_reducible refine bdrew ?_ | with_reducible refine bset' ?_ (by omega) _ | with_reducible refine bthen ?_ (by assumption)))) (some ⟨wr.heap.size, 0, none⟩) 1 1 [.string s] rfl ⟨rfl, by simp [Value.oneCell'], Or.inr ⟨_, rfl, fun i u hi => newRowAt rfl _ _ i u hi⟩⟩ (by unfold maxLen; omega) (by omega) (by have := HYL.out; simp; omega) ?_
      intro v7 w7 hown7 hb7
      have hb7' : Below (w4.heap.size + 1) wr w7 := Below.trans (((Below.refl _ _).alloc (by omega) _).drew) hb7
      obtain ⟨x7, c7, rfl, -⟩ := slice_of_own hown7
      have hr7 := HRE.out.only (Only.of_belowB hb7') (by omega)
      have l7 : LR w7 w4.heap.size b P (.slice xa j xc) s := LR.below (w := wr) HS.out hb7' (by omega) (by omega)
      have hq7 : (Value.slice x7 (j + 1) c7).ownBlock ≠ some w4.heap.size := fun e => by have := (hown7.lt _ e).1; omega
      have HR8 := hidT (resSet6 (xa' := x7) (n' := j + 1) (xc' := c7) hr7)
      have HO8 := hidT (own_frame (w' := w7.setCell ⟨w4.heap.size, 6, none⟩ (.slice x7 (j + 1) c7)) hown7 (fun g hg => set_other _ _ (fun e => hq7 (e ▸ hg))))
      have HB8 := hidT ((HB.out.trans (hb7'.mono (by omega))).setCell (p := ⟨w4.heap.size, 6, none⟩) (Nat.le_refl _) (.slice x7 (j + 1) c7))
      have HS7 := hidT l7
      clear hown7 hb7 hb7' hr7 l7 hq7
      refine hK _ _ (fun _ => HS7.out) ?_
      (try simp only [Act.put, List.getElem_toArray, List.getElem_cons_succ, List.getElem_cons_zero, List.setIfInBounds_toArray, List.set_cons_zero, List.set_cons_succ])
      clear hK
      refine till_one (i := 10) rfl (by kernel_rfl) ?_; intro K hK; go_simp; refine hK _ _ (fun _ => HS7.out) ?_; (try simp only [Act.put, List.getElem_toArray, List.getElem_cons_succ, List.getElem_cons_zero, List.setIfInBounds_toArray, List.set_cons_zero, List.set_cons_succ]); clear hK
      obtain ⟨s0, -, -, s3⟩ := id HS7.out
      refine till_one (i := 11) rfl (by kernel_rfl) ?_; intro K hK; go_simp; refine hK _ _ (fun h => absurd rfl h) ?_; (try simp only [Act.put, List.getElem_toArray, List.getElem_cons_succ, List.getElem_cons_zero, List.setIfInBounds_toArray, List.set_cons_zero, List.set_cons_succ]); clear hK; refine till_done (by kernel_rfl) ?_ _
      go_wp2
      go_roundw
      case rel =>
        refine ⟨j + 1, x7, c7, by omega, by go_num, HR8.out, ?_, HB8.out⟩
        have e1 : strV (rreadTo d1 F (j + 1)) = strV (rreadTo d1 F j) ++ [.string s] := by rw [rreadTo_succ, ← HPF.out, HSS.out]; simp [strV]
        rw [e1]
        exact HO8.out
      case measure => simp [intOf]; omega
    · have hjM : j = M := by omega
      subst hjM
      have hze := HO2.out.zero.only (F := fun _ => False) (Only.of_below hB) (fun e => e)
      have HZE := hidT hze
      have HSE := hidT (HS4.out.later hB)
      obtain ⟨ya, yc, e1, hst, hnn, had⟩ := strs_of_ownedD hown (rreadTo_length _ _ _).symm
      simp only [Value.slice.injEq] at e1
      obtain ⟨rfl, -, rfl⟩ := e1
      have hq0 : ∀ ad, xa = some ad → ad.block ≠ w.heap.size := fun ad e => by have := had ad e; omega
      have HST := hidT (⟨hst, hnn, had, hq0⟩ : _ ∧ _ ∧ _ ∧ _)
      have HBY : Hid (d1.busy = d.busy.eraseIdx k) := by show _ = _; rw [HD1.out]
      clear hst hnn had hq0 hown hze yt hdev hB
      go_wp2_with (refine wpList_store_res rfl (.tmp 6) (.tmp 96) rfl w.heap.size r xa j xc 0 rfl rfl (zero_there HZE.out) (fun wK => (StrsAt wK xa (rreadTo d1 F j) ∧ RStep b d a d1 a1 w wK) ∧ ResBoxF wK w.heap.size r xa j xc 0) ⟨⟨strs_frame HST.out.1 (set8_only _ w.heap.size _ _ _ _ _ _ _ _) (fun _ ad e => HST.out.2.2.2 ad e), HSE.out.other (set8_only _ w.heap.size _ _ _ _ _ _ _ _) (Nat.le_refl _) (HO2.out.nf _ (Nat.le_refl _)) (fun _ p hp => by have := HO2.out.nl p hp; omega) (by rw [HBY.out]; exact HO2.out.nr HD.out _ (Nat.le_refl _))⟩, set8_res (zero_there HZE.out) HZE.out.2.2⟩ ?_; rintro w9 ⟨hs9, ⟨z0, z1, z2, z3, z4, z5, z6, z7⟩, -, -⟩; have HS9 := hidT hs9; clear hs9)
      refine bodyPost_ret (v := .tuple #[resV r xa j xc 0, .int .i64 0]) (by simp [results, Try.results17, go_sem, z0, z1, z2, z3, z4, z5, z6, z7]) rfl ⟨a1, xa, xc, ?_, ?_, HST.out.2.1, fun ad e => ⟨by have := HST.out.2.2.1 ad e; omega, HO2.out.nf _ (by have := HST.out.2.2.1 ad e; omega)⟩, ?_⟩
      · rw [rreadTo_length, HQ.out.2.2.2]
      · rw [HQ.out.2.2.1, HQ.out.2.2.2, HRD.out]; exact HS9.out.1
      · rw [← HD1.out]; exact HS9.out.2
/-- What is read of a request that is done. -/
def rdidRead (d : Rd) (r : Rq) : List ByteArray := if r.wr = true then [] else rreadTo d r.f.toNat r.m.toNat
theorem rend_any (b : Nat) (d : Rd) (a : Ra) (k : Nat) (hk : k < d.busy.length) (w : World) (h : RdAt b d a w) (gr : Good d.busy[k]) (hW4 : d.waits.length ≤ 1000000) :
    Calls Try.prog 17 #[.pointer (some ⟨b, 0, none⟩), .int .i64 k, .bool false] w fun e w' => ∃ a' xa xc xs, e = .returned (.tuple #[resV d.busy[k] xa (List.length xs) xc 0, .int .i64 0]) ∧ Hid (xs = rdidRead d d.busy[k]) ∧ StrsAt w' xa xs ∧ (∀ ad, xa = some ad → w.heap.size ≤ ad.block ∧ ¬ a'.foot b ad.block) ∧ RStep b d a (({ d with busy := d.busy.eraseIdx k } : Rd).did d.busy[k]) a' w w' := by
  by_cases hw : d.busy[k].wr = true
  · refine (rend_write b d a k hk w h gr hw hW4).mono ?_
    rintro e w' ⟨a', rfl, hs⟩
    refine ⟨a', none, 0, [], rfl, ?_, Or.inl rfl, (fun ad e => by cases e), ?_⟩
    · show [] = _; rw [rdidRead, if_pos hw]
    · rw [Rd.did, if_pos hw]; exact hs
  · refine (rend_read b d a k hk w h gr (by simpa using hw)).mono ?_
    rintro e w' ⟨a', xa, xc, rfl, h1, -, h2, hs⟩
    refine ⟨a', xa, xc, _, rfl, ?_, h1, h2, ?_⟩
    · show _ = _; rw [rdidRead, if_neg hw]
    · rw [Rd.did, if_neg hw]; exact hs
end Go.Proofs.Ythmeaclekedilac
/- A driver of a device: a request ends, well or for good. -/
namespace Go.Proofs.Ythmeaclekedilac
open Go.RowKit Go.BigFrame Go.Maps
attribute [local go_sem] Later.cell Later.frozen

theorem first_tag (r : Rq) (tg : Int) (ht : r.tags.getD 0 0 = tg) (w : World) (hr : r.At w) (h1 : 1 ≤ r.tags.length) : Calls Try.prog 62 #[r.val] w fun e w' => e = .returned (.int .i64 tg) ∧ Below w.heap.size w w' := by
  rw [← ht]; exact first_any r w hr h1
theorem end_fault1 (b : Nat) (d : Dl) (a : An) (r : Rq) (w : World) (hd : d.busy = []) (h : DevAt b { d with busy := [r] } a w) :
    Calls Try.prog 16 #[.pointer (some ⟨b, 0, none⟩), .int .i64 0, .bool true] w fun e w' => ∃ a', e = .returned (.tuple #[resV r none 0 0 8, .nilIface]) ∧ DStep b { d with busy := [r] } a d a' w w' := by
  refine (end_fault b { d with busy := [r] } a 0 (by simp) w h).mono ?_
  rintro e w' ⟨a', he, hs⟩
  refine ⟨a', he, ?_⟩
  have : ({ ({ d with busy := [r] } : Dl) with busy := ({ d with busy := [r] } : Dl).busy.eraseIdx 0 } : Dl) = d := by cases d; simp only at hd; subst hd; rfl
  rw [this] at hs
  exact hs
theorem new_notfoot {b : Nat} {d d' : Dl} {a a' : An} {w w' : World} {o : Obj} (hs : DStep b d a d' a' (w.alloc o) w') (hl : ∀ k, a.foot b k → k < w.heap.size) : ¬ a'.foot b w.heap.size := by
  intro e
  rcases hs.foot _ e with e | e
  · have := hl _ e; omega
  · rw [World.size_alloc] at e; omega
set_option maxRecDepth 100000 in
set_option maxHeartbeats 2000000 in
theorem vend_done (v b bm : Nat) (d : Dl) (a : An) (n : Nat) (D : DataW Unit) (r : Rq) (tg c : Int) (w : World) (h : VAt v b bm { d with busy := [r] } a n D w) (hd : d.busy = []) (ht : r.tags.getD 0 0 = tg) (htw : In64 tg) (h1 : 1 ≤ r.tags.length) (hc : D.atKey (.int .i64 tg) (.lit (.int .i64 0)) = .lit (.int .i64 c)) (hc2 : 2 ≤ c ∧ c ≤ 100) :
    Calls Try.prog 29 #[.pointer (some ⟨v, 0, none⟩), .int .i64 0, .bool true] w fun e w' => ∃ a', e = .returned (.tuple #[resV r none 0 0 8, .bool true, .nilIface]) ∧ VStep v b bm { d with busy := [r] } a n D d a' n (D.del (.int .i64 tg)) w w' := by
  have HA0 := hidT (h.dev.reqs r (List.mem_singleton.2 rfl)).1
  have HTG := hidT ht
  have HED := hidT hd
  have HC := hidT hc
  have hkey : keyOf Try.prog 3 (.int .i64 tg) = some (.int .i64 tg) := keyOf_int_mk Try.underlying3 (WalkArith.wf_i64 htw)
  have hc3 : ¬ c + 1 < 3 := by omega
  obtain ⟨hc4, hc5⟩ := hc2
  clear ht hd hc htw
  obtain ⟨c0, c1⟩ := h.cells; have HV := hidT h; have hv := lt_of_heap h.blk; have hm := h.mlt; have hbv := h.dev.lt; have hb0 := hidT (below1 w (.cells #[.bool false, .int .i64 0, .int .i64 0, .slice none 0 0, .slice none 0 0, .int .i64 0, .slice none 0 0, .int .i64 0] 49)); clear h
  go_enter Try.func29, Try.ntmps29
  go_wp2_with fail
  refine (end_fault1 b d a r _ HED.out (HV.out.dev.later hb0.out)).mono ?_
  rintro e w1 ⟨a1, rfl, hs1⟩
  have hs1n : ¬ a1.foot b w.heap.size := new_notfoot hs1 HV.out.dev.footLt
  have HO1 : Hid (∀ r ∈ d.busy, r.Off (fun k => k = w.heap.size)) := fun r hr => by rw [HED.out] at hr; cases hr
  have HOQ := HO1
  have HOB : Hid (∀ r ∈ d.busy, r.Off (fun k => k = bm)) := fun r hr => by rw [HED.out] at hr; cases hr
  have HNF : Hid (¬ vfoot b bm a1 w.heap.size) := fun e => e.elim (fun e => by omega) hs1n
  have HS1 := hidT (HV.out.step ((DStep.same HV.out.dev hb0.out).trans hs1)); have HZ1 := hidT ((zero_new w 49).only hs1.only (fun e => by have := HV.out.dev.footLt _ e; omega)); have HN1 : Hid (¬ vfoot b bm a1 w.heap.size) := (fun e => e.elim (fun e => by omega) (fun e => (HS1.out.foot _ (Or.inr e)).elim (fun e => e.elim (fun e => by omega) (fun e => by have := HV.out.dev.footLt _ e; omega)) (fun _ => hs1n e))); have HA1 := hidT ((HA0.out.later hb0.out).frame (HV.out.dev.reqs r (List.mem_singleton.2 rfl)).2 hs1.only); clear hs1 hs1n
  go_wp2_with (refine wpList_store_res rfl (.tmp 6) (.tmp 18) rfl w.heap.size r none 0 0 8 rfl rfl (zero_there HZ1.out) (fun wK => VStep v b bm { d with busy := [r] } a n D d a1 n D w wK ∧ ResBoxF wK w.heap.size r none 0 0 8 ∧ r.At wK) ⟨vset8 HS1.out w.heap.size (Nat.le_refl _) HN1.out (by omega) HO1.out _ _ _ _ _ _ _ _, set8_res (zero_there HZ1.out) HZ1.out.2.2, HA1.out.frame (off_of HA0.out (fun k e => by omega)) (set8_only w1 w.heap.size _ _ _ _ _ _ _ _)⟩ ?_; rintro wK ⟨hsK, hrK, haK⟩; have HSK := hidT hsK; have HRK := hidT hrK; have HAK := hidT haK; obtain ⟨⟨y0, y1, y2, y3, y4, y5, y6, y7⟩, -, yl⟩ := hrK; clear hsK haK HS1 HN1 HO1 HZ1 HA1)
  refine (first_tag r tg HTG.out _ HAK.out h1).mono ?_
  rintro e w2 ⟨rfl, hb2⟩; have HS2 := hidT (HSK.out.later hb2); have HR2 := hidT (HRK.out.later hb2); have HA2 := hidT (HAK.out.later hb2); clear HSK HRK HAK hb2 y0 y1 y2 y3 y4 y5 y6 y7 yl; obtain ⟨⟨x0, x1, x2, x3, x4, x5, x6, x7⟩, -, xl⟩ := id HR2.out; obtain ⟨p0, p1⟩ := HS2.out.at'.cells; have hmp := HS2.out.at'.map; have hvl := lt_of_heap HS2.out.at'.blk
  obtain ⟨c', hrun, hat, -⟩ := hmp.lookup_int keyI Try.underlying63 Try.underlying3 (zeroI _) hkey
  obtain rfl : c' = c := by rw [HC.out] at hat; injection hat with e; injection e with _ e; exact e.symm
  have HAT := hidT hat
  clear hat
  go_wp2_with (first | (at_delete; refine wpList_delete_own _ rfl _ _ 63 3 rfl 3 keyI Try.underlying63 _ bm n D rfl hmp _ _ rfl hkey ?_; intro w3 hown3 hturn3; have HS3 := hidT (HS2.out.trans (HS2.out.at'.turn (only_of_grown hturn3.grown) hown3 HOB.out)); have HR3 := hidT (HR2.out.only (only_of_grown hturn3.grown) (by omega)); obtain ⟨⟨m0, m1, m2, m3, m4, m5, m6, m7⟩, -, ml⟩ := id HR3.out; have HN3 : Hid (¬ vfoot b bm a1 w.heap.size) := HNF.out; clear hown3 hturn3 hmp HS2 HR2 HA2 x0 x1 x2 x3 x4 x5 x6 x7 xl p0 p1 hvl) | (refine wpList_store_res rfl (.tmp 6) (.tmp 60) rfl w.heap.size r none 0 0 8 rfl rfl HR3.out.2.1 (fun wK => VStep v b bm { d with busy := [r] } a n D d a1 n (D.del (.int .i64 tg)) w wK ∧ ResBoxF wK w.heap.size r none 0 0 8) ⟨vset8 HS3.out w.heap.size (Nat.le_refl _) HN3.out (by omega) HOQ.out _ _ _ _ _ _ _ _, set8_res HR3.out.2.1 HR3.out.2.2⟩ ?_; rintro w4 ⟨hs4, ⟨k0, k1, k2, k3, k4, k5, k6, k7⟩, -, -⟩; have HS4 := hidT hs4; clear hs4 HS3 HR3 HN3 m0 m1 m2 m3 m4 m5 m6 m7 ml))
  exact bodyPost_ret (v := .tuple #[resV r none 0 0 8, .bool true, .nilIface]) (by simp [results, Try.results29, go_sem, k0, k1, k2, k3, k4, k5, k6, k7]) rfl ⟨a1, rfl, HS4.out⟩
set_option maxRecDepth 100000 in
set_option maxHeartbeats 2000000 in
theorem vend_ok (v b bm : Nat) (d : Dl) (a : An) (n : Nat) (D : DataW Unit) (r : Rq) (tg : Int) (w : World) (h : VAt v b bm { d with busy := [r] } a n D w) (hd : d.busy = []) (ht : r.tags.getD 0 0 = tg) (htw : In64 tg) (h1 : 1 ≤ r.tags.length) (gr : Good r) :
    Calls Try.prog 29 #[.pointer (some ⟨v, 0, none⟩), .int .i64 0, .bool false] w fun e w' => ∃ a' xa xc m, e = .returned (.tuple #[resV r xa m xc 0, .bool true, .nilIface]) ∧ VStep v b bm { d with busy := [r] } a n D (d.did r) a' n (D.del (.int .i64 tg)) w w' := by
  have HA0 := hidT (h.dev.reqs r (List.mem_singleton.2 rfl)).1
  have HTG := hidT ht
  have HED := hidT hd
  have HG := hidT gr
  have hkey : keyOf Try.prog 3 (.int .i64 tg) = some (.int .i64 tg) := keyOf_int_mk Try.underlying3 (WalkArith.wf_i64 htw)
  clear ht hd gr htw
  obtain ⟨c0, c1⟩ := h.cells; have HV := hidT h; have hv := lt_of_heap h.blk; have hm := h.mlt; have hbv := h.dev.lt; have hb0 := hidT (below1 w (.cells #[.bool false, .int .i64 0, .int .i64 0, .slice none 0 0, .slice none 0 0, .int .i64 0, .slice none 0 0, .int .i64 0] 49)); clear h
  go_enter Try.func29, Try.ntmps29
  go_wp2_with fail
  refine (end_only b d r a _ HED.out (HV.out.dev.later hb0.out) HG.out).mono ?_
  rintro e w1 ⟨a1, xa, xc, xs, rfl, -, -, -, hs1⟩
  generalize xs.length = xm at *
  have hs1n : ¬ a1.foot b w.heap.size := new_notfoot hs1 HV.out.dev.footLt
  have HO1 : Hid (∀ q ∈ (d.did r).busy, q.Off (fun k => k = w.heap.size)) := fun q hr => by rw [Dl.did_busy, HED.out] at hr; cases hr
  have HOQ := HO1
  have HOB : Hid (∀ q ∈ (d.did r).busy, q.Off (fun k => k = bm)) := fun q hr => by rw [Dl.did_busy, HED.out] at hr; cases hr
  have HNF : Hid (¬ vfoot b bm a1 w.heap.size) := fun e => e.elim (fun e => by omega) hs1n
  have HS1 := hidT (HV.out.step ((DStep.same HV.out.dev hb0.out).trans hs1)); have HZ1 := hidT ((zero_new w 49).only hs1.only (fun e => by have := HV.out.dev.footLt _ e; omega)); have HN1 : Hid (¬ vfoot b bm a1 w.heap.size) := (fun e => e.elim (fun e => by omega) (fun e => (HS1.out.foot _ (Or.inr e)).elim (fun e => e.elim (fun e => by omega) (fun e => by have := HV.out.dev.footLt _ e; omega)) (fun _ => hs1n e))); have HA1 := hidT ((HA0.out.later hb0.out).frame (HV.out.dev.reqs r (List.mem_singleton.2 rfl)).2 hs1.only); clear hs1 hs1n
  go_wp2_with (refine wpList_store_res rfl (.tmp 6) (.tmp 18) rfl w.heap.size r xa xm xc 0 rfl rfl (zero_there HZ1.out) (fun wK => VStep v b bm { d with busy := [r] } a n D (d.did r) a1 n D w wK ∧ ResBoxF wK w.heap.size r xa xm xc 0 ∧ r.At wK) ⟨vset8 HS1.out w.heap.size (Nat.le_refl _) HN1.out (by omega) HO1.out _ _ _ _ _ _ _ _, set8_res (zero_there HZ1.out) HZ1.out.2.2, HA1.out.frame (off_of HA0.out (fun k e => by omega)) (set8_only w1 w.heap.size _ _ _ _ _ _ _ _)⟩ ?_; rintro wK ⟨hsK, hrK, haK⟩; have HSK := hidT hsK; have HRK := hidT hrK; have HAK := hidT haK; obtain ⟨⟨y0, y1, y2, y3, y4, y5, y6, y7⟩, -, yl⟩ := hrK; clear hsK haK HS1 HN1 HO1 HZ1 HA1)
  refine (first_tag r tg HTG.out _ HAK.out h1).mono ?_
  rintro e w2 ⟨rfl, hb2⟩; have HS2 := hidT (HSK.out.later hb2); have HR2 := hidT (HRK.out.later hb2); have HA2 := hidT (HAK.out.later hb2); clear HSK HRK HAK hb2 y0 y1 y2 y3 y4 y5 y6 y7 yl; obtain ⟨⟨x0, x1, x2, x3, x4, x5, x6, x7⟩, -, xl⟩ := id HR2.out; obtain ⟨p0, p1⟩ := HS2.out.at'.cells; have hmp := HS2.out.at'.map; have hvl := lt_of_heap HS2.out.at'.blk
  go_wp2_with (first | (at_delete; refine wpList_delete_own _ rfl _ _ 63 3 rfl 3 keyI Try.underlying63 _ bm n D rfl hmp _ _ rfl hkey ?_; intro w3 hown3 hturn3; have HS3 := hidT (HS2.out.trans (HS2.out.at'.turn (only_of_grown hturn3.grown) hown3 HOB.out)); have HR3 := hidT (HR2.out.only (only_of_grown hturn3.grown) (by omega)); obtain ⟨⟨m0, m1, m2, m3, m4, m5, m6, m7⟩, -, ml⟩ := id HR3.out; have HN3 : Hid (¬ vfoot b bm a1 w.heap.size) := HNF.out; clear hown3 hturn3 hmp HS2 HR2 HA2 x0 x1 x2 x3 x4 x5 x6 x7 xl p0 p1 hvl) | (refine wpList_store_res rfl (.tmp 6) (.tmp 60) rfl w.heap.size r xa xm xc 0 rfl rfl HR3.out.2.1 (fun wK => VStep v b bm { d with busy := [r] } a n D (d.did r) a1 n (D.del (.int .i64 tg)) w wK ∧ ResBoxF wK w.heap.size r xa xm xc 0) ⟨vset8 HS3.out w.heap.size (Nat.le_refl _) HN3.out (by omega) HOQ.out _ _ _ _ _ _ _ _, set8_res HR3.out.2.1 HR3.out.2.2⟩ ?_; rintro w4 ⟨hs4, ⟨k0, k1, k2, k3, k4, k5, k6, k7⟩, -, -⟩; have HS4 := hidT hs4; clear hs4 HS3 HR3 HN3 m0 m1 m2 m3 m4 m5 m6 m7 ml))
  exact bodyPost_ret (v := .tuple #[resV r xa xm xc 0, .bool true, .nilIface]) (by simp [results, Try.results29, go_sem, k0, k1, k2, k3, k4, k5, k6, k7]) rfl ⟨a1, xa, xc, xm, rfl, HS4.out⟩
end Go.Proofs.Ythmeaclekedilac
/- A driver of a device: a request is tried again. -/
namespace Go.Proofs.Ythmeaclekedilac
open Go.RowKit Go.BigFrame Go.Maps
attribute [local go_sem] Later.cell Later.frozen

theorem step_store_res {ops : Array Oper} {o : Oper} {a : Act} {w : World} {K : Act → World → Prop} {Q : Exit → Act → World → Prop} {E : Prop} (hg : o.guard = none) (x y : Operand) (ho : o.op = .store 49 x y)
    (q : Nat) (r : Rq) (xa : Option Addr) (n xc : Nat) (er : Int) (hx : a.eval x = .pointer (some ⟨q, 0, none⟩)) (hy : a.eval y = resV r xa n xc er) (ht : w.there q 0 8)
    (h : K (a.put o.dst undef) (set8 w q (.bool r.wr) (.int .i64 r.f) (.int .i64 r.m) (.slice r.da r.data.length r.dc) (.slice r.ta r.tags.length r.tc) (.int .i64 r.born) (.slice xa n xc) (.int .i64 er))) :
    if Region.wanted o (yielded ops a.tmps) = true then Oper.wp Try.prog o a w K Q else E := by
  have hw : Region.wanted o (yielded ops a.tmps) = true := by simp [Region.wanted, hg]
  rw [if_pos hw]
  exact wp_store_mid 49 x y ho q 0 _ hx hy ht (by kernel_rfl) (by simp [Value.oneCell']) h
set_option linter.unusedSimpArgs false in
set_option maxRecDepth 100000 in
set_option maxHeartbeats 2000000 in
theorem vend_again (v b bm : Nat) (d : Dl) (a : An) (n : Nat) (D : DataW Unit) (r : Rq) (tg c : Int) (w : World) (h : VAt v b bm { d with busy := [r] } a n D w) (hd : d.busy = []) (ht : r.tags.getD 0 0 = tg) (htw : In64 tg) (h1 : 1 ≤ r.tags.length) (hc : D.atKey (.int .i64 tg) (.lit (.int .i64 0)) = .lit (.int .i64 c)) (hc2 : 0 ≤ c ∧ c < 2) (hn : n ≤ 100) (hob : r.Off (fun k => k = bm)) :
    Calls Try.prog 29 #[.pointer (some ⟨v, 0, none⟩), .int .i64 0, .bool true] w fun e w' => ∃ a', e = .returned (.tuple #[noRes, .bool false, .nilIface]) ∧ VStep v b bm { d with busy := [r] } a n D { d with busy := [r] } a' (n + 1) (D.put (.int .i64 tg) (.lit (.int .i64 (c + 1)))) w w' := by
  have HA0 := hidT (h.dev.reqs r (List.mem_singleton.2 rfl)).1
  have HTG := hidT ht
  have HED := hidT hd
  have HC := hidT hc
  have hkey : keyOf Try.prog 3 (.int .i64 tg) = some (.int .i64 tg) := keyOf_int_mk Try.underlying3 (WalkArith.wf_i64 htw)
  have hc3 : c + 1 < 3 := by omega
  obtain ⟨hc4, hc5⟩ := hc2
  have HOR := hidT hob
  clear ht hd hc htw hob
  obtain ⟨c0, c1⟩ := h.cells; have HV := hidT h; have hv := lt_of_heap h.blk; have hm := h.mlt; have hbv := h.dev.lt; have hb0 := hidT (below1 w (.cells #[.bool false, .int .i64 0, .int .i64 0, .slice none 0 0, .slice none 0 0, .int .i64 0, .slice none 0 0, .int .i64 0] 49)); clear h
  go_enter Try.func29, Try.ntmps29
  go_wp2_with fail
  refine (end_fault1 b d a r _ HED.out (HV.out.dev.later hb0.out)).mono ?_
  rintro e w1 ⟨a1, rfl, hs1⟩
  have hs1n : ¬ a1.foot b w.heap.size := new_notfoot hs1 HV.out.dev.footLt
  have HO1 : Hid (∀ r ∈ d.busy, r.Off (fun k => k = w.heap.size)) := fun r hr => by rw [HED.out] at hr; cases hr
  have HOQ := HO1
  have HOB : Hid (∀ r ∈ d.busy, r.Off (fun k => k = bm)) := fun r hr => by rw [HED.out] at hr; cases hr
  have HNF : Hid (¬ vfoot b bm a1 w.heap.size) := fun e => e.elim (fun e => by omega) hs1n
  have HOF : Hid (r.Off (a1.foot b)) := ⟨fun he ad ha hk => (hs1.foot _ hk).elim ((HV.out.dev.reqs r (List.mem_singleton.2 rfl)).2.1 he ad ha) (fun h' => by have := strs_lt HA0.out.data he ha; rw [World.size_alloc] at h'; omega), fun he ad ha hk => (hs1.foot _ hk).elim ((HV.out.dev.reqs r (List.mem_singleton.2 rfl)).2.2 he ad ha) (fun h' => by have := ints_lt HA0.out.tags he ha; rw [World.size_alloc] at h'; omega)⟩
  have HS1 := hidT (HV.out.step ((DStep.same HV.out.dev hb0.out).trans hs1)); have HZ1 := hidT ((zero_new w 49).only hs1.only (fun e => by have := HV.out.dev.footLt _ e; omega)); have HN1 : Hid (¬ vfoot b bm a1 w.heap.size) := (fun e => e.elim (fun e => by omega) (fun e => (HS1.out.foot _ (Or.inr e)).elim (fun e => e.elim (fun e => by omega) (fun e => by have := HV.out.dev.footLt _ e; omega)) (fun _ => hs1n e))); have HA1 := hidT ((HA0.out.later hb0.out).frame (HV.out.dev.reqs r (List.mem_singleton.2 rfl)).2 hs1.only); clear hs1 hs1n
  go_wp2_with (refine wpList_store_res rfl (.tmp 6) (.tmp 18) rfl w.heap.size r none 0 0 8 rfl rfl (zero_there HZ1.out) (fun wK => VStep v b bm { d with busy := [r] } a n D d a1 n D w wK ∧ ResBoxF wK w.heap.size r none 0 0 8 ∧ r.At wK) ⟨vset8 HS1.out w.heap.size (Nat.le_refl _) HN1.out (by omega) HO1.out _ _ _ _ _ _ _ _, set8_res (zero_there HZ1.out) HZ1.out.2.2, HA1.out.frame (off_of HA0.out (fun k e => by omega)) (set8_only w1 w.heap.size _ _ _ _ _ _ _ _)⟩ ?_; rintro wK ⟨hsK, hrK, haK⟩; have HSK := hidT hsK; have HRK := hidT hrK; have HAK := hidT haK; obtain ⟨⟨y0, y1, y2, y3, y4, y5, y6, y7⟩, -, yl⟩ := hrK; clear hsK haK HS1 HN1 HO1 HZ1 HA1)
  refine (first_tag r tg HTG.out _ HAK.out h1).mono ?_
  rintro e w2 ⟨rfl, hb2⟩; have HS2 := hidT (HSK.out.later hb2); have HR2 := hidT (HRK.out.later hb2); have HA2 := hidT (HAK.out.later hb2); clear HSK HRK HAK hb2 y0 y1 y2 y3 y4 y5 y6 y7 yl; obtain ⟨⟨x0, x1, x2, x3, x4, x5, x6, x7⟩, -, xl⟩ := id HR2.out; obtain ⟨p0, p1⟩ := HS2.out.at'.cells; have hmp := HS2.out.at'.map; have hvl := lt_of_heap HS2.out.at'.blk
  obtain ⟨c', hrun, hat, -⟩ := hmp.lookup_int keyI Try.underlying63 Try.underlying3 (zeroI _) hkey
  obtain rfl : c' = c := by rw [HC.out] at hat; injection hat with e; injection e with _ e; exact e.symm
  have HAT := hidT hat
  clear hat
  go_wp2_with (at_mapUpdate; refine wpList_mapUpdate_own _ rfl _ _ _ 63 rfl 3 3 keyI Try.underlying63 _ bm n D rfl hmp (by unfold maxLen; omega) _ _ _ rfl rfl hkey _ [] (plainElem_int Try.underlying3 (WalkArith.wf_i64 (by omega))) ?_; intro w3 hown3 hgrow3; have HS3 := hidT (HS2.out.trans (HS2.out.at'.turn (only_of_grown hgrow3) hown3 HOB.out)); have HR3 := hidT (HR2.out.only (only_of_grown hgrow3) (by omega)); have HA3 := hidT (HA2.out.frame HOR.out (only_of_grown hgrow3)); clear hown3 hgrow3 hmp HS2 HR2 HA2 x0 x1 x2 x3 x4 x5 x6 x7 xl p0 p1 hvl)
  have hd3 : Below w3.heap.size w3 w3.drew := (Below.refl _ _).drew
  have HS3d := hidT (HS3.out.later hd3)
  have HR3d := hidT (HR3.out.later hd3)
  have HA3d := hidT (HA3.out.later hd3)
  have HS : Hid (w3.drew.cell? ⟨v, 0, none⟩ = some (.pointer (some ⟨b, 0, none⟩))) := HS3d.out.at'.cells.1
  have eg : ∀ args w, Sem.run Try.prog (callFunc 14 args) w = .ok (.enter 14 args) w := by intro args w; go_simp
  clear HS3 HR3 HA3 hd3
  (try simp only [Act.put, List.getElem_toArray, List.getElem_cons_succ, List.getElem_cons_zero, List.setIfInBounds_toArray, List.set_cons_zero, List.set_cons_succ])
  refine region_till (S := fun wz => wz.cell? ⟨v, 0, none⟩ = some (.pointer (some ⟨b, 0, none⟩))) (d := 10) (by kernel_rfl) ?_
  generalize w3.drew = w3 at *
  refine till_take (i := 0) (v := ?_) rfl (by kernel_rfl) (by kernel_rfl) (by kernel_rfl) (by kernel_rfl) (fun _ _ _ h => h) (Or.inl ⟨by rfl, ?_⟩) HS.out ?_; rotate_left; (focus (intro w0 s6; go_simp; (try with_reducible rfl))); (try simp only [Act.put, List.getElem_toArray, List.getElem_cons_succ, List.getElem_cons_zero, List.setIfInBounds_toArray, List.set_cons_zero, List.set_cons_succ])
  refine till_take (i := 1) (v := ?_) rfl (by kernel_rfl) (by kernel_rfl) (by kernel_rfl) (by kernel_rfl) (fun _ _ _ h => h) (Or.inl ⟨by rfl, ?_⟩) HS.out ?_; rotate_left; (focus (intro w0 s6; go_simp; (try with_reducible rfl))); (try simp only [Act.put, List.getElem_toArray, List.getElem_cons_succ, List.getElem_cons_zero, List.setIfInBounds_toArray, List.set_cons_zero, List.set_cons_succ])
  refine till_take (i := 2) (v := ?_) rfl (by kernel_rfl) (by kernel_rfl) (by kernel_rfl) (by kernel_rfl) (fun _ _ _ h => h) (Or.inl ⟨by rfl, ?_⟩) HS.out ?_; rotate_left; (focus (intro w0 s6; go_simp; (try with_reducible rfl))); (try simp only [Act.put, List.getElem_toArray, List.getElem_cons_succ, List.getElem_cons_zero, List.setIfInBounds_toArray, List.set_cons_zero, List.set_cons_succ])
  refine till_take (i := 3) (v := ?_) rfl (by kernel_rfl) (by kernel_rfl) (by kernel_rfl) (by kernel_rfl) (fun _ _ _ h => h) (Or.inl ⟨by rfl, ?_⟩) HS.out ?_; rotate_left; (focus (intro w0 s6; go_simp; (try with_reducible rfl))); (try simp only [Act.put, List.getElem_toArray, List.getElem_cons_succ, List.getElem_cons_zero, List.setIfInBounds_toArray, List.set_cons_zero, List.set_cons_succ])
  refine till_take (i := 4) (v := ?_) rfl (by kernel_rfl) (by kernel_rfl) (by kernel_rfl) (by kernel_rfl) (fun _ _ _ h => h) (Or.inl ⟨by rfl, ?_⟩) HS.out ?_; rotate_left; (focus (intro w0 s6; go_simp; (try with_reducible rfl))); (try simp only [Act.put, List.getElem_toArray, List.getElem_cons_succ, List.getElem_cons_zero, List.setIfInBounds_toArray, List.set_cons_zero, List.set_cons_succ])
  refine till_take (i := 5) (v := ?_) rfl (by kernel_rfl) (by kernel_rfl) (by kernel_rfl) (by kernel_rfl) (fun _ _ _ h => h) (Or.inl ⟨by rfl, ?_⟩) HS.out ?_; rotate_left; (focus (intro w0 s6; go_simp; (try with_reducible rfl))); (try simp only [Act.put, List.getElem_toArray, List.getElem_cons_succ, List.getElem_cons_zero, List.setIfInBounds_toArray, List.set_cons_zero, List.set_cons_succ])
  obtain ⟨⟨x0, x1, x2, x3, x4, x5, x6, x7⟩, -, xl⟩ := id HR3d.out
  refine till_one (i := 6) rfl (by kernel_rfl) ?_
  intro K hK
  go_simp
  refine hK _ _ (fun _ => HS.out) ?_
  (try simp only [Act.put, List.getElem_toArray, List.getElem_cons_succ, List.getElem_cons_zero, List.setIfInBounds_toArray, List.set_cons_zero, List.set_cons_succ])
  clear hK
  refine till_one (i := 7) rfl (by kernel_rfl) ?_
  intro K hK
  refine step_call2 rfl 14 51 53 25 38 rfl eg (.pointer (some ⟨b, 0, none⟩)) r.val rfl rfl .nilIface (fun w' => ∃ a', DStep b d a1 { d with busy := [r] } a' w3 w') ((start_ok b d a1 r _ HS3d.out.at'.dev (by rw [HED.out]; simp) HA3d.out HOF.out).mono ?_) ?_
  · rintro e w4 ⟨a', he, hs⟩
    rw [HED.out] at hs
    exact ⟨he, a', hs⟩
  rintro w4 ⟨a4, hs4⟩
  have hq4 : ¬ vfoot b bm a4 w.heap.size := by
    rintro (e | e)
    · omega
    · rcases hs4.foot _ e with e | e
      · exact HNF.out (Or.inr e)
      · omega
  have HS4 := hidT (HS3d.out.trans (HS3d.out.at'.step hs4))
  have HR4 := hidT (HR3d.out.only hs4.only (fun e => HNF.out (Or.inr e)))
  have HQ4 := hidT hq4
  refine hK _ _ (fun _ => HS4.out.at'.cells.1) ?_
  (try simp only [Act.put, List.getElem_toArray, List.getElem_cons_succ, List.getElem_cons_zero, List.setIfInBounds_toArray, List.set_cons_zero, List.set_cons_succ])
  clear hK hs4 hq4 x0 x1 x2 x3 x4 x5 x6 x7 xl HS3d HR3d HA3d HS
  refine till_one (i := 8) rfl (by kernel_rfl) ?_
  intro K hK
  refine step_store_res rfl (.tmp 6) (.tmp 47) rfl w.heap.size rq0 none 0 0 0 rfl rfl HR4.out.2.1 ?_
  have HS5 := hidT (vset8 HS4.out w.heap.size (Nat.le_refl _) HQ4.out (by omega) (fun q hq => by rw [List.mem_singleton.1 hq]; exact off_of HA0.out (fun k e => by omega)) (.bool rq0.wr) (.int .i64 rq0.f) (.int .i64 rq0.m) (.slice rq0.da rq0.data.length rq0.dc) (.slice rq0.ta rq0.tags.length rq0.tc) (.int .i64 rq0.born) (.slice none 0 0) (.int .i64 0))
  have HR5 := hidT (set8_res (r := rq0) (xa := none) (n := 0) (xc := 0) (er := 0) HR4.out.2.1 HR4.out.2.2)
  refine hK _ _ (fun _ => HS5.out.at'.cells.1) ?_
  (try simp only [Act.put, List.getElem_toArray, List.getElem_cons_succ, List.getElem_cons_zero, List.setIfInBounds_toArray, List.set_cons_zero, List.set_cons_succ])
  clear hK
  generalize set8 w4 w.heap.size (.bool rq0.wr) (.int .i64 rq0.f) (.int .i64 rq0.m) (.slice rq0.da rq0.data.length rq0.dc) (.slice rq0.ta rq0.tags.length rq0.tc) (.int .i64 rq0.born) (.slice none 0 0) (.int .i64 0) = w5 at *
  clear HS4 HR4 HQ4
  refine till_one (i := 9) rfl (by kernel_rfl) ?_; intro K hK; go_simp; refine hK _ _ (fun _ => HS5.out.at'.cells.1) ?_; (try simp only [Act.put, List.getElem_toArray, List.getElem_cons_succ, List.getElem_cons_zero, List.setIfInBounds_toArray, List.set_cons_zero, List.set_cons_succ]); clear hK
  refine till_one (i := 10) rfl (by kernel_rfl) ?_; intro K hK; go_simp; refine hK _ _ (fun _ => HS5.out.at'.cells.1) ?_; (try simp only [Act.put, List.getElem_toArray, List.getElem_cons_succ, List.getElem_cons_zero, List.setIfInBounds_toArray, List.set_cons_zero, List.set_cons_succ]); clear hK
  refine till_done (by kernel_rfl) ?_ _
  obtain ⟨⟨k0, k1, k2, k3, k4, k5, k6, k7⟩, -, -⟩ := id HR5.out
  go_wp2
  exact bodyPost_ret (v := .tuple #[noRes, .bool false, .nilIface]) (by simp [results, Try.results29, go_sem, k0, k1, k2, k3, k4, k5, k6, k7, rq0]) rfl ⟨a4, rfl, HS5.out⟩
end Go.Proofs.Ythmeaclekedilac
/- A driver of a device, whatever requests it has: End of none; what its map says. -/
namespace Go.Proofs.Ythmeaclekedilac
open Go.RowKit Go.BigFrame Go.Maps
attribute [local go_sem] Later.cell Later.frozen

/-- What a map of numbers says of each. -/
def MapIs (D : DataW Unit) (f : Int → Int) : Prop := ∀ t, D.atKey (.int .i64 t) (.lit (.int .i64 0)) = .lit (.int .i64 (f t))
theorem mapIs_new : MapIs (.map []) (fun _ => 0) := fun _ => rfl
theorem MapIs.put {D : DataW Unit} {f : Int → Int} (h : MapIs D f) (hD : IsMap D) (t c : Int) : MapIs (D.put (.int .i64 t) (.lit (.int .i64 c))) (fun x => if x = t then c else f x) := fun x => by
  by_cases e : x = t
  · subst e; rw [atKey_put_same hD (by trivial)]; simp
  · rw [atKey_put_other (by simpa using e)]; simp [e, h x]
theorem MapIs.del {D : DataW Unit} {f : Int → Int} (h : MapIs D f) (t : Int) : MapIs (D.del (.int .i64 t)) (fun x => if x = t then 0 else f x) := fun x => by
  by_cases e : x = t
  · subst e; rw [atKey_del_same]; simp
  · rw [atKey_del_other (by simpa using e)]; simp [e, h x]
theorem end_faultG (b : Nat) (d : Dl) (a : An) (l : List Rq) (k : Nat) (r : Rq) (hb : d.busy = l) (hk : l[k]? = some r) (w : World) (h : DevAt b d a w) :
    Calls Try.prog 16 #[.pointer (some ⟨b, 0, none⟩), .int .i64 k, .bool true] w fun e w' => ∃ a', e = .returned (.tuple #[resV r none 0 0 8, .nilIface]) ∧ DStep b d a { d with busy := d.busy.eraseIdx k } a' w w' := by
  subst hb
  obtain ⟨hk', rfl⟩ := List.getElem?_eq_some_iff.1 hk
  exact end_fault b d a k hk' w h
set_option maxRecDepth 100000 in
set_option maxHeartbeats 1000000 in
theorem vg_none (v b bm : Nat) (d : Dl) (a : An) (n : Nat) (D : DataW Unit) (i : Int) (fl : Bool) (w : World) (h : VAt v b bm d a n D w) (hi : i < 0 ∨ (d.busy.length : Int) ≤ i) :
    Calls Try.prog 29 #[.pointer (some ⟨v, 0, none⟩), .int .i64 i, .bool fl] w fun e w' => e = .returned (.tuple #[noRes, .bool false, .iface 47 (.int .i64 5)]) ∧ Below w.heap.size w w' := by
  obtain ⟨c0, c1⟩ := h.cells; have HV := hidT h; have hv := lt_of_heap h.blk; have hm := h.mlt; have hbv := h.dev.lt; have hb0 := hidT (below1 w (.cells #[.bool false, .int .i64 0, .int .i64 0, .slice none 0 0, .slice none 0 0, .int .i64 0, .slice none 0 0, .int .i64 0] 49)); clear h
  have HI := hidT hi
  clear hi
  go_enter Try.func29, Try.ntmps29
  go_wp2_with fail
  refine (end_none b d a i fl _ (HV.out.dev.later hb0.out) HI.out).mono ?_
  rintro e w1 ⟨rfl, hb1⟩
  have hz1 := (zero_new w 49).only (F := fun _ => False) (Only.of_below hb1) (fun e => e)
  have hB1 := hb0.out.trans (hb1.mono hb0.out.size)
  have HZ1 := hidT hz1
  have HB1 := hidT hB1
  clear hb1 hB1 hz1
  go_wp2_with (first
    | (refine wpList_store_res rfl (.tmp 6) (.tmp 18) rfl w.heap.size rq0 none 0 0 0 rfl rfl (zero_there HZ1.out) (fun wK => Below w.heap.size w wK ∧ ResBoxF wK w.heap.size rq0 none 0 0 0) ⟨HB1.out.trans ((set8_only w1 w.heap.size _ _ _ _ _ _ _ _).below HB1.out.size (fun i e => by omega)), set8_res (zero_there HZ1.out) HZ1.out.2.2⟩ ?_; rintro w2 ⟨hb2, hr2⟩; have HB2 := hidT hb2; have HR2 := hidT hr2; clear hb2 hr2 HB1 HZ1)
    | (refine wpList_store_res rfl (.tmp 6) (.tmp 22) rfl w.heap.size rq0 none 0 0 0 rfl rfl HR2.out.2.1 (fun wK => Below w.heap.size w wK ∧ ResBoxF wK w.heap.size rq0 none 0 0 0) ⟨HB2.out.trans ((set8_only w2 w.heap.size _ _ _ _ _ _ _ _).below HB2.out.size (fun i e => by omega)), set8_res HR2.out.2.1 HR2.out.2.2⟩ ?_; rintro w3 ⟨hb3, ⟨z0, z1, z2, z3, z4, z5, z6, z7⟩, -, -⟩; have HB3 := hidT hb3; clear hb3 HB2 HR2))
  exact bodyPost_ret (v := .tuple #[noRes, .bool false, .iface 47 (.int .i64 5)]) (by simp [results, Try.results29, go_sem, z0, z1, z2, z3, z4, z5, z6, z7, rq0]) rfl ⟨rfl, HB3.out⟩
/-- What is known of a driver's requests. -/
structure VReq (bm : Nat) (d : Dl) (k : Nat) (r : Rq) (tg : Int) : Prop where
  at' : d.busy[k]? = some r
  tag : r.tags.getD 0 0 = tg
  in' : In64 tg
  some' : 1 ≤ r.tags.length
  off : ∀ q ∈ d.busy, q.Off (fun j => j = bm)
theorem VReq.mem {bm : Nat} {d : Dl} {k : Nat} {r : Rq} {tg : Int} (h : VReq bm d k r tg) : r ∈ d.busy := List.mem_of_getElem? h.at'
set_option maxRecDepth 100000 in
set_option maxHeartbeats 2000000 in
theorem vg_done (v b bm : Nat) (d : Dl) (a : An) (n : Nat) (D : DataW Unit) (k : Nat) (r : Rq) (tg c : Int) (w : World) (h : VAt v b bm d a n D w) (hr : VReq bm d k r tg) (hc : D.atKey (.int .i64 tg) (.lit (.int .i64 0)) = .lit (.int .i64 c)) (hc2 : 2 ≤ c ∧ c ≤ 100) :
    Calls Try.prog 29 #[.pointer (some ⟨v, 0, none⟩), .int .i64 k, .bool true] w fun e w' => ∃ a', e = .returned (.tuple #[resV r none 0 0 8, .bool true, .nilIface]) ∧ VStep v b bm d a n D { d with busy := d.busy.eraseIdx k } a' n (D.del (.int .i64 tg)) w w' := by
  have HA0 := hidT (h.dev.reqs r hr.mem).1
  have HMEM := hidT hr.mem
  have HRQ := hidT hr
  have HC := hidT hc
  have hkey : keyOf Try.prog 3 (.int .i64 tg) = some (.int .i64 tg) := keyOf_int_mk Try.underlying3 (WalkArith.wf_i64 hr.in')
  have h1 := hr.some'
  have hc3 : ¬ c + 1 < 3 := by omega
  obtain ⟨hc4, hc5⟩ := hc2
  clear hc hr
  obtain ⟨c0, c1⟩ := h.cells; have HV := hidT h; have hv := lt_of_heap h.blk; have hm := h.mlt; have hbv := h.dev.lt; have hb0 := hidT (below1 w (.cells #[.bool false, .int .i64 0, .int .i64 0, .slice none 0 0, .slice none 0 0, .int .i64 0, .slice none 0 0, .int .i64 0] 49)); clear h
  go_enter Try.func29, Try.ntmps29
  go_wp2_with fail
  refine (end_faultG b d a _ k r rfl HRQ.out.at' _ (HV.out.dev.later hb0.out)).mono ?_
  rintro e w1 ⟨a1, rfl, hs1⟩
  have hs1n : ¬ a1.foot b w.heap.size := new_notfoot hs1 HV.out.dev.footLt
  obtain ⟨d1, hd1⟩ : ∃ d1 : Dl, d1 = { d with busy := d.busy.eraseIdx k } := ⟨_, rfl⟩
  have HD1 := hidT hd1
  rw [← hd1] at hs1
  have HO1 : Hid (∀ q ∈ d1.busy, q.Off (fun j => j = w.heap.size)) := fun q hq => by rw [HD1.out] at hq; exact off_of (HV.out.dev.reqs q (List.mem_of_mem_eraseIdx hq)).1 (fun j e => by omega)
  have HOQ := HO1
  have HOB : Hid (∀ q ∈ d1.busy, q.Off (fun j => j = bm)) := fun q hq => by rw [HD1.out] at hq; exact HRQ.out.off q (List.mem_of_mem_eraseIdx hq)
  have HNF : Hid (¬ vfoot b bm a1 w.heap.size) := fun e => e.elim (fun e => by omega) hs1n
  clear hd1
  have HS1 := hidT (HV.out.step ((DStep.same HV.out.dev hb0.out).trans hs1)); have HZ1 := hidT ((zero_new w 49).only hs1.only (fun e => by have := HV.out.dev.footLt _ e; omega)); have HN1 : Hid (¬ vfoot b bm a1 w.heap.size) := (fun e => e.elim (fun e => by omega) (fun e => (HS1.out.foot _ (Or.inr e)).elim (fun e => e.elim (fun e => by omega) (fun e => by have := HV.out.dev.footLt _ e; omega)) (fun _ => hs1n e))); have HA1 := hidT ((HA0.out.later hb0.out).frame (HV.out.dev.reqs r (HMEM.out)).2 hs1.only); clear hs1 hs1n
  go_wp2_with (refine wpList_store_res rfl (.tmp 6) (.tmp 18) rfl w.heap.size r none 0 0 8 rfl rfl (zero_there HZ1.out) (fun wK => VStep v b bm d a n D d1 a1 n D w wK ∧ ResBoxF wK w.heap.size r none 0 0 8 ∧ r.At wK) ⟨vset8 HS1.out w.heap.size (Nat.le_refl _) HN1.out (by omega) HO1.out _ _ _ _ _ _ _ _, set8_res (zero_there HZ1.out) HZ1.out.2.2, HA1.out.frame (off_of HA0.out (fun k e => by omega)) (set8_only w1 w.heap.size _ _ _ _ _ _ _ _)⟩ ?_; rintro wK ⟨hsK, hrK, haK⟩; have HSK := hidT hsK; have HRK := hidT hrK; have HAK := hidT haK; obtain ⟨⟨y0, y1, y2, y3, y4, y5, y6, y7⟩, -, yl⟩ := hrK; clear hsK haK HS1 HN1 HO1 HZ1 HA1)
  refine (first_tag r tg HRQ.out.tag _ HAK.out h1).mono ?_
  rintro e w2 ⟨rfl, hb2⟩; have HS2 := hidT (HSK.out.later hb2); have HR2 := hidT (HRK.out.later hb2); have HA2 := hidT (HAK.out.later hb2); clear HSK HRK HAK hb2 y0 y1 y2 y3 y4 y5 y6 y7 yl; obtain ⟨⟨x0, x1, x2, x3, x4, x5, x6, x7⟩, -, xl⟩ := id HR2.out; obtain ⟨p0, p1⟩ := HS2.out.at'.cells; have hmp := HS2.out.at'.map; have hvl := lt_of_heap HS2.out.at'.blk
  obtain ⟨c', hrun, hat, -⟩ := hmp.lookup_int keyI Try.underlying63 Try.underlying3 (zeroI _) hkey
  obtain rfl : c' = c := by rw [HC.out] at hat; injection hat with e; injection e with _ e; exact e.symm
  have HAT := hidT hat
  clear hat
  go_wp2_with (first | (at_delete; refine wpList_delete_own _ rfl _ _ 63 3 rfl 3 keyI Try.underlying63 _ bm n D rfl hmp _ _ rfl hkey ?_; intro w3 hown3 hturn3; have HS3 := hidT (HS2.out.trans (HS2.out.at'.turn (only_of_grown hturn3.grown) hown3 HOB.out)); have HR3 := hidT (HR2.out.only (only_of_grown hturn3.grown) (by omega)); obtain ⟨⟨m0, m1, m2, m3, m4, m5, m6, m7⟩, -, ml⟩ := id HR3.out; have HN3 : Hid (¬ vfoot b bm a1 w.heap.size) := HNF.out; clear hown3 hturn3 hmp HS2 HR2 HA2 x0 x1 x2 x3 x4 x5 x6 x7 xl p0 p1 hvl) | (refine wpList_store_res rfl (.tmp 6) (.tmp 60) rfl w.heap.size r none 0 0 8 rfl rfl HR3.out.2.1 (fun wK => VStep v b bm d a n D d1 a1 n (D.del (.int .i64 tg)) w wK ∧ ResBoxF wK w.heap.size r none 0 0 8) ⟨vset8 HS3.out w.heap.size (Nat.le_refl _) HN3.out (by omega) HOQ.out _ _ _ _ _ _ _ _, set8_res HR3.out.2.1 HR3.out.2.2⟩ ?_; rintro w4 ⟨hs4, ⟨k0, k1, k2, k3, k4, k5, k6, k7⟩, -, -⟩; have HS4 := hidT hs4; clear hs4 HS3 HR3 HN3 m0 m1 m2 m3 m4 m5 m6 m7 ml))
  refine bodyPost_ret (v := .tuple #[resV r none 0 0 8, .bool true, .nilIface]) (by simp [results, Try.results29, go_sem, k0, k1, k2, k3, k4, k5, k6, k7]) rfl ⟨a1, rfl, ?_⟩
  rw [← HD1.out]
  exact HS4.out
end Go.Proofs.Ythmeaclekedilac
/- A driver of a device, whatever requests it has: one ends well, or is tried again. -/
namespace Go.Proofs.Ythmeaclekedilac
open Go.RowKit Go.BigFrame Go.Maps
attribute [local go_sem] Later.cell Later.frozen

set_option maxRecDepth 100000 in
set_option maxHeartbeats 2000000 in
theorem vg_ok (v b bm : Nat) (d : Dl) (a : An) (n : Nat) (D : DataW Unit) (k : Nat) (r : Rq) (tg : Int) (w : World) (h : VAt v b bm d a n D w) (hr : VReq bm d k r tg) (gr : Good r) :
    Calls Try.prog 29 #[.pointer (some ⟨v, 0, none⟩), .int .i64 k, .bool false] w fun e w' => ∃ a' xa xc xs, e = .returned (.tuple #[resV r xa (List.length xs) xc 0, .bool true, .nilIface]) ∧ Hid (xs = didRead d r) ∧ StrsAt w' xa xs ∧ (∀ ad, xa = some ad → w.heap.size ≤ ad.block ∧ ¬ vfoot b bm a' ad.block) ∧ VStep v b bm d a n D (({ d with busy := d.busy.eraseIdx k } : Dl).did r) a' n (D.del (.int .i64 tg)) w w' := by
  have HA0 := hidT (h.dev.reqs r hr.mem).1
  have HMEM := hidT hr.mem
  have HRQ := hidT hr
  have HG := hidT gr
  have hkey : keyOf Try.prog 3 (.int .i64 tg) = some (.int .i64 tg) := keyOf_int_mk Try.underlying3 (WalkArith.wf_i64 hr.in')
  have h1 := hr.some'
  clear gr hr
  obtain ⟨c0, c1⟩ := h.cells; have HV := hidT h; have hv := lt_of_heap h.blk; have hm := h.mlt; have hbv := h.dev.lt; have hb0 := hidT (below1 w (.cells #[.bool false, .int .i64 0, .int .i64 0, .slice none 0 0, .slice none 0 0, .int .i64 0, .slice none 0 0, .int .i64 0] 49)); clear h
  go_enter Try.func29, Try.ntmps29
  go_wp2_with fail
  refine (end_at b d a _ k r rfl HRQ.out.at' _ (HV.out.dev.later hb0.out) HG.out).mono ?_
  rintro e w1 ⟨a1, xa, xc, xs, rfl, hxs, hst, hnew, hs1⟩
  have hs1n : ¬ a1.foot b w.heap.size := new_notfoot hs1 HV.out.dev.footLt
  obtain ⟨d1, hd1⟩ : ∃ d1 : Dl, d1 = (({ d with busy := d.busy.eraseIdx k } : Dl).did r) := ⟨_, rfl⟩
  have HD1 := hidT hd1
  rw [← hd1] at hs1
  have HBY : Hid (∀ q ∈ d1.busy, q ∈ d.busy) := fun q hq => by rw [HD1.out, Dl.did_busy] at hq; exact List.mem_of_mem_eraseIdx hq
  have HO1 : Hid (∀ q ∈ d1.busy, q.Off (fun j => j = w.heap.size)) := fun q hq => off_of (HV.out.dev.reqs q (HBY.out q hq)).1 (fun j e => by omega)
  have HOQ := HO1
  have HOB : Hid (∀ q ∈ d1.busy, q.Off (fun j => j = bm)) := fun q hq => HRQ.out.off q (HBY.out q hq)
  have HNF : Hid (¬ vfoot b bm a1 w.heap.size) := fun e => e.elim (fun e => by omega) hs1n
  have hxn : ∀ ad, xa = some ad → ad.block ≠ w.heap.size ∧ ad.block ≠ bm := fun ad e => by have := (hnew ad e).1; rw [World.size_alloc] at this; omega
  have HXN := hidT hxn
  have HNW : Hid (∀ ad, xa = some ad → w.heap.size ≤ ad.block ∧ ¬ vfoot b bm a1 ad.block) := fun ad e => ⟨by have := (hnew ad e).1; rw [World.size_alloc] at this; omega, fun hk => hk.elim (hxn ad e).2 (hnew ad e).2⟩
  have HX1 := hidT hst
  have HXS := hxs
  clear hd1 hxn hst hnew hxs
  have HS1 := hidT (HV.out.step ((DStep.same HV.out.dev hb0.out).trans hs1)); have HZ1 := hidT ((zero_new w 49).only hs1.only (fun e => by have := HV.out.dev.footLt _ e; omega)); have HN1 : Hid (¬ vfoot b bm a1 w.heap.size) := (fun e => e.elim (fun e => by omega) (fun e => (HS1.out.foot _ (Or.inr e)).elim (fun e => e.elim (fun e => by omega) (fun e => by have := HV.out.dev.footLt _ e; omega)) (fun _ => hs1n e))); have HA1 := hidT ((HA0.out.later hb0.out).frame (HV.out.dev.reqs r (HMEM.out)).2 hs1.only); clear hs1 hs1n
  generalize hxl : xs.length = xm at *
  go_wp2_with (refine wpList_store_res rfl (.tmp 6) (.tmp 18) rfl w.heap.size r xa xm xc 0 rfl rfl (zero_there HZ1.out) (fun wK => VStep v b bm d a n D d1 a1 n D w wK ∧ ResBoxF wK w.heap.size r xa xm xc 0 ∧ r.At wK ∧ StrsAt wK xa xs) ⟨vset8 HS1.out w.heap.size (Nat.le_refl _) HN1.out (by omega) HO1.out _ _ _ _ _ _ _ _, set8_res (zero_there HZ1.out) HZ1.out.2.2, HA1.out.frame (off_of HA0.out (fun k e => by omega)) (set8_only w1 w.heap.size _ _ _ _ _ _ _ _), strs_frame HX1.out (set8_only w1 w.heap.size _ _ _ _ _ _ _ _) (fun _ ad e => (HXN.out ad e).1)⟩ ?_; rintro wK ⟨hsK, hrK, haK, hxK⟩; have HXK := hidT hxK; clear hxK; have HSK := hidT hsK; have HRK := hidT hrK; have HAK := hidT haK; obtain ⟨⟨y0, y1, y2, y3, y4, y5, y6, y7⟩, -, yl⟩ := hrK; clear hsK haK HS1 HN1 HO1 HZ1 HA1)
  refine (first_tag r tg HRQ.out.tag _ HAK.out h1).mono ?_
  rintro e w2 ⟨rfl, hb2⟩; have HX2 := hidT (HXK.out.later hb2); have HS2 := hidT (HSK.out.later hb2); have HR2 := hidT (HRK.out.later hb2); have HA2 := hidT (HAK.out.later hb2); clear HSK HRK HAK hb2 y0 y1 y2 y3 y4 y5 y6 y7 yl; obtain ⟨⟨x0, x1, x2, x3, x4, x5, x6, x7⟩, -, xl⟩ := id HR2.out; obtain ⟨p0, p1⟩ := HS2.out.at'.cells; have hmp := HS2.out.at'.map; have hvl := lt_of_heap HS2.out.at'.blk
  go_wp2_with (first | (at_delete; refine wpList_delete_own _ rfl _ _ 63 3 rfl 3 keyI Try.underlying63 _ bm n D rfl hmp _ _ rfl hkey ?_; intro w3 hown3 hturn3; have HX3 := hidT (strs_frame HX2.out (only_of_grown hturn3.grown) (fun _ ad e => (HXN.out ad e).2)); have HS3 := hidT (HS2.out.trans (HS2.out.at'.turn (only_of_grown hturn3.grown) hown3 HOB.out)); have HR3 := hidT (HR2.out.only (only_of_grown hturn3.grown) (by omega)); obtain ⟨⟨m0, m1, m2, m3, m4, m5, m6, m7⟩, -, ml⟩ := id HR3.out; have HN3 : Hid (¬ vfoot b bm a1 w.heap.size) := HNF.out; clear hown3 hturn3 hmp HS2 HR2 HA2 x0 x1 x2 x3 x4 x5 x6 x7 xl p0 p1 hvl) | (refine wpList_store_res rfl (.tmp 6) (.tmp 60) rfl w.heap.size r xa xm xc 0 rfl rfl HR3.out.2.1 (fun wK => VStep v b bm d a n D d1 a1 n (D.del (.int .i64 tg)) w wK ∧ ResBoxF wK w.heap.size r xa xm xc 0 ∧ StrsAt wK xa xs) ⟨vset8 HS3.out w.heap.size (Nat.le_refl _) HN3.out (by omega) HOQ.out _ _ _ _ _ _ _ _, set8_res HR3.out.2.1 HR3.out.2.2, strs_frame HX3.out (set8_only _ w.heap.size _ _ _ _ _ _ _ _) (fun _ ad e => (HXN.out ad e).1)⟩ ?_; rintro w4 ⟨hs4, ⟨⟨k0, k1, k2, k3, k4, k5, k6, k7⟩, -, -⟩, hx4⟩; have HX4 := hidT hx4; clear hx4; have HS4 := hidT hs4; clear hs4 HS3 HR3 HN3 m0 m1 m2 m3 m4 m5 m6 m7 ml))
  refine bodyPost_ret (v := .tuple #[resV r xa xm xc 0, .bool true, .nilIface]) (by simp [results, Try.results29, go_sem, k0, k1, k2, k3, k4, k5, k6, k7]) rfl ⟨a1, xa, xc, xs, by rw [hxl], HXS, HX4.out, HNW.out, ?_⟩
  rw [← HD1.out]
  exact HS4.out
set_option linter.unusedSimpArgs false in
set_option maxRecDepth 100000 in
set_option maxHeartbeats 2000000 in
theorem vg_again (v b bm : Nat) (d : Dl) (a : An) (n : Nat) (D : DataW Unit) (k : Nat) (r : Rq) (tg c : Int) (w : World) (h : VAt v b bm d a n D w) (hr : VReq bm d k r tg) (hc : D.atKey (.int .i64 tg) (.lit (.int .i64 0)) = .lit (.int .i64 c)) (hc2 : 0 ≤ c ∧ c < 2) (hn : n ≤ 1000000000) :
    Calls Try.prog 29 #[.pointer (some ⟨v, 0, none⟩), .int .i64 k, .bool true] w fun e w' => ∃ a', e = .returned (.tuple #[noRes, .bool false, .nilIface]) ∧ VStep v b bm d a n D { d with busy := d.busy.eraseIdx k ++ [r] } a' (n + 1) (D.put (.int .i64 tg) (.lit (.int .i64 (c + 1)))) w w' := by
  have HA0 := hidT (h.dev.reqs r hr.mem).1
  have HMEM := hidT hr.mem
  have HRQ := hidT hr
  have HC := hidT hc
  have hkey : keyOf Try.prog 3 (.int .i64 tg) = some (.int .i64 tg) := keyOf_int_mk Try.underlying3 (WalkArith.wf_i64 hr.in')
  have h1 := hr.some'
  have hc3 : c + 1 < 3 := by omega
  obtain ⟨hc4, hc5⟩ := hc2
  have HOR := hidT (hr.off r hr.mem)
  have HLE : Hid ((d.busy.eraseIdx k).length < 2) := by
    show _ < _
    have h2 := h.dev.blen
    have h3 := (List.getElem?_eq_some_iff.1 hr.at').1
    rw [List.length_eraseIdx, if_pos h3]; omega
  clear hc hr
  obtain ⟨c0, c1⟩ := h.cells; have HV := hidT h; have hv := lt_of_heap h.blk; have hm := h.mlt; have hbv := h.dev.lt; have hb0 := hidT (below1 w (.cells #[.bool false, .int .i64 0, .int .i64 0, .slice none 0 0, .slice none 0 0, .int .i64 0, .slice none 0 0, .int .i64 0] 49)); clear h
  go_enter Try.func29, Try.ntmps29
  go_wp2_with fail
  refine (end_faultG b d a _ k r rfl HRQ.out.at' _ (HV.out.dev.later hb0.out)).mono ?_
  rintro e w1 ⟨a1, rfl, hs1⟩
  have hs1n : ¬ a1.foot b w.heap.size := new_notfoot hs1 HV.out.dev.footLt
  obtain ⟨d1, hd1⟩ : ∃ d1 : Dl, d1 = { d with busy := d.busy.eraseIdx k } := ⟨_, rfl⟩
  have HD1 := hidT hd1
  rw [← hd1] at hs1
  have HBY : Hid (∀ q ∈ d1.busy, q ∈ d.busy) := fun q hq => by rw [HD1.out] at hq; exact List.mem_of_mem_eraseIdx hq
  have HL1 : Hid (d1.busy.length < 2) := by show _ < _; rw [HD1.out]; exact HLE.out
  have HO1 : Hid (∀ q ∈ d1.busy, q.Off (fun j => j = w.heap.size)) := fun q hq => off_of (HV.out.dev.reqs q (HBY.out q hq)).1 (fun j e => by omega)
  have HOQ := HO1
  have HOB : Hid (∀ q ∈ d1.busy, q.Off (fun j => j = bm)) := fun q hq => HRQ.out.off q (HBY.out q hq)
  clear hd1
  have HNF : Hid (¬ vfoot b bm a1 w.heap.size) := fun e => e.elim (fun e => by omega) hs1n
  have HOF : Hid (r.Off (a1.foot b)) := ⟨fun he ad ha hk => (hs1.foot _ hk).elim ((HV.out.dev.reqs r (HMEM.out)).2.1 he ad ha) (fun h' => by have := strs_lt HA0.out.data he ha; rw [World.size_alloc] at h'; omega), fun he ad ha hk => (hs1.foot _ hk).elim ((HV.out.dev.reqs r (HMEM.out)).2.2 he ad ha) (fun h' => by have := ints_lt HA0.out.tags he ha; rw [World.size_alloc] at h'; omega)⟩
  have HS1 := hidT (HV.out.step ((DStep.same HV.out.dev hb0.out).trans hs1)); have HZ1 := hidT ((zero_new w 49).only hs1.only (fun e => by have := HV.out.dev.footLt _ e; omega)); have HN1 : Hid (¬ vfoot b bm a1 w.heap.size) := (fun e => e.elim (fun e => by omega) (fun e => (HS1.out.foot _ (Or.inr e)).elim (fun e => e.elim (fun e => by omega) (fun e => by have := HV.out.dev.footLt _ e; omega)) (fun _ => hs1n e))); have HA1 := hidT ((HA0.out.later hb0.out).frame (HV.out.dev.reqs r (HMEM.out)).2 hs1.only); clear hs1 hs1n
  go_wp2_with (refine wpList_store_res rfl (.tmp 6) (.tmp 18) rfl w.heap.size r none 0 0 8 rfl rfl (zero_there HZ1.out) (fun wK => VStep v b bm d a n D d1 a1 n D w wK ∧ ResBoxF wK w.heap.size r none 0 0 8 ∧ r.At wK) ⟨vset8 HS1.out w.heap.size (Nat.le_refl _) HN1.out (by omega) HO1.out _ _ _ _ _ _ _ _, set8_res (zero_there HZ1.out) HZ1.out.2.2, HA1.out.frame (off_of HA0.out (fun k e => by omega)) (set8_only w1 w.heap.size _ _ _ _ _ _ _ _)⟩ ?_; rintro wK ⟨hsK, hrK, haK⟩; have HSK := hidT hsK; have HRK := hidT hrK; have HAK := hidT haK; obtain ⟨⟨y0, y1, y2, y3, y4, y5, y6, y7⟩, -, yl⟩ := hrK; clear hsK haK HS1 HN1 HO1 HZ1 HA1)
  refine (first_tag r tg HRQ.out.tag _ HAK.out h1).mono ?_
  rintro e w2 ⟨rfl, hb2⟩; have HS2 := hidT (HSK.out.later hb2); have HR2 := hidT (HRK.out.later hb2); have HA2 := hidT (HAK.out.later hb2); clear HSK HRK HAK hb2 y0 y1 y2 y3 y4 y5 y6 y7 yl; obtain ⟨⟨x0, x1, x2, x3, x4, x5, x6, x7⟩, -, xl⟩ := id HR2.out; obtain ⟨p0, p1⟩ := HS2.out.at'.cells; have hmp := HS2.out.at'.map; have hvl := lt_of_heap HS2.out.at'.blk
  obtain ⟨c', hrun, hat, -⟩ := hmp.lookup_int keyI Try.underlying63 Try.underlying3 (zeroI _) hkey
  obtain rfl : c' = c := by rw [HC.out] at hat; injection hat with e; injection e with _ e; exact e.symm
  have HAT := hidT hat
  clear hat
  go_wp2_with (at_mapUpdate; refine wpList_mapUpdate_own _ rfl _ _ _ 63 rfl 3 3 keyI Try.underlying63 _ bm n D rfl hmp (by unfold maxLen; omega) _ _ _ rfl rfl hkey _ [] (plainElem_int Try.underlying3 (WalkArith.wf_i64 (by omega))) ?_; intro w3 hown3 hgrow3; have HS3 := hidT (HS2.out.trans (HS2.out.at'.turn (only_of_grown hgrow3) hown3 HOB.out)); have HR3 := hidT (HR2.out.only (only_of_grown hgrow3) (by omega)); have HA3 := hidT (HA2.out.frame HOR.out (only_of_grown hgrow3)); clear hown3 hgrow3 hmp HS2 HR2 HA2 x0 x1 x2 x3 x4 x5 x6 x7 xl p0 p1 hvl)
  have hd3 : Below w3.heap.size w3 w3.drew := (Below.refl _ _).drew
  have HS3d := hidT (HS3.out.later hd3)
  have HR3d := hidT (HR3.out.later hd3)
  have HA3d := hidT (HA3.out.later hd3)
  have HS : Hid (w3.drew.cell? ⟨v, 0, none⟩ = some (.pointer (some ⟨b, 0, none⟩))) := HS3d.out.at'.cells.1
  have eg : ∀ args w, Sem.run Try.prog (callFunc 14 args) w = .ok (.enter 14 args) w := by intro args w; go_simp
  clear HS3 HR3 HA3 hd3
  (try simp only [Act.put, List.getElem_toArray, List.getElem_cons_succ, List.getElem_cons_zero, List.setIfInBounds_toArray, List.set_cons_zero, List.set_cons_succ])
  refine region_till (S := fun wz => wz.cell? ⟨v, 0, none⟩ = some (.pointer (some ⟨b, 0, none⟩))) (d := 10) (by kernel_rfl) ?_
  generalize w3.drew = w3 at *
  refine till_take (i := 0) (v := ?_) rfl (by kernel_rfl) (by kernel_rfl) (by kernel_rfl) (by kernel_rfl) (fun _ _ _ h => h) (Or.inl ⟨by rfl, ?_⟩) HS.out ?_; rotate_left; (focus (intro w0 s6; go_simp; (try with_reducible rfl))); (try simp only [Act.put, List.getElem_toArray, List.getElem_cons_succ, List.getElem_cons_zero, List.setIfInBounds_toArray, List.set_cons_zero, List.set_cons_succ])
  refine till_take (i := 1) (v := ?_) rfl (by kernel_rfl) (by kernel_rfl) (by kernel_rfl) (by kernel_rfl) (fun _ _ _ h => h) (Or.inl ⟨by rfl, ?_⟩) HS.out ?_; rotate_left; (focus (intro w0 s6; go_simp; (try with_reducible rfl))); (try simp only [Act.put, List.getElem_toArray, List.getElem_cons_succ, List.getElem_cons_zero, List.setIfInBounds_toArray, List.set_cons_zero, List.set_cons_succ])
  refine till_take (i := 2) (v := ?_) rfl (by kernel_rfl) (by kernel_rfl) (by kernel_rfl) (by kernel_rfl) (fun _ _ _ h => h) (Or.inl ⟨by rfl, ?_⟩) HS.out ?_; rotate_left; (focus (intro w0 s6; go_simp; (try with_reducible rfl))); (try simp only [Act.put, List.getElem_toArray, List.getElem_cons_succ, List.getElem_cons_zero, List.setIfInBounds_toArray, List.set_cons_zero, List.set_cons_succ])
  refine till_take (i := 3) (v := ?_) rfl (by kernel_rfl) (by kernel_rfl) (by kernel_rfl) (by kernel_rfl) (fun _ _ _ h => h) (Or.inl ⟨by rfl, ?_⟩) HS.out ?_; rotate_left; (focus (intro w0 s6; go_simp; (try with_reducible rfl))); (try simp only [Act.put, List.getElem_toArray, List.getElem_cons_succ, List.getElem_cons_zero, List.setIfInBounds_toArray, List.set_cons_zero, List.set_cons_succ])
  refine till_take (i := 4) (v := ?_) rfl (by kernel_rfl) (by kernel_rfl) (by kernel_rfl) (by kernel_rfl) (fun _ _ _ h => h) (Or.inl ⟨by rfl, ?_⟩) HS.out ?_; rotate_left; (focus (intro w0 s6; go_simp; (try with_reducible rfl))); (try simp only [Act.put, List.getElem_toArray, List.getElem_cons_succ, List.getElem_cons_zero, List.setIfInBounds_toArray, List.set_cons_zero, List.set_cons_succ])
  refine till_take (i := 5) (v := ?_) rfl (by kernel_rfl) (by kernel_rfl) (by kernel_rfl) (by kernel_rfl) (fun _ _ _ h => h) (Or.inl ⟨by rfl, ?_⟩) HS.out ?_; rotate_left; (focus (intro w0 s6; go_simp; (try with_reducible rfl))); (try simp only [Act.put, List.getElem_toArray, List.getElem_cons_succ, List.getElem_cons_zero, List.setIfInBounds_toArray, List.set_cons_zero, List.set_cons_succ])
  obtain ⟨⟨x0, x1, x2, x3, x4, x5, x6, x7⟩, -, xl⟩ := id HR3d.out
  refine till_one (i := 6) rfl (by kernel_rfl) ?_
  intro K hK
  go_simp
  refine hK _ _ (fun _ => HS.out) ?_
  (try simp only [Act.put, List.getElem_toArray, List.getElem_cons_succ, List.getElem_cons_zero, List.setIfInBounds_toArray, List.set_cons_zero, List.set_cons_succ])
  clear hK
  refine till_one (i := 7) rfl (by kernel_rfl) ?_
  intro K hK
  refine step_call2 rfl 14 51 53 25 38 rfl eg (.pointer (some ⟨b, 0, none⟩)) r.val rfl rfl .nilIface (fun w' => ∃ a', DStep b d1 a1 { d1 with busy := d1.busy ++ [r] } a' w3 w') ((start_ok b d1 a1 r _ HS3d.out.at'.dev HL1.out HA3d.out HOF.out).mono (fun e w' ⟨a', he, hs⟩ => ⟨he, a', hs⟩)) ?_
  rintro w4 ⟨a4, hs4⟩
  have hq4 : ¬ vfoot b bm a4 w.heap.size := by
    rintro (e | e)
    · omega
    · rcases hs4.foot _ e with e | e
      · exact HNF.out (Or.inr e)
      · omega
  have HS4 := hidT (HS3d.out.trans (HS3d.out.at'.step hs4))
  have HR4 := hidT (HR3d.out.only hs4.only (fun e => HNF.out (Or.inr e)))
  have HQ4 := hidT hq4
  refine hK _ _ (fun _ => HS4.out.at'.cells.1) ?_
  (try simp only [Act.put, List.getElem_toArray, List.getElem_cons_succ, List.getElem_cons_zero, List.setIfInBounds_toArray, List.set_cons_zero, List.set_cons_succ])
  clear hK hs4 hq4 x0 x1 x2 x3 x4 x5 x6 x7 xl HS3d HR3d HA3d HS
  refine till_one (i := 8) rfl (by kernel_rfl) ?_
  intro K hK
  refine step_store_res rfl (.tmp 6) (.tmp 47) rfl w.heap.size rq0 none 0 0 0 rfl rfl HR4.out.2.1 ?_
  have HS5 := hidT (vset8 HS4.out w.heap.size (Nat.le_refl _) HQ4.out (by omega) (fun q hq => by rcases List.mem_append.1 hq with hq' | hq'; exact HOQ.out q hq'; (rw [List.mem_singleton.1 hq']; exact off_of HA0.out (fun k e => by omega))) (.bool rq0.wr) (.int .i64 rq0.f) (.int .i64 rq0.m) (.slice rq0.da rq0.data.length rq0.dc) (.slice rq0.ta rq0.tags.length rq0.tc) (.int .i64 rq0.born) (.slice none 0 0) (.int .i64 0))
  have HR5 := hidT (set8_res (r := rq0) (xa := none) (n := 0) (xc := 0) (er := 0) HR4.out.2.1 HR4.out.2.2)
  refine hK _ _ (fun _ => HS5.out.at'.cells.1) ?_
  (try simp only [Act.put, List.getElem_toArray, List.getElem_cons_succ, List.getElem_cons_zero, List.setIfInBounds_toArray, List.set_cons_zero, List.set_cons_succ])
  clear hK
  generalize set8 w4 w.heap.size (.bool rq0.wr) (.int .i64 rq0.f) (.int .i64 rq0.m) (.slice rq0.da rq0.data.length rq0.dc) (.slice rq0.ta rq0.tags.length rq0.tc) (.int .i64 rq0.born) (.slice none 0 0) (.int .i64 0) = w5 at *
  clear HS4 HR4 HQ4
  refine till_one (i := 9) rfl (by kernel_rfl) ?_; intro K hK; go_simp; refine hK _ _ (fun _ => HS5.out.at'.cells.1) ?_; (try simp only [Act.put, List.getElem_toArray, List.getElem_cons_succ, List.getElem_cons_zero, List.setIfInBounds_toArray, List.set_cons_zero, List.set_cons_succ]); clear hK
  refine till_one (i := 10) rfl (by kernel_rfl) ?_; intro K hK; go_simp; refine hK _ _ (fun _ => HS5.out.at'.cells.1) ?_; (try simp only [Act.put, List.getElem_toArray, List.getElem_cons_succ, List.getElem_cons_zero, List.setIfInBounds_toArray, List.set_cons_zero, List.set_cons_succ]); clear hK
  refine till_done (by kernel_rfl) ?_ _
  obtain ⟨⟨k0, k1, k2, k3, k4, k5, k6, k7⟩, -, -⟩ := id HR5.out
  go_wp2
  exact bodyPost_ret (v := .tuple #[noRes, .bool false, .nilIface]) (by simp [results, Try.results29, go_sem, k0, k1, k2, k3, k4, k5, k6, k7, rq0]) rfl ⟨a4, rfl, by have := HS5.out; rw [HD1.out] at this; exact this⟩
end Go.Proofs.Ythmeaclekedilac
/- The document's driver of a device: its block and its map; End of none. -/
namespace Go.Proofs.Ythmeaclekedilac
open Go.RowKit Go.BigFrame Go.Maps
attribute [local go_sem] Later.cell Later.frozen

structure RVAt (v b bm : Nat) (m : Rd) (a : Ra) (n : Nat) (D : DataW Unit) (w : World) : Prop where
  dev : RdAt b m a w
  blk : w.heap[v]? = some (.cells [.pointer (some ⟨b, 0, none⟩), .map (some bm)].toArray 65 (0, 0))
  map : w.ownsMap Try.prog 3 (plainElem Try.prog 3) bm n D
  foot : ∀ k, a.foot b k → k ≠ v ∧ k ≠ bm
def rvfoot (b bm : Nat) (a : Ra) (k : Nat) : Prop := k = bm ∨ a.foot b k
structure RVStep (v b bm : Nat) (m : Rd) (a : Ra) (n : Nat) (D : DataW Unit) (m' : Rd) (a' : Ra) (n' : Nat) (D' : DataW Unit) (w w' : World) : Prop where
  at' : RVAt v b bm m' a' n' D' w'
  only : Only (rvfoot b bm a) w w'
  foot : ∀ k, rvfoot b bm a' k → rvfoot b bm a k ∨ w.heap.size ≤ k
  lan : m'.busy ≠ [] → ∀ p, a'.la = some p → (m.busy ≠ [] ∧ a.la = some p) ∨ w.heap.size ≤ p.block
section
variable {v b bm : Nat} {m m' m2 : Rd} {a a' a2 : Ra} {n n' n2 : Nat} {D D' D2 : DataW Unit} {w w' w2 : World}
theorem RVAt.mlt (h : RVAt v b bm m a n D w) : bm < w.heap.size := h.map.lt
theorem RVAt.ne (h : RVAt v b bm m a n D w) : v ≠ bm := by
  rintro rfl
  obtain ⟨es, clock, hb, _⟩ := h.map
  rw [h.blk] at hb
  cases hb
theorem RVAt.lm (h : RVAt v b bm m a n D w) (hne : m.busy ≠ []) (p : Addr) (hp : a.la = some p) : p.block ≠ bm := by
  rcases h.dev.lrow.1 with e | ⟨b', o', ha, hc⟩
  · exact absurd e hne
  · have hp' : m.busy.length ≠ 0 := fun e => hne (List.eq_nil_of_length_eq_zero e)
    have := hc 0 (by omega) 0 (by omega)
    rw [ha] at hp
    simp only [Option.some.injEq] at hp
    subst hp
    rintro rfl
    obtain ⟨es, clock, hb, _⟩ := h.map
    simp only at this hb
    simp [World.cell?, hb] at this
theorem RVAt.step (h : RVAt v b bm m a n D w) (hs : RStep b m a m' a' w w') : RVStep v b bm m a n D m' a' n D w w' where
  at' := ⟨hs.dev, by rw [hs.only.block v (lt_of_heap h.blk) (fun e => (h.foot v e).1 rfl)]; exact h.blk, owns_block h.map (hs.only.block bm h.mlt (fun e => (h.foot bm e).2 rfl)), fun k hk => (hs.foot k hk).elim (h.foot k) (fun h' => by have := lt_of_heap h.blk; have := h.mlt; omega)⟩
  only := hs.only.mono (fun _ e => Or.inr e)
  foot := fun k hk => hk.elim (fun e => Or.inl (Or.inl e)) (fun e => (hs.foot k e).elim (fun h' => Or.inl (Or.inr h')) Or.inr)
  lan := hs.lan
theorem RVStep.trans (h : RVStep v b bm m a n D m' a' n' D' w w') (k : RVStep v b bm m' a' n' D' m2 a2 n2 D2 w' w2) : RVStep v b bm m a n D m2 a2 n2 D2 w w2 :=
  ⟨k.at', h.only.trans k.only h.foot, fun i hi => (k.foot i hi).elim (h.foot i) (fun h' => Or.inr (Nat.le_trans h.only.size h')), fun hne p hp => (k.lan hne p hp).elim (fun e => h.lan e.1 p e.2) (fun h' => Or.inr (Nat.le_trans h.only.size h'))⟩
theorem RVAt.later (h : RVAt v b bm m a n D w) (hb : Below w.heap.size w w') : RVAt v b bm m a n D w' := (h.step (RStep.same h.dev hb)).at'
theorem RVStep.later (h : RVStep v b bm m a n D m' a' n' D' w w') (hb : Below w'.heap.size w' w2) : RVStep v b bm m a n D m' a' n' D' w w2 := h.trans (h.at'.step (RStep.same h.at'.dev hb))
theorem RVAt.turn (h : RVAt v b bm m a n D w) (ho : Only (fun k => k = bm) w w') (hm : w'.ownsMap Try.prog 3 (plainElem Try.prog 3) bm n' D') (hr : ∀ r ∈ m.busy, r.Off (fun k => k = bm)) : RVStep v b bm m a n D m a n' D' w w' where
  at' := ⟨h.dev.frame ho (fun k hk => (h.foot k hk).2) h.lm hr, by rw [ho.block v (lt_of_heap h.blk) h.ne]; exact h.blk, hm, h.foot⟩
  only := ho.mono (fun _ e => Or.inl e)
  foot := fun _ hk => Or.inl hk
  lan := fun hne _ hp => Or.inl ⟨hne, hp⟩
theorem RVAt.cells (h : RVAt v b bm m a n D w) : w.cell? ⟨v, 0, none⟩ = some (.pointer (some ⟨b, 0, none⟩)) ∧ w.cell? ⟨v, 1, none⟩ = some (.map (some bm)) := ⟨by rw [cell_of_heap h.blk]; rfl, by rw [cell_of_heap h.blk]; rfl⟩
/-- A block of the call's own is written. -/
theorem rvset8 (h : RVStep v b bm m a n D m' a' n' D' w w') (q : Nat) (hq : w.heap.size ≤ q) (hq' : ¬ rvfoot b bm a' q) (hqv : q ≠ v) (hl : m'.busy ≠ [] → ∀ p, a'.la = some p → p.block ≠ q) (hr : ∀ r ∈ m'.busy, r.Off (fun k => k = q)) (v0 v1 v2 v3 v4 v5 v6 v7 : Value) : RVStep v b bm m a n D m' a' n' D' w (set8 w' q v0 v1 v2 v3 v4 v5 v6 v7) where
  at' := ⟨h.at'.dev.frame (set8_only w' q _ _ _ _ _ _ _ _) (fun k hk e => hq' (by rw [← e]; exact Or.inr hk)) hl hr, by rw [(set8_only w' q v0 v1 v2 v3 v4 v5 v6 v7).block v (lt_of_heap h.at'.blk) (Ne.symm hqv)]; exact h.at'.blk, owns_block h.at'.map ((set8_only w' q v0 v1 v2 v3 v4 v5 v6 v7).block bm h.at'.mlt (fun e => hq' (Or.inl e.symm))), h.at'.foot⟩
  only := h.only.trans (set8_only w' q v0 v1 v2 v3 v4 v5 v6 v7) (fun i e => Or.inr (by subst e; exact hq))
  foot := h.foot
  lan := h.lan
end
theorem Rd.did_busyR (m : Rd) (r : Rq) : (m.did r).busy = m.busy := by unfold Rd.did; split; exact Rd.writesTo_busy _ _ _; rfl
/-- What is known of a driver's requests. -/
structure RVReq (bm : Nat) (d : Rd) (k : Nat) (r : Rq) (tg : Int) : Prop where
  at' : d.busy[k]? = some r
  tag : r.tags.getD 0 0 = tg
  in' : In64 tg
  some' : 1 ≤ r.tags.length
  off : ∀ q ∈ d.busy, q.Off (fun j => j = bm)
theorem RVReq.mem {bm : Nat} {d : Rd} {k : Nat} {r : Rq} {tg : Int} (h : RVReq bm d k r tg) : r ∈ d.busy := List.mem_of_getElem? h.at'
theorem rend_atG (b : Nat) (d : Rd) (a : Ra) (k : Nat) (r : Rq) (hk : d.busy[k]? = some r) (w : World) (h : RdAt b d a w) (gr : Good r) (hW4 : d.waits.length ≤ 1000000) :
    Calls Try.prog 17 #[.pointer (some ⟨b, 0, none⟩), .int .i64 k, .bool false] w fun e w' => ∃ a' xa xc xs, e = .returned (.tuple #[resV r xa (List.length xs) xc 0, .int .i64 0]) ∧ Hid (xs = rdidRead d r) ∧ StrsAt w' xa xs ∧ (∀ ad, xa = some ad → w.heap.size ≤ ad.block ∧ ¬ a'.foot b ad.block) ∧ RStep b d a (({ d with busy := d.busy.eraseIdx k } : Rd).did r) a' w w' := by
  obtain ⟨hk', rfl⟩ := List.getElem?_eq_some_iff.1 hk
  exact rend_any b d a k hk' w h gr hW4
theorem rend_faultG (b : Nat) (d : Rd) (a : Ra) (k : Nat) (r : Rq) (hk : d.busy[k]? = some r) (w : World) (h : RdAt b d a w) :
    Calls Try.prog 17 #[.pointer (some ⟨b, 0, none⟩), .int .i64 k, .bool true] w fun e w' => ∃ a', e = .returned (.tuple #[resV r none 0 0 8, .int .i64 0]) ∧ a'.wa = a.wa ∧ RStep b d a { d with busy := d.busy.eraseIdx k } a' w w' := by
  obtain ⟨hk', rfl⟩ := List.getElem?_eq_some_iff.1 hk
  exact rend_fault b d a k hk' w h
theorem tag_cell {w : World} {r : Rq} {tg : Int} (h : r.At w) (ht : r.tags.getD 0 0 = tg) (h1 : 1 ≤ r.tags.length) : ∃ tb to, r.ta = some ⟨tb, to, none⟩ ∧ w.cell? ⟨tb, to, none⟩ = some (.int .i64 tg) := by
  rcases h.tags with e | ⟨tb, to, e, hc⟩
  · rw [e] at h1; simp at h1
  · refine ⟨tb, to, e, ?_⟩
    have := hc 0 (by omega)
    rw [ht] at this
    simpa using this
set_option maxRecDepth 100000 in
set_option maxHeartbeats 1000000 in
theorem rv_none (v b bm : Nat) (m : Rd) (a : Ra) (n : Nat) (D : DataW Unit) (i : Int) (fl : Bool) (w : World) (h : RVAt v b bm m a n D w) (hi : i < 0 ∨ (m.busy.length : Int) ≤ i) :
    Calls Try.prog 30 #[.pointer (some ⟨v, 0, none⟩), .int .i64 i, .bool fl] w fun e w' => e = .returned (.tuple #[noRes, .bool false, .int .i64 5]) ∧ Below w.heap.size w w' := by
  obtain ⟨c0, c1⟩ := h.cells; have HV := hidT h; have hv := lt_of_heap h.blk; have hm := h.mlt; have hbv := h.dev.lt; have hb0 := hidT (below1 w (.cells #[.bool false, .int .i64 0, .int .i64 0, .slice none 0 0, .slice none 0 0, .int .i64 0, .slice none 0 0, .int .i64 0] 49)); clear h
  have HI := hidT hi
  clear hi
  go_enter Try.func30, Try.ntmps30
  go_wp2_with fail
  refine (rend_none b m a i fl _ (HV.out.dev.later hb0.out) HI.out).mono ?_
  rintro e w1 ⟨rfl, hb1⟩
  have hb1' := bthen hb1 (below1 w1 (.cells #[.bool false, .int .i64 0, .int .i64 0, .slice none 0 0, .slice none 0 0, .int .i64 0, .slice none 0 0, .int .i64 0] 49))
  have hz1 := (zero_new w 49).only (F := fun _ => False) (Only.of_below hb1') (fun e => e)
  have hB1 := hb0.out.trans (hb1'.mono hb0.out.size)
  have HZ1 := hidT hz1
  have HB1 := hidT hB1
  clear hb1 hb1' hB1 hz1
  go_wp2_with (refine wpList_store_res rfl (.tmp 6) (.tmp 24) rfl w.heap.size rq0 none 0 0 0 rfl rfl (zero_there HZ1.out) (fun wK => Below w.heap.size w wK ∧ ResBoxF wK w.heap.size rq0 none 0 0 0) ⟨HB1.out.trans ((set8_only _ w.heap.size _ _ _ _ _ _ _ _).below HB1.out.size (fun i e => by omega)), set8_res (zero_there HZ1.out) HZ1.out.2.2⟩ ?_; rintro w3 ⟨hb3, ⟨z0, z1, z2, z3, z4, z5, z6, z7⟩, -, -⟩; have HB3 := hidT hb3; clear hb3)
  exact bodyPost_ret (v := .tuple #[noRes, .bool false, .int .i64 5]) (by simp [results, Try.results30, go_sem, z0, z1, z2, z3, z4, z5, z6, z7, rq0]) rfl ⟨rfl, HB3.out⟩
end Go.Proofs.Ythmeaclekedilac
/- TopDevice: what was flushed is there behind a crash; of what was written behind that just what is kept. The walk. -/
namespace Go.Proofs.Ythmeaclekedilac
open Go.RowKit Go.BigFrame
attribute [local go_sem] Later.cell Later.frozen

/-- A device of a law's own, that has no request. -/
structure Ph0 (w : World) (b : Nat) (d : Dl) (a : An) (wr : World) : Prop where
  dev : DevAt b d a wr
  idle : d.busy = []
  foot : ∀ k, a.foot b k → w.heap.size ≤ k
  bel : Below w.heap.size w wr
theorem Ph0.step {w wr wr' : World} {b : Nat} {d d' : Dl} {a a' : An} (h : Ph0 w b d a wr) (hs : DStep b d a d' a' wr wr') (hn : d'.busy = []) : Ph0 w b d' a' wr' where
  dev := hs.dev
  idle := hn
  foot := fun k hk => (hs.foot k hk).elim (h.foot k) (fun h' => Nat.le_trans h.bel.size h')
  bel := h.bel.trans (hs.only.below h.bel.size h.foot)
theorem Ph0.later {w wr wr' : World} {b : Nat} {d : Dl} {a : An} (h : Ph0 w b d a wr) (hb : Below wr.heap.size wr wr') : Ph0 w b d a wr' := h.step (DStep.same h.dev hb) h.idle
theorem Ph0.want {w wr : World} {b : Nat} {d : Dl} {a : An} (h : Ph0 w b d a wr) (o : Obj) (ho : o = .cells (strV (List.replicate 32 ByteArray.empty)).toArray 28) : Ph w b wr.heap.size d a (List.replicate 32 ByteArray.empty) (wr.alloc o) := by
  subst ho
  have h' := h.later (below1 wr (.cells (strV (List.replicate 32 ByteArray.empty)).toArray 28))
  exact ⟨h'.dev, h.idle, fun k hk => ⟨h.foot k hk, fun e => by have := h.dev.footLt k hk; omega⟩, heap_alloc_new _ _, rfl, h.bel.size, h'.bel⟩
/-- A closed request that writes one sector. -/
def rqW (b c : Nat) : Rq := ⟨true, 3, 1, some ⟨b, 0, none⟩, 1, [⟨#[120]⟩], some ⟨c, 0, none⟩, 1, [1], 0⟩
theorem goodW (b c : Nat) : Good (rqW b c) := ⟨(show okB 3 1 4 = true by decide +kernel), rfl, by simp [rqW], by simp [rqW], by simp [rqW], by simp [rqW], (show ([⟨#[120]⟩] : List ByteArray).all (fun s => decide (s.size ≤ 4)) = true by decide +kernel)⟩
theorem atW (b c : Nat) (w : World) (h1 : w.cell? ⟨b, 0, none⟩ = some (.string ⟨#[120]⟩)) (h2 : w.cell? ⟨c, 0, none⟩ = some (.int .i64 1)) : (rqW b c).At w := by
  refine ⟨Or.inr ⟨b, 0, rfl, ?_⟩, Or.inr ⟨c, 0, rfl, ?_⟩, by simp [rqW], by simp [rqW], by simp [rqW, In64], by simp [rqW, In64], by simp [rqW, In64], by simp [rqW], by simp [rqW]⟩
  · intro i hi
    obtain rfl : i = 0 := by simp [rqW] at hi; omega
    simpa [rqW] using h1
  · intro i hi
    obtain rfl : i = 0 := by simp [rqW] at hi; omega
    simpa [rqW] using h2
theorem has3 (b c : Nat) : ((d0.did (rqW b c)).now.getD 3 ByteArray.empty) = ⟨#[120]⟩ := by
  have := did_has d0 (rqW b c) 3 (show 3 + 1 ≤ 32 by omega)
  rw [if_pos ⟨rfl, (show 3 ≤ 3 by omega), (show 3 < 3 + 1 by omega)⟩] at this
  exact this
theorem wants (r : Rq) (hw : r.wr = true) (g : Good r) : ∃ F M : Nat, r.f = F ∧ r.m = M ∧ F + M ≤ 32 ∧ 1 ≤ M ∧ r.data.length = M := by
  have h1 := g.ok
  have h2 := g.shape
  simp only [okB, decide_eq_true_eq] at h1
  simp only [shapeB, hw, if_true, decide_eq_true_eq] at h2
  exact ⟨r.f.toNat, r.m.toNat, by omega, by omega, by omega, by omega, by omega⟩
theorem ext_get {l m : List ByteArray} (h1 : l.length = 32) (h2 : m.length = 32) (h : ∀ p, p < 32 → l.getD p ByteArray.empty = m.getD p ByteArray.empty) : l = m := by
  apply List.ext_getElem (by rw [h1, h2])
  intro p hp hq
  have := h p (by omega)
  simpa [List.getElem?_eq_getElem hp, List.getElem?_eq_getElem hq] using this
set_option maxRecDepth 100000 in
set_option maxHeartbeats 4000000 in
theorem td_walk (l : List Ac) (la : Option Addr) (lc : Nat) (m : List Ac) (ma : Option Addr) (mc : Nat) (kp : Int) (w : World) (hl : ActsAt w la l) (hm : ActsAt w ma m) (hkp : 0 ≤ kp ∧ kp ≤ 18446744073709551615) :
    Calls Try.prog 6 #[.slice la l.length lc, .slice ma m.length mc, .int .u64 kp] w fun e w' => e = .returned (.bool true) ∧ Below w.heap.size w w' := by
  have HL := hidT hl
  have HM := hidT hm
  have HKP := hidT hkp
  clear hl hm hkp
  go_enter Try.func6, Try.ntmps6
  go_wp2_with fail
  refine (new_any _).mono ?_
  rintro e w1 ⟨rfl, hd1, hb1, hz1⟩
  have HD1 := hidT (⟨hd1, hb1, hz1⟩ : _ ∧ _ ∧ _)
  clear hd1 hb1 hz1
  go_wp2_with fail
  have hbx := below2 w1 (.cells #[.string ⟨#[120]⟩] 9) (.cells #[.int .i64 1] 3)
  have hra := atW w1.heap.size (w1.heap.size + 1) ((w1.alloc (.cells #[.string ⟨#[120]⟩] 9)).alloc (.cells #[.int .i64 1] 3)) (by simp [go_sem]) (by simp [go_sem])
  refine (start_ok w.heap.size d0 an0 (rqW w1.heap.size (w1.heap.size + 1)) _ (HD1.out.1.later hbx) (by decide) hra ⟨fun _ ad e hk => by have := an0_foot hk; have h9 := HD1.out.2.2; simp [rqW] at e; subst e; simp at this; omega, fun _ ad e hk => by have := an0_foot hk; have h9 := HD1.out.2.2; simp [rqW] at e; subst e; simp at this; omega⟩).mono ?_
  rintro e w2 ⟨a2, rfl, hs2⟩
  have HS2 := hidT hs2
  have HBX := hidT hbx
  clear hs2 hbx hra
  go_wp2_with fail
  refine (end_only w.heap.size d0 (rqW w1.heap.size (w1.heap.size + 1)) a2 _ rfl HS2.out.dev (goodW _ _)).mono ?_
  rintro e w3 ⟨a3, xa, xc, xs, rfl, -, -, -, hs3⟩
  have HS3 := hidT (((DStep.same HD1.out.1 HBX.out).trans HS2.out).trans hs3)
  clear hs3 HS2 HBX
  go_wp2_with fail
  refine (peek_in w.heap.size _ a3 3 _ (HS3.out.dev.later (below1 _ _)) (by omega) ⟨#[120]⟩ (has3 _ _)).mono ?_
  rintro e w4 ⟨rfl, hb4⟩
  have HM4 := hidT ((HS3.out.later (below1 w3 _)).later hb4)
  have hB4 : Below w.heap.size w w4 := HD1.out.2.1.trans (HM4.out.only.below HD1.out.2.1.size (fun k hk => by rw [an0_foot hk]; exact Nat.le_refl _))
  have hF4 : ∀ k, a3.foot w.heap.size k → w.heap.size ≤ k := fun k hk => (HM4.out.foot k hk).elim (fun e => by rw [an0_foot e]; exact Nat.le_refl _) (fun h' => Nat.le_trans HD1.out.2.1.size h')
  have hI4 : (d0.did (rqW w1.heap.size (w1.heap.size + 1))).busy = [] := Dl.did_busy _ _
  obtain ⟨dd, hdd⟩ : ∃ dd, dd = d0.did (rqW w1.heap.size (w1.heap.size + 1)) := ⟨_, rfl⟩
  rw [← hdd] at HM4 hI4
  have HB4 := hidT hB4
  have HF4 := hidT hF4
  have HI4 := hidT hI4
  have HD4 := hidT HM4.out.dev
  clear hb4 HS3 HM4 HD1 hB4 hF4 hI4 hdd
  go_wp2_with fail
  cases hla : lightsA l 30
  · refine (lightsA_any l la lc 30 _ (HL.out.later HB4.out) (by omega) _ hla).mono ?_
    rintro e w5 ⟨rfl, hb5⟩
    go_wp2
    go_ret
    exact ⟨rfl, bthen HB4.out hb5⟩
  refine (lightsA_any l la lc 30 _ (HL.out.later HB4.out) (by omega) _ hla).mono ?_
  rintro e w5 ⟨rfl, hb5⟩
  go_wp2_with fail
  cases hlm : lightsA m 30
  · refine (lightsA_any m ma mc 30 _ (HM.out.later (bthen HB4.out hb5)) (by omega) _ hlm).mono ?_
    rintro e w6 ⟨rfl, hb6⟩
    go_wp2
    go_ret
    exact ⟨rfl, bthen (bthen HB4.out hb5) hb6⟩
  refine (lightsA_any m ma mc 30 _ (HM.out.later (bthen HB4.out hb5)) (by omega) _ hlm).mono ?_
  rintro e w6 ⟨rfl, hb6⟩
  have h30l : l.length ≤ 30 := by simp only [lightsA, Bool.and_eq_true, decide_eq_true_eq] at hla; exact hla.1
  have h30m : m.length ≤ 30 := by simp only [lightsA, Bool.and_eq_true, decide_eq_true_eq] at hlm; exact hlm.1
  have HP6 : Hid (Ph0 w w.heap.size dd a3 w6) := (⟨HD4.out, HI4.out, HF4.out, HB4.out⟩ : Ph0 w w.heap.size dd a3 w4).later (bthen hb5 hb6)
  clear hla hlm hb5 hb6 HD4 HI4 HF4 HB4
  go_wp2_with fail
  go_loopw [10] (fun i wr => ∃ (k : Nat) (d : Dl) (a : An), k ≤ l.length ∧ i = .int .i64 k ∧ Ph0 w w.heap.size d a wr) (fun i _ => l.length - (intOf i).toNat)
  case atStart => exact ⟨0, dd, a3, by omega, rfl, HP6.out⟩
  case round =>
    obtain ⟨k, d, a, hk, rfl, hp⟩ := hrel
    have HP := hidT hp
    have HBr := hp.bel
    clear hp
    by_cases hlt : k < l.length
    · have hlt' : (k : Int) < (l.length : Int) := by omega
      rcases HL.out.form with rfl | ⟨bl, ol, rfl⟩
      · exact absurd hlt (Nat.not_lt_zero _)
      have hla := HL.out.later HBr
      obtain ⟨c0, c1, c2, c3, c4, c5, c6, c7, c8⟩ := hla.cells hlt
      have hat := hidT (hla.2.1 _ (List.getElem_mem hlt))
      have hoff := hidT (off_of (HL.out.2.1 _ (List.getElem_mem hlt)) HP.out.foot)
      clear hla
      generalize hx : l[k] = x at *
      clear hx
      go_wp2_with fail
      by_cases hf : faultR x.req = 0
      case neg =>
        have HFX := hidT hf
        clear hf
        refine (written_no w.heap.size x _ hat.out HFX.out).mono ?_
        rintro e w7 ⟨rfl, hb7⟩
        have HP7 := hidT (HP.out.later hb7)
        clear hb7 c0 c1 c2 c3 c4 c5 c6 c7 c8 hat hoff
        go_wp2
        go_roundw
        case rel => exact ⟨k + 1, d, a, by omega, by go_num, HP7.out⟩
        case measure => simp [intOf]; omega
      have HFX := hidT hf
      clear hf
      refine (written_yes w.heap.size d a x _ HP.out.dev HP.out.idle hat.out hoff.out HFX.out).mono ?_
      rintro e w7 ⟨a7, rfl, hs7⟩
      have HP7 := hidT (HP.out.step hs7 (by rw [Dl.did_busy]; exact HP.out.idle))
      clear hs7 c0 c1 c2 c3 c4 c5 c6 c7 c8 hat hoff
      go_wp2
      go_roundw
      case rel => exact ⟨k + 1, _, a7, by omega, by go_num, HP7.out⟩
      case measure => simp [intOf]; omega
    · have hgt : ¬ (k : Int) < (l.length : Int) := by omega
      go_wp2_with fail
      refine (flush_any w.heap.size d a _ HP.out.dev).mono ?_
      rintro e w8 ⟨rfl, hs8⟩
      have HP8 := hidT (HP.out.step hs8 HP.out.idle)
      clear hs8 HP HBr HP6
      go_wp2_with fail
      refine wp_worldD (fun wK => Ph w w.heap.size w8.heap.size d.flush { a with wa := none, wc := 0 } (List.replicate 32 ByteArray.empty) wK) (HP8.out.want _ rfl) ?_
      intro w9 h9
      have HP9 := hidT h9
      have hq8 : w.heap.size ≠ w8.heap.size := by have := HP8.out.dev.lt; omega
      clear h9 HP8
      generalize w8.heap.size = q at *
      go_loopw [12] (fun i wr => ∃ (k : Nat) (L : List ByteArray), k ≤ 32 ∧ i = .int .i64 k ∧ (∀ p, p < k → L.getD p ByteArray.empty = d.flush.now.getD p ByteArray.empty) ∧ Ph w w.heap.size q d.flush { a with wa := none, wc := 0 } L wr) (fun i _ => 32 - (intOf i).toNat)
      case atStart => exact ⟨0, _, by omega, rfl, fun p h => absurd h (Nat.not_lt_zero _), HP9.out⟩
      case round =>
        obtain ⟨j, L, hj, rfl, hL, hp⟩ := hrel
        have HP := hidT hp
        have HL2 := hidT hL
        clear hp hL
        by_cases hlt : j < 32
        · have hlt' : (j : Int) < 32 := by omega
          go_wp2_with fail
          refine (peek_in w.heap.size _ _ j _ HP.out.dev hlt _ rfl).mono ?_
          rintro e w7 ⟨rfl, hb7⟩
          have HP7 := hidT (HP.out.later hb7)
          obtain ⟨f1, f2, f3⟩ := HP7.out.cell hlt
          clear hb7
          go_wp2
          go_roundw
          case rel =>
            refine ⟨j + 1, _, by omega, by go_num, ?_, HP7.out.set j _⟩
            intro p hp
            by_cases e : p = j
            · subst e; simp [HP7.out.len, hlt]
            · have := HL2.out p (by omega)
              rw [← this]; simp [Ne.symm e]
          case measure => simp [intOf]; omega
        · have hgt : ¬ (j : Int) < 32 := by omega
          obtain rfl : j = 32 := by omega
          have hE : L = d.flush.after kp := ext_get HP.out.len HP.out.dev.g32 (fun p hp => HL2.out p hp)
          clear HP9 HL2
          go_wp2_with fail
          go_loopw [13, 14] (fun n i wr => ∃ (N k : Nat) (d : Dl) (a : An), k ≤ m.length ∧ N ≤ 4 * k ∧ n = .int .i64 N ∧ i = .int .i64 k ∧ d.next = N % 64 ∧ Ph w w.heap.size q d a (d.after kp) wr) (fun _ i _ => m.length - (intOf i).toNat)
          case atStart => exact ⟨0, 0, _, _, by omega, by omega, rfl, rfl, rfl, by rw [← hE]; exact HP.out⟩
          case round =>
            clear HP hE
            obtain ⟨N, i, d, a, hi, hN, rfl, rfl, hn, hp⟩ := hrel
            have HP := hidT hp
            have HBr := hp.bel
            have HNX := hidT hn
            clear hp hn
            by_cases hlt : i < m.length
            · have hlt' : (i : Int) < (m.length : Int) := by omega
              rcases HM.out.form with rfl | ⟨bl, ol, rfl⟩
              · exact absurd hlt (Nat.not_lt_zero _)
              obtain ⟨x, hx⟩ : ∃ x, x = m[i] := ⟨_, rfl⟩
              have HX := hidT hx
              have hcs := (HM.out.later HBr).cells hlt
              have HAT := hidT (HM.out.2.1 _ (List.getElem_mem hlt))
              rw [← hx] at hcs HAT
              obtain ⟨c0, c1, c2, c3, c4, c5, c6, c7, c8⟩ := hcs
              have hoff := hidT (off_of HAT.out (fun k hk => (HP.out.foot k hk).1))
              clear hx
              go_wp2_with fail
              by_cases hf : faultR x.req = 0
              case neg =>
                have HFX := hidT hf
                clear hf
                refine (written_no w.heap.size x _ (HAT.out.later HBr) HFX.out).mono ?_
                rintro e w7 ⟨rfl, hb7⟩
                have HP7 := hidT (HP.out.later hb7)
                clear hb7 c0 c1 c2 c3 c4 c5 c6 c7 c8 hoff
                go_wp2
                go_roundw
                case rel => exact ⟨N, i + 1, d, a, by omega, by omega, rfl, by go_num, HNX.out, HP7.out⟩
                case measure => simp [intOf]; omega
              have HFX := hidT hf
              clear hf
              refine (written_yes w.heap.size d a x _ HP.out.dev HP.out.idle (HAT.out.later HBr) hoff.out HFX.out).mono ?_
              rintro e w7 ⟨a7, rfl, hs7⟩
              have HP7 := hidT (HP.out.step hs7 (by rw [Dl.did_busy]; exact HP.out.idle))
              have HLT := hidT HP.out.dev.nxt
              clear hs7 c0 c1 c2 c3 c4 c5 c6 c7 c8 hoff HBr HP
              have hcs := (HM.out.later HP7.out.bel).cells hlt
              rw [← HX.out] at hcs
              obtain ⟨c0, c1, c2, c3, c4, c5, c6, c7, c8⟩ := hcs
              go_wp2_with fail
              obtain ⟨B, hB⟩ : ∃ B : Nat, B = if x.req.wr = true then x.req.m.toNat else 0 := ⟨_, rfl⟩
              have HBB := hidT hB
              have HGX := hidT ((good_iff _).1 HFX.out)
              have hB4 : B ≤ 4 := by
                have := HGX.out.ok
                simp only [okB, decide_eq_true_eq] at this
                rw [hB]; split <;> omega
              have HPB := hidT (HP7.out.later (below1 w7 (.cells #[.bool x.req.wr, .int .i64 x.req.f, .int .i64 x.req.m, .slice x.req.da x.req.data.length x.req.dc, .slice x.req.ta x.req.tags.length x.req.tc, .int .i64 x.req.born] 38)))
              have hq7 : q ≠ w7.heap.size := by have := lt_of_heap HP7.out.want; omega
              clear hB c0 c1 c2 c3 c4 c5 c6 c7 c8
              go_loopw [13, 16] (fun n k wr => ∃ (n' j : Nat), j ≤ B ∧ n' = N + j ∧ n = .int .i64 n' ∧ k = .int .i64 j ∧ Ph w w.heap.size q (d.did x.req) a7 ((d.writesTo x.req j).after kp) wr ∧ BoxAt wr w7.heap.size x.req) (fun _ k _ => B - (intOf k).toNat)
              case atStart => exact ⟨N, 0, by omega, rfl, rfl, rfl, HPB.out, box_new _ _ _⟩
              case round =>
                clear HPB HP7
                obtain ⟨n', j, hj, hn', rfl, rfl, hp, hbx⟩ := hrel
                have HP := hidT hp
                have HBX := hidT hbx
                obtain ⟨b0, b1, b2, b3, b4, b5⟩ := hbx
                clear hp
                cases hw : x.req.wr with
                | false =>
                  rw [hw] at b0
                  have hB0 : B = 0 := by rw [HBB.out, hw]; rfl
                  obtain rfl : j = 0 := by omega
                  obtain rfl : n' = N := by omega
                  have HW := hidT hw
                  clear hw hn'
                  by_cases h0m : 0 < x.req.m
                  · go_wp2
                    go_roundw
                    case rel =>
                      refine ⟨n', i + 1, d.did x.req, a7, by omega, by omega, rfl, by go_num, ?_, ?_⟩
                      · rw [Dl.did, HW.out]; exact HNX.out
                      · have := HP.out
                        have e : (d.writesTo x.req 0) = d.did x.req := by rw [Dl.did, HW.out]; rfl
                        rw [e] at this
                        exact this
                    case measure => simp [intOf]; omega
                  · exact absurd (by have := HGX.out.ok; simp only [okB, decide_eq_true_eq] at this; omega) h0m
                | true =>
                  rw [hw] at b0
                  obtain ⟨F, M, hF, hM, hFM, hM1, hdl⟩ := wants x.req hw HGX.out
                  rw [hF] at b1
                  rw [hM] at b2
                  have hBM : B = M := by rw [HBB.out, hw, if_pos rfl, hM]; rfl
                  have HW := hidT hw
                  have HFF := hidT hF
                  have HMM := hidT hM
                  clear hw hF hM
                  by_cases hjl : j < M
                  · have hjl' : (j : Int) < (M : Int) := by omega
                    have hjd : j < x.req.data.length := by omega
                    have hjd' : (j : Int) < (x.req.data.length : Int) := by omega
                    obtain ⟨P, hP⟩ : ∃ P : Nat, P = F + j := ⟨_, rfl⟩
                    have hPi : (F : Int) + (j : Int) = (P : Int) := by omega
                    have hP32 : P < 32 := by omega
                    have hP32' : (P : Int) < 32 := by omega
                    obtain ⟨f1, f2, f3⟩ := HP.out.cell hP32
                    obtain ⟨db, do', hda, hdc⟩ : ∃ db do', x.req.da = some ⟨db, do', none⟩ ∧ wr.cell? ⟨db, do' + j, none⟩ = some (.string (x.req.data.getD j ByteArray.empty)) := by
                      rcases (HAT.out.later HP.out.bel).data with h | ⟨db, o, h, hc⟩
                      · rw [h] at hjd; exact absurd hjd (Nat.not_lt_zero _)
                      · exact ⟨db, o, h, by rw [hc j hjd]⟩
                    rw [hda] at b3
                    have HDA := hidT hda
                    clear hda
                    obtain ⟨r, hr⟩ : ∃ r : Nat, r = n' % 64 := ⟨_, rfl⟩
                    have hrm : (n' : Int).tmod 64 = (r : Int) := by rw [Int.tmod_eq_emod_of_nonneg (by omega)]; omega
                    have hr64 : r < 64 := by omega
                    have hA := writesTo_after d kp x.req j HLT.out
                    rw [HNX.out, show (N % 64 + j) % 64 = r by omega, HFF.out, show ((F : Int).toNat + j) = P by omega] at hA
                    have hnb : n' ≤ 1000 := by omega
                    generalize x.req.data.getD j ByteArray.empty = s at hdc hA
                    have HA := hidT hA
                    have HNJ := hidT hn'
                    clear hA hr hP hn'
                    cases hbt : bitOn kp r
                    · have hb' : (bits BinOp.and IntKind.u64 (kp / 2 ^ r) 1 == 1) = false := hbt
                      have HBT := hidT hbt
                      clear hbt
                      go_wp2
                      go_roundw
                      case rel =>
                        refine ⟨n' + 1, j + 1, by omega, by rw [HNJ.out]; rfl, by go_num, by go_num, ?_, HBX.out⟩
                        rw [HA.out, HBT.out, if_neg (by simp)]
                        exact HP.out
                      case measure => simp [intOf]; omega
                    · have hb' : (bits BinOp.and IntKind.u64 (kp / 2 ^ r) 1 == 1) = true := hbt
                      have HBT := hidT hbt
                      clear hbt
                      go_wp2_with fail
                      go_region
                      go_wp2
                      go_roundw
                      case rel =>
                        refine ⟨n' + 1, j + 1, by omega, by rw [HNJ.out]; rfl, by go_num, by go_num, ?_, ?_⟩
                        · rw [HA.out, if_pos HBT.out]
                          exact (HP.out.set P _).later (Below.refl _ _).drew
                        · exact (boxSet HBX.out (Ne.symm hq7)).later (Below.refl _ _).drew
                      case measure => simp [intOf]; omega
                  · have hgt : ¬ (j : Int) < (M : Int) := by omega
                    have hjM : j = M := by omega
                    go_wp2
                    go_roundw
                    case rel =>
                      have e : d.did x.req = d.writesTo x.req j := by rw [Dl.did, HW.out, if_pos rfl, HMM.out, hjM]; rfl
                      refine ⟨n', i + 1, d.did x.req, a7, by omega, by omega, rfl, by go_num, ?_, ?_⟩
                      · rw [e, writesTo_next _ _ _ HLT.out, HNX.out]; omega
                      · have := HP.out
                        rw [← e] at this
                        exact this
                    case measure => simp [intOf]; omega
            · have hgt : ¬ (i : Int) < (m.length : Int) := by omega
              go_wp2_with fail
              refine (crash_any w.heap.size d a kp HKP.out _ HP.out.dev).mono ?_
              rintro e w7 ⟨a7, rfl, hs7⟩
              have HP7 := hidT (HP.out.step hs7 rfl)
              have hL7 : ∀ p, (d.crash kp).now.getD p ByteArray.empty = (d.after kp).getD p ByteArray.empty := fun p => rfl
              have HL7 := hidT hL7
              clear hs7 HP HBr HNX hL7
              generalize d.after kp = L7 at *
              go_wp2_with fail
              go_loopw [17] (fun i wr => ∃ k : Nat, k ≤ 32 ∧ i = .int .i64 k ∧ Below w7.heap.size w7 wr) (fun i _ => 32 - (intOf i).toNat)
              case atStart => exact ⟨0, by omega, rfl, Below.refl _ _⟩
              case round =>
                obtain ⟨j, hj, rfl, HBk⟩ := hrel
                have HPk := hidT (HP7.out.later HBk)
                by_cases hlt : j < 32
                · have hlt' : (j : Int) < 32 := by omega
                  obtain ⟨f1, f2, f3⟩ := HPk.out.cell hlt
                  obtain ⟨s, hs⟩ : ∃ s, L7.getD j ByteArray.empty = s := ⟨_, rfl⟩
                  rw [hs] at f1
                  have HS := hidT ((HL7.out j).trans hs)
                  have hss : (!(s.toList == s.toList)) = false := by simp
                  clear hs
                  go_wp2_with fail
                  refine wp_region_later (Below.refl _ _) (by kernel_rfl) (by kernel_rfl) ?_
                  repeat (go_big_quiet_step (first | exact rfl | (go_at_call 25; exact calls_later (peek_in w.heap.size _ _ j _ (HPk.out.dev.later (Later.below _)) hlt s HS.out))))
                  refine wpQuiet_nil ?_
                  rintro _ ⟨p, rfl⟩
                  have HBp := hidT p.below
                  go_wp2
                  go_roundw
                  case rel => exact ⟨j + 1, by omega, by go_num, bthen HBk HBp.out⟩
                  case measure => simp [intOf]; omega
                · have hge : ¬ (j : Int) < 32 := by omega
                  go_wp2_with fail
                  refine (busy_any w.heap.size _ _ _ HPk.out.dev).mono ?_
                  rintro e w8 ⟨xa', xc', rfl, -, -, hb8⟩
                  have hbz : (d.crash kp).busy.length = 0 := rfl
                  have HB8 := hidT (bthen HPk.out.bel hb8)
                  clear hb8
                  rw [hbz]
                  go_wp2
                  go_ret
                  exact ⟨rfl, HB8.out⟩
end Go.Proofs.Ythmeaclekedilac
/- DeviceSays: two devices, the code's and the document's, side by side. -/
namespace Go.Proofs.Ythmeaclekedilac
open Go.RowKit Go.BigFrame
attribute [local go_sem] Later.cell Later.frozen

/-- The code's device and the document's, tied; both of the law's own. -/
structure Duo (w : World) (b1 : Nat) (d : Dl) (a : An) (b2 : Nat) (m : Rd) (ra : Ra) (wr : World) : Prop where
  c : DevAt b1 d a wr
  r : RdAt b2 m ra wr
  apart : ∀ k, a.foot b1 k → ra.foot b2 k → False
  fc : ∀ k, a.foot b1 k → w.heap.size ≤ k
  fr : ∀ k, ra.foot b2 k → w.heap.size ≤ k
  lf : m.busy ≠ [] → ∀ p, ra.la = some p → ¬ a.foot b1 p.block
  same : d.busy = m.busy
  at' : ∀ r ∈ d.busy, r.At w ∧ Good r
  tied : Tied d m
  bel : Below w.heap.size w wr
/-- Half a step: what the two have need not be the same. -/
structure Half (w : World) (b1 : Nat) (d : Dl) (a : An) (b2 : Nat) (m : Rd) (ra : Ra) (wr : World) : Prop where
  c : DevAt b1 d a wr
  r : RdAt b2 m ra wr
  apart : ∀ k, a.foot b1 k → ra.foot b2 k → False
  fc : ∀ k, a.foot b1 k → w.heap.size ≤ k
  fr : ∀ k, ra.foot b2 k → w.heap.size ≤ k
  lf : m.busy ≠ [] → ∀ p, ra.la = some p → ¬ a.foot b1 p.block
  at1 : ∀ r ∈ d.busy, r.At w
  at2 : ∀ r ∈ m.busy, r.At w
  bel : Below w.heap.size w wr
theorem RdAt.llt {b : Nat} {d : Rd} {a : Ra} {w : World} (h : RdAt b d a w) (hne : d.busy ≠ []) {p : Addr} (hp : a.la = some p) : p.block < w.heap.size := by
  rcases h.lrow.1 with e | ⟨b', o', ha, hc⟩
  · exact absurd e hne
  · have hp' : d.busy.length ≠ 0 := fun e => hne (List.eq_nil_of_length_eq_zero e)
    have := lt_of_cell (hc 0 (by omega) 0 (by omega))
    rw [ha] at hp
    simp only [Option.some.injEq] at hp
    subst hp
    exact this
theorem Duo.half {w wr : World} {b1 b2 : Nat} {d : Dl} {a : An} {m : Rd} {ra : Ra} (h : Duo w b1 d a b2 m ra wr) : Half w b1 d a b2 m ra wr := ⟨h.c, h.r, h.apart, h.fc, h.fr, h.lf, fun r hr => (h.at' r hr).1, fun r hr => (h.at' r (by rw [h.same]; exact hr)).1, h.bel⟩
theorem Half.stepC {w wr wr' : World} {b1 b2 : Nat} {d d' : Dl} {a a' : An} {m : Rd} {ra : Ra} (h : Half w b1 d a b2 m ra wr) (hs : DStep b1 d a d' a' wr wr') (hr : ∀ r ∈ d'.busy, r.At w) : Half w b1 d' a' b2 m ra wr' where
  c := hs.dev
  r := h.r.frame hs.only (fun k hk hc => h.apart k hc hk) h.lf (fun r hr' => off_of (h.at2 r hr') h.fc)
  apart := fun k hc hd => (hs.foot k hc).elim (fun hc' => h.apart k hc' hd) (fun h' => by have := h.r.footLt k hd; omega)
  fc := fun k hk => (hs.foot k hk).elim (h.fc k) (fun h' => Nat.le_trans h.bel.size h')
  fr := h.fr
  lf := fun hne p hp hk => (hs.foot _ hk).elim (h.lf hne p hp) (fun h' => by have := h.r.llt hne hp; omega)
  at1 := hr
  at2 := h.at2
  bel := h.bel.trans (hs.only.below h.bel.size h.fc)
theorem Half.stepR {w wr wr' : World} {b1 b2 : Nat} {d : Dl} {a : An} {m m' : Rd} {ra ra' : Ra} (h : Half w b1 d a b2 m ra wr) (hs : RStep b2 m ra m' ra' wr wr') (hr : ∀ r ∈ m'.busy, r.At w) : Half w b1 d a b2 m' ra' wr' where
  c := h.c.frame hs.only (fun k hk hc => h.apart k hk hc) (fun r hr' => off_of (h.at1 r hr') h.fr)
  r := hs.dev
  apart := fun k hc hd => (hs.foot k hd).elim (fun hd' => h.apart k hc hd') (fun h' => by have := h.c.footLt k hc; omega)
  fc := h.fc
  fr := fun k hk => (hs.foot k hk).elim (h.fr k) (fun h' => Nat.le_trans h.bel.size h')
  lf := fun hne p hp hk => (hs.lan hne p hp).elim (fun e => h.lf e.1 p e.2 hk) (fun h' => by have := h.c.footLt _ hk; omega)
  at1 := h.at1
  at2 := hr
  bel := h.bel.trans (hs.only.below h.bel.size h.fr)
theorem Half.later {w wr wr' : World} {b1 b2 : Nat} {d : Dl} {a : An} {m : Rd} {ra : Ra} (h : Half w b1 d a b2 m ra wr) (hb : Below wr.heap.size wr wr') : Half w b1 d a b2 m ra wr' := h.stepC (DStep.same h.c hb) h.at1
theorem Half.duo {w wr : World} {b1 b2 : Nat} {d : Dl} {a : An} {m : Rd} {ra : Ra} (h : Half w b1 d a b2 m ra wr) (hs : d.busy = m.busy) (hg : ∀ r ∈ d.busy, Good r) (ht : Tied d m) : Duo w b1 d a b2 m ra wr := ⟨h.c, h.r, h.apart, h.fc, h.fr, h.lf, hs, fun r hr => ⟨h.at1 r hr, hg r hr⟩, ht, h.bel⟩
theorem Duo.later {w wr wr' : World} {b1 b2 : Nat} {d : Dl} {a : An} {m : Rd} {ra : Ra} (h : Duo w b1 d a b2 m ra wr) (hb : Below wr.heap.size wr wr') : Duo w b1 d a b2 m ra wr' := (h.half.later hb).duo h.same (fun r hr => (h.at' r hr).2) h.tied
set_option maxHeartbeats 1000000 in
theorem sameRes_er (er : Int) (r : Rq) (xs : List ByteArray) (xa ya : Option Addr) (n xc yc : Nat) (hn : n = xs.length) (w : World) (hr : r.At w) (hx : StrsAt w xa xs) (hy : StrsAt w ya xs) (hl : xs.length ≤ 100) :
    Calls Try.prog 18 #[resV r xa n xc er, resV r ya n yc er] w fun e w' => e = .returned (.bool true) ∧ Below w.heap.size w w' := by
  subst hn
  have hs : sameB r r = true := by simp [sameB, eqS, eqN]
  have he : eqS xs xs = true := by simp [eqS]
  have HS := hidT hs
  have HE := hidT he
  clear hs he
  go_enter Try.func18, Try.ntmps18
  go_wp2_with fail
  refine (sameReq_any r r _ (hr.later (by repeat (first | with_reducible exact Below.refl _ _ | with_reducible refine balloc ?_ _ | with_reducible refine bdrew ?_ | with_reducible refine bset' ?_ (by omega) _ | with_reducible refine bthen ?_ (by assumption)))) (hr.later (by repeat (first | with_reducible exact Below.refl _ _ | with_reducible refine balloc ?_ _ | with_reducible refine bdrew ?_ | with_reducible refine bset' ?_ (by omega) _ | with_reducible refine bthen ?_ (by assumption)))) _ HS.out).mono ?_
  rintro e w1 ⟨rfl, hb1⟩
  have c6 := (hb1.cell (p := ⟨w.heap.size, 6, none⟩) (by simp; omega)).trans (show _ = some (.slice xa xs.length xc) by simp)
  have c7 := (hb1.cell (p := ⟨w.heap.size, 7, none⟩) (by simp; omega)).trans (show _ = some (.int .i64 er) by simp)
  have d6 := (hb1.cell (p := ⟨w.heap.size + 1, 6, none⟩) (by simp)).trans (show _ = some (.slice ya xs.length yc) by simp)
  have d7 := (hb1.cell (p := ⟨w.heap.size + 1, 7, none⟩) (by simp)).trans (show _ = some (.int .i64 er) by simp)
  have HB1 := hidT (show Below w.heap.size w w1 by repeat (first | with_reducible exact Below.refl _ _ | with_reducible refine balloc ?_ _ | with_reducible refine bdrew ?_ | with_reducible refine bset' ?_ (by omega) _ | with_reducible refine bthen ?_ (by assumption)))
  clear hb1
  go_wp2_with fail
  refine (texts_any xs xs xa ya _ _ _ (hx.later HB1.out) (hy.later HB1.out) (by omega)).mono ?_
  rw [HE.out]
  rintro e w2 ⟨rfl, hb2⟩
  replace c7 := cell_later' hb2 c7
  replace d7 := cell_later' hb2 d7
  have HB2 := hidT (bthen HB1.out hb2)
  clear hb2
  go_wp2
  go_ret
  exact ⟨rfl, HB2.out⟩
/-- A new device of the document. -/
def m0 : Rd := ⟨List.replicate 32 ByteArray.empty, List.replicate 32 ByteArray.empty, [], []⟩
def ra0 : Ra := ⟨none, 0, none, 0⟩
theorem m0_at (w : World) (b : Nat) (h : w.heap[b]? = some (.cells (m0.cells ra0).toArray 32 (0, 0))) : RdAt b m0 ra0 w where
  k32 := rfl
  n32 := rfl
  blk := h
  wrow := World.ownsRow_nil _ _ _ _
  lrow := ⟨Or.inl rfl, by simp [m0], by simp [m0]⟩
  lnil := fun _ => rfl
  lcap := by simp [m0]
  loff := fun h => absurd rfl h
  sepw := fun p hp => by cases hp
  reqs := fun r hr => by cases hr
  wfin := fun r hr => by cases hr
  blen := by simp [m0]
theorem ra0_foot {b k : Nat} (h : ra0.foot b k) : k = b := by
  rcases h with h | ⟨p, hp, _⟩
  · exact h
  · cases hp
set_option maxRecDepth 100000 in
set_option maxHeartbeats 1000000 in
theorem devices_any (w : World) : Calls Try.prog 9 #[] w fun e w' => e = .returned (.bool true) ∧ Below w.heap.size w w' := by
  go_enter Try.func9, Try.ntmps9
  go_wp2_with fail
  refine (new_any _).mono ?_
  rintro e w1 ⟨rfl, hd1, hb1, hz1⟩
  have HD1 := hidT (⟨hd1, hb1, hz1⟩ : _ ∧ _ ∧ _)
  clear hd1 hb1 hz1
  go_wp2_with fail
  have hbx := below2 w1 (.cells #[.string ⟨#[120]⟩] 9) (.cells #[.int .i64 1] 3)
  have hra := atW w1.heap.size (w1.heap.size + 1) ((w1.alloc (.cells #[.string ⟨#[120]⟩] 9)).alloc (.cells #[.int .i64 1] 3)) (by simp [go_sem]) (by simp [go_sem])
  refine (start_ok w.heap.size d0 an0 (rqW w1.heap.size (w1.heap.size + 1)) _ (HD1.out.1.later hbx) (by decide) hra ⟨fun _ ad e hk => by have := an0_foot hk; have h9 := HD1.out.2.2; simp [rqW] at e; subst e; simp at this; omega, fun _ ad e hk => by have := an0_foot hk; have h9 := HD1.out.2.2; simp [rqW] at e; subst e; simp at this; omega⟩).mono ?_
  rintro e w2 ⟨a2, rfl, hs2⟩
  have HS2 := hidT hs2
  have HBX := hidT hbx
  clear hs2 hbx hra
  go_wp2_with fail
  refine (end_only w.heap.size d0 (rqW w1.heap.size (w1.heap.size + 1)) a2 _ rfl HS2.out.dev (goodW _ _)).mono ?_
  rintro e w3 ⟨a3, xa, xc, xs, rfl, -, -, -, hs3⟩
  have HS3 := hidT (((DStep.same HD1.out.1 HBX.out).trans HS2.out).trans hs3)
  clear hs3 HS2 HBX
  go_wp2_with fail
  refine (same_nil 0 _).mono ?_
  rintro e w4 ⟨rfl, hb4⟩
  go_wp2_with fail
  refine (same_nil 0 _).mono ?_
  rintro e w5 ⟨rfl, hb5⟩
  have HM5 := hidT (((HS3.out.later (below1 w3 _)).later hb4).later hb5)
  clear hb4 hb5 HS3
  go_wp2_with fail
  refine (peek_in w.heap.size _ a3 3 _ HM5.out.dev (by omega) ⟨#[120]⟩ (has3 _ _)).mono ?_
  rintro e w6 ⟨rfl, hb6⟩
  have hB6 : Below w.heap.size w w6 := HD1.out.2.1.trans ((HM5.out.later hb6).only.below HD1.out.2.1.size (fun k hk => by rw [an0_foot hk]; exact Nat.le_refl _))
  have HB6 := hidT hB6
  clear hb6 hB6 HM5
  go_wp2
  go_ret
  exact ⟨rfl, HB6.out⟩
end Go.Proofs.Ythmeaclekedilac
/- The document's driver: a request ends well. -/
namespace Go.Proofs.Ythmeaclekedilac
open Go.RowKit Go.BigFrame Go.Maps
attribute [local go_sem] Later.cell Later.frozen

theorem ResBox.onlyR {F : Nat → Prop} {w w' : World} {q n xc : Nat} {r : Rq} {xa : Option Addr} {er : Int} (h : ResBox w q r xa n xc er) (hO : Only F w w') (hn : ¬ F q) : ResBox w' q r xa n xc er := by
  obtain ⟨h0, h1, h2, h3, h4, h5, h6, h7⟩ := h
  have hl := lt_of_cell h0
  exact ⟨(hO.cell (p := ⟨q, 0, none⟩) hl hn).trans h0, (hO.cell (p := ⟨q, 1, none⟩) hl hn).trans h1, (hO.cell (p := ⟨q, 2, none⟩) hl hn).trans h2, (hO.cell (p := ⟨q, 3, none⟩) hl hn).trans h3, (hO.cell (p := ⟨q, 4, none⟩) hl hn).trans h4, (hO.cell (p := ⟨q, 5, none⟩) hl hn).trans h5, (hO.cell (p := ⟨q, 6, none⟩) hl hn).trans h6, (hO.cell (p := ⟨q, 7, none⟩) hl hn).trans h7⟩
set_option maxRecDepth 100000 in
set_option maxHeartbeats 2000000 in
theorem rv_ok (v b bm : Nat) (m : Rd) (a : Ra) (n : Nat) (D : DataW Unit) (k : Nat) (r : Rq) (tg : Int) (w : World) (h : RVAt v b bm m a n D w) (hr : RVReq bm m k r tg) (gr : Good r) (hW4 : m.waits.length ≤ 1000000) (hn : n ≤ 1000000000) :
    Calls Try.prog 30 #[.pointer (some ⟨v, 0, none⟩), .int .i64 k, .bool false] w fun e w' => ∃ a' xa xc xs, e = .returned (.tuple #[resV r xa (List.length xs) xc 0, .bool true, .int .i64 0]) ∧ Hid (xs = rdidRead m r) ∧ StrsAt w' xa xs ∧ (∀ ad, xa = some ad → w.heap.size ≤ ad.block ∧ ¬ rvfoot b bm a' ad.block) ∧ RVStep v b bm m a n D (({ m with busy := m.busy.eraseIdx k } : Rd).did r) a' (n + 1) (D.put (.int .i64 tg) (.lit (.int .i64 0))) w w' := by
  have HA0 := hidT (h.dev.lrow.2.1 r hr.mem)
  have HMEM := hidT hr.mem
  have HRQ := hidT hr
  have HG := hidT gr
  have hkey : keyOf Try.prog 3 (.int .i64 tg) = some (.int .i64 tg) := keyOf_int_mk Try.underlying3 (WalkArith.wf_i64 hr.in')
  clear gr hr
  obtain ⟨c0, c1⟩ := h.cells; have HV := hidT h; have hv := lt_of_heap h.blk; have hm := h.mlt; have hbv := h.dev.lt; have hb0 := hidT (below1 w (.cells #[.bool false, .int .i64 0, .int .i64 0, .slice none 0 0, .slice none 0 0, .int .i64 0, .slice none 0 0, .int .i64 0] 49)); clear h
  go_enter Try.func30, Try.ntmps30
  go_wp2_with fail
  refine (rend_atG b m a k r HRQ.out.at' _ (HV.out.dev.later hb0.out) HG.out hW4).mono ?_
  rintro e w1 ⟨a1, xa, xc, xs, rfl, hxs, hst, hnew, hs1⟩
  obtain ⟨m1, hm1⟩ : ∃ m1 : Rd, m1 = (({ m with busy := m.busy.eraseIdx k } : Rd).did r) := ⟨_, rfl⟩
  have HM1 := hidT hm1
  rw [← hm1] at hs1
  have HBY : Hid (∀ q ∈ m1.busy, q ∈ m.busy) := fun q hq => by rw [HM1.out, Rd.did_busyR] at hq; exact List.mem_of_mem_eraseIdx hq
  have HOB : Hid (∀ q ∈ m1.busy, q.Off (fun j => j = bm)) := fun q hq => HRQ.out.off q (HBY.out q hq)
  have HOQ : Hid (∀ q ∈ m1.busy, q.Off (fun j => j = w.heap.size)) := fun q hq => off_of (HV.out.dev.lrow.2.1 q (HBY.out q hq)) (fun j e => by omega)
  have hxn : ∀ ad, xa = some ad → ad.block ≠ w.heap.size ∧ ad.block ≠ bm := fun ad e => by have := (hnew ad e).1; rw [World.size_alloc] at this; omega
  have HXN := hidT hxn
  have HNW : Hid (∀ ad, xa = some ad → w.heap.size ≤ ad.block ∧ ¬ rvfoot b bm a1 ad.block) := fun ad e => ⟨by have := (hnew ad e).1; rw [World.size_alloc] at this; omega, fun hk => hk.elim (hxn ad e).2 (hnew ad e).2⟩
  have HXS := hxs
  generalize hxlen : xs.length = xm at *
  have HXL := hidT hxlen
  have HT1 := hidT hst
  clear hm1 hxn hnew hxs hst hxlen
  have HS1 := hidT (HV.out.step ((RStep.same HV.out.dev hb0.out).trans hs1)); have n0 : ¬ a1.foot b w.heap.size := (fun e => by rcases hs1.foot _ e with e' | e'; (have := HV.out.dev.footLt _ e'; omega); (rw [World.size_alloc] at e'; omega)); have nl : m1.busy ≠ [] → ∀ p, a1.la = some p → p.block ≠ w.heap.size := (fun hne p hp => by rcases hs1.lan hne p hp with e' | e'; (have := HV.out.dev.llt e'.1 e'.2; omega); (rw [World.size_alloc] at e'; omega)); have hz1 := (zero_new w 49).only hs1.only (fun e => by have := HV.out.dev.footLt _ e; omega); have ha1 := (HA0.out.later hb0.out).frame (HV.out.dev.reqs r HMEM.out) hs1.only; have hb2 := below1 w1 (.cells #[.bool r.wr, .int .i64 r.f, .int .i64 r.m, .slice r.da r.data.length r.dc, .slice r.ta r.tags.length r.tc, .int .i64 r.born, .slice xa xm xc, .int .i64 0] 49); go_upto_region 2 with fail; refine wp_worldD (fun wK => RVStep v b bm m a n D m1 a1 n D w wK ∧ ZeroAt wK w.heap.size ∧ ResBox wK w1.heap.size r xa xm xc 0 ∧ r.At wK ∧ (StrsAt wK xa xs)) ⟨HS1.out.later hb2, hz1.only (F := fun _ => False) (Only.of_below hb2) (fun e => e), res_new w1 49 r xa xm xc 0, ha1.later hb2, HT1.out.later hb2⟩ ?_; rintro w2 ⟨hS2, hZ2, hX2, hA2, hT2⟩; have HS2 := hidT hS2; have HZ2 := hidT hZ2; have HX2 := hidT hX2; have HA2 := hidT hA2; have HT2 := hidT hT2; have HN0 := hidT (⟨n0, nl⟩ : _ ∧ _); obtain ⟨tb, to, hta, htc⟩ := tag_cell HA2.out HRQ.out.tag HRQ.out.some'; have htl := lt_of_cell htc; have hti : 0 < r.tags.length := HRQ.out.some'; have hti' : (0 : Int) < (r.tags.length : Int) := (by omega); obtain ⟨x0, x1, x2, x3, x4, x5, x6, x7⟩ := id HX2.out; rw [hta] at x4; have HTA := hidT hta; have hw1 := HS1.out.only.size; have hxl := lt_of_cell x0; obtain ⟨p0, p1⟩ := HS2.out.at'.cells; have hmp := HS2.out.at'.map; have hvl := lt_of_heap HS2.out.at'.blk; have HVM := hidT hvl; have HNQ9 : Hid (¬ a1.foot b w1.heap.size) := (fun e => by have := hs1.dev.footLt _ e; omega); clear hS2 hZ2 hX2 hA2 hT2 hs1 n0 nl hz1 ha1 hb2 hta HS1; generalize w1.heap.size = q9 at *
  clear HT1
  go_wp2_with (first
    | (at_mapUpdate; refine wpList_mapUpdate_own _ rfl _ _ _ 63 rfl 3 3 keyI Try.underlying63 _ bm n D rfl hmp (by unfold maxLen; omega) _ _ _ rfl rfl hkey _ [] (plainElem_int Try.underlying3 (WalkArith.wf_i64 (by omega))) ?_; intro w3 hown3 hgrow3; have HS3 := hidT (HS2.out.trans (HS2.out.at'.turn (only_of_grown hgrow3) hown3 HOB.out)); have HX3 := hidT (HX2.out.onlyR (only_of_grown hgrow3) (by omega)); have HZ3 := hidT (HZ2.out.only (only_of_grown hgrow3) (by omega)); have HT3 := hidT (strs_frame HT2.out (only_of_grown hgrow3) (fun _ ad e => (HXN.out ad e).2)); clear hown3 hgrow3 hmp HS2 HX2 HZ2 x0 x1 x2 x3 x4 x5 x6 x7 p0 p1; obtain ⟨x0, x1, x2, x3, x4, x5, x6, x7⟩ := id HX3.out)
    | (refine wpList_store_res rfl (.tmp 6) (.tmp 39) rfl w.heap.size r xa xm xc 0 rfl rfl (zero_there HZ3.out) (fun wK => (RVStep v b bm m a n D m1 a1 (n + 1) (D.put (.int .i64 tg) (.lit (.int .i64 0))) w wK ∧ StrsAt wK xa xs) ∧ ResBoxF wK w.heap.size r xa xm xc 0) ⟨⟨rvset8 HS3.out w.heap.size (Nat.le_refl _) (fun e => e.elim (fun e => by omega) HN0.out.1) (by omega) HN0.out.2 HOQ.out _ _ _ _ _ _ _ _, strs_frame HT3.out (set8_only _ w.heap.size _ _ _ _ _ _ _ _) (fun _ ad e => (HXN.out ad e).1)⟩, set8_res (zero_there HZ3.out) HZ3.out.2.2⟩ ?_; rintro w4 ⟨hs4, ⟨k0, k1, k2, k3, k4, k5, k6, k7⟩, -, -⟩; have HS4 := hidT hs4; clear hs4 HS3 HX3 HZ3))
  refine bodyPost_ret (v := .tuple #[resV r xa xm xc 0, .bool true, .int .i64 0]) (by simp [results, Try.results30, go_sem, k0, k1, k2, k3, k4, k5, k6, k7]) rfl ⟨a1, xa, xc, xs, by rw [HXL.out], HXS, HS4.out.2, HNW.out, ?_⟩
  rw [← HM1.out]
  exact HS4.out.1
end Go.Proofs.Ythmeaclekedilac
