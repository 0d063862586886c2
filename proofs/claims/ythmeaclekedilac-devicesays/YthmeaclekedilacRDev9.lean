/- The document's device: End of a request that reads; End of any. -/
import Derived.Test.YthmeaclekedilacRDev8
namespace Go.Proofs.Ythmeaclekedilac
open Go.RowKit Go.BigFrame
attribute [local go_sem] Later.cell Later.frozen

def rreadTo (d : Rd) (f n : Nat) : List ByteArray := (List.range n).map fun j => d.now.getD (f + j) ByteArray.empty
theorem rreadTo_succ (d : Rd) (f n : Nat) : rreadTo d f (n + 1) = rreadTo d f n ++ [d.now.getD (f + n) ByteArray.empty] := by simp [rreadTo, List.range_succ]
theorem rreadTo_length (d : Rd) (f n : Nat) : (rreadTo d f n).length = n := by simp [rreadTo]
theorem Only.of_belowB {a b : World} {B : Nat} (h : Below B a b) : Only (fun k => B ≤ k) a b := ⟨h.os, h.tape, h.output, h.size, fun i _ hn => h.block i (by omega)⟩
theorem resSet6 {w : World} {q n xc n' xc' : Nat} {r : Rq} {xa xa' : Option Addr} {er : Int} (h : ResBoxF w q r xa n xc er) : ResBoxF (w.setCell ⟨q, 6, none⟩ (.slice xa' n' xc')) q r xa' n' xc' er := by
  obtain ⟨⟨h0, h1, h2, h3, h4, h5, h6, h7⟩, ht, hl⟩ := h
  have k : ∀ o, o ≠ 6 → (w.setCell ⟨q, 6, none⟩ (.slice xa' n' xc')).cell? ⟨q, o, none⟩ = w.cell? ⟨q, o, none⟩ := fun o ho => World.cell?_setCell_other _ _ _ _ (fun e => ho (by injection e with _ e2 _; exact e2.symm))
  refine ⟨⟨(k 0 (by omega)).trans h0, (k 1 (by omega)).trans h1, (k 2 (by omega)).trans h2, (k 3 (by omega)).trans h3, (k 4 (by omega)).trans h4, (k 5 (by omega)).trans h5, ?_, (k 7 (by omega)).trans h7⟩, ?_, by simpa [World.setCell] using hl⟩
  · exact World.rangeAt_setCells_same w q 6 [.slice xa' n' xc'] (fun j hj => by have := ht (6 + j) (by simp at hj; omega); rw [Nat.zero_add] at this; exact this) 0 _ rfl
  · exact World.there_setCells ht q 6 [.slice xa' n' xc']
/-- What the loop of End reads, till it stores. -/
def LR (w : World) (q b p : Nat) (v : Value) (s : ByteArray) : Prop := w.cell? ⟨q, 6, none⟩ = some v ∧ w.cell? ⟨b, 32 + p, none⟩ = some (.string s) ∧ b < w.heap.size ∧ w.frozen? ⟨q, 6, none⟩ = false
theorem LR.below {w w' : World} {q b p B : Nat} {v : Value} {s : ByteArray} (h : LR w q b p v s) (hb : Below B w w') (hq : q < B) (hb' : b < B) : LR w' q b p v s :=
  ⟨(hb.cell (p := ⟨q, 6, none⟩) hq).trans h.1, (hb.cell (p := ⟨b, 32 + p, none⟩) hb').trans h.2.1, Nat.lt_of_lt_of_le h.2.2.1 hb.size, (hb.frozen (p := ⟨q, 6, none⟩) hq).trans h.2.2.2⟩
set_option linter.unusedSimpArgs false in
set_option maxRecDepth 100000 in
set_option maxHeartbeats 4000000 in
theorem rend_read (b : Nat) (d : Rd) (a : Ra) (k : Nat) (hk : k < d.busy.length) (w : World) (h : RdAt b d a w) (gr : Good d.busy[k]) (hw : d.busy[k].wr = false) :
    Calls Try.prog 17 #[.pointer (some ⟨b, 0, none⟩), .int .i64 k, .bool false] w fun e w' => ∃ a' xa xc, e = .returned (.tuple #[resV d.busy[k] xa (rreadTo d d.busy[k].f.toNat d.busy[k].m.toNat).length xc 0, .int .i64 0]) ∧ StrsAt w' xa (rreadTo d d.busy[k].f.toNat d.busy[k].m.toNat) ∧ (xa = none → xc = 0) ∧ (∀ ad, xa = some ad → w.heap.size ≤ ad.block ∧ ¬ a'.foot b ad.block) ∧ RStep b d a { d with busy := d.busy.eraseIdx k } a' w w' := by
  have HW := hidT hw
  have HWN := hidT (wantsR _ gr)
  clear hw gr
  have hl := h.lt; have HD := hidT h; have h0 : ¬ (k : Int) < 0 := (by omega); have h1 : ¬ (d.busy.length : Int) ≤ (k : Int) := (by omega); have h2 : (k : Int) < (d.busy.length : Int) := (by omega); have hk2 : (k : Int) ≤ 1 := (by have := h.blen; omega); have c := h.c65; obtain ⟨g, o, hg0, r0, r1, r2, r3, r4, r5⟩ := h.lplace hk; have hR := h.lrow; have hcap := h.lcap; rw [hg0] at c hR; have HR := hidT (⟨hR, hcap⟩ : _ ∧ _); have lg := lt_of_cell r0; have HBL := hidT h.blen; clear h hR hcap hg0; generalize hr : d.busy[k] = r at *; have HRR := hidT hr; clear hr; go_enter Try.func17, Try.ntmps17; go_wp2_with fail; have hB2 := below2 w (.cells #[.bool false, .int .i64 0, .int .i64 0, .slice none 0 0, .slice none 0 0, .int .i64 0, .slice none 0 0, .int .i64 0] 49) (.cells #[.bool r.wr, .int .i64 r.f, .int .i64 r.m, .slice r.da r.data.length r.dc, .slice r.ta r.tags.length r.tc, .int .i64 r.born] 38); refine (rwithout_any d.busy g o a.lc k _ (HR.out.1.later hB2) (by have := HBL.out; omega) HR.out.2 hk).mono ?_; rintro e w3 ⟨xa, xc, rfl, hN, hb3⟩; have hz2 := (zero_new w 49).only (F := fun _ => False) ((Only.refl _ _).alloc (.cells #[.bool r.wr, .int .i64 r.f, .int .i64 r.m, .slice r.da r.data.length r.dc, .slice r.ta r.tags.length r.tc, .int .i64 r.born] 38)) (fun e => e); have hx2 := box_new (w.alloc (.cells #[.bool false, .int .i64 0, .int .i64 0, .slice none 0 0, .slice none 0 0, .int .i64 0, .slice none 0 0, .int .i64 0] 49)) 38 r; rw [World.size_alloc] at hx2; have hO := ended_out hk HD.out hB2 hz2 (by rw [HRR.out]; exact hx2) (by simp) hb3 hN; rw [HRR.out] at hO; have c3 := (HD.out.later (bthen hB2 hb3)).c65; have f3 := (HD.out.later (bthen hB2 hb3)).fz 65; have l3 := (HD.out.later (bthen hB2 hb3)).lt; have HO := hidT hO; clear hz2 hx2 hO hN hb3 hB2 r0 r1 r2 r3 r4 r5 c lg; obtain ⟨x0, x1, x2, x3, x4, x5⟩ := id HO.out.box; generalize hW : w3.setCell ⟨b, 65, none⟩ (.slice xa (d.busy.eraseIdx k).length xc) = w4 at *
  have HX4 := hidT (id HO.out.box)
  have hz9 := hidT (zero_new w4 49)
  go_wp2_with (refine wpList_store_res rfl (.tmp 9) (.tmp 44) rfl w4.heap.size r none 0 0 0 rfl rfl (zero_there hz9.out) (fun wK => Below w4.heap.size w4 wK ∧ ResBoxF wK w4.heap.size r none 0 0 0) ⟨((below1 w4 _)).trans ((set8_only _ w4.heap.size _ _ _ _ _ _ _ _).below (by simp) (fun i e => by omega)), set8_res (zero_there hz9.out) hz9.out.2.2⟩ ?_; rintro w5 ⟨hb5, hr5⟩; have HB5 := hidT hb5; have HR5 := hidT hr5; clear hb5 hr5)
  obtain ⟨F, M, hF, hM, hFM, hM1, hM4, tF, tM⟩ := HWN.out
  have hq1 : w.heap.size + 1 < w4.heap.size := lt_of_cell x0
  have hb4 := HO.out.step.dev.lt
  obtain ⟨d1, hd1⟩ : ∃ d1 : Rd, d1 = { d with busy := d.busy.eraseIdx k } := ⟨_, rfl⟩
  obtain ⟨a1, ha1⟩ : ∃ a1 : Ra, a1 = { a with la := xa, lc := xc } := ⟨_, rfl⟩
  have hS4 := HO.out.step
  rw [← hd1, ← ha1] at hS4
  have HS4 := hidT hS4
  have hO2 := HO.out
  rw [← ha1] at hO2
  have HO2 := hidT hO2
  have hrd : ∀ n, rreadTo d F n = rreadTo d1 F n := fun n => by rw [hd1]; rfl
  have HD1 := hidT hd1
  have HRD := hidT hrd
  have HQ := hidT (⟨hF, hM, tF, tM⟩ : _ ∧ _ ∧ _ ∧ _)
  obtain ⟨iS, hi, hz0, hz1, hz2⟩ := pluck infoS
  have HI := hidT (⟨hi, hz0, hz1, hz2⟩ : Try.prog.info? 9 = some iS ∧ _ ∧ _ ∧ _)
  clear hd1 ha1 hO2 hS4 hrd x0 x1 x2 x3 x4 x5 hF hM tF tM HO hW c3 f3 l3 hz9 hi hz0 hz1 hz2
  go_loopw [10] (fun i wr => ∃ (j : Nat) (xa : Option Addr) (xc : Nat), j ≤ M ∧ i = .int .i64 j ∧ ResBoxF wr w4.heap.size r xa j xc 0 ∧ wr.ownsRow (w4.heap.size + 1) 9 1 (.slice xa j xc) j (strV (rreadTo d1 F j)) ∧ Below w4.heap.size w4 wr) (fun i _ => M - (intOf i).toNat)
  case atStart => exact ⟨0, none, 0, by omega, rfl, HR5.out, World.ownsRow_nil _ _ _ _, HB5.out⟩
  case round =>
    clear HB5 HR5
    obtain ⟨j, xa, xc, hj, rfl, hre, hown, hB⟩ := hrel
    have HRE := hidT hre
    have HOW := hidT hown
    have HB := hidT hB
    obtain ⟨⟨y0, y1, y2, y3, y4, y5, y6, y7⟩, yt, yl⟩ := hre
    obtain ⟨x0, x1, x2, x3, x4, x5⟩ := HX4.out.later hB
    have hdev := HS4.out.dev.later hB
    have lb := hdev.lt
    rw [HW.out] at x0
    rw [HQ.out.1] at x1
    rw [HQ.out.2.1] at x2
    by_cases hlt : j < M
    · have hlt' : (j : Int) < (M : Int) := by omega
      obtain ⟨P, hP⟩ : ∃ P : Nat, P = F + j := ⟨_, rfl⟩
      have hPi : (F : Int) + (j : Int) = (P : Int) := by omega
      have hP32 : P < 32 := by omega
      have hP32' : (P : Int) < 32 := by omega
      have hP0 : (0 : Int) ≤ (P : Int) := by omega
      have cn := hdev.cNow P hP32
      obtain ⟨s, hs'⟩ : ∃ s, d1.now.getD P ByteArray.empty = s := ⟨_, rfl⟩
      rw [hs'] at cn
      have HSS := hidT hs'
      have HPF := hidT hP
      have f6 : wr.frozen? ⟨w4.heap.size, 6, none⟩ = false := by have := (yt 6 (by omega)).2; rw [Nat.zero_add] at this; exact this
      have HS : Hid (LR wr.drew w4.heap.size b P (.slice xa j xc) s) := ⟨y6, cn, lb, f6⟩
      have HYL := hidT yl
      clear hs' hP yt hdev hown hB y0 y1 y2 y3 y4 y5 y7
      go_wp2_with fail
      refine region_till (S := fun wz => LR wz w4.heap.size b P (.slice xa j xc) s) (d := 11) (by kernel_rfl) ?_
      refine till_take (i := 0) (v := ?_) rfl (by kernel_rfl) (by kernel_rfl) (by kernel_rfl) (by kernel_rfl) (fun _ _ _ h => h) (Or.inl ⟨by rfl, ?_⟩) HS.out ?_; rotate_left; (focus (intro w0 hSw; obtain ⟨s0, s1, s2, s3⟩ := hSw; go_simp; (try with_reducible rfl))); (try simp only [Act.put, List.getElem_toArray, List.getElem_cons_succ, List.getElem_cons_zero, List.setIfInBounds_toArray, List.set_cons_zero, List.set_cons_succ])
      refine till_take (i := 1) (v := ?_) rfl (by kernel_rfl) (by kernel_rfl) (by kernel_rfl) (by kernel_rfl) (fun _ _ _ h => h) (Or.inl ⟨by rfl, ?_⟩) HS.out ?_; rotate_left; (focus (intro w0 hSw; obtain ⟨s0, s1, s2, s3⟩ := hSw; go_simp; (try with_reducible rfl))); (try simp only [Act.put, List.getElem_toArray, List.getElem_cons_succ, List.getElem_cons_zero, List.setIfInBounds_toArray, List.set_cons_zero, List.set_cons_succ])
      refine till_take (i := 2) (v := ?_) rfl (by kernel_rfl) (by kernel_rfl) (by kernel_rfl) (by kernel_rfl) (fun _ _ _ h => h) (Or.inl ⟨by rfl, ?_⟩) HS.out ?_; rotate_left; (focus (intro w0 hSw; obtain ⟨s0, s1, s2, s3⟩ := hSw; go_simp; (try with_reducible rfl))); (try simp only [Act.put, List.getElem_toArray, List.getElem_cons_succ, List.getElem_cons_zero, List.setIfInBounds_toArray, List.set_cons_zero, List.set_cons_succ])
      refine till_take (i := 3) (v := ?_) rfl (by kernel_rfl) (by kernel_rfl) (by kernel_rfl) (by kernel_rfl) (fun _ _ _ h => h) (Or.inl ⟨by rfl, ?_⟩) HS.out ?_; rotate_left; (focus (intro w0 hSw; obtain ⟨s0, s1, s2, s3⟩ := hSw; go_simp; (try with_reducible rfl))); (try simp only [Act.put, List.getElem_toArray, List.getElem_cons_succ, List.getElem_cons_zero, List.setIfInBounds_toArray, List.set_cons_zero, List.set_cons_succ])
      refine till_take (i := 4) (v := ?_) rfl (by kernel_rfl) (by kernel_rfl) (by kernel_rfl) (by kernel_rfl) (fun _ _ _ h => h) (Or.inl ⟨by rfl, ?_⟩) HS.out ?_; rotate_left; (focus (intro w0 hSw; obtain ⟨s0, s1, s2, s3⟩ := hSw; go_simp; (try with_reducible rfl))); (try simp only [Act.put, List.getElem_toArray, List.getElem_cons_succ, List.getElem_cons_zero, List.setIfInBounds_toArray, List.set_cons_zero, List.set_cons_succ])
      refine till_take (i := 5) (v := ?_) rfl (by kernel_rfl) (by kernel_rfl) (by kernel_rfl) (by kernel_rfl) (fun _ _ _ h => h) (Or.inl ⟨by rfl, ?_⟩) HS.out ?_; rotate_left; (focus (intro w0 hSw; obtain ⟨s0, s1, s2, s3⟩ := hSw; go_simp; (try with_reducible rfl))); (try simp only [Act.put, List.getElem_toArray, List.getElem_cons_succ, List.getElem_cons_zero, List.setIfInBounds_toArray, List.set_cons_zero, List.set_cons_succ])
      refine till_take (i := 6) (v := ?_) rfl (by kernel_rfl) (by kernel_rfl) (by kernel_rfl) (by kernel_rfl) (fun _ _ _ h => h) (Or.inl ⟨by rfl, ?_⟩) HS.out ?_; rotate_left; (focus (intro w0 hSw; obtain ⟨s0, s1, s2, s3⟩ := hSw; go_simp; (try with_reducible rfl))); (try simp only [Act.put, List.getElem_toArray, List.getElem_cons_succ, List.getElem_cons_zero, List.setIfInBounds_toArray, List.set_cons_zero, List.set_cons_succ])
      refine till_take (i := 7) (v := ?_) rfl (by kernel_rfl) (by kernel_rfl) (by kernel_rfl) (by kernel_rfl) (fun _ _ _ h => h) (Or.inl ⟨by rfl, ?_⟩) HS.out ?_; rotate_left; (focus (intro w0 hSw; obtain ⟨s0, s1, s2, s3⟩ := hSw; go_simp; (try with_reducible rfl))); (try simp only [Act.put, List.getElem_toArray, List.getElem_cons_succ, List.getElem_cons_zero, List.setIfInBounds_toArray, List.set_cons_zero, List.set_cons_succ])
      refine till_one (i := 8) rfl (by kernel_rfl) ?_; intro K hK; go_simp; refine hK _ _ (fun _ => HS.out.below (below1 _ _) yl lb) ?_; (try simp only [Act.put, List.getElem_toArray, List.getElem_cons_succ, List.getElem_cons_zero, List.setIfInBounds_toArray, List.set_cons_zero, List.set_cons_succ]); clear hK
      refine till_one (i := 9) rfl (by kernel_rfl) ?_
      intro K hK
      refine step_rowD rfl (.tmp 86) (.tmp 93) 35 rfl (w4.heap.size + 1) 9 iS _ 1 16 Try.underlying35 HI.out.1 HI.out.2.1 HI.out.2.2.1 HI.out.2.2.2 rfl (by decide) (.slice xa j xc) j (strV (rreadTo d1 F j)) rfl (ownD_later HOW.out (by repeat (first | with_reducible exact Below.refl _ _ | with_reducible refine balloc ?_ _ | with_reducible refine bdrew ?_ | with_reducible refine bset' ?_ (by omega) _ | with_reducible refine bthen ?_ (by assumption)))) (some ⟨wr.heap.size, 0, none⟩) 1 1 [.string s] rfl ⟨rfl, by simp [Value.oneCell'], Or.inr ⟨_, rfl, fun i u hi => newRowAt rfl _ _ i u hi⟩⟩ (by unfold maxLen; omega) (by omega) (by have := HYL.out; simp; omega) ?_
      intro v7 w7 hown7 hb7
      have hb7' : Below (w4.heap.size + 1) wr w7 := Below.trans (((Below.refl _ _).alloc (by omega) _).drew) hb7
      obtain ⟨x7, c7, rfl, -⟩ := slice_of_own hown7
      have hr7 := HRE.out.only (Only.of_belowB hb7') (by omega)
      have l7 : LR w7 w4.heap.size b P (.slice xa j xc) s := LR.below (w := wr) HS.out hb7' (by omega) (by omega)
      have hq7 : (Value.slice x7 (j + 1) c7).ownBlock ≠ some w4.heap.size := fun e => by have := (hown7.lt _ e).1; omega
      have HR8 := hidT (resSet6 (xa' := x7) (n' := j + 1) (xc' := c7) hr7)
      have HO8 := hidT (own_frame (w' := w7.setCell ⟨w4.heap.size, 6, none⟩ (.slice x7 (j + 1) c7)) hown7 (fun g hg => set_other _ _ (fun e => hq7 (e ▸ hg))))
      have HB8 := hidT ((HB.out.trans (hb7'.mono (by omega))).setCell (p := ⟨w4.heap.size, 6, none⟩) (Nat.le_refl _) (.slice x7 (j + 1) c7))
      have HS7 := hidT l7
      clear hown7 hb7 hb7' hr7 l7 hq7
      refine hK _ _ (fun _ => HS7.out) ?_
      (try simp only [Act.put, List.getElem_toArray, List.getElem_cons_succ, List.getElem_cons_zero, List.setIfInBounds_toArray, List.set_cons_zero, List.set_cons_succ])
      clear hK
      refine till_one (i := 10) rfl (by kernel_rfl) ?_; intro K hK; go_simp; refine hK _ _ (fun _ => HS7.out) ?_; (try simp only [Act.put, List.getElem_toArray, List.getElem_cons_succ, List.getElem_cons_zero, List.setIfInBounds_toArray, List.set_cons_zero, List.set_cons_succ]); clear hK
      obtain ⟨s0, -, -, s3⟩ := id HS7.out
      refine till_one (i := 11) rfl (by kernel_rfl) ?_; intro K hK; go_simp; refine hK _ _ (fun h => absurd rfl h) ?_; (try simp only [Act.put, List.getElem_toArray, List.getElem_cons_succ, List.getElem_cons_zero, List.setIfInBounds_toArray, List.set_cons_zero, List.set_cons_succ]); clear hK; refine till_done (by kernel_rfl) ?_ _
      go_wp2
      go_roundw
      case rel =>
        refine ⟨j + 1, x7, c7, by omega, by go_num, HR8.out, ?_, HB8.out⟩
        have e1 : strV (rreadTo d1 F (j + 1)) = strV (rreadTo d1 F j) ++ [.string s] := by rw [rreadTo_succ, ← HPF.out, HSS.out]; simp [strV]
        rw [e1]
        exact HO8.out
      case measure => simp [intOf]; omega
    · have hjM : j = M := by omega
      subst hjM
      have hze := HO2.out.zero.only (F := fun _ => False) (Only.of_below hB) (fun e => e)
      have HZE := hidT hze
      have HSE := hidT (HS4.out.later hB)
      obtain ⟨ya, yc, e1, hst, hnn, had⟩ := strs_of_ownedD hown (rreadTo_length _ _ _).symm
      simp only [Value.slice.injEq] at e1
      obtain ⟨rfl, -, rfl⟩ := e1
      have hq0 : ∀ ad, xa = some ad → ad.block ≠ w.heap.size := fun ad e => by have := had ad e; omega
      have HST := hidT (⟨hst, hnn, had, hq0⟩ : _ ∧ _ ∧ _ ∧ _)
      have HBY : Hid (d1.busy = d.busy.eraseIdx k) := by show _ = _; rw [HD1.out]
      clear hst hnn had hq0 hown hze yt hdev hB
      go_wp2_with (refine wpList_store_res rfl (.tmp 6) (.tmp 96) rfl w.heap.size r xa j xc 0 rfl rfl (zero_there HZE.out) (fun wK => (StrsAt wK xa (rreadTo d1 F j) ∧ RStep b d a d1 a1 w wK) ∧ ResBoxF wK w.heap.size r xa j xc 0) ⟨⟨strs_frame HST.out.1 (set8_only _ w.heap.size _ _ _ _ _ _ _ _) (fun _ ad e => HST.out.2.2.2 ad e), HSE.out.other (set8_only _ w.heap.size _ _ _ _ _ _ _ _) (Nat.le_refl _) (HO2.out.nf _ (Nat.le_refl _)) (fun _ p hp => by have := HO2.out.nl p hp; omega) (by rw [HBY.out]; exact HO2.out.nr HD.out _ (Nat.le_refl _))⟩, set8_res (zero_there HZE.out) HZE.out.2.2⟩ ?_; rintro w9 ⟨hs9, ⟨z0, z1, z2, z3, z4, z5, z6, z7⟩, -, -⟩; have HS9 := hidT hs9; clear hs9)
      refine bodyPost_ret (v := .tuple #[resV r xa j xc 0, .int .i64 0]) (by simp [results, Try.results17, go_sem, z0, z1, z2, z3, z4, z5, z6, z7]) rfl ⟨a1, xa, xc, ?_, ?_, HST.out.2.1, fun ad e => ⟨by have := HST.out.2.2.1 ad e; omega, HO2.out.nf _ (by have := HST.out.2.2.1 ad e; omega)⟩, ?_⟩
      · rw [rreadTo_length, HQ.out.2.2.2]
      · rw [HQ.out.2.2.1, HQ.out.2.2.2, HRD.out]; exact HS9.out.1
      · rw [← HD1.out]; exact HS9.out.2
/-- What is read of a request that is done. -/
def rdidRead (d : Rd) (r : Rq) : List ByteArray := if r.wr = true then [] else rreadTo d r.f.toNat r.m.toNat
theorem rend_any (b : Nat) (d : Rd) (a : Ra) (k : Nat) (hk : k < d.busy.length) (w : World) (h : RdAt b d a w) (gr : Good d.busy[k]) (hW4 : d.waits.length ≤ 1000000) :
    Calls Try.prog 17 #[.pointer (some ⟨b, 0, none⟩), .int .i64 k, .bool false] w fun e w' => ∃ a' xa xc xs, e = .returned (.tuple #[resV d.busy[k] xa (List.length xs) xc 0, .int .i64 0]) ∧ Hid (xs = rdidRead d d.busy[k]) ∧ StrsAt w' xa xs ∧ (∀ ad, xa = some ad → w.heap.size ≤ ad.block ∧ ¬ a'.foot b ad.block) ∧ RStep b d a (({ d with busy := d.busy.eraseIdx k } : Rd).did d.busy[k]) a' w w' := by
  by_cases hw : d.busy[k].wr = true
  · refine (rend_write b d a k hk w h gr hw hW4).mono ?_
    rintro e w' ⟨a', rfl, hs⟩
    refine ⟨a', none, 0, [], rfl, ?_, Or.inl rfl, (fun ad e => by cases e), ?_⟩
    · show [] = _; rw [rdidRead, if_pos hw]
    · rw [Rd.did, if_pos hw]; exact hs
  · refine (rend_read b d a k hk w h gr (by simpa using hw)).mono ?_
    rintro e w' ⟨a', xa, xc, rfl, h1, -, h2, hs⟩
    refine ⟨a', xa, xc, _, rfl, ?_, h1, h2, ?_⟩
    · show _ = _; rw [rdidRead, if_neg hw]
    · rw [Rd.did, if_neg hw]; exact hs
end Go.Proofs.Ythmeaclekedilac
