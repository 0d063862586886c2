/- The document's device: End of a request that writes. -/
import Derived.Test.YthmeaclekedilacRDev7
namespace Go.Proofs.Ythmeaclekedilac
open Go.RowKit Go.BigFrame
attribute [local go_sem] Later.cell Later.frozen

theorem wantsR (r : Rq) (g : Good r) : ∃ F M : Nat, r.f = F ∧ r.m = M ∧ F + M ≤ 32 ∧ 1 ≤ M ∧ M ≤ 4 ∧ r.f.toNat = F ∧ r.m.toNat = M := by
  have h1 := g.ok
  simp only [okB, decide_eq_true_eq] at h1
  exact ⟨r.f.toNat, r.m.toNat, by omega, by omega, by omega, by omega, by omega, rfl, rfl⟩
theorem infoP : (Try.prog.info? 108).map (fun i => (i.zero, i.size, i.bytes)) = some (some (.agg #[.int .i64 0, .string ByteArray.empty]), 2, 24) := by kernel_rfl
/-- What the loop of End reads, till it stores. -/
def LS (w : World) (q b j : Nat) (v : Value) (da : Option Addr) (n dc db o : Nat) (s : ByteArray) : Prop := w.cell? ⟨q, 3, none⟩ = some (.slice da n dc) ∧ w.cell? ⟨db, o, none⟩ = some (.string s) ∧ b < w.heap.size ∧ w.cell? ⟨b, j, none⟩ = some v ∧ w.frozen? ⟨b, j, none⟩ = false
theorem LS.later {w w' : World} {q b j : Nat} {v : Value} {da : Option Addr} {n dc db o : Nat} {s : ByteArray} (h : LS w q b j v da n dc db o s) (hb : Below w.heap.size w w') : LS w' q b j v da n dc db o s :=
  ⟨cellA_later hb h.1, cellA_later hb h.2.1, Nat.lt_of_lt_of_le h.2.2.1 hb.size, cellA_later hb h.2.2.2.1, by rw [hb.frozen (p := ⟨b, j, none⟩) h.2.2.1]; exact h.2.2.2.2⟩
theorem RdAt.now1 {b : Nat} {d : Rd} {a : Ra} {w : World} (h : RdAt b d a w) {p : Nat} (hp : p < 32) : w.cell? ⟨b, 32 + p, none⟩ = some (.string (d.now.getD p ByteArray.empty)) ∧ w.frozen? ⟨b, 32 + p, none⟩ = false := ⟨h.cNow p hp, h.fz _⟩
set_option linter.unusedSimpArgs false in
set_option maxRecDepth 100000 in
set_option maxHeartbeats 4000000 in
theorem rend_write (b : Nat) (d : Rd) (a : Ra) (k : Nat) (hk : k < d.busy.length) (w : World) (h : RdAt b d a w) (gr : Good d.busy[k]) (hw : d.busy[k].wr = true) (hW4 : d.waits.length ≤ 1000000) :
    Calls Try.prog 17 #[.pointer (some ⟨b, 0, none⟩), .int .i64 k, .bool false] w fun e w' => ∃ a', e = .returned (.tuple #[resV d.busy[k] none 0 0 0, .int .i64 0]) ∧ RStep b d a (({ d with busy := d.busy.eraseIdx k } : Rd).writesTo d.busy[k] d.busy[k].m.toNat) a' w w' := by
  have hdl : (d.busy[k].data.length : Int) = d.busy[k].m := by
    have := gr.shape
    simp only [shapeB, hw, if_true, decide_eq_true_eq] at this
    exact this
  have HW := hidT hw
  have HDL := hidT hdl
  have HWN := hidT (wantsR _ gr)
  clear hw gr hdl
  have hl := h.lt; have HD := hidT h; have h0 : ¬ (k : Int) < 0 := (by omega); have h1 : ¬ (d.busy.length : Int) ≤ (k : Int) := (by omega); have h2 : (k : Int) < (d.busy.length : Int) := (by omega); have hk2 : (k : Int) ≤ 1 := (by have := h.blen; omega); have c := h.c65; obtain ⟨g, o, hg0, r0, r1, r2, r3, r4, r5⟩ := h.lplace hk; have hR := h.lrow; have hcap := h.lcap; rw [hg0] at c hR; have HR := hidT (⟨hR, hcap⟩ : _ ∧ _); have lg := lt_of_cell r0; have HBL := hidT h.blen; clear h hR hcap hg0; generalize hr : d.busy[k] = r at *; have HRR := hidT hr; clear hr; go_enter Try.func17, Try.ntmps17; go_wp2_with fail; have hB2 := below2 w (.cells #[.bool false, .int .i64 0, .int .i64 0, .slice none 0 0, .slice none 0 0, .int .i64 0, .slice none 0 0, .int .i64 0] 49) (.cells #[.bool r.wr, .int .i64 r.f, .int .i64 r.m, .slice r.da r.data.length r.dc, .slice r.ta r.tags.length r.tc, .int .i64 r.born] 38); refine (rwithout_any d.busy g o a.lc k _ (HR.out.1.later hB2) (by have := HBL.out; omega) HR.out.2 hk).mono ?_; rintro e w3 ⟨xa, xc, rfl, hN, hb3⟩; have hz2 := (zero_new w 49).only (F := fun _ => False) ((Only.refl _ _).alloc (.cells #[.bool r.wr, .int .i64 r.f, .int .i64 r.m, .slice r.da r.data.length r.dc, .slice r.ta r.tags.length r.tc, .int .i64 r.born] 38)) (fun e => e); have hx2 := box_new (w.alloc (.cells #[.bool false, .int .i64 0, .int .i64 0, .slice none 0 0, .slice none 0 0, .int .i64 0, .slice none 0 0, .int .i64 0] 49)) 38 r; rw [World.size_alloc] at hx2; have hO := ended_out hk HD.out hB2 hz2 (by rw [HRR.out]; exact hx2) (by simp) hb3 hN; rw [HRR.out] at hO; have c3 := (HD.out.later (bthen hB2 hb3)).c65; have f3 := (HD.out.later (bthen hB2 hb3)).fz 65; have l3 := (HD.out.later (bthen hB2 hb3)).lt; have HO := hidT hO; clear hz2 hx2 hO hN hb3 hB2 r0 r1 r2 r3 r4 r5 c lg; obtain ⟨x0, x1, x2, x3, x4, x5⟩ := id HO.out.box; generalize hW : w3.setCell ⟨b, 65, none⟩ (.slice xa (d.busy.eraseIdx k).length xc) = w4 at *
  have HX4 := hidT (id HO.out.box)
  have hz9 := hidT (zero_new w4 49)
  go_wp2_with (refine wpList_store_res rfl (.tmp 9) (.tmp 44) rfl w4.heap.size r none 0 0 0 rfl rfl (zero_there hz9.out) (fun wK => Below w4.heap.size w4 wK ∧ ResBoxF wK w4.heap.size r none 0 0 0) ⟨((below1 w4 _)).trans ((set8_only _ w4.heap.size _ _ _ _ _ _ _ _).below (by simp) (fun i e => by omega)), set8_res (zero_there hz9.out) hz9.out.2.2⟩ ?_; rintro w5 ⟨hb5, hr5⟩; have HB5 := hidT hb5; have HR5 := hidT hr5; clear hb5 hr5)
  obtain ⟨F, M, hF, hM, hFM, hM1, hM4, tF, tM⟩ := HWN.out
  have hD5 := HO.out.step.later HB5.out
  have HD5 := hidT hD5
  have hq1 : w.heap.size + 1 < w4.heap.size := lt_of_cell x0
  have hx5 := HX4.out.later HB5.out
  have HX5 := hidT hx5
  have HZ5 := hidT (HO.out.zero.only (F := fun _ => False) (Only.of_below HB5.out) (fun e => e))
  have HAT5 := hidT (HO.out.at'.later HB5.out)
  have hs5 : w4.heap.size < w5.heap.size := HR5.out.2.2
  obtain ⟨d1, hd1⟩ : ∃ d1 : Rd, d1 = { d with busy := d.busy.eraseIdx k } := ⟨_, rfl⟩
  obtain ⟨a1, ha1⟩ : ∃ a1 : Ra, a1 = { a with la := xa, lc := xc } := ⟨_, rfl⟩
  rw [← hd1, ← ha1] at HD5
  have hO2 := HO.out
  rw [← ha1] at hO2
  have HO2 := hidT hO2
  have hwl : d1.waits.length ≤ 1000000 := by rw [hd1]; exact hW4
  have HD1 := hidT hd1
  have HA1 := hidT ha1
  have HQ := hidT (⟨hF, hM, tF, tM⟩ : _ ∧ _ ∧ _ ∧ _)
  clear hd1 ha1 hO2 x0 x1 x2 x3 x4 x5 hD5 hx5 hF hM tF tM HO hW c3 f3 l3 hz9
  go_loopw [10] (fun i wr => ∃ (j : Nat) (a' : Ra), j ≤ M ∧ i = .int .i64 j ∧ (d1.writesTo r j).waits.length = d1.waits.length + j ∧ a'.la = a1.la ∧ RStep b d1 a1 (d1.writesTo r j) a' w5 wr) (fun i _ => M - (intOf i).toNat)
  case atStart => exact ⟨0, a1, by omega, rfl, rfl, rfl, RStep.same HD5.out.dev (Below.refl _ _)⟩
  case round =>
    obtain ⟨j, a', hj, rfl, hwj, hla, hs⟩ := hrel
    have HLA := hidT hla
    have HS2 := hidT hs
    have HWJ := hidT hwj
    have hbx := HX5.out.only hs.only (fun e => by have := HO2.out.nf (w.heap.size + 1) (by omega); exact this e)
    have lb := hs.dev.lt
    have HBX := hidT hbx
    obtain ⟨x0, x1, x2, x3, x4, x5⟩ := hbx
    rw [HW.out] at x0
    rw [HQ.out.1] at x1
    rw [HQ.out.2.1] at x2
    have l1 := lt_of_cell x0
    clear hs hwj hla
    by_cases hlt : j < M
    · have hlt' : (j : Int) < (M : Int) := by omega
      have hjd : j < r.data.length := by have := HDL.out; have := HQ.out.2.1; omega
      have hjd' : (j : Int) < (r.data.length : Int) := by omega
      have hj0 : (0 : Int) ≤ (j : Int) := by omega
      obtain ⟨P, hP⟩ : ∃ P : Nat, P = F + j := ⟨_, rfl⟩
      have hPi : (F : Int) + (j : Int) = (P : Int) := by omega
      have hP32 : P < 32 := by omega
      have hP32' : (P : Int) < 32 := by omega
      have hP0 : (0 : Int) ≤ (P : Int) := by omega
      have hat := HAT5.out.frame HO2.out.off HS2.out.only
      obtain ⟨db, do', hda, hdc⟩ : ∃ db do', r.da = some ⟨db, do', none⟩ ∧ wr.cell? ⟨db, do' + j, none⟩ = some (.string (r.data.getD j ByteArray.empty)) := by
        rcases hat.data with h | ⟨db, o, h, hc⟩
        · rw [h] at hjd; exact absurd hjd (Nat.not_lt_zero _)
        · exact ⟨db, o, h, hc j hjd⟩
      have HAT := hidT hat
      obtain ⟨s, hs'⟩ : ∃ s, s = r.data.getD j ByteArray.empty := ⟨_, rfl⟩
      have HSS := hidT hs'
      rw [← hs'] at hdc
      rw [hda] at x3
      obtain ⟨n1, n2⟩ := HS2.out.dev.now1 hP32
      obtain ⟨old, hold⟩ : ∃ old, (d1.writesTo r j).now.getD P ByteArray.empty = old := ⟨_, rfl⟩
      rw [hold] at n1
      have HPF := hidT hP
      have HDA := hidT hda
      have ldb := lt_of_cell hdc
      clear hat hs' hold hP hda
      have HS : Hid (LS wr.drew (w.heap.size + 1) b (32 + P) (.string old) (some ⟨db, do', none⟩) r.data.length r.dc db (do' + j) s) := ⟨x3, hdc, lb, n1, n2⟩
      go_wp2_with fail
      refine region_till (S := fun wz => LS wz (w.heap.size + 1) b (32 + P) (.string old) (some ⟨db, do', none⟩) r.data.length r.dc db (do' + j) s) (d := 10) (by kernel_rfl) ?_
      refine till_take (i := 0) (v := ?_) rfl (by kernel_rfl) (by kernel_rfl) (by kernel_rfl) (by kernel_rfl) (fun _ _ _ h => h) (Or.inl ⟨by rfl, ?_⟩) HS.out ?_; rotate_left; (focus (intro w0 hSw; obtain ⟨s0, s1, s2, s3, s4⟩ := hSw; go_simp; (try with_reducible rfl))); (try simp only [Act.put, List.getElem_toArray, List.getElem_cons_succ, List.getElem_cons_zero, List.setIfInBounds_toArray, List.set_cons_zero, List.set_cons_succ])
      refine till_take (i := 1) (v := ?_) rfl (by kernel_rfl) (by kernel_rfl) (by kernel_rfl) (by kernel_rfl) (fun _ _ _ h => h) (Or.inl ⟨by rfl, ?_⟩) HS.out ?_; rotate_left; (focus (intro w0 hSw; obtain ⟨s0, s1, s2, s3, s4⟩ := hSw; go_simp; (try with_reducible rfl))); (try simp only [Act.put, List.getElem_toArray, List.getElem_cons_succ, List.getElem_cons_zero, List.setIfInBounds_toArray, List.set_cons_zero, List.set_cons_succ])
      refine till_take (i := 2) (v := ?_) rfl (by kernel_rfl) (by kernel_rfl) (by kernel_rfl) (by kernel_rfl) (fun _ _ _ h => h) (Or.inl ⟨by rfl, ?_⟩) HS.out ?_; rotate_left; (focus (intro w0 hSw; obtain ⟨s0, s1, s2, s3, s4⟩ := hSw; go_simp; (try with_reducible rfl))); (try simp only [Act.put, List.getElem_toArray, List.getElem_cons_succ, List.getElem_cons_zero, List.setIfInBounds_toArray, List.set_cons_zero, List.set_cons_succ])
      refine till_take (i := 3) (v := ?_) rfl (by kernel_rfl) (by kernel_rfl) (by kernel_rfl) (by kernel_rfl) (fun _ _ _ h => h) (Or.inl ⟨by rfl, ?_⟩) HS.out ?_; rotate_left; (focus (intro w0 hSw; obtain ⟨s0, s1, s2, s3, s4⟩ := hSw; go_simp; (try with_reducible rfl))); (try simp only [Act.put, List.getElem_toArray, List.getElem_cons_succ, List.getElem_cons_zero, List.setIfInBounds_toArray, List.set_cons_zero, List.set_cons_succ])
      refine till_take (i := 4) (v := ?_) rfl (by kernel_rfl) (by kernel_rfl) (by kernel_rfl) (by kernel_rfl) (fun _ _ _ h => h) (Or.inl ⟨by rfl, ?_⟩) HS.out ?_; rotate_left; (focus (intro w0 hSw; obtain ⟨s0, s1, s2, s3, s4⟩ := hSw; go_simp; (try with_reducible rfl))); (try simp only [Act.put, List.getElem_toArray, List.getElem_cons_succ, List.getElem_cons_zero, List.setIfInBounds_toArray, List.set_cons_zero, List.set_cons_succ])
      refine till_take (i := 5) (v := ?_) rfl (by kernel_rfl) (by kernel_rfl) (by kernel_rfl) (by kernel_rfl) (fun _ _ _ h => h) (Or.inl ⟨by rfl, ?_⟩) HS.out ?_; rotate_left; (focus (intro w0 hSw; obtain ⟨s0, s1, s2, s3, s4⟩ := hSw; go_simp; (try with_reducible rfl))); (try simp only [Act.put, List.getElem_toArray, List.getElem_cons_succ, List.getElem_cons_zero, List.setIfInBounds_toArray, List.set_cons_zero, List.set_cons_succ])
      refine till_take (i := 6) (v := ?_) rfl (by kernel_rfl) (by kernel_rfl) (by kernel_rfl) (by kernel_rfl) (fun _ _ _ h => h) (Or.inl ⟨by rfl, ?_⟩) HS.out ?_; rotate_left; (focus (intro w0 hSw; obtain ⟨s0, s1, s2, s3, s4⟩ := hSw; go_simp; (try with_reducible rfl))); (try simp only [Act.put, List.getElem_toArray, List.getElem_cons_succ, List.getElem_cons_zero, List.setIfInBounds_toArray, List.set_cons_zero, List.set_cons_succ])
      refine till_one (i := 7) rfl (by kernel_rfl) ?_; intro K hK; go_simp; refine hK _ _ (fun _ => HS.out) ?_; (try simp only [Act.put, List.getElem_toArray, List.getElem_cons_succ, List.getElem_cons_zero, List.setIfInBounds_toArray, List.set_cons_zero, List.set_cons_succ]); clear hK
      refine till_one (i := 8) rfl (by kernel_rfl) ?_; intro K hK; go_simp; refine hK _ _ (fun _ => HS.out) ?_; (try simp only [Act.put, List.getElem_toArray, List.getElem_cons_succ, List.getElem_cons_zero, List.setIfInBounds_toArray, List.set_cons_zero, List.set_cons_succ]); clear hK
      refine till_one (i := 9) rfl (by kernel_rfl) ?_; intro K hK; go_simp; refine hK _ _ (fun _ => HS.out) ?_; (try simp only [Act.put, List.getElem_toArray, List.getElem_cons_succ, List.getElem_cons_zero, List.setIfInBounds_toArray, List.set_cons_zero, List.set_cons_succ]); clear hK
      refine till_one (i := 10) rfl (by kernel_rfl) ?_; intro K hK; go_simp; refine hK _ _ (fun h => absurd rfl h) ?_; (try simp only [Act.put, List.getElem_toArray, List.getElem_cons_succ, List.getElem_cons_zero, List.setIfInBounds_toArray, List.set_cons_zero, List.set_cons_succ]); clear hK; refine till_done (by kernel_rfl) ?_ _
      go_wp2_with fail
      have hs6 := (HS2.out.trans (HS2.out.dev.setNow1 hP32 s)).drewAt
      refine wp_worldD (fun wK => RStep b d1 a1 { d1.writesTo r j with now := (d1.writesTo r j).now.set P s } a' w5 wK) hs6 ?_
      clear hs6 HS n1 n2 x0 x1 x2 x3 x4 x5 hdc lb l1 ldb HAT HBX
      intro w6 hs6
      have HS6 := hidT hs6
      have hbx := HX5.out.only hs6.only (fun e => by have := HO2.out.nf (w.heap.size + 1) (by omega); exact this e)
      have lb := hs6.dev.lt
      obtain ⟨x0, x1, x2, x3, x4, x5⟩ := hbx
      rw [HDA.out] at x3
      have hat := HAT5.out.frame HO2.out.off hs6.only
      have hdc : w6.cell? ⟨db, do' + j, none⟩ = some (.string s) := by
        rcases hat.data with h | ⟨db2, o2, h, hc⟩
        · rw [h] at hjd; exact absurd hjd (Nat.not_lt_zero _)
        · rw [HDA.out] at h
          simp only [Option.some.injEq, Addr.mk.injEq, and_true] at h
          obtain ⟨rfl, rfl⟩ := h
          rw [HSS.out]; exact hc j hjd
      have c64 := hs6.dev.c64
      have f64 := hs6.dev.fz 64
      have hfin := hs6.dev.wfin
      have hwr6 := hidT hs6.dev.wrow
      have hwn := HWJ.out
      simp only at c64 hfin hwr6
      have HFIN := hidT hfin
      generalize hN : (d1.writesTo r j).waits = W at *
      have HN := hidT hN
      obtain ⟨iP, hi, hz0, hz1, hz2⟩ := pluck infoP
      have HI := hidT (⟨hi, hz0, hz1, hz2⟩ : Try.prog.info? 108 = some iP ∧ _ ∧ _ ∧ _)
      have hWb : W.length ≤ 1000010 := by omega
      have HWB := hidT hWb
      have HS : Hid (LS w6.drew (w.heap.size + 1) b 64 (.slice a'.wa W.length a'.wc) (some ⟨db, do', none⟩) r.data.length r.dc db (do' + j) s) := ⟨x3, hdc, lb, c64, f64⟩
      clear hs6 hat hfin hwn hN hi hz0 hz1 hz2 hWb
      refine region_till (S := fun wz => LS wz (w.heap.size + 1) b 64 (.slice a'.wa W.length a'.wc) (some ⟨db, do', none⟩) r.data.length r.dc db (do' + j) s) (d := 16) (by kernel_rfl) ?_
      refine till_take (i := 0) (v := ?_) rfl (by kernel_rfl) (by kernel_rfl) (by kernel_rfl) (by kernel_rfl) (fun _ _ _ h => h) (Or.inl ⟨by rfl, ?_⟩) HS.out ?_; rotate_left; (focus (intro w0 hSw; obtain ⟨s0, s1, s2, s3, s4⟩ := hSw; go_simp; (try with_reducible rfl))); (try simp only [Act.put, List.getElem_toArray, List.getElem_cons_succ, List.getElem_cons_zero, List.setIfInBounds_toArray, List.set_cons_zero, List.set_cons_succ])
      refine till_take (i := 1) (v := ?_) rfl (by kernel_rfl) (by kernel_rfl) (by kernel_rfl) (by kernel_rfl) (fun _ _ _ h => h) (Or.inl ⟨by rfl, ?_⟩) HS.out ?_; rotate_left; (focus (intro w0 hSw; obtain ⟨s0, s1, s2, s3, s4⟩ := hSw; go_simp; (try with_reducible rfl))); (try simp only [Act.put, List.getElem_toArray, List.getElem_cons_succ, List.getElem_cons_zero, List.setIfInBounds_toArray, List.set_cons_zero, List.set_cons_succ])
      refine till_take (i := 2) (v := ?_) rfl (by kernel_rfl) (by kernel_rfl) (by kernel_rfl) (by kernel_rfl) (fun _ _ _ h => h) (Or.inl ⟨by rfl, ?_⟩) HS.out ?_; rotate_left; (focus (intro w0 hSw; obtain ⟨s0, s1, s2, s3, s4⟩ := hSw; go_simp; (try with_reducible rfl))); (try simp only [Act.put, List.getElem_toArray, List.getElem_cons_succ, List.getElem_cons_zero, List.setIfInBounds_toArray, List.set_cons_zero, List.set_cons_succ])
      refine till_take (i := 3) (v := ?_) rfl (by kernel_rfl) (by kernel_rfl) (by kernel_rfl) (by kernel_rfl) (fun _ _ _ h => h) (Or.inl ⟨by rfl, ?_⟩) HS.out ?_; rotate_left; (focus (intro w0 hSw; obtain ⟨s0, s1, s2, s3, s4⟩ := hSw; go_simp; (try with_reducible rfl))); (try simp only [Act.put, List.getElem_toArray, List.getElem_cons_succ, List.getElem_cons_zero, List.setIfInBounds_toArray, List.set_cons_zero, List.set_cons_succ])
      refine till_take (i := 4) (v := ?_) rfl (by kernel_rfl) (by kernel_rfl) (by kernel_rfl) (by kernel_rfl) (fun _ _ _ h => h) (Or.inl ⟨by rfl, ?_⟩) HS.out ?_; rotate_left; (focus (intro w0 hSw; obtain ⟨s0, s1, s2, s3, s4⟩ := hSw; go_simp; (try with_reducible rfl))); (try simp only [Act.put, List.getElem_toArray, List.getElem_cons_succ, List.getElem_cons_zero, List.setIfInBounds_toArray, List.set_cons_zero, List.set_cons_succ])
      refine till_take (i := 5) (v := ?_) rfl (by kernel_rfl) (by kernel_rfl) (by kernel_rfl) (by kernel_rfl) (fun _ _ _ h => h) (Or.inl ⟨by rfl, ?_⟩) HS.out ?_; rotate_left; (focus (intro w0 hSw; obtain ⟨s0, s1, s2, s3, s4⟩ := hSw; go_simp; (try with_reducible rfl))); (try simp only [Act.put, List.getElem_toArray, List.getElem_cons_succ, List.getElem_cons_zero, List.setIfInBounds_toArray, List.set_cons_zero, List.set_cons_succ])
      refine till_take (i := 6) (v := ?_) rfl (by kernel_rfl) (by kernel_rfl) (by kernel_rfl) (by kernel_rfl) (fun _ _ _ h => h) (Or.inl ⟨by rfl, ?_⟩) HS.out ?_; rotate_left; (focus (intro w0 hSw; obtain ⟨s0, s1, s2, s3, s4⟩ := hSw; go_simp; (try with_reducible rfl))); (try simp only [Act.put, List.getElem_toArray, List.getElem_cons_succ, List.getElem_cons_zero, List.setIfInBounds_toArray, List.set_cons_zero, List.set_cons_succ])
      refine till_take (i := 7) (v := ?_) rfl (by kernel_rfl) (by kernel_rfl) (by kernel_rfl) (by kernel_rfl) (fun _ _ _ h => h) (Or.inl ⟨by rfl, ?_⟩) HS.out ?_; rotate_left; (focus (intro w0 hSw; obtain ⟨s0, s1, s2, s3, s4⟩ := hSw; go_simp; (try with_reducible rfl))); (try simp only [Act.put, List.getElem_toArray, List.getElem_cons_succ, List.getElem_cons_zero, List.setIfInBounds_toArray, List.set_cons_zero, List.set_cons_succ])
      refine till_take (i := 8) (v := ?_) rfl (by kernel_rfl) (by kernel_rfl) (by kernel_rfl) (by kernel_rfl) (fun _ _ _ h => h) (Or.inl ⟨by rfl, ?_⟩) HS.out ?_; rotate_left; (focus (intro w0 hSw; obtain ⟨s0, s1, s2, s3, s4⟩ := hSw; go_simp; (try with_reducible rfl))); (try simp only [Act.put, List.getElem_toArray, List.getElem_cons_succ, List.getElem_cons_zero, List.setIfInBounds_toArray, List.set_cons_zero, List.set_cons_succ])
      refine till_take (i := 9) (v := ?_) rfl (by kernel_rfl) (by kernel_rfl) (by kernel_rfl) (by kernel_rfl) (fun _ _ _ h => h) (Or.inl ⟨by rfl, ?_⟩) HS.out ?_; rotate_left; (focus (intro w0 hSw; obtain ⟨s0, s1, s2, s3, s4⟩ := hSw; go_simp; (try with_reducible rfl))); (try simp only [Act.put, List.getElem_toArray, List.getElem_cons_succ, List.getElem_cons_zero, List.setIfInBounds_toArray, List.set_cons_zero, List.set_cons_succ])
      refine till_take (i := 10) (v := ?_) rfl (by kernel_rfl) (by kernel_rfl) (by kernel_rfl) (by kernel_rfl) (fun _ _ _ h => h) (Or.inl ⟨by rfl, ?_⟩) HS.out ?_; rotate_left; (focus (intro w0 hSw; obtain ⟨s0, s1, s2, s3, s4⟩ := hSw; go_simp; (try with_reducible rfl))); (try simp only [Act.put, List.getElem_toArray, List.getElem_cons_succ, List.getElem_cons_zero, List.setIfInBounds_toArray, List.set_cons_zero, List.set_cons_succ])
      refine till_take (i := 11) (v := ?_) rfl (by kernel_rfl) (by kernel_rfl) (by kernel_rfl) (by kernel_rfl) (fun _ _ _ h => h) (Or.inl ⟨by rfl, ?_⟩) HS.out ?_; rotate_left; (focus (intro w0 hSw; obtain ⟨s0, s1, s2, s3, s4⟩ := hSw; go_simp; (try with_reducible rfl))); (try simp only [Act.put, List.getElem_toArray, List.getElem_cons_succ, List.getElem_cons_zero, List.setIfInBounds_toArray, List.set_cons_zero, List.set_cons_succ])
      refine till_one (i := 12) rfl (by kernel_rfl) ?_; intro K hK; go_simp; refine hK _ _ (fun _ => HS.out.later (below1 _ _)) ?_; (try simp only [Act.put, List.getElem_toArray, List.getElem_cons_succ, List.getElem_cons_zero, List.setIfInBounds_toArray, List.set_cons_zero, List.set_cons_succ]); clear hK
      refine till_one (i := 13) rfl (by kernel_rfl) ?_
      intro K hK
      refine step_push rfl (.tmp 73) (.tmp 81) 29 rfl 0 108 iP _ 2 24 Try.underlying29 HI.out.1 HI.out.2.1 HI.out.2.2.1 HI.out.2.2.2 rfl (by decide) (.slice a'.wa W.length a'.wc) W.length (pcells W) rfl (ownD_later hwr6.out (by repeat (first | with_reducible exact Below.refl _ _ | with_reducible refine balloc ?_ _ | with_reducible refine bdrew ?_ | with_reducible refine bset' ?_ (by omega) _ | with_reducible refine bthen ?_ (by assumption)))) ⟨w6.heap.size, 0, none⟩ 1 1 [.int .i64 P, .string s] rfl rfl (fun i u hi => newRowAt rfl _ _ i u hi) (by simp [Value.oneCell']) (by omega) (by have := HWB.out; unfold maxLen; omega) (by have := HWB.out; omega) (Nat.zero_le _) ?_
      intro v7 w7 hown7 hg7 hv7
      have hO7 : Only (fun k => ∃ p, a'.wa = some p ∧ k = p.block) (w6.alloc (.cells #[.int .i64 P, .string s] 108)).drew w7 := ⟨hg7.os, hg7.tape, hg7.output, hg7.size, fun k hk hn => hg7.block k hk (fun e => hn (ownBlock_slice.1 e.symm))⟩
      obtain ⟨x7, c7, e7, hst7⟩ := HS6.out.dev.rewaits (w2 := (w6.alloc (.cells #[.int .i64 P, .string s] 108)).drew) (by repeat (first | with_reducible exact Below.refl _ _ | with_reducible refine balloc ?_ _ | with_reducible refine bdrew ?_ | with_reducible refine bset' ?_ (by omega) _ | with_reducible refine bthen ?_ (by assumption))) (W ++ [⟨P, s⟩]) (fun x hx => by rcases List.mem_append.1 hx with hx' | hx'; exact HFIN.out x hx'; (rw [List.mem_singleton.1 hx']; exact hP32)) (by rw [pcells_snoc, List.length_append]; exact hown7) hO7 (fun g hg => by
        rcases hv7 with hv | hv
        · rw [hv] at hg; exact Or.inl (ownBlock_slice.1 hg)
        · rw [hv] at hg; exact Or.inr (Nat.le_of_eq (Option.some.inj hg)))
      subst e7
      have HS8 := hidT (HS6.out.trans hst7)
      have l7 : LS w7 (w.heap.size + 1) b 64 (.slice a'.wa W.length a'.wc) (some ⟨db, do', none⟩) r.data.length r.dc db (do' + j) s := by
        have l6 := LS.later (w := w6) HS.out (w' := (w6.alloc (.cells #[.int .i64 P, .string s] 108)).drew) (by repeat (first | with_reducible exact Below.refl _ _ | with_reducible refine balloc ?_ _ | with_reducible refine bdrew ?_ | with_reducible refine bset' ?_ (by omega) _ | with_reducible refine bthen ?_ (by assumption)))
        have rOff : r.Off (a'.foot b) := Rq.Off.step HAT5.out HO2.out.off HS6.out.foot
        have hne : r.data ≠ [] := fun e => by rw [e] at hjd; exact absurd hjd (Nat.not_lt_zero _)
        have nq : ¬ ∃ p, a'.wa = some p ∧ w.heap.size + 1 = p.block := fun e => by
          rcases HS6.out.foot (w.heap.size + 1) (Or.inr e) with h' | h'
          · exact HO2.out.nf _ (by omega) h'
          · omega
        have nb : ¬ ∃ p, a'.wa = some p ∧ b = p.block := fun ⟨p, hp, e⟩ => HS6.out.dev.sepw p hp e.symm
        have nd : ¬ ∃ p, a'.wa = some p ∧ db = p.block := fun e => rOff.1 hne _ HDA.out (Or.inr e)
        exact ⟨(hO7.cell (p := ⟨w.heap.size + 1, 3, none⟩) (lt_of_cell l6.1) nq).trans l6.1, (hO7.cell (p := ⟨db, do' + j, none⟩) (lt_of_cell l6.2.1) nd).trans l6.2.1, Nat.lt_of_lt_of_le l6.2.2.1 hO7.size, (hO7.cell (p := ⟨b, 64, none⟩) l6.2.2.1 nb).trans l6.2.2.2.1, (hO7.frozen (p := ⟨b, 64, none⟩) l6.2.2.1 nb).trans l6.2.2.2.2⟩
      have HS7 := hidT l7
      clear hown7 hg7 hv7 hO7 hst7 l7
      refine hK _ _ (fun _ => HS7.out) ?_
      (try simp only [Act.put, List.getElem_toArray, List.getElem_cons_succ, List.getElem_cons_zero, List.setIfInBounds_toArray, List.set_cons_zero, List.set_cons_succ])
      clear hK
      refine till_one (i := 14) rfl (by kernel_rfl) ?_; intro K hK; go_simp; refine hK _ _ (fun _ => HS7.out) ?_; (try simp only [Act.put, List.getElem_toArray, List.getElem_cons_succ, List.getElem_cons_zero, List.setIfInBounds_toArray, List.set_cons_zero, List.set_cons_succ]); clear hK
      refine till_one (i := 15) rfl (by kernel_rfl) ?_; intro K hK; go_simp; refine hK _ _ (fun _ => HS7.out) ?_; (try simp only [Act.put, List.getElem_toArray, List.getElem_cons_succ, List.getElem_cons_zero, List.setIfInBounds_toArray, List.set_cons_zero, List.set_cons_succ]); clear hK
      obtain ⟨-, -, s2, s3, s4⟩ := id HS7.out
      refine till_one (i := 16) rfl (by kernel_rfl) ?_; intro K hK; go_simp; refine hK _ _ (fun h => absurd rfl h) ?_; (try simp only [Act.put, List.getElem_toArray, List.getElem_cons_succ, List.getElem_cons_zero, List.setIfInBounds_toArray, List.set_cons_zero, List.set_cons_succ]); clear hK; refine till_done (by kernel_rfl) ?_ _
      go_wp2
      go_roundw
      case rel =>
        have e1 : d1.writesTo r (j + 1) = { { d1.writesTo r j with now := (d1.writesTo r j).now.set P s } with waits := W ++ [⟨P, s⟩] } := by
          rw [Rd.writesTo_succ, HQ.out.2.2.1, ← HPF.out, ← HSS.out, ← HN.out]
          rfl
        refine ⟨j + 1, { a' with wa := x7, wc := c7 }, by omega, by go_num, ?_, HLA.out, ?_⟩
        · rw [e1]
          show (W ++ [(⟨P, s⟩ : Pu)]).length = _
          rw [List.length_append, List.length_singleton]
          have := HWJ.out
          omega
        · rw [e1]
          have := HS8.out
          rw [List.length_append, List.length_singleton] at this
          exact this
      case measure => simp [intOf]; omega
    · have hjM : j = M := by omega
      subst hjM
      have hre := HR5.out.only HS2.out.only (HO2.out.nf _ (by omega))
      have hze := HZ5.out.only HS2.out.only (HO2.out.nf _ (Nat.le_refl _))
      obtain ⟨⟨y0, y1, y2, y3, y4, y5, y6, y7⟩, -, yl⟩ := hre
      have HZE := hidT hze
      have hnf : ¬ a'.foot b w.heap.size := fun e => by
        rcases HS2.out.foot _ e with h' | h'
        · exact HO2.out.nf _ (Nat.le_refl _) h'
        · omega
      have HNF := hidT hnf
      have HSE := hidT (HD5.out.trans HS2.out)
      have HBY : Hid ((d1.writesTo r j).busy = d.busy.eraseIdx k) := by show _ = _; rw [Rd.writesTo_busy, HD1.out]
      clear hze x0 x1 x3 x4 x5 hnf
      go_wp2_with (refine wpList_store_res rfl (.tmp 6) (.tmp 96) rfl w.heap.size r none 0 0 0 rfl rfl (zero_there HZE.out) (fun wK => RStep b d a (d1.writesTo r j) a' w wK ∧ ResBoxF wK w.heap.size r none 0 0 0) ⟨HSE.out.other (set8_only _ w.heap.size _ _ _ _ _ _ _ _) (Nat.le_refl _) HNF.out (fun _ p hp => by rw [HLA.out] at hp; have := HO2.out.nl p hp; omega) (by rw [HBY.out]; exact HO2.out.nr HD.out _ (Nat.le_refl _)), set8_res (zero_there HZE.out) HZE.out.2.2⟩ ?_; rintro w9 ⟨hs9, ⟨z0, z1, z2, z3, z4, z5, z6, z7⟩, -, -⟩; have HS9 := hidT hs9; clear hs9)
      refine bodyPost_ret (v := .tuple #[resV r none 0 0 0, .int .i64 0]) (by simp [results, Try.results17, go_sem, z0, z1, z2, z3, z4, z5, z6, z7]) rfl ⟨a', rfl, ?_⟩
      rw [HQ.out.2.2.2, ← HD1.out]
      exact HS9.out
end Go.Proofs.Ythmeaclekedilac
