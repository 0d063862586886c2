/- A device: do: a request that writes. -/
import Derived.Test.YthmeaclekedilacDev7
namespace Go.Proofs.Ythmeaclekedilac
open Go.RowKit Go.BigFrame
attribute [local go_sem] Later.cell Later.frozen

def Dl.writesTo (d : Dl) (r : Rq) (n : Nat) : Dl := (List.range n).foldl (fun d j => d.write (r.f.toNat + j) (r.data.getD j ByteArray.empty)) d
theorem Dl.writesTo_succ (d : Dl) (r : Rq) (n : Nat) : d.writesTo r (n + 1) = (d.writesTo r n).write (r.f.toNat + n) (r.data.getD n ByteArray.empty) := by simp [Dl.writesTo, List.range_succ]
theorem DStep.later {b : Nat} {d d' : Dl} {a a' : An} {w w' w'' : World} (h : DStep b d a d' a' w w') (hb : Below w'.heap.size w' w'') : DStep b d a d' a' w w'' := ⟨h.dev.later hb, h.only.later hb, h.foot⟩
theorem DStep.same {b : Nat} {d : Dl} {a : An} {w w' : World} (h : DevAt b d a w) (hb : Below w.heap.size w w') : DStep b d a d a w w' := ⟨h.later hb, Only.of_below hb, fun _ hk => Or.inl hk⟩
/-- A request in a block of its own. -/
def BoxAt (w : World) (q : Nat) (r : Rq) : Prop := w.cell? ⟨q, 0, none⟩ = some (.bool r.wr) ∧ w.cell? ⟨q, 1, none⟩ = some (.int .i64 r.f) ∧ w.cell? ⟨q, 2, none⟩ = some (.int .i64 r.m) ∧ w.cell? ⟨q, 3, none⟩ = some (.slice r.da r.data.length r.dc) ∧ w.cell? ⟨q, 4, none⟩ = some (.slice r.ta r.tags.length r.tc) ∧ w.cell? ⟨q, 5, none⟩ = some (.int .i64 r.born)
theorem BoxAt.only {F : Nat → Prop} {w w' : World} {q : Nat} {r : Rq} (h : BoxAt w q r) (hO : Only F w w') (hn : ¬ F q) : BoxAt w' q r := by
  obtain ⟨h0, h1, h2, h3, h4, h5⟩ := h
  have hl := lt_of_cell h0
  exact ⟨(hO.cell (p := ⟨q, 0, none⟩) hl hn).trans h0, (hO.cell (p := ⟨q, 1, none⟩) hl hn).trans h1, (hO.cell (p := ⟨q, 2, none⟩) hl hn).trans h2, (hO.cell (p := ⟨q, 3, none⟩) hl hn).trans h3, (hO.cell (p := ⟨q, 4, none⟩) hl hn).trans h4, (hO.cell (p := ⟨q, 5, none⟩) hl hn).trans h5⟩
theorem BoxAt.later {w w' : World} {q : Nat} {r : Rq} (h : BoxAt w q r) (hb : Below w.heap.size w w') : BoxAt w' q r := h.only (F := fun _ => False) (Only.of_below hb) (fun e => e)
theorem box_new (w : World) (T : TypeId) (r : Rq) : BoxAt (w.alloc (.cells #[.bool r.wr, .int .i64 r.f, .int .i64 r.m, .slice r.da r.data.length r.dc, .slice r.ta r.tags.length r.tc, .int .i64 r.born] T)) w.heap.size r := by
  refine ⟨?_, ?_, ?_, ?_, ?_, ?_⟩ <;> simp

set_option maxRecDepth 100000 in
set_option maxHeartbeats 2000000 in
theorem do_write (b : Nat) (d : Dl) (a : An) (r : Rq) (w : World) (h : DevAt b d a w) (gr : Good r) (hw : r.wr = true) (hr : r.At w) (ho : r.Off (a.foot b)) :
    Calls Try.prog 57 #[.pointer (some ⟨b, 0, none⟩), r.val] w fun e w' => ∃ a', e = .returned (.slice none 0 0) ∧ DStep b d a (d.writesTo r r.m.toNat) a' w w' := by
  have HB0 := hidT gr.bndD
  have HHAS := hidT (has_in r gr)
  have hdl : (r.data.length : Int) = r.m := by
    have := gr.shape
    simp only [shapeB, hw, if_true, decide_eq_true_eq] at this
    exact this
  have HDL := hidT hdl
  have HD := hidT h
  have hl := h.lt
  have hB1 := below1 w (.cells #[.bool r.wr, .int .i64 r.f, .int .i64 r.m, .slice r.da r.data.length r.dc, .slice r.ta r.tags.length r.tc, .int .i64 r.born] 38)
  have hX := box_new w 38 r
  have HR := hidT (hr.later hB1)
  have HO := hidT ho
  have HW := hidT hw
  clear h gr hdl hr ho hw
  go_enter Try.func57, Try.ntmps57
  go_wp2_with fail
  generalize hW1 : w.alloc (.cells #[.bool r.wr, .int .i64 r.f, .int .i64 r.m, .slice r.da r.data.length r.dc, .slice r.ta r.tags.length r.tc, .int .i64 r.born] 38) = w1 at *
  have hs1 : w1.heap.size = w.heap.size + 1 := by rw [← hW1]; simp
  have HS1 := hidT hs1
  have HX := hidT hX
  have HB1 := hidT hB1
  clear hW1 hs1 hX hB1
  go_loopw [5, 9] (fun v i wr => ∃ (k : Nat) (a' : An), k ≤ 32 ∧ i = .int .i64 k ∧ v = .slice none 0 0 ∧ DStep b d a (d.writesTo r (below r.f.toNat r.m.toNat k)) a' w1 wr) (fun _ i _ => 32 - (intOf i).toNat)
  case atStart => exact ⟨0, a, by omega, rfl, rfl, by simpa [below, Dl.writesTo] using DStep.same (HD.out.later HB1.out) (Below.refl _ _)⟩
  case round =>
    obtain ⟨k, a', hk, rfl, rfl, hst⟩ := hrel
    have HST := hidT hst
    have nq : ¬ a.foot b w.heap.size := fun e => by have := HD.out.footLt _ e; omega
    have hbx := HX.out.only HST.out.only nq
    have hra := hidT (HR.out.frame HO.out HST.out.only)
    clear hst nq
    by_cases hlt : k < 32
    · have hhs := HHAS.out k hlt
      have hlt' : (k : Int) < 32 := by omega
      obtain ⟨b1, b2, b3, b4, b5⟩ := HB0.out
      by_cases hin : r.f.toNat ≤ k ∧ k < r.f.toNat + r.m.toNat
      · rw [decide_eq_true hin] at hhs
        obtain ⟨e1, e2⟩ := below_in hin.1 hin.2
        have HE := hidT (⟨e1, e2⟩ : _ ∧ _)
        have hwp : wrap64 ((k : Int) - r.f) = ((below r.f.toNat r.m.toNat k : Nat) : Int) := by unfold wrap64; omega
        have hjl : below r.f.toNat r.m.toNat k < r.data.length := by have := HDL.out; omega
        have HWP := hidT hwp
        have HHS := hidT hhs
        obtain ⟨x0, x1, x2, x3, x4, x5⟩ := id hbx
        have lx := lt_of_cell x0
        rw [HW.out] at x0
        clear e1 e2 hin hwp b1 b2 b3 b4 b5 hhs
        go_wp2_with fail
        refine (has_eq _ _ _ _ _ HHS.out).mono ?_
        rintro e w2 ⟨rfl, hb2⟩
        obtain ⟨y0, y1, y2, y3, y4, y5⟩ := hbx.later hb2
        rw [HW.out] at y0
        clear x0 x1 x2 x3 x4 x5
        go_wp2_with fail
        refine (part_in { r with wr := true } r.data r.da r.dc 0 k _ (hra.out.data.later hb2) HHS.out _ HWP.out hjl _ rfl).mono ?_
        rintro e w3 ⟨rfl, hb3⟩
        have hst3 := hidT ((HST.out.later hb2).later hb3)
        go_wp2_with fail
        refine (write_any b _ a' k _ _ hst3.out.dev hlt).mono ?_
        rintro e w4 ⟨a4, rfl, hst4⟩
        have HST4 := hidT (hst3.out.trans hst4)
        clear hst4 hb2 hb3 y0 y1 y2 y3 y4 y5 hra hbx
        go_wp2
        go_roundw
        case rel =>
          refine ⟨k + 1, a4, by omega, by go_num, rfl, ?_⟩
          rw [HE.out.1, Dl.writesTo_succ, HE.out.2, List.getD_eq_getElem?_getD, List.getElem?_eq_getElem hjl, Option.getD_some]
          exact HST4.out
        case measure => simp [intOf]; omega
      · rw [decide_eq_false hin] at hhs
        have HE := hidT (below_out hin)
        have HHS := hidT hhs
        obtain ⟨x0, x1, x2, x3, x4, x5⟩ := id hbx
        clear hin b1 b2 b3 b4 b5 hhs
        go_wp2_with fail
        refine (has_eq _ _ _ _ _ HHS.out).mono ?_
        rintro e w2 ⟨rfl, hb2⟩
        have HST2 := hidT (HST.out.later hb2)
        clear hb2 x0 x1 x2 x3 x4 x5 hra hbx
        go_wp2
        go_roundw
        case rel => exact ⟨k + 1, a', by omega, by go_num, rfl, by rw [HE.out]; exact HST2.out⟩
        case measure => simp [intOf]; omega
    · have hk32 : k = 32 := by omega
      subst hk32
      obtain ⟨b1, b2, b3, b4, b5⟩ := HB0.out
      have hall : below r.f.toNat r.m.toNat 32 = r.m.toNat := below_all (by omega)
      rw [hall] at HST
      clear hall b1 b2 b3 b4 b5 hra hbx
      go_wp2
      go_ret
      exact ⟨a', rfl, (DStep.same HD.out HB1.out).trans HST.out⟩
end Go.Proofs.Ythmeaclekedilac
