/- slices.Insert of one sector, in the midst: in place. -/
import Derived.Test.YtpmjgofjdejeeacCache8
namespace Go.Proofs.Ytpmjgofjdejeeac
open Go.RowKit Go.BigFrame
attribute [local go_sem] Later.cell Later.frozen

theorem overB (vb b o lb cb : Nat) (w : World) (X cur : List Value) (tv tr : TypeId) (hne : vb ≠ b) (hv : w.heap[vb]? = some (.cells X.toArray tv (0, 0))) (hg : w.heap[b]? = some (.cells cur.toArray tr (0, 0))) (h0 : cur.length ≠ 0) :
    (callFunc 82 #[.slice (some ⟨vb, 0, none⟩) 1 1, .slice (some ⟨b, o, none⟩) lb cb]).run Try.prog w = .ok (.value (.bool false)) w := by
  rw [run_callFunc_extern Try.func82 (by kernel_rfl) (by kernel_rfl) (by kernel_rfl) (e := Extern.SlicesOverlaps.overlaps #[70, 70] #[4]) (by kernel_rfl),
    Lib.run_overlaps_apart w 70 4 72 Try.underlying70 4 Try.sizeOf72 ⟨vb, 0, none⟩ ⟨b, o, none⟩ 1 1 lb cb hne tv tr X.length cur.length (by simp [World.shape?, hv]) (by simp [World.shape?, hg]) h0 (by simp [World.frozen?, hv]) (by simp [World.frozen?, hv])]
  rfl

theorem sliceB_more (b n c : Nat) (w : World) (hroom : n + 1 ≤ c) : (Instr.slice 70 (.slice (some ⟨b, 0, none⟩) n c) none (some (.int .i64 ((n : Int) + 1))) none).run Try.prog w = .ok (.slice (some ⟨b, 0, none⟩) (n + 1) c) w := by
  have h1 : (0 : Int) ≤ (n : Int) + 1 := by omega
  have h2 : (n : Int) + 1 ≤ (c : Int) := by omega
  have h3 : ((n : Int) + 1).toNat = n + 1 := by omega
  simp [go_sem, h1, h2, h3]
theorem sliceB_at (b n c i : Nat) (w : World) (hlt : i < n) (hcap : n ≤ c) : (Instr.slice 70 (.slice (some ⟨b, 0, none⟩) n c) (some (.int .i64 (i : Int))) none none).run Try.prog w = .ok (.slice (some ⟨b, i * 4, none⟩) (n - i) (c - i)) w := by
  have h1 : i ≤ n := by omega
  have h2 : ¬ c = i := by omega
  simp [go_sem, h1, h2]

set_option maxRecDepth 100000 in
set_option maxHeartbeats 2000000 in
theorem insB_shift (b n c i vb : Nat) (cur xs X : List Value) (tv : TypeId) (base : Nat) (w : World) (hbb : base ≤ b) (hne : vb ≠ b) (hg : w.heap[b]? = some (.cells cur.toArray 72 (0, 0))) (hcl : cur.length = c * 4) (hi : i < n) (hroom : n + 1 ≤ c) (hcm : c ≤ 9223372036854775807)
    (hxl : xs.length = (n - i) * 4) (hx : ∀ j v, xs[j]? = some v → cur[i * 4 + j]? = some v) (h1 : ∀ v ∈ xs, v.oneCell' = true) (hv : w.heap[vb]? = some (.cells X.toArray tv (0, 0))) (hXl : X.length = 4) (hX1 : ∀ v ∈ X, v.oneCell' = true) :
    Calls Try.prog 70 #[.slice (some ⟨b, 0, none⟩) n c, .int .i64 i, .slice (some ⟨vb, 0, none⟩) 1 1] w fun e w' =>
      e = .returned (.slice (some ⟨b, 0, none⟩) (n + 1) c) ∧ w'.heap[b]? = some (.cells (splice (splice cur ((i + 1) * 4) xs) (i * 4) X).toArray 72 (0, 0)) ∧ Below base w w' := by
  have q1 : ¬ ((i : Int) = (n : Int)) := by omega
  have q2 : ¬ ((c : Int) < (n : Int) + 1) := by omega
  have hwr : IntKind.i64.wrap ((n : Int) + 1) = (n : Int) + 1 := by rw [IntKind.wrap_i64]; omega
  have hwi : IntKind.i64.wrap ((i : Int) + 1) = (i : Int) + 1 := by rw [IntKind.wrap_i64]; omega
  have hov := fun o lb cb => overB vb b o lb cb w X cur tv 72 hne hv hg (by omega)
  have hs1 := fun w => sliceB_more b n c w hroom
  have hs2 := fun w => sliceB_from b (n + 1) c i w (by omega) (by omega)
  have hs3 := fun w => sliceB_at b (n + 1) c i w (by omega) hroom
  have hs4 := fun w => sliceB_at b n c i w hi (by omega)
  have e1 : cur.length = c * 4 ∧ xs.length = (n - i) * 4 ∧ X.length = 4 := ⟨hcl, hxl, hXl⟩
  have HE := hidB e1
  have HX := hidB hx
  have HG := hidB hg
  have H1 := hidB h1
  have HV := hidB hv
  have HX1 := hidB hX1
  have HM : Hid (Nat.min (n + 1 - i) (n + 1 - (i + 1)) = n - i) := (by show Nat.min (n + 1 - i) (n + 1 - (i + 1)) = n - i; simp only [Nat.min_def]; split <;> omega)
  have HM2 : Hid (Nat.min 1 (n + 1 - i) = 1) := (by show Nat.min 1 (n + 1 - i) = 1; simp only [Nat.min_def]; split <;> omega)
  clear e1 hcl hx hxl hg h1 hv hXl hX1
  go_enter Try.func70, Try.ntmps70
  go_wp2_with fail
  go_region_law (refine step_copy_sp rfl (.tmp 73) (.tmp 76) 70 70 rfl 72 4 Try.underlying70 sizeB (some ⟨b, (i + 1) * 4, none⟩) (some ⟨b, i * 4, none⟩) (n + 1 - (i + 1)) (c - (i + 1)) (n + 1 - i) (c - i) (by simp [Act.eval, Act.put]) (by simp [Act.eval, Act.put]) b ((i + 1) * 4) cur 72 xs HG.out (by rw [HE.out.2.1, HM.out]) (fun _ => ⟨rfl, _, rfl, fun j v hj => cell_row HG.out _ _ _ (HX.out j v hj)⟩) (by rw [HE.out.1, HE.out.2.1]; omega) H1.out base hbb ?_; intro w1 n1 G1 hb1 K1)
  have HV1 : Hid (w1.heap[vb]? = some (.cells X.toArray tv (0, 0))) := (K1.out vb hne).trans HV.out
  have HS : Hid ((splice cur ((i + 1) * 4) xs).length = c * 4) := (by show _ = _; rw [length_splice _ _ _ (by rw [HE.out.1, HE.out.2.1]; omega), HE.out.1])
  obtain ⟨w2, hcp, G2, hb2, K2⟩ := run_copy_sp (P := Try.prog) w1 70 70 3 72 4 (some ⟨b, i * 4, none⟩) (some ⟨vb, 0, none⟩) (n + 1 - i) (c - i) 1 1 b (i * 4) _ 72 X Try.underlying70 sizeB G1.out (by rw [HE.out.2.2, HM2.out]) (fun _ => ⟨rfl, _, rfl, fun j v hj => cell_row HV1.out _ _ _ (by simpa using hj)⟩) (by rw [HS.out, HE.out.2.2]; omega) HX1.out
  have HG2 := hidB G2
  have HB2 := hidB (hb2 base hbb)
  clear G2 hb2 K2
  go_wp2
  go_ret
  exact ⟨rfl, HG2.out, ((Below.refl _ _).drew.trans hb1).trans HB2.out⟩
end Go.Proofs.Ytpmjgofjdejeeac
