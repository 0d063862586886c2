/- A span that may be has just as many sectors as it says, its first one among them, and not the one ahead of it: TopSpan answers true for all spans. No condition. -/
import Derived.Test.YtigjmhnmjhhmmabRows
import Derived.Test.YtigjmhnmjhhmmabOpen
import Derived.Test.YtigjmhnmjhhmmabTopSpan
namespace Go.Proofs.Ytigjmhnmjhhmmab
open Go.ChangeShapes Go.WideShapes Go.ChangeAt Go.RowKit

theorem topSpan_walk (f m : Int) (w : World) (_h0 : In64 f ∧ In64 m) :
    Calls Try.prog 3 #[.agg #[.int .i64 f, .int .i64 m]] w fun e w' => e = .returned (.bool true) ∧ Below w.heap.size w w' := by
  cases h : okB f m 32
  · exact ts_bad f m w h
  · have h' := h
    simp only [okB, decide_eq_true_eq] at h'
    exact ts_good f m w h (by rw [hasB_ok f m 32 f h (by omega)]; simp only [inSpan, decide_eq_true_eq]; omega) (by rw [hasB_ok f m 32 (f - 1) h (by omega)]; simp only [inSpan, decide_eq_false_iff_not]; omega)

set_option maxRecDepth 100000 in
theorem topSpan_lifted (os : Os) (started : os.Started) (H : Type) (enc : TypeId × Value → H) :
    ReturnsInHanded {} Try.checked os 3 .any (Rows.topSpanSpec.pre6 enc Try.prog Try.f3 Rows.topSpanRow.domain false) (Rows.topSpanSpec.post enc Try.prog Try.f3 false true false false) := by
  refine returnsInHanded_of_change (C := Try.checked) own started (by kernel_rfl) Try.func3
    (ChangeSpec.witness6 (enc := enc) (C := Try.checked) false ⟨#[], #[.agg #[.int .i64 0, .int .i64 0]], []⟩ 8 (by kernel_rfl) (by kernel_rfl) (by kernel_rfl) (by kernel_rfl)) ?_
  intro W base args ds gs before hval0 hW hcnd _
  have hval : ∀ (j : Nat) t v, Try.f3.params[j]? = some t → args[j]? = some v → Value.okWide Try.prog W .any base t v := hval0
  have hW' := hW
  obtain ⟨p, q, hA0, hV, rfl, hfz, hnd⟩ := hW
  have hA : DataW.TrodAll enc Try.prog W 0 (fun _ => true) true Try.f3.params.toList args.toList ds p := hA0
  rw [Try.params3] at hA hval
  obtain ⟨v0, vs0, d0, ds0, p0, q0, hargs, rfl, rfl, h0, r0⟩ := trodAll_cons hA
  obtain ⟨rfl, rfl, rfl⟩ := trodAll_nil r0
  obtain rfl : args = #[v0] := by cases args; simp_all
  obtain ⟨rfl, rfl⟩ := trodVars_none hV
  have lt0 : ∀ x ∈ p0, x.block < W.heap.size := by obtain ⟨m, hm⟩ := h0; exact DataW.trod_lt m _ _ _ hm
  obtain ⟨f0, m0, e0, g0⟩ := openSpan (hval 0 23 v0 rfl rfl) h0
  subst e0
  clear hA0 hval0
  refine (topSpan_walk f0 m0 W g0).mono fun e W' ⟨he, bel⟩ => ?_
  subst he
  exact ⟨_, rfl, _, _, _, [], _, [], hW', trodAll_mk1 (shut_bool Try.underlying4 _), (trodAll_cons_mk (Below.trod laidOut (by kernel_rfl) (of_decide_eq_true (by kernel_rfl)) h0 bel lt0) trodAll_mk0), rfl, bel.frame _, fun h => by cases h⟩

/-- THE STATEMENT. -/
theorem topSpan_holds : Rows.TopSpanSaid :=
  OpenClaim.holds_of_wide 3 Try.f3 rfl rfl rfl rfl rfl rfl rfl ⟨rfl, rfl, rfl, rfl, rfl⟩ rfl rfl rfl rfl rfl (by kernel_rfl) Try.func3 (by kernel_rfl)
    (of_decide_eq_true (by kernel_rfl)) (by unfold Func.isWrapper; first | (rw [if_pos (by decide +kernel)]; kernel_rfl) | (rw [if_neg (by decide +kernel)]; exact ⟨rfl, rfl⟩))
    (fun os started H enc _ => topSpan_lifted os started H enc)
#print axioms topSpan_holds
end Go.Proofs.Ytigjmhnmjhhmmab
