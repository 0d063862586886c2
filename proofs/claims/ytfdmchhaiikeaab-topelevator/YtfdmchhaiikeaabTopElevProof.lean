/- The one that is next is there, of the kind whose turn it is, and never more than Batch go in one turn: TopElevator answers true for all requests that wait and every moment. No condition. -/
import Derived.Test.YtfdmchhaiikeaabRows
import Derived.Test.YtfdmchhaiikeaabOpenReq
import Derived.Test.YtfdmchhaiikeaabTopElev
namespace Go.Proofs.Ytfdmchhaiikeaab
open Go.ChangeShapes Go.WideShapes Go.ChangeAt Go.RowKit

theorem topElevator_walk (l : List Rq) (a : Option Addr) (c : Nat) (now : Int) (w : World) (hl : ReqsAt w a l ∧ l.length ≤ c ∧ c ≤ 9223372036854775807 ∧ (a = none → c = 0)) (_hn : In64 now) :
    Calls Try.prog 6 #[.slice a l.length c, .int .i64 now] w fun e w' => e = .returned (.bool true) ∧ Below w.heap.size w w' := by
  cases h : lightsB l
  · exact te_light l a c now w hl.1 h
  · cases h2 : goodsB l
    · exact te_good l a c now w hl.1 h h2
    · by_cases h4 : 0 ≤ now ∧ now ≤ 1000000000
      · exact te_main l a c now w hl.1 hl.2.1 h h2 h4.1 h4.2
      · exact te_bad l a c now w hl.1 h h2 (by omega)

set_option maxRecDepth 100000 in
theorem topElevator_lifted (os : Os) (started : os.Started) (H : Type) (enc : TypeId × Value → H) :
    ReturnsInHanded {} Try.checked os 6 .any (Rows.topElevatorSpec.pre6 enc Try.prog Try.f6 Rows.topElevatorRow.domain false) (Rows.topElevatorSpec.post enc Try.prog Try.f6 false true false false) := by
  refine returnsInHanded_of_change (C := Try.checked) own started (by kernel_rfl) Try.func6
    (ChangeSpec.witness6 (enc := enc) (C := Try.checked) false ⟨#[], #[.slice none 0 0, .int .i64 0], []⟩ 8 (by kernel_rfl) (by kernel_rfl) (by kernel_rfl) (by kernel_rfl)) ?_
  intro W base args ds gs before hval0 hW hcnd _
  have hval : ∀ (j : Nat) t v, Try.f6.params[j]? = some t → args[j]? = some v → Value.okWide Try.prog W .any base t v := hval0
  have hW' := hW
  obtain ⟨p, q, hA0, hV, rfl, hfz, hnd⟩ := hW
  have hA : DataW.TrodAll enc Try.prog W 0 (fun _ => true) true Try.f6.params.toList args.toList ds p := hA0
  rw [Try.params6] at hA hval
  obtain ⟨v0, vs0, d0, ds0, p0, q0, hargs, rfl, rfl, h0, r0⟩ := trodAll_cons hA
  obtain ⟨v1, vs1, d1, ds1, p1, q1, rfl, rfl, rfl, h1, r1⟩ := trodAll_cons r0
  obtain ⟨rfl, rfl, rfl⟩ := trodAll_nil r1
  obtain rfl : args = #[v0, v1] := by cases args; simp_all
  obtain ⟨rfl, rfl⟩ := trodVars_none hV
  have lt0 : ∀ x ∈ p0, x.block < W.heap.size := by obtain ⟨m, hm⟩ := h0; exact DataW.trod_lt m _ _ _ hm
  obtain ⟨l0, a0, c0, e0, g0⟩ := openReqsC (hval 0 38 v0 rfl rfl) h0
  subst e0
  have lt1 : ∀ x ∈ p1, x.block < W.heap.size := by obtain ⟨m, hm⟩ := h1; exact DataW.trod_lt m _ _ _ hm
  obtain ⟨x1, e1, g1⟩ := openInt (hval 1 3 v1 rfl rfl) h1
  subst e1
  clear hA0 hval0
  refine (topElevator_walk l0 a0 c0 x1 W g0 g1).mono fun e W' ⟨he, bel⟩ => ?_
  subst he
  exact ⟨_, rfl, _, _, _, [], _, [], hW', trodAll_mk1 (shut_bool Try.underlying4 _), (trodAll_cons_mk (Below.trod laidOut (by kernel_rfl) (of_decide_eq_true (by kernel_rfl)) h0 bel lt0) (trodAll_cons_mk (Below.trod laidOut (by kernel_rfl) (of_decide_eq_true (by kernel_rfl)) h1 bel lt1) trodAll_mk0)), rfl, bel.frame _, fun h => by cases h⟩

/-- THE STATEMENT. -/
theorem topElevator_holds : Rows.TopElevatorSaid :=
  OpenClaim.holds_of_wide 6 Try.f6 rfl rfl rfl rfl rfl rfl rfl ⟨rfl, rfl, rfl, rfl, rfl⟩ rfl rfl rfl rfl rfl (by kernel_rfl) Try.func6 (by kernel_rfl)
    (of_decide_eq_true (by kernel_rfl)) (by unfold Func.isWrapper; first | (rw [if_pos (by decide +kernel)]; kernel_rfl) | (rw [if_neg (by decide +kernel)]; exact ⟨rfl, rfl⟩))
    (fun os started H enc _ => topElevator_lifted os started H enc)
#print axioms topElevator_holds
end Go.Proofs.Ytfdmchhaiikeaab
