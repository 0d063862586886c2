/- For all requests, what may be, goes together, is told and parted is what B1 to B3 say: RequestSays answers true, for every input. -/
import Derived.Test.YtpmjgofjdejeeaaDoorRows
import Derived.Test.YtpmjgofjdejeeaaDoorTie
import Derived.Test.YtpmjgofjdejeeaaDoorCards
import Derived.Test.YtpmjgofjdejeeaaDoorReqSays2
import Derived.Test.YtpmjgofjdejeeaaDoorOpenReq
import Derived.ProofKit
import Derived.LaidMore
import Derived.OpenShut
import Derived.Stop.Joined
import Derived.SevenTiedAt
namespace Go.Proofs.YtpmjgofjdejeeaaDoor
open Go.ChangeShapes Go.WideShapes Go.ChangeAt Go.WideMaps Go.WideElems Go.RowKit Go.Deep

section
variable {H : Type} {enc : TypeId × Value → H} {W : World} {base b0 fuel : Nat} {spare : Nat → Bool} {held : Bool} {r : Reach} {v : Value} {d : DataW H} {p : List MemPlace} {x : DataW H × List MemPlace} {cs : List Value}
theorem openInts64 (h : DataW.trod enc Tryd.prog W base spare held fuel 22 cs = some x) : ∃ a c xs, cs = [.slice a (List.length xs) c] ∧ IntsAt W a xs ∧ List.length xs ≤ 9223372036854775807 ∧ (a = none → c = 0) ∧ ∀ i, i < xs.length → In64 (xs.getD i 0) := by
  rcases open_ints Tryd.underlying22 Tryd.underlying3 cellsInt h with ⟨rfl, _⟩ | ⟨a, len, cap, zs, rfl, _, hl, hm, hz, _, hc, hw⟩
  · exact ⟨none, 0, [], rfl, Or.inl rfl, by simp, fun _ => rfl, fun i hi => absurd hi (Nat.not_lt_zero _)⟩
  · have hlm : len ≤ zs.length := by rw [hz]; split <;> omega
    refine ⟨some a, cap, zs.take len, by simp; omega, ?_, by simp; unfold maxLen at hm; omega, by simp, ?_⟩
    · rcases Nat.eq_zero_or_pos len with rfl | hp
      · exact Or.inl (by simp)
      · right
        have e := spot_none (hc 0 (by omega))
        refine ⟨a.block, a.off, by rw [← e], fun i hi => ?_⟩
        simp only [List.length_take] at hi
        have := hc i (by omega)
        rw [e, add_mk] at this
        rw [this]
        simp [List.getD, show i < len by omega]
    · intro i hi
      rw [List.getD_eq_getElem?_getD, List.getElem?_eq_getElem hi, Option.getD_some]
      exact in64 (hw _ (List.mem_of_mem_take (List.getElem_mem hi)))
theorem openReqCells64 (h : DataW.trod enc Tryd.prog W base spare held fuel 35 cs = some x) : ∃ q : Rq, cs = [q.cell 0, q.cell 1, q.cell 2, q.cell 3, q.cell 4, q.cell 5] ∧ q.At W ∧ Tags64 q := by
  obtain ⟨xs, n, _, _, hl, hlen, hf⟩ := DataW.trod_struct Tryd.underlying35 h
  rw [cellsReq] at hl
  obtain ⟨v0, v1, v2, v3, v4, v5, rfl⟩ := six hl
  have hlen' : xs.length = 5 := hlen
  obtain ⟨y0, f0⟩ := fieldAt hf 0 4 0 1 rfl cellsBool (by omega)
  obtain ⟨y1, f1⟩ := fieldAt hf 1 32 1 2 rfl cellsSpan (by omega)
  obtain ⟨y2, f2⟩ := fieldAt hf 2 33 3 1 rfl cellsStrs (by omega)
  obtain ⟨y3, f3⟩ := fieldAt hf 3 22 4 1 rfl cellsInts (by omega)
  obtain ⟨y4, f4⟩ := fieldAt hf 4 3 5 1 rfl cellsInt (by omega)
  obtain ⟨w, g0, _⟩ := DataW.trod_bool Tryd.underlying4 f0
  obtain ⟨zs, k, _, _, _, zlen, hz⟩ := DataW.trod_struct Tryd.underlying32 f1
  have zlen' : zs.length = 2 := zlen
  obtain ⟨z0, s0⟩ := fieldAt hz 0 3 0 1 rfl cellsInt (by omega)
  obtain ⟨z1, s1⟩ := fieldAt hz 1 3 1 1 rfl cellsInt (by omega)
  obtain ⟨f, g1, _, wf⟩ := DataW.trod_int Tryd.underlying3 s0
  obtain ⟨m, g2, _, wm⟩ := DataW.trod_int Tryd.underlying3 s1
  obtain ⟨da, dc, data, g3, hd, hd', hdn⟩ := openStrs f2
  obtain ⟨ta, tc, tags, g4, ht, ht', htn, h64⟩ := openInts64 f3
  obtain ⟨born, g5, _, wb⟩ := DataW.trod_int Tryd.underlying3 f4
  simp only [List.drop, List.take, List.cons.injEq, and_true] at g0 g1 g2 g3 g4 g5
  subst g0 g1 g2 g3 g4 g5
  exact ⟨⟨w, f, m, da, dc, data, ta, tc, tags, born⟩, rfl, ⟨hd, ht, hd', ht', in64 wf, in64 wm, in64 wb, hdn, htn⟩, h64⟩
theorem openReq64 (hv : Value.okWide Tryd.prog W r b0 35 v) (h : DataW.Trod enc Tryd.prog W base spare held 35 v d p) : ∃ q : Rq, v = q.val ∧ q.At W ∧ Tags64 q := by
  obtain ⟨cs, rfl, _⟩ := okWide_struct Tryd.underlying35 hv
  obtain ⟨fuel, hf⟩ := h
  obtain ⟨q, hq, hat, ht⟩ := openReqCells64 hf
  refine ⟨q, ?_, hat, ht⟩
  simp only [Value.cells] at hq
  have : cs = #[q.cell 0, q.cell 1, q.cell 2, q.cell 3, q.cell 4, q.cell 5] := by rw [← Array.toList_inj]; exact hq
  rw [this]; rfl
theorem openTexts (hv : Value.okWide Tryd.prog W r b0 33 v) (h : DataW.Trod enc Tryd.prog W base spare held 33 v d p) : ∃ (xs : List ByteArray) (a : Option Addr) (c : Nat), v = .slice a xs.length c ∧ StrsAt W a xs ∧ xs.length ≤ 9223372036854775807 := by
  obtain ⟨a, len, cap, rfl⟩ := okWide_slice Tryd.underlying33 hv
  obtain ⟨fuel, hf⟩ := h
  obtain ⟨a', c', xs, hcs, hs, hl, _⟩ := openStrs hf
  simp [Value.cells] at hcs
  obtain ⟨rfl, rfl, rfl⟩ := hcs
  exact ⟨xs, a, cap, rfl, hs, hl⟩
end

set_option maxRecDepth 100000 in
theorem door_met (os : Os) (args : Array Value) : laidMetH Tryd.prog Rows.requestSaysRow.laid ((World.doorLaid Tryd.prog 400 os).forCall (fun _ _ => 0) ⟨#[], args, []⟩).memory :=
  laidMetH_of_parts3 (fuel := 8) (laidMet_of_run' 8 (by kernel_rfl) (by kernel_rfl)) (by kernel_rfl) (by kernel_rfl)

set_option maxRecDepth 100000 in
theorem requestSays_lifted (os : Os) (started : os.Started) (H : Type) (enc : TypeId × Value → H) :
    ReturnsInHanded {} Tryd.checked os 4 .any (fun w args => (Rows.requestSaysSpec.pre enc Tryd.prog Tryd.f4 [] false w args ∧ laidMetH Tryd.prog Rows.requestSaysRow.laid w) ∧ sizedMet enc Tryd.prog Tryd.f4 (OpenSpec.ofChange Rows.requestSaysSpec) false w args)
      (Rows.requestSaysSpec.post enc Tryd.prog Tryd.f4 false true false false) := by
  refine returnsInHanded_of_change_and (C := Tryd.checked) (X := fun w _ => laidMetH Tryd.prog Rows.requestSaysRow.laid w) (fun _ _ _ hh h => h.of_heap hh) own started (by kernel_rfl) Tryd.func4
    (ChangeSpec.witness_shaped (enc := enc) (C := Tryd.checked) (os := os) (X := fun w _ => laidMetH Tryd.prog Rows.requestSaysRow.laid w) false (World.doorLaid Tryd.prog 400 os) #[.agg #[.bool false, .int .i64 0, .int .i64 0, .slice none 0 0, .slice none 0 0, .int .i64 0], .agg #[.bool false, .int .i64 0, .int .i64 0, .slice none 0 0, .slice none 0 0, .int .i64 0], .int .i64 0, .slice none 0 0] 8 rfl (World.shaped_of_RefB (by kernel_rfl) (by kernel_rfl)) (by kernel_rfl) (by kernel_rfl) (by kernel_rfl) (door_met os _)) ?_
  intro W base args ds gs before hval0 hW _ _ hL _
  have hval : ∀ (j : Nat) t v, Tryd.f4.params[j]? = some t → args[j]? = some v → Value.okWide Tryd.prog W .any base t v := hval0
  have hW' := hW
  obtain ⟨p, q, hA0, hV, rfl, hfz, hnd⟩ := hW
  have hA : DataW.TrodAll enc Tryd.prog W 0 (fun _ => true) true Tryd.f4.params.toList args.toList ds p := hA0
  rw [Tryd.params4] at hA hval
  obtain ⟨v0, vs0, d0, ds0, p0, q0, hargs, rfl, rfl, h0, r0⟩ := trodAll_cons hA
  obtain ⟨v1, vs1, d1, ds1, p1, q1, rfl, rfl, rfl, h1, r1⟩ := trodAll_cons r0
  obtain ⟨v2, vs2, d2, ds2, p2, q2, rfl, rfl, rfl, h2, r2⟩ := trodAll_cons r1
  obtain ⟨v3, vs3, d3, ds3, p3, q3, rfl, rfl, rfl, h3, r3⟩ := trodAll_cons r2
  obtain ⟨rfl, rfl, rfl⟩ := trodAll_nil r3
  obtain rfl : args = #[v0, v1, v2, v3] := by cases args; simp_all
  obtain ⟨rfl, rfl⟩ := trodVars_none hV
  have lt0 : ∀ x ∈ p0, x.block < W.heap.size := by obtain ⟨m, hm⟩ := h0; exact DataW.trod_lt m _ _ _ hm
  have lt1 : ∀ x ∈ p1, x.block < W.heap.size := by obtain ⟨m, hm⟩ := h1; exact DataW.trod_lt m _ _ _ hm
  have lt2 : ∀ x ∈ p2, x.block < W.heap.size := by obtain ⟨m, hm⟩ := h2; exact DataW.trod_lt m _ _ _ hm
  have lt3 : ∀ x ∈ p3, x.block < W.heap.size := by obtain ⟨m, hm⟩ := h3; exact DataW.trod_lt m _ _ _ hm
  obtain ⟨a, e0, ga, ta⟩ := openReq64 (hval 0 35 v0 rfl rfl) h0
  subst e0
  obtain ⟨b, e1, gb, tb⟩ := openReq64 (hval 1 35 v1 rfl rfl) h1
  subst e1
  obtain ⟨n, e2, gn⟩ := openInt (hval 2 3 v2 rfl rfl) h2
  subst e2
  obtain ⟨xs, xa, xc, e3, gx, gl⟩ := openTexts (hval 3 33 v3 rfl rfl) h3
  subst e3
  clear hA0 hval0
  refine (rs_walk a b n xs xa xc W ga gb ta gn gx gl).mono fun e W' ⟨he, bel⟩ => ?_
  subst he
  exact ⟨_, rfl, _, _, _, [], _, [], hW', trodAll_mk1 (shut_bool Tryd.underlying4 _), (trodAll_cons_mk (Below.trod laidOut (by kernel_rfl) (of_decide_eq_true (by kernel_rfl)) h0 bel lt0) (trodAll_cons_mk (Below.trod laidOut (by kernel_rfl) (of_decide_eq_true (by kernel_rfl)) h1 bel lt1) (trodAll_cons_mk (Below.trod laidOut (by kernel_rfl) (of_decide_eq_true (by kernel_rfl)) h2 bel lt2) (trodAll_cons_mk (Below.trod laidOut (by kernel_rfl) (of_decide_eq_true (by kernel_rfl)) h3 bel lt3) trodAll_mk0)))), rfl, bel.frame _, fun h => by cases h⟩

theorem requestSays_row_holds : Rows.RequestSaysSaid :=
  OpenClaim.holds_of_wide 4 Tryd.f4 rfl rfl rfl rfl rfl rfl rfl ⟨rfl, rfl, rfl, rfl, rfl⟩ rfl rfl rfl rfl rfl (by kernel_rfl) Tryd.func4 (by kernel_rfl)
    (of_decide_eq_true (by kernel_rfl)) (by unfold Func.isWrapper; first | (rw [if_pos (by decide +kernel)]; kernel_rfl) | (rw [if_neg (by decide +kernel)]; exact ⟨rfl, rfl⟩))
    (fun os started H enc _ => requestSays_lifted os started H enc)

/-- THE STATEMENT. -/
theorem requestSays_holds : Rows.RequestSaysCardSaid :=
  Claim7.holds_tied_plain_at .later [] [.data, .data, .data] true (true, "3ef352d697c19a5d5a0df4747c6e4096d69e40e160ea1b9a974cb192b8ee7315") true
    requestSays_row_holds (fun _ h => by cases h) (by kernel_rfl) (fun _ h => by cases h) requestSays_row_tie rfl ⟨rfl, rfl⟩ (by kernel_rfl) rfl
    (fun f fn hf hfn => by
      obtain rfl : f = 4 := Option.some.inj ((show Tryd.prog.funcNamed "weighbridge/weighbridgelaw.RequestSays" = some 4 by kernel_rfl).symm.trans hf) |>.symm
      obtain rfl : fn = Tryd.f4 := (Option.some.inj (Tryd.func4.symm.trans hfn)).symm
      exact ⟨by kernel_rfl, fun j t ht => by
        rw [Tryd.params4] at ht
        have hm : t ∈ [35, 35, 3, 33] := by simpa using Array.mem_of_getElem? ht
        have hall : ([35, 35, 3, 33].all fun u => !Tryd.prog.wantsStandIn u) = true := by kernel_rfl
        exact (show Tryd.prog.wantsStandIn t = false by simpa using List.all_eq_true.1 hall t hm)⟩)
    (by kernel_rfl)
#print axioms requestSays_holds
end Go.Proofs.YtpmjgofjdejeeaaDoor
