/- The reference's words of steps. -/
import Derived.Test.YtlhgjplipgandaaDoorScript9
namespace Go.Proofs.YtlhgjplipgandaaDoor
open Go.RowKit Go.BigFrame Go.Maps
attribute [local go_sem] Later.cell Later.frozen

theorem ne_list {s x : ByteArray} (h : ¬ s = x) : (s.toList == x.data.toList) = false := by
  rw [beq_eq_false_iff_ne, Lib.toList_data]
  intro e
  apply h
  cases s
  cases x
  congr 1
  exact Array.toList_inj.1 e
/-- Which parts a word's steps have, as a text. -/
def formL (n : Int) (b : Bool) : ByteArray := if n = 0 then ⟨#[]⟩ else if n = 1 then ⟨#[97]⟩ else if b = true then ⟨#[97, 98, 100]⟩ else ⟨#[97, 98]⟩
set_option maxRecDepth 100000 in
set_option maxHeartbeats 4000000 in
theorem formOf_any (s : ByteArray) (w : World) : Calls Tryd.prog 16 #[.string s] w fun e w' => e = .returned (.tuple #[.string (formL (partsOf s).1 (partsOf s).2), .bool (wordF s).isSome]) ∧ Below w.heap.size w w' := by
  have hno : (¬ s = swRead ∧ ¬ s = swWrite ∧ ¬ s = swSync ∧ ¬ s = swGot ∧ ¬ s = swEnd ∧ ¬ s = swFault ∧ ¬ s = swSettle ∧ ¬ s = swCrash ∧ ¬ s = swTick ∧ ¬ s = swClean ∧ ¬ s = swDispatch ∧ ¬ s = swRound ∧ ¬ s = swQueue ∧ ¬ s = swBusy ∧ ¬ s = swDirty) → wordF s = none := by
    rintro ⟨h1, h2, h3, h4, h5, h6, h7, h8, h9, h10, h11, h12, h13, h14, h15⟩
    unfold wordF
    simp only [h1, h2, h3, h4, h5, h6, h7, h8, h9, h10, h11, h12, h13, h14, h15, if_false]
  by_cases k1 : s = swRead
  · subst k1; have e1 : (Value.tuple #[.string (formL (partsOf swRead).1 (partsOf swRead).2), .bool (wordF swRead).isSome]) = .tuple #[.string ⟨#[97, 98]⟩, .bool true] := (by kernel_rfl); rw [e1]; clear e1 hno; unfold swRead; (go_enter Tryd.func16, Tryd.ntmps16); go_wp2; go_ret2; exact ⟨rfl, Below.refl _ _⟩
  by_cases k2 : s = swWrite
  · subst k2; have e1 : (Value.tuple #[.string (formL (partsOf swWrite).1 (partsOf swWrite).2), .bool (wordF swWrite).isSome]) = .tuple #[.string ⟨#[97, 98, 100]⟩, .bool true] := (by kernel_rfl); rw [e1]; clear e1 hno; unfold swWrite; (go_enter Tryd.func16, Tryd.ntmps16); go_wp2; go_ret2; exact ⟨rfl, Below.refl _ _⟩
  by_cases k3 : s = swSync
  · subst k3; have e1 : (Value.tuple #[.string (formL (partsOf swSync).1 (partsOf swSync).2), .bool (wordF swSync).isSome]) = .tuple #[.string ⟨#[97]⟩, .bool true] := (by kernel_rfl); rw [e1]; clear e1 hno; unfold swSync; (go_enter Tryd.func16, Tryd.ntmps16); go_wp2; go_ret2; exact ⟨rfl, Below.refl _ _⟩
  by_cases k4 : s = swGot
  · subst k4; have e1 : (Value.tuple #[.string (formL (partsOf swGot).1 (partsOf swGot).2), .bool (wordF swGot).isSome]) = .tuple #[.string ⟨#[97]⟩, .bool true] := (by kernel_rfl); rw [e1]; clear e1 hno; unfold swGot; (go_enter Tryd.func16, Tryd.ntmps16); go_wp2; go_ret2; exact ⟨rfl, Below.refl _ _⟩
  by_cases k5 : s = swEnd
  · subst k5; have e1 : (Value.tuple #[.string (formL (partsOf swEnd).1 (partsOf swEnd).2), .bool (wordF swEnd).isSome]) = .tuple #[.string ⟨#[97]⟩, .bool true] := (by kernel_rfl); rw [e1]; clear e1 hno; unfold swEnd; (go_enter Tryd.func16, Tryd.ntmps16); go_wp2; go_ret2; exact ⟨rfl, Below.refl _ _⟩
  by_cases k6 : s = swFault
  · subst k6; have e1 : (Value.tuple #[.string (formL (partsOf swFault).1 (partsOf swFault).2), .bool (wordF swFault).isSome]) = .tuple #[.string ⟨#[97]⟩, .bool true] := (by kernel_rfl); rw [e1]; clear e1 hno; unfold swFault; (go_enter Tryd.func16, Tryd.ntmps16); go_wp2; go_ret2; exact ⟨rfl, Below.refl _ _⟩
  by_cases k7 : s = swSettle
  · subst k7; have e1 : (Value.tuple #[.string (formL (partsOf swSettle).1 (partsOf swSettle).2), .bool (wordF swSettle).isSome]) = .tuple #[.string ⟨#[97]⟩, .bool true] := (by kernel_rfl); rw [e1]; clear e1 hno; unfold swSettle; (go_enter Tryd.func16, Tryd.ntmps16); go_wp2; go_ret2; exact ⟨rfl, Below.refl _ _⟩
  by_cases k8 : s = swCrash
  · subst k8; have e1 : (Value.tuple #[.string (formL (partsOf swCrash).1 (partsOf swCrash).2), .bool (wordF swCrash).isSome]) = .tuple #[.string ⟨#[97]⟩, .bool true] := (by kernel_rfl); rw [e1]; clear e1 hno; unfold swCrash; (go_enter Tryd.func16, Tryd.ntmps16); go_wp2; go_ret2; exact ⟨rfl, Below.refl _ _⟩
  by_cases k9 : s = swTick
  · subst k9; have e1 : (Value.tuple #[.string (formL (partsOf swTick).1 (partsOf swTick).2), .bool (wordF swTick).isSome]) = .tuple #[.string ⟨#[]⟩, .bool true] := (by kernel_rfl); rw [e1]; clear e1 hno; unfold swTick; (go_enter Tryd.func16, Tryd.ntmps16); go_wp2; go_ret2; exact ⟨rfl, Below.refl _ _⟩
  by_cases k10 : s = swClean
  · subst k10; have e1 : (Value.tuple #[.string (formL (partsOf swClean).1 (partsOf swClean).2), .bool (wordF swClean).isSome]) = .tuple #[.string ⟨#[]⟩, .bool true] := (by kernel_rfl); rw [e1]; clear e1 hno; unfold swClean; (go_enter Tryd.func16, Tryd.ntmps16); go_wp2; go_ret2; exact ⟨rfl, Below.refl _ _⟩
  by_cases k11 : s = swDispatch
  · subst k11; have e1 : (Value.tuple #[.string (formL (partsOf swDispatch).1 (partsOf swDispatch).2), .bool (wordF swDispatch).isSome]) = .tuple #[.string ⟨#[]⟩, .bool true] := (by kernel_rfl); rw [e1]; clear e1 hno; unfold swDispatch; (go_enter Tryd.func16, Tryd.ntmps16); go_wp2; go_ret2; exact ⟨rfl, Below.refl _ _⟩
  by_cases k12 : s = swRound
  · subst k12; have e1 : (Value.tuple #[.string (formL (partsOf swRound).1 (partsOf swRound).2), .bool (wordF swRound).isSome]) = .tuple #[.string ⟨#[]⟩, .bool true] := (by kernel_rfl); rw [e1]; clear e1 hno; unfold swRound; (go_enter Tryd.func16, Tryd.ntmps16); go_wp2; go_ret2; exact ⟨rfl, Below.refl _ _⟩
  by_cases k13 : s = swQueue
  · subst k13; have e1 : (Value.tuple #[.string (formL (partsOf swQueue).1 (partsOf swQueue).2), .bool (wordF swQueue).isSome]) = .tuple #[.string ⟨#[]⟩, .bool true] := (by kernel_rfl); rw [e1]; clear e1 hno; unfold swQueue; (go_enter Tryd.func16, Tryd.ntmps16); go_wp2; go_ret2; exact ⟨rfl, Below.refl _ _⟩
  by_cases k14 : s = swBusy
  · subst k14; have e1 : (Value.tuple #[.string (formL (partsOf swBusy).1 (partsOf swBusy).2), .bool (wordF swBusy).isSome]) = .tuple #[.string ⟨#[]⟩, .bool true] := (by kernel_rfl); rw [e1]; clear e1 hno; unfold swBusy; (go_enter Tryd.func16, Tryd.ntmps16); go_wp2; go_ret2; exact ⟨rfl, Below.refl _ _⟩
  by_cases k15 : s = swDirty
  · subst k15; have e1 : (Value.tuple #[.string (formL (partsOf swDirty).1 (partsOf swDirty).2), .bool (wordF swDirty).isSome]) = .tuple #[.string ⟨#[]⟩, .bool true] := (by kernel_rfl); rw [e1]; clear e1 hno; unfold swDirty; (go_enter Tryd.func16, Tryd.ntmps16); go_wp2; go_ret2; exact ⟨rfl, Below.refl _ _⟩
  have hn := hno ⟨k1, k2, k3, k4, k5, k6, k7, k8, k9, k10, k11, k12, k13, k14, k15⟩
  have q1 := ne_list k1
  have q2 := ne_list k2
  have q3 := ne_list k3
  have q4 := ne_list k4
  have q5 := ne_list k5
  have q6 := ne_list k6
  have q7 := ne_list k7
  have q8 := ne_list k8
  have q9 := ne_list k9
  have q10 := ne_list k10
  have q11 := ne_list k11
  have q12 := ne_list k12
  have q13 := ne_list k13
  have q14 := ne_list k14
  have q15 := ne_list k15
  simp only [swRead, swWrite, swSync, swGot, swEnd, swFault, swSettle, swCrash, swTick, swClean, swDispatch, swRound, swQueue, swBusy, swDirty] at q1 q2 q3 q4 q5 q6 q7 q8 q9 q10 q11 q12 q13 q14 q15
  rw [show partsOf s = (0, false) by unfold partsOf; rw [hn]; rfl, hn]
  clear hno hn k1 k2 k3 k4 k5 k6 k7 k8 k9 k10 k11 k12 k13 k14 k15
  go_enter Tryd.func16, Tryd.ntmps16
  go_wp2
  go_ret2
  exact ⟨rfl, Below.refl _ _⟩
end Go.Proofs.YtlhgjplipgandaaDoor
