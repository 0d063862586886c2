/- The reference's split of a text at its blanks. -/
import Derived.Test.YtlhgjplipgandaaDoorRPure2
import Derived.Test.YtlhgjplipgandaaDoorRFault
import Derived.Test.YtlhgjplipgandaaDoorAppend
import Derived.Test.YtlhgjplipgandaaDoorSplitKit
namespace Go.Proofs.YtlhgjplipgandaaDoor
open Go.RowKit Go.BigFrame Go.Maps
attribute [local go_sem] Later.cell Later.frozen

/-- A text split at its blanks, as texts. -/
def spl (s : ByteArray) : List ByteArray := (splitL s.data.toList).map fun l => ⟨l.toArray⟩
/-- How far a text has been split. -/
structure SplAt (s : ByteArray) (f i : Nat) (O : List ByteArray) : Prop where
  le : f ≤ i
  eq : splitL s.data.toList = O.map (fun x => x.data.toList) ++ splitL (s.data.toList.drop f)
  no : NoBlank ((s.data.toList.drop f).take (i - f))
  len : O.length ≤ f
theorem extract_list (s : ByteArray) (f i : Nat) : (s.extract f i).data.toList = (s.data.toList.drop f).take (i - f) := by
  rw [ByteArray.data_extract, Array.toList_extract]
theorem SplAt.start (s : ByteArray) : SplAt s 0 0 [] := ⟨Nat.le_refl 0, by simp, fun c hc => by simp at hc, Nat.le_refl 0⟩
theorem drop_cut (l : List UInt8) (f i : Nat) (hf : f ≤ i) (hi : i < l.length) : l.drop f = (l.drop f).take (i - f) ++ l[i] :: l.drop (i + 1) := by
  have h := List.take_append_drop (i - f) (l.drop f)
  rw [List.drop_drop, show f + (i - f) = i by omega, List.drop_eq_getElem_cons hi] at h
  exact h.symm
theorem SplAt.blank {s : ByteArray} {f i : Nat} {O : List ByteArray} (h : SplAt s f i O) (hi : i < s.size) (hb : (s[i]'hi).toNat = 32) : SplAt s (i + 1) (i + 1) (O ++ [s.extract f i]) := by
  have hi' : i < s.data.toList.length := hi
  have hc : s.data.toList[i] = 32 := by
    apply UInt8.toNat_inj.1
    exact hb
  have e := drop_cut s.data.toList f i h.le hi'
  rw [hc] at e
  refine ⟨Nat.le_refl _, ?_, ?_, ?_⟩
  · have e2 := congrArg splitL e
    rw [split_at' _ _ h.no] at e2
    rw [h.eq, e2, List.map_append, List.append_assoc, List.map_cons, List.map_nil, extract_list]
    rfl
  · intro c hc; simp at hc
  · rw [List.length_append, List.length_singleton]
    have := h.len; have := h.le; omega
theorem SplAt.other {s : ByteArray} {f i : Nat} {O : List ByteArray} (h : SplAt s f i O) (hi : i < s.size) (hb : ¬ (s[i]'hi).toNat = 32) : SplAt s f (i + 1) O := by
  have hi' : i < s.data.toList.length := hi
  refine ⟨Nat.le_succ_of_le h.le, h.eq, ?_, h.len⟩
  have hl : i - f < (s.data.toList.drop f).length := by rw [List.length_drop]; have := h.le; omega
  rw [show i + 1 - f = (i - f) + 1 by have := h.le; omega, List.take_succ_eq_append_getElem hl]
  intro c hc
  rcases List.mem_append.1 hc with hc | hc
  · exact h.no c hc
  · rw [List.mem_singleton] at hc
    subst hc
    rw [List.getElem_drop]
    intro e
    apply hb
    have e2 : s.data.toList[i] = 32 := by
      rw [← e]
      congr 1
      have := h.le; omega
    show (s.data.toList[i]).toNat = 32
    rw [e2]; rfl
theorem SplAt.done {s : ByteArray} {f : Nat} {O : List ByteArray} (h : SplAt s f s.size O) : O ++ [s.extract f s.size] = spl s := by
  have e : (s.data.toList.drop f).take (s.size - f) = s.data.toList.drop f := by
    apply List.take_of_length_le
    rw [List.length_drop]
    exact Nat.le_of_eq (by rw [show s.data.toList.length = s.size from Array.length_toList])
  have hn := h.no
  rw [e] at hn
  unfold spl
  rw [h.eq, split_no _ hn, List.map_append, List.map_map]
  congr 1
  · have : ((fun l : List UInt8 => (⟨l.toArray⟩ : ByteArray)) ∘ fun x : ByteArray => x.data.toList) = id := by
      funext x
      simp
    rw [this, List.map_id]
  · simp only [List.map_cons, List.map_nil]
    rw [← e, ← extract_list]
set_option maxRecDepth 100000 in
set_option maxHeartbeats 4000000 in
theorem split_any (s : ByteArray) (hs : s.size ≤ 1000) (w : World) : Calls Tryd.prog 19 #[.string s] w fun e w' => ∃ a c, e = .returned (.slice a (spl s).length c) ∧ TxAt w' a (spl s) ∧ (a = none → c = 0) ∧ Below w.heap.size w w' := by
  obtain ⟨iS, hi, hz0, hz1, hz2⟩ := pluck infoSp
  have HI := hidT (⟨hi, hz0, hz1, hz2⟩ : Tryd.prog.info? 9 = some iS ∧ _ ∧ _ ∧ _)
  clear hi hz0 hz1 hz2
  go_enter Tryd.func19, Tryd.ntmps19
  go_wp2
  go_loopw [3, 4, 5] (fun v fv i wr => ∃ (f j : Nat) (O : List ByteArray), j ≤ s.size ∧ fv = .int .i64 f ∧ i = .int .i64 j ∧ SplAt s f j O ∧ wr.ownsRow w.heap.size 9 1 v O.length (txV O) ∧ Below w.heap.size w wr) (fun _ _ i _ => s.size - (intOf i).toNat)
  case atStart => exact ⟨0, 0, [], by omega, rfl, rfl, SplAt.start s, World.ownsRow_nil _ _ _ _, Below.refl _ _⟩
  case round =>
    obtain ⟨f, j, O, hj, rfl, rfl, hat, hown, hb⟩ := hrel
    have HAT := hidT hat
    have HB := hidT hb
    have HO := hidT hown
    have hfj : f ≤ j := hat.le
    have hol : O.length ≤ 1000 := by have := hat.len; omega
    clear hat hb hown
    have hfj' : (f : Int) ≤ (j : Int) := by omega
    have hf0 : (0 : Int) ≤ (f : Int) := by omega
    have hj0 : (0 : Int) ≤ (j : Int) := by omega
    have hfs : (f : Int) ≤ (s.size : Int) := by omega
    have hjs : (j : Int) ≤ (s.size : Int) := by omega
    by_cases hlt : j < s.size
    · have hlt' : (j : Int) < (s.size : Int) := by omega
      obtain ⟨z, hz⟩ : ∃ z : Nat, (s[j]'hlt).toNat = z := ⟨_, rfl⟩
      by_cases h32 : z = 32
      · subst h32
        have HN := hidT (HAT.out.blank hlt hz)
        have HSZ := hidT HB.out.size
        clear HAT
        go_wp2_with (at_builtin; refine wpList_append_row rfl _ _ 53 rfl w.heap.size 9 iS _ 1 16 Tryd.underlying53 HI.out.1 HI.out.2.1 HI.out.2.2.1 HI.out.2.2.2 rfl (by decide) _ O.length (txV O) rfl (HO.out.alloc _) (some ⟨wr.heap.size, 0, none⟩) 1 1 [.string (s.extract f j)] rfl ⟨rfl, by simp [Value.oneCell'], Or.inr ⟨_, rfl, fun j u hj => newRowSp rfl _ _ j u hj⟩⟩ (by unfold maxLen; omega) (by omega) (by have := HSZ.out; simp; omega) ?_; intro v3 w3 hown3 hb3)
        go_roundw
        case rel =>
          refine ⟨j + 1, j + 1, O ++ [s.extract f j], by omega, by go_num, by go_num, HN.out, ?_, HB.out.trans (((Below.refl _ _).alloc (by have := HSZ.out; omega) _).trans hb3)⟩
          simpa [txV] using hown3
        case measure => simp [intOf]; omega
      · have q1 : ((z : Int) == 32) = false := beq_eq_false_iff_ne.2 (by omega)
        have HN := hidT (HAT.out.other hlt (by rw [hz]; exact h32))
        clear HAT
        go_wp2
        go_roundw
        case rel => exact ⟨f, j + 1, O, by omega, rfl, by go_num, HN.out, HO.out, HB.out⟩
        case measure => simp [intOf]; omega
    · obtain rfl : j = s.size := by omega
      have HD := hidT HAT.out.done
      have HSZ := hidT HB.out.size
      clear HAT
      go_wp2_with (at_builtin; refine wpList_append_row rfl _ _ 53 rfl w.heap.size 9 iS _ 1 16 Tryd.underlying53 HI.out.1 HI.out.2.1 HI.out.2.2.1 HI.out.2.2.2 rfl (by decide) _ O.length (txV O) rfl (HO.out.alloc _) (some ⟨wr.heap.size, 0, none⟩) 1 1 [.string (s.extract f s.size)] rfl ⟨rfl, by simp [Value.oneCell'], Or.inr ⟨_, rfl, fun j u hj => newRowSp rfl _ _ j u hj⟩⟩ (by unfold maxLen; omega) (by omega) (by have := HSZ.out; simp; omega) ?_; intro v3 w3 hown3 hb3)
      have hown4 : w3.ownsRow w.heap.size 9 1 v3 (O.length + 1) (txV (spl s)) := by
        rw [← HD.out]
        simpa [txV] using hown3
      obtain ⟨xa, xc, rfl, hst, hnn, hcap⟩ := tx_of_owned hown4 (by rw [← HD.out]; simp)
      have HST := hidT (⟨hst, hnn⟩ : _ ∧ _)
      have HB3 := hidT (HB.out.trans (((Below.refl _ _).alloc (by have := HSZ.out; omega) _).trans hb3))
      clear hown3 hown4 hst hnn hcap hb3
      go_ret
      exact ⟨xa, xc, rfl, HST.out.1, HST.out.2, HB3.out⟩
end Go.Proofs.YtlhgjplipgandaaDoor
