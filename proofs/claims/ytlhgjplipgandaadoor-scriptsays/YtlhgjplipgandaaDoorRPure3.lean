/- A step's text, split, tells the step. -/
import Derived.Test.YtlhgjplipgandaaDoorRPure2
namespace Go.Proofs.YtlhgjplipgandaaDoor
open Go.RowKit

theorem data_noB (L : List UInt8) (h : breaks ⟨L.toArray⟩ = false) : NoBlank L := by
  intro c hc e
  subst e
  have : breaks ⟨L.toArray⟩ = true := by
    unfold breaks
    rw [List.any_eq_true]
    exact ⟨32, by simpa using hc, rfl⟩
  rw [h] at this
  cases this
theorem text_stepF (x : St) (n : Int) (b : Bool) (hp : partsOf x.word = (n, b)) (h : stepFault x = 0) : stepF x.text n b = x ∧ (splitL x.text).length = many n b ∧ (⟨(wOf x.text 0).toArray⟩ : ByteArray) = x.word ∧ (b = true → wOf x.text 3 ≠ []) := by
  obtain ⟨f1, f2, f3, f4, _, f6, f7⟩ := fault0 h
  obtain ⟨wd, a, c, dt⟩ := x
  obtain ⟨W, rfl⟩ := bytes_list wd
  obtain ⟨L, rfl⟩ := bytes_list dt
  simp only at f1 f2 f3 f4 f6 f7 hp
  have hW : NoBlank W := by simpa using word_noB _ f1
  have hLn := data_noB L f6
  obtain ⟨na, _⟩ := itoa_back a f3
  obtain ⟨nb, _⟩ := itoa_back c f4
  have ra := nat_itoa a f3
  have rb := nat_itoa c f4
  have hd : ¬ L = [45] := fun e => f7 (by rw [e]; rfl)
  obtain ⟨n', b', e, hnb⟩ := partsOf_cases ⟨W.toArray⟩
  rw [hp] at e
  obtain ⟨rfl, rfl⟩ := Prod.mk.inj e
  rw [text_of W L a c n b hp]
  rw [hp] at f2
  simp only [fitB] at f2
  rcases hnb with ⟨rfl, rfl⟩ | ⟨rfl, rfl⟩ | ⟨rfl, rfl⟩ | ⟨rfl, rfl⟩
  · simp at f2
    obtain ⟨⟨rfl, rfl⟩, rfl⟩ := f2
    have hs : splitL (W ++ numT 0 0 (Int.toNat 0) ++ tailT [] false) = [W] := by simpa [numT, tailT] using split_no W hW
    unfold stepF wOf
    rw [hs]
    exact ⟨by simp, rfl, rfl, by simp⟩
  · simp at f2
    obtain ⟨rfl, rfl⟩ := f2
    have hs : splitL (W ++ numT a 0 (Int.toNat 1) ++ tailT [] false) = [W, Lib.itoa a] := by
      have := split_at' W (Lib.itoa a) hW
      rw [split_no _ na] at this
      simpa [numT, tailT] using this
    unfold stepF wOf
    rw [hs]
    exact ⟨by simp [ra], rfl, rfl, by simp⟩
  · have hD : NoBlank (if L.isEmpty then [45] else L) := by
      split
      · intro z hz; simp at hz; subst hz; decide
      · exact hLn
    have hs : splitL (W ++ numT a c (Int.toNat 2) ++ tailT L true) = [W, Lib.itoa a, Lib.itoa c, if L.isEmpty then [45] else L] := by
      have := split_at' W (Lib.itoa a ++ 32 :: (Lib.itoa c ++ 32 :: (if L.isEmpty then [45] else L))) hW
      rw [split_at' _ _ na, split_at' _ _ nb, split_no _ hD] at this
      simpa [numT, tailT] using this
    cases L with
    | nil =>
      unfold stepF wOf
      rw [hs]
      exact ⟨by simp [ra, rb], rfl, rfl, by simp⟩
    | cons z L =>
      rw [show (if (z :: L).isEmpty = true then [45] else z :: L) = z :: L from rfl] at hs
      unfold stepF wOf
      rw [hs]
      refine ⟨?_, rfl, rfl, by simp⟩
      show St.mk ⟨W.toArray⟩ (natR (Lib.itoa a)) (natR (Lib.itoa c)) (if z :: L = [45] then ⟨#[]⟩ else ⟨(z :: L).toArray⟩) = _
      rw [if_neg hd, ra, rb]
  · simp at f2
    subst f2
    have hs : splitL (W ++ numT a c (Int.toNat 2) ++ tailT [] false) = [W, Lib.itoa a, Lib.itoa c] := by
      have := split_at' W (Lib.itoa a ++ 32 :: Lib.itoa c) hW
      rw [split_at' _ _ na, split_no _ nb] at this
      simpa [numT, tailT] using this
    unfold stepF wOf
    rw [hs]
    exact ⟨by simp [ra, rb], rfl, rfl, by simp⟩
/-- The reference takes a text just where the code takes it, and tells the same step. -/
theorem step_iff (l : List UInt8) (n : Int) (b : Bool) (hp : partsOf ⟨(wOf l 0).toArray⟩ = (n, b)) : (stepOk l n b → parseOk l = true ∧ readF l = stepF l n b) ∧ (parseOk l = true → stepOk l n b) := by
  refine ⟨fun h => ?_, fun h => ?_⟩
  · have e := stepOk_text l n b h
    have := text_back (stepF l n b) h.2.2.2.2
    rw [e] at this
    exact this
  · unfold parseOk at h
    simp only [Bool.and_eq_true, decide_eq_true_eq] at h
    obtain ⟨h1, h2⟩ := h
    unfold textA at h2
    rw [if_pos h1] at h2
    have e : (readF l).text = l := by
      have := congrArg (fun s : ByteArray => s.data.toList) h2
      simpa using this
    obtain ⟨n', b', e2, _⟩ := partsOf_cases (readF l).word
    have t := text_stepF (readF l) n' b' e2 h1
    rw [e] at t
    obtain ⟨t1, t2, t3, t4⟩ := t
    rw [t3, e2] at hp
    obtain ⟨rfl, rfl⟩ := Prod.mk.inj hp
    refine ⟨by rw [t3]; exact (fault0 h1).1, by rw [t3]; exact e2, t2, t4, by rw [t1]; exact h1⟩
end Go.Proofs.YtlhgjplipgandaaDoor
