/- A step's text is read as the step: no world in it. -/
import Derived.Test.YtlhgjplipgandaaDoorScript11
namespace Go.Proofs.YtlhgjplipgandaaDoor
open Go.RowKit

def NoBlank (l : List UInt8) : Prop := ∀ c ∈ l, c ≠ 32
theorem idx_at : ∀ (a b : List UInt8), NoBlank a → Lib.index (a ++ 32 :: b) [32] = a.length
  | [], b, _ => by simp [Lib.index]
  | c :: a, b, h => by
    have ih := idx_at a b (fun x hx => h x (List.mem_cons_of_mem _ hx))
    have hc : c ≠ 32 := h c List.mem_cons_self
    have hp : ([32] : List UInt8).isPrefixOf (c :: (a ++ 32 :: b)) = false := by simp [List.isPrefixOf]; exact fun e => hc e.symm
    show (if ([32] : List UInt8).isPrefixOf (c :: (a ++ 32 :: b)) = true then (0 : Int) else if Lib.index (a ++ 32 :: b) [32] == -1 then -1 else Lib.index (a ++ 32 :: b) [32] + 1) = _
    rw [hp, ih, if_neg Bool.false_ne_true, if_neg (by rw [beq_iff_eq]; omega)]
    simp
theorem idx_no : ∀ (a : List UInt8), NoBlank a → Lib.index a [32] = -1
  | [], _ => rfl
  | c :: a, h => by
    have ih := idx_no a (fun x hx => h x (List.mem_cons_of_mem _ hx))
    have hc : c ≠ 32 := h c List.mem_cons_self
    have hp : ([32] : List UInt8).isPrefixOf (c :: a) = false := by simp [List.isPrefixOf]; exact fun e => hc e.symm
    show (if ([32] : List UInt8).isPrefixOf (c :: a) = true then (0 : Int) else if Lib.index a [32] == -1 then -1 else Lib.index a [32] + 1) = _
    rw [hp, ih]; rfl
theorem cut_at (a b : List UInt8) (h : NoBlank a) : Lib.cut (a ++ 32 :: b) [32] = (a, b, true) := by
  unfold Lib.cut
  rw [idx_at a b h, if_pos (by omega)]
  simp
theorem cut_no (a : List UInt8) (h : NoBlank a) : Lib.cut a [32] = (a, [], false) := by
  unfold Lib.cut
  rw [idx_no a h, if_neg (by omega)]
theorem itoa_fin : ∀ n : Fin 1000, (Lib.itoa (n.val : Int)).all (fun c => c != 32) = true ∧ atoiV (Lib.itoa (n.val : Int)) = (n.val : Int) := by decide +kernel
theorem itoa_back (n : Int) (h : 0 ≤ n ∧ n ≤ 999) : NoBlank (Lib.itoa n) ∧ atoiV (Lib.itoa n) = n := by
  have := itoa_fin ⟨n.toNat, by omega⟩
  rw [show ((⟨n.toNat, by omega⟩ : Fin 1000).val : Int) = n by simp; omega] at this
  exact ⟨fun c hc => by simpa using List.all_eq_true.1 this.1 c hc, this.2⟩
theorem word_noB (s : ByteArray) (h : (wordF s).isSome = true) : NoBlank s.data.toList := by
  have : s.data.toList.all (fun c => c != 32) = true := by
    unfold wordF at h
    iterate 15
      (rcases is_if h with h1 | h1
       · subst h1; decide
       have h := h1
       clear h1)
    cases h
  exact fun c hc => by simpa using List.all_eq_true.1 this c hc
theorem read_text (x : St) (h : stepFault x = 0) : readF x.text = x := by
  obtain ⟨f1, f2, f3, f4, _, _, f7⟩ := fault0 h
  obtain ⟨wd, a, b, dt⟩ := x
  obtain ⟨W, rfl⟩ := bytes_list wd
  obtain ⟨L, rfl⟩ := bytes_list dt
  simp only at f1 f2 f3 f4 f7
  have hW : NoBlank W := by simpa using word_noB _ f1
  obtain ⟨na, aa⟩ := itoa_back a f3
  obtain ⟨nb, ab⟩ := itoa_back b f4
  have hd : ¬ L = [45] := fun e => f7 (by rw [e]; rfl)
  obtain ⟨n, q, hpn, hnb⟩ := partsOf_cases ⟨W.toArray⟩
  have htx : (⟨⟨W.toArray⟩, a, b, ⟨L.toArray⟩⟩ : St).text = W ++ numT a b n.toNat ++ tailT L q := by
    unfold St.text; simp only; rw [hpn]
  rw [htx]
  rw [hpn] at f2
  have key : ∀ R fd k, Lib.cut (W ++ numT a b n.toNat ++ tailT L q) [32] = (W, R, fd) → n.toNat = k → readF (W ++ numT a b n.toNat ++ tailT L q) = ⟨⟨W.toArray⟩, if 1 ≤ k then numA R 0 else 0, if 2 ≤ k then numA R 1 else 0, if rest2 R k = [45] then ⟨#[]⟩ else ⟨(rest2 R k).toArray⟩⟩ := by
    intro R fd k e ek
    unfold readF
    rw [e]
    simp only
    rw [hpn]
    simp only
    rw [ek]
    rfl
  simp only [fitB] at f2
  rcases hnb with ⟨rfl, rfl⟩ | ⟨rfl, rfl⟩ | ⟨rfl, rfl⟩ | ⟨rfl, rfl⟩
  · simp at f2
    obtain ⟨⟨rfl, rfl⟩, rfl⟩ := f2
    rw [key [] false 0 (by simpa [numT, tailT] using cut_no W hW) rfl]
    simp [rest2]
  · simp at f2
    obtain ⟨rfl, rfl⟩ := f2
    rw [key (Lib.itoa a) true 1 (by simpa [numT, tailT] using cut_at W (Lib.itoa a) hW) rfl]
    simp [rest2, numA, cut_no _ na, aa]
  · rw [key (Lib.itoa a ++ 32 :: (Lib.itoa b ++ 32 :: (if L.isEmpty then [45] else L))) true 2 (by simpa [numT, tailT] using cut_at W (Lib.itoa a ++ 32 :: (Lib.itoa b ++ 32 :: (if L.isEmpty then [45] else L))) hW) rfl]
    have e1 := cut_at (Lib.itoa a) (Lib.itoa b ++ 32 :: (if L.isEmpty then [45] else L)) na
    have e2 := cut_at (Lib.itoa b) (if L.isEmpty then [45] else L) nb
    simp only [rest2, numA, e1, e2, aa, ab]
    cases L with
    | nil => simp
    | cons c L =>
      rw [show (if (c :: L).isEmpty = true then [45] else c :: L) = c :: L from rfl, if_neg hd]
      rfl
  · simp at f2
    subst f2
    rw [key (Lib.itoa a ++ 32 :: Lib.itoa b) true 2 (by simpa [numT, tailT] using cut_at W (Lib.itoa a ++ 32 :: Lib.itoa b) hW) rfl]
    have e1 := cut_at (Lib.itoa a) (Lib.itoa b) na
    have e2 := cut_no (Lib.itoa b) nb
    simp [rest2, numA, e1, e2, aa, ab]
theorem text_back (x : St) (h : stepFault x = 0) : parseOk x.text = true ∧ readF x.text = x := by
  have := read_text x h
  unfold parseOk
  rw [this]
  exact ⟨by simp [h, textA], rfl⟩
theorem text_len (x : St) (h : stepFault x = 0) : x.text.length ≤ 1000 := by
  obtain ⟨f1, _, f3, f4, f5, _, _⟩ := fault0 h
  have h1 := word_size _ f1
  have h2 := numT_len x.a x.b (partsOf x.word).1.toNat f3 f4
  unfold St.text
  simp only [List.length_append, Array.length_toList]
  have h3 : (tailT x.data.data.toList (partsOf x.word).2).length ≤ 11 := by
    unfold tailT
    split
    · simp
    · split
      · simp
      · simp only [List.length_cons, Array.length_toList]
        have : x.data.data.size ≤ 9 := f5
        omega
  have : x.word.data.size ≤ 8 := h1
  omega
end Go.Proofs.YtlhgjplipgandaaDoor
