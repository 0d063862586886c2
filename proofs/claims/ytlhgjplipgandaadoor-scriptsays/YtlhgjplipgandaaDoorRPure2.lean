/- The reference's parse of a text, and the code's: no world in it. -/
import Derived.Test.YtlhgjplipgandaaDoorRPure
namespace Go.Proofs.YtlhgjplipgandaaDoor
open Go.RowKit

/-- A text split at its blanks. -/
def splitL : List UInt8 → List (List UInt8)
  | [] => [[]]
  | c :: l => if c = 32 then [] :: splitL l else match splitL l with
    | [] => [[c]]
    | h :: t => (c :: h) :: t
def joinL : List (List UInt8) → List UInt8
  | [] => []
  | [a] => a
  | a :: b :: r => a ++ 32 :: joinL (b :: r)
theorem split_ne : ∀ l, splitL l ≠ []
  | [] => by simp [splitL]
  | c :: l => by
    unfold splitL
    split
    · simp
    · split <;> simp
theorem join_cons (c : UInt8) (h : List UInt8) (t : List (List UInt8)) : joinL ((c :: h) :: t) = c :: joinL (h :: t) := by
  cases t with
  | nil => rfl
  | cons b r => rfl
theorem join_split : ∀ l, joinL (splitL l) = l
  | [] => rfl
  | c :: l => by
    have ih := join_split l
    have hn := split_ne l
    unfold splitL
    split
    · rename_i hc
      cases hs : splitL l with
      | nil => exact absurd hs hn
      | cons h t =>
        rw [hs] at ih
        show [] ++ 32 :: joinL (h :: t) = _
        rw [ih, hc]; rfl
    · cases hs : splitL l with
      | nil => exact absurd hs hn
      | cons h t =>
        rw [hs] at ih
        show joinL ((c :: h) :: t) = _
        rw [join_cons, ih]
theorem split_no : ∀ a, NoBlank a → splitL a = [a]
  | [], _ => rfl
  | c :: a, h => by
    have ih := split_no a (fun x hx => h x (List.mem_cons_of_mem _ hx))
    unfold splitL
    rw [if_neg (h c List.mem_cons_self), ih]
theorem split_at' : ∀ a b, NoBlank a → splitL (a ++ 32 :: b) = a :: splitL b
  | [], b, _ => by simp [splitL]
  | c :: a, b, h => by
    have ih := split_at' a b (fun x hx => h x (List.mem_cons_of_mem _ hx))
    show splitL (c :: (a ++ 32 :: b)) = _
    rw [splitL, if_neg (h c List.mem_cons_self), ih]
def wOf (l : List UInt8) (i : Nat) : List UInt8 := (splitL l).getD i []
/-- The step that the split text tells, whether it may be or not. -/
def stepF (l : List UInt8) (n : Int) (b : Bool) : St := ⟨⟨(wOf l 0).toArray⟩, if 0 < n then natR (wOf l 1) else 0, if 1 < n then natR (wOf l 2) else 0, if b = true then (if wOf l 3 = [45] then ⟨#[]⟩ else ⟨(wOf l 3).toArray⟩) else ⟨#[]⟩⟩
def many (n : Int) (b : Bool) : Nat := 1 + n.toNat + (if b = true then 1 else 0)
/-- Does a text tell a step, as the reference has it? -/
def stepOk (l : List UInt8) (n : Int) (b : Bool) : Prop := (wordF ⟨(wOf l 0).toArray⟩).isSome = true ∧ partsOf ⟨(wOf l 0).toArray⟩ = (n, b) ∧ (splitL l).length = many n b ∧ (b = true → wOf l 3 ≠ []) ∧ stepFault (stepF l n b) = 0
theorem text_of (W L : List UInt8) (a b : Int) (n : Int) (q : Bool) (hp : partsOf ⟨W.toArray⟩ = (n, q)) : (⟨⟨W.toArray⟩, a, b, ⟨L.toArray⟩⟩ : St).text = W ++ numT a b n.toNat ++ tailT L q := by
  unfold St.text; simp only; rw [hp]
/-- What the reference takes is the text of what it tells. -/
theorem stepOk_text (l : List UInt8) (n : Int) (b : Bool) (h : stepOk l n b) : (stepF l n b).text = l := by
  obtain ⟨h1, h2, h3, h4, h5⟩ := h
  obtain ⟨_, _, f3, f4, _, _, _⟩ := fault0 h5
  have hj := join_split l
  obtain ⟨n', b', e, hnb⟩ := partsOf_cases ⟨(wOf l 0).toArray⟩
  rw [h2] at e
  obtain ⟨rfl, rfl⟩ := Prod.mk.inj e
  unfold stepF at f3 f4 ⊢
  unfold wOf at h2 h4 f3 f4 ⊢
  generalize splitL l = w at *
  rcases hnb with ⟨rfl, rfl⟩ | ⟨rfl, rfl⟩ | ⟨rfl, rfl⟩ | ⟨rfl, rfl⟩
  · match w, h3 with
    | [w0], _ =>
      simp at h2 ⊢
      rw [text_of w0 [] 0 0 0 false h2, ← hj]
      simp [numT, tailT, joinL]
  · match w, h3 with
    | [w0, w1], _ =>
      simp at h2 f3 ⊢
      rw [text_of w0 [] (natR w1) 0 1 false h2, ← hj]
      simp [numT, tailT, joinL]
      exact (nat_back w1 _ rfl f3.1).1.symm
  · match w, h3 with
    | [w0, w1, w2, w3], _ =>
      simp at h2 f3 f4 h4 ⊢
      have e1 := (nat_back w1 _ rfl f3.1).1.symm
      have e2 := (nat_back w2 _ rfl f4.1).1.symm
      by_cases hd : w3 = [45]
      · subst hd
        rw [if_pos rfl, text_of w0 [] (natR w1) (natR w2) 2 true h2, ← hj]
        simp [numT, tailT, joinL, e1, e2]
      · rw [if_neg hd, text_of w0 w3 (natR w1) (natR w2) 2 true h2, ← hj]
        cases w3 with
        | nil => exact absurd rfl h4
        | cons c r => simp [numT, tailT, joinL, e1, e2]
  · match w, h3 with
    | [w0, w1, w2], _ =>
      simp at h2 f3 f4 ⊢
      have e1 := (nat_back w1 _ rfl f3.1).1.symm
      have e2 := (nat_back w2 _ rfl f4.1).1.symm
      rw [text_of w0 [] (natR w1) (natR w2) 2 false h2, ← hj]
      simp [numT, tailT, joinL, e1, e2]
end Go.Proofs.YtlhgjplipgandaaDoor
