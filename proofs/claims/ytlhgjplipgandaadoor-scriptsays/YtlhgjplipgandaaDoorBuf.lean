/- Sectors at hand in memory; slices.Clone of them. -/
import Derived.Test.YtlhgjplipgandaaDoorAppend
import Derived.BigQuiet
import Derived.Lib.SliceRun
namespace Go.Proofs.YtlhgjplipgandaaDoor
open Go.RowKit Go.BigFrame
attribute [local go_sem] Later.cell Later.frozen

/-- A sector at hand. -/
structure Bf where
  pl : Int
  data : ByteArray
  dirty : Bool
  used : Int

def Bf.cell (r : Bf) : Nat → Value
  | 0 => .int .i64 r.pl
  | 1 => .string r.data
  | 2 => .bool r.dirty
  | _ => .int .i64 r.used
abbrev Bf.val (r : Bf) : Value := .agg #[.int .i64 r.pl, .string r.data, .bool r.dirty, .int .i64 r.used]

theorem ltB_of_cell {w : World} {b o : Nat} {v : Value} (h : w.cell? ⟨b, o, none⟩ = some v) : b < w.heap.size := lt_of_cellA h
theorem cellB_later' {w w' : World} {b o : Nat} {v : Value} (hb : Below w.heap.size w w') (h : w.cell? ⟨b, o, none⟩ = some v) : w'.cell? ⟨b, o, none⟩ = some v := cellA_later hb h
theorem allocB_cell {w : World} {b o : Nat} {v : Value} (h : w.cell? ⟨b, o, none⟩ = some v) (x : Obj) : (w.alloc x).cell? ⟨b, o, none⟩ = some v := by
  rw [World.cell?_alloc_lt w x _ (lt_of_cellA h)]; exact h

/-- From an address on lie these sectors. -/
def BufsAt (w : World) (a : Option Addr) (l : List Bf) : Prop :=
  (l = [] ∨ ∃ b o, a = some ⟨b, o, none⟩ ∧ ∀ i (h : i < l.length) j, j < 4 → w.cell? ⟨b, o + i * 4 + j, none⟩ = some (l[i].cell j)) ∧ l.length ≤ 9223372036854775807

theorem BufsAt.later {w w' : World} {a : Option Addr} {l : List Bf} (h : BufsAt w a l) (hb : Below w.heap.size w w') : BufsAt w' a l := by
  obtain ⟨h1, h3⟩ := h
  refine ⟨?_, h3⟩
  rcases h1 with h | ⟨b, o, ha, hc⟩
  · exact Or.inl h
  · exact Or.inr ⟨b, o, ha, fun i hi j hj => cellB_later' hb (hc i hi j hj)⟩
theorem BufsAt.form {w : World} {a : Option Addr} {l : List Bf} (h : BufsAt w a l) : l = [] ∨ ∃ b o, a = some ⟨b, o, none⟩ := by
  rcases h.1 with h | ⟨b, o, ha, _⟩
  · exact Or.inl h
  · exact Or.inr ⟨b, o, ha⟩
theorem BufsAt.cells {w : World} {b o : Nat} {l : List Bf} (h : BufsAt w (some ⟨b, o, none⟩) l) {i : Nat} (hi : i < l.length) :
    w.cell? ⟨b, o + i * 4, none⟩ = some (.int .i64 l[i].pl) ∧ w.cell? ⟨b, o + i * 4 + 1, none⟩ = some (.string l[i].data) ∧ w.cell? ⟨b, o + i * 4 + 2, none⟩ = some (.bool l[i].dirty) ∧ w.cell? ⟨b, o + i * 4 + 3, none⟩ = some (.int .i64 l[i].used) := by
  rcases h.1 with rfl | ⟨b', o', ha, hc⟩
  · exact absurd hi (Nat.not_lt_zero _)
  · simp only [Option.some.injEq, Addr.mk.injEq, and_true] at ha
    obtain ⟨rfl, rfl⟩ := ha
    exact ⟨hc i hi 0 (by omega), hc i hi 1 (by omega), hc i hi 2 (by omega), hc i hi 3 (by omega)⟩

/-! ### the cells, one behind the other -/
def bcells (l : List Bf) : List Value := l.flatMap fun r => [r.cell 0, r.cell 1, r.cell 2, r.cell 3]
theorem bcells_length (l : List Bf) : (bcells l).length = l.length * 4 := by
  induction l with
  | nil => rfl
  | cons r l ih => rw [bcells, List.flatMap_cons, List.length_append, ← bcells, ih, List.length_cons]; simp; omega
theorem bcells_append (l l' : List Bf) : bcells (l ++ l') = bcells l ++ bcells l' := by simp [bcells]
theorem bcells_at (l : List Bf) : ∀ (i j : Nat) (h : i < l.length), j < 4 → (bcells l)[i * 4 + j]? = some (l[i].cell j) := by
  induction l with
  | nil => intro i j h; exact absurd h (Nat.not_lt_zero _)
  | cons r l ih =>
    intro i j h hj
    rw [bcells, List.flatMap_cons, ← bcells]
    cases i with
    | zero =>
      rw [List.getElem?_append_left (by simp; omega)]
      match j, hj with
      | 0, _ => rfl
      | 1, _ => rfl
      | 2, _ => rfl
      | 3, _ => rfl
    | succ i =>
      rw [List.getElem?_append_right (by simp; omega)]
      have := ih i j (by simpa using h) hj
      simp only [List.length_cons, List.length_nil, List.getElem_cons_succ]
      rw [← this]; congr 1; omega
theorem bcells_one (l : List Bf) : ∀ u ∈ bcells l, u.oneCell' = true := by
  intro u hu
  simp only [bcells, List.mem_flatMap] at hu
  obtain ⟨r, _, hr⟩ := hu
  simp only [List.mem_cons, List.not_mem_nil, or_false] at hr
  rcases hr with rfl | rfl | rfl | rfl <;> rfl
theorem bcells_inv {l : List Bf} {k : Nat} {u : Value} (h : (bcells l)[k]? = some u) : ∃ i j, ∃ hi : i < l.length, j < 4 ∧ k = i * 4 + j ∧ u = l[i].cell j := by
  have hk : k < (bcells l).length := by
    rcases Nat.lt_or_ge k (bcells l).length with h' | h'
    · exact h'
    · rw [List.getElem?_eq_none h'] at h; cases h
  rw [bcells_length] at hk
  have hi : k / 4 < l.length := by omega
  have hj : k % 4 < 4 := Nat.mod_lt _ (by omega)
  have e : k = k / 4 * 4 + k % 4 := by omega
  refine ⟨k / 4, k % 4, hi, hj, e, ?_⟩
  rw [e, bcells_at l (k / 4) (k % 4) hi hj] at h
  exact (Option.some.inj h).symm
theorem addB_mk (b o i : Nat) : (Addr.add ⟨b, o, none⟩ i) = ⟨b, o + i, none⟩ := by
  unfold Addr.add; split
  · rename_i h; subst h; rfl
  · rfl
theorem BufsAt.rowAll {w : World} {a : Option Addr} {c : Nat} {l : List Bf} (h : BufsAt w a l) (hn : a = none → c = 0) : RowAt w 4 a l.length c (bcells l) := by
  rcases h.1 with rfl | ⟨b, o, rfl, hc⟩
  · cases a with
    | none => exact ⟨rfl, by simp [bcells], Or.inl ⟨rfl, rfl, hn rfl⟩⟩
    | some ad => exact ⟨rfl, by simp [bcells], Or.inr ⟨ad, rfl, fun j u h => by simp [bcells] at h⟩⟩
  · refine ⟨bcells_length l, bcells_one l, Or.inr ⟨_, rfl, fun k u hk => ?_⟩⟩
    obtain ⟨i, j, hi, hj, rfl, rfl⟩ := bcells_inv hk
    rw [addB_mk, ← hc i hi j hj]
    congr 2
    omega

end Go.Proofs.YtlhgjplipgandaaDoor
