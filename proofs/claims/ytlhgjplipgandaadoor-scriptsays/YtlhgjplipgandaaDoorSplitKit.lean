/- Rows of texts that a call makes. -/
import Derived.Test.YtlhgjplipgandaaDoorAppend
import Derived.Test.YtlhgjplipgandaaDoorBuf
import Derived.Test.YtlhgjplipgandaaDoorHidT
import Derived.Deep.MidRow
namespace Go.Proofs.YtlhgjplipgandaaDoor
open Go.RowKit Go.BigFrame
attribute [local go_sem] Later.cell Later.frozen

theorem infoSp : (Tryd.prog.info? 9).map (fun i => (i.zero, i.size, i.bytes)) = some (some (.string ByteArray.empty), 1, 16) := by kernel_rfl
def txV (l : List ByteArray) : List Value := l.map Value.string
/-- A row of texts in memory. -/
def TxAt (w : World) (a : Option Addr) (xs : List ByteArray) : Prop := xs = [] ∨ ∃ b o, a = some ⟨b, o, none⟩ ∧ ∀ i (h : i < xs.length), w.cell? ⟨b, o + i, none⟩ = some (.string xs[i])
theorem newRowSp {w : World} {n : Nat} (hn : w.heap.size = n) (vs : List Value) (T : TypeId) (j : Nat) (u : Value) (h : vs[j]? = some u) : (w.alloc (.cells vs.toArray T)).cell? (Addr.add ⟨n, 0, none⟩ j) = some u := by
  subst hn
  rw [Addr.add_mid, Nat.zero_add]
  have e := heap_alloc_new w (.cells vs.toArray T)
  unfold World.cell?
  rw [e]
  simpa using h
theorem tx_of_owned {w : World} {base e n : Nat} {v : Value} {xs : List ByteArray} (h : w.ownsRow base e 1 v n (txV xs)) (hn : n = xs.length) : ∃ a c, v = .slice a xs.length c ∧ TxAt w a xs ∧ (a = none → c = 0) ∧ xs.length ≤ c := by
  subst hn
  rcases h.2 with ⟨rfl, h0⟩ | ⟨g, cap, cur, rfl, hg, hh, hnc, hcm, hcs, ht⟩
  · obtain rfl := List.eq_nil_of_length_eq_zero h0
    exact ⟨none, 0, rfl, Or.inl rfl, fun _ => rfl, Nat.le_refl 0⟩
  · refine ⟨_, cap, rfl, Or.inr ⟨g, 0, rfl, fun i hi => ?_⟩, by simp, hnc⟩
    have hc := h.cellAt i (by omega)
    rw [Nat.zero_add, hc]
    simp [txV, List.getElem?_eq_getElem hi]
theorem TxAt.later {w w' : World} {a : Option Addr} {xs : List ByteArray} (h : TxAt w a xs) (hb : Below w.heap.size w w') : TxAt w' a xs := by
  rcases h with h | ⟨b, o, ha, hc⟩
  · exact Or.inl h
  · exact Or.inr ⟨b, o, ha, fun i hi => cellB_later' hb (hc i hi)⟩
end Go.Proofs.YtlhgjplipgandaaDoor
