/- slices.Concat of two lists: new memory with the cells of the one, then of the other. -/
import Derived.Test.YthmeaclekedilacAppend
namespace Go.Proofs.Ythmeaclekedilac
open Go.RowKit
theorem cellB_later {w w' : World} {b o : Nat} {v : Value} (hb : Below w.heap.size w w') (h : w.cell? ⟨b, o, none⟩ = some v) : w'.cell? ⟨b, o, none⟩ = some v := cellA_later hb h




end Go.Proofs.Ythmeaclekedilac
