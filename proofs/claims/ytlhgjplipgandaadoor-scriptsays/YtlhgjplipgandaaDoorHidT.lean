/- A fact that the walk is not to see. -/
import Derived.Test.YtlhgjplipgandaaDoorLater
namespace Go.Proofs.YtlhgjplipgandaaDoor
open Go.RowKit
theorem hidT {p : Prop} (h : p) : Hid p := h
end Go.Proofs.YtlhgjplipgandaaDoor
