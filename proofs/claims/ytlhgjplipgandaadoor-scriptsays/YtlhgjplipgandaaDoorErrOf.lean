/- An error by its number. -/
import Derived.Test.YtlhgjplipgandaaDoorLater
namespace Go.Proofs.YtlhgjplipgandaaDoor
open Go.RowKit
def errOf (n : Int) : Value := if n = 0 then .nilIface else .iface 52 (.int .i64 n)
end Go.Proofs.YtlhgjplipgandaaDoor
