/- Joined texts: RDrv2, RDrv3. -/
import Derived.Deep.Cut
import Derived.Test.YtlhgjplipgandaaGreatDoorD17
set_option maxRecDepth 100000
set_option maxHeartbeats 8000000
set_option linter.unusedSimpArgs false
namespace Go.Proofs.YtlhgjplipgandaaGreatDoor
open Go.RowKit Go.BigFrame Go.Maps
attribute [local go_sem] ze.cell ze.frozen


end Go.Proofs.YtlhgjplipgandaaGreatDoor
