/- Joined texts: Open. -/
import Derived.Test.YtlhgjplipgandaaGreatDoorChecked
import Derived.ProofKit
import Derived.OpenShut
import Derived.Lib.SmallJoins
import Derived.Test.YtlhgjplipgandaaGreatDoorD1
set_option maxRecDepth 100000
set_option maxHeartbeats 8000000
set_option linter.unusedSimpArgs false
namespace Go.Proofs.YtlhgjplipgandaaGreatDoor
open Go.ChangeShapes Go.WideShapes Go.RowKit
theorem own:ownKnob Tryz.prog.godebug=none:=by kernel_rfl
theorem laidOut:laidOutB Tryz.prog=true:=by kernel_rfl
theorem in64{n:Int}(h:(Lit.int .i64 n).wf=true):zai n:=bounds_i64 h
section
variable{H:Type}{enc:TypeId × Value→H}{W:World}{base b0:Nat}{spare:Nat→Bool}{held:Bool}{r:Reach}{v:Value}{d:DataW H}{p:List MemPlace}
theorem openInt(hv:Value.okWide Tryz.prog W r b0 3 v)(h:DataW.Trod enc Tryz.prog W base spare held 3 v d p):∃n,v=.int .i64 n∧zai n:=by
 obtain⟨x,rfl,rfl,rfl,wx⟩:=open_int Tryz.underlying3 hv h;exact⟨x,rfl,in64 wx⟩
end
end Go.Proofs.YtlhgjplipgandaaGreatDoor
