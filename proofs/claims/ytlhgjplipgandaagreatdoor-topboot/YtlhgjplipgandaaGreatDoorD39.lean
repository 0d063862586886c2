/- Joined texts: RCache3, RCache4, RPut. -/
import Derived.Deep.MidRow
import Derived.Test.YtlhgjplipgandaaGreatDoorD8
import Derived.Test.YtlhgjplipgandaaGreatDoorD35
set_option maxRecDepth 100000
set_option maxHeartbeats 8000000
set_option linter.unusedSimpArgs false
namespace Go.Proofs.YtlhgjplipgandaaGreatDoor
open Go.RowKit Go.BigFrame
attribute [local go_sem] ze.cell ze.frozen


structure RPutK(l:List Bf)(x:Bf)(gone:Int)(k:Nat)(O:List Bf)(b:Bool):Prop where
 rise:O.Pairwise ltB
 len:O.length≤2*k
 mem:∀y,y∈O↔(b=true∧y=x)∨∃i,∃hi:i<l.length,i<k∧(i:Int) ≠ gone∧l[i]=y∧y.pl ≠ x.pl
 no:b=false→∀i (hi:i<l.length),i<k→l[i].pl<x.pl
 yes:b=true→∀i (hi:i<l.length),k≤i→x.pl<l[i].pl

end Go.Proofs.YtlhgjplipgandaaGreatDoor
