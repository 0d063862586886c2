/- Joined. -/
import Derived.Test.YtlhgjplipgandaaGreatDoorRows
import Derived.Lib.LaidTab
import Derived.LaidSub
import Derived.Stop.LaidErr
import Derived.Shelf.Vars
import Derived.ProofKit
import Derived.Test.YtlhgjplipgandaaGreatDoorF36
set_option maxRecDepth 100000
set_option maxHeartbeats 8000000
set_option linter.unusedSimpArgs false
set_option linter.unusedSectionVars false
namespace Go.Proofs.YtlhgjplipgandaaGreatDoor
open _root_.Go.Proofs.Tryz
open Go.RowKit
theorem aeD:prog.globalNamed "internal/strconv.uint64pow10"=some 0:=kR
theorem adT:(prog.globals[0]?).map (·.type)=some 268:=kR
theorem aeu:prog.cellsOf 268=20:=kR
theorem aev:prog.cellsOf 85=1:=kR
theorem gSx:prog.globalNamed "strconv.ErrSyntax"=some 4:=kR
theorem aeC:(prog.globals[4]?).map (·.type)=some 53:=kR
theorem gRg:prog.globalNamed "strconv.ErrRange"=some 5:=kR
theorem aeB:(prog.globals[5]?).map (·.type)=some 53:=kR
theorem cES:prog.cellsOf 314=1:=kR
theorem abK:prog.cellsOf 9=1:=kR
theorem Vc: "*" ++ "errors.errorString" = "*errors.errorString":=dM
theorem Zg(u:TypeId)(h:prog.typeName? 3 u=some "*errors.errorString"):u=312 :=
 typeName_ptr_named (nm := "errors.errorString") (by rw[Vc];kernel_rfl) kR dM u (by rw[Vc];exact h)
theorem libW_ofC{w:World}(hL:laidMetH prog Rows.consoleSaysRow.laid w)(hs:w.ShapedOpen prog):nk w:=by
 replace hL:=(laidMetH_iff.1 hL).1
 refine⟨?_,?_,?_,?_⟩
 ·have h:=hL.filter (fun x=>x.1 == "internal/strconv.uint64pow10");exact Lib.tabIs_of_head (rest:=[]) aeD adT underlying268 underlying85 aev aeu h
 ·exact cell_of_shapedOpen_int (t:=3) (zero:=#[i6 0]) hs dK kR rfl kR kR underlying3
 ·have h:=hL.filter (fun x=>x.1 == "strconv.ErrSyntax");obtain⟨a,s,hv,_⟩:=laid_sentinel (r:=[]) h gSx aeC underlying53 Zg underlying312 underlying314 rfl rfl underlying9 cES abK;exact⟨_,_,(World.var?_cell gSx hv 0).trans rfl⟩
 ·have h:=hL.filter (fun x=>x.1 == "strconv.ErrRange");obtain⟨a,s,hv,_⟩:=laid_sentinel (r:=[]) h gRg aeB underlying53 Zg underlying312 underlying314 rfl rfl underlying9 cES abK;exact⟨_,_,(World.var?_cell gRg hv 0).trans rfl⟩
end Go.Proofs.YtlhgjplipgandaaGreatDoor
