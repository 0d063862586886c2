/- What the library's variables hold, out of a row's list and the world's shape. -/
import Derived.Test.YtlhgjplipgandaaDoorRows
import Derived.Test.YtlhgjplipgandaaDoorScript7
import Derived.Lib.LaidTab
import Derived.LaidSub
import Derived.Stop.LaidErr
import Derived.Shelf.Vars
import Derived.ProofKit
namespace Go.Proofs.YtlhgjplipgandaaDoor
open Go.RowKit

set_option maxRecDepth 100000
theorem gTab : Tryd.prog.globalNamed "internal/strconv.uint64pow10" = some 1 := by kernel_rfl
theorem gTabT : (Tryd.prog.globals[1]?).map (·.type) = some 98 := by kernel_rfl
theorem cTab : Tryd.prog.cellsOf 98 = 20 := by kernel_rfl
theorem cU64 : Tryd.prog.cellsOf 86 = 1 := by kernel_rfl
theorem gSx : Tryd.prog.globalNamed "strconv.ErrSyntax" = some 2 := by kernel_rfl
theorem gSxT : (Tryd.prog.globals[2]?).map (·.type) = some 27 := by kernel_rfl
theorem gRg : Tryd.prog.globalNamed "strconv.ErrRange" = some 3 := by kernel_rfl
theorem gRgT : (Tryd.prog.globals[3]?).map (·.type) = some 27 := by kernel_rfl
theorem cES : Tryd.prog.cellsOf 116 = 1 := by kernel_rfl
theorem cStr : Tryd.prog.cellsOf 9 = 1 := by kernel_rfl
theorem starES : "*" ++ "errors.errorString" = "*errors.errorString" := by decide
theorem rowES (u : TypeId) (h : Tryd.prog.typeName? 3 u = some "*errors.errorString") : u = 114 :=
  typeName_ptr_named (nm := "errors.errorString") (by rw [starES]; kernel_rfl) (by kernel_rfl) (by decide) u (by rw [starES]; exact h)
theorem libW_of {w : World} (hL : laidMetH Tryd.prog Rows.topTextRow.laid w) (hs : w.ShapedOpen Tryd.prog) : LibW w := by
  replace hL := (laidMetH_iff.1 hL).1
  refine ⟨?_, ?_, ?_, ?_⟩
  · have h := hL.filter (fun x => x.1 == "internal/strconv.uint64pow10")
    exact Lib.tabIs_of_head (rest := []) gTab gTabT Tryd.underlying98 Tryd.underlying86 cU64 cTab h
  · exact cell_of_shapedOpen_int (t := 3) (zero := #[.int .i64 0]) hs (by decide +kernel) (by kernel_rfl) rfl (by kernel_rfl) (by kernel_rfl) Tryd.underlying3
  · have h := hL.filter (fun x => x.1 == "strconv.ErrSyntax")
    obtain ⟨a, s, hv, _⟩ := laid_sentinel (r := []) h gSx gSxT Tryd.underlying27 rowES Tryd.underlying114 Tryd.underlying116 rfl rfl Tryd.underlying9 cES cStr
    exact ⟨_, _, (World.var?_cell gSx hv 0).trans rfl⟩
  · have h := hL.filter (fun x => x.1 == "strconv.ErrRange")
    obtain ⟨a, s, hv, _⟩ := laid_sentinel (r := []) h gRg gRgT Tryd.underlying27 rowES Tryd.underlying114 Tryd.underlying116 rfl rfl Tryd.underlying9 cES cStr
    exact ⟨_, _, (World.var?_cell gRg hv 0).trans rfl⟩
end Go.Proofs.YtlhgjplipgandaaDoor
