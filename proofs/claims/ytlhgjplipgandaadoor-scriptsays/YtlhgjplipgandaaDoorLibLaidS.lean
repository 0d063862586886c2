/- What the library's variables hold, out of ScriptSays' list and the world's shape. -/
import Derived.Test.YtlhgjplipgandaaDoorLibLaid
namespace Go.Proofs.YtlhgjplipgandaaDoor
open Go.RowKit

set_option maxRecDepth 100000
theorem libW_ofS {w : World} (hL : laidMetH Tryd.prog Rows.scriptSaysRow.laid w) (hs : w.ShapedOpen Tryd.prog) : LibW w := by
  replace hL := (laidMetH_iff.1 hL).1
  refine ⟨?_, ?_, ?_, ?_⟩
  · have h := hL.filter (fun x => x.1 == "internal/strconv.uint64pow10")
    exact Lib.tabIs_of_head (rest := []) gTab gTabT Tryd.underlying98 Tryd.underlying86 cU64 cTab h
  · exact cell_of_shapedOpen_int (t := 3) (zero := #[.int .i64 0]) hs (by decide +kernel) (by kernel_rfl) rfl (by kernel_rfl) (by kernel_rfl) Tryd.underlying3
  · have h := hL.filter (fun x => x.1 == "strconv.ErrSyntax")
    obtain ⟨a, s, hv, _⟩ := laid_sentinel (r := []) h gSx gSxT Tryd.underlying27 rowES Tryd.underlying114 Tryd.underlying116 rfl rfl Tryd.underlying9 cES cStr
    exact ⟨_, _, (World.var?_cell gSx hv 0).trans rfl⟩
  · have h := hL.filter (fun x => x.1 == "strconv.ErrRange")
    obtain ⟨a, s, hv, _⟩ := laid_sentinel (r := []) h gRg gRgT Tryd.underlying27 rowES Tryd.underlying114 Tryd.underlying116 rfl rfl Tryd.underlying9 cES cStr
    exact ⟨_, _, (World.var?_cell gRg hv 0).trans rfl⟩
end Go.Proofs.YtlhgjplipgandaaDoor
