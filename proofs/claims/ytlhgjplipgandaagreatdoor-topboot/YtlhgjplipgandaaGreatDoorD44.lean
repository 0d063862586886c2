/- Joined texts: Build. -/
import Derived.Shelf.Strings.Builder1
import Derived.Test.YtlhgjplipgandaaGreatDoorD1
set_option maxRecDepth 100000
set_option maxHeartbeats 8000000
set_option linter.unusedSimpArgs false
namespace Go.Proofs.YtlhgjplipgandaaGreatDoor
open Go.Shelf Go.RowKit
def renW:Go.Shelf.Ren:=⟨fun|166=>140|240=>186|276=>219|n=>n,fun|37=>174|70=>205|72=>207|75=>53|80=>210|164=>272|0=>0|3=>3|4=>4|5=>5|9=>9|20=>20|n=>n,fun|n=>n⟩
theorem laysW:Go.Proofs.Lays.n166 Tryz.prog renW:={
 mixed:=by kernel_rfl
 f166:=Tryz.func140.trans (congrArg some (by kernel_rfl))
 f240:=Tryz.func186.trans (congrArg some (by kernel_rfl))
 f276:=Tryz.func219.trans (congrArg some (by kernel_rfl))
 t0:=Tryz.underlying0
 a0:=Tryz.isAgg0
 z0:=Tryz.sizeOf0
 v0:=Tryz.zeroValue0
 t3:=Tryz.underlying3
 a3:=Tryz.isAgg3
 z3:=Tryz.sizeOf3
 v3:=Tryz.zeroValue3
 t4:=Tryz.underlying4
 a4:=Tryz.isAgg4
 z4:=Tryz.sizeOf4
 v4:=Tryz.zeroValue4
 t9:=Tryz.underlying9
 a9:=Tryz.isAgg9
 z9:=Tryz.sizeOf9
 v9:=Tryz.zeroValue9
 t20:=Tryz.underlying20
 a20:=Tryz.isAgg20
 z20:=Tryz.sizeOf20
 v20:=Tryz.zeroValue20
 t37:=Tryz.underlying174
 a37:=Tryz.isAgg174
 z37:=Tryz.sizeOf174
 v37:=Tryz.zeroValue174
 t70:=Tryz.underlying205
 a70:=Tryz.isAgg205
 z70:=Tryz.sizeOf205
 v70:=Tryz.zeroValue205
 t72:=Tryz.underlying207
 a72:=Tryz.isAgg207
 z72:=Tryz.sizeOf207
 v72:=Tryz.zeroValue207
 t75:=Tryz.underlying53
 a75:=Tryz.isAgg53
 z75:=Tryz.sizeOf53
 v75:=Tryz.zeroValue53
 t164:=Tryz.underlying272
 a164:=Tryz.isAgg272
 z164:=Tryz.sizeOf272
 v164:=Tryz.zeroValue272 }
theorem extraW:Builder.Extra Tryz.prog renW:={
 sizeBuilder:=by kernel_rfl
 liesBuilder:=by kernel_rfl
 t5:=Tryz.underlying5
 a5:=Tryz.isAgg5
 z5:=Tryz.sizeOf5
 v5:=Tryz.zeroValue5
 infoByte:=by kernel_rfl
 cellsByte:=by kernel_rfl
 sizeByte:=by kernel_rfl
 neB5:=by decide }
def renS:Go.Shelf.Ren:=⟨fun|169=>142|n=>n,fun|70=>205|9=>9|0=>0|72=>207|37=>174|127=>254|3=>3|5=>5|n=>n,fun|n=>n⟩
theorem laysS:Go.Proofs.Lays.n169 Tryz.prog renS:={
 mixed:=by kernel_rfl
 f169:=Tryz.func142.trans (congrArg some (by kernel_rfl))
 t0:=Tryz.underlying0
 a0:=Tryz.isAgg0
 z0:=Tryz.sizeOf0
 v0:=Tryz.zeroValue0
 t3:=Tryz.underlying3
 a3:=Tryz.isAgg3
 z3:=Tryz.sizeOf3
 v3:=Tryz.zeroValue3
 t9:=Tryz.underlying9
 a9:=Tryz.isAgg9
 z9:=Tryz.sizeOf9
 v9:=Tryz.zeroValue9
 t37:=Tryz.underlying174
 a37:=Tryz.isAgg174
 z37:=Tryz.sizeOf174
 v37:=Tryz.zeroValue174
 t70:=Tryz.underlying205
 a70:=Tryz.isAgg205
 z70:=Tryz.sizeOf205
 v70:=Tryz.zeroValue205
 t72:=Tryz.underlying207
 a72:=Tryz.isAgg207
 z72:=Tryz.sizeOf207
 v72:=Tryz.zeroValue207
 t127:=Tryz.underlying254
 a127:=Tryz.isAgg254
 z127:=Tryz.sizeOf254
 v127:=Tryz.zeroValue254 }
theorem extraS:Builder.Extra Tryz.prog renS:={
 sizeBuilder:=by kernel_rfl
 liesBuilder:=by kernel_rfl
 t5:=Tryz.underlying5
 a5:=Tryz.isAgg5
 z5:=Tryz.sizeOf5
 v5:=Tryz.zeroValue5
 infoByte:=by kernel_rfl
 cellsByte:=by kernel_rfl
 sizeByte:=by kernel_rfl
 neB5:=by decide }
def zcc(B b:Nat)(s:List UInt8)(w:World):Prop:=Lib.IsBuilder 207 5 B b (Lib.byteCells s) w∧B≤w.heap.size
theorem zmf(w:World):zcc w.heap.size w.heap.size [] (w.alloc (.cells #[.pointer none,.slice none 0 0] 207)):=⟨Lib.fresh_isBuilder _ _ w,by simp⟩
theorem zkY(B b:Nat)(s:List UInt8)(t:ByteArray)(w:World)(h:zcc B b s w)(hl:s.length+t.size≤140737488355328) :
 Calls Tryz.prog 140 #[.pointer (some ⟨b,0,none⟩),.string t] w fun e w'=>e=.returned (.tuple #[.int .i64 t.size,.nilIface])∧zcc B b (s++t.data.toList) w'∧Below B w w':=by
 refine(Any.Builder_WriteString laysW extraW B b _ t w h.1 (by rw[Lib.byteCells_length];exact hl) h.2).mono ?_;rintro e w' ⟨rfl,h1,h2⟩;refine⟨rfl,⟨Or.inr ?_,?_⟩,h2⟩
 ·rw[Lib.byteCells_append,←Lib.strCells_eq];exact h1
 ·have:=h2.size;exact Nat.le_trans h.2 this
theorem zlY(B b:Nat)(s:List UInt8)(w:World)(h:zcc B b s w) :
 Calls Tryz.prog 142 #[.pointer (some ⟨b,0,none⟩)] w fun e w'=>e=.returned (.string ⟨s.toArray⟩)∧Below B w w' :=
 Any.Builder_String_any laysS extraS B b s w h.1 h.2
end Go.Proofs.YtlhgjplipgandaaGreatDoor
