/- Joined. -/
import Derived.Shelf.Strings.Builder1
import Derived.Test.YtlhgjplipgandaaGreatDoorE1
set_option maxRecDepth 100000
set_option maxHeartbeats 8000000
set_option linter.unusedSimpArgs false
set_option linter.unusedSectionVars false
namespace Go.Proofs.YtlhgjplipgandaaGreatDoor
open Tryz
open Go.Shelf Go.RowKit
def aaz:Go.Shelf.Ren:=⟨fun|166=>140|240=>186|276=>219|n=>n,fun|37=>174|70=>205|72=>207|75=>53|80=>210|164=>272|0=>0|3=>3|4=>4|5=>5|9=>9|20=>20|n=>n,fun|n=>n⟩
theorem abc:Go.Proofs.Lays.n166 prog aaz:={
 mixed:=kR
 f166:=func140.trans (adI some kR)
 f240:=func186.trans (adI some kR)
 f276:=func219.trans (adI some kR)
 t0:=underlying0
 a0:=Tryz.isAgg0
 z0:=Tryz.sizeOf0
 v0:=Tryz.zeroValue0
 t3:=underlying3
 a3:=Tryz.isAgg3
 z3:=Tryz.sizeOf3
 v3:=Tryz.zeroValue3
 t4:=underlying4
 a4:=Tryz.isAgg4
 z4:=Tryz.sizeOf4
 v4:=Tryz.zeroValue4
 t9:=underlying9
 a9:=Tryz.isAgg9
 z9:=Tryz.sizeOf9
 v9:=Tryz.zeroValue9
 t20:=underlying20
 a20:=Tryz.isAgg20
 z20:=Tryz.sizeOf20
 v20:=Tryz.zeroValue20
 t37:=underlying174
 a37:=Tryz.isAgg174
 z37:=Tryz.sizeOf174
 v37:=Tryz.zeroValue174
 t70:=underlying205
 a70:=Tryz.isAgg205
 z70:=Tryz.sizeOf205
 v70:=Tryz.zeroValue205
 t72:=underlying207
 a72:=Tryz.isAgg207
 z72:=Tryz.sizeOf207
 v72:=Tryz.zeroValue207
 t75:=underlying53
 a75:=Tryz.isAgg53
 z75:=Tryz.sizeOf53
 v75:=Tryz.zeroValue53
 t164:=underlying272
 a164:=Tryz.isAgg272
 z164:=Tryz.sizeOf272
 v164:=Tryz.zeroValue272 }
theorem Zp:Builder.Extra prog aaz:={
 sizeBuilder:=kR
 liesBuilder:=kR
 t5:=underlying5
 a5:=Tryz.isAgg5
 z5:=Tryz.sizeOf5
 v5:=Tryz.zeroValue5
 infoByte:=kR
 cellsByte:=kR
 sizeByte:=kR
 neB5:=by decide }
def aay:Go.Shelf.Ren:=⟨fun|169=>142|n=>n,fun|70=>205|9=>9|0=>0|72=>207|37=>174|127=>254|3=>3|5=>5|n=>n,fun|n=>n⟩
theorem abb:Go.Proofs.Lays.n169 prog aay:={
 mixed:=kR
 f169:=func142.trans (adI some kR)
 t0:=underlying0
 a0:=Tryz.isAgg0
 z0:=Tryz.sizeOf0
 v0:=Tryz.zeroValue0
 t3:=underlying3
 a3:=Tryz.isAgg3
 z3:=Tryz.sizeOf3
 v3:=Tryz.zeroValue3
 t9:=underlying9
 a9:=Tryz.isAgg9
 z9:=Tryz.sizeOf9
 v9:=Tryz.zeroValue9
 t37:=underlying174
 a37:=Tryz.isAgg174
 z37:=Tryz.sizeOf174
 v37:=Tryz.zeroValue174
 t70:=underlying205
 a70:=Tryz.isAgg205
 z70:=Tryz.sizeOf205
 v70:=Tryz.zeroValue205
 t72:=underlying207
 a72:=Tryz.isAgg207
 z72:=Tryz.sizeOf207
 v72:=Tryz.zeroValue207
 t127:=underlying254
 a127:=Tryz.isAgg254
 z127:=Tryz.sizeOf254
 v127:=Tryz.zeroValue254 }
theorem Zo:Builder.Extra prog aay:={
 sizeBuilder:=kR
 liesBuilder:=kR
 t5:=underlying5
 a5:=Tryz.isAgg5
 z5:=Tryz.sizeOf5
 v5:=Tryz.zeroValue5
 infoByte:=kR
 cellsByte:=kR
 sizeByte:=kR
 neB5:=by decide }
def od(B b:Nat)(s:List UInt8)(w:World):Prop:=Lib.IsBuilder 207 5 B b (Lib.byteCells s) w/\B<=w.heap.size
theorem Qk(w:World):od w.heap.size w.heap.size [] (w.alloc (.cells #[.pointer none,.slice none 0 0] 207)):=⟨Lib.fresh_isBuilder _ _ w,sM⟩
theorem NS(B b:Nat)(s:List UInt8)(t:ByteArray)(w:World)(h:od B b s w)(hl:s.length+t.size<=140737488355328) :
 Calls prog 140 #[.pointer (some ⟨b,0,none⟩),.string t] w fun e w'=>e=.returned (.tuple #[i6 t.size,.nilIface])/\od B b (s++t.data.toList) w'/\Below B w w':=by
 refine(Any.Builder_WriteString abc Zp B b _ t w h.1 (by rw[Lib.byteCells_length];exact hl) h.2).mono ?_;rintro e w' ⟨rfl,h1,h2⟩;refine⟨rfl,⟨ir ?_,?_⟩,h2⟩
 ·rw[Lib.byteCells_append,<-Lib.strCells_eq];exact h1
 ·have:=h2.size;exact acv h.2 this
theorem PB(B b:Nat)(s:List UInt8)(w:World)(h:od B b s w) :
 Calls prog 142 #[.pointer (some ⟨b,0,none⟩)] w fun e w'=>e=.returned (.string ⟨s.toArray⟩)/\Below B w w' :=
 Any.Builder_String_any abb Zo B b s w h.1 h.2
end Go.Proofs.YtlhgjplipgandaaGreatDoor
