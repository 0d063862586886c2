/- Joined. -/
import Derived.Shelf.Strings.Builder1
import Derived.Shelf.Strings.Builder2
import Derived.Shelf.Strings.OnBuilder
import Derived.Shelf.Small.Utf8
import Derived.Shelf.Small.Strs
import Derived.Shelf.Strings.BuilderF
import Derived.Shelf.Strings.BuilderK
import Derived.Shelf.Strings.Builder2Cap
import Derived.Shelf.Strconv.Atoi
import Derived.Shelf.Strconv.Itoa0
import Derived.Shelf.Strconv.Itoa1
import Derived.Shelf.LaysM
import Derived.Shelf.Strconv.Itoa2
import Derived.Shelf.Strconv.Itoa3
import Derived.Shelf.Strconv.AtoiErrFast
import Derived.Shelf.Strconv.ParseIntEmpty
import Derived.Shelf.Strconv.AtoiFail
import Derived.Shelf.Strconv.Clone
import Derived.Shelf.Strconv.SyntaxError
import Derived.Shelf.LaysC
import Derived.Shelf.Strconv.ToError
import Derived.Shelf.Strconv.AtoiErr
import Derived.Shelf.Strconv.ErrVar
import Derived.Shelf.Strconv.Lower
import Derived.Shelf.Strconv.ParseUint10
import Derived.Shelf.Strconv.ParseUint10Empty
import Derived.Shelf.Strconv.ParseUint10Any
import Derived.Shelf.Strconv.ParseInt10
import Derived.Shelf.Strconv.AtoiLong
import Derived.Shelf.Strconv.AtoiInnerAll
import Derived.Shelf.Strconv.RangeError
import Derived.Shelf.Strconv.ToErrorRange
import Derived.Shelf.Strconv.AtoiAll
import Derived.Shelf.Strconv.ErrVarAll
import Derived.Shelf.Strings.Search1
import Derived.Shelf.Strings.Search2
import Derived.Shelf.Strings.Cut
import Derived.Shelf.Strings.Shaped
import Derived.Shelf.Strings.Runes
import Derived.Shelf.Strings.IndexAny
import Derived.Shelf.Strings.AsciiSet
import Derived.Shelf.Strings.IndexAnyAll
import Derived.Shelf.Strings.BuilderCap
import Derived.Test.YtlhgjplipgandaaGreatDoorProg
set_option maxRecDepth 100000
set_option maxHeartbeats 8000000
set_option linter.unusedSimpArgs false
set_option linter.unusedSectionVars false
namespace Go.Proofs
open Go.Shelf
def Tryz.Cw:Go.Shelf.Ren:=⟨fun|156=>92|165=>143|166=>140|169=>142|240=>186|241=>187|276=>219|277=>220|n=>n,fun|31=>51|9=>9|3=>3|4=>4|0=>0|20=>20|72=>207|76=>208|70=>205|37=>174|75=>53|127=>254|164=>272|5=>5|80=>210|n=>n,fun|n=>n⟩
theorem Tryz.XE:Go.Proofs.Lays.n156 Tryz.prog Tryz.Cw:=⟨by kernel_rfl,Tryz.func92.trans (congrArg some (by kernel_rfl)),Tryz.func143.trans (congrArg some (by kernel_rfl)),Tryz.func140.trans (congrArg some (by kernel_rfl)),Tryz.func142.trans (congrArg some (by kernel_rfl)),Tryz.func186.trans (congrArg some (by kernel_rfl)),Tryz.func187.trans (congrArg some (by kernel_rfl)),Tryz.func219.trans (congrArg some (by kernel_rfl)),Tryz.func220.trans (congrArg some (by kernel_rfl)),Tryz.underlying0,Tryz.isAgg0,Tryz.sizeOf0,Tryz.zeroValue0,Tryz.underlying3,Tryz.isAgg3,Tryz.sizeOf3,Tryz.zeroValue3,Tryz.underlying4,Tryz.isAgg4,Tryz.sizeOf4,Tryz.zeroValue4,Tryz.underlying9,Tryz.isAgg9,Tryz.sizeOf9,Tryz.zeroValue9,Tryz.underlying20,Tryz.isAgg20,Tryz.sizeOf20,Tryz.zeroValue20,Tryz.underlying51,Tryz.isAgg51,Tryz.sizeOf51,Tryz.zeroValue51,Tryz.underlying174,Tryz.isAgg174,Tryz.sizeOf174,Tryz.zeroValue174,Tryz.underlying205,Tryz.isAgg205,Tryz.sizeOf205,Tryz.zeroValue205,Tryz.underlying207,Tryz.isAgg207,Tryz.sizeOf207,Tryz.zeroValue207,Tryz.underlying53,Tryz.isAgg53,Tryz.sizeOf53,Tryz.zeroValue53,Tryz.underlying208,Tryz.isAgg208,Tryz.sizeOf208,Tryz.zeroValue208,Tryz.underlying254,Tryz.isAgg254,Tryz.sizeOf254,Tryz.zeroValue254,Tryz.underlying272,Tryz.isAgg272,Tryz.sizeOf272,Tryz.zeroValue272⟩
theorem Tryz.BQ:Builder.Extra Tryz.prog Tryz.Cw:={
 sizeBuilder:=by kernel_rfl
 liesBuilder:=by kernel_rfl
 t5:=Tryz.underlying5
 a5:=Tryz.isAgg5
 z5:=Tryz.sizeOf5
 v5:=Tryz.zeroValue5
 infoByte:=by kernel_rfl
 cellsByte:=by kernel_rfl
 sizeByte:=by kernel_rfl
 neB5:=by decide }
open Go.RowKit in
theorem Tryz.strings_Join(bk o c:Nat)(xs:List ByteArray)(sep:ByteArray)(w:World)(D0:∀(j:Nat) x,xs[j]?=some x→w.cell? ⟨bk,o+j,none⟩=some (.string x))(oQ:bk<w.heap.size)(hN:xs.length≤140737488355328)(bU:xs.length≤c)(hlen:(Lib.join (xs.map (·.data.toList)) sep.data.toList).length≤140737488355328) :
 Calls Tryz.prog 92 #[.slice (some ⟨bk,o,none⟩) xs.length c,.string sep] w fun e w'=>e=.returned (.string ⟨(Lib.join (xs.map (·.data.toList)) sep.data.toList).toArray⟩)∧Below w.heap.size w w':=Any.strings_Join Tryz.XE Tryz.BQ bk o c xs sep w D0 oQ hN bU hlen
def Tryz.Ll:Go.Shelf.Ren:=⟨fun|119=>194|n=>n,fun|21=>21|4=>4|n=>n,fun|n=>n⟩
theorem Tryz.XA:Go.Proofs.Lays.n119 Tryz.prog Tryz.Ll:=⟨by kernel_rfl,Tryz.func194.trans (congrArg some (by kernel_rfl)),Tryz.underlying4,Tryz.isAgg4,Tryz.sizeOf4,Tryz.zeroValue4,Tryz.underlying21,Tryz.isAgg21,Tryz.sizeOf21,Tryz.zeroValue21⟩
theorem Tryz.utf8_ValidRune(r:Int)(w:World) :
 Calls Tryz.prog 194 #[.int .i32 r] w fun e w'=>e=.returned (.bool (Lib.validRune r))∧w'=w:=Any.utf8_ValidRune Tryz.XA r w
def Tryz.Lm:Go.Shelf.Ren:=⟨fun|137=>193|217=>225|266=>237|n=>n,fun|9=>9|5=>5|3=>3|n=>n,fun|n=>n⟩
theorem Tryz.XB:Go.Proofs.Lays.n137 Tryz.prog Tryz.Lm:=⟨by kernel_rfl,Tryz.func193.trans (congrArg some (by kernel_rfl)),Tryz.func225.trans (congrArg some (by kernel_rfl)),Tryz.func237.trans (congrArg some (by kernel_rfl)),Tryz.underlying3,Tryz.isAgg3,Tryz.sizeOf3,Tryz.zeroValue3,Tryz.underlying5,Tryz.isAgg5,Tryz.sizeOf5,Tryz.zeroValue5,Tryz.underlying9,Tryz.isAgg9,Tryz.sizeOf9,Tryz.zeroValue9⟩
open Go.RowKit in
theorem Tryz.strings_IndexByte(s:ByteArray)(c:Int)(w:World) :
 Calls Tryz.prog 193 #[.string s,.int .u8 c] w fun e w'=>e=.returned (.int .i64 (Lib.indexByte s.data.toList c.toNat.toUInt8))∧w'=w:=Any.strings_IndexByte Tryz.XB s c w
def Tryz.aaU:Go.Shelf.Ren:=⟨fun|318=>216|n=>n,fun|3=>3|4=>4|n=>n,fun|n=>n⟩
def Tryz.aas:Go.Shelf.Ren:=⟨fun|246=>139|283=>182|284=>183|285=>184|286=>185|129=>215|317=>214|318=>216|319=>217|320=>218|337=>233|338=>234|n=>n,fun|2=>2|3=>3|9=>9|4=>4|171=>249|0=>0|53=>85|37=>174|5=>5|173=>252|212=>268|51=>269|20=>20|213=>270|46=>176|232=>293|233=>294|n=>n,fun|17=>0|18=>2|19=>3|n=>n⟩
def Tryz.aar:Go.Shelf.Ren:=⟨fun|243=>90|246=>139|283=>182|284=>183|285=>184|286=>185|129=>215|317=>214|318=>216|319=>217|320=>218|337=>233|338=>234|n=>n,fun|3=>3|9=>9|2=>2|4=>4|171=>249|0=>0|53=>85|37=>174|5=>5|173=>252|212=>268|51=>269|20=>20|213=>270|46=>176|232=>293|233=>294|n=>n,fun|17=>0|18=>2|19=>3|n=>n⟩
def Tryz.J1:Go.Shelf.Ren:=⟨fun|171=>43|243=>90|246=>139|283=>182|284=>183|285=>184|286=>185|129=>215|317=>214|318=>216|319=>217|320=>218|337=>233|338=>234|n=>n,fun|3=>3|9=>9|2=>2|4=>4|171=>249|0=>0|53=>85|37=>174|5=>5|173=>252|212=>268|51=>269|20=>20|213=>270|46=>176|232=>293|233=>294|n=>n,fun|17=>0|18=>2|19=>3|n=>n⟩
theorem Tryz.UH:Go.Proofs.LaysM.n171 Tryz.prog Tryz.J1:={
 mixed:=by kernel_rfl
 f129:=Tryz.func215.trans (congrArg some (by kernel_rfl))
 f171:=Tryz.func43.trans (congrArg some (by kernel_rfl))
 f243:=Tryz.func90.trans (congrArg some (by kernel_rfl))
 f246:=Tryz.func139.trans (congrArg some (by kernel_rfl))
 f283:=Tryz.func182.trans (congrArg some (by kernel_rfl))
 f284:=Tryz.func183.trans (congrArg some (by kernel_rfl))
 f285:=Tryz.func184.trans (congrArg some (by kernel_rfl))
 f286:=Tryz.func185.trans (congrArg some (by kernel_rfl))
 f317:=Tryz.func214.trans (congrArg some (by kernel_rfl))
 f318:=Tryz.func216.trans (congrArg some (by kernel_rfl))
 f319:=Tryz.func217.trans (congrArg some (by kernel_rfl))
 f320:=Tryz.func218.trans (congrArg some (by kernel_rfl))
 f337:=Tryz.func233.trans (congrArg some (by kernel_rfl))
 f338:=Tryz.func234.trans (congrArg some (by kernel_rfl))
 t0:=Tryz.underlying0
 a0:=Tryz.isAgg0
 z0:=Tryz.sizeOf0
 v0:=Tryz.zeroValue0
 t2:=Tryz.underlying2
 a2:=Tryz.isAgg2
 z2:=Tryz.sizeOf2
 v2:=Tryz.zeroValue2
 t3:=Tryz.underlying3
 a3:=Tryz.isAgg3
 z3:=Tryz.sizeOf3
 v3:=Tryz.zeroValue3
 t4:=Tryz.underlying4
 a4:=Tryz.isAgg4
 z4:=Tryz.sizeOf4
 v4:=Tryz.zeroValue4
 t5:=Tryz.underlying5
 a5:=Tryz.isAgg5
 z5:=Tryz.sizeOf5
 v5:=Tryz.zeroValue5
 t9:=Tryz.underlying9
 a9:=Tryz.isAgg9
 z9:=Tryz.sizeOf9
 v9:=Tryz.zeroValue9
 t20:=Tryz.underlying20
 a20:=Tryz.isAgg20
 z20:=Tryz.sizeOf20
 v20:=Tryz.zeroValue20
 t37:=Tryz.underlying174
 a37:=Tryz.isAgg174
 z37:=Tryz.sizeOf174
 v37:=Tryz.zeroValue174
 t46:=Tryz.underlying176
 a46:=Tryz.isAgg176
 z46:=Tryz.sizeOf176
 v46:=Tryz.zeroValue176
 t51:=Tryz.underlying269
 a51:=Tryz.isAgg269
 z51:=Tryz.sizeOf269
 v51:=Tryz.zeroValue269
 t53:=Tryz.underlying85
 a53:=Tryz.isAgg85
 z53:=Tryz.sizeOf85
 v53:=Tryz.zeroValue85
 t171:=Tryz.underlying249
 a171:=Tryz.isAgg249
 z171:=Tryz.sizeOf249
 v171:=Tryz.zeroValue249
 t173:=Tryz.underlying252
 a173:=Tryz.isAgg252
 z173:=Tryz.sizeOf252
 v173:=Tryz.zeroValue252
 t212:=Tryz.underlying268
 a212:=Tryz.isAgg268
 z212:=Tryz.sizeOf268
 v212:=Tryz.zeroValue268
 t213:=Tryz.underlying270
 a213:=Tryz.isAgg270
 z213:=Tryz.sizeOf270
 t232:=Tryz.underlying293
 a232:=Tryz.isAgg293
 z232:=Tryz.sizeOf293
 v232:=Tryz.zeroValue293
 t233:=Tryz.underlying294
 a233:=Tryz.isAgg294
 z233:=Tryz.sizeOf294
 v233:=Tryz.zeroValue294
 g17:=by kernel_rfl
 g18:=by kernel_rfl
 g19:=by kernel_rfl
 i0:=by kernel_rfl
 i2:=by kernel_rfl
 i3:=by kernel_rfl
 i4:=by kernel_rfl
 i5:=by kernel_rfl
 i9:=by kernel_rfl
 i20:=by kernel_rfl
 i37:=by kernel_rfl
 i46:=by kernel_rfl
 i51:=by kernel_rfl
 i53:=by kernel_rfl
 i171:=by kernel_rfl
 i173:=by kernel_rfl
 i212:=by kernel_rfl
 i232:=by kernel_rfl
 i233:=by kernel_rfl
 m17:=by kernel_rfl
 m18:=by kernel_rfl
 m19:=by kernel_rfl }
open Go.RowKit Go.Sort Go.Lib in
theorem Tryz.strconv_Itoa(n:Int)(h0:-9223372036854775808≤n)(h1:n≤9223372036854775807)(w:World)(abP:Lib.TabIs Tryz.prog w "internal/strconv.uint64pow10" .u64 Lib.pow10Tab) :
 Calls Tryz.prog 43 #[.int .i64 n] w fun e w'=>e=.returned (.string ⟨(Lib.itoa n).toArray⟩)∧∃k os,w'=grow (w.drewN k) os:=Any.strconv_Itoa Tryz.UH n h0 h1 w abP
def Tryz.Ln:Go.Shelf.Ren:=⟨fun|152=>155|137=>193|119=>194|224=>195|225=>196|217=>225|266=>237|n=>n,fun|9=>9|21=>21|3=>3|4=>4|5=>5|0=>0|46=>176|n=>n,fun|n=>n⟩
theorem Tryz.XC:Go.Proofs.Lays.n152 Tryz.prog Tryz.Ln:=⟨by kernel_rfl,Tryz.func194.trans (congrArg some (by kernel_rfl)),Tryz.func193.trans (congrArg some (by kernel_rfl)),Tryz.func155.trans (congrArg some (by kernel_rfl)),Tryz.func225.trans (congrArg some (by kernel_rfl)),Tryz.func195.trans (congrArg some (by kernel_rfl)),Tryz.func196.trans (congrArg some (by kernel_rfl)),Tryz.func237.trans (congrArg some (by kernel_rfl)),Tryz.underlying0,Tryz.isAgg0,Tryz.sizeOf0,Tryz.zeroValue0,Tryz.underlying3,Tryz.isAgg3,Tryz.sizeOf3,Tryz.zeroValue3,Tryz.underlying4,Tryz.isAgg4,Tryz.sizeOf4,Tryz.zeroValue4,Tryz.underlying5,Tryz.isAgg5,Tryz.sizeOf5,Tryz.zeroValue5,Tryz.underlying9,Tryz.isAgg9,Tryz.sizeOf9,Tryz.zeroValue9,Tryz.underlying21,Tryz.isAgg21,Tryz.sizeOf21,Tryz.zeroValue21,Tryz.underlying176,Tryz.isAgg176,Tryz.sizeOf176,Tryz.zeroValue176⟩
open Go.RowKit Go.Lib in
theorem Tryz.strings_IndexRune_ascii(s:ByteArray)(r:Int)(w:World)(h0:0≤r)(h1:r<128) :
 Calls Tryz.prog 155 #[.string s,.int .i32 r] w fun e w'=>e=.returned (.int .i64 (Lib.indexByte s.data.toList r.toNat.toUInt8))∧w'=w:=Any.strings_IndexRune_ascii Tryz.XC s r w h0 h1
def Tryz.Lp:Go.Shelf.Ren:=⟨fun|226=>156|n=>n,fun|3=>3|4=>4|n=>n,fun|n=>n⟩
theorem Tryz.XF:Go.Proofs.Lays.n226 Tryz.prog Tryz.Lp:=⟨by kernel_rfl,Tryz.func156.trans (congrArg some (by kernel_rfl)),Tryz.underlying3,Tryz.isAgg3,Tryz.sizeOf3,Tryz.zeroValue3,Tryz.underlying4,Tryz.isAgg4,Tryz.sizeOf4,Tryz.zeroValue4⟩
open Go.RowKit Go.Lib in
theorem Tryz.strings_shouldUseASCIISet(n:Int)(w:World) :
 Calls Tryz.prog 156 #[.int .i64 n] w fun e w'=>e=.returned (.bool (decide (8<n)))∧w'=w:=Any.strings_shouldUseASCIISet Tryz.XF n w
def Tryz.Lo:Go.Shelf.Ren:=⟨fun|153=>115|152=>155|226=>156|227=>157|228=>158|137=>193|119=>194|224=>195|225=>196|217=>225|266=>237|n=>n,fun|9=>9|3=>3|4=>4|5=>5|21=>21|117=>229|116=>228|0=>0|46=>176|124=>260|n=>n,fun|n=>n⟩
theorem Tryz.XD:Go.Proofs.Lays.n153 Tryz.prog Tryz.Lo:=⟨by kernel_rfl,Tryz.func194.trans (congrArg some (by kernel_rfl)),Tryz.func193.trans (congrArg some (by kernel_rfl)),Tryz.func155.trans (congrArg some (by kernel_rfl)),Tryz.func115.trans (congrArg some (by kernel_rfl)),Tryz.func225.trans (congrArg some (by kernel_rfl)),Tryz.func195.trans (congrArg some (by kernel_rfl)),Tryz.func196.trans (congrArg some (by kernel_rfl)),Tryz.func156.trans (congrArg some (by kernel_rfl)),Tryz.func157.trans (congrArg some (by kernel_rfl)),Tryz.func158.trans (congrArg some (by kernel_rfl)),Tryz.func237.trans (congrArg some (by kernel_rfl)),Tryz.underlying0,Tryz.isAgg0,Tryz.sizeOf0,Tryz.zeroValue0,Tryz.underlying3,Tryz.isAgg3,Tryz.sizeOf3,Tryz.zeroValue3,Tryz.underlying4,Tryz.isAgg4,Tryz.sizeOf4,Tryz.zeroValue4,Tryz.underlying5,Tryz.isAgg5,Tryz.sizeOf5,Tryz.zeroValue5,Tryz.underlying9,Tryz.isAgg9,Tryz.sizeOf9,Tryz.zeroValue9,Tryz.underlying21,Tryz.isAgg21,Tryz.sizeOf21,Tryz.zeroValue21,Tryz.underlying176,Tryz.isAgg176,Tryz.sizeOf176,Tryz.zeroValue176,Tryz.underlying228,Tryz.isAgg228,Tryz.sizeOf228,Tryz.underlying229,Tryz.isAgg229,Tryz.sizeOf229,Tryz.zeroValue229,Tryz.underlying260,Tryz.isAgg260,Tryz.sizeOf260,Tryz.zeroValue260⟩
open Go.RowKit Go.Lib in
theorem Tryz.strings_IndexAny_long(aa8:∀w,(zeroValue 228).run Tryz.prog w=.ok (.agg (Array.replicate 256 (.bool false))) w)(s chars:ByteArray)(w:World)(h2:2≤chars.size)(h8:8<s.size)(hs:s.size<4294967281)(kf:chars.size<4294967281)(ZE:∀(j:Nat) b,chars.data.toList[j]?=some b→b.toNat<128) :
 Calls Tryz.prog 115 #[.string s,.string chars] w fun e w'=>e=.returned (.int .i64 (Lib.indexAny s.data.toList chars.data.toList))∧w'=((w.alloc (.cells (Lib.setCells chars.data.toList) 228)).alloc (.cells (Lib.setCells chars.data.toList) 228)):=Any.strings_IndexAny_long Tryz.XD aa8 (by kernel_rfl) s chars w h2 h8 hs kf ZE
end Go.Proofs
