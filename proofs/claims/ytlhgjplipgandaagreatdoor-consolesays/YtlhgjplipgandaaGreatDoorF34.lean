/- Joined. -/
import Derived.Shelf.Strings.Builder1
import Derived.Shelf.Strings.Builder2
import Derived.Shelf.Strings.OnBuilder
import Derived.Shelf.Small.Utf8
import Derived.Shelf.Small.Strs
import Derived.Shelf.Strings.BuilderF
import Derived.Shelf.Strings.BuilderK
import Derived.Shelf.Strings.Builder2Cap
import Derived.Shelf.Strconv.Atoi
import Derived.Shelf.Strconv.Itoa0
import Derived.Shelf.Strconv.Itoa1
import Derived.Shelf.LaysM
import Derived.Shelf.Strconv.Itoa2
import Derived.Shelf.Strconv.Itoa3
import Derived.Shelf.Strconv.AtoiErrFast
import Derived.Shelf.Strconv.ParseIntEmpty
import Derived.Shelf.Strconv.AtoiFail
import Derived.Shelf.Strconv.Clone
import Derived.Shelf.Strconv.SyntaxError
import Derived.Shelf.LaysC
import Derived.Shelf.Strconv.ToError
import Derived.Shelf.Strconv.AtoiErr
import Derived.Shelf.Strconv.ErrVar
import Derived.Shelf.Strconv.Lower
import Derived.Shelf.Strconv.ParseUint10
import Derived.Shelf.Strconv.ParseUint10Empty
import Derived.Shelf.Strconv.ParseUint10Any
import Derived.Shelf.Strconv.ParseInt10
import Derived.Shelf.Strconv.AtoiLong
import Derived.Shelf.Strconv.AtoiInnerAll
import Derived.Shelf.Strconv.RangeError
import Derived.Shelf.Strconv.ToErrorRange
import Derived.Shelf.Strconv.AtoiAll
import Derived.Shelf.Strconv.ErrVarAll
import Derived.Shelf.Strings.Search1
import Derived.Shelf.Strings.Search2
import Derived.Shelf.Strings.Cut
import Derived.Shelf.Strings.Shaped
import Derived.Shelf.Strings.Runes
import Derived.Shelf.Strings.IndexAny
import Derived.Shelf.Strings.AsciiSet
import Derived.Shelf.Strings.IndexAnyAll
import Derived.Shelf.Strings.BuilderCap
import Derived.Test.YtlhgjplipgandaaGreatDoorProg
set_option maxRecDepth 100000
set_option maxHeartbeats 8000000
set_option linter.unusedSimpArgs false
set_option linter.unusedSectionVars false
namespace Go.Proofs
open Go.Shelf
def Tryz.DQ:Go.Shelf.Ren:=⟨fun|156=>92|165=>143|166=>140|169=>142|240=>186|241=>187|276=>219|277=>220|n=>n,fun|31=>51|9=>9|3=>3|4=>4|0=>0|20=>20|72=>207|76=>208|70=>205|37=>174|75=>53|127=>254|164=>272|5=>5|80=>210|n=>n,fun|n=>n⟩
theorem Tryz.Z6:Go.Proofs.Lays.n156 Tryz.prog Tryz.DQ:=⟨by kernel_rfl,Tryz.func92.trans (congrArg some (by kernel_rfl)),Tryz.func143.trans (congrArg some (by kernel_rfl)),Tryz.func140.trans (congrArg some (by kernel_rfl)),Tryz.func142.trans (congrArg some (by kernel_rfl)),Tryz.func186.trans (congrArg some (by kernel_rfl)),Tryz.func187.trans (congrArg some (by kernel_rfl)),Tryz.func219.trans (congrArg some (by kernel_rfl)),Tryz.func220.trans (congrArg some (by kernel_rfl)),Tryz.underlying0,Tryz.isAgg0,Tryz.sizeOf0,Tryz.zeroValue0,Tryz.underlying3,Tryz.isAgg3,Tryz.sizeOf3,Tryz.zeroValue3,Tryz.underlying4,Tryz.isAgg4,Tryz.sizeOf4,Tryz.zeroValue4,Tryz.underlying9,Tryz.isAgg9,Tryz.sizeOf9,Tryz.zeroValue9,Tryz.underlying20,Tryz.isAgg20,Tryz.sizeOf20,Tryz.zeroValue20,Tryz.underlying51,Tryz.isAgg51,Tryz.sizeOf51,Tryz.zeroValue51,Tryz.underlying174,Tryz.isAgg174,Tryz.sizeOf174,Tryz.zeroValue174,Tryz.underlying205,Tryz.isAgg205,Tryz.sizeOf205,Tryz.zeroValue205,Tryz.underlying207,Tryz.isAgg207,Tryz.sizeOf207,Tryz.zeroValue207,Tryz.underlying53,Tryz.isAgg53,Tryz.sizeOf53,Tryz.zeroValue53,Tryz.underlying208,Tryz.isAgg208,Tryz.sizeOf208,Tryz.zeroValue208,Tryz.underlying254,Tryz.isAgg254,Tryz.sizeOf254,Tryz.zeroValue254,Tryz.underlying272,Tryz.isAgg272,Tryz.sizeOf272,Tryz.zeroValue272⟩
theorem Tryz.De:Builder.Extra Tryz.prog Tryz.DQ:={
 sizeBuilder:=by kernel_rfl
 liesBuilder:=by kernel_rfl
 t5:=Tryz.underlying5
 a5:=Tryz.isAgg5
 z5:=Tryz.sizeOf5
 v5:=Tryz.zeroValue5
 infoByte:=by kernel_rfl
 cellsByte:=by kernel_rfl
 sizeByte:=by kernel_rfl
 neB5:=by decide }
open Go.RowKit in
theorem Tryz.strings_Join(bk o c:Nat)(xs:List ByteArray)(sep:ByteArray)(w:World)(Fq:∀(j:Nat) x,xs[j]?=some x→w.cell? ⟨bk,o+j,none⟩=some (.string x))(nT:bk<w.heap.size)(hN:xs.length≤140737488355328)(bS:xs.length≤c)(hlen:(Lib.join (xs.map (·.data.toList)) sep.data.toList).length≤140737488355328) :
 Calls Tryz.prog 92 #[.slice (some ⟨bk,o,none⟩) xs.length c,.string sep] w fun e w'=>e=.returned (.string ⟨(Lib.join (xs.map (·.data.toList)) sep.data.toList).toArray⟩)∧Below w.heap.size w w':=Any.strings_Join Tryz.Z6 Tryz.De bk o c xs sep w Fq nT hN bS hlen
def Tryz.M8:Go.Shelf.Ren:=⟨fun|119=>194|n=>n,fun|21=>21|4=>4|n=>n,fun|n=>n⟩
theorem Tryz.ZY:Go.Proofs.Lays.n119 Tryz.prog Tryz.M8:=⟨by kernel_rfl,Tryz.func194.trans (congrArg some (by kernel_rfl)),Tryz.underlying4,Tryz.isAgg4,Tryz.sizeOf4,Tryz.zeroValue4,Tryz.underlying21,Tryz.isAgg21,Tryz.sizeOf21,Tryz.zeroValue21⟩
theorem Tryz.utf8_ValidRune(r:Int)(w:World) :
 Calls Tryz.prog 194 #[.int .i32 r] w fun e w'=>e=.returned (.bool (Lib.validRune r))∧w'=w:=Any.utf8_ValidRune Tryz.ZY r w
def Tryz.M9:Go.Shelf.Ren:=⟨fun|137=>193|217=>225|266=>237|n=>n,fun|9=>9|5=>5|3=>3|n=>n,fun|n=>n⟩
theorem Tryz.Z0:Go.Proofs.Lays.n137 Tryz.prog Tryz.M9:=⟨by kernel_rfl,Tryz.func193.trans (congrArg some (by kernel_rfl)),Tryz.func225.trans (congrArg some (by kernel_rfl)),Tryz.func237.trans (congrArg some (by kernel_rfl)),Tryz.underlying3,Tryz.isAgg3,Tryz.sizeOf3,Tryz.zeroValue3,Tryz.underlying5,Tryz.isAgg5,Tryz.sizeOf5,Tryz.zeroValue5,Tryz.underlying9,Tryz.isAgg9,Tryz.sizeOf9,Tryz.zeroValue9⟩
open Go.RowKit in
theorem Tryz.strings_IndexByte(s:ByteArray)(c:Int)(w:World) :
 Calls Tryz.prog 193 #[.string s,.int .u8 c] w fun e w'=>e=.returned (.int .i64 (Lib.indexByte s.data.toList c.toNat.toUInt8))∧w'=w:=Any.strings_IndexByte Tryz.Z0 s c w
def Tryz.adK:Go.Shelf.Ren:=⟨fun|172=>236|244=>241|245=>242|247=>245|279=>246|280=>247|281=>248|282=>249|287=>251|316=>252|171=>43|205=>253|321=>254|322=>255|243=>90|246=>139|283=>182|284=>183|285=>184|286=>185|129=>215|317=>214|318=>216|319=>217|320=>218|337=>233|338=>234|n=>n,fun|9=>9|3=>3|75=>53|76=>208|4=>4|5=>5|167=>297|37=>174|0=>0|85=>298|2=>2|168=>300|53=>85|175=>305|46=>176|210=>309|127=>254|145=>314|143=>312|21=>21|171=>249|173=>252|212=>268|51=>269|20=>20|213=>270|232=>293|233=>294|80=>210|n=>n,fun|15=>4|16=>5|17=>0|18=>2|19=>3|n=>n⟩
def Tryz.adM:Go.Shelf.Ren:=⟨fun|318=>216|n=>n,fun|3=>3|4=>4|n=>n,fun|n=>n⟩
def Tryz.adg:Go.Shelf.Ren:=⟨fun|246=>139|283=>182|284=>183|285=>184|286=>185|129=>215|317=>214|318=>216|319=>217|320=>218|337=>233|338=>234|n=>n,fun|2=>2|3=>3|9=>9|4=>4|171=>249|0=>0|53=>85|37=>174|5=>5|173=>252|212=>268|51=>269|20=>20|213=>270|46=>176|232=>293|233=>294|n=>n,fun|17=>0|18=>2|19=>3|n=>n⟩
def Tryz.adf:Go.Shelf.Ren:=⟨fun|243=>90|246=>139|283=>182|284=>183|285=>184|286=>185|129=>215|317=>214|318=>216|319=>217|320=>218|337=>233|338=>234|n=>n,fun|3=>3|9=>9|2=>2|4=>4|171=>249|0=>0|53=>85|37=>174|5=>5|173=>252|212=>268|51=>269|20=>20|213=>270|46=>176|232=>293|233=>294|n=>n,fun|17=>0|18=>2|19=>3|n=>n⟩
def Tryz.LG:Go.Shelf.Ren:=⟨fun|171=>43|243=>90|246=>139|283=>182|284=>183|285=>184|286=>185|129=>215|317=>214|318=>216|319=>217|320=>218|337=>233|338=>234|n=>n,fun|3=>3|9=>9|2=>2|4=>4|171=>249|0=>0|53=>85|37=>174|5=>5|173=>252|212=>268|51=>269|20=>20|213=>270|46=>176|232=>293|233=>294|n=>n,fun|17=>0|18=>2|19=>3|n=>n⟩
theorem Tryz.WW:Go.Proofs.LaysM.n171 Tryz.prog Tryz.LG:={
 mixed:=by kernel_rfl
 f129:=Tryz.func215.trans (congrArg some (by kernel_rfl))
 f171:=Tryz.func43.trans (congrArg some (by kernel_rfl))
 f243:=Tryz.func90.trans (congrArg some (by kernel_rfl))
 f246:=Tryz.func139.trans (congrArg some (by kernel_rfl))
 f283:=Tryz.func182.trans (congrArg some (by kernel_rfl))
 f284:=Tryz.func183.trans (congrArg some (by kernel_rfl))
 f285:=Tryz.func184.trans (congrArg some (by kernel_rfl))
 f286:=Tryz.func185.trans (congrArg some (by kernel_rfl))
 f317:=Tryz.func214.trans (congrArg some (by kernel_rfl))
 f318:=Tryz.func216.trans (congrArg some (by kernel_rfl))
 f319:=Tryz.func217.trans (congrArg some (by kernel_rfl))
 f320:=Tryz.func218.trans (congrArg some (by kernel_rfl))
 f337:=Tryz.func233.trans (congrArg some (by kernel_rfl))
 f338:=Tryz.func234.trans (congrArg some (by kernel_rfl))
 t0:=Tryz.underlying0
 a0:=Tryz.isAgg0
 z0:=Tryz.sizeOf0
 v0:=Tryz.zeroValue0
 t2:=Tryz.underlying2
 a2:=Tryz.isAgg2
 z2:=Tryz.sizeOf2
 v2:=Tryz.zeroValue2
 t3:=Tryz.underlying3
 a3:=Tryz.isAgg3
 z3:=Tryz.sizeOf3
 v3:=Tryz.zeroValue3
 t4:=Tryz.underlying4
 a4:=Tryz.isAgg4
 z4:=Tryz.sizeOf4
 v4:=Tryz.zeroValue4
 t5:=Tryz.underlying5
 a5:=Tryz.isAgg5
 z5:=Tryz.sizeOf5
 v5:=Tryz.zeroValue5
 t9:=Tryz.underlying9
 a9:=Tryz.isAgg9
 z9:=Tryz.sizeOf9
 v9:=Tryz.zeroValue9
 t20:=Tryz.underlying20
 a20:=Tryz.isAgg20
 z20:=Tryz.sizeOf20
 v20:=Tryz.zeroValue20
 t37:=Tryz.underlying174
 a37:=Tryz.isAgg174
 z37:=Tryz.sizeOf174
 v37:=Tryz.zeroValue174
 t46:=Tryz.underlying176
 a46:=Tryz.isAgg176
 z46:=Tryz.sizeOf176
 v46:=Tryz.zeroValue176
 t51:=Tryz.underlying269
 a51:=Tryz.isAgg269
 z51:=Tryz.sizeOf269
 v51:=Tryz.zeroValue269
 t53:=Tryz.underlying85
 a53:=Tryz.isAgg85
 z53:=Tryz.sizeOf85
 v53:=Tryz.zeroValue85
 t171:=Tryz.underlying249
 a171:=Tryz.isAgg249
 z171:=Tryz.sizeOf249
 v171:=Tryz.zeroValue249
 t173:=Tryz.underlying252
 a173:=Tryz.isAgg252
 z173:=Tryz.sizeOf252
 v173:=Tryz.zeroValue252
 t212:=Tryz.underlying268
 a212:=Tryz.isAgg268
 z212:=Tryz.sizeOf268
 v212:=Tryz.zeroValue268
 t213:=Tryz.underlying270
 a213:=Tryz.isAgg270
 z213:=Tryz.sizeOf270
 t232:=Tryz.underlying293
 a232:=Tryz.isAgg293
 z232:=Tryz.sizeOf293
 v232:=Tryz.zeroValue293
 t233:=Tryz.underlying294
 a233:=Tryz.isAgg294
 z233:=Tryz.sizeOf294
 v233:=Tryz.zeroValue294
 g17:=by kernel_rfl
 g18:=by kernel_rfl
 g19:=by kernel_rfl
 i0:=by kernel_rfl
 i2:=by kernel_rfl
 i3:=by kernel_rfl
 i4:=by kernel_rfl
 i5:=by kernel_rfl
 i9:=by kernel_rfl
 i20:=by kernel_rfl
 i37:=by kernel_rfl
 i46:=by kernel_rfl
 i51:=by kernel_rfl
 i53:=by kernel_rfl
 i171:=by kernel_rfl
 i173:=by kernel_rfl
 i212:=by kernel_rfl
 i232:=by kernel_rfl
 i233:=by kernel_rfl
 m17:=by kernel_rfl
 m18:=by kernel_rfl
 m19:=by kernel_rfl }
open Go.RowKit Go.Sort Go.Lib in
theorem Tryz.strconv_Itoa(n:Int)(h0:-9223372036854775808≤n)(h1:n≤9223372036854775807)(w:World)(aeS:Lib.TabIs Tryz.prog w "internal/strconv.uint64pow10" .u64 Lib.pow10Tab) :
 Calls Tryz.prog 43 #[.int .i64 n] w fun e w'=>e=.returned (.string ⟨(Lib.itoa n).toArray⟩)∧∃k os,w'=grow (w.drewN k) os:=Any.strconv_Itoa Tryz.WW n h0 h1 w aeS
def Tryz.LF:Go.Shelf.Ren:=⟨fun|172=>236|244=>241|245=>242|247=>245|279=>246|280=>247|281=>248|282=>249|287=>251|316=>252|171=>43|205=>253|321=>254|322=>255|243=>90|246=>139|283=>182|284=>183|285=>184|286=>185|129=>215|317=>214|318=>216|319=>217|320=>218|337=>233|338=>234|n=>n,fun|9=>9|3=>3|75=>53|76=>208|4=>4|5=>5|167=>297|37=>174|0=>0|85=>298|2=>2|168=>300|53=>85|175=>305|46=>176|210=>309|127=>254|145=>314|143=>312|21=>21|171=>249|173=>252|212=>268|51=>269|20=>20|213=>270|232=>293|233=>294|80=>210|n=>n,fun|15=>4|16=>5|17=>0|18=>2|19=>3|n=>n⟩
theorem Tryz.En:Go.Proofs.LaysC.n172 Tryz.prog Tryz.LF:={
 mixed:=by kernel_rfl
 f129:=Tryz.func215.trans (congrArg some (by kernel_rfl))
 f171:=Tryz.func43.trans (congrArg some (by kernel_rfl))
 f172:=Tryz.func236.trans (congrArg some (by kernel_rfl))
 f205:=Tryz.func253.trans (congrArg some (by kernel_rfl))
 f243:=Tryz.func90.trans (congrArg some (by kernel_rfl))
 f244:=Tryz.func241.trans (congrArg some (by kernel_rfl))
 f245:=Tryz.func242.trans (congrArg some (by kernel_rfl))
 f246:=Tryz.func139.trans (congrArg some (by kernel_rfl))
 f247:=Tryz.func245.trans (congrArg some (by kernel_rfl))
 f279:=Tryz.func246.trans (congrArg some (by kernel_rfl))
 f280:=Tryz.func247.trans (congrArg some (by kernel_rfl))
 f281:=Tryz.func248.trans (congrArg some (by kernel_rfl))
 f282:=Tryz.func249.trans (congrArg some (by kernel_rfl))
 f283:=Tryz.func182.trans (congrArg some (by kernel_rfl))
 f284:=Tryz.func183.trans (congrArg some (by kernel_rfl))
 f285:=Tryz.func184.trans (congrArg some (by kernel_rfl))
 f286:=Tryz.func185.trans (congrArg some (by kernel_rfl))
 f287:=Tryz.func251.trans (congrArg some (by kernel_rfl))
 f316:=Tryz.func252.trans (congrArg some (by kernel_rfl))
 f317:=Tryz.func214.trans (congrArg some (by kernel_rfl))
 f318:=Tryz.func216.trans (congrArg some (by kernel_rfl))
 f319:=Tryz.func217.trans (congrArg some (by kernel_rfl))
 f320:=Tryz.func218.trans (congrArg some (by kernel_rfl))
 f321:=Tryz.func254.trans (congrArg some (by kernel_rfl))
 f322:=Tryz.func255.trans (congrArg some (by kernel_rfl))
 f337:=Tryz.func233.trans (congrArg some (by kernel_rfl))
 f338:=Tryz.func234.trans (congrArg some (by kernel_rfl))
 t0:=Tryz.underlying0
 a0:=Tryz.isAgg0
 z0:=Tryz.sizeOf0
 v0:=Tryz.zeroValue0
 t2:=Tryz.underlying2
 a2:=Tryz.isAgg2
 z2:=Tryz.sizeOf2
 v2:=Tryz.zeroValue2
 t3:=Tryz.underlying3
 a3:=Tryz.isAgg3
 z3:=Tryz.sizeOf3
 v3:=Tryz.zeroValue3
 t4:=Tryz.underlying4
 a4:=Tryz.isAgg4
 z4:=Tryz.sizeOf4
 v4:=Tryz.zeroValue4
 t5:=Tryz.underlying5
 a5:=Tryz.isAgg5
 z5:=Tryz.sizeOf5
 v5:=Tryz.zeroValue5
 t9:=Tryz.underlying9
 a9:=Tryz.isAgg9
 z9:=Tryz.sizeOf9
 v9:=Tryz.zeroValue9
 t20:=Tryz.underlying20
 a20:=Tryz.isAgg20
 z20:=Tryz.sizeOf20
 v20:=Tryz.zeroValue20
 t21:=Tryz.underlying21
 a21:=Tryz.isAgg21
 z21:=Tryz.sizeOf21
 v21:=Tryz.zeroValue21
 t37:=Tryz.underlying174
 a37:=Tryz.isAgg174
 z37:=Tryz.sizeOf174
 v37:=Tryz.zeroValue174
 t46:=Tryz.underlying176
 a46:=Tryz.isAgg176
 z46:=Tryz.sizeOf176
 v46:=Tryz.zeroValue176
 t51:=Tryz.underlying269
 a51:=Tryz.isAgg269
 z51:=Tryz.sizeOf269
 v51:=Tryz.zeroValue269
 t53:=Tryz.underlying85
 a53:=Tryz.isAgg85
 z53:=Tryz.sizeOf85
 v53:=Tryz.zeroValue85
 t75:=Tryz.underlying53
 a75:=Tryz.isAgg53
 z75:=Tryz.sizeOf53
 v75:=Tryz.zeroValue53
 t76:=Tryz.underlying208
 a76:=Tryz.isAgg208
 z76:=Tryz.sizeOf208
 v76:=Tryz.zeroValue208
 t85:=Tryz.underlying298
 a85:=Tryz.isAgg298
 z85:=Tryz.sizeOf298
 v85:=Tryz.zeroValue298
 t127:=Tryz.underlying254
 a127:=Tryz.isAgg254
 z127:=Tryz.sizeOf254
 v127:=Tryz.zeroValue254
 t143:=Tryz.underlying312
 a143:=Tryz.isAgg312
 z143:=Tryz.sizeOf312
 v143:=Tryz.zeroValue312
 t145:=Tryz.underlying314
 a145:=Tryz.isAgg314
 z145:=Tryz.sizeOf314
 v145:=Tryz.zeroValue314
 t167:=Tryz.underlying297
 a167:=Tryz.isAgg297
 z167:=Tryz.sizeOf297
 v167:=Tryz.zeroValue297
 t168:=Tryz.underlying300
 a168:=Tryz.isAgg300
 z168:=Tryz.sizeOf300
 v168:=Tryz.zeroValue300
 t171:=Tryz.underlying249
 a171:=Tryz.isAgg249
 z171:=Tryz.sizeOf249
 v171:=Tryz.zeroValue249
 t173:=Tryz.underlying252
 a173:=Tryz.isAgg252
 z173:=Tryz.sizeOf252
 v173:=Tryz.zeroValue252
 t175:=Tryz.underlying305
 a175:=Tryz.isAgg305
 z175:=Tryz.sizeOf305
 v175:=Tryz.zeroValue305
 t210:=Tryz.underlying309
 a210:=Tryz.isAgg309
 z210:=Tryz.sizeOf309
 v210:=Tryz.zeroValue309
 t212:=Tryz.underlying268
 a212:=Tryz.isAgg268
 z212:=Tryz.sizeOf268
 v212:=Tryz.zeroValue268
 t213:=Tryz.underlying270
 a213:=Tryz.isAgg270
 z213:=Tryz.sizeOf270
 t232:=Tryz.underlying293
 a232:=Tryz.isAgg293
 z232:=Tryz.sizeOf293
 v232:=Tryz.zeroValue293
 t233:=Tryz.underlying294
 a233:=Tryz.isAgg294
 z233:=Tryz.sizeOf294
 v233:=Tryz.zeroValue294
 g15:=by kernel_rfl
 g16:=by kernel_rfl
 g17:=by kernel_rfl
 g18:=by kernel_rfl
 g19:=by kernel_rfl
 t80:=Tryz.underlying210
 a80:=Tryz.isAgg210
 z80:=Tryz.sizeOf210
 v80:=Tryz.zeroValue210
 i0:=by kernel_rfl
 i2:=by kernel_rfl
 i3:=by kernel_rfl
 i4:=by kernel_rfl
 i5:=by kernel_rfl
 i9:=by kernel_rfl
 i20:=by kernel_rfl
 i21:=by kernel_rfl
 i37:=by kernel_rfl
 i46:=by kernel_rfl
 i51:=by kernel_rfl
 i53:=by kernel_rfl
 i75:=by kernel_rfl
 i76:=by kernel_rfl
 i80:=by kernel_rfl
 i85:=by kernel_rfl
 i127:=by kernel_rfl
 i143:=by kernel_rfl
 i145:=by kernel_rfl
 i167:=by kernel_rfl
 i168:=by kernel_rfl
 i171:=by kernel_rfl
 i173:=by kernel_rfl
 i175:=by kernel_rfl
 i210:=by kernel_rfl
 i212:=by kernel_rfl
 i232:=by kernel_rfl
 i233:=by kernel_rfl
 m15:=by kernel_rfl
 m16:=by kernel_rfl
 m17:=by kernel_rfl
 m18:=by kernel_rfl
 m19:=by kernel_rfl
 c0:=by kernel_rfl
 c2:=by kernel_rfl
 c3:=by kernel_rfl
 c4:=by kernel_rfl
 c5:=by kernel_rfl
 c9:=by kernel_rfl
 c20:=by kernel_rfl
 c21:=by kernel_rfl
 c37:=by kernel_rfl
 c46:=by kernel_rfl
 c51:=by kernel_rfl
 c53:=by kernel_rfl
 c75:=by kernel_rfl
 c76:=by kernel_rfl
 c80:=by kernel_rfl
 c85:=by kernel_rfl
 c127:=by kernel_rfl
 c143:=by kernel_rfl
 c145:=by kernel_rfl
 c167:=by kernel_rfl
 c168:=by kernel_rfl
 c171:=by kernel_rfl
 c173:=by kernel_rfl
 c175:=by kernel_rfl
 c210:=by kernel_rfl
 c212:=by kernel_rfl
 c213:=by kernel_rfl
 c232:=by kernel_rfl
 c233:=by kernel_rfl }
open Go.RowKit in
theorem Tryz.strconv_Atoi_ok(s:ByteArray)(aeO:s.size≤9223372036854775806)(v:Int)(h:Lib.atoiAll s.data.toList=.ok v)(w:World) :
 Calls Tryz.prog 236 #[.string s] w fun e w'=>e=.returned (.tuple #[.int .i64 v,.nilIface])∧(w'=w∨∃t,w'=Lib.bytesWorld w 5 t):=Any.strconv_Atoi_ok Tryz.En s aeO v h w
open Go.RowKit in
theorem Tryz.strconv_Atoi_syntax(s:ByteArray)(WG:s.size≤281474976710656)(h:Lib.atoiAll s.data.toList=.«syntax»)(ev:Value)(w:World)(hv:w.cell? ⟨4,0,none⟩=some ev)(hev:ev=.nilIface∨∃te pe,ev=.iface te pe) :
 Calls Tryz.prog 236 #[.string s] w fun e w'=>∃N,e=.returned (.tuple #[.int .i64 (0),.iface 300 (.pointer (some ⟨N,0,none⟩))])∧w.heap.size≤N∧w'.heap[N]?=some (.cells #[.string ⟨#[65,116,111,105]⟩,.string s,ev] 309 (0,0))∧Below w.heap.size w w':=Any.strconv_Atoi_syntax Tryz.En s WG h ev w hv hev
open Go.RowKit in
theorem Tryz.strconv_Atoi_range(s:ByteArray)(WG:s.size≤281474976710656)(h:Lib.atoiAll s.data.toList=.range)(ev:Value)(w:World)(hv:w.cell? ⟨5,0,none⟩=some ev)(hev:ev=.nilIface∨∃te pe,ev=.iface te pe) :
 Calls Tryz.prog 236 #[.string s] w fun e w'=>∃N,e=.returned (.tuple #[.int .i64 (Lib.atoiSat s.data.toList),.iface 300 (.pointer (some ⟨N,0,none⟩))])∧w.heap.size≤N∧w'.heap[N]?=some (.cells #[.string ⟨#[65,116,111,105]⟩,.string s,ev] 309 (0,0))∧Below w.heap.size w w':=Any.strconv_Atoi_range Tryz.En s WG h ev w hv hev
def Tryz.adL:Go.Shelf.Ren:=⟨fun|219=>240|217=>225|225=>196|224=>195|267=>244|266=>237|314=>250|n=>n,fun|9=>9|3=>3|4=>4|5=>5|46=>176|146=>303|51=>269|n=>n,fun|1=>1|n=>n⟩
def Tryz.Na:Go.Shelf.Ren:=⟨fun|145=>222|220=>235|219=>240|217=>225|225=>196|224=>195|267=>244|266=>237|314=>250|n=>n,fun|9=>9|4=>4|59=>276|3=>3|5=>5|46=>176|146=>303|51=>269|n=>n,fun|1=>1|n=>n⟩
theorem Tryz.Z1:Go.Proofs.Lays.n145 Tryz.prog Tryz.Na:=⟨by kernel_rfl,Tryz.func222.trans (congrArg some (by kernel_rfl)),Tryz.func225.trans (congrArg some (by kernel_rfl)),Tryz.func240.trans (congrArg some (by kernel_rfl)),Tryz.func235.trans (congrArg some (by kernel_rfl)),Tryz.func195.trans (congrArg some (by kernel_rfl)),Tryz.func196.trans (congrArg some (by kernel_rfl)),Tryz.func237.trans (congrArg some (by kernel_rfl)),Tryz.func244.trans (congrArg some (by kernel_rfl)),Tryz.func250.trans (congrArg some (by kernel_rfl)),Tryz.underlying3,Tryz.isAgg3,Tryz.sizeOf3,Tryz.zeroValue3,Tryz.underlying4,Tryz.isAgg4,Tryz.sizeOf4,Tryz.zeroValue4,Tryz.underlying5,Tryz.isAgg5,Tryz.sizeOf5,Tryz.zeroValue5,Tryz.underlying9,Tryz.isAgg9,Tryz.sizeOf9,Tryz.zeroValue9,Tryz.underlying176,Tryz.isAgg176,Tryz.sizeOf176,Tryz.zeroValue176,Tryz.underlying269,Tryz.isAgg269,Tryz.sizeOf269,Tryz.zeroValue269,Tryz.underlying276,Tryz.isAgg276,Tryz.sizeOf276,Tryz.zeroValue276,Tryz.underlying303,Tryz.isAgg303,Tryz.sizeOf303,Tryz.zeroValue303,by kernel_rfl⟩
open Go.RowKit Go.Lib in
theorem Tryz.strings_Cut(s sep:ByteArray)(m:Int)(w:World)(hs:s.size<4294967281)(hm:w.cell? ⟨1,0,none⟩=some (.int .i64 m)) :
 Calls Tryz.prog 222 #[.string s,.string sep] w fun e w'=>e=.returned (.tuple #[.string ⟨(Lib.cut s.data.toList sep.data.toList).1.toArray⟩,.string ⟨(Lib.cut s.data.toList sep.data.toList).2.1.toArray⟩,.bool (Lib.cut s.data.toList sep.data.toList).2.2])∧∃n,w'=w.drewN n:=Any.strings_Cut Tryz.Z1 s sep m w hs hm
def Tryz.Nb:Go.Shelf.Ren:=⟨fun|152=>155|137=>193|119=>194|224=>195|225=>196|217=>225|266=>237|n=>n,fun|9=>9|21=>21|3=>3|4=>4|5=>5|0=>0|46=>176|n=>n,fun|n=>n⟩
theorem Tryz.Z4:Go.Proofs.Lays.n152 Tryz.prog Tryz.Nb:=⟨by kernel_rfl,Tryz.func194.trans (congrArg some (by kernel_rfl)),Tryz.func193.trans (congrArg some (by kernel_rfl)),Tryz.func155.trans (congrArg some (by kernel_rfl)),Tryz.func225.trans (congrArg some (by kernel_rfl)),Tryz.func195.trans (congrArg some (by kernel_rfl)),Tryz.func196.trans (congrArg some (by kernel_rfl)),Tryz.func237.trans (congrArg some (by kernel_rfl)),Tryz.underlying0,Tryz.isAgg0,Tryz.sizeOf0,Tryz.zeroValue0,Tryz.underlying3,Tryz.isAgg3,Tryz.sizeOf3,Tryz.zeroValue3,Tryz.underlying4,Tryz.isAgg4,Tryz.sizeOf4,Tryz.zeroValue4,Tryz.underlying5,Tryz.isAgg5,Tryz.sizeOf5,Tryz.zeroValue5,Tryz.underlying9,Tryz.isAgg9,Tryz.sizeOf9,Tryz.zeroValue9,Tryz.underlying21,Tryz.isAgg21,Tryz.sizeOf21,Tryz.zeroValue21,Tryz.underlying176,Tryz.isAgg176,Tryz.sizeOf176,Tryz.zeroValue176⟩
open Go.RowKit Go.Lib in
theorem Tryz.strings_IndexRune_ascii(s:ByteArray)(r:Int)(w:World)(h0:0≤r)(h1:r<128) :
 Calls Tryz.prog 155 #[.string s,.int .i32 r] w fun e w'=>e=.returned (.int .i64 (Lib.indexByte s.data.toList r.toNat.toUInt8))∧w'=w:=Any.strings_IndexRune_ascii Tryz.Z4 s r w h0 h1
def Tryz.Nd:Go.Shelf.Ren:=⟨fun|226=>156|n=>n,fun|3=>3|4=>4|n=>n,fun|n=>n⟩
theorem Tryz.Z7:Go.Proofs.Lays.n226 Tryz.prog Tryz.Nd:=⟨by kernel_rfl,Tryz.func156.trans (congrArg some (by kernel_rfl)),Tryz.underlying3,Tryz.isAgg3,Tryz.sizeOf3,Tryz.zeroValue3,Tryz.underlying4,Tryz.isAgg4,Tryz.sizeOf4,Tryz.zeroValue4⟩
open Go.RowKit Go.Lib in
theorem Tryz.strings_shouldUseASCIISet(n:Int)(w:World) :
 Calls Tryz.prog 156 #[.int .i64 n] w fun e w'=>e=.returned (.bool (decide (8<n)))∧w'=w:=Any.strings_shouldUseASCIISet Tryz.Z7 n w
def Tryz.Nc:Go.Shelf.Ren:=⟨fun|153=>115|152=>155|226=>156|227=>157|228=>158|137=>193|119=>194|224=>195|225=>196|217=>225|266=>237|n=>n,fun|9=>9|3=>3|4=>4|5=>5|21=>21|117=>229|116=>228|0=>0|46=>176|124=>260|n=>n,fun|n=>n⟩
theorem Tryz.Z5:Go.Proofs.Lays.n153 Tryz.prog Tryz.Nc:=⟨by kernel_rfl,Tryz.func194.trans (congrArg some (by kernel_rfl)),Tryz.func193.trans (congrArg some (by kernel_rfl)),Tryz.func155.trans (congrArg some (by kernel_rfl)),Tryz.func115.trans (congrArg some (by kernel_rfl)),Tryz.func225.trans (congrArg some (by kernel_rfl)),Tryz.func195.trans (congrArg some (by kernel_rfl)),Tryz.func196.trans (congrArg some (by kernel_rfl)),Tryz.func156.trans (congrArg some (by kernel_rfl)),Tryz.func157.trans (congrArg some (by kernel_rfl)),Tryz.func158.trans (congrArg some (by kernel_rfl)),Tryz.func237.trans (congrArg some (by kernel_rfl)),Tryz.underlying0,Tryz.isAgg0,Tryz.sizeOf0,Tryz.zeroValue0,Tryz.underlying3,Tryz.isAgg3,Tryz.sizeOf3,Tryz.zeroValue3,Tryz.underlying4,Tryz.isAgg4,Tryz.sizeOf4,Tryz.zeroValue4,Tryz.underlying5,Tryz.isAgg5,Tryz.sizeOf5,Tryz.zeroValue5,Tryz.underlying9,Tryz.isAgg9,Tryz.sizeOf9,Tryz.zeroValue9,Tryz.underlying21,Tryz.isAgg21,Tryz.sizeOf21,Tryz.zeroValue21,Tryz.underlying176,Tryz.isAgg176,Tryz.sizeOf176,Tryz.zeroValue176,Tryz.underlying228,Tryz.isAgg228,Tryz.sizeOf228,Tryz.underlying229,Tryz.isAgg229,Tryz.sizeOf229,Tryz.zeroValue229,Tryz.underlying260,Tryz.isAgg260,Tryz.sizeOf260,Tryz.zeroValue260⟩
open Go.RowKit Go.Lib in
theorem Tryz.strings_IndexAny_long(ad0:∀w,(zeroValue 228).run Tryz.prog w=.ok (.agg (Array.replicate 256 (.bool false))) w)(s chars:ByteArray)(w:World)(h2:2≤chars.size)(h8:8<s.size)(hs:s.size<4294967281)(hcs:chars.size<4294967281)(aco:∀(j:Nat) b,chars.data.toList[j]?=some b→b.toNat<128) :
 Calls Tryz.prog 115 #[.string s,.string chars] w fun e w'=>e=.returned (.int .i64 (Lib.indexAny s.data.toList chars.data.toList))∧w'=((w.alloc (.cells (Lib.setCells chars.data.toList) 228)).alloc (.cells (Lib.setCells chars.data.toList) 228)):=Any.strings_IndexAny_long Tryz.Z5 ad0 (by kernel_rfl) s chars w h2 h8 hs hcs aco
end Go.Proofs
