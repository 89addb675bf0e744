/- Shelf, LaidBase, Base, LowerWalk. -/
import Derived.Shelf.Strings.SlTrimAscii
import Derived.Shelf.Unicode.ValidAny
import Derived.Shelf.Spec.SlicesInsertGrow
import Derived.Ground.Names2Prog
import Derived.Shelf.Spec.SlicesInsert
import Derived.Shelf.Strings.Builder1
import Derived.Shelf.Strings.Builder2
import Derived.Shelf.Strings.OnBuilder
import Derived.Shelf.Strings.Trim
import Derived.Shelf.Small.Utf8
import Derived.Shelf.Small.Strs
import Derived.Shelf.Small.Wraps
import Derived.Shelf.Strings.BuilderF
import Derived.Shelf.Strings.BuilderK
import Derived.Shelf.Utf8.RuneCount
import Derived.Shelf.Strconv.Itoa0
import Derived.Shelf.Strconv.Itoa1
import Derived.Shelf.LaysM
import Derived.Shelf.Strconv.Itoa2
import Derived.Shelf.Strconv.Itoa3
import Derived.Shelf.Strconv.Clone
import Derived.Shelf.Strings.Search1
import Derived.Shelf.Strings.Search2
import Derived.Shelf.Strings.Search3
import Derived.Shelf.Strings.Cut
import Derived.Shelf.Strings.Count
import Derived.Shelf.Strings.Shaped
import Derived.Shelf.Strings.LastIndex
import Derived.Shelf.Strconv.AppendUint10
import Derived.Shelf.Strconv.AppendInt10
import Derived.Shelf.Strconv.AppendIntPublic10
import Derived.Shelf.Strings.Prefix
import Derived.Shelf.Strings.Split
import Derived.Shelf.Strings.Replace
import Derived.Shelf.Strings.Runes
import Derived.Shelf.Strings.IndexAny
import Derived.Shelf.Strings.AsciiSet
import Derived.Shelf.Strings.IndexAnyAll
import Derived.Shelf.Unicode.DecodeSlow
import Derived.Shelf.Unicode.DecodeAny
import Derived.Ground.SlgnProg
import Derived.Shelf.SlicesE.Reverse
import Derived.Ground.SlgfProg
import Derived.Shelf.SlicesE.IndexFunc
import Derived.Test.YtgcbaphbiaimoaaGreatDoorProg
import Derived.Test.YtgcbaphbiaimoaaGreatDoorRows
import Derived.Lib.LaidIn
import Derived.Lib.LaidU8T
import Derived.Deep.DeepHandedRow
import Derived.Deep.DeepWitnessRowRef
import Derived.ProofKit
import Derived.WalkKit
import Derived.WalkLawsBesides
import Derived.WalkSpells
import Derived.Laws.IdiomStrings
set_option maxHeartbeats 1000000
namespace Go.Proofs
open Go.Shelf
def Tryz.lays196_ren:Go.Shelf.Ren:=⟨fun|196=>296|259=>304|n=>n,fun|9=>9|4=>4|3=>3|5=>5|12=>12|119=>240|0=>0|46=>151|139=>243|138=>242|53=>186|n=>n,fun|3=>12|4=>13|n=>n⟩
theorem Tryz.lays196:Go.Proofs.Lays.n196 Tryz.prog Tryz.lays196_ren:=by constructor<;>first|kernel_rfl|(intro _;kernel_rfl)
def Tryz.laysNm221_ren:Go.Shelf.Ren:=⟨fun|21=>309|27=>311|28=>312|35=>313|39=>314|n=>n,fun|22=>95|3=>3|4=>4|0=>0|n=>n,fun|n=>n⟩
theorem Tryz.laysNm221:Go.Proofs.Lays2.n21 Tryz.prog Tryz.laysNm221_ren:={
 mixed:=by kernel_rfl
 f21:=Tryz.func309.trans (congrArg some (by kernel_rfl))
 f27:=Tryz.func311.trans (congrArg some (by kernel_rfl))
 f28:=Tryz.func312.trans (congrArg some (by kernel_rfl))
 f35:=Tryz.func313.trans (congrArg some (by kernel_rfl))
 f39:=Tryz.func314.trans (congrArg some (by kernel_rfl))
 t0:=Tryz.underlying0
 a0:=Tryz.isAgg0
 z0:=Tryz.sizeOf0
 v0:=Tryz.zeroValue0
 t3:=Tryz.underlying3
 a3:=Tryz.isAgg3
 z3:=Tryz.sizeOf3
 v3:=Tryz.zeroValue3
 t4:=Tryz.underlying4
 a4:=Tryz.isAgg4
 z4:=Tryz.sizeOf4
 v4:=Tryz.zeroValue4
 t22:=Tryz.underlying95
 a22:=Tryz.isAgg95
 z22:=Tryz.sizeOf95
 v22:=Tryz.zeroValue95
 i3:=by kernel_rfl}
def Tryz.lays156_ren:Go.Shelf.Ren:=⟨fun|156=>185|165=>222|166=>223|169=>224|240=>252|241=>253|276=>272|277=>273|n=>n,fun|31=>86|9=>9|3=>3|4=>4|0=>0|20=>20|72=>211|76=>154|70=>209|37=>22|75=>65|127=>208|164=>119|5=>5|80=>146|n=>n,fun|n=>n⟩
theorem Tryz.lays156:Go.Proofs.Lays.n156 Tryz.prog Tryz.lays156_ren:=by constructor<;>first|kernel_rfl|(intro _;kernel_rfl)
theorem Tryz.Builder_Extra_156:Builder.Extra Tryz.prog Tryz.lays156_ren:={
 sizeBuilder:=by kernel_rfl
 liesBuilder:=by kernel_rfl
 t5:=Tryz.underlying5
 a5:=Tryz.isAgg5
 z5:=Tryz.sizeOf5
 v5:=Tryz.zeroValue5
 infoByte:=by kernel_rfl
 cellsByte:=by kernel_rfl
 sizeByte:=by kernel_rfl
 neB5:=by decide}
open Go.RowKit in
theorem Tryz.strings_Join(bk o c:Nat)(xs:List ByteArray)(sep:ByteArray)(w:World)(hcells: ∀(j:Nat) x,xs[j]? =some x→w.cell? ⟨bk,o+j,none⟩=some (.string x))(hbk:bk<w.heap.size)(hN:xs.length≤140737488355328)(hcap:xs.length≤c)(hlen:(Lib.join (xs.map (·.data.toList)) sep.data.toList).length≤140737488355328):
  Calls Tryz.prog 185 #[.slice (some ⟨bk,o,none⟩) xs.length c,.string sep] w fun e w'=>e=.returned (.string ⟨(Lib.join (xs.map (·.data.toList)) sep.data.toList).toArray⟩)∧Below w.heap.size w w':=Any.strings_Join Tryz.lays156 Tryz.Builder_Extra_156 bk o c xs sep w hcells hbk hN hcap hlen
def Tryz.lays161_ren:Go.Shelf.Ren:=⟨fun|161=>146|231=>200|227=>201|233=>202|235=>203|228=>208|197=>237|151=>238|260=>261|152=>206|137=>204|119=>243|224=>244|225=>245|217=>239|266=>262|n=>n,fun|9=>9|4=>4|3=>3|5=>5|117=>194|116=>193|0=>0|124=>197|105=>223|21=>21|119=>240|46=>151|139=>243|138=>242|n=>n,fun|3=>12|4=>13|n=>n⟩
theorem Tryz.lays161:Go.Proofs.Lays.n161 Tryz.prog Tryz.lays161_ren:=by constructor<;>first|kernel_rfl|(intro _;kernel_rfl)
def Tryz.lays160_ren:Go.Shelf.Ren:=⟨fun|160=>205|232=>240|231=>200|227=>201|234=>241|233=>202|236=>242|235=>203|228=>208|271=>263|151=>238|197=>237|120=>275|152=>206|260=>261|137=>204|119=>243|224=>244|225=>245|217=>239|266=>262|n=>n,fun|9=>9|4=>4|3=>3|5=>5|117=>194|116=>193|0=>0|124=>197|21=>21|105=>223|46=>151|119=>240|139=>243|138=>242|n=>n,fun|3=>12|4=>13|n=>n⟩
theorem Tryz.lays160:Go.Proofs.Lays.n160 Tryz.prog Tryz.lays160_ren:=by constructor<;>first|kernel_rfl|(intro _;kernel_rfl)
def Tryz.lays119_ren:Go.Shelf.Ren:=⟨fun|119=>243|n=>n,fun|21=>21|4=>4|n=>n,fun|n=>n⟩
theorem Tryz.lays119:Go.Proofs.Lays.n119 Tryz.prog Tryz.lays119_ren:=by constructor<;>first|kernel_rfl|(intro _;kernel_rfl)
theorem Tryz.utf8_ValidRune(r:Int)(w:World):
  Calls Tryz.prog 243 #[.int .i32 r] w fun e w'=>e=.returned (.bool (Lib.validRune r))∧w'=w:=Any.utf8_ValidRune Tryz.lays119 r w
def Tryz.lays137_ren:Go.Shelf.Ren:=⟨fun|137=>204|217=>239|266=>262|n=>n,fun|9=>9|5=>5|3=>3|n=>n,fun|n=>n⟩
theorem Tryz.lays137:Go.Proofs.Lays.n137 Tryz.prog Tryz.lays137_ren:=by constructor<;>first|kernel_rfl|(intro _;kernel_rfl)
open Go.RowKit in
theorem Tryz.strings_IndexByte(s:ByteArray)(c:Int)(w:World):
  Calls Tryz.prog 204 #[.string s,.int .u8 c] w fun e w'=>e=.returned (.int .i64 (Lib.indexByte s.data.toList c.toNat.toUInt8))∧w'=w:=Any.strings_IndexByte Tryz.lays137 s c w
def Tryz.lays103_ren:Go.Shelf.Ren:=⟨fun|103=>294|210=>302|206=>132|n=>n,fun|9=>9|4=>4|24=>104|3=>3|n=>n,fun|n=>n⟩
theorem Tryz.lays103:Go.Proofs.Lays.n103 Tryz.prog Tryz.lays103_ren:=by constructor<;>first|kernel_rfl|(intro _;kernel_rfl)
open Go.RowKit in
theorem Tryz.strings_CutPrefix(s p:ByteArray)(w:World):
  Calls Tryz.prog 294 #[.string s,.string p] w fun e w'=>e=.returned (.tuple #[.string ⟨(Lib.trimPrefix s.data.toList p.data.toList).toArray⟩,.bool (Lib.hasPrefix s.data.toList p.data.toList)])∧w'=w:=Any.strings_CutPrefix Tryz.lays103 s p w
def Tryz.lays104_ren:Go.Shelf.Ren:=⟨fun|104=>264|211=>276|207=>285|n=>n,fun|9=>9|4=>4|24=>104|3=>3|n=>n,fun|n=>n⟩
theorem Tryz.lays104:Go.Proofs.Lays.n104 Tryz.prog Tryz.lays104_ren:=by constructor<;>first|kernel_rfl|(intro _;kernel_rfl)
open Go.RowKit in
theorem Tryz.strings_CutSuffix(s p:ByteArray)(w:World)(hs:s.size≤9223372036854775807):
  Calls Tryz.prog 264 #[.string s,.string p] w fun e w'=>e=.returned (.tuple #[.string ⟨(Lib.trimSuffix s.data.toList p.data.toList).toArray⟩,.bool (Lib.hasSuffix s.data.toList p.data.toList)])∧w'=w:=Any.strings_CutSuffix Tryz.lays104 s p w hs
def Tryz.lays195_ren:Go.Shelf.Ren:=⟨fun|195=>270|n=>n,fun|9=>9|3=>3|0=>0|4=>4|n=>n,fun|n=>n⟩
theorem Tryz.lays195:Go.Proofs.Lays.n195 Tryz.prog Tryz.lays195_ren:=by constructor<;>first|kernel_rfl|(intro _;kernel_rfl)
open Go.RowKit in
theorem Tryz.utf8_RuneCountInString(s:ByteArray)(w:World)(hs:s.size<9223372036854775807):
  Calls Tryz.prog 270 #[.string s] w fun e w'=>e=.returned (.int .i64 (Lib.runeCount s))∧ ∃pos,w'=w.iter s pos:=Any.utf8_RuneCountInString Tryz.lays195 s w hs
def Tryz.laysM171_ren:Go.Shelf.Ren:=⟨fun|171=>44|243=>96|246=>144|283=>196|284=>197|285=>198|286=>199|129=>233|317=>232|318=>234|319=>235|320=>236|337=>259|338=>260|n=>n,fun|3=>3|9=>9|2=>2|4=>4|171=>185|0=>0|53=>186|37=>22|5=>5|173=>189|212=>219|51=>220|20=>20|213=>221|46=>151|232=>238|233=>239|n=>n,fun|17=>7|18=>10|19=>11|n=>n⟩
theorem Tryz.laysM171:Go.Proofs.LaysM.n171 Tryz.prog Tryz.laysM171_ren:={
 mixed:=by kernel_rfl
 f129:=Tryz.func233.trans (congrArg some (by kernel_rfl))
 f171:=Tryz.func44.trans (congrArg some (by kernel_rfl))
 f243:=Tryz.func96.trans (congrArg some (by kernel_rfl))
 f246:=Tryz.func144.trans (congrArg some (by kernel_rfl))
 f283:=Tryz.func196.trans (congrArg some (by kernel_rfl))
 f284:=Tryz.func197.trans (congrArg some (by kernel_rfl))
 f285:=Tryz.func198.trans (congrArg some (by kernel_rfl))
 f286:=Tryz.func199.trans (congrArg some (by kernel_rfl))
 f317:=Tryz.func232.trans (congrArg some (by kernel_rfl))
 f318:=Tryz.func234.trans (congrArg some (by kernel_rfl))
 f319:=Tryz.func235.trans (congrArg some (by kernel_rfl))
 f320:=Tryz.func236.trans (congrArg some (by kernel_rfl))
 f337:=Tryz.func259.trans (congrArg some (by kernel_rfl))
 f338:=Tryz.func260.trans (congrArg some (by kernel_rfl))
 t0:=Tryz.underlying0
 a0:=Tryz.isAgg0
 z0:=Tryz.sizeOf0
 v0:=Tryz.zeroValue0
 t2:=Tryz.underlying2
 a2:=Tryz.isAgg2
 z2:=Tryz.sizeOf2
 v2:=Tryz.zeroValue2
 t3:=Tryz.underlying3
 a3:=Tryz.isAgg3
 z3:=Tryz.sizeOf3
 v3:=Tryz.zeroValue3
 t4:=Tryz.underlying4
 a4:=Tryz.isAgg4
 z4:=Tryz.sizeOf4
 v4:=Tryz.zeroValue4
 t5:=Tryz.underlying5
 a5:=Tryz.isAgg5
 z5:=Tryz.sizeOf5
 v5:=Tryz.zeroValue5
 t9:=Tryz.underlying9
 a9:=Tryz.isAgg9
 z9:=Tryz.sizeOf9
 v9:=Tryz.zeroValue9
 t20:=Tryz.underlying20
 a20:=Tryz.isAgg20
 z20:=Tryz.sizeOf20
 v20:=Tryz.zeroValue20
 t37:=Tryz.underlying22
 a37:=Tryz.isAgg22
 z37:=Tryz.sizeOf22
 v37:=Tryz.zeroValue22
 t46:=Tryz.underlying151
 a46:=Tryz.isAgg151
 z46:=Tryz.sizeOf151
 v46:=Tryz.zeroValue151
 t51:=Tryz.underlying220
 a51:=Tryz.isAgg220
 z51:=Tryz.sizeOf220
 v51:=Tryz.zeroValue220
 t53:=Tryz.underlying186
 a53:=Tryz.isAgg186
 z53:=Tryz.sizeOf186
 v53:=Tryz.zeroValue186
 t171:=Tryz.underlying185
 a171:=Tryz.isAgg185
 z171:=Tryz.sizeOf185
 v171:=Tryz.zeroValue185
 t173:=Tryz.underlying189
 a173:=Tryz.isAgg189
 z173:=Tryz.sizeOf189
 v173:=Tryz.zeroValue189
 t212:=Tryz.underlying219
 a212:=Tryz.isAgg219
 z212:=Tryz.sizeOf219
 v212:=Tryz.zeroValue219
 t213:=Tryz.underlying221
 a213:=Tryz.isAgg221
 z213:=Tryz.sizeOf221
 t232:=Tryz.underlying238
 a232:=Tryz.isAgg238
 z232:=Tryz.sizeOf238
 v232:=Tryz.zeroValue238
 t233:=Tryz.underlying239
 a233:=Tryz.isAgg239
 z233:=Tryz.sizeOf239
 v233:=Tryz.zeroValue239
 g17:=by kernel_rfl
 g18:=by kernel_rfl
 g19:=by kernel_rfl
 i0:=by kernel_rfl
 i2:=by kernel_rfl
 i3:=by kernel_rfl
 i4:=by kernel_rfl
 i5:=by kernel_rfl
 i9:=by kernel_rfl
 i20:=by kernel_rfl
 i37:=by kernel_rfl
 i46:=by kernel_rfl
 i51:=by kernel_rfl
 i53:=by kernel_rfl
 i171:=by kernel_rfl
 i173:=by kernel_rfl
 i212:=by kernel_rfl
 i232:=by kernel_rfl
 i233:=by kernel_rfl
 m17:=by kernel_rfl
 m18:=by kernel_rfl
 m19:=by kernel_rfl}
open Go.RowKit Go.Sort Go.Lib in
theorem Tryz.strconv_Itoa(n:Int)(h0: -9223372036854775808≤n)(h1:n≤9223372036854775807)(w:World)(htab:Lib.TabIs Tryz.prog w "internal/strconv.uint64pow10" .u64 Lib.pow10Tab):
  Calls Tryz.prog 44 #[.int .i64 n] w fun e w'=>e=.returned (.string ⟨(Lib.itoa n).toArray⟩)∧ ∃k os,w'=grow (w.drewN k) os:=Any.strconv_Itoa Tryz.laysM171 n h0 h1 w htab
def Tryz.laysM316_ren:Go.Shelf.Ren:=⟨fun|316=>182|n=>n,fun|9=>9|3=>3|4=>4|37=>22|0=>0|127=>208|5=>5|n=>n,fun|n=>n⟩
theorem Tryz.laysM316:Go.Proofs.LaysM.n316 Tryz.prog Tryz.laysM316_ren:={
 mixed:=by kernel_rfl
 f316:=Tryz.func182.trans (congrArg some (by kernel_rfl))
 t0:=Tryz.underlying0
 a0:=Tryz.isAgg0
 z0:=Tryz.sizeOf0
 v0:=Tryz.zeroValue0
 t3:=Tryz.underlying3
 a3:=Tryz.isAgg3
 z3:=Tryz.sizeOf3
 v3:=Tryz.zeroValue3
 t4:=Tryz.underlying4
 a4:=Tryz.isAgg4
 z4:=Tryz.sizeOf4
 v4:=Tryz.zeroValue4
 t9:=Tryz.underlying9
 a9:=Tryz.isAgg9
 z9:=Tryz.sizeOf9
 v9:=Tryz.zeroValue9
 t37:=Tryz.underlying22
 a37:=Tryz.isAgg22
 z37:=Tryz.sizeOf22
 v37:=Tryz.zeroValue22
 t127:=Tryz.underlying208
 a127:=Tryz.isAgg208
 z127:=Tryz.sizeOf208
 v127:=Tryz.zeroValue208
 t5:=Tryz.underlying5
 a5:=Tryz.isAgg5
 z5:=Tryz.sizeOf5
 v5:=Tryz.zeroValue5
 i0:=by kernel_rfl
 i3:=by kernel_rfl
 i4:=by kernel_rfl
 i5:=by kernel_rfl
 i9:=by kernel_rfl
 i37:=by kernel_rfl
 i127:=by kernel_rfl}
open Go.RowKit in
theorem Tryz.stringslite_Clone(s:ByteArray)(w:World)(hlim:s.size≤281474976710656):
  Calls Tryz.prog 182 #[.string s] w fun e w'=>e=.returned (.string s)∧Below w.heap.size w w':=Any.stringslite_Clone Tryz.laysM316 s w hlim
def Tryz.lays219_ren:Go.Shelf.Ren:=⟨fun|219=>213|217=>239|225=>245|224=>244|267=>250|266=>262|314=>269|n=>n,fun|9=>9|3=>3|4=>4|5=>5|46=>151|146=>234|51=>220|n=>n,fun|1=>8|n=>n⟩
theorem Tryz.lays219:Go.Proofs.Lays.n219 Tryz.prog Tryz.lays219_ren:=by constructor<;>first|kernel_rfl|(intro _;kernel_rfl)
open Go.RowKit Go.Lib in
theorem Tryz.stringslite_Index_one(s:ByteArray)(c:UInt8)(w:World):
  Calls Tryz.prog 213 #[.string s,.string ⟨#[c]⟩] w fun e w'=>e=.returned (.int .i64 (Lib.indexByte s.data.toList c))∧w'=w:=Any.stringslite_Index_one Tryz.lays219 s c w
def Tryz.lays144_ren:Go.Shelf.Ren:=⟨fun|144=>150|143=>209|219=>213|217=>239|225=>245|224=>244|267=>250|266=>262|314=>269|n=>n,fun|9=>9|4=>4|3=>3|5=>5|46=>151|146=>234|51=>220|n=>n,fun|1=>8|n=>n⟩
theorem Tryz.lays144:Go.Proofs.Lays.n144 Tryz.prog Tryz.lays144_ren:=by constructor<;>first|kernel_rfl|(intro _;kernel_rfl)
open Go.RowKit Go.Lib in
theorem Tryz.strings_Contains_one(s:ByteArray)(c:UInt8)(w:World):
  Calls Tryz.prog 150 #[.string s,.string ⟨#[c]⟩] w fun e w'=>e=.returned (.bool (decide (0≤Lib.indexByte s.data.toList c)))∧w'=w:=Any.strings_Contains_one Tryz.lays144 s c w
def Tryz.lays145_ren:Go.Shelf.Ren:=⟨fun|145=>102|220=>154|219=>213|217=>239|225=>245|224=>244|267=>250|266=>262|314=>269|n=>n,fun|9=>9|4=>4|59=>117|3=>3|5=>5|46=>151|146=>234|51=>220|n=>n,fun|1=>8|n=>n⟩
theorem Tryz.lays145:Go.Proofs.Lays.n145 Tryz.prog Tryz.lays145_ren:=by constructor<;>first|kernel_rfl|(intro _;kernel_rfl)
open Go.RowKit Go.Lib in
theorem Tryz.strings_Cut(s sep:ByteArray)(m:Int)(w:World)(hs:s.size<4294967281)(hm:w.cell? ⟨8,0,none⟩=some (.int .i64 m)):
  Calls Tryz.prog 102 #[.string s,.string sep] w fun e w'=>e=.returned (.tuple #[.string ⟨(Lib.cut s.data.toList sep.data.toList).1.toArray⟩,.string ⟨(Lib.cut s.data.toList sep.data.toList).2.1.toArray⟩,.bool (Lib.cut s.data.toList sep.data.toList).2.2])∧ ∃n,w'=w.drewN n:=Any.strings_Cut Tryz.lays145 s sep m w hs hm
def Tryz.laysM145_ren:Go.Shelf.Ren:=⟨fun|145=>102|220=>154|219=>213|217=>239|225=>245|224=>244|267=>250|266=>262|314=>269|n=>n,fun|9=>9|4=>4|59=>117|3=>3|5=>5|46=>151|146=>234|51=>220|n=>n,fun|1=>8|n=>n⟩
theorem Tryz.laysM145:Go.Proofs.LaysM.n145 Tryz.prog Tryz.laysM145_ren:={
 mixed:=by kernel_rfl
 f145:=Tryz.func102.trans (congrArg some (by kernel_rfl))
 f217:=Tryz.func239.trans (congrArg some (by kernel_rfl))
 f219:=Tryz.func213.trans (congrArg some (by kernel_rfl))
 f220:=Tryz.func154.trans (congrArg some (by kernel_rfl))
 f224:=Tryz.func244.trans (congrArg some (by kernel_rfl))
 f225:=Tryz.func245.trans (congrArg some (by kernel_rfl))
 f266:=Tryz.func262.trans (congrArg some (by kernel_rfl))
 f267:=Tryz.func250.trans (congrArg some (by kernel_rfl))
 f314:=Tryz.func269.trans (congrArg some (by kernel_rfl))
 t3:=Tryz.underlying3
 a3:=Tryz.isAgg3
 z3:=Tryz.sizeOf3
 v3:=Tryz.zeroValue3
 t4:=Tryz.underlying4
 a4:=Tryz.isAgg4
 z4:=Tryz.sizeOf4
 v4:=Tryz.zeroValue4
 t5:=Tryz.underlying5
 a5:=Tryz.isAgg5
 z5:=Tryz.sizeOf5
 v5:=Tryz.zeroValue5
 t9:=Tryz.underlying9
 a9:=Tryz.isAgg9
 z9:=Tryz.sizeOf9
 v9:=Tryz.zeroValue9
 t46:=Tryz.underlying151
 a46:=Tryz.isAgg151
 z46:=Tryz.sizeOf151
 v46:=Tryz.zeroValue151
 t51:=Tryz.underlying220
 a51:=Tryz.isAgg220
 z51:=Tryz.sizeOf220
 v51:=Tryz.zeroValue220
 t59:=Tryz.underlying117
 a59:=Tryz.isAgg117
 z59:=Tryz.sizeOf117
 v59:=Tryz.zeroValue117
 t146:=Tryz.underlying234
 a146:=Tryz.isAgg234
 z146:=Tryz.sizeOf234
 v146:=Tryz.zeroValue234
 g1:=by kernel_rfl
 i3:=by kernel_rfl
 i4:=by kernel_rfl
 i5:=by kernel_rfl
 i9:=by kernel_rfl
 i46:=by kernel_rfl
 i51:=by kernel_rfl
 i59:=by kernel_rfl
 i146:=by kernel_rfl
 m1:=by kernel_rfl
 s1_3:=fun w h=>Go.Proofs.cell_of_shapedOpen_int (zero:= #[.int .i64 0]) (t:=3) h (of_decide_eq_true (by kernel_rfl)) (by kernel_rfl) rfl (by kernel_rfl) (by kernel_rfl) Tryz.underlying3}
def Tryz.lays149_ren:Go.Shelf.Ren:=⟨fun|149=>210|222=>246|n=>n,fun|9=>9|5=>5|3=>3|4=>4|n=>n,fun|n=>n⟩
theorem Tryz.lays149:Go.Proofs.Lays.n149 Tryz.prog Tryz.lays149_ren:=by constructor<;>first|kernel_rfl|(intro _;kernel_rfl)
open Go.RowKit Go.Lib in
theorem Tryz.strings_LastIndexByte(s:ByteArray)(c:Int)(hs:s.size<4611686018427387904)(w:World):
  Calls Tryz.prog 210 #[.string s,.int .u8 c] w fun e w'=>e=.returned (.int .i64 (Lib.lastIndexByte s c))∧w'=w:=Any.strings_LastIndexByte Tryz.lays149 s c hs w
def Tryz.laysM176_ren:Go.Shelf.Ren:=⟨fun|176=>192|249=>231|288=>258|283=>196|284=>197|285=>198|286=>199|129=>233|317=>232|318=>234|319=>235|320=>236|337=>259|338=>260|n=>n,fun|37=>22|2=>2|3=>3|53=>186|4=>4|9=>9|171=>185|0=>0|173=>189|212=>219|51=>220|5=>5|20=>20|213=>221|46=>151|232=>238|233=>239|n=>n,fun|17=>7|18=>10|19=>11|n=>n⟩
theorem Tryz.laysM176:Go.Proofs.LaysM.n176 Tryz.prog Tryz.laysM176_ren:={
 mixed:=by kernel_rfl
 f129:=Tryz.func233.trans (congrArg some (by kernel_rfl))
 f176:=Tryz.func192.trans (congrArg some (by kernel_rfl))
 f249:=Tryz.func231.trans (congrArg some (by kernel_rfl))
 f283:=Tryz.func196.trans (congrArg some (by kernel_rfl))
 f284:=Tryz.func197.trans (congrArg some (by kernel_rfl))
 f285:=Tryz.func198.trans (congrArg some (by kernel_rfl))
 f286:=Tryz.func199.trans (congrArg some (by kernel_rfl))
 f288:=Tryz.func258.trans (congrArg some (by kernel_rfl))
 f317:=Tryz.func232.trans (congrArg some (by kernel_rfl))
 f318:=Tryz.func234.trans (congrArg some (by kernel_rfl))
 f319:=Tryz.func235.trans (congrArg some (by kernel_rfl))
 f320:=Tryz.func236.trans (congrArg some (by kernel_rfl))
 f337:=Tryz.func259.trans (congrArg some (by kernel_rfl))
 f338:=Tryz.func260.trans (congrArg some (by kernel_rfl))
 t0:=Tryz.underlying0
 a0:=Tryz.isAgg0
 z0:=Tryz.sizeOf0
 v0:=Tryz.zeroValue0
 t2:=Tryz.underlying2
 a2:=Tryz.isAgg2
 z2:=Tryz.sizeOf2
 v2:=Tryz.zeroValue2
 t3:=Tryz.underlying3
 a3:=Tryz.isAgg3
 z3:=Tryz.sizeOf3
 v3:=Tryz.zeroValue3
 t4:=Tryz.underlying4
 a4:=Tryz.isAgg4
 z4:=Tryz.sizeOf4
 v4:=Tryz.zeroValue4
 t5:=Tryz.underlying5
 a5:=Tryz.isAgg5
 z5:=Tryz.sizeOf5
 v5:=Tryz.zeroValue5
 t9:=Tryz.underlying9
 a9:=Tryz.isAgg9
 z9:=Tryz.sizeOf9
 v9:=Tryz.zeroValue9
 t20:=Tryz.underlying20
 a20:=Tryz.isAgg20
 z20:=Tryz.sizeOf20
 v20:=Tryz.zeroValue20
 t37:=Tryz.underlying22
 a37:=Tryz.isAgg22
 z37:=Tryz.sizeOf22
 v37:=Tryz.zeroValue22
 t46:=Tryz.underlying151
 a46:=Tryz.isAgg151
 z46:=Tryz.sizeOf151
 v46:=Tryz.zeroValue151
 t51:=Tryz.underlying220
 a51:=Tryz.isAgg220
 z51:=Tryz.sizeOf220
 v51:=Tryz.zeroValue220
 t53:=Tryz.underlying186
 a53:=Tryz.isAgg186
 z53:=Tryz.sizeOf186
 v53:=Tryz.zeroValue186
 t171:=Tryz.underlying185
 a171:=Tryz.isAgg185
 z171:=Tryz.sizeOf185
 v171:=Tryz.zeroValue185
 t173:=Tryz.underlying189
 a173:=Tryz.isAgg189
 z173:=Tryz.sizeOf189
 v173:=Tryz.zeroValue189
 t212:=Tryz.underlying219
 a212:=Tryz.isAgg219
 z212:=Tryz.sizeOf219
 v212:=Tryz.zeroValue219
 t213:=Tryz.underlying221
 a213:=Tryz.isAgg221
 z213:=Tryz.sizeOf221
 t232:=Tryz.underlying238
 a232:=Tryz.isAgg238
 z232:=Tryz.sizeOf238
 v232:=Tryz.zeroValue238
 t233:=Tryz.underlying239
 a233:=Tryz.isAgg239
 z233:=Tryz.sizeOf239
 v233:=Tryz.zeroValue239
 g17:=by kernel_rfl
 g18:=by kernel_rfl
 g19:=by kernel_rfl
 i0:=by kernel_rfl
 i2:=by kernel_rfl
 i3:=by kernel_rfl
 i4:=by kernel_rfl
 i5:=by kernel_rfl
 i9:=by kernel_rfl
 i20:=by kernel_rfl
 i37:=by kernel_rfl
 i46:=by kernel_rfl
 i51:=by kernel_rfl
 i53:=by kernel_rfl
 i171:=by kernel_rfl
 i173:=by kernel_rfl
 i212:=by kernel_rfl
 i232:=by kernel_rfl
 i233:=by kernel_rfl
 m17:=by kernel_rfl
 m18:=by kernel_rfl
 m19:=by kernel_rfl}
open Go.RowKit Go.Sort Go.Lib in
theorem Tryz.strconv_AppendInt_10(B n:Nat)(i:Int)(h0: -9223372036854775808≤i)(h1:i≤9223372036854775807)(sv:Value)(xs:List Value)(w:World)(hown:w.ownsRow B 5 1 sv n xs)(hBw:B≤w.heap.size)(hlim:n+21≤140737488355328)(htab:Lib.TabBelow Tryz.prog B w "internal/strconv.uint64pow10" .u64 Lib.pow10Tab):
  Calls Tryz.prog 192 #[sv,.int .i64 i,.int .i64 10] w fun e w'=> ∃v',e=.returned v'∧w'.ownsRow B 5 1 v' (n+(Lib.itoa i).length) (xs++Lib.byteCells (Lib.itoa i))∧Below B w w'∧Lib.OthersKept 5 none w w':=Any.strconv_AppendInt_10 Tryz.laysM176 B n i h0 h1 sv xs w hown hBw hlim htab
def Tryz.lays99_ren:Go.Shelf.Ren:=⟨fun|99=>83|206=>132|n=>n,fun|9=>9|4=>4|3=>3|n=>n,fun|n=>n⟩
theorem Tryz.lays99:Go.Proofs.Lays.n99 Tryz.prog Tryz.lays99_ren:=by constructor<;>first|kernel_rfl|(intro _;kernel_rfl)
open Go.RowKit Go.Lib in
theorem Tryz.strings_HasPrefix(s p:ByteArray)(w:World):
  Calls Tryz.prog 83 #[.string s,.string p] w fun e w'=>e=.returned (.bool (Lib.hasPrefix s.data.toList p.data.toList))∧w'=w:=Any.strings_HasPrefix Tryz.lays99 s p w
def Tryz.lays155_ren:Go.Shelf.Ren:=⟨fun|155=>155|154=>214|138=>251|165=>222|143=>209|166=>223|197=>237|169=>224|195=>270|218=>271|240=>252|241=>253|219=>213|260=>261|276=>272|277=>273|217=>239|225=>245|224=>244|267=>250|266=>262|314=>269|n=>n,fun|9=>9|3=>3|4=>4|72=>211|0=>0|76=>154|105=>223|21=>21|5=>5|70=>209|20=>20|37=>22|75=>65|127=>208|164=>119|46=>151|119=>240|139=>243|138=>242|146=>234|51=>220|80=>146|n=>n,fun|1=>8|3=>12|4=>13|n=>n⟩
theorem Tryz.lays155:Go.Proofs.Lays.n155 Tryz.prog Tryz.lays155_ren:=by constructor<;>first|kernel_rfl|(intro _;kernel_rfl)
theorem Tryz.Builder_Extra_155:Builder.Extra Tryz.prog Tryz.lays155_ren:={
 sizeBuilder:=by kernel_rfl
 liesBuilder:=by kernel_rfl
 t5:=Tryz.underlying5
 a5:=Tryz.isAgg5
 z5:=Tryz.sizeOf5
 v5:=Tryz.zeroValue5
 infoByte:=by kernel_rfl
 cellsByte:=by kernel_rfl
 sizeByte:=by kernel_rfl
 neB5:=by decide}
open Go.RowKit Go.Lib in
theorem Tryz.strings_ReplaceAll(s old new:ByteArray)(m:Int)(w:World)(hs:s.size<4294967281)(hm:w.cell? ⟨8,0,none⟩=some (.int .i64 m))(h1:1≤old.size)(hlen:s.size+Lib.countB s old*new.size≤140737488355328):
  Calls Tryz.prog 155 #[.string s,.string old,.string new] w fun e w'=>
   e=.returned (.string ⟨(Lib.replaceAll s.data.toList old.data.toList new.data.toList).toArray⟩)∧Below w.heap.size w w':=Any.strings_ReplaceAll Tryz.lays155 Tryz.Builder_Extra_155 s old new m w hs hm h1 hlen
def Tryz.lays152_ren:Go.Shelf.Ren:=⟨fun|152=>206|137=>204|119=>243|224=>244|225=>245|217=>239|266=>262|n=>n,fun|9=>9|21=>21|3=>3|4=>4|5=>5|0=>0|46=>151|n=>n,fun|n=>n⟩
theorem Tryz.lays152:Go.Proofs.Lays.n152 Tryz.prog Tryz.lays152_ren:=by constructor<;>first|kernel_rfl|(intro _;kernel_rfl)
open Go.RowKit Go.Lib in
theorem Tryz.strings_IndexRune_ascii(s:ByteArray)(r:Int)(w:World)(h0:0≤r)(h1:r<128):
  Calls Tryz.prog 206 #[.string s,.int .i32 r] w fun e w'=>e=.returned (.int .i64 (Lib.indexByte s.data.toList r.toNat.toUInt8))∧w'=w:=Any.strings_IndexRune_ascii Tryz.lays152 s r w h0 h1
def Tryz.lays226_ren:Go.Shelf.Ren:=⟨fun|226=>207|n=>n,fun|3=>3|4=>4|n=>n,fun|n=>n⟩
theorem Tryz.lays226:Go.Proofs.Lays.n226 Tryz.prog Tryz.lays226_ren:=by constructor<;>first|kernel_rfl|(intro _;kernel_rfl)
open Go.RowKit Go.Lib in
theorem Tryz.strings_shouldUseASCIISet(n:Int)(w:World):
  Calls Tryz.prog 207 #[.int .i64 n] w fun e w'=>e=.returned (.bool (decide (8<n)))∧w'=w:=Any.strings_shouldUseASCIISet Tryz.lays226 n w
def Tryz.lays153_ren:Go.Shelf.Ren:=⟨fun|153=>149|152=>206|226=>207|227=>201|228=>208|137=>204|119=>243|224=>244|225=>245|217=>239|266=>262|n=>n,fun|9=>9|3=>3|4=>4|5=>5|21=>21|117=>194|116=>193|0=>0|46=>151|124=>197|n=>n,fun|n=>n⟩
theorem Tryz.lays153:Go.Proofs.Lays.n153 Tryz.prog Tryz.lays153_ren:=by constructor<;>first|kernel_rfl|(intro _;kernel_rfl)
open Go.RowKit Go.Lib in
theorem Tryz.strings_IndexAny_long(hv116: ∀w,(zeroValue 193).run Tryz.prog w=.ok (.agg (Array.replicate 256 (.bool false))) w)(s chars:ByteArray)(w:World)(h2:2≤chars.size)(h8:8<s.size)(hs:s.size<4294967281)(hcs:chars.size<4294967281)(hascii: ∀(j:Nat) b,chars.data.toList[j]? =some b→b.toNat<128):
  Calls Tryz.prog 149 #[.string s,.string chars] w fun e w'=>e=.returned (.int .i64 (Lib.indexAny s.data.toList chars.data.toList))∧w'=((w.alloc (.cells (Lib.setCells chars.data.toList) 193)).alloc (.cells (Lib.setCells chars.data.toList) 193)):=Any.strings_IndexAny_long Tryz.lays153 hv116 (by kernel_rfl) s chars w h2 h8 hs hcs hascii
def Tryz.laysSlH8_f297_ren:Go.Shelf.Ren:=⟨fun|8=>297|6=>305|n=>n,fun|22=>95|23=>3|25=>56|4=>4|3=>3|0=>0|n=>n,fun|n=>n⟩
theorem Tryz.laysSlH8_f297:Go.Proofs.SlLaysH.n8 Tryz.prog Tryz.laysSlH8_f297_ren:={
 mixed:=by kernel_rfl
 f6:=⟨Tryz.f305.name,by decide,Tryz.func305.trans (congrArg some (by kernel_rfl))⟩
 f8:=⟨Tryz.f297.name,by decide,Tryz.func297.trans (congrArg some (by kernel_rfl))⟩
 t0:=Tryz.underlying0
 a0:=Tryz.isAgg0
 z0:=Tryz.sizeOf0
 v0:=Tryz.zeroValue0
 t3:=Tryz.underlying3
 a3:=Tryz.isAgg3
 z3:=Tryz.sizeOf3
 v3:=Tryz.zeroValue3
 t4:=Tryz.underlying4
 a4:=Tryz.isAgg4
 z4:=Tryz.sizeOf4
 v4:=Tryz.zeroValue4
 t22:=Tryz.underlying95
 a22:=Tryz.isAgg95
 z22:=Tryz.sizeOf95
 v22:=Tryz.zeroValue95
 a23:=Tryz.isAgg3
 z23:=Tryz.sizeOf3
 t25:=Tryz.underlying56
 a25:=Tryz.isAgg56
 z25:=Tryz.sizeOf56
 v25:=Tryz.zeroValue56}
open Go.RowKit Go.Lib in
theorem Tryz.slices_ContainsFunc{α:Type} [Inhabited α](enc:α→Value)(p:α→Bool)(g:Nat)(lb:Array Value)(eg: ∀args w,(callFunc g args).run Tryz.prog w=.ok (.enter g args) w)(b off n c:Nat)(zs:List α)(w:World)(hp:PredAt Tryz.prog g lb enc p w)(hz:n≤zs.length)(hbig:n≤9223372036854775807)(hc: ∀j,j<zs.length→w.cell? ⟨b,off+j,none⟩=some (enc zs[j]!)):
  Calls Tryz.prog 297 #[.slice (some ⟨b,off,none⟩) n c,.func (.func g) #[] lb] w fun e w'=>e=.returned (.bool ((zs.take n).any p))∧ ∃q,w'=w.drewN q:=AnyE.slices_ContainsFunc Tryz.laysSlH8_f297 enc p g lb eg b off n c zs w hp hz hbig hc
open Go.RowKit Go.Lib in
theorem Tryz.slices_ContainsFunc_empty{α:Type} [Inhabited α](a:Option Addr)(c:Nat)(fv:Value)(w:World):
  Calls Tryz.prog 297 #[.slice a 0 c,fv] w fun e w'=>e=.returned (.bool false)∧w'=w:=AnyE.slices_ContainsFunc_empty Tryz.laysSlH8_f297 a c fv w
end Go.Proofs
namespace Go.Proofs.YtgcbaphbiaimoaaGreatDoor
open Go.ChangeShapes Go.WideShapes Go.ChangeAt Go.RowKit Go.Lib
theorem ztnz:(Rows.laid_unicode_utf8_acceptRanges:DataW Unit)=Lib.acceptData:=by kernel_rfl
theorem zpez:Rows.laid_unicode_utf8_first=Lib.firstData:=by kernel_rfl
theorem zYz{u u':World}(h:Lib.Utf8Tabs 12 13 u)(hb:Below u.heap.size u u'):Lib.Utf8Tabs 12 13 u':=Utf8Tabs_below h hb
def zjzz(cs:Array Value):Obj→Obj
 | .cells _ t frozen=> .cells cs t frozen
 |o=>o
def zpfz(h:Array Obj):Array Obj:=
 (h.modify 12 (zjzz (Lib.firstTab.map fun z=>Value.int .u8 z).toArray)).modify 13 (zjzz ((List.range 16).flatMap fun i=>[Value.int .u8 (Lib.accLo i),Value.int .u8 (Lib.accHi i)]).toArray)
end Go.Proofs.YtgcbaphbiaimoaaGreatDoor
namespace Go.Proofs.YtgcbaphbiaimoaaGreatDoor
open Go.RowKit
abbrev CB(f:FuncId)(a:Array Value)(W:World)(v:Value):Prop:=Calls Tryz.prog f a W fun e w'=>e=.returned v∧Below W.heap.size W w'
abbrev CS(f:FuncId)(a:Array Value)(W:World)(v:Value):Prop:=Calls Tryz.prog f a W fun e w'=>e=.returned v∧W=w'
def zcz(l:List UInt8):List Value:=l.map fun b=>Value.int .u8 (b.toNat:Int)
theorem vWz(l:List UInt8)(c:UInt8):zcz (l++[c])=zcz l++[Value.int .u8 (c.toNat:Int)]:=by simp[zcz]
theorem xhz(l m:List UInt8):zcz (l++m)=zcz l++zcz m:=by simp[zcz]
theorem x2z(l:List UInt8):(zcz l).length=l.length:=by simp[zcz]
theorem vmz(l:List UInt8): ∀u∈zcz l,u.oneCell'=true:=by
 intro u hu
 obtain ⟨_,_,rfl⟩:=List.mem_map.1 hu
 rfl
theorem zzz{P:Program}(w:World)(src dst e:TypeId)(hs:P.underlying src=some (.slice e))(he:P.underlying e=some (.int .u8))(hd:P.underlying dst=some .string)
  {base:Nat} {v:Value} {n:Nat} {l:List UInt8} (hown:w.ownsRow base e 1 v n (zcz l)):
  (convert src dst v).run P w=.ok (.string ⟨l.toArray⟩) w:=by
 have hn:l.length=n:=by have:=hown.1;simpa[x2z] using this
 rcases hown.2 with ⟨rfl,h0⟩|⟨g,cap,cur,rfl,hb,hg,hnc,hcm,hcs,htake⟩
 ·rw[h0]at hn
  have:l=[]:=List.eq_nil_of_length_eq_zero hn
  subst this
  rw[run_convert_bytes_string w src dst e _ _ _ hs he hd]
  simp[Conv.bytesToString]
  rfl
 subst hn
 refine run_convert_bytes_back w src dst e ⟨g,0,none⟩ cap l hs he hd fun j hj=> ?_
 exact hown.cells (g:=g) rfl j _ (by simp[zcz,hj])
def vOz(w:World)(B:Nat)(l:List UInt8):Prop:=
 ∀j (hj:j<l.length),w.cell? ⟨B,j,none⟩=some (.int .u8 (l[j].toNat:Int))∧w.frozen? ⟨B,j,none⟩=false
theorem vOz.drew{w:World}{B:Nat}{l:List UInt8}(h:vOz w B l):vOz w.drew B l:=h
theorem zc5z(w:World)(s:ByteArray)(cap:Nat)(e:TypeId):
  vOz (w.alloc (.cells (bytesRow s cap) e ((bytesRow s cap).size,(bytesRow s cap).size+1))) w.heap.size s.data.toList:=by
 intro j hj
 have hj':j<s.data.size:=by simpa using hj
 constructor
 ·rw[World.cell?_alloc_mark]
  unfold bytesRow
  rw[Array.getElem?_append_left (by simpa using hj')]
  rw[Array.getElem?_map,Array.getElem?_eq_getElem hj']
  simp
 have hb:(w.alloc (.cells (bytesRow s cap) e ((bytesRow s cap).size,(bytesRow s cap).size+1))).heap[w.heap.size]? =some (.cells (bytesRow s cap) e ((bytesRow s cap).size,(bytesRow s cap).size+1)):=heap_alloc_new w _
 have hsz:j<(bytesRow s cap).size:=by
  have h0:s.size=s.data.size:=rfl
  unfold bytesRow
  simp only[Array.size_append,Array.size_map,Array.size_replicate]
  omega
 simp only[World.frozen?,hb]
 simp
 omega
theorem vOz.set{w:World}{B:Nat}{l:List UInt8}(h:vOz w B l)(k:Nat)(hk:k<l.length)(c:UInt8){x:Int}(hx:x=(c.toNat:Int)):
  vOz (w.setCell ⟨B,k,none⟩ (.int .u8 x)) B (l.set k c):=by
 subst hx
 intro j hj
 have hj':j<l.length:=by simpa using hj
 refine ⟨?_,by rw[World.frozen?_setCell];exact (h j hj').2⟩
 by_cases e:k=j
 ·subst e
  rw[World.cell?_setCell_same' _ _ _ (by rw[(h k hk).1];rfl)]
  simp
 rw[World.cell?_setCell_other _ _ _ _ (fun h=>e (by injection h))]
 rw[List.getElem_set_ne e]
 exact (h j hj').1
theorem zcqz{P:Program}(w:World)(src dst e:TypeId)(hs:P.underlying src=some (.slice e))(he:P.underlying e=some (.int .u8))(hd:P.underlying dst=some .string)
  {B n cap:Nat} {l:List UInt8} (hn:l.length=n) (h:vOz w B l):
  (convert src dst (.slice (some ⟨B,0,none⟩) n cap)).run P w=.ok (.string ⟨l.toArray⟩) w:=by
 subst hn
 refine run_convert_bytes_back w src dst e ⟨B,0,none⟩ cap l hs he hd fun j hj=> ?_
 have e:(⟨B,0,none⟩:Addr).add j=⟨B,j,none⟩:=by rw[Addr.add_lit];simp
 rw[e]
 exact (h j hj).1
theorem vdz{P:Program}(wr:World){ops:Array Oper}{rest:List Oper}{o:Oper}{a:Act}{Q:Exit→Act→World→Prop}
  (hg:o.guard=none) (s x:Operand) (t:TypeId) (hop:o.op=.call {callee:=.builtin .append,args:= #[s,x],argTypes:= #[t,t]})
  (B:Nat) (e:TypeId) (z:Value) (bytes:Nat) (ht:P.underlying t=some (.slice e)) (hinfo:(P.info? e).map (fun i=>(i.zero,i.size,i.bytes))=some (some z,1,bytes)) (hz:z.cells.size=1)
  (v:Value) (n:Nat) (xs:List Value) (hs:a.eval s=v) (hown:wr.ownsRow B e 1 v n xs)
  (cs:Array Value) (m:Nat) (hm:cs.size=m) (hx:a.eval x=.slice (some ⟨wr.heap.size,0,none⟩) m m) (h1: ∀u∈cs.toList,u.oneCell'=true)
  (hroom:(n+m)*bytes≤140737488355328) (hroom':n+m≤maxLen) (hB:B≤wr.heap.size)
  (hK: ∀v' w1,w1.ownsRow B e 1 v' (n+m) (xs++cs.toList)→Below B wr w1→(∀k,k<wr.heap.size→some k≠v.ownBlock→w1.heap[k]? =wr.heap[k]?)→wpList P ops Q rest (a.put o.dst v') w1):
  wpList P ops Q (o::rest) a (wr.alloc (.cells cs e)):=by
 obtain ⟨i0,hi,hz0,hz1,hz2⟩:=info_parts hinfo
 refine wpList_append_own (wr.alloc (.cells cs e)) hg s x t hop B e i0 z 1 bytes ht hi hz0 hz1 hz2 hz (by decide) v n xs hs (hown.alloc _) ⟨wr.heap.size,0,none⟩ m m cs.toList hx (by simp[hm]) ?_ h1 hroom' hroom (by simp;omega) ?_
 ·intro j u hj
  rw[Addr.add_lit,Nat.zero_add]
  rw[World.cell?_alloc_at _ _ _ _ rfl]
  simpa using hj
 intro v' w1 h1 h2 _
 exact hK v' w1 h1 (((Below.refl B wr).alloc hB _).grown h2 (by simp;omega) (fun k hk=>(hown.lt k hk).1))
  (fun k hk hne=>(h2.block k (by simp;omega) hne).trans (Below.heap_alloc wr _ k hk))
theorem zbz{P:Program}(wr:World){ops:Array Oper}{rest:List Oper}{o:Oper}{a:Act}{Q:Exit→Act→World→Prop}
  (hg:o.guard=none) (s x:Operand) (t:TypeId) (hop:o.op=.call {callee:=.builtin .append,args:= #[s,x],argTypes:= #[t,t]})
  (B:Nat) (e:TypeId) (z:Value) (bytes:Nat) (ht:P.underlying t=some (.slice e)) (hinfo:(P.info? e).map (fun i=>(i.zero,i.size,i.bytes))=some (some z,1,bytes)) (hz:z.cells.size=1)
  (v:Value) (n:Nat) (xs:List Value) (hs:a.eval s=v) (hown:wr.ownsRow B e 1 v n xs)
  (cs:Array Value) (m:Nat) (hm:cs.size=m) (hx:a.eval x=.slice (some ⟨wr.heap.size,0,none⟩) m m) (h1: ∀u∈cs.toList,u.oneCell'=true)
  (hroom:(n+m)*bytes≤140737488355328) (hroom':n+m≤maxLen) (hB:B≤wr.heap.size)
  (hK: ∀v' w1,w1.ownsRow B e 1 v' (n+m) (xs++cs.toList)→Below B wr w1→wpList P ops Q rest (a.put o.dst v') w1):
  wpList P ops Q (o::rest) a (wr.alloc (.cells cs e)):=
 vdz wr hg s x t hop B e z bytes ht hinfo hz v n xs hs hown cs m hm hx h1 hroom hroom' hB (fun v' w1 a b _=>hK v' w1 a b)
theorem zjz{w w':World}{B:Nat}{e:TypeId}{size:Nat}{v:Value}{n:Nat}{xs:List Value}(h:w.ownsRow B e size v n xs)(hb:Below w.heap.size w w'):w'.ownsRow B e size v n xs:=
 h.kept (row:=none) ⟨hb.os,hb.tape,hb.output,hb.size,fun k hk _=>hb.block k hk⟩ (by cases hv:v.ownBlock<;>simp)
theorem zcIz{w w1 w2:World}{row:Option Nat}(h:w.grownBy w1 row)(hb:Below w1.heap.size w1 w2):w.grownBy w2 row:=
 ⟨hb.os.trans h.os,hb.tape.trans h.tape,hb.output.trans h.output,Nat.le_trans h.size hb.size,fun k hk hne=>(hb.block k (Nat.lt_of_lt_of_le hk h.size)).trans (h.block k hk hne)⟩
theorem ztz{w w1 w2:World}{row:Option Nat}(h:w.grownBy w1 row)(hb:w1.grownBy w2 row):w.grownBy w2 row:=
 ⟨hb.os.trans h.os,hb.tape.trans h.tape,hb.output.trans h.output,Nat.le_trans h.size hb.size,fun k hk hne=>(hb.block k (Nat.lt_of_lt_of_le hk h.size) hne).trans (h.block k hk hne)⟩
theorem zpz{w:World}{B:Nat}{e:TypeId}{v:Value}{n:Nat}{xs:List Value}(h:w.ownsRow B e 1 v n xs):
  (n=0∧xs=[]∧ ∃ao cap,v=.slice ao 0 cap)∨(0<n∧ ∃g cap,v=.slice (some ⟨g,0,none⟩) n cap):=by
 have hl:=h.1
 rcases h.2 with ⟨rfl,rfl⟩|⟨g,cap,cur,rfl,_⟩
 ·exact .inl ⟨rfl,List.eq_nil_of_length_eq_zero (by simpa using hl),none,0,rfl⟩
 by_cases h0:n=0
 ·subst h0
  exact .inl ⟨rfl,List.eq_nil_of_length_eq_zero (by simpa using hl),_,cap,rfl⟩
 exact .inr ⟨by omega,g,cap,rfl⟩
def zrz(l:List ByteArray):List Value:=l.map Value.string
theorem vXz(l:List ByteArray)(s:ByteArray):zrz (l++[s])=zrz l++[Value.string s]:=by simp[zrz]
theorem vYz{w:World}{B:Nat}{e:TypeId}{g n cap:Nat}{xs:List Value}(h:w.ownsRow B e 1 (.slice (some ⟨g,0,none⟩) n cap) n xs)(k:Nat)(hk:k<n):
  ∃u,w.cell? ⟨g,k,none⟩=some u:=by
 have hl:xs.length=n:=by simpa using h.1
 rw[h.cellAt k (by omega)]
 exact ⟨xs[k],by simp[show k<xs.length by omega]⟩
theorem z0z{w:World}{B:Nat}{e:TypeId}{g n cap:Nat}{fs:List ByteArray}(h:w.ownsRow B e 1 (.slice (some ⟨g,0,none⟩) n cap) n (zrz fs))(k:Nat)(hk:k<n):
  w.cell? ⟨g,k,none⟩=some (.string (fs.getD k ByteArray.empty)):=by
 have hl:fs.length=n:=by have:=h.1;simpa[zrz] using this
 rw[h.cellAt k (by omega)]
 simp[zrz,List.getD,show k<fs.length by omega]
def zkz(l:List Int):List Value:=l.map (Value.int .i64)
theorem yWz(l:List Int):(zkz l).length=l.length:=by simp[zkz]
theorem vZz(l:List Int)(x:Int):zkz (l++[x])=zkz l++[Value.int .i64 x]:=by simp[zkz]
theorem zawz{w:World}{B:Nat}{e:TypeId}{g n cap:Nat}{zs:List Int}(h:w.ownsRow B e 1 (.slice (some ⟨g,0,none⟩) n cap) n (zkz zs))(k:Nat)(hk:k<n):
  w.cell? ⟨g,k,none⟩=some (.int .i64 (zs.getD k 0)):=by
 have hl:zs.length=n:=by have:=h.1;simpa[zkz] using this
 rw[h.cellAt k (by omega)]
 simp[zkz,List.getD,show k<zs.length by omega]
theorem jGz(l:List Int)(k:Nat)(h:k<l.length):l.take (k+1)=l.take k++[l.getD k 0]:=by
 rw[List.take_succ_eq_append_getElem h]
 simp[List.getD,h]
theorem zlxz(d:UInt8)(l:List UInt8):((⟨#[d]⟩:ByteArray)++(⟨l.toArray⟩:ByteArray))=⟨(d::l).toArray⟩:=by
 apply ByteArray.ext
 rw[ByteArray.data_append]
 simp
theorem zgz{a b:Bool}(h:a=b):Ending.returned (.bool a)=.returned (.bool b):=by rw[h]
theorem znz{k:IntKind}{a b:Int}(h:a=b):Ending.returned (.int k a)=.returned (.int k b):=by rw[h]
theorem j2z{a b:List UInt8}(h:a=b):Ending.returned (.string ⟨a.toArray⟩)=.returned (.string ⟨b.toArray⟩):=by rw[h]
theorem xez(s:ByteArray)(k:Nat)(h:k<s.size):s.data.toList.take (k+1)=s.data.toList.take k++[s[k]]:=by
 rw[List.take_succ_eq_append_getElem (by simpa using h)];rfl
theorem ynz(s:ByteArray)(k:Nat)(h:s.size≤k):s.data.toList.take k=s.data.toList:=List.take_of_length_le (by simpa using h)
theorem zfz(x a b:Int)(w:World)(h1:a≤x)(h2:x≤b):
  Calls Tryz.prog 39 #[.int .i64 x,.int .i64 a,.int .i64 b] w fun e w'=>e=.returned (.bool true)∧w=w':=by
 go_enter Tryz.func39,Tryz.ntmps39
 go_wp2
 go_ret
 exact ⟨rfl,rfl⟩
theorem zlz(x a b:Int)(w:World)(h:x<a∨b<x):
  Calls Tryz.prog 39 #[.int .i64 x,.int .i64 a,.int .i64 b] w fun e w'=>e=.returned (.bool false)∧w=w':=by
 rcases Int.lt_or_le x a with h1|h1
 ·clear h
  go_enter Tryz.func39,Tryz.ntmps39
  go_wp2
  go_ret
  exact ⟨rfl,rfl⟩
 have h2:b<x:=by omega
 clear h
 go_enter Tryz.func39,Tryz.ntmps39
 go_wp2
 go_ret
 exact ⟨zgz (by simp;omega),rfl⟩
def ysz(c:UInt8):UInt8:=if 65≤c.toNat∧c.toNat≤90 then c+32 else c
def zdz(l:List UInt8):List UInt8:=l.map ysz
theorem Tryz.info5:(Tryz.prog.info? 5).map (fun i=>(i.zero,i.size,i.bytes))=some (some (.int .u8 0),1,1):=by kernel_rfl
theorem za2z(c:UInt8):((ysz c).toNat:Int)=if 65≤(c.toNat:Int)∧(c.toNat:Int)≤90 then (c.toNat:Int)+32 else c.toNat:=by
 unfold ysz
 split
 ·rw[if_pos (by omega)]
  have:(c+32).toNat=(c.toNat+32)%256:=by rw[UInt8.toNat_add];rfl
  omega
 rw[if_neg (by omega)]
theorem zfBz(s:ByteArray)(k:Nat)(h:k<s.size){w1:World}{B:Nat}{v:Value}{x:Int}
  (hown:w1.ownsRow B 5 1 v (k+1) (zcz (zdz (s.data.toList.take k))++[.int .u8 x]))
  (hx:x=if 65≤(s[k].toNat:Int)∧(s[k].toNat:Int)≤90 then (s[k].toNat:Int)+32 else s[k].toNat):
  w1.ownsRow B 5 1 v (k+1) (zcz (zdz (s.data.toList.take (k+1)))):=by
 have e:zcz (zdz (s.data.toList.take (k+1)))=zcz (zdz (s.data.toList.take k))++[.int .u8 x]:=by
  rw[xez s k h,hx,←za2z]
  simp[zdz,zcz]
 rw[e];exact hown
theorem zhjz(s:ByteArray)(w:World)(hs:s.size≤1048576):
  Calls Tryz.prog 52 #[.string s] w fun e w'=>e=.returned (.string ⟨(zdz s.data.toList).toArray⟩)∧Below w.heap.size w w':=by
 obtain ⟨i0,hi,hz0,hz1,hz2⟩:=info_parts Tryz.info5
 go_enter Tryz.func52,Tryz.ntmps52
 go_wp2
 go_loopw[3,4] (fun v i wr=> ∃k:Nat,k≤s.size∧i=.int .i64 k∧wr.ownsRow w.heap.size 5 1 v k (zcz (zdz (s.data.toList.take k)))∧Below w.heap.size w wr)
  (fun _ i _=>s.size-(intOf i).toNat)
 case atStart=>exact ⟨0,Nat.zero_le _,rfl,World.ownsRow_lit w #[] 0 (Nat.le_refl _) (by decide) rfl,(Below.refl _ _).alloc (Nat.le_refl _) _⟩
 obtain ⟨k,hk,rfl,hown,hbel⟩:=hrel
 by_cases hlt:k<s.size
 ·have hsz:=hbel.size
  by_cases hc:65≤(s[k].toNat:Int)∧(s[k].toNat:Int)≤90
  ·obtain ⟨hc1,hc2⟩:=hc
   go_wp2_with (first
    |(at_builtin;refine wpList_append_own _ rfl _ _ 22 rfl w.heap.size 5 i0 (.int .u8 0) 1 1 Tryz.underlying22 hi hz0 hz1 hz2 rfl (by decide) _ _ _ rfl (hown.alloc _) ⟨wr.heap.size,0,none⟩ 1 1 [.int .u8 ((s[k].toNat:Int)+32)] rfl rfl ?c1A ?c2A ?c3A ?c4A ?c5A ?_)
    |(go_at_call 39;refine (zfz (s[k].toNat:Int) 65 90 _ hc1 hc2).mono ?_;rintro e w' ⟨rfl,rfl⟩))
   case c1A=>exact cell_one_new _ _ _
   case c2A=>intro u hu;simp at hu;subst hu;rfl
   case c3A=>unfold maxLen;omega
   case c4A=>omega
   case c5A=>simp;omega
   intro v' w1 hown' hgrow _
   have R:=zfBz s k hlt hown' (by rw[if_pos ⟨hc1,hc2⟩])
   have B1:Below w.heap.size w w1:=(hbel.alloc hsz _).grown hgrow (by simp;omega) (fun k hk=>(hown.lt k hk).1)
   clear hown' hgrow hown hbel
   go_wp2
   go_roundw
   case rel=>exact ⟨k+1,by omega,by go_num,R,B1⟩
   case measure=>simp[intOf];omega
  have hc':(s[k].toNat:Int)<65∨90<(s[k].toNat:Int):=by omega
  have HC:Hid ((s[k].toNat:Int)<65∨90<(s[k].toNat:Int)):=hc'
  clear hc hc'
  have hb:(s[k].toNat:Int)≤255:=by have:=s[k].toNat_lt;omega
  go_wp2_with (first
   |(at_builtin;refine wpList_append_own _ rfl _ _ 22 rfl w.heap.size 5 i0 (.int .u8 0) 1 1 Tryz.underlying22 hi hz0 hz1 hz2 rfl (by decide) _ _ _ rfl (hown.alloc _) ⟨wr.heap.size,0,none⟩ 1 1 [.int .u8 ((s[k].toNat:Int))] rfl rfl ?c1B ?c2B ?c3B ?c4B ?c5B ?_)
   |(go_at_call 39;refine (zlz (s[k].toNat:Int) 65 90 _ HC.out).mono ?_;rintro e w' ⟨rfl,rfl⟩))
  case c1B=>exact cell_one_new _ _ _
  case c2B=>intro u hu;simp at hu;subst hu;rfl
  case c3B=>unfold maxLen;omega
  case c4B=>omega
  case c5B=>simp;omega
  intro v' w1 hown' hgrow _
  have R:=zfBz s k hlt hown' (by rw[if_neg (by rcases HC.out with h|h<;>omega)])
  have B1:Below w.heap.size w w1:=(hbel.alloc hsz _).grown hgrow (by simp;omega) (fun k hk=>(hown.lt k hk).1)
  clear hown' hgrow hown hbel
  go_wp2
  go_roundw
  case rel=>exact ⟨k+1,by omega,by go_num,R,B1⟩
  case measure=>simp[intOf];omega
 have HO:(convert 22 9 u3).run Tryz.prog wr=.ok (.string ⟨(zdz (s.data.toList.take k)).toArray⟩) wr:=zzz wr 22 9 5 Tryz.underlying22 Tryz.underlying5 Tryz.underlying9 hown
 go_wp2
 go_ret
 exact ⟨j2z (by rw[ynz s k (by omega)]),hbel⟩
def y6z(l:List UInt8)(k:Nat):List UInt8:=zdz (l.take k)++l.drop k
theorem zitz(l:List UInt8):y6z l 0=l:=by simp[y6z,zdz]
theorem zbwz(l:List UInt8)(k:Nat):(y6z l k).length=l.length:=by simp[y6z,zdz];omega
theorem zfCz(s:ByteArray)(k:Nat)(h:k<s.size)(h':k<(y6z s.data.toList k).length):(y6z s.data.toList k)[k]=s[k]:=by
 have hk:k<s.data.toList.length:=by simpa using h
 have e:(y6z s.data.toList k)[k]? =some s[k]:=by
  unfold y6z
  rw[List.getElem?_append_right (by simp[zdz];omega)]
  simp only[zdz,List.length_map,List.length_take,Nat.min_eq_left (Nat.le_of_lt hk),Nat.sub_self,List.getElem?_drop,Nat.add_zero]
  rw[List.getElem?_eq_getElem hk]
  rfl
 rw[List.getElem?_eq_getElem h']at e
 exact Option.some.inj e
theorem zc6z(s:ByteArray)(k:Nat)(h:k<s.size):(y6z s.data.toList k).set k (ysz s[k])=y6z s.data.toList (k+1):=by
 have hk:k<s.data.toList.length:=by simpa using h
 unfold y6z
 rw[List.set_append_right _ _ (by simp[zdz];omega)]
 rw[xez s k h,List.drop_eq_getElem_cons hk]
 simp[zdz,Nat.min_eq_left (Nat.le_of_lt h)]
theorem ziuz(s:ByteArray)(k:Nat)(h:k<s.size)(hc:ysz s[k]=s[k]):y6z s.data.toList k=y6z s.data.toList (k+1):=by
 rw[←zc6z s k h,hc]
 have h':k<(y6z s.data.toList k).length:=by rw[zbwz];simpa using h
 rw[←zfCz s k h h',List.set_getElem_self]
theorem zhkz(s:ByteArray)(w:World)(hs:s.size≤1048576):
  Calls Tryz.prog 172 #[.string s] w fun e w'=>e=.returned (.string ⟨(zdz s.data.toList).toArray⟩)∧Below w.heap.size w w':=by
 obtain ⟨cap,hcap⟩: ∃cap,grownCap w s.size 0 5=cap:=⟨_,rfl⟩
 have hconv:=run_bytes_of_string w 9 22 5 s Tryz.underlying9 Tryz.underlying22 Tryz.underlying5
 rw[hcap]at hconv
 have hmade:=zc5z w s cap 5
 generalize hC:bytesRow s cap=C at hconv hmade
 clear hC hcap
 go_enter Tryz.func172,Tryz.ntmps172
 go_wp2
 go_loopw[10] (fun i wr=> ∃k:Nat,k≤s.size∧i=.int .i64 k∧vOz wr w.heap.size (y6z s.data.toList k)∧Below w.heap.size w wr)
  (fun i _=>s.size-(intOf i).toNat)
 case atStart=>exact ⟨0,Nat.zero_le _,rfl,by rw[zitz];exact hmade,((Below.refl _ _).alloc (Nat.le_refl _) _).drew⟩
 obtain ⟨k,hk,rfl,hat,hbel⟩:=hrel
 clear hmade hconv
 by_cases hlt:k<s.size
 ·have hl:k<(y6z s.data.toList k).length:=by rw[zbwz];simpa using hlt
  obtain ⟨hc,hf⟩:=hat k hl
  rw[zfCz s k hlt hl]at hc
  by_cases hcc:65≤(s[k].toNat:Int)∧(s[k].toNat:Int)≤90
  ·obtain ⟨hc1,hc2⟩:=hcc
   go_wp2
   go_roundw
   case rel=>
    refine ⟨k+1,by omega,by go_num,?_,hbel.setCell (Nat.le_refl _) _⟩
    rw[←zc6z s k hlt]
    exact hat.set k hl (ysz s[k]) (by rw[za2z,if_pos ⟨hc1,hc2⟩];omega)
   case measure=>simp[intOf];omega
  have hcc':ysz s[k]=s[k]:=by unfold ysz;rw[if_neg (by omega)]
  have HC:Hid (ysz s[k]=s[k]):=hcc'
  clear hcc'
  by_cases h65:65≤(s[k].toNat:Int)
  all_goals
   go_wp2
   go_roundw
   case rel=>exact ⟨k+1,by omega,by go_num,by rw[←ziuz s k hlt HC.out];exact hat,hbel⟩
   case measure=>simp[intOf];omega
 have e:y6z s.data.toList k=zdz s.data.toList:=by
  unfold y6z
  rw[ynz s k (by omega),List.drop_eq_nil_of_le (by simp;omega),List.append_nil]
 rw[e]at hat
 have HO:=zcqz (P:=Tryz.prog) wr 22 9 5 Tryz.underlying22 Tryz.underlying5 Tryz.underlying9 (n:=s.size) (cap:=cap) (by simp[zdz]) hat
 clear e
 go_wp2
 go_ret
 exact ⟨rfl,hbel⟩
end Go.Proofs.YtgcbaphbiaimoaaGreatDoor
