/- Shelf, LaidBase, Base, LowerWalk. -/
import Derived.Shelf.SlicesE.Clone
import Derived.Shelf.SlGeneric
import Derived.Shelf.Unicode.ValidAny
import Derived.Shelf.Spec.SlicesInsertGrow
import Derived.Ground.Names2Prog
import Derived.Shelf.Spec.SlicesInsert
import Derived.Shelf.Strings.Builder1
import Derived.Shelf.Strings.Builder2
import Derived.Shelf.Strings.OnBuilder
import Derived.Shelf.Small.Strs
import Derived.Shelf.Small.Wraps
import Derived.Shelf.Strings.BuilderF
import Derived.Shelf.Strings.BuilderK
import Derived.Shelf.Utf8.RuneCount
import Derived.Shelf.Strconv.Itoa0
import Derived.Shelf.Strconv.Itoa1
import Derived.Shelf.LaysM
import Derived.Shelf.Strconv.Itoa2
import Derived.Shelf.Strconv.Clone
import Derived.Shelf.Strings.Search1
import Derived.Shelf.Strings.LastIndex
import Derived.Shelf.Strconv.AppendUint10
import Derived.Shelf.Strconv.AppendInt10
import Derived.Shelf.Strconv.AppendIntPublic10
import Derived.Shelf.Strings.Prefix
import Derived.Ground.SlgnProg
import Derived.Shelf.SlicesE.Reverse
import Derived.Ground.SlgfProg
import Derived.Shelf.SlicesE.IndexFunc
import Derived.Test.YtijliddchoehhaaGreatDoorProg
import Derived.Test.YtijliddchoehhaaGreatDoorRows
import Derived.Lib.LaidIn
import Derived.Lib.LaidU8T
import Derived.Deep.DeepHandedRow
import Derived.Deep.DeepWitnessRowRef
import Derived.ProofKit
import Derived.Shelf.Unicode.DecodeSlow
import Derived.WalkKit
import Derived.WalkLawsBesides
import Derived.WalkSpells
import Derived.Laws.IdiomStrings
set_option maxHeartbeats 1000000
namespace Go.Proofs
open Go.Shelf
def Tryz.laysSlgn35_ren:Go.Shelf.Ren:=⟨fun|35=>55|n=>n,fun|22=>60|23=>9|3=>3|4=>4|0=>0|n=>n,fun|n=>n⟩
theorem Tryz.laysSlgn35:Go.Proofs.SlLaysE.n35 Tryz.prog Tryz.laysSlgn35_ren:={
 mixed:=by kernel_rfl
 f35:=⟨Tryz.f55.name,by decide,Tryz.func55.trans (congrArg some (by kernel_rfl))⟩
 t0:=Tryz.underlying0
 a0:=Tryz.isAgg0
 z0:=Tryz.sizeOf0
 v0:=Tryz.zeroValue0
 t3:=Tryz.underlying3
 a3:=Tryz.isAgg3
 z3:=Tryz.sizeOf3
 v3:=Tryz.zeroValue3
 t4:=Tryz.underlying4
 a4:=Tryz.isAgg4
 z4:=Tryz.sizeOf4
 v4:=Tryz.zeroValue4
 t22:=Tryz.underlying60
 a22:=Tryz.isAgg60
 z22:=Tryz.sizeOf60
 v22:=Tryz.zeroValue60
 a23:=Tryz.isAgg9
 z23:=Tryz.sizeOf9}
def Tryz.laysSlgn41_ren:Go.Shelf.Ren:=⟨fun|41=>54|n=>n,fun|22=>60|23=>9|4=>4|n=>n,fun|n=>n⟩
theorem Tryz.laysSlgn41:Go.Proofs.SlLaysE0.n41 Tryz.prog Tryz.laysSlgn41_ren:={
 mixed:=by kernel_rfl
 f41:=⟨Tryz.f54.name,by decide,Tryz.func54.trans (congrArg some (by kernel_rfl))⟩
 t4:=Tryz.underlying4
 a4:=Tryz.isAgg4
 z4:=Tryz.sizeOf4
 v4:=Tryz.zeroValue4
 t22:=Tryz.underlying60
 a22:=Tryz.isAgg60
 z22:=Tryz.sizeOf60
 v22:=Tryz.zeroValue60}
def Tryz.lays196_ren:Go.Shelf.Ren:=⟨fun|196=>135|259=>154|n=>n,fun|9=>9|4=>4|3=>3|5=>5|12=>12|119=>170|0=>0|46=>132|139=>173|138=>172|53=>145|n=>n,fun|3=>2|4=>3|n=>n⟩
theorem Tryz.lays196:Go.Proofs.Lays.n196 Tryz.prog Tryz.lays196_ren:=by constructor<;>first|kernel_rfl|(intro _;kernel_rfl)
def Tryz.laysNm221_ren:Go.Shelf.Ren:=⟨fun|21=>161|27=>168|28=>169|35=>171|39=>173|n=>n,fun|22=>109|3=>3|4=>4|0=>0|n=>n,fun|n=>n⟩
theorem Tryz.laysNm221:Go.Proofs.Lays2.n21 Tryz.prog Tryz.laysNm221_ren:={
 mixed:=by kernel_rfl
 f21:=Tryz.func161.trans (congrArg some (by kernel_rfl))
 f27:=Tryz.func168.trans (congrArg some (by kernel_rfl))
 f28:=Tryz.func169.trans (congrArg some (by kernel_rfl))
 f35:=Tryz.func171.trans (congrArg some (by kernel_rfl))
 f39:=Tryz.func173.trans (congrArg some (by kernel_rfl))
 t0:=Tryz.underlying0
 a0:=Tryz.isAgg0
 z0:=Tryz.sizeOf0
 v0:=Tryz.zeroValue0
 t3:=Tryz.underlying3
 a3:=Tryz.isAgg3
 z3:=Tryz.sizeOf3
 v3:=Tryz.zeroValue3
 t4:=Tryz.underlying4
 a4:=Tryz.isAgg4
 z4:=Tryz.sizeOf4
 v4:=Tryz.zeroValue4
 t22:=Tryz.underlying109
 a22:=Tryz.isAgg109
 z22:=Tryz.sizeOf109
 v22:=Tryz.zeroValue109
 i3:=by kernel_rfl}
def Tryz.lays156_ren:Go.Shelf.Ren:=⟨fun|156=>47|165=>77|166=>78|169=>79|240=>101|241=>102|276=>117|277=>118|n=>n,fun|31=>33|9=>9|3=>3|4=>4|0=>0|20=>20|72=>115|76=>119|70=>113|37=>22|75=>118|127=>137|164=>142|5=>5|80=>121|n=>n,fun|n=>n⟩
theorem Tryz.lays156:Go.Proofs.Lays.n156 Tryz.prog Tryz.lays156_ren:=by constructor<;>first|kernel_rfl|(intro _;kernel_rfl)
theorem Tryz.Builder_Extra_156:Builder.Extra Tryz.prog Tryz.lays156_ren:={
 sizeBuilder:=by kernel_rfl
 liesBuilder:=by kernel_rfl
 t5:=Tryz.underlying5
 a5:=Tryz.isAgg5
 z5:=Tryz.sizeOf5
 v5:=Tryz.zeroValue5
 infoByte:=by kernel_rfl
 cellsByte:=by kernel_rfl
 sizeByte:=by kernel_rfl
 neB5:=by decide}
open Go.RowKit in
theorem Tryz.strings_Join(bk o c:Nat)(xs:List ByteArray)(sep:ByteArray)(w:World)(hcells: ∀(j:Nat) x,xs[j]? =some x→w.cell? ⟨bk,o+j,none⟩=some (.string x))(hbk:bk<w.heap.size)(hN:xs.length≤140737488355328)(hcap:xs.length≤c)(hlen:(Lib.join (xs.map (·.data.toList)) sep.data.toList).length≤140737488355328):
  Calls Tryz.prog 47 #[.slice (some ⟨bk,o,none⟩) xs.length c,.string sep] w fun e w'=>e=.returned (.string ⟨(Lib.join (xs.map (·.data.toList)) sep.data.toList).toArray⟩)∧Below w.heap.size w w':=Any.strings_Join Tryz.lays156 Tryz.Builder_Extra_156 bk o c xs sep w hcells hbk hN hcap hlen
def Tryz.lays137_ren:Go.Shelf.Ren:=⟨fun|137=>167|217=>170|266=>172|n=>n,fun|9=>9|5=>5|3=>3|n=>n,fun|n=>n⟩
theorem Tryz.lays137:Go.Proofs.Lays.n137 Tryz.prog Tryz.lays137_ren:=by constructor<;>first|kernel_rfl|(intro _;kernel_rfl)
open Go.RowKit in
theorem Tryz.strings_IndexByte(s:ByteArray)(c:Int)(w:World):
  Calls Tryz.prog 167 #[.string s,.int .u8 c] w fun e w'=>e=.returned (.int .i64 (Lib.indexByte s.data.toList c.toNat.toUInt8))∧w'=w:=Any.strings_IndexByte Tryz.lays137 s c w
def Tryz.lays103_ren:Go.Shelf.Ren:=⟨fun|103=>123|210=>143|206=>158|n=>n,fun|9=>9|4=>4|24=>95|3=>3|n=>n,fun|n=>n⟩
theorem Tryz.lays103:Go.Proofs.Lays.n103 Tryz.prog Tryz.lays103_ren:=by constructor<;>first|kernel_rfl|(intro _;kernel_rfl)
open Go.RowKit in
theorem Tryz.strings_CutPrefix(s p:ByteArray)(w:World):
  Calls Tryz.prog 123 #[.string s,.string p] w fun e w'=>e=.returned (.tuple #[.string ⟨(Lib.trimPrefix s.data.toList p.data.toList).toArray⟩,.bool (Lib.hasPrefix s.data.toList p.data.toList)])∧w'=w:=Any.strings_CutPrefix Tryz.lays103 s p w
def Tryz.lays195_ren:Go.Shelf.Ren:=⟨fun|195=>136|n=>n,fun|9=>9|3=>3|0=>0|4=>4|n=>n,fun|n=>n⟩
theorem Tryz.lays195:Go.Proofs.Lays.n195 Tryz.prog Tryz.lays195_ren:=by constructor<;>first|kernel_rfl|(intro _;kernel_rfl)
open Go.RowKit in
theorem Tryz.utf8_RuneCountInString(s:ByteArray)(w:World)(hs:s.size<9223372036854775807):
  Calls Tryz.prog 136 #[.string s] w fun e w'=>e=.returned (.int .i64 (Lib.runeCount s))∧ ∃pos,w'=w.iter s pos:=Any.utf8_RuneCountInString Tryz.lays195 s w hs
def Tryz.laysM316_ren:Go.Shelf.Ren:=⟨fun|316=>80|n=>n,fun|9=>9|3=>3|4=>4|37=>22|0=>0|127=>137|5=>5|n=>n,fun|n=>n⟩
theorem Tryz.laysM316:Go.Proofs.LaysM.n316 Tryz.prog Tryz.laysM316_ren:={
 mixed:=by kernel_rfl
 f316:=Tryz.func80.trans (congrArg some (by kernel_rfl))
 t0:=Tryz.underlying0
 a0:=Tryz.isAgg0
 z0:=Tryz.sizeOf0
 v0:=Tryz.zeroValue0
 t3:=Tryz.underlying3
 a3:=Tryz.isAgg3
 z3:=Tryz.sizeOf3
 v3:=Tryz.zeroValue3
 t4:=Tryz.underlying4
 a4:=Tryz.isAgg4
 z4:=Tryz.sizeOf4
 v4:=Tryz.zeroValue4
 t9:=Tryz.underlying9
 a9:=Tryz.isAgg9
 z9:=Tryz.sizeOf9
 v9:=Tryz.zeroValue9
 t37:=Tryz.underlying22
 a37:=Tryz.isAgg22
 z37:=Tryz.sizeOf22
 v37:=Tryz.zeroValue22
 t127:=Tryz.underlying137
 a127:=Tryz.isAgg137
 z127:=Tryz.sizeOf137
 v127:=Tryz.zeroValue137
 t5:=Tryz.underlying5
 a5:=Tryz.isAgg5
 z5:=Tryz.sizeOf5
 v5:=Tryz.zeroValue5
 i0:=by kernel_rfl
 i3:=by kernel_rfl
 i4:=by kernel_rfl
 i5:=by kernel_rfl
 i9:=by kernel_rfl
 i37:=by kernel_rfl
 i127:=by kernel_rfl}
open Go.RowKit in
theorem Tryz.stringslite_Clone(s:ByteArray)(w:World)(hlim:s.size≤281474976710656):
  Calls Tryz.prog 80 #[.string s] w fun e w'=>e=.returned (.string s)∧Below w.heap.size w w':=Any.stringslite_Clone Tryz.laysM316 s w hlim
def Tryz.lays149_ren:Go.Shelf.Ren:=⟨fun|149=>159|222=>166|n=>n,fun|9=>9|5=>5|3=>3|4=>4|n=>n,fun|n=>n⟩
theorem Tryz.lays149:Go.Proofs.Lays.n149 Tryz.prog Tryz.lays149_ren:=by constructor<;>first|kernel_rfl|(intro _;kernel_rfl)
open Go.RowKit Go.Lib in
theorem Tryz.strings_LastIndexByte(s:ByteArray)(c:Int)(hs:s.size<4611686018427387904)(w:World):
  Calls Tryz.prog 159 #[.string s,.int .u8 c] w fun e w'=>e=.returned (.int .i64 (Lib.lastIndexByte s c))∧w'=w:=Any.strings_LastIndexByte Tryz.lays149 s c hs w
def Tryz.laysM176_ren:Go.Shelf.Ren:=⟨fun|176=>81|249=>103|288=>119|283=>131|284=>132|285=>133|286=>134|129=>150|317=>149|318=>151|319=>152|320=>153|337=>163|338=>164|n=>n,fun|37=>22|2=>2|3=>3|53=>145|4=>4|9=>9|171=>153|0=>0|173=>156|212=>165|51=>166|5=>5|20=>20|213=>167|46=>132|232=>186|233=>187|n=>n,fun|17=>1|18=>4|19=>5|n=>n⟩
theorem Tryz.laysM176:Go.Proofs.LaysM.n176 Tryz.prog Tryz.laysM176_ren:={
 mixed:=by kernel_rfl
 f129:=Tryz.func150.trans (congrArg some (by kernel_rfl))
 f176:=Tryz.func81.trans (congrArg some (by kernel_rfl))
 f249:=Tryz.func103.trans (congrArg some (by kernel_rfl))
 f283:=Tryz.func131.trans (congrArg some (by kernel_rfl))
 f284:=Tryz.func132.trans (congrArg some (by kernel_rfl))
 f285:=Tryz.func133.trans (congrArg some (by kernel_rfl))
 f286:=Tryz.func134.trans (congrArg some (by kernel_rfl))
 f288:=Tryz.func119.trans (congrArg some (by kernel_rfl))
 f317:=Tryz.func149.trans (congrArg some (by kernel_rfl))
 f318:=Tryz.func151.trans (congrArg some (by kernel_rfl))
 f319:=Tryz.func152.trans (congrArg some (by kernel_rfl))
 f320:=Tryz.func153.trans (congrArg some (by kernel_rfl))
 f337:=Tryz.func163.trans (congrArg some (by kernel_rfl))
 f338:=Tryz.func164.trans (congrArg some (by kernel_rfl))
 t0:=Tryz.underlying0
 a0:=Tryz.isAgg0
 z0:=Tryz.sizeOf0
 v0:=Tryz.zeroValue0
 t2:=Tryz.underlying2
 a2:=Tryz.isAgg2
 z2:=Tryz.sizeOf2
 v2:=Tryz.zeroValue2
 t3:=Tryz.underlying3
 a3:=Tryz.isAgg3
 z3:=Tryz.sizeOf3
 v3:=Tryz.zeroValue3
 t4:=Tryz.underlying4
 a4:=Tryz.isAgg4
 z4:=Tryz.sizeOf4
 v4:=Tryz.zeroValue4
 t5:=Tryz.underlying5
 a5:=Tryz.isAgg5
 z5:=Tryz.sizeOf5
 v5:=Tryz.zeroValue5
 t9:=Tryz.underlying9
 a9:=Tryz.isAgg9
 z9:=Tryz.sizeOf9
 v9:=Tryz.zeroValue9
 t20:=Tryz.underlying20
 a20:=Tryz.isAgg20
 z20:=Tryz.sizeOf20
 v20:=Tryz.zeroValue20
 t37:=Tryz.underlying22
 a37:=Tryz.isAgg22
 z37:=Tryz.sizeOf22
 v37:=Tryz.zeroValue22
 t46:=Tryz.underlying132
 a46:=Tryz.isAgg132
 z46:=Tryz.sizeOf132
 v46:=Tryz.zeroValue132
 t51:=Tryz.underlying166
 a51:=Tryz.isAgg166
 z51:=Tryz.sizeOf166
 v51:=Tryz.zeroValue166
 t53:=Tryz.underlying145
 a53:=Tryz.isAgg145
 z53:=Tryz.sizeOf145
 v53:=Tryz.zeroValue145
 t171:=Tryz.underlying153
 a171:=Tryz.isAgg153
 z171:=Tryz.sizeOf153
 v171:=Tryz.zeroValue153
 t173:=Tryz.underlying156
 a173:=Tryz.isAgg156
 z173:=Tryz.sizeOf156
 v173:=Tryz.zeroValue156
 t212:=Tryz.underlying165
 a212:=Tryz.isAgg165
 z212:=Tryz.sizeOf165
 v212:=Tryz.zeroValue165
 t213:=Tryz.underlying167
 a213:=Tryz.isAgg167
 z213:=Tryz.sizeOf167
 t232:=Tryz.underlying186
 a232:=Tryz.isAgg186
 z232:=Tryz.sizeOf186
 v232:=Tryz.zeroValue186
 t233:=Tryz.underlying187
 a233:=Tryz.isAgg187
 z233:=Tryz.sizeOf187
 v233:=Tryz.zeroValue187
 g17:=by kernel_rfl
 g18:=by kernel_rfl
 g19:=by kernel_rfl
 i0:=by kernel_rfl
 i2:=by kernel_rfl
 i3:=by kernel_rfl
 i4:=by kernel_rfl
 i5:=by kernel_rfl
 i9:=by kernel_rfl
 i20:=by kernel_rfl
 i37:=by kernel_rfl
 i46:=by kernel_rfl
 i51:=by kernel_rfl
 i53:=by kernel_rfl
 i171:=by kernel_rfl
 i173:=by kernel_rfl
 i212:=by kernel_rfl
 i232:=by kernel_rfl
 i233:=by kernel_rfl
 m17:=by kernel_rfl
 m18:=by kernel_rfl
 m19:=by kernel_rfl}
open Go.RowKit Go.Sort Go.Lib in
theorem Tryz.strconv_AppendInt_10(B n:Nat)(i:Int)(h0: -9223372036854775808≤i)(h1:i≤9223372036854775807)(sv:Value)(xs:List Value)(w:World)(hown:w.ownsRow B 5 1 sv n xs)(hBw:B≤w.heap.size)(hlim:n+21≤140737488355328)(htab:Lib.TabBelow Tryz.prog B w "internal/strconv.uint64pow10" .u64 Lib.pow10Tab):
  Calls Tryz.prog 81 #[sv,.int .i64 i,.int .i64 10] w fun e w'=> ∃v',e=.returned v'∧w'.ownsRow B 5 1 v' (n+(Lib.itoa i).length) (xs++Lib.byteCells (Lib.itoa i))∧Below B w w'∧Lib.OthersKept 5 none w w':=Any.strconv_AppendInt_10 Tryz.laysM176 B n i h0 h1 sv xs w hown hBw hlim htab
def Tryz.lays99_ren:Go.Shelf.Ren:=⟨fun|99=>193|206=>158|n=>n,fun|9=>9|4=>4|3=>3|n=>n,fun|n=>n⟩
theorem Tryz.lays99:Go.Proofs.Lays.n99 Tryz.prog Tryz.lays99_ren:=by constructor<;>first|kernel_rfl|(intro _;kernel_rfl)
open Go.RowKit Go.Lib in
theorem Tryz.strings_HasPrefix(s p:ByteArray)(w:World):
  Calls Tryz.prog 193 #[.string s,.string p] w fun e w'=>e=.returned (.bool (Lib.hasPrefix s.data.toList p.data.toList))∧w'=w:=Any.strings_HasPrefix Tryz.lays99 s p w
def Tryz.laysSlE35_f173_ren:Go.Shelf.Ren:=⟨fun|35=>173|n=>n,fun|22=>109|23=>3|3=>3|4=>4|0=>0|n=>n,fun|n=>n⟩
theorem Tryz.laysSlE35_f173:Go.Proofs.SlLaysE.n35 Tryz.prog Tryz.laysSlE35_f173_ren:={
 mixed:=by kernel_rfl
 f35:=⟨Tryz.f173.name,by decide,Tryz.func173.trans (congrArg some (by kernel_rfl))⟩
 t0:=Tryz.underlying0
 a0:=Tryz.isAgg0
 z0:=Tryz.sizeOf0
 v0:=Tryz.zeroValue0
 t3:=Tryz.underlying3
 a3:=Tryz.isAgg3
 z3:=Tryz.sizeOf3
 v3:=Tryz.zeroValue3
 t4:=Tryz.underlying4
 a4:=Tryz.isAgg4
 z4:=Tryz.sizeOf4
 v4:=Tryz.zeroValue4
 t22:=Tryz.underlying109
 a22:=Tryz.isAgg109
 z22:=Tryz.sizeOf109
 v22:=Tryz.zeroValue109
 a23:=Tryz.isAgg3
 z23:=Tryz.sizeOf3}
open Go.RowKit Go.Lib Go.Sort in
theorem Tryz.slices_Reverse{α:Type} [Inhabited α](enc:α→Value)(h1:OneCell enc)(blk off cap:Nat)(zs:List α)(w:World)(hH:Holds enc w blk off zs.toArray)(hsz:zs.length≤9223372036854775807):
  Calls Tryz.prog 173 #[.slice (some ⟨blk,off,none⟩) zs.length cap] w fun e w'=>e=.returned (.tuple #[])∧ ∃n,w'=putRow enc (Sort.ahead w n) blk off zs.reverse.toArray:=AnyE.slices_Reverse Tryz.laysSlE35_f173 enc h1 blk off cap zs w hH hsz
def Tryz.laysSlH8_f137_ren:Go.Shelf.Ren:=⟨fun|8=>137|6=>155|n=>n,fun|22=>109|23=>3|25=>149|4=>4|3=>3|0=>0|n=>n,fun|n=>n⟩
theorem Tryz.laysSlH8_f137:Go.Proofs.SlLaysH.n8 Tryz.prog Tryz.laysSlH8_f137_ren:={
 mixed:=by kernel_rfl
 f6:=⟨Tryz.f155.name,by decide,Tryz.func155.trans (congrArg some (by kernel_rfl))⟩
 f8:=⟨Tryz.f137.name,by decide,Tryz.func137.trans (congrArg some (by kernel_rfl))⟩
 t0:=Tryz.underlying0
 a0:=Tryz.isAgg0
 z0:=Tryz.sizeOf0
 v0:=Tryz.zeroValue0
 t3:=Tryz.underlying3
 a3:=Tryz.isAgg3
 z3:=Tryz.sizeOf3
 v3:=Tryz.zeroValue3
 t4:=Tryz.underlying4
 a4:=Tryz.isAgg4
 z4:=Tryz.sizeOf4
 v4:=Tryz.zeroValue4
 t22:=Tryz.underlying109
 a22:=Tryz.isAgg109
 z22:=Tryz.sizeOf109
 v22:=Tryz.zeroValue109
 a23:=Tryz.isAgg3
 z23:=Tryz.sizeOf3
 t25:=Tryz.underlying149
 a25:=Tryz.isAgg149
 z25:=Tryz.sizeOf149
 v25:=Tryz.zeroValue149}
open Go.RowKit Go.Lib in
theorem Tryz.slices_ContainsFunc{α:Type} [Inhabited α](enc:α→Value)(p:α→Bool)(g:Nat)(lb:Array Value)(eg: ∀args w,(callFunc g args).run Tryz.prog w=.ok (.enter g args) w)(b off n c:Nat)(zs:List α)(w:World)(hp:PredAt Tryz.prog g lb enc p w)(hz:n≤zs.length)(hbig:n≤9223372036854775807)(hc: ∀j,j<zs.length→w.cell? ⟨b,off+j,none⟩=some (enc zs[j]!)):
  Calls Tryz.prog 137 #[.slice (some ⟨b,off,none⟩) n c,.func (.func g) #[] lb] w fun e w'=>e=.returned (.bool ((zs.take n).any p))∧ ∃q,w'=w.drewN q:=AnyE.slices_ContainsFunc Tryz.laysSlH8_f137 enc p g lb eg b off n c zs w hp hz hbig hc
open Go.RowKit Go.Lib in
theorem Tryz.slices_ContainsFunc_empty{α:Type} [Inhabited α](a:Option Addr)(c:Nat)(fv:Value)(w:World):
  Calls Tryz.prog 137 #[.slice a 0 c,fv] w fun e w'=>e=.returned (.bool false)∧w'=w:=AnyE.slices_ContainsFunc_empty Tryz.laysSlH8_f137 a c fv w
end Go.Proofs
namespace Go.Proofs.YtijliddchoehhaaGreatDoor
open Go.ChangeShapes Go.WideShapes Go.ChangeAt Go.RowKit Go.Lib
theorem own:ownKnob Tryz.prog.godebug=none:=by kernel_rfl
theorem acc_eq:(Rows.laid_unicode_utf8_acceptRanges:DataW Unit)=Lib.acceptData:=by kernel_rfl
theorem first_eq:Rows.laid_unicode_utf8_first=Lib.firstData:=by kernel_rfl
theorem tabs_below{u u':World}(h:Lib.Utf8Tabs 2 3 u)(hb:Below u.heap.size u u'):Lib.Utf8Tabs 2 3 u':=Utf8Tabs_below h hb
def putCells(cs:Array Value):Obj→Obj
 | .cells _ t frozen=> .cells cs t frozen
 |o=>o
def laidHeap(h:Array Obj):Array Obj:=
 (h.modify 2 (putCells (Lib.firstTab.map fun z=>Value.int .u8 z).toArray)).modify 3 (putCells ((List.range 16).flatMap fun i=>[Value.int .u8 (Lib.accLo i),Value.int .u8 (Lib.accHi i)]).toArray)
end Go.Proofs.YtijliddchoehhaaGreatDoor
namespace Go.Proofs.YtijliddchoehhaaGreatDoor
open Go.RowKit
abbrev CB(f:FuncId)(a:Array Value)(W:World)(v:Value):Prop:=Calls Tryz.prog f a W fun e w'=>e=.returned v∧Below W.heap.size W w'
abbrev CS(f:FuncId)(a:Array Value)(W:World)(v:Value):Prop:=Calls Tryz.prog f a W fun e w'=>e=.returned v∧W=w'
def bcells(l:List UInt8):List Value:=l.map fun b=>Value.int .u8 (b.toNat:Int)
theorem bcells_snoc(l:List UInt8)(c:UInt8):bcells (l++[c])=bcells l++[Value.int .u8 (c.toNat:Int)]:=by simp[bcells]
theorem bcells_append(l m:List UInt8):bcells (l++m)=bcells l++bcells m:=by simp[bcells]
theorem bcells_length(l:List UInt8):(bcells l).length=l.length:=by simp[bcells]
theorem bcells_oneCell(l:List UInt8): ∀u∈bcells l,u.oneCell'=true:=by
 intro u hu
 obtain ⟨_,_,rfl⟩:=List.mem_map.1 hu
 rfl
theorem run_string_own{P:Program}(w:World)(src dst e:TypeId)(hs:P.underlying src=some (.slice e))(he:P.underlying e=some (.int .u8))(hd:P.underlying dst=some .string)
  {base:Nat} {v:Value} {n:Nat} {l:List UInt8} (hown:w.ownsRow base e 1 v n (bcells l)):
  (convert src dst v).run P w=.ok (.string ⟨l.toArray⟩) w:=by
 have hn:l.length=n:=by have:=hown.1;simpa[bcells_length] using this
 rcases hown.2 with ⟨rfl,h0⟩|⟨g,cap,cur,rfl,hb,hg,hnc,hcm,hcs,htake⟩
 ·rw[h0]at hn
  have:l=[]:=List.eq_nil_of_length_eq_zero hn
  subst this
  rw[run_convert_bytes_string w src dst e _ _ _ hs he hd]
  simp[Conv.bytesToString]
  rfl
 subst hn
 refine run_convert_bytes_back w src dst e ⟨g,0,none⟩ cap l hs he hd fun j hj=> ?_
 exact hown.cells (g:=g) rfl j _ (by simp[bcells,hj])
def bytesAt(w:World)(B:Nat)(l:List UInt8):Prop:=
 ∀j (hj:j<l.length),w.cell? ⟨B,j,none⟩=some (.int .u8 (l[j].toNat:Int))∧w.frozen? ⟨B,j,none⟩=false
theorem bytesAt.drew{w:World}{B:Nat}{l:List UInt8}(h:bytesAt w B l):bytesAt w.drew B l:=h
theorem bytesAt_made(w:World)(s:ByteArray)(cap:Nat)(e:TypeId):
  bytesAt (w.alloc (.cells (bytesRow s cap) e ((bytesRow s cap).size,(bytesRow s cap).size+1))) w.heap.size s.data.toList:=by
 intro j hj
 have hj':j<s.data.size:=by simpa using hj
 constructor
 ·rw[World.cell?_alloc_mark]
  unfold bytesRow
  rw[Array.getElem?_append_left (by simpa using hj')]
  rw[Array.getElem?_map,Array.getElem?_eq_getElem hj']
  simp
 have hb:(w.alloc (.cells (bytesRow s cap) e ((bytesRow s cap).size,(bytesRow s cap).size+1))).heap[w.heap.size]? =some (.cells (bytesRow s cap) e ((bytesRow s cap).size,(bytesRow s cap).size+1)):=heap_alloc_new w _
 have hsz:j<(bytesRow s cap).size:=by
  have h0:s.size=s.data.size:=rfl
  unfold bytesRow
  simp only[Array.size_append,Array.size_map,Array.size_replicate]
  omega
 simp only[World.frozen?,hb]
 simp
 omega
theorem bytesAt.set{w:World}{B:Nat}{l:List UInt8}(h:bytesAt w B l)(k:Nat)(hk:k<l.length)(c:UInt8){x:Int}(hx:x=(c.toNat:Int)):
  bytesAt (w.setCell ⟨B,k,none⟩ (.int .u8 x)) B (l.set k c):=by
 subst hx
 intro j hj
 have hj':j<l.length:=by simpa using hj
 refine ⟨?_,by rw[World.frozen?_setCell];exact (h j hj').2⟩
 by_cases e:k=j
 ·subst e
  rw[World.cell?_setCell_same' _ _ _ (by rw[(h k hk).1];rfl)]
  simp
 rw[World.cell?_setCell_other _ _ _ _ (fun h=>e (by injection h))]
 rw[List.getElem_set_ne e]
 exact (h j hj').1
theorem run_string_at{P:Program}(w:World)(src dst e:TypeId)(hs:P.underlying src=some (.slice e))(he:P.underlying e=some (.int .u8))(hd:P.underlying dst=some .string)
  {B n cap:Nat} {l:List UInt8} (hn:l.length=n) (h:bytesAt w B l):
  (convert src dst (.slice (some ⟨B,0,none⟩) n cap)).run P w=.ok (.string ⟨l.toArray⟩) w:=by
 subst hn
 refine run_convert_bytes_back w src dst e ⟨B,0,none⟩ cap l hs he hd fun j hj=> ?_
 have e:(⟨B,0,none⟩:Addr).add j=⟨B,j,none⟩:=by rw[Addr.add_lit];simp
 rw[e]
 exact (h j hj).1
theorem wpList_append_newG{P:Program}(wr:World){ops:Array Oper}{rest:List Oper}{o:Oper}{a:Act}{Q:Exit→Act→World→Prop}
  (hg:o.guard=none) (s x:Operand) (t:TypeId) (hop:o.op=.call {callee:=.builtin .append,args:= #[s,x],argTypes:= #[t,t]})
  (B:Nat) (e:TypeId) (z:Value) (bytes:Nat) (ht:P.underlying t=some (.slice e)) (hinfo:(P.info? e).map (fun i=>(i.zero,i.size,i.bytes))=some (some z,1,bytes)) (hz:z.cells.size=1)
  (v:Value) (n:Nat) (xs:List Value) (hs:a.eval s=v) (hown:wr.ownsRow B e 1 v n xs)
  (cs:Array Value) (m:Nat) (hm:cs.size=m) (hx:a.eval x=.slice (some ⟨wr.heap.size,0,none⟩) m m) (h1: ∀u∈cs.toList,u.oneCell'=true)
  (hroom:(n+m)*bytes≤140737488355328) (hroom':n+m≤maxLen) (hB:B≤wr.heap.size)
  (hK: ∀v' w1,w1.ownsRow B e 1 v' (n+m) (xs++cs.toList)→Below B wr w1→(∀k,k<wr.heap.size→some k≠v.ownBlock→w1.heap[k]? =wr.heap[k]?)→wpList P ops Q rest (a.put o.dst v') w1):
  wpList P ops Q (o::rest) a (wr.alloc (.cells cs e)):=by
 obtain ⟨i0,hi,hz0,hz1,hz2⟩:=info_parts hinfo
 refine wpList_append_own (wr.alloc (.cells cs e)) hg s x t hop B e i0 z 1 bytes ht hi hz0 hz1 hz2 hz (by decide) v n xs hs (hown.alloc _) ⟨wr.heap.size,0,none⟩ m m cs.toList hx (by simp[hm]) ?_ h1 hroom' hroom (by simp;omega) ?_
 ·intro j u hj
  rw[Addr.add_lit,Nat.zero_add]
  rw[World.cell?_alloc_at _ _ _ _ rfl]
  simpa using hj
 intro v' w1 h1 h2 _
 exact hK v' w1 h1 (((Below.refl B wr).alloc hB _).grown h2 (by simp;omega) (fun k hk=>(hown.lt k hk).1))
  (fun k hk hne=>(h2.block k (by simp;omega) hne).trans (Below.heap_alloc wr _ k hk))
theorem wpList_append_new{P:Program}(wr:World){ops:Array Oper}{rest:List Oper}{o:Oper}{a:Act}{Q:Exit→Act→World→Prop}
  (hg:o.guard=none) (s x:Operand) (t:TypeId) (hop:o.op=.call {callee:=.builtin .append,args:= #[s,x],argTypes:= #[t,t]})
  (B:Nat) (e:TypeId) (z:Value) (bytes:Nat) (ht:P.underlying t=some (.slice e)) (hinfo:(P.info? e).map (fun i=>(i.zero,i.size,i.bytes))=some (some z,1,bytes)) (hz:z.cells.size=1)
  (v:Value) (n:Nat) (xs:List Value) (hs:a.eval s=v) (hown:wr.ownsRow B e 1 v n xs)
  (cs:Array Value) (m:Nat) (hm:cs.size=m) (hx:a.eval x=.slice (some ⟨wr.heap.size,0,none⟩) m m) (h1: ∀u∈cs.toList,u.oneCell'=true)
  (hroom:(n+m)*bytes≤140737488355328) (hroom':n+m≤maxLen) (hB:B≤wr.heap.size)
  (hK: ∀v' w1,w1.ownsRow B e 1 v' (n+m) (xs++cs.toList)→Below B wr w1→wpList P ops Q rest (a.put o.dst v') w1):
  wpList P ops Q (o::rest) a (wr.alloc (.cells cs e)):=
 wpList_append_newG wr hg s x t hop B e z bytes ht hinfo hz v n xs hs hown cs m hm hx h1 hroom hroom' hB (fun v' w1 a b _=>hK v' w1 a b)
theorem own_below{w w':World}{B:Nat}{e:TypeId}{size:Nat}{v:Value}{n:Nat}{xs:List Value}(h:w.ownsRow B e size v n xs)(hb:Below w.heap.size w w'):w'.ownsRow B e size v n xs:=
 h.kept (row:=none) ⟨hb.os,hb.tape,hb.output,hb.size,fun k hk _=>hb.block k hk⟩ (by cases hv:v.ownBlock<;>simp)
theorem grow_below{w w1 w2:World}{row:Option Nat}(h:w.grownBy w1 row)(hb:Below w1.heap.size w1 w2):w.grownBy w2 row:=
 ⟨hb.os.trans h.os,hb.tape.trans h.tape,hb.output.trans h.output,Nat.le_trans h.size hb.size,fun k hk hne=>(hb.block k (Nat.lt_of_lt_of_le hk h.size)).trans (h.block k hk hne)⟩
theorem grow_trans{w w1 w2:World}{row:Option Nat}(h:w.grownBy w1 row)(hb:w1.grownBy w2 row):w.grownBy w2 row:=
 ⟨hb.os.trans h.os,hb.tape.trans h.tape,hb.output.trans h.output,Nat.le_trans h.size hb.size,fun k hk hne=>(hb.block k (Nat.lt_of_lt_of_le hk h.size) hne).trans (h.block k hk hne)⟩
theorem own_shape{w:World}{B:Nat}{e:TypeId}{v:Value}{n:Nat}{xs:List Value}(h:w.ownsRow B e 1 v n xs):
  (n=0∧xs=[]∧ ∃ao cap,v=.slice ao 0 cap)∨(0<n∧ ∃g cap,v=.slice (some ⟨g,0,none⟩) n cap):=by
 have hl:=h.1
 rcases h.2 with ⟨rfl,rfl⟩|⟨g,cap,cur,rfl,_⟩
 ·exact .inl ⟨rfl,List.eq_nil_of_length_eq_zero (by simpa using hl),none,0,rfl⟩
 by_cases h0:n=0
 ·subst h0
  exact .inl ⟨rfl,List.eq_nil_of_length_eq_zero (by simpa using hl),_,cap,rfl⟩
 exact .inr ⟨by omega,g,cap,rfl⟩
def scells(l:List ByteArray):List Value:=l.map Value.string
theorem scells_snoc(l:List ByteArray)(s:ByteArray):scells (l++[s])=scells l++[Value.string s]:=by simp[scells]
theorem scells_length(l:List ByteArray):(scells l).length=l.length:=by simp[scells]
theorem own_some{w:World}{B:Nat}{e:TypeId}{g n cap:Nat}{xs:List Value}(h:w.ownsRow B e 1 (.slice (some ⟨g,0,none⟩) n cap) n xs)(k:Nat)(hk:k<n):
  ∃u,w.cell? ⟨g,k,none⟩=some u:=by
 have hl:xs.length=n:=by simpa using h.1
 rw[h.cellAt k (by omega)]
 exact ⟨xs[k],by simp[show k<xs.length by omega]⟩
theorem scell_at{w:World}{B:Nat}{e:TypeId}{g n cap:Nat}{fs:List ByteArray}(h:w.ownsRow B e 1 (.slice (some ⟨g,0,none⟩) n cap) n (scells fs))(k:Nat)(hk:k<n):
  w.cell? ⟨g,k,none⟩=some (.string (fs.getD k ByteArray.empty)):=by
 have hl:fs.length=n:=by have:=h.1;simpa[scells] using this
 rw[h.cellAt k (by omega)]
 simp[scells,List.getD,show k<fs.length by omega]
def icells(l:List Int):List Value:=l.map (Value.int .i64)
theorem icells_snoc(l:List Int)(x:Int):icells (l++[x])=icells l++[Value.int .i64 x]:=by simp[icells]
theorem icell_at{w:World}{B:Nat}{e:TypeId}{g n cap:Nat}{zs:List Int}(h:w.ownsRow B e 1 (.slice (some ⟨g,0,none⟩) n cap) n (icells zs))(k:Nat)(hk:k<n):
  w.cell? ⟨g,k,none⟩=some (.int .i64 (zs.getD k 0)):=by
 have hl:zs.length=n:=by have:=h.1;simpa[icells] using this
 rw[h.cellAt k (by omega)]
 simp[icells,List.getD,show k<zs.length by omega]
theorem ztake_snoc(l:List Int)(k:Nat)(h:k<l.length):l.take (k+1)=l.take k++[l.getD k 0]:=by
 rw[List.take_succ_eq_append_getElem h]
 simp[List.getD,h]
theorem ret_bool{a b:Bool}(h:a=b):Ending.returned (.bool a)=.returned (.bool b):=by rw[h]
theorem ret_int{k:IntKind}{a b:Int}(h:a=b):Ending.returned (.int k a)=.returned (.int k b):=by rw[h]
theorem ret_str{a b:List UInt8}(h:a=b):Ending.returned (.string ⟨a.toArray⟩)=.returned (.string ⟨b.toArray⟩):=by rw[h]
theorem take_snoc(s:ByteArray)(k:Nat)(h:k<s.size):s.data.toList.take (k+1)=s.data.toList.take k++[s[k]]:=by
 rw[List.take_succ_eq_append_getElem (by simpa using h)];rfl
theorem take_all(s:ByteArray)(k:Nat)(h:s.size≤k):s.data.toList.take k=s.data.toList:=List.take_of_length_le (by simpa using h)
theorem specL1In_yes(x a b:Int)(w:World)(h1:a≤x)(h2:x≤b):
  Calls Tryz.prog 59 #[.int .i64 x,.int .i64 a,.int .i64 b] w fun e w'=>e=.returned (.bool true)∧w=w':=by
 go_enter Tryz.func59,Tryz.ntmps59
 go_wp2
 go_ret
 exact ⟨rfl,rfl⟩
theorem specL1In_no(x a b:Int)(w:World)(h:x<a∨b<x):
  Calls Tryz.prog 59 #[.int .i64 x,.int .i64 a,.int .i64 b] w fun e w'=>e=.returned (.bool false)∧w=w':=by
 rcases Int.lt_or_le x a with h1|h1
 ·clear h
  go_enter Tryz.func59,Tryz.ntmps59
  go_wp2
  go_ret
  exact ⟨rfl,rfl⟩
 have h2:b<x:=by omega
 clear h
 go_enter Tryz.func59,Tryz.ntmps59
 go_wp2
 go_ret
 exact ⟨ret_bool (by simp;omega),rfl⟩
def lowerC(c:UInt8):UInt8:=if 65≤c.toNat∧c.toNat≤90 then c+32 else c
def lowerL(l:List UInt8):List UInt8:=l.map lowerC
theorem Tryz.info5:(Tryz.prog.info? 5).map (fun i=>(i.zero,i.size,i.bytes))=some (some (.int .u8 0),1,1):=by kernel_rfl
theorem lowerC_toNat(c:UInt8):((lowerC c).toNat:Int)=if 65≤(c.toNat:Int)∧(c.toNat:Int)≤90 then (c.toNat:Int)+32 else c.toNat:=by
 unfold lowerC
 split
 ·rw[if_pos (by omega)]
  have:(c+32).toNat=(c.toNat+32)%256:=by rw[UInt8.toNat_add];rfl
  omega
 rw[if_neg (by omega)]
theorem lower_step(s:ByteArray)(k:Nat)(h:k<s.size){w1:World}{B:Nat}{v:Value}{x:Int}
  (hown:w1.ownsRow B 5 1 v (k+1) (bcells (lowerL (s.data.toList.take k))++[.int .u8 x]))
  (hx:x=if 65≤(s[k].toNat:Int)∧(s[k].toNat:Int)≤90 then (s[k].toNat:Int)+32 else s[k].toNat):
  w1.ownsRow B 5 1 v (k+1) (bcells (lowerL (s.data.toList.take (k+1)))):=by
 have e:bcells (lowerL (s.data.toList.take (k+1)))=bcells (lowerL (s.data.toList.take k))++[.int .u8 x]:=by
  rw[take_snoc s k h,hx,←lowerC_toNat]
  simp[lowerL,bcells]
 rw[e];exact hown
theorem specLower(s:ByteArray)(w:World)(hs:s.size≤1048576):
  Calls Tryz.prog 67 #[.string s] w fun e w'=>e=.returned (.string ⟨(lowerL s.data.toList).toArray⟩)∧Below w.heap.size w w':=by
 obtain ⟨i0,hi,hz0,hz1,hz2⟩:=info_parts Tryz.info5
 go_enter Tryz.func67,Tryz.ntmps67
 go_wp2
 go_loopw[3,4] (fun v i wr=> ∃k:Nat,k≤s.size∧i=.int .i64 k∧wr.ownsRow w.heap.size 5 1 v k (bcells (lowerL (s.data.toList.take k)))∧Below w.heap.size w wr)
  (fun _ i _=>s.size-(intOf i).toNat)
 case atStart=>exact ⟨0,Nat.zero_le _,rfl,World.ownsRow_lit w #[] 0 (Nat.le_refl _) (by decide) rfl,(Below.refl _ _).alloc (Nat.le_refl _) _⟩
 obtain ⟨k,hk,rfl,hown,hbel⟩:=hrel
 by_cases hlt:k<s.size
 ·have hsz:=hbel.size
  by_cases hc:65≤(s[k].toNat:Int)∧(s[k].toNat:Int)≤90
  ·obtain ⟨hc1,hc2⟩:=hc
   go_wp2_with (first
    |(at_builtin;refine wpList_append_own _ rfl _ _ 22 rfl w.heap.size 5 i0 (.int .u8 0) 1 1 Tryz.underlying22 hi hz0 hz1 hz2 rfl (by decide) _ _ _ rfl (hown.alloc _) ⟨wr.heap.size,0,none⟩ 1 1 [.int .u8 ((s[k].toNat:Int)+32)] rfl rfl ?c1A ?c2A ?c3A ?c4A ?c5A ?_)
    |(go_at_call 59;refine (specL1In_yes (s[k].toNat:Int) 65 90 _ hc1 hc2).mono ?_;rintro e w' ⟨rfl,rfl⟩))
   case c1A=>exact cell_one_new _ _ _
   case c2A=>intro u hu;simp at hu;subst hu;rfl
   case c3A=>unfold maxLen;omega
   case c4A=>omega
   case c5A=>simp;omega
   intro v' w1 hown' hgrow _
   have R:=lower_step s k hlt hown' (by rw[if_pos ⟨hc1,hc2⟩])
   have B1:Below w.heap.size w w1:=(hbel.alloc hsz _).grown hgrow (by simp;omega) (fun k hk=>(hown.lt k hk).1)
   clear hown' hgrow hown hbel
   go_wp2
   go_roundw
   case rel=>exact ⟨k+1,by omega,by go_num,R,B1⟩
   case measure=>simp[intOf];omega
  have hc':(s[k].toNat:Int)<65∨90<(s[k].toNat:Int):=by omega
  have HC:Hid ((s[k].toNat:Int)<65∨90<(s[k].toNat:Int)):=hc'
  clear hc hc'
  have hb:(s[k].toNat:Int)≤255:=by have:=s[k].toNat_lt;omega
  go_wp2_with (first
   |(at_builtin;refine wpList_append_own _ rfl _ _ 22 rfl w.heap.size 5 i0 (.int .u8 0) 1 1 Tryz.underlying22 hi hz0 hz1 hz2 rfl (by decide) _ _ _ rfl (hown.alloc _) ⟨wr.heap.size,0,none⟩ 1 1 [.int .u8 ((s[k].toNat:Int))] rfl rfl ?c1B ?c2B ?c3B ?c4B ?c5B ?_)
   |(go_at_call 59;refine (specL1In_no (s[k].toNat:Int) 65 90 _ HC.out).mono ?_;rintro e w' ⟨rfl,rfl⟩))
  case c1B=>exact cell_one_new _ _ _
  case c2B=>intro u hu;simp at hu;subst hu;rfl
  case c3B=>unfold maxLen;omega
  case c4B=>omega
  case c5B=>simp;omega
  intro v' w1 hown' hgrow _
  have R:=lower_step s k hlt hown' (by rw[if_neg (by rcases HC.out with h|h<;>omega)])
  have B1:Below w.heap.size w w1:=(hbel.alloc hsz _).grown hgrow (by simp;omega) (fun k hk=>(hown.lt k hk).1)
  clear hown' hgrow hown hbel
  go_wp2
  go_roundw
  case rel=>exact ⟨k+1,by omega,by go_num,R,B1⟩
  case measure=>simp[intOf];omega
 have HO:(convert 22 9 u3).run Tryz.prog wr=.ok (.string ⟨(lowerL (s.data.toList.take k)).toArray⟩) wr:=run_string_own wr 22 9 5 Tryz.underlying22 Tryz.underlying5 Tryz.underlying9 hown
 go_wp2
 go_ret
 exact ⟨ret_str (by rw[take_all s k (by omega)]),hbel⟩
def lowerTo(l:List UInt8)(k:Nat):List UInt8:=lowerL (l.take k)++l.drop k
theorem lowerTo_zero(l:List UInt8):lowerTo l 0=l:=by simp[lowerTo,lowerL]
theorem lowerTo_length(l:List UInt8)(k:Nat):(lowerTo l k).length=l.length:=by simp[lowerTo,lowerL];omega
theorem lowerTo_at(s:ByteArray)(k:Nat)(h:k<s.size)(h':k<(lowerTo s.data.toList k).length):(lowerTo s.data.toList k)[k]=s[k]:=by
 have hk:k<s.data.toList.length:=by simpa using h
 have e:(lowerTo s.data.toList k)[k]? =some s[k]:=by
  unfold lowerTo
  rw[List.getElem?_append_right (by simp[lowerL];omega)]
  simp only[lowerL,List.length_map,List.length_take,Nat.min_eq_left (Nat.le_of_lt hk),Nat.sub_self,List.getElem?_drop,Nat.add_zero]
  rw[List.getElem?_eq_getElem hk]
  rfl
 rw[List.getElem?_eq_getElem h']at e
 exact Option.some.inj e
theorem lowerTo_succ(s:ByteArray)(k:Nat)(h:k<s.size):(lowerTo s.data.toList k).set k (lowerC s[k])=lowerTo s.data.toList (k+1):=by
 have hk:k<s.data.toList.length:=by simpa using h
 unfold lowerTo
 rw[List.set_append_right _ _ (by simp[lowerL];omega)]
 rw[take_snoc s k h,List.drop_eq_getElem_cons hk]
 simp[lowerL,Nat.min_eq_left (Nat.le_of_lt h)]
theorem lowerTo_keep(s:ByteArray)(k:Nat)(h:k<s.size)(hc:lowerC s[k]=s[k]):lowerTo s.data.toList k=lowerTo s.data.toList (k+1):=by
 rw[←lowerTo_succ s k h,hc]
 have h':k<(lowerTo s.data.toList k).length:=by rw[lowerTo_length];simpa using h
 rw[←lowerTo_at s k h h',List.set_getElem_self]
theorem implLower(s:ByteArray)(w:World)(hs:s.size≤1048576):
  Calls Tryz.prog 104 #[.string s] w fun e w'=>e=.returned (.string ⟨(lowerL s.data.toList).toArray⟩)∧Below w.heap.size w w':=by
 obtain ⟨cap,hcap⟩: ∃cap,grownCap w s.size 0 5=cap:=⟨_,rfl⟩
 have hconv:=run_bytes_of_string w 9 22 5 s Tryz.underlying9 Tryz.underlying22 Tryz.underlying5
 rw[hcap]at hconv
 have hmade:=bytesAt_made w s cap 5
 generalize hC:bytesRow s cap=C at hconv hmade
 clear hC hcap
 go_enter Tryz.func104,Tryz.ntmps104
 go_wp2
 go_loopw[10] (fun i wr=> ∃k:Nat,k≤s.size∧i=.int .i64 k∧bytesAt wr w.heap.size (lowerTo s.data.toList k)∧Below w.heap.size w wr)
  (fun i _=>s.size-(intOf i).toNat)
 case atStart=>exact ⟨0,Nat.zero_le _,rfl,by rw[lowerTo_zero];exact hmade,((Below.refl _ _).alloc (Nat.le_refl _) _).drew⟩
 obtain ⟨k,hk,rfl,hat,hbel⟩:=hrel
 clear hmade hconv
 by_cases hlt:k<s.size
 ·have hl:k<(lowerTo s.data.toList k).length:=by rw[lowerTo_length];simpa using hlt
  obtain ⟨hc,hf⟩:=hat k hl
  rw[lowerTo_at s k hlt hl]at hc
  by_cases hcc:65≤(s[k].toNat:Int)∧(s[k].toNat:Int)≤90
  ·obtain ⟨hc1,hc2⟩:=hcc
   go_wp2
   go_roundw
   case rel=>
    refine ⟨k+1,by omega,by go_num,?_,hbel.setCell (Nat.le_refl _) _⟩
    rw[←lowerTo_succ s k hlt]
    exact hat.set k hl (lowerC s[k]) (by rw[lowerC_toNat,if_pos ⟨hc1,hc2⟩];omega)
   case measure=>simp[intOf];omega
  have hcc':lowerC s[k]=s[k]:=by unfold lowerC;rw[if_neg (by omega)]
  have HC:Hid (lowerC s[k]=s[k]):=hcc'
  clear hcc'
  by_cases h65:65≤(s[k].toNat:Int)
  all_goals
   go_wp2
   go_roundw
   case rel=>exact ⟨k+1,by omega,by go_num,by rw[←lowerTo_keep s k hlt HC.out];exact hat,hbel⟩
   case measure=>simp[intOf];omega
 have e:lowerTo s.data.toList k=lowerL s.data.toList:=by
  unfold lowerTo
  rw[take_all s k (by omega),List.drop_eq_nil_of_le (by simp;omega),List.append_nil]
 rw[e]at hat
 have HO:=run_string_at (P:=Tryz.prog) wr 22 9 5 Tryz.underlying22 Tryz.underlying5 Tryz.underlying9 (n:=s.size) (cap:=cap) (by simp[lowerL]) hat
 clear e
 go_wp2
 go_ret
 exact ⟨rfl,hbel⟩
end Go.Proofs.YtijliddchoehhaaGreatDoor
