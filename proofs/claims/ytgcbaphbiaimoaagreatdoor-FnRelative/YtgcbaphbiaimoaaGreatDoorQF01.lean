/- Shelf, LaidBase, Base, LowerWalk. -/
import Derived.Shelf.Strings.SlTrimAscii
import Derived.Shelf.Unicode.ValidAny
import Derived.Shelf.Spec.SlicesInsertGrow
import Derived.Ground.Names2Prog
import Derived.Shelf.Spec.SlicesInsert
import Derived.Shelf.Strings.Builder1
import Derived.Shelf.Strings.Builder2
import Derived.Shelf.Strings.OnBuilder
import Derived.Shelf.Strings.Trim
import Derived.Shelf.Small.Utf8
import Derived.Shelf.Small.Strs
import Derived.Shelf.Small.Wraps
import Derived.Shelf.Strings.BuilderF
import Derived.Shelf.Strings.BuilderK
import Derived.Shelf.Utf8.RuneCount
import Derived.Shelf.Strconv.Itoa0
import Derived.Shelf.Strconv.Itoa1
import Derived.Shelf.LaysM
import Derived.Shelf.Strconv.Itoa2
import Derived.Shelf.Strconv.Itoa3
import Derived.Shelf.Strconv.Clone
import Derived.Shelf.Strings.Search1
import Derived.Shelf.Strings.Search2
import Derived.Shelf.Strings.Search3
import Derived.Shelf.Strings.Cut
import Derived.Shelf.Strings.Count
import Derived.Shelf.Strings.Shaped
import Derived.Shelf.Strings.LastIndex
import Derived.Shelf.Strconv.AppendUint10
import Derived.Shelf.Strconv.AppendInt10
import Derived.Shelf.Strconv.AppendIntPublic10
import Derived.Shelf.Strings.Prefix
import Derived.Shelf.Strings.Split
import Derived.Shelf.Strings.Replace
import Derived.Shelf.Strings.Runes
import Derived.Shelf.Strings.IndexAny
import Derived.Shelf.Strings.AsciiSet
import Derived.Shelf.Strings.IndexAnyAll
import Derived.Shelf.Unicode.DecodeSlow
import Derived.Shelf.Unicode.DecodeAny
import Derived.Ground.SlgnProg
import Derived.Shelf.SlicesE.Reverse
import Derived.Ground.SlgfProg
import Derived.Shelf.SlicesE.IndexFunc
import Derived.Test.YtgcbaphbiaimoaaGreatDoorProg
import Derived.Test.YtgcbaphbiaimoaaGreatDoorRows
import Derived.Lib.LaidIn
import Derived.Lib.LaidU8T
import Derived.Deep.DeepHandedRow
import Derived.Deep.DeepWitnessRowRef
import Derived.ProofKit
import Derived.WalkKit
import Derived.WalkLawsBesides
import Derived.WalkSpells
import Derived.Laws.IdiomStrings
set_option maxHeartbeats 1000000
namespace Go.Proofs
set_option linter.unusedVariables false
open Go.RowKit
theorem om{p:Prop}(h:p:=by omega):p:=h
theorem de{p:Prop}(h:p:=by decide):p:=h
theorem kr{p:Prop}(h:p:=by kernel_rfl):p:=h
theorem gn{p:Prop}(h:p:=by go_num):p:=h
theorem j1{p:Prop}(h:p:=by simp[intOf];omega):p:=h
theorem j2{p:Prop}(h:p:=by simp):p:=h
theorem j3{P:Program}{f:FuncId}{a:Array Value}{v:Value}{W:World}{Q:Ending→World→Prop}(h:Hid (∀ W,Calls P f a W fun e w'=>e=.returned v∧W=w'))(k:Q (.returned v) W):Calls P f a W Q:=(h.out W).mono (by rintro e w' ⟨rfl,rfl⟩;exact k)
theorem j4{P:Program}{f:FuncId}{a:Array Value}{v:Value}{W:World}{Q:Ending→World→Prop}(h:Hid (∀ W,Calls P f a W fun e w'=>e=.returned v∧Below W.heap.size W w'))(k:∀ w',Below W.heap.size W w'→Q (.returned v) w'):Calls P f a W Q:=(h.out W).mono (by rintro e w' ⟨rfl,b⟩;exact k w' b)
theorem j5{P:Program}{f:FuncId}{a:Array Value}{v:Value}{W:World}{Q:Ending→World→Prop}(h:Calls P f a W fun e w'=>e=.returned v∧W=w')(k:Q (.returned v) W):Calls P f a W Q:=h.mono (by rintro e w' ⟨rfl,rfl⟩;exact k)
theorem j6{P:Program}{f:FuncId}{a:Array Value}{v:Value}{W:World}{Q:Ending→World→Prop}(h:Calls P f a W fun e w'=>e=.returned v∧Below W.heap.size W w')(k:∀ w',Below W.heap.size W w'→Q (.returned v) w'):Calls P f a W Q:=h.mono (by rintro e w' ⟨rfl,b⟩;exact k w' b)
end Go.Proofs
namespace Go.Proofs
open Go.Value renaming int->I,string->L,bool->Z
open Go.IntKind renaming i64->J
open Go.Ending renaming returned->Y
open _root_.Go.RowKit.Below renaming refl->zg
open _root_.List renaming eq_nil_of_length_eq_zero->za,getD->zh,getElem?_eq_getElem->zd,take_succ_eq_append_getElem->zc
open _root_.Nat renaming le_refl->ze,lt_of_lt_of_le->zf
open _root_.Go.Proofs.Tryz
open _root_.Go.Proofs.YtgcbaphbiaimoaaGreatDoor.Tryz
open Go.Shelf
def Tryz.lays196_ren:Go.Shelf.Ren:=⟨fun|196=>296|259=>304|n=>n,fun|9=>9|4=>4|3=>3|5=>5|12=>12|119=>240|0=>0|46=>151|139=>243|138=>242|53=>186|n=>n,fun|3=>12|4=>13|n=>n⟩
theorem Tryz.lays196:Go.Proofs.Lays.n196 prog lays196_ren:=by constructor<;>first|kernel_rfl|(intro _;kernel_rfl)
def Tryz.laysNm221_ren:Go.Shelf.Ren:=⟨fun|21=>309|27=>311|28=>312|35=>313|39=>314|n=>n,fun|22=>95|3=>3|4=>4|0=>0|n=>n,fun|n=>n⟩
theorem Tryz.laysNm221:Go.Proofs.Lays2.n21 prog laysNm221_ren:={
 mixed:=kr
 f21:=func309.trans (congrArg some kr)
 f27:=func311.trans (congrArg some kr)
 f28:=func312.trans (congrArg some kr)
 f35:=func313.trans (congrArg some kr)
 f39:=func314.trans (congrArg some kr)
 t0:=underlying0
 a0:=isAgg0
 z0:=sizeOf0
 v0:=zeroValue0
 t3:=underlying3
 a3:=isAgg3
 z3:=sizeOf3
 v3:=zeroValue3
 t4:=underlying4
 a4:=isAgg4
 z4:=sizeOf4
 v4:=zeroValue4
 t22:=underlying95
 a22:=isAgg95
 z22:=sizeOf95
 v22:=zeroValue95
 i3:=by kernel_rfl}
def Tryz.lays156_ren:Go.Shelf.Ren:=⟨fun|156=>185|165=>222|166=>223|169=>224|240=>252|241=>253|276=>272|277=>273|n=>n,fun|31=>86|9=>9|3=>3|4=>4|0=>0|20=>20|72=>211|76=>154|70=>209|37=>22|75=>65|127=>208|164=>119|5=>5|80=>146|n=>n,fun|n=>n⟩
theorem Tryz.lays156:Go.Proofs.Lays.n156 prog lays156_ren:=by constructor<;>first|kernel_rfl|(intro _;kernel_rfl)
theorem Tryz.Builder_Extra_156:Builder.Extra prog lays156_ren:={
 sizeBuilder:=kr
 liesBuilder:=kr
 t5:=underlying5
 a5:=isAgg5
 z5:=sizeOf5
 v5:=zeroValue5
 infoByte:=kr
 cellsByte:=kr
 sizeByte:=kr
 neB5:=by decide}
open Go.RowKit in
theorem Tryz.strings_Join(bk o c:Nat)(xs:List ByteArray)(sep:ByteArray)(w:World)(hcells: ∀(j:Nat) x,xs[j]? =some x->w.cell? ⟨bk,o+j,none⟩=some (L x))(hbk:bk<w.heap.size)(hN:xs.length<=140737488355328)(hcap:xs.length<=c)(hlen:(Lib.join (xs.map (·.data.toList)) sep.data.toList).length<=140737488355328):Calls prog 185 #[.slice (some ⟨bk,o,none⟩) xs.length c,L sep] w fun e w'=>e=Y (L ⟨(Lib.join (xs.map (·.data.toList)) sep.data.toList).toArray⟩)/\Below w.heap.size w w':=Any.strings_Join lays156 Tryz.Builder_Extra_156 bk o c xs sep w hcells hbk hN hcap hlen
def Tryz.lays161_ren:Go.Shelf.Ren:=⟨fun|161=>146|231=>200|227=>201|233=>202|235=>203|228=>208|197=>237|151=>238|260=>261|152=>206|137=>204|119=>243|224=>244|225=>245|217=>239|266=>262|n=>n,fun|9=>9|4=>4|3=>3|5=>5|117=>194|116=>193|0=>0|124=>197|105=>223|21=>21|119=>240|46=>151|139=>243|138=>242|n=>n,fun|3=>12|4=>13|n=>n⟩
theorem Tryz.lays161:Go.Proofs.Lays.n161 prog lays161_ren:=by constructor<;>first|kernel_rfl|(intro _;kernel_rfl)
def Tryz.lays160_ren:Go.Shelf.Ren:=⟨fun|160=>205|232=>240|231=>200|227=>201|234=>241|233=>202|236=>242|235=>203|228=>208|271=>263|151=>238|197=>237|120=>275|152=>206|260=>261|137=>204|119=>243|224=>244|225=>245|217=>239|266=>262|n=>n,fun|9=>9|4=>4|3=>3|5=>5|117=>194|116=>193|0=>0|124=>197|21=>21|105=>223|46=>151|119=>240|139=>243|138=>242|n=>n,fun|3=>12|4=>13|n=>n⟩
theorem Tryz.lays160:Go.Proofs.Lays.n160 prog lays160_ren:=by constructor<;>first|kernel_rfl|(intro _;kernel_rfl)
def Tryz.lays119_ren:Go.Shelf.Ren:=⟨fun|119=>243|n=>n,fun|21=>21|4=>4|n=>n,fun|n=>n⟩
theorem Tryz.lays119:Go.Proofs.Lays.n119 prog lays119_ren:=by constructor<;>first|kernel_rfl|(intro _;kernel_rfl)
theorem Tryz.utf8_ValidRune(r:Int)(w:World):Calls prog 243 #[.int .i32 r] w fun e w'=>e=Y (Z (Lib.validRune r))/\w'=w:=Any.utf8_ValidRune lays119 r w
def Tryz.lays137_ren:Go.Shelf.Ren:=⟨fun|137=>204|217=>239|266=>262|n=>n,fun|9=>9|5=>5|3=>3|n=>n,fun|n=>n⟩
theorem Tryz.lays137:Go.Proofs.Lays.n137 prog lays137_ren:=by constructor<;>first|kernel_rfl|(intro _;kernel_rfl)
open Go.RowKit in
theorem Tryz.strings_IndexByte(s:ByteArray)(c:Int)(w:World):Calls prog 204 #[L s,.int .u8 c] w fun e w'=>e=Y (I J (Lib.indexByte s.data.toList c.toNat.toUInt8))/\w'=w:=Any.strings_IndexByte lays137 s c w
def Tryz.lays103_ren:Go.Shelf.Ren:=⟨fun|103=>294|210=>302|206=>132|n=>n,fun|9=>9|4=>4|24=>104|3=>3|n=>n,fun|n=>n⟩
theorem Tryz.lays103:Go.Proofs.Lays.n103 prog lays103_ren:=by constructor<;>first|kernel_rfl|(intro _;kernel_rfl)
open Go.RowKit in
theorem Tryz.strings_CutPrefix(s p:ByteArray)(w:World):Calls prog 294 #[L s,L p] w fun e w'=>e=Y (.tuple #[L ⟨(Lib.trimPrefix s.data.toList p.data.toList).toArray⟩,Z (Lib.hasPrefix s.data.toList p.data.toList)])/\w'=w:=Any.strings_CutPrefix lays103 s p w
def Tryz.lays104_ren:Go.Shelf.Ren:=⟨fun|104=>264|211=>276|207=>285|n=>n,fun|9=>9|4=>4|24=>104|3=>3|n=>n,fun|n=>n⟩
theorem Tryz.lays104:Go.Proofs.Lays.n104 prog lays104_ren:=by constructor<;>first|kernel_rfl|(intro _;kernel_rfl)
open Go.RowKit in
theorem Tryz.strings_CutSuffix(s p:ByteArray)(w:World)(hs:s.size<=9223372036854775807):Calls prog 264 #[L s,L p] w fun e w'=>e=Y (.tuple #[L ⟨(Lib.trimSuffix s.data.toList p.data.toList).toArray⟩,Z (Lib.hasSuffix s.data.toList p.data.toList)])/\w'=w:=Any.strings_CutSuffix lays104 s p w hs
def Tryz.lays195_ren:Go.Shelf.Ren:=⟨fun|195=>270|n=>n,fun|9=>9|3=>3|0=>0|4=>4|n=>n,fun|n=>n⟩
theorem Tryz.lays195:Go.Proofs.Lays.n195 prog lays195_ren:=by constructor<;>first|kernel_rfl|(intro _;kernel_rfl)
open Go.RowKit in
theorem Tryz.utf8_RuneCountInString(s:ByteArray)(w:World)(hs:s.size<9223372036854775807):Calls prog 270 #[L s] w fun e w'=>e=Y (I J (Lib.runeCount s))/\ ∃pos,w'=w.iter s pos:=Any.utf8_RuneCountInString lays195 s w hs
def Tryz.laysM171_ren:Go.Shelf.Ren:=⟨fun|171=>44|243=>96|246=>144|283=>196|284=>197|285=>198|286=>199|129=>233|317=>232|318=>234|319=>235|320=>236|337=>259|338=>260|n=>n,fun|3=>3|9=>9|2=>2|4=>4|171=>185|0=>0|53=>186|37=>22|5=>5|173=>189|212=>219|51=>220|20=>20|213=>221|46=>151|232=>238|233=>239|n=>n,fun|17=>7|18=>10|19=>11|n=>n⟩
theorem Tryz.laysM171:Go.Proofs.LaysM.n171 prog laysM171_ren:={
 mixed:=kr
 f129:=func233.trans (congrArg some kr)
 f171:=func44.trans (congrArg some kr)
 f243:=func96.trans (congrArg some kr)
 f246:=func144.trans (congrArg some kr)
 f283:=func196.trans (congrArg some kr)
 f284:=func197.trans (congrArg some kr)
 f285:=func198.trans (congrArg some kr)
 f286:=func199.trans (congrArg some kr)
 f317:=func232.trans (congrArg some kr)
 f318:=func234.trans (congrArg some kr)
 f319:=func235.trans (congrArg some kr)
 f320:=func236.trans (congrArg some kr)
 f337:=func259.trans (congrArg some kr)
 f338:=func260.trans (congrArg some kr)
 t0:=underlying0
 a0:=isAgg0
 z0:=sizeOf0
 v0:=zeroValue0
 t2:=underlying2
 a2:=isAgg2
 z2:=sizeOf2
 v2:=zeroValue2
 t3:=underlying3
 a3:=isAgg3
 z3:=sizeOf3
 v3:=zeroValue3
 t4:=underlying4
 a4:=isAgg4
 z4:=sizeOf4
 v4:=zeroValue4
 t5:=underlying5
 a5:=isAgg5
 z5:=sizeOf5
 v5:=zeroValue5
 t9:=underlying9
 a9:=isAgg9
 z9:=sizeOf9
 v9:=zeroValue9
 t20:=underlying20
 a20:=isAgg20
 z20:=sizeOf20
 v20:=zeroValue20
 t37:=underlying22
 a37:=isAgg22
 z37:=sizeOf22
 v37:=zeroValue22
 t46:=underlying151
 a46:=isAgg151
 z46:=sizeOf151
 v46:=zeroValue151
 t51:=underlying220
 a51:=isAgg220
 z51:=sizeOf220
 v51:=zeroValue220
 t53:=underlying186
 a53:=isAgg186
 z53:=sizeOf186
 v53:=zeroValue186
 t171:=underlying185
 a171:=isAgg185
 z171:=sizeOf185
 v171:=zeroValue185
 t173:=underlying189
 a173:=isAgg189
 z173:=sizeOf189
 v173:=zeroValue189
 t212:=underlying219
 a212:=isAgg219
 z212:=sizeOf219
 v212:=zeroValue219
 t213:=underlying221
 a213:=isAgg221
 z213:=sizeOf221
 t232:=underlying238
 a232:=isAgg238
 z232:=sizeOf238
 v232:=zeroValue238
 t233:=underlying239
 a233:=isAgg239
 z233:=sizeOf239
 v233:=zeroValue239
 g17:=kr
 g18:=kr
 g19:=kr
 i0:=kr
 i2:=kr
 i3:=kr
 i4:=kr
 i5:=kr
 i9:=kr
 i20:=kr
 i37:=kr
 i46:=kr
 i51:=kr
 i53:=kr
 i171:=kr
 i173:=kr
 i212:=kr
 i232:=kr
 i233:=kr
 m17:=kr
 m18:=kr
 m19:=by kernel_rfl}
open Go.RowKit Go.Sort Go.Lib in
theorem Tryz.strconv_Itoa(n:Int)(h0: -9223372036854775808<=n)(h1:n<=9223372036854775807)(w:World)(htab:Lib.TabIs prog w "internal/strconv.uint64pow10" .u64 Lib.pow10Tab):Calls prog 44 #[I J n] w fun e w'=>e=Y (L ⟨(Lib.itoa n).toArray⟩)/\ ∃k os,w'=grow (w.drewN k) os:=Any.strconv_Itoa laysM171 n h0 h1 w htab
def Tryz.laysM316_ren:Go.Shelf.Ren:=⟨fun|316=>182|n=>n,fun|9=>9|3=>3|4=>4|37=>22|0=>0|127=>208|5=>5|n=>n,fun|n=>n⟩
theorem Tryz.laysM316:Go.Proofs.LaysM.n316 prog laysM316_ren:={
 mixed:=kr
 f316:=func182.trans (congrArg some kr)
 t0:=underlying0
 a0:=isAgg0
 z0:=sizeOf0
 v0:=zeroValue0
 t3:=underlying3
 a3:=isAgg3
 z3:=sizeOf3
 v3:=zeroValue3
 t4:=underlying4
 a4:=isAgg4
 z4:=sizeOf4
 v4:=zeroValue4
 t9:=underlying9
 a9:=isAgg9
 z9:=sizeOf9
 v9:=zeroValue9
 t37:=underlying22
 a37:=isAgg22
 z37:=sizeOf22
 v37:=zeroValue22
 t127:=underlying208
 a127:=isAgg208
 z127:=sizeOf208
 v127:=zeroValue208
 t5:=underlying5
 a5:=isAgg5
 z5:=sizeOf5
 v5:=zeroValue5
 i0:=kr
 i3:=kr
 i4:=kr
 i5:=kr
 i9:=kr
 i37:=kr
 i127:=by kernel_rfl}
open Go.RowKit in
theorem Tryz.stringslite_Clone(s:ByteArray)(w:World)(hlim:s.size<=281474976710656):Calls prog 182 #[L s] w fun e w'=>e=Y (L s)/\Below w.heap.size w w':=Any.stringslite_Clone laysM316 s w hlim
def Tryz.lays219_ren:Go.Shelf.Ren:=⟨fun|219=>213|217=>239|225=>245|224=>244|267=>250|266=>262|314=>269|n=>n,fun|9=>9|3=>3|4=>4|5=>5|46=>151|146=>234|51=>220|n=>n,fun|1=>8|n=>n⟩
theorem Tryz.lays219:Go.Proofs.Lays.n219 prog lays219_ren:=by constructor<;>first|kernel_rfl|(intro _;kernel_rfl)
open Go.RowKit Go.Lib in
theorem Tryz.stringslite_Index_one(s:ByteArray)(c:UInt8)(w:World):Calls prog 213 #[L s,L ⟨#[c]⟩] w fun e w'=>e=Y (I J (Lib.indexByte s.data.toList c))/\w'=w:=Any.stringslite_Index_one lays219 s c w
def Tryz.lays144_ren:Go.Shelf.Ren:=⟨fun|144=>150|143=>209|219=>213|217=>239|225=>245|224=>244|267=>250|266=>262|314=>269|n=>n,fun|9=>9|4=>4|3=>3|5=>5|46=>151|146=>234|51=>220|n=>n,fun|1=>8|n=>n⟩
theorem Tryz.lays144:Go.Proofs.Lays.n144 prog lays144_ren:=by constructor<;>first|kernel_rfl|(intro _;kernel_rfl)
open Go.RowKit Go.Lib in
theorem Tryz.strings_Contains_one(s:ByteArray)(c:UInt8)(w:World):Calls prog 150 #[L s,L ⟨#[c]⟩] w fun e w'=>e=Y (Z (decide (0<=Lib.indexByte s.data.toList c)))/\w'=w:=Any.strings_Contains_one lays144 s c w
def Tryz.lays145_ren:Go.Shelf.Ren:=⟨fun|145=>102|220=>154|219=>213|217=>239|225=>245|224=>244|267=>250|266=>262|314=>269|n=>n,fun|9=>9|4=>4|59=>117|3=>3|5=>5|46=>151|146=>234|51=>220|n=>n,fun|1=>8|n=>n⟩
theorem Tryz.lays145:Go.Proofs.Lays.n145 prog lays145_ren:=by constructor<;>first|kernel_rfl|(intro _;kernel_rfl)
open Go.RowKit Go.Lib in
theorem Tryz.strings_Cut(s sep:ByteArray)(m:Int)(w:World)(hs:s.size<4294967281)(hm:w.cell? ⟨8,0,none⟩=some (I J m)):Calls prog 102 #[L s,L sep] w fun e w'=>e=Y (.tuple #[L ⟨(Lib.cut s.data.toList sep.data.toList).1.toArray⟩,L ⟨(Lib.cut s.data.toList sep.data.toList).2.1.toArray⟩,Z (Lib.cut s.data.toList sep.data.toList).2.2])/\ ∃n,w'=w.drewN n:=Any.strings_Cut lays145 s sep m w hs hm
def Tryz.laysM145_ren:Go.Shelf.Ren:=⟨fun|145=>102|220=>154|219=>213|217=>239|225=>245|224=>244|267=>250|266=>262|314=>269|n=>n,fun|9=>9|4=>4|59=>117|3=>3|5=>5|46=>151|146=>234|51=>220|n=>n,fun|1=>8|n=>n⟩
theorem Tryz.laysM145:Go.Proofs.LaysM.n145 prog laysM145_ren:={
 mixed:=kr
 f145:=func102.trans (congrArg some kr)
 f217:=func239.trans (congrArg some kr)
 f219:=func213.trans (congrArg some kr)
 f220:=func154.trans (congrArg some kr)
 f224:=func244.trans (congrArg some kr)
 f225:=func245.trans (congrArg some kr)
 f266:=func262.trans (congrArg some kr)
 f267:=func250.trans (congrArg some kr)
 f314:=func269.trans (congrArg some kr)
 t3:=underlying3
 a3:=isAgg3
 z3:=sizeOf3
 v3:=zeroValue3
 t4:=underlying4
 a4:=isAgg4
 z4:=sizeOf4
 v4:=zeroValue4
 t5:=underlying5
 a5:=isAgg5
 z5:=sizeOf5
 v5:=zeroValue5
 t9:=underlying9
 a9:=isAgg9
 z9:=sizeOf9
 v9:=zeroValue9
 t46:=underlying151
 a46:=isAgg151
 z46:=sizeOf151
 v46:=zeroValue151
 t51:=underlying220
 a51:=isAgg220
 z51:=sizeOf220
 v51:=zeroValue220
 t59:=underlying117
 a59:=isAgg117
 z59:=sizeOf117
 v59:=zeroValue117
 t146:=underlying234
 a146:=isAgg234
 z146:=sizeOf234
 v146:=zeroValue234
 g1:=kr
 i3:=kr
 i4:=kr
 i5:=kr
 i9:=kr
 i46:=kr
 i51:=kr
 i59:=kr
 i146:=kr
 m1:=kr
 s1_3:=fun w h=>Go.Proofs.cell_of_shapedOpen_int (zero:= #[I J 0]) (t:=3) h (of_decide_eq_true kr) kr rfl kr kr underlying3}
def Tryz.lays149_ren:Go.Shelf.Ren:=⟨fun|149=>210|222=>246|n=>n,fun|9=>9|5=>5|3=>3|4=>4|n=>n,fun|n=>n⟩
theorem Tryz.lays149:Go.Proofs.Lays.n149 prog lays149_ren:=by constructor<;>first|kernel_rfl|(intro _;kernel_rfl)
open Go.RowKit Go.Lib in
theorem Tryz.strings_LastIndexByte(s:ByteArray)(c:Int)(hs:s.size<4611686018427387904)(w:World):Calls prog 210 #[L s,.int .u8 c] w fun e w'=>e=Y (I J (Lib.lastIndexByte s c))/\w'=w:=Any.strings_LastIndexByte lays149 s c hs w
def Tryz.laysM176_ren:Go.Shelf.Ren:=⟨fun|176=>192|249=>231|288=>258|283=>196|284=>197|285=>198|286=>199|129=>233|317=>232|318=>234|319=>235|320=>236|337=>259|338=>260|n=>n,fun|37=>22|2=>2|3=>3|53=>186|4=>4|9=>9|171=>185|0=>0|173=>189|212=>219|51=>220|5=>5|20=>20|213=>221|46=>151|232=>238|233=>239|n=>n,fun|17=>7|18=>10|19=>11|n=>n⟩
theorem Tryz.laysM176:Go.Proofs.LaysM.n176 prog laysM176_ren:={
 mixed:=kr
 f129:=func233.trans (congrArg some kr)
 f176:=func192.trans (congrArg some kr)
 f249:=func231.trans (congrArg some kr)
 f283:=func196.trans (congrArg some kr)
 f284:=func197.trans (congrArg some kr)
 f285:=func198.trans (congrArg some kr)
 f286:=func199.trans (congrArg some kr)
 f288:=func258.trans (congrArg some kr)
 f317:=func232.trans (congrArg some kr)
 f318:=func234.trans (congrArg some kr)
 f319:=func235.trans (congrArg some kr)
 f320:=func236.trans (congrArg some kr)
 f337:=func259.trans (congrArg some kr)
 f338:=func260.trans (congrArg some kr)
 t0:=underlying0
 a0:=isAgg0
 z0:=sizeOf0
 v0:=zeroValue0
 t2:=underlying2
 a2:=isAgg2
 z2:=sizeOf2
 v2:=zeroValue2
 t3:=underlying3
 a3:=isAgg3
 z3:=sizeOf3
 v3:=zeroValue3
 t4:=underlying4
 a4:=isAgg4
 z4:=sizeOf4
 v4:=zeroValue4
 t5:=underlying5
 a5:=isAgg5
 z5:=sizeOf5
 v5:=zeroValue5
 t9:=underlying9
 a9:=isAgg9
 z9:=sizeOf9
 v9:=zeroValue9
 t20:=underlying20
 a20:=isAgg20
 z20:=sizeOf20
 v20:=zeroValue20
 t37:=underlying22
 a37:=isAgg22
 z37:=sizeOf22
 v37:=zeroValue22
 t46:=underlying151
 a46:=isAgg151
 z46:=sizeOf151
 v46:=zeroValue151
 t51:=underlying220
 a51:=isAgg220
 z51:=sizeOf220
 v51:=zeroValue220
 t53:=underlying186
 a53:=isAgg186
 z53:=sizeOf186
 v53:=zeroValue186
 t171:=underlying185
 a171:=isAgg185
 z171:=sizeOf185
 v171:=zeroValue185
 t173:=underlying189
 a173:=isAgg189
 z173:=sizeOf189
 v173:=zeroValue189
 t212:=underlying219
 a212:=isAgg219
 z212:=sizeOf219
 v212:=zeroValue219
 t213:=underlying221
 a213:=isAgg221
 z213:=sizeOf221
 t232:=underlying238
 a232:=isAgg238
 z232:=sizeOf238
 v232:=zeroValue238
 t233:=underlying239
 a233:=isAgg239
 z233:=sizeOf239
 v233:=zeroValue239
 g17:=kr
 g18:=kr
 g19:=kr
 i0:=kr
 i2:=kr
 i3:=kr
 i4:=kr
 i5:=kr
 i9:=kr
 i20:=kr
 i37:=kr
 i46:=kr
 i51:=kr
 i53:=kr
 i171:=kr
 i173:=kr
 i212:=kr
 i232:=kr
 i233:=kr
 m17:=kr
 m18:=kr
 m19:=by kernel_rfl}
open Go.RowKit Go.Sort Go.Lib in
theorem Tryz.strconv_AppendInt_10(B n:Nat)(i:Int)(h0: -9223372036854775808<=i)(h1:i<=9223372036854775807)(sv:Value)(xs:List Value)(w:World)(hown:w.ownsRow B 5 1 sv n xs)(hBw:B<=w.heap.size)(hlim:n+21<=140737488355328)(htab:Lib.TabBelow prog B w "internal/strconv.uint64pow10" .u64 Lib.pow10Tab):Calls prog 192 #[sv,I J i,I J 10] w fun e w'=> ∃v',e=Y v'/\w'.ownsRow B 5 1 v' (n+(Lib.itoa i).length) (xs++Lib.byteCells (Lib.itoa i))/\Below B w w'/\Lib.OthersKept 5 none w w':=Any.strconv_AppendInt_10 laysM176 B n i h0 h1 sv xs w hown hBw hlim htab
def Tryz.lays99_ren:Go.Shelf.Ren:=⟨fun|99=>83|206=>132|n=>n,fun|9=>9|4=>4|3=>3|n=>n,fun|n=>n⟩
theorem Tryz.lays99:Go.Proofs.Lays.n99 prog lays99_ren:=by constructor<;>first|kernel_rfl|(intro _;kernel_rfl)
open Go.RowKit Go.Lib in
theorem Tryz.strings_HasPrefix(s p:ByteArray)(w:World):Calls prog 83 #[L s,L p] w fun e w'=>e=Y (Z (Lib.hasPrefix s.data.toList p.data.toList))/\w'=w:=Any.strings_HasPrefix lays99 s p w
def Tryz.lays101_ren:Go.Shelf.Ren:=⟨fun|101=>45|208=>97|206=>132|n=>n,fun|9=>9|4=>4|3=>3|n=>n,fun|n=>n⟩
theorem Tryz.lays101:Go.Proofs.Lays.n101 prog lays101_ren:=by constructor<;>first|kernel_rfl|(intro _;kernel_rfl)
open Go.RowKit Go.Lib in
theorem Tryz.strings_TrimPrefix(s p:ByteArray)(w:World):Calls prog 45 #[L s,L p] w fun e w'=>e=Y (L ⟨(Lib.trimPrefix s.data.toList p.data.toList).toArray⟩)/\w'=w:=Any.strings_TrimPrefix lays101 s p w
def Tryz.lays155_ren:Go.Shelf.Ren:=⟨fun|155=>155|154=>214|138=>251|165=>222|143=>209|166=>223|197=>237|169=>224|195=>270|218=>271|240=>252|241=>253|219=>213|260=>261|276=>272|277=>273|217=>239|225=>245|224=>244|267=>250|266=>262|314=>269|n=>n,fun|9=>9|3=>3|4=>4|72=>211|0=>0|76=>154|105=>223|21=>21|5=>5|70=>209|20=>20|37=>22|75=>65|127=>208|164=>119|46=>151|119=>240|139=>243|138=>242|146=>234|51=>220|80=>146|n=>n,fun|1=>8|3=>12|4=>13|n=>n⟩
theorem Tryz.lays155:Go.Proofs.Lays.n155 prog lays155_ren:=by constructor<;>first|kernel_rfl|(intro _;kernel_rfl)
theorem Tryz.Builder_Extra_155:Builder.Extra prog lays155_ren:={
 sizeBuilder:=kr
 liesBuilder:=kr
 t5:=underlying5
 a5:=isAgg5
 z5:=sizeOf5
 v5:=zeroValue5
 infoByte:=kr
 cellsByte:=kr
 sizeByte:=kr
 neB5:=by decide}
open Go.RowKit Go.Lib in
theorem Tryz.strings_ReplaceAll(s old new:ByteArray)(m:Int)(w:World)(hs:s.size<4294967281)(hm:w.cell? ⟨8,0,none⟩=some (I J m))(h1:1<=old.size)(hlen:s.size+Lib.countB s old*new.size<=140737488355328):Calls prog 155 #[L s,L old,L new] w fun e w'=>
   e=Y (L ⟨(Lib.replaceAll s.data.toList old.data.toList new.data.toList).toArray⟩)/\Below w.heap.size w w':=Any.strings_ReplaceAll lays155 Tryz.Builder_Extra_155 s old new m w hs hm h1 hlen
def Tryz.lays152_ren:Go.Shelf.Ren:=⟨fun|152=>206|137=>204|119=>243|224=>244|225=>245|217=>239|266=>262|n=>n,fun|9=>9|21=>21|3=>3|4=>4|5=>5|0=>0|46=>151|n=>n,fun|n=>n⟩
theorem Tryz.lays152:Go.Proofs.Lays.n152 prog lays152_ren:=by constructor<;>first|kernel_rfl|(intro _;kernel_rfl)
open Go.RowKit Go.Lib in
theorem Tryz.strings_IndexRune_ascii(s:ByteArray)(r:Int)(w:World)(h0:0<=r)(h1:r<128):Calls prog 206 #[L s,.int .i32 r] w fun e w'=>e=Y (I J (Lib.indexByte s.data.toList r.toNat.toUInt8))/\w'=w:=Any.strings_IndexRune_ascii lays152 s r w h0 h1
def Tryz.lays226_ren:Go.Shelf.Ren:=⟨fun|226=>207|n=>n,fun|3=>3|4=>4|n=>n,fun|n=>n⟩
theorem Tryz.lays226:Go.Proofs.Lays.n226 prog lays226_ren:=by constructor<;>first|kernel_rfl|(intro _;kernel_rfl)
open Go.RowKit Go.Lib in
theorem Tryz.strings_shouldUseASCIISet(n:Int)(w:World):Calls prog 207 #[I J n] w fun e w'=>e=Y (Z (decide (8<n)))/\w'=w:=Any.strings_shouldUseASCIISet lays226 n w
def Tryz.lays153_ren:Go.Shelf.Ren:=⟨fun|153=>149|152=>206|226=>207|227=>201|228=>208|137=>204|119=>243|224=>244|225=>245|217=>239|266=>262|n=>n,fun|9=>9|3=>3|4=>4|5=>5|21=>21|117=>194|116=>193|0=>0|46=>151|124=>197|n=>n,fun|n=>n⟩
theorem Tryz.lays153:Go.Proofs.Lays.n153 prog lays153_ren:=by constructor<;>first|kernel_rfl|(intro _;kernel_rfl)
open Go.RowKit Go.Lib in
theorem Tryz.strings_IndexAny_long(hv116: ∀w,(zeroValue 193).run prog w=.ok (.agg (Array.replicate 256 (Z false))) w)(s chars:ByteArray)(w:World)(h2:2<=chars.size)(h8:8<s.size)(hs:s.size<4294967281)(hcs:chars.size<4294967281)(hascii: ∀(j:Nat) b,chars.data.toList[j]? =some b->b.toNat<128):Calls prog 149 #[L s,L chars] w fun e w'=>e=Y (I J (Lib.indexAny s.data.toList chars.data.toList))/\w'=((w.alloc (.cells (Lib.setCells chars.data.toList) 193)).alloc (.cells (Lib.setCells chars.data.toList) 193)):=Any.strings_IndexAny_long lays153 hv116 kr s chars w h2 h8 hs hcs hascii
def Tryz.laysSlH8_f297_ren:Go.Shelf.Ren:=⟨fun|8=>297|6=>305|n=>n,fun|22=>95|23=>3|25=>56|4=>4|3=>3|0=>0|n=>n,fun|n=>n⟩
theorem Tryz.laysSlH8_f297:Go.Proofs.SlLaysH.n8 prog laysSlH8_f297_ren:={
 mixed:=kr
 f6:=⟨f305.name,de,func305.trans (congrArg some kr)⟩
 f8:=⟨f297.name,de,func297.trans (congrArg some kr)⟩
 t0:=underlying0
 a0:=isAgg0
 z0:=sizeOf0
 v0:=zeroValue0
 t3:=underlying3
 a3:=isAgg3
 z3:=sizeOf3
 v3:=zeroValue3
 t4:=underlying4
 a4:=isAgg4
 z4:=sizeOf4
 v4:=zeroValue4
 t22:=underlying95
 a22:=isAgg95
 z22:=sizeOf95
 v22:=zeroValue95
 a23:=isAgg3
 z23:=sizeOf3
 t25:=underlying56
 a25:=isAgg56
 z25:=sizeOf56
 v25:=zeroValue56}
open Go.RowKit Go.Lib in
theorem Tryz.slices_ContainsFunc{α:Type} [Inhabited α](enc:α->Value)(p:α->Bool)(g:Nat)(lb:Array Value)(eg: ∀args w,(callFunc g args).run prog w=.ok (.enter g args) w)(b off n c:Nat)(zs:List α)(w:World)(hp:PredAt prog g lb enc p w)(hz:n<=zs.length)(hbig:n<=9223372036854775807)(hc: ∀j,j<zs.length->w.cell? ⟨b,off+j,none⟩=some (enc zs[j]!)):Calls prog 297 #[.slice (some ⟨b,off,none⟩) n c,.func (.func g) #[] lb] w fun e w'=>e=Y (Z ((zs.take n).any p))/\ ∃q,w'=w.drewN q:=AnyE.slices_ContainsFunc laysSlH8_f297 enc p g lb eg b off n c zs w hp hz hbig hc
open Go.RowKit Go.Lib in
theorem Tryz.slices_ContainsFunc_empty{α:Type} [Inhabited α](a:Option Addr)(c:Nat)(fv:Value)(w:World):Calls prog 297 #[.slice a 0 c,fv] w fun e w'=>e=Y (Z false)/\w'=w:=AnyE.slices_ContainsFunc_empty laysSlH8_f297 a c fv w
end Go.Proofs
namespace Go.Proofs.YtgcbaphbiaimoaaGreatDoor
open Go.Value renaming int->I,string->L,bool->Z
open Go.IntKind renaming i64->J
open Go.Ending renaming returned->Y
open _root_.Go.RowKit.Below renaming refl->zg
open _root_.List renaming eq_nil_of_length_eq_zero->za,getD->zh,getElem?_eq_getElem->zd,take_succ_eq_append_getElem->zc
open _root_.Nat renaming le_refl->ze,lt_of_lt_of_le->zf
open _root_.Go.Proofs.Tryz
open _root_.Go.Proofs.YtgcbaphbiaimoaaGreatDoor.Tryz
open Go.ChangeShapes Go.WideShapes Go.ChangeAt Go.RowKit Go.Lib
theorem Gf:(Rows.laid_unicode_utf8_acceptRanges:DataW Unit)=Lib.acceptData:=kr
theorem J2:Rows.laid_unicode_utf8_first=Lib.firstData:=kr
theorem bW{u u':World}(h:Lib.Utf8Tabs 12 13 u)(hb:Below u.heap.size u u'):Lib.Utf8Tabs 12 13 u':=Utf8Tabs_below h hb
def NQ(cs:Array Value):Obj->Obj
 | .cells _ t frozen=> .cells cs t frozen
 |o=>o
def J3(h:Array Obj):Array Obj:=
 (h.modify 12 (NQ (Lib.firstTab.map fun z=>Value.int .u8 z).toArray)).modify 13 (NQ ((List.range 16).flatMap fun i=>[Value.int .u8 (Lib.accLo i),Value.int .u8 (Lib.accHi i)]).toArray)
end Go.Proofs.YtgcbaphbiaimoaaGreatDoor
namespace Go.Proofs.YtgcbaphbiaimoaaGreatDoor
open Go.Value renaming int->I,string->L,bool->Z
open Go.IntKind renaming i64->J
open Go.Ending renaming returned->Y
open _root_.Go.RowKit.Below renaming refl->zg
open _root_.List renaming eq_nil_of_length_eq_zero->za,getD->zh,getElem?_eq_getElem->zd,take_succ_eq_append_getElem->zc
open _root_.Nat renaming le_refl->ze,lt_of_lt_of_le->zf
open _root_.Go.Proofs.Tryz
open _root_.Go.Proofs.YtgcbaphbiaimoaaGreatDoor.Tryz
open Go.RowKit
abbrev CB(f:FuncId)(a:Array Value)(W:World)(v:Value):Prop:=Calls prog f a W fun e w'=>e=Y v/\Below W.heap.size W w'
abbrev CS(f:FuncId)(a:Array Value)(W:World)(v:Value):Prop:=Calls prog f a W fun e w'=>e=Y v/\W=w'
def aD(l:List UInt8):List Value:=l.map fun b=>Value.int .u8 (b.toNat:Int)
theorem kR(l:List UInt8)(c:UInt8):aD (l++[c])=aD l++[Value.int .u8 (c.toNat:Int)]:=by simp[aD]
theorem fC(l m:List UInt8):aD (l++m)=aD l++aD m:=by simp[aD]
theorem gY(l:List UInt8):(aD l).length=l.length:=by simp[aD]
theorem iY(l:List UInt8): ∀u∈aD l,u.oneCell'=true:=by
 intro u hu;obtain ⟨_,_,rfl⟩:=List.mem_map.1 hu;rfl
theorem bG{P:Program}(w:World)(src dst e:TypeId)(hs:P.underlying src=some (.slice e))(he:P.underlying e=some (.int .u8))(hd:P.underlying dst=some .string)
  {base:Nat} {v:Value} {n:Nat} {l:List UInt8} (hown:w.ownsRow base e 1 v n (aD l)):
  (convert src dst v).run P w=.ok (L ⟨l.toArray⟩) w:=by
 have hn:l.length=n:=by have:=hown.1;simpa[gY] using this
 rcases hown.2 with ⟨rfl,h0⟩|⟨g,cap,cur,rfl,hb,hg,hnc,hcm,hcs,htake⟩
 .rw[h0]at hn
  have:l=[]:=za hn
  subst this;rw[run_convert_bytes_string w src dst e _ _ _ hs he hd];simp[Conv.bytesToString];rfl
 subst hn;refine run_convert_bytes_back w src dst e ⟨g,0,none⟩ cap l hs he hd fun j hj=> ?_
 exact hown.cells (g:=g) rfl j _ (by simp[aD,hj])
def kH(w:World)(B:Nat)(l:List UInt8):Prop:=
 ∀j (hj:j<l.length),w.cell? ⟨B,j,none⟩=some (.int .u8 (l[j].toNat:Int))/\w.frozen? ⟨B,j,none⟩=false
theorem kH.drew{w:World}{B:Nat}{l:List UInt8}(h:kH w B l):kH w.drew B l:=h
theorem vB(w:World)(s:ByteArray)(cap:Nat)(e:TypeId):
  kH (w.alloc (.cells (bytesRow s cap) e ((bytesRow s cap).size,(bytesRow s cap).size+1))) w.heap.size s.data.toList:=by
 intro j hj;have hj':j<s.data.size:=by simpa using hj
 constructor
 .rw[World.cell?_alloc_mark]
  unfold bytesRow;rw[Array.getElem?_append_left (by simpa using hj')];rw[Array.getElem?_map,Array.getElem?_eq_getElem hj'];simp
 have hb:(w.alloc (.cells (bytesRow s cap) e ((bytesRow s cap).size,(bytesRow s cap).size+1))).heap[w.heap.size]? =some (.cells (bytesRow s cap) e ((bytesRow s cap).size,(bytesRow s cap).size+1)):=heap_alloc_new w _;have hsz:j<(bytesRow s cap).size:=by
  have h0:s.size=s.data.size:=rfl;unfold bytesRow;simp only[Array.size_append,Array.size_map,Array.size_replicate];omega
 simp only[World.frozen?,hb];simp;omega
theorem kH.set{w:World}{B:Nat}{l:List UInt8}(h:kH w B l)(k:Nat)(hk:k<l.length)(c:UInt8){x:Int}(hx:x=(c.toNat:Int)):
  kH (w.setCell ⟨B,k,none⟩ (.int .u8 x)) B (l.set k c):=by
 subst hx;intro j hj;have hj':j<l.length:=by simpa using hj
 refine ⟨?_,by rw[World.frozen?_setCell];exact (h j hj').2⟩
 by_cases e:k=j
 .subst e
  rw[World.cell?_setCell_same' _ _ _ (by rw[(h k hk).1];rfl)];simp
 rw[World.cell?_setCell_other _ _ _ _ (fun h=>e (by injection h))];rw[List.getElem_set_ne e];exact (h j hj').1
theorem tF{P:Program}(w:World)(src dst e:TypeId)(hs:P.underlying src=some (.slice e))(he:P.underlying e=some (.int .u8))(hd:P.underlying dst=some .string)
  {B n cap:Nat} {l:List UInt8} (hn:l.length=n) (h:kH w B l):
  (convert src dst (.slice (some ⟨B,0,none⟩) n cap)).run P w=.ok (L ⟨l.toArray⟩) w:=by
 subst hn;refine run_convert_bytes_back w src dst e ⟨B,0,none⟩ cap l hs he hd fun j hj=> ?_
 have e:(⟨B,0,none⟩:Addr).add j=⟨B,j,none⟩:=by rw[Addr.add_lit];simp
 rw[e];exact (h j hj).1
theorem mS{P:Program}(wr:World){ops:Array Oper}{rest:List Oper}{o:Oper}{a:Act}{Q:Exit->Act->World->Prop}
  (hg:o.guard=none) (s x:Operand) (t:TypeId) (hop:o.op=.call {callee:=.builtin .append,args:= #[s,x],argTypes:= #[t,t]})
  (B:Nat) (e:TypeId) (z:Value) (bytes:Nat) (ht:P.underlying t=some (.slice e)) (hinfo:(P.info? e).map (fun i=>(i.zero,i.size,i.bytes))=some (some z,1,bytes)) (hz:z.cells.size=1)
  (v:Value) (n:Nat) (xs:List Value) (hs:a.eval s=v) (hown:wr.ownsRow B e 1 v n xs)
  (cs:Array Value) (m:Nat) (hm:cs.size=m) (hx:a.eval x=.slice (some ⟨wr.heap.size,0,none⟩) m m) (h1: ∀u∈cs.toList,u.oneCell'=true)
  (hroom:(n+m)*bytes<=140737488355328) (hroom':n+m<=maxLen) (hB:B<=wr.heap.size)
  (hK: ∀v' w1,w1.ownsRow B e 1 v' (n+m) (xs++cs.toList)->Below B wr w1->(∀k,k<wr.heap.size->some k≠v.ownBlock->w1.heap[k]? =wr.heap[k]?)->wpList P ops Q rest (a.put o.dst v') w1):
  wpList P ops Q (o::rest) a (wr.alloc (.cells cs e)):=by
 obtain ⟨i0,hi,hz0,hz1,hz2⟩:=info_parts hinfo;refine wpList_append_own (wr.alloc (.cells cs e)) hg s x t hop B e i0 z 1 bytes ht hi hz0 hz1 hz2 hz de v n xs hs (hown.alloc _) ⟨wr.heap.size,0,none⟩ m m cs.toList hx (by simp[hm]) ?_ h1 hroom' hroom (by simp;omega) ?_
 .intro j u hj
  rw[Addr.add_lit,Nat.zero_add];rw[World.cell?_alloc_at _ _ _ _ rfl];simpa using hj
 intro v' w1 h1 h2 _;exact hK v' w1 h1 (((zg B wr).alloc hB _).grown h2 (by simp;omega) (fun k hk=>(hown.lt k hk).1))
  (fun k hk hne=>(h2.block k (by simp;omega) hne).trans (Below.heap_alloc wr _ k hk))
theorem aB{P:Program}(wr:World){ops:Array Oper}{rest:List Oper}{o:Oper}{a:Act}{Q:Exit->Act->World->Prop}
  (hg:o.guard=none) (s x:Operand) (t:TypeId) (hop:o.op=.call {callee:=.builtin .append,args:= #[s,x],argTypes:= #[t,t]})
  (B:Nat) (e:TypeId) (z:Value) (bytes:Nat) (ht:P.underlying t=some (.slice e)) (hinfo:(P.info? e).map (fun i=>(i.zero,i.size,i.bytes))=some (some z,1,bytes)) (hz:z.cells.size=1)
  (v:Value) (n:Nat) (xs:List Value) (hs:a.eval s=v) (hown:wr.ownsRow B e 1 v n xs)
  (cs:Array Value) (m:Nat) (hm:cs.size=m) (hx:a.eval x=.slice (some ⟨wr.heap.size,0,none⟩) m m) (h1: ∀u∈cs.toList,u.oneCell'=true)
  (hroom:(n+m)*bytes<=140737488355328) (hroom':n+m<=maxLen) (hB:B<=wr.heap.size)
  (hK: ∀v' w1,w1.ownsRow B e 1 v' (n+m) (xs++cs.toList)->Below B wr w1->wpList P ops Q rest (a.put o.dst v') w1):
  wpList P ops Q (o::rest) a (wr.alloc (.cells cs e)):=
 mS wr hg s x t hop B e z bytes ht hinfo hz v n xs hs hown cs m hm hx h1 hroom hroom' hB (fun v' w1 a b _=>hK v' w1 a b)
theorem aH{w w':World}{B:Nat}{e:TypeId}{size:Nat}{v:Value}{n:Nat}{xs:List Value}(h:w.ownsRow B e size v n xs)(hb:Below w.heap.size w w'):w'.ownsRow B e size v n xs:=
 h.kept (row:=none) ⟨hb.os,hb.tape,hb.output,hb.size,fun k hk _=>hb.block k hk⟩ (by cases hv:v.ownBlock<;>simp)
theorem BL{w w1 w2:World}{row:Option Nat}(h:w.grownBy w1 row)(hb:Below w1.heap.size w1 w2):w.grownBy w2 row:=
 ⟨hb.os.trans h.os,hb.tape.trans h.tape,hb.output.trans h.output,Nat.le_trans h.size hb.size,fun k hk hne=>(hb.block k (zf hk h.size)).trans (h.block k hk hne)⟩
theorem bB{w w1 w2:World}{row:Option Nat}(h:w.grownBy w1 row)(hb:w1.grownBy w2 row):w.grownBy w2 row:=
 ⟨hb.os.trans h.os,hb.tape.trans h.tape,hb.output.trans h.output,Nat.le_trans h.size hb.size,fun k hk hne=>(hb.block k (zf hk h.size) hne).trans (h.block k hk hne)⟩
theorem aQ{w:World}{B:Nat}{e:TypeId}{v:Value}{n:Nat}{xs:List Value}(h:w.ownsRow B e 1 v n xs):
  (n=0/\xs=[]/\ ∃ao cap,v=.slice ao 0 cap)∨(0<n/\ ∃g cap,v=.slice (some ⟨g,0,none⟩) n cap):=by
 have hl:=h.1
 rcases h.2 with ⟨rfl,rfl⟩|⟨g,cap,cur,rfl,_⟩
 .exact .inl ⟨rfl,za (by simpa using hl),none,0,rfl⟩
 by_cases h0:n=0
 .subst h0
  exact .inl ⟨rfl,za (by simpa using hl),_,cap,rfl⟩
 exact .inr ⟨om,g,cap,rfl⟩
def aM(l:List ByteArray):List Value:=l.map Value.string
theorem kS(l:List ByteArray)(s:ByteArray):aM (l++[s])=aM l++[Value.string s]:=by simp[aM]
theorem kT{w:World}{B:Nat}{e:TypeId}{g n cap:Nat}{xs:List Value}(h:w.ownsRow B e 1 (.slice (some ⟨g,0,none⟩) n cap) n xs)(k:Nat)(hk:k<n):
  ∃u,w.cell? ⟨g,k,none⟩=some u:=by
 have hl:xs.length=n:=by simpa using h.1
 rw[h.cellAt k om];exact ⟨xs[k],by simp[show k<xs.length by omega]⟩
theorem bY{w:World}{B:Nat}{e:TypeId}{g n cap:Nat}{fs:List ByteArray}(h:w.ownsRow B e 1 (.slice (some ⟨g,0,none⟩) n cap) n (aM fs))(k:Nat)(hk:k<n):
  w.cell? ⟨g,k,none⟩=some (L (fs.getD k ByteArray.empty)):=by
 have hl:fs.length=n:=by have:=h.1;simpa[aM] using this
 rw[h.cellAt k om];simp[aM,zh,show k<fs.length by omega]
def aL(l:List Int):List Value:=l.map (Value.int .i64)
theorem eD(l:List Int):(aL l).length=l.length:=by simp[aL]
theorem kU(l:List Int)(x:Int):aL (l++[x])=aL l++[Value.int .i64 x]:=by simp[aL]
theorem oX{w:World}{B:Nat}{e:TypeId}{g n cap:Nat}{zs:List Int}(h:w.ownsRow B e 1 (.slice (some ⟨g,0,none⟩) n cap) n (aL zs))(k:Nat)(hk:k<n):
  w.cell? ⟨g,k,none⟩=some (I J (zs.getD k 0)):=by
 have hl:zs.length=n:=by have:=h.1;simpa[aL] using this
 rw[h.cellAt k om];simp[aL,zh,show k<zs.length by omega]
theorem pY(l:List Int)(k:Nat)(h:k<l.length):l.take (k+1)=l.take k++[l.getD k 0]:=by
 rw[zc h];simp[zh,h]
theorem TN(d:UInt8)(l:List UInt8):((⟨#[d]⟩:ByteArray)++(⟨l.toArray⟩:ByteArray))=⟨(d::l).toArray⟩:=by
 apply ByteArray.ext;rw[ByteArray.data_append];simp
theorem aG{a b:Bool}(h:a=b):Ending.returned (Z a)=Y (Z b):=by rw[h]
theorem aR{k:IntKind}{a b:Int}(h:a=b):Ending.returned (.int k a)=Y (.int k b):=by rw[h]
theorem sH{a b:List UInt8}(h:a=b):Ending.returned (L ⟨a.toArray⟩)=Y (L ⟨b.toArray⟩):=by rw[h]
theorem eI(s:ByteArray)(k:Nat)(h:k<s.size):s.data.toList.take (k+1)=s.data.toList.take k++[s[k]]:=by
 rw[zc (by simpa using h)];rfl
theorem cS(s:ByteArray)(k:Nat)(h:s.size<=k):s.data.toList.take k=s.data.toList:=List.take_of_length_le (by simpa using h)
theorem aJ(x a b:Int)(w:World)(h1:a<=x)(h2:x<=b):Calls prog 39 #[I J x,I J a,I J b] w fun e w'=>e=Y (Z true)/\w=w':=by
 go_enter func39,ntmps39;go_wp2;go_ret;exact ⟨rfl,rfl⟩
theorem aN(x a b:Int)(w:World)(h:x<a∨b<x):Calls prog 39 #[I J x,I J a,I J b] w fun e w'=>e=Y (Z false)/\w=w':=by
 rcases Int.lt_or_le x a with h1|h1
 .clear h
  go_enter func39,ntmps39;go_wp2;go_ret;exact ⟨rfl,rfl⟩
 have h2:b<x:=om;clear h;go_enter func39,ntmps39;go_wp2;go_ret;exact ⟨aG (by simp;omega),rfl⟩
def dG(c:UInt8):UInt8:=if 65<=c.toNat/\c.toNat<=90 then c+32 else c
def aF(l:List UInt8):List UInt8:=l.map dG
theorem Tryz.info5:(prog.info? 5).map (fun i=>(i.zero,i.size,i.bytes))=some (some (.int .u8 0),1,1):=kr
theorem pZ(c:UInt8):((dG c).toNat:Int)=if 65<=(c.toNat:Int)/\(c.toNat:Int)<=90 then (c.toNat:Int)+32 else c.toNat:=by
 unfold dG;split
 .rw[if_pos om]
  have:(c+32).toNat=(c.toNat+32)%256:=by rw[UInt8.toNat_add];rfl
  omega
 rw[if_neg om]
theorem BM(s:ByteArray)(k:Nat)(h:k<s.size){w1:World}{B:Nat}{v:Value}{x:Int}
  (hown:w1.ownsRow B 5 1 v (k+1) (aD (aF (s.data.toList.take k))++[.int .u8 x]))
  (hx:x=if 65<=(s[k].toNat:Int)/\(s[k].toNat:Int)<=90 then (s[k].toNat:Int)+32 else s[k].toNat):
  w1.ownsRow B 5 1 v (k+1) (aD (aF (s.data.toList.take (k+1)))):=by
 have e:aD (aF (s.data.toList.take (k+1)))=aD (aF (s.data.toList.take k))++[.int .u8 x]:=by
  rw[eI s k h,hx,<-pZ];simp[aF,aD]
 rw[e];exact hown
theorem ZI(s:ByteArray)(w:World)(hs:s.size<=1048576):Calls prog 52 #[L s] w fun e w'=>e=Y (L ⟨(aF s.data.toList).toArray⟩)/\Below w.heap.size w w':=by
 obtain ⟨i0,hi,hz0,hz1,hz2⟩:=info_parts info5;go_enter func52,ntmps52;go_wp2
 go_loopw[3,4] (fun v i wr=> ∃k:Nat,k<=s.size/\i=I J k/\wr.ownsRow w.heap.size 5 1 v k (aD (aF (s.data.toList.take k)))/\Below w.heap.size w wr)
  (fun _ i _=>s.size-(intOf i).toNat)
 case atStart=>exact ⟨0,Nat.zero_le _,rfl,World.ownsRow_lit w #[] 0 (ze _) de rfl,(zg _ _).alloc (ze _) _⟩
 obtain ⟨k,hk,rfl,hown,hbel⟩:=hrel
 by_cases hlt:k<s.size
 .have hsz:=hbel.size
  by_cases hc:65<=(s[k].toNat:Int)/\(s[k].toNat:Int)<=90
  .obtain ⟨hc1,hc2⟩:=hc
   go_wp2_with (first
    |(at_builtin;refine wpList_append_own _ rfl _ _ 22 rfl w.heap.size 5 i0 (.int .u8 0) 1 1 underlying22 hi hz0 hz1 hz2 rfl de _ _ _ rfl (hown.alloc _) ⟨wr.heap.size,0,none⟩ 1 1 [.int .u8 ((s[k].toNat:Int)+32)] rfl rfl ?c1A ?c2A ?c3A ?c4A ?c5A ?_)
    |(go_at_call 39;refine j5 (aJ (s[k].toNat:Int) 65 90 _ hc1 hc2) ?_))
   case c1A=>exact cell_one_new _ _ _
   case c2A=>intro u hu;simp at hu;subst hu;rfl
   case c3A=>unfold maxLen;omega
   case c4A=>omega
   case c5A=>simp;omega
   intro v' w1 hown' hgrow _;have R:=BM s k hlt hown' (by rw[if_pos ⟨hc1,hc2⟩]);have B1:Below w.heap.size w w1:=(hbel.alloc hsz _).grown hgrow (by simp;omega) (fun k hk=>(hown.lt k hk).1);clear hown' hgrow hown hbel;go_wp2;go_roundw
   case rel=>exact ⟨k+1,om,gn,R,B1⟩
   case measure=>exact j1
  have hc':(s[k].toNat:Int)<65∨90<(s[k].toNat:Int):=om;have HC:Hid ((s[k].toNat:Int)<65∨90<(s[k].toNat:Int)):=hc';clear hc hc';have hb:(s[k].toNat:Int)<=255:=by have:=s[k].toNat_lt;omega
  go_wp2_with (first
   |(at_builtin;refine wpList_append_own _ rfl _ _ 22 rfl w.heap.size 5 i0 (.int .u8 0) 1 1 underlying22 hi hz0 hz1 hz2 rfl de _ _ _ rfl (hown.alloc _) ⟨wr.heap.size,0,none⟩ 1 1 [.int .u8 ((s[k].toNat:Int))] rfl rfl ?c1B ?c2B ?c3B ?c4B ?c5B ?_)
   |(go_at_call 39;refine j5 (aN (s[k].toNat:Int) 65 90 _ HC.out) ?_))
  case c1B=>exact cell_one_new _ _ _
  case c2B=>intro u hu;simp at hu;subst hu;rfl
  case c3B=>unfold maxLen;omega
  case c4B=>omega
  case c5B=>simp;omega
  intro v' w1 hown' hgrow _;have R:=BM s k hlt hown' (by rw[if_neg (by rcases HC.out with h|h<;>omega)]);have B1:Below w.heap.size w w1:=(hbel.alloc hsz _).grown hgrow (by simp;omega) (fun k hk=>(hown.lt k hk).1);clear hown' hgrow hown hbel;go_wp2;go_roundw
  case rel=>exact ⟨k+1,om,gn,R,B1⟩
  case measure=>exact j1
 have HO:(convert 22 9 u3).run prog wr=.ok (L ⟨(aF (s.data.toList.take k)).toArray⟩) wr:=bG wr 22 9 5 underlying22 underlying5 underlying9 hown;go_wp2;go_ret;exact ⟨sH (by rw[cS s k om]),hbel⟩
def eR(l:List UInt8)(k:Nat):List UInt8:=aF (l.take k)++l.drop k
theorem KT(l:List UInt8):eR l 0=l:=by simp[eR,aF]
theorem rI(l:List UInt8)(k:Nat):(eR l k).length=l.length:=by simp[eR,aF];omega
theorem BN(s:ByteArray)(k:Nat)(h:k<s.size)(h':k<(eR s.data.toList k).length):(eR s.data.toList k)[k]=s[k]:=by
 have hk:k<s.data.toList.length:=by simpa using h
 have e:(eR s.data.toList k)[k]? =some s[k]:=by
  unfold eR;rw[List.getElem?_append_right (by simp[aF];omega)];simp only[aF,List.length_map,List.length_take,Nat.min_eq_left (Nat.le_of_lt hk),Nat.sub_self,List.getElem?_drop,Nat.add_zero];rw[zd hk];rfl
 rw[zd h']at e;exact Option.some.inj e
theorem vC(s:ByteArray)(k:Nat)(h:k<s.size):(eR s.data.toList k).set k (dG s[k])=eR s.data.toList (k+1):=by
 have hk:k<s.data.toList.length:=by simpa using h
 unfold eR;rw[List.set_append_right _ _ (by simp[aF];omega)];rw[eI s k h,List.drop_eq_getElem_cons hk];simp[aF,Nat.min_eq_left (Nat.le_of_lt h)]
theorem KU(s:ByteArray)(k:Nat)(h:k<s.size)(hc:dG s[k]=s[k]):eR s.data.toList k=eR s.data.toList (k+1):=by
 rw[<-vC s k h,hc];have h':k<(eR s.data.toList k).length:=by rw[rI];simpa using h
 rw[<-BN s k h h',List.set_getElem_self]
theorem xQ(s:ByteArray)(w:World)(hs:s.size<=1048576):Calls prog 172 #[L s] w fun e w'=>e=Y (L ⟨(aF s.data.toList).toArray⟩)/\Below w.heap.size w w':=by
 obtain ⟨cap,hcap⟩: ∃cap,grownCap w s.size 0 5=cap:=⟨_,rfl⟩;have hconv:=run_bytes_of_string w 9 22 5 s underlying9 underlying22 underlying5;rw[hcap]at hconv;have hmade:=vB w s cap 5;generalize hC:bytesRow s cap=C at hconv hmade;clear hC hcap;go_enter func172,ntmps172;go_wp2
 go_loopw[10] (fun i wr=> ∃k:Nat,k<=s.size/\i=I J k/\kH wr w.heap.size (eR s.data.toList k)/\Below w.heap.size w wr)
  (fun i _=>s.size-(intOf i).toNat)
 case atStart=>exact ⟨0,Nat.zero_le _,rfl,by rw[KT];exact hmade,((zg _ _).alloc (ze _) _).drew⟩
 obtain ⟨k,hk,rfl,hat,hbel⟩:=hrel;clear hmade hconv
 by_cases hlt:k<s.size
 .have hl:k<(eR s.data.toList k).length:=by rw[rI];simpa using hlt
  obtain ⟨hc,hf⟩:=hat k hl;rw[BN s k hlt hl]at hc
  by_cases hcc:65<=(s[k].toNat:Int)/\(s[k].toNat:Int)<=90
  .obtain ⟨hc1,hc2⟩:=hcc
   go_wp2;go_roundw
   case rel=>
    refine ⟨k+1,om,gn,?_,hbel.setCell (ze _) _⟩;rw[<-vC s k hlt];exact hat.set k hl (dG s[k]) (by rw[pZ,if_pos ⟨hc1,hc2⟩];omega)
   case measure=>exact j1
  have hcc':dG s[k]=s[k]:=by unfold dG;rw[if_neg om]
  have HC:Hid (dG s[k]=s[k]):=hcc';clear hcc'
  by_cases h65:65<=(s[k].toNat:Int)
  all_goals
   go_wp2;go_roundw
   case rel=>exact ⟨k+1,om,gn,by rw[<-KU s k hlt HC.out];exact hat,hbel⟩
   case measure=>exact j1
 have e:eR s.data.toList k=aF s.data.toList:=by
  unfold eR;rw[cS s k om,List.drop_eq_nil_of_le (by simp;omega),List.append_nil]
 rw[e]at hat;have HO:=tF (P:=prog) wr 22 9 5 underlying22 underlying5 underlying9 (n:=s.size) (cap:=cap) (by simp[aF]) hat;clear e;go_wp2;go_ret;exact ⟨rfl,hbel⟩
