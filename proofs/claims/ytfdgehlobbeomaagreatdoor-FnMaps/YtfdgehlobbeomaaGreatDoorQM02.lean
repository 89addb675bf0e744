/- EscTab, Shelf, MaxLaid. -/
import Derived.Test.YtfdgehlobbeomaaGreatDoorQM01
import Derived.Deep.MidRow
import Derived.Shelf.Strings.SlTrimAscii
import Derived.Shelf.Strings.Builder1
import Derived.Shelf.Strings.Trim
import Derived.Shelf.Small.Utf8
import Derived.Shelf.Small.Strs
import Derived.Shelf.Small.Wraps
import Derived.Shelf.Strings.BuilderF
import Derived.Shelf.Strings.BuilderK
import Derived.Shelf.Utf8.AppendRunePlain
import Derived.Shelf.LaysM
import Derived.Shelf.Strconv.Clone
import Derived.Shelf.Strings.Search1
import Derived.Shelf.Strings.Search2
import Derived.Shelf.Strings.Search3
import Derived.Shelf.Strings.Cut
import Derived.Shelf.Strings.Shaped
import Derived.Shelf.Strings.Prefix
import Derived.Shelf.Unicode.Decode
import Derived.Shelf.Strings.Runes
import Derived.Shelf.Strings.AsciiSet
import Derived.Shelf.Unicode.DecodeSlow
import Derived.Shelf.Unicode.DecodeAny
import Derived.Shelf.Unicode.DecodeLast
import Derived.Test.YtfdgehlobbeomaaGreatDoorProg
import Derived.ProofKit
namespace Go.Proofs.YtfdgehlobbeomaaGreatDoor
open Go.RowKit
set_option linter.unusedVariables false
def escRow:List Value:=[.int .u8 38,.string ⟨#[97,109,112]⟩,.int .u8 60,.string ⟨#[108,116]⟩,.int .u8 62,.string ⟨#[103,116]⟩,.int .u8 34,.string ⟨#[113,117,111,116]⟩,.int .u8 39,.string ⟨#[97,112,111,115]⟩]
def Esc(w:World):Prop:= ∀j v,escRow[j]? =some v→w.cell? ⟨0,j,none⟩=some v
theorem Esc.later{w w':World}(h:Esc w)(hb:Below w.heap.size w w'):Esc w':=fun j v hv=>
 (World.cell?_of_block (w:=w) (a:=⟨0,j,none⟩) (hb.block _ (World.block_lt_of_cell? w _ (h j v hv)))).trans (h j v hv)
theorem Esc.lt{w:World}(h:Esc w):0<w.heap.size:=World.block_lt_of_cell? w _ (h 0 _ rfl)
theorem Esc.below{B:Nat}{w w':World}(h:Esc w)(hB:0<B)(hb:Below B w w'):Esc w':=fun j v hv=>(hb.cell (p:=⟨0,j,none⟩) hB).trans (h j v hv)
theorem Tryz.infoEsc:(Tryz.prog.info? 118).map (·.size)=some 10:=by kernel_rfl
theorem Tryz.rowEsc: ∃d,Tryz.prog.underlying 118=some d∧d.isRow=true:=⟨_,Tryz.underlying118,rfl⟩
theorem esc_ld{ops:Array Oper}{rest:List Oper}{o:Oper}{a:Act}{W:World}{Q:Exit→Act→World→Prop}(hU:Esc W)(hgd:o.guard=none)(x:Operand)(ho:o.op=.load 118 x)
  (hx:a.eval x=.pointer (some ⟨0,0,none⟩)) (h:wpList Tryz.prog ops Q rest (a.put o.dst (.agg escRow.toArray)) W):wpList Tryz.prog ops Q (o::rest) a W:=by
 obtain ⟨d,hd1,hd2⟩:=Tryz.rowEsc
 exact wpList_load_mid hgd _ x ho 0 0 hx escRow d (fun j v hv=>by rw[Nat.zero_add];exact hU j v hv) hd1 hd2 Tryz.infoEsc h
def escM(k:Nat):Nat:=match k with
 |0=>38
 |1=>60
 |2=>62
 |3=>34
 |_=>39
def escN(k:Nat):List UInt8:=match k with
 |0=>nAmp
 |1=>nLt
 |2=>nGt
 |3=>nQuot
 |_=>nApos
theorem esc_at0(W:World):(Instr.index 118 (.agg escRow.toArray) (.int .i64 ((0:Nat):Int))).run Tryz.prog W=.ok (.agg #[.int .u8 ((escM 0:Nat):Int),.string ⟨(escN 0).toArray⟩]) W:=by kernel_rfl
theorem esc_at1(W:World):(Instr.index 118 (.agg escRow.toArray) (.int .i64 ((1:Nat):Int))).run Tryz.prog W=.ok (.agg #[.int .u8 ((escM 1:Nat):Int),.string ⟨(escN 1).toArray⟩]) W:=by kernel_rfl
theorem esc_at2(W:World):(Instr.index 118 (.agg escRow.toArray) (.int .i64 ((2:Nat):Int))).run Tryz.prog W=.ok (.agg #[.int .u8 ((escM 2:Nat):Int),.string ⟨(escN 2).toArray⟩]) W:=by kernel_rfl
theorem esc_at3(W:World):(Instr.index 118 (.agg escRow.toArray) (.int .i64 ((3:Nat):Int))).run Tryz.prog W=.ok (.agg #[.int .u8 ((escM 3:Nat):Int),.string ⟨(escN 3).toArray⟩]) W:=by kernel_rfl
theorem esc_at4(W:World):(Instr.index 118 (.agg escRow.toArray) (.int .i64 ((4:Nat):Int))).run Tryz.prog W=.ok (.agg #[.int .u8 ((escM 4:Nat):Int),.string ⟨(escN 4).toArray⟩]) W:=by kernel_rfl
theorem esc_at(k:Nat)(h:k<5)(W:World):(Instr.index 118 (.agg escRow.toArray) (.int .i64 (k:Int))).run Tryz.prog W=.ok (.agg #[.int .u8 (escM k:Int),.string ⟨(escN k).toArray⟩]) W:=
 match k,h with
 |0,_=>esc_at0 W
 |1,_=>esc_at1 W
 |2,_=>esc_at2 W
 |3,_=>esc_at3 W
 |4,_=>esc_at4 W
end Go.Proofs.YtfdgehlobbeomaaGreatDoor
namespace Go.Proofs
open Go.Shelf
def Tryz.lays169_ren:Go.Shelf.Ren:=⟨fun|169=>20|n=>n,fun|70=>43|9=>9|0=>0|72=>45|37=>22|127=>82|3=>3|5=>5|n=>n,fun|n=>n⟩
theorem Tryz.lays169:Go.Proofs.Lays.n169 Tryz.prog Tryz.lays169_ren:=by constructor<;>first|kernel_rfl|(intro _;kernel_rfl)
theorem Tryz.Builder_Extra_169:Builder.Extra Tryz.prog Tryz.lays169_ren:={
 sizeBuilder:=by kernel_rfl
 liesBuilder:=by kernel_rfl
 t5:=Tryz.underlying5
 a5:=Tryz.isAgg5
 z5:=Tryz.sizeOf5
 v5:=Tryz.zeroValue5
 infoByte:=by kernel_rfl
 cellsByte:=by kernel_rfl
 sizeByte:=by kernel_rfl
 neB5:=by decide}
def Tryz.lays160_ren:Go.Shelf.Ren:=⟨fun|160=>92|232=>105|231=>104|227=>106|234=>108|233=>107|236=>110|235=>109|228=>121|271=>124|151=>123|197=>122|120=>131|152=>130|260=>129|137=>113|119=>135|224=>84|225=>83|217=>82|266=>93|n=>n,fun|9=>9|4=>4|3=>3|5=>5|117=>141|116=>140|0=>0|124=>144|21=>21|105=>150|46=>108|119=>157|139=>160|138=>159|n=>n,fun|3=>2|4=>3|n=>n⟩
theorem Tryz.lays160:Go.Proofs.Lays.n160 Tryz.prog Tryz.lays160_ren:=by constructor<;>first|kernel_rfl|(intro _;kernel_rfl)
def Tryz.lays137_ren:Go.Shelf.Ren:=⟨fun|137=>113|217=>82|266=>93|n=>n,fun|9=>9|5=>5|3=>3|n=>n,fun|n=>n⟩
theorem Tryz.lays137:Go.Proofs.Lays.n137 Tryz.prog Tryz.lays137_ren:=by constructor<;>first|kernel_rfl|(intro _;kernel_rfl)
open Go.RowKit in
theorem Tryz.strings_IndexByte(s:ByteArray)(c:Int)(w:World):
  Calls Tryz.prog 113 #[.string s,.int .u8 c] w fun e w'=>e=.returned (.int .i64 (Lib.indexByte s.data.toList c.toNat.toUInt8))∧w'=w:=Any.strings_IndexByte Tryz.lays137 s c w
def Tryz.lays103_ren:Go.Shelf.Ren:=⟨fun|103=>97|210=>111|206=>125|n=>n,fun|9=>9|4=>4|24=>99|3=>3|n=>n,fun|n=>n⟩
theorem Tryz.lays103:Go.Proofs.Lays.n103 Tryz.prog Tryz.lays103_ren:=by constructor<;>first|kernel_rfl|(intro _;kernel_rfl)
open Go.RowKit in
theorem Tryz.strings_CutPrefix(s p:ByteArray)(w:World):
  Calls Tryz.prog 97 #[.string s,.string p] w fun e w'=>e=.returned (.tuple #[.string ⟨(Lib.trimPrefix s.data.toList p.data.toList).toArray⟩,.bool (Lib.hasPrefix s.data.toList p.data.toList)])∧w'=w:=Any.strings_CutPrefix Tryz.lays103 s p w
open Go.RowKit in
theorem Tryz.Builder_String_any_f(B b:Nat)(l:List UInt8)(w:World)(h:Lib.IsBuilderF 45 5 B b (Lib.byteCells l) w)(hBw:B≤w.heap.size):
  Calls Tryz.prog 20 #[.pointer (some ⟨b,0,none⟩)] w fun e w'=>e=.returned (.string ⟨l.toArray⟩)∧(Lib.IsBuilderF 45 5 B b (Lib.byteCells l) w'∧Below B w w'):=Any.Builder_String_any_f Tryz.lays169 Tryz.Builder_Extra_169 B b l w h hBw
def Tryz.lays242_ren:Go.Shelf.Ren:=⟨fun|242=>137|278=>138|n=>n,fun|37=>22|21=>21|51=>133|4=>4|5=>5|46=>108|n=>n,fun|n=>n⟩
theorem Tryz.lays242:Go.Proofs.Lays.n242 Tryz.prog Tryz.lays242_ren:=by constructor<;>first|kernel_rfl|(intro _;kernel_rfl)
open Go.RowKit in
theorem Tryz.utf8_AppendRune_plain(B:Nat)(v:Value)(n:Nat)(xs:List Value)(r:Int)(hr0: -2147483648≤r)(hr1:r≤2147483647)(w:World)(hown:w.ownsRow B 5 1 v n xs)(hlen:n+4≤140737488355328)(hBw:B≤w.heap.size):
  Calls Tryz.prog 137 #[v,.int .i32 r] w fun e w'=> ∃v',e=.returned v'∧w'.ownsRow B 5 1 v' (n+(Lib.runeCells r).length) (xs++Lib.runeCells r)∧ ∃o,(w.alloc o).grownBy w' v.ownBlock:=Any.utf8_AppendRune_plain Tryz.lays242 (by kernel_rfl) B v n xs r hr0 hr1 w hown hlen hBw
def Tryz.laysM316_ren:Go.Shelf.Ren:=⟨fun|316=>103|n=>n,fun|9=>9|3=>3|4=>4|37=>22|0=>0|127=>82|5=>5|n=>n,fun|n=>n⟩
theorem Tryz.laysM316:Go.Proofs.LaysM.n316 Tryz.prog Tryz.laysM316_ren:={
 mixed:=by kernel_rfl
 f316:=Tryz.func103.trans (congrArg some (by kernel_rfl))
 t0:=Tryz.underlying0
 a0:=Tryz.isAgg0
 z0:=Tryz.sizeOf0
 v0:=Tryz.zeroValue0
 t3:=Tryz.underlying3
 a3:=Tryz.isAgg3
 z3:=Tryz.sizeOf3
 v3:=Tryz.zeroValue3
 t4:=Tryz.underlying4
 a4:=Tryz.isAgg4
 z4:=Tryz.sizeOf4
 v4:=Tryz.zeroValue4
 t9:=Tryz.underlying9
 a9:=Tryz.isAgg9
 z9:=Tryz.sizeOf9
 v9:=Tryz.zeroValue9
 t37:=Tryz.underlying22
 a37:=Tryz.isAgg22
 z37:=Tryz.sizeOf22
 v37:=Tryz.zeroValue22
 t127:=Tryz.underlying82
 a127:=Tryz.isAgg82
 z127:=Tryz.sizeOf82
 v127:=Tryz.zeroValue82
 t5:=Tryz.underlying5
 a5:=Tryz.isAgg5
 z5:=Tryz.sizeOf5
 v5:=Tryz.zeroValue5
 i0:=by kernel_rfl
 i3:=by kernel_rfl
 i4:=by kernel_rfl
 i5:=by kernel_rfl
 i9:=by kernel_rfl
 i37:=by kernel_rfl
 i127:=by kernel_rfl}
open Go.RowKit in
theorem Tryz.stringslite_Clone(s:ByteArray)(w:World)(hlim:s.size≤281474976710656):
  Calls Tryz.prog 103 #[.string s] w fun e w'=>e=.returned (.string s)∧Below w.heap.size w w':=Any.stringslite_Clone Tryz.laysM316 s w hlim
def Tryz.lays219_ren:Go.Shelf.Ren:=⟨fun|219=>64|217=>82|225=>83|224=>84|267=>85|266=>93|314=>94|n=>n,fun|9=>9|3=>3|4=>4|5=>5|46=>108|146=>134|51=>133|n=>n,fun|1=>1|n=>n⟩
theorem Tryz.lays219:Go.Proofs.Lays.n219 Tryz.prog Tryz.lays219_ren:=by constructor<;>first|kernel_rfl|(intro _;kernel_rfl)
open Go.RowKit Go.Lib in
theorem Tryz.stringslite_Index_one(s:ByteArray)(c:UInt8)(w:World):
  Calls Tryz.prog 64 #[.string s,.string ⟨#[c]⟩] w fun e w'=>e=.returned (.int .i64 (Lib.indexByte s.data.toList c))∧w'=w:=Any.stringslite_Index_one Tryz.lays219 s c w
def Tryz.lays143_ren:Go.Shelf.Ren:=⟨fun|143=>119|219=>64|217=>82|225=>83|224=>84|267=>85|266=>93|314=>94|n=>n,fun|9=>9|3=>3|4=>4|5=>5|46=>108|146=>134|51=>133|n=>n,fun|1=>1|n=>n⟩
theorem Tryz.lays143:Go.Proofs.Lays.n143 Tryz.prog Tryz.lays143_ren:=by constructor<;>first|kernel_rfl|(intro _;kernel_rfl)
open Go.RowKit Go.Lib in
theorem Tryz.strings_Index_one(s:ByteArray)(c:UInt8)(w:World):
  Calls Tryz.prog 119 #[.string s,.string ⟨#[c]⟩] w fun e w'=>e=.returned (.int .i64 (Lib.indexByte s.data.toList c))∧w'=w:=Any.strings_Index_one Tryz.lays143 s c w
def Tryz.lays145_ren:Go.Shelf.Ren:=⟨fun|145=>27|220=>46|219=>64|217=>82|225=>83|224=>84|267=>85|266=>93|314=>94|n=>n,fun|9=>9|4=>4|59=>59|3=>3|5=>5|46=>108|146=>134|51=>133|n=>n,fun|1=>1|n=>n⟩
theorem Tryz.lays145:Go.Proofs.Lays.n145 Tryz.prog Tryz.lays145_ren:=by constructor<;>first|kernel_rfl|(intro _;kernel_rfl)
open Go.RowKit Go.Lib in
theorem Tryz.strings_Cut(s sep:ByteArray)(m:Int)(w:World)(hs:s.size<4294967281)(hm:w.cell? ⟨1,0,none⟩=some (.int .i64 m)):
  Calls Tryz.prog 27 #[.string s,.string sep] w fun e w'=>e=.returned (.tuple #[.string ⟨(Lib.cut s.data.toList sep.data.toList).1.toArray⟩,.string ⟨(Lib.cut s.data.toList sep.data.toList).2.1.toArray⟩,.bool (Lib.cut s.data.toList sep.data.toList).2.2])∧ ∃n,w'=w.drewN n:=Any.strings_Cut Tryz.lays145 s sep m w hs hm
def Tryz.laysM145_ren:Go.Shelf.Ren:=⟨fun|145=>27|220=>46|219=>64|217=>82|225=>83|224=>84|267=>85|266=>93|314=>94|n=>n,fun|9=>9|4=>4|59=>59|3=>3|5=>5|46=>108|146=>134|51=>133|n=>n,fun|1=>1|n=>n⟩
theorem Tryz.laysM145:Go.Proofs.LaysM.n145 Tryz.prog Tryz.laysM145_ren:={
 mixed:=by kernel_rfl
 f145:=Tryz.func27.trans (congrArg some (by kernel_rfl))
 f217:=Tryz.func82.trans (congrArg some (by kernel_rfl))
 f219:=Tryz.func64.trans (congrArg some (by kernel_rfl))
 f220:=Tryz.func46.trans (congrArg some (by kernel_rfl))
 f224:=Tryz.func84.trans (congrArg some (by kernel_rfl))
 f225:=Tryz.func83.trans (congrArg some (by kernel_rfl))
 f266:=Tryz.func93.trans (congrArg some (by kernel_rfl))
 f267:=Tryz.func85.trans (congrArg some (by kernel_rfl))
 f314:=Tryz.func94.trans (congrArg some (by kernel_rfl))
 t3:=Tryz.underlying3
 a3:=Tryz.isAgg3
 z3:=Tryz.sizeOf3
 v3:=Tryz.zeroValue3
 t4:=Tryz.underlying4
 a4:=Tryz.isAgg4
 z4:=Tryz.sizeOf4
 v4:=Tryz.zeroValue4
 t5:=Tryz.underlying5
 a5:=Tryz.isAgg5
 z5:=Tryz.sizeOf5
 v5:=Tryz.zeroValue5
 t9:=Tryz.underlying9
 a9:=Tryz.isAgg9
 z9:=Tryz.sizeOf9
 v9:=Tryz.zeroValue9
 t46:=Tryz.underlying108
 a46:=Tryz.isAgg108
 z46:=Tryz.sizeOf108
 v46:=Tryz.zeroValue108
 t51:=Tryz.underlying133
 a51:=Tryz.isAgg133
 z51:=Tryz.sizeOf133
 v51:=Tryz.zeroValue133
 t59:=Tryz.underlying59
 a59:=Tryz.isAgg59
 z59:=Tryz.sizeOf59
 v59:=Tryz.zeroValue59
 t146:=Tryz.underlying134
 a146:=Tryz.isAgg134
 z146:=Tryz.sizeOf134
 v146:=Tryz.zeroValue134
 g1:=by kernel_rfl
 i3:=by kernel_rfl
 i4:=by kernel_rfl
 i5:=by kernel_rfl
 i9:=by kernel_rfl
 i46:=by kernel_rfl
 i51:=by kernel_rfl
 i59:=by kernel_rfl
 i146:=by kernel_rfl
 m1:=by kernel_rfl
 s1_3:=fun w h=>Go.Proofs.cell_of_shapedOpen_int (zero:= #[.int .i64 0]) (t:=3) h (of_decide_eq_true (by kernel_rfl)) (by kernel_rfl) rfl (by kernel_rfl) (by kernel_rfl) Tryz.underlying3}
def Tryz.lays100_ren:Go.Shelf.Ren:=⟨fun|100=>118|207=>127|n=>n,fun|9=>9|4=>4|3=>3|n=>n,fun|n=>n⟩
theorem Tryz.lays100:Go.Proofs.Lays.n100 Tryz.prog Tryz.lays100_ren:=by constructor<;>first|kernel_rfl|(intro _;kernel_rfl)
open Go.RowKit Go.Lib in
theorem Tryz.strings_HasSuffix(s p:ByteArray)(w:World)(hs:s.size≤9223372036854775807):
  Calls Tryz.prog 118 #[.string s,.string p] w fun e w'=>e=.returned (.bool (Lib.hasSuffix s.data.toList p.data.toList))∧w'=w:=Any.strings_HasSuffix Tryz.lays100 s p w hs
end Go.Proofs
namespace Go.Proofs.YtfdgehlobbeomaaGreatDoor
open Go.RowKit
def MaxI(w:World):Prop:= ∃m,w.cell? ⟨1,0,none⟩=some (.int .i64 m)
theorem max_shaped{w:World}(h:w.ShapedOpen Tryz.prog):MaxI w:=Tryz.laysM145.s1_3 w h
theorem max_below{w w':World}(h:MaxI w)(hb:Below w.heap.size w w'):MaxI w':=by
 obtain ⟨m,hm⟩:=h
 exact ⟨m,cell_later hb hm⟩
end Go.Proofs.YtfdgehlobbeomaaGreatDoor
