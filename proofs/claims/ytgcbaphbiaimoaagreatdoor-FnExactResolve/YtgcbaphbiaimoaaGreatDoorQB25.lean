/- LaidBru, LaidHost, LaidMarks, LaidUrl, ResErr, LaidRes, ResFault, CutWay, UrlWay. -/
import Derived.OpenVars
import Derived.LaidHandle
import Derived.LaidEql
import Derived.Stop.Asserts
import Derived.RowKitTokens
import Derived.Stop.LaidTwo
import Derived.Lib.IndexMore
import Derived.Test.YtgcbaphbiaimoaaGreatDoorQB12
import Derived.Lib.IndexAny
import Derived.Lib.Replace
import Derived.Lib.LastIndexByte
set_option maxHeartbeats 4000000
set_option maxRecDepth 20000
namespace Go.Proofs.YtgcbaphbiaimoaaGreatDoor
open _root_.Array renaming getElem?_eq_some_iff->zg
open _root_.List renaming contains_iff_mem->zl,count_append->zw,count_cons_self->zq,count_eq_zero->zu,dropWhile_cons->zm,drop_left'->zk,findIdx?_cons->zv,getD_eq_getElem?_getD->zd,getElem?_drop->zn,getElem?_eq_getElem->zj,length_append->zo,length_cons->zh,mem_cons->zr,mem_singleton->zt,nodup_cons->zy,not_mem_nil->zx,range->zs,sublist_append_right->zi,takeWhile_cons->ze,take_left'->zz
open _root_.Nat renaming le_refl->zp
open _root_.Option renaming map_eq_some_iff->zf,some->za
open _root_.UInt8 renaming toNat_inj->z0
open _root_.Go.World renaming var?_cell->zc
open _root_.Go.Proofs.Tryz
open _root_.Go.Proofs.YtgcbaphbiaimoaaGreatDoor.Tryz
section
open Go.ChangeShapes Go.WideShapes Go.ChangeAt Go.RowKit Go.Lib
def Eu:List Int:=[0,1,56,2,57,49,28,3,61,58,42,50,38,29,17,4,62,47,59,36,45,43,51,22,53,39,33,30,24,18,12,5,63,55,48,27,60,41,37,16,46,35,44,21,52,32,23,11,54,26,40,15,34,20,31,10,25,14,19,9,13,8,7,6]
theorem Ev:(Rows.laid_math_bits_deBruijn64tab:DataW Unit)=Lib.tabData .u8 Eu:=kr
def Ew(h:Array Obj):Array Obj:=Y7 (Hq h)
theorem WD:ownKnob prog.godebug=none:=kr
theorem nH:laidOutB prog=true:=kr
def uK(f:Nat->Bool):DataW Unit:=.agg ((zs 128).map fun i=> .lit (.bool (f i)))
theorem ZH:(Rows.laid_loop_example_g00191_impl_plainMarks:DataW Unit)=uK kD:=kr
theorem U9:(Rows.laid_loop_example_g00191_impl_keptMarks:DataW Unit)=uK pV:=kr
theorem tG{P:Program}{w:World}{name:String}{g:Nat}{t e:TypeId}{f:Nat->Bool}(hn:P.globalNamed name=some g)(hy:(P.globals[g]?).map (·.type)=some t)(ht:P.underlying t=some (.array 128 e))(he:P.underlying e=some .bool)(hce:P.cellsOf e=1)
  (h:VarReads P w name (uK f)): ∀c,c<128->w.cell? ⟨g,c,none⟩=some (.bool (f c)):=by
 intro c hc;obtain ⟨g',t',cs,fuel,p,hg,hty,hvar,hd⟩:=h
 obtain rfl:=za.inj (hn.symm.trans hg)
 obtain rfl:=za.inj (hy.symm.trans hty)
 unfold uK at hd;obtain ⟨fuel',d,q,hdi,hx⟩:=array_elem ht hd c hc;simp only[List.getElem?_map,List.getElem?_range hc,Option.map_some,za.injEq]at hdi;subst hdi;rw[hce]at hx;obtain ⟨b,hb,hxx⟩:=DataW.trod_bool he hx;have hfb:f c=b:=by simpa using congrArg Prod.fst hxx
 have e0:=congrArg (·[0]?) hb;simp only[List.getElem?_take,zn]at e0;rw[zc hg hvar c,<-Array.getElem?_toList,hfb];simpa using e0
def WE(f:Nat->Bool):Obj->Obj
 | .cells _ t frozen=> .cells ((zs 128).map fun i=>Value.bool (f i)).toArray t frozen
 |o=>o
def V0(h:Array Obj):Array Obj:=(h.modify 6 (WE kD)).modify 9 (WE pV)
def sB:List (String×DataW Unit):=[("math/bits.deBruijn32tab",Rows.laid_math_bits_deBruijn32tab),("math/bits.deBruijn64tab",Rows.laid_math_bits_deBruijn64tab),("internal/strconv.uint64pow10",Rows.laid_internal_strconv_uint64pow10),("unicode/utf8.acceptRanges",Rows.laid_unicode_utf8_acceptRanges),("errors.errorType",Rows.laid_errors_errorType),("loop.example/g00191/impl.plainMarks",Rows.laid_loop_example_g00191_impl_plainMarks),("loop.example/g00191/impl.keptMarks",Rows.laid_loop_example_g00191_impl_keptMarks),("unicode/utf8.first",Rows.laid_unicode_utf8_first)]
def oN:List (String×DataW Unit):=[("math/bits.deBruijn32tab",Rows.laid_math_bits_deBruijn32tab),("math/bits.deBruijn64tab",Rows.laid_math_bits_deBruijn64tab),("internal/strconv.uint64pow10",Rows.laid_internal_strconv_uint64pow10),("unicode/utf8.acceptRanges",Rows.laid_unicode_utf8_acceptRanges),("loop.example/g00191/impl.plainMarks",Rows.laid_loop_example_g00191_impl_plainMarks),("loop.example/g00191/impl.keptMarks",Rows.laid_loop_example_g00191_impl_keptMarks),("unicode/utf8.first",Rows.laid_unicode_utf8_first)]
theorem qW{W:World}(h:laidMetH prog sB W):laidMet prog oN W/\handlesMet prog [("errors.errorType",Rows.laid_errors_errorType)] W:=h
theorem K8{W:World}(h:laidMetH prog sB W):Pow W:=by
 have hL:=(qW h).1;unfold oN at hL;rw[Ai]at hL;obtain ⟨g',t',cs,fuel,p,hg,hty,hvar,hd⟩:=Lib.laidMet.reads hL (.tail _ (.tail _ (.head _)))
 obtain rfl:=za.inj ((show prog.globalNamed "internal/strconv.uint64pow10" =some 7 by kernel_rfl).symm.trans hg)
 obtain rfl:=za.inj ((show (prog.globals[7]?).map (·.type)=some 219 by kernel_rfl).symm.trans hty)
 show Lib.TabIs _ _ _ _ _;unfold Lib.TabIs;rw[hvar,<-Lib.cells_of_tab (P:=prog) (t:=219) (e:=186) (n:=20) (k:=.u64) kr kr kr kr hd]
theorem K9{W:World}(h:laidMetH prog sB W):cC W:=by
 have hL:=(qW h).1;unfold oN at hL;rw[Ev]at hL;obtain ⟨g',t',cs,fuel,p,hg,hty,hvar,hd⟩:=Lib.laidMet.reads hL (.tail _ (.head _));have hgg:prog.globalNamed "math/bits.deBruijn64tab" =some 11:=kr
 obtain rfl:=za.inj (hgg.symm.trans hg)
 obtain rfl:=za.inj ((show (prog.globals[11]?).map (·.type)=some 239 by kernel_rfl).symm.trans hty)
 have hT:Lib.TabIs prog W "math/bits.deBruijn64tab" .u8 Eu:=by
  unfold Lib.TabIs;rw[hvar,<-Lib.cells_of_tab (P:=prog) (t:=239) (e:=5) (n:=64) (k:=.u8) kr kr kr kr hd]
 exact hT.cell hgg 15 de
theorem WF{W:World}(h:laidMetH prog sB W):Lib.Utf8Tabs 12 13 W:=by
 have hL:=(qW h).1;unfold oN at hL;rw[Lo,Y6]at hL;exact utf8Tabs_of_readsT (U8Types.of196 lays196) ⟨kr,kr,kr,kr,kr,kr,kr⟩ (Lib.laidMet.reads hL (.tail _ (.tail _ (.tail _ (.tail _ (.tail _ (.tail _ (.head _)))))))) (Lib.laidMet.reads hL (.tail _ (.tail _ (.tail _ (.head _)))))
theorem MX{W:World}(h:laidMetH prog sB W):iX W:=by
 have hL:=(qW h).1;unfold oN at hL;rw[ZH,U9]at hL;have h1:=tG (P:=prog) (g:=6) (t:=204) (e:=4) kr kr kr kr kr (Lib.laidMet.reads hL (.tail _ (.tail _ (.tail _ (.tail _ (.head _))))));have h2:=tG (P:=prog) (g:=9) (t:=204) (e:=4) kr kr kr kr kr (Lib.laidMet.reads hL (.tail _ (.tail _ (.tail _ (.tail _ (.tail _ (.head _)))))));exact fun c hc=>⟨h1 c hc,h2 c hc⟩
def QN(W:World):Prop:=W.cell? ⟨0,0,none⟩=some (.iface 159 (.agg #[.pointer (some ⟨14,65,none⟩)]))
theorem Ex:(prog.cutTypes.find? (·.1== "internal/reflectlite.rtype")).map (·.2)=some 159:=kr
theorem Ey:((zs 292).filter fun t=>prog.rowNamed t [101,114,114,111,114])=[65]:=kr
theorem V1:prog.types.size=292:=kr
theorem WG{W:World}(h:laidMetH prog sB W):QN W:=by
 obtain ⟨name,u,ty,e1,e2,e3,e4,e5⟩:=(qW h).2 _ (zt.2 rfl);have en:name=[101,114,114,111,114]:=(za.inj e1).symm;subst en
 obtain rfl:=za.inj (Ex.symm.trans e2)
 have hm:ty∈(zs 292).filter fun t=>prog.rowNamed t [101,114,114,111,114]:=List.mem_filter.2 ⟨List.mem_range.2 (by rw[<-V1];exact e3),e4⟩
 rw[Ey]at hm
 obtain rfl:=zt.1 hm
 have hh:typeHandle prog 65=.pointer (some ⟨14,65,none⟩):=kr;rw[hh]at e5;have hg:prog.globalNamed "errors.errorType" =some 0:=kr;have h0:=zc hg e5 0;unfold QN;simpa using h0
def Jr(h:Array Obj):Array Obj:=(V0 (Ew h)).modify 0 fun
 | .cells _ t frozen=> .cells #[.iface 159 (.agg #[.pointer (some ⟨14,65,none⟩)])] t frozen
 |o=>o
end
section
open Go.RowKit Go.Extern.Stop Go.Stop Go.Extern
theorem MY(v:Value)(w:World):(callFunc 160 #[.iface 261 v]).run prog w=.ok (.value (.iface 159 (.agg #[.pointer (some ⟨14,261,none⟩)]))) w:=kr
theorem vI(w:World):(callFunc 343 #[.agg #[.pointer (some ⟨14,261,none⟩)]]).run prog w=.ok (.value (.bool true)) w:=kr
theorem MZ(v:Value)(w:World):(Go.method 392 159 v "Comparable").run prog w=.ok (343,v) w:=kr
theorem L6:(prog.info? 261).map (·.comparable)=some true:=kr
theorem L7:(prog.info? 280).map (·.size)=some 1:=kr
theorem L8(v:Value)(xT:TypeId)(w:World):(Instr.typeAssert (.iface 261 v) xT 205 true).run prog w=.ok (.tuple #[.nilIface,.bool false]) w:=run_typeAssert_lacksB underlying205 kr kr v xT w
theorem DF(v:Value)(xT:TypeId)(w:World):(Instr.typeAssert (.iface 261 v) xT 167 true).run prog w=.ok (.tuple #[.nilIface,.bool false]) w:=run_typeAssert_lacksB underlying167 kr kr v xT w
theorem zG(v:Value)(xT:TypeId)(w:World):(Instr.typeAssert (.iface 261 v) xT 169 true).run prog w=.ok (.tuple #[.nilIface,.bool false]) w:=run_typeAssert_lacksB underlying169 kr kr v xT w
theorem L9(v:Value)(xT:TypeId)(w:World):(Instr.typeAssert (.iface 138 v) xT 205 true).run prog w=.ok (.tuple #[.nilIface,.bool false]) w:=run_typeAssert_lacksB underlying205 kr kr v xT w
theorem zH(v:Value)(xT:TypeId)(w:World):(Instr.typeAssert (.iface 138 v) xT 167 true).run prog w=.ok (.tuple #[.iface 138 v,.bool true]) w:=run_typeAssert_hasB underlying167 kr v xT w
theorem NA(v:Value)(w:World):(Go.method 392 138 v "Unwrap").run prog w=.ok (337,v) w:=kr
theorem NC(s:ByteArray)(v:Value)(w:World):Calls prog 337 #[.agg #[.string s,v]] w fun e w'=>e=.returned v/\Below w.heap.size w w':=by
 go_enter func337,ntmps337;go_wp2;go_ret;exact ⟨rfl,(Below.refl _ _).alloc (zp _) _⟩
theorem Js(b:Addr)(w:World):Calls prog 124 #[.nilIface,.iface 261 (.pointer (some b))] w fun e w'=>e=.returned (.bool false)/\w=w':=by
 have hn:=run_eql_iface_nil_left (P:=prog) w 261 (.pointer (some b)) underlying65;go_enter func124,ntmps124;go_wp2;go_ret;exact ⟨rfl,rfl⟩
theorem Mx(s:ByteArray)(b:Addr)(w:World):Calls prog 124 #[.iface 138 (.agg #[.string s,.iface 261 (.pointer (some b))]),.iface 261 (.pointer (some b))] w fun e w'=>e=.returned (.bool true)/\Below w.heap.size w w':=by
 obtain ⟨i,hi,hcmp⟩:=zf.1 L6;obtain ⟨j,hj,hjs⟩:=zf.1 L7;have tT:=MY;have cT:=vI;have mR:=MZ;have nE:=L8;have uE:=DF;have vE:=zG;have nW:=L9;have uW:=zH;have mU:=NA;have heq: ∀W,(binOp .eql 65 (.iface 261 (.pointer (some b))) (.iface 261 (.pointer (some b)))).run prog W=.ok (.bool true) W:=fun W=>run_eql_iface_ptr_same (P:=prog) W b underlying65 underlying261 hi hcmp hj
 have hty:=run_eql_iface_types (P:=prog) 138 261 (.agg #[.string s,.iface 261 (.pointer (some b))]) (.pointer (some b)) underlying65 de w;go_enter func124,ntmps124;go_wp2;refine wp_loop_rounds 2 ?_;rw[rounds_succ];go_wp2_with (go_at_call 337;refine j6 (NC _ _ _) fun w1 b1=>?_);rw[rounds_succ];go_wp2;go_ret;exact ⟨rfl,b1⟩
theorem Jt(s:ByteArray)(a b:Addr)(ca cb:Array Value)(ta tb:TypeId)(w:World)(hne:a≠b)(ha:w.heap[a.block]? =some (.cells ca ta (0,0)))(hb:w.heap[b.block]? =some (.cells cb tb (0,0))):Calls prog 124 #[.iface 138 (.agg #[.string s,.iface 261 (.pointer (some a))]),.iface 261 (.pointer (some b))] w fun e w'=>e=.returned (.bool false)/\Below w.heap.size w w':=by
 obtain ⟨i,hi,hcmp⟩:=zf.1 L6;obtain ⟨j,hj,hjs⟩:=zf.1 L7;have tT:=MY;have cT:=vI;have mR:=MZ;have nE:=L8;have uE:=DF;have vE:=zG;have nW:=L9;have uW:=zH;have mU:=NA;have hla:a.block<w.heap.size:=(zg.1 ha).1;have hlb:b.block<w.heap.size:=(zg.1 hb).1;have heq: ∀W,Below w.heap.size w W->(binOp .eql 65 (.iface 261 (.pointer (some a))) (.iface 261 (.pointer (some b)))).run prog W=.ok (.bool false) W:=fun W hb'=>run_eql_iface_ptr_other (P:=prog) W underlying65 underlying261 hi hcmp hj (by rw[hjs];decide) hne ((hb'.block _ hla).trans ha) ((hb'.block _ hlb).trans hb)
 have hty:=run_eql_iface_types (P:=prog) 138 261 (.agg #[.string s,.iface 261 (.pointer (some a))]) (.pointer (some b)) underlying65 de w;have HEQ:Hid (∀W,Below w.heap.size w W->(binOp .eql 65 (.iface 261 (.pointer (some a))) (.iface 261 (.pointer (some b)))).run prog W=.ok (.bool false) W):=heq;clear heq;go_enter func124,ntmps124;go_wp2;refine wp_loop_rounds 2 ?_;rw[rounds_succ];go_wp2_with (go_at_call 337;refine j6 (NC _ _ _) fun w1 b1=>?_;have h1:=HEQ.out _ b1);rw[rounds_succ];go_wp2;go_ret;exact ⟨rfl,b1⟩
def gvE(c:Nat):Nat:=match c with|1=>2|2=>3|3=>4|4=>1|_=>5
def iV(ad:Nat->Addr)(w:World):Prop:= ∀c,1<=c->c<=5->w.cell? ⟨gvE c,0,none⟩=some (.iface 261 (.pointer (some (ad c))))/\(∃cs t,w.heap[(ad c).block]? =some (.cells cs t (0,0)))/\ ∀d,1<=d->d<=5->d≠c->ad d≠ad c
theorem iV.later{ad:Nat->Addr}{w w':World}(h:iV ad w)(hb:Below w.heap.size w w'):iV ad w':=fun c h1 h5=>by
 obtain ⟨k1,⟨cs,t,k2⟩,k3⟩:=h c h1 h5;exact ⟨cell_later hb k1,⟨cs,t,(hb.block _ (zg.1 k2).1).trans k2⟩,k3⟩
theorem jT{ad:Nat->Addr}{w:World}(h:iV ad w)(s:ByteArray){c d:Nat}(h1:1<=c)(h5:c<=5)(k1:1<=d)(k5:d<=5):Calls prog 124 #[.iface 138 (.agg #[.string s,.iface 261 (.pointer (some (ad c)))]),.iface 261 (.pointer (some (ad d)))] w fun e w'=>e=.returned (.bool (decide (c=d)))/\Below w.heap.size w w':=by
 by_cases hcd:c=d
 .subst hcd
  rw[decide_eq_true rfl];exact Mx s _ w
 rw[decide_eq_false hcd];obtain ⟨_,⟨ca,ta,ha⟩,ne⟩:=h d k1 k5;obtain ⟨_,⟨cb,tb,hb⟩,_⟩:=h c h1 h5;exact Jt s _ _ _ _ _ _ w (ne c h1 h5 hcd) hb ha
end
section
open Go.ChangeShapes Go.WideShapes Go.ChangeAt Go.RowKit Go.Lib
def lP:List (String×DataW Unit):=[("math/bits.deBruijn32tab",Rows.laid_math_bits_deBruijn32tab),("math/bits.deBruijn64tab",Rows.laid_math_bits_deBruijn64tab),("internal/strconv.uint64pow10",Rows.laid_internal_strconv_uint64pow10),("unicode/utf8.acceptRanges",Rows.laid_unicode_utf8_acceptRanges),("errors.errorType",Rows.laid_errors_errorType),("loop.example/g00191/impl.plainMarks",Rows.laid_loop_example_g00191_impl_plainMarks),("loop.example/g00191/impl.keptMarks",Rows.laid_loop_example_g00191_impl_keptMarks),("loop.example/g00191/impl.errLong",Rows.laid_loop_example_g00191_impl_errLong),("loop.example/g00191/impl.errScheme",Rows.laid_loop_example_g00191_impl_errScheme),("loop.example/g00191/impl.errUser",Rows.laid_loop_example_g00191_impl_errUser),("loop.example/g00191/impl.errHost",Rows.laid_loop_example_g00191_impl_errHost),("loop.example/g00191/impl.errPort",Rows.laid_loop_example_g00191_impl_errPort),("unicode/utf8.first",Rows.laid_unicode_utf8_first)]
def zI:List (String×DataW Unit):=[("loop.example/g00191/impl.errLong",Rows.laid_loop_example_g00191_impl_errLong),("loop.example/g00191/impl.errScheme",Rows.laid_loop_example_g00191_impl_errScheme),("loop.example/g00191/impl.errUser",Rows.laid_loop_example_g00191_impl_errUser),("loop.example/g00191/impl.errHost",Rows.laid_loop_example_g00191_impl_errHost),("loop.example/g00191/impl.errPort",Rows.laid_loop_example_g00191_impl_errPort)]
def qX:List (String×DataW Unit):=[("math/bits.deBruijn32tab",Rows.laid_math_bits_deBruijn32tab),("math/bits.deBruijn64tab",Rows.laid_math_bits_deBruijn64tab),("internal/strconv.uint64pow10",Rows.laid_internal_strconv_uint64pow10),("unicode/utf8.acceptRanges",Rows.laid_unicode_utf8_acceptRanges),("loop.example/g00191/impl.plainMarks",Rows.laid_loop_example_g00191_impl_plainMarks),("loop.example/g00191/impl.keptMarks",Rows.laid_loop_example_g00191_impl_keptMarks)]++zI++[("unicode/utf8.first",Rows.laid_unicode_utf8_first)]
theorem ND{W:World}(h:laidMetH prog lP W):laidMet prog qX W/\handlesMet prog [("errors.errorType",Rows.laid_errors_errorType)] W:=h
theorem QO{P:Program}{w:World}{l l':List (String×DataW Unit)}(h:l'.Sublist l): ∀{ps:List MemPlace},DataW.LaidVars P w l ps-> ∃ps',DataW.LaidVars P w l' ps'/\ps'.Sublist ps:=by
 induction h with
 |slnil=>exact fun {ps} hl=>⟨ps,hl,List.Sublist.refl _⟩
 |cons a _ ih=>
  rintro ps ⟨g,t,cs,f,p,q,h1,h2,h3,h4,h5,rfl⟩;obtain ⟨ps',k1,k2⟩:=ih h5;exact ⟨ps',k1,k2.trans (zi _ _)⟩
 |cons_cons a _ ih=>
  rintro ps ⟨g,t,cs,f,p,q,h1,h2,h3,h4,h5,rfl⟩;obtain ⟨ps',k1,k2⟩:=ih h5;exact ⟨_,⟨g,t,cs,f,p,ps',h1,h2,h3,h4,k1,rfl⟩,(List.Sublist.refl _).append k2⟩
theorem DG{P:Program}{w:World}{l l':List (String×DataW Unit)}(h:l'.Sublist l)(hl:laidMet P l w):laidMet P l' w:=by
 obtain ⟨ps,h1,h2,h3⟩:=hl;obtain ⟨ps',k1,k2⟩:=QO h h1;exact ⟨ps',k1,k2.nodup h2,fun b off hm=>h3 b off (k2.subset hm)⟩
theorem Ju:oN.Sublist qX:=by
 unfold oN qX;refine .cons_cons _ (.cons_cons _ (.cons_cons _ (.cons_cons _ (.cons_cons _ (.cons_cons _ (?_))))));exact zi zI [("unicode/utf8.first",Rows.laid_unicode_utf8_first)]
theorem Jv:zI.Sublist qX:=by
 unfold qX;exact (zi _ zI).trans (List.sublist_append_left _ _)
theorem lQ{W:World}(h:laidMetH prog lP W):laidMetH prog sB W:=by
 obtain ⟨h1,h2⟩:=ND h;exact ⟨DG Ju h1,h2⟩
theorem WH{H:Type}{enc:TypeId×Value->H}{P:Program}{w:World}{sp:Nat->Bool}: ∀{ns:List String} {gs:List (DataW H)} {ps:List MemPlace},DataW.TrodVars enc P w sp ns gs ps->gs.length=ns.length
 |[],[],_,_=>rfl
 |[],_::_,_,h=>h.elim
 |_::_,[],_,h=>h.elim
 |_::_,_::_,_,⟨_,_,_,_,_,_,_,_,_,_,h,_⟩=>by rw[zh,zh,WH h]
theorem JC{H:Type}{enc:TypeId×Value->H}{P:Program}{w:World}{sp:Nat->Bool}{n0 n1 n2 n3 n4 n5 n6:String}{gs:List (DataW H)}{ps:List MemPlace}(h:DataW.TrodVars enc P w sp [n0,n1,n2,n3,n4,n5,n6] gs ps): ∃g0 g1 g2 g3 g4 g5 g6,gs=[g0,g1,g2,g3,g4,g5,g6]:=by
 have hl:=WH h
 match gs,hl with
 |[a,b,c,d,e,f,g],_=>exact ⟨a,b,c,d,e,f,g,rfl⟩
theorem WI: "*" ++ "errors.errorString" = "*errors.errorString" :=de
theorem Ez(u:TypeId)(h:prog.typeName? 3 u=some "*errors.errorString"):u=261:=
 typeName_ptr_named (nm:= "errors.errorString") (by rw[WI];kernel_rfl) kr de u (by rw[WI];exact h)
theorem V5{P:Program}{n1 n2 n3 n4 n5 nm:String}{x1 x2 x3 x4 x5:List UInt8}{W:World}{g1 g2 g3 g4 g5:Nat}{ti tp te ts:TypeId}{ms:Array (String×TypeId)}{f:Field}
  (h:laidMet P [(n1,.iface nm (.ptr (.agg [.lit (.string x1)]))),(n2,.iface nm (.ptr (.agg [.lit (.string x2)]))),(n3,.iface nm (.ptr (.agg [.lit (.string x3)]))),(n4,.iface nm (.ptr (.agg [.lit (.string x4)]))),(n5,.iface nm (.ptr (.agg [.lit (.string x5)])))] W)
  (hg1:P.globalNamed n1=some g1) (ht1:(P.globals[g1]?).map (·.type)=some ti) (hg2:P.globalNamed n2=some g2) (ht2:(P.globals[g2]?).map (·.type)=some ti) (hg3:P.globalNamed n3=some g3) (ht3:(P.globals[g3]?).map (·.type)=some ti) (hg4:P.globalNamed n4=some g4) (ht4:(P.globals[g4]?).map (·.type)=some ti) (hg5:P.globalNamed n5=some g5) (ht5:(P.globals[g5]?).map (·.type)=some ti)
  (hi:P.underlying ti=some (.interface ms)) (hrow: ∀u,P.typeName? 3 u=some nm->u=tp)
  (hp:P.underlying tp=some (.pointer te)) (he:P.underlying te=some (.struct #[f])) (hft:f.type=ts) (hfo:f.offset=0) (hs:P.underlying ts=some .string) (hc:P.cellsOf te=1) (hcs:P.cellsOf ts=1):
  ∃a1 a2 a3 a4 a5:Addr,(W.var? P n1=some #[.iface tp (.pointer (some a1))]/\W.var? P n2=some #[.iface tp (.pointer (some a2))]/\W.var? P n3=some #[.iface tp (.pointer (some a3))]/\W.var? P n4=some #[.iface tp (.pointer (some a4))]/\W.var? P n5=some #[.iface tp (.pointer (some a5))])/\
   ((∃c t,W.heap[a1.block]? =some (.cells c t (0,0)))/\(∃c t,W.heap[a2.block]? =some (.cells c t (0,0)))/\(∃c t,W.heap[a3.block]? =some (.cells c t (0,0)))/\(∃c t,W.heap[a4.block]? =some (.cells c t (0,0)))/\ ∃c t,W.heap[a5.block]? =some (.cells c t (0,0)))/\
   [a1,a2,a3,a4,a5].Nodup:=by
 obtain ⟨ps,⟨g1',t1',cs1,f1,p1,q1,hg1',ht1',hv1,hd1,⟨g2',t2',cs2,f2,p2,q2,hg2',ht2',hv2,hd2,⟨g3',t3',cs3,f3,p3,q3,hg3',ht3',hv3,hd3,⟨g4',t4',cs4,f4,p4,q4,hg4',ht4',hv4,hd4,⟨g5',t5',cs5,f5,p5,q5,hg5',ht5',hv5,hd5,_,e5⟩,e4⟩,e3⟩,e2⟩,e1⟩,hnd,hrows⟩:=h
 obtain rfl:=za.inj (hg1.symm.trans hg1')
 obtain rfl:=za.inj (hg2.symm.trans hg2')
 obtain rfl:=za.inj (hg3.symm.trans hg3')
 obtain rfl:=za.inj (hg4.symm.trans hg4')
 obtain rfl:=za.inj (hg5.symm.trans hg5')
 obtain rfl:=za.inj (ht1.symm.trans ht1')
 obtain rfl:=za.inj (ht2.symm.trans ht2')
 obtain rfl:=za.inj (ht3.symm.trans ht3')
 obtain rfl:=za.inj (ht4.symm.trans ht4')
 obtain rfl:=za.inj (ht5.symm.trans ht5')
 subst e5 e4 e3 e2 e1;obtain ⟨l1⟩:=cs1;obtain ⟨l2⟩:=cs2;obtain ⟨l3⟩:=cs3;obtain ⟨l4⟩:=cs4;obtain ⟨l5⟩:=cs5;have ok1: ∀u v,l1=[.iface u v]->Value.okWide P W .any 0 u v:=fun u v e=>by
  subst e;exact (hrows g1 0 (by simp[MemPlace.row])).2 u v (by simpa using zc hg1' hv1 0)
 have ok2: ∀u v,l2=[.iface u v]->Value.okWide P W .any 0 u v:=fun u v e=>by
  subst e;exact (hrows g2 0 (by simp[MemPlace.row])).2 u v (by simpa using zc hg2' hv2 0)
 have ok3: ∀u v,l3=[.iface u v]->Value.okWide P W .any 0 u v:=fun u v e=>by
  subst e;exact (hrows g3 0 (by simp[MemPlace.row])).2 u v (by simpa using zc hg3' hv3 0)
 have ok4: ∀u v,l4=[.iface u v]->Value.okWide P W .any 0 u v:=fun u v e=>by
  subst e;exact (hrows g4 0 (by simp[MemPlace.row])).2 u v (by simpa using zc hg4' hv4 0)
 have ok5: ∀u v,l5=[.iface u v]->Value.okWide P W .any 0 u v:=fun u v e=>by
  subst e;exact (hrows g5 0 (by simp[MemPlace.row])).2 u v (by simpa using zc hg5' hv5 0)
 obtain ⟨a1,s1,rfl,hc1,hs1,hz1,rfl⟩:=errorString_of_trod hi hrow hp he hft hfo hs hc hcs hd1 ok1;obtain ⟨a2,s2,rfl,hc2,hs2,hz2,rfl⟩:=errorString_of_trod hi hrow hp he hft hfo hs hc hcs hd2 ok2;obtain ⟨a3,s3,rfl,hc3,hs3,hz3,rfl⟩:=errorString_of_trod hi hrow hp he hft hfo hs hc hcs hd3 ok3;obtain ⟨a4,s4,rfl,hc4,hs4,hz4,rfl⟩:=errorString_of_trod hi hrow hp he hft hfo hs hc hcs hd4 ok4;obtain ⟨a5,s5,rfl,hc5,hs5,hz5,rfl⟩:=errorString_of_trod hi hrow hp he hft hfo hs hc hcs hd5 ok5;refine ⟨a1,a2,a3,a4,a5,⟨hv1,hv2,hv3,hv4,hv5⟩,⟨(hrows a1.block a1.off (by simp[MemPlace.row])).1,(hrows a2.block a2.off (by simp[MemPlace.row])).1,(hrows a3.block a3.off (by simp[MemPlace.row])).1,(hrows a4.block a4.off (by simp[MemPlace.row])).1,(hrows a5.block a5.off (by simp[MemPlace.row])).1⟩,?_⟩;have hm: ∀x y:Addr,x=y->MemPlace.cell x.block x.off=MemPlace.cell y.block y.off:=fun x y e=>by rw[e]
 simp[MemPlace.row]at hnd;simp only[zy,zr,zx,or_false,not_or,not_false_eq_true,List.nodup_nil,and_true];refine ⟨⟨?_,?_,?_,?_⟩,⟨?_,?_,?_⟩,⟨?_,?_⟩,?_⟩<;>(rintro rfl;simp at hnd)
theorem WJ{W:World}(h:laidMetH prog lP W): ∃ad,iV ad W:=by
 have h1:=DG Jv (ND h).1;unfold zI at h1;have e1:prog.globalNamed "loop.example/g00191/impl.errLong" =some 2:=kr;have e2:prog.globalNamed "loop.example/g00191/impl.errScheme" =some 3:=kr;have e3:prog.globalNamed "loop.example/g00191/impl.errUser" =some 4:=kr;have e4:prog.globalNamed "loop.example/g00191/impl.errHost" =some 1:=kr;have e5:prog.globalNamed "loop.example/g00191/impl.errPort" =some 5:=kr;obtain ⟨a1,a2,a3,a4,a5,⟨v1,v2,v3,v4,v5⟩,⟨b1,b2,b3,b4,b5⟩,hn⟩:=V5 (ti:=65) (ts:=9) h1 e1 kr e2 kr e3 kr e4 kr e5 kr underlying65 Ez underlying261 underlying280 rfl rfl underlying9 kr kr;have k1:=zc e1 v1 0;have k2:=zc e2 v2 0;have k3:=zc e3 v3 0;have k4:=zc e4 v4 0;have k5:=zc e5 v5 0;simp at k1 k2 k3 k4 k5;simp only[zy,zr,zx,or_false,not_or,not_false_eq_true,List.nodup_nil,and_true]at hn;obtain ⟨⟨n12,n13,n14,n15⟩,⟨n23,n24,n25⟩,⟨n34,n35⟩,n45⟩:=hn;refine ⟨fun c=>match c with|1=>a1|2=>a2|3=>a3|4=>a4|_=>a5,fun c h1 h5=> ?_⟩;have hc:c=1∨c=2∨c=3∨c=4∨c=5:=om
 rcases hc with rfl|rfl|rfl|rfl|rfl
 .refine ⟨k1,b1,fun d d1 d5 hd=> ?_⟩
  have hc:d=2∨d=3∨d=4∨d=5:=om
  rcases hc with rfl|rfl|rfl|rfl
  .exact Ne.symm n12
  .exact Ne.symm n13
  .exact Ne.symm n14
  exact Ne.symm n15
 .refine ⟨k2,b2,fun d d1 d5 hd=> ?_⟩
  have hc:d=1∨d=3∨d=4∨d=5:=om
  rcases hc with rfl|rfl|rfl|rfl
  .exact n12
  .exact Ne.symm n23
  .exact Ne.symm n24
  exact Ne.symm n25
 .refine ⟨k3,b3,fun d d1 d5 hd=> ?_⟩
  have hc:d=1∨d=2∨d=4∨d=5:=om
  rcases hc with rfl|rfl|rfl|rfl
  .exact n13
  .exact n23
  .exact Ne.symm n34
  exact Ne.symm n35
 .refine ⟨k4,b4,fun d d1 d5 hd=> ?_⟩
  have hc:d=1∨d=2∨d=3∨d=5:=om
  rcases hc with rfl|rfl|rfl|rfl
  .exact n14
  .exact n24
  .exact n34
  exact Ne.symm n45
 refine ⟨k5,b5,fun d d1 d5 hd=> ?_⟩;have hc:d=1∨d=2∨d=3∨d=4:=om
 rcases hc with rfl|rfl|rfl|rfl
 .exact n15
 .exact n25
 .exact n35
 exact n45
def zJ:DataW Unit->ByteArray
 | .iface _ (.ptr (.agg [.lit (.string l)]))=>⟨l.toArray⟩
 |_=>⟨#[]⟩
def eY:Array Obj:= #[.cells #[.string (zJ Rows.laid_loop_example_g00191_impl_errLong)] 280,.cells #[.string (zJ Rows.laid_loop_example_g00191_impl_errScheme)] 280,.cells #[.string (zJ Rows.laid_loop_example_g00191_impl_errUser)] 280,.cells #[.string (zJ Rows.laid_loop_example_g00191_impl_errHost)] 280,.cells #[.string (zJ Rows.laid_loop_example_g00191_impl_errPort)] 280]
def JD(b:Nat):Obj->Obj
 | .cells _ t frozen=> .cells #[.iface 261 (.pointer (some ⟨b,0,none⟩))] t frozen
 |o=>o
def sC(h:Array Obj):Array Obj:=(((((Jr h).modify 2 (JD 19)).modify 3 (JD 20)).modify 4 (JD 21)).modify 1 (JD 22)).modify 5 (JD 23)
theorem M0(os:Os)(args:Array Value):laidMetH prog lP (({World.holding prog os ⟨eY,#[],[]⟩with heap:=sC (World.holding prog os ⟨eY,#[],[]⟩).heap}:World).forCall (fun _ _=>0) ⟨#[],args,[]⟩).memory:=
 laidMetH_of_parts (LaidIn.of_run (l:=qX) [10,11,7,13,6,9,2,19,3,20,4,21,1,22,5,23,12] 8 kr kr kr kr).met kr
end
section
open Go.RowKit
set_option linter.unusedVariables false
def errI(ad:Nat->Addr)(c:Int):Value:=if c=0 then .nilIface else .iface 261 (.pointer (some (ad c.toNat)))
def wO(ad:Nat->Addr)(S:ByteArray)(c:Int):Value:=if c=0 then .nilIface else .iface 138 (.agg #[.string S,.iface 261 (.pointer (some (ad c.toNat)))])
theorem Jw{ad:Nat->Addr}{c:Int}(h:c≠0):errI ad c=.iface 261 (.pointer (some (ad c.toNat))):=if_neg h
theorem uL{ad:Nat->Addr}{S:ByteArray}{c:Int}(h:c≠0):wO ad S c=.iface 138 (.agg #[.string S,.iface 261 (.pointer (some (ad c.toNat)))]):=if_neg h
theorem iV.c1{ad:Nat->Addr}{w:World}(h:iV ad w):w.cell? ⟨2,0,none⟩=some (.iface 261 (.pointer (some (ad 1)))):=(h 1 de de).1
theorem iV.c2{ad:Nat->Addr}{w:World}(h:iV ad w):w.cell? ⟨3,0,none⟩=some (.iface 261 (.pointer (some (ad 2)))):=(h 2 de de).1
theorem iV.c3{ad:Nat->Addr}{w:World}(h:iV ad w):w.cell? ⟨4,0,none⟩=some (.iface 261 (.pointer (some (ad 3)))):=(h 3 de de).1
theorem iV.c4{ad:Nat->Addr}{w:World}(h:iV ad w):w.cell? ⟨1,0,none⟩=some (.iface 261 (.pointer (some (ad 4)))):=(h 4 de de).1
theorem iV.c5{ad:Nat->Addr}{w:World}(h:iV ad w):w.cell? ⟨5,0,none⟩=some (.iface 261 (.pointer (some (ad 5)))):=(h 5 de de).1
theorem WK(ad:Nat->Addr)(c:Int)(w:World)(hS:iV ad w)(h0:0<=c)(h5:c<=5):Calls prog 173 #[.int .i64 c] w fun e w'=>e=.returned (errI ad c)/\w=w':=by
 have k1:=hS.c1;have k2:=hS.c2;have k3:=hS.c3;have k4:=hS.c4;have k5:=hS.c5;clear hS;have hc:c=0∨c=1∨c=2∨c=3∨c=4∨c=5:=om
 rcases hc with rfl|rfl|rfl|rfl|rfl|rfl
 .go_enter func173,ntmps173
  go_wp2;go_ret;exact ⟨rfl,rfl⟩
 .go_enter func173,ntmps173
  go_wp2;go_ret;exact ⟨rfl,rfl⟩
 .go_enter func173,ntmps173
  go_wp2;go_ret;exact ⟨rfl,rfl⟩
 .go_enter func173,ntmps173
  go_wp2;go_ret;exact ⟨rfl,rfl⟩
 .go_enter func173,ntmps173
  go_wp2;go_ret;exact ⟨rfl,rfl⟩
 go_enter func173,ntmps173;go_wp2;go_ret;exact ⟨rfl,rfl⟩
theorem WL(ad:Nat->Addr)(S:ByteArray)(c:Int)(w:World)(hS:iV ad w)(h0:0<=c)(h5:c<=5):Calls prog 64 #[wO ad S c] w fun e w'=>e=.returned (.int .i64 c)/\Below w.heap.size w w':=by
 have H0:Hid (iV ad w):=hS;have L0:Below w.heap.size w w:=Below.refl _ _;clear hS;have hc:c=0∨c=1∨c=2∨c=3∨c=4∨c=5:=om
 rcases hc with rfl|rfl|rfl|rfl|rfl|rfl
 .have k1:=H0.out.c1
  have k2:=H0.out.c2;have k3:=H0.out.c3;have k4:=H0.out.c4;have k5:=H0.out.c5;show Calls prog 64 #[.nilIface] w _;go_enter func64,ntmps64;go_wp2_with (go_at_call 124;refine j5 (Js _ _) ?_);go_ret;exact ⟨rfl,L0⟩
 .rw[uL de]
  go_enter func64,ntmps64;have k1:=H0.out.c1;go_wp2_with fail;refine j6 (jT H0.out S (c:=1) (d:=1) de de de de) fun w1 b1=>?_
  have H1:Hid (iV ad w1):=H0.out.later b1;have L1:Below w.heap.size w w1:=L0.trans (b1.mono L0.size);clear b1 k1 H0 L0;go_wp2;go_ret;exact ⟨rfl,L1⟩
 .rw[uL de]
  go_enter func64,ntmps64;have k1:=H0.out.c1;go_wp2_with fail;refine j6 (jT H0.out S (c:=2) (d:=1) de de de de) fun w1 b1=>?_
  have H1:Hid (iV ad w1):=H0.out.later b1;have L1:Below w.heap.size w w1:=L0.trans (b1.mono L0.size);clear b1 k1 H0 L0;have k2:=H1.out.c2;go_wp2_with fail;refine j6 (jT H1.out S (c:=2) (d:=2) de de de de) fun w2 b2=>?_
  have H2:Hid (iV ad w2):=H1.out.later b2;have L2:Below w.heap.size w w2:=L1.trans (b2.mono L1.size);clear b2 k2 H1 L1;go_wp2;go_ret;exact ⟨rfl,L2⟩
 .rw[uL de]
  go_enter func64,ntmps64;have k1:=H0.out.c1;go_wp2_with fail;refine j6 (jT H0.out S (c:=3) (d:=1) de de de de) fun w1 b1=>?_
  have H1:Hid (iV ad w1):=H0.out.later b1;have L1:Below w.heap.size w w1:=L0.trans (b1.mono L0.size);clear b1 k1 H0 L0;have k2:=H1.out.c2;go_wp2_with fail;refine j6 (jT H1.out S (c:=3) (d:=2) de de de de) fun w2 b2=>?_
  have H2:Hid (iV ad w2):=H1.out.later b2;have L2:Below w.heap.size w w2:=L1.trans (b2.mono L1.size);clear b2 k2 H1 L1;have k3:=H2.out.c3;go_wp2_with fail;refine j6 (jT H2.out S (c:=3) (d:=3) de de de de) fun w3 b3=>?_
  have H3:Hid (iV ad w3):=H2.out.later b3;have L3:Below w.heap.size w w3:=L2.trans (b3.mono L2.size);clear b3 k3 H2 L2;go_wp2;go_ret;exact ⟨rfl,L3⟩
 .rw[uL de]
  go_enter func64,ntmps64;have k1:=H0.out.c1;go_wp2_with fail;refine j6 (jT H0.out S (c:=4) (d:=1) de de de de) fun w1 b1=>?_
  have H1:Hid (iV ad w1):=H0.out.later b1;have L1:Below w.heap.size w w1:=L0.trans (b1.mono L0.size);clear b1 k1 H0 L0;have k2:=H1.out.c2;go_wp2_with fail;refine j6 (jT H1.out S (c:=4) (d:=2) de de de de) fun w2 b2=>?_
  have H2:Hid (iV ad w2):=H1.out.later b2;have L2:Below w.heap.size w w2:=L1.trans (b2.mono L1.size);clear b2 k2 H1 L1;have k3:=H2.out.c3;go_wp2_with fail;refine j6 (jT H2.out S (c:=4) (d:=3) de de de de) fun w3 b3=>?_
  have H3:Hid (iV ad w3):=H2.out.later b3;have L3:Below w.heap.size w w3:=L2.trans (b3.mono L2.size);clear b3 k3 H2 L2;have k4:=H3.out.c4;go_wp2_with fail;refine j6 (jT H3.out S (c:=4) (d:=4) de de de de) fun w4 b4=>?_
  have H4:Hid (iV ad w4):=H3.out.later b4;have L4:Below w.heap.size w w4:=L3.trans (b4.mono L3.size);clear b4 k4 H3 L3;go_wp2;go_ret;exact ⟨rfl,L4⟩
 rw[uL de];go_enter func64,ntmps64;have k1:=H0.out.c1;go_wp2_with fail;refine j6 (jT H0.out S (c:=5) (d:=1) de de de de) fun w1 b1=>?_
 have H1:Hid (iV ad w1):=H0.out.later b1;have L1:Below w.heap.size w w1:=L0.trans (b1.mono L0.size);clear b1 k1 H0 L0;have k2:=H1.out.c2;go_wp2_with fail;refine j6 (jT H1.out S (c:=5) (d:=2) de de de de) fun w2 b2=>?_
 have H2:Hid (iV ad w2):=H1.out.later b2;have L2:Below w.heap.size w w2:=L1.trans (b2.mono L1.size);clear b2 k2 H1 L1;have k3:=H2.out.c3;go_wp2_with fail;refine j6 (jT H2.out S (c:=5) (d:=3) de de de de) fun w3 b3=>?_
 have H3:Hid (iV ad w3):=H2.out.later b3;have L3:Below w.heap.size w w3:=L2.trans (b3.mono L2.size);clear b3 k3 H2 L2;have k4:=H3.out.c4;go_wp2_with fail;refine j6 (jT H3.out S (c:=5) (d:=4) de de de de) fun w4 b4=>?_
 have H4:Hid (iV ad w4):=H3.out.later b4;have L4:Below w.heap.size w w4:=L3.trans (b4.mono L3.size);clear b4 k4 H3 L3;have k5:=H4.out.c5;go_wp2_with fail;refine j6 (jT H4.out S (c:=5) (d:=5) de de de de) fun w5 b5=>?_
 have H5:Hid (iV ad w5):=H4.out.later b5;have L5:Below w.heap.size w w5:=L4.trans (b5.mono L4.size);clear b5 k5 H4 L4;go_wp2;go_ret;exact ⟨rfl,L5⟩
end
section
open Go.RowKit
def upB(c:UInt8)(l:List UInt8):List UInt8:=l.takeWhile fun x=>x !=c
def dL(c:UInt8)(l:List UInt8):List UInt8:=(l.dropWhile fun x=>x !=c).drop 1
theorem mJ(c:UInt8): ∀l:List UInt8,Lib.index l [c]=if l.contains c then ((upB c l).length:Int)else-1
 |[]=>rfl
 |b::l=>by
  have ih:=mJ c l;unfold upB at ih⊢;unfold Lib.index
  by_cases h:b=c
  .subst h
   simp
  have h1:([c].isPrefixOf (b::l))=false:=by
   simp[List.isPrefixOf,Ne.symm h]
  have h2:(b::l).contains c=l.contains c:=by
   simp[Ne.symm h]
  have h3:(b !=c)=true:=bne_iff_ne.2 h;rw[h1,h2,ih,ze,h3]
  cases hc:l.contains c
  .simp
  have h4:(((List.takeWhile (fun x=>x !=c) l).length:Int)== -1)=false:=beq_eq_false_iff_ne.2 om;simp[h4]
theorem BA(c:UInt8)(l:List UInt8):(l.contains c=true->l=upB c l++c::dL c l)/\(l.contains c=false->upB c l=l/\dL c l=[])/\c∉upB c l:=by
 unfold upB dL
 induction l with
 |nil=>simp
 |cons b l ih=>
  by_cases h:b=c
  .subst h;simp
  have h3:(b !=c)=true:=bne_iff_ne.2 h;have h2:(b::l).contains c=l.contains c:=by simp[Ne.symm h]
  rw[h2,ze,zm,h3];refine ⟨fun hc=> ?_,fun hc=> ?_,?_⟩
  .have:=ih.1 hc
   simp only[if_true,List.cons_append,List.cons.injEq,true_and];exact this
  .have:=ih.2.1 hc
   simp only[if_true,this.1,this.2,and_self]
  simp only[if_true,zr,not_or];exact ⟨Ne.symm h,ih.2.2⟩
end
section
open Go.RowKit
set_option linter.unusedVariables false
theorem pR(c:UInt8): ∀(n:Nat) (l:List UInt8),l.length<n->Lib.countFrom [c] n l=l.count c
 |0,l,h=>by omega
 |n+1,l,h=>by
  have hu:=BA c l;rw[Lib.countFrom,mJ]
  cases hc:l.contains c with
  |false=>
   have:l.count c=0:=zu.2 (fun hm=>by rw[zl.2 hm]at hc;cases hc)
   rw[this];rfl
  |true=>
   have e:=hu.1 hc;have h0:(((upB c l).length:Int)== -1)=false:=beq_eq_false_iff_ne.2 om;simp only[if_true,h0];have e1:((upB c l).length:Int).toNat+[c].length=(upB c l++[c]).length:=by simp
   have e2:l.drop ((upB c l).length+1)=dL c l:=by
    conv=>lhs;arg 2;rw[e]
    rw[show (upB c l).length+1=(upB c l++[c]).length by simp,show upB c l++c::dL c l=(upB c l++[c])++dL c l by simp,zk];rfl
   have hl:(dL c l).length<n:=by
    have:=congrArg List.length e
    rw[zo,zh]at this;omega
   have e3:((upB c l).length:Int).toNat+[c].length=(upB c l).length+1:=by simp
   rw[e3,e2,pR c n _ hl]
   conv=>rhs;rw[e]
   rw[zw,zq,zu.2 hu.2.2];simp only[Bool.false_eq_true,if_false];omega
theorem ZI{a b:UInt8}{l:List UInt8}(h:a∉l):(l.map fun x=>if x=a then b else x)=l:=by
 conv=>rhs;rw[<-List.map_id l]
 refine List.map_congr_left fun x hx=> ?_
 by_cases e:x=a
 .exact absurd (e▸hx) h
 rw[if_neg e];rfl
theorem zK(a b:UInt8): ∀(k:Nat) (l:List UInt8),l.count a<=k->Lib.replaceK [a] [b] k l=l.map fun x=>if x=a then b else x
 |0,l,h=>by
  rw[Lib.replaceK,ZI (fun hm=>by have:=List.count_pos_iff.2 hm;omega)]
 |k+1,l,h=>by
  have hu:=BA a l
  cases hc:l.contains a with
  |false=>
   rw[Lib.replaceK,mJ,hc,ZI (fun hm=>by rw[zl.2 hm]at hc;cases hc)];rfl
  |true=>
   have e:=hu.1 hc;have hi:Lib.index l [a]=((upB a l).length:Int):=by rw[mJ,hc];rfl
   rw[Lib.replaceK_hit [a] [b] k l _ hi];have e2:l.drop ((upB a l).length+[a].length)=dL a l:=by
    conv=>lhs;arg 2;rw[e]
    rw[show (upB a l).length+[a].length=(upB a l++[a]).length by simp,show upB a l++a::dL a l=(upB a l++[a])++dL a l by simp,zk];rfl
   have e3:l.take (upB a l).length=upB a l:=by
    conv=>lhs;arg 2;rw[e]
    rw[zz];rfl
   have hk:(dL a l).count a<=k:=by
    have:=congrArg (List.count a) e
    rw[zw,zq]at this;omega
   rw[e2,e3,zK a b k _ hk]
   conv=>rhs;rw[e]
   rw[List.map_append,List.map_cons,if_pos rfl,ZI hu.2.2];simp
theorem WM{a b:UInt8}(h:a≠b)(l:List UInt8):Lib.replaceAll l [a] [b]=l.map fun x=>if x=a then b else x:=by
 unfold Lib.replaceAll Lib.replace Lib.replaceNum Lib.count;have h1:(([a]:List UInt8)==[b])=false:=by simp[h]
 rw[h1,if_neg de,if_pos (.inl de),pR a _ l om,zK a b _ l (zp _)]
theorem NE(chars:List UInt8)(p:UInt8->Bool)(hp: ∀c,chars.contains c= !p c): ∀l:List UInt8,Lib.indexAny l chars=if l.all p then-1 else ((l.takeWhile p).length:Int)
 |[]=>rfl
 |b::l=>by
  have ih:=NE chars p hp l;unfold Lib.indexAny;rw[hp b,List.all_cons,ze]
  cases hb:p b with
  |false=>rfl
  |true=>
   rw[ih]
   cases hl:l.all p
   .have h4:(((l.takeWhile p).length:Int)== -1)=false:=beq_eq_false_iff_ne.2 om
    simp[h4]
   simp
theorem ZJ(p:UInt8->Bool)(l:List UInt8):l.take (l.takeWhile p).length=l.takeWhile p/\l.drop (l.takeWhile p).length=l.dropWhile p:=by
 have e:=List.takeWhile_append_dropWhile (p:=p) (l:=l);constructor
 .conv=>lhs;arg 2;rw[<-e]
  rw[zz];rfl
 conv=>lhs;arg 2;rw[<-e]
 rw[zk];rfl
theorem NF(p:UInt8->Bool): ∀l:List UInt8,l.all p=true->l.takeWhile p=l/\l.dropWhile p=[]
 |[],_=>⟨rfl,rfl⟩
 |b::l,h=>by
  rw[List.all_cons,Bool.and_eq_true]at h;have ih:=NF p l h.2;rw[ze,zm,h.1];simp[ih.1,ih.2]
theorem zL(p q:UInt8->Bool)(h: ∀c,q c=false->p c=true): ∀l:List UInt8,(l.filter p).takeWhile q=(l.takeWhile q).filter p
 |[]=>rfl
 |b::l=>by
  have ih:=zL p q h l;rw[List.filter_cons,ze]
  cases hq:q b with
  |false=>rw[h b hq];simp[hq]
  |true=>
   cases hp:p b with
   |false=>simp[hp,ih]
   |true=>simp[hp,hq,ih]
def oR(c:UInt8):Bool:=c !=9&&c !=10&&c !=13
theorem V6(l:List UInt8):cK l=upB 35 ((Lib.trimS l lN).filter oR):=by
 unfold cK upB;rw[zL oR (fun x=>x !=35) (fun c h=>by
  have:c=35:=by simpa using h
  subst this
  decide)]
 rfl
def vJ(l:List UInt8):Int:=if aE l=[104,116,116,112]then 1 else if aE l=[104,116,116,112,115]then 2 else 0
theorem Ll(c:UInt8)(h:c≠58):dT c≠58:=by
 have key: ∀n:Nat,n<256->n≠58->dT (UInt8.ofNat n)≠58:=by decide+kernel
 have h1:=key c.toNat c.toNat_lt (fun e=>h (z0.1 e));simpa using h1
theorem BB:dT 58=58:=de
theorem Fa{nm be:List UInt8}(hn:58∉nm):(((aE (nm++58::be)).take 5=oG)↔aE nm=[104,116,116,112])/\(((aE (nm++58::be)).take 6=jS)↔aE nm=[104,116,116,112,115]):=by
 have hm: ∀c∈nm,dT c≠58:=fun c hc=>Ll c (fun e=>hn (e▸hc))
 unfold aE oG jS
 match nm,hm with
 |[],_=>simp[BB]
 |[a],hm=>simp[BB]
 |[a,b],hm=>simp[BB]
 |[a,b,c],hm=>simp[BB]
 |[a,b,c,d],hm=>
  have:=hm d j2
  simp[BB]
 |[a,b,c,d,e],hm=>
  have:=hm e j2
  simp[BB,this]
 |a::b::c::d::e::f::r,hm=>
  have h1:=hm e j2;have h2:=hm f j2;simp[h1,h2]
theorem WN(be:List UInt8):(2<=be.length-(be.dropWhile slB).length)↔(1<be.length/\slB (be.getD 0 0)=true/\slB (be.getD 1 0)=true):=by
 have key: ∀l:List UInt8,(l.dropWhile slB).length<=l.length:=fun l=>(List.dropWhile_suffix slB).length_le
 match be with
 |[]=>simp
 |[a]=>
  have h1:([a].dropWhile slB).length<=1:=key [a];simp;omega
 |a::b::r=>
  have hr:=key r
  cases ha:slB a with
  |false=>simp[ha]
  |true=>
   cases hb:slB b with
   |false=>simp[ha,hb]
   |true=>simp[ha,hb];omega
theorem ZK(t:List UInt8):dS t=if vJ (upB 58 t)=0∨(dL 58 t).length-((dL 58 t).dropWhile slB).length<2 then none else some (vJ (upB 58 t),dL 58 t):=by
 have hu:=BA 58 t
 cases hc:t.contains 58 with
 |false=>
  rw[(hu.2.1 hc).2,if_pos (.inr j2)];have hn: ∀k,(58:UInt8)∉(aE t).take k:=fun k hm=>by
   have h1:=List.mem_of_mem_take hm;unfold aE at h1;obtain ⟨c,h2,h3⟩:=List.mem_map.1 h1
   by_cases h4:c=58
   .subst h4;rw[zl.2 h2]at hc;cases hc
   exact Ll c h4 h3
  unfold dS;rw[if_neg (fun h=>hn 5 (by rw[h.2.1];decide)),if_neg (fun h=>hn 6 (by rw[h.2.1];decide))]
 |true=>
  have e:=hu.1 hc;obtain ⟨h5,h6⟩:=Fa (be:=dL 58 t) hu.2.2;rw[<-e]at h5 h6;have hw:=WN (dL 58 t);generalize upB 58 t=nm at*;generalize dL 58 t=be at*;unfold dS vJ;have hlen:(aE nm).length=nm.length:=by simp[aE]
  by_cases g5:aE nm=[104,116,116,112]
  .have hn4:nm.length=4:=by rw[<-hlen,g5];rfl
   have ht:t.length=5+be.length:=by rw[e,zo,zh,hn4];omega
   have hd:t.drop 5=be:=by rw[e,show 5=(nm++[58]).length by simp[hn4],show nm++58::be=(nm++[58])++be by simp,zk];rfl
   have hg: ∀i,t.getD (5+i) 0=be.getD i 0:=fun i=>by
    rw[<-hd,zd,zd,zn]
   have h0:=hg 0;have h1:=hg 1;simp only[Nat.add_zero]at h0 h1;have hne: ¬(aE t).take 6=jS:=fun h=>by
    have:=h6.1 h
    rw[g5]at this
    cases this
   rw[if_pos g5,h0,show t.getD 6 0=be.getD 1 0 from h1,ht,hd]
   by_cases hp:1<be.length/\slB (be.getD 0 0)=true/\slB (be.getD 1 0)=true
   .rw[if_pos ⟨om,h5.2 g5,hp.2⟩,if_neg (by have:=hw.2 hp;omega)]
   rw[if_neg (fun h=>hp ⟨om,h.2.2⟩),if_neg (fun h=>hne h.2.1),if_pos (.inr (by have:=mt hw.1 hp;omega))]
  rw[if_neg g5,if_neg (fun h=>g5 (h5.1 h.2.1))]
  by_cases g6:aE nm=[104,116,116,112,115]
  .have hn4:nm.length=5:=by rw[<-hlen,g6];rfl
   have ht:t.length=6+be.length:=by rw[e,zo,zh,hn4];omega
   have hd:t.drop 6=be:=by rw[e,show 6=(nm++[58]).length by simp[hn4],show nm++58::be=(nm++[58])++be by simp,zk];rfl
   have hg: ∀i,t.getD (6+i) 0=be.getD i 0:=fun i=>by
    rw[<-hd,zd,zd,zn]
   have h0:=hg 0;have h1:=hg 1;simp only[Nat.add_zero]at h0 h1;rw[if_pos g6,h0,show t.getD 7 0=be.getD 1 0 from h1,ht,hd]
   by_cases hp:1<be.length/\slB (be.getD 0 0)=true/\slB (be.getD 1 0)=true
   .rw[if_pos ⟨om,h6.2 g6,hp.2⟩,if_neg (by have:=hw.2 hp;omega)]
   rw[if_neg (fun h=>hp ⟨om,h.2.2⟩),if_pos (.inr (by have:=mt hw.1 hp;omega))]
  rw[if_neg g6,if_neg (fun h=>g6 (h6.1 h.2.1)),if_pos (.inl rfl)]
theorem JE(A:ByteArray): ∀k,k<=A.size->(Lib.lastIdx A 93 k= -1/\gD A.data.toList k=0)∨ ∃i,i<k/\Lib.lastIdx A 93 k=(i:Int)/\gD A.data.toList k=i/\A.data.toList[i]? =some 93
 |0,_=> .inl ⟨rfl,rfl⟩
 |k+1,h=>by
  have ih:=JE A k om;have hk:k<A.data.size:=h;have e1:A.data[k]! =A.data.toList.getD k 0:=by
   rw[getElem!_pos A.data k hk,zd,zj (by simpa using hk)];simp
  have e2:A.data.toList[k]? =some (A.data.toList.getD k 0):=by
   rw[zd,zj (by simpa using hk)];rfl
  unfold Lib.lastIdx gD;rw[e1]
  by_cases h9:A.data.toList.getD k 0=93
  .rw[if_pos h9,if_pos (by rw[h9];rfl)]
   exact .inr ⟨k,om,rfl,rfl,by rw[e2,h9]⟩
  rw[if_neg h9,if_neg (fun h=>h9 (z0.1 (by show _=93;omega)))]
  rcases ih with h|⟨i,h1,h2⟩
  .exact .inl h
  exact .inr ⟨i,om,h2⟩
def frB(A:ByteArray):Nat:=(Lib.lastIndexByte A 93+1).toNat
theorem Lm(A:ByteArray):frB A<=A.size/\Lib.lastIndexByte A 93+1=(frB A:Int):=by
 unfold frB Lib.lastIndexByte
 rcases JE A A.size (zp _)with ⟨h1,_⟩|⟨i,h1,h2,_⟩
 .rw[h1];exact ⟨by simp,de⟩
 rw[h2];exact ⟨om,om⟩
theorem My(A:ByteArray):kV A.data.toList=((A.data.toList.drop (frB A)).findIdx? fun c=>c==58).map fun k=>k+frB A:=by
 have hz:A.data.toList.length=A.size:=by simp
 unfold kV;rw[hz]
 rcases JE A A.size (zp _)with ⟨h1,h2⟩|⟨i,h1,h2,h3,h4⟩
 .have:frB A=0:=by unfold frB Lib.lastIndexByte;rw[h1];rfl
  rw[this,h2]
 have hf:frB A=i+1:=by unfold frB Lib.lastIndexByte;rw[h2];omega
 have hd:A.data.toList.drop i=93::A.data.toList.drop (i+1):=by
  have hi:i<A.data.toList.length:=om;rw[List.drop_eq_getElem_cons hi];rw[zj hi]at h4;injection h4 with h4;rw[h4]
 rw[h3,hf,hd,zv];have h9:((93:UInt8)==58)=false:=de;simp only[h9]
 cases (A.data.toList.drop (i+1)).findIdx? fun c=>c==58 with
 |none=>rfl
 |some j=>show some (j+1+i)=some (j+(i+1));congr 1;omega
theorem M1: ∀l:List UInt8,(l.findIdx? (fun c=>c==58)=none/\upB 58 l=l/\dL 58 l=[])∨ ∃j,l.findIdx? (fun c=>c==58)=some j/\upB 58 l=l.take j/\dL 58 l=l.drop (j+1)
 |[]=> .inl ⟨rfl,rfl,rfl⟩
 |b::l=>by
  have ih:=M1 l;unfold upB dL at ih⊢;rw[zv,ze,zm]
  by_cases h:b=58
  .subst h
   exact .inr ⟨0,by simp⟩
  have h1:(b==58)=false:=beq_eq_false_iff_ne.2 h;have h2:(b !=58)=true:=bne_iff_ne.2 h;rw[h1,h2]
  rcases ih with ⟨h3,h4,h5⟩|⟨j,h3,h4,h5⟩
  .rw[h3];exact .inl ⟨rfl,by simp[h4],by simpa using h5⟩
  rw[h3];exact .inr ⟨j+1,rfl,by simp[h4],by simpa using h5⟩
def hoB(A:ByteArray):List UInt8:=A.data.toList.take (frB A)++upB 58 (A.data.toList.drop (frB A))
def poB(A:ByteArray):List UInt8:=dL 58 (A.data.toList.drop (frB A))
theorem Jy{s:Int}(hs:s=1∨s=2)(A:ByteArray)(r:List UInt8):yI s A.data.toList r=if 1<=eP s (poB A)/\eP s (poB A)<=65535 then pC s (eP s (poB A)) (hoB A) r else (5,cP):=by
 unfold yI;rw[My A];unfold poB hoB
 rcases M1 (A.data.toList.drop (frB A))with ⟨h1,h2,h3⟩|⟨j,h1,h2,h3⟩
 .rw[h1,h2,h3,List.take_append_drop]
  have hd:1<=eP s []/\eP s []<=65535:=by rcases hs with rfl|rfl<;>decide
  rw[if_pos hd];rfl
 rw[h1,h2,h3];have e1:A.data.toList.take (frB A)++(A.data.toList.drop (frB A)).take j=A.data.toList.take (j+frB A):=by rw[Nat.add_comm j,List.take_add]
 have e2:(A.data.toList.drop (frB A)).drop (j+1)=A.data.toList.drop (j+frB A+1):=by rw[List.drop_drop];congr 1;omega
 rw[e1,e2];rfl
theorem WO{set:Int}(h:set=1∨set=2)(l:List UInt8)(hp:plL set l=l):okL set l=true:=by
 rw[<-hp]
 rcases h with rfl|rfl
 .exact RS 1 de l
 exact RS 2 de l
def ZL(a:ByteArray):Bool:=bZ a&&(decide (plB 1 a=a)&&decide (cD a=a))
def ZM(r:ByteArray)(q:Bool):Bool:=decide (plB 2 r=r)&&(q||decide (r.size=0))
theorem Fb(set:Int)(a:ByteArray):(plB set a=a)↔plL set (toL a)=toL a:=⟨fun h=>congrArg toL h,fun h=>bL h⟩
theorem Fc(u:UV):uOk u=(decide (bS u.s≠0)&&(hOk u.h&&(decide (1<=u.p/\u.p<=65535)&&(ZL u.a&&ZM u.r u.q)))):=by
 unfold uOk ZL ZM;have e1:decide (plB 1 u.a=u.a)=decide (plL 1 (toL u.a)=toL u.a):=decide_eq_decide.2 (Fb 1 u.a);have e2:decide (plB 2 u.r=u.r)=decide (plL 2 (toL u.r)=toL u.r):=decide_eq_decide.2 (Fb 2 u.r);have e3:decide (cD u.a=u.a)=decide (toL (cD u.a)=toL u.a):=decide_eq_decide.2 ⟨fun h=>congrArg toL h,fun h=>bL h⟩;rw[e1,e2,e3]
 by_cases h1:plL 1 (toL u.a)=toL u.a
 .by_cases h2:plL 2 (toL u.r)=toL u.r
  .rw[WO (.inl rfl) _ h1,WO (.inr rfl) _ h2,decide_eq_true h1,decide_eq_true h2]
   simp only[Bool.and_true,Bool.true_and];simp only[Bool.and_assoc]
   congr 1;congr 1;congr 1;congr 1
   rw[Bool.and_comm]
  rw[decide_eq_false h2];simp
 rw[decide_eq_false h1];simp
