/- LaidMarks, LaidUrl, AsciiWalk, RuneOk, PutWalk, PutRunesWalk, RunesPlain. -/
import Derived.Test.YtgcbaphbiaimoaaGreatDoorQP05
import Derived.OpenVars
import Derived.LaidHandle
import Derived.Lib.RuneBytes
import Derived.Deep.QuietTactic
import Derived.Lib.TrimUEq
import Derived.Lib.MapLaws
import Derived.Lib.ValidLaws
import Derived.Lib.RuneCount
set_option maxHeartbeats 400000
namespace Go.Proofs.YtgcbaphbiaimoaaGreatDoor
open Go.ChangeShapes Go.WideShapes Go.ChangeAt Go.RowKit Go.Lib
theorem zjTz:ownKnob Tryz.prog.godebug=none:=by kernel_rfl
theorem za7z:laidOutB Tryz.prog=true:=by kernel_rfl
def zb9z(f:Nat→Bool):DataW Unit:=.agg ((List.range 128).map fun i=> .lit (.bool (f i)))
theorem zlLz:(Rows.laid_loop_example_g00191_impl_plainMarks:DataW Unit)=zb9z vnz:=by kernel_rfl
theorem zn6z:(Rows.laid_loop_example_g00191_impl_keptMarks:DataW Unit)=zb9z zaxz:=by kernel_rfl
theorem zbGz{P:Program}{w:World}{name:String}{g:Nat}{t e:TypeId}{f:Nat→Bool}(hn:P.globalNamed name=some g)(hy:(P.globals[g]?).map (·.type)=some t)(ht:P.underlying t=some (.array 128 e))(he:P.underlying e=some .bool)(hce:P.cellsOf e=1)
  (h:VarReads P w name (zb9z f)): ∀c,c<128→w.cell? ⟨g,c,none⟩=some (.bool (f c)):=by
 intro c hc
 obtain ⟨g',t',cs,fuel,p,hg,hty,hvar,hd⟩:=h
 obtain rfl:=Option.some.inj (hn.symm.trans hg)
 obtain rfl:=Option.some.inj (hy.symm.trans hty)
 unfold zb9z at hd
 obtain ⟨fuel',d,q,hdi,hx⟩:=array_elem ht hd c hc
 simp only[List.getElem?_map,List.getElem?_range hc,Option.map_some,Option.some.injEq]at hdi
 subst hdi
 rw[hce]at hx
 obtain ⟨b,hb,hxx⟩:=DataW.trod_bool he hx
 have hfb:f c=b:=by simpa using congrArg Prod.fst hxx
 have e0:=congrArg (·[0]?) hb
 simp only[List.getElem?_take,List.getElem?_drop]at e0
 rw[World.var?_cell hg hvar c,←Array.getElem?_toList,hfb]
 simpa using e0
theorem zjUz{H:Type}{enc:TypeId×Value→H}{P:Program}{w:World}{sp:Nat→Bool}{n0 n1:String}{gs:List (DataW H)}{ps:List MemPlace}(h:DataW.TrodVars enc P w sp [n0,n1] gs ps): ∃g0 g1,gs=[g0,g1]:=by
 match gs,h with
 |[],h=>exact h.elim
 |[_],⟨_,_,_,_,_,_,_,_,_,_,h,_⟩=>exact h.elim
 |[a,b],_=>exact ⟨a,b,rfl⟩
 |_::_::_::_,⟨_,_,_,_,_,_,_,_,_,_,h,_⟩=>
  obtain ⟨_,_,_,_,_,_,_,_,_,_,h2,_⟩:=h
  exact h2.elim
def zjVz(f:Nat→Bool):Obj→Obj
 | .cells _ t frozen=> .cells ((List.range 128).map fun i=>Value.bool (f i)).toArray t frozen
 |o=>o
def zn7z(h:Array Obj):Array Obj:=(h.modify 6 (zjVz vnz)).modify 9 (zjVz zaxz)
def xVz:List (String×DataW Unit):=[("math/bits.deBruijn32tab",Rows.laid_math_bits_deBruijn32tab),("math/bits.deBruijn64tab",Rows.laid_math_bits_deBruijn64tab),("internal/strconv.uint64pow10",Rows.laid_internal_strconv_uint64pow10),("unicode/utf8.acceptRanges",Rows.laid_unicode_utf8_acceptRanges),("errors.errorType",Rows.laid_errors_errorType),("loop.example/g00191/impl.plainMarks",Rows.laid_loop_example_g00191_impl_plainMarks),("loop.example/g00191/impl.keptMarks",Rows.laid_loop_example_g00191_impl_keptMarks),("unicode/utf8.first",Rows.laid_unicode_utf8_first)]
def zaEz:List (String×DataW Unit):=[("math/bits.deBruijn32tab",Rows.laid_math_bits_deBruijn32tab),("math/bits.deBruijn64tab",Rows.laid_math_bits_deBruijn64tab),("internal/strconv.uint64pow10",Rows.laid_internal_strconv_uint64pow10),("unicode/utf8.acceptRanges",Rows.laid_unicode_utf8_acceptRanges),("loop.example/g00191/impl.plainMarks",Rows.laid_loop_example_g00191_impl_plainMarks),("loop.example/g00191/impl.keptMarks",Rows.laid_loop_example_g00191_impl_keptMarks),("unicode/utf8.first",Rows.laid_unicode_utf8_first)]
theorem zaFz{W:World}(h:laidMetH Tryz.prog xVz W):laidMet Tryz.prog zaEz W∧handlesMet Tryz.prog [("errors.errorType",Rows.laid_errors_errorType)] W:=h
theorem zm3z{W:World}(h:laidMetH Tryz.prog xVz W):Pow W:=by
 have hL:=(zaFz h).1
 unfold zaEz at hL
 rw[zpxz]at hL
 obtain ⟨g',t',cs,fuel,p,hg,hty,hvar,hd⟩:=Lib.laidMet.reads hL (.tail _ (.tail _ (.head _)))
 obtain rfl:=Option.some.inj ((show Tryz.prog.globalNamed "internal/strconv.uint64pow10" =some 7 by kernel_rfl).symm.trans hg)
 obtain rfl:=Option.some.inj ((show (Tryz.prog.globals[7]?).map (·.type)=some 219 by kernel_rfl).symm.trans hty)
 show Lib.TabIs _ _ _ _ _
 unfold Lib.TabIs
 rw[hvar,←Lib.cells_of_tab (P:=Tryz.prog) (t:=219) (e:=186) (n:=20) (k:=.u64) (by kernel_rfl) (by kernel_rfl) (by kernel_rfl) (by kernel_rfl) hd]
theorem zm4z{W:World}(h:laidMetH Tryz.prog xVz W):zJz W:=by
 have hL:=(zaFz h).1
 unfold zaEz at hL
 rw[zpEz]at hL
 obtain ⟨g',t',cs,fuel,p,hg,hty,hvar,hd⟩:=Lib.laidMet.reads hL (.tail _ (.head _))
 have hgg:Tryz.prog.globalNamed "math/bits.deBruijn64tab" =some 11:=by kernel_rfl
 obtain rfl:=Option.some.inj (hgg.symm.trans hg)
 obtain rfl:=Option.some.inj ((show (Tryz.prog.globals[11]?).map (·.type)=some 239 by kernel_rfl).symm.trans hty)
 have hT:Lib.TabIs Tryz.prog W "math/bits.deBruijn64tab" .u8 zpDz:=by
  unfold Lib.TabIs
  rw[hvar,←Lib.cells_of_tab (P:=Tryz.prog) (t:=239) (e:=5) (n:=64) (k:=.u8) (by kernel_rfl) (by kernel_rfl) (by kernel_rfl) (by kernel_rfl) hd]
 exact hT.cell hgg 15 (by decide)
theorem zjWz{W:World}(h:laidMetH Tryz.prog xVz W):Lib.Utf8Tabs 12 13 W:=by
 have hL:=(zaFz h).1
 unfold zaEz at hL
 rw[ztnz,zpez]at hL
 exact utf8Tabs_of_readsT (U8Types.of196 Tryz.lays196) ⟨by kernel_rfl,by kernel_rfl,by kernel_rfl,by kernel_rfl,by kernel_rfl,by kernel_rfl,by kernel_rfl⟩ (Lib.laidMet.reads hL (.tail _ (.tail _ (.tail _ (.tail _ (.tail _ (.tail _ (.head _)))))))) (Lib.laidMet.reads hL (.tail _ (.tail _ (.tail _ (.head _)))))
theorem zhsz{W:World}(h:laidMetH Tryz.prog xVz W):xLz W:=by
 have hL:=(zaFz h).1
 unfold zaEz at hL
 rw[zlLz,zn6z]at hL
 have h1:=zbGz (P:=Tryz.prog) (g:=6) (t:=204) (e:=4) (by kernel_rfl) (by kernel_rfl) (by kernel_rfl) (by kernel_rfl) (by kernel_rfl) (Lib.laidMet.reads hL (.tail _ (.tail _ (.tail _ (.tail _ (.head _))))))
 have h2:=zbGz (P:=Tryz.prog) (g:=9) (t:=204) (e:=4) (by kernel_rfl) (by kernel_rfl) (by kernel_rfl) (by kernel_rfl) (by kernel_rfl) (Lib.laidMet.reads hL (.tail _ (.tail _ (.tail _ (.tail _ (.tail _ (.head _)))))))
 exact fun c hc=>⟨h1 c hc,h2 c hc⟩
def ErrT(W:World):Prop:=W.cell? ⟨0,0,none⟩=some (.iface 159 (.agg #[.pointer (some ⟨14,65,none⟩)]))
theorem zpGz:(Tryz.prog.cutTypes.find? (·.1== "internal/reflectlite.rtype")).map (·.2)=some 159:=by kernel_rfl
theorem zpHz:((List.range 292).filter fun t=>Tryz.prog.rowNamed t [101,114,114,111,114])=[65]:=by kernel_rfl
theorem zn8z:Tryz.prog.types.size=292:=by kernel_rfl
theorem zjXz{W:World}(h:laidMetH Tryz.prog xVz W):ErrT W:=by
 obtain ⟨name,u,ty,e1,e2,e3,e4,e5⟩:=(zaFz h).2 _ (List.mem_singleton.2 rfl)
 have en:name=[101,114,114,111,114]:=(Option.some.inj e1).symm
 subst en
 obtain rfl:=Option.some.inj (zpGz.symm.trans e2)
 have hm:ty∈(List.range 292).filter fun t=>Tryz.prog.rowNamed t [101,114,114,111,114]:=List.mem_filter.2 ⟨List.mem_range.2 (by rw[←zn8z];exact e3),e4⟩
 rw[zpHz]at hm
 obtain rfl:=List.mem_singleton.1 hm
 have hh:typeHandle Tryz.prog 65=.pointer (some ⟨14,65,none⟩):=by kernel_rfl
 rw[hh]at e5
 have hg:Tryz.prog.globalNamed "errors.errorType" =some 0:=by kernel_rfl
 have h0:=World.var?_cell hg e5 0
 unfold ErrT
 simpa using h0
def za8z(h:Array Obj):Array Obj:=(zn7z (zpFz h)).modify 0 fun
 | .cells _ t frozen=> .cells #[.iface 159 (.agg #[.pointer (some ⟨14,65,none⟩)])] t frozen
 |o=>o
theorem zm5z(os:Os)(args:Array Value):laidMetH Tryz.prog xVz (({World.holding Tryz.prog os ⟨#[],#[],[]⟩with heap:=za8z (World.holding Tryz.prog os ⟨#[],#[],[]⟩).heap}:World).forCall (fun _ _=>0) ⟨#[],args,[]⟩).memory:=
 laidMetH_of_parts (LaidIn.of_run (l:=zaEz) [10,11,7,13,6,9,12] 8 (by kernel_rfl) (by kernel_rfl) (by kernel_rfl) (by kernel_rfl)).met (by kernel_rfl)
end Go.Proofs.YtgcbaphbiaimoaaGreatDoor
namespace Go.Proofs.YtgcbaphbiaimoaaGreatDoor
open Go.RowKit
def xjz(l:List UInt8):Bool:=l.all fun c=>decide (c.toNat<128)
theorem zfVz(s:ByteArray)(h: ∀j,(hj:j<s.size)→s[j].toNat<128):xjz s.data.toList=true:=by
 unfold xjz
 rw[List.all_eq_true]
 intro c hc
 obtain ⟨j,hj,rfl⟩:=List.getElem_of_mem hc
 exact decide_eq_true (h j (by simpa using hj))
theorem zhtz(s:ByteArray)(k:Nat)(hk:k<s.size)(h:128≤s[k].toNat):xjz s.data.toList=false:=by
 unfold xjz
 rw[List.all_eq_false]
 refine ⟨s[k],?_,by simpa using h⟩
 exact List.mem_iff_getElem.2 ⟨k,by simpa using hk,rfl⟩
theorem zn9z(s:ByteArray)(w:World)(hs:s.size≤maxLen):
  Calls Tryz.prog 187 #[.string s] w fun e w'=>e=.returned (.bool (xjz s.data.toList))∧w=w':=by
 unfold maxLen at hs
 go_enter Tryz.func187,Tryz.ntmps187
 go_wp2
 go_loop[3] (fun i=> ∃k:Nat,k≤s.size∧i=.int .i64 k∧ ∀j,(hj:j<s.size)→j<k→s[j].toNat<128) (fun i=>s.size-(intOf i).toNat)
 case atStart=>exact ⟨0,Nat.zero_le _,rfl,fun j _ h=>by omega⟩
 obtain ⟨k,hk,rfl,hall⟩:=hrel
 have HA:Hid (∀j,(hj:j<s.size)→j<k→s[j].toNat<128):=hall
 clear hall
 by_cases hlt:k<s.size
 ·by_cases hb:s[k].toNat<128
  ·have hb':(s[k].toNat:Int)≤127:=by omega
   go_wp2
   go_round
   case rel=>
    refine ⟨k+1,by omega,by go_num,fun j hj h=> ?_⟩
    by_cases e:j=k
    ·subst e;omega
    exact HA.out j hj (by omega)
   case measure=>simp[intOf];omega
  have hb':127<(s[k].toNat:Int):=by omega
  go_wp2
  go_ret
  exact ⟨zgz (zhtz s k hlt (by omega)).symm,rfl⟩
 go_wp2
 go_ret
 exact ⟨zgz (zfVz s fun j hj=>HA.out j hj (by omega)).symm,rfl⟩
theorem zoaz(s:ByteArray)(w:World)(hs:s.size≤maxLen):
  Calls Tryz.prog 287 #[.string s] w fun e w'=>e=.returned (.bool (xjz s.data.toList))∧w=w':=by
 unfold maxLen at hs
 go_enter Tryz.func287,Tryz.ntmps287
 go_wp2
 go_loop[6] (fun i=> ∃k:Nat,k≤s.size∧i=.int .i64 k∧ ∀j,(hj:j<s.size)→j<k→s[j].toNat<128) (fun i=>s.size-(intOf i).toNat)
 case atStart=>exact ⟨0,Nat.zero_le _,rfl,fun j _ h=>by omega⟩
 obtain ⟨k,hk,rfl,hall⟩:=hrel
 have HA:Hid (∀j,(hj:j<s.size)→j<k→s[j].toNat<128):=hall
 clear hall
 by_cases hlt:k<s.size
 ·by_cases hb:s[k].toNat<128
  ·have hb': ¬128≤(s[k].toNat:Int):=by omega
   clear hb
   go_wp2
   go_round
   case rel=>
    refine ⟨k+1,by omega,by go_num,fun j hj h=> ?_⟩
    by_cases e:j=k
    ·subst e;omega
    exact HA.out j hj (by omega)
   case measure=>simp[intOf];omega
  have hb':128≤(s[k].toNat:Int):=by omega
  go_wp2
  go_ret
  exact ⟨zgz (zhtz s k hlt (by omega)).symm,rfl⟩
 go_wp2
 go_ret
 exact ⟨zgz (zfVz s fun j hj=>HA.out j hj (by omega)).symm,rfl⟩
def ytz(r:Int):Prop:=0≤r∧r≤1114111∧(r<55296∨57343<r)
theorem yFz(r:Int)(w:World)(h:ytz r):
  Calls Tryz.prog 226 #[.int .i64 r] w fun e w'=>e=.returned (.bool true)∧w=w':=by
 obtain ⟨h0,h1,h2⟩:=h
 have H2:Hid (r<55296∨57343<r):=h2
 clear h2
 go_enter Tryz.func226,Tryz.ntmps226
 go_wp2_with fail
 refine (zfz r 0 1114111 _ h0 h1).mono ?_
 rintro e w' ⟨rfl,rfl⟩
 go_wp2_with fail
 refine (zlz r 55296 57343 _ H2.out).mono ?_
 rintro e w' ⟨rfl,rfl⟩
 go_wp2
 go_ret
 exact ⟨rfl,rfl⟩
theorem jfz(r:Int)(w:World)(h: ¬ytz r):
  Calls Tryz.prog 226 #[.int .i64 r] w fun e w'=>e=.returned (.bool false)∧w=w':=by
 unfold ytz at h
 by_cases a:0≤r∧r≤1114111
 ·obtain ⟨h0,h1⟩:=a
  have h2:55296≤r∧r≤57343:=by omega
  clear h
  go_enter Tryz.func226,Tryz.ntmps226
  go_wp2_with fail
  refine (zfz r 0 1114111 _ h0 h1).mono ?_
  rintro e w' ⟨rfl,rfl⟩
  go_wp2_with fail
  refine (zfz r 55296 57343 _ h2.1 h2.2).mono ?_
  rintro e w' ⟨rfl,rfl⟩
  go_wp2
  go_ret
  exact ⟨rfl,rfl⟩
 have H:Hid (r<0∨1114111<r):=by show _∨_;omega
 clear h a
 go_enter Tryz.func226,Tryz.ntmps226
 go_wp2_with fail
 refine (zlz r 0 1114111 _ H.out).mono ?_
 rintro e w' ⟨rfl,rfl⟩
 go_wp2
 go_ret
 exact ⟨rfl,rfl⟩

def zejz(l:List Int):List UInt8:=l.flatMap Lib.encodeRune
theorem zjYz(l:List Int)(r:Int):zejz (l++[r])=zejz l++Lib.encodeRune r:=by simp[zejz]
def zdmz(l:List Int):Prop:= ∀r∈l,ytz r
end Go.Proofs.YtgcbaphbiaimoaaGreatDoor
namespace Go.Proofs.YtgcbaphbiaimoaaGreatDoor
abbrev okAt(s:ByteArray)(p:Nat):Prop:= ¬((Utf8.decode s p).1=65533∧(Utf8.decode s p).2=1)
def zNz(s:ByteArray)(p:Nat):Int×Int:=if okAt s p then ((Utf8.decode s p).1,(Utf8.decode s p).2)else (0,0)
def bt(s:ByteArray)(p:Nat):Nat:=(s.get! p).toNat
theorem zcrz(s:ByteArray)(p:Nat)(h:p<s.size):bt s p=s[p].toNat:=by
 unfold bt
 have:=get_at s p h
 simp only[Nat.add_zero]at this
 rw[this]
theorem zcsz(s:ByteArray)(p:Nat):bt s p<256:=(s.get! p).toNat_lt
theorem zcaz{s:ByteArray}{p c n:Nat}(h:Utf8.decode s p=(c,n))(h': ¬(c=65533∧n=1)):zNz s p=((c:Int),(n:Int)):=by
 unfold zNz
 rw[if_pos (show okAt s p by unfold okAt;rw[h];exact h'),h]
theorem vHz{s:ByteArray}{p:Nat}(h:Utf8.decode s p=(65533,1)):zNz s p=(0,0):=by
 unfold zNz
 rw[if_neg (by unfold okAt;rw[h];simp)]
theorem rune1(s:ByteArray)(p:Nat)(h:bt s p<128):zNz s p=((bt s p:Int),1):=by
 refine zcaz (c:=bt s p) (n:=1) ?_ (by omega)
 rw[Lib.decode_at]
 unfold bt at h
 unfold Lib.decodeN bt
 rw[if_pos h]
theorem rune0(s:ByteArray)(p:Nat)(h:128≤bt s p)(h2: ¬(194≤bt s p∧bt s p≤244)):zNz s p=(0,0):=by
 refine vHz ?_
 have hl:=zcsz s p
 have l1:=zcsz s (p+1);have l2:=zcsz s (p+2);have l3:=zcsz s (p+3)
 rw[Lib.decode_at]
 unfold bt at h h2 hl l1 l2 l3
 unfold Lib.decodeN
 generalize (s.get! p).toNat=b0 at*
 generalize (s.get! (p+1)).toNat=b1 at*
 generalize (s.get! (p+2)).toNat=b2 at*
 generalize (s.get! (p+3)).toNat=b3 at*
 rw[if_neg (by omega)]
 split
 ·rw[if_neg (by omega)]
 rw[if_neg (by omega)]
 split
 ·rw[if_neg (by omega)]
 rfl
theorem zhuz(s:ByteArray)(p:Nat)(h:194≤bt s p∧bt s p≤223)(hb: ¬(p+1<s.size∧128≤bt s (p+1)∧bt s (p+1)≤191)):zNz s p=(0,0):=by
 refine vHz ?_
 have l1:=zcsz s (p+1)
 rw[Lib.decode_at]
 unfold bt at h hb l1
 unfold Lib.decodeN
 generalize (s.get! p).toNat=b0 at*
 generalize (s.get! (p+1)).toNat=b1 at*
 generalize (s.get! (p+2)).toNat=b2 at*
 generalize (s.get! (p+3)).toNat=b3 at*
 rw[if_neg (by omega),if_neg (by omega),if_neg (by omega),if_neg (by omega)]
theorem rune2(s:ByteArray)(p:Nat)(h:194≤bt s p∧bt s p≤223)(hb:p+1<s.size∧128≤bt s (p+1)∧bt s (p+1)≤191):
  zNz s p=((bt s p:Int)%32*64+(bt s (p+1):Int)%64,2):=by
 have e:Utf8.decode s p=(bt s p%32*64+bt s (p+1)%64,2):=by
  rw[Lib.decode_at]
  unfold bt at h hb⊢
  unfold Lib.decodeN
  generalize (s.get! p).toNat=b0 at*
  generalize (s.get! (p+1)).toNat=b1 at*
  generalize (s.get! (p+2)).toNat=b2 at*
  generalize (s.get! (p+3)).toNat=b3 at*
  rw[if_neg (by omega),if_pos (by omega),if_pos (by omega)]
 rw[zcaz e (by omega)]
 simp
theorem zhvz(s:ByteArray)(p:Nat)(h:224≤bt s p∧bt s p≤239)(hb: ¬(p+1<s.size∧128≤bt s (p+1)∧bt s (p+1)≤191∧p+2<s.size∧128≤bt s (p+2)∧bt s (p+2)≤191)):zNz s p=(0,0):=by
 refine vHz ?_
 have l1:=zcsz s (p+1);have l2:=zcsz s (p+2)
 rw[Lib.decode_at]
 unfold bt at h hb l1 l2
 unfold Lib.decodeN
 generalize (s.get! p).toNat=b0 at*
 generalize (s.get! (p+1)).toNat=b1 at*
 generalize (s.get! (p+2)).toNat=b2 at*
 generalize (s.get! (p+3)).toNat=b3 at*
 rw[if_neg (by omega),if_neg (by omega),if_neg (by omega),if_neg (by omega)]
theorem rune3(s:ByteArray)(p:Nat)(r:Int)(h:224≤bt s p∧bt s p≤239)(hb:p+1<s.size∧128≤bt s (p+1)∧bt s (p+1)≤191∧p+2<s.size∧128≤bt s (p+2)∧bt s (p+2)≤191)
  (hr:r=(bt s p:Int)%16*4096+(bt s (p+1):Int)%64*64+(bt s (p+2):Int)%64):
  zNz s p=if r<2048∨ ¬(r<55296∨57343<r)then (0,0)else (r,3):=by
 have e:Utf8.decode s p=if bt s p%16*4096+bt s (p+1)%64*64+bt s (p+2)%64≥2048∧(bt s p%16*4096+bt s (p+1)%64*64+bt s (p+2)%64<55296∨57344≤bt s p%16*4096+bt s (p+1)%64*64+bt s (p+2)%64)then (bt s p%16*4096+bt s (p+1)%64*64+bt s (p+2)%64,3)else (65533,1):=by
  rw[Lib.decode_at]
  unfold bt at h hb⊢
  unfold Lib.decodeN
  generalize (s.get! p).toNat=b0 at*
  generalize (s.get! (p+1)).toNat=b1 at*
  generalize (s.get! (p+2)).toNat=b2 at*
  generalize (s.get! (p+3)).toNat=b3 at*
  rw[if_neg (by omega),if_neg (by omega),if_pos (by omega)]
  by_cases hx:b0%16*4096+b1%64*64+b2%64≥2048∧(b0%16*4096+b1%64*64+b2%64<55296∨57344≤b0%16*4096+b1%64*64+b2%64)
  ·rw[if_pos hx,if_pos (by omega)]
  rw[if_neg hx,if_neg (by omega)]
 generalize hc:bt s p%16*4096+bt s (p+1)%64*64+bt s (p+2)%64=c at e
 have hrc:r=(c:Int):=by omega
 by_cases hx:c≥2048∧(c<55296∨57344≤c)
 ·rw[if_pos hx]at e
  rw[zcaz e (by omega),if_neg (by omega),hrc]
  rfl
 rw[if_neg hx]at e
 rw[vHz e,if_pos (by omega)]
theorem zhwz(s:ByteArray)(p:Nat)(h:240≤bt s p∧bt s p≤244)(hb: ¬(p+1<s.size∧128≤bt s (p+1)∧bt s (p+1)≤191∧p+2<s.size∧128≤bt s (p+2)∧bt s (p+2)≤191∧p+3<s.size∧128≤bt s (p+3)∧bt s (p+3)≤191)):zNz s p=(0,0):=by
 refine vHz ?_
 have l1:=zcsz s (p+1);have l2:=zcsz s (p+2);have l3:=zcsz s (p+3)
 rw[Lib.decode_at]
 unfold bt at h hb l1 l2 l3
 unfold Lib.decodeN
 generalize (s.get! p).toNat=b0 at*
 generalize (s.get! (p+1)).toNat=b1 at*
 generalize (s.get! (p+2)).toNat=b2 at*
 generalize (s.get! (p+3)).toNat=b3 at*
 rw[if_neg (by omega),if_neg (by omega),if_neg (by omega),if_neg (by omega)]
theorem rune4(s:ByteArray)(p:Nat)(r:Int)(h:240≤bt s p∧bt s p≤244)(hb:p+1<s.size∧128≤bt s (p+1)∧bt s (p+1)≤191∧p+2<s.size∧128≤bt s (p+2)∧bt s (p+2)≤191∧p+3<s.size∧128≤bt s (p+3)∧bt s (p+3)≤191)
  (hr:r=(bt s p:Int)%8*262144+(bt s (p+1):Int)%64*4096+(bt s (p+2):Int)%64*64+(bt s (p+3):Int)%64):
  zNz s p=if r<65536∨ ¬r≤1114111 then (0,0)else (r,4):=by
 have e:Utf8.decode s p=if bt s p%8*262144+bt s (p+1)%64*4096+bt s (p+2)%64*64+bt s (p+3)%64≥65536∧bt s p%8*262144+bt s (p+1)%64*4096+bt s (p+2)%64*64+bt s (p+3)%64≤1114111 then (bt s p%8*262144+bt s (p+1)%64*4096+bt s (p+2)%64*64+bt s (p+3)%64,4)else (65533,1):=by
  rw[Lib.decode_at]
  unfold bt at h hb⊢
  unfold Lib.decodeN
  generalize (s.get! p).toNat=b0 at*
  generalize (s.get! (p+1)).toNat=b1 at*
  generalize (s.get! (p+2)).toNat=b2 at*
  generalize (s.get! (p+3)).toNat=b3 at*
  rw[if_neg (by omega),if_neg (by omega),if_neg (by omega),if_pos (by omega)]
  by_cases hx:b0%8*262144+b1%64*4096+b2%64*64+b3%64≥65536∧b0%8*262144+b1%64*4096+b2%64*64+b3%64≤1114111
  ·rw[if_pos hx,if_pos (by omega)]
  rw[if_neg hx,if_neg (by omega)]
 generalize hc:bt s p%8*262144+bt s (p+1)%64*4096+bt s (p+2)%64*64+bt s (p+3)%64=c at e
 have hrc:r=(c:Int):=by omega
 by_cases hx:c≥65536∧c≤1114111
 ·rw[if_pos hx]at e
  rw[zcaz e (by omega),if_neg (by omega),hrc]
  rfl
 rw[if_neg hx]at e
 rw[vHz e,if_pos (by omega)]
def stR(s:ByteArray):Nat→Nat×List Int
 |0=>(0,[])
 |k+1=>if (stR s k).1<s.size∧okAt s (stR s k).1 then ((stR s k).1+(Utf8.decode s (stR s k).1).2,(stR s k).2++[((Utf8.decode s (stR s k).1).1:Int)])else stR s k
def zbaz(s:ByteArray)(k:Nat):Prop:= ¬((stR s k).1<s.size∧okAt s (stR s k).1)
theorem zdnz(s:ByteArray)(k:Nat)(h1:(stR s k).1<s.size)(h2:okAt s (stR s k).1):stR s (k+1)=((stR s k).1+(Utf8.decode s (stR s k).1).2,(stR s k).2++[((Utf8.decode s (stR s k).1).1:Int)]):=by
 rw[stR,if_pos ⟨h1,h2⟩]
theorem zaGz(s:ByteArray)(k:Nat)(h:zbaz s k): ∀j,stR s (k+j)=stR s k∧zbaz s (k+j)
 |0=>⟨rfl,h⟩
 |j+1=>by
  obtain ⟨e,g⟩:=zaGz s k h j
  have e':stR s (k+(j+1))=stR s k:=by
   rw[←Nat.add_assoc,stR,if_neg g,e]
  refine ⟨e',?_⟩
  unfold zbaz at h⊢
  rw[e'];exact h
theorem ztyz(s:ByteArray)(k:Nat):zbaz s k∨k≤(stR s k).1:=by
 induction k with
 |zero=>exact .inr (Nat.zero_le _)
 |succ k ih=>
  rcases ih with h|h
  ·exact .inl (zaGz s k h 1).2
  by_cases g:(stR s k).1<s.size∧okAt s (stR s k).1
  ·refine .inr ?_
   rw[zdnz s k g.1 g.2]
   have:=Lib.decode_width_pos s (stR s k).1 g.1
   simp only
   omega
  exact .inl (zaGz s k g 1).2
def z2z(s:ByteArray):Nat×List Int:=stR s s.size
theorem zfWz(s:ByteArray):zbaz s s.size:=by
 rcases ztyz s s.size with h|h
 ·exact h
 unfold zbaz;omega
theorem ziKz(s:ByteArray)(k:Nat)(h:zbaz s k):stR s k=z2z s:=by
 unfold z2z
 rcases Nat.le_total k s.size with g|g
 ·have:=(zaGz s k h (s.size-k)).1
  rw[show k+(s.size-k)=s.size by omega]at this
  exact this.symm
 have:=(zaGz s s.size (zfWz s) (k-s.size)).1
 rw[show s.size+(k-s.size)=k by omega]at this
 exact this
theorem zr7z(s:ByteArray)(k:Nat):(stR s k).2.length≤k:=by
 induction k with
 |zero=>simp[stR]
 |succ k ih=>
  rw[stR]
  split
  ·simp;omega
  omega
theorem zjZz(s:ByteArray)(k:Nat):(stR s k).2.length≤(stR s k).1:=by
 induction k with
 |zero=>simp[stR]
 |succ k ih=>
  rw[stR]
  split
  ·rename_i g
   have:=Lib.decode_width_pos s (stR s k).1 g.1
   simp;omega
  exact ih
theorem ziLz(s:ByteArray)(k:Nat):(stR s k).1≤s.size:=by
 induction k with
 |zero=>simp[stR]
 |succ k ih=>
  rw[stR]
  split
  ·rename_i g
   have hne:s.data.toList.drop (stR s k).1≠[]:=by
    intro e
    have:=congrArg List.length e
    simp at this
    omega
   have:=Lib.decodeL_le (s.data.toList.drop (stR s k).1) hne
   rw[Lib.decodeL_drop]at this
   simp at this⊢
   omega
  exact ih
theorem zpIz(s:ByteArray)(k:Nat):Lib.validD (s.data.toList.drop (stR s k).1)=Lib.validD s.data.toList:=by
 induction k with
 |zero=>simp[stR]
 |succ k ih=>
  rw[stR]
  split
  ·rename_i g
   have hne:s.data.toList.drop (stR s k).1≠[]:=by
    intro e
    have:=congrArg List.length e
    simp at this
    omega
   rw[←ih,Lib.validD_step _ hne,Lib.decodeL_drop,if_neg g.2,List.drop_drop]
  exact ih
theorem zekz(s:ByteArray):Lib.validD s.data.toList=true↔(z2z s).1=s.size:=by
 have h:=zpIz s s.size
 have hs:=zfWz s
 have hle:=ziLz s s.size
 unfold z2z zbaz at*
 rw[←h]
 constructor
 ·intro hv
  by_cases e:(stR s s.size).1=s.size
  ·exact e
  have hlt:(stR s s.size).1<s.size:=by omega
  have hb: ¬okAt s (stR s s.size).1:=fun g=>hs ⟨hlt,g⟩
  have hne:s.data.toList.drop (stR s s.size).1≠[]:=by
   intro e
   have:=congrArg List.length e
   simp at this
   omega
  rw[Lib.validD_step _ hne,Lib.decodeL_drop,if_pos (Classical.not_not.1 hb)]at hv
  cases hv
 intro e
 rw[List.drop_eq_nil_of_le (by simp;omega)]
 rfl
theorem zpJz(s:ByteArray)(h:Lib.validD s.data.toList=true)(k:Nat)(hk:(stR s k).1<s.size):okAt s (stR s k).1:=by
 by_cases g:okAt s (stR s k).1
 ·exact g
 exfalso
 have hst:zbaz s k:=fun x=>g x.2
 have e:=ziKz s k hst
 have:=(zekz s).1 h
 rw[←e]at this
 omega
end Go.Proofs.YtgcbaphbiaimoaaGreatDoor
