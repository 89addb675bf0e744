/- LaidUrl, AsciiWalk, RuneOk, PutWalk, PutRunesWalk, RunesPlain, RunesBack. -/
import Derived.Test.YtgcbaphbiaimoaaGreatDoorQU05
import Derived.LaidHandle
import Derived.Lib.RuneBytes
import Derived.Deep.QuietTactic
import Derived.Lib.TrimUEq
import Derived.Lib.MapLaws
import Derived.Lib.ValidLaws
import Derived.Lib.RuneCount
set_option maxHeartbeats 400000
namespace Go.Proofs.YtgcbaphbiaimoaaGreatDoor
open Go.ChangeShapes Go.WideShapes Go.ChangeAt Go.RowKit Go.Lib
def vNz:List (String×DataW Unit):=[("math/bits.deBruijn32tab",Rows.laid_math_bits_deBruijn32tab),("math/bits.deBruijn64tab",Rows.laid_math_bits_deBruijn64tab),("internal/strconv.uint64pow10",Rows.laid_internal_strconv_uint64pow10),("unicode/utf8.acceptRanges",Rows.laid_unicode_utf8_acceptRanges),("errors.errorType",Rows.laid_errors_errorType),("loop.example/g00191/impl.plainMarks",Rows.laid_loop_example_g00191_impl_plainMarks),("loop.example/g00191/impl.keptMarks",Rows.laid_loop_example_g00191_impl_keptMarks),("unicode/utf8.first",Rows.laid_unicode_utf8_first)]
def zaqz:List (String×DataW Unit):=[("math/bits.deBruijn32tab",Rows.laid_math_bits_deBruijn32tab),("math/bits.deBruijn64tab",Rows.laid_math_bits_deBruijn64tab),("internal/strconv.uint64pow10",Rows.laid_internal_strconv_uint64pow10),("unicode/utf8.acceptRanges",Rows.laid_unicode_utf8_acceptRanges),("loop.example/g00191/impl.plainMarks",Rows.laid_loop_example_g00191_impl_plainMarks),("loop.example/g00191/impl.keptMarks",Rows.laid_loop_example_g00191_impl_keptMarks),("unicode/utf8.first",Rows.laid_unicode_utf8_first)]
theorem zarz{W:World}(h:laidMetH Tryz.prog vNz W):laidMet Tryz.prog zaqz W∧handlesMet Tryz.prog [("errors.errorType",Rows.laid_errors_errorType)] W:=h
theorem zrez{W:World}(h:laidMetH Tryz.prog vNz W):Pow W:=by
 have hL:=(zarz h).1
 unfold zaqz at hL
 rw[zoEz]at hL
 obtain ⟨g',t',cs,fuel,p,hg,hty,hvar,hd⟩:=Lib.laidMet.reads hL (.tail _ (.tail _ (.head _)))
 obtain rfl:=Option.some.inj ((show Tryz.prog.globalNamed "internal/strconv.uint64pow10" =some 7 by kernel_rfl).symm.trans hg)
 obtain rfl:=Option.some.inj ((show (Tryz.prog.globals[7]?).map (·.type)=some 219 by kernel_rfl).symm.trans hty)
 show Lib.TabIs _ _ _ _ _
 unfold Lib.TabIs
 rw[hvar,←Lib.cells_of_tab (P:=Tryz.prog) (t:=219) (e:=186) (n:=20) (k:=.u64) (by kernel_rfl) (by kernel_rfl) (by kernel_rfl) (by kernel_rfl) hd]
theorem zrfz{W:World}(h:laidMetH Tryz.prog vNz W):zHz W:=by
 have hL:=(zarz h).1
 unfold zaqz at hL
 rw[zoLz]at hL
 obtain ⟨g',t',cs,fuel,p,hg,hty,hvar,hd⟩:=Lib.laidMet.reads hL (.tail _ (.head _))
 have hgg:Tryz.prog.globalNamed "math/bits.deBruijn64tab" =some 11:=by kernel_rfl
 obtain rfl:=Option.some.inj (hgg.symm.trans hg)
 obtain rfl:=Option.some.inj ((show (Tryz.prog.globals[11]?).map (·.type)=some 239 by kernel_rfl).symm.trans hty)
 have hT:Lib.TabIs Tryz.prog W "math/bits.deBruijn64tab" .u8 zoKz:=by
  unfold Lib.TabIs
  rw[hvar,←Lib.cells_of_tab (P:=Tryz.prog) (t:=239) (e:=5) (n:=64) (k:=.u8) (by kernel_rfl) (by kernel_rfl) (by kernel_rfl) (by kernel_rfl) hd]
 exact hT.cell hgg 15 (by decide)
theorem zoPz{W:World}(h:laidMetH Tryz.prog vNz W):Lib.Utf8Tabs 12 13 W:=by
 have hL:=(zarz h).1
 unfold zaqz at hL
 rw[zsrz,zopz]at hL
 exact utf8Tabs_of_readsT (U8Types.of196 Tryz.lays196) ⟨by kernel_rfl,by kernel_rfl,by kernel_rfl,by kernel_rfl,by kernel_rfl,by kernel_rfl,by kernel_rfl⟩ (Lib.laidMet.reads hL (.tail _ (.tail _ (.tail _ (.tail _ (.tail _ (.tail _ (.head _)))))))) (Lib.laidMet.reads hL (.tail _ (.tail _ (.tail _ (.head _)))))
theorem zniz{W:World}(h:laidMetH Tryz.prog vNz W):xFz W:=by
 have hL:=(zarz h).1
 unfold zaqz at hL
 rw[zlaz,zngz]at hL
 have h1:=zbmz (P:=Tryz.prog) (g:=6) (t:=204) (e:=4) (by kernel_rfl) (by kernel_rfl) (by kernel_rfl) (by kernel_rfl) (by kernel_rfl) (Lib.laidMet.reads hL (.tail _ (.tail _ (.tail _ (.tail _ (.head _))))))
 have h2:=zbmz (P:=Tryz.prog) (g:=9) (t:=204) (e:=4) (by kernel_rfl) (by kernel_rfl) (by kernel_rfl) (by kernel_rfl) (by kernel_rfl) (Lib.laidMet.reads hL (.tail _ (.tail _ (.tail _ (.tail _ (.tail _ (.head _)))))))
 exact fun c hc=>⟨h1 c hc,h2 c hc⟩
def ErrT(W:World):Prop:=W.cell? ⟨0,0,none⟩=some (.iface 159 (.agg #[.pointer (some ⟨14,65,none⟩)]))
theorem zoQz:(Tryz.prog.cutTypes.find? (·.1== "internal/reflectlite.rtype")).map (·.2)=some 159:=by kernel_rfl
theorem zoRz:((List.range 292).filter fun t=>Tryz.prog.rowNamed t [101,114,114,111,114])=[65]:=by kernel_rfl
theorem znjz:Tryz.prog.types.size=292:=by kernel_rfl
theorem zoSz{W:World}(h:laidMetH Tryz.prog vNz W):ErrT W:=by
 obtain ⟨name,u,ty,e1,e2,e3,e4,e5⟩:=(zarz h).2 _ (List.mem_singleton.2 rfl)
 have en:name=[101,114,114,111,114]:=(Option.some.inj e1).symm
 subst en
 obtain rfl:=Option.some.inj (zoQz.symm.trans e2)
 have hm:ty∈(List.range 292).filter fun t=>Tryz.prog.rowNamed t [101,114,114,111,114]:=List.mem_filter.2 ⟨List.mem_range.2 (by rw[←znjz];exact e3),e4⟩
 rw[zoRz]at hm
 obtain rfl:=List.mem_singleton.1 hm
 have hh:typeHandle Tryz.prog 65=.pointer (some ⟨14,65,none⟩):=by kernel_rfl
 rw[hh]at e5
 have hg:Tryz.prog.globalNamed "errors.errorType" =some 0:=by kernel_rfl
 have h0:=World.var?_cell hg e5 0
 unfold ErrT
 simpa using h0
def zeIz(h:Array Obj):Array Obj:=(znhz (zoMz h)).modify 0 fun
 | .cells _ t frozen=> .cells #[.iface 159 (.agg #[.pointer (some ⟨14,65,none⟩)])] t frozen
 |o=>o
theorem zrgz(os:Os)(args:Array Value):laidMetH Tryz.prog vNz (({World.holding Tryz.prog os ⟨#[],#[],[]⟩with heap:=zeIz (World.holding Tryz.prog os ⟨#[],#[],[]⟩).heap}:World).forCall (fun _ _=>0) ⟨#[],args,[]⟩).memory:=
 laidMetH_of_parts (LaidIn.of_run (l:=zaqz) [10,11,7,13,6,9,12] 8 (by kernel_rfl) (by kernel_rfl) (by kernel_rfl) (by kernel_rfl)).met (by kernel_rfl)
end Go.Proofs.YtgcbaphbiaimoaaGreatDoor
namespace Go.Proofs.YtgcbaphbiaimoaaGreatDoor
open Go.RowKit
def xfz(l:List UInt8):Bool:=l.all fun c=>decide (c.toNat<128)
theorem zfhz(s:ByteArray)(h: ∀j,(hj:j<s.size)→s[j].toNat<128):xfz s.data.toList=true:=by
 unfold xfz
 rw[List.all_eq_true]
 intro c hc
 obtain ⟨j,hj,rfl⟩:=List.getElem_of_mem hc
 exact decide_eq_true (h j (by simpa using hj))
theorem zgOz(s:ByteArray)(k:Nat)(hk:k<s.size)(h:128≤s[k].toNat):xfz s.data.toList=false:=by
 unfold xfz
 rw[List.all_eq_false]
 refine ⟨s[k],?_,by simpa using h⟩
 exact List.mem_iff_getElem.2 ⟨k,by simpa using hk,rfl⟩
theorem znkz(s:ByteArray)(w:World)(hs:s.size≤maxLen):
  Calls Tryz.prog 187 #[.string s] w fun e w'=>e=.returned (.bool (xfz s.data.toList))∧w=w':=by
 unfold maxLen at hs
 go_enter Tryz.func187,Tryz.ntmps187
 go_wp2
 go_loop[3] (fun i=> ∃k:Nat,k≤s.size∧i=.int .i64 k∧ ∀j,(hj:j<s.size)→j<k→s[j].toNat<128) (fun i=>s.size-(intOf i).toNat)
 case atStart=>exact ⟨0,Nat.zero_le _,rfl,fun j _ h=>by omega⟩
 obtain ⟨k,hk,rfl,hall⟩:=hrel
 have HA:Hid (∀j,(hj:j<s.size)→j<k→s[j].toNat<128):=hall
 clear hall
 by_cases hlt:k<s.size
 ·by_cases hb:s[k].toNat<128
  ·have hb':(s[k].toNat:Int)≤127:=by omega
   go_wp2
   go_round
   case rel=>
    refine ⟨k+1,by omega,by go_num,fun j hj h=> ?_⟩
    by_cases e:j=k
    ·subst e;omega
    exact HA.out j hj (by omega)
   case measure=>simp[intOf];omega
  have hb':127<(s[k].toNat:Int):=by omega
  go_wp2
  go_ret
  exact ⟨zez (zgOz s k hlt (by omega)).symm,rfl⟩
 go_wp2
 go_ret
 exact ⟨zez (zfhz s fun j hj=>HA.out j hj (by omega)).symm,rfl⟩
theorem znlz(s:ByteArray)(w:World)(hs:s.size≤maxLen):
  Calls Tryz.prog 287 #[.string s] w fun e w'=>e=.returned (.bool (xfz s.data.toList))∧w=w':=by
 unfold maxLen at hs
 go_enter Tryz.func287,Tryz.ntmps287
 go_wp2
 go_loop[6] (fun i=> ∃k:Nat,k≤s.size∧i=.int .i64 k∧ ∀j,(hj:j<s.size)→j<k→s[j].toNat<128) (fun i=>s.size-(intOf i).toNat)
 case atStart=>exact ⟨0,Nat.zero_le _,rfl,fun j _ h=>by omega⟩
 obtain ⟨k,hk,rfl,hall⟩:=hrel
 have HA:Hid (∀j,(hj:j<s.size)→j<k→s[j].toNat<128):=hall
 clear hall
 by_cases hlt:k<s.size
 ·by_cases hb:s[k].toNat<128
  ·have hb': ¬128≤(s[k].toNat:Int):=by omega
   clear hb
   go_wp2
   go_round
   case rel=>
    refine ⟨k+1,by omega,by go_num,fun j hj h=> ?_⟩
    by_cases e:j=k
    ·subst e;omega
    exact HA.out j hj (by omega)
   case measure=>simp[intOf];omega
  have hb':128≤(s[k].toNat:Int):=by omega
  go_wp2
  go_ret
  exact ⟨zez (zgOz s k hlt (by omega)).symm,rfl⟩
 go_wp2
 go_ret
 exact ⟨zez (zfhz s fun j hj=>HA.out j hj (by omega)).symm,rfl⟩
def yrz(r:Int):Prop:=0≤r∧r≤1114111∧(r<55296∨57343<r)
theorem yBz(r:Int)(w:World)(h:yrz r):
  Calls Tryz.prog 226 #[.int .i64 r] w fun e w'=>e=.returned (.bool true)∧w=w':=by
 obtain ⟨h0,h1,h2⟩:=h
 have H2:Hid (r<55296∨57343<r):=h2
 clear h2
 go_enter Tryz.func226,Tryz.ntmps226
 go_wp2_with fail
 refine (zgz r 0 1114111 _ h0 h1).mono ?_
 rintro e w' ⟨rfl,rfl⟩
 go_wp2_with fail
 refine (zmz r 55296 57343 _ H2.out).mono ?_
 rintro e w' ⟨rfl,rfl⟩
 go_wp2
 go_ret
 exact ⟨rfl,rfl⟩
theorem jdz(r:Int)(w:World)(h: ¬yrz r):
  Calls Tryz.prog 226 #[.int .i64 r] w fun e w'=>e=.returned (.bool false)∧w=w':=by
 unfold yrz at h
 by_cases a:0≤r∧r≤1114111
 ·obtain ⟨h0,h1⟩:=a
  have h2:55296≤r∧r≤57343:=by omega
  clear h
  go_enter Tryz.func226,Tryz.ntmps226
  go_wp2_with fail
  refine (zgz r 0 1114111 _ h0 h1).mono ?_
  rintro e w' ⟨rfl,rfl⟩
  go_wp2_with fail
  refine (zgz r 55296 57343 _ h2.1 h2.2).mono ?_
  rintro e w' ⟨rfl,rfl⟩
  go_wp2
  go_ret
  exact ⟨rfl,rfl⟩
 have H:Hid (r<0∨1114111<r):=by show _∨_;omega
 clear h a
 go_enter Tryz.func226,Tryz.ntmps226
 go_wp2_with fail
 refine (zmz r 0 1114111 _ H.out).mono ?_
 rintro e w' ⟨rfl,rfl⟩
 go_wp2
 go_ret
 exact ⟨rfl,rfl⟩

def zdPz(l:List Int):List UInt8:=l.flatMap Lib.encodeRune
theorem zjiz(l:List Int)(r:Int):zdPz (l++[r])=zdPz l++Lib.encodeRune r:=by simp[zdPz]
def zcZz(l:List Int):Prop:= ∀r∈l,yrz r
end Go.Proofs.YtgcbaphbiaimoaaGreatDoor
namespace Go.Proofs.YtgcbaphbiaimoaaGreatDoor
abbrev okAt(s:ByteArray)(p:Nat):Prop:= ¬((Utf8.decode s p).1=65533∧(Utf8.decode s p).2=1)
def zMz(s:ByteArray)(p:Nat):Int×Int:=if okAt s p then ((Utf8.decode s p).1,(Utf8.decode s p).2)else (0,0)
def bt(s:ByteArray)(p:Nat):Nat:=(s.get! p).toNat
theorem zbZz(s:ByteArray)(p:Nat)(h:p<s.size):bt s p=s[p].toNat:=by
 unfold bt
 have:=get_at s p h
 simp only[Nat.add_zero]at this
 rw[this]
theorem zb0z(s:ByteArray)(p:Nat):bt s p<256:=(s.get! p).toNat_lt
theorem zbNz{s:ByteArray}{p c n:Nat}(h:Utf8.decode s p=(c,n))(h': ¬(c=65533∧n=1)):zMz s p=((c:Int),(n:Int)):=by
 unfold zMz
 rw[if_pos (show okAt s p by unfold okAt;rw[h];exact h'),h]
theorem vAz{s:ByteArray}{p:Nat}(h:Utf8.decode s p=(65533,1)):zMz s p=(0,0):=by
 unfold zMz
 rw[if_neg (by unfold okAt;rw[h];simp)]
theorem rune1(s:ByteArray)(p:Nat)(h:bt s p<128):zMz s p=((bt s p:Int),1):=by
 refine zbNz (c:=bt s p) (n:=1) ?_ (by omega)
 rw[Lib.decode_at]
 unfold bt at h
 unfold Lib.decodeN bt
 rw[if_pos h]
theorem rune0(s:ByteArray)(p:Nat)(h:128≤bt s p)(h2: ¬(194≤bt s p∧bt s p≤244)):zMz s p=(0,0):=by
 refine vAz ?_
 have hl:=zb0z s p
 have l1:=zb0z s (p+1);have l2:=zb0z s (p+2);have l3:=zb0z s (p+3)
 rw[Lib.decode_at]
 unfold bt at h h2 hl l1 l2 l3
 unfold Lib.decodeN
 generalize (s.get! p).toNat=b0 at*
 generalize (s.get! (p+1)).toNat=b1 at*
 generalize (s.get! (p+2)).toNat=b2 at*
 generalize (s.get! (p+3)).toNat=b3 at*
 rw[if_neg (by omega)]
 split
 ·rw[if_neg (by omega)]
 rw[if_neg (by omega)]
 split
 ·rw[if_neg (by omega)]
 rfl
theorem zgPz(s:ByteArray)(p:Nat)(h:194≤bt s p∧bt s p≤223)(hb: ¬(p+1<s.size∧128≤bt s (p+1)∧bt s (p+1)≤191)):zMz s p=(0,0):=by
 refine vAz ?_
 have l1:=zb0z s (p+1)
 rw[Lib.decode_at]
 unfold bt at h hb l1
 unfold Lib.decodeN
 generalize (s.get! p).toNat=b0 at*
 generalize (s.get! (p+1)).toNat=b1 at*
 generalize (s.get! (p+2)).toNat=b2 at*
 generalize (s.get! (p+3)).toNat=b3 at*
 rw[if_neg (by omega),if_neg (by omega),if_neg (by omega),if_neg (by omega)]
theorem rune2(s:ByteArray)(p:Nat)(h:194≤bt s p∧bt s p≤223)(hb:p+1<s.size∧128≤bt s (p+1)∧bt s (p+1)≤191):
  zMz s p=((bt s p:Int)%32*64+(bt s (p+1):Int)%64,2):=by
 have e:Utf8.decode s p=(bt s p%32*64+bt s (p+1)%64,2):=by
  rw[Lib.decode_at]
  unfold bt at h hb⊢
  unfold Lib.decodeN
  generalize (s.get! p).toNat=b0 at*
  generalize (s.get! (p+1)).toNat=b1 at*
  generalize (s.get! (p+2)).toNat=b2 at*
  generalize (s.get! (p+3)).toNat=b3 at*
  rw[if_neg (by omega),if_pos (by omega),if_pos (by omega)]
 rw[zbNz e (by omega)]
 simp
theorem zgQz(s:ByteArray)(p:Nat)(h:224≤bt s p∧bt s p≤239)(hb: ¬(p+1<s.size∧128≤bt s (p+1)∧bt s (p+1)≤191∧p+2<s.size∧128≤bt s (p+2)∧bt s (p+2)≤191)):zMz s p=(0,0):=by
 refine vAz ?_
 have l1:=zb0z s (p+1);have l2:=zb0z s (p+2)
 rw[Lib.decode_at]
 unfold bt at h hb l1 l2
 unfold Lib.decodeN
 generalize (s.get! p).toNat=b0 at*
 generalize (s.get! (p+1)).toNat=b1 at*
 generalize (s.get! (p+2)).toNat=b2 at*
 generalize (s.get! (p+3)).toNat=b3 at*
 rw[if_neg (by omega),if_neg (by omega),if_neg (by omega),if_neg (by omega)]
theorem rune3(s:ByteArray)(p:Nat)(r:Int)(h:224≤bt s p∧bt s p≤239)(hb:p+1<s.size∧128≤bt s (p+1)∧bt s (p+1)≤191∧p+2<s.size∧128≤bt s (p+2)∧bt s (p+2)≤191)
  (hr:r=(bt s p:Int)%16*4096+(bt s (p+1):Int)%64*64+(bt s (p+2):Int)%64):
  zMz s p=if r<2048∨ ¬(r<55296∨57343<r)then (0,0)else (r,3):=by
 have e:Utf8.decode s p=if bt s p%16*4096+bt s (p+1)%64*64+bt s (p+2)%64≥2048∧(bt s p%16*4096+bt s (p+1)%64*64+bt s (p+2)%64<55296∨57344≤bt s p%16*4096+bt s (p+1)%64*64+bt s (p+2)%64)then (bt s p%16*4096+bt s (p+1)%64*64+bt s (p+2)%64,3)else (65533,1):=by
  rw[Lib.decode_at]
  unfold bt at h hb⊢
  unfold Lib.decodeN
  generalize (s.get! p).toNat=b0 at*
  generalize (s.get! (p+1)).toNat=b1 at*
  generalize (s.get! (p+2)).toNat=b2 at*
  generalize (s.get! (p+3)).toNat=b3 at*
  rw[if_neg (by omega),if_neg (by omega),if_pos (by omega)]
  by_cases hx:b0%16*4096+b1%64*64+b2%64≥2048∧(b0%16*4096+b1%64*64+b2%64<55296∨57344≤b0%16*4096+b1%64*64+b2%64)
  ·rw[if_pos hx,if_pos (by omega)]
  rw[if_neg hx,if_neg (by omega)]
 generalize hc:bt s p%16*4096+bt s (p+1)%64*64+bt s (p+2)%64=c at e
 have hrc:r=(c:Int):=by omega
 by_cases hx:c≥2048∧(c<55296∨57344≤c)
 ·rw[if_pos hx]at e
  rw[zbNz e (by omega),if_neg (by omega),hrc]
  rfl
 rw[if_neg hx]at e
 rw[vAz e,if_pos (by omega)]
theorem zgRz(s:ByteArray)(p:Nat)(h:240≤bt s p∧bt s p≤244)(hb: ¬(p+1<s.size∧128≤bt s (p+1)∧bt s (p+1)≤191∧p+2<s.size∧128≤bt s (p+2)∧bt s (p+2)≤191∧p+3<s.size∧128≤bt s (p+3)∧bt s (p+3)≤191)):zMz s p=(0,0):=by
 refine vAz ?_
 have l1:=zb0z s (p+1);have l2:=zb0z s (p+2);have l3:=zb0z s (p+3)
 rw[Lib.decode_at]
 unfold bt at h hb l1 l2 l3
 unfold Lib.decodeN
 generalize (s.get! p).toNat=b0 at*
 generalize (s.get! (p+1)).toNat=b1 at*
 generalize (s.get! (p+2)).toNat=b2 at*
 generalize (s.get! (p+3)).toNat=b3 at*
 rw[if_neg (by omega),if_neg (by omega),if_neg (by omega),if_neg (by omega)]
theorem rune4(s:ByteArray)(p:Nat)(r:Int)(h:240≤bt s p∧bt s p≤244)(hb:p+1<s.size∧128≤bt s (p+1)∧bt s (p+1)≤191∧p+2<s.size∧128≤bt s (p+2)∧bt s (p+2)≤191∧p+3<s.size∧128≤bt s (p+3)∧bt s (p+3)≤191)
  (hr:r=(bt s p:Int)%8*262144+(bt s (p+1):Int)%64*4096+(bt s (p+2):Int)%64*64+(bt s (p+3):Int)%64):
  zMz s p=if r<65536∨ ¬r≤1114111 then (0,0)else (r,4):=by
 have e:Utf8.decode s p=if bt s p%8*262144+bt s (p+1)%64*4096+bt s (p+2)%64*64+bt s (p+3)%64≥65536∧bt s p%8*262144+bt s (p+1)%64*4096+bt s (p+2)%64*64+bt s (p+3)%64≤1114111 then (bt s p%8*262144+bt s (p+1)%64*4096+bt s (p+2)%64*64+bt s (p+3)%64,4)else (65533,1):=by
  rw[Lib.decode_at]
  unfold bt at h hb⊢
  unfold Lib.decodeN
  generalize (s.get! p).toNat=b0 at*
  generalize (s.get! (p+1)).toNat=b1 at*
  generalize (s.get! (p+2)).toNat=b2 at*
  generalize (s.get! (p+3)).toNat=b3 at*
  rw[if_neg (by omega),if_neg (by omega),if_neg (by omega),if_pos (by omega)]
  by_cases hx:b0%8*262144+b1%64*4096+b2%64*64+b3%64≥65536∧b0%8*262144+b1%64*4096+b2%64*64+b3%64≤1114111
  ·rw[if_pos hx,if_pos (by omega)]
  rw[if_neg hx,if_neg (by omega)]
 generalize hc:bt s p%8*262144+bt s (p+1)%64*4096+bt s (p+2)%64*64+bt s (p+3)%64=c at e
 have hrc:r=(c:Int):=by omega
 by_cases hx:c≥65536∧c≤1114111
 ·rw[if_pos hx]at e
  rw[zbNz e (by omega),if_neg (by omega),hrc]
  rfl
 rw[if_neg hx]at e
 rw[vAz e,if_pos (by omega)]
def stR(s:ByteArray):Nat→Nat×List Int
 |0=>(0,[])
 |k+1=>if (stR s k).1<s.size∧okAt s (stR s k).1 then ((stR s k).1+(Utf8.decode s (stR s k).1).2,(stR s k).2++[((Utf8.decode s (stR s k).1).1:Int)])else stR s k
def zaTz(s:ByteArray)(k:Nat):Prop:= ¬((stR s k).1<s.size∧okAt s (stR s k).1)
theorem zc0z(s:ByteArray)(k:Nat)(h1:(stR s k).1<s.size)(h2:okAt s (stR s k).1):stR s (k+1)=((stR s k).1+(Utf8.decode s (stR s k).1).2,(stR s k).2++[((Utf8.decode s (stR s k).1).1:Int)]):=by
 rw[stR,if_pos ⟨h1,h2⟩]
theorem zasz(s:ByteArray)(k:Nat)(h:zaTz s k): ∀j,stR s (k+j)=stR s k∧zaTz s (k+j)
 |0=>⟨rfl,h⟩
 |j+1=>by
  obtain ⟨e,g⟩:=zasz s k h j
  have e':stR s (k+(j+1))=stR s k:=by
   rw[←Nat.add_assoc,stR,if_neg g,e]
  refine ⟨e',?_⟩
  unfold zaTz at h⊢
  rw[e'];exact h
theorem zsBz(s:ByteArray)(k:Nat):zaTz s k∨k≤(stR s k).1:=by
 induction k with
 |zero=>exact .inr (Nat.zero_le _)
 |succ k ih=>
  rcases ih with h|h
  ·exact .inl (zasz s k h 1).2
  by_cases g:(stR s k).1<s.size∧okAt s (stR s k).1
  ·refine .inr ?_
   rw[zc0z s k g.1 g.2]
   have:=Lib.decode_width_pos s (stR s k).1 g.1
   simp only
   omega
  exact .inl (zasz s k g 1).2
def z5z(s:ByteArray):Nat×List Int:=stR s s.size
theorem zfiz(s:ByteArray):zaTz s s.size:=by
 rcases zsBz s s.size with h|h
 ·exact h
 unfold zaTz;omega
theorem zh4z(s:ByteArray)(k:Nat)(h:zaTz s k):stR s k=z5z s:=by
 unfold z5z
 rcases Nat.le_total k s.size with g|g
 ·have:=(zasz s k h (s.size-k)).1
  rw[show k+(s.size-k)=s.size by omega]at this
  exact this.symm
 have:=(zasz s s.size (zfiz s) (k-s.size)).1
 rw[show s.size+(k-s.size)=k by omega]at this
 exact this
theorem zrhz(s:ByteArray)(k:Nat):(stR s k).2.length≤k:=by
 induction k with
 |zero=>simp[stR]
 |succ k ih=>
  rw[stR]
  split
  ·simp;omega
  omega
theorem zjjz(s:ByteArray)(k:Nat):(stR s k).2.length≤(stR s k).1:=by
 induction k with
 |zero=>simp[stR]
 |succ k ih=>
  rw[stR]
  split
  ·rename_i g
   have:=Lib.decode_width_pos s (stR s k).1 g.1
   simp;omega
  exact ih
theorem zh5z(s:ByteArray)(k:Nat):(stR s k).1≤s.size:=by
 induction k with
 |zero=>simp[stR]
 |succ k ih=>
  rw[stR]
  split
  ·rename_i g
   have hne:s.data.toList.drop (stR s k).1≠[]:=by
    intro e
    have:=congrArg List.length e
    simp at this
    omega
   have:=Lib.decodeL_le (s.data.toList.drop (stR s k).1) hne
   rw[Lib.decodeL_drop]at this
   simp at this⊢
   omega
  exact ih
theorem zoTz(s:ByteArray)(k:Nat):Lib.validD (s.data.toList.drop (stR s k).1)=Lib.validD s.data.toList:=by
 induction k with
 |zero=>simp[stR]
 |succ k ih=>
  rw[stR]
  split
  ·rename_i g
   have hne:s.data.toList.drop (stR s k).1≠[]:=by
    intro e
    have:=congrArg List.length e
    simp at this
    omega
   rw[←ih,Lib.validD_step _ hne,Lib.decodeL_drop,if_neg g.2,List.drop_drop]
  exact ih
theorem zdQz(s:ByteArray):Lib.validD s.data.toList=true↔(z5z s).1=s.size:=by
 have h:=zoTz s s.size
 have hs:=zfiz s
 have hle:=zh5z s s.size
 unfold z5z zaTz at*
 rw[←h]
 constructor
 ·intro hv
  by_cases e:(stR s s.size).1=s.size
  ·exact e
  have hlt:(stR s s.size).1<s.size:=by omega
  have hb: ¬okAt s (stR s s.size).1:=fun g=>hs ⟨hlt,g⟩
  have hne:s.data.toList.drop (stR s s.size).1≠[]:=by
   intro e
   have:=congrArg List.length e
   simp at this
   omega
  rw[Lib.validD_step _ hne,Lib.decodeL_drop,if_pos (Classical.not_not.1 hb)]at hv
  cases hv
 intro e
 rw[List.drop_eq_nil_of_le (by simp;omega)]
 rfl
theorem zoUz(s:ByteArray)(h:Lib.validD s.data.toList=true)(k:Nat)(hk:(stR s k).1<s.size):okAt s (stR s k).1:=by
 by_cases g:okAt s (stR s k).1
 ·exact g
 exfalso
 have hst:zaTz s k:=fun x=>g x.2
 have e:=zh4z s k hst
 have:=(zdQz s).1 h
 rw[←e]at this
 omega
theorem zgsz(s:ByteArray)(p:Nat)(h:okAt s p):yrz ((Utf8.decode s p).1:Int):=by
 unfold okAt at h
 rw[Lib.decode_at]at h⊢
 generalize (s.get! p).toNat=b0 at*
 generalize (s.get! (p+1)).toNat=b1 at*
 generalize (s.get! (p+2)).toNat=b2 at*
 generalize (s.get! (p+3)).toNat=b3 at*
 unfold yrz
 rcases Lib.decodeN_shape (s.size-p) b0 b1 b2 b3 with ⟨c,e⟩|⟨c1,c2,c3,cv,e⟩|⟨c1,c2,c3,c4,cv,cs,e⟩|⟨c1,c2,c3,c4,c5,cv,cs,e⟩|e
 ·rw[e];simp only;omega
 ·rw[e];simp only;omega
 ·rw[e];simp only;omega
 ·rw[e];simp only;omega
 rw[e]at h;simp at h
theorem zoVz(s:ByteArray)(k:Nat):zcZz (stR s k).2∧zdPz (stR s k).2=s.data.toList.take (stR s k).1:=by
 induction k with
 |zero=>exact ⟨fun r hr=>by simp[stR]at hr,by simp[stR,zdPz]⟩
 |succ k ih=>
  obtain ⟨i1,i2⟩:=ih
  rw[stR]
  split
  ·rename_i g
   refine ⟨fun r hr=> ?_,?_⟩
   ·rcases List.mem_append.1 hr with hr|hr
    ·exact i1 r hr
    rw[List.mem_singleton.1 hr];exact zgsz s _ g.2
   have hne:s.data.toList.drop (stR s k).1≠[]:=by
    intro e
    have:=congrArg List.length e
    simp at this
    omega
   have hd:=Lib.encode_decode (s.data.toList.drop (stR s k).1) hne (by rw[Lib.decodeL_drop];exact g.2)
   rw[Lib.decodeL_drop]at hd
   simp only
   rw[zjiz,i2,hd,List.take_add]
  exact ⟨i1,i2⟩
theorem zoWz(s:ByteArray)(h:(z5z s).1=s.size):zcZz (z5z s).2∧zdPz (z5z s).2=s.data.toList:=by
 obtain ⟨a,b⟩:=zoVz s s.size
 unfold z5z at h⊢
 refine ⟨a,?_⟩
 rw[b,h,ynz s _ (Nat.le_refl _)]
end Go.Proofs.YtgcbaphbiaimoaaGreatDoor
