/- LaidUrl, AsciiWalk, RuneOk, PutWalk, PutRunesWalk, RunesPlain, RunesBack. -/
import Derived.Test.YtgcbaphbiaimoaaGreatDoorQF05
import Derived.LaidHandle
import Derived.Lib.RuneBytes
import Derived.Deep.QuietTactic
import Derived.Lib.TrimUEq
import Derived.Lib.MapLaws
import Derived.Lib.ValidLaws
import Derived.Lib.RuneCount
set_option maxHeartbeats 400000
namespace Go.Proofs.YtgcbaphbiaimoaaGreatDoor
open _root_.List renaming length->zd,mem_singleton->zc
open _root_.Nat renaming zero_le->ze
open _root_.Option renaming some->za
open _root_.Go.Proofs.Tryz
open _root_.Go.Proofs.YtgcbaphbiaimoaaGreatDoor.Tryz
section
open Go.ChangeShapes Go.WideShapes Go.ChangeAt Go.RowKit Go.Lib
def qF:List (String×DataW Unit):=[("math/bits.deBruijn32tab",Rows.laid_math_bits_deBruijn32tab),("math/bits.deBruijn64tab",Rows.laid_math_bits_deBruijn64tab),("internal/strconv.uint64pow10",Rows.laid_internal_strconv_uint64pow10),("unicode/utf8.acceptRanges",Rows.laid_unicode_utf8_acceptRanges),("errors.errorType",Rows.laid_errors_errorType),("loop.example/g00191/impl.plainMarks",Rows.laid_loop_example_g00191_impl_plainMarks),("loop.example/g00191/impl.keptMarks",Rows.laid_loop_example_g00191_impl_keptMarks),("unicode/utf8.first",Rows.laid_unicode_utf8_first)]
def nF:List (String×DataW Unit):=[("math/bits.deBruijn32tab",Rows.laid_math_bits_deBruijn32tab),("math/bits.deBruijn64tab",Rows.laid_math_bits_deBruijn64tab),("internal/strconv.uint64pow10",Rows.laid_internal_strconv_uint64pow10),("unicode/utf8.acceptRanges",Rows.laid_unicode_utf8_acceptRanges),("loop.example/g00191/impl.plainMarks",Rows.laid_loop_example_g00191_impl_plainMarks),("loop.example/g00191/impl.keptMarks",Rows.laid_loop_example_g00191_impl_keptMarks),("unicode/utf8.first",Rows.laid_unicode_utf8_first)]
theorem pC{W:World}(h:laidMetH prog qF W):laidMet prog nF W/\handlesMet prog [("errors.errorType",Rows.laid_errors_errorType)] W:=h
theorem Cs{W:World}(h:laidMetH prog qF W):Pow W:=by
 have hL:=(pC h).1;unfold nF at hL;rw[L7]at hL;obtain ⟨g',t',cs,fuel,p,hg,hty,hvar,hd⟩:=Lib.laidMet.reads hL (.tail _ (.tail _ (.head _)))
 obtain rfl:=za.inj ((show prog.globalNamed "internal/strconv.uint64pow10" =some 7 by kernel_rfl).symm.trans hg)
 obtain rfl:=za.inj ((show (prog.globals[7]?).map (·.type)=some 219 by kernel_rfl).symm.trans hty)
 show Lib.TabIs _ _ _ _ _;unfold Lib.TabIs;rw[hvar,<-Lib.cells_of_tab (P:=prog) (t:=219) (e:=186) (n:=20) (k:=.u64) kr kr kr kr hd]
theorem Ct{W:World}(h:laidMetH prog qF W):bK W:=by
 have hL:=(pC h).1;unfold nF at hL;rw[M4]at hL;obtain ⟨g',t',cs,fuel,p,hg,hty,hvar,hd⟩:=Lib.laidMet.reads hL (.tail _ (.head _));have hgg:prog.globalNamed "math/bits.deBruijn64tab" =some 11:=kr
 obtain rfl:=za.inj (hgg.symm.trans hg)
 obtain rfl:=za.inj ((show (prog.globals[11]?).map (·.type)=some 239 by kernel_rfl).symm.trans hty)
 have hT:Lib.TabIs prog W "math/bits.deBruijn64tab" .u8 M3:=by
  unfold Lib.TabIs;rw[hvar,<-Lib.cells_of_tab (P:=prog) (t:=239) (e:=5) (n:=64) (k:=.u8) kr kr kr kr hd]
 exact hT.cell hgg 15 de
theorem M7{W:World}(h:laidMetH prog qF W):Lib.Utf8Tabs 12 13 W:=by
 have hL:=(pC h).1;unfold nF at hL;rw[Gf,J2]at hL;exact utf8Tabs_of_readsT (U8Types.of196 lays196) ⟨kr,kr,kr,kr,kr,kr,kr⟩ (Lib.laidMet.reads hL (.tail _ (.tail _ (.tail _ (.tail _ (.tail _ (.tail _ (.head _)))))))) (Lib.laidMet.reads hL (.tail _ (.tail _ (.tail _ (.head _)))))
theorem ZX{W:World}(h:laidMetH prog qF W):gG W:=by
 have hL:=(pC h).1;unfold nF at hL;rw[UF,ZV]at hL;have h1:=rR (P:=prog) (g:=6) (t:=204) (e:=4) kr kr kr kr kr (Lib.laidMet.reads hL (.tail _ (.tail _ (.tail _ (.tail _ (.head _))))));have h2:=rR (P:=prog) (g:=9) (t:=204) (e:=4) kr kr kr kr kr (Lib.laidMet.reads hL (.tail _ (.tail _ (.tail _ (.tail _ (.tail _ (.head _)))))));exact fun c hc=>⟨h1 c hc,h2 c hc⟩
def LJ(W:World):Prop:=W.cell? ⟨0,0,none⟩=some (.iface 159 (.agg #[.pointer (some ⟨14,65,none⟩)]))
theorem M8:(prog.cutTypes.find? (·.1== "internal/reflectlite.rtype")).map (·.2)=some 159:=kr
theorem M9:((List.range 292).filter fun t=>prog.rowNamed t [101,114,114,111,114])=[65]:=kr
theorem ZY:prog.types.size=292:=kr
theorem N0{W:World}(h:laidMetH prog qF W):LJ W:=by
 obtain ⟨name,u,ty,e1,e2,e3,e4,e5⟩:=(pC h).2 _ (zc.2 rfl);have en:name=[101,114,114,111,114]:=(za.inj e1).symm;subst en
 obtain rfl:=za.inj (M8.symm.trans e2)
 have hm:ty∈(List.range 292).filter fun t=>prog.rowNamed t [101,114,114,111,114]:=List.mem_filter.2 ⟨List.mem_range.2 (by rw[<-ZY];exact e3),e4⟩
 rw[M9]at hm
 obtain rfl:=zc.1 hm
 have hh:typeHandle prog 65=.pointer (some ⟨14,65,none⟩):=kr;rw[hh]at e5;have hg:prog.globalNamed "errors.errorType" =some 0:=kr;have h0:=World.var?_cell hg e5 0;unfold LJ;simpa using h0
def Cu(h:Array Obj):Array Obj:=(ZW (M5 h)).modify 0 fun
 | .cells _ t frozen=> .cells #[.iface 159 (.agg #[.pointer (some ⟨14,65,none⟩)])] t frozen
 |o=>o
end
section
open Go.RowKit
def fE(l:List UInt8):Bool:=l.all fun c=>decide (c.toNat<128)
theorem DG(s:ByteArray)(h: ∀j,(hj:j<s.size)->s[j].toNat<128):fE s.data.toList=true:=by
 unfold fE;rw[List.all_eq_true];intro c hc;obtain ⟨j,hj,rfl⟩:=List.getElem_of_mem hc;exact decide_eq_true (h j (by simpa using hj))
theorem IC(s:ByteArray)(k:Nat)(hk:k<s.size)(h:128<=s[k].toNat):fE s.data.toList=false:=by
 unfold fE;rw[List.all_eq_false];refine ⟨s[k],?_,by simpa using h⟩;exact List.mem_iff_getElem.2 ⟨k,by simpa using hk,rfl⟩
theorem A0(s:ByteArray)(w:World)(hs:s.size<=maxLen):Calls prog 187 #[.string s] w fun e w'=>e=.returned (.bool (fE s.data.toList))/\w=w':=by
 unfold maxLen at hs;go_enter func187,ntmps187;go_wp2
 go_loop[3] (fun i=> ∃k:Nat,k<=s.size/\i=.int .i64 k/\ ∀j,(hj:j<s.size)->j<k->s[j].toNat<128) (fun i=>s.size-(intOf i).toNat)
 case atStart=>exact ⟨0,ze _,rfl,fun j _ h=>by omega⟩
 obtain ⟨k,hk,rfl,hall⟩:=hrel;have HA:Hid (∀j,(hj:j<s.size)->j<k->s[j].toNat<128):=hall;clear hall
 by_cases hlt:k<s.size
 .by_cases hb:s[k].toNat<128
  .have hb':(s[k].toNat:Int)<=127:=om
   go_wp2;go_round
   case rel=>
    refine ⟨k+1,om,gn,fun j hj h=> ?_⟩
    by_cases e:j=k
    .subst e;omega
    exact HA.out j hj om
   case measure=>exact j1
  have hb':127<(s[k].toNat:Int):=om;go_wp2;go_ret;exact ⟨aG (IC s k hlt om).symm,rfl⟩
 go_wp2;go_ret;exact ⟨aG (DG s fun j hj=>HA.out j hj om).symm,rfl⟩
theorem A3(s:ByteArray)(w:World)(hs:s.size<=maxLen):Calls prog 287 #[.string s] w fun e w'=>e=.returned (.bool (fE s.data.toList))/\w=w':=by
 unfold maxLen at hs;go_enter func287,ntmps287;go_wp2
 go_loop[6] (fun i=> ∃k:Nat,k<=s.size/\i=.int .i64 k/\ ∀j,(hj:j<s.size)->j<k->s[j].toNat<128) (fun i=>s.size-(intOf i).toNat)
 case atStart=>exact ⟨0,ze _,rfl,fun j _ h=>by omega⟩
 obtain ⟨k,hk,rfl,hall⟩:=hrel;have HA:Hid (∀j,(hj:j<s.size)->j<k->s[j].toNat<128):=hall;clear hall
 by_cases hlt:k<s.size
 .by_cases hb:s[k].toNat<128
  .have hb': ¬128<=(s[k].toNat:Int):=om
   clear hb;go_wp2;go_round
   case rel=>
    refine ⟨k+1,om,gn,fun j hj h=> ?_⟩
    by_cases e:j=k
    .subst e;omega
    exact HA.out j hj om
   case measure=>exact j1
  have hb':128<=(s[k].toNat:Int):=om;go_wp2;go_ret;exact ⟨aG (IC s k hlt om).symm,rfl⟩
 go_wp2;go_ret;exact ⟨aG (DG s fun j hj=>HA.out j hj om).symm,rfl⟩
def dH(r:Int):Prop:=0<=r/\r<=1114111/\(r<55296∨57343<r)
theorem dR(r:Int)(w:World)(h:dH r):Calls prog 226 #[.int .i64 r] w fun e w'=>e=.returned (.bool true)/\w=w':=by
 obtain ⟨h0,h1,h2⟩:=h;have H2:Hid (r<55296∨57343<r):=h2;clear h2;go_enter func226,ntmps226;go_wp2_with fail;refine j5 (aJ r 0 1114111 _ h0 h1) ?_;go_wp2_with fail;refine j5 (aN r 55296 57343 _ H2.out) ?_;go_wp2;go_ret;exact ⟨rfl,rfl⟩
theorem lL(r:Int)(w:World)(h: ¬dH r):Calls prog 226 #[.int .i64 r] w fun e w'=>e=.returned (.bool false)/\w=w':=by
 unfold dH at h
 by_cases a:0<=r/\r<=1114111
 .obtain ⟨h0,h1⟩:=a
  have h2:55296<=r/\r<=57343:=om;clear h;go_enter func226,ntmps226;go_wp2_with fail;refine j5 (aJ r 0 1114111 _ h0 h1) ?_;go_wp2_with fail;refine j5 (aJ r 55296 57343 _ h2.1 h2.2) ?_;go_wp2;go_ret;exact ⟨rfl,rfl⟩
 have H:Hid (r<0∨1114111<r):=by show _∨_;omega
 clear h a;go_enter func226,ntmps226;go_wp2_with fail;refine j5 (aN r 0 1114111 _ H.out) ?_;go_wp2;go_ret;exact ⟨rfl,rfl⟩

def yA(l:List Int):List UInt8:=l.flatMap Lib.encodeRune
theorem ON(l:List Int)(r:Int):yA (l++[r])=yA l++Lib.encodeRune r:=by simp[yA]
def vS(l:List Int):Prop:= ∀r∈l,dH r
end
section
abbrev qG(s:ByteArray)(p:Nat):Prop:= ¬((Utf8.decode s p).1=65533/\(Utf8.decode s p).2=1)
def bL(s:ByteArray)(p:Nat):Int×Int:=if qG s p then ((Utf8.decode s p).1,(Utf8.decode s p).2)else (0,0)
def bt(s:ByteArray)(p:Nat):Nat:=(s.get! p).toNat
theorem tG(s:ByteArray)(p:Nat)(h:p<s.size):bt s p=s[p].toNat:=by
 unfold bt
 have:=get_at s p h
 simp only[Nat.add_zero]at this;rw[this]
theorem tH(s:ByteArray)(p:Nat):bt s p<256:=(s.get! p).toNat_lt
theorem sR{s:ByteArray}{p c n:Nat}(h:Utf8.decode s p=(c,n))(h': ¬(c=65533/\n=1)):bL s p=((c:Int),(n:Int)):=by
 unfold bL;rw[if_pos (show qG s p by unfold qG;rw[h];exact h'),h]
theorem jY{s:ByteArray}{p:Nat}(h:Utf8.decode s p=(65533,1)):bL s p=(0,0):=by
 unfold bL;rw[if_neg (by unfold qG;rw[h];simp)]
theorem rune1(s:ByteArray)(p:Nat)(h:bt s p<128):bL s p=((bt s p:Int),1):=by
 refine sR (c:=bt s p) (n:=1) ?_ om;rw[Lib.decode_at];unfold bt at h;unfold Lib.decodeN bt;rw[if_pos h]
theorem rune0(s:ByteArray)(p:Nat)(h:128<=bt s p)(h2: ¬(194<=bt s p/\bt s p<=244)):bL s p=(0,0):=by
 refine jY ?_;have hl:=tH s p;have l1:=tH s (p+1);have l2:=tH s (p+2);have l3:=tH s (p+3);rw[Lib.decode_at];unfold bt at h h2 hl l1 l2 l3;unfold Lib.decodeN;generalize (s.get! p).toNat=b0 at*;generalize (s.get! (p+1)).toNat=b1 at*;generalize (s.get! (p+2)).toNat=b2 at*;generalize (s.get! (p+3)).toNat=b3 at*;rw[if_neg om];split
 .rw[if_neg om]
 rw[if_neg om];split
 .rw[if_neg om]
 rfl
theorem ID(s:ByteArray)(p:Nat)(h:194<=bt s p/\bt s p<=223)(hb: ¬(p+1<s.size/\128<=bt s (p+1)/\bt s (p+1)<=191)):bL s p=(0,0):=by
 refine jY ?_;have l1:=tH s (p+1);rw[Lib.decode_at];unfold bt at h hb l1;unfold Lib.decodeN;generalize (s.get! p).toNat=b0 at*;generalize (s.get! (p+1)).toNat=b1 at*;generalize (s.get! (p+2)).toNat=b2 at*;generalize (s.get! (p+3)).toNat=b3 at*;rw[if_neg om,if_neg om,if_neg om,if_neg om]
theorem rune2(s:ByteArray)(p:Nat)(h:194<=bt s p/\bt s p<=223)(hb:p+1<s.size/\128<=bt s (p+1)/\bt s (p+1)<=191):
  bL s p=((bt s p:Int)%32*64+(bt s (p+1):Int)%64,2):=by
 have e:Utf8.decode s p=(bt s p%32*64+bt s (p+1)%64,2):=by
  rw[Lib.decode_at];unfold bt at h hb⊢;unfold Lib.decodeN;generalize (s.get! p).toNat=b0 at*;generalize (s.get! (p+1)).toNat=b1 at*;generalize (s.get! (p+2)).toNat=b2 at*;generalize (s.get! (p+3)).toNat=b3 at*;rw[if_neg om,if_pos om,if_pos om]
 rw[sR e om];simp
theorem IE(s:ByteArray)(p:Nat)(h:224<=bt s p/\bt s p<=239)(hb: ¬(p+1<s.size/\128<=bt s (p+1)/\bt s (p+1)<=191/\p+2<s.size/\128<=bt s (p+2)/\bt s (p+2)<=191)):bL s p=(0,0):=by
 refine jY ?_;have l1:=tH s (p+1);have l2:=tH s (p+2);rw[Lib.decode_at];unfold bt at h hb l1 l2;unfold Lib.decodeN;generalize (s.get! p).toNat=b0 at*;generalize (s.get! (p+1)).toNat=b1 at*;generalize (s.get! (p+2)).toNat=b2 at*;generalize (s.get! (p+3)).toNat=b3 at*;rw[if_neg om,if_neg om,if_neg om,if_neg om]
theorem rune3(s:ByteArray)(p:Nat)(r:Int)(h:224<=bt s p/\bt s p<=239)(hb:p+1<s.size/\128<=bt s (p+1)/\bt s (p+1)<=191/\p+2<s.size/\128<=bt s (p+2)/\bt s (p+2)<=191)
  (hr:r=(bt s p:Int)%16*4096+(bt s (p+1):Int)%64*64+(bt s (p+2):Int)%64):
  bL s p=if r<2048∨ ¬(r<55296∨57343<r)then (0,0)else (r,3):=by
 have e:Utf8.decode s p=if bt s p%16*4096+bt s (p+1)%64*64+bt s (p+2)%64≥2048/\(bt s p%16*4096+bt s (p+1)%64*64+bt s (p+2)%64<55296∨57344<=bt s p%16*4096+bt s (p+1)%64*64+bt s (p+2)%64)then (bt s p%16*4096+bt s (p+1)%64*64+bt s (p+2)%64,3)else (65533,1):=by
  rw[Lib.decode_at];unfold bt at h hb⊢;unfold Lib.decodeN;generalize (s.get! p).toNat=b0 at*;generalize (s.get! (p+1)).toNat=b1 at*;generalize (s.get! (p+2)).toNat=b2 at*;generalize (s.get! (p+3)).toNat=b3 at*;rw[if_neg om,if_neg om,if_pos om]
  by_cases hx:b0%16*4096+b1%64*64+b2%64≥2048/\(b0%16*4096+b1%64*64+b2%64<55296∨57344<=b0%16*4096+b1%64*64+b2%64)
  .rw[if_pos hx,if_pos om]
  rw[if_neg hx,if_neg om]
 generalize hc:bt s p%16*4096+bt s (p+1)%64*64+bt s (p+2)%64=c at e;have hrc:r=(c:Int):=om
 by_cases hx:c≥2048/\(c<55296∨57344<=c)
 .rw[if_pos hx]at e
  rw[sR e om,if_neg om,hrc];rfl
 rw[if_neg hx]at e;rw[jY e,if_pos om]
theorem IF(s:ByteArray)(p:Nat)(h:240<=bt s p/\bt s p<=244)(hb: ¬(p+1<s.size/\128<=bt s (p+1)/\bt s (p+1)<=191/\p+2<s.size/\128<=bt s (p+2)/\bt s (p+2)<=191/\p+3<s.size/\128<=bt s (p+3)/\bt s (p+3)<=191)):bL s p=(0,0):=by
 refine jY ?_;have l1:=tH s (p+1);have l2:=tH s (p+2);have l3:=tH s (p+3);rw[Lib.decode_at];unfold bt at h hb l1 l2 l3;unfold Lib.decodeN;generalize (s.get! p).toNat=b0 at*;generalize (s.get! (p+1)).toNat=b1 at*;generalize (s.get! (p+2)).toNat=b2 at*;generalize (s.get! (p+3)).toNat=b3 at*;rw[if_neg om,if_neg om,if_neg om,if_neg om]
theorem rune4(s:ByteArray)(p:Nat)(r:Int)(h:240<=bt s p/\bt s p<=244)(hb:p+1<s.size/\128<=bt s (p+1)/\bt s (p+1)<=191/\p+2<s.size/\128<=bt s (p+2)/\bt s (p+2)<=191/\p+3<s.size/\128<=bt s (p+3)/\bt s (p+3)<=191)
  (hr:r=(bt s p:Int)%8*262144+(bt s (p+1):Int)%64*4096+(bt s (p+2):Int)%64*64+(bt s (p+3):Int)%64):
  bL s p=if r<65536∨ ¬r<=1114111 then (0,0)else (r,4):=by
 have e:Utf8.decode s p=if bt s p%8*262144+bt s (p+1)%64*4096+bt s (p+2)%64*64+bt s (p+3)%64≥65536/\bt s p%8*262144+bt s (p+1)%64*4096+bt s (p+2)%64*64+bt s (p+3)%64<=1114111 then (bt s p%8*262144+bt s (p+1)%64*4096+bt s (p+2)%64*64+bt s (p+3)%64,4)else (65533,1):=by
  rw[Lib.decode_at];unfold bt at h hb⊢;unfold Lib.decodeN;generalize (s.get! p).toNat=b0 at*;generalize (s.get! (p+1)).toNat=b1 at*;generalize (s.get! (p+2)).toNat=b2 at*;generalize (s.get! (p+3)).toNat=b3 at*;rw[if_neg om,if_neg om,if_neg om,if_pos om]
  by_cases hx:b0%8*262144+b1%64*4096+b2%64*64+b3%64≥65536/\b0%8*262144+b1%64*4096+b2%64*64+b3%64<=1114111
  .rw[if_pos hx,if_pos om]
  rw[if_neg hx,if_neg om]
 generalize hc:bt s p%8*262144+bt s (p+1)%64*4096+bt s (p+2)%64*64+bt s (p+3)%64=c at e;have hrc:r=(c:Int):=om
 by_cases hx:c≥65536/\c<=1114111
 .rw[if_pos hx]at e
  rw[sR e om,if_neg om,hrc];rfl
 rw[if_neg hx]at e;rw[jY e,if_pos om]
def stR(s:ByteArray):Nat->Nat×List Int
 |0=>(0,[])
 |k+1=>if (stR s k).1<s.size/\qG s (stR s k).1 then ((stR s k).1+(Utf8.decode s (stR s k).1).2,(stR s k).2++[((Utf8.decode s (stR s k).1).1:Int)])else stR s k
def qH(s:ByteArray)(k:Nat):Prop:= ¬((stR s k).1<s.size/\qG s (stR s k).1)
theorem vT(s:ByteArray)(k:Nat)(h1:(stR s k).1<s.size)(h2:qG s (stR s k).1):stR s (k+1)=((stR s k).1+(Utf8.decode s (stR s k).1).2,(stR s k).2++[((Utf8.decode s (stR s k).1).1:Int)]):=by
 rw[stR,if_pos ⟨h1,h2⟩]
theorem pD(s:ByteArray)(k:Nat)(h:qH s k): ∀j,stR s (k+j)=stR s k/\qH s (k+j)
 |0=>⟨rfl,h⟩
 |j+1=>by
  obtain ⟨e,g⟩:=pD s k h j;have e':stR s (k+(j+1))=stR s k:=by
   rw[<-Nat.add_assoc,stR,if_neg g,e]
  refine ⟨e',?_⟩;unfold qH at h⊢;rw[e'];exact h
theorem Gq(s:ByteArray)(k:Nat):qH s k∨k<=(stR s k).1:=by
 induction k with
 |zero=>exact .inr (ze _)
 |succ k ih=>
  rcases ih with h|h
  .exact .inl (pD s k h 1).2
  by_cases g:(stR s k).1<s.size/\qG s (stR s k).1
  .refine .inr ?_
   rw[vT s k g.1 g.2]
   have:=Lib.decode_width_pos s (stR s k).1 g.1
   simp only;omega
  exact .inl (pD s k g 1).2
def cF(s:ByteArray):Nat×List Int:=stR s s.size
theorem DH(s:ByteArray):qH s s.size:=by
 rcases Gq s s.size with h|h
 .exact h
 unfold qH;omega
theorem LK(s:ByteArray)(k:Nat)(h:qH s k):stR s k=cF s:=by
 unfold cF
 rcases Nat.le_total k s.size with g|g
 .have:=(pD s k h (s.size-k)).1
  rw[show k+(s.size-k)=s.size by omega]at this;exact this.symm
 have:=(pD s s.size (DH s) (k-s.size)).1
 rw[show s.size+(k-s.size)=k by omega]at this;exact this
theorem Cv(s:ByteArray)(k:Nat):(stR s k).2.length<=k:=by
 induction k with
 |zero=>simp[stR]
 |succ k ih=>
  rw[stR];split
  .simp;omega
  omega
theorem OO(s:ByteArray)(k:Nat):(stR s k).2.length<=(stR s k).1:=by
 induction k with
 |zero=>simp[stR]
 |succ k ih=>
  rw[stR];split
  .rename_i g
   have:=Lib.decode_width_pos s (stR s k).1 g.1
   simp;omega
  exact ih
theorem LL(s:ByteArray)(k:Nat):(stR s k).1<=s.size:=by
 induction k with
 |zero=>simp[stR]
 |succ k ih=>
  rw[stR];split
  .rename_i g
   have hne:s.data.toList.drop (stR s k).1≠[]:=by
    intro e
    have:=congrArg zd e
    simp at this;omega
   have:=Lib.decodeL_le (s.data.toList.drop (stR s k).1) hne
   rw[Lib.decodeL_drop]at this;simp at this⊢;omega
  exact ih
theorem N1(s:ByteArray)(k:Nat):Lib.validD (s.data.toList.drop (stR s k).1)=Lib.validD s.data.toList:=by
 induction k with
 |zero=>simp[stR]
 |succ k ih=>
  rw[stR];split
  .rename_i g
   have hne:s.data.toList.drop (stR s k).1≠[]:=by
    intro e
    have:=congrArg zd e
    simp at this;omega
   rw[<-ih,Lib.validD_step _ hne,Lib.decodeL_drop,if_neg g.2,List.drop_drop]
  exact ih
theorem yB(s:ByteArray):Lib.validD s.data.toList=true↔(cF s).1=s.size:=by
 have h:=N1 s s.size;have hs:=DH s;have hle:=LL s s.size;unfold cF qH at*;rw[<-h];constructor
 .intro hv
  by_cases e:(stR s s.size).1=s.size
  .exact e
  have hlt:(stR s s.size).1<s.size:=om;have hb: ¬qG s (stR s s.size).1:=fun g=>hs ⟨hlt,g⟩
  have hne:s.data.toList.drop (stR s s.size).1≠[]:=by
   intro e
   have:=congrArg zd e
   simp at this;omega
  rw[Lib.validD_step _ hne,Lib.decodeL_drop,if_pos (Classical.not_not.1 hb)]at hv
  cases hv
 intro e;rw[List.drop_eq_nil_of_le (by simp;omega)];rfl
theorem N2(s:ByteArray)(h:Lib.validD s.data.toList=true)(k:Nat)(hk:(stR s k).1<s.size):qG s (stR s k).1:=by
 by_cases g:qG s (stR s k).1
 .exact g
 exfalso
 have hst:qH s k:=fun x=>g x.2
 have e:=LK s k hst
 have:=(yB s).1 h
 rw[<-e]at this;omega
theorem FZ(s:ByteArray)(p:Nat)(h:qG s p):dH ((Utf8.decode s p).1:Int):=by
 unfold qG at h;rw[Lib.decode_at]at h⊢;generalize (s.get! p).toNat=b0 at*;generalize (s.get! (p+1)).toNat=b1 at*;generalize (s.get! (p+2)).toNat=b2 at*;generalize (s.get! (p+3)).toNat=b3 at*;unfold dH
 rcases Lib.decodeN_shape (s.size-p) b0 b1 b2 b3 with ⟨c,e⟩|⟨c1,c2,c3,cv,e⟩|⟨c1,c2,c3,c4,cv,cs,e⟩|⟨c1,c2,c3,c4,c5,cv,cs,e⟩|e
 .rw[e];simp only;omega
 .rw[e];simp only;omega
 .rw[e];simp only;omega
 .rw[e];simp only;omega
 rw[e]at h;simp at h
theorem N3(s:ByteArray)(k:Nat):vS (stR s k).2/\yA (stR s k).2=s.data.toList.take (stR s k).1:=by
 induction k with
 |zero=>exact ⟨fun r hr=>by simp[stR]at hr,by simp[stR,yA]⟩
 |succ k ih=>
  obtain ⟨i1,i2⟩:=ih;rw[stR];split
  .rename_i g
   refine ⟨fun r hr=> ?_,?_⟩
   .rcases List.mem_append.1 hr with hr|hr
    .exact i1 r hr
    rw[zc.1 hr];exact FZ s _ g.2
   have hne:s.data.toList.drop (stR s k).1≠[]:=by
    intro e
    have:=congrArg zd e
    simp at this;omega
   have hd:=Lib.encode_decode (s.data.toList.drop (stR s k).1) hne (by rw[Lib.decodeL_drop];exact g.2);rw[Lib.decodeL_drop]at hd;simp only;rw[ON,i2,hd,List.take_add]
  exact ⟨i1,i2⟩
theorem N4(s:ByteArray)(h:(cF s).1=s.size):vS (cF s).2/\yA (cF s).2=s.data.toList:=by
 obtain ⟨a,b⟩:=N3 s s.size;unfold cF at h⊢;refine ⟨a,?_⟩;rw[b,h,cS s _ (Nat.le_refl _)]
