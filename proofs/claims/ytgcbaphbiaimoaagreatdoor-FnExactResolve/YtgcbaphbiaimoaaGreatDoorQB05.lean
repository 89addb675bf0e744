/- KeepWalk, AsciiWalk, RuneOk, PutWalk, PutRunesWalk, RunesPlain, RunesBack, PunyPlain, AdaptWalk. -/
import Derived.Test.YtgcbaphbiaimoaaGreatDoorQB04
import Derived.Lib.RuneBytes
import Derived.Deep.QuietTactic
import Derived.Lib.TrimUEq
import Derived.Lib.MapLaws
import Derived.Lib.ValidLaws
import Derived.Lib.RuneCount
set_option maxHeartbeats 2000000
set_option maxRecDepth 20000
namespace Go.Proofs.YtgcbaphbiaimoaaGreatDoor
open Go.Value renaming int->I,bool->Y
open Go.IntKind renaming i64->J
open Go.Ending renaming returned->L
open _root_.Bool renaming and_eq_true->zz
open _root_.Int renaming eq_ofNat_of_zero_le->zk
open _root_.List renaming all_eq_true->zy,filter_append->zn,filter_cons_of_neg->zc,filter_cons_of_pos->za,filter_eq_self->zi,filter_nil->z2,length->zw,length_append->ze,length_cons->zg,length_filter_eq_length_iff->zl,length_filter_le->zd,length_nil->zu,mem_append->zj,mem_cons->zf,mem_singleton->zm,nil_append->zt
open _root_.Nat renaming add_mul->z1,add_zero->zq,div_le_of_le_mul->zh,le_refl->zo,lt_or_ge->zs,mul_comm->zr,mul_le_mul_left->zx,zero_le->z0
open _root_.Go.World renaming block_lt_of_cell?->zp,cell?_of_block->zv
open _root_.Go.Proofs.Tryz
open _root_.Go.Proofs.YtgcbaphbiaimoaaGreatDoor.Tryz
section
open Go.RowKit
def iX(w:World):Prop:= ∀c:Nat,c<128->w.cell? ⟨6,c,none⟩=some (Y (kD c))/\w.cell? ⟨9,c,none⟩=some (Y (pV c))
theorem iX.later{w w':World}(h:iX w)(hb:Below w.heap.size w w'):iX w':=fun c hc=>
 ⟨(zv (w:=w) (a:=⟨6,c,none⟩) (hb.block _ (zp w _ (h c hc).1))).trans (h c hc).1,
  (zv (w:=w) (a:=⟨9,c,none⟩) (hb.block _ (zp w _ (h c hc).2))).trans (h c hc).2⟩
theorem FH(c:Nat):decide (48<=(c:Int)/\(c:Int)<=57)=fK c:=by
 unfold fK;exact decide_eq_decide.2 om
theorem sQ(c:Nat)(w:World)(hM:iX w)(hc:(c:Int)<=255):Calls prog 158 #[.int .u8 (c:Int)] w fun e w'=>e=L (Y (fF c))/\w=w':=by
 have hc0:0<=(c:Int):=om
 cases hl:bI c with
 |true=>
  have HL:Hid (bI c=true):=hl;have HV:Hid (fF c=true):=by show _=_;unfold fF;rw[hl];rfl
  clear hl hM;go_enter func158,ntmps158;go_wp2_with fail;refine j5 (iQ c _ hc) ?_;rw[HL.out];go_wp2;go_ret;exact ⟨aF (by rw[HV.out]),rfl⟩
 |false=>
  have HL:Hid (bI c=false):=hl
  cases hg:fK c with
  |true=>
   have HG:Hid (fK c=true):=hg;have HV:Hid (fF c=true):=by show _=_;unfold fF;rw[hl,hg];rfl
   clear hl hg hM;go_enter func158,ntmps158;go_wp2_with fail;refine j5 (iQ c _ hc) ?_;rw[HL.out];go_wp2_with fail;refine j5 (fG c _ om) ?_;rw[FH,HG.out];go_wp2;go_ret;exact ⟨aF (by rw[HV.out]),rfl⟩
  |false=>
   have HG:Hid (fK c=false):=hg
   by_cases h128:(c:Int)<128
   .have hcell:=(hM c om).1
    have HV:Hid (fF c=kD c):=by show _=_;unfold fF;rw[hl,hg];rfl
    generalize kD c=b at hcell HV;clear hl hg hM;go_enter func158,ntmps158;go_wp2_with fail;refine j5 (iQ c _ hc) ?_;rw[HL.out];go_wp2_with fail;refine j5 (fG c _ om) ?_;rw[FH,HG.out];go_wp2;go_ret;exact ⟨aF (by rw[HV.out]),rfl⟩
   have HV:Hid (fF c=false):=by
    show _=_
    cases hx:fF c with
    |false=>rfl
    |true=>have:=Hi hx;omega
   have h129:128<=(c:Int):=om;clear hl hg hM h128;go_enter func158,ntmps158;go_wp2_with fail;refine j5 (iQ c _ hc) ?_;rw[HL.out];go_wp2_with fail;refine j5 (fG c _ om) ?_;rw[FH,HG.out];go_wp2;go_ret;exact ⟨aF (by rw[HV.out]),rfl⟩
theorem zZ{set:Int}(c:Int)(h: ¬(1<=set/\set<=3)):kW set c=false:=by
 unfold kW;rw[Y9 h];simp
theorem N9(set:Int){c:Int}(h:c<0):kW set c=false:=by
 unfold kW;rw[decide_eq_false om];rfl
theorem O0(set:Int){c:Int}(h:128<=c):kW set c=false:=by
 unfold kW
 cases hx:dX set c.toNat with
 |false=>simp
 |true=>have:=Hj hx;omega
theorem tW(set:Int)(n:Nat):kW set (n:Int)=dX set n:=by simp[kW]
theorem SL{set:Int}(h:1<=set/\set<=3):dX set 47=decide (set≠3):=by simp[dX,h,fF,bI,fK,kD,pV]
theorem SM{set:Int}(h:1<=set/\set<=3):dX set 63=decide (set=2):=by simp[dX,h,fF,bI,fK,kD,pV]
theorem XT{set:Int}{n:Nat}(h:1<=set/\set<=3)(h1:n≠47)(h2:n≠63):dX set n=(pV n||fF n):=by
 simp[dX,h,h1,h2,Bool.or_comm]
theorem O3(set c:Int)(w:World)(hM:iX w):Calls prog 216 #[I J set,I J c] w fun e w'=>e=L (Y (kW set c))/\w=w':=by
 by_cases h1:set<1
 .have HV:Hid (kW set c=false):=zZ c om
  clear hM;go_enter func216,ntmps216;go_wp2;go_ret;exact ⟨aF (by rw[HV.out]),rfl⟩
 by_cases h3:3<set
 .have HV:Hid (kW set c=false):=zZ c om
  clear hM;go_enter func216,ntmps216;go_wp2;go_ret;exact ⟨aF (by rw[HV.out]),rfl⟩
 by_cases hc0:c<0
 .have HV:Hid (kW set c=false):=N9 set hc0
  clear hM;go_enter func216,ntmps216;go_wp2;go_ret;exact ⟨aF (by rw[HV.out]),rfl⟩
 by_cases hc1:128<=c
 .have HV:Hid (kW set c=false):=O0 set hc1
  clear hM;go_enter func216,ntmps216;go_wp2;go_ret;exact ⟨aF (by rw[HV.out]),rfl⟩
 have hv:1<=set/\set<=3:=om;obtain ⟨n,rfl⟩:=zk (show 0<=c by omega);rw[tW];have hc2:(n:Int)<128:=om;have hc3:0<=(n:Int):=om;clear hc0 hc1
 by_cases hs:n=47
 .subst hs
  have HV:Hid (dX set 47=decide (set≠3)):=SL hv;clear hM
  by_cases he:set=3
  .go_enter func216,ntmps216
   go_wp2;go_ret;exact ⟨aF (by first|(rw[HV.out];simp[he])|decide),rfl⟩
  go_enter func216,ntmps216;go_wp2;go_ret;exact ⟨aF (by first|(rw[HV.out];simp[he])|decide),rfl⟩
 by_cases hq:n=63
 .subst hq
  have HV:Hid (dX set 63=decide (set=2)):=SM hv;clear hM
  by_cases he:set=2
  .go_enter func216,ntmps216
   go_wp2;go_ret;exact ⟨aF (by first|(rw[HV.out];simp[he])|decide),rfl⟩
  go_enter func216,ntmps216;go_wp2;go_ret;exact ⟨aF (by first|(rw[HV.out];simp[he])|decide),rfl⟩
 have HV:Hid (dX set n=(pV n||fF n)):=XT hv hs hq;have hs': ¬(n:Int)=47:=om;have hq': ¬(n:Int)=63:=om;have hcell:=(hM n om).2;have HM:Hid (iX w):=hM;clear hM hs hq hv;generalize pV n=b at hcell HV
 cases b with
 |true=>
  go_enter func216,ntmps216;go_wp2;go_ret;exact ⟨aF (by rw[HV.out];rfl),rfl⟩
 |false=>
  go_enter func216,ntmps216;go_wp2_with fail;refine j5 (sQ n _ HM.out om) ?_;go_wp2;go_ret;exact ⟨aF (by rw[HV.out];rfl),rfl⟩
def fY(l:List UInt8):Bool:=l.all fun c=>decide (c.toNat<128)
theorem FI(s:ByteArray)(h: ∀j,(hj:j<s.size)->s[j].toNat<128):fY s.data.toList=true:=by
 unfold fY;rw[zy];intro c hc;obtain ⟨j,hj,rfl⟩:=List.getElem_of_mem hc;exact decide_eq_true (h j (by simpa using hj))
theorem KU(s:ByteArray)(k:Nat)(hk:k<s.size)(h:128<=s[k].toNat):fY s.data.toList=false:=by
 unfold fY;rw[List.all_eq_false];refine ⟨s[k],?_,by simpa using h⟩;exact List.mem_iff_getElem.2 ⟨k,by simpa using hk,rfl⟩
theorem O4(s:ByteArray)(w:World)(hs:s.size<=maxLen):Calls prog 187 #[.string s] w fun e w'=>e=L (Y (fY s.data.toList))/\w=w':=by
 unfold maxLen at hs;go_enter func187,ntmps187;go_wp2
 go_loop[3] (fun i=> ∃k:Nat,k<=s.size/\i=I J k/\ ∀j,(hj:j<s.size)->j<k->s[j].toNat<128) (fun i=>s.size-(intOf i).toNat)
 case atStart=>exact ⟨0,z0 _,rfl,fun j _ h=>by omega⟩
 obtain ⟨k,hk,rfl,hall⟩:=hrel;have HA:Hid (∀j,(hj:j<s.size)->j<k->s[j].toNat<128):=hall;clear hall
 by_cases hlt:k<s.size
 .by_cases hb:s[k].toNat<128
  .have hb':(s[k].toNat:Int)<=127:=om
   go_wp2;go_round
   case rel=>
    refine ⟨k+1,om,gn,fun j hj h=> ?_⟩
    by_cases e:j=k
    .subst e;omega
    exact HA.out j hj om
   case measure=>exact j1
  have hb':127<(s[k].toNat:Int):=om;go_wp2;go_ret;exact ⟨aF (KU s k hlt om).symm,rfl⟩
 go_wp2;go_ret;exact ⟨aF (FI s fun j hj=>HA.out j hj om).symm,rfl⟩
theorem O5(s:ByteArray)(w:World)(hs:s.size<=maxLen):Calls prog 287 #[.string s] w fun e w'=>e=L (Y (fY s.data.toList))/\w=w':=by
 unfold maxLen at hs;go_enter func287,ntmps287;go_wp2
 go_loop[6] (fun i=> ∃k:Nat,k<=s.size/\i=I J k/\ ∀j,(hj:j<s.size)->j<k->s[j].toNat<128) (fun i=>s.size-(intOf i).toNat)
 case atStart=>exact ⟨0,z0 _,rfl,fun j _ h=>by omega⟩
 obtain ⟨k,hk,rfl,hall⟩:=hrel;have HA:Hid (∀j,(hj:j<s.size)->j<k->s[j].toNat<128):=hall;clear hall
 by_cases hlt:k<s.size
 .by_cases hb:s[k].toNat<128
  .have hb': ¬128<=(s[k].toNat:Int):=om
   clear hb;go_wp2;go_round
   case rel=>
    refine ⟨k+1,om,gn,fun j hj h=> ?_⟩
    by_cases e:j=k
    .subst e;omega
    exact HA.out j hj om
   case measure=>exact j1
  have hb':128<=(s[k].toNat:Int):=om;go_wp2;go_ret;exact ⟨aF (KU s k hlt om).symm,rfl⟩
 go_wp2;go_ret;exact ⟨aF (FI s fun j hj=>HA.out j hj om).symm,rfl⟩
def dU(r:Int):Prop:=0<=r/\r<=1114111/\(r<55296∨57343<r)
theorem eL(r:Int)(w:World)(h:dU r):Calls prog 226 #[I J r] w fun e w'=>e=L (Y true)/\w=w':=by
 obtain ⟨h0,h1,h2⟩:=h;have H2:Hid (r<55296∨57343<r):=h2;clear h2;go_enter func226,ntmps226;go_wp2_with fail;refine j5 (aI r 0 1114111 _ h0 h1) ?_;go_wp2_with fail;refine j5 (aP r 55296 57343 _ H2.out) ?_;go_wp2;go_ret;exact ⟨rfl,rfl⟩
theorem mN(r:Int)(w:World)(h: ¬dU r):Calls prog 226 #[I J r] w fun e w'=>e=L (Y false)/\w=w':=by
 unfold dU at h
 by_cases a:0<=r/\r<=1114111
 .obtain ⟨h0,h1⟩:=a
  have h2:55296<=r/\r<=57343:=om;clear h;go_enter func226,ntmps226;go_wp2_with fail;refine j5 (aI r 0 1114111 _ h0 h1) ?_;go_wp2_with fail;refine j5 (aI r 55296 57343 _ h2.1 h2.2) ?_;go_wp2;go_ret;exact ⟨rfl,rfl⟩
 have H:Hid (r<0∨1114111<r):=by show _∨_;omega
 clear h a;go_enter func226,ntmps226;go_wp2_with fail;refine j5 (aP r 0 1114111 _ H.out) ?_;go_wp2;go_ret;exact ⟨rfl,rfl⟩

def AA(l:List Int):List UInt8:=l.flatMap Lib.encodeRune
theorem SO(l:List Int)(r:Int):AA (l++[r])=AA l++Lib.encodeRune r:=by simp[AA]
def xL(l:List Int):Prop:= ∀r∈l,dU r
end
section
abbrev rJ(s:ByteArray)(p:Nat):Prop:= ¬((Utf8.decode s p).1=65533/\(Utf8.decode s p).2=1)
def bY(s:ByteArray)(p:Nat):Int×Int:=if rJ s p then ((Utf8.decode s p).1,(Utf8.decode s p).2)else (0,0)
def bt(s:ByteArray)(p:Nat):Nat:=(s.get! p).toNat
theorem uT(s:ByteArray)(p:Nat)(h:p<s.size):bt s p=s[p].toNat:=by
 unfold bt
 have:=get_at s p h
 simp only[zq]at this;rw[this]
theorem uU(s:ByteArray)(p:Nat):bt s p<256:=(s.get! p).toNat_lt
theorem tX{s:ByteArray}{p c n:Nat}(h:Utf8.decode s p=(c,n))(h': ¬(c=65533/\n=1)):bY s p=((c:Int),(n:Int)):=by
 unfold bY;rw[if_pos (show rJ s p by unfold rJ;rw[h];exact h'),h]
theorem lB{s:ByteArray}{p:Nat}(h:Utf8.decode s p=(65533,1)):bY s p=(0,0):=by
 unfold bY;rw[if_neg (by unfold rJ;rw[h];simp)]
theorem rune1(s:ByteArray)(p:Nat)(h:bt s p<128):bY s p=((bt s p:Int),1):=by
 refine tX (c:=bt s p) (n:=1) ?_ om;rw[Lib.decode_at];unfold bt at h;unfold Lib.decodeN bt;rw[if_pos h]
theorem rune0(s:ByteArray)(p:Nat)(h:128<=bt s p)(h2: ¬(194<=bt s p/\bt s p<=244)):bY s p=(0,0):=by
 refine lB ?_;have hl:=uU s p;have l1:=uU s (p+1);have l2:=uU s (p+2);have l3:=uU s (p+3);rw[Lib.decode_at];unfold bt at h h2 hl l1 l2 l3;unfold Lib.decodeN;generalize (s.get! p).toNat=b0 at*;generalize (s.get! (p+1)).toNat=b1 at*;generalize (s.get! (p+2)).toNat=b2 at*;generalize (s.get! (p+3)).toNat=b3 at*;rw[if_neg om];split
 .rw[if_neg om]
 rw[if_neg om];split
 .rw[if_neg om]
 rfl
theorem KV(s:ByteArray)(p:Nat)(h:194<=bt s p/\bt s p<=223)(hb: ¬(p+1<s.size/\128<=bt s (p+1)/\bt s (p+1)<=191)):bY s p=(0,0):=by
 refine lB ?_;have l1:=uU s (p+1);rw[Lib.decode_at];unfold bt at h hb l1;unfold Lib.decodeN;generalize (s.get! p).toNat=b0 at*;generalize (s.get! (p+1)).toNat=b1 at*;generalize (s.get! (p+2)).toNat=b2 at*;generalize (s.get! (p+3)).toNat=b3 at*;rw[if_neg om,if_neg om,if_neg om,if_neg om]
theorem rune2(s:ByteArray)(p:Nat)(h:194<=bt s p/\bt s p<=223)(hb:p+1<s.size/\128<=bt s (p+1)/\bt s (p+1)<=191):
  bY s p=((bt s p:Int)%32*64+(bt s (p+1):Int)%64,2):=by
 have e:Utf8.decode s p=(bt s p%32*64+bt s (p+1)%64,2):=by
  rw[Lib.decode_at];unfold bt at h hb⊢;unfold Lib.decodeN;generalize (s.get! p).toNat=b0 at*;generalize (s.get! (p+1)).toNat=b1 at*;generalize (s.get! (p+2)).toNat=b2 at*;generalize (s.get! (p+3)).toNat=b3 at*;rw[if_neg om,if_pos om,if_pos om]
 rw[tX e om];simp
theorem KW(s:ByteArray)(p:Nat)(h:224<=bt s p/\bt s p<=239)(hb: ¬(p+1<s.size/\128<=bt s (p+1)/\bt s (p+1)<=191/\p+2<s.size/\128<=bt s (p+2)/\bt s (p+2)<=191)):bY s p=(0,0):=by
 refine lB ?_;have l1:=uU s (p+1);have l2:=uU s (p+2);rw[Lib.decode_at];unfold bt at h hb l1 l2;unfold Lib.decodeN;generalize (s.get! p).toNat=b0 at*;generalize (s.get! (p+1)).toNat=b1 at*;generalize (s.get! (p+2)).toNat=b2 at*;generalize (s.get! (p+3)).toNat=b3 at*;rw[if_neg om,if_neg om,if_neg om,if_neg om]
theorem rune3(s:ByteArray)(p:Nat)(r:Int)(h:224<=bt s p/\bt s p<=239)(hb:p+1<s.size/\128<=bt s (p+1)/\bt s (p+1)<=191/\p+2<s.size/\128<=bt s (p+2)/\bt s (p+2)<=191)
  (hr:r=(bt s p:Int)%16*4096+(bt s (p+1):Int)%64*64+(bt s (p+2):Int)%64):
  bY s p=if r<2048∨ ¬(r<55296∨57343<r)then (0,0)else (r,3):=by
 have e:Utf8.decode s p=if bt s p%16*4096+bt s (p+1)%64*64+bt s (p+2)%64≥2048/\(bt s p%16*4096+bt s (p+1)%64*64+bt s (p+2)%64<55296∨57344<=bt s p%16*4096+bt s (p+1)%64*64+bt s (p+2)%64)then (bt s p%16*4096+bt s (p+1)%64*64+bt s (p+2)%64,3)else (65533,1):=by
  rw[Lib.decode_at];unfold bt at h hb⊢;unfold Lib.decodeN;generalize (s.get! p).toNat=b0 at*;generalize (s.get! (p+1)).toNat=b1 at*;generalize (s.get! (p+2)).toNat=b2 at*;generalize (s.get! (p+3)).toNat=b3 at*;rw[if_neg om,if_neg om,if_pos om]
  by_cases hx:b0%16*4096+b1%64*64+b2%64≥2048/\(b0%16*4096+b1%64*64+b2%64<55296∨57344<=b0%16*4096+b1%64*64+b2%64)
  .rw[if_pos hx,if_pos om]
  rw[if_neg hx,if_neg om]
 generalize hc:bt s p%16*4096+bt s (p+1)%64*64+bt s (p+2)%64=c at e;have hrc:r=(c:Int):=om
 by_cases hx:c≥2048/\(c<55296∨57344<=c)
 .rw[if_pos hx]at e
  rw[tX e om,if_neg om,hrc];rfl
 rw[if_neg hx]at e;rw[lB e,if_pos om]
theorem KX(s:ByteArray)(p:Nat)(h:240<=bt s p/\bt s p<=244)(hb: ¬(p+1<s.size/\128<=bt s (p+1)/\bt s (p+1)<=191/\p+2<s.size/\128<=bt s (p+2)/\bt s (p+2)<=191/\p+3<s.size/\128<=bt s (p+3)/\bt s (p+3)<=191)):bY s p=(0,0):=by
 refine lB ?_;have l1:=uU s (p+1);have l2:=uU s (p+2);have l3:=uU s (p+3);rw[Lib.decode_at];unfold bt at h hb l1 l2 l3;unfold Lib.decodeN;generalize (s.get! p).toNat=b0 at*;generalize (s.get! (p+1)).toNat=b1 at*;generalize (s.get! (p+2)).toNat=b2 at*;generalize (s.get! (p+3)).toNat=b3 at*;rw[if_neg om,if_neg om,if_neg om,if_neg om]
theorem rune4(s:ByteArray)(p:Nat)(r:Int)(h:240<=bt s p/\bt s p<=244)(hb:p+1<s.size/\128<=bt s (p+1)/\bt s (p+1)<=191/\p+2<s.size/\128<=bt s (p+2)/\bt s (p+2)<=191/\p+3<s.size/\128<=bt s (p+3)/\bt s (p+3)<=191)
  (hr:r=(bt s p:Int)%8*262144+(bt s (p+1):Int)%64*4096+(bt s (p+2):Int)%64*64+(bt s (p+3):Int)%64):
  bY s p=if r<65536∨ ¬r<=1114111 then (0,0)else (r,4):=by
 have e:Utf8.decode s p=if bt s p%8*262144+bt s (p+1)%64*4096+bt s (p+2)%64*64+bt s (p+3)%64≥65536/\bt s p%8*262144+bt s (p+1)%64*4096+bt s (p+2)%64*64+bt s (p+3)%64<=1114111 then (bt s p%8*262144+bt s (p+1)%64*4096+bt s (p+2)%64*64+bt s (p+3)%64,4)else (65533,1):=by
  rw[Lib.decode_at];unfold bt at h hb⊢;unfold Lib.decodeN;generalize (s.get! p).toNat=b0 at*;generalize (s.get! (p+1)).toNat=b1 at*;generalize (s.get! (p+2)).toNat=b2 at*;generalize (s.get! (p+3)).toNat=b3 at*;rw[if_neg om,if_neg om,if_neg om,if_pos om]
  by_cases hx:b0%8*262144+b1%64*4096+b2%64*64+b3%64≥65536/\b0%8*262144+b1%64*4096+b2%64*64+b3%64<=1114111
  .rw[if_pos hx,if_pos om]
  rw[if_neg hx,if_neg om]
 generalize hc:bt s p%8*262144+bt s (p+1)%64*4096+bt s (p+2)%64*64+bt s (p+3)%64=c at e;have hrc:r=(c:Int):=om
 by_cases hx:c≥65536/\c<=1114111
 .rw[if_pos hx]at e
  rw[tX e om,if_neg om,hrc];rfl
 rw[if_neg hx]at e;rw[lB e,if_pos om]
def stR(s:ByteArray):Nat->Nat×List Int
 |0=>(0,[])
 |k+1=>if (stR s k).1<s.size/\rJ s (stR s k).1 then ((stR s k).1+(Utf8.decode s (stR s k).1).2,(stR s k).2++[((Utf8.decode s (stR s k).1).1:Int)])else stR s k
def rK(s:ByteArray)(k:Nat):Prop:= ¬((stR s k).1<s.size/\rJ s (stR s k).1)
theorem xM(s:ByteArray)(k:Nat)(h1:(stR s k).1<s.size)(h2:rJ s (stR s k).1):stR s (k+1)=((stR s k).1+(Utf8.decode s (stR s k).1).2,(stR s k).2++[((Utf8.decode s (stR s k).1).1:Int)]):=by
 rw[stR,if_pos ⟨h1,h2⟩]
theorem qD(s:ByteArray)(k:Nat)(h:rK s k): ∀j,stR s (k+j)=stR s k/\rK s (k+j)
 |0=>⟨rfl,h⟩
 |j+1=>by
  obtain ⟨e,g⟩:=qD s k h j;have e':stR s (k+(j+1))=stR s k:=by
   rw[<-Nat.add_assoc,stR,if_neg g,e]
  refine ⟨e',?_⟩;unfold rK at h⊢;rw[e'];exact h
theorem Lz(s:ByteArray)(k:Nat):rK s k∨k<=(stR s k).1:=by
 induction k with
 |zero=>exact .inr (z0 _)
 |succ k ih=>
  rcases ih with h|h
  .exact .inl (qD s k h 1).2
  by_cases g:(stR s k).1<s.size/\rJ s (stR s k).1
  .refine .inr ?_
   rw[xM s k g.1 g.2]
   have:=Lib.decode_width_pos s (stR s k).1 g.1
   simp only;omega
  exact .inl (qD s k g 1).2
def cS(s:ByteArray):Nat×List Int:=stR s s.size
theorem FJ(s:ByteArray):rK s s.size:=by
 rcases Lz s s.size with h|h
 .exact h
 unfold rK;omega
theorem OF(s:ByteArray)(k:Nat)(h:rK s k):stR s k=cS s:=by
 unfold cS
 rcases Nat.le_total k s.size with g|g
 .have:=(qD s k h (s.size-k)).1
  rw[show k+(s.size-k)=s.size by omega]at this;exact this.symm
 have:=(qD s s.size (FJ s) (k-s.size)).1
 rw[show s.size+(k-s.size)=k by omega]at this;exact this
theorem Hu(s:ByteArray)(k:Nat):(stR s k).2.length<=k:=by
 induction k with
 |zero=>simp[stR]
 |succ k ih=>
  rw[stR];split
  .simp;omega
  omega
theorem SP(s:ByteArray)(k:Nat):(stR s k).2.length<=(stR s k).1:=by
 induction k with
 |zero=>simp[stR]
 |succ k ih=>
  rw[stR];split
  .rename_i g
   have:=Lib.decode_width_pos s (stR s k).1 g.1
   simp;omega
  exact ih
theorem OG(s:ByteArray)(k:Nat):(stR s k).1<=s.size:=by
 induction k with
 |zero=>simp[stR]
 |succ k ih=>
  rw[stR];split
  .rename_i g
   have hne:s.data.toList.drop (stR s k).1≠[]:=by
    intro e
    have:=congrArg zw e
    simp at this;omega
   have:=Lib.decodeL_le (s.data.toList.drop (stR s k).1) hne
   rw[Lib.decodeL_drop]at this;simp at this⊢;omega
  exact ih
theorem Ao(s:ByteArray)(k:Nat):Lib.validD (s.data.toList.drop (stR s k).1)=Lib.validD s.data.toList:=by
 induction k with
 |zero=>simp[stR]
 |succ k ih=>
  rw[stR];split
  .rename_i g
   have hne:s.data.toList.drop (stR s k).1≠[]:=by
    intro e
    have:=congrArg zw e
    simp at this;omega
   rw[<-ih,Lib.validD_step _ hne,Lib.decodeL_drop,if_neg g.2,List.drop_drop]
  exact ih
theorem AB(s:ByteArray):Lib.validD s.data.toList=true↔(cS s).1=s.size:=by
 have h:=Ao s s.size;have hs:=FJ s;have hle:=OG s s.size;unfold cS rK at*;rw[<-h];constructor
 .intro hv
  by_cases e:(stR s s.size).1=s.size
  .exact e
  have hlt:(stR s s.size).1<s.size:=om;have hb: ¬rJ s (stR s s.size).1:=fun g=>hs ⟨hlt,g⟩
  have hne:s.data.toList.drop (stR s s.size).1≠[]:=by
   intro e
   have:=congrArg zw e
   simp at this;omega
  rw[Lib.validD_step _ hne,Lib.decodeL_drop,if_pos (Classical.not_not.1 hb)]at hv
  cases hv
 intro e;rw[List.drop_eq_nil_of_le (by simp;omega)];rfl
theorem Ap(s:ByteArray)(h:Lib.validD s.data.toList=true)(k:Nat)(hk:(stR s k).1<s.size):rJ s (stR s k).1:=by
 by_cases g:rJ s (stR s k).1
 .exact g
 exfalso
 have hst:rK s k:=fun x=>g x.2
 have e:=OF s k hst
 have:=(AB s).1 h
 rw[<-e]at this;omega
theorem KA(s:ByteArray)(p:Nat)(h:rJ s p):dU ((Utf8.decode s p).1:Int):=by
 unfold rJ at h;rw[Lib.decode_at]at h⊢;generalize (s.get! p).toNat=b0 at*;generalize (s.get! (p+1)).toNat=b1 at*;generalize (s.get! (p+2)).toNat=b2 at*;generalize (s.get! (p+3)).toNat=b3 at*;unfold dU
 rcases Lib.decodeN_shape (s.size-p) b0 b1 b2 b3 with ⟨c,e⟩|⟨c1,c2,c3,cv,e⟩|⟨c1,c2,c3,c4,cv,cs,e⟩|⟨c1,c2,c3,c4,c5,cv,cs,e⟩|e
 .rw[e];simp only;omega
 .rw[e];simp only;omega
 .rw[e];simp only;omega
 .rw[e];simp only;omega
 rw[e]at h;simp at h
theorem Aq(s:ByteArray)(k:Nat):xL (stR s k).2/\AA (stR s k).2=s.data.toList.take (stR s k).1:=by
 induction k with
 |zero=>exact ⟨fun r hr=>by simp[stR]at hr,by simp[stR,AA]⟩
 |succ k ih=>
  obtain ⟨i1,i2⟩:=ih;rw[stR];split
  .rename_i g
   refine ⟨fun r hr=> ?_,?_⟩
   .rcases zj.1 hr with hr|hr
    .exact i1 r hr
    rw[zm.1 hr];exact KA s _ g.2
   have hne:s.data.toList.drop (stR s k).1≠[]:=by
    intro e
    have:=congrArg zw e
    simp at this;omega
   have hd:=Lib.encode_decode (s.data.toList.drop (stR s k).1) hne (by rw[Lib.decodeL_drop];exact g.2);rw[Lib.decodeL_drop]at hd;simp only;rw[SO,i2,hd,List.take_add]
  exact ⟨i1,i2⟩
theorem Ar(s:ByteArray)(h:(cS s).1=s.size):xL (cS s).2/\AA (cS s).2=s.data.toList:=by
 obtain ⟨a,b⟩:=Aq s s.size;unfold cS at h⊢;refine ⟨a,?_⟩;rw[b,h,dD s _ (zo _)]
end
section
open Go.RowKit
def bQ(k bias:Nat):Nat:=if k<=bias then 1 else if 26<k-bias then 26 else k-bias
theorem rL(k bias:Nat):1<=bQ k bias/\bQ k bias<=26:=by
 unfold bQ;split
 .omega
 split<;>omega
def dK:Nat->Nat->Nat->Nat->List Nat
 |0,_,_,_=>[]
 |f+1,k,bias,q=>if q<bQ k bias then [q]else (bQ k bias+(q-bQ k bias)%(36-bQ k bias))::dK f (k+36) bias ((q-bQ k bias)/(36-bQ k bias))
def dM(bias:Nat):Nat->Nat->Nat->List Nat->Option (Nat×List Nat)
 |_,_,_,[]=>none
 |k,i,w,d::ds=>if 1099511627776<i∨1099511627776<w∨36<=d then none else if d<bQ k bias then some (i+d*w,ds)else dM bias (k+36) (i+d*w) (w*(36-bQ k bias)) ds
theorem As(q t:Nat)(h:t<=q):(t+(q-t)%(36-t))+(36-t)*((q-t)/(36-t))=q:=by
 have:=Nat.mod_add_div (q-t) (36-t)
 omega
theorem SR(q t f:Nat)(h1:1<=t)(h2:t<=26)(hq:q<2^(f+1)):(q-t)/(36-t)<2^f:=by
 have h3:(q-t)/(36-t)<=(q-t)/2:=Nat.div_le_div_left om om;have h4:2^(f+1)=2*2^f:=by rw[Nat.pow_succ];omega
 omega
theorem At(bias:Nat)(r:List Nat): ∀(f k q i w:Nat),q<2^f->i+w*q<=17179869184->w<=1099511627776->dM bias k i w (dK (f+1) k bias q++r)=some (i+w*q,r):=by
 intro f
 induction f with
 |zero=>
  intro k q i w hq hi hw;have h0:q=0:=by simpa using hq
  subst h0;have hl:=rL k bias;have e:dK (0+1) k bias 0=[0]:=by unfold dK;rw[if_pos om]
  rw[e];show dM bias k i w (0::r)=_;unfold dM;rw[if_neg om,if_pos om];simp
 |succ f ih=>
  intro k q i w hq hi hw;obtain ⟨l1,l2⟩:=rL k bias
  by_cases hlt:q<bQ k bias
  .have e:dK (f+1+1) k bias q=[q]:=by rw[dK,if_pos hlt]
   rw[e];show dM bias k i w (q::r)=_;unfold dM;rw[if_neg om,if_pos hlt,zr q w]
  have e:dK (f+1+1) k bias q=(bQ k bias+(q-bQ k bias)%(36-bQ k bias))::dK (f+1) (k+36) bias ((q-bQ k bias)/(36-bQ k bias)):=by rw[dK,if_neg hlt]
  rw[e];obtain ⟨t,ht⟩: ∃t,bQ k bias=t:=⟨_,rfl⟩;rw[ht]at hlt l1 l2⊢;have hs:=As q t om;have hless:=SR q t f l1 l2 hq;have hm:(q-t)%(36-t)<36-t:=Nat.mod_lt _ om;have hw1:w<=w*q:=Nat.le_mul_of_pos_right w om;generalize (q-t)%(36-t)=m at*;generalize (q-t)/(36-t)=q' at*;have hsum:i+(t+m)*w+w*(36-t)*q'=i+w*q:=by
   rw[<-hs,Nat.mul_add,zr (t+m) w,Nat.mul_assoc];omega
  have hw2:w*(36-t)<=w*35:=zx w om;show dM bias k i w ((t+m)::(dK (f+1) (k+36) bias q'++r))=_;unfold dM;rw[if_neg om,if_neg om,ht,ih (k+36) q' _ _ hless om om,hsum]
def bT(n:Nat):Nat:=if n<26 then 97+n else 22+n
def bC(c:Nat):Nat:=if 97<=c/\c<=122 then c-97 else if 48<=c/\c<=57 then c-22 else 36
theorem Hv{n:Nat}(h:n<36):bC (bT n)=n:=by
 unfold bT bC;split
 .rw[if_pos om];omega
 rw[if_neg om,if_pos om];omega
theorem AC{n:Nat}(h:n<36):bT n<128/\bT n≠45:=by
 unfold bT;split<;>omega
theorem Ma(bias:Nat): ∀(f k q:Nat),∀d∈dK f k bias q,d<36:=by
 intro f
 induction f with
 |zero=>intro k q d h;simp[dK]at h
 |succ f ih=>
  intro k q d h;obtain ⟨l1,l2⟩:=rL k bias;unfold dK at h;split at h
  .rw[zm.1 h];omega
  rcases zf.1 h with h|h
  .rw[h]
   have hm:(q-bQ k bias)%(36-bQ k bias)<36-bQ k bias:=Nat.mod_lt _ om;omega
  exact ih _ _ d h
theorem E7(bias f k q:Nat):dK (f+1) k bias q≠[]:=by
 unfold dK;split<;>simp
def cN:Nat->Nat->Nat->Nat
 |0,d,k=>k+36*d/(d+38)
 |f+1,d,k=>if 455<d then cN f (d/35) (k+36)else k+36*d/(d+38)
def bB(delta n:Nat)(first:Bool):Nat:=
 if 1000000000000<delta∨n<1∨1000000<n then 0
 else cN 64 ((if first then delta/700 else delta/2)+(if first then delta/700 else delta/2)/n) 0
def aH(n:Nat):List Nat->Nat->List Nat×Nat
 |[],d=>([],d)
 |c::r,d=>if c<n then aH n r (d+1)else if c=n then (d::(aH n r 0).1,(aH n r 0).2)else aH n r d
def aL(n:Nat):List Nat->Nat
 |[]=>1114112
 |c::r=>if n<=c/\c<aL n r then c else aL n r
def eG(l:List Nat):Nat->Nat->Nat->Nat->List Nat
 |0,_,_,_=>[]
 |f+1,n,d,h=>if h<l.length then (aH (aL n l) l (d+(aL n l-n)*(h+1))).1++eG l f (aL n l+1) ((aH (aL n l) l (d+(aL n l-n)*(h+1))).2+1) (h+(aH (aL n l) l (d+(aL n l-n)*(h+1))).1.length)else []
def dR(i x:Nat)(l:List Nat):List Nat:=l.take i++x::l.drop i
theorem O6(a b:List Nat)(x:Nat):dR a.length x (a++b)=a++x::b:=by simp[dR]
def DJ:Nat->Nat->List Nat->List Nat->Option (List Nat)
 |_,_,out,[]=>some out
 |n,i,out,d::ds=>
  if 60<out.length+1∨1114111<n+(i+d)/(out.length+1)then none
  else DJ (n+(i+d)/(out.length+1)) ((i+d)%(out.length+1)+1) (dR ((i+d)%(out.length+1)) (n+(i+d)/(out.length+1)) out) ds
theorem Au(n0 i0 d n pos:Nat)(out ds:List Nat)(hn:n0<=n)(hp:pos<=out.length)(hl:out.length<60)(hm:n<=1114111)(he:d+i0+n0*(out.length+1)=n*(out.length+1)+pos):
  DJ n0 i0 out (d::ds)=DJ n (pos+1) (dR pos n out) ds:=by
 have hx:i0+d=(n-n0)*(out.length+1)+pos:=by
  have h1:(n-n0)*(out.length+1)+n0*(out.length+1)=n*(out.length+1):=by rw[<-z1];congr 1;omega
  omega
 have hdiv:(i0+d)/(out.length+1)=n-n0:=by
  rw[hx,zr,Nat.mul_add_div om,Nat.div_eq_of_lt om];omega
 have hmod:(i0+d)%(out.length+1)=pos:=by
  rw[hx,zr,Nat.mul_add_mod,Nat.mod_eq_of_lt om]
 rw[DJ,hdiv,hmod,show n0+(n-n0)=n by omega,if_neg om]
theorem Av(n:Nat)(hn:n<=1114111): ∀(l2 l1:List Nat) (d n0 i0:Nat) (ds:List Nat),n0<=n->(l1++l2).length<=60->
  d+i0+n0*((l1.filter (· <=n)++l2.filter (· <n)).length+1)=n*((l1.filter (· <=n)++l2.filter (· <n)).length+1)+(l1.filter (· <=n)).length->
  ∃n1 i1,n1<=n/\DJ n0 i0 (l1.filter (· <=n)++l2.filter (· <n)) ((aH n l2 d).1++ds)=DJ n1 i1 ((l1++l2).filter (· <=n)) ds/\
   (aH n l2 d).2+i1+n1*(((l1++l2).filter (· <=n)).length+1)=n*(((l1++l2).filter (· <=n)).length+1)+((l1++l2).filter (· <=n)).length/\
   (l1.filter (· <=n)++l2.filter (· <n)).length+(aH n l2 d).1.length=((l1++l2).filter (· <=n)).length:=by
 intro l2
 induction l2 with
 |nil=>
  intro l1 d n0 i0 ds h0 hlen he;refine ⟨n0,i0,h0,?_,?_,?_⟩
  .simp[aH]
  .simpa[aH] using he
  simp[aH]
 |cons c r ih=>
  intro l1 d n0 i0 ds h0 hlen he;have hass:l1++c::r=(l1++[c])++r:=by simp
  rcases Nat.lt_trichotomy c n with hc|hc|hc
  .have ep:aH n (c::r) d=aH n r (d+1):=by rw[aH,if_pos hc]
   have e1:(l1++[c]).filter (· <=n)=l1.filter (· <=n)++[c]:=by simp[zn,Nat.le_of_lt hc]
   have e2:(c::r).filter (· <n)=c::r.filter (· <n):=by simp[hc]
   have e3:l1.filter (· <=n)++(c::r).filter (· <n)=(l1++[c]).filter (· <=n)++r.filter (· <n):=by rw[e1,e2];simp
   rw[e3]at he⊢;rw[ep,hass];exact ih (l1++[c]) (d+1) n0 i0 ds h0 (by rw[<-hass];exact hlen) (by
    have h1:((l1++[c]).filter (· <=n)).length=(l1.filter (· <=n)).length+1:=by rw[e1];simp
    omega)
  .subst hc
   have ep:aH c (c::r) d=(d::(aH c r 0).1,(aH c r 0).2):=by rw[aH,if_neg om,if_pos rfl]
   have e1:(l1++[c]).filter (· <=c)=l1.filter (· <=c)++[c]:=by simp[zn]
   have e2:(c::r).filter (· <c)=r.filter (· <c):=by simp
   rw[e2]at he⊢;rw[ep,hass];have hout:(l1.filter (· <=c)++r.filter (· <c)).length<60:=by
    have h1:=zd (fun x=>decide (x<=c)) l1;have h2:=zd (fun x=>decide (x<c)) r;simp only[ze,zg]at hlen⊢;omega
   have hst:=Au n0 i0 d c (l1.filter (· <=c)).length (l1.filter (· <=c)++r.filter (· <c)) ((aH c r 0).1++ds) h0 j2 hout hn he;have e4:dR (l1.filter (· <=c)).length c (l1.filter (· <=c)++r.filter (· <c))=(l1++[c]).filter (· <=c)++r.filter (· <c):=by rw[O6,e1];simp
   rw[e4]at hst;obtain ⟨n1,i1,g0,g1,g2,g3⟩:=ih (l1++[c]) 0 c ((l1.filter (· <=c)).length+1) ds (zo _) (by rw[<-hass];exact hlen) (by rw[e1,ze];simp;omega);refine ⟨n1,i1,g0,?_,g2,?_⟩
   .show DJ n0 i0 _ (d::((aH c r 0).1++ds))=_
    rw[hst,g1]
   rw[<-g3,e1];simp;omega
  have ep:aH n (c::r) d=aH n r d:=by rw[aH,if_neg om,if_neg om]
  have e1:(l1++[c]).filter (· <=n)=l1.filter (· <=n):=by
   rw[zn,zc (by simp;omega)];simp
  have e2:(c::r).filter (· <n)=r.filter (· <n):=zc (by simp;omega);have e3:l1.filter (· <=n)++(c::r).filter (· <n)=(l1++[c]).filter (· <=n)++r.filter (· <n):=by rw[e1,e2]
  rw[e3]at he⊢;rw[ep,hass];exact ih (l1++[c]) d n0 i0 ds h0 (by rw[<-hass];exact hlen) (by rw[e1]at he⊢;exact he)
theorem vX(n:Nat): ∀(l:List Nat),(∀c∈l,c<=1114111)->(∃c∈l,n<=c)->aL n l∈l/\n<=aL n l/\ ∀c∈l,n<=c->aL n l<=c
 |[],_,h=>by obtain ⟨c,hc,_⟩:=h;simp at hc
 |c::r,hv,h=>by
  have hc:=hv c j2;have hv': ∀c∈r,c<=1114111:=fun x hx=>hv x (by simp[hx])
  by_cases hr: ∃x∈r,n<=x
  .obtain ⟨h1,h2,h3⟩:=vX n r hv' hr
   unfold aL;split
   .next hlt=>
    refine ⟨by simp,hlt.1,fun x hx hn=> ?_⟩
    rcases zf.1 hx with rfl|hx
    .omega
    have:=h3 x hx hn;omega
   next hlt=>
   refine ⟨by simp[h1],h2,fun x hx hn=> ?_⟩
   rcases zf.1 hx with rfl|hx
   .omega
   exact h3 x hx hn
  have hcn:n<=c:=by
   obtain ⟨x,hx,hn⟩:=h
   rcases zf.1 hx with rfl|hx
   .exact hn
   exact absurd ⟨x,hx,hn⟩ hr
  have hbig: ∀(r:List Nat),(¬ ∃x∈r,n<=x)->aL n r=1114112:=by
   intro r
   induction r with
   |nil=>intro _;rfl
   |cons y r ih=>
    intro hno;unfold aL;rw[if_neg (fun hy=>hno ⟨y,by simp,hy.1⟩)];exact ih (fun ⟨x,hx,hn⟩=>hno ⟨x,by simp[hx],hn⟩)
  unfold aL;rw[hbig r hr,if_pos om];refine ⟨by simp,hcn,fun x hx hn=> ?_⟩
  rcases zf.1 hx with rfl|hx
  .omega
  exact absurd ⟨x,hx,hn⟩ hr
theorem lY(m:Nat): ∀(l:List Nat),m∈l->(l.filter (· <m)).length<(l.filter (· <=m)).length:=by
 have hle: ∀(l:List Nat),(l.filter (· <m)).length<=(l.filter (· <=m)).length:=by
  intro l
  induction l with
  |nil=>simp
  |cons c r ih=>
   by_cases h1:c<m
   .rw[za (by simpa using h1),za (by simp;omega)];simp;exact ih
   rw[zc (by simpa using h1)]
   by_cases h2:c<=m
   .rw[za (by simpa using h2)];simp;omega
   rw[zc (by simpa using h2)];exact ih
 intro l
 induction l with
 |nil=>intro h;simp at h
 |cons c r ih=>
  intro h
  by_cases h1:c<m
  .have hr:m∈r:=by
    rcases zf.1 h with rfl|h
    .omega
    exact h
   rw[za (by simpa using h1),za (by simp;omega)];simp;exact ih hr
  rw[zc (by simpa using h1)]
  by_cases h2:c<=m
  .rw[za (by simpa using h2)]
   have:=hle r
   simp;omega
  have hr:m∈r:=by
   rcases zf.1 h with rfl|h
   .omega
   exact h
  rw[zc (by simpa using h2)];exact ih hr
theorem lM(l:List Nat)(p q:Nat->Bool)(h: ∀c∈l,p c=q c):l.filter p=l.filter q:=List.filter_congr h
theorem Hw(l:List Nat)(hl:l.length<=60)(hv: ∀c∈l,c<=1114111): ∀(f n d n0 i0:Nat),n0<=n->l.length<=(l.filter (· <n)).length+f->
  d+i0+n0*((l.filter (· <n)).length+1)=n*((l.filter (· <n)).length+1)->DJ n0 i0 (l.filter (· <n)) (eG l f n d (l.filter (· <n)).length)=some l:=by
 intro f
 induction f with
 |zero=>
  intro n d n0 i0 _ hf _;have h1:=zd (fun x=>decide (x<n)) l;have h2:l.filter (· <n)=l:=zi.2 (zl.1 om);rw[eG,DJ,h2]
 |succ f ih=>
  intro n d n0 i0 h0 hf he;have hfl:=zd (fun x=>decide (x<n)) l
  by_cases hlt:(l.filter (· <n)).length<l.length
  .have hex: ∃c∈l,n<=c:=by
    by_cases hx: ∃c∈l,n<=c
    .exact hx
    have h2:l.filter (· <n)=l:=zi.2 (fun c hc=>by
     simp only[decide_eq_true_eq]
     rcases zs c n with h|h
     .exact h
     exact absurd ⟨c,hc,h⟩ hx)
    rw[h2]at hlt;omega
   obtain ⟨m1,m2,m3⟩:=vX n l hv hex;have hd:eG l (f+1) n d (l.filter (· <n)).length=(aH (aL n l) l (d+(aL n l-n)*((l.filter (· <n)).length+1))).1++eG l f (aL n l+1) ((aH (aL n l) l (d+(aL n l-n)*((l.filter (· <n)).length+1))).2+1) ((l.filter (· <n)).length+(aH (aL n l) l (d+(aL n l-n)*((l.filter (· <n)).length+1))).1.length):=by
    rw[eG,if_pos hlt]
   rw[hd];generalize aL n l=m at*;have hsame:l.filter (· <n)=l.filter (· <m):=lM l _ _ (fun c hc=>by
    rcases zs c n with h|h
    .simp[h];omega
    have:=m3 c hc h
    rw[decide_eq_false om,decide_eq_false om])
   have hle:l.filter (· <m+1)=l.filter (· <=m):=lM l _ _ (fun c _=>decide_eq_decide.2 om);have hmore:=lY m l m1;have hmv:=hv m m1;rw[hsame]at he hf⊢;generalize hds:eG l f (m+1) _ _=ds;have hstep:=Av m hmv l [] (d+(m-n)*((l.filter (· <m)).length+1)) n0 i0 ds om (by simpa using hl) (by
    simp only[z2,zt,zu,zq];have h1:(m-n)*((l.filter (· <m)).length+1)+n*((l.filter (· <m)).length+1)=m*((l.filter (· <m)).length+1):=by rw[<-z1];congr 1;omega
    omega)
   simp only[z2,zt]at hstep;obtain ⟨n1,i1,g0,g1,g2,g3⟩:=hstep;rw[g1,<-hds,g3];have hnext:=ih (m+1) ((aH m l (d+(m-n)*((l.filter (· <m)).length+1))).2+1) n1 i1 om (by rw[hle];omega) (by
    rw[hle,z1];omega)
   rw[hle]at hnext;exact hnext
  have h2:l.filter (· <n)=l:=zi.2 (zl.1 om);rw[eG,if_neg hlt,DJ,h2]
theorem oW(n:Nat): ∀(l:List Nat) (d M:Nat),d+l.length<=M->(∀x∈(aH n l d).1,x<=M)/\(aH n l d).2<=M
 |[],d,M,h=>⟨fun x hx=>by simp[aH]at hx,by simpa[aH] using h⟩
 |c::r,d,M,h=>by
  simp only[zg]at h;unfold aH;split
  .exact oW n r (d+1) M om
  split
  .have hr:=oW n r 0 M om
   refine ⟨fun x hx=> ?_,hr.2⟩
   rcases zf.1 hx with rfl|hx
   .omega
   exact hr.1 x hx
  exact oW n r d M om
theorem kH(n:Nat): ∀(l:List Nat) (d:Nat),(l.filter (· <n)).length+(aH n l d).1.length=(l.filter (· <=n)).length
 |[],d=>by simp[aH]
 |c::r,d=>by
  unfold aH;split
  .next h=>
   have hr:=kH n r (d+1);rw[za (by simpa using h),za (by simp;omega)];simp only[zg];omega
  next h=>
  rw[zc (by simpa using h)];split
  .next e=>
   have hr:=kH n r 0;rw[za (by simp;omega)];simp only[zg];omega
  next e=>
  have hr:=kH n r d;rw[zc (by simp;omega)];exact hr
theorem qE(l:List Nat)(n:Nat)(hv: ∀c∈l,c<=1114111)(hlt:(l.filter (· <n)).length<l.length):aL n l∈l/\n<=aL n l/\ ∀c∈l,n<=c->aL n l<=c:=by
 refine vX n l hv ?_
 by_cases hx: ∃c∈l,n<=c
 .exact hx
 have h2:l.filter (· <n)=l:=zi.2 (fun c hc=>by
  simp only[decide_eq_true_eq]
  rcases zs c n with h|h
  .exact h
  exact absurd ⟨c,hc,h⟩ hx)
 rw[h2]at hlt;omega
theorem jW(l:List Nat)(n m:Nat)(h2:n<=m)(h3: ∀c∈l,n<=c->m<=c):l.filter (· <n)=l.filter (· <m):=
 lM l _ _ (fun c hc=>by
  rcases zs c n with h|h
  .simp[h];omega
  have:=h3 c hc h
  rw[decide_eq_false om,decide_eq_false om])
theorem gN(l:List Nat)(m:Nat):l.filter (· <m+1)=l.filter (· <=m):=lM l _ _ (fun c _=>decide_eq_decide.2 om)
theorem Aw(l:List Nat)(hl:l.length<=60)(hv: ∀c∈l,c<=1114111): ∀(f n d:Nat),d<=61*n-> ∀x∈eG l f n d (l.filter (· <n)).length,x<=67960831:=by
 intro f
 induction f with
 |zero=>intro n d _ x hx;simp[eG]at hx
 |succ f ih=>
  intro n d hd x hx
  by_cases hlt:(l.filter (· <n)).length<l.length
  .obtain ⟨m1,m2,m3⟩:=qE l n hv hlt
   rw[eG,if_pos hlt]at hx;generalize aL n l=m at*;have hmv:=hv m m1;rw[jW l n m m2 m3]at hx hlt;have hb:d+(m-n)*((l.filter (· <m)).length+1)<=61*m:=by
    have h1:(m-n)*((l.filter (· <m)).length+1)<=(m-n)*61:=zx _ om;omega
   have hp:=oW m l (d+(m-n)*((l.filter (· <m)).length+1)) (61*m+60) om;have hpl:=kH m l (d+(m-n)*((l.filter (· <m)).length+1))
   rcases zj.1 hx with hx|hx
   .have:=hp.1 x hx;omega
   rw[hpl,<-gN]at hx;exact ih (m+1) _ (by have:=hp.2;omega) x hx
  rw[eG,if_neg hlt]at hx;simp at hx
def cF(basic:Nat):Nat->Nat->List Nat->List Nat
 |_,_,[]=>[]
 |h,bias,d::ds=>dK 28 36 bias d++cF basic (h+1) (bB d (h+1) (h==basic)) ds
def kU(basic:Nat):Nat->List Nat->Nat->Nat->Nat->List Nat->Option (List Nat)
 |_,[],_,_,_,out=>some out
 |0,_::_,_,_,_,_=>none
 |f+1,v::vs,n,i,bias,out=>
  match dM bias 36 0 1 (v::vs)with
  |none=>none
  |some (more,rest)=>
   if 60<out.length+1∨1114111<n+(i+more)/(out.length+1)then none
   else kU basic f rest (n+(i+more)/(out.length+1)) ((i+more)%(out.length+1)+1) (bB more (out.length+1) (out.length==basic)) (dR ((i+more)%(out.length+1)) (n+(i+more)/(out.length+1)) out)
theorem aX(i x:Nat)(l:List Nat):(dR i x l).length=l.length+1:=by
 unfold dR;rw[ze,zg,List.length_take,List.length_drop];omega
theorem SS(basic:Nat): ∀(ds:List Nat) (f h bias n i:Nat) (out:List Nat),out.length=h->(∀d∈ds,d<=67960831)->ds.length<=f->
  kU basic f (cF basic h bias ds) n i bias out=DJ n i out ds
 |[],f,h,bias,n,i,out,_,_,_=>by cases f<;>rfl
 |d::ds,f,h,bias,n,i,out,hh,hd,hf=>by
  obtain ⟨f,rfl⟩: ∃g,f=g+1:=⟨f-1,by simp at hf;omega⟩;have hdd:=hd d j2;have hread:=At bias (cF basic (h+1) (bB d (h+1) (h==basic)) ds) 27 36 d 0 1 (by simp;omega) om om;have hne: ∃v vs,dK (27+1) 36 bias d++cF basic (h+1) (bB d (h+1) (h==basic)) ds=v::vs:=by
   cases hx:dK (27+1) 36 bias d with
   |nil=>exact absurd hx (E7 bias 27 36 d)
   |cons v vs=>exact ⟨v,_,rfl⟩
  obtain ⟨v,vs,hv⟩:=hne;have hcode:cF basic h bias (d::ds)=v::vs:=hv;rw[hv]at hread;rw[hcode,kU,hread];simp only[Nat.zero_add,Nat.one_mul];rw[DJ];split
  .rfl
  subst hh;exact SS basic ds f _ _ _ _ _ (aX _ _ _) (fun x hx=>hd x (by simp[hx])) (by simp at hf;omega)
def sR(l:List Nat):List Nat:=cF (l.filter (· <128)).length (l.filter (· <128)).length 72 (eG l l.length 128 0 (l.filter (· <128)).length)
theorem AD(l:List Nat)(hv: ∀c∈l,c<=1114111): ∀(f n d:Nat),(l.filter (· <n)).length+(eG l f n d (l.filter (· <n)).length).length<=l.length:=by
 intro f
 induction f with
 |zero=>intro n d;simp only[eG,zu,zq];exact zd _ _
 |succ f ih=>
  intro n d
  by_cases hlt:(l.filter (· <n)).length<l.length
  .obtain ⟨m1,m2,m3⟩:=qE l n hv hlt
   rw[eG,if_pos hlt];generalize aL n l=m at*;rw[jW l n m m2 m3];have hpl:=kH m l (d+(m-n)*((l.filter (· <m)).length+1));rw[ze,hpl,<-gN];rw[<-gN]at hpl
   have:=ih (m+1) ((aH m l (d+(m-n)*((l.filter (· <m)).length+1))).2+1)
   omega
  rw[eG,if_neg hlt];simp only[zu,zq];exact zd _ _
def bJ(l:List Nat):List Nat:=l.filter (· <128)++(if 0<(l.filter (· <128)).length then [45]else [])++(sR l).map bT
def dF:List Nat->Option (List Nat×List Nat)
 |[]=>none
 |c::r=>match dF r with
  |some (a,b)=>some (c::a,b)
  |none=>if c=45 then some ([],r)else none
theorem oA: ∀(b:List Nat),(∀c∈b,c≠45)->dF b=none
 |[],_=>rfl
 |c::r,h=>by
  rw[dF,oA r (fun x hx=>h x (by simp[hx]))];exact if_neg (h c j2)
theorem xN(b:List Nat)(hb: ∀c∈b,c≠45): ∀(a:List Nat),dF (a++45::b)=some (a,b)
 |[]=>by
  show dF (45::b)=_;rw[dF,oA b hb];rfl
 |c::a=>by
  show dF (c::(a++45::b))=_;rw[dF,xN b hb a]
def headD(s:List Nat):List Nat:=match dF s with
 |some (a,_)=>a
 |none=>[]
def xO(s:List Nat):List Nat:=match dF s with
 |some (_,b)=>b
 |none=>s
def lZ(s:List Nat):Option (List Nat):=kU (headD s).length s.length ((xO s).map bC) 128 0 72 (headD s)
theorem ST(basic:Nat): ∀(ds:List Nat) (h bias:Nat),∀v∈cF basic h bias ds,v<36
 |[],_,_,v,hv=>by simp[cF]at hv
 |d::ds,h,bias,v,hv=>by
  rcases zj.1 hv with hv|hv
  .exact Ma bias 28 36 d v hv
  exact ST basic ds _ _ v hv
theorem OH(l:List Nat): ∀v∈sR l,v<36:=ST _ _ _ _
theorem SU: ∀(vs:List Nat),(∀v∈vs,v<36)->(vs.map bT).map bC=vs
 |[],_=>rfl
 |v::vs,h=>by
  rw[List.map_cons,List.map_cons,Hv (h v j2),SU vs (fun x hx=>h x (by simp[hx]))]
theorem Ax(vs:List Nat)(h: ∀v∈vs,v<36): ∀c∈vs.map bT,c≠45:=by
 intro c hc;obtain ⟨v,hv,rfl⟩:=List.mem_map.1 hc;exact (AC (h v hv)).2
theorem KY(l:List Nat):headD (bJ l)=l.filter (· <128)/\xO (bJ l)=(sR l).map bT:=by
 have hd:=Ax (sR l) (OH l);unfold headD xO bJ
 by_cases h:0<(l.filter (· <128)).length
 .rw[if_pos h,List.append_assoc]
  show (match dF (l.filter (· <128)++45::(sR l).map bT)with|some (a,_)=>a|none=>[])=_/\_;rw[xN _ hd];exact ⟨rfl,by show (match dF (l.filter (· <128)++45::(sR l).map bT)with|some (_,b)=>b|none=>_)=_;rw[xN _ hd]⟩
 have he:l.filter (· <128)=[]:=List.eq_nil_of_length_eq_zero om;rw[if_neg h,he];simp only[zt];rw[oA _ hd];exact ⟨rfl,rfl⟩
theorem E8(bias:Nat): ∀(f k q:Nat),(dK f k bias q).length<=f
 |0,_,_=>by simp[dK]
 |f+1,k,q=>by
  unfold dK;split
  .simp
  have:=E8 bias f (k+36) ((q-bQ k bias)/(36-bQ k bias))
  simp;omega
theorem SV(basic:Nat): ∀(ds:List Nat) (h bias:Nat),ds.length<=(cF basic h bias ds).length
 |[],_,_=>by simp
 |d::ds,h,bias=>by
  have h1:=SV basic ds (h+1) (bB d (h+1) (h==basic));have h2:1<=(dK 28 36 bias d).length:=by
   cases hx:dK 28 36 bias d with
   |nil=>exact absurd hx (E7 bias 27 36 d)
   |cons=>simp
  show (d::ds).length<=(dK 28 36 bias d++cF basic (h+1) (bB d (h+1) (h==basic)) ds).length;rw[ze,zg];omega
theorem Ay(l:List Nat)(hl:l.length<=60)(hv: ∀c∈l,c<=1114111):lZ (bJ l)=some l:=by
 unfold lZ;obtain ⟨h1,h2⟩:=KY l;rw[h1,h2,SU _ (OH l)];have hc:=AD l hv l.length 128 0;have hge:=SV (l.filter (· <128)).length (eG l l.length 128 0 (l.filter (· <128)).length) (l.filter (· <128)).length 72;unfold sR;rw[SS _ _ _ _ 72 128 0 _ rfl (Aw l hl hv l.length 128 0 om) ?_]
 .exact Hw l hl hv l.length 128 0 128 0 (zo _) om om
 unfold bJ sR;rw[ze,ze,List.length_map];omega
def KZ(c:Nat):Bool:=decide (c<=1114111)&& !(decide (55296<=c)&&decide (c<=57343))
def eU(l:List Nat):Bool:=decide (l.length<=60)&&l.all KZ
def dB(s:List Nat):Option (List Nat):=match lZ s with
 |some l=>if eU l=true/\bJ l=s then some l else none
 |none=>none
theorem bU{l:List Nat}(h:eU l=true):l.length<=60/\ ∀c∈l,c<=1114111:=by
 simp only[eU,zz,decide_eq_true_eq,zy]at h;refine ⟨h.1,fun c hc=> ?_⟩
 have:=h.2 c hc
 simp only[KZ,zz,decide_eq_true_eq]at this;exact this.1
theorem Hx{l:List Nat}(h:eU l=true):dB (bJ l)=some l:=by
 unfold dB;obtain ⟨h1,h2⟩:=bU h;rw[Ay l h1 h2];exact if_pos ⟨h,rfl⟩
theorem rM(s l:List Nat):dB s=some l↔eU l=true/\bJ l=s:=by
 constructor
 .intro h
  unfold dB at h;split at h
  .split at h
   .next hh=>cases h;exact hh
   cases h
  cases h
 rintro ⟨h,rfl⟩;exact Hx h
theorem nM{l:List Nat}: ∀c∈bJ l,c<128:=by
 intro c hc;unfold bJ at hc
 rcases zj.1 hc with hc|hc
 .rcases zj.1 hc with hc|hc
  .have:=(List.mem_filter.1 hc).2
   simpa using this
  split at hc
  .rw[zm.1 hc];omega
  simp at hc
 obtain ⟨v,hv,rfl⟩:=List.mem_map.1 hc;exact (AC (OH l v hv)).1
def AE(delta n:Int)(first:Bool):Int:=if 0<=delta/\1<=n then (bB delta.toNat n.toNat first:Int)else 0
theorem LA: ∀(f d k:Nat),cN f d k<=k+36*f+36
 |0,d,k=>by
  unfold cN
  have:36*d/(d+38)<=36:=zh om
  omega
 |f+1,d,k=>by
  unfold cN;split
  .have:=LA f (d/35) (k+36);omega
  have:36*d/(d+38)<=36:=zh om
  omega
theorem gB(d n:Nat)(first:Bool):bB d n first<=2400:=by
 unfold bB;split
 .omega
 have:=LA 64 ((if first then d/700 else d/2)+(if first then d/700 else d/2)/n) 0
 omega
theorem oX{f d k:Nat}(h:455<d)(hf:d<2^f): ∃g,f=g+1/\cN f d k=cN g (d/35) (k+36)/\d/35<2^g:=by
 cases f with
 |zero=>simp at hf;omega
 |succ g=>
  refine ⟨g,rfl,by rw[cN,if_pos h],?_⟩;have h4:2^(g+1)=2*2^g:=by rw[Nat.pow_succ];omega
  omega
theorem rN{f d k:Nat}(h:d<=455):cN f d k=k+36*d/(d+38):=by
 cases f with
 |zero=>rfl
 |succ g=>rw[cN,if_neg om]
theorem LB{delta n:Nat}{first:Bool}(h1:(delta:Int)<=1000000000000)(h2:1<=(n:Int))(h3:(n:Int)<=1000000)(x:Nat)(hx:x=if first then delta/700 else delta/2):bB delta n first=cN 64 (x+x/n) 0:=by
 unfold bB;rw[if_neg om,hx]
theorem rO(delta n:Nat)(first:Bool)(w:World)(h1:(delta:Int)<=1000000000000)(h2:1<=(n:Int))(h3:(n:Int)<=1000000):Calls prog 229 #[I J (delta:Int),I J (n:Int),Y first] w fun e w'=>e=L (I J (bB delta n first:Int))/\w=w':=by
 have h0:0<=(delta:Int):=om;obtain ⟨x,hx⟩: ∃x:Nat,x=if first then delta/700 else delta/2:=⟨_,rfl⟩
 have HN:Hid (bB delta n first=cN 64 (x+x/n) 0):=LB h1 h2 h3 x hx;have hy:x/n<=x:=Nat.div_le_self x n;have hne: ¬(n:Int)=0:=om;have hxle:(x:Int)<=500000000000:=by cases first<;>simp at hx<;>omega
 obtain ⟨z,hz⟩: ∃z:Nat,x/n=z:=⟨_,rfl⟩;have hZ:(x:Int)/(n:Int)=(z:Int):=by rw[<-hz];simp
 rw[hz]at HN hy;have hzle:(z:Int)<=(x:Int):=om;have HP:Hid (x+z<2^64):=by
  show _<_
  have:(2:Nat)^64=18446744073709551616:=de
  omega
 clear hz hy
 cases first with
 |true=>
  have hX:(delta:Int)/700=(x:Int):=by simp at hx;omega
  clear hx;go_enter func229,ntmps229;go_wp2_with fail;refine j5 (aI _ _ _ _ h0 h1) ?_;go_wp2_with fail;refine j5 (aI _ _ _ _ h2 h3) ?_;go_wp2_with fail
  go_loop[0,7] (fun a b=> ∃f d k:Nat,a=I J d/\b=I J k/\d<=x+z/\k+36*f<=2304/\d<2^f/\cN f d k=cN 64 (x+z) 0) (fun a _=>(intOf a).toNat)
  case atStart=>exact ⟨64,x+z,0,by simp,rfl,zo _,om,HP.out,rfl⟩
  obtain ⟨f,d,k,rfl,rfl,hd,hk,hf,he⟩:=hrel;have HE:Hid (cN f d k=cN 64 (x+z) 0):=he;have HF:Hid (d<2^f):=hf;clear he hf
  by_cases hlt:455<(d:Int)
  .obtain ⟨g,hg,he,hl⟩:=oX (k:=k) (show 455<d by omega) HF.out
   have HE2:Hid (cN g (d/35) (k+36)=cN 64 (x+z) 0):=he.symm.trans HE.out;have HF2:Hid (d/35<2^g):=hl;clear he hl;go_wp2;go_round
   case rel=>exact ⟨g,d/35,k+36,by simp,gn,om,om,HF2.out,HE2.out⟩
   case measure=>exact j1
  have HR:Hid (bB delta n true=k+36*d/(d+38)):=by show _=_;rw[HN.out,<-HE.out,rN om]
  have hnz: ¬(d:Int)+38=0:=om;have hr0:36*d/(d+38)<=36:=zh om;obtain ⟨r,hr⟩: ∃r:Nat,36*d/(d+38)=r:=⟨_,rfl⟩;have hR:(36*(d:Int))/((d:Int)+38)=(r:Int):=by rw[<-hr];simp
  rw[hr]at HR hr0;clear hr;go_wp2;go_ret;exact ⟨aV (by rw[HR.out];simp),rfl⟩
 |false=>
  have hX:(delta:Int)/2=(x:Int):=by simp at hx;omega
  clear hx;go_enter func229,ntmps229;go_wp2_with fail;refine j5 (aI _ _ _ _ h0 h1) ?_;go_wp2_with fail;refine j5 (aI _ _ _ _ h2 h3) ?_;go_wp2_with fail
  go_loop[0,7] (fun a b=> ∃f d k:Nat,a=I J d/\b=I J k/\d<=x+z/\k+36*f<=2304/\d<2^f/\cN f d k=cN 64 (x+z) 0) (fun a _=>(intOf a).toNat)
  case atStart=>exact ⟨64,x+z,0,by simp,rfl,zo _,om,HP.out,rfl⟩
  obtain ⟨f,d,k,rfl,rfl,hd,hk,hf,he⟩:=hrel;have HE:Hid (cN f d k=cN 64 (x+z) 0):=he;have HF:Hid (d<2^f):=hf;clear he hf
  by_cases hlt:455<(d:Int)
  .obtain ⟨g,hg,he,hl⟩:=oX (k:=k) (show 455<d by omega) HF.out
   have HE2:Hid (cN g (d/35) (k+36)=cN 64 (x+z) 0):=he.symm.trans HE.out;have HF2:Hid (d/35<2^g):=hl;clear he hl;go_wp2;go_round
   case rel=>exact ⟨g,d/35,k+36,by simp,gn,om,om,HF2.out,HE2.out⟩
   case measure=>exact j1
  have HR:Hid (bB delta n false=k+36*d/(d+38)):=by show _=_;rw[HN.out,<-HE.out,rN om]
  have hnz: ¬(d:Int)+38=0:=om;have hr0:36*d/(d+38)<=36:=zh om;obtain ⟨r,hr⟩: ∃r:Nat,36*d/(d+38)=r:=⟨_,rfl⟩;have hR:(36*(d:Int))/((d:Int)+38)=(r:Int):=by rw[<-hr];simp
  rw[hr]at HR hr0;clear hr;go_wp2;go_ret;exact ⟨aV (by rw[HR.out];simp),rfl⟩
theorem qF{delta n:Int}{first:Bool}(h:0<=delta/\1<=n):AE delta n first=(bB delta.toNat n.toNat first:Int):=if_pos h
theorem FK{delta n:Int}{first:Bool}(h:delta<0∨1000000000000<delta∨n<1∨1000000<n):AE delta n first=0:=by
 unfold AE;split
 .unfold bB
  rw[if_pos om];rfl
 rfl
theorem tY(delta n:Int)(first:Bool)(w:World):Calls prog 229 #[I J delta,I J n,Y first] w fun e w'=>e=L (I J (AE delta n first))/\w=w':=by
 by_cases h1:0<=delta/\delta<=1000000000000
 .by_cases h2:1<=n/\n<=1000000
  .rw[qF ⟨h1.1,h2.1⟩]
   obtain ⟨d,rfl⟩:=zk h1.1;obtain ⟨m,rfl⟩:=zk (show 0<=n by omega);exact rO d m first w h1.2 h2.1 h2.2
  have HV:Hid (AE delta n first=0):=FK om;have H2:Hid (n<1∨1000000<n):=by show _∨_;omega
  obtain ⟨a1,a2⟩:=h1;clear h2;go_enter func229,ntmps229;go_wp2_with fail;refine j5 (aI _ _ _ _ a1 a2) ?_;go_wp2_with fail;refine j5 (aP _ _ _ _ H2.out) ?_;go_wp2_with fail;go_ret;exact ⟨aV (by rw[HV.out]),rfl⟩
 have HV:Hid (AE delta n first=0):=FK om;have H1:Hid (delta<0∨1000000000000<delta):=by show _∨_;omega
 clear h1;go_enter func229,ntmps229;go_wp2_with fail;refine j5 (aP _ _ _ _ H1.out) ?_;go_wp2_with fail;go_ret;exact ⟨aV (by rw[HV.out]),rfl⟩
