/- Ip4Spec, Ip4Impl, MaxLaid, LaidPow, Ip6Plain, HexImpl, LetWalk. -/
import Derived.Test.YtgcbaphbiaimoaaGreatDoorQB03
import Derived.Lib.AppendIntMem
import Derived.Lib.LaidTab
import Derived.Lib.LaidU8
set_option maxHeartbeats 8000000
set_option maxRecDepth 20000
namespace Go.Proofs.YtgcbaphbiaimoaaGreatDoor
open Go.Value renaming int->I,string->Y,tuple->F,bool->E
open Go.IntKind renaming i64->J
open Go.Ending renaming returned->Z
open Go.Obj renaming cells->G
open _root_.Array renaming getElem?_setIfInBounds->zk
open _root_.Go.RowKit.Below renaming refl->zd
open _root_.Bool renaming false_eq_true->zv
open _root_.Int renaming eq_ofNat_of_zero_le->zr
open _root_.List renaming append_assoc->zw,cons_append->ze,getElem_append_left->zn,getElem_append_right->zq,length_append->za,length_cons->zu,length_drop->zt,length_take->zs,map_cons->zm,mem_cons->zl,mem_cons_of_mem->zh,mem_cons_self->zc,nil_append->zj,not_mem_nil->zi
open _root_.Nat renaming le_refl->zg,le_trans->zp
open _root_.Option renaming map_none->zx,map_some->zy
open _root_.UInt8 renaming ofNat->zf
open _root_.Go.World renaming cell?_alloc_at->zo
open _root_.Go.Proofs.Tryz
open _root_.Go.Proofs.YtgcbaphbiaimoaaGreatDoor.Tryz
section
open Go.RowKit
theorem dP(a b:List UInt8):((⟨a.toArray⟩:ByteArray)++(⟨b.toArray⟩:ByteArray))=⟨(a++b).toArray⟩:=by
 apply ByteArray.ext;rw[ByteArray.data_append];simp
def uP(v:Nat):ByteArray:=⟨#[zf (48+v)]⟩
def iD(x:Int):ByteArray:=⟨(bR x.toNat).toArray⟩
theorem Ae{x:Int}(h0:0<=x)(h:x<10):iD x=uP x.toNat:=by
 unfold iD uP bR;rw[if_pos om]
theorem Af{x:Int}(h0:10<=x)(h:x<100):iD x=iD (x/10)++uP (x%10).toNat:=by
 rw[Ae (x:=x/10) om om];unfold iD uP bR;rw[if_neg om,if_pos om,show (⟨#[zf (48+(x/10).toNat)]⟩:ByteArray)=⟨[zf (48+(x/10).toNat)].toArray⟩ from rfl,show (⟨#[zf (48+(x%10).toNat)]⟩:ByteArray)=⟨[zf (48+(x%10).toNat)].toArray⟩ from rfl,dP];have e1:(x/10).toNat=x.toNat/10:=om;have e2:(x%10).toNat=x.toNat%10:=om;rw[e1,e2];rfl
theorem Lw{x:Int}(h0:100<=x)(h:x<1000):iD x=iD (x/10)++uP (x%10).toNat:=by
 unfold iD uP bR;rw[if_neg om,if_neg om,if_neg om,if_pos om,show (⟨#[zf (48+(x%10).toNat)]⟩:ByteArray)=⟨[zf (48+(x%10).toNat)].toArray⟩ from rfl,dP];have e1:(x/10).toNat/10=x.toNat/100:=om;have e3:(x/10).toNat%10=x.toNat/10%10:=om;have e2:(x%10).toNat=x.toNat%10:=om;rw[e1,e2,e3];rfl
theorem pZ(x:Int):(iD x).size<=3:=by
 unfold iD;show (bR x.toNat).toArray.size<=3;rw[List.size_toArray];exact dY _
theorem NU(W:World)(B:Nat)(c:Nat)(hc:c<256)(x:Int)(hx:x=(c:Int))(h:W.cell? ⟨B,0,none⟩=some (.int .u8 x)):
  (convert 22 9 (.slice (some ⟨B,0,none⟩) 1 1)).run prog W=.ok (Y ⟨#[zf c]⟩) W:=by
 subst hx;have h:=run_convert_bytes_back (P:=prog) W 22 9 5 ⟨B,0,none⟩ 1 [zf c] underlying22 underlying5 underlying9 (fun j hj=>by
  have:j=0:=by simpa using hj
  subst this;rw[Addr.add_lit,h];simp;omega)
 simpa using h
theorem RY(W:World)(c:Nat)(hc:c<256)(x:Int)(hx:x=(c:Int)):
  (convert 22 9 (.slice (some ⟨W.heap.size,0,none⟩) 1 1)).run prog (W.alloc (G #[.int .u8 x] 5))=.ok (Y ⟨#[zf c]⟩) (W.alloc (G #[.int .u8 x] 5)):=
 NU _ _ c hc x hx (by rw[zo _ _ _ _ rfl];rfl)
theorem tU(x:Int)(w:World)(h0:0<=x)(h1:x<10):Calls prog 119 #[I J x] w fun e w'=>e=Z (Y (iD x))/\Below w.heap.size w w':=by
 have HD:=Ae h0 h1;have hcv:=RY w (48+x.toNat) om (48+x) om;rw[show (⟨#[zf (48+x.toNat)]⟩:ByteArray)=uP x.toNat from rfl,<-HD]at hcv;generalize iD x=T at hcv⊢;clear HD;go_enter func119,ntmps119;go_wp2;go_ret;exact ⟨rfl,(zd _ _).alloc (zg _) _⟩
theorem KQ(x:Int)(w:World)(T1 T:ByteArray)(h0:10<=x)(h1:x<100000)(hs1:T1.size<=5)(CT:Hid (∀W,Calls prog 119 #[I J (x/10)] W fun e w'=>e=Z (Y T1)/\Below W.heap.size W w'))(HD:Hid (T=T1++uP (x%10).toNat)):Calls prog 119 #[I J x] w fun e w'=>e=Z (Y T)/\Below w.heap.size w w':=by
 have hn:Hid (∀W:World,(convert 22 9 (.slice (some ⟨W.heap.size,0,none⟩) 1 1)).run prog (W.alloc (G #[.int .u8 (48+x%10)] 5))=.ok (Y (uP (x%10).toNat)) (W.alloc (G #[.int .u8 (48+x%10)] 5))):=fun W=>RY W (48+(x%10).toNat) om (48+x%10) om
 have ho:Hid (∀(W':World) (B:Nat),W'.cell? ⟨B,0,none⟩=some (.int .u8 (48+x%10))->(convert 22 9 (.slice (some ⟨B,0,none⟩) 1 1)).run prog W'=.ok (Y (uP (x%10).toNat)) W'):=fun W' B h=>NU W' B (48+(x%10).toNat) om (48+x%10) om h
 have hs2:(uP (x%10).toNat).size=1:=rfl;have hz0:0<=x%10:=om;have hz1:x%10<10:=om;have hy0:0<=x/10:=om;have hy1:x/10<10000:=om;obtain ⟨z,hz⟩: ∃z:Int,x%10=z:=⟨_,rfl⟩;obtain ⟨y,hy⟩: ∃y:Int,x/10=y:=⟨_,rfl⟩;rw[hz]at hn ho hs2 hz0 hz1 HD;rw[hy]at CT hy0 hy1;generalize uP z.toNat=T2 at hn ho hs2 HD;rw[HD.out];clear HD;have hn2:=hn.out;have hce:(w.alloc (G #[.int .u8 (48+z)] 5)).drew.cell? ⟨w.heap.size,0,none⟩=some (.int .u8 (48+z)):=by
  show (w.alloc (G #[.int .u8 (48+z)] 5)).cell? ⟨w.heap.size,0,none⟩=_;rw[zo _ _ _ _ rfl];rfl
 have hn3:=ho.out _ _ hce;have HCE:Hid ((w.alloc (G #[.int .u8 (48+z)] 5)).drew.cell? ⟨w.heap.size,0,none⟩=some (.int .u8 (48+z))):=hce;clear hce;have t1:IntKind.i64.wrap (x.tdiv 10)=y:=by rw[Int.tdiv_eq_ediv_of_nonneg om,hy];exact dZ _ om om
 have t2:x.tmod 10=z:=by rw[Int.tmod_eq_emod_of_nonneg om,hz]
 have t3:IntKind.i64.wrap (48+z)=48+z:=dZ _ om om;have t4:IntKind.u8.wrap (48+z)=48+z:=by simp[IntKind.wrap,IntKind.bits,IntKind.signed];omega
 have t5:IntKind.u8.wrap (IntKind.i64.wrap (48+z))=48+z:=by rw[t3,t4]
 clear hy hz;go_enter func119,ntmps119;go_wp2_with fail
 go_region_with (go_at_call 119;refine (CT.out _).mono ?_;rintro e wc ⟨rfl,hbc⟩;first|have hcc:=ho.out _ _ (cell_later hbc HCE.out)|skip)
 .go_wp2
  go_ret;exact ⟨rfl,((Below.drew (zd _ w)).trans hbc).alloc (zp (zg _) hbc.size) _⟩
 .go_wp2
  go_ret;exact ⟨rfl,(((zd w.heap.size w).alloc (zg _) _).drew).trans (hbc.mono j2)⟩
 go_wp2;go_ret;exact ⟨rfl,(((zd w.heap.size w).alloc (zg _) _).drew).trans (hbc.mono j2)⟩
theorem zY(x:Int)(w:World)(h0:10<=x)(h1:x<1000)(CT:Hid (∀W,Calls prog 119 #[I J (x/10)] W fun e w'=>e=Z (Y (iD (x/10)))/\Below W.heap.size W w'))(HD:Hid (iD x=iD (x/10)++uP (x%10).toNat)):Calls prog 119 #[I J x] w fun e w'=>e=Z (Y (iD x))/\Below w.heap.size w w':=KQ x w _ _ h0 om (zp (pZ _) de) CT HD
theorem xG(x:Int)(w:World)(h0:0<=x)(h1:x<1000):Calls prog 119 #[I J x] w fun e w'=>e=Z (Y (iD x))/\Below w.heap.size w w':=by
 by_cases h10:x<10
 .exact tU x w h0 h10
 by_cases h100:x<100
 .exact zY x w om h1 (fun W=>tU _ W om om) (Af om h100)
 exact zY x w om h1 (fun W=>zY _ W om om (fun W=>tU _ W om om) (Af om om)) (Lw om h1)
def fR(n:Int):ByteArray:=⟨(iE n.toNat).toArray⟩
theorem Ag{n:Int}(h0:0<=n):fR n=iD (n/16777216)++⟨#[46]⟩++iD (n/65536%256)++⟨#[46]⟩++iD (n/256%256)++⟨#[46]⟩++iD (n%256):=by
 unfold fR iD iE;rw[show (⟨#[46]⟩:ByteArray)=⟨[46].toArray⟩ from rfl,dP,dP,dP,dP,dP,dP];have e1:(n/16777216).toNat=n.toNat/16777216:=om;have e2:(n/65536%256).toNat=n.toNat/65536%256:=om;have e3:(n/256%256).toNat=n.toNat/256%256:=om;have e4:(n%256).toNat=n.toNat%256:=om;rw[e1,e2,e3,e4];simp
theorem BN(n:Int)(w:World)(h0:0<=n)(h1:n<4294967296):Calls prog 170 #[I J n] w fun e w'=>e=Z (Y (fR n))/\Below w.heap.size w w':=by
 have HT:Hid (fR n=iD (n/16777216)++⟨#[46]⟩++iD (n/65536%256)++⟨#[46]⟩++iD (n/256%256)++⟨#[46]⟩++iD (n%256)):=Ag h0;have c1:Hid (∀W,CB 119 #[I J (n/16777216)] W (Y (iD (n/16777216)))):=fun W=>xG _ W om om
 have c2:Hid (∀W,CB 119 #[I J (n/65536%256)] W (Y (iD (n/65536%256)))):=fun W=>xG _ W om om
 have c3:Hid (∀W,CB 119 #[I J (n/256%256)] W (Y (iD (n/256%256)))):=fun W=>xG _ W om om
 have c4:Hid (∀W,CB 119 #[I J (n%256)] W (Y (iD (n%256)))):=fun W=>xG _ W om om
 have b2:bits .and .i64 (n/65536) 255=n/65536%256:=mZ 8 255 rfl _ om om de;have b3:bits .and .i64 (n/256) 255=n/256%256:=mZ 8 255 rfl _ om om de;have b4:bits .and .i64 n 255=n%256:=mZ 8 255 rfl _ om om de;have s1:=pZ (n/16777216);have s2:=pZ (n/65536%256);have s3:=pZ (n/256%256);have s4:=pZ (n%256);generalize iD (n/16777216)=T1 at HT c1 s1;generalize iD (n/65536%256)=T2 at HT c2 s2;generalize iD (n/256%256)=T3 at HT c3 s3;generalize iD (n%256)=T4 at HT c4 s4;have sz:(⟨#[46]⟩:ByteArray).size=1:=rfl;rw[HT.out];clear HT;go_enter func170,ntmps170;go_wp2_with fail;refine j5 (aI _ _ _ _ om om) ?_;go_wp2_with fail;refine (c1.out _).mono ?_;rintro e w1 ⟨rfl,k1⟩;go_wp2_with fail;refine (c2.out _).mono ?_;rintro e w2 ⟨rfl,k2⟩;go_wp2_with fail;refine (c3.out _).mono ?_;rintro e w3 ⟨rfl,k3⟩;go_wp2_with fail;refine (c4.out _).mono ?_;rintro e w4 ⟨rfl,k4⟩;have B1:Below w.heap.size w w4:=((k1.trans (k2.mono k1.size)).trans (k3.mono (zp k1.size k2.size))).trans (k4.mono (zp (zp k1.size k2.size) k3.size));clear k1 k2 k3 k4;go_wp2_with fail;go_ret;exact ⟨rfl,B1⟩
def Pow(w:World):Prop:=Lib.TabIs prog w "internal/strconv.uint64pow10" .u64 Lib.pow10Tab
theorem dQ{w w':World}(h:Pow w)(hb:Below w.heap.size w w'):Pow w':=Lib.tabBelow_of_tabIs h w' hb
theorem N6{i:Int}(h0:0<=i)(h1:i<1000):Lib.itoa i=bR i.toNat:=by
 obtain ⟨u,rfl⟩:=zr h0;rw[Lib.itoa_nonneg,Int.toNat_natCast];have hu:u<1000:=om;unfold bR
 by_cases c1:u<10
 .rw[if_pos c1,Lib.decDigits_one c1]
 by_cases c2:u<100
 .rw[if_neg c1,if_pos c2,Lib.decDigits_two c1 c2]
 rw[if_neg c1,if_neg c2,Lib.decDigits,dif_neg c1,Lib.decDigits_two om om];rw[show u/10/10=u/100 by omega];rfl
theorem rH(B:Nat)(i:Int)(v:Value)(l:List UInt8)(w:World)(h0:0<=i)(h1:i<1000)(hown:w.ownsRow B 5 1 v l.length (aD l))(hB:B<=w.heap.size)(hl:l.length<=1000)
  (hT:Lib.TabBelow prog B w "internal/strconv.uint64pow10" .u64 Lib.pow10Tab):Calls prog 192 #[v,I J i,I J 10] w fun e w'=> ∃v',e=Z v'/\w'.ownsRow B 5 1 v' (l++bR i.toNat).length (aD (l++bR i.toNat))/\Below B w w':=by
 refine (strconv_AppendInt_10 B l.length i om om v (aD l) w hown hB om hT).mono ?_;rintro e w' ⟨v',rfl,h2,h3,_⟩;refine ⟨v',rfl,?_,h3⟩;rw[N6 h0 h1]at h2;rw[fW,za];exact h2
def fH(n:Int):Nat->List UInt8
 |0=>[]
 |1=>bR (n/16777216).toNat++[46]
 |2=>bR (n/16777216).toNat++[46]++bR (n/65536%256).toNat++[46]
 |_=>bR (n/16777216).toNat++[46]++bR (n/65536%256).toNat++[46]++bR (n/256%256).toNat++[46]
theorem nY(n:Int)(k:Nat):(fH n k).length<=100:=by
 have h1:=dY (n/16777216).toNat;have h2:=dY (n/65536%256).toNat;have h3:=dY (n/256%256).toNat
 match k with
 |0=>simp[fH]
 |1=>simp[fH];omega
 |2=>simp[fH];omega
 |_+3=>simp[fH];omega
theorem Ah{n:Int}(h0:0<=n):(⟨(fH n 3++bR (n%256).toNat).toArray⟩:ByteArray)=fR n:=by
 unfold fR iE fH;have e1:(n/16777216).toNat=n.toNat/16777216:=om;have e2:(n/65536%256).toNat=n.toNat/65536%256:=om;have e3:(n/256%256).toNat=n.toNat/256%256:=om;have e4:(n%256).toNat=n.toNat%256:=om;rw[e1,e2,e3,e4];simp
def KR:Nat->Int
 |0=>16777216
 |1=>65536
 |2=>256
 |3=>1
 |_=>0
theorem sM(n:Int)(w:World)(h0:0<=n)(h1:n<4294967296)(hT:Pow w):Calls prog 142 #[I J n] w fun e w'=>e=Z (Y (fR n))/\Below w.heap.size w w':=by
 obtain ⟨i0,hi,hz0,hz1,hz2⟩:=info_parts info5;have HT:Hid (Lib.TabBelow prog w.heap.size w "internal/strconv.uint64pow10" .u64 Lib.pow10Tab):=Lib.tabBelow_of_tabIs hT;clear hT;go_enter func142,ntmps142;go_wp2_with (at_make;refine wpList_make_own _ rfl _ _ 22 rfl w.heap.size 5 i0 (.int .u8 0) 1 underlying22 hi hz0 hz1 _ _ _ 15 rfl rfl om (by rw[hz2];omega) (by unfold maxLen;omega) (zg _) ?_);intro wm hmo hgm;have Bm:Below w.heap.size w wm:=(zd _ _).grown hgm (zg _) (fun k hk=>by cases hk);have o9:wm.ownsRow w.heap.size 5 1 (.slice (some ⟨w.heap.size,0,none⟩) 0 15) 0 []:=hmo;clear hmo hgm;go_wp2_with fail
 go_loopw[3,4] (fun v r wr=> ∃k:Nat,k<=4/\r=I J (KR k)/\(k<=3->wr.ownsRow w.heap.size 5 1 v (fH n k).length (aD (fH n k)))/\(k=4->wr.ownsRow w.heap.size 5 1 v (fH n 3++bR (n%256).toNat).length (aD (fH n 3++bR (n%256).toNat)))/\Below w.heap.size w wr)
  (fun _ r _=>(intOf r).toNat)
 case atStart=>exact ⟨0,om,rfl,fun _=>o9,fun h=>by omega,Bm⟩
 obtain ⟨k,hk,rfl,hin,hend,hbel⟩:=hrel;clear o9 Bm hi hz0 hz1 hz2;have hsz:=hbel.size;have h5:k=0∨k=1∨k=2∨k=3∨k=4:=om;have HTW:Hid (Lib.TabBelow prog w.heap.size wr "internal/strconv.uint64pow10" .u64 Lib.pow10Tab):=HT.out.on hbel
 rcases h5 with rfl|rfl|rfl|rfl|rfl
 .have e0:n/16777216%256=n/16777216:=om
  have HI:Hid (∀(v:Value) (W:World),W.ownsRow w.heap.size 5 1 v (fH n 0).length (aD (fH n 0))->w.heap.size<=W.heap.size->Lib.TabBelow prog w.heap.size W "internal/strconv.uint64pow10" .u64 Lib.pow10Tab->Calls prog 192 #[v,I J (n/16777216),I J 10] W fun e w'=> ∃v',e=Z v'/\w'.ownsRow w.heap.size 5 1 v' (fH n 0++bR (n/16777216).toNat).length (aD (fH n 0++bR (n/16777216).toNat))/\Below w.heap.size W w'):=fun v W ho hB hT=>rH w.heap.size _ v _ W om om ho hB (by have:=nY n 0;omega) hT
  have o1:=hin om;have hl:=nY n 0;have hl2:=dY (n/16777216).toNat;clear hin hend;simp only[KR];go_wp2_with fail;refine (HI.out _ _ o1 hsz HTW.out).mono ?_;rintro e wb ⟨vb,rfl,o2,b2⟩;have B2:=hbel.trans b2;have z2:=B2.size;have hl3:(fH n 0++bR (n/16777216).toNat).length<=200:=by rw[za];omega
  clear o1 hbel b2 HTW HI;obtain ⟨L,hL⟩: ∃L,fH n 0++bR (n/16777216).toNat=L:=⟨_,rfl⟩;rw[hL]at o2 hl3;have HL:Hid (fH n 0++bR (n/16777216).toNat=L):=hL;clear hL;go_wp2_with (at_builtin;refine aC _ rfl _ _ 22 rfl w.heap.size 5 (.int .u8 0) 1 underlying22 info5 rfl _ _ _ rfl o2 #[.int .u8 46] 1 rfl rfl (by intro u hu;simp at hu;subst hu;rfl) om (by unfold maxLen;omega) z2 ?_);intro v' w1 o3 b3;have R:w1.ownsRow w.heap.size 5 1 v' (fH n 1).length (aD (fH n 1)):=by
   rw[show fH n 1=L++[46] by rw[<-HL.out];simp[fH],lR,za];exact o3
  have B3:=B2.trans b3;clear o2 o3 b3 B2;go_wp2_with fail;go_roundw
  case rel=>exact ⟨1,om,rfl,fun _=>R,fun h=>by omega,B3⟩
  case measure=>simp[intOf]
 .have HI:Hid (∀(v:Value) (W:World),W.ownsRow w.heap.size 5 1 v (fH n 1).length (aD (fH n 1))->w.heap.size<=W.heap.size->Lib.TabBelow prog w.heap.size W "internal/strconv.uint64pow10" .u64 Lib.pow10Tab->Calls prog 192 #[v,I J (n/65536%256),I J 10] W fun e w'=> ∃v',e=Z v'/\w'.ownsRow w.heap.size 5 1 v' (fH n 1++bR (n/65536%256).toNat).length (aD (fH n 1++bR (n/65536%256).toNat))/\Below w.heap.size W w'):=fun v W ho hB hT=>rH w.heap.size _ v _ W om om ho hB (by have:=nY n 1;omega) hT
  have o1:=hin om;have hl:=nY n 1;have hl2:=dY (n/65536%256).toNat;clear hin hend;simp only[KR];go_wp2_with fail;refine (HI.out _ _ o1 hsz HTW.out).mono ?_;rintro e wb ⟨vb,rfl,o2,b2⟩;have B2:=hbel.trans b2;have z2:=B2.size;have hl3:(fH n 1++bR (n/65536%256).toNat).length<=200:=by rw[za];omega
  clear o1 hbel b2 HTW HI;obtain ⟨L,hL⟩: ∃L,fH n 1++bR (n/65536%256).toNat=L:=⟨_,rfl⟩;rw[hL]at o2 hl3;have HL:Hid (fH n 1++bR (n/65536%256).toNat=L):=hL;clear hL;go_wp2_with (at_builtin;refine aC _ rfl _ _ 22 rfl w.heap.size 5 (.int .u8 0) 1 underlying22 info5 rfl _ _ _ rfl o2 #[.int .u8 46] 1 rfl rfl (by intro u hu;simp at hu;subst hu;rfl) om (by unfold maxLen;omega) z2 ?_);intro v' w1 o3 b3;have R:w1.ownsRow w.heap.size 5 1 v' (fH n 2).length (aD (fH n 2)):=by
   rw[show fH n 2=L++[46] by rw[<-HL.out];simp[fH],lR,za];exact o3
  have B3:=B2.trans b3;clear o2 o3 b3 B2;go_wp2_with fail;go_roundw
  case rel=>exact ⟨2,om,rfl,fun _=>R,fun h=>by omega,B3⟩
  case measure=>simp[intOf]
 .have HI:Hid (∀(v:Value) (W:World),W.ownsRow w.heap.size 5 1 v (fH n 2).length (aD (fH n 2))->w.heap.size<=W.heap.size->Lib.TabBelow prog w.heap.size W "internal/strconv.uint64pow10" .u64 Lib.pow10Tab->Calls prog 192 #[v,I J (n/256%256),I J 10] W fun e w'=> ∃v',e=Z v'/\w'.ownsRow w.heap.size 5 1 v' (fH n 2++bR (n/256%256).toNat).length (aD (fH n 2++bR (n/256%256).toNat))/\Below w.heap.size W w'):=fun v W ho hB hT=>rH w.heap.size _ v _ W om om ho hB (by have:=nY n 2;omega) hT
  have o1:=hin om;have hl:=nY n 2;have hl2:=dY (n/256%256).toNat;clear hin hend;simp only[KR];go_wp2_with fail;refine (HI.out _ _ o1 hsz HTW.out).mono ?_;rintro e wb ⟨vb,rfl,o2,b2⟩;have B2:=hbel.trans b2;have z2:=B2.size;have hl3:(fH n 2++bR (n/256%256).toNat).length<=200:=by rw[za];omega
  clear o1 hbel b2 HTW HI;obtain ⟨L,hL⟩: ∃L,fH n 2++bR (n/256%256).toNat=L:=⟨_,rfl⟩;rw[hL]at o2 hl3;have HL:Hid (fH n 2++bR (n/256%256).toNat=L):=hL;clear hL;go_wp2_with (at_builtin;refine aC _ rfl _ _ 22 rfl w.heap.size 5 (.int .u8 0) 1 underlying22 info5 rfl _ _ _ rfl o2 #[.int .u8 46] 1 rfl rfl (by intro u hu;simp at hu;subst hu;rfl) om (by unfold maxLen;omega) z2 ?_);intro v' w1 o3 b3;have R:w1.ownsRow w.heap.size 5 1 v' (fH n 3).length (aD (fH n 3)):=by
   rw[show fH n 3=L++[46] by rw[<-HL.out];simp[fH],lR,za];exact o3
  have B3:=B2.trans b3;clear o2 o3 b3 B2;go_wp2_with fail;go_roundw
  case rel=>exact ⟨3,om,rfl,fun _=>R,fun h=>by omega,B3⟩
  case measure=>simp[intOf]
 .have HI:Hid (∀(v:Value) (W:World),W.ownsRow w.heap.size 5 1 v (fH n 3).length (aD (fH n 3))->w.heap.size<=W.heap.size->Lib.TabBelow prog w.heap.size W "internal/strconv.uint64pow10" .u64 Lib.pow10Tab->Calls prog 192 #[v,I J (n%256),I J 10] W fun e w'=> ∃v',e=Z v'/\w'.ownsRow w.heap.size 5 1 v' (fH n 3++bR (n%256).toNat).length (aD (fH n 3++bR (n%256).toNat))/\Below w.heap.size W w'):=fun v W ho hB hT=>rH w.heap.size _ v _ W om om ho hB (by have:=nY n 3;omega) hT
  have o1:=hin om;clear hin hend;simp only[KR];go_wp2_with fail;refine (HI.out _ _ o1 hsz HTW.out).mono ?_;rintro e wb ⟨vb,rfl,o2,b2⟩;have B2:=hbel.trans b2;clear o1 hbel b2 HTW HI;go_wp2_with fail;go_roundw
  case rel=>exact ⟨4,om,rfl,fun h=>by omega,fun _=>o2,B2⟩
  case measure=>simp[intOf]
 have o1:=hend rfl;clear hin hend;have hcv:=bG (P:=prog) wr 22 9 5 underlying22 underlying5 underlying9 o1;rw[Ah h0]at hcv;simp only[KR];go_wp2_with fail;go_ret;exact ⟨rfl,hbel⟩
theorem EY(n:Int)(w:World)(h:n<0∨4294967295<n):Calls prog 142 #[I J n] w fun e w'=>e=Z (Y ⟨#[]⟩)/\Below w.heap.size w w':=by
 by_cases h0:n<0
 .clear h
  go_enter func142,ntmps142;go_wp2_with fail;go_ret;exact ⟨rfl,zd _ _⟩
 have h1:4294967296<=n:=om;clear h;go_enter func142,ntmps142;go_wp2_with fail;go_ret;exact ⟨rfl,zd _ _⟩
def rI(w:World):Prop:= ∃m,w.cell? ⟨8,0,none⟩=some (I J m)
theorem EZ{w:World}(h:w.ShapedOpen prog):rI w:=laysM145.s1_3 w h
theorem jV{w w':World}(h:rI w)(hb:Below w.heap.size w w'):rI w':=by
 obtain ⟨m,hm⟩:=h;exact ⟨m,cell_later hb hm⟩
end
section
open Go.ChangeShapes Go.WideShapes Go.ChangeAt Go.RowKit Go.Lib
theorem Ai:(Rows.laid_internal_strconv_uint64pow10:DataW Unit)=Lib.tabData .u64 Lib.pow10Tab:=kr
def FA(d:DataW Unit):Array Value:=match d with
 | .agg ds=>(ds.map fun x=>match x with
  | .lit (.int k n)=>Value.int k n
  |_=>Value.int .i64 0).toArray
 |_=> #[]
def NV(cs:Array Value):Obj->Obj
 | .cells _ t frozen=> .cells cs t frozen
 |o=>o
def Hq(h:Array Obj):Array Obj:=
 ((h.modify 10 (NV (FA Rows.laid_math_bits_deBruijn32tab))).modify 11 (NV (FA Rows.laid_math_bits_deBruijn64tab))).modify 7 (NV (FA Rows.laid_internal_strconv_uint64pow10))
end
section
open Go.RowKit
def hxU(i:Nat):UInt8:=zf (if i<10 then 48+i else 87+i)
def bM(n:Nat):List UInt8:=if n<16 then [hxU n]else if n<256 then [hxU (n/16),hxU (n%16)]else if n<4096 then [hxU (n/256),hxU (n/16%16),hxU (n%16)]else [hxU (n/4096),hxU (n/256%16),hxU (n/16%16),hxU (n%16)]
theorem Hr: ∀i,i<16->bP (hxU i).toNat=(i:Int):=by decide+kernel
theorem NW: ∀i,i<16->hxU i≠58/\hxU i≠46:=by decide+kernel
theorem lL{i n:Nat}(h:i<16)(r:List UInt8):fB 16 n (hxU i::r)=fB 16 (n*16+i) r:=by
 rw[fB,Hr i h,if_pos om];rfl
theorem Aj{n:Nat}(h:n<65536):cU 16 4 (bM n)=some n:=by
 unfold bM cU;split
 .rw[if_pos j2,lL om,fB]
  congr 1
  omega
 split
 .rw[if_pos j2,lL om,lL om,fB]
  congr 1
  omega
 split
 .rw[if_pos j2,lL om,lL om,lL om,fB]
  congr 1
  omega
 rw[if_pos j2,lL om,lL om,lL om,lL om,fB]
 congr 1
 omega
theorem tV{n:Nat}(h:n<65536): ∀c∈bM n,c≠58/\c≠46:=by
 intro c hc;unfold bM at hc;split at hc
 .simp only[zl,zi,or_false]at hc
  subst hc;exact NW _ om
 split at hc
 .simp only[zl,zi,or_false]at hc
  rcases hc with rfl|rfl<;>exact NW _ om
 split at hc
 .simp only[zl,zi,or_false]at hc
  rcases hc with rfl|rfl|rfl<;>exact NW _ om
 simp only[zl,zi,or_false]at hc
 rcases hc with rfl|rfl|rfl|rfl<;>exact NW _ om
theorem lX(n:Nat):1<=(bM n).length/\(bM n).length<=4:=by
 unfold bM;split
 .simp
 split
 .simp
 split<;>simp
theorem NX(n:Nat):(bM n).isEmpty=false:=by
 have:=(lX n).1
 cases h:bM n with
 |nil=>rw[h]at this;simp at this
 |cons _ _=>rfl
theorem FB(n:Nat):bM n≠[]:=by
 intro e;have h:=NX n;rw[e]at h
 cases h
def cW:List UInt8->Option (List UInt8×List UInt8)
 |[]=>none
 |c::r=>if c=58/\r.head? =some 58 then some ([],r.tail)else (cW r).map fun p=>(c::p.1,p.2)
theorem DU: ∀{l:List UInt8},(∀c∈l,c≠58)->cW l=none
 |[],_=>rfl
 |c::r,h=>by
  rw[cW,if_neg (fun e=>h c zc e.1),DU (fun d hd=>h d (zh _ hd))];rfl
theorem xH{x:List UInt8}(hx:cW x=none)(hne:x.head? ≠some 58): ∀p,cW (p++x)=(cW p).map fun q=>(q.1,q.2++x)
 |[]=>by rw[zj,hx];rfl
 |[c]=>by
  rw[ze,zj,cW,if_neg (fun e=>hne e.2),hx];simp[cW]
 |c::d::r=>by
  have ih:=xH hx hne (d::r);rw[ze,cW,cW]
  by_cases h:c=58/\d=58
  .rw[if_pos (by simpa using h),if_pos (by simpa using h)]
   simp
  rw[if_neg (by simpa using h),if_neg (by simpa using h),ih]
  cases cW (d::r)<;>rfl
theorem xI(y:List UInt8): ∀{p:List UInt8},(∀c∈p,c≠58)->cW (p++y)=(cW y).map fun q=>(p++q.1,q.2)
 |[],_=>by
  rw[zj]
  cases cW y<;>rfl
 |c::r,h=>by
  rw[ze,cW,if_neg (fun e=>h c zc e.1),xI y (fun d hd=>h d (zh _ hd))]
  cases cW y<;>rfl
theorem vU: ∀{l a b:List UInt8},cW l=some (a,b)->l=a++58::58::b
 |[],_,_,h=>by cases h
 |c::r,a,b,h=>by
  rw[cW]at h;split at h
  .rename_i hc
   cases h
   obtain ⟨rfl,hr⟩:=hc
   cases r with
   |nil=>simp at hr
   |cons d q=>simp at hr;subst hr;rfl
  cases hr:cW r with
  |none=>rw[hr]at h;cases h
  |some p=>
   rw[hr]at h
   cases h
   rw[ze,<-vU (a:=p.1) (b:=p.2) hr]
def FC(x:List UInt8):Prop:=x≠[]/\ ∀c∈x,c≠58
theorem NY{b:UInt8}{x:List UInt8}{r:List (List UInt8)}(hx:FC x):(jl b (x::r)).head? ≠some 58:=by
 obtain ⟨h1,h2⟩:=hx
 cases x with
 |nil=>exact absurd rfl h1
 |cons c q=>
  have hc:=h2 c zc
  cases r<;>simp[jl,hc]
theorem XP: ∀{fs:List (List UInt8)},(∀x∈fs,FC x)->cW (jl 58 fs)=none
 |[],_=>rfl
 |[x],h=>DU (h x zc).2
 |x::y::r,h=>by
  have ih:=XP (fs:=y::r) fun z hz=>h z (zh _ hz)
  rw[jl,xI _ (h x zc).2,cW,if_neg (fun e=>NY (h y j2) e.2),ih];rfl
theorem RZ(B:List UInt8): ∀{fs:List (List UInt8)},(∀x∈fs,FC x)->cW (jl 58 fs++58::58::B)=some (jl 58 fs,B)
 |[],_=>by simp[jl,cW]
 |[x],h=>by
  rw[jl,xI _ (h x zc).2,cW,if_pos j2];simp
 |x::y::r,h=>by
  have ih:=RZ B (fs:=y::r) fun z hz=>h z (zh _ hz)
  have hh:=NY (b:=58) (r:=r) (h y j2);rw[jl,zw,xI _ (h x zc).2,ze,cW,if_neg ?_,ih]
  .rfl
  intro e;apply hh
  cases hj:jl 58 (y::r)with
  |nil=>
   have h1:=h y j2
   cases r<;>simp[jl]at hj
   exact absurd hj h1.1
  |cons c q=>
   rw[hj]at e;simpa using e.2
def g16(x:List UInt8):Option Nat:=if x.isEmpty then none else cU 16 4 x
def grp(t:Bool):List (List UInt8)->Option (List Nat)
 |[]=>some []
 |x::r=>match (if t&&r.isEmpty then p4 x else none)with
  |some n=>some [n/65536,n%65536]
  |none=>match g16 x with
   |none=>none
   |some v=>(grp t r).map (v:: ·)
def dJ(t:Bool)(l:List UInt8):Option (List Nat):=if l.isEmpty then some []else grp t (spl 58 l)
def jE(a b:List Nat):List Nat:=a++List.replicate (8-a.length-b.length) 0++b
def eK(l:List UInt8):Option (List Nat):=match cW l with
 |none=>match dJ true l with
  |none=>none
  |some g=>if g.length=8 then some g else none
 |some (a,b)=>match dJ false a,dJ true b with
  |some x,some y=>if x.length+y.length<=7 then some (jE x y)else none
  |_,_=>none
def sO(l:List UInt8):Option (List Nat):=match cW l with
 |none=>match dJ false l with
  |none=>none
  |some g=>if g.length=8 then some g else none
 |some (a,b)=>match dJ false a,dJ false b with
  |some x,some y=>if x.length+y.length<=7 then some (jE x y)else none
  |_,_=>none
def nZ(n:Nat):List UInt8:=jl 58 [bM (n/65536),bM (n%65536)]
def SE(y:List UInt8):Option (List Nat):=match p4 y with
 |some n=>some [n/65536,n%65536]
 |none=>(g16 y).map fun v=>[v]
theorem jP(x:List UInt8)(r:List (List UInt8)):grp false (x::r)=match g16 x with
  |none=>none
  |some v=>(grp false r).map (v:: ·):=by
 rw[grp];rfl
theorem NZ: ∀xs ys,grp false (xs++ys)=(grp false xs).bind fun g=>(grp false ys).map (g++ ·)
 |[],ys=>by
  rw[zj,grp]
  cases grp false ys<;>rfl
 |x::r,ys=>by
  rw[ze,jP,jP,NZ r ys]
  cases g16 x<;>cases grp false r<;>cases grp false ys<;>rfl
theorem FD: ∀xs y,grp true (xs++[y])=(grp false xs).bind fun g=>(SE y).map (g++ ·)
 |[],y=>by
  rw[zj,grp];simp only[List.isEmpty_nil,Bool.and_self,if_true,grp,SE,Option.bind_some]
  cases p4 y<;>cases g16 y<;>rfl
 |x::r,y=>by
  rw[ze,grp,jP,FD r y];simp only[show (r++[y]).isEmpty=false by cases r<;>rfl,Bool.and_false,zv,if_false]
  cases g16 x<;>cases grp false r<;>cases SE y<;>rfl
def sP(b:List UInt8):Prop:=b=[]∨ ∃q,b=q++[58]
theorem SF{b:List UInt8}(h:sP b): ∃xs,∀x,spl 58 (b++x)=xs++spl 58 x:=by
 rcases h with rfl|⟨q,rfl⟩
 .exact ⟨[],fun x=>rfl⟩
 exact ⟨spl 58 q,fun x=>by rw[zw,ze,zj,DR]⟩
theorem Ak{n:Nat}(h:n<4294967296):spl 58 (nZ n)=[bM (n/65536),bM (n%65536)]:=by
 refine zV 58 j2 ?_;intro x hx;simp only[zl,zi,or_false]at hx
 rcases hx with rfl|rfl
 .exact fun c hc=>(tV om c hc).1
 exact fun c hc=>(tV om c hc).1
theorem OB{n:Nat}(h:n<65536):g16 (bM n)=some n:=by
 unfold g16;rw[NX,Aj h];rfl
theorem Hs{n:Nat}(h:n<4294967296):grp false [bM (n/65536),bM (n%65536)]=some [n/65536,n%65536]:=by
 rw[jP,OB om,jP,OB om,grp];rfl
theorem Lx:p4 []=none:=by rfl
theorem KS{b tl:List UInt8}{n:Nat}(hb:sP b)(h58: ∀c∈tl,c≠58)(h:p4 tl=some n):dJ true (b++tl)=dJ false (b++nZ n):=by
 obtain ⟨xs,hs⟩:=SF hb;have hn:=(oV h).1;have h1:(b++tl).isEmpty=false:=by
  cases tl with
  |nil=>rw[Lx]at h;cases h
  |cons c r=>cases b<;>rfl
 have h2:(b++nZ n).isEmpty=false:=by
  have h3:=(lX (n/65536)).1
  cases b with
  |cons c r=>rfl
  |nil=>
   unfold nZ
   cases h4:bM (n/65536)with
   |nil=>rw[h4]at h3;simp at h3
   |cons c r=>rfl
 unfold dJ;rw[h1,h2,hs tl,hs (nZ n),lV 58 h58,Ak hn,FD,NZ,Hs hn];simp only[SE,h]
theorem FE{b tl:List UInt8}(hb:sP b)(h58: ∀c∈tl,c≠58)(h:p4 tl=none):dJ true (b++tl)=dJ false (b++tl):=by
 obtain ⟨xs,hs⟩:=SF hb;unfold dJ;rw[hs tl,lV 58 h58,FD,NZ,jP];simp only[SE,h,grp]
 cases g16 tl<;>rfl
theorem SG{p a b:List UInt8}(hp:sP p)(h:cW p=some (a,b)):sP b:=by
 have e:=vU h
 rcases hp with rfl|⟨q,rfl⟩
 .cases h
 by_cases hb:b=[]
 .exact .inl hb
 obtain ⟨b',c,rfl⟩: ∃b' c,b=b'++[c]:=⟨b.dropLast,b.getLast hb,(List.dropLast_concat_getLast hb).symm⟩;have e2:q++[58]=(a++58::58::b')++[c]:=by simp[e]
 have:=(List.append_inj' e2 rfl).2
 cases this
 exact .inr ⟨b',rfl⟩
theorem Al{n:Nat}(h:n<4294967296):cW (nZ n)=none/\(nZ n).head? ≠some 58:=by
 have hp: ∀x∈[bM (n/65536),bM (n%65536)],FC x:=by
  intro x hx;simp only[zl,zi,or_false]at hx
  rcases hx with rfl|rfl
  .exact ⟨FB _,fun c hc=>(tV om c hc).1⟩
  exact ⟨FB _,fun c hc=>(tV om c hc).1⟩
 exact ⟨XP hp,NY (hp _ j2)⟩
theorem KT{l:List UInt8}(h: ∀c∈l,c≠58):l.head? ≠some 58:=by
 cases l with
 |nil=>simp
 |cons c r=>simpa using h c zc
theorem N7{p tl:List UInt8}{n:Nat}(hp:sP p)(h58: ∀c∈tl,c≠58)(h:p4 tl=some n):sO (p++nZ n)=eK (p++tl):=by
 obtain ⟨t1,t2⟩:=Al (oV h).1;unfold eK sO;rw[xH (DU h58) (KT h58),xH t1 t2]
 cases hc:cW p with
 |none=>
  simp only[zx];rw[KS hp h58 h]
 |some ab=>
  obtain ⟨a,b⟩:=ab;simp only[zy];rw[KS (SG hp hc) h58 h]
theorem XQ{p tl:List UInt8}(hp:sP p)(h58: ∀c∈tl,c≠58)(h:p4 tl=none):sO (p++tl)=eK (p++tl):=by
 unfold eK sO;rw[xH (DU h58) (KT h58)]
 cases hc:cW p with
 |none=>
  simp only[zx];rw[FE hp h58 h]
 |some ab=>
  obtain ⟨a,b⟩:=ab;simp only[zy];rw[FE (SG hp hc) h58 h]
def gtL(gs:List Nat):List UInt8:=jl 58 (gs.map bM)
theorem FF{gs:List Nat}(h: ∀g∈gs,g<65536): ∀x∈gs.map bM,FC x:=by
 intro x hx;obtain ⟨g,hg,rfl⟩:=List.mem_map.1 hx;exact ⟨FB _,fun c hc=>(tV (h g hg) c hc).1⟩
theorem Am(t:Bool): ∀{gs:List Nat},(∀g∈gs,g<65536)->grp t (gs.map bM)=some gs
 |[],_=>by cases t<;>rfl
 |g::r,h=>by
  have hg:=h g zc;have h4:p4 (bM g)=none:=by
   unfold p4;rw[lV 46 (fun c hc=>(tV hg c hc).2),if_neg j2]
  rw[zm,grp,h4,Am t (fun x hx=>h x (zh _ hx)),OB hg];simp
theorem Ly{gs:List Nat}:(gtL gs).isEmpty=gs.isEmpty:=by
 match gs with
 |[]=>rfl
 |[g]=>simpa[gtL,jl] using NX g
 |g::h::r=>
  unfold gtL;rw[zm,zm,jl]
  cases bM g<;>rfl
theorem OC(t:Bool){gs:List Nat}(h: ∀g∈gs,g<65536):dJ t (gtL gs)=some gs:=by
 unfold dJ;rw[Ly]
 cases gs with
 |nil=>rfl
 |cons g r=>
  simp only[List.isEmpty_cons,zv,if_false];unfold gtL;rw[zV 58 j2 (fun x hx=>(FF h x hx).2),Am t h]
def xJ(w:List Nat)(f e:Nat):List UInt8:=if e-f<2 then gtL w else gtL (w.take f)++58::58::gtL (w.drop e)
theorem E5{w:List Nat}(hl:w.length=8)(h: ∀g∈w,g<65536):eK (gtL w)=some w:=by
 unfold eK;rw[show cW (gtL w)=none from XP (FF h)];simp only;rw[OC true h];simp only[hl,if_true]
theorem N8{w:List Nat}{f e:Nat}(hl:w.length=8)(h: ∀g∈w,g<65536)(he:e<=8)(hz: ∀i,f<=i->i<e->w.getD i 0=0):eK (xJ w f e)=some w:=by
 unfold xJ;split
 .exact E5 hl h
 have h1: ∀g∈w.take f,g<65536:=fun g hg=>h g (List.mem_of_mem_take hg)
 have h2: ∀g∈w.drop e,g<65536:=fun g hg=>h g (List.mem_of_mem_drop hg)
 unfold eK;rw[show cW (gtL (w.take f)++58::58::gtL (w.drop e))=some (gtL (w.take f),gtL (w.drop e)) from RZ _ (FF h1)];simp only;rw[OC false h1,OC true h2];simp only[zs,zt];rw[if_pos om]
 congr 1
 unfold jE;apply List.ext_getElem
 .simp;omega
 intro i i1 i2;simp only[za,zs,List.length_replicate,zt]at i1
 by_cases c1:i<f
 .rw[zn (by simp;omega),zn (by simp;omega),List.getElem_take]
 by_cases c2:i<e
 .rw[zn (by simp;omega),zq (by simp;omega),List.getElem_replicate]
  have:=hz i om c2
  rw[List.getD_eq_getElem?_getD,List.getElem?_eq_getElem om]at this;exact this.symm
 rw[zq (by simp;omega),List.getElem_drop]
 congr 1
 simp;omega
theorem pN: ∀gs:List Nat,(gtL gs).length<=5*gs.length-1/\gs.length<=(gtL gs).length
 |[]=>by simp[gtL,jl]
 |[g]=>by have:=lX g;simp[gtL,jl];omega
 |g::h::r=>by
  have ih:=pN (h::r);have hg:=lX g;unfold gtL at ih⊢;rw[zm,zm,jl,za,zu];rw[zm]at ih;simp only[zu]at ih⊢;omega
theorem E6{w:List Nat}{f e:Nat}(hl:w.length=8)(he:e<=8):2<=(xJ w f e).length/\(xJ w f e).length<=39:=by
 unfold xJ;have g1:=pN w;have g2:=pN (w.take f);have g3:=pN (w.drop e);split
 .omega
 simp only[za,zu,zs,zt]at g2 g3⊢;omega
def kG:Nat->Nat×Nat×Nat->List Bool->Nat×Nat×Nat
 |_,s,[]=>s
 |i,(f,t,b),z::r=>kG (i+1) (if z then (if t-f<i+1-b then (b,i+1,b)else (f,t,b))else (f,t,i+1)) r
def qA:List Bool->Nat
 |true::r=>qA r+1
 |_=>0
def hF:Nat->Nat×Nat->List Bool->Nat×Nat
 |_,s,[]=>s
 |a,(f,t),z::r=>hF (a+1) (if 1<qA (z::r)/\t-f<qA (z::r)then (a,a+qA (z::r))else (f,t)) r
def vV(z:List Bool):Bool:=
 let p:=kG 0 (0,0,0) z
 let q:=hF 0 (8,8) z
 decide (p.1<=p.2.1)&&decide (p.2.1<=8)&&(if p.2.1-p.1<2 then decide (q=(8,8))else decide (q=(p.1,p.2.1))&&(List.range 8).all fun i=> !(decide (p.1<=i)&&decide (i<p.2.1))||z.getD i false)
theorem Ht: ∀a b c d e f g h:Bool,vV [a,b,c,d,e,f,g,h]=true:=by decide+kernel
end
section
open Go.RowKit
set_option linter.unusedSimpArgs false
def cC(w:World):Prop:=w.cell? ⟨11,15,none⟩=some (.int .u8 4)
theorem xK(w:World):Calls prog 235 #[I J 16] w fun e w'=>e=Z (E true)/\w=w':=by
 go_enter func235,ntmps235;go_wp2;go_ret;exact ⟨rfl,rfl⟩
theorem An(w:World)(h:cC w):Calls prog 260 #[.int .u64 16] w fun e w'=>e=Z (I J 4)/\w=w':=by
 unfold cC at h;have e1:bits .and .u64 16 (IntKind.u64.wrap (-16))=16:=kr;have e2:IntKind.u64.wrap (16*285870213051353865)=4573923408821661840:=kr;have e3:IntKind.u64.wrap 4573923408821661840=4573923408821661840:=kr;have e4:(4573923408821661840:Int)/288230376151711744=15:=de;go_enter func260,ntmps260;go_wp2;go_ret;exact ⟨rfl,rfl⟩
theorem OD(w:World)(h:cC w):Calls prog 236 #[.int .u64 16] w fun e w'=>e=Z (I J 4)/\w=w':=by
 have H:Hid (cC w):=h;clear h;go_enter func236,ntmps236;go_wp2_with fail;refine j5 (An _ H.out) ?_;go_wp2_with fail;go_ret;exact ⟨rfl,rfl⟩
theorem bF{w w':World}(h:cC w)(hb:Below w.heap.size w w'):cC w':=cell_later hb h
theorem dig36: ∀k,k<16->((#[48,49,50,51,52,53,54,55,56,57,97,98,99,100,101,102,103,104,105,106,107,108,109,110,111,112,113,114,115,116,117,118,119,120,121,122]:Array UInt8).getD k 0)=hxU k:=by decide+kernel
theorem jF(k:Nat)(h:k<16)(hp:k<(⟨#[48,49,50,51,52,53,54,55,56,57,97,98,99,100,101,102,103,104,105,106,107,108,109,110,111,112,113,114,115,116,117,118,119,120,121,122]⟩:ByteArray).size):
  (⟨#[48,49,50,51,52,53,54,55,56,57,97,98,99,100,101,102,103,104,105,106,107,108,109,110,111,112,113,114,115,116,117,118,119,120,121,122]⟩:ByteArray)[k]'hp=hxU k:=by
 rw[<-dig36 k h];rw[Array.getD_eq_getD_getElem?,Array.getElem?_eq_getElem hp];rfl
theorem OE:zeroCells221.size=65:=kr
theorem FG(n:Int)(h0:0<=n)(h1:n<18446744073709551616):IntKind.u64.wrap n=n:=by
 simp[IntKind.wrap,IntKind.bits,IntKind.signed];omega
theorem nL(x:Int)(h0:0<=x)(h1:x<18446744073709551616):bits .and .u64 x 15=x%16:=by
 obtain ⟨a,rfl⟩:=zr h0;have ha:(BitVec.ofInt 64 (a:Int)).toNat=a:=by
  rw[BitVec.ofInt_natCast,BitVec.toNat_ofNat];exact Nat.mod_eq_of_lt om
 have hb:(BitVec.ofInt 64 (15:Int)).toNat=15:=de;show IntKind.u64.wrap ((BitVec.ofInt 64 (a:Int)&&&BitVec.ofInt 64 (15:Int)).toNat:Int)=_;rw[BitVec.toNat_and,ha,hb,show (15:Nat)=2^4-1 from rfl,Nat.and_two_pow_sub_one_eq_mod,FG _ om om];omega
theorem DV{w:World}{cs:Array Value}{T:TypeId}{o:Nat}{l:List UInt8}(h: ∀j (hj:j<l.length),cs[o+j]? =some (.int .u8 (l[j].toNat:Int))):
  ∀(j:Nat) (x:Value),(aD l)[j]? =some x->(w.alloc (.cells cs T)).cell? ((⟨w.heap.size,o,none⟩:Addr).add j)=some x:=by
 intro j x hj;rw[Addr.add_lit,zo _ _ _ _ rfl];unfold aD at hj;rw[List.getElem?_map]at hj;obtain ⟨c,hc,rfl⟩:=Option.map_eq_some_iff.1 hj;obtain ⟨hl,rfl⟩:=List.getElem?_eq_some_iff.1 hc;exact h j hl
theorem SH(u:Int)(B:Nat)(v:Value)(l:List UInt8)(w:World)(h0:0<=u)(h1:u<16)(hT:cC w)(hown:w.ownsRow B 5 1 v l.length (aD l))(hB:B<=w.heap.size)(hl:l.length<=1000):Calls prog 199 #[v,.int .u64 u,I J 16,E false,E true] w fun e w'=> ∃v',e=Z (F #[v',Y ⟨#[]⟩])/\w'.ownsRow B 5 1 v' (l++bM u.toNat).length (aD (l++bM u.toNat))/\Below B w w':=by
 have HH:Hid (bM u.toNat=[hxU u.toNat]):=by show _=_;unfold bM;rw[if_pos om]
 obtain ⟨i0,hi,hz0,hz1,hz2⟩:=info_parts info5;have HT:Hid (cC w):=hT;clear hT;have HO:Hid (w.ownsRow B 5 1 v l.length (aD l)):=hown;clear hown;go_enter func199,ntmps199;go_wp2_with fail;refine j5 (xK _) ?_;go_wp2_with fail;refine j5 (OD _ (bF HT.out ((zd _ _).alloc (zg _) _))) ?_;go_wp2_with fail;refine wp_loop_rounds 1 ?_;rw[rounds_succ];go_wp2_with (at_builtin;refine wpList_append_own _ rfl _ _ 22 rfl B 5 i0 (.int .u8 0) 1 1 underlying22 hi hz0 hz1 hz2 rfl de _ _ _ rfl (HO.out.alloc _) ⟨w.heap.size,64,none⟩ 1 1 (aD (bM u.toNat)) rfl (by rw[jB,HH.out];rfl) (DV ?_) (kC _) (by unfold maxLen;omega) om (by simp;omega) ?_)
 .rw[HH.out]
  intro j hj
  obtain rfl:j=0:=by simpa using hj
  rw[Array.getElem?_setIfInBounds_self_of_lt (by rw[OE];decide),jF _ om];rfl
 intro v' w1 h2 h3 _;have B1:Below B w w1:=((zd B w).alloc hB _).grown h3 (by simp;omega) (fun k hk=>(HO.out.lt k hk).1);have R:w1.ownsRow B 5 1 v' (l++bM u.toNat).length (aD (l++bM u.toNat)):=by
  rw[fW,za,show (bM u.toNat).length=1 by rw[HH.out];rfl];exact h2
 clear h2 h3;go_wp2_with fail;go_ret2;exact ⟨_,rfl,R,B1⟩
theorem SI(u:Int)(B:Nat)(v:Value)(l:List UInt8)(w:World)(h0:16<=u)(h1:u<256)(hT:cC w)(hown:w.ownsRow B 5 1 v l.length (aD l))(hB:B<=w.heap.size)(hl:l.length<=1000):Calls prog 199 #[v,.int .u64 u,I J 16,E false,E true] w fun e w'=> ∃v',e=Z (F #[v',Y ⟨#[]⟩])/\w'.ownsRow B 5 1 v' (l++bM u.toNat).length (aD (l++bM u.toNat))/\Below B w w':=by
 obtain ⟨q1,hq1⟩: ∃q1:Int,u/16=q1:=⟨_,rfl⟩;obtain ⟨r0,hr0⟩: ∃r0:Int,u%16=r0:=⟨_,rfl⟩;have HH:Hid (bM u.toNat=[hxU q1.toNat,hxU r0.toNat]):=by
  show _=_;unfold bM;rw[if_neg om,if_pos om,show u.toNat/16=q1.toNat by omega,show u.toNat%16=r0.toNat by omega]
 have c1:0<=q1:=om;have c2:q1<16:=om;have c3:0<=r0:=om;have c4:r0<16:=om;have b0:bits .and .u64 u 15=r0:=by rw[nL _ om om,hr0]
 clear hr0;obtain ⟨i0,hi,hz0,hz1,hz2⟩:=info_parts info5;have HT:Hid (cC w):=hT;clear hT;have HO:Hid (w.ownsRow B 5 1 v l.length (aD l)):=hown;clear hown;go_enter func199,ntmps199;go_wp2_with fail;refine j5 (xK _) ?_;go_wp2_with fail;refine j5 (OD _ (bF HT.out ((zd _ _).alloc (zg _) _))) ?_;go_wp2_with fail;refine wp_loop_rounds 2 ?_;rw[rounds_succ];go_wp2_with fail;rw[rounds_succ];go_wp2_with (at_builtin;refine wpList_append_own _ rfl _ _ 22 rfl B 5 i0 (.int .u8 0) 1 1 underlying22 hi hz0 hz1 hz2 rfl de _ _ _ rfl (HO.out.alloc _) ⟨w.heap.size,63,none⟩ 2 2 (aD (bM u.toNat)) rfl (by rw[jB,HH.out];rfl) (DV ?_) (kC _) (by unfold maxLen;omega) om (by simp;omega) ?_)
 .rw[HH.out,jF r0.toNat om,jF q1.toNat om]
  intro j hj;have h3:j=0∨j=1:=by simp at hj;omega
  rcases h3 with rfl|rfl<;>simp[zk,OE]
 intro v' w1 h2 h3 _;have B1:Below B w w1:=((zd B w).alloc hB _).grown h3 (by simp;omega) (fun k hk=>(HO.out.lt k hk).1);have R:w1.ownsRow B 5 1 v' (l++bM u.toNat).length (aD (l++bM u.toNat)):=by
  rw[fW,za,show (bM u.toNat).length=2 by rw[HH.out];rfl];exact h2
 clear h2 h3;go_wp2_with fail;go_ret2;exact ⟨_,rfl,R,B1⟩
theorem SJ(u:Int)(B:Nat)(v:Value)(l:List UInt8)(w:World)(h0:256<=u)(h1:u<4096)(hT:cC w)(hown:w.ownsRow B 5 1 v l.length (aD l))(hB:B<=w.heap.size)(hl:l.length<=1000):Calls prog 199 #[v,.int .u64 u,I J 16,E false,E true] w fun e w'=> ∃v',e=Z (F #[v',Y ⟨#[]⟩])/\w'.ownsRow B 5 1 v' (l++bM u.toNat).length (aD (l++bM u.toNat))/\Below B w w':=by
 obtain ⟨q1,hq1⟩: ∃q1:Int,u/16=q1:=⟨_,rfl⟩;obtain ⟨r0,hr0⟩: ∃r0:Int,u%16=r0:=⟨_,rfl⟩;obtain ⟨q2,hq2⟩: ∃q2:Int,q1/16=q2:=⟨_,rfl⟩;obtain ⟨r1,hr1⟩: ∃r1:Int,q1%16=r1:=⟨_,rfl⟩;have HH:Hid (bM u.toNat=[hxU q2.toNat,hxU r1.toNat,hxU r0.toNat]):=by
  show _=_;unfold bM;rw[if_neg om,if_neg om,if_pos om,show u.toNat/256=q2.toNat by omega,show u.toNat/16%16=r1.toNat by omega,show u.toNat%16=r0.toNat by omega]
 have c1:16<=q1:=om;have c2:q1<256:=om;have c3:0<=r0:=om;have c4:r0<16:=om;have c5:0<=q2:=om;have c6:q2<16:=om;have c7:0<=r1:=om;have c8:r1<16:=om;have b0:bits .and .u64 u 15=r0:=by rw[nL _ om om,hr0]
 have b1:bits .and .u64 q1 15=r1:=by rw[nL _ om om,hr1]
 clear hr0 hr1;obtain ⟨i0,hi,hz0,hz1,hz2⟩:=info_parts info5;have HT:Hid (cC w):=hT;clear hT;have HO:Hid (w.ownsRow B 5 1 v l.length (aD l)):=hown;clear hown;go_enter func199,ntmps199;go_wp2_with fail;refine j5 (xK _) ?_;go_wp2_with fail;refine j5 (OD _ (bF HT.out ((zd _ _).alloc (zg _) _))) ?_;go_wp2_with fail;refine wp_loop_rounds 3 ?_;rw[rounds_succ];go_wp2_with fail;rw[rounds_succ];go_wp2_with fail;rw[rounds_succ];go_wp2_with (at_builtin;refine wpList_append_own _ rfl _ _ 22 rfl B 5 i0 (.int .u8 0) 1 1 underlying22 hi hz0 hz1 hz2 rfl de _ _ _ rfl (HO.out.alloc _) ⟨w.heap.size,62,none⟩ 3 3 (aD (bM u.toNat)) rfl (by rw[jB,HH.out];rfl) (DV ?_) (kC _) (by unfold maxLen;omega) om (by simp;omega) ?_)
 .rw[HH.out,jF r0.toNat om,jF r1.toNat om,jF q2.toNat om]
  intro j hj;have h3:j=0∨j=1∨j=2:=by simp at hj;omega
  rcases h3 with rfl|rfl|rfl<;>simp[zk,OE]
 intro v' w1 h2 h3 _;have B1:Below B w w1:=((zd B w).alloc hB _).grown h3 (by simp;omega) (fun k hk=>(HO.out.lt k hk).1);have R:w1.ownsRow B 5 1 v' (l++bM u.toNat).length (aD (l++bM u.toNat)):=by
  rw[fW,za,show (bM u.toNat).length=3 by rw[HH.out];rfl];exact h2
 clear h2 h3;go_wp2_with fail;go_ret2;exact ⟨_,rfl,R,B1⟩
theorem SK(u:Int)(B:Nat)(v:Value)(l:List UInt8)(w:World)(h0:4096<=u)(h1:u<65536)(hT:cC w)(hown:w.ownsRow B 5 1 v l.length (aD l))(hB:B<=w.heap.size)(hl:l.length<=1000):Calls prog 199 #[v,.int .u64 u,I J 16,E false,E true] w fun e w'=> ∃v',e=Z (F #[v',Y ⟨#[]⟩])/\w'.ownsRow B 5 1 v' (l++bM u.toNat).length (aD (l++bM u.toNat))/\Below B w w':=by
 obtain ⟨q1,hq1⟩: ∃q1:Int,u/16=q1:=⟨_,rfl⟩;obtain ⟨r0,hr0⟩: ∃r0:Int,u%16=r0:=⟨_,rfl⟩;obtain ⟨q2,hq2⟩: ∃q2:Int,q1/16=q2:=⟨_,rfl⟩;obtain ⟨r1,hr1⟩: ∃r1:Int,q1%16=r1:=⟨_,rfl⟩;obtain ⟨q3,hq3⟩: ∃q3:Int,q2/16=q3:=⟨_,rfl⟩;obtain ⟨r2,hr2⟩: ∃r2:Int,q2%16=r2:=⟨_,rfl⟩;have HH:Hid (bM u.toNat=[hxU q3.toNat,hxU r2.toNat,hxU r1.toNat,hxU r0.toNat]):=by
  show _=_;unfold bM;rw[if_neg om,if_neg om,if_neg om,show u.toNat/4096=q3.toNat by omega,show u.toNat/256%16=r2.toNat by omega,show u.toNat/16%16=r1.toNat by omega,show u.toNat%16=r0.toNat by omega]
 have c1:256<=q1:=om;have c2:q1<4096:=om;have c3:0<=r0:=om;have c4:r0<16:=om;have c5:16<=q2:=om;have c6:q2<256:=om;have c7:0<=r1:=om;have c8:r1<16:=om;have d5:0<=q3:=om;have d6:q3<16:=om;have d7:0<=r2:=om;have d8:r2<16:=om;have b0:bits .and .u64 u 15=r0:=by rw[nL _ om om,hr0]
 have b1:bits .and .u64 q1 15=r1:=by rw[nL _ om om,hr1]
 have b2:bits .and .u64 q2 15=r2:=by rw[nL _ om om,hr2]
 clear hr0 hr1 hr2;obtain ⟨i0,hi,hz0,hz1,hz2⟩:=info_parts info5;have HT:Hid (cC w):=hT;clear hT;have HO:Hid (w.ownsRow B 5 1 v l.length (aD l)):=hown;clear hown;go_enter func199,ntmps199;go_wp2_with fail;refine j5 (xK _) ?_;go_wp2_with fail;refine j5 (OD _ (bF HT.out ((zd _ _).alloc (zg _) _))) ?_;go_wp2_with fail;refine wp_loop_rounds 4 ?_;rw[rounds_succ];go_wp2_with fail;rw[rounds_succ];go_wp2_with fail;rw[rounds_succ];go_wp2_with fail;rw[rounds_succ];go_wp2_with (at_builtin;refine wpList_append_own _ rfl _ _ 22 rfl B 5 i0 (.int .u8 0) 1 1 underlying22 hi hz0 hz1 hz2 rfl de _ _ _ rfl (HO.out.alloc _) ⟨w.heap.size,61,none⟩ 4 4 (aD (bM u.toNat)) rfl (by rw[jB,HH.out];rfl) (DV ?_) (kC _) (by unfold maxLen;omega) om (by simp;omega) ?_)
 .rw[HH.out,jF r0.toNat om,jF r1.toNat om,jF r2.toNat om,jF q3.toNat om]
  intro j hj;have h3:j=0∨j=1∨j=2∨j=3:=by simp at hj;omega
  rcases h3 with rfl|rfl|rfl|rfl<;>simp[zk,OE]
 intro v' w1 h2 h3 _;have B1:Below B w w1:=((zd B w).alloc hB _).grown h3 (by simp;omega) (fun k hk=>(HO.out.lt k hk).1);have R:w1.ownsRow B 5 1 v' (l++bM u.toNat).length (aD (l++bM u.toNat)):=by
  rw[fW,za,show (bM u.toNat).length=4 by rw[HH.out];rfl];exact h2
 clear h2 h3;go_wp2_with fail;go_ret2;exact ⟨_,rfl,R,B1⟩
theorem XR(u:Int)(B:Nat)(v:Value)(l:List UInt8)(w:World)(h0:0<=u)(h1:u<65536)(hT:cC w)(hown:w.ownsRow B 5 1 v l.length (aD l))(hB:B<=w.heap.size)(hl:l.length<=1000):Calls prog 199 #[v,.int .u64 u,I J 16,E false,E true] w fun e w'=> ∃v',e=Z (F #[v',Y ⟨#[]⟩])/\w'.ownsRow B 5 1 v' (l++bM u.toNat).length (aD (l++bM u.toNat))/\Below B w w':=by
 by_cases c1:u<16
 .exact SH u B v l w h0 c1 hT hown hB hl
 by_cases c2:u<256
 .exact SI u B v l w om c2 hT hown hB hl
 by_cases c3:u<4096
 .exact SJ u B v l w om c3 hT hown hB hl
 exact SK u B v l w om h1 hT hown hB hl
theorem XS(u:Int)(B:Nat)(v:Value)(l:List UInt8)(w:World)(h0:0<=u)(h1:u<65536)(hT:cC w)(hown:w.ownsRow B 5 1 v l.length (aD l))(hB:B<=w.heap.size)(hl:l.length<=1000):Calls prog 192 #[v,I J u,I J 16] w fun e w'=> ∃v',e=Z v'/\w'.ownsRow B 5 1 v' (l++bM u.toNat).length (aD (l++bM u.toNat))/\Below B w w':=by
 have CF:Hid (∀W,W=w->Calls prog 199 #[v,.int .u64 u,I J 16,E false,E true] W fun e w'=> ∃v',e=Z (F #[v',Y ⟨#[]⟩])/\w'.ownsRow B 5 1 v' (l++bM u.toNat).length (aD (l++bM u.toNat))/\Below B w w'):=fun W h=>by subst h;exact XR u B v l _ h0 h1 hT hown hB hl
 clear hT hown;have CU:Calls prog 258 #[v,.int .u64 u,I J 16] w fun e w'=> ∃v',e=Z v'/\w'.ownsRow B 5 1 v' (l++bM u.toNat).length (aD (l++bM u.toNat))/\Below B w w':=by
  go_enter func258,ntmps258;go_wp2_with fail;refine (CF.out _ rfl).mono ?_;rintro e w' ⟨v',rfl,h2,h3⟩;go_wp2_with fail;go_ret;exact ⟨_,rfl,h2,h3⟩
 have CU:Hid (Calls prog 258 #[v,.int .u64 u,I J 16] w fun e w'=> ∃v',e=Z v'/\w'.ownsRow B 5 1 v' (l++bM u.toNat).length (aD (l++bM u.toNat))/\Below B w w'):=CU;clear CF;have CI:Calls prog 231 #[v,I J u,I J 16] w fun e w'=> ∃v',e=Z v'/\w'.ownsRow B 5 1 v' (l++bM u.toNat).length (aD (l++bM u.toNat))/\Below B w w':=by
  go_enter func231,ntmps231;go_wp2_with fail;refine CU.out.mono ?_;rintro e w' ⟨v',rfl,h2,h3⟩;go_wp2_with fail;go_ret;exact ⟨_,rfl,h2,h3⟩
 have CI:Hid (Calls prog 231 #[v,I J u,I J 16] w fun e w'=> ∃v',e=Z v'/\w'.ownsRow B 5 1 v' (l++bM u.toNat).length (aD (l++bM u.toNat))/\Below B w w'):=CI;clear CU;go_enter func192,ntmps192;go_wp2_with fail;refine CI.out.mono ?_;rintro e w' ⟨v',rfl,h2,h3⟩;go_wp2_with fail;go_ret;exact ⟨_,rfl,h2,h3⟩
end
section
open Go.RowKit
theorem iQ(c:Nat)(w:World)(hc:(c:Int)<=255):Calls prog 217 #[.int .u8 (c:Int)] w fun e w'=>e=Z (E (bI c))/\w=w':=by
 by_cases h1:97<=(c:Int)
 .by_cases h2:(c:Int)<=122
  .have HV:Hid (bI c=true):=by show _=_;unfold bI;simp;omega
   go_enter func217,ntmps217;go_wp2;go_ret;exact ⟨aF (by rw[HV.out]<;>first|rfl|(simp<;>omega)),rfl⟩
  have HV:Hid (bI c=false):=by show _=_;unfold bI;simp;omega
  have h3:65<=(c:Int):=om;have h4: ¬(c:Int)<=90:=om;go_enter func217,ntmps217;go_wp2;go_ret;exact ⟨aF (by rw[HV.out]<;>first|rfl|(simp<;>omega)),rfl⟩
 by_cases h3:65<=(c:Int)
 .by_cases h4:(c:Int)<=90
  .have HV:Hid (bI c=true):=by show _=_;unfold bI;simp;omega
   go_enter func217,ntmps217;go_wp2;go_ret;exact ⟨aF (by rw[HV.out]<;>first|rfl|(simp<;>omega)),rfl⟩
  have HV:Hid (bI c=false):=by show _=_;unfold bI;simp;omega
  go_enter func217,ntmps217;go_wp2;go_ret;exact ⟨aF (by rw[HV.out]<;>first|rfl|(simp<;>omega)),rfl⟩
 have HV:Hid (bI c=false):=by show _=_;unfold bI;simp;omega
 go_enter func217,ntmps217;go_wp2;go_ret;exact ⟨aF (by rw[HV.out]<;>first|rfl|(simp<;>omega)),rfl⟩
def eA(l:List UInt8)(c:Int):Bool:=l.any fun b=>decide ((b.toNat:Int)=c)
theorem qB(s:ByteArray)(c:Int)(w:World)(hs:s.size<=1048576):Calls prog 55 #[Y s,I J c] w fun e w'=>e=Z (E (eA s.data.toList c))/\w=w':=by
 go_enter func55,ntmps55;go_wp2
 go_loop[5] (fun i=> ∃k:Nat,k<=s.size/\i=I J k/\eA (s.data.toList.take k) c=false) (fun i=>s.size-(intOf i).toNat)
 case atStart=>exact ⟨0,Nat.zero_le _,rfl,rfl⟩
 obtain ⟨k,hk,rfl,hno⟩:=hrel;have HN:Hid (eA (s.data.toList.take k) c=false):=hno;clear hno
 by_cases hlt:k<s.size
 .obtain ⟨d,hd⟩: ∃d:Nat,s[k].toNat=d:=⟨_,rfl⟩
  have hd1:(d:Int)<=255:=by have:=s[k].toNat_lt;omega
  by_cases he:(d:Int)=c
  .have HV:Hid (eA s.data.toList c=true):=by
    show _=_;unfold eA;refine List.any_eq_true.2 ⟨s[k],?_,by rw[hd];exact decide_eq_true he⟩
    have:s[k]∈s.data:=Array.getElem_mem _
    simpa using this
   go_wp2;go_ret;exact ⟨aF (by rw[HV.out]),rfl⟩
  have HN2:Hid (eA (s.data.toList.take (k+1)) c=false):=by
   show _=_;have h:=HN.out;unfold eA at h⊢;rw[eW s k hlt,List.any_append,h];simp[hd,he]
  go_wp2;go_round
  case rel=>exact ⟨k+1,om,gn,HN2.out⟩
  case measure=>exact j1
 have HV:Hid (eA s.data.toList c=false):=by
  show _=_;have h:=HN.out;rw[dD s k om]at h;exact h
 go_wp2;go_ret;exact ⟨aF (by rw[HV.out]),rfl⟩
def iA(c:Int):Bool:=decide (97<=c/\c<=122)||decide (65<=c/\c<=90)
theorem vW(c:Int)(w:World):Calls prog 125 #[I J c] w fun e w'=>e=Z (E (iA c))/\w=w':=by
 by_cases h1:97<=c/\c<=122
 .have HV:Hid (iA c=true):=by show _=_;unfold iA;rw[decide_eq_true h1];rfl
  have H1:Hid (97<=c/\c<=122):=h1;clear h1;go_enter func125,ntmps125;go_wp2_with fail;refine j5 (aI _ _ _ _ H1.out.1 H1.out.2) ?_;go_wp2;go_ret;exact ⟨aF (by rw[HV.out]),rfl⟩
 have HV:Hid (iA c=decide (65<=c/\c<=90)):=by show _=_;unfold iA;rw[decide_eq_false h1];rfl
 have H1:Hid (c<97∨122<c):=by show _∨_;omega
 clear h1;go_enter func125,ntmps125;go_wp2_with fail;refine j5 (aP _ _ _ _ H1.out) ?_;go_wp2_with fail;refine j5 (ER _ _ _ _) ?_;generalize decide (65<=c/\c<=90)=b at HV;go_wp2;go_ret;exact ⟨aF (by rw[HV.out]),rfl⟩
