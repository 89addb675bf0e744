/- ResJoin, UrlAny, UrlErr, UrlImpl3. -/
import Derived.Test.YtgcbaphbiaimoaaGreatDoorQB29
import Derived.Laws.RangeAny
import Derived.WalkMore
import Derived.Deep.CutBlock
set_option maxHeartbeats 8000000
set_option maxRecDepth 100000
namespace Go.Proofs.YtgcbaphbiaimoaaGreatDoor
open Go.Value renaming int->I,string->L,tuple->G,bool->F,pointer->E,agg->D,iface->Q
open Go.IntKind renaming i64->J
open Go.Ending renaming returned->Z
open Go.Obj renaming cells->H
open _root_.Go.RowKit.Below renaming refl->zf
open _root_.Bool renaming and_eq_true->zd,or_eq_true->zn
open _root_.ByteArray renaming get!->zo
open _root_.List renaming drop_of_length_le->zi,takeWhile_prefix->zj,take_of_length_le->zh
open _root_.Nat renaming le_refl->za,le_succ->zl
open _root_.UInt8 renaming ofNat->zm
open _root_.Go.World renaming block_lt_of_cell?->zg,cell?_alloc_lt->zc,frozen?_alloc_old->ze,iterPos->zk
open _root_.Go.Proofs.Tryz
open _root_.Go.Proofs.YtgcbaphbiaimoaaGreatDoor.Tryz
section
open Go.RowKit
set_option linter.unusedVariables false
def RB(a t:ByteArray):ByteArray:=if t.size=0 then a else if (⟨(upB 63 t.data.toList).toArray⟩:ByteArray).size=0 then a else ptP (mW a ⟨(upB 63 t.data.toList).toArray⟩)
def WV(q:Bool)(t:ByteArray):Bool:=if t.size=0 then q else t.data.toList.contains 63
def RC(r t:ByteArray):ByteArray:=if t.size=0 then r else plB 2 ⟨(dL 63 t.data.toList).toArray⟩
def PJ(w:World)(V:Nat)(row us:List Value)(W:World):Prop:=PA w row W/\UAt W V us/\w.heap.size+1<V
theorem PJ.later{w:World}{V:Nat}{row us:List Value}{W W':World}(h:PJ w V row us W)(hb:Below W.heap.size W W'):PJ w V row us W':=⟨h.1.later hb,h.2.1.below hb,h.2.2⟩
theorem PJ.set{w:World}{V:Nat}{row us:List Value}{W:World}(h:PJ w V row us W)(j:Nat)(hj:j<us.length)(v:Value):PJ w V row (us.set j v) (W.setCell ⟨V,j,none⟩ v):=
 ⟨⟨h.1.1.other (by have:=h.2.2;omega) _ _,h.1.2.1.other (by have:=h.2.2;omega) _ _,h.1.2.2.setCell (p:=⟨V,j,none⟩) (by have:=h.2.2;show _<=V;omega) v⟩,h.2.1.set j hj v,h.2.2⟩
theorem PA.moved{w:World}{row:List Value}{C:Nat}{W W':World}(h:PA w row W)(hC:w.heap.size+1<C)(hM:oM C W W'):PA w row W':=⟨hM.1 _ _ om h.1,hM.1 _ _ om h.2.1,hM.2 _ _ om h.2.2⟩
theorem ZW(s k n p:Int)(nm a r:ByteArray)(q:Bool)(x0 x1 x2 x3 x4 x5 x6 x7:Int)(t:ByteArray)(w:World)(hs:nm.size<=1048576)(ha:a.size<=1048576)(hr:r.size<=1048576)(ht:t.size<=2000)(hK:iX w)(hM:rI w):Calls prog 123 #[D #[I J s,I J k,L nm,I J n,I J x0,I J x1,I J x2,I J x3,I J x4,I J x5,I J x6,I J x7,I J p,L a,F q,L r],L t] w fun e w'=>e=Z (D (aA s k nm n x0 x1 x2 x3 x4 x5 x6 x7 p (RB a t) (WV q t) (RC r t)).toArray)/\Below w.heap.size w w':=by
 have CN:Hid (∀W,CB 175 #[D (aA s k nm n x0 x1 x2 x3 x4 x5 x6 x7 p a q r).toArray] W (D (aA s k nm n x0 x1 x2 x3 x4 x5 x6 x7 p a q r).toArray)):=fun W=>Fx s k n p nm a r q x0 x1 x2 x3 x4 x5 x6 x7 W om om om
 have CC:Hid (∀W,CB 102 #[L t,L ⟨#[63]⟩] W (G #[L ⟨(upB 63 t.data.toList).toArray⟩,L ⟨(dL 63 t.data.toList).toArray⟩,F (t.data.toList.contains 63)])):=fun W=>kB 63 t W om
 have hsl:t.data.toList.length=t.size:=by simp
 have hus:(⟨(upB 63 t.data.toList).toArray⟩:ByteArray).size<=2000:=by
  rw[cR]
  have:(upB 63 t.data.toList).length<=t.data.toList.length:=(List.takeWhile_sublist _).length_le
  omega
 have hbs:(⟨(dL 63 t.data.toList).toArray⟩:ByteArray).size<=2000:=by
  rw[cR]
  have:(dL 63 t.data.toList).length<=t.data.toList.length:=((List.drop_sublist _ _).trans (List.dropWhile_sublist _)).length_le
  omega
 have CP:Hid (∀W,Below w.heap.size w W->CB 104 #[L ⟨(dL 63 t.data.toList).toArray⟩,I J 2] W (L (plB 2 ⟨(dL 63 t.data.toList).toArray⟩))):=fun W hb=>pE _ 2 W (hK.later hb) om
 have CB:Hid (0<(⟨(upB 63 t.data.toList).toArray⟩:ByteArray).size-> ∀W,CB 176 #[L a,L ⟨(upB 63 t.data.toList).toArray⟩] W (L (mW a ⟨(upB 63 t.data.toList).toArray⟩))):=fun h W=>JP a _ W h om om
 have hpb:(mW a ⟨(upB 63 t.data.toList).toArray⟩).size<=4194304:=by
  unfold mW;split
  .omega
  have:(upT a).size<=a.size:=by unfold upT;rw[ByteArray.size_extract];omega
  rw[ByteArray.size_append];omega
 have CQ:Hid (∀W,Below w.heap.size w W->Calls prog 103 #[L (mW a ⟨(upB 63 t.data.toList).toArray⟩)] W fun e w'=>e=Z (L (ptP (mW a ⟨(upB 63 t.data.toList).toArray⟩)))/\Below W.heap.size W w'):=fun W hb=>vN _ W hpb (hK.later hb) (jV hM hb)
 have HA0:Hid (RB a t=if t.size=0 then a else if (⟨(upB 63 t.data.toList).toArray⟩:ByteArray).size=0 then a else ptP (mW a ⟨(upB 63 t.data.toList).toArray⟩)):=rfl;have HQ0:Hid (WV q t=if t.size=0 then q else t.data.toList.contains 63):=rfl;have HR0:Hid (RC r t=if t.size=0 then r else plB 2 ⟨(dL 63 t.data.toList).toArray⟩):=rfl;generalize RB a t=ZA at HA0⊢;generalize WV q t=ZQ at HQ0⊢;generalize RC r t=ZR at HR0⊢;generalize ptP (mW a ⟨(upB 63 t.data.toList).toArray⟩)=PP at CQ HA0;generalize mW a ⟨(upB 63 t.data.toList).toArray⟩=PB at CQ CB hpb;generalize plB 2 ⟨(dL 63 t.data.toList).toArray⟩=PR at CP HR0;generalize (⟨(dL 63 t.data.toList).toArray⟩:ByteArray)=Be at CC CP hbs;generalize (⟨(upB 63 t.data.toList).toArray⟩:ByteArray)=Up at CC CB hus HA0;generalize t.data.toList.contains 63=tb at CC HQ0;clear hK hM hsl;have hn:=PA.new w s k n p nm a r q x0 x1 x2 x3 x4 x5 x6 x7;obtain ⟨O,hO⟩: ∃O,O=(w.alloc (H #[I J s,I J k,L nm,I J n,I J x0,I J x1,I J x2,I J x3,I J x4,I J x5,I J x6,I J x7,I J p,L a,F q,L r] 28)).alloc (H #[I J 0,I J 0,L ⟨#[]⟩,I J 0,I J 0,I J 0,I J 0,I J 0,I J 0,I J 0,I J 0,I J 0,I J 0,L ⟨#[]⟩,F false,L ⟨#[]⟩] 28):=⟨_,rfl⟩;rw[<-hO]at hn;have H0:Hid (PA w (aA s k nm n x0 x1 x2 x3 x4 x5 x6 x7 p a q r) O):=hn;clear hn;go_enter func123,ntmps123
 go_upto_region 1 with fail
 rw[<-hO];clear hO;go_wp2_with (refine bA H0.out.1 rfl rfl _ rfl rfl ?_);refine (CN.out _).mono ?_;rintro e w1 ⟨rfl,b1⟩;have h1:=H0.out.later b1;have hlt:w.heap.size+1<w1.heap.size:=h1.2.1.2.2;have H1a:Hid (PA w (aA s k nm n x0 x1 x2 x3 x4 x5 x6 x7 p a q r) (w1.alloc (H #[I J 0,I J 0,L ⟨#[]⟩,I J 0,I J 0,I J 0,I J 0,I J 0,I J 0,I J 0,I J 0,I J 0,I J 0,L ⟨#[]⟩,F false,L ⟨#[]⟩] 28))):=h1.later ((zf _ _).alloc (za _) _);clear b1 h1 H0 CN
 go_upto_region 2 with (refine aT (UAt.new w1 _ _) rfl (us:=aA s k nm n x0 x1 x2 x3 x4 x5 x6 x7 p a q r) rfl (aG ..) rfl _ _ rfl rfl rfl ?_;intro w2 HUh HMh)
 have HJ:Hid (PJ w w1.heap.size (aA s k nm n x0 x1 x2 x3 x4 x5 x6 x7 p a q r) (aA s k nm n x0 x1 x2 x3 x4 x5 x6 x7 p a q r) w2):=⟨H1a.out.moved hlt HMh,HUh,hlt⟩;clear HUh HMh H1a hlt;generalize w1.heap.size=V at HJ⊢
 by_cases h0:t.size=0
 .have hem:=aS h0
  have HA:Hid (a=ZA):=by show _=_;rw[HA0.out,if_pos h0]
  have HQ:Hid (q=ZQ):=by show _=_;rw[HQ0.out,if_pos h0]
  have HR:Hid (r=ZR):=by show _=_;rw[HR0.out,if_pos h0]
  clear HA0 HQ0 HR0 CC CP CB CQ h0;go_wp2_with (first|(refine bA HJ.out.2.1 rfl rfl _ rfl rfl ?_)|(refine aT HJ.out.1.2.1 rfl (us:=(aA s k nm n x0 x1 x2 x3 x4 x5 x6 x7 p a q r)) rfl (aG ..) rfl _ _ rfl rfl rfl ?_;intro w9 HU9 HM9));refine bodyPost_ret (bX rfl _ _ (w.heap.size+1) _ rfl rfl HU9) rfl ⟨by rw[HA.out,HQ.out,HR.out],HM9.2 _ _ (zl _) HJ.out.1.2.2⟩
 have hem:=aW (show 0<t.size by omega);have HA1:Hid (ZA=if Up.size=0 then a else PP):=by show _=_;rw[HA0.out,if_neg h0]
 have HQ:Hid (tb=ZQ):=by show _=_;rw[HQ0.out,if_neg h0]
 have HR:Hid (PR=ZR):=by show _=_;rw[HR0.out,if_neg h0]
 clear HA0 HQ0 HR0 h0;go_wp2_with fail;refine (CC.out _).mono ?_;rintro e w3 ⟨rfl,b3⟩;have HJ3:Hid (PJ w V (aA s k nm n x0 x1 x2 x3 x4 x5 x6 x7 p a q r) (aA s k nm n x0 x1 x2 x3 x4 x5 x6 x7 p a q r) w3):=HJ.out.later b3;clear b3 HJ CC;go_wp2_with fail;refine (CP.out _ HJ3.out.1.2.2).mono ?_;rintro e w4 ⟨rfl,b4⟩;have h4:=HJ3.out.later b4;have c14:=h4.2.1.1 14 _ rfl;have c15:=h4.2.1.1 15 _ rfl;have f14:=h4.2.1.2.1 14;have f15:=h4.2.1.2.1 15;have HJ5:Hid (PJ w V (aA s k nm n x0 x1 x2 x3 x4 x5 x6 x7 p a q r) (aA s k nm n x0 x1 x2 x3 x4 x5 x6 x7 p a tb PR) ((w4.setCell ⟨V,14,none⟩ (F tb)).setCell ⟨V,15,none⟩ (L PR))):=(h4.set 14 (by simp[aA]) _).set 15 (by simp[aA]) _;clear b4 h4 HJ3 CP
 go_upto_region 6 with fail
 generalize ((w4.setCell ⟨V,14,none⟩ (F tb)).setCell ⟨V,15,none⟩ (L PR))=w5 at HJ5⊢;clear c14 c15 f14 f15 hem
 by_cases hu:Up.size=0
 .have hem:=aS hu
  have HA:Hid (a=ZA):=by show _=_;rw[HA1.out,if_pos hu]
  clear HA1 CB CQ hu;go_wp2_with (first|(refine bA HJ5.out.2.1 rfl rfl _ rfl rfl ?_)|(refine aT HJ5.out.1.2.1 rfl (us:=(aA s k nm n x0 x1 x2 x3 x4 x5 x6 x7 p a tb PR)) rfl (aG ..) rfl _ _ rfl rfl rfl ?_;intro w9 HU9 HM9));refine bodyPost_ret (bX rfl _ _ (w.heap.size+1) _ rfl rfl HU9) rfl ⟨by rw[HA.out,HQ.out,HR.out],HM9.2 _ _ (zl _) HJ5.out.1.2.2⟩
 have hem:=aW (show 0<Up.size by omega);have HA:Hid (PP=ZA):=by show _=_;rw[HA1.out,if_neg hu]
 have CB2:Hid (∀W,Calls prog 176 #[L a,L Up] W fun e w'=>e=Z (L PB)/\Below W.heap.size W w'):=CB.out om;clear HA1 CB hu;have c13:=HJ5.out.1.1.1 13 _ rfl;go_wp2_with fail;refine j4 CB2 fun w6 b6=>?_
 have HJ6:Hid (PJ w V (aA s k nm n x0 x1 x2 x3 x4 x5 x6 x7 p a q r) (aA s k nm n x0 x1 x2 x3 x4 x5 x6 x7 p a tb PR) w6):=HJ5.out.later b6;clear b6 HJ5 CB2 c13;go_wp2_with fail;refine j6 (CQ.out _ HJ6.out.1.2.2) fun w7 b7=>?_
 have h7:=HJ6.out.later b7;have c13:=h7.2.1.1 13 _ rfl;have f13:=h7.2.1.2.1 13;have HJ8:Hid (PJ w V (aA s k nm n x0 x1 x2 x3 x4 x5 x6 x7 p a q r) (aA s k nm n x0 x1 x2 x3 x4 x5 x6 x7 p PP tb PR) (w7.setCell ⟨V,13,none⟩ (L PP))):=h7.set 13 (by simp[aA]) _;clear b7 h7 HJ6 CQ
 go_upto_region 8 with fail
 generalize (w7.setCell ⟨V,13,none⟩ (L PP))=w8 at HJ8⊢;clear c13 f13 hem;go_wp2_with (first|(refine bA HJ8.out.2.1 rfl rfl _ rfl rfl ?_)|(refine aT HJ8.out.1.2.1 rfl (us:=(aA s k nm n x0 x1 x2 x3 x4 x5 x6 x7 p PP tb PR)) rfl (aG ..) rfl _ _ rfl rfl rfl ?_;intro w9 HU9 HM9));refine bodyPost_ret (bX rfl _ _ (w.heap.size+1) _ rfl rfl HU9) rfl ⟨by rw[HA.out,HQ.out,HR.out],HM9.2 _ _ (zl _) HJ8.out.1.2.2⟩
end
section
open Go.RowKit
theorem WW(s:ByteArray)(pos:Nat)(h:pos<s.size)(ha:128<=(s[pos]'h).toNat):
  1<=(Utf8.decode s pos).2/\(∀j,j<(Utf8.decode s pos).2->128<=(s.get! (pos+j)).toNat)/\
  ((Utf8.decode s pos).1=65533∨(128<=(Utf8.decode s pos).1/\(Utf8.decode s pos).1<=1114111/\ ¬(55296<=(Utf8.decode s pos).1/\(Utf8.decode s pos).1<=57343))):=by
 have h0:128<=(s.get! (pos+0)).toNat:=by rw[get_at s pos h];exact ha
 have hn: ¬(s[pos]'h).toNat<128:=om;have h1: ∀j,j<1->128<=(s.get! (pos+j)).toNat:=fun j hj=>by rw[show j=0 by omega];exact h0
 have h2:128<=(s.get! (pos+1)).toNat-> ∀j,j<2->128<=(s.get! (pos+j)).toNat:=fun a j hj=>by
  match j,hj with
  |0,_=>exact h0
  |1,_=>exact a
 have h3:128<=(s.get! (pos+1)).toNat->128<=(s.get! (pos+2)).toNat-> ∀j,j<3->128<=(s.get! (pos+j)).toNat:=fun a b j hj=>by
  match j,hj with
  |0,_=>exact h0
  |1,_=>exact a
  |2,_=>exact b
 have h4:128<=(s.get! (pos+1)).toNat->128<=(s.get! (pos+2)).toNat->128<=(s.get! (pos+3)).toNat-> ∀j,j<4->128<=(s.get! (pos+j)).toNat:=fun a b c j hj=>by
  match j,hj with
  |0,_=>exact h0
  |1,_=>exact a
  |2,_=>exact b
  |3,_=>exact c
 simp only[Utf8.decode,get_at s pos h,hn,if_false];have herr:1<=1/\(∀j,j<1->128<=(s.get! (pos+j)).toNat)/\(Utf8.runeError=65533∨(128<=Utf8.runeError/\Utf8.runeError<=1114111/\ ¬(55296<=Utf8.runeError/\Utf8.runeError<=57343))):=⟨za _,h1,.inl rfl⟩;have hv: ∀n:Nat,Utf8.valid (n:Int)=true->n<=1114111/\ ¬(55296<=n/\n<=57343):=fun n hn=>by
  simp only[Utf8.valid,zn,zd,decide_eq_true_eq]at hn;omega
 split
 .next hc=>
  simp only[zd,decide_eq_true_eq,beq_iff_eq]at hc;split
  .exact ⟨by show 1<=_;omega,h2 om,.inr ⟨by show 128<=_;omega,by show _<=1114111;omega,by show ¬(_/\_);omega⟩⟩
  exact herr
 split
 .next hc=>
  simp only[zd,decide_eq_true_eq,beq_iff_eq]at hc;split
  .next hd=>
   simp only[zd,decide_eq_true_eq]at hd
   have:=hv _ hd.2
   exact ⟨by show 1<=_;omega,h3 om om,.inr ⟨by show 128<=_;omega,this.1,this.2⟩⟩
  exact herr
 split
 .next hc=>
  simp only[zd,decide_eq_true_eq,beq_iff_eq]at hc;split
  .next hd=>
   simp only[zd,decide_eq_true_eq]at hd
   have:=hv _ hd.2
   exact ⟨by show 1<=_;omega,h4 om om om,.inr ⟨by show 128<=_;omega,this.1,this.2⟩⟩
  exact herr
 exact herr
theorem WX(r:Nat)(h0:128<=r)(h1:r<=1114111)(h2: ¬(55296<=r/\r<=57343)):
  (∃x y,Utf8.encode (r:Int)=⟨#[x,y]⟩/\128<=y.toNat)∨(∃x y z,Utf8.encode (r:Int)=⟨#[x,y,z]⟩/\128<=z.toNat)∨ ∃x y z t,Utf8.encode (r:Int)=⟨#[x,y,z,t]⟩/\128<=t.toNat:=by
 have hv:Utf8.valid (r:Int)=true:=by
  simp only[Utf8.valid,zn,zd,decide_eq_true_eq];omega
 have hb: ∀n:Nat,n<64->128<=(zm (128+n)).toNat:=fun n hn=>by
  rw[UInt8.toNat_ofNat'];omega
 have hn: ¬r<128:=om;have hr:(r:Int).toNat=r:=om;unfold Utf8.encode;simp only[hv,if_true,hr];rw[if_neg hn]
 by_cases g1:r<2048
 .rw[if_pos g1]
  exact .inl ⟨_,_,rfl,hb _ om⟩
 rw[if_neg g1]
 by_cases g2:r<65536
 .rw[if_pos g2]
  exact .inr (.inl ⟨_,_,_,rfl,hb _ om⟩)
 rw[if_neg g2];exact .inr (.inr ⟨_,_,_,_,rfl,hb _ om⟩)
theorem Kj{x:UInt8}(h:128<=x.toNat):([47,92,63]:List UInt8).contains x=false:=by
 cases hc:([47,92,63]:List UInt8).contains x with
 |false=>rfl
 |true=>
  exfalso
  have:=List.contains_iff_mem.1 hc
  simp only[List.mem_cons,List.not_mem_nil,or_false]at this
  rcases this with rfl|rfl|rfl<;>exact absurd h de
theorem ix_no{x:UInt8}(h:128<=x.toNat):Lib.indexByte [63] x= -1:=by
 unfold Lib.indexByte;rw[if_neg (fun e=>by rw[<-beq_iff_eq.1 e]at h;exact absurd h de)];rfl
theorem Kk(w:World):Calls prog 206 #[L ⟨#[47,92,63]⟩,.int .i32 65533] w fun e w'=>e=Z (I J (-1))/\Below w.heap.size w w':=by
 have n0:=fun ty=>run_next_ascii (P:=prog) w ⟨#[47,92,63]⟩ 0 ty de de
 have n1:=fun ty=>run_next_ascii (P:=prog) w ⟨#[47,92,63]⟩ 1 ty de de
 have n2:=fun ty=>run_next_ascii (P:=prog) w ⟨#[47,92,63]⟩ 2 ty de de
 have n3:=fun ty=>run_next_end (P:=prog) w ⟨#[47,92,63]⟩ 3 ty de
 go_enter func206,ntmps206;go_wp2_with fail;refine wp_loop_rounds 4 ?_;rw[rounds_succ];go_wp2_with fail;rw[rounds_succ];go_wp2_with fail;rw[rounds_succ];go_wp2_with fail;rw[rounds_succ];go_wp2_with fail;go_ret;exact ⟨rfl,(zf _ _).alloc (za _) _⟩
theorem Nh(r:Nat)(w:World)(h0:128<=r)(h1:r<=1114111)(h2: ¬(55296<=r/\r<=57343))(h3:r≠65533):Calls prog 206 #[L ⟨#[47,92,63]⟩,.int .i32 (r:Int)] w fun e w'=>e=Z (I J (-1))/\Below w.heap.size w w':=by
 have hv:Lib.validRune (r:Int)=true:=by
  unfold Lib.validRune;simp;omega
 have hen:=WX r h0 h1 h2;have q0: ¬(r:Int)<128:=om;have q3:((r:Int)==65533)=false:=beq_eq_false_iff_ne.2 om;have CV:Hid (∀W,CS 243 #[.int .i32 (r:Int)] W (F true)):=fun W=>by
  have h:=utf8_ValidRune (r:Int) W;rw[hv]at h;exact h.mono fun e w' h=>⟨h.1,h.2.symm⟩
 clear hv h2 h3
 rcases hen with ⟨x,y,he,hy⟩|⟨x,y,z,he,hy⟩|⟨x,y,z,t,he,hy⟩
 .have cv: ∀W,(convert 21 9 (.int .i32 (r:Int))).run prog W=.ok (L ⟨#[x,y]⟩) W:=fun W=>by
   rw[run_convert_int_string W _ _ _ _ (by rw[underlying21];rfl) underlying9,he]
  obtain ⟨d,hd⟩: ∃d:Nat,y.toNat=d:=⟨_,rfl⟩;have CI:Hid (∀W,CS 204 #[L ⟨#[63]⟩,.int .u8 (d:Int)] W (I J (-1))):=fun W=>by
   have h:=strings_IndexByte ⟨#[63]⟩ (d:Int) W;rw[show ((d:Int)).toNat.toUInt8=y by rw[<-hd];simp]at h;exact h.mono fun e w' h=>⟨by rw[h.1];exact aV (ix_no hy),h.2.symm⟩
  have e1:((⟨#[47,92,63]⟩:ByteArray)[1]'de).toNat=92:=rfl;have e2:((⟨#[x,y]⟩:ByteArray)[1]'(by show 1<2;decide)).toNat=d:=hd;have e3:(⟨#[47,92,63]⟩:ByteArray).extract 2 3=⟨#[63]⟩:=de;have e4:IntKind.i64.wrap 2=2:=de;have qy:((92:Int) !=(d:Int))=true:=bne_iff_ne.2 om;clear hy he hd;go_enter func206,ntmps206;go_wp2_with fail;refine (CV.out _).mono ?_;rintro e w' ⟨rfl,rfl⟩;go_wp2_with fail
  go_step3
  go_wp2_with fail;refine wp_loop_rounds 1 ?_;rw[rounds_succ];go_wp2_with fail
  go_step3
  go_wp2_with fail
  go_quiet (fail)
  go_wp2_with fail
  go_region_with (go_at_call 204;refine (CI.out _).mono ?_;rintro e w' ⟨rfl,rfl⟩)
  go_wp2_with fail;rw[Exit.noGoto_ret];simp only[Exit.inBlock,Exit.then];rw[Exit.noGoto_ret];go_ret;exact ⟨rfl,⟨rfl,rfl,rfl,za _,fun _ _=>rfl⟩⟩
 .have cv: ∀W,(convert 21 9 (.int .i32 (r:Int))).run prog W=.ok (L ⟨#[x,y,z]⟩) W:=fun W=>by
   rw[run_convert_int_string W _ _ _ _ (by rw[underlying21];rfl) underlying9,he]
  obtain ⟨d,hd⟩: ∃d:Nat,z.toNat=d:=⟨_,rfl⟩;have CI:Hid (∀W,CS 204 #[L ⟨#[]⟩,.int .u8 (d:Int)] W (I J (-1))):=fun W=>by
   have h:=strings_IndexByte ⟨#[]⟩ (d:Int) W;rw[show ((d:Int)).toNat.toUInt8=z by rw[<-hd];simp]at h;exact h.mono fun e w' h=>⟨by rw[h.1];exact aV rfl,h.2.symm⟩
  have e1:((⟨#[47,92,63]⟩:ByteArray)[2]'de).toNat=63:=rfl;have e2:((⟨#[x,y,z]⟩:ByteArray)[2]'(by show 2<3;decide)).toNat=d:=hd;have e3:(⟨#[47,92,63]⟩:ByteArray).extract 3 3=⟨#[]⟩:=de;have e4:IntKind.i64.wrap 3=3:=de;have qy:((63:Int) !=(d:Int))=true:=bne_iff_ne.2 om;clear hy he hd;go_enter func206,ntmps206;go_wp2_with fail;refine (CV.out _).mono ?_;rintro e w' ⟨rfl,rfl⟩;go_wp2_with fail
  go_step3
  go_wp2_with fail;refine wp_loop_rounds 1 ?_;rw[rounds_succ];go_wp2_with fail
  go_step3
  go_wp2_with fail
  go_quiet (fail)
  go_wp2_with fail
  go_region_with (go_at_call 204;refine (CI.out _).mono ?_;rintro e w' ⟨rfl,rfl⟩)
  go_wp2_with fail;rw[Exit.noGoto_ret];simp only[Exit.inBlock,Exit.then];rw[Exit.noGoto_ret];go_ret;exact ⟨rfl,⟨rfl,rfl,rfl,za _,fun _ _=>rfl⟩⟩
 have cv: ∀W,(convert 21 9 (.int .i32 (r:Int))).run prog W=.ok (L ⟨#[x,y,z,t]⟩) W:=fun W=>by
  rw[run_convert_int_string W _ _ _ _ (by rw[underlying21];rfl) underlying9,he]
 clear hy he;go_enter func206,ntmps206;go_wp2_with fail;refine (CV.out _).mono ?_;rintro e w' ⟨rfl,rfl⟩;go_wp2_with fail
 go_step3
 go_wp2_with fail;refine wp_loop_rounds 1 ?_;rw[rounds_succ];go_wp2_with fail;rw[Exit.noGoto_ret];go_ret;exact ⟨rfl,zf _ _⟩
theorem Fy(s:ByteArray)(i:Nat)(h:i<s.size):s.get! i=s[i]'h:=by
 simp[zo,getElem!_pos,h];rfl
theorem M4(s:ByteArray)(i:Nat)(h: ¬i<s.size):(s.get! i).toNat=0:=by
 have e:s.get! i=default:=by
  simp only[zo];exact getElem!_neg _ _ h
 rw[e];rfl
theorem ZX{s:ByteArray}{i n:Nat}(h:Lib.NoAny s.data.toList [47,92,63] i)(hb: ∀j,j<n->128<=(s.get! (i+j)).toNat):Lib.NoAny s.data.toList [47,92,63] (i+n):=by
 induction n with
 |zero=>exact h
 |succ n ih=>
  have h1:=ih (fun j hj=>hb j om);have h2:=hb n om;have hlt:i+n<s.size:=by
   rcases Nat.lt_or_ge (i+n) s.size with h3|h3
   .exact h3
   rw[M4 s _ om]at h2;omega
  rw[Fy s _ hlt]at h2;exact h1.succ (Lib.data_getElem? s (i+n) hlt) (Kj h2)
theorem Kl{s:ByteArray}{i n:Nat}(h:i<s.size)(hb: ∀j,j<n->128<=(s.get! (i+j)).toNat):i+n<=s.size:=by
 rcases Nat.lt_or_ge s.size (i+n)with h3|h3
 .have h2:=hb (s.size-i) om
  rw[show i+(s.size-i)=s.size by omega,M4 s _ om]at h2;omega
 exact h3
theorem Fz(s:ByteArray)(w:World)(h8:s.size<=8):Calls prog 149 #[L s,L ⟨#[47,92,63]⟩] w fun e w'=>e=Z (I J (Lib.indexAny s.data.toList [47,92,63]))/\Below w.heap.size w w':=by
 have h8z:decide ((8:Int)<(s.size:Int))=false:=decide_eq_false om;have CU:Hid (∀W,CS 207 #[I J (s.size:Int)] W (F false)):=fun W=>by
  have h:=strings_shouldUseASCIISet (s.size:Int) W;rw[h8z]at h;exact h.mono fun e w' h=>⟨h.1,h.2.symm⟩
 have hit:(w.iter s 0).heap[w.heap.size]? =some (.stringIter s 0):=World.iter_heap w s 0;have Bi:Below w.heap.size w (w.iter s 0):=(zf _ w).alloc (za _) _;clear h8z;go_enter func149,ntmps149;go_wp2_with fail;refine (CU.out _).mono ?_;rintro e w' ⟨rfl,rfl⟩;go_wp2_with fail
 go_loopw[] (fun wr=> ∃i:Nat,i<=s.size/\wr.heap[w.heap.size]? =some (.stringIter s i)/\Lib.NoAny s.data.toList [47,92,63] i/\Below w.heap.size w wr)
  (fun wr=>s.size-wr.iterPos w.heap.size)
 case atStart=>exact ⟨0,Nat.zero_le _,hit,Lib.NoAny.zero _ _,Bi⟩
 obtain ⟨i,hi,hk,hno,hbel⟩:=hrel;have HN:Hid (Lib.NoAny s.data.toList [47,92,63] i):=hno;clear hno hit Bi
 by_cases hlt:i<s.size
 .have hnx:=fun ty=>Lib.run_next_any_at (P:=prog) wr w.heap.size s i ty hk hlt
  have hw:=Lib.decode_width_pos s i hlt;have hr31:=decode_le s i;have hk2:=Lib.iterAt_heap wr w.heap.size s i (i+(Utf8.decode s i).2) hk;have hbel2:=Lib.below_iterAt hbel (za _) s (i+(Utf8.decode s i).2);have HI:Hid (wr.iterPos w.heap.size=i):=by show _=_;unfold zk;rw[hk]
  have hlt2:w.heap.size<(wr.iterAt w.heap.size s (i+(Utf8.decode s i).2)).heap.size:=(Array.getElem?_eq_some_iff.1 hk2).1
  by_cases ha:s[i].toNat<128
  .have hda:=decode_ascii s i hlt ha
   rw[hda]at hnx hk2 hbel2 hlt2;obtain ⟨d,hd⟩: ∃d:Nat,s[i].toNat=d:=⟨_,rfl⟩;have hdl:s.data.toList[i]? =some s[i]:=Lib.data_getElem? s i hlt;have hcon:=Lib.contains_iff_indexByte [47,92,63] s[i];have CR:Hid (∀W,CS 206 #[L ⟨#[47,92,63]⟩,.int .i32 (d:Int)] W (I J (Lib.indexByte [47,92,63] s[i]))):=fun W=>by
    have h:=strings_IndexRune_ascii ⟨#[47,92,63]⟩ (d:Int) W om om;rw[show ((d:Int)).toNat.toUInt8=s[i] by rw[<-hd];simp]at h;exact h.mono fun e w' h=>⟨h.1,h.2.symm⟩
   rw[hd]at hnx
   cases hin:([47,92,63]:List UInt8).contains s[i]with
   |true=>
    rw[hin]at hcon;have hge:(0:Int)<=Lib.indexByte [47,92,63] s[i]:=of_decide_eq_true hcon.symm;have HA:Hid (Lib.indexAny s.data.toList [47,92,63]=(i:Int)):=Lib.indexAny_hit HN.out hdl hin;clear hcon hin hdl hda hw hr31 hk hbel hk2;generalize Lib.indexByte [47,92,63] s[i]=z at CR hge;generalize wr.iterAt w.heap.size s (i+1)=wi at*;go_wp2_with fail;refine (CR.out _).mono ?_;rintro e w' ⟨rfl,rfl⟩;go_wp2;go_ret;exact ⟨aV (by rw[HA.out]),hbel2⟩
   |false=>
    rw[hin]at hcon;have hge: ¬(0:Int)<=Lib.indexByte [47,92,63] s[i]:=of_decide_eq_false hcon.symm;have HN2:Hid (Lib.NoAny s.data.toList [47,92,63] (i+1)):=HN.out.succ hdl hin;have HI1:Hid ((wr.iterAt w.heap.size s (i+1)).iterPos w.heap.size=i+1):=by show _=_;unfold zk;rw[hk2]
    clear hcon hin hdl hda hw hr31 hk hbel;generalize Lib.indexByte [47,92,63] s[i]=z at CR hge;generalize wr.iterAt w.heap.size s (i+1)=wi at*;go_wp2_with fail;refine (CR.out _).mono ?_;rintro e w' ⟨rfl,rfl⟩;go_wp2;go_roundw
    case rel=>exact ⟨i+1,om,hk2,HN2.out,hbel2⟩
    case measure=>
     have a:=HI.out;have b:=HI1.out;simp only[a,b];omega
  obtain ⟨hs1,hs2,hs3⟩:=WW s i hlt om;have hle:=Kl hlt hs2;have HN2:Hid (Lib.NoAny s.data.toList [47,92,63] (i+(Utf8.decode s i).2)):=ZX HN.out hs2;have CR:Hid (∀W,CB 206 #[L ⟨#[47,92,63]⟩,.int .i32 ((Utf8.decode s i).1:Int)] W (I J (-1))):=fun W=>by
   by_cases h9:(Utf8.decode s i).1=65533
   .rw[h9]
    exact Kk W
   rcases hs3 with h|⟨h1,h2,h3⟩
   .exact absurd h h9
   exact Nh _ W h1 h2 h3 h9
  clear hs3 hs2 ha;generalize (Utf8.decode s i).1=rr at*;generalize (Utf8.decode s i).2=n at*;clear hk hbel;generalize wr.iterAt w.heap.size s (i+n)=wi at*;go_wp2_with fail;refine (CR.out _).mono ?_;rintro e wj ⟨rfl,bj⟩;have hk3:wj.heap[w.heap.size]? =some (.stringIter s (i+n)):=(bj.block _ hlt2).trans hk2;have hbel3:Below w.heap.size w wj:=hbel2.trans (bj.mono hbel2.size);have HI1:Hid (wj.iterPos w.heap.size=i+n):=by show _=_;unfold zk;rw[hk3]
  clear bj hk2 hbel2 hlt2;go_wp2;go_roundw
  case rel=>exact ⟨i+n,om,hk3,HN2.out,hbel3⟩
  case measure=>
   have a:=HI.out;have b:=HI1.out;simp only[a,b];omega
 have hnx:=fun ty=>Lib.run_next_end_at (P:=prog) wr w.heap.size s i ty hk hlt
 have HA:Hid (Lib.indexAny s.data.toList [47,92,63]= -1):=Lib.indexAny_none (by
  rw[show s.data.toList.length=i by have:s.data.toList.length=s.size:=j2;omega];exact HN.out)
 go_wp2;go_ret;exact ⟨aV (by rw[HA.out]),hbel⟩
theorem Km(s:ByteArray)(w:World)(hs:s.size<=1048576):Calls prog 149 #[L s,L ⟨#[47,92,63]⟩] w fun e w'=>e=Z (I J (Lib.indexAny s.data.toList [47,92,63]))/\Below w.heap.size w w':=by
 by_cases h8:s.size<=8
 .exact Fz s w h8
 refine (strings_IndexAny_long (zero_of_info (n:=256) kr).1 s ⟨#[47,92,63]⟩ w de om om de (ascii_of_all de)).mono ?_;rintro e w' ⟨rfl,rfl⟩;exact ⟨rfl,((zf _ w).alloc (za _) _).alloc j2 _⟩
end
section
open Go.RowKit Go.Extern.Stop Go.Stop Go.Extern
theorem Ni(t:Value)(w:World):Calls prog 47 #[.nilIface,t] w fun e w'=>e=Z (F false)/\w=w':=by
 go_enter func47,ntmps47;go_wp2;go_ret;exact ⟨rfl,rfl⟩
theorem W8(t:Addr)(w:World):(ReflectliteValue.unpack (Q 71 (E (some t)))).run prog w
  =.ok (D #[E (some ⟨14,71,none⟩),E (some ⟨w.heap.size,0,none⟩),.int .u64 150]) (w.alloc (H #[E (some t)] 71)):=kr
theorem Ga(a:Addr)(w:World):(ReflectliteValue.methodAny (ReflectliteValue.valueError "reflectlite.Value.Type" 0) (fun t _ _ _=>ReflectliteType.toType t) #[D #[E (some ⟨14,71,none⟩),E (some a),.int .u64 150]]).run prog w
  =.ok (Q 159 (D #[E (some ⟨14,71,none⟩)])) w:=kr
theorem KK(h:Value)(w:World):(Go.method 392 159 (D #[h]) "Kind").run prog w=.ok (329,h) w:=kr
theorem Gb(w:World):((ReflectliteType.abiMethod fun t=>(fun a:Nat=>Value.int IntKind.u8 (a:Int))<$>Rtype.kind t) #[E (some ⟨14,71,none⟩)]).run prog w=.ok (.int .u8 22) w:=kr
theorem Gd(w:World):((ReflectliteType.abiMethod fun t=>(fun a:Nat=>Value.int IntKind.u8 (a:Int))<$>Rtype.kind t) #[E (some ⟨14,69,none⟩)]).run prog w=.ok (.int .u8 25) w:=kr
theorem rlm(z:Sem Value)(f:TypeId->Addr->Nat->Nat->Sem Value)(a:Addr)(w:World):(ReflectliteValue.method z f #[D #[E (some ⟨14,71,none⟩),E (some a),.int .u64 150]]).run prog w=(f 71 a 150 22).run prog w:=kr
theorem W9(a p:Addr)(W:World)(ha:W.cell? a=some (E (some p))):
  (ReflectliteValue.method (ReflectliteValue.valueError "reflectlite.Value.IsNil" 0) ReflectliteValue.isNil #[D #[E (some ⟨14,71,none⟩),E (some a),.int .u64 150]]).run prog W=.ok (F false) W:=by
 rw[rlm];simp[ReflectliteValue.isNil,loadVar,isAgg,underlying,underlying71,ha,Result.andThen]
theorem KL(h:Value)(w:World):(Go.method 392 159 (D #[h]) "Elem").run prog w=.ok (344,D #[h]) w:=kr
theorem KM(h:Value)(w:World):(Go.method 392 159 (D #[h]) "Implements").run prog w=.ok (345,D #[h]) w:=kr
theorem DP(h:Value)(w:World):(Go.method 392 159 (D #[h]) "AssignableTo").run prog w=.ok (342,D #[h]) w:=kr
theorem Ge(w:World):(ReflectliteType.method ReflectliteType.elem #[D #[E (some ⟨14,71,none⟩)]]).run prog w=.ok (Q 159 (D #[E (some ⟨14,69,none⟩)])) w:=kr
theorem Gf(w:World):(ReflectliteType.relation "Implements" ReflectliteType.implements_ #[D #[E (some ⟨14,69,none⟩)],Q 159 (D #[E (some ⟨14,65,none⟩)])]).run prog w=.ok (F true) w:=kr
theorem ZY(v:Value)(w:World):(ReflectliteType.typeOf #[Q 69 v]).run prog w=.ok (Q 159 (D #[E (some ⟨14,69,none⟩)])) w:=kr
theorem A0(w:World):(ReflectliteType.relation "AssignableTo" ReflectliteType.assignableTo #[D #[E (some ⟨14,69,none⟩)],Q 159 (D #[E (some ⟨14,69,none⟩)])]).run prog w=.ok (F true) w:=kr
theorem X0(c:Int)(w:World):(ReflectliteValue.unpack (Q 69 (D #[I J c]))).run prog w
  =.ok (D #[E (some ⟨14,69,none⟩),E (some ⟨w.heap.size,0,none⟩),.int .u64 153]) (w.alloc (H #[I J c] 69)):=kr
theorem A1(w:World):(Rtype.elem? 71).run prog w=.ok (some 69) w:=kr
theorem Nj(p:Addr)(w:World):(ReflectliteValue.mk 69 p ReflectliteValue.flagAddr).run prog w=.ok (D #[E (some ⟨14,69,none⟩),E (some p),.int .u64 409]) w:=kr
theorem Gg(a p:Addr)(W:World)(ha:W.cell? a=some (E (some p))):
  (ReflectliteValue.method (ReflectliteValue.valueError "reflectlite.Value.Elem" 0) ReflectliteValue.elem #[D #[E (some ⟨14,71,none⟩),E (some a),.int .u64 150]]).run prog W
   =.ok (D #[E (some ⟨14,69,none⟩),E (some p),.int .u64 409]) W:=by
 rw[rlm];simp[ReflectliteValue.elem,loadVar,isAgg,underlying,underlying71,ha,Result.andThen,A1,Nj]
theorem rls(a b:Addr)(w:World):(ReflectliteValue.set #[D #[E (some ⟨14,69,none⟩),E (some a),.int .u64 409],D #[E (some ⟨14,69,none⟩),E (some b),.int .u64 153]]).run prog w
   =(do let v<-loadVar 69 b;storeVar 69 a v;pure (G #[]):Sem Value).run prog w:=kr
theorem Kn(b:Nat)(c:Int)(W:World)(hb:W.cell? ⟨b,0,none⟩=some (I J c)):(loadVar 69 ⟨b,0,none⟩).run prog W=.ok (D #[I J c]) W:=by
 have hr:=run_loadVar_mid (P:=prog) W b 0 69 [I J c] _ (fun j v hv=>by
  match j,hv with
  |0,hv=>cases hv;exact hb) underlying69 rfl kr
 exact hr
theorem Nk(t b:Nat)(c:Int)(old:Value)(W:World)(hb:W.cell? ⟨b,0,none⟩=some (I J c))(ht:W.cell? ⟨t,0,none⟩=some old)(hf:W.frozen? ⟨t,0,none⟩=false):
  (ReflectliteValue.set #[D #[E (some ⟨14,69,none⟩),E (some ⟨t,0,none⟩),.int .u64 409],D #[E (some ⟨14,69,none⟩),E (some ⟨b,0,none⟩),.int .u64 153]]).run prog W
   =.ok (G #[]) (W.setCell ⟨t,0,none⟩ (I J c)):=by
 rw[rls];simp[Kn b c W hb,Result.andThen,storeVar,Value.cells,storeCells,Addr.add];rw[run_store prog W ⟨t,0,none⟩ _ _ (by rfl)];simp[ht,hf]
theorem Nl(c:Int)(t:Nat)(old:Value)(w:World)(hg:QN w)(ht0:w.cell? ⟨t,0,none⟩=some old)(hf0:w.frozen? ⟨t,0,none⟩=false):Calls prog 47 #[Q 69 (D #[I J c]),Q 71 (E (some ⟨t,0,none⟩))] w fun ev w'=>ev=Z (F true)/\w'=((((w.alloc (H #[E (some ⟨t,0,none⟩)] 71)).alloc (H #[E (some ⟨14,71,none⟩),E (some ⟨w.heap.size,0,none⟩),.int .u64 150] 122)).alloc (H #[E (some ⟨14,71,none⟩),E (some ⟨w.heap.size,0,none⟩),.int .u64 150] 122)).alloc (H #[I J c] 69)).setCell ⟨t,0,none⟩ (I J c):=by
 have h6:= @run_callFunc_extern prog 105 _ (fun args=>ReflectliteValue.unpack (args.getD 0 (G #[]))) func105 kr kr kr kr;have h7:= @run_callFunc_extern prog 106 _ (ReflectliteValue.methodAny (ReflectliteValue.valueError "reflectlite.Value.Type" 0) (fun t _ _ _=>ReflectliteType.toType t)) func106 kr kr kr kr;have h8:= @run_callFunc_extern prog 107 _ (ReflectliteValue.method (ReflectliteValue.valueError "reflectlite.Value.IsNil" 0) ReflectliteValue.isNil) func107 kr kr kr kr;have h27:= @run_callFunc_extern prog 329 _ (ReflectliteType.abiMethod fun t=>do pure (.int .u8 (<-Rtype.kind t))) func329 kr kr kr kr;have h37:= @run_callFunc_extern prog 344 _ (ReflectliteType.method ReflectliteType.elem) func344 kr kr kr kr;have h38:= @run_callFunc_extern prog 345 _ (ReflectliteType.relation "Implements" ReflectliteType.implements_) func345 kr kr kr kr;have h10:= @run_callFunc_extern prog 160 _ ReflectliteType.typeOf func160 kr kr kr kr;have h35:= @run_callFunc_extern prog 342 _ (ReflectliteType.relation "AssignableTo" ReflectliteType.assignableTo) func342 kr kr kr kr;have h11:= @run_callFunc_extern prog 161 _ (ReflectliteValue.method (ReflectliteValue.valueError "reflectlite.Value.Elem" 0) ReflectliteValue.elem) func161 kr kr kr kr;have h12:= @run_callFunc_extern prog 162 _ ReflectliteValue.set func162 kr kr kr kr;have tO:=ZY;have mA:=DP;have a25:=A0;have v25:=X0;have f6:=W8;have f7:=Ga;have mK:=KK;have mE:=KL;have mI:=KM;have k27:=Gb;have k25:=Gd;have e27:=Ge;have i25:=Gf;have n8:=W9 ⟨w.heap.size,0,none⟩ ⟨t,0,none⟩ ((w.alloc (H #[E (some ⟨t,0,none⟩)] 71)).alloc (H #[E (some ⟨14,71,none⟩),E (some ⟨w.heap.size,0,none⟩),.int .u64 150] 122)) j2;have hlt:0<w.heap.size:=zg w ⟨0,0,none⟩ hg;have hg2:((w.alloc (H #[E (some ⟨t,0,none⟩)] 71)).alloc (H #[E (some ⟨14,71,none⟩),E (some ⟨w.heap.size,0,none⟩),.int .u64 150] 122)).cell? ⟨0,0,none⟩=some (Q 159 (D #[E (some ⟨14,65,none⟩)])):=by
  rw[zc _ _ ⟨0,0,none⟩ (Nat.lt_of_lt_of_le hlt j2),zc _ _ ⟨0,0,none⟩ hlt];exact hg
 have htl:t<w.heap.size:=zg w ⟨t,0,none⟩ ht0;have el:=Gg ⟨w.heap.size,0,none⟩ ⟨t,0,none⟩ (((w.alloc (H #[E (some ⟨t,0,none⟩)] 71)).alloc (H #[E (some ⟨14,71,none⟩),E (some ⟨w.heap.size,0,none⟩),.int .u64 150] 122)).alloc (H #[E (some ⟨14,71,none⟩),E (some ⟨w.heap.size,0,none⟩),.int .u64 150] 122)) (by rw[zc _ _ ⟨w.heap.size,0,none⟩ (by simp;omega)];simp);have st:=Nk t (w.heap.size+1+1+1) c old ((((w.alloc (H #[E (some ⟨t,0,none⟩)] 71)).alloc (H #[E (some ⟨14,71,none⟩),E (some ⟨w.heap.size,0,none⟩),.int .u64 150] 122)).alloc (H #[E (some ⟨14,71,none⟩),E (some ⟨w.heap.size,0,none⟩),.int .u64 150] 122)).alloc (H #[I J c] 69))
  (by rw[World.cell?_alloc_at _ _ _ _ j2];rfl)
  (by rw[zc _ _ ⟨t,0,none⟩ (by simp;omega),zc _ _ ⟨t,0,none⟩ (by simp;omega),zc _ _ ⟨t,0,none⟩ (by simp;omega),zc _ _ ⟨t,0,none⟩ htl];exact ht0)
  (by rw[ze _ _ ⟨t,0,none⟩ (by simp;omega),ze _ _ ⟨t,0,none⟩ (by simp;omega),ze _ _ ⟨t,0,none⟩ (by simp;omega),ze _ _ ⟨t,0,none⟩ (Nat.ne_of_lt htl)];exact hf0)
 unfold QN at hg;go_enter func47,ntmps47;go_wp2;refine wp_loop_rounds 1 ?_;rw[rounds_succ];go_wp2;go_ret;exact ⟨rfl,rfl⟩
end
section
open Go.RowKit
attribute [local go_sem↓] Go.wp_at_zero Go.wp_at_succ
theorem A2(c:UInt8):([47,92,63]:List UInt8).contains c= !cL c:=by
 have key: ∀n:Nat,n<256->([47,92,63]:List UInt8).contains (zm n)= !cL (zm n):=by decide+kernel
 have h:=key c.toNat c.toNat_lt;simpa using h
theorem BG(s:ByteArray)(w:World)(hs:s.size<=1048576):Calls prog 100 #[L s] w fun e w'=>e=Z (G #[L ⟨(s.data.toList.takeWhile cL).toArray⟩,L ⟨(s.data.toList.dropWhile cL).toArray⟩])/\Below w.heap.size w w':=by
 have hsl:s.data.toList.length=s.size:=by simp
 have CA:Hid (CB 149 #[L s,L ⟨#[47,92,63]⟩] w (I J (Lib.indexAny s.data.toList [47,92,63]))):=Km s w hs;have hx:=NE [47,92,63] cL A2 s.data.toList;obtain ⟨k,hk,hz,ht,hd⟩: ∃k:Nat,k<=s.size/\(Lib.indexAny s.data.toList [47,92,63]=(k:Int)∨(Lib.indexAny s.data.toList [47,92,63]= -1/\k=s.size))/\s.extract 0 k=⟨(s.data.toList.takeWhile cL).toArray⟩/\s.extract k s.size=⟨(s.data.toList.dropWhile cL).toArray⟩:=by
  have hle:(s.data.toList.takeWhile cL).length<=s.size:=by rw[<-hsl];exact (zj _).length_le
  obtain ⟨h1,h2⟩:=ZJ cL s.data.toList
  cases ha:s.data.toList.all cL with
  |true=>
   obtain ⟨h3,h4⟩:=NF cL _ ha;refine ⟨s.size,za _,.inr ⟨by rw[hx,ha];rfl,rfl⟩,?_,?_⟩
   .apply bL
    show (s.extract 0 s.size).data.toList=_;rw[iP,h3,zh om];rfl
   apply bL;show (s.extract s.size s.size).data.toList=_;rw[fV,h4,zi om];rfl
  |false=>
   refine ⟨(s.data.toList.takeWhile cL).length,hle,.inl (by rw[hx,ha];rfl),?_,?_⟩
   .apply bL
    show (s.extract 0 _).data.toList=_;rw[iP,h1];rfl
   apply bL;show (s.extract _ s.size).data.toList=_;rw[fV,h2];rfl
 clear hx;have HT:Hid (s.extract 0 k=⟨(s.data.toList.takeWhile cL).toArray⟩):=ht;have HD:Hid (s.extract k s.size=⟨(s.data.toList.dropWhile cL).toArray⟩):=hd;generalize (⟨(s.data.toList.takeWhile cL).toArray⟩:ByteArray)=X at HT⊢;generalize (⟨(s.data.toList.dropWhile cL).toArray⟩:ByteArray)=Y at HD⊢;generalize Lib.indexAny s.data.toList [47,92,63]=z at CA hz;clear ht hd hsl;have hki:(k:Int)<=(s.size:Int):=om;have hk0:(0:Int)<=(k:Int):=Int.natCast_nonneg _
 rcases hz with rfl|⟨rfl,hks⟩
 .go_enter func100,ntmps100
  go_wp2_with fail;refine CA.out.mono ?_;rintro e wa ⟨rfl,ba⟩;go_wp2_with fail
  go_quiet (fail)
  go_wp2;go_ret2;exact ⟨by rw[<-HT.out,<-HD.out];rfl,ba.trans ⟨rfl,rfl,rfl,za _,fun _ _=>rfl⟩⟩
 subst hks;have HX:Hid (s.extract 0 s.size=s):=by
  apply bL;show (s.extract 0 s.size).data.toList=_;rw[iP,zh j2];rfl
 have HY:Hid (s.extract s.size s.size=ByteArray.empty):=by
  apply bL;show (s.extract s.size s.size).data.toList=_;rw[fV,zi j2];rfl
 go_enter func100,ntmps100;go_wp2_with fail;refine CA.out.mono ?_;rintro e wa ⟨rfl,ba⟩;go_wp2_with fail
 go_quiet (fail)
 go_wp2;go_ret2;exact ⟨by rw[<-HT.out,<-HD.out,HX.out,HY.out];rfl,ba.trans ⟨rfl,rfl,rfl,za _,fun _ _=>rfl⟩⟩
def vP:HV:=⟨0,⟨#[]⟩,0,gI⟩
def kR(s:Int)(A:ByteArray):Int×HV×Int:=if A.data.toList.contains 64=true then (3,vP,0)
 else if 1<=eP s (poB A)/\eP s (poB A)<=65535 then (if rC (aR ⟨(hoB A).toArray⟩)=0 then (0,rV (aR ⟨(hoB A).toArray⟩),eP s (poB A))else (4,vP,0))else (5,vP,0)
def A4(c:Int):Value:=if c=0 then .nilIface else noV c
theorem M5{c:Int}(h:c≠0):A4 c=Q 69 (D #[I J c]):=by unfold A4;rw[if_neg h];rfl
theorem Ko{s:Int}(hs:s=1∨s=2)(A:ByteArray)(rest:List UInt8):tA s A.data.toList rest=if (kR s A).1=0 then wE (oH s (kR s A).2.1 (kR s A).2.2 rest)else ((kR s A).1,cP):=by
 unfold tA kR
 by_cases h1:A.data.toList.contains 64=true
 .rw[if_pos h1,if_pos h1];rfl
 rw[if_neg h1,if_neg h1,Jy hs]
 by_cases h2:1<=eP s (poB A)/\eP s (poB A)<=65535
 .rw[if_pos h2,if_pos h2]
  unfold pC
  by_cases h3:rC (aR ⟨(hoB A).toArray⟩)=0
  .rw[if_pos h3,if_pos h3];rfl
  rw[if_neg h3,if_neg h3];rfl
 rw[if_neg h2,if_neg h2];rfl
theorem Nm{s:Int}{A:ByteArray}(h:(kR s A).1=0):hOk (kR s A).2.1=true/\1<=(kR s A).2.2/\(kR s A).2.2<=65535:=by
 unfold kR at h⊢
 by_cases h1:A.data.toList.contains 64=true
 .rw[if_pos h1]at h;exact absurd h de
 rw[if_neg h1]at h⊢
 by_cases h2:1<=eP s (poB A)/\eP s (poB A)<=65535
 .rw[if_pos h2]at h⊢
  by_cases h3:rC (aR ⟨(hoB A).toArray⟩)=0
  .rw[if_pos h3]
   refine ⟨?_,h2⟩
   rcases PH ⟨(hoB A).toArray⟩with ⟨c,h4,h5,_⟩|⟨h4,_⟩
   .rw[h4]at h3
    have:c=0:=h3
    omega
   exact h4
  rw[if_neg h3]at h;exact absurd h de
 rw[if_neg h2]at h;exact absurd h de
theorem X3(s:Int)(A:ByteArray):(kR s A).2.1.z.length=8:=by
 unfold kR;split
 .rfl
 split
 .split
  .exact iK _
  rfl
 rfl
theorem X4(s:Int)(A:ByteArray): ∃(k n:Int) (nm:ByteArray) (x0 x1 x2 x3 x4 x5 x6 x7:Int),(kR s A).2.1=⟨k,nm,n,[x0,x1,x2,x3,x4,x5,x6,x7]⟩:=by
 have h8:=X3 s A;generalize (kR s A).2.1=h at h8;obtain ⟨k,nm,n,z⟩:=h
 match z,h8 with
 |[x0,x1,x2,x3,x4,x5,x6,x7],_=>exact ⟨k,n,nm,x0,x1,x2,x3,x4,x5,x6,x7,rfl⟩
theorem Nn(A:ByteArray):(hoB A).length<=A.size:=by
 have hA:A.data.toList.length=A.size:=by simp
 obtain ⟨hf,_⟩:=Lm A;have h:=(zj (fun x=>x !=58) (l:=A.data.toList.drop (frB A))).length_le;rw[List.length_drop]at h;unfold hoB upB;rw[List.length_append,List.length_take];omega
theorem PU.moved{w:World}{row:List Value}{W W':World}{C:Nat}(h:PU w row W)(hC:w.heap.size<C)(hM:oM C W W'):PU w row W':=⟨hM.1 _ _ om h.1,hM.2 _ _ om h.2⟩
theorem nJ{fn:Func}{i j l:Tmp}(h:fn.results= #[.cell i 26,.tmp j,.tmp l])(tmps:Array Value)(W:World)(B:Nat)(v1 v2:Value)(vs:List Value)(hl:vs.length=11)
  (hp:tmps[i]?.getD undef=E (some ⟨B,0,none⟩)) (hq:tmps[j]?.getD undef=v1) (hr:tmps[l]?.getD undef=v2) (ha:UAt W B vs):(results fn tmps).run prog W=.ok (G #[D vs.toArray,v1,v2]) W:=by
 obtain ⟨d,hd1,hd2⟩:=rowHost;have hrun:=run_loadVar_mid (P:=prog) W B 0 26 vs d (ha.range 0 vs (fun j v hv=>by rw[Nat.zero_add];exact hv)) hd1 hd2 (by rw[hl];exact infoHost);simp[results,h,hp,hq,hr,asAddr,hrun]
def DH:List Value:=bD 0 ⟨#[]⟩ 0 0 0 0 0 0 0 0 0
theorem zO(A:ByteArray)(s:Int)(w:World)(hA:A.size<=100000)(hs:s=1∨s=2)(hT:Lib.Utf8Tabs 12 13 w)(hP:Pow w)(hD:cC w)(hM:rI w):Calls prog 101 #[L A,I J s] w fun e w'=>e=Z (G #[fP (kR s A).2.1,I J (kR s A).2.2,A4 (kR s A).1])/\Below w.heap.size w w':=by
 have CC:Hid (∀W,CS 150 #[L A,L ⟨#[64]⟩] W (F (A.data.toList.contains 64))):=fun W=>by
  have h:=strings_Contains_one A 64 W;rw[<-Lib.contains_iff_indexByte]at h;exact h.mono fun e w' h=>⟨h.1,h.2.symm⟩
 have HR:Hid (kR s A=if A.data.toList.contains 64=true then (3,vP,0)else if 1<=eP s (poB A)/\eP s (poB A)<=65535 then (if rC (aR ⟨(hoB A).toArray⟩)=0 then (0,rV (aR ⟨(hoB A).toArray⟩),eP s (poB A))else (4,vP,0))else (5,vP,0)):=rfl;have CK:Hid (∀W,Below w.heap.size w W->CB 151 #[L A] W (G #[L ⟨(hoB A).toArray⟩,L ⟨(poB A).toArray⟩])):=fun W hb=>WS A W om (jV hM hb)
 have CR:Hid (∀W,CS 152 #[L ⟨(poB A).toArray⟩,I J s] W (if 1<=eP s (poB A)/\eP s (poB A)<=65535 then G #[I J (eP s (poB A)),.nilIface]else G #[I J 0,Q 69 (D #[I J 5])])):=fun W=>QP ⟨(poB A).toArray⟩ s W hs
 have hho:(⟨(hoB A).toArray⟩:ByteArray).size<=100000:=by rw[cR];have:=Nn A;omega
 have CH:Hid (∀W,Below w.heap.size w W->CB 153 #[L ⟨(hoB A).toArray⟩] W (G #[fP (rV (aR ⟨(hoB A).toArray⟩)),I J (rC (aR ⟨(hoB A).toArray⟩))])):=fun W hb=>KJ _ W om (cV hT hb) (dQ hP hb) (bF hD hb) (jV hM hb)
 generalize kR s A=R at HR⊢;generalize (⟨(hoB A).toArray⟩:ByteArray)=Ho at HR CK CH hho;generalize eP s (poB A)=pn at HR CR;generalize (⟨(poB A).toArray⟩:ByteArray)=Po at CK CR;generalize A.data.toList.contains 64=b at CC HR;clear hT hP hD hM;obtain ⟨O,hO⟩: ∃O,O=w.alloc (H #[I J 0,L ⟨#[]⟩,I J 0,I J 0,I J 0,I J 0,I J 0,I J 0,I J 0,I J 0,I J 0] 26):=⟨_,rfl⟩;have HU:Hid (PU w DH O):=by
  rw[hO];exact PU.new w _ _
 go_enter func101,ntmps101
 go_upto_region 1 with fail
 rw[<-hO];clear hO;go_wp2_with fail;refine (CC.out _).mono ?_;rintro e w' ⟨rfl,rfl⟩;clear CC
 cases b with
 |true=>
  have HZ:Hid (R=(3,vP,0)):=HR.out;have HUU:=HU;clear HR;go_wp2_with (refine jN HUU.out.1 0 (za 11) (us:=DH) rfl (gY ..) rfl _ _ rfl rfl rfl ?_;intro w9 HU9 HM9);refine bodyPost_ret (nJ rfl _ _ w.heap.size (I J 0) (Q 69 (D #[I J 3])) _ rfl rfl rfl rfl HU9) rfl ⟨by rw[HZ.out];rfl,HM9.2 _ _ (za _) HUU.out.2⟩
 |false=>
  go_wp2_with fail;refine (CK.out _ HU.out.2).mono ?_;rintro e w1 ⟨rfl,hb1⟩;have HU1:Hid (PU w DH w1):=HU.out.later hb1;clear hb1 HU CK
  by_cases hp:1<=pn/\pn<=65535
  .have HR2:Hid (R=if rC (aR Ho)=0 then (0,rV (aR Ho),pn)else (4,vP,0)):=by
    show _=_;rw[HR.out,if_neg de,if_pos hp]
   rw[if_pos hp]at CR;clear HR;go_wp2_with fail;refine (CR.out _).mono ?_;rintro e w' ⟨rfl,rfl⟩;clear CR;obtain ⟨k,n,nm,x0,x1,x2,x3,x4,x5,x6,x7,hhv⟩: ∃(k n:Int) (nm:ByteArray) (x0 x1 x2 x3 x4 x5 x6 x7:Int),rV (aR Ho)=⟨k,nm,n,[x0,x1,x2,x3,x4,x5,x6,x7]⟩:=by
    have h8:=iK Ho;generalize rV (aR Ho)=h at h8;obtain ⟨k,nm,n,z⟩:=h
    match z,h8 with
    |[x0,x1,x2,x3,x4,x5,x6,x7],_=>exact ⟨k,n,nm,x0,x1,x2,x3,x4,x5,x6,x7,rfl⟩
   have CH2:Hid (∀W,Below w.heap.size w W->CB 153 #[L Ho] W (G #[D (bD k nm n x0 x1 x2 x3 x4 x5 x6 x7).toArray,I J (rC (aR Ho))])):=fun W hb=>by
    have h:=CH.out W hb;rw[hhv]at h;exact h
   rw[hhv]at HR2;clear CH hhv;generalize rC (aR Ho)=rc at HR2 CH2;go_wp2_with fail;refine (CH2.out _ HU1.out.2).mono ?_;rintro e w2 ⟨rfl,hb2⟩;have HU2:Hid (PU w DH w2):=HU1.out.later hb2;clear hb2 HU1 CH2;have HU2a:Hid (PU w DH (w2.alloc (H #[I J 0,L ⟨#[]⟩,I J 0,I J 0,I J 0,I J 0,I J 0,I J 0,I J 0,I J 0,I J 0] 26))):=HU2.out.later ((zf _ _).alloc (za _) _);have hlt:w.heap.size<w2.heap.size:=HU2.out.1.2.2
   go_upto_region 8 with (refine jN (UAt.new w2 _ _) 0 (za 11) (us:=bD k nm n x0 x1 x2 x3 x4 x5 x6 x7) rfl (gY ..) rfl _ _ rfl rfl rfl ?_;intro w3 HUh HMh)
   have HU3:Hid (PU w DH w3):=HU2a.out.moved hlt HMh;have HUH:Hid (UAt w3 w2.heap.size (bD k nm n x0 x1 x2 x3 x4 x5 x6 x7)):=HUh;clear HUh HMh HU2a HU2 hlt
   by_cases hr0:rc=0
   .have HZ:Hid (R=(0,⟨k,nm,n,[x0,x1,x2,x3,x4,x5,x6,x7]⟩,pn)):=by show _=_;rw[HR2.out,if_pos hr0]
    subst hr0;clear HR2;go_wp2_with (first|(refine zD HUH.out 0 (bD k nm n x0 x1 x2 x3 x4 x5 x6 x7) (fun j v hv=>by rw[Nat.zero_add];exact hv) rfl rfl _ rfl rfl ?_)|(refine jN HU3.out.1 0 (za 11) (us:=bD k nm n x0 x1 x2 x3 x4 x5 x6 x7) rfl (gY ..) rfl _ _ rfl rfl rfl ?_;intro w9 HU9 HM9));refine bodyPost_ret (nJ rfl _ _ w.heap.size (I J pn) .nilIface _ rfl rfl rfl rfl HU9) rfl ⟨by rw[HZ.out];rfl,HM9.2 _ _ (za _) HU3.out.2⟩
   have HZ:Hid (R=(4,vP,0)):=by show _=_;rw[HR2.out,if_neg hr0]
   have hrb:(rc !=0)=true:=bne_iff_ne.2 hr0;have HUU:=HU3;clear HR2 hr0;go_wp2_with (refine jN HUU.out.1 0 (za 11) (us:=DH) rfl (gY ..) rfl _ _ rfl rfl rfl ?_;intro w9 HU9 HM9);refine bodyPost_ret (nJ rfl _ _ w.heap.size (I J 0) (Q 69 (D #[I J 4])) _ rfl rfl rfl rfl HU9) rfl ⟨by rw[HZ.out];rfl,HM9.2 _ _ (za _) HUU.out.2⟩
  have HZ:Hid (R=(5,vP,0)):=by
   show _=_;rw[HR.out,if_neg de,if_neg hp]
  rw[if_neg hp]at CR;clear HR;go_wp2_with fail;refine (CR.out _).mono ?_;rintro e w' ⟨rfl,rfl⟩;clear CR;have HUU:=HU1;go_wp2_with (refine jN HUU.out.1 0 (za 11) (us:=DH) rfl (gY ..) rfl _ _ rfl rfl rfl ?_;intro w9 HU9 HM9);refine bodyPost_ret (nJ rfl _ _ w.heap.size (I J 0) (Q 69 (D #[I J 5])) _ rfl rfl rfl rfl HU9) rfl ⟨by rw[HZ.out];rfl,HM9.2 _ _ (za _) HUU.out.2⟩
