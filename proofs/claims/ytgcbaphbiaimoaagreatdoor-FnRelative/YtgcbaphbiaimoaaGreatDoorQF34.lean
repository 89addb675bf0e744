/- UrlOkSpec, ResText, ResJoin, ResSpec, UrlImpl5, ResSpec2. -/
import Derived.Test.YtgcbaphbiaimoaaGreatDoorQF33
set_option maxHeartbeats 8000000
set_option maxRecDepth 100000
namespace Go.Proofs.YtgcbaphbiaimoaaGreatDoor
open Go.Value renaming int->I,string->L,bool->Z,agg->H
open Go.IntKind renaming i64->J
open Go.Obj renaming cells->Y
open _root_.Go.RowKit.Below renaming refl->zf
open _root_.ByteArray renaming size_append->zg,size_extract->zc
open _root_.List renaming drop_zero->zh
open _root_.Nat renaming le_refl->zd,le_succ->ze,le_trans->za
open _root_.Go.Proofs.Tryz
open _root_.Go.Proofs.YtgcbaphbiaimoaaGreatDoor.Tryz
section
open Go.RowKit
attribute [local go_sem↓] Go.wp_at_zero Go.wp_at_succ
end
section
open Go.RowKit
end
section
open Go.RowKit
set_option linter.unusedVariables false
def NK(a t:ByteArray):ByteArray:=if t.size=0 then a else if (⟨(upB 63 t.data.toList).toArray⟩:ByteArray).size=0 then a else ptP (lS a ⟨(upB 63 t.data.toList).toArray⟩)
def TG(q:Bool)(t:ByteArray):Bool:=if t.size=0 then q else t.data.toList.contains 63
def NL(r t:ByteArray):ByteArray:=if t.size=0 then r else plB 2 ⟨(cZ 63 t.data.toList).toArray⟩
def PJ(w:World)(V:Nat)(row us:List Value)(W:World):Prop:=PA w row W/\UAt W V us/\w.heap.size+1<V
theorem PJ.later{w:World}{V:Nat}{row us:List Value}{W W':World}(h:PJ w V row us W)(hb:Below W.heap.size W W'):PJ w V row us W':=⟨h.1.later hb,h.2.1.below hb,h.2.2⟩
theorem PJ.set{w:World}{V:Nat}{row us:List Value}{W:World}(h:PJ w V row us W)(j:Nat)(hj:j<us.length)(v:Value):PJ w V row (us.set j v) (W.setCell ⟨V,j,none⟩ v):=
 ⟨⟨h.1.1.other (by have:=h.2.2;omega) _ _,h.1.2.1.other (by have:=h.2.2;omega) _ _,h.1.2.2.setCell (p:=⟨V,j,none⟩) (by have:=h.2.2;show _<=V;omega) v⟩,h.2.1.set j hj v,h.2.2⟩
theorem PA.moved{w:World}{row:List Value}{C:Nat}{W W':World}(h:PA w row W)(hC:w.heap.size+1<C)(hM:nN C W W'):PA w row W':=⟨hM.1 _ _ om h.1,hM.1 _ _ om h.2.1,hM.2 _ _ om h.2.2⟩
theorem WK(s k n p:Int)(nm a r:ByteArray)(q:Bool)(x0 x1 x2 x3 x4 x5 x6 x7:Int)(t:ByteArray)(w:World)(hs:nm.size<=1048576)(ha:a.size<=1048576)(hr:r.size<=1048576)(ht:t.size<=2000)(hK:gG w)(hM:qE w):Calls prog 123 #[H #[I J s,I J k,L nm,I J n,I J x0,I J x1,I J x2,I J x3,I J x4,I J x5,I J x6,I J x7,I J p,L a,Z q,L r],L t] w fun e w'=>e=.returned (H (aC s k nm n x0 x1 x2 x3 x4 x5 x6 x7 p (NK a t) (TG q t) (NL r t)).toArray)/\Below w.heap.size w w':=by
 have CN:Hid (∀W,CB 175 #[H (aC s k nm n x0 x1 x2 x3 x4 x5 x6 x7 p a q r).toArray] W (H (aC s k nm n x0 x1 x2 x3 x4 x5 x6 x7 p a q r).toArray)):=fun W=>Bc s k n p nm a r q x0 x1 x2 x3 x4 x5 x6 x7 W om om om
 have CC:Hid (∀W,CB 102 #[L t,L ⟨#[63]⟩] W (.tuple #[L ⟨(upB 63 t.data.toList).toArray⟩,L ⟨(cZ 63 t.data.toList).toArray⟩,Z (t.data.toList.contains 63)])):=fun W=>iS 63 t W om
 have hsl:t.data.toList.length=t.size:=by simp
 have hus:(⟨(upB 63 t.data.toList).toArray⟩:ByteArray).size<=2000:=by
  rw[dO]
  have:(upB 63 t.data.toList).length<=t.data.toList.length:=(List.takeWhile_sublist _).length_le
  omega
 have hbs:(⟨(cZ 63 t.data.toList).toArray⟩:ByteArray).size<=2000:=by
  rw[dO]
  have:(cZ 63 t.data.toList).length<=t.data.toList.length:=((List.drop_sublist _ _).trans (List.dropWhile_sublist _)).length_le
  omega
 have CP:Hid (∀W,Below w.heap.size w W->CB 104 #[L ⟨(cZ 63 t.data.toList).toArray⟩,I J 2] W (L (plB 2 ⟨(cZ 63 t.data.toList).toArray⟩))):=fun W hb=>oG _ 2 W (hK.later hb) om
 have CB:Hid (0<(⟨(upB 63 t.data.toList).toArray⟩:ByteArray).size-> ∀W,CB 176 #[L a,L ⟨(upB 63 t.data.toList).toArray⟩] W (L (lS a ⟨(upB 63 t.data.toList).toArray⟩))):=fun h W=>FQ a _ W h om om
 have hpb:(lS a ⟨(upB 63 t.data.toList).toArray⟩).size<=4194304:=by
  unfold lS;split
  .omega
  have:(upT a).size<=a.size:=by unfold upT;rw[zc];omega
  rw[zg];omega
 have CQ:Hid (∀W,Below w.heap.size w W->Calls prog 103 #[L (lS a ⟨(upB 63 t.data.toList).toArray⟩)] W fun e w'=>e=.returned (L (ptP (lS a ⟨(upB 63 t.data.toList).toArray⟩)))/\Below W.heap.size W w'):=fun W hb=>tV _ W hpb (hK.later hb) (iM hM hb)
 have HA0:Hid (NK a t=if t.size=0 then a else if (⟨(upB 63 t.data.toList).toArray⟩:ByteArray).size=0 then a else ptP (lS a ⟨(upB 63 t.data.toList).toArray⟩)):=rfl;have HQ0:Hid (TG q t=if t.size=0 then q else t.data.toList.contains 63):=rfl;have HR0:Hid (NL r t=if t.size=0 then r else plB 2 ⟨(cZ 63 t.data.toList).toArray⟩):=rfl;generalize NK a t=ZA at HA0⊢;generalize TG q t=ZQ at HQ0⊢;generalize NL r t=ZR at HR0⊢;generalize ptP (lS a ⟨(upB 63 t.data.toList).toArray⟩)=PP at CQ HA0;generalize lS a ⟨(upB 63 t.data.toList).toArray⟩=PB at CQ CB hpb;generalize plB 2 ⟨(cZ 63 t.data.toList).toArray⟩=PR at CP HR0;generalize (⟨(cZ 63 t.data.toList).toArray⟩:ByteArray)=Be at CC CP hbs;generalize (⟨(upB 63 t.data.toList).toArray⟩:ByteArray)=Up at CC CB hus HA0;generalize t.data.toList.contains 63=tb at CC HQ0;clear hK hM hsl;have hn:=PA.new w s k n p nm a r q x0 x1 x2 x3 x4 x5 x6 x7;obtain ⟨O,hO⟩: ∃O,O=(w.alloc (Y #[I J s,I J k,L nm,I J n,I J x0,I J x1,I J x2,I J x3,I J x4,I J x5,I J x6,I J x7,I J p,L a,Z q,L r] 28)).alloc (Y #[I J 0,I J 0,L ⟨#[]⟩,I J 0,I J 0,I J 0,I J 0,I J 0,I J 0,I J 0,I J 0,I J 0,I J 0,L ⟨#[]⟩,Z false,L ⟨#[]⟩] 28):=⟨_,rfl⟩;rw[<-hO]at hn;have H0:Hid (PA w (aC s k nm n x0 x1 x2 x3 x4 x5 x6 x7 p a q r) O):=hn;clear hn;go_enter func123,ntmps123
 go_upto_region 1 with fail
 rw[<-hO];clear hO;go_wp2_with (refine bU H0.out.1 rfl rfl _ rfl rfl ?_);refine (CN.out _).mono ?_;rintro e w1 ⟨rfl,b1⟩;have h1:=H0.out.later b1;have hlt:w.heap.size+1<w1.heap.size:=h1.2.1.2.2;have H1a:Hid (PA w (aC s k nm n x0 x1 x2 x3 x4 x5 x6 x7 p a q r) (w1.alloc (Y #[I J 0,I J 0,L ⟨#[]⟩,I J 0,I J 0,I J 0,I J 0,I J 0,I J 0,I J 0,I J 0,I J 0,I J 0,L ⟨#[]⟩,Z false,L ⟨#[]⟩] 28))):=h1.later ((zf _ _).alloc (zd _) _);clear b1 h1 H0 CN
 go_upto_region 2 with (refine dI (UAt.new w1 _ _) rfl (us:=aC s k nm n x0 x1 x2 x3 x4 x5 x6 x7 p a q r) rfl (aS ..) rfl _ _ rfl rfl rfl ?_;intro w2 HUh HMh)
 have HJ:Hid (PJ w w1.heap.size (aC s k nm n x0 x1 x2 x3 x4 x5 x6 x7 p a q r) (aC s k nm n x0 x1 x2 x3 x4 x5 x6 x7 p a q r) w2):=⟨H1a.out.moved hlt HMh,HUh,hlt⟩;clear HUh HMh H1a hlt;generalize w1.heap.size=V at HJ⊢
 by_cases h0:t.size=0
 .have hem:=aV h0
  have HA:Hid (a=ZA):=by show _=_;rw[HA0.out,if_pos h0]
  have HQ:Hid (q=ZQ):=by show _=_;rw[HQ0.out,if_pos h0]
  have HR:Hid (r=ZR):=by show _=_;rw[HR0.out,if_pos h0]
  clear HA0 HQ0 HR0 CC CP CB CQ h0;go_wp2_with (first|(refine bU HJ.out.2.1 rfl rfl _ rfl rfl ?_)|(refine dI HJ.out.1.2.1 rfl (us:=(aC s k nm n x0 x1 x2 x3 x4 x5 x6 x7 p a q r)) rfl (aS ..) rfl _ _ rfl rfl rfl ?_;intro w9 HU9 HM9));refine bodyPost_ret (fM rfl _ _ (w.heap.size+1) _ rfl rfl HU9) rfl ⟨by rw[HA.out,HQ.out,HR.out],HM9.2 _ _ (ze _) HJ.out.1.2.2⟩
 have hem:=aX (show 0<t.size by omega);have HA1:Hid (ZA=if Up.size=0 then a else PP):=by show _=_;rw[HA0.out,if_neg h0]
 have HQ:Hid (tb=ZQ):=by show _=_;rw[HQ0.out,if_neg h0]
 have HR:Hid (PR=ZR):=by show _=_;rw[HR0.out,if_neg h0]
 clear HA0 HQ0 HR0 h0;go_wp2_with fail;refine (CC.out _).mono ?_;rintro e w3 ⟨rfl,b3⟩;have HJ3:Hid (PJ w V (aC s k nm n x0 x1 x2 x3 x4 x5 x6 x7 p a q r) (aC s k nm n x0 x1 x2 x3 x4 x5 x6 x7 p a q r) w3):=HJ.out.later b3;clear b3 HJ CC;go_wp2_with fail;refine (CP.out _ HJ3.out.1.2.2).mono ?_;rintro e w4 ⟨rfl,b4⟩;have h4:=HJ3.out.later b4;have c14:=h4.2.1.1 14 _ rfl;have c15:=h4.2.1.1 15 _ rfl;have f14:=h4.2.1.2.1 14;have f15:=h4.2.1.2.1 15;have HJ5:Hid (PJ w V (aC s k nm n x0 x1 x2 x3 x4 x5 x6 x7 p a q r) (aC s k nm n x0 x1 x2 x3 x4 x5 x6 x7 p a tb PR) ((w4.setCell ⟨V,14,none⟩ (Z tb)).setCell ⟨V,15,none⟩ (L PR))):=(h4.set 14 (by simp[aC]) _).set 15 (by simp[aC]) _;clear b4 h4 HJ3 CP
 go_upto_region 6 with fail
 generalize ((w4.setCell ⟨V,14,none⟩ (Z tb)).setCell ⟨V,15,none⟩ (L PR))=w5 at HJ5⊢;clear c14 c15 f14 f15 hem
 by_cases hu:Up.size=0
 .have hem:=aV hu
  have HA:Hid (a=ZA):=by show _=_;rw[HA1.out,if_pos hu]
  clear HA1 CB CQ hu;go_wp2_with (first|(refine bU HJ5.out.2.1 rfl rfl _ rfl rfl ?_)|(refine dI HJ5.out.1.2.1 rfl (us:=(aC s k nm n x0 x1 x2 x3 x4 x5 x6 x7 p a tb PR)) rfl (aS ..) rfl _ _ rfl rfl rfl ?_;intro w9 HU9 HM9));refine bodyPost_ret (fM rfl _ _ (w.heap.size+1) _ rfl rfl HU9) rfl ⟨by rw[HA.out,HQ.out,HR.out],HM9.2 _ _ (ze _) HJ5.out.1.2.2⟩
 have hem:=aX (show 0<Up.size by omega);have HA:Hid (PP=ZA):=by show _=_;rw[HA1.out,if_neg hu]
 have CB2:Hid (∀W,Calls prog 176 #[L a,L Up] W fun e w'=>e=.returned (L PB)/\Below W.heap.size W w'):=CB.out om;clear HA1 CB hu;have c13:=HJ5.out.1.1.1 13 _ rfl;go_wp2_with fail;refine j4 CB2 fun w6 b6=>?_
 have HJ6:Hid (PJ w V (aC s k nm n x0 x1 x2 x3 x4 x5 x6 x7 p a q r) (aC s k nm n x0 x1 x2 x3 x4 x5 x6 x7 p a tb PR) w6):=HJ5.out.later b6;clear b6 HJ5 CB2 c13;go_wp2_with fail;refine j6 (CQ.out _ HJ6.out.1.2.2) fun w7 b7=>?_
 have h7:=HJ6.out.later b7;have c13:=h7.2.1.1 13 _ rfl;have f13:=h7.2.1.2.1 13;have HJ8:Hid (PJ w V (aC s k nm n x0 x1 x2 x3 x4 x5 x6 x7 p a q r) (aC s k nm n x0 x1 x2 x3 x4 x5 x6 x7 p PP tb PR) (w7.setCell ⟨V,13,none⟩ (L PP))):=h7.set 13 (by simp[aC]) _;clear b7 h7 HJ6 CQ
 go_upto_region 8 with fail
 generalize (w7.setCell ⟨V,13,none⟩ (L PP))=w8 at HJ8⊢;clear c13 f13 hem;go_wp2_with (first|(refine bU HJ8.out.2.1 rfl rfl _ rfl rfl ?_)|(refine dI HJ8.out.1.2.1 rfl (us:=(aC s k nm n x0 x1 x2 x3 x4 x5 x6 x7 p PP tb PR)) rfl (aS ..) rfl _ _ rfl rfl rfl ?_;intro w9 HU9 HM9));refine bodyPost_ret (fM rfl _ _ (w.heap.size+1) _ rfl rfl HU9) rfl ⟨by rw[HA.out,HQ.out,HR.out],HM9.2 _ _ (ze _) HJ8.out.1.2.2⟩
end
section
open Go.RowKit
set_option linter.unusedVariables false
set_option linter.unusedSimpArgs false
theorem Bw(b:UV)(l:List UInt8):mH b l=⟨b.s,b.h,b.p,(mH b l).a,(mH b l).q,(mH b l).r⟩:=by
 cases l with
 |nil=>rfl
 |cons c r=>
  rw[kF];split
  .rfl
  rfl
theorem Fg{b:UV}{t:ByteArray}(h:t.size=0):mH b t.data.toList=b:=by
 rw[List.eq_nil_of_length_eq_zero (show t.data.toList.length=0 by simpa using h)];rfl
theorem Fh{b:UV}{t:ByteArray}(h0:0<t.size)(h:t[0].toNat=63):mH b t.data.toList=⟨b.s,b.h,b.p,b.a,true,plB 2 (t.extract 1 t.size)⟩:=by
 have e:=gC t 0 h0;rw[zh]at e;rw[e,kF,if_pos (UInt8.toNat_inj.1 (show t[0].toNat=(63:UInt8).toNat from h)),<-iL,sL]
theorem I9{b:UV}{t:ByteArray}(h0:0<t.size)(h:t[0].toNat≠63)(hs:slB t[0]=true):mH b t.data.toList=⟨b.s,b.h,b.p,nP t,tZ t,lR t⟩:=by
 have e:=gC t 0 h0;rw[zh]at e;rw[<-NH]
 conv=>lhs;rw[e]
 rw[kF,if_neg (fun h1=>h (by rw[h1];rfl)),if_pos hs,<-e]
theorem Ia{b:UV}{t:ByteArray}(h0:0<t.size)(h:t[0].toNat≠63)(hs:slB t[0]=false):mH b t.data.toList=⟨b.s,b.h,b.p,nP (upT b.a++t),tZ (upT b.a++t),lR (upT b.a++t)⟩:=by
 have e:=gC t 0 h0;rw[zh]at e;rw[<-NH];have e2:(upT b.a++t).data.toList=toL (upT b.a)++t.data.toList:=by unfold toL;simp[ByteArray.data_append]
 rw[e2]
 conv=>lhs;rw[e]
 rw[kF,if_neg (fun h1=>h (by rw[h1];rfl)),if_neg (by rw[hs];decide),<-e]
def PB(w:World)(row:List Value)(W:World):Prop:=UAt W w.heap.size row/\(∃us:List Value,us.length=16/\UAt W (w.heap.size+1) us)/\Below w.heap.size w W
theorem PA.any{w:World}{row:List Value}{W:World}(h:PA w row W):PB w row W:=⟨h.1,⟨_,rfl,h.2.1⟩,h.2.2⟩
theorem PB.later{w:World}{row:List Value}{W W':World}(h:PB w row W)(hb:Below W.heap.size W W'):PB w row W':=by
 obtain ⟨h1,⟨us,hl,h2⟩,h3⟩:=h;exact ⟨h1.below hb,⟨us,hl,h2.below hb⟩,h3.trans (hb.mono h3.size)⟩
theorem PB.stored{w:World}{row us:List Value}{W:World}(h:PB w row W)(hm:us.length=16):PB w row (W.setCells (w.heap.size+1) 0 us.toArray.toList)/\UAt (W.setCells (w.heap.size+1) 0 us.toArray.toList) (w.heap.size+1) us:=by
 obtain ⟨h1,⟨vs,hl,h2⟩,h3⟩:=h;have hs:=fW h2 hl hm;exact ⟨⟨(bS _ _ _).1 _ _ om h1,⟨us,hm,hs⟩,(bS _ _ _).2 _ _ (ze _) h3⟩,hs⟩
theorem PB.there{w:World}{row:List Value}{W:World}(h:PB w row W):W.there (w.heap.size+1) 0 16:=by
 obtain ⟨h1,⟨vs,hl,h2⟩,h3⟩:=h;exact h2.there 0 16 om
end
section
open Go.RowKit
attribute [local go_sem↓] Go.wp_at_zero Go.wp_at_succ
theorem J0{u:UV}(h:u.h.z.length=8):(MI u).2.h.z.length=8:=by
 unfold MI;split
 .exact h
 rfl
theorem FR(s p:Int)(a r:List UInt8):(tK s p a r).2.h.z.length=8:=by
 unfold tK;split
 .exact J0 (iT _)
 rfl
theorem iW(l:List UInt8):(cG l).2.h.z.length=8:=by
 unfold cG;split
 .rfl
 unfold sB;split
 .rfl
 unfold uP zN;split
 .rfl
 unfold MJ;split
 .exact FR _ _ _ _
 split
 .exact FR _ _ _ _
 rfl
theorem kG(u:UV)(h:u.h.z.length=8): ∃(s k n p:Int) (nm a r:ByteArray) (q:Bool) (x0 x1 x2 x3 x4 x5 x6 x7:Int),u=⟨s,⟨k,nm,n,[x0,x1,x2,x3,x4,x5,x6,x7]⟩,p,a,q,r⟩:=by
 obtain ⟨s,⟨k,nm,n,z⟩,p,a,q,r⟩:=u
 match z,h with
 |[x0,x1,x2,x3,x4,x5,x6,x7],_=>exact ⟨s,k,n,p,nm,a,r,q,x0,x1,x2,x3,x4,x5,x6,x7,rfl⟩
theorem iG(s k n p:Int)(nm a r:ByteArray)(q:Bool)(x0 x1 x2 x3 x4 x5 x6 x7:Int):rD ⟨s,⟨k,nm,n,[x0,x1,x2,x3,x4,x5,x6,x7]⟩,p,a,q,r⟩=H (aC s k nm n x0 x1 x2 x3 x4 x5 x6 x7 p a q r).toArray:=rfl
theorem PU.set{w:World}{row:List Value}{W:World}{C:Nat}(h:PU w row W)(hC:w.heap.size<C)(j:Nat)(v:Value):PU w row (W.setCell ⟨C,j,none⟩ v):=⟨h.1.other om j v,h.2.setCell (p:=⟨C,j,none⟩) (by show _<=C;omega) v⟩
theorem FS(W:World)(o1 o2 o3 o4:Obj):Below W.heap.size W ((((W.alloc o1).alloc o2).alloc o3).alloc o4):=
 ((((zf _ W).alloc (zd _) _).alloc j2 _).alloc (by simp;omega) _).alloc (by simp;omega) _
def SN(w:World)(NB:Nat)(c:Int)(W:World):Prop:=PU w aY W/\UAt W NB [I J c]/\w.heap.size<NB
theorem SN.drew{w:World}{NB:Nat}{c:Int}{W:World}(h:SN w NB c W):SN w NB c W.drew:=⟨h.1.drew,h.2⟩
theorem SN.stored{w:World}{NB:Nat}{c:Int}{W:World}(h:SN w NB c W):SN w NB c (W.setCells w.heap.size 0 aY.toArray.toList):=by
 have hm:=bS (C:=w.heap.size) aY.toArray.toList 0 W;have h3:=h.2.2;exact ⟨⟨fW h.1.1 rfl rfl,hm.2 _ _ (zd _) h.1.2⟩,hm.1 _ _ om h.2.1,h3⟩
theorem FT{w w':World}(h:LJ w)(hb:Below w.heap.size w w'):LJ w':=cell_later hb h
theorem NM(t:ByteArray)(w:World)(hs:t.size<=1099511627776)(hT:Lib.Utf8Tabs 12 13 w)(hP:Pow w)(hD:bK w)(hM:qE w)(hK:gG w)(hE:LJ w):Calls prog 18 #[L t] w fun e w'=>e=.returned (.tuple #[rD (cG t.data.toList).2,I J (cG t.data.toList).1])/\Below w.heap.size w w':=by
 have CR:Hid (∀W,Below w.heap.size w W->CB 46 #[L t] W (.tuple #[rD (cG t.data.toList).2,WE (cG t.data.toList).1])):=fun W hb=>SX t W hs (bW hT hb) (cN hP hb) (aT hD hb) (iM hM hb) (hK.later hb)
 have HER:Hid (∀W,Below w.heap.size w W->LJ W):=fun W hb=>FT hE hb
 have hrt:=tC t.data.toList;obtain ⟨s,k,n,p,nm,a,r,q,x0,x1,x2,x3,x4,x5,x6,x7,hu⟩:=kG _ (iW t.data.toList);have HN:Hid ((cG t.data.toList).1≠0->(aC s k nm n x0 x1 x2 x3 x4 x5 x6 x7 p a q r)=aY):=fun h=>by
  rcases hrt with ⟨_,_,h3⟩|⟨h3,_⟩
  .rw[hu]at h3
   have e:=congrArg ZD h3;exact e
  exact absurd h3 h
 rw[hu,iG]at CR⊢;generalize (cG t.data.toList).1=c at CR HN⊢;clear hT hP hD hM hK hE hrt hu;obtain ⟨O,hO⟩: ∃O,O=w.alloc (Y #[I J 0,I J 0,L ⟨#[]⟩,I J 0,I J 0,I J 0,I J 0,I J 0,I J 0,I J 0,I J 0,I J 0,I J 0,L ⟨#[]⟩,Z false,L ⟨#[]⟩] 28):=⟨_,rfl⟩;have HU:Hid (PU w aY O):=by
  rw[hO];exact PU.new w _ _
 go_enter func18,ntmps18
 go_upto_region 1 with fail
 rw[<-hO];clear hO;go_wp2_with fail;refine (CR.out _ HU.out.2).mono ?_;rintro e w1 ⟨rfl,b1⟩;have HU1:Hid (PU w aY w1):=HU.out.later b1;clear b1 HU CR;have HU1a:Hid (PU w aY (w1.alloc (Y #[I J 0,I J 0,L ⟨#[]⟩,I J 0,I J 0,I J 0,I J 0,I J 0,I J 0,I J 0,I J 0,I J 0,I J 0,L ⟨#[]⟩,Z false,L ⟨#[]⟩] 28))):=HU1.out.later ((zf _ _).alloc (zd _) _);have hlt:w.heap.size<w1.heap.size:=HU1.out.1.2.2
 go_upto_region 2 with (refine dI (UAt.new w1 _ _) rfl (us:=aC s k nm n x0 x1 x2 x3 x4 x5 x6 x7 p a q r) rfl (aS ..) rfl _ _ rfl rfl rfl ?_;intro w2 HUh HMh)
 have HU2:Hid (PU w aY w2):=HU1a.out.moved hlt HMh;have HV2:Hid (UAt w2 w1.heap.size (aC s k nm n x0 x1 x2 x3 x4 x5 x6 x7 p a q r)):=HUh;clear HUh HMh HU1a HU1;generalize w1.heap.size=V at HV2 hlt⊢;have HU3:Hid (PU w aY (w2.alloc (Y #[I J 0] 69))):=HU2.out.later ((zf _ _).alloc (zd _) _);have HV3:Hid (UAt (w2.alloc (Y #[I J 0] 69)) V (aC s k nm n x0 x1 x2 x3 x4 x5 x6 x7 p a q r)):=HV2.out.below ((zf _ _).alloc (zd _) _);have HN3:Hid (UAt (w2.alloc (Y #[I J 0] 69)) w2.heap.size [I J 0]):=UAt.new w2 _ _;have hlt2:w.heap.size<w2.heap.size:=HU2.out.1.2.2
 go_upto_region 3 with fail
 clear HU2 HV2;generalize (w2.alloc (Y #[I J 0] 69))=w3 at HU3 HV3 HN3⊢;generalize w2.heap.size=NB at HN3 hlt2⊢
 by_cases hc:c=0
 .subst hc
  go_wp2_with fail;refine j5 (Hj _ _) ?_;go_wp2_with (first|(refine bU HV3.out rfl rfl _ rfl rfl ?_)|(refine dI HU3.out.1 rfl (us:=aC s k nm n x0 x1 x2 x3 x4 x5 x6 x7 p a q r) rfl (aS ..) rfl _ _ rfl rfl rfl ?_;intro w9 HU9 HM9));refine bodyPost_ret (cB rfl _ _ w.heap.size (I J 0) _ rfl rfl rfl HU9) rfl ⟨rfl,HM9.2 _ _ (zd _) HU3.out.2⟩
 rw[HN.out hc,YX hc];go_wp2_with fail;refine (Hm c NB _ _ (HER.out _ HU3.out.2) (HN3.out.1 0 _ rfl) (HN3.out.2.1 0)).mono ?_;rintro e w4 ⟨rfl,hw4⟩;have hn4:SN w NB c w4:=by
  rw[hw4];exact ⟨(HU3.out.later (FS w3 _ _ _ _)).set hlt2 0 _,(HN3.out.below (FS w3 _ _ _ _)).set 0 de _,hlt2⟩
 clear hw4
 go_upto_region 4 with fail
 refine wp_region_held_drew (S:=SN w NB c) kr (SN.drew hn4) (fun hH=> ?_);clear hn4;refine wpAnyH_take (i:=0) (v:=H aY.toArray) rfl kr kr kr (fun _ _ _ h=>h) (Or.inl ⟨by rfl,?_⟩) hH ?_
 .intro W hW
  kernel_rfl
 refine wpAnyH_take (i:=1) (v:=.pointer (some ⟨NB,0,none⟩)) rfl kr kr kr (fun _ _ _ h=>h) (Or.inl ⟨by rfl,?_⟩) hH ?_
 .intro W hW
  kernel_rfl
 refine wpAnyH_take (i:=2) (v:=I J c) rfl kr kr kr (fun _ _ _ h=>h) (Or.inl ⟨by rfl,?_⟩) hH ?_
 .intro W hW
  have hcell:=hW.2.1.1 0 _ rfl;clear hW;go_simp
 refine wpAnyH_ready (rs:=[3]) kr j2 (AllReadyH.cons rfl (fun K hK=> ?_) AllReadyH.nil);rw[if_pos (by rfl)];refine wp_store_mid _ _ _ rfl w.heap.size 0 aY.toArray rfl rfl (hH.1.1.there 0 16 (by show 0+16<=16;decide)) infoUrl (aS ..) ?_;refine hK.out _ _ (SN.stored hH) (fun hZ=> ?_);clear hK K hH;generalize w4.drew.setCells w.heap.size 0 aY.toArray.toList=w9 at hZ⊢;refine wpAnyH_take (i:=4) (v:=I J c) rfl kr kr kr (fun _ _ _ h=>h) (Or.inl ⟨by rfl,?_⟩) hZ ?_
 .intro W hW
  kernel_rfl
 refine wpAnyH_done kr ?_ _;simp only[Act.put,List.getElem_toArray,List.getElem_cons_succ,List.getElem_cons_zero,List.setIfInBounds_toArray,List.set_cons_succ,List.set_cons_zero];go_wp2_with fail;refine bodyPost_ret (cB rfl _ _ w.heap.size (I J c) _ rfl rfl rfl hZ.1.1) rfl ⟨by rw[HN.out hc],hZ.1.2⟩
end
section
open Go.RowKit
set_option linter.unusedVariables false
set_option linter.unusedSimpArgs false
theorem TI(l:ByteArray):(nP l).size<=3*l.size+3:=by
 unfold nP;refine za (uO _) (za (nR _ _) ?_);have h1:(iU (oN l)).size<=l.size+1:=by
  unfold iU;split
  .rw[show (⟨#[47]⟩:ByteArray).size=1 from rfl];omega
  exact za (nQ l).1 (ze _)
 have h2:(⟨(eA (iU (oN l)).data.toList).toArray⟩:ByteArray).size=(iU (oN l)).size:=by
  show (eA (iU (oN l)).data.toList).toArray.size=_;rw[List.size_toArray,gT];simp
 omega
theorem TJ(l:ByteArray):(lR l).size<=3*l.size:=by
 unfold lR;refine za (nR _ _) ?_;have h1:(gL l).size<=l.size:=(nQ l).2;rw[zc];omega
theorem Fi(a:ByteArray):(upT a).size<=a.size:=by
 unfold upT;rw[zc];omega
theorem Bx(b:UV)(t:ByteArray)(ha:b.a.size<=1048576)(hr:b.r.size<=1048576)(ht:t.size<=2000):(mH b t.data.toList).a.size<=4194304/\(mH b t.data.toList).r.size<=4194304:=by
 by_cases h0:t.size=0
 .rw[Fg h0]
  exact ⟨za ha de,za hr de⟩
 have h1:0<t.size:=om
 by_cases h63:t[0].toNat=63
 .have e:=Fh (b:=b) h1 h63
  have ea:(mH b t.data.toList).a=b.a:=by rw[e]
  have er:(mH b t.data.toList).r=plB 2 (t.extract 1 t.size):=by rw[e]
  rw[ea,er];have h5:=nR 2 (t.extract 1 t.size);have h6:(t.extract 1 t.size).size<=t.size:=by rw[zc];omega
  exact ⟨za ha de,za h5 om⟩
 cases hs:slB t[0]with
 |true=>
  have e:=I9 (b:=b) h1 h63 hs;have ea:(mH b t.data.toList).a=nP t:=by rw[e]
  have er:(mH b t.data.toList).r=lR t:=by rw[e]
  rw[ea,er];exact ⟨za (TI t) om,za (TJ t) om⟩
 |false=>
  have e:=Ia (b:=b) h1 h63 hs;have ea:(mH b t.data.toList).a=nP (upT b.a++t):=by rw[e]
  have er:(mH b t.data.toList).r=lR (upT b.a++t):=by rw[e]
  rw[ea,er];have h4:=Fi b.a;have h5:(upT b.a++t).size<=1050576:=by rw[zg];omega
  exact ⟨za (TI _) om,za (TJ _) om⟩
theorem Fj{b:UV}{l:List UInt8}(h:uOk b=false):gB b l=(4,fJ):=by unfold gB;rw[if_neg (by rw[h];decide)]
theorem By{b:UV}{l:List UInt8}(h:uOk b=true)(hl:2000<l.length):gB b l=(1,fJ):=by unfold gB;rw[if_pos h,if_pos hl]
theorem Ib{b:UV}{l:List UInt8}(h:uOk b=true)(hl: ¬2000<l.length):gB b l=xP b (eC l):=by unfold gB;rw[if_pos h,if_neg hl]
theorem Fk{b:UV}{t:List UInt8}(h:pX t≠[]):xP b t=cG t:=by unfold xP;rw[if_pos h]
theorem Fl{b:UV}{t:List UInt8}(h:pX t=[])(h2:oP t=true):xP b t=cG (iX b.s++t):=by unfold xP;rw[if_neg (by rw[h];simp),if_pos h2]
theorem Fm{b:UV}{t:List UInt8}(h:pX t=[])(h2:oP t=false):xP b t=GR (mH b t):=by unfold xP;rw[if_neg (by rw[h];simp),if_neg (by rw[h2];decide)]
