/- UrlImpl2, UrlAny. -/
import Derived.Test.YtgcbaphbiaimoaaGreatDoorQF18
import Derived.Test.YtgcbaphbiaimoaaGreatDoorQF28
import Derived.Deep.RegionHeld3
import Derived.Deep.DrawnRows
import Derived.Laws.RangeAny
import Derived.WalkMore
set_option maxHeartbeats 8000000
set_option maxRecDepth 100000
namespace Go.Proofs.YtgcbaphbiaimoaaGreatDoor
open Go.Value renaming int->I,string->L,bool->F,agg->E
open Go.IntKind renaming i64->J
open Go.Ending renaming returned->Y
open Go.Obj renaming cells->H
open _root_.Go.RowKit.Below renaming refl->ze
open _root_.Bool renaming and_eq_true->za,or_eq_true->zi
open _root_.ByteArray renaming get!->zj,size_append->zd
open _root_.List renaming length_cons->zh,size_toArray->zg
open _root_.Nat renaming le_refl->zc
open _root_.Go.World renaming iterPos->zf
open _root_.Go.Proofs.Tryz
open _root_.Go.Proofs.YtgcbaphbiaimoaaGreatDoor.Tryz
section
open Go.RowKit
attribute [local go_sem↓] Go.wp_at_zero Go.wp_at_succ
def PU(w:World)(row:List Value)(W:World):Prop:=UAt W w.heap.size row/\Below w.heap.size w W
theorem PU.later{w:World}{row:List Value}{W W':World}(h:PU w row W)(hb:Below W.heap.size W W'):PU w row W':=⟨h.1.below hb,h.2.trans (hb.mono h.2.size)⟩
theorem PU.drew{w:World}{row:List Value}{W:World}(h:PU w row W):PU w row W.drew:=⟨h.1,h.2.drew⟩
theorem PU.new(w:World)(vs:Array Value)(t:TypeId):PU w vs.toList (w.alloc (.cells vs t)):=⟨UAt.new w vs t,(ze _ w).alloc (zc _) _⟩
theorem yX(s k n p:Int)(nm a r:ByteArray)(q:Bool)(x0 x1 x2 x3 x4 x5 x6 x7:Int)(w:World)(hs:nm.size<=1048576)(ha:a.size<=4194304)(hr:r.size<=4194304)(hT:Lib.Utf8Tabs 12 13 w)(hP:Pow w)(hK:gG w):Calls prog 13 #[E #[I J s,I J k,L nm,I J n,I J x0,I J x1,I J x2,I J x3,I J x4,I J x5,I J x6,I J x7,I J p,L a,F q,L r]] w fun e w'=>e=Y (F (uOk ⟨s,⟨k,nm,n,[x0,x1,x2,x3,x4,x5,x6,x7]⟩,p,a,q,r⟩))/\Below w.heap.size w w':=by
 have HX:Hid (uOk ⟨s,⟨k,nm,n,[x0,x1,x2,x3,x4,x5,x6,x7]⟩,p,a,q,r⟩=(!decide (cJ s=0)&&(hOk ⟨k,nm,n,[x0,x1,x2,x3,x4,x5,x6,x7]⟩&&(decide (1<=p/\p<=65535)&&(UZ a&&VA r q))))):=by
  show _=_;rw[V0];simp
 generalize uOk ⟨s,⟨k,nm,n,[x0,x1,x2,x3,x4,x5,x6,x7]⟩,p,a,q,r⟩=ans at HX⊢;have CS:Hid (∀W,CS 32 #[I J s] W (L (qU s))):=fun W=>jL s W
 have HE:Hid ((qU s).toList.isEmpty=decide (cJ s=0)):=Ee s;have CH:Hid (∀W,Below w.heap.size w W->CB 33 #[E #[I J k,L nm,I J n,I J x0,I J x1,I J x2,I J x3,I J x4,I J x5,I J x6,I J x7]] W (F (hOk ⟨k,nm,n,[x0,x1,x2,x3,x4,x5,x6,x7]⟩))):=fun W hb=>FA k n nm x0 x1 x2 x3 x4 x5 x6 x7 W hs (bW hT hb) (cN hP hb)
 have CP:Hid (∀W,Calls prog 34 #[I J p] W fun e w'=>e=Y (F (decide (1<=p/\p<=65535)))/\W=w'):=fun W=>EL p W
 have CA:Hid (∀W,Below w.heap.size w W->CB 35 #[L a] W (F (UZ a))):=fun W hb=>VH a W (hK.later hb) ha
 have CQ:Hid (∀W,Below w.heap.size w W->CB 36 #[L r,F q] W (F (VA r q))):=fun W hb=>RG r q W (hK.later hb) om
 generalize decide (cJ s=0)=b0 at HX HE;generalize hOk ⟨k,nm,n,[x0,x1,x2,x3,x4,x5,x6,x7]⟩=b1 at HX CH;generalize decide (1<=p/\p<=65535)=b2 at HX CP;generalize UZ a=b3 at HX CA;generalize VA r q=b4 at HX CQ;generalize qU s=S at CS HE;clear hT hP hK;obtain ⟨O,hO⟩: ∃O,O=w.alloc (H #[I J s,I J k,L nm,I J n,I J x0,I J x1,I J x2,I J x3,I J x4,I J x5,I J x6,I J x7,I J p,L a,F q,L r] 28):=⟨_,rfl⟩;have HU:Hid (PU w (aC s k nm n x0 x1 x2 x3 x4 x5 x6 x7 p a q r) O):=by
  rw[hO];exact PU.new w _ _
 have c0:=HU.out.1.1 0 _ rfl;go_enter func13,ntmps13
 go_upto_region 1 with fail
 rw[<-hO];clear hO;go_wp2_with fail;refine (CS.out _).mono ?_;rintro e w' ⟨rfl,rfl⟩;have he:=HE.out;clear CS HE c0
 cases b0 with
 |true=>
  have HA:Hid (ans=false):=by show _=_;rw[HX.out];rfl
  clear HX;go_wp2;go_ret;exact ⟨aG HA.out.symm,HU.out.2⟩
 |false=>
  have c1:=HU.out.1.1 1 _ rfl;have c2:=HU.out.1.1 2 _ rfl;have c3:=HU.out.1.1 3 _ rfl;have c4:=HU.out.1.1 4 _ rfl;have c5:=HU.out.1.1 5 _ rfl;have c6:=HU.out.1.1 6 _ rfl;have c7:=HU.out.1.1 7 _ rfl;have c8:=HU.out.1.1 8 _ rfl;have c9:=HU.out.1.1 9 _ rfl;have c10:=HU.out.1.1 10 _ rfl;have c11:=HU.out.1.1 11 _ rfl;go_wp2_with fail;refine (CH.out _ HU.out.2).mono ?_;rintro e w1 ⟨rfl,hb1⟩;clear c1 c2 c3 c4 c5 c6 c7 c8 c9 c10 c11;have HU1:Hid (PU w (aC s k nm n x0 x1 x2 x3 x4 x5 x6 x7 p a q r) w1):=HU.out.later hb1;clear hb1 HU CH he
  cases b1 with
  |false=>
   have HA:Hid (ans=false):=by show _=_;rw[HX.out];rfl
   clear HX;go_wp2;go_ret;exact ⟨aG HA.out.symm,HU1.out.2⟩
  |true=>
   have c12:=HU1.out.1.1 12 _ rfl;go_wp2_with fail;refine j3 CP ?_;clear CP c12
   cases b2 with
   |false=>
    have HA:Hid (ans=false):=by show _=_;rw[HX.out];rfl
    clear HX;go_wp2;go_ret;exact ⟨aG HA.out.symm,HU1.out.2⟩
   |true=>
    have c13:=HU1.out.1.1 13 _ rfl;go_wp2_with fail;refine (CA.out _ HU1.out.2).mono ?_;rintro e w2 ⟨rfl,hb2⟩;have HU2:Hid (PU w (aC s k nm n x0 x1 x2 x3 x4 x5 x6 x7 p a q r) w2):=HU1.out.later hb2;clear hb2 HU1 CA c13
    cases b3 with
    |false=>
     have HA:Hid (ans=false):=by show _=_;rw[HX.out];rfl
     clear HX;go_wp2;go_ret;exact ⟨aG HA.out.symm,HU2.out.2⟩
    |true=>
     have HA:Hid (ans=b4):=by show _=_;rw[HX.out];rfl
     have c14:=HU2.out.1.1 14 _ rfl;have c15:=HU2.out.1.1 15 _ rfl;clear HX;go_wp2_with fail;refine (CQ.out _ HU2.out.2).mono ?_;rintro e w3 ⟨rfl,hb3⟩;clear c14 c15;go_wp2;go_ret;exact ⟨aG HA.out.symm,HU2.out.2.trans (hb3.mono HU2.out.2.size)⟩
theorem G5{i:Int}(h0:0<=i)(h1:i<100000):Lib.itoa i=jS i.toNat:=by
 have key: ∀n:Nat,n<100000->Lib.decDigits n=jS n:=fun n hn=>by
  have st: ∀m,m<100000->10<=m->Lib.decDigits m=Lib.decDigits (m/10)++[dgU (m%10)]:=fun m _ h10=>by
   rw[Lib.decDigits,dif_neg om];rfl
  have b0: ∀m,m<10->Lib.decDigits m=jS m:=fun m hm=>by
   rw[Lib.decDigits,dif_pos hm];unfold jS;rw[if_pos hm];rfl
  have b1: ∀m,m<100->Lib.decDigits m=jS m:=fun m hm=>by
   by_cases h:m<10
   .exact b0 m h
   rw[st m om om,b0 _ om,<-sY om om]
  have b2: ∀m,m<1000->Lib.decDigits m=jS m:=fun m hm=>by
   by_cases h:m<10
   .exact b0 m h
   rw[st m om om,b1 _ om,<-sY om om]
  have b3: ∀m,m<10000->Lib.decDigits m=jS m:=fun m hm=>by
   by_cases h:m<10
   .exact b0 m h
   rw[st m om om,b2 _ om,<-sY om om]
  by_cases h:n<10
  .exact b0 n h
  rw[st n hn om,b3 _ om,<-sY om hn]
 unfold Lib.itoa;rw[if_neg om,key _ om]
theorem Z9(p:Int)(w:World)(h0:0<=p)(h1:p<100000)(hP:Pow w):Calls prog 44 #[I J p] w fun e w'=>e=Y (L (FC p))/\Below w.heap.size w w':=by
 refine (strconv_Itoa p om om w hP).mono ?_;rintro e w' ⟨rfl,k,os,rfl⟩;rw[G5 h0 h1];exact ⟨rfl,Lib.below_grow _ w (zc _) k os⟩
theorem gV(s k n p:Int)(nm a r:ByteArray)(q:Bool)(x0 x1 x2 x3 x4 x5 x6 x7:Int)(w:World)(hs:nm.size<=1048576)(ha:a.size<=4194304)(hr:r.size<=4194304)(hT:Lib.Utf8Tabs 12 13 w)(hP:Pow w)(hD:bK w)(hK:gG w):Calls prog 15 #[E #[I J s,I J k,L nm,I J n,I J x0,I J x1,I J x2,I J x3,I J x4,I J x5,I J x6,I J x7,I J p,L a,F q,L r]] w fun e w'=>e=Y (L ⟨(if uOk ⟨s,⟨k,nm,n,[x0,x1,x2,x3,x4,x5,x6,x7]⟩,p,a,q,r⟩=true then jT s (hTx ⟨k,nm,n,[x0,x1,x2,x3,x4,x5,x6,x7]⟩) p else []).toArray⟩)/\Below w.heap.size w w':=by
 have HOK:Hid (uOk ⟨s,⟨k,nm,n,[x0,x1,x2,x3,x4,x5,x6,x7]⟩,p,a,q,r⟩=true->cJ s≠0/\1<=p/\p<=65535):=fun h=>by
  rw[V0]at h;simp only[za,decide_eq_true_eq]at h;exact ⟨h.1,h.2.2.1⟩
 have CO:Hid (∀W,Below w.heap.size w W->CB 13 #[E (aC s k nm n x0 x1 x2 x3 x4 x5 x6 x7 p a q r).toArray] W (F (uOk ⟨s,⟨k,nm,n,[x0,x1,x2,x3,x4,x5,x6,x7]⟩,p,a,q,r⟩))):=fun W hb=>yX s k n p nm a r q x0 x1 x2 x3 x4 x5 x6 x7 W hs ha hr (bW hT hb) (cN hP hb) (hK.later hb)
 have CH:Hid (∀W,Below w.heap.size w W->CB 43 #[E #[I J k,L nm,I J n,I J x0,I J x1,I J x2,I J x3,I J x4,I J x5,I J x6,I J x7]] W (L (hTx ⟨k,nm,n,[x0,x1,x2,x3,x4,x5,x6,x7]⟩))):=fun W hb=>MZ k n nm x0 x1 x2 x3 x4 x5 x6 x7 W hs (bW hT hb) (cN hP hb) (aT hD hb)
 have HPW:Hid (∀W,Below w.heap.size w W->Pow W):=fun W hb=>cN hP hb
 have hts:=SL (k:=k) (n:=n) (s:=nm) (x0:=x0) (x1:=x1) (x2:=x2) (x3:=x3) (x4:=x4) (x5:=x5) (x6:=x6) (x7:=x7) hs;have HZN:Hid (uOk ⟨s,⟨k,nm,n,[x0,x1,x2,x3,x4,x5,x6,x7]⟩,p,a,q,r⟩=false->(⟨#[]⟩:ByteArray)=⟨(if uOk ⟨s,⟨k,nm,n,[x0,x1,x2,x3,x4,x5,x6,x7]⟩,p,a,q,r⟩=true then jT s (hTx ⟨k,nm,n,[x0,x1,x2,x3,x4,x5,x6,x7]⟩) p else []).toArray⟩):=fun h=>by rw[h];rfl
 have HZY:Hid (uOk ⟨s,⟨k,nm,n,[x0,x1,x2,x3,x4,x5,x6,x7]⟩,p,a,q,r⟩=true->(⟨(jT s (hTx ⟨k,nm,n,[x0,x1,x2,x3,x4,x5,x6,x7]⟩) p).toArray⟩:ByteArray)=⟨(if uOk ⟨s,⟨k,nm,n,[x0,x1,x2,x3,x4,x5,x6,x7]⟩,p,a,q,r⟩=true then jT s (hTx ⟨k,nm,n,[x0,x1,x2,x3,x4,x5,x6,x7]⟩) p else []).toArray⟩):=fun h=>by rw[h];rfl
 generalize (⟨(if uOk ⟨s,⟨k,nm,n,[x0,x1,x2,x3,x4,x5,x6,x7]⟩,p,a,q,r⟩=true then jT s (hTx ⟨k,nm,n,[x0,x1,x2,x3,x4,x5,x6,x7]⟩) p else []).toArray⟩:ByteArray)=ZZ at HZN HZY⊢;generalize hTx ⟨k,nm,n,[x0,x1,x2,x3,x4,x5,x6,x7]⟩=T at CH hts HZY;generalize uOk ⟨s,⟨k,nm,n,[x0,x1,x2,x3,x4,x5,x6,x7]⟩,p,a,q,r⟩=b at HOK CO HZN HZY;clear hT hP hD hK;obtain ⟨O,hO⟩: ∃O,O=w.alloc (H #[I J s,I J k,L nm,I J n,I J x0,I J x1,I J x2,I J x3,I J x4,I J x5,I J x6,I J x7,I J p,L a,F q,L r] 28):=⟨_,rfl⟩;have HU:Hid (PU w (aC s k nm n x0 x1 x2 x3 x4 x5 x6 x7 p a q r) O):=by
  rw[hO];exact PU.new w _ _
 go_enter func15,ntmps15
 go_upto_region 1 with fail
 rw[<-hO];clear hO;go_wp2_with (refine bU HU.out.1 rfl rfl _ rfl rfl ?_);refine (CO.out _ HU.out.2).mono ?_;rintro e w1 ⟨rfl,hb1⟩;have HU1:Hid (PU w (aC s k nm n x0 x1 x2 x3 x4 x5 x6 x7 p a q r) w1):=HU.out.later hb1;clear hb1 HU CO
 cases b with
 |false=>
  have HZ:Hid ((⟨#[]⟩:ByteArray)=ZZ):=HZN.out rfl;clear HZN HZY;go_wp2;go_ret;exact ⟨cA HZ.out,HU1.out.2⟩
 |true=>
  have HZ1:Hid ((⟨(jT s T p).toArray⟩:ByteArray)=ZZ):=HZY.out rfl;clear HZN HZY;obtain ⟨hd0,hp0,hp1⟩:=HOK.out rfl;have hst:=VG hd0;have CS:Hid (∀W,CS 32 #[I J s] W (L ⟨(iX s).toArray⟩)):=fun W=>by
   have h:=jL s W;rw[hst]at h;exact h
  have CD:Hid (∀W,Calls prog 17 #[I J s] W fun e w'=>e=Y (I J (cJ s))/\W=w'):=fun W=>rG s W
  have CT:Hid (∀W,Below w.heap.size w W->CB 44 #[I J p] W (L (FC p))):=fun W hb=>Z9 p W om om (HPW.out W hb)
  have hss:=yW s;have hds:=FD p;have H0:Hid (jH s p=[]->(⟨(iX s).toArray⟩:ByteArray)++⟨#[47,47]⟩++T=⟨(jT s T p).toArray⟩):=fun h=>by
   apply bX;show toL _=jT s T p;unfold jT;rw[h];simp[toL]
  have H1:Hid (jH s p=58::jS p.toNat->(⟨(iX s).toArray⟩:ByteArray)++⟨#[47,47]⟩++T++⟨#[58]⟩++FC p=⟨(jT s T p).toArray⟩):=fun h=>by
   apply bX;show toL _=jT s T p;unfold jT;rw[h];simp[toL,FC]
  have HPT:Hid ((p=cJ s->jH s p=[])/\(¬p=cJ s->jH s p=58::jS p.toNat)):=by
   unfold jH;exact ⟨fun h=>if_pos h,fun h=>if_neg h⟩
  generalize (⟨(iX s).toArray⟩:ByteArray)=S at CS hss H0 H1;generalize FC p=D at CT hds H1;rw[HZ1.out]at H0 H1;clear HZ1;have HDP:Hid ((p=cJ s)∨ ¬(p=cJ s)):=Decidable.em _;generalize cJ s=dp at CD HPT HDP;generalize jH s p=pt at H0 H1 HPT;clear hd0 hst HOK
  go_upto_region 3 with fail
  go_cut [3] (fun v wx=>v=L (S++⟨#[47,47]⟩++T)/\PU w (aC s k nm n x0 x1 x2 x3 x4 x5 x6 x7 p a q r) wx)
  case first=>
   have hu:=HU1.out.1.1;have c0:=hu 0 _ rfl;have c1:=hu 1 _ rfl;have c2:=hu 2 _ rfl;have c3:=hu 3 _ rfl;have c4:=hu 4 _ rfl;have c5:=hu 5 _ rfl;have c6:=hu 6 _ rfl;have c7:=hu 7 _ rfl;have c8:=hu 8 _ rfl;have c9:=hu 9 _ rfl;have c10:=hu 10 _ rfl;have c11:=hu 11 _ rfl;clear hu;have HUD:Hid (PU w (aC s k nm n x0 x1 x2 x3 x4 x5 x6 x7 p a q r) w1.drew):=HU1.out.drew
   go_region_with (first|(go_at_call 32;refine (CS.out _).mono ?_;rintro e wq ⟨rfl,rfl⟩)|(go_at_call 43;refine (CH.out _ HUD.out.2).mono ?_;rintro e wq ⟨rfl,hbq⟩;have HUQ:PU w (aC s k nm n x0 x1 x2 x3 x4 x5 x6 x7 p a q r) wq:=HUD.out.later hbq;have g0:=HUQ.1.1 0 _ rfl;clear hbq))
   all_goals go_wp2_with fail
   all_goals go_meet
   all_goals exact ⟨rfl,HUQ⟩
  obtain ⟨rfl,hu2⟩:=hcut;have HU2:Hid (PU w (aC s k nm n x0 x1 x2 x3 x4 x5 x6 x7 p a q r) wc):=hu2;clear hu2 HU1 CS CH;have hd2:(⟨#[47,47]⟩:ByteArray).size=2:=rfl;have hs2:(S++⟨#[47,47]⟩++T).size<=1048584:=by rw[zd,zd,hd2];omega
  generalize S++⟨#[47,47]⟩++T=S2 at hs2 H0 H1⊢;clear hts hss hd2 hs;have c0:=HU2.out.1.1 0 _ rfl;have c12:=HU2.out.1.1 12 _ rfl
  go_upto_region 4 with fail
  have HUD:Hid (PU w (aC s k nm n x0 x1 x2 x3 x4 x5 x6 x7 p a q r) wc.drew):=HU2.out.drew
  go_cut [20] (fun v wx=>v=F (p==dp)/\PU w (aC s k nm n x0 x1 x2 x3 x4 x5 x6 x7 p a q r) wx)
  case first=>
   go_region_with (go_at_call 17;refine j3 CD ?_)
   all_goals go_wp2_with fail
   all_goals go_meet
   all_goals exact ⟨rfl,HUD.out⟩
  obtain ⟨rfl,hu3⟩:=hcut;have HU3:Hid (PU w (aC s k nm n x0 x1 x2 x3 x4 x5 x6 x7 p a q r) wc):=hu3;clear HUD HU2 c0 c12 CD hu3
  rcases HDP.out with h|h
  .have hq:(p==dp)=true:=by rw[h];exact beq_self_eq_true _
   have HZ:Hid (S2=ZZ):=H0.out (HPT.out.1 h);rw[hq];clear H0 H1 HPT hq HDP h CT;go_wp2;go_ret;exact ⟨cA HZ.out,HU3.out.2⟩
  have hq:(p==dp)=false:=beq_eq_false_iff_ne.2 h;have HZ:Hid (S2++⟨#[58]⟩++D=ZZ):=H1.out (HPT.out.2 h);rw[hq];have hd1:(⟨#[58]⟩:ByteArray).size=1:=rfl;have c12:=HU3.out.1.1 12 _ rfl;clear H0 H1 HPT hq HDP h;go_wp2_with fail;refine (CT.out _ HU3.out.2).mono ?_;rintro e wd ⟨rfl,bd⟩;have BD:Below w.heap.size w wd:=HU3.out.2.trans (bd.mono HU3.out.2.size);clear bd c12;go_wp2;go_ret;exact ⟨cA HZ.out,BD⟩
theorem YU(u:UV):fF u=jT u.s (hTx u.h) u.p:=rfl
theorem NA{k n:Int}{nm:ByteArray}{x0 x1 x2 x3 x4 x5 x6 x7:Int}(sch pn:Int)(hnm:nm.size<=1048576):(jT sch (hTx ⟨k,nm,n,[x0,x1,x2,x3,x4,x5,x6,x7]⟩) pn).length<=1048600:=by
 have h1:=SL (k:=k) (n:=n) (s:=nm) (x0:=x0) (x1:=x1) (x2:=x2) (x3:=x3) (x4:=x4) (x5:=x5) (x6:=x6) (x7:=x7) hnm;have h2:=yW sch;have h3:(⟨(iX sch).toArray⟩:ByteArray).size=(iX sch).length:=zg;have h4:(jH sch pn).length<=6:=by
  unfold jH;split
  .decide
  have h5:=FD pn;have h6:(FC pn).size=(jS pn.toNat).length:=zg;rw[zh];omega
 have h7:(toL (hTx ⟨k,nm,n,[x0,x1,x2,x3,x4,x5,x6,x7]⟩)).length=(hTx ⟨k,nm,n,[x0,x1,x2,x3,x4,x5,x6,x7]⟩).size:=by simp[toL]
 unfold jT;simp only[List.length_append,zh];omega
theorem xI{u:UV}(h:uOk u=true):uTx u=fF u++dD u:=by unfold uTx;rw[if_pos h]
theorem Aa{u:UV}(h:uOk u=false):uTx u=[]:=by unfold uTx;rw[if_neg (by rw[h];decide)]
theorem lI(s k n p:Int)(nm a r:ByteArray)(q:Bool)(x0 x1 x2 x3 x4 x5 x6 x7:Int)(w:World)(hs:nm.size<=1048576)(ha:a.size<=4194304)(hr:r.size<=4194304)(hT:Lib.Utf8Tabs 12 13 w)(hP:Pow w)(hD:bK w)(hK:gG w):Calls prog 12 #[E #[I J s,I J k,L nm,I J n,I J x0,I J x1,I J x2,I J x3,I J x4,I J x5,I J x6,I J x7,I J p,L a,F q,L r]] w fun e w'=>e=Y (L ⟨(uTx ⟨s,⟨k,nm,n,[x0,x1,x2,x3,x4,x5,x6,x7]⟩,p,a,q,r⟩).toArray⟩)/\Below w.heap.size w w':=by
 have CO:Hid (∀W,Below w.heap.size w W->CB 13 #[E (aC s k nm n x0 x1 x2 x3 x4 x5 x6 x7 p a q r).toArray] W (F (uOk ⟨s,⟨k,nm,n,[x0,x1,x2,x3,x4,x5,x6,x7]⟩,p,a,q,r⟩))):=fun W hb=>yX s k n p nm a r q x0 x1 x2 x3 x4 x5 x6 x7 W hs ha hr (bW hT hb) (cN hP hb) (hK.later hb)
 have CG:Hid (∀W,Below w.heap.size w W->CB 15 #[E #[I J s,I J k,L nm,I J n,I J x0,I J x1,I J x2,I J x3,I J x4,I J x5,I J x6,I J x7,I J p,L a,F q,L r]] W (L ⟨(if uOk ⟨s,⟨k,nm,n,[x0,x1,x2,x3,x4,x5,x6,x7]⟩,p,a,q,r⟩=true then jT s (hTx ⟨k,nm,n,[x0,x1,x2,x3,x4,x5,x6,x7]⟩) p else []).toArray⟩)):=fun W hb=>gV s k n p nm a r q x0 x1 x2 x3 x4 x5 x6 x7 W hs ha hr (bW hT hb) (cN hP hb) (aT hD hb) (hK.later hb)
 have hol:=NA (k:=k) (n:=n) (nm:=nm) (x0:=x0) (x1:=x1) (x2:=x2) (x3:=x3) (x4:=x4) (x5:=x5) (x6:=x6) (x7:=x7) s p hs;have HN:Hid (uOk ⟨s,⟨k,nm,n,[x0,x1,x2,x3,x4,x5,x6,x7]⟩,p,a,q,r⟩=false->(⟨#[]⟩:ByteArray)=⟨(uTx ⟨s,⟨k,nm,n,[x0,x1,x2,x3,x4,x5,x6,x7]⟩,p,a,q,r⟩).toArray⟩):=fun h=>by rw[Aa h]
 have HY:Hid (uOk ⟨s,⟨k,nm,n,[x0,x1,x2,x3,x4,x5,x6,x7]⟩,p,a,q,r⟩=true->(q=false->(⟨(jT s (hTx ⟨k,nm,n,[x0,x1,x2,x3,x4,x5,x6,x7]⟩) p).toArray⟩:ByteArray)++a=⟨(uTx ⟨s,⟨k,nm,n,[x0,x1,x2,x3,x4,x5,x6,x7]⟩,p,a,q,r⟩).toArray⟩)/\(q=true->(⟨(jT s (hTx ⟨k,nm,n,[x0,x1,x2,x3,x4,x5,x6,x7]⟩) p).toArray⟩:ByteArray)++a++⟨#[63]⟩++r=⟨(uTx ⟨s,⟨k,nm,n,[x0,x1,x2,x3,x4,x5,x6,x7]⟩,p,a,q,r⟩).toArray⟩)):=fun h=>by
  rw[xI h];constructor
  .intro hq
   subst hq;apply bX;show toL _=fF _++dD _;unfold dD;rw[YU];simp[toL]
  intro hq;subst hq;apply bX;show toL _=fF _++dD _;unfold dD;rw[YU];simp[toL]
 have hos:(⟨(jT s (hTx ⟨k,nm,n,[x0,x1,x2,x3,x4,x5,x6,x7]⟩) p).toArray⟩:ByteArray).size<=1048600:=by rw[dO];exact hol
 clear hol hT hP hD hK;generalize (⟨(uTx ⟨s,⟨k,nm,n,[x0,x1,x2,x3,x4,x5,x6,x7]⟩,p,a,q,r⟩).toArray⟩:ByteArray)=Z at HN HY⊢;generalize uOk ⟨s,⟨k,nm,n,[x0,x1,x2,x3,x4,x5,x6,x7]⟩,p,a,q,r⟩=b at CO CG HN HY;obtain ⟨O,hO⟩: ∃O,O=w.alloc (H #[I J s,I J k,L nm,I J n,I J x0,I J x1,I J x2,I J x3,I J x4,I J x5,I J x6,I J x7,I J p,L a,F q,L r] 28):=⟨_,rfl⟩;have HU:Hid (PU w (aC s k nm n x0 x1 x2 x3 x4 x5 x6 x7 p a q r) O):=by
  rw[hO];exact PU.new w _ _
 go_enter func12,ntmps12
 go_upto_region 1 with fail
 rw[<-hO];clear hO;go_wp2_with (refine bU HU.out.1 rfl rfl _ rfl rfl ?_);refine (CO.out _ HU.out.2).mono ?_;rintro e w1 ⟨rfl,hb1⟩;have HU1:Hid (PU w (aC s k nm n x0 x1 x2 x3 x4 x5 x6 x7 p a q r) w1):=HU.out.later hb1;clear hb1 HU CO
 cases b with
 |false=>
  have HZ:Hid ((⟨#[]⟩:ByteArray)=Z):=HN.out rfl;clear HN HY;go_wp2;go_ret;exact ⟨cA HZ.out,HU1.out.2⟩
 |true=>
  have HY2:=HY.out rfl;have HYA:Hid (q=false->(⟨(jT s (hTx ⟨k,nm,n,[x0,x1,x2,x3,x4,x5,x6,x7]⟩) p).toArray⟩:ByteArray)++a=Z):=HY2.1;have HYB:Hid (q=true->(⟨(jT s (hTx ⟨k,nm,n,[x0,x1,x2,x3,x4,x5,x6,x7]⟩) p).toArray⟩:ByteArray)++a++⟨#[63]⟩++r=Z):=HY2.2;have CG2:Hid (∀W,Below w.heap.size w W->CB 15 #[E #[I J s,I J k,L nm,I J n,I J x0,I J x1,I J x2,I J x3,I J x4,I J x5,I J x6,I J x7,I J p,L a,F q,L r]] W (L ⟨(jT s (hTx ⟨k,nm,n,[x0,x1,x2,x3,x4,x5,x6,x7]⟩) p).toArray⟩)):=CG;clear HY2 HN HY CG;generalize (⟨(jT s (hTx ⟨k,nm,n,[x0,x1,x2,x3,x4,x5,x6,x7]⟩) p).toArray⟩:ByteArray)=G at CG2 HYA HYB hos
  go_upto_region 3 with fail
  go_cut [3] (fun v wx=>v=L (G++a)/\PU w (aC s k nm n x0 x1 x2 x3 x4 x5 x6 x7 p a q r) wx)
  case first=>
   have c0:=HU1.out.1.1 0 _ rfl;have c1:=HU1.out.1.1 1 _ rfl;have c2:=HU1.out.1.1 2 _ rfl;have c3:=HU1.out.1.1 3 _ rfl;have c4:=HU1.out.1.1 4 _ rfl;have c5:=HU1.out.1.1 5 _ rfl;have c6:=HU1.out.1.1 6 _ rfl;have c7:=HU1.out.1.1 7 _ rfl;have c8:=HU1.out.1.1 8 _ rfl;have c9:=HU1.out.1.1 9 _ rfl;have c10:=HU1.out.1.1 10 _ rfl;have c11:=HU1.out.1.1 11 _ rfl;have c12:=HU1.out.1.1 12 _ rfl;have c13:=HU1.out.1.1 13 _ rfl;have c14:=HU1.out.1.1 14 _ rfl;have c15:=HU1.out.1.1 15 _ rfl;have HUD:Hid (PU w (aC s k nm n x0 x1 x2 x3 x4 x5 x6 x7 p a q r) w1.drew):=HU1.out.drew
   go_region_with (go_at_call 15;refine (CG2.out _ HUD.out.2).mono ?_;rintro e wq ⟨rfl,hbq⟩;have HUQ:PU w (aC s k nm n x0 x1 x2 x3 x4 x5 x6 x7 p a q r) wq:=HUD.out.later hbq;have g13:=HUQ.1.1 13 _ rfl;clear hbq)
   all_goals go_wp2_with fail
   all_goals go_meet
   all_goals exact ⟨rfl,HUQ⟩
  obtain ⟨rfl,hu2⟩:=hcut;have HU2:Hid (PU w (aC s k nm n x0 x1 x2 x3 x4 x5 x6 x7 p a q r) wc):=hu2;clear hu2 HU1 CG2;have hs2:(G++a).size<=5242904:=by rw[zd];omega
  generalize G++a=G2 at HYA HYB hs2⊢;have c14:=HU2.out.1.1 14 _ rfl
  cases q with
  |false=>
   have HZ:Hid (G2=Z):=HYA.out rfl;clear HYA HYB;go_wp2;go_ret;exact ⟨cA HZ.out,HU2.out.2⟩
  |true=>
   have HZ:Hid (G2++⟨#[63]⟩++r=Z):=HYB.out rfl;have hd1:(⟨#[63]⟩:ByteArray).size=1:=rfl;have c15:=HU2.out.1.1 15 _ rfl;clear HYA HYB;go_wp2;go_ret;exact ⟨cA HZ.out,HU2.out.2⟩
theorem tY(s k n p:Int)(nm a r:ByteArray)(q:Bool)(x0 x1 x2 x3 x4 x5 x6 x7:Int)(w:World)(hs:nm.size<=1048576)(ha:a.size<=4194304)(hr:r.size<=4194304)(hT:Lib.Utf8Tabs 12 13 w)(hP:Pow w)(hD:bK w)(hK:gG w):Calls prog 16 #[E #[I J s,I J k,L nm,I J n,I J x0,I J x1,I J x2,I J x3,I J x4,I J x5,I J x6,I J x7,I J p,L a,F q,L r]] w fun e w'=>e=Y (L ⟨(if uOk ⟨s,⟨k,nm,n,[x0,x1,x2,x3,x4,x5,x6,x7]⟩,p,a,q,r⟩=true then dD ⟨s,⟨k,nm,n,[x0,x1,x2,x3,x4,x5,x6,x7]⟩,p,a,q,r⟩else []).toArray⟩)/\Below w.heap.size w w':=by
 have CT:Hid (∀W,Below w.heap.size w W->CB 12 #[E #[I J s,I J k,L nm,I J n,I J x0,I J x1,I J x2,I J x3,I J x4,I J x5,I J x6,I J x7,I J p,L a,F q,L r]] W (L ⟨(uTx ⟨s,⟨k,nm,n,[x0,x1,x2,x3,x4,x5,x6,x7]⟩,p,a,q,r⟩).toArray⟩)):=fun W hb=>lI s k n p nm a r q x0 x1 x2 x3 x4 x5 x6 x7 W hs ha hr (bW hT hb) (cN hP hb) (aT hD hb) (hK.later hb)
 have CG:Hid (∀W,Below w.heap.size w W->CB 15 #[E #[I J s,I J k,L nm,I J n,I J x0,I J x1,I J x2,I J x3,I J x4,I J x5,I J x6,I J x7,I J p,L a,F q,L r]] W (L ⟨(if uOk ⟨s,⟨k,nm,n,[x0,x1,x2,x3,x4,x5,x6,x7]⟩,p,a,q,r⟩=true then jT s (hTx ⟨k,nm,n,[x0,x1,x2,x3,x4,x5,x6,x7]⟩) p else []).toArray⟩)):=fun W hb=>gV s k n p nm a r q x0 x1 x2 x3 x4 x5 x6 x7 W hs ha hr (bW hT hb) (cN hP hb) (aT hD hb) (hK.later hb)
 have CP:Hid (∀W,CS 45 #[L ⟨(uTx ⟨s,⟨k,nm,n,[x0,x1,x2,x3,x4,x5,x6,x7]⟩,p,a,q,r⟩).toArray⟩,L ⟨(if uOk ⟨s,⟨k,nm,n,[x0,x1,x2,x3,x4,x5,x6,x7]⟩,p,a,q,r⟩=true then jT s (hTx ⟨k,nm,n,[x0,x1,x2,x3,x4,x5,x6,x7]⟩) p else []).toArray⟩] W (L ⟨(if uOk ⟨s,⟨k,nm,n,[x0,x1,x2,x3,x4,x5,x6,x7]⟩,p,a,q,r⟩=true then dD ⟨s,⟨k,nm,n,[x0,x1,x2,x3,x4,x5,x6,x7]⟩,p,a,q,r⟩else []).toArray⟩)):=fun W=>by
  refine (strings_TrimPrefix _ _ W).mono fun e w' h=>⟨?_,h.2.symm⟩
  rw[h.1]
  congr 3
  show (Lib.trimPrefix (uTx ⟨s,⟨k,nm,n,[x0,x1,x2,x3,x4,x5,x6,x7]⟩,p,a,q,r⟩) (if uOk ⟨s,⟨k,nm,n,[x0,x1,x2,x3,x4,x5,x6,x7]⟩,p,a,q,r⟩=true then jT s (hTx ⟨k,nm,n,[x0,x1,x2,x3,x4,x5,x6,x7]⟩) p else [])).toArray=_
  congr 1
  cases hb:uOk ⟨s,⟨k,nm,n,[x0,x1,x2,x3,x4,x5,x6,x7]⟩,p,a,q,r⟩with
  |false=>rw[Aa hb];rfl
  |true=>rw[xI hb];exact V1 _ _
 clear hT hP hD hK;generalize (⟨(uTx ⟨s,⟨k,nm,n,[x0,x1,x2,x3,x4,x5,x6,x7]⟩,p,a,q,r⟩).toArray⟩:ByteArray)=Z at CT CP;generalize (⟨(if uOk ⟨s,⟨k,nm,n,[x0,x1,x2,x3,x4,x5,x6,x7]⟩,p,a,q,r⟩=true then jT s (hTx ⟨k,nm,n,[x0,x1,x2,x3,x4,x5,x6,x7]⟩) p else []).toArray⟩:ByteArray)=G at CG CP;generalize (⟨(if uOk ⟨s,⟨k,nm,n,[x0,x1,x2,x3,x4,x5,x6,x7]⟩,p,a,q,r⟩=true then dD ⟨s,⟨k,nm,n,[x0,x1,x2,x3,x4,x5,x6,x7]⟩,p,a,q,r⟩else []).toArray⟩:ByteArray)=R at CP⊢;obtain ⟨O,hO⟩: ∃O,O=w.alloc (H #[I J s,I J k,L nm,I J n,I J x0,I J x1,I J x2,I J x3,I J x4,I J x5,I J x6,I J x7,I J p,L a,F q,L r] 28):=⟨_,rfl⟩;have HU1:Hid (PU w (aC s k nm n x0 x1 x2 x3 x4 x5 x6 x7 p a q r) O):=by
  rw[hO];exact PU.new w _ _
 go_enter func16,ntmps16
 go_upto_region 1 with fail
 rw[<-hO];clear hO;have c0:=HU1.out.1.1 0 _ rfl;have c1:=HU1.out.1.1 1 _ rfl;have c2:=HU1.out.1.1 2 _ rfl;have c3:=HU1.out.1.1 3 _ rfl;have c4:=HU1.out.1.1 4 _ rfl;have c5:=HU1.out.1.1 5 _ rfl;have c6:=HU1.out.1.1 6 _ rfl;have c7:=HU1.out.1.1 7 _ rfl;have c8:=HU1.out.1.1 8 _ rfl;have c9:=HU1.out.1.1 9 _ rfl;have c10:=HU1.out.1.1 10 _ rfl;have c11:=HU1.out.1.1 11 _ rfl;have c12:=HU1.out.1.1 12 _ rfl;have c13:=HU1.out.1.1 13 _ rfl;have c14:=HU1.out.1.1 14 _ rfl;have c15:=HU1.out.1.1 15 _ rfl;have hpd:PU w (aC s k nm n x0 x1 x2 x3 x4 x5 x6 x7 p a q r) O.drew:=HU1.out.drew
 go_region_with (first|(go_at_call 12;refine (CT.out _ ?_).mono ?_;exact (show PU w (aC s k nm n x0 x1 x2 x3 x4 x5 x6 x7 p a q r) _ by assumption).2;rintro e wq ⟨rfl,hbq⟩;have HUQ:PU w (aC s k nm n x0 x1 x2 x3 x4 x5 x6 x7 p a q r) wq:=PU.later (by assumption) hbq;have g0:=HUQ.1.1 0 _ rfl;have g1:=HUQ.1.1 1 _ rfl;have g2:=HUQ.1.1 2 _ rfl;have g3:=HUQ.1.1 3 _ rfl;have g4:=HUQ.1.1 4 _ rfl;have g5:=HUQ.1.1 5 _ rfl;have g6:=HUQ.1.1 6 _ rfl;have g7:=HUQ.1.1 7 _ rfl;have g8:=HUQ.1.1 8 _ rfl;have g9:=HUQ.1.1 9 _ rfl;have g10:=HUQ.1.1 10 _ rfl;have g11:=HUQ.1.1 11 _ rfl;have g12:=HUQ.1.1 12 _ rfl;have g13:=HUQ.1.1 13 _ rfl;have g14:=HUQ.1.1 14 _ rfl;have g15:=HUQ.1.1 15 _ rfl;clear hbq)|(go_at_call 15;refine (CG.out _ ?_).mono ?_;exact (show PU w (aC s k nm n x0 x1 x2 x3 x4 x5 x6 x7 p a q r) _ by assumption).2;rintro e wq ⟨rfl,hbq⟩;have HUQ:PU w (aC s k nm n x0 x1 x2 x3 x4 x5 x6 x7 p a q r) wq:=PU.later (by assumption) hbq;have g0:=HUQ.1.1 0 _ rfl;have g1:=HUQ.1.1 1 _ rfl;have g2:=HUQ.1.1 2 _ rfl;have g3:=HUQ.1.1 3 _ rfl;have g4:=HUQ.1.1 4 _ rfl;have g5:=HUQ.1.1 5 _ rfl;have g6:=HUQ.1.1 6 _ rfl;have g7:=HUQ.1.1 7 _ rfl;have g8:=HUQ.1.1 8 _ rfl;have g9:=HUQ.1.1 9 _ rfl;have g10:=HUQ.1.1 10 _ rfl;have g11:=HUQ.1.1 11 _ rfl;have g12:=HUQ.1.1 12 _ rfl;have g13:=HUQ.1.1 13 _ rfl;have g14:=HUQ.1.1 14 _ rfl;have g15:=HUQ.1.1 15 _ rfl;clear hbq)|(go_at_call 45;refine (CP.out _).mono ?_;rintro e wq ⟨rfl,rfl⟩))
 all_goals go_wp2_with fail
 all_goals go_ret
 all_goals exact ⟨rfl,(show PU w (aC s k nm n x0 x1 x2 x3 x4 x5 x6 x7 p a q r) _ by assumption).2⟩
end
section
open Go.RowKit
theorem SP(s:ByteArray)(pos:Nat)(h:pos<s.size)(ha:128<=(s[pos]'h).toNat):
  1<=(Utf8.decode s pos).2/\(∀j,j<(Utf8.decode s pos).2->128<=(s.get! (pos+j)).toNat)/\
  ((Utf8.decode s pos).1=65533∨(128<=(Utf8.decode s pos).1/\(Utf8.decode s pos).1<=1114111/\ ¬(55296<=(Utf8.decode s pos).1/\(Utf8.decode s pos).1<=57343))):=by
 have h0:128<=(s.get! (pos+0)).toNat:=by rw[get_at s pos h];exact ha
 have hn: ¬(s[pos]'h).toNat<128:=om;have h1: ∀j,j<1->128<=(s.get! (pos+j)).toNat:=fun j hj=>by rw[show j=0 by omega];exact h0
 have h2:128<=(s.get! (pos+1)).toNat-> ∀j,j<2->128<=(s.get! (pos+j)).toNat:=fun a j hj=>by
  match j,hj with
  |0,_=>exact h0
  |1,_=>exact a
 have h3:128<=(s.get! (pos+1)).toNat->128<=(s.get! (pos+2)).toNat-> ∀j,j<3->128<=(s.get! (pos+j)).toNat:=fun a b j hj=>by
  match j,hj with
  |0,_=>exact h0
  |1,_=>exact a
  |2,_=>exact b
 have h4:128<=(s.get! (pos+1)).toNat->128<=(s.get! (pos+2)).toNat->128<=(s.get! (pos+3)).toNat-> ∀j,j<4->128<=(s.get! (pos+j)).toNat:=fun a b c j hj=>by
  match j,hj with
  |0,_=>exact h0
  |1,_=>exact a
  |2,_=>exact b
  |3,_=>exact c
 simp only[Utf8.decode,get_at s pos h,hn,if_false];have herr:1<=1/\(∀j,j<1->128<=(s.get! (pos+j)).toNat)/\(Utf8.runeError=65533∨(128<=Utf8.runeError/\Utf8.runeError<=1114111/\ ¬(55296<=Utf8.runeError/\Utf8.runeError<=57343))):=⟨zc _,h1,.inl rfl⟩;have hv: ∀n:Nat,Utf8.valid (n:Int)=true->n<=1114111/\ ¬(55296<=n/\n<=57343):=fun n hn=>by
  simp only[Utf8.valid,zi,za,decide_eq_true_eq]at hn;omega
 split
 .next hc=>
  simp only[za,decide_eq_true_eq,beq_iff_eq]at hc;split
  .exact ⟨by show 1<=_;omega,h2 om,.inr ⟨by show 128<=_;omega,by show _<=1114111;omega,by show ¬(_/\_);omega⟩⟩
  exact herr
 split
 .next hc=>
  simp only[za,decide_eq_true_eq,beq_iff_eq]at hc;split
  .next hd=>
   simp only[za,decide_eq_true_eq]at hd
   have:=hv _ hd.2
   exact ⟨by show 1<=_;omega,h3 om om,.inr ⟨by show 128<=_;omega,this.1,this.2⟩⟩
  exact herr
 split
 .next hc=>
  simp only[za,decide_eq_true_eq,beq_iff_eq]at hc;split
  .next hd=>
   simp only[za,decide_eq_true_eq]at hd
   have:=hv _ hd.2
   exact ⟨by show 1<=_;omega,h4 om om om,.inr ⟨by show 128<=_;omega,this.1,this.2⟩⟩
  exact herr
 exact herr
theorem SQ(r:Nat)(h0:128<=r)(h1:r<=1114111)(h2: ¬(55296<=r/\r<=57343)):
  (∃x y,Utf8.encode (r:Int)=⟨#[x,y]⟩/\128<=y.toNat)∨(∃x y z,Utf8.encode (r:Int)=⟨#[x,y,z]⟩/\128<=z.toNat)∨ ∃x y z t,Utf8.encode (r:Int)=⟨#[x,y,z,t]⟩/\128<=t.toNat:=by
 have hv:Utf8.valid (r:Int)=true:=by
  simp only[Utf8.valid,zi,za,decide_eq_true_eq];omega
 have hb: ∀n:Nat,n<64->128<=(UInt8.ofNat (128+n)).toNat:=fun n hn=>by
  rw[UInt8.toNat_ofNat'];omega
 have hn: ¬r<128:=om;have hr:(r:Int).toNat=r:=om;unfold Utf8.encode;simp only[hv,if_true,hr];rw[if_neg hn]
 by_cases g1:r<2048
 .rw[if_pos g1]
  exact .inl ⟨_,_,rfl,hb _ om⟩
 rw[if_neg g1]
 by_cases g2:r<65536
 .rw[if_pos g2]
  exact .inr (.inl ⟨_,_,_,rfl,hb _ om⟩)
 rw[if_neg g2];exact .inr (.inr ⟨_,_,_,_,rfl,hb _ om⟩)
theorem Ej{x:UInt8}(h:128<=x.toNat):([47,92,63]:List UInt8).contains x=false:=by
 cases hc:([47,92,63]:List UInt8).contains x with
 |false=>rfl
 |true=>
  exfalso
  have:=List.contains_iff_mem.1 hc
  simp only[List.mem_cons,List.not_mem_nil,or_false]at this
  rcases this with rfl|rfl|rfl<;>exact absurd h de
theorem ix_no{x:UInt8}(h:128<=x.toNat):Lib.indexByte [63] x= -1:=by
 unfold Lib.indexByte;rw[if_neg (fun e=>by rw[<-beq_iff_eq.1 e]at h;exact absurd h de)];rfl
theorem Ek(w:World):Calls prog 206 #[L ⟨#[47,92,63]⟩,.int .i32 65533] w fun e w'=>e=Y (I J (-1))/\Below w.heap.size w w':=by
 have n0:=fun ty=>run_next_ascii (P:=prog) w ⟨#[47,92,63]⟩ 0 ty de de
 have n1:=fun ty=>run_next_ascii (P:=prog) w ⟨#[47,92,63]⟩ 1 ty de de
 have n2:=fun ty=>run_next_ascii (P:=prog) w ⟨#[47,92,63]⟩ 2 ty de de
 have n3:=fun ty=>run_next_end (P:=prog) w ⟨#[47,92,63]⟩ 3 ty de
 go_enter func206,ntmps206;go_wp2_with fail;refine wp_loop_rounds 4 ?_;rw[rounds_succ];go_wp2_with fail;rw[rounds_succ];go_wp2_with fail;rw[rounds_succ];go_wp2_with fail;rw[rounds_succ];go_wp2_with fail;go_ret;exact ⟨rfl,(ze _ _).alloc (zc _) _⟩
theorem Hi(r:Nat)(w:World)(h0:128<=r)(h1:r<=1114111)(h2: ¬(55296<=r/\r<=57343))(h3:r≠65533):Calls prog 206 #[L ⟨#[47,92,63]⟩,.int .i32 (r:Int)] w fun e w'=>e=Y (I J (-1))/\Below w.heap.size w w':=by
 have hv:Lib.validRune (r:Int)=true:=by
  unfold Lib.validRune;simp;omega
 have hen:=SQ r h0 h1 h2;have q0: ¬(r:Int)<128:=om;have q3:((r:Int)==65533)=false:=beq_eq_false_iff_ne.2 om;have CV:Hid (∀W,CS 243 #[.int .i32 (r:Int)] W (F true)):=fun W=>by
  have h:=utf8_ValidRune (r:Int) W;rw[hv]at h;exact h.mono fun e w' h=>⟨h.1,h.2.symm⟩
 clear hv h2 h3
 rcases hen with ⟨x,y,he,hy⟩|⟨x,y,z,he,hy⟩|⟨x,y,z,t,he,hy⟩
 .have cv: ∀W,(convert 21 9 (.int .i32 (r:Int))).run prog W=.ok (L ⟨#[x,y]⟩) W:=fun W=>by
   rw[run_convert_int_string W _ _ _ _ (by rw[underlying21];rfl) underlying9,he]
  obtain ⟨d,hd⟩: ∃d:Nat,y.toNat=d:=⟨_,rfl⟩;have CI:Hid (∀W,CS 204 #[L ⟨#[63]⟩,.int .u8 (d:Int)] W (I J (-1))):=fun W=>by
   have h:=strings_IndexByte ⟨#[63]⟩ (d:Int) W;rw[show ((d:Int)).toNat.toUInt8=y by rw[<-hd];simp]at h;exact h.mono fun e w' h=>⟨by rw[h.1];exact aR (ix_no hy),h.2.symm⟩
  have e1:((⟨#[47,92,63]⟩:ByteArray)[1]'de).toNat=92:=rfl;have e2:((⟨#[x,y]⟩:ByteArray)[1]'(by show 1<2;decide)).toNat=d:=hd;have e3:(⟨#[47,92,63]⟩:ByteArray).extract 2 3=⟨#[63]⟩:=de;have e4:IntKind.i64.wrap 2=2:=de;have qy:((92:Int) !=(d:Int))=true:=bne_iff_ne.2 om;clear hy he hd;go_enter func206,ntmps206;go_wp2_with fail;refine (CV.out _).mono ?_;rintro e w' ⟨rfl,rfl⟩;go_wp2_with fail
  go_step3
  go_wp2_with fail;refine wp_loop_rounds 1 ?_;rw[rounds_succ];go_wp2_with fail
  go_step3
  go_wp2_with fail
  go_quiet (fail)
  go_wp2_with fail
  go_region_with (go_at_call 204;refine (CI.out _).mono ?_;rintro e w' ⟨rfl,rfl⟩)
  go_wp2_with fail;rw[Exit.noGoto_ret];simp only[Exit.inBlock,Exit.then];rw[Exit.noGoto_ret];go_ret;exact ⟨rfl,⟨rfl,rfl,rfl,zc _,fun _ _=>rfl⟩⟩
 .have cv: ∀W,(convert 21 9 (.int .i32 (r:Int))).run prog W=.ok (L ⟨#[x,y,z]⟩) W:=fun W=>by
   rw[run_convert_int_string W _ _ _ _ (by rw[underlying21];rfl) underlying9,he]
  obtain ⟨d,hd⟩: ∃d:Nat,z.toNat=d:=⟨_,rfl⟩;have CI:Hid (∀W,CS 204 #[L ⟨#[]⟩,.int .u8 (d:Int)] W (I J (-1))):=fun W=>by
   have h:=strings_IndexByte ⟨#[]⟩ (d:Int) W;rw[show ((d:Int)).toNat.toUInt8=z by rw[<-hd];simp]at h;exact h.mono fun e w' h=>⟨by rw[h.1];exact aR rfl,h.2.symm⟩
  have e1:((⟨#[47,92,63]⟩:ByteArray)[2]'de).toNat=63:=rfl;have e2:((⟨#[x,y,z]⟩:ByteArray)[2]'(by show 2<3;decide)).toNat=d:=hd;have e3:(⟨#[47,92,63]⟩:ByteArray).extract 3 3=⟨#[]⟩:=de;have e4:IntKind.i64.wrap 3=3:=de;have qy:((63:Int) !=(d:Int))=true:=bne_iff_ne.2 om;clear hy he hd;go_enter func206,ntmps206;go_wp2_with fail;refine (CV.out _).mono ?_;rintro e w' ⟨rfl,rfl⟩;go_wp2_with fail
  go_step3
  go_wp2_with fail;refine wp_loop_rounds 1 ?_;rw[rounds_succ];go_wp2_with fail
  go_step3
  go_wp2_with fail
  go_quiet (fail)
  go_wp2_with fail
  go_region_with (go_at_call 204;refine (CI.out _).mono ?_;rintro e w' ⟨rfl,rfl⟩)
  go_wp2_with fail;rw[Exit.noGoto_ret];simp only[Exit.inBlock,Exit.then];rw[Exit.noGoto_ret];go_ret;exact ⟨rfl,⟨rfl,rfl,rfl,zc _,fun _ _=>rfl⟩⟩
 have cv: ∀W,(convert 21 9 (.int .i32 (r:Int))).run prog W=.ok (L ⟨#[x,y,z,t]⟩) W:=fun W=>by
  rw[run_convert_int_string W _ _ _ _ (by rw[underlying21];rfl) underlying9,he]
 clear hy he;go_enter func206,ntmps206;go_wp2_with fail;refine (CV.out _).mono ?_;rintro e w' ⟨rfl,rfl⟩;go_wp2_with fail
 go_step3
 go_wp2_with fail;refine wp_loop_rounds 1 ?_;rw[rounds_succ];go_wp2_with fail;rw[Exit.noGoto_ret];go_ret;exact ⟨rfl,ze _ _⟩
theorem Ab(s:ByteArray)(i:Nat)(h:i<s.size):s.get! i=s[i]'h:=by
 simp[zj,getElem!_pos,h];rfl
theorem YV(s:ByteArray)(i:Nat)(h: ¬i<s.size):(s.get! i).toNat=0:=by
 have e:s.get! i=default:=by
  simp only[zj];exact getElem!_neg _ _ h
 rw[e];rfl
theorem VW{s:ByteArray}{i n:Nat}(h:Lib.NoAny s.data.toList [47,92,63] i)(hb: ∀j,j<n->128<=(s.get! (i+j)).toNat):Lib.NoAny s.data.toList [47,92,63] (i+n):=by
 induction n with
 |zero=>exact h
 |succ n ih=>
  have h1:=ih (fun j hj=>hb j om);have h2:=hb n om;have hlt:i+n<s.size:=by
   rcases Nat.lt_or_ge (i+n) s.size with h3|h3
   .exact h3
   rw[YV s _ om]at h2;omega
  rw[Ab s _ hlt]at h2;exact h1.succ (Lib.data_getElem? s (i+n) hlt) (Ej h2)
theorem El{s:ByteArray}{i n:Nat}(h:i<s.size)(hb: ∀j,j<n->128<=(s.get! (i+j)).toNat):i+n<=s.size:=by
 rcases Nat.lt_or_ge s.size (i+n)with h3|h3
 .have h2:=hb (s.size-i) om
  rw[show i+(s.size-i)=s.size by omega,YV s _ om]at h2;omega
 exact h3
theorem Ac(s:ByteArray)(w:World)(h8:s.size<=8):Calls prog 149 #[L s,L ⟨#[47,92,63]⟩] w fun e w'=>e=Y (I J (Lib.indexAny s.data.toList [47,92,63]))/\Below w.heap.size w w':=by
 have h8z:decide ((8:Int)<(s.size:Int))=false:=decide_eq_false om;have CU:Hid (∀W,CS 207 #[I J (s.size:Int)] W (F false)):=fun W=>by
  have h:=strings_shouldUseASCIISet (s.size:Int) W;rw[h8z]at h;exact h.mono fun e w' h=>⟨h.1,h.2.symm⟩
 have hit:(w.iter s 0).heap[w.heap.size]? =some (.stringIter s 0):=World.iter_heap w s 0;have Bi:Below w.heap.size w (w.iter s 0):=(ze _ w).alloc (zc _) _;clear h8z;go_enter func149,ntmps149;go_wp2_with fail;refine (CU.out _).mono ?_;rintro e w' ⟨rfl,rfl⟩;go_wp2_with fail
 go_loopw[] (fun wr=> ∃i:Nat,i<=s.size/\wr.heap[w.heap.size]? =some (.stringIter s i)/\Lib.NoAny s.data.toList [47,92,63] i/\Below w.heap.size w wr)
  (fun wr=>s.size-wr.iterPos w.heap.size)
 case atStart=>exact ⟨0,Nat.zero_le _,hit,Lib.NoAny.zero _ _,Bi⟩
 obtain ⟨i,hi,hk,hno,hbel⟩:=hrel;have HN:Hid (Lib.NoAny s.data.toList [47,92,63] i):=hno;clear hno hit Bi
 by_cases hlt:i<s.size
 .have hnx:=fun ty=>Lib.run_next_any_at (P:=prog) wr w.heap.size s i ty hk hlt
  have hw:=Lib.decode_width_pos s i hlt;have hr31:=decode_le s i;have hk2:=Lib.iterAt_heap wr w.heap.size s i (i+(Utf8.decode s i).2) hk;have hbel2:=Lib.below_iterAt hbel (zc _) s (i+(Utf8.decode s i).2);have HI:Hid (wr.iterPos w.heap.size=i):=by show _=_;unfold zf;rw[hk]
  have hlt2:w.heap.size<(wr.iterAt w.heap.size s (i+(Utf8.decode s i).2)).heap.size:=(Array.getElem?_eq_some_iff.1 hk2).1
  by_cases ha:s[i].toNat<128
  .have hda:=decode_ascii s i hlt ha
   rw[hda]at hnx hk2 hbel2 hlt2;obtain ⟨d,hd⟩: ∃d:Nat,s[i].toNat=d:=⟨_,rfl⟩;have hdl:s.data.toList[i]? =some s[i]:=Lib.data_getElem? s i hlt;have hcon:=Lib.contains_iff_indexByte [47,92,63] s[i];have CR:Hid (∀W,CS 206 #[L ⟨#[47,92,63]⟩,.int .i32 (d:Int)] W (I J (Lib.indexByte [47,92,63] s[i]))):=fun W=>by
    have h:=strings_IndexRune_ascii ⟨#[47,92,63]⟩ (d:Int) W om om;rw[show ((d:Int)).toNat.toUInt8=s[i] by rw[<-hd];simp]at h;exact h.mono fun e w' h=>⟨h.1,h.2.symm⟩
   rw[hd]at hnx
   cases hin:([47,92,63]:List UInt8).contains s[i]with
   |true=>
    rw[hin]at hcon;have hge:(0:Int)<=Lib.indexByte [47,92,63] s[i]:=of_decide_eq_true hcon.symm;have HA:Hid (Lib.indexAny s.data.toList [47,92,63]=(i:Int)):=Lib.indexAny_hit HN.out hdl hin;clear hcon hin hdl hda hw hr31 hk hbel hk2;generalize Lib.indexByte [47,92,63] s[i]=z at CR hge;generalize wr.iterAt w.heap.size s (i+1)=wi at*;go_wp2_with fail;refine (CR.out _).mono ?_;rintro e w' ⟨rfl,rfl⟩;go_wp2;go_ret;exact ⟨aR (by rw[HA.out]),hbel2⟩
   |false=>
    rw[hin]at hcon;have hge: ¬(0:Int)<=Lib.indexByte [47,92,63] s[i]:=of_decide_eq_false hcon.symm;have HN2:Hid (Lib.NoAny s.data.toList [47,92,63] (i+1)):=HN.out.succ hdl hin;have HI1:Hid ((wr.iterAt w.heap.size s (i+1)).iterPos w.heap.size=i+1):=by show _=_;unfold zf;rw[hk2]
    clear hcon hin hdl hda hw hr31 hk hbel;generalize Lib.indexByte [47,92,63] s[i]=z at CR hge;generalize wr.iterAt w.heap.size s (i+1)=wi at*;go_wp2_with fail;refine (CR.out _).mono ?_;rintro e w' ⟨rfl,rfl⟩;go_wp2;go_roundw
    case rel=>exact ⟨i+1,om,hk2,HN2.out,hbel2⟩
    case measure=>
     have a:=HI.out;have b:=HI1.out;simp only[a,b];omega
  obtain ⟨hs1,hs2,hs3⟩:=SP s i hlt om;have hle:=El hlt hs2;have HN2:Hid (Lib.NoAny s.data.toList [47,92,63] (i+(Utf8.decode s i).2)):=VW HN.out hs2;have CR:Hid (∀W,CB 206 #[L ⟨#[47,92,63]⟩,.int .i32 ((Utf8.decode s i).1:Int)] W (I J (-1))):=fun W=>by
   by_cases h9:(Utf8.decode s i).1=65533
   .rw[h9]
    exact Ek W
   rcases hs3 with h|⟨h1,h2,h3⟩
   .exact absurd h h9
   exact Hi _ W h1 h2 h3 h9
  clear hs3 hs2 ha;generalize (Utf8.decode s i).1=rr at*;generalize (Utf8.decode s i).2=n at*;clear hk hbel;generalize wr.iterAt w.heap.size s (i+n)=wi at*;go_wp2_with fail;refine (CR.out _).mono ?_;rintro e wj ⟨rfl,bj⟩;have hk3:wj.heap[w.heap.size]? =some (.stringIter s (i+n)):=(bj.block _ hlt2).trans hk2;have hbel3:Below w.heap.size w wj:=hbel2.trans (bj.mono hbel2.size);have HI1:Hid (wj.iterPos w.heap.size=i+n):=by show _=_;unfold zf;rw[hk3]
  clear bj hk2 hbel2 hlt2;go_wp2;go_roundw
  case rel=>exact ⟨i+n,om,hk3,HN2.out,hbel3⟩
  case measure=>
   have a:=HI.out;have b:=HI1.out;simp only[a,b];omega
 have hnx:=fun ty=>Lib.run_next_end_at (P:=prog) wr w.heap.size s i ty hk hlt
 have HA:Hid (Lib.indexAny s.data.toList [47,92,63]= -1):=Lib.indexAny_none (by
  rw[show s.data.toList.length=i by have:s.data.toList.length=s.size:=j2;omega];exact HN.out)
 go_wp2;go_ret;exact ⟨aR (by rw[HA.out]),hbel⟩
theorem Em(s:ByteArray)(w:World)(hs:s.size<=1048576):Calls prog 149 #[L s,L ⟨#[47,92,63]⟩] w fun e w'=>e=Y (I J (Lib.indexAny s.data.toList [47,92,63]))/\Below w.heap.size w w':=by
 by_cases h8:s.size<=8
 .exact Ac s w h8
 refine (strings_IndexAny_long (zero_of_info (n:=256) kr).1 s ⟨#[47,92,63]⟩ w de om om de (ascii_of_all de)).mono ?_;rintro e w' ⟨rfl,rfl⟩;exact ⟨rfl,((ze _ w).alloc (zc _) _).alloc j2 _⟩
