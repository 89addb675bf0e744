/- UrlImpl2, OkWalk. -/
import Derived.Test.YtgcbaphbiaimoaaGreatDoorQB26
import Derived.Deep.RegionHeld3
import Derived.Deep.DrawnRows
set_option maxHeartbeats 8000000
set_option maxRecDepth 100000
namespace Go.Proofs.YtgcbaphbiaimoaaGreatDoor
open Go.Value renaming int->I,string->L,bool->H,agg->F
open Go.IntKind renaming i64->J
open Go.Ending renaming returned->Y
open _root_.ByteArray renaming size_append->za
open _root_.List renaming length_cons->zd,size_toArray->zc
open _root_.Go.Proofs.Tryz
open _root_.Go.Proofs.YtgcbaphbiaimoaaGreatDoor.Tryz
section
open Go.RowKit
attribute [local go_sem↓] Go.wp_at_zero Go.wp_at_succ
def PU(w:World)(row:List Value)(W:World):Prop:=UAt W w.heap.size row/\Below w.heap.size w W
theorem PU.later{w:World}{row:List Value}{W W':World}(h:PU w row W)(hb:Below W.heap.size W W'):PU w row W':=⟨h.1.below hb,h.2.trans (hb.mono h.2.size)⟩
theorem PU.drew{w:World}{row:List Value}{W:World}(h:PU w row W):PU w row W.drew:=⟨h.1,h.2.drew⟩
theorem PU.new(w:World)(vs:Array Value)(t:TypeId):PU w vs.toList (w.alloc (.cells vs t)):=⟨UAt.new w vs t,(Below.refl _ w).alloc (Nat.le_refl _) _⟩
theorem sD(s k n p:Int)(nm a r:ByteArray)(q:Bool)(x0 x1 x2 x3 x4 x5 x6 x7:Int): ∀j v,(bD k nm n x0 x1 x2 x3 x4 x5 x6 x7)[j]? =some v->(aA s k nm n x0 x1 x2 x3 x4 x5 x6 x7 p a q r)[1+j]? =some v:=fun j v h=>by
 have hj:j<11:=by
  obtain ⟨h1,_⟩:=List.getElem?_eq_some_iff.1 h;exact h1
 show (Value.int .i64 s::(bD k nm n x0 x1 x2 x3 x4 x5 x6 x7++[I J p,L a,H q,L r]))[1+j]? =some v;rw[Nat.add_comm,List.getElem?_cons_succ,List.getElem?_append_left hj];exact h
theorem uM(s k n p:Int)(nm a r:ByteArray)(q:Bool)(x0 x1 x2 x3 x4 x5 x6 x7:Int)(w:World)(hs:nm.size<=1048576)(ha:a.size<=4194304)(hr:r.size<=4194304)(hT:Lib.Utf8Tabs 12 13 w)(hP:Pow w)(hK:iX w):Calls prog 13 #[F #[I J s,I J k,L nm,I J n,I J x0,I J x1,I J x2,I J x3,I J x4,I J x5,I J x6,I J x7,I J p,L a,H q,L r]] w fun e w'=>e=Y (H (uOk ⟨s,⟨k,nm,n,[x0,x1,x2,x3,x4,x5,x6,x7]⟩,p,a,q,r⟩))/\Below w.heap.size w w':=by
 have HX:Hid (uOk ⟨s,⟨k,nm,n,[x0,x1,x2,x3,x4,x5,x6,x7]⟩,p,a,q,r⟩=(!decide (bS s=0)&&(hOk ⟨k,nm,n,[x0,x1,x2,x3,x4,x5,x6,x7]⟩&&(decide (1<=p/\p<=65535)&&(ZL a&&ZM r q))))):=by
  show _=_;rw[Fc];simp
 generalize uOk ⟨s,⟨k,nm,n,[x0,x1,x2,x3,x4,x5,x6,x7]⟩,p,a,q,r⟩=ans at HX⊢;have CS:Hid (∀W,CS 32 #[I J s] W (L (uQ s))):=fun W=>oO s W
 have HE:Hid ((uQ s).toList.isEmpty=decide (bS s=0)):=Kb s;have CH:Hid (∀W,Below w.heap.size w W->CB 33 #[F #[I J k,L nm,I J n,I J x0,I J x1,I J x2,I J x3,I J x4,I J x5,I J x6,I J x7]] W (H (hOk ⟨k,nm,n,[x0,x1,x2,x3,x4,x5,x6,x7]⟩))):=fun W hb=>IK k n nm x0 x1 x2 x3 x4 x5 x6 x7 W hs (cV hT hb) (dQ hP hb)
 have CP:Hid (∀W,Calls prog 34 #[I J p] W fun e w'=>e=Y (H (decide (1<=p/\p<=65535)))/\W=w'):=fun W=>JF p W
 have CA:Hid (∀W,Below w.heap.size w W->CB 35 #[L a] W (H (ZL a))):=fun W hb=>ZO a W (hK.later hb) ha
 have CQ:Hid (∀W,Below w.heap.size w W->CB 36 #[L r,H q] W (H (ZM r q))):=fun W hb=>WQ r q W (hK.later hb) om
 generalize decide (bS s=0)=b0 at HX HE;generalize hOk ⟨k,nm,n,[x0,x1,x2,x3,x4,x5,x6,x7]⟩=b1 at HX CH;generalize decide (1<=p/\p<=65535)=b2 at HX CP;generalize ZL a=b3 at HX CA;generalize ZM r q=b4 at HX CQ;generalize uQ s=S at CS HE;clear hT hP hK;obtain ⟨O,hO⟩: ∃O,O=w.alloc (.cells #[I J s,I J k,L nm,I J n,I J x0,I J x1,I J x2,I J x3,I J x4,I J x5,I J x6,I J x7,I J p,L a,H q,L r] 28):=⟨_,rfl⟩;have HU:Hid (PU w (aA s k nm n x0 x1 x2 x3 x4 x5 x6 x7 p a q r) O):=by
  rw[hO];exact PU.new w _ _
 have c0:=HU.out.1.1 0 _ rfl;go_enter func13,ntmps13
 go_upto_region 1 with fail
 rw[<-hO];clear hO;go_wp2_with fail;refine (CS.out _).mono ?_;rintro e w' ⟨rfl,rfl⟩;have he:=HE.out;clear CS HE c0
 cases b0 with
 |true=>
  have HA:Hid (ans=false):=by show _=_;rw[HX.out];rfl
  clear HX;go_wp2;go_ret;exact ⟨aF HA.out.symm,HU.out.2⟩
 |false=>
  have c1:=HU.out.1.1 1 _ rfl;have c2:=HU.out.1.1 2 _ rfl;have c3:=HU.out.1.1 3 _ rfl;have c4:=HU.out.1.1 4 _ rfl;have c5:=HU.out.1.1 5 _ rfl;have c6:=HU.out.1.1 6 _ rfl;have c7:=HU.out.1.1 7 _ rfl;have c8:=HU.out.1.1 8 _ rfl;have c9:=HU.out.1.1 9 _ rfl;have c10:=HU.out.1.1 10 _ rfl;have c11:=HU.out.1.1 11 _ rfl;go_wp2_with fail;refine (CH.out _ HU.out.2).mono ?_;rintro e w1 ⟨rfl,hb1⟩;clear c1 c2 c3 c4 c5 c6 c7 c8 c9 c10 c11;have HU1:Hid (PU w (aA s k nm n x0 x1 x2 x3 x4 x5 x6 x7 p a q r) w1):=HU.out.later hb1;clear hb1 HU CH he
  cases b1 with
  |false=>
   have HA:Hid (ans=false):=by show _=_;rw[HX.out];rfl
   clear HX;go_wp2;go_ret;exact ⟨aF HA.out.symm,HU1.out.2⟩
  |true=>
   have c12:=HU1.out.1.1 12 _ rfl;go_wp2_with fail;refine j3 CP ?_;clear CP c12
   cases b2 with
   |false=>
    have HA:Hid (ans=false):=by show _=_;rw[HX.out];rfl
    clear HX;go_wp2;go_ret;exact ⟨aF HA.out.symm,HU1.out.2⟩
   |true=>
    have c13:=HU1.out.1.1 13 _ rfl;go_wp2_with fail;refine (CA.out _ HU1.out.2).mono ?_;rintro e w2 ⟨rfl,hb2⟩;have HU2:Hid (PU w (aA s k nm n x0 x1 x2 x3 x4 x5 x6 x7 p a q r) w2):=HU1.out.later hb2;clear hb2 HU1 CA c13
    cases b3 with
    |false=>
     have HA:Hid (ans=false):=by show _=_;rw[HX.out];rfl
     clear HX;go_wp2;go_ret;exact ⟨aF HA.out.symm,HU2.out.2⟩
    |true=>
     have HA:Hid (ans=b4):=by show _=_;rw[HX.out];rfl
     have c14:=HU2.out.1.1 14 _ rfl;have c15:=HU2.out.1.1 15 _ rfl;clear HX;go_wp2_with fail;refine (CQ.out _ HU2.out.2).mono ?_;rintro e w3 ⟨rfl,hb3⟩;clear c14 c15;go_wp2;go_ret;exact ⟨aF HA.out.symm,HU2.out.2.trans (hb3.mono HU2.out.2.size)⟩
theorem V9{i:Int}(h0:0<=i)(h1:i<100000):Lib.itoa i=iZ i.toNat:=by
 have key: ∀n:Nat,n<100000->Lib.decDigits n=iZ n:=fun n hn=>by
  have st: ∀m,m<100000->10<=m->Lib.decDigits m=Lib.decDigits (m/10)++[dgU (m%10)]:=fun m _ h10=>by
   rw[Lib.decDigits,dif_neg om];rfl
  have b0: ∀m,m<10->Lib.decDigits m=iZ m:=fun m hm=>by
   rw[Lib.decDigits,dif_pos hm];unfold iZ;rw[if_pos hm];rfl
  have b1: ∀m,m<100->Lib.decDigits m=iZ m:=fun m hm=>by
   by_cases h:m<10
   .exact b0 m h
   rw[st m om om,b0 _ om,<-qM om om]
  have b2: ∀m,m<1000->Lib.decDigits m=iZ m:=fun m hm=>by
   by_cases h:m<10
   .exact b0 m h
   rw[st m om om,b1 _ om,<-qM om om]
  have b3: ∀m,m<10000->Lib.decDigits m=iZ m:=fun m hm=>by
   by_cases h:m<10
   .exact b0 m h
   rw[st m om om,b2 _ om,<-qM om om]
  by_cases h:n<10
  .exact b0 n h
  rw[st n hn om,b3 _ om,<-qM om hn]
 unfold Lib.itoa;rw[if_neg om,key _ om]
theorem Ff(p:Int)(w:World)(h0:0<=p)(h1:p<100000)(hP:Pow w):Calls prog 44 #[I J p] w fun e w'=>e=Y (L (iL p))/\Below w.heap.size w w':=by
 refine (strconv_Itoa p om om w hP).mono ?_;rintro e w' ⟨rfl,k,os,rfl⟩;rw[V9 h0 h1];exact ⟨rfl,Lib.below_grow _ w (Nat.le_refl _) k os⟩
theorem QQ(s k n p:Int)(nm a r:ByteArray)(q:Bool)(x0 x1 x2 x3 x4 x5 x6 x7:Int)(w:World)(hs:nm.size<=1048576)(ha:a.size<=4194304)(hr:r.size<=4194304)(hT:Lib.Utf8Tabs 12 13 w)(hP:Pow w)(hD:cC w)(hK:iX w):Calls prog 15 #[F #[I J s,I J k,L nm,I J n,I J x0,I J x1,I J x2,I J x3,I J x4,I J x5,I J x6,I J x7,I J p,L a,H q,L r]] w fun e w'=>e=Y (L ⟨(if uOk ⟨s,⟨k,nm,n,[x0,x1,x2,x3,x4,x5,x6,x7]⟩,p,a,q,r⟩=true then fA s (hTx ⟨k,nm,n,[x0,x1,x2,x3,x4,x5,x6,x7]⟩) p else []).toArray⟩)/\Below w.heap.size w w':=by
 have HOK:Hid (uOk ⟨s,⟨k,nm,n,[x0,x1,x2,x3,x4,x5,x6,x7]⟩,p,a,q,r⟩=true->bS s≠0/\1<=p/\p<=65535):=fun h=>by
  rw[Fc]at h;simp only[Bool.and_eq_true,decide_eq_true_eq]at h;exact ⟨h.1,h.2.2.1⟩
 have CO:Hid (∀W,Below w.heap.size w W->CB 13 #[F (aA s k nm n x0 x1 x2 x3 x4 x5 x6 x7 p a q r).toArray] W (H (uOk ⟨s,⟨k,nm,n,[x0,x1,x2,x3,x4,x5,x6,x7]⟩,p,a,q,r⟩))):=fun W hb=>uM s k n p nm a r q x0 x1 x2 x3 x4 x5 x6 x7 W hs ha hr (cV hT hb) (dQ hP hb) (hK.later hb)
 have CH:Hid (∀W,Below w.heap.size w W->CB 43 #[F #[I J k,L nm,I J n,I J x0,I J x1,I J x2,I J x3,I J x4,I J x5,I J x6,I J x7]] W (L (hTx ⟨k,nm,n,[x0,x1,x2,x3,x4,x5,x6,x7]⟩))):=fun W hb=>QI k n nm x0 x1 x2 x3 x4 x5 x6 x7 W hs (cV hT hb) (dQ hP hb) (bF hD hb)
 have HPW:Hid (∀W,Below w.heap.size w W->Pow W):=fun W hb=>dQ hP hb
 have hts:=tE (k:=k) (n:=n) (s:=nm) (x0:=x0) (x1:=x1) (x2:=x2) (x3:=x3) (x4:=x4) (x5:=x5) (x6:=x6) (x7:=x7) hs;have HZN:Hid (uOk ⟨s,⟨k,nm,n,[x0,x1,x2,x3,x4,x5,x6,x7]⟩,p,a,q,r⟩=false->(⟨#[]⟩:ByteArray)=⟨(if uOk ⟨s,⟨k,nm,n,[x0,x1,x2,x3,x4,x5,x6,x7]⟩,p,a,q,r⟩=true then fA s (hTx ⟨k,nm,n,[x0,x1,x2,x3,x4,x5,x6,x7]⟩) p else []).toArray⟩):=fun h=>by rw[h];rfl
 have HZY:Hid (uOk ⟨s,⟨k,nm,n,[x0,x1,x2,x3,x4,x5,x6,x7]⟩,p,a,q,r⟩=true->(⟨(fA s (hTx ⟨k,nm,n,[x0,x1,x2,x3,x4,x5,x6,x7]⟩) p).toArray⟩:ByteArray)=⟨(if uOk ⟨s,⟨k,nm,n,[x0,x1,x2,x3,x4,x5,x6,x7]⟩,p,a,q,r⟩=true then fA s (hTx ⟨k,nm,n,[x0,x1,x2,x3,x4,x5,x6,x7]⟩) p else []).toArray⟩):=fun h=>by rw[h];rfl
 generalize (⟨(if uOk ⟨s,⟨k,nm,n,[x0,x1,x2,x3,x4,x5,x6,x7]⟩,p,a,q,r⟩=true then fA s (hTx ⟨k,nm,n,[x0,x1,x2,x3,x4,x5,x6,x7]⟩) p else []).toArray⟩:ByteArray)=ZZ at HZN HZY⊢;generalize hTx ⟨k,nm,n,[x0,x1,x2,x3,x4,x5,x6,x7]⟩=T at CH hts HZY;generalize uOk ⟨s,⟨k,nm,n,[x0,x1,x2,x3,x4,x5,x6,x7]⟩,p,a,q,r⟩=b at HOK CO HZN HZY;clear hT hP hD hK;obtain ⟨O,hO⟩: ∃O,O=w.alloc (.cells #[I J s,I J k,L nm,I J n,I J x0,I J x1,I J x2,I J x3,I J x4,I J x5,I J x6,I J x7,I J p,L a,H q,L r] 28):=⟨_,rfl⟩;have HU:Hid (PU w (aA s k nm n x0 x1 x2 x3 x4 x5 x6 x7 p a q r) O):=by
  rw[hO];exact PU.new w _ _
 go_enter func15,ntmps15
 go_upto_region 1 with fail
 rw[<-hO];clear hO;go_wp2_with (refine bA HU.out.1 rfl rfl _ rfl rfl ?_);refine (CO.out _ HU.out.2).mono ?_;rintro e w1 ⟨rfl,hb1⟩;have HU1:Hid (PU w (aA s k nm n x0 x1 x2 x3 x4 x5 x6 x7 p a q r) w1):=HU.out.later hb1;clear hb1 HU CO
 cases b with
 |false=>
  have HZ:Hid ((⟨#[]⟩:ByteArray)=ZZ):=HZN.out rfl;clear HZN HZY;go_wp2;go_ret;exact ⟨bH HZ.out,HU1.out.2⟩
 |true=>
  have HZ1:Hid ((⟨(fA s T p).toArray⟩:ByteArray)=ZZ):=HZY.out rfl;clear HZN HZY;obtain ⟨hd0,hp0,hp1⟩:=HOK.out rfl;have hst:=ZN hd0;have CS:Hid (∀W,CS 32 #[I J s] W (L ⟨(gH s).toArray⟩)):=fun W=>by
   have h:=oO s W;rw[hst]at h;exact h
  have CD:Hid (∀W,Calls prog 17 #[I J s] W fun e w'=>e=Y (I J (bS s))/\W=w'):=fun W=>sF s W
  have CT:Hid (∀W,Below w.heap.size w W->CB 44 #[I J p] W (L (iL p))):=fun W hb=>Ff p W om om (HPW.out W hb)
  have hss:=nO s;have hds:=oL p;have H0:Hid (gC s p=[]->(⟨(gH s).toArray⟩:ByteArray)++⟨#[47,47]⟩++T=⟨(fA s T p).toArray⟩):=fun h=>by
   apply bL;show toL _=fA s T p;unfold fA;rw[h];simp[toL]
  have H1:Hid (gC s p=58::iZ p.toNat->(⟨(gH s).toArray⟩:ByteArray)++⟨#[47,47]⟩++T++⟨#[58]⟩++iL p=⟨(fA s T p).toArray⟩):=fun h=>by
   apply bL;show toL _=fA s T p;unfold fA;rw[h];simp[toL,iL]
  have HPT:Hid ((p=bS s->gC s p=[])/\(¬p=bS s->gC s p=58::iZ p.toNat)):=by
   unfold gC;exact ⟨fun h=>if_pos h,fun h=>if_neg h⟩
  generalize (⟨(gH s).toArray⟩:ByteArray)=S at CS hss H0 H1;generalize iL p=D at CT hds H1;rw[HZ1.out]at H0 H1;clear HZ1;have HDP:Hid ((p=bS s)∨ ¬(p=bS s)):=Decidable.em _;generalize bS s=dp at CD HPT HDP;generalize gC s p=pt at H0 H1 HPT;clear hd0 hst HOK
  go_upto_region 3 with fail
  go_cut [3] (fun v wx=>v=L (S++⟨#[47,47]⟩++T)/\PU w (aA s k nm n x0 x1 x2 x3 x4 x5 x6 x7 p a q r) wx)
  case first=>
   have hu:=HU1.out.1.1;have c0:=hu 0 _ rfl;have c1:=hu 1 _ rfl;have c2:=hu 2 _ rfl;have c3:=hu 3 _ rfl;have c4:=hu 4 _ rfl;have c5:=hu 5 _ rfl;have c6:=hu 6 _ rfl;have c7:=hu 7 _ rfl;have c8:=hu 8 _ rfl;have c9:=hu 9 _ rfl;have c10:=hu 10 _ rfl;have c11:=hu 11 _ rfl;clear hu;have HUD:Hid (PU w (aA s k nm n x0 x1 x2 x3 x4 x5 x6 x7 p a q r) w1.drew):=HU1.out.drew
   go_region_with (first|(go_at_call 32;refine (CS.out _).mono ?_;rintro e wq ⟨rfl,rfl⟩)|(go_at_call 43;refine (CH.out _ HUD.out.2).mono ?_;rintro e wq ⟨rfl,hbq⟩;have HUQ:PU w (aA s k nm n x0 x1 x2 x3 x4 x5 x6 x7 p a q r) wq:=HUD.out.later hbq;have g0:=HUQ.1.1 0 _ rfl;clear hbq))
   all_goals go_wp2_with fail
   all_goals go_meet
   all_goals exact ⟨rfl,HUQ⟩
  obtain ⟨rfl,hu2⟩:=hcut;have HU2:Hid (PU w (aA s k nm n x0 x1 x2 x3 x4 x5 x6 x7 p a q r) wc):=hu2;clear hu2 HU1 CS CH;have hd2:(⟨#[47,47]⟩:ByteArray).size=2:=rfl;have hs2:(S++⟨#[47,47]⟩++T).size<=1048584:=by rw[za,za,hd2];omega
  generalize S++⟨#[47,47]⟩++T=S2 at hs2 H0 H1⊢;clear hts hss hd2 hs;have c0:=HU2.out.1.1 0 _ rfl;have c12:=HU2.out.1.1 12 _ rfl
  go_upto_region 4 with fail
  have HUD:Hid (PU w (aA s k nm n x0 x1 x2 x3 x4 x5 x6 x7 p a q r) wc.drew):=HU2.out.drew
  go_cut [20] (fun v wx=>v=H (p==dp)/\PU w (aA s k nm n x0 x1 x2 x3 x4 x5 x6 x7 p a q r) wx)
  case first=>
   go_region_with (go_at_call 17;refine j3 CD ?_)
   all_goals go_wp2_with fail
   all_goals go_meet
   all_goals exact ⟨rfl,HUD.out⟩
  obtain ⟨rfl,hu3⟩:=hcut;have HU3:Hid (PU w (aA s k nm n x0 x1 x2 x3 x4 x5 x6 x7 p a q r) wc):=hu3;clear HUD HU2 c0 c12 CD hu3
  rcases HDP.out with h|h
  .have hq:(p==dp)=true:=by rw[h];exact beq_self_eq_true _
   have HZ:Hid (S2=ZZ):=H0.out (HPT.out.1 h);rw[hq];clear H0 H1 HPT hq HDP h CT;go_wp2;go_ret;exact ⟨bH HZ.out,HU3.out.2⟩
  have hq:(p==dp)=false:=beq_eq_false_iff_ne.2 h;have HZ:Hid (S2++⟨#[58]⟩++D=ZZ):=H1.out (HPT.out.2 h);rw[hq];have hd1:(⟨#[58]⟩:ByteArray).size=1:=rfl;have c12:=HU3.out.1.1 12 _ rfl;clear H0 H1 HPT hq HDP h;go_wp2_with fail;refine (CT.out _ HU3.out.2).mono ?_;rintro e wd ⟨rfl,bd⟩;have BD:Below w.heap.size w wd:=HU3.out.2.trans (bd.mono HU3.out.2.size);clear bd c12;go_wp2;go_ret;exact ⟨bH HZ.out,BD⟩
theorem QR(u:UV):wD u=fA u.s (hTx u.h) u.p:=rfl
theorem QS{k n:Int}{nm:ByteArray}{x0 x1 x2 x3 x4 x5 x6 x7:Int}(sch pn:Int)(hnm:nm.size<=1048576):(fA sch (hTx ⟨k,nm,n,[x0,x1,x2,x3,x4,x5,x6,x7]⟩) pn).length<=1048600:=by
 have h1:=tE (k:=k) (n:=n) (s:=nm) (x0:=x0) (x1:=x1) (x2:=x2) (x3:=x3) (x4:=x4) (x5:=x5) (x6:=x6) (x7:=x7) hnm;have h2:=nO sch;have h3:(⟨(gH sch).toArray⟩:ByteArray).size=(gH sch).length:=zc;have h4:(gC sch pn).length<=6:=by
  unfold gC;split
  .decide
  have h5:=oL pn;have h6:(iL pn).size=(iZ pn.toNat).length:=zc;rw[zd];omega
 have h7:(toL (hTx ⟨k,nm,n,[x0,x1,x2,x3,x4,x5,x6,x7]⟩)).length=(hTx ⟨k,nm,n,[x0,x1,x2,x3,x4,x5,x6,x7]⟩).size:=by simp[toL]
 unfold fA;simp only[List.length_append,zd];omega
theorem M2{u:UV}(h:uOk u=true):uTx u=wD u++lH u:=by unfold uTx;rw[if_pos h]
theorem Fg{u:UV}(h:uOk u=false):uTx u=[]:=by unfold uTx;rw[if_neg (by rw[h];decide)]
theorem tH(s k n p:Int)(nm a r:ByteArray)(q:Bool)(x0 x1 x2 x3 x4 x5 x6 x7:Int)(w:World)(hs:nm.size<=1048576)(ha:a.size<=4194304)(hr:r.size<=4194304)(hT:Lib.Utf8Tabs 12 13 w)(hP:Pow w)(hD:cC w)(hK:iX w):Calls prog 12 #[F #[I J s,I J k,L nm,I J n,I J x0,I J x1,I J x2,I J x3,I J x4,I J x5,I J x6,I J x7,I J p,L a,H q,L r]] w fun e w'=>e=Y (L ⟨(uTx ⟨s,⟨k,nm,n,[x0,x1,x2,x3,x4,x5,x6,x7]⟩,p,a,q,r⟩).toArray⟩)/\Below w.heap.size w w':=by
 have CO:Hid (∀W,Below w.heap.size w W->CB 13 #[F (aA s k nm n x0 x1 x2 x3 x4 x5 x6 x7 p a q r).toArray] W (H (uOk ⟨s,⟨k,nm,n,[x0,x1,x2,x3,x4,x5,x6,x7]⟩,p,a,q,r⟩))):=fun W hb=>uM s k n p nm a r q x0 x1 x2 x3 x4 x5 x6 x7 W hs ha hr (cV hT hb) (dQ hP hb) (hK.later hb)
 have CG:Hid (∀W,Below w.heap.size w W->CB 15 #[F #[I J s,I J k,L nm,I J n,I J x0,I J x1,I J x2,I J x3,I J x4,I J x5,I J x6,I J x7,I J p,L a,H q,L r]] W (L ⟨(if uOk ⟨s,⟨k,nm,n,[x0,x1,x2,x3,x4,x5,x6,x7]⟩,p,a,q,r⟩=true then fA s (hTx ⟨k,nm,n,[x0,x1,x2,x3,x4,x5,x6,x7]⟩) p else []).toArray⟩)):=fun W hb=>QQ s k n p nm a r q x0 x1 x2 x3 x4 x5 x6 x7 W hs ha hr (cV hT hb) (dQ hP hb) (bF hD hb) (hK.later hb)
 have hol:=QS (k:=k) (n:=n) (nm:=nm) (x0:=x0) (x1:=x1) (x2:=x2) (x3:=x3) (x4:=x4) (x5:=x5) (x6:=x6) (x7:=x7) s p hs;have HN:Hid (uOk ⟨s,⟨k,nm,n,[x0,x1,x2,x3,x4,x5,x6,x7]⟩,p,a,q,r⟩=false->(⟨#[]⟩:ByteArray)=⟨(uTx ⟨s,⟨k,nm,n,[x0,x1,x2,x3,x4,x5,x6,x7]⟩,p,a,q,r⟩).toArray⟩):=fun h=>by rw[Fg h]
 have HY:Hid (uOk ⟨s,⟨k,nm,n,[x0,x1,x2,x3,x4,x5,x6,x7]⟩,p,a,q,r⟩=true->(q=false->(⟨(fA s (hTx ⟨k,nm,n,[x0,x1,x2,x3,x4,x5,x6,x7]⟩) p).toArray⟩:ByteArray)++a=⟨(uTx ⟨s,⟨k,nm,n,[x0,x1,x2,x3,x4,x5,x6,x7]⟩,p,a,q,r⟩).toArray⟩)/\(q=true->(⟨(fA s (hTx ⟨k,nm,n,[x0,x1,x2,x3,x4,x5,x6,x7]⟩) p).toArray⟩:ByteArray)++a++⟨#[63]⟩++r=⟨(uTx ⟨s,⟨k,nm,n,[x0,x1,x2,x3,x4,x5,x6,x7]⟩,p,a,q,r⟩).toArray⟩)):=fun h=>by
  rw[M2 h];constructor
  .intro hq
   subst hq;apply bL;show toL _=wD _++lH _;unfold lH;rw[QR];simp[toL]
  intro hq;subst hq;apply bL;show toL _=wD _++lH _;unfold lH;rw[QR];simp[toL]
 have hos:(⟨(fA s (hTx ⟨k,nm,n,[x0,x1,x2,x3,x4,x5,x6,x7]⟩) p).toArray⟩:ByteArray).size<=1048600:=by rw[cR];exact hol
 clear hol hT hP hD hK;generalize (⟨(uTx ⟨s,⟨k,nm,n,[x0,x1,x2,x3,x4,x5,x6,x7]⟩,p,a,q,r⟩).toArray⟩:ByteArray)=Z at HN HY⊢;generalize uOk ⟨s,⟨k,nm,n,[x0,x1,x2,x3,x4,x5,x6,x7]⟩,p,a,q,r⟩=b at CO CG HN HY;obtain ⟨O,hO⟩: ∃O,O=w.alloc (.cells #[I J s,I J k,L nm,I J n,I J x0,I J x1,I J x2,I J x3,I J x4,I J x5,I J x6,I J x7,I J p,L a,H q,L r] 28):=⟨_,rfl⟩;have HU:Hid (PU w (aA s k nm n x0 x1 x2 x3 x4 x5 x6 x7 p a q r) O):=by
  rw[hO];exact PU.new w _ _
 go_enter func12,ntmps12
 go_upto_region 1 with fail
 rw[<-hO];clear hO;go_wp2_with (refine bA HU.out.1 rfl rfl _ rfl rfl ?_);refine (CO.out _ HU.out.2).mono ?_;rintro e w1 ⟨rfl,hb1⟩;have HU1:Hid (PU w (aA s k nm n x0 x1 x2 x3 x4 x5 x6 x7 p a q r) w1):=HU.out.later hb1;clear hb1 HU CO
 cases b with
 |false=>
  have HZ:Hid ((⟨#[]⟩:ByteArray)=Z):=HN.out rfl;clear HN HY;go_wp2;go_ret;exact ⟨bH HZ.out,HU1.out.2⟩
 |true=>
  have HY2:=HY.out rfl;have HYA:Hid (q=false->(⟨(fA s (hTx ⟨k,nm,n,[x0,x1,x2,x3,x4,x5,x6,x7]⟩) p).toArray⟩:ByteArray)++a=Z):=HY2.1;have HYB:Hid (q=true->(⟨(fA s (hTx ⟨k,nm,n,[x0,x1,x2,x3,x4,x5,x6,x7]⟩) p).toArray⟩:ByteArray)++a++⟨#[63]⟩++r=Z):=HY2.2;have CG2:Hid (∀W,Below w.heap.size w W->CB 15 #[F #[I J s,I J k,L nm,I J n,I J x0,I J x1,I J x2,I J x3,I J x4,I J x5,I J x6,I J x7,I J p,L a,H q,L r]] W (L ⟨(fA s (hTx ⟨k,nm,n,[x0,x1,x2,x3,x4,x5,x6,x7]⟩) p).toArray⟩)):=CG;clear HY2 HN HY CG;generalize (⟨(fA s (hTx ⟨k,nm,n,[x0,x1,x2,x3,x4,x5,x6,x7]⟩) p).toArray⟩:ByteArray)=G at CG2 HYA HYB hos
  go_upto_region 3 with fail
  go_cut [3] (fun v wx=>v=L (G++a)/\PU w (aA s k nm n x0 x1 x2 x3 x4 x5 x6 x7 p a q r) wx)
  case first=>
   have c0:=HU1.out.1.1 0 _ rfl;have c1:=HU1.out.1.1 1 _ rfl;have c2:=HU1.out.1.1 2 _ rfl;have c3:=HU1.out.1.1 3 _ rfl;have c4:=HU1.out.1.1 4 _ rfl;have c5:=HU1.out.1.1 5 _ rfl;have c6:=HU1.out.1.1 6 _ rfl;have c7:=HU1.out.1.1 7 _ rfl;have c8:=HU1.out.1.1 8 _ rfl;have c9:=HU1.out.1.1 9 _ rfl;have c10:=HU1.out.1.1 10 _ rfl;have c11:=HU1.out.1.1 11 _ rfl;have c12:=HU1.out.1.1 12 _ rfl;have c13:=HU1.out.1.1 13 _ rfl;have c14:=HU1.out.1.1 14 _ rfl;have c15:=HU1.out.1.1 15 _ rfl;have HUD:Hid (PU w (aA s k nm n x0 x1 x2 x3 x4 x5 x6 x7 p a q r) w1.drew):=HU1.out.drew
   go_region_with (go_at_call 15;refine (CG2.out _ HUD.out.2).mono ?_;rintro e wq ⟨rfl,hbq⟩;have HUQ:PU w (aA s k nm n x0 x1 x2 x3 x4 x5 x6 x7 p a q r) wq:=HUD.out.later hbq;have g13:=HUQ.1.1 13 _ rfl;clear hbq)
   all_goals go_wp2_with fail
   all_goals go_meet
   all_goals exact ⟨rfl,HUQ⟩
  obtain ⟨rfl,hu2⟩:=hcut;have HU2:Hid (PU w (aA s k nm n x0 x1 x2 x3 x4 x5 x6 x7 p a q r) wc):=hu2;clear hu2 HU1 CG2;have hs2:(G++a).size<=5242904:=by rw[za];omega
  generalize G++a=G2 at HYA HYB hs2⊢;have c14:=HU2.out.1.1 14 _ rfl
  cases q with
  |false=>
   have HZ:Hid (G2=Z):=HYA.out rfl;clear HYA HYB;go_wp2;go_ret;exact ⟨bH HZ.out,HU2.out.2⟩
  |true=>
   have HZ:Hid (G2++⟨#[63]⟩++r=Z):=HYB.out rfl;have hd1:(⟨#[63]⟩:ByteArray).size=1:=rfl;have c15:=HU2.out.1.1 15 _ rfl;clear HYA HYB;go_wp2;go_ret;exact ⟨bH HZ.out,HU2.out.2⟩
end
section
open Go.RowKit
theorem Na(set:Int)(s:ByteArray)(k:Nat)(h:0<=cI s k):okL set (s.data.toList.drop k)=okL set (s.data.toList.drop (k+3)):=by
 unfold okL okT;rw[wX _ _ s k h];rfl
theorem Kc(set:Int)(s:ByteArray)(k:Nat)(hk:k<s.size)(h:cI s k<0):okL set (s.data.toList.drop k)=(dX set s[k].toNat&&okL set (s.data.toList.drop (k+1))):=by
 unfold okL okT;rw[sI _ _ s k hk h];simp
theorem Nb(set:Int)(s:ByteArray)(k:Nat)(hk:s.size<=k):okL set (s.data.toList.drop k)=true:=by
 unfold okL okT;rw[NP _ _ s k hk];rfl
def okS(set:Int)(l:List UInt8):Bool:=decide (1<=set/\set<=3)&&okL set l
theorem Kd{set:Int}{l:List UInt8}(h: ¬(1<=set/\set<=3)):okS set l=false:=by unfold okS;rw[decide_eq_false h];rfl
theorem Nc{set:Int}{l:List UInt8}(h:okL set l=false):okS set l=false:=by unfold okS;rw[h,Bool.and_false]
theorem Ke{set:Int}{l:List UInt8}(h:1<=set/\set<=3)(h1:okL set l=true):okS set l=true:=by unfold okS;rw[decide_eq_true h,h1];rfl
theorem vO(s:ByteArray)(set:Int)(w:World)(hs:s.size<=1099511627776):Calls prog 40 #[L s,I J set] w fun e w'=>e=Y (H (okS set s.data.toList))/\Below w.heap.size w w':=by
 go_enter func40,ntmps40;go_wp2
 go_loopw[5] (fun i wr=> ∃k:Nat,k<=s.size/\i=I J k/\okL set (s.data.toList.drop k)=okL set s.data.toList/\Below w.heap.size w wr)
  (fun i _=>s.size-(intOf i).toNat)
 case atStart=>exact ⟨0,Nat.zero_le _,rfl,rfl,Below.refl _ _⟩
 obtain ⟨k,hk,rfl,he,hbel⟩:=hrel;have HE:Hid (okL set (s.data.toList.drop k)=okL set s.data.toList):=he;clear he;have hsz:=hbel.size
 by_cases hlt:k<s.size
 .have hct:=fun W=>GS s k W hlt hs
  have hcl:=pY s k
  by_cases hc:0<=cI s k
  .have HN:Hid (okL set (s.data.toList.drop (k+3))=okL set s.data.toList):=(Na set s k hc).symm.trans HE.out
   have hk3:=nS hc;generalize cI s k=c at hct hcl hc;obtain ⟨hc0,hc1⟩:=hcl;have HC:Hid (∀W,CB 89 #[L s,I J (k:Int)] W (I J c)):=hct;clear hct;go_wp2_with fail;refine (HC.out _).mono ?_;rintro e wb ⟨rfl,bb⟩;have B1:Below w.heap.size w wb:=hbel.trans (bb.mono hsz);clear hbel bb;go_wp2;go_roundw
   case rel=>exact ⟨k+3,om,gn,HN.out,B1⟩
   case measure=>exact j1
  have HX:Hid (okL set (s.data.toList.drop k)=(dX set s[k].toNat&&okL set (s.data.toList.drop (k+1)))):=Kc set s k hlt om;obtain ⟨d,hd⟩: ∃d:Nat,s[k].toNat=d:=⟨_,rfl⟩;have hd1:(d:Int)<=255:=by have:=s[k].toNat_lt;omega
  have hd0:0<=(d:Int):=om;rw[hd]at HX;generalize cI s k=c at hct hcl hc;obtain ⟨hc0,hc1⟩:=hcl;have HC:Hid (∀W,CB 89 #[L s,I J (k:Int)] W (I J c)):=hct;clear hct;have ckk:=fun (W:World) (_:Below w.heap.size w W)=>LZ set (d:Int) W
  simp only[tW]at ckk
  cases hkp:dX set d with
  |true=>
   rw[hkp]at ckk HX;have HN:Hid (okL set (s.data.toList.drop (k+1))=okL set s.data.toList):=by
    show _=_;rw[<-HE.out,HX.out];rfl
   have CK:Hid (∀W,Below w.heap.size w W->CS 90 #[I J set,I J (d:Int)] W (H true)):=ckk;clear ckk hkp;go_wp2_with fail;refine (HC.out _).mono ?_;rintro e wb ⟨rfl,bb⟩;have B1:Below w.heap.size w wb:=hbel.trans (bb.mono hsz);clear hbel bb;go_wp2_with fail;refine (CK.out _ B1).mono ?_;rintro e w' ⟨rfl,rfl⟩;go_wp2;go_roundw
   case rel=>exact ⟨k+1,om,gn,HN.out,B1⟩
   case measure=>exact j1
  |false=>
   rw[hkp]at ckk HX;have HN:Hid (okL set s.data.toList=false):=by
    show _=_;rw[<-HE.out,HX.out];rfl
   have CK:Hid (∀W,Below w.heap.size w W->CS 90 #[I J set,I J (d:Int)] W (H false)):=ckk;clear ckk hkp;go_wp2_with fail;refine (HC.out _).mono ?_;rintro e wb ⟨rfl,bb⟩;have B1:Below w.heap.size w wb:=hbel.trans (bb.mono hsz);clear hbel bb;go_wp2_with fail;refine (CK.out _ B1).mono ?_;rintro e w' ⟨rfl,rfl⟩;go_wp2;go_ret;exact ⟨aF (by rw[Nc HN.out]),B1⟩
 have HX:Hid (okL set s.data.toList=true):=by
  show _=_;rw[<-HE.out,Nb set s k om]
 by_cases hv:1<=set/\set<=3
 .have HV:Hid (okS set s.data.toList=true):=Ke hv HX.out
  have H1:Hid (1<=set/\set<=3):=hv;clear hv;go_wp2_with fail;refine j5 (aI _ _ _ _ H1.out.1 H1.out.2) ?_;go_wp2;go_ret;exact ⟨aF (by rw[HV.out]),hbel⟩
 have HV:Hid (okS set s.data.toList=false):=Kd hv;have H1:Hid (set<1∨3<set):=by show _∨_;omega
 clear hv;go_wp2_with fail;refine j5 (aP _ _ _ _ H1.out) ?_;go_wp2;go_ret;exact ⟨aF (by rw[HV.out]),hbel⟩
