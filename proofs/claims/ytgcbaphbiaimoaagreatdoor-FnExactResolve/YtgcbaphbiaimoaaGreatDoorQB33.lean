/- ResImpl, UrlEq. -/
import Derived.Test.YtgcbaphbiaimoaaGreatDoorQB32
set_option maxHeartbeats 8000000
set_option maxRecDepth 100000
namespace Go.Proofs.YtgcbaphbiaimoaaGreatDoor
open Go.Value renaming int->I,string->L,tuple->H,bool->G,pointer->F,agg->D,iface->N
open Go.IntKind renaming i64->J
open Go.Ending renaming returned->Y
open Go.Obj renaming cells->Z
open _root_.Go.Act renaming put->zm
open _root_.Go.AllReadyH renaming cons->zi,nil->zj
open _root_.Go.RowKit.Below renaming refl->zq
open _root_.List renaming eq_nil_of_length_eq_zero->zk,getElem_cons_succ->zd,getElem_cons_zero->zc,getElem_toArray->zf,map_eq_cons_iff->ze,map_eq_nil_iff->zp,setIfInBounds_toArray->za,set_cons_succ->zh,set_cons_zero->zg
open _root_.Nat renaming le_refl->zl,le_succ->zo
open _root_.Go.World renaming setCells->zn
open _root_.Go.Proofs.Tryz
open _root_.Go.Proofs.YtgcbaphbiaimoaaGreatDoor.Tryz
section
open Go.RowKit
set_option linter.unusedVariables false
set_option linter.unusedSimpArgs false
def qZ(ad:Nat->Addr)(W:World):Prop:=Lib.Utf8Tabs 12 13 W/\Pow W/\cC W/\rI W/\iX W/\QN W/\iV ad W
theorem qZ.later{ad:Nat->Addr}{w W:World}(h:qZ ad w)(hb:Below w.heap.size w W):qZ ad W:=
 ⟨cV h.1 hb,dQ h.2.1 hb,bF h.2.2.1 hb,jV h.2.2.2.1 hb,h.2.2.2.2.1.later hb,JV h.2.2.2.2.2.1 hb,h.2.2.2.2.2.2.later hb⟩
theorem RG{ad:Nat->Addr}{S:ByteArray}{R:Int×UV}{c:Int}{u:UV}{v:Value}(h:R=(c,u))(hv:gV u=v):Ending.returned (H #[v,wO ad S c])=Y (H #[gV R.2,wO ad S R.1]):=by rw[h,hv]
theorem Y0(b:UV)(l:List UInt8):0<=(fU b l).1/\(fU b l).1<=5:=by
 rcases NK b l with ⟨h1,h2,_⟩|⟨h1,_⟩
 .exact ⟨om,h2⟩
 rw[h1];decide
theorem vQ(ad:Nat->Addr)(t:ByteArray)(w:World)(hs:t.size<=1099511627776)(hT:qZ ad w):Calls prog 121 #[L t] w fun e w'=>e=Y (H #[gV (aU t.data.toList).2,wO ad ⟨#[116,104,101,32,119,104,111,108,101,32,97,100,100,114,101,115,115]⟩ (aU t.data.toList).1])/\Below w.heap.size w w':=by
 have HTA:Hid (∀W,Below w.heap.size w W->qZ ad W):=fun W hb=>hT.later hb
 have hrt:=uO t.data.toList;obtain ⟨s,k,n,p,nm,a,r,q,x0,x1,x2,x3,x4,x5,x6,x7,hu⟩:=iW _ (gL t.data.toList);have HN:Hid ((aU t.data.toList).1≠0->(aA s k nm n x0 x1 x2 x3 x4 x5 x6 x7 p a q r)=aM):=fun h=>by
  rcases hrt with ⟨_,_,h3⟩|⟨h3,_⟩
  .rw[hu]at h3
   have e:=congrArg WC h3;exact e
  exact absurd h3 h
 have hrg:0<=(aU t.data.toList).1/\(aU t.data.toList).1<=5:=by
  rcases hrt with ⟨h1,h2,_⟩|⟨h1,_⟩
  .exact ⟨om,h2⟩
  rw[h1];decide
 have CP:Hid (∀W,Below w.heap.size w W->CB 18 #[L t] W (H #[D (aA s k nm n x0 x1 x2 x3 x4 x5 x6 x7 p a q r).toArray,I J (aU t.data.toList).1])):=fun W hb=>by
  have h:=HTA.out W hb;have h2:=RE t W hs h.1 h.2.1 h.2.2.1 h.2.2.2.1 h.2.2.2.2.1 h.2.2.2.2.2.1;rw[hu,eT]at h2;exact h2
 rw[hu,eT];generalize (aU t.data.toList).1=c at CP HN hrg⊢;have CE:Hid (∀W,Below w.heap.size w W->CS 173 #[I J c] W (errI ad c)):=fun W hb=>WK ad c W (HTA.out W hb).2.2.2.2.2.2 hrg.1 hrg.2
 clear hT hrt hu HTA hrg;obtain ⟨O,hO⟩: ∃O,O=w.alloc (Z #[I J 0,I J 0,L ⟨#[]⟩,I J 0,I J 0,I J 0,I J 0,I J 0,I J 0,I J 0,I J 0,I J 0,I J 0,L ⟨#[]⟩,G false,L ⟨#[]⟩] 28):=⟨_,rfl⟩;have HU:Hid (PU w aM O):=by
  rw[hO];exact PU.new w _ _
 go_enter func121,ntmps121
 go_upto_region 1 with fail
 rw[<-hO];clear hO;go_wp2_with fail;refine (CP.out _ HU.out.2).mono ?_;rintro e w1 ⟨rfl,b1⟩;have HU1:Hid (PU w aM w1):=HU.out.later b1;clear b1 HU CP;have HU1a:Hid (PU w aM (w1.alloc (Z #[I J 0,I J 0,L ⟨#[]⟩,I J 0,I J 0,I J 0,I J 0,I J 0,I J 0,I J 0,I J 0,I J 0,I J 0,L ⟨#[]⟩,G false,L ⟨#[]⟩] 28))):=HU1.out.later ((zq _ _).alloc (zl _) _);have hlt:w.heap.size<w1.heap.size:=HU1.out.1.2.2
 go_upto_region 2 with (refine aT (UAt.new w1 _ _) rfl (us:=aA s k nm n x0 x1 x2 x3 x4 x5 x6 x7 p a q r) rfl (aG ..) rfl _ _ rfl rfl rfl ?_;intro w2 HUh HMh)
 have HU2:Hid (PU w aM w2):=HU1a.out.moved hlt HMh;have HV2:Hid (UAt w2 w1.heap.size (aA s k nm n x0 x1 x2 x3 x4 x5 x6 x7 p a q r)):=HUh;clear HUh HMh HU1a HU1 hlt;generalize w1.heap.size=V at HV2⊢
 by_cases hc:c=0
 .subst hc
  go_wp2_with fail;refine (CE.out _ HU2.out.2).mono ?_;rintro e w' ⟨rfl,rfl⟩;rw[show errI ad 0=.nilIface from rfl];go_wp2_with (first|(refine bA HV2.out rfl rfl _ rfl rfl ?_)|(refine aT HU2.out.1 rfl (us:=aA s k nm n x0 x1 x2 x3 x4 x5 x6 x7 p a q r) rfl (aG ..) rfl _ _ rfl rfl rfl ?_;intro w9 HU9 HM9));refine bodyPost_ret (aQ rfl _ _ w.heap.size .nilIface _ rfl rfl rfl HU9) rfl ⟨rfl,HM9.2 _ _ (zl _) HU2.out.2⟩
 have HF:Hid (Value.agg (aA s k nm n x0 x1 x2 x3 x4 x5 x6 x7 p a q r).toArray=D aM.toArray/\wO ad ⟨#[116,104,101,32,119,104,111,108,101,32,97,100,100,114,101,115,115]⟩ c=N 138 (D #[L ⟨#[116,104,101,32,119,104,111,108,101,32,97,100,100,114,101,115,115]⟩,N 261 (F (some (ad c.toNat)))])):=⟨by rw[HN.out hc],uL hc⟩;go_wp2_with fail;refine (CE.out _ HU2.out.2).mono ?_;rintro e w' ⟨rfl,rfl⟩;rw[Jw hc];clear HN CE hc;go_wp2_with (refine aT HU2.out.1 rfl (us:=aM) rfl (aG ..) rfl _ _ rfl rfl rfl ?_;intro w9 HU9 HM9);refine bodyPost_ret (aQ rfl _ _ w.heap.size _ _ rfl rfl rfl HU9) rfl ⟨by rw[HF.out.1,HF.out.2];rfl,HM9.2 _ _ (zl _) HU2.out.2⟩
theorem Gs{s k n p:Int}{nm a r:ByteArray}{q:Bool}{x0 x1 x2 x3 x4 x5 x6 x7:Int}(h:uOk ⟨s,⟨k,nm,n,[x0,x1,x2,x3,x4,x5,x6,x7]⟩,p,a,q,r⟩=true)(T:ByteArray):dV ⟨s,⟨k,nm,n,[x0,x1,x2,x3,x4,x5,x6,x7]⟩,p,a,q,r⟩ T.data.toList=⟨s,⟨k,nm,n,[x0,x1,x2,x3,x4,x5,x6,x7]⟩,p,RB a T,WV q T,RC r T⟩:=by
 rw[Kr h];unfold besI RB WV RC;have hl:T.data.toList.length=T.size:=by simp
 by_cases h0:T.size=0
 .have e:T.data.toList=[]:=zk om
  rw[if_pos e,if_pos h0,if_pos h0,if_pos h0]
 have e: ¬T.data.toList=[]:=fun h=>h0 (by rw[h]at hl;exact hl.symm)
 rw[if_neg e,if_neg h0,if_neg h0,if_neg h0]
 by_cases hu:upB 63 T.data.toList=[]
 .rw[if_pos hu,if_pos (by rw[hu];rfl)]
 rw[if_neg hu,if_neg (fun h=>hu (zk (by rw[cR]at h;exact h)))]
theorem JW(ad:Nat->Addr)(s k n p:Int)(nm a r:ByteArray)(q:Bool)(x0 x1 x2 x3 x4 x5 x6 x7:Int)(S:ByteArray)(w:World)(hs:nm.size<=1048576)(ha:a.size<=1048576)(hr:r.size<=1048576)(hS:S.size<=1099511627776)(hT:qZ ad w):Calls prog 63 #[D #[I J s,I J k,L nm,I J n,I J x0,I J x1,I J x2,I J x3,I J x4,I J x5,I J x6,I J x7,I J p,L a,G q,L r],L S] w fun e w'=>(∃X:ByteArray,e=Y (H #[gV (fU ⟨s,⟨k,nm,n,[x0,x1,x2,x3,x4,x5,x6,x7]⟩,p,a,q,r⟩ S.data.toList).2,wO ad X (fU ⟨s,⟨k,nm,n,[x0,x1,x2,x3,x4,x5,x6,x7]⟩,p,a,q,r⟩ S.data.toList).1]))/\Below w.heap.size w w':=by
 have HTA:Hid (∀W,Below w.heap.size w W->qZ ad W):=fun W hb=>hT.later hb
 have CO:Hid (∀W,Below w.heap.size w W->CB 13 #[D (aA s k nm n x0 x1 x2 x3 x4 x5 x6 x7 p a q r).toArray] W (G (uOk ⟨s,⟨k,nm,n,[x0,x1,x2,x3,x4,x5,x6,x7]⟩,p,a,q,r⟩))):=fun W hb=>uM s k n p nm a r q x0 x1 x2 x3 x4 x5 x6 x7 W hs om om (HTA.out W hb).1 (HTA.out W hb).2.1 (HTA.out W hb).2.2.2.2.1
 have hSl:S.data.toList.length=S.size:=by simp
 obtain ⟨R,hR0⟩: ∃R,R=fU ⟨s,⟨k,nm,n,[x0,x1,x2,x3,x4,x5,x6,x7]⟩,p,a,q,r⟩ S.data.toList:=⟨_,rfl⟩;rw[<-hR0];have HRR:Hid (R=fU ⟨s,⟨k,nm,n,[x0,x1,x2,x3,x4,x5,x6,x7]⟩,p,a,q,r⟩ S.data.toList):=hR0;clear hR0 hT;have hn:=PA.new w s k n p nm a r q x0 x1 x2 x3 x4 x5 x6 x7;obtain ⟨O,hO⟩: ∃O,O=(w.alloc (Z #[I J s,I J k,L nm,I J n,I J x0,I J x1,I J x2,I J x3,I J x4,I J x5,I J x6,I J x7,I J p,L a,G q,L r] 28)).alloc (Z #[I J 0,I J 0,L ⟨#[]⟩,I J 0,I J 0,I J 0,I J 0,I J 0,I J 0,I J 0,I J 0,I J 0,I J 0,L ⟨#[]⟩,G false,L ⟨#[]⟩] 28):=⟨_,rfl⟩;rw[<-hO]at hn;have H0:Hid (PA w (aA s k nm n x0 x1 x2 x3 x4 x5 x6 x7 p a q r) O):=hn;clear hn;go_enter func63,ntmps63
 go_upto_region 1 with fail
 rw[<-hO];clear hO;go_wp2_with (refine bA H0.out.1 rfl rfl _ rfl rfl ?_);refine (CO.out _ H0.out.2.2).mono ?_;rintro e w1 ⟨rfl,b1⟩;have H1:Hid (PA w (aA s k nm n x0 x1 x2 x3 x4 x5 x6 x7 p a q r) w1):=H0.out.later b1;clear b1 H0 CO
 cases hok:uOk ⟨s,⟨k,nm,n,[x0,x1,x2,x3,x4,x5,x6,x7]⟩,p,a,q,r⟩with
 |false=>
  have HZ:Hid (R=(4,cP)):=HRR.out.trans (RF hok);clear hok hSl HRR
  go_upto_region 2 with fail
  refine wp_region_held_drew (S:=PB w (aA s k nm n x0 x1 x2 x3 x4 x5 x6 x7 p a q r)) kr H1.out.drew.any (fun h0=> ?_);have hcell:=(HTA.out _ h0.2.2).2.2.2.2.2.2.c4;refine wpAnyH_take (i:=0) (v:=D aM.toArray) rfl kr kr kr (fun _ _ _ h=>h) (Or.inl ⟨by rfl,fun W hW=> ?_⟩) h0 ?_
  .kernel_rfl
  refine wpAnyH_take (i:=1) (v:=N 261 (F (some (ad 4)))) rfl kr kr kr (fun _ _ _ h=>h) (Or.inl ⟨by rfl,fun W hW=> ?_⟩) h0 ?_
  .have hc:=(HTA.out _ hW.2.2).2.2.2.2.2.2.c4
   clear hW hcell;go_simp
  simp only[zm,zf,zc,zd,za,zg,zh];refine wpAnyH_take (i:=2) (v:=D #[L (⟨#[116,104,101,32,98,97,115,101]⟩:ByteArray),N 261 (F (some (ad 4)))]) rfl kr kr kr (fun _ _ _ h=>h) (Or.inl ⟨by rfl,fun W hW=> ?_⟩) h0 ?_
  .kernel_rfl
  refine wpAnyH_take (i:=3) (v:=N 138 (D #[L (⟨#[116,104,101,32,98,97,115,101]⟩:ByteArray),N 261 (F (some (ad 4)))])) rfl kr kr kr (fun _ _ _ h=>h) (Or.inl ⟨by rfl,fun W hW=> ?_⟩) h0 ?_
  .kernel_rfl
  refine wpAnyH_ready (rs:=[4]) kr j2 (zi rfl (fun K hK=> ?_) zj);rw[if_pos (by rfl)];refine wp_store_mid _ _ _ rfl (w.heap.size+1) 0 aM.toArray rfl rfl h0.there infoUrl (aG ..) ?_;have hst:=h0.stored (us:=aM) rfl;refine hK.out _ _ hst.1 (fun hZ=> ?_);clear hK K h0 hcell;generalize (zn _ (w.heap.size+1) 0 aM.toArray.toList)=w9 at hst hZ⊢;refine wpAnyH_take (i:=5) (v:=N 138 (D #[L (⟨#[116,104,101,32,98,97,115,101]⟩:ByteArray),N 261 (F (some (ad 4)))])) rfl kr kr kr (fun _ _ _ h=>h) (Or.inl ⟨by rfl,fun W hW=> ?_⟩) hZ ?_
  .kernel_rfl
  refine wpAnyH_done kr ?_ _;simp only[zm,zf,zc,zd,za,zg,zh];go_wp2_with fail;refine bodyPost_ret (aQ rfl _ _ (w.heap.size+1) _ _ rfl rfl rfl hst.2) rfl ⟨⟨(⟨#[116,104,101,32,98,97,115,101]⟩:ByteArray),by rw[HZ.out];rfl⟩,hst.1.2.2⟩
 |true=>
  by_cases hbig:2000<S.size
  .have HZ:Hid (R=(1,cP)):=HRR.out.trans (XD hok om)
   have hbi:2000<(S.size:Int):=om;clear hok hSl hbig HRR
   go_upto_region 4 with fail
   refine wp_region_held_drew (S:=PB w (aA s k nm n x0 x1 x2 x3 x4 x5 x6 x7 p a q r)) kr H1.out.drew.any (fun h0=> ?_);have hcell:=(HTA.out _ h0.2.2).2.2.2.2.2.2.c1;refine wpAnyH_take (i:=0) (v:=D aM.toArray) rfl kr kr kr (fun _ _ _ h=>h) (Or.inl ⟨by rfl,fun W hW=> ?_⟩) h0 ?_
   .kernel_rfl
   refine wpAnyH_take (i:=1) (v:=N 261 (F (some (ad 1)))) rfl kr kr kr (fun _ _ _ h=>h) (Or.inl ⟨by rfl,fun W hW=> ?_⟩) h0 ?_
   .have hc:=(HTA.out _ hW.2.2).2.2.2.2.2.2.c1
    clear hW hcell;go_simp
   simp only[zm,zf,zc,zd,za,zg,zh];refine wpAnyH_take (i:=2) (v:=D #[L (⟨#[116,104,101,32,116,101,120,116]⟩:ByteArray),N 261 (F (some (ad 1)))]) rfl kr kr kr (fun _ _ _ h=>h) (Or.inl ⟨by rfl,fun W hW=> ?_⟩) h0 ?_
   .kernel_rfl
   refine wpAnyH_take (i:=3) (v:=N 138 (D #[L (⟨#[116,104,101,32,116,101,120,116]⟩:ByteArray),N 261 (F (some (ad 1)))])) rfl kr kr kr (fun _ _ _ h=>h) (Or.inl ⟨by rfl,fun W hW=> ?_⟩) h0 ?_
   .kernel_rfl
   refine wpAnyH_ready (rs:=[4]) kr j2 (zi rfl (fun K hK=> ?_) zj);rw[if_pos (by rfl)];refine wp_store_mid _ _ _ rfl (w.heap.size+1) 0 aM.toArray rfl rfl h0.there infoUrl (aG ..) ?_;have hst:=h0.stored (us:=aM) rfl;refine hK.out _ _ hst.1 (fun hZ=> ?_);clear hK K h0 hcell;generalize (zn _ (w.heap.size+1) 0 aM.toArray.toList)=w9 at hst hZ⊢;refine wpAnyH_take (i:=5) (v:=N 138 (D #[L (⟨#[116,104,101,32,116,101,120,116]⟩:ByteArray),N 261 (F (some (ad 1)))])) rfl kr kr kr (fun _ _ _ h=>h) (Or.inl ⟨by rfl,fun W hW=> ?_⟩) hZ ?_
   .kernel_rfl
   refine wpAnyH_done kr ?_ _;simp only[zm,zf,zc,zd,za,zg,zh];go_wp2_with fail;refine bodyPost_ret (aQ rfl _ _ (w.heap.size+1) _ _ rfl rfl rfl hst.2) rfl ⟨⟨(⟨#[116,104,101,32,116,101,120,116]⟩:ByteArray),by rw[HZ.out];rfl⟩,hst.1.2.2⟩
  have HR0:R=uR ⟨s,⟨k,nm,n,[x0,x1,x2,x3,x4,x5,x6,x7]⟩,p,a,q,r⟩ (cK S.data.toList):=HRR.out.trans (Gr hok om);have hts:(⟨(cK S.data.toList).toArray⟩:ByteArray).size<=2000:=by
   have h1:=uI S.data.toList;rw[cR];omega
  have CA:Hid (∀W,Below w.heap.size w W->CB 99 #[L S] W (L ⟨(cK S.data.toList).toArray⟩)):=fun W hb=>sG S W om (HTA.out W hb).2.2.2.1
  have HR:Hid (R=uR ⟨s,⟨k,nm,n,[x0,x1,x2,x3,x4,x5,x6,x7]⟩,p,a,q,r⟩ (⟨(cK S.data.toList).toArray⟩:ByteArray).data.toList):=HR0;generalize (⟨(cK S.data.toList).toArray⟩:ByteArray)=T at hts CA HR;have hbi: ¬2000<(S.size:Int):=om;have hss:=nO s;have hdp:=(gG hok).1;clear hSl hbig HR0 HRR;have CSc:Hid (∀W,CB 120 #[L T] W (L ⟨(jA T.data.toList).toArray⟩)):=fun W=>QZ T W om
  have C2:Hid (∀W,CS 122 #[L T] W (G (qY T.data.toList))):=fun W=>JO T W om
  go_wp2_with fail;refine (CA.out _ H1.out.2.2).mono ?_;rintro e w3 ⟨rfl,b3⟩;have HP3:Hid (PA w (aA s k nm n x0 x1 x2 x3 x4 x5 x6 x7 p a q r) w3):=H1.out.later b3;clear b3 H1 CA hbi
  by_cases hsc:jA T.data.toList=[]
  .rw[hsc]at CSc
   have hemp:(⟨([]:List UInt8).toArray⟩:ByteArray).toList.isEmpty=true:=by rw[tK];rfl
   have HSC:Hid (jA T.data.toList=[]):=hsc;clear hsc;generalize (⟨([]:List UInt8).toArray⟩:ByteArray)=E at CSc hemp;go_wp2_with fail;refine (CSc.out _).mono ?_;rintro e w4 ⟨rfl,b4⟩;have HP4:Hid (PA w (aA s k nm n x0 x1 x2 x3 x4 x5 x6 x7 p a q r) w4):=HP3.out.later b4;clear b4 HP3 CSc
   cases h2:qY T.data.toList with
   |false=>
    have HE:Hid (R=oS (dV ⟨s,⟨k,nm,n,[x0,x1,x2,x3,x4,x5,x6,x7]⟩,p,a,q,r⟩ T.data.toList)):=HR.out.trans (EL HSC.out h2);rw[h2]at C2;clear HR HSC h2;go_wp2_with fail;refine (C2.out _).mono ?_;rintro e w' ⟨rfl,rfl⟩;clear C2;obtain ⟨hja,hjr⟩:=zQ ⟨s,⟨k,nm,n,[x0,x1,x2,x3,x4,x5,x6,x7]⟩,p,a,q,r⟩ T ha hr hts;have hbc:=Gs hok T;rw[hbc]at hja hjr;have hja2:(RB a T).size<=4194304:=hja;have hjr2:(RC r T).size<=4194304:=hjr;have HE2:Hid (R=oS ⟨s,⟨k,nm,n,[x0,x1,x2,x3,x4,x5,x6,x7]⟩,p,RB a T,WV q T,RC r T⟩):=HE.out.trans (congrArg oS hbc);have CJ:Hid (∀W,Below w.heap.size w W->CB 123 #[D (aA s k nm n x0 x1 x2 x3 x4 x5 x6 x7 p a q r).toArray,L T] W (D (aA s k nm n x0 x1 x2 x3 x4 x5 x6 x7 p (RB a T) (WV q T) (RC r T)).toArray)):=fun W hb=>ZW s k n p nm a r q x0 x1 x2 x3 x4 x5 x6 x7 T W hs om hr hts (HTA.out W hb).2.2.2.2.1 (HTA.out W hb).2.2.2.1
    clear HE hbc hok hja hjr;generalize RB a T=JA at CJ HE2 hja2;generalize WV q T=JQ at CJ HE2;generalize RC r T=JR at CJ HE2 hjr2;have CT:Hid (∀W,Below w.heap.size w W->CB 12 #[D (aA s k nm n x0 x1 x2 x3 x4 x5 x6 x7 p JA JQ JR).toArray] W (L ⟨(uTx ⟨s,⟨k,nm,n,[x0,x1,x2,x3,x4,x5,x6,x7]⟩,p,JA,JQ,JR⟩).toArray⟩)):=fun W hb=>tH s k n p nm JA JR JQ x0 x1 x2 x3 x4 x5 x6 x7 W hs hja2 hjr2 (HTA.out W hb).1 (HTA.out W hb).2.1 (HTA.out W hb).2.2.1 (HTA.out W hb).2.2.2.2.1
    have HL:Hid (oS ⟨s,⟨k,nm,n,[x0,x1,x2,x3,x4,x5,x6,x7]⟩,p,JA,JQ,JR⟩=if (⟨(uTx ⟨s,⟨k,nm,n,[x0,x1,x2,x3,x4,x5,x6,x7]⟩,p,JA,JQ,JR⟩).toArray⟩:ByteArray).size<=2000 then (0,⟨s,⟨k,nm,n,[x0,x1,x2,x3,x4,x5,x6,x7]⟩,p,JA,JQ,JR⟩)else (1,cP)):=by show _=_;rw[cR];rfl
    generalize (⟨(uTx ⟨s,⟨k,nm,n,[x0,x1,x2,x3,x4,x5,x6,x7]⟩,p,JA,JQ,JR⟩).toArray⟩:ByteArray)=TX at CT HL;go_wp2_with (refine bA HP4.out.1 rfl rfl _ rfl rfl ?_);refine (CJ.out _ HP4.out.2.2).mono ?_;rintro e w5 ⟨rfl,b5⟩;have h5:=HP4.out.later b5;have hlt5:w.heap.size+1<w5.heap.size:=h5.2.1.2.2;have h5a:Hid (PA w (aA s k nm n x0 x1 x2 x3 x4 x5 x6 x7 p a q r) (w5.alloc (Z #[I J 0,I J 0,L ⟨#[]⟩,I J 0,I J 0,I J 0,I J 0,I J 0,I J 0,I J 0,I J 0,I J 0,I J 0,L ⟨#[]⟩,G false,L ⟨#[]⟩] 28))):=h5.later ((zq _ _).alloc (zl _) _);clear b5 HP4 CJ h5
    go_upto_region 11 with (refine aT (UAt.new w5 _ _) rfl (us:=aA s k nm n x0 x1 x2 x3 x4 x5 x6 x7 p JA JQ JR) rfl (aG ..) rfl _ _ rfl rfl rfl ?_;intro w6 HUh HMh)
    have HP6:Hid (PA w (aA s k nm n x0 x1 x2 x3 x4 x5 x6 x7 p a q r) w6):=h5a.out.moved hlt5 HMh;have HV6:Hid (UAt w6 w5.heap.size (aA s k nm n x0 x1 x2 x3 x4 x5 x6 x7 p JA JQ JR)):=HUh;clear HUh HMh h5a hlt5;generalize w5.heap.size=V2 at HV6⊢;go_wp2_with (refine bA HV6.out rfl rfl _ rfl rfl ?_);refine (CT.out _ HP6.out.2.2).mono ?_;rintro e w7 ⟨rfl,b7⟩;have HP7:Hid (PA w (aA s k nm n x0 x1 x2 x3 x4 x5 x6 x7 p a q r) w7):=HP6.out.later b7;have HV7:Hid (UAt w7 V2 (aA s k nm n x0 x1 x2 x3 x4 x5 x6 x7 p JA JQ JR)):=HV6.out.below b7;clear b7 HP6 HV6 CT
    by_cases hfit:2000<(TX.size:Int)
    .have HZ:Hid (R=(1,cP)):=by
      show _=_;rw[HE2.out,HL.out,if_neg om]
     clear HL HE2
     go_upto_region 12 with fail
     refine wp_region_held_drew (S:=PB w (aA s k nm n x0 x1 x2 x3 x4 x5 x6 x7 p a q r)) kr HP7.out.drew.any (fun h0=> ?_);have hcell:=(HTA.out _ h0.2.2).2.2.2.2.2.2.c1;refine wpAnyH_take (i:=0) (v:=D aM.toArray) rfl kr kr kr (fun _ _ _ h=>h) (Or.inl ⟨by rfl,fun W hW=> ?_⟩) h0 ?_
     .kernel_rfl
     refine wpAnyH_take (i:=1) (v:=N 261 (F (some (ad 1)))) rfl kr kr kr (fun _ _ _ h=>h) (Or.inl ⟨by rfl,fun W hW=> ?_⟩) h0 ?_
     .have hc:=(HTA.out _ hW.2.2).2.2.2.2.2.2.c1
      clear hW hcell;go_simp
     simp only[zm,zf,zc,zd,za,zg,zh];refine wpAnyH_take (i:=2) (v:=D #[L (⟨#[119,104,97,116,32,99,111,109,101,115,32,111,102,32,105,116]⟩:ByteArray),N 261 (F (some (ad 1)))]) rfl kr kr kr (fun _ _ _ h=>h) (Or.inl ⟨by rfl,fun W hW=> ?_⟩) h0 ?_
     .kernel_rfl
     refine wpAnyH_take (i:=3) (v:=N 138 (D #[L (⟨#[119,104,97,116,32,99,111,109,101,115,32,111,102,32,105,116]⟩:ByteArray),N 261 (F (some (ad 1)))])) rfl kr kr kr (fun _ _ _ h=>h) (Or.inl ⟨by rfl,fun W hW=> ?_⟩) h0 ?_
     .kernel_rfl
     refine wpAnyH_ready (rs:=[4]) kr j2 (zi rfl (fun K hK=> ?_) zj);rw[if_pos (by rfl)];refine wp_store_mid _ _ _ rfl (w.heap.size+1) 0 aM.toArray rfl rfl h0.there infoUrl (aG ..) ?_;have hst:=h0.stored (us:=aM) rfl;refine hK.out _ _ hst.1 (fun hZ=> ?_);clear hK K h0 hcell;generalize (zn _ (w.heap.size+1) 0 aM.toArray.toList)=w9 at hst hZ⊢;refine wpAnyH_take (i:=5) (v:=N 138 (D #[L (⟨#[119,104,97,116,32,99,111,109,101,115,32,111,102,32,105,116]⟩:ByteArray),N 261 (F (some (ad 1)))])) rfl kr kr kr (fun _ _ _ h=>h) (Or.inl ⟨by rfl,fun W hW=> ?_⟩) hZ ?_
     .kernel_rfl
     refine wpAnyH_done kr ?_ _;simp only[zm,zf,zc,zd,za,zg,zh];go_wp2_with fail;refine bodyPost_ret (aQ rfl _ _ (w.heap.size+1) _ _ rfl rfl rfl hst.2) rfl ⟨⟨(⟨#[119,104,97,116,32,99,111,109,101,115,32,111,102,32,105,116]⟩:ByteArray),by rw[HZ.out];rfl⟩,hst.1.2.2⟩
    have HF:Hid (R=(0,⟨s,⟨k,nm,n,[x0,x1,x2,x3,x4,x5,x6,x7]⟩,p,JA,JQ,JR⟩)):=by
     show _=_;rw[HE2.out,HL.out,if_pos om]
    clear HL HE2;go_wp2_with (first|(refine bA HV7.out rfl rfl _ rfl rfl ?_)|(refine aT HP7.out.2.1 rfl (us:=aA s k nm n x0 x1 x2 x3 x4 x5 x6 x7 p JA JQ JR) rfl (aG ..) rfl _ _ rfl rfl rfl ?_;intro w9 HU9 HM9));refine bodyPost_ret (aQ rfl _ _ (w.heap.size+1) .nilIface _ rfl rfl rfl HU9) rfl ⟨⟨⟨#[]⟩,RG (S:=⟨#[]⟩) HF.out (eT ..)⟩,HM9.2 _ _ (zo _) HP7.out.2.2⟩
   |true=>
    have e2:(uQ s++T).data.toList=gH s++T.data.toList:=by rw[ByteArray.data_append,Array.toList_append,Ks hdp]
    have HE:Hid (R=aU (uQ s++T).data.toList):=by show _=_;rw[e2];exact HR.out.trans (M9 HSC.out h2)
    have hsb:(uQ s).size<=6:=by rw[ZN hdp];exact hss
    have CM:Hid (∀W,CS 32 #[I J s] W (L (uQ s))):=fun W=>oO s W
    rw[h2]at C2;generalize uQ s=SC at CM HE hsb;have hst:(SC++T).size<=2006:=by rw[ByteArray.size_append];omega
    obtain ⟨s2,k2,n2,p2,nm2,a2,r2,q2,y0,y1,y2,y3,y4,y5,y6,y7,hu⟩:=iW _ (gL (SC++T).data.toList);have CP:Hid (∀W,Below w.heap.size w W->CB 121 #[L (SC++T)] W (H #[D (aA s2 k2 nm2 n2 y0 y1 y2 y3 y4 y5 y6 y7 p2 a2 q2 r2).toArray,wO ad ⟨#[116,104,101,32,119,104,111,108,101,32,97,100,100,114,101,115,115]⟩ (aU (SC++T).data.toList).1])):=fun W hb=>by
     have h:=vQ ad (SC++T) W om (HTA.out W hb);rw[hu,eT]at h;exact h
    have HF:Hid (R=((aU (SC++T).data.toList).1,⟨s2,⟨k2,nm2,n2,[y0,y1,y2,y3,y4,y5,y6,y7]⟩,p2,a2,q2,r2⟩)):=by
     show _=_;rw[HE.out,<-hu]
    generalize (aU (SC++T).data.toList).1=c at CP HF;clear hu HE HR HSC h2 e2 hok;have c0:=HP4.out.1.1 0 _ rfl;go_wp2_with fail;refine (C2.out _).mono ?_;rintro e w' ⟨rfl,rfl⟩;clear C2;go_wp2_with fail;refine (CM.out _).mono ?_;rintro e w' ⟨rfl,rfl⟩;clear CM;go_wp2_with fail;refine (CP.out _ HP4.out.2.2).mono ?_;rintro e w5 ⟨rfl,b5⟩;have HP5:Hid (PA w (aA s k nm n x0 x1 x2 x3 x4 x5 x6 x7 p a q r) w5):=HP4.out.later b5;clear b5 HP4 CP c0;go_wp2_with (refine aT HP5.out.2.1 rfl (us:=aA s2 k2 nm2 n2 y0 y1 y2 y3 y4 y5 y6 y7 p2 a2 q2 r2) rfl (aG ..) rfl _ _ rfl rfl rfl ?_;intro w9 HU9 HM9);refine bodyPost_ret (aQ rfl _ _ (w.heap.size+1) (wO ad ⟨#[116,104,101,32,119,104,111,108,101,32,97,100,100,114,101,115,115]⟩ c) _ rfl rfl rfl HU9) rfl ⟨⟨_,RG HF.out (eT ..)⟩,HM9.2 _ _ (zo _) HP5.out.2.2⟩
  have HE:Hid (R=aU T.data.toList):=HR.out.trans (M8 hsc);have hemp:(⟨(jA T.data.toList).toArray⟩:ByteArray).toList.isEmpty=false:=by
   rw[tK]
   cases hl:jA T.data.toList with
   |nil=>exact absurd hl hsc
   |cons _ _=>rfl
  obtain ⟨s2,k2,n2,p2,nm2,a2,r2,q2,y0,y1,y2,y3,y4,y5,y6,y7,hu⟩:=iW _ (gL T.data.toList);have CP:Hid (∀W,Below w.heap.size w W->CB 121 #[L T] W (H #[D (aA s2 k2 nm2 n2 y0 y1 y2 y3 y4 y5 y6 y7 p2 a2 q2 r2).toArray,wO ad ⟨#[116,104,101,32,119,104,111,108,101,32,97,100,100,114,101,115,115]⟩ (aU T.data.toList).1])):=fun W hb=>by
   have h:=vQ ad T W om (HTA.out W hb);rw[hu,eT]at h;exact h
  have HF:Hid (R=((aU T.data.toList).1,⟨s2,⟨k2,nm2,n2,[y0,y1,y2,y3,y4,y5,y6,y7]⟩,p2,a2,q2,r2⟩)):=by
   show _=_;rw[HE.out,<-hu]
  generalize (aU T.data.toList).1=c at CP HF;generalize (⟨(jA T.data.toList).toArray⟩:ByteArray)=E at CSc hemp;clear hu HE hsc HR hok C2;go_wp2_with fail;refine (CSc.out _).mono ?_;rintro e w4 ⟨rfl,b4⟩;have HP4:Hid (PA w (aA s k nm n x0 x1 x2 x3 x4 x5 x6 x7 p a q r) w4):=HP3.out.later b4;clear b4 HP3 CSc;go_wp2_with fail;refine (CP.out _ HP4.out.2.2).mono ?_;rintro e w5 ⟨rfl,b5⟩;have HP5:Hid (PA w (aA s k nm n x0 x1 x2 x3 x4 x5 x6 x7 p a q r) w5):=HP4.out.later b5;clear b5 HP4 CP;go_wp2_with (refine aT HP5.out.2.1 rfl (us:=aA s2 k2 nm2 n2 y0 y1 y2 y3 y4 y5 y6 y7 p2 a2 q2 r2) rfl (aG ..) rfl _ _ rfl rfl rfl ?_;intro w9 HU9 HM9);refine bodyPost_ret (aQ rfl _ _ (w.heap.size+1) (wO ad ⟨#[116,104,101,32,119,104,111,108,101,32,97,100,100,114,101,115,115]⟩ c) _ rfl rfl rfl HU9) rfl ⟨⟨_,RG HF.out (eT ..)⟩,HM9.2 _ _ (zo _) HP5.out.2.2⟩
theorem BH(b:UV)(h:b.h.z.length=8)(l:List UInt8):(fU b l).2.h.z.length=8:=by
 unfold fU;split
 .split
  .rfl
  unfold uR;split
  .exact gL _
  split
  .exact gL _
  unfold oS;split
  .rw[zP]
   exact h
  rfl
 rfl
def PR(w:World)(V:Nat)(us:List Value)(W:World):Prop:=UAt W V us/\(∃vs:List Value,vs.length=16/\UAt W (w.heap.size+1) vs)/\Below w.heap.size w W/\w.heap.size+1<V
theorem PR.later{w:World}{V:Nat}{us:List Value}{W W':World}(h:PR w V us W)(hb:Below W.heap.size W W'):PR w V us W':=by
 obtain ⟨h1,⟨vs,hl,h2⟩,h3,h4⟩:=h;exact ⟨h1.below hb,⟨vs,hl,h2.below hb⟩,h3.trans (hb.mono h3.size),h4⟩
theorem PR.drew{w:World}{V:Nat}{us:List Value}{W:World}(h:PR w V us W):PR w V us W.drew:=by
 obtain ⟨h1,⟨vs,hl,h2⟩,h3,h4⟩:=h;exact ⟨h1,⟨vs,hl,h2⟩,h3.drew,h4⟩
theorem PR.there{w:World}{V:Nat}{us:List Value}{W:World}(h:PR w V us W):W.there (w.heap.size+1) 0 16:=by
 obtain ⟨h1,⟨vs,hl,h2⟩,h3⟩:=h;exact h2.there 0 16 om
theorem PR.stored{w:World}{V:Nat}{us xs:List Value}{W:World}(h:PR w V us W)(hm:xs.length=16):PR w V us (W.setCells (w.heap.size+1) 0 xs.toArray.toList)/\UAt (W.setCells (w.heap.size+1) 0 xs.toArray.toList) (w.heap.size+1) xs:=by
 obtain ⟨h1,⟨vs,hl,h2⟩,h3,h4⟩:=h;have hs:=fZ h2 hl hm;exact ⟨⟨(bW _ _ _).1 _ _ om h1,⟨xs,hm,hs⟩,(bW _ _ _).2 _ _ (zo _) h3,h4⟩,hs⟩
theorem tP(ad:Nat->Addr)(s k n p:Int)(nm a r:ByteArray)(q:Bool)(x0 x1 x2 x3 x4 x5 x6 x7:Int)(S:ByteArray)(w:World)(hs:nm.size<=1048576)(ha:a.size<=1048576)(hr:r.size<=1048576)(hS:S.size<=1099511627776)(hT:qZ ad w):Calls prog 22 #[D #[I J s,I J k,L nm,I J n,I J x0,I J x1,I J x2,I J x3,I J x4,I J x5,I J x6,I J x7,I J p,L a,G q,L r],L S] w fun e w'=>e=Y (H #[gV (fU ⟨s,⟨k,nm,n,[x0,x1,x2,x3,x4,x5,x6,x7]⟩,p,a,q,r⟩ S.data.toList).2,I J (fU ⟨s,⟨k,nm,n,[x0,x1,x2,x3,x4,x5,x6,x7]⟩,p,a,q,r⟩ S.data.toList).1])/\Below w.heap.size w w':=by
 have HTA:Hid (∀W,Below w.heap.size w W->qZ ad W):=fun W hb=>hT.later hb
 have hrg:=Y0 ⟨s,⟨k,nm,n,[x0,x1,x2,x3,x4,x5,x6,x7]⟩,p,a,q,r⟩ S.data.toList;obtain ⟨s2,k2,n2,p2,nm2,a2,r2,q2,y0,y1,y2,y3,y4,y5,y6,y7,hu⟩:=iW _ (BH ⟨s,⟨k,nm,n,[x0,x1,x2,x3,x4,x5,x6,x7]⟩,p,a,q,r⟩ rfl S.data.toList);have CB:Hid (∀W,Below w.heap.size w W->Calls prog 63 #[D (aA s k nm n x0 x1 x2 x3 x4 x5 x6 x7 p a q r).toArray,L S] W fun e w'=>(∃X:ByteArray,e=Y (H #[D (aA s2 k2 nm2 n2 y0 y1 y2 y3 y4 y5 y6 y7 p2 a2 q2 r2).toArray,wO ad X (fU ⟨s,⟨k,nm,n,[x0,x1,x2,x3,x4,x5,x6,x7]⟩,p,a,q,r⟩ S.data.toList).1]))/\Below W.heap.size W w'):=fun W hb=>by
  have h:=JW ad s k n p nm a r q x0 x1 x2 x3 x4 x5 x6 x7 S W hs ha hr hS (HTA.out W hb);rw[hu,eT]at h;exact h
 rw[hu,eT];generalize (fU ⟨s,⟨k,nm,n,[x0,x1,x2,x3,x4,x5,x6,x7]⟩,p,a,q,r⟩ S.data.toList).1=c at CB hrg⊢;have CF:Hid (∀X W,Below w.heap.size w W->Calls prog 64 #[wO ad X c] W fun e w'=>e=Y (I J c)/\Below W.heap.size W w'):=fun X W hb=>WL ad X c W (HTA.out W hb).2.2.2.2.2.2 hrg.1 hrg.2
 clear hT hu hrg HTA;have hn:=PA.new w s k n p nm a r q x0 x1 x2 x3 x4 x5 x6 x7;obtain ⟨O,hO⟩: ∃O,O=(w.alloc (Z #[I J s,I J k,L nm,I J n,I J x0,I J x1,I J x2,I J x3,I J x4,I J x5,I J x6,I J x7,I J p,L a,G q,L r] 28)).alloc (Z #[I J 0,I J 0,L ⟨#[]⟩,I J 0,I J 0,I J 0,I J 0,I J 0,I J 0,I J 0,I J 0,I J 0,I J 0,L ⟨#[]⟩,G false,L ⟨#[]⟩] 28):=⟨_,rfl⟩;rw[<-hO]at hn;have H0:Hid (PA w (aA s k nm n x0 x1 x2 x3 x4 x5 x6 x7 p a q r) O):=hn;clear hn;go_enter func22,ntmps22
 go_upto_region 1 with fail
 rw[<-hO];clear hO;go_wp2_with (refine bA H0.out.1 rfl rfl _ rfl rfl ?_);refine (CB.out _ H0.out.2.2).mono ?_;rintro e w1 ⟨⟨X,rfl⟩,b1⟩;have h1:=H0.out.later b1;have hlt:w.heap.size+1<w1.heap.size:=h1.2.1.2.2;have H1a:Hid (PA w (aA s k nm n x0 x1 x2 x3 x4 x5 x6 x7 p a q r) (w1.alloc (Z #[I J 0,I J 0,L ⟨#[]⟩,I J 0,I J 0,I J 0,I J 0,I J 0,I J 0,I J 0,I J 0,I J 0,I J 0,L ⟨#[]⟩,G false,L ⟨#[]⟩] 28))):=h1.later ((zq _ _).alloc (zl _) _);have CF2:Hid (∀W,Below w.heap.size w W->Calls prog 64 #[wO ad X c] W fun e w'=>e=Y (I J c)/\Below W.heap.size W w'):=CF.out X;generalize wO ad X c=ev at CF2⊢;clear b1 h1 H0 CB CF
 go_upto_region 2 with (refine aT (UAt.new w1 _ _) rfl (us:=aA s2 k2 nm2 n2 y0 y1 y2 y3 y4 y5 y6 y7 p2 a2 q2 r2) rfl (aG ..) rfl _ _ rfl rfl rfl ?_;intro w2 HUh HMh)
 have H2:=H1a.out.moved hlt HMh;have HR:Hid (PR w w1.heap.size (aA s2 k2 nm2 n2 y0 y1 y2 y3 y4 y5 y6 y7 p2 a2 q2 r2) w2):=⟨HUh,⟨_,rfl,H2.2.1⟩,H2.2.2,hlt⟩;clear HUh HMh H1a H2 hlt;generalize w1.heap.size=V at HR⊢;refine wp_region_held_drew (S:=PR w V (aA s2 k2 nm2 n2 y0 y1 y2 y3 y4 y5 y6 y7 p2 a2 q2 r2)) kr HR.out.drew (fun h0=> ?_);clear HR;refine wpAnyH_take (i:=0) (v:=D (aA s2 k2 nm2 n2 y0 y1 y2 y3 y4 y5 y6 y7 p2 a2 q2 r2).toArray) rfl kr kr kr (fun _ _ _ h=>h) (yieldsIf_load_mid (by rfl) _ _ rfl V 0 rfl (aA s2 k2 nm2 n2 y0 y1 y2 y3 y4 y5 y6 y7 p2 a2 q2 r2) _ (fun W hW=>hW.1.range 0 _ (fun j v hv=>by rw[Nat.zero_add];exact hv)) underlying28 rfl infoUrl) h0 ?_;simp only[zm,zf,zc,zd,za,zg,zh];refine wpAnyH_take (i:=1) (v:= ?_) rfl kr kr kr (fun _ _ _ h=>h) (Or.inl ⟨by rfl,fun W hW=> ?_⟩) h0 ?_;rotate_left
 .clear hW
  go_simp
  try with_reducible rfl
 simp only[zm,zf,zc,zd,za,zg,zh];refine wpAnyH_ready (rs:=[2]) kr j2 (zi rfl (fun K hK=> ?_) zj);go_simp;go_wp2_with (go_at_call 64;refine j6 (CF2.out _ h0.2.2.1) fun wq1 hb1=>?_);refine hK.out _ _ (PR.later h0 hb1) (fun h1=> ?_);clear hK K h0 CF2;refine wpAnyH_ready (rs:=[3]) kr j2 (zi rfl (fun K hK=> ?_) zj);rw[if_pos (by rfl)];refine wp_store_mid _ _ _ rfl (w.heap.size+1) 0 (aA s2 k2 nm2 n2 y0 y1 y2 y3 y4 y5 y6 y7 p2 a2 q2 r2).toArray rfl rfl h1.there infoUrl (aG ..) ?_;have hst:=h1.stored (xs:=aA s2 k2 nm2 n2 y0 y1 y2 y3 y4 y5 y6 y7 p2 a2 q2 r2) rfl;refine hK.out _ _ hst.1 (fun hZ=> ?_);clear hK K h1;generalize wq1.setCells (w.heap.size+1) 0 (aA s2 k2 nm2 n2 y0 y1 y2 y3 y4 y5 y6 y7 p2 a2 q2 r2).toArray.toList=w9 at hst hZ⊢;refine wpAnyH_take (i:=4) (v:=I J c) rfl kr kr kr (fun _ _ _ h=>h) (Or.inl ⟨by rfl,fun W hW=> ?_⟩) hZ ?_
 .kernel_rfl
 refine wpAnyH_done kr ?_ _;simp only[zm,zf,zc,zd,za,zg,zh];go_wp2_with fail;refine bodyPost_ret (aQ rfl _ _ (w.heap.size+1) (I J c) _ rfl rfl rfl hst.2) rfl ⟨rfl,hst.1.2.2.1⟩
end
section
open Go.RowKit
theorem Ku(d:Nat)(k:Int)(s:ByteArray)(n:Int)(x0 x1 x2 x3 x4 x5 x6 x7:Int)(W:World):
  (Op.equalIn (d+3) 26 (D #[I J k,L s,I J n,I J x0,I J x1,I J x2,I J x3,I J x4,I J x5,I J x6,I J x7]) (D #[I J k,L s,I J n,I J x0,I J x1,I J x2,I J x3,I J x4,I J x5,I J x6,I J x7])).run prog W=.ok true W:=by
 rw[run_equalIn_struct W (d+2) 26 _ _ kr kr];have hf:=BZ;generalize (prog.fieldsOf 26).toList=fs at hf;obtain ⟨f0,r0,rfl,e0,hf⟩:=ze.1 hf;obtain ⟨f1,r1,rfl,e1,hf⟩:=ze.1 hf;obtain ⟨f2,r2,rfl,e2,hf⟩:=ze.1 hf;obtain ⟨f3,r3,rfl,e3,hf⟩:=ze.1 hf
 obtain rfl:=zp.1 hf
 simp only[Prod.mk.injEq,decide_eq_true_eq]at e0 e1 e2 e3;obtain ⟨a0,a1,a2⟩:=e0;obtain ⟨b0,b1,b2⟩:=e1;obtain ⟨c0,c1,c2⟩:=e2;obtain ⟨d0,d1,d2⟩:=e3;rw[dH (d+2) f0 _ _ _ (I J k) (I J k) true W a2 (by rw[a0,a1];exact J0 ..) (by rw[a0,a1];exact J0 ..) (by rw[a0,wF (d+1)];simp),
  dH (d+2) f1 _ _ _ (L s) (L s) true W b2 (by rw[b0,b1];exact J1 ..) (by rw[b0,b1];exact J1 ..) (by rw[b0,PY (d+1)];simp),
  dH (d+2) f2 _ _ _ (I J n) (I J n) true W c2 (by rw[c0,c1];exact J2 ..) (by rw[c0,c1];exact J2 ..) (by rw[c0,wF (d+1)];simp),
  dH (d+2) f3 _ _ _ (D #[I J x0,I J x1,I J x2,I J x3,I J x4,I J x5,I J x6,I J x7]) (D #[I J x0,I J x1,I J x2,I J x3,I J x4,I J x5,I J x6,I J x7]) true W d2 (by rw[d0,d1];exact J3 ..) (by rw[d0,d1];exact J3 ..) (by rw[d0,eqA d,Dl])]
 rfl
theorem A5:((prog.fieldsOf 28).toList.map fun f=>(f.type,f.offset,decide (f.name≠ "_")))=[(3,0,true),(26,1,true),(3,12,true),(9,13,true),(4,14,true),(9,15,true)]:=kr
theorem Gt(s k n p:Int)(nm a r:ByteArray)(q:Bool)(x0 x1 x2 x3 x4 x5 x6 x7:Int)(W:World):(part 3 #[I J s,I J k,L nm,I J n,I J x0,I J x1,I J x2,I J x3,I J x4,I J x5,I J x6,I J x7,I J p,L a,G q,L r] 0).run prog W=.ok (I J s) W:=kr
theorem Gu(s k n p:Int)(nm a r:ByteArray)(q:Bool)(x0 x1 x2 x3 x4 x5 x6 x7:Int)(W:World):(part 26 #[I J s,I J k,L nm,I J n,I J x0,I J x1,I J x2,I J x3,I J x4,I J x5,I J x6,I J x7,I J p,L a,G q,L r] 1).run prog W=.ok (D #[I J k,L nm,I J n,I J x0,I J x1,I J x2,I J x3,I J x4,I J x5,I J x6,I J x7]) W:=kr
theorem Gv(s k n p:Int)(nm a r:ByteArray)(q:Bool)(x0 x1 x2 x3 x4 x5 x6 x7:Int)(W:World):(part 3 #[I J s,I J k,L nm,I J n,I J x0,I J x1,I J x2,I J x3,I J x4,I J x5,I J x6,I J x7,I J p,L a,G q,L r] 12).run prog W=.ok (I J p) W:=kr
theorem Gw(s k n p:Int)(nm a r:ByteArray)(q:Bool)(x0 x1 x2 x3 x4 x5 x6 x7:Int)(W:World):(part 9 #[I J s,I J k,L nm,I J n,I J x0,I J x1,I J x2,I J x3,I J x4,I J x5,I J x6,I J x7,I J p,L a,G q,L r] 13).run prog W=.ok (L a) W:=kr
theorem Gx(s k n p:Int)(nm a r:ByteArray)(q:Bool)(x0 x1 x2 x3 x4 x5 x6 x7:Int)(W:World):(part 4 #[I J s,I J k,L nm,I J n,I J x0,I J x1,I J x2,I J x3,I J x4,I J x5,I J x6,I J x7,I J p,L a,G q,L r] 14).run prog W=.ok (G q) W:=kr
theorem Gy(s k n p:Int)(nm a r:ByteArray)(q:Bool)(x0 x1 x2 x3 x4 x5 x6 x7:Int)(W:World):(part 9 #[I J s,I J k,L nm,I J n,I J x0,I J x1,I J x2,I J x3,I J x4,I J x5,I J x6,I J x7,I J p,L a,G q,L r] 15).run prog W=.ok (L r) W:=kr
theorem Kv(d:Nat)(x:Bool)(W:World):(Op.equalIn (d+1) 4 (G x) (G x)).run prog W=.ok true W:=by
 cases x<;>kernel_rfl
theorem eqU(s k n p:Int)(nm a r:ByteArray)(q:Bool)(x0 x1 x2 x3 x4 x5 x6 x7:Int)(W:World):
  (Op.equalIn 10000 28 (D #[I J s,I J k,L nm,I J n,I J x0,I J x1,I J x2,I J x3,I J x4,I J x5,I J x6,I J x7,I J p,L a,G q,L r]) (D #[I J s,I J k,L nm,I J n,I J x0,I J x1,I J x2,I J x3,I J x4,I J x5,I J x6,I J x7,I J p,L a,G q,L r])).run prog W=.ok true W:=by
 rw[show (10000:Nat)=9999+1 from rfl,run_equalIn_struct W 9999 28 _ _ kr kr];have hf:=A5;generalize (prog.fieldsOf 28).toList=fs at hf;obtain ⟨f0,r0,rfl,e0,hf⟩:=ze.1 hf;obtain ⟨f1,r1,rfl,e1,hf⟩:=ze.1 hf;obtain ⟨f2,r2,rfl,e2,hf⟩:=ze.1 hf;obtain ⟨f3,r3,rfl,e3,hf⟩:=ze.1 hf;obtain ⟨f4,r4,rfl,e4,hf⟩:=ze.1 hf;obtain ⟨f5,r5,rfl,e5,hf⟩:=ze.1 hf
 obtain rfl:=zp.1 hf
 simp only[Prod.mk.injEq,decide_eq_true_eq]at e0 e1 e2 e3 e4 e5;obtain ⟨a0,a1,a2⟩:=e0;obtain ⟨b0,b1,b2⟩:=e1;obtain ⟨c0,c1,c2⟩:=e2;obtain ⟨d0,d1,d2⟩:=e3;obtain ⟨g0,g1,g2⟩:=e4;obtain ⟨h0,h1,h2⟩:=e5;rw[dH 9999 f0 _ _ _ (I J s) (I J s) true W a2 (by rw[a0,a1];exact Gt ..) (by rw[a0,a1];exact Gt ..) (by rw[a0,wF 9998];simp),
  dH 9999 f1 _ _ _ (D #[I J k,L nm,I J n,I J x0,I J x1,I J x2,I J x3,I J x4,I J x5,I J x6,I J x7]) (D #[I J k,L nm,I J n,I J x0,I J x1,I J x2,I J x3,I J x4,I J x5,I J x6,I J x7]) true W b2 (by rw[b0,b1];exact Gu ..) (by rw[b0,b1];exact Gu ..) (by rw[b0];exact Ku 9996 ..),
  dH 9999 f2 _ _ _ (I J p) (I J p) true W c2 (by rw[c0,c1];exact Gv ..) (by rw[c0,c1];exact Gv ..) (by rw[c0,wF 9998];simp),
  dH 9999 f3 _ _ _ (L a) (L a) true W d2 (by rw[d0,d1];exact Gw ..) (by rw[d0,d1];exact Gw ..) (by rw[d0,PY 9998];simp),
  dH 9999 f4 _ _ _ (G q) (G q) true W g2 (by rw[g0,g1];exact Gx ..) (by rw[g0,g1];exact Gx ..) (by rw[g0];exact Kv 9998 ..),
  dH 9999 f5 _ _ _ (L r) (L r) true W h2 (by rw[h0,h1];exact Gy ..) (by rw[h0,h1];exact Gy ..) (by rw[h0,PY 9998];simp)]
 rfl
theorem zR{ops:Array Oper}{rest:List Oper}{o:Oper}{a:Act}{W:World}{Q:Exit->Act->World->Prop}{B:Nat}{vs:List Value}(hU:UAt W B vs)(hl:vs.length=16)(hw:Region.wanted o (yielded ops a.tmps)=true)(x:Operand)(ho:o.op=.load 28 x)
  (hx:a.eval x=F (some ⟨B,0,none⟩)) (h:wpList prog ops Q rest (a.put o.dst (D vs.toArray)) W):wpList prog ops Q (o::rest) a W:=by
 obtain ⟨d,hd1,hd2⟩:=rowUrl;refine wpList_step fun K hK=> ?_
 rw[if_pos hw];exact wp_load_mid _ x ho B 0 hx vs d (hU.range 0 vs (fun j v hv=>by rw[Nat.zero_add];exact hv)) hd1 hd2 (by rw[hl];exact infoUrl) (hK _ _ h)
