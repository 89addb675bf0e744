/- ResImpl, RelBack. -/
import Derived.Test.YtgcbaphbiaimoaaGreatDoorQF34
set_option maxHeartbeats 8000000
set_option maxRecDepth 100000
namespace Go.Proofs.YtgcbaphbiaimoaaGreatDoor
open Go.Value renaming int->I,string->L,tuple->H,bool->G,pointer->F,agg->D,iface->Q
open Go.IntKind renaming i64->J
open Go.Ending renaming returned->Y
open Go.Obj renaming cells->Z
open _root_.Go.Act renaming put->zl
open _root_.Go.AllReadyH renaming cons->zi,nil->zj
open _root_.Go.RowKit.Below renaming refl->zm
open _root_.List renaming eq_nil_of_length_eq_zero->zk,getElem_cons_succ->zd,getElem_cons_zero->zc,getElem_toArray->ze,setIfInBounds_toArray->za,set_cons_succ->zg,set_cons_zero->zf
open _root_.Nat renaming le_refl->zh,le_succ->zo
open _root_.Go.World renaming setCells->zn
open _root_.Go.Proofs.Tryz
open _root_.Go.Proofs.YtgcbaphbiaimoaaGreatDoor.Tryz
section
open Go.RowKit
set_option linter.unusedVariables false
set_option linter.unusedSimpArgs false
def nS(ad:Nat->Addr)(W:World):Prop:=Lib.Utf8Tabs 12 13 W/\Pow W/\bK W/\qE W/\gG W/\LJ W/\gW ad W
theorem nS.later{ad:Nat->Addr}{w W:World}(h:nS ad w)(hb:Below w.heap.size w W):nS ad W:=
 ⟨bW h.1 hb,cN h.2.1 hb,aT h.2.2.1 hb,iM h.2.2.2.1 hb,h.2.2.2.2.1.later hb,FT h.2.2.2.2.2.1 hb,h.2.2.2.2.2.2.later hb⟩
theorem NN{ad:Nat->Addr}{S:ByteArray}{R:Int×UV}{c:Int}{u:UV}{v:Value}(h:R=(c,u))(hv:rD u=v):Ending.returned (H #[v,vA ad S c])=Y (H #[rD R.2,vA ad S R.1]):=by rw[h,hv]
theorem KS(b:UV)(l:List UInt8):0<=(gB b l).1/\(gB b l).1<=5:=by
 rcases I6 b l with ⟨h1,h2,_⟩|⟨h1,_⟩
 .exact ⟨om,h2⟩
 rw[h1];decide
theorem uC(ad:Nat->Addr)(t:ByteArray)(w:World)(hs:t.size<=1099511627776)(hT:nS ad w):Calls prog 121 #[L t] w fun e w'=>e=Y (H #[rD (cG t.data.toList).2,vA ad ⟨#[116,104,101,32,119,104,111,108,101,32,97,100,100,114,101,115,115]⟩ (cG t.data.toList).1])/\Below w.heap.size w w':=by
 have HTA:Hid (∀W,Below w.heap.size w W->nS ad W):=fun W hb=>hT.later hb
 have hrt:=tC t.data.toList;obtain ⟨s,k,n,p,nm,a,r,q,x0,x1,x2,x3,x4,x5,x6,x7,hu⟩:=kG _ (iW t.data.toList);have HN:Hid ((cG t.data.toList).1≠0->(aC s k nm n x0 x1 x2 x3 x4 x5 x6 x7 p a q r)=aY):=fun h=>by
  rcases hrt with ⟨_,_,h3⟩|⟨h3,_⟩
  .rw[hu]at h3
   have e:=congrArg ZD h3;exact e
  exact absurd h3 h
 have hrg:0<=(cG t.data.toList).1/\(cG t.data.toList).1<=5:=by
  rcases hrt with ⟨h1,h2,_⟩|⟨h1,_⟩
  .exact ⟨om,h2⟩
  rw[h1];decide
 have CP:Hid (∀W,Below w.heap.size w W->CB 18 #[L t] W (H #[D (aC s k nm n x0 x1 x2 x3 x4 x5 x6 x7 p a q r).toArray,I J (cG t.data.toList).1])):=fun W hb=>by
  have h:=HTA.out W hb;have h2:=NM t W hs h.1 h.2.1 h.2.2.1 h.2.2.2.1 h.2.2.2.2.1 h.2.2.2.2.2.1;rw[hu,iG]at h2;exact h2
 rw[hu,iG];generalize (cG t.data.toList).1=c at CP HN hrg⊢;have CE:Hid (∀W,Below w.heap.size w W->CS 173 #[I J c] W (errI ad c)):=fun W hb=>TE ad c W (HTA.out W hb).2.2.2.2.2.2 hrg.1 hrg.2
 clear hT hrt hu HTA hrg;obtain ⟨O,hO⟩: ∃O,O=w.alloc (Z #[I J 0,I J 0,L ⟨#[]⟩,I J 0,I J 0,I J 0,I J 0,I J 0,I J 0,I J 0,I J 0,I J 0,I J 0,L ⟨#[]⟩,G false,L ⟨#[]⟩] 28):=⟨_,rfl⟩;have HU:Hid (PU w aY O):=by
  rw[hO];exact PU.new w _ _
 go_enter func121,ntmps121
 go_upto_region 1 with fail
 rw[<-hO];clear hO;go_wp2_with fail;refine (CP.out _ HU.out.2).mono ?_;rintro e w1 ⟨rfl,b1⟩;have HU1:Hid (PU w aY w1):=HU.out.later b1;clear b1 HU CP;have HU1a:Hid (PU w aY (w1.alloc (Z #[I J 0,I J 0,L ⟨#[]⟩,I J 0,I J 0,I J 0,I J 0,I J 0,I J 0,I J 0,I J 0,I J 0,I J 0,L ⟨#[]⟩,G false,L ⟨#[]⟩] 28))):=HU1.out.later ((zm _ _).alloc (zh _) _);have hlt:w.heap.size<w1.heap.size:=HU1.out.1.2.2
 go_upto_region 2 with (refine dI (UAt.new w1 _ _) rfl (us:=aC s k nm n x0 x1 x2 x3 x4 x5 x6 x7 p a q r) rfl (aS ..) rfl _ _ rfl rfl rfl ?_;intro w2 HUh HMh)
 have HU2:Hid (PU w aY w2):=HU1a.out.moved hlt HMh;have HV2:Hid (UAt w2 w1.heap.size (aC s k nm n x0 x1 x2 x3 x4 x5 x6 x7 p a q r)):=HUh;clear HUh HMh HU1a HU1 hlt;generalize w1.heap.size=V at HV2⊢
 by_cases hc:c=0
 .subst hc
  go_wp2_with fail;refine (CE.out _ HU2.out.2).mono ?_;rintro e w' ⟨rfl,rfl⟩;rw[show errI ad 0=.nilIface from rfl];go_wp2_with (first|(refine bU HV2.out rfl rfl _ rfl rfl ?_)|(refine dI HU2.out.1 rfl (us:=aC s k nm n x0 x1 x2 x3 x4 x5 x6 x7 p a q r) rfl (aS ..) rfl _ _ rfl rfl rfl ?_;intro w9 HU9 HM9));refine bodyPost_ret (cB rfl _ _ w.heap.size .nilIface _ rfl rfl rfl HU9) rfl ⟨rfl,HM9.2 _ _ (zh _) HU2.out.2⟩
 have HF:Hid (Value.agg (aC s k nm n x0 x1 x2 x3 x4 x5 x6 x7 p a q r).toArray=D aY.toArray/\vA ad ⟨#[116,104,101,32,119,104,111,108,101,32,97,100,100,114,101,115,115]⟩ c=Q 138 (D #[L ⟨#[116,104,101,32,119,104,111,108,101,32,97,100,100,114,101,115,115]⟩,Q 261 (F (some (ad c.toNat)))])):=⟨by rw[HN.out hc],tD hc⟩;go_wp2_with fail;refine (CE.out _ HU2.out.2).mono ?_;rintro e w' ⟨rfl,rfl⟩;rw[Ff hc];clear HN CE hc;go_wp2_with (refine dI HU2.out.1 rfl (us:=aY) rfl (aS ..) rfl _ _ rfl rfl rfl ?_;intro w9 HU9 HM9);refine bodyPost_ret (cB rfl _ _ w.heap.size _ _ rfl rfl rfl HU9) rfl ⟨by rw[HF.out.1,HF.out.2];rfl,HM9.2 _ _ (zh _) HU2.out.2⟩
theorem Bz{s k n p:Int}{nm a r:ByteArray}{q:Bool}{x0 x1 x2 x3 x4 x5 x6 x7:Int}(h:uOk ⟨s,⟨k,nm,n,[x0,x1,x2,x3,x4,x5,x6,x7]⟩,p,a,q,r⟩=true)(T:ByteArray):mH ⟨s,⟨k,nm,n,[x0,x1,x2,x3,x4,x5,x6,x7]⟩,p,a,q,r⟩ T.data.toList=⟨s,⟨k,nm,n,[x0,x1,x2,x3,x4,x5,x6,x7]⟩,p,NK a T,TG q T,NL r T⟩:=by
 rw[Fe h];unfold besI NK TG NL;have hl:T.data.toList.length=T.size:=by simp
 by_cases h0:T.size=0
 .have e:T.data.toList=[]:=zk om
  rw[if_pos e,if_pos h0,if_pos h0,if_pos h0]
 have e: ¬T.data.toList=[]:=fun h=>h0 (by rw[h]at hl;exact hl.symm)
 rw[if_neg e,if_neg h0,if_neg h0,if_neg h0]
 by_cases hu:upB 63 T.data.toList=[]
 .rw[if_pos hu,if_pos (by rw[hu];rfl)]
 rw[if_neg hu,if_neg (fun h=>hu (zk (by rw[dO]at h;exact h)))]
theorem FU(ad:Nat->Addr)(s k n p:Int)(nm a r:ByteArray)(q:Bool)(x0 x1 x2 x3 x4 x5 x6 x7:Int)(S:ByteArray)(w:World)(hs:nm.size<=1048576)(ha:a.size<=1048576)(hr:r.size<=1048576)(hS:S.size<=1099511627776)(hT:nS ad w):Calls prog 63 #[D #[I J s,I J k,L nm,I J n,I J x0,I J x1,I J x2,I J x3,I J x4,I J x5,I J x6,I J x7,I J p,L a,G q,L r],L S] w fun e w'=>(∃X:ByteArray,e=Y (H #[rD (gB ⟨s,⟨k,nm,n,[x0,x1,x2,x3,x4,x5,x6,x7]⟩,p,a,q,r⟩ S.data.toList).2,vA ad X (gB ⟨s,⟨k,nm,n,[x0,x1,x2,x3,x4,x5,x6,x7]⟩,p,a,q,r⟩ S.data.toList).1]))/\Below w.heap.size w w':=by
 have HTA:Hid (∀W,Below w.heap.size w W->nS ad W):=fun W hb=>hT.later hb
 have CO:Hid (∀W,Below w.heap.size w W->CB 13 #[D (aC s k nm n x0 x1 x2 x3 x4 x5 x6 x7 p a q r).toArray] W (G (uOk ⟨s,⟨k,nm,n,[x0,x1,x2,x3,x4,x5,x6,x7]⟩,p,a,q,r⟩))):=fun W hb=>yX s k n p nm a r q x0 x1 x2 x3 x4 x5 x6 x7 W hs om om (HTA.out W hb).1 (HTA.out W hb).2.1 (HTA.out W hb).2.2.2.2.1
 have hSl:S.data.toList.length=S.size:=by simp
 obtain ⟨R,hR0⟩: ∃R,R=gB ⟨s,⟨k,nm,n,[x0,x1,x2,x3,x4,x5,x6,x7]⟩,p,a,q,r⟩ S.data.toList:=⟨_,rfl⟩;rw[<-hR0];have HRR:Hid (R=gB ⟨s,⟨k,nm,n,[x0,x1,x2,x3,x4,x5,x6,x7]⟩,p,a,q,r⟩ S.data.toList):=hR0;clear hR0 hT;have hn:=PA.new w s k n p nm a r q x0 x1 x2 x3 x4 x5 x6 x7;obtain ⟨O,hO⟩: ∃O,O=(w.alloc (Z #[I J s,I J k,L nm,I J n,I J x0,I J x1,I J x2,I J x3,I J x4,I J x5,I J x6,I J x7,I J p,L a,G q,L r] 28)).alloc (Z #[I J 0,I J 0,L ⟨#[]⟩,I J 0,I J 0,I J 0,I J 0,I J 0,I J 0,I J 0,I J 0,I J 0,I J 0,L ⟨#[]⟩,G false,L ⟨#[]⟩] 28):=⟨_,rfl⟩;rw[<-hO]at hn;have H0:Hid (PA w (aC s k nm n x0 x1 x2 x3 x4 x5 x6 x7 p a q r) O):=hn;clear hn;go_enter func63,ntmps63
 go_upto_region 1 with fail
 rw[<-hO];clear hO;go_wp2_with (refine bU H0.out.1 rfl rfl _ rfl rfl ?_);refine (CO.out _ H0.out.2.2).mono ?_;rintro e w1 ⟨rfl,b1⟩;have H1:Hid (PA w (aC s k nm n x0 x1 x2 x3 x4 x5 x6 x7 p a q r) w1):=H0.out.later b1;clear b1 H0 CO
 cases hok:uOk ⟨s,⟨k,nm,n,[x0,x1,x2,x3,x4,x5,x6,x7]⟩,p,a,q,r⟩with
 |false=>
  have HZ:Hid (R=(4,fJ)):=HRR.out.trans (Fj hok);clear hok hSl HRR
  go_upto_region 2 with fail
  refine wp_region_held_drew (S:=PB w (aC s k nm n x0 x1 x2 x3 x4 x5 x6 x7 p a q r)) kr H1.out.drew.any (fun h0=> ?_);have hcell:=(HTA.out _ h0.2.2).2.2.2.2.2.2.c4;refine wpAnyH_take (i:=0) (v:=D aY.toArray) rfl kr kr kr (fun _ _ _ h=>h) (Or.inl ⟨by rfl,fun W hW=> ?_⟩) h0 ?_
  .kernel_rfl
  refine wpAnyH_take (i:=1) (v:=Q 261 (F (some (ad 4)))) rfl kr kr kr (fun _ _ _ h=>h) (Or.inl ⟨by rfl,fun W hW=> ?_⟩) h0 ?_
  .have hc:=(HTA.out _ hW.2.2).2.2.2.2.2.2.c4
   clear hW hcell;go_simp
  simp only[zl,ze,zc,zd,za,zf,zg];refine wpAnyH_take (i:=2) (v:=D #[L (⟨#[116,104,101,32,98,97,115,101]⟩:ByteArray),Q 261 (F (some (ad 4)))]) rfl kr kr kr (fun _ _ _ h=>h) (Or.inl ⟨by rfl,fun W hW=> ?_⟩) h0 ?_
  .kernel_rfl
  refine wpAnyH_take (i:=3) (v:=Q 138 (D #[L (⟨#[116,104,101,32,98,97,115,101]⟩:ByteArray),Q 261 (F (some (ad 4)))])) rfl kr kr kr (fun _ _ _ h=>h) (Or.inl ⟨by rfl,fun W hW=> ?_⟩) h0 ?_
  .kernel_rfl
  refine wpAnyH_ready (rs:=[4]) kr j2 (zi rfl (fun K hK=> ?_) zj);rw[if_pos (by rfl)];refine wp_store_mid _ _ _ rfl (w.heap.size+1) 0 aY.toArray rfl rfl h0.there infoUrl (aS ..) ?_;have hst:=h0.stored (us:=aY) rfl;refine hK.out _ _ hst.1 (fun hZ=> ?_);clear hK K h0 hcell;generalize (zn _ (w.heap.size+1) 0 aY.toArray.toList)=w9 at hst hZ⊢;refine wpAnyH_take (i:=5) (v:=Q 138 (D #[L (⟨#[116,104,101,32,98,97,115,101]⟩:ByteArray),Q 261 (F (some (ad 4)))])) rfl kr kr kr (fun _ _ _ h=>h) (Or.inl ⟨by rfl,fun W hW=> ?_⟩) hZ ?_
  .kernel_rfl
  refine wpAnyH_done kr ?_ _;simp only[zl,ze,zc,zd,za,zf,zg];go_wp2_with fail;refine bodyPost_ret (cB rfl _ _ (w.heap.size+1) _ _ rfl rfl rfl hst.2) rfl ⟨⟨(⟨#[116,104,101,32,98,97,115,101]⟩:ByteArray),by rw[HZ.out];rfl⟩,hst.1.2.2⟩
 |true=>
  by_cases hbig:2000<S.size
  .have HZ:Hid (R=(1,fJ)):=HRR.out.trans (By hok om)
   have hbi:2000<(S.size:Int):=om;clear hok hSl hbig HRR
   go_upto_region 4 with fail
   refine wp_region_held_drew (S:=PB w (aC s k nm n x0 x1 x2 x3 x4 x5 x6 x7 p a q r)) kr H1.out.drew.any (fun h0=> ?_);have hcell:=(HTA.out _ h0.2.2).2.2.2.2.2.2.c1;refine wpAnyH_take (i:=0) (v:=D aY.toArray) rfl kr kr kr (fun _ _ _ h=>h) (Or.inl ⟨by rfl,fun W hW=> ?_⟩) h0 ?_
   .kernel_rfl
   refine wpAnyH_take (i:=1) (v:=Q 261 (F (some (ad 1)))) rfl kr kr kr (fun _ _ _ h=>h) (Or.inl ⟨by rfl,fun W hW=> ?_⟩) h0 ?_
   .have hc:=(HTA.out _ hW.2.2).2.2.2.2.2.2.c1
    clear hW hcell;go_simp
   simp only[zl,ze,zc,zd,za,zf,zg];refine wpAnyH_take (i:=2) (v:=D #[L (⟨#[116,104,101,32,116,101,120,116]⟩:ByteArray),Q 261 (F (some (ad 1)))]) rfl kr kr kr (fun _ _ _ h=>h) (Or.inl ⟨by rfl,fun W hW=> ?_⟩) h0 ?_
   .kernel_rfl
   refine wpAnyH_take (i:=3) (v:=Q 138 (D #[L (⟨#[116,104,101,32,116,101,120,116]⟩:ByteArray),Q 261 (F (some (ad 1)))])) rfl kr kr kr (fun _ _ _ h=>h) (Or.inl ⟨by rfl,fun W hW=> ?_⟩) h0 ?_
   .kernel_rfl
   refine wpAnyH_ready (rs:=[4]) kr j2 (zi rfl (fun K hK=> ?_) zj);rw[if_pos (by rfl)];refine wp_store_mid _ _ _ rfl (w.heap.size+1) 0 aY.toArray rfl rfl h0.there infoUrl (aS ..) ?_;have hst:=h0.stored (us:=aY) rfl;refine hK.out _ _ hst.1 (fun hZ=> ?_);clear hK K h0 hcell;generalize (zn _ (w.heap.size+1) 0 aY.toArray.toList)=w9 at hst hZ⊢;refine wpAnyH_take (i:=5) (v:=Q 138 (D #[L (⟨#[116,104,101,32,116,101,120,116]⟩:ByteArray),Q 261 (F (some (ad 1)))])) rfl kr kr kr (fun _ _ _ h=>h) (Or.inl ⟨by rfl,fun W hW=> ?_⟩) hZ ?_
   .kernel_rfl
   refine wpAnyH_done kr ?_ _;simp only[zl,ze,zc,zd,za,zf,zg];go_wp2_with fail;refine bodyPost_ret (cB rfl _ _ (w.heap.size+1) _ _ rfl rfl rfl hst.2) rfl ⟨⟨(⟨#[116,104,101,32,116,101,120,116]⟩:ByteArray),by rw[HZ.out];rfl⟩,hst.1.2.2⟩
  have HR0:R=xP ⟨s,⟨k,nm,n,[x0,x1,x2,x3,x4,x5,x6,x7]⟩,p,a,q,r⟩ (eC S.data.toList):=HRR.out.trans (Ib hok om);have hts:(⟨(eC S.data.toList).toArray⟩:ByteArray).size<=2000:=by
   have h1:=KO S.data.toList;rw[dO];omega
  have CA:Hid (∀W,Below w.heap.size w W->CB 99 #[L S] W (L ⟨(eC S.data.toList).toArray⟩)):=fun W hb=>rH S W om (HTA.out W hb).2.2.2.1
  have HR:Hid (R=xP ⟨s,⟨k,nm,n,[x0,x1,x2,x3,x4,x5,x6,x7]⟩,p,a,q,r⟩ (⟨(eC S.data.toList).toArray⟩:ByteArray).data.toList):=HR0;generalize (⟨(eC S.data.toList).toArray⟩:ByteArray)=T at hts CA HR;have hbi: ¬2000<(S.size:Int):=om;have hss:=yW s;have hdp:=(eL hok).1;clear hSl hbig HR0 HRR;have CSc:Hid (∀W,CB 120 #[L T] W (L ⟨(pX T.data.toList).toArray⟩)):=fun W=>NJ T W om
  have C2:Hid (∀W,CS 122 #[L T] W (G (oP T.data.toList))):=fun W=>FP T W om
  go_wp2_with fail;refine (CA.out _ H1.out.2.2).mono ?_;rintro e w3 ⟨rfl,b3⟩;have HP3:Hid (PA w (aC s k nm n x0 x1 x2 x3 x4 x5 x6 x7 p a q r) w3):=H1.out.later b3;clear b3 H1 CA hbi
  by_cases hsc:pX T.data.toList=[]
  .rw[hsc]at CSc
   have hemp:(⟨([]:List UInt8).toArray⟩:ByteArray).toList.isEmpty=true:=by rw[SZ];rfl
   have HSC:Hid (pX T.data.toList=[]):=hsc;clear hsc;generalize (⟨([]:List UInt8).toArray⟩:ByteArray)=E at CSc hemp;go_wp2_with fail;refine (CSc.out _).mono ?_;rintro e w4 ⟨rfl,b4⟩;have HP4:Hid (PA w (aC s k nm n x0 x1 x2 x3 x4 x5 x6 x7 p a q r) w4):=HP3.out.later b4;clear b4 HP3 CSc
   cases h2:oP T.data.toList with
   |false=>
    have HE:Hid (R=GR (mH ⟨s,⟨k,nm,n,[x0,x1,x2,x3,x4,x5,x6,x7]⟩,p,a,q,r⟩ T.data.toList)):=HR.out.trans (Fm HSC.out h2);rw[h2]at C2;clear HR HSC h2;go_wp2_with fail;refine (C2.out _).mono ?_;rintro e w' ⟨rfl,rfl⟩;clear C2;obtain ⟨hja,hjr⟩:=Bx ⟨s,⟨k,nm,n,[x0,x1,x2,x3,x4,x5,x6,x7]⟩,p,a,q,r⟩ T ha hr hts;have hbc:=Bz hok T;rw[hbc]at hja hjr;have hja2:(NK a T).size<=4194304:=hja;have hjr2:(NL r T).size<=4194304:=hjr;have HE2:Hid (R=GR ⟨s,⟨k,nm,n,[x0,x1,x2,x3,x4,x5,x6,x7]⟩,p,NK a T,TG q T,NL r T⟩):=HE.out.trans (congrArg GR hbc);have CJ:Hid (∀W,Below w.heap.size w W->CB 123 #[D (aC s k nm n x0 x1 x2 x3 x4 x5 x6 x7 p a q r).toArray,L T] W (D (aC s k nm n x0 x1 x2 x3 x4 x5 x6 x7 p (NK a T) (TG q T) (NL r T)).toArray)):=fun W hb=>WK s k n p nm a r q x0 x1 x2 x3 x4 x5 x6 x7 T W hs om hr hts (HTA.out W hb).2.2.2.2.1 (HTA.out W hb).2.2.2.1
    clear HE hbc hok hja hjr;generalize NK a T=JA at CJ HE2 hja2;generalize TG q T=JQ at CJ HE2;generalize NL r T=JR at CJ HE2 hjr2;have CT:Hid (∀W,Below w.heap.size w W->CB 12 #[D (aC s k nm n x0 x1 x2 x3 x4 x5 x6 x7 p JA JQ JR).toArray] W (L ⟨(uTx ⟨s,⟨k,nm,n,[x0,x1,x2,x3,x4,x5,x6,x7]⟩,p,JA,JQ,JR⟩).toArray⟩)):=fun W hb=>lI s k n p nm JA JR JQ x0 x1 x2 x3 x4 x5 x6 x7 W hs hja2 hjr2 (HTA.out W hb).1 (HTA.out W hb).2.1 (HTA.out W hb).2.2.1 (HTA.out W hb).2.2.2.2.1
    have HL:Hid (GR ⟨s,⟨k,nm,n,[x0,x1,x2,x3,x4,x5,x6,x7]⟩,p,JA,JQ,JR⟩=if (⟨(uTx ⟨s,⟨k,nm,n,[x0,x1,x2,x3,x4,x5,x6,x7]⟩,p,JA,JQ,JR⟩).toArray⟩:ByteArray).size<=2000 then (0,⟨s,⟨k,nm,n,[x0,x1,x2,x3,x4,x5,x6,x7]⟩,p,JA,JQ,JR⟩)else (1,fJ)):=by show _=_;rw[dO];rfl
    generalize (⟨(uTx ⟨s,⟨k,nm,n,[x0,x1,x2,x3,x4,x5,x6,x7]⟩,p,JA,JQ,JR⟩).toArray⟩:ByteArray)=TX at CT HL;go_wp2_with (refine bU HP4.out.1 rfl rfl _ rfl rfl ?_);refine (CJ.out _ HP4.out.2.2).mono ?_;rintro e w5 ⟨rfl,b5⟩;have h5:=HP4.out.later b5;have hlt5:w.heap.size+1<w5.heap.size:=h5.2.1.2.2;have h5a:Hid (PA w (aC s k nm n x0 x1 x2 x3 x4 x5 x6 x7 p a q r) (w5.alloc (Z #[I J 0,I J 0,L ⟨#[]⟩,I J 0,I J 0,I J 0,I J 0,I J 0,I J 0,I J 0,I J 0,I J 0,I J 0,L ⟨#[]⟩,G false,L ⟨#[]⟩] 28))):=h5.later ((zm _ _).alloc (zh _) _);clear b5 HP4 CJ h5
    go_upto_region 11 with (refine dI (UAt.new w5 _ _) rfl (us:=aC s k nm n x0 x1 x2 x3 x4 x5 x6 x7 p JA JQ JR) rfl (aS ..) rfl _ _ rfl rfl rfl ?_;intro w6 HUh HMh)
    have HP6:Hid (PA w (aC s k nm n x0 x1 x2 x3 x4 x5 x6 x7 p a q r) w6):=h5a.out.moved hlt5 HMh;have HV6:Hid (UAt w6 w5.heap.size (aC s k nm n x0 x1 x2 x3 x4 x5 x6 x7 p JA JQ JR)):=HUh;clear HUh HMh h5a hlt5;generalize w5.heap.size=V2 at HV6⊢;go_wp2_with (refine bU HV6.out rfl rfl _ rfl rfl ?_);refine (CT.out _ HP6.out.2.2).mono ?_;rintro e w7 ⟨rfl,b7⟩;have HP7:Hid (PA w (aC s k nm n x0 x1 x2 x3 x4 x5 x6 x7 p a q r) w7):=HP6.out.later b7;have HV7:Hid (UAt w7 V2 (aC s k nm n x0 x1 x2 x3 x4 x5 x6 x7 p JA JQ JR)):=HV6.out.below b7;clear b7 HP6 HV6 CT
    by_cases hfit:2000<(TX.size:Int)
    .have HZ:Hid (R=(1,fJ)):=by
      show _=_;rw[HE2.out,HL.out,if_neg om]
     clear HL HE2
     go_upto_region 12 with fail
     refine wp_region_held_drew (S:=PB w (aC s k nm n x0 x1 x2 x3 x4 x5 x6 x7 p a q r)) kr HP7.out.drew.any (fun h0=> ?_);have hcell:=(HTA.out _ h0.2.2).2.2.2.2.2.2.c1;refine wpAnyH_take (i:=0) (v:=D aY.toArray) rfl kr kr kr (fun _ _ _ h=>h) (Or.inl ⟨by rfl,fun W hW=> ?_⟩) h0 ?_
     .kernel_rfl
     refine wpAnyH_take (i:=1) (v:=Q 261 (F (some (ad 1)))) rfl kr kr kr (fun _ _ _ h=>h) (Or.inl ⟨by rfl,fun W hW=> ?_⟩) h0 ?_
     .have hc:=(HTA.out _ hW.2.2).2.2.2.2.2.2.c1
      clear hW hcell;go_simp
     simp only[zl,ze,zc,zd,za,zf,zg];refine wpAnyH_take (i:=2) (v:=D #[L (⟨#[119,104,97,116,32,99,111,109,101,115,32,111,102,32,105,116]⟩:ByteArray),Q 261 (F (some (ad 1)))]) rfl kr kr kr (fun _ _ _ h=>h) (Or.inl ⟨by rfl,fun W hW=> ?_⟩) h0 ?_
     .kernel_rfl
     refine wpAnyH_take (i:=3) (v:=Q 138 (D #[L (⟨#[119,104,97,116,32,99,111,109,101,115,32,111,102,32,105,116]⟩:ByteArray),Q 261 (F (some (ad 1)))])) rfl kr kr kr (fun _ _ _ h=>h) (Or.inl ⟨by rfl,fun W hW=> ?_⟩) h0 ?_
     .kernel_rfl
     refine wpAnyH_ready (rs:=[4]) kr j2 (zi rfl (fun K hK=> ?_) zj);rw[if_pos (by rfl)];refine wp_store_mid _ _ _ rfl (w.heap.size+1) 0 aY.toArray rfl rfl h0.there infoUrl (aS ..) ?_;have hst:=h0.stored (us:=aY) rfl;refine hK.out _ _ hst.1 (fun hZ=> ?_);clear hK K h0 hcell;generalize (zn _ (w.heap.size+1) 0 aY.toArray.toList)=w9 at hst hZ⊢;refine wpAnyH_take (i:=5) (v:=Q 138 (D #[L (⟨#[119,104,97,116,32,99,111,109,101,115,32,111,102,32,105,116]⟩:ByteArray),Q 261 (F (some (ad 1)))])) rfl kr kr kr (fun _ _ _ h=>h) (Or.inl ⟨by rfl,fun W hW=> ?_⟩) hZ ?_
     .kernel_rfl
     refine wpAnyH_done kr ?_ _;simp only[zl,ze,zc,zd,za,zf,zg];go_wp2_with fail;refine bodyPost_ret (cB rfl _ _ (w.heap.size+1) _ _ rfl rfl rfl hst.2) rfl ⟨⟨(⟨#[119,104,97,116,32,99,111,109,101,115,32,111,102,32,105,116]⟩:ByteArray),by rw[HZ.out];rfl⟩,hst.1.2.2⟩
    have HF:Hid (R=(0,⟨s,⟨k,nm,n,[x0,x1,x2,x3,x4,x5,x6,x7]⟩,p,JA,JQ,JR⟩)):=by
     show _=_;rw[HE2.out,HL.out,if_pos om]
    clear HL HE2;go_wp2_with (first|(refine bU HV7.out rfl rfl _ rfl rfl ?_)|(refine dI HP7.out.2.1 rfl (us:=aC s k nm n x0 x1 x2 x3 x4 x5 x6 x7 p JA JQ JR) rfl (aS ..) rfl _ _ rfl rfl rfl ?_;intro w9 HU9 HM9));refine bodyPost_ret (cB rfl _ _ (w.heap.size+1) .nilIface _ rfl rfl rfl HU9) rfl ⟨⟨⟨#[]⟩,NN (S:=⟨#[]⟩) HF.out (iG ..)⟩,HM9.2 _ _ (zo _) HP7.out.2.2⟩
   |true=>
    have e2:(qU s++T).data.toList=iX s++T.data.toList:=by rw[ByteArray.data_append,Array.toList_append,ZE hdp]
    have HE:Hid (R=cG (qU s++T).data.toList):=by show _=_;rw[e2];exact HR.out.trans (Fl HSC.out h2)
    have hsb:(qU s).size<=6:=by rw[VG hdp];exact hss
    have CM:Hid (∀W,CS 32 #[I J s] W (L (qU s))):=fun W=>jL s W
    rw[h2]at C2;generalize qU s=SC at CM HE hsb;have hst:(SC++T).size<=2006:=by rw[ByteArray.size_append];omega
    obtain ⟨s2,k2,n2,p2,nm2,a2,r2,q2,y0,y1,y2,y3,y4,y5,y6,y7,hu⟩:=kG _ (iW (SC++T).data.toList);have CP:Hid (∀W,Below w.heap.size w W->CB 121 #[L (SC++T)] W (H #[D (aC s2 k2 nm2 n2 y0 y1 y2 y3 y4 y5 y6 y7 p2 a2 q2 r2).toArray,vA ad ⟨#[116,104,101,32,119,104,111,108,101,32,97,100,100,114,101,115,115]⟩ (cG (SC++T).data.toList).1])):=fun W hb=>by
     have h:=uC ad (SC++T) W om (HTA.out W hb);rw[hu,iG]at h;exact h
    have HF:Hid (R=((cG (SC++T).data.toList).1,⟨s2,⟨k2,nm2,n2,[y0,y1,y2,y3,y4,y5,y6,y7]⟩,p2,a2,q2,r2⟩)):=by
     show _=_;rw[HE.out,<-hu]
    generalize (cG (SC++T).data.toList).1=c at CP HF;clear hu HE HR HSC h2 e2 hok;have c0:=HP4.out.1.1 0 _ rfl;go_wp2_with fail;refine (C2.out _).mono ?_;rintro e w' ⟨rfl,rfl⟩;clear C2;go_wp2_with fail;refine (CM.out _).mono ?_;rintro e w' ⟨rfl,rfl⟩;clear CM;go_wp2_with fail;refine (CP.out _ HP4.out.2.2).mono ?_;rintro e w5 ⟨rfl,b5⟩;have HP5:Hid (PA w (aC s k nm n x0 x1 x2 x3 x4 x5 x6 x7 p a q r) w5):=HP4.out.later b5;clear b5 HP4 CP c0;go_wp2_with (refine dI HP5.out.2.1 rfl (us:=aC s2 k2 nm2 n2 y0 y1 y2 y3 y4 y5 y6 y7 p2 a2 q2 r2) rfl (aS ..) rfl _ _ rfl rfl rfl ?_;intro w9 HU9 HM9);refine bodyPost_ret (cB rfl _ _ (w.heap.size+1) (vA ad ⟨#[116,104,101,32,119,104,111,108,101,32,97,100,100,114,101,115,115]⟩ c) _ rfl rfl rfl HU9) rfl ⟨⟨_,NN HF.out (iG ..)⟩,HM9.2 _ _ (zo _) HP5.out.2.2⟩
  have HE:Hid (R=cG T.data.toList):=HR.out.trans (Fk hsc);have hemp:(⟨(pX T.data.toList).toArray⟩:ByteArray).toList.isEmpty=false:=by
   rw[SZ]
   cases hl:pX T.data.toList with
   |nil=>exact absurd hl hsc
   |cons _ _=>rfl
  obtain ⟨s2,k2,n2,p2,nm2,a2,r2,q2,y0,y1,y2,y3,y4,y5,y6,y7,hu⟩:=kG _ (iW T.data.toList);have CP:Hid (∀W,Below w.heap.size w W->CB 121 #[L T] W (H #[D (aC s2 k2 nm2 n2 y0 y1 y2 y3 y4 y5 y6 y7 p2 a2 q2 r2).toArray,vA ad ⟨#[116,104,101,32,119,104,111,108,101,32,97,100,100,114,101,115,115]⟩ (cG T.data.toList).1])):=fun W hb=>by
   have h:=uC ad T W om (HTA.out W hb);rw[hu,iG]at h;exact h
  have HF:Hid (R=((cG T.data.toList).1,⟨s2,⟨k2,nm2,n2,[y0,y1,y2,y3,y4,y5,y6,y7]⟩,p2,a2,q2,r2⟩)):=by
   show _=_;rw[HE.out,<-hu]
  generalize (cG T.data.toList).1=c at CP HF;generalize (⟨(pX T.data.toList).toArray⟩:ByteArray)=E at CSc hemp;clear hu HE hsc HR hok C2;go_wp2_with fail;refine (CSc.out _).mono ?_;rintro e w4 ⟨rfl,b4⟩;have HP4:Hid (PA w (aC s k nm n x0 x1 x2 x3 x4 x5 x6 x7 p a q r) w4):=HP3.out.later b4;clear b4 HP3 CSc;go_wp2_with fail;refine (CP.out _ HP4.out.2.2).mono ?_;rintro e w5 ⟨rfl,b5⟩;have HP5:Hid (PA w (aC s k nm n x0 x1 x2 x3 x4 x5 x6 x7 p a q r) w5):=HP4.out.later b5;clear b5 HP4 CP;go_wp2_with (refine dI HP5.out.2.1 rfl (us:=aC s2 k2 nm2 n2 y0 y1 y2 y3 y4 y5 y6 y7 p2 a2 q2 r2) rfl (aS ..) rfl _ _ rfl rfl rfl ?_;intro w9 HU9 HM9);refine bodyPost_ret (cB rfl _ _ (w.heap.size+1) (vA ad ⟨#[116,104,101,32,119,104,111,108,101,32,97,100,100,114,101,115,115]⟩ c) _ rfl rfl rfl HU9) rfl ⟨⟨_,NN HF.out (iG ..)⟩,HM9.2 _ _ (zo _) HP5.out.2.2⟩
theorem zC(b:UV)(h:b.h.z.length=8)(l:List UInt8):(gB b l).2.h.z.length=8:=by
 unfold gB;split
 .split
  .rfl
  unfold xP;split
  .exact iW _
  split
  .exact iW _
  unfold GR;split
  .rw[Bw]
   exact h
  rfl
 rfl
def PR(w:World)(V:Nat)(us:List Value)(W:World):Prop:=UAt W V us/\(∃vs:List Value,vs.length=16/\UAt W (w.heap.size+1) vs)/\Below w.heap.size w W/\w.heap.size+1<V
theorem PR.later{w:World}{V:Nat}{us:List Value}{W W':World}(h:PR w V us W)(hb:Below W.heap.size W W'):PR w V us W':=by
 obtain ⟨h1,⟨vs,hl,h2⟩,h3,h4⟩:=h;exact ⟨h1.below hb,⟨vs,hl,h2.below hb⟩,h3.trans (hb.mono h3.size),h4⟩
theorem PR.drew{w:World}{V:Nat}{us:List Value}{W:World}(h:PR w V us W):PR w V us W.drew:=by
 obtain ⟨h1,⟨vs,hl,h2⟩,h3,h4⟩:=h;exact ⟨h1,⟨vs,hl,h2⟩,h3.drew,h4⟩
theorem PR.there{w:World}{V:Nat}{us:List Value}{W:World}(h:PR w V us W):W.there (w.heap.size+1) 0 16:=by
 obtain ⟨h1,⟨vs,hl,h2⟩,h3⟩:=h;exact h2.there 0 16 om
theorem PR.stored{w:World}{V:Nat}{us xs:List Value}{W:World}(h:PR w V us W)(hm:xs.length=16):PR w V us (W.setCells (w.heap.size+1) 0 xs.toArray.toList)/\UAt (W.setCells (w.heap.size+1) 0 xs.toArray.toList) (w.heap.size+1) xs:=by
 obtain ⟨h1,⟨vs,hl,h2⟩,h3,h4⟩:=h;have hs:=fW h2 hl hm;exact ⟨⟨(bS _ _ _).1 _ _ om h1,⟨xs,hm,hs⟩,(bS _ _ _).2 _ _ (zo _) h3,h4⟩,hs⟩
theorem AA(ad:Nat->Addr)(s k n p:Int)(nm a r:ByteArray)(q:Bool)(x0 x1 x2 x3 x4 x5 x6 x7:Int)(S:ByteArray)(w:World)(hs:nm.size<=1048576)(ha:a.size<=1048576)(hr:r.size<=1048576)(hS:S.size<=1099511627776)(hT:nS ad w):Calls prog 22 #[D #[I J s,I J k,L nm,I J n,I J x0,I J x1,I J x2,I J x3,I J x4,I J x5,I J x6,I J x7,I J p,L a,G q,L r],L S] w fun e w'=>e=Y (H #[rD (gB ⟨s,⟨k,nm,n,[x0,x1,x2,x3,x4,x5,x6,x7]⟩,p,a,q,r⟩ S.data.toList).2,I J (gB ⟨s,⟨k,nm,n,[x0,x1,x2,x3,x4,x5,x6,x7]⟩,p,a,q,r⟩ S.data.toList).1])/\Below w.heap.size w w':=by
 have HTA:Hid (∀W,Below w.heap.size w W->nS ad W):=fun W hb=>hT.later hb
 have hrg:=KS ⟨s,⟨k,nm,n,[x0,x1,x2,x3,x4,x5,x6,x7]⟩,p,a,q,r⟩ S.data.toList;obtain ⟨s2,k2,n2,p2,nm2,a2,r2,q2,y0,y1,y2,y3,y4,y5,y6,y7,hu⟩:=kG _ (zC ⟨s,⟨k,nm,n,[x0,x1,x2,x3,x4,x5,x6,x7]⟩,p,a,q,r⟩ rfl S.data.toList);have CB:Hid (∀W,Below w.heap.size w W->Calls prog 63 #[D (aC s k nm n x0 x1 x2 x3 x4 x5 x6 x7 p a q r).toArray,L S] W fun e w'=>(∃X:ByteArray,e=Y (H #[D (aC s2 k2 nm2 n2 y0 y1 y2 y3 y4 y5 y6 y7 p2 a2 q2 r2).toArray,vA ad X (gB ⟨s,⟨k,nm,n,[x0,x1,x2,x3,x4,x5,x6,x7]⟩,p,a,q,r⟩ S.data.toList).1]))/\Below W.heap.size W w'):=fun W hb=>by
  have h:=FU ad s k n p nm a r q x0 x1 x2 x3 x4 x5 x6 x7 S W hs ha hr hS (HTA.out W hb);rw[hu,iG]at h;exact h
 rw[hu,iG];generalize (gB ⟨s,⟨k,nm,n,[x0,x1,x2,x3,x4,x5,x6,x7]⟩,p,a,q,r⟩ S.data.toList).1=c at CB hrg⊢;have CF:Hid (∀X W,Below w.heap.size w W->Calls prog 64 #[vA ad X c] W fun e w'=>e=Y (I J c)/\Below W.heap.size W w'):=fun X W hb=>TF ad X c W (HTA.out W hb).2.2.2.2.2.2 hrg.1 hrg.2
 clear hT hu hrg HTA;have hn:=PA.new w s k n p nm a r q x0 x1 x2 x3 x4 x5 x6 x7;obtain ⟨O,hO⟩: ∃O,O=(w.alloc (Z #[I J s,I J k,L nm,I J n,I J x0,I J x1,I J x2,I J x3,I J x4,I J x5,I J x6,I J x7,I J p,L a,G q,L r] 28)).alloc (Z #[I J 0,I J 0,L ⟨#[]⟩,I J 0,I J 0,I J 0,I J 0,I J 0,I J 0,I J 0,I J 0,I J 0,I J 0,L ⟨#[]⟩,G false,L ⟨#[]⟩] 28):=⟨_,rfl⟩;rw[<-hO]at hn;have H0:Hid (PA w (aC s k nm n x0 x1 x2 x3 x4 x5 x6 x7 p a q r) O):=hn;clear hn;go_enter func22,ntmps22
 go_upto_region 1 with fail
 rw[<-hO];clear hO;go_wp2_with (refine bU H0.out.1 rfl rfl _ rfl rfl ?_);refine (CB.out _ H0.out.2.2).mono ?_;rintro e w1 ⟨⟨X,rfl⟩,b1⟩;have h1:=H0.out.later b1;have hlt:w.heap.size+1<w1.heap.size:=h1.2.1.2.2;have H1a:Hid (PA w (aC s k nm n x0 x1 x2 x3 x4 x5 x6 x7 p a q r) (w1.alloc (Z #[I J 0,I J 0,L ⟨#[]⟩,I J 0,I J 0,I J 0,I J 0,I J 0,I J 0,I J 0,I J 0,I J 0,I J 0,L ⟨#[]⟩,G false,L ⟨#[]⟩] 28))):=h1.later ((zm _ _).alloc (zh _) _);have CF2:Hid (∀W,Below w.heap.size w W->Calls prog 64 #[vA ad X c] W fun e w'=>e=Y (I J c)/\Below W.heap.size W w'):=CF.out X;generalize vA ad X c=ev at CF2⊢;clear b1 h1 H0 CB CF
 go_upto_region 2 with (refine dI (UAt.new w1 _ _) rfl (us:=aC s2 k2 nm2 n2 y0 y1 y2 y3 y4 y5 y6 y7 p2 a2 q2 r2) rfl (aS ..) rfl _ _ rfl rfl rfl ?_;intro w2 HUh HMh)
 have H2:=H1a.out.moved hlt HMh;have HR:Hid (PR w w1.heap.size (aC s2 k2 nm2 n2 y0 y1 y2 y3 y4 y5 y6 y7 p2 a2 q2 r2) w2):=⟨HUh,⟨_,rfl,H2.2.1⟩,H2.2.2,hlt⟩;clear HUh HMh H1a H2 hlt;generalize w1.heap.size=V at HR⊢;refine wp_region_held_drew (S:=PR w V (aC s2 k2 nm2 n2 y0 y1 y2 y3 y4 y5 y6 y7 p2 a2 q2 r2)) kr HR.out.drew (fun h0=> ?_);clear HR;refine wpAnyH_take (i:=0) (v:=D (aC s2 k2 nm2 n2 y0 y1 y2 y3 y4 y5 y6 y7 p2 a2 q2 r2).toArray) rfl kr kr kr (fun _ _ _ h=>h) (yieldsIf_load_mid (by rfl) _ _ rfl V 0 rfl (aC s2 k2 nm2 n2 y0 y1 y2 y3 y4 y5 y6 y7 p2 a2 q2 r2) _ (fun W hW=>hW.1.range 0 _ (fun j v hv=>by rw[Nat.zero_add];exact hv)) underlying28 rfl infoUrl) h0 ?_;simp only[zl,ze,zc,zd,za,zf,zg];refine wpAnyH_take (i:=1) (v:= ?_) rfl kr kr kr (fun _ _ _ h=>h) (Or.inl ⟨by rfl,fun W hW=> ?_⟩) h0 ?_;rotate_left
 .clear hW
  go_simp
  try with_reducible rfl
 simp only[zl,ze,zc,zd,za,zf,zg];refine wpAnyH_ready (rs:=[2]) kr j2 (zi rfl (fun K hK=> ?_) zj);go_simp;go_wp2_with (go_at_call 64;refine j6 (CF2.out _ h0.2.2.1) fun wq1 hb1=>?_);refine hK.out _ _ (PR.later h0 hb1) (fun h1=> ?_);clear hK K h0 CF2;refine wpAnyH_ready (rs:=[3]) kr j2 (zi rfl (fun K hK=> ?_) zj);rw[if_pos (by rfl)];refine wp_store_mid _ _ _ rfl (w.heap.size+1) 0 (aC s2 k2 nm2 n2 y0 y1 y2 y3 y4 y5 y6 y7 p2 a2 q2 r2).toArray rfl rfl h1.there infoUrl (aS ..) ?_;have hst:=h1.stored (xs:=aC s2 k2 nm2 n2 y0 y1 y2 y3 y4 y5 y6 y7 p2 a2 q2 r2) rfl;refine hK.out _ _ hst.1 (fun hZ=> ?_);clear hK K h1;generalize wq1.setCells (w.heap.size+1) 0 (aC s2 k2 nm2 n2 y0 y1 y2 y3 y4 y5 y6 y7 p2 a2 q2 r2).toArray.toList=w9 at hst hZ⊢;refine wpAnyH_take (i:=4) (v:=I J c) rfl kr kr kr (fun _ _ _ h=>h) (Or.inl ⟨by rfl,fun W hW=> ?_⟩) hZ ?_
 .kernel_rfl
 refine wpAnyH_done kr ?_ _;simp only[zl,ze,zc,zd,za,zf,zg];go_wp2_with fail;refine bodyPost_ret (cB rfl _ _ (w.heap.size+1) (I J c) _ rfl rfl rfl hst.2) rfl ⟨rfl,hst.1.2.2.1⟩
end
section
open Go.RowKit
def PW2(w:World)(r1 r2:List Value)(W:World):Prop:=UAt W w.heap.size r1/\UAt W (w.heap.size+1) r2/\Below w.heap.size w W
theorem PW2.later{w:World}{r1 r2:List Value}{W W':World}(h:PW2 w r1 r2 W)(hb:Below W.heap.size W W'):PW2 w r1 r2 W':=⟨h.1.below hb,h.2.1.below hb,h.2.2.trans (hb.mono h.2.2.size)⟩
theorem PW2.moved{w:World}{r1 r2:List Value}{W W':World}{C:Nat}(h:PW2 w r1 r2 W)(hC:w.heap.size+1<C)(hM:nN C W W'):PW2 w r1 r2 W':=⟨hM.1 _ _ om h.1,hM.1 _ _ om h.2.1,hM.2 _ _ om h.2.2⟩
theorem PW2.new(w:World)(v1 v2:Array Value)(t1 t2:TypeId):PW2 w v1.toList v2.toList ((w.alloc (.cells v1 t1)).alloc (.cells v2 t2)):=by
 have h2:=UAt.new (w.alloc (.cells v1 t1)) v2 t2;rw[World.size_alloc]at h2;exact ⟨(UAt.new w v1 t1).below ((zm _ _).alloc (zh _) _),h2,((zm _ w).alloc (zh _) _).alloc j2 _⟩
theorem GS(ad:Nat->Addr)(s k n p:Int)(nm a r:ByteArray)(q:Bool)(x0 x1 x2 x3 x4 x5 x6 x7:Int)(s' k' n' p':Int)(nm' a' r':ByteArray)(q':Bool)(y0 y1 y2 y3 y4 y5 y6 y7:Int)(T:ByteArray)(B:Bool)(w:World)
  (hs:nm.size<=1048576) (ha:a.size<=1048576) (hr:r.size<=1048576) (hS:T.size<=1099511627776) (hT:nS ad w)
  (hB:B=true↔gB ⟨s,⟨k,nm,n,[x0,x1,x2,x3,x4,x5,x6,x7]⟩,p,a,q,r⟩ T.data.toList=(0,⟨s',⟨k',nm',n',[y0,y1,y2,y3,y4,y5,y6,y7]⟩,p',a',q',r'⟩)):Calls prog 72 #[D (aC s k nm n x0 x1 x2 x3 x4 x5 x6 x7 p a q r).toArray,D (aC s' k' nm' n' y0 y1 y2 y3 y4 y5 y6 y7 p' a' q' r').toArray,L T] w fun e w'=>e=Y (G B)/\Below w.heap.size w w':=by
 obtain ⟨s2,k2,n2,p2,nm2,a2,r2,q2,z0,z1,z2,z3,z4,z5,z6,z7,hu⟩:=kG _ (zC ⟨s,⟨k,nm,n,[x0,x1,x2,x3,x4,x5,x6,x7]⟩,p,a,q,r⟩ rfl T.data.toList);have CI:Hid (∀W,Below w.heap.size w W->CB 22 #[D (aC s k nm n x0 x1 x2 x3 x4 x5 x6 x7 p a q r).toArray,L T] W (H #[D (aC s2 k2 nm2 n2 z0 z1 z2 z3 z4 z5 z6 z7 p2 a2 q2 r2).toArray,I J (gB ⟨s,⟨k,nm,n,[x0,x1,x2,x3,x4,x5,x6,x7]⟩,p,a,q,r⟩ T.data.toList).1])):=fun W hb=>by
  have h:=AA ad s k n p nm a r q x0 x1 x2 x3 x4 x5 x6 x7 T W hs ha hr hS (hT.later hb);rw[hu,iG]at h;exact h
 have hrg:=KS ⟨s,⟨k,nm,n,[x0,x1,x2,x3,x4,x5,x6,x7]⟩,p,a,q,r⟩ T.data.toList;have HB:Hid (B=true↔(gB ⟨s,⟨k,nm,n,[x0,x1,x2,x3,x4,x5,x6,x7]⟩,p,a,q,r⟩ T.data.toList).1=0/\WJ s2 (mB k2 nm2 n2 [z0,z1,z2,z3,z4,z5,z6,z7] k' nm' n' [y0,y1,y2,y3,y4,y5,y6,y7]) p2 a2 q2 r2 s' p' a' q' r'=true):=by
  show _↔_;rw[hB,ZF,<-hu,Prod.ext_iff]
 have HEQ:Hid (∀W,(Op.equalIn 10000 28 (D (aC s2 k2 nm2 n2 z0 z1 z2 z3 z4 z5 z6 z7 p2 a2 q2 r2).toArray) (D (aC s' k' nm' n' y0 y1 y2 y3 y4 y5 y6 y7 p' a' q' r').toArray)).run prog W=.ok (WJ s2 (mB k2 nm2 n2 [z0,z1,z2,z3,z4,z5,z6,z7] k' nm' n' [y0,y1,y2,y3,y4,y5,y6,y7]) p2 a2 q2 r2 s' p' a' q' r') W):=eqUG s2 k2 n2 p2 nm2 a2 r2 q2 z0 z1 z2 z3 z4 z5 z6 z7 s' k' n' p' nm' a' r' q' y0 y1 y2 y3 y4 y5 y6 y7;generalize WJ s2 (mB k2 nm2 n2 [z0,z1,z2,z3,z4,z5,z6,z7] k' nm' n' [y0,y1,y2,y3,y4,y5,y6,y7]) p2 a2 q2 r2 s' p' a' q' r'=E at HB HEQ;generalize (gB ⟨s,⟨k,nm,n,[x0,x1,x2,x3,x4,x5,x6,x7]⟩,p,a,q,r⟩ T.data.toList).1=c at CI HB hrg;clear hu hB hT hs ha hr hS;obtain ⟨O,hO⟩: ∃O,O=(w.alloc (.cells (aC s k nm n x0 x1 x2 x3 x4 x5 x6 x7 p a q r).toArray 28)).alloc (.cells (aC s' k' nm' n' y0 y1 y2 y3 y4 y5 y6 y7 p' a' q' r').toArray 28):=⟨_,rfl⟩;have HU:Hid (PW2 w (aC s k nm n x0 x1 x2 x3 x4 x5 x6 x7 p a q r) (aC s' k' nm' n' y0 y1 y2 y3 y4 y5 y6 y7 p' a' q' r') O):=by
  rw[hO];exact PW2.new w _ _ _ _
 go_enter func72,ntmps72
 go_upto_region 1 with fail
 rw[<-hO];clear hO;go_wp2_with (refine bU HU.out.1 rfl rfl _ rfl rfl ?_);refine (CI.out _ HU.out.2.2).mono ?_;rintro e w3 ⟨rfl,b3⟩;have HU3:Hid (PW2 w (aC s k nm n x0 x1 x2 x3 x4 x5 x6 x7 p a q r) (aC s' k' nm' n' y0 y1 y2 y3 y4 y5 y6 y7 p' a' q' r') (w3.alloc (Z #[I J 0,I J 0,L ⟨#[]⟩,I J 0,I J 0,I J 0,I J 0,I J 0,I J 0,I J 0,I J 0,I J 0,I J 0,L ⟨#[]⟩,G false,L ⟨#[]⟩] 28))):=(HU.out.later b3).later ((zm _ _).alloc (zh _) _);have hz3:w.heap.size+1<w3.heap.size:=(HU.out.later b3).2.1.2.2;clear b3 HU CI
 go_upto_region 2 with (refine dI (UAt.new w3 _ _) rfl (us:=aC s2 k2 nm2 n2 z0 z1 z2 z3 z4 z5 z6 z7 p2 a2 q2 r2) rfl (aS ..) rfl _ _ rfl rfl rfl ?_;intro w4 HUh HMh)
 have HU4:Hid (PW2 w (aC s k nm n x0 x1 x2 x3 x4 x5 x6 x7 p a q r) (aC s' k' nm' n' y0 y1 y2 y3 y4 y5 y6 y7 p' a' q' r') w4):=HU3.out.moved hz3 HMh;have HV4:Hid (UAt w4 w3.heap.size (aC s2 k2 nm2 n2 z0 z1 z2 z3 z4 z5 z6 z7 p2 a2 q2 r2)):=HUh;clear HUh HMh HU3;generalize w3.heap.size=V at HV4 hz3⊢
 try simp only[zl]
 by_cases hc:c=0
 .subst hc
  have HZ:Hid (E=B):=by
   show _=_
   have:=HB.out
   rw[Bool.eq_iff_iff,this];exact ⟨fun h=>⟨rfl,h⟩,fun h=>h.2⟩
  have heq:=HEQ.out;clear HB hrg HEQ;go_wp2_with (first|(refine kQ HV4.out rfl rfl _ rfl rfl ?_)|(refine kQ HU4.out.2.1 rfl rfl _ rfl rfl ?_));go_ret;exact ⟨aG HZ.out,HU4.out.2.2⟩
 have HZ:Hid (false=B):=by
  show _=_
  have:=HB.out
  cases B with
  |false=>rfl
  |true=>exact absurd (this.1 rfl).1 hc
 have hc1:1<=c:=om;clear HB HEQ;go_wp2_with fail;go_ret;exact ⟨aG HZ.out,HU4.out.2.2⟩
