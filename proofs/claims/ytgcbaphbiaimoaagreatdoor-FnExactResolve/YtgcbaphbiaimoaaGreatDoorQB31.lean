/- UrlImpl4, ResPlain. -/
import Derived.Test.YtgcbaphbiaimoaaGreatDoorQB30
import Derived.Test.YtgcbaphbiaimoaaGreatDoorQB24
set_option maxHeartbeats 8000000
set_option maxRecDepth 100000
namespace Go.Proofs.YtgcbaphbiaimoaaGreatDoor
open Go.Value renaming int->I,string->L,tuple->H,bool->G,agg->F,iface->E
open Go.IntKind renaming i64->J
open _root_.Go.Act renaming put->ze
open _root_.Go.AllReadyH renaming cons->za,nil->zc
open _root_.Go.RowKit.Below renaming refl->zk
open _root_.List renaming dropWhile_cons->zf,dropWhile_suffix->zi,length_drop->zg,takeWhile_cons->zj
open _root_.Nat renaming le_refl->zd,le_trans->zh
open _root_.Go.Proofs.Tryz
open _root_.Go.Proofs.YtgcbaphbiaimoaaGreatDoor.Tryz
section
open Go.RowKit
attribute [local go_sem↓] Go.wp_at_zero Go.wp_at_succ
theorem NJ{p:UInt8->Bool}: ∀{l:List UInt8} {c:UInt8} {r:List UInt8},l.dropWhile p=c::r->p c=false
 |[],c,r,h=>by cases h
 |b::l,c,r,h=>by
  rw[zf]at h
  cases hb:p b with
  |true=>rw[hb,if_pos rfl]at h;exact NJ h
  |false=>
   rw[hb,if_neg de]at h
   cases h
   exact hb
theorem has_q(l:List UInt8):(!(l.dropWhile fun c=>c !=63).isEmpty)=l.contains 63:=by
 have h:=BA 63 l
 induction l with
 |nil=>rfl
 |cons b l ih=>
  by_cases hb:b=63
  .subst hb;simp
  have h3:(b !=63)=true:=bne_iff_ne.2 hb;have h2:(b::l).contains 63=l.contains 63:=by simp[Ne.symm hb]
  rw[zf,h3,if_pos rfl,h2];exact ih (BA 63 l)
theorem JS(s:Int)(h:HV)(p:Int)(l:ByteArray):oH s h p l.data.toList=⟨s,h,p,ptP ⟨(upB 63 l.data.toList).toArray⟩,l.data.toList.contains 63,plB 2 ⟨(dL 63 l.data.toList).toArray⟩⟩:=by
 unfold oH;rw[has_q];rfl
theorem Gh{u:UV}(h:uOk u=true):wE u=if (uTx u).length<=2000 then (0,u)else (1,cP):=by
 unfold wE;rw[zN h]
theorem Kp(set:Int)(x:ByteArray):(plB set x).size<=3*x.size:=kO set x
theorem Gi(l:ByteArray)(h:l.size<=2000):(ptP l).size<=10000:=by
 unfold ptP;refine zh (rX _) (zh (kO _ _) ?_);have h1:(AN l.data.toList).length<=2000:=by
  unfold AN;split
  .decide
  have e:l.data.toList.length=l.size:=by simp
  omega
 have h2:(⟨(eO (AN l.data.toList)).toArray⟩:ByteArray).size=(AN l.data.toList).length:=by
  rw[cR,gU]
 omega
def PQ(w:World)(HB:Nat)(row:List Value)(W:World):Prop:=PU w aM W/\UAt W HB row/\w.heap.size<HB
theorem PQ.later{w:World}{HB:Nat}{row:List Value}{W W':World}(h:PQ w HB row W)(hb:Below W.heap.size W W'):PQ w HB row W':=⟨h.1.later hb,h.2.1.below hb,h.2.2⟩
theorem PQ.drew{w:World}{HB:Nat}{row:List Value}{W:World}(h:PQ w HB row W):PQ w HB row W.drew:=⟨h.1.drew,h.2⟩
theorem PQ.alloc{w:World}{HB:Nat}{row:List Value}{W:World}(h:PQ w HB row W)(o:Obj):PQ w HB row (W.alloc o):=h.later ((zk _ _).alloc (zd _) o)
theorem PQ.moved{w:World}{HB C:Nat}{row:List Value}{W W':World}(h:PQ w HB row W)(h1:w.heap.size<C)(h2:HB≠C)(hM:oM C W W'):PQ w HB row W':=⟨h.1.moved h1 hM,hM.1 _ _ h2 h.2.1,h.2.2⟩
theorem fZ{W:World}{U:Nat}{vs us:List Value}(hU:UAt W U vs)(hl:vs.length=16)(hm:us.length=16):UAt (W.setCells U 0 us.toArray.toList) U us:=by
 have h:=tF us 0 W vs (by rw[hl,hm];decide) hU;have e:vs.take 0++(us++vs.drop (0+us.length))=us:=by rw[hm,List.drop_of_length_le om];simp
 rw[e]at h;exact h
def X5(l:List UInt8):Value:=H #[gV (aU l).2,A4 (aU l).1]
theorem WY(s:ByteArray)(w:World)(hs:s.size<=1099511627776)(hT:Lib.Utf8Tabs 12 13 w)(hP:Pow w)(hD:cC w)(hM:rI w)(hK:iX w):Calls prog 46 #[L s] w fun e w'=>e=.returned (X5 s.data.toList)/\Below w.heap.size w w':=by
 have HTA:Hid (∀W,Below w.heap.size w W->Lib.Utf8Tabs 12 13 W/\Pow W/\cC W/\rI W/\iX W):=fun W hb=>⟨cV hT hb,dQ hP hb,bF hD hb,jV hM hb,hK.later hb⟩
 clear hT hP hD hM hK;have hsl:s.data.toList.length=s.size:=by simp
 obtain ⟨O,hO⟩: ∃O,O=w.alloc (.cells #[I J 0,I J 0,L ⟨#[]⟩,I J 0,I J 0,I J 0,I J 0,I J 0,I J 0,I J 0,I J 0,I J 0,I J 0,L ⟨#[]⟩,G false,L ⟨#[]⟩] 28):=⟨_,rfl⟩;have HU:Hid (PU w aM O):=by
  rw[hO];exact PU.new w _ _
 go_enter func46,ntmps46
 go_upto_region 1 with fail
 rw[<-hO];clear hO
 by_cases hbig:2000<s.size
 .have HZ:Hid (aU s.data.toList=(1,cP)):=by show _=_;unfold aU;rw[if_pos om]
  have hbi:2000<(s.size:Int):=om;have HUU:=HU;clear hsl hbig HU;go_wp2_with (refine aT HUU.out.1 rfl (us:=aM) rfl (aG ..) rfl _ _ rfl rfl rfl ?_;intro w9 HU9 HM9);refine bodyPost_ret (aQ rfl _ _ w.heap.size (E 69 (F #[I J 1])) _ rfl rfl rfl HU9) rfl ⟨by unfold X5;rw[HZ.out];exact rfl,HM9.2 _ _ (zd _) HUU.out.2⟩
 have HR0:aU s.data.toList=qN (cK s.data.toList):=by unfold aU;rw[if_neg om]
 have hts:(⟨(cK s.data.toList).toArray⟩:ByteArray).size<=2000:=by
  have h1:=uI s.data.toList;rw[cR];omega
 have CA:Hid (∀W,Below w.heap.size w W->CB 99 #[L s] W (L ⟨(cK s.data.toList).toArray⟩)):=fun W hb=>sG s W om (HTA.out W hb).2.2.2.1
 have HR:Hid (aU s.data.toList=qN (⟨(cK s.data.toList).toArray⟩:ByteArray).data.toList):=HR0;generalize (⟨(cK s.data.toList).toArray⟩:ByteArray)=t at hts CA HR;have hbi: ¬2000<(s.size:Int):=om;have CS:Hid (∀W,Below w.heap.size w W->CB 98 #[L t] W (ZP (dS t.data.toList))):=fun W hb=>JG t W om (HTA.out W hb).2.2.2.1
 clear hsl hbig HR0;go_wp2_with fail;refine (CA.out _ HU.out.2).mono ?_;rintro e w1 ⟨rfl,b1⟩;have HU1:Hid (PU w aM w1):=HU.out.later b1;clear b1 HU CA
 cases hsch:dS t.data.toList with
 |none=>
  have HZ:Hid (aU s.data.toList=(2,cP)):=HR.out.trans (DE hsch);have CS2:Hid (∀W,Below w.heap.size w W->CB 98 #[L t] W (H #[I J 0,L ⟨#[]⟩,E 69 (F #[I J 2])])):=fun W hb=>by
   have h:=CS.out W hb;rw[hsch]at h;exact h
  clear CS hsch HR;go_wp2_with fail;refine (CS2.out _ HU1.out.2).mono ?_;rintro e w2 ⟨rfl,b2⟩;have HUU:Hid (PU w aM w2):=HU1.out.later b2;clear b2 HU1 CS2;go_wp2_with (refine aT HUU.out.1 rfl (us:=aM) rfl (aG ..) rfl _ _ rfl rfl rfl ?_;intro w9 HU9 HM9);refine bodyPost_ret (aQ rfl _ _ w.heap.size (E 69 (F #[I J 2])) _ rfl rfl rfl HU9) rfl ⟨by unfold X5;rw[HZ.out];exact rfl,HM9.2 _ _ (zd _) HUU.out.2⟩
 |some st=>
  obtain ⟨sch,T⟩:=st;have hs12:sch=1∨sch=2:=by
   unfold dS at hsch;split at hsch
   .cases hsch;exact .inl rfl
   split at hsch
   .cases hsch;exact .inr rfl
   cases hsch
  have hTl:T.length<=2000:=by
   have e:t.data.toList.length=t.size:=by simp
   unfold dS at hsch;split at hsch
   .cases hsch;rw[zg];omega
   split at hsch
   .cases hsch;rw[zg];omega
   cases hsch
  have hZs:(⟨(T.dropWhile slB).toArray⟩:ByteArray).size<=2000:=by
   rw[cR];exact zh (zi slB).length_le hTl
  have HS:Hid (aU s.data.toList=tA sch ((⟨(T.dropWhile slB).toArray⟩:ByteArray).data.toList.takeWhile cL) ((⟨(T.dropWhile slB).toArray⟩:ByteArray).data.toList.dropWhile cL)):=HR.out.trans (QL hsch);have CS2:Hid (∀W,Below w.heap.size w W->CB 98 #[L t] W (H #[I J sch,L ⟨(T.dropWhile slB).toArray⟩,.nilIface])):=fun W hb=>by
   have h:=CS.out W hb;rw[hsch]at h;exact h
  generalize (⟨(T.dropWhile slB).toArray⟩:ByteArray)=Z at CS2 HS hZs;clear CS hsch HR hTl;go_wp2_with fail;refine (CS2.out _ HU1.out.2).mono ?_;rintro e w2 ⟨rfl,b2⟩;have HU2:Hid (PU w aM w2):=HU1.out.later b2;clear b2 HU1 CS2;have hsz:=iM (p:=cL) Z;have CU:Hid (∀W,CB 100 #[L Z] W (H #[L ⟨(Z.data.toList.takeWhile cL).toArray⟩,L ⟨(Z.data.toList.dropWhile cL).toArray⟩])):=fun W=>BG Z W om
  have HS2:Hid (aU s.data.toList=tA sch (⟨(Z.data.toList.takeWhile cL).toArray⟩:ByteArray).data.toList (⟨(Z.data.toList.dropWhile cL).toArray⟩:ByteArray).data.toList):=HS;have HDE:Hid (∀c r,(⟨(Z.data.toList.dropWhile cL).toArray⟩:ByteArray).data.toList=c::r->cL c=false):=fun c r h=>NJ h
  obtain ⟨hz1,hz2⟩:=hsz;generalize (⟨(Z.data.toList.takeWhile cL).toArray⟩:ByteArray)=A at CU HS2 hz1;generalize (⟨(Z.data.toList.dropWhile cL).toArray⟩:ByteArray)=Rs at CU HS2 hz2 HDE;have hA:A.size<=2000:=om;have hRs:Rs.size<=2000:=om;clear HS hz1 hz2;go_wp2_with fail;refine (CU.out _).mono ?_;rintro e w3 ⟨rfl,b3⟩;have HU3:Hid (PU w aM w3):=HU2.out.later b3;clear b3 HU2 CU;obtain ⟨k,n,nm,x0,x1,x2,x3,x4,x5,x6,x7,hhv⟩:=X4 sch A;have CW:Hid (∀W,Below w.heap.size w W->CB 101 #[L A,I J sch] W (H #[F (bD k nm n x0 x1 x2 x3 x4 x5 x6 x7).toArray,I J (kR sch A).2.2,A4 (kR sch A).1])):=fun W hb=>by
   have ht:=HTA.out W hb;have h:=zO A sch W om hs12 ht.1 ht.2.1 ht.2.2.1 ht.2.2.2.1;rw[hhv]at h;exact h
  have HS3:Hid (aU s.data.toList=if (kR sch A).1=0 then wE (oH sch ⟨k,nm,n,[x0,x1,x2,x3,x4,x5,x6,x7]⟩ (kR sch A).2.2 Rs.data.toList)else ((kR sch A).1,cP)):=by
   show _=_;rw[HS2.out,Ko hs12,hhv]
  have HAO:Hid ((kR sch A).1=0->hOk ⟨k,nm,n,[x0,x1,x2,x3,x4,x5,x6,x7]⟩=true/\1<=(kR sch A).2.2/\(kR sch A).2.2<=65535):=fun h=>by
   have h1:=Nm h;rw[hhv]at h1;exact h1
  clear HS2 hhv;generalize (kR sch A).2.2=pn at CW HS3 HAO;generalize (kR sch A).1=cd at CW HS3 HAO
  by_cases hcd:cd=0
  .obtain ⟨hho,hp0,hp1⟩:=HAO.out hcd
   have hnm:nm.size<=1048576:=zh (JB hho) de;have CW2:Hid (∀W,Below w.heap.size w W->CB 101 #[L A,I J sch] W (H #[F (bD k nm n x0 x1 x2 x3 x4 x5 x6 x7).toArray,I J pn,.nilIface])):=fun W hb=>by
    have h:=CW.out W hb;rw[hcd]at h;exact h
   have huk:uOk (oH sch ⟨k,nm,n,[x0,x1,x2,x3,x4,x5,x6,x7]⟩ pn Rs.data.toList)=true:=wS (by rcases hs12 with rfl|rfl<;>decide) hho ⟨hp0,hp1⟩ HDE.out;have HS4:Hid (aU s.data.toList=if (uTx ⟨sch,⟨k,nm,n,[x0,x1,x2,x3,x4,x5,x6,x7]⟩,pn,ptP ⟨(upB 63 Rs.data.toList).toArray⟩,Rs.data.toList.contains 63,plB 2 ⟨(dL 63 Rs.data.toList).toArray⟩⟩).length<=2000 then (0,⟨sch,⟨k,nm,n,[x0,x1,x2,x3,x4,x5,x6,x7]⟩,pn,ptP ⟨(upB 63 Rs.data.toList).toArray⟩,Rs.data.toList.contains 63,plB 2 ⟨(dL 63 Rs.data.toList).toArray⟩⟩)else (1,cP)):=by
    show _=_;rw[HS3.out,if_pos hcd,Gh huk,JS]
   clear CW HS3 HAO huk hcd HDE hho;go_wp2_with fail;refine (CW2.out _ HU3.out.2).mono ?_;rintro e w4 ⟨rfl,b4⟩;have HU4:Hid (PU w aM w4):=HU3.out.later b4;clear b4 HU3 CW2;have HU4a:Hid (PU w aM (w4.alloc (.cells #[I J 0,L ⟨#[]⟩,I J 0,I J 0,I J 0,I J 0,I J 0,I J 0,I J 0,I J 0,I J 0] 26))):=HU4.out.later ((zk _ _).alloc (zd _) _);have hlt:w.heap.size<w4.heap.size:=HU4.out.1.2.2
   go_upto_region 8 with (refine jN (UAt.new w4 _ _) 0 (zd 11) (us:=bD k nm n x0 x1 x2 x3 x4 x5 x6 x7) rfl (gY ..) rfl _ _ rfl rfl rfl ?_;intro w5 HUh HMh)
   have HU5:Hid (PU w aM w5):=HU4a.out.moved hlt HMh;have HUH:Hid (UAt w5 w4.heap.size (bD k nm n x0 x1 x2 x3 x4 x5 x6 x7)):=HUh;clear HUh HMh HU4a HU4;generalize w4.heap.size=HB at HUH hlt⊢;have hle:Rs.data.toList.length=Rs.size:=by simp
   have hup:(⟨(upB 63 Rs.data.toList).toArray⟩:ByteArray).size<=2000:=by
    rw[cR]
    have:=(List.takeWhile_prefix (fun x=>x !=63) (l:=Rs.data.toList)).length_le
    unfold upB;omega
   have hbe:(⟨(dL 63 Rs.data.toList).toArray⟩:ByteArray).size<=2000:=by
    rw[cR]
    have:=(zi (fun x=>x !=63) (l:=Rs.data.toList)).length_le
    unfold dL;rw[zg];omega
   have CC:Hid (∀W,Below w.heap.size w W->CB 102 #[L Rs,L ⟨#[63]⟩] W (H #[L ⟨(upB 63 Rs.data.toList).toArray⟩,L ⟨(dL 63 Rs.data.toList).toArray⟩,G (Rs.data.toList.contains 63)])):=fun W hb=>kB 63 Rs W om
   generalize (⟨(upB 63 Rs.data.toList).toArray⟩:ByteArray)=Up at CC HS4 hup;generalize (⟨(dL 63 Rs.data.toList).toArray⟩:ByteArray)=Be at CC HS4 hbe;generalize Rs.data.toList.contains 63=hq at CC HS4;clear hle;go_wp2_with fail;refine (CC.out _ HU5.out.2).mono ?_;rintro e w6 ⟨rfl,b6⟩;have HU6:Hid (PU w aM w6):=HU5.out.later b6;have HUH6:Hid (UAt w6 HB (bD k nm n x0 x1 x2 x3 x4 x5 x6 x7)):=HUH.out.below b6;clear b6 HU5 HUH CC;have CP:Hid (∀W,Below w.heap.size w W->CB 103 #[L Up] W (L (ptP Up))):=fun W hb=>vN Up W om (HTA.out W hb).2.2.2.2 (HTA.out W hb).2.2.2.1
   have CQ:Hid (∀W,Below w.heap.size w W->CB 104 #[L Be,I J 2] W (L (plB 2 Be))):=fun W hb=>pE Be 2 W (HTA.out W hb).2.2.2.2 om
   have hpa:=Gi Up hup;have hqa:=Kp 2 Be;have hqb:(plB 2 Be).size<=10000:=om;generalize ptP Up=PA at CP HS4 hpa;generalize plB 2 Be=QA at CQ HS4 hqb;clear hqa
   go_upto_region 11 with fail
   go_cut [14] (fun v wx=> ∃U,v=.pointer (some ⟨U,0,none⟩)/\PU w aM wx/\UAt wx U (aA sch k nm n x0 x1 x2 x3 x4 x5 x6 x7 pn PA hq QA)/\w.heap.size<U)
   case first=>
    have hpq:PQ w HB (bD k nm n x0 x1 x2 x3 x4 x5 x6 x7) w6:=⟨HU6.out,HUH6.out,hlt⟩;have hBl:HB<w6.heap.size:=HUH6.out.2.2;clear HU6 HUH6;refine wp_region_held_drew (S:=PQ w HB (bD k nm n x0 x1 x2 x3 x4 x5 x6 x7)) kr (PQ.drew hpq) (fun hH=> ?_);clear hpq;refine wpAnyH_take (i:=0) (v:= ?_) rfl kr kr kr (fun _ _ _ h=>h) (Or.inl ⟨by rfl,?_⟩) hH ?_;rotate_left
    .intro W hW
     clear hW;go_simp
     try with_reducible rfl
    simp only[ze];refine wpAnyH_take (i:=2) (v:= ?_) rfl kr kr kr (fun _ _ _ h=>h) (Or.inl ⟨by rfl,?_⟩) hH ?_;rotate_left
    .intro W hW
     clear hW;go_simp
     try with_reducible rfl
    simp only[ze];refine wpAnyH_take (i:=3) (v:= ?_) rfl kr kr kr (fun _ _ _ h=>h) (Or.inl ⟨by rfl,?_⟩) hH ?_;rotate_left
    .intro W hW
     clear hW;go_simp
     try with_reducible rfl
    simp only[ze];refine wpAnyH_take (i:=5) (v:= ?_) rfl kr kr kr (fun _ _ _ h=>h) (Or.inl ⟨by rfl,?_⟩) hH ?_;rotate_left
    .intro W hW
     clear hW;go_simp
     try with_reducible rfl
    simp only[ze];refine wpAnyH_take (i:=6) (v:= ?_) rfl kr kr kr (fun _ _ _ h=>h) (Or.inl ⟨by rfl,?_⟩) hH ?_;rotate_left
    .intro W hW
     clear hW;go_simp
     try with_reducible rfl
    simp only[ze];refine wpAnyH_take (i:=1) (v:=F (bD k nm n x0 x1 x2 x3 x4 x5 x6 x7).toArray) rfl kr kr kr (fun _ _ _ h=>h) (yieldsIf_load_mid (by rfl) _ _ rfl HB 0 rfl (bD k nm n x0 x1 x2 x3 x4 x5 x6 x7) _ (fun W hW=>hW.2.1.range 0 _ (fun j v hv=>by rw[Nat.zero_add];exact hv)) underlying26 rfl infoHost) hH ?_;simp only[ze];refine wpAnyH_ready (rs:=[4,9]) kr j2 (za rfl (fun K hK=> ?_) (za rfl (fun K hK=> ?_) zc))
    .go_simp
     go_wp2_with (go_at_call 103;refine (CP.out _ hH.1.2).mono ?_;rintro e wq1 ⟨rfl,hb1⟩);refine hK.out _ _ (PQ.later hH hb1) (fun h1=> ?_);clear hK K;clear hH;have hB1:HB<wq1.heap.size:=h1.2.1.2.2;have hw1:w.heap.size<wq1.heap.size:=h1.1.1.2.2;refine wpAnyH_ready (rs:=[7,9]) kr j2 (za rfl (fun K hK=> ?_) (za rfl (fun K hK=> ?_) zc))
     .go_simp
      go_wp2_with (go_at_call 104;refine (CQ.out _ h1.1.2).mono ?_;rintro e wq2 ⟨rfl,hb2⟩);refine hK.out _ _ (PQ.later h1 hb2) (fun h2=> ?_);clear hK K;have hB2:HB<wq2.heap.size:=h2.2.1.2.2;have hw2:w.heap.size<wq2.heap.size:=h2.1.1.2.2;refine wpAnyH_take (i:=8) (v:=F (aA sch k nm n x0 x1 x2 x3 x4 x5 x6 x7 pn PA hq QA).toArray) rfl kr kr kr (fun _ _ _ h=>h) (Or.inl ⟨by rfl,?_⟩) h2 ?_
      .intro W hW
       kernel_rfl
      simp only[ze];refine wpAnyH_ready (rs:=[9]) kr j2 (za rfl (fun K hK=> ?_) zc);go_simp;refine hK.out _ _ (PQ.alloc h2 _) (fun h3=> ?_);clear hK K;have hN:=UAt.new wq2 #[I J 0,I J 0,L ⟨#[]⟩,I J 0,I J 0,I J 0,I J 0,I J 0,I J 0,I J 0,I J 0,I J 0,I J 0,L ⟨#[]⟩,G false,L ⟨#[]⟩] 28;refine wpAnyH_ready (rs:=[10]) kr j2 (za rfl (fun K hK=> ?_) zc);rw[if_pos (by rfl)];refine wp_store_mid _ _ _ rfl wq2.heap.size 0 (aA sch k nm n x0 x1 x2 x3 x4 x5 x6 x7 pn PA hq QA).toArray rfl rfl (hN.there 0 16 (by show 0+16<=16;decide)) infoUrl (aG ..) ?_;refine hK.out _ _ (PQ.moved h3 om om (bW _ _ _)) (fun hZ=> ?_);clear hK K;refine wpAnyH_done kr ?_ _;simp only[ze];go_wp2_with fail;go_meet;exact ⟨_,rfl,hZ.1,fZ hN rfl rfl,hw2⟩
     go_simp;refine hK.out _ _ (PQ.alloc h1 _) (fun h2=> ?_);clear hK K;have hN:=UAt.new wq1 #[I J 0,I J 0,L ⟨#[]⟩,I J 0,I J 0,I J 0,I J 0,I J 0,I J 0,I J 0,I J 0,I J 0,I J 0,L ⟨#[]⟩,G false,L ⟨#[]⟩] 28;refine wpAnyH_ready (rs:=[7]) kr j2 (za rfl (fun K hK=> ?_) zc);go_simp;go_wp2_with (go_at_call 104;refine (CQ.out _ h2.1.2).mono ?_;rintro e wq2 ⟨rfl,hb2⟩);refine hK.out _ _ (PQ.later h2 hb2) (fun h3=> ?_);clear hK K;have hN2:=hN.below hb2;refine wpAnyH_take (i:=8) (v:=F (aA sch k nm n x0 x1 x2 x3 x4 x5 x6 x7 pn PA hq QA).toArray) rfl kr kr kr (fun _ _ _ h=>h) (Or.inl ⟨by rfl,?_⟩) h3 ?_
     .intro W hW
      kernel_rfl
     simp only[ze];refine wpAnyH_ready (rs:=[10]) kr j2 (za rfl (fun K hK=> ?_) zc);rw[if_pos (by rfl)];refine wp_store_mid _ _ _ rfl wq1.heap.size 0 (aA sch k nm n x0 x1 x2 x3 x4 x5 x6 x7 pn PA hq QA).toArray rfl rfl (hN2.there 0 16 (by show 0+16<=16;decide)) infoUrl (aG ..) ?_;refine hK.out _ _ (PQ.moved h3 om om (bW _ _ _)) (fun hZ=> ?_);clear hK K;refine wpAnyH_done kr ?_ _;simp only[ze];go_wp2_with fail;go_meet;exact ⟨_,rfl,hZ.1,fZ hN2 rfl rfl,hw1⟩
    go_simp;refine hK.out _ _ (PQ.alloc hH _) (fun h1=> ?_);clear hK K;have hw1:w.heap.size<w6.heap.size:=hH.1.1.2.2;have hN:=UAt.new w6.drew #[I J 0,I J 0,L ⟨#[]⟩,I J 0,I J 0,I J 0,I J 0,I J 0,I J 0,I J 0,I J 0,I J 0,I J 0,L ⟨#[]⟩,G false,L ⟨#[]⟩] 28;refine wpAnyH_ready (rs:=[4]) kr j2 (za rfl (fun K hK=> ?_) zc);go_simp;go_wp2_with (go_at_call 103;refine (CP.out _ h1.1.2).mono ?_;rintro e wq1 ⟨rfl,hb1⟩);refine hK.out _ _ (PQ.later h1 hb1) (fun h2=> ?_);clear hK K;have hN1:=hN.below hb1;refine wpAnyH_ready (rs:=[7]) kr j2 (za rfl (fun K hK=> ?_) zc);go_simp;go_wp2_with (go_at_call 104;refine (CQ.out _ h2.1.2).mono ?_;rintro e wq2 ⟨rfl,hb2⟩);refine hK.out _ _ (PQ.later h2 hb2) (fun h3=> ?_);clear hK K;have hN2:=hN1.below hb2;refine wpAnyH_take (i:=8) (v:=F (aA sch k nm n x0 x1 x2 x3 x4 x5 x6 x7 pn PA hq QA).toArray) rfl kr kr kr (fun _ _ _ h=>h) (Or.inl ⟨by rfl,?_⟩) h3 ?_
    .intro W hW
     kernel_rfl
    simp only[ze];refine wpAnyH_ready (rs:=[10]) kr j2 (za rfl (fun K hK=> ?_) zc);rw[if_pos (by rfl)];refine wp_store_mid _ _ _ rfl w6.heap.size 0 (aA sch k nm n x0 x1 x2 x3 x4 x5 x6 x7 pn PA hq QA).toArray rfl rfl (hN2.there 0 16 (by show 0+16<=16;decide)) infoUrl (aG ..) ?_;refine hK.out _ _ (PQ.moved h3 om om (bW _ _ _)) (fun hZ=> ?_);clear hK K;refine wpAnyH_done kr ?_ _;simp only[ze];go_wp2_with fail;go_meet;exact ⟨_,rfl,hZ.1,fZ hN2 rfl rfl,hw1⟩
   obtain ⟨U,rfl,hu7,hv7,hlU⟩:=hcut;have HU7:Hid (PU w aM wc):=hu7;have HV7:Hid (UAt wc U (aA sch k nm n x0 x1 x2 x3 x4 x5 x6 x7 pn PA hq QA)):=hv7;clear hu7 hv7 HU6 HUH6 CP CQ hlt;have CT:Hid (∀W,Below w.heap.size w W->CB 12 #[F (aA sch k nm n x0 x1 x2 x3 x4 x5 x6 x7 pn PA hq QA).toArray] W (L ⟨(uTx ⟨sch,⟨k,nm,n,[x0,x1,x2,x3,x4,x5,x6,x7]⟩,pn,PA,hq,QA⟩).toArray⟩)):=fun W hb=>by
    have ht:=HTA.out W hb;exact tH sch k n pn nm PA QA hq x0 x1 x2 x3 x4 x5 x6 x7 W hnm om om ht.1 ht.2.1 ht.2.2.1 ht.2.2.2.2
   have HL:Hid ((uTx ⟨sch,⟨k,nm,n,[x0,x1,x2,x3,x4,x5,x6,x7]⟩,pn,PA,hq,QA⟩).length=(⟨(uTx ⟨sch,⟨k,nm,n,[x0,x1,x2,x3,x4,x5,x6,x7]⟩,pn,PA,hq,QA⟩).toArray⟩:ByteArray).size):=(cR _).symm;rw[HL.out]at HS4;have hts:(⟨(uTx ⟨sch,⟨k,nm,n,[x0,x1,x2,x3,x4,x5,x6,x7]⟩,pn,PA,hq,QA⟩).toArray⟩:ByteArray).size<=4194304:=by
    rw[cR];have h1:=QS (k:=k) (n:=n) (nm:=nm) (x0:=x0) (x1:=x1) (x2:=x2) (x3:=x3) (x4:=x4) (x5:=x5) (x6:=x6) (x7:=x7) sch pn hnm;have h2:=MW hq hpa hqb;unfold uTx;split
    .rw[List.length_append]
     show (fA sch (hTx ⟨k,nm,n,[x0,x1,x2,x3,x4,x5,x6,x7]⟩) pn).length+(iB PA hq QA).length<=_;omega
    simp
   generalize (⟨(uTx ⟨sch,⟨k,nm,n,[x0,x1,x2,x3,x4,x5,x6,x7]⟩,pn,PA,hq,QA⟩).toArray⟩:ByteArray)=TT at CT HS4 hts;clear HL HTA;go_wp2_with (refine bA HV7.out rfl rfl _ rfl rfl ?_);refine (CT.out _ HU7.out.2).mono ?_;rintro e w8 ⟨rfl,b8⟩;have HU8:Hid (PU w aM w8):=HU7.out.later b8;have HV8:Hid (UAt w8 U (aA sch k nm n x0 x1 x2 x3 x4 x5 x6 x7 pn PA hq QA)):=HV7.out.below b8;clear b8 HU7 HV7 CT
   by_cases hfit:TT.size<=2000
   .have HZ:Hid (aU s.data.toList=(0,⟨sch,⟨k,nm,n,[x0,x1,x2,x3,x4,x5,x6,x7]⟩,pn,PA,hq,QA⟩)):=by show _=_;rw[HS4.out,if_pos hfit]
    have hfi: ¬2000<(TT.size:Int):=om;clear HS4 hfit;go_wp2_with (first|(refine bA HV8.out rfl rfl _ rfl rfl ?_)|(refine aT HU8.out.1 rfl (us:=aA sch k nm n x0 x1 x2 x3 x4 x5 x6 x7 pn PA hq QA) rfl (aG ..) rfl _ _ rfl rfl rfl ?_;intro w9 HU9 HM9));refine bodyPost_ret (aQ rfl _ _ w.heap.size .nilIface _ rfl rfl rfl HU9) rfl ⟨by unfold X5;rw[HZ.out];rfl,HM9.2 _ _ (zd _) HU8.out.2⟩
   have HZ:Hid (aU s.data.toList=(1,cP)):=by show _=_;rw[HS4.out,if_neg hfit]
   have hfi:2000<(TT.size:Int):=om;have HUU:=HU8;clear HS4 hfit;go_wp2_with (refine aT HUU.out.1 rfl (us:=aM) rfl (aG ..) rfl _ _ rfl rfl rfl ?_;intro w9 HU9 HM9);refine bodyPost_ret (aQ rfl _ _ w.heap.size (E 69 (F #[I J 1])) _ rfl rfl rfl HU9) rfl ⟨by unfold X5;rw[HZ.out];exact rfl,HM9.2 _ _ (zd _) HUU.out.2⟩
  have HZ:Hid (aU s.data.toList=(cd,cP)):=by show _=_;rw[HS3.out,if_neg hcd]
  have HEV:Hid (A4 cd=E 69 (F #[I J cd])):=M5 hcd;have CW2:Hid (∀W,Below w.heap.size w W->CB 101 #[L A,I J sch] W (H #[F (bD k nm n x0 x1 x2 x3 x4 x5 x6 x7).toArray,I J pn,E 69 (F #[I J cd])])):=fun W hb=>by
   have h:=CW.out W hb;rw[HEV.out]at h;exact h
  clear CW HS3 HAO hcd;go_wp2_with fail;refine (CW2.out _ HU3.out.2).mono ?_;rintro e w4 ⟨rfl,b4⟩;have HU4:Hid (PU w aM w4):=HU3.out.later b4;clear b4 HU3 CW2;have HU4a:Hid (PU w aM (w4.alloc (.cells #[I J 0,L ⟨#[]⟩,I J 0,I J 0,I J 0,I J 0,I J 0,I J 0,I J 0,I J 0,I J 0] 26))):=HU4.out.later ((zk _ _).alloc (zd _) _);have hlt:w.heap.size<w4.heap.size:=HU4.out.1.2.2
  go_upto_region 8 with (refine jN (UAt.new w4 _ _) 0 (zd 11) (us:=bD k nm n x0 x1 x2 x3 x4 x5 x6 x7) rfl (gY ..) rfl _ _ rfl rfl rfl ?_;intro w5 HUh HMh)
  have HUU:Hid (PU w aM w5):=HU4a.out.moved hlt HMh;clear HUh HMh HU4a HU4;go_wp2_with (refine aT HUU.out.1 rfl (us:=aM) rfl (aG ..) rfl _ _ rfl rfl rfl ?_;intro w9 HU9 HM9);refine bodyPost_ret (aQ rfl _ _ w.heap.size (E 69 (F #[I J cd])) _ rfl rfl rfl HU9) rfl ⟨by unfold X5;rw[HZ.out];exact (by rw[HEV.out];rfl),HM9.2 _ _ (zd _) HUU.out.2⟩
end
section
open Go.RowKit
set_option linter.unusedVariables false
def dV(b:UV):List UInt8->UV
 |[]=>b
 |c::r=>if c=63 then ⟨b.s,b.h,b.p,b.a,true,plB 2 ⟨r.toArray⟩⟩else oH b.s b.h b.p (if slB c=true then c::r else toL (upT b.a)++c::r)
theorem nP(b:UV)(c:UInt8)(r:List UInt8):dV b (c::r)=if c=63 then ⟨b.s,b.h,b.p,b.a,true,plB 2 ⟨r.toArray⟩⟩else oH b.s b.h b.p (if slB c=true then c::r else toL (upT b.a)++c::r):=rfl
def oS(u:UV):Int×UV:=if (uTx u).length<=2000 then (0,u)else (1,cP)
def uR(b:UV)(t:List UInt8):Int×UV:=if jA t≠[]then aU t else if qY t=true then aU (gH b.s++t)else oS (dV b t)
def fU(b:UV)(l:List UInt8):Int×UV:=if uOk b=true then (if 2000<l.length then (1,cP)else uR b (cK l))else (4,cP)
theorem WZ(p:ByteArray):toL (upT p)=(toL p).take (upN p p.size):=by
 unfold upT toL;rw[bE,List.drop_zero]
theorem Gj{p:ByteArray}(h:bZ p=true): ∃r,toL (upT p)=47::r:=by
 obtain ⟨r,e⟩:=jZ h;have e':toL p=47::r:=e;have h0:0<p.size:=by
  have:p.data.toList.length=p.size:=by simp
  rw[e]at this;simp at this;omega
 have hp:=G7 h p.size h0;rw[WZ,e'];obtain ⟨k,hk⟩: ∃k,upN p p.size=k+1:=⟨upN p p.size-1,om⟩;rw[hk,List.take_succ_cons];exact ⟨_,rfl⟩
theorem Kq{p:ByteArray}{c:UInt8}(h:c∈toL (upT p)):c∈toL p:=by
 rw[WZ]at h;exact List.mem_of_mem_take h
theorem No{c:UInt8}(h:slB c=true):cL c=false:=by unfold cL;rw[h];rfl
theorem Np{b:UV}(h:uOk b=true)(t:List UInt8):uOk (dV b t)=true:=by
 obtain ⟨h1,h2,h3,h4,h5,h6,h7⟩:=gG h
 cases t with
 |nil=>exact h
 |cons c r=>
  rw[nP];split
  .exact Fo (u:=⟨b.s,b.h,b.p,b.a,true,plB 2 ⟨r.toArray⟩⟩) h1 h2 h3 h4 (.inl rfl) (by show okL 2 (plL 2 _)=true;exact RS 2 de _) (by show plL 2 (plL 2 _)=plL 2 _;exact Z4 2 de _)
  refine wS h1 h2 h3 fun d e he=> ?_
  split at he
  .next hs=>
   injection he with he _;rw[<-he];exact No hs
  obtain ⟨x,hx⟩:=Gj h4.1;rw[hx]at he;injection he with he _;rw[<-he];rfl
theorem X6{u:UV}(h:uOk u=true):wR (oS u):=by
 unfold oS;split
 .next hl=>exact .inr ⟨rfl,h,by rw[<-zN h];exact hl⟩
 exact kP de
theorem NK(b:UV)(l:List UInt8):wR (fU b l):=by
 unfold fU;split
 .next hb=>
  split
  .exact kP de
  unfold uR;split
  .exact uO _
  split
  .exact uO _
  exact X6 (Np hb _)
 exact kP de
theorem Gk(Y:List UInt8):jA (oG++Y)=[104,116,116,112]:=by
 have e:upB 58 (oG++Y)=[104,116,116,112]:=by unfold upB oG;rfl
 rw[JM (by unfold oG;simp) (by rw[e];decide),e]
 decide
theorem X7(Y:List UInt8):jA (jS++Y)=[104,116,116,112,115]:=by
 have e:upB 58 (jS++Y)=[104,116,116,112,115]:=by unfold upB jS;rfl
 rw[JM (by unfold jS;simp) (by rw[e];decide),e]
 decide
theorem Gl(s:Int)(Y:List UInt8):jA (gH s++Y)≠[]:=by
 unfold gH;split
 .rw[Gk];decide
 rw[X7];decide
def RD(h:HV):Prop:=0<(hTx h).size/\rV (aR (hTx h))=h/\rC (aR (hTx h))=0
theorem Gm{u:UV}(h:uOk u=true)(h8:u.h.z.length=8):RD u.h:=by
 obtain ⟨k,n,nm,x0,x1,x2,x3,x4,x5,x6,x7,e⟩:=IZ u.h h8;have h2:=(gG h).2.1;rw[e]at h2⊢;exact R8 h2
theorem Gn{b u:UV}(hb:uOk b=true)(hu:uOk u=true)(hf:RD u.h)(hl:(uTx u).length<=2000):fU b (uTx u)=(0,u):=by
 obtain ⟨_,_,e,_,_,htx⟩:=wQ hu hf.1;have hr:=(Fq hu hf.1 hf.2.1 hf.2.2 hl).1;unfold fU uR;rw[if_pos hb,if_neg om,JI htx,if_pos (by rw[e];exact Gl _ _),hr]
theorem X8:cK []=[]:=JI (fun c hc=>by cases hc)
theorem Gp{u:UV}(hu:uOk u=true)(hl:(uTx u).length<=2000):fU u []=(0,u):=by
 unfold fU uR;rw[if_pos hu,if_neg de,X8,if_neg de,if_neg de];unfold dV oS;rw[if_pos hl]
def besI(b:UV)(t:List UInt8):UV:=if t=[]then b else
 ⟨b.s,b.h,b.p,if upB 63 t=[]then b.a else ptP (mW b.a ⟨(upB 63 t).toArray⟩),t.contains 63,plB 2 ⟨(dL 63 t).toArray⟩⟩
theorem Nq{X:List UInt8}(h: ∀c∈X,c≠63)(t:List UInt8):upB 63 (X++t)=X++upB 63 t/\dL 63 (X++t)=dL 63 t/\(X++t).contains 63=t.contains 63:=by
 induction X with
 |nil=>exact ⟨rfl,rfl,rfl⟩
 |cons x X ih=>
  obtain ⟨i1,i2,i3⟩:=ih fun c hc=>h c (by simp[hc])
  have hx:(x !=63)=true:=bne_iff_ne.2 (h x j2);have e1:upB 63 (x::(X++t))=x::upB 63 (X++t):=by unfold upB;rw[zj,hx,if_pos rfl]
  have e2:dL 63 (x::(X++t))=dL 63 (X++t):=by unfold dL;rw[zf,hx,if_pos rfl]
  rw[List.cons_append,e1,e2,i1,i2];refine ⟨rfl,rfl,?_⟩
  have:(x::(X++t)).contains 63=(X++t).contains 63:=by simp[Ne.symm (h x j2)]
  rw[this,i3]
theorem Kr{b:UV}(h:uOk b=true)(t:List UInt8):dV b t=besI b t:=by
 cases t with
 |nil=>rfl
 |cons c r=>
  unfold besI;rw[if_neg j2];rw[nP]
  by_cases hc:c=63
  .subst hc
   rw[if_pos rfl];have e1:upB 63 ((63:UInt8)::r)=[]:=rfl;have e2:dL 63 ((63:UInt8)::r)=r:=rfl;rw[e1,e2,if_pos rfl];simp
  rw[if_neg hc];have hx:(c !=63)=true:=bne_iff_ne.2 hc;have e1:upB 63 (c::r)=c::upB 63 r:=by unfold upB;rw[zj,hx,if_pos rfl]
  rw[e1,if_neg (show ¬(c::upB 63 r=[]) by simp)];have hh:((⟨(c::upB 63 r).toArray⟩:ByteArray).data.toList.headD 0)=c:=rfl;unfold mW;rw[hh]
  by_cases hs:slB c=true
  .rw[if_pos hs,if_pos hs]
   have:=JS b.s b.h b.p ⟨(c::r).toArray⟩
   rw[show (⟨(c::r).toArray⟩:ByteArray).data.toList=c::r from rfl,e1]at this;exact this
  rw[if_neg hs,if_neg hs];have h63: ∀d∈toL (upT b.a),d≠63:=fun d hd e=>(EJ (gG h).2.2.2.1.2.1 d (Kq hd)).2 (by rw[e];rfl)
  obtain ⟨i1,i2,i3⟩:=Nq h63 (c::r)
  have:=JS b.s b.h b.p ⟨(toL (upT b.a)++c::r).toArray⟩
  rw[show (⟨(toL (upT b.a)++c::r).toArray⟩:ByteArray).data.toList=toL (upT b.a)++c::r from rfl,i1,i2,i3,e1]at this;rw[this];have e3:(⟨(toL (upT b.a)++c::upB 63 r).toArray⟩:ByteArray)=upT b.a++⟨(c::upB 63 r).toArray⟩:=by
   apply bL;unfold toL;simp[ByteArray.data_append]
  rw[e3]
theorem Ks{s:Int}(h:bS s≠0):(uQ s).data.toList=gH s:=by rw[ZN h]
