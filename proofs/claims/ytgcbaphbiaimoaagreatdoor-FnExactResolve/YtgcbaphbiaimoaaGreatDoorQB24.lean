/- UrlParse. -/
import Derived.Test.YtgcbaphbiaimoaaGreatDoorQB23
import Derived.Deep.CutBlock
set_option maxHeartbeats 8000000
set_option maxRecDepth 100000
namespace Go.Proofs.YtgcbaphbiaimoaaGreatDoor
open Go.Value renaming int->I,string->Y,tuple->G,bool->F,agg->E
open Go.IntKind renaming i64->J
open Go.Ending renaming returned->Z
open Go.Obj renaming cells->H
open _root_.Go.RowKit.Below renaming refl->zl
open _root_.Bool renaming and_eq_true->zf,eq_iff_iff->zj
open _root_.ByteArray renaming size_extract->zc
open _root_.List renaming dropWhile_cons->zk,eq_nil_of_length_eq_zero->ze,length->zm,length_append->zi,length_cons->zh,size_toArray->za
open _root_.Nat renaming le_refl->zd,le_trans->zg
open _root_.Go.Proofs.Tryz
open _root_.Go.Proofs.YtgcbaphbiaimoaaGreatDoor.Tryz
open Go.RowKit
def WC(u:UV):List Value:=I J u.s::I J u.h.k::Y u.h.s::I J u.h.n::(u.h.z.map (Value.int .i64)++[I J u.p,Y u.a,F u.q,Y u.r])
def gV(u:UV):Value:=E (WC u).toArray
theorem uI(l:List UInt8):(cK l).length<=l.length:=by
 unfold cK;refine zg (List.length_filter_le _ _) ?_;have h:=congrArg zm (List.takeWhile_append_dropWhile (p:=fun c=>c !=35) (l:=Lib.trimS l lN));rw[zi]at h;have h2:=yM l lN;omega
def PS(w:World)(U:Nat)(sch p:Int)(W:World):Prop:=
 UAt W w.heap.size aM/\UAt W (w.heap.size+1) aM/\UAt W U (aA sch 0 ⟨#[]⟩ 0 0 0 0 0 0 0 0 0 p ⟨#[]⟩ false ⟨#[]⟩)/\w.heap.size+1<U/\Below w.heap.size w W
theorem PS.later{w:World}{U:Nat}{sch p:Int}{W W':World}(h:PS w U sch p W)(hb:Below W.heap.size W W'):PS w U sch p W':=
 ⟨h.1.below hb,h.2.1.below hb,h.2.2.1.below hb,h.2.2.2.1,h.2.2.2.2.trans (hb.mono h.2.2.2.2.size)⟩
theorem PS.sch{w:World}{U:Nat}{sch p:Int}{W:World}(h:PS w U sch p W)(v:Int):PS w U v p (W.setCell ⟨U,0,none⟩ (I J v)):=by
 obtain ⟨h1,h2,h3,h4,h5⟩:=h;exact ⟨h1.other om _ _,h2.other om _ _,h3.set 0 (by simp[aA]) _,h4,h5.setCell (p:=⟨U,0,none⟩) (by show _<=U;omega) _⟩
theorem PS.port{w:World}{U:Nat}{sch p:Int}{W:World}(h:PS w U sch p W)(v:Int):PS w U sch v (W.setCell ⟨U,12,none⟩ (I J v)):=by
 obtain ⟨h1,h2,h3,h4,h5⟩:=h;exact ⟨h1.other om _ _,h2.other om _ _,h3.set 12 (by simp[aA]) _,h4,h5.setCell (p:=⟨U,12,none⟩) (by show _<=U;omega) _⟩
theorem PS.moved{w:World}{U C:Nat}{sch p:Int}{W W':World}(h:PS w U sch p W)(h1:w.heap.size+1<C)(h2:U≠C)(hM:oM C W W'):PS w U sch p W':=
 ⟨hM.1 _ _ om h.1,hM.1 _ _ om h.2.1,hM.1 _ _ h2 h.2.2.1,h.2.2.2.1,hM.2 _ _ om h.2.2.2.2⟩
def PF(w:World)(U:Nat)(row:List Value)(W:World):Prop:=UAt W w.heap.size aM/\UAt W (w.heap.size+1) aM/\UAt W U row/\w.heap.size+1<U/\Below w.heap.size w W
theorem PF.later{w:World}{U:Nat}{row:List Value}{W W':World}(h:PF w U row W)(hb:Below W.heap.size W W'):PF w U row W':=
 ⟨h.1.below hb,h.2.1.below hb,h.2.2.1.below hb,h.2.2.2.1,h.2.2.2.2.trans (hb.mono h.2.2.2.2.size)⟩
theorem PF.turned{w:World}{U:Nat}{row row':List Value}{W W':World}(h:PF w U row W)(hU:UAt W' U row')(hM:oM U W W'):PF w U row' W':=
 have h4:=h.2.2.2.1
 ⟨hM.1 _ _ om h.1,hM.1 _ _ om h.2.1,hU,h4,hM.2 _ _ om h.2.2.2.2⟩
theorem Jo{u:UV}(h:(wD u).length+(lH u).length<=2000):wE u=(0,u):=by unfold wE;rw[if_pos h]
theorem Mu{u:UV}(h: ¬(wD u).length+(lH u).length<=2000):wE u=(1,cP):=by unfold wE;rw[if_neg h]
theorem El{l:List UInt8}{u:UV}(h:aU l=(0,u)):Ending.returned (G #[E (WC u).toArray,I J 0])=Z (G #[gV (aU l).2,I J (aU l).1]):=by rw[h];rfl
theorem uJ{l:List UInt8}{c:Int}(h:aU l=(c,cP)):Ending.returned (G #[E aM.toArray,I J c])=Z (G #[gV (aU l).2,I J (aU l).1]):=by rw[h];rfl
theorem DE{l:List UInt8}(h:dS l=none):qN l=(2,cP):=by unfold qN;rw[h]
theorem QL{l t:List UInt8}{s:Int}(h:dS l=some (s,t)):qN l=oI s t:=by unfold qN;rw[h]
def pQ(t:ByteArray):Bool:=decide (6<t.size/\(aE t.data.toList).take 5=oG/\slB (t.data.toList.getD 5 0)=true/\slB (t.data.toList.getD 6 0)=true)
def pK(t:ByteArray):Bool:=decide (7<t.size/\(aE t.data.toList).take 6=jS/\slB (t.data.toList.getD 6 0)=true/\slB (t.data.toList.getD 7 0)=true)
theorem Em{t:ByteArray}(h:pQ t=true):dS t.data.toList=some (1,(t.extract 5 t.size).data.toList):=by
 have h1:=of_decide_eq_true h;unfold dS;rw[if_pos ⟨by simpa using h1.1,h1.2⟩,fV]
theorem En{t:ByteArray}(h0:pQ t=false)(h:pK t=true):dS t.data.toList=some (2,(t.extract 6 t.size).data.toList):=by
 have h1:=of_decide_eq_true h;have h2:=of_decide_eq_false h0;unfold dS;rw[if_neg (fun hh=>h2 ⟨by simpa using hh.1,hh.2⟩),if_pos ⟨by simpa using h1.1,h1.2⟩,fV]
theorem Eo{t:ByteArray}(h0:pQ t=false)(h:pK t=false):dS t.data.toList=none:=by
 have h1:=of_decide_eq_false h;have h2:=of_decide_eq_false h0;unfold dS;rw[if_neg (fun hh=>h2 ⟨by simpa using hh.1,hh.2⟩),if_neg (fun hh=>h1 ⟨by simpa using hh.1,hh.2⟩)]
theorem U6(c:UInt8):eA (⟨#[47,92,63]⟩:ByteArray).data.toList (c.toNat:Int)= !cL c:=by
 have key: ∀n:Nat,n<256->eA [47,92,63] (n:Int)= !cL (UInt8.ofNat n):=by decide+kernel
 have h:=key c.toNat c.toNat_lt;simpa using h
theorem Ep(l:List UInt8):eA l 64=l.contains 64:=by
 rw[zj,List.contains_iff_mem];unfold eA;rw[List.any_eq_true];constructor
 .rintro ⟨b,hb,h⟩
  have e:b=64:=UInt8.toNat_inj.1 (show b.toNat=64 by have:=of_decide_eq_true h;omega);rw[<-e];exact hb
 intro h;exact ⟨64,h,de⟩
theorem Mv{l:List UInt8}{k:Nat}(h:kV l=some k):k<l.length:=by
 unfold kV at h;rw[Option.map_eq_some_iff]at h;obtain ⟨i,h1,h2⟩:=h;obtain ⟨h3,_⟩:=List.findIdx?_eq_some_iff_getElem.1 h1;rw[List.length_drop]at h3;omega
theorem IX{s:Int}(h:s=1∨s=2):1<=bS s/\bS s<=65535:=by rcases h with rfl|rfl<;>decide
def IY(sch pn:Int)(auth rest:List UInt8):Int×UV:=if 1<=pn/\pn<=65535 then pC sch pn auth rest else (5,cP)
theorem Er{sch:Int}{l r:List UInt8}(hs:sch=1∨sch=2)(h:kV l=none):yI sch l r=IY sch (bS sch) l r:=by
 unfold yI IY;rw[h,if_pos (IX hs)]
theorem Es{sch:Int}{l r:List UInt8}{k:Nat}(h:kV l=some k):yI sch l r=IY sch (eP sch (l.drop (k+1))) (l.take k) r:=by
 unfold yI IY;rw[h]
theorem K7{n m:Nat}: ∀{l:List UInt8} {v:Nat},fB 10 v l=some n->v<10^m->n<10^(m+l.length)
 |[],v,h,hv=>by
  rw[fB]at h
  cases h
  simpa using hv
 |c::r,v,h,hv=>by
  rw[fB]at h;split at h
  .next hc=>
   have h1:=K7 (m:=m+1) h (by
    rw[Nat.pow_succ];omega)
   rw[zh,show m+(r.length+1)=m+1+r.length by omega];exact h1
  cases h
theorem Jp(l:List UInt8):eQ (cU 10 5 l)<=1048576/\ -1<=eQ (cU 10 5 l):=by
 unfold eQ cU;split
 .decide
 next n h=>
 split at h
 .next hl=>
  have h1:=K7 (m:=0) h de;have h2:(10:Nat)^(0+l.length)<=10^5:=Nat.pow_le_pow_right de om;have h3:(10:Nat)^5=100000:=rfl;omega
 cases h
theorem Mw{sch pn:Int}{l r:List UInt8}(h: ¬(1<=pn/\pn<=65535)):IY sch pn l r=(5,cP):=by unfold IY;rw[if_neg h]
theorem Jq{sch pn:Int}{l r:List UInt8}(h:1<=pn/\pn<=65535):IY sch pn l r=pC sch pn l r:=by unfold IY;rw[if_pos h]
theorem IZ(h:HV)(hz:h.z.length=8): ∃(k n:Int) (nm:ByteArray) (x0 x1 x2 x3 x4 x5 x6 x7:Int),h=⟨k,nm,n,[x0,x1,x2,x3,x4,x5,x6,x7]⟩:=by
 obtain ⟨k,nm,n,z⟩:=h
 match z,hz with
 |[x0,x1,x2,x3,x4,x5,x6,x7],_=>exact ⟨k,n,nm,x0,x1,x2,x3,x4,x5,x6,x7,rfl⟩
theorem JB{h:HV}(ho:hOk h=true):h.s.size<=253:=by
 unfold hOk at ho;split at ho
 .simp only[zf,decide_eq_true_eq]at ho
  have:=xY ho.1.1.1
  simpa using this
 split at ho
 .simp only[zf,decide_eq_true_eq]at ho
  omega
 split at ho
 .simp only[zf,decide_eq_true_eq]at ho
  omega
 cases ho
theorem ZE(P:ByteArray):(gZ P).data.toList=AN P.data.toList:=by
 unfold gZ AN
 by_cases h:P.size=0
 .rw[if_pos h,if_pos (ze (by simpa using h))]
 rw[if_neg h,if_neg (fun e=>h (by have:=congrArg zm e;simpa using this))]
theorem QM(s:Int)(h:HV)(p:Int)(l:ByteArray):oH s h p l.data.toList=⟨s,h,p,gK l,kZ l,gF l⟩:=by
 unfold oH gK kZ gF;rw[ZE];have e1:(!(l.data.toList.dropWhile fun c=>c !=63).isEmpty)=decide (0<(iC l).size):=by
  show _=decide (0<(l.data.toList.dropWhile fun c=>c !=63).toArray.size);rw[za]
  cases l.data.toList.dropWhile fun c=>c !=63 with
  |nil=>rfl
  |cons c r=>simp
 have e2:(⟨((l.data.toList.dropWhile fun c=>c !=63).drop 1).toArray⟩:ByteArray)=(iC l).extract 1 (iC l).size:=by
  apply bL;show (l.data.toList.dropWhile fun c=>c !=63).drop 1=((iC l).extract 1 (iC l).size).data.toList;rw[fV];rfl
 rw[e1,e2];rfl
theorem kO(set:Int)(x:ByteArray):(plB set x).size<=3*x.size:=by
 show (plL set (toL x)).toArray.size<=_;rw[za];have h:=XI set (toL x);have h2:(toL x).length=x.size:=by simp[toL]
 omega
theorem ZF(l:ByteArray)(h:l.size<=2000):(gK l).size<=10000:=by
 unfold gK;refine zg (rX _) (zg (kO _ _) ?_);have h1:(gZ (kY l)).size<=2000:=by
  unfold gZ;split
  .decide
  exact zg (iM l).1 h
 have h2:(⟨(eO (gZ (kY l)).data.toList).toArray⟩:ByteArray).size=(gZ (kY l)).size:=by
  show (eO (gZ (kY l)).data.toList).toArray.size=_;rw[za,gU];simp
 omega
theorem ZG(l:ByteArray)(h:l.size<=2000):(gF l).size<=10000:=by
 unfold gF;refine zg (kO _ _) ?_;have h1:(iC l).size<=l.size:=(iM l).2;rw[zc];omega
theorem Et{k n:Int}{nm:ByteArray}{x0 x1 x2 x3 x4 x5 x6 x7:Int}(sch pn:Int)(hnm:nm.size<=1048576):(fA sch (hTx ⟨k,nm,n,[x0,x1,x2,x3,x4,x5,x6,x7]⟩) pn).length<=2097152:=by
 have h1:=tE (k:=k) (n:=n) (s:=nm) (x0:=x0) (x1:=x1) (x2:=x2) (x3:=x3) (x4:=x4) (x5:=x5) (x6:=x6) (x7:=x7) hnm;have h2:=nO sch;have h3:(⟨(gH sch).toArray⟩:ByteArray).size=(gH sch).length:=za;have h4:(gC sch pn).length<=6:=by
  unfold gC;split
  .decide
  have h5:=oL pn;have h6:(iL pn).size=(iZ pn.toNat).length:=za;rw[zh];omega
 have h7:(toL (hTx ⟨k,nm,n,[x0,x1,x2,x3,x4,x5,x6,x7]⟩)).length=(hTx ⟨k,nm,n,[x0,x1,x2,x3,x4,x5,x6,x7]⟩).size:=by simp[toL]
 unfold fA;simp only[zi,zh];omega
theorem MW{a r:ByteArray}(q:Bool)(ha:a.size<=10000)(hr:r.size<=10000):(iB a q r).length<=2097152:=by
 have h1:(toL a).length=a.size:=by simp[toL]
 have h2:(toL r).length=r.size:=by simp[toL]
 unfold iB;split
 .rw[zi,zh]
  omega
 omega
theorem U7(sch:Int):eP sch []=bS sch:=rfl
theorem U8(sch:Int){p:List UInt8}(h:p≠[]):eP sch p=eQ (cU 10 5 p):=by
 unfold eP eQ;rw[if_neg h]
 cases cU 10 5 p<;>rfl
theorem zF(s:ByteArray)(w:World)(hs:s.size<=1099511627776):Calls prog 20 #[Y s] w fun e w'=>e=Z (G #[gV (aU s.data.toList).2,I J (aU s.data.toList).1])/\Below w.heap.size w w':=by
 have hsl:s.data.toList.length=s.size:=by simp
 obtain ⟨O,hO⟩: ∃O,O=(w.alloc (H #[I J 0,I J 0,Y ⟨#[]⟩,I J 0,I J 0,I J 0,I J 0,I J 0,I J 0,I J 0,I J 0,I J 0,I J 0,Y ⟨#[]⟩,F false,Y ⟨#[]⟩] 28)).alloc (H #[I J 0,I J 0,Y ⟨#[]⟩,I J 0,I J 0,I J 0,I J 0,I J 0,I J 0,I J 0,I J 0,I J 0,I J 0,Y ⟨#[]⟩,F false,Y ⟨#[]⟩] 28):=⟨_,rfl⟩;have HR1:UAt O w.heap.size aM:=by
  rw[hO];exact (UAt.new w _ _).below ((zl _ _).alloc (zd _) _)
 have HN1:UAt O (w.heap.size+1) aM:=by
  rw[hO];have h:=UAt.new (w.alloc (H #[I J 0,I J 0,Y ⟨#[]⟩,I J 0,I J 0,I J 0,I J 0,I J 0,I J 0,I J 0,I J 0,I J 0,I J 0,Y ⟨#[]⟩,F false,Y ⟨#[]⟩] 28)) #[I J 0,I J 0,Y ⟨#[]⟩,I J 0,I J 0,I J 0,I J 0,I J 0,I J 0,I J 0,I J 0,I J 0,I J 0,Y ⟨#[]⟩,F false,Y ⟨#[]⟩] 28;rw[World.size_alloc]at h;exact h
 have HB1:Below w.heap.size w O:=by
  rw[hO];exact ((zl _ w).alloc (zd _) _).alloc j2 _
 have HS1:O.heap.size=w.heap.size+2:=by rw[hO];simp
 have HQ1:Hid (UAt O w.heap.size aM/\UAt O (w.heap.size+1) aM/\Below w.heap.size w O/\O.heap.size=w.heap.size+2):=⟨HR1,HN1,HB1,HS1⟩;clear HR1 HN1 HB1 HS1;go_enter func20,ntmps20
 go_upto_if 17 with fail
 rw[<-hO];clear hO
 by_cases hbig:2000<s.size
 .have HRR:Hid (aU s.data.toList=(1,cP)):=by show _=_;unfold aU;rw[if_pos om]
  have hbi:2000<(s.size:Int):=om;clear hsl;go_wp2_with (first|(refine bA HQ1.out.2.1 rfl rfl _ rfl rfl ?_)|(refine aT HQ1.out.1 rfl (us:=aM) rfl (aG ..) rfl _ _ rfl rfl rfl ?_;intro w9 HU9 HM9));refine bodyPost_ret (aQ rfl _ _ w.heap.size (I J 1) _ rfl rfl rfl HU9) rfl ⟨uJ HRR.out,HM9.2 _ _ (zd _) HQ1.out.2.2.1⟩
 have HR0:aU s.data.toList=qN (cK s.data.toList):=by unfold aU;rw[if_neg om]
 have hts:(⟨(cK s.data.toList).toArray⟩:ByteArray).size<=2000:=by
  have h1:=uI s.data.toList;show (cK s.data.toList).toArray.size<=_;rw[za];omega
 have CC:Hid (∀W,CB 51 #[Y s] W (Y ⟨(cK s.data.toList).toArray⟩)):=fun W=>MJ s W om
 have HR:Hid (aU s.data.toList=qN (⟨(cK s.data.toList).toArray⟩:ByteArray).data.toList):=HR0;generalize (⟨(cK s.data.toList).toArray⟩:ByteArray)=t at hts CC HR;have hbi: ¬2000<(s.size:Int):=om;have CL:Hid (∀W,CB 52 #[Y t] W (Y ⟨(aE t.data.toList).toArray⟩)):=fun W=>zS t W om
 clear hsl hbig HR0;go_wp2_with fail;refine (CC.out _).mono ?_;rintro e w1 ⟨rfl,b1⟩;have HP1:Hid (PS w w1.heap.size 0 0 (w1.alloc (H #[I J 0,I J 0,Y ⟨#[]⟩,I J 0,I J 0,I J 0,I J 0,I J 0,I J 0,I J 0,I J 0,I J 0,I J 0,Y ⟨#[]⟩,F false,Y ⟨#[]⟩] 28))):=by
  obtain ⟨h1,h2,h3,h4⟩:=HQ1.out;have hz:=b1.size;have ha:Below w1.heap.size w1 (w1.alloc (H #[I J 0,I J 0,Y ⟨#[]⟩,I J 0,I J 0,I J 0,I J 0,I J 0,I J 0,I J 0,I J 0,I J 0,I J 0,Y ⟨#[]⟩,F false,Y ⟨#[]⟩] 28)):=(zl _ _).alloc (zd _) _;exact ⟨(h1.below b1).below ha,(h2.below b1).below ha,UAt.new w1 _ _,om,(h3.trans (b1.mono h3.size)).trans (ha.mono (by have:=h3.size;omega))⟩
 clear b1 HQ1;go_wp2_with fail;generalize (w1.alloc (H #[I J 0,I J 0,Y ⟨#[]⟩,I J 0,I J 0,I J 0,I J 0,I J 0,I J 0,I J 0,I J 0,I J 0,I J 0,Y ⟨#[]⟩,F false,Y ⟨#[]⟩] 28))=w2 at HP1⊢;generalize w1.heap.size=U at HP1⊢;refine (CL.out _).mono ?_;rintro e w3 ⟨rfl,b3⟩;have HP3:Hid (PS w U 0 0 w3):=HP1.out.later b3;clear b3 HP1 CL CC;have hL5:((⟨(aE t.data.toList).toArray⟩:ByteArray).extract 0 5).data.toList=(aE t.data.toList).take 5:=iP _ 5;have hL6:((⟨(aE t.data.toList).toArray⟩:ByteArray).extract 0 6).data.toList=(aE t.data.toList).take 6:=iP _ 6;have hLs:(⟨(aE t.data.toList).toArray⟩:ByteArray).size=t.size:=by
  show (aE t.data.toList).toArray.size=_;rw[za];simp[aE]
 have HL5:Hid (((⟨(aE t.data.toList).toArray⟩:ByteArray).extract 0 5).data.toList=(aE t.data.toList).take 5):=hL5;have HL6:Hid (((⟨(aE t.data.toList).toArray⟩:ByteArray).extract 0 6).data.toList=(aE t.data.toList).take 6):=hL6;have HLS:Hid ((⟨(aE t.data.toList).toArray⟩:ByteArray).size=t.size):=hLs;clear hL5 hL6 hLs;generalize (⟨(aE t.data.toList).toArray⟩:ByteArray)=L at HL5 HL6 HLS⊢
 go_upto_block 0 with fail
 go_cut [5] (fun v wx=> ∃(sch:Int) (T:ByteArray),v=Y T/\T.size<=2000/\(sch=1∨sch=2)/\Hid (aU s.data.toList=oI sch T.data.toList)/\Hid (PS w U sch 0 wx))
 case first=>
  as_aux_lemma=>
   go_upto_region 8 with fail
   go_cut [25] (fun v wx=>v=F (pQ t)/\wx=w3)
   case first=>
    have hLi:(L.size:Int)=(t.size:Int):=by have:=HLS.out;omega
    by_cases h6:6<t.size
    .have h6i:6<(t.size:Int):=om
     by_cases h5:(aE t.data.toList).take 5=oG
     .have hc:((L.extract 0 5).toList==[104,116,116,112,58])=true:=AW (HL5.out.trans h5)
      obtain ⟨d5,hd5⟩: ∃d:Nat,t[5].toNat=d:=⟨_,rfl⟩;obtain ⟨d6,hd6⟩: ∃d:Nat,t[6].toNat=d:=⟨_,rfl⟩;have C5:Hid (∀W,CS 53 #[.int .u8 (d5:Int)] W (F (slB t[5]))):=fun W=>kA t[5] d5 hd5 W
      have C6:Hid (∀W,CS 53 #[.int .u8 (d6:Int)] W (F (slB t[6]))):=fun W=>kA t[6] d6 hd6 W
      have g5:=jL t 5 om;have g6:=jL t 6 om;have HI:Hid (pQ t=(slB t[5]&&slB t[6])):=by
       show _=_;unfold pQ;rw[g5,g6,zj,decide_eq_true_eq,zf];exact ⟨fun h=>h.2.2,fun h=>⟨h6,h5,h⟩⟩
      clear g5 g6 h5;generalize slB t[5]=b5 at C5 HI;generalize slB t[6]=b6 at C6 HI
      cases b5 with
      |false=>
       go_wp2_with fail;refine (C5.out _).mono ?_;rintro e w' ⟨rfl,rfl⟩;go_wp2_with fail;go_meet;exact ⟨by rw[HI.out];rfl,rfl⟩
      |true=>
       go_wp2_with fail;refine (C5.out _).mono ?_;rintro e w' ⟨rfl,rfl⟩;go_wp2_with fail;refine (C6.out _).mono ?_;rintro e w' ⟨rfl,rfl⟩;go_wp2_with fail;go_meet;exact ⟨by rw[HI.out];rfl,rfl⟩
     have hc:((L.extract 0 5).toList==[104,116,116,112,58])=false:=AX (fun h=>h5 (HL5.out.symm.trans h));have HI:Hid (pQ t=false):=decide_eq_false fun h=>h5 h.2.1
     clear h5;go_wp2_with fail;go_meet;exact ⟨by rw[HI.out],rfl⟩
    have h6i: ¬6<(t.size:Int):=om;have HI:Hid (pQ t=false):=decide_eq_false fun h=>h6 h.1
    go_wp2_with fail;go_meet;exact ⟨by rw[HI.out],rfl⟩
   obtain ⟨rfl,hw⟩:=hcut
   obtain rfl:=hw.symm
   cases hh:pQ t with
   |true=>
    have HS:Hid (aU s.data.toList=oI 1 (t.extract 5 t.size).data.toList):=HR.out.trans (QL (Em hh));have h6:6<(t.size:Int):=by have:=(of_decide_eq_true hh).1;omega
    have hes:(t.extract 5 t.size).size<=2000:=by rw[zc];omega
    have HP4:Hid (PS w U 1 0 (w3.setCell ⟨U,0,none⟩ (I J 1))):=HP3.out.sch 1;have c0:=HP3.out.2.2.1.1 0 _ rfl;have f0:=HP3.out.2.2.1.2.1 0;clear hh;go_wp2_with fail;go_meet;exact ⟨1,_,rfl,hes,.inl rfl,HS,HP4⟩
   |false=>
    have HF:Hid (pQ t=false):=hh;clear hh
    go_upto_region 11 with fail
    go_cut [47] (fun v wx=>v=F (pK t)/\wx=w3)
    case first=>
     have hLi:(L.size:Int)=(t.size:Int):=by have:=HLS.out;omega
     by_cases h6:7<t.size
     .have h6i:7<(t.size:Int):=om
      by_cases h5:(aE t.data.toList).take 6=jS
      .have hc:((L.extract 0 6).toList==[104,116,116,112,115,58])=true:=AW (HL6.out.trans h5)
       obtain ⟨d5,hd5⟩: ∃d:Nat,t[6].toNat=d:=⟨_,rfl⟩;obtain ⟨d6,hd6⟩: ∃d:Nat,t[7].toNat=d:=⟨_,rfl⟩;have C5:Hid (∀W,CS 53 #[.int .u8 (d5:Int)] W (F (slB t[6]))):=fun W=>kA t[6] d5 hd5 W
       have C6:Hid (∀W,CS 53 #[.int .u8 (d6:Int)] W (F (slB t[7]))):=fun W=>kA t[7] d6 hd6 W
       have g5:=jL t 6 om;have g6:=jL t 7 om;have HI:Hid (pK t=(slB t[6]&&slB t[7])):=by
        show _=_;unfold pK;rw[g5,g6,zj,decide_eq_true_eq,zf];exact ⟨fun h=>h.2.2,fun h=>⟨h6,h5,h⟩⟩
       clear g5 g6 h5;generalize slB t[6]=b5 at C5 HI;generalize slB t[7]=b6 at C6 HI
       cases b5 with
       |false=>
        go_wp2_with fail;refine (C5.out _).mono ?_;rintro e w' ⟨rfl,rfl⟩;go_wp2_with fail;go_meet;exact ⟨by rw[HI.out];rfl,rfl⟩
       |true=>
        go_wp2_with fail;refine (C5.out _).mono ?_;rintro e w' ⟨rfl,rfl⟩;go_wp2_with fail;refine (C6.out _).mono ?_;rintro e w' ⟨rfl,rfl⟩;go_wp2_with fail;go_meet;exact ⟨by rw[HI.out];rfl,rfl⟩
      have hc:((L.extract 0 6).toList==[104,116,116,112,115,58])=false:=AX (fun h=>h5 (HL6.out.symm.trans h));have HI:Hid (pK t=false):=decide_eq_false fun h=>h5 h.2.1
      clear h5;go_wp2_with fail;go_meet;exact ⟨by rw[HI.out],rfl⟩
     have h6i: ¬7<(t.size:Int):=om;have HI:Hid (pK t=false):=decide_eq_false fun h=>h6 h.1
     go_wp2_with fail;go_meet;exact ⟨by rw[HI.out],rfl⟩
    obtain ⟨rfl,hw⟩:=hcut
    obtain rfl:=hw.symm
    cases hh:pK t with
    |true=>
     have HS:Hid (aU s.data.toList=oI 2 (t.extract 6 t.size).data.toList):=HR.out.trans (QL (En HF.out hh));have h6:7<(t.size:Int):=by have:=(of_decide_eq_true hh).1;omega
     have hes:(t.extract 6 t.size).size<=2000:=by rw[zc];omega
     have HP4:Hid (PS w U 2 0 (w3.setCell ⟨U,0,none⟩ (I J 2))):=HP3.out.sch 2;have c0:=HP3.out.2.2.1.1 0 _ rfl;have f0:=HP3.out.2.2.1.2.1 0;clear hh;go_wp2_with fail;go_meet;exact ⟨2,_,rfl,hes,.inr rfl,HS,HP4⟩
    |false=>
     have HRR:Hid (aU s.data.toList=(2,cP)):=HR.out.trans (DE (Eo HF.out hh));have HPP:Hid (PS w U 0 0 w3):=HP3;clear hh;go_wp2_with (first|(refine bA HPP.out.2.1 rfl rfl _ rfl rfl ?_)|(refine aT HPP.out.1 rfl (us:=aM) rfl (aG ..) rfl _ _ rfl rfl rfl ?_;intro w9 HU9 HM9));refine bodyPost_ret (aQ rfl _ _ w.heap.size (I J 2) _ rfl rfl rfl HU9) rfl ⟨uJ HRR.out,HM9.2 _ _ (zd _) HPP.out.2.2.2.2⟩
 obtain ⟨sch,T,rfl,hTs,hsch,HS,HP⟩:=hcut;clear HL5 HL6 HLS HP3 HR
 go_upto_block 1 with fail
 go_cut [5] (fun v wx=> ∃T':ByteArray,v=Y T'/\T'.size<=2000/\Hid (T'.data.toList=T.data.toList.dropWhile slB)/\Hid (PS w U sch 0 wx))
 case first=>
  as_aux_lemma=>
   go_wp2_with fail
   go_loop[5] (fun v=> ∃T':ByteArray,v=Y T'/\T'.size<=2000/\T'.data.toList.dropWhile slB=T.data.toList.dropWhile slB) (fun v=>(match v with| Y x=>x.size|_=>0))
   case atStart=>exact ⟨T,rfl,hTs,rfl⟩
   obtain ⟨T',rfl,hT',he⟩:=hrel;have HE:Hid (T'.data.toList.dropWhile slB=T.data.toList.dropWhile slB):=he;clear he
   by_cases h0:T'.size=0
   .have hem:=aS h0
    have HD:Hid (T'.data.toList=T.data.toList.dropWhile slB):=by
     show _=_;rw[<-HE.out,ze (show T'.data.toList.length=0 by simpa using h0)];rfl
    go_wp2_with fail;go_meet;exact ⟨T',rfl,hT',HD,HP⟩
   have hem:=aW (show 0<T'.size by omega);have hdr:=fO T' 0 om;rw[List.drop_zero]at hdr;obtain ⟨d,hd⟩: ∃d:Nat,T'[0].toNat=d:=⟨_,rfl⟩;have CS:Hid (∀W,CS 53 #[.int .u8 (d:Int)] W (F (slB T'[0]))):=fun W=>kA T'[0] d hd W
   cases hb:slB T'[0]with
   |true=>
    have HN:Hid ((T'.extract 1 T'.size).data.toList.dropWhile slB=T.data.toList.dropWhile slB):=by
     show _=_;rw[<-HE.out,fV,hdr,zk,hb,if_pos rfl,List.drop_succ_cons,List.drop_zero]
    rw[hb]at CS;have hes:(T'.extract 1 T'.size).size<=2000:=by rw[zc];omega
    have hms:(T'.extract 1 T'.size).size<T'.size:=by rw[zc];omega
    clear hb hdr;go_wp2_with fail;refine (CS.out _).mono ?_;rintro e w' ⟨rfl,rfl⟩;go_wp2_with fail;go_round
    case rel=>exact ⟨_,rfl,hes,HN.out⟩
    case measure=>exact hms
   |false=>
    have HD:Hid (T'.data.toList=T.data.toList.dropWhile slB):=by
     show _=_;rw[<-HE.out]
     conv=>rhs;rw[hdr,zk,hb,if_neg de,<-hdr]
    rw[hb]at CS;clear hb hdr;go_wp2_with fail;refine (CS.out _).mono ?_;rintro e w' ⟨rfl,rfl⟩;go_wp2_with fail;go_meet;exact ⟨T',rfl,hT',HD,HP⟩
 obtain ⟨T',rfl,hT',HD,HP2⟩:=hcut;clear HP;have hsz:=iM (p:=cL) T';have CU:Hid (∀W,CB 54 #[Y T',Y ⟨#[47,92,63]⟩] W (G #[Y ⟨(T'.data.toList.takeWhile cL).toArray⟩,Y ⟨(T'.data.toList.dropWhile cL).toArray⟩])):=fun W=>AP cL ⟨#[47,92,63]⟩ T' W de U6 om
 have HS2:Hid (aU s.data.toList=tA sch (⟨(T'.data.toList.takeWhile cL).toArray⟩:ByteArray).data.toList (⟨(T'.data.toList.dropWhile cL).toArray⟩:ByteArray).data.toList):=by
  show _=_;rw[HS.out];unfold oI;rw[<-HD.out]
 obtain ⟨hz1,hz2⟩:=hsz;generalize (⟨(T'.data.toList.takeWhile cL).toArray⟩:ByteArray)=A at CU HS2 hz1;generalize (⟨(T'.data.toList.dropWhile cL).toArray⟩:ByteArray)=Rs at CU HS2 hz2;have hA:A.size<=2000:=om;have hRs:Rs.size<=2000:=om;clear HS HD hz1 hz2;have CM:Hid (∀W,Calls prog 55 #[Y A,I J 64] W fun e w'=>e=Z (F (A.data.toList.contains 64))/\W=w'):=fun W=>by
  have h:=qB A 64 W om;rw[Ep]at h;exact h
 go_wp2_with fail;refine (CU.out _).mono ?_;rintro e w5 ⟨rfl,b5⟩;have HP5:Hid (PS w U sch 0 w5):=HP2.out.later b5;clear b5 HP2 CU
 cases h64:A.data.toList.contains 64 with
 |true=>
  have HRR:Hid (aU s.data.toList=(3,cP)):=by show _=_;rw[HS2.out];unfold tA;rw[if_pos h64]
  rw[h64]at CM;clear h64;go_wp2_with fail;refine j3 CM ?_;have HPP:Hid (PS w U sch 0 w5):=HP5;go_wp2_with (first|(refine bA HPP.out.2.1 rfl rfl _ rfl rfl ?_)|(refine aT HPP.out.1 rfl (us:=aM) rfl (aG ..) rfl _ _ rfl rfl rfl ?_;intro w9 HU9 HM9));refine bodyPost_ret (aQ rfl _ _ w.heap.size (I J 3) _ rfl rfl rfl HU9) rfl ⟨uJ HRR.out,HM9.2 _ _ (zd _) HPP.out.2.2.2.2⟩
 |false=>
  have HS3:Hid (aU s.data.toList=yI sch A.data.toList Rs.data.toList):=by show _=_;rw[HS2.out];unfold tA;rw[if_neg (by rw[h64];decide)]
  rw[h64]at CM;clear h64 HS2;go_wp2_with fail;refine j3 CM ?_;have CD:Hid (∀W,Calls prog 37 #[I J sch] W fun e w'=>e=Z (I J (bS sch))/\W=w'):=fun W=>jM sch W
  have CP:Hid (∀W,Calls prog 56 #[Y A] W fun e w'=>e=Z (I J (DL A.data.toList))/\W=w'):=fun W=>Dk A W om
  have c0:=HP5.out.2.2.1.1 0 _ rfl;have c12:=HP5.out.2.2.1.1 12 _ rfl;have f12:=HP5.out.2.2.1.2.1 12;have HP6:Hid (PS w U sch (bS sch) (w5.setCell ⟨U,12,none⟩ (I J (bS sch)))):=HP5.out.port _;go_wp2_with fail;refine j3 CD ?_;go_wp2_with fail;generalize (w5.setCell ⟨U,12,none⟩ (I J (bS sch)))=w6 at HP6⊢;clear c0 c12 f12 HP5 CD CM;refine j3 CP ?_;clear CP;have HZ:Hid (∃z,DL A.data.toList=z):=⟨_,rfl⟩;obtain ⟨z,hz⟩:=HZ.out;rw[hz];have HZ2:Hid (DL A.data.toList=z):=hz;clear hz HZ
  go_upto_if 93 with fail
  go_cut [8] (fun v wx=> ∃(A':ByteArray) (pn:Int),v=Y A'/\A'.size<=2000/\pn<=1048576/\ -1<=pn/\Hid (aU s.data.toList=IY sch pn A'.data.toList Rs.data.toList)/\Hid (PS w U sch pn wx))
  case first=>
   as_aux_lemma=>
    cases hc:kV A.data.toList with
    |none=>
     have hz:z= -1:=by rw[<-HZ2.out];unfold DL;rw[hc]
     subst hz;have HT:Hid (aU s.data.toList=IY sch (bS sch) A.data.toList Rs.data.toList):=HS3.out.trans (Er hsch hc);have hdp:=IX hsch;clear hc;go_wp2_with fail;go_meet;exact ⟨A,_,rfl,hA,om,om,HT,HP6⟩
    |some k=>
     have hz:z=(k:Int):=by rw[<-HZ2.out];unfold DL;rw[hc]
     subst hz;have hk:k<A.size:=by have:=Mv hc;simpa using this
     have HT:Hid (aU s.data.toList=IY sch (eP sch (A.extract (k+1) A.size).data.toList) (A.extract 0 k).data.toList Rs.data.toList):=by
      show _=_;rw[HS3.out,Es hc,fV,iP]
     have hki:(k:Int)<(A.size:Int):=om;have hes:(A.extract 0 k).size<=2000:=by rw[zc];omega
     clear hc
     by_cases h0:A.size=k+1
     .have hem:(A.extract (k+1) A.size).toList.isEmpty=true:=aS (by rw[zc];omega)
      have hnil:(A.extract (k+1) A.size).data.toList=[]:=ze (by simp;omega);rw[hnil,U7]at HT;have hdp:=IX hsch;clear hnil;go_wp2_with fail;go_meet;exact ⟨_,_,rfl,hes,om,om,HT,HP6⟩
     have hem:(A.extract (k+1) A.size).toList.isEmpty=false:=aW (by rw[zc];omega);have hne:(A.extract (k+1) A.size).data.toList≠[]:=fun e=>by have:=congrArg zm e;simp at this;omega
     rw[U8 sch hne]at HT;have CN:Hid (∀W,Calls prog 57 #[Y (A.extract (k+1) A.size),I J 10,I J 5] W fun e w'=>e=Z (I J (eQ (cU 10 5 (A.extract (k+1) A.size).data.toList)))/\W=w'):=fun W=>jU _ 10 5 W de de
     have hnb:=Jp (A.extract (k+1) A.size).data.toList;clear hne;generalize eQ (cU 10 5 (A.extract (k+1) A.size).data.toList)=pn at CN HT hnb;have c12:=HP6.out.2.2.1.1 12 _ rfl;have f12:=HP6.out.2.2.1.2.1 12;have HP7:Hid (PS w U sch pn (w6.setCell ⟨U,12,none⟩ (I J pn))):=HP6.out.port _;go_wp2_with fail;refine j3 CN ?_;go_wp2_with fail;go_meet;exact ⟨_,_,rfl,hes,om,om,HT,HP7⟩
  obtain ⟨A',pn,rfl,hA',hp1,hp0,HT,HP7⟩:=hcut;clear HP6 HS3 HZ2;have c12:=HP7.out.2.2.1.1 12 _ rfl
  by_cases hpn:1<=pn/\pn<=65535
  .have HT2:Hid (aU s.data.toList=pC sch pn A'.data.toList Rs.data.toList):=HT.out.trans (Jq hpn)
   obtain ⟨hpa,hpb⟩:=hpn;have CI:Hid (∀W,Calls prog 39 #[I J pn,I J 1,I J 65535] W fun e w'=>e=Z (F true)/\W=w'):=fun W=>aI _ _ _ W hpa hpb
   have CH:Hid (∀W,CB 58 #[Y A'] W (G #[fP (rV (aR A')),I J (rC (aR A'))])):=fun W=>vH A' W om
   have HRO:=PH A';obtain ⟨k,n,nm,x0,x1,x2,x3,x4,x5,x6,x7,hhv⟩:=IZ (rV (aR A')) (iK A');have HT3:Hid (aU s.data.toList=if rC (aR A')=0 then wE (oH sch ⟨k,nm,n,[x0,x1,x2,x3,x4,x5,x6,x7]⟩ pn Rs.data.toList)else (4,cP)):=by
    show _=_;rw[HT2.out,<-hhv];unfold pC;rw[rF]
   rw[hhv]at CH HRO;have HRO2:Hid (1<=rC (aR A')∨hOk ⟨k,nm,n,[x0,x1,x2,x3,x4,x5,x6,x7]⟩=true):=by
    rcases HRO with ⟨c,h1,h2,_⟩|⟨h1,_⟩
    .exact .inl (by rw[h1];exact h2)
    exact .inr h1
   have CH2:Hid (∀W,CB 58 #[Y A'] W (G #[E (bD k nm n x0 x1 x2 x3 x4 x5 x6 x7).toArray,I J (rC (aR A'))])):=CH;clear hhv HRO CH HT2 HT;go_wp2_with fail;refine j3 CI ?_;go_wp2_with fail;refine (CH2.out _).mono ?_;rintro e w8 ⟨rfl,b8⟩;have HP8:Hid (PS w U sch pn w8):=HP7.out.later b8;clear b8 HP7 c12 CI CH2;have HPa:Hid (PS w U sch pn (w8.alloc (H #[I J 0,Y ⟨#[]⟩,I J 0,I J 0,I J 0,I J 0,I J 0,I J 0,I J 0,I J 0,I J 0] 26))):=HP8.out.later ((zl _ _).alloc (zd _) _);have hU8:U<w8.heap.size:=HP8.out.2.2.1.2.2;have hwU:w.heap.size+1<U:=HP8.out.2.2.2.1
   go_upto_if 117 with (refine jN (UAt.new w8 _ _) 0 (zd 11) (us:=bD k nm n x0 x1 x2 x3 x4 x5 x6 x7) rfl (gY ..) rfl _ _ rfl rfl rfl ?_;intro w9 HUh HMh)
   have HP9:Hid (PS w U sch pn w9):=HPa.out.moved om om HMh;have HUH:Hid (UAt w9 w8.heap.size (bD k nm n x0 x1 x2 x3 x4 x5 x6 x7)):=HUh;clear HUh HMh HPa HP8;obtain ⟨rc,hrc⟩: ∃rc,rC (aR A')=rc:=⟨_,rfl⟩;rw[hrc]at HT3 HRO2⊢;clear hrc
   by_cases hr0:rc=0
   .have HT4:Hid (aU s.data.toList=wE ⟨sch,⟨k,nm,n,[x0,x1,x2,x3,x4,x5,x6,x7]⟩,pn,gK Rs,kZ Rs,gF Rs⟩):=by
     show _=_;rw[HT3.out,if_pos hr0,QM]
    have hnm:nm.size<=1048576:=by
     rcases HRO2.out with h1|h1
     .omega
     exact zg (JB h1) de
    subst hr0;clear HT3 HRO2;have HTS:Hid ((gK Rs).size<=10000/\(gF Rs).size<=10000):=⟨ZF Rs hRs,ZG Rs hRs⟩;have CT:Hid (∀W,CB 59 #[E (aA sch k nm n x0 x1 x2 x3 x4 x5 x6 x7 pn ⟨#[]⟩ false ⟨#[]⟩).toArray,Y Rs] W (E (aA sch k nm n x0 x1 x2 x3 x4 x5 x6 x7 pn (gK Rs) (kZ Rs) (gF Rs)).toArray)):=fun W=>zE sch k n pn nm ⟨#[]⟩ ⟨#[]⟩ false x0 x1 x2 x3 x4 x5 x6 x7 Rs W om
    generalize gK Rs=A3 at CT HT4 HTS;generalize kZ Rs=Q3 at CT HT4;generalize gF Rs=R3 at CT HT4 HTS;go_wp2_with (first|(refine zD HUH.out 0 (bD k nm n x0 x1 x2 x3 x4 x5 x6 x7) (fun j v hv=>by rw[Nat.zero_add];exact hv) rfl rfl _ rfl rfl ?_)|(refine jN HP9.out.2.2.1 1 (show 1+11<=16 by decide) (us:=bD k nm n x0 x1 x2 x3 x4 x5 x6 x7) rfl (gY ..) rfl _ _ rfl rfl rfl ?_;intro w10 HU10 HM10)|(refine bA (show UAt w10 U (aA sch k nm n x0 x1 x2 x3 x4 x5 x6 x7 pn ⟨#[]⟩ false ⟨#[]⟩) from HU10) rfl rfl _ rfl rfl ?_));have HP10:Hid (PF w U (aA sch k nm n x0 x1 x2 x3 x4 x5 x6 x7 pn ⟨#[]⟩ false ⟨#[]⟩) w10):=PF.turned (row:=aA sch 0 ⟨#[]⟩ 0 0 0 0 0 0 0 0 0 pn ⟨#[]⟩ false ⟨#[]⟩) HP9.out HU10 HM10;clear HU10 HM10 HP9 HUH;refine (CT.out _).mono ?_;rintro e w11 ⟨rfl,b11⟩;have HP11:Hid (PF w U (aA sch k nm n x0 x1 x2 x3 x4 x5 x6 x7 pn ⟨#[]⟩ false ⟨#[]⟩) w11):=HP10.out.later b11;clear b11 HP10 CT
    go_upto_region 33 with (refine aT HP11.out.2.2.1 rfl (us:=aA sch k nm n x0 x1 x2 x3 x4 x5 x6 x7 pn A3 Q3 R3) rfl (aG ..) rfl _ _ rfl rfl rfl ?_;intro w12 HU12 HM12)
    have HP12:Hid (PF w U (aA sch k nm n x0 x1 x2 x3 x4 x5 x6 x7 pn A3 Q3 R3) w12):=HP11.out.turned HU12 HM12;clear HU12 HM12 HP11;have CO:Hid (∀W,CB 60 #[E #[I J sch,I J k,Y nm,I J n,I J x0,I J x1,I J x2,I J x3,I J x4,I J x5,I J x6,I J x7,I J pn,Y A3,F Q3,Y R3]] W (Y ⟨(fA sch (hTx ⟨k,nm,n,[x0,x1,x2,x3,x4,x5,x6,x7]⟩) pn).toArray⟩)):=fun W=>IS sch k n pn nm A3 R3 Q3 x0 x1 x2 x3 x4 x5 x6 x7 W hnm om om
    have CR:Hid (∀W,CB 61 #[E #[I J sch,I J k,Y nm,I J n,I J x0,I J x1,I J x2,I J x3,I J x4,I J x5,I J x6,I J x7,I J pn,Y A3,F Q3,Y R3]] W (Y ⟨(iB A3 Q3 R3).toArray⟩)):=fun W=>VZ sch k n pn nm A3 R3 Q3 x0 x1 x2 x3 x4 x5 x6 x7 W (by have:=HTS.out.1;omega) (by have:=HTS.out.2;omega)
    have HFY:Hid ((⟨(fA sch (hTx ⟨k,nm,n,[x0,x1,x2,x3,x4,x5,x6,x7]⟩) pn).toArray⟩:ByteArray).size+(⟨(iB A3 Q3 R3).toArray⟩:ByteArray).size<=2000->aU s.data.toList=(0,⟨sch,⟨k,nm,n,[x0,x1,x2,x3,x4,x5,x6,x7]⟩,pn,A3,Q3,R3⟩)):=fun h=>HT4.out.trans (Jo (by
     have h1:(⟨(fA sch (hTx ⟨k,nm,n,[x0,x1,x2,x3,x4,x5,x6,x7]⟩) pn).toArray⟩:ByteArray).size=(fA sch (hTx ⟨k,nm,n,[x0,x1,x2,x3,x4,x5,x6,x7]⟩) pn).length:=za;have h2:(⟨(iB A3 Q3 R3).toArray⟩:ByteArray).size=(iB A3 Q3 R3).length:=za;rw[h1,h2]at h;exact h))
    have HFN:Hid (¬(⟨(fA sch (hTx ⟨k,nm,n,[x0,x1,x2,x3,x4,x5,x6,x7]⟩) pn).toArray⟩:ByteArray).size+(⟨(iB A3 Q3 R3).toArray⟩:ByteArray).size<=2000->aU s.data.toList=(1,cP)):=fun h=>HT4.out.trans (Mu (by
     have h1:(⟨(fA sch (hTx ⟨k,nm,n,[x0,x1,x2,x3,x4,x5,x6,x7]⟩) pn).toArray⟩:ByteArray).size=(fA sch (hTx ⟨k,nm,n,[x0,x1,x2,x3,x4,x5,x6,x7]⟩) pn).length:=za;have h2:(⟨(iB A3 Q3 R3).toArray⟩:ByteArray).size=(iB A3 Q3 R3).length:=za;rw[h1,h2]at h;exact h))
    have hos:(⟨(fA sch (hTx ⟨k,nm,n,[x0,x1,x2,x3,x4,x5,x6,x7]⟩) pn).toArray⟩:ByteArray).size<=2097152:=by
     have h1:(⟨(fA sch (hTx ⟨k,nm,n,[x0,x1,x2,x3,x4,x5,x6,x7]⟩) pn).toArray⟩:ByteArray).size=(fA sch (hTx ⟨k,nm,n,[x0,x1,x2,x3,x4,x5,x6,x7]⟩) pn).length:=za;rw[h1];exact Et sch pn hnm
    have hrs:(⟨(iB A3 Q3 R3).toArray⟩:ByteArray).size<=2097152:=by
     have h1:(⟨(iB A3 Q3 R3).toArray⟩:ByteArray).size=(iB A3 Q3 R3).length:=za;rw[h1];exact MW Q3 HTS.out.1 HTS.out.2
    generalize (⟨(fA sch (hTx ⟨k,nm,n,[x0,x1,x2,x3,x4,x5,x6,x7]⟩) pn).toArray⟩:ByteArray)=OO at CO HFY HFN hos;generalize (⟨(iB A3 Q3 R3).toArray⟩:ByteArray)=RR at CR HFY HFN hrs;clear HT4 HTS hnm;have hwr:IntKind.i64.wrap ((OO.size:Int)+(RR.size:Int))=(OO.size:Int)+(RR.size:Int):=dZ _ om om;simp only[Act.put]
    go_cut [131] (fun v wx=>v=F (decide (2000<(OO.size:Int)+(RR.size:Int)))/\PF w U (aA sch k nm n x0 x1 x2 x3 x4 x5 x6 x7 pn A3 Q3 R3) wx)
    case first=>
     as_aux_lemma=>
      have c0:=HP12.out.2.2.1.1 0 _ rfl;have c1:=HP12.out.2.2.1.1 1 _ rfl;have c2:=HP12.out.2.2.1.1 2 _ rfl;have c3:=HP12.out.2.2.1.1 3 _ rfl;have c4:=HP12.out.2.2.1.1 4 _ rfl;have c5:=HP12.out.2.2.1.1 5 _ rfl;have c6:=HP12.out.2.2.1.1 6 _ rfl;have c7:=HP12.out.2.2.1.1 7 _ rfl;have c8:=HP12.out.2.2.1.1 8 _ rfl;have c9:=HP12.out.2.2.1.1 9 _ rfl;have c10:=HP12.out.2.2.1.1 10 _ rfl;have c11:=HP12.out.2.2.1.1 11 _ rfl;have c12:=HP12.out.2.2.1.1 12 _ rfl;have c13:=HP12.out.2.2.1.1 13 _ rfl;have c14:=HP12.out.2.2.1.1 14 _ rfl;have c15:=HP12.out.2.2.1.1 15 _ rfl;have HPd:PF w U (aA sch k nm n x0 x1 x2 x3 x4 x5 x6 x7 pn A3 Q3 R3) w12.drew:=⟨HP12.out.1,HP12.out.2.1,HP12.out.2.2.1,HP12.out.2.2.2.1,HP12.out.2.2.2.2.drew⟩
      go_region_with (first|(go_at_call 60;refine (CO.out _).mono ?_;rintro e wq ⟨rfl,hbq⟩;have HPq:PF w U (aA sch k nm n x0 x1 x2 x3 x4 x5 x6 x7 pn A3 Q3 R3) wq:=PF.later (by assumption) hbq;have g0:=HPq.2.2.1.1 0 _ rfl;have g1:=HPq.2.2.1.1 1 _ rfl;have g2:=HPq.2.2.1.1 2 _ rfl;have g3:=HPq.2.2.1.1 3 _ rfl;have g4:=HPq.2.2.1.1 4 _ rfl;have g5:=HPq.2.2.1.1 5 _ rfl;have g6:=HPq.2.2.1.1 6 _ rfl;have g7:=HPq.2.2.1.1 7 _ rfl;have g8:=HPq.2.2.1.1 8 _ rfl;have g9:=HPq.2.2.1.1 9 _ rfl;have g10:=HPq.2.2.1.1 10 _ rfl;have g11:=HPq.2.2.1.1 11 _ rfl;have g12:=HPq.2.2.1.1 12 _ rfl;have g13:=HPq.2.2.1.1 13 _ rfl;have g14:=HPq.2.2.1.1 14 _ rfl;have g15:=HPq.2.2.1.1 15 _ rfl;clear hbq)|(go_at_call 61;refine (CR.out _).mono ?_;rintro e wq ⟨rfl,hbq⟩;have HPq:PF w U (aA sch k nm n x0 x1 x2 x3 x4 x5 x6 x7 pn A3 Q3 R3) wq:=PF.later (by assumption) hbq;have g0:=HPq.2.2.1.1 0 _ rfl;have g1:=HPq.2.2.1.1 1 _ rfl;have g2:=HPq.2.2.1.1 2 _ rfl;have g3:=HPq.2.2.1.1 3 _ rfl;have g4:=HPq.2.2.1.1 4 _ rfl;have g5:=HPq.2.2.1.1 5 _ rfl;have g6:=HPq.2.2.1.1 6 _ rfl;have g7:=HPq.2.2.1.1 7 _ rfl;have g8:=HPq.2.2.1.1 8 _ rfl;have g9:=HPq.2.2.1.1 9 _ rfl;have g10:=HPq.2.2.1.1 10 _ rfl;have g11:=HPq.2.2.1.1 11 _ rfl;have g12:=HPq.2.2.1.1 12 _ rfl;have g13:=HPq.2.2.1.1 13 _ rfl;have g14:=HPq.2.2.1.1 14 _ rfl;have g15:=HPq.2.2.1.1 15 _ rfl;clear hbq))
      all_goals go_wp2_with fail
      all_goals go_meet
      all_goals exact ⟨by first|rfl|rw[hwr],by assumption⟩
    obtain ⟨rfl,hpf⟩:=hcut;have HPP:Hid (PF w U (aA sch k nm n x0 x1 x2 x3 x4 x5 x6 x7 pn A3 Q3 R3) wc):=hpf;clear hpf HP12 CO CR
    by_cases hfit:OO.size+RR.size<=2000
    .have HG:Hid (aU s.data.toList=(0,⟨sch,⟨k,nm,n,[x0,x1,x2,x3,x4,x5,x6,x7]⟩,pn,A3,Q3,R3⟩)):=HFY.out hfit
     rw[decide_eq_false (show ¬2000<(OO.size:Int)+(RR.size:Int) by omega)];clear HFY HFN hfit;go_wp2_with (first|(refine bA HPP.out.2.2.1 rfl rfl _ rfl rfl ?_)|(refine aT HPP.out.1 rfl (us:=aA sch k nm n x0 x1 x2 x3 x4 x5 x6 x7 pn A3 Q3 R3) rfl (aG ..) rfl _ _ rfl rfl rfl ?_;intro w9 HU9 HM9));refine bodyPost_ret (aQ rfl _ _ w.heap.size (I J 0) _ rfl rfl rfl HU9) rfl ⟨El HG.out,HM9.2 _ _ (zd _) HPP.out.2.2.2.2⟩
    have HRR:Hid (aU s.data.toList=(1,cP)):=HFN.out hfit;rw[decide_eq_true (show 2000<(OO.size:Int)+(RR.size:Int) by omega)];clear HFY HFN hfit;go_wp2_with (first|(refine bA HPP.out.2.1 rfl rfl _ rfl rfl ?_)|(refine aT HPP.out.1 rfl (us:=aM) rfl (aG ..) rfl _ _ rfl rfl rfl ?_;intro w9 HU9 HM9));refine bodyPost_ret (aQ rfl _ _ w.heap.size (I J 1) _ rfl rfl rfl HU9) rfl ⟨uJ HRR.out,HM9.2 _ _ (zd _) HPP.out.2.2.2.2⟩
   have HRR:Hid (aU s.data.toList=(4,cP)):=by
    show _=_;rw[HT3.out,if_neg hr0]
   have hrb:(rc !=0)=true:=bne_iff_ne.2 hr0;have HPP:Hid (PS w U sch pn w9):=HP9;clear hr0;go_wp2_with (first|(refine bA HPP.out.2.1 rfl rfl _ rfl rfl ?_)|(refine aT HPP.out.1 rfl (us:=aM) rfl (aG ..) rfl _ _ rfl rfl rfl ?_;intro w9 HU9 HM9));refine bodyPost_ret (aQ rfl _ _ w.heap.size (I J 4) _ rfl rfl rfl HU9) rfl ⟨uJ HRR.out,HM9.2 _ _ (zd _) HPP.out.2.2.2.2⟩
  have HRR:Hid (aU s.data.toList=(5,cP)):=HT.out.trans (Mw hpn);have CI:Hid (∀W,Calls prog 39 #[I J pn,I J 1,I J 65535] W fun e w'=>e=Z (F false)/\W=w'):=fun W=>aP _ _ _ W om
  have HPP:Hid (PS w U sch pn wc):=HP7;clear hpn;go_wp2_with fail;refine j3 CI ?_;clear c12;go_wp2_with (first|(refine bA HPP.out.2.1 rfl rfl _ rfl rfl ?_)|(refine aT HPP.out.1 rfl (us:=aM) rfl (aG ..) rfl _ _ rfl rfl rfl ?_;intro w9 HU9 HM9));refine bodyPost_ret (aQ rfl _ _ w.heap.size (I J 5) _ rfl rfl rfl HU9) rfl ⟨uJ HRR.out,HM9.2 _ _ (zd _) HPP.out.2.2.2.2⟩
