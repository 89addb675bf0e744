/- HostParse, Ip6Spec, Ip6Both, HostSpec, HostSpec2, UrlSpec2, UrlLaws. -/
import Derived.Test.YtgcbaphbiaimoaaGreatDoorQF27
import Derived.Test.YtgcbaphbiaimoaaGreatDoorQF17
import Derived.Deep.MidRow
set_option maxHeartbeats 4000000
set_option maxRecDepth 20000
namespace Go.Proofs.YtgcbaphbiaimoaaGreatDoor
open Go.Value renaming int->I,string->L,tuple->Y,bool->Z,pointer->G,agg->F,iface->E
open Go.IntKind renaming i64->J
open _root_.List renaming isPrefixOf->ze,length_set->zf,size_toArray->za
open _root_.Nat renaming le_refl->zd,zero_add->zc
open _root_.Go.Proofs.Tryz
open _root_.Go.Proofs.YtgcbaphbiaimoaaGreatDoor.Tryz
open Go.RowKit
def fB(h:HV):Value:=F (#[I J h.k,L h.s,I J h.n]++(h.z.map (Value.int .i64)).toArray)
def mV(r:lO):Value:=match r.t with
 |0=> .nilIface
 |1=> E 142 (L ⟨r.l.toArray⟩)
 |2=> E 143 (I J (r.n:Int))
 |_=> E 144 (F ((r.g.map fun (x:Nat)=>(x:Int)).map (Value.int .i64)).toArray)
theorem YR(l:List UInt8):Lib.hasSuffix l [93]=decide (l.getLast? =some 93):=by
 unfold Lib.hasSuffix;rw[List.isSuffixOf,List.getLast?_eq_head?_reverse]
 cases l.reverse with
 |nil=>rfl
 |cons c r=>
  by_cases h:c=93
  .subst h;simp[ze]
  have: ¬(93:UInt8)=c:=fun e=>h e.symm
  simp[ze,h,this]
theorem Hh{l:List UInt8}(h:l.getLast? =some 93):Lib.trimSuffix l [93]=l.dropLast:=by
 unfold Lib.trimSuffix;rw[if_pos (by rw[YR,decide_eq_true h]),List.dropLast_eq_take];rfl
theorem KE{r:List UInt8}(h:r.getLast? =some 93):gI r=IX (dQ r.dropLast):=by unfold gI;rw[if_pos h]
theorem FB{r:List UInt8}(h: ¬r.getLast? =some 93):gI r=.bad 2:=by unfold gI;rw[if_neg h]
theorem YS{gs:List Nat}(h:gs.length=8): ∃x0 x1 x2 x3 x4 x5 x6 x7:Int,jG (some gs)=Y #[F #[I J x0,I J x1,I J x2,I J x3,I J x4,I J x5,I J x6,I J x7],Z true]/\mV (.si gs)=E 144 (F #[I J x0,I J x1,I J x2,I J x3,I J x4,I J x5,I J x6,I J x7])/\(gs.map fun (x:Nat)=>(x:Int))=[x0,x1,x2,x3,x4,x5,x6,x7]:=by
 obtain ⟨x0,x1,x2,x3,x4,x5,x6,x7,hx⟩:=nJ (z:=gs.map fun (x:Nat)=>(x:Int)) (by simpa using h);refine ⟨x0,x1,x2,x3,x4,x5,x6,x7,?_,?_,hx⟩
 .show Value.tuple #[F ((toI gs).map (Value.int .i64)).toArray,Z true]=_
  rw[show toI gs=gs.map (fun (x:Nat)=>(x:Int)) from rfl,hx];rfl
 show Value.iface 144 (F ((gs.map fun (x:Nat)=>(x:Int)).map (Value.int .i64)).toArray)=_;rw[hx];rfl
theorem SM(s:ByteArray)(w:World)(hs:s.size<=1048576)(h0:0<s.size)(hP:Pow w)(hD:bK w)(hM:qE w):Calls prog 248 #[L s] w fun e w'=>e=.returned (Y #[mV (gI (s.extract 1 s.size).data.toList),I J (rC (gI (s.extract 1 s.size).data.toList))])/\Below w.heap.size w w':=by
 have hts:(s.extract 1 s.size).size<=1048576:=by rw[ByteArray.size_extract];omega
 have h0i:1<=(s.size:Int):=om;have CC:Hid (∀W,CS 264 #[L (s.extract 1 s.size),L ⟨#[93]⟩] W (Y #[L ⟨(Lib.trimSuffix (s.extract 1 s.size).data.toList [93]).toArray⟩,Z (Lib.hasSuffix (s.extract 1 s.size).data.toList [93])])):=fun W=>(strings_CutSuffix (s.extract 1 s.size) ⟨#[93]⟩ W om).mono fun e w' h=>⟨h.1,h.2.symm⟩
 have CP:Hid (∀q:ByteArray,q.size<=1048576->CB 265 #[L q] w (jG (dQ q.data.toList))):=fun q hq=>MA q w hq hP hD hM
 clear hP hD hM;obtain ⟨t,ht⟩: ∃t,s.extract 1 s.size=t:=⟨_,rfl⟩;have HE:Hid (s.extract 1 s.size=t):=ht;have hsl: ∀W,(Instr.slice 9 (L s) (some (I J 1)) none none).run prog W=.ok (L t) W:=by
  intro W;rw[<-ht];simp[Instr.slice,run_underlying underlying9,Instr.sliceBounds,go_sem,show ¬(s.size:Int)<1 by omega]
 rw[ht]at hts CC⊢;clear ht
 by_cases hcl:t.data.toList.getLast? =some 93
 .have hin:(⟨(Lib.trimSuffix t.data.toList [93]).toArray⟩:ByteArray)=⟨t.data.toList.dropLast.toArray⟩:=by rw[Hh hcl]
  rw[hin,YR,decide_eq_true hcl]at CC;have HZ:Hid (gI t.data.toList=IX (dQ t.data.toList.dropLast)):=KE hcl;have hq:(⟨t.data.toList.dropLast.toArray⟩:ByteArray).size<=1048576:=by
   show t.data.toList.dropLast.toArray.size<=1048576;rw[za,List.length_dropLast]
   have:t.data.toList.length=t.size:=by simp
   omega
  have CP1:Hid (CB 265 #[L ⟨t.data.toList.dropLast.toArray⟩] w (jG (dQ t.data.toList.dropLast))):=CP.out _ hq;have H8:Hid (∀gs,dQ t.data.toList.dropLast=some gs->gs.length=8):=qP _;generalize (⟨t.data.toList.dropLast.toArray⟩:ByteArray)=Q at CC CP1;generalize dQ t.data.toList.dropLast=R at HZ CP1 H8;clear CP hcl hin hq
  cases R with
  |none=>
   go_enter func248,ntmps248;go_wp2_with fail;refine (CC.out _).mono ?_;rintro e w' ⟨rfl,rfl⟩;go_wp2_with fail;refine CP1.out.mono ?_;rintro e w1 ⟨rfl,b1⟩;simp only[jG];go_wp2_with fail;go_ret2;rw[HZ.out];exact ⟨rfl,b1.alloc b1.size _⟩
  |some gs=>
   obtain ⟨x0,x1,x2,x3,x4,x5,x6,x7,hv,hm,_⟩:=YS (H8.out gs rfl);rw[hv]at CP1;have HM:Hid (mV (gI t.data.toList)=E 144 (F #[I J x0,I J x1,I J x2,I J x3,I J x4,I J x5,I J x6,I J x7])/\rC (gI t.data.toList)=0):=by
    show _/\_;rw[HZ.out];exact ⟨hm,rfl⟩
   clear hv hm H8 HZ;go_enter func248,ntmps248;go_wp2_with fail;refine (CC.out _).mono ?_;rintro e w' ⟨rfl,rfl⟩;go_wp2_with fail;refine CP1.out.mono ?_;rintro e w1 ⟨rfl,b1⟩;go_wp2_with fail;go_ret2;rw[HM.out.1,HM.out.2];exact ⟨rfl,b1.alloc b1.size _⟩
 have HZ:Hid (gI t.data.toList=.bad 2):=FB hcl;rw[YR,decide_eq_false hcl]at CC;have CP1:Hid (∀l:List UInt8,l.length<=1048576->CB 265 #[L ⟨l.toArray⟩] w (jG (dQ l))):=fun l hl=>CP.out ⟨l.toArray⟩ (by show l.toArray.size<=_;rw[za];exact hl)
 have hq:(Lib.trimSuffix t.data.toList [93]).length<=1048576:=by
  unfold Lib.trimSuffix;rw[YR,decide_eq_false hcl,if_neg de]
  have:t.data.toList.length=t.size:=by simp
  omega
 have CP2:=CP1.out _ hq;have H8:Hid (∀gs,dQ (Lib.trimSuffix t.data.toList [93])=some gs->gs.length=8):=qP _;generalize (⟨(Lib.trimSuffix t.data.toList [93]).toArray⟩:ByteArray)=Q at CC CP2;generalize dQ (Lib.trimSuffix t.data.toList [93])=R at CP2 H8;obtain ⟨x0,x1,x2,x3,x4,x5,x6,x7,bb,hv⟩:=UO H8.out;rw[hv]at CP2;have CP3:Hid (CB 265 #[L Q] w (Y #[F #[I J x0,I J x1,I J x2,I J x3,I J x4,I J x5,I J x6,I J x7],Z bb])):=CP2;clear CP CP1 CP2 hcl hq hv H8;go_enter func248,ntmps248;go_wp2_with fail;refine (CC.out _).mono ?_;rintro e w' ⟨rfl,rfl⟩;go_wp2_with fail;refine CP3.out.mono ?_;rintro e w1 ⟨rfl,b1⟩;go_wp2_with fail;go_ret2;rw[HZ.out];exact ⟨rfl,b1.alloc b1.size _⟩
theorem GK(s:ByteArray)(w:World)(hs:s.size<=1048576)(hT:Lib.Utf8Tabs 12 13 w):Calls prog 249 #[L s] w fun e w'=>e=.returned (Y #[mV (fX s),I J (rC (fX s))])/\Below w.heap.size w w':=by
 have CU:Hid (CB 186 #[L s] w (L (unB s))):=tN s w om;have hus:=Nat.le_trans (PO s) hs;have CN:Hid (∀W,Below w.heap.size w W->CB 266 #[L (unB s)] W (dT (cV (unB s)))):=fun W hb=>EZ (unB s) W hus (bW hT hb)
 have HZ0:Hid (fX s=match cV (unB s)with
  |none=> .bad 3
  |some n=>iQ n):=rfl
 have HL:Hid (∀n,cV (unB s)=some n->n.length<=253):=fun n hn=>(wF hn)
 generalize unB s=u at CU CN HZ0 HL;clear hT hus
 cases hn:cV u with
 |none=>
  have HZ:Hid (fX s=.bad 3):=by
   show _=_;rw[HZ0.out,hn]
  rw[hn]at CN;clear hn HZ0 HL;go_enter func249,ntmps249;go_wp2_with fail;refine CU.out.mono ?_;rintro e w1 ⟨rfl,b1⟩;go_wp2_with fail;refine (CN.out _ b1).mono ?_;rintro e w2 ⟨rfl,b2⟩;have B2:=b1.trans (b2.mono b1.size);clear b1 b2;simp only[dT];go_wp2_with fail;go_ret2;rw[HZ.out];exact ⟨rfl,B2⟩
 |some n=>
  have hl:=HL.out n hn;have HZ1:Hid (fX s=iQ n):=by
   show _=_;rw[HZ0.out,hn]
  rw[hn,show dT (some n)=Y #[L ⟨n.toArray⟩,Z true] from rfl]at CN;have hns:(⟨n.toArray⟩:ByteArray).size<=1048576:=by
   show n.toArray.size<=_;rw[za];omega
  have CE:Hid (∀W,CS 267 #[L ⟨n.toArray⟩] W (Z (qO ⟨n.toArray⟩))):=fun W=>pJ _ W hns
  have CL:Hid (∀W,CB 268 #[L ⟨n.toArray⟩] W (eN (loA ⟨n.toArray⟩))):=fun W=>wI _ W hns
  have HM:Hid (iQ n=if qO ⟨n.toArray⟩=true then (match loA ⟨n.toArray⟩with
   |none=> .bad 4
   |some v=> .fo v)else .nm n):=rfl
  have HMV:Hid (mV (.nm n)=E 142 (L ⟨n.toArray⟩)):=rfl;generalize (⟨n.toArray⟩:ByteArray)=T at CN CE CL HM HMV;clear hn HZ0 HL hl hns
  cases he:qO T with
  |false=>
   have HZ:Hid (fX s=.nm n):=by
    show _=_;rw[HZ1.out,HM.out,he,if_neg de]
   rw[he]at CE;clear he HZ1 HM CL;go_enter func249,ntmps249;go_wp2_with fail;refine CU.out.mono ?_;rintro e w1 ⟨rfl,b1⟩;go_wp2_with fail;refine (CN.out _ b1).mono ?_;rintro e w2 ⟨rfl,b2⟩;have B2:=b1.trans (b2.mono b1.size);clear b1 b2;go_wp2_with fail;refine (CE.out _).mono ?_;rintro e w3 ⟨rfl,rfl⟩;go_wp2_with fail;go_ret2;rw[HZ.out,HMV.out];exact ⟨rfl,B2⟩
  |true=>
   rw[he]at CE
   cases hlo:loA T with
   |none=>
    have HZ:Hid (fX s=.bad 4):=by
     show _=_;rw[HZ1.out,HM.out,he,if_pos rfl,hlo]
    rw[hlo]at CL;clear he hlo HZ1 HM HMV;go_enter func249,ntmps249;go_wp2_with fail;refine CU.out.mono ?_;rintro e w1 ⟨rfl,b1⟩;go_wp2_with fail;refine (CN.out _ b1).mono ?_;rintro e w2 ⟨rfl,b2⟩;have B2:=b1.trans (b2.mono b1.size);clear b1 b2;go_wp2_with fail;refine (CE.out _).mono ?_;rintro e w3 ⟨rfl,rfl⟩;go_wp2_with fail;refine (CL.out _).mono ?_;rintro e w4 ⟨rfl,b4⟩;have B4:=B2.trans (b4.mono B2.size);clear b4;simp only[eN];go_wp2_with fail;go_ret2;rw[HZ.out];exact ⟨rfl,B4⟩
   |some v=>
    have HZ:Hid (fX s=.fo v):=by
     show _=_;rw[HZ1.out,HM.out,he,if_pos rfl,hlo]
    rw[hlo]at CL;clear he hlo HZ1 HM HMV;go_enter func249,ntmps249;go_wp2_with fail;refine CU.out.mono ?_;rintro e w1 ⟨rfl,b1⟩;go_wp2_with fail;refine (CN.out _ b1).mono ?_;rintro e w2 ⟨rfl,b2⟩;have B2:=b1.trans (b2.mono b1.size);clear b1 b2;go_wp2_with fail;refine (CE.out _).mono ?_;rintro e w3 ⟨rfl,rfl⟩;go_wp2_with fail;refine (CL.out _).mono ?_;rintro e w4 ⟨rfl,b4⟩;have B4:=B2.trans (b4.mono B2.size);clear b4;simp only[eN];go_wp2_with fail;go_ret2;rw[HZ.out];exact ⟨rfl,B4⟩
theorem AH(s:ByteArray)(w:World)(hs:s.size<=1048576)(hT:Lib.Utf8Tabs 12 13 w)(hP:Pow w)(hD:bK w)(hM:qE w):Calls prog 212 #[L s] w fun e w'=>e=.returned (Y #[mV (aO s),I J (rC (aO s))])/\Below w.heap.size w w':=by
 by_cases h0:s.size=0
 .have HZ:Hid (aO s=.bad 1):=IY h0
  have hem:=aV h0;clear hT hP hD hM h0;go_enter func212,ntmps212;go_wp2_with fail;go_ret2;rw[HZ.out];exact ⟨rfl,Below.refl _ _⟩
 have hp:0<s.size:=om;have hem:=aX hp;obtain ⟨d,hd⟩: ∃d:Nat,s[0].toNat=d:=⟨_,rfl⟩
 by_cases h9:d=91
 .have HZ:Hid (aO s=gI (s.extract 1 s.size).data.toList):=IZ hp (by rw[hd];exact h9)
  have CS:Hid (CB 248 #[L s] w (Y #[mV (gI (s.extract 1 s.size).data.toList),I J (rC (gI (s.extract 1 s.size).data.toList))])):=SM s w hs hp hP hD hM;rw[<-HZ.out]at CS;generalize mV (aO s)=V at CS⊢;generalize rC (aO s)=C at CS⊢;subst h9;clear hT hP hD hM h0;go_enter func212,ntmps212;go_wp2_with fail;refine CS.out.mono ?_;rintro e w1 ⟨rfl,b1⟩;go_wp2_with fail;go_ret2;exact ⟨rfl,b1⟩
 have HZ:Hid (aO s=fX s):=uL hp (by rw[hd];exact h9);have CS:Hid (CB 249 #[L s] w (Y #[mV (fX s),I J (rC (fX s))])):=GK s w hs hT;rw[<-HZ.out]at CS;have q0:((d:Int)==91)=false:=beq_eq_false_iff_ne.2 om;generalize mV (aO s)=V at CS⊢;generalize rC (aO s)=C at CS⊢;clear hT hP hD hM h0 h9;go_enter func212,ntmps212;go_wp2_with fail;refine CS.out.mono ?_;rintro e w1 ⟨rfl,b1⟩;go_wp2_with fail;go_ret2;exact ⟨rfl,b1⟩
theorem iT(s:ByteArray):(rV (aO s)).z.length=8:=by
 unfold aO;split
 .rfl
 split
 .unfold gI
  split
  .cases h:dQ _ with
   |none=>rfl
   |some g=>
    show (g.map fun (x:Nat)=>(x:Int)).length=8;rw[List.length_map];exact qP _ g h
  rfl
 unfold fX;split
 .rfl
 unfold iQ;split
 .split<;>rfl
 rfl
theorem VV(s:ByteArray):(∃c,aO s=.bad c)∨(∃l,aO s=.nm l)∨(∃n,aO s=.fo n)∨ ∃g,aO s=.si g:=by
 unfold aO;split
 .exact .inl ⟨_,rfl⟩
 split
 .unfold gI
  split
  .cases dQ _ with
   |none=>exact .inl ⟨_,rfl⟩
   |some g=>exact .inr (.inr (.inr ⟨g,rfl⟩))
  exact .inl ⟨_,rfl⟩
 unfold fX;split
 .exact .inl ⟨_,rfl⟩
 unfold iQ;split
 .split
  .exact .inl ⟨_,rfl⟩
  exact .inr (.inr (.inl ⟨_,rfl⟩))
 exact .inr (.inl ⟨_,rfl⟩)
theorem SO(s:ByteArray)(w:World):Calls prog 82 #[mV (aO s)] w fun e w'=>e=.returned (fB (rV (aO s)))/\Below w.heap.size w w':=by
 have h:=iT s
 rcases VV s with ⟨c,hr⟩|⟨l,hr⟩|⟨n,hr⟩|⟨g,hr⟩
 .rw[hr];exact MQ w
 .rw[hr];exact wX _ w
 .rw[hr];exact wY _ w
 rw[hr]at h⊢;obtain ⟨x0,x1,x2,x3,x4,x5,x6,x7,hx⟩:=nJ h;have hx2:(g.map fun (x:Nat)=>(x:Int))=[x0,x1,x2,x3,x4,x5,x6,x7]:=hx;have e1:mV (.si g)=E 144 (F #[I J x0,I J x1,I J x2,I J x3,I J x4,I J x5,I J x6,I J x7]):=by
  show Value.iface 144 (F ((g.map fun (x:Nat)=>(x:Int)).map (Value.int .i64)).toArray)=_;rw[hx2];rfl
 have e2:fB (rV (.si g))=F #[I J 3,L ⟨#[]⟩,I J 0,I J x0,I J x1,I J x2,I J x3,I J x4,I J x5,I J x6,I J x7]:=by
  unfold fB;rw[hx];rfl
 rw[e1,e2];exact wZ x0 x1 x2 x3 x4 x5 x6 x7 w
theorem tX(h:HV)(h8:h.z.length=8): ∃x0 x1 x2 x3 x4 x5 x6 x7:Int,h.z=[x0,x1,x2,x3,x4,x5,x6,x7]/\fB h=F #[I J h.k,L h.s,I J h.n,I J x0,I J x1,I J x2,I J x3,I J x4,I J x5,I J x6,I J x7]:=by
 obtain ⟨x0,x1,x2,x3,x4,x5,x6,x7,hx⟩:=nJ h8;refine ⟨x0,x1,x2,x3,x4,x5,x6,x7,hx,?_⟩;unfold fB;rw[hx];rfl
theorem GL(s:ByteArray)(w:World)(hs:s.size<=1048576)(hT:Lib.Utf8Tabs 12 13 w)(hP:Pow w)(hD:bK w)(hM:qE w):Calls prog 153 #[L s] w fun e w'=>e=.returned (Y #[fB (rV (aO s)),I J (rC (aO s))])/\Below w.heap.size w w':=by
 have CM:Hid (∀W,Below w.heap.size w W->CB 212 #[L s] W (Y #[mV (aO s),I J (rC (aO s))])):=fun W hb=>AH s W hs (bW hT hb) (cN hP hb) (aT hD hb) (iM hM hb)
 have CO:Hid (∀W,CB 82 #[mV (aO s)] W (fB (rV (aO s)))):=fun W=>SO s W
 obtain ⟨x0,x1,x2,x3,x4,x5,x6,x7,_,hv⟩:=tX _ (iT s);rw[hv]at CO⊢;generalize mV (aO s)=V at CM CO;generalize rC (aO s)=C at CM⊢;generalize (rV (aO s)).k=k at CO⊢;generalize (rV (aO s)).s=t at CO⊢;generalize (rV (aO s)).n=n at CO⊢;have HA:Hid (∀o,Below w.heap.size w (w.alloc o)):=fun o=>(Below.refl _ w).alloc (zd _) o
 clear hT hP hD hM hv;go_enter func153,ntmps153;go_wp2_with fail;refine (CM.out _ (HA.out _)).mono ?_;rintro e w1 ⟨rfl,b1⟩;have HB1:Hid (Below (w.alloc (.cells #[I J 0,L ⟨#[]⟩,I J 0,I J 0,I J 0,I J 0,I J 0,I J 0,I J 0,I J 0,I J 0] 26)).heap.size (w.alloc (.cells #[I J 0,L ⟨#[]⟩,I J 0,I J 0,I J 0,I J 0,I J 0,I J 0,I J 0,I J 0,I J 0] 26)) w1):=b1;clear b1;go_wp2_with fail;refine (CO.out _).mono ?_;rintro e w2 ⟨rfl,b2⟩;have HB2:=HB1.out.trans (b2.mono HB1.out.size);clear b2 HB1;have hc:=fT w w2 _ _ _ 0 0 0 0 0 0 0 0 _ HB2;have HR:Hid (fA w2 w.heap.size (dU 0 ⟨#[]⟩ 0 0 0 0 0 0 0 0 0)):=MP hc;obtain ⟨c0,c1,c2,c3,c4,c5,c6,c7,c8,c9,c10⟩:=hc;have fz:=zQ w w2 _ _ HB2;have B2:Hid (Below w.heap.size w w2):=(HA.out _).trans (HB2.mono j2);clear HB2;go_wp2_with fail;refine bodyPost_ret (fV rfl _ _ w.heap.size _ k n t x0 x1 x2 x3 x4 x5 x6 x7 rfl rfl (eQ HR.out k n t x0 x1 x2 x3 x4 x5 x6 x7)) rfl ⟨rfl,fU B2.out (zd _) k n t x0 x1 x2 x3 x4 x5 x6 x7⟩




def Z8(a:ByteArray)(q:Bool)(r:ByteArray):List UInt8:=if q then toL a++63::toL r else toL a
def FC(x:Int):ByteArray:=⟨(jS x.toNat).toArray⟩
theorem FD(x:Int):(FC x).size<=5:=by
 show (jS x.toNat).toArray.size<=5;rw[za];unfold jS;split
 .simp
 split
 .simp
 split
 .simp
 split<;>simp
def jT(s:Int)(H:ByteArray)(p:Int):List UInt8:=iX s++47::47::(toL H++jH s p)
theorem yW(s:Int):(⟨(iX s).toArray⟩:ByteArray).size<=6:=by
 show (iX s).toArray.size<=6;rw[za];unfold iX;split<;>decide
def nN(C:Nat)(W W':World):Prop:=(∀B vs,B≠C->UAt W B vs->UAt W' B vs)/\ ∀m w0,m<=C->Below m w0 W->Below m w0 W'
theorem UAt.range{W:World}{B:Nat}{vs:List Value}(h:UAt W B vs)(off:Nat)(cs:List Value)(hs: ∀j v,cs[j]? =some v->vs[off+j]? =some v):W.rangeAt B off cs:=fun j v hv=>h.1 (off+j) v (hs j v hv)
theorem UAt.there{W:World}{B:Nat}{vs:List Value}(h:UAt W B vs)(off n:Nat)(hn:off+n<=vs.length):W.there B off n:=fun j hj=>by
 have e:=h.1 (off+j) _ (List.getElem?_eq_getElem (show off+j<vs.length by omega));exact ⟨by rw[e];rfl,h.2.1 _⟩
theorem bS{C:Nat}: ∀(cs:List Value) (off:Nat) (W:World),nN C W (W.setCells C off cs)
 |[],_,_=>⟨fun _ _ _ h=>h,fun _ _ _ h=>h⟩
 |v::cs,off,W=>by
  have h:=bS (C:=C) cs (off+1) (W.setCell ⟨C,off,none⟩ v);refine ⟨fun B vs hne hU=> ?_,fun m w0 hm hb=> ?_⟩
  .exact h.1 B vs hne (hU.other hne off v)
  exact h.2 m w0 hm (hb.setCell (p:=⟨C,off,none⟩) hm v)
theorem sF{C:Nat}: ∀(cs:List Value) (off:Nat) (W:World) (vs:List Value),off+cs.length<=vs.length->UAt W C vs->UAt (W.setCells C off cs) C (vs.take off++(cs++vs.drop (off+cs.length)))
 |[],off,W,vs,_,h=>by
  have e:vs.take off++([]++vs.drop (off+([]:List Value).length))=vs:=by simp
  rw[e];exact h
 |v::cs,off,W,vs,hl,h=>by
  have hl':off+1+cs.length<=vs.length:=by simp at hl;omega
  have h1:=sF (C:=C) cs (off+1) (W.setCell ⟨C,off,none⟩ v) (vs.set off v) (by rw[zf];exact hl') (h.set off om v);have e:(vs.set off v).take (off+1)++(cs++(vs.set off v).drop (off+1+cs.length))=vs.take off++(v::cs++vs.drop (off+(v::cs).length)):=by
   rw[List.take_succ_eq_append_getElem (by rw[zf];omega),List.getElem_set_self,List.take_set_of_le (zd _),List.drop_set_of_lt om,List.length_cons,show off+1+cs.length=off+(cs.length+1) by omega];simp
  rw[e]at h1;exact h1
theorem KF{P:Program}{ops:Array Oper}{rest:List Oper}{o:Oper}{a:Act}{W:World}{Q:Exit->Act->World->Prop}(hgd:o.guard=none)(ty:TypeId)(x:Operand)(ho:o.op=.load ty x)
  (B off:Nat) (hx:a.eval x=G (some ⟨B,off,none⟩)) (vs cs:List Value) (hU:UAt W B vs) (hs: ∀j v,cs[j]? =some v->vs[off+j]? =some v)
  (d:TypeDesc) (hu:P.underlying ty=some d) (hd:d.isRow=true) (hi:(P.info? ty).map (·.size)=some cs.length)
  (h:wpList P ops Q rest (a.put o.dst (F cs.toArray)) W):wpList P ops Q (o::rest) a W:=
 wpList_load_mid hgd ty x ho B off hx cs d (hU.range off cs hs) hu hd hi h
theorem KG{P:Program}{ops:Array Oper}{rest:List Oper}{o:Oper}{a:Act}{W:World}{Q:Exit->Act->World->Prop}(hgd:o.guard=none)(ty:TypeId)(x y:Operand)(ho:o.op=.store ty x y)
  (C off:Nat) (cells:Array Value) (hx:a.eval x=G (some ⟨C,off,none⟩)) (hy:a.eval y=F cells) (vs:List Value) (hU:UAt W C vs) (hl:off+cells.size<=vs.length)
  (hi:(P.info? ty).map (·.size)=some cells.size) (h1:cells.all (·.oneCell')=true)
  (h: ∀W',UAt W' C (vs.take off++(cells.toList++vs.drop (off+cells.size)))->nN C W W'->wpList P ops Q rest (a.put o.dst undef) W'):wpList P ops Q (o::rest) a W:=
 wpList_store_mid hgd ty x y ho C off cells hx hy (hU.there off _ hl) hi h1 (h _ (by
  have:=sF cells.toList off W vs (by simpa using hl) hU
  simpa using this) (bS _ _ _))
theorem aS(s k n p:Int)(nm a r:ByteArray)(q:Bool)(x0 x1 x2 x3 x4 x5 x6 x7:Int):(aC s k nm n x0 x1 x2 x3 x4 x5 x6 x7 p a q r).toArray.all (·.oneCell')=true:=by simp[aC,Value.oneCell']
theorem Tryz.infoUrl:(prog.info? 28).map (·.size)=some 16:=kr
theorem Tryz.infoHost:(prog.info? 26).map (·.size)=some 11:=kr
theorem Tryz.rowUrl: ∃d,prog.underlying 28=some d/\d.isRow=true:=⟨_,underlying28,rfl⟩
theorem Tryz.rowHost: ∃d,prog.underlying 26=some d/\d.isRow=true:=⟨_,underlying26,rfl⟩
theorem bU{ops:Array Oper}{rest:List Oper}{o:Oper}{a:Act}{W:World}{Q:Exit->Act->World->Prop}{B:Nat}{vs:List Value}(hU:UAt W B vs)(hl:vs.length=16)(hgd:o.guard=none)(x:Operand)(ho:o.op=.load 28 x)
  (hx:a.eval x=G (some ⟨B,0,none⟩)) (h:wpList prog ops Q rest (a.put o.dst (F vs.toArray)) W):wpList prog ops Q (o::rest) a W:=by
 obtain ⟨d,hd1,hd2⟩:=rowUrl;exact KF hgd _ x ho B 0 hx vs vs hU (fun j v hv=>by rw[zc];exact hv) d hd1 hd2 (by rw[hl];exact infoUrl) h
theorem dI{ops:Array Oper}{rest:List Oper}{o:Oper}{a:Act}{W:World}{Q:Exit->Act->World->Prop}{C:Nat}{vs us:List Value}(hU:UAt W C vs)(hl:vs.length=16)(hm:us.length=16)(h1:us.toArray.all (·.oneCell')=true)(hgd:o.guard=none)(x y:Operand)(ho:o.op=.store 28 x y)
  (hx:a.eval x=G (some ⟨C,0,none⟩)) (hy:a.eval y=F us.toArray) (h: ∀W',UAt W' C us->nN C W W'->wpList prog ops Q rest (a.put o.dst undef) W'):wpList prog ops Q (o::rest) a W:=
 KG hgd _ x y ho C 0 us.toArray hx hy vs hU (by rw[za,hl,hm];decide) (by rw[za,hm];exact infoUrl) h1 fun W' hU' hM=>h W' (by
  have e:vs.take 0++(us.toArray.toList++vs.drop (0+us.toArray.size))=us:=by rw[za,hm,List.drop_of_length_le om];simp
  rw[e]at hU';exact hU') hM
theorem YT{ops:Array Oper}{rest:List Oper}{o:Oper}{a:Act}{W:World}{Q:Exit->Act->World->Prop}{B:Nat}{vs:List Value}(hU:UAt W B vs)(off:Nat)(cs:List Value)(hs: ∀j v,cs[j]? =some v->vs[off+j]? =some v)(hl:cs.length=11)(hgd:o.guard=none)(x:Operand)(ho:o.op=.load 26 x)
  (hx:a.eval x=G (some ⟨B,off,none⟩)) (h:wpList prog ops Q rest (a.put o.dst (F cs.toArray)) W):wpList prog ops Q (o::rest) a W:=by
 obtain ⟨d,hd1,hd2⟩:=rowHost;exact KF hgd _ x ho B off hx vs cs hU hs d hd1 hd2 (by rw[hl];exact infoHost) h
theorem oM{ops:Array Oper}{rest:List Oper}{o:Oper}{a:Act}{W:World}{Q:Exit->Act->World->Prop}{C:Nat}{vs us:List Value}(hU:UAt W C vs)(off:Nat)(hl:off+11<=vs.length)(hm:us.length=11)(h1:us.toArray.all (·.oneCell')=true)(hgd:o.guard=none)(x y:Operand)(ho:o.op=.store 26 x y)
  (hx:a.eval x=G (some ⟨C,off,none⟩)) (hy:a.eval y=F us.toArray) (h: ∀W',UAt W' C (vs.take off++(us++vs.drop (off+11)))->nN C W W'->wpList prog ops Q rest (a.put o.dst undef) W'):wpList prog ops Q (o::rest) a W:=
 KG hgd _ x y ho C off us.toArray hx hy vs hU (by rw[za,hm];exact hl) (by rw[za,hm];exact infoHost) h1 fun W' hU' hM=>h W' (by
  rw[za,hm]at hU';exact hU') hM
theorem lH(k n:Int)(s:ByteArray)(x0 x1 x2 x3 x4 x5 x6 x7:Int):(dU k s n x0 x1 x2 x3 x4 x5 x6 x7).toArray.all (·.oneCell')=true:=by simp[dU,Value.oneCell']
theorem fM{fn:Func}{i:Tmp}(h:fn.results= #[.cell i 28])(tmps:Array Value)(W:World)(B:Nat)(vs:List Value)(hl:vs.length=16)
  (hp:tmps[i]?.getD undef=G (some ⟨B,0,none⟩)) (ha:UAt W B vs):(results fn tmps).run prog W=.ok (F vs.toArray) W:=by
 obtain ⟨d,hd1,hd2⟩:=rowUrl;have hr:=run_loadVar_mid (P:=prog) W B 0 28 vs d (ha.range 0 vs (fun j v hv=>by rw[zc];exact hv)) hd1 hd2 (by rw[hl];exact infoUrl);simp[results,h,hp,asAddr,hr]
theorem cB{fn:Func}{i j:Tmp}(h:fn.results= #[.cell i 28,.tmp j])(tmps:Array Value)(W:World)(B:Nat)(v:Value)(vs:List Value)(hl:vs.length=16)
  (hp:tmps[i]?.getD undef=G (some ⟨B,0,none⟩)) (hq:tmps[j]?.getD undef=v) (ha:UAt W B vs):(results fn tmps).run prog W=.ok (Y #[F vs.toArray,v]) W:=by
 obtain ⟨d,hd1,hd2⟩:=rowUrl;have hr:=run_loadVar_mid (P:=prog) W B 0 28 vs d (ha.range 0 vs (fun j v hv=>by rw[zc];exact hv)) hd1 hd2 (by rw[hl];exact infoUrl);simp[results,h,hp,hq,asAddr,hr]
