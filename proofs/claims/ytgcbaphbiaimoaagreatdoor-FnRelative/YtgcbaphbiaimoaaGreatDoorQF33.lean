/- ResBits, ResPlain, RelTell, UrlEq, UrlEqG, ResFault, OkWalk. -/
import Derived.Test.YtgcbaphbiaimoaaGreatDoorQF32
set_option maxHeartbeats 4000000
set_option maxRecDepth 100000
namespace Go.Proofs.YtgcbaphbiaimoaaGreatDoor
open Go.Value renaming int->I,string->L,bool->G,pointer->F,agg->E,iface->D
open Go.IntKind renaming i64->J
open Go.Obj renaming cells->Z
open _root_.Go.RowKit.Below renaming refl->zg
open _root_.List renaming map_eq_cons_iff->za,map_eq_nil_iff->zf,mem_singleton->zh,takeWhile_cons->zd
open _root_.Nat renaming le_refl->ze
open _root_.UInt8 renaming ofNat->zc
open _root_.Go.Proofs.Tryz
open _root_.Go.Proofs.YtgcbaphbiaimoaaGreatDoor.Tryz
section
open Go.RowKit
set_option linter.unusedVariables false
def oP(l:List UInt8):Bool:=decide (1<l.length)&&(slB (l.getD 0 0)&&slB (l.getD 1 0))
def lS(a path:ByteArray):ByteArray:=if slB (path.data.toList.headD 0)=true then path else upT a++path
theorem sl_ix: ∀n:Nat,n<256->((0<=Lib.indexByte [47,92] (zc n))↔slB (zc n)=true):=by decide+kernel
theorem Hv{t:ByteArray}(h: ¬1<t.size):oP t.data.toList=false:=by
 unfold oP;have e:t.data.toList.length=t.size:=by simp
 rw[decide_eq_false om];rfl
theorem Hw{t:ByteArray}(h:1<t.size):oP t.data.toList=(slB t[0]&&slB t[1]):=by
 unfold oP;have e:t.data.toList.length=t.size:=by simp
 rw[decide_eq_true om,sK t 0 om,sK t 1 h];rfl
def PA(w:World)(row:List Value)(W:World):Prop:=UAt W w.heap.size row/\UAt W (w.heap.size+1) aY/\Below w.heap.size w W
theorem PA.later{w:World}{row:List Value}{W W':World}(h:PA w row W)(hb:Below W.heap.size W W'):PA w row W':=⟨h.1.below hb,h.2.1.below hb,h.2.2.trans (hb.mono h.2.2.size)⟩
theorem PA.drew{w:World}{row:List Value}{W:World}(h:PA w row W):PA w row W.drew:=⟨h.1,h.2.1,h.2.2.drew⟩
theorem PA.set{w:World}{row:List Value}{W:World}(h:PA w row W)(j:Nat)(hj:j<row.length)(v:Value):PA w (row.set j v) (W.setCell ⟨w.heap.size,j,none⟩ v):=
 ⟨h.1.set j hj v,h.2.1.other om _ _,h.2.2.setCell (p:=⟨w.heap.size,j,none⟩) (ze _) v⟩
theorem PA.new(w:World)(s k n p:Int)(nm a r:ByteArray)(q:Bool)(x0 x1 x2 x3 x4 x5 x6 x7:Int):PA w (aC s k nm n x0 x1 x2 x3 x4 x5 x6 x7 p a q r) ((w.alloc (Z #[I J s,I J k,L nm,I J n,I J x0,I J x1,I J x2,I J x3,I J x4,I J x5,I J x6,I J x7,I J p,L a,G q,L r] 28)).alloc (Z #[I J 0,I J 0,L ⟨#[]⟩,I J 0,I J 0,I J 0,I J 0,I J 0,I J 0,I J 0,I J 0,I J 0,I J 0,L ⟨#[]⟩,G false,L ⟨#[]⟩] 28)):=by
 refine ⟨(UAt.new w _ _).below ((zg _ _).alloc (ze _) _),?_,((zg _ w).alloc (ze _) _).alloc j2 _⟩;have h:=UAt.new (w.alloc (Z #[I J s,I J k,L nm,I J n,I J x0,I J x1,I J x2,I J x3,I J x4,I J x5,I J x6,I J x7,I J p,L a,G q,L r] 28)) #[I J 0,I J 0,L ⟨#[]⟩,I J 0,I J 0,I J 0,I J 0,I J 0,I J 0,I J 0,I J 0,I J 0,I J 0,L ⟨#[]⟩,G false,L ⟨#[]⟩] 28;rw[World.size_alloc]at h;exact h
theorem sG(c:UInt8)(d:Nat)(hd:c.toNat=d)(w:World):Calls prog 174 #[.int .u8 (d:Int)] w fun e w'=>e=.returned (G (slB c))/\w=w':=by
 have hc:c=zc d:=by rw[<-hd];simp
 have hd2:d<256:=by rw[<-hd];exact c.toNat_lt
 have C3:Hid (∀W,CS 204 #[L ⟨#[47,92]⟩,.int .u8 (d:Int)] W (I J (Lib.indexByte [47,92] (zc d)))):=fun W=>by
  have h:=strings_IndexByte ⟨#[47,92]⟩ (d:Int) W;rw[show ((d:Int)).toNat.toUInt8=zc d by simp]at h;exact h.mono fun e w' h=>⟨h.1,h.2.symm⟩
 have HX:=sl_ix d hd2;generalize Lib.indexByte [47,92] (zc d)=z at C3 HX;have HZ:Hid (decide (0<=z)=slB c):=by
  show _=_;rw[hc]
  cases hb:slB (zc d)with
  |true=>rw[hb]at HX;simpa using HX
  |false=>rw[hb]at HX;simpa using HX
 clear HX hc hd;go_enter func174,ntmps174;go_wp2_with fail;refine (C3.out _).mono ?_;rintro e w' ⟨rfl,rfl⟩;go_wp2_with fail;go_ret;exact ⟨aG HZ.out,rfl⟩
theorem FP(t:ByteArray)(w:World)(hs:t.size<=1048576):Calls prog 122 #[L t] w fun e w'=>e=.returned (G (oP t.data.toList))/\w=w':=by
 by_cases h2:2<=(t.size:Int)
 .have HV:Hid (oP t.data.toList=(slB t[0]&&slB t[1])):=Hw om
  obtain ⟨d,hd⟩: ∃d:Nat,t[0].toNat=d:=⟨_,rfl⟩;obtain ⟨y,hy⟩: ∃y:Nat,t[1].toNat=y:=⟨_,rfl⟩;have hd1:(d:Int)<=255:=by have:=t[0].toNat_lt;omega
  have hy1:(y:Int)<=255:=by have:=t[1].toNat_lt;omega
  have C0:Hid (∀W,CS 174 #[.int .u8 (d:Int)] W (G (slB t[0]))):=fun W=>sG _ d hd W
  have C1:Hid (∀W,CS 174 #[.int .u8 (y:Int)] W (G (slB t[1]))):=fun W=>sG _ y hy W
  have h1:1<t.size:=om;generalize slB t[0]=b0 at HV C0;generalize slB t[1]=b1 at HV C1
  cases b0 with
  |false=>
   go_enter func122,ntmps122;go_wp2_with fail;refine (C0.out _).mono ?_;rintro e w' ⟨rfl,rfl⟩;go_wp2_with fail;go_ret;exact ⟨aG (by rw[HV.out];rfl),rfl⟩
  |true=>
   go_enter func122,ntmps122;go_wp2_with fail;refine (C0.out _).mono ?_;rintro e w' ⟨rfl,rfl⟩;go_wp2_with fail;refine (C1.out _).mono ?_;rintro e w' ⟨rfl,rfl⟩;go_wp2_with fail;go_ret;exact ⟨aG (by rw[HV.out];rfl),rfl⟩
 have HV:Hid (oP t.data.toList=false):=Hv om;go_enter func122,ntmps122;go_wp2_with fail;go_ret;exact ⟨aG (by rw[HV.out]),rfl⟩
theorem FQ(a t:ByteArray)(w:World)(h0:0<t.size)(ha:a.size<=4194304)(ht:t.size<=1048576):Calls prog 176 #[L a,L t] w fun e w'=>e=.returned (L (lS a t))/\Below w.heap.size w w':=by
 have hh:t.data.toList.headD 0=t[0]:=TA h0;obtain ⟨d,hd⟩: ∃d:Nat,t[0].toNat=d:=⟨_,rfl⟩;have C0:Hid (∀W,CS 174 #[.int .u8 (d:Int)] W (G (slB t[0]))):=fun W=>sG _ d hd W
 have CU:Hid (∀W,CB 221 #[L a] W (L (upT a))):=fun W=>F1 a W om
 have HV:Hid (lS a t=if slB t[0]=true then t else upT a++t):=by show _=_;unfold lS;rw[hh]
 have hus:(upT a).size<=4194304:=by
  unfold upT;rw[ByteArray.size_extract];omega
 have hd1:(d:Int)<=255:=by have:=t[0].toNat_lt;omega
 clear hh;generalize slB t[0]=b at C0 HV
 cases b with
 |true=>
  have HZ:Hid (t=lS a t):=by show _=_;rw[HV.out,if_pos rfl]
  go_enter func176,ntmps176;go_wp2_with fail;refine (C0.out _).mono ?_;rintro e w' ⟨rfl,rfl⟩;go_wp2_with fail;go_ret;exact ⟨cA HZ.out,zg _ _⟩
 |false=>
  have HZ:Hid (upT a++t=lS a t):=by show _=_;rw[HV.out,if_neg de]
  generalize upT a=U at CU hus HZ;go_enter func176,ntmps176;go_wp2_with fail;refine (C0.out _).mono ?_;rintro e w' ⟨rfl,rfl⟩;go_wp2_with fail;refine (CU.out _).mono ?_;rintro e w1 ⟨rfl,b1⟩;go_wp2_with fail;go_ret;exact ⟨cA HZ.out,b1⟩
theorem Bc(s k n p:Int)(nm a r:ByteArray)(q:Bool)(x0 x1 x2 x3 x4 x5 x6 x7:Int)(w:World)(hs:nm.size<=4194304)(ha:a.size<=4194304)(hr:r.size<=4194304):Calls prog 175 #[E #[I J s,I J k,L nm,I J n,I J x0,I J x1,I J x2,I J x3,I J x4,I J x5,I J x6,I J x7,I J p,L a,G q,L r]] w fun e w'=>e=.returned (E (aC s k nm n x0 x1 x2 x3 x4 x5 x6 x7 p a q r).toArray)/\Below w.heap.size w w':=by
 have hn:=PA.new w s k n p nm a r q x0 x1 x2 x3 x4 x5 x6 x7;obtain ⟨O,hO⟩: ∃O,O=(w.alloc (Z #[I J s,I J k,L nm,I J n,I J x0,I J x1,I J x2,I J x3,I J x4,I J x5,I J x6,I J x7,I J p,L a,G q,L r] 28)).alloc (Z #[I J 0,I J 0,L ⟨#[]⟩,I J 0,I J 0,I J 0,I J 0,I J 0,I J 0,I J 0,I J 0,I J 0,I J 0,L ⟨#[]⟩,G false,L ⟨#[]⟩] 28):=⟨_,rfl⟩;rw[<-hO]at hn;have H0:Hid (PA w (aC s k nm n x0 x1 x2 x3 x4 x5 x6 x7 p a q r) O):=hn;clear hn;go_enter func175,ntmps175
 go_upto_region 1 with fail
 rw[<-hO];clear hO;have CA:=H0.out.1.1 2 _ rfl;go_wp2_with fail;refine j6 (jB _ _ om) fun w1 b1=>?_
 have hn:=H0.out.later b1;have cb:=hn.1.1 2 _ rfl;have fb:=hn.1.2.1 2;have H1:Hid (PA w (aC s k nm n x0 x1 x2 x3 x4 x5 x6 x7 p a q r) (w1.setCell ⟨w.heap.size,2,none⟩ (L nm))):=hn.set 2 (by simp[aC]) _;clear b1 hn CA H0
 go_upto_region 2 with fail
 generalize (w1.setCell ⟨w.heap.size,2,none⟩ (L nm))=w2 at H1⊢;clear cb fb;have CA:=H1.out.1.1 13 _ rfl;go_wp2_with fail;refine j6 (jB _ _ om) fun w3 b2=>?_
 have hn:=H1.out.later b2;have cb:=hn.1.1 13 _ rfl;have fb:=hn.1.2.1 13;have H2:Hid (PA w (aC s k nm n x0 x1 x2 x3 x4 x5 x6 x7 p a q r) (w3.setCell ⟨w.heap.size,13,none⟩ (L a))):=hn.set 13 (by simp[aC]) _;clear b2 hn CA H1
 go_upto_region 3 with fail
 generalize (w3.setCell ⟨w.heap.size,13,none⟩ (L a))=w4 at H2⊢;clear cb fb;have CA:=H2.out.1.1 15 _ rfl;go_wp2_with fail;refine j6 (jB _ _ om) fun w5 b3=>?_
 have hn:=H2.out.later b3;have cb:=hn.1.1 15 _ rfl;have fb:=hn.1.2.1 15;have H3:Hid (PA w (aC s k nm n x0 x1 x2 x3 x4 x5 x6 x7 p a q r) (w5.setCell ⟨w.heap.size,15,none⟩ (L r))):=hn.set 15 (by simp[aC]) _;clear b3 hn CA H2
 go_upto_region 4 with fail
 generalize (w5.setCell ⟨w.heap.size,15,none⟩ (L r))=w6 at H3⊢;clear cb fb;go_wp2_with (first|(refine bU H3.out.1 rfl rfl _ rfl rfl ?_)|(refine dI H3.out.2.1 rfl (us:=aC s k nm n x0 x1 x2 x3 x4 x5 x6 x7 p a q r) rfl (aS ..) rfl _ _ rfl rfl rfl ?_;intro w9 HU9 HM9));refine bodyPost_ret (fM rfl _ _ (w.heap.size+1) _ rfl rfl HU9) rfl ⟨rfl,HM9.2 _ _ (Nat.le_succ _) H3.out.2.2⟩
def mH(b:UV):List UInt8->UV
 |[]=>b
 |c::r=>if c=63 then ⟨b.s,b.h,b.p,b.a,true,plB 2 ⟨r.toArray⟩⟩else oE b.s b.h b.p (if slB c=true then c::r else toL (upT b.a)++c::r)
theorem kF(b:UV)(c:UInt8)(r:List UInt8):mH b (c::r)=if c=63 then ⟨b.s,b.h,b.p,b.a,true,plB 2 ⟨r.toArray⟩⟩else oE b.s b.h b.p (if slB c=true then c::r else toL (upT b.a)++c::r):=rfl
def GR(u:UV):Int×UV:=if (uTx u).length<=2000 then (0,u)else (1,fJ)
def xP(b:UV)(t:List UInt8):Int×UV:=if pX t≠[]then cG t else if oP t=true then cG (iX b.s++t)else GR (mH b t)
def gB(b:UV)(l:List UInt8):Int×UV:=if uOk b=true then (if 2000<l.length then (1,fJ)else xP b (eC l))else (4,fJ)
theorem TB(p:ByteArray):toL (upT p)=(toL p).take (upN p p.size):=by
 unfold upT toL;rw[aZ,List.drop_zero]
theorem Bd{p:ByteArray}(h:bR p=true): ∃r,toL (upT p)=47::r:=by
 obtain ⟨r,e⟩:=iR h;have e':toL p=47::r:=e;have h0:0<p.size:=by
  have:p.data.toList.length=p.size:=by simp
  rw[e]at this;simp at this;omega
 have hp:=XS h p.size h0;rw[TB,e'];obtain ⟨k,hk⟩: ∃k,upN p p.size=k+1:=⟨upN p p.size-1,om⟩;rw[hk,List.take_succ_cons];exact ⟨_,rfl⟩
theorem Fd{p:ByteArray}{c:UInt8}(h:c∈toL (upT p)):c∈toL p:=by
 rw[TB]at h;exact List.mem_of_mem_take h
theorem Hx{c:UInt8}(h:slB c=true):dJ c=false:=by unfold dJ;rw[h];rfl
theorem Hy{b:UV}(h:uOk b=true)(t:List UInt8):uOk (mH b t)=true:=by
 obtain ⟨h1,h2,h3,h4,h5,h6,h7⟩:=eL h
 cases t with
 |nil=>exact h
 |cons c r=>
  rw[kF];split
  .exact NE (u:=⟨b.s,b.h,b.p,b.a,true,plB 2 ⟨r.toArray⟩⟩) h1 h2 h3 h4 (.inl rfl) (by show okL 2 (plL 2 _)=true;exact NU 2 de _) (by show plL 2 (plL 2 _)=plL 2 _;exact J7 2 de _)
  refine qZ h1 h2 h3 fun d e he=> ?_
  split at he
  .next hs=>
   injection he with he _;rw[<-he];exact Hx hs
  obtain ⟨x,hx⟩:=Bd h4.1;rw[hx]at he;injection he with he _;rw[<-he];rfl
theorem I5{u:UV}(h:uOk u=true):yY (GR u):=by
 unfold GR;split
 .next hl=>exact .inr ⟨rfl,h,by rw[<-pU h];exact hl⟩
 exact jP de
theorem I6(b:UV)(l:List UInt8):yY (gB b l):=by
 unfold gB;split
 .next hb=>
  split
  .exact jP de
  unfold xP;split
  .exact tC _
  split
  .exact tC _
  exact I5 (Hy hb _)
 exact jP de
theorem Bf(Y:List UInt8):pX (pL++Y)=[104,116,116,112]:=by
 have e:upB 58 (pL++Y)=[104,116,116,112]:=by unfold upB pL;rfl
 rw[SY (by unfold pL;simp) (by rw[e];decide),e]
 decide
theorem I7(Y:List UInt8):pX (kE++Y)=[104,116,116,112,115]:=by
 have e:upB 58 (kE++Y)=[104,116,116,112,115]:=by unfold upB kE;rfl
 rw[SY (by unfold kE;simp) (by rw[e];decide),e]
 decide
theorem Bg(s:Int)(Y:List UInt8):pX (iX s++Y)≠[]:=by
 unfold iX;split
 .rw[Bf];decide
 rw[I7];decide
theorem I8(r:List UInt8):pX (47::r)=[]:=by
 refine Fc ?_;unfold lJ upB;rw[zd,if_pos de];rfl
def kP(h:HV):Prop:=0<(hTx h).size/\rV (aO (hTx h))=h/\rC (aO (hTx h))=0
theorem Bh{u:UV}(h:uOk u=true)(h8:u.h.z.length=8):kP u.h:=by
 obtain ⟨k,n,nm,x0,x1,x2,x3,x4,x5,x6,x7,e⟩:=WG u.h h8;have h2:=(eL h).2.1;rw[e]at h2⊢;exact D9 h2
theorem Bj{b u:UV}(hb:uOk b=true)(hu:uOk u=true)(hf:kP u.h)(hl:(uTx u).length<=2000):gB b (uTx u)=(0,u):=by
 obtain ⟨_,_,e,_,_,htx⟩:=qY hu hf.1;have hr:=(FI hu hf.1 hf.2.1 hf.2.2 hl).1;unfold gB xP;rw[if_pos hb,if_neg om,FF htx,if_pos (by rw[e];exact Bg _ _),hr]
theorem Bl{b u:UV}(hb:uOk b=true)(hu:uOk u=true)(hfb:kP b.h)(hfu:kP u.h)(hl:(uTx u).length<=2000)(ho:fF b=fF u):b.s=u.s/\b.h=u.h/\b.p=u.p:=by
 obtain ⟨b1,b2,b3,_⟩:=eL hb;obtain ⟨_,_,_,u4,u5,u6,u7⟩:=eL hu;obtain ⟨v,hv⟩: ∃v:UV,v=⟨b.s,b.h,b.p,u.a,u.q,u.r⟩:=⟨_,rfl⟩;have hvo:uOk v=true:=by rw[hv];exact NE b1 b2 b3 u4 u5 u6 u7
 have e:uTx v=uTx u:=by
  rw[xI hvo,xI hu];have e1:fF v=fF u:=by rw[<-ho,hv];rfl
  have e2:dD v=dD u:=by rw[hv];rfl
  rw[e1,e2]
 have hfv:kP v.h:=by rw[hv];exact hfb
 have r1:=(FI hu hfu.1 hfu.2.1 hfu.2.2 hl).1;have r2:=(FI hvo hfv.1 hfv.2.1 hfv.2.2 (by rw[e];exact hl)).1;rw[e,r1]at r2;injection r2 with _ r3;rw[r3,hv];exact ⟨rfl,rfl,rfl⟩
theorem Bn{b u:UV}(hb:uOk b=true)(hu:uOk u=true)(hfb:kP b.h)(hfu:kP u.h)(hl:(uTx u).length<=2000)(ho:fF b=fF u)(h2:(dD u).getD 1 0≠47):gB b (dD u)=(0,u):=by
 obtain ⟨e1,e2,e3⟩:=Bl hb hu hfb hfu hl ho;obtain ⟨rest,hr,htx,_,_,hall⟩:=qY hu hfu.1;have hrl:(dD u).length<=2000:=by
  have:=pU hu
  omega
 have hin: ∀c∈dD u,txC c.toNat=true:=fun c hc=>hall c (by rw[xI hu];exact List.mem_append_right _ hc)
 have h92:(dD u).getD 1 0≠92:=by
  intro e;rw[hr]at e hin
  cases rest with
  |nil=>exact absurd e de
  |cons d rest=>
   have:d=92:=e
   exact (jO (hin d j2)).2.2.2 this
 have h2s:oP (dD u)=false:=by
  unfold oP
  have:slB ((dD u).getD 1 0)=false:=by
   unfold slB;rw[beq_eq_false_iff_ne.2 h2,beq_eq_false_iff_ne.2 h92];rfl
  rw[this,Bool.and_false,Bool.and_false]
 unfold gB xP;rw[if_pos hb,if_neg om,FF hin,if_neg (by rw[hr,I8];decide),if_neg (by rw[h2s];decide)];have e:mH b (dD u)=u:=by
  have hb2:=KI hu;rw[hr]at hb2⊢;rw[kF,if_neg de,if_pos de,e1,e2,e3,hb2]
 unfold GR;rw[e,if_pos hl]
def besI(b:UV)(t:List UInt8):UV:=if t=[]then b else
 ⟨b.s,b.h,b.p,if upB 63 t=[]then b.a else ptP (lS b.a ⟨(upB 63 t).toArray⟩),t.contains 63,plB 2 ⟨(cZ 63 t).toArray⟩⟩
theorem Hz{X:List UInt8}(h: ∀c∈X,c≠63)(t:List UInt8):upB 63 (X++t)=X++upB 63 t/\cZ 63 (X++t)=cZ 63 t/\(X++t).contains 63=t.contains 63:=by
 induction X with
 |nil=>exact ⟨rfl,rfl,rfl⟩
 |cons x X ih=>
  obtain ⟨i1,i2,i3⟩:=ih fun c hc=>h c (by simp[hc])
  have hx:(x !=63)=true:=bne_iff_ne.2 (h x j2);have e1:upB 63 (x::(X++t))=x::upB 63 (X++t):=by unfold upB;rw[zd,hx,if_pos rfl]
  have e2:cZ 63 (x::(X++t))=cZ 63 (X++t):=by unfold cZ;rw[List.dropWhile_cons,hx,if_pos rfl]
  rw[List.cons_append,e1,e2,i1,i2];refine ⟨rfl,rfl,?_⟩
  have:(x::(X++t)).contains 63=(X++t).contains 63:=by simp[Ne.symm (h x j2)]
  rw[this,i3]
theorem Fe{b:UV}(h:uOk b=true)(t:List UInt8):mH b t=besI b t:=by
 cases t with
 |nil=>rfl
 |cons c r=>
  unfold besI;rw[if_neg j2];rw[kF]
  by_cases hc:c=63
  .subst hc
   rw[if_pos rfl];have e1:upB 63 ((63:UInt8)::r)=[]:=rfl;have e2:cZ 63 ((63:UInt8)::r)=r:=rfl;rw[e1,e2,if_pos rfl];simp
  rw[if_neg hc];have hx:(c !=63)=true:=bne_iff_ne.2 hc;have e1:upB 63 (c::r)=c::upB 63 r:=by unfold upB;rw[zd,hx,if_pos rfl]
  rw[e1,if_neg (show ¬(c::upB 63 r=[]) by simp)];have hh:((⟨(c::upB 63 r).toArray⟩:ByteArray).data.toList.headD 0)=c:=rfl;unfold lS;rw[hh]
  by_cases hs:slB c=true
  .rw[if_pos hs,if_pos hs]
   have:=FO b.s b.h b.p ⟨(c::r).toArray⟩
   rw[show (⟨(c::r).toArray⟩:ByteArray).data.toList=c::r from rfl,e1]at this;exact this
  rw[if_neg hs,if_neg hs];have h63: ∀d∈toL (upT b.a),d≠63:=fun d hd e=>(BH (eL h).2.2.2.1.2.1 d (Fd hd)).2 (by rw[e];rfl)
  obtain ⟨i1,i2,i3⟩:=Hz h63 (c::r)
  have:=FO b.s b.h b.p ⟨(toL (upT b.a)++c::r).toArray⟩
  rw[show (⟨(toL (upT b.a)++c::r).toArray⟩:ByteArray).data.toList=toL (upT b.a)++c::r from rfl,i1,i2,i3,e1]at this;rw[this];have e3:(⟨(toL (upT b.a)++c::upB 63 r).toArray⟩:ByteArray)=upT b.a++⟨(c::upB 63 r).toArray⟩:=by
   apply bX;unfold toL;simp[ByteArray.data_append]
  rw[e3]
theorem ZE{s:Int}(h:cJ s≠0):(qU s).data.toList=iX s:=by rw[VG h]
end
section
open Go.RowKit
def bA(l:List UInt8):ByteArray:=⟨l.toArray⟩
theorem mJ(l:List UInt8):(bA l).size=l.length:=by
 show l.toArray.size=_;rw[List.size_toArray]
def KQ(b u:UV):List ByteArray:=if u.s=b.s then [bA (Lib.trimPrefix (uTx u) (iX u.s))]else []
def TC(b u:UV):List ByteArray:=if fF u=fF b/\Lib.hasPrefix (toL u.a) [47,47]=false then [bA (dD u)]else []
def lT(b u:UV):List ByteArray:=bA (uTx u)::(KQ b u++TC b u)
theorem KR{b u:UV}(hu:uOk u=true): ∀t∈lT b u,t.size<=(uTx u).length:=by
 intro t ht;unfold lT at ht
 rcases List.mem_cons.1 ht with h|h
 .rw[h,mJ]
  exact ze _
 rcases List.mem_append.1 h with h|h
 .unfold KQ at h
  split at h
  .rw[zh.1 h,mJ]
   unfold Lib.trimPrefix;split
   .rw[List.length_drop];omega
   exact ze _
  cases h
 unfold TC at h;split at h
 .rw[zh.1 h,mJ,pU hu];omega
 cases h
theorem TD(b u:UV):0<(lT b u).length/\(lT b u).length<=3:=by
 unfold lT KQ TC;constructor
 .simp
 split<;>split<;>simp
theorem Bo{b u:UV}(hb:uOk b=true)(hu:uOk u=true)(hfb:kP b.h)(hfu:kP u.h){ok:ByteArray->Bool}(hok: ∀t,ok t=true↔gB b t.data.toList=(0,u)):
  (zA ok (lT b u)).size<=(uTx u).length/\((uTx u).length<=2000->gB b (zA ok (lT b u)).data.toList=(0,u)/\(fF b=fF u->(dD u).getD 1 0≠47->(zA ok (lT b u)).size<=(dD u).length)):=by
 refine ⟨Ez _ _ _ (KR hu),fun hl=>⟨?_,fun ho h2=> ?_⟩⟩
 .have h1:ok (bA (uTx u))=true:=(hok _).2 (Bj hb hu hfu hl)
  exact (hok _).1 (I2 h1).1
 have hp:Lib.hasPrefix (toL u.a) [47,47]=false:=by
  cases hx:Lib.hasPrefix (toL u.a) [47,47]with
  |false=>rfl
  |true=>
   exfalso
   apply h2;obtain ⟨r,hr⟩:=List.isPrefixOf_iff_prefix.1 hx;unfold dD;rw[<-hr];split<;>rfl
 have e:lT b u=(bA (uTx u)::KQ b u)++[bA (dD u)]:=by
  unfold lT TC;rw[if_pos ⟨ho.symm,hp⟩];rfl
 have h3:ok (bA (dD u))=true:=(hok _).2 (Bn hb hu hfb hfu hl ho h2)
 have:=Au (ts:=bA (uTx u)::KQ b u) h3
 rw[e]
 rwa[mJ]at this
theorem WI:((prog.fieldsOf 28).toList.map fun f=>(f.type,f.offset,decide (f.name≠ "_")))=[(3,0,true),(26,1,true),(3,12,true),(9,13,true),(4,14,true),(9,15,true)]:=kr
theorem Bp(s k n p:Int)(nm a r:ByteArray)(q:Bool)(x0 x1 x2 x3 x4 x5 x6 x7:Int)(W:World):(part 3 #[I J s,I J k,L nm,I J n,I J x0,I J x1,I J x2,I J x3,I J x4,I J x5,I J x6,I J x7,I J p,L a,G q,L r] 0).run prog W=.ok (I J s) W:=kr
theorem Bq(s k n p:Int)(nm a r:ByteArray)(q:Bool)(x0 x1 x2 x3 x4 x5 x6 x7:Int)(W:World):(part 26 #[I J s,I J k,L nm,I J n,I J x0,I J x1,I J x2,I J x3,I J x4,I J x5,I J x6,I J x7,I J p,L a,G q,L r] 1).run prog W=.ok (E #[I J k,L nm,I J n,I J x0,I J x1,I J x2,I J x3,I J x4,I J x5,I J x6,I J x7]) W:=kr
theorem Br(s k n p:Int)(nm a r:ByteArray)(q:Bool)(x0 x1 x2 x3 x4 x5 x6 x7:Int)(W:World):(part 3 #[I J s,I J k,L nm,I J n,I J x0,I J x1,I J x2,I J x3,I J x4,I J x5,I J x6,I J x7,I J p,L a,G q,L r] 12).run prog W=.ok (I J p) W:=kr
theorem Bs(s k n p:Int)(nm a r:ByteArray)(q:Bool)(x0 x1 x2 x3 x4 x5 x6 x7:Int)(W:World):(part 9 #[I J s,I J k,L nm,I J n,I J x0,I J x1,I J x2,I J x3,I J x4,I J x5,I J x6,I J x7,I J p,L a,G q,L r] 13).run prog W=.ok (L a) W:=kr
theorem Bt(s k n p:Int)(nm a r:ByteArray)(q:Bool)(x0 x1 x2 x3 x4 x5 x6 x7:Int)(W:World):(part 4 #[I J s,I J k,L nm,I J n,I J x0,I J x1,I J x2,I J x3,I J x4,I J x5,I J x6,I J x7,I J p,L a,G q,L r] 14).run prog W=.ok (G q) W:=kr
theorem Bu(s k n p:Int)(nm a r:ByteArray)(q:Bool)(x0 x1 x2 x3 x4 x5 x6 x7:Int)(W:World):(part 9 #[I J s,I J k,L nm,I J n,I J x0,I J x1,I J x2,I J x3,I J x4,I J x5,I J x6,I J x7,I J p,L a,G q,L r] 15).run prog W=.ok (L r) W:=kr
theorem kQ{ops:Array Oper}{rest:List Oper}{o:Oper}{a:Act}{W:World}{Q:Exit->Act->World->Prop}{B:Nat}{vs:List Value}(hU:UAt W B vs)(hl:vs.length=16)(hw:Region.wanted o (yielded ops a.tmps)=true)(x:Operand)(ho:o.op=.load 28 x)
  (hx:a.eval x=F (some ⟨B,0,none⟩)) (h:wpList prog ops Q rest (a.put o.dst (E vs.toArray)) W):wpList prog ops Q (o::rest) a W:=by
 obtain ⟨d,hd1,hd2⟩:=rowUrl;refine wpList_step fun K hK=> ?_
 rw[if_pos hw];exact wp_load_mid _ x ho B 0 hx vs d (hU.range 0 vs (fun j v hv=>by rw[Nat.zero_add];exact hv)) hd1 hd2 (by rw[hl];exact infoUrl) (hK _ _ h)
theorem eqHG(d:Nat)(k:Int)(nm:ByteArray)(n:Int)(x0 x1 x2 x3 x4 x5 x6 x7:Int)(k':Int)(nm':ByteArray)(n':Int)(y0 y1 y2 y3 y4 y5 y6 y7:Int)(W:World):
  (Op.equalIn (d+3) 26 (E #[I J k,L nm,I J n,I J x0,I J x1,I J x2,I J x3,I J x4,I J x5,I J x6,I J x7]) (E #[I J k',L nm',I J n',I J y0,I J y1,I J y2,I J y3,I J y4,I J y5,I J y6,I J y7])).run prog W=.ok (mB k nm n [x0,x1,x2,x3,x4,x5,x6,x7] k' nm' n' [y0,y1,y2,y3,y4,y5,y6,y7]) W:=by
 rw[run_equalIn_struct W (d+2) 26 _ _ kr kr];have hf:=zU;generalize (prog.fieldsOf 26).toList=fs at hf;obtain ⟨f0,r0,rfl,e0,hf⟩:=za.1 hf;obtain ⟨f1,r1,rfl,e1,hf⟩:=za.1 hf;obtain ⟨f2,r2,rfl,e2,hf⟩:=za.1 hf;obtain ⟨f3,r3,rfl,e3,hf⟩:=za.1 hf
 obtain rfl:=zf.1 hf
 simp only[Prod.mk.injEq,decide_eq_true_eq]at e0 e1 e2 e3;obtain ⟨a0,a1,a2⟩:=e0;obtain ⟨b0,b1,b2⟩:=e1;obtain ⟨c0,c1,c2⟩:=e2;obtain ⟨d0,d1,d2⟩:=e3;rw[cQ (d+2) f0 _ _ _ (I J k) (I J k') (k==k') W a2 (by rw[a0,a1];exact YF ..) (by rw[a0,a1];exact YF ..) (by rw[a0];exact uQ (d+1) ..),
  cQ (d+2) f1 _ _ _ (L nm) (L nm') (nm.toList==nm'.toList) W b2 (by rw[b0,b1];exact YG ..) (by rw[b0,b1];exact YG ..) (by rw[b0];exact MR (d+1) ..),
  cQ (d+2) f2 _ _ _ (I J n) (I J n') (n==n') W c2 (by rw[c0,c1];exact YH ..) (by rw[c0,c1];exact YH ..) (by rw[c0];exact uQ (d+1) ..),
  cQ (d+2) f3 _ _ _ (E #[I J x0,I J x1,I J x2,I J x3,I J x4,I J x5,I J x6,I J x7]) (E #[I J y0,I J y1,I J y2,I J y3,I J y4,I J y5,I J y6,I J y7]) (eqB [x0,x1,x2,x3,x4,x5,x6,x7] [y0,y1,y2,y3,y4,y5,y6,y7]) W d2 (by rw[d0,d1];exact YI ..) (by rw[d0,d1];exact YI ..) (by rw[d0];exact eqA d ..)]
 unfold mB
 cases (k==k')<;>cases (nm.toList==nm'.toList)<;>cases (n==n')<;>cases (eqB [x0,x1,x2,x3,x4,x5,x6,x7] [y0,y1,y2,y3,y4,y5,y6,y7])<;>rfl
theorem Bv(d:Nat)(x y:Bool)(W:World):(Op.equalIn (d+1) 4 (G x) (G y)).run prog W=.ok (x==y) W:=by
 cases x<;>cases y<;>kernel_rfl
def WJ(s:Int)(H:Bool)(p:Int)(a:ByteArray)(q:Bool)(r:ByteArray)(s' p':Int)(a':ByteArray)(q':Bool)(r':ByteArray):Bool:=(s==s')&&(H&&((p==p')&&((a.toList==a'.toList)&&((q==q')&&(r.toList==r'.toList)))))
theorem eqUG(s k n p:Int)(nm a r:ByteArray)(q:Bool)(x0 x1 x2 x3 x4 x5 x6 x7:Int)(s' k' n' p':Int)(nm' a' r':ByteArray)(q':Bool)(y0 y1 y2 y3 y4 y5 y6 y7:Int)(W:World):
  (Op.equalIn 10000 28 (E #[I J s,I J k,L nm,I J n,I J x0,I J x1,I J x2,I J x3,I J x4,I J x5,I J x6,I J x7,I J p,L a,G q,L r]) (E #[I J s',I J k',L nm',I J n',I J y0,I J y1,I J y2,I J y3,I J y4,I J y5,I J y6,I J y7,I J p',L a',G q',L r'])).run prog W=.ok (WJ s (mB k nm n [x0,x1,x2,x3,x4,x5,x6,x7] k' nm' n' [y0,y1,y2,y3,y4,y5,y6,y7]) p a q r s' p' a' q' r') W:=by
 rw[show (10000:Nat)=9999+1 from rfl,run_equalIn_struct W 9999 28 _ _ kr kr];have hf:=WI;generalize (prog.fieldsOf 28).toList=fs at hf;obtain ⟨f0,r0,rfl,e0,hf⟩:=za.1 hf;obtain ⟨f1,r1,rfl,e1,hf⟩:=za.1 hf;obtain ⟨f2,r2,rfl,e2,hf⟩:=za.1 hf;obtain ⟨f3,r3,rfl,e3,hf⟩:=za.1 hf;obtain ⟨f4,r4,rfl,e4,hf⟩:=za.1 hf;obtain ⟨f5,r5,rfl,e5,hf⟩:=za.1 hf
 obtain rfl:=zf.1 hf
 simp only[Prod.mk.injEq,decide_eq_true_eq]at e0 e1 e2 e3 e4 e5;obtain ⟨a0,a1,a2⟩:=e0;obtain ⟨b0,b1,b2⟩:=e1;obtain ⟨c0,c1,c2⟩:=e2;obtain ⟨d0,d1,d2⟩:=e3;obtain ⟨g0,g1,g2⟩:=e4;obtain ⟨h0,h1,h2⟩:=e5;rw[cQ (9999) f0 _ _ _ (I J s) (I J s') (s==s') W a2 (by rw[a0,a1];exact Bp ..) (by rw[a0,a1];exact Bp ..) (by rw[a0];exact uQ 9998 ..),
  cQ (9999) f1 _ _ _ (E #[I J k,L nm,I J n,I J x0,I J x1,I J x2,I J x3,I J x4,I J x5,I J x6,I J x7]) (E #[I J k',L nm',I J n',I J y0,I J y1,I J y2,I J y3,I J y4,I J y5,I J y6,I J y7]) (mB k nm n [x0,x1,x2,x3,x4,x5,x6,x7] k' nm' n' [y0,y1,y2,y3,y4,y5,y6,y7]) W b2 (by rw[b0,b1];exact Bq ..) (by rw[b0,b1];exact Bq ..) (by rw[b0];exact eqHG 9996 ..),
  cQ (9999) f2 _ _ _ (I J p) (I J p') (p==p') W c2 (by rw[c0,c1];exact Br ..) (by rw[c0,c1];exact Br ..) (by rw[c0];exact uQ 9998 ..),
  cQ (9999) f3 _ _ _ (L a) (L a') (a.toList==a'.toList) W d2 (by rw[d0,d1];exact Bs ..) (by rw[d0,d1];exact Bs ..) (by rw[d0];exact MR 9998 ..),
  cQ (9999) f4 _ _ _ (G q) (G q') (q==q') W g2 (by rw[g0,g1];exact Bt ..) (by rw[g0,g1];exact Bt ..) (by rw[g0];exact Bv 9998 ..),
  cQ (9999) f5 _ _ _ (L r) (L r') (r.toList==r'.toList) W h2 (by rw[h0,h1];exact Bu ..) (by rw[h0,h1];exact Bu ..) (by rw[h0];exact MR 9998 ..)]
 unfold WJ
 cases (s==s')<;>cases (mB k nm n [x0,x1,x2,x3,x4,x5,x6,x7] k' nm' n' [y0,y1,y2,y3,y4,y5,y6,y7])<;>cases (p==p')<;>cases (a.toList==a'.toList)<;>cases (q==q')<;>cases (r.toList==r'.toList)<;>rfl
theorem ZF(s k n p:Int)(nm a r:ByteArray)(q:Bool)(x0 x1 x2 x3 x4 x5 x6 x7:Int)(s' k' n' p':Int)(nm' a' r':ByteArray)(q':Bool)(y0 y1 y2 y3 y4 y5 y6 y7:Int):
  WJ s (mB k nm n [x0,x1,x2,x3,x4,x5,x6,x7] k' nm' n' [y0,y1,y2,y3,y4,y5,y6,y7]) p a q r s' p' a' q' r'=true↔(⟨s,⟨k,nm,n,[x0,x1,x2,x3,x4,x5,x6,x7]⟩,p,a,q,r⟩:UV)=⟨s',⟨k',nm',n',[y0,y1,y2,y3,y4,y5,y6,y7]⟩,p',a',q',r'⟩:=by
 unfold WJ mB eqB;rw[pO,pO,pO];generalize ([x0,x1,x2,x3,x4,x5,x6,x7]:List Int)=z;generalize ([y0,y1,y2,y3,y4,y5,y6,y7]:List Int)=z';simp only[Bool.and_eq_true,beq_iff_eq,decide_eq_true_eq,UV.mk.injEq,HV.mk.injEq,and_assoc]
end
section
open Go.RowKit
set_option linter.unusedVariables false
def errI(ad:Nat->Addr)(c:Int):Value:=if c=0 then .nilIface else D 261 (F (some (ad c.toNat)))
def vA(ad:Nat->Addr)(S:ByteArray)(c:Int):Value:=if c=0 then .nilIface else D 138 (E #[L S,D 261 (F (some (ad c.toNat)))])
theorem Ff{ad:Nat->Addr}{c:Int}(h:c≠0):errI ad c=D 261 (F (some (ad c.toNat))):=if_neg h
theorem tD{ad:Nat->Addr}{S:ByteArray}{c:Int}(h:c≠0):vA ad S c=D 138 (E #[L S,D 261 (F (some (ad c.toNat)))]):=if_neg h
theorem gW.c1{ad:Nat->Addr}{w:World}(h:gW ad w):w.cell? ⟨2,0,none⟩=some (D 261 (F (some (ad 1)))):=(h 1 de de).1
theorem gW.c2{ad:Nat->Addr}{w:World}(h:gW ad w):w.cell? ⟨3,0,none⟩=some (D 261 (F (some (ad 2)))):=(h 2 de de).1
theorem gW.c3{ad:Nat->Addr}{w:World}(h:gW ad w):w.cell? ⟨4,0,none⟩=some (D 261 (F (some (ad 3)))):=(h 3 de de).1
theorem gW.c4{ad:Nat->Addr}{w:World}(h:gW ad w):w.cell? ⟨1,0,none⟩=some (D 261 (F (some (ad 4)))):=(h 4 de de).1
theorem gW.c5{ad:Nat->Addr}{w:World}(h:gW ad w):w.cell? ⟨5,0,none⟩=some (D 261 (F (some (ad 5)))):=(h 5 de de).1
theorem TE(ad:Nat->Addr)(c:Int)(w:World)(hS:gW ad w)(h0:0<=c)(h5:c<=5):Calls prog 173 #[I J c] w fun e w'=>e=.returned (errI ad c)/\w=w':=by
 have k1:=hS.c1;have k2:=hS.c2;have k3:=hS.c3;have k4:=hS.c4;have k5:=hS.c5;clear hS;have hc:c=0∨c=1∨c=2∨c=3∨c=4∨c=5:=om
 rcases hc with rfl|rfl|rfl|rfl|rfl|rfl
 .go_enter func173,ntmps173
  go_wp2;go_ret;exact ⟨rfl,rfl⟩
 .go_enter func173,ntmps173
  go_wp2;go_ret;exact ⟨rfl,rfl⟩
 .go_enter func173,ntmps173
  go_wp2;go_ret;exact ⟨rfl,rfl⟩
 .go_enter func173,ntmps173
  go_wp2;go_ret;exact ⟨rfl,rfl⟩
 .go_enter func173,ntmps173
  go_wp2;go_ret;exact ⟨rfl,rfl⟩
 go_enter func173,ntmps173;go_wp2;go_ret;exact ⟨rfl,rfl⟩
theorem TF(ad:Nat->Addr)(S:ByteArray)(c:Int)(w:World)(hS:gW ad w)(h0:0<=c)(h5:c<=5):Calls prog 64 #[vA ad S c] w fun e w'=>e=.returned (I J c)/\Below w.heap.size w w':=by
 have H0:Hid (gW ad w):=hS;have L0:Below w.heap.size w w:=zg _ _;clear hS;have hc:c=0∨c=1∨c=2∨c=3∨c=4∨c=5:=om
 rcases hc with rfl|rfl|rfl|rfl|rfl|rfl
 .have k1:=H0.out.c1
  have k2:=H0.out.c2;have k3:=H0.out.c3;have k4:=H0.out.c4;have k5:=H0.out.c5;show Calls prog 64 #[.nilIface] w _;go_enter func64,ntmps64;go_wp2_with (go_at_call 124;refine j5 (Eu _ _) ?_);go_ret;exact ⟨rfl,L0⟩
 .rw[tD de]
  go_enter func64,ntmps64;have k1:=H0.out.c1;go_wp2_with fail;refine j6 (iK H0.out S (c:=1) (d:=1) de de de de) fun w1 b1=>?_
  have H1:Hid (gW ad w1):=H0.out.later b1;have L1:Below w.heap.size w w1:=L0.trans (b1.mono L0.size);clear b1 k1 H0 L0;go_wp2;go_ret;exact ⟨rfl,L1⟩
 .rw[tD de]
  go_enter func64,ntmps64;have k1:=H0.out.c1;go_wp2_with fail;refine j6 (iK H0.out S (c:=2) (d:=1) de de de de) fun w1 b1=>?_
  have H1:Hid (gW ad w1):=H0.out.later b1;have L1:Below w.heap.size w w1:=L0.trans (b1.mono L0.size);clear b1 k1 H0 L0;have k2:=H1.out.c2;go_wp2_with fail;refine j6 (iK H1.out S (c:=2) (d:=2) de de de de) fun w2 b2=>?_
  have H2:Hid (gW ad w2):=H1.out.later b2;have L2:Below w.heap.size w w2:=L1.trans (b2.mono L1.size);clear b2 k2 H1 L1;go_wp2;go_ret;exact ⟨rfl,L2⟩
 .rw[tD de]
  go_enter func64,ntmps64;have k1:=H0.out.c1;go_wp2_with fail;refine j6 (iK H0.out S (c:=3) (d:=1) de de de de) fun w1 b1=>?_
  have H1:Hid (gW ad w1):=H0.out.later b1;have L1:Below w.heap.size w w1:=L0.trans (b1.mono L0.size);clear b1 k1 H0 L0;have k2:=H1.out.c2;go_wp2_with fail;refine j6 (iK H1.out S (c:=3) (d:=2) de de de de) fun w2 b2=>?_
  have H2:Hid (gW ad w2):=H1.out.later b2;have L2:Below w.heap.size w w2:=L1.trans (b2.mono L1.size);clear b2 k2 H1 L1;have k3:=H2.out.c3;go_wp2_with fail;refine j6 (iK H2.out S (c:=3) (d:=3) de de de de) fun w3 b3=>?_
  have H3:Hid (gW ad w3):=H2.out.later b3;have L3:Below w.heap.size w w3:=L2.trans (b3.mono L2.size);clear b3 k3 H2 L2;go_wp2;go_ret;exact ⟨rfl,L3⟩
 .rw[tD de]
  go_enter func64,ntmps64;have k1:=H0.out.c1;go_wp2_with fail;refine j6 (iK H0.out S (c:=4) (d:=1) de de de de) fun w1 b1=>?_
  have H1:Hid (gW ad w1):=H0.out.later b1;have L1:Below w.heap.size w w1:=L0.trans (b1.mono L0.size);clear b1 k1 H0 L0;have k2:=H1.out.c2;go_wp2_with fail;refine j6 (iK H1.out S (c:=4) (d:=2) de de de de) fun w2 b2=>?_
  have H2:Hid (gW ad w2):=H1.out.later b2;have L2:Below w.heap.size w w2:=L1.trans (b2.mono L1.size);clear b2 k2 H1 L1;have k3:=H2.out.c3;go_wp2_with fail;refine j6 (iK H2.out S (c:=4) (d:=3) de de de de) fun w3 b3=>?_
  have H3:Hid (gW ad w3):=H2.out.later b3;have L3:Below w.heap.size w w3:=L2.trans (b3.mono L2.size);clear b3 k3 H2 L2;have k4:=H3.out.c4;go_wp2_with fail;refine j6 (iK H3.out S (c:=4) (d:=4) de de de de) fun w4 b4=>?_
  have H4:Hid (gW ad w4):=H3.out.later b4;have L4:Below w.heap.size w w4:=L3.trans (b4.mono L3.size);clear b4 k4 H3 L3;go_wp2;go_ret;exact ⟨rfl,L4⟩
 rw[tD de];go_enter func64,ntmps64;have k1:=H0.out.c1;go_wp2_with fail;refine j6 (iK H0.out S (c:=5) (d:=1) de de de de) fun w1 b1=>?_
 have H1:Hid (gW ad w1):=H0.out.later b1;have L1:Below w.heap.size w w1:=L0.trans (b1.mono L0.size);clear b1 k1 H0 L0;have k2:=H1.out.c2;go_wp2_with fail;refine j6 (iK H1.out S (c:=5) (d:=2) de de de de) fun w2 b2=>?_
 have H2:Hid (gW ad w2):=H1.out.later b2;have L2:Below w.heap.size w w2:=L1.trans (b2.mono L1.size);clear b2 k2 H1 L1;have k3:=H2.out.c3;go_wp2_with fail;refine j6 (iK H2.out S (c:=5) (d:=3) de de de de) fun w3 b3=>?_
 have H3:Hid (gW ad w3):=H2.out.later b3;have L3:Below w.heap.size w w3:=L2.trans (b3.mono L2.size);clear b3 k3 H2 L2;have k4:=H3.out.c4;go_wp2_with fail;refine j6 (iK H3.out S (c:=5) (d:=4) de de de de) fun w4 b4=>?_
 have H4:Hid (gW ad w4):=H3.out.later b4;have L4:Below w.heap.size w w4:=L3.trans (b4.mono L3.size);clear b4 k4 H3 L3;have k5:=H4.out.c5;go_wp2_with fail;refine j6 (iK H4.out S (c:=5) (d:=5) de de de de) fun w5 b5=>?_
 have H5:Hid (gW ad w5):=H4.out.later b5;have L5:Below w.heap.size w w5:=L4.trans (b5.mono L4.size);clear b5 k5 H4 L4;go_wp2;go_ret;exact ⟨rfl,L5⟩
end
section
open Go.RowKit
