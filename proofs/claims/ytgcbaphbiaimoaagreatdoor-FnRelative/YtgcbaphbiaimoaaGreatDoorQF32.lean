/- HostSpec4, UrlParse, UrlImpl4, SchWalk. -/
import Derived.Test.YtgcbaphbiaimoaaGreatDoorQF31
set_option maxHeartbeats 8000000
set_option maxRecDepth 100000
namespace Go.Proofs.YtgcbaphbiaimoaaGreatDoor
open Go.Value renaming int->I,string->L,tuple->F,bool->E,agg->D,iface->Q
open Go.IntKind renaming i64->J
open Go.Ending renaming returned->Y
open Go.Obj renaming cells->G
open _root_.Go.Act renaming put->ze
open _root_.Go.AllReadyH renaming cons->za,nil->zd
open _root_.Go.RowKit.Below renaming refl->zl
open _root_.Bool renaming and_eq_true->zj
open _root_.Go.ByteArray renaming toList_eq->zq
open _root_.List renaming dropWhile_cons->zp,dropWhile_suffix->zn,getD_cons_succ->zg,getD_cons_zero->zf,length_append->zi,length_drop->zk,size_toArray->zr
open _root_.Nat renaming le_refl->zc,le_trans->zh
open _root_.UInt8 renaming ofNat->zo
open _root_.Go.World renaming frozen?_setCell->zm
open _root_.Go.Proofs.Tryz
open _root_.Go.Proofs.YtgcbaphbiaimoaaGreatDoor.Tryz
section
open Go.RowKit
theorem oO{W:World}{B:Nat}(h:fA W B (dU 0 ⟨#[]⟩ 0 0 0 0 0 0 0 0 0)):pW W B:=⟨h 0 _ rfl,h 1 _ rfl,h 2 _ rfl,h 3 _ rfl,h 4 _ rfl,h 5 _ rfl,h 6 _ rfl,h 7 _ rfl,h 8 _ rfl,h 9 _ rfl,h 10 _ rfl⟩
theorem FN(s:ByteArray)(w:World)(hs:s.size<=1048576)(hp:0<s.size)(h9:s[0].toNat=91):Calls prog 58 #[L s] w fun e w'=>e=Y (F #[fB (rV (aO s)),I J (rC (aO s))])/\Below w.heap.size w w':=by
 rw[IZ hp h9];have hem:=aX hp;have hi:((s.size:Int)-1)=((s.size-1:Nat):Int):=om;obtain ⟨c,hc⟩: ∃c:Nat,(s[s.size-1]'om).toNat=c:=⟨_,rfl⟩
 by_cases hcl:c=93
 .have h1:1<s.size:=by
   rcases Nat.lt_or_ge 1 s.size with h|h
   .exact h
   exfalso
   have e:s.size=1:=om
   have:(s[s.size-1]'om).toNat=s[0].toNat:=by congr 2;omega
   omega
  have HZ1:Hid (gI (s.extract 1 s.size).data.toList=IX (dQ (s.extract 1 (s.size-1)).data.toList)):=by
   show _=_;rw[KE (by rw[Aw h1];congr 1;exact lN (hc.trans hcl)),Ht h1]
  have hts:(s.extract 1 (s.size-1)).size<=1048576:=by rw[ByteArray.size_extract];omega
  obtain ⟨O,hO⟩: ∃O,O=(w.alloc (G #[I J 0,L ⟨#[]⟩,I J 0,I J 0,I J 0,I J 0,I J 0,I J 0,I J 0,I J 0,I J 0] 26)).alloc (G #[I J 0,L ⟨#[]⟩,I J 0,I J 0,I J 0,I J 0,I J 0,I J 0,I J 0,I J 0,I J 0] 26):=⟨_,rfl⟩;have HL:Hid (∀W,Below O.heap.size O W->Av w W):=fun W h=>by rw[hO]at h;exact Gc w W _ h
  have HE:Hid (∀W,Below O.heap.size O W->Below w.heap.size w W):=fun W h=>by
   rw[hO]at h;exact (((zl _ w).alloc (zc _) _).alloc j2 _).trans (h.mono (by simp;omega))
  obtain ⟨P,hP⟩: ∃P,P=O.alloc (G #[I J 0,I J 0,I J 0,I J 0,I J 0,I J 0,I J 0,I J 0] 24):=⟨_,rfl⟩;have HPO:Hid (∀W,Below P.heap.size P W->Below O.heap.size O W):=fun W h=>by
   rw[hP]at h;exact ((zl _ O).alloc (zc _) _).trans (h.mono j2)
  have HPZ:Hid (∀W,Below P.heap.size P W->dW W (w.heap.size+1+1) [0,0,0,0,0,0,0,0]):=fun W h=>by
   rw[hP]at h;have h2:=(sW O).later h
   rwa[show O.heap.size=w.heap.size+1+1 by rw[hO];simp]at h2
  have CP:Hid (Calls prog 114 #[L (s.extract 1 (s.size-1))] P fun e w'=>e=Y (jG (dQ (s.extract 1 (s.size-1)).data.toList))/\Hid (Below P.heap.size P w')):=LY _ P hts;have H8:Hid (∀gs,dQ (s.extract 1 (s.size-1)).data.toList=some gs->gs.length=8):=qP _;rw[HZ1.out];subst hcl;have h1i:1<=(s.size:Int)-1:=om;have h2i:(s.size:Int)-1<=(s.size:Int):=om;generalize dQ (s.extract 1 (s.size-1)).data.toList=R at CP H8;clear HZ1 hts
  cases R with
  |none=>
   show Calls _ _ _ _ fun e w'=>e=Y (F #[D #[I J 0,L ⟨#[]⟩,I J 0,I J 0,I J 0,I J 0,I J 0,I J 0,I J 0,I J 0,I J 0],I J 2])/\Below w.heap.size w w'
   go_enter func58,ntmps58;go_wp2_with fail;rw[<-hO,<-hP];refine CP.out.mono ?_;rintro e w1 ⟨rfl,b1⟩;rw[show jG none=F #[D #[I J 0,I J 0,I J 0,I J 0,I J 0,I J 0,I J 0,I J 0],E false] from rfl];have AR:=HPZ.out _ b1.out;obtain ⟨w9,h9⟩: ∃w9,w9=((((((((w1.setCell ⟨w.heap.size+1+1,0,none⟩ (I J 0)).setCell ⟨w.heap.size+1+1,1,none⟩ (I J 0)).setCell ⟨w.heap.size+1+1,2,none⟩ (I J 0)).setCell ⟨w.heap.size+1+1,3,none⟩ (I J 0)).setCell ⟨w.heap.size+1+1,4,none⟩ (I J 0)).setCell ⟨w.heap.size+1+1,5,none⟩ (I J 0)).setCell ⟨w.heap.size+1+1,6,none⟩ (I J 0)).setCell ⟨w.heap.size+1+1,7,none⟩ (I J 0)):=⟨_,rfl⟩;have H9:Hid (w9=_):=h9;have hl3:=HL.out w1 (HPO.out _ b1.out);have HR:Hid (fA w9 w.heap.size (dU 0 ⟨#[]⟩ 0 0 0 0 0 0 0 0 0)):=by rw[h9];exact BK (dM hl3.1) om 0 0 0 0 0 0 0 0
   have HR1:fA w9 (w.heap.size+1) (dU 0 ⟨#[]⟩ 0 0 0 0 0 0 0 0 0):=by rw[h9];exact BK (dM hl3.2.1) om 0 0 0 0 0 0 0 0
   have BW:Hid (Below w.heap.size w w9):=by rw[h9];exact bV (HE.out _ (HPO.out _ b1.out)) om 0 0 0 0 0 0 0 0
   have AR9:Hid (dW w9 (w.heap.size+1+1) [0,0,0,0,0,0,0,0]):=by rw[h9];exact cR AR 0 0 0 0 0 0 0 0
   have fz: ∀j,w9.frozen? ⟨w.heap.size,j,none⟩=false:=fun j=>by rw[h9];simp only[zm];exact hl3.2.2 j
   obtain ⟨c0,c1,c2,c3,c4,c5,c6,c7,c8,c9,c10⟩:=oO HR.out;obtain ⟨d0,d1,d2,d3,d4,d5,d6,d7,d8,d9,d10⟩:=oO HR1;clear hl3 h9 HR1;have a0:=(AR.2 0 de).1;have a1:=(AR.2 1 de).1;have a2:=(AR.2 2 de).1;have a3:=(AR.2 3 de).1;have a4:=(AR.2 4 de).1;have a5:=(AR.2 5 de).1;have a6:=(AR.2 6 de).1;have a7:=(AR.2 7 de).1;have g0:=(AR.2 0 de).2;have g1:=(AR.2 1 de).2;have g2:=(AR.2 2 de).2;have g3:=(AR.2 3 de).2;have g4:=(AR.2 4 de).2;have g5:=(AR.2 5 de).2;have g6:=(AR.2 6 de).2;have g7:=(AR.2 7 de).2;simp only[zf,zg]at a0 a1 a2 a3 a4 a5 a6 a7;clear AR;go_wp2_with (rw[<-H9.out]);refine bodyPost_ret (fV rfl _ _ w.heap.size _ 0 0 ⟨#[]⟩ 0 0 0 0 0 0 0 0 rfl rfl (eQ HR.out 0 0 ⟨#[]⟩ 0 0 0 0 0 0 0 0)) rfl ⟨rfl,fU BW.out (zc _) 0 0 ⟨#[]⟩ 0 0 0 0 0 0 0 0⟩
  |some gs=>
   obtain ⟨x0,x1,x2,x3,x4,x5,x6,x7,hv,_,hx⟩:=YS (H8.out gs rfl);rw[hv]at CP;have HV:Hid (fB (rV (IX (some gs)))=D #[I J 3,L ⟨#[]⟩,I J 0,I J x0,I J x1,I J x2,I J x3,I J x4,I J x5,I J x6,I J x7]):=by
    show fB ⟨3,⟨#[]⟩,0,gs.map fun (x:Nat)=>(x:Int)⟩=_;rw[hx];rfl
   rw[HV.out,show rC (IX (some gs))=0 from rfl];clear hv hx H8 HV;go_enter func58,ntmps58;go_wp2_with fail;rw[<-hO,<-hP];refine CP.out.mono ?_;rintro e w1 ⟨rfl,b1⟩;have AR:=HPZ.out _ b1.out;obtain ⟨w9,h9⟩: ∃w9,w9=((((((((w1.setCell ⟨w.heap.size+1+1,0,none⟩ (I J x0)).setCell ⟨w.heap.size+1+1,1,none⟩ (I J x1)).setCell ⟨w.heap.size+1+1,2,none⟩ (I J x2)).setCell ⟨w.heap.size+1+1,3,none⟩ (I J x3)).setCell ⟨w.heap.size+1+1,4,none⟩ (I J x4)).setCell ⟨w.heap.size+1+1,5,none⟩ (I J x5)).setCell ⟨w.heap.size+1+1,6,none⟩ (I J x6)).setCell ⟨w.heap.size+1+1,7,none⟩ (I J x7)):=⟨_,rfl⟩;have H9:Hid (w9=_):=h9;have hl3:=HL.out w1 (HPO.out _ b1.out);have HR:Hid (fA w9 w.heap.size (dU 0 ⟨#[]⟩ 0 0 0 0 0 0 0 0 0)):=by rw[h9];exact BK (dM hl3.1) om x0 x1 x2 x3 x4 x5 x6 x7
   have HR1:fA w9 (w.heap.size+1) (dU 0 ⟨#[]⟩ 0 0 0 0 0 0 0 0 0):=by rw[h9];exact BK (dM hl3.2.1) om x0 x1 x2 x3 x4 x5 x6 x7
   have BW:Hid (Below w.heap.size w w9):=by rw[h9];exact bV (HE.out _ (HPO.out _ b1.out)) om x0 x1 x2 x3 x4 x5 x6 x7
   have AR9:Hid (dW w9 (w.heap.size+1+1) [x0,x1,x2,x3,x4,x5,x6,x7]):=by rw[h9];exact cR AR x0 x1 x2 x3 x4 x5 x6 x7
   have fz: ∀j,w9.frozen? ⟨w.heap.size,j,none⟩=false:=fun j=>by rw[h9];simp only[zm];exact hl3.2.2 j
   obtain ⟨c0,c1,c2,c3,c4,c5,c6,c7,c8,c9,c10⟩:=oO HR.out;obtain ⟨d0,d1,d2,d3,d4,d5,d6,d7,d8,d9,d10⟩:=oO HR1;clear hl3 h9 HR1;have a0:=(AR.2 0 de).1;have a1:=(AR.2 1 de).1;have a2:=(AR.2 2 de).1;have a3:=(AR.2 3 de).1;have a4:=(AR.2 4 de).1;have a5:=(AR.2 5 de).1;have a6:=(AR.2 6 de).1;have a7:=(AR.2 7 de).1;have g0:=(AR.2 0 de).2;have g1:=(AR.2 1 de).2;have g2:=(AR.2 2 de).2;have g3:=(AR.2 3 de).2;have g4:=(AR.2 4 de).2;have g5:=(AR.2 5 de).2;have g6:=(AR.2 6 de).2;have g7:=(AR.2 7 de).2;simp only[zf,zg]at a0 a1 a2 a3 a4 a5 a6 a7;clear AR;have AR:=AR9.out;have b0:=(AR.2 0 de).1;have b1:=(AR.2 1 de).1;have b2:=(AR.2 2 de).1;have b3:=(AR.2 3 de).1;have b4:=(AR.2 4 de).1;have b5:=(AR.2 5 de).1;have b6:=(AR.2 6 de).1;have b7:=(AR.2 7 de).1;simp only[zf,zg]at b0 b1 b2 b3 b4 b5 b6 b7;clear AR;go_wp2_with (rw[<-H9.out]);refine bodyPost_ret (fV rfl _ _ w.heap.size _ 3 0 ⟨#[]⟩ x0 x1 x2 x3 x4 x5 x6 x7 rfl rfl (eQ HR.out 3 0 ⟨#[]⟩ x0 x1 x2 x3 x4 x5 x6 x7)) rfl ⟨rfl,fU BW.out (zc _) 3 0 ⟨#[]⟩ x0 x1 x2 x3 x4 x5 x6 x7⟩
 have HZ1:Hid (gI (s.extract 1 s.size).data.toList=.bad 2):=by
  by_cases h1:1<s.size
  .refine FB ?_
   rw[Aw h1];intro e;have e2:=Option.some.inj e;apply hcl;rw[<-hc,e2];rfl
  refine FB ?_;rw[nil_r h1];simp
 have q0:((c:Int)==93)=false:=beq_eq_false_iff_ne.2 om;rw[HZ1.out];show Calls _ _ _ _ fun e w'=>e=Y (F #[D #[I J 0,L ⟨#[]⟩,I J 0,I J 0,I J 0,I J 0,I J 0,I J 0,I J 0,I J 0,I J 0],I J 2])/\Below w.heap.size w w'
 clear HZ1 hcl;go_enter func58,ntmps58;go_wp2_with fail;go_returns;exact ⟨rfl,by go_grown⟩
theorem GP(s:ByteArray)(w:World)(hs:s.size<=1048576):Calls prog 58 #[L s] w fun e w'=>e=Y (F #[fB (rV (aO s)),I J (rC (aO s))])/\Below w.heap.size w w':=by
 by_cases h0:s.size=0
 .exact FL s w h0
 have hp:0<s.size:=om
 by_cases h9:s[0].toNat=91
 .exact FN s w hs hp h9
 exact FM s w hs hp h9
def ZD(u:UV):List Value:=I J u.s::I J u.h.k::L u.h.s::I J u.h.n::(u.h.z.map (Value.int .i64)++[I J u.p,L u.a,E u.q,L u.r])
def rD(u:UV):Value:=D (ZD u).toArray
theorem KO(l:List UInt8):(eC l).length<=l.length:=by
 unfold eC;refine zh (List.length_filter_le _ _) ?_;have h:=congrArg List.length (List.takeWhile_append_dropWhile (p:=fun c=>c !=35) (l:=Lib.trimS l kN));rw[zi]at h;have h2:=EF l kN;omega
def PS(w:World)(U:Nat)(sch p:Int)(W:World):Prop:=
 UAt W w.heap.size aY/\UAt W (w.heap.size+1) aY/\UAt W U (aC sch 0 ⟨#[]⟩ 0 0 0 0 0 0 0 0 0 p ⟨#[]⟩ false ⟨#[]⟩)/\w.heap.size+1<U/\Below w.heap.size w W
theorem PS.later{w:World}{U:Nat}{sch p:Int}{W W':World}(h:PS w U sch p W)(hb:Below W.heap.size W W'):PS w U sch p W':=
 ⟨h.1.below hb,h.2.1.below hb,h.2.2.1.below hb,h.2.2.2.1,h.2.2.2.2.trans (hb.mono h.2.2.2.2.size)⟩
theorem PS.sch{w:World}{U:Nat}{sch p:Int}{W:World}(h:PS w U sch p W)(v:Int):PS w U v p (W.setCell ⟨U,0,none⟩ (I J v)):=by
 obtain ⟨h1,h2,h3,h4,h5⟩:=h;exact ⟨h1.other om _ _,h2.other om _ _,h3.set 0 (by simp[aC]) _,h4,h5.setCell (p:=⟨U,0,none⟩) (by show _<=U;omega) _⟩
theorem PS.moved{w:World}{U C:Nat}{sch p:Int}{W W':World}(h:PS w U sch p W)(h1:w.heap.size+1<C)(h2:U≠C)(hM:nN C W W'):PS w U sch p W':=
 ⟨hM.1 _ _ om h.1,hM.1 _ _ om h.2.1,hM.1 _ _ h2 h.2.2.1,h.2.2.2.1,hM.2 _ _ om h.2.2.2.2⟩
def PF(w:World)(U:Nat)(row:List Value)(W:World):Prop:=UAt W w.heap.size aY/\UAt W (w.heap.size+1) aY/\UAt W U row/\w.heap.size+1<U/\Below w.heap.size w W
theorem PF.later{w:World}{U:Nat}{row:List Value}{W W':World}(h:PF w U row W)(hb:Below W.heap.size W W'):PF w U row W':=
 ⟨h.1.below hb,h.2.1.below hb,h.2.2.1.below hb,h.2.2.2.1,h.2.2.2.2.trans (hb.mono h.2.2.2.2.size)⟩
theorem SW{l:List UInt8}(h:eT l=none):sB l=(2,fJ):=by unfold sB;rw[h]
theorem Fa{l t:List UInt8}{s:Int}(h:eT l=some (s,t)):sB l=uP s t:=by unfold sB;rw[h]
theorem WG(h:HV)(hz:h.z.length=8): ∃(k n:Int) (nm:ByteArray) (x0 x1 x2 x3 x4 x5 x6 x7:Int),h=⟨k,nm,n,[x0,x1,x2,x3,x4,x5,x6,x7]⟩:=by
 obtain ⟨k,nm,n,z⟩:=h
 match z,hz with
 |[x0,x1,x2,x3,x4,x5,x6,x7],_=>exact ⟨k,n,nm,x0,x1,x2,x3,x4,x5,x6,x7,rfl⟩
theorem Ax{h:HV}(ho:hOk h=true):h.s.size<=253:=by
 unfold hOk at ho;split at ho
 .simp only[zj,decide_eq_true_eq]at ho
  have:=wF ho.1.1.1
  simpa using this
 split at ho
 .simp only[zj,decide_eq_true_eq]at ho
  omega
 split at ho
 .simp only[zj,decide_eq_true_eq]at ho
  omega
 cases ho
theorem WH(P:ByteArray):(iU P).data.toList=yO P.data.toList:=by
 unfold iU yO
 by_cases h:P.size=0
 .rw[if_pos h,if_pos (List.eq_nil_of_length_eq_zero (by simpa using h))]
 rw[if_neg h,if_neg (fun e=>h (by have:=congrArg List.length e;simpa using this))]
theorem NH(s:Int)(h:HV)(p:Int)(l:ByteArray):oE s h p l.data.toList=⟨s,h,p,nP l,tZ l,lR l⟩:=by
 unfold oE nP tZ lR;rw[WH];have e1:(!(l.data.toList.dropWhile fun c=>c !=63).isEmpty)=decide (0<(gL l).size):=by
  show _=decide (0<(l.data.toList.dropWhile fun c=>c !=63).toArray.size);rw[zr]
  cases l.data.toList.dropWhile fun c=>c !=63 with
  |nil=>rfl
  |cons c r=>simp
 have e2:(⟨((l.data.toList.dropWhile fun c=>c !=63).drop 1).toArray⟩:ByteArray)=(gL l).extract 1 (gL l).size:=by
  apply bX;show (l.data.toList.dropWhile fun c=>c !=63).drop 1=((gL l).extract 1 (gL l).size).data.toList;rw[iL];rfl
 rw[e1,e2];rfl
theorem nR(set:Int)(x:ByteArray):(plB set x).size<=3*x.size:=by
 show (plL set (toL x)).toArray.size<=_;rw[zr];have h:=TO set (toL x);have h2:(toL x).length=x.size:=by simp[toL]
 omega
theorem I3{a r:ByteArray}(q:Bool)(ha:a.size<=10000)(hr:r.size<=10000):(Z8 a q r).length<=2097152:=by
 have h1:(toL a).length=a.size:=by simp[toL]
 have h2:(toL r).length=r.size:=by simp[toL]
 unfold Z8;split
 .rw[zi,List.length_cons]
  omega
 omega
end
section
open Go.RowKit
attribute [local go_sem↓] Go.wp_at_zero Go.wp_at_succ
theorem KP{p:UInt8->Bool}: ∀{l:List UInt8} {c:UInt8} {r:List UInt8},l.dropWhile p=c::r->p c=false
 |[],c,r,h=>by cases h
 |b::l,c,r,h=>by
  rw[zp]at h
  cases hb:p b with
  |true=>rw[hb,if_pos rfl]at h;exact KP h
  |false=>
   rw[hb,if_neg de]at h
   cases h
   exact hb
theorem has_q(l:List UInt8):(!(l.dropWhile fun c=>c !=63).isEmpty)=l.contains 63:=by
 have h:=yP 63 l
 induction l with
 |nil=>rfl
 |cons b l ih=>
  by_cases hb:b=63
  .subst hb;simp
  have h3:(b !=63)=true:=bne_iff_ne.2 hb;have h2:(b::l).contains 63=l.contains 63:=by simp[Ne.symm hb]
  rw[zp,h3,if_pos rfl,h2];exact ih (yP 63 l)
theorem FO(s:Int)(h:HV)(p:Int)(l:ByteArray):oE s h p l.data.toList=⟨s,h,p,ptP ⟨(upB 63 l.data.toList).toArray⟩,l.data.toList.contains 63,plB 2 ⟨(cZ 63 l.data.toList).toArray⟩⟩:=by
 unfold oE;rw[has_q];rfl
theorem Ay{u:UV}(h:uOk u=true):MI u=if (uTx u).length<=2000 then (0,u)else (1,fJ):=by
 unfold MI;rw[pU h]
theorem Fb(set:Int)(x:ByteArray):(plB set x).size<=3*x.size:=nR set x
theorem Az(l:ByteArray)(h:l.size<=2000):(ptP l).size<=10000:=by
 unfold ptP;refine zh (uO _) (zh (nR _ _) ?_);have h1:(yO l.data.toList).length<=2000:=by
  unfold yO;split
  .decide
  have e:l.data.toList.length=l.size:=by simp
  omega
 have h2:(⟨(eA (yO l.data.toList)).toArray⟩:ByteArray).size=(yO l.data.toList).length:=by
  rw[dO,gT]
 omega
def PQ(w:World)(HB:Nat)(row:List Value)(W:World):Prop:=PU w aY W/\UAt W HB row/\w.heap.size<HB
theorem PQ.later{w:World}{HB:Nat}{row:List Value}{W W':World}(h:PQ w HB row W)(hb:Below W.heap.size W W'):PQ w HB row W':=⟨h.1.later hb,h.2.1.below hb,h.2.2⟩
theorem PQ.drew{w:World}{HB:Nat}{row:List Value}{W:World}(h:PQ w HB row W):PQ w HB row W.drew:=⟨h.1.drew,h.2⟩
theorem PQ.alloc{w:World}{HB:Nat}{row:List Value}{W:World}(h:PQ w HB row W)(o:Obj):PQ w HB row (W.alloc o):=h.later ((zl _ _).alloc (zc _) o)
theorem PQ.moved{w:World}{HB C:Nat}{row:List Value}{W W':World}(h:PQ w HB row W)(h1:w.heap.size<C)(h2:HB≠C)(hM:nN C W W'):PQ w HB row W':=⟨h.1.moved h1 hM,hM.1 _ _ h2 h.2.1,h.2.2⟩
theorem fW{W:World}{U:Nat}{vs us:List Value}(hU:UAt W U vs)(hl:vs.length=16)(hm:us.length=16):UAt (W.setCells U 0 us.toArray.toList) U us:=by
 have h:=sF us 0 W vs (by rw[hl,hm];decide) hU;have e:vs.take 0++(us++vs.drop (0+us.length))=us:=by rw[hm,List.drop_of_length_le om];simp
 rw[e]at h;exact h
def I4(l:List UInt8):Value:=F #[rD (cG l).2,WE (cG l).1]
theorem SX(s:ByteArray)(w:World)(hs:s.size<=1099511627776)(hT:Lib.Utf8Tabs 12 13 w)(hP:Pow w)(hD:bK w)(hM:qE w)(hK:gG w):Calls prog 46 #[L s] w fun e w'=>e=Y (I4 s.data.toList)/\Below w.heap.size w w':=by
 have HTA:Hid (∀W,Below w.heap.size w W->Lib.Utf8Tabs 12 13 W/\Pow W/\bK W/\qE W/\gG W):=fun W hb=>⟨bW hT hb,cN hP hb,aT hD hb,iM hM hb,hK.later hb⟩
 clear hT hP hD hM hK;have hsl:s.data.toList.length=s.size:=by simp
 obtain ⟨O,hO⟩: ∃O,O=w.alloc (G #[I J 0,I J 0,L ⟨#[]⟩,I J 0,I J 0,I J 0,I J 0,I J 0,I J 0,I J 0,I J 0,I J 0,I J 0,L ⟨#[]⟩,E false,L ⟨#[]⟩] 28):=⟨_,rfl⟩;have HU:Hid (PU w aY O):=by
  rw[hO];exact PU.new w _ _
 go_enter func46,ntmps46
 go_upto_region 1 with fail
 rw[<-hO];clear hO
 by_cases hbig:2000<s.size
 .have HZ:Hid (cG s.data.toList=(1,fJ)):=by show _=_;unfold cG;rw[if_pos om]
  have hbi:2000<(s.size:Int):=om;have HUU:=HU;clear hsl hbig HU;go_wp2_with (refine dI HUU.out.1 rfl (us:=aY) rfl (aS ..) rfl _ _ rfl rfl rfl ?_;intro w9 HU9 HM9);refine bodyPost_ret (cB rfl _ _ w.heap.size (Q 69 (D #[I J 1])) _ rfl rfl rfl HU9) rfl ⟨by unfold I4;rw[HZ.out];exact rfl,HM9.2 _ _ (zc _) HUU.out.2⟩
 have HR0:cG s.data.toList=sB (eC s.data.toList):=by unfold cG;rw[if_neg om]
 have hts:(⟨(eC s.data.toList).toArray⟩:ByteArray).size<=2000:=by
  have h1:=KO s.data.toList;rw[dO];omega
 have CA:Hid (∀W,Below w.heap.size w W->CB 99 #[L s] W (L ⟨(eC s.data.toList).toArray⟩)):=fun W hb=>rH s W om (HTA.out W hb).2.2.2.1
 have HR:Hid (cG s.data.toList=sB (⟨(eC s.data.toList).toArray⟩:ByteArray).data.toList):=HR0;generalize (⟨(eC s.data.toList).toArray⟩:ByteArray)=t at hts CA HR;have hbi: ¬2000<(s.size:Int):=om;have CS:Hid (∀W,Below w.heap.size w W->CB 98 #[L t] W (VI (eT t.data.toList))):=fun W hb=>EM t W om (HTA.out W hb).2.2.2.1
 clear hsl hbig HR0;go_wp2_with fail;refine (CA.out _ HU.out.2).mono ?_;rintro e w1 ⟨rfl,b1⟩;have HU1:Hid (PU w aY w1):=HU.out.later b1;clear b1 HU CA
 cases hsch:eT t.data.toList with
 |none=>
  have HZ:Hid (cG s.data.toList=(2,fJ)):=HR.out.trans (SW hsch);have CS2:Hid (∀W,Below w.heap.size w W->CB 98 #[L t] W (F #[I J 0,L ⟨#[]⟩,Q 69 (D #[I J 2])])):=fun W hb=>by
   have h:=CS.out W hb;rw[hsch]at h;exact h
  clear CS hsch HR;go_wp2_with fail;refine (CS2.out _ HU1.out.2).mono ?_;rintro e w2 ⟨rfl,b2⟩;have HUU:Hid (PU w aY w2):=HU1.out.later b2;clear b2 HU1 CS2;go_wp2_with (refine dI HUU.out.1 rfl (us:=aY) rfl (aS ..) rfl _ _ rfl rfl rfl ?_;intro w9 HU9 HM9);refine bodyPost_ret (cB rfl _ _ w.heap.size (Q 69 (D #[I J 2])) _ rfl rfl rfl HU9) rfl ⟨by unfold I4;rw[HZ.out];exact rfl,HM9.2 _ _ (zc _) HUU.out.2⟩
 |some st=>
  obtain ⟨sch,T⟩:=st;have hs12:sch=1∨sch=2:=by
   unfold eT at hsch;split at hsch
   .cases hsch;exact .inl rfl
   split at hsch
   .cases hsch;exact .inr rfl
   cases hsch
  have hTl:T.length<=2000:=by
   have e:t.data.toList.length=t.size:=by simp
   unfold eT at hsch;split at hsch
   .cases hsch;rw[zk];omega
   split at hsch
   .cases hsch;rw[zk];omega
   cases hsch
  have hZs:(⟨(T.dropWhile slB).toArray⟩:ByteArray).size<=2000:=by
   rw[dO];exact zh (zn slB).length_le hTl
  have HS:Hid (cG s.data.toList=zN sch ((⟨(T.dropWhile slB).toArray⟩:ByteArray).data.toList.takeWhile dJ) ((⟨(T.dropWhile slB).toArray⟩:ByteArray).data.toList.dropWhile dJ)):=HR.out.trans (Fa hsch);have CS2:Hid (∀W,Below w.heap.size w W->CB 98 #[L t] W (F #[I J sch,L ⟨(T.dropWhile slB).toArray⟩,.nilIface])):=fun W hb=>by
   have h:=CS.out W hb;rw[hsch]at h;exact h
  generalize (⟨(T.dropWhile slB).toArray⟩:ByteArray)=Z at CS2 HS hZs;clear CS hsch HR hTl;go_wp2_with fail;refine (CS2.out _ HU1.out.2).mono ?_;rintro e w2 ⟨rfl,b2⟩;have HU2:Hid (PU w aY w2):=HU1.out.later b2;clear b2 HU1 CS2;have hsz:=nQ (p:=dJ) Z;have CU:Hid (∀W,CB 100 #[L Z] W (F #[L ⟨(Z.data.toList.takeWhile dJ).toArray⟩,L ⟨(Z.data.toList.dropWhile dJ).toArray⟩])):=fun W=>yZ Z W om
  have HS2:Hid (cG s.data.toList=zN sch (⟨(Z.data.toList.takeWhile dJ).toArray⟩:ByteArray).data.toList (⟨(Z.data.toList.dropWhile dJ).toArray⟩:ByteArray).data.toList):=HS;have HDE:Hid (∀c r,(⟨(Z.data.toList.dropWhile dJ).toArray⟩:ByteArray).data.toList=c::r->dJ c=false):=fun c r h=>KP h
  obtain ⟨hz1,hz2⟩:=hsz;generalize (⟨(Z.data.toList.takeWhile dJ).toArray⟩:ByteArray)=A at CU HS2 hz1;generalize (⟨(Z.data.toList.dropWhile dJ).toArray⟩:ByteArray)=Rs at CU HS2 hz2 HDE;have hA:A.size<=2000:=om;have hRs:Rs.size<=2000:=om;clear HS hz1 hz2;go_wp2_with fail;refine (CU.out _).mono ?_;rintro e w3 ⟨rfl,b3⟩;have HU3:Hid (PU w aY w3):=HU2.out.later b3;clear b3 HU2 CU;obtain ⟨k,n,nm,x0,x1,x2,x3,x4,x5,x6,x7,hhv⟩:=I0 sch A;have CW:Hid (∀W,Below w.heap.size w W->CB 101 #[L A,I J sch] W (F #[D (dU k nm n x0 x1 x2 x3 x4 x5 x6 x7).toArray,I J (jQ sch A).2.2,WE (jQ sch A).1])):=fun W hb=>by
   have ht:=HTA.out W hb;have h:=xJ A sch W om hs12 ht.1 ht.2.1 ht.2.2.1 ht.2.2.2.1;rw[hhv]at h;exact h
  have HS3:Hid (cG s.data.toList=if (jQ sch A).1=0 then MI (oE sch ⟨k,nm,n,[x0,x1,x2,x3,x4,x5,x6,x7]⟩ (jQ sch A).2.2 Rs.data.toList)else ((jQ sch A).1,fJ)):=by
   show _=_;rw[HS2.out,Et hs12,hhv]
  have HAO:Hid ((jQ sch A).1=0->hOk ⟨k,nm,n,[x0,x1,x2,x3,x4,x5,x6,x7]⟩=true/\1<=(jQ sch A).2.2/\(jQ sch A).2.2<=65535):=fun h=>by
   have h1:=Hq h;rw[hhv]at h1;exact h1
  clear HS2 hhv;generalize (jQ sch A).2.2=pn at CW HS3 HAO;generalize (jQ sch A).1=cd at CW HS3 HAO
  by_cases hcd:cd=0
  .obtain ⟨hho,hp0,hp1⟩:=HAO.out hcd
   have hnm:nm.size<=1048576:=zh (Ax hho) de;have CW2:Hid (∀W,Below w.heap.size w W->CB 101 #[L A,I J sch] W (F #[D (dU k nm n x0 x1 x2 x3 x4 x5 x6 x7).toArray,I J pn,.nilIface])):=fun W hb=>by
    have h:=CW.out W hb;rw[hcd]at h;exact h
   have huk:uOk (oE sch ⟨k,nm,n,[x0,x1,x2,x3,x4,x5,x6,x7]⟩ pn Rs.data.toList)=true:=qZ (by rcases hs12 with rfl|rfl<;>decide) hho ⟨hp0,hp1⟩ HDE.out;have HS4:Hid (cG s.data.toList=if (uTx ⟨sch,⟨k,nm,n,[x0,x1,x2,x3,x4,x5,x6,x7]⟩,pn,ptP ⟨(upB 63 Rs.data.toList).toArray⟩,Rs.data.toList.contains 63,plB 2 ⟨(cZ 63 Rs.data.toList).toArray⟩⟩).length<=2000 then (0,⟨sch,⟨k,nm,n,[x0,x1,x2,x3,x4,x5,x6,x7]⟩,pn,ptP ⟨(upB 63 Rs.data.toList).toArray⟩,Rs.data.toList.contains 63,plB 2 ⟨(cZ 63 Rs.data.toList).toArray⟩⟩)else (1,fJ)):=by
    show _=_;rw[HS3.out,if_pos hcd,Ay huk,FO]
   clear CW HS3 HAO huk hcd HDE hho;go_wp2_with fail;refine (CW2.out _ HU3.out.2).mono ?_;rintro e w4 ⟨rfl,b4⟩;have HU4:Hid (PU w aY w4):=HU3.out.later b4;clear b4 HU3 CW2;have HU4a:Hid (PU w aY (w4.alloc (G #[I J 0,L ⟨#[]⟩,I J 0,I J 0,I J 0,I J 0,I J 0,I J 0,I J 0,I J 0,I J 0] 26))):=HU4.out.later ((zl _ _).alloc (zc _) _);have hlt:w.heap.size<w4.heap.size:=HU4.out.1.2.2
   go_upto_region 8 with (refine oM (UAt.new w4 _ _) 0 (zc 11) (us:=dU k nm n x0 x1 x2 x3 x4 x5 x6 x7) rfl (lH ..) rfl _ _ rfl rfl rfl ?_;intro w5 HUh HMh)
   have HU5:Hid (PU w aY w5):=HU4a.out.moved hlt HMh;have HUH:Hid (UAt w5 w4.heap.size (dU k nm n x0 x1 x2 x3 x4 x5 x6 x7)):=HUh;clear HUh HMh HU4a HU4;generalize w4.heap.size=HB at HUH hlt⊢;have hle:Rs.data.toList.length=Rs.size:=by simp
   have hup:(⟨(upB 63 Rs.data.toList).toArray⟩:ByteArray).size<=2000:=by
    rw[dO]
    have:=(List.takeWhile_prefix (fun x=>x !=63) (l:=Rs.data.toList)).length_le
    unfold upB;omega
   have hbe:(⟨(cZ 63 Rs.data.toList).toArray⟩:ByteArray).size<=2000:=by
    rw[dO]
    have:=(zn (fun x=>x !=63) (l:=Rs.data.toList)).length_le
    unfold cZ;rw[zk];omega
   have CC:Hid (∀W,Below w.heap.size w W->CB 102 #[L Rs,L ⟨#[63]⟩] W (F #[L ⟨(upB 63 Rs.data.toList).toArray⟩,L ⟨(cZ 63 Rs.data.toList).toArray⟩,E (Rs.data.toList.contains 63)])):=fun W hb=>iS 63 Rs W om
   generalize (⟨(upB 63 Rs.data.toList).toArray⟩:ByteArray)=Up at CC HS4 hup;generalize (⟨(cZ 63 Rs.data.toList).toArray⟩:ByteArray)=Be at CC HS4 hbe;generalize Rs.data.toList.contains 63=hq at CC HS4;clear hle;go_wp2_with fail;refine (CC.out _ HU5.out.2).mono ?_;rintro e w6 ⟨rfl,b6⟩;have HU6:Hid (PU w aY w6):=HU5.out.later b6;have HUH6:Hid (UAt w6 HB (dU k nm n x0 x1 x2 x3 x4 x5 x6 x7)):=HUH.out.below b6;clear b6 HU5 HUH CC;have CP:Hid (∀W,Below w.heap.size w W->CB 103 #[L Up] W (L (ptP Up))):=fun W hb=>tV Up W om (HTA.out W hb).2.2.2.2 (HTA.out W hb).2.2.2.1
   have CQ:Hid (∀W,Below w.heap.size w W->CB 104 #[L Be,I J 2] W (L (plB 2 Be))):=fun W hb=>oG Be 2 W (HTA.out W hb).2.2.2.2 om
   have hpa:=Az Up hup;have hqa:=Fb 2 Be;have hqb:(plB 2 Be).size<=10000:=om;generalize ptP Up=PA at CP HS4 hpa;generalize plB 2 Be=QA at CQ HS4 hqb;clear hqa
   go_upto_region 11 with fail
   go_cut [14] (fun v wx=> ∃U,v=.pointer (some ⟨U,0,none⟩)/\PU w aY wx/\UAt wx U (aC sch k nm n x0 x1 x2 x3 x4 x5 x6 x7 pn PA hq QA)/\w.heap.size<U)
   case first=>
    have hpq:PQ w HB (dU k nm n x0 x1 x2 x3 x4 x5 x6 x7) w6:=⟨HU6.out,HUH6.out,hlt⟩;have hBl:HB<w6.heap.size:=HUH6.out.2.2;clear HU6 HUH6;refine wp_region_held_drew (S:=PQ w HB (dU k nm n x0 x1 x2 x3 x4 x5 x6 x7)) kr (PQ.drew hpq) (fun hH=> ?_);clear hpq;refine wpAnyH_take (i:=0) (v:= ?_) rfl kr kr kr (fun _ _ _ h=>h) (Or.inl ⟨by rfl,?_⟩) hH ?_;rotate_left
    .intro W hW
     clear hW;go_simp
     try with_reducible rfl
    simp only[ze];refine wpAnyH_take (i:=2) (v:= ?_) rfl kr kr kr (fun _ _ _ h=>h) (Or.inl ⟨by rfl,?_⟩) hH ?_;rotate_left
    .intro W hW
     clear hW;go_simp
     try with_reducible rfl
    simp only[ze];refine wpAnyH_take (i:=3) (v:= ?_) rfl kr kr kr (fun _ _ _ h=>h) (Or.inl ⟨by rfl,?_⟩) hH ?_;rotate_left
    .intro W hW
     clear hW;go_simp
     try with_reducible rfl
    simp only[ze];refine wpAnyH_take (i:=5) (v:= ?_) rfl kr kr kr (fun _ _ _ h=>h) (Or.inl ⟨by rfl,?_⟩) hH ?_;rotate_left
    .intro W hW
     clear hW;go_simp
     try with_reducible rfl
    simp only[ze];refine wpAnyH_take (i:=6) (v:= ?_) rfl kr kr kr (fun _ _ _ h=>h) (Or.inl ⟨by rfl,?_⟩) hH ?_;rotate_left
    .intro W hW
     clear hW;go_simp
     try with_reducible rfl
    simp only[ze];refine wpAnyH_take (i:=1) (v:=D (dU k nm n x0 x1 x2 x3 x4 x5 x6 x7).toArray) rfl kr kr kr (fun _ _ _ h=>h) (yieldsIf_load_mid (by rfl) _ _ rfl HB 0 rfl (dU k nm n x0 x1 x2 x3 x4 x5 x6 x7) _ (fun W hW=>hW.2.1.range 0 _ (fun j v hv=>by rw[Nat.zero_add];exact hv)) underlying26 rfl infoHost) hH ?_;simp only[ze];refine wpAnyH_ready (rs:=[4,9]) kr j2 (za rfl (fun K hK=> ?_) (za rfl (fun K hK=> ?_) zd))
    .go_simp
     go_wp2_with (go_at_call 103;refine (CP.out _ hH.1.2).mono ?_;rintro e wq1 ⟨rfl,hb1⟩);refine hK.out _ _ (PQ.later hH hb1) (fun h1=> ?_);clear hK K;clear hH;have hB1:HB<wq1.heap.size:=h1.2.1.2.2;have hw1:w.heap.size<wq1.heap.size:=h1.1.1.2.2;refine wpAnyH_ready (rs:=[7,9]) kr j2 (za rfl (fun K hK=> ?_) (za rfl (fun K hK=> ?_) zd))
     .go_simp
      go_wp2_with (go_at_call 104;refine (CQ.out _ h1.1.2).mono ?_;rintro e wq2 ⟨rfl,hb2⟩);refine hK.out _ _ (PQ.later h1 hb2) (fun h2=> ?_);clear hK K;have hB2:HB<wq2.heap.size:=h2.2.1.2.2;have hw2:w.heap.size<wq2.heap.size:=h2.1.1.2.2;refine wpAnyH_take (i:=8) (v:=D (aC sch k nm n x0 x1 x2 x3 x4 x5 x6 x7 pn PA hq QA).toArray) rfl kr kr kr (fun _ _ _ h=>h) (Or.inl ⟨by rfl,?_⟩) h2 ?_
      .intro W hW
       kernel_rfl
      simp only[ze];refine wpAnyH_ready (rs:=[9]) kr j2 (za rfl (fun K hK=> ?_) zd);go_simp;refine hK.out _ _ (PQ.alloc h2 _) (fun h3=> ?_);clear hK K;have hN:=UAt.new wq2 #[I J 0,I J 0,L ⟨#[]⟩,I J 0,I J 0,I J 0,I J 0,I J 0,I J 0,I J 0,I J 0,I J 0,I J 0,L ⟨#[]⟩,E false,L ⟨#[]⟩] 28;refine wpAnyH_ready (rs:=[10]) kr j2 (za rfl (fun K hK=> ?_) zd);rw[if_pos (by rfl)];refine wp_store_mid _ _ _ rfl wq2.heap.size 0 (aC sch k nm n x0 x1 x2 x3 x4 x5 x6 x7 pn PA hq QA).toArray rfl rfl (hN.there 0 16 (by show 0+16<=16;decide)) infoUrl (aS ..) ?_;refine hK.out _ _ (PQ.moved h3 om om (bS _ _ _)) (fun hZ=> ?_);clear hK K;refine wpAnyH_done kr ?_ _;simp only[ze];go_wp2_with fail;go_meet;exact ⟨_,rfl,hZ.1,fW hN rfl rfl,hw2⟩
     go_simp;refine hK.out _ _ (PQ.alloc h1 _) (fun h2=> ?_);clear hK K;have hN:=UAt.new wq1 #[I J 0,I J 0,L ⟨#[]⟩,I J 0,I J 0,I J 0,I J 0,I J 0,I J 0,I J 0,I J 0,I J 0,I J 0,L ⟨#[]⟩,E false,L ⟨#[]⟩] 28;refine wpAnyH_ready (rs:=[7]) kr j2 (za rfl (fun K hK=> ?_) zd);go_simp;go_wp2_with (go_at_call 104;refine (CQ.out _ h2.1.2).mono ?_;rintro e wq2 ⟨rfl,hb2⟩);refine hK.out _ _ (PQ.later h2 hb2) (fun h3=> ?_);clear hK K;have hN2:=hN.below hb2;refine wpAnyH_take (i:=8) (v:=D (aC sch k nm n x0 x1 x2 x3 x4 x5 x6 x7 pn PA hq QA).toArray) rfl kr kr kr (fun _ _ _ h=>h) (Or.inl ⟨by rfl,?_⟩) h3 ?_
     .intro W hW
      kernel_rfl
     simp only[ze];refine wpAnyH_ready (rs:=[10]) kr j2 (za rfl (fun K hK=> ?_) zd);rw[if_pos (by rfl)];refine wp_store_mid _ _ _ rfl wq1.heap.size 0 (aC sch k nm n x0 x1 x2 x3 x4 x5 x6 x7 pn PA hq QA).toArray rfl rfl (hN2.there 0 16 (by show 0+16<=16;decide)) infoUrl (aS ..) ?_;refine hK.out _ _ (PQ.moved h3 om om (bS _ _ _)) (fun hZ=> ?_);clear hK K;refine wpAnyH_done kr ?_ _;simp only[ze];go_wp2_with fail;go_meet;exact ⟨_,rfl,hZ.1,fW hN2 rfl rfl,hw1⟩
    go_simp;refine hK.out _ _ (PQ.alloc hH _) (fun h1=> ?_);clear hK K;have hw1:w.heap.size<w6.heap.size:=hH.1.1.2.2;have hN:=UAt.new w6.drew #[I J 0,I J 0,L ⟨#[]⟩,I J 0,I J 0,I J 0,I J 0,I J 0,I J 0,I J 0,I J 0,I J 0,I J 0,L ⟨#[]⟩,E false,L ⟨#[]⟩] 28;refine wpAnyH_ready (rs:=[4]) kr j2 (za rfl (fun K hK=> ?_) zd);go_simp;go_wp2_with (go_at_call 103;refine (CP.out _ h1.1.2).mono ?_;rintro e wq1 ⟨rfl,hb1⟩);refine hK.out _ _ (PQ.later h1 hb1) (fun h2=> ?_);clear hK K;have hN1:=hN.below hb1;refine wpAnyH_ready (rs:=[7]) kr j2 (za rfl (fun K hK=> ?_) zd);go_simp;go_wp2_with (go_at_call 104;refine (CQ.out _ h2.1.2).mono ?_;rintro e wq2 ⟨rfl,hb2⟩);refine hK.out _ _ (PQ.later h2 hb2) (fun h3=> ?_);clear hK K;have hN2:=hN1.below hb2;refine wpAnyH_take (i:=8) (v:=D (aC sch k nm n x0 x1 x2 x3 x4 x5 x6 x7 pn PA hq QA).toArray) rfl kr kr kr (fun _ _ _ h=>h) (Or.inl ⟨by rfl,?_⟩) h3 ?_
    .intro W hW
     kernel_rfl
    simp only[ze];refine wpAnyH_ready (rs:=[10]) kr j2 (za rfl (fun K hK=> ?_) zd);rw[if_pos (by rfl)];refine wp_store_mid _ _ _ rfl w6.heap.size 0 (aC sch k nm n x0 x1 x2 x3 x4 x5 x6 x7 pn PA hq QA).toArray rfl rfl (hN2.there 0 16 (by show 0+16<=16;decide)) infoUrl (aS ..) ?_;refine hK.out _ _ (PQ.moved h3 om om (bS _ _ _)) (fun hZ=> ?_);clear hK K;refine wpAnyH_done kr ?_ _;simp only[ze];go_wp2_with fail;go_meet;exact ⟨_,rfl,hZ.1,fW hN2 rfl rfl,hw1⟩
   obtain ⟨U,rfl,hu7,hv7,hlU⟩:=hcut;have HU7:Hid (PU w aY wc):=hu7;have HV7:Hid (UAt wc U (aC sch k nm n x0 x1 x2 x3 x4 x5 x6 x7 pn PA hq QA)):=hv7;clear hu7 hv7 HU6 HUH6 CP CQ hlt;have CT:Hid (∀W,Below w.heap.size w W->CB 12 #[D (aC sch k nm n x0 x1 x2 x3 x4 x5 x6 x7 pn PA hq QA).toArray] W (L ⟨(uTx ⟨sch,⟨k,nm,n,[x0,x1,x2,x3,x4,x5,x6,x7]⟩,pn,PA,hq,QA⟩).toArray⟩)):=fun W hb=>by
    have ht:=HTA.out W hb;exact lI sch k n pn nm PA QA hq x0 x1 x2 x3 x4 x5 x6 x7 W hnm om om ht.1 ht.2.1 ht.2.2.1 ht.2.2.2.2
   have HL:Hid ((uTx ⟨sch,⟨k,nm,n,[x0,x1,x2,x3,x4,x5,x6,x7]⟩,pn,PA,hq,QA⟩).length=(⟨(uTx ⟨sch,⟨k,nm,n,[x0,x1,x2,x3,x4,x5,x6,x7]⟩,pn,PA,hq,QA⟩).toArray⟩:ByteArray).size):=(dO _).symm;rw[HL.out]at HS4;have hts:(⟨(uTx ⟨sch,⟨k,nm,n,[x0,x1,x2,x3,x4,x5,x6,x7]⟩,pn,PA,hq,QA⟩).toArray⟩:ByteArray).size<=4194304:=by
    rw[dO];have h1:=NA (k:=k) (n:=n) (nm:=nm) (x0:=x0) (x1:=x1) (x2:=x2) (x3:=x3) (x4:=x4) (x5:=x5) (x6:=x6) (x7:=x7) sch pn hnm;have h2:=I3 hq hpa hqb;unfold uTx;split
    .rw[zi]
     show (jT sch (hTx ⟨k,nm,n,[x0,x1,x2,x3,x4,x5,x6,x7]⟩) pn).length+(Z8 PA hq QA).length<=_;omega
    simp
   generalize (⟨(uTx ⟨sch,⟨k,nm,n,[x0,x1,x2,x3,x4,x5,x6,x7]⟩,pn,PA,hq,QA⟩).toArray⟩:ByteArray)=TT at CT HS4 hts;clear HL HTA;go_wp2_with (refine bU HV7.out rfl rfl _ rfl rfl ?_);refine (CT.out _ HU7.out.2).mono ?_;rintro e w8 ⟨rfl,b8⟩;have HU8:Hid (PU w aY w8):=HU7.out.later b8;have HV8:Hid (UAt w8 U (aC sch k nm n x0 x1 x2 x3 x4 x5 x6 x7 pn PA hq QA)):=HV7.out.below b8;clear b8 HU7 HV7 CT
   by_cases hfit:TT.size<=2000
   .have HZ:Hid (cG s.data.toList=(0,⟨sch,⟨k,nm,n,[x0,x1,x2,x3,x4,x5,x6,x7]⟩,pn,PA,hq,QA⟩)):=by show _=_;rw[HS4.out,if_pos hfit]
    have hfi: ¬2000<(TT.size:Int):=om;clear HS4 hfit;go_wp2_with (first|(refine bU HV8.out rfl rfl _ rfl rfl ?_)|(refine dI HU8.out.1 rfl (us:=aC sch k nm n x0 x1 x2 x3 x4 x5 x6 x7 pn PA hq QA) rfl (aS ..) rfl _ _ rfl rfl rfl ?_;intro w9 HU9 HM9));refine bodyPost_ret (cB rfl _ _ w.heap.size .nilIface _ rfl rfl rfl HU9) rfl ⟨by unfold I4;rw[HZ.out];rfl,HM9.2 _ _ (zc _) HU8.out.2⟩
   have HZ:Hid (cG s.data.toList=(1,fJ)):=by show _=_;rw[HS4.out,if_neg hfit]
   have hfi:2000<(TT.size:Int):=om;have HUU:=HU8;clear HS4 hfit;go_wp2_with (refine dI HUU.out.1 rfl (us:=aY) rfl (aS ..) rfl _ _ rfl rfl rfl ?_;intro w9 HU9 HM9);refine bodyPost_ret (cB rfl _ _ w.heap.size (Q 69 (D #[I J 1])) _ rfl rfl rfl HU9) rfl ⟨by unfold I4;rw[HZ.out];exact rfl,HM9.2 _ _ (zc _) HUU.out.2⟩
  have HZ:Hid (cG s.data.toList=(cd,fJ)):=by show _=_;rw[HS3.out,if_neg hcd]
  have HEV:Hid (WE cd=Q 69 (D #[I J cd])):=YX hcd;have CW2:Hid (∀W,Below w.heap.size w W->CB 101 #[L A,I J sch] W (F #[D (dU k nm n x0 x1 x2 x3 x4 x5 x6 x7).toArray,I J pn,Q 69 (D #[I J cd])])):=fun W hb=>by
   have h:=CW.out W hb;rw[HEV.out]at h;exact h
  clear CW HS3 HAO hcd;go_wp2_with fail;refine (CW2.out _ HU3.out.2).mono ?_;rintro e w4 ⟨rfl,b4⟩;have HU4:Hid (PU w aY w4):=HU3.out.later b4;clear b4 HU3 CW2;have HU4a:Hid (PU w aY (w4.alloc (G #[I J 0,L ⟨#[]⟩,I J 0,I J 0,I J 0,I J 0,I J 0,I J 0,I J 0,I J 0,I J 0] 26))):=HU4.out.later ((zl _ _).alloc (zc _) _);have hlt:w.heap.size<w4.heap.size:=HU4.out.1.2.2
  go_upto_region 8 with (refine oM (UAt.new w4 _ _) 0 (zc 11) (us:=dU k nm n x0 x1 x2 x3 x4 x5 x6 x7) rfl (lH ..) rfl _ _ rfl rfl rfl ?_;intro w5 HUh HMh)
  have HUU:Hid (PU w aY w5):=HU4a.out.moved hlt HMh;clear HUh HMh HU4a HU4;go_wp2_with (refine dI HUU.out.1 rfl (us:=aY) rfl (aS ..) rfl _ _ rfl rfl rfl ?_;intro w9 HU9 HM9);refine bodyPost_ret (cB rfl _ _ w.heap.size (Q 69 (D #[I J cd])) _ rfl rfl rfl HU9) rfl ⟨by unfold I4;rw[HZ.out];exact (by rw[HEV.out];rfl),HM9.2 _ _ (zc _) HUU.out.2⟩
end
section
open Go.RowKit
def GQ(n:Nat):Bool:=cD n||(fZ n||(decide (n=43)||decide (n=45)||decide (n=46)))
def lJ(l:List UInt8):Bool:=cD (l.headD 0).toNat&&l.all fun c=>GQ c.toNat
def pX(l:List UInt8):List UInt8:=if l.contains 58=true/\lJ (upB 58 l)=true then aF (upB 58 l)else []
theorem Fc{l:List UInt8}(h:lJ (upB 58 l)=false):pX l=[]:=by unfold pX;rw[if_neg (fun x=>by rw[h]at x;exact absurd x.2 de)]
theorem SY{l:List UInt8}(h1:l.contains 58=true)(h:lJ (upB 58 l)=true):pX l=aF (upB 58 l):=by unfold pX;rw[if_pos ⟨h1,h⟩]
theorem SZ(l:List UInt8):(⟨l.toArray⟩:ByteArray).toList.isEmpty=l.isEmpty:=by rw[zq]
theorem TA{H:ByteArray}(h:0<H.size):H.data.toList.headD 0=H[0]:=by
 have:=gC H 0 h
 rw[List.drop_zero]at this;rw[this];rfl
theorem Hu: ∀n:Nat,n<256->((0<=Lib.indexByte [43,45,46] (zo n))↔(decide (n=43)||decide (n=45)||decide (n=46))=true):=by decide+kernel
theorem zB(d:Nat)(w:World)(hd:(d:Int)<=255):Calls prog 220 #[.int .u8 (d:Int)] w fun e w'=>e=Y (E (GQ d))/\w=w':=by
 have C1:Hid (∀W,CS 217 #[.int .u8 (d:Int)] W (E (cD d))):=fun W=>gQ d W hd
 have C2:Hid (∀W,CS 218 #[.int .u8 (d:Int)] W (E (fZ d))):=fun W=>by
  have h:=eG d W om;have e:decide (48<=(d:Int)/\(d:Int)<=57)=fZ d:=by unfold fZ;exact decide_eq_decide.2 om
  rw[e]at h;exact h
 have C3:Hid (∀W,CS 204 #[L ⟨#[43,45,46]⟩,.int .u8 (d:Int)] W (I J (Lib.indexByte [43,45,46] (zo d)))):=fun W=>by
  have h:=strings_IndexByte ⟨#[43,45,46]⟩ (d:Int) W;rw[show ((d:Int)).toNat.toUInt8=zo d by simp]at h;exact h.mono fun e w' h=>⟨h.1,h.2.symm⟩
 have HS:Hid (GQ d=(cD d||(fZ d||(decide (d=43)||decide (d=45)||decide (d=46))))):=rfl;have HX:=Hu d om;generalize cD d=t1 at C1 HS;generalize fZ d=t2 at C2 HS;generalize (decide (d=43)||decide (d=45)||decide (d=46))=t3 at HS HX;generalize Lib.indexByte [43,45,46] (zo d)=z at C3 HX
 cases t1 with
 |true=>
  go_enter func220,ntmps220;go_wp2_with fail;refine (C1.out _).mono ?_;rintro e w' ⟨rfl,rfl⟩;go_wp2_with fail;go_ret;exact ⟨aG (by rw[HS.out];rfl),rfl⟩
 |false=>
  cases t2 with
  |true=>
   go_enter func220,ntmps220;go_wp2_with fail;refine (C1.out _).mono ?_;rintro e w' ⟨rfl,rfl⟩;go_wp2_with fail;refine (C2.out _).mono ?_;rintro e w' ⟨rfl,rfl⟩;go_wp2_with fail;go_ret;exact ⟨aG (by rw[HS.out];rfl),rfl⟩
  |false=>
   have HZ:Hid (decide (0<=z)=GQ d):=by
    show _=_;rw[HS.out]
    cases t3 with
    |true=>simpa using HX
    |false=>simpa using HX
   clear HX HS;go_enter func220,ntmps220;go_wp2_with fail;refine (C1.out _).mono ?_;rintro e w' ⟨rfl,rfl⟩;go_wp2_with fail;refine (C2.out _).mono ?_;rintro e w' ⟨rfl,rfl⟩;go_wp2_with fail;refine (C3.out _).mono ?_;rintro e w' ⟨rfl,rfl⟩;go_wp2_with fail;go_ret;exact ⟨aG HZ.out,rfl⟩
theorem NI(s:ByteArray)(w:World)(hs:s.size<=1048576):Calls prog 171 #[L s] w fun e w'=>e=Y (E (lJ s.data.toList))/\w=w':=by
 have HV:Hid (∀b:Bool,lJ s.data.toList=b->(Y (E b):Ending)=Y (E (lJ s.data.toList))):=fun b h=>by rw[h]
 by_cases hz:s=⟨#[]⟩
 .have HF:Hid (lJ s.data.toList=false):=by subst hz;show _=_;rfl
  subst hz;go_enter func171,ntmps171;go_wp2_with fail;go_ret;exact ⟨HV.out _ HF.out,rfl⟩
 have hr1:0<s.size:=by
  apply Nat.pos_of_ne_zero;intro h;exact hz (ByteArray.ext (Array.eq_empty_of_size_eq_zero h))
 have eE:s.toList.isEmpty=false:=by
  cases he:s.toList.isEmpty with
  |false=>rfl
  |true=>
   rw[zq,List.isEmpty_iff_length_eq_zero]at he
   have:s.size=0:=by simpa using he
   omega
 have hh:=TA hr1;clear hz;obtain ⟨d,hd⟩: ∃d:Nat,s[0].toNat=d:=⟨_,rfl⟩;have hd1:(d:Int)<=255:=by have:=s[0].toNat_lt;omega
 have CT:Hid (∀W,CS 217 #[.int .u8 (d:Int)] W (E (cD d))):=fun W=>gQ d W hd1
 cases hl:cD d with
 |false=>
  have HF:Hid (lJ s.data.toList=false):=by show _=_;unfold lJ;rw[hh,hd,hl];rfl
  rw[hl]at CT;clear hl hh;go_enter func171,ntmps171;go_wp2_with fail;refine (CT.out _).mono ?_;rintro e w' ⟨rfl,rfl⟩;go_wp2_with fail;go_ret;exact ⟨HV.out _ HF.out,rfl⟩
 |true=>
  have HL:Hid (cD (s.data.toList.headD 0).toNat=true):=by show _=_;rw[hh,hd,hl]
  rw[hl]at CT;clear hl hh;go_enter func171,ntmps171;go_wp2_with fail;refine (CT.out _).mono ?_;rintro e w' ⟨rfl,rfl⟩;clear CT eE hd hd1;go_wp2_with fail
  go_loop[14] (fun i=> ∃k:Nat,k<=s.size/\i=I J k/\(s.data.toList.take k).all (fun c=>GQ c.toNat)=true) (fun i=>s.size-(intOf i).toNat)
  case atStart=>exact ⟨0,Nat.zero_le _,rfl,rfl⟩
  obtain ⟨k,hk,rfl,hall⟩:=hrel;have HA:Hid ((s.data.toList.take k).all (fun c=>GQ c.toNat)=true):=hall;clear hall
  by_cases hlt:k<s.size
  .have htk:=eI s k hlt
   obtain ⟨y,hy⟩: ∃y:Nat,s[k].toNat=y:=⟨_,rfl⟩;have hy1:(y:Int)<=255:=by have:=s[k].toNat_lt;omega
   have CB:Hid (∀W,CS 220 #[.int .u8 (y:Int)] W (E (GQ y))):=fun W=>zB y W hy1
   cases hc:GQ y with
   |true=>
    have HX:Hid ((s.data.toList.take (k+1)).all (fun c=>GQ c.toNat)=true):=by show _=_;rw[htk,List.all_append,HA.out];simp[hy,hc]
    rw[hc]at CB;clear hc htk;go_wp2_with fail;refine (CB.out _).mono ?_;rintro e w' ⟨rfl,rfl⟩;go_wp2_with fail;go_round
    case rel=>exact ⟨k+1,om,gn,HX.out⟩
    case measure=>exact j1
   |false=>
    have HF:Hid (lJ s.data.toList=false):=by
     show _=_;unfold lJ
     have:s.data.toList.all (fun c=>GQ c.toNat)=false:=by
      rw[List.all_eq_false];refine ⟨s[k],?_,by rw[hy,hc];decide⟩
      have:s[k]∈s.data:=Array.getElem_mem _
      simpa using this
     rw[this,Bool.and_false]
    rw[hc]at CB;clear hc htk;go_wp2_with fail;refine (CB.out _).mono ?_;rintro e w' ⟨rfl,rfl⟩;go_wp2_with fail;go_ret;exact ⟨HV.out _ HF.out,rfl⟩
  have HT:Hid (lJ s.data.toList=true):=by
   show _=_;unfold lJ;have h:=HA.out;rw[cS s k om]at h;rw[HL.out,h];rfl
  go_wp2_with fail;go_ret;exact ⟨HV.out _ HT.out,rfl⟩
theorem NJ(s:ByteArray)(w:World)(hs:s.size<=1048576):Calls prog 120 #[L s] w fun e w'=>e=Y (L ⟨(pX s.data.toList).toArray⟩)/\Below w.heap.size w w':=by
 have CC:Hid (CB 102 #[L s,L ⟨#[58]⟩] w (F #[L ⟨(upB 58 s.data.toList).toArray⟩,L ⟨(cZ 58 s.data.toList).toArray⟩,E (s.data.toList.contains 58)])):=iS 58 s w om;obtain ⟨H,hH⟩: ∃H:ByteArray,H=⟨(upB 58 s.data.toList).toArray⟩:=⟨_,rfl⟩;rw[<-hH]at CC;have eH:H.data.toList=upB 58 s.data.toList:=by rw[hH]
 have hsz:H.size<=1048576:=by
  have h1:H.data.toList.length<=s.data.toList.length:=by rw[eH];exact (List.takeWhile_sublist _).length_le
  have h2:H.data.toList.length=H.size:=by simp
  have h3:s.data.toList.length=s.size:=by simp
  omega
 have CO:Hid (∀W,CS 171 #[L H] W (E (lJ H.data.toList))):=fun W=>NI H W hsz
 have CLo:Hid (∀W,CB 172 #[L H] W (L ⟨(aF H.data.toList).toArray⟩)):=fun W=>xQ H W hsz
 have HEH:Hid (H.data.toList=upB 58 s.data.toList):=eH;have HV:Hid (pX s.data.toList=if s.data.toList.contains 58=true/\lJ H.data.toList=true then aF H.data.toList else []):=by show _=_;rw[eH];rfl
 clear hH eH;generalize cZ 58 s.data.toList=bb at CC;generalize s.data.toList.contains 58=t1 at CC HV;generalize lJ H.data.toList=t2 at CO HV
 cases t1 with
 |false=>
  go_enter func120,ntmps120;go_wp2_with fail;refine CC.out.mono ?_;rintro e w1 ⟨rfl,b1⟩;go_wp2_with fail;go_ret;exact ⟨by rw[HV.out];rfl,b1⟩
 |true=>
  cases t2 with
  |false=>
   go_enter func120,ntmps120;go_wp2_with fail;refine CC.out.mono ?_;rintro e w1 ⟨rfl,b1⟩;go_wp2_with fail;refine (CO.out _).mono ?_;rintro e w' ⟨rfl,rfl⟩;go_wp2_with fail;go_ret;exact ⟨by rw[HV.out];rfl,b1⟩
  |true=>
   go_enter func120,ntmps120;go_wp2_with fail;refine CC.out.mono ?_;rintro e w1 ⟨rfl,b1⟩;go_wp2_with fail;refine (CO.out _).mono ?_;rintro e w' ⟨rfl,rfl⟩;go_wp2_with fail;refine (CLo.out _).mono ?_;rintro e w2 ⟨rfl,b2⟩;go_wp2_with fail;go_ret;exact ⟨by rw[HV.out];rfl,b1.trans (b2.mono b1.size)⟩
