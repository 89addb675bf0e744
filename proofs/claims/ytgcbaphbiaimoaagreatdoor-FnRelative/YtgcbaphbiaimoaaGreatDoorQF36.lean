/- RelTells, RelImpl, RelLaw. -/
import Derived.Test.YtgcbaphbiaimoaaGreatDoorQF35
set_option maxHeartbeats 8000000
set_option maxRecDepth 100000
namespace Go.Proofs.YtgcbaphbiaimoaaGreatDoor
open Go.Value renaming string->I,agg->Y
open Go.Ending renaming returned->J
open Go.Obj renaming cells->L
open _root_.Go.Act renaming put->zh
open _root_.Go.AllReadyH renaming cons->zi,nil->zj
open _root_.Go.RowKit.Below renaming refl->zp
open _root_.ByteArray renaming empty->zo
open _root_.List renaming getD_eq_getElem?_getD->zl,getElem?_eq_getElem->zm,getElem_cons_succ->zd,getElem_cons_zero->zc,getElem_toArray->ze,length_append->zk,setIfInBounds_toArray->za,set_cons_succ->zg,set_cons_zero->zf
open _root_.Nat renaming zero_add->zn
open _root_.Go.Proofs.Tryz
open _root_.Go.Proofs.YtgcbaphbiaimoaaGreatDoor.Tryz
section
open Go.RowKit
set_option linter.unusedVariables false
set_option linter.unusedSimpArgs false
theorem PW2.drew{w:World}{r1 r2:List Value}{W:World}(h:PW2 w r1 r2 W):PW2 w r1 r2 W.drew:=⟨h.1,h.2.1,h.2.2.drew⟩
theorem oQ{p:Prop}(h:p):Hid p:=h
theorem UAt.under{W W':World}{B m:Nat}{vs:List Value}(h:UAt W B vs)(hb:Below m W W')(hB:B<m):UAt W' B vs:=
 have hs:=hb.block B hB
 ⟨fun j v hv=>(World.cell?_of_block (w:=W) (a:=⟨B,j,none⟩) hs).trans (h.1 j v hv),fun j=>(World.frozen?_of_block (w:=W) (a:=⟨B,j,none⟩) hs).trans (h.2.1 j),Nat.lt_of_lt_of_le h.2.2 hb.size⟩
theorem PW2.under{w:World}{r1 r2:List Value}{W W':World}(h:PW2 w r1 r2 W)(hb:Below (w.heap.size+2) W W'):PW2 w r1 r2 W':=⟨h.1.under hb om,h.2.1.under hb om,h.2.2.trans (hb.mono om)⟩
theorem mQ{w:World}{base base':Nat}{e:TypeId}{size n:Nat}{v:Value}{xs:List Value}(h:w.ownsRow base e size v n xs)(hb:base'<=base):w.ownsRow base' e size v n xs:=by
 refine ⟨h.1,?_⟩
 rcases h.2 with h|⟨g,cap,cur,h1,h2,h3⟩
 .exact .inl h
 exact .inr ⟨g,cap,cur,h1,Nat.le_trans hb h2,h3⟩
theorem FV(l:List ByteArray)(b:ByteArray):aM (l++[b])=aM l++ #[Value.string b].toList:=by simp[aM]
theorem NO(ad:Nat->Addr)(s k n p:Int)(nm a r:ByteArray)(q:Bool)(x0 x1 x2 x3 x4 x5 x6 x7:Int)(s' k' n' p':Int)(nm' a' r':ByteArray)(q':Bool)(y0 y1 y2 y3 y4 y5 y6 y7:Int)(w:World)
  (hs:nm.size<=1048576) (ha:a.size<=1048576) (hr:r.size<=1048576) (hs':nm'.size<=1048576) (ha':a'.size<=1048576) (hr':r'.size<=1048576) (hT:nS ad w)
  (hb:uOk ⟨s,⟨k,nm,n,[x0,x1,x2,x3,x4,x5,x6,x7]⟩,p,a,q,r⟩=true) (hu:uOk ⟨s',⟨k',nm',n',[y0,y1,y2,y3,y4,y5,y6,y7]⟩,p',a',q',r'⟩=true):Calls prog 71 #[Y (aC s k nm n x0 x1 x2 x3 x4 x5 x6 x7 p a q r).toArray,Y (aC s' k' nm' n' y0 y1 y2 y3 y4 y5 y6 y7 p' a' q' r').toArray] w fun e w'=> ∃v,e=J v/\
   w'.ownsRow w.heap.size 9 1 v (lT ⟨s,⟨k,nm,n,[x0,x1,x2,x3,x4,x5,x6,x7]⟩,p,a,q,r⟩ ⟨s',⟨k',nm',n',[y0,y1,y2,y3,y4,y5,y6,y7]⟩,p',a',q',r'⟩).length (aM (lT ⟨s,⟨k,nm,n,[x0,x1,x2,x3,x4,x5,x6,x7]⟩,p,a,q,r⟩ ⟨s',⟨k',nm',n',[y0,y1,y2,y3,y4,y5,y6,y7]⟩,p',a',q',r'⟩))/\Below w.heap.size w w':=by
 obtain ⟨O,hO⟩: ∃O,O=(w.alloc (.cells (aC s k nm n x0 x1 x2 x3 x4 x5 x6 x7 p a q r).toArray 28)).alloc (.cells (aC s' k' nm' n' y0 y1 y2 y3 y4 y5 y6 y7 p' a' q' r').toArray 28):=⟨_,rfl⟩;have HU:Hid (PW2 w (aC s k nm n x0 x1 x2 x3 x4 x5 x6 x7 p a q r) (aC s' k' nm' n' y0 y1 y2 y3 y4 y5 y6 y7 p' a' q' r') O):=by
  rw[hO];exact PW2.new w _ _ _ _
 have HTA:Hid (∀W,Below w.heap.size w W->nS ad W):=fun W hb=>hT.later hb
 have CT:Hid (∀W,Below w.heap.size w W->CB 12 #[Y (aC s' k' nm' n' y0 y1 y2 y3 y4 y5 y6 y7 p' a' q' r').toArray] W (I (bA (uTx ⟨s',⟨k',nm',n',[y0,y1,y2,y3,y4,y5,y6,y7]⟩,p',a',q',r'⟩)))):=fun W hW=>by
  have hT:=HTA.out W hW;exact lI s' k' n' p' nm' a' r' q' y0 y1 y2 y3 y4 y5 y6 y7 W hs' om om hT.1 hT.2.1 hT.2.2.1 hT.2.2.2.2.1
 have CG1:Hid (∀W,Below w.heap.size w W->CB 15 #[Y (aC s' k' nm' n' y0 y1 y2 y3 y4 y5 y6 y7 p' a' q' r').toArray] W (I (bA (fF ⟨s',⟨k',nm',n',[y0,y1,y2,y3,y4,y5,y6,y7]⟩,p',a',q',r'⟩)))):=fun W hW=>by
  have hT:=HTA.out W hW
  have:=gV s' k' n' p' nm' a' r' q' y0 y1 y2 y3 y4 y5 y6 y7 W hs' om om hT.1 hT.2.1 hT.2.2.1 hT.2.2.2.2.1
  rw[if_pos hu]at this;exact this
 have CG2:Hid (∀W,Below w.heap.size w W->CB 15 #[Y (aC s k nm n x0 x1 x2 x3 x4 x5 x6 x7 p a q r).toArray] W (I (bA (fF ⟨s,⟨k,nm,n,[x0,x1,x2,x3,x4,x5,x6,x7]⟩,p,a,q,r⟩)))):=fun W hW=>by
  have hT:=HTA.out W hW
  have:=gV s k n p nm a r q x0 x1 x2 x3 x4 x5 x6 x7 W hs om om hT.1 hT.2.1 hT.2.2.1 hT.2.2.2.2.1
  rw[if_pos hb]at this;exact this
 have CQ:Hid (∀W,Below w.heap.size w W->CB 16 #[Y (aC s' k' nm' n' y0 y1 y2 y3 y4 y5 y6 y7 p' a' q' r').toArray] W (I (bA (dD ⟨s',⟨k',nm',n',[y0,y1,y2,y3,y4,y5,y6,y7]⟩,p',a',q',r'⟩)))):=fun W hW=>by
  have hT:=HTA.out W hW
  have:=tY s' k' n' p' nm' a' r' q' y0 y1 y2 y3 y4 y5 y6 y7 W hs' om om hT.1 hT.2.1 hT.2.2.1 hT.2.2.2.2.1
  rw[if_pos hu]at this;exact this
 have CS:Hid (∀W,CS 32 #[.int .i64 s'] W (I (qU s'))):=fun W=>jL s' W
 have CP:Hid (∀W,Calls prog 45 #[I (bA (uTx ⟨s',⟨k',nm',n',[y0,y1,y2,y3,y4,y5,y6,y7]⟩,p',a',q',r'⟩)),I (qU s')] W fun e w'=>e=J (I (bA (Lib.trimPrefix (uTx ⟨s',⟨k',nm',n',[y0,y1,y2,y3,y4,y5,y6,y7]⟩,p',a',q',r'⟩) (iX s'))))/\W=w'):=fun W=>by
  refine (strings_TrimPrefix _ _ W).mono fun e w' h=>⟨?_,h.2.symm⟩
  rw[h.1,ZE (eL hu).1];rfl
 have CH:Hid (∀W,Calls prog 83 #[I a',I ⟨#[47,47]⟩] W fun e w'=>e=J (.bool (Lib.hasPrefix (toL a') [47,47]))/\W=w'):=fun W=>
  (strings_HasPrefix a' ⟨#[47,47]⟩ W).mono fun e w' h=>⟨by rw[h.1];rfl,h.2.symm⟩
 have HTL:Hid (lT ⟨s,⟨k,nm,n,[x0,x1,x2,x3,x4,x5,x6,x7]⟩,p,a,q,r⟩ ⟨s',⟨k',nm',n',[y0,y1,y2,y3,y4,y5,y6,y7]⟩,p',a',q',r'⟩=bA (uTx ⟨s',⟨k',nm',n',[y0,y1,y2,y3,y4,y5,y6,y7]⟩,p',a',q',r'⟩)::((if s'=s then [bA (Lib.trimPrefix (uTx ⟨s',⟨k',nm',n',[y0,y1,y2,y3,y4,y5,y6,y7]⟩,p',a',q',r'⟩) (iX s'))]else [])++
   (if bA (fF ⟨s',⟨k',nm',n',[y0,y1,y2,y3,y4,y5,y6,y7]⟩,p',a',q',r'⟩)=bA (fF ⟨s,⟨k,nm,n,[x0,x1,x2,x3,x4,x5,x6,x7]⟩,p,a,q,r⟩)/\Lib.hasPrefix (toL a') [47,47]=false then [bA (dD ⟨s',⟨k',nm',n',[y0,y1,y2,y3,y4,y5,y6,y7]⟩,p',a',q',r'⟩)]else []))):=by
  show _=_;unfold lT KQ TC;have e:(fF ⟨s',⟨k',nm',n',[y0,y1,y2,y3,y4,y5,y6,y7]⟩,p',a',q',r'⟩=fF ⟨s,⟨k,nm,n,[x0,x1,x2,x3,x4,x5,x6,x7]⟩,p,a,q,r⟩)=(bA (fF ⟨s',⟨k',nm',n',[y0,y1,y2,y3,y4,y5,y6,y7]⟩,p',a',q',r'⟩)=bA (fF ⟨s,⟨k,nm,n,[x0,x1,x2,x3,x4,x5,x6,x7]⟩,p,a,q,r⟩)):=propext ⟨fun h=>by rw[h],fun h=>by
   have:=congrArg (fun z:ByteArray=>z.data.toList) h
   exact this⟩
  simp only[e]
 generalize lT ⟨s,⟨k,nm,n,[x0,x1,x2,x3,x4,x5,x6,x7]⟩,p,a,q,r⟩ ⟨s',⟨k',nm',n',[y0,y1,y2,y3,y4,y5,y6,y7]⟩,p',a',q',r'⟩=TL at HTL⊢;generalize bA (uTx ⟨s',⟨k',nm',n',[y0,y1,y2,y3,y4,y5,y6,y7]⟩,p',a',q',r'⟩)=T at CT CP HTL;generalize bA (Lib.trimPrefix (uTx ⟨s',⟨k',nm',n',[y0,y1,y2,y3,y4,y5,y6,y7]⟩,p',a',q',r'⟩) (iX s'))=TP at CP HTL;generalize bA (fF ⟨s',⟨k',nm',n',[y0,y1,y2,y3,y4,y5,y6,y7]⟩,p',a',q',r'⟩)=OU at CG1 HTL;generalize bA (fF ⟨s,⟨k,nm,n,[x0,x1,x2,x3,x4,x5,x6,x7]⟩,p,a,q,r⟩)=OB at CG2 HTL;generalize bA (dD ⟨s',⟨k',nm',n',[y0,y1,y2,y3,y4,y5,y6,y7]⟩,p',a',q',r'⟩)=PT at CQ HTL;generalize Lib.hasPrefix (toL a') [47,47]=HB at CH HTL;generalize qU s'=SB at CS CP;clear hT hb hu HTA hs ha hr hs' ha' hr';go_enter func71,ntmps71
 go_upto_region 1 with fail
 rw[<-hO];clear hO;go_wp2_with (first|(refine bU HU.out.1 rfl rfl _ rfl rfl ?_)|(refine bU HU.out.2.1 rfl rfl _ rfl rfl ?_));refine (CT.out _ HU.out.2.2).mono ?_;rintro e w1 ⟨rfl,b1⟩;have HU1:Hid (PW2 w (aC s k nm n x0 x1 x2 x3 x4 x5 x6 x7 p a q r) (aC s' k' nm' n' y0 y1 y2 y3 y4 y5 y6 y7 p' a' q' r') w1):=HU.out.later b1;have ba:=(zp w1.heap.size w1).alloc (Nat.le_refl _) (L #[I T] 9);have HU2:Hid (PW2 w (aC s k nm n x0 x1 x2 x3 x4 x5 x6 x7 p a q r) (aC s' k' nm' n' y0 y1 y2 y3 y4 y5 y6 y7 p' a' q' r') (w1.alloc (L #[I T] 9))):=HU1.out.later ba;have hw1:w.heap.size+2<=w1.heap.size:=HU1.out.2.1.2.2;have OW:Hid ((w1.alloc (L #[I T] 9)).ownsRow (w.heap.size+2) 9 1 (.slice (some ⟨w1.heap.size,0,none⟩) 1 1) 1 (aM [T])):=World.ownsRow_lit w1 #[I T] 1 hw1 de rfl;clear b1 HU CT ba HU1
 go_upto_region 3 with fail
 generalize w1.alloc (L #[I T] 9)=w2 at HU2 OW⊢;generalize w1.heap.size=G1 at OW hw1⊢;have hw2:w.heap.size+2<=w2.heap.size:=HU2.out.2.1.2.2;have c1:=HU2.out.2.1.1 0 _ rfl;have c0:=HU2.out.1.1 0 _ rfl;clear hw1
 by_cases hS:s'=s
 .have hq:(s'==s)=true:=beq_iff_eq.2 hS
  have HT2:Hid (TL=[T,TP]++(if OU=OB/\HB=false then [PT]else [])):=by
   show _=_;rw[HTL.out,if_pos hS];rfl
  clear hS HTL;go_wp2_with fail;refine (CS.out _).mono ?_;rintro e wz ⟨rfl,rfl⟩;go_wp2_with fail;refine j3 CP ?_;clear c1 c0;go_wp2_with (at_builtin;refine aB w2 rfl _ _ 86 rfl (w.heap.size+2) 9 (I ⟨#[]⟩) 16 underlying86 infoStr rfl (.slice (some ⟨G1,0,none⟩) 1 1) 1 (aM [T]) rfl OW.out #[I TP] 1 rfl rfl (gO _) om (by unfold maxLen;omega) hw2 ?_;intro v3 w3 own3 b3);have HU3:Hid (PW2 w (aC s k nm n x0 x1 x2 x3 x4 x5 x6 x7 p a q r) (aC s' k' nm' n' y0 y1 y2 y3 y4 y5 y6 y7 p' a' q' r') w3):=HU2.out.under b3;have O3:Hid (w3.ownsRow (w.heap.size+2) 9 1 v3 [T,TP].length (aM [T,TP])):=own3;clear own3 b3 HU2 OW hw2;refine wp_region_held_drew (S:=fun W=>PW2 w (aC s k nm n x0 x1 x2 x3 x4 x5 x6 x7 p a q r) (aC s' k' nm' n' y0 y1 y2 y3 y4 y5 y6 y7 p' a' q' r') W) kr HU3.out.drew (fun h0=> ?_);refine wpAnyH_take (i:=0) (v:=Y (aC s' k' nm' n' y0 y1 y2 y3 y4 y5 y6 y7 p' a' q' r').toArray) rfl kr kr kr (fun _ _ _ h=>h) (yieldsIf_load_mid (by rfl) _ _ rfl (w.heap.size+1) 0 rfl (aC s' k' nm' n' y0 y1 y2 y3 y4 y5 y6 y7 p' a' q' r') _ (fun W hW=>hW.2.1.range 0 _ (fun j v hv=>by rw[zn];exact hv)) underlying28 rfl infoUrl) h0 ?_;simp only[zh,ze,zc,zd,za,zf,zg];refine wpAnyH_take (i:=2) (v:=Y (aC s k nm n x0 x1 x2 x3 x4 x5 x6 x7 p a q r).toArray) rfl kr kr kr (fun _ _ _ h=>h) (yieldsIf_load_mid (by rfl) _ _ rfl w.heap.size 0 rfl (aC s k nm n x0 x1 x2 x3 x4 x5 x6 x7 p a q r) _ (fun W hW=>hW.1.range 0 _ (fun j v hv=>by rw[zn];exact hv)) underlying28 rfl infoUrl) h0 ?_;simp only[zh,ze,zc,zd,za,zf,zg];refine wpAnyH_ready (rs:=[1]) kr j2 (zi rfl (fun K hK=> ?_) zj);go_simp;go_wp2_with (go_at_call 15;refine (CG1.out _ HU3.out.2.2.drew).mono ?_;rintro e w4 ⟨rfl,b4⟩);have HU4:=HU3.out.drew.later b4;have O4:=aH (show w3.drew.ownsRow (w.heap.size+2) 9 1 v3 [T,TP].length (aM [T,TP]) from O3.out) b4;refine hK.out _ _ HU4 (fun h1=> ?_);clear hK K h1 b4;refine wpAnyH_ready (rs:=[3]) kr j2 (zi rfl (fun K hK=> ?_) zj);go_simp;go_wp2_with (go_at_call 15;refine (CG2.out _ HU4.2.2).mono ?_;rintro e w5 ⟨rfl,b5⟩);have HU5:=oQ (HU4.later b5);have O5:=oQ (aH O4 b5);refine hK.out _ _ HU5.out (fun h1=> ?_);clear hK K h1 b5 HU4 O4 h0 O3 HU3;have h0:=HU5.out
  by_cases hE:OU=OB
  .have hst:=xU hE
   refine wpAnyH_take (i:=4) (v:= ?_) rfl kr kr kr (fun _ _ _ h=>h) (Or.inl ⟨by rfl,fun W hW=> ?_⟩) h0 ?_;rotate_left
   .go_simp
    try with_reducible rfl
   simp only[zh,ze,zc,zd,za,zf,zg];refine wpAnyH_take (i:=5) (v:= ?_) rfl kr kr kr (fun _ _ _ h=>h) (Or.inl ⟨by rfl,fun W hW=> ?_⟩) h0 ?_;rotate_left
   .go_simp
    try with_reducible rfl
   simp only[zh,ze,zc,zd,za,zf,zg];refine wpAnyH_take (i:=6) (v:= ?_) rfl kr kr kr (fun _ _ _ h=>h) (Or.inl ⟨by rfl,fun W hW=> ?_⟩) h0 ?_;rotate_left
   .go_simp
    try with_reducible rfl
   simp only[zh,ze,zc,zd,za,zf,zg];refine wpAnyH_take (i:=7) (v:= ?_) rfl kr kr kr (fun _ _ _ h=>h) (Or.inl ⟨by rfl,fun W hW=> ?_⟩) h0 ?_;rotate_left
   .have q13:=hW.2.1.1 13 _ rfl
    go_simp
    try with_reducible rfl
   simp only[zh,ze,zc,zd,za,zf,zg];refine wpAnyH_ready (rs:=[8]) kr j2 (zi rfl (fun K hK=> ?_) zj);go_simp;go_wp2_with (go_at_call 83;refine j3 CH ?_);refine hK.out _ _ HU5.out (fun h1=> ?_);clear hK K h1;refine wpAnyH_take (i:=9) (v:= ?_) rfl kr kr kr (fun _ _ _ h=>h) (Or.inl ⟨by rfl,fun W hW=> ?_⟩) h0 ?_;rotate_left
   .go_simp
    try with_reducible rfl
   simp only[zh,ze,zc,zd,za,zf,zg];refine wpAnyH_take (i:=10) (v:= ?_) rfl kr kr kr (fun _ _ _ h=>h) (Or.inl ⟨by rfl,fun W hW=> ?_⟩) h0 ?_;rotate_left
   .go_simp
    try with_reducible rfl
   simp only[zh,ze,zc,zd,za,zf,zg];refine wpAnyH_done kr ?_ _;clear hst h0
   cases HB with
   |true=>
    have HE:Hid (TL=[T,TP]):=by
     show _=_;rw[HT2.out,if_neg j2];rfl
    clear HT2;go_wp2_with fail;go_ret;rw[HE.out];exact ⟨_,rfl,mQ O5.out om,HU5.out.2.2⟩
   |false=>
    have HE:Hid (TL=[T,TP]++[PT]):=by
     show _=_;rw[HT2.out,if_pos ⟨hE,rfl⟩]
    clear HT2 hE;go_wp2_with (first|(refine bU HU5.out.1 rfl rfl _ rfl rfl ?_)|(refine bU HU5.out.2.1 rfl rfl _ rfl rfl ?_));refine (CQ.out _ HU5.out.2.2).mono ?_;rintro e w6 ⟨rfl,b6⟩;have HU6:=oQ (HU5.out.later b6);have O6:=oQ (aH O5.out b6);have hw6:w.heap.size+2<=w6.heap.size:=HU6.out.2.1.2.2;clear b6 HU5 O5;go_wp2_with (at_builtin;refine aB w6 rfl _ _ 86 rfl (w.heap.size+2) 9 (I ⟨#[]⟩) 16 underlying86 infoStr rfl v3 [T,TP].length (aM [T,TP]) rfl O6.out #[I PT] 1 rfl rfl (gO _) j2 (by unfold maxLen;simp) hw6 ?_;intro v7 w7 own7 b7);have HU7:=HU6.out.under b7;have O7:w7.ownsRow (w.heap.size+2) 9 1 v7 ([T,TP]++[PT]).length (aM ([T,TP]++[PT])):=by
     rw[FV,zk];exact own7
    go_ret;rw[HE.out];exact ⟨_,rfl,mQ O7 om,HU7.2.2⟩
  have hst:=mZ hE;refine wpAnyH_take (i:=4) (v:= ?_) rfl kr kr kr (fun _ _ _ h=>h) (Or.inl ⟨by rfl,fun W hW=> ?_⟩) h0 ?_;rotate_left
  .go_simp
   try with_reducible rfl
  simp only[zh,ze,zc,zd,za,zf,zg];refine wpAnyH_take (i:=5) (v:= ?_) rfl kr kr kr (fun _ _ _ h=>h) (Or.inl ⟨by rfl,fun W hW=> ?_⟩) h0 ?_;rotate_left
  .go_simp
   try with_reducible rfl
  simp only[zh,ze,zc,zd,za,zf,zg];refine wpAnyH_take (i:=6) (v:=undef) rfl kr kr kr (fun _ _ _ h=>h) (Or.inr ⟨by rfl,rfl⟩) h0 ?_;simp only[zh,ze,zc,zd,za,zf,zg];refine wpAnyH_take (i:=7) (v:=undef) rfl kr kr kr (fun _ _ _ h=>h) (Or.inr ⟨by rfl,rfl⟩) h0 ?_;simp only[zh,ze,zc,zd,za,zf,zg];refine wpAnyH_take (i:=8) (v:=undef) rfl kr kr kr (fun _ _ _ h=>h) (Or.inr ⟨by rfl,rfl⟩) h0 ?_;simp only[zh,ze,zc,zd,za,zf,zg];refine wpAnyH_take (i:=9) (v:=undef) rfl kr kr kr (fun _ _ _ h=>h) (Or.inr ⟨by rfl,rfl⟩) h0 ?_;simp only[zh,ze,zc,zd,za,zf,zg];refine wpAnyH_take (i:=10) (v:= ?_) rfl kr kr kr (fun _ _ _ h=>h) (Or.inl ⟨by rfl,fun W hW=> ?_⟩) h0 ?_;rotate_left
  .go_simp
   try with_reducible rfl
  simp only[zh,ze,zc,zd,za,zf,zg];refine wpAnyH_done kr ?_ _;have HE:Hid (TL=[T,TP]):=by
   show _=_;rw[HT2.out,if_neg (fun h=>hE h.1)];rfl
  clear HT2 hst h0 hE;go_wp2_with fail;go_ret;rw[HE.out];exact ⟨_,rfl,mQ O5.out om,HU5.out.2.2⟩
 have hq:(s'==s)=false:=beq_eq_false_iff_ne.2 hS;have HT2:Hid (TL=[T]++(if OU=OB/\HB=false then [PT]else [])):=by
  show _=_;rw[HTL.out,if_neg hS];rfl
 clear hS HTL;go_wp2_with fail;have O3:Hid (w2.ownsRow (w.heap.size+2) 9 1 (.slice (some ⟨G1,0,none⟩) 1 1) [T].length (aM [T])):=OW.out;have HU3:Hid (PW2 w (aC s k nm n x0 x1 x2 x3 x4 x5 x6 x7 p a q r) (aC s' k' nm' n' y0 y1 y2 y3 y4 y5 y6 y7 p' a' q' r') w2):=HU2.out;clear HU2 OW hw2 c0 c1;generalize (Value.slice (some ⟨G1,0,none⟩) 1 1)=v3 at O3⊢;generalize w2=w3 at O3 HU3⊢;refine wp_region_held_drew (S:=fun W=>PW2 w (aC s k nm n x0 x1 x2 x3 x4 x5 x6 x7 p a q r) (aC s' k' nm' n' y0 y1 y2 y3 y4 y5 y6 y7 p' a' q' r') W) kr HU3.out.drew (fun h0=> ?_);refine wpAnyH_take (i:=0) (v:=Y (aC s' k' nm' n' y0 y1 y2 y3 y4 y5 y6 y7 p' a' q' r').toArray) rfl kr kr kr (fun _ _ _ h=>h) (yieldsIf_load_mid (by rfl) _ _ rfl (w.heap.size+1) 0 rfl (aC s' k' nm' n' y0 y1 y2 y3 y4 y5 y6 y7 p' a' q' r') _ (fun W hW=>hW.2.1.range 0 _ (fun j v hv=>by rw[zn];exact hv)) underlying28 rfl infoUrl) h0 ?_;simp only[zh,ze,zc,zd,za,zf,zg];refine wpAnyH_take (i:=2) (v:=Y (aC s k nm n x0 x1 x2 x3 x4 x5 x6 x7 p a q r).toArray) rfl kr kr kr (fun _ _ _ h=>h) (yieldsIf_load_mid (by rfl) _ _ rfl w.heap.size 0 rfl (aC s k nm n x0 x1 x2 x3 x4 x5 x6 x7 p a q r) _ (fun W hW=>hW.1.range 0 _ (fun j v hv=>by rw[zn];exact hv)) underlying28 rfl infoUrl) h0 ?_;simp only[zh,ze,zc,zd,za,zf,zg];refine wpAnyH_ready (rs:=[1]) kr j2 (zi rfl (fun K hK=> ?_) zj);go_simp;go_wp2_with (go_at_call 15;refine (CG1.out _ HU3.out.2.2.drew).mono ?_;rintro e w4 ⟨rfl,b4⟩);have HU4:=HU3.out.drew.later b4;have O4:=aH (show w3.drew.ownsRow (w.heap.size+2) 9 1 v3 [T].length (aM [T]) from O3.out) b4;refine hK.out _ _ HU4 (fun h1=> ?_);clear hK K h1 b4;refine wpAnyH_ready (rs:=[3]) kr j2 (zi rfl (fun K hK=> ?_) zj);go_simp;go_wp2_with (go_at_call 15;refine (CG2.out _ HU4.2.2).mono ?_;rintro e w5 ⟨rfl,b5⟩);have HU5:=oQ (HU4.later b5);have O5:=oQ (aH O4 b5);refine hK.out _ _ HU5.out (fun h1=> ?_);clear hK K h1 b5 HU4 O4 h0 O3 HU3;have h0:=HU5.out
 by_cases hE:OU=OB
 .have hst:=xU hE
  refine wpAnyH_take (i:=4) (v:= ?_) rfl kr kr kr (fun _ _ _ h=>h) (Or.inl ⟨by rfl,fun W hW=> ?_⟩) h0 ?_;rotate_left
  .go_simp
   try with_reducible rfl
  simp only[zh,ze,zc,zd,za,zf,zg];refine wpAnyH_take (i:=5) (v:= ?_) rfl kr kr kr (fun _ _ _ h=>h) (Or.inl ⟨by rfl,fun W hW=> ?_⟩) h0 ?_;rotate_left
  .go_simp
   try with_reducible rfl
  simp only[zh,ze,zc,zd,za,zf,zg];refine wpAnyH_take (i:=6) (v:= ?_) rfl kr kr kr (fun _ _ _ h=>h) (Or.inl ⟨by rfl,fun W hW=> ?_⟩) h0 ?_;rotate_left
  .go_simp
   try with_reducible rfl
  simp only[zh,ze,zc,zd,za,zf,zg];refine wpAnyH_take (i:=7) (v:= ?_) rfl kr kr kr (fun _ _ _ h=>h) (Or.inl ⟨by rfl,fun W hW=> ?_⟩) h0 ?_;rotate_left
  .have q13:=hW.2.1.1 13 _ rfl
   go_simp
   try with_reducible rfl
  simp only[zh,ze,zc,zd,za,zf,zg];refine wpAnyH_ready (rs:=[8]) kr j2 (zi rfl (fun K hK=> ?_) zj);go_simp;go_wp2_with (go_at_call 83;refine j3 CH ?_);refine hK.out _ _ HU5.out (fun h1=> ?_);clear hK K h1;refine wpAnyH_take (i:=9) (v:= ?_) rfl kr kr kr (fun _ _ _ h=>h) (Or.inl ⟨by rfl,fun W hW=> ?_⟩) h0 ?_;rotate_left
  .go_simp
   try with_reducible rfl
  simp only[zh,ze,zc,zd,za,zf,zg];refine wpAnyH_take (i:=10) (v:= ?_) rfl kr kr kr (fun _ _ _ h=>h) (Or.inl ⟨by rfl,fun W hW=> ?_⟩) h0 ?_;rotate_left
  .go_simp
   try with_reducible rfl
  simp only[zh,ze,zc,zd,za,zf,zg];refine wpAnyH_done kr ?_ _;clear hst h0
  cases HB with
  |true=>
   have HE:Hid (TL=[T]):=by
    show _=_;rw[HT2.out,if_neg j2];rfl
   clear HT2;go_wp2_with fail;go_ret;rw[HE.out];exact ⟨_,rfl,mQ O5.out om,HU5.out.2.2⟩
  |false=>
   have HE:Hid (TL=[T]++[PT]):=by
    show _=_;rw[HT2.out,if_pos ⟨hE,rfl⟩]
   clear HT2 hE;go_wp2_with (first|(refine bU HU5.out.1 rfl rfl _ rfl rfl ?_)|(refine bU HU5.out.2.1 rfl rfl _ rfl rfl ?_));refine (CQ.out _ HU5.out.2.2).mono ?_;rintro e w6 ⟨rfl,b6⟩;have HU6:=oQ (HU5.out.later b6);have O6:=oQ (aH O5.out b6);have hw6:w.heap.size+2<=w6.heap.size:=HU6.out.2.1.2.2;clear b6 HU5 O5;go_wp2_with (at_builtin;refine aB w6 rfl _ _ 86 rfl (w.heap.size+2) 9 (I ⟨#[]⟩) 16 underlying86 infoStr rfl v3 [T].length (aM [T]) rfl O6.out #[I PT] 1 rfl rfl (gO _) j2 (by unfold maxLen;simp) hw6 ?_;intro v7 w7 own7 b7);have HU7:=HU6.out.under b7;have O7:w7.ownsRow (w.heap.size+2) 9 1 v7 ([T]++[PT]).length (aM ([T]++[PT])):=by
    rw[FV,zk];exact own7
   go_ret;rw[HE.out];exact ⟨_,rfl,mQ O7 om,HU7.2.2⟩
 have hst:=mZ hE;refine wpAnyH_take (i:=4) (v:= ?_) rfl kr kr kr (fun _ _ _ h=>h) (Or.inl ⟨by rfl,fun W hW=> ?_⟩) h0 ?_;rotate_left
 .go_simp
  try with_reducible rfl
 simp only[zh,ze,zc,zd,za,zf,zg];refine wpAnyH_take (i:=5) (v:= ?_) rfl kr kr kr (fun _ _ _ h=>h) (Or.inl ⟨by rfl,fun W hW=> ?_⟩) h0 ?_;rotate_left
 .go_simp
  try with_reducible rfl
 simp only[zh,ze,zc,zd,za,zf,zg];refine wpAnyH_take (i:=6) (v:=undef) rfl kr kr kr (fun _ _ _ h=>h) (Or.inr ⟨by rfl,rfl⟩) h0 ?_;simp only[zh,ze,zc,zd,za,zf,zg];refine wpAnyH_take (i:=7) (v:=undef) rfl kr kr kr (fun _ _ _ h=>h) (Or.inr ⟨by rfl,rfl⟩) h0 ?_;simp only[zh,ze,zc,zd,za,zf,zg];refine wpAnyH_take (i:=8) (v:=undef) rfl kr kr kr (fun _ _ _ h=>h) (Or.inr ⟨by rfl,rfl⟩) h0 ?_;simp only[zh,ze,zc,zd,za,zf,zg];refine wpAnyH_take (i:=9) (v:=undef) rfl kr kr kr (fun _ _ _ h=>h) (Or.inr ⟨by rfl,rfl⟩) h0 ?_;simp only[zh,ze,zc,zd,za,zf,zg];refine wpAnyH_take (i:=10) (v:= ?_) rfl kr kr kr (fun _ _ _ h=>h) (Or.inl ⟨by rfl,fun W hW=> ?_⟩) h0 ?_;rotate_left
 .go_simp
  try with_reducible rfl
 simp only[zh,ze,zc,zd,za,zf,zg];refine wpAnyH_done kr ?_ _;have HE:Hid (TL=[T]):=by
  show _=_;rw[HT2.out,if_neg (fun h=>hE h.1)];rfl
 clear HT2 hst h0 hE;go_wp2_with fail;go_ret;rw[HE.out];exact ⟨_,rfl,mQ O5.out om,HU5.out.2.2⟩
end
section
open Go.RowKit
theorem fG{p:Prop}(h:p):Hid p:=h
theorem Ca(ok:ByteArray->Bool){ts:List ByteArray}{k:Nat}(h:k<ts.length):(ts.take (k+1)).foldl (tE ok) ⟨#[]⟩=tE ok ((ts.take k).foldl (tE ok) ⟨#[]⟩) (ts.getD k zo):=by
 rw[List.take_succ_eq_append_getElem h,List.foldl_append,List.foldl_cons,List.foldl_nil,zl,zm h];rfl
theorem NP(R1 R2:List Value)(h1:R1.length=16)(h2:R2.length=16)(ts:List ByteArray)(ok:ByteArray->Bool)(w:World)(hpos:0<ts.length)(hlen:ts.length<=3)(hsz: ∀t∈ts,t.size<=1099511627776)
  (hT: ∀W,Below w.heap.size w W->Calls prog 71 #[Y R1.toArray,Y R2.toArray] W fun e w'=> ∃v,e=J v/\w'.ownsRow W.heap.size 9 1 v ts.length (aM ts)/\Below W.heap.size W w')
  (hB: ∀t∈ts,∀W,Below w.heap.size w W->Calls prog 72 #[Y R1.toArray,Y R2.toArray,I t] W fun e w'=>e=J (.bool (ok t))/\Below W.heap.size W w'):Calls prog 25 #[Y R1.toArray,Y R2.toArray] w fun e w'=>e=J (I (zA ok ts))/\Below w.heap.size w w':=by
 have HT:=fG hT;have HB:=fG hB;have HSZ:=fG hsz;clear hT hB hsz;obtain ⟨O,hO⟩: ∃O,O=(w.alloc (.cells R1.toArray 28)).alloc (.cells R2.toArray 28):=⟨_,rfl⟩;have HU:Hid (PW2 w R1 R2 O):=by
  rw[hO];exact PW2.new w _ _ _ _
 go_enter func25,ntmps25
 go_upto_region 1 with fail
 rw[<-hO];clear hO;go_wp2_with (first|(refine bU HU.out.1 h1 rfl _ rfl rfl ?_)|(refine bU HU.out.2.1 h2 rfl _ rfl rfl ?_));refine (HT.out _ HU.out.2.2).mono ?_;rintro e w1 ⟨v,rfl,hown,b1⟩;have HU1:Hid (PW2 w R1 R2 w1):=HU.out.later b1
 rcases aQ hown with ⟨h,_⟩|⟨_,g,cap,rfl⟩
 .omega
 have HOW:=fG hown;clear b1 hown HT HU;have hlt1:w.heap.size<=w1.heap.size:=HU1.out.2.2.size;go_wp2_with fail
 go_loopw[5,12] (fun m i wr=> ∃(k:Nat) (sh:ByteArray),k<=ts.length/\i=.int .i64 k/\m=I sh/\(ts.take k).foldl (tE ok) ⟨#[]⟩=sh/\Below w1.heap.size w1 wr)
  (fun _ i _=>ts.length-(intOf i).toNat)
 case atStart=>exact ⟨0,⟨#[]⟩,Nat.zero_le _,rfl,rfl,rfl,zp _ _⟩
 obtain ⟨k,sh,hk,rfl,rfl,hsh,hbel⟩:=hrel;have HSH:=fG hsh;clear hsh;have HUR:Hid (PW2 w R1 R2 wr):=HU1.out.later hbel
 by_cases hlt:k<ts.length
 .have hc:=bY (aH HOW.out hbel) k hlt
  have hst:=Ca ok hlt;rw[HSH.out]at hst;have hmem:ts.getD k zo∈ts:=by
   rw[zl,zm hlt];exact List.getElem_mem _
  have CB:=fG (HB.out _ hmem);have hys:=HSZ.out _ hmem;have HST:=fG hst;clear hst hmem;generalize ts.getD k zo=y at hc CB hys HST;have hkl:(k:Int)<ts.length:=om;go_wp2_with (first|(refine bU HUR.out.1 h1 rfl _ rfl rfl ?_)|(refine bU HUR.out.2.1 h2 rfl _ rfl rfl ?_));refine (CB.out _ HUR.out.2.2).mono ?_;rintro e wb ⟨rfl,bb⟩;have b2:Below w1.heap.size w1 wb:=hbel.trans (bb.mono hbel.size);clear hbel bb CB hc
  cases hok:ok y with
  |false=>
   have HN:Hid ((ts.take (k+1)).foldl (tE ok) ⟨#[]⟩=sh):=by
    show _=_;rw[HST.out,rB,if_neg (by rw[hok];simp)]
   clear HST hok;go_wp2_with fail;go_roundw
   case rel=>exact ⟨k+1,sh,om,rfl,rfl,HN.out,b2⟩
   case measure=>exact j1
  |true=>
   by_cases h0:sh.size=0
   .have HN:Hid ((ts.take (k+1)).foldl (tE ok) ⟨#[]⟩=y):=by
     show _=_;rw[HST.out,rB,if_pos ⟨hok,.inl h0⟩]
    have he:=aV h0;clear HST hok;go_wp2_with fail;go_roundw
    case rel=>exact ⟨k+1,y,om,rfl,rfl,HN.out,b2⟩
    case measure=>exact j1
   have he:=aX (show 0<sh.size by omega)
   by_cases hl:y.size<sh.size
   .have HN:Hid ((ts.take (k+1)).foldl (tE ok) ⟨#[]⟩=y):=by
     show _=_;rw[HST.out,rB,if_pos ⟨hok,.inr hl⟩]
    clear HST hok;have hli:(y.size:Int)<sh.size:=om;go_wp2_with fail;go_roundw
    case rel=>exact ⟨k+1,y,om,rfl,rfl,HN.out,b2⟩
    case measure=>exact j1
   have HN:Hid ((ts.take (k+1)).foldl (tE ok) ⟨#[]⟩=sh):=by
    show _=_;rw[HST.out,rB,if_neg (by rintro ⟨_,h|h⟩<;>omega)]
   clear HST hok;have hli: ¬(y.size:Int)<sh.size:=om;go_wp2_with fail;go_roundw
   case rel=>exact ⟨k+1,sh,om,rfl,rfl,HN.out,b2⟩
   case measure=>exact j1
 have hkl: ¬(k:Int)<ts.length:=om;have HE:Hid (sh=zA ok ts):=by
  show _=_;rw[<-HSH.out,show k=ts.length by omega,List.take_length];rfl
 clear HSH;have hb9:Below w.heap.size w wr:=HUR.out.2.2;go_wp2_with fail;go_ret;exact ⟨cA HE.out,hb9⟩
end
section
open Go.RowKit
set_option linter.unusedVariables false
def PB2(w:World)(V V2:Nat)(r1 r2:List Value)(W:World):Prop:=UAt W V r1/\UAt W V2 r2/\Below w.heap.size w W/\w.heap.size<=V/\V<V2
theorem PB2.later{w:World}{V V2:Nat}{r1 r2:List Value}{W W':World}(h:PB2 w V V2 r1 r2 W)(hb:Below W.heap.size W W'):PB2 w V V2 r1 r2 W':=⟨h.1.below hb,h.2.1.below hb,h.2.2.1.trans (hb.mono h.2.2.1.size),h.2.2.2⟩
theorem PB2.drew{w:World}{V V2:Nat}{r1 r2:List Value}{W:World}(h:PB2 w V V2 r1 r2 W):PB2 w V V2 r1 r2 W.drew:=⟨h.1,h.2.1,h.2.2.1.drew,h.2.2.2⟩
theorem PB2.alloc{w:World}{V V2:Nat}{r1 r2:List Value}{W:World}(h:PB2 w V V2 r1 r2 W)(o:Obj):PB2 w V V2 r1 r2 (W.alloc o):=h.later ((zp _ _).alloc (Nat.le_refl _) o)
theorem PB2.moved{w:World}{V V2 C:Nat}{r1 r2:List Value}{W W':World}(h:PB2 w V V2 r1 r2 W)(hC:V2<C)(hM:nN C W W'):PB2 w V V2 r1 r2 W':=by
 obtain ⟨h1,h2,h3,h4,h5⟩:=h;exact ⟨hM.1 _ _ om h1,hM.1 _ _ om h2,hM.2 _ _ om h3,h4,h5⟩
theorem FW(s k n p:Int)(nm a r:ByteArray)(q:Bool)(x0 x1 x2 x3 x4 x5 x6 x7:Int)(hs:nm.size<=1048576)(ha:a.size<=1048576)(hr:r.size<=1048576)(hu:uOk ⟨s,⟨k,nm,n,[x0,x1,x2,x3,x4,x5,x6,x7]⟩,p,a,q,r⟩=true):
  (uTx ⟨s,⟨k,nm,n,[x0,x1,x2,x3,x4,x5,x6,x7]⟩,p,a,q,r⟩).length<=4194304/\(dD ⟨s,⟨k,nm,n,[x0,x1,x2,x3,x4,x5,x6,x7]⟩,p,a,q,r⟩).length<=4194304/\(fF ⟨s,⟨k,nm,n,[x0,x1,x2,x3,x4,x5,x6,x7]⟩,p,a,q,r⟩).length<=4194304:=by
 have h1:(fF ⟨s,⟨k,nm,n,[x0,x1,x2,x3,x4,x5,x6,x7]⟩,p,a,q,r⟩).length<=1048600:=NA s p hs;have e1:(toL a).length=a.size:=by simp[toL]
 have e2:(toL r).length=r.size:=by simp[toL]
 have h2:(dD ⟨s,⟨k,nm,n,[x0,x1,x2,x3,x4,x5,x6,x7]⟩,p,a,q,r⟩).length<=2097153:=by
  unfold dD;split
  .rw[zk,List.length_cons]
   show (toL a).length+((toL r).length+1)<=_;omega
  show (toL a).length<=_;omega
 have:=pU hu
 omega
theorem ZG(s k n p:Int)(nm a r:ByteArray)(q:Bool)(x0 x1 x2 x3 x4 x5 x6 x7:Int)(hu:uOk ⟨s,⟨k,nm,n,[x0,x1,x2,x3,x4,x5,x6,x7]⟩,p,a,q,r⟩=true):kP (⟨k,nm,n,[x0,x1,x2,x3,x4,x5,x6,x7]⟩:HV):=Bh hu rfl
theorem GT(ad:Nat->Addr)(s k n p:Int)(nm a r:ByteArray)(q:Bool)(x0 x1 x2 x3 x4 x5 x6 x7:Int)(s' k' n' p':Int)(nm' a' r':ByteArray)(q':Bool)(y0 y1 y2 y3 y4 y5 y6 y7:Int)(w:World)
  (hs:nm.size<=1048576) (ha:a.size<=1048576) (hr:r.size<=1048576) (hs':nm'.size<=1048576) (ha':a'.size<=1048576) (hr':r'.size<=1048576) (hT:nS ad w)
  (hb:uOk ⟨s,⟨k,nm,n,[x0,x1,x2,x3,x4,x5,x6,x7]⟩,p,a,q,r⟩=true) (hu:uOk ⟨s',⟨k',nm',n',[y0,y1,y2,y3,y4,y5,y6,y7]⟩,p',a',q',r'⟩=true):
  ∃t:ByteArray,(t.size<=(uTx ⟨s',⟨k',nm',n',[y0,y1,y2,y3,y4,y5,y6,y7]⟩,p',a',q',r'⟩).length/\((uTx ⟨s',⟨k',nm',n',[y0,y1,y2,y3,y4,y5,y6,y7]⟩,p',a',q',r'⟩).length<=2000->gB ⟨s,⟨k,nm,n,[x0,x1,x2,x3,x4,x5,x6,x7]⟩,p,a,q,r⟩ t.data.toList=(0,⟨s',⟨k',nm',n',[y0,y1,y2,y3,y4,y5,y6,y7]⟩,p',a',q',r'⟩)/\
   (fF ⟨s,⟨k,nm,n,[x0,x1,x2,x3,x4,x5,x6,x7]⟩,p,a,q,r⟩=fF ⟨s',⟨k',nm',n',[y0,y1,y2,y3,y4,y5,y6,y7]⟩,p',a',q',r'⟩->(dD ⟨s',⟨k',nm',n',[y0,y1,y2,y3,y4,y5,y6,y7]⟩,p',a',q',r'⟩).getD 1 0≠47->t.size<=(dD ⟨s',⟨k',nm',n',[y0,y1,y2,y3,y4,y5,y6,y7]⟩,p',a',q',r'⟩).length)))/\
   Calls prog 25 #[Y (aC s k nm n x0 x1 x2 x3 x4 x5 x6 x7 p a q r).toArray,Y (aC s' k' nm' n' y0 y1 y2 y3 y4 y5 y6 y7 p' a' q' r').toArray] w fun e w'=>e=J (I t)/\Below w.heap.size w w':=by
 obtain ⟨ok,hok⟩: ∃ok:ByteArray->Bool,∀t,ok t=true↔gB ⟨s,⟨k,nm,n,[x0,x1,x2,x3,x4,x5,x6,x7]⟩,p,a,q,r⟩ t.data.toList=(0,⟨s',⟨k',nm',n',[y0,y1,y2,y3,y4,y5,y6,y7]⟩,p',a',q',r'⟩):=
  ⟨fun t=> @decide _ (Classical.propDecidable (gB ⟨s,⟨k,nm,n,[x0,x1,x2,x3,x4,x5,x6,x7]⟩,p,a,q,r⟩ t.data.toList=(0,⟨s',⟨k',nm',n',[y0,y1,y2,y3,y4,y5,y6,y7]⟩,p',a',q',r'⟩))),fun t=> @decide_eq_true_iff _ (Classical.propDecidable _)⟩
 have hsz:=KR (b:=⟨s,⟨k,nm,n,[x0,x1,x2,x3,x4,x5,x6,x7]⟩,p,a,q,r⟩) hu;have hbd:=(FW s' k' n' p' nm' a' r' q' y0 y1 y2 y3 y4 y5 y6 y7 hs' ha' hr' hu).1;refine ⟨zA ok (lT ⟨s,⟨k,nm,n,[x0,x1,x2,x3,x4,x5,x6,x7]⟩,p,a,q,r⟩ ⟨s',⟨k',nm',n',[y0,y1,y2,y3,y4,y5,y6,y7]⟩,p',a',q',r'⟩),Bo hb hu (ZG s k n p nm a r q x0 x1 x2 x3 x4 x5 x6 x7 hb) (ZG s' k' n' p' nm' a' r' q' y0 y1 y2 y3 y4 y5 y6 y7 hu) hok,?_⟩;refine NP _ _ rfl rfl _ ok w (TD _ _).1 (TD _ _).2 (fun t ht=>by have:=hsz t ht;omega) (fun W hW=> ?_) (fun t ht W hW=> ?_)
 .exact NO ad s k n p nm a r q x0 x1 x2 x3 x4 x5 x6 x7 s' k' n' p' nm' a' r' q' y0 y1 y2 y3 y4 y5 y6 y7 W hs ha hr hs' ha' hr' (hT.later hW) hb hu
 exact GS ad s k n p nm a r q x0 x1 x2 x3 x4 x5 x6 x7 s' k' n' p' nm' a' r' q' y0 y1 y2 y3 y4 y5 y6 y7 t (ok t) W hs ha hr (by have:=hsz t ht;omega) (hT.later hW) (hok t)
