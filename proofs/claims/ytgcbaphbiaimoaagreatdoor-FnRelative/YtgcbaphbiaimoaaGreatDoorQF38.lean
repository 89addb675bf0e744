/- Draw8Any, UrlHold, Draw9Two. -/
import Derived.Test.YtgcbaphbiaimoaaGreatDoorQF37
import Derived.Test.YtgcbaphbiaimoaaGreatDoorQF34
set_option maxHeartbeats 8000000
set_option maxRecDepth 100000
namespace Go.Proofs.YtgcbaphbiaimoaaGreatDoor
open Go.Value renaming int->I,string->L,bool->Z,pointer->H,agg->G
open Go.IntKind renaming i64->J
open Go.Obj renaming cells->Y
open _root_.Go.Act renaming put->zi
open _root_.Go.AllReadyH renaming cons->zl,nil->zn
open _root_.Go.RowKit.Below renaming refl->zj
open _root_.List renaming getElem_cons_succ->zd,getElem_cons_zero->zc,getElem_toArray->zf,setIfInBounds_toArray->za,set_cons_succ->zh,set_cons_zero->zg
open _root_.Nat renaming le_refl->ze,zero_add->zk
open _root_.Go.World renaming grownBy_alloc->zm
open _root_.Go.Proofs.Tryz
open _root_.Go.Proofs.YtgcbaphbiaimoaaGreatDoor.Tryz
section
open Go.RowKit
attribute [local go_sem↓] Go.wp_at_zero Go.wp_at_succ
end
section
open Go.RowKit
def PV(w:World)(V:Nat)(row:List Value)(W:World):Prop:=UAt W V row/\Below w.heap.size w W
theorem PV.later{w:World}{V:Nat}{row:List Value}{W W':World}(h:PV w V row W)(hb:Below W.heap.size W W'):PV w V row W':=⟨h.1.below hb,h.2.trans (hb.mono h.2.size)⟩
theorem PV.drew{w:World}{V:Nat}{row:List Value}{W:World}(h:PV w V row W):PV w V row W.drew:=⟨h.1,h.2.drew⟩
end
section
open Go.RowKit
set_option linter.unusedVariables false
set_option linter.unusedSimpArgs false
attribute [local go_sem↓] Go.wp_at_zero Go.wp_at_succ
def SNr(D B:Nat)(ao:Option Addr)(len cap:Nat)(w:World)(C U:Nat)(orow row:List Value)(W:World):Prop:=SD D B ao len cap w U row W/\UAt W C orow/\C<w.heap.size/\C≠B
section
variable {D B:Nat} {ao:Option Addr} {len cap:Nat} {w:World} {C U:Nat} {orow row:List Value} {W W':World}
theorem SNr.below(h:SNr D B ao len cap w C U orow row W)(hb:Below W.heap.size W W'):SNr D B ao len cap w C U orow row W':=⟨h.1.below hb,h.2.1.below hb,h.2.2⟩
theorem SNr.grown(h:SNr D B ao len cap w C U orow row W)(hc:Cur D B ao len cap W')(hg:W.grownBy W' (some B)):SNr D B ao len cap w C U orow row W':=⟨h.1.grown hc hg,h.2.1.grown hg h.2.2.2,h.2.2⟩
theorem SNr.moved{row':List Value}(h:SNr D B ao len cap w C U orow row W)(hM:nN U W W')(hU:UAt W' U row'):SNr D B ao len cap w C U orow row' W':=⟨h.1.moved hM hU,hM.1 _ _ (by have:=h.1.2.2.2.2.1;have:=h.2.2.1;omega) h.2.1,h.2.2⟩
theorem SNr.set(h:SNr D B ao len cap w C U orow row W)(j:Nat)(hj:j<row.length)(v:Value):SNr D B ao len cap w C U orow (row.set j v) (W.setCell ⟨U,j,none⟩ v):=⟨h.1.set j hj v,h.2.1.other (by have:=h.1.2.2.2.2.1;have:=h.2.2.1;omega) j v,h.2.2⟩
end
theorem Fs(s k n p:Int)(nm a r:ByteArray)(q:Bool)(x0 x1 x2 x3 x4 x5 x6 x7:Int)(j:Nat){v:Value}(hv:(dU k nm n x0 x1 x2 x3 x4 x5 x6 x7)[j]? =some v):(aC s k nm n x0 x1 x2 x3 x4 x5 x6 x7 p a q r)[1+j]? =some v:=by
 have hj:j<11:=by
  rcases Nat.lt_or_ge j 11 with h|h
  .exact h
  rw[List.getElem?_eq_none (by show 11<=j;exact h)]at hv;cases hv
 match j,hj,hv with
 |0,_,hv|1,_,hv|2,_,hv|3,_,hv|4,_,hv|5,_,hv|6,_,hv|7,_,hv|8,_,hv|9,_,hv|10,_,hv=>exact hv
theorem Ih(s k n p:Int)(nm a r:ByteArray)(q:Bool)(x0 x1 x2 x3 x4 x5 x6 x7:Int)(D B:Nat)(ao:Option Addr)(len cap:Nat)(w:World)(hcur:Cur D B ao len cap w)(hnm:nm.size<=1048576)(hok:uOk ⟨s,⟨k,nm,n,[x0,x1,x2,x3,x4,x5,x6,x7]⟩,p,a,q,r⟩=true):Calls prog 70 #[H (some ⟨B,0,none⟩),G (aC s k nm n x0 x1 x2 x3 x4 x5 x6 x7 p a q r).toArray] w fun e w'=> ∃(s' k' n' p':Int) (nm' a' r':ByteArray) (q':Bool) (y0 y1 y2 y3 y4 y5 y6 y7:Int),(nm'.size<=1048576/\a'.size<=100000/\r'.size<=1048576/\uOk ⟨s',⟨k',nm',n',[y0,y1,y2,y3,y4,y5,y6,y7]⟩,p',a',q',r'⟩=true)/\e=.returned (G (aC s' k' nm' n' y0 y1 y2 y3 y4 y5 y6 y7 p' a' q' r').toArray)/\Cur D B ao len cap w'/\w.grownBy w' (some B):=by
 have hB:=hcur.lt;have HOK:Hid (uOk ⟨s,⟨k,nm,n,[x0,x1,x2,x3,x4,x5,x6,x7]⟩,p,a,q,r⟩=true):=hok;clear hok;obtain ⟨w0,hw0⟩: ∃w0,w0=w.alloc (.cells (aC s k nm n x0 x1 x2 x3 x4 x5 x6 x7 p a q r).toArray 28):=⟨_,rfl⟩;obtain ⟨O,hO⟩: ∃O,O=w0.alloc (Y #[I J 0,I J 0,L ⟨#[]⟩,I J 0,I J 0,I J 0,I J 0,I J 0,I J 0,I J 0,I J 0,I J 0,I J 0,L ⟨#[]⟩,Z false,L ⟨#[]⟩] 28):=⟨_,rfl⟩;have hz0:w0.heap.size=w.heap.size+1:=by rw[hw0];simp
 have HC:Hid (Cur D B ao len cap O):=by rw[hO,hw0];exact (hcur.alloc _).alloc _
 have HG0:Hid (w.grownBy w0 (some B)):=by rw[hw0];exact zm w _ _
 have HG:Hid (w0.grownBy O (some B)):=by rw[hO];exact zm w0 _ _
 have HU:Hid (UAt O w0.heap.size aY):=by rw[hO];exact UAt.new w0 _ _
 have HX:Hid (UAt O w.heap.size (aC s k nm n x0 x1 x2 x3 x4 x5 x6 x7 p a q r)):=by
  rw[hO,hw0];exact (UAt.new w _ _).below ((zj _ _).alloc (ze _) _)
 clear hcur;go_enter func70,ntmps70
 go_upto_region 1 with fail
 rw[<-hw0,<-hO];clear hw0 hO;go_wp2_with fail;refine (Gd _ _ _ _ _ _ HC.out).mono ?_;rintro e wb ⟨s',k',n',p',nm',a',r',q',y0,y1,y2,y3,y4,y5,y6,y7,⟨hs,ha,hr,hu⟩,rfl,cb,gb⟩;have HU2:Hid (uOk ⟨s',⟨k',nm',n',[y0,y1,y2,y3,y4,y5,y6,y7]⟩,p',a',q',r'⟩=true):=hu;clear hu;have SB:Hid (SNr D B ao len cap w0 w.heap.size wb.heap.size (aC s k nm n x0 x1 x2 x3 x4 x5 x6 x7 p a q r) (aC 0 0 ⟨#[]⟩ 0 0 0 0 0 0 0 0 0 0 ⟨#[]⟩ false ⟨#[]⟩) (wb.alloc (Y #[I J 0,I J 0,L ⟨#[]⟩,I J 0,I J 0,I J 0,I J 0,I J 0,I J 0,I J 0,I J 0,I J 0,I J 0,L ⟨#[]⟩,Z false,L ⟨#[]⟩] 28))):=
  have hu:=HU.out.grown gb om;have hx:=HX.out.grown gb om;have hba:=(zj wb.heap.size wb).alloc (ze _) (Y #[I J 0,I J 0,L ⟨#[]⟩,I J 0,I J 0,I J 0,I J 0,I J 0,I J 0,I J 0,I J 0,I J 0,I J 0,L ⟨#[]⟩,Z false,L ⟨#[]⟩] 28)
  ⟨⟨cb.alloc _,gJ (bB HG.out gb) _,⟨_,rfl,hu.below hba⟩,UAt.new wb _ _,hu.2.2,om⟩,hx.below hba,om,om⟩
 clear cb gb HC HG HU HX
 go_upto_region 2 with (refine dI SB.out.1.2.2.2.1 rfl (us:=aC s' k' nm' n' y0 y1 y2 y3 y4 y5 y6 y7 p' a' q' r') rfl (aS ..) rfl _ _ rfl rfl rfl ?_;intro w5 HU5 HM5)
 have S5:Hid (SNr D B ao len cap w0 w.heap.size wb.heap.size (aC s k nm n x0 x1 x2 x3 x4 x5 x6 x7 p a q r) (aC s' k' nm' n' y0 y1 y2 y3 y4 y5 y6 y7 p' a' q' r') w5):=SB.out.moved HM5 HU5;clear HU5 HM5 SB;generalize wb.heap.size=U at S5⊢;generalize w.heap.size=C at S5 hz0⊢
 try simp only[zi]
 go_wp2_with fail;refine (T4 3 _ _ _ _ _ _ om om S5.out.1.1).mono ?_;rintro e w6 ⟨y,rfl,c6,g6⟩;have S6:Hid (SNr D B ao len cap w0 C U (aC s k nm n x0 x1 x2 x3 x4 x5 x6 x7 p a q r) (aC s' k' nm' n' y0 y1 y2 y3 y4 y5 y6 y7 p' a' q' r') w6):=S5.out.grown c6 g6;clear c6 g6 S5;have hCU:C+1<U:=by have:=S6.out.1.2.2.2.2.1;omega
 cases y with
 |true=>
  obtain ⟨rr,hrl,hN⟩:=S6.out.1.2.2.1;rw[hz0]at hN;have HN:Hid (UAt w6 (C+1) rr):=hN;clear hN;go_wp2_with (first|(refine bU S6.out.1.2.2.2.1 rfl rfl _ rfl rfl ?_)|(refine dI HN.out hrl (us:=aC s' k' nm' n' y0 y1 y2 y3 y4 y5 y6 y7 p' a' q' r') rfl (aS ..) rfl _ _ rfl rfl rfl ?_;intro w9 HU9 HM9));have g9:=S6.out.1.res (by rw[hz0];exact HM9) rfl (by rw[hz0];exact HU9);refine bodyPost_ret (fM rfl _ _ (C+1) _ rfl rfl HU9) rfl ⟨s',k',n',p',nm',a',r',q',y0,y1,y2,y3,y4,y5,y6,y7,⟨hs,ha,hr,HU2.out⟩,rfl,g9.1,bB HG0.out g9.2.1⟩
 |false=>
  have c0:=S6.out.2.1.1 0 _ rfl;have d0:=S6.out.1.2.2.2.1.1 0 _ rfl;have f0:=S6.out.1.2.2.2.1.2.1 0;have S7:Hid (SNr D B ao len cap w0 C U (aC s k nm n x0 x1 x2 x3 x4 x5 x6 x7 p a q r) (aC s k' nm' n' y0 y1 y2 y3 y4 y5 y6 y7 p' a' q' r') (w6.setCell ⟨U,0,none⟩ (I J s))):=S6.out.set 0 (by show 0<16;decide) (I J s)
  go_upto_region 4 with fail
  clear c0 d0 f0 S6;generalize w6.setCell ⟨U,0,none⟩ (I J s)=w7 at S7⊢
  try simp only[zi]
  go_upto_region 5 with (first|(refine YT S7.out.2.1 1 (dU k nm n x0 x1 x2 x3 x4 x5 x6 x7) (fun j v hv=>Fs _ _ _ _ _ _ _ _ _ _ _ _ _ _ _ _ _ hv) rfl rfl _ rfl rfl ?_)|(refine oM S7.out.1.2.2.2.1 1 (by show 1+11<=16;decide) (us:=dU k nm n x0 x1 x2 x3 x4 x5 x6 x7) rfl (lH ..) rfl _ _ rfl rfl rfl ?_;intro w8 HU8 HM8))
  have S8:Hid (SNr D B ao len cap w0 C U (aC s k nm n x0 x1 x2 x3 x4 x5 x6 x7 p a q r) (aC s k nm n x0 x1 x2 x3 x4 x5 x6 x7 p' a' q' r') w8):=S7.out.moved HM8 HU8;clear HU8 HM8 S7
  try simp only[zi]
  have c0:=S8.out.2.1.1 12 _ rfl;have d0:=S8.out.1.2.2.2.1.1 12 _ rfl;have f0:=S8.out.1.2.2.2.1.2.1 12;have S9:Hid (SNr D B ao len cap w0 C U (aC s k nm n x0 x1 x2 x3 x4 x5 x6 x7 p a q r) (aC s k nm n x0 x1 x2 x3 x4 x5 x6 x7 p a' q' r') (w8.setCell ⟨U,12,none⟩ (I J p))):=S8.out.set 12 (by show 12<16;decide) (I J p)
  go_upto_region 6 with fail
  clear c0 d0 f0 S8;generalize w8.setCell ⟨U,12,none⟩ (I J p)=w9 at S9⊢
  try simp only[zi]
  obtain ⟨rr,hrl,hN⟩:=S9.out.1.2.2.1;rw[hz0]at hN;have HN:Hid (UAt w9 (C+1) rr):=hN;clear hN;have HOU:Hid (uOk ⟨s,⟨k,nm,n,[x0,x1,x2,x3,x4,x5,x6,x7]⟩,p,a',q',r'⟩=true):=by
   obtain ⟨h1,h2,h3,_⟩:=eL HOK.out;obtain ⟨_,_,_,h4,h5,h6,h7⟩:=eL HU2.out;exact NE h1 h2 h3 h4 h5 h6 h7
  go_wp2_with (first|(refine bU S9.out.1.2.2.2.1 rfl rfl _ rfl rfl ?_)|(refine dI HN.out hrl (us:=aC s k nm n x0 x1 x2 x3 x4 x5 x6 x7 p a' q' r') rfl (aS ..) rfl _ _ rfl rfl rfl ?_;intro w10 HU9 HM9));have g9:=S9.out.1.res (by rw[hz0];exact HM9) rfl (by rw[hz0];exact HU9);refine bodyPost_ret (fM rfl _ _ (C+1) _ rfl rfl HU9) rfl ⟨s,k,n,p,nm,a',r',q',x0,x1,x2,x3,x4,x5,x6,x7,⟨hnm,ha,hr,HOU.out⟩,rfl,g9.1,bB HG0.out g9.2.1⟩
theorem GU{fn:Func}{i j:Tmp}(h:fn.results= #[.cell i 28,.cell j 28])(tmps:Array Value)(W:World)(B C:Nat)(us vs:List Value)(hl:us.length=16)(hm:vs.length=16)
  (hp:tmps[i]?.getD undef=H (some ⟨B,0,none⟩)) (hq:tmps[j]?.getD undef=H (some ⟨C,0,none⟩)) (ha:UAt W B us) (hb:UAt W C vs):(results fn tmps).run prog W=.ok (.tuple #[G us.toArray,G vs.toArray]) W:=by
 obtain ⟨d,hd1,hd2⟩:=rowUrl;have hr:=run_loadVar_mid (P:=prog) W B 0 28 us d (ha.range 0 us (fun j v hv=>by rw[zk];exact hv)) hd1 hd2 (by rw[hl];exact infoUrl);have hs:=run_loadVar_mid (P:=prog) W C 0 28 vs d (hb.range 0 vs (fun j v hv=>by rw[zk];exact hv)) hd1 hd2 (by rw[hm];exact infoUrl);simp[results,h,hp,hq,asAddr,hr,hs]
def PTw(D B:Nat)(ao:Option Addr)(len cap:Nat)(w:World)(U:Nat)(row:List Value)(W:World):Prop:=
 Cur D B ao len cap W/\(∃r1:List Value,r1.length=16/\UAt W w.heap.size r1)/\(∃r2:List Value,r2.length=16/\UAt W (w.heap.size+1) r2)/\UAt W U row/\Below w.heap.size w W/\w.heap.size+1<B/\B<U
section
variable {D B:Nat} {ao:Option Addr} {len cap:Nat} {w:World} {U:Nat} {row:List Value} {W W':World}
theorem PTw.grown(h:PTw D B ao len cap w U row W)(hc:Cur D B ao len cap W')(hg:W.grownBy W' (some B)):PTw D B ao len cap w U row W':=by
 obtain ⟨h1,⟨r1,l1,u1⟩,⟨r2,l2,u2⟩,h4,h5,h6,h7⟩:=h;exact ⟨hc,⟨r1,l1,u1.grown hg om⟩,⟨r2,l2,u2.grown hg om⟩,h4.grown hg om,h5.grown hg h5.size (fun k hk=>by cases hk;omega),h6,h7⟩
theorem PTw.drew(h:PTw D B ao len cap w U row W):PTw D B ao len cap w U row W.drew:=⟨h.1,h.2.1,h.2.2.1,h.2.2.2.1,h.2.2.2.2.1.drew,h.2.2.2.2.2⟩
end
theorem TK(ao:Option Addr)(len cap:Nat)(w:World)(hl:len<=1048576)(hcode:eS w.heap.size w ao len):Calls prog 24 #[.slice ao len cap] w fun e w'=> ∃(s k n p:Int) (nm a r:ByteArray) (q:Bool) (x0 x1 x2 x3 x4 x5 x6 x7:Int) (s' k' n' p':Int) (nm' a' r':ByteArray) (q':Bool) (y0 y1 y2 y3 y4 y5 y6 y7:Int),
   (nm.size<=1048576/\a.size<=100000/\r.size<=1048576/\uOk ⟨s,⟨k,nm,n,[x0,x1,x2,x3,x4,x5,x6,x7]⟩,p,a,q,r⟩=true)/\(nm'.size<=1048576/\a'.size<=100000/\r'.size<=1048576/\uOk ⟨s',⟨k',nm',n',[y0,y1,y2,y3,y4,y5,y6,y7]⟩,p',a',q',r'⟩=true)/\
   e=.returned (.tuple #[G (aC s k nm n x0 x1 x2 x3 x4 x5 x6 x7 p a q r).toArray,G (aC s' k' nm' n' y0 y1 y2 y3 y4 y5 y6 y7 p' a' q' r').toArray])/\Below w.heap.size w w':=by
 obtain ⟨O,hO⟩: ∃O,O=(w.alloc (Y #[I J 0,I J 0,L ⟨#[]⟩,I J 0,I J 0,I J 0,I J 0,I J 0,I J 0,I J 0,I J 0,I J 0,I J 0,L ⟨#[]⟩,Z false,L ⟨#[]⟩] 28)).alloc (Y #[I J 0,I J 0,L ⟨#[]⟩,I J 0,I J 0,I J 0,I J 0,I J 0,I J 0,I J 0,I J 0,I J 0,I J 0,L ⟨#[]⟩,Z false,L ⟨#[]⟩] 28):=⟨_,rfl⟩;have bO:Below w.heap.size w O:=by rw[hO];exact ((zj _ _).alloc (ze _) _).alloc j2 _
 have hzO:O.heap.size=w.heap.size+2:=by rw[hO];simp
 have HCO:Hid (eS O.heap.size O ao len):=hcode.later bO;have HR1:Hid (UAt O w.heap.size aY):=by rw[hO];exact (UAt.new w _ _).below ((zj _ _).alloc (ze _) _)
 have HR2:Hid (UAt O (w.heap.size+1) aY):=by
  rw[hO]
  have:=UAt.new (w.alloc (Y #[I J 0,I J 0,L ⟨#[]⟩,I J 0,I J 0,I J 0,I J 0,I J 0,I J 0,I J 0,I J 0,I J 0,I J 0,L ⟨#[]⟩,Z false,L ⟨#[]⟩] 28)) #[I J 0,I J 0,L ⟨#[]⟩,I J 0,I J 0,I J 0,I J 0,I J 0,I J 0,I J 0,I J 0,I J 0,I J 0,L ⟨#[]⟩,Z false,L ⟨#[]⟩] 28
  rw[World.size_alloc]at this;exact this
 clear hcode;go_enter func24,ntmps24
 go_upto_region 1 with fail
 rw[<-hO];clear hO;go_wp2_with fail;refine (l1New _ _ _ _ hl HCO.out).mono ?_;rintro e wa ⟨B,rfl,hBw,ca,ba⟩;have CA:Hid (Cur O.heap.size B ao len cap wa):=ca;have B1:Hid (Below w.heap.size w wa):=bO.trans (ba.mono bO.size);have R1:Hid (UAt wa w.heap.size aY):=HR1.out.below ba;have R2:Hid (UAt wa (w.heap.size+1) aY):=HR2.out.below ba;have hBg:w.heap.size+1<B:=om;clear ca ba HCO HR1 HR2 bO;go_wp2_with fail;refine (Gd _ _ _ _ _ _ CA.out).mono ?_;rintro e wb ⟨s,k,n,p,nm,a,r,q,x0,x1,x2,x3,x4,x5,x6,x7,⟨hs,ha,hr,hu⟩,rfl,cb,gb⟩;have HUO:Hid (uOk ⟨s,⟨k,nm,n,[x0,x1,x2,x3,x4,x5,x6,x7]⟩,p,a,q,r⟩=true):=hu;have hBb:B<wb.heap.size:=cb.lt;have BB:Hid (Below w.heap.size w (wb.alloc (Y #[I J 0,I J 0,L ⟨#[]⟩,I J 0,I J 0,I J 0,I J 0,I J 0,I J 0,I J 0,I J 0,I J 0,I J 0,L ⟨#[]⟩,Z false,L ⟨#[]⟩] 28))):=by
  have:=B1.out.grown gb B1.out.size (fun k hk=>by cases hk;omega)
  exact this.alloc this.size _
 have bal:=(zj wb.heap.size wb).alloc (ze _) (Y #[I J 0,I J 0,L ⟨#[]⟩,I J 0,I J 0,I J 0,I J 0,I J 0,I J 0,I J 0,I J 0,I J 0,I J 0,L ⟨#[]⟩,Z false,L ⟨#[]⟩] 28);have Q1:Hid (UAt (wb.alloc (Y #[I J 0,I J 0,L ⟨#[]⟩,I J 0,I J 0,I J 0,I J 0,I J 0,I J 0,I J 0,I J 0,I J 0,I J 0,L ⟨#[]⟩,Z false,L ⟨#[]⟩] 28)) w.heap.size aY):=(R1.out.grown gb om).below bal;have Q2:Hid (UAt (wb.alloc (Y #[I J 0,I J 0,L ⟨#[]⟩,I J 0,I J 0,I J 0,I J 0,I J 0,I J 0,I J 0,I J 0,I J 0,I J 0,L ⟨#[]⟩,Z false,L ⟨#[]⟩] 28)) (w.heap.size+1) aY):=(R2.out.grown gb om).below bal;have CB:Hid (Cur O.heap.size B ao len cap (wb.alloc (Y #[I J 0,I J 0,L ⟨#[]⟩,I J 0,I J 0,I J 0,I J 0,I J 0,I J 0,I J 0,I J 0,I J 0,I J 0,L ⟨#[]⟩,Z false,L ⟨#[]⟩] 28))):=cb.alloc _;clear cb gb CA hu B1 R1 R2 bal
 go_upto_region 3 with (refine dI (UAt.new wb _ _) rfl (us:=aC s k nm n x0 x1 x2 x3 x4 x5 x6 x7 p a q r) rfl (aS ..) rfl _ _ rfl rfl rfl ?_;intro w2 HUh HMh)
 have D2:Hid (PTw O.heap.size B ao len cap w wb.heap.size (aC s k nm n x0 x1 x2 x3 x4 x5 x6 x7 p a q r) w2):=⟨CB.out.moved hBb HMh,⟨_,rfl,HMh.1 _ _ om Q1.out⟩,⟨_,rfl,HMh.1 _ _ om Q2.out⟩,HUh,HMh.2 _ _ om BB.out,hBg,hBb⟩;clear HUh HMh Q1 Q2 CB BB hBb;generalize wb.heap.size=U at D2⊢;generalize O.heap.size=DD at D2 hzO
 try simp only[zi]
 refine wp_region_held_drew (S:=fun W=>UAt W U (aC s k nm n x0 x1 x2 x3 x4 x5 x6 x7 p a q r)) kr D2.out.drew.2.2.2.1 (fun h0=> ?_);refine wpAnyH_take (i:=0) (v:=G (aC s k nm n x0 x1 x2 x3 x4 x5 x6 x7 p a q r).toArray) rfl kr kr kr (fun _ _ _ h=>h) (yieldsIf_load_mid (by rfl) _ _ rfl U 0 rfl (aC s k nm n x0 x1 x2 x3 x4 x5 x6 x7 p a q r) _ (fun W hW=>hW.range 0 _ (fun j v hv=>by rw[zk];exact hv)) underlying28 rfl infoUrl) h0 ?_;simp only[zi,zf,zc,zd,za,zg,zh];refine wpAnyH_take (i:=1) (v:= ?_) rfl kr kr kr (fun _ _ _ h=>h) (Or.inl ⟨by rfl,fun W hW=> ?_⟩) h0 ?_;rotate_left
 .clear hW
  go_simp
  try with_reducible rfl
 simp only[zi,zf,zc,zd,za,zg,zh];refine wpAnyH_take (i:=2) (v:=G (aC s k nm n x0 x1 x2 x3 x4 x5 x6 x7 p a q r).toArray) rfl kr kr kr (fun _ _ _ h=>h) (yieldsIf_load_mid (by rfl) _ _ rfl U 0 rfl (aC s k nm n x0 x1 x2 x3 x4 x5 x6 x7 p a q r) _ (fun W hW=>hW.range 0 _ (fun j v hv=>by rw[zk];exact hv)) underlying28 rfl infoUrl) h0 ?_;simp only[zi,zf,zc,zd,za,zg,zh];refine wpAnyH_ready (rs:=[3]) kr j2 (zl rfl (fun K hK=> ?_) zn);go_simp;go_wp2_with (go_at_call 70;refine (Ih s k n p nm a r q x0 x1 x2 x3 x4 x5 x6 x7 _ _ _ _ _ _ D2.out.drew.1 hs HUO.out).mono ?_;rintro e w3 ⟨s',k',n',p',nm',a',r',q',y0,y1,y2,y3,y4,y5,y6,y7,⟨hs',ha',hr',hu'⟩,rfl,c3,g3⟩);have D3:=D2.out.drew.grown c3 g3;refine hK.out _ _ D3.2.2.2.1 (fun h1=> ?_);clear hK K h1 h0 c3 g3 D2;obtain ⟨_,⟨r1,l1,u1⟩,⟨r2,l2,u2⟩,d4,d5,d6,d7⟩:=D3;refine wpAnyH_ready (rs:=[4]) kr j2 (zl rfl (fun K hK=> ?_) zn);rw[if_pos (by rfl)];refine wp_store_mid _ _ _ rfl w.heap.size 0 (aC s k nm n x0 x1 x2 x3 x4 x5 x6 x7 p a q r).toArray rfl rfl (u1.there 0 16 (by rw[l1];decide)) infoUrl (aS ..) ?_;have hM1:=bS (C:=w.heap.size) (aC s k nm n x0 x1 x2 x3 x4 x5 x6 x7 p a q r).toArray.toList 0 w3;have hU1:=fW (us:=aC s k nm n x0 x1 x2 x3 x4 x5 x6 x7 p a q r) u1 l1 rfl;generalize w3.setCells w.heap.size 0 (aC s k nm n x0 x1 x2 x3 x4 x5 x6 x7 p a q r).toArray.toList=w4 at hM1 hU1⊢;have v2:=hM1.1 _ _ om u2;have e4:=hM1.1 _ _ om d4;have e5:=hM1.2 _ _ (ze _) d5;refine hK.out _ _ e4 (fun h2=> ?_);clear hK K h2 hM1 u1 u2 d4 d5;refine wpAnyH_ready (rs:=[5]) kr j2 (zl rfl (fun K hK=> ?_) zn);rw[if_pos (by rfl)];refine wp_store_mid _ _ _ rfl (w.heap.size+1) 0 (aC s' k' nm' n' y0 y1 y2 y3 y4 y5 y6 y7 p' a' q' r').toArray rfl rfl (v2.there 0 16 (by rw[l2];decide)) infoUrl (aS ..) ?_;have hM2:=bS (C:=w.heap.size+1) (aC s' k' nm' n' y0 y1 y2 y3 y4 y5 y6 y7 p' a' q' r').toArray.toList 0 w4;have hU2:=fW (us:=aC s' k' nm' n' y0 y1 y2 y3 y4 y5 y6 y7 p' a' q' r') v2 l2 rfl;generalize w4.setCells (w.heap.size+1) 0 (aC s' k' nm' n' y0 y1 y2 y3 y4 y5 y6 y7 p' a' q' r').toArray.toList=w5 at hM2 hU2⊢;have zz1:=hM2.1 _ _ om hU1;have zz4:=hM2.1 _ _ om e4;have zz5:=hM2.2 _ _ om e5;refine hK.out _ _ zz4 (fun h2=> ?_);clear hK K h2 hM2 v2 e4 e5;refine wpAnyH_done kr ?_ _;simp only[zi];go_wp2_with fail;refine bodyPost_ret (GU rfl _ _ w.heap.size (w.heap.size+1) _ _ rfl rfl rfl rfl zz1 hU2) rfl ⟨s,k,n,p,nm,a,r,q,x0,x1,x2,x3,x4,x5,x6,x7,s',k',n',p',nm',a',r',q',y0,y1,y2,y3,y4,y5,y6,y7,⟨hs,ha,hr,HUO.out⟩,⟨hs',ha',hr',hu'⟩,rfl,zz5⟩
