/- Draw2Walk, Draw4Walk, Draw6Walk, Draw6More, Draw7Walk, Draw8Walk, Draw8More. -/
import Derived.Test.YtgcbaphbiaimoaaGreatDoorQF32
set_option maxHeartbeats 8000000
set_option maxRecDepth 100000
namespace Go.Proofs.YtgcbaphbiaimoaaGreatDoor
open Go.Value renaming int->I,string->L,pointer->H
open Go.IntKind renaming i64->J
open Go.Ending renaming returned->Y
open Go.Obj renaming cells->Z
open _root_.Go.Act renaming put->zp
open _root_.Go.AllReadyH renaming cons->zj,nil->zk
open _root_.Go.RowKit.Below renaming refl->zt
open _root_.ByteArray renaming size->zr,size_append->ze
open _root_.Int renaming eq_ofNat_of_zero_le->zm
open _root_.List renaming getElem_cons_succ->zh,getElem_cons_zero->zc,getElem_toArray->zd,setIfInBounds_toArray->za,set_cons_succ->zg,set_cons_zero->zf
open _root_.Nat renaming le_refl->zi,le_trans->zq,lt_of_lt_of_le->zl,zero_le->zs
open _root_.Go.World renaming grownBy_alloc->zo,ownsRow_lit->zn
open _root_.Go.Proofs.Tryz
open _root_.Go.Proofs.YtgcbaphbiaimoaaGreatDoor.Tryz
section
open Go.RowKit
theorem Ic(D B:Nat)(ao:Option Addr)(len cap:Nat)(w:World)(hcur:Cur D B ao len cap w):Calls prog 79 #[H (some ⟨B,0,none⟩)] w fun e w'=> ∃z:ByteArray,z.size<=1000/\e=Y (L z)/\Cur D B ao len cap w'/\w.grownBy w' (some B):=by
 have HC:Hid (Cur D B ao len cap w):=hcur;clear hcur;go_enter func79,ntmps79;go_wp2_with fail;refine (kM 7 _ _ _ _ _ _ om om HC.out).mono ?_;rintro e wa ⟨x,hx0,hx1,rfl,ca,ga⟩;have CA:Hid (Cur D B ao len cap wa):=ca;clear ca;obtain ⟨n,rfl⟩:=zm hx0;go_wp2_with fail
 go_loopw[3,4] (fun a i wr=> ∃(k:Nat) (z:ByteArray),k<=n/\i=I J k/\a=L z/\z.size+20*k<=20*n/\Cur D B ao len cap wr/\w.grownBy wr (some B)) (fun _ i _=>(intOf i).toNat)
 case atStart=>exact ⟨n,⟨#[]⟩,zi _,rfl,rfl,by simp[zr],CA.out,ga⟩
 obtain ⟨k,z,hk,rfl,rfl,hz,hcu,hgr⟩:=hrel;have HU:Hid (Cur D B ao len cap wr):=hcu;have hB:=hcu.lt;clear hcu
 by_cases hp:0<k
 .go_wp2_with fail
  refine (UQ 20 17 _ 17 0 _ _ _ _ _ _ _ om om (HU.out.alloc _) (zn wr _ 17 (zs _) de rfl) om de).mono ?_;rintro e wc ⟨y,hy,rfl,cc,gc⟩;have CC:Hid (Cur D B ao len cap wc):=cc;have G:=bB (gJ hgr _) gc;clear cc gc hgr;go_wp2_with fail;go_roundw
  case rel=>exact ⟨k-1,z++y,om,gn,rfl,by rw[ze];omega,CC.out,G⟩
  case measure=>exact j1
 go_wp2_with fail;go_ret;exact ⟨z,om,rfl,HU.out,hgr⟩
theorem ZH(D B:Nat)(ao:Option Addr)(len cap:Nat)(w:World)(hcur:Cur D B ao len cap w):Calls prog 181 #[H (some ⟨B,0,none⟩)] w fun e w'=> ∃z:ByteArray,z.size<=20/\e=Y (L z)/\Cur D B ao len cap w'/\w.grownBy w' (some B):=by
 have HC:Hid (Cur D B ao len cap w):=hcur;have hB:=hcur.lt;clear hcur;go_enter func181,ntmps181;go_wp2_with fail;refine (UQ 20 16 _ 16 0 _ _ _ _ _ _ _ om om (HC.out.alloc _) (zn w _ 16 (zs _) de rfl) om de).mono ?_;rintro e wc ⟨y,hy,rfl,cc,gc⟩;have CC:Hid (Cur D B ao len cap wc):=cc;have G:=bB (zo w _ (some B)) gc;clear cc gc;go_wp2_with fail;go_ret;exact ⟨y,hy,rfl,CC.out,G⟩
theorem Ie(D B:Nat)(ao:Option Addr)(len cap:Nat)(w:World)(hcur:Cur D B ao len cap w):Calls prog 180 #[H (some ⟨B,0,none⟩)] w fun e w'=> ∃z:ByteArray,z.size<=100/\e=Y (L z)/\Cur D B ao len cap w'/\w.grownBy w' (some B):=by
 have HC:Hid (Cur D B ao len cap w):=hcur;clear hcur;go_enter func180,ntmps180;go_wp2_with fail;refine (ZH _ _ _ _ _ _ HC.out).mono ?_;rintro e wz ⟨z0,hz0,rfl,cz,gz⟩;have CZ:Hid (Cur D B ao len cap wz):=cz;clear cz;go_wp2_with fail;refine (kM 4 _ _ _ _ _ _ om om CZ.out).mono ?_;rintro e wa ⟨x,hx0,hx1,rfl,ca,ga⟩;have CA:Hid (Cur D B ao len cap wa):=ca;have GA:=bB gz ga;clear ca gz ga;obtain ⟨n,rfl⟩:=zm hx0;go_wp2_with fail
 go_loopw[3,4] (fun a i wr=> ∃(k:Nat) (z:ByteArray),k<=n/\i=I J k/\a=L z/\z.size+21*k<=20+21*n/\Cur D B ao len cap wr/\w.grownBy wr (some B)) (fun _ i _=>(intOf i).toNat)
 case atStart=>exact ⟨n,z0,zi _,rfl,rfl,om,CA.out,GA⟩
 obtain ⟨k,z,hk,rfl,rfl,hz,hcu,hgr⟩:=hrel;have HU:Hid (Cur D B ao len cap wr):=hcu;clear hcu
 by_cases hp:0<k
 .have hd1:(⟨#[46]⟩:ByteArray).size=1:=rfl
  go_wp2_with fail;refine (ZH _ _ _ _ _ _ HU.out).mono ?_;rintro e wc ⟨y,hy,rfl,cc,gc⟩;have CC:Hid (Cur D B ao len cap wc):=cc;have G:=bB hgr gc;clear cc gc hgr;go_wp2_with fail;go_roundw
  case rel=>exact ⟨k-1,_,om,gn,rfl,by rw[ze,ze,hd1];omega,CC.out,G⟩
  case measure=>exact j1
 go_wp2_with fail;go_ret;exact ⟨z,om,rfl,HU.out,hgr⟩
theorem WL(s:ByteArray):(rV (aO s)).s.size<=1048576:=by
 have hz:(⟨#[]⟩:ByteArray).size<=1048576:=de;unfold aO;split
 .exact hz
 split
 .unfold gI
  split
  .cases dQ _ with
   |none=>exact hz
   |some g=>exact hz
  exact hz
 unfold fX;split
 .exact hz
 rename_i n hn;unfold iQ;split
 .split<;>exact hz
 show n.toArray.size<=1048576;rw[List.size_toArray]
 have:=wF hn
 omega
theorem mL{W:World}{R:Nat}{t:TypeId}(h:W.heap[R]? =some (Z #[I J 0,L ⟨#[]⟩,I J 0,I J 0,I J 0,I J 0,I J 0,I J 0,I J 0,I J 0,I J 0] t (0,0))):pW W R/\ ∀j,W.frozen? ⟨R,j,none⟩=false:=by
 refine ⟨⟨?_,?_,?_,?_,?_,?_,?_,?_,?_,?_,?_⟩,fun j=>frozen_of_row W R j _ t h⟩<;>(rw[cell_of_row W R _ _ t (0,0) h];rfl)
theorem rE{D B:Nat}{ao:Option Addr}{len cap:Nat}{W:World}(h:Cur D B ao len cap W){C:Nat}(hC:B<C)(k n:Int)(s:ByteArray)(x0 x1 x2 x3 x4 x5 x6 x7:Int):Cur D B ao len cap (((((((((((W.setCell ⟨C,0,none⟩ (I J k)).setCell ⟨C,1,none⟩ (L s)).setCell ⟨C,2,none⟩ (I J n)).setCell ⟨C,3,none⟩ (I J x0)).setCell ⟨C,4,none⟩ (I J x1)).setCell ⟨C,5,none⟩ (I J x2)).setCell ⟨C,6,none⟩ (I J x3)).setCell ⟨C,7,none⟩ (I J x4)).setCell ⟨C,8,none⟩ (I J x5)).setCell ⟨C,9,none⟩ (I J x6)).setCell ⟨C,10,none⟩ (I J x7)):=
 ((((((((((h.set hC _).set hC _).set hC _).set hC _).set hC _).set hC _).set hC _).set hC _).set hC _).set hC _).set hC _
theorem oR{w W:World}{row:Option Nat}(h:w.grownBy W row){C:Nat}(hC:w.heap.size<=C)(k n:Int)(s:ByteArray)(x0 x1 x2 x3 x4 x5 x6 x7:Int):w.grownBy (((((((((((W.setCell ⟨C,0,none⟩ (I J k)).setCell ⟨C,1,none⟩ (L s)).setCell ⟨C,2,none⟩ (I J n)).setCell ⟨C,3,none⟩ (I J x0)).setCell ⟨C,4,none⟩ (I J x1)).setCell ⟨C,5,none⟩ (I J x2)).setCell ⟨C,6,none⟩ (I J x3)).setCell ⟨C,7,none⟩ (I J x4)).setCell ⟨C,8,none⟩ (I J x5)).setCell ⟨C,9,none⟩ (I J x6)).setCell ⟨C,10,none⟩ (I J x7)) row:=
 cW (cW (cW (cW (cW (cW (cW (cW (cW (cW (cW h hC _) hC _) hC _) hC _) hC _) hC _) hC _) hC _) hC _) hC _) hC _
theorem Fo{z:Int}(h0:0<=z)(h1:z<4294967296):hOk ⟨2,⟨#[]⟩,z,[0,0,0,0,0,0,0,0]⟩=true:=by
 unfold hOk;rw[if_neg (show ¬(2:Int)=1 by decide),if_pos rfl];simp only[Bool.and_eq_true,decide_eq_true_eq];exact ⟨⟨rfl,h0,h1⟩,rfl⟩
theorem Fp{l:List Int}(h:zL l):hOk ⟨3,⟨#[]⟩,0,l⟩=true:=by
 unfold hOk;rw[if_neg (show ¬(3:Int)=1 by decide),if_neg (show ¬(3:Int)=2 by decide),if_pos rfl];simp only[AT h.2];rfl
theorem WM(z:ByteArray)(h:rC (aO z)=0):hOk (rV (aO z))=true:=by
 rcases MD z with ⟨c,h1,h2,_⟩|h1
 .rw[h1]at h
  have:c=0:=h
  omega
 exact h1.1
theorem Fq:hOk ⟨1,⟨#[97,46,99,111,109]⟩,0,[0,0,0,0,0,0,0,0]⟩=true:=by decide+kernel
theorem If(D B:Nat)(ao:Option Addr)(len cap:Nat)(w:World)(hcur:Cur D B ao len cap w):Calls prog 128 #[H (some ⟨B,0,none⟩)] w fun e w'=> ∃(k n:Int) (s:ByteArray) (x0 x1 x2 x3 x4 x5 x6 x7:Int),(s.size<=1048576/\hOk ⟨k,s,n,[x0,x1,x2,x3,x4,x5,x6,x7]⟩=true)/\e=Y (.agg #[I J k,L s,I J n,I J x0,I J x1,I J x2,I J x3,I J x4,I J x5,I J x6,I J x7])/\Cur D B ao len cap w'/\w.grownBy w' (some B):=by
 have hB:=hcur.lt;obtain ⟨O,hO⟩: ∃O,O=w.alloc (Z #[I J 0,L ⟨#[]⟩,I J 0,I J 0,I J 0,I J 0,I J 0,I J 0,I J 0,I J 0,I J 0] 26):=⟨_,rfl⟩;have HC:Hid (Cur D B ao len cap O):=by rw[hO];exact hcur.alloc _
 have HG:Hid (w.grownBy O (some B)):=by rw[hO];exact zo w _ _
 have HH:Hid (O.heap[w.heap.size]? =some (Z #[I J 0,L ⟨#[]⟩,I J 0,I J 0,I J 0,I J 0,I J 0,I J 0,I J 0,I J 0,I J 0] 26 (0,0))):=by rw[hO];exact heap_alloc_new w _
 have HS:Hid (w.heap.size<O.heap.size):=by show _<_;rw[hO];simp
 clear hcur;go_enter func128,ntmps128;go_wp2_with fail;rw[<-hO];refine (kM 6 _ _ _ _ _ _ om om HC.out).mono ?_;rintro e wa ⟨y,hy0,hy1,rfl,ca,ga⟩;have CA:Hid (Cur D B ao len cap wa):=ca;have GA:Hid (w.grownBy wa (some B)):=bB HG.out ga;have HA:Hid (wa.heap[w.heap.size]? =some (Z #[I J 0,L ⟨#[]⟩,I J 0,I J 0,I J 0,I J 0,I J 0,I J 0,I J 0,I J 0,I J 0] 26 (0,0))):=(ga.block _ HS.out (by intro h;cases h;omega)).trans HH.out;have SA:Hid (w.heap.size<wa.heap.size):=zl HS.out ga.size;clear ca ga HC HG HH HS hO
 by_cases y0:y=0
 .subst y0
  go_wp2_with fail;refine (Gw _ _ _ _ _ _ CA.out).mono ?_;rintro e wb ⟨z,hz0,hz1,rfl,cb,gb⟩;have CB:Hid (Cur D B ao len cap wb):=cb;have GB:Hid (w.grownBy wb (some B)):=bB GA.out gb;have hh:=mL ((gb.block _ SA.out (by intro h;cases h;omega)).trans HA.out);have HR:Hid (fA wb w.heap.size (dU 0 ⟨#[]⟩ 0 0 0 0 0 0 0 0 0)):=dM hh.1;obtain ⟨⟨c0,c1,c2,c3,c4,c5,c6,c7,c8,c9,c10⟩,fz⟩:=hh;clear cb gb;go_wp2_with fail;refine bodyPost_ret (lZ rfl _ _ w.heap.size 2 z ⟨#[]⟩ 0 0 0 0 0 0 0 0 rfl (eQ HR.out 2 z ⟨#[]⟩ 0 0 0 0 0 0 0 0)) rfl ⟨2,z,⟨#[]⟩,0,0,0,0,0,0,0,0,⟨de,Fo hz0 hz1⟩,rfl,rE CB.out hB 2 z ⟨#[]⟩ 0 0 0 0 0 0 0 0,oR GB.out (zi _) 2 z ⟨#[]⟩ 0 0 0 0 0 0 0 0⟩
 by_cases y1:y=1
 .subst y1
  go_wp2_with fail;refine (l5Six _ _ _ _ _ _ CA.out).mono ?_;rintro e wb ⟨x0,x1,x2,x3,x4,x5,x6,x7,h6,rfl,cb,gb⟩;have H6:Hid (zL [x0,x1,x2,x3,x4,x5,x6,x7]):=h6;clear h6;have CB:Hid (Cur D B ao len cap wb):=cb;have GB:Hid (w.grownBy wb (some B)):=bB GA.out gb;have hh:=mL ((gb.block _ SA.out (by intro h;cases h;omega)).trans HA.out);have HR:Hid (fA wb w.heap.size (dU 0 ⟨#[]⟩ 0 0 0 0 0 0 0 0 0)):=dM hh.1;obtain ⟨⟨c0,c1,c2,c3,c4,c5,c6,c7,c8,c9,c10⟩,fz⟩:=hh;clear cb gb;go_wp2_with fail;refine bodyPost_ret (lZ rfl _ _ w.heap.size 3 0 ⟨#[]⟩ x0 x1 x2 x3 x4 x5 x6 x7 rfl (eQ HR.out 3 0 ⟨#[]⟩ x0 x1 x2 x3 x4 x5 x6 x7)) rfl ⟨3,0,⟨#[]⟩,x0,x1,x2,x3,x4,x5,x6,x7,⟨de,Fp H6.out⟩,rfl,rE CB.out hB 3 0 ⟨#[]⟩ x0 x1 x2 x3 x4 x5 x6 x7,oR GB.out (zi _) 3 0 ⟨#[]⟩ x0 x1 x2 x3 x4 x5 x6 x7⟩
 have q0:(y==0)=false:=beq_eq_false_iff_ne.2 y0;have q1:(y==1)=false:=beq_eq_false_iff_ne.2 y1;go_wp2_with fail
 go_loopw[3] (fun i wr=> ∃k:Nat,k<=5/\i=I J k/\Cur D B ao len cap wr/\w.grownBy wr (some B)/\wr.heap[w.heap.size]? =some (Z #[I J 0,L ⟨#[]⟩,I J 0,I J 0,I J 0,I J 0,I J 0,I J 0,I J 0,I J 0,I J 0] 26 (0,0))/\w.heap.size<wr.heap.size) (fun i _=>5-(intOf i).toNat)
 case atStart=>exact ⟨0,de,rfl,CA.out,GA.out,HA.out,SA.out⟩
 obtain ⟨k,hk,rfl,hcu,hgr,hh,hsz⟩:=hrel;have HU:Hid (Cur D B ao len cap wr):=hcu;have HG:Hid (w.grownBy wr (some B)):=hgr;have HH:Hid (wr.heap[w.heap.size]? =some (Z #[I J 0,L ⟨#[]⟩,I J 0,I J 0,I J 0,I J 0,I J 0,I J 0,I J 0,I J 0,I J 0] 26 (0,0))):=hh;have HSZ:Hid (w.heap.size<wr.heap.size):=hsz;clear hcu hgr hh hsz CA GA HA SA
 by_cases hlt:k<5
 .have hki:(k:Int)<5:=om
  go_wp2_with fail;refine (Ie _ _ _ _ _ _ HU.out).mono ?_;rintro e wc ⟨z,hz,rfl,cc,gc⟩;have CC:Hid (Cur D B ao len cap wc):=cc;have GC:Hid (w.grownBy wc (some B)):=bB HG.out gc;have HC:Hid (wc.heap[w.heap.size]? =some (Z #[I J 0,L ⟨#[]⟩,I J 0,I J 0,I J 0,I J 0,I J 0,I J 0,I J 0,I J 0,I J 0] 26 (0,0))):=(gc.block _ HSZ.out (by intro h;cases h;omega)).trans HH.out;have SC:Hid (w.heap.size<wc.heap.size):=zl HSZ.out gc.size;have CP:Hid (Calls prog 58 #[L z] wc fun e w'=>e=Y (.tuple #[fB (rV (aO z)),I J (rC (aO z))])/\Below wc.heap.size wc w'):=GP z wc om;obtain ⟨x0,x1,x2,x3,x4,x5,x6,x7,hz8,hv⟩:=tX _ (iT z);have hvs:(rV (aO z)).s.size<=1048576:=WL z;have HK:Hid (rC (aO z)=0->hOk ⟨(rV (aO z)).k,(rV (aO z)).s,(rV (aO z)).n,[x0,x1,x2,x3,x4,x5,x6,x7]⟩=true):=by
   rw[<-hz8];exact WM z
  clear hz8;rw[hv]at CP;generalize rC (aO z)=C at CP HK;generalize (rV (aO z)).k=kk at CP HK;generalize (rV (aO z)).s=t at CP hvs HK;generalize (rV (aO z)).n=n at CP HK;clear cc gc hv;go_wp2_with fail;refine CP.out.mono ?_;rintro e wd ⟨rfl,bd⟩;have CD:Hid (Cur D B ao len cap (wd.alloc (Z #[I J kk,L t,I J n,I J x0,I J x1,I J x2,I J x3,I J x4,I J x5,I J x6,I J x7] 26))):=(CC.out.below bd.block).alloc _;have GD:Hid (w.grownBy (wd.alloc (Z #[I J kk,L t,I J n,I J x0,I J x1,I J x2,I J x3,I J x4,I J x5,I J x6,I J x7] 26)) (some B)):=gJ (BL GC.out bd) _;have HD0:wd.heap[w.heap.size]? =some (Z #[I J 0,L ⟨#[]⟩,I J 0,I J 0,I J 0,I J 0,I J 0,I J 0,I J 0,I J 0,I J 0] 26 (0,0)):=(bd.block _ SC.out).trans HC.out;have SD0:w.heap.size<wd.heap.size:=zl SC.out bd.size;have HD:Hid ((wd.alloc (Z #[I J kk,L t,I J n,I J x0,I J x1,I J x2,I J x3,I J x4,I J x5,I J x6,I J x7] 26)).heap[w.heap.size]? =some (Z #[I J 0,L ⟨#[]⟩,I J 0,I J 0,I J 0,I J 0,I J 0,I J 0,I J 0,I J 0,I J 0] 26 (0,0))):=(Below.heap_alloc wd _ _ SD0).trans HD0;have SD:Hid (w.heap.size<(wd.alloc (Z #[I J kk,L t,I J n,I J x0,I J x1,I J x2,I J x3,I J x4,I J x5,I J x6,I J x7] 26)).heap.size):=by show _<_;simp;omega
  clear bd HD0 SD0
  by_cases hC:C=0
  .subst hC
   have hh:=mL HD.out;have HR:Hid (fA (wd.alloc (Z #[I J kk,L t,I J n,I J x0,I J x1,I J x2,I J x3,I J x4,I J x5,I J x6,I J x7] 26)) w.heap.size (dU 0 ⟨#[]⟩ 0 0 0 0 0 0 0 0 0)):=dM hh.1;obtain ⟨⟨c0,c1,c2,c3,c4,c5,c6,c7,c8,c9,c10⟩,fz⟩:=hh;go_wp2_with fail;refine bodyPost_ret (lZ rfl _ _ w.heap.size kk n t x0 x1 x2 x3 x4 x5 x6 x7 rfl (eQ HR.out kk n t x0 x1 x2 x3 x4 x5 x6 x7)) rfl ⟨kk,n,t,x0,x1,x2,x3,x4,x5,x6,x7,⟨hvs,HK.out trivial⟩,rfl,rE CD.out hB kk n t x0 x1 x2 x3 x4 x5 x6 x7,oR GD.out (zi _) kk n t x0 x1 x2 x3 x4 x5 x6 x7⟩
  have qC:(C==0)=false:=beq_eq_false_iff_ne.2 hC;go_wp2_with fail;go_roundw
  case rel=>exact ⟨k+1,om,gn,CD.out,GD.out,HD.out,SD.out⟩
  case measure=>exact j1
 have hki: ¬(k:Int)<5:=om;have hh:=mL HH.out;have HR:Hid (fA wr w.heap.size (dU 0 ⟨#[]⟩ 0 0 0 0 0 0 0 0 0)):=dM hh.1;obtain ⟨⟨c0,c1,c2,c3,c4,c5,c6,c7,c8,c9,c10⟩,fz⟩:=hh;go_wp2_with fail;refine bodyPost_ret (lZ rfl _ _ w.heap.size 1 0 ⟨#[97,46,99,111,109]⟩ 0 0 0 0 0 0 0 0 rfl (eQ HR.out 1 0 ⟨#[97,46,99,111,109]⟩ 0 0 0 0 0 0 0 0)) rfl ⟨1,0,⟨#[97,46,99,111,109]⟩,0,0,0,0,0,0,0,0,⟨de,Fq⟩,rfl,rE HU.out hB 1 0 ⟨#[97,46,99,111,109]⟩ 0 0 0 0 0 0 0 0,oR HG.out (zi _) 1 0 ⟨#[97,46,99,111,109]⟩ 0 0 0 0 0 0 0 0⟩

theorem FX{a:ByteArray}{c:UInt8}(h:a.data.toList.head? =some c)(b:ByteArray):Hid ((a++b).data.toList.head? =some c):=by
 show _=_;rw[ByteArray.data_append,Array.toList_append,List.head?_append,h];rfl
theorem Ig(D B:Nat)(ao:Option Addr)(len cap:Nat)(w:World)(hcur:Cur D B ao len cap w):Calls prog 165 #[H (some ⟨B,0,none⟩)] w fun e w'=> ∃z:ByteArray,(1<=z.size/\z.data.toList.head? =some 47)/\z.size<=1000/\e=Y (L z)/\Cur D B ao len cap w'/\w.grownBy w' (some B):=by
 have HC:Hid (Cur D B ao len cap w):=hcur;clear hcur;go_enter func165,ntmps165;go_wp2_with fail;refine (kM 7 _ _ _ _ _ _ om om HC.out).mono ?_;rintro e wa ⟨x,hx0,hx1,rfl,ca,ga⟩;have CA:Hid (Cur D B ao len cap wa):=ca;clear ca;obtain ⟨n,rfl⟩:=zm hx0;go_wp2_with fail
 go_loopw[3,4] (fun a i wr=> ∃(k:Nat) (z:ByteArray),k<=n/\i=I J k/\a=L z/\Hid (z.data.toList.head? =some 47)/\1<=z.size/\z.size+20*k<=20*n+1/\Cur D B ao len cap wr/\w.grownBy wr (some B)) (fun _ i _=>(intOf i).toNat)
 case atStart=>exact ⟨n,⟨#[47]⟩,zi _,rfl,rfl,rfl,by simp[zr],by simp[zr];omega,CA.out,ga⟩
 obtain ⟨k,z,hk,rfl,rfl,hz7,hz1,hz,hcu,hgr⟩:=hrel;have HU:Hid (Cur D B ao len cap wr):=hcu;have hB:=hcu.lt;clear hcu
 by_cases hp:0<k
 .go_wp2_with fail
  refine (UQ 20 14 _ 14 0 _ _ _ _ _ _ _ om om (HU.out.alloc _) (zn wr _ 14 (zs _) de rfl) om de).mono ?_;rintro e wc ⟨y,hy,rfl,cc,gc⟩;have CC:Hid (Cur D B ao len cap wc):=cc;have G:=bB (gJ hgr _) gc;clear cc gc hgr;go_wp2_with fail;go_roundw
  case rel=>exact ⟨k-1,z++y,om,gn,rfl,FX hz7.out y,by rw[ze];omega,by rw[ze];omega,CC.out,G⟩
  case measure=>exact j1
 go_wp2_with fail;go_ret;exact ⟨z,⟨hz1,hz7.out⟩,om,rfl,HU.out,hgr⟩
theorem Fr(D B:Nat)(ao:Option Addr)(len cap:Nat)(w:World)(hcur:Cur D B ao len cap w):Calls prog 110 #[H (some ⟨B,0,none⟩)] w fun e w'=> ∃z:ByteArray,(z.size<=3000/\z.data.toList.head? =some 47)/\e=Y (L z)/\Cur D B ao len cap w'/\w.grownBy w' (some B):=by
 have HC:Hid (Cur D B ao len cap w):=hcur;clear hcur;have hd1:(⟨#[63]⟩:ByteArray).size=1:=rfl;go_enter func110,ntmps110;go_wp2_with fail;refine (Ig _ _ _ _ _ _ HC.out).mono ?_;rintro e wa ⟨x,⟨_,hx7⟩,hx,rfl,ca,ga⟩;have CA:Hid (Cur D B ao len cap wa):=ca;have HX7:Hid (x.data.toList.head? =some 47):=hx7;clear ca hx7;go_wp2_with fail;refine (T4 2 _ _ _ _ _ _ om om CA.out).mono ?_;rintro e wb ⟨y,rfl,cb,gb⟩;have CB:Hid (Cur D B ao len cap wb):=cb;have GB:Hid (w.grownBy wb (some B)):=bB ga gb;clear cb gb ga
 cases y with
 |true=>
  go_wp2_with fail;refine (Ic _ _ _ _ _ _ CB.out).mono ?_;rintro e wc ⟨z,hz,rfl,cc,gc⟩;have CC:Hid (Cur D B ao len cap wc):=cc;have GC:Hid (w.grownBy wc (some B)):=bB GB.out gc;clear cc gc;go_wp2_with fail;go_ret;exact ⟨_,⟨by rw[ze,ze,hd1];omega,(FX (FX HX7.out _).out _).out⟩,rfl,CC.out,GC.out⟩
 |false=>
  go_wp2_with fail;go_ret;exact ⟨x,⟨om,HX7.out⟩,rfl,CB.out,GB.out⟩
end
section
open Go.RowKit
attribute [local go_sem↓] Go.wp_at_zero Go.wp_at_succ
theorem Cur.moved{D B C:Nat}{ao:Option Addr}{len cap:Nat}{W W':World}(h:Cur D B ao len cap W)(hC:B<C)(hM:nN C W W'):Cur D B ao len cap W':=
 have hb:=hM.2 C W (zi _) (zt _ _)
 h.keep (hb.block B hC) fun k hk=>hb.block k (by have:=h.le;omega)
theorem FY{C:Nat}{w W W':World}{row:Option Nat}(h:w.grownBy W row)(hC:w.heap.size<=C)(hM:nN C W W'):w.grownBy W' row:=
 have hb:=hM.2 _ W hC (zt _ _)
 ⟨hb.os.trans h.os,hb.tape.trans h.tape,hb.output.trans h.output,zq h.size hb.size,fun k hk hr=>(hb.block k hk).trans (h.block k hk hr)⟩
theorem UAt.grown{W W':World}{U B:Nat}{vs:List Value}(h:UAt W U vs)(hg:W.grownBy W' (some B))(hne:U≠B):UAt W' U vs:=by
 have hs:=hg.block U h.2.2 (by intro h;cases h;exact hne rfl);refine ⟨fun j v hv=>(World.cell?_of_block (w:=W) (a:=⟨U,j,none⟩) hs).trans (h.1 j v hv),fun j=>(World.frozen?_of_block (w:=W) (a:=⟨U,j,none⟩) hs).trans (h.2.1 j),zl h.2.2 hg.size⟩
def SD(D B:Nat)(ao:Option Addr)(len cap:Nat)(w:World)(U:Nat)(row:List Value)(W:World):Prop:=
 Cur D B ao len cap W/\w.grownBy W (some B)/\(∃rr:List Value,rr.length=16/\UAt W w.heap.size rr)/\UAt W U row/\w.heap.size<U/\B<w.heap.size
section
variable {D B:Nat} {ao:Option Addr} {len cap:Nat} {w:World} {U:Nat} {row:List Value} {W W':World}
theorem SD.below(h:SD D B ao len cap w U row W)(hb:Below W.heap.size W W'):SD D B ao len cap w U row W':=by
 obtain ⟨h1,h2,⟨rr,hl,h3⟩,h4,h5⟩:=h;exact ⟨h1.below fun k hk=>hb.block k hk,BL h2 hb,⟨rr,hl,h3.below hb⟩,h4.below hb,h5⟩
theorem SD.drew(h:SD D B ao len cap w U row W):SD D B ao len cap w U row W.drew:=⟨h.1,⟨h.2.1.os,h.2.1.tape,h.2.1.output,h.2.1.size,h.2.1.block⟩,h.2.2⟩
theorem SD.grown(h:SD D B ao len cap w U row W)(hc:Cur D B ao len cap W')(hg:W.grownBy W' (some B)):SD D B ao len cap w U row W':=by
 obtain ⟨h1,h2,⟨rr,hl,h3⟩,h4,h5,h6⟩:=h;exact ⟨hc,bB h2 hg,⟨rr,hl,h3.grown hg om⟩,h4.grown hg om,h5,h6⟩
theorem SD.alloc(h:SD D B ao len cap w U row W)(o:Obj):SD D B ao len cap w U row (W.alloc o):=h.below ((zt _ _).alloc (zi _) o)
theorem SD.moved{row':List Value}(h:SD D B ao len cap w U row W)(hM:nN U W W')(hU:UAt W' U row'):SD D B ao len cap w U row' W':=by
 obtain ⟨h1,h2,⟨rr,hl,h3⟩,h4,h5,h6⟩:=h;exact ⟨h1.moved om hM,FY h2 om hM,⟨rr,hl,hM.1 _ _ om h3⟩,hU,h5,h6⟩
theorem SD.res{rr:List Value}(h:SD D B ao len cap w U row W)(hM:nN w.heap.size W W')(hl:rr.length=16)(hU:UAt W' w.heap.size rr):SD D B ao len cap w U row W':=by
 obtain ⟨h1,h2,_,h4,h5,h6⟩:=h;exact ⟨h1.moved h6 hM,FY h2 (zi _) hM,⟨rr,hl,hU⟩,hM.1 _ _ om h4,h5,h6⟩
theorem SD.set(h:SD D B ao len cap w U row W)(j:Nat)(hj:j<row.length)(v:Value):SD D B ao len cap w U (row.set j v) (W.setCell ⟨U,j,none⟩ v):=by
 obtain ⟨h1,h2,⟨rr,hl,h3⟩,h4,h5,h6⟩:=h;exact ⟨h1.set om v,cW h2 om v,⟨rr,hl,h3.other om j v⟩,h4.set j hj v,h5,h6⟩
end
theorem WN(l:ByteArray)(h:l.size<=3000):(nP l).size<=100000/\(lR l).size<=1048576:=by
 obtain ⟨h1,h2⟩:=nQ (p:=fun c=>c !=63) l;have h3:(oN l).size<=3000:=by unfold oN;omega
 have h4:(gL l).size<=3000:=by unfold gL;omega
 have h5:(iU (oN l)).size<=3000:=by
  unfold iU;split
  .decide
  exact h3
 constructor
 .unfold nP
  refine zq (uO _) (zq (nR _ _) ?_);rw[dO,gT];have e:(iU (oN l)).data.toList.length=(iU (oN l)).size:=by simp
  omega
 unfold lR;refine zq (nR _ _) ?_;rw[ByteArray.size_extract];omega
theorem Gd(D B:Nat)(ao:Option Addr)(len cap:Nat)(w:World)(hcur:Cur D B ao len cap w):Calls prog 69 #[H (some ⟨B,0,none⟩)] w fun e w'=> ∃(s k n p:Int) (nm a r:ByteArray) (q:Bool) (x0 x1 x2 x3 x4 x5 x6 x7:Int),(nm.size<=1048576/\a.size<=100000/\r.size<=1048576/\uOk ⟨s,⟨k,nm,n,[x0,x1,x2,x3,x4,x5,x6,x7]⟩,p,a,q,r⟩=true)/\e=Y (.agg (aC s k nm n x0 x1 x2 x3 x4 x5 x6 x7 p a q r).toArray)/\Cur D B ao len cap w'/\w.grownBy w' (some B):=by
 have hB:=hcur.lt;obtain ⟨O,hO⟩: ∃O,O=w.alloc (Z #[I J 0,I J 0,L ⟨#[]⟩,I J 0,I J 0,I J 0,I J 0,I J 0,I J 0,I J 0,I J 0,I J 0,I J 0,L ⟨#[]⟩,.bool false,L ⟨#[]⟩] 28):=⟨_,rfl⟩;have HC:Hid (Cur D B ao len cap O):=by rw[hO];exact hcur.alloc _
 have HG:Hid (w.grownBy O (some B)):=by rw[hO];exact zo w _ _
 have HU:Hid (UAt O w.heap.size aY):=by rw[hO];exact UAt.new w _ _
 clear hcur;go_enter func69,ntmps69;go_wp2_with fail;rw[<-hO];refine (kM 2 _ _ _ _ _ _ om om HC.out).mono ?_;rintro e wa ⟨y,hy0,hy1,rfl,ca,ga⟩;have CA:Hid (Cur D B ao len cap wa):=ca;have GA:Hid (w.grownBy wa (some B)):=bB HG.out ga;have UA:Hid (UAt wa w.heap.size aY):=HU.out.grown ga om;clear ca ga HC HG HU hO;go_wp2_with fail;refine (If _ _ _ _ _ _ CA.out).mono ?_;rintro e wb ⟨k,n,nm,x0,x1,x2,x3,x4,x5,x6,x7,⟨hs,hok⟩,rfl,cb,gb⟩;have HOK:Hid (hOk ⟨k,nm,n,[x0,x1,x2,x3,x4,x5,x6,x7]⟩=true):=hok;clear hok;have SB:Hid (SD D B ao len cap w wb.heap.size (aC 0 0 ⟨#[]⟩ 0 0 0 0 0 0 0 0 0 0 ⟨#[]⟩ false ⟨#[]⟩) (wb.alloc (Z #[I J 0,I J 0,L ⟨#[]⟩,I J 0,I J 0,I J 0,I J 0,I J 0,I J 0,I J 0,I J 0,I J 0,I J 0,L ⟨#[]⟩,.bool false,L ⟨#[]⟩] 28))):=
  have hu:=UA.out.grown gb om
  ⟨cb.alloc _,gJ (bB GA.out gb) _,⟨_,rfl,hu.below ((zt _ _).alloc (zi _) _)⟩,UAt.new wb _ _,hu.2.2,hB⟩
 clear cb gb CA GA UA
 go_upto_region 2 with (refine dI SB.out.2.2.2.1 rfl (us:=aC (1+y) k nm n x0 x1 x2 x3 x4 x5 x6 x7 0 ⟨#[]⟩ false ⟨#[]⟩) rfl (aS ..) rfl _ _ rfl rfl rfl ?_;intro w5 HU5 HM5)
 have S5:Hid (SD D B ao len cap w wb.heap.size (aC (1+y) k nm n x0 x1 x2 x3 x4 x5 x6 x7 0 ⟨#[]⟩ false ⟨#[]⟩) w5):=SB.out.moved HM5 HU5;clear HU5 HM5 SB;generalize wb.heap.size=U at S5⊢;have HDP:Hid (cJ (1+y)≠0):=by
  show _≠_;unfold cJ;split
  .decide
  rw[if_pos (show (1+y)=2 by omega)]
  decide
 generalize 1+y=s at S5 HDP⊢;have hBw:B<w5.heap.size:=S5.out.1.lt;have CD:Hid (∀W,CS 37 #[I J s] W (I J (cJ s))):=fun W=>AE s W
 have HPD:Hid (1<=cJ s/\cJ s<=65535):=SS HDP.out;have HDS:Hid (cJ s≠0):=HDP.out;clear HDP;generalize cJ s=d at CD HPD;refine wp_region_held_drew (S:=fun W=> ∃p:Int,SD D B ao len cap w U (aC s k nm n x0 x1 x2 x3 x4 x5 x6 x7 p ⟨#[]⟩ false ⟨#[]⟩) W) kr ⟨0,S5.out.drew⟩ (fun h0=> ?_);clear S5;refine wpAnyH_take (i:=0) (v:= ?_) rfl kr kr kr (fun _ _ _ h=>h) (Or.inl ⟨by rfl,fun W hW=> ?_⟩) h0 ?_;rotate_left
 .clear hW
  go_simp
  try with_reducible rfl
 simp only[zp,zd,zc,za,zf,zg];refine wpAnyH_take (i:=1) (v:= ?_) rfl kr kr kr (fun _ _ _ h=>h) (Or.inl ⟨by rfl,fun W hW=> ?_⟩) h0 ?_;rotate_left
 .clear hW
  go_simp
  try with_reducible rfl
 simp only[zp,zd,zc,zh,za,zf,zg];refine wpAnyH_take (i:=2) (v:= ?_) rfl kr kr kr (fun _ _ _ h=>h) (Or.inl ⟨by rfl,fun W hW=> ?_⟩) h0 ?_;rotate_left
 .have c:=hW.choose_spec.2.2.2.1.1 0 _ rfl
  go_simp
  try with_reducible rfl
 simp only[zp,zd,zc,zh,za,zf,zg];refine wpAnyH_take (i:=4) (v:= ?_) rfl kr kr kr (fun _ _ _ h=>h) (Or.inl ⟨by rfl,fun W hW=> ?_⟩) h0 ?_;rotate_left
 .clear hW
  go_simp
  try with_reducible rfl
 simp only[zp,zd,zc,zh,za,zf,zg];refine wpAnyH_take (i:=5) (v:= ?_) rfl kr kr kr (fun _ _ _ h=>h) (Or.inl ⟨by rfl,fun W hW=> ?_⟩) h0 ?_;rotate_left
 .have c:=hW.choose_spec.2.2.2.1.1 0 _ rfl
  go_simp
  try with_reducible rfl
 simp only[zp,zd,zc,zh,za,zf,zg];refine wpAnyH_ready (rs:=[3]) kr j2 (zj rfl (fun K hK=> ?_) zk);go_simp;go_wp2_with (go_at_call 37;refine (CD.out _).mono ?_;rintro e wq ⟨rfl,rfl⟩);refine hK.out _ _ h0 (fun h1=> ?_);clear hK K h1;refine wpAnyH_ready (rs:=[6]) kr j2 (zj rfl (fun K hK=> ?_) zk);go_simp;go_wp2_with (go_at_call 37;refine (CD.out _).mono ?_;rintro e wq ⟨rfl,rfl⟩);refine hK.out _ _ h0 (fun h1=> ?_);clear hK K h1;refine wpAnyH_ready (rs:=[7]) kr j2 (zj rfl (fun K hK=> ?_) zk);go_simp;obtain ⟨p0,g0⟩:=h0;refine hK.out _ _ ⟨p0,g0.alloc _⟩ (fun h1=> ?_);clear hK K h1;refine wpAnyH_ready (rs:=[8]) kr j2 (zj rfl (fun K hK=> ?_) zk);go_simp;go_wp2_with (go_at_call 77;refine (T5 7 _ 7 0 [d,d,80,443,8080,1,65535] _ _ _ _ _ _ om om (g0.alloc _).1 (zn w5 _ 7 (zs _) de rfl) om).mono ?_;rintro e wc ⟨z,hz,rfl,cc,gc⟩);have HZ:Hid (1<=z/\z<=65535):=by
  have hd:=HPD.out;show _/\_;simp only[List.mem_cons,List.not_mem_nil,or_false]at hz;omega
 clear hz;have g1:=(g0.alloc _).grown cc gc;refine hK.out _ _ ⟨p0,g1⟩ (fun h1=> ?_);clear hK K g0 cc gc;refine wpAnyH_take (i:=9) (v:= ?_) rfl kr kr kr (fun _ _ _ h=>h) (Or.inl ⟨by rfl,fun W hW=> ?_⟩) h1 ?_;rotate_left
 .clear hW
  go_simp
  try with_reducible rfl
 simp only[zp,zd,zc,zh,za,zf,zg];have c12:=g1.2.2.2.1.1 12 _ rfl;have f12:=g1.2.2.2.1.2.1 12;refine wpAnyH_ready (rs:=[10]) kr j2 (zj rfl (fun K hK=> ?_) zk);go_simp;refine hK.out _ _ ⟨z,g1.set 12 (by show 12<16;decide) (I J z)⟩ (fun h2=> ?_);clear hK K h1 c12 f12;refine wpAnyH_done kr ?_ _;have S6:Hid (SD D B ao len cap w U (aC s k nm n x0 x1 x2 x3 x4 x5 x6 x7 z ⟨#[]⟩ false ⟨#[]⟩) (wc.setCell ⟨U,12,none⟩ (I J z))):=g1.set 12 (by show 12<16;decide) (I J z);clear g1 h2;generalize wc.setCell ⟨U,12,none⟩ (I J z)=w6 at S6⊢
 go_upto_region 3 with fail
 refine wp_region_held_drew (S:=SD D B ao len cap w U (aC s k nm n x0 x1 x2 x3 x4 x5 x6 x7 z ⟨#[]⟩ false ⟨#[]⟩)) kr S6.out.drew (fun h0=> ?_);clear S6;refine wpAnyH_take (i:=0) (v:=.agg (aC s k nm n x0 x1 x2 x3 x4 x5 x6 x7 z ⟨#[]⟩ false ⟨#[]⟩).toArray) rfl kr kr kr (fun _ _ _ h=>h) (yieldsIf_load_mid (by rfl) _ _ rfl U 0 rfl (aC s k nm n x0 x1 x2 x3 x4 x5 x6 x7 z ⟨#[]⟩ false ⟨#[]⟩) _ (fun W hW=>hW.2.2.2.1.range 0 _ (fun j v hv=>by rw[Nat.zero_add];exact hv)) underlying28 rfl infoUrl) h0 ?_;simp only[zp,zd,zc,za,zf,zg];refine wpAnyH_take (i:=1) (v:= ?_) rfl kr kr kr (fun _ _ _ h=>h) (Or.inl ⟨by rfl,fun W hW=> ?_⟩) h0 ?_;rotate_left
 .clear hW
  go_simp
  try with_reducible rfl
 simp only[zp,zd,zc,zh,za,zf,zg];refine wpAnyH_ready (rs:=[2]) kr j2 (zj rfl (fun K hK=> ?_) zk);go_simp;go_wp2_with (go_at_call 110;refine (Fr _ _ _ _ _ _ h0.1).mono ?_;rintro e wq ⟨l,⟨hl,hl7⟩,rfl,cq,gq⟩);have HUO:Hid (uOk ⟨s,⟨k,nm,n,[x0,x1,x2,x3,x4,x5,x6,x7]⟩,z,nP l,tZ l,lR l⟩=true):=by
  show _=_;rw[<-NH s ⟨k,nm,n,[x0,x1,x2,x3,x4,x5,x6,x7]⟩ z l];refine qZ HDS.out HOK.out HZ.out fun c r e=> ?_
  rw[e]at hl7
  cases hl7
  rfl
 clear hl7;have g1:=h0.grown cq gq;refine hK.out _ _ g1 (fun h1=> ?_);clear hK K h1 h0 cq gq;refine wpAnyH_ready (rs:=[3]) kr j2 (zj rfl (fun K hK=> ?_) zk);go_simp;go_wp2_with (go_at_call 59;refine j6 (Ar s k n z nm ⟨#[]⟩ ⟨#[]⟩ false x0 x1 x2 x3 x4 x5 x6 x7 l _ om) fun wr hbr=>?_);have g2:=g1.below hbr;refine hK.out _ _ g2 (fun h1=> ?_);clear hK K h1 g1 hbr;obtain ⟨hA,hR⟩:=WN l hl;generalize nP l=A at hA HUO⊢;generalize lR l=R at hR HUO⊢;generalize tZ l=Q at HUO⊢;obtain ⟨rr,hrl,hN⟩:=g2.2.2.1;refine wpAnyH_ready (rs:=[4]) kr j2 (zj rfl (fun K hK=> ?_) zk);rw[if_pos (by rfl)];refine wp_store_mid _ _ _ rfl w.heap.size 0 (aC s k nm n x0 x1 x2 x3 x4 x5 x6 x7 z A Q R).toArray rfl rfl (hN.there 0 16 (by rw[hrl];decide)) infoUrl (aS ..) ?_;have hM:=bS (C:=w.heap.size) (aC s k nm n x0 x1 x2 x3 x4 x5 x6 x7 z A Q R).toArray.toList 0 wr;have hU:=fW (us:=aC s k nm n x0 x1 x2 x3 x4 x5 x6 x7 z A Q R) hN hrl rfl;have g3:=g2.res hM rfl hU;generalize wr.setCells w.heap.size 0 (aC s k nm n x0 x1 x2 x3 x4 x5 x6 x7 z A Q R).toArray.toList=w9 at hM hU g3⊢;refine hK.out _ _ g3 (fun h2=> ?_);clear hK K h2 g2 hM hN;refine wpAnyH_done kr ?_ _;simp only[zp];go_wp2_with fail;refine bodyPost_ret (fM rfl _ _ w.heap.size (aC s k nm n x0 x1 x2 x3 x4 x5 x6 x7 z A Q R) rfl rfl hU) rfl ⟨s,k,n,z,nm,A,R,Q,x0,x1,x2,x3,x4,x5,x6,x7,⟨hs,hA,hR,HUO.out⟩,rfl,g3.1,g3.2.1⟩
