/- Draw2Walk, Draw4Walk, Draw6Walk, Draw6More, Draw7Walk, Draw8Walk, Draw9Walk. -/
import Derived.Test.YtgcbaphbiaimoaaGreatDoorQB23
set_option maxHeartbeats 8000000
set_option maxRecDepth 100000
namespace Go.Proofs.YtgcbaphbiaimoaaGreatDoor
open Go.Value renaming int->I,string->L,pointer->H
open Go.IntKind renaming i64->J
open Go.Ending renaming returned->Y
open Go.Obj renaming cells->Z
open _root_.Go.RowKit.Below renaming heap_alloc->zi
open _root_.ByteArray renaming size->zk,size_append->za
open _root_.Int renaming eq_ofNat_of_zero_le->zh
open _root_.List renaming size_toArray->zm
open _root_.Nat renaming le_refl->ze,lt_of_lt_of_le->zg,zero_le->zf
open _root_.Go.World renaming grownBy_alloc->zj,ownsRow_lit->zd
open _root_.Go.Proofs.Tryz
open _root_.Go.Proofs.YtgcbaphbiaimoaaGreatDoor.Tryz
section
open Go.RowKit
theorem RH(D B:Nat)(ao:Option Addr)(len cap:Nat)(w:World)(hcur:Cur D B ao len cap w):Calls prog 79 #[H (some ⟨B,0,none⟩)] w fun e w'=> ∃z:ByteArray,z.size<=1000/\e=Y (L z)/\Cur D B ao len cap w'/\w.grownBy w' (some B):=by
 have HC:Hid (Cur D B ao len cap w):=hcur;clear hcur;go_enter func79,ntmps79;go_wp2_with fail;refine (fC 7 _ _ _ _ _ _ om om HC.out).mono ?_;rintro e wa ⟨x,hx0,hx1,rfl,ca,ga⟩;have CA:Hid (Cur D B ao len cap wa):=ca;clear ca;obtain ⟨n,rfl⟩:=zh hx0;go_wp2_with fail
 go_loopw[3,4] (fun a i wr=> ∃(k:Nat) (z:ByteArray),k<=n/\i=I J k/\a=L z/\z.size+20*k<=20*n/\Cur D B ao len cap wr/\w.grownBy wr (some B)) (fun _ i _=>(intOf i).toNat)
 case atStart=>exact ⟨n,⟨#[]⟩,ze _,rfl,rfl,by simp[zk],CA.out,ga⟩
 obtain ⟨k,z,hk,rfl,rfl,hz,hcu,hgr⟩:=hrel;have HU:Hid (Cur D B ao len cap wr):=hcu;have hB:=hcu.lt;clear hcu
 by_cases hp:0<k
 .go_wp2_with fail
  refine (oE 20 17 _ 17 0 _ _ _ _ _ _ _ om om (HU.out.alloc _) (zd wr _ 17 (zf _) de rfl) om de).mono ?_;rintro e wc ⟨y,hy,rfl,cc,gc⟩;have CC:Hid (Cur D B ao len cap wc):=cc;have G:=aJ (cZ hgr _) gc;clear cc gc hgr;go_wp2_with fail;go_roundw
  case rel=>exact ⟨k-1,z++y,om,gn,rfl,by rw[za];omega,CC.out,G⟩
  case measure=>exact j1
 go_wp2_with fail;go_ret;exact ⟨z,om,rfl,HU.out,hgr⟩
theorem RI(D B:Nat)(ao:Option Addr)(len cap:Nat)(w:World)(hcur:Cur D B ao len cap w):Calls prog 181 #[H (some ⟨B,0,none⟩)] w fun e w'=> ∃z:ByteArray,z.size<=20/\e=Y (L z)/\Cur D B ao len cap w'/\w.grownBy w' (some B):=by
 have HC:Hid (Cur D B ao len cap w):=hcur;have hB:=hcur.lt;clear hcur;go_enter func181,ntmps181;go_wp2_with fail;refine (oE 20 16 _ 16 0 _ _ _ _ _ _ _ om om (HC.out.alloc _) (zd w _ 16 (zf _) de rfl) om de).mono ?_;rintro e wc ⟨y,hy,rfl,cc,gc⟩;have CC:Hid (Cur D B ao len cap wc):=cc;have G:=aJ (zj w _ (some B)) gc;clear cc gc;go_wp2_with fail;go_ret;exact ⟨y,hy,rfl,CC.out,G⟩
theorem A6(D B:Nat)(ao:Option Addr)(len cap:Nat)(w:World)(hcur:Cur D B ao len cap w):Calls prog 131 #[H (some ⟨B,0,none⟩)] w fun e w'=> ∃z:ByteArray,z.size<=80/\e=Y (L z)/\Cur D B ao len cap w'/\w.grownBy w' (some B):=by
 have HC:Hid (Cur D B ao len cap w):=hcur;clear hcur;go_enter func131,ntmps131;go_wp2_with fail;refine (wB 5 _ _ _ _ _ _ om om HC.out).mono ?_;rintro e wa ⟨b,rfl,ca,ga⟩;have CA:Hid (Cur D B ao len cap wa):=ca;have hB:=ca.lt;clear ca
 cases b with
 |true=>
  go_wp2_with fail;refine (oE 80 15 _ 15 0 _ _ _ _ _ _ _ om om (CA.out.alloc _) (zd wa _ 15 (zf _) de rfl) om de).mono ?_;rintro e wc ⟨y,hy,rfl,cc,gc⟩;have CC:Hid (Cur D B ao len cap wc):=cc;have G:=aJ (cZ ga _) gc;clear cc gc ga;go_wp2_with fail;go_ret;exact ⟨y,hy,rfl,CC.out,G⟩
 |false=>
  go_wp2_with fail;refine (RI _ _ _ _ _ _ CA.out).mono ?_;rintro e wc ⟨y,hy,rfl,cc,gc⟩;have CC:Hid (Cur D B ao len cap wc):=cc;have G:=aJ ga gc;clear cc gc ga;go_wp2_with fail;go_ret;exact ⟨y,om,rfl,CC.out,G⟩
theorem Nr(D B:Nat)(ao:Option Addr)(len cap:Nat)(w:World)(hcur:Cur D B ao len cap w):Calls prog 180 #[H (some ⟨B,0,none⟩)] w fun e w'=> ∃z:ByteArray,z.size<=100/\e=Y (L z)/\Cur D B ao len cap w'/\w.grownBy w' (some B):=by
 have HC:Hid (Cur D B ao len cap w):=hcur;clear hcur;go_enter func180,ntmps180;go_wp2_with fail;refine (RI _ _ _ _ _ _ HC.out).mono ?_;rintro e wz ⟨z0,hz0,rfl,cz,gz⟩;have CZ:Hid (Cur D B ao len cap wz):=cz;clear cz;go_wp2_with fail;refine (fC 4 _ _ _ _ _ _ om om CZ.out).mono ?_;rintro e wa ⟨x,hx0,hx1,rfl,ca,ga⟩;have CA:Hid (Cur D B ao len cap wa):=ca;have GA:=aJ gz ga;clear ca gz ga;obtain ⟨n,rfl⟩:=zh hx0;go_wp2_with fail
 go_loopw[3,4] (fun a i wr=> ∃(k:Nat) (z:ByteArray),k<=n/\i=I J k/\a=L z/\z.size+21*k<=20+21*n/\Cur D B ao len cap wr/\w.grownBy wr (some B)) (fun _ i _=>(intOf i).toNat)
 case atStart=>exact ⟨n,z0,ze _,rfl,rfl,om,CA.out,GA⟩
 obtain ⟨k,z,hk,rfl,rfl,hz,hcu,hgr⟩:=hrel;have HU:Hid (Cur D B ao len cap wr):=hcu;clear hcu
 by_cases hp:0<k
 .have hd1:(⟨#[46]⟩:ByteArray).size=1:=rfl
  go_wp2_with fail;refine (RI _ _ _ _ _ _ HU.out).mono ?_;rintro e wc ⟨y,hy,rfl,cc,gc⟩;have CC:Hid (Cur D B ao len cap wc):=cc;have G:=aJ hgr gc;clear cc gc hgr;go_wp2_with fail;go_roundw
  case rel=>exact ⟨k-1,_,om,gn,rfl,by rw[za,za,hd1];omega,CC.out,G⟩
  case measure=>exact j1
 go_wp2_with fail;go_ret;exact ⟨z,om,rfl,HU.out,hgr⟩
theorem A7(ao:Option Addr)(len cap:Nat)(w:World)(hl:len<=1048576)(hcode:eI w.heap.size w ao len):Calls prog 163 #[.slice ao len cap] w fun e w'=> ∃z:ByteArray,z.size<=100/\e=Y (L z)/\Below w.heap.size w w':=by
 have HCO:Hid (eI w.heap.size w ao len):=hcode;clear hcode;go_enter func163,ntmps163;go_wp2_with fail;refine (Le _ _ _ _ hl HCO.out).mono ?_;rintro e wa ⟨B,rfl,hBw,ca,ba⟩;have CA:Hid (Cur w.heap.size B ao len cap wa):=ca;clear ca;go_wp2_with fail;refine (wB 3 _ _ _ _ _ _ om om CA.out).mono ?_;rintro e wb ⟨b,rfl,cb,gb⟩;have CB:Hid (Cur w.heap.size B ao len cap wb):=cb;have hB:=cb.lt;have B1:Below w.heap.size w wb:=ba.grown gb ba.size (fun k hk=>by cases hk;exact hBw);clear cb gb ba
 cases b with
 |true=>
  go_wp2_with fail;refine (oE 100 10 _ 10 0 _ _ _ _ _ _ _ om om (CB.out.alloc _) (zd wb _ 10 (zf _) de rfl) om de).mono ?_;rintro e wc ⟨y,hy,rfl,cc,gc⟩;have B2:Below w.heap.size w wc:=(B1.alloc B1.size _).grown gc (by simp;have:=B1.size;omega) (fun k hk=>by cases hk;exact hBw);clear cc gc;go_wp2_with fail;go_ret;exact ⟨y,hy,rfl,B2⟩
 |false=>
  go_wp2_with fail;refine (Cf _ _ _ _ _ _ CB.out).mono ?_;rintro e wc ⟨z,hz0,hz1,rfl,cc,gc⟩;have B2:Below w.heap.size w wc:=B1.grown gc B1.size (fun k hk=>by cases hk;exact hBw);clear cc gc;have CI:Hid (∀W,Calls prog 170 #[I J z] W fun e w'=>e=Y (L (fR z))/\Below W.heap.size W w'):=fun W=>BN z W hz0 hz1
  have HS:Hid ((fR z).size<=100):=by
   show _<=_;unfold fR;show (iE z.toNat).toArray.size<=100;rw[zm];unfold iE;have h1:=dY (z.toNat/16777216);have h2:=dY (z.toNat/65536%256);have h3:=dY (z.toNat/256%256);have h4:=dY (z.toNat%256);simp;omega
  generalize fR z=T at CI HS;go_wp2_with fail;refine j4 CI fun wd bd=>?_
  have B3:=B2.trans (bd.mono B2.size);clear bd;go_wp2_with fail;go_ret;exact ⟨T,HS.out,rfl,B3⟩
def nK(l:List Int):List Value:=l.map (Value.int .u8)
theorem RJ(l:List Int)(x:Int):nK (l++[x])=nK l++[Value.int .u8 x]:=by simp[nK]
theorem XE{w:World}{B:Nat}{m:Nat}{v:Value}{zl:List Int}(h:w.ownsRow B 5 1 v m (nK zl))(hz: ∀x∈zl,0<=x/\x<=255): ∃ao cap,v=.slice ao m cap/\eI w.heap.size w ao m:=by
 rcases aY h with ⟨rfl,_,ao,cap,rfl⟩|⟨_,g,cap,rfl⟩
 .exact ⟨ao,cap,rfl,.inl rfl⟩
 refine ⟨_,cap,rfl,.inr ⟨g,0,rfl,(h.lt g rfl).2,fun j hj=> ?_⟩⟩;have hl:zl.length=m:=by have:=h.1;simpa[nK] using this
 have hj':j<zl.length:=om;refine ⟨zl[j],?_,hz _ (List.getElem_mem hj')⟩;rw[Nat.zero_add,h.cellAt j om];simp[nK,hj']
theorem Kw(n:Nat)(D B:Nat)(ao:Option Addr)(len cap:Nat)(w:World)(hn:n<=1000)(hcur:Cur D B ao len cap w):Calls prog 164 #[H (some ⟨B,0,none⟩),I J (n:Int)] w fun e w'=> ∃(v:Value) (zl:List Int),e=Y v/\(∀x∈zl,0<=x/\x<=255)/\w'.ownsRow w.heap.size 5 1 v n (nK zl)/\Cur D B ao len cap w'/\w.grownBy w' (some B):=by
 have hB:=hcur.lt;have HC:Hid (Cur D B ao len cap (w.alloc (Z #[] 5))):=hcur.alloc _;have HO:(w.alloc (Z #[] 5)).ownsRow w.heap.size 5 1 (.slice (some ⟨w.heap.size,0,none⟩) 0 0) 0 []:=zd w #[] 0 (ze _) de rfl;have G0:w.grownBy (w.alloc (Z #[] 5)) (some B):=zj w _ _;clear hcur;go_enter func164,ntmps164;go_wp2_with fail
 go_loopw[5,6] (fun v i wr=> ∃(k:Nat) (zl:List Int),k<=n/\i=I J k/\(∀x∈zl,0<=x/\x<=255)/\wr.ownsRow w.heap.size 5 1 v k (nK zl)/\some B≠v.ownBlock/\Cur D B ao len cap wr/\w.grownBy wr (some B)) (fun _ i _=>n-(intOf i).toNat)
 case atStart=>exact ⟨0,[],zf _,rfl,by simp,HO,by simp[Value.ownBlock];omega,HC.out,G0⟩
 clear HO G0;obtain ⟨k,zl,hk,rfl,hz,hown,hne,hcu,hgr⟩:=hrel;have HU:Hid (Cur D B ao len cap wr):=hcu;have HZ:Hid (∀x∈zl,0<=x/\x<=255):=hz;have HN:Hid (some B≠u5.ownBlock):=hne;have hBr:=hcu.lt;have hsz:=hgr.size;clear hcu hz hne
 by_cases hlt:k<n
 .have hki:(k:Int)<(n:Int):=om
  go_wp2_with fail;refine (GK _ _ _ _ _ _ HU.out).mono ?_;rintro e wc ⟨y,hy0,hy1,rfl,cc,gc⟩;have CC:Hid (Cur D B ao len cap wc):=cc;have oc:=hown.kept gc (.inr (fun h=>HN.out h.symm));have Gc:=aJ hgr gc;have zc:=Gc.size;have hBc:=cc.lt;clear cc gc hown hgr;go_wp2_with (at_builtin;refine jO _ rfl _ _ 22 rfl w.heap.size 5 (.int .u8 0) 1 underlying22 info5 rfl _ _ _ rfl oc #[.int .u8 y] 1 rfl rfl (by intro u hu;simp at hu;subst hu;rfl) om (by unfold maxLen;omega) zc ?_);intro v' w1 hown' hb1 hkeep;have C1:Cur D B ao len cap w1:=CC.out.keep (hkeep B hBc HN.out) (fun k hk=>hb1.block k (by have:=CC.out.le;omega));have N1:some B≠v'.ownBlock:=by
   intro hx;have h1:=(hown'.cells (g:=B) hx.symm) 0;obtain ⟨i',h',hc,_⟩:=C1
   rcases hown'.2 with ⟨rfl,_⟩|⟨g,cap',cur,rfl,_,hg,_⟩
   .simp[Value.ownBlock]at hx
   simp[Value.ownBlock]at hx;subst hx;rw[hc]at hg;simp at hg
  have G1:w.grownBy w1 (some B):=⟨hb1.os.trans Gc.os,hb1.tape.trans Gc.tape,hb1.output.trans Gc.output,by have:=hb1.size;omega,fun k hk hkB=>(hb1.block k hk).trans (Gc.block k hk hkB)⟩;have O1:w1.ownsRow w.heap.size 5 1 v' (k+1) (nK (zl++[y])):=by rw[RJ];exact hown'
  clear hown' hb1 hkeep oc Gc;go_wp2_with fail;go_roundw
  case rel=>
   refine ⟨k+1,zl++[y],om,gn,?_,O1,N1,C1,G1⟩;intro x hx
   rcases List.mem_append.1 hx with h|h
   .exact HZ.out x h
   rw[List.mem_singleton.1 h];exact ⟨hy0,hy1⟩
  case measure=>exact j1
 have hki: ¬(k:Int)<(n:Int):=om
 obtain rfl:k=n:=om
 go_wp2_with fail;go_ret
 first|exact ⟨_,zl,rfl,HZ.out,hown,HU.out,hgr⟩|exact ⟨_,rfl,zl,HZ.out,hown,HU.out,hgr⟩
theorem A8(s:ByteArray):(rV (aR s)).s.size<=1048576:=by
 have hz:(⟨#[]⟩:ByteArray).size<=1048576:=de;unfold aR;split
 .exact hz
 split
 .unfold iI
  split
  .cases eK _ with
   |none=>exact hz
   |some g=>exact hz
  exact hz
 unfold gW;split
 .exact hz
 rename_i n hn;unfold jY;split
 .split<;>exact hz
 show n.toArray.size<=1048576;rw[zm]
 have:=xY hn
 omega
theorem fD{W:World}{R:Nat}{t:TypeId}(h:W.heap[R]? =some (Z #[I J 0,L ⟨#[]⟩,I J 0,I J 0,I J 0,I J 0,I J 0,I J 0,I J 0,I J 0,I J 0] t (0,0))):qV W R/\ ∀j,W.frozen? ⟨R,j,none⟩=false:=by
 refine ⟨⟨?_,?_,?_,?_,?_,?_,?_,?_,?_,?_,?_⟩,fun j=>frozen_of_row W R j _ t h⟩<;>(rw[cell_of_row W R _ _ t (0,0) h];rfl)
theorem dG{D B:Nat}{ao:Option Addr}{len cap:Nat}{W:World}(h:Cur D B ao len cap W){C:Nat}(hC:B<C)(k n:Int)(s:ByteArray)(x0 x1 x2 x3 x4 x5 x6 x7:Int):Cur D B ao len cap (((((((((((W.setCell ⟨C,0,none⟩ (I J k)).setCell ⟨C,1,none⟩ (L s)).setCell ⟨C,2,none⟩ (I J n)).setCell ⟨C,3,none⟩ (I J x0)).setCell ⟨C,4,none⟩ (I J x1)).setCell ⟨C,5,none⟩ (I J x2)).setCell ⟨C,6,none⟩ (I J x3)).setCell ⟨C,7,none⟩ (I J x4)).setCell ⟨C,8,none⟩ (I J x5)).setCell ⟨C,9,none⟩ (I J x6)).setCell ⟨C,10,none⟩ (I J x7)):=
 ((((((((((h.set hC _).set hC _).set hC _).set hC _).set hC _).set hC _).set hC _).set hC _).set hC _).set hC _).set hC _
theorem cM{w W:World}{row:Option Nat}(h:w.grownBy W row){C:Nat}(hC:w.heap.size<=C)(k n:Int)(s:ByteArray)(x0 x1 x2 x3 x4 x5 x6 x7:Int):w.grownBy (((((((((((W.setCell ⟨C,0,none⟩ (I J k)).setCell ⟨C,1,none⟩ (L s)).setCell ⟨C,2,none⟩ (I J n)).setCell ⟨C,3,none⟩ (I J x0)).setCell ⟨C,4,none⟩ (I J x1)).setCell ⟨C,5,none⟩ (I J x2)).setCell ⟨C,6,none⟩ (I J x3)).setCell ⟨C,7,none⟩ (I J x4)).setCell ⟨C,8,none⟩ (I J x5)).setCell ⟨C,9,none⟩ (I J x6)).setCell ⟨C,10,none⟩ (I J x7)) row:=
 bK (bK (bK (bK (bK (bK (bK (bK (bK (bK (bK h hC _) hC _) hC _) hC _) hC _) hC _) hC _) hC _) hC _) hC _) hC _
theorem A9(D B:Nat)(ao:Option Addr)(len cap:Nat)(w:World)(hcur:Cur D B ao len cap w):Calls prog 128 #[H (some ⟨B,0,none⟩)] w fun e w'=> ∃(k n:Int) (s:ByteArray) (x0 x1 x2 x3 x4 x5 x6 x7:Int),s.size<=1048576/\e=Y (.agg #[I J k,L s,I J n,I J x0,I J x1,I J x2,I J x3,I J x4,I J x5,I J x6,I J x7])/\Cur D B ao len cap w'/\w.grownBy w' (some B):=by
 have hB:=hcur.lt;obtain ⟨O,hO⟩: ∃O,O=w.alloc (Z #[I J 0,L ⟨#[]⟩,I J 0,I J 0,I J 0,I J 0,I J 0,I J 0,I J 0,I J 0,I J 0] 26):=⟨_,rfl⟩;have HC:Hid (Cur D B ao len cap O):=by rw[hO];exact hcur.alloc _
 have HG:Hid (w.grownBy O (some B)):=by rw[hO];exact zj w _ _
 have HH:Hid (O.heap[w.heap.size]? =some (Z #[I J 0,L ⟨#[]⟩,I J 0,I J 0,I J 0,I J 0,I J 0,I J 0,I J 0,I J 0,I J 0] 26 (0,0))):=by rw[hO];exact heap_alloc_new w _
 have HS:Hid (w.heap.size<O.heap.size):=by show _<_;rw[hO];simp
 clear hcur;go_enter func128,ntmps128;go_wp2_with fail;rw[<-hO];refine (fC 6 _ _ _ _ _ _ om om HC.out).mono ?_;rintro e wa ⟨y,hy0,hy1,rfl,ca,ga⟩;have CA:Hid (Cur D B ao len cap wa):=ca;have GA:Hid (w.grownBy wa (some B)):=aJ HG.out ga;have HA:Hid (wa.heap[w.heap.size]? =some (Z #[I J 0,L ⟨#[]⟩,I J 0,I J 0,I J 0,I J 0,I J 0,I J 0,I J 0,I J 0,I J 0] 26 (0,0))):=(ga.block _ HS.out (by intro h;cases h;omega)).trans HH.out;have SA:Hid (w.heap.size<wa.heap.size):=zg HS.out ga.size;clear ca ga HC HG HH HS hO
 by_cases y0:y=0
 .subst y0
  go_wp2_with fail;refine (Cf _ _ _ _ _ _ CA.out).mono ?_;rintro e wb ⟨z,hz0,hz1,rfl,cb,gb⟩;have CB:Hid (Cur D B ao len cap wb):=cb;have GB:Hid (w.grownBy wb (some B)):=aJ GA.out gb;have hh:=fD ((gb.block _ SA.out (by intro h;cases h;omega)).trans HA.out);have HR:Hid (eX wb w.heap.size (bD 0 ⟨#[]⟩ 0 0 0 0 0 0 0 0 0)):=cH hh.1;obtain ⟨⟨c0,c1,c2,c3,c4,c5,c6,c7,c8,c9,c10⟩,fz⟩:=hh;clear cb gb;go_wp2_with fail;refine bodyPost_ret (cE rfl _ _ w.heap.size 2 z ⟨#[]⟩ 0 0 0 0 0 0 0 0 rfl (bO HR.out 2 z ⟨#[]⟩ 0 0 0 0 0 0 0 0)) rfl ⟨2,z,⟨#[]⟩,0,0,0,0,0,0,0,0,de,rfl,dG CB.out hB 2 z ⟨#[]⟩ 0 0 0 0 0 0 0 0,cM GB.out (ze _) 2 z ⟨#[]⟩ 0 0 0 0 0 0 0 0⟩
 by_cases y1:y=1
 .subst y1
  go_wp2_with fail;refine (l5Six _ _ _ _ _ _ CA.out).mono ?_;rintro e wb ⟨x0,x1,x2,x3,x4,x5,x6,x7,_,rfl,cb,gb⟩;have CB:Hid (Cur D B ao len cap wb):=cb;have GB:Hid (w.grownBy wb (some B)):=aJ GA.out gb;have hh:=fD ((gb.block _ SA.out (by intro h;cases h;omega)).trans HA.out);have HR:Hid (eX wb w.heap.size (bD 0 ⟨#[]⟩ 0 0 0 0 0 0 0 0 0)):=cH hh.1;obtain ⟨⟨c0,c1,c2,c3,c4,c5,c6,c7,c8,c9,c10⟩,fz⟩:=hh;clear cb gb;go_wp2_with fail;refine bodyPost_ret (cE rfl _ _ w.heap.size 3 0 ⟨#[]⟩ x0 x1 x2 x3 x4 x5 x6 x7 rfl (bO HR.out 3 0 ⟨#[]⟩ x0 x1 x2 x3 x4 x5 x6 x7)) rfl ⟨3,0,⟨#[]⟩,x0,x1,x2,x3,x4,x5,x6,x7,de,rfl,dG CB.out hB 3 0 ⟨#[]⟩ x0 x1 x2 x3 x4 x5 x6 x7,cM GB.out (ze _) 3 0 ⟨#[]⟩ x0 x1 x2 x3 x4 x5 x6 x7⟩
 have q0:(y==0)=false:=beq_eq_false_iff_ne.2 y0;have q1:(y==1)=false:=beq_eq_false_iff_ne.2 y1;go_wp2_with fail
 go_loopw[3] (fun i wr=> ∃k:Nat,k<=5/\i=I J k/\Cur D B ao len cap wr/\w.grownBy wr (some B)/\wr.heap[w.heap.size]? =some (Z #[I J 0,L ⟨#[]⟩,I J 0,I J 0,I J 0,I J 0,I J 0,I J 0,I J 0,I J 0,I J 0] 26 (0,0))/\w.heap.size<wr.heap.size) (fun i _=>5-(intOf i).toNat)
 case atStart=>exact ⟨0,de,rfl,CA.out,GA.out,HA.out,SA.out⟩
 obtain ⟨k,hk,rfl,hcu,hgr,hh,hsz⟩:=hrel;have HU:Hid (Cur D B ao len cap wr):=hcu;have HG:Hid (w.grownBy wr (some B)):=hgr;have HH:Hid (wr.heap[w.heap.size]? =some (Z #[I J 0,L ⟨#[]⟩,I J 0,I J 0,I J 0,I J 0,I J 0,I J 0,I J 0,I J 0,I J 0] 26 (0,0))):=hh;have HSZ:Hid (w.heap.size<wr.heap.size):=hsz;clear hcu hgr hh hsz CA GA HA SA
 by_cases hlt:k<5
 .have hki:(k:Int)<5:=om
  go_wp2_with fail;refine (Nr _ _ _ _ _ _ HU.out).mono ?_;rintro e wc ⟨z,hz,rfl,cc,gc⟩;have CC:Hid (Cur D B ao len cap wc):=cc;have GC:Hid (w.grownBy wc (some B)):=aJ HG.out gc;have HC:Hid (wc.heap[w.heap.size]? =some (Z #[I J 0,L ⟨#[]⟩,I J 0,I J 0,I J 0,I J 0,I J 0,I J 0,I J 0,I J 0,I J 0] 26 (0,0))):=(gc.block _ HSZ.out (by intro h;cases h;omega)).trans HH.out;have SC:Hid (w.heap.size<wc.heap.size):=zg HSZ.out gc.size;have CP:Hid (Calls prog 58 #[L z] wc fun e w'=>e=Y (.tuple #[fP (rV (aR z)),I J (rC (aR z))])/\Below wc.heap.size wc w'):=vH z wc om;obtain ⟨x0,x1,x2,x3,x4,x5,x6,x7,_,hv⟩:=vG _ (iK z);have hvs:(rV (aR z)).s.size<=1048576:=A8 z;rw[hv]at CP;generalize rC (aR z)=C at CP;generalize (rV (aR z)).k=kk at CP;generalize (rV (aR z)).s=t at CP hvs;generalize (rV (aR z)).n=n at CP;clear cc gc hv;go_wp2_with fail;refine CP.out.mono ?_;rintro e wd ⟨rfl,bd⟩;have CD:Hid (Cur D B ao len cap (wd.alloc (Z #[I J kk,L t,I J n,I J x0,I J x1,I J x2,I J x3,I J x4,I J x5,I J x6,I J x7] 26))):=(CC.out.below bd.block).alloc _;have GD:Hid (w.grownBy (wd.alloc (Z #[I J kk,L t,I J n,I J x0,I J x1,I J x2,I J x3,I J x4,I J x5,I J x6,I J x7] 26)) (some B)):=cZ (rA GC.out bd) _;have HD0:wd.heap[w.heap.size]? =some (Z #[I J 0,L ⟨#[]⟩,I J 0,I J 0,I J 0,I J 0,I J 0,I J 0,I J 0,I J 0,I J 0] 26 (0,0)):=(bd.block _ SC.out).trans HC.out;have SD0:w.heap.size<wd.heap.size:=zg SC.out bd.size;have HD:Hid ((wd.alloc (Z #[I J kk,L t,I J n,I J x0,I J x1,I J x2,I J x3,I J x4,I J x5,I J x6,I J x7] 26)).heap[w.heap.size]? =some (Z #[I J 0,L ⟨#[]⟩,I J 0,I J 0,I J 0,I J 0,I J 0,I J 0,I J 0,I J 0,I J 0] 26 (0,0))):=(zi wd _ _ SD0).trans HD0;have SD:Hid (w.heap.size<(wd.alloc (Z #[I J kk,L t,I J n,I J x0,I J x1,I J x2,I J x3,I J x4,I J x5,I J x6,I J x7] 26)).heap.size):=by show _<_;simp;omega
  clear bd HD0 SD0
  by_cases hC:C=0
  .subst hC
   have hh:=fD HD.out;have HR:Hid (eX (wd.alloc (Z #[I J kk,L t,I J n,I J x0,I J x1,I J x2,I J x3,I J x4,I J x5,I J x6,I J x7] 26)) w.heap.size (bD 0 ⟨#[]⟩ 0 0 0 0 0 0 0 0 0)):=cH hh.1;obtain ⟨⟨c0,c1,c2,c3,c4,c5,c6,c7,c8,c9,c10⟩,fz⟩:=hh;go_wp2_with fail;refine bodyPost_ret (cE rfl _ _ w.heap.size kk n t x0 x1 x2 x3 x4 x5 x6 x7 rfl (bO HR.out kk n t x0 x1 x2 x3 x4 x5 x6 x7)) rfl ⟨kk,n,t,x0,x1,x2,x3,x4,x5,x6,x7,hvs,rfl,dG CD.out hB kk n t x0 x1 x2 x3 x4 x5 x6 x7,cM GD.out (ze _) kk n t x0 x1 x2 x3 x4 x5 x6 x7⟩
  have qC:(C==0)=false:=beq_eq_false_iff_ne.2 hC;go_wp2_with fail;go_roundw
  case rel=>exact ⟨k+1,om,gn,CD.out,GD.out,HD.out,SD.out⟩
  case measure=>exact j1
 have hki: ¬(k:Int)<5:=om;have hh:=fD HH.out;have HR:Hid (eX wr w.heap.size (bD 0 ⟨#[]⟩ 0 0 0 0 0 0 0 0 0)):=cH hh.1;obtain ⟨⟨c0,c1,c2,c3,c4,c5,c6,c7,c8,c9,c10⟩,fz⟩:=hh;go_wp2_with fail;refine bodyPost_ret (cE rfl _ _ w.heap.size 1 0 ⟨#[97,46,99,111,109]⟩ 0 0 0 0 0 0 0 0 rfl (bO HR.out 1 0 ⟨#[97,46,99,111,109]⟩ 0 0 0 0 0 0 0 0)) rfl ⟨1,0,⟨#[97,46,99,111,109]⟩,de,⟨0,0,0,0,0,0,0,0,rfl⟩,dG HU.out hB 1 0 ⟨#[97,46,99,111,109]⟩ 0 0 0 0 0 0 0 0,cM HG.out (ze _) 1 0 ⟨#[97,46,99,111,109]⟩ 0 0 0 0 0 0 0 0⟩
theorem kS{W:World}{R:Nat}{t:TypeId}{k n:Int}{s:ByteArray}{x0 x1 x2 x3 x4 x5 x6 x7:Int}(h:W.heap[R]? =some (Z #[I J k,L s,I J n,I J x0,I J x1,I J x2,I J x3,I J x4,I J x5,I J x6,I J x7] t (0,0))):
  (W.cell? ⟨R,0,none⟩=some (I J k)/\W.cell? ⟨R,1,none⟩=some (L s)/\W.cell? ⟨R,2,none⟩=some (I J n)/\W.cell? ⟨R,3,none⟩=some (I J x0)/\W.cell? ⟨R,4,none⟩=some (I J x1)/\W.cell? ⟨R,5,none⟩=some (I J x2)/\W.cell? ⟨R,6,none⟩=some (I J x3)/\
  W.cell? ⟨R,7,none⟩=some (I J x4)/\W.cell? ⟨R,8,none⟩=some (I J x5)/\W.cell? ⟨R,9,none⟩=some (I J x6)/\W.cell? ⟨R,10,none⟩=some (I J x7))/\ ∀j,W.frozen? ⟨R,j,none⟩=false:=by
 refine ⟨⟨?_,?_,?_,?_,?_,?_,?_,?_,?_,?_,?_⟩,fun j=>frozen_of_row W R j _ t h⟩<;>(rw[cell_of_row W R _ _ t (0,0) h];rfl)
theorem l6Any(D B:Nat)(ao:Option Addr)(len cap:Nat)(w:World)(hcur:Cur D B ao len cap w):Calls prog 80 #[H (some ⟨B,0,none⟩)] w fun e w'=> ∃(k n:Int) (s:ByteArray) (x0 x1 x2 x3 x4 x5 x6 x7:Int),s.size<=1048576/\e=Y (.agg #[I J k,L s,I J n,I J x0,I J x1,I J x2,I J x3,I J x4,I J x5,I J x6,I J x7])/\Cur D B ao len cap w'/\w.grownBy w' (some B):=by
 have hB:=hcur.lt;obtain ⟨O,hO⟩: ∃O,O=w.alloc (Z #[I J 0,L ⟨#[]⟩,I J 0,I J 0,I J 0,I J 0,I J 0,I J 0,I J 0,I J 0,I J 0] 26):=⟨_,rfl⟩;have HC:Hid (Cur D B ao len cap O):=by rw[hO];exact hcur.alloc _
 have HG:Hid (w.grownBy O (some B)):=by rw[hO];exact zj w _ _
 have HH:Hid (O.heap[w.heap.size]? =some (Z #[I J 0,L ⟨#[]⟩,I J 0,I J 0,I J 0,I J 0,I J 0,I J 0,I J 0,I J 0,I J 0] 26 (0,0))):=by rw[hO];exact heap_alloc_new w _
 have HS:Hid (w.heap.size<O.heap.size):=by show _<_;rw[hO];simp
 clear hcur;go_enter func80,ntmps80;go_wp2_with fail;rw[<-hO];refine (A9 _ _ _ _ _ _ HC.out).mono ?_;rintro e wa ⟨k,n,s,x0,x1,x2,x3,x4,x5,x6,x7,hs,rfl,ca,ga⟩;obtain ⟨Q,hQ⟩: ∃Q,Q=wa.alloc (Z #[I J k,L s,I J n,I J x0,I J x1,I J x2,I J x3,I J x4,I J x5,I J x6,I J x7] 26):=⟨_,rfl⟩;have CA:Hid (Cur D B ao len cap Q):=by rw[hQ];exact ca.alloc _
 have GA:Hid (w.grownBy Q (some B)):=by rw[hQ];exact cZ (aJ HG.out ga) _
 have hwa:w.heap.size<wa.heap.size:=zg HS.out ga.size;have HA:Hid (Q.heap[w.heap.size]? =some (Z #[I J 0,L ⟨#[]⟩,I J 0,I J 0,I J 0,I J 0,I J 0,I J 0,I J 0,I J 0,I J 0] 26 (0,0))):=by
  rw[hQ];exact (zi wa _ _ hwa).trans ((ga.block _ HS.out (by intro h;cases h;omega)).trans HH.out)
 have HK:Hid (Q.heap[wa.heap.size]? =some (Z #[I J k,L s,I J n,I J x0,I J x1,I J x2,I J x3,I J x4,I J x5,I J x6,I J x7] 26 (0,0))):=by rw[hQ];exact heap_alloc_new wa _
 have SQ:Hid (wa.heap.size<Q.heap.size):=by show _<_;rw[hQ];simp
 clear ca ga HC HG HH HS hO;go_wp2_with fail;rw[<-hQ];refine (fC 12 _ _ _ _ _ _ om om CA.out).mono ?_;rintro e wb ⟨y,hy0,hy1,rfl,cb,gb⟩;have CB:Hid (Cur D B ao len cap wb):=cb;have GB:Hid (w.grownBy wb (some B)):=aJ GA.out gb;have HZ:Hid (wb.heap[w.heap.size]? =some (Z #[I J 0,L ⟨#[]⟩,I J 0,I J 0,I J 0,I J 0,I J 0,I J 0,I J 0,I J 0,I J 0] 26 (0,0))):=(gb.block _ (by have:=SQ.out;omega) (by intro h;cases h;omega)).trans HA.out;have HX:Hid (wb.heap[wa.heap.size]? =some (Z #[I J k,L s,I J n,I J x0,I J x1,I J x2,I J x3,I J x4,I J x5,I J x6,I J x7] 26 (0,0))):=(gb.block _ SQ.out (by intro h;cases h;omega)).trans HK.out;have SB:Hid (wa.heap.size<wb.heap.size):=zg SQ.out gb.size;clear cb gb HA HK SQ CA GA hQ;have hBa:B<wa.heap.size:=om
 by_cases y0:y=0
 .subst y0
  go_wp2_with fail;refine (fC 5 _ _ _ _ _ _ om om CB.out).mono ?_;rintro e wc ⟨z,hz0,hz1,rfl,cc,gc⟩;have CC:Hid (Cur D B ao len cap wc):=cc;have GC:Hid (w.grownBy wc (some B)):=aJ GB.out gc;have Z1:=(gc.block _ (by have:=SB.out;omega) (by intro h;cases h;omega)).trans HZ.out;have X1:=(gc.block _ SB.out (by intro h;cases h;omega)).trans HX.out;have hz:=fD Z1;have HR:Hid (eX wc w.heap.size (bD 0 ⟨#[]⟩ 0 0 0 0 0 0 0 0 0)):=cH hz.1;obtain ⟨⟨c0,c1,c2,c3,c4,c5,c6,c7,c8,c9,c10⟩,fz⟩:=hz;obtain ⟨⟨d0,d1,d2,d3,d4,d5,d6,d7,d8,d9,d10⟩,gz⟩:=kS X1;clear cc gc Z1 X1;go_wp2_with fail;refine bodyPost_ret (cE rfl _ _ w.heap.size z n s x0 x1 x2 x3 x4 x5 x6 x7 rfl (bO (HR.out.other om _ _) z n s x0 x1 x2 x3 x4 x5 x6 x7)) rfl ⟨z,n,s,x0,x1,x2,x3,x4,x5,x6,x7,hs,rfl,dG (CC.out.set hBa _) hB z n s x0 x1 x2 x3 x4 x5 x6 x7,cM (bK GC.out om _) (ze _) z n s x0 x1 x2 x3 x4 x5 x6 x7⟩
 have q0:(y==0)=false:=beq_eq_false_iff_ne.2 y0
 by_cases y1:y=1
 .subst y1
  go_wp2_with fail;refine (A6 _ _ _ _ _ _ CB.out).mono ?_;rintro e wc ⟨z,hz,rfl,cc,gc⟩;have CC:Hid (Cur D B ao len cap wc):=cc;have GC:Hid (w.grownBy wc (some B)):=aJ GB.out gc;have Z1:=(gc.block _ (by have:=SB.out;omega) (by intro h;cases h;omega)).trans HZ.out;have X1:=(gc.block _ SB.out (by intro h;cases h;omega)).trans HX.out;have hz:=fD Z1;have HR:Hid (eX wc w.heap.size (bD 0 ⟨#[]⟩ 0 0 0 0 0 0 0 0 0)):=cH hz.1;obtain ⟨⟨c0,c1,c2,c3,c4,c5,c6,c7,c8,c9,c10⟩,fz⟩:=hz;obtain ⟨⟨d0,d1,d2,d3,d4,d5,d6,d7,d8,d9,d10⟩,gz⟩:=kS X1;clear cc gc Z1 X1;go_wp2_with fail;refine bodyPost_ret (cE rfl _ _ w.heap.size k n z x0 x1 x2 x3 x4 x5 x6 x7 rfl (bO (HR.out.other om _ _) k n z x0 x1 x2 x3 x4 x5 x6 x7)) rfl ⟨k,n,z,x0,x1,x2,x3,x4,x5,x6,x7,om,rfl,dG (CC.out.set hBa _) hB k n z x0 x1 x2 x3 x4 x5 x6 x7,cM (bK GC.out om _) (ze _) k n z x0 x1 x2 x3 x4 x5 x6 x7⟩
 have q1:(y==1)=false:=beq_eq_false_iff_ne.2 y1
 by_cases y2:y=2
 .subst y2
  go_wp2_with fail;refine (PE 3 _ 3 0 _ _ _ _ _ _ _ om om (CB.out.alloc _) (zd wb _ 3 (zf _) de rfl) (by have:=CB.out.lt;omega) rfl).mono ?_;rintro e wc ⟨z,rfl,cc,gc⟩;have CC:Hid (Cur D B ao len cap wc):=cc;have GC:Hid (w.grownBy wc (some B)):=aJ (cZ GB.out _) gc;have Z1:=(gc.block _ (by have:=SB.out;simp;omega) (by intro h;cases h;omega)).trans ((zi wb _ _ (by have:=SB.out;omega)).trans HZ.out);have X1:=(gc.block _ (by have:=SB.out;simp;omega) (by intro h;cases h;omega)).trans ((zi wb _ _ SB.out).trans HX.out);have hz:=fD Z1;have HR:Hid (eX wc w.heap.size (bD 0 ⟨#[]⟩ 0 0 0 0 0 0 0 0 0)):=cH hz.1;obtain ⟨⟨c0,c1,c2,c3,c4,c5,c6,c7,c8,c9,c10⟩,fz⟩:=hz;obtain ⟨⟨d0,d1,d2,d3,d4,d5,d6,d7,d8,d9,d10⟩,gz⟩:=kS X1;clear cc gc Z1 X1;go_wp2_with fail;refine bodyPost_ret (cE rfl _ _ w.heap.size k z s x0 x1 x2 x3 x4 x5 x6 x7 rfl (bO (HR.out.other om _ _) k z s x0 x1 x2 x3 x4 x5 x6 x7)) rfl ⟨k,z,s,x0,x1,x2,x3,x4,x5,x6,x7,hs,rfl,dG (CC.out.set hBa _) hB k z s x0 x1 x2 x3 x4 x5 x6 x7,cM (bK GC.out om _) (ze _) k z s x0 x1 x2 x3 x4 x5 x6 x7⟩
 have q2:(y==2)=false:=beq_eq_false_iff_ne.2 y2
 by_cases y3:y=3
 .subst y3
  go_wp2_with fail;refine (fC 8 _ _ _ _ _ _ om om CB.out).mono ?_;rintro e wc ⟨z,hz0,hz1,rfl,cc,gc⟩;have CC:Hid (Cur D B ao len cap wc):=cc;have hBc:=cc.lt;have GC:Hid (w.grownBy wc (some B)):=aJ GB.out gc;have Z1:Hid (_=_):=(gc.block _ (by have:=SB.out;omega) (by intro h;cases h;omega)).trans HZ.out;have X1:Hid (_=_):=(gc.block _ SB.out (by intro h;cases h;omega)).trans HX.out;have SC:Hid (wa.heap.size<wc.heap.size):=zg SB.out gc.size;clear cc gc HZ HX SB CB GB;go_wp2_with fail;refine (PE 3 _ 3 0 _ _ _ _ _ _ _ om om (CC.out.alloc _) (zd wc _ 3 (zf _) de rfl) om rfl).mono ?_;rintro e wd ⟨v,rfl,cd,gd⟩;have CD:Hid (Cur D B ao len cap wd):=cd;have GD:Hid (w.grownBy wd (some B)):=aJ (cZ GC.out _) gd;have Z2:=(gd.block _ (by have:=SC.out;simp;omega) (by intro h;cases h;omega)).trans ((zi wc _ _ (by have:=SC.out;omega)).trans Z1.out);have X2:=(gd.block _ (by have:=SC.out;simp;omega) (by intro h;cases h;omega)).trans ((zi wc _ _ SC.out).trans X1.out);have hz:=fD Z2;have HR:Hid (eX wd w.heap.size (bD 0 ⟨#[]⟩ 0 0 0 0 0 0 0 0 0)):=cH hz.1;obtain ⟨⟨c0,c1,c2,c3,c4,c5,c6,c7,c8,c9,c10⟩,fz⟩:=hz;obtain ⟨⟨d0,d1,d2,d3,d4,d5,d6,d7,d8,d9,d10⟩,gz⟩:=kS X2;clear cd gd Z1 X1 Z2 X2 CC GC hBc;have h8:z=0∨z=1∨z=2∨z=3∨z=4∨z=5∨z=6∨z=7:=om;clear hz0 hz1
  rcases h8 with rfl|rfl|rfl|rfl|rfl|rfl|rfl|rfl
  .go_wp2_with fail
   refine bodyPost_ret (cE rfl _ _ w.heap.size k n s v x1 x2 x3 x4 x5 x6 x7 rfl (bO (HR.out.other om _ _) k n s v x1 x2 x3 x4 x5 x6 x7)) rfl ⟨k,n,s,v,x1,x2,x3,x4,x5,x6,x7,hs,rfl,dG (CD.out.set hBa _) hB k n s v x1 x2 x3 x4 x5 x6 x7,cM (bK GD.out om _) (ze _) k n s v x1 x2 x3 x4 x5 x6 x7⟩
  .go_wp2_with fail
   refine bodyPost_ret (cE rfl _ _ w.heap.size k n s x0 v x2 x3 x4 x5 x6 x7 rfl (bO (HR.out.other om _ _) k n s x0 v x2 x3 x4 x5 x6 x7)) rfl ⟨k,n,s,x0,v,x2,x3,x4,x5,x6,x7,hs,rfl,dG (CD.out.set hBa _) hB k n s x0 v x2 x3 x4 x5 x6 x7,cM (bK GD.out om _) (ze _) k n s x0 v x2 x3 x4 x5 x6 x7⟩
  .go_wp2_with fail
   refine bodyPost_ret (cE rfl _ _ w.heap.size k n s x0 x1 v x3 x4 x5 x6 x7 rfl (bO (HR.out.other om _ _) k n s x0 x1 v x3 x4 x5 x6 x7)) rfl ⟨k,n,s,x0,x1,v,x3,x4,x5,x6,x7,hs,rfl,dG (CD.out.set hBa _) hB k n s x0 x1 v x3 x4 x5 x6 x7,cM (bK GD.out om _) (ze _) k n s x0 x1 v x3 x4 x5 x6 x7⟩
  .go_wp2_with fail
   refine bodyPost_ret (cE rfl _ _ w.heap.size k n s x0 x1 x2 v x4 x5 x6 x7 rfl (bO (HR.out.other om _ _) k n s x0 x1 x2 v x4 x5 x6 x7)) rfl ⟨k,n,s,x0,x1,x2,v,x4,x5,x6,x7,hs,rfl,dG (CD.out.set hBa _) hB k n s x0 x1 x2 v x4 x5 x6 x7,cM (bK GD.out om _) (ze _) k n s x0 x1 x2 v x4 x5 x6 x7⟩
  .go_wp2_with fail
   refine bodyPost_ret (cE rfl _ _ w.heap.size k n s x0 x1 x2 x3 v x5 x6 x7 rfl (bO (HR.out.other om _ _) k n s x0 x1 x2 x3 v x5 x6 x7)) rfl ⟨k,n,s,x0,x1,x2,x3,v,x5,x6,x7,hs,rfl,dG (CD.out.set hBa _) hB k n s x0 x1 x2 x3 v x5 x6 x7,cM (bK GD.out om _) (ze _) k n s x0 x1 x2 x3 v x5 x6 x7⟩
  .go_wp2_with fail
   refine bodyPost_ret (cE rfl _ _ w.heap.size k n s x0 x1 x2 x3 x4 v x6 x7 rfl (bO (HR.out.other om _ _) k n s x0 x1 x2 x3 x4 v x6 x7)) rfl ⟨k,n,s,x0,x1,x2,x3,x4,v,x6,x7,hs,rfl,dG (CD.out.set hBa _) hB k n s x0 x1 x2 x3 x4 v x6 x7,cM (bK GD.out om _) (ze _) k n s x0 x1 x2 x3 x4 v x6 x7⟩
  .go_wp2_with fail
   refine bodyPost_ret (cE rfl _ _ w.heap.size k n s x0 x1 x2 x3 x4 x5 v x7 rfl (bO (HR.out.other om _ _) k n s x0 x1 x2 x3 x4 x5 v x7)) rfl ⟨k,n,s,x0,x1,x2,x3,x4,x5,v,x7,hs,rfl,dG (CD.out.set hBa _) hB k n s x0 x1 x2 x3 x4 x5 v x7,cM (bK GD.out om _) (ze _) k n s x0 x1 x2 x3 x4 x5 v x7⟩
  go_wp2_with fail;refine bodyPost_ret (cE rfl _ _ w.heap.size k n s x0 x1 x2 x3 x4 x5 x6 v rfl (bO (HR.out.other om _ _) k n s x0 x1 x2 x3 x4 x5 x6 v)) rfl ⟨k,n,s,x0,x1,x2,x3,x4,x5,x6,v,hs,rfl,dG (CD.out.set hBa _) hB k n s x0 x1 x2 x3 x4 x5 x6 v,cM (bK GD.out om _) (ze _) k n s x0 x1 x2 x3 x4 x5 x6 v⟩
 have q3:(y==3)=false:=beq_eq_false_iff_ne.2 y3;have Z1:=HZ.out;have X1:=HX.out;have hz:=fD Z1;have HR:Hid (eX wb w.heap.size (bD 0 ⟨#[]⟩ 0 0 0 0 0 0 0 0 0)):=cH hz.1;obtain ⟨⟨c0,c1,c2,c3,c4,c5,c6,c7,c8,c9,c10⟩,fz⟩:=hz;obtain ⟨⟨d0,d1,d2,d3,d4,d5,d6,d7,d8,d9,d10⟩,gz⟩:=kS X1;clear Z1 X1;go_wp2_with fail;refine bodyPost_ret (cE rfl _ _ w.heap.size k n s x0 x1 x2 x3 x4 x5 x6 x7 rfl (bO HR.out k n s x0 x1 x2 x3 x4 x5 x6 x7)) rfl ⟨k,n,s,x0,x1,x2,x3,x4,x5,x6,x7,hs,rfl,dG CB.out hB k n s x0 x1 x2 x3 x4 x5 x6 x7,cM GB.out (ze _) k n s x0 x1 x2 x3 x4 x5 x6 x7⟩
theorem Gz(D B:Nat)(ao:Option Addr)(len cap:Nat)(w:World)(hcur:Cur D B ao len cap w):Calls prog 109 #[H (some ⟨B,0,none⟩)] w fun e w'=> ∃s:ByteArray,s.size<=1048576/\e=Y (L s)/\Cur D B ao len cap w'/\w.grownBy w' (some B):=by
 have HC:Hid (Cur D B ao len cap w):=hcur;clear hcur;go_enter func109,ntmps109;go_wp2_with fail;refine (fC 6 _ _ _ _ _ _ om om HC.out).mono ?_;rintro e wa ⟨y,hy0,hy1,rfl,ca,ga⟩;have CA:Hid (Cur D B ao len cap wa):=ca;have GA:Hid (w.grownBy wa (some B)):=ga;have hB:=ca.lt;clear ca ga HC
 by_cases y0:y=0
 .subst y0
  go_wp2_with fail;refine (oE 100 17 _ 17 0 _ _ _ _ _ _ _ om om (CA.out.alloc _) (zd wa _ 17 (zf _) de rfl) om de).mono ?_;rintro e wb ⟨z,hz,rfl,cb,gb⟩;have CB:Hid (Cur D B ao len cap wb):=cb;have GB:Hid (w.grownBy wb (some B)):=aJ (cZ GA.out _) gb;clear cb gb;go_wp2_with fail;go_ret;exact ⟨z,om,rfl,CB.out,GB.out⟩
 have q0:(y==0)=false:=beq_eq_false_iff_ne.2 y0
 by_cases y1:y=1
 .subst y1
  go_wp2_with fail;refine (Kw 4 _ _ _ _ _ _ om CA.out).mono ?_;rintro e wb ⟨v,zl,rfl,hzl,ow,cb,gb⟩;obtain ⟨ao2,cap2,rfl,hcd⟩:=XE ow hzl;have CB:Hid (Cur D B ao len cap wb):=cb;have GB:Hid (w.grownBy wb (some B)):=aJ GA.out gb;have HCD:Hid (eI wb.heap.size wb ao2 4):=hcd;clear cb gb ow hcd hzl;go_wp2_with fail;refine (A7 ao2 4 cap2 _ om HCD.out).mono ?_;rintro e wc ⟨z,hz,rfl,bc⟩;have CC:Hid (Cur D B ao len cap wc):=CB.out.below bc.block;have GC:Hid (w.grownBy wc (some B)):=rA GB.out bc;clear bc;go_wp2_with fail;go_ret;exact ⟨z,om,rfl,CC.out,GC.out⟩
 have q1:(y==1)=false:=beq_eq_false_iff_ne.2 y1;go_wp2_with fail;refine (A9 _ _ _ _ _ _ CA.out).mono ?_;rintro e wb ⟨k,n,s,x0,x1,x2,x3,x4,x5,x6,x7,hs,rfl,cb,gb⟩;have CB:Hid (Cur D B ao len cap wb):=cb;have GB:Hid (w.grownBy wb (some B)):=aJ GA.out gb;have CT:Hid (∀W,Calls prog 118 #[.agg #[I J k,L s,I J n,I J x0,I J x1,I J x2,I J x3,I J x4,I J x5,I J x6,I J x7]] W fun e w'=>e=Y (L (hTx ⟨k,s,n,[x0,x1,x2,x3,x4,x5,x6,x7]⟩))/\Below W.heap.size W w'):=fun W=>zB k n s x0 x1 x2 x3 x4 x5 x6 x7 W hs
 have hts:=tE (k:=k) (n:=n) (s:=s) (x0:=x0) (x1:=x1) (x2:=x2) (x3:=x3) (x4:=x4) (x5:=x5) (x6:=x6) (x7:=x7) hs;generalize hTx ⟨k,s,n,[x0,x1,x2,x3,x4,x5,x6,x7]⟩=T at CT hts;clear cb gb;go_wp2_with fail;refine j4 CT fun wc bc=>?_
 have CC:Hid (Cur D B ao len cap wc):=CB.out.below bc.block;have GC:Hid (w.grownBy wc (some B)):=rA GB.out bc;clear bc;go_wp2_with fail;go_ret;exact ⟨T,hts,rfl,CC.out,GC.out⟩
theorem Ha(D B:Nat)(ao:Option Addr)(len cap:Nat)(w:World)(hcur:Cur D B ao len cap w):Calls prog 165 #[H (some ⟨B,0,none⟩)] w fun e w'=> ∃z:ByteArray,1<=z.size/\z.size<=1000/\e=Y (L z)/\Cur D B ao len cap w'/\w.grownBy w' (some B):=by
 have HC:Hid (Cur D B ao len cap w):=hcur;clear hcur;go_enter func165,ntmps165;go_wp2_with fail;refine (fC 7 _ _ _ _ _ _ om om HC.out).mono ?_;rintro e wa ⟨x,hx0,hx1,rfl,ca,ga⟩;have CA:Hid (Cur D B ao len cap wa):=ca;clear ca;obtain ⟨n,rfl⟩:=zh hx0;go_wp2_with fail
 go_loopw[3,4] (fun a i wr=> ∃(k:Nat) (z:ByteArray),k<=n/\i=I J k/\a=L z/\1<=z.size/\z.size+20*k<=20*n+1/\Cur D B ao len cap wr/\w.grownBy wr (some B)) (fun _ i _=>(intOf i).toNat)
 case atStart=>exact ⟨n,⟨#[47]⟩,ze _,rfl,rfl,by simp[zk],by simp[zk];omega,CA.out,ga⟩
 obtain ⟨k,z,hk,rfl,rfl,hz1,hz,hcu,hgr⟩:=hrel;have HU:Hid (Cur D B ao len cap wr):=hcu;have hB:=hcu.lt;clear hcu
 by_cases hp:0<k
 .go_wp2_with fail
  refine (oE 20 14 _ 14 0 _ _ _ _ _ _ _ om om (HU.out.alloc _) (zd wr _ 14 (zf _) de rfl) om de).mono ?_;rintro e wc ⟨y,hy,rfl,cc,gc⟩;have CC:Hid (Cur D B ao len cap wc):=cc;have G:=aJ (cZ hgr _) gc;clear cc gc hgr;go_wp2_with fail;go_roundw
  case rel=>exact ⟨k-1,z++y,om,gn,rfl,by rw[za];omega,by rw[za];omega,CC.out,G⟩
  case measure=>exact j1
 go_wp2_with fail;go_ret;exact ⟨z,hz1,om,rfl,HU.out,hgr⟩
theorem RK(D B:Nat)(ao:Option Addr)(len cap:Nat)(w:World)(hcur:Cur D B ao len cap w):Calls prog 110 #[H (some ⟨B,0,none⟩)] w fun e w'=> ∃z:ByteArray,z.size<=3000/\e=Y (L z)/\Cur D B ao len cap w'/\w.grownBy w' (some B):=by
 have HC:Hid (Cur D B ao len cap w):=hcur;clear hcur;have hd1:(⟨#[63]⟩:ByteArray).size=1:=rfl;go_enter func110,ntmps110;go_wp2_with fail;refine (Ha _ _ _ _ _ _ HC.out).mono ?_;rintro e wa ⟨x,hx1,hx,rfl,ca,ga⟩;have CA:Hid (Cur D B ao len cap wa):=ca;clear ca hx1;go_wp2_with fail;refine (wB 2 _ _ _ _ _ _ om om CA.out).mono ?_;rintro e wb ⟨y,rfl,cb,gb⟩;have CB:Hid (Cur D B ao len cap wb):=cb;have GB:Hid (w.grownBy wb (some B)):=aJ ga gb;clear cb gb ga
 cases y with
 |true=>
  go_wp2_with fail;refine (RH _ _ _ _ _ _ CB.out).mono ?_;rintro e wc ⟨z,hz,rfl,cc,gc⟩;have CC:Hid (Cur D B ao len cap wc):=cc;have GC:Hid (w.grownBy wc (some B)):=aJ GB.out gc;clear cc gc;go_wp2_with fail;go_ret;exact ⟨_,by rw[za,za,hd1];omega,rfl,CC.out,GC.out⟩
 |false=>
  go_wp2_with fail;go_ret;exact ⟨x,om,rfl,CB.out,GB.out⟩
theorem Ns(D B:Nat)(ao:Option Addr)(len cap:Nat)(w:World)(hcur:Cur D B ao len cap w):Calls prog 48 #[H (some ⟨B,0,none⟩)] w fun e w'=> ∃z:ByteArray,z.size<=2097152/\e=Y (L z)/\Cur D B ao len cap w'/\w.grownBy w' (some B):=by
 have HC:Hid (Cur D B ao len cap w):=hcur;have hB:=hcur.lt;clear hcur;have hd1:(⟨#[58]⟩:ByteArray).size=1:=rfl;go_enter func48,ntmps48;go_wp2_with fail;refine (wB 3 _ _ _ _ _ _ om om HC.out).mono ?_;rintro e wa ⟨y,rfl,ca,ga⟩;have CA:Hid (Cur D B ao len cap wa):=ca;have hBa:B<wa.heap.size:=ca.lt;clear ca
 cases y with
 |true=>
  go_wp2_with fail;refine (oE 40 22 _ 22 0 _ _ _ _ _ _ _ om om (CA.out.alloc _) (zd wa _ 22 (zf _) de rfl) om de).mono ?_;rintro e wc ⟨z,hz,rfl,cc,gc⟩;have CC:Hid (Cur D B ao len cap wc):=cc;have GC:Hid (w.grownBy wc (some B)):=aJ (cZ ga _) gc;clear cc gc;go_wp2_with fail;go_ret;exact ⟨z,om,rfl,CC.out,GC.out⟩
 |false=>
  go_wp2_with fail;refine (oE 40 3 _ 3 0 _ _ _ _ _ _ _ om om (CA.out.alloc _) (zd wa _ 3 (zf _) de rfl) om de).mono ?_;rintro e wb ⟨x,hx,rfl,cb,gb⟩;have CB:Hid (Cur D B ao len cap wb):=cb;have GB:Hid (w.grownBy wb (some B)):=aJ (cZ ga _) gb;clear cb gb ga CA;go_wp2_with fail;refine (Gz _ _ _ _ _ _ CB.out).mono ?_;rintro e wc ⟨h,hh,rfl,cc,gc⟩;have CC:Hid (Cur D B ao len cap wc):=cc;have GC:Hid (w.grownBy wc (some B)):=aJ GB.out gc;clear cc gc GB CB;have hxh:(x++h).size<=1048616:=by rw[za];omega
  go_wp2_with fail;generalize x++h=s1 at hxh⊢;refine (wB 4 _ _ _ _ _ _ om om CC.out).mono ?_;rintro e wd ⟨y,rfl,cd,gd⟩;have CD:Hid (Cur D B ao len cap wd):=cd;have hBd:B<wd.heap.size:=cd.lt;have GD:Hid (w.grownBy wd (some B)):=aJ GC.out gd;clear cd gd GC CC
  cases y with
  |true=>
   go_wp2_with fail;refine (oE 40 6 _ 6 0 _ _ _ _ _ _ _ om om (CD.out.alloc _) (zd wd _ 6 (zf _) de rfl) om de).mono ?_;rintro e we ⟨p,hp,rfl,ce,ge⟩;have CE:Hid (Cur D B ao len cap we):=ce;have GE:Hid (w.grownBy we (some B)):=aJ (cZ GD.out _) ge;clear ce ge GD CD;have hs2:(s1++⟨#[58]⟩++p).size<=1048700:=by rw[za,za,hd1];omega
   go_wp2_with fail;generalize s1++⟨#[58]⟩++p=s2 at hs2⊢;refine (RK _ _ _ _ _ _ CE.out).mono ?_;rintro e wf ⟨t,ht,rfl,cf,gf⟩;have GF:Hid (w.grownBy wf (some B)):=aJ GE.out gf;go_wp2_with fail;go_ret;exact ⟨_,by rw[za];omega,rfl,cf,GF.out⟩
  |false=>
   go_wp2_with fail;refine (RK _ _ _ _ _ _ CD.out).mono ?_;rintro e wf ⟨t,ht,rfl,cf,gf⟩;have GF:Hid (w.grownBy wf (some B)):=aJ GD.out gf;go_wp2_with fail;go_ret;exact ⟨_,by rw[za];omega,rfl,cf,GF.out⟩
theorem B5(n:Nat):(madeCells #[Value.int .u8 0] n).toList=aD (List.replicate n 0):=by
 simp only[madeCells,aD,Array.toList_map,Array.toList_range,List.map_replicate];refine List.ext_getElem j2 fun i h1 h2=> ?_
 simp[Nat.mod_one]
end
section
open Go.RowKit
set_option linter.unusedVariables false
theorem XF(D B:Nat)(ao:Option Addr)(len cap:Nat)(w:World)(hcur:Cur D B ao len cap w):Calls prog 110 #[H (some ⟨B,0,none⟩)] w fun e w'=> ∃z:ByteArray,1<=z.size/\z.size<=3000/\e=Y (L z)/\Cur D B ao len cap w'/\w.grownBy w' (some B):=by
 have HC:Hid (Cur D B ao len cap w):=hcur;clear hcur;have hd1:(⟨#[63]⟩:ByteArray).size=1:=rfl;go_enter func110,ntmps110;go_wp2_with fail;refine (Ha _ _ _ _ _ _ HC.out).mono ?_;rintro e wa ⟨x,hx1,hx,rfl,ca,ga⟩;have CA:Hid (Cur D B ao len cap wa):=ca;clear ca;go_wp2_with fail;refine (wB 2 _ _ _ _ _ _ om om CA.out).mono ?_;rintro e wb ⟨y,rfl,cb,gb⟩;have CB:Hid (Cur D B ao len cap wb):=cb;have GB:Hid (w.grownBy wb (some B)):=aJ ga gb;clear cb gb ga
 cases y with
 |true=>
  go_wp2_with fail;refine (RH _ _ _ _ _ _ CB.out).mono ?_;rintro e wc ⟨z,hz,rfl,cc,gc⟩;have CC:Hid (Cur D B ao len cap wc):=cc;have GC:Hid (w.grownBy wc (some B)):=aJ GB.out gc;clear cc gc;go_wp2_with fail;go_ret;exact ⟨_,by rw[za,za,hd1];omega,by rw[za,za,hd1];omega,rfl,CC.out,GC.out⟩
 |false=>
  go_wp2_with fail;go_ret;exact ⟨x,hx1,om,rfl,CB.out,GB.out⟩
theorem Nt(D B:Nat)(ao:Option Addr)(len cap:Nat)(w:World)(hcur:Cur D B ao len cap w):Calls prog 62 #[H (some ⟨B,0,none⟩)] w fun e w'=> ∃z:ByteArray,z.size<=4194304/\e=Y (L z)/\Cur D B ao len cap w'/\w.grownBy w' (some B):=by
 have HC:Hid (Cur D B ao len cap w):=hcur;have hd1:(⟨#[63]⟩:ByteArray).size=1:=rfl;have hd2:(⟨#[47,47]⟩:ByteArray).size=2:=rfl;clear hcur;go_enter func62,ntmps62;go_wp2_with fail;refine (fC 6 _ _ _ _ _ _ om om HC.out).mono ?_;rintro e wa ⟨y,hy0,hy1,rfl,ca,ga⟩;have CA:Hid (Cur D B ao len cap wa):=ca;have GA:Hid (w.grownBy wa (some B)):=ga;have hBa:B<wa.heap.size:=ca.lt;clear ca ga HC
 by_cases y0:y=0
 .subst y0
  go_wp2_with fail;refine (Ns _ _ _ _ _ _ CA.out).mono ?_;rintro e wc ⟨z,hz,rfl,cc,gc⟩;have CC:Hid (Cur D B ao len cap wc):=cc;have GC:Hid (w.grownBy wc (some B)):=aJ GA.out gc;clear cc gc;go_wp2_with fail;go_ret;exact ⟨z,om,rfl,CC.out,GC.out⟩
 have q0:(y==0)=false:=beq_eq_false_iff_ne.2 y0
 by_cases y1:y=1
 .subst y1
  clear q0 y0;go_wp2_with fail;refine (Gz _ _ _ _ _ _ CA.out).mono ?_;rintro e wb ⟨x,hx,rfl,cb,gb⟩;have CB:Hid (Cur D B ao len cap wb):=cb;have GB:Hid (w.grownBy wb (some B)):=aJ GA.out gb;clear cb gb CA GA;go_wp2_with fail;refine (XF _ _ _ _ _ _ CB.out).mono ?_;rintro e wc ⟨z,hz1,hz,rfl,cc,gc⟩;have CC:Hid (Cur D B ao len cap wc):=cc;have GC:Hid (w.grownBy wc (some B)):=aJ GB.out gc;clear cc gc CB GB;go_wp2_with fail;go_ret;exact ⟨_,by rw[za,za,hd2];omega,rfl,CC.out,GC.out⟩
 have q1:(y==1)=false:=beq_eq_false_iff_ne.2 y1
 by_cases y2:y=2
 .subst y2
  clear q0 y0 q1 y1;go_wp2_with fail;refine (RH _ _ _ _ _ _ CA.out).mono ?_;rintro e wc ⟨z,hz,rfl,cc,gc⟩;have CC:Hid (Cur D B ao len cap wc):=cc;have GC:Hid (w.grownBy wc (some B)):=aJ GA.out gc;clear cc gc;go_wp2_with fail;go_ret;exact ⟨_,by rw[za,hd1];omega,rfl,CC.out,GC.out⟩
 have q2:(y==2)=false:=beq_eq_false_iff_ne.2 y2
 by_cases y3:y=3
 .subst y3
  clear q0 y0 q1 y1 q2 y2;go_wp2_with fail;refine (oE 40 14 _ 14 0 _ _ _ _ _ _ _ om om (CA.out.alloc _) (zd wa _ 14 (zf _) de rfl) om de).mono ?_;rintro e wc ⟨z,hz,rfl,cc,gc⟩;have CC:Hid (Cur D B ao len cap wc):=cc;have GC:Hid (w.grownBy wc (some B)):=aJ (cZ GA.out _) gc;clear cc gc;go_wp2_with fail;go_ret;exact ⟨z,om,rfl,CC.out,GC.out⟩
 have q3:(y==3)=false:=beq_eq_false_iff_ne.2 y3;go_wp2_with fail;refine (XF _ _ _ _ _ _ CA.out).mono ?_;rintro e wb ⟨z,hz1,hz,rfl,cb,gb⟩;have CB:Hid (Cur D B ao len cap wb):=cb;have GB:Hid (w.grownBy wb (some B)):=aJ GA.out gb;clear cb gb CA GA q0 q1 q2 q3 y0 y1 y2 y3;go_wp2_with fail;refine (fC 2 _ _ _ _ _ _ om om CB.out).mono ?_;rintro e wc ⟨v,hv0,hv1,rfl,cc,gc⟩;have CC:Hid (Cur D B ao len cap wc):=cc;have GC:Hid (w.grownBy wc (some B)):=aJ GB.out gc;clear cc gc CB GB;obtain ⟨m,rfl⟩:=zh hv0;go_wp2_with fail;go_ret;exact ⟨_,by rw[ByteArray.size_extract];omega,rfl,CC.out,GC.out⟩
