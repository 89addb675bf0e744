/- HostImpl, HostTextImpl. -/
import Derived.Test.YtgcbaphbiaimoaaGreatDoorQF26
set_option maxHeartbeats 4000000
set_option maxRecDepth 20000
namespace Go.Proofs.YtgcbaphbiaimoaaGreatDoor
open Go.Value renaming int->I,string->L,bool->j,agg->H,iface->G
open Go.IntKind renaming i64->J
open Go.Ending renaming returned->Y
open Go.Obj renaming cells->Z
open _root_.Go.RowKit.Below renaming refl->zd
open _root_.Bool renaming and_eq_true->zc,eq_iff_iff->zf
open _root_.ByteArray renaming size_append->zg
open _root_.List renaming size_toArray->ze
open _root_.Nat renaming le_refl->za
open _root_.Go.Proofs.Tryz
open _root_.Go.Proofs.YtgcbaphbiaimoaaGreatDoor.Tryz
open Go.RowKit
theorem SE(s:ByteArray)(w:World)(hs:s.size<=1048576)(hT:Lib.Utf8Tabs 12 13 w):Calls prog 338 #[L s] w fun e w'=>e=Y (j (AD s))/\Below w.heap.size w w':=by
 have CN:Hid (CB 266 #[L s] w (dT (cV s))):=EZ s w hs hT;have CE:Hid (∀W,CS 267 #[L s] W (j (qO s))):=fun W=>pJ s W hs
 clear hT
 cases hn:cV s with
 |none=>
  have HZ:Hid (AD s=false):=by
   show _=_;unfold AD;rw[hn,decide_eq_false j2];rfl
  rw[hn]at CN;clear hn;go_enter func338,ntmps338;go_wp2_with fail;refine CN.out.mono ?_;rintro e w1 ⟨rfl,b1⟩;simp only[dT];go_wp2_with fail;go_ret;exact ⟨by rw[HZ.out];rfl,b1⟩
 |some n=>
  by_cases he:n=s.data.toList
  .have HZ:Hid (AD s= !qO s):=by
    show _=_;unfold AD;rw[hn,he,decide_eq_true rfl];rfl
   rw[hn,show dT (some n)=.tuple #[L s,j true] by rw[he];show Value.tuple #[L ⟨s.data.toList.toArray⟩,j true]=_;rw[wE]]at CN;clear hn he;generalize qO s=r at HZ CE;go_enter func338,ntmps338;go_wp2_with fail;refine CN.out.mono ?_;rintro e w1 ⟨rfl,b1⟩;go_wp2_with fail;refine (CE.out _).mono ?_;rintro e w2 ⟨rfl,rfl⟩;go_wp2_with fail;go_ret;exact ⟨by rw[HZ.out];rfl,b1⟩
  have HZ:Hid (AD s=false):=by
   show _=_;unfold AD;rw[hn,decide_eq_false (by intro e;exact he (Option.some.inj e))];rfl
  have hne:((⟨n.toArray⟩:ByteArray).toList==s.toList)=false:=mZ (fun e=>he (by rw[<-e]));rw[hn]at CN;simp only[dT]at CN;generalize (⟨n.toArray⟩:ByteArray)=T at CN hne;clear hn he;go_enter func338,ntmps338;go_wp2_with fail;refine CN.out.mono ?_;rintro e w1 ⟨rfl,b1⟩;go_wp2_with fail;go_ret;exact ⟨by rw[HZ.out];rfl,b1⟩
theorem Z6(n:Int):0<(gP n).size:=by
 unfold gP;show 0<(hF n.toNat).toArray.size;rw[ze];unfold hF;simp;omega
theorem VU(n:Int)(w:World)(hT:Pow w):Calls prog 339 #[I J n] w fun e w'=>e=Y (j (decide (0<=n/\n<4294967296)))/\Below w.heap.size w w':=by
 by_cases h:0<=n/\n<4294967296
 .have CT:Hid (CB 142 #[I J n] w (L (gP n))):=rN n w h.1 h.2 hT
  have HZ:Hid (decide (0<=n/\n<4294967296)=true):=decide_eq_true h;have hem:=aX (Z6 n);generalize gP n=T at CT hem;clear h hT;go_enter func339,ntmps339;go_wp2_with fail;refine CT.out.mono ?_;rintro e w1 ⟨rfl,b1⟩;go_wp2_with fail;go_ret;exact ⟨by rw[HZ.out];rfl,b1⟩
 have CT:Hid (CB 142 #[I J n] w (L ⟨#[]⟩)):=BV n w om;have HZ:Hid (decide (0<=n/\n<4294967296)=false):=decide_eq_false h;clear h hT;go_enter func339,ntmps339;go_wp2_with fail;refine CT.out.mono ?_;rintro e w1 ⟨rfl,b1⟩;go_wp2_with fail;go_ret;exact ⟨by rw[HZ.out];rfl,b1⟩
theorem F7(x0 x1 x2 x3 x4 x5 x6 x7:Int)(w:World):Calls prog 340 #[H #[I J x0,I J x1,I J x2,I J x3,I J x4,I J x5,I J x6,I J x7]] w fun e w'=>e=Y (j (okG [x0,x1,x2,x3,x4,x5,x6,x7]))/\Below w.heap.size w w':=by
 have CG:Hid (∀W,CB 193 #[H #[I J x0,I J x1,I J x2,I J x3,I J x4,I J x5,I J x6,I J x7]] W (j (okG [x0,x1,x2,x3,x4,x5,x6,x7]))):=fun W=>wD x0 x1 x2 x3 x4 x5 x6 x7 W
 generalize okG [x0,x1,x2,x3,x4,x5,x6,x7]=r at CG⊢;go_enter func340,ntmps340;go_wp2_with fail;refine (CG.out _).mono ?_;rintro e w1 ⟨rfl,b1⟩;go_wp2_with fail;go_ret;exact ⟨rfl,((zd _ _).alloc (za _) _).trans (b1.mono j2)⟩
theorem bqB(a b:ByteArray):(a.toList==b.toList)=decide (a=b):=by
 by_cases h:a=b
 .rw[xU h,decide_eq_true h]
 rw[mZ h,decide_eq_false h]
theorem SF(s:ByteArray):s.size=0↔(⟨#[]⟩:ByteArray)=s:=by
 constructor
 .intro h
  apply bX;exact (List.eq_nil_of_length_eq_zero (by simpa[toL] using h)).symm
 intro h;rw[<-h];rfl
theorem hOk1(s:ByteArray)(n:Int)(z:List Int):hOk ⟨1,s,n,z⟩=(AD s&&mB 1 s 0 jF 1 s n z):=by
 unfold hOk AD mB eqB;rw[if_pos rfl,zf];simp only[zc,decide_eq_true_eq,beq_self_eq_true,true_and,beq_iff_eq];constructor
 .rintro ⟨⟨h1,h2⟩,h3⟩
  exact ⟨h1,h2.symm,h3.symm⟩
 rintro ⟨h1,h2,h3⟩;exact ⟨⟨h1,h2.symm⟩,h3.symm⟩
theorem hOk2(s:ByteArray)(n:Int)(z:List Int):hOk ⟨2,s,n,z⟩=(decide (0<=n/\n<4294967296)&&mB 2 ⟨#[]⟩ n jF 2 s n z):=by
 unfold hOk mB eqB;rw[if_neg (show ¬(2:Int)=1 by decide),if_pos rfl,zf,bqB];simp only[zc,decide_eq_true_eq,beq_self_eq_true,true_and,SF];constructor
 .rintro ⟨⟨h1,h2⟩,h3⟩
  exact ⟨h2,h1,h3.symm⟩
 rintro ⟨h1,h2,h3⟩;exact ⟨⟨h2,h1⟩,h3.symm⟩
theorem hOk3(s:ByteArray)(n:Int)(z:List Int):hOk ⟨3,s,n,z⟩=(okG z&&mB 3 ⟨#[]⟩ 0 z 3 s n z):=by
 unfold hOk mB eqB;rw[if_neg (show ¬(3:Int)=1 by decide),if_neg (show ¬(3:Int)=2 by decide),if_pos rfl,zf,bqB];simp only[zc,decide_eq_true_eq,beq_self_eq_true,true_and,SF,beq_iff_eq,and_true];constructor
 .rintro ⟨⟨h1,h2⟩,h3⟩
  exact ⟨h3,h1,h2.symm⟩
 rintro ⟨h1,h2,h3⟩;exact ⟨⟨h2,h3.symm⟩,h1⟩
theorem hOk0(k n:Int)(s:ByteArray)(z:List Int)(h1: ¬k=1)(h2: ¬k=2)(h3: ¬k=3):hOk ⟨k,s,n,z⟩=false:=by
 unfold hOk;rw[if_neg h1,if_neg h2,if_neg h3]
theorem SG(n:Int)(s:ByteArray)(x0 x1 x2 x3 x4 x5 x6 x7:Int)(w:World)(hs:s.size<=1048576)(hT:Lib.Utf8Tabs 12 13 w):Calls prog 33 #[H #[I J 1,L s,I J n,I J x0,I J x1,I J x2,I J x3,I J x4,I J x5,I J x6,I J x7]] w fun e w'=>e=Y (j (hOk ⟨1,s,n,[x0,x1,x2,x3,x4,x5,x6,x7]⟩))/\Below w.heap.size w w':=by
 have HZ:Hid (hOk ⟨1,s,n,[x0,x1,x2,x3,x4,x5,x6,x7]⟩=(AD s&&mB 1 s 0 jF 1 s n [x0,x1,x2,x3,x4,x5,x6,x7])):=hOk1 s n _;have CW:Hid (∀W,CB 81 #[H #[I J 1,L s,I J n,I J x0,I J x1,I J x2,I J x3,I J x4,I J x5,I J x6,I J x7]] W (G 142 (L s))):=fun W=>zR n s x0 x1 x2 x3 x4 x5 x6 x7 W
 have CK:Hid (∀W,Below w.heap.size w W->CB 338 #[L s] W (j (AD s))):=fun W hb=>SE s W hs (bW hT hb)
 have CO:Hid (∀W,CB 82 #[G 142 (L s)] W (H #[I J 1,L s,I J 0,I J 0,I J 0,I J 0,I J 0,I J 0,I J 0,I J 0,I J 0])):=fun W=>wX s W
 have heq: ∀W,_:=eqH 1 s 0 0 0 0 0 0 0 0 0 1 s n x0 x1 x2 x3 x4 x5 x6 x7;rw[show [0,0,0,0,0,0,0,0]=jF from rfl]at heq;clear hT;have HC:Hid (∀W,Below (w.alloc (Z #[I J 1,L s,I J n,I J x0,I J x1,I J x2,I J x3,I J x4,I J x5,I J x6,I J x7] 26)).heap.size (w.alloc (Z #[I J 1,L s,I J n,I J x0,I J x1,I J x2,I J x3,I J x4,I J x5,I J x6,I J x7] 26)) W->eY w W 1 s n x0 x1 x2 x3 x4 x5 x6 x7):=fun W h=>fT w W _ _ _ x0 x1 x2 x3 x4 x5 x6 x7 _ h
 generalize AD s=r at CK HZ;generalize mB 1 s 0 jF 1 s n [x0,x1,x2,x3,x4,x5,x6,x7]=q at HZ heq;go_enter func33,ntmps33;go_wp2_with fail;refine (CW.out _).mono ?_;rintro e w1 ⟨rfl,b1⟩;have HB:Hid (Below (w.alloc (Z #[I J 1,L s,I J n,I J x0,I J x1,I J x2,I J x3,I J x4,I J x5,I J x6,I J x7] 26)).heap.size (w.alloc (Z #[I J 1,L s,I J n,I J x0,I J x1,I J x2,I J x3,I J x4,I J x5,I J x6,I J x7] 26)) w1.drew):=⟨b1.os,b1.tape,b1.output,b1.size,b1.block⟩;obtain ⟨c0,c1,c2,c3,c4,c5,c6,c7,c8,c9,c10⟩:=HC.out w1.drew HB.out;have CK1:Hid (∀W,Below (w.alloc (Z #[I J 1,L s,I J n,I J x0,I J x1,I J x2,I J x3,I J x4,I J x5,I J x6,I J x7] 26)).heap.size (w.alloc (Z #[I J 1,L s,I J n,I J x0,I J x1,I J x2,I J x3,I J x4,I J x5,I J x6,I J x7] 26)) W->Calls prog 338 #[(L s)] W fun e w'=>e=Y (j r)/\eY w w' 1 s n x0 x1 x2 x3 x4 x5 x6 x7/\Hid (Below (w.alloc (Z #[I J 1,L s,I J n,I J x0,I J x1,I J x2,I J x3,I J x4,I J x5,I J x6,I J x7] 26)).heap.size (w.alloc (Z #[I J 1,L s,I J n,I J x0,I J x1,I J x2,I J x3,I J x4,I J x5,I J x6,I J x7] 26)) w')):=
  fun W hW=>(CK.out W (((zd _ w).alloc (za _) _).trans (hW.mono j2))).mono fun e w' h=>⟨h.1,HC.out w' (hW.trans (h.2.mono hW.size)),hW.trans (h.2.mono hW.size)⟩
 have CO1:Hid (∀W,Below (w.alloc (Z #[I J 1,L s,I J n,I J x0,I J x1,I J x2,I J x3,I J x4,I J x5,I J x6,I J x7] 26)).heap.size (w.alloc (Z #[I J 1,L s,I J n,I J x0,I J x1,I J x2,I J x3,I J x4,I J x5,I J x6,I J x7] 26)) W->Calls prog 82 #[G 142 (L s)] W fun e w'=>e=Y (H #[I J 1,L s,I J 0,I J 0,I J 0,I J 0,I J 0,I J 0,I J 0,I J 0,I J 0])/\eY w w' 1 s n x0 x1 x2 x3 x4 x5 x6 x7/\Hid (Below (w.alloc (Z #[I J 1,L s,I J n,I J x0,I J x1,I J x2,I J x3,I J x4,I J x5,I J x6,I J x7] 26)).heap.size (w.alloc (Z #[I J 1,L s,I J n,I J x0,I J x1,I J x2,I J x3,I J x4,I J x5,I J x6,I J x7] 26)) w')):=
  fun W hW=>(CO.out W).mono fun e w' h=>⟨h.1,HC.out w' (hW.trans (h.2.mono hW.size)),hW.trans (h.2.mono hW.size)⟩
 have HE:Hid (∀W,Below (w.alloc (Z #[I J 1,L s,I J n,I J x0,I J x1,I J x2,I J x3,I J x4,I J x5,I J x6,I J x7] 26)).heap.size (w.alloc (Z #[I J 1,L s,I J n,I J x0,I J x1,I J x2,I J x3,I J x4,I J x5,I J x6,I J x7] 26)) W->Below w.heap.size w W):=fun W hW=>((zd _ w).alloc (za _) _).trans (hW.mono j2)
 clear b1;go_wp2_with fail
 cases r with
 |false=>
  first|go_region_with (go_at_call 338;refine (CK1.out _ HB.out).mono ?_;rintro e w2 ⟨rfl,hc2,hb2⟩)|fail
  all_goals go_wp2_with fail
  all_goals go_ret
  all_goals exact ⟨by rw[HZ.out];rfl,HE.out _ hb2.out⟩
 |true=>
  go_region_with (first|(go_at_call 338;refine (CK1.out _ HB.out).mono ?_;rintro e w2 ⟨rfl,⟨d0,d1,d2,d3,d4,d5,d6,d7,d8,d9,d10⟩,hb2⟩)|(go_at_call 82;refine (CO1.out _ hb2.out).mono ?_;rintro e w3 ⟨rfl,⟨e0,e1,e2,e3,e4,e5,e6,e7,e8,e9,e10⟩,hb3⟩))
  all_goals go_wp2_with fail
  all_goals go_ret
  all_goals exact ⟨by rw[HZ.out];rfl,HE.out _ hb3.out⟩
theorem SH(n:Int)(s:ByteArray)(x0 x1 x2 x3 x4 x5 x6 x7:Int)(w:World)(hP:Pow w):Calls prog 33 #[H #[I J 2,L s,I J n,I J x0,I J x1,I J x2,I J x3,I J x4,I J x5,I J x6,I J x7]] w fun e w'=>e=Y (j (hOk ⟨2,s,n,[x0,x1,x2,x3,x4,x5,x6,x7]⟩))/\Below w.heap.size w w':=by
 have HZ:Hid (hOk ⟨2,s,n,[x0,x1,x2,x3,x4,x5,x6,x7]⟩=(decide (0<=n/\n<4294967296)&&mB 2 ⟨#[]⟩ n jF 2 s n [x0,x1,x2,x3,x4,x5,x6,x7])):=hOk2 s n _;have CW:Hid (∀W,CB 81 #[H #[I J 2,L s,I J n,I J x0,I J x1,I J x2,I J x3,I J x4,I J x5,I J x6,I J x7]] W (G 143 (I J n))):=fun W=>zS n s x0 x1 x2 x3 x4 x5 x6 x7 W
 have CK:Hid (∀W,Below w.heap.size w W->CB 339 #[I J n] W (j (decide (0<=n/\n<4294967296)))):=fun W hb=>VU n W (cN hP hb)
 have CO:Hid (∀W,CB 82 #[G 143 (I J n)] W (H #[I J 2,L ⟨#[]⟩,I J n,I J 0,I J 0,I J 0,I J 0,I J 0,I J 0,I J 0,I J 0])):=fun W=>wY n W
 have heq: ∀W,_:=eqH 2 ⟨#[]⟩ n 0 0 0 0 0 0 0 0 2 s n x0 x1 x2 x3 x4 x5 x6 x7;rw[show [0,0,0,0,0,0,0,0]=jF from rfl]at heq;clear hP;have HC:Hid (∀W,Below (w.alloc (Z #[I J 2,L s,I J n,I J x0,I J x1,I J x2,I J x3,I J x4,I J x5,I J x6,I J x7] 26)).heap.size (w.alloc (Z #[I J 2,L s,I J n,I J x0,I J x1,I J x2,I J x3,I J x4,I J x5,I J x6,I J x7] 26)) W->eY w W 2 s n x0 x1 x2 x3 x4 x5 x6 x7):=fun W h=>fT w W _ _ _ x0 x1 x2 x3 x4 x5 x6 x7 _ h
 generalize decide (0<=n/\n<4294967296)=r at CK HZ;generalize mB 2 ⟨#[]⟩ n jF 2 s n [x0,x1,x2,x3,x4,x5,x6,x7]=q at HZ heq;go_enter func33,ntmps33;go_wp2_with fail;refine (CW.out _).mono ?_;rintro e w1 ⟨rfl,b1⟩;have HB:Hid (Below (w.alloc (Z #[I J 2,L s,I J n,I J x0,I J x1,I J x2,I J x3,I J x4,I J x5,I J x6,I J x7] 26)).heap.size (w.alloc (Z #[I J 2,L s,I J n,I J x0,I J x1,I J x2,I J x3,I J x4,I J x5,I J x6,I J x7] 26)) w1.drew):=⟨b1.os,b1.tape,b1.output,b1.size,b1.block⟩;obtain ⟨c0,c1,c2,c3,c4,c5,c6,c7,c8,c9,c10⟩:=HC.out w1.drew HB.out;have CK1:Hid (∀W,Below (w.alloc (Z #[I J 2,L s,I J n,I J x0,I J x1,I J x2,I J x3,I J x4,I J x5,I J x6,I J x7] 26)).heap.size (w.alloc (Z #[I J 2,L s,I J n,I J x0,I J x1,I J x2,I J x3,I J x4,I J x5,I J x6,I J x7] 26)) W->Calls prog 339 #[(I J n)] W fun e w'=>e=Y (j r)/\eY w w' 2 s n x0 x1 x2 x3 x4 x5 x6 x7/\Hid (Below (w.alloc (Z #[I J 2,L s,I J n,I J x0,I J x1,I J x2,I J x3,I J x4,I J x5,I J x6,I J x7] 26)).heap.size (w.alloc (Z #[I J 2,L s,I J n,I J x0,I J x1,I J x2,I J x3,I J x4,I J x5,I J x6,I J x7] 26)) w')):=
  fun W hW=>(CK.out W (((zd _ w).alloc (za _) _).trans (hW.mono j2))).mono fun e w' h=>⟨h.1,HC.out w' (hW.trans (h.2.mono hW.size)),hW.trans (h.2.mono hW.size)⟩
 have CO1:Hid (∀W,Below (w.alloc (Z #[I J 2,L s,I J n,I J x0,I J x1,I J x2,I J x3,I J x4,I J x5,I J x6,I J x7] 26)).heap.size (w.alloc (Z #[I J 2,L s,I J n,I J x0,I J x1,I J x2,I J x3,I J x4,I J x5,I J x6,I J x7] 26)) W->Calls prog 82 #[G 143 (I J n)] W fun e w'=>e=Y (H #[I J 2,L ⟨#[]⟩,I J n,I J 0,I J 0,I J 0,I J 0,I J 0,I J 0,I J 0,I J 0])/\eY w w' 2 s n x0 x1 x2 x3 x4 x5 x6 x7/\Hid (Below (w.alloc (Z #[I J 2,L s,I J n,I J x0,I J x1,I J x2,I J x3,I J x4,I J x5,I J x6,I J x7] 26)).heap.size (w.alloc (Z #[I J 2,L s,I J n,I J x0,I J x1,I J x2,I J x3,I J x4,I J x5,I J x6,I J x7] 26)) w')):=
  fun W hW=>(CO.out W).mono fun e w' h=>⟨h.1,HC.out w' (hW.trans (h.2.mono hW.size)),hW.trans (h.2.mono hW.size)⟩
 have HE:Hid (∀W,Below (w.alloc (Z #[I J 2,L s,I J n,I J x0,I J x1,I J x2,I J x3,I J x4,I J x5,I J x6,I J x7] 26)).heap.size (w.alloc (Z #[I J 2,L s,I J n,I J x0,I J x1,I J x2,I J x3,I J x4,I J x5,I J x6,I J x7] 26)) W->Below w.heap.size w W):=fun W hW=>((zd _ w).alloc (za _) _).trans (hW.mono j2)
 clear b1;go_wp2_with fail
 cases r with
 |false=>
  first|go_region_with (go_at_call 339;refine (CK1.out _ HB.out).mono ?_;rintro e w2 ⟨rfl,hc2,hb2⟩)|fail
  all_goals go_wp2_with fail
  all_goals go_ret
  all_goals exact ⟨by rw[HZ.out];rfl,HE.out _ hb2.out⟩
 |true=>
  go_region_with (first|(go_at_call 339;refine (CK1.out _ HB.out).mono ?_;rintro e w2 ⟨rfl,⟨d0,d1,d2,d3,d4,d5,d6,d7,d8,d9,d10⟩,hb2⟩)|(go_at_call 82;refine (CO1.out _ hb2.out).mono ?_;rintro e w3 ⟨rfl,⟨e0,e1,e2,e3,e4,e5,e6,e7,e8,e9,e10⟩,hb3⟩))
  all_goals go_wp2_with fail
  all_goals go_ret
  all_goals exact ⟨by rw[HZ.out];rfl,HE.out _ hb3.out⟩
theorem SI(n:Int)(s:ByteArray)(x0 x1 x2 x3 x4 x5 x6 x7:Int)(w:World):Calls prog 33 #[H #[I J 3,L s,I J n,I J x0,I J x1,I J x2,I J x3,I J x4,I J x5,I J x6,I J x7]] w fun e w'=>e=Y (j (hOk ⟨3,s,n,[x0,x1,x2,x3,x4,x5,x6,x7]⟩))/\Below w.heap.size w w':=by
 have HZ:Hid (hOk ⟨3,s,n,[x0,x1,x2,x3,x4,x5,x6,x7]⟩=(okG [x0,x1,x2,x3,x4,x5,x6,x7]&&mB 3 ⟨#[]⟩ 0 [x0,x1,x2,x3,x4,x5,x6,x7] 3 s n [x0,x1,x2,x3,x4,x5,x6,x7])):=hOk3 s n _;have CW:Hid (∀W,CB 81 #[H #[I J 3,L s,I J n,I J x0,I J x1,I J x2,I J x3,I J x4,I J x5,I J x6,I J x7]] W (G 144 (H #[I J x0,I J x1,I J x2,I J x3,I J x4,I J x5,I J x6,I J x7]))):=fun W=>zT n s x0 x1 x2 x3 x4 x5 x6 x7 W
 have CK:Hid (∀W,Below w.heap.size w W->CB 340 #[H #[I J x0,I J x1,I J x2,I J x3,I J x4,I J x5,I J x6,I J x7]] W (j (okG [x0,x1,x2,x3,x4,x5,x6,x7]))):=fun W _=>F7 x0 x1 x2 x3 x4 x5 x6 x7 W
 have CO:Hid (∀W,CB 82 #[G 144 (H #[I J x0,I J x1,I J x2,I J x3,I J x4,I J x5,I J x6,I J x7])] W (H #[I J 3,L ⟨#[]⟩,I J 0,I J x0,I J x1,I J x2,I J x3,I J x4,I J x5,I J x6,I J x7])):=fun W=>wZ x0 x1 x2 x3 x4 x5 x6 x7 W
 have heq: ∀W,_:=eqH 3 ⟨#[]⟩ 0 x0 x1 x2 x3 x4 x5 x6 x7 3 s n x0 x1 x2 x3 x4 x5 x6 x7;have HC:Hid (∀W,Below (w.alloc (Z #[I J 3,L s,I J n,I J x0,I J x1,I J x2,I J x3,I J x4,I J x5,I J x6,I J x7] 26)).heap.size (w.alloc (Z #[I J 3,L s,I J n,I J x0,I J x1,I J x2,I J x3,I J x4,I J x5,I J x6,I J x7] 26)) W->eY w W 3 s n x0 x1 x2 x3 x4 x5 x6 x7):=fun W h=>fT w W _ _ _ x0 x1 x2 x3 x4 x5 x6 x7 _ h
 generalize okG [x0,x1,x2,x3,x4,x5,x6,x7]=r at CK HZ;generalize mB 3 ⟨#[]⟩ 0 [x0,x1,x2,x3,x4,x5,x6,x7] 3 s n [x0,x1,x2,x3,x4,x5,x6,x7]=q at HZ heq;go_enter func33,ntmps33;go_wp2_with fail;refine (CW.out _).mono ?_;rintro e w1 ⟨rfl,b1⟩;have HB:Hid (Below (w.alloc (Z #[I J 3,L s,I J n,I J x0,I J x1,I J x2,I J x3,I J x4,I J x5,I J x6,I J x7] 26)).heap.size (w.alloc (Z #[I J 3,L s,I J n,I J x0,I J x1,I J x2,I J x3,I J x4,I J x5,I J x6,I J x7] 26)) w1.drew):=⟨b1.os,b1.tape,b1.output,b1.size,b1.block⟩;obtain ⟨c0,c1,c2,c3,c4,c5,c6,c7,c8,c9,c10⟩:=HC.out w1.drew HB.out;have CK1:Hid (∀W,Below (w.alloc (Z #[I J 3,L s,I J n,I J x0,I J x1,I J x2,I J x3,I J x4,I J x5,I J x6,I J x7] 26)).heap.size (w.alloc (Z #[I J 3,L s,I J n,I J x0,I J x1,I J x2,I J x3,I J x4,I J x5,I J x6,I J x7] 26)) W->Calls prog 340 #[(H #[I J x0,I J x1,I J x2,I J x3,I J x4,I J x5,I J x6,I J x7])] W fun e w'=>e=Y (j r)/\eY w w' 3 s n x0 x1 x2 x3 x4 x5 x6 x7/\Hid (Below (w.alloc (Z #[I J 3,L s,I J n,I J x0,I J x1,I J x2,I J x3,I J x4,I J x5,I J x6,I J x7] 26)).heap.size (w.alloc (Z #[I J 3,L s,I J n,I J x0,I J x1,I J x2,I J x3,I J x4,I J x5,I J x6,I J x7] 26)) w')):=
  fun W hW=>(CK.out W (((zd _ w).alloc (za _) _).trans (hW.mono j2))).mono fun e w' h=>⟨h.1,HC.out w' (hW.trans (h.2.mono hW.size)),hW.trans (h.2.mono hW.size)⟩
 have CO1:Hid (∀W,Below (w.alloc (Z #[I J 3,L s,I J n,I J x0,I J x1,I J x2,I J x3,I J x4,I J x5,I J x6,I J x7] 26)).heap.size (w.alloc (Z #[I J 3,L s,I J n,I J x0,I J x1,I J x2,I J x3,I J x4,I J x5,I J x6,I J x7] 26)) W->Calls prog 82 #[G 144 (H #[I J x0,I J x1,I J x2,I J x3,I J x4,I J x5,I J x6,I J x7])] W fun e w'=>e=Y (H #[I J 3,L ⟨#[]⟩,I J 0,I J x0,I J x1,I J x2,I J x3,I J x4,I J x5,I J x6,I J x7])/\eY w w' 3 s n x0 x1 x2 x3 x4 x5 x6 x7/\Hid (Below (w.alloc (Z #[I J 3,L s,I J n,I J x0,I J x1,I J x2,I J x3,I J x4,I J x5,I J x6,I J x7] 26)).heap.size (w.alloc (Z #[I J 3,L s,I J n,I J x0,I J x1,I J x2,I J x3,I J x4,I J x5,I J x6,I J x7] 26)) w')):=
  fun W hW=>(CO.out W).mono fun e w' h=>⟨h.1,HC.out w' (hW.trans (h.2.mono hW.size)),hW.trans (h.2.mono hW.size)⟩
 have HE:Hid (∀W,Below (w.alloc (Z #[I J 3,L s,I J n,I J x0,I J x1,I J x2,I J x3,I J x4,I J x5,I J x6,I J x7] 26)).heap.size (w.alloc (Z #[I J 3,L s,I J n,I J x0,I J x1,I J x2,I J x3,I J x4,I J x5,I J x6,I J x7] 26)) W->Below w.heap.size w W):=fun W hW=>((zd _ w).alloc (za _) _).trans (hW.mono j2)
 clear b1;go_wp2_with fail
 cases r with
 |false=>
  first|go_region_with (go_at_call 340;refine (CK1.out _ HB.out).mono ?_;rintro e w2 ⟨rfl,hc2,hb2⟩)|fail
  all_goals go_wp2_with fail
  all_goals go_ret
  all_goals exact ⟨by rw[HZ.out];rfl,HE.out _ hb2.out⟩
 |true=>
  go_region_with (first|(go_at_call 340;refine (CK1.out _ HB.out).mono ?_;rintro e w2 ⟨rfl,⟨d0,d1,d2,d3,d4,d5,d6,d7,d8,d9,d10⟩,hb2⟩)|(go_at_call 82;refine (CO1.out _ hb2.out).mono ?_;rintro e w3 ⟨rfl,⟨e0,e1,e2,e3,e4,e5,e6,e7,e8,e9,e10⟩,hb3⟩))
  all_goals go_wp2_with fail
  all_goals go_ret
  all_goals exact ⟨by rw[HZ.out];rfl,HE.out _ hb3.out⟩
theorem SJ(k n:Int)(s:ByteArray)(x0 x1 x2 x3 x4 x5 x6 x7:Int)(w:World)(h1: ¬k=1)(h2: ¬k=2)(h3: ¬k=3):Calls prog 33 #[H #[I J k,L s,I J n,I J x0,I J x1,I J x2,I J x3,I J x4,I J x5,I J x6,I J x7]] w fun e w'=>e=Y (j (hOk ⟨k,s,n,[x0,x1,x2,x3,x4,x5,x6,x7]⟩))/\Below w.heap.size w w':=by
 have HZ:Hid (hOk ⟨k,s,n,[x0,x1,x2,x3,x4,x5,x6,x7]⟩=false):=hOk0 k n s _ h1 h2 h3;have CW:Hid (∀W,CB 81 #[H #[I J k,L s,I J n,I J x0,I J x1,I J x2,I J x3,I J x4,I J x5,I J x6,I J x7]] W .nilIface):=fun W=>RJ k n s x0 x1 x2 x3 x4 x5 x6 x7 W h1 h2 h3
 clear h1 h2 h3;go_enter func33,ntmps33;go_wp2_with fail;refine (CW.out _).mono ?_;rintro e w1 ⟨rfl,b1⟩;have B1:=((zd _ w).alloc (za _) (Z #[I J k,L s,I J n,I J x0,I J x1,I J x2,I J x3,I J x4,I J x5,I J x6,I J x7] 26)).trans (b1.mono j2);have HB:Hid (Below w.heap.size w w1.drew):=⟨B1.os,B1.tape,B1.output,B1.size,B1.block⟩;clear b1 B1;go_wp2_with fail
 first|go_region_with fail|fail
 all_goals go_wp2_with fail
 all_goals go_ret
 all_goals exact ⟨by rw[HZ.out];rfl,HB.out⟩
theorem FA(k n:Int)(s:ByteArray)(x0 x1 x2 x3 x4 x5 x6 x7:Int)(w:World)(hs:s.size<=1048576)(hT:Lib.Utf8Tabs 12 13 w)(hP:Pow w):Calls prog 33 #[H #[I J k,L s,I J n,I J x0,I J x1,I J x2,I J x3,I J x4,I J x5,I J x6,I J x7]] w fun e w'=>e=Y (j (hOk ⟨k,s,n,[x0,x1,x2,x3,x4,x5,x6,x7]⟩))/\Below w.heap.size w w':=by
 by_cases h1:k=1
 .subst h1;exact SG n s x0 x1 x2 x3 x4 x5 x6 x7 w hs hT
 by_cases h2:k=2
 .subst h2;exact SH n s x0 x1 x2 x3 x4 x5 x6 x7 w hP
 by_cases h3:k=3
 .subst h3;exact SI n s x0 x1 x2 x3 x4 x5 x6 x7 w
 exact SJ k n s x0 x1 x2 x3 x4 x5 x6 x7 w h1 h2 h3
theorem F8(s:ByteArray)(w:World)(hs:s.size<=1048576):Calls prog 95 #[G 142 (L s)] w fun e w'=>e=Y (L s)/\Below w.heap.size w w':=by
 have t1:=ta11 s;have CC:Hid (∀W,CB 133 #[L s] W (L s)):=fun W=>jB s W om
 go_enter func95,ntmps95;go_wp2_with fail;refine (CC.out _).mono ?_;rintro e w1 ⟨rfl,b1⟩;go_wp2_with fail;go_ret;exact ⟨rfl,b1⟩
theorem F9(n:Int)(w:World)(h0:0<=n)(h1:n<4294967296)(hP:Pow w):Calls prog 95 #[G 143 (I J n)] w fun e w'=>e=Y (L (gP n))/\Below w.heap.size w w':=by
 have t1:=ta21 n;have t2:=ta22 n;have CC:Hid (CB 142 #[I J n] w (L (gP n))):=rN n w h0 h1 hP;generalize gP n=T at CC⊢;clear h0 h1 hP;go_enter func95,ntmps95;go_wp2_with fail;refine CC.out.mono ?_;rintro e w1 ⟨rfl,b1⟩;go_wp2_with fail;go_ret;exact ⟨rfl,b1⟩
theorem YQ{x0 x1 x2 x3 x4 x5 x6 x7:Int}(h:okG [x0,x1,x2,x3,x4,x5,x6,x7]=true):(⟨(lC [x0,x1,x2,x3,x4,x5,x6,x7]).toArray⟩:ByteArray).size<=39:=by
 show (lC [x0,x1,x2,x3,x4,x5,x6,x7]).toArray.size<=39;rw[ze];unfold lC;rw[if_pos h];exact (Cq rfl (UK (UJ x0 x1 x2 x3 x4 x5 x6 x7)).2).2
theorem SK(l:List UInt8):(⟨(91::(l++[93])).toArray⟩:ByteArray)=(⟨#[91]⟩:ByteArray)++⟨l.toArray⟩++(⟨#[93]⟩:ByteArray):=by
 apply bX;simp[toL]
theorem G4(x0 x1 x2 x3 x4 x5 x6 x7:Int)(w:World)(h:okG [x0,x1,x2,x3,x4,x5,x6,x7]=true)(hD:bK w):Calls prog 95 #[G 144 (H #[I J x0,I J x1,I J x2,I J x3,I J x4,I J x5,I J x6,I J x7])] w fun e w'=>e=Y (L ⟨(91::(lC [x0,x1,x2,x3,x4,x5,x6,x7]++[93])).toArray⟩)/\Below w.heap.size w w':=by
 have t1:=ta31 (H #[I J x0,I J x1,I J x2,I J x3,I J x4,I J x5,I J x6,I J x7]);have t2:=ta32 (H #[I J x0,I J x1,I J x2,I J x3,I J x4,I J x5,I J x6,I J x7]);have t3:=ta33 (H #[I J x0,I J x1,I J x2,I J x3,I J x4,I J x5,I J x6,I J x7]);have CC:Hid (∀W,Below w.heap.size w W->CB 143 #[H #[I J x0,I J x1,I J x2,I J x3,I J x4,I J x5,I J x6,I J x7]] W (L ⟨(lC [x0,x1,x2,x3,x4,x5,x6,x7]).toArray⟩)):=fun W hb=>PN x0 x1 x2 x3 x4 x5 x6 x7 W (aT hD hb)
 have hl:=YQ h;rw[SK];generalize (⟨(lC [x0,x1,x2,x3,x4,x5,x6,x7]).toArray⟩:ByteArray)=T at CC hl⊢;have e1:(⟨#[91]⟩:ByteArray).size=1:=rfl;have e2:(⟨#[93]⟩:ByteArray).size=1:=rfl;have HA:Hid (∀o,Below w.heap.size w (w.alloc o)):=fun o=>(zd _ w).alloc (za _) o
 clear h hD;go_enter func95,ntmps95;go_wp2_with fail;refine (CC.out _ (HA.out _)).mono ?_;rintro e w1 ⟨rfl,b1⟩;have B1:=(HA.out (Z #[I J x0,I J x1,I J x2,I J x3,I J x4,I J x5,I J x6,I J x7] 144)).trans (b1.mono j2);clear b1;go_wp2_with fail;go_ret;exact ⟨rfl,B1⟩
theorem Z7{h:HV}(e:hOk h=false):hTx h=⟨#[]⟩:=by unfold hTx;rw[if_neg (by rw[e];decide)]
theorem hTx1{n:Int}{s:ByteArray}{z:List Int}(e:hOk ⟨1,s,n,z⟩=true):hTx ⟨1,s,n,z⟩=s:=by unfold hTx;rw[if_pos e,if_pos rfl]
theorem hTx2{n:Int}{s:ByteArray}{z:List Int}(e:hOk ⟨2,s,n,z⟩=true):hTx ⟨2,s,n,z⟩=gP n:=by unfold hTx;rw[if_pos e,if_neg (show ¬(2:Int)=1 by decide),if_pos rfl]
theorem hTx3{n:Int}{s:ByteArray}{z:List Int}(e:hOk ⟨3,s,n,z⟩=true):hTx ⟨3,s,n,z⟩=⟨(91::(lC z++[93])).toArray⟩:=by unfold hTx;rw[if_pos e,if_neg (show ¬(3:Int)=1 by decide),if_neg (show ¬(3:Int)=2 by decide)]
theorem MZ(k n:Int)(s:ByteArray)(x0 x1 x2 x3 x4 x5 x6 x7:Int)(w:World)(hs:s.size<=1048576)(hT:Lib.Utf8Tabs 12 13 w)(hP:Pow w)(hD:bK w):Calls prog 43 #[H #[I J k,L s,I J n,I J x0,I J x1,I J x2,I J x3,I J x4,I J x5,I J x6,I J x7]] w fun e w'=>e=Y (L (hTx ⟨k,s,n,[x0,x1,x2,x3,x4,x5,x6,x7]⟩))/\Below w.heap.size w w':=by
 have CO:Hid (∀W,Below w.heap.size w W->CB 33 #[H #[I J k,L s,I J n,I J x0,I J x1,I J x2,I J x3,I J x4,I J x5,I J x6,I J x7]] W (j (hOk ⟨k,s,n,[x0,x1,x2,x3,x4,x5,x6,x7]⟩))):=fun W hb=>FA k n s x0 x1 x2 x3 x4 x5 x6 x7 W hs (bW hT hb) (cN hP hb)
 have HA:Hid (∀o,Below w.heap.size w (w.alloc o)):=fun o=>(zd _ w).alloc (za _) o
 cases hok:hOk ⟨k,s,n,[x0,x1,x2,x3,x4,x5,x6,x7]⟩with
 |false=>
  have HX:Hid (hTx ⟨k,s,n,[x0,x1,x2,x3,x4,x5,x6,x7]⟩=⟨#[]⟩):=Z7 hok;rw[hok]at CO;clear hok hT hP hD;go_enter func43,ntmps43;go_wp2_with fail;refine (CO.out _ (HA.out _)).mono ?_;rintro e w1 ⟨rfl,b1⟩;have B1:=(HA.out (Z #[I J k,L s,I J n,I J x0,I J x1,I J x2,I J x3,I J x4,I J x5,I J x6,I J x7] 26)).trans (b1.mono j2);clear b1;go_wp2_with fail;go_ret;exact ⟨by rw[HX.out];rfl,B1⟩
 |true=>
  by_cases h1:k=1
  .subst h1
   have HX:Hid (hTx ⟨1,s,n,[x0,x1,x2,x3,x4,x5,x6,x7]⟩=s):=hTx1 hok;have CW:Hid (∀W,CB 81 #[H #[I J 1,L s,I J n,I J x0,I J x1,I J x2,I J x3,I J x4,I J x5,I J x6,I J x7]] W (G 142 (L s))):=fun W=>zR n s x0 x1 x2 x3 x4 x5 x6 x7 W
   have CT:Hid (∀W,Below w.heap.size w W->CB 95 #[G 142 (L s)] W (L s)):=fun W _=>F8 s W hs
   rw[hok]at CO;clear hok hT hP hD;go_enter func43,ntmps43;go_wp2_with fail;refine (CO.out _ (HA.out _)).mono ?_;rintro e w1 ⟨rfl,b1⟩;have K1:=fT w w1 _ _ _ x0 x1 x2 x3 x4 x5 x6 x7 _ b1;obtain ⟨c0,c1,c2,c3,c4,c5,c6,c7,c8,c9,c10⟩:=K1;have B1:=(HA.out (Z #[I J 1,L s,I J n,I J x0,I J x1,I J x2,I J x3,I J x4,I J x5,I J x6,I J x7] 26)).trans (b1.mono j2);clear b1;go_wp2_with fail;refine (CW.out _).mono ?_;rintro e w2 ⟨rfl,b2⟩;have B2:=B1.trans (b2.mono B1.size);clear b2;go_wp2_with fail;refine (CT.out _ B2).mono ?_;rintro e w3 ⟨rfl,b3⟩;have B3:=B2.trans (b3.mono B2.size);clear b3;go_wp2_with fail;go_ret;exact ⟨by rw[HX.out];rfl,B3⟩
  by_cases h2:k=2
  .subst h2
   have HX:Hid (hTx ⟨2,s,n,[x0,x1,x2,x3,x4,x5,x6,x7]⟩=gP n):=hTx2 hok;have hr:0<=n/\n<4294967296:=by
    have h:=hok;rw[hOk2,zc]at h;exact of_decide_eq_true h.1
   have CW:Hid (∀W,CB 81 #[H #[I J 2,L s,I J n,I J x0,I J x1,I J x2,I J x3,I J x4,I J x5,I J x6,I J x7]] W (G 143 (I J n))):=fun W=>zS n s x0 x1 x2 x3 x4 x5 x6 x7 W
   have CT:Hid (∀W,Below w.heap.size w W->CB 95 #[G 143 (I J n)] W (L (gP n))):=fun W hb=>F9 n W hr.1 hr.2 (cN hP hb)
   generalize gP n=T at CT HX;rw[hok]at CO;clear hok hT hP hD hr h1;go_enter func43,ntmps43;go_wp2_with fail;refine (CO.out _ (HA.out _)).mono ?_;rintro e w1 ⟨rfl,b1⟩;have K1:=fT w w1 _ _ _ x0 x1 x2 x3 x4 x5 x6 x7 _ b1;obtain ⟨c0,c1,c2,c3,c4,c5,c6,c7,c8,c9,c10⟩:=K1;have B1:=(HA.out (Z #[I J 2,L s,I J n,I J x0,I J x1,I J x2,I J x3,I J x4,I J x5,I J x6,I J x7] 26)).trans (b1.mono j2);clear b1;go_wp2_with fail;refine (CW.out _).mono ?_;rintro e w2 ⟨rfl,b2⟩;have B2:=B1.trans (b2.mono B1.size);clear b2;go_wp2_with fail;refine (CT.out _ B2).mono ?_;rintro e w3 ⟨rfl,b3⟩;have B3:=B2.trans (b3.mono B2.size);clear b3;go_wp2_with fail;go_ret;exact ⟨by rw[HX.out];rfl,B3⟩
  by_cases h3:k=3
  .subst h3
   have HX:Hid (hTx ⟨3,s,n,[x0,x1,x2,x3,x4,x5,x6,x7]⟩=⟨(91::(lC [x0,x1,x2,x3,x4,x5,x6,x7]++[93])).toArray⟩):=hTx3 hok;have hr:okG [x0,x1,x2,x3,x4,x5,x6,x7]=true:=by
    have h:=hok;rw[hOk3,zc]at h;exact h.1
   have CW:Hid (∀W,CB 81 #[H #[I J 3,L s,I J n,I J x0,I J x1,I J x2,I J x3,I J x4,I J x5,I J x6,I J x7]] W (G 144 (H #[I J x0,I J x1,I J x2,I J x3,I J x4,I J x5,I J x6,I J x7]))):=fun W=>zT n s x0 x1 x2 x3 x4 x5 x6 x7 W
   have CT:Hid (∀W,Below w.heap.size w W->CB 95 #[G 144 (H #[I J x0,I J x1,I J x2,I J x3,I J x4,I J x5,I J x6,I J x7])] W (L ⟨(91::(lC [x0,x1,x2,x3,x4,x5,x6,x7]++[93])).toArray⟩)):=fun W hb=>G4 x0 x1 x2 x3 x4 x5 x6 x7 W hr (aT hD hb)
   generalize (⟨(91::(lC [x0,x1,x2,x3,x4,x5,x6,x7]++[93])).toArray⟩:ByteArray)=T at CT HX;rw[hok]at CO;clear hok hT hP hD hr h1 h2;go_enter func43,ntmps43;go_wp2_with fail;refine (CO.out _ (HA.out _)).mono ?_;rintro e w1 ⟨rfl,b1⟩;have K1:=fT w w1 _ _ _ x0 x1 x2 x3 x4 x5 x6 x7 _ b1;obtain ⟨c0,c1,c2,c3,c4,c5,c6,c7,c8,c9,c10⟩:=K1;have B1:=(HA.out (Z #[I J 3,L s,I J n,I J x0,I J x1,I J x2,I J x3,I J x4,I J x5,I J x6,I J x7] 26)).trans (b1.mono j2);clear b1;go_wp2_with fail;refine (CW.out _).mono ?_;rintro e w2 ⟨rfl,b2⟩;have B2:=B1.trans (b2.mono B1.size);clear b2;go_wp2_with fail;refine (CT.out _ B2).mono ?_;rintro e w3 ⟨rfl,b3⟩;have B3:=B2.trans (b3.mono B2.size);clear b3;go_wp2_with fail;go_ret;exact ⟨by rw[HX.out];rfl,B3⟩
  rw[hOk0 k n s _ h1 h2 h3]at hok
  cases hok
theorem Ei(n:Int):(gP n).size<=100:=by
 unfold gP;show (hF n.toNat).toArray.size<=100;rw[ze];unfold hF;have h1:=eZ (n.toNat/16777216);have h2:=eZ (n.toNat/65536%256);have h3:=eZ (n.toNat/256%256);have h4:=eZ (n.toNat%256);simp;omega
theorem SL{k n:Int}{s:ByteArray}{x0 x1 x2 x3 x4 x5 x6 x7:Int}(hs:s.size<=1048576):(hTx ⟨k,s,n,[x0,x1,x2,x3,x4,x5,x6,x7]⟩).size<=1048576:=by
 cases hok:hOk ⟨k,s,n,[x0,x1,x2,x3,x4,x5,x6,x7]⟩with
 |false=>rw[Z7 hok];decide
 |true=>
  by_cases h1:k=1
  .subst h1;rw[hTx1 hok];exact hs
  by_cases h2:k=2
  .subst h2
   rw[hTx2 hok]
   have:=Ei n
   omega
  by_cases h3:k=3
  .subst h3
   have hr:okG [x0,x1,x2,x3,x4,x5,x6,x7]=true:=by
    have h:=hok;rw[hOk3,zc]at h;exact h.1
   rw[hTx3 hok,SK,zg,zg]
   have:=YQ hr
   have e1:(⟨#[91]⟩:ByteArray).size=1:=rfl;have e2:(⟨#[93]⟩:ByteArray).size=1:=rfl;omega
  rw[hOk0 k n s _ h1 h2 h3]at hok
  cases hok
