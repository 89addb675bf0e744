/- HostImpl, HostTextImpl, HostParse. -/
import Derived.Test.YtgcbaphbiaimoaaGreatDoorQB20
set_option maxHeartbeats 4000000
set_option maxRecDepth 20000
namespace Go.Proofs.YtgcbaphbiaimoaaGreatDoor
open Go.Value renaming int->I,string->L,tuple->j,bool->H,agg->G,iface->F
open Go.IntKind renaming i64->J
open Go.Ending renaming returned->Y
open Go.Obj renaming cells->Z
open _root_.Go.RowKit.Below renaming refl->zc
open _root_.Bool renaming and_eq_true->ze,eq_iff_iff->zf
open _root_.ByteArray renaming size_append->zg
open _root_.List renaming isPrefixOf->zh,size_toArray->zd
open _root_.Nat renaming le_refl->za
open _root_.Go.Proofs.Tryz
open _root_.Go.Proofs.YtgcbaphbiaimoaaGreatDoor.Tryz
open Go.RowKit
theorem VL(s:ByteArray)(w:World)(hs:s.size<=1048576)(hT:Lib.Utf8Tabs 12 13 w):Calls prog 338 #[L s] w fun e w'=>e=Y (H (DK s))/\Below w.heap.size w w':=by
 have CN:Hid (CB 266 #[L s] w (dW (cX s))):=IJ s w hs hT;have CE:Hid (∀W,CS 267 #[L s] W (H (nD s))):=fun W=>qJ s W hs
 clear hT
 cases hn:cX s with
 |none=>
  have HZ:Hid (DK s=false):=by
   show _=_;unfold DK;rw[hn,decide_eq_false j2];rfl
  rw[hn]at CN;clear hn;go_enter func338,ntmps338;go_wp2_with fail;refine CN.out.mono ?_;rintro e w1 ⟨rfl,b1⟩;simp only[dW];go_wp2_with fail;go_ret;exact ⟨by rw[HZ.out];rfl,b1⟩
 |some n=>
  by_cases he:n=s.data.toList
  .have HZ:Hid (DK s= !nD s):=by
    show _=_;unfold DK;rw[hn,he,decide_eq_true rfl];rfl
   rw[hn,show dW (some n)=j #[L s,H true] by rw[he];show Value.tuple #[L ⟨s.data.toList.toArray⟩,H true]=_;rw[sU]]at CN;clear hn he;generalize nD s=r at HZ CE;go_enter func338,ntmps338;go_wp2_with fail;refine CN.out.mono ?_;rintro e w1 ⟨rfl,b1⟩;go_wp2_with fail;refine (CE.out _).mono ?_;rintro e w2 ⟨rfl,rfl⟩;go_wp2_with fail;go_ret;exact ⟨by rw[HZ.out];rfl,b1⟩
  have HZ:Hid (DK s=false):=by
   show _=_;unfold DK;rw[hn,decide_eq_false (by intro e;exact he (Option.some.inj e))];rfl
  have hne:((⟨n.toArray⟩:ByteArray).toList==s.toList)=false:=rG (fun e=>he (by rw[<-e]));rw[hn]at CN;simp only[dW]at CN;generalize (⟨n.toArray⟩:ByteArray)=T at CN hne;clear hn he;go_enter func338,ntmps338;go_wp2_with fail;refine CN.out.mono ?_;rintro e w1 ⟨rfl,b1⟩;go_wp2_with fail;go_ret;exact ⟨by rw[HZ.out];rfl,b1⟩
theorem Ee(n:Int):0<(fR n).size:=by
 unfold fR;show 0<(iE n.toNat).toArray.size;rw[zd];unfold iE;simp;omega
theorem YX(n:Int)(w:World)(hT:Pow w):Calls prog 339 #[I J n] w fun e w'=>e=Y (H (decide (0<=n/\n<4294967296)))/\Below w.heap.size w w':=by
 by_cases h:0<=n/\n<4294967296
 .have CT:Hid (CB 142 #[I J n] w (L (fR n))):=sM n w h.1 h.2 hT
  have HZ:Hid (decide (0<=n/\n<4294967296)=true):=decide_eq_true h;have hem:=aW (Ee n);generalize fR n=T at CT hem;clear h hT;go_enter func339,ntmps339;go_wp2_with fail;refine CT.out.mono ?_;rintro e w1 ⟨rfl,b1⟩;go_wp2_with fail;go_ret;exact ⟨by rw[HZ.out];rfl,b1⟩
 have CT:Hid (CB 142 #[I J n] w (L ⟨#[]⟩)):=EY n w om;have HZ:Hid (decide (0<=n/\n<4294967296)=false):=decide_eq_false h;clear h hT;go_enter func339,ntmps339;go_wp2_with fail;refine CT.out.mono ?_;rintro e w1 ⟨rfl,b1⟩;go_wp2_with fail;go_ret;exact ⟨by rw[HZ.out];rfl,b1⟩
theorem T9(x0 x1 x2 x3 x4 x5 x6 x7:Int)(w:World):Calls prog 340 #[G #[I J x0,I J x1,I J x2,I J x3,I J x4,I J x5,I J x6,I J x7]] w fun e w'=>e=Y (H (okG [x0,x1,x2,x3,x4,x5,x6,x7]))/\Below w.heap.size w w':=by
 have CG:Hid (∀W,CB 193 #[G #[I J x0,I J x1,I J x2,I J x3,I J x4,I J x5,I J x6,I J x7]] W (H (okG [x0,x1,x2,x3,x4,x5,x6,x7]))):=fun W=>xX x0 x1 x2 x3 x4 x5 x6 x7 W
 generalize okG [x0,x1,x2,x3,x4,x5,x6,x7]=r at CG⊢;go_enter func340,ntmps340;go_wp2_with fail;refine (CG.out _).mono ?_;rintro e w1 ⟨rfl,b1⟩;go_wp2_with fail;go_ret;exact ⟨rfl,((zc _ _).alloc (za _) _).trans (b1.mono j2)⟩
theorem bqB(a b:ByteArray):(a.toList==b.toList)=decide (a=b):=by
 by_cases h:a=b
 .rw[XK h,decide_eq_true h]
 rw[rG h,decide_eq_false h]
theorem VM(s:ByteArray):s.size=0↔(⟨#[]⟩:ByteArray)=s:=by
 constructor
 .intro h
  apply bL;exact (List.eq_nil_of_length_eq_zero (by simpa[toL] using h)).symm
 intro h;rw[<-h];rfl
theorem hOk1(s:ByteArray)(n:Int)(z:List Int):hOk ⟨1,s,n,z⟩=(DK s&&yS 1 s 0 gI 1 s n z):=by
 unfold hOk DK yS eqB;rw[if_pos rfl,zf];simp only[ze,decide_eq_true_eq,beq_self_eq_true,true_and,beq_iff_eq];constructor
 .rintro ⟨⟨h1,h2⟩,h3⟩
  exact ⟨h1,h2.symm,h3.symm⟩
 rintro ⟨h1,h2,h3⟩;exact ⟨⟨h1,h2.symm⟩,h3.symm⟩
theorem hOk2(s:ByteArray)(n:Int)(z:List Int):hOk ⟨2,s,n,z⟩=(decide (0<=n/\n<4294967296)&&yS 2 ⟨#[]⟩ n gI 2 s n z):=by
 unfold hOk yS eqB;rw[if_neg (show ¬(2:Int)=1 by decide),if_pos rfl,zf,bqB];simp only[ze,decide_eq_true_eq,beq_self_eq_true,true_and,VM];constructor
 .rintro ⟨⟨h1,h2⟩,h3⟩
  exact ⟨h2,h1,h3.symm⟩
 rintro ⟨h1,h2,h3⟩;exact ⟨⟨h2,h1⟩,h3.symm⟩
theorem hOk3(s:ByteArray)(n:Int)(z:List Int):hOk ⟨3,s,n,z⟩=(okG z&&yS 3 ⟨#[]⟩ 0 z 3 s n z):=by
 unfold hOk yS eqB;rw[if_neg (show ¬(3:Int)=1 by decide),if_neg (show ¬(3:Int)=2 by decide),if_pos rfl,zf,bqB];simp only[ze,decide_eq_true_eq,beq_self_eq_true,true_and,VM,beq_iff_eq,and_true];constructor
 .rintro ⟨⟨h1,h2⟩,h3⟩
  exact ⟨h3,h1,h2.symm⟩
 rintro ⟨h1,h2,h3⟩;exact ⟨⟨h2,h3.symm⟩,h1⟩
theorem Ef(k n:Int)(s:ByteArray)(z:List Int)(h1: ¬k=1)(h2: ¬k=2)(h3: ¬k=3):hOk ⟨k,s,n,z⟩=false:=by
 unfold hOk;rw[if_neg h1,if_neg h2,if_neg h3]
theorem VN(n:Int)(s:ByteArray)(x0 x1 x2 x3 x4 x5 x6 x7:Int)(w:World)(hs:s.size<=1048576)(hT:Lib.Utf8Tabs 12 13 w):Calls prog 33 #[G #[I J 1,L s,I J n,I J x0,I J x1,I J x2,I J x3,I J x4,I J x5,I J x6,I J x7]] w fun e w'=>e=Y (H (hOk ⟨1,s,n,[x0,x1,x2,x3,x4,x5,x6,x7]⟩))/\Below w.heap.size w w':=by
 have HZ:Hid (hOk ⟨1,s,n,[x0,x1,x2,x3,x4,x5,x6,x7]⟩=(DK s&&yS 1 s 0 gI 1 s n [x0,x1,x2,x3,x4,x5,x6,x7])):=hOk1 s n _;have CW:Hid (∀W,CB 81 #[G #[I J 1,L s,I J n,I J x0,I J x1,I J x2,I J x3,I J x4,I J x5,I J x6,I J x7]] W (F 142 (L s))):=fun W=>BT n s x0 x1 x2 x3 x4 x5 x6 x7 W
 have CK:Hid (∀W,Below w.heap.size w W->CB 338 #[L s] W (H (DK s))):=fun W hb=>VL s W hs (cV hT hb)
 have CO:Hid (∀W,CB 82 #[F 142 (L s)] W (G #[I J 1,L s,I J 0,I J 0,I J 0,I J 0,I J 0,I J 0,I J 0,I J 0,I J 0])):=fun W=>yJ s W
 have heq: ∀W,_:=eqH 1 s 0 0 0 0 0 0 0 0 0 1 s n x0 x1 x2 x3 x4 x5 x6 x7;rw[show [0,0,0,0,0,0,0,0]=gI from rfl]at heq;clear hT;have HC:Hid (∀W,Below (w.alloc (Z #[I J 1,L s,I J n,I J x0,I J x1,I J x2,I J x3,I J x4,I J x5,I J x6,I J x7] 26)).heap.size (w.alloc (Z #[I J 1,L s,I J n,I J x0,I J x1,I J x2,I J x3,I J x4,I J x5,I J x6,I J x7] 26)) W->fJ w W 1 s n x0 x1 x2 x3 x4 x5 x6 x7):=fun W h=>eB w W _ _ _ x0 x1 x2 x3 x4 x5 x6 x7 _ h
 generalize DK s=r at CK HZ;generalize yS 1 s 0 gI 1 s n [x0,x1,x2,x3,x4,x5,x6,x7]=q at HZ heq;go_enter func33,ntmps33;go_wp2_with fail;refine (CW.out _).mono ?_;rintro e w1 ⟨rfl,b1⟩;have HB:Hid (Below (w.alloc (Z #[I J 1,L s,I J n,I J x0,I J x1,I J x2,I J x3,I J x4,I J x5,I J x6,I J x7] 26)).heap.size (w.alloc (Z #[I J 1,L s,I J n,I J x0,I J x1,I J x2,I J x3,I J x4,I J x5,I J x6,I J x7] 26)) w1.drew):=⟨b1.os,b1.tape,b1.output,b1.size,b1.block⟩;obtain ⟨c0,c1,c2,c3,c4,c5,c6,c7,c8,c9,c10⟩:=HC.out w1.drew HB.out;have CK1:Hid (∀W,Below (w.alloc (Z #[I J 1,L s,I J n,I J x0,I J x1,I J x2,I J x3,I J x4,I J x5,I J x6,I J x7] 26)).heap.size (w.alloc (Z #[I J 1,L s,I J n,I J x0,I J x1,I J x2,I J x3,I J x4,I J x5,I J x6,I J x7] 26)) W->Calls prog 338 #[(L s)] W fun e w'=>e=Y (H r)/\fJ w w' 1 s n x0 x1 x2 x3 x4 x5 x6 x7/\Hid (Below (w.alloc (Z #[I J 1,L s,I J n,I J x0,I J x1,I J x2,I J x3,I J x4,I J x5,I J x6,I J x7] 26)).heap.size (w.alloc (Z #[I J 1,L s,I J n,I J x0,I J x1,I J x2,I J x3,I J x4,I J x5,I J x6,I J x7] 26)) w')):=
  fun W hW=>(CK.out W (((zc _ w).alloc (za _) _).trans (hW.mono j2))).mono fun e w' h=>⟨h.1,HC.out w' (hW.trans (h.2.mono hW.size)),hW.trans (h.2.mono hW.size)⟩
 have CO1:Hid (∀W,Below (w.alloc (Z #[I J 1,L s,I J n,I J x0,I J x1,I J x2,I J x3,I J x4,I J x5,I J x6,I J x7] 26)).heap.size (w.alloc (Z #[I J 1,L s,I J n,I J x0,I J x1,I J x2,I J x3,I J x4,I J x5,I J x6,I J x7] 26)) W->Calls prog 82 #[F 142 (L s)] W fun e w'=>e=Y (G #[I J 1,L s,I J 0,I J 0,I J 0,I J 0,I J 0,I J 0,I J 0,I J 0,I J 0])/\fJ w w' 1 s n x0 x1 x2 x3 x4 x5 x6 x7/\Hid (Below (w.alloc (Z #[I J 1,L s,I J n,I J x0,I J x1,I J x2,I J x3,I J x4,I J x5,I J x6,I J x7] 26)).heap.size (w.alloc (Z #[I J 1,L s,I J n,I J x0,I J x1,I J x2,I J x3,I J x4,I J x5,I J x6,I J x7] 26)) w')):=
  fun W hW=>(CO.out W).mono fun e w' h=>⟨h.1,HC.out w' (hW.trans (h.2.mono hW.size)),hW.trans (h.2.mono hW.size)⟩
 have HE:Hid (∀W,Below (w.alloc (Z #[I J 1,L s,I J n,I J x0,I J x1,I J x2,I J x3,I J x4,I J x5,I J x6,I J x7] 26)).heap.size (w.alloc (Z #[I J 1,L s,I J n,I J x0,I J x1,I J x2,I J x3,I J x4,I J x5,I J x6,I J x7] 26)) W->Below w.heap.size w W):=fun W hW=>((zc _ w).alloc (za _) _).trans (hW.mono j2)
 clear b1;go_wp2_with fail
 cases r with
 |false=>
  first|go_region_with (go_at_call 338;refine (CK1.out _ HB.out).mono ?_;rintro e w2 ⟨rfl,hc2,hb2⟩)|fail
  all_goals go_wp2_with fail
  all_goals go_ret
  all_goals exact ⟨by rw[HZ.out];rfl,HE.out _ hb2.out⟩
 |true=>
  go_region_with (first|(go_at_call 338;refine (CK1.out _ HB.out).mono ?_;rintro e w2 ⟨rfl,⟨d0,d1,d2,d3,d4,d5,d6,d7,d8,d9,d10⟩,hb2⟩)|(go_at_call 82;refine (CO1.out _ hb2.out).mono ?_;rintro e w3 ⟨rfl,⟨e0,e1,e2,e3,e4,e5,e6,e7,e8,e9,e10⟩,hb3⟩))
  all_goals go_wp2_with fail
  all_goals go_ret
  all_goals exact ⟨by rw[HZ.out];rfl,HE.out _ hb3.out⟩
theorem VO(n:Int)(s:ByteArray)(x0 x1 x2 x3 x4 x5 x6 x7:Int)(w:World)(hP:Pow w):Calls prog 33 #[G #[I J 2,L s,I J n,I J x0,I J x1,I J x2,I J x3,I J x4,I J x5,I J x6,I J x7]] w fun e w'=>e=Y (H (hOk ⟨2,s,n,[x0,x1,x2,x3,x4,x5,x6,x7]⟩))/\Below w.heap.size w w':=by
 have HZ:Hid (hOk ⟨2,s,n,[x0,x1,x2,x3,x4,x5,x6,x7]⟩=(decide (0<=n/\n<4294967296)&&yS 2 ⟨#[]⟩ n gI 2 s n [x0,x1,x2,x3,x4,x5,x6,x7])):=hOk2 s n _;have CW:Hid (∀W,CB 81 #[G #[I J 2,L s,I J n,I J x0,I J x1,I J x2,I J x3,I J x4,I J x5,I J x6,I J x7]] W (F 143 (I J n))):=fun W=>BU n s x0 x1 x2 x3 x4 x5 x6 x7 W
 have CK:Hid (∀W,Below w.heap.size w W->CB 339 #[I J n] W (H (decide (0<=n/\n<4294967296)))):=fun W hb=>YX n W (dQ hP hb)
 have CO:Hid (∀W,CB 82 #[F 143 (I J n)] W (G #[I J 2,L ⟨#[]⟩,I J n,I J 0,I J 0,I J 0,I J 0,I J 0,I J 0,I J 0,I J 0])):=fun W=>yK n W
 have heq: ∀W,_:=eqH 2 ⟨#[]⟩ n 0 0 0 0 0 0 0 0 2 s n x0 x1 x2 x3 x4 x5 x6 x7;rw[show [0,0,0,0,0,0,0,0]=gI from rfl]at heq;clear hP;have HC:Hid (∀W,Below (w.alloc (Z #[I J 2,L s,I J n,I J x0,I J x1,I J x2,I J x3,I J x4,I J x5,I J x6,I J x7] 26)).heap.size (w.alloc (Z #[I J 2,L s,I J n,I J x0,I J x1,I J x2,I J x3,I J x4,I J x5,I J x6,I J x7] 26)) W->fJ w W 2 s n x0 x1 x2 x3 x4 x5 x6 x7):=fun W h=>eB w W _ _ _ x0 x1 x2 x3 x4 x5 x6 x7 _ h
 generalize decide (0<=n/\n<4294967296)=r at CK HZ;generalize yS 2 ⟨#[]⟩ n gI 2 s n [x0,x1,x2,x3,x4,x5,x6,x7]=q at HZ heq;go_enter func33,ntmps33;go_wp2_with fail;refine (CW.out _).mono ?_;rintro e w1 ⟨rfl,b1⟩;have HB:Hid (Below (w.alloc (Z #[I J 2,L s,I J n,I J x0,I J x1,I J x2,I J x3,I J x4,I J x5,I J x6,I J x7] 26)).heap.size (w.alloc (Z #[I J 2,L s,I J n,I J x0,I J x1,I J x2,I J x3,I J x4,I J x5,I J x6,I J x7] 26)) w1.drew):=⟨b1.os,b1.tape,b1.output,b1.size,b1.block⟩;obtain ⟨c0,c1,c2,c3,c4,c5,c6,c7,c8,c9,c10⟩:=HC.out w1.drew HB.out;have CK1:Hid (∀W,Below (w.alloc (Z #[I J 2,L s,I J n,I J x0,I J x1,I J x2,I J x3,I J x4,I J x5,I J x6,I J x7] 26)).heap.size (w.alloc (Z #[I J 2,L s,I J n,I J x0,I J x1,I J x2,I J x3,I J x4,I J x5,I J x6,I J x7] 26)) W->Calls prog 339 #[(I J n)] W fun e w'=>e=Y (H r)/\fJ w w' 2 s n x0 x1 x2 x3 x4 x5 x6 x7/\Hid (Below (w.alloc (Z #[I J 2,L s,I J n,I J x0,I J x1,I J x2,I J x3,I J x4,I J x5,I J x6,I J x7] 26)).heap.size (w.alloc (Z #[I J 2,L s,I J n,I J x0,I J x1,I J x2,I J x3,I J x4,I J x5,I J x6,I J x7] 26)) w')):=
  fun W hW=>(CK.out W (((zc _ w).alloc (za _) _).trans (hW.mono j2))).mono fun e w' h=>⟨h.1,HC.out w' (hW.trans (h.2.mono hW.size)),hW.trans (h.2.mono hW.size)⟩
 have CO1:Hid (∀W,Below (w.alloc (Z #[I J 2,L s,I J n,I J x0,I J x1,I J x2,I J x3,I J x4,I J x5,I J x6,I J x7] 26)).heap.size (w.alloc (Z #[I J 2,L s,I J n,I J x0,I J x1,I J x2,I J x3,I J x4,I J x5,I J x6,I J x7] 26)) W->Calls prog 82 #[F 143 (I J n)] W fun e w'=>e=Y (G #[I J 2,L ⟨#[]⟩,I J n,I J 0,I J 0,I J 0,I J 0,I J 0,I J 0,I J 0,I J 0])/\fJ w w' 2 s n x0 x1 x2 x3 x4 x5 x6 x7/\Hid (Below (w.alloc (Z #[I J 2,L s,I J n,I J x0,I J x1,I J x2,I J x3,I J x4,I J x5,I J x6,I J x7] 26)).heap.size (w.alloc (Z #[I J 2,L s,I J n,I J x0,I J x1,I J x2,I J x3,I J x4,I J x5,I J x6,I J x7] 26)) w')):=
  fun W hW=>(CO.out W).mono fun e w' h=>⟨h.1,HC.out w' (hW.trans (h.2.mono hW.size)),hW.trans (h.2.mono hW.size)⟩
 have HE:Hid (∀W,Below (w.alloc (Z #[I J 2,L s,I J n,I J x0,I J x1,I J x2,I J x3,I J x4,I J x5,I J x6,I J x7] 26)).heap.size (w.alloc (Z #[I J 2,L s,I J n,I J x0,I J x1,I J x2,I J x3,I J x4,I J x5,I J x6,I J x7] 26)) W->Below w.heap.size w W):=fun W hW=>((zc _ w).alloc (za _) _).trans (hW.mono j2)
 clear b1;go_wp2_with fail
 cases r with
 |false=>
  first|go_region_with (go_at_call 339;refine (CK1.out _ HB.out).mono ?_;rintro e w2 ⟨rfl,hc2,hb2⟩)|fail
  all_goals go_wp2_with fail
  all_goals go_ret
  all_goals exact ⟨by rw[HZ.out];rfl,HE.out _ hb2.out⟩
 |true=>
  go_region_with (first|(go_at_call 339;refine (CK1.out _ HB.out).mono ?_;rintro e w2 ⟨rfl,⟨d0,d1,d2,d3,d4,d5,d6,d7,d8,d9,d10⟩,hb2⟩)|(go_at_call 82;refine (CO1.out _ hb2.out).mono ?_;rintro e w3 ⟨rfl,⟨e0,e1,e2,e3,e4,e5,e6,e7,e8,e9,e10⟩,hb3⟩))
  all_goals go_wp2_with fail
  all_goals go_ret
  all_goals exact ⟨by rw[HZ.out];rfl,HE.out _ hb3.out⟩
theorem VP(n:Int)(s:ByteArray)(x0 x1 x2 x3 x4 x5 x6 x7:Int)(w:World):Calls prog 33 #[G #[I J 3,L s,I J n,I J x0,I J x1,I J x2,I J x3,I J x4,I J x5,I J x6,I J x7]] w fun e w'=>e=Y (H (hOk ⟨3,s,n,[x0,x1,x2,x3,x4,x5,x6,x7]⟩))/\Below w.heap.size w w':=by
 have HZ:Hid (hOk ⟨3,s,n,[x0,x1,x2,x3,x4,x5,x6,x7]⟩=(okG [x0,x1,x2,x3,x4,x5,x6,x7]&&yS 3 ⟨#[]⟩ 0 [x0,x1,x2,x3,x4,x5,x6,x7] 3 s n [x0,x1,x2,x3,x4,x5,x6,x7])):=hOk3 s n _;have CW:Hid (∀W,CB 81 #[G #[I J 3,L s,I J n,I J x0,I J x1,I J x2,I J x3,I J x4,I J x5,I J x6,I J x7]] W (F 144 (G #[I J x0,I J x1,I J x2,I J x3,I J x4,I J x5,I J x6,I J x7]))):=fun W=>BV n s x0 x1 x2 x3 x4 x5 x6 x7 W
 have CK:Hid (∀W,Below w.heap.size w W->CB 340 #[G #[I J x0,I J x1,I J x2,I J x3,I J x4,I J x5,I J x6,I J x7]] W (H (okG [x0,x1,x2,x3,x4,x5,x6,x7]))):=fun W _=>T9 x0 x1 x2 x3 x4 x5 x6 x7 W
 have CO:Hid (∀W,CB 82 #[F 144 (G #[I J x0,I J x1,I J x2,I J x3,I J x4,I J x5,I J x6,I J x7])] W (G #[I J 3,L ⟨#[]⟩,I J 0,I J x0,I J x1,I J x2,I J x3,I J x4,I J x5,I J x6,I J x7])):=fun W=>yL x0 x1 x2 x3 x4 x5 x6 x7 W
 have heq: ∀W,_:=eqH 3 ⟨#[]⟩ 0 x0 x1 x2 x3 x4 x5 x6 x7 3 s n x0 x1 x2 x3 x4 x5 x6 x7;have HC:Hid (∀W,Below (w.alloc (Z #[I J 3,L s,I J n,I J x0,I J x1,I J x2,I J x3,I J x4,I J x5,I J x6,I J x7] 26)).heap.size (w.alloc (Z #[I J 3,L s,I J n,I J x0,I J x1,I J x2,I J x3,I J x4,I J x5,I J x6,I J x7] 26)) W->fJ w W 3 s n x0 x1 x2 x3 x4 x5 x6 x7):=fun W h=>eB w W _ _ _ x0 x1 x2 x3 x4 x5 x6 x7 _ h
 generalize okG [x0,x1,x2,x3,x4,x5,x6,x7]=r at CK HZ;generalize yS 3 ⟨#[]⟩ 0 [x0,x1,x2,x3,x4,x5,x6,x7] 3 s n [x0,x1,x2,x3,x4,x5,x6,x7]=q at HZ heq;go_enter func33,ntmps33;go_wp2_with fail;refine (CW.out _).mono ?_;rintro e w1 ⟨rfl,b1⟩;have HB:Hid (Below (w.alloc (Z #[I J 3,L s,I J n,I J x0,I J x1,I J x2,I J x3,I J x4,I J x5,I J x6,I J x7] 26)).heap.size (w.alloc (Z #[I J 3,L s,I J n,I J x0,I J x1,I J x2,I J x3,I J x4,I J x5,I J x6,I J x7] 26)) w1.drew):=⟨b1.os,b1.tape,b1.output,b1.size,b1.block⟩;obtain ⟨c0,c1,c2,c3,c4,c5,c6,c7,c8,c9,c10⟩:=HC.out w1.drew HB.out;have CK1:Hid (∀W,Below (w.alloc (Z #[I J 3,L s,I J n,I J x0,I J x1,I J x2,I J x3,I J x4,I J x5,I J x6,I J x7] 26)).heap.size (w.alloc (Z #[I J 3,L s,I J n,I J x0,I J x1,I J x2,I J x3,I J x4,I J x5,I J x6,I J x7] 26)) W->Calls prog 340 #[(G #[I J x0,I J x1,I J x2,I J x3,I J x4,I J x5,I J x6,I J x7])] W fun e w'=>e=Y (H r)/\fJ w w' 3 s n x0 x1 x2 x3 x4 x5 x6 x7/\Hid (Below (w.alloc (Z #[I J 3,L s,I J n,I J x0,I J x1,I J x2,I J x3,I J x4,I J x5,I J x6,I J x7] 26)).heap.size (w.alloc (Z #[I J 3,L s,I J n,I J x0,I J x1,I J x2,I J x3,I J x4,I J x5,I J x6,I J x7] 26)) w')):=
  fun W hW=>(CK.out W (((zc _ w).alloc (za _) _).trans (hW.mono j2))).mono fun e w' h=>⟨h.1,HC.out w' (hW.trans (h.2.mono hW.size)),hW.trans (h.2.mono hW.size)⟩
 have CO1:Hid (∀W,Below (w.alloc (Z #[I J 3,L s,I J n,I J x0,I J x1,I J x2,I J x3,I J x4,I J x5,I J x6,I J x7] 26)).heap.size (w.alloc (Z #[I J 3,L s,I J n,I J x0,I J x1,I J x2,I J x3,I J x4,I J x5,I J x6,I J x7] 26)) W->Calls prog 82 #[F 144 (G #[I J x0,I J x1,I J x2,I J x3,I J x4,I J x5,I J x6,I J x7])] W fun e w'=>e=Y (G #[I J 3,L ⟨#[]⟩,I J 0,I J x0,I J x1,I J x2,I J x3,I J x4,I J x5,I J x6,I J x7])/\fJ w w' 3 s n x0 x1 x2 x3 x4 x5 x6 x7/\Hid (Below (w.alloc (Z #[I J 3,L s,I J n,I J x0,I J x1,I J x2,I J x3,I J x4,I J x5,I J x6,I J x7] 26)).heap.size (w.alloc (Z #[I J 3,L s,I J n,I J x0,I J x1,I J x2,I J x3,I J x4,I J x5,I J x6,I J x7] 26)) w')):=
  fun W hW=>(CO.out W).mono fun e w' h=>⟨h.1,HC.out w' (hW.trans (h.2.mono hW.size)),hW.trans (h.2.mono hW.size)⟩
 have HE:Hid (∀W,Below (w.alloc (Z #[I J 3,L s,I J n,I J x0,I J x1,I J x2,I J x3,I J x4,I J x5,I J x6,I J x7] 26)).heap.size (w.alloc (Z #[I J 3,L s,I J n,I J x0,I J x1,I J x2,I J x3,I J x4,I J x5,I J x6,I J x7] 26)) W->Below w.heap.size w W):=fun W hW=>((zc _ w).alloc (za _) _).trans (hW.mono j2)
 clear b1;go_wp2_with fail
 cases r with
 |false=>
  first|go_region_with (go_at_call 340;refine (CK1.out _ HB.out).mono ?_;rintro e w2 ⟨rfl,hc2,hb2⟩)|fail
  all_goals go_wp2_with fail
  all_goals go_ret
  all_goals exact ⟨by rw[HZ.out];rfl,HE.out _ hb2.out⟩
 |true=>
  go_region_with (first|(go_at_call 340;refine (CK1.out _ HB.out).mono ?_;rintro e w2 ⟨rfl,⟨d0,d1,d2,d3,d4,d5,d6,d7,d8,d9,d10⟩,hb2⟩)|(go_at_call 82;refine (CO1.out _ hb2.out).mono ?_;rintro e w3 ⟨rfl,⟨e0,e1,e2,e3,e4,e5,e6,e7,e8,e9,e10⟩,hb3⟩))
  all_goals go_wp2_with fail
  all_goals go_ret
  all_goals exact ⟨by rw[HZ.out];rfl,HE.out _ hb3.out⟩
theorem VQ(k n:Int)(s:ByteArray)(x0 x1 x2 x3 x4 x5 x6 x7:Int)(w:World)(h1: ¬k=1)(h2: ¬k=2)(h3: ¬k=3):Calls prog 33 #[G #[I J k,L s,I J n,I J x0,I J x1,I J x2,I J x3,I J x4,I J x5,I J x6,I J x7]] w fun e w'=>e=Y (H (hOk ⟨k,s,n,[x0,x1,x2,x3,x4,x5,x6,x7]⟩))/\Below w.heap.size w w':=by
 have HZ:Hid (hOk ⟨k,s,n,[x0,x1,x2,x3,x4,x5,x6,x7]⟩=false):=Ef k n s _ h1 h2 h3;have CW:Hid (∀W,CB 81 #[G #[I J k,L s,I J n,I J x0,I J x1,I J x2,I J x3,I J x4,I J x5,I J x6,I J x7]] W .nilIface):=fun W=>UN k n s x0 x1 x2 x3 x4 x5 x6 x7 W h1 h2 h3
 clear h1 h2 h3;go_enter func33,ntmps33;go_wp2_with fail;refine (CW.out _).mono ?_;rintro e w1 ⟨rfl,b1⟩;have B1:=((zc _ w).alloc (za _) (Z #[I J k,L s,I J n,I J x0,I J x1,I J x2,I J x3,I J x4,I J x5,I J x6,I J x7] 26)).trans (b1.mono j2);have HB:Hid (Below w.heap.size w w1.drew):=⟨B1.os,B1.tape,B1.output,B1.size,B1.block⟩;clear b1 B1;go_wp2_with fail
 first|go_region_with fail|fail
 all_goals go_wp2_with fail
 all_goals go_ret
 all_goals exact ⟨by rw[HZ.out];rfl,HB.out⟩
theorem IK(k n:Int)(s:ByteArray)(x0 x1 x2 x3 x4 x5 x6 x7:Int)(w:World)(hs:s.size<=1048576)(hT:Lib.Utf8Tabs 12 13 w)(hP:Pow w):Calls prog 33 #[G #[I J k,L s,I J n,I J x0,I J x1,I J x2,I J x3,I J x4,I J x5,I J x6,I J x7]] w fun e w'=>e=Y (H (hOk ⟨k,s,n,[x0,x1,x2,x3,x4,x5,x6,x7]⟩))/\Below w.heap.size w w':=by
 by_cases h1:k=1
 .subst h1;exact VN n s x0 x1 x2 x3 x4 x5 x6 x7 w hs hT
 by_cases h2:k=2
 .subst h2;exact VO n s x0 x1 x2 x3 x4 x5 x6 x7 w hP
 by_cases h3:k=3
 .subst h3;exact VP n s x0 x1 x2 x3 x4 x5 x6 x7 w
 exact VQ k n s x0 x1 x2 x3 x4 x5 x6 x7 w h1 h2 h3
theorem U0(s:ByteArray)(w:World)(hs:s.size<=1048576):Calls prog 95 #[F 142 (L s)] w fun e w'=>e=Y (L s)/\Below w.heap.size w w':=by
 have t1:=ta11 s;have CC:Hid (∀W,CB 133 #[L s] W (L s)):=fun W=>kF s W om
 go_enter func95,ntmps95;go_wp2_with fail;refine (CC.out _).mono ?_;rintro e w1 ⟨rfl,b1⟩;go_wp2_with fail;go_ret;exact ⟨rfl,b1⟩
theorem U1(n:Int)(w:World)(h0:0<=n)(h1:n<4294967296)(hP:Pow w):Calls prog 95 #[F 143 (I J n)] w fun e w'=>e=Y (L (fR n))/\Below w.heap.size w w':=by
 have t1:=ta21 n;have t2:=ta22 n;have CC:Hid (CB 142 #[I J n] w (L (fR n))):=sM n w h0 h1 hP;generalize fR n=T at CC⊢;clear h0 h1 hP;go_enter func95,ntmps95;go_wp2_with fail;refine CC.out.mono ?_;rintro e w1 ⟨rfl,b1⟩;go_wp2_with fail;go_ret;exact ⟨rfl,b1⟩
theorem QH{x0 x1 x2 x3 x4 x5 x6 x7:Int}(h:okG [x0,x1,x2,x3,x4,x5,x6,x7]=true):(⟨(fS [x0,x1,x2,x3,x4,x5,x6,x7]).toArray⟩:ByteArray).size<=39:=by
 show (fS [x0,x1,x2,x3,x4,x5,x6,x7]).toArray.size<=39;rw[zd];unfold fS;rw[if_pos h];exact (E6 rfl (OR (AH x0 x1 x2 x3 x4 x5 x6 x7)).2).2
theorem IL(l:List UInt8):(⟨(91::(l++[93])).toArray⟩:ByteArray)=(⟨#[91]⟩:ByteArray)++⟨l.toArray⟩++(⟨#[93]⟩:ByteArray):=by
 apply bL;simp[toL]
theorem U2(x0 x1 x2 x3 x4 x5 x6 x7:Int)(w:World)(h:okG [x0,x1,x2,x3,x4,x5,x6,x7]=true)(hD:cC w):Calls prog 95 #[F 144 (G #[I J x0,I J x1,I J x2,I J x3,I J x4,I J x5,I J x6,I J x7])] w fun e w'=>e=Y (L ⟨(91::(fS [x0,x1,x2,x3,x4,x5,x6,x7]++[93])).toArray⟩)/\Below w.heap.size w w':=by
 have t1:=ta31 (G #[I J x0,I J x1,I J x2,I J x3,I J x4,I J x5,I J x6,I J x7]);have t2:=ta32 (G #[I J x0,I J x1,I J x2,I J x3,I J x4,I J x5,I J x6,I J x7]);have t3:=ta33 (G #[I J x0,I J x1,I J x2,I J x3,I J x4,I J x5,I J x6,I J x7]);have CC:Hid (∀W,Below w.heap.size w W->CB 143 #[G #[I J x0,I J x1,I J x2,I J x3,I J x4,I J x5,I J x6,I J x7]] W (L ⟨(fS [x0,x1,x2,x3,x4,x5,x6,x7]).toArray⟩)):=fun W hb=>TK x0 x1 x2 x3 x4 x5 x6 x7 W (bF hD hb)
 have hl:=QH h;rw[IL];generalize (⟨(fS [x0,x1,x2,x3,x4,x5,x6,x7]).toArray⟩:ByteArray)=T at CC hl⊢;have e1:(⟨#[91]⟩:ByteArray).size=1:=rfl;have e2:(⟨#[93]⟩:ByteArray).size=1:=rfl;have HA:Hid (∀o,Below w.heap.size w (w.alloc o)):=fun o=>(zc _ w).alloc (za _) o
 clear h hD;go_enter func95,ntmps95;go_wp2_with fail;refine (CC.out _ (HA.out _)).mono ?_;rintro e w1 ⟨rfl,b1⟩;have B1:=(HA.out (Z #[I J x0,I J x1,I J x2,I J x3,I J x4,I J x5,I J x6,I J x7] 144)).trans (b1.mono j2);clear b1;go_wp2_with fail;go_ret;exact ⟨rfl,B1⟩
theorem YY{h:HV}(e:hOk h=false):hTx h=⟨#[]⟩:=by unfold hTx;rw[if_neg (by rw[e];decide)]
theorem hTx1{n:Int}{s:ByteArray}{z:List Int}(e:hOk ⟨1,s,n,z⟩=true):hTx ⟨1,s,n,z⟩=s:=by unfold hTx;rw[if_pos e,if_pos rfl]
theorem hTx2{n:Int}{s:ByteArray}{z:List Int}(e:hOk ⟨2,s,n,z⟩=true):hTx ⟨2,s,n,z⟩=fR n:=by unfold hTx;rw[if_pos e,if_neg (show ¬(2:Int)=1 by decide),if_pos rfl]
theorem hTx3{n:Int}{s:ByteArray}{z:List Int}(e:hOk ⟨3,s,n,z⟩=true):hTx ⟨3,s,n,z⟩=⟨(91::(fS z++[93])).toArray⟩:=by unfold hTx;rw[if_pos e,if_neg (show ¬(3:Int)=1 by decide),if_neg (show ¬(3:Int)=2 by decide)]
theorem QI(k n:Int)(s:ByteArray)(x0 x1 x2 x3 x4 x5 x6 x7:Int)(w:World)(hs:s.size<=1048576)(hT:Lib.Utf8Tabs 12 13 w)(hP:Pow w)(hD:cC w):Calls prog 43 #[G #[I J k,L s,I J n,I J x0,I J x1,I J x2,I J x3,I J x4,I J x5,I J x6,I J x7]] w fun e w'=>e=Y (L (hTx ⟨k,s,n,[x0,x1,x2,x3,x4,x5,x6,x7]⟩))/\Below w.heap.size w w':=by
 have CO:Hid (∀W,Below w.heap.size w W->CB 33 #[G #[I J k,L s,I J n,I J x0,I J x1,I J x2,I J x3,I J x4,I J x5,I J x6,I J x7]] W (H (hOk ⟨k,s,n,[x0,x1,x2,x3,x4,x5,x6,x7]⟩))):=fun W hb=>IK k n s x0 x1 x2 x3 x4 x5 x6 x7 W hs (cV hT hb) (dQ hP hb)
 have HA:Hid (∀o,Below w.heap.size w (w.alloc o)):=fun o=>(zc _ w).alloc (za _) o
 cases hok:hOk ⟨k,s,n,[x0,x1,x2,x3,x4,x5,x6,x7]⟩with
 |false=>
  have HX:Hid (hTx ⟨k,s,n,[x0,x1,x2,x3,x4,x5,x6,x7]⟩=⟨#[]⟩):=YY hok;rw[hok]at CO;clear hok hT hP hD;go_enter func43,ntmps43;go_wp2_with fail;refine (CO.out _ (HA.out _)).mono ?_;rintro e w1 ⟨rfl,b1⟩;have B1:=(HA.out (Z #[I J k,L s,I J n,I J x0,I J x1,I J x2,I J x3,I J x4,I J x5,I J x6,I J x7] 26)).trans (b1.mono j2);clear b1;go_wp2_with fail;go_ret;exact ⟨by rw[HX.out];rfl,B1⟩
 |true=>
  by_cases h1:k=1
  .subst h1
   have HX:Hid (hTx ⟨1,s,n,[x0,x1,x2,x3,x4,x5,x6,x7]⟩=s):=hTx1 hok;have CW:Hid (∀W,CB 81 #[G #[I J 1,L s,I J n,I J x0,I J x1,I J x2,I J x3,I J x4,I J x5,I J x6,I J x7]] W (F 142 (L s))):=fun W=>BT n s x0 x1 x2 x3 x4 x5 x6 x7 W
   have CT:Hid (∀W,Below w.heap.size w W->CB 95 #[F 142 (L s)] W (L s)):=fun W _=>U0 s W hs
   rw[hok]at CO;clear hok hT hP hD;go_enter func43,ntmps43;go_wp2_with fail;refine (CO.out _ (HA.out _)).mono ?_;rintro e w1 ⟨rfl,b1⟩;have K1:=eB w w1 _ _ _ x0 x1 x2 x3 x4 x5 x6 x7 _ b1;obtain ⟨c0,c1,c2,c3,c4,c5,c6,c7,c8,c9,c10⟩:=K1;have B1:=(HA.out (Z #[I J 1,L s,I J n,I J x0,I J x1,I J x2,I J x3,I J x4,I J x5,I J x6,I J x7] 26)).trans (b1.mono j2);clear b1;go_wp2_with fail;refine (CW.out _).mono ?_;rintro e w2 ⟨rfl,b2⟩;have B2:=B1.trans (b2.mono B1.size);clear b2;go_wp2_with fail;refine (CT.out _ B2).mono ?_;rintro e w3 ⟨rfl,b3⟩;have B3:=B2.trans (b3.mono B2.size);clear b3;go_wp2_with fail;go_ret;exact ⟨by rw[HX.out];rfl,B3⟩
  by_cases h2:k=2
  .subst h2
   have HX:Hid (hTx ⟨2,s,n,[x0,x1,x2,x3,x4,x5,x6,x7]⟩=fR n):=hTx2 hok;have hr:0<=n/\n<4294967296:=by
    have h:=hok;rw[hOk2,ze]at h;exact of_decide_eq_true h.1
   have CW:Hid (∀W,CB 81 #[G #[I J 2,L s,I J n,I J x0,I J x1,I J x2,I J x3,I J x4,I J x5,I J x6,I J x7]] W (F 143 (I J n))):=fun W=>BU n s x0 x1 x2 x3 x4 x5 x6 x7 W
   have CT:Hid (∀W,Below w.heap.size w W->CB 95 #[F 143 (I J n)] W (L (fR n))):=fun W hb=>U1 n W hr.1 hr.2 (dQ hP hb)
   generalize fR n=T at CT HX;rw[hok]at CO;clear hok hT hP hD hr h1;go_enter func43,ntmps43;go_wp2_with fail;refine (CO.out _ (HA.out _)).mono ?_;rintro e w1 ⟨rfl,b1⟩;have K1:=eB w w1 _ _ _ x0 x1 x2 x3 x4 x5 x6 x7 _ b1;obtain ⟨c0,c1,c2,c3,c4,c5,c6,c7,c8,c9,c10⟩:=K1;have B1:=(HA.out (Z #[I J 2,L s,I J n,I J x0,I J x1,I J x2,I J x3,I J x4,I J x5,I J x6,I J x7] 26)).trans (b1.mono j2);clear b1;go_wp2_with fail;refine (CW.out _).mono ?_;rintro e w2 ⟨rfl,b2⟩;have B2:=B1.trans (b2.mono B1.size);clear b2;go_wp2_with fail;refine (CT.out _ B2).mono ?_;rintro e w3 ⟨rfl,b3⟩;have B3:=B2.trans (b3.mono B2.size);clear b3;go_wp2_with fail;go_ret;exact ⟨by rw[HX.out];rfl,B3⟩
  by_cases h3:k=3
  .subst h3
   have HX:Hid (hTx ⟨3,s,n,[x0,x1,x2,x3,x4,x5,x6,x7]⟩=⟨(91::(fS [x0,x1,x2,x3,x4,x5,x6,x7]++[93])).toArray⟩):=hTx3 hok;have hr:okG [x0,x1,x2,x3,x4,x5,x6,x7]=true:=by
    have h:=hok;rw[hOk3,ze]at h;exact h.1
   have CW:Hid (∀W,CB 81 #[G #[I J 3,L s,I J n,I J x0,I J x1,I J x2,I J x3,I J x4,I J x5,I J x6,I J x7]] W (F 144 (G #[I J x0,I J x1,I J x2,I J x3,I J x4,I J x5,I J x6,I J x7]))):=fun W=>BV n s x0 x1 x2 x3 x4 x5 x6 x7 W
   have CT:Hid (∀W,Below w.heap.size w W->CB 95 #[F 144 (G #[I J x0,I J x1,I J x2,I J x3,I J x4,I J x5,I J x6,I J x7])] W (L ⟨(91::(fS [x0,x1,x2,x3,x4,x5,x6,x7]++[93])).toArray⟩)):=fun W hb=>U2 x0 x1 x2 x3 x4 x5 x6 x7 W hr (bF hD hb)
   generalize (⟨(91::(fS [x0,x1,x2,x3,x4,x5,x6,x7]++[93])).toArray⟩:ByteArray)=T at CT HX;rw[hok]at CO;clear hok hT hP hD hr h1 h2;go_enter func43,ntmps43;go_wp2_with fail;refine (CO.out _ (HA.out _)).mono ?_;rintro e w1 ⟨rfl,b1⟩;have K1:=eB w w1 _ _ _ x0 x1 x2 x3 x4 x5 x6 x7 _ b1;obtain ⟨c0,c1,c2,c3,c4,c5,c6,c7,c8,c9,c10⟩:=K1;have B1:=(HA.out (Z #[I J 3,L s,I J n,I J x0,I J x1,I J x2,I J x3,I J x4,I J x5,I J x6,I J x7] 26)).trans (b1.mono j2);clear b1;go_wp2_with fail;refine (CW.out _).mono ?_;rintro e w2 ⟨rfl,b2⟩;have B2:=B1.trans (b2.mono B1.size);clear b2;go_wp2_with fail;refine (CT.out _ B2).mono ?_;rintro e w3 ⟨rfl,b3⟩;have B3:=B2.trans (b3.mono B2.size);clear b3;go_wp2_with fail;go_ret;exact ⟨by rw[HX.out];rfl,B3⟩
  rw[Ef k n s _ h1 h2 h3]at hok
  cases hok
theorem Jh(n:Int):(fR n).size<=100:=by
 unfold fR;show (iE n.toNat).toArray.size<=100;rw[zd];unfold iE;have h1:=dY (n.toNat/16777216);have h2:=dY (n.toNat/65536%256);have h3:=dY (n.toNat/256%256);have h4:=dY (n.toNat%256);simp;omega
theorem tE{k n:Int}{s:ByteArray}{x0 x1 x2 x3 x4 x5 x6 x7:Int}(hs:s.size<=1048576):(hTx ⟨k,s,n,[x0,x1,x2,x3,x4,x5,x6,x7]⟩).size<=1048576:=by
 cases hok:hOk ⟨k,s,n,[x0,x1,x2,x3,x4,x5,x6,x7]⟩with
 |false=>rw[YY hok];decide
 |true=>
  by_cases h1:k=1
  .subst h1;rw[hTx1 hok];exact hs
  by_cases h2:k=2
  .subst h2
   rw[hTx2 hok]
   have:=Jh n
   omega
  by_cases h3:k=3
  .subst h3
   have hr:okG [x0,x1,x2,x3,x4,x5,x6,x7]=true:=by
    have h:=hok;rw[hOk3,ze]at h;exact h.1
   rw[hTx3 hok,IL,zg,zg]
   have:=QH hr
   have e1:(⟨#[91]⟩:ByteArray).size=1:=rfl;have e2:(⟨#[93]⟩:ByteArray).size=1:=rfl;omega
  rw[Ef k n s _ h1 h2 h3]at hok
  cases hok
def fP(h:HV):Value:=G (#[I J h.k,L h.s,I J h.n]++(h.z.map (Value.int .i64)).toArray)
def mV(r:mQ):Value:=match r.t with
 |0=> .nilIface
 |1=> F 142 (L ⟨r.l.toArray⟩)
 |2=> F 143 (I J (r.n:Int))
 |_=> F 144 (G ((r.g.map fun (x:Nat)=>(x:Int)).map (Value.int .i64)).toArray)
theorem K3(l:List UInt8):Lib.hasSuffix l [93]=decide (l.getLast? =some 93):=by
 unfold Lib.hasSuffix;rw[List.isSuffixOf,List.getLast?_eq_head?_reverse]
 cases l.reverse with
 |nil=>rfl
 |cons c r=>
  by_cases h:c=93
  .subst h;simp[zh]
  have: ¬(93:UInt8)=c:=fun e=>h e.symm
  simp[zh,h,this]
theorem Mm{l:List UInt8}(h:l.getLast? =some 93):Lib.trimSuffix l [93]=l.dropLast:=by
 unfold Lib.trimSuffix;rw[if_pos (by rw[K3,decide_eq_true h]),List.dropLast_eq_take];rfl
theorem MS{r:List UInt8}(h:r.getLast? =some 93):iI r=LO (eK r.dropLast):=by unfold iI;rw[if_pos h]
theorem IM{r:List UInt8}(h: ¬r.getLast? =some 93):iI r=.bad 2:=by unfold iI;rw[if_neg h]
theorem K4{gs:List Nat}(h:gs.length=8): ∃x0 x1 x2 x3 x4 x5 x6 x7:Int,kK (some gs)=j #[G #[I J x0,I J x1,I J x2,I J x3,I J x4,I J x5,I J x6,I J x7],H true]/\mV (.si gs)=F 144 (G #[I J x0,I J x1,I J x2,I J x3,I J x4,I J x5,I J x6,I J x7])/\(gs.map fun (x:Nat)=>(x:Int))=[x0,x1,x2,x3,x4,x5,x6,x7]:=by
 obtain ⟨x0,x1,x2,x3,x4,x5,x6,x7,hx⟩:=oD (z:=gs.map fun (x:Nat)=>(x:Int)) (by simpa using h);refine ⟨x0,x1,x2,x3,x4,x5,x6,x7,?_,?_,hx⟩
 .show Value.tuple #[G ((toI gs).map (Value.int .i64)).toArray,H true]=_
  rw[show toI gs=gs.map (fun (x:Nat)=>(x:Int)) from rfl,hx];rfl
 show Value.iface 144 (G ((gs.map fun (x:Nat)=>(x:Int)).map (Value.int .i64)).toArray)=_;rw[hx];rfl
theorem VR(s:ByteArray)(w:World)(hs:s.size<=1048576)(h0:0<s.size)(hP:Pow w)(hD:cC w)(hM:rI w):Calls prog 248 #[L s] w fun e w'=>e=Y (j #[mV (iI (s.extract 1 s.size).data.toList),I J (rC (iI (s.extract 1 s.size).data.toList))])/\Below w.heap.size w w':=by
 have hts:(s.extract 1 s.size).size<=1048576:=by rw[ByteArray.size_extract];omega
 have h0i:1<=(s.size:Int):=om;have CC:Hid (∀W,CS 264 #[L (s.extract 1 s.size),L ⟨#[93]⟩] W (j #[L ⟨(Lib.trimSuffix (s.extract 1 s.size).data.toList [93]).toArray⟩,H (Lib.hasSuffix (s.extract 1 s.size).data.toList [93])])):=fun W=>(strings_CutSuffix (s.extract 1 s.size) ⟨#[93]⟩ W om).mono fun e w' h=>⟨h.1,h.2.symm⟩
 have CP:Hid (∀q:ByteArray,q.size<=1048576->CB 265 #[L q] w (kK (eK q.data.toList))):=fun q hq=>PC q w hq hP hD hM
 clear hP hD hM;obtain ⟨t,ht⟩: ∃t,s.extract 1 s.size=t:=⟨_,rfl⟩;have HE:Hid (s.extract 1 s.size=t):=ht;have hsl: ∀W,(Instr.slice 9 (L s) (some (I J 1)) none none).run prog W=.ok (L t) W:=by
  intro W;rw[<-ht];simp[Instr.slice,run_underlying underlying9,Instr.sliceBounds,go_sem,show ¬(s.size:Int)<1 by omega]
 rw[ht]at hts CC⊢;clear ht
 by_cases hcl:t.data.toList.getLast? =some 93
 .have hin:(⟨(Lib.trimSuffix t.data.toList [93]).toArray⟩:ByteArray)=⟨t.data.toList.dropLast.toArray⟩:=by rw[Mm hcl]
  rw[hin,K3,decide_eq_true hcl]at CC;have HZ:Hid (iI t.data.toList=LO (eK t.data.toList.dropLast)):=MS hcl;have hq:(⟨t.data.toList.dropLast.toArray⟩:ByteArray).size<=1048576:=by
   show t.data.toList.dropLast.toArray.size<=1048576;rw[zd,List.length_dropLast]
   have:t.data.toList.length=t.size:=by simp
   omega
  have CP1:Hid (CB 265 #[L ⟨t.data.toList.dropLast.toArray⟩] w (kK (eK t.data.toList.dropLast))):=CP.out _ hq;have H8:Hid (∀gs,eK t.data.toList.dropLast=some gs->gs.length=8):=rR _;generalize (⟨t.data.toList.dropLast.toArray⟩:ByteArray)=Q at CC CP1;generalize eK t.data.toList.dropLast=R at HZ CP1 H8;clear CP hcl hin hq
  cases R with
  |none=>
   go_enter func248,ntmps248;go_wp2_with fail;refine (CC.out _).mono ?_;rintro e w' ⟨rfl,rfl⟩;go_wp2_with fail;refine CP1.out.mono ?_;rintro e w1 ⟨rfl,b1⟩;simp only[kK];go_wp2_with fail;go_ret2;rw[HZ.out];exact ⟨rfl,b1.alloc b1.size _⟩
  |some gs=>
   obtain ⟨x0,x1,x2,x3,x4,x5,x6,x7,hv,hm,_⟩:=K4 (H8.out gs rfl);rw[hv]at CP1;have HM:Hid (mV (iI t.data.toList)=F 144 (G #[I J x0,I J x1,I J x2,I J x3,I J x4,I J x5,I J x6,I J x7])/\rC (iI t.data.toList)=0):=by
    show _/\_;rw[HZ.out];exact ⟨hm,rfl⟩
   clear hv hm H8 HZ;go_enter func248,ntmps248;go_wp2_with fail;refine (CC.out _).mono ?_;rintro e w' ⟨rfl,rfl⟩;go_wp2_with fail;refine CP1.out.mono ?_;rintro e w1 ⟨rfl,b1⟩;go_wp2_with fail;go_ret2;rw[HM.out.1,HM.out.2];exact ⟨rfl,b1.alloc b1.size _⟩
 have HZ:Hid (iI t.data.toList=.bad 2):=IM hcl;rw[K3,decide_eq_false hcl]at CC;have CP1:Hid (∀l:List UInt8,l.length<=1048576->CB 265 #[L ⟨l.toArray⟩] w (kK (eK l))):=fun l hl=>CP.out ⟨l.toArray⟩ (by show l.toArray.size<=_;rw[zd];exact hl)
 have hq:(Lib.trimSuffix t.data.toList [93]).length<=1048576:=by
  unfold Lib.trimSuffix;rw[K3,decide_eq_false hcl,if_neg de]
  have:t.data.toList.length=t.size:=by simp
  omega
 have CP2:=CP1.out _ hq;have H8:Hid (∀gs,eK (Lib.trimSuffix t.data.toList [93])=some gs->gs.length=8):=rR _;generalize (⟨(Lib.trimSuffix t.data.toList [93]).toArray⟩:ByteArray)=Q at CC CP2;generalize eK (Lib.trimSuffix t.data.toList [93])=R at CP2 H8;obtain ⟨x0,x1,x2,x3,x4,x5,x6,x7,bb,hv⟩:=YB H8.out;rw[hv]at CP2;have CP3:Hid (CB 265 #[L Q] w (j #[G #[I J x0,I J x1,I J x2,I J x3,I J x4,I J x5,I J x6,I J x7],H bb])):=CP2;clear CP CP1 CP2 hcl hq hv H8;go_enter func248,ntmps248;go_wp2_with fail;refine (CC.out _).mono ?_;rintro e w' ⟨rfl,rfl⟩;go_wp2_with fail;refine CP3.out.mono ?_;rintro e w1 ⟨rfl,b1⟩;go_wp2_with fail;go_ret2;rw[HZ.out];exact ⟨rfl,b1.alloc b1.size _⟩
theorem KI(s:ByteArray)(w:World)(hs:s.size<=1048576)(hT:Lib.Utf8Tabs 12 13 w):Calls prog 249 #[L s] w fun e w'=>e=Y (j #[mV (gW s),I J (rC (gW s))])/\Below w.heap.size w w':=by
 have CU:Hid (CB 186 #[L s] w (L (unB s))):=vA s w om;have hus:=Nat.le_trans (TL s) hs;have CN:Hid (∀W,Below w.heap.size w W->CB 266 #[L (unB s)] W (dW (cX (unB s)))):=fun W hb=>IJ (unB s) W hus (cV hT hb)
 have HZ0:Hid (gW s=match cX (unB s)with
  |none=> .bad 3
  |some n=>jY n):=rfl
 have HL:Hid (∀n,cX (unB s)=some n->n.length<=253):=fun n hn=>(xY hn)
 generalize unB s=u at CU CN HZ0 HL;clear hT hus
 cases hn:cX u with
 |none=>
  have HZ:Hid (gW s=.bad 3):=by
   show _=_;rw[HZ0.out,hn]
  rw[hn]at CN;clear hn HZ0 HL;go_enter func249,ntmps249;go_wp2_with fail;refine CU.out.mono ?_;rintro e w1 ⟨rfl,b1⟩;go_wp2_with fail;refine (CN.out _ b1).mono ?_;rintro e w2 ⟨rfl,b2⟩;have B2:=b1.trans (b2.mono b1.size);clear b1 b2;simp only[dW];go_wp2_with fail;go_ret2;rw[HZ.out];exact ⟨rfl,B2⟩
 |some n=>
  have hl:=HL.out n hn;have HZ1:Hid (gW s=jY n):=by
   show _=_;rw[HZ0.out,hn]
  rw[hn,show dW (some n)=j #[L ⟨n.toArray⟩,H true] from rfl]at CN;have hns:(⟨n.toArray⟩:ByteArray).size<=1048576:=by
   show n.toArray.size<=_;rw[zd];omega
  have CE:Hid (∀W,CS 267 #[L ⟨n.toArray⟩] W (H (nD ⟨n.toArray⟩))):=fun W=>qJ _ W hns
  have CL:Hid (∀W,CB 268 #[L ⟨n.toArray⟩] W (fL (loA ⟨n.toArray⟩))):=fun W=>yB _ W hns
  have HM:Hid (jY n=if nD ⟨n.toArray⟩=true then (match loA ⟨n.toArray⟩with
   |none=> .bad 4
   |some v=> .fo v)else .nm n):=rfl
  have HMV:Hid (mV (.nm n)=F 142 (L ⟨n.toArray⟩)):=rfl;generalize (⟨n.toArray⟩:ByteArray)=T at CN CE CL HM HMV;clear hn HZ0 HL hl hns
  cases he:nD T with
  |false=>
   have HZ:Hid (gW s=.nm n):=by
    show _=_;rw[HZ1.out,HM.out,he,if_neg de]
   rw[he]at CE;clear he HZ1 HM CL;go_enter func249,ntmps249;go_wp2_with fail;refine CU.out.mono ?_;rintro e w1 ⟨rfl,b1⟩;go_wp2_with fail;refine (CN.out _ b1).mono ?_;rintro e w2 ⟨rfl,b2⟩;have B2:=b1.trans (b2.mono b1.size);clear b1 b2;go_wp2_with fail;refine (CE.out _).mono ?_;rintro e w3 ⟨rfl,rfl⟩;go_wp2_with fail;go_ret2;rw[HZ.out,HMV.out];exact ⟨rfl,B2⟩
  |true=>
   rw[he]at CE
   cases hlo:loA T with
   |none=>
    have HZ:Hid (gW s=.bad 4):=by
     show _=_;rw[HZ1.out,HM.out,he,if_pos rfl,hlo]
    rw[hlo]at CL;clear he hlo HZ1 HM HMV;go_enter func249,ntmps249;go_wp2_with fail;refine CU.out.mono ?_;rintro e w1 ⟨rfl,b1⟩;go_wp2_with fail;refine (CN.out _ b1).mono ?_;rintro e w2 ⟨rfl,b2⟩;have B2:=b1.trans (b2.mono b1.size);clear b1 b2;go_wp2_with fail;refine (CE.out _).mono ?_;rintro e w3 ⟨rfl,rfl⟩;go_wp2_with fail;refine (CL.out _).mono ?_;rintro e w4 ⟨rfl,b4⟩;have B4:=B2.trans (b4.mono B2.size);clear b4;simp only[fL];go_wp2_with fail;go_ret2;rw[HZ.out];exact ⟨rfl,B4⟩
   |some v=>
    have HZ:Hid (gW s=.fo v):=by
     show _=_;rw[HZ1.out,HM.out,he,if_pos rfl,hlo]
    rw[hlo]at CL;clear he hlo HZ1 HM HMV;go_enter func249,ntmps249;go_wp2_with fail;refine CU.out.mono ?_;rintro e w1 ⟨rfl,b1⟩;go_wp2_with fail;refine (CN.out _ b1).mono ?_;rintro e w2 ⟨rfl,b2⟩;have B2:=b1.trans (b2.mono b1.size);clear b1 b2;go_wp2_with fail;refine (CE.out _).mono ?_;rintro e w3 ⟨rfl,rfl⟩;go_wp2_with fail;refine (CL.out _).mono ?_;rintro e w4 ⟨rfl,b4⟩;have B4:=B2.trans (b4.mono B2.size);clear b4;simp only[fL];go_wp2_with fail;go_ret2;rw[HZ.out];exact ⟨rfl,B4⟩
theorem DN(s:ByteArray)(w:World)(hs:s.size<=1048576)(hT:Lib.Utf8Tabs 12 13 w)(hP:Pow w)(hD:cC w)(hM:rI w):Calls prog 212 #[L s] w fun e w'=>e=Y (j #[mV (aR s),I J (rC (aR s))])/\Below w.heap.size w w':=by
 by_cases h0:s.size=0
 .have HZ:Hid (aR s=.bad 1):=LP h0
  have hem:=aS h0;clear hT hP hD hM h0;go_enter func212,ntmps212;go_wp2_with fail;go_ret2;rw[HZ.out];exact ⟨rfl,zc _ _⟩
 have hp:0<s.size:=om;have hem:=aW hp;obtain ⟨d,hd⟩: ∃d:Nat,s[0].toNat=d:=⟨_,rfl⟩
 by_cases h9:d=91
 .have HZ:Hid (aR s=iI (s.extract 1 s.size).data.toList):=LQ hp (by rw[hd];exact h9)
  have CS:Hid (CB 248 #[L s] w (j #[mV (iI (s.extract 1 s.size).data.toList),I J (rC (iI (s.extract 1 s.size).data.toList))])):=VR s w hs hp hP hD hM;rw[<-HZ.out]at CS;generalize mV (aR s)=V at CS⊢;generalize rC (aR s)=C at CS⊢;subst h9;clear hT hP hD hM h0;go_enter func212,ntmps212;go_wp2_with fail;refine CS.out.mono ?_;rintro e w1 ⟨rfl,b1⟩;go_wp2_with fail;go_ret2;exact ⟨rfl,b1⟩
 have HZ:Hid (aR s=gW s):=vZ hp (by rw[hd];exact h9);have CS:Hid (CB 249 #[L s] w (j #[mV (gW s),I J (rC (gW s))])):=KI s w hs hT;rw[<-HZ.out]at CS;have q0:((d:Int)==91)=false:=beq_eq_false_iff_ne.2 om;generalize mV (aR s)=V at CS⊢;generalize rC (aR s)=C at CS⊢;clear hT hP hD hM h0 h9;go_enter func212,ntmps212;go_wp2_with fail;refine CS.out.mono ?_;rintro e w1 ⟨rfl,b1⟩;go_wp2_with fail;go_ret2;exact ⟨rfl,b1⟩
theorem iK(s:ByteArray):(rV (aR s)).z.length=8:=by
 unfold aR;split
 .rfl
 split
 .unfold iI
  split
  .cases h:eK _ with
   |none=>rfl
   |some g=>
    show (g.map fun (x:Nat)=>(x:Int)).length=8;rw[List.length_map];exact rR _ g h
  rfl
 unfold gW;split
 .rfl
 unfold jY;split
 .split<;>rfl
 rfl
theorem YZ(s:ByteArray):(∃c,aR s=.bad c)∨(∃l,aR s=.nm l)∨(∃n,aR s=.fo n)∨ ∃g,aR s=.si g:=by
 unfold aR;split
 .exact .inl ⟨_,rfl⟩
 split
 .unfold iI
  split
  .cases eK _ with
   |none=>exact .inl ⟨_,rfl⟩
   |some g=>exact .inr (.inr (.inr ⟨g,rfl⟩))
  exact .inl ⟨_,rfl⟩
 unfold gW;split
 .exact .inl ⟨_,rfl⟩
 unfold jY;split
 .split
  .exact .inl ⟨_,rfl⟩
  exact .inr (.inr (.inl ⟨_,rfl⟩))
 exact .inr (.inl ⟨_,rfl⟩)
theorem VS(s:ByteArray)(w:World):Calls prog 82 #[mV (aR s)] w fun e w'=>e=Y (fP (rV (aR s)))/\Below w.heap.size w w':=by
 have h:=iK s
 rcases YZ s with ⟨c,hr⟩|⟨l,hr⟩|⟨n,hr⟩|⟨g,hr⟩
 .rw[hr];exact PW w
 .rw[hr];exact yJ _ w
 .rw[hr];exact yK _ w
 rw[hr]at h⊢;obtain ⟨x0,x1,x2,x3,x4,x5,x6,x7,hx⟩:=oD h;have hx2:(g.map fun (x:Nat)=>(x:Int))=[x0,x1,x2,x3,x4,x5,x6,x7]:=hx;have e1:mV (.si g)=F 144 (G #[I J x0,I J x1,I J x2,I J x3,I J x4,I J x5,I J x6,I J x7]):=by
  show Value.iface 144 (G ((g.map fun (x:Nat)=>(x:Int)).map (Value.int .i64)).toArray)=_;rw[hx2];rfl
 have e2:fP (rV (.si g))=G #[I J 3,L ⟨#[]⟩,I J 0,I J x0,I J x1,I J x2,I J x3,I J x4,I J x5,I J x6,I J x7]:=by
  unfold fP;rw[hx];rfl
 rw[e1,e2];exact yL x0 x1 x2 x3 x4 x5 x6 x7 w
theorem vG(h:HV)(h8:h.z.length=8): ∃x0 x1 x2 x3 x4 x5 x6 x7:Int,h.z=[x0,x1,x2,x3,x4,x5,x6,x7]/\fP h=G #[I J h.k,L h.s,I J h.n,I J x0,I J x1,I J x2,I J x3,I J x4,I J x5,I J x6,I J x7]:=by
 obtain ⟨x0,x1,x2,x3,x4,x5,x6,x7,hx⟩:=oD h8;refine ⟨x0,x1,x2,x3,x4,x5,x6,x7,hx,?_⟩;unfold fP;rw[hx];rfl
theorem KJ(s:ByteArray)(w:World)(hs:s.size<=1048576)(hT:Lib.Utf8Tabs 12 13 w)(hP:Pow w)(hD:cC w)(hM:rI w):Calls prog 153 #[L s] w fun e w'=>e=Y (j #[fP (rV (aR s)),I J (rC (aR s))])/\Below w.heap.size w w':=by
 have CM:Hid (∀W,Below w.heap.size w W->CB 212 #[L s] W (j #[mV (aR s),I J (rC (aR s))])):=fun W hb=>DN s W hs (cV hT hb) (dQ hP hb) (bF hD hb) (jV hM hb)
 have CO:Hid (∀W,CB 82 #[mV (aR s)] W (fP (rV (aR s)))):=fun W=>VS s W
 obtain ⟨x0,x1,x2,x3,x4,x5,x6,x7,_,hv⟩:=vG _ (iK s);rw[hv]at CO⊢;generalize mV (aR s)=V at CM CO;generalize rC (aR s)=C at CM⊢;generalize (rV (aR s)).k=k at CO⊢;generalize (rV (aR s)).s=t at CO⊢;generalize (rV (aR s)).n=n at CO⊢;have HA:Hid (∀o,Below w.heap.size w (w.alloc o)):=fun o=>(zc _ w).alloc (za _) o
 clear hT hP hD hM hv;go_enter func153,ntmps153;go_wp2_with fail;refine (CM.out _ (HA.out _)).mono ?_;rintro e w1 ⟨rfl,b1⟩;have HB1:Hid (Below (w.alloc (Z #[I J 0,L ⟨#[]⟩,I J 0,I J 0,I J 0,I J 0,I J 0,I J 0,I J 0,I J 0,I J 0] 26)).heap.size (w.alloc (Z #[I J 0,L ⟨#[]⟩,I J 0,I J 0,I J 0,I J 0,I J 0,I J 0,I J 0,I J 0,I J 0] 26)) w1):=b1;clear b1;go_wp2_with fail;refine (CO.out _).mono ?_;rintro e w2 ⟨rfl,b2⟩;have HB2:=HB1.out.trans (b2.mono HB1.out.size);clear b2 HB1;have hc:=eB w w2 _ _ _ 0 0 0 0 0 0 0 0 _ HB2;have HR:Hid (eX w2 w.heap.size (bD 0 ⟨#[]⟩ 0 0 0 0 0 0 0 0 0)):=PO hc;obtain ⟨c0,c1,c2,c3,c4,c5,c6,c7,c8,c9,c10⟩:=hc;have fz:=BS w w2 _ _ HB2;have B2:Hid (Below w.heap.size w w2):=(HA.out _).trans (HB2.mono j2);clear HB2;go_wp2_with fail;refine bodyPost_ret (gT rfl _ _ w.heap.size _ k n t x0 x1 x2 x3 x4 x5 x6 x7 rfl rfl (bO HR.out k n t x0 x1 x2 x3 x4 x5 x6 x7)) rfl ⟨rfl,gS B2.out (za _) k n t x0 x1 x2 x3 x4 x5 x6 x7⟩
