/- HostImpl, HostTextImpl. -/
import Derived.Test.YtgcbaphbiaimoaaGreatDoorQP27
set_option maxHeartbeats 4000000
set_option maxRecDepth 20000
namespace Go.Proofs.YtgcbaphbiaimoaaGreatDoor
open Go.RowKit
theorem zlbz(s:ByteArray)(w:World)(hs:s.size≤1048576)(hT:Lib.Utf8Tabs 12 13 w):
  Calls Tryz.prog 338 #[.string s] w fun e w'=>e=.returned (.bool (nmOk s))∧Below w.heap.size w w':=by
 have CN:Hid (CB 266 #[.string s] w (yuz (z6z s))):=zgJz s w hs hT
 have CE:Hid (∀W,CS 267 #[.string s] W (.bool (juz s))):=fun W=>zaMz s W hs
 clear hT
 cases hn:z6z s with
 |none=>
  have HZ:Hid (nmOk s=false):=by
   show _=_
   unfold nmOk
   rw[hn,decide_eq_false (by simp)]
   rfl
  rw[hn]at CN
  clear hn
  go_enter Tryz.func338,Tryz.ntmps338
  go_wp2_with fail
  refine CN.out.mono ?_
  rintro e w1 ⟨rfl,b1⟩
  simp only[yuz]
  go_wp2_with fail
  go_ret
  exact ⟨by rw[HZ.out];rfl,b1⟩
 |some n=>
  by_cases he:n=s.data.toList
  ·have HZ:Hid (nmOk s= !juz s):=by
    show _=_
    unfold nmOk
    rw[hn,he,decide_eq_true rfl]
    rfl
   rw[hn,show yuz (some n)=.tuple #[.string s,.bool true] by rw[he];show Value.tuple #[.string ⟨s.data.toList.toArray⟩,.bool true]=_;rw[zbKz]]at CN
   clear hn he
   generalize juz s=r at HZ CE
   go_enter Tryz.func338,Tryz.ntmps338
   go_wp2_with fail
   refine CN.out.mono ?_
   rintro e w1 ⟨rfl,b1⟩
   go_wp2_with fail
   refine (CE.out _).mono ?_
   rintro e w2 ⟨rfl,rfl⟩
   go_wp2_with fail
   go_ret
   exact ⟨by rw[HZ.out];rfl,b1⟩
  have HZ:Hid (nmOk s=false):=by
   show _=_
   unfold nmOk
   rw[hn,decide_eq_false (by intro e;exact he (Option.some.inj e))]
   rfl
  have hne:((⟨n.toArray⟩:ByteArray).toList==s.toList)=false:=za5z (fun e=>he (by rw[←e]))
  rw[hn]at CN
  simp only[yuz]at CN
  generalize (⟨n.toArray⟩:ByteArray)=T at CN hne
  clear hn he
  go_enter Tryz.func338,Tryz.ntmps338
  go_wp2_with fail
  refine CN.out.mono ?_
  rintro e w1 ⟨rfl,b1⟩
  go_wp2_with fail
  go_ret
  exact ⟨by rw[HZ.out];rfl,b1⟩
theorem zraz(n:Int):0<(xaz n).size:=by
 unfold xaz
 show 0<(xJz n.toNat).toArray.size
 rw[List.size_toArray]
 unfold xJz
 simp
 omega
theorem zmmz(n:Int)(w:World)(hT:Pow w):
  Calls Tryz.prog 339 #[.int .i64 n] w fun e w'=>e=.returned (.bool (decide (0≤n∧n<4294967296)))∧Below w.heap.size w w':=by
 by_cases h:0≤n∧n<4294967296
 ·have CT:Hid (CB 142 #[.int .i64 n] w (.string (xaz n))):=zbCz n w h.1 h.2 hT
  have HZ:Hid (decide (0≤n∧n<4294967296)=true):=decide_eq_true h
  have hem:=zvz (zraz n)
  generalize xaz n=T at CT hem
  clear h hT
  go_enter Tryz.func339,Tryz.ntmps339
  go_wp2_with fail
  refine CT.out.mono ?_
  rintro e w1 ⟨rfl,b1⟩
  go_wp2_with fail
  go_ret
  exact ⟨by rw[HZ.out];rfl,b1⟩
 have CT:Hid (CB 142 #[.int .i64 n] w (.string ⟨#[]⟩)):=zfKz n w (by omega)
 have HZ:Hid (decide (0≤n∧n<4294967296)=false):=decide_eq_false h
 clear h hT
 go_enter Tryz.func339,Tryz.ntmps339
 go_wp2_with fail
 refine CT.out.mono ?_
 rintro e w1 ⟨rfl,b1⟩
 go_wp2_with fail
 go_ret
 exact ⟨by rw[HZ.out];rfl,b1⟩
theorem zoRz(x0 x1 x2 x3 x4 x5 x6 x7:Int)(w:World):
  Calls Tryz.prog 340 #[.agg #[.int .i64 x0,.int .i64 x1,.int .i64 x2,.int .i64 x3,.int .i64 x4,.int .i64 x5,.int .i64 x6,.int .i64 x7]] w fun e w'=>e=.returned (.bool (okG [x0,x1,x2,x3,x4,x5,x6,x7]))∧Below w.heap.size w w':=by
 have CG:Hid (∀W,CB 193 #[.agg #[.int .i64 x0,.int .i64 x1,.int .i64 x2,.int .i64 x3,.int .i64 x4,.int .i64 x5,.int .i64 x6,.int .i64 x7]] W (.bool (okG [x0,x1,x2,x3,x4,x5,x6,x7]))):=fun W=>zdxz x0 x1 x2 x3 x4 x5 x6 x7 W
 generalize okG [x0,x1,x2,x3,x4,x5,x6,x7]=r at CG⊢
 go_enter Tryz.func340,Tryz.ntmps340
 go_wp2_with fail
 refine (CG.out _).mono ?_
 rintro e w1 ⟨rfl,b1⟩
 go_wp2_with fail
 go_ret
 exact ⟨rfl,((Below.refl _ _).alloc (Nat.le_refl _) _).trans (b1.mono (by simp))⟩
theorem bqB(a b:ByteArray):(a.toList==b.toList)=decide (a=b):=by
 by_cases h:a=b
 ·rw[zlAz h,decide_eq_true h]
 rw[za5z h,decide_eq_false h]
theorem zlcz(s:ByteArray):s.size=0↔(⟨#[]⟩:ByteArray)=s:=by
 constructor
 ·intro h
  apply zIz
  exact (List.eq_nil_of_length_eq_zero (by simpa[toL] using h)).symm
 intro h
 rw[←h]
 rfl
theorem hOk1(s:ByteArray)(n:Int)(z:List Int):hOk ⟨1,s,n,z⟩=(nmOk s&&eqHB 1 s 0 xsz 1 s n z):=by
 unfold hOk nmOk eqHB eqB
 rw[if_pos rfl,Bool.eq_iff_iff]
 simp only[Bool.and_eq_true,decide_eq_true_eq,beq_self_eq_true,true_and,beq_iff_eq]
 constructor
 ·rintro ⟨⟨h1,h2⟩,h3⟩
  exact ⟨h1,h2.symm,h3.symm⟩
 rintro ⟨h1,h2,h3⟩
 exact ⟨⟨h1,h2.symm⟩,h3.symm⟩
theorem hOk2(s:ByteArray)(n:Int)(z:List Int):hOk ⟨2,s,n,z⟩=(decide (0≤n∧n<4294967296)&&eqHB 2 ⟨#[]⟩ n xsz 2 s n z):=by
 unfold hOk eqHB eqB
 rw[if_neg (show ¬(2:Int)=1 by decide),if_pos rfl,Bool.eq_iff_iff,bqB]
 simp only[Bool.and_eq_true,decide_eq_true_eq,beq_self_eq_true,true_and,zlcz]
 constructor
 ·rintro ⟨⟨h1,h2⟩,h3⟩
  exact ⟨h2,h1,h3.symm⟩
 rintro ⟨h1,h2,h3⟩
 exact ⟨⟨h2,h1⟩,h3.symm⟩
theorem hOk3(s:ByteArray)(n:Int)(z:List Int):hOk ⟨3,s,n,z⟩=(okG z&&eqHB 3 ⟨#[]⟩ 0 z 3 s n z):=by
 unfold hOk eqHB eqB
 rw[if_neg (show ¬(3:Int)=1 by decide),if_neg (show ¬(3:Int)=2 by decide),if_pos rfl,Bool.eq_iff_iff,bqB]
 simp only[Bool.and_eq_true,decide_eq_true_eq,beq_self_eq_true,true_and,zlcz,beq_iff_eq,and_true]
 constructor
 ·rintro ⟨⟨h1,h2⟩,h3⟩
  exact ⟨h3,h1,h2.symm⟩
 rintro ⟨h1,h2,h3⟩
 exact ⟨⟨h2,h3.symm⟩,h1⟩
theorem hOk0(k n:Int)(s:ByteArray)(z:List Int)(h1: ¬k=1)(h2: ¬k=2)(h3: ¬k=3):hOk ⟨k,s,n,z⟩=false:=by
 unfold hOk
 rw[if_neg h1,if_neg h2,if_neg h3]
theorem zldz(n:Int)(s:ByteArray)(x0 x1 x2 x3 x4 x5 x6 x7:Int)(w:World)(hs:s.size≤1048576)(hT:Lib.Utf8Tabs 12 13 w):
  Calls Tryz.prog 33 #[.agg #[.int .i64 1,.string s,.int .i64 n,.int .i64 x0,.int .i64 x1,.int .i64 x2,.int .i64 x3,.int .i64 x4,.int .i64 x5,.int .i64 x6,.int .i64 x7]] w fun e w'=>e=.returned (.bool (hOk ⟨1,s,n,[x0,x1,x2,x3,x4,x5,x6,x7]⟩))∧Below w.heap.size w w':=by
 have HZ:Hid (hOk ⟨1,s,n,[x0,x1,x2,x3,x4,x5,x6,x7]⟩=(nmOk s&&eqHB 1 s 0 xsz 1 s n [x0,x1,x2,x3,x4,x5,x6,x7])):=hOk1 s n _
 have CW:Hid (∀W,CB 81 #[.agg #[.int .i64 1,.string s,.int .i64 n,.int .i64 x0,.int .i64 x1,.int .i64 x2,.int .i64 x3,.int .i64 x4,.int .i64 x5,.int .i64 x6,.int .i64 x7]] W (.iface 142 (.string s))):=fun W=>zeWz n s x0 x1 x2 x3 x4 x5 x6 x7 W
 have CK:Hid (∀W,Below w.heap.size w W→CB 338 #[.string s] W (.bool (nmOk s))):=fun W hb=>zlbz s W hs (zYz hT hb)
 have CO:Hid (∀W,CB 82 #[.iface 142 (.string s)] W (.agg #[.int .i64 1,.string s,.int .i64 0,.int .i64 0,.int .i64 0,.int .i64 0,.int .i64 0,.int .i64 0,.int .i64 0,.int .i64 0,.int .i64 0])):=fun W=>zdTz s W
 have heq: ∀W,_:=eqH 1 s 0 0 0 0 0 0 0 0 0 1 s n x0 x1 x2 x3 x4 x5 x6 x7
 rw[show [0,0,0,0,0,0,0,0]=xsz from rfl]at heq
 clear hT
 have HC:Hid (∀W,Below (w.alloc (.cells #[.int .i64 1,.string s,.int .i64 n,.int .i64 x0,.int .i64 x1,.int .i64 x2,.int .i64 x3,.int .i64 x4,.int .i64 x5,.int .i64 x6,.int .i64 x7] 26)).heap.size (w.alloc (.cells #[.int .i64 1,.string s,.int .i64 n,.int .i64 x0,.int .i64 x1,.int .i64 x2,.int .i64 x3,.int .i64 x4,.int .i64 x5,.int .i64 x6,.int .i64 x7] 26)) W→y0z w W 1 s n x0 x1 x2 x3 x4 x5 x6 x7):=fun W h=>yyz w W _ _ _ x0 x1 x2 x3 x4 x5 x6 x7 _ h
 generalize nmOk s=r at CK HZ
 generalize eqHB 1 s 0 xsz 1 s n [x0,x1,x2,x3,x4,x5,x6,x7]=q at HZ heq
 go_enter Tryz.func33,Tryz.ntmps33
 go_wp2_with fail
 refine (CW.out _).mono ?_
 rintro e w1 ⟨rfl,b1⟩
 have HB:Hid (Below (w.alloc (.cells #[.int .i64 1,.string s,.int .i64 n,.int .i64 x0,.int .i64 x1,.int .i64 x2,.int .i64 x3,.int .i64 x4,.int .i64 x5,.int .i64 x6,.int .i64 x7] 26)).heap.size (w.alloc (.cells #[.int .i64 1,.string s,.int .i64 n,.int .i64 x0,.int .i64 x1,.int .i64 x2,.int .i64 x3,.int .i64 x4,.int .i64 x5,.int .i64 x6,.int .i64 x7] 26)) w1.drew):=⟨b1.os,b1.tape,b1.output,b1.size,b1.block⟩
 obtain ⟨c0,c1,c2,c3,c4,c5,c6,c7,c8,c9,c10⟩:=HC.out w1.drew HB.out
 have CK1:Hid (∀W,Below (w.alloc (.cells #[.int .i64 1,.string s,.int .i64 n,.int .i64 x0,.int .i64 x1,.int .i64 x2,.int .i64 x3,.int .i64 x4,.int .i64 x5,.int .i64 x6,.int .i64 x7] 26)).heap.size (w.alloc (.cells #[.int .i64 1,.string s,.int .i64 n,.int .i64 x0,.int .i64 x1,.int .i64 x2,.int .i64 x3,.int .i64 x4,.int .i64 x5,.int .i64 x6,.int .i64 x7] 26)) W→Calls Tryz.prog 338 #[(.string s)] W fun e w'=>e=.returned (.bool r)∧y0z w w' 1 s n x0 x1 x2 x3 x4 x5 x6 x7∧Hid (Below (w.alloc (.cells #[.int .i64 1,.string s,.int .i64 n,.int .i64 x0,.int .i64 x1,.int .i64 x2,.int .i64 x3,.int .i64 x4,.int .i64 x5,.int .i64 x6,.int .i64 x7] 26)).heap.size (w.alloc (.cells #[.int .i64 1,.string s,.int .i64 n,.int .i64 x0,.int .i64 x1,.int .i64 x2,.int .i64 x3,.int .i64 x4,.int .i64 x5,.int .i64 x6,.int .i64 x7] 26)) w')):=
  fun W hW=>(CK.out W (((Below.refl _ w).alloc (Nat.le_refl _) _).trans (hW.mono (by simp)))).mono fun e w' h=>⟨h.1,HC.out w' (hW.trans (h.2.mono hW.size)),hW.trans (h.2.mono hW.size)⟩
 have CO1:Hid (∀W,Below (w.alloc (.cells #[.int .i64 1,.string s,.int .i64 n,.int .i64 x0,.int .i64 x1,.int .i64 x2,.int .i64 x3,.int .i64 x4,.int .i64 x5,.int .i64 x6,.int .i64 x7] 26)).heap.size (w.alloc (.cells #[.int .i64 1,.string s,.int .i64 n,.int .i64 x0,.int .i64 x1,.int .i64 x2,.int .i64 x3,.int .i64 x4,.int .i64 x5,.int .i64 x6,.int .i64 x7] 26)) W→Calls Tryz.prog 82 #[.iface 142 (.string s)] W fun e w'=>e=.returned (.agg #[.int .i64 1,.string s,.int .i64 0,.int .i64 0,.int .i64 0,.int .i64 0,.int .i64 0,.int .i64 0,.int .i64 0,.int .i64 0,.int .i64 0])∧y0z w w' 1 s n x0 x1 x2 x3 x4 x5 x6 x7∧Hid (Below (w.alloc (.cells #[.int .i64 1,.string s,.int .i64 n,.int .i64 x0,.int .i64 x1,.int .i64 x2,.int .i64 x3,.int .i64 x4,.int .i64 x5,.int .i64 x6,.int .i64 x7] 26)).heap.size (w.alloc (.cells #[.int .i64 1,.string s,.int .i64 n,.int .i64 x0,.int .i64 x1,.int .i64 x2,.int .i64 x3,.int .i64 x4,.int .i64 x5,.int .i64 x6,.int .i64 x7] 26)) w')):=
  fun W hW=>(CO.out W).mono fun e w' h=>⟨h.1,HC.out w' (hW.trans (h.2.mono hW.size)),hW.trans (h.2.mono hW.size)⟩
 have HE:Hid (∀W,Below (w.alloc (.cells #[.int .i64 1,.string s,.int .i64 n,.int .i64 x0,.int .i64 x1,.int .i64 x2,.int .i64 x3,.int .i64 x4,.int .i64 x5,.int .i64 x6,.int .i64 x7] 26)).heap.size (w.alloc (.cells #[.int .i64 1,.string s,.int .i64 n,.int .i64 x0,.int .i64 x1,.int .i64 x2,.int .i64 x3,.int .i64 x4,.int .i64 x5,.int .i64 x6,.int .i64 x7] 26)) W→Below w.heap.size w W):=fun W hW=>((Below.refl _ w).alloc (Nat.le_refl _) _).trans (hW.mono (by simp))
 clear b1
 go_wp2_with fail
 cases r with
 |false=>
  first|go_region_with (go_at_call 338;refine (CK1.out _ HB.out).mono ?_;rintro e w2 ⟨rfl,hc2,hb2⟩)|fail
  all_goals go_wp2_with fail
  all_goals go_ret
  all_goals exact ⟨by rw[HZ.out];rfl,HE.out _ hb2.out⟩
 |true=>
  go_region_with (first|(go_at_call 338;refine (CK1.out _ HB.out).mono ?_;rintro e w2 ⟨rfl,⟨d0,d1,d2,d3,d4,d5,d6,d7,d8,d9,d10⟩,hb2⟩)|(go_at_call 82;refine (CO1.out _ hb2.out).mono ?_;rintro e w3 ⟨rfl,⟨e0,e1,e2,e3,e4,e5,e6,e7,e8,e9,e10⟩,hb3⟩))
  all_goals go_wp2_with fail
  all_goals go_ret
  all_goals exact ⟨by rw[HZ.out];rfl,HE.out _ hb3.out⟩
theorem zlez(n:Int)(s:ByteArray)(x0 x1 x2 x3 x4 x5 x6 x7:Int)(w:World)(hP:Pow w):
  Calls Tryz.prog 33 #[.agg #[.int .i64 2,.string s,.int .i64 n,.int .i64 x0,.int .i64 x1,.int .i64 x2,.int .i64 x3,.int .i64 x4,.int .i64 x5,.int .i64 x6,.int .i64 x7]] w fun e w'=>e=.returned (.bool (hOk ⟨2,s,n,[x0,x1,x2,x3,x4,x5,x6,x7]⟩))∧Below w.heap.size w w':=by
 have HZ:Hid (hOk ⟨2,s,n,[x0,x1,x2,x3,x4,x5,x6,x7]⟩=(decide (0≤n∧n<4294967296)&&eqHB 2 ⟨#[]⟩ n xsz 2 s n [x0,x1,x2,x3,x4,x5,x6,x7])):=hOk2 s n _
 have CW:Hid (∀W,CB 81 #[.agg #[.int .i64 2,.string s,.int .i64 n,.int .i64 x0,.int .i64 x1,.int .i64 x2,.int .i64 x3,.int .i64 x4,.int .i64 x5,.int .i64 x6,.int .i64 x7]] W (.iface 143 (.int .i64 n))):=fun W=>zeXz n s x0 x1 x2 x3 x4 x5 x6 x7 W
 have CK:Hid (∀W,Below w.heap.size w W→CB 339 #[.int .i64 n] W (.bool (decide (0≤n∧n<4294967296)))):=fun W hb=>zmmz n W (yfz hP hb)
 have CO:Hid (∀W,CB 82 #[.iface 143 (.int .i64 n)] W (.agg #[.int .i64 2,.string ⟨#[]⟩,.int .i64 n,.int .i64 0,.int .i64 0,.int .i64 0,.int .i64 0,.int .i64 0,.int .i64 0,.int .i64 0,.int .i64 0])):=fun W=>zdUz n W
 have heq: ∀W,_:=eqH 2 ⟨#[]⟩ n 0 0 0 0 0 0 0 0 2 s n x0 x1 x2 x3 x4 x5 x6 x7
 rw[show [0,0,0,0,0,0,0,0]=xsz from rfl]at heq
 clear hP
 have HC:Hid (∀W,Below (w.alloc (.cells #[.int .i64 2,.string s,.int .i64 n,.int .i64 x0,.int .i64 x1,.int .i64 x2,.int .i64 x3,.int .i64 x4,.int .i64 x5,.int .i64 x6,.int .i64 x7] 26)).heap.size (w.alloc (.cells #[.int .i64 2,.string s,.int .i64 n,.int .i64 x0,.int .i64 x1,.int .i64 x2,.int .i64 x3,.int .i64 x4,.int .i64 x5,.int .i64 x6,.int .i64 x7] 26)) W→y0z w W 2 s n x0 x1 x2 x3 x4 x5 x6 x7):=fun W h=>yyz w W _ _ _ x0 x1 x2 x3 x4 x5 x6 x7 _ h
 generalize decide (0≤n∧n<4294967296)=r at CK HZ
 generalize eqHB 2 ⟨#[]⟩ n xsz 2 s n [x0,x1,x2,x3,x4,x5,x6,x7]=q at HZ heq
 go_enter Tryz.func33,Tryz.ntmps33
 go_wp2_with fail
 refine (CW.out _).mono ?_
 rintro e w1 ⟨rfl,b1⟩
 have HB:Hid (Below (w.alloc (.cells #[.int .i64 2,.string s,.int .i64 n,.int .i64 x0,.int .i64 x1,.int .i64 x2,.int .i64 x3,.int .i64 x4,.int .i64 x5,.int .i64 x6,.int .i64 x7] 26)).heap.size (w.alloc (.cells #[.int .i64 2,.string s,.int .i64 n,.int .i64 x0,.int .i64 x1,.int .i64 x2,.int .i64 x3,.int .i64 x4,.int .i64 x5,.int .i64 x6,.int .i64 x7] 26)) w1.drew):=⟨b1.os,b1.tape,b1.output,b1.size,b1.block⟩
 obtain ⟨c0,c1,c2,c3,c4,c5,c6,c7,c8,c9,c10⟩:=HC.out w1.drew HB.out
 have CK1:Hid (∀W,Below (w.alloc (.cells #[.int .i64 2,.string s,.int .i64 n,.int .i64 x0,.int .i64 x1,.int .i64 x2,.int .i64 x3,.int .i64 x4,.int .i64 x5,.int .i64 x6,.int .i64 x7] 26)).heap.size (w.alloc (.cells #[.int .i64 2,.string s,.int .i64 n,.int .i64 x0,.int .i64 x1,.int .i64 x2,.int .i64 x3,.int .i64 x4,.int .i64 x5,.int .i64 x6,.int .i64 x7] 26)) W→Calls Tryz.prog 339 #[(.int .i64 n)] W fun e w'=>e=.returned (.bool r)∧y0z w w' 2 s n x0 x1 x2 x3 x4 x5 x6 x7∧Hid (Below (w.alloc (.cells #[.int .i64 2,.string s,.int .i64 n,.int .i64 x0,.int .i64 x1,.int .i64 x2,.int .i64 x3,.int .i64 x4,.int .i64 x5,.int .i64 x6,.int .i64 x7] 26)).heap.size (w.alloc (.cells #[.int .i64 2,.string s,.int .i64 n,.int .i64 x0,.int .i64 x1,.int .i64 x2,.int .i64 x3,.int .i64 x4,.int .i64 x5,.int .i64 x6,.int .i64 x7] 26)) w')):=
  fun W hW=>(CK.out W (((Below.refl _ w).alloc (Nat.le_refl _) _).trans (hW.mono (by simp)))).mono fun e w' h=>⟨h.1,HC.out w' (hW.trans (h.2.mono hW.size)),hW.trans (h.2.mono hW.size)⟩
 have CO1:Hid (∀W,Below (w.alloc (.cells #[.int .i64 2,.string s,.int .i64 n,.int .i64 x0,.int .i64 x1,.int .i64 x2,.int .i64 x3,.int .i64 x4,.int .i64 x5,.int .i64 x6,.int .i64 x7] 26)).heap.size (w.alloc (.cells #[.int .i64 2,.string s,.int .i64 n,.int .i64 x0,.int .i64 x1,.int .i64 x2,.int .i64 x3,.int .i64 x4,.int .i64 x5,.int .i64 x6,.int .i64 x7] 26)) W→Calls Tryz.prog 82 #[.iface 143 (.int .i64 n)] W fun e w'=>e=.returned (.agg #[.int .i64 2,.string ⟨#[]⟩,.int .i64 n,.int .i64 0,.int .i64 0,.int .i64 0,.int .i64 0,.int .i64 0,.int .i64 0,.int .i64 0,.int .i64 0])∧y0z w w' 2 s n x0 x1 x2 x3 x4 x5 x6 x7∧Hid (Below (w.alloc (.cells #[.int .i64 2,.string s,.int .i64 n,.int .i64 x0,.int .i64 x1,.int .i64 x2,.int .i64 x3,.int .i64 x4,.int .i64 x5,.int .i64 x6,.int .i64 x7] 26)).heap.size (w.alloc (.cells #[.int .i64 2,.string s,.int .i64 n,.int .i64 x0,.int .i64 x1,.int .i64 x2,.int .i64 x3,.int .i64 x4,.int .i64 x5,.int .i64 x6,.int .i64 x7] 26)) w')):=
  fun W hW=>(CO.out W).mono fun e w' h=>⟨h.1,HC.out w' (hW.trans (h.2.mono hW.size)),hW.trans (h.2.mono hW.size)⟩
 have HE:Hid (∀W,Below (w.alloc (.cells #[.int .i64 2,.string s,.int .i64 n,.int .i64 x0,.int .i64 x1,.int .i64 x2,.int .i64 x3,.int .i64 x4,.int .i64 x5,.int .i64 x6,.int .i64 x7] 26)).heap.size (w.alloc (.cells #[.int .i64 2,.string s,.int .i64 n,.int .i64 x0,.int .i64 x1,.int .i64 x2,.int .i64 x3,.int .i64 x4,.int .i64 x5,.int .i64 x6,.int .i64 x7] 26)) W→Below w.heap.size w W):=fun W hW=>((Below.refl _ w).alloc (Nat.le_refl _) _).trans (hW.mono (by simp))
 clear b1
 go_wp2_with fail
 cases r with
 |false=>
  first|go_region_with (go_at_call 339;refine (CK1.out _ HB.out).mono ?_;rintro e w2 ⟨rfl,hc2,hb2⟩)|fail
  all_goals go_wp2_with fail
  all_goals go_ret
  all_goals exact ⟨by rw[HZ.out];rfl,HE.out _ hb2.out⟩
 |true=>
  go_region_with (first|(go_at_call 339;refine (CK1.out _ HB.out).mono ?_;rintro e w2 ⟨rfl,⟨d0,d1,d2,d3,d4,d5,d6,d7,d8,d9,d10⟩,hb2⟩)|(go_at_call 82;refine (CO1.out _ hb2.out).mono ?_;rintro e w3 ⟨rfl,⟨e0,e1,e2,e3,e4,e5,e6,e7,e8,e9,e10⟩,hb3⟩))
  all_goals go_wp2_with fail
  all_goals go_ret
  all_goals exact ⟨by rw[HZ.out];rfl,HE.out _ hb3.out⟩
theorem zlfz(n:Int)(s:ByteArray)(x0 x1 x2 x3 x4 x5 x6 x7:Int)(w:World):
  Calls Tryz.prog 33 #[.agg #[.int .i64 3,.string s,.int .i64 n,.int .i64 x0,.int .i64 x1,.int .i64 x2,.int .i64 x3,.int .i64 x4,.int .i64 x5,.int .i64 x6,.int .i64 x7]] w fun e w'=>e=.returned (.bool (hOk ⟨3,s,n,[x0,x1,x2,x3,x4,x5,x6,x7]⟩))∧Below w.heap.size w w':=by
 have HZ:Hid (hOk ⟨3,s,n,[x0,x1,x2,x3,x4,x5,x6,x7]⟩=(okG [x0,x1,x2,x3,x4,x5,x6,x7]&&eqHB 3 ⟨#[]⟩ 0 [x0,x1,x2,x3,x4,x5,x6,x7] 3 s n [x0,x1,x2,x3,x4,x5,x6,x7])):=hOk3 s n _
 have CW:Hid (∀W,CB 81 #[.agg #[.int .i64 3,.string s,.int .i64 n,.int .i64 x0,.int .i64 x1,.int .i64 x2,.int .i64 x3,.int .i64 x4,.int .i64 x5,.int .i64 x6,.int .i64 x7]] W (.iface 144 (.agg #[.int .i64 x0,.int .i64 x1,.int .i64 x2,.int .i64 x3,.int .i64 x4,.int .i64 x5,.int .i64 x6,.int .i64 x7]))):=fun W=>zeYz n s x0 x1 x2 x3 x4 x5 x6 x7 W
 have CK:Hid (∀W,Below w.heap.size w W→CB 340 #[.agg #[.int .i64 x0,.int .i64 x1,.int .i64 x2,.int .i64 x3,.int .i64 x4,.int .i64 x5,.int .i64 x6,.int .i64 x7]] W (.bool (okG [x0,x1,x2,x3,x4,x5,x6,x7]))):=fun W _=>zoRz x0 x1 x2 x3 x4 x5 x6 x7 W
 have CO:Hid (∀W,CB 82 #[.iface 144 (.agg #[.int .i64 x0,.int .i64 x1,.int .i64 x2,.int .i64 x3,.int .i64 x4,.int .i64 x5,.int .i64 x6,.int .i64 x7])] W (.agg #[.int .i64 3,.string ⟨#[]⟩,.int .i64 0,.int .i64 x0,.int .i64 x1,.int .i64 x2,.int .i64 x3,.int .i64 x4,.int .i64 x5,.int .i64 x6,.int .i64 x7])):=fun W=>zdVz x0 x1 x2 x3 x4 x5 x6 x7 W
 have heq: ∀W,_:=eqH 3 ⟨#[]⟩ 0 x0 x1 x2 x3 x4 x5 x6 x7 3 s n x0 x1 x2 x3 x4 x5 x6 x7
 have HC:Hid (∀W,Below (w.alloc (.cells #[.int .i64 3,.string s,.int .i64 n,.int .i64 x0,.int .i64 x1,.int .i64 x2,.int .i64 x3,.int .i64 x4,.int .i64 x5,.int .i64 x6,.int .i64 x7] 26)).heap.size (w.alloc (.cells #[.int .i64 3,.string s,.int .i64 n,.int .i64 x0,.int .i64 x1,.int .i64 x2,.int .i64 x3,.int .i64 x4,.int .i64 x5,.int .i64 x6,.int .i64 x7] 26)) W→y0z w W 3 s n x0 x1 x2 x3 x4 x5 x6 x7):=fun W h=>yyz w W _ _ _ x0 x1 x2 x3 x4 x5 x6 x7 _ h
 generalize okG [x0,x1,x2,x3,x4,x5,x6,x7]=r at CK HZ
 generalize eqHB 3 ⟨#[]⟩ 0 [x0,x1,x2,x3,x4,x5,x6,x7] 3 s n [x0,x1,x2,x3,x4,x5,x6,x7]=q at HZ heq
 go_enter Tryz.func33,Tryz.ntmps33
 go_wp2_with fail
 refine (CW.out _).mono ?_
 rintro e w1 ⟨rfl,b1⟩
 have HB:Hid (Below (w.alloc (.cells #[.int .i64 3,.string s,.int .i64 n,.int .i64 x0,.int .i64 x1,.int .i64 x2,.int .i64 x3,.int .i64 x4,.int .i64 x5,.int .i64 x6,.int .i64 x7] 26)).heap.size (w.alloc (.cells #[.int .i64 3,.string s,.int .i64 n,.int .i64 x0,.int .i64 x1,.int .i64 x2,.int .i64 x3,.int .i64 x4,.int .i64 x5,.int .i64 x6,.int .i64 x7] 26)) w1.drew):=⟨b1.os,b1.tape,b1.output,b1.size,b1.block⟩
 obtain ⟨c0,c1,c2,c3,c4,c5,c6,c7,c8,c9,c10⟩:=HC.out w1.drew HB.out
 have CK1:Hid (∀W,Below (w.alloc (.cells #[.int .i64 3,.string s,.int .i64 n,.int .i64 x0,.int .i64 x1,.int .i64 x2,.int .i64 x3,.int .i64 x4,.int .i64 x5,.int .i64 x6,.int .i64 x7] 26)).heap.size (w.alloc (.cells #[.int .i64 3,.string s,.int .i64 n,.int .i64 x0,.int .i64 x1,.int .i64 x2,.int .i64 x3,.int .i64 x4,.int .i64 x5,.int .i64 x6,.int .i64 x7] 26)) W→Calls Tryz.prog 340 #[(.agg #[.int .i64 x0,.int .i64 x1,.int .i64 x2,.int .i64 x3,.int .i64 x4,.int .i64 x5,.int .i64 x6,.int .i64 x7])] W fun e w'=>e=.returned (.bool r)∧y0z w w' 3 s n x0 x1 x2 x3 x4 x5 x6 x7∧Hid (Below (w.alloc (.cells #[.int .i64 3,.string s,.int .i64 n,.int .i64 x0,.int .i64 x1,.int .i64 x2,.int .i64 x3,.int .i64 x4,.int .i64 x5,.int .i64 x6,.int .i64 x7] 26)).heap.size (w.alloc (.cells #[.int .i64 3,.string s,.int .i64 n,.int .i64 x0,.int .i64 x1,.int .i64 x2,.int .i64 x3,.int .i64 x4,.int .i64 x5,.int .i64 x6,.int .i64 x7] 26)) w')):=
  fun W hW=>(CK.out W (((Below.refl _ w).alloc (Nat.le_refl _) _).trans (hW.mono (by simp)))).mono fun e w' h=>⟨h.1,HC.out w' (hW.trans (h.2.mono hW.size)),hW.trans (h.2.mono hW.size)⟩
 have CO1:Hid (∀W,Below (w.alloc (.cells #[.int .i64 3,.string s,.int .i64 n,.int .i64 x0,.int .i64 x1,.int .i64 x2,.int .i64 x3,.int .i64 x4,.int .i64 x5,.int .i64 x6,.int .i64 x7] 26)).heap.size (w.alloc (.cells #[.int .i64 3,.string s,.int .i64 n,.int .i64 x0,.int .i64 x1,.int .i64 x2,.int .i64 x3,.int .i64 x4,.int .i64 x5,.int .i64 x6,.int .i64 x7] 26)) W→Calls Tryz.prog 82 #[.iface 144 (.agg #[.int .i64 x0,.int .i64 x1,.int .i64 x2,.int .i64 x3,.int .i64 x4,.int .i64 x5,.int .i64 x6,.int .i64 x7])] W fun e w'=>e=.returned (.agg #[.int .i64 3,.string ⟨#[]⟩,.int .i64 0,.int .i64 x0,.int .i64 x1,.int .i64 x2,.int .i64 x3,.int .i64 x4,.int .i64 x5,.int .i64 x6,.int .i64 x7])∧y0z w w' 3 s n x0 x1 x2 x3 x4 x5 x6 x7∧Hid (Below (w.alloc (.cells #[.int .i64 3,.string s,.int .i64 n,.int .i64 x0,.int .i64 x1,.int .i64 x2,.int .i64 x3,.int .i64 x4,.int .i64 x5,.int .i64 x6,.int .i64 x7] 26)).heap.size (w.alloc (.cells #[.int .i64 3,.string s,.int .i64 n,.int .i64 x0,.int .i64 x1,.int .i64 x2,.int .i64 x3,.int .i64 x4,.int .i64 x5,.int .i64 x6,.int .i64 x7] 26)) w')):=
  fun W hW=>(CO.out W).mono fun e w' h=>⟨h.1,HC.out w' (hW.trans (h.2.mono hW.size)),hW.trans (h.2.mono hW.size)⟩
 have HE:Hid (∀W,Below (w.alloc (.cells #[.int .i64 3,.string s,.int .i64 n,.int .i64 x0,.int .i64 x1,.int .i64 x2,.int .i64 x3,.int .i64 x4,.int .i64 x5,.int .i64 x6,.int .i64 x7] 26)).heap.size (w.alloc (.cells #[.int .i64 3,.string s,.int .i64 n,.int .i64 x0,.int .i64 x1,.int .i64 x2,.int .i64 x3,.int .i64 x4,.int .i64 x5,.int .i64 x6,.int .i64 x7] 26)) W→Below w.heap.size w W):=fun W hW=>((Below.refl _ w).alloc (Nat.le_refl _) _).trans (hW.mono (by simp))
 clear b1
 go_wp2_with fail
 cases r with
 |false=>
  first|go_region_with (go_at_call 340;refine (CK1.out _ HB.out).mono ?_;rintro e w2 ⟨rfl,hc2,hb2⟩)|fail
  all_goals go_wp2_with fail
  all_goals go_ret
  all_goals exact ⟨by rw[HZ.out];rfl,HE.out _ hb2.out⟩
 |true=>
  go_region_with (first|(go_at_call 340;refine (CK1.out _ HB.out).mono ?_;rintro e w2 ⟨rfl,⟨d0,d1,d2,d3,d4,d5,d6,d7,d8,d9,d10⟩,hb2⟩)|(go_at_call 82;refine (CO1.out _ hb2.out).mono ?_;rintro e w3 ⟨rfl,⟨e0,e1,e2,e3,e4,e5,e6,e7,e8,e9,e10⟩,hb3⟩))
  all_goals go_wp2_with fail
  all_goals go_ret
  all_goals exact ⟨by rw[HZ.out];rfl,HE.out _ hb3.out⟩
theorem zlgz(k n:Int)(s:ByteArray)(x0 x1 x2 x3 x4 x5 x6 x7:Int)(w:World)(h1: ¬k=1)(h2: ¬k=2)(h3: ¬k=3):
  Calls Tryz.prog 33 #[.agg #[.int .i64 k,.string s,.int .i64 n,.int .i64 x0,.int .i64 x1,.int .i64 x2,.int .i64 x3,.int .i64 x4,.int .i64 x5,.int .i64 x6,.int .i64 x7]] w fun e w'=>e=.returned (.bool (hOk ⟨k,s,n,[x0,x1,x2,x3,x4,x5,x6,x7]⟩))∧Below w.heap.size w w':=by
 have HZ:Hid (hOk ⟨k,s,n,[x0,x1,x2,x3,x4,x5,x6,x7]⟩=false):=hOk0 k n s _ h1 h2 h3
 have CW:Hid (∀W,CB 81 #[.agg #[.int .i64 k,.string s,.int .i64 n,.int .i64 x0,.int .i64 x1,.int .i64 x2,.int .i64 x3,.int .i64 x4,.int .i64 x5,.int .i64 x6,.int .i64 x7]] W .nilIface):=fun W=>zkWz k n s x0 x1 x2 x3 x4 x5 x6 x7 W h1 h2 h3
 clear h1 h2 h3
 go_enter Tryz.func33,Tryz.ntmps33
 go_wp2_with fail
 refine (CW.out _).mono ?_
 rintro e w1 ⟨rfl,b1⟩
 have B1:=((Below.refl _ w).alloc (Nat.le_refl _) (.cells #[.int .i64 k,.string s,.int .i64 n,.int .i64 x0,.int .i64 x1,.int .i64 x2,.int .i64 x3,.int .i64 x4,.int .i64 x5,.int .i64 x6,.int .i64 x7] 26)).trans (b1.mono (by simp))
 have HB:Hid (Below w.heap.size w w1.drew):=⟨B1.os,B1.tape,B1.output,B1.size,B1.block⟩
 clear b1 B1
 go_wp2_with fail
 first|go_region_with fail|fail
 all_goals go_wp2_with fail
 all_goals go_ret
 all_goals exact ⟨by rw[HZ.out];rfl,HB.out⟩
theorem zgKz(k n:Int)(s:ByteArray)(x0 x1 x2 x3 x4 x5 x6 x7:Int)(w:World)(hs:s.size≤1048576)(hT:Lib.Utf8Tabs 12 13 w)(hP:Pow w):
  Calls Tryz.prog 33 #[.agg #[.int .i64 k,.string s,.int .i64 n,.int .i64 x0,.int .i64 x1,.int .i64 x2,.int .i64 x3,.int .i64 x4,.int .i64 x5,.int .i64 x6,.int .i64 x7]] w fun e w'=>e=.returned (.bool (hOk ⟨k,s,n,[x0,x1,x2,x3,x4,x5,x6,x7]⟩))∧Below w.heap.size w w':=by
 by_cases h1:k=1
 ·subst h1;exact zldz n s x0 x1 x2 x3 x4 x5 x6 x7 w hs hT
 by_cases h2:k=2
 ·subst h2;exact zlez n s x0 x1 x2 x3 x4 x5 x6 x7 w hP
 by_cases h3:k=3
 ·subst h3;exact zlfz n s x0 x1 x2 x3 x4 x5 x6 x7 w
 exact zlgz k n s x0 x1 x2 x3 x4 x5 x6 x7 w h1 h2 h3
theorem zoSz(s:ByteArray)(w:World)(hs:s.size≤1048576):
  Calls Tryz.prog 95 #[.iface 142 (.string s)] w fun e w'=>e=.returned (.string s)∧Below w.heap.size w w':=by
 have t1:=ta11 s
 have CC:Hid (∀W,CB 133 #[.string s] W (.string s)):=fun W=>zbzz s W (by omega)
 go_enter Tryz.func95,Tryz.ntmps95
 go_wp2_with fail
 refine (CC.out _).mono ?_
 rintro e w1 ⟨rfl,b1⟩
 go_wp2_with fail
 go_ret
 exact ⟨rfl,b1⟩
theorem zoTz(n:Int)(w:World)(h0:0≤n)(h1:n<4294967296)(hP:Pow w):
  Calls Tryz.prog 95 #[.iface 143 (.int .i64 n)] w fun e w'=>e=.returned (.string (xaz n))∧Below w.heap.size w w':=by
 have t1:=ta21 n
 have t2:=ta22 n
 have CC:Hid (CB 142 #[.int .i64 n] w (.string (xaz n))):=zbCz n w h0 h1 hP
 generalize xaz n=T at CC⊢
 clear h0 h1 hP
 go_enter Tryz.func95,Tryz.ntmps95
 go_wp2_with fail
 refine CC.out.mono ?_
 rintro e w1 ⟨rfl,b1⟩
 go_wp2_with fail
 go_ret
 exact ⟨rfl,b1⟩
theorem zjoz{x0 x1 x2 x3 x4 x5 x6 x7:Int}(h:okG [x0,x1,x2,x3,x4,x5,x6,x7]=true):(⟨(xbz [x0,x1,x2,x3,x4,x5,x6,x7]).toArray⟩:ByteArray).size≤39:=by
 show (xbz [x0,x1,x2,x3,x4,x5,x6,x7]).toArray.size≤39
 rw[List.size_toArray]
 unfold xbz
 rw[if_pos h]
 exact (zm2z rfl (ziVz (zeqz x0 x1 x2 x3 x4 x5 x6 x7)).2).2
theorem zgLz(l:List UInt8):(⟨(91::(l++[93])).toArray⟩:ByteArray)=(⟨#[91]⟩:ByteArray)++⟨l.toArray⟩++(⟨#[93]⟩:ByteArray):=by
 apply zIz
 simp[toL]
theorem zoUz(x0 x1 x2 x3 x4 x5 x6 x7:Int)(w:World)(h:okG [x0,x1,x2,x3,x4,x5,x6,x7]=true)(hD:zJz w):
  Calls Tryz.prog 95 #[.iface 144 (.agg #[.int .i64 x0,.int .i64 x1,.int .i64 x2,.int .i64 x3,.int .i64 x4,.int .i64 x5,.int .i64 x6,.int .i64 x7])] w fun e w'=>e=.returned (.string ⟨(91::(xbz [x0,x1,x2,x3,x4,x5,x6,x7]++[93])).toArray⟩)∧Below w.heap.size w w':=by
 have t1:=ta31 (.agg #[.int .i64 x0,.int .i64 x1,.int .i64 x2,.int .i64 x3,.int .i64 x4,.int .i64 x5,.int .i64 x6,.int .i64 x7])
 have t2:=ta32 (.agg #[.int .i64 x0,.int .i64 x1,.int .i64 x2,.int .i64 x3,.int .i64 x4,.int .i64 x5,.int .i64 x6,.int .i64 x7])
 have t3:=ta33 (.agg #[.int .i64 x0,.int .i64 x1,.int .i64 x2,.int .i64 x3,.int .i64 x4,.int .i64 x5,.int .i64 x6,.int .i64 x7])
 have CC:Hid (∀W,Below w.heap.size w W→CB 143 #[.agg #[.int .i64 x0,.int .i64 x1,.int .i64 x2,.int .i64 x3,.int .i64 x4,.int .i64 x5,.int .i64 x6,.int .i64 x7]] W (.string ⟨(xbz [x0,x1,x2,x3,x4,x5,x6,x7]).toArray⟩)):=fun W hb=>zkhz x0 x1 x2 x3 x4 x5 x6 x7 W (zxz hD hb)
 have hl:=zjoz h
 rw[zgLz]
 generalize (⟨(xbz [x0,x1,x2,x3,x4,x5,x6,x7]).toArray⟩:ByteArray)=T at CC hl⊢
 have e1:(⟨#[91]⟩:ByteArray).size=1:=rfl
 have e2:(⟨#[93]⟩:ByteArray).size=1:=rfl
 have HA:Hid (∀o,Below w.heap.size w (w.alloc o)):=fun o=>(Below.refl _ w).alloc (Nat.le_refl _) o
 clear h hD
 go_enter Tryz.func95,Tryz.ntmps95
 go_wp2_with fail
 refine (CC.out _ (HA.out _)).mono ?_
 rintro e w1 ⟨rfl,b1⟩
 have B1:=(HA.out (.cells #[.int .i64 x0,.int .i64 x1,.int .i64 x2,.int .i64 x3,.int .i64 x4,.int .i64 x5,.int .i64 x6,.int .i64 x7] 144)).trans (b1.mono (by simp))
 clear b1
 go_wp2_with fail
 go_ret
 exact ⟨rfl,B1⟩
theorem zmnz{h:HV}(e:hOk h=false):hTx h=⟨#[]⟩:=by unfold hTx;rw[if_neg (by rw[e];decide)]
theorem hTx1{n:Int}{s:ByteArray}{z:List Int}(e:hOk ⟨1,s,n,z⟩=true):hTx ⟨1,s,n,z⟩=s:=by unfold hTx;rw[if_pos e,if_pos rfl]
theorem hTx2{n:Int}{s:ByteArray}{z:List Int}(e:hOk ⟨2,s,n,z⟩=true):hTx ⟨2,s,n,z⟩=xaz n:=by unfold hTx;rw[if_pos e,if_neg (show ¬(2:Int)=1 by decide),if_pos rfl]
theorem hTx3{n:Int}{s:ByteArray}{z:List Int}(e:hOk ⟨3,s,n,z⟩=true):hTx ⟨3,s,n,z⟩=⟨(91::(xbz z++[93])).toArray⟩:=by unfold hTx;rw[if_pos e,if_neg (show ¬(3:Int)=1 by decide),if_neg (show ¬(3:Int)=2 by decide)]
theorem zjpz(k n:Int)(s:ByteArray)(x0 x1 x2 x3 x4 x5 x6 x7:Int)(w:World)(hs:s.size≤1048576)(hT:Lib.Utf8Tabs 12 13 w)(hP:Pow w)(hD:zJz w):
  Calls Tryz.prog 43 #[.agg #[.int .i64 k,.string s,.int .i64 n,.int .i64 x0,.int .i64 x1,.int .i64 x2,.int .i64 x3,.int .i64 x4,.int .i64 x5,.int .i64 x6,.int .i64 x7]] w fun e w'=>e=.returned (.string (hTx ⟨k,s,n,[x0,x1,x2,x3,x4,x5,x6,x7]⟩))∧Below w.heap.size w w':=by
 have CO:Hid (∀W,Below w.heap.size w W→CB 33 #[.agg #[.int .i64 k,.string s,.int .i64 n,.int .i64 x0,.int .i64 x1,.int .i64 x2,.int .i64 x3,.int .i64 x4,.int .i64 x5,.int .i64 x6,.int .i64 x7]] W (.bool (hOk ⟨k,s,n,[x0,x1,x2,x3,x4,x5,x6,x7]⟩))):=fun W hb=>zgKz k n s x0 x1 x2 x3 x4 x5 x6 x7 W hs (zYz hT hb) (yfz hP hb)
 have HA:Hid (∀o,Below w.heap.size w (w.alloc o)):=fun o=>(Below.refl _ w).alloc (Nat.le_refl _) o
 cases hok:hOk ⟨k,s,n,[x0,x1,x2,x3,x4,x5,x6,x7]⟩with
 |false=>
  have HX:Hid (hTx ⟨k,s,n,[x0,x1,x2,x3,x4,x5,x6,x7]⟩=⟨#[]⟩):=zmnz hok
  rw[hok]at CO
  clear hok hT hP hD
  go_enter Tryz.func43,Tryz.ntmps43
  go_wp2_with fail
  refine (CO.out _ (HA.out _)).mono ?_
  rintro e w1 ⟨rfl,b1⟩
  have B1:=(HA.out (.cells #[.int .i64 k,.string s,.int .i64 n,.int .i64 x0,.int .i64 x1,.int .i64 x2,.int .i64 x3,.int .i64 x4,.int .i64 x5,.int .i64 x6,.int .i64 x7] 26)).trans (b1.mono (by simp))
  clear b1
  go_wp2_with fail
  go_ret
  exact ⟨by rw[HX.out];rfl,B1⟩
 |true=>
  by_cases h1:k=1
  ·subst h1
   have HX:Hid (hTx ⟨1,s,n,[x0,x1,x2,x3,x4,x5,x6,x7]⟩=s):=hTx1 hok
   have CW:Hid (∀W,CB 81 #[.agg #[.int .i64 1,.string s,.int .i64 n,.int .i64 x0,.int .i64 x1,.int .i64 x2,.int .i64 x3,.int .i64 x4,.int .i64 x5,.int .i64 x6,.int .i64 x7]] W (.iface 142 (.string s))):=fun W=>zeWz n s x0 x1 x2 x3 x4 x5 x6 x7 W
   have CT:Hid (∀W,Below w.heap.size w W→CB 95 #[.iface 142 (.string s)] W (.string s)):=fun W _=>zoSz s W hs
   rw[hok]at CO
   clear hok hT hP hD
   go_enter Tryz.func43,Tryz.ntmps43
   go_wp2_with fail
   refine (CO.out _ (HA.out _)).mono ?_
   rintro e w1 ⟨rfl,b1⟩
   have K1:=yyz w w1 _ _ _ x0 x1 x2 x3 x4 x5 x6 x7 _ b1
   obtain ⟨c0,c1,c2,c3,c4,c5,c6,c7,c8,c9,c10⟩:=K1
   have B1:=(HA.out (.cells #[.int .i64 1,.string s,.int .i64 n,.int .i64 x0,.int .i64 x1,.int .i64 x2,.int .i64 x3,.int .i64 x4,.int .i64 x5,.int .i64 x6,.int .i64 x7] 26)).trans (b1.mono (by simp))
   clear b1
   go_wp2_with fail
   refine (CW.out _).mono ?_
   rintro e w2 ⟨rfl,b2⟩
   have B2:=B1.trans (b2.mono B1.size)
   clear b2
   go_wp2_with fail
   refine (CT.out _ B2).mono ?_
   rintro e w3 ⟨rfl,b3⟩
   have B3:=B2.trans (b3.mono B2.size)
   clear b3
   go_wp2_with fail
   go_ret
   exact ⟨by rw[HX.out];rfl,B3⟩
  by_cases h2:k=2
  ·subst h2
   have HX:Hid (hTx ⟨2,s,n,[x0,x1,x2,x3,x4,x5,x6,x7]⟩=xaz n):=hTx2 hok
   have hr:0≤n∧n<4294967296:=by
    have h:=hok
    rw[hOk2,Bool.and_eq_true]at h
    exact of_decide_eq_true h.1
   have CW:Hid (∀W,CB 81 #[.agg #[.int .i64 2,.string s,.int .i64 n,.int .i64 x0,.int .i64 x1,.int .i64 x2,.int .i64 x3,.int .i64 x4,.int .i64 x5,.int .i64 x6,.int .i64 x7]] W (.iface 143 (.int .i64 n))):=fun W=>zeXz n s x0 x1 x2 x3 x4 x5 x6 x7 W
   have CT:Hid (∀W,Below w.heap.size w W→CB 95 #[.iface 143 (.int .i64 n)] W (.string (xaz n))):=fun W hb=>zoTz n W hr.1 hr.2 (yfz hP hb)
   generalize xaz n=T at CT HX
   rw[hok]at CO
   clear hok hT hP hD hr h1
   go_enter Tryz.func43,Tryz.ntmps43
   go_wp2_with fail
   refine (CO.out _ (HA.out _)).mono ?_
   rintro e w1 ⟨rfl,b1⟩
   have K1:=yyz w w1 _ _ _ x0 x1 x2 x3 x4 x5 x6 x7 _ b1
   obtain ⟨c0,c1,c2,c3,c4,c5,c6,c7,c8,c9,c10⟩:=K1
   have B1:=(HA.out (.cells #[.int .i64 2,.string s,.int .i64 n,.int .i64 x0,.int .i64 x1,.int .i64 x2,.int .i64 x3,.int .i64 x4,.int .i64 x5,.int .i64 x6,.int .i64 x7] 26)).trans (b1.mono (by simp))
   clear b1
   go_wp2_with fail
   refine (CW.out _).mono ?_
   rintro e w2 ⟨rfl,b2⟩
   have B2:=B1.trans (b2.mono B1.size)
   clear b2
   go_wp2_with fail
   refine (CT.out _ B2).mono ?_
   rintro e w3 ⟨rfl,b3⟩
   have B3:=B2.trans (b3.mono B2.size)
   clear b3
   go_wp2_with fail
   go_ret
   exact ⟨by rw[HX.out];rfl,B3⟩
  by_cases h3:k=3
  ·subst h3
   have HX:Hid (hTx ⟨3,s,n,[x0,x1,x2,x3,x4,x5,x6,x7]⟩=⟨(91::(xbz [x0,x1,x2,x3,x4,x5,x6,x7]++[93])).toArray⟩):=hTx3 hok
   have hr:okG [x0,x1,x2,x3,x4,x5,x6,x7]=true:=by
    have h:=hok
    rw[hOk3,Bool.and_eq_true]at h
    exact h.1
   have CW:Hid (∀W,CB 81 #[.agg #[.int .i64 3,.string s,.int .i64 n,.int .i64 x0,.int .i64 x1,.int .i64 x2,.int .i64 x3,.int .i64 x4,.int .i64 x5,.int .i64 x6,.int .i64 x7]] W (.iface 144 (.agg #[.int .i64 x0,.int .i64 x1,.int .i64 x2,.int .i64 x3,.int .i64 x4,.int .i64 x5,.int .i64 x6,.int .i64 x7]))):=fun W=>zeYz n s x0 x1 x2 x3 x4 x5 x6 x7 W
   have CT:Hid (∀W,Below w.heap.size w W→CB 95 #[.iface 144 (.agg #[.int .i64 x0,.int .i64 x1,.int .i64 x2,.int .i64 x3,.int .i64 x4,.int .i64 x5,.int .i64 x6,.int .i64 x7])] W (.string ⟨(91::(xbz [x0,x1,x2,x3,x4,x5,x6,x7]++[93])).toArray⟩)):=fun W hb=>zoUz x0 x1 x2 x3 x4 x5 x6 x7 W hr (zxz hD hb)
   generalize (⟨(91::(xbz [x0,x1,x2,x3,x4,x5,x6,x7]++[93])).toArray⟩:ByteArray)=T at CT HX
   rw[hok]at CO
   clear hok hT hP hD hr h1 h2
   go_enter Tryz.func43,Tryz.ntmps43
   go_wp2_with fail
   refine (CO.out _ (HA.out _)).mono ?_
   rintro e w1 ⟨rfl,b1⟩
   have K1:=yyz w w1 _ _ _ x0 x1 x2 x3 x4 x5 x6 x7 _ b1
   obtain ⟨c0,c1,c2,c3,c4,c5,c6,c7,c8,c9,c10⟩:=K1
   have B1:=(HA.out (.cells #[.int .i64 3,.string s,.int .i64 n,.int .i64 x0,.int .i64 x1,.int .i64 x2,.int .i64 x3,.int .i64 x4,.int .i64 x5,.int .i64 x6,.int .i64 x7] 26)).trans (b1.mono (by simp))
   clear b1
   go_wp2_with fail
   refine (CW.out _).mono ?_
   rintro e w2 ⟨rfl,b2⟩
   have B2:=B1.trans (b2.mono B1.size)
   clear b2
   go_wp2_with fail
   refine (CT.out _ B2).mono ?_
   rintro e w3 ⟨rfl,b3⟩
   have B3:=B2.trans (b3.mono B2.size)
   clear b3
   go_wp2_with fail
   go_ret
   exact ⟨by rw[HX.out];rfl,B3⟩
  rw[hOk0 k n s _ h1 h2 h3]at hok
  cases hok
theorem zsMz(n:Int):(xaz n).size≤100:=by
 unfold xaz
 show (xJz n.toNat).toArray.size≤100
 rw[List.size_toArray]
 unfold xJz
 have h1:=yvz (n.toNat/16777216)
 have h2:=yvz (n.toNat/65536%256)
 have h3:=yvz (n.toNat/256%256)
 have h4:=yvz (n.toNat%256)
 simp
 omega
theorem zbYz{k n:Int}{s:ByteArray}{x0 x1 x2 x3 x4 x5 x6 x7:Int}(hs:s.size≤1048576):(hTx ⟨k,s,n,[x0,x1,x2,x3,x4,x5,x6,x7]⟩).size≤1048576:=by
 cases hok:hOk ⟨k,s,n,[x0,x1,x2,x3,x4,x5,x6,x7]⟩with
 |false=>rw[zmnz hok];decide
 |true=>
  by_cases h1:k=1
  ·subst h1;rw[hTx1 hok];exact hs
  by_cases h2:k=2
  ·subst h2
   rw[hTx2 hok]
   have:=zsMz n
   omega
  by_cases h3:k=3
  ·subst h3
   have hr:okG [x0,x1,x2,x3,x4,x5,x6,x7]=true:=by
    have h:=hok
    rw[hOk3,Bool.and_eq_true]at h
    exact h.1
   rw[hTx3 hok,zgLz,ByteArray.size_append,ByteArray.size_append]
   have:=zjoz hr
   have e1:(⟨#[91]⟩:ByteArray).size=1:=rfl
   have e2:(⟨#[93]⟩:ByteArray).size=1:=rfl
   omega
  rw[hOk0 k n s _ h1 h2 h3]at hok
  cases hok
end Go.Proofs.YtgcbaphbiaimoaaGreatDoor
