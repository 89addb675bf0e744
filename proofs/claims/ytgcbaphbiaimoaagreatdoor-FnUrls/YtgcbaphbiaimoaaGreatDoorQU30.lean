/- HostSpec, HostSpec2, UrlSpec2, UrlLaws. -/
import Derived.Test.YtgcbaphbiaimoaaGreatDoorQU28
import Derived.Test.YtgcbaphbiaimoaaGreatDoorQU29
import Derived.Deep.MidRow
set_option maxHeartbeats 4000000
set_option maxRecDepth 20000
namespace Go.Proofs.YtgcbaphbiaimoaaGreatDoor
open Go.RowKit
def zhFz(W:World)(B:Nat):Prop:=
 W.cell? ⟨B,0,none⟩=some (.int .i64 0)∧W.cell? ⟨B,1,none⟩=some (.int .i64 0)∧W.cell? ⟨B,2,none⟩=some (.int .i64 0)∧W.cell? ⟨B,3,none⟩=some (.int .i64 0)∧
 W.cell? ⟨B,4,none⟩=some (.int .i64 0)∧W.cell? ⟨B,5,none⟩=some (.int .i64 0)∧W.cell? ⟨B,6,none⟩=some (.int .i64 0)∧W.cell? ⟨B,7,none⟩=some (.int .i64 0)
theorem zlMz(w W:World)(t:TypeId)(hb:Below (w.alloc (.cells #[.int .i64 0,.int .i64 0,.int .i64 0,.int .i64 0,.int .i64 0,.int .i64 0,.int .i64 0,.int .i64 0] t)).heap.size (w.alloc (.cells #[.int .i64 0,.int .i64 0,.int .i64 0,.int .i64 0,.int .i64 0,.int .i64 0,.int .i64 0,.int .i64 0] t)) W):zhFz W w.heap.size:=by
 have key: ∀j v,(#[.int .i64 0,.int .i64 0,.int .i64 0,.int .i64 0,.int .i64 0,.int .i64 0,.int .i64 0,.int .i64 0]:Array Value)[j]? =some v→W.cell? ⟨w.heap.size,j,none⟩=some v:=fun j v h=>cell_later hb (by rw[World.cell?_alloc_at _ _ _ _ rfl];simpa using h)
 exact ⟨key 0 _ rfl,key 1 _ rfl,key 2 _ rfl,key 3 _ rfl,key 4 _ rfl,key 5 _ rfl,key 6 _ rfl,key 7 _ rfl⟩
def zkFz(w W:World)(k:Int)(s:ByteArray)(n:Int)(x0 x1 x2 x3 x4 x5 x6 x7:Int):Prop:=yUz w W k s n x0 x1 x2 x3 x4 x5 x6 x7∧zhFz W (w.heap.size+1)
theorem zqlz(w W:World)(k:Int)(s:ByteArray)(n:Int)(x0 x1 x2 x3 x4 x5 x6 x7:Int)(t u:TypeId)(hb:Below ((w.alloc (.cells #[.int .i64 k,.string s,.int .i64 n,.int .i64 x0,.int .i64 x1,.int .i64 x2,.int .i64 x3,.int .i64 x4,.int .i64 x5,.int .i64 x6,.int .i64 x7] t)).alloc (.cells #[.int .i64 0,.int .i64 0,.int .i64 0,.int .i64 0,.int .i64 0,.int .i64 0,.int .i64 0,.int .i64 0] u)).heap.size ((w.alloc (.cells #[.int .i64 k,.string s,.int .i64 n,.int .i64 x0,.int .i64 x1,.int .i64 x2,.int .i64 x3,.int .i64 x4,.int .i64 x5,.int .i64 x6,.int .i64 x7] t)).alloc (.cells #[.int .i64 0,.int .i64 0,.int .i64 0,.int .i64 0,.int .i64 0,.int .i64 0,.int .i64 0,.int .i64 0] u)) W):zkFz w W k s n x0 x1 x2 x3 x4 x5 x6 x7:=by
 refine ⟨xgz w W k s n x0 x1 x2 x3 x4 x5 x6 x7 t (((Below.refl _ _).alloc (Nat.le_refl _) _).trans (hb.mono (by simp))),?_⟩
 have h:=zlMz _ W u hb
 rwa[show (w.alloc (.cells #[.int .i64 k,.string s,.int .i64 n,.int .i64 x0,.int .i64 x1,.int .i64 x2,.int .i64 x3,.int .i64 x4,.int .i64 x5,.int .i64 x6,.int .i64 x7] t)).heap.size=w.heap.size+1 by simp]at h
theorem zkGz(n:Int)(s:ByteArray)(x0 x1 x2 x3 x4 x5 x6 x7:Int)(w:World)(hs:s.size≤1048576):
  Calls Tryz.prog 38 #[.agg #[.int .i64 1,.string s,.int .i64 n,.int .i64 x0,.int .i64 x1,.int .i64 x2,.int .i64 x3,.int .i64 x4,.int .i64 x5,.int .i64 x6,.int .i64 x7]] w fun e w'=>e=.returned (.bool (hOk ⟨1,s,n,[x0,x1,x2,x3,x4,x5,x6,x7]⟩))∧Below w.heap.size w w':=by
 have HZ0:Hid (hOk ⟨1,s,n,[x0,x1,x2,x3,x4,x5,x6,x7]⟩=(decide (z7z s=some s.data.toList)&& !jqz s&&decide (n=0)&&eqB [x0,x1,x2,x3,x4,x5,x6,x7] xmz)):=rfl
 have CN:Hid (∀W,CB 86 #[.string s] W (ysz (z7z s))):=fun W=>zf5z s W hs
 have CE:Hid (∀W,CB 87 #[.string s] W (.bool (jqz s))):=fun W=>zazz s W hs
 have heq: ∀W,_:=eqA 9998 x0 x1 x2 x3 x4 x5 x6 x7 0 0 0 0 0 0 0 0
 rw[show [0,0,0,0,0,0,0,0]=xmz from rfl,show 9998+2=10000 from rfl]at heq
 obtain ⟨O,hO⟩: ∃O,O=(w.alloc (.cells #[.int .i64 1,.string s,.int .i64 n,.int .i64 x0,.int .i64 x1,.int .i64 x2,.int .i64 x3,.int .i64 x4,.int .i64 x5,.int .i64 x6,.int .i64 x7] 26)).alloc (.cells #[.int .i64 0,.int .i64 0,.int .i64 0,.int .i64 0,.int .i64 0,.int .i64 0,.int .i64 0,.int .i64 0] 24):=⟨_,rfl⟩
 have HL:Hid (∀W,Below O.heap.size O W→zkFz w W 1 s n x0 x1 x2 x3 x4 x5 x6 x7):=fun W h=>by rw[hO]at h;exact zqlz w W _ _ _ x0 x1 x2 x3 x4 x5 x6 x7 _ _ h
 have HE:Hid (∀W,Below O.heap.size O W→Below w.heap.size w W):=fun W h=>by
  rw[hO]at h
  exact (((Below.refl _ w).alloc (Nat.le_refl _) _).alloc (by simp) _).trans (h.mono (by simp;omega))
 have CN1:Hid (Calls Tryz.prog 86 #[.string s] O fun e w'=>e=.returned (ysz (z7z s))∧Hid (Below O.heap.size O w')):=CN.out O
 have CE1:Hid (∀W,Below O.heap.size O W→Calls Tryz.prog 87 #[.string s] W fun e w'=>e=.returned (.bool (jqz s))∧zkFz w w' 1 s n x0 x1 x2 x3 x4 x5 x6 x7∧Hid (Below O.heap.size O w')):=fun W hW=>
  (CE.out W).mono fun e w' h=>⟨h.1,HL.out w' (hW.trans (h.2.mono hW.size)),hW.trans (h.2.mono hW.size)⟩
 clear CN CE
 generalize eqB [x0,x1,x2,x3,x4,x5,x6,x7] xmz=q at heq HZ0
 cases hn:z7z s with
 |none=>
  have HZ:Hid (hOk ⟨1,s,n,[x0,x1,x2,x3,x4,x5,x6,x7]⟩=false):=by
   show _=_
   rw[HZ0.out,hn,decide_eq_false (by simp)]
   rfl
  rw[hn,show ysz none=.tuple #[.string ⟨#[]⟩,.bool false] from rfl]at CN1
  clear hn HZ0
  go_enter Tryz.func38,Tryz.ntmps38
  go_wp2_with fail
  rw[←hO]
  refine CN1.out.mono ?_
  rintro e w1 ⟨rfl,b1⟩
  obtain ⟨⟨c0,c1,c2,c3,c4,c5,c6,c7,c8,c9,c10⟩,⟨d0,d1,d2,d3,d4,d5,d6,d7⟩⟩:=HL.out w1 b1.out
  go_wp2_with fail
  go_ret
  exact ⟨by rw[HZ.out];rfl,HE.out _ b1.out⟩
 |some m=>
  by_cases he:m=s.data.toList
  ·rw[hn,show ysz (some m)=.tuple #[.string s,.bool true] by rw[he];show Value.tuple #[.string ⟨s.data.toList.toArray⟩,.bool true]=_;rw[zbqz]]at CN1
   have HZ1:Hid (hOk ⟨1,s,n,[x0,x1,x2,x3,x4,x5,x6,x7]⟩=(!jqz s&&decide (n=0)&&q)):=by
    show _=_
    rw[HZ0.out,hn,he,decide_eq_true rfl]
    rfl
   clear hn HZ0 he
   generalize jqz s=r at CE1 HZ1
   cases r with
   |true=>
    go_enter Tryz.func38,Tryz.ntmps38
    go_wp2_with fail
    rw[←hO]
    refine CN1.out.mono ?_
    rintro e w1 ⟨rfl,b1⟩
    obtain ⟨⟨c0,c1,c2,c3,c4,c5,c6,c7,c8,c9,c10⟩,⟨d0,d1,d2,d3,d4,d5,d6,d7⟩⟩:=HL.out w1 b1.out
    go_wp2_with fail
    refine (CE1.out _ b1.out).mono ?_
    rintro e w2 ⟨rfl,⟨⟨e0,e1,e2,e3,e4,e5,e6,e7,e8,e9,e10⟩,⟨f0,f1,f2,f3,f4,f5,f6,f7⟩⟩,b2⟩
    go_wp2_with fail
    go_ret
    exact ⟨by rw[HZ1.out];rfl,HE.out _ b2.out⟩
   |false=>
    by_cases h0:n=0
    ·subst h0
     go_enter Tryz.func38,Tryz.ntmps38
     go_wp2_with fail
     rw[←hO]
     refine CN1.out.mono ?_
     rintro e w1 ⟨rfl,b1⟩
     obtain ⟨⟨c0,c1,c2,c3,c4,c5,c6,c7,c8,c9,c10⟩,⟨d0,d1,d2,d3,d4,d5,d6,d7⟩⟩:=HL.out w1 b1.out
     go_wp2_with fail
     refine (CE1.out _ b1.out).mono ?_
     rintro e w2 ⟨rfl,⟨⟨e0,e1,e2,e3,e4,e5,e6,e7,e8,e9,e10⟩,⟨f0,f1,f2,f3,f4,f5,f6,f7⟩⟩,b2⟩
     go_wp2_with fail
     go_ret
     exact ⟨by rw[HZ1.out];rfl,HE.out _ b2.out⟩
    have HZ:Hid (hOk ⟨1,s,n,[x0,x1,x2,x3,x4,x5,x6,x7]⟩=false):=by
     show _=_
     rw[HZ1.out,decide_eq_false h0]
     rfl
    have q0:(n==0)=false:=beq_eq_false_iff_ne.2 h0
    clear h0 HZ1
    go_enter Tryz.func38,Tryz.ntmps38
    go_wp2_with fail
    rw[←hO]
    refine CN1.out.mono ?_
    rintro e w1 ⟨rfl,b1⟩
    obtain ⟨⟨c0,c1,c2,c3,c4,c5,c6,c7,c8,c9,c10⟩,⟨d0,d1,d2,d3,d4,d5,d6,d7⟩⟩:=HL.out w1 b1.out
    go_wp2_with fail
    refine (CE1.out _ b1.out).mono ?_
    rintro e w2 ⟨rfl,⟨⟨e0,e1,e2,e3,e4,e5,e6,e7,e8,e9,e10⟩,⟨f0,f1,f2,f3,f4,f5,f6,f7⟩⟩,b2⟩
    go_wp2_with fail
    go_ret
    exact ⟨by rw[HZ.out];rfl,HE.out _ b2.out⟩
  have HZ:Hid (hOk ⟨1,s,n,[x0,x1,x2,x3,x4,x5,x6,x7]⟩=false):=by
   show _=_
   rw[HZ0.out,hn,decide_eq_false (by intro e;exact he (Option.some.inj e))]
   rfl
  have hne:((⟨m.toArray⟩:ByteArray).toList==s.toList)=false:=zaPz (fun e=>he (by rw[←e]))
  rw[hn,show ysz (some m)=.tuple #[.string ⟨m.toArray⟩,.bool true] from rfl]at CN1
  generalize (⟨m.toArray⟩:ByteArray)=T at CN1 hne
  clear hn HZ0 he
  go_enter Tryz.func38,Tryz.ntmps38
  go_wp2_with fail
  rw[←hO]
  refine CN1.out.mono ?_
  rintro e w1 ⟨rfl,b1⟩
  obtain ⟨⟨c0,c1,c2,c3,c4,c5,c6,c7,c8,c9,c10⟩,⟨d0,d1,d2,d3,d4,d5,d6,d7⟩⟩:=HL.out w1 b1.out
  go_wp2_with fail
  go_ret
  exact ⟨by rw[HZ.out];rfl,HE.out _ b1.out⟩
theorem zkHz(n:Int)(s:ByteArray)(x0 x1 x2 x3 x4 x5 x6 x7:Int)(w:World):
  Calls Tryz.prog 38 #[.agg #[.int .i64 2,.string s,.int .i64 n,.int .i64 x0,.int .i64 x1,.int .i64 x2,.int .i64 x3,.int .i64 x4,.int .i64 x5,.int .i64 x6,.int .i64 x7]] w fun e w'=>e=.returned (.bool (hOk ⟨2,s,n,[x0,x1,x2,x3,x4,x5,x6,x7]⟩))∧Below w.heap.size w w':=by
 have HZ0:Hid (hOk ⟨2,s,n,[x0,x1,x2,x3,x4,x5,x6,x7]⟩=(decide (s.size=0)&&decide (0≤n∧n<4294967296)&&eqB [x0,x1,x2,x3,x4,x5,x6,x7] xmz)):=rfl
 have heq: ∀W,_:=eqA 9998 x0 x1 x2 x3 x4 x5 x6 x7 0 0 0 0 0 0 0 0
 rw[show [0,0,0,0,0,0,0,0]=xmz from rfl,show 9998+2=10000 from rfl]at heq
 obtain ⟨O,hO⟩: ∃O,O=(w.alloc (.cells #[.int .i64 2,.string s,.int .i64 n,.int .i64 x0,.int .i64 x1,.int .i64 x2,.int .i64 x3,.int .i64 x4,.int .i64 x5,.int .i64 x6,.int .i64 x7] 26)).alloc (.cells #[.int .i64 0,.int .i64 0,.int .i64 0,.int .i64 0,.int .i64 0,.int .i64 0,.int .i64 0,.int .i64 0] 24):=⟨_,rfl⟩
 have HL:Hid (∀W,Below O.heap.size O W→zkFz w W 2 s n x0 x1 x2 x3 x4 x5 x6 x7):=fun W h=>by rw[hO]at h;exact zqlz w W _ _ _ x0 x1 x2 x3 x4 x5 x6 x7 _ _ h
 have HE:Hid (∀W,Below O.heap.size O W→Below w.heap.size w W):=fun W h=>by
  rw[hO]at h
  exact (((Below.refl _ w).alloc (Nat.le_refl _) _).alloc (by simp) _).trans (h.mono (by simp;omega))
 generalize eqB [x0,x1,x2,x3,x4,x5,x6,x7] xmz=q at heq HZ0
 by_cases h0:s.size=0
 ·have hem:=ztz h0
  by_cases hr:0≤n∧n<4294967296
  ·have HZ:Hid (hOk ⟨2,s,n,[x0,x1,x2,x3,x4,x5,x6,x7]⟩=q):=by
    show _=_
    rw[HZ0.out,decide_eq_true h0,decide_eq_true hr]
    rfl
   have CI:Hid (∀W,CS 39 #[.int .i64 n,.int .i64 0,.int .i64 4294967295] W (.bool true)):=fun W=>xSz _ _ _ W (by omega) (by omega)
   clear h0 hr HZ0
   go_enter Tryz.func38,Tryz.ntmps38
   go_wp2_with fail
   refine (CI.out _).mono ?_
   rintro e w1 ⟨rfl,rfl⟩
   go_wp2_with fail
   go_ret
   exact ⟨by rw[HZ.out];rfl,by go_grown⟩
  have HZ:Hid (hOk ⟨2,s,n,[x0,x1,x2,x3,x4,x5,x6,x7]⟩=false):=by
   show _=_
   rw[HZ0.out,decide_eq_true h0,decide_eq_false hr]
   rfl
  have CI:Hid (∀W,CS 39 #[.int .i64 n,.int .i64 0,.int .i64 4294967295] W (.bool false)):=fun W=>xGz _ _ _ W (by omega)
  clear h0 hr HZ0
  go_enter Tryz.func38,Tryz.ntmps38
  go_wp2_with fail
  refine (CI.out _).mono ?_
  rintro e w1 ⟨rfl,rfl⟩
  go_wp2_with fail
  go_ret
  exact ⟨by rw[HZ.out];rfl,by go_grown⟩
 have HZ:Hid (hOk ⟨2,s,n,[x0,x1,x2,x3,x4,x5,x6,x7]⟩=false):=by
  show _=_
  rw[HZ0.out,decide_eq_false h0]
  rfl
 have hem:=zwz (by omega:0<s.size)
 clear h0 HZ0
 go_enter Tryz.func38,Tryz.ntmps38
 go_wp2_with fail
 go_ret
 exact ⟨by rw[HZ.out];rfl,by go_grown⟩
theorem zn3z(x0 x1 x2 x3 x4 x5 x6 x7:Int):(⟨(xhz [x0,x1,x2,x3,x4,x5,x6,x7]).toArray⟩:ByteArray).toList.isEmpty= !okG [x0,x1,x2,x3,x4,x5,x6,x7]:=by
 cases h:okG [x0,x1,x2,x3,x4,x5,x6,x7]with
 |false=>
  have e:xhz [x0,x1,x2,x3,x4,x5,x6,x7]=[]:=by unfold xhz;rw[if_neg (by rw[h];decide)]
  rw[e]
  exact ztz rfl
 |true=>
  refine zwz ?_
  show 0<(xhz [x0,x1,x2,x3,x4,x5,x6,x7]).toArray.size
  rw[List.size_toArray]
  unfold xhz
  rw[if_pos h]
  exact Nat.lt_of_lt_of_le (by decide:0<2) (zmiz rfl (zifz (zdWz x0 x1 x2 x3 x4 x5 x6 x7)).2).1
theorem zkIz(n:Int)(s:ByteArray)(x0 x1 x2 x3 x4 x5 x6 x7:Int)(w:World):
  Calls Tryz.prog 38 #[.agg #[.int .i64 3,.string s,.int .i64 n,.int .i64 x0,.int .i64 x1,.int .i64 x2,.int .i64 x3,.int .i64 x4,.int .i64 x5,.int .i64 x6,.int .i64 x7]] w fun e w'=>e=.returned (.bool (hOk ⟨3,s,n,[x0,x1,x2,x3,x4,x5,x6,x7]⟩))∧Below w.heap.size w w':=by
 have HZ0:Hid (hOk ⟨3,s,n,[x0,x1,x2,x3,x4,x5,x6,x7]⟩=(decide (s.size=0)&&decide (n=0)&&okG [x0,x1,x2,x3,x4,x5,x6,x7])):=rfl
 have hie:=zn3z x0 x1 x2 x3 x4 x5 x6 x7
 have CT:Hid (∀W,CB 88 #[.agg #[.int .i64 x0,.int .i64 x1,.int .i64 x2,.int .i64 x3,.int .i64 x4,.int .i64 x5,.int .i64 x6,.int .i64 x7]] W (.string ⟨(xhz [x0,x1,x2,x3,x4,x5,x6,x7]).toArray⟩)):=fun W=>zkEz x0 x1 x2 x3 x4 x5 x6 x7 W
 have heq: ∀W,_:=eqA 9998 x0 x1 x2 x3 x4 x5 x6 x7 0 0 0 0 0 0 0 0
 rw[show [0,0,0,0,0,0,0,0]=xmz from rfl,show 9998+2=10000 from rfl]at heq
 obtain ⟨O,hO⟩: ∃O,O=(w.alloc (.cells #[.int .i64 3,.string s,.int .i64 n,.int .i64 x0,.int .i64 x1,.int .i64 x2,.int .i64 x3,.int .i64 x4,.int .i64 x5,.int .i64 x6,.int .i64 x7] 26)).alloc (.cells #[.int .i64 0,.int .i64 0,.int .i64 0,.int .i64 0,.int .i64 0,.int .i64 0,.int .i64 0,.int .i64 0] 24):=⟨_,rfl⟩
 have HL:Hid (∀W,Below O.heap.size O W→zkFz w W 3 s n x0 x1 x2 x3 x4 x5 x6 x7):=fun W h=>by rw[hO]at h;exact zqlz w W _ _ _ x0 x1 x2 x3 x4 x5 x6 x7 _ _ h
 have HE:Hid (∀W,Below O.heap.size O W→Below w.heap.size w W):=fun W h=>by
  rw[hO]at h
  exact (((Below.refl _ w).alloc (Nat.le_refl _) _).alloc (by simp) _).trans (h.mono (by simp;omega))
 generalize (⟨(xhz [x0,x1,x2,x3,x4,x5,x6,x7]).toArray⟩:ByteArray)=T at CT hie
 generalize okG [x0,x1,x2,x3,x4,x5,x6,x7]=q at hie HZ0
 by_cases h0:s.size=0
 ·have hem:=ztz h0
  by_cases hr:n=0
  ·have HZ:Hid (hOk ⟨3,s,n,[x0,x1,x2,x3,x4,x5,x6,x7]⟩=q):=by
    show _=_
    rw[HZ0.out,decide_eq_true h0,decide_eq_true hr]
    rfl
   have CT1:Hid (Calls Tryz.prog 88 #[.agg #[.int .i64 x0,.int .i64 x1,.int .i64 x2,.int .i64 x3,.int .i64 x4,.int .i64 x5,.int .i64 x6,.int .i64 x7]] O fun e w'=>e=.returned (.string T)∧Hid (Below O.heap.size O w')):=CT.out O
   clear h0 HZ0
   subst hr
   cases q with
   |true=>
    have hie':T.toList.isEmpty=false:=hie
    clear hie
    go_enter Tryz.func38,Tryz.ntmps38
    go_wp2_with fail
    rw[←hO]
    refine CT1.out.mono ?_
    rintro e w1 ⟨rfl,b1⟩
    go_wp2_with fail
    go_ret
    exact ⟨by rw[HZ.out];rfl,HE.out _ b1.out⟩
   |false=>
    have hie':T.toList.isEmpty=true:=hie
    clear hie
    go_enter Tryz.func38,Tryz.ntmps38
    go_wp2_with fail
    rw[←hO]
    refine CT1.out.mono ?_
    rintro e w1 ⟨rfl,b1⟩
    go_wp2_with fail
    go_ret
    exact ⟨by rw[HZ.out];rfl,HE.out _ b1.out⟩
  have HZ:Hid (hOk ⟨3,s,n,[x0,x1,x2,x3,x4,x5,x6,x7]⟩=false):=by
   show _=_
   rw[HZ0.out,decide_eq_true h0,decide_eq_false hr]
   rfl
  have q0:(n==0)=false:=beq_eq_false_iff_ne.2 hr
  clear h0 hr HZ0 hie
  go_enter Tryz.func38,Tryz.ntmps38
  go_wp2_with fail
  go_ret
  exact ⟨by rw[HZ.out];rfl,by go_grown⟩
 have HZ:Hid (hOk ⟨3,s,n,[x0,x1,x2,x3,x4,x5,x6,x7]⟩=false):=by
  show _=_
  rw[HZ0.out,decide_eq_false h0]
  rfl
 have hem:=zwz (by omega:0<s.size)
 clear h0 HZ0 hie
 go_enter Tryz.func38,Tryz.ntmps38
 go_wp2_with fail
 go_ret
 exact ⟨by rw[HZ.out];rfl,by go_grown⟩
theorem zkJz(k n:Int)(s:ByteArray)(x0 x1 x2 x3 x4 x5 x6 x7:Int)(w:World)(h1: ¬k=1)(h2: ¬k=2)(h3: ¬k=3):
  Calls Tryz.prog 38 #[.agg #[.int .i64 k,.string s,.int .i64 n,.int .i64 x0,.int .i64 x1,.int .i64 x2,.int .i64 x3,.int .i64 x4,.int .i64 x5,.int .i64 x6,.int .i64 x7]] w fun e w'=>e=.returned (.bool (hOk ⟨k,s,n,[x0,x1,x2,x3,x4,x5,x6,x7]⟩))∧Below w.heap.size w w':=by
 have HZ:Hid (hOk ⟨k,s,n,[x0,x1,x2,x3,x4,x5,x6,x7]⟩=false):=hOk0 k n s _ h1 h2 h3
 have q1:(k==1)=false:=beq_eq_false_iff_ne.2 h1
 have q2:(k==2)=false:=beq_eq_false_iff_ne.2 h2
 have q3:(k==3)=false:=beq_eq_false_iff_ne.2 h3
 clear h1 h2 h3
 go_enter Tryz.func38,Tryz.ntmps38
 go_wp2_with fail
 go_ret
 exact ⟨by rw[HZ.out];rfl,by go_grown⟩
theorem zlNz(k n:Int)(s:ByteArray)(x0 x1 x2 x3 x4 x5 x6 x7:Int)(w:World)(hs:s.size≤1048576):
  Calls Tryz.prog 38 #[.agg #[.int .i64 k,.string s,.int .i64 n,.int .i64 x0,.int .i64 x1,.int .i64 x2,.int .i64 x3,.int .i64 x4,.int .i64 x5,.int .i64 x6,.int .i64 x7]] w fun e w'=>e=.returned (.bool (hOk ⟨k,s,n,[x0,x1,x2,x3,x4,x5,x6,x7]⟩))∧Below w.heap.size w w':=by
 by_cases h1:k=1
 ·subst h1;exact zkGz n s x0 x1 x2 x3 x4 x5 x6 x7 w hs
 by_cases h2:k=2
 ·subst h2;exact zkHz n s x0 x1 x2 x3 x4 x5 x6 x7 w
 by_cases h3:k=3
 ·subst h3;exact zkIz n s x0 x1 x2 x3 x4 x5 x6 x7 w
 exact zkJz k n s x0 x1 x2 x3 x4 x5 x6 x7 w h1 h2 h3

def zqmz(a:ByteArray)(q:Bool)(r:ByteArray):List UInt8:=if q then toL a++63::toL r else toL a
def zgaz(x:Int):ByteArray:=⟨(vvz x.toNat).toArray⟩
theorem zgbz(x:Int):(zgaz x).size≤5:=by
 show (vvz x.toNat).toArray.size≤5
 rw[List.size_toArray]
 unfold vvz
 split
 ·simp
 split
 ·simp
 split
 ·simp
 split<;>simp
def xCz(s:Int)(H:ByteArray)(p:Int):List UInt8:=jUz s++47::47::(toL H++vkz s p)
theorem zhGz(s:Int):(⟨(jUz s).toArray⟩:ByteArray).size≤6:=by
 show (jUz s).toArray.size≤6
 rw[List.size_toArray]
 unfold jUz
 split<;>decide
def zbCz(C:Nat)(W W':World):Prop:=(∀B vs,B≠C→UAt W B vs→UAt W' B vs)∧ ∀m w0,m≤C→Below m w0 W→Below m w0 W'
theorem UAt.range{W:World}{B:Nat}{vs:List Value}(h:UAt W B vs)(off:Nat)(cs:List Value)(hs: ∀j v,cs[j]? =some v→vs[off+j]? =some v):W.rangeAt B off cs:=fun j v hv=>h.1 (off+j) v (hs j v hv)
theorem UAt.there{W:World}{B:Nat}{vs:List Value}(h:UAt W B vs)(off n:Nat)(hn:off+n≤vs.length):W.there B off n:=fun j hj=>by
 have e:=h.1 (off+j) _ (List.getElem?_eq_getElem (show off+j<vs.length by omega))
 exact ⟨by rw[e];rfl,h.2.1 _⟩
theorem yZz{C:Nat}: ∀(cs:List Value) (off:Nat) (W:World),zbCz C W (W.setCells C off cs)
 |[],_,_=>⟨fun _ _ _ h=>h,fun _ _ _ h=>h⟩
 |v::cs,off,W=>by
  have h:=yZz (C:=C) cs (off+1) (W.setCell ⟨C,off,none⟩ v)
  refine ⟨fun B vs hne hU=> ?_,fun m w0 hm hb=> ?_⟩
  ·exact h.1 B vs hne (hU.other hne off v)
  exact h.2 m w0 hm (hb.setCell (p:=⟨C,off,none⟩) hm v)
theorem zbDz{C:Nat}: ∀(cs:List Value) (off:Nat) (W:World) (vs:List Value),off+cs.length≤vs.length→UAt W C vs→UAt (W.setCells C off cs) C (vs.take off++(cs++vs.drop (off+cs.length)))
 |[],off,W,vs,_,h=>by
  have e:vs.take off++([]++vs.drop (off+([]:List Value).length))=vs:=by simp
  rw[e]
  exact h
 |v::cs,off,W,vs,hl,h=>by
  have hl':off+1+cs.length≤vs.length:=by simp at hl;omega
  have h1:=zbDz (C:=C) cs (off+1) (W.setCell ⟨C,off,none⟩ v) (vs.set off v) (by rw[List.length_set];exact hl') (h.set off (by omega) v)
  have e:(vs.set off v).take (off+1)++(cs++(vs.set off v).drop (off+1+cs.length))=vs.take off++(v::cs++vs.drop (off+(v::cs).length)):=by
   rw[List.take_succ_eq_append_getElem (by rw[List.length_set];omega),List.getElem_set_self,List.take_set_of_le (Nat.le_refl _),List.drop_set_of_lt (by omega),List.length_cons,show off+1+cs.length=off+(cs.length+1) by omega]
   simp
  rw[e]at h1
  exact h1
theorem zhHz{P:Program}{ops:Array Oper}{rest:List Oper}{o:Oper}{a:Act}{W:World}{Q:Exit→Act→World→Prop}(hgd:o.guard=none)(ty:TypeId)(x:Operand)(ho:o.op=.load ty x)
  (B off:Nat) (hx:a.eval x=.pointer (some ⟨B,off,none⟩)) (vs cs:List Value) (hU:UAt W B vs) (hs: ∀j v,cs[j]? =some v→vs[off+j]? =some v)
  (d:TypeDesc) (hu:P.underlying ty=some d) (hd:d.isRow=true) (hi:(P.info? ty).map (·.size)=some cs.length)
  (h:wpList P ops Q rest (a.put o.dst (.agg cs.toArray)) W):wpList P ops Q (o::rest) a W:=
 wpList_load_mid hgd ty x ho B off hx cs d (hU.range off cs hs) hu hd hi h
theorem zhIz{P:Program}{ops:Array Oper}{rest:List Oper}{o:Oper}{a:Act}{W:World}{Q:Exit→Act→World→Prop}(hgd:o.guard=none)(ty:TypeId)(x y:Operand)(ho:o.op=.store ty x y)
  (C off:Nat) (cells:Array Value) (hx:a.eval x=.pointer (some ⟨C,off,none⟩)) (hy:a.eval y=.agg cells) (vs:List Value) (hU:UAt W C vs) (hl:off+cells.size≤vs.length)
  (hi:(P.info? ty).map (·.size)=some cells.size) (h1:cells.all (·.oneCell')=true)
  (h: ∀W',UAt W' C (vs.take off++(cells.toList++vs.drop (off+cells.size)))→zbCz C W W'→wpList P ops Q rest (a.put o.dst undef) W'):wpList P ops Q (o::rest) a W:=
 wpList_store_mid hgd ty x y ho C off cells hx hy (hU.there off _ hl) hi h1 (h _ (by
  have:=zbDz cells.toList off W vs (by simpa using hl) hU
  simpa using this) (yZz _ _ _))
theorem zQz(s k n p:Int)(nm a r:ByteArray)(q:Bool)(x0 x1 x2 x3 x4 x5 x6 x7:Int):(zjz s k nm n x0 x1 x2 x3 x4 x5 x6 x7 p a q r).toArray.all (·.oneCell')=true:=by simp[zjz,Value.oneCell']
theorem Tryz.infoUrl:(Tryz.prog.info? 28).map (·.size)=some 16:=by kernel_rfl
theorem Tryz.infoHost:(Tryz.prog.info? 26).map (·.size)=some 11:=by kernel_rfl
theorem Tryz.rowUrl: ∃d,Tryz.prog.underlying 28=some d∧d.isRow=true:=⟨_,Tryz.underlying28,rfl⟩
theorem Tryz.rowHost: ∃d,Tryz.prog.underlying 26=some d∧d.isRow=true:=⟨_,Tryz.underlying26,rfl⟩
theorem xxz{ops:Array Oper}{rest:List Oper}{o:Oper}{a:Act}{W:World}{Q:Exit→Act→World→Prop}{B:Nat}{vs:List Value}(hU:UAt W B vs)(hl:vs.length=16)(hgd:o.guard=none)(x:Operand)(ho:o.op=.load 28 x)
  (hx:a.eval x=.pointer (some ⟨B,0,none⟩)) (h:wpList Tryz.prog ops Q rest (a.put o.dst (.agg vs.toArray)) W):wpList Tryz.prog ops Q (o::rest) a W:=by
 obtain ⟨d,hd1,hd2⟩:=Tryz.rowUrl
 exact zhHz hgd _ x ho B 0 hx vs vs hU (fun j v hv=>by rw[Nat.zero_add];exact hv) d hd1 hd2 (by rw[hl];exact Tryz.infoUrl) h
theorem y0z{ops:Array Oper}{rest:List Oper}{o:Oper}{a:Act}{W:World}{Q:Exit→Act→World→Prop}{C:Nat}{vs us:List Value}(hU:UAt W C vs)(hl:vs.length=16)(hm:us.length=16)(h1:us.toArray.all (·.oneCell')=true)(hgd:o.guard=none)(x y:Operand)(ho:o.op=.store 28 x y)
  (hx:a.eval x=.pointer (some ⟨C,0,none⟩)) (hy:a.eval y=.agg us.toArray) (h: ∀W',UAt W' C us→zbCz C W W'→wpList Tryz.prog ops Q rest (a.put o.dst undef) W'):wpList Tryz.prog ops Q (o::rest) a W:=
 zhIz hgd _ x y ho C 0 us.toArray hx hy vs hU (by rw[List.size_toArray,hl,hm];decide) (by rw[List.size_toArray,hm];exact Tryz.infoUrl) h1 fun W' hU' hM=>h W' (by
  have e:vs.take 0++(us.toArray.toList++vs.drop (0+us.toArray.size))=us:=by rw[List.size_toArray,hm,List.drop_of_length_le (by omega)];simp
  rw[e]at hU'
  exact hU') hM
theorem zrVz{ops:Array Oper}{rest:List Oper}{o:Oper}{a:Act}{W:World}{Q:Exit→Act→World→Prop}{B:Nat}{vs:List Value}(hU:UAt W B vs)(off:Nat)(cs:List Value)(hs: ∀j v,cs[j]? =some v→vs[off+j]? =some v)(hl:cs.length=11)(hgd:o.guard=none)(x:Operand)(ho:o.op=.load 26 x)
  (hx:a.eval x=.pointer (some ⟨B,off,none⟩)) (h:wpList Tryz.prog ops Q rest (a.put o.dst (.agg cs.toArray)) W):wpList Tryz.prog ops Q (o::rest) a W:=by
 obtain ⟨d,hd1,hd2⟩:=Tryz.rowHost
 exact zhHz hgd _ x ho B off hx vs cs hU hs d hd1 hd2 (by rw[hl];exact Tryz.infoHost) h
theorem zacz{ops:Array Oper}{rest:List Oper}{o:Oper}{a:Act}{W:World}{Q:Exit→Act→World→Prop}{C:Nat}{vs us:List Value}(hU:UAt W C vs)(off:Nat)(hl:off+11≤vs.length)(hm:us.length=11)(h1:us.toArray.all (·.oneCell')=true)(hgd:o.guard=none)(x y:Operand)(ho:o.op=.store 26 x y)
  (hx:a.eval x=.pointer (some ⟨C,off,none⟩)) (hy:a.eval y=.agg us.toArray) (h: ∀W',UAt W' C (vs.take off++(us++vs.drop (off+11)))→zbCz C W W'→wpList Tryz.prog ops Q rest (a.put o.dst undef) W'):wpList Tryz.prog ops Q (o::rest) a W:=
 zhIz hgd _ x y ho C off us.toArray hx hy vs hU (by rw[List.size_toArray,hm];exact hl) (by rw[List.size_toArray,hm];exact Tryz.infoHost) h1 fun W' hU' hM=>h W' (by
  rw[List.size_toArray,hm]at hU'
  exact hU') hM
theorem v8z(k n:Int)(s:ByteArray)(x0 x1 x2 x3 x4 x5 x6 x7:Int):(yvz k s n x0 x1 x2 x3 x4 x5 x6 x7).toArray.all (·.oneCell')=true:=by simp[yvz,Value.oneCell']
theorem yRz{fn:Func}{i:Tmp}(h:fn.results= #[.cell i 28])(tmps:Array Value)(W:World)(B:Nat)(vs:List Value)(hl:vs.length=16)
  (hp:tmps[i]?.getD undef=.pointer (some ⟨B,0,none⟩)) (ha:UAt W B vs):(results fn tmps).run Tryz.prog W=.ok (.agg vs.toArray) W:=by
 obtain ⟨d,hd1,hd2⟩:=Tryz.rowUrl
 have hr:=run_loadVar_mid (P:=Tryz.prog) W B 0 28 vs d (ha.range 0 vs (fun j v hv=>by rw[Nat.zero_add];exact hv)) hd1 hd2 (by rw[hl];exact Tryz.infoUrl)
 simp[results,h,hp,asAddr,hr]
theorem xLz{fn:Func}{i j:Tmp}(h:fn.results= #[.cell i 28,.tmp j])(tmps:Array Value)(W:World)(B:Nat)(v:Value)(vs:List Value)(hl:vs.length=16)
  (hp:tmps[i]?.getD undef=.pointer (some ⟨B,0,none⟩)) (hq:tmps[j]?.getD undef=v) (ha:UAt W B vs):(results fn tmps).run Tryz.prog W=.ok (.tuple #[.agg vs.toArray,v]) W:=by
 obtain ⟨d,hd1,hd2⟩:=Tryz.rowUrl
 have hr:=run_loadVar_mid (P:=Tryz.prog) W B 0 28 vs d (ha.range 0 vs (fun j v hv=>by rw[Nat.zero_add];exact hv)) hd1 hd2 (by rw[hl];exact Tryz.infoUrl)
 simp[results,h,hp,hq,asAddr,hr]
end Go.Proofs.YtgcbaphbiaimoaaGreatDoor
