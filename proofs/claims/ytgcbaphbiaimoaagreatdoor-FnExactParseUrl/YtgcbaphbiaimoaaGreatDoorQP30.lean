/- HostSpec, HostSpec2, UrlSpec2, UrlLaws. -/
import Derived.Test.YtgcbaphbiaimoaaGreatDoorQP28
import Derived.Test.YtgcbaphbiaimoaaGreatDoorQP29
import Derived.Deep.MidRow
set_option maxHeartbeats 4000000
set_option maxRecDepth 100000
namespace Go.Proofs.YtgcbaphbiaimoaaGreatDoor
open Go.RowKit
def zijz(W:World)(B:Nat):Prop:=
 W.cell? ⟨B,0,none⟩=some (.int .i64 0)∧W.cell? ⟨B,1,none⟩=some (.int .i64 0)∧W.cell? ⟨B,2,none⟩=some (.int .i64 0)∧W.cell? ⟨B,3,none⟩=some (.int .i64 0)∧
 W.cell? ⟨B,4,none⟩=some (.int .i64 0)∧W.cell? ⟨B,5,none⟩=some (.int .i64 0)∧W.cell? ⟨B,6,none⟩=some (.int .i64 0)∧W.cell? ⟨B,7,none⟩=some (.int .i64 0)
theorem zmpz(w W:World)(t:TypeId)(hb:Below (w.alloc (.cells #[.int .i64 0,.int .i64 0,.int .i64 0,.int .i64 0,.int .i64 0,.int .i64 0,.int .i64 0,.int .i64 0] t)).heap.size (w.alloc (.cells #[.int .i64 0,.int .i64 0,.int .i64 0,.int .i64 0,.int .i64 0,.int .i64 0,.int .i64 0,.int .i64 0] t)) W):zijz W w.heap.size:=by
 have key: ∀j v,(#[.int .i64 0,.int .i64 0,.int .i64 0,.int .i64 0,.int .i64 0,.int .i64 0,.int .i64 0,.int .i64 0]:Array Value)[j]? =some v→W.cell? ⟨w.heap.size,j,none⟩=some v:=fun j v h=>cell_later hb (by rw[World.cell?_alloc_at _ _ _ _ rfl];simpa using h)
 exact ⟨key 0 _ rfl,key 1 _ rfl,key 2 _ rfl,key 3 _ rfl,key 4 _ rfl,key 5 _ rfl,key 6 _ rfl,key 7 _ rfl⟩
def zlkz(w W:World)(k:Int)(s:ByteArray)(n:Int)(x0 x1 x2 x3 x4 x5 x6 x7:Int):Prop:=y0z w W k s n x0 x1 x2 x3 x4 x5 x6 x7∧zijz W (w.heap.size+1)
theorem zrcz(w W:World)(k:Int)(s:ByteArray)(n:Int)(x0 x1 x2 x3 x4 x5 x6 x7:Int)(t u:TypeId)(hb:Below ((w.alloc (.cells #[.int .i64 k,.string s,.int .i64 n,.int .i64 x0,.int .i64 x1,.int .i64 x2,.int .i64 x3,.int .i64 x4,.int .i64 x5,.int .i64 x6,.int .i64 x7] t)).alloc (.cells #[.int .i64 0,.int .i64 0,.int .i64 0,.int .i64 0,.int .i64 0,.int .i64 0,.int .i64 0,.int .i64 0] u)).heap.size ((w.alloc (.cells #[.int .i64 k,.string s,.int .i64 n,.int .i64 x0,.int .i64 x1,.int .i64 x2,.int .i64 x3,.int .i64 x4,.int .i64 x5,.int .i64 x6,.int .i64 x7] t)).alloc (.cells #[.int .i64 0,.int .i64 0,.int .i64 0,.int .i64 0,.int .i64 0,.int .i64 0,.int .i64 0,.int .i64 0] u)) W):zlkz w W k s n x0 x1 x2 x3 x4 x5 x6 x7:=by
 refine ⟨yyz w W k s n x0 x1 x2 x3 x4 x5 x6 x7 t (((Below.refl _ _).alloc (Nat.le_refl _) _).trans (hb.mono (by simp))),?_⟩
 have h:=zmpz _ W u hb
 rwa[show (w.alloc (.cells #[.int .i64 k,.string s,.int .i64 n,.int .i64 x0,.int .i64 x1,.int .i64 x2,.int .i64 x3,.int .i64 x4,.int .i64 x5,.int .i64 x6,.int .i64 x7] t)).heap.size=w.heap.size+1 by simp]at h
theorem zllz(n:Int)(s:ByteArray)(x0 x1 x2 x3 x4 x5 x6 x7:Int)(w:World)(hs:s.size≤1048576):
  Calls Tryz.prog 38 #[.agg #[.int .i64 1,.string s,.int .i64 n,.int .i64 x0,.int .i64 x1,.int .i64 x2,.int .i64 x3,.int .i64 x4,.int .i64 x5,.int .i64 x6,.int .i64 x7]] w fun e w'=>e=.returned (.bool (hOk ⟨1,s,n,[x0,x1,x2,x3,x4,x5,x6,x7]⟩))∧Below w.heap.size w w':=by
 have HZ0:Hid (hOk ⟨1,s,n,[x0,x1,x2,x3,x4,x5,x6,x7]⟩=(decide (z6z s=some s.data.toList)&& !juz s&&decide (n=0)&&eqB [x0,x1,x2,x3,x4,x5,x6,x7] xsz)):=rfl
 have CN:Hid (∀W,CB 86 #[.string s] W (yuz (z6z s))):=fun W=>zgIz s W hs
 have CE:Hid (∀W,CB 87 #[.string s] W (.bool (juz s))):=fun W=>zaNz s W hs
 have heq: ∀W,_:=eqA 9998 x0 x1 x2 x3 x4 x5 x6 x7 0 0 0 0 0 0 0 0
 rw[show [0,0,0,0,0,0,0,0]=xsz from rfl,show 9998+2=10000 from rfl]at heq
 obtain ⟨O,hO⟩: ∃O,O=(w.alloc (.cells #[.int .i64 1,.string s,.int .i64 n,.int .i64 x0,.int .i64 x1,.int .i64 x2,.int .i64 x3,.int .i64 x4,.int .i64 x5,.int .i64 x6,.int .i64 x7] 26)).alloc (.cells #[.int .i64 0,.int .i64 0,.int .i64 0,.int .i64 0,.int .i64 0,.int .i64 0,.int .i64 0,.int .i64 0] 24):=⟨_,rfl⟩
 have HL:Hid (∀W,Below O.heap.size O W→zlkz w W 1 s n x0 x1 x2 x3 x4 x5 x6 x7):=fun W h=>by rw[hO]at h;exact zrcz w W _ _ _ x0 x1 x2 x3 x4 x5 x6 x7 _ _ h
 have HE:Hid (∀W,Below O.heap.size O W→Below w.heap.size w W):=fun W h=>by
  rw[hO]at h
  exact (((Below.refl _ w).alloc (Nat.le_refl _) _).alloc (by simp) _).trans (h.mono (by simp;omega))
 have CN1:Hid (Calls Tryz.prog 86 #[.string s] O fun e w'=>e=.returned (yuz (z6z s))∧Hid (Below O.heap.size O w')):=CN.out O
 have CE1:Hid (∀W,Below O.heap.size O W→Calls Tryz.prog 87 #[.string s] W fun e w'=>e=.returned (.bool (juz s))∧zlkz w w' 1 s n x0 x1 x2 x3 x4 x5 x6 x7∧Hid (Below O.heap.size O w')):=fun W hW=>
  (CE.out W).mono fun e w' h=>⟨h.1,HL.out w' (hW.trans (h.2.mono hW.size)),hW.trans (h.2.mono hW.size)⟩
 clear CN CE
 generalize eqB [x0,x1,x2,x3,x4,x5,x6,x7] xsz=q at heq HZ0
 cases hn:z6z s with
 |none=>
  have HZ:Hid (hOk ⟨1,s,n,[x0,x1,x2,x3,x4,x5,x6,x7]⟩=false):=by
   show _=_
   rw[HZ0.out,hn,decide_eq_false (by simp)]
   rfl
  rw[hn,show yuz none=.tuple #[.string ⟨#[]⟩,.bool false] from rfl]at CN1
  clear hn HZ0
  go_enter Tryz.func38,Tryz.ntmps38
  go_wp2_with fail
  rw[←hO]
  refine CN1.out.mono ?_
  rintro e w1 ⟨rfl,b1⟩
  obtain ⟨⟨c0,c1,c2,c3,c4,c5,c6,c7,c8,c9,c10⟩,⟨d0,d1,d2,d3,d4,d5,d6,d7⟩⟩:=HL.out w1 b1.out
  go_wp2_with fail
  go_ret
  exact ⟨by rw[HZ.out];rfl,HE.out _ b1.out⟩
 |some m=>
  by_cases he:m=s.data.toList
  ·rw[hn,show yuz (some m)=.tuple #[.string s,.bool true] by rw[he];show Value.tuple #[.string ⟨s.data.toList.toArray⟩,.bool true]=_;rw[zbKz]]at CN1
   have HZ1:Hid (hOk ⟨1,s,n,[x0,x1,x2,x3,x4,x5,x6,x7]⟩=(!juz s&&decide (n=0)&&q)):=by
    show _=_
    rw[HZ0.out,hn,he,decide_eq_true rfl]
    rfl
   clear hn HZ0 he
   generalize juz s=r at CE1 HZ1
   cases r with
   |true=>
    go_enter Tryz.func38,Tryz.ntmps38
    go_wp2_with fail
    rw[←hO]
    refine CN1.out.mono ?_
    rintro e w1 ⟨rfl,b1⟩
    obtain ⟨⟨c0,c1,c2,c3,c4,c5,c6,c7,c8,c9,c10⟩,⟨d0,d1,d2,d3,d4,d5,d6,d7⟩⟩:=HL.out w1 b1.out
    go_wp2_with fail
    refine (CE1.out _ b1.out).mono ?_
    rintro e w2 ⟨rfl,⟨⟨e0,e1,e2,e3,e4,e5,e6,e7,e8,e9,e10⟩,⟨f0,f1,f2,f3,f4,f5,f6,f7⟩⟩,b2⟩
    go_wp2_with fail
    go_ret
    exact ⟨by rw[HZ1.out];rfl,HE.out _ b2.out⟩
   |false=>
    by_cases h0:n=0
    ·subst h0
     go_enter Tryz.func38,Tryz.ntmps38
     go_wp2_with fail
     rw[←hO]
     refine CN1.out.mono ?_
     rintro e w1 ⟨rfl,b1⟩
     obtain ⟨⟨c0,c1,c2,c3,c4,c5,c6,c7,c8,c9,c10⟩,⟨d0,d1,d2,d3,d4,d5,d6,d7⟩⟩:=HL.out w1 b1.out
     go_wp2_with fail
     refine (CE1.out _ b1.out).mono ?_
     rintro e w2 ⟨rfl,⟨⟨e0,e1,e2,e3,e4,e5,e6,e7,e8,e9,e10⟩,⟨f0,f1,f2,f3,f4,f5,f6,f7⟩⟩,b2⟩
     go_wp2_with fail
     go_ret
     exact ⟨by rw[HZ1.out];rfl,HE.out _ b2.out⟩
    have HZ:Hid (hOk ⟨1,s,n,[x0,x1,x2,x3,x4,x5,x6,x7]⟩=false):=by
     show _=_
     rw[HZ1.out,decide_eq_false h0]
     rfl
    have q0:(n==0)=false:=beq_eq_false_iff_ne.2 h0
    clear h0 HZ1
    go_enter Tryz.func38,Tryz.ntmps38
    go_wp2_with fail
    rw[←hO]
    refine CN1.out.mono ?_
    rintro e w1 ⟨rfl,b1⟩
    obtain ⟨⟨c0,c1,c2,c3,c4,c5,c6,c7,c8,c9,c10⟩,⟨d0,d1,d2,d3,d4,d5,d6,d7⟩⟩:=HL.out w1 b1.out
    go_wp2_with fail
    refine (CE1.out _ b1.out).mono ?_
    rintro e w2 ⟨rfl,⟨⟨e0,e1,e2,e3,e4,e5,e6,e7,e8,e9,e10⟩,⟨f0,f1,f2,f3,f4,f5,f6,f7⟩⟩,b2⟩
    go_wp2_with fail
    go_ret
    exact ⟨by rw[HZ.out];rfl,HE.out _ b2.out⟩
  have HZ:Hid (hOk ⟨1,s,n,[x0,x1,x2,x3,x4,x5,x6,x7]⟩=false):=by
   show _=_
   rw[HZ0.out,hn,decide_eq_false (by intro e;exact he (Option.some.inj e))]
   rfl
  have hne:((⟨m.toArray⟩:ByteArray).toList==s.toList)=false:=za5z (fun e=>he (by rw[←e]))
  rw[hn,show yuz (some m)=.tuple #[.string ⟨m.toArray⟩,.bool true] from rfl]at CN1
  generalize (⟨m.toArray⟩:ByteArray)=T at CN1 hne
  clear hn HZ0 he
  go_enter Tryz.func38,Tryz.ntmps38
  go_wp2_with fail
  rw[←hO]
  refine CN1.out.mono ?_
  rintro e w1 ⟨rfl,b1⟩
  obtain ⟨⟨c0,c1,c2,c3,c4,c5,c6,c7,c8,c9,c10⟩,⟨d0,d1,d2,d3,d4,d5,d6,d7⟩⟩:=HL.out w1 b1.out
  go_wp2_with fail
  go_ret
  exact ⟨by rw[HZ.out];rfl,HE.out _ b1.out⟩
theorem zlmz(n:Int)(s:ByteArray)(x0 x1 x2 x3 x4 x5 x6 x7:Int)(w:World):
  Calls Tryz.prog 38 #[.agg #[.int .i64 2,.string s,.int .i64 n,.int .i64 x0,.int .i64 x1,.int .i64 x2,.int .i64 x3,.int .i64 x4,.int .i64 x5,.int .i64 x6,.int .i64 x7]] w fun e w'=>e=.returned (.bool (hOk ⟨2,s,n,[x0,x1,x2,x3,x4,x5,x6,x7]⟩))∧Below w.heap.size w w':=by
 have HZ0:Hid (hOk ⟨2,s,n,[x0,x1,x2,x3,x4,x5,x6,x7]⟩=(decide (s.size=0)&&decide (0≤n∧n<4294967296)&&eqB [x0,x1,x2,x3,x4,x5,x6,x7] xsz)):=rfl
 have heq: ∀W,_:=eqA 9998 x0 x1 x2 x3 x4 x5 x6 x7 0 0 0 0 0 0 0 0
 rw[show [0,0,0,0,0,0,0,0]=xsz from rfl,show 9998+2=10000 from rfl]at heq
 obtain ⟨O,hO⟩: ∃O,O=(w.alloc (.cells #[.int .i64 2,.string s,.int .i64 n,.int .i64 x0,.int .i64 x1,.int .i64 x2,.int .i64 x3,.int .i64 x4,.int .i64 x5,.int .i64 x6,.int .i64 x7] 26)).alloc (.cells #[.int .i64 0,.int .i64 0,.int .i64 0,.int .i64 0,.int .i64 0,.int .i64 0,.int .i64 0,.int .i64 0] 24):=⟨_,rfl⟩
 have HL:Hid (∀W,Below O.heap.size O W→zlkz w W 2 s n x0 x1 x2 x3 x4 x5 x6 x7):=fun W h=>by rw[hO]at h;exact zrcz w W _ _ _ x0 x1 x2 x3 x4 x5 x6 x7 _ _ h
 have HE:Hid (∀W,Below O.heap.size O W→Below w.heap.size w W):=fun W h=>by
  rw[hO]at h
  exact (((Below.refl _ w).alloc (Nat.le_refl _) _).alloc (by simp) _).trans (h.mono (by simp;omega))
 generalize eqB [x0,x1,x2,x3,x4,x5,x6,x7] xsz=q at heq HZ0
 by_cases h0:s.size=0
 ·have hem:=zsz h0
  by_cases hr:0≤n∧n<4294967296
  ·have HZ:Hid (hOk ⟨2,s,n,[x0,x1,x2,x3,x4,x5,x6,x7]⟩=q):=by
    show _=_
    rw[HZ0.out,decide_eq_true h0,decide_eq_true hr]
    rfl
   have CI:Hid (∀W,CS 39 #[.int .i64 n,.int .i64 0,.int .i64 4294967295] W (.bool true)):=fun W=>xYz _ _ _ W (by omega) (by omega)
   clear h0 hr HZ0
   go_enter Tryz.func38,Tryz.ntmps38
   go_wp2_with fail
   refine (CI.out _).mono ?_
   rintro e w1 ⟨rfl,rfl⟩
   go_wp2_with fail
   go_ret
   exact ⟨by rw[HZ.out];rfl,by go_grown⟩
  have HZ:Hid (hOk ⟨2,s,n,[x0,x1,x2,x3,x4,x5,x6,x7]⟩=false):=by
   show _=_
   rw[HZ0.out,decide_eq_true h0,decide_eq_false hr]
   rfl
  have CI:Hid (∀W,CS 39 #[.int .i64 n,.int .i64 0,.int .i64 4294967295] W (.bool false)):=fun W=>xMz _ _ _ W (by omega)
  clear h0 hr HZ0
  go_enter Tryz.func38,Tryz.ntmps38
  go_wp2_with fail
  refine (CI.out _).mono ?_
  rintro e w1 ⟨rfl,rfl⟩
  go_wp2_with fail
  go_ret
  exact ⟨by rw[HZ.out];rfl,by go_grown⟩
 have HZ:Hid (hOk ⟨2,s,n,[x0,x1,x2,x3,x4,x5,x6,x7]⟩=false):=by
  show _=_
  rw[HZ0.out,decide_eq_false h0]
  rfl
 have hem:=zvz (by omega:0<s.size)
 clear h0 HZ0
 go_enter Tryz.func38,Tryz.ntmps38
 go_wp2_with fail
 go_ret
 exact ⟨by rw[HZ.out];rfl,by go_grown⟩
theorem zoWz(x0 x1 x2 x3 x4 x5 x6 x7:Int):(⟨(xbz [x0,x1,x2,x3,x4,x5,x6,x7]).toArray⟩:ByteArray).toList.isEmpty= !okG [x0,x1,x2,x3,x4,x5,x6,x7]:=by
 cases h:okG [x0,x1,x2,x3,x4,x5,x6,x7]with
 |false=>
  have e:xbz [x0,x1,x2,x3,x4,x5,x6,x7]=[]:=by unfold xbz;rw[if_neg (by rw[h];decide)]
  rw[e]
  exact zsz rfl
 |true=>
  refine zvz ?_
  show 0<(xbz [x0,x1,x2,x3,x4,x5,x6,x7]).toArray.size
  rw[List.size_toArray]
  unfold xbz
  rw[if_pos h]
  exact Nat.lt_of_lt_of_le (by decide:0<2) (zm2z rfl (ziVz (zeqz x0 x1 x2 x3 x4 x5 x6 x7)).2).1
theorem zlnz(n:Int)(s:ByteArray)(x0 x1 x2 x3 x4 x5 x6 x7:Int)(w:World):
  Calls Tryz.prog 38 #[.agg #[.int .i64 3,.string s,.int .i64 n,.int .i64 x0,.int .i64 x1,.int .i64 x2,.int .i64 x3,.int .i64 x4,.int .i64 x5,.int .i64 x6,.int .i64 x7]] w fun e w'=>e=.returned (.bool (hOk ⟨3,s,n,[x0,x1,x2,x3,x4,x5,x6,x7]⟩))∧Below w.heap.size w w':=by
 have HZ0:Hid (hOk ⟨3,s,n,[x0,x1,x2,x3,x4,x5,x6,x7]⟩=(decide (s.size=0)&&decide (n=0)&&okG [x0,x1,x2,x3,x4,x5,x6,x7])):=rfl
 have hie:=zoWz x0 x1 x2 x3 x4 x5 x6 x7
 have CT:Hid (∀W,CB 88 #[.agg #[.int .i64 x0,.int .i64 x1,.int .i64 x2,.int .i64 x3,.int .i64 x4,.int .i64 x5,.int .i64 x6,.int .i64 x7]] W (.string ⟨(xbz [x0,x1,x2,x3,x4,x5,x6,x7]).toArray⟩)):=fun W=>ze2z x0 x1 x2 x3 x4 x5 x6 x7 W
 have heq: ∀W,_:=eqA 9998 x0 x1 x2 x3 x4 x5 x6 x7 0 0 0 0 0 0 0 0
 rw[show [0,0,0,0,0,0,0,0]=xsz from rfl,show 9998+2=10000 from rfl]at heq
 obtain ⟨O,hO⟩: ∃O,O=(w.alloc (.cells #[.int .i64 3,.string s,.int .i64 n,.int .i64 x0,.int .i64 x1,.int .i64 x2,.int .i64 x3,.int .i64 x4,.int .i64 x5,.int .i64 x6,.int .i64 x7] 26)).alloc (.cells #[.int .i64 0,.int .i64 0,.int .i64 0,.int .i64 0,.int .i64 0,.int .i64 0,.int .i64 0,.int .i64 0] 24):=⟨_,rfl⟩
 have HL:Hid (∀W,Below O.heap.size O W→zlkz w W 3 s n x0 x1 x2 x3 x4 x5 x6 x7):=fun W h=>by rw[hO]at h;exact zrcz w W _ _ _ x0 x1 x2 x3 x4 x5 x6 x7 _ _ h
 have HE:Hid (∀W,Below O.heap.size O W→Below w.heap.size w W):=fun W h=>by
  rw[hO]at h
  exact (((Below.refl _ w).alloc (Nat.le_refl _) _).alloc (by simp) _).trans (h.mono (by simp;omega))
 generalize (⟨(xbz [x0,x1,x2,x3,x4,x5,x6,x7]).toArray⟩:ByteArray)=T at CT hie
 generalize okG [x0,x1,x2,x3,x4,x5,x6,x7]=q at hie HZ0
 by_cases h0:s.size=0
 ·have hem:=zsz h0
  by_cases hr:n=0
  ·have HZ:Hid (hOk ⟨3,s,n,[x0,x1,x2,x3,x4,x5,x6,x7]⟩=q):=by
    show _=_
    rw[HZ0.out,decide_eq_true h0,decide_eq_true hr]
    rfl
   have CT1:Hid (Calls Tryz.prog 88 #[.agg #[.int .i64 x0,.int .i64 x1,.int .i64 x2,.int .i64 x3,.int .i64 x4,.int .i64 x5,.int .i64 x6,.int .i64 x7]] O fun e w'=>e=.returned (.string T)∧Hid (Below O.heap.size O w')):=CT.out O
   clear h0 HZ0
   subst hr
   cases q with
   |true=>
    have hie':T.toList.isEmpty=false:=hie
    clear hie
    go_enter Tryz.func38,Tryz.ntmps38
    go_wp2_with fail
    rw[←hO]
    refine CT1.out.mono ?_
    rintro e w1 ⟨rfl,b1⟩
    go_wp2_with fail
    go_ret
    exact ⟨by rw[HZ.out];rfl,HE.out _ b1.out⟩
   |false=>
    have hie':T.toList.isEmpty=true:=hie
    clear hie
    go_enter Tryz.func38,Tryz.ntmps38
    go_wp2_with fail
    rw[←hO]
    refine CT1.out.mono ?_
    rintro e w1 ⟨rfl,b1⟩
    go_wp2_with fail
    go_ret
    exact ⟨by rw[HZ.out];rfl,HE.out _ b1.out⟩
  have HZ:Hid (hOk ⟨3,s,n,[x0,x1,x2,x3,x4,x5,x6,x7]⟩=false):=by
   show _=_
   rw[HZ0.out,decide_eq_true h0,decide_eq_false hr]
   rfl
  have q0:(n==0)=false:=beq_eq_false_iff_ne.2 hr
  clear h0 hr HZ0 hie
  go_enter Tryz.func38,Tryz.ntmps38
  go_wp2_with fail
  go_ret
  exact ⟨by rw[HZ.out];rfl,by go_grown⟩
 have HZ:Hid (hOk ⟨3,s,n,[x0,x1,x2,x3,x4,x5,x6,x7]⟩=false):=by
  show _=_
  rw[HZ0.out,decide_eq_false h0]
  rfl
 have hem:=zvz (by omega:0<s.size)
 clear h0 HZ0 hie
 go_enter Tryz.func38,Tryz.ntmps38
 go_wp2_with fail
 go_ret
 exact ⟨by rw[HZ.out];rfl,by go_grown⟩
theorem zloz(k n:Int)(s:ByteArray)(x0 x1 x2 x3 x4 x5 x6 x7:Int)(w:World)(h1: ¬k=1)(h2: ¬k=2)(h3: ¬k=3):
  Calls Tryz.prog 38 #[.agg #[.int .i64 k,.string s,.int .i64 n,.int .i64 x0,.int .i64 x1,.int .i64 x2,.int .i64 x3,.int .i64 x4,.int .i64 x5,.int .i64 x6,.int .i64 x7]] w fun e w'=>e=.returned (.bool (hOk ⟨k,s,n,[x0,x1,x2,x3,x4,x5,x6,x7]⟩))∧Below w.heap.size w w':=by
 have HZ:Hid (hOk ⟨k,s,n,[x0,x1,x2,x3,x4,x5,x6,x7]⟩=false):=hOk0 k n s _ h1 h2 h3
 have q1:(k==1)=false:=beq_eq_false_iff_ne.2 h1
 have q2:(k==2)=false:=beq_eq_false_iff_ne.2 h2
 have q3:(k==3)=false:=beq_eq_false_iff_ne.2 h3
 clear h1 h2 h3
 go_enter Tryz.func38,Tryz.ntmps38
 go_wp2_with fail
 go_ret
 exact ⟨by rw[HZ.out];rfl,by go_grown⟩
theorem zmqz(k n:Int)(s:ByteArray)(x0 x1 x2 x3 x4 x5 x6 x7:Int)(w:World)(hs:s.size≤1048576):
  Calls Tryz.prog 38 #[.agg #[.int .i64 k,.string s,.int .i64 n,.int .i64 x0,.int .i64 x1,.int .i64 x2,.int .i64 x3,.int .i64 x4,.int .i64 x5,.int .i64 x6,.int .i64 x7]] w fun e w'=>e=.returned (.bool (hOk ⟨k,s,n,[x0,x1,x2,x3,x4,x5,x6,x7]⟩))∧Below w.heap.size w w':=by
 by_cases h1:k=1
 ·subst h1;exact zllz n s x0 x1 x2 x3 x4 x5 x6 x7 w hs
 by_cases h2:k=2
 ·subst h2;exact zlmz n s x0 x1 x2 x3 x4 x5 x6 x7 w
 by_cases h3:k=3
 ·subst h3;exact zlnz n s x0 x1 x2 x3 x4 x5 x6 x7 w
 exact zloz k n s x0 x1 x2 x3 x4 x5 x6 x7 w h1 h2 h3
theorem zd5z(k n:Int)(s:ByteArray)(x0 x1 x2 x3 x4 x5 x6 x7:Int)(w:World)(hs:s.size≤1048576):
  Calls Tryz.prog 118 #[.agg #[.int .i64 k,.string s,.int .i64 n,.int .i64 x0,.int .i64 x1,.int .i64 x2,.int .i64 x3,.int .i64 x4,.int .i64 x5,.int .i64 x6,.int .i64 x7]] w fun e w'=>e=.returned (.string (hTx ⟨k,s,n,[x0,x1,x2,x3,x4,x5,x6,x7]⟩))∧Below w.heap.size w w':=by
 have CO:Hid (∀W,CB 38 #[.agg #[.int .i64 k,.string s,.int .i64 n,.int .i64 x0,.int .i64 x1,.int .i64 x2,.int .i64 x3,.int .i64 x4,.int .i64 x5,.int .i64 x6,.int .i64 x7]] W (.bool (hOk ⟨k,s,n,[x0,x1,x2,x3,x4,x5,x6,x7]⟩))):=fun W=>zmqz k n s x0 x1 x2 x3 x4 x5 x6 x7 W hs
 cases hok:hOk ⟨k,s,n,[x0,x1,x2,x3,x4,x5,x6,x7]⟩with
 |false=>
  have HX:Hid (hTx ⟨k,s,n,[x0,x1,x2,x3,x4,x5,x6,x7]⟩=⟨#[]⟩):=zmnz hok
  rw[hok]at CO
  clear hok
  go_enter Tryz.func118,Tryz.ntmps118
  go_wp2_with fail
  refine (CO.out _).mono ?_
  rintro e w1 ⟨rfl,b1⟩
  have HB1:Hid (Below (w.alloc (.cells #[.int .i64 k,.string s,.int .i64 n,.int .i64 x0,.int .i64 x1,.int .i64 x2,.int .i64 x3,.int .i64 x4,.int .i64 x5,.int .i64 x6,.int .i64 x7] 26)).heap.size (w.alloc (.cells #[.int .i64 k,.string s,.int .i64 n,.int .i64 x0,.int .i64 x1,.int .i64 x2,.int .i64 x3,.int .i64 x4,.int .i64 x5,.int .i64 x6,.int .i64 x7] 26)) w1):=b1
  obtain ⟨c0,c1,c2,c3,c4,c5,c6,c7,c8,c9,c10⟩:=yyz w w1 _ _ _ x0 x1 x2 x3 x4 x5 x6 x7 _ b1
  have B1:Hid (Below w.heap.size w w1):=((Below.refl _ w).alloc (Nat.le_refl _) _).trans (b1.mono (by simp))
  clear b1 HB1
  go_wp2_with fail
  go_ret
  exact ⟨by rw[HX.out];rfl,B1.out⟩
 |true=>
  by_cases h1:k=1
  ·subst h1
   have HX:Hid (hTx ⟨1,s,n,[x0,x1,x2,x3,x4,x5,x6,x7]⟩=s):=hTx1 hok
   rw[hok]at CO
   clear hok
   go_enter Tryz.func118,Tryz.ntmps118
   go_wp2_with fail
   refine (CO.out _).mono ?_
   rintro e w1 ⟨rfl,b1⟩
   have HB1:Hid (Below (w.alloc (.cells #[.int .i64 1,.string s,.int .i64 n,.int .i64 x0,.int .i64 x1,.int .i64 x2,.int .i64 x3,.int .i64 x4,.int .i64 x5,.int .i64 x6,.int .i64 x7] 26)).heap.size (w.alloc (.cells #[.int .i64 1,.string s,.int .i64 n,.int .i64 x0,.int .i64 x1,.int .i64 x2,.int .i64 x3,.int .i64 x4,.int .i64 x5,.int .i64 x6,.int .i64 x7] 26)) w1):=b1
   obtain ⟨c0,c1,c2,c3,c4,c5,c6,c7,c8,c9,c10⟩:=yyz w w1 _ _ _ x0 x1 x2 x3 x4 x5 x6 x7 _ b1
   have B1:Hid (Below w.heap.size w w1):=((Below.refl _ w).alloc (Nat.le_refl _) _).trans (b1.mono (by simp))
   clear b1 HB1
   go_wp2_with fail
   go_ret
   exact ⟨by rw[HX.out];rfl,B1.out⟩
  by_cases h2:k=2
  ·subst h2
   have HX:Hid (hTx ⟨2,s,n,[x0,x1,x2,x3,x4,x5,x6,x7]⟩=xaz n):=hTx2 hok
   have hr:0≤n∧n<4294967296:=by
    have h:=hok
    rw[hOk2,Bool.and_eq_true]at h
    exact of_decide_eq_true h.1
   have CT:Hid (∀W,CB 170 #[.int .i64 n] W (.string (xaz n))):=fun W=>zeNz n W hr.1 hr.2
   generalize xaz n=T at CT HX
   rw[hok]at CO
   clear hok hr h1
   go_enter Tryz.func118,Tryz.ntmps118
   go_wp2_with fail
   refine (CO.out _).mono ?_
   rintro e w1 ⟨rfl,b1⟩
   have HB1:Hid (Below (w.alloc (.cells #[.int .i64 2,.string s,.int .i64 n,.int .i64 x0,.int .i64 x1,.int .i64 x2,.int .i64 x3,.int .i64 x4,.int .i64 x5,.int .i64 x6,.int .i64 x7] 26)).heap.size (w.alloc (.cells #[.int .i64 2,.string s,.int .i64 n,.int .i64 x0,.int .i64 x1,.int .i64 x2,.int .i64 x3,.int .i64 x4,.int .i64 x5,.int .i64 x6,.int .i64 x7] 26)) w1):=b1
   obtain ⟨c0,c1,c2,c3,c4,c5,c6,c7,c8,c9,c10⟩:=yyz w w1 _ _ _ x0 x1 x2 x3 x4 x5 x6 x7 _ b1
   have B1:Hid (Below w.heap.size w w1):=((Below.refl _ w).alloc (Nat.le_refl _) _).trans (b1.mono (by simp))
   clear b1 HB1
   go_wp2_with fail
   refine (CT.out _).mono ?_
   rintro e w2 ⟨rfl,b2⟩
   have B2:=B1.out.trans (b2.mono B1.out.size)
   clear b2
   go_wp2_with fail
   go_ret
   exact ⟨by rw[HX.out];rfl,B2⟩
  by_cases h3:k=3
  ·subst h3
   have HX:Hid (hTx ⟨3,s,n,[x0,x1,x2,x3,x4,x5,x6,x7]⟩=(⟨#[91]⟩:ByteArray)++⟨(xbz [x0,x1,x2,x3,x4,x5,x6,x7]).toArray⟩++(⟨#[93]⟩:ByteArray)):=by
    show _=_
    rw[hTx3 hok,zgLz]
   have hr:okG [x0,x1,x2,x3,x4,x5,x6,x7]=true:=by
    have h:=hok
    rw[hOk3,Bool.and_eq_true]at h
    exact h.1
   have hl:=zjoz hr
   have CT:Hid (∀W,CB 88 #[.agg #[.int .i64 x0,.int .i64 x1,.int .i64 x2,.int .i64 x3,.int .i64 x4,.int .i64 x5,.int .i64 x6,.int .i64 x7]] W (.string ⟨(xbz [x0,x1,x2,x3,x4,x5,x6,x7]).toArray⟩)):=fun W=>ze2z x0 x1 x2 x3 x4 x5 x6 x7 W
   generalize (⟨(xbz [x0,x1,x2,x3,x4,x5,x6,x7]).toArray⟩:ByteArray)=T at CT HX hl
   have e1:(⟨#[91]⟩:ByteArray).size=1:=rfl
   have e2:(⟨#[93]⟩:ByteArray).size=1:=rfl
   rw[hok]at CO
   clear hok hr h1 h2
   go_enter Tryz.func118,Tryz.ntmps118
   go_wp2_with fail
   refine (CO.out _).mono ?_
   rintro e w1 ⟨rfl,b1⟩
   have HB1:Hid (Below (w.alloc (.cells #[.int .i64 3,.string s,.int .i64 n,.int .i64 x0,.int .i64 x1,.int .i64 x2,.int .i64 x3,.int .i64 x4,.int .i64 x5,.int .i64 x6,.int .i64 x7] 26)).heap.size (w.alloc (.cells #[.int .i64 3,.string s,.int .i64 n,.int .i64 x0,.int .i64 x1,.int .i64 x2,.int .i64 x3,.int .i64 x4,.int .i64 x5,.int .i64 x6,.int .i64 x7] 26)) w1):=b1
   obtain ⟨c0,c1,c2,c3,c4,c5,c6,c7,c8,c9,c10⟩:=yyz w w1 _ _ _ x0 x1 x2 x3 x4 x5 x6 x7 _ b1
   have B1:Hid (Below w.heap.size w w1):=((Below.refl _ w).alloc (Nat.le_refl _) _).trans (b1.mono (by simp))
   clear b1 HB1
   go_wp2_with fail
   refine (CT.out _).mono ?_
   rintro e w2 ⟨rfl,b2⟩
   have B2:=B1.out.trans (b2.mono B1.out.size)
   clear b2
   go_wp2_with fail
   go_ret
   exact ⟨by rw[HX.out];rfl,B2⟩
  rw[hOk0 k n s _ h1 h2 h3]at hok
  cases hok
theorem zmrz(s:Int)(w:World):
  Calls Tryz.prog 66 #[.int .i64 s] w fun e w'=>e=.returned (.string ⟨(vvz s).toArray⟩)∧w=w':=by
 by_cases h1:s=1
 ·subst h1
  go_enter Tryz.func66,Tryz.ntmps66
  go_wp2
  go_ret
  exact ⟨rfl,rfl⟩
 have q1:(s==1)=false:=beq_eq_false_iff_ne.2 h1
 have HD:Hid ((⟨(vvz s).toArray⟩:ByteArray)=⟨#[104,116,116,112,115,58]⟩):=by show _=_;unfold vvz;rw[if_neg h1];rfl
 clear h1
 go_enter Tryz.func66,Tryz.ntmps66
 go_wp2
 go_ret
 exact ⟨zUz HD.out.symm,rfl⟩
def jbz(a:ByteArray)(q:Bool)(r:ByteArray):List UInt8:=if q then toL a++63::toL r else toL a
theorem zrdz(s k n p:Int)(nm a r:ByteArray)(q:Bool)(x0 x1 x2 x3 x4 x5 x6 x7:Int)(w:World)(ha:a.size≤1048576)(hr:r.size≤1048576):
  Calls Tryz.prog 61 #[.agg #[.int .i64 s,.int .i64 k,.string nm,.int .i64 n,.int .i64 x0,.int .i64 x1,.int .i64 x2,.int .i64 x3,.int .i64 x4,.int .i64 x5,.int .i64 x6,.int .i64 x7,.int .i64 p,.string a,.bool q,.string r]] w fun e w'=>e=.returned (.string ⟨(jbz a q r).toArray⟩)∧Below w.heap.size w w':=by
 cases q with
 |true=>
  have HD:Hid (a++⟨#[63]⟩++r=⟨(jbz a true r).toArray⟩):=by
   apply zIz
   show toL (a++⟨#[63]⟩++r)=toL a++63::toL r
   simp[toL]
  have hd1:(⟨#[63]⟩:ByteArray).size=1:=rfl
  go_enter Tryz.func61,Tryz.ntmps61
  go_wp2
  go_ret
  exact ⟨zUz HD.out,(Below.refl _ _).alloc (Nat.le_refl _) _⟩
 |false=>
  have HD:Hid (a=⟨(jbz a false r).toArray⟩):=zIz rfl
  go_enter Tryz.func61,Tryz.ntmps61
  go_wp2
  go_ret
  exact ⟨zUz HD.out,(Below.refl _ _).alloc (Nat.le_refl _) _⟩
def xRz(x:Int):ByteArray:=⟨(x1z x.toNat).toArray⟩
theorem jXz(x:Int):(xRz x).size≤5:=by
 show (x1z x.toNat).toArray.size≤5
 rw[List.size_toArray]
 unfold x1z
 split
 ·simp
 split
 ·simp
 split
 ·simp
 split<;>simp
theorem zmsz{x:Int}(h0:10≤x)(h1:x<100000):xRz x=xRz (x/10)++digT (x%10).toNat:=by
 apply zIz
 show x1z x.toNat=toL (xRz (x/10)++digT (x%10).toNat)
 rw[zaPz (by omega) (by omega),show x.toNat/10=(x/10).toNat by omega,show x.toNat%10=(x%10).toNat by omega]
 simp[toL,xRz,digT,dgU]
theorem zmtz(x:Int)(h0:10≤x)(h1:x<100000)(h: ∀W,Calls Tryz.prog 119 #[.int .i64 (x/10)] W fun e w'=>e=.returned (.string (xRz (x/10)))∧Below W.heap.size W w')(w:World):
  Calls Tryz.prog 119 #[.int .i64 x] w fun e w'=>e=.returned (.string (xRz x))∧Below w.heap.size w w':=
 zhoz x w _ _ h0 h1 (jXz _) h (zmsz h0 h1)
theorem zgOz(x:Int)(h0:0≤x)(h1:x<10)(w:World):Calls Tryz.prog 119 #[.int .i64 x] w fun e w'=>e=.returned (.string (xRz x))∧Below w.heap.size w w':=by
 have e:xRz x=xIz x:=by
  unfold xRz xIz x1z zGz
  rw[if_pos (by omega),if_pos (by omega)]
  rfl
 rw[e]
 exact zb6z x w h0 h1
theorem zikz: ∀(d:Nat) (x:Int),0≤x→x<10^(d+1)→x<100000→ ∀w,Calls Tryz.prog 119 #[.int .i64 x] w fun e w'=>e=.returned (.string (xRz x))∧Below w.heap.size w w'
 |0,x,h0,h1,_,w=>zgOz x h0 (by simpa using h1) w
 |d+1,x,h0,h1,h2,w=>by
  by_cases h:x<10
  ·exact zgOz x h0 h w
  refine zmtz x (by omega) h2 (fun W=>zikz d (x/10) (by omega) ?_ (by omega) W) w
  have:(10:Int)^(d+1+1)=10*10^(d+1):=by rw[Int.pow_succ,Int.mul_comm]
  omega
theorem zjrz(x:Int)(w:World)(h0:0≤x)(h1:x<100000):Calls Tryz.prog 119 #[.int .i64 x] w fun e w'=>e=.returned (.string (xRz x))∧Below w.heap.size w w':=
 zikz 4 x h0 (by simpa using h1) h1 w
def xdz(s:Int)(H:ByteArray)(p:Int):List UInt8:=vvz s++47::47::(toL H++xoz s p)
theorem zckz(s:Int):(⟨(vvz s).toArray⟩:ByteArray).size≤6:=by
 show (vvz s).toArray.size≤6
 rw[List.size_toArray]
 unfold vvz
 split<;>decide
theorem zmuz(s k n p:Int)(nm a r:ByteArray)(q:Bool)(x0 x1 x2 x3 x4 x5 x6 x7:Int)(w:World)(hs:nm.size≤1048576)(hp0:0≤p)(hp1:p<100000):
  Calls Tryz.prog 60 #[.agg #[.int .i64 s,.int .i64 k,.string nm,.int .i64 n,.int .i64 x0,.int .i64 x1,.int .i64 x2,.int .i64 x3,.int .i64 x4,.int .i64 x5,.int .i64 x6,.int .i64 x7,.int .i64 p,.string a,.bool q,.string r]] w fun e w'=>e=.returned (.string ⟨(xdz s (hTx ⟨k,nm,n,[x0,x1,x2,x3,x4,x5,x6,x7]⟩) p).toArray⟩)∧Below w.heap.size w w':=by
 have CS:Hid (∀W,CS 66 #[.int .i64 s] W (.string ⟨(vvz s).toArray⟩)):=fun W=>zmrz s W
 have CH:Hid (∀W,CB 118 #[.agg #[.int .i64 k,.string nm,.int .i64 n,.int .i64 x0,.int .i64 x1,.int .i64 x2,.int .i64 x3,.int .i64 x4,.int .i64 x5,.int .i64 x6,.int .i64 x7]] W (.string (hTx ⟨k,nm,n,[x0,x1,x2,x3,x4,x5,x6,x7]⟩))):=fun W=>zd5z k n nm x0 x1 x2 x3 x4 x5 x6 x7 W hs
 have CD:Hid (∀W,Calls Tryz.prog 37 #[.int .i64 s] W fun e w'=>e=.returned (.int .i64 (zSz s))∧W=w'):=fun W=>zbtz s W
 have CT:Hid (∀W,CB 119 #[.int .i64 p] W (.string (xRz p))):=fun W=>zjrz p W hp0 hp1
 have hts:=zbYz (k:=k) (n:=n) (s:=nm) (x0:=x0) (x1:=x1) (x2:=x2) (x3:=x3) (x4:=x4) (x5:=x5) (x6:=x6) (x7:=x7) hs
 have hss:=zckz s
 have hds:=jXz p
 generalize hTx ⟨k,nm,n,[x0,x1,x2,x3,x4,x5,x6,x7]⟩=T at CH hts⊢
 have H0:Hid (xoz s p=[]→(⟨(vvz s).toArray⟩:ByteArray)++⟨#[47,47]⟩++T=⟨(xdz s T p).toArray⟩):=fun h=>by
  apply zIz
  show toL _=xdz s T p
  unfold xdz
  rw[h]
  simp[toL]
 have H1:Hid (xoz s p=58::x1z p.toNat→(⟨(vvz s).toArray⟩:ByteArray)++⟨#[47,47]⟩++T++⟨#[58]⟩++xRz p=⟨(xdz s T p).toArray⟩):=fun h=>by
  apply zIz
  show toL _=xdz s T p
  unfold xdz
  rw[h]
  simp[toL,xRz]
 have HP:Hid ((p=zSz s→xoz s p=[])∧(¬p=zSz s→xoz s p=58::x1z p.toNat)):=by
  unfold xoz
  exact ⟨fun h=>if_pos h,fun h=>if_neg h⟩
 generalize (⟨(vvz s).toArray⟩:ByteArray)=S at CS hss H0 H1
 generalize xRz p=D at CT hds H1
 generalize (⟨(xdz s T p).toArray⟩:ByteArray)=Z at H0 H1⊢
 have HDP:Hid ((p=zSz s)∨ ¬(p=zSz s)):=Decidable.em _
 generalize zSz s=dp at CD HP HDP
 generalize xoz s p=pt at H0 H1 HP
 obtain ⟨O,hO⟩: ∃O,O=w.alloc (.cells #[.int .i64 s,.int .i64 k,.string nm,.int .i64 n,.int .i64 x0,.int .i64 x1,.int .i64 x2,.int .i64 x3,.int .i64 x4,.int .i64 x5,.int .i64 x6,.int .i64 x7,.int .i64 p,.string a,.bool q,.string r] 28):=⟨_,rfl⟩
 have HU:Hid (UAt O w.heap.size (zqz s k nm n x0 x1 x2 x3 x4 x5 x6 x7 p a q r)):=by
  rw[hO]
  exact UAt.new w _ _
 have HB:Hid (Below w.heap.size w O):=by
  rw[hO]
  exact (Below.refl _ w).alloc (Nat.le_refl _) _
 go_enter Tryz.func60,Tryz.ntmps60
 go_upto_region 1 with fail
 rw[←hO]
 clear hO
 go_cut [3] (fun v wx=>v=.string (S++⟨#[47,47]⟩++T)∧Hid (UAt wx w.heap.size (zqz s k nm n x0 x1 x2 x3 x4 x5 x6 x7 p a q r))∧Hid (Below w.heap.size w wx))
 case first=>
  have hu:=HU.out.1
  have c0:=hu 0 _ rfl
  have c1:=hu 1 _ rfl
  have c2:=hu 2 _ rfl
  have c3:=hu 3 _ rfl
  have c4:=hu 4 _ rfl
  have c5:=hu 5 _ rfl
  have c6:=hu 6 _ rfl
  have c7:=hu 7 _ rfl
  have c8:=hu 8 _ rfl
  have c9:=hu 9 _ rfl
  have c10:=hu 10 _ rfl
  have c11:=hu 11 _ rfl
  clear hu
  have HUD:Hid (UAt O.drew w.heap.size (zqz s k nm n x0 x1 x2 x3 x4 x5 x6 x7 p a q r)):=HU.out
  have HBD:Hid (Below w.heap.size w O.drew):=HB.out.drew
  go_region_with (first|(go_at_call 66;refine (CS.out _).mono ?_;rintro e wq ⟨rfl,rfl⟩)|(go_at_call 118;refine (CH.out _).mono ?_;rintro e wq ⟨rfl,hbq⟩;have HUQ:Hid (UAt wq w.heap.size (zqz s k nm n x0 x1 x2 x3 x4 x5 x6 x7 p a q r)):=HUD.out.below hbq;have HBQ:Hid (Below w.heap.size w wq):=HBD.out.trans (hbq.mono HBD.out.size);have g0:=HUQ.out.1 0 _ rfl;clear hbq))
  all_goals go_wp2_with fail
  all_goals go_meet
  all_goals exact ⟨rfl,HUQ,HBQ⟩
 obtain ⟨rfl,HU2,HB2⟩:=hcut
 clear HU HB CS CH
 have hd2:(⟨#[47,47]⟩:ByteArray).size=2:=rfl
 have hs2:(S++⟨#[47,47]⟩++T).size≤1048584:=by rw[ByteArray.size_append,ByteArray.size_append,hd2];omega
 generalize S++⟨#[47,47]⟩++T=S2 at hs2 H0 H1⊢
 clear hts hss hd2 hs
 have c0:=HU2.out.1 0 _ rfl
 have c12:=HU2.out.1 12 _ rfl
 go_upto_region 2 with fail
 have HUD:Hid (UAt wc.drew w.heap.size (zqz s k nm n x0 x1 x2 x3 x4 x5 x6 x7 p a q r)):=HU2.out
 have HBD:Hid (Below w.heap.size w wc.drew):=HB2.out.drew
 go_cut [17] (fun v wx=>v=.bool (p !=dp)∧Hid (UAt wx w.heap.size (zqz s k nm n x0 x1 x2 x3 x4 x5 x6 x7 p a q r))∧Hid (Below w.heap.size w wx))
 case first=>
  go_region_with (go_at_call 37;refine (CD.out _).mono ?_;rintro e wq ⟨rfl,rfl⟩)
  all_goals go_wp2_with fail
  all_goals go_meet
  all_goals exact ⟨rfl,HUD,HBD⟩
 obtain ⟨rfl,HU3,HB3⟩:=hcut
 clear HUD HBD HU2 HB2 c0 c12 CD
 rcases HDP.out with h|h
 ·have hq:(p !=dp)=false:=by rw[h];exact bne_self_eq_false _
  have HZ:Hid (S2=Z):=H0.out (HP.out.1 h)
  rw[hq]
  clear H0 H1 HP hq HDP h CT
  go_wp2
  go_ret
  exact ⟨zUz HZ.out,HB3.out⟩
 have hq:(p !=dp)=true:=bne_iff_ne.2 h
 have HZ:Hid (S2++⟨#[58]⟩++D=Z):=H1.out (HP.out.2 h)
 rw[hq]
 have hd1:(⟨#[58]⟩:ByteArray).size=1:=rfl
 have c12:=HU3.out.1 12 _ rfl
 clear H0 H1 HP hq HDP h
 go_wp2_with fail
 refine (CT.out _).mono ?_
 rintro e wd ⟨rfl,bd⟩
 have BD:Below w.heap.size w wd:=HB3.out.trans (bd.mono HB3.out.size)
 clear bd c12
 go_wp2
 go_ret
 exact ⟨zUz HZ.out,BD⟩
def ze3z(C:Nat)(W W':World):Prop:=(∀B vs,B≠C→UAt W B vs→UAt W' B vs)∧ ∀m w0,m≤C→Below m w0 W→Below m w0 W'
theorem UAt.range{W:World}{B:Nat}{vs:List Value}(h:UAt W B vs)(off:Nat)(cs:List Value)(hs: ∀j v,cs[j]? =some v→vs[off+j]? =some v):W.rangeAt B off cs:=fun j v hv=>h.1 (off+j) v (hs j v hv)
theorem UAt.there{W:World}{B:Nat}{vs:List Value}(h:UAt W B vs)(off n:Nat)(hn:off+n≤vs.length):W.there B off n:=fun j hj=>by
 have e:=h.1 (off+j) _ (List.getElem?_eq_getElem (show off+j<vs.length by omega))
 exact ⟨by rw[e];rfl,h.2.1 _⟩
theorem xrz{C:Nat}: ∀(cs:List Value) (off:Nat) (W:World),ze3z C W (W.setCells C off cs)
 |[],_,_=>⟨fun _ _ _ h=>h,fun _ _ _ h=>h⟩
 |v::cs,off,W=>by
  have h:=xrz (C:=C) cs (off+1) (W.setCell ⟨C,off,none⟩ v)
  refine ⟨fun B vs hne hU=> ?_,fun m w0 hm hb=> ?_⟩
  ·exact h.1 B vs hne (hU.other hne off v)
  exact h.2 m w0 hm (hb.setCell (p:=⟨C,off,none⟩) hm v)
theorem zbZz{C:Nat}: ∀(cs:List Value) (off:Nat) (W:World) (vs:List Value),off+cs.length≤vs.length→UAt W C vs→UAt (W.setCells C off cs) C (vs.take off++(cs++vs.drop (off+cs.length)))
 |[],off,W,vs,_,h=>by
  have e:vs.take off++([]++vs.drop (off+([]:List Value).length))=vs:=by simp
  rw[e]
  exact h
 |v::cs,off,W,vs,hl,h=>by
  have hl':off+1+cs.length≤vs.length:=by simp at hl;omega
  have h1:=zbZz (C:=C) cs (off+1) (W.setCell ⟨C,off,none⟩ v) (vs.set off v) (by rw[List.length_set];exact hl') (h.set off (by omega) v)
  have e:(vs.set off v).take (off+1)++(cs++(vs.set off v).drop (off+1+cs.length))=vs.take off++(v::cs++vs.drop (off+(v::cs).length)):=by
   rw[List.take_succ_eq_append_getElem (by rw[List.length_set];omega),List.getElem_set_self,List.take_set_of_le (Nat.le_refl _),List.drop_set_of_lt (by omega),List.length_cons,show off+1+cs.length=off+(cs.length+1) by omega]
   simp
  rw[e]at h1
  exact h1
theorem zilz{P:Program}{ops:Array Oper}{rest:List Oper}{o:Oper}{a:Act}{W:World}{Q:Exit→Act→World→Prop}(hgd:o.guard=none)(ty:TypeId)(x:Operand)(ho:o.op=.load ty x)
  (B off:Nat) (hx:a.eval x=.pointer (some ⟨B,off,none⟩)) (vs cs:List Value) (hU:UAt W B vs) (hs: ∀j v,cs[j]? =some v→vs[off+j]? =some v)
  (d:TypeDesc) (hu:P.underlying ty=some d) (hd:d.isRow=true) (hi:(P.info? ty).map (·.size)=some cs.length)
  (h:wpList P ops Q rest (a.put o.dst (.agg cs.toArray)) W):wpList P ops Q (o::rest) a W:=
 wpList_load_mid hgd ty x ho B off hx cs d (hU.range off cs hs) hu hd hi h
theorem zimz{P:Program}{ops:Array Oper}{rest:List Oper}{o:Oper}{a:Act}{W:World}{Q:Exit→Act→World→Prop}(hgd:o.guard=none)(ty:TypeId)(x y:Operand)(ho:o.op=.store ty x y)
  (C off:Nat) (cells:Array Value) (hx:a.eval x=.pointer (some ⟨C,off,none⟩)) (hy:a.eval y=.agg cells) (vs:List Value) (hU:UAt W C vs) (hl:off+cells.size≤vs.length)
  (hi:(P.info? ty).map (·.size)=some cells.size) (h1:cells.all (·.oneCell')=true)
  (h: ∀W',UAt W' C (vs.take off++(cells.toList++vs.drop (off+cells.size)))→ze3z C W W'→wpList P ops Q rest (a.put o.dst undef) W'):wpList P ops Q (o::rest) a W:=
 wpList_store_mid hgd ty x y ho C off cells hx hy (hU.there off _ hl) hi h1 (h _ (by
  have:=zbZz cells.toList off W vs (by simpa using hl) hU
  simpa using this) (xrz _ _ _))
theorem zQz(s k n p:Int)(nm a r:ByteArray)(q:Bool)(x0 x1 x2 x3 x4 x5 x6 x7:Int):(zqz s k nm n x0 x1 x2 x3 x4 x5 x6 x7 p a q r).toArray.all (·.oneCell')=true:=by simp[zqz,Value.oneCell']
theorem Tryz.infoUrl:(Tryz.prog.info? 28).map (·.size)=some 16:=by kernel_rfl
theorem Tryz.infoHost:(Tryz.prog.info? 26).map (·.size)=some 11:=by kernel_rfl
theorem Tryz.rowUrl: ∃d,Tryz.prog.underlying 28=some d∧d.isRow=true:=⟨_,Tryz.underlying28,rfl⟩
theorem Tryz.rowHost: ∃d,Tryz.prog.underlying 26=some d∧d.isRow=true:=⟨_,Tryz.underlying26,rfl⟩
theorem xGz{ops:Array Oper}{rest:List Oper}{o:Oper}{a:Act}{W:World}{Q:Exit→Act→World→Prop}{B:Nat}{vs:List Value}(hU:UAt W B vs)(hl:vs.length=16)(hgd:o.guard=none)(x:Operand)(ho:o.op=.load 28 x)
  (hx:a.eval x=.pointer (some ⟨B,0,none⟩)) (h:wpList Tryz.prog ops Q rest (a.put o.dst (.agg vs.toArray)) W):wpList Tryz.prog ops Q (o::rest) a W:=by
 obtain ⟨d,hd1,hd2⟩:=Tryz.rowUrl
 exact zilz hgd _ x ho B 0 hx vs vs hU (fun j v hv=>by rw[Nat.zero_add];exact hv) d hd1 hd2 (by rw[hl];exact Tryz.infoUrl) h
theorem y5z{ops:Array Oper}{rest:List Oper}{o:Oper}{a:Act}{W:World}{Q:Exit→Act→World→Prop}{C:Nat}{vs us:List Value}(hU:UAt W C vs)(hl:vs.length=16)(hm:us.length=16)(h1:us.toArray.all (·.oneCell')=true)(hgd:o.guard=none)(x y:Operand)(ho:o.op=.store 28 x y)
  (hx:a.eval x=.pointer (some ⟨C,0,none⟩)) (hy:a.eval y=.agg us.toArray) (h: ∀W',UAt W' C us→ze3z C W W'→wpList Tryz.prog ops Q rest (a.put o.dst undef) W'):wpList Tryz.prog ops Q (o::rest) a W:=
 zimz hgd _ x y ho C 0 us.toArray hx hy vs hU (by rw[List.size_toArray,hl,hm];decide) (by rw[List.size_toArray,hm];exact Tryz.infoUrl) h1 fun W' hU' hM=>h W' (by
  have e:vs.take 0++(us.toArray.toList++vs.drop (0+us.toArray.size))=us:=by rw[List.size_toArray,hm,List.drop_of_length_le (by omega)];simp
  rw[e]at hU'
  exact hU') hM
theorem zfyz{ops:Array Oper}{rest:List Oper}{o:Oper}{a:Act}{W:World}{Q:Exit→Act→World→Prop}{B:Nat}{vs:List Value}(hU:UAt W B vs)(off:Nat)(cs:List Value)(hs: ∀j v,cs[j]? =some v→vs[off+j]? =some v)(hl:cs.length=11)(hgd:o.guard=none)(x:Operand)(ho:o.op=.load 26 x)
  (hx:a.eval x=.pointer (some ⟨B,off,none⟩)) (h:wpList Tryz.prog ops Q rest (a.put o.dst (.agg cs.toArray)) W):wpList Tryz.prog ops Q (o::rest) a W:=by
 obtain ⟨d,hd1,hd2⟩:=Tryz.rowHost
 exact zilz hgd _ x ho B off hx vs cs hU hs d hd1 hd2 (by rw[hl];exact Tryz.infoHost) h
theorem jyz{ops:Array Oper}{rest:List Oper}{o:Oper}{a:Act}{W:World}{Q:Exit→Act→World→Prop}{C:Nat}{vs us:List Value}(hU:UAt W C vs)(off:Nat)(hl:off+11≤vs.length)(hm:us.length=11)(h1:us.toArray.all (·.oneCell')=true)(hgd:o.guard=none)(x y:Operand)(ho:o.op=.store 26 x y)
  (hx:a.eval x=.pointer (some ⟨C,off,none⟩)) (hy:a.eval y=.agg us.toArray) (h: ∀W',UAt W' C (vs.take off++(us++vs.drop (off+11)))→ze3z C W W'→wpList Tryz.prog ops Q rest (a.put o.dst undef) W'):wpList Tryz.prog ops Q (o::rest) a W:=
 zimz hgd _ x y ho C off us.toArray hx hy vs hU (by rw[List.size_toArray,hm];exact hl) (by rw[List.size_toArray,hm];exact Tryz.infoHost) h1 fun W' hU' hM=>h W' (by
  rw[List.size_toArray,hm]at hU'
  exact hU') hM
theorem vAz(k n:Int)(s:ByteArray)(x0 x1 x2 x3 x4 x5 x6 x7:Int):(ymz k s n x0 x1 x2 x3 x4 x5 x6 x7).toArray.all (·.oneCell')=true:=by simp[ymz,Value.oneCell']
theorem zlpz{fn:Func}{i:Tmp}(h:fn.results= #[.cell i 28])(tmps:Array Value)(W:World)(B:Nat)(vs:List Value)(hl:vs.length=16)
  (hp:tmps[i]?.getD undef=.pointer (some ⟨B,0,none⟩)) (ha:UAt W B vs):(results fn tmps).run Tryz.prog W=.ok (.agg vs.toArray) W:=by
 obtain ⟨d,hd1,hd2⟩:=Tryz.rowUrl
 have hr:=run_loadVar_mid (P:=Tryz.prog) W B 0 28 vs d (ha.range 0 vs (fun j v hv=>by rw[Nat.zero_add];exact hv)) hd1 hd2 (by rw[hl];exact Tryz.infoUrl)
 simp[results,h,hp,asAddr,hr]
theorem yez{fn:Func}{i j:Tmp}(h:fn.results= #[.cell i 28,.tmp j])(tmps:Array Value)(W:World)(B:Nat)(v:Value)(vs:List Value)(hl:vs.length=16)
  (hp:tmps[i]?.getD undef=.pointer (some ⟨B,0,none⟩)) (hq:tmps[j]?.getD undef=v) (ha:UAt W B vs):(results fn tmps).run Tryz.prog W=.ok (.tuple #[.agg vs.toArray,v]) W:=by
 obtain ⟨d,hd1,hd2⟩:=Tryz.rowUrl
 have hr:=run_loadVar_mid (P:=Tryz.prog) W B 0 28 vs d (ha.range 0 vs (fun j v hv=>by rw[Nat.zero_add];exact hv)) hd1 hd2 (by rw[hl];exact Tryz.infoUrl)
 simp[results,h,hp,hq,asAddr,hr]
end Go.Proofs.YtgcbaphbiaimoaaGreatDoor
