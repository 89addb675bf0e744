/- UrlImpl3, HostSpec3, HostSpec4, UrlParse. -/
import Derived.Test.YtgcbaphbiaimoaaGreatDoorQU31
import Derived.Test.YtgcbaphbiaimoaaGreatDoorQU32
import Derived.Deep.CutBlock
set_option maxHeartbeats 8000000
set_option maxRecDepth 100000
namespace Go.Proofs.YtgcbaphbiaimoaaGreatDoor
open Go.RowKit
attribute [local go_sem↓] Go.wp_at_zero Go.wp_at_succ
theorem zlVz(c:UInt8):([47,92,63]:List UInt8).contains c= !yxz c:=by
 have key: ∀n:Nat,n<256→([47,92,63]:List UInt8).contains (UInt8.ofNat n)= !yxz (UInt8.ofNat n):=by decide+kernel
 have h:=key c.toNat c.toNat_lt
 simpa using h
theorem zebz(s:ByteArray)(w:World)(hs:s.size≤1048576):
  Calls Tryz.prog 100 #[.string s] w fun e w'=>e=.returned (.tuple #[.string ⟨(s.data.toList.takeWhile yxz).toArray⟩,.string ⟨(s.data.toList.dropWhile yxz).toArray⟩])∧Below w.heap.size w w':=by
 have hsl:s.data.toList.length=s.size:=by simp
 have CA:Hid (CB 149 #[.string s,.string ⟨#[47,92,63]⟩] w (.int .i64 (Lib.indexAny s.data.toList [47,92,63]))):=zrZz s w hs
 have hx:=zhjz [47,92,63] yxz zlVz s.data.toList
 obtain ⟨k,hk,hz,ht,hd⟩: ∃k:Nat,k≤s.size∧(Lib.indexAny s.data.toList [47,92,63]=(k:Int)∨(Lib.indexAny s.data.toList [47,92,63]= -1∧k=s.size))∧s.extract 0 k=⟨(s.data.toList.takeWhile yxz).toArray⟩∧s.extract k s.size=⟨(s.data.toList.dropWhile yxz).toArray⟩:=by
  have hle:(s.data.toList.takeWhile yxz).length≤s.size:=by rw[←hsl];exact (List.takeWhile_prefix _).length_le
  obtain ⟨h1,h2⟩:=zlqz yxz s.data.toList
  cases ha:s.data.toList.all yxz with
  |true=>
   obtain ⟨h3,h4⟩:=zhkz yxz _ ha
   refine ⟨s.size,Nat.le_refl _,.inr ⟨by rw[hx,ha];rfl,rfl⟩,?_,?_⟩
   ·apply z3z
    show (s.extract 0 s.size).data.toList=_
    rw[jvz,h3,List.take_of_length_le (by omega)]
    rfl
   apply z3z
   show (s.extract s.size s.size).data.toList=_
   rw[jwz,h4,List.drop_of_length_le (by omega)]
   rfl
  |false=>
   refine ⟨(s.data.toList.takeWhile yxz).length,hle,.inl (by rw[hx,ha];rfl),?_,?_⟩
   ·apply z3z
    show (s.extract 0 _).data.toList=_
    rw[jvz,h1]
    rfl
   apply z3z
   show (s.extract _ s.size).data.toList=_
   rw[jwz,h2]
   rfl
 clear hx
 have HT:Hid (s.extract 0 k=⟨(s.data.toList.takeWhile yxz).toArray⟩):=ht
 have HD:Hid (s.extract k s.size=⟨(s.data.toList.dropWhile yxz).toArray⟩):=hd
 generalize (⟨(s.data.toList.takeWhile yxz).toArray⟩:ByteArray)=X at HT⊢
 generalize (⟨(s.data.toList.dropWhile yxz).toArray⟩:ByteArray)=Y at HD⊢
 generalize Lib.indexAny s.data.toList [47,92,63]=z at CA hz
 clear ht hd hsl
 have hki:(k:Int)≤(s.size:Int):=by omega
 have hk0:(0:Int)≤(k:Int):=Int.natCast_nonneg _
 rcases hz with rfl|⟨rfl,hks⟩
 ·go_enter Tryz.func100,Tryz.ntmps100
  go_wp2_with fail
  refine CA.out.mono ?_
  rintro e wa ⟨rfl,ba⟩
  go_wp2_with fail
  go_quiet (fail)
  go_wp2
  go_ret2
  exact ⟨by rw[←HT.out,←HD.out];rfl,ba.trans ⟨rfl,rfl,rfl,Nat.le_refl _,fun _ _=>rfl⟩⟩
 subst hks
 have HX:Hid (s.extract 0 s.size=s):=by
  apply z3z
  show (s.extract 0 s.size).data.toList=_
  rw[jvz,List.take_of_length_le (by simp)]
  rfl
 have HY:Hid (s.extract s.size s.size=ByteArray.empty):=by
  apply z3z
  show (s.extract s.size s.size).data.toList=_
  rw[jwz,List.drop_of_length_le (by simp)]
  rfl
 go_enter Tryz.func100,Tryz.ntmps100
 go_wp2_with fail
 refine CA.out.mono ?_
 rintro e wa ⟨rfl,ba⟩
 go_wp2_with fail
 go_quiet (fail)
 go_wp2
 go_ret2
 exact ⟨by rw[←HT.out,←HD.out,HX.out,HY.out];rfl,ba.trans ⟨rfl,rfl,rfl,Nat.le_refl _,fun _ _=>rfl⟩⟩
def zcjz:HV:=⟨0,⟨#[]⟩,0,xmz⟩
def vsz(s:Int)(A:ByteArray):Int×HV×Int:=if A.data.toList.contains 64=true then (3,zcjz,0)
 else if 1≤yYz s (poB A)∧yYz s (poB A)≤65535 then (if rC (znz ⟨(hoB A).toArray⟩)=0 then (0,rV (znz ⟨(hoB A).toArray⟩),yYz s (poB A))else (4,zcjz,0))else (5,zcjz,0)
def errV(c:Int):Value:=if c=0 then .nilIface else noV c
theorem zm4z{c:Int}(h:c≠0):errV c=.iface 69 (.agg #[.int .i64 c]):=by unfold errV;rw[if_neg h];rfl
theorem zr5z{s:Int}(hs:s=1∨s=2)(A:ByteArray)(rest:List UInt8):zelz s A.data.toList rest=if (vsz s A).1=0 then fitU (zb5z s (vsz s A).2.1 (vsz s A).2.2 rest)else ((vsz s A).1,vlz):=by
 unfold zelz vsz
 by_cases h1:A.data.toList.contains 64=true
 ·rw[if_pos h1,if_pos h1];rfl
 rw[if_neg h1,if_neg h1,zrEz hs]
 by_cases h2:1≤yYz s (poB A)∧yYz s (poB A)≤65535
 ·rw[if_pos h2,if_pos h2]
  unfold zb6z
  by_cases h3:rC (znz ⟨(hoB A).toArray⟩)=0
  ·rw[if_pos h3,if_pos h3];rfl
  rw[if_neg h3,if_neg h3];rfl
 rw[if_neg h2,if_neg h2];rfl
theorem zs6z{s:Int}{A:ByteArray}(h:(vsz s A).1=0):hOk (vsz s A).2.1=true∧1≤(vsz s A).2.2∧(vsz s A).2.2≤65535:=by
 unfold vsz at h⊢
 by_cases h1:A.data.toList.contains 64=true
 ·rw[if_pos h1]at h;exact absurd h (by decide)
 rw[if_neg h1]at h⊢
 by_cases h2:1≤yYz s (poB A)∧yYz s (poB A)≤65535
 ·rw[if_pos h2]at h⊢
  by_cases h3:rC (znz ⟨(hoB A).toArray⟩)=0
  ·rw[if_pos h3]
   refine ⟨?_,h2⟩
   rcases zmyz ⟨(hoB A).toArray⟩with ⟨c,h4,h5,_⟩|⟨h4,_⟩
   ·rw[h4]at h3
    have:c=0:=h3
    omega
   exact h4
  rw[if_neg h3]at h;exact absurd h (by decide)
 rw[if_neg h2]at h;exact absurd h (by decide)
theorem zoez(s:Int)(A:ByteArray):(vsz s A).2.1.z.length=8:=by
 unfold vsz
 split
 ·rfl
 split
 ·split
  ·exact vbz _
  rfl
 rfl
theorem zofz(s:Int)(A:ByteArray): ∃(k n:Int) (nm:ByteArray) (x0 x1 x2 x3 x4 x5 x6 x7:Int),(vsz s A).2.1=⟨k,nm,n,[x0,x1,x2,x3,x4,x5,x6,x7]⟩:=by
 have h8:=zoez s A
 generalize (vsz s A).2.1=h at h8
 obtain ⟨k,nm,n,z⟩:=h
 match z,h8 with
 |[x0,x1,x2,x3,x4,x5,x6,x7],_=>exact ⟨k,n,nm,x0,x1,x2,x3,x4,x5,x6,x7,rfl⟩
theorem zs7z(A:ByteArray):(hoB A).length≤A.size:=by
 have hA:A.data.toList.length=A.size:=by simp
 obtain ⟨hf,_⟩:=zsnz A
 have h:=(List.takeWhile_prefix (fun x=>x !=58) (l:=A.data.toList.drop (frB A))).length_le
 rw[List.length_drop]at h
 unfold hoB upB
 rw[List.length_append,List.length_take]
 omega
theorem PU.moved{w:World}{row:List Value}{W W':World}{C:Nat}(h:PU w row W)(hC:w.heap.size<C)(hM:zbCz C W W'):PU w row W':=⟨hM.1 _ _ (by omega) h.1,hM.2 _ _ (by omega) h.2⟩
theorem juz{fn:Func}{i j l:Tmp}(h:fn.results= #[.cell i 26,.tmp j,.tmp l])(tmps:Array Value)(W:World)(B:Nat)(v1 v2:Value)(vs:List Value)(hl:vs.length=11)
  (hp:tmps[i]?.getD undef=.pointer (some ⟨B,0,none⟩)) (hq:tmps[j]?.getD undef=v1) (hr:tmps[l]?.getD undef=v2) (ha:UAt W B vs):(results fn tmps).run Tryz.prog W=.ok (.tuple #[.agg vs.toArray,v1,v2]) W:=by
 obtain ⟨d,hd1,hd2⟩:=Tryz.rowHost
 have hrun:=run_loadVar_mid (P:=Tryz.prog) W B 0 26 vs d (ha.range 0 vs (fun j v hv=>by rw[Nat.zero_add];exact hv)) hd1 hd2 (by rw[hl];exact Tryz.infoHost)
 simp[results,h,hp,hq,hr,asAddr,hrun]
def zeuz:List Value:=yvz 0 ⟨#[]⟩ 0 0 0 0 0 0 0 0 0
theorem zdHz(A:ByteArray)(s:Int)(w:World)(hA:A.size≤100000)(hs:s=1∨s=2)(hT:Lib.Utf8Tabs 12 13 w)(hP:Pow w)(hD:zHz w)(hM:MaxI w):
  Calls Tryz.prog 101 #[.string A,.int .i64 s] w fun e w'=>e=.returned (.tuple #[xcz (vsz s A).2.1,.int .i64 (vsz s A).2.2,errV (vsz s A).1])∧Below w.heap.size w w':=by
 have CC:Hid (∀W,CS 150 #[.string A,.string ⟨#[64]⟩] W (.bool (A.data.toList.contains 64))):=fun W=>by
  have h:=Tryz.strings_Contains_one A 64 W
  rw[←Lib.contains_iff_indexByte]at h
  exact h.mono fun e w' h=>⟨h.1,h.2.symm⟩
 have HR:Hid (vsz s A=if A.data.toList.contains 64=true then (3,zcjz,0)else if 1≤yYz s (poB A)∧yYz s (poB A)≤65535 then (if rC (znz ⟨(hoB A).toArray⟩)=0 then (0,rV (znz ⟨(hoB A).toArray⟩),yYz s (poB A))else (4,zcjz,0))else (5,zcjz,0)):=rfl
 have CK:Hid (∀W,Below w.heap.size w W→CB 151 #[.string A] W (.tuple #[.string ⟨(hoB A).toArray⟩,.string ⟨(poB A).toArray⟩])):=fun W hb=>zkdz A W (by omega) (vzz hM hb)
 have CR:Hid (∀W,CS 152 #[.string ⟨(poB A).toArray⟩,.int .i64 s] W (if 1≤yYz s (poB A)∧yYz s (poB A)≤65535 then .tuple #[.int .i64 (yYz s (poB A)),.nilIface]else .tuple #[.int .i64 0,.iface 69 (.agg #[.int .i64 5])])):=fun W=>ziCz ⟨(poB A).toArray⟩ s W hs
 have hho:(⟨(hoB A).toArray⟩:ByteArray).size≤100000:=by rw[yMz];have:=zs7z A;omega
 have CH:Hid (∀W,Below w.heap.size w W→CB 153 #[.string ⟨(hoB A).toArray⟩] W (.tuple #[xcz (rV (znz ⟨(hoB A).toArray⟩)),.int .i64 (rC (znz ⟨(hoB A).toArray⟩))])):=fun W hb=>zgBz _ W (by omega) (zWz hT hb) (ybz hP hb) (zuz hD hb) (vzz hM hb)
 generalize vsz s A=R at HR⊢
 generalize (⟨(hoB A).toArray⟩:ByteArray)=Ho at HR CK CH hho
 generalize yYz s (poB A)=pn at HR CR
 generalize (⟨(poB A).toArray⟩:ByteArray)=Po at CK CR
 generalize A.data.toList.contains 64=b at CC HR
 clear hT hP hD hM
 obtain ⟨O,hO⟩: ∃O,O=w.alloc (.cells #[.int .i64 0,.string ⟨#[]⟩,.int .i64 0,.int .i64 0,.int .i64 0,.int .i64 0,.int .i64 0,.int .i64 0,.int .i64 0,.int .i64 0,.int .i64 0] 26):=⟨_,rfl⟩
 have HU:Hid (PU w zeuz O):=by
  rw[hO]
  exact PU.new w _ _
 go_enter Tryz.func101,Tryz.ntmps101
 go_upto_region 1 with fail
 rw[←hO]
 clear hO
 go_wp2_with fail
 refine (CC.out _).mono ?_
 rintro e w' ⟨rfl,rfl⟩
 clear CC
 cases b with
 |true=>
  have HZ:Hid (R=(3,zcjz,0)):=HR.out
  have HUU:=HU
  clear HR
  go_wp2_with (refine zacz HUU.out.1 0 (Nat.le_refl 11) (us:=zeuz) rfl (v8z ..) rfl _ _ rfl rfl rfl ?_;intro w9 HU9 HM9)
  refine bodyPost_ret (juz rfl _ _ w.heap.size (.int .i64 0) (.iface 69 (.agg #[.int .i64 3])) _ rfl rfl rfl rfl HU9) rfl ⟨by rw[HZ.out];rfl,HM9.2 _ _ (Nat.le_refl _) HUU.out.2⟩
 |false=>
  go_wp2_with fail
  refine (CK.out _ HU.out.2).mono ?_
  rintro e w1 ⟨rfl,hb1⟩
  have HU1:Hid (PU w zeuz w1):=HU.out.later hb1
  clear hb1 HU CK
  by_cases hp:1≤pn∧pn≤65535
  ·have HR2:Hid (R=if rC (znz Ho)=0 then (0,rV (znz Ho),pn)else (4,zcjz,0)):=by
    show _=_
    rw[HR.out,if_neg (by decide),if_pos hp]
   rw[if_pos hp]at CR
   clear HR
   go_wp2_with fail
   refine (CR.out _).mono ?_
   rintro e w' ⟨rfl,rfl⟩
   clear CR
   obtain ⟨k,n,nm,x0,x1,x2,x3,x4,x5,x6,x7,hhv⟩: ∃(k n:Int) (nm:ByteArray) (x0 x1 x2 x3 x4 x5 x6 x7:Int),rV (znz Ho)=⟨k,nm,n,[x0,x1,x2,x3,x4,x5,x6,x7]⟩:=by
    have h8:=vbz Ho
    generalize rV (znz Ho)=h at h8
    obtain ⟨k,nm,n,z⟩:=h
    match z,h8 with
    |[x0,x1,x2,x3,x4,x5,x6,x7],_=>exact ⟨k,n,nm,x0,x1,x2,x3,x4,x5,x6,x7,rfl⟩
   have CH2:Hid (∀W,Below w.heap.size w W→CB 153 #[.string Ho] W (.tuple #[.agg (yvz k nm n x0 x1 x2 x3 x4 x5 x6 x7).toArray,.int .i64 (rC (znz Ho))])):=fun W hb=>by
    have h:=CH.out W hb
    rw[hhv]at h
    exact h
   rw[hhv]at HR2
   clear CH hhv
   generalize rC (znz Ho)=rc at HR2 CH2
   go_wp2_with fail
   refine (CH2.out _ HU1.out.2).mono ?_
   rintro e w2 ⟨rfl,hb2⟩
   have HU2:Hid (PU w zeuz w2):=HU1.out.later hb2
   clear hb2 HU1 CH2
   have HU2a:Hid (PU w zeuz (w2.alloc (.cells #[.int .i64 0,.string ⟨#[]⟩,.int .i64 0,.int .i64 0,.int .i64 0,.int .i64 0,.int .i64 0,.int .i64 0,.int .i64 0,.int .i64 0,.int .i64 0] 26))):=HU2.out.later ((Below.refl _ _).alloc (Nat.le_refl _) _)
   have hlt:w.heap.size<w2.heap.size:=HU2.out.1.2.2
   go_upto_region 8 with (refine zacz (UAt.new w2 _ _) 0 (Nat.le_refl 11) (us:=yvz k nm n x0 x1 x2 x3 x4 x5 x6 x7) rfl (v8z ..) rfl _ _ rfl rfl rfl ?_;intro w3 HUh HMh)
   have HU3:Hid (PU w zeuz w3):=HU2a.out.moved hlt HMh
   have HUH:Hid (UAt w3 w2.heap.size (yvz k nm n x0 x1 x2 x3 x4 x5 x6 x7)):=HUh
   clear HUh HMh HU2a HU2 hlt
   by_cases hr0:rc=0
   ·have HZ:Hid (R=(0,⟨k,nm,n,[x0,x1,x2,x3,x4,x5,x6,x7]⟩,pn)):=by show _=_;rw[HR2.out,if_pos hr0]
    subst hr0
    clear HR2
    go_wp2_with (first|(refine zrVz HUH.out 0 (yvz k nm n x0 x1 x2 x3 x4 x5 x6 x7) (fun j v hv=>by rw[Nat.zero_add];exact hv) rfl rfl _ rfl rfl ?_)|(refine zacz HU3.out.1 0 (Nat.le_refl 11) (us:=yvz k nm n x0 x1 x2 x3 x4 x5 x6 x7) rfl (v8z ..) rfl _ _ rfl rfl rfl ?_;intro w9 HU9 HM9))
    refine bodyPost_ret (juz rfl _ _ w.heap.size (.int .i64 pn) .nilIface _ rfl rfl rfl rfl HU9) rfl ⟨by rw[HZ.out];rfl,HM9.2 _ _ (Nat.le_refl _) HU3.out.2⟩
   have HZ:Hid (R=(4,zcjz,0)):=by show _=_;rw[HR2.out,if_neg hr0]
   have hrb:(rc !=0)=true:=bne_iff_ne.2 hr0
   have HUU:=HU3
   clear HR2 hr0
   go_wp2_with (refine zacz HUU.out.1 0 (Nat.le_refl 11) (us:=zeuz) rfl (v8z ..) rfl _ _ rfl rfl rfl ?_;intro w9 HU9 HM9)
   refine bodyPost_ret (juz rfl _ _ w.heap.size (.int .i64 0) (.iface 69 (.agg #[.int .i64 4])) _ rfl rfl rfl rfl HU9) rfl ⟨by rw[HZ.out];rfl,HM9.2 _ _ (Nat.le_refl _) HUU.out.2⟩
  have HZ:Hid (R=(5,zcjz,0)):=by
   show _=_
   rw[HR.out,if_neg (by decide),if_neg hp]
  rw[if_neg hp]at CR
  clear HR
  go_wp2_with fail
  refine (CR.out _).mono ?_
  rintro e w' ⟨rfl,rfl⟩
  clear CR
  have HUU:=HU1
  go_wp2_with (refine zacz HUU.out.1 0 (Nat.le_refl 11) (us:=zeuz) rfl (v8z ..) rfl _ _ rfl rfl rfl ?_;intro w9 HU9 HM9)
  refine bodyPost_ret (juz rfl _ _ w.heap.size (.int .i64 0) (.iface 69 (.agg #[.int .i64 5])) _ rfl rfl rfl rfl HU9) rfl ⟨by rw[HZ.out];rfl,HM9.2 _ _ (Nat.le_refl _) HUU.out.2⟩
end Go.Proofs.YtgcbaphbiaimoaaGreatDoor
namespace Go.Proofs.YtgcbaphbiaimoaaGreatDoor
open Go.RowKit
def zaLz(W:World)(B:Nat):Prop:=
 W.cell? ⟨B,0,none⟩=some (.int .i64 0)∧W.cell? ⟨B,1,none⟩=some (.string ⟨#[]⟩)∧W.cell? ⟨B,2,none⟩=some (.int .i64 0)∧W.cell? ⟨B,3,none⟩=some (.int .i64 0)∧W.cell? ⟨B,4,none⟩=some (.int .i64 0)∧
 W.cell? ⟨B,5,none⟩=some (.int .i64 0)∧W.cell? ⟨B,6,none⟩=some (.int .i64 0)∧W.cell? ⟨B,7,none⟩=some (.int .i64 0)∧W.cell? ⟨B,8,none⟩=some (.int .i64 0)∧W.cell? ⟨B,9,none⟩=some (.int .i64 0)∧W.cell? ⟨B,10,none⟩=some (.int .i64 0)
def zqJz(w W:World):Prop:=zaLz W w.heap.size∧zaLz W (w.heap.size+1)∧ ∀j,W.frozen? ⟨w.heap.size,j,none⟩=false
theorem zsoz(w W:World)(t:TypeId)(hb:Below ((w.alloc (.cells #[.int .i64 0,.string ⟨#[]⟩,.int .i64 0,.int .i64 0,.int .i64 0,.int .i64 0,.int .i64 0,.int .i64 0,.int .i64 0,.int .i64 0,.int .i64 0] t)).alloc (.cells #[.int .i64 0,.string ⟨#[]⟩,.int .i64 0,.int .i64 0,.int .i64 0,.int .i64 0,.int .i64 0,.int .i64 0,.int .i64 0,.int .i64 0,.int .i64 0] t)).heap.size ((w.alloc (.cells #[.int .i64 0,.string ⟨#[]⟩,.int .i64 0,.int .i64 0,.int .i64 0,.int .i64 0,.int .i64 0,.int .i64 0,.int .i64 0,.int .i64 0,.int .i64 0] t)).alloc (.cells #[.int .i64 0,.string ⟨#[]⟩,.int .i64 0,.int .i64 0,.int .i64 0,.int .i64 0,.int .i64 0,.int .i64 0,.int .i64 0,.int .i64 0,.int .i64 0] t)) W):zqJz w W:=by
 have h1:=((Below.refl _ (w.alloc (.cells #[.int .i64 0,.string ⟨#[]⟩,.int .i64 0,.int .i64 0,.int .i64 0,.int .i64 0,.int .i64 0,.int .i64 0,.int .i64 0,.int .i64 0,.int .i64 0] t))).alloc (Nat.le_refl _) (.cells #[.int .i64 0,.string ⟨#[]⟩,.int .i64 0,.int .i64 0,.int .i64 0,.int .i64 0,.int .i64 0,.int .i64 0,.int .i64 0,.int .i64 0,.int .i64 0] t)).trans (hb.mono (by simp))
 have h2:=xgz _ W _ _ _ 0 0 0 0 0 0 0 0 t hb
 unfold yUz at h2
 simp only[show (w.alloc (.cells #[.int .i64 0,.string ⟨#[]⟩,.int .i64 0,.int .i64 0,.int .i64 0,.int .i64 0,.int .i64 0,.int .i64 0,.int .i64 0,.int .i64 0,.int .i64 0] t)).heap.size=w.heap.size+1 by simp]at h2
 exact ⟨xgz w W _ _ _ 0 0 0 0 0 0 0 0 t h1,h2,zenz w W _ t h1⟩
theorem zVz{W:World}{B:Nat}(h:zaLz W B):yIz W B (yvz 0 ⟨#[]⟩ 0 0 0 0 0 0 0 0 0):=by
 obtain ⟨c0,c1,c2,c3,c4,c5,c6,c7,c8,c9,c10⟩:=h
 intro j v hv
 match j,hv with
 |0,hv=>cases hv;exact c0
 |1,hv=>cases hv;exact c1
 |2,hv=>cases hv;exact c2
 |3,hv=>cases hv;exact c3
 |4,hv=>cases hv;exact c4
 |5,hv=>cases hv;exact c5
 |6,hv=>cases hv;exact c6
 |7,hv=>cases hv;exact c7
 |8,hv=>cases hv;exact c8
 |9,hv=>cases hv;exact c9
 |10,hv=>cases hv;exact c10
 |j+11,hv=>simp[yvz]at hv
theorem zqKz{s:ByteArray}(h:1<s.size):(s.extract 1 s.size).data.toList.getLast? =some (s[s.size-1]'(by omega)):=by
 rw[zyz,ynz s s.size (Nat.le_refl _),List.getLast?_drop,if_neg (by simp;omega)]
 exact zh9z s (by omega)
theorem zs8z{s:ByteArray}(h:1<s.size):(s.extract 1 s.size).data.toList.dropLast=(s.extract 1 (s.size-1)).data.toList:=by
 have hl:s.data.toList.length=s.size:=by simp
 rw[zyz,zyz,ynz s s.size (Nat.le_refl _),List.dropLast_eq_take,List.length_drop,hl,List.take_drop,show 1+(s.size-1-1)=s.size-1 by omega]
theorem nil_r{s:ByteArray}(h: ¬1<s.size):(s.extract 1 s.size).data.toList.getLast? =none:=by
 have e:(s.extract 1 s.size).data.toList=[]:=List.eq_nil_of_length_eq_zero (by simp;omega)
 rw[e]
 rfl
theorem zeWz{W:World}{B:Nat}{vs:List Value}(h:yIz W B vs){C:Nat}(hne:B≠C)(x0 x1 x2 x3 x4 x5 x6 x7:Int):yIz ((((((((W.setCell ⟨C,0,none⟩ (.int .i64 x0)).setCell ⟨C,1,none⟩ (.int .i64 x1)).setCell ⟨C,2,none⟩ (.int .i64 x2)).setCell ⟨C,3,none⟩ (.int .i64 x3)).setCell ⟨C,4,none⟩ (.int .i64 x4)).setCell ⟨C,5,none⟩ (.int .i64 x5)).setCell ⟨C,6,none⟩ (.int .i64 x6)).setCell ⟨C,7,none⟩ (.int .i64 x7)) B vs:=
 (((((((h.other hne 0 _).other hne 1 _).other hne 2 _).other hne 3 _).other hne 4 _).other hne 5 _).other hne 6 _).other hne 7 _
theorem zgjz(s:ByteArray)(w:World)(h0:s.size=0):
  Calls Tryz.prog 58 #[.string s] w fun e w'=>e=.returned (.tuple #[xcz (rV (znz s)),.int .i64 (rC (znz s))])∧Below w.heap.size w w':=by
 rw[zg9z h0]
 show Calls _ _ _ _ fun e w'=>e=.returned (.tuple #[.agg #[.int .i64 0,.string ⟨#[]⟩,.int .i64 0,.int .i64 0,.int .i64 0,.int .i64 0,.int .i64 0,.int .i64 0,.int .i64 0,.int .i64 0,.int .i64 0],.int .i64 1])∧Below w.heap.size w w'
 have hem:=ztz h0
 clear h0
 go_enter Tryz.func58,Tryz.ntmps58
 go_wp2_with fail
 go_returns
 exact ⟨rfl,by go_grown⟩
theorem zgkz(s:ByteArray)(w:World)(hs:s.size≤1048576)(hp:0<s.size)(h9: ¬s[0].toNat=91):
  Calls Tryz.prog 58 #[.string s] w fun e w'=>e=.returned (.tuple #[xcz (rV (znz s)),.int .i64 (rC (znz s))])∧Below w.heap.size w w':=by
 rw[zcsz hp h9]
 have hem:=zwz hp
 obtain ⟨d,hd⟩: ∃d:Nat,s[0].toNat=d:=⟨_,rfl⟩
 have q0:((d:Int)==91)=false:=beq_eq_false_iff_ne.2 (by omega)
 have hus:=Nat.le_trans (zjDz s) hs
 obtain ⟨O,hO⟩: ∃O,O=(w.alloc (.cells #[.int .i64 0,.string ⟨#[]⟩,.int .i64 0,.int .i64 0,.int .i64 0,.int .i64 0,.int .i64 0,.int .i64 0,.int .i64 0,.int .i64 0,.int .i64 0] 26)).alloc (.cells #[.int .i64 0,.string ⟨#[]⟩,.int .i64 0,.int .i64 0,.int .i64 0,.int .i64 0,.int .i64 0,.int .i64 0,.int .i64 0,.int .i64 0,.int .i64 0] 26):=⟨_,rfl⟩
 have HL:Hid (∀W,Below O.heap.size O W→zqJz w W):=fun W h=>by rw[hO]at h;exact zsoz w W _ h
 have HE:Hid (∀W,Below O.heap.size O W→Below w.heap.size w W):=fun W h=>by
  rw[hO]at h
  exact (((Below.refl _ w).alloc (Nat.le_refl _) _).alloc (by simp) _).trans (h.mono (by simp;omega))
 have CU:Hid (Calls Tryz.prog 115 #[.string s] O fun e w'=>e=.returned (.string (unB s))∧Hid (Below O.heap.size O w')):=zgwz s O (by omega)
 have CN:Hid (∀W,Below O.heap.size O W→Calls Tryz.prog 86 #[.string (unB s)] W fun e w'=>e=.returned (ysz (z7z (unB s)))∧Hid (Below O.heap.size O w')):=fun W hb=>(zf5z (unB s) W hus).mono fun e w' h=>⟨h.1,hb.trans (h.2.mono hb.size)⟩
 have HZ0:Hid (xyz s=match z7z (unB s)with
  |none=> .bad 3
  |some n=>vaz n):=rfl
 have HNL:Hid (∀n,z7z (unB s)=some n→n.length≤253):=fun n hn=>(zdbz hn)
 generalize unB s=u at CU CN HZ0 HNL
 clear hus h9
 cases hn:z7z u with
 |none=>
  have HZ:Hid (xyz s=.bad 3):=by
   show _=_
   rw[HZ0.out,hn]
  rw[HZ.out]
  show Calls _ _ _ _ fun e w'=>e=.returned (.tuple #[.agg #[.int .i64 0,.string ⟨#[]⟩,.int .i64 0,.int .i64 0,.int .i64 0,.int .i64 0,.int .i64 0,.int .i64 0,.int .i64 0,.int .i64 0,.int .i64 0],.int .i64 3])∧Below w.heap.size w w'
  rw[hn,show ysz none=.tuple #[.string ⟨#[]⟩,.bool false] from rfl]at CN
  clear hn HZ0 HNL HZ
  go_enter Tryz.func58,Tryz.ntmps58
  go_wp2_with fail
  rw[←hO]
  refine CU.out.mono ?_
  rintro e w1 ⟨rfl,b1⟩
  go_wp2_with fail
  refine (CN.out _ b1.out).mono ?_
  rintro e w2 ⟨rfl,b2⟩
  have hl3:=HL.out w2 b2.out
  have HR:Hid (yIz w2 w.heap.size (yvz 0 ⟨#[]⟩ 0 0 0 0 0 0 0 0 0)):=zVz hl3.1
  have BW:Hid (Below w.heap.size w w2):=HE.out _ b2.out
  obtain ⟨⟨c0,c1,c2,c3,c4,c5,c6,c7,c8,c9,c10⟩,⟨d0,d1,d2,d3,d4,d5,d6,d7,d8,d9,d10⟩,fz⟩:=hl3
  go_wp2_with fail
  refine bodyPost_ret (xwz rfl _ _ w.heap.size _ 0 0 ⟨#[]⟩ 0 0 0 0 0 0 0 0 rfl rfl (zDz HR.out 0 0 ⟨#[]⟩ 0 0 0 0 0 0 0 0)) rfl ⟨rfl,xvz BW.out (Nat.le_refl _) 0 0 ⟨#[]⟩ 0 0 0 0 0 0 0 0⟩
 |some n=>
  have hl:=HNL.out n hn
  have HZ1:Hid (xyz s=vaz n):=by
   show _=_
   rw[HZ0.out,hn]
  rw[hn,show ysz (some n)=.tuple #[.string ⟨n.toArray⟩,.bool true] from rfl]at CN
  have hns:(⟨n.toArray⟩:ByteArray).size≤1048576:=by
   show n.toArray.size≤_
   rw[List.size_toArray]
   omega
  have CE:Hid (∀W,Below O.heap.size O W→Calls Tryz.prog 87 #[.string ⟨n.toArray⟩] W fun e w'=>e=.returned (.bool (jqz ⟨n.toArray⟩))∧Hid (Below O.heap.size O w')):=fun W hb=>(zazz _ W hns).mono fun e w' h=>⟨h.1,hb.trans (h.2.mono hb.size)⟩
  have CL:Hid (∀W,Below O.heap.size O W→Calls Tryz.prog 116 #[.string ⟨n.toArray⟩] W fun e w'=>e=.returned (yWz (loA ⟨n.toArray⟩))∧Hid (Below O.heap.size O w')):=fun W hb=>(zhUz _ W hns).mono fun e w' h=>⟨h.1,hb.trans (h.2.mono hb.size)⟩
  have HM:Hid (vaz n=if jqz ⟨n.toArray⟩=true then (match loA ⟨n.toArray⟩with
   |none=> .bad 4
   |some v=> .fo v)else .nm n):=rfl
  have HMV:Hid (xcz (rV (.nm n))=.agg #[.int .i64 1,.string ⟨n.toArray⟩,.int .i64 0,.int .i64 0,.int .i64 0,.int .i64 0,.int .i64 0,.int .i64 0,.int .i64 0,.int .i64 0,.int .i64 0]):=rfl
  generalize (⟨n.toArray⟩:ByteArray)=T at CN CE CL HM HMV
  clear hn HZ0 HNL hl hns
  cases he:jqz T with
  |false=>
   have HZ:Hid (xyz s=.nm n):=by
    show _=_
    rw[HZ1.out,HM.out,he,if_neg (by decide)]
   rw[HZ.out,HMV.out,show rC (.nm n)=0 from rfl]
   rw[he]at CE
   clear he HZ1 HM CL HZ HMV
   go_enter Tryz.func58,Tryz.ntmps58
   go_wp2_with fail
   rw[←hO]
   refine CU.out.mono ?_
   rintro e w1 ⟨rfl,b1⟩
   go_wp2_with fail
   refine (CN.out _ b1.out).mono ?_
   rintro e w2 ⟨rfl,b2⟩
   go_wp2_with fail
   refine (CE.out _ b2.out).mono ?_
   rintro e w3 ⟨rfl,b3⟩
   have hl3:=HL.out w3 b3.out
   have HR:Hid (yIz w3 w.heap.size (yvz 0 ⟨#[]⟩ 0 0 0 0 0 0 0 0 0)):=zVz hl3.1
   have BW:Hid (Below w.heap.size w w3):=HE.out _ b3.out
   obtain ⟨⟨c0,c1,c2,c3,c4,c5,c6,c7,c8,c9,c10⟩,⟨d0,d1,d2,d3,d4,d5,d6,d7,d8,d9,d10⟩,fz⟩:=hl3
   go_wp2_with fail
   refine bodyPost_ret (xwz rfl _ _ w.heap.size _ 1 0 T 0 0 0 0 0 0 0 0 rfl rfl (zDz HR.out 1 0 T 0 0 0 0 0 0 0 0)) rfl ⟨rfl,xvz BW.out (Nat.le_refl _) 1 0 T 0 0 0 0 0 0 0 0⟩
  |true=>
   rw[he]at CE
   cases hlo:loA T with
   |none=>
    have HZ:Hid (xyz s=.bad 4):=by
     show _=_
     rw[HZ1.out,HM.out,he,if_pos rfl,hlo]
    rw[HZ.out]
    show Calls _ _ _ _ fun e w'=>e=.returned (.tuple #[.agg #[.int .i64 0,.string ⟨#[]⟩,.int .i64 0,.int .i64 0,.int .i64 0,.int .i64 0,.int .i64 0,.int .i64 0,.int .i64 0,.int .i64 0,.int .i64 0],.int .i64 4])∧Below w.heap.size w w'
    rw[hlo,show yWz none=.tuple #[.int .i64 0,.bool false] from rfl]at CL
    clear he hlo HZ1 HM HMV HZ
    go_enter Tryz.func58,Tryz.ntmps58
    go_wp2_with fail
    rw[←hO]
    refine CU.out.mono ?_
    rintro e w1 ⟨rfl,b1⟩
    go_wp2_with fail
    refine (CN.out _ b1.out).mono ?_
    rintro e w2 ⟨rfl,b2⟩
    go_wp2_with fail
    refine (CE.out _ b2.out).mono ?_
    rintro e w3 ⟨rfl,b3⟩
    go_wp2_with fail
    refine (CL.out _ b3.out).mono ?_
    rintro e w4 ⟨rfl,b4⟩
    have hl3:=HL.out w4 b4.out
    have HR:Hid (yIz w4 w.heap.size (yvz 0 ⟨#[]⟩ 0 0 0 0 0 0 0 0 0)):=zVz hl3.1
    have BW:Hid (Below w.heap.size w w4):=HE.out _ b4.out
    obtain ⟨⟨c0,c1,c2,c3,c4,c5,c6,c7,c8,c9,c10⟩,⟨d0,d1,d2,d3,d4,d5,d6,d7,d8,d9,d10⟩,fz⟩:=hl3
    go_wp2_with fail
    refine bodyPost_ret (xwz rfl _ _ w.heap.size _ 0 0 ⟨#[]⟩ 0 0 0 0 0 0 0 0 rfl rfl (zDz HR.out 0 0 ⟨#[]⟩ 0 0 0 0 0 0 0 0)) rfl ⟨rfl,xvz BW.out (Nat.le_refl _) 0 0 ⟨#[]⟩ 0 0 0 0 0 0 0 0⟩
   |some v=>
    have HZ:Hid (xyz s=.fo v):=by
     show _=_
     rw[HZ1.out,HM.out,he,if_pos rfl,hlo]
    rw[HZ.out]
    obtain ⟨y,hy⟩: ∃y:Int,(v:Int)=y:=⟨_,rfl⟩
    show Calls _ _ _ _ fun e w'=>e=.returned (.tuple #[.agg #[.int .i64 2,.string ⟨#[]⟩,.int .i64 (v:Int),.int .i64 0,.int .i64 0,.int .i64 0,.int .i64 0,.int .i64 0,.int .i64 0,.int .i64 0,.int .i64 0],.int .i64 0])∧Below w.heap.size w w'
    rw[hlo,show yWz (some v)=.tuple #[.int .i64 (v:Int),.bool true] from rfl,hy]at CL
    rw[hy]
    clear he hlo HZ1 HM HMV HZ hy
    go_enter Tryz.func58,Tryz.ntmps58
    go_wp2_with fail
    rw[←hO]
    refine CU.out.mono ?_
    rintro e w1 ⟨rfl,b1⟩
    go_wp2_with fail
    refine (CN.out _ b1.out).mono ?_
    rintro e w2 ⟨rfl,b2⟩
    go_wp2_with fail
    refine (CE.out _ b2.out).mono ?_
    rintro e w3 ⟨rfl,b3⟩
    go_wp2_with fail
    refine (CL.out _ b3.out).mono ?_
    rintro e w4 ⟨rfl,b4⟩
    have hl3:=HL.out w4 b4.out
    have HR:Hid (yIz w4 w.heap.size (yvz 0 ⟨#[]⟩ 0 0 0 0 0 0 0 0 0)):=zVz hl3.1
    have BW:Hid (Below w.heap.size w w4):=HE.out _ b4.out
    obtain ⟨⟨c0,c1,c2,c3,c4,c5,c6,c7,c8,c9,c10⟩,⟨d0,d1,d2,d3,d4,d5,d6,d7,d8,d9,d10⟩,fz⟩:=hl3
    go_wp2_with fail
    refine bodyPost_ret (xwz rfl _ _ w.heap.size _ 2 y ⟨#[]⟩ 0 0 0 0 0 0 0 0 rfl rfl (zDz HR.out 2 y ⟨#[]⟩ 0 0 0 0 0 0 0 0)) rfl ⟨rfl,xvz BW.out (Nat.le_refl _) 2 y ⟨#[]⟩ 0 0 0 0 0 0 0 0⟩
theorem zadz{W:World}{B:Nat}(h:yIz W B (yvz 0 ⟨#[]⟩ 0 0 0 0 0 0 0 0 0)):zaLz W B:=⟨h 0 _ rfl,h 1 _ rfl,h 2 _ rfl,h 3 _ rfl,h 4 _ rfl,h 5 _ rfl,h 6 _ rfl,h 7 _ rfl,h 8 _ rfl,h 9 _ rfl,h 10 _ rfl⟩
theorem zglz(s:ByteArray)(w:World)(hs:s.size≤1048576)(hp:0<s.size)(h9:s[0].toNat=91):
  Calls Tryz.prog 58 #[.string s] w fun e w'=>e=.returned (.tuple #[xcz (rV (znz s)),.int .i64 (rC (znz s))])∧Below w.heap.size w w':=by
 rw[zhaz hp h9]
 have hem:=zwz hp
 have hi:((s.size:Int)-1)=((s.size-1:Nat):Int):=by omega
 obtain ⟨c,hc⟩: ∃c:Nat,(s[s.size-1]'(by omega)).toNat=c:=⟨_,rfl⟩
 by_cases hcl:c=93
 ·have h1:1<s.size:=by
   rcases Nat.lt_or_ge 1 s.size with h|h
   ·exact h
   exfalso
   have e:s.size=1:=by omega
   have:(s[s.size-1]'(by omega)).toNat=s[0].toNat:=by congr 2;omega
   omega
  have HZ1:Hid (xIz (s.extract 1 s.size).data.toList=zg8z (yAz (s.extract 1 (s.size-1)).data.toList)):=by
   show _=_
   rw[zhDz (by rw[zqKz h1];congr 1;exact jgz (hc.trans hcl)),zs8z h1]
  have hts:(s.extract 1 (s.size-1)).size≤1048576:=by rw[ByteArray.size_extract];omega
  obtain ⟨O,hO⟩: ∃O,O=(w.alloc (.cells #[.int .i64 0,.string ⟨#[]⟩,.int .i64 0,.int .i64 0,.int .i64 0,.int .i64 0,.int .i64 0,.int .i64 0,.int .i64 0,.int .i64 0,.int .i64 0] 26)).alloc (.cells #[.int .i64 0,.string ⟨#[]⟩,.int .i64 0,.int .i64 0,.int .i64 0,.int .i64 0,.int .i64 0,.int .i64 0,.int .i64 0,.int .i64 0,.int .i64 0] 26):=⟨_,rfl⟩
  have HL:Hid (∀W,Below O.heap.size O W→zqJz w W):=fun W h=>by rw[hO]at h;exact zsoz w W _ h
  have HE:Hid (∀W,Below O.heap.size O W→Below w.heap.size w W):=fun W h=>by
   rw[hO]at h
   exact (((Below.refl _ w).alloc (Nat.le_refl _) _).alloc (by simp) _).trans (h.mono (by simp;omega))
  obtain ⟨P,hP⟩: ∃P,P=O.alloc (.cells #[.int .i64 0,.int .i64 0,.int .i64 0,.int .i64 0,.int .i64 0,.int .i64 0,.int .i64 0,.int .i64 0] 24):=⟨_,rfl⟩
  have HPO:Hid (∀W,Below P.heap.size P W→Below O.heap.size O W):=fun W h=>by
   rw[hP]at h
   exact ((Below.refl _ O).alloc (Nat.le_refl _) _).trans (h.mono (by simp))
  have HPZ:Hid (∀W,Below P.heap.size P W→yDz W (w.heap.size+1+1) [0,0,0,0,0,0,0,0]):=fun W h=>by
   rw[hP]at h
   have h2:=(zbSz O).later h
   rwa[show O.heap.size=w.heap.size+1+1 by rw[hO];simp]at h2
  have CP:Hid (Calls Tryz.prog 114 #[.string (s.extract 1 (s.size-1))] P fun e w'=>e=.returned (vjz (yAz (s.extract 1 (s.size-1)).data.toList))∧Hid (Below P.heap.size P w')):=zilz _ P hts
  have H8:Hid (∀gs,yAz (s.extract 1 (s.size-1)).data.toList=some gs→gs.length=8):=za0z _
  rw[HZ1.out]
  subst hcl
  have h1i:1≤(s.size:Int)-1:=by omega
  have h2i:(s.size:Int)-1≤(s.size:Int):=by omega
  generalize yAz (s.extract 1 (s.size-1)).data.toList=R at CP H8
  clear HZ1 hts
  cases R with
  |none=>
   show Calls _ _ _ _ fun e w'=>e=.returned (.tuple #[.agg #[.int .i64 0,.string ⟨#[]⟩,.int .i64 0,.int .i64 0,.int .i64 0,.int .i64 0,.int .i64 0,.int .i64 0,.int .i64 0,.int .i64 0,.int .i64 0],.int .i64 2])∧Below w.heap.size w w'
   go_enter Tryz.func58,Tryz.ntmps58
   go_wp2_with fail
   rw[←hO,←hP]
   refine CP.out.mono ?_
   rintro e w1 ⟨rfl,b1⟩
   rw[show vjz none=.tuple #[.agg #[.int .i64 0,.int .i64 0,.int .i64 0,.int .i64 0,.int .i64 0,.int .i64 0,.int .i64 0,.int .i64 0],.bool false] from rfl]
   have AR:=HPZ.out _ b1.out
   obtain ⟨w9,h9⟩: ∃w9,w9=((((((((w1.setCell ⟨w.heap.size+1+1,0,none⟩ (.int .i64 0)).setCell ⟨w.heap.size+1+1,1,none⟩ (.int .i64 0)).setCell ⟨w.heap.size+1+1,2,none⟩ (.int .i64 0)).setCell ⟨w.heap.size+1+1,3,none⟩ (.int .i64 0)).setCell ⟨w.heap.size+1+1,4,none⟩ (.int .i64 0)).setCell ⟨w.heap.size+1+1,5,none⟩ (.int .i64 0)).setCell ⟨w.heap.size+1+1,6,none⟩ (.int .i64 0)).setCell ⟨w.heap.size+1+1,7,none⟩ (.int .i64 0)):=⟨_,rfl⟩
   have H9:Hid (w9=_):=h9
   have hl3:=HL.out w1 (HPO.out _ b1.out)
   have HR:Hid (yIz w9 w.heap.size (yvz 0 ⟨#[]⟩ 0 0 0 0 0 0 0 0 0)):=by rw[h9];exact zeWz (zVz hl3.1) (by omega) 0 0 0 0 0 0 0 0
   have HR1:yIz w9 (w.heap.size+1) (yvz 0 ⟨#[]⟩ 0 0 0 0 0 0 0 0 0):=by rw[h9];exact zeWz (zVz hl3.2.1) (by omega) 0 0 0 0 0 0 0 0
   have BW:Hid (Below w.heap.size w w9):=by rw[h9];exact zUz (HE.out _ (HPO.out _ b1.out)) (by omega) 0 0 0 0 0 0 0 0
   have AR9:Hid (yDz w9 (w.heap.size+1+1) [0,0,0,0,0,0,0,0]):=by rw[h9];exact ygz AR 0 0 0 0 0 0 0 0
   have fz: ∀j,w9.frozen? ⟨w.heap.size,j,none⟩=false:=fun j=>by rw[h9];simp only[World.frozen?_setCell];exact hl3.2.2 j
   obtain ⟨c0,c1,c2,c3,c4,c5,c6,c7,c8,c9,c10⟩:=zadz HR.out
   obtain ⟨d0,d1,d2,d3,d4,d5,d6,d7,d8,d9,d10⟩:=zadz HR1
   clear hl3 h9 HR1
   have a0:=(AR.2 0 (by decide)).1
   have a1:=(AR.2 1 (by decide)).1
   have a2:=(AR.2 2 (by decide)).1
   have a3:=(AR.2 3 (by decide)).1
   have a4:=(AR.2 4 (by decide)).1
   have a5:=(AR.2 5 (by decide)).1
   have a6:=(AR.2 6 (by decide)).1
   have a7:=(AR.2 7 (by decide)).1
   have g0:=(AR.2 0 (by decide)).2
   have g1:=(AR.2 1 (by decide)).2
   have g2:=(AR.2 2 (by decide)).2
   have g3:=(AR.2 3 (by decide)).2
   have g4:=(AR.2 4 (by decide)).2
   have g5:=(AR.2 5 (by decide)).2
   have g6:=(AR.2 6 (by decide)).2
   have g7:=(AR.2 7 (by decide)).2
   simp only[List.getD_cons_zero,List.getD_cons_succ]at a0 a1 a2 a3 a4 a5 a6 a7
   clear AR
   go_wp2_with (rw[←H9.out])
   refine bodyPost_ret (xwz rfl _ _ w.heap.size _ 0 0 ⟨#[]⟩ 0 0 0 0 0 0 0 0 rfl rfl (zDz HR.out 0 0 ⟨#[]⟩ 0 0 0 0 0 0 0 0)) rfl ⟨rfl,xvz BW.out (Nat.le_refl _) 0 0 ⟨#[]⟩ 0 0 0 0 0 0 0 0⟩
  |some gs=>
   obtain ⟨x0,x1,x2,x3,x4,x5,x6,x7,hv,_,hx⟩:=zmYz (H8.out gs rfl)
   rw[hv]at CP
   have HV:Hid (xcz (rV (zg8z (some gs)))=.agg #[.int .i64 3,.string ⟨#[]⟩,.int .i64 0,.int .i64 x0,.int .i64 x1,.int .i64 x2,.int .i64 x3,.int .i64 x4,.int .i64 x5,.int .i64 x6,.int .i64 x7]):=by
    show xcz ⟨3,⟨#[]⟩,0,gs.map fun (x:Nat)=>(x:Int)⟩=_
    rw[hx]
    rfl
   rw[HV.out,show rC (zg8z (some gs))=0 from rfl]
   clear hv hx H8 HV
   go_enter Tryz.func58,Tryz.ntmps58
   go_wp2_with fail
   rw[←hO,←hP]
   refine CP.out.mono ?_
   rintro e w1 ⟨rfl,b1⟩
   have AR:=HPZ.out _ b1.out
   obtain ⟨w9,h9⟩: ∃w9,w9=((((((((w1.setCell ⟨w.heap.size+1+1,0,none⟩ (.int .i64 x0)).setCell ⟨w.heap.size+1+1,1,none⟩ (.int .i64 x1)).setCell ⟨w.heap.size+1+1,2,none⟩ (.int .i64 x2)).setCell ⟨w.heap.size+1+1,3,none⟩ (.int .i64 x3)).setCell ⟨w.heap.size+1+1,4,none⟩ (.int .i64 x4)).setCell ⟨w.heap.size+1+1,5,none⟩ (.int .i64 x5)).setCell ⟨w.heap.size+1+1,6,none⟩ (.int .i64 x6)).setCell ⟨w.heap.size+1+1,7,none⟩ (.int .i64 x7)):=⟨_,rfl⟩
   have H9:Hid (w9=_):=h9
   have hl3:=HL.out w1 (HPO.out _ b1.out)
   have HR:Hid (yIz w9 w.heap.size (yvz 0 ⟨#[]⟩ 0 0 0 0 0 0 0 0 0)):=by rw[h9];exact zeWz (zVz hl3.1) (by omega) x0 x1 x2 x3 x4 x5 x6 x7
   have HR1:yIz w9 (w.heap.size+1) (yvz 0 ⟨#[]⟩ 0 0 0 0 0 0 0 0 0):=by rw[h9];exact zeWz (zVz hl3.2.1) (by omega) x0 x1 x2 x3 x4 x5 x6 x7
   have BW:Hid (Below w.heap.size w w9):=by rw[h9];exact zUz (HE.out _ (HPO.out _ b1.out)) (by omega) x0 x1 x2 x3 x4 x5 x6 x7
   have AR9:Hid (yDz w9 (w.heap.size+1+1) [x0,x1,x2,x3,x4,x5,x6,x7]):=by rw[h9];exact ygz AR x0 x1 x2 x3 x4 x5 x6 x7
   have fz: ∀j,w9.frozen? ⟨w.heap.size,j,none⟩=false:=fun j=>by rw[h9];simp only[World.frozen?_setCell];exact hl3.2.2 j
   obtain ⟨c0,c1,c2,c3,c4,c5,c6,c7,c8,c9,c10⟩:=zadz HR.out
   obtain ⟨d0,d1,d2,d3,d4,d5,d6,d7,d8,d9,d10⟩:=zadz HR1
   clear hl3 h9 HR1
   have a0:=(AR.2 0 (by decide)).1
   have a1:=(AR.2 1 (by decide)).1
   have a2:=(AR.2 2 (by decide)).1
   have a3:=(AR.2 3 (by decide)).1
   have a4:=(AR.2 4 (by decide)).1
   have a5:=(AR.2 5 (by decide)).1
   have a6:=(AR.2 6 (by decide)).1
   have a7:=(AR.2 7 (by decide)).1
   have g0:=(AR.2 0 (by decide)).2
   have g1:=(AR.2 1 (by decide)).2
   have g2:=(AR.2 2 (by decide)).2
   have g3:=(AR.2 3 (by decide)).2
   have g4:=(AR.2 4 (by decide)).2
   have g5:=(AR.2 5 (by decide)).2
   have g6:=(AR.2 6 (by decide)).2
   have g7:=(AR.2 7 (by decide)).2
   simp only[List.getD_cons_zero,List.getD_cons_succ]at a0 a1 a2 a3 a4 a5 a6 a7
   clear AR
   have AR:=AR9.out
   have b0:=(AR.2 0 (by decide)).1
   have b1:=(AR.2 1 (by decide)).1
   have b2:=(AR.2 2 (by decide)).1
   have b3:=(AR.2 3 (by decide)).1
   have b4:=(AR.2 4 (by decide)).1
   have b5:=(AR.2 5 (by decide)).1
   have b6:=(AR.2 6 (by decide)).1
   have b7:=(AR.2 7 (by decide)).1
   simp only[List.getD_cons_zero,List.getD_cons_succ]at b0 b1 b2 b3 b4 b5 b6 b7
   clear AR
   go_wp2_with (rw[←H9.out])
   refine bodyPost_ret (xwz rfl _ _ w.heap.size _ 3 0 ⟨#[]⟩ x0 x1 x2 x3 x4 x5 x6 x7 rfl rfl (zDz HR.out 3 0 ⟨#[]⟩ x0 x1 x2 x3 x4 x5 x6 x7)) rfl ⟨rfl,xvz BW.out (Nat.le_refl _) 3 0 ⟨#[]⟩ x0 x1 x2 x3 x4 x5 x6 x7⟩
 have HZ1:Hid (xIz (s.extract 1 s.size).data.toList=.bad 2):=by
  by_cases h1:1<s.size
  ·refine zf8z ?_
   rw[zqKz h1]
   intro e
   have e2:=Option.some.inj e
   apply hcl
   rw[←hc,e2]
   rfl
  refine zf8z ?_
  rw[nil_r h1]
  simp
 have q0:((c:Int)==93)=false:=beq_eq_false_iff_ne.2 (by omega)
 rw[HZ1.out]
 show Calls _ _ _ _ fun e w'=>e=.returned (.tuple #[.agg #[.int .i64 0,.string ⟨#[]⟩,.int .i64 0,.int .i64 0,.int .i64 0,.int .i64 0,.int .i64 0,.int .i64 0,.int .i64 0,.int .i64 0,.int .i64 0],.int .i64 2])∧Below w.heap.size w w'
 clear HZ1 hcl
 go_enter Tryz.func58,Tryz.ntmps58
 go_wp2_with fail
 go_returns
 exact ⟨rfl,by go_grown⟩
theorem zgGz(s:ByteArray)(w:World)(hs:s.size≤1048576):
  Calls Tryz.prog 58 #[.string s] w fun e w'=>e=.returned (.tuple #[xcz (rV (znz s)),.int .i64 (rC (znz s))])∧Below w.heap.size w w':=by
 by_cases h0:s.size=0
 ·exact zgjz s w h0
 have hp:0<s.size:=by omega
 by_cases h9:s[0].toNat=91
 ·exact zglz s w hs hp h9
 exact zgkz s w hs hp h9
def zspz(u:UV):List Value:=.int .i64 u.s::.int .i64 u.h.k::.string u.h.s::.int .i64 u.h.n::(u.h.z.map (Value.int .i64)++[.int .i64 u.p,.string u.a,.bool u.q,.string u.r])
def zgmz(u:UV):Value:=.agg (zspz u).toArray
theorem zogz(l:List UInt8):(xJz l).length≤l.length:=by
 unfold xJz
 refine Nat.le_trans (List.length_filter_le _ _) ?_
 have h:=congrArg List.length (List.takeWhile_append_dropWhile (p:=fun c=>c !=35) (l:=Lib.trimS l vPz))
 rw[List.length_append]at h
 have h2:=zfKz l vPz
 omega
def PS(w:World)(U:Nat)(sch p:Int)(W:World):Prop:=
 UAt W w.heap.size zZz∧UAt W (w.heap.size+1) zZz∧UAt W U (zjz sch 0 ⟨#[]⟩ 0 0 0 0 0 0 0 0 0 p ⟨#[]⟩ false ⟨#[]⟩)∧w.heap.size+1<U∧Below w.heap.size w W
theorem PS.later{w:World}{U:Nat}{sch p:Int}{W W':World}(h:PS w U sch p W)(hb:Below W.heap.size W W'):PS w U sch p W':=
 ⟨h.1.below hb,h.2.1.below hb,h.2.2.1.below hb,h.2.2.2.1,h.2.2.2.2.trans (hb.mono h.2.2.2.2.size)⟩
theorem PS.sch{w:World}{U:Nat}{sch p:Int}{W:World}(h:PS w U sch p W)(v:Int):PS w U v p (W.setCell ⟨U,0,none⟩ (.int .i64 v)):=by
 obtain ⟨h1,h2,h3,h4,h5⟩:=h
 exact ⟨h1.other (by omega) _ _,h2.other (by omega) _ _,h3.set 0 (by simp[zjz]) _,h4,h5.setCell (p:=⟨U,0,none⟩) (by show _≤U;omega) _⟩
theorem PS.moved{w:World}{U C:Nat}{sch p:Int}{W W':World}(h:PS w U sch p W)(h1:w.heap.size+1<C)(h2:U≠C)(hM:zbCz C W W'):PS w U sch p W':=
 ⟨hM.1 _ _ (by omega) h.1,hM.1 _ _ (by omega) h.2.1,hM.1 _ _ h2 h.2.2.1,h.2.2.2.1,hM.2 _ _ (by omega) h.2.2.2.2⟩
def PF(w:World)(U:Nat)(row:List Value)(W:World):Prop:=UAt W w.heap.size zZz∧UAt W (w.heap.size+1) zZz∧UAt W U row∧w.heap.size+1<U∧Below w.heap.size w W
theorem PF.later{w:World}{U:Nat}{row:List Value}{W W':World}(h:PF w U row W)(hb:Below W.heap.size W W'):PF w U row W':=
 ⟨h.1.below hb,h.2.1.below hb,h.2.2.1.below hb,h.2.2.2.1,h.2.2.2.2.trans (hb.mono h.2.2.2.2.size)⟩
theorem zkQz{l:List UInt8}(h:y3z l=none):zbwz l=(2,vlz):=by unfold zbwz;rw[h]
theorem zr6z{l t:List UInt8}{s:Int}(h:y3z l=some (s,t)):zbwz l=zcvz s t:=by unfold zbwz;rw[h]
theorem zqLz{h:HV}(ho:hOk h=true):h.s.size≤253:=by
 unfold hOk at ho
 split at ho
 ·simp only[Bool.and_eq_true,decide_eq_true_eq]at ho
  have:=zdbz ho.1.1.1
  simpa using this
 split at ho
 ·simp only[Bool.and_eq_true,decide_eq_true_eq]at ho
  omega
 split at ho
 ·simp only[Bool.and_eq_true,decide_eq_true_eq]at ho
  omega
 cases ho
theorem zdIz(set:Int)(x:ByteArray):(plB set x).size≤3*x.size:=by
 show (plL set (toL x)).toArray.size≤_
 rw[List.size_toArray]
 have h:=zkWz set (toL x)
 have h2:(toL x).length=x.size:=by simp[toL]
 omega
theorem zohz{a r:ByteArray}(q:Bool)(ha:a.size≤10000)(hr:r.size≤10000):(zqmz a q r).length≤2097152:=by
 have h1:(toL a).length=a.size:=by simp[toL]
 have h2:(toL r).length=r.size:=by simp[toL]
 unfold zqmz
 split
 ·rw[List.length_append,List.length_cons]
  omega
 omega
end Go.Proofs.YtgcbaphbiaimoaaGreatDoor
