/- UrlImpl3, HostSpec3, HostSpec4. -/
import Derived.Test.YtgcbaphbiaimoaaGreatDoorQP31
import Derived.Test.YtgcbaphbiaimoaaGreatDoorQP32
import Derived.Deep.CutBlock
set_option maxHeartbeats 8000000
set_option maxRecDepth 100000
namespace Go.Proofs.YtgcbaphbiaimoaaGreatDoor
open Go.RowKit
attribute [local go_sem↓] Go.wp_at_zero Go.wp_at_succ
theorem zmCz(c:UInt8):([47,92,63]:List UInt8).contains c= !z3z c:=by
 have key: ∀n:Nat,n<256→([47,92,63]:List UInt8).contains (UInt8.ofNat n)= !z3z (UInt8.ofNat n):=by decide+kernel
 have h:=key c.toNat c.toNat_lt
 simpa using h
theorem zeHz(s:ByteArray)(w:World)(hs:s.size≤1048576):
  Calls Tryz.prog 100 #[.string s] w fun e w'=>e=.returned (.tuple #[.string ⟨(s.data.toList.takeWhile z3z).toArray⟩,.string ⟨(s.data.toList.dropWhile z3z).toArray⟩])∧Below w.heap.size w w':=by
 have hsl:s.data.toList.length=s.size:=by simp
 have CA:Hid (CB 149 #[.string s,.string ⟨#[47,92,63]⟩] w (.int .i64 (Lib.indexAny s.data.toList [47,92,63]))):=zsVz s w hs
 have hx:=zhYz [47,92,63] z3z zmCz s.data.toList
 obtain ⟨k,hk,hz,ht,hd⟩: ∃k:Nat,k≤s.size∧(Lib.indexAny s.data.toList [47,92,63]=(k:Int)∨(Lib.indexAny s.data.toList [47,92,63]= -1∧k=s.size))∧s.extract 0 k=⟨(s.data.toList.takeWhile z3z).toArray⟩∧s.extract k s.size=⟨(s.data.toList.dropWhile z3z).toArray⟩:=by
  have hle:(s.data.toList.takeWhile z3z).length≤s.size:=by rw[←hsl];exact (List.takeWhile_prefix _).length_le
  obtain ⟨h1,h2⟩:=zl0z z3z s.data.toList
  cases ha:s.data.toList.all z3z with
  |true=>
   obtain ⟨h3,h4⟩:=zhZz z3z _ ha
   refine ⟨s.size,Nat.le_refl _,.inr ⟨by rw[hx,ha];rfl,rfl⟩,?_,?_⟩
   ·apply zIz
    show (s.extract 0 s.size).data.toList=_
    rw[xUz,h3,List.take_of_length_le (by omega)]
    rfl
   apply zIz
   show (s.extract s.size s.size).data.toList=_
   rw[xmz,h4,List.drop_of_length_le (by omega)]
   rfl
  |false=>
   refine ⟨(s.data.toList.takeWhile z3z).length,hle,.inl (by rw[hx,ha];rfl),?_,?_⟩
   ·apply zIz
    show (s.extract 0 _).data.toList=_
    rw[xUz,h1]
    rfl
   apply zIz
   show (s.extract _ s.size).data.toList=_
   rw[xmz,h2]
   rfl
 clear hx
 have HT:Hid (s.extract 0 k=⟨(s.data.toList.takeWhile z3z).toArray⟩):=ht
 have HD:Hid (s.extract k s.size=⟨(s.data.toList.dropWhile z3z).toArray⟩):=hd
 generalize (⟨(s.data.toList.takeWhile z3z).toArray⟩:ByteArray)=X at HT⊢
 generalize (⟨(s.data.toList.dropWhile z3z).toArray⟩:ByteArray)=Y at HD⊢
 generalize Lib.indexAny s.data.toList [47,92,63]=z at CA hz
 clear ht hd hsl
 have hki:(k:Int)≤(s.size:Int):=by omega
 have hk0:(0:Int)≤(k:Int):=Int.natCast_nonneg _
 rcases hz with rfl|⟨rfl,hks⟩
 ·go_enter Tryz.func100,Tryz.ntmps100
  go_wp2_with fail
  refine CA.out.mono ?_
  rintro e wa ⟨rfl,ba⟩
  go_wp2_with fail
  go_quiet (fail)
  go_wp2
  go_ret2
  exact ⟨by rw[←HT.out,←HD.out];rfl,ba.trans ⟨rfl,rfl,rfl,Nat.le_refl _,fun _ _=>rfl⟩⟩
 subst hks
 have HX:Hid (s.extract 0 s.size=s):=by
  apply zIz
  show (s.extract 0 s.size).data.toList=_
  rw[xUz,List.take_of_length_le (by simp)]
  rfl
 have HY:Hid (s.extract s.size s.size=ByteArray.empty):=by
  apply zIz
  show (s.extract s.size s.size).data.toList=_
  rw[xmz,List.drop_of_length_le (by simp)]
  rfl
 go_enter Tryz.func100,Tryz.ntmps100
 go_wp2_with fail
 refine CA.out.mono ?_
 rintro e wa ⟨rfl,ba⟩
 go_wp2_with fail
 go_quiet (fail)
 go_wp2
 go_ret2
 exact ⟨by rw[←HT.out,←HD.out,HX.out,HY.out];rfl,ba.trans ⟨rfl,rfl,rfl,Nat.le_refl _,fun _ _=>rfl⟩⟩
def zcGz:HV:=⟨0,⟨#[]⟩,0,xsz⟩
def vBz(s:Int)(A:ByteArray):Int×HV×Int:=if A.data.toList.contains 64=true then (3,zcGz,0)
 else if 1≤yJz s (poB A)∧yJz s (poB A)≤65535 then (if rC (zmz ⟨(hoB A).toArray⟩)=0 then (0,rV (zmz ⟨(hoB A).toArray⟩),yJz s (poB A))else (4,zcGz,0))else (5,zcGz,0)
def errV(c:Int):Value:=if c=0 then .nilIface else noV c
theorem znSz{c:Int}(h:c≠0):errV c=.iface 69 (.agg #[.int .i64 c]):=by unfold errV;rw[if_neg h];rfl
theorem zs1z{s:Int}(hs:s=1∨s=2)(A:ByteArray)(rest:List UInt8):zbSz s A.data.toList rest=if (vBz s A).1=0 then fitU (zaQz s (vBz s A).2.1 (vBz s A).2.2 rest)else ((vBz s A).1,y3z):=by
 unfold zbSz vBz
 by_cases h1:A.data.toList.contains 64=true
 ·rw[if_pos h1,if_pos h1];rfl
 rw[if_neg h1,if_neg h1,zsvz hs]
 by_cases h2:1≤yJz s (poB A)∧yJz s (poB A)≤65535
 ·rw[if_pos h2,if_pos h2]
  unfold zadz
  by_cases h3:rC (zmz ⟨(hoB A).toArray⟩)=0
  ·rw[if_pos h3,if_pos h3];rfl
  rw[if_neg h3,if_neg h3];rfl
 rw[if_neg h2,if_neg h2];rfl
theorem zt4z{s:Int}{A:ByteArray}(h:(vBz s A).1=0):hOk (vBz s A).2.1=true∧1≤(vBz s A).2.2∧(vBz s A).2.2≤65535:=by
 unfold vBz at h⊢
 by_cases h1:A.data.toList.contains 64=true
 ·rw[if_pos h1]at h;exact absurd h (by decide)
 rw[if_neg h1]at h⊢
 by_cases h2:1≤yJz s (poB A)∧yJz s (poB A)≤65535
 ·rw[if_pos h2]at h⊢
  by_cases h3:rC (zmz ⟨(hoB A).toArray⟩)=0
  ·rw[if_pos h3]
   refine ⟨?_,h2⟩
   rcases zi5z ⟨(hoB A).toArray⟩with ⟨c,h4,h5,_⟩|⟨h4,_⟩
   ·rw[h4]at h3
    have:c=0:=h3
    omega
   exact h4
  rw[if_neg h3]at h;exact absurd h (by decide)
 rw[if_neg h2]at h;exact absurd h (by decide)
theorem zo6z(s:Int)(A:ByteArray):(vBz s A).2.1.z.length=8:=by
 unfold vBz
 split
 ·rfl
 split
 ·split
  ·exact xQz _
  rfl
 rfl
theorem zo7z(s:Int)(A:ByteArray): ∃(k n:Int) (nm:ByteArray) (x0 x1 x2 x3 x4 x5 x6 x7:Int),(vBz s A).2.1=⟨k,nm,n,[x0,x1,x2,x3,x4,x5,x6,x7]⟩:=by
 have h8:=zo6z s A
 generalize (vBz s A).2.1=h at h8
 obtain ⟨k,nm,n,z⟩:=h
 match z,h8 with
 |[x0,x1,x2,x3,x4,x5,x6,x7],_=>exact ⟨k,n,nm,x0,x1,x2,x3,x4,x5,x6,x7,rfl⟩
theorem zt5z(A:ByteArray):(hoB A).length≤A.size:=by
 have hA:A.data.toList.length=A.size:=by simp
 obtain ⟨hf,_⟩:=ztkz A
 have h:=(List.takeWhile_prefix (fun x=>x !=58) (l:=A.data.toList.drop (frB A))).length_le
 rw[List.length_drop]at h
 unfold hoB upB
 rw[List.length_append,List.length_take]
 omega
theorem PU.moved{w:World}{row:List Value}{W W':World}{C:Nat}(h:PU w row W)(hC:w.heap.size<C)(hM:ze3z C W W'):PU w row W':=⟨hM.1 _ _ (by omega) h.1,hM.2 _ _ (by omega) h.2⟩
theorem jAz{fn:Func}{i j l:Tmp}(h:fn.results= #[.cell i 26,.tmp j,.tmp l])(tmps:Array Value)(W:World)(B:Nat)(v1 v2:Value)(vs:List Value)(hl:vs.length=11)
  (hp:tmps[i]?.getD undef=.pointer (some ⟨B,0,none⟩)) (hq:tmps[j]?.getD undef=v1) (hr:tmps[l]?.getD undef=v2) (ha:UAt W B vs):(results fn tmps).run Tryz.prog W=.ok (.tuple #[.agg vs.toArray,v1,v2]) W:=by
 obtain ⟨d,hd1,hd2⟩:=Tryz.rowHost
 have hrun:=run_loadVar_mid (P:=Tryz.prog) W B 0 26 vs d (ha.range 0 vs (fun j v hv=>by rw[Nat.zero_add];exact hv)) hd1 hd2 (by rw[hl];exact Tryz.infoHost)
 simp[results,h,hp,hq,hr,asAddr,hrun]
def ze5z:List Value:=ymz 0 ⟨#[]⟩ 0 0 0 0 0 0 0 0 0
theorem zd8z(A:ByteArray)(s:Int)(w:World)(hA:A.size≤100000)(hs:s=1∨s=2)(hT:Lib.Utf8Tabs 12 13 w)(hP:Pow w)(hD:zJz w)(hM:MaxI w):
  Calls Tryz.prog 101 #[.string A,.int .i64 s] w fun e w'=>e=.returned (.tuple #[y7z (vBz s A).2.1,.int .i64 (vBz s A).2.2,errV (vBz s A).1])∧Below w.heap.size w w':=by
 have CC:Hid (∀W,CS 150 #[.string A,.string ⟨#[64]⟩] W (.bool (A.data.toList.contains 64))):=fun W=>by
  have h:=Tryz.strings_Contains_one A 64 W
  rw[←Lib.contains_iff_indexByte]at h
  exact h.mono fun e w' h=>⟨h.1,h.2.symm⟩
 have HR:Hid (vBz s A=if A.data.toList.contains 64=true then (3,zcGz,0)else if 1≤yJz s (poB A)∧yJz s (poB A)≤65535 then (if rC (zmz ⟨(hoB A).toArray⟩)=0 then (0,rV (zmz ⟨(hoB A).toArray⟩),yJz s (poB A))else (4,zcGz,0))else (5,zcGz,0)):=rfl
 have CK:Hid (∀W,Below w.heap.size w W→CB 151 #[.string A] W (.tuple #[.string ⟨(hoB A).toArray⟩,.string ⟨(poB A).toArray⟩])):=fun W hb=>zkVz A W (by omega) (viz hM hb)
 have CR:Hid (∀W,CS 152 #[.string ⟨(poB A).toArray⟩,.int .i64 s] W (if 1≤yJz s (poB A)∧yJz s (poB A)≤65535 then .tuple #[.int .i64 (yJz s (poB A)),.nilIface]else .tuple #[.int .i64 0,.iface 69 (.agg #[.int .i64 5])])):=fun W=>zjdz ⟨(poB A).toArray⟩ s W hs
 have hho:(⟨(hoB A).toArray⟩:ByteArray).size≤100000:=by rw[yVz];have:=zt5z A;omega
 have CH:Hid (∀W,Below w.heap.size w W→CB 153 #[.string ⟨(hoB A).toArray⟩] W (.tuple #[y7z (rV (zmz ⟨(hoB A).toArray⟩)),.int .i64 (rC (zmz ⟨(hoB A).toArray⟩))])):=fun W hb=>zhfz _ W (by omega) (zYz hT hb) (yfz hP hb) (zxz hD hb) (viz hM hb)
 generalize vBz s A=R at HR⊢
 generalize (⟨(hoB A).toArray⟩:ByteArray)=Ho at HR CK CH hho
 generalize yJz s (poB A)=pn at HR CR
 generalize (⟨(poB A).toArray⟩:ByteArray)=Po at CK CR
 generalize A.data.toList.contains 64=b at CC HR
 clear hT hP hD hM
 obtain ⟨O,hO⟩: ∃O,O=w.alloc (.cells #[.int .i64 0,.string ⟨#[]⟩,.int .i64 0,.int .i64 0,.int .i64 0,.int .i64 0,.int .i64 0,.int .i64 0,.int .i64 0,.int .i64 0,.int .i64 0] 26):=⟨_,rfl⟩
 have HU:Hid (PU w ze5z O):=by
  rw[hO]
  exact PU.new w _ _
 go_enter Tryz.func101,Tryz.ntmps101
 go_upto_region 1 with fail
 rw[←hO]
 clear hO
 go_wp2_with fail
 refine (CC.out _).mono ?_
 rintro e w' ⟨rfl,rfl⟩
 clear CC
 cases b with
 |true=>
  have HZ:Hid (R=(3,zcGz,0)):=HR.out
  have HUU:=HU
  clear HR
  go_wp2_with (refine jyz HUU.out.1 0 (Nat.le_refl 11) (us:=ze5z) rfl (vAz ..) rfl _ _ rfl rfl rfl ?_;intro w9 HU9 HM9)
  refine bodyPost_ret (jAz rfl _ _ w.heap.size (.int .i64 0) (.iface 69 (.agg #[.int .i64 3])) _ rfl rfl rfl rfl HU9) rfl ⟨by rw[HZ.out];rfl,HM9.2 _ _ (Nat.le_refl _) HUU.out.2⟩
 |false=>
  go_wp2_with fail
  refine (CK.out _ HU.out.2).mono ?_
  rintro e w1 ⟨rfl,hb1⟩
  have HU1:Hid (PU w ze5z w1):=HU.out.later hb1
  clear hb1 HU CK
  by_cases hp:1≤pn∧pn≤65535
  ·have HR2:Hid (R=if rC (zmz Ho)=0 then (0,rV (zmz Ho),pn)else (4,zcGz,0)):=by
    show _=_
    rw[HR.out,if_neg (by decide),if_pos hp]
   rw[if_pos hp]at CR
   clear HR
   go_wp2_with fail
   refine (CR.out _).mono ?_
   rintro e w' ⟨rfl,rfl⟩
   clear CR
   obtain ⟨k,n,nm,x0,x1,x2,x3,x4,x5,x6,x7,hhv⟩: ∃(k n:Int) (nm:ByteArray) (x0 x1 x2 x3 x4 x5 x6 x7:Int),rV (zmz Ho)=⟨k,nm,n,[x0,x1,x2,x3,x4,x5,x6,x7]⟩:=by
    have h8:=xQz Ho
    generalize rV (zmz Ho)=h at h8
    obtain ⟨k,nm,n,z⟩:=h
    match z,h8 with
    |[x0,x1,x2,x3,x4,x5,x6,x7],_=>exact ⟨k,n,nm,x0,x1,x2,x3,x4,x5,x6,x7,rfl⟩
   have CH2:Hid (∀W,Below w.heap.size w W→CB 153 #[.string Ho] W (.tuple #[.agg (ymz k nm n x0 x1 x2 x3 x4 x5 x6 x7).toArray,.int .i64 (rC (zmz Ho))])):=fun W hb=>by
    have h:=CH.out W hb
    rw[hhv]at h
    exact h
   rw[hhv]at HR2
   clear CH hhv
   generalize rC (zmz Ho)=rc at HR2 CH2
   go_wp2_with fail
   refine (CH2.out _ HU1.out.2).mono ?_
   rintro e w2 ⟨rfl,hb2⟩
   have HU2:Hid (PU w ze5z w2):=HU1.out.later hb2
   clear hb2 HU1 CH2
   have HU2a:Hid (PU w ze5z (w2.alloc (.cells #[.int .i64 0,.string ⟨#[]⟩,.int .i64 0,.int .i64 0,.int .i64 0,.int .i64 0,.int .i64 0,.int .i64 0,.int .i64 0,.int .i64 0,.int .i64 0] 26))):=HU2.out.later ((Below.refl _ _).alloc (Nat.le_refl _) _)
   have hlt:w.heap.size<w2.heap.size:=HU2.out.1.2.2
   go_upto_region 8 with (refine jyz (UAt.new w2 _ _) 0 (Nat.le_refl 11) (us:=ymz k nm n x0 x1 x2 x3 x4 x5 x6 x7) rfl (vAz ..) rfl _ _ rfl rfl rfl ?_;intro w3 HUh HMh)
   have HU3:Hid (PU w ze5z w3):=HU2a.out.moved hlt HMh
   have HUH:Hid (UAt w3 w2.heap.size (ymz k nm n x0 x1 x2 x3 x4 x5 x6 x7)):=HUh
   clear HUh HMh HU2a HU2 hlt
   by_cases hr0:rc=0
   ·have HZ:Hid (R=(0,⟨k,nm,n,[x0,x1,x2,x3,x4,x5,x6,x7]⟩,pn)):=by show _=_;rw[HR2.out,if_pos hr0]
    subst hr0
    clear HR2
    go_wp2_with (first|(refine zfyz HUH.out 0 (ymz k nm n x0 x1 x2 x3 x4 x5 x6 x7) (fun j v hv=>by rw[Nat.zero_add];exact hv) rfl rfl _ rfl rfl ?_)|(refine jyz HU3.out.1 0 (Nat.le_refl 11) (us:=ymz k nm n x0 x1 x2 x3 x4 x5 x6 x7) rfl (vAz ..) rfl _ _ rfl rfl rfl ?_;intro w9 HU9 HM9))
    refine bodyPost_ret (jAz rfl _ _ w.heap.size (.int .i64 pn) .nilIface _ rfl rfl rfl rfl HU9) rfl ⟨by rw[HZ.out];rfl,HM9.2 _ _ (Nat.le_refl _) HU3.out.2⟩
   have HZ:Hid (R=(4,zcGz,0)):=by show _=_;rw[HR2.out,if_neg hr0]
   have hrb:(rc !=0)=true:=bne_iff_ne.2 hr0
   have HUU:=HU3
   clear HR2 hr0
   go_wp2_with (refine jyz HUU.out.1 0 (Nat.le_refl 11) (us:=ze5z) rfl (vAz ..) rfl _ _ rfl rfl rfl ?_;intro w9 HU9 HM9)
   refine bodyPost_ret (jAz rfl _ _ w.heap.size (.int .i64 0) (.iface 69 (.agg #[.int .i64 4])) _ rfl rfl rfl rfl HU9) rfl ⟨by rw[HZ.out];rfl,HM9.2 _ _ (Nat.le_refl _) HUU.out.2⟩
  have HZ:Hid (R=(5,zcGz,0)):=by
   show _=_
   rw[HR.out,if_neg (by decide),if_neg hp]
  rw[if_neg hp]at CR
  clear HR
  go_wp2_with fail
  refine (CR.out _).mono ?_
  rintro e w' ⟨rfl,rfl⟩
  clear CR
  have HUU:=HU1
  go_wp2_with (refine jyz HUU.out.1 0 (Nat.le_refl 11) (us:=ze5z) rfl (vAz ..) rfl _ _ rfl rfl rfl ?_;intro w9 HU9 HM9)
  refine bodyPost_ret (jAz rfl _ _ w.heap.size (.int .i64 0) (.iface 69 (.agg #[.int .i64 5])) _ rfl rfl rfl rfl HU9) rfl ⟨by rw[HZ.out];rfl,HM9.2 _ _ (Nat.le_refl _) HUU.out.2⟩
end Go.Proofs.YtgcbaphbiaimoaaGreatDoor
namespace Go.Proofs.YtgcbaphbiaimoaaGreatDoor
open Go.RowKit
def za1z(W:World)(B:Nat):Prop:=
 W.cell? ⟨B,0,none⟩=some (.int .i64 0)∧W.cell? ⟨B,1,none⟩=some (.string ⟨#[]⟩)∧W.cell? ⟨B,2,none⟩=some (.int .i64 0)∧W.cell? ⟨B,3,none⟩=some (.int .i64 0)∧W.cell? ⟨B,4,none⟩=some (.int .i64 0)∧
 W.cell? ⟨B,5,none⟩=some (.int .i64 0)∧W.cell? ⟨B,6,none⟩=some (.int .i64 0)∧W.cell? ⟨B,7,none⟩=some (.int .i64 0)∧W.cell? ⟨B,8,none⟩=some (.int .i64 0)∧W.cell? ⟨B,9,none⟩=some (.int .i64 0)∧W.cell? ⟨B,10,none⟩=some (.int .i64 0)
def zrzz(w W:World):Prop:=za1z W w.heap.size∧za1z W (w.heap.size+1)∧ ∀j,W.frozen? ⟨w.heap.size,j,none⟩=false
theorem ztlz(w W:World)(t:TypeId)(hb:Below ((w.alloc (.cells #[.int .i64 0,.string ⟨#[]⟩,.int .i64 0,.int .i64 0,.int .i64 0,.int .i64 0,.int .i64 0,.int .i64 0,.int .i64 0,.int .i64 0,.int .i64 0] t)).alloc (.cells #[.int .i64 0,.string ⟨#[]⟩,.int .i64 0,.int .i64 0,.int .i64 0,.int .i64 0,.int .i64 0,.int .i64 0,.int .i64 0,.int .i64 0,.int .i64 0] t)).heap.size ((w.alloc (.cells #[.int .i64 0,.string ⟨#[]⟩,.int .i64 0,.int .i64 0,.int .i64 0,.int .i64 0,.int .i64 0,.int .i64 0,.int .i64 0,.int .i64 0,.int .i64 0] t)).alloc (.cells #[.int .i64 0,.string ⟨#[]⟩,.int .i64 0,.int .i64 0,.int .i64 0,.int .i64 0,.int .i64 0,.int .i64 0,.int .i64 0,.int .i64 0,.int .i64 0] t)) W):zrzz w W:=by
 have h1:=((Below.refl _ (w.alloc (.cells #[.int .i64 0,.string ⟨#[]⟩,.int .i64 0,.int .i64 0,.int .i64 0,.int .i64 0,.int .i64 0,.int .i64 0,.int .i64 0,.int .i64 0,.int .i64 0] t))).alloc (Nat.le_refl _) (.cells #[.int .i64 0,.string ⟨#[]⟩,.int .i64 0,.int .i64 0,.int .i64 0,.int .i64 0,.int .i64 0,.int .i64 0,.int .i64 0,.int .i64 0,.int .i64 0] t)).trans (hb.mono (by simp))
 have h2:=yyz _ W _ _ _ 0 0 0 0 0 0 0 0 t hb
 unfold y0z at h2
 simp only[show (w.alloc (.cells #[.int .i64 0,.string ⟨#[]⟩,.int .i64 0,.int .i64 0,.int .i64 0,.int .i64 0,.int .i64 0,.int .i64 0,.int .i64 0,.int .i64 0,.int .i64 0] t)).heap.size=w.heap.size+1 by simp]at h2
 exact ⟨yyz w W _ _ _ 0 0 0 0 0 0 0 0 t h1,h2,zeVz w W _ t h1⟩
theorem yBz{W:World}{B:Nat}(h:za1z W B):xgz W B (ymz 0 ⟨#[]⟩ 0 0 0 0 0 0 0 0 0):=by
 obtain ⟨c0,c1,c2,c3,c4,c5,c6,c7,c8,c9,c10⟩:=h
 intro j v hv
 match j,hv with
 |0,hv=>cases hv;exact c0
 |1,hv=>cases hv;exact c1
 |2,hv=>cases hv;exact c2
 |3,hv=>cases hv;exact c3
 |4,hv=>cases hv;exact c4
 |5,hv=>cases hv;exact c5
 |6,hv=>cases hv;exact c6
 |7,hv=>cases hv;exact c7
 |8,hv=>cases hv;exact c8
 |9,hv=>cases hv;exact c9
 |10,hv=>cases hv;exact c10
 |j+11,hv=>simp[ymz]at hv
theorem zrAz{s:ByteArray}(h:1<s.size):(s.extract 1 s.size).data.toList.getLast? =some (s[s.size-1]'(by omega)):=by
 rw[zAz,ynz s s.size (Nat.le_refl _),List.getLast?_drop,if_neg (by simp;omega)]
 exact ziPz s (by omega)
theorem zt6z{s:ByteArray}(h:1<s.size):(s.extract 1 s.size).data.toList.dropLast=(s.extract 1 (s.size-1)).data.toList:=by
 have hl:s.data.toList.length=s.size:=by simp
 rw[zAz,zAz,ynz s s.size (Nat.le_refl _),List.dropLast_eq_take,List.length_drop,hl,List.take_drop,show 1+(s.size-1-1)=s.size-1 by omega]
theorem nil_r{s:ByteArray}(h: ¬1<s.size):(s.extract 1 s.size).data.toList.getLast? =none:=by
 have e:(s.extract 1 s.size).data.toList=[]:=List.eq_nil_of_length_eq_zero (by simp;omega)
 rw[e]
 rfl
theorem zfAz{W:World}{B:Nat}{vs:List Value}(h:xgz W B vs){C:Nat}(hne:B≠C)(x0 x1 x2 x3 x4 x5 x6 x7:Int):xgz ((((((((W.setCell ⟨C,0,none⟩ (.int .i64 x0)).setCell ⟨C,1,none⟩ (.int .i64 x1)).setCell ⟨C,2,none⟩ (.int .i64 x2)).setCell ⟨C,3,none⟩ (.int .i64 x3)).setCell ⟨C,4,none⟩ (.int .i64 x4)).setCell ⟨C,5,none⟩ (.int .i64 x5)).setCell ⟨C,6,none⟩ (.int .i64 x6)).setCell ⟨C,7,none⟩ (.int .i64 x7)) B vs:=
 (((((((h.other hne 0 _).other hne 1 _).other hne 2 _).other hne 3 _).other hne 4 _).other hne 5 _).other hne 6 _).other hne 7 _
theorem zgXz(s:ByteArray)(w:World)(h0:s.size=0):
  Calls Tryz.prog 58 #[.string s] w fun e w'=>e=.returned (.tuple #[y7z (rV (zmz s)),.int .i64 (rC (zmz s))])∧Below w.heap.size w w':=by
 rw[zhOz h0]
 show Calls _ _ _ _ fun e w'=>e=.returned (.tuple #[.agg #[.int .i64 0,.string ⟨#[]⟩,.int .i64 0,.int .i64 0,.int .i64 0,.int .i64 0,.int .i64 0,.int .i64 0,.int .i64 0,.int .i64 0,.int .i64 0],.int .i64 1])∧Below w.heap.size w w'
 have hem:=zsz h0
 clear h0
 go_enter Tryz.func58,Tryz.ntmps58
 go_wp2_with fail
 go_returns
 exact ⟨rfl,by go_grown⟩
theorem zgYz(s:ByteArray)(w:World)(hs:s.size≤1048576)(hp:0<s.size)(h9: ¬s[0].toNat=91):
  Calls Tryz.prog 58 #[.string s] w fun e w'=>e=.returned (.tuple #[y7z (rV (zmz s)),.int .i64 (rC (zmz s))])∧Below w.heap.size w w':=by
 rw[zcQz hp h9]
 have hem:=zvz hp
 obtain ⟨d,hd⟩: ∃d:Nat,s[0].toNat=d:=⟨_,rfl⟩
 have q0:((d:Int)==91)=false:=beq_eq_false_iff_ne.2 (by omega)
 have hus:=Nat.le_trans (zkiz s) hs
 obtain ⟨O,hO⟩: ∃O,O=(w.alloc (.cells #[.int .i64 0,.string ⟨#[]⟩,.int .i64 0,.int .i64 0,.int .i64 0,.int .i64 0,.int .i64 0,.int .i64 0,.int .i64 0,.int .i64 0,.int .i64 0] 26)).alloc (.cells #[.int .i64 0,.string ⟨#[]⟩,.int .i64 0,.int .i64 0,.int .i64 0,.int .i64 0,.int .i64 0,.int .i64 0,.int .i64 0,.int .i64 0,.int .i64 0] 26):=⟨_,rfl⟩
 have HL:Hid (∀W,Below O.heap.size O W→zrzz w W):=fun W h=>by rw[hO]at h;exact ztlz w W _ h
 have HE:Hid (∀W,Below O.heap.size O W→Below w.heap.size w W):=fun W h=>by
  rw[hO]at h
  exact (((Below.refl _ w).alloc (Nat.le_refl _) _).alloc (by simp) _).trans (h.mono (by simp;omega))
 have CU:Hid (Calls Tryz.prog 115 #[.string s] O fun e w'=>e=.returned (.string (unB s))∧Hid (Below O.heap.size O w')):=zg9z s O (by omega)
 have CN:Hid (∀W,Below O.heap.size O W→Calls Tryz.prog 86 #[.string (unB s)] W fun e w'=>e=.returned (yuz (z6z (unB s)))∧Hid (Below O.heap.size O w')):=fun W hb=>(zgIz (unB s) W hus).mono fun e w' h=>⟨h.1,hb.trans (h.2.mono hb.size)⟩
 have HZ0:Hid (xCz s=match z6z (unB s)with
  |none=> .bad 3
  |some n=>vlz n):=rfl
 have HNL:Hid (∀n,z6z (unB s)=some n→n.length≤253):=fun n hn=>(zdyz hn)
 generalize unB s=u at CU CN HZ0 HNL
 clear hus h9
 cases hn:z6z u with
 |none=>
  have HZ:Hid (xCz s=.bad 3):=by
   show _=_
   rw[HZ0.out,hn]
  rw[HZ.out]
  show Calls _ _ _ _ fun e w'=>e=.returned (.tuple #[.agg #[.int .i64 0,.string ⟨#[]⟩,.int .i64 0,.int .i64 0,.int .i64 0,.int .i64 0,.int .i64 0,.int .i64 0,.int .i64 0,.int .i64 0,.int .i64 0],.int .i64 3])∧Below w.heap.size w w'
  rw[hn,show yuz none=.tuple #[.string ⟨#[]⟩,.bool false] from rfl]at CN
  clear hn HZ0 HNL HZ
  go_enter Tryz.func58,Tryz.ntmps58
  go_wp2_with fail
  rw[←hO]
  refine CU.out.mono ?_
  rintro e w1 ⟨rfl,b1⟩
  go_wp2_with fail
  refine (CN.out _ b1.out).mono ?_
  rintro e w2 ⟨rfl,b2⟩
  have hl3:=HL.out w2 b2.out
  have HR:Hid (xgz w2 w.heap.size (ymz 0 ⟨#[]⟩ 0 0 0 0 0 0 0 0 0)):=yBz hl3.1
  have BW:Hid (Below w.heap.size w w2):=HE.out _ b2.out
  obtain ⟨⟨c0,c1,c2,c3,c4,c5,c6,c7,c8,c9,c10⟩,⟨d0,d1,d2,d3,d4,d5,d6,d7,d8,d9,d10⟩,fz⟩:=hl3
  go_wp2_with fail
  refine bodyPost_ret (xBz rfl _ _ w.heap.size _ 0 0 ⟨#[]⟩ 0 0 0 0 0 0 0 0 rfl rfl (y4z HR.out 0 0 ⟨#[]⟩ 0 0 0 0 0 0 0 0)) rfl ⟨rfl,xAz BW.out (Nat.le_refl _) 0 0 ⟨#[]⟩ 0 0 0 0 0 0 0 0⟩
 |some n=>
  have hl:=HNL.out n hn
  have HZ1:Hid (xCz s=vlz n):=by
   show _=_
   rw[HZ0.out,hn]
  rw[hn,show yuz (some n)=.tuple #[.string ⟨n.toArray⟩,.bool true] from rfl]at CN
  have hns:(⟨n.toArray⟩:ByteArray).size≤1048576:=by
   show n.toArray.size≤_
   rw[List.size_toArray]
   omega
  have CE:Hid (∀W,Below O.heap.size O W→Calls Tryz.prog 87 #[.string ⟨n.toArray⟩] W fun e w'=>e=.returned (.bool (juz ⟨n.toArray⟩))∧Hid (Below O.heap.size O w')):=fun W hb=>(zaNz _ W hns).mono fun e w' h=>⟨h.1,hb.trans (h.2.mono hb.size)⟩
  have CL:Hid (∀W,Below O.heap.size O W→Calls Tryz.prog 116 #[.string ⟨n.toArray⟩] W fun e w'=>e=.returned (y1z (loA ⟨n.toArray⟩))∧Hid (Below O.heap.size O w')):=fun W hb=>(zizz _ W hns).mono fun e w' h=>⟨h.1,hb.trans (h.2.mono hb.size)⟩
  have HM:Hid (vlz n=if juz ⟨n.toArray⟩=true then (match loA ⟨n.toArray⟩with
   |none=> .bad 4
   |some v=> .fo v)else .nm n):=rfl
  have HMV:Hid (y7z (rV (.nm n))=.agg #[.int .i64 1,.string ⟨n.toArray⟩,.int .i64 0,.int .i64 0,.int .i64 0,.int .i64 0,.int .i64 0,.int .i64 0,.int .i64 0,.int .i64 0,.int .i64 0]):=rfl
  generalize (⟨n.toArray⟩:ByteArray)=T at CN CE CL HM HMV
  clear hn HZ0 HNL hl hns
  cases he:juz T with
  |false=>
   have HZ:Hid (xCz s=.nm n):=by
    show _=_
    rw[HZ1.out,HM.out,he,if_neg (by decide)]
   rw[HZ.out,HMV.out,show rC (.nm n)=0 from rfl]
   rw[he]at CE
   clear he HZ1 HM CL HZ HMV
   go_enter Tryz.func58,Tryz.ntmps58
   go_wp2_with fail
   rw[←hO]
   refine CU.out.mono ?_
   rintro e w1 ⟨rfl,b1⟩
   go_wp2_with fail
   refine (CN.out _ b1.out).mono ?_
   rintro e w2 ⟨rfl,b2⟩
   go_wp2_with fail
   refine (CE.out _ b2.out).mono ?_
   rintro e w3 ⟨rfl,b3⟩
   have hl3:=HL.out w3 b3.out
   have HR:Hid (xgz w3 w.heap.size (ymz 0 ⟨#[]⟩ 0 0 0 0 0 0 0 0 0)):=yBz hl3.1
   have BW:Hid (Below w.heap.size w w3):=HE.out _ b3.out
   obtain ⟨⟨c0,c1,c2,c3,c4,c5,c6,c7,c8,c9,c10⟩,⟨d0,d1,d2,d3,d4,d5,d6,d7,d8,d9,d10⟩,fz⟩:=hl3
   go_wp2_with fail
   refine bodyPost_ret (xBz rfl _ _ w.heap.size _ 1 0 T 0 0 0 0 0 0 0 0 rfl rfl (y4z HR.out 1 0 T 0 0 0 0 0 0 0 0)) rfl ⟨rfl,xAz BW.out (Nat.le_refl _) 1 0 T 0 0 0 0 0 0 0 0⟩
  |true=>
   rw[he]at CE
   cases hlo:loA T with
   |none=>
    have HZ:Hid (xCz s=.bad 4):=by
     show _=_
     rw[HZ1.out,HM.out,he,if_pos rfl,hlo]
    rw[HZ.out]
    show Calls _ _ _ _ fun e w'=>e=.returned (.tuple #[.agg #[.int .i64 0,.string ⟨#[]⟩,.int .i64 0,.int .i64 0,.int .i64 0,.int .i64 0,.int .i64 0,.int .i64 0,.int .i64 0,.int .i64 0,.int .i64 0],.int .i64 4])∧Below w.heap.size w w'
    rw[hlo,show y1z none=.tuple #[.int .i64 0,.bool false] from rfl]at CL
    clear he hlo HZ1 HM HMV HZ
    go_enter Tryz.func58,Tryz.ntmps58
    go_wp2_with fail
    rw[←hO]
    refine CU.out.mono ?_
    rintro e w1 ⟨rfl,b1⟩
    go_wp2_with fail
    refine (CN.out _ b1.out).mono ?_
    rintro e w2 ⟨rfl,b2⟩
    go_wp2_with fail
    refine (CE.out _ b2.out).mono ?_
    rintro e w3 ⟨rfl,b3⟩
    go_wp2_with fail
    refine (CL.out _ b3.out).mono ?_
    rintro e w4 ⟨rfl,b4⟩
    have hl3:=HL.out w4 b4.out
    have HR:Hid (xgz w4 w.heap.size (ymz 0 ⟨#[]⟩ 0 0 0 0 0 0 0 0 0)):=yBz hl3.1
    have BW:Hid (Below w.heap.size w w4):=HE.out _ b4.out
    obtain ⟨⟨c0,c1,c2,c3,c4,c5,c6,c7,c8,c9,c10⟩,⟨d0,d1,d2,d3,d4,d5,d6,d7,d8,d9,d10⟩,fz⟩:=hl3
    go_wp2_with fail
    refine bodyPost_ret (xBz rfl _ _ w.heap.size _ 0 0 ⟨#[]⟩ 0 0 0 0 0 0 0 0 rfl rfl (y4z HR.out 0 0 ⟨#[]⟩ 0 0 0 0 0 0 0 0)) rfl ⟨rfl,xAz BW.out (Nat.le_refl _) 0 0 ⟨#[]⟩ 0 0 0 0 0 0 0 0⟩
   |some v=>
    have HZ:Hid (xCz s=.fo v):=by
     show _=_
     rw[HZ1.out,HM.out,he,if_pos rfl,hlo]
    rw[HZ.out]
    obtain ⟨y,hy⟩: ∃y:Int,(v:Int)=y:=⟨_,rfl⟩
    show Calls _ _ _ _ fun e w'=>e=.returned (.tuple #[.agg #[.int .i64 2,.string ⟨#[]⟩,.int .i64 (v:Int),.int .i64 0,.int .i64 0,.int .i64 0,.int .i64 0,.int .i64 0,.int .i64 0,.int .i64 0,.int .i64 0],.int .i64 0])∧Below w.heap.size w w'
    rw[hlo,show y1z (some v)=.tuple #[.int .i64 (v:Int),.bool true] from rfl,hy]at CL
    rw[hy]
    clear he hlo HZ1 HM HMV HZ hy
    go_enter Tryz.func58,Tryz.ntmps58
    go_wp2_with fail
    rw[←hO]
    refine CU.out.mono ?_
    rintro e w1 ⟨rfl,b1⟩
    go_wp2_with fail
    refine (CN.out _ b1.out).mono ?_
    rintro e w2 ⟨rfl,b2⟩
    go_wp2_with fail
    refine (CE.out _ b2.out).mono ?_
    rintro e w3 ⟨rfl,b3⟩
    go_wp2_with fail
    refine (CL.out _ b3.out).mono ?_
    rintro e w4 ⟨rfl,b4⟩
    have hl3:=HL.out w4 b4.out
    have HR:Hid (xgz w4 w.heap.size (ymz 0 ⟨#[]⟩ 0 0 0 0 0 0 0 0 0)):=yBz hl3.1
    have BW:Hid (Below w.heap.size w w4):=HE.out _ b4.out
    obtain ⟨⟨c0,c1,c2,c3,c4,c5,c6,c7,c8,c9,c10⟩,⟨d0,d1,d2,d3,d4,d5,d6,d7,d8,d9,d10⟩,fz⟩:=hl3
    go_wp2_with fail
    refine bodyPost_ret (xBz rfl _ _ w.heap.size _ 2 y ⟨#[]⟩ 0 0 0 0 0 0 0 0 rfl rfl (y4z HR.out 2 y ⟨#[]⟩ 0 0 0 0 0 0 0 0)) rfl ⟨rfl,xAz BW.out (Nat.le_refl _) 2 y ⟨#[]⟩ 0 0 0 0 0 0 0 0⟩
theorem zalz{W:World}{B:Nat}(h:xgz W B (ymz 0 ⟨#[]⟩ 0 0 0 0 0 0 0 0 0)):za1z W B:=⟨h 0 _ rfl,h 1 _ rfl,h 2 _ rfl,h 3 _ rfl,h 4 _ rfl,h 5 _ rfl,h 6 _ rfl,h 7 _ rfl,h 8 _ rfl,h 9 _ rfl,h 10 _ rfl⟩
theorem zgZz(s:ByteArray)(w:World)(hs:s.size≤1048576)(hp:0<s.size)(h9:s[0].toNat=91):
  Calls Tryz.prog 58 #[.string s] w fun e w'=>e=.returned (.tuple #[y7z (rV (zmz s)),.int .i64 (rC (zmz s))])∧Below w.heap.size w w':=by
 rw[zhPz hp h9]
 have hem:=zvz hp
 have hi:((s.size:Int)-1)=((s.size-1:Nat):Int):=by omega
 obtain ⟨c,hc⟩: ∃c:Nat,(s[s.size-1]'(by omega)).toNat=c:=⟨_,rfl⟩
 by_cases hcl:c=93
 ·have h1:1<s.size:=by
   rcases Nat.lt_or_ge 1 s.size with h|h
   ·exact h
   exfalso
   have e:s.size=1:=by omega
   have:(s[s.size-1]'(by omega)).toNat=s[0].toNat:=by congr 2;omega
   omega
  have HZ1:Hid (xOz (s.extract 1 s.size).data.toList=zhNz (yEz (s.extract 1 (s.size-1)).data.toList)):=by
   show _=_
   rw[zihz (by rw[zrAz h1];congr 1;exact jiz (hc.trans hcl)),zt6z h1]
  have hts:(s.extract 1 (s.size-1)).size≤1048576:=by rw[ByteArray.size_extract];omega
  obtain ⟨O,hO⟩: ∃O,O=(w.alloc (.cells #[.int .i64 0,.string ⟨#[]⟩,.int .i64 0,.int .i64 0,.int .i64 0,.int .i64 0,.int .i64 0,.int .i64 0,.int .i64 0,.int .i64 0,.int .i64 0] 26)).alloc (.cells #[.int .i64 0,.string ⟨#[]⟩,.int .i64 0,.int .i64 0,.int .i64 0,.int .i64 0,.int .i64 0,.int .i64 0,.int .i64 0,.int .i64 0,.int .i64 0] 26):=⟨_,rfl⟩
  have HL:Hid (∀W,Below O.heap.size O W→zrzz w W):=fun W h=>by rw[hO]at h;exact ztlz w W _ h
  have HE:Hid (∀W,Below O.heap.size O W→Below w.heap.size w W):=fun W h=>by
   rw[hO]at h
   exact (((Below.refl _ w).alloc (Nat.le_refl _) _).alloc (by simp) _).trans (h.mono (by simp;omega))
  obtain ⟨P,hP⟩: ∃P,P=O.alloc (.cells #[.int .i64 0,.int .i64 0,.int .i64 0,.int .i64 0,.int .i64 0,.int .i64 0,.int .i64 0,.int .i64 0] 24):=⟨_,rfl⟩
  have HPO:Hid (∀W,Below P.heap.size P W→Below O.heap.size O W):=fun W h=>by
   rw[hP]at h
   exact ((Below.refl _ O).alloc (Nat.le_refl _) _).trans (h.mono (by simp))
  have HPZ:Hid (∀W,Below P.heap.size P W→yIz W (w.heap.size+1+1) [0,0,0,0,0,0,0,0]):=fun W h=>by
   rw[hP]at h
   have h2:=(zcfz O).later h
   rwa[show O.heap.size=w.heap.size+1+1 by rw[hO];simp]at h2
  have CP:Hid (Calls Tryz.prog 114 #[.string (s.extract 1 (s.size-1))] P fun e w'=>e=.returned (vtz (yEz (s.extract 1 (s.size-1)).data.toList))∧Hid (Below P.heap.size P w')):=zi1z _ P hts
  have H8:Hid (∀gs,yEz (s.extract 1 (s.size-1)).data.toList=some gs→gs.length=8):=zbhz _
  rw[HZ1.out]
  subst hcl
  have h1i:1≤(s.size:Int)-1:=by omega
  have h2i:(s.size:Int)-1≤(s.size:Int):=by omega
  generalize yEz (s.extract 1 (s.size-1)).data.toList=R at CP H8
  clear HZ1 hts
  cases R with
  |none=>
   show Calls _ _ _ _ fun e w'=>e=.returned (.tuple #[.agg #[.int .i64 0,.string ⟨#[]⟩,.int .i64 0,.int .i64 0,.int .i64 0,.int .i64 0,.int .i64 0,.int .i64 0,.int .i64 0,.int .i64 0,.int .i64 0],.int .i64 2])∧Below w.heap.size w w'
   go_enter Tryz.func58,Tryz.ntmps58
   go_wp2_with fail
   rw[←hO,←hP]
   refine CP.out.mono ?_
   rintro e w1 ⟨rfl,b1⟩
   rw[show vtz none=.tuple #[.agg #[.int .i64 0,.int .i64 0,.int .i64 0,.int .i64 0,.int .i64 0,.int .i64 0,.int .i64 0,.int .i64 0],.bool false] from rfl]
   have AR:=HPZ.out _ b1.out
   obtain ⟨w9,h9⟩: ∃w9,w9=((((((((w1.setCell ⟨w.heap.size+1+1,0,none⟩ (.int .i64 0)).setCell ⟨w.heap.size+1+1,1,none⟩ (.int .i64 0)).setCell ⟨w.heap.size+1+1,2,none⟩ (.int .i64 0)).setCell ⟨w.heap.size+1+1,3,none⟩ (.int .i64 0)).setCell ⟨w.heap.size+1+1,4,none⟩ (.int .i64 0)).setCell ⟨w.heap.size+1+1,5,none⟩ (.int .i64 0)).setCell ⟨w.heap.size+1+1,6,none⟩ (.int .i64 0)).setCell ⟨w.heap.size+1+1,7,none⟩ (.int .i64 0)):=⟨_,rfl⟩
   have H9:Hid (w9=_):=h9
   have hl3:=HL.out w1 (HPO.out _ b1.out)
   have HR:Hid (xgz w9 w.heap.size (ymz 0 ⟨#[]⟩ 0 0 0 0 0 0 0 0 0)):=by rw[h9];exact zfAz (yBz hl3.1) (by omega) 0 0 0 0 0 0 0 0
   have HR1:xgz w9 (w.heap.size+1) (ymz 0 ⟨#[]⟩ 0 0 0 0 0 0 0 0 0):=by rw[h9];exact zfAz (yBz hl3.2.1) (by omega) 0 0 0 0 0 0 0 0
   have BW:Hid (Below w.heap.size w w9):=by rw[h9];exact zTz (HE.out _ (HPO.out _ b1.out)) (by omega) 0 0 0 0 0 0 0 0
   have AR9:Hid (yIz w9 (w.heap.size+1+1) [0,0,0,0,0,0,0,0]):=by rw[h9];exact ygz AR 0 0 0 0 0 0 0 0
   have fz: ∀j,w9.frozen? ⟨w.heap.size,j,none⟩=false:=fun j=>by rw[h9];simp only[World.frozen?_setCell];exact hl3.2.2 j
   obtain ⟨c0,c1,c2,c3,c4,c5,c6,c7,c8,c9,c10⟩:=zalz HR.out
   obtain ⟨d0,d1,d2,d3,d4,d5,d6,d7,d8,d9,d10⟩:=zalz HR1
   clear hl3 h9 HR1
   have a0:=(AR.2 0 (by decide)).1
   have a1:=(AR.2 1 (by decide)).1
   have a2:=(AR.2 2 (by decide)).1
   have a3:=(AR.2 3 (by decide)).1
   have a4:=(AR.2 4 (by decide)).1
   have a5:=(AR.2 5 (by decide)).1
   have a6:=(AR.2 6 (by decide)).1
   have a7:=(AR.2 7 (by decide)).1
   have g0:=(AR.2 0 (by decide)).2
   have g1:=(AR.2 1 (by decide)).2
   have g2:=(AR.2 2 (by decide)).2
   have g3:=(AR.2 3 (by decide)).2
   have g4:=(AR.2 4 (by decide)).2
   have g5:=(AR.2 5 (by decide)).2
   have g6:=(AR.2 6 (by decide)).2
   have g7:=(AR.2 7 (by decide)).2
   simp only[List.getD_cons_zero,List.getD_cons_succ]at a0 a1 a2 a3 a4 a5 a6 a7
   clear AR
   go_wp2_with (rw[←H9.out])
   refine bodyPost_ret (xBz rfl _ _ w.heap.size _ 0 0 ⟨#[]⟩ 0 0 0 0 0 0 0 0 rfl rfl (y4z HR.out 0 0 ⟨#[]⟩ 0 0 0 0 0 0 0 0)) rfl ⟨rfl,xAz BW.out (Nat.le_refl _) 0 0 ⟨#[]⟩ 0 0 0 0 0 0 0 0⟩
  |some gs=>
   obtain ⟨x0,x1,x2,x3,x4,x5,x6,x7,hv,_,hx⟩:=znLz (H8.out gs rfl)
   rw[hv]at CP
   have HV:Hid (y7z (rV (zhNz (some gs)))=.agg #[.int .i64 3,.string ⟨#[]⟩,.int .i64 0,.int .i64 x0,.int .i64 x1,.int .i64 x2,.int .i64 x3,.int .i64 x4,.int .i64 x5,.int .i64 x6,.int .i64 x7]):=by
    show y7z ⟨3,⟨#[]⟩,0,gs.map fun (x:Nat)=>(x:Int)⟩=_
    rw[hx]
    rfl
   rw[HV.out,show rC (zhNz (some gs))=0 from rfl]
   clear hv hx H8 HV
   go_enter Tryz.func58,Tryz.ntmps58
   go_wp2_with fail
   rw[←hO,←hP]
   refine CP.out.mono ?_
   rintro e w1 ⟨rfl,b1⟩
   have AR:=HPZ.out _ b1.out
   obtain ⟨w9,h9⟩: ∃w9,w9=((((((((w1.setCell ⟨w.heap.size+1+1,0,none⟩ (.int .i64 x0)).setCell ⟨w.heap.size+1+1,1,none⟩ (.int .i64 x1)).setCell ⟨w.heap.size+1+1,2,none⟩ (.int .i64 x2)).setCell ⟨w.heap.size+1+1,3,none⟩ (.int .i64 x3)).setCell ⟨w.heap.size+1+1,4,none⟩ (.int .i64 x4)).setCell ⟨w.heap.size+1+1,5,none⟩ (.int .i64 x5)).setCell ⟨w.heap.size+1+1,6,none⟩ (.int .i64 x6)).setCell ⟨w.heap.size+1+1,7,none⟩ (.int .i64 x7)):=⟨_,rfl⟩
   have H9:Hid (w9=_):=h9
   have hl3:=HL.out w1 (HPO.out _ b1.out)
   have HR:Hid (xgz w9 w.heap.size (ymz 0 ⟨#[]⟩ 0 0 0 0 0 0 0 0 0)):=by rw[h9];exact zfAz (yBz hl3.1) (by omega) x0 x1 x2 x3 x4 x5 x6 x7
   have HR1:xgz w9 (w.heap.size+1) (ymz 0 ⟨#[]⟩ 0 0 0 0 0 0 0 0 0):=by rw[h9];exact zfAz (yBz hl3.2.1) (by omega) x0 x1 x2 x3 x4 x5 x6 x7
   have BW:Hid (Below w.heap.size w w9):=by rw[h9];exact zTz (HE.out _ (HPO.out _ b1.out)) (by omega) x0 x1 x2 x3 x4 x5 x6 x7
   have AR9:Hid (yIz w9 (w.heap.size+1+1) [x0,x1,x2,x3,x4,x5,x6,x7]):=by rw[h9];exact ygz AR x0 x1 x2 x3 x4 x5 x6 x7
   have fz: ∀j,w9.frozen? ⟨w.heap.size,j,none⟩=false:=fun j=>by rw[h9];simp only[World.frozen?_setCell];exact hl3.2.2 j
   obtain ⟨c0,c1,c2,c3,c4,c5,c6,c7,c8,c9,c10⟩:=zalz HR.out
   obtain ⟨d0,d1,d2,d3,d4,d5,d6,d7,d8,d9,d10⟩:=zalz HR1
   clear hl3 h9 HR1
   have a0:=(AR.2 0 (by decide)).1
   have a1:=(AR.2 1 (by decide)).1
   have a2:=(AR.2 2 (by decide)).1
   have a3:=(AR.2 3 (by decide)).1
   have a4:=(AR.2 4 (by decide)).1
   have a5:=(AR.2 5 (by decide)).1
   have a6:=(AR.2 6 (by decide)).1
   have a7:=(AR.2 7 (by decide)).1
   have g0:=(AR.2 0 (by decide)).2
   have g1:=(AR.2 1 (by decide)).2
   have g2:=(AR.2 2 (by decide)).2
   have g3:=(AR.2 3 (by decide)).2
   have g4:=(AR.2 4 (by decide)).2
   have g5:=(AR.2 5 (by decide)).2
   have g6:=(AR.2 6 (by decide)).2
   have g7:=(AR.2 7 (by decide)).2
   simp only[List.getD_cons_zero,List.getD_cons_succ]at a0 a1 a2 a3 a4 a5 a6 a7
   clear AR
   have AR:=AR9.out
   have b0:=(AR.2 0 (by decide)).1
   have b1:=(AR.2 1 (by decide)).1
   have b2:=(AR.2 2 (by decide)).1
   have b3:=(AR.2 3 (by decide)).1
   have b4:=(AR.2 4 (by decide)).1
   have b5:=(AR.2 5 (by decide)).1
   have b6:=(AR.2 6 (by decide)).1
   have b7:=(AR.2 7 (by decide)).1
   simp only[List.getD_cons_zero,List.getD_cons_succ]at b0 b1 b2 b3 b4 b5 b6 b7
   clear AR
   go_wp2_with (rw[←H9.out])
   refine bodyPost_ret (xBz rfl _ _ w.heap.size _ 3 0 ⟨#[]⟩ x0 x1 x2 x3 x4 x5 x6 x7 rfl rfl (y4z HR.out 3 0 ⟨#[]⟩ x0 x1 x2 x3 x4 x5 x6 x7)) rfl ⟨rfl,xAz BW.out (Nat.le_refl _) 3 0 ⟨#[]⟩ x0 x1 x2 x3 x4 x5 x6 x7⟩
 have HZ1:Hid (xOz (s.extract 1 s.size).data.toList=.bad 2):=by
  by_cases h1:1<s.size
  ·refine zgMz ?_
   rw[zrAz h1]
   intro e
   have e2:=Option.some.inj e
   apply hcl
   rw[←hc,e2]
   rfl
  refine zgMz ?_
  rw[nil_r h1]
  simp
 have q0:((c:Int)==93)=false:=beq_eq_false_iff_ne.2 (by omega)
 rw[HZ1.out]
 show Calls _ _ _ _ fun e w'=>e=.returned (.tuple #[.agg #[.int .i64 0,.string ⟨#[]⟩,.int .i64 0,.int .i64 0,.int .i64 0,.int .i64 0,.int .i64 0,.int .i64 0,.int .i64 0,.int .i64 0,.int .i64 0],.int .i64 2])∧Below w.heap.size w w'
 clear HZ1 hcl
 go_enter Tryz.func58,Tryz.ntmps58
 go_wp2_with fail
 go_returns
 exact ⟨rfl,by go_grown⟩
theorem zcHz(s:ByteArray)(w:World)(hs:s.size≤1048576):
  Calls Tryz.prog 58 #[.string s] w fun e w'=>e=.returned (.tuple #[y7z (rV (zmz s)),.int .i64 (rC (zmz s))])∧Below w.heap.size w w':=by
 by_cases h0:s.size=0
 ·exact zgXz s w h0
 have hp:0<s.size:=by omega
 by_cases h9:s[0].toNat=91
 ·exact zgZz s w hs hp h9
 exact zgYz s w hs hp h9
end Go.Proofs.YtgcbaphbiaimoaaGreatDoor
