/- HostParse, Ip6Spec, Ip6Both. -/
import Derived.Test.YtgcbaphbiaimoaaGreatDoorQP27
set_option maxHeartbeats 8000000
set_option maxRecDepth 20000
namespace Go.Proofs.YtgcbaphbiaimoaaGreatDoor
open Go.RowKit
def y7z(h:HV):Value:=.agg (#[.int .i64 h.k,.string h.s,.int .i64 h.n]++(h.z.map (Value.int .i64)).toArray)
def mV(r:jjz):Value:=match r.t with
 |0=> .nilIface
 |1=> .iface 142 (.string ⟨r.l.toArray⟩)
 |2=> .iface 143 (.int .i64 (r.n:Int))
 |_=> .iface 144 (.agg ((r.g.map fun (x:Nat)=>(x:Int)).map (Value.int .i64)).toArray)
theorem znKz(l:List UInt8):Lib.hasSuffix l [93]=decide (l.getLast? =some 93):=by
 unfold Lib.hasSuffix
 rw[List.isSuffixOf,List.getLast?_eq_head?_reverse]
 cases l.reverse with
 |nil=>rfl
 |cons c r=>
  by_cases h:c=93
  ·subst h;simp[List.isPrefixOf]
  have: ¬(93:UInt8)=c:=fun e=>h e.symm
  simp[List.isPrefixOf,h,this]
theorem ztOz{l:List UInt8}(h:l.getLast? =some 93):Lib.trimSuffix l [93]=l.dropLast:=by
 unfold Lib.trimSuffix
 rw[if_pos (by rw[znKz,decide_eq_true h]),List.dropLast_eq_take]
 rfl
theorem zihz{r:List UInt8}(h:r.getLast? =some 93):xOz r=zhNz (yEz r.dropLast):=by unfold xOz;rw[if_pos h]
theorem zgMz{r:List UInt8}(h: ¬r.getLast? =some 93):xOz r=.bad 2:=by unfold xOz;rw[if_neg h]
theorem znLz{gs:List Nat}(h:gs.length=8): ∃x0 x1 x2 x3 x4 x5 x6 x7:Int,vtz (some gs)=.tuple #[.agg #[.int .i64 x0,.int .i64 x1,.int .i64 x2,.int .i64 x3,.int .i64 x4,.int .i64 x5,.int .i64 x6,.int .i64 x7],.bool true]∧mV (.si gs)=.iface 144 (.agg #[.int .i64 x0,.int .i64 x1,.int .i64 x2,.int .i64 x3,.int .i64 x4,.int .i64 x5,.int .i64 x6,.int .i64 x7])∧(gs.map fun (x:Nat)=>(x:Int))=[x0,x1,x2,x3,x4,x5,x6,x7]:=by
 obtain ⟨x0,x1,x2,x3,x4,x5,x6,x7,hx⟩:=jRz (z:=gs.map fun (x:Nat)=>(x:Int)) (by simpa using h)
 refine ⟨x0,x1,x2,x3,x4,x5,x6,x7,?_,?_,hx⟩
 ·show Value.tuple #[.agg ((toI gs).map (Value.int .i64)).toArray,.bool true]=_
  rw[show toI gs=gs.map (fun (x:Nat)=>(x:Int)) from rfl,hx]
  rfl
 show Value.iface 144 (.agg ((gs.map fun (x:Nat)=>(x:Int)).map (Value.int .i64)).toArray)=_
 rw[hx]
 rfl
theorem zlhz(s:ByteArray)(w:World)(hs:s.size≤1048576)(h0:0<s.size)(hP:Pow w)(hD:zJz w)(hM:MaxI w):
  Calls Tryz.prog 248 #[.string s] w fun e w'=>e=.returned (.tuple #[mV (xOz (s.extract 1 s.size).data.toList),.int .i64 (rC (xOz (s.extract 1 s.size).data.toList))])∧Below w.heap.size w w':=by
 have hts:(s.extract 1 s.size).size≤1048576:=by rw[ByteArray.size_extract];omega
 have h0i:1≤(s.size:Int):=by omega
 have CC:Hid (∀W,CS 264 #[.string (s.extract 1 s.size),.string ⟨#[93]⟩] W (.tuple #[.string ⟨(Lib.trimSuffix (s.extract 1 s.size).data.toList [93]).toArray⟩,.bool (Lib.hasSuffix (s.extract 1 s.size).data.toList [93])])):=fun W=>(Tryz.strings_CutSuffix (s.extract 1 s.size) ⟨#[93]⟩ W (by omega)).mono fun e w' h=>⟨h.1,h.2.symm⟩
 have CP:Hid (∀q:ByteArray,q.size≤1048576→CB 265 #[.string q] w (vtz (yEz q.data.toList))):=fun q hq=>zi3z q w hq hP hD hM
 clear hP hD hM
 obtain ⟨t,ht⟩: ∃t,s.extract 1 s.size=t:=⟨_,rfl⟩
 have HE:Hid (s.extract 1 s.size=t):=ht
 have hsl: ∀W,(Instr.slice 9 (.string s) (some (.int .i64 1)) none none).run Tryz.prog W=.ok (.string t) W:=by
  intro W
  rw[←ht]
  simp[Instr.slice,run_underlying Tryz.underlying9,Instr.sliceBounds,go_sem,show ¬(s.size:Int)<1 by omega]
 rw[ht]at hts CC⊢
 clear ht
 by_cases hcl:t.data.toList.getLast? =some 93
 ·have hin:(⟨(Lib.trimSuffix t.data.toList [93]).toArray⟩:ByteArray)=⟨t.data.toList.dropLast.toArray⟩:=by rw[ztOz hcl]
  rw[hin,znKz,decide_eq_true hcl]at CC
  have HZ:Hid (xOz t.data.toList=zhNz (yEz t.data.toList.dropLast)):=zihz hcl
  have hq:(⟨t.data.toList.dropLast.toArray⟩:ByteArray).size≤1048576:=by
   show t.data.toList.dropLast.toArray.size≤1048576
   rw[List.size_toArray,List.length_dropLast]
   have:t.data.toList.length=t.size:=by simp
   omega
  have CP1:Hid (CB 265 #[.string ⟨t.data.toList.dropLast.toArray⟩] w (vtz (yEz t.data.toList.dropLast))):=CP.out _ hq
  have H8:Hid (∀gs,yEz t.data.toList.dropLast=some gs→gs.length=8):=zbhz _
  generalize (⟨t.data.toList.dropLast.toArray⟩:ByteArray)=Q at CC CP1
  generalize yEz t.data.toList.dropLast=R at HZ CP1 H8
  clear CP hcl hin hq
  cases R with
  |none=>
   go_enter Tryz.func248,Tryz.ntmps248
   go_wp2_with fail
   refine (CC.out _).mono ?_
   rintro e w' ⟨rfl,rfl⟩
   go_wp2_with fail
   refine CP1.out.mono ?_
   rintro e w1 ⟨rfl,b1⟩
   simp only[vtz]
   go_wp2_with fail
   go_ret2
   rw[HZ.out]
   exact ⟨rfl,b1.alloc b1.size _⟩
  |some gs=>
   obtain ⟨x0,x1,x2,x3,x4,x5,x6,x7,hv,hm,_⟩:=znLz (H8.out gs rfl)
   rw[hv]at CP1
   have HM:Hid (mV (xOz t.data.toList)=.iface 144 (.agg #[.int .i64 x0,.int .i64 x1,.int .i64 x2,.int .i64 x3,.int .i64 x4,.int .i64 x5,.int .i64 x6,.int .i64 x7])∧rC (xOz t.data.toList)=0):=by
    show _∧_
    rw[HZ.out]
    exact ⟨hm,rfl⟩
   clear hv hm H8 HZ
   go_enter Tryz.func248,Tryz.ntmps248
   go_wp2_with fail
   refine (CC.out _).mono ?_
   rintro e w' ⟨rfl,rfl⟩
   go_wp2_with fail
   refine CP1.out.mono ?_
   rintro e w1 ⟨rfl,b1⟩
   go_wp2_with fail
   go_ret2
   rw[HM.out.1,HM.out.2]
   exact ⟨rfl,b1.alloc b1.size _⟩
 have HZ:Hid (xOz t.data.toList=.bad 2):=zgMz hcl
 rw[znKz,decide_eq_false hcl]at CC
 have CP1:Hid (∀l:List UInt8,l.length≤1048576→CB 265 #[.string ⟨l.toArray⟩] w (vtz (yEz l))):=fun l hl=>CP.out ⟨l.toArray⟩ (by show l.toArray.size≤_;rw[List.size_toArray];exact hl)
 have hq:(Lib.trimSuffix t.data.toList [93]).length≤1048576:=by
  unfold Lib.trimSuffix
  rw[znKz,decide_eq_false hcl,if_neg (by decide)]
  have:t.data.toList.length=t.size:=by simp
  omega
 have CP2:=CP1.out _ hq
 have H8:Hid (∀gs,yEz (Lib.trimSuffix t.data.toList [93])=some gs→gs.length=8):=zbhz _
 generalize (⟨(Lib.trimSuffix t.data.toList [93]).toArray⟩:ByteArray)=Q at CC CP2
 generalize yEz (Lib.trimSuffix t.data.toList [93])=R at CP2 H8
 obtain ⟨x0,x1,x2,x3,x4,x5,x6,x7,bb,hv⟩:=zlTz H8.out
 rw[hv]at CP2
 have CP3:Hid (CB 265 #[.string Q] w (.tuple #[.agg #[.int .i64 x0,.int .i64 x1,.int .i64 x2,.int .i64 x3,.int .i64 x4,.int .i64 x5,.int .i64 x6,.int .i64 x7],.bool bb])):=CP2
 clear CP CP1 CP2 hcl hq hv H8
 go_enter Tryz.func248,Tryz.ntmps248
 go_wp2_with fail
 refine (CC.out _).mono ?_
 rintro e w' ⟨rfl,rfl⟩
 go_wp2_with fail
 refine CP3.out.mono ?_
 rintro e w1 ⟨rfl,b1⟩
 go_wp2_with fail
 go_ret2
 rw[HZ.out]
 exact ⟨rfl,b1.alloc b1.size _⟩
theorem zhez(s:ByteArray)(w:World)(hs:s.size≤1048576)(hT:Lib.Utf8Tabs 12 13 w):
  Calls Tryz.prog 249 #[.string s] w fun e w'=>e=.returned (.tuple #[mV (xCz s),.int .i64 (rC (xCz s))])∧Below w.heap.size w w':=by
 have CU:Hid (CB 186 #[.string s] w (.string (unB s))):=zcyz s w (by omega)
 have hus:=Nat.le_trans (zkiz s) hs
 have CN:Hid (∀W,Below w.heap.size w W→CB 266 #[.string (unB s)] W (yuz (z6z (unB s)))):=fun W hb=>zgJz (unB s) W hus (zYz hT hb)
 have HZ0:Hid (xCz s=match z6z (unB s)with
  |none=> .bad 3
  |some n=>vlz n):=rfl
 have HL:Hid (∀n,z6z (unB s)=some n→n.length≤253):=fun n hn=>(zdyz hn)
 generalize unB s=u at CU CN HZ0 HL
 clear hT hus
 cases hn:z6z u with
 |none=>
  have HZ:Hid (xCz s=.bad 3):=by
   show _=_
   rw[HZ0.out,hn]
  rw[hn]at CN
  clear hn HZ0 HL
  go_enter Tryz.func249,Tryz.ntmps249
  go_wp2_with fail
  refine CU.out.mono ?_
  rintro e w1 ⟨rfl,b1⟩
  go_wp2_with fail
  refine (CN.out _ b1).mono ?_
  rintro e w2 ⟨rfl,b2⟩
  have B2:=b1.trans (b2.mono b1.size)
  clear b1 b2
  simp only[yuz]
  go_wp2_with fail
  go_ret2
  rw[HZ.out]
  exact ⟨rfl,B2⟩
 |some n=>
  have hl:=HL.out n hn
  have HZ1:Hid (xCz s=vlz n):=by
   show _=_
   rw[HZ0.out,hn]
  rw[hn,show yuz (some n)=.tuple #[.string ⟨n.toArray⟩,.bool true] from rfl]at CN
  have hns:(⟨n.toArray⟩:ByteArray).size≤1048576:=by
   show n.toArray.size≤_
   rw[List.size_toArray]
   omega
  have CE:Hid (∀W,CS 267 #[.string ⟨n.toArray⟩] W (.bool (juz ⟨n.toArray⟩))):=fun W=>zaMz _ W hns
  have CL:Hid (∀W,CB 268 #[.string ⟨n.toArray⟩] W (y1z (loA ⟨n.toArray⟩))):=fun W=>zdBz _ W hns
  have HM:Hid (vlz n=if juz ⟨n.toArray⟩=true then (match loA ⟨n.toArray⟩with
   |none=> .bad 4
   |some v=> .fo v)else .nm n):=rfl
  have HMV:Hid (mV (.nm n)=.iface 142 (.string ⟨n.toArray⟩)):=rfl
  generalize (⟨n.toArray⟩:ByteArray)=T at CN CE CL HM HMV
  clear hn HZ0 HL hl hns
  cases he:juz T with
  |false=>
   have HZ:Hid (xCz s=.nm n):=by
    show _=_
    rw[HZ1.out,HM.out,he,if_neg (by decide)]
   rw[he]at CE
   clear he HZ1 HM CL
   go_enter Tryz.func249,Tryz.ntmps249
   go_wp2_with fail
   refine CU.out.mono ?_
   rintro e w1 ⟨rfl,b1⟩
   go_wp2_with fail
   refine (CN.out _ b1).mono ?_
   rintro e w2 ⟨rfl,b2⟩
   have B2:=b1.trans (b2.mono b1.size)
   clear b1 b2
   go_wp2_with fail
   refine (CE.out _).mono ?_
   rintro e w3 ⟨rfl,rfl⟩
   go_wp2_with fail
   go_ret2
   rw[HZ.out,HMV.out]
   exact ⟨rfl,B2⟩
  |true=>
   rw[he]at CE
   cases hlo:loA T with
   |none=>
    have HZ:Hid (xCz s=.bad 4):=by
     show _=_
     rw[HZ1.out,HM.out,he,if_pos rfl,hlo]
    rw[hlo]at CL
    clear he hlo HZ1 HM HMV
    go_enter Tryz.func249,Tryz.ntmps249
    go_wp2_with fail
    refine CU.out.mono ?_
    rintro e w1 ⟨rfl,b1⟩
    go_wp2_with fail
    refine (CN.out _ b1).mono ?_
    rintro e w2 ⟨rfl,b2⟩
    have B2:=b1.trans (b2.mono b1.size)
    clear b1 b2
    go_wp2_with fail
    refine (CE.out _).mono ?_
    rintro e w3 ⟨rfl,rfl⟩
    go_wp2_with fail
    refine (CL.out _).mono ?_
    rintro e w4 ⟨rfl,b4⟩
    have B4:=B2.trans (b4.mono B2.size)
    clear b4
    simp only[y1z]
    go_wp2_with fail
    go_ret2
    rw[HZ.out]
    exact ⟨rfl,B4⟩
   |some v=>
    have HZ:Hid (xCz s=.fo v):=by
     show _=_
     rw[HZ1.out,HM.out,he,if_pos rfl,hlo]
    rw[hlo]at CL
    clear he hlo HZ1 HM HMV
    go_enter Tryz.func249,Tryz.ntmps249
    go_wp2_with fail
    refine CU.out.mono ?_
    rintro e w1 ⟨rfl,b1⟩
    go_wp2_with fail
    refine (CN.out _ b1).mono ?_
    rintro e w2 ⟨rfl,b2⟩
    have B2:=b1.trans (b2.mono b1.size)
    clear b1 b2
    go_wp2_with fail
    refine (CE.out _).mono ?_
    rintro e w3 ⟨rfl,rfl⟩
    go_wp2_with fail
    refine (CL.out _).mono ?_
    rintro e w4 ⟨rfl,b4⟩
    have B4:=B2.trans (b4.mono B2.size)
    clear b4
    simp only[y1z]
    go_wp2_with fail
    go_ret2
    rw[HZ.out]
    exact ⟨rfl,B4⟩
theorem zfdz(s:ByteArray)(w:World)(hs:s.size≤1048576)(hT:Lib.Utf8Tabs 12 13 w)(hP:Pow w)(hD:zJz w)(hM:MaxI w):
  Calls Tryz.prog 212 #[.string s] w fun e w'=>e=.returned (.tuple #[mV (zmz s),.int .i64 (rC (zmz s))])∧Below w.heap.size w w':=by
 by_cases h0:s.size=0
 ·have HZ:Hid (zmz s=.bad 1):=zhOz h0
  have hem:=zsz h0
  clear hT hP hD hM h0
  go_enter Tryz.func212,Tryz.ntmps212
  go_wp2_with fail
  go_ret2
  rw[HZ.out]
  exact ⟨rfl,Below.refl _ _⟩
 have hp:0<s.size:=by omega
 have hem:=zvz hp
 obtain ⟨d,hd⟩: ∃d:Nat,s[0].toNat=d:=⟨_,rfl⟩
 by_cases h9:d=91
 ·have HZ:Hid (zmz s=xOz (s.extract 1 s.size).data.toList):=zhPz hp (by rw[hd];exact h9)
  have CS:Hid (CB 248 #[.string s] w (.tuple #[mV (xOz (s.extract 1 s.size).data.toList),.int .i64 (rC (xOz (s.extract 1 s.size).data.toList))])):=zlhz s w hs hp hP hD hM
  rw[←HZ.out]at CS
  generalize mV (zmz s)=V at CS⊢
  generalize rC (zmz s)=C at CS⊢
  subst h9
  clear hT hP hD hM h0
  go_enter Tryz.func212,Tryz.ntmps212
  go_wp2_with fail
  refine CS.out.mono ?_
  rintro e w1 ⟨rfl,b1⟩
  go_wp2_with fail
  go_ret2
  exact ⟨rfl,b1⟩
 have HZ:Hid (zmz s=xCz s):=zcQz hp (by rw[hd];exact h9)
 have CS:Hid (CB 249 #[.string s] w (.tuple #[mV (xCz s),.int .i64 (rC (xCz s))])):=zhez s w hs hT
 rw[←HZ.out]at CS
 have q0:((d:Int)==91)=false:=beq_eq_false_iff_ne.2 (by omega)
 generalize mV (zmz s)=V at CS⊢
 generalize rC (zmz s)=C at CS⊢
 clear hT hP hD hM h0 h9
 go_enter Tryz.func212,Tryz.ntmps212
 go_wp2_with fail
 refine CS.out.mono ?_
 rintro e w1 ⟨rfl,b1⟩
 go_wp2_with fail
 go_ret2
 exact ⟨rfl,b1⟩
theorem xQz(s:ByteArray):(rV (zmz s)).z.length=8:=by
 unfold zmz
 split
 ·rfl
 split
 ·unfold xOz
  split
  ·cases h:yEz _ with
   |none=>rfl
   |some g=>
    show (g.map fun (x:Nat)=>(x:Int)).length=8
    rw[List.length_map]
    exact zbhz _ g h
  rfl
 unfold xCz
 split
 ·rfl
 unfold vlz
 split
 ·split<;>rfl
 rfl
theorem zmoz(s:ByteArray):(∃c,zmz s=.bad c)∨(∃l,zmz s=.nm l)∨(∃n,zmz s=.fo n)∨ ∃g,zmz s=.si g:=by
 unfold zmz
 split
 ·exact .inl ⟨_,rfl⟩
 split
 ·unfold xOz
  split
  ·cases yEz _ with
   |none=>exact .inl ⟨_,rfl⟩
   |some g=>exact .inr (.inr (.inr ⟨g,rfl⟩))
  exact .inl ⟨_,rfl⟩
 unfold xCz
 split
 ·exact .inl ⟨_,rfl⟩
 unfold vlz
 split
 ·split
  ·exact .inl ⟨_,rfl⟩
  exact .inr (.inr (.inl ⟨_,rfl⟩))
 exact .inr (.inl ⟨_,rfl⟩)
theorem zliz(s:ByteArray)(w:World):Calls Tryz.prog 82 #[mV (zmz s)] w fun e w'=>e=.returned (y7z (rV (zmz s)))∧Below w.heap.size w w':=by
 have h:=xQz s
 rcases zmoz s with ⟨c,hr⟩|⟨l,hr⟩|⟨n,hr⟩|⟨g,hr⟩
 ·rw[hr];exact zjfz w
 ·rw[hr];exact zdTz _ w
 ·rw[hr];exact zdUz _ w
 rw[hr]at h⊢
 obtain ⟨x0,x1,x2,x3,x4,x5,x6,x7,hx⟩:=jRz h
 have hx2:(g.map fun (x:Nat)=>(x:Int))=[x0,x1,x2,x3,x4,x5,x6,x7]:=hx
 have e1:mV (.si g)=.iface 144 (.agg #[.int .i64 x0,.int .i64 x1,.int .i64 x2,.int .i64 x3,.int .i64 x4,.int .i64 x5,.int .i64 x6,.int .i64 x7]):=by
  show Value.iface 144 (.agg ((g.map fun (x:Nat)=>(x:Int)).map (Value.int .i64)).toArray)=_
  rw[hx2]
  rfl
 have e2:y7z (rV (.si g))=.agg #[.int .i64 3,.string ⟨#[]⟩,.int .i64 0,.int .i64 x0,.int .i64 x1,.int .i64 x2,.int .i64 x3,.int .i64 x4,.int .i64 x5,.int .i64 x6,.int .i64 x7]:=by
  unfold y7z
  rw[hx]
  rfl
 rw[e1,e2]
 exact zdVz x0 x1 x2 x3 x4 x5 x6 x7 w
theorem zcFz(h:HV)(h8:h.z.length=8): ∃x0 x1 x2 x3 x4 x5 x6 x7:Int,h.z=[x0,x1,x2,x3,x4,x5,x6,x7]∧y7z h=.agg #[.int .i64 h.k,.string h.s,.int .i64 h.n,.int .i64 x0,.int .i64 x1,.int .i64 x2,.int .i64 x3,.int .i64 x4,.int .i64 x5,.int .i64 x6,.int .i64 x7]:=by
 obtain ⟨x0,x1,x2,x3,x4,x5,x6,x7,hx⟩:=jRz h8
 refine ⟨x0,x1,x2,x3,x4,x5,x6,x7,hx,?_⟩
 unfold y7z
 rw[hx]
 rfl
theorem zhfz(s:ByteArray)(w:World)(hs:s.size≤1048576)(hT:Lib.Utf8Tabs 12 13 w)(hP:Pow w)(hD:zJz w)(hM:MaxI w):
  Calls Tryz.prog 153 #[.string s] w fun e w'=>e=.returned (.tuple #[y7z (rV (zmz s)),.int .i64 (rC (zmz s))])∧Below w.heap.size w w':=by
 have CM:Hid (∀W,Below w.heap.size w W→CB 212 #[.string s] W (.tuple #[mV (zmz s),.int .i64 (rC (zmz s))])):=fun W hb=>zfdz s W hs (zYz hT hb) (yfz hP hb) (zxz hD hb) (viz hM hb)
 have CO:Hid (∀W,CB 82 #[mV (zmz s)] W (y7z (rV (zmz s)))):=fun W=>zliz s W
 obtain ⟨x0,x1,x2,x3,x4,x5,x6,x7,_,hv⟩:=zcFz _ (xQz s)
 rw[hv]at CO⊢
 generalize mV (zmz s)=V at CM CO
 generalize rC (zmz s)=C at CM⊢
 generalize (rV (zmz s)).k=k at CO⊢
 generalize (rV (zmz s)).s=t at CO⊢
 generalize (rV (zmz s)).n=n at CO⊢
 have HA:Hid (∀o,Below w.heap.size w (w.alloc o)):=fun o=>(Below.refl _ w).alloc (Nat.le_refl _) o
 clear hT hP hD hM hv
 go_enter Tryz.func153,Tryz.ntmps153
 go_wp2_with fail
 refine (CM.out _ (HA.out _)).mono ?_
 rintro e w1 ⟨rfl,b1⟩
 have HB1:Hid (Below (w.alloc (.cells #[.int .i64 0,.string ⟨#[]⟩,.int .i64 0,.int .i64 0,.int .i64 0,.int .i64 0,.int .i64 0,.int .i64 0,.int .i64 0,.int .i64 0,.int .i64 0] 26)).heap.size (w.alloc (.cells #[.int .i64 0,.string ⟨#[]⟩,.int .i64 0,.int .i64 0,.int .i64 0,.int .i64 0,.int .i64 0,.int .i64 0,.int .i64 0,.int .i64 0,.int .i64 0] 26)) w1):=b1
 clear b1
 go_wp2_with fail
 refine (CO.out _).mono ?_
 rintro e w2 ⟨rfl,b2⟩
 have HB2:=HB1.out.trans (b2.mono HB1.out.size)
 clear b2 HB1
 have hc:=yyz w w2 _ _ _ 0 0 0 0 0 0 0 0 _ HB2
 have HR:Hid (xgz w2 w.heap.size (ymz 0 ⟨#[]⟩ 0 0 0 0 0 0 0 0 0)):=zjez hc
 obtain ⟨c0,c1,c2,c3,c4,c5,c6,c7,c8,c9,c10⟩:=hc
 have fz:=zeVz w w2 _ _ HB2
 have B2:Hid (Below w.heap.size w w2):=(HA.out _).trans (HB2.mono (by simp))
 clear HB2
 go_wp2_with fail
 refine bodyPost_ret (xBz rfl _ _ w.heap.size _ k n t x0 x1 x2 x3 x4 x5 x6 x7 rfl rfl (y4z HR.out k n t x0 x1 x2 x3 x4 x5 x6 x7)) rfl ⟨rfl,xAz B2.out (Nat.le_refl _) k n t x0 x1 x2 x3 x4 x5 x6 x7⟩
def hexT(x:Int):ByteArray:=⟨(zCz x.toNat).toArray⟩
def hxT(n:Nat):ByteArray:=⟨#[hxU n]⟩
theorem ztPz{x:Int}(h0:0≤x)(h:x<16):hexT x=hxT x.toNat:=by
 unfold hexT hxT zCz
 rw[if_pos (by omega)]
theorem ztQz{x:Int}(h0:16≤x)(h:x<65536):hexT x=hexT (x/16)++hxT (x%16).toNat:=by
 have e0:(x%16).toNat=x.toNat%16:=by omega
 have e1:(x/16).toNat=x.toNat/16:=by omega
 unfold hexT hxT
 rw[show (⟨#[hxU (x%16).toNat]⟩:ByteArray)=⟨[hxU (x%16).toNat].toArray⟩ from rfl,yoz,e0,e1]
 generalize hn:x.toNat=n
 have hn0:16≤n:=by omega
 have hn1:n<65536:=by omega
 unfold zCz
 by_cases c2:n<256
 ·rw[if_neg (by omega),if_pos c2,if_pos (by omega)];rfl
 by_cases c3:n<4096
 ·rw[if_neg (by omega),if_neg c2,if_pos c3,if_neg (by omega),if_pos (by omega),show n/16/16=n/256 by omega];rfl
 rw[if_neg (by omega),if_neg c2,if_neg c3,if_neg (by omega),if_neg (by omega),if_pos (by omega),show n/16/256=n/4096 by omega,show n/16/16%16=n/256%16 by omega];rfl
theorem ziiz(x:Int):(hexT x).size≤4:=by
 unfold hexT
 show (zCz x.toNat).toArray.size≤4
 rw[List.size_toArray]
 exact (v2z _).2
theorem zsNz: ∀k,k<16→((#[48,49,50,51,52,53,54,55,56,57,97,98,99,100,101,102]:Array UInt8).getD k 0)=hxU k:=by decide+kernel
theorem zljz(x:Int)(h0:0≤x)(h:x<16)(W:World):
  (Instr.index 9 (.string ⟨#[48,49,50,51,52,53,54,55,56,57,97,98,99,100,101,102]⟩) (.int .i64 x)).run Tryz.prog W=.ok (.int .u8 ((hxU x.toNat).toNat:Int)) W:=by
 rw[run_index_string W 9 _ .i64 _ Tryz.underlying9,dif_pos ⟨h0,by show x<16;exact h⟩]
 congr 3
 rw[←zsNz x.toNat (by omega)]
 rw[Array.getD_eq_getD_getElem?,Array.getElem?_eq_getElem (by show x.toNat<16;omega)]
 rfl
theorem znMz(W:World)(B n:Nat)(x:Int)(hx:x=((hxU n).toNat:Int))(h:W.cell? ⟨B,0,none⟩=some (.int .u8 x)):
  (convert 22 9 (.slice (some ⟨B,0,none⟩) 1 1)).run Tryz.prog W=.ok (.string (hxT n)) W:=by
 have:=ziAz W B (hxU n).toNat (hxU n).toNat_lt x hx h
 rw[UInt8.ofNat_toNat]at this
 exact this
theorem zgNz(x:Int)(w:World)(h0:0≤x)(h1:x<16):
  Calls Tryz.prog 140 #[.int .i64 x] w fun e w'=>e=.returned (.string (hexT x))∧Below w.heap.size w w':=by
 rw[ztPz h0 h1]
 have hix:=zljz x h0 h1
 obtain ⟨d,hd⟩: ∃d:Int,((hxU x.toNat).toNat:Int)=d:=⟨_,rfl⟩
 have hcv:(convert 22 9 (.slice (some ⟨w.heap.size,0,none⟩) 1 1)).run Tryz.prog (w.alloc (.cells #[.int .u8 d] 5))=.ok (.string (hxT x.toNat)) (w.alloc (.cells #[.int .u8 d] 5)):=znMz _ _ _ d hd.symm (by rw[World.cell?_alloc_at _ _ _ _ rfl];rfl)
 rw[hd]at hix
 clear hd
 generalize hxT x.toNat=T at hcv⊢
 go_enter Tryz.func140,Tryz.ntmps140
 go_wp2
 go_ret
 exact ⟨rfl,(Below.refl _ _).alloc (Nat.le_refl _) _⟩
theorem zc2z(x:Int)(w:World)(h0:16≤x)(h1:x<65536)(CT:Hid (∀W,Calls Tryz.prog 140 #[.int .i64 (x/16)] W fun e w'=>e=.returned (.string (hexT (x/16)))∧Below W.heap.size W w')):
  Calls Tryz.prog 140 #[.int .i64 x] w fun e w'=>e=.returned (.string (hexT x))∧Below w.heap.size w w':=by
 have HD:Hid (hexT x=hexT (x/16)++hxT (x%16).toNat):=ztQz h0 h1
 have hs1:=ziiz (x/16)
 have hs2:(hxT (x%16).toNat).size=1:=rfl
 have hix:=zljz (x%16) (by omega) (by omega)
 obtain ⟨d,hd⟩: ∃d:Int,((hxU (x%16).toNat).toNat:Int)=d:=⟨_,rfl⟩
 rw[hd]at hix
 have ho:Hid (∀(W':World) (B:Nat),W'.cell? ⟨B,0,none⟩=some (.int .u8 d)→(convert 22 9 (.slice (some ⟨B,0,none⟩) 1 1)).run Tryz.prog W'=.ok (.string (hxT (x%16).toNat)) W'):=fun W' B h=>znMz W' B _ d hd.symm h
 clear hd
 have hn:Hid (∀W:World,(convert 22 9 (.slice (some ⟨W.heap.size,0,none⟩) 1 1)).run Tryz.prog (W.alloc (.cells #[.int .u8 d] 5))=.ok (.string (hxT (x%16).toNat)) (W.alloc (.cells #[.int .u8 d] 5))):=fun W=>ho.out _ _ (by rw[World.cell?_alloc_at _ _ _ _ rfl];rfl)
 obtain ⟨z,hz⟩: ∃z:Int,x%16=z:=⟨_,rfl⟩
 obtain ⟨y,hy⟩: ∃y:Int,x/16=y:=⟨_,rfl⟩
 rw[hz]at hn ho hs2 HD hix
 rw[hy]at CT hs1 HD
 have hz0:0≤z:=by omega
 have hz1:z<16:=by omega
 have hy0:0≤y:=by omega
 have hy1:y<4096:=by omega
 generalize hxT z.toNat=T2 at hn ho hs2 HD
 generalize hexT y=T1 at CT hs1 HD
 rw[HD.out]
 clear HD
 have hn2:=hn.out
 have hce:(w.alloc (.cells #[.int .u8 d] 5)).drew.cell? ⟨w.heap.size,0,none⟩=some (.int .u8 d):=by
  show (w.alloc (.cells #[.int .u8 d] 5)).cell? ⟨w.heap.size,0,none⟩=_
  rw[World.cell?_alloc_at _ _ _ _ rfl];rfl
 have hn3:=ho.out _ _ hce
 have HCE:Hid ((w.alloc (.cells #[.int .u8 d] 5)).drew.cell? ⟨w.heap.size,0,none⟩=some (.int .u8 d)):=hce
 clear hce
 have t1:IntKind.i64.wrap (x.tdiv 16)=y:=by rw[Int.tdiv_eq_ediv_of_nonneg (by omega),hy];exact ywz _ (by omega) (by omega)
 have t2:x.tmod 16=z:=by rw[Int.tmod_eq_emod_of_nonneg (by omega),hz]
 clear hy hz
 go_enter Tryz.func140,Tryz.ntmps140
 go_wp2_with fail
 go_region_with (go_at_call 140;refine (CT.out _).mono ?_;rintro e wc ⟨rfl,hbc⟩;first|have hcc:=ho.out _ _ (cell_later hbc HCE.out)|skip)
 all_goals
  go_wp2
  go_ret
  refine ⟨rfl,?_⟩
  first
   |exact ((Below.drew (Below.refl _ w)).trans hbc).alloc (Nat.le_trans (Nat.le_refl _) hbc.size) _
   |exact (((Below.refl w.heap.size w).alloc (Nat.le_refl _) _).drew).trans (hbc.mono (by simp))
theorem zoVz(x:Int)(w:World)(h0:0≤x)(h1:x<65536):
  Calls Tryz.prog 140 #[.int .i64 x] w fun e w'=>e=.returned (.string (hexT x))∧Below w.heap.size w w':=by
 have g1: ∀(x:Int) (w:World),0≤x→x<256→CB 140 #[.int .i64 x] w (.string (hexT x)):=fun x w h0 h1=>by
  by_cases c:x<16
  ·exact zgNz x w h0 c
  exact zc2z x w (by omega) (by omega) fun W=>zgNz _ W (by omega) (by omega)
 have g2: ∀(x:Int) (w:World),0≤x→x<4096→CB 140 #[.int .i64 x] w (.string (hexT x)):=fun x w h0 h1=>by
  by_cases c:x<256
  ·exact g1 x w h0 c
  exact zc2z x w (by omega) (by omega) fun W=>g1 _ W (by omega) (by omega)
 by_cases c:x<4096
 ·exact g2 x w h0 c
 exact zc2z x w (by omega) (by omega) fun W=>g2 _ W (by omega) (by omega)
def tx(gs:List Nat)(f t k:Nat):List UInt8:=if k≤f then gtL (gs.take k)else gtL (gs.take f)++58::58::gtL ((gs.drop t).take (k-t))
theorem zsOz{gs:List Nat}{f t:Nat}(hl:gs.length=8)(h:0<f):tx gs f t (0+1)=tx gs f t 0++zCz (gs.getD 0 0):=by
 unfold tx
 rw[if_pos (by omega),if_pos (by omega),ziSz gs (by omega)]
 rfl
theorem ztRz{gs:List Nat}{f t k:Nat}(hl:gs.length=8)(hk:0<k)(h:k<f)(h8:k<8):tx gs f t (k+1)=tx gs f t k++[58]++zCz (gs.getD k 0):=by
 unfold tx
 rw[if_pos (by omega),if_pos (by omega),ziTz gs k (by omega) hk]
theorem ztSz{gs:List Nat}{f t:Nat}(h:f<t):tx gs f t t=tx gs f t f++[58,58]:=by
 unfold tx
 rw[if_neg (by omega),if_pos (by omega),Nat.sub_self,List.take_zero]
 rfl
theorem ztTz{gs:List Nat}{f t:Nat}(hl:gs.length=8)(h:f<t)(h8:t<8):tx gs f t (t+1)=tx gs f t t++zCz (gs.getD t 0):=by
 unfold tx
 rw[if_neg (by omega),if_neg (by omega),Nat.sub_self,List.take_zero,show t+1-t=1 by omega,ziSz _ (by rw[List.length_drop];omega)]
 rw[show (gs.drop t).getD 0 0=gs.getD t 0 by simp[List.getD]]
 simp[gtL,jl]
theorem tx_hi{gs:List Nat}{f t k:Nat}(hl:gs.length=8)(h:f<t)(hk:t<k)(h8:k<8):tx gs f t (k+1)=tx gs f t k++[58]++zCz (gs.getD k 0):=by
 unfold tx
 rw[if_neg (by omega),if_neg (by omega),show k+1-t=(k-t)+1 by omega,ziTz _ (k-t) (by rw[List.length_drop];omega) (by omega)]
 rw[show (gs.drop t).getD (k-t) 0=gs.getD k 0 by simp[List.getD,show t+(k-t)=k by omega]]
 simp
theorem zjqz{gs:List Nat}{f t k:Nat}(hl:gs.length=8):(tx gs f t k).length≤100:=by
 unfold tx
 have g1:=(zaqz (gs.take k)).1
 have g2:=(zaqz (gs.take f)).1
 have g3:=(zaqz ((gs.drop t).take (k-t))).1
 simp only[List.length_take,List.length_drop]at g1 g2 g3
 split
 ·omega
 simp only[List.length_append,List.length_cons]
 omega
theorem ztUz(x0 x1 x2 x3 x4 x5 x6 x7:Int)(hok:okG [x0,x1,x2,x3,x4,x5,x6,x7]=true):
  tx ([x0,x1,x2,x3,x4,x5,x6,x7].map Int.toNat) (xEz 0 (8,8) (zb [x0,x1,x2,x3,x4,x5,x6,x7])).1 (xEz 0 (8,8) (zb [x0,x1,x2,x3,x4,x5,x6,x7])).2 8=xbz [x0,x1,x2,x3,x4,x5,x6,x7]:=by
 have h:=zeqz x0 x1 x2 x3 x4 x5 x6 x7
 unfold xbz
 rw[if_pos hok]
 have hl:([x0,x1,x2,x3,x4,x5,x6,x7].map Int.toNat).length=8:=rfl
 generalize [x0,x1,x2,x3,x4,x5,x6,x7].map Int.toNat=gs at hl
 unfold zcNz at h
 generalize vpz 0 (0,0,0) (zb [x0,x1,x2,x3,x4,x5,x6,x7])=p at h
 generalize xEz 0 (8,8) (zb [x0,x1,x2,x3,x4,x5,x6,x7])=q at h
 simp only[Bool.and_eq_true,decide_eq_true_eq]at h
 obtain ⟨⟨h1,h2⟩,h3⟩:=h
 by_cases c:p.2.1-p.1<2
 ·rw[if_pos c]at h3
  simp only[decide_eq_true_eq]at h3
  subst h3
  unfold tx ip6T
  rw[if_pos (by simp),if_pos c,List.take_of_length_le (by omega)]
 rw[if_neg c]at h3
 simp only[Bool.and_eq_true,decide_eq_true_eq]at h3
 rw[h3.1]
 unfold tx ip6T
 simp only
 rw[if_neg (by omega),if_neg c,List.take_of_length_le (l:=gs.drop p.2.1) (by rw[List.length_drop];omega)]
theorem zsPz(x0 x1 x2 x3 x4 x5 x6 x7:Int):((xEz 0 (8,8) (zb [x0,x1,x2,x3,x4,x5,x6,x7])).1=8∧(xEz 0 (8,8) (zb [x0,x1,x2,x3,x4,x5,x6,x7])).2=8)∨((xEz 0 (8,8) (zb [x0,x1,x2,x3,x4,x5,x6,x7])).1<(xEz 0 (8,8) (zb [x0,x1,x2,x3,x4,x5,x6,x7])).2∧(xEz 0 (8,8) (zb [x0,x1,x2,x3,x4,x5,x6,x7])).2≤8):=by
 have h:=zeqz x0 x1 x2 x3 x4 x5 x6 x7
 unfold zcNz at h
 generalize vpz 0 (0,0,0) (zb [x0,x1,x2,x3,x4,x5,x6,x7])=p at h
 generalize xEz 0 (8,8) (zb [x0,x1,x2,x3,x4,x5,x6,x7])=q at h
 simp only[Bool.and_eq_true,decide_eq_true_eq]at h
 obtain ⟨⟨h1,h2⟩,h3⟩:=h
 by_cases c:p.2.1-p.1<2
 ·rw[if_pos c]at h3
  simp only[decide_eq_true_eq]at h3
  subst h3
  exact .inl ⟨rfl,rfl⟩
 rw[if_neg c]at h3
 simp only[Bool.and_eq_true,decide_eq_true_eq]at h3
 rw[h3.1]
 exact .inr ⟨by simp only;omega,h2⟩
theorem zsQz{z:List Int}(h:okG z=false):xbz z=[]:=by unfold xbz;rw[h];rfl
theorem ze2z(x0 x1 x2 x3 x4 x5 x6 x7:Int)(w:World):
  Calls Tryz.prog 88 #[.agg #[.int .i64 x0,.int .i64 x1,.int .i64 x2,.int .i64 x3,.int .i64 x4,.int .i64 x5,.int .i64 x6,.int .i64 x7]] w fun e w'=>e=.returned (.string ⟨(xbz [x0,x1,x2,x3,x4,x5,x6,x7]).toArray⟩)∧Below w.heap.size w w':=by
 have HC:Hid (∀k,k<8→(w.alloc (.cells #[.int .i64 x0,.int .i64 x1,.int .i64 x2,.int .i64 x3,.int .i64 x4,.int .i64 x5,.int .i64 x6,.int .i64 x7] 24)).cell? ⟨w.heap.size,k,none⟩=some (.int .i64 ([x0,x1,x2,x3,x4,x5,x6,x7].getD k 0))):=fun k hk=>zgaz w x0 x1 x2 x3 x4 x5 x6 x7 k hk
 have CR:Hid (∀W,CB 139 #[.agg #[.int .i64 x0,.int .i64 x1,.int .i64 x2,.int .i64 x3,.int .i64 x4,.int .i64 x5,.int .i64 x6,.int .i64 x7]] W (rowW (xEz 0 (8,8) (zb [x0,x1,x2,x3,x4,x5,x6,x7])))):=fun W=>zsez x0 x1 x2 x3 x4 x5 x6 x7 W
 have HE:Hid (okG [x0,x1,x2,x3,x4,x5,x6,x7]=true→tx ([x0,x1,x2,x3,x4,x5,x6,x7].map Int.toNat) (xEz 0 (8,8) (zb [x0,x1,x2,x3,x4,x5,x6,x7])).1 (xEz 0 (8,8) (zb [x0,x1,x2,x3,x4,x5,x6,x7])).2 8=xbz [x0,x1,x2,x3,x4,x5,x6,x7]):=ztUz x0 x1 x2 x3 x4 x5 x6 x7
 have HRO:Hid (((xEz 0 (8,8) (zb [x0,x1,x2,x3,x4,x5,x6,x7])).1=8∧(xEz 0 (8,8) (zb [x0,x1,x2,x3,x4,x5,x6,x7])).2=8)∨((xEz 0 (8,8) (zb [x0,x1,x2,x3,x4,x5,x6,x7])).1<(xEz 0 (8,8) (zb [x0,x1,x2,x3,x4,x5,x6,x7])).2∧(xEz 0 (8,8) (zb [x0,x1,x2,x3,x4,x5,x6,x7])).2≤8)):=zsPz x0 x1 x2 x3 x4 x5 x6 x7
 generalize xEz 0 (8,8) (zb [x0,x1,x2,x3,x4,x5,x6,x7])=r at CR HE HRO
 obtain ⟨f,t⟩:=r
 simp only[rowW]at CR HE HRO
 generalize hz:[x0,x1,x2,x3,x4,x5,x6,x7]=z at HC HE⊢
 have HZL:Hid (z.length=8):=by show _=_;rw[←hz];rfl
 have HZZ:Hid ([x0,x1,x2,x3,x4,x5,x6,x7]=z):=hz
 clear hz
 go_enter Tryz.func88,Tryz.ntmps88
 go_wp2
 go_loop[3] (fun i=> ∃k:Nat,k≤8∧i=.int .i64 k∧ ∀x∈z.take k,0≤x∧x≤65535) (fun i=>8-(intOf i).toNat)
 case atStart=>exact ⟨0,by omega,rfl,fun x hx=>by simp at hx⟩
 obtain ⟨k,hk,rfl,hall⟩:=hrel
 have HA0:Hid (∀x∈z.take k,0≤x∧x≤65535):=hall
 clear hall
 by_cases hlt:k<8
 ·have hce:=HC.out k hlt
  have HT:Hid (z.take (k+1)=z.take k++[z.getD k 0]):=jGz z k (by have:=HZL.out;omega)
  have HM:Hid (z.getD k 0∈z):=by
   show _∈_
   rw[List.getD_eq_getElem?_getD,List.getElem?_eq_getElem (by have:=HZL.out;omega)]
   exact List.getElem_mem _
  have hki:(k:Int)<8:=by omega
  generalize z.getD k 0=y at hce HT HM
  by_cases hy:0≤y∧y≤65535
  ·obtain ⟨hy0,hy1⟩:=hy
   go_wp2_with fail
   refine (zfz _ _ _ _ hy0 hy1).mono ?_
   rintro e w' ⟨rfl,rfl⟩
   go_wp2_with fail
   go_round
   case rel=>
    refine ⟨k+1,by omega,by go_num,fun x hx=> ?_⟩
    rw[HT.out]at hx
    rcases List.mem_append.1 hx with h|h
    ·exact HA0.out x h
    rw[List.mem_singleton.1 h];exact ⟨hy0,hy1⟩
   case measure=>simp[intOf];omega
  have HF:Hid (xbz z=[]):=zsQz (zp2z HM.out hy)
  have HY:Hid (y<0∨65535<y):=by show _∨_;omega
  clear hy
  go_wp2_with fail
  refine (zlz _ _ _ _ HY.out).mono ?_
  rintro e w' ⟨rfl,rfl⟩
  go_wp2_with fail
  go_ret
  exact ⟨by rw[HF.out];rfl,(Below.refl _ _).alloc (Nat.le_refl _) _⟩
 have HA:Hid (∀x∈z,0≤x∧x≤65535):=fun x hx=>HA0.out x (by rw[List.take_of_length_le (by have:=HZL.out;omega)];exact hx)
 have HEE:Hid (tx (z.map Int.toNat) f t 8=xbz z):=HE.out (zfnz HA.out)
 have hki: ¬(k:Int)<8:=by omega
 have hfl:f≤8∧t≤8:=by have:=HRO.out;omega
 obtain ⟨hf8,ht8⟩:=hfl
 have HGL:Hid ((z.map Int.toNat).length=8):=by show _=_;rw[List.length_map];exact HZL.out
 clear HA0 HE hk hlt
 have hcs:True:=trivial
 have HC0:Hid (∀k,k<8→(w.alloc (.cells #[.int .i64 x0,.int .i64 x1,.int .i64 x2,.int .i64 x3,.int .i64 x4,.int .i64 x5,.int .i64 x6,.int .i64 x7] 24)).cell? ⟨w.heap.size,k,none⟩=some (.int .i64 ([x0,x1,x2,x3,x4,x5,x6,x7].getD k 0))):=fun k hk=>zgaz w x0 x1 x2 x3 x4 x5 x6 x7 k hk
 have a0:(w.alloc (.cells #[.int .i64 x0,.int .i64 x1,.int .i64 x2,.int .i64 x3,.int .i64 x4,.int .i64 x5,.int .i64 x6,.int .i64 x7] 24)).cell? ⟨w.heap.size,0,none⟩=some (.int .i64 x0):=HC0.out 0 (by decide)
 have a1:(w.alloc (.cells #[.int .i64 x0,.int .i64 x1,.int .i64 x2,.int .i64 x3,.int .i64 x4,.int .i64 x5,.int .i64 x6,.int .i64 x7] 24)).cell? ⟨w.heap.size,1,none⟩=some (.int .i64 x1):=HC0.out 1 (by decide)
 have a2:(w.alloc (.cells #[.int .i64 x0,.int .i64 x1,.int .i64 x2,.int .i64 x3,.int .i64 x4,.int .i64 x5,.int .i64 x6,.int .i64 x7] 24)).cell? ⟨w.heap.size,2,none⟩=some (.int .i64 x2):=HC0.out 2 (by decide)
 have a3:(w.alloc (.cells #[.int .i64 x0,.int .i64 x1,.int .i64 x2,.int .i64 x3,.int .i64 x4,.int .i64 x5,.int .i64 x6,.int .i64 x7] 24)).cell? ⟨w.heap.size,3,none⟩=some (.int .i64 x3):=HC0.out 3 (by decide)
 have a4:(w.alloc (.cells #[.int .i64 x0,.int .i64 x1,.int .i64 x2,.int .i64 x3,.int .i64 x4,.int .i64 x5,.int .i64 x6,.int .i64 x7] 24)).cell? ⟨w.heap.size,4,none⟩=some (.int .i64 x4):=HC0.out 4 (by decide)
 have a5:(w.alloc (.cells #[.int .i64 x0,.int .i64 x1,.int .i64 x2,.int .i64 x3,.int .i64 x4,.int .i64 x5,.int .i64 x6,.int .i64 x7] 24)).cell? ⟨w.heap.size,5,none⟩=some (.int .i64 x5):=HC0.out 5 (by decide)
 have a6:(w.alloc (.cells #[.int .i64 x0,.int .i64 x1,.int .i64 x2,.int .i64 x3,.int .i64 x4,.int .i64 x5,.int .i64 x6,.int .i64 x7] 24)).cell? ⟨w.heap.size,6,none⟩=some (.int .i64 x6):=HC0.out 6 (by decide)
 have a7:(w.alloc (.cells #[.int .i64 x0,.int .i64 x1,.int .i64 x2,.int .i64 x3,.int .i64 x4,.int .i64 x5,.int .i64 x6,.int .i64 x7] 24)).cell? ⟨w.heap.size,7,none⟩=some (.int .i64 x7):=HC0.out 7 (by decide)
 go_wp2_with fail
 refine (CR.out _).mono ?_
 rintro e w1 ⟨rfl,b1⟩
 have HB1:Hid (Below (w.alloc (.cells #[.int .i64 x0,.int .i64 x1,.int .i64 x2,.int .i64 x3,.int .i64 x4,.int .i64 x5,.int .i64 x6,.int .i64 x7] 24)).heap.size (w.alloc (.cells #[.int .i64 x0,.int .i64 x1,.int .i64 x2,.int .i64 x3,.int .i64 x4,.int .i64 x5,.int .i64 x6,.int .i64 x7] 24)) w1):=b1
 clear b1 a0 a1 a2 a3 a4 a5 a6 a7 HC0 hcs CR
 go_wp2_with fail
 go_loopw[6,7] (fun S i wr=> ∃(k:Nat) (T:ByteArray),(k≤f∨t≤k)∧k≤8∧i=.int .i64 k∧S=.string T∧T.size≤100∧T=⟨(tx (z.map Int.toNat) f t k).toArray⟩∧Below (w.alloc (.cells #[.int .i64 x0,.int .i64 x1,.int .i64 x2,.int .i64 x3,.int .i64 x4,.int .i64 x5,.int .i64 x6,.int .i64 x7] 24)).heap.size (w.alloc (.cells #[.int .i64 x0,.int .i64 x1,.int .i64 x2,.int .i64 x3,.int .i64 x4,.int .i64 x5,.int .i64 x6,.int .i64 x7] 24)) wr) (fun _ i _=>8-(intOf i).toNat)
 case atStart=>exact ⟨0,⟨#[]⟩,.inl (Nat.zero_le _),by omega,rfl,rfl,by decide,rfl,HB1.out⟩
 obtain ⟨k,T,hkr,hk,rfl,rfl,hTs,hTe,hb1⟩:=hrel
 have HTE:Hid (T=⟨(tx (z.map Int.toNat) f t k).toArray⟩):=hTe
 have HBW:Hid (Below w.heap.size w wr):=((Below.refl _ w).alloc (Nat.le_refl _) _).trans (hb1.mono (by simp))
 have HKR:Hid (k≤f∨t≤k):=hkr
 clear hTe hkr
 by_cases hlt:k<8
 ·have hki:(k:Int)<8:=by omega
  by_cases hkf:k=f
  ·have hft:f<t:=by have:=HRO.out;omega
   have hkq:((k:Int)==(f:Int))=true:=by simp;omega
   have HKF:Hid (k=f):=hkf
   have HT2:Hid (tx (z.map Int.toNat) f t t=tx (z.map Int.toNat) f t f++[58,58]):=ztSz hft
   have ht0:0<(t:Int):=by omega
   clear hkf
   have zc:(⟨#[58,58]⟩:ByteArray).size=2:=rfl
   go_wp2_with fail
   go_roundw
   case rel=>
    refine ⟨t,T++⟨#[58,58]⟩,.inr (Nat.le_refl _),ht8,by go_num,rfl,?_,?_,hb1⟩
    ·have h1:=HT2.out
     have h2:=zjqz (f:=f) (t:=t) (k:=t) HGL.out
     have h3:=HTE.out
     rw[HKF.out]at h3
     rw[show (T++⟨#[58,58]⟩:ByteArray)=⟨(tx (z.map Int.toNat) f t t).toArray⟩ by rw[h1,h3,show (⟨#[58,58]⟩:ByteArray)=⟨[58,58].toArray⟩ from rfl,yoz]]
     show (tx (z.map Int.toNat) f t t).toArray.size≤100
     rw[List.size_toArray]
     exact h2
    have h3:=HTE.out
    rw[HKF.out]at h3
    rw[HT2.out,h3,show (⟨#[58,58]⟩:ByteArray)=⟨[58,58].toArray⟩ from rfl,yoz]
   case measure=>simp[intOf];have:=HKF.out;omega
  have hkq:((k:Int)==(f:Int))=false:=by simp;omega
  have hce:=cell_later hb1 (HC.out k (by omega))
  have hgr:=HA.out (z.getD k 0) (by
   rw[List.getD_eq_getElem?_getD,List.getElem?_eq_getElem (by have:=HZL.out;omega)]
   exact List.getElem_mem _)
  have CT:Hid (∀W,CB 140 #[.int .i64 (z.getD k 0)] W (.string (hexT (z.getD k 0)))):=fun W=>zoVz _ W (by omega) (by omega)
  have HX:Hid (hexT (z.getD k 0)=⟨(zCz ((z.map Int.toNat).getD k 0)).toArray⟩):=by
   show _=_
   unfold hexT
   simp only[List.getD_eq_getElem?_getD]
   rw[List.getElem?_eq_getElem (by have:=HZL.out;omega),List.getElem?_eq_getElem (by rw[List.length_map];have:=HZL.out;omega),List.getElem_map]
   rfl
  have hs2:=ziiz (z.getD k 0)
  generalize hexT (z.getD k 0)=T2 at CT HX hs2
  generalize z.getD k 0=y at hce CT hgr
  clear hgr
  by_cases hcol:k=0∨k=t
  ·have HS:Hid (tx (z.map Int.toNat) f t (k+1)=tx (z.map Int.toNat) f t k++zCz ((z.map Int.toNat).getD k 0)):=by
    show _=_
    have h1:=HKR.out
    have h2:=HRO.out
    by_cases h0:k=0
    ·subst h0
     exact zsOz HGL.out (by omega)
    have h3:k=t:=by omega
    subst h3
    exact ztTz HGL.out (by omega) hlt
   by_cases hk0:0<k
   ·have hk0':0<(k:Int):=by omega
    have hkt:((k:Int)==(t:Int))=true:=by simp;omega
    clear hcol hk0
    clear hkf
    go_wp2_with fail
    refine (CT.out _).mono ?_
    rintro e w2 ⟨rfl,b2⟩
    have B2:=hb1.trans (b2.mono hb1.size)
    clear b2 hb1 hce
    go_wp2_with fail
    go_roundw
    case rel=>
     have e1:(T++T2:ByteArray)=⟨(tx (z.map Int.toNat) f t (k+1)).toArray⟩:=by
      rw[HS.out,HTE.out,HX.out,yoz]
     refine ⟨k+1,T++T2,?_,by omega,by go_num,rfl,?_,e1,B2⟩
     ·have h1:=HKR.out
      have h2:k≠f:=fun h=>by simp[h]at hkq
      omega
     rw[e1]
     show (tx (z.map Int.toNat) f t (k+1)).toArray.size≤100
     rw[List.size_toArray]
     exact zjqz HGL.out
    case measure=>simp[intOf];omega
   have hk0': ¬0<(k:Int):=by omega
   clear hcol hk0
   clear hkf
   go_wp2_with fail
   refine (CT.out _).mono ?_
   rintro e w2 ⟨rfl,b2⟩
   have B2:=hb1.trans (b2.mono hb1.size)
   clear b2 hb1 hce
   go_wp2_with fail
   go_roundw
   case rel=>
    have e1:(T++T2:ByteArray)=⟨(tx (z.map Int.toNat) f t (k+1)).toArray⟩:=by
     rw[HS.out,HTE.out,HX.out,yoz]
    refine ⟨k+1,T++T2,?_,by omega,by go_num,rfl,?_,e1,B2⟩
    ·have h1:=HKR.out
     have h2:k≠f:=fun h=>by simp[h]at hkq
     omega
    rw[e1]
    show (tx (z.map Int.toNat) f t (k+1)).toArray.size≤100
    rw[List.size_toArray]
    exact zjqz HGL.out
   case measure=>simp[intOf];omega
  have HS:Hid (tx (z.map Int.toNat) f t (k+1)=tx (z.map Int.toNat) f t k++[58]++zCz ((z.map Int.toNat).getD k 0)):=by
   show _=_
   have h1:=HKR.out
   have h2:=HRO.out
   by_cases h0:k<f
   ·exact ztRz HGL.out (by omega) h0 hlt
   exact tx_hi HGL.out (by omega) (by omega) hlt
  have hk0:0<(k:Int):=by omega
  have hkt:((k:Int)==(t:Int))=false:=by simp;omega
  clear hcol hkf
  have zc:(⟨#[58]⟩:ByteArray).size=1:=rfl
  go_wp2_with fail
  refine (CT.out _).mono ?_
  rintro e w2 ⟨rfl,b2⟩
  have B2:=hb1.trans (b2.mono hb1.size)
  clear b2 hb1 hce
  go_wp2_with fail
  go_roundw
  case rel=>
   have e1:(T++⟨#[58]⟩++T2:ByteArray)=⟨(tx (z.map Int.toNat) f t (k+1)).toArray⟩:=by
    rw[HS.out,HTE.out,HX.out,show (⟨#[58]⟩:ByteArray)=⟨[58].toArray⟩ from rfl,yoz,yoz]
   refine ⟨k+1,T++⟨#[58]⟩++T2,?_,by omega,by go_num,rfl,?_,e1,B2⟩
   ·have h1:=HKR.out
    have h2:k≠f:=fun h=>by simp[h]at hkq
    omega
   rw[e1]
   show (tx (z.map Int.toNat) f t (k+1)).toArray.size≤100
   rw[List.size_toArray]
   exact zjqz HGL.out
  case measure=>simp[intOf];omega
 have HTT:Hid ((⟨(xbz z).toArray⟩:ByteArray)=T):=by
  show _=_
  have h8:k=8:=by omega
  rw[HTE.out,h8,HEE.out]
 have hki: ¬(k:Int)<8:=by omega
 go_wp2_with fail
 go_ret
 exact ⟨by rw[HTT.out];rfl,HBW.out⟩
end Go.Proofs.YtgcbaphbiaimoaaGreatDoor
