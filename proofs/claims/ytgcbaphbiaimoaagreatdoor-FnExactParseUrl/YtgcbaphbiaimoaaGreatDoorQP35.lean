/- UrlImpl4, UrlImpl5, HostMarks, UrlMarks, UrlEq, Draw2Walk, Draw4Walk. -/
import Derived.Test.YtgcbaphbiaimoaaGreatDoorQP34
set_option maxHeartbeats 8000000
set_option maxRecDepth 100000
namespace Go.Proofs.YtgcbaphbiaimoaaGreatDoor
open Go.RowKit
attribute [local go_sem↓] Go.wp_at_zero Go.wp_at_succ
theorem zisz{p:UInt8→Bool}: ∀{l:List UInt8} {c:UInt8} {r:List UInt8},l.dropWhile p=c::r→p c=false
 |[],c,r,h=>by cases h
 |b::l,c,r,h=>by
  rw[List.dropWhile_cons]at h
  cases hb:p b with
  |true=>rw[hb,if_pos rfl]at h;exact zisz h
  |false=>
   rw[hb,if_neg (by decide)]at h
   cases h
   exact hb
theorem has_q(l:List UInt8):(!(l.dropWhile fun c=>c !=63).isEmpty)=l.contains 63:=by
 have h:=zexz 63 l
 induction l with
 |nil=>rfl
 |cons b l ih=>
  by_cases hb:b=63
  ·subst hb;simp
  have h3:(b !=63)=true:=bne_iff_ne.2 hb
  have h2:(b::l).contains 63=l.contains 63:=by simp[Ne.symm hb]
  rw[List.dropWhile_cons,h3,if_pos rfl,h2]
  exact ih (zexz 63 l)
theorem zrJz(s:Int)(h:HV)(p:Int)(l:ByteArray):zaQz s h p l.data.toList=⟨s,h,p,ptP ⟨(upB 63 l.data.toList).toArray⟩,l.data.toList.contains 63,plB 2 ⟨(y9z 63 l.data.toList).toArray⟩⟩:=by
 unfold zaQz
 rw[has_q]
 rfl
theorem zrKz{u:UV}(h:uOk u=true):fitU u=if (uTx u).length≤2000 then (0,u)else (1,y3z):=by
 unfold fitU
 rw[zgTz h]
theorem zs6z(set:Int)(x:ByteArray):(plB set x).size≤3*x.size:=zd9z set x
theorem zrLz(l:ByteArray)(h:l.size≤2000):(ptP l).size≤10000:=by
 unfold ptP
 refine Nat.le_trans (zgmz _) (Nat.le_trans (zd9z _ _) ?_)
 have h1:(orSl l.data.toList).length≤2000:=by
  unfold orSl
  split
  ·decide
  have e:l.data.toList.length=l.size:=by simp
  omega
 have h2:(⟨(yRz (orSl l.data.toList)).toArray⟩:ByteArray).size=(orSl l.data.toList).length:=by
  rw[yVz,vxz]
 omega
def PQ(w:World)(HB:Nat)(row:List Value)(W:World):Prop:=PU w zHz W∧UAt W HB row∧w.heap.size<HB
theorem PQ.later{w:World}{HB:Nat}{row:List Value}{W W':World}(h:PQ w HB row W)(hb:Below W.heap.size W W'):PQ w HB row W':=⟨h.1.later hb,h.2.1.below hb,h.2.2⟩
theorem PQ.drew{w:World}{HB:Nat}{row:List Value}{W:World}(h:PQ w HB row W):PQ w HB row W.drew:=⟨h.1.drew,h.2⟩
theorem PQ.alloc{w:World}{HB:Nat}{row:List Value}{W:World}(h:PQ w HB row W)(o:Obj):PQ w HB row (W.alloc o):=h.later ((Below.refl _ _).alloc (Nat.le_refl _) o)
theorem PQ.moved{w:World}{HB C:Nat}{row:List Value}{W W':World}(h:PQ w HB row W)(h1:w.heap.size<C)(h2:HB≠C)(hM:ze3z C W W'):PQ w HB row W':=⟨h.1.moved h1 hM,hM.1 _ _ h2 h.2.1,h.2.2⟩
theorem zbpz{W:World}{U:Nat}{vs us:List Value}(hU:UAt W U vs)(hl:vs.length=16)(hm:us.length=16):UAt (W.setCells U 0 us.toArray.toList) U us:=by
 have h:=zbZz us 0 W vs (by rw[hl,hm];decide) hU
 have e:vs.take 0++(us++vs.drop (0+us.length))=us:=by rw[hm,List.drop_of_length_le (by omega)];simp
 rw[e]at h
 exact h
def errR(l:List UInt8):Value:=.tuple #[zb1z (zwz l).2,errV (zwz l).1]
theorem zlvz(s:ByteArray)(w:World)(hs:s.size≤1099511627776)(hT:Lib.Utf8Tabs 12 13 w)(hP:Pow w)(hD:zJz w)(hM:MaxI w)(hK:xLz w):
  Calls Tryz.prog 46 #[.string s] w fun e w'=>e=.returned (errR s.data.toList)∧Below w.heap.size w w':=by
 have HTA:Hid (∀W,Below w.heap.size w W→Lib.Utf8Tabs 12 13 W∧Pow W∧zJz W∧MaxI W∧xLz W):=fun W hb=>⟨zYz hT hb,yfz hP hb,zxz hD hb,viz hM hb,hK.later hb⟩
 clear hT hP hD hM hK
 have hsl:s.data.toList.length=s.size:=by simp
 obtain ⟨O,hO⟩: ∃O,O=w.alloc (.cells #[.int .i64 0,.int .i64 0,.string ⟨#[]⟩,.int .i64 0,.int .i64 0,.int .i64 0,.int .i64 0,.int .i64 0,.int .i64 0,.int .i64 0,.int .i64 0,.int .i64 0,.int .i64 0,.string ⟨#[]⟩,.bool false,.string ⟨#[]⟩] 28):=⟨_,rfl⟩
 have HU:Hid (PU w zHz O):=by
  rw[hO]
  exact PU.new w _ _
 go_enter Tryz.func46,Tryz.ntmps46
 go_upto_region 1 with fail
 rw[←hO]
 clear hO
 by_cases hbig:2000<s.size
 ·have HZ:Hid (zwz s.data.toList=(1,y3z)):=by show _=_;unfold zwz;rw[if_pos (by omega)]
  have hbi:2000<(s.size:Int):=by omega
  have HUU:=HU
  clear hsl hbig HU
  go_wp2_with (refine y5z HUU.out.1 rfl (us:=zHz) rfl (zQz ..) rfl _ _ rfl rfl rfl ?_;intro w9 HU9 HM9)
  refine bodyPost_ret (yez rfl _ _ w.heap.size (.iface 69 (.agg #[.int .i64 1])) _ rfl rfl rfl HU9) rfl ⟨by unfold errR;rw[HZ.out];exact rfl,HM9.2 _ _ (Nat.le_refl _) HUU.out.2⟩
 have HR0:zwz s.data.toList=zaRz (ySz s.data.toList):=by unfold zwz;rw[if_neg (by omega)]
 have hts:(⟨(ySz s.data.toList).toArray⟩:ByteArray).size≤2000:=by
  have h1:=ziqz s.data.toList
  rw[yVz]
  omega
 have CA:Hid (∀W,Below w.heap.size w W→CB 99 #[.string s] W (.string ⟨(ySz s.data.toList).toArray⟩)):=fun W hb=>zfaz s W (by omega) (HTA.out W hb).2.2.2.1
 have HR:Hid (zwz s.data.toList=zaRz (⟨(ySz s.data.toList).toArray⟩:ByteArray).data.toList):=HR0
 generalize (⟨(ySz s.data.toList).toArray⟩:ByteArray)=t at hts CA HR
 have hbi: ¬2000<(s.size:Int):=by omega
 have CS:Hid (∀W,Below w.heap.size w W→CB 98 #[.string t] W (zmbz (yrz t.data.toList))):=fun W hb=>zgwz t W (by omega) (HTA.out W hb).2.2.2.1
 clear hsl hbig HR0
 go_wp2_with fail
 refine (CA.out _ HU.out.2).mono ?_
 rintro e w1 ⟨rfl,b1⟩
 have HU1:Hid (PU w zHz w1):=HU.out.later b1
 clear b1 HU CA
 cases hsch:yrz t.data.toList with
 |none=>
  have HZ:Hid (zwz s.data.toList=(2,y3z)):=HR.out.trans (ze6z hsch)
  have CS2:Hid (∀W,Below w.heap.size w W→CB 98 #[.string t] W (.tuple #[.int .i64 0,.string ⟨#[]⟩,.iface 69 (.agg #[.int .i64 2])])):=fun W hb=>by
   have h:=CS.out W hb
   rw[hsch]at h
   exact h
  clear CS hsch HR
  go_wp2_with fail
  refine (CS2.out _ HU1.out.2).mono ?_
  rintro e w2 ⟨rfl,b2⟩
  have HUU:Hid (PU w zHz w2):=HU1.out.later b2
  clear b2 HU1 CS2
  go_wp2_with (refine y5z HUU.out.1 rfl (us:=zHz) rfl (zQz ..) rfl _ _ rfl rfl rfl ?_;intro w9 HU9 HM9)
  refine bodyPost_ret (yez rfl _ _ w.heap.size (.iface 69 (.agg #[.int .i64 2])) _ rfl rfl rfl HU9) rfl ⟨by unfold errR;rw[HZ.out];exact rfl,HM9.2 _ _ (Nat.le_refl _) HUU.out.2⟩
 |some st=>
  obtain ⟨sch,T⟩:=st
  have hs12:sch=1∨sch=2:=by
   unfold yrz at hsch
   split at hsch
   ·cases hsch;exact .inl rfl
   split at hsch
   ·cases hsch;exact .inr rfl
   cases hsch
  have hTl:T.length≤2000:=by
   have e:t.data.toList.length=t.size:=by simp
   unfold yrz at hsch
   split at hsch
   ·cases hsch;rw[List.length_drop];omega
   split at hsch
   ·cases hsch;rw[List.length_drop];omega
   cases hsch
  have hZs:(⟨(T.dropWhile slB).toArray⟩:ByteArray).size≤2000:=by
   rw[yVz]
   exact Nat.le_trans (List.dropWhile_suffix slB).length_le hTl
  have HS:Hid (zwz s.data.toList=zbSz sch ((⟨(T.dropWhile slB).toArray⟩:ByteArray).data.toList.takeWhile z3z) ((⟨(T.dropWhile slB).toArray⟩:ByteArray).data.toList.dropWhile z3z)):=HR.out.trans (zjwz hsch)
  have CS2:Hid (∀W,Below w.heap.size w W→CB 98 #[.string t] W (.tuple #[.int .i64 sch,.string ⟨(T.dropWhile slB).toArray⟩,.nilIface])):=fun W hb=>by
   have h:=CS.out W hb
   rw[hsch]at h
   exact h
  generalize (⟨(T.dropWhile slB).toArray⟩:ByteArray)=Z at CS2 HS hZs
  clear CS hsch HR hTl
  go_wp2_with fail
  refine (CS2.out _ HU1.out.2).mono ?_
  rintro e w2 ⟨rfl,b2⟩
  have HU2:Hid (PU w zHz w2):=HU1.out.later b2
  clear b2 HU1 CS2
  have hsz:=jZz (p:=z3z) Z
  have CU:Hid (∀W,CB 100 #[.string Z] W (.tuple #[.string ⟨(Z.data.toList.takeWhile z3z).toArray⟩,.string ⟨(Z.data.toList.dropWhile z3z).toArray⟩])):=fun W=>zeHz Z W (by omega)
  have HS2:Hid (zwz s.data.toList=zbSz sch (⟨(Z.data.toList.takeWhile z3z).toArray⟩:ByteArray).data.toList (⟨(Z.data.toList.dropWhile z3z).toArray⟩:ByteArray).data.toList):=HS
  have HDE:Hid (∀c r,(⟨(Z.data.toList.dropWhile z3z).toArray⟩:ByteArray).data.toList=c::r→z3z c=false):=fun c r h=>zisz h
  obtain ⟨hz1,hz2⟩:=hsz
  generalize (⟨(Z.data.toList.takeWhile z3z).toArray⟩:ByteArray)=A at CU HS2 hz1
  generalize (⟨(Z.data.toList.dropWhile z3z).toArray⟩:ByteArray)=Rs at CU HS2 hz2 HDE
  have hA:A.size≤2000:=by omega
  have hRs:Rs.size≤2000:=by omega
  clear HS hz1 hz2
  go_wp2_with fail
  refine (CU.out _).mono ?_
  rintro e w3 ⟨rfl,b3⟩
  have HU3:Hid (PU w zHz w3):=HU2.out.later b3
  clear b3 HU2 CU
  obtain ⟨k,n,nm,x0,x1,x2,x3,x4,x5,x6,x7,hhv⟩:=zo7z sch A
  have CW:Hid (∀W,Below w.heap.size w W→CB 101 #[.string A,.int .i64 sch] W (.tuple #[.agg (ymz k nm n x0 x1 x2 x3 x4 x5 x6 x7).toArray,.int .i64 (vBz sch A).2.2,errV (vBz sch A).1])):=fun W hb=>by
   have ht:=HTA.out W hb
   have h:=zd8z A sch W (by omega) hs12 ht.1 ht.2.1 ht.2.2.1 ht.2.2.2.1
   rw[hhv]at h
   exact h
  have HS3:Hid (zwz s.data.toList=if (vBz sch A).1=0 then fitU (zaQz sch ⟨k,nm,n,[x0,x1,x2,x3,x4,x5,x6,x7]⟩ (vBz sch A).2.2 Rs.data.toList)else ((vBz sch A).1,y3z)):=by
   show _=_
   rw[HS2.out,zs1z hs12,hhv]
  have HAO:Hid ((vBz sch A).1=0→hOk ⟨k,nm,n,[x0,x1,x2,x3,x4,x5,x6,x7]⟩=true∧1≤(vBz sch A).2.2∧(vBz sch A).2.2≤65535):=fun h=>by
   have h1:=zt4z h
   rw[hhv]at h1
   exact h1
  clear HS2 hhv
  generalize (vBz sch A).2.2=pn at CW HS3 HAO
  generalize (vBz sch A).1=cd at CW HS3 HAO
  by_cases hcd:cd=0
  ·obtain ⟨hho,hp0,hp1⟩:=HAO.out hcd
   have hnm:nm.size≤1048576:=Nat.le_trans (zg2z hho) (by decide)
   have CW2:Hid (∀W,Below w.heap.size w W→CB 101 #[.string A,.int .i64 sch] W (.tuple #[.agg (ymz k nm n x0 x1 x2 x3 x4 x5 x6 x7).toArray,.int .i64 pn,.nilIface])):=fun W hb=>by
    have h:=CW.out W hb
    rw[hcd]at h
    exact h
   have huk:uOk (zaQz sch ⟨k,nm,n,[x0,x1,x2,x3,x4,x5,x6,x7]⟩ pn Rs.data.toList)=true:=zgVz (by rcases hs12 with rfl|rfl<;>decide) hho ⟨hp0,hp1⟩ HDE.out
   have HS4:Hid (zwz s.data.toList=if (uTx ⟨sch,⟨k,nm,n,[x0,x1,x2,x3,x4,x5,x6,x7]⟩,pn,ptP ⟨(upB 63 Rs.data.toList).toArray⟩,Rs.data.toList.contains 63,plB 2 ⟨(y9z 63 Rs.data.toList).toArray⟩⟩).length≤2000 then (0,⟨sch,⟨k,nm,n,[x0,x1,x2,x3,x4,x5,x6,x7]⟩,pn,ptP ⟨(upB 63 Rs.data.toList).toArray⟩,Rs.data.toList.contains 63,plB 2 ⟨(y9z 63 Rs.data.toList).toArray⟩⟩)else (1,y3z)):=by
    show _=_
    rw[HS3.out,if_pos hcd,zrKz huk,zrJz]
   clear CW HS3 HAO huk hcd HDE hho
   go_wp2_with fail
   refine (CW2.out _ HU3.out.2).mono ?_
   rintro e w4 ⟨rfl,b4⟩
   have HU4:Hid (PU w zHz w4):=HU3.out.later b4
   clear b4 HU3 CW2
   have HU4a:Hid (PU w zHz (w4.alloc (.cells #[.int .i64 0,.string ⟨#[]⟩,.int .i64 0,.int .i64 0,.int .i64 0,.int .i64 0,.int .i64 0,.int .i64 0,.int .i64 0,.int .i64 0,.int .i64 0] 26))):=HU4.out.later ((Below.refl _ _).alloc (Nat.le_refl _) _)
   have hlt:w.heap.size<w4.heap.size:=HU4.out.1.2.2
   go_upto_region 8 with (refine jyz (UAt.new w4 _ _) 0 (Nat.le_refl 11) (us:=ymz k nm n x0 x1 x2 x3 x4 x5 x6 x7) rfl (vAz ..) rfl _ _ rfl rfl rfl ?_;intro w5 HUh HMh)
   have HU5:Hid (PU w zHz w5):=HU4a.out.moved hlt HMh
   have HUH:Hid (UAt w5 w4.heap.size (ymz k nm n x0 x1 x2 x3 x4 x5 x6 x7)):=HUh
   clear HUh HMh HU4a HU4
   generalize w4.heap.size=HB at HUH hlt⊢
   have hle:Rs.data.toList.length=Rs.size:=by simp
   have hup:(⟨(upB 63 Rs.data.toList).toArray⟩:ByteArray).size≤2000:=by
    rw[yVz]
    have:=(List.takeWhile_prefix (fun x=>x !=63) (l:=Rs.data.toList)).length_le
    unfold upB
    omega
   have hbe:(⟨(y9z 63 Rs.data.toList).toArray⟩:ByteArray).size≤2000:=by
    rw[yVz]
    have:=(List.dropWhile_suffix (fun x=>x !=63) (l:=Rs.data.toList)).length_le
    unfold y9z
    rw[List.length_drop]
    omega
   have CC:Hid (∀W,Below w.heap.size w W→CB 102 #[.string Rs,.string ⟨#[63]⟩] W (.tuple #[.string ⟨(upB 63 Rs.data.toList).toArray⟩,.string ⟨(y9z 63 Rs.data.toList).toArray⟩,.bool (Rs.data.toList.contains 63)])):=fun W hb=>zafz 63 Rs W (by omega)
   generalize (⟨(upB 63 Rs.data.toList).toArray⟩:ByteArray)=Up at CC HS4 hup
   generalize (⟨(y9z 63 Rs.data.toList).toArray⟩:ByteArray)=Be at CC HS4 hbe
   generalize Rs.data.toList.contains 63=hq at CC HS4
   clear hle
   go_wp2_with fail
   refine (CC.out _ HU5.out.2).mono ?_
   rintro e w6 ⟨rfl,b6⟩
   have HU6:Hid (PU w zHz w6):=HU5.out.later b6
   have HUH6:Hid (UAt w6 HB (ymz k nm n x0 x1 x2 x3 x4 x5 x6 x7)):=HUH.out.below b6
   clear b6 HU5 HUH CC
   have CP:Hid (∀W,Below w.heap.size w W→CB 103 #[.string Up] W (.string (ptP Up))):=fun W hb=>zhcz Up W (by omega) (HTA.out W hb).2.2.2.2 (HTA.out W hb).2.2.2.1
   have CQ:Hid (∀W,Below w.heap.size w W→CB 104 #[.string Be,.int .i64 2] W (.string (plB 2 Be))):=fun W hb=>zbTz Be 2 W (HTA.out W hb).2.2.2.2 (by omega)
   have hpa:=zrLz Up hup
   have hqa:=zs6z 2 Be
   have hqb:(plB 2 Be).size≤10000:=by omega
   generalize ptP Up=PA at CP HS4 hpa
   generalize plB 2 Be=QA at CQ HS4 hqb
   clear hqa
   go_upto_region 11 with fail
   go_cut [14] (fun v wx=> ∃U,v=.pointer (some ⟨U,0,none⟩)∧PU w zHz wx∧UAt wx U (zqz sch k nm n x0 x1 x2 x3 x4 x5 x6 x7 pn PA hq QA)∧w.heap.size<U)
   case first=>
    have hpq:PQ w HB (ymz k nm n x0 x1 x2 x3 x4 x5 x6 x7) w6:=⟨HU6.out,HUH6.out,hlt⟩
    have hBl:HB<w6.heap.size:=HUH6.out.2.2
    clear HU6 HUH6
    refine wp_region_held_drew (S:=PQ w HB (ymz k nm n x0 x1 x2 x3 x4 x5 x6 x7)) (by kernel_rfl) (PQ.drew hpq) (fun hH=> ?_)
    clear hpq
    refine wpAnyH_take (i:=0) (v:= ?_) rfl (by kernel_rfl) (by kernel_rfl) (by kernel_rfl) (fun _ _ _ h=>h) (Or.inl ⟨by rfl,?_⟩) hH ?_
    rotate_left
    ·intro W hW
     clear hW
     go_simp
     try with_reducible rfl
    simp only[Act.put]
    refine wpAnyH_take (i:=2) (v:= ?_) rfl (by kernel_rfl) (by kernel_rfl) (by kernel_rfl) (fun _ _ _ h=>h) (Or.inl ⟨by rfl,?_⟩) hH ?_
    rotate_left
    ·intro W hW
     clear hW
     go_simp
     try with_reducible rfl
    simp only[Act.put]
    refine wpAnyH_take (i:=3) (v:= ?_) rfl (by kernel_rfl) (by kernel_rfl) (by kernel_rfl) (fun _ _ _ h=>h) (Or.inl ⟨by rfl,?_⟩) hH ?_
    rotate_left
    ·intro W hW
     clear hW
     go_simp
     try with_reducible rfl
    simp only[Act.put]
    refine wpAnyH_take (i:=5) (v:= ?_) rfl (by kernel_rfl) (by kernel_rfl) (by kernel_rfl) (fun _ _ _ h=>h) (Or.inl ⟨by rfl,?_⟩) hH ?_
    rotate_left
    ·intro W hW
     clear hW
     go_simp
     try with_reducible rfl
    simp only[Act.put]
    refine wpAnyH_take (i:=6) (v:= ?_) rfl (by kernel_rfl) (by kernel_rfl) (by kernel_rfl) (fun _ _ _ h=>h) (Or.inl ⟨by rfl,?_⟩) hH ?_
    rotate_left
    ·intro W hW
     clear hW
     go_simp
     try with_reducible rfl
    simp only[Act.put]
    refine wpAnyH_take (i:=1) (v:=.agg (ymz k nm n x0 x1 x2 x3 x4 x5 x6 x7).toArray) rfl (by kernel_rfl) (by kernel_rfl) (by kernel_rfl) (fun _ _ _ h=>h) (yieldsIf_load_mid (by rfl) _ _ rfl HB 0 rfl (ymz k nm n x0 x1 x2 x3 x4 x5 x6 x7) _ (fun W hW=>hW.2.1.range 0 _ (fun j v hv=>by rw[Nat.zero_add];exact hv)) Tryz.underlying26 rfl Tryz.infoHost) hH ?_
    simp only[Act.put]
    refine wpAnyH_ready (rs:=[4,9]) (by kernel_rfl) (by simp) (AllReadyH.cons rfl (fun K hK=> ?_) (AllReadyH.cons rfl (fun K hK=> ?_) AllReadyH.nil))
    ·go_simp
     go_wp2_with (go_at_call 103;refine (CP.out _ hH.1.2).mono ?_;rintro e wq1 ⟨rfl,hb1⟩)
     refine hK.out _ _ (PQ.later hH hb1) (fun h1=> ?_)
     clear hK K
     clear hH
     have hB1:HB<wq1.heap.size:=h1.2.1.2.2
     have hw1:w.heap.size<wq1.heap.size:=h1.1.1.2.2
     refine wpAnyH_ready (rs:=[7,9]) (by kernel_rfl) (by simp) (AllReadyH.cons rfl (fun K hK=> ?_) (AllReadyH.cons rfl (fun K hK=> ?_) AllReadyH.nil))
     ·go_simp
      go_wp2_with (go_at_call 104;refine (CQ.out _ h1.1.2).mono ?_;rintro e wq2 ⟨rfl,hb2⟩)
      refine hK.out _ _ (PQ.later h1 hb2) (fun h2=> ?_)
      clear hK K
      have hB2:HB<wq2.heap.size:=h2.2.1.2.2
      have hw2:w.heap.size<wq2.heap.size:=h2.1.1.2.2
      refine wpAnyH_take (i:=8) (v:=.agg (zqz sch k nm n x0 x1 x2 x3 x4 x5 x6 x7 pn PA hq QA).toArray) rfl (by kernel_rfl) (by kernel_rfl) (by kernel_rfl) (fun _ _ _ h=>h) (Or.inl ⟨by rfl,?_⟩) h2 ?_
      ·intro W hW
       kernel_rfl
      simp only[Act.put]
      refine wpAnyH_ready (rs:=[9]) (by kernel_rfl) (by simp) (AllReadyH.cons rfl (fun K hK=> ?_) AllReadyH.nil)
      go_simp
      refine hK.out _ _ (PQ.alloc h2 _) (fun h3=> ?_)
      clear hK K
      have hN:=UAt.new wq2 #[.int .i64 0,.int .i64 0,.string ⟨#[]⟩,.int .i64 0,.int .i64 0,.int .i64 0,.int .i64 0,.int .i64 0,.int .i64 0,.int .i64 0,.int .i64 0,.int .i64 0,.int .i64 0,.string ⟨#[]⟩,.bool false,.string ⟨#[]⟩] 28
      refine wpAnyH_ready (rs:=[10]) (by kernel_rfl) (by simp) (AllReadyH.cons rfl (fun K hK=> ?_) AllReadyH.nil)
      rw[if_pos (by rfl)]
      refine wp_store_mid _ _ _ rfl wq2.heap.size 0 (zqz sch k nm n x0 x1 x2 x3 x4 x5 x6 x7 pn PA hq QA).toArray rfl rfl (hN.there 0 16 (by show 0+16≤16;decide)) Tryz.infoUrl (zQz ..) ?_
      refine hK.out _ _ (PQ.moved h3 (by omega) (by omega) (xrz _ _ _)) (fun hZ=> ?_)
      clear hK K
      refine wpAnyH_done (by kernel_rfl) ?_ _
      simp only[Act.put]
      go_wp2_with fail
      go_meet
      exact ⟨_,rfl,hZ.1,zbpz hN rfl rfl,hw2⟩
     go_simp
     refine hK.out _ _ (PQ.alloc h1 _) (fun h2=> ?_)
     clear hK K
     have hN:=UAt.new wq1 #[.int .i64 0,.int .i64 0,.string ⟨#[]⟩,.int .i64 0,.int .i64 0,.int .i64 0,.int .i64 0,.int .i64 0,.int .i64 0,.int .i64 0,.int .i64 0,.int .i64 0,.int .i64 0,.string ⟨#[]⟩,.bool false,.string ⟨#[]⟩] 28
     refine wpAnyH_ready (rs:=[7]) (by kernel_rfl) (by simp) (AllReadyH.cons rfl (fun K hK=> ?_) AllReadyH.nil)
     go_simp
     go_wp2_with (go_at_call 104;refine (CQ.out _ h2.1.2).mono ?_;rintro e wq2 ⟨rfl,hb2⟩)
     refine hK.out _ _ (PQ.later h2 hb2) (fun h3=> ?_)
     clear hK K
     have hN2:=hN.below hb2
     refine wpAnyH_take (i:=8) (v:=.agg (zqz sch k nm n x0 x1 x2 x3 x4 x5 x6 x7 pn PA hq QA).toArray) rfl (by kernel_rfl) (by kernel_rfl) (by kernel_rfl) (fun _ _ _ h=>h) (Or.inl ⟨by rfl,?_⟩) h3 ?_
     ·intro W hW
      kernel_rfl
     simp only[Act.put]
     refine wpAnyH_ready (rs:=[10]) (by kernel_rfl) (by simp) (AllReadyH.cons rfl (fun K hK=> ?_) AllReadyH.nil)
     rw[if_pos (by rfl)]
     refine wp_store_mid _ _ _ rfl wq1.heap.size 0 (zqz sch k nm n x0 x1 x2 x3 x4 x5 x6 x7 pn PA hq QA).toArray rfl rfl (hN2.there 0 16 (by show 0+16≤16;decide)) Tryz.infoUrl (zQz ..) ?_
     refine hK.out _ _ (PQ.moved h3 (by omega) (by omega) (xrz _ _ _)) (fun hZ=> ?_)
     clear hK K
     refine wpAnyH_done (by kernel_rfl) ?_ _
     simp only[Act.put]
     go_wp2_with fail
     go_meet
     exact ⟨_,rfl,hZ.1,zbpz hN2 rfl rfl,hw1⟩
    go_simp
    refine hK.out _ _ (PQ.alloc hH _) (fun h1=> ?_)
    clear hK K
    have hw1:w.heap.size<w6.heap.size:=hH.1.1.2.2
    have hN:=UAt.new w6.drew #[.int .i64 0,.int .i64 0,.string ⟨#[]⟩,.int .i64 0,.int .i64 0,.int .i64 0,.int .i64 0,.int .i64 0,.int .i64 0,.int .i64 0,.int .i64 0,.int .i64 0,.int .i64 0,.string ⟨#[]⟩,.bool false,.string ⟨#[]⟩] 28
    refine wpAnyH_ready (rs:=[4]) (by kernel_rfl) (by simp) (AllReadyH.cons rfl (fun K hK=> ?_) AllReadyH.nil)
    go_simp
    go_wp2_with (go_at_call 103;refine (CP.out _ h1.1.2).mono ?_;rintro e wq1 ⟨rfl,hb1⟩)
    refine hK.out _ _ (PQ.later h1 hb1) (fun h2=> ?_)
    clear hK K
    have hN1:=hN.below hb1
    refine wpAnyH_ready (rs:=[7]) (by kernel_rfl) (by simp) (AllReadyH.cons rfl (fun K hK=> ?_) AllReadyH.nil)
    go_simp
    go_wp2_with (go_at_call 104;refine (CQ.out _ h2.1.2).mono ?_;rintro e wq2 ⟨rfl,hb2⟩)
    refine hK.out _ _ (PQ.later h2 hb2) (fun h3=> ?_)
    clear hK K
    have hN2:=hN1.below hb2
    refine wpAnyH_take (i:=8) (v:=.agg (zqz sch k nm n x0 x1 x2 x3 x4 x5 x6 x7 pn PA hq QA).toArray) rfl (by kernel_rfl) (by kernel_rfl) (by kernel_rfl) (fun _ _ _ h=>h) (Or.inl ⟨by rfl,?_⟩) h3 ?_
    ·intro W hW
     kernel_rfl
    simp only[Act.put]
    refine wpAnyH_ready (rs:=[10]) (by kernel_rfl) (by simp) (AllReadyH.cons rfl (fun K hK=> ?_) AllReadyH.nil)
    rw[if_pos (by rfl)]
    refine wp_store_mid _ _ _ rfl w6.heap.size 0 (zqz sch k nm n x0 x1 x2 x3 x4 x5 x6 x7 pn PA hq QA).toArray rfl rfl (hN2.there 0 16 (by show 0+16≤16;decide)) Tryz.infoUrl (zQz ..) ?_
    refine hK.out _ _ (PQ.moved h3 (by omega) (by omega) (xrz _ _ _)) (fun hZ=> ?_)
    clear hK K
    refine wpAnyH_done (by kernel_rfl) ?_ _
    simp only[Act.put]
    go_wp2_with fail
    go_meet
    exact ⟨_,rfl,hZ.1,zbpz hN2 rfl rfl,hw1⟩
   obtain ⟨U,rfl,hu7,hv7,hlU⟩:=hcut
   have HU7:Hid (PU w zHz wc):=hu7
   have HV7:Hid (UAt wc U (zqz sch k nm n x0 x1 x2 x3 x4 x5 x6 x7 pn PA hq QA)):=hv7
   clear hu7 hv7 HU6 HUH6 CP CQ hlt
   have CT:Hid (∀W,Below w.heap.size w W→CB 12 #[.agg (zqz sch k nm n x0 x1 x2 x3 x4 x5 x6 x7 pn PA hq QA).toArray] W (.string ⟨(uTx ⟨sch,⟨k,nm,n,[x0,x1,x2,x3,x4,x5,x6,x7]⟩,pn,PA,hq,QA⟩).toArray⟩)):=fun W hb=>by
    have ht:=HTA.out W hb
    exact ze4z sch k n pn nm PA QA hq x0 x1 x2 x3 x4 x5 x6 x7 W hnm (by omega) (by omega) ht.1 ht.2.1 ht.2.2.1 ht.2.2.2.2
   have HL:Hid ((uTx ⟨sch,⟨k,nm,n,[x0,x1,x2,x3,x4,x5,x6,x7]⟩,pn,PA,hq,QA⟩).length=(⟨(uTx ⟨sch,⟨k,nm,n,[x0,x1,x2,x3,x4,x5,x6,x7]⟩,pn,PA,hq,QA⟩).toArray⟩:ByteArray).size):=(yVz _).symm
   rw[HL.out]at HS4
   have hts:(⟨(uTx ⟨sch,⟨k,nm,n,[x0,x1,x2,x3,x4,x5,x6,x7]⟩,pn,PA,hq,QA⟩).toArray⟩:ByteArray).size≤4194304:=by
    rw[yVz]
    have h1:=znPz (k:=k) (n:=n) (nm:=nm) (x0:=x0) (x1:=x1) (x2:=x2) (x3:=x3) (x4:=x4) (x5:=x5) (x6:=x6) (x7:=x7) sch pn hnm
    have h2:=zirz hq hpa hqb
    unfold uTx
    split
    ·rw[List.length_append]
     show (xdz sch (hTx ⟨k,nm,n,[x0,x1,x2,x3,x4,x5,x6,x7]⟩) pn).length+(jbz PA hq QA).length≤_
     omega
    simp
   generalize (⟨(uTx ⟨sch,⟨k,nm,n,[x0,x1,x2,x3,x4,x5,x6,x7]⟩,pn,PA,hq,QA⟩).toArray⟩:ByteArray)=TT at CT HS4 hts
   clear HL HTA
   go_wp2_with (refine xGz HV7.out rfl rfl _ rfl rfl ?_)
   refine (CT.out _ HU7.out.2).mono ?_
   rintro e w8 ⟨rfl,b8⟩
   have HU8:Hid (PU w zHz w8):=HU7.out.later b8
   have HV8:Hid (UAt w8 U (zqz sch k nm n x0 x1 x2 x3 x4 x5 x6 x7 pn PA hq QA)):=HV7.out.below b8
   clear b8 HU7 HV7 CT
   by_cases hfit:TT.size≤2000
   ·have HZ:Hid (zwz s.data.toList=(0,⟨sch,⟨k,nm,n,[x0,x1,x2,x3,x4,x5,x6,x7]⟩,pn,PA,hq,QA⟩)):=by show _=_;rw[HS4.out,if_pos hfit]
    have hfi: ¬2000<(TT.size:Int):=by omega
    clear HS4 hfit
    go_wp2_with (first|(refine xGz HV8.out rfl rfl _ rfl rfl ?_)|(refine y5z HU8.out.1 rfl (us:=zqz sch k nm n x0 x1 x2 x3 x4 x5 x6 x7 pn PA hq QA) rfl (zQz ..) rfl _ _ rfl rfl rfl ?_;intro w9 HU9 HM9))
    refine bodyPost_ret (yez rfl _ _ w.heap.size .nilIface _ rfl rfl rfl HU9) rfl ⟨by unfold errR;rw[HZ.out];rfl,HM9.2 _ _ (Nat.le_refl _) HU8.out.2⟩
   have HZ:Hid (zwz s.data.toList=(1,y3z)):=by show _=_;rw[HS4.out,if_neg hfit]
   have hfi:2000<(TT.size:Int):=by omega
   have HUU:=HU8
   clear HS4 hfit
   go_wp2_with (refine y5z HUU.out.1 rfl (us:=zHz) rfl (zQz ..) rfl _ _ rfl rfl rfl ?_;intro w9 HU9 HM9)
   refine bodyPost_ret (yez rfl _ _ w.heap.size (.iface 69 (.agg #[.int .i64 1])) _ rfl rfl rfl HU9) rfl ⟨by unfold errR;rw[HZ.out];exact rfl,HM9.2 _ _ (Nat.le_refl _) HUU.out.2⟩
  have HZ:Hid (zwz s.data.toList=(cd,y3z)):=by show _=_;rw[HS3.out,if_neg hcd]
  have HEV:Hid (errV cd=.iface 69 (.agg #[.int .i64 cd])):=znSz hcd
  have CW2:Hid (∀W,Below w.heap.size w W→CB 101 #[.string A,.int .i64 sch] W (.tuple #[.agg (ymz k nm n x0 x1 x2 x3 x4 x5 x6 x7).toArray,.int .i64 pn,.iface 69 (.agg #[.int .i64 cd])])):=fun W hb=>by
   have h:=CW.out W hb
   rw[HEV.out]at h
   exact h
  clear CW HS3 HAO hcd
  go_wp2_with fail
  refine (CW2.out _ HU3.out.2).mono ?_
  rintro e w4 ⟨rfl,b4⟩
  have HU4:Hid (PU w zHz w4):=HU3.out.later b4
  clear b4 HU3 CW2
  have HU4a:Hid (PU w zHz (w4.alloc (.cells #[.int .i64 0,.string ⟨#[]⟩,.int .i64 0,.int .i64 0,.int .i64 0,.int .i64 0,.int .i64 0,.int .i64 0,.int .i64 0,.int .i64 0,.int .i64 0] 26))):=HU4.out.later ((Below.refl _ _).alloc (Nat.le_refl _) _)
  have hlt:w.heap.size<w4.heap.size:=HU4.out.1.2.2
  go_upto_region 8 with (refine jyz (UAt.new w4 _ _) 0 (Nat.le_refl 11) (us:=ymz k nm n x0 x1 x2 x3 x4 x5 x6 x7) rfl (vAz ..) rfl _ _ rfl rfl rfl ?_;intro w5 HUh HMh)
  have HUU:Hid (PU w zHz w5):=HU4a.out.moved hlt HMh
  clear HUh HMh HU4a HU4
  go_wp2_with (refine y5z HUU.out.1 rfl (us:=zHz) rfl (zQz ..) rfl _ _ rfl rfl rfl ?_;intro w9 HU9 HM9)
  refine bodyPost_ret (yez rfl _ _ w.heap.size (.iface 69 (.agg #[.int .i64 cd])) _ rfl rfl rfl HU9) rfl ⟨by unfold errR;rw[HZ.out];exact (by rw[HEV.out];rfl),HM9.2 _ _ (Nat.le_refl _) HUU.out.2⟩
theorem zpcz{u:UV}(h:u.h.z.length=8):(fitU u).2.h.z.length=8:=by
 unfold fitU
 split
 ·exact h
 rfl
theorem zg3z(s p:Int)(a r:List UInt8):(zadz s p a r).2.h.z.length=8:=by
 unfold zadz
 split
 ·exact zpcz (xQz _)
 rfl
theorem zanz(l:List UInt8):(zwz l).2.h.z.length=8:=by
 unfold zwz
 split
 ·rfl
 unfold zaRz
 split
 ·rfl
 unfold jUz zbSz
 split
 ·rfl
 unfold cutU
 split
 ·exact zg3z _ _ _ _
 split
 ·exact zg3z _ _ _ _
 rfl
theorem zcnz(u:UV)(h:u.h.z.length=8): ∃(s k n p:Int) (nm a r:ByteArray) (q:Bool) (x0 x1 x2 x3 x4 x5 x6 x7:Int),u=⟨s,⟨k,nm,n,[x0,x1,x2,x3,x4,x5,x6,x7]⟩,p,a,q,r⟩:=by
 obtain ⟨s,⟨k,nm,n,z⟩,p,a,q,r⟩:=u
 match z,h with
 |[x0,x1,x2,x3,x4,x5,x6,x7],_=>exact ⟨s,k,n,p,nm,a,r,q,x0,x1,x2,x3,x4,x5,x6,x7,rfl⟩
theorem zcoz(s k n p:Int)(nm a r:ByteArray)(q:Bool)(x0 x1 x2 x3 x4 x5 x6 x7:Int):zb1z ⟨s,⟨k,nm,n,[x0,x1,x2,x3,x4,x5,x6,x7]⟩,p,a,q,r⟩=.agg (zqz s k nm n x0 x1 x2 x3 x4 x5 x6 x7 p a q r).toArray:=rfl
theorem PU.set{w:World}{row:List Value}{W:World}{C:Nat}(h:PU w row W)(hC:w.heap.size<C)(j:Nat)(v:Value):PU w row (W.setCell ⟨C,j,none⟩ v):=⟨h.1.other (by omega) j v,h.2.setCell (p:=⟨C,j,none⟩) (by show _≤C;omega) v⟩
theorem zg4z(W:World)(o1 o2 o3 o4:Obj):Below W.heap.size W ((((W.alloc o1).alloc o2).alloc o3).alloc o4):=
 ((((Below.refl _ W).alloc (Nat.le_refl _) _).alloc (by simp) _).alloc (by simp;omega) _).alloc (by simp;omega) _
def SN(w:World)(NB:Nat)(c:Int)(W:World):Prop:=PU w zHz W∧UAt W NB [.int .i64 c]∧w.heap.size<NB
theorem SN.drew{w:World}{NB:Nat}{c:Int}{W:World}(h:SN w NB c W):SN w NB c W.drew:=⟨h.1.drew,h.2⟩
theorem SN.stored{w:World}{NB:Nat}{c:Int}{W:World}(h:SN w NB c W):SN w NB c (W.setCells w.heap.size 0 zHz.toArray.toList):=by
 have hm:=xrz (C:=w.heap.size) zHz.toArray.toList 0 W
 have h3:=h.2.2
 exact ⟨⟨zbpz h.1.1 rfl rfl,hm.2 _ _ (Nat.le_refl _) h.1.2⟩,hm.1 _ _ (by omega) h.2.1,h3⟩
theorem zc4z{w w':World}(h:ErrT w)(hb:Below w.heap.size w w'):ErrT w':=cell_later hb h
theorem zebz(t:ByteArray)(w:World)(hs:t.size≤1099511627776)(hT:Lib.Utf8Tabs 12 13 w)(hP:Pow w)(hD:zJz w)(hM:MaxI w)(hK:xLz w)(hE:ErrT w):
  Calls Tryz.prog 18 #[.string t] w fun e w'=>e=.returned (.tuple #[zb1z (zwz t.data.toList).2,.int .i64 (zwz t.data.toList).1])∧Below w.heap.size w w':=by
 have CR:Hid (∀W,Below w.heap.size w W→CB 46 #[.string t] W (.tuple #[zb1z (zwz t.data.toList).2,errV (zwz t.data.toList).1])):=fun W hb=>zlvz t W hs (zYz hT hb) (yfz hP hb) (zxz hD hb) (viz hM hb) (hK.later hb)
 have HER:Hid (∀W,Below w.heap.size w W→ErrT W):=fun W hb=>zc4z hE hb
 have hrt:=zipz t.data.toList
 obtain ⟨s,k,n,p,nm,a,r,q,x0,x1,x2,x3,x4,x5,x6,x7,hu⟩:=zcnz _ (zanz t.data.toList)
 have HN:Hid ((zwz t.data.toList).1≠0→(zqz s k nm n x0 x1 x2 x3 x4 x5 x6 x7 p a q r)=zHz):=fun h=>by
  rcases hrt with ⟨_,_,h3⟩|⟨h3,_⟩
  ·rw[hu]at h3
   have e:=congrArg zluz h3
   exact e
  exact absurd h3 h
 rw[hu,zcoz]at CR⊢
 generalize (zwz t.data.toList).1=c at CR HN⊢
 clear hT hP hD hM hK hE hrt hu
 obtain ⟨O,hO⟩: ∃O,O=w.alloc (.cells #[.int .i64 0,.int .i64 0,.string ⟨#[]⟩,.int .i64 0,.int .i64 0,.int .i64 0,.int .i64 0,.int .i64 0,.int .i64 0,.int .i64 0,.int .i64 0,.int .i64 0,.int .i64 0,.string ⟨#[]⟩,.bool false,.string ⟨#[]⟩] 28):=⟨_,rfl⟩
 have HU:Hid (PU w zHz O):=by
  rw[hO]
  exact PU.new w _ _
 go_enter Tryz.func18,Tryz.ntmps18
 go_upto_region 1 with fail
 rw[←hO]
 clear hO
 go_wp2_with fail
 refine (CR.out _ HU.out.2).mono ?_
 rintro e w1 ⟨rfl,b1⟩
 have HU1:Hid (PU w zHz w1):=HU.out.later b1
 clear b1 HU CR
 have HU1a:Hid (PU w zHz (w1.alloc (.cells #[.int .i64 0,.int .i64 0,.string ⟨#[]⟩,.int .i64 0,.int .i64 0,.int .i64 0,.int .i64 0,.int .i64 0,.int .i64 0,.int .i64 0,.int .i64 0,.int .i64 0,.int .i64 0,.string ⟨#[]⟩,.bool false,.string ⟨#[]⟩] 28))):=HU1.out.later ((Below.refl _ _).alloc (Nat.le_refl _) _)
 have hlt:w.heap.size<w1.heap.size:=HU1.out.1.2.2
 go_upto_region 2 with (refine y5z (UAt.new w1 _ _) rfl (us:=zqz s k nm n x0 x1 x2 x3 x4 x5 x6 x7 p a q r) rfl (zQz ..) rfl _ _ rfl rfl rfl ?_;intro w2 HUh HMh)
 have HU2:Hid (PU w zHz w2):=HU1a.out.moved hlt HMh
 have HV2:Hid (UAt w2 w1.heap.size (zqz s k nm n x0 x1 x2 x3 x4 x5 x6 x7 p a q r)):=HUh
 clear HUh HMh HU1a HU1
 generalize w1.heap.size=V at HV2 hlt⊢
 have HU3:Hid (PU w zHz (w2.alloc (.cells #[.int .i64 0] 69))):=HU2.out.later ((Below.refl _ _).alloc (Nat.le_refl _) _)
 have HV3:Hid (UAt (w2.alloc (.cells #[.int .i64 0] 69)) V (zqz s k nm n x0 x1 x2 x3 x4 x5 x6 x7 p a q r)):=HV2.out.below ((Below.refl _ _).alloc (Nat.le_refl _) _)
 have HN3:Hid (UAt (w2.alloc (.cells #[.int .i64 0] 69)) w2.heap.size [.int .i64 0]):=UAt.new w2 _ _
 have hlt2:w.heap.size<w2.heap.size:=HU2.out.1.2.2
 go_upto_region 3 with fail
 clear HU2 HV2
 generalize (w2.alloc (.cells #[.int .i64 0] 69))=w3 at HU3 HV3 HN3⊢
 generalize w2.heap.size=NB at HN3 hlt2⊢
 by_cases hc:c=0
 ·subst hc
  go_wp2_with fail
  refine (ztXz _ _).mono ?_
  rintro e w' ⟨rfl,rfl⟩
  go_wp2_with (first|(refine xGz HV3.out rfl rfl _ rfl rfl ?_)|(refine y5z HU3.out.1 rfl (us:=zqz s k nm n x0 x1 x2 x3 x4 x5 x6 x7 p a q r) rfl (zQz ..) rfl _ _ rfl rfl rfl ?_;intro w9 HU9 HM9))
  refine bodyPost_ret (yez rfl _ _ w.heap.size (.int .i64 0) _ rfl rfl rfl HU9) rfl ⟨rfl,HM9.2 _ _ (Nat.le_refl _) HU3.out.2⟩
 rw[HN.out hc,znSz hc]
 go_wp2_with fail
 refine (zt0z c NB _ _ (HER.out _ HU3.out.2) (HN3.out.1 0 _ rfl) (HN3.out.2.1 0)).mono ?_
 rintro e w4 ⟨rfl,hw4⟩
 have hn4:SN w NB c w4:=by
  rw[hw4]
  exact ⟨(HU3.out.later (zg4z w3 _ _ _ _)).set hlt2 0 _,(HN3.out.below (zg4z w3 _ _ _ _)).set 0 (by decide) _,hlt2⟩
 clear hw4
 go_upto_region 4 with fail
 refine wp_region_held_drew (S:=SN w NB c) (by kernel_rfl) (SN.drew hn4) (fun hH=> ?_)
 clear hn4
 refine wpAnyH_take (i:=0) (v:=.agg zHz.toArray) rfl (by kernel_rfl) (by kernel_rfl) (by kernel_rfl) (fun _ _ _ h=>h) (Or.inl ⟨by rfl,?_⟩) hH ?_
 ·intro W hW
  kernel_rfl
 refine wpAnyH_take (i:=1) (v:=.pointer (some ⟨NB,0,none⟩)) rfl (by kernel_rfl) (by kernel_rfl) (by kernel_rfl) (fun _ _ _ h=>h) (Or.inl ⟨by rfl,?_⟩) hH ?_
 ·intro W hW
  kernel_rfl
 refine wpAnyH_take (i:=2) (v:=.int .i64 c) rfl (by kernel_rfl) (by kernel_rfl) (by kernel_rfl) (fun _ _ _ h=>h) (Or.inl ⟨by rfl,?_⟩) hH ?_
 ·intro W hW
  have hcell:=hW.2.1.1 0 _ rfl
  clear hW
  go_simp
 refine wpAnyH_ready (rs:=[3]) (by kernel_rfl) (by simp) (AllReadyH.cons rfl (fun K hK=> ?_) AllReadyH.nil)
 rw[if_pos (by rfl)]
 refine wp_store_mid _ _ _ rfl w.heap.size 0 zHz.toArray rfl rfl (hH.1.1.there 0 16 (by show 0+16≤16;decide)) Tryz.infoUrl (zQz ..) ?_
 refine hK.out _ _ (SN.stored hH) (fun hZ=> ?_)
 clear hK K hH
 generalize w4.drew.setCells w.heap.size 0 zHz.toArray.toList=w9 at hZ⊢
 refine wpAnyH_take (i:=4) (v:=.int .i64 c) rfl (by kernel_rfl) (by kernel_rfl) (by kernel_rfl) (fun _ _ _ h=>h) (Or.inl ⟨by rfl,?_⟩) hZ ?_
 ·intro W hW
  kernel_rfl
 refine wpAnyH_done (by kernel_rfl) ?_ _
 simp only[Act.put,List.getElem_toArray,List.getElem_cons_succ,List.getElem_cons_zero,List.setIfInBounds_toArray,List.set_cons_succ,List.set_cons_zero]
 go_wp2_with fail
 refine bodyPost_ret (yez rfl _ _ w.heap.size (.int .i64 c) _ rfl rfl rfl hZ.1.1) rfl ⟨by rw[HN.out hc],hZ.1.2⟩
end Go.Proofs.YtgcbaphbiaimoaaGreatDoor
namespace Go.Proofs.YtgcbaphbiaimoaaGreatDoor
open Go.RowKit
theorem zmIz(k n:Int)(s:ByteArray)(x0 x1 x2 x3 x4 x5 x6 x7:Int)(w:World):
  Calls Tryz.prog 73 #[.agg #[.int .i64 k,.string s,.int .i64 n,.int .i64 x0,.int .i64 x1,.int .i64 x2,.int .i64 x3,.int .i64 x4,.int .i64 x5,.int .i64 x6,.int .i64 x7],.agg #[.int .i64 k,.string s,.int .i64 n,.int .i64 x0,.int .i64 x1,.int .i64 x2,.int .i64 x3,.int .i64 x4,.int .i64 x5,.int .i64 x6,.int .i64 x7]] w fun e w'=>e=.returned (.bool true)∧Below w.heap.size w w':=by
 have CE:Hid (∀W,CB 129 #[.agg #[.int .i64 x0,.int .i64 x1,.int .i64 x2,.int .i64 x3,.int .i64 x4,.int .i64 x5,.int .i64 x6,.int .i64 x7],.agg #[.int .i64 x0,.int .i64 x1,.int .i64 x2,.int .i64 x3,.int .i64 x4,.int .i64 x5,.int .i64 x6,.int .i64 x7]] W (.bool true)):=fun W=>zskz x0 x1 x2 x3 x4 x5 x6 x7 W
 have HB:Hid (∀o p,Below w.heap.size w ((w.alloc o).alloc p)):=fun o p=>((Below.refl _ w).alloc (Nat.le_refl _) o).alloc (by simp) p
 go_enter Tryz.func73,Tryz.ntmps73
 go_wp2_with fail
 refine (CE.out _).mono ?_
 rintro e w1 ⟨rfl,b1⟩
 have B1:=(HB.out _ _).trans (b1.mono (by simp;omega))
 clear b1
 go_wp2_with fail
 go_ret
 exact ⟨rfl,B1⟩
def P2(w:World)(r1 r2:List Value)(W:World):Prop:=UAt W w.heap.size r1∧UAt W (w.heap.size+1) r2∧Below w.heap.size w W
theorem P2.later{w:World}{r1 r2:List Value}{W W':World}(h:P2 w r1 r2 W)(hb:Below W.heap.size W W'):P2 w r1 r2 W':=⟨h.1.below hb,h.2.1.below hb,h.2.2.trans (hb.mono h.2.2.size)⟩
theorem zpdz(s k n p:Int)(nm a r:ByteArray)(q:Bool)(x0 x1 x2 x3 x4 x5 x6 x7:Int)(w:World):
  Calls Tryz.prog 26 #[.agg (zqz s k nm n x0 x1 x2 x3 x4 x5 x6 x7 p a q r).toArray,.agg (zqz s k nm n x0 x1 x2 x3 x4 x5 x6 x7 p a q r).toArray] w fun e w'=>e=.returned (.bool true)∧Below w.heap.size w w':=by
 have CE:Hid (∀W,CB 73 #[.agg (ymz k nm n x0 x1 x2 x3 x4 x5 x6 x7).toArray,.agg (ymz k nm n x0 x1 x2 x3 x4 x5 x6 x7).toArray] W (.bool true)):=fun W=>zmIz k n nm x0 x1 x2 x3 x4 x5 x6 x7 W
 obtain ⟨O,hO⟩: ∃O,O=(w.alloc (.cells (zqz s k nm n x0 x1 x2 x3 x4 x5 x6 x7 p a q r).toArray 28)).alloc (.cells (zqz s k nm n x0 x1 x2 x3 x4 x5 x6 x7 p a q r).toArray 28):=⟨_,rfl⟩
 have HU:Hid (P2 w (zqz s k nm n x0 x1 x2 x3 x4 x5 x6 x7 p a q r) (zqz s k nm n x0 x1 x2 x3 x4 x5 x6 x7 p a q r) O):=by
  rw[hO]
  have h2:=UAt.new (w.alloc (.cells (zqz s k nm n x0 x1 x2 x3 x4 x5 x6 x7 p a q r).toArray 28)) (zqz s k nm n x0 x1 x2 x3 x4 x5 x6 x7 p a q r).toArray 28
  rw[World.size_alloc]at h2
  exact ⟨(UAt.new w _ _).below ((Below.refl _ _).alloc (Nat.le_refl _) _),h2,((Below.refl _ w).alloc (Nat.le_refl _) _).alloc (by simp) _⟩
 have c0:=HU.out.1.1 0 _ rfl
 have d0:=HU.out.2.1.1 0 _ rfl
 go_enter Tryz.func26,Tryz.ntmps26
 go_upto_region 1 with fail
 rw[←hO]
 clear hO
 go_wp2_with (first|(refine zfyz HU.out.1 1 (ymz k nm n x0 x1 x2 x3 x4 x5 x6 x7) (znNz s k n p nm a r q x0 x1 x2 x3 x4 x5 x6 x7) rfl rfl _ rfl rfl ?_)|(refine zfyz HU.out.2.1 1 (ymz k nm n x0 x1 x2 x3 x4 x5 x6 x7) (znNz s k n p nm a r q x0 x1 x2 x3 x4 x5 x6 x7) rfl rfl _ rfl rfl ?_))
 refine (CE.out _).mono ?_
 rintro e w1 ⟨rfl,b1⟩
 have HU1:Hid (P2 w (zqz s k nm n x0 x1 x2 x3 x4 x5 x6 x7 p a q r) (zqz s k nm n x0 x1 x2 x3 x4 x5 x6 x7 p a q r) w1):=HU.out.later b1
 clear b1 HU c0 d0 CE
 have c12:=HU1.out.1.1 12 _ rfl
 have d12:=HU1.out.2.1.1 12 _ rfl
 have c13:=HU1.out.1.1 13 _ rfl
 have d13:=HU1.out.2.1.1 13 _ rfl
 have c14:=HU1.out.1.1 14 _ rfl
 have d14:=HU1.out.2.1.1 14 _ rfl
 have c15:=HU1.out.1.1 15 _ rfl
 have d15:=HU1.out.2.1.1 15 _ rfl
 go_wp2_with fail
 go_ret
 exact ⟨rfl,HU1.out.2.2⟩
theorem zs7z(d:Nat)(k:Int)(s:ByteArray)(n:Int)(x0 x1 x2 x3 x4 x5 x6 x7:Int)(W:World):
  (Op.equalIn (d+3) 26 (.agg #[.int .i64 k,.string s,.int .i64 n,.int .i64 x0,.int .i64 x1,.int .i64 x2,.int .i64 x3,.int .i64 x4,.int .i64 x5,.int .i64 x6,.int .i64 x7]) (.agg #[.int .i64 k,.string s,.int .i64 n,.int .i64 x0,.int .i64 x1,.int .i64 x2,.int .i64 x3,.int .i64 x4,.int .i64 x5,.int .i64 x6,.int .i64 x7])).run Tryz.prog W=.ok true W:=by
 rw[run_equalIn_struct W (d+2) 26 _ _ (by kernel_rfl) (by kernel_rfl)]
 have hf:=zeZz
 generalize (Tryz.prog.fieldsOf 26).toList=fs at hf
 obtain ⟨f0,r0,rfl,e0,hf⟩:=List.map_eq_cons_iff.1 hf
 obtain ⟨f1,r1,rfl,e1,hf⟩:=List.map_eq_cons_iff.1 hf
 obtain ⟨f2,r2,rfl,e2,hf⟩:=List.map_eq_cons_iff.1 hf
 obtain ⟨f3,r3,rfl,e3,hf⟩:=List.map_eq_cons_iff.1 hf
 obtain rfl:=List.map_eq_nil_iff.1 hf
 simp only[Prod.mk.injEq,decide_eq_true_eq]at e0 e1 e2 e3
 obtain ⟨a0,a1,a2⟩:=e0
 obtain ⟨b0,b1,b2⟩:=e1
 obtain ⟨c0,c1,c2⟩:=e2
 obtain ⟨d0,d1,d2⟩:=e3
 rw[ydz (d+2) f0 _ _ _ (.int .i64 k) (.int .i64 k) true W a2 (by rw[a0,a1];exact znzz ..) (by rw[a0,a1];exact znzz ..) (by rw[a0,zcUz (d+1)];simp),
  ydz (d+2) f1 _ _ _ (.string s) (.string s) true W b2 (by rw[b0,b1];exact znAz ..) (by rw[b0,b1];exact znAz ..) (by rw[b0,zjgz (d+1)];simp),
  ydz (d+2) f2 _ _ _ (.int .i64 n) (.int .i64 n) true W c2 (by rw[c0,c1];exact znBz ..) (by rw[c0,c1];exact znBz ..) (by rw[c0,zcUz (d+1)];simp),
  ydz (d+2) f3 _ _ _ (.agg #[.int .i64 x0,.int .i64 x1,.int .i64 x2,.int .i64 x3,.int .i64 x4,.int .i64 x5,.int .i64 x6,.int .i64 x7]) (.agg #[.int .i64 x0,.int .i64 x1,.int .i64 x2,.int .i64 x3,.int .i64 x4,.int .i64 x5,.int .i64 x6,.int .i64 x7]) true W d2 (by rw[d0,d1];exact znCz ..) (by rw[d0,d1];exact znCz ..) (by rw[d0,eqA d,zqSz])]
 rfl
theorem zmJz:((Tryz.prog.fieldsOf 28).toList.map fun f=>(f.type,f.offset,decide (f.name≠ "_")))=[(3,0,true),(26,1,true),(3,12,true),(9,13,true),(4,14,true),(9,15,true)]:=by kernel_rfl
theorem zrMz(s k n p:Int)(nm a r:ByteArray)(q:Bool)(x0 x1 x2 x3 x4 x5 x6 x7:Int)(W:World):(part 3 #[.int .i64 s,.int .i64 k,.string nm,.int .i64 n,.int .i64 x0,.int .i64 x1,.int .i64 x2,.int .i64 x3,.int .i64 x4,.int .i64 x5,.int .i64 x6,.int .i64 x7,.int .i64 p,.string a,.bool q,.string r] 0).run Tryz.prog W=.ok (.int .i64 s) W:=by kernel_rfl
theorem zrNz(s k n p:Int)(nm a r:ByteArray)(q:Bool)(x0 x1 x2 x3 x4 x5 x6 x7:Int)(W:World):(part 26 #[.int .i64 s,.int .i64 k,.string nm,.int .i64 n,.int .i64 x0,.int .i64 x1,.int .i64 x2,.int .i64 x3,.int .i64 x4,.int .i64 x5,.int .i64 x6,.int .i64 x7,.int .i64 p,.string a,.bool q,.string r] 1).run Tryz.prog W=.ok (.agg #[.int .i64 k,.string nm,.int .i64 n,.int .i64 x0,.int .i64 x1,.int .i64 x2,.int .i64 x3,.int .i64 x4,.int .i64 x5,.int .i64 x6,.int .i64 x7]) W:=by kernel_rfl
theorem zrOz(s k n p:Int)(nm a r:ByteArray)(q:Bool)(x0 x1 x2 x3 x4 x5 x6 x7:Int)(W:World):(part 3 #[.int .i64 s,.int .i64 k,.string nm,.int .i64 n,.int .i64 x0,.int .i64 x1,.int .i64 x2,.int .i64 x3,.int .i64 x4,.int .i64 x5,.int .i64 x6,.int .i64 x7,.int .i64 p,.string a,.bool q,.string r] 12).run Tryz.prog W=.ok (.int .i64 p) W:=by kernel_rfl
theorem zrPz(s k n p:Int)(nm a r:ByteArray)(q:Bool)(x0 x1 x2 x3 x4 x5 x6 x7:Int)(W:World):(part 9 #[.int .i64 s,.int .i64 k,.string nm,.int .i64 n,.int .i64 x0,.int .i64 x1,.int .i64 x2,.int .i64 x3,.int .i64 x4,.int .i64 x5,.int .i64 x6,.int .i64 x7,.int .i64 p,.string a,.bool q,.string r] 13).run Tryz.prog W=.ok (.string a) W:=by kernel_rfl
theorem zrQz(s k n p:Int)(nm a r:ByteArray)(q:Bool)(x0 x1 x2 x3 x4 x5 x6 x7:Int)(W:World):(part 4 #[.int .i64 s,.int .i64 k,.string nm,.int .i64 n,.int .i64 x0,.int .i64 x1,.int .i64 x2,.int .i64 x3,.int .i64 x4,.int .i64 x5,.int .i64 x6,.int .i64 x7,.int .i64 p,.string a,.bool q,.string r] 14).run Tryz.prog W=.ok (.bool q) W:=by kernel_rfl
theorem zrRz(s k n p:Int)(nm a r:ByteArray)(q:Bool)(x0 x1 x2 x3 x4 x5 x6 x7:Int)(W:World):(part 9 #[.int .i64 s,.int .i64 k,.string nm,.int .i64 n,.int .i64 x0,.int .i64 x1,.int .i64 x2,.int .i64 x3,.int .i64 x4,.int .i64 x5,.int .i64 x6,.int .i64 x7,.int .i64 p,.string a,.bool q,.string r] 15).run Tryz.prog W=.ok (.string r) W:=by kernel_rfl
theorem zs8z(d:Nat)(x:Bool)(W:World):(Op.equalIn (d+1) 4 (.bool x) (.bool x)).run Tryz.prog W=.ok true W:=by
 cases x<;>kernel_rfl
theorem eqU(s k n p:Int)(nm a r:ByteArray)(q:Bool)(x0 x1 x2 x3 x4 x5 x6 x7:Int)(W:World):
  (Op.equalIn 10000 28 (.agg #[.int .i64 s,.int .i64 k,.string nm,.int .i64 n,.int .i64 x0,.int .i64 x1,.int .i64 x2,.int .i64 x3,.int .i64 x4,.int .i64 x5,.int .i64 x6,.int .i64 x7,.int .i64 p,.string a,.bool q,.string r]) (.agg #[.int .i64 s,.int .i64 k,.string nm,.int .i64 n,.int .i64 x0,.int .i64 x1,.int .i64 x2,.int .i64 x3,.int .i64 x4,.int .i64 x5,.int .i64 x6,.int .i64 x7,.int .i64 p,.string a,.bool q,.string r])).run Tryz.prog W=.ok true W:=by
 rw[show (10000:Nat)=9999+1 from rfl,run_equalIn_struct W 9999 28 _ _ (by kernel_rfl) (by kernel_rfl)]
 have hf:=zmJz
 generalize (Tryz.prog.fieldsOf 28).toList=fs at hf
 obtain ⟨f0,r0,rfl,e0,hf⟩:=List.map_eq_cons_iff.1 hf
 obtain ⟨f1,r1,rfl,e1,hf⟩:=List.map_eq_cons_iff.1 hf
 obtain ⟨f2,r2,rfl,e2,hf⟩:=List.map_eq_cons_iff.1 hf
 obtain ⟨f3,r3,rfl,e3,hf⟩:=List.map_eq_cons_iff.1 hf
 obtain ⟨f4,r4,rfl,e4,hf⟩:=List.map_eq_cons_iff.1 hf
 obtain ⟨f5,r5,rfl,e5,hf⟩:=List.map_eq_cons_iff.1 hf
 obtain rfl:=List.map_eq_nil_iff.1 hf
 simp only[Prod.mk.injEq,decide_eq_true_eq]at e0 e1 e2 e3 e4 e5
 obtain ⟨a0,a1,a2⟩:=e0
 obtain ⟨b0,b1,b2⟩:=e1
 obtain ⟨c0,c1,c2⟩:=e2
 obtain ⟨d0,d1,d2⟩:=e3
 obtain ⟨g0,g1,g2⟩:=e4
 obtain ⟨h0,h1,h2⟩:=e5
 rw[ydz 9999 f0 _ _ _ (.int .i64 s) (.int .i64 s) true W a2 (by rw[a0,a1];exact zrMz ..) (by rw[a0,a1];exact zrMz ..) (by rw[a0,zcUz 9998];simp),
  ydz 9999 f1 _ _ _ (.agg #[.int .i64 k,.string nm,.int .i64 n,.int .i64 x0,.int .i64 x1,.int .i64 x2,.int .i64 x3,.int .i64 x4,.int .i64 x5,.int .i64 x6,.int .i64 x7]) (.agg #[.int .i64 k,.string nm,.int .i64 n,.int .i64 x0,.int .i64 x1,.int .i64 x2,.int .i64 x3,.int .i64 x4,.int .i64 x5,.int .i64 x6,.int .i64 x7]) true W b2 (by rw[b0,b1];exact zrNz ..) (by rw[b0,b1];exact zrNz ..) (by rw[b0];exact zs7z 9996 ..),
  ydz 9999 f2 _ _ _ (.int .i64 p) (.int .i64 p) true W c2 (by rw[c0,c1];exact zrOz ..) (by rw[c0,c1];exact zrOz ..) (by rw[c0,zcUz 9998];simp),
  ydz 9999 f3 _ _ _ (.string a) (.string a) true W d2 (by rw[d0,d1];exact zrPz ..) (by rw[d0,d1];exact zrPz ..) (by rw[d0,zjgz 9998];simp),
  ydz 9999 f4 _ _ _ (.bool q) (.bool q) true W g2 (by rw[g0,g1];exact zrQz ..) (by rw[g0,g1];exact zrQz ..) (by rw[g0];exact zs8z 9998 ..),
  ydz 9999 f5 _ _ _ (.string r) (.string r) true W h2 (by rw[h0,h1];exact zrRz ..) (by rw[h0,h1];exact zrRz ..) (by rw[h0,zjgz 9998];simp)]
 rfl
theorem zbqz{ops:Array Oper}{rest:List Oper}{o:Oper}{a:Act}{W:World}{Q:Exit→Act→World→Prop}{B:Nat}{vs:List Value}(hU:UAt W B vs)(hl:vs.length=16)(hw:Region.wanted o (yielded ops a.tmps)=true)(x:Operand)(ho:o.op=.load 28 x)
  (hx:a.eval x=.pointer (some ⟨B,0,none⟩)) (h:wpList Tryz.prog ops Q rest (a.put o.dst (.agg vs.toArray)) W):wpList Tryz.prog ops Q (o::rest) a W:=by
 obtain ⟨d,hd1,hd2⟩:=Tryz.rowUrl
 refine wpList_step fun K hK=> ?_
 rw[if_pos hw]
 exact wp_load_mid _ x ho B 0 hx vs d (hU.range 0 vs (fun j v hv=>by rw[Nat.zero_add];exact hv)) hd1 hd2 (by rw[hl];exact Tryz.infoUrl) (hK _ _ h)
theorem zuaz(D B:Nat)(ao:Option Addr)(len cap:Nat)(w:World)(hcur:Cur D B ao len cap w):
  Calls Tryz.prog 79 #[.pointer (some ⟨B,0,none⟩)] w fun e w'=> ∃z:ByteArray,z.size≤1000∧e=.returned (.string z)∧Cur D B ao len cap w'∧w.grownBy w' (some B):=by
 have HC:Hid (Cur D B ao len cap w):=hcur
 clear hcur
 go_enter Tryz.func79,Tryz.ntmps79
 go_wp2_with fail
 refine (vuz 7 _ _ _ _ _ _ (by omega) (by omega) HC.out).mono ?_
 rintro e wa ⟨x,hx0,hx1,rfl,ca,ga⟩
 have CA:Hid (Cur D B ao len cap wa):=ca
 clear ca
 obtain ⟨n,rfl⟩:=Int.eq_ofNat_of_zero_le hx0
 go_wp2_with fail
 go_loopw[3,4] (fun a i wr=> ∃(k:Nat) (z:ByteArray),k≤n∧i=.int .i64 k∧a=.string z∧z.size+20*k≤20*n∧Cur D B ao len cap wr∧w.grownBy wr (some B)) (fun _ i _=>(intOf i).toNat)
 case atStart=>exact ⟨n,⟨#[]⟩,Nat.le_refl _,rfl,rfl,by simp[ByteArray.size],CA.out,ga⟩
 obtain ⟨k,z,hk,rfl,rfl,hz,hcu,hgr⟩:=hrel
 have HU:Hid (Cur D B ao len cap wr):=hcu
 have hB:=hcu.lt
 clear hcu
 by_cases hp:0<k
 ·go_wp2_with fail
  refine (zbOz 20 17 _ 17 0 _ _ _ _ _ _ _ (by omega) (by omega) (HU.out.alloc _) (World.ownsRow_lit wr _ 17 (Nat.zero_le _) (by decide) rfl) (by omega) (by decide)).mono ?_
  rintro e wc ⟨y,hy,rfl,cc,gc⟩
  have CC:Hid (Cur D B ao len cap wc):=cc
  have G:=ztz (xkz hgr _) gc
  clear cc gc hgr
  go_wp2_with fail
  go_roundw
  case rel=>exact ⟨k-1,z++y,by omega,by go_num,rfl,by rw[ByteArray.size_append];omega,CC.out,G⟩
  case measure=>simp[intOf];omega
 go_wp2_with fail
 go_ret
 exact ⟨z,by omega,rfl,HU.out,hgr⟩
theorem znUz(D B:Nat)(ao:Option Addr)(len cap:Nat)(w:World)(hcur:Cur D B ao len cap w):
  Calls Tryz.prog 181 #[.pointer (some ⟨B,0,none⟩)] w fun e w'=> ∃z:ByteArray,z.size≤20∧e=.returned (.string z)∧Cur D B ao len cap w'∧w.grownBy w' (some B):=by
 have HC:Hid (Cur D B ao len cap w):=hcur
 have hB:=hcur.lt
 clear hcur
 go_enter Tryz.func181,Tryz.ntmps181
 go_wp2_with fail
 refine (zbOz 20 16 _ 16 0 _ _ _ _ _ _ _ (by omega) (by omega) (HC.out.alloc _) (World.ownsRow_lit w _ 16 (Nat.zero_le _) (by decide) rfl) (by omega) (by decide)).mono ?_
 rintro e wc ⟨y,hy,rfl,cc,gc⟩
 have CC:Hid (Cur D B ao len cap wc):=cc
 have G:=ztz (World.grownBy_alloc w _ (some B)) gc
 clear cc gc
 go_wp2_with fail
 go_ret
 exact ⟨y,hy,rfl,CC.out,G⟩
theorem zubz(D B:Nat)(ao:Option Addr)(len cap:Nat)(w:World)(hcur:Cur D B ao len cap w):
  Calls Tryz.prog 180 #[.pointer (some ⟨B,0,none⟩)] w fun e w'=> ∃z:ByteArray,z.size≤100∧e=.returned (.string z)∧Cur D B ao len cap w'∧w.grownBy w' (some B):=by
 have HC:Hid (Cur D B ao len cap w):=hcur
 clear hcur
 go_enter Tryz.func180,Tryz.ntmps180
 go_wp2_with fail
 refine (znUz _ _ _ _ _ _ HC.out).mono ?_
 rintro e wz ⟨z0,hz0,rfl,cz,gz⟩
 have CZ:Hid (Cur D B ao len cap wz):=cz
 clear cz
 go_wp2_with fail
 refine (vuz 4 _ _ _ _ _ _ (by omega) (by omega) CZ.out).mono ?_
 rintro e wa ⟨x,hx0,hx1,rfl,ca,ga⟩
 have CA:Hid (Cur D B ao len cap wa):=ca
 have GA:=ztz gz ga
 clear ca gz ga
 obtain ⟨n,rfl⟩:=Int.eq_ofNat_of_zero_le hx0
 go_wp2_with fail
 go_loopw[3,4] (fun a i wr=> ∃(k:Nat) (z:ByteArray),k≤n∧i=.int .i64 k∧a=.string z∧z.size+21*k≤20+21*n∧Cur D B ao len cap wr∧w.grownBy wr (some B)) (fun _ i _=>(intOf i).toNat)
 case atStart=>exact ⟨n,z0,Nat.le_refl _,rfl,rfl,by omega,CA.out,GA⟩
 obtain ⟨k,z,hk,rfl,rfl,hz,hcu,hgr⟩:=hrel
 have HU:Hid (Cur D B ao len cap wr):=hcu
 clear hcu
 by_cases hp:0<k
 ·have hd1:(⟨#[46]⟩:ByteArray).size=1:=rfl
  go_wp2_with fail
  refine (znUz _ _ _ _ _ _ HU.out).mono ?_
  rintro e wc ⟨y,hy,rfl,cc,gc⟩
  have CC:Hid (Cur D B ao len cap wc):=cc
  have G:=ztz hgr gc
  clear cc gc hgr
  go_wp2_with fail
  go_roundw
  case rel=>exact ⟨k-1,_,by omega,by go_num,rfl,by rw[ByteArray.size_append,ByteArray.size_append,hd1];omega,CC.out,G⟩
  case measure=>simp[intOf];omega
 go_wp2_with fail
 go_ret
 exact ⟨z,by omega,rfl,HU.out,hgr⟩
end Go.Proofs.YtgcbaphbiaimoaaGreatDoor
