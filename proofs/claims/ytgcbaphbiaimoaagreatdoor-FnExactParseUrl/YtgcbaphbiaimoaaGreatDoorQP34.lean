/- UrlParse. -/
import Derived.Test.YtgcbaphbiaimoaaGreatDoorQP33
set_option maxHeartbeats 8000000
set_option maxRecDepth 100000
namespace Go.Proofs.YtgcbaphbiaimoaaGreatDoor
open Go.RowKit
def zluz(u:UV):List Value:=.int .i64 u.s::.int .i64 u.h.k::.string u.h.s::.int .i64 u.h.n::(u.h.z.map (Value.int .i64)++[.int .i64 u.p,.string u.a,.bool u.q,.string u.r])
def zb1z(u:UV):Value:=.agg (zluz u).toArray
theorem ziqz(l:List UInt8):(ySz l).length≤l.length:=by
 unfold ySz
 refine Nat.le_trans (List.length_filter_le _ _) ?_
 have h:=congrArg List.length (List.takeWhile_append_dropWhile (p:=fun c=>c !=35) (l:=Lib.trimS l vUz))
 rw[List.length_append]at h
 have h2:=zdMz l vUz
 omega
def PS(w:World)(U:Nat)(sch p:Int)(W:World):Prop:=
 UAt W w.heap.size zHz∧UAt W (w.heap.size+1) zHz∧UAt W U (zqz sch 0 ⟨#[]⟩ 0 0 0 0 0 0 0 0 0 p ⟨#[]⟩ false ⟨#[]⟩)∧w.heap.size+1<U∧Below w.heap.size w W
theorem PS.later{w:World}{U:Nat}{sch p:Int}{W W':World}(h:PS w U sch p W)(hb:Below W.heap.size W W'):PS w U sch p W':=
 ⟨h.1.below hb,h.2.1.below hb,h.2.2.1.below hb,h.2.2.2.1,h.2.2.2.2.trans (hb.mono h.2.2.2.2.size)⟩
theorem PS.sch{w:World}{U:Nat}{sch p:Int}{W:World}(h:PS w U sch p W)(v:Int):PS w U v p (W.setCell ⟨U,0,none⟩ (.int .i64 v)):=by
 obtain ⟨h1,h2,h3,h4,h5⟩:=h
 exact ⟨h1.other (by omega) _ _,h2.other (by omega) _ _,h3.set 0 (by simp[zqz]) _,h4,h5.setCell (p:=⟨U,0,none⟩) (by show _≤U;omega) _⟩
theorem PS.port{w:World}{U:Nat}{sch p:Int}{W:World}(h:PS w U sch p W)(v:Int):PS w U sch v (W.setCell ⟨U,12,none⟩ (.int .i64 v)):=by
 obtain ⟨h1,h2,h3,h4,h5⟩:=h
 exact ⟨h1.other (by omega) _ _,h2.other (by omega) _ _,h3.set 12 (by simp[zqz]) _,h4,h5.setCell (p:=⟨U,12,none⟩) (by show _≤U;omega) _⟩
theorem PS.moved{w:World}{U C:Nat}{sch p:Int}{W W':World}(h:PS w U sch p W)(h1:w.heap.size+1<C)(h2:U≠C)(hM:ze3z C W W'):PS w U sch p W':=
 ⟨hM.1 _ _ (by omega) h.1,hM.1 _ _ (by omega) h.2.1,hM.1 _ _ h2 h.2.2.1,h.2.2.2.1,hM.2 _ _ (by omega) h.2.2.2.2⟩
def PF(w:World)(U:Nat)(row:List Value)(W:World):Prop:=UAt W w.heap.size zHz∧UAt W (w.heap.size+1) zHz∧UAt W U row∧w.heap.size+1<U∧Below w.heap.size w W
theorem PF.later{w:World}{U:Nat}{row:List Value}{W W':World}(h:PF w U row W)(hb:Below W.heap.size W W'):PF w U row W':=
 ⟨h.1.below hb,h.2.1.below hb,h.2.2.1.below hb,h.2.2.2.1,h.2.2.2.2.trans (hb.mono h.2.2.2.2.size)⟩
theorem PF.turned{w:World}{U:Nat}{row row':List Value}{W W':World}(h:PF w U row W)(hU:UAt W' U row')(hM:ze3z U W W'):PF w U row' W':=
 have h4:=h.2.2.2.1
 ⟨hM.1 _ _ (by omega) h.1,hM.1 _ _ (by omega) h.2.1,hU,h4,hM.2 _ _ (by omega) h.2.2.2.2⟩
theorem zs2z{u:UV}(h:(orgL u).length+(jhz u).length≤2000):fitU u=(0,u):=by unfold fitU;rw[if_pos h]
theorem zt7z{u:UV}(h: ¬(orgL u).length+(jhz u).length≤2000):fitU u=(1,y3z):=by unfold fitU;rw[if_neg h]
theorem zrBz{l:List UInt8}{u:UV}(h:zwz l=(0,u)):Ending.returned (.tuple #[.agg (zluz u).toArray,.int .i64 0])=.returned (.tuple #[zb1z (zwz l).2,.int .i64 (zwz l).1]):=by rw[h];rfl
theorem zcmz{l:List UInt8}{c:Int}(h:zwz l=(c,y3z)):Ending.returned (.tuple #[.agg zHz.toArray,.int .i64 c])=.returned (.tuple #[zb1z (zwz l).2,.int .i64 (zwz l).1]):=by rw[h];rfl
theorem ze6z{l:List UInt8}(h:yrz l=none):zaRz l=(2,y3z):=by unfold zaRz;rw[h]
theorem zjwz{l t:List UInt8}{s:Int}(h:yrz l=some (s,t)):zaRz l=jUz s t:=by unfold zaRz;rw[h]
def zavz(t:ByteArray):Bool:=decide (6<t.size∧(zdz t.data.toList).take 5=zbRz∧slB (t.data.toList.getD 5 0)=true∧slB (t.data.toList.getD 6 0)=true)
def zamz(t:ByteArray):Bool:=decide (7<t.size∧(zdz t.data.toList).take 6=jTz∧slB (t.data.toList.getD 6 0)=true∧slB (t.data.toList.getD 7 0)=true)
theorem zrCz{t:ByteArray}(h:zavz t=true):yrz t.data.toList=some (1,(t.extract 5 t.size).data.toList):=by
 have h1:=of_decide_eq_true h
 unfold yrz
 rw[if_pos ⟨by simpa using h1.1,h1.2⟩,xmz]
theorem zrDz{t:ByteArray}(h0:zavz t=false)(h:zamz t=true):yrz t.data.toList=some (2,(t.extract 6 t.size).data.toList):=by
 have h1:=of_decide_eq_true h
 have h2:=of_decide_eq_false h0
 unfold yrz
 rw[if_neg (fun hh=>h2 ⟨by simpa using hh.1,hh.2⟩),if_pos ⟨by simpa using h1.1,h1.2⟩,xmz]
theorem zrEz{t:ByteArray}(h0:zavz t=false)(h:zamz t=false):yrz t.data.toList=none:=by
 have h1:=of_decide_eq_false h
 have h2:=of_decide_eq_false h0
 unfold yrz
 rw[if_neg (fun hh=>h2 ⟨by simpa using hh.1,hh.2⟩),if_neg (fun hh=>h1 ⟨by simpa using hh.1,hh.2⟩)]
theorem zo8z(c:UInt8):yOz (⟨#[47,92,63]⟩:ByteArray).data.toList (c.toNat:Int)= !z3z c:=by
 have key: ∀n:Nat,n<256→yOz [47,92,63] (n:Int)= !z3z (UInt8.ofNat n):=by decide+kernel
 have h:=key c.toNat c.toNat_lt
 simpa using h
theorem zrFz(l:List UInt8):yOz l 64=l.contains 64:=by
 rw[Bool.eq_iff_iff,List.contains_iff_mem]
 unfold yOz
 rw[List.any_eq_true]
 constructor
 ·rintro ⟨b,hb,h⟩
  have e:b=64:=UInt8.toNat_inj.1 (show b.toNat=64 by have:=of_decide_eq_true h;omega)
  rw[←e]
  exact hb
 intro h
 exact ⟨64,h,by decide⟩
theorem zt8z{l:List UInt8}{k:Nat}(h:vDz l=some k):k<l.length:=by
 unfold vDz at h
 rw[Option.map_eq_some_iff]at h
 obtain ⟨i,h1,h2⟩:=h
 obtain ⟨h3,_⟩:=List.findIdx?_eq_some_iff_getElem.1 h1
 rw[List.length_drop]at h3
 omega
theorem zg0z{s:Int}(h:s=1∨s=2):1≤zSz s∧zSz s≤65535:=by rcases h with rfl|rfl<;>decide
def tooU(sch pn:Int)(auth rest:List UInt8):Int×UV:=if 1≤pn∧pn≤65535 then zadz sch pn auth rest else (5,y3z)
theorem zrGz{sch:Int}{l r:List UInt8}(hs:sch=1∨sch=2)(h:vDz l=none):cutU sch l r=tooU sch (zSz sch) l r:=by
 unfold cutU tooU
 rw[h,if_pos (zg0z hs)]
theorem zrHz{sch:Int}{l r:List UInt8}{k:Nat}(h:vDz l=some k):cutU sch l r=tooU sch (yJz sch (l.drop (k+1))) (l.take k) r:=by
 unfold cutU tooU
 rw[h]
theorem znTz{n m:Nat}: ∀{l:List UInt8} {v:Nat},yUz 10 v l=some n→v<10^m→n<10^(m+l.length)
 |[],v,h,hv=>by
  rw[yUz]at h
  cases h
  simpa using hv
 |c::r,v,h,hv=>by
  rw[yUz]at h
  split at h
  ·next hc=>
   have h1:=znTz (m:=m+1) h (by
    rw[Nat.pow_succ]
    omega)
   rw[List.length_cons,show m+(r.length+1)=m+1+r.length by omega]
   exact h1
  cases h
theorem zs3z(l:List UInt8):yLz (z4z 10 5 l)≤1048576∧ -1≤yLz (z4z 10 5 l):=by
 unfold yLz z4z
 split
 ·decide
 next n h=>
 split at h
 ·next hl=>
  have h1:=znTz (m:=0) h (by decide)
  have h2:(10:Nat)^(0+l.length)≤10^5:=Nat.pow_le_pow_right (by decide) (by omega)
  have h3:(10:Nat)^5=100000:=rfl
  omega
 cases h
theorem zt9z{sch pn:Int}{l r:List UInt8}(h: ¬(1≤pn∧pn≤65535)):tooU sch pn l r=(5,y3z):=by unfold tooU;rw[if_neg h]
theorem zs4z{sch pn:Int}{l r:List UInt8}(h:1≤pn∧pn≤65535):tooU sch pn l r=zadz sch pn l r:=by unfold tooU;rw[if_pos h]
theorem zmEz(h:HV)(hz:h.z.length=8): ∃(k n:Int) (nm:ByteArray) (x0 x1 x2 x3 x4 x5 x6 x7:Int),h=⟨k,nm,n,[x0,x1,x2,x3,x4,x5,x6,x7]⟩:=by
 obtain ⟨k,nm,n,z⟩:=h
 match z,hz with
 |[x0,x1,x2,x3,x4,x5,x6,x7],_=>exact ⟨k,n,nm,x0,x1,x2,x3,x4,x5,x6,x7,rfl⟩
theorem zg2z{h:HV}(ho:hOk h=true):h.s.size≤253:=by
 unfold hOk at ho
 split at ho
 ·simp only[Bool.and_eq_true,decide_eq_true_eq]at ho
  have:=zdyz ho.1.1.1
  simpa using this
 split at ho
 ·simp only[Bool.and_eq_true,decide_eq_true_eq]at ho
  omega
 split at ho
 ·simp only[Bool.and_eq_true,decide_eq_true_eq]at ho
  omega
 cases ho
theorem zmFz(P:ByteArray):(jmz P).data.toList=orSl P.data.toList:=by
 unfold jmz orSl
 by_cases h:P.size=0
 ·rw[if_pos h,if_pos (List.eq_nil_of_length_eq_zero (by simpa using h))]
 rw[if_neg h,if_neg (fun e=>h (by have:=congrArg List.length e;simpa using this))]
theorem zs5z(s:Int)(h:HV)(p:Int)(l:ByteArray):zaQz s h p l.data.toList=⟨s,h,p,zb0z l,zd7z l,zbvz l⟩:=by
 unfold zaQz zb0z zd7z zbvz
 rw[zmFz]
 have e1:(!(l.data.toList.dropWhile fun c=>c !=63).isEmpty)=decide (0<(vcz l).size):=by
  show _=decide (0<(l.data.toList.dropWhile fun c=>c !=63).toArray.size)
  rw[List.size_toArray]
  cases l.data.toList.dropWhile fun c=>c !=63 with
  |nil=>rfl
  |cons c r=>simp
 have e2:(⟨((l.data.toList.dropWhile fun c=>c !=63).drop 1).toArray⟩:ByteArray)=(vcz l).extract 1 (vcz l).size:=by
  apply zIz
  show (l.data.toList.dropWhile fun c=>c !=63).drop 1=((vcz l).extract 1 (vcz l).size).data.toList
  rw[xmz]
  rfl
 rw[e1,e2]
 rfl
theorem zd9z(set:Int)(x:ByteArray):(plB set x).size≤3*x.size:=by
 show (plL set (toL x)).toArray.size≤_
 rw[List.size_toArray]
 have h:=zlyz set (toL x)
 have h2:(toL x).length=x.size:=by simp[toL]
 omega
theorem zmGz(l:ByteArray)(h:l.size≤2000):(zb0z l).size≤10000:=by
 unfold zb0z
 refine Nat.le_trans (zgmz _) (Nat.le_trans (zd9z _ _) ?_)
 have h1:(jmz (zd6z l)).size≤2000:=by
  unfold jmz
  split
  ·decide
  exact Nat.le_trans (jZz l).1 h
 have h2:(⟨(yRz (jmz (zd6z l)).data.toList).toArray⟩:ByteArray).size=(jmz (zd6z l)).size:=by
  show (yRz (jmz (zd6z l)).data.toList).toArray.size=_
  rw[List.size_toArray,vxz]
  simp
 omega
theorem zmHz(l:ByteArray)(h:l.size≤2000):(zbvz l).size≤10000:=by
 unfold zbvz
 refine Nat.le_trans (zd9z _ _) ?_
 have h1:(vcz l).size≤l.size:=(jZz l).2
 rw[ByteArray.size_extract]
 omega
theorem zrIz{k n:Int}{nm:ByteArray}{x0 x1 x2 x3 x4 x5 x6 x7:Int}(sch pn:Int)(hnm:nm.size≤1048576):(xdz sch (hTx ⟨k,nm,n,[x0,x1,x2,x3,x4,x5,x6,x7]⟩) pn).length≤2097152:=by
 have h1:=zbYz (k:=k) (n:=n) (s:=nm) (x0:=x0) (x1:=x1) (x2:=x2) (x3:=x3) (x4:=x4) (x5:=x5) (x6:=x6) (x7:=x7) hnm
 have h2:=zckz sch
 have h3:(⟨(vvz sch).toArray⟩:ByteArray).size=(vvz sch).length:=List.size_toArray
 have h4:(xoz sch pn).length≤6:=by
  unfold xoz
  split
  ·decide
  have h5:=jXz pn
  have h6:(xRz pn).size=(x1z pn.toNat).length:=List.size_toArray
  rw[List.length_cons]
  omega
 have h7:(toL (hTx ⟨k,nm,n,[x0,x1,x2,x3,x4,x5,x6,x7]⟩)).length=(hTx ⟨k,nm,n,[x0,x1,x2,x3,x4,x5,x6,x7]⟩).size:=by simp[toL]
 unfold xdz
 simp only[List.length_append,List.length_cons]
 omega
theorem zirz{a r:ByteArray}(q:Bool)(ha:a.size≤10000)(hr:r.size≤10000):(jbz a q r).length≤2097152:=by
 have h1:(toL a).length=a.size:=by simp[toL]
 have h2:(toL r).length=r.size:=by simp[toL]
 unfold jbz
 split
 ·rw[List.length_append,List.length_cons]
  omega
 omega
theorem zo9z(sch:Int):yJz sch []=zSz sch:=rfl
theorem zpaz(sch:Int){p:List UInt8}(h:p≠[]):yJz sch p=yLz (z4z 10 5 p):=by
 unfold yJz yLz
 rw[if_neg h]
 cases z4z 10 5 p<;>rfl
theorem zeaz(s:ByteArray)(w:World)(hs:s.size≤1099511627776):
  Calls Tryz.prog 20 #[.string s] w fun e w'=>e=.returned (.tuple #[zb1z (zwz s.data.toList).2,.int .i64 (zwz s.data.toList).1])∧Below w.heap.size w w':=by
 have hsl:s.data.toList.length=s.size:=by simp
 obtain ⟨O,hO⟩: ∃O,O=(w.alloc (.cells #[.int .i64 0,.int .i64 0,.string ⟨#[]⟩,.int .i64 0,.int .i64 0,.int .i64 0,.int .i64 0,.int .i64 0,.int .i64 0,.int .i64 0,.int .i64 0,.int .i64 0,.int .i64 0,.string ⟨#[]⟩,.bool false,.string ⟨#[]⟩] 28)).alloc (.cells #[.int .i64 0,.int .i64 0,.string ⟨#[]⟩,.int .i64 0,.int .i64 0,.int .i64 0,.int .i64 0,.int .i64 0,.int .i64 0,.int .i64 0,.int .i64 0,.int .i64 0,.int .i64 0,.string ⟨#[]⟩,.bool false,.string ⟨#[]⟩] 28):=⟨_,rfl⟩
 have HR1:UAt O w.heap.size zHz:=by
  rw[hO]
  exact (UAt.new w _ _).below ((Below.refl _ _).alloc (Nat.le_refl _) _)
 have HN1:UAt O (w.heap.size+1) zHz:=by
  rw[hO]
  have h:=UAt.new (w.alloc (.cells #[.int .i64 0,.int .i64 0,.string ⟨#[]⟩,.int .i64 0,.int .i64 0,.int .i64 0,.int .i64 0,.int .i64 0,.int .i64 0,.int .i64 0,.int .i64 0,.int .i64 0,.int .i64 0,.string ⟨#[]⟩,.bool false,.string ⟨#[]⟩] 28)) #[.int .i64 0,.int .i64 0,.string ⟨#[]⟩,.int .i64 0,.int .i64 0,.int .i64 0,.int .i64 0,.int .i64 0,.int .i64 0,.int .i64 0,.int .i64 0,.int .i64 0,.int .i64 0,.string ⟨#[]⟩,.bool false,.string ⟨#[]⟩] 28
  rw[World.size_alloc]at h
  exact h
 have HB1:Below w.heap.size w O:=by
  rw[hO]
  exact ((Below.refl _ w).alloc (Nat.le_refl _) _).alloc (by simp) _
 have HS1:O.heap.size=w.heap.size+2:=by rw[hO];simp
 have HQ1:Hid (UAt O w.heap.size zHz∧UAt O (w.heap.size+1) zHz∧Below w.heap.size w O∧O.heap.size=w.heap.size+2):=⟨HR1,HN1,HB1,HS1⟩
 clear HR1 HN1 HB1 HS1
 go_enter Tryz.func20,Tryz.ntmps20
 go_upto_if 17 with fail
 rw[←hO]
 clear hO
 by_cases hbig:2000<s.size
 ·have HRR:Hid (zwz s.data.toList=(1,y3z)):=by show _=_;unfold zwz;rw[if_pos (by omega)]
  have hbi:2000<(s.size:Int):=by omega
  clear hsl
  go_wp2_with (first|(refine xGz HQ1.out.2.1 rfl rfl _ rfl rfl ?_)|(refine y5z HQ1.out.1 rfl (us:=zHz) rfl (zQz ..) rfl _ _ rfl rfl rfl ?_;intro w9 HU9 HM9))
  refine bodyPost_ret (yez rfl _ _ w.heap.size (.int .i64 1) _ rfl rfl rfl HU9) rfl ⟨zcmz HRR.out,HM9.2 _ _ (Nat.le_refl _) HQ1.out.2.2.1⟩
 have HR0:zwz s.data.toList=zaRz (ySz s.data.toList):=by unfold zwz;rw[if_neg (by omega)]
 have hts:(⟨(ySz s.data.toList).toArray⟩:ByteArray).size≤2000:=by
  have h1:=ziqz s.data.toList
  show (ySz s.data.toList).toArray.size≤_
  rw[List.size_toArray]
  omega
 have CC:Hid (∀W,CB 51 #[.string s] W (.string ⟨(ySz s.data.toList).toArray⟩)):=fun W=>zoJz s W (by omega)
 have HR:Hid (zwz s.data.toList=zaRz (⟨(ySz s.data.toList).toArray⟩:ByteArray).data.toList):=HR0
 generalize (⟨(ySz s.data.toList).toArray⟩:ByteArray)=t at hts CC HR
 have hbi: ¬2000<(s.size:Int):=by omega
 have CL:Hid (∀W,CB 52 #[.string t] W (.string ⟨(zdz t.data.toList).toArray⟩)):=fun W=>zhjz t W (by omega)
 clear hsl hbig HR0
 go_wp2_with fail
 refine (CC.out _).mono ?_
 rintro e w1 ⟨rfl,b1⟩
 have HP1:Hid (PS w w1.heap.size 0 0 (w1.alloc (.cells #[.int .i64 0,.int .i64 0,.string ⟨#[]⟩,.int .i64 0,.int .i64 0,.int .i64 0,.int .i64 0,.int .i64 0,.int .i64 0,.int .i64 0,.int .i64 0,.int .i64 0,.int .i64 0,.string ⟨#[]⟩,.bool false,.string ⟨#[]⟩] 28))):=by
  obtain ⟨h1,h2,h3,h4⟩:=HQ1.out
  have hz:=b1.size
  have ha:Below w1.heap.size w1 (w1.alloc (.cells #[.int .i64 0,.int .i64 0,.string ⟨#[]⟩,.int .i64 0,.int .i64 0,.int .i64 0,.int .i64 0,.int .i64 0,.int .i64 0,.int .i64 0,.int .i64 0,.int .i64 0,.int .i64 0,.string ⟨#[]⟩,.bool false,.string ⟨#[]⟩] 28)):=(Below.refl _ _).alloc (Nat.le_refl _) _
  exact ⟨(h1.below b1).below ha,(h2.below b1).below ha,UAt.new w1 _ _,by omega,(h3.trans (b1.mono h3.size)).trans (ha.mono (by have:=h3.size;omega))⟩
 clear b1 HQ1
 go_wp2_with fail
 generalize (w1.alloc (.cells #[.int .i64 0,.int .i64 0,.string ⟨#[]⟩,.int .i64 0,.int .i64 0,.int .i64 0,.int .i64 0,.int .i64 0,.int .i64 0,.int .i64 0,.int .i64 0,.int .i64 0,.int .i64 0,.string ⟨#[]⟩,.bool false,.string ⟨#[]⟩] 28))=w2 at HP1⊢
 generalize w1.heap.size=U at HP1⊢
 refine (CL.out _).mono ?_
 rintro e w3 ⟨rfl,b3⟩
 have HP3:Hid (PS w U 0 0 w3):=HP1.out.later b3
 clear b3 HP1 CL CC
 have hL5:((⟨(zdz t.data.toList).toArray⟩:ByteArray).extract 0 5).data.toList=(zdz t.data.toList).take 5:=xUz _ 5
 have hL6:((⟨(zdz t.data.toList).toArray⟩:ByteArray).extract 0 6).data.toList=(zdz t.data.toList).take 6:=xUz _ 6
 have hLs:(⟨(zdz t.data.toList).toArray⟩:ByteArray).size=t.size:=by
  show (zdz t.data.toList).toArray.size=_
  rw[List.size_toArray]
  simp[zdz]
 have HL5:Hid (((⟨(zdz t.data.toList).toArray⟩:ByteArray).extract 0 5).data.toList=(zdz t.data.toList).take 5):=hL5
 have HL6:Hid (((⟨(zdz t.data.toList).toArray⟩:ByteArray).extract 0 6).data.toList=(zdz t.data.toList).take 6):=hL6
 have HLS:Hid ((⟨(zdz t.data.toList).toArray⟩:ByteArray).size=t.size):=hLs
 clear hL5 hL6 hLs
 generalize (⟨(zdz t.data.toList).toArray⟩:ByteArray)=L at HL5 HL6 HLS⊢
 go_upto_block 0 with fail
 go_cut [5] (fun v wx=> ∃(sch:Int) (T:ByteArray),v=.string T∧T.size≤2000∧(sch=1∨sch=2)∧Hid (zwz s.data.toList=jUz sch T.data.toList)∧Hid (PS w U sch 0 wx))
 case first=>
  as_aux_lemma=>
   go_upto_region 8 with fail
   go_cut [25] (fun v wx=>v=.bool (zavz t)∧wx=w3)
   case first=>
    have hLi:(L.size:Int)=(t.size:Int):=by have:=HLS.out;omega
    by_cases h6:6<t.size
    ·have h6i:6<(t.size:Int):=by omega
     by_cases h5:(zdz t.data.toList).take 5=zbRz
     ·have hc:((L.extract 0 5).toList==[104,116,116,112,58])=true:=zeBz (HL5.out.trans h5)
      obtain ⟨d5,hd5⟩: ∃d:Nat,t[5].toNat=d:=⟨_,rfl⟩
      obtain ⟨d6,hd6⟩: ∃d:Nat,t[6].toNat=d:=⟨_,rfl⟩
      have C5:Hid (∀W,CS 53 #[.int .u8 (d5:Int)] W (.bool (slB t[5]))):=fun W=>zaTz t[5] d5 hd5 W
      have C6:Hid (∀W,CS 53 #[.int .u8 (d6:Int)] W (.bool (slB t[6]))):=fun W=>zaTz t[6] d6 hd6 W
      have g5:=j5z t 5 (by omega)
      have g6:=j5z t 6 (by omega)
      have HI:Hid (zavz t=(slB t[5]&&slB t[6])):=by
       show _=_
       unfold zavz
       rw[g5,g6,Bool.eq_iff_iff,decide_eq_true_eq,Bool.and_eq_true]
       exact ⟨fun h=>h.2.2,fun h=>⟨h6,h5,h⟩⟩
      clear g5 g6 h5
      generalize slB t[5]=b5 at C5 HI
      generalize slB t[6]=b6 at C6 HI
      cases b5 with
      |false=>
       go_wp2_with fail
       refine (C5.out _).mono ?_
       rintro e w' ⟨rfl,rfl⟩
       go_wp2_with fail
       go_meet
       exact ⟨by rw[HI.out];rfl,rfl⟩
      |true=>
       go_wp2_with fail
       refine (C5.out _).mono ?_
       rintro e w' ⟨rfl,rfl⟩
       go_wp2_with fail
       refine (C6.out _).mono ?_
       rintro e w' ⟨rfl,rfl⟩
       go_wp2_with fail
       go_meet
       exact ⟨by rw[HI.out];rfl,rfl⟩
     have hc:((L.extract 0 5).toList==[104,116,116,112,58])=false:=zeCz (fun h=>h5 (HL5.out.symm.trans h))
     have HI:Hid (zavz t=false):=decide_eq_false fun h=>h5 h.2.1
     clear h5
     go_wp2_with fail
     go_meet
     exact ⟨by rw[HI.out],rfl⟩
    have h6i: ¬6<(t.size:Int):=by omega
    have HI:Hid (zavz t=false):=decide_eq_false fun h=>h6 h.1
    go_wp2_with fail
    go_meet
    exact ⟨by rw[HI.out],rfl⟩
   obtain ⟨rfl,hw⟩:=hcut
   obtain rfl:=hw.symm
   cases hh:zavz t with
   |true=>
    have HS:Hid (zwz s.data.toList=jUz 1 (t.extract 5 t.size).data.toList):=HR.out.trans (zjwz (zrCz hh))
    have h6:6<(t.size:Int):=by have:=(of_decide_eq_true hh).1;omega
    have hes:(t.extract 5 t.size).size≤2000:=by rw[ByteArray.size_extract];omega
    have HP4:Hid (PS w U 1 0 (w3.setCell ⟨U,0,none⟩ (.int .i64 1))):=HP3.out.sch 1
    have c0:=HP3.out.2.2.1.1 0 _ rfl
    have f0:=HP3.out.2.2.1.2.1 0
    clear hh
    go_wp2_with fail
    go_meet
    exact ⟨1,_,rfl,hes,.inl rfl,HS,HP4⟩
   |false=>
    have HF:Hid (zavz t=false):=hh
    clear hh
    go_upto_region 11 with fail
    go_cut [47] (fun v wx=>v=.bool (zamz t)∧wx=w3)
    case first=>
     have hLi:(L.size:Int)=(t.size:Int):=by have:=HLS.out;omega
     by_cases h6:7<t.size
     ·have h6i:7<(t.size:Int):=by omega
      by_cases h5:(zdz t.data.toList).take 6=jTz
      ·have hc:((L.extract 0 6).toList==[104,116,116,112,115,58])=true:=zeBz (HL6.out.trans h5)
       obtain ⟨d5,hd5⟩: ∃d:Nat,t[6].toNat=d:=⟨_,rfl⟩
       obtain ⟨d6,hd6⟩: ∃d:Nat,t[7].toNat=d:=⟨_,rfl⟩
       have C5:Hid (∀W,CS 53 #[.int .u8 (d5:Int)] W (.bool (slB t[6]))):=fun W=>zaTz t[6] d5 hd5 W
       have C6:Hid (∀W,CS 53 #[.int .u8 (d6:Int)] W (.bool (slB t[7]))):=fun W=>zaTz t[7] d6 hd6 W
       have g5:=j5z t 6 (by omega)
       have g6:=j5z t 7 (by omega)
       have HI:Hid (zamz t=(slB t[6]&&slB t[7])):=by
        show _=_
        unfold zamz
        rw[g5,g6,Bool.eq_iff_iff,decide_eq_true_eq,Bool.and_eq_true]
        exact ⟨fun h=>h.2.2,fun h=>⟨h6,h5,h⟩⟩
       clear g5 g6 h5
       generalize slB t[6]=b5 at C5 HI
       generalize slB t[7]=b6 at C6 HI
       cases b5 with
       |false=>
        go_wp2_with fail
        refine (C5.out _).mono ?_
        rintro e w' ⟨rfl,rfl⟩
        go_wp2_with fail
        go_meet
        exact ⟨by rw[HI.out];rfl,rfl⟩
       |true=>
        go_wp2_with fail
        refine (C5.out _).mono ?_
        rintro e w' ⟨rfl,rfl⟩
        go_wp2_with fail
        refine (C6.out _).mono ?_
        rintro e w' ⟨rfl,rfl⟩
        go_wp2_with fail
        go_meet
        exact ⟨by rw[HI.out];rfl,rfl⟩
      have hc:((L.extract 0 6).toList==[104,116,116,112,115,58])=false:=zeCz (fun h=>h5 (HL6.out.symm.trans h))
      have HI:Hid (zamz t=false):=decide_eq_false fun h=>h5 h.2.1
      clear h5
      go_wp2_with fail
      go_meet
      exact ⟨by rw[HI.out],rfl⟩
     have h6i: ¬7<(t.size:Int):=by omega
     have HI:Hid (zamz t=false):=decide_eq_false fun h=>h6 h.1
     go_wp2_with fail
     go_meet
     exact ⟨by rw[HI.out],rfl⟩
    obtain ⟨rfl,hw⟩:=hcut
    obtain rfl:=hw.symm
    cases hh:zamz t with
    |true=>
     have HS:Hid (zwz s.data.toList=jUz 2 (t.extract 6 t.size).data.toList):=HR.out.trans (zjwz (zrDz HF.out hh))
     have h6:7<(t.size:Int):=by have:=(of_decide_eq_true hh).1;omega
     have hes:(t.extract 6 t.size).size≤2000:=by rw[ByteArray.size_extract];omega
     have HP4:Hid (PS w U 2 0 (w3.setCell ⟨U,0,none⟩ (.int .i64 2))):=HP3.out.sch 2
     have c0:=HP3.out.2.2.1.1 0 _ rfl
     have f0:=HP3.out.2.2.1.2.1 0
     clear hh
     go_wp2_with fail
     go_meet
     exact ⟨2,_,rfl,hes,.inr rfl,HS,HP4⟩
    |false=>
     have HRR:Hid (zwz s.data.toList=(2,y3z)):=HR.out.trans (ze6z (zrEz HF.out hh))
     have HPP:Hid (PS w U 0 0 w3):=HP3
     clear hh
     go_wp2_with (first|(refine xGz HPP.out.2.1 rfl rfl _ rfl rfl ?_)|(refine y5z HPP.out.1 rfl (us:=zHz) rfl (zQz ..) rfl _ _ rfl rfl rfl ?_;intro w9 HU9 HM9))
     refine bodyPost_ret (yez rfl _ _ w.heap.size (.int .i64 2) _ rfl rfl rfl HU9) rfl ⟨zcmz HRR.out,HM9.2 _ _ (Nat.le_refl _) HPP.out.2.2.2.2⟩
 obtain ⟨sch,T,rfl,hTs,hsch,HS,HP⟩:=hcut
 clear HL5 HL6 HLS HP3 HR
 go_upto_block 1 with fail
 go_cut [5] (fun v wx=> ∃T':ByteArray,v=.string T'∧T'.size≤2000∧Hid (T'.data.toList=T.data.toList.dropWhile slB)∧Hid (PS w U sch 0 wx))
 case first=>
  as_aux_lemma=>
   go_wp2_with fail
   go_loop[5] (fun v=> ∃T':ByteArray,v=.string T'∧T'.size≤2000∧T'.data.toList.dropWhile slB=T.data.toList.dropWhile slB) (fun v=>(match v with| .string x=>x.size|_=>0))
   case atStart=>exact ⟨T,rfl,hTs,rfl⟩
   obtain ⟨T',rfl,hT',he⟩:=hrel
   have HE:Hid (T'.data.toList.dropWhile slB=T.data.toList.dropWhile slB):=he
   clear he
   by_cases h0:T'.size=0
   ·have hem:=zsz h0
    have HD:Hid (T'.data.toList=T.data.toList.dropWhile slB):=by
     show _=_
     rw[←HE.out,List.eq_nil_of_length_eq_zero (show T'.data.toList.length=0 by simpa using h0)]
     rfl
    go_wp2_with fail
    go_meet
    exact ⟨T',rfl,hT',HD,HP⟩
   have hem:=zvz (show 0<T'.size by omega)
   have hdr:=xHz T' 0 (by omega)
   rw[List.drop_zero]at hdr
   obtain ⟨d,hd⟩: ∃d:Nat,T'[0].toNat=d:=⟨_,rfl⟩
   have CS:Hid (∀W,CS 53 #[.int .u8 (d:Int)] W (.bool (slB T'[0]))):=fun W=>zaTz T'[0] d hd W
   cases hb:slB T'[0]with
   |true=>
    have HN:Hid ((T'.extract 1 T'.size).data.toList.dropWhile slB=T.data.toList.dropWhile slB):=by
     show _=_
     rw[←HE.out,xmz,hdr,List.dropWhile_cons,hb,if_pos rfl,List.drop_succ_cons,List.drop_zero]
    rw[hb]at CS
    have hes:(T'.extract 1 T'.size).size≤2000:=by rw[ByteArray.size_extract];omega
    have hms:(T'.extract 1 T'.size).size<T'.size:=by rw[ByteArray.size_extract];omega
    clear hb hdr
    go_wp2_with fail
    refine (CS.out _).mono ?_
    rintro e w' ⟨rfl,rfl⟩
    go_wp2_with fail
    go_round
    case rel=>exact ⟨_,rfl,hes,HN.out⟩
    case measure=>exact hms
   |false=>
    have HD:Hid (T'.data.toList=T.data.toList.dropWhile slB):=by
     show _=_
     rw[←HE.out]
     conv=>rhs;rw[hdr,List.dropWhile_cons,hb,if_neg (by decide),←hdr]
    rw[hb]at CS
    clear hb hdr
    go_wp2_with fail
    refine (CS.out _).mono ?_
    rintro e w' ⟨rfl,rfl⟩
    go_wp2_with fail
    go_meet
    exact ⟨T',rfl,hT',HD,HP⟩
 obtain ⟨T',rfl,hT',HD,HP2⟩:=hcut
 clear HP
 have hsz:=jZz (p:=z3z) T'
 have CU:Hid (∀W,CB 54 #[.string T',.string ⟨#[47,92,63]⟩] W (.tuple #[.string ⟨(T'.data.toList.takeWhile z3z).toArray⟩,.string ⟨(T'.data.toList.dropWhile z3z).toArray⟩])):=fun W=>zh0z z3z ⟨#[47,92,63]⟩ T' W (by decide) zo8z (by omega)
 have HS2:Hid (zwz s.data.toList=zbSz sch (⟨(T'.data.toList.takeWhile z3z).toArray⟩:ByteArray).data.toList (⟨(T'.data.toList.dropWhile z3z).toArray⟩:ByteArray).data.toList):=by
  show _=_
  rw[HS.out]
  unfold jUz
  rw[←HD.out]
 obtain ⟨hz1,hz2⟩:=hsz
 generalize (⟨(T'.data.toList.takeWhile z3z).toArray⟩:ByteArray)=A at CU HS2 hz1
 generalize (⟨(T'.data.toList.dropWhile z3z).toArray⟩:ByteArray)=Rs at CU HS2 hz2
 have hA:A.size≤2000:=by omega
 have hRs:Rs.size≤2000:=by omega
 clear HS HD hz1 hz2
 have CM:Hid (∀W,Calls Tryz.prog 55 #[.string A,.int .i64 64] W fun e w'=>e=.returned (.bool (A.data.toList.contains 64))∧W=w'):=fun W=>by
  have h:=zb8z A 64 W (by omega)
  rw[zrFz]at h
  exact h
 go_wp2_with fail
 refine (CU.out _).mono ?_
 rintro e w5 ⟨rfl,b5⟩
 have HP5:Hid (PS w U sch 0 w5):=HP2.out.later b5
 clear b5 HP2 CU
 cases h64:A.data.toList.contains 64 with
 |true=>
  have HRR:Hid (zwz s.data.toList=(3,y3z)):=by show _=_;rw[HS2.out];unfold zbSz;rw[if_pos h64]
  rw[h64]at CM
  clear h64
  go_wp2_with fail
  refine (CM.out _).mono ?_
  rintro e w' ⟨rfl,rfl⟩
  have HPP:Hid (PS w U sch 0 w5):=HP5
  go_wp2_with (first|(refine xGz HPP.out.2.1 rfl rfl _ rfl rfl ?_)|(refine y5z HPP.out.1 rfl (us:=zHz) rfl (zQz ..) rfl _ _ rfl rfl rfl ?_;intro w9 HU9 HM9))
  refine bodyPost_ret (yez rfl _ _ w.heap.size (.int .i64 3) _ rfl rfl rfl HU9) rfl ⟨zcmz HRR.out,HM9.2 _ _ (Nat.le_refl _) HPP.out.2.2.2.2⟩
 |false=>
  have HS3:Hid (zwz s.data.toList=cutU sch A.data.toList Rs.data.toList):=by show _=_;rw[HS2.out];unfold zbSz;rw[if_neg (by rw[h64];decide)]
  rw[h64]at CM
  clear h64 HS2
  go_wp2_with fail
  refine (CM.out _).mono ?_
  rintro e w' ⟨rfl,rfl⟩
  have CD:Hid (∀W,Calls Tryz.prog 37 #[.int .i64 sch] W fun e w'=>e=.returned (.int .i64 (zSz sch))∧W=w'):=fun W=>zbtz sch W
  have CP:Hid (∀W,Calls Tryz.prog 56 #[.string A] W fun e w'=>e=.returned (.int .i64 (colZ A.data.toList))∧W=w'):=fun W=>zqOz A W (by omega)
  have c0:=HP5.out.2.2.1.1 0 _ rfl
  have c12:=HP5.out.2.2.1.1 12 _ rfl
  have f12:=HP5.out.2.2.1.2.1 12
  have HP6:Hid (PS w U sch (zSz sch) (w5.setCell ⟨U,12,none⟩ (.int .i64 (zSz sch)))):=HP5.out.port _
  go_wp2_with fail
  refine (CD.out _).mono ?_
  rintro e w' ⟨rfl,rfl⟩
  go_wp2_with fail
  generalize (w5.setCell ⟨U,12,none⟩ (.int .i64 (zSz sch)))=w6 at HP6⊢
  clear c0 c12 f12 HP5 CD CM
  refine (CP.out _).mono ?_
  rintro e w' ⟨rfl,rfl⟩
  clear CP
  have HZ:Hid (∃z,colZ A.data.toList=z):=⟨_,rfl⟩
  obtain ⟨z,hz⟩:=HZ.out
  rw[hz]
  have HZ2:Hid (colZ A.data.toList=z):=hz
  clear hz HZ
  go_upto_if 93 with fail
  go_cut [8] (fun v wx=> ∃(A':ByteArray) (pn:Int),v=.string A'∧A'.size≤2000∧pn≤1048576∧ -1≤pn∧Hid (zwz s.data.toList=tooU sch pn A'.data.toList Rs.data.toList)∧Hid (PS w U sch pn wx))
  case first=>
   as_aux_lemma=>
    cases hc:vDz A.data.toList with
    |none=>
     have hz:z= -1:=by rw[←HZ2.out];unfold colZ;rw[hc]
     subst hz
     have HT:Hid (zwz s.data.toList=tooU sch (zSz sch) A.data.toList Rs.data.toList):=HS3.out.trans (zrGz hsch hc)
     have hdp:=zg0z hsch
     clear hc
     go_wp2_with fail
     go_meet
     exact ⟨A,_,rfl,hA,by omega,by omega,HT,HP6⟩
    |some k=>
     have hz:z=(k:Int):=by rw[←HZ2.out];unfold colZ;rw[hc]
     subst hz
     have hk:k<A.size:=by have:=zt8z hc;simpa using this
     have HT:Hid (zwz s.data.toList=tooU sch (yJz sch (A.extract (k+1) A.size).data.toList) (A.extract 0 k).data.toList Rs.data.toList):=by
      show _=_
      rw[HS3.out,zrHz hc,xmz,xUz]
     have hki:(k:Int)<(A.size:Int):=by omega
     have hes:(A.extract 0 k).size≤2000:=by rw[ByteArray.size_extract];omega
     clear hc
     by_cases h0:A.size=k+1
     ·have hem:(A.extract (k+1) A.size).toList.isEmpty=true:=zsz (by rw[ByteArray.size_extract];omega)
      have hnil:(A.extract (k+1) A.size).data.toList=[]:=List.eq_nil_of_length_eq_zero (by simp;omega)
      rw[hnil,zo9z]at HT
      have hdp:=zg0z hsch
      clear hnil
      go_wp2_with fail
      go_meet
      exact ⟨_,_,rfl,hes,by omega,by omega,HT,HP6⟩
     have hem:(A.extract (k+1) A.size).toList.isEmpty=false:=zvz (by rw[ByteArray.size_extract];omega)
     have hne:(A.extract (k+1) A.size).data.toList≠[]:=fun e=>by have:=congrArg List.length e;simp at this;omega
     rw[zpaz sch hne]at HT
     have CN:Hid (∀W,Calls Tryz.prog 57 #[.string (A.extract (k+1) A.size),.int .i64 10,.int .i64 5] W fun e w'=>e=.returned (.int .i64 (yLz (z4z 10 5 (A.extract (k+1) A.size).data.toList)))∧W=w'):=fun W=>vhz _ 10 5 W (by decide) (by decide)
     have hnb:=zs3z (A.extract (k+1) A.size).data.toList
     clear hne
     generalize yLz (z4z 10 5 (A.extract (k+1) A.size).data.toList)=pn at CN HT hnb
     have c12:=HP6.out.2.2.1.1 12 _ rfl
     have f12:=HP6.out.2.2.1.2.1 12
     have HP7:Hid (PS w U sch pn (w6.setCell ⟨U,12,none⟩ (.int .i64 pn))):=HP6.out.port _
     go_wp2_with fail
     refine (CN.out _).mono ?_
     rintro e w' ⟨rfl,rfl⟩
     go_wp2_with fail
     go_meet
     exact ⟨_,_,rfl,hes,by omega,by omega,HT,HP7⟩
  obtain ⟨A',pn,rfl,hA',hp1,hp0,HT,HP7⟩:=hcut
  clear HP6 HS3 HZ2
  have c12:=HP7.out.2.2.1.1 12 _ rfl
  by_cases hpn:1≤pn∧pn≤65535
  ·have HT2:Hid (zwz s.data.toList=zadz sch pn A'.data.toList Rs.data.toList):=HT.out.trans (zs4z hpn)
   obtain ⟨hpa,hpb⟩:=hpn
   have CI:Hid (∀W,Calls Tryz.prog 39 #[.int .i64 pn,.int .i64 1,.int .i64 65535] W fun e w'=>e=.returned (.bool true)∧W=w'):=fun W=>zfz _ _ _ W hpa hpb
   have CH:Hid (∀W,CB 58 #[.string A'] W (.tuple #[y7z (rV (zmz A')),.int .i64 (rC (zmz A'))])):=fun W=>zcHz A' W (by omega)
   have HRO:=zi5z A'
   obtain ⟨k,n,nm,x0,x1,x2,x3,x4,x5,x6,x7,hhv⟩:=zmEz (rV (zmz A')) (xQz A')
   have HT3:Hid (zwz s.data.toList=if rC (zmz A')=0 then fitU (zaQz sch ⟨k,nm,n,[x0,x1,x2,x3,x4,x5,x6,x7]⟩ pn Rs.data.toList)else (4,y3z)):=by
    show _=_
    rw[HT2.out,←hhv]
    unfold zadz
    rw[zb4z]
   rw[hhv]at CH HRO
   have HRO2:Hid (1≤rC (zmz A')∨hOk ⟨k,nm,n,[x0,x1,x2,x3,x4,x5,x6,x7]⟩=true):=by
    rcases HRO with ⟨c,h1,h2,_⟩|⟨h1,_⟩
    ·exact .inl (by rw[h1];exact h2)
    exact .inr h1
   have CH2:Hid (∀W,CB 58 #[.string A'] W (.tuple #[.agg (ymz k nm n x0 x1 x2 x3 x4 x5 x6 x7).toArray,.int .i64 (rC (zmz A'))])):=CH
   clear hhv HRO CH HT2 HT
   go_wp2_with fail
   refine (CI.out _).mono ?_
   rintro e w' ⟨rfl,rfl⟩
   go_wp2_with fail
   refine (CH2.out _).mono ?_
   rintro e w8 ⟨rfl,b8⟩
   have HP8:Hid (PS w U sch pn w8):=HP7.out.later b8
   clear b8 HP7 c12 CI CH2
   have HPa:Hid (PS w U sch pn (w8.alloc (.cells #[.int .i64 0,.string ⟨#[]⟩,.int .i64 0,.int .i64 0,.int .i64 0,.int .i64 0,.int .i64 0,.int .i64 0,.int .i64 0,.int .i64 0,.int .i64 0] 26))):=HP8.out.later ((Below.refl _ _).alloc (Nat.le_refl _) _)
   have hU8:U<w8.heap.size:=HP8.out.2.2.1.2.2
   have hwU:w.heap.size+1<U:=HP8.out.2.2.2.1
   go_upto_if 117 with (refine jyz (UAt.new w8 _ _) 0 (Nat.le_refl 11) (us:=ymz k nm n x0 x1 x2 x3 x4 x5 x6 x7) rfl (vAz ..) rfl _ _ rfl rfl rfl ?_;intro w9 HUh HMh)
   have HP9:Hid (PS w U sch pn w9):=HPa.out.moved (by omega) (by omega) HMh
   have HUH:Hid (UAt w9 w8.heap.size (ymz k nm n x0 x1 x2 x3 x4 x5 x6 x7)):=HUh
   clear HUh HMh HPa HP8
   obtain ⟨rc,hrc⟩: ∃rc,rC (zmz A')=rc:=⟨_,rfl⟩
   rw[hrc]at HT3 HRO2⊢
   clear hrc
   by_cases hr0:rc=0
   ·have HT4:Hid (zwz s.data.toList=fitU ⟨sch,⟨k,nm,n,[x0,x1,x2,x3,x4,x5,x6,x7]⟩,pn,zb0z Rs,zd7z Rs,zbvz Rs⟩):=by
     show _=_
     rw[HT3.out,if_pos hr0,zs5z]
    have hnm:nm.size≤1048576:=by
     rcases HRO2.out with h1|h1
     ·omega
     exact Nat.le_trans (zg2z h1) (by decide)
    subst hr0
    clear HT3 HRO2
    have HTS:Hid ((zb0z Rs).size≤10000∧(zbvz Rs).size≤10000):=⟨zmGz Rs hRs,zmHz Rs hRs⟩
    have CT:Hid (∀W,CB 59 #[.agg (zqz sch k nm n x0 x1 x2 x3 x4 x5 x6 x7 pn ⟨#[]⟩ false ⟨#[]⟩).toArray,.string Rs] W (.agg (zqz sch k nm n x0 x1 x2 x3 x4 x5 x6 x7 pn (zb0z Rs) (zd7z Rs) (zbvz Rs)).toArray)):=fun W=>zryz sch k n pn nm ⟨#[]⟩ ⟨#[]⟩ false x0 x1 x2 x3 x4 x5 x6 x7 Rs W (by omega)
    generalize zb0z Rs=A3 at CT HT4 HTS
    generalize zd7z Rs=Q3 at CT HT4
    generalize zbvz Rs=R3 at CT HT4 HTS
    go_wp2_with (first|(refine zfyz HUH.out 0 (ymz k nm n x0 x1 x2 x3 x4 x5 x6 x7) (fun j v hv=>by rw[Nat.zero_add];exact hv) rfl rfl _ rfl rfl ?_)|(refine jyz HP9.out.2.2.1 1 (show 1+11≤16 by decide) (us:=ymz k nm n x0 x1 x2 x3 x4 x5 x6 x7) rfl (vAz ..) rfl _ _ rfl rfl rfl ?_;intro w10 HU10 HM10)|(refine xGz (show UAt w10 U (zqz sch k nm n x0 x1 x2 x3 x4 x5 x6 x7 pn ⟨#[]⟩ false ⟨#[]⟩) from HU10) rfl rfl _ rfl rfl ?_))
    have HP10:Hid (PF w U (zqz sch k nm n x0 x1 x2 x3 x4 x5 x6 x7 pn ⟨#[]⟩ false ⟨#[]⟩) w10):=PF.turned (row:=zqz sch 0 ⟨#[]⟩ 0 0 0 0 0 0 0 0 0 pn ⟨#[]⟩ false ⟨#[]⟩) HP9.out HU10 HM10
    clear HU10 HM10 HP9 HUH
    refine (CT.out _).mono ?_
    rintro e w11 ⟨rfl,b11⟩
    have HP11:Hid (PF w U (zqz sch k nm n x0 x1 x2 x3 x4 x5 x6 x7 pn ⟨#[]⟩ false ⟨#[]⟩) w11):=HP10.out.later b11
    clear b11 HP10 CT
    go_upto_region 33 with (refine y5z HP11.out.2.2.1 rfl (us:=zqz sch k nm n x0 x1 x2 x3 x4 x5 x6 x7 pn A3 Q3 R3) rfl (zQz ..) rfl _ _ rfl rfl rfl ?_;intro w12 HU12 HM12)
    have HP12:Hid (PF w U (zqz sch k nm n x0 x1 x2 x3 x4 x5 x6 x7 pn A3 Q3 R3) w12):=HP11.out.turned HU12 HM12
    clear HU12 HM12 HP11
    have CO:Hid (∀W,CB 60 #[.agg #[.int .i64 sch,.int .i64 k,.string nm,.int .i64 n,.int .i64 x0,.int .i64 x1,.int .i64 x2,.int .i64 x3,.int .i64 x4,.int .i64 x5,.int .i64 x6,.int .i64 x7,.int .i64 pn,.string A3,.bool Q3,.string R3]] W (.string ⟨(xdz sch (hTx ⟨k,nm,n,[x0,x1,x2,x3,x4,x5,x6,x7]⟩) pn).toArray⟩)):=fun W=>zmuz sch k n pn nm A3 R3 Q3 x0 x1 x2 x3 x4 x5 x6 x7 W hnm (by omega) (by omega)
    have CR:Hid (∀W,CB 61 #[.agg #[.int .i64 sch,.int .i64 k,.string nm,.int .i64 n,.int .i64 x0,.int .i64 x1,.int .i64 x2,.int .i64 x3,.int .i64 x4,.int .i64 x5,.int .i64 x6,.int .i64 x7,.int .i64 pn,.string A3,.bool Q3,.string R3]] W (.string ⟨(jbz A3 Q3 R3).toArray⟩)):=fun W=>zrdz sch k n pn nm A3 R3 Q3 x0 x1 x2 x3 x4 x5 x6 x7 W (by have:=HTS.out.1;omega) (by have:=HTS.out.2;omega)
    have HFY:Hid ((⟨(xdz sch (hTx ⟨k,nm,n,[x0,x1,x2,x3,x4,x5,x6,x7]⟩) pn).toArray⟩:ByteArray).size+(⟨(jbz A3 Q3 R3).toArray⟩:ByteArray).size≤2000→zwz s.data.toList=(0,⟨sch,⟨k,nm,n,[x0,x1,x2,x3,x4,x5,x6,x7]⟩,pn,A3,Q3,R3⟩)):=fun h=>HT4.out.trans (zs2z (by
     have h1:(⟨(xdz sch (hTx ⟨k,nm,n,[x0,x1,x2,x3,x4,x5,x6,x7]⟩) pn).toArray⟩:ByteArray).size=(xdz sch (hTx ⟨k,nm,n,[x0,x1,x2,x3,x4,x5,x6,x7]⟩) pn).length:=List.size_toArray
     have h2:(⟨(jbz A3 Q3 R3).toArray⟩:ByteArray).size=(jbz A3 Q3 R3).length:=List.size_toArray
     rw[h1,h2]at h
     exact h))
    have HFN:Hid (¬(⟨(xdz sch (hTx ⟨k,nm,n,[x0,x1,x2,x3,x4,x5,x6,x7]⟩) pn).toArray⟩:ByteArray).size+(⟨(jbz A3 Q3 R3).toArray⟩:ByteArray).size≤2000→zwz s.data.toList=(1,y3z)):=fun h=>HT4.out.trans (zt7z (by
     have h1:(⟨(xdz sch (hTx ⟨k,nm,n,[x0,x1,x2,x3,x4,x5,x6,x7]⟩) pn).toArray⟩:ByteArray).size=(xdz sch (hTx ⟨k,nm,n,[x0,x1,x2,x3,x4,x5,x6,x7]⟩) pn).length:=List.size_toArray
     have h2:(⟨(jbz A3 Q3 R3).toArray⟩:ByteArray).size=(jbz A3 Q3 R3).length:=List.size_toArray
     rw[h1,h2]at h
     exact h))
    have hos:(⟨(xdz sch (hTx ⟨k,nm,n,[x0,x1,x2,x3,x4,x5,x6,x7]⟩) pn).toArray⟩:ByteArray).size≤2097152:=by
     have h1:(⟨(xdz sch (hTx ⟨k,nm,n,[x0,x1,x2,x3,x4,x5,x6,x7]⟩) pn).toArray⟩:ByteArray).size=(xdz sch (hTx ⟨k,nm,n,[x0,x1,x2,x3,x4,x5,x6,x7]⟩) pn).length:=List.size_toArray
     rw[h1]
     exact zrIz sch pn hnm
    have hrs:(⟨(jbz A3 Q3 R3).toArray⟩:ByteArray).size≤2097152:=by
     have h1:(⟨(jbz A3 Q3 R3).toArray⟩:ByteArray).size=(jbz A3 Q3 R3).length:=List.size_toArray
     rw[h1]
     exact zirz Q3 HTS.out.1 HTS.out.2
    generalize (⟨(xdz sch (hTx ⟨k,nm,n,[x0,x1,x2,x3,x4,x5,x6,x7]⟩) pn).toArray⟩:ByteArray)=OO at CO HFY HFN hos
    generalize (⟨(jbz A3 Q3 R3).toArray⟩:ByteArray)=RR at CR HFY HFN hrs
    clear HT4 HTS hnm
    have hwr:IntKind.i64.wrap ((OO.size:Int)+(RR.size:Int))=(OO.size:Int)+(RR.size:Int):=ywz _ (by omega) (by omega)
    simp only[Act.put]
    go_cut [131] (fun v wx=>v=.bool (decide (2000<(OO.size:Int)+(RR.size:Int)))∧PF w U (zqz sch k nm n x0 x1 x2 x3 x4 x5 x6 x7 pn A3 Q3 R3) wx)
    case first=>
     as_aux_lemma=>
      have c0:=HP12.out.2.2.1.1 0 _ rfl
      have c1:=HP12.out.2.2.1.1 1 _ rfl
      have c2:=HP12.out.2.2.1.1 2 _ rfl
      have c3:=HP12.out.2.2.1.1 3 _ rfl
      have c4:=HP12.out.2.2.1.1 4 _ rfl
      have c5:=HP12.out.2.2.1.1 5 _ rfl
      have c6:=HP12.out.2.2.1.1 6 _ rfl
      have c7:=HP12.out.2.2.1.1 7 _ rfl
      have c8:=HP12.out.2.2.1.1 8 _ rfl
      have c9:=HP12.out.2.2.1.1 9 _ rfl
      have c10:=HP12.out.2.2.1.1 10 _ rfl
      have c11:=HP12.out.2.2.1.1 11 _ rfl
      have c12:=HP12.out.2.2.1.1 12 _ rfl
      have c13:=HP12.out.2.2.1.1 13 _ rfl
      have c14:=HP12.out.2.2.1.1 14 _ rfl
      have c15:=HP12.out.2.2.1.1 15 _ rfl
      have HPd:PF w U (zqz sch k nm n x0 x1 x2 x3 x4 x5 x6 x7 pn A3 Q3 R3) w12.drew:=⟨HP12.out.1,HP12.out.2.1,HP12.out.2.2.1,HP12.out.2.2.2.1,HP12.out.2.2.2.2.drew⟩
      go_region_with (first|(go_at_call 60;refine (CO.out _).mono ?_;rintro e wq ⟨rfl,hbq⟩;have HPq:PF w U (zqz sch k nm n x0 x1 x2 x3 x4 x5 x6 x7 pn A3 Q3 R3) wq:=PF.later (by assumption) hbq;have g0:=HPq.2.2.1.1 0 _ rfl;have g1:=HPq.2.2.1.1 1 _ rfl;have g2:=HPq.2.2.1.1 2 _ rfl;have g3:=HPq.2.2.1.1 3 _ rfl;have g4:=HPq.2.2.1.1 4 _ rfl;have g5:=HPq.2.2.1.1 5 _ rfl;have g6:=HPq.2.2.1.1 6 _ rfl;have g7:=HPq.2.2.1.1 7 _ rfl;have g8:=HPq.2.2.1.1 8 _ rfl;have g9:=HPq.2.2.1.1 9 _ rfl;have g10:=HPq.2.2.1.1 10 _ rfl;have g11:=HPq.2.2.1.1 11 _ rfl;have g12:=HPq.2.2.1.1 12 _ rfl;have g13:=HPq.2.2.1.1 13 _ rfl;have g14:=HPq.2.2.1.1 14 _ rfl;have g15:=HPq.2.2.1.1 15 _ rfl;clear hbq)|(go_at_call 61;refine (CR.out _).mono ?_;rintro e wq ⟨rfl,hbq⟩;have HPq:PF w U (zqz sch k nm n x0 x1 x2 x3 x4 x5 x6 x7 pn A3 Q3 R3) wq:=PF.later (by assumption) hbq;have g0:=HPq.2.2.1.1 0 _ rfl;have g1:=HPq.2.2.1.1 1 _ rfl;have g2:=HPq.2.2.1.1 2 _ rfl;have g3:=HPq.2.2.1.1 3 _ rfl;have g4:=HPq.2.2.1.1 4 _ rfl;have g5:=HPq.2.2.1.1 5 _ rfl;have g6:=HPq.2.2.1.1 6 _ rfl;have g7:=HPq.2.2.1.1 7 _ rfl;have g8:=HPq.2.2.1.1 8 _ rfl;have g9:=HPq.2.2.1.1 9 _ rfl;have g10:=HPq.2.2.1.1 10 _ rfl;have g11:=HPq.2.2.1.1 11 _ rfl;have g12:=HPq.2.2.1.1 12 _ rfl;have g13:=HPq.2.2.1.1 13 _ rfl;have g14:=HPq.2.2.1.1 14 _ rfl;have g15:=HPq.2.2.1.1 15 _ rfl;clear hbq))
      all_goals go_wp2_with fail
      all_goals go_meet
      all_goals exact ⟨by first|rfl|rw[hwr],by assumption⟩
    obtain ⟨rfl,hpf⟩:=hcut
    have HPP:Hid (PF w U (zqz sch k nm n x0 x1 x2 x3 x4 x5 x6 x7 pn A3 Q3 R3) wc):=hpf
    clear hpf HP12 CO CR
    by_cases hfit:OO.size+RR.size≤2000
    ·have HG:Hid (zwz s.data.toList=(0,⟨sch,⟨k,nm,n,[x0,x1,x2,x3,x4,x5,x6,x7]⟩,pn,A3,Q3,R3⟩)):=HFY.out hfit
     rw[decide_eq_false (show ¬2000<(OO.size:Int)+(RR.size:Int) by omega)]
     clear HFY HFN hfit
     go_wp2_with (first|(refine xGz HPP.out.2.2.1 rfl rfl _ rfl rfl ?_)|(refine y5z HPP.out.1 rfl (us:=zqz sch k nm n x0 x1 x2 x3 x4 x5 x6 x7 pn A3 Q3 R3) rfl (zQz ..) rfl _ _ rfl rfl rfl ?_;intro w9 HU9 HM9))
     refine bodyPost_ret (yez rfl _ _ w.heap.size (.int .i64 0) _ rfl rfl rfl HU9) rfl ⟨zrBz HG.out,HM9.2 _ _ (Nat.le_refl _) HPP.out.2.2.2.2⟩
    have HRR:Hid (zwz s.data.toList=(1,y3z)):=HFN.out hfit
    rw[decide_eq_true (show 2000<(OO.size:Int)+(RR.size:Int) by omega)]
    clear HFY HFN hfit
    go_wp2_with (first|(refine xGz HPP.out.2.1 rfl rfl _ rfl rfl ?_)|(refine y5z HPP.out.1 rfl (us:=zHz) rfl (zQz ..) rfl _ _ rfl rfl rfl ?_;intro w9 HU9 HM9))
    refine bodyPost_ret (yez rfl _ _ w.heap.size (.int .i64 1) _ rfl rfl rfl HU9) rfl ⟨zcmz HRR.out,HM9.2 _ _ (Nat.le_refl _) HPP.out.2.2.2.2⟩
   have HRR:Hid (zwz s.data.toList=(4,y3z)):=by
    show _=_
    rw[HT3.out,if_neg hr0]
   have hrb:(rc !=0)=true:=bne_iff_ne.2 hr0
   have HPP:Hid (PS w U sch pn w9):=HP9
   clear hr0
   go_wp2_with (first|(refine xGz HPP.out.2.1 rfl rfl _ rfl rfl ?_)|(refine y5z HPP.out.1 rfl (us:=zHz) rfl (zQz ..) rfl _ _ rfl rfl rfl ?_;intro w9 HU9 HM9))
   refine bodyPost_ret (yez rfl _ _ w.heap.size (.int .i64 4) _ rfl rfl rfl HU9) rfl ⟨zcmz HRR.out,HM9.2 _ _ (Nat.le_refl _) HPP.out.2.2.2.2⟩
  have HRR:Hid (zwz s.data.toList=(5,y3z)):=HT.out.trans (zt9z hpn)
  have CI:Hid (∀W,Calls Tryz.prog 39 #[.int .i64 pn,.int .i64 1,.int .i64 65535] W fun e w'=>e=.returned (.bool false)∧W=w'):=fun W=>zlz _ _ _ W (by omega)
  have HPP:Hid (PS w U sch pn wc):=HP7
  clear hpn
  go_wp2_with fail
  refine (CI.out _).mono ?_
  rintro e w' ⟨rfl,rfl⟩
  clear c12
  go_wp2_with (first|(refine xGz HPP.out.2.1 rfl rfl _ rfl rfl ?_)|(refine y5z HPP.out.1 rfl (us:=zHz) rfl (zQz ..) rfl _ _ rfl rfl rfl ?_;intro w9 HU9 HM9))
  refine bodyPost_ret (yez rfl _ _ w.heap.size (.int .i64 5) _ rfl rfl rfl HU9) rfl ⟨zcmz HRR.out,HM9.2 _ _ (Nat.le_refl _) HPP.out.2.2.2.2⟩
end Go.Proofs.YtgcbaphbiaimoaaGreatDoor
