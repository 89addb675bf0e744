/- CutOne, PrioRead. -/
import Derived.Lib.IndexBytes
import Derived.Test.YtfdgehlobbeomaaGreatDoorQM09
set_option maxHeartbeats 4000000
set_option maxRecDepth 100000
namespace Go.Proofs.YtfdgehlobbeomaaGreatDoor
open Go.RowKit
theorem liteCut(c:UInt8)(s:ByteArray)(w:World)(hs:s.size≤16777216):
  Calls Tryz.prog 46 #[.string s,.string ⟨#[c]⟩] w fun e w'=>e=.returned (.tuple #[.string ⟨(upB c s.data.toList).toArray⟩,.string ⟨(behB c s.data.toList).toArray⟩,.bool (s.data.toList.contains c)])∧Below w.heap.size w w':=by
 have hi:Lib.indexByte s.data.toList c=if s.data.toList.contains c then ((upB c s.data.toList).length:Int)else-1:=by rw[←Lib.index_one,index_while]
 have CI:Hid (∀W,CS 64 #[.string s,.string ⟨#[c]⟩] W (.int .i64 (Lib.indexByte s.data.toList c))):=fun W=>(Tryz.stringslite_Index_one s c W).mono fun e w' h=>⟨h.1,h.2.symm⟩
 obtain ⟨h1,h2,_⟩:=up_beh c s.data.toList
 have hsl:s.data.toList.length=s.size:=by simp
 cases hc:s.data.toList.contains c with
 |false=>
  obtain ⟨e1,e2⟩:=h2 hc
  rw[hi,hc]at CI
  rw[e1,e2,mk_data]
  clear hi h1 h2 e1 e2 hc hsl
  go_enter Tryz.func46,Tryz.ntmps46
  go_wp2_with fail
  refine (CI.out _).mono ?_
  rintro e w' ⟨rfl,rfl⟩
  go_wp2
  go_ret3
  exact ⟨rfl,Below.refl _ _⟩
 |true=>
  have e:=h1 hc
  rw[hi,hc]at CI
  obtain ⟨k,hk⟩: ∃k,(upB c s.data.toList).length=k:=⟨_,rfl⟩
  have hlt:k+1≤s.size:=by
   have:=congrArg List.length e
   rw[List.length_append,List.length_cons,hk]at this
   omega
  have H1:Hid (s.extract 0 k=⟨(upB c s.data.toList).toArray⟩):=by
   show _=_
   have:s.data.toList.take k=upB c s.data.toList:=by
    conv=>lhs;arg 2;rw[e]
    rw[←hk,List.take_left']
    rfl
   rw[←this,←take_data,mk_data]
  have H2:Hid (s.extract (k+1) s.size=⟨(behB c s.data.toList).toArray⟩):=by
   show _=_
   have:s.data.toList.drop (k+1)=behB c s.data.toList:=by
    conv=>lhs;arg 2;rw[e]
    have h3:k+1=(upB c s.data.toList++[c]).length:=by simp[hk]
    rw[h3,show upB c s.data.toList++c::behB c s.data.toList=(upB c s.data.toList++[c])++behB c s.data.toList by simp,List.drop_left']
    rfl
   rw[←this,←drop_data,mk_data]
  rw[if_pos rfl,hk]at CI
  clear hi h1 h2 e hk hc hsl
  go_enter Tryz.func46,Tryz.ntmps46
  go_wp2_with fail
  refine (CI.out _).mono ?_
  rintro e w' ⟨rfl,rfl⟩
  go_wp2
  go_region
  all_goals (try go_wp2)
  all_goals go_ret3
  all_goals exact ⟨by rw[←H1.out,←H2.out];rfl,(Below.refl _ _).drew⟩
theorem implCutFree(c:UInt8)(s:ByteArray)(w:World)(hs:s.size≤16777216):
  Calls Tryz.prog 27 #[.string s,.string ⟨#[c]⟩] w fun e w'=>e=.returned (.tuple #[.string ⟨(upB c s.data.toList).toArray⟩,.string ⟨(behB c s.data.toList).toArray⟩,.bool (s.data.toList.contains c)])∧Below w.heap.size w w':=by
 have CC:Hid (∀W,CB 46 #[.string s,.string ⟨#[c]⟩] W (.tuple #[.string ⟨(upB c s.data.toList).toArray⟩,.string ⟨(behB c s.data.toList).toArray⟩,.bool (s.data.toList.contains c)])):=fun W=>liteCut c s W hs
 generalize (⟨(upB c s.data.toList).toArray⟩:ByteArray)=A at CC⊢
 generalize (⟨(behB c s.data.toList).toArray⟩:ByteArray)=B at CC⊢
 generalize s.data.toList.contains c=t at CC⊢
 go_enter Tryz.func27,Tryz.ntmps27
 go_wp2_with fail
 refine (CC.out _).mono ?_
 rintro e w1 ⟨rfl,b1⟩
 go_wp2
 go_ret3
 exact ⟨rfl,b1⟩
end Go.Proofs.YtfdgehlobbeomaaGreatDoor
namespace Go.Proofs.YtfdgehlobbeomaaGreatDoor
open Go.RowKit
set_option linter.unusedVariables false
set_option linter.unusedSimpArgs false
theorem digF_lt: ∀{l:List UInt8} {n v:Nat},digF 10 n l=some v→v<(n+1)*10^l.length
 |[],n,v,h=>by
  rw[digF]at h
  injection h with h
  subst h
  simp
 |c::l,n,v,h=>by
  have h2:=digF_all h c List.mem_cons_self
  rw[digF,if_pos h2]at h
  have h3:=digF_lt h
  rw[List.length_cons,Nat.pow_succ,Nat.mul_comm (10^l.length) 10,←Nat.mul_assoc]
  refine Nat.lt_of_lt_of_le h3 (Nat.mul_le_mul_right _ ?_)
  omega
theorem num4_lt{l:List UInt8}{n:Nat}(h:numL 10 4 l=some n):n<10000:=by
 unfold numL at h
 split at h
 ·rename_i hl
  have h1:=digF_lt h
  have h2:10^l.length≤10^4:=Nat.pow_le_pow_right (by decide) hl
  rw[Nat.zero_add,Nat.one_mul]at h1
  omega
 cases h
theorem app_dataP(a b:ByteArray):(a++b).data.toList=a.data.toList++b.data.toList:=by simp
theorem implParsePriority(s:ByteArray)(w:World)(hs:s.size≤16777216):
  Calls Tryz.prog 11 #[.string s] w fun e w'=>e=.returned (numA (prioR s.data.toList))∧Below w.heap.size w w':=by
 have CC:=hidB (implCutFree 46 s w hs)
 obtain ⟨A,hA⟩: ∃A:ByteArray,(⟨(upB 46 s.data.toList).toArray⟩:ByteArray)=A:=⟨_,rfl⟩
 obtain ⟨P,hP⟩: ∃P:ByteArray,(⟨(behB 46 s.data.toList).toArray⟩:ByteArray)=P:=⟨_,rfl⟩
 have tA:A.toList=upB 46 s.data.toList:=by rw[←hA,ByteArray.toList_eq]
 have tP:P.toList=behB 46 s.data.toList:=by rw[←hP,ByteArray.toList_eq]
 rw[hA,hP]at CC
 have HNO:Hid (¬((upB 46 s.data.toList=[48]∨upB 46 s.data.toList=[49])∧ ¬(s.data.toList.contains 46=true∧behB 46 s.data.toList=[]))→prioR s.data.toList=none):=fun h=>by unfold prioR;rw[if_neg h]
 by_cases hu:upB 46 s.data.toList=[48]∨upB 46 s.data.toList=[49]
 ·by_cases hc:s.data.toList.contains 46=true∧behB 46 s.data.toList=[]
  ·have HN:Hid (prioR s.data.toList=none):=HNO.out (fun h=>h.2 hc)
   rw[hc.1]at CC
   have eP:P.toList.isEmpty=true:=by rw[tP,hc.2];rfl
   clear hc HNO tP hA hP
   rcases hu with hu|hu
   ·rw[hu]at tA
    clear hu
    go_enter Tryz.func11,Tryz.ntmps11
    go_wp2_with (go_at_call 27;refine CC.out.mono ?_;rintro e w1 ⟨rfl,b1⟩)
    go_ret2
    exact ⟨by rw[HN.out];rfl,b1⟩
   have n1: ¬A.toList=[48]:=by rw[tA,hu];decide
   rw[hu]at tA
   clear hu
   go_enter Tryz.func11,Tryz.ntmps11
   go_wp2_with (go_at_call 27;refine CC.out.mono ?_;rintro e w1 ⟨rfl,b1⟩)
   go_ret2
   exact ⟨by rw[HN.out];rfl,b1⟩
  have HCND:Hid ((upB 46 s.data.toList=[48]∨upB 46 s.data.toList=[49])∧ ¬(s.data.toList.contains 46=true∧behB 46 s.data.toList=[])):=⟨hu,hc⟩
  have hqp:(s.data.toList.contains 46&&P.toList.isEmpty)=false:=by
   cases hq:s.data.toList.contains 46 with
   |false=>rfl
   |true=>
    rw[Bool.true_and]
    cases hp:P.toList.isEmpty with
    |false=>rfl
    |true=>
     exfalso
     refine hc ⟨hq,?_⟩
     rw[tP]at hp
     exact List.isEmpty_iff.1 hp
  generalize hqq:s.data.toList.contains 46=q at CC hqp
  clear hc HNO tP hqq
  rcases hu with hu|hu
  ·have HU:Hid (upB 46 s.data.toList=[48]):=hu
   rw[hu]at tA
   clear hu
   cases q with
   |true=>
    rw[Bool.true_and]at hqp
    go_enter Tryz.func11,Tryz.ntmps11
    go_wp2_with fail
    refine CC.out.mono ?_
    rintro e w1 ⟨rfl,b1⟩
    have sA:A.size=1:=by rw[←hA];show (upB 46 s.data.toList).toArray.size=1;rw[HU.out];rfl
    have CD:=hidB (fun W=>implDigits (A++P) 10 4 W (by decide) (by decide))
    have hAP:(A++P).data.toList=upB 46 s.data.toList++behB 46 s.data.toList:=by rw[app_dataP,←hA,←hP]
    rw[hAP]at CD
    have sP:P.size≤16777216:=by
     rw[←hP]
     show (behB 46 s.data.toList).toArray.size≤_
     rw[List.size_toArray]
     have h1:(behB 46 s.data.toList).length≤s.data.toList.length:=by
      unfold behB
      rw[List.length_drop]
      have:=(List.dropWhile_sublist (fun x=>x !=(46:UInt8)) (l:=s.data.toList)).length_le
      omega
     have h2:s.data.toList.length=s.size:=by simp
     omega
    have hbl:(behB 46 s.data.toList).length=P.size:=by rw[←hP];show _=(behB 46 s.data.toList).toArray.size;rw[List.size_toArray]
    obtain ⟨nn,hnn⟩: ∃nn,numL 10 4 (upB 46 s.data.toList++behB 46 s.data.toList)=nn:=⟨_,rfl⟩
    have HB:nn.getD 0<10000:=by
     cases nn with
     |none=>decide
     |some n=>exact num4_lt hnn
    have HR:Hid (prioR s.data.toList=if nn.isSome=true∧nn.getD 0*10^(3-P.size)≤1000 then some (nn.getD 0*10^(3-P.size))else none):=by
     show _=_
     unfold prioR
     rw[if_pos HCND.out,hbl,hnn]
     cases nn with
     |none=>rfl
     |some n=>
      show (if _ then _ else _)=(if _ then _ else _)
      by_cases h:n*10^(3-P.size)≤1000
      ·rw[if_pos h,if_pos ⟨rfl,h⟩];rfl
      rw[if_neg h,if_neg (fun x=>h x.2)]
    have hnA:numA nn=.tuple #[.int .i64 (nn.getD 0:Nat),.bool nn.isSome]:=by cases nn<;>rfl
    rw[hnn,hnA]at CD
    generalize nn.getD 0=n0 at*
    generalize nn.isSome=ok at*
    clear hnn hAP hbl hA hP hnA
    go_upto_region 5 with (go_at_call 28;refine (CD.out _).mono ?_;rintro e w' ⟨rfl,rfl⟩)
    clear CC CD
    go_wp2_with fail
    go_loopw[7,41] (fun a i wr=> ∃k:Nat,k≤3-P.size∧a=.int .i64 ((n0*10^k:Nat):Int)∧i=.int .i64 k∧wr=w1) (fun _ i _=>3-P.size-(intOf i).toNat)
    case atStart=>exact ⟨0,Nat.zero_le _,by simp,rfl,rfl⟩
    obtain ⟨k,hk,rfl,rfl,rfl⟩:=hrel
    have hk3:k≤3:=by omega
    have hp10:10^k≤1000:=Nat.pow_le_pow_right (n:=10) (by decide) hk3
    have hmul:n0*10^k≤9999*1000:=Nat.mul_le_mul (by omega) hp10
    by_cases hlt:k<3-P.size
    ·have hki:(k:Int)<3-(P.size:Int):=by omega
     have HN1:Hid (n0*10^k*10=n0*10^(k+1)):=by show _=_;rw[Nat.pow_succ,Nat.mul_assoc]
     generalize n0*10^k=v0 at*
     go_wp2_with fail
     go_roundw
     case rel=>exact ⟨k+1,by omega,by rw[←HN1.out];go_num,by go_num,by trivial⟩
     case measure=>simp[intOf]<;>omega
    have hki: ¬(k:Int)<3-(P.size:Int):=by omega
    have hke:3-P.size=k:=by omega
    rw[hke]at HR
    clear hke hlt
    generalize n0*10^k=v0 at*
    cases ok with
    |false=>
     go_wp2_with fail
     go_ret2
     exact ⟨by rw[HR.out,if_neg (fun x=>Bool.noConfusion x.1)];rfl,b1⟩
    |true=>
     by_cases hbig:v0≤1000
     ·have hbi: ¬(1000:Int)<v0:=by omega
      go_wp2_with fail
      go_ret2
      exact ⟨by rw[HR.out,if_pos ⟨by trivial,hbig⟩];rfl,b1⟩
     have hbi:(1000:Int)<v0:=by omega
     go_wp2_with fail
     go_ret2
     exact ⟨by rw[HR.out,if_neg (fun x=>hbig x.2)];rfl,b1⟩
   |false=>
    clear hqp
    go_enter Tryz.func11,Tryz.ntmps11
    go_wp2_with fail
    refine CC.out.mono ?_
    rintro e w1 ⟨rfl,b1⟩
    have sA:A.size=1:=by rw[←hA];show (upB 46 s.data.toList).toArray.size=1;rw[HU.out];rfl
    have CD:=hidB (fun W=>implDigits (A++P) 10 4 W (by decide) (by decide))
    have hAP:(A++P).data.toList=upB 46 s.data.toList++behB 46 s.data.toList:=by rw[app_dataP,←hA,←hP]
    rw[hAP]at CD
    have sP:P.size≤16777216:=by
     rw[←hP]
     show (behB 46 s.data.toList).toArray.size≤_
     rw[List.size_toArray]
     have h1:(behB 46 s.data.toList).length≤s.data.toList.length:=by
      unfold behB
      rw[List.length_drop]
      have:=(List.dropWhile_sublist (fun x=>x !=(46:UInt8)) (l:=s.data.toList)).length_le
      omega
     have h2:s.data.toList.length=s.size:=by simp
     omega
    have hbl:(behB 46 s.data.toList).length=P.size:=by rw[←hP];show _=(behB 46 s.data.toList).toArray.size;rw[List.size_toArray]
    obtain ⟨nn,hnn⟩: ∃nn,numL 10 4 (upB 46 s.data.toList++behB 46 s.data.toList)=nn:=⟨_,rfl⟩
    have HB:nn.getD 0<10000:=by
     cases nn with
     |none=>decide
     |some n=>exact num4_lt hnn
    have HR:Hid (prioR s.data.toList=if nn.isSome=true∧nn.getD 0*10^(3-P.size)≤1000 then some (nn.getD 0*10^(3-P.size))else none):=by
     show _=_
     unfold prioR
     rw[if_pos HCND.out,hbl,hnn]
     cases nn with
     |none=>rfl
     |some n=>
      show (if _ then _ else _)=(if _ then _ else _)
      by_cases h:n*10^(3-P.size)≤1000
      ·rw[if_pos h,if_pos ⟨rfl,h⟩];rfl
      rw[if_neg h,if_neg (fun x=>h x.2)]
    have hnA:numA nn=.tuple #[.int .i64 (nn.getD 0:Nat),.bool nn.isSome]:=by cases nn<;>rfl
    rw[hnn,hnA]at CD
    generalize nn.getD 0=n0 at*
    generalize nn.isSome=ok at*
    clear hnn hAP hbl hA hP hnA
    go_upto_region 5 with (go_at_call 28;refine (CD.out _).mono ?_;rintro e w' ⟨rfl,rfl⟩)
    clear CC CD
    go_wp2_with fail
    go_loopw[7,41] (fun a i wr=> ∃k:Nat,k≤3-P.size∧a=.int .i64 ((n0*10^k:Nat):Int)∧i=.int .i64 k∧wr=w1) (fun _ i _=>3-P.size-(intOf i).toNat)
    case atStart=>exact ⟨0,Nat.zero_le _,by simp,rfl,rfl⟩
    obtain ⟨k,hk,rfl,rfl,rfl⟩:=hrel
    have hk3:k≤3:=by omega
    have hp10:10^k≤1000:=Nat.pow_le_pow_right (n:=10) (by decide) hk3
    have hmul:n0*10^k≤9999*1000:=Nat.mul_le_mul (by omega) hp10
    by_cases hlt:k<3-P.size
    ·have hki:(k:Int)<3-(P.size:Int):=by omega
     have HN1:Hid (n0*10^k*10=n0*10^(k+1)):=by show _=_;rw[Nat.pow_succ,Nat.mul_assoc]
     generalize n0*10^k=v0 at*
     go_wp2_with fail
     go_roundw
     case rel=>exact ⟨k+1,by omega,by rw[←HN1.out];go_num,by go_num,by trivial⟩
     case measure=>simp[intOf]<;>omega
    have hki: ¬(k:Int)<3-(P.size:Int):=by omega
    have hke:3-P.size=k:=by omega
    rw[hke]at HR
    clear hke hlt
    generalize n0*10^k=v0 at*
    cases ok with
    |false=>
     go_wp2_with fail
     go_ret2
     exact ⟨by rw[HR.out,if_neg (fun x=>Bool.noConfusion x.1)];rfl,b1⟩
    |true=>
     by_cases hbig:v0≤1000
     ·have hbi: ¬(1000:Int)<v0:=by omega
      go_wp2_with fail
      go_ret2
      exact ⟨by rw[HR.out,if_pos ⟨by trivial,hbig⟩];rfl,b1⟩
     have hbi:(1000:Int)<v0:=by omega
     go_wp2_with fail
     go_ret2
     exact ⟨by rw[HR.out,if_neg (fun x=>hbig x.2)];rfl,b1⟩
  have HU:Hid (upB 46 s.data.toList=[49]):=hu
  have n1: ¬A.toList=[48]:=by rw[tA,hu];decide
  rw[hu]at tA
  clear hu
  cases q with
  |true=>
   rw[Bool.true_and]at hqp
   go_enter Tryz.func11,Tryz.ntmps11
   go_wp2_with fail
   refine CC.out.mono ?_
   rintro e w1 ⟨rfl,b1⟩
   have sA:A.size=1:=by rw[←hA];show (upB 46 s.data.toList).toArray.size=1;rw[HU.out];rfl
   have CD:=hidB (fun W=>implDigits (A++P) 10 4 W (by decide) (by decide))
   have hAP:(A++P).data.toList=upB 46 s.data.toList++behB 46 s.data.toList:=by rw[app_dataP,←hA,←hP]
   rw[hAP]at CD
   have sP:P.size≤16777216:=by
    rw[←hP]
    show (behB 46 s.data.toList).toArray.size≤_
    rw[List.size_toArray]
    have h1:(behB 46 s.data.toList).length≤s.data.toList.length:=by
     unfold behB
     rw[List.length_drop]
     have:=(List.dropWhile_sublist (fun x=>x !=(46:UInt8)) (l:=s.data.toList)).length_le
     omega
    have h2:s.data.toList.length=s.size:=by simp
    omega
   have hbl:(behB 46 s.data.toList).length=P.size:=by rw[←hP];show _=(behB 46 s.data.toList).toArray.size;rw[List.size_toArray]
   obtain ⟨nn,hnn⟩: ∃nn,numL 10 4 (upB 46 s.data.toList++behB 46 s.data.toList)=nn:=⟨_,rfl⟩
   have HB:nn.getD 0<10000:=by
    cases nn with
    |none=>decide
    |some n=>exact num4_lt hnn
   have HR:Hid (prioR s.data.toList=if nn.isSome=true∧nn.getD 0*10^(3-P.size)≤1000 then some (nn.getD 0*10^(3-P.size))else none):=by
    show _=_
    unfold prioR
    rw[if_pos HCND.out,hbl,hnn]
    cases nn with
    |none=>rfl
    |some n=>
     show (if _ then _ else _)=(if _ then _ else _)
     by_cases h:n*10^(3-P.size)≤1000
     ·rw[if_pos h,if_pos ⟨rfl,h⟩];rfl
     rw[if_neg h,if_neg (fun x=>h x.2)]
   have hnA:numA nn=.tuple #[.int .i64 (nn.getD 0:Nat),.bool nn.isSome]:=by cases nn<;>rfl
   rw[hnn,hnA]at CD
   generalize nn.getD 0=n0 at*
   generalize nn.isSome=ok at*
   clear hnn hAP hbl hA hP hnA
   go_upto_region 5 with (go_at_call 28;refine (CD.out _).mono ?_;rintro e w' ⟨rfl,rfl⟩)
   clear CC CD
   go_wp2_with fail
   go_loopw[7,41] (fun a i wr=> ∃k:Nat,k≤3-P.size∧a=.int .i64 ((n0*10^k:Nat):Int)∧i=.int .i64 k∧wr=w1) (fun _ i _=>3-P.size-(intOf i).toNat)
   case atStart=>exact ⟨0,Nat.zero_le _,by simp,rfl,rfl⟩
   obtain ⟨k,hk,rfl,rfl,rfl⟩:=hrel
   have hk3:k≤3:=by omega
   have hp10:10^k≤1000:=Nat.pow_le_pow_right (n:=10) (by decide) hk3
   have hmul:n0*10^k≤9999*1000:=Nat.mul_le_mul (by omega) hp10
   by_cases hlt:k<3-P.size
   ·have hki:(k:Int)<3-(P.size:Int):=by omega
    have HN1:Hid (n0*10^k*10=n0*10^(k+1)):=by show _=_;rw[Nat.pow_succ,Nat.mul_assoc]
    generalize n0*10^k=v0 at*
    go_wp2_with fail
    go_roundw
    case rel=>exact ⟨k+1,by omega,by rw[←HN1.out];go_num,by go_num,by trivial⟩
    case measure=>simp[intOf]<;>omega
   have hki: ¬(k:Int)<3-(P.size:Int):=by omega
   have hke:3-P.size=k:=by omega
   rw[hke]at HR
   clear hke hlt
   generalize n0*10^k=v0 at*
   cases ok with
   |false=>
    go_wp2_with fail
    go_ret2
    exact ⟨by rw[HR.out,if_neg (fun x=>Bool.noConfusion x.1)];rfl,b1⟩
   |true=>
    by_cases hbig:v0≤1000
    ·have hbi: ¬(1000:Int)<v0:=by omega
     go_wp2_with fail
     go_ret2
     exact ⟨by rw[HR.out,if_pos ⟨by trivial,hbig⟩];rfl,b1⟩
    have hbi:(1000:Int)<v0:=by omega
    go_wp2_with fail
    go_ret2
    exact ⟨by rw[HR.out,if_neg (fun x=>hbig x.2)];rfl,b1⟩
  |false=>
   clear hqp
   go_enter Tryz.func11,Tryz.ntmps11
   go_wp2_with fail
   refine CC.out.mono ?_
   rintro e w1 ⟨rfl,b1⟩
   have sA:A.size=1:=by rw[←hA];show (upB 46 s.data.toList).toArray.size=1;rw[HU.out];rfl
   have CD:=hidB (fun W=>implDigits (A++P) 10 4 W (by decide) (by decide))
   have hAP:(A++P).data.toList=upB 46 s.data.toList++behB 46 s.data.toList:=by rw[app_dataP,←hA,←hP]
   rw[hAP]at CD
   have sP:P.size≤16777216:=by
    rw[←hP]
    show (behB 46 s.data.toList).toArray.size≤_
    rw[List.size_toArray]
    have h1:(behB 46 s.data.toList).length≤s.data.toList.length:=by
     unfold behB
     rw[List.length_drop]
     have:=(List.dropWhile_sublist (fun x=>x !=(46:UInt8)) (l:=s.data.toList)).length_le
     omega
    have h2:s.data.toList.length=s.size:=by simp
    omega
   have hbl:(behB 46 s.data.toList).length=P.size:=by rw[←hP];show _=(behB 46 s.data.toList).toArray.size;rw[List.size_toArray]
   obtain ⟨nn,hnn⟩: ∃nn,numL 10 4 (upB 46 s.data.toList++behB 46 s.data.toList)=nn:=⟨_,rfl⟩
   have HB:nn.getD 0<10000:=by
    cases nn with
    |none=>decide
    |some n=>exact num4_lt hnn
   have HR:Hid (prioR s.data.toList=if nn.isSome=true∧nn.getD 0*10^(3-P.size)≤1000 then some (nn.getD 0*10^(3-P.size))else none):=by
    show _=_
    unfold prioR
    rw[if_pos HCND.out,hbl,hnn]
    cases nn with
    |none=>rfl
    |some n=>
     show (if _ then _ else _)=(if _ then _ else _)
     by_cases h:n*10^(3-P.size)≤1000
     ·rw[if_pos h,if_pos ⟨rfl,h⟩];rfl
     rw[if_neg h,if_neg (fun x=>h x.2)]
   have hnA:numA nn=.tuple #[.int .i64 (nn.getD 0:Nat),.bool nn.isSome]:=by cases nn<;>rfl
   rw[hnn,hnA]at CD
   generalize nn.getD 0=n0 at*
   generalize nn.isSome=ok at*
   clear hnn hAP hbl hA hP hnA
   go_upto_region 5 with (go_at_call 28;refine (CD.out _).mono ?_;rintro e w' ⟨rfl,rfl⟩)
   clear CC CD
   go_wp2_with fail
   go_loopw[7,41] (fun a i wr=> ∃k:Nat,k≤3-P.size∧a=.int .i64 ((n0*10^k:Nat):Int)∧i=.int .i64 k∧wr=w1) (fun _ i _=>3-P.size-(intOf i).toNat)
   case atStart=>exact ⟨0,Nat.zero_le _,by simp,rfl,rfl⟩
   obtain ⟨k,hk,rfl,rfl,rfl⟩:=hrel
   have hk3:k≤3:=by omega
   have hp10:10^k≤1000:=Nat.pow_le_pow_right (n:=10) (by decide) hk3
   have hmul:n0*10^k≤9999*1000:=Nat.mul_le_mul (by omega) hp10
   by_cases hlt:k<3-P.size
   ·have hki:(k:Int)<3-(P.size:Int):=by omega
    have HN1:Hid (n0*10^k*10=n0*10^(k+1)):=by show _=_;rw[Nat.pow_succ,Nat.mul_assoc]
    generalize n0*10^k=v0 at*
    go_wp2_with fail
    go_roundw
    case rel=>exact ⟨k+1,by omega,by rw[←HN1.out];go_num,by go_num,by trivial⟩
    case measure=>simp[intOf]<;>omega
   have hki: ¬(k:Int)<3-(P.size:Int):=by omega
   have hke:3-P.size=k:=by omega
   rw[hke]at HR
   clear hke hlt
   generalize n0*10^k=v0 at*
   cases ok with
   |false=>
    go_wp2_with fail
    go_ret2
    exact ⟨by rw[HR.out,if_neg (fun x=>Bool.noConfusion x.1)];rfl,b1⟩
   |true=>
    by_cases hbig:v0≤1000
    ·have hbi: ¬(1000:Int)<v0:=by omega
     go_wp2_with fail
     go_ret2
     exact ⟨by rw[HR.out,if_pos ⟨by trivial,hbig⟩];rfl,b1⟩
    have hbi:(1000:Int)<v0:=by omega
    go_wp2_with fail
    go_ret2
    exact ⟨by rw[HR.out,if_neg (fun x=>hbig x.2)];rfl,b1⟩
 have HN:Hid (prioR s.data.toList=none):=HNO.out (fun h=>hu h.1)
 have n1: ¬A.toList=[48]:=by rw[tA];exact fun h=>hu (.inl h)
 have n2: ¬A.toList=[49]:=by rw[tA];exact fun h=>hu (.inr h)
 clear tA tP HNO hA hP hu
 go_enter Tryz.func11,Tryz.ntmps11
 go_wp2_with (go_at_call 27;refine CC.out.mono ?_;rintro e w1 ⟨rfl,b1⟩)
 go_ret2
 exact ⟨by rw[HN.out];rfl,b1⟩
end Go.Proofs.YtfdgehlobbeomaaGreatDoor
