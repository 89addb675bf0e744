/- LabWalk, AscImpl, AscSpec. -/
import Derived.Test.YtgcbaphbiaimoaaGreatDoorQP25
set_option maxHeartbeats 2000000
namespace Go.Proofs.YtgcbaphbiaimoaaGreatDoor
open Go.RowKit
theorem zaiz(s:ByteArray)(w:World)(hs:s.size≤maxLen):
  Calls Tryz.prog 190 #[.string s] w fun e w'=>e=.returned (.bool (yMz s.data.toList))∧w=w':=by
 unfold maxLen at hs
 have HV:Hid (∀b:Bool,yMz s.data.toList=b→(.returned (.bool b):Ending)=.returned (.bool (yMz s.data.toList))):=fun b h=>by rw[h]
 by_cases hr:1≤s.size∧s.size≤63
 ·have hr1:1≤(s.size:Int):=by omega
  have hr2:(s.size:Int)≤63:=by omega
  by_cases h0:(s[0]'(by omega)).toNat=45
  ·have HF:Hid (yMz s.data.toList=false):=zj8z s (by omega) h0
   go_enter Tryz.func190,Tryz.ntmps190
   go_wp2_with fail
   refine (xYz _ _ _ _ hr1 hr2).mono ?_
   rintro e w' ⟨rfl,rfl⟩
   go_wp2_with fail
   go_ret
   exact ⟨HV.out _ HF.out,rfl⟩
  by_cases h1:(s[s.size-1]'(by omega)).toNat=45
  ·have HF:Hid (yMz s.data.toList=false):=zj9z s (by omega) h1
   go_enter Tryz.func190,Tryz.ntmps190
   go_wp2_with fail
   refine (xYz _ _ _ _ hr1 hr2).mono ?_
   rintro e w' ⟨rfl,rfl⟩
   go_wp2_with fail
   go_ret
   exact ⟨HV.out _ HF.out,rfl⟩
  have q0:(((s[0]'(by omega)).toNat:Int)==45)=false:=beq_eq_false_iff_ne.2 (by omega)
  have q1:(((s[s.size-1]'(by omega)).toNat:Int)==45)=false:=beq_eq_false_iff_ne.2 (by omega)
  have HY:Hid ((∀c∈s.data.toList.take s.size,xXz c=true)→yMz s.data.toList=true):=znaz s hr h0 h1
  clear h0 h1
  go_enter Tryz.func190,Tryz.ntmps190
  go_wp2_with fail
  refine (xYz _ _ _ _ hr1 hr2).mono ?_
  rintro e w' ⟨rfl,rfl⟩
  go_wp2_with fail
  go_loop[4] (fun i=> ∃k:Nat,k≤s.size∧i=.int .i64 k∧ ∀c∈s.data.toList.take k,xXz c=true) (fun i=>s.size-(intOf i).toNat)
  case atStart=>exact ⟨0,Nat.zero_le _,rfl,fun c h=>by simp at h⟩
  obtain ⟨k,hk,rfl,hall⟩:=hrel
  have HA:Hid (∀c∈s.data.toList.take k,xXz c=true):=hall
  clear hall
  by_cases hlt:k<s.size
  ·obtain ⟨d,hd⟩: ∃d:Nat,s[k].toNat=d:=⟨_,rfl⟩
   have hd1:(d:Int)≤255:=by have:=s[k].toNat_lt;omega
   have HS:Hid ((97≤d∧d≤122)∨(48≤d∧d≤57)∨d=45→ ∀c∈s.data.toList.take (k+1),xXz c=true):=fun hc=>zkbz s k hlt d hd hc HA.out
   have HN:Hid (¬((97≤d∧d≤122)∨(48≤d∧d≤57)∨d=45)→yMz s.data.toList=false):=fun hc=>zkaz s k hlt (by rw[hd];exact hc)
   by_cases ha:97≤d∧d≤122
   ·go_wp2_with fail
    refine (xYz _ _ _ _ (by omega) (by omega)).mono ?_
    rintro e w' ⟨rfl,rfl⟩
    go_wp2_with fail
    go_round
    case rel=>exact ⟨k+1,by omega,by go_num,HS.out (by omega)⟩
    case measure=>simp[intOf];omega
   by_cases hn:48≤d∧d≤57
   ·go_wp2_with fail
    refine (xMz _ _ _ _ (by omega)).mono ?_
    rintro e w' ⟨rfl,rfl⟩
    go_wp2_with fail
    refine (xYz _ _ _ _ (by omega) (by omega)).mono ?_
    rintro e w' ⟨rfl,rfl⟩
    go_wp2_with fail
    go_round
    case rel=>exact ⟨k+1,by omega,by go_num,HS.out (by omega)⟩
    case measure=>simp[intOf];omega
   by_cases hm:d=45
   ·subst hm
    clear hn ha
    go_wp2_with fail
    refine (xMz _ _ _ _ (by omega)).mono ?_
    rintro e w' ⟨rfl,rfl⟩
    go_wp2_with fail
    refine (xMz _ _ _ _ (by omega)).mono ?_
    rintro e w' ⟨rfl,rfl⟩
    go_wp2_with fail
    go_round
    case rel=>exact ⟨k+1,by omega,by go_num,HS.out (.inr (.inr trivial))⟩
    case measure=>simp[intOf];omega
   have hm': ¬(d:Int)=45:=by omega
   go_wp2_with fail
   refine (xMz _ _ _ _ (by omega)).mono ?_
   rintro e w' ⟨rfl,rfl⟩
   go_wp2_with fail
   refine (xMz _ _ _ _ (by omega)).mono ?_
   rintro e w' ⟨rfl,rfl⟩
   go_wp2_with fail
   go_ret
   exact ⟨HV.out _ (HN.out (by omega)),rfl⟩
  have hks:k=s.size:=by omega
  subst hks
  go_wp2_with fail
  go_ret
  exact ⟨HV.out _ (HY.out HA.out),rfl⟩
 have HF:Hid (yMz s.data.toList=false):=zj7z s hr
 have hr1:(s.size:Int)<1∨63<(s.size:Int):=by omega
 go_enter Tryz.func190,Tryz.ntmps190
 go_wp2_with fail
 refine (xMz _ _ _ _ hr1).mono ?_
 rintro e w' ⟨rfl,rfl⟩
 go_wp2_with fail
 go_ret
 exact ⟨HV.out _ HF.out,rfl⟩
theorem zgFz(d:Nat)(w:World)(hd:(d:Int)≤255):
  Calls Tryz.prog 218 #[.int .u8 d] w fun e w'=>e=.returned (.bool (decide (48≤(d:Int))&&decide ((d:Int)≤57)))∧w=w':=by
 by_cases h1:48≤(d:Int)
 ·go_enter Tryz.func218,Tryz.ntmps218
  go_wp2
  go_ret
  exact ⟨zgz (by simp;omega),rfl⟩
 go_enter Tryz.func218,Tryz.ntmps218
 go_wp2
 go_ret
 exact ⟨zgz (by simp;omega),rfl⟩
def labD(d:Nat):Bool:=decide ((97≤d∧d≤122)∨(48≤d∧d≤57)∨d=45)
theorem zfcz(d:Nat)(w:World)(hd:(d:Int)≤255):
  Calls Tryz.prog 293 #[.int .u8 d] w fun e w'=>e=.returned (.bool (labD d))∧w=w':=by
 have HV:Hid (∀b:Bool,labD d=b→(.returned (.bool b):Ending)=.returned (.bool (labD d))):=fun b h=>by rw[h]
 by_cases hm:(d:Int)=45
 ·go_enter Tryz.func293,Tryz.ntmps293
  go_wp2_with fail
  go_ret
  exact ⟨HV.out _ (decide_eq_true (by omega)),rfl⟩
 by_cases hn:48≤d∧d≤57
 ·have HC:Hid (CS 218 #[.int .u8 d] w (.bool true)):=by
   have:=zgFz d w hd
   rw[decide_eq_true (show 48≤(d:Int) by omega),decide_eq_true (show (d:Int)≤57 by omega)]at this
   exact this
  go_enter Tryz.func293,Tryz.ntmps293
  go_wp2_with fail
  refine HC.out.mono ?_
  rintro e w' ⟨rfl,rfl⟩
  go_wp2_with fail
  go_ret
  exact ⟨HV.out _ (decide_eq_true (by omega)),rfl⟩
 have HC:Hid (CS 218 #[.int .u8 d] w (.bool false)):=by
  have:=zgFz d w hd
  have e:(decide (48≤(d:Int))&&decide ((d:Int)≤57))=false:=by simp;omega
  rw[e]at this
  exact this
 by_cases h1:97≤(d:Int)
 ·by_cases h2:(d:Int)≤122
  ·go_enter Tryz.func293,Tryz.ntmps293
   go_wp2_with fail
   refine HC.out.mono ?_
   rintro e w' ⟨rfl,rfl⟩
   go_wp2_with fail
   go_ret
   exact ⟨HV.out _ (decide_eq_true (by omega)),rfl⟩
  go_enter Tryz.func293,Tryz.ntmps293
  go_wp2_with fail
  refine HC.out.mono ?_
  rintro e w' ⟨rfl,rfl⟩
  go_wp2_with fail
  go_ret
  exact ⟨HV.out _ (by unfold labD;rw[Bool.eq_iff_iff];simp;omega),rfl⟩
 go_enter Tryz.func293,Tryz.ntmps293
 go_wp2_with fail
 refine HC.out.mono ?_
 rintro e w' ⟨rfl,rfl⟩
 go_wp2_with fail
 go_ret
 exact ⟨HV.out _ (by unfold labD;rw[Bool.eq_iff_iff];simp;omega),rfl⟩
theorem zjnz{u:ByteArray}(h:0<u.size):u.toList.isEmpty=false:=by
 cases he:u.toList.isEmpty with
 |false=>rfl
 |true=>
  rw[ByteArray.toList_eq,List.isEmpty_iff_length_eq_zero]at he
  have:u.size=0:=by simpa using he
  omega
theorem zajz(s:ByteArray)(w:World)(hs:s.size≤maxLen):
  Calls Tryz.prog 289 #[.string s] w fun e w'=>e=.returned (.bool (yMz s.data.toList))∧w=w':=by
 unfold maxLen at hs
 have HV:Hid (∀b:Bool,yMz s.data.toList=b→(.returned (.bool b):Ending)=.returned (.bool (yMz s.data.toList))):=fun b h=>by rw[h]
 by_cases hz:s=⟨#[]⟩
 ·have HF:Hid (yMz s.data.toList=false):=by subst hz;show _=_;rfl
  subst hz
  go_enter Tryz.func289,Tryz.ntmps289
  go_wp2_with fail
  go_ret
  exact ⟨HV.out _ HF.out,rfl⟩
 have hr1:0<s.size:=by
  apply Nat.pos_of_ne_zero
  intro h
  exact hz (ByteArray.ext (Array.eq_empty_of_size_eq_zero h))
 have hem:=zjnz hr1
 by_cases hr2:(s.size:Int)≤63
 ·have hr3: ¬63<(s.size:Int):=by omega
  by_cases h0:(s[0]'(by omega)).toNat=45
  ·have HF:Hid (yMz s.data.toList=false):=zj8z s (by omega) h0
   go_enter Tryz.func289,Tryz.ntmps289
   go_wp2_with fail
   go_ret
   exact ⟨HV.out _ HF.out,rfl⟩
  by_cases h1:(s[s.size-1]'(by omega)).toNat=45
  ·have HF:Hid (yMz s.data.toList=false):=zj9z s (by omega) h1
   go_enter Tryz.func289,Tryz.ntmps289
   go_wp2_with fail
   go_ret
   exact ⟨HV.out _ HF.out,rfl⟩
  have q0:(((s[0]'(by omega)).toNat:Int)==45)=false:=beq_eq_false_iff_ne.2 (by omega)
  have q1:(((s[s.size-1]'(by omega)).toNat:Int)==45)=false:=beq_eq_false_iff_ne.2 (by omega)
  have HY:Hid ((∀c∈s.data.toList.take s.size,xXz c=true)→yMz s.data.toList=true):=znaz s (by omega) h0 h1
  clear h0 h1
  go_enter Tryz.func289,Tryz.ntmps289
  go_wp2_with fail
  go_loop[26] (fun i=> ∃k:Nat,k≤s.size∧i=.int .i64 k∧ ∀c∈s.data.toList.take k,xXz c=true) (fun i=>s.size-(intOf i).toNat)
  case atStart=>exact ⟨0,Nat.zero_le _,rfl,fun c h=>by simp at h⟩
  obtain ⟨k,hk,rfl,hall⟩:=hrel
  have HA:Hid (∀c∈s.data.toList.take k,xXz c=true):=hall
  clear hall
  by_cases hlt:k<s.size
  ·obtain ⟨d,hd⟩: ∃d:Nat,s[k].toNat=d:=⟨_,rfl⟩
   have hd1:(d:Int)≤255:=by have:=s[k].toNat_lt;omega
   have HS:Hid ((97≤d∧d≤122)∨(48≤d∧d≤57)∨d=45→ ∀c∈s.data.toList.take (k+1),xXz c=true):=fun hc=>zkbz s k hlt d hd hc HA.out
   have HN:Hid (¬((97≤d∧d≤122)∨(48≤d∧d≤57)∨d=45)→yMz s.data.toList=false):=fun hc=>zkaz s k hlt (by rw[hd];exact hc)
   have HC:Hid (∀W,CS 293 #[.int .u8 d] W (.bool (labD d))):=fun W=>zfcz d W hd1
   cases hb:labD d with
   |true=>
    have HB:Hid ((97≤d∧d≤122)∨(48≤d∧d≤57)∨d=45):=by
     have:=of_decide_eq_true (p:=(97≤d∧d≤122)∨(48≤d∧d≤57)∨d=45) hb
     exact this
    rw[hb]at HC
    clear hb
    go_wp2_with fail
    refine (HC.out _).mono ?_
    rintro e w' ⟨rfl,rfl⟩
    go_wp2_with fail
    go_round
    case rel=>exact ⟨k+1,by omega,by go_num,HS.out HB.out⟩
    case measure=>simp[intOf];omega
   |false=>
    have HB:Hid (¬((97≤d∧d≤122)∨(48≤d∧d≤57)∨d=45)):=by
     have:=of_decide_eq_false (p:=(97≤d∧d≤122)∨(48≤d∧d≤57)∨d=45) hb
     exact this
    rw[hb]at HC
    clear hb
    go_wp2_with fail
    refine (HC.out _).mono ?_
    rintro e w' ⟨rfl,rfl⟩
    go_wp2_with fail
    go_ret
    exact ⟨HV.out _ (HN.out HB.out),rfl⟩
  have hks:k=s.size:=by omega
  subst hks
  go_wp2_with fail
  go_ret
  exact ⟨HV.out _ (HY.out HA.out),rfl⟩
 have HF:Hid (yMz s.data.toList=false):=zj7z s (by omega)
 go_enter Tryz.func289,Tryz.ntmps289
 go_wp2_with fail
 go_ret
 exact ⟨HV.out _ HF.out,rfl⟩
theorem zd3z(t:List UInt8):okA t=(yMz t&&(!(isXn t)||(xPz t).isSome)):=by
 unfold okA xPz
 cases isXn t<;>simp
theorem zakz{o:Option (List UInt8)}{t:List UInt8}(h:o=if okA t=true then some t else none)(h1:okA t=true):yuz o=.tuple #[.string ⟨t.toArray⟩,.bool true]:=by
 rw[h,if_pos h1];rfl
theorem zbWz{o:Option (List UInt8)}{t:List UInt8}(h:o=if okA t=true then some t else none)(h1:okA t=false):yuz o=.tuple #[.string ⟨#[]⟩,.bool false]:=by
 rw[h,if_neg (by rw[h1];decide)];rfl
theorem zlaz(s:ByteArray)(w:World)(hs:s.size≤1048576)(hT:Lib.Utf8Tabs 12 13 w):
  Calls Tryz.prog 282 #[.string s] w fun e w'=>e=.returned (yuz (y8z s.data.toList))∧Below w.heap.size w w':=by
 have CLo:Hid (CB 172 #[.string s] w (.string ⟨(zdz s.data.toList).toArray⟩)):=zhkz s w hs
 have hls:=zbIz s
 have HLS:Hid ((⟨(zdz s.data.toList).toArray⟩:ByteArray).size≤1048576):=by show _≤_;omega
 have HTT:Hid (Lib.Utf8Tabs 12 13 w):=hT
 have HM:Hid (ByteArray.size ⟨(zdz s.data.toList).toArray⟩≤maxLen):=by show _≤_;unfold maxLen;omega
 have CA:Hid (∀W,CS 287 #[.string ⟨(zdz s.data.toList).toArray⟩] W (.bool (xjz s.data.toList))):=fun W=>by
  have h:=zoaz ⟨(zdz s.data.toList).toArray⟩ W HM.out
  rw[show xjz (⟨(zdz s.data.toList).toArray⟩:ByteArray).data.toList=xjz (zdz s.data.toList) from rfl,zkcz]at h
  exact h
 clear hT hls
 cases ha:xjz s.data.toList with
 |true=>
  rw[ha]at CA
  have HAS:Hid (y8z s.data.toList=if okA (zdz s.data.toList)=true then some (zdz s.data.toList)else none):=zf6z ha
  clear ha
  generalize zdz s.data.toList=t at CLo CA HAS HM HLS
  go_enter Tryz.func282,Tryz.ntmps282
  go_wp2_with fail
  refine CLo.out.mono ?_
  rintro e wa ⟨rfl,ba⟩
  go_wp2_with fail
  refine (CA.out _).mono ?_
  rintro e w' ⟨rfl,rfl⟩
  have HK:=zd3z t
  have hzz:(⟨t.toArray⟩:ByteArray).size≤maxLen:=HM.out
  cases hl:yMz t with
  |false=>
   have HF:Hid (yuz (y8z s.data.toList)=.tuple #[.string ⟨#[]⟩,.bool false]):=zbWz HAS.out (by rw[HK,hl];rfl)
   have CL:Hid (∀W,CS 289 #[.string ⟨t.toArray⟩] W (.bool false)):=fun W=>by
    have h:=zajz ⟨t.toArray⟩ W hzz
    rw[show yMz (⟨t.toArray⟩:ByteArray).data.toList=yMz t from rfl,hl]at h
    exact h
   clear HK hl hzz
   go_wp2_with fail
   refine (CL.out _).mono ?_
   rintro e w' ⟨rfl,rfl⟩
   go_wp2_with fail
   go_ret2
   exact ⟨by rw[HF.out];rfl,ba⟩
  |true=>
   have CL:Hid (∀W,CS 289 #[.string ⟨t.toArray⟩] W (.bool true)):=fun W=>by
    have h:=zajz ⟨t.toArray⟩ W hzz
    rw[show yMz (⟨t.toArray⟩:ByteArray).data.toList=yMz t from rfl,hl]at h
    exact h
   have CC:=fun W=>zgEz ⟨t.toArray⟩ W
   have CK:Hid (∀W,CB 290 #[.string ⟨t.toArray⟩] W (.bool (okA t))):=fun W=>by
    rw[HK,hl]
    exact CC W
   clear HK hl hzz CC
   cases ho:okA t with
   |false=>
    have HF:Hid (yuz (y8z s.data.toList)=.tuple #[.string ⟨#[]⟩,.bool false]):=zbWz HAS.out ho
    rw[ho]at CK
    clear ho
    go_wp2_with fail
    refine (CL.out _).mono ?_
    rintro e w' ⟨rfl,rfl⟩
    go_wp2_with fail
    refine (CK.out _).mono ?_
    rintro e wz ⟨rfl,bz⟩
    have B:=ba.trans (bz.mono ba.size)
    clear bz
    go_wp2_with fail
    go_ret2
    exact ⟨by rw[HF.out];rfl,B⟩
   |true=>
    have HF:Hid (yuz (y8z s.data.toList)=.tuple #[.string ⟨t.toArray⟩,.bool true]):=zakz HAS.out ho
    rw[ho]at CK
    clear ho
    go_wp2_with fail
    refine (CL.out _).mono ?_
    rintro e w' ⟨rfl,rfl⟩
    go_wp2_with fail
    refine (CK.out _).mono ?_
    rintro e wz ⟨rfl,bz⟩
    have B:=ba.trans (bz.mono ba.size)
    clear bz
    go_wp2_with fail
    go_ret2
    exact ⟨by rw[HF.out];rfl,B⟩
 |false=>
  rw[ha]at CA
  by_cases hy:(z2z ⟨(zdz s.data.toList).toArray⟩).1=s.data.toList.length∧(z2z ⟨(zdz s.data.toList).toArray⟩).2.length≤60
  ·have hz:(⟨(zdz s.data.toList).toArray⟩:ByteArray).size=s.data.toList.length:=by rw[zbIz];simp
   have hy1:(z2z ⟨(zdz s.data.toList).toArray⟩).1=(⟨(zdz s.data.toList).toArray⟩:ByteArray).size:=hy.1.trans hz.symm
   have CC:Hid (∀W,Lib.Utf8Tabs 12 13 W→CB 288 #[.string ⟨(zdz s.data.toList).toArray⟩] W (.tuple #[.string ⟨(xn++b8 (zBz ((z2z ⟨(zdz s.data.toList).toArray⟩).2.map Int.toNat))).toArray⟩,.bool true])):=
    fun W hT=>zd2z _ W HLS.out hT hy1 hy.2
   have HAS:=zkdz ha hy
   have HN:(xn++b8 (zBz ((z2z ⟨(zdz s.data.toList).toArray⟩).2.map Int.toNat))).length≤604:=by
    rw[List.length_append,zccz]
    have:=zduz (zaWz (zciz _ hy1) hy.2)
    simp[xn]
    omega
   generalize xn++b8 (zBz ((z2z ⟨(zdz s.data.toList).toArray⟩).2.map Int.toNat))=t at CC HAS HN
   have HAS:Hid (y8z s.data.toList=if okA t=true then some t else none):=HAS
   have HM2:Hid (ByteArray.size ⟨t.toArray⟩≤maxLen):=by
    show t.toArray.size≤maxLen
    rw[List.size_toArray]
    unfold maxLen
    omega
   clear ha hy hy1 hz HN
   go_enter Tryz.func282,Tryz.ntmps282
   go_wp2_with fail
   refine CLo.out.mono ?_
   rintro e wa ⟨rfl,ba⟩
   go_wp2_with fail
   refine (CA.out _).mono ?_
   rintro e w' ⟨rfl,rfl⟩
   go_wp2_with fail
   refine (CC.out _ (zYz HTT.out ba)).mono ?_
   rintro e wb ⟨rfl,bb⟩
   have b2:=ba.trans (bb.mono ba.size)
   clear ba bb
   have HK:=zd3z t
   have hzz:(⟨t.toArray⟩:ByteArray).size≤maxLen:=HM2.out
   cases hl:yMz t with
   |false=>
    have HF:Hid (yuz (y8z s.data.toList)=.tuple #[.string ⟨#[]⟩,.bool false]):=zbWz HAS.out (by rw[HK,hl];rfl)
    have CL:Hid (∀W,CS 289 #[.string ⟨t.toArray⟩] W (.bool false)):=fun W=>by
     have h:=zajz ⟨t.toArray⟩ W hzz
     rw[show yMz (⟨t.toArray⟩:ByteArray).data.toList=yMz t from rfl,hl]at h
     exact h
    clear HK hl hzz
    go_wp2_with fail
    refine (CL.out _).mono ?_
    rintro e w' ⟨rfl,rfl⟩
    go_wp2_with fail
    go_ret2
    exact ⟨by rw[HF.out];rfl,b2⟩
   |true=>
    have CL:Hid (∀W,CS 289 #[.string ⟨t.toArray⟩] W (.bool true)):=fun W=>by
     have h:=zajz ⟨t.toArray⟩ W hzz
     rw[show yMz (⟨t.toArray⟩:ByteArray).data.toList=yMz t from rfl,hl]at h
     exact h
    have CC:=fun W=>zgEz ⟨t.toArray⟩ W
    have CK:Hid (∀W,CB 290 #[.string ⟨t.toArray⟩] W (.bool (okA t))):=fun W=>by
     rw[HK,hl]
     exact CC W
    clear HK hl hzz CC
    cases ho:okA t with
    |false=>
     have HF:Hid (yuz (y8z s.data.toList)=.tuple #[.string ⟨#[]⟩,.bool false]):=zbWz HAS.out ho
     rw[ho]at CK
     clear ho
     go_wp2_with fail
     refine (CL.out _).mono ?_
     rintro e w' ⟨rfl,rfl⟩
     go_wp2_with fail
     refine (CK.out _).mono ?_
     rintro e wz ⟨rfl,bz⟩
     have B:=b2.trans (bz.mono b2.size)
     clear bz
     go_wp2_with fail
     go_ret2
     exact ⟨by rw[HF.out];rfl,B⟩
    |true=>
     have HF:Hid (yuz (y8z s.data.toList)=.tuple #[.string ⟨t.toArray⟩,.bool true]):=zakz HAS.out ho
     rw[ho]at CK
     clear ho
     go_wp2_with fail
     refine (CL.out _).mono ?_
     rintro e w' ⟨rfl,rfl⟩
     go_wp2_with fail
     refine (CK.out _).mono ?_
     rintro e wz ⟨rfl,bz⟩
     have B:=b2.trans (bz.mono b2.size)
     clear bz
     go_wp2_with fail
     go_ret2
     exact ⟨by rw[HF.out];rfl,B⟩
  have hz:(⟨(zdz s.data.toList).toArray⟩:ByteArray).size=s.data.toList.length:=by rw[zbIz];simp
  have CC:Hid (∀W,Lib.Utf8Tabs 12 13 W→Calls Tryz.prog 288 #[.string ⟨(zdz s.data.toList).toArray⟩] W fun e w'=>(∃t:ByteArray,e=.returned (.tuple #[.string t,.bool false]))∧Below W.heap.size W w'):=
   fun W hT=>zeFz _ W HLS.out hT (by rw[hz];exact hy)
  have HF:Hid (yuz (y8z s.data.toList)=.tuple #[.string ⟨#[]⟩,.bool false]):=by show _=_;rw[ziRz ha hy];rfl
  clear ha hy hz
  go_enter Tryz.func282,Tryz.ntmps282
  go_wp2_with fail
  refine CLo.out.mono ?_
  rintro e wa ⟨rfl,ba⟩
  go_wp2_with fail
  refine (CA.out _).mono ?_
  rintro e w' ⟨rfl,rfl⟩
  go_wp2_with fail
  refine (CC.out _ (zYz HTT.out ba)).mono ?_
  rintro e wb ⟨⟨t,rfl⟩,bb⟩
  have b2:=ba.trans (bb.mono ba.size)
  clear ba bb
  go_wp2_with fail
  go_ret2
  exact ⟨by rw[HF.out];rfl,b2⟩
theorem ext4(s:ByteArray):(s.extract 0 4).data.toList=s.data.toList.take 4:=by
 rw[ByteArray.data_extract,Array.toList_extract]
 simp
theorem zq6z(s:ByteArray):s.extract 4 s.size=⟨(s.data.toList.drop 4).toArray⟩:=by
 apply ByteArray.ext
 apply Array.toList_inj.1
 rw[ByteArray.data_extract,Array.toList_extract]
 simp
 exact List.take_of_length_le (by simp)
theorem zq7z(s:ByteArray)(h:4≤s.size):((s.extract 0 4).toList==[120,110,45,45])=isXn s.data.toList:=by
 rw[ByteArray.toList_eq,ext4]
 have hl:4≤s.data.toList.length:=by simpa using h
 generalize s.data.toList=l at hl
 match l,hl with
 |a::b::c::d::r,_=>
  unfold isXn xn
  simp[List.isPrefixOf]
  rw[Bool.eq_iff_iff]
  simp
  constructor
  ·rintro ⟨rfl,rfl,rfl,rfl⟩;exact ⟨rfl,rfl,rfl,rfl⟩
  rintro ⟨h1,h2,h3,h4⟩;exact ⟨h1.symm,h2.symm,h3.symm,h4.symm⟩
theorem zgGz(s:ByteArray)(h:s.size<4):isXn s.data.toList=false:=by
 cases hx:isXn s.data.toList with
 |false=>rfl
 |true=>
  have:=congrArg List.length (zhJz hx)
  rw[List.length_append]at this
  have hl:s.data.toList.length=s.size:=by simp
  simp[xn]at this
  omega
theorem zgHz{l:List UInt8}(h:isXn l=true):xPz l=z9z (nat8 (l.drop 4)):=if_pos h
theorem zq8z(l:List Nat)(k:Nat)(h:k<l.length):(l.take (k+1)).all (fun c=>decide (c<128))=((l.take k).all (fun c=>decide (c<128))&&decide (l.getD k 0<128)):=by
 rw[List.take_succ_eq_append_getElem h,List.all_append]
 simp[List.getD,h]
theorem ze1z(s:ByteArray)(w:World)(hs:s.size≤1048576)(hlab:yMz s.data.toList=true):
  Calls Tryz.prog 191 #[.string s] w fun e w'=>vJz w w' (xPz s.data.toList) e∧Below w.heap.size w w':=by
 have HO:Hid (∀W:World,(W.alloc (.cells #[] 3)).ownsRow W.heap.size 3 1 (.slice (some ⟨W.heap.size,0,none⟩) 0 0) 0 []):=fun W=>World.ownsRow_lit W #[] 0 (Nat.le_refl _) (by decide) rfl
 have hs':(s.size:Int)≤1048576:=by omega
 by_cases h4:s.size<4
 ·have h4':(s.size:Int)<4:=by omega
  have HR:Hid (xPz s.data.toList=none):=if_neg (by rw[zgGz s h4];decide)
  go_enter Tryz.func191,Tryz.ntmps191
  go_wp2_with fail
  go_ret2
  rw[HR.out]
  exact ⟨⟨_,rfl,HO.out w⟩,(Below.refl _ _).alloc (Nat.le_refl _) _⟩
 have h4': ¬(s.size:Int)<4:=by omega
 have h4n:4≤s.size:=by omega
 have hxe:=zq7z s h4n
 cases hx:isXn s.data.toList with
 |false=>
  rw[hx]at hxe
  have HR:Hid (xPz s.data.toList=none):=if_neg (by rw[hx];decide)
  clear hx
  go_enter Tryz.func191,Tryz.ntmps191
  go_wp2_with fail
  go_ret2
  rw[HR.out]
  exact ⟨⟨_,rfl,HO.out w⟩,(Below.refl _ _).alloc (Nat.le_refl _) _⟩
 |true=>
  rw[hx]at hxe
  have HD:=fun l=> @zscz s.data.toList l hx hlab
  rw[←zgHz hx]at HD
  have HD:Hid (∀l,xPz s.data.toList=some l→(∃x∈l,128≤x)∧ ∀x∈l,¬(65≤x∧x≤90)):=HD
  have CD:Hid (∀W,Calls Tryz.prog 230 #[.string (s.extract 4 s.size)] W fun e w'=>vJz W w' (xPz s.data.toList) e∧Below W.heap.size W w'):=fun W=>by
   rw[zq6z s,zgHz hx]
   exact zmjz ⟨(s.data.toList.drop 4).toArray⟩ W
  clear hx
  go_enter Tryz.func191,Tryz.ntmps191
  go_wp2_with fail
  refine (CD.out _).mono ?_
  rintro e wa ⟨hd,ba⟩
  have hsz:=ba.size
  cases hr:xPz s.data.toList with
  |none=>
   rw[hr]at hd
   obtain ⟨v,rfl,ov⟩:=hd
   have HR:Hid (xPz s.data.toList=none):=hr
   clear hr HD CD
   rcases zpz ov with ⟨_,_,ao,cap,rfl⟩|⟨h,_⟩
   ·go_wp2_with fail
    go_loop[6,7] (fun p i=>p=.bool true∧i=.int .i64 0) (fun _ _=>0)
    case atStart=>exact ⟨rfl,rfl⟩
    obtain ⟨rfl,rfl⟩:=hrel
    go_wp2_with fail
    go_ret2
    rw[HR.out]
    exact ⟨⟨_,rfl,zp7z (HO.out wa) hsz⟩,ba.alloc hsz _⟩
   omega
  |some l=>
   rw[hr]at hd
   obtain ⟨v,rfl,ov⟩:=hd
   obtain ⟨hx1,hx2⟩:=HD.out l hr
   have HR:Hid (xPz s.data.toList=some l):=hr
   have HX:Hid (∀x∈l,¬(65≤x∧x≤90)):=hx2
   have HP:Hid (l.all (fun c=>decide (c<128))=false):=by
    obtain ⟨x,hx,h128⟩:=hx1
    show _=_
    rw[List.all_eq_false]
    exact ⟨x,hx,by simpa using h128⟩
   clear hr HD CD hx2
   rcases zpz ov with ⟨h0,_⟩|⟨_,g,cap,rfl⟩
   ·obtain ⟨x,hx,_⟩:=hx1
    have:l=[]:=List.eq_nil_of_length_eq_zero h0
    rw[this]at hx
    simp at hx
   clear hx1
   have hll:l.length≤1048576:=by
    obtain ⟨hok,_⟩:=(zbcz _ _).1 ((zgHz (by cases h:isXn s.data.toList with|true=>rfl|false=>have h2:=HR.out;unfold xPz at h2;rw[h]at h2;simp at h2)).symm.trans HR.out)
    have:=(zLz hok).1
    omega
   have HC:Hid (∀j,j<l.length→wa.cell? ⟨g,j,none⟩=some (.int .i64 (l.getD j 0:Nat))):=fun j hj=>vIz ov j hj
   have HV:Hid (wa.ownsRow w.heap.size 3 1 (.slice (some ⟨g,0,none⟩) l.length cap) l.length (icN l)):=ov
   clear ov
   go_wp2_with fail
   go_loop[6,7] (fun p i=> ∃k:Nat,k≤l.length∧p=.bool ((l.take k).all (fun c=>decide (c<128)))∧i=.int .i64 k) (fun _ i=>l.length-(intOf i).toNat)
   case atStart=>exact ⟨0,Nat.zero_le _,rfl,rfl⟩
   obtain ⟨k,hk,rfl,rfl⟩:=hrel
   by_cases hlt:k<l.length
   ·have hc:=HC.out k hlt
    have HS:Hid ((l.take (k+1)).all (fun c=>decide (c<128))=((l.take k).all (fun c=>decide (c<128))&&decide (l.getD k 0<128))):=zq8z l k hlt
    have HN:Hid (¬(65≤l.getD k 0∧l.getD k 0≤90)):=HX.out _ (by rw[List.getD_eq_getElem?_getD,List.getElem?_eq_getElem hlt];exact List.getElem_mem hlt)
    obtain ⟨y,hy⟩: ∃y,l.getD k 0=y:=⟨_,rfl⟩
    rw[hy]at hc HS HN
    generalize (l.take k).all (fun c=>decide (c<128))=b at HS
    have hkl:(k:Int)<l.length:=by omega
    clear hy
    have CI:Hid (∀W,CS 39 #[.int .i64 (y:Int),.int .i64 65,.int .i64 90] W (.bool false)):=fun W=>xMz _ _ _ W (by have:=HN.out;omega)
    cases b with
    |false=>
     go_wp2_with fail
     refine (CI.out _).mono ?_
     rintro e w' ⟨rfl,rfl⟩
     go_wp2_with fail
     go_round
     case rel=>exact ⟨k+1,by omega,by rw[HS.out];rfl,by go_num⟩
     case measure=>simp[intOf];omega
    |true=>
     go_wp2_with fail
     refine (CI.out _).mono ?_
     rintro e w' ⟨rfl,rfl⟩
     go_wp2_with fail
     go_round
     case rel=>exact ⟨k+1,by omega,by rw[HS.out];simp;omega,by go_num⟩
     case measure=>simp[intOf];omega
   have hks:k=l.length:=by omega
   have HB:(l.take k).all (fun c=>decide (c<128))=false:=by rw[hks,List.take_length];exact HP.out
   rw[HB]
   clear HB
   subst hks
   go_wp2_with fail
   go_ret2
   rw[HR.out]
   exact ⟨⟨_,rfl,HV.out⟩,ba⟩
theorem zbXz(s:ByteArray)(w:World)(hs:s.size≤1048576):
  Calls Tryz.prog 137 #[.string s] w fun e w'=>e=.returned (yuz (y8z s.data.toList))∧Below w.heap.size w w':=by
 have CLo:Hid (CB 52 #[.string s] w (.string ⟨(zdz s.data.toList).toArray⟩)):=zhjz s w hs
 have hls:=zbIz s
 have HLS:Hid ((⟨(zdz s.data.toList).toArray⟩:ByteArray).size≤1048576):=by show _≤_;omega
 have CA:Hid (∀W,CS 187 #[.string s] W (.bool (xjz s.data.toList))):=fun W=>zn9z s W (by unfold maxLen;omega)
 cases ha:xjz s.data.toList with
 |true=>
  rw[ha]at CA
  have HAS:Hid (y8z s.data.toList=if okA (zdz s.data.toList)=true then some (zdz s.data.toList)else none):=zf6z ha
  clear ha hls
  generalize zdz s.data.toList=t at CLo HAS HLS
  go_enter Tryz.func137,Tryz.ntmps137
  go_wp2_with fail
  refine CLo.out.mono ?_
  rintro e wa ⟨rfl,ba⟩
  go_wp2_with fail
  refine (CA.out _).mono ?_
  rintro e w' ⟨rfl,rfl⟩
  have HK:=zd3z t
  have hzm:(⟨t.toArray⟩:ByteArray).size≤1048576:=HLS.out
  obtain ⟨S,hS⟩: ∃S:ByteArray,S=⟨t.toArray⟩:=⟨_,rfl⟩
  have hSt:S.data.toList=t:=by rw[hS]
  rw[←hS]at hzm
  rw[←hSt]at HK
  have HSS:Hid (S=⟨t.toArray⟩):=hS
  have HST:Hid (S.data.toList=t):=hSt
  rw[←hS]
  clear hS hSt
  cases hl:yMz S.data.toList with
  |false=>
   have HF:Hid (yuz (y8z s.data.toList)=.tuple #[.string ⟨#[]⟩,.bool false]):=zbWz HAS.out (by rw[←HST.out,HK,hl];rfl)
   have CL:Hid (∀W,CS 190 #[.string S] W (.bool false)):=fun W=>by
    have h:=zaiz S W (by unfold maxLen;omega)
    rw[hl]at h
    exact h
   clear HK hl
   try go_wp2_with fail
   refine (CL.out _).mono ?_
   rintro e w' ⟨rfl,rfl⟩
   go_wp2_with fail
   go_ret2
   exact ⟨by rw[HF.out];rfl,ba⟩
  |true=>
   have CL:Hid (∀W,CS 190 #[.string S] W (.bool true)):=fun W=>by
    have h:=zaiz S W (by unfold maxLen;omega)
    rw[hl]at h
    exact h
   have CK:Hid (∀W,Calls Tryz.prog 191 #[.string S] W fun e w'=>vJz W w' (xPz S.data.toList) e∧Below W.heap.size W w'):=fun W=>ze1z S W hzm hl
   rw[hl]at HK
   by_cases h4:S.size<4
   ·have h4': ¬4≤(S.size:Int):=by omega
    have HF:Hid (yuz (y8z s.data.toList)=.tuple #[.string S,.bool true]):=by
     show _=_
     rw[HSS.out]
     exact zakz HAS.out (by rw[←HST.out,HK,zgGz S h4];rfl)
    clear HK hl
    try go_wp2_with fail
    refine (CL.out _).mono ?_
    rintro e w' ⟨rfl,rfl⟩
    go_wp2_with fail
    go_ret2
    exact ⟨by rw[HF.out];rfl,ba⟩
   have h4':4≤(S.size:Int):=by omega
   have hxe:=zq7z S (by omega)
   cases hx:isXn S.data.toList with
   |false=>
    rw[hx]at hxe
    have HF:Hid (yuz (y8z s.data.toList)=.tuple #[.string S,.bool true]):=by
     show _=_
     rw[HSS.out]
     exact zakz HAS.out (by rw[←HST.out,HK,hx];rfl)
    clear HK hl hx
    try go_wp2_with fail
    refine (CL.out _).mono ?_
    rintro e w' ⟨rfl,rfl⟩
    go_wp2_with fail
    go_ret2
    exact ⟨by rw[HF.out];rfl,ba⟩
   |true=>
    rw[hx]at hxe
    cases hr:xPz S.data.toList with
    |none=>
     have HF:Hid (yuz (y8z s.data.toList)=.tuple #[.string ⟨#[]⟩,.bool false]):=zbWz HAS.out (by rw[←HST.out,HK,hx,hr];rfl)
     rw[hr]at CK
     clear HK hl hx hr
     try go_wp2_with fail
     refine (CL.out _).mono ?_
     rintro e w' ⟨rfl,rfl⟩
     go_wp2_with fail
     refine (CK.out _).mono ?_
     rintro e wz ⟨⟨v,rfl,_⟩,bz⟩
     have B:=ba.trans (bz.mono ba.size)
     clear bz
     go_wp2_with fail
     go_ret2
     exact ⟨by rw[HF.out];rfl,B⟩
    |some l=>
     have HF:Hid (yuz (y8z s.data.toList)=.tuple #[.string S,.bool true]):=by
      show _=_
      rw[HSS.out]
      exact zakz HAS.out (by rw[←HST.out,HK,hx,hr];rfl)
     rw[hr]at CK
     clear HK hl hx hr
     try go_wp2_with fail
     refine (CL.out _).mono ?_
     rintro e w' ⟨rfl,rfl⟩
     go_wp2_with fail
     refine (CK.out _).mono ?_
     rintro e wz ⟨⟨v,rfl,_⟩,bz⟩
     have B:=ba.trans (bz.mono ba.size)
     clear bz
     go_wp2_with fail
     go_ret2
     exact ⟨by rw[HF.out];rfl,B⟩
 |false=>
  rw[ha]at CA
  have hz:(⟨(zdz s.data.toList).toArray⟩:ByteArray).size=s.data.toList.length:=by rw[zbIz];simp
  have CR:Hid (∀W,Calls Tryz.prog 188 #[.string ⟨(zdz s.data.toList).toArray⟩] W fun e w'=>zaVz ⟨(zdz s.data.toList).toArray⟩ W e w'):=fun W=>zoQz _ W HLS.out
  by_cases hy1:(z2z ⟨(zdz s.data.toList).toArray⟩).1=(⟨(zdz s.data.toList).toArray⟩:ByteArray).size
  ·have HAO:=zciz _ hy1
   have hfl:=zjmz ⟨(zdz s.data.toList).toArray⟩
   have HEN:Hid (∀(W:World) (v:Value) (B:Nat),W.ownsRow B 3 1 v (z2z ⟨(zdz s.data.toList).toArray⟩).2.length (zkz (z2z ⟨(zdz s.data.toList).toArray⟩).2)→CB 189 #[v] W (jWz (z2z ⟨(zdz s.data.toList).toArray⟩).2)):=
    fun W v B h=>zd0z _ v B W HAO (by omega) h
   by_cases hy2:(z2z ⟨(zdz s.data.toList).toArray⟩).2.length≤60
   ·have HAS0:=zkdz ha ⟨hy1.trans hz,hy2⟩
    have e1:jWz (z2z ⟨(zdz s.data.toList).toArray⟩).2=.tuple #[.string ⟨(b8 (zBz ((z2z ⟨(zdz s.data.toList).toArray⟩).2.map Int.toNat))).toArray⟩,.bool true]:=if_pos hy2
    rw[e1]at HEN
    have HN:=zduz (zaWz HAO hy2)
    generalize zBz ((z2z ⟨(zdz s.data.toList).toArray⟩).2.map Int.toNat)=q at HAS0 HEN HN
    have HX:Hid ((⟨#[120,110,45,45]⟩:ByteArray)++⟨(b8 q).toArray⟩=⟨(xn++b8 q).toArray⟩):=by
     show _=_
     apply ByteArray.ext
     rw[ByteArray.data_append]
     apply Array.toList_inj.1
     simp[xn]
    have hzq:(⟨(b8 q).toArray⟩:ByteArray).size≤600:=by
     show (b8 q).toArray.size≤600
     rw[List.size_toArray,zccz]
     exact HN
    obtain ⟨T,hTT⟩: ∃T:ByteArray,⟨(b8 q).toArray⟩=T:=⟨_,rfl⟩
    have HM2:Hid (ByteArray.size ⟨(xn++b8 q).toArray⟩≤1048576):=by
     show (xn++b8 q).toArray.size≤1048576
     rw[List.size_toArray,List.length_append,zccz]
     simp[xn]
     omega
    have HAS:Hid (y8z s.data.toList=if okA (xn++b8 q)=true then some (xn++b8 q)else none):=HAS0
    clear HAS0
    generalize xn++b8 q=t at HAS HM2 HX
    rw[hTT]at HEN HX hzq
    have HY1:Hid ((z2z ⟨(zdz s.data.toList).toArray⟩).1=(⟨(zdz s.data.toList).toArray⟩:ByteArray).size):=hy1
    clear ha hy1 hy2 hz HN HAO hfl hls e1 hTT
    go_enter Tryz.func137,Tryz.ntmps137
    go_wp2_with fail
    refine CLo.out.mono ?_
    rintro e wa ⟨rfl,ba⟩
    go_wp2_with fail
    refine (CA.out _).mono ?_
    rintro e w' ⟨rfl,rfl⟩
    go_wp2_with fail
    refine (CR.out _).mono ?_
    rintro e wb (⟨_,vb,rfl,ob,bb⟩|⟨hn,_⟩)
    ·go_wp2_with fail
     refine (HEN.out _ _ _ ob).mono ?_
     rintro e wc ⟨rfl,bc⟩
     have b2:=ba.trans (bb.mono ba.size)
     have b3:=b2.trans (bc.mono b2.size)
     clear ba bb ob b2 bc
     go_wp2_with fail
     rw[HX.out]
     have HK:=zd3z t
     have hzm:(⟨t.toArray⟩:ByteArray).size≤1048576:=HM2.out
     obtain ⟨S,hS⟩: ∃S:ByteArray,S=⟨t.toArray⟩:=⟨_,rfl⟩
     have hSt:S.data.toList=t:=by rw[hS]
     rw[←hS]at hzm
     rw[←hSt]at HK
     have HSS:Hid (S=⟨t.toArray⟩):=hS
     have HST:Hid (S.data.toList=t):=hSt
     rw[←hS]
     clear hS hSt
     cases hl:yMz S.data.toList with
     |false=>
      have HF:Hid (yuz (y8z s.data.toList)=.tuple #[.string ⟨#[]⟩,.bool false]):=zbWz HAS.out (by rw[←HST.out,HK,hl];rfl)
      have CL:Hid (∀W,CS 190 #[.string S] W (.bool false)):=fun W=>by
       have h:=zaiz S W (by unfold maxLen;omega)
       rw[hl]at h
       exact h
      clear HK hl
      try go_wp2_with fail
      refine (CL.out _).mono ?_
      rintro e w' ⟨rfl,rfl⟩
      go_wp2_with fail
      go_ret2
      exact ⟨by rw[HF.out];rfl,b3⟩
     |true=>
      have CL:Hid (∀W,CS 190 #[.string S] W (.bool true)):=fun W=>by
       have h:=zaiz S W (by unfold maxLen;omega)
       rw[hl]at h
       exact h
      have CK:Hid (∀W,Calls Tryz.prog 191 #[.string S] W fun e w'=>vJz W w' (xPz S.data.toList) e∧Below W.heap.size W w'):=fun W=>ze1z S W hzm hl
      rw[hl]at HK
      by_cases h4:S.size<4
      ·have h4': ¬4≤(S.size:Int):=by omega
       have HF:Hid (yuz (y8z s.data.toList)=.tuple #[.string S,.bool true]):=by
        show _=_
        rw[HSS.out]
        exact zakz HAS.out (by rw[←HST.out,HK,zgGz S h4];rfl)
       clear HK hl
       try go_wp2_with fail
       refine (CL.out _).mono ?_
       rintro e w' ⟨rfl,rfl⟩
       go_wp2_with fail
       go_ret2
       exact ⟨by rw[HF.out];rfl,b3⟩
      have h4':4≤(S.size:Int):=by omega
      have hxe:=zq7z S (by omega)
      cases hx:isXn S.data.toList with
      |false=>
       rw[hx]at hxe
       have HF:Hid (yuz (y8z s.data.toList)=.tuple #[.string S,.bool true]):=by
        show _=_
        rw[HSS.out]
        exact zakz HAS.out (by rw[←HST.out,HK,hx];rfl)
       clear HK hl hx
       try go_wp2_with fail
       refine (CL.out _).mono ?_
       rintro e w' ⟨rfl,rfl⟩
       go_wp2_with fail
       go_ret2
       exact ⟨by rw[HF.out];rfl,b3⟩
      |true=>
       rw[hx]at hxe
       cases hr:xPz S.data.toList with
       |none=>
        have HF:Hid (yuz (y8z s.data.toList)=.tuple #[.string ⟨#[]⟩,.bool false]):=zbWz HAS.out (by rw[←HST.out,HK,hx,hr];rfl)
        rw[hr]at CK
        clear HK hl hx hr
        try go_wp2_with fail
        refine (CL.out _).mono ?_
        rintro e w' ⟨rfl,rfl⟩
        go_wp2_with fail
        refine (CK.out _).mono ?_
        rintro e wz ⟨⟨v,rfl,_⟩,bz⟩
        have B:=b3.trans (bz.mono b3.size)
        clear bz
        go_wp2_with fail
        go_ret2
        exact ⟨by rw[HF.out];rfl,B⟩
       |some l=>
        have HF:Hid (yuz (y8z s.data.toList)=.tuple #[.string S,.bool true]):=by
         show _=_
         rw[HSS.out]
         exact zakz HAS.out (by rw[←HST.out,HK,hx,hr];rfl)
        rw[hr]at CK
        clear HK hl hx hr
        try go_wp2_with fail
        refine (CL.out _).mono ?_
        rintro e w' ⟨rfl,rfl⟩
        go_wp2_with fail
        refine (CK.out _).mono ?_
        rintro e wz ⟨⟨v,rfl,_⟩,bz⟩
        have B:=b3.trans (bz.mono b3.size)
        clear bz
        go_wp2_with fail
        go_ret2
        exact ⟨by rw[HF.out];rfl,B⟩
    exact absurd HY1.out hn
   have HF:Hid (yuz (y8z s.data.toList)=.tuple #[.string ⟨#[]⟩,.bool false]):=by show _=_;rw[ziRz ha (fun h=>hy2 h.2)];rfl
   have e1:jWz (z2z ⟨(zdz s.data.toList).toArray⟩).2=.tuple #[.string ⟨#[]⟩,.bool false]:=if_neg hy2
   rw[e1]at HEN
   have HY1:Hid ((z2z ⟨(zdz s.data.toList).toArray⟩).1=(⟨(zdz s.data.toList).toArray⟩:ByteArray).size):=hy1
   clear ha hy1 hy2 hz HAO hfl hls e1
   go_enter Tryz.func137,Tryz.ntmps137
   go_wp2_with fail
   refine CLo.out.mono ?_
   rintro e wa ⟨rfl,ba⟩
   go_wp2_with fail
   refine (CA.out _).mono ?_
   rintro e w' ⟨rfl,rfl⟩
   go_wp2_with fail
   refine (CR.out _).mono ?_
   rintro e wb (⟨_,vb,rfl,ob,bb⟩|⟨hn,_⟩)
   ·go_wp2_with fail
    refine (HEN.out _ _ _ ob).mono ?_
    rintro e wc ⟨rfl,bc⟩
    have b2:=ba.trans (bb.mono ba.size)
    have b3:=b2.trans (bc.mono b2.size)
    clear ba bb ob b2 bc
    go_wp2_with fail
    go_ret2
    exact ⟨by rw[HF.out];rfl,b3⟩
   exact absurd HY1.out hn
  have HF:Hid (yuz (y8z s.data.toList)=.tuple #[.string ⟨#[]⟩,.bool false]):=by show _=_;rw[ziRz ha (fun h=>hy1 (h.1.trans hz.symm))];rfl
  have HEN:Hid (∀(W:World) (v:Value) (B:Nat),W.ownsRow B 3 1 v 0 (zkz [])→CB 189 #[v] W (.tuple #[.string ⟨(b8 (zBz [])).toArray⟩,.bool true])):=
   fun W v B h=>zd0z [] v B W (fun r hr=>by simp at hr) (by decide) h
  have HY1:Hid (¬(z2z ⟨(zdz s.data.toList).toArray⟩).1=(⟨(zdz s.data.toList).toArray⟩:ByteArray).size):=hy1
  clear ha hy1 hz hls
  go_enter Tryz.func137,Tryz.ntmps137
  go_wp2_with fail
  refine CLo.out.mono ?_
  rintro e wa ⟨rfl,ba⟩
  go_wp2_with fail
  refine (CA.out _).mono ?_
  rintro e w' ⟨rfl,rfl⟩
  go_wp2_with fail
  refine (CR.out _).mono ?_
  rintro e wb (⟨hn,_⟩|⟨_,vb,rfl,ob,bb⟩)
  ·exact absurd hn HY1.out
  go_wp2_with fail
  refine (HEN.out _ _ _ ob).mono ?_
  rintro e wc ⟨rfl,bc⟩
  have b2:=ba.trans (bb.mono ba.size)
  have b3:=b2.trans (bc.mono b2.size)
  clear ba bb ob b2 bc
  go_wp2_with fail
  go_ret2
  exact ⟨by rw[HF.out];rfl,b3⟩
end Go.Proofs.YtgcbaphbiaimoaaGreatDoor
