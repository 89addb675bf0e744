/- LabWalk, AscImpl, AscSpec. -/
import Derived.Test.YtgcbaphbiaimoaaGreatDoorQF24
set_option maxHeartbeats 2000000
namespace Go.Proofs.YtgcbaphbiaimoaaGreatDoor
open Go.Value renaming string->I,tuple->L,bool->Y
open Go.Ending renaming returned->J
open _root_.Array renaming toList_extract->zg,toList_inj->zk
open _root_.Bool renaming eq_iff_iff->ze
open _root_.ByteArray renaming data_extract->zd,ext->zj,size->zf
open _root_.Go.ByteArray renaming toList_eq->zi
open _root_.Int renaming toNat->zh
open _root_.List renaming length_append->za,size_toArray->zc
open _root_.Nat renaming le_refl->zm,zero_le->zl
open _root_.Go.Proofs.Tryz
open _root_.Go.Proofs.YtgcbaphbiaimoaaGreatDoor.Tryz
open Go.RowKit
theorem oJ(s:ByteArray)(w:World)(hs:s.size<=maxLen):Calls prog 190 #[I s] w fun e w'=>e=J (Y (dX s.data.toList))/\w=w':=by
 unfold maxLen at hs;have HV:Hid (∀b:Bool,dX s.data.toList=b->(J (Y b):Ending)=J (Y (dX s.data.toList))):=fun b h=>by rw[h]
 by_cases hr:1<=s.size/\s.size<=63
 .have hr1:1<=(s.size:Int):=om
  have hr2:(s.size:Int)<=63:=om
  by_cases h0:(s[0]'om).toNat=45
  .have HF:Hid (dX s.data.toList=false):=PC s om h0
   go_enter func190,ntmps190;go_wp2_with fail;refine j5 (iP _ _ _ _ hr1 hr2) ?_;go_wp2_with fail;go_ret;exact ⟨HV.out _ HF.out,rfl⟩
  by_cases h1:(s[s.size-1]'om).toNat=45
  .have HF:Hid (dX s.data.toList=false):=PD s om h1
   go_enter func190,ntmps190;go_wp2_with fail;refine j5 (iP _ _ _ _ hr1 hr2) ?_;go_wp2_with fail;go_ret;exact ⟨HV.out _ HF.out,rfl⟩
  have q0:(((s[0]'om).toNat:Int)==45)=false:=beq_eq_false_iff_ne.2 om;have q1:(((s[s.size-1]'om).toNat:Int)==45)=false:=beq_eq_false_iff_ne.2 om;have HY:Hid ((∀c∈s.data.toList.take s.size,gS c=true)->dX s.data.toList=true):=XG s hr h0 h1;clear h0 h1;go_enter func190,ntmps190;go_wp2_with fail;refine j5 (iP _ _ _ _ hr1 hr2) ?_;go_wp2_with fail
  go_loop[4] (fun i=> ∃k:Nat,k<=s.size/\i=.int .i64 k/\ ∀c∈s.data.toList.take k,gS c=true) (fun i=>s.size-(intOf i).toNat)
  case atStart=>exact ⟨0,zl _,rfl,fun c h=>by simp at h⟩
  obtain ⟨k,hk,rfl,hall⟩:=hrel;have HA:Hid (∀c∈s.data.toList.take k,gS c=true):=hall;clear hall
  by_cases hlt:k<s.size
  .obtain ⟨d,hd⟩: ∃d:Nat,s[k].toNat=d:=⟨_,rfl⟩
   have hd1:(d:Int)<=255:=by have:=s[k].toNat_lt;omega
   have HS:Hid ((97<=d/\d<=122)∨(48<=d/\d<=57)∨d=45-> ∀c∈s.data.toList.take (k+1),gS c=true):=fun hc=>PG s k hlt d hd hc HA.out
   have HN:Hid (¬((97<=d/\d<=122)∨(48<=d/\d<=57)∨d=45)->dX s.data.toList=false):=fun hc=>PE s k hlt (by rw[hd];exact hc)
   by_cases ha:97<=d/\d<=122
   .go_wp2_with fail
    refine j5 (iP _ _ _ _ om om) ?_;go_wp2_with fail;go_round
    case rel=>exact ⟨k+1,om,gn,HS.out om⟩
    case measure=>exact j1
   by_cases hn:48<=d/\d<=57
   .go_wp2_with fail
    refine j5 (iC _ _ _ _ om) ?_;go_wp2_with fail;refine j5 (iP _ _ _ _ om om) ?_;go_wp2_with fail;go_round
    case rel=>exact ⟨k+1,om,gn,HS.out om⟩
    case measure=>exact j1
   by_cases hm:d=45
   .subst hm
    clear hn ha;go_wp2_with fail;refine j5 (iC _ _ _ _ om) ?_;go_wp2_with fail;refine j5 (iC _ _ _ _ om) ?_;go_wp2_with fail;go_round
    case rel=>exact ⟨k+1,om,gn,HS.out (.inr (.inr trivial))⟩
    case measure=>exact j1
   have hm': ¬(d:Int)=45:=om;go_wp2_with fail;refine j5 (iC _ _ _ _ om) ?_;go_wp2_with fail;refine j5 (iC _ _ _ _ om) ?_;go_wp2_with fail;go_ret;exact ⟨HV.out _ (HN.out om),rfl⟩
  have hks:k=s.size:=om;subst hks;go_wp2_with fail;go_ret;exact ⟨HV.out _ (HY.out HA.out),rfl⟩
 have HF:Hid (dX s.data.toList=false):=OZ s hr;have hr1:(s.size:Int)<1∨63<(s.size:Int):=om;go_enter func190,ntmps190;go_wp2_with fail;refine j5 (iC _ _ _ _ hr1) ?_;go_wp2_with fail;go_ret;exact ⟨HV.out _ HF.out,rfl⟩
theorem EW(d:Nat)(w:World)(hd:(d:Int)<=255):Calls prog 218 #[.int .u8 d] w fun e w'=>e=J (Y (decide (48<=(d:Int))&&decide ((d:Int)<=57)))/\w=w':=by
 by_cases h1:48<=(d:Int)
 .go_enter func218,ntmps218
  go_wp2;go_ret;exact ⟨aG (by simp;omega),rfl⟩
 go_enter func218,ntmps218;go_wp2;go_ret;exact ⟨aG (by simp;omega),rfl⟩
def VS(d:Nat):Bool:=decide ((97<=d/\d<=122)∨(48<=d/\d<=57)∨d=45)
theorem AG(d:Nat)(w:World)(hd:(d:Int)<=255):Calls prog 293 #[.int .u8 d] w fun e w'=>e=J (Y (VS d))/\w=w':=by
 have HV:Hid (∀b:Bool,VS d=b->(J (Y b):Ending)=J (Y (VS d))):=fun b h=>by rw[h]
 by_cases hm:(d:Int)=45
 .go_enter func293,ntmps293
  go_wp2_with fail;go_ret;exact ⟨HV.out _ (decide_eq_true om),rfl⟩
 by_cases hn:48<=d/\d<=57
 .have HC:Hid (CS 218 #[.int .u8 d] w (Y true)):=by
   have:=EW d w hd
   rw[decide_eq_true (show 48<=(d:Int) by omega),decide_eq_true (show (d:Int)<=57 by omega)]at this;exact this
  go_enter func293,ntmps293;go_wp2_with fail;refine HC.out.mono ?_;rintro e w' ⟨rfl,rfl⟩;go_wp2_with fail;go_ret;exact ⟨HV.out _ (decide_eq_true om),rfl⟩
 have HC:Hid (CS 218 #[.int .u8 d] w (Y false)):=by
  have:=EW d w hd
  have e:(decide (48<=(d:Int))&&decide ((d:Int)<=57))=false:=by simp;omega
  rw[e]at this;exact this
 by_cases h1:97<=(d:Int)
 .by_cases h2:(d:Int)<=122
  .go_enter func293,ntmps293
   go_wp2_with fail;refine HC.out.mono ?_;rintro e w' ⟨rfl,rfl⟩;go_wp2_with fail;go_ret;exact ⟨HV.out _ (decide_eq_true om),rfl⟩
  go_enter func293,ntmps293;go_wp2_with fail;refine HC.out.mono ?_;rintro e w' ⟨rfl,rfl⟩;go_wp2_with fail;go_ret;exact ⟨HV.out _ (by unfold VS;rw[ze];simp;omega),rfl⟩
 go_enter func293,ntmps293;go_wp2_with fail;refine HC.out.mono ?_;rintro e w' ⟨rfl,rfl⟩;go_wp2_with fail;go_ret;exact ⟨HV.out _ (by unfold VS;rw[ze];simp;omega),rfl⟩
theorem MY{u:ByteArray}(h:0<u.size):u.toList.isEmpty=false:=by
 cases he:u.toList.isEmpty with
 |false=>rfl
 |true=>
  rw[zi,List.isEmpty_iff_length_eq_zero]at he
  have:u.size=0:=by simpa using he
  omega
theorem oK(s:ByteArray)(w:World)(hs:s.size<=maxLen):Calls prog 289 #[I s] w fun e w'=>e=J (Y (dX s.data.toList))/\w=w':=by
 unfold maxLen at hs;have HV:Hid (∀b:Bool,dX s.data.toList=b->(J (Y b):Ending)=J (Y (dX s.data.toList))):=fun b h=>by rw[h]
 by_cases hz:s=⟨#[]⟩
 .have HF:Hid (dX s.data.toList=false):=by subst hz;show _=_;rfl
  subst hz;go_enter func289,ntmps289;go_wp2_with fail;go_ret;exact ⟨HV.out _ HF.out,rfl⟩
 have hr1:0<s.size:=by
  apply Nat.pos_of_ne_zero;intro h;exact hz (zj (Array.eq_empty_of_size_eq_zero h))
 have hem:=MY hr1
 by_cases hr2:(s.size:Int)<=63
 .have hr3: ¬63<(s.size:Int):=om
  by_cases h0:(s[0]'om).toNat=45
  .have HF:Hid (dX s.data.toList=false):=PC s om h0
   go_enter func289,ntmps289;go_wp2_with fail;go_ret;exact ⟨HV.out _ HF.out,rfl⟩
  by_cases h1:(s[s.size-1]'om).toNat=45
  .have HF:Hid (dX s.data.toList=false):=PD s om h1
   go_enter func289,ntmps289;go_wp2_with fail;go_ret;exact ⟨HV.out _ HF.out,rfl⟩
  have q0:(((s[0]'om).toNat:Int)==45)=false:=beq_eq_false_iff_ne.2 om;have q1:(((s[s.size-1]'om).toNat:Int)==45)=false:=beq_eq_false_iff_ne.2 om;have HY:Hid ((∀c∈s.data.toList.take s.size,gS c=true)->dX s.data.toList=true):=XG s om h0 h1;clear h0 h1;go_enter func289,ntmps289;go_wp2_with fail
  go_loop[26] (fun i=> ∃k:Nat,k<=s.size/\i=.int .i64 k/\ ∀c∈s.data.toList.take k,gS c=true) (fun i=>s.size-(intOf i).toNat)
  case atStart=>exact ⟨0,zl _,rfl,fun c h=>by simp at h⟩
  obtain ⟨k,hk,rfl,hall⟩:=hrel;have HA:Hid (∀c∈s.data.toList.take k,gS c=true):=hall;clear hall
  by_cases hlt:k<s.size
  .obtain ⟨d,hd⟩: ∃d:Nat,s[k].toNat=d:=⟨_,rfl⟩
   have hd1:(d:Int)<=255:=by have:=s[k].toNat_lt;omega
   have HS:Hid ((97<=d/\d<=122)∨(48<=d/\d<=57)∨d=45-> ∀c∈s.data.toList.take (k+1),gS c=true):=fun hc=>PG s k hlt d hd hc HA.out
   have HN:Hid (¬((97<=d/\d<=122)∨(48<=d/\d<=57)∨d=45)->dX s.data.toList=false):=fun hc=>PE s k hlt (by rw[hd];exact hc)
   have HC:Hid (∀W,CS 293 #[.int .u8 d] W (Y (VS d))):=fun W=>AG d W hd1
   cases hb:VS d with
   |true=>
    have HB:Hid ((97<=d/\d<=122)∨(48<=d/\d<=57)∨d=45):=by
     have:=of_decide_eq_true (p:=(97<=d/\d<=122)∨(48<=d/\d<=57)∨d=45) hb
     exact this
    rw[hb]at HC;clear hb;go_wp2_with fail;refine (HC.out _).mono ?_;rintro e w' ⟨rfl,rfl⟩;go_wp2_with fail;go_round
    case rel=>exact ⟨k+1,om,gn,HS.out HB.out⟩
    case measure=>exact j1
   |false=>
    have HB:Hid (¬((97<=d/\d<=122)∨(48<=d/\d<=57)∨d=45)):=by
     have:=of_decide_eq_false (p:=(97<=d/\d<=122)∨(48<=d/\d<=57)∨d=45) hb
     exact this
    rw[hb]at HC;clear hb;go_wp2_with fail;refine (HC.out _).mono ?_;rintro e w' ⟨rfl,rfl⟩;go_wp2_with fail;go_ret;exact ⟨HV.out _ (HN.out HB.out),rfl⟩
  have hks:k=s.size:=om;subst hks;go_wp2_with fail;go_ret;exact ⟨HV.out _ (HY.out HA.out),rfl⟩
 have HF:Hid (dX s.data.toList=false):=OZ s om;go_enter func289,ntmps289;go_wp2_with fail;go_ret;exact ⟨HV.out _ HF.out,rfl⟩
theorem xG(t:List UInt8):okA t=(dX t&&(!(oT t)||(gK t).isSome)):=by
 unfold okA gK
 cases oT t<;>simp
theorem oL{o:Option (List UInt8)}{t:List UInt8}(h:o=if okA t=true then some t else none)(h1:okA t=true):dT o=L #[I ⟨t.toArray⟩,Y true]:=by
 rw[h,if_pos h1];rfl
theorem sD{o:Option (List UInt8)}{t:List UInt8}(h:o=if okA t=true then some t else none)(h1:okA t=false):dT o=L #[I ⟨#[]⟩,Y false]:=by
 rw[h,if_neg (by rw[h1];decide)];rfl
theorem RZ(s:ByteArray)(w:World)(hs:s.size<=1048576)(hT:Lib.Utf8Tabs 12 13 w):Calls prog 282 #[I s] w fun e w'=>e=J (dT (eV s.data.toList))/\Below w.heap.size w w':=by
 have CLo:Hid (CB 172 #[I s] w (I ⟨(aF s.data.toList).toArray⟩)):=xQ s w hs;have hls:=rT s;have HLS:Hid ((⟨(aF s.data.toList).toArray⟩:ByteArray).size<=1048576):=by show _<=_;omega
 have HTT:Hid (Lib.Utf8Tabs 12 13 w):=hT;have HM:Hid (zf ⟨(aF s.data.toList).toArray⟩<=maxLen):=by show _<=_;unfold maxLen;omega
 have CA:Hid (∀W,CS 287 #[I ⟨(aF s.data.toList).toArray⟩] W (Y (fE s.data.toList))):=fun W=>by
  have h:=A3 ⟨(aF s.data.toList).toArray⟩ W HM.out;rw[show fE (⟨(aF s.data.toList).toArray⟩:ByteArray).data.toList=fE (aF s.data.toList) from rfl,PH]at h;exact h
 clear hT hls
 cases ha:fE s.data.toList with
 |true=>
  rw[ha]at CA;have HAS:Hid (eV s.data.toList=if okA (aF s.data.toList)=true then some (aF s.data.toList)else none):=DR ha;clear ha;generalize aF s.data.toList=t at CLo CA HAS HM HLS;go_enter func282,ntmps282;go_wp2_with fail;refine CLo.out.mono ?_;rintro e wa ⟨rfl,ba⟩;go_wp2_with fail;refine (CA.out _).mono ?_;rintro e w' ⟨rfl,rfl⟩;have HK:=xG t;have hzz:(⟨t.toArray⟩:ByteArray).size<=maxLen:=HM.out
  cases hl:dX t with
  |false=>
   have HF:Hid (dT (eV s.data.toList)=L #[I ⟨#[]⟩,Y false]):=sD HAS.out (by rw[HK,hl];rfl);have CL:Hid (∀W,CS 289 #[I ⟨t.toArray⟩] W (Y false)):=fun W=>by
    have h:=oK ⟨t.toArray⟩ W hzz;rw[show dX (⟨t.toArray⟩:ByteArray).data.toList=dX t from rfl,hl]at h;exact h
   clear HK hl hzz;go_wp2_with fail;refine (CL.out _).mono ?_;rintro e w' ⟨rfl,rfl⟩;go_wp2_with fail;go_ret2;exact ⟨by rw[HF.out];rfl,ba⟩
  |true=>
   have CL:Hid (∀W,CS 289 #[I ⟨t.toArray⟩] W (Y true)):=fun W=>by
    have h:=oK ⟨t.toArray⟩ W hzz;rw[show dX (⟨t.toArray⟩:ByteArray).data.toList=dX t from rfl,hl]at h;exact h
   have CC:=fun W=>EV ⟨t.toArray⟩ W
   have CK:Hid (∀W,CB 290 #[I ⟨t.toArray⟩] W (Y (okA t))):=fun W=>by
    rw[HK,hl];exact CC W
   clear HK hl hzz CC
   cases ho:okA t with
   |false=>
    have HF:Hid (dT (eV s.data.toList)=L #[I ⟨#[]⟩,Y false]):=sD HAS.out ho;rw[ho]at CK;clear ho;go_wp2_with fail;refine (CL.out _).mono ?_;rintro e w' ⟨rfl,rfl⟩;go_wp2_with fail;refine (CK.out _).mono ?_;rintro e wz ⟨rfl,bz⟩;have B:=ba.trans (bz.mono ba.size);clear bz;go_wp2_with fail;go_ret2;exact ⟨by rw[HF.out];rfl,B⟩
   |true=>
    have HF:Hid (dT (eV s.data.toList)=L #[I ⟨t.toArray⟩,Y true]):=oL HAS.out ho;rw[ho]at CK;clear ho;go_wp2_with fail;refine (CL.out _).mono ?_;rintro e w' ⟨rfl,rfl⟩;go_wp2_with fail;refine (CK.out _).mono ?_;rintro e wz ⟨rfl,bz⟩;have B:=ba.trans (bz.mono ba.size);clear bz;go_wp2_with fail;go_ret2;exact ⟨by rw[HF.out];rfl,B⟩
 |false=>
  rw[ha]at CA
  by_cases hy:(cF ⟨(aF s.data.toList).toArray⟩).1=s.data.toList.length/\(cF ⟨(aF s.data.toList).toArray⟩).2.length<=60
  .have hz:(⟨(aF s.data.toList).toArray⟩:ByteArray).size=s.data.toList.length:=by rw[rT];simp
   have hy1:(cF ⟨(aF s.data.toList).toArray⟩).1=(⟨(aF s.data.toList).toArray⟩:ByteArray).size:=hy.1.trans hz.symm;have CC:Hid (∀W,Lib.Utf8Tabs 12 13 W->CB 288 #[I ⟨(aF s.data.toList).toArray⟩] W (L #[I ⟨(xn++b8 (bC ((cF ⟨(aF s.data.toList).toArray⟩).2.map zh))).toArray⟩,Y true])):=
    fun W hT=>xF _ W HLS.out hT hy1 hy.2
   have HAS:=PI ha hy;have HN:(xn++b8 (bC ((cF ⟨(aF s.data.toList).toArray⟩).2.map zh))).length<=604:=by
    rw[za,sT]
    have:=wA (pR (sZ _ hy1) hy.2)
    simp[xn];omega
   generalize xn++b8 (bC ((cF ⟨(aF s.data.toList).toArray⟩).2.map zh))=t at CC HAS HN;have HAS:Hid (eV s.data.toList=if okA t=true then some t else none):=HAS;have HM2:Hid (zf ⟨t.toArray⟩<=maxLen):=by
    show t.toArray.size<=maxLen;rw[zc];unfold maxLen;omega
   clear ha hy hy1 hz HN;go_enter func282,ntmps282;go_wp2_with fail;refine CLo.out.mono ?_;rintro e wa ⟨rfl,ba⟩;go_wp2_with fail;refine (CA.out _).mono ?_;rintro e w' ⟨rfl,rfl⟩;go_wp2_with fail;refine (CC.out _ (bW HTT.out ba)).mono ?_;rintro e wb ⟨rfl,bb⟩;have b2:=ba.trans (bb.mono ba.size);clear ba bb;have HK:=xG t;have hzz:(⟨t.toArray⟩:ByteArray).size<=maxLen:=HM2.out
   cases hl:dX t with
   |false=>
    have HF:Hid (dT (eV s.data.toList)=L #[I ⟨#[]⟩,Y false]):=sD HAS.out (by rw[HK,hl];rfl);have CL:Hid (∀W,CS 289 #[I ⟨t.toArray⟩] W (Y false)):=fun W=>by
     have h:=oK ⟨t.toArray⟩ W hzz;rw[show dX (⟨t.toArray⟩:ByteArray).data.toList=dX t from rfl,hl]at h;exact h
    clear HK hl hzz;go_wp2_with fail;refine (CL.out _).mono ?_;rintro e w' ⟨rfl,rfl⟩;go_wp2_with fail;go_ret2;exact ⟨by rw[HF.out];rfl,b2⟩
   |true=>
    have CL:Hid (∀W,CS 289 #[I ⟨t.toArray⟩] W (Y true)):=fun W=>by
     have h:=oK ⟨t.toArray⟩ W hzz;rw[show dX (⟨t.toArray⟩:ByteArray).data.toList=dX t from rfl,hl]at h;exact h
    have CC:=fun W=>EV ⟨t.toArray⟩ W
    have CK:Hid (∀W,CB 290 #[I ⟨t.toArray⟩] W (Y (okA t))):=fun W=>by
     rw[HK,hl];exact CC W
    clear HK hl hzz CC
    cases ho:okA t with
    |false=>
     have HF:Hid (dT (eV s.data.toList)=L #[I ⟨#[]⟩,Y false]):=sD HAS.out ho;rw[ho]at CK;clear ho;go_wp2_with fail;refine (CL.out _).mono ?_;rintro e w' ⟨rfl,rfl⟩;go_wp2_with fail;refine (CK.out _).mono ?_;rintro e wz ⟨rfl,bz⟩;have B:=b2.trans (bz.mono b2.size);clear bz;go_wp2_with fail;go_ret2;exact ⟨by rw[HF.out];rfl,B⟩
    |true=>
     have HF:Hid (dT (eV s.data.toList)=L #[I ⟨t.toArray⟩,Y true]):=oL HAS.out ho;rw[ho]at CK;clear ho;go_wp2_with fail;refine (CL.out _).mono ?_;rintro e w' ⟨rfl,rfl⟩;go_wp2_with fail;refine (CK.out _).mono ?_;rintro e wz ⟨rfl,bz⟩;have B:=b2.trans (bz.mono b2.size);clear bz;go_wp2_with fail;go_ret2;exact ⟨by rw[HF.out];rfl,B⟩
  have hz:(⟨(aF s.data.toList).toArray⟩:ByteArray).size=s.data.toList.length:=by rw[rT];simp
  have CC:Hid (∀W,Lib.Utf8Tabs 12 13 W->Calls prog 288 #[I ⟨(aF s.data.toList).toArray⟩] W fun e w'=>(∃t:ByteArray,e=J (L #[I t,Y false]))/\Below W.heap.size W w'):=
   fun W hT=>yV _ W HLS.out hT (by rw[hz];exact hy)
  have HF:Hid (dT (eV s.data.toList)=L #[I ⟨#[]⟩,Y false]):=by show _=_;rw[LR ha hy];rfl
  clear ha hy hz;go_enter func282,ntmps282;go_wp2_with fail;refine CLo.out.mono ?_;rintro e wa ⟨rfl,ba⟩;go_wp2_with fail;refine (CA.out _).mono ?_;rintro e w' ⟨rfl,rfl⟩;go_wp2_with fail;refine (CC.out _ (bW HTT.out ba)).mono ?_;rintro e wb ⟨⟨t,rfl⟩,bb⟩;have b2:=ba.trans (bb.mono ba.size);clear ba bb;go_wp2_with fail;go_ret2;exact ⟨by rw[HF.out];rfl,b2⟩
theorem ext4(s:ByteArray):(s.extract 0 4).data.toList=s.data.toList.take 4:=by
 rw[zd,zg];simp
theorem Z2(s:ByteArray):s.extract 4 s.size=⟨(s.data.toList.drop 4).toArray⟩:=by
 apply zj;apply zk.1;rw[zd,zg];simp;exact List.take_of_length_le j2
theorem Z3(s:ByteArray)(h:4<=s.size):((s.extract 0 4).toList==[120,110,45,45])=oT s.data.toList:=by
 rw[zi,ext4];have hl:4<=s.data.toList.length:=by simpa using h
 generalize s.data.toList=l at hl
 match l,hl with
 |a::b::c::d::r,_=>
  unfold oT xn;simp[List.isPrefixOf];rw[ze];simp;constructor
  .rintro ⟨rfl,rfl,rfl,rfl⟩;exact ⟨rfl,rfl,rfl,rfl⟩
  rintro ⟨h1,h2,h3,h4⟩;exact ⟨h1.symm,h2.symm,h3.symm,h4.symm⟩
theorem EX(s:ByteArray)(h:s.size<4):oT s.data.toList=false:=by
 cases hx:oT s.data.toList with
 |false=>rfl
 |true=>
  have:=congrArg List.length (IT hx)
  rw[za]at this;have hl:s.data.toList.length=s.size:=by simp
  simp[xn]at this;omega
theorem EY{l:List UInt8}(h:oT l=true):gK l=cL (GE (l.drop 4)):=if_pos h
theorem Z4(l:List Nat)(k:Nat)(h:k<l.length):(l.take (k+1)).all (fun c=>decide (c<128))=((l.take k).all (fun c=>decide (c<128))&&decide (l.getD k 0<128)):=by
 rw[List.take_succ_eq_append_getElem h,List.all_append];simp[List.getD,h]
theorem zW(s:ByteArray)(w:World)(hs:s.size<=1048576)(hlab:dX s.data.toList=true):Calls prog 191 #[I s] w fun e w'=>kA w w' (gK s.data.toList) e/\Below w.heap.size w w':=by
 have HO:Hid (∀W:World,(W.alloc (.cells #[] 3)).ownsRow W.heap.size 3 1 (.slice (some ⟨W.heap.size,0,none⟩) 0 0) 0 []):=fun W=>World.ownsRow_lit W #[] 0 (zm _) de rfl
 have hs':(s.size:Int)<=1048576:=om
 by_cases h4:s.size<4
 .have h4':(s.size:Int)<4:=om
  have HR:Hid (gK s.data.toList=none):=if_neg (by rw[EX s h4];decide);go_enter func191,ntmps191;go_wp2_with fail;go_ret2;rw[HR.out];exact ⟨⟨_,rfl,HO.out w⟩,(Below.refl _ _).alloc (zm _) _⟩
 have h4': ¬(s.size:Int)<4:=om;have h4n:4<=s.size:=om;have hxe:=Z3 s h4n
 cases hx:oT s.data.toList with
 |false=>
  rw[hx]at hxe;have HR:Hid (gK s.data.toList=none):=if_neg (by rw[hx];decide);clear hx;go_enter func191,ntmps191;go_wp2_with fail;go_ret2;rw[HR.out];exact ⟨⟨_,rfl,HO.out w⟩,(Below.refl _ _).alloc (zm _) _⟩
 |true=>
  rw[hx]at hxe;have HD:=fun l=> @Da s.data.toList l hx hlab
  rw[<-EY hx]at HD;have HD:Hid (∀l,gK s.data.toList=some l->(∃x∈l,128<=x)/\ ∀x∈l,¬(65<=x/\x<=90)):=HD;have CD:Hid (∀W,Calls prog 230 #[I (s.extract 4 s.size)] W fun e w'=>kA W w' (gK s.data.toList) e/\Below W.heap.size W w'):=fun W=>by
   rw[Z2 s,EY hx];exact VQ ⟨(s.data.toList.drop 4).toArray⟩ W
  clear hx;go_enter func191,ntmps191;go_wp2_with fail;refine (CD.out _).mono ?_;rintro e wa ⟨hd,ba⟩;have hsz:=ba.size
  cases hr:gK s.data.toList with
  |none=>
   rw[hr]at hd;obtain ⟨v,rfl,ov⟩:=hd;have HR:Hid (gK s.data.toList=none):=hr;clear hr HD CD
   rcases aQ ov with ⟨_,_,ao,cap,rfl⟩|⟨h,_⟩
   .go_wp2_with fail
    go_loop[6,7] (fun p i=>p=Y true/\i=.int .i64 0) (fun _ _=>0)
    case atStart=>exact ⟨rfl,rfl⟩
    obtain ⟨rfl,rfl⟩:=hrel;go_wp2_with fail;go_ret2;rw[HR.out];exact ⟨⟨_,rfl,R5 (HO.out wa) hsz⟩,ba.alloc hsz _⟩
   omega
  |some l=>
   rw[hr]at hd;obtain ⟨v,rfl,ov⟩:=hd;obtain ⟨hx1,hx2⟩:=HD.out l hr;have HR:Hid (gK s.data.toList=some l):=hr;have HX:Hid (∀x∈l,¬(65<=x/\x<=90)):=hx2;have HP:Hid (l.all (fun c=>decide (c<128))=false):=by
    obtain ⟨x,hx,h128⟩:=hx1;show _=_;rw[List.all_eq_false];exact ⟨x,hx,by simpa using h128⟩
   clear hr HD CD hx2
   rcases aQ ov with ⟨h0,_⟩|⟨_,g,cap,rfl⟩
   .obtain ⟨x,hx,_⟩:=hx1
    have:l=[]:=List.eq_nil_of_length_eq_zero h0
    rw[this]at hx;simp at hx
   clear hx1;have hll:l.length<=1048576:=by
    obtain ⟨hok,_⟩:=(qJ _ _).1 ((EY (by cases h:oT s.data.toList with|true=>rfl|false=>have h2:=HR.out;unfold gK at h2;rw[h]at h2;simp at h2)).symm.trans HR.out)
    have:=(bI hok).1
    omega
   have HC:Hid (∀j,j<l.length->wa.cell? ⟨g,j,none⟩=some (.int .i64 (l.getD j 0:Nat))):=fun j hj=>jZ ov j hj
   have HV:Hid (wa.ownsRow w.heap.size 3 1 (.slice (some ⟨g,0,none⟩) l.length cap) l.length (icN l)):=ov;clear ov;go_wp2_with fail
   go_loop[6,7] (fun p i=> ∃k:Nat,k<=l.length/\p=Y ((l.take k).all (fun c=>decide (c<128)))/\i=.int .i64 k) (fun _ i=>l.length-(intOf i).toNat)
   case atStart=>exact ⟨0,zl _,rfl,rfl⟩
   obtain ⟨k,hk,rfl,rfl⟩:=hrel
   by_cases hlt:k<l.length
   .have hc:=HC.out k hlt
    have HS:Hid ((l.take (k+1)).all (fun c=>decide (c<128))=((l.take k).all (fun c=>decide (c<128))&&decide (l.getD k 0<128))):=Z4 l k hlt;have HN:Hid (¬(65<=l.getD k 0/\l.getD k 0<=90)):=HX.out _ (by rw[List.getD_eq_getElem?_getD,List.getElem?_eq_getElem hlt];exact List.getElem_mem hlt);obtain ⟨y,hy⟩: ∃y,l.getD k 0=y:=⟨_,rfl⟩;rw[hy]at hc HS HN;generalize (l.take k).all (fun c=>decide (c<128))=b at HS;have hkl:(k:Int)<l.length:=om;clear hy;have CI:Hid (∀W,CS 39 #[.int .i64 (y:Int),.int .i64 65,.int .i64 90] W (Y false)):=fun W=>iC _ _ _ W (by have:=HN.out;omega)
    cases b with
    |false=>
     go_wp2_with fail;refine (CI.out _).mono ?_;rintro e w' ⟨rfl,rfl⟩;go_wp2_with fail;go_round
     case rel=>exact ⟨k+1,om,by rw[HS.out];rfl,gn⟩
     case measure=>exact j1
    |true=>
     go_wp2_with fail;refine (CI.out _).mono ?_;rintro e w' ⟨rfl,rfl⟩;go_wp2_with fail;go_round
     case rel=>exact ⟨k+1,om,by rw[HS.out];simp;omega,gn⟩
     case measure=>exact j1
   have hks:k=l.length:=om;have HB:(l.take k).all (fun c=>decide (c<128))=false:=by rw[hks,List.take_length];exact HP.out
   rw[HB];clear HB;subst hks;go_wp2_with fail;go_ret2;rw[HR.out];exact ⟨⟨_,rfl,HV.out⟩,ba⟩
theorem sE(s:ByteArray)(w:World)(hs:s.size<=1048576):Calls prog 137 #[I s] w fun e w'=>e=J (dT (eV s.data.toList))/\Below w.heap.size w w':=by
 have CLo:Hid (CB 52 #[I s] w (I ⟨(aF s.data.toList).toArray⟩)):=ZI s w hs;have hls:=rT s;have HLS:Hid ((⟨(aF s.data.toList).toArray⟩:ByteArray).size<=1048576):=by show _<=_;omega
 have CA:Hid (∀W,CS 187 #[I s] W (Y (fE s.data.toList))):=fun W=>A0 s W (by unfold maxLen;omega)
 cases ha:fE s.data.toList with
 |true=>
  rw[ha]at CA;have HAS:Hid (eV s.data.toList=if okA (aF s.data.toList)=true then some (aF s.data.toList)else none):=DR ha;clear ha hls;generalize aF s.data.toList=t at CLo HAS HLS;go_enter func137,ntmps137;go_wp2_with fail;refine CLo.out.mono ?_;rintro e wa ⟨rfl,ba⟩;go_wp2_with fail;refine (CA.out _).mono ?_;rintro e w' ⟨rfl,rfl⟩;have HK:=xG t;have hzm:(⟨t.toArray⟩:ByteArray).size<=1048576:=HLS.out;obtain ⟨S,hS⟩: ∃S:ByteArray,S=⟨t.toArray⟩:=⟨_,rfl⟩;have hSt:S.data.toList=t:=by rw[hS]
  rw[<-hS]at hzm;rw[<-hSt]at HK;have HSS:Hid (S=⟨t.toArray⟩):=hS;have HST:Hid (S.data.toList=t):=hSt;rw[<-hS];clear hS hSt
  cases hl:dX S.data.toList with
  |false=>
   have HF:Hid (dT (eV s.data.toList)=L #[I ⟨#[]⟩,Y false]):=sD HAS.out (by rw[<-HST.out,HK,hl];rfl);have CL:Hid (∀W,CS 190 #[I S] W (Y false)):=fun W=>by
    have h:=oJ S W (by unfold maxLen;omega);rw[hl]at h;exact h
   clear HK hl
   try go_wp2_with fail
   refine (CL.out _).mono ?_;rintro e w' ⟨rfl,rfl⟩;go_wp2_with fail;go_ret2;exact ⟨by rw[HF.out];rfl,ba⟩
  |true=>
   have CL:Hid (∀W,CS 190 #[I S] W (Y true)):=fun W=>by
    have h:=oJ S W (by unfold maxLen;omega);rw[hl]at h;exact h
   have CK:Hid (∀W,Calls prog 191 #[I S] W fun e w'=>kA W w' (gK S.data.toList) e/\Below W.heap.size W w'):=fun W=>zW S W hzm hl
   rw[hl]at HK
   by_cases h4:S.size<4
   .have h4': ¬4<=(S.size:Int):=om
    have HF:Hid (dT (eV s.data.toList)=L #[I S,Y true]):=by
     show _=_;rw[HSS.out];exact oL HAS.out (by rw[<-HST.out,HK,EX S h4];rfl)
    clear HK hl
    try go_wp2_with fail
    refine (CL.out _).mono ?_;rintro e w' ⟨rfl,rfl⟩;go_wp2_with fail;go_ret2;exact ⟨by rw[HF.out];rfl,ba⟩
   have h4':4<=(S.size:Int):=om;have hxe:=Z3 S om
   cases hx:oT S.data.toList with
   |false=>
    rw[hx]at hxe;have HF:Hid (dT (eV s.data.toList)=L #[I S,Y true]):=by
     show _=_;rw[HSS.out];exact oL HAS.out (by rw[<-HST.out,HK,hx];rfl)
    clear HK hl hx
    try go_wp2_with fail
    refine (CL.out _).mono ?_;rintro e w' ⟨rfl,rfl⟩;go_wp2_with fail;go_ret2;exact ⟨by rw[HF.out];rfl,ba⟩
   |true=>
    rw[hx]at hxe
    cases hr:gK S.data.toList with
    |none=>
     have HF:Hid (dT (eV s.data.toList)=L #[I ⟨#[]⟩,Y false]):=sD HAS.out (by rw[<-HST.out,HK,hx,hr];rfl);rw[hr]at CK;clear HK hl hx hr
     try go_wp2_with fail
     refine (CL.out _).mono ?_;rintro e w' ⟨rfl,rfl⟩;go_wp2_with fail;refine (CK.out _).mono ?_;rintro e wz ⟨⟨v,rfl,_⟩,bz⟩;have B:=ba.trans (bz.mono ba.size);clear bz;go_wp2_with fail;go_ret2;exact ⟨by rw[HF.out];rfl,B⟩
    |some l=>
     have HF:Hid (dT (eV s.data.toList)=L #[I S,Y true]):=by
      show _=_;rw[HSS.out];exact oL HAS.out (by rw[<-HST.out,HK,hx,hr];rfl)
     rw[hr]at CK;clear HK hl hx hr
     try go_wp2_with fail
     refine (CL.out _).mono ?_;rintro e w' ⟨rfl,rfl⟩;go_wp2_with fail;refine (CK.out _).mono ?_;rintro e wz ⟨⟨v,rfl,_⟩,bz⟩;have B:=ba.trans (bz.mono ba.size);clear bz;go_wp2_with fail;go_ret2;exact ⟨by rw[HF.out];rfl,B⟩
 |false=>
  rw[ha]at CA;have hz:(⟨(aF s.data.toList).toArray⟩:ByteArray).size=s.data.toList.length:=by rw[rT];simp
  have CR:Hid (∀W,Calls prog 188 #[I ⟨(aF s.data.toList).toArray⟩] W fun e w'=>pQ ⟨(aF s.data.toList).toArray⟩ W e w'):=fun W=>F6 _ W HLS.out
  by_cases hy1:(cF ⟨(aF s.data.toList).toArray⟩).1=(⟨(aF s.data.toList).toArray⟩:ByteArray).size
  .have HAO:=sZ _ hy1
   have hfl:=MX ⟨(aF s.data.toList).toArray⟩;have HEN:Hid (∀(W:World) (v:Value) (B:Nat),W.ownsRow B 3 1 v (cF ⟨(aF s.data.toList).toArray⟩).2.length (aL (cF ⟨(aF s.data.toList).toArray⟩).2)->CB 189 #[v] W (nM (cF ⟨(aF s.data.toList).toArray⟩).2)):=
    fun W v B h=>xD _ v B W HAO om h
   by_cases hy2:(cF ⟨(aF s.data.toList).toArray⟩).2.length<=60
   .have HAS0:=PI ha ⟨hy1.trans hz,hy2⟩
    have e1:nM (cF ⟨(aF s.data.toList).toArray⟩).2=L #[I ⟨(b8 (bC ((cF ⟨(aF s.data.toList).toArray⟩).2.map zh))).toArray⟩,Y true]:=if_pos hy2;rw[e1]at HEN;have HN:=wA (pR HAO hy2);generalize bC ((cF ⟨(aF s.data.toList).toArray⟩).2.map zh)=q at HAS0 HEN HN;have HX:Hid ((⟨#[120,110,45,45]⟩:ByteArray)++⟨(b8 q).toArray⟩=⟨(xn++b8 q).toArray⟩):=by
     show _=_;apply zj;rw[ByteArray.data_append];apply zk.1;simp[xn]
    have hzq:(⟨(b8 q).toArray⟩:ByteArray).size<=600:=by
     show (b8 q).toArray.size<=600;rw[zc,sT];exact HN
    obtain ⟨T,hTT⟩: ∃T:ByteArray,⟨(b8 q).toArray⟩=T:=⟨_,rfl⟩;have HM2:Hid (zf ⟨(xn++b8 q).toArray⟩<=1048576):=by
     show (xn++b8 q).toArray.size<=1048576;rw[zc,za,sT];simp[xn];omega
    have HAS:Hid (eV s.data.toList=if okA (xn++b8 q)=true then some (xn++b8 q)else none):=HAS0;clear HAS0;generalize xn++b8 q=t at HAS HM2 HX;rw[hTT]at HEN HX hzq;have HY1:Hid ((cF ⟨(aF s.data.toList).toArray⟩).1=(⟨(aF s.data.toList).toArray⟩:ByteArray).size):=hy1;clear ha hy1 hy2 hz HN HAO hfl hls e1 hTT;go_enter func137,ntmps137;go_wp2_with fail;refine CLo.out.mono ?_;rintro e wa ⟨rfl,ba⟩;go_wp2_with fail;refine (CA.out _).mono ?_;rintro e w' ⟨rfl,rfl⟩;go_wp2_with fail;refine (CR.out _).mono ?_;rintro e wb (⟨_,vb,rfl,ob,bb⟩|⟨hn,_⟩)
    .go_wp2_with fail
     refine (HEN.out _ _ _ ob).mono ?_;rintro e wc ⟨rfl,bc⟩;have b2:=ba.trans (bb.mono ba.size);have b3:=b2.trans (bc.mono b2.size);clear ba bb ob b2 bc;go_wp2_with fail;rw[HX.out];have HK:=xG t;have hzm:(⟨t.toArray⟩:ByteArray).size<=1048576:=HM2.out;obtain ⟨S,hS⟩: ∃S:ByteArray,S=⟨t.toArray⟩:=⟨_,rfl⟩;have hSt:S.data.toList=t:=by rw[hS]
     rw[<-hS]at hzm;rw[<-hSt]at HK;have HSS:Hid (S=⟨t.toArray⟩):=hS;have HST:Hid (S.data.toList=t):=hSt;rw[<-hS];clear hS hSt
     cases hl:dX S.data.toList with
     |false=>
      have HF:Hid (dT (eV s.data.toList)=L #[I ⟨#[]⟩,Y false]):=sD HAS.out (by rw[<-HST.out,HK,hl];rfl);have CL:Hid (∀W,CS 190 #[I S] W (Y false)):=fun W=>by
       have h:=oJ S W (by unfold maxLen;omega);rw[hl]at h;exact h
      clear HK hl
      try go_wp2_with fail
      refine (CL.out _).mono ?_;rintro e w' ⟨rfl,rfl⟩;go_wp2_with fail;go_ret2;exact ⟨by rw[HF.out];rfl,b3⟩
     |true=>
      have CL:Hid (∀W,CS 190 #[I S] W (Y true)):=fun W=>by
       have h:=oJ S W (by unfold maxLen;omega);rw[hl]at h;exact h
      have CK:Hid (∀W,Calls prog 191 #[I S] W fun e w'=>kA W w' (gK S.data.toList) e/\Below W.heap.size W w'):=fun W=>zW S W hzm hl
      rw[hl]at HK
      by_cases h4:S.size<4
      .have h4': ¬4<=(S.size:Int):=om
       have HF:Hid (dT (eV s.data.toList)=L #[I S,Y true]):=by
        show _=_;rw[HSS.out];exact oL HAS.out (by rw[<-HST.out,HK,EX S h4];rfl)
       clear HK hl
       try go_wp2_with fail
       refine (CL.out _).mono ?_;rintro e w' ⟨rfl,rfl⟩;go_wp2_with fail;go_ret2;exact ⟨by rw[HF.out];rfl,b3⟩
      have h4':4<=(S.size:Int):=om;have hxe:=Z3 S om
      cases hx:oT S.data.toList with
      |false=>
       rw[hx]at hxe;have HF:Hid (dT (eV s.data.toList)=L #[I S,Y true]):=by
        show _=_;rw[HSS.out];exact oL HAS.out (by rw[<-HST.out,HK,hx];rfl)
       clear HK hl hx
       try go_wp2_with fail
       refine (CL.out _).mono ?_;rintro e w' ⟨rfl,rfl⟩;go_wp2_with fail;go_ret2;exact ⟨by rw[HF.out];rfl,b3⟩
      |true=>
       rw[hx]at hxe
       cases hr:gK S.data.toList with
       |none=>
        have HF:Hid (dT (eV s.data.toList)=L #[I ⟨#[]⟩,Y false]):=sD HAS.out (by rw[<-HST.out,HK,hx,hr];rfl);rw[hr]at CK;clear HK hl hx hr
        try go_wp2_with fail
        refine (CL.out _).mono ?_;rintro e w' ⟨rfl,rfl⟩;go_wp2_with fail;refine (CK.out _).mono ?_;rintro e wz ⟨⟨v,rfl,_⟩,bz⟩;have B:=b3.trans (bz.mono b3.size);clear bz;go_wp2_with fail;go_ret2;exact ⟨by rw[HF.out];rfl,B⟩
       |some l=>
        have HF:Hid (dT (eV s.data.toList)=L #[I S,Y true]):=by
         show _=_;rw[HSS.out];exact oL HAS.out (by rw[<-HST.out,HK,hx,hr];rfl)
        rw[hr]at CK;clear HK hl hx hr
        try go_wp2_with fail
        refine (CL.out _).mono ?_;rintro e w' ⟨rfl,rfl⟩;go_wp2_with fail;refine (CK.out _).mono ?_;rintro e wz ⟨⟨v,rfl,_⟩,bz⟩;have B:=b3.trans (bz.mono b3.size);clear bz;go_wp2_with fail;go_ret2;exact ⟨by rw[HF.out];rfl,B⟩
    exact absurd HY1.out hn
   have HF:Hid (dT (eV s.data.toList)=L #[I ⟨#[]⟩,Y false]):=by show _=_;rw[LR ha (fun h=>hy2 h.2)];rfl
   have e1:nM (cF ⟨(aF s.data.toList).toArray⟩).2=L #[I ⟨#[]⟩,Y false]:=if_neg hy2;rw[e1]at HEN;have HY1:Hid ((cF ⟨(aF s.data.toList).toArray⟩).1=(⟨(aF s.data.toList).toArray⟩:ByteArray).size):=hy1;clear ha hy1 hy2 hz HAO hfl hls e1;go_enter func137,ntmps137;go_wp2_with fail;refine CLo.out.mono ?_;rintro e wa ⟨rfl,ba⟩;go_wp2_with fail;refine (CA.out _).mono ?_;rintro e w' ⟨rfl,rfl⟩;go_wp2_with fail;refine (CR.out _).mono ?_;rintro e wb (⟨_,vb,rfl,ob,bb⟩|⟨hn,_⟩)
   .go_wp2_with fail
    refine (HEN.out _ _ _ ob).mono ?_;rintro e wc ⟨rfl,bc⟩;have b2:=ba.trans (bb.mono ba.size);have b3:=b2.trans (bc.mono b2.size);clear ba bb ob b2 bc;go_wp2_with fail;go_ret2;exact ⟨by rw[HF.out];rfl,b3⟩
   exact absurd HY1.out hn
  have HF:Hid (dT (eV s.data.toList)=L #[I ⟨#[]⟩,Y false]):=by show _=_;rw[LR ha (fun h=>hy1 (h.1.trans hz.symm))];rfl
  have HEN:Hid (∀(W:World) (v:Value) (B:Nat),W.ownsRow B 3 1 v 0 (aL [])->CB 189 #[v] W (L #[I ⟨(b8 (bC [])).toArray⟩,Y true])):=
   fun W v B h=>xD [] v B W (fun r hr=>by simp at hr) de h
  have HY1:Hid (¬(cF ⟨(aF s.data.toList).toArray⟩).1=(⟨(aF s.data.toList).toArray⟩:ByteArray).size):=hy1;clear ha hy1 hz hls;go_enter func137,ntmps137;go_wp2_with fail;refine CLo.out.mono ?_;rintro e wa ⟨rfl,ba⟩;go_wp2_with fail;refine (CA.out _).mono ?_;rintro e w' ⟨rfl,rfl⟩;go_wp2_with fail;refine (CR.out _).mono ?_;rintro e wb (⟨hn,_⟩|⟨_,vb,rfl,ob,bb⟩)
  .exact absurd hn HY1.out
  go_wp2_with fail;refine (HEN.out _ _ _ ob).mono ?_;rintro e wc ⟨rfl,bc⟩;have b2:=ba.trans (bb.mono ba.size);have b3:=b2.trans (bc.mono b2.size);clear ba bb ob b2 bc;go_wp2_with fail;go_ret2;exact ⟨by rw[HF.out];rfl,b3⟩
