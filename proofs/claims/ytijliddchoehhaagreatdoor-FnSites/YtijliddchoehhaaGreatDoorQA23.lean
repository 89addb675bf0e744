/- AscImpl, AscSpec. -/
import Derived.Test.YtijliddchoehhaaGreatDoorQA22
set_option maxHeartbeats 2000000
namespace Go.Proofs.YtijliddchoehhaaGreatDoor
open Go.RowKit
theorem okA_code(t:List UInt8):okA t=(labL t&&(!(isXn t)||(codeR t).isSome)):=by
 unfold okA codeR
 cases isXn t<;>simp
theorem ans_yes{o:Option (List UInt8)}{t:List UInt8}(h:o=if okA t=true then some t else none)(h1:okA t=true):ansS o=.tuple #[.string ⟨t.toArray⟩,.bool true]:=by
 rw[h,if_pos h1];rfl
theorem ans_no{o:Option (List UInt8)}{t:List UInt8}(h:o=if okA t=true then some t else none)(h1:okA t=false):ansS o=.tuple #[.string ⟨#[]⟩,.bool false]:=by
 rw[h,if_neg (by rw[h1];decide)];rfl
theorem implToAscii(s:ByteArray)(w:World)(hs:s.size≤1048576)(hT:Lib.Utf8Tabs 2 3 w):
  Calls Tryz.prog 87 #[.string s] w fun e w'=>e=.returned (ansS (ascL s.data.toList))∧Below w.heap.size w w':=by
 have CLo:Hid (CB 104 #[.string s] w (.string ⟨(lowerL s.data.toList).toArray⟩)):=implLower s w hs
 have hls:=low_size s
 have HLS:Hid ((⟨(lowerL s.data.toList).toArray⟩:ByteArray).size≤1048576):=by show _≤_;omega
 have HTT:Hid (Lib.Utf8Tabs 2 3 w):=hT
 have HM:Hid (ByteArray.size ⟨(lowerL s.data.toList).toArray⟩≤maxLen):=by show _≤_;unfold maxLen;omega
 have CA:Hid (∀W,CS 105 #[.string ⟨(lowerL s.data.toList).toArray⟩] W (.bool (asciiB s.data.toList))):=fun W=>by
  have h:=implAscii ⟨(lowerL s.data.toList).toArray⟩ W HM.out
  rw[show asciiB (⟨(lowerL s.data.toList).toArray⟩:ByteArray).data.toList=asciiB (lowerL s.data.toList) from rfl,lower_ascii]at h
  exact h
 clear hT hls
 cases ha:asciiB s.data.toList with
 |true=>
  rw[ha]at CA
  have HAS:Hid (ascL s.data.toList=if okA (lowerL s.data.toList)=true then some (lowerL s.data.toList)else none):=asc1_ascii ha
  clear ha
  generalize lowerL s.data.toList=t at CLo CA HAS HM HLS
  go_enter Tryz.func87,Tryz.ntmps87
  go_wp2_with fail
  refine CLo.out.mono ?_
  rintro e wa ⟨rfl,ba⟩
  go_wp2_with fail
  refine (CA.out _).mono ?_
  rintro e w' ⟨rfl,rfl⟩
  have HK:=okA_code t
  have hzz:(⟨t.toArray⟩:ByteArray).size≤maxLen:=HM.out
  cases hl:labL t with
  |false=>
   have HF:Hid (ansS (ascL s.data.toList)=.tuple #[.string ⟨#[]⟩,.bool false]):=ans_no HAS.out (by rw[HK,hl];rfl)
   have CL:Hid (∀W,CS 107 #[.string ⟨t.toArray⟩] W (.bool false)):=fun W=>by
    have h:=implLabelOk ⟨t.toArray⟩ W hzz
    rw[show labL (⟨t.toArray⟩:ByteArray).data.toList=labL t from rfl,hl]at h
    exact h
   clear HK hl hzz
   go_wp2_with fail
   refine (CL.out _).mono ?_
   rintro e w' ⟨rfl,rfl⟩
   go_wp2_with fail
   go_ret2
   exact ⟨by rw[HF.out];rfl,ba⟩
  |true=>
   have CL:Hid (∀W,CS 107 #[.string ⟨t.toArray⟩] W (.bool true)):=fun W=>by
    have h:=implLabelOk ⟨t.toArray⟩ W hzz
    rw[show labL (⟨t.toArray⟩:ByteArray).data.toList=labL t from rfl,hl]at h
    exact h
   have CC:=fun W=>implCodeOk ⟨t.toArray⟩ W
   have CK:Hid (∀W,CB 108 #[.string ⟨t.toArray⟩] W (.bool (okA t))):=fun W=>by
    rw[HK,hl]
    exact CC W
   clear HK hl hzz CC
   cases ho:okA t with
   |false=>
    have HF:Hid (ansS (ascL s.data.toList)=.tuple #[.string ⟨#[]⟩,.bool false]):=ans_no HAS.out ho
    rw[ho]at CK
    clear ho
    go_wp2_with fail
    refine (CL.out _).mono ?_
    rintro e w' ⟨rfl,rfl⟩
    go_wp2_with fail
    refine (CK.out _).mono ?_
    rintro e wz ⟨rfl,bz⟩
    have B:=ba.trans (bz.mono ba.size)
    clear bz
    go_wp2_with fail
    go_ret2
    exact ⟨by rw[HF.out];rfl,B⟩
   |true=>
    have HF:Hid (ansS (ascL s.data.toList)=.tuple #[.string ⟨t.toArray⟩,.bool true]):=ans_yes HAS.out ho
    rw[ho]at CK
    clear ho
    go_wp2_with fail
    refine (CL.out _).mono ?_
    rintro e w' ⟨rfl,rfl⟩
    go_wp2_with fail
    refine (CK.out _).mono ?_
    rintro e wz ⟨rfl,bz⟩
    have B:=ba.trans (bz.mono ba.size)
    clear bz
    go_wp2_with fail
    go_ret2
    exact ⟨by rw[HF.out];rfl,B⟩
 |false=>
  rw[ha]at CA
  by_cases hy:(finR ⟨(lowerL s.data.toList).toArray⟩).1=s.data.toList.length∧(finR ⟨(lowerL s.data.toList).toArray⟩).2.length≤60
  ·have hz:(⟨(lowerL s.data.toList).toArray⟩:ByteArray).size=s.data.toList.length:=by rw[low_size];simp
   have hy1:(finR ⟨(lowerL s.data.toList).toArray⟩).1=(⟨(lowerL s.data.toList).toArray⟩:ByteArray).size:=hy.1.trans hz.symm
   have CC:Hid (∀W,Lib.Utf8Tabs 2 3 W→CB 106 #[.string ⟨(lowerL s.data.toList).toArray⟩] W (.tuple #[.string ⟨(xn++b8 (encC ((finR ⟨(lowerL s.data.toList).toArray⟩).2.map Int.toNat))).toArray⟩,.bool true])):=
    fun W hT=>implCodeLabel_yes _ W HLS.out hT hy1 hy.2
   have HAS:=asc1_yes ha hy
   have HN:(xn++b8 (encC ((finR ⟨(lowerL s.data.toList).toArray⟩).2.map Int.toNat))).length≤604:=by
    rw[List.length_append,b8_length]
    have:=encC_600 (encOk_yes (fin_allOk _ hy1) hy.2)
    simp[xn]
    omega
   generalize xn++b8 (encC ((finR ⟨(lowerL s.data.toList).toArray⟩).2.map Int.toNat))=t at CC HAS HN
   have HAS:Hid (ascL s.data.toList=if okA t=true then some t else none):=HAS
   have HM2:Hid (ByteArray.size ⟨t.toArray⟩≤maxLen):=by
    show t.toArray.size≤maxLen
    rw[List.size_toArray]
    unfold maxLen
    omega
   clear ha hy hy1 hz HN
   go_enter Tryz.func87,Tryz.ntmps87
   go_wp2_with fail
   refine CLo.out.mono ?_
   rintro e wa ⟨rfl,ba⟩
   go_wp2_with fail
   refine (CA.out _).mono ?_
   rintro e w' ⟨rfl,rfl⟩
   go_wp2_with fail
   refine (CC.out _ (tabs_below HTT.out ba)).mono ?_
   rintro e wb ⟨rfl,bb⟩
   have b2:=ba.trans (bb.mono ba.size)
   clear ba bb
   have HK:=okA_code t
   have hzz:(⟨t.toArray⟩:ByteArray).size≤maxLen:=HM2.out
   cases hl:labL t with
   |false=>
    have HF:Hid (ansS (ascL s.data.toList)=.tuple #[.string ⟨#[]⟩,.bool false]):=ans_no HAS.out (by rw[HK,hl];rfl)
    have CL:Hid (∀W,CS 107 #[.string ⟨t.toArray⟩] W (.bool false)):=fun W=>by
     have h:=implLabelOk ⟨t.toArray⟩ W hzz
     rw[show labL (⟨t.toArray⟩:ByteArray).data.toList=labL t from rfl,hl]at h
     exact h
    clear HK hl hzz
    go_wp2_with fail
    refine (CL.out _).mono ?_
    rintro e w' ⟨rfl,rfl⟩
    go_wp2_with fail
    go_ret2
    exact ⟨by rw[HF.out];rfl,b2⟩
   |true=>
    have CL:Hid (∀W,CS 107 #[.string ⟨t.toArray⟩] W (.bool true)):=fun W=>by
     have h:=implLabelOk ⟨t.toArray⟩ W hzz
     rw[show labL (⟨t.toArray⟩:ByteArray).data.toList=labL t from rfl,hl]at h
     exact h
    have CC:=fun W=>implCodeOk ⟨t.toArray⟩ W
    have CK:Hid (∀W,CB 108 #[.string ⟨t.toArray⟩] W (.bool (okA t))):=fun W=>by
     rw[HK,hl]
     exact CC W
    clear HK hl hzz CC
    cases ho:okA t with
    |false=>
     have HF:Hid (ansS (ascL s.data.toList)=.tuple #[.string ⟨#[]⟩,.bool false]):=ans_no HAS.out ho
     rw[ho]at CK
     clear ho
     go_wp2_with fail
     refine (CL.out _).mono ?_
     rintro e w' ⟨rfl,rfl⟩
     go_wp2_with fail
     refine (CK.out _).mono ?_
     rintro e wz ⟨rfl,bz⟩
     have B:=b2.trans (bz.mono b2.size)
     clear bz
     go_wp2_with fail
     go_ret2
     exact ⟨by rw[HF.out];rfl,B⟩
    |true=>
     have HF:Hid (ansS (ascL s.data.toList)=.tuple #[.string ⟨t.toArray⟩,.bool true]):=ans_yes HAS.out ho
     rw[ho]at CK
     clear ho
     go_wp2_with fail
     refine (CL.out _).mono ?_
     rintro e w' ⟨rfl,rfl⟩
     go_wp2_with fail
     refine (CK.out _).mono ?_
     rintro e wz ⟨rfl,bz⟩
     have B:=b2.trans (bz.mono b2.size)
     clear bz
     go_wp2_with fail
     go_ret2
     exact ⟨by rw[HF.out];rfl,B⟩
  have hz:(⟨(lowerL s.data.toList).toArray⟩:ByteArray).size=s.data.toList.length:=by rw[low_size];simp
  have CC:Hid (∀W,Lib.Utf8Tabs 2 3 W→Calls Tryz.prog 106 #[.string ⟨(lowerL s.data.toList).toArray⟩] W fun e w'=>(∃t:ByteArray,e=.returned (.tuple #[.string t,.bool false]))∧Below W.heap.size W w'):=
   fun W hT=>implCodeLabel_no _ W HLS.out hT (by rw[hz];exact hy)
  have HF:Hid (ansS (ascL s.data.toList)=.tuple #[.string ⟨#[]⟩,.bool false]):=by show _=_;rw[asc1_no ha hy];rfl
  clear ha hy hz
  go_enter Tryz.func87,Tryz.ntmps87
  go_wp2_with fail
  refine CLo.out.mono ?_
  rintro e wa ⟨rfl,ba⟩
  go_wp2_with fail
  refine (CA.out _).mono ?_
  rintro e w' ⟨rfl,rfl⟩
  go_wp2_with fail
  refine (CC.out _ (tabs_below HTT.out ba)).mono ?_
  rintro e wb ⟨⟨t,rfl⟩,bb⟩
  have b2:=ba.trans (bb.mono ba.size)
  clear ba bb
  go_wp2_with fail
  go_ret2
  exact ⟨by rw[HF.out];rfl,b2⟩
theorem ext4(s:ByteArray):(s.extract 0 4).data.toList=s.data.toList.take 4:=by
 rw[ByteArray.data_extract,Array.toList_extract]
 simp
theorem ext_from(s:ByteArray):s.extract 4 s.size=⟨(s.data.toList.drop 4).toArray⟩:=by
 apply ByteArray.ext
 apply Array.toList_inj.1
 rw[ByteArray.data_extract,Array.toList_extract]
 simp
 exact List.take_of_length_le (by simp)
theorem xn_eq(s:ByteArray)(h:4≤s.size):((s.extract 0 4).toList==[120,110,45,45])=isXn s.data.toList:=by
 rw[ByteArray.toList_eq,ext4]
 have hl:4≤s.data.toList.length:=by simpa using h
 generalize s.data.toList=l at hl
 match l,hl with
 |a::b::c::d::r,_=>
  unfold isXn xn
  simp[List.isPrefixOf]
  rw[Bool.eq_iff_iff]
  simp
  constructor
  ·rintro ⟨rfl,rfl,rfl,rfl⟩;exact ⟨rfl,rfl,rfl,rfl⟩
  rintro ⟨h1,h2,h3,h4⟩;exact ⟨h1.symm,h2.symm,h3.symm,h4.symm⟩
theorem xn_short(s:ByteArray)(h:s.size<4):isXn s.data.toList=false:=by
 cases hx:isXn s.data.toList with
 |false=>rfl
 |true=>
  have:=congrArg List.length (xn_prefix hx)
  rw[List.length_append]at this
  have hl:s.data.toList.length=s.size:=by simp
  simp[xn]at this
  omega
theorem codeR_xn{l:List UInt8}(h:isXn l=true):codeR l=decC (nat8 (l.drop 4)):=if_pos h
theorem all_take(l:List Nat)(k:Nat)(h:k<l.length):(l.take (k+1)).all (fun c=>decide (c<128))=((l.take k).all (fun c=>decide (c<128))&&decide (l.getD k 0<128)):=by
 rw[List.take_succ_eq_append_getElem h,List.all_append]
 simp[List.getD,h]
theorem specL4Coded(s:ByteArray)(w:World)(hs:s.size≤1048576)(hlab:labL s.data.toList=true):
  Calls Tryz.prog 112 #[.string s] w fun e w'=>decAns w w' (codeR s.data.toList) e∧Below w.heap.size w w':=by
 have HO:Hid (∀W:World,(W.alloc (.cells #[] 3)).ownsRow W.heap.size 3 1 (.slice (some ⟨W.heap.size,0,none⟩) 0 0) 0 []):=fun W=>World.ownsRow_lit W #[] 0 (Nat.le_refl _) (by decide) rfl
 have hs':(s.size:Int)≤1048576:=by omega
 by_cases h4:s.size<4
 ·have h4':(s.size:Int)<4:=by omega
  have HR:Hid (codeR s.data.toList=none):=if_neg (by rw[xn_short s h4];decide)
  go_enter Tryz.func112,Tryz.ntmps112
  go_wp2_with fail
  go_ret2
  rw[HR.out]
  exact ⟨⟨_,rfl,HO.out w⟩,(Below.refl _ _).alloc (Nat.le_refl _) _⟩
 have h4': ¬(s.size:Int)<4:=by omega
 have h4n:4≤s.size:=by omega
 have hxe:=xn_eq s h4n
 cases hx:isXn s.data.toList with
 |false=>
  rw[hx]at hxe
  have HR:Hid (codeR s.data.toList=none):=if_neg (by rw[hx];decide)
  clear hx
  go_enter Tryz.func112,Tryz.ntmps112
  go_wp2_with fail
  go_ret2
  rw[HR.out]
  exact ⟨⟨_,rfl,HO.out w⟩,(Below.refl _ _).alloc (Nat.le_refl _) _⟩
 |true=>
  rw[hx]at hxe
  have HD:=fun l=> @dec_lab s.data.toList l hx hlab
  rw[←codeR_xn hx]at HD
  have HD:Hid (∀l,codeR s.data.toList=some l→(∃x∈l,128≤x)∧ ∀x∈l,¬(65≤x∧x≤90)):=HD
  have CD:Hid (∀W,Calls Tryz.prog 130 #[.string (s.extract 4 s.size)] W fun e w'=>decAns W w' (codeR s.data.toList) e∧Below W.heap.size W w'):=fun W=>by
   rw[ext_from s,codeR_xn hx]
   exact specDecAll ⟨(s.data.toList.drop 4).toArray⟩ W
  clear hx
  go_enter Tryz.func112,Tryz.ntmps112
  go_wp2_with fail
  refine (CD.out _).mono ?_
  rintro e wa ⟨hd,ba⟩
  have hsz:=ba.size
  cases hr:codeR s.data.toList with
  |none=>
   rw[hr]at hd
   obtain ⟨v,rfl,ov⟩:=hd
   have HR:Hid (codeR s.data.toList=none):=hr
   clear hr HD CD
   rcases own_shape ov with ⟨_,_,ao,cap,rfl⟩|⟨h,_⟩
   ·go_wp2_with fail
    go_loop[6,7] (fun p i=>p=.bool true∧i=.int .i64 0) (fun _ _=>0)
    case atStart=>exact ⟨rfl,rfl⟩
    obtain ⟨rfl,rfl⟩:=hrel
    go_wp2_with fail
    go_ret2
    rw[HR.out]
    exact ⟨⟨_,rfl,own_base (HO.out wa) hsz⟩,ba.alloc hsz _⟩
   omega
  |some l=>
   rw[hr]at hd
   obtain ⟨v,rfl,ov⟩:=hd
   obtain ⟨hx1,hx2⟩:=HD.out l hr
   have HR:Hid (codeR s.data.toList=some l):=hr
   have HX:Hid (∀x∈l,¬(65≤x∧x≤90)):=hx2
   have HP:Hid (l.all (fun c=>decide (c<128))=false):=by
    obtain ⟨x,hx,h128⟩:=hx1
    show _=_
    rw[List.all_eq_false]
    exact ⟨x,hx,by simpa using h128⟩
   clear hr HD CD hx2
   rcases own_shape ov with ⟨h0,_⟩|⟨_,g,cap,rfl⟩
   ·obtain ⟨x,hx,_⟩:=hx1
    have:l=[]:=List.eq_nil_of_length_eq_zero h0
    rw[this]at hx
    simp at hx
   clear hx1
   have hll:l.length≤1048576:=by
    obtain ⟨hok,_⟩:=(dec_iff _ _).1 ((codeR_xn (by cases h:isXn s.data.toList with|true=>rfl|false=>have h2:=HR.out;unfold codeR at h2;rw[h]at h2;simp at h2)).symm.trans HR.out)
    have:=(encOk_parts hok).1
    omega
   have HC:Hid (∀j,j<l.length→wa.cell? ⟨g,j,none⟩=some (.int .i64 (l.getD j 0:Nat))):=fun j hj=>icN_at ov j hj
   have HV:Hid (wa.ownsRow w.heap.size 3 1 (.slice (some ⟨g,0,none⟩) l.length cap) l.length (icN l)):=ov
   clear ov
   go_wp2_with fail
   go_loop[6,7] (fun p i=> ∃k:Nat,k≤l.length∧p=.bool ((l.take k).all (fun c=>decide (c<128)))∧i=.int .i64 k) (fun _ i=>l.length-(intOf i).toNat)
   case atStart=>exact ⟨0,Nat.zero_le _,rfl,rfl⟩
   obtain ⟨k,hk,rfl,rfl⟩:=hrel
   by_cases hlt:k<l.length
   ·have hc:=HC.out k hlt
    have HS:Hid ((l.take (k+1)).all (fun c=>decide (c<128))=((l.take k).all (fun c=>decide (c<128))&&decide (l.getD k 0<128))):=all_take l k hlt
    have HN:Hid (¬(65≤l.getD k 0∧l.getD k 0≤90)):=HX.out _ (by rw[List.getD_eq_getElem?_getD,List.getElem?_eq_getElem hlt];exact List.getElem_mem hlt)
    obtain ⟨y,hy⟩: ∃y,l.getD k 0=y:=⟨_,rfl⟩
    rw[hy]at hc HS HN
    generalize (l.take k).all (fun c=>decide (c<128))=b at HS
    have hkl:(k:Int)<l.length:=by omega
    clear hy
    have CI:Hid (∀W,CS 59 #[.int .i64 (y:Int),.int .i64 65,.int .i64 90] W (.bool false)):=fun W=>labIn_no _ _ _ W (by have:=HN.out;omega)
    cases b with
    |false=>
     go_wp2_with fail
     refine (CI.out _).mono ?_
     rintro e w' ⟨rfl,rfl⟩
     go_wp2_with fail
     go_round
     case rel=>exact ⟨k+1,by omega,by rw[HS.out];rfl,by go_num⟩
     case measure=>simp[intOf];omega
    |true=>
     go_wp2_with fail
     refine (CI.out _).mono ?_
     rintro e w' ⟨rfl,rfl⟩
     go_wp2_with fail
     go_round
     case rel=>exact ⟨k+1,by omega,by rw[HS.out];simp;omega,by go_num⟩
     case measure=>simp[intOf];omega
   have hks:k=l.length:=by omega
   have HB:(l.take k).all (fun c=>decide (c<128))=false:=by rw[hks,List.take_length];exact HP.out
   rw[HB]
   clear HB
   subst hks
   go_wp2_with fail
   go_ret2
   rw[HR.out]
   exact ⟨⟨_,rfl,HV.out⟩,ba⟩
theorem specToAscii(s:ByteArray)(w:World)(hs:s.size≤1048576):
  Calls Tryz.prog 89 #[.string s] w fun e w'=>e=.returned (ansS (ascL s.data.toList))∧Below w.heap.size w w':=by
 have CLo:Hid (CB 67 #[.string s] w (.string ⟨(lowerL s.data.toList).toArray⟩)):=specLower s w hs
 have hls:=low_size s
 have HLS:Hid ((⟨(lowerL s.data.toList).toArray⟩:ByteArray).size≤1048576):=by show _≤_;omega
 have CA:Hid (∀W,CS 109 #[.string s] W (.bool (asciiB s.data.toList))):=fun W=>specAscii s W (by unfold maxLen;omega)
 cases ha:asciiB s.data.toList with
 |true=>
  rw[ha]at CA
  have HAS:Hid (ascL s.data.toList=if okA (lowerL s.data.toList)=true then some (lowerL s.data.toList)else none):=asc1_ascii ha
  clear ha hls
  generalize lowerL s.data.toList=t at CLo HAS HLS
  go_enter Tryz.func89,Tryz.ntmps89
  go_wp2_with fail
  refine CLo.out.mono ?_
  rintro e wa ⟨rfl,ba⟩
  go_wp2_with fail
  refine (CA.out _).mono ?_
  rintro e w' ⟨rfl,rfl⟩
  have HK:=okA_code t
  have hzm:(⟨t.toArray⟩:ByteArray).size≤1048576:=HLS.out
  obtain ⟨S,hS⟩: ∃S:ByteArray,S=⟨t.toArray⟩:=⟨_,rfl⟩
  have hSt:S.data.toList=t:=by rw[hS]
  rw[←hS]at hzm
  rw[←hSt]at HK
  have HSS:Hid (S=⟨t.toArray⟩):=hS
  have HST:Hid (S.data.toList=t):=hSt
  rw[←hS]
  clear hS hSt
  cases hl:labL S.data.toList with
  |false=>
   have HF:Hid (ansS (ascL s.data.toList)=.tuple #[.string ⟨#[]⟩,.bool false]):=ans_no HAS.out (by rw[←HST.out,HK,hl];rfl)
   have CL:Hid (∀W,CS 96 #[.string S] W (.bool false)):=fun W=>by
    have h:=specLabelOk S W (by unfold maxLen;omega)
    rw[hl]at h
    exact h
   clear HK hl
   try go_wp2_with fail
   refine (CL.out _).mono ?_
   rintro e w' ⟨rfl,rfl⟩
   go_wp2_with fail
   go_ret2
   exact ⟨by rw[HF.out];rfl,ba⟩
  |true=>
   have CL:Hid (∀W,CS 96 #[.string S] W (.bool true)):=fun W=>by
    have h:=specLabelOk S W (by unfold maxLen;omega)
    rw[hl]at h
    exact h
   have CK:Hid (∀W,Calls Tryz.prog 112 #[.string S] W fun e w'=>decAns W w' (codeR S.data.toList) e∧Below W.heap.size W w'):=fun W=>specL4Coded S W hzm hl
   rw[hl]at HK
   by_cases h4:S.size<4
   ·have h4': ¬4≤(S.size:Int):=by omega
    have HF:Hid (ansS (ascL s.data.toList)=.tuple #[.string S,.bool true]):=by
     show _=_
     rw[HSS.out]
     exact ans_yes HAS.out (by rw[←HST.out,HK,xn_short S h4];rfl)
    clear HK hl
    try go_wp2_with fail
    refine (CL.out _).mono ?_
    rintro e w' ⟨rfl,rfl⟩
    go_wp2_with fail
    go_ret2
    exact ⟨by rw[HF.out];rfl,ba⟩
   have h4':4≤(S.size:Int):=by omega
   have hxe:=xn_eq S (by omega)
   cases hx:isXn S.data.toList with
   |false=>
    rw[hx]at hxe
    have HF:Hid (ansS (ascL s.data.toList)=.tuple #[.string S,.bool true]):=by
     show _=_
     rw[HSS.out]
     exact ans_yes HAS.out (by rw[←HST.out,HK,hx];rfl)
    clear HK hl hx
    try go_wp2_with fail
    refine (CL.out _).mono ?_
    rintro e w' ⟨rfl,rfl⟩
    go_wp2_with fail
    go_ret2
    exact ⟨by rw[HF.out];rfl,ba⟩
   |true=>
    rw[hx]at hxe
    cases hr:codeR S.data.toList with
    |none=>
     have HF:Hid (ansS (ascL s.data.toList)=.tuple #[.string ⟨#[]⟩,.bool false]):=ans_no HAS.out (by rw[←HST.out,HK,hx,hr];rfl)
     rw[hr]at CK
     clear HK hl hx hr
     try go_wp2_with fail
     refine (CL.out _).mono ?_
     rintro e w' ⟨rfl,rfl⟩
     go_wp2_with fail
     refine (CK.out _).mono ?_
     rintro e wz ⟨⟨v,rfl,_⟩,bz⟩
     have B:=ba.trans (bz.mono ba.size)
     clear bz
     go_wp2_with fail
     go_ret2
     exact ⟨by rw[HF.out];rfl,B⟩
    |some l=>
     have HF:Hid (ansS (ascL s.data.toList)=.tuple #[.string S,.bool true]):=by
      show _=_
      rw[HSS.out]
      exact ans_yes HAS.out (by rw[←HST.out,HK,hx,hr];rfl)
     rw[hr]at CK
     clear HK hl hx hr
     try go_wp2_with fail
     refine (CL.out _).mono ?_
     rintro e w' ⟨rfl,rfl⟩
     go_wp2_with fail
     refine (CK.out _).mono ?_
     rintro e wz ⟨⟨v,rfl,_⟩,bz⟩
     have B:=ba.trans (bz.mono ba.size)
     clear bz
     go_wp2_with fail
     go_ret2
     exact ⟨by rw[HF.out];rfl,B⟩
 |false=>
  rw[ha]at CA
  have hz:(⟨(lowerL s.data.toList).toArray⟩:ByteArray).size=s.data.toList.length:=by rw[low_size];simp
  have CR:Hid (∀W,Calls Tryz.prog 110 #[.string ⟨(lowerL s.data.toList).toArray⟩] W fun e w'=>RunesPost ⟨(lowerL s.data.toList).toArray⟩ W e w'):=fun W=>specRunes _ W HLS.out
  by_cases hy1:(finR ⟨(lowerL s.data.toList).toArray⟩).1=(⟨(lowerL s.data.toList).toArray⟩:ByteArray).size
  ·have HAO:=fin_allOk _ hy1
   have hfl:=fin_len ⟨(lowerL s.data.toList).toArray⟩
   have HEN:Hid (∀(W:World) (v:Value) (B:Nat),W.ownsRow B 3 1 v (finR ⟨(lowerL s.data.toList).toArray⟩).2.length (icells (finR ⟨(lowerL s.data.toList).toArray⟩).2)→CB 111 #[v] W (encAns (finR ⟨(lowerL s.data.toList).toArray⟩).2)):=
    fun W v B h=>specEncRunes _ v B W HAO (by omega) h
   by_cases hy2:(finR ⟨(lowerL s.data.toList).toArray⟩).2.length≤60
   ·have HAS0:=asc1_yes ha ⟨hy1.trans hz,hy2⟩
    have e1:encAns (finR ⟨(lowerL s.data.toList).toArray⟩).2=.tuple #[.string ⟨(b8 (encC ((finR ⟨(lowerL s.data.toList).toArray⟩).2.map Int.toNat))).toArray⟩,.bool true]:=if_pos hy2
    rw[e1]at HEN
    have HN:=encC_600 (encOk_yes HAO hy2)
    generalize encC ((finR ⟨(lowerL s.data.toList).toArray⟩).2.map Int.toNat)=q at HAS0 HEN HN
    have HX:Hid ((⟨#[120,110,45,45]⟩:ByteArray)++⟨(b8 q).toArray⟩=⟨(xn++b8 q).toArray⟩):=by
     show _=_
     apply ByteArray.ext
     rw[ByteArray.data_append]
     apply Array.toList_inj.1
     simp[xn]
    have hzq:(⟨(b8 q).toArray⟩:ByteArray).size≤600:=by
     show (b8 q).toArray.size≤600
     rw[List.size_toArray,b8_length]
     exact HN
    obtain ⟨T,hTT⟩: ∃T:ByteArray,⟨(b8 q).toArray⟩=T:=⟨_,rfl⟩
    have HM2:Hid (ByteArray.size ⟨(xn++b8 q).toArray⟩≤1048576):=by
     show (xn++b8 q).toArray.size≤1048576
     rw[List.size_toArray,List.length_append,b8_length]
     simp[xn]
     omega
    have HAS:Hid (ascL s.data.toList=if okA (xn++b8 q)=true then some (xn++b8 q)else none):=HAS0
    clear HAS0
    generalize xn++b8 q=t at HAS HM2 HX
    rw[hTT]at HEN HX hzq
    have HY1:Hid ((finR ⟨(lowerL s.data.toList).toArray⟩).1=(⟨(lowerL s.data.toList).toArray⟩:ByteArray).size):=hy1
    clear ha hy1 hy2 hz HN HAO hfl hls e1 hTT
    go_enter Tryz.func89,Tryz.ntmps89
    go_wp2_with fail
    refine CLo.out.mono ?_
    rintro e wa ⟨rfl,ba⟩
    go_wp2_with fail
    refine (CA.out _).mono ?_
    rintro e w' ⟨rfl,rfl⟩
    go_wp2_with fail
    refine (CR.out _).mono ?_
    rintro e wb (⟨_,vb,rfl,ob,bb⟩|⟨hn,_⟩)
    ·go_wp2_with fail
     refine (HEN.out _ _ _ ob).mono ?_
     rintro e wc ⟨rfl,bc⟩
     have b2:=ba.trans (bb.mono ba.size)
     have b3:=b2.trans (bc.mono b2.size)
     clear ba bb ob b2 bc
     go_wp2_with fail
     rw[HX.out]
     have HK:=okA_code t
     have hzm:(⟨t.toArray⟩:ByteArray).size≤1048576:=HM2.out
     obtain ⟨S,hS⟩: ∃S:ByteArray,S=⟨t.toArray⟩:=⟨_,rfl⟩
     have hSt:S.data.toList=t:=by rw[hS]
     rw[←hS]at hzm
     rw[←hSt]at HK
     have HSS:Hid (S=⟨t.toArray⟩):=hS
     have HST:Hid (S.data.toList=t):=hSt
     rw[←hS]
     clear hS hSt
     cases hl:labL S.data.toList with
     |false=>
      have HF:Hid (ansS (ascL s.data.toList)=.tuple #[.string ⟨#[]⟩,.bool false]):=ans_no HAS.out (by rw[←HST.out,HK,hl];rfl)
      have CL:Hid (∀W,CS 96 #[.string S] W (.bool false)):=fun W=>by
       have h:=specLabelOk S W (by unfold maxLen;omega)
       rw[hl]at h
       exact h
      clear HK hl
      try go_wp2_with fail
      refine (CL.out _).mono ?_
      rintro e w' ⟨rfl,rfl⟩
      go_wp2_with fail
      go_ret2
      exact ⟨by rw[HF.out];rfl,b3⟩
     |true=>
      have CL:Hid (∀W,CS 96 #[.string S] W (.bool true)):=fun W=>by
       have h:=specLabelOk S W (by unfold maxLen;omega)
       rw[hl]at h
       exact h
      have CK:Hid (∀W,Calls Tryz.prog 112 #[.string S] W fun e w'=>decAns W w' (codeR S.data.toList) e∧Below W.heap.size W w'):=fun W=>specL4Coded S W hzm hl
      rw[hl]at HK
      by_cases h4:S.size<4
      ·have h4': ¬4≤(S.size:Int):=by omega
       have HF:Hid (ansS (ascL s.data.toList)=.tuple #[.string S,.bool true]):=by
        show _=_
        rw[HSS.out]
        exact ans_yes HAS.out (by rw[←HST.out,HK,xn_short S h4];rfl)
       clear HK hl
       try go_wp2_with fail
       refine (CL.out _).mono ?_
       rintro e w' ⟨rfl,rfl⟩
       go_wp2_with fail
       go_ret2
       exact ⟨by rw[HF.out];rfl,b3⟩
      have h4':4≤(S.size:Int):=by omega
      have hxe:=xn_eq S (by omega)
      cases hx:isXn S.data.toList with
      |false=>
       rw[hx]at hxe
       have HF:Hid (ansS (ascL s.data.toList)=.tuple #[.string S,.bool true]):=by
        show _=_
        rw[HSS.out]
        exact ans_yes HAS.out (by rw[←HST.out,HK,hx];rfl)
       clear HK hl hx
       try go_wp2_with fail
       refine (CL.out _).mono ?_
       rintro e w' ⟨rfl,rfl⟩
       go_wp2_with fail
       go_ret2
       exact ⟨by rw[HF.out];rfl,b3⟩
      |true=>
       rw[hx]at hxe
       cases hr:codeR S.data.toList with
       |none=>
        have HF:Hid (ansS (ascL s.data.toList)=.tuple #[.string ⟨#[]⟩,.bool false]):=ans_no HAS.out (by rw[←HST.out,HK,hx,hr];rfl)
        rw[hr]at CK
        clear HK hl hx hr
        try go_wp2_with fail
        refine (CL.out _).mono ?_
        rintro e w' ⟨rfl,rfl⟩
        go_wp2_with fail
        refine (CK.out _).mono ?_
        rintro e wz ⟨⟨v,rfl,_⟩,bz⟩
        have B:=b3.trans (bz.mono b3.size)
        clear bz
        go_wp2_with fail
        go_ret2
        exact ⟨by rw[HF.out];rfl,B⟩
       |some l=>
        have HF:Hid (ansS (ascL s.data.toList)=.tuple #[.string S,.bool true]):=by
         show _=_
         rw[HSS.out]
         exact ans_yes HAS.out (by rw[←HST.out,HK,hx,hr];rfl)
        rw[hr]at CK
        clear HK hl hx hr
        try go_wp2_with fail
        refine (CL.out _).mono ?_
        rintro e w' ⟨rfl,rfl⟩
        go_wp2_with fail
        refine (CK.out _).mono ?_
        rintro e wz ⟨⟨v,rfl,_⟩,bz⟩
        have B:=b3.trans (bz.mono b3.size)
        clear bz
        go_wp2_with fail
        go_ret2
        exact ⟨by rw[HF.out];rfl,B⟩
    exact absurd HY1.out hn
   have HF:Hid (ansS (ascL s.data.toList)=.tuple #[.string ⟨#[]⟩,.bool false]):=by show _=_;rw[asc1_no ha (fun h=>hy2 h.2)];rfl
   have e1:encAns (finR ⟨(lowerL s.data.toList).toArray⟩).2=.tuple #[.string ⟨#[]⟩,.bool false]:=if_neg hy2
   rw[e1]at HEN
   have HY1:Hid ((finR ⟨(lowerL s.data.toList).toArray⟩).1=(⟨(lowerL s.data.toList).toArray⟩:ByteArray).size):=hy1
   clear ha hy1 hy2 hz HAO hfl hls e1
   go_enter Tryz.func89,Tryz.ntmps89
   go_wp2_with fail
   refine CLo.out.mono ?_
   rintro e wa ⟨rfl,ba⟩
   go_wp2_with fail
   refine (CA.out _).mono ?_
   rintro e w' ⟨rfl,rfl⟩
   go_wp2_with fail
   refine (CR.out _).mono ?_
   rintro e wb (⟨_,vb,rfl,ob,bb⟩|⟨hn,_⟩)
   ·go_wp2_with fail
    refine (HEN.out _ _ _ ob).mono ?_
    rintro e wc ⟨rfl,bc⟩
    have b2:=ba.trans (bb.mono ba.size)
    have b3:=b2.trans (bc.mono b2.size)
    clear ba bb ob b2 bc
    go_wp2_with fail
    go_ret2
    exact ⟨by rw[HF.out];rfl,b3⟩
   exact absurd HY1.out hn
  have HF:Hid (ansS (ascL s.data.toList)=.tuple #[.string ⟨#[]⟩,.bool false]):=by show _=_;rw[asc1_no ha (fun h=>hy1 (h.1.trans hz.symm))];rfl
  have HEN:Hid (∀(W:World) (v:Value) (B:Nat),W.ownsRow B 3 1 v 0 (icells [])→CB 111 #[v] W (.tuple #[.string ⟨(b8 (encC [])).toArray⟩,.bool true])):=
   fun W v B h=>specEncRunes [] v B W (fun r hr=>by simp at hr) (by decide) h
  have HY1:Hid (¬(finR ⟨(lowerL s.data.toList).toArray⟩).1=(⟨(lowerL s.data.toList).toArray⟩:ByteArray).size):=hy1
  clear ha hy1 hz hls
  go_enter Tryz.func89,Tryz.ntmps89
  go_wp2_with fail
  refine CLo.out.mono ?_
  rintro e wa ⟨rfl,ba⟩
  go_wp2_with fail
  refine (CA.out _).mono ?_
  rintro e w' ⟨rfl,rfl⟩
  go_wp2_with fail
  refine (CR.out _).mono ?_
  rintro e wb (⟨hn,_⟩|⟨_,vb,rfl,ob,bb⟩)
  ·exact absurd hn HY1.out
  go_wp2_with fail
  refine (HEN.out _ _ _ ob).mono ?_
  rintro e wc ⟨rfl,bc⟩
  have b2:=ba.trans (bb.mono ba.size)
  have b3:=b2.trans (bc.mono b2.size)
  clear ba bb ob b2 bc
  go_wp2_with fail
  go_ret2
  exact ⟨by rw[HF.out];rfl,b3⟩
end Go.Proofs.YtijliddchoehhaaGreatDoor
