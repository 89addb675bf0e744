/- EndWalk, GroupsText, RowWalk. -/
import Derived.Test.YtijliddchoehhaaGreatDoorQA06
set_option maxHeartbeats 4000000
set_option maxRecDepth 20000
namespace Go.Proofs.YtijliddchoehhaaGreatDoor
open Go.RowKit
def endT(s:ByteArray):Bool:=if hxA s=true then alD 16 (s.extract 2 s.size).data.toList else if s.size=0 then false else alD 10 s.data.toList
def lastF(s:ByteArray):ByteArray:=s.extract (fieldsTo s 46 s.size).2 s.size
def endL(s:ByteArray):Bool:=endT (lastF s)
theorem lastF_size(s:ByteArray):(lastF s).size≤s.size:=by
 unfold lastF
 rw[ByteArray.size_extract]
 omega
theorem lastF_at(s:ByteArray):(fieldsL s 46).getD ((fieldsL s 46).length-1) ByteArray.empty=lastF s:=by
 unfold fieldsL
 rw[List.length_append,List.length_singleton,Nat.add_sub_cancel,List.getD_eq_getElem?_getD,List.getElem?_append_right (Nat.le_refl _)]
 simp[lastF]
theorem lastF_spl(s:ByteArray)(p tl:List UInt8)(h:s.data.toList=p++tl)(hp:p=[]∨ ∃q,p=q++[46])(ht: ∀c∈tl,c≠46):(lastF s).data.toList=tl:=by
 have h1:=fieldsL_46 s
 have h2: ∃xs,spl 46 s.data.toList=xs++[tl]:=by
  rw[h]
  rcases hp with rfl|⟨q,rfl⟩
  ·exact ⟨[],by rw[List.nil_append,spl_none 46 ht];rfl⟩
  refine ⟨spl 46 q,?_⟩
  rw[List.append_assoc,List.singleton_append,spl_app,spl_none 46 ht]
 obtain ⟨xs,h2⟩:=h2
 rw[h2]at h1
 unfold fieldsL at h1
 rw[List.map_append,List.map_cons,List.map_nil]at h1
 have h3:=(List.append_inj' h1 rfl).2
 exact (List.cons.inj h3).1
theorem last_dot(s:ByteArray): ∃b:Nat,b≤s.size∧Lib.lastIndexByte s 46+1=(b:Int)∧s.extract b s.size=lastF s:=by
 have key: ∃b:Nat,b≤s.size∧Lib.lastIndexByte s 46+1=(b:Int)∧(s.data.toList.take b=[]∨ ∃q,s.data.toList.take b=q++[46])∧ ∀c∈s.data.toList.drop b,c≠46:=by
  rcases Lib.lastIndexByte_spec s 46 with ⟨h1,h2⟩|⟨i,h0,h1,h2,h3⟩
  ·refine ⟨0,Nat.zero_le _,by rw[h1];rfl,.inl (by simp),?_⟩
   intro c hc e
   rw[List.drop_zero]at hc
   obtain ⟨j,hj,rfl⟩:=List.getElem_of_mem hc
   have hj':j<s.size:=by simpa using hj
   apply h2 j hj'
   rw[getElem!_pos s.data j hj']
   have:s.data[j]=46:=by simpa using e
   rw[this];rfl
  refine ⟨i+1,h0,by rw[h1];simp,.inr ⟨s.data.toList.take i,?_⟩,?_⟩
  ·rw[take_snoc s i h0]
   congr 2
   apply u8_is
   rw[getElem!_pos s.data i h0]at h2
   show s.data[i].toNat=46
   omega
  intro c hc e
  obtain ⟨j,hj,rfl⟩:=List.getElem_of_mem hc
  rw[List.length_drop]at hj
  have hj':i+1+j<s.size:=by simp at hj;omega
  apply h3 (i+1+j) (by omega) hj'
  rw[getElem!_pos s.data _ hj']
  have:s.data[i+1+j]=46:=by simpa using e
  rw[this];rfl
 obtain ⟨b,h1,h2,h3,h4⟩:=key
 refine ⟨b,h1,h2,toL_inj ?_⟩
 show (s.extract b s.size).data.toList=(lastF s).data.toList
 rw[lastF_spl s _ _ (List.take_append_drop b _).symm h3 h4,extract_list,take_all s s.size (Nat.le_refl _)]
theorem implEndsInNumber(s:ByteArray)(w:World)(hs:s.size≤1048576):
  Calls Tryz.prog 190 #[.string s] w fun e w'=>e=.returned (.bool (endL s))∧w=w':=by
 obtain ⟨b,hb,hlb,he⟩:=last_dot s
 have CL:Hid (∀W,CS 159 #[.string s,.int .u8 46] W (.int .i64 (Lib.lastIndexByte s 46))):=fun W=>(Tryz.strings_LastIndexByte s 46 (by omega) W).mono fun e w' h=>⟨h.1,h.2.symm⟩
 have hl0:Lib.lastIndexByte s 46=(b:Int)-1:=by omega
 rw[hl0]at CL
 have hbi:(b:Int)≤(s.size:Int):=by omega
 have HT:Hid (endL s=endT (s.extract b s.size)):=by
  show _=_
  rw[he]
  rfl
 have hts:(s.extract b s.size).size≤1048576:=by rw[ByteArray.size_extract];omega
 clear hlb hl0 he
 go_enter Tryz.func190,Tryz.ntmps190
 go_wp2_with fail
 refine (CL.out _).mono ?_
 rintro e w' ⟨rfl,rfl⟩
 go_wp2_with fail
 generalize s.extract b s.size=t at HT hts⊢
 have CP:Hid (∀W,CS 191 #[.string t] W (.bool (hxA t))):=fun W=>implHexAhead t W
 cases hx:hxA t with
 |true=>
  have h2:1<t.size:=by
   have h:=of_decide_eq_true hx
   exact h.1
  have HZ:Hid (endT t=alD 16 (t.extract 2 t.size).data.toList):=by
   show _=_
   unfold endT
   rw[if_pos hx]
  have CD:Hid (∀W,CS 192 #[.string (t.extract 2 t.size),.int .i64 16] W (.bool (alD 16 (t.extract 2 t.size).data.toList))):=fun W=>implDigitsAlone _ 16 W (by rw[ByteArray.size_extract];omega)
  generalize alD 16 (t.extract 2 t.size).data.toList=R at HZ CD
  rw[hx]at CP
  clear hx
  refine (CP.out _).mono ?_
  rintro e w' ⟨rfl,rfl⟩
  go_wp2_with fail
  refine (CD.out _).mono ?_
  rintro e w' ⟨rfl,rfl⟩
  go_wp2_with fail
  go_ret
  exact ⟨by rw[HT.out,HZ.out];rfl,rfl⟩
 |false=>
  rw[hx]at CP
  by_cases h0:t.size=0
  ·have HZ:Hid (endT t=false):=by
    show _=_
    unfold endT
    rw[hx,if_neg (by decide),if_pos h0]
   have hem:=empty_yes h0
   clear hx h0
   refine (CP.out _).mono ?_
   rintro e w' ⟨rfl,rfl⟩
   go_wp2_with fail
   go_ret
   exact ⟨by rw[HT.out,HZ.out];rfl,rfl⟩
  have HZ:Hid (endT t=alD 10 t.data.toList):=by
   show _=_
   unfold endT
   rw[hx,if_neg (by decide),if_neg h0]
  have hem:=empty_no (by omega:0<t.size)
  have CD:Hid (∀W,CS 192 #[.string t,.int .i64 10] W (.bool (alD 10 t.data.toList))):=fun W=>implDigitsAlone _ 10 W hts
  clear hx h0
  refine (CP.out _).mono ?_
  rintro e w' ⟨rfl,rfl⟩
  go_wp2_with fail
  refine (CD.out _).mono ?_
  rintro e w' ⟨rfl,rfl⟩
  go_wp2_with fail
  go_ret
  exact ⟨by rw[HT.out,HZ.out];rfl,rfl⟩
theorem alD16_drop(s:ByteArray)(k:Nat)(h:k<s.size):alD 16 (s.data.toList.drop k)=(decide (0≤hexN s[k].toNat)&&alD 16 (s.data.toList.drop (k+1))):=by
 rw[alD_drop s k h]
 congr 1
 have:=(hexN_le s[k].toNat).2
 refine decide_eq_decide.2 ⟨fun h=>h.1,fun h=>⟨h,?_⟩⟩
 omega
theorem specAll6(s:ByteArray)(w:World)(hs:s.size≤1048576):
  Calls Tryz.prog 90 #[.string s] w fun e w'=>e=.returned (.bool (alD 16 s.data.toList))∧w=w':=by
 go_enter Tryz.func90,Tryz.ntmps90
 go_wp2
 go_loop[3] (fun i=> ∃k:Nat,k≤s.size∧i=.int .i64 k∧alD 16 (s.data.toList.drop k)=alD 16 s.data.toList) (fun i=>s.size-(intOf i).toNat)
 case atStart=>exact ⟨0,Nat.zero_le _,rfl,rfl⟩
 obtain ⟨k,hk,rfl,hf⟩:=hrel
 have HR:Hid (alD 16 (s.data.toList.drop k)=alD 16 s.data.toList):=hf
 clear hf
 by_cases hlt:k<s.size
 ·obtain ⟨d,hd⟩: ∃d:Nat,s[k].toNat=d:=⟨_,rfl⟩
  have hd1:(d:Int)≤255:=by have:=s[k].toNat_lt;omega
  have HD:Hid (alD 16 (s.data.toList.drop k)=(decide (0≤hexN d)&&alD 16 (s.data.toList.drop (k+1)))):=by
   show _=_
   rw[alD16_drop s k hlt,hd]
  obtain ⟨hx1,hx2⟩:=hexN_le d
  have CH:Hid (∀W,CS 113 #[.int .u8 (d:Int)] W (.int .i64 (hexN d))):=fun W=>specHex d W hd1
  generalize hexN d=x at HD CH hx1 hx2
  have hki:(k:Int)<(s.size:Int):=by omega
  by_cases hx0:x<0
  ·have HZ:Hid (alD 16 s.data.toList=false):=by
    show _=_
    rw[←HR.out,HD.out,decide_eq_false (by omega)]
    rfl
   go_wp2_with fail
   refine (CH.out _).mono ?_
   rintro e w' ⟨rfl,rfl⟩
   go_wp2_with fail
   go_ret
   exact ⟨by rw[HZ.out];rfl,rfl⟩
  have HZ:Hid (alD 16 (s.data.toList.drop (k+1))=alD 16 s.data.toList):=by
   show _=_
   rw[←HR.out,HD.out,decide_eq_true (by omega)]
   rfl
  go_wp2_with fail
  refine (CH.out _).mono ?_
  rintro e w' ⟨rfl,rfl⟩
  go_wp2_with fail
  go_round
  case rel=>exact ⟨k+1,by omega,by go_num,HZ.out⟩
  case measure=>simp[intOf];omega
 have HZ:Hid (alD 16 s.data.toList=true):=by
  show _=_
  rw[←HR.out,List.drop_of_length_le (by simp;omega)]
  rfl
 have hki: ¬(k:Int)<(s.size:Int):=by omega
 go_wp2_with fail
 go_ret
 exact ⟨by rw[HZ.out];rfl,rfl⟩
theorem alD10_drop(s:ByteArray)(k:Nat)(h:k<s.size):alD 10 (s.data.toList.drop k)=(decide (48≤s[k].toNat∧s[k].toNat≤57)&&alD 10 (s.data.toList.drop (k+1))):=by
 rw[alD_drop s k h]
 congr 1
 have:=s[k].toNat_lt
 generalize s[k].toNat=c at this
 refine decide_eq_decide.2 ?_
 unfold hexN
 split
 ·omega
 split
 ·omega
 split<;>omega
theorem specEndsInNumber(s:ByteArray)(w:World)(hs:s.size≤1048576):
  Calls Tryz.prog 58 #[.string s] w fun e w'=>e=.returned (.bool (endL s))∧Below w.heap.size w w':=by
 have CF:Hid (Calls Tryz.prog 66 #[.string s,.int .u8 46] w fun e w'=> ∃v,e=.returned v∧w'.ownsRow w.heap.size 9 1 v (fieldsL s 46).length (scells (fieldsL s 46))∧Below w.heap.size w w'):=specFields s 46 w hs
 have hpos:0<(fieldsL s 46).length:=by simp[fieldsL]
 have hlen:(fieldsL s 46).length≤1048577:=by
  have:=(fieldsTo_le s 46 s.size).2
  simp[fieldsL];omega
 have hL:(fieldsL s 46).getD ((fieldsL s 46).length-1) ByteArray.empty=lastF s:=lastF_at s
 have hts:(lastF s).size≤1048576:=Nat.le_trans (lastF_size s) hs
 have HT:Hid (endL s=endT (lastF s)):=rfl
 generalize lastF s=t at hL hts HT
 generalize fieldsL s 46=fs at CF hpos hlen hL
 go_enter Tryz.func58,Tryz.ntmps58
 go_wp2_with fail
 refine CF.out.mono ?_
 rintro e wa ⟨va,rfl,oa,ba⟩
 rcases own_shape oa with ⟨h,_⟩|⟨_,g,cap,rfl⟩
 ·omega
 have hc:=scell_at oa (fs.length-1) (by omega)
 rw[hL]at hc
 have hi:((fs.length:Int)-1)=((fs.length-1:Nat):Int):=by omega
 clear oa hL
 cases hx:hxA t with
 |true=>
  obtain ⟨h2,h48,hxx⟩:=of_decide_eq_true hx
  have HZ:Hid (endT t=alD 16 (t.extract 2 t.size).data.toList):=by
   show _=_
   unfold endT
   rw[if_pos hx]
  have CD:Hid (∀W,CS 90 #[.string (t.extract 2 t.size)] W (.bool (alD 16 (t.extract 2 t.size).data.toList))):=fun W=>specAll6 _ W (by rw[ByteArray.size_extract];omega)
  generalize alD 16 (t.extract 2 t.size).data.toList=R at HZ CD
  have h1':1<(t.size:Int):=by omega
  obtain ⟨c,hcc⟩: ∃c:Nat,t[1].toNat=c:=⟨_,rfl⟩
  rw[hcc]at hxx
  clear hx
  rcases hxx with rfl|rfl
  ·go_wp2_with fail
   refine (CD.out _).mono ?_
   rintro e w' ⟨rfl,rfl⟩
   go_wp2_with fail
   go_ret
   exact ⟨by rw[HT.out,HZ.out];rfl,ba⟩
  go_wp2_with fail
  refine (CD.out _).mono ?_
  rintro e w' ⟨rfl,rfl⟩
  go_wp2_with fail
  go_ret
  exact ⟨by rw[HT.out,HZ.out];rfl,ba⟩
 |false=>
  have HZ:Hid (endT t=if t.size=0 then false else alD 10 t.data.toList):=by
   show _=_
   unfold endT
   rw[hx,if_neg (by decide)]
  have hno:=of_decide_eq_false hx
  clear hx
  by_cases h2:1<t.size
  ·have h1':1<(t.size:Int):=by omega
   obtain ⟨d,hd⟩: ∃d:Nat,t[0].toNat=d:=⟨_,rfl⟩
   by_cases hd0:d=48
   ·obtain ⟨c,hcc⟩: ∃c:Nat,t[1].toNat=c:=⟨_,rfl⟩
    have q1:((c:Int)==120)=false:=beq_eq_false_iff_ne.2 (fun e=>hno ⟨h2,by omega,.inl (by omega)⟩)
    have q2:((c:Int)==88)=false:=beq_eq_false_iff_ne.2 (fun e=>hno ⟨h2,by omega,.inr (by omega)⟩)
    subst hd0
    clear hno
    go_wp2_with fail
    clear q1 q2 hd hcc hc hi
    go_loop[5] (fun i=> ∃k:Nat,k≤t.size∧i=.int .i64 k∧alD 10 (t.data.toList.drop k)=alD 10 t.data.toList) (fun i=>t.size-(intOf i).toNat)
    case atStart=>exact ⟨0,Nat.zero_le _,rfl,rfl⟩
    obtain ⟨k,hk,rfl,hf⟩:=hrel
    have HR:Hid (alD 10 (t.data.toList.drop k)=alD 10 t.data.toList):=hf
    clear hf
    by_cases hlt:k<t.size
    ·obtain ⟨y,hy⟩: ∃y:Nat,t[k].toNat=y:=⟨_,rfl⟩
     have hy1:(y:Int)≤255:=by have:=t[k].toNat_lt;omega
     have HD:Hid (alD 10 (t.data.toList.drop k)=(decide (48≤y∧y≤57)&&alD 10 (t.data.toList.drop (k+1)))):=by
      show _=_
      rw[alD10_drop t k hlt,hy]
     have hki:(k:Int)<(t.size:Int):=by omega
     by_cases hin:48≤y∧y≤57
     ·have CI:Hid (∀W,CS 59 #[.int .i64 (y:Int),.int .i64 48,.int .i64 57] W (.bool true)):=fun W=>labIn_yes _ _ _ W (by omega) (by omega)
      have HZ2:Hid (alD 10 (t.data.toList.drop (k+1))=alD 10 t.data.toList):=by
       show _=_
       rw[←HR.out,HD.out,decide_eq_true hin]
       rfl
      clear hin
      go_wp2_with fail
      refine (CI.out _).mono ?_
      rintro e w' ⟨rfl,rfl⟩
      go_wp2_with fail
      go_round
      case rel=>exact ⟨k+1,by omega,by go_num,HZ2.out⟩
      case measure=>simp[intOf];omega
     have CI:Hid (∀W,CS 59 #[.int .i64 (y:Int),.int .i64 48,.int .i64 57] W (.bool false)):=fun W=>labIn_no _ _ _ W (by omega)
     have HZ2:Hid (alD 10 t.data.toList=false):=by
      show _=_
      rw[←HR.out,HD.out,decide_eq_false hin]
      rfl
     have hne: ¬t.size=0:=by omega
     clear hin
     go_wp2_with fail
     refine (CI.out _).mono ?_
     rintro e w' ⟨rfl,rfl⟩
     go_wp2_with fail
     go_ret
     exact ⟨by rw[HT.out,HZ.out,if_neg hne,HZ2.out];rfl,ba⟩
    have HZ2:Hid (alD 10 t.data.toList=true):=by
     show _=_
     rw[←HR.out,List.drop_of_length_le (by simp;omega)]
     rfl
    have hki: ¬(k:Int)<(t.size:Int):=by omega
    by_cases h00:t.size=0
    ·have HE:Hid (t.size=0):=h00
     have hem:=empty_yes h00
     clear h00
     go_wp2_with fail
     go_ret
     exact ⟨by rw[HT.out,HZ.out,if_pos HE.out];rfl,ba⟩
    have HE:Hid (¬t.size=0):=h00
    have hem:=empty_no (by omega:0<t.size)
    clear h00
    go_wp2_with fail
    go_ret
    exact ⟨by rw[HT.out,HZ.out,if_neg HE.out,HZ2.out];rfl,ba⟩
   have q0:((d:Int)==48)=false:=beq_eq_false_iff_ne.2 (by omega)
   clear hno hd0
   go_wp2_with fail
   clear q0 hd hc hi
   go_loop[5] (fun i=> ∃k:Nat,k≤t.size∧i=.int .i64 k∧alD 10 (t.data.toList.drop k)=alD 10 t.data.toList) (fun i=>t.size-(intOf i).toNat)
   case atStart=>exact ⟨0,Nat.zero_le _,rfl,rfl⟩
   obtain ⟨k,hk,rfl,hf⟩:=hrel
   have HR:Hid (alD 10 (t.data.toList.drop k)=alD 10 t.data.toList):=hf
   clear hf
   by_cases hlt:k<t.size
   ·obtain ⟨y,hy⟩: ∃y:Nat,t[k].toNat=y:=⟨_,rfl⟩
    have hy1:(y:Int)≤255:=by have:=t[k].toNat_lt;omega
    have HD:Hid (alD 10 (t.data.toList.drop k)=(decide (48≤y∧y≤57)&&alD 10 (t.data.toList.drop (k+1)))):=by
     show _=_
     rw[alD10_drop t k hlt,hy]
    have hki:(k:Int)<(t.size:Int):=by omega
    by_cases hin:48≤y∧y≤57
    ·have CI:Hid (∀W,CS 59 #[.int .i64 (y:Int),.int .i64 48,.int .i64 57] W (.bool true)):=fun W=>labIn_yes _ _ _ W (by omega) (by omega)
     have HZ2:Hid (alD 10 (t.data.toList.drop (k+1))=alD 10 t.data.toList):=by
      show _=_
      rw[←HR.out,HD.out,decide_eq_true hin]
      rfl
     clear hin
     go_wp2_with fail
     refine (CI.out _).mono ?_
     rintro e w' ⟨rfl,rfl⟩
     go_wp2_with fail
     go_round
     case rel=>exact ⟨k+1,by omega,by go_num,HZ2.out⟩
     case measure=>simp[intOf];omega
    have CI:Hid (∀W,CS 59 #[.int .i64 (y:Int),.int .i64 48,.int .i64 57] W (.bool false)):=fun W=>labIn_no _ _ _ W (by omega)
    have HZ2:Hid (alD 10 t.data.toList=false):=by
     show _=_
     rw[←HR.out,HD.out,decide_eq_false hin]
     rfl
    have hne: ¬t.size=0:=by omega
    clear hin
    go_wp2_with fail
    refine (CI.out _).mono ?_
    rintro e w' ⟨rfl,rfl⟩
    go_wp2_with fail
    go_ret
    exact ⟨by rw[HT.out,HZ.out,if_neg hne,HZ2.out];rfl,ba⟩
   have HZ2:Hid (alD 10 t.data.toList=true):=by
    show _=_
    rw[←HR.out,List.drop_of_length_le (by simp;omega)]
    rfl
   have hki: ¬(k:Int)<(t.size:Int):=by omega
   by_cases h00:t.size=0
   ·have HE:Hid (t.size=0):=h00
    have hem:=empty_yes h00
    clear h00
    go_wp2_with fail
    go_ret
    exact ⟨by rw[HT.out,HZ.out,if_pos HE.out];rfl,ba⟩
   have HE:Hid (¬t.size=0):=h00
   have hem:=empty_no (by omega:0<t.size)
   clear h00
   go_wp2_with fail
   go_ret
   exact ⟨by rw[HT.out,HZ.out,if_neg HE.out,HZ2.out];rfl,ba⟩
  have h1': ¬1<(t.size:Int):=by omega
  clear hno
  go_wp2_with fail
  clear hc hi
  go_loop[5] (fun i=> ∃k:Nat,k≤t.size∧i=.int .i64 k∧alD 10 (t.data.toList.drop k)=alD 10 t.data.toList) (fun i=>t.size-(intOf i).toNat)
  case atStart=>exact ⟨0,Nat.zero_le _,rfl,rfl⟩
  obtain ⟨k,hk,rfl,hf⟩:=hrel
  have HR:Hid (alD 10 (t.data.toList.drop k)=alD 10 t.data.toList):=hf
  clear hf
  by_cases hlt:k<t.size
  ·obtain ⟨y,hy⟩: ∃y:Nat,t[k].toNat=y:=⟨_,rfl⟩
   have hy1:(y:Int)≤255:=by have:=t[k].toNat_lt;omega
   have HD:Hid (alD 10 (t.data.toList.drop k)=(decide (48≤y∧y≤57)&&alD 10 (t.data.toList.drop (k+1)))):=by
    show _=_
    rw[alD10_drop t k hlt,hy]
   have hki:(k:Int)<(t.size:Int):=by omega
   by_cases hin:48≤y∧y≤57
   ·have CI:Hid (∀W,CS 59 #[.int .i64 (y:Int),.int .i64 48,.int .i64 57] W (.bool true)):=fun W=>labIn_yes _ _ _ W (by omega) (by omega)
    have HZ2:Hid (alD 10 (t.data.toList.drop (k+1))=alD 10 t.data.toList):=by
     show _=_
     rw[←HR.out,HD.out,decide_eq_true hin]
     rfl
    clear hin
    go_wp2_with fail
    refine (CI.out _).mono ?_
    rintro e w' ⟨rfl,rfl⟩
    go_wp2_with fail
    go_round
    case rel=>exact ⟨k+1,by omega,by go_num,HZ2.out⟩
    case measure=>simp[intOf];omega
   have CI:Hid (∀W,CS 59 #[.int .i64 (y:Int),.int .i64 48,.int .i64 57] W (.bool false)):=fun W=>labIn_no _ _ _ W (by omega)
   have HZ2:Hid (alD 10 t.data.toList=false):=by
    show _=_
    rw[←HR.out,HD.out,decide_eq_false hin]
    rfl
   have hne: ¬t.size=0:=by omega
   clear hin
   go_wp2_with fail
   refine (CI.out _).mono ?_
   rintro e w' ⟨rfl,rfl⟩
   go_wp2_with fail
   go_ret
   exact ⟨by rw[HT.out,HZ.out,if_neg hne,HZ2.out];rfl,ba⟩
  have HZ2:Hid (alD 10 t.data.toList=true):=by
   show _=_
   rw[←HR.out,List.drop_of_length_le (by simp;omega)]
   rfl
  have hki: ¬(k:Int)<(t.size:Int):=by omega
  by_cases h00:t.size=0
  ·have HE:Hid (t.size=0):=h00
   have hem:=empty_yes h00
   clear h00
   go_wp2_with fail
   go_ret
   exact ⟨by rw[HT.out,HZ.out,if_pos HE.out];rfl,ba⟩
  have HE:Hid (¬t.size=0):=h00
  have hem:=empty_no (by omega:0<t.size)
  clear h00
  go_wp2_with fail
  go_ret
  exact ⟨by rw[HT.out,HZ.out,if_neg HE.out,HZ2.out];rfl,ba⟩
theorem jl_snoc(b:UInt8): ∀{l:List (List UInt8)} {x:List UInt8},l≠[]→jl b (l++[x])=jl b l++b::x
 |[],_,h=>absurd rfl h
 |[y],x,_=>rfl
 |y::z::r,x,_=>by
  have ih:=jl_snoc b (l:=z::r) (x:=x) (by simp)
  rw[List.cons_append,List.cons_append,jl,jl,←List.cons_append,ih]
  simp
theorem gt_zero(gs:List Nat)(h:0<gs.length):gtL (gs.take 1)=hex4 (gs.getD 0 0):=by
 cases gs with
 |nil=>simp at h
 |cons g r=>rfl
theorem gt_succ(gs:List Nat)(k:Nat)(h:k<gs.length)(hk:0<k):gtL (gs.take (k+1))=gtL (gs.take k)++[58]++hex4 (gs.getD k 0):=by
 unfold gtL
 rw[List.take_succ_eq_append_getElem h,List.map_append,List.map_cons,List.map_nil,jl_snoc]
 ·simp[List.getD,h]
 intro e
 have h1:((gs.take k).map hex4).length=0:=by rw[e];rfl
 rw[List.length_map,List.length_take]at h1
 omega
def GrpAt(w:World)(g off:Nat)(gs:List Nat):Prop:= ∀j,j<gs.length→w.cell? ⟨g,off+j,none⟩=some (.int .i64 ((gs.getD j 0:Nat):Int))
theorem GrpAt.later{w w':World}{g off:Nat}{gs:List Nat}(h:GrpAt w g off gs)(hb:Below w.heap.size w w'):GrpAt w' g off gs:=fun j hj=>cell_later hb (h j hj)
theorem implGroupsText(g off cap:Nat)(gs:List Nat)(w:World)(hl:gs.length≤8)(hg: ∀x∈gs,x<65536)(hc:GrpAt w g off gs)(hT:Bruijn w):
  Calls Tryz.prog 84 #[.slice (some ⟨g,off,none⟩) gs.length cap] w fun e w'=>e=.returned (.string ⟨(gtL gs).toArray⟩)∧Below w.heap.size w w':=by
 have HT:Hid (Bruijn w):=hT
 have HC:Hid (GrpAt w g off gs):=hc
 have HG:Hid (∀x∈gs,x<65536):=hg
 clear hT hc hg
 go_enter Tryz.func84,Tryz.ntmps84
 go_wp2
 go_loopw[3,9] (fun b i wr=> ∃k:Nat,k≤gs.length∧i=.int .i64 k∧wr.ownsRow w.heap.size 5 1 b (gtL (gs.take k)).length (bcells (gtL (gs.take k)))∧Below w.heap.size w wr)
  (fun _ i _=>gs.length-(intOf i).toNat)
 case atStart=>exact ⟨0,Nat.zero_le _,rfl,World.ownsRow_lit w #[] 0 (Nat.le_refl _) (by decide) rfl,(Below.refl _ _).alloc (Nat.le_refl _) _⟩
 obtain ⟨k,hk,rfl,hown,hbel⟩:=hrel
 have hsz:=hbel.size
 have HTW:Hid (Bruijn wr):=bruijn_below HT.out hbel
 have hlen:(gtL (gs.take k)).length≤100:=by
  have:=(gt_len (gs.take k)).1
  rw[List.length_take]at this
  omega
 by_cases hlt:k<gs.length
 ·have hce:=(HC.out.later hbel) k hlt
  have hm:gs.getD k 0<65536:=HG.out _ (by
   rw[List.getD_eq_getElem?_getD,List.getElem?_eq_getElem hlt]
   exact List.getElem_mem hlt)
  have HS:Hid (0<k→gtL (gs.take (k+1))=gtL (gs.take k)++[58]++hex4 (gs.getD k 0)):=fun h=>gt_succ gs k hlt h
  have HZ:Hid (k=0→gtL (gs.take (k+1))=gtL (gs.take k)++hex4 (gs.getD k 0)):=fun h=>by
   subst h
   rw[gt_zero gs hlt]
   rfl
  have CA:Hid (∀(v:Value) (l:List UInt8) (W:World),Bruijn W→W.ownsRow w.heap.size 5 1 v l.length (bcells l)→w.heap.size≤W.heap.size→l.length≤1000→Calls Tryz.prog 81 #[v,.int .i64 ((gs.getD k 0:Nat):Int),.int .i64 16] W fun e w'=> ∃v',e=.returned v'∧w'.ownsRow w.heap.size 5 1 v' (l++hex4 (gs.getD k 0)).length (bcells (l++hex4 (gs.getD k 0)))∧Below w.heap.size W w'):=fun v l W a b c d=>implAppHex _ _ v l W (by omega) (by omega) a b c d
  obtain ⟨x,hx⟩: ∃x:Int,((gs.getD k 0:Nat):Int)=x:=⟨_,rfl⟩
  rw[hx]at hce CA
  have hx0:0≤x:=by omega
  have hx1:x<65536:=by omega
  generalize gs.getD k 0=y at hx CA HS HZ hm
  clear hx hm
  by_cases h0:k=0
  ·subst h0
   rw[Nat.add_zero]at hce
   go_wp2_with fail
   refine (CA.out _ _ _ HTW.out hown hsz (by omega)).mono ?_
   rintro e wb ⟨vb,rfl,o2,b2⟩
   have B2:=hbel.trans b2
   clear hown hbel b2
   go_wp2_with fail
   go_roundw
   case rel=>
    refine ⟨1,by omega,by go_num,?_,B2⟩
    rw[show gtL (gs.take 1)=gtL (gs.take 0)++hex4 y from HZ.out (by trivial)]
    exact o2
   case measure=>simp[intOf];omega
  have hki:0<(k:Int):=by omega
  have HS2:Hid (gtL (gs.take (k+1))=gtL (gs.take k)++[58]++hex4 y):=HS.out (by omega)
  clear HS HZ h0
  go_wp2_with (at_builtin;refine wpList_append_new _ rfl _ _ 22 rfl w.heap.size 5 (.int .u8 0) 1 Tryz.underlying22 Tryz.info5 rfl _ _ _ rfl hown #[.int .u8 58] 1 rfl rfl (by intro u hu;simp at hu;subst hu;rfl) (by omega) (by unfold maxLen;omega) hsz ?_)
  intro v' w1 o3 b3
  have R:w1.ownsRow w.heap.size 5 1 v' (gtL (gs.take k)++[58]).length (bcells (gtL (gs.take k)++[58])):=by
   rw[bcells_snoc,List.length_append]
   exact o3
  have B3:=hbel.trans b3
  have HT3:Hid (Bruijn w1):=bruijn_below HT.out B3
  have z3:=B3.size
  have hl3:(gtL (gs.take k)++[58]).length≤1000:=by rw[List.length_append];simp;omega
  clear o3 b3 hown hbel
  go_wp2_with fail
  refine (CA.out _ _ _ HT3.out R z3 hl3).mono ?_
  rintro e wb ⟨vb,rfl,o2,b2⟩
  have B2:=B3.trans b2
  clear R b2 B3
  go_wp2_with fail
  go_roundw
  case rel=>
   refine ⟨k+1,by omega,by go_num,?_,B2⟩
   rw[HS2.out]
   exact o2
  case measure=>simp[intOf];omega
 have he:gs.take k=gs:=List.take_of_length_le (by omega)
 rw[he]at hown
 have hcv:=run_string_own (P:=Tryz.prog) wr 22 9 5 Tryz.underlying22 Tryz.underlying5 Tryz.underlying9 hown
 clear he hlen
 have hki: ¬(k:Int)<(gs.length:Int):=by omega
 go_wp2_with fail
 go_ret
 exact ⟨rfl,hbel⟩
def okG(z:List Int):Bool:=z.all fun x=>decide (0≤x∧x≤65535)
def zb(z:List Int):List Bool:=z.map fun x=>decide (x=0)
theorem okG_no{z:List Int}{y:Int}(hy:y∈z)(h: ¬(0≤y∧y≤65535)):okG z=false:=List.all_eq_false.2 ⟨y,hy,by simpa using h⟩
theorem okG_yes{z:List Int}(h: ∀x∈z,0≤x∧x≤65535):okG z=true:=List.all_eq_true.2 fun x hx=>decide_eq_true (h x hx)
theorem index8(x0 x1 x2 x3 x4 x5 x6 x7:Int)(k:Nat)(hk:k<8)(W:World):
  (Instr.index 25 (.agg #[.int .i64 x0,.int .i64 x1,.int .i64 x2,.int .i64 x3,.int .i64 x4,.int .i64 x5,.int .i64 x6,.int .i64 x7]) (.int .i64 (k:Int))).run Tryz.prog W=.ok (.int .i64 ([x0,x1,x2,x3,x4,x5,x6,x7].getD k 0)) W:=by
 have h:k=0∨k=1∨k=2∨k=3∨k=4∨k=5∨k=6∨k=7:=by omega
 rcases h with rfl|rfl|rfl|rfl|rfl|rfl|rfl|rfl<;>simp[Instr.index,run_underlying Tryz.underlying25,asIntOf,go_sem,part,Tryz.sizeOf3,Tryz.isAgg3]
theorem cell8(w:World)(x0 x1 x2 x3 x4 x5 x6 x7:Int)(k:Nat)(hk:k<8):
  (w.alloc (.cells #[.int .i64 x0,.int .i64 x1,.int .i64 x2,.int .i64 x3,.int .i64 x4,.int .i64 x5,.int .i64 x6,.int .i64 x7] 25)).cell? ⟨w.heap.size,k,none⟩=some (.int .i64 ([x0,x1,x2,x3,x4,x5,x6,x7].getD k 0)):=by
 rw[World.cell?_alloc_at _ _ _ _ rfl]
 have h:k=0∨k=1∨k=2∨k=3∨k=4∨k=5∨k=6∨k=7:=by omega
 rcases h with rfl|rfl|rfl|rfl|rfl|rfl|rfl|rfl<;>rfl
theorem implGroupsOk(x0 x1 x2 x3 x4 x5 x6 x7:Int)(w:World):
  Calls Tryz.prog 82 #[.agg #[.int .i64 x0,.int .i64 x1,.int .i64 x2,.int .i64 x3,.int .i64 x4,.int .i64 x5,.int .i64 x6,.int .i64 x7]] w fun e w'=>e=.returned (.bool (okG [x0,x1,x2,x3,x4,x5,x6,x7]))∧Below w.heap.size w w':=by
 have HI:Hid (∀k W,k<8→_):=fun k W hk=>index8 x0 x1 x2 x3 x4 x5 x6 x7 k hk W
 generalize hz:[x0,x1,x2,x3,x4,x5,x6,x7]=z at HI⊢
 have hzl:z.length=8:=by rw[←hz];rfl
 clear hz
 have HZL:Hid (z.length=8):=hzl
 clear hzl
 go_enter Tryz.func82,Tryz.ntmps82
 go_wp2
 go_loop[6] (fun i=> ∃k:Nat,k≤8∧i=.int .i64 k∧ ∀x∈z.take k,0≤x∧x≤65535) (fun i=>8-(intOf i).toNat)
 case atStart=>exact ⟨0,by omega,rfl,fun x hx=>by simp at hx⟩
 obtain ⟨k,hk,rfl,hall⟩:=hrel
 have HA:Hid (∀x∈z.take k,0≤x∧x≤65535):=hall
 clear hall
 by_cases hlt:k<8
 ·have hix:=fun W=>HI.out k W hlt
  have HT:Hid (z.take (k+1)=z.take k++[z.getD k 0]):=ztake_snoc z k (by have:=HZL.out;omega)
  have HM:Hid (z.getD k 0∈z):=by
   show _∈_
   rw[List.getD_eq_getElem?_getD,List.getElem?_eq_getElem (by have:=HZL.out;omega)]
   exact List.getElem_mem _
  generalize z.getD k 0=y at hix HT HM
  by_cases hy:0≤y∧y≤65535
  ·obtain ⟨hy0,hy1⟩:=hy
   go_wp2_with fail
   go_round
   case rel=>
    refine ⟨k+1,by omega,by go_num,fun x hx=> ?_⟩
    rw[HT.out]at hx
    rcases List.mem_append.1 hx with h|h
    ·exact HA.out x h
    rw[List.mem_singleton.1 h];exact ⟨hy0,hy1⟩
   case measure=>simp[intOf];omega
  have HF:Hid (okG z=false):=okG_no HM.out hy
  by_cases hy0:y<0
  ·clear hy
   go_wp2_with fail
   go_ret
   exact ⟨by rw[HF.out];rfl,(Below.refl _ _).alloc (Nat.le_refl _) _⟩
  have hy1:65535<y:=by omega
  clear hy
  go_wp2_with fail
  go_ret
  exact ⟨by rw[HF.out];rfl,(Below.refl _ _).alloc (Nat.le_refl _) _⟩
 have HF:Hid (okG z=true):=okG_yes fun x hx=>HA.out x (by rw[List.take_of_length_le (by have:=HZL.out;omega)];exact hx)
 go_wp2_with fail
 go_ret
 exact ⟨by rw[HF.out];rfl,(Below.refl _ _).alloc (Nat.le_refl _) _⟩
theorem zb_drop(z:List Int)(k:Nat)(h:k<z.length):(zb z).drop k=decide (z.getD k 0=0)::(zb z).drop (k+1):=by
 unfold zb
 rw[List.drop_eq_getElem_cons (by simpa using h)]
 simp[List.getD,h]
theorem zb_end(z:List Int)(k:Nat)(h:z.length≤k):(zb z).drop k=[]:=List.drop_of_length_le (by simpa[zb] using h)
theorem rowI_step(k f t b:Nat)(z:List Int)(h:k<z.length):rowI k (f,t,b) ((zb z).drop k)=rowI (k+1) (if z.getD k 0=0 then (if t-f<k+1-b then (b,k+1,b)else (f,t,b))else (f,t,k+1)) ((zb z).drop (k+1)):=by
 rw[zb_drop z k h,rowI]
 by_cases h0:z.getD k 0=0
 ·rw[if_pos h0,decide_eq_true h0];rfl
 rw[if_neg h0,decide_eq_false h0];rfl
def rowV(r:Nat×Nat×Nat):Value:=.tuple #[.int .i64 (r.1:Int),.int .i64 (r.2.1:Int)]
theorem implLongest(x0 x1 x2 x3 x4 x5 x6 x7:Int)(w:World):
  Calls Tryz.prog 83 #[.agg #[.int .i64 x0,.int .i64 x1,.int .i64 x2,.int .i64 x3,.int .i64 x4,.int .i64 x5,.int .i64 x6,.int .i64 x7]] w fun e w'=>e=.returned (rowV (rowI 0 (0,0,0) (zb [x0,x1,x2,x3,x4,x5,x6,x7])))∧Below w.heap.size w w':=by
 have HI:Hid (∀k W,k<8→_):=fun k W hk=>index8 x0 x1 x2 x3 x4 x5 x6 x7 k hk W
 generalize hz:[x0,x1,x2,x3,x4,x5,x6,x7]=z at HI⊢
 have hzl:z.length=8:=by rw[←hz];rfl
 clear hz
 have HZL:Hid (z.length=8):=hzl
 clear hzl
 go_enter Tryz.func83,Tryz.ntmps83
 go_wp2
 go_loop[4,5,6,10] (fun x y v i=> ∃k f t b:Nat,k≤8∧i=.int .i64 k∧x=.int .i64 f∧y=.int .i64 t∧v=.int .i64 b∧f≤t∧t≤k∧b≤k∧rowI k (f,t,b) ((zb z).drop k)=rowI 0 (0,0,0) (zb z)) (fun _ _ _ i=>8-(intOf i).toNat)
 case atStart=>exact ⟨0,0,0,0,by omega,rfl,rfl,rfl,rfl,by omega,by omega,by omega,rfl⟩
 obtain ⟨k,f,t,b,hk,rfl,rfl,rfl,rfl,h1,h2,h3,hr⟩:=hrel
 have HR:Hid (rowI k (f,t,b) ((zb z).drop k)=rowI 0 (0,0,0) (zb z)):=hr
 clear hr
 by_cases hlt:k<8
 ·have hix:=fun W=>HI.out k W hlt
  have HS:Hid (_=_):=rowI_step k f t b z (by have:=HZL.out;omega)
  generalize z.getD k 0=y at hix HS
  by_cases hy:y=0
  ·subst hy
   by_cases hc:t-f<k+1-b
   ·have HG:Hid (rowI (k+1) (b,k+1,b) ((zb z).drop (k+1))=rowI 0 (0,0,0) (zb z)):=by
     show _=_
     rw[←HR.out,HS.out,if_pos rfl,if_pos hc]
    have hc':(t:Int)-f<(k:Int)+1-b:=by omega
    clear hc
    go_wp2_with fail
    go_round
    case rel=>exact ⟨k+1,b,k+1,b,by omega,by go_num,by go_num,by go_num,by go_num,by omega,by omega,by omega,HG.out⟩
    case measure=>simp[intOf];omega
   have HG:Hid (rowI (k+1) (f,t,b) ((zb z).drop (k+1))=rowI 0 (0,0,0) (zb z)):=by
    show _=_
    rw[←HR.out,HS.out,if_pos rfl,if_neg hc]
   have hc': ¬(t:Int)-f<(k:Int)+1-b:=by omega
   clear hc
   go_wp2_with fail
   go_round
   case rel=>exact ⟨k+1,f,t,b,by omega,by go_num,by go_num,by go_num,by go_num,by omega,by omega,by omega,HG.out⟩
   case measure=>simp[intOf];omega
  have HG:Hid (rowI (k+1) (f,t,k+1) ((zb z).drop (k+1))=rowI 0 (0,0,0) (zb z)):=by
   show _=_
   rw[←HR.out,HS.out,if_neg hy]
  have hy':(y==0)=false:=by simpa using hy
  clear hy
  go_wp2_with fail
  go_round
  case rel=>exact ⟨k+1,f,t,k+1,by omega,by go_num,by go_num,by go_num,by go_num,by omega,by omega,by omega,HG.out⟩
  case measure=>simp[intOf];omega
 have HG:Hid (rowI 0 (0,0,0) (zb z)=(f,t,b)):=by
  show _=_
  rw[←HR.out,zb_end z k (by have:=HZL.out;omega)]
  rfl
 have hki: ¬(k:Int)<8:=by omega
 go_wp2_with fail
 go_ret2
 exact ⟨by rw[HG.out];rfl,(Below.refl _ _).alloc (Nat.le_refl _) _⟩
end Go.Proofs.YtijliddchoehhaaGreatDoor
