/- NameSpec, NameImpl. -/
import Derived.Test.YtijliddchoehhaaGreatDoorQA23
set_option maxHeartbeats 4000000
namespace Go.Proofs.YtijliddchoehhaaGreatDoor
open Go.RowKit
theorem ansS_asc(s:ByteArray):ansS (ascL s.data.toList)=match ascB s with
  |some a=> .tuple #[.string a,.bool true]
  |none=> .tuple #[.string ⟨#[]⟩,.bool false]:=by
 unfold ascB ansS
 cases ascL s.data.toList<;>rfl
theorem take_ascs{fs ls:List ByteArray}{k:Nat}(hk:k<fs.length)(h:ascs (fs.take k)=some ls):ascs (fs.take (k+1))=match ascB (fs.getD k ByteArray.empty)with
  |some a=>some (ls++[a])
  |none=>none:=by
 rw[btake_snoc fs k hk,ascs_append,h]
 simp only[ascs]
 cases ascB (fs.getD k ByteArray.empty)<;>rfl
theorem ascs_none_of{fs:List ByteArray}{k:Nat}(h:ascs (fs.take k)=none):ascs fs=none:=by
 rw[←List.take_append_drop k fs,ascs_append,h]
theorem names_over{fs ls:List ByteArray}{k:Nat}(h:ascs (fs.take k)=some ls)(h2: ¬(jn 46 ls).length≤253):namesL fs=none:=by
 have e:=ascs_append (fs.take k) (fs.drop k)
 rw[List.take_append_drop,h]at e
 cases hd:ascs (fs.drop k)with
 |none=>rw[hd]at e;exact namesL_no e
 |some ms=>
  rw[hd]at e
  refine namesL_big e fun hh=>h2 (Nat.le_trans (jn_le 46 ls ms) hh)
theorem name_ans_no{r:Option (List UInt8)}(h:r=none):ansS r=.tuple #[.string ⟨#[]⟩,.bool false]:=by rw[h];rfl
theorem name_ans_yes{r:Option (List UInt8)}{t:List UInt8}(h:r=some t):ansS r=.tuple #[.string ⟨t.toArray⟩,.bool true]:=by rw[h];rfl
theorem len_data(z:ByteArray):z.data.toList.length=z.size:=by simp
theorem arr_data(z:ByteArray):(⟨z.data.toList.toArray⟩:ByteArray)=z:=by
 apply ByteArray.ext
 apply Array.toList_inj.1
 rfl
theorem specNameOf(s:ByteArray)(w:World)(hs:s.size≤1048576):
  Calls Tryz.prog 57 #[.string s] w fun e w'=>e=.returned (ansS (nameL s))∧Below w.heap.size w w':=by
 have CF:Hid (Calls Tryz.prog 66 #[.string s,.int .u8 46] w fun e w'=> ∃v,e=.returned v∧w'.ownsRow w.heap.size 9 1 v (fieldsL s 46).length (scells (fieldsL s 46))∧Below w.heap.size w w'):=specFields s 46 w hs
 have hpos:0<(fieldsL s 46).length:=by simp[fieldsL]
 have hlen:(fieldsL s 46).length≤1048577:=by
  have:=(fieldsTo_le s 46 s.size).2
  simp[fieldsL];omega
 have HSZ0:Hid (∀x∈fieldsL s 46,x.size≤1048576):=fields_sizes46 s hs
 have HNM0:Hid (nameL s=namesL (dropE (fieldsL s 46))):=rfl
 generalize fieldsL s 46=f0 at CF hpos hlen HSZ0 HNM0
 by_cases hd:1<f0.length∧(f0.getD (f0.length-1) ByteArray.empty).size=0
 ·have HNM:Hid (nameL s=namesL (f0.take (f0.length-1))):=by
   have h:=HNM0.out
   unfold dropE at h
   rw[if_pos hd]at h
   exact h
  have HSZ:Hid (∀x∈f0.take (f0.length-1),x.size≤1048576):=fun x hx=>HSZ0.out x (List.mem_of_mem_take hx)
  have hl1:1<(f0.length:Int):=by omega
  have hem:=empty_yes hd.2
  clear hd
  go_enter Tryz.func57,Tryz.ntmps57
  go_wp2_with fail
  refine CF.out.mono ?_
  rintro e wa ⟨va,rfl,oa,ba⟩
  rcases own_shape oa with ⟨h,_⟩|⟨_,g,cap,rfl⟩
  ·omega
  have hc:=scell_at oa (f0.length-1) (by omega)
  have hcap:f0.length≤cap:=by
   rcases oa.2 with ⟨h,_⟩|⟨_,_,_,h,_,_,h3,_⟩
   ·cases h
   cases h;exact h3
  have OV:=own_take oa (f0.length-1) (by omega)
  rw[scells_take]at OV
  have hi:((f0.length:Int)-1)=((f0.length-1:Nat):Int):=by omega
  generalize f0.getD (f0.length-1) ByteArray.empty=q at hc hem
  clear oa
  go_wp2_with fail
  obtain ⟨m,hm⟩: ∃m,f0.length-1=m:=⟨_,rfl⟩
  rw[hm]at OV HNM HSZ⊢
  obtain ⟨fs,hfs⟩: ∃fs,f0.take m=fs:=⟨_,rfl⟩
  rw[hfs]at OV HNM HSZ
  have hml:m=fs.length:=by rw[←hfs,List.length_take];omega
  have hlen2:fs.length≤1048577:=by omega
  clear hfs hm hc hi
  subst hml
  go_loopw[5,6] (fun o i wr=> ∃(k:Nat) (ls:List ByteArray) (z:ByteArray),k≤fs.length∧i=.int .i64 k∧ascs (fs.take k)=some ls∧o=.string z∧z.data.toList=jn 46 ls∧z.size≤253∧wr.ownsRow w.heap.size 9 1 (.slice (some ⟨g,0,none⟩) fs.length cap) fs.length (scells fs)∧Below w.heap.size w wr)
   (fun _ i _=>fs.length-(intOf i).toNat)
  case atStart=>exact ⟨0,[],⟨#[]⟩,Nat.zero_le _,rfl,rfl,rfl,rfl,by decide,OV,ba⟩
  obtain ⟨k,ls,z,hk,rfl,hls,rfl,hz,hz2,ow,hbel⟩:=hrel
  have HLS:Hid (ascs (fs.take k)=some ls):=hls
  have HZ:Hid (z.data.toList=jn 46 ls):=hz
  have HLN:Hid (ls.length=k):=by show _=_;rw[ascs_len hls,List.length_take];omega
  have hz3:(z.size:Int)≤253:=by omega
  clear hls hz
  by_cases hlt:k<fs.length
  ·have hc:=scell_at ow k hlt
   have hTA:=take_ascs hlt HLS.out
   have hsz:=hbel.size
   have CT:Hid (∀W,CB 89 #[.string (fs.getD k ByteArray.empty)] W (ansS (ascL (fs.getD k ByteArray.empty).data.toList))):=fun W=>specToAscii _ W (HSZ.out _ (by rw[List.getD_eq_getElem?_getD,List.getElem?_eq_getElem hlt];exact List.getElem_mem hlt))
   rw[ansS_asc]at CT
   generalize fs.getD k ByteArray.empty=y at hc hTA CT
   have hkl:(k:Int)<fs.length:=by omega
   cases ha:ascB y with
   |none=>
    rw[ha]at CT hTA
    have HF:Hid (ansS (nameL s)=.tuple #[.string ⟨#[]⟩,.bool false]):=name_ans_no (HNM.out.trans (namesL_no (ascs_none_of hTA)))
    clear ha hTA
    go_wp2_with fail
    refine (CT.out _).mono ?_
    rintro e wb ⟨rfl,bb⟩
    have b2:=hbel.trans (bb.mono hsz)
    clear hbel bb ow
    go_wp2_with fail
    go_ret2
    exact ⟨by rw[HF.out];rfl,b2⟩
   |some a=>
    rw[ha]at CT hTA
    have hal:a.size≤63:=by
     have:=(labL_parts (ascB_lab ha).1).2.1
     simpa using this
    have HTA:Hid (ascs (fs.take (k+1))=some (ls++[a])):=hTA
    clear ha hTA
    by_cases hk0:0<k
    ·first
     |(exfalso;omega)
     |(
       have HJ:Hid (((z++⟨#[46]⟩)++a).data.toList=jn 46 (ls++[a])):=by
        show _=_
        rw[jn_snoc 46 ls a (by intro h;have:=HLN.out;rw[h]at this;simp at this;omega),←HZ.out]
        simp
       have hzs:((z++(⟨#[46]⟩:ByteArray))++a).size=z.size+1+a.size:=by
        rw[ByteArray.size_append,ByteArray.size_append];rfl
       by_cases hov:((z++(⟨#[46]⟩:ByteArray))++a).size≤253
       ·have hov': ¬253<((((z++(⟨#[46]⟩:ByteArray))++a).size:Nat):Int):=by omega
        go_wp2_with fail
        refine (CT.out _).mono ?_
        rintro e wb ⟨rfl,bb⟩
        have b2:=hbel.trans (bb.mono hsz)
        have o2:=own_below ow bb
        clear hbel bb ow
        go_wp2_with fail
        go_roundw
        case rel=>exact ⟨k+1,ls++[a],_,by omega,by go_num,HTA.out,rfl,HJ.out,hov,o2,b2⟩
        case measure=>simp[intOf];omega
       have hov':253<((((z++(⟨#[46]⟩:ByteArray))++a).size:Nat):Int):=by omega
       have HF:Hid (ansS (nameL s)=.tuple #[.string ⟨#[]⟩,.bool false]):=name_ans_no (HNM.out.trans (names_over HTA.out (by
        rw[←HJ.out]
        have e:=len_data ((z++(⟨#[46]⟩:ByteArray))++a)
        omega)))
       go_wp2_with fail
       refine (CT.out _).mono ?_
       rintro e wb ⟨rfl,bb⟩
       have b2:=hbel.trans (bb.mono hsz)
       clear hbel bb ow
       go_wp2_with fail
       go_ret2
       exact ⟨by rw[HF.out];rfl,b2⟩)
    have hk00:k=0:=by omega
    subst hk00
    have hl0:ls=[]:=List.eq_nil_of_length_eq_zero HLN.out
    subst hl0
    have hz0:z=⟨#[]⟩:=by
     rw[←arr_data z,HZ.out];rfl
    subst hz0
    have HJ:Hid (((⟨#[]⟩:ByteArray)++a).data.toList=jn 46 ([]++[a])):=by
     show _=_
     rw[jn_one]
     simp
    have hzs:((⟨#[]⟩:ByteArray)++a).size=a.size:=by
     rw[ByteArray.size_append];exact Nat.zero_add _
    have hov': ¬253<((((⟨#[]⟩:ByteArray)++a).size:Nat):Int):=by omega
    go_wp2_with fail
    refine (CT.out _).mono ?_
    rintro e wb ⟨rfl,bb⟩
    have b2:=hbel.trans (bb.mono hsz)
    have o2:=own_below ow bb
    clear hbel bb ow
    go_wp2_with fail
    go_roundw
    case rel=>exact ⟨0+1,[]++[a],_,by omega,by go_num,HTA.out,rfl,HJ.out,by omega,o2,b2⟩
    case measure=>simp[intOf];omega
  have hks:k=fs.length:=by omega
  have HF:Hid (ansS (nameL s)=.tuple #[.string z,.bool true]):=by
   have h:=HLS.out
   rw[hks,List.take_length]at h
   have h2:(jn 46 ls).length≤253:=by
    rw[←HZ.out]
    have e:=len_data z
    omega
   have h3:=name_ans_yes (HNM.out.trans (namesL_yes h h2))
   rw[←HZ.out,arr_data]at h3
   exact h3
  subst hks
  go_wp2_with fail
  go_ret2
  exact ⟨by rw[HF.out];rfl,hbel⟩
 have HNM:Hid (nameL s=namesL f0):=by
  have h:=HNM0.out
  unfold dropE at h
  rw[if_neg hd]at h
  exact h
 by_cases hl1:1<f0.length
 ·have hl1':1<(f0.length:Int):=by omega
  have hem:=empty_no (u:=f0.getD (f0.length-1) ByteArray.empty) (by apply Nat.pos_of_ne_zero;intro h;exact hd ⟨hl1,h⟩)
  clear hd
  go_enter Tryz.func57,Tryz.ntmps57
  go_wp2_with fail
  refine CF.out.mono ?_
  rintro e wa ⟨va,rfl,OV,ba⟩
  rcases own_shape OV with ⟨h,_⟩|⟨_,g,cap,rfl⟩
  ·omega
  have hc:=scell_at OV (f0.length-1) (by omega)
  have hi:((f0.length:Int)-1)=((f0.length-1:Nat):Int):=by omega
  generalize f0.getD (f0.length-1) ByteArray.empty=q at hc hem
  go_wp2_with fail
  clear hc hi hem hl1 hl1'
  have HSZ:=HSZ0
  go_loopw[5,6] (fun o i wr=> ∃(k:Nat) (ls:List ByteArray) (z:ByteArray),k≤f0.length∧i=.int .i64 k∧ascs (f0.take k)=some ls∧o=.string z∧z.data.toList=jn 46 ls∧z.size≤253∧wr.ownsRow w.heap.size 9 1 (.slice (some ⟨g,0,none⟩) f0.length cap) f0.length (scells f0)∧Below w.heap.size w wr)
   (fun _ i _=>f0.length-(intOf i).toNat)
  case atStart=>exact ⟨0,[],⟨#[]⟩,Nat.zero_le _,rfl,rfl,rfl,rfl,by decide,OV,ba⟩
  obtain ⟨k,ls,z,hk,rfl,hls,rfl,hz,hz2,ow,hbel⟩:=hrel
  have HLS:Hid (ascs (f0.take k)=some ls):=hls
  have HZ:Hid (z.data.toList=jn 46 ls):=hz
  have HLN:Hid (ls.length=k):=by show _=_;rw[ascs_len hls,List.length_take];omega
  have hz3:(z.size:Int)≤253:=by omega
  clear hls hz
  by_cases hlt:k<f0.length
  ·have hc:=scell_at ow k hlt
   have hTA:=take_ascs hlt HLS.out
   have hsz:=hbel.size
   have CT:Hid (∀W,CB 89 #[.string (f0.getD k ByteArray.empty)] W (ansS (ascL (f0.getD k ByteArray.empty).data.toList))):=fun W=>specToAscii _ W (HSZ.out _ (by rw[List.getD_eq_getElem?_getD,List.getElem?_eq_getElem hlt];exact List.getElem_mem hlt))
   rw[ansS_asc]at CT
   generalize f0.getD k ByteArray.empty=y at hc hTA CT
   have hkl:(k:Int)<f0.length:=by omega
   cases ha:ascB y with
   |none=>
    rw[ha]at CT hTA
    have HF:Hid (ansS (nameL s)=.tuple #[.string ⟨#[]⟩,.bool false]):=name_ans_no (HNM.out.trans (namesL_no (ascs_none_of hTA)))
    clear ha hTA
    go_wp2_with fail
    refine (CT.out _).mono ?_
    rintro e wb ⟨rfl,bb⟩
    have b2:=hbel.trans (bb.mono hsz)
    clear hbel bb ow
    go_wp2_with fail
    go_ret2
    exact ⟨by rw[HF.out];rfl,b2⟩
   |some a=>
    rw[ha]at CT hTA
    have hal:a.size≤63:=by
     have:=(labL_parts (ascB_lab ha).1).2.1
     simpa using this
    have HTA:Hid (ascs (f0.take (k+1))=some (ls++[a])):=hTA
    clear ha hTA
    by_cases hk0:0<k
    ·first
     |(exfalso;omega)
     |(
       have HJ:Hid (((z++⟨#[46]⟩)++a).data.toList=jn 46 (ls++[a])):=by
        show _=_
        rw[jn_snoc 46 ls a (by intro h;have:=HLN.out;rw[h]at this;simp at this;omega),←HZ.out]
        simp
       have hzs:((z++(⟨#[46]⟩:ByteArray))++a).size=z.size+1+a.size:=by
        rw[ByteArray.size_append,ByteArray.size_append];rfl
       by_cases hov:((z++(⟨#[46]⟩:ByteArray))++a).size≤253
       ·have hov': ¬253<((((z++(⟨#[46]⟩:ByteArray))++a).size:Nat):Int):=by omega
        go_wp2_with fail
        refine (CT.out _).mono ?_
        rintro e wb ⟨rfl,bb⟩
        have b2:=hbel.trans (bb.mono hsz)
        have o2:=own_below ow bb
        clear hbel bb ow
        go_wp2_with fail
        go_roundw
        case rel=>exact ⟨k+1,ls++[a],_,by omega,by go_num,HTA.out,rfl,HJ.out,hov,o2,b2⟩
        case measure=>simp[intOf];omega
       have hov':253<((((z++(⟨#[46]⟩:ByteArray))++a).size:Nat):Int):=by omega
       have HF:Hid (ansS (nameL s)=.tuple #[.string ⟨#[]⟩,.bool false]):=name_ans_no (HNM.out.trans (names_over HTA.out (by
        rw[←HJ.out]
        have e:=len_data ((z++(⟨#[46]⟩:ByteArray))++a)
        omega)))
       go_wp2_with fail
       refine (CT.out _).mono ?_
       rintro e wb ⟨rfl,bb⟩
       have b2:=hbel.trans (bb.mono hsz)
       clear hbel bb ow
       go_wp2_with fail
       go_ret2
       exact ⟨by rw[HF.out];rfl,b2⟩)
    have hk00:k=0:=by omega
    subst hk00
    have hl0:ls=[]:=List.eq_nil_of_length_eq_zero HLN.out
    subst hl0
    have hz0:z=⟨#[]⟩:=by
     rw[←arr_data z,HZ.out];rfl
    subst hz0
    have HJ:Hid (((⟨#[]⟩:ByteArray)++a).data.toList=jn 46 ([]++[a])):=by
     show _=_
     rw[jn_one]
     simp
    have hzs:((⟨#[]⟩:ByteArray)++a).size=a.size:=by
     rw[ByteArray.size_append];exact Nat.zero_add _
    have hov': ¬253<((((⟨#[]⟩:ByteArray)++a).size:Nat):Int):=by omega
    go_wp2_with fail
    refine (CT.out _).mono ?_
    rintro e wb ⟨rfl,bb⟩
    have b2:=hbel.trans (bb.mono hsz)
    have o2:=own_below ow bb
    clear hbel bb ow
    go_wp2_with fail
    go_roundw
    case rel=>exact ⟨0+1,[]++[a],_,by omega,by go_num,HTA.out,rfl,HJ.out,by omega,o2,b2⟩
    case measure=>simp[intOf];omega
  have hks:k=f0.length:=by omega
  have HF:Hid (ansS (nameL s)=.tuple #[.string z,.bool true]):=by
   have h:=HLS.out
   rw[hks,List.take_length]at h
   have h2:(jn 46 ls).length≤253:=by
    rw[←HZ.out]
    have e:=len_data z
    omega
   have h3:=name_ans_yes (HNM.out.trans (namesL_yes h h2))
   rw[←HZ.out,arr_data]at h3
   exact h3
  subst hks
  go_wp2_with fail
  go_ret2
  exact ⟨by rw[HF.out];rfl,hbel⟩
 have hl1': ¬1<(f0.length:Int):=by omega
 clear hd
 go_enter Tryz.func57,Tryz.ntmps57
 go_wp2_with fail
 refine CF.out.mono ?_
 rintro e wa ⟨va,rfl,OV,ba⟩
 rcases own_shape OV with ⟨h,_⟩|⟨_,g,cap,rfl⟩
 ·omega
 go_wp2_with fail
 clear hl1 hl1'
 have HSZ:=HSZ0
 go_loopw[5,6] (fun o i wr=> ∃(k:Nat) (ls:List ByteArray) (z:ByteArray),k≤f0.length∧i=.int .i64 k∧ascs (f0.take k)=some ls∧o=.string z∧z.data.toList=jn 46 ls∧z.size≤253∧wr.ownsRow w.heap.size 9 1 (.slice (some ⟨g,0,none⟩) f0.length cap) f0.length (scells f0)∧Below w.heap.size w wr)
  (fun _ i _=>f0.length-(intOf i).toNat)
 case atStart=>exact ⟨0,[],⟨#[]⟩,Nat.zero_le _,rfl,rfl,rfl,rfl,by decide,OV,ba⟩
 obtain ⟨k,ls,z,hk,rfl,hls,rfl,hz,hz2,ow,hbel⟩:=hrel
 have HLS:Hid (ascs (f0.take k)=some ls):=hls
 have HZ:Hid (z.data.toList=jn 46 ls):=hz
 have HLN:Hid (ls.length=k):=by show _=_;rw[ascs_len hls,List.length_take];omega
 have hz3:(z.size:Int)≤253:=by omega
 clear hls hz
 by_cases hlt:k<f0.length
 ·have hc:=scell_at ow k hlt
  have hTA:=take_ascs hlt HLS.out
  have hsz:=hbel.size
  have CT:Hid (∀W,CB 89 #[.string (f0.getD k ByteArray.empty)] W (ansS (ascL (f0.getD k ByteArray.empty).data.toList))):=fun W=>specToAscii _ W (HSZ.out _ (by rw[List.getD_eq_getElem?_getD,List.getElem?_eq_getElem hlt];exact List.getElem_mem hlt))
  rw[ansS_asc]at CT
  generalize f0.getD k ByteArray.empty=y at hc hTA CT
  have hkl:(k:Int)<f0.length:=by omega
  cases ha:ascB y with
  |none=>
   rw[ha]at CT hTA
   have HF:Hid (ansS (nameL s)=.tuple #[.string ⟨#[]⟩,.bool false]):=name_ans_no (HNM.out.trans (namesL_no (ascs_none_of hTA)))
   clear ha hTA
   go_wp2_with fail
   refine (CT.out _).mono ?_
   rintro e wb ⟨rfl,bb⟩
   have b2:=hbel.trans (bb.mono hsz)
   clear hbel bb ow
   go_wp2_with fail
   go_ret2
   exact ⟨by rw[HF.out];rfl,b2⟩
  |some a=>
   rw[ha]at CT hTA
   have hal:a.size≤63:=by
    have:=(labL_parts (ascB_lab ha).1).2.1
    simpa using this
   have HTA:Hid (ascs (f0.take (k+1))=some (ls++[a])):=hTA
   clear ha hTA
   by_cases hk0:0<k
   ·first
    |(exfalso;omega)
    |(
      have HJ:Hid (((z++⟨#[46]⟩)++a).data.toList=jn 46 (ls++[a])):=by
       show _=_
       rw[jn_snoc 46 ls a (by intro h;have:=HLN.out;rw[h]at this;simp at this;omega),←HZ.out]
       simp
      have hzs:((z++(⟨#[46]⟩:ByteArray))++a).size=z.size+1+a.size:=by
       rw[ByteArray.size_append,ByteArray.size_append];rfl
      by_cases hov:((z++(⟨#[46]⟩:ByteArray))++a).size≤253
      ·have hov': ¬253<((((z++(⟨#[46]⟩:ByteArray))++a).size:Nat):Int):=by omega
       go_wp2_with fail
       refine (CT.out _).mono ?_
       rintro e wb ⟨rfl,bb⟩
       have b2:=hbel.trans (bb.mono hsz)
       have o2:=own_below ow bb
       clear hbel bb ow
       go_wp2_with fail
       go_roundw
       case rel=>exact ⟨k+1,ls++[a],_,by omega,by go_num,HTA.out,rfl,HJ.out,hov,o2,b2⟩
       case measure=>simp[intOf];omega
      have hov':253<((((z++(⟨#[46]⟩:ByteArray))++a).size:Nat):Int):=by omega
      have HF:Hid (ansS (nameL s)=.tuple #[.string ⟨#[]⟩,.bool false]):=name_ans_no (HNM.out.trans (names_over HTA.out (by
       rw[←HJ.out]
       have e:=len_data ((z++(⟨#[46]⟩:ByteArray))++a)
       omega)))
      go_wp2_with fail
      refine (CT.out _).mono ?_
      rintro e wb ⟨rfl,bb⟩
      have b2:=hbel.trans (bb.mono hsz)
      clear hbel bb ow
      go_wp2_with fail
      go_ret2
      exact ⟨by rw[HF.out];rfl,b2⟩)
   have hk00:k=0:=by omega
   subst hk00
   have hl0:ls=[]:=List.eq_nil_of_length_eq_zero HLN.out
   subst hl0
   have hz0:z=⟨#[]⟩:=by
    rw[←arr_data z,HZ.out];rfl
   subst hz0
   have HJ:Hid (((⟨#[]⟩:ByteArray)++a).data.toList=jn 46 ([]++[a])):=by
    show _=_
    rw[jn_one]
    simp
   have hzs:((⟨#[]⟩:ByteArray)++a).size=a.size:=by
    rw[ByteArray.size_append];exact Nat.zero_add _
   have hov': ¬253<((((⟨#[]⟩:ByteArray)++a).size:Nat):Int):=by omega
   go_wp2_with fail
   refine (CT.out _).mono ?_
   rintro e wb ⟨rfl,bb⟩
   have b2:=hbel.trans (bb.mono hsz)
   have o2:=own_below ow bb
   clear hbel bb ow
   go_wp2_with fail
   go_roundw
   case rel=>exact ⟨0+1,[]++[a],_,by omega,by go_num,HTA.out,rfl,HJ.out,by omega,o2,b2⟩
   case measure=>simp[intOf];omega
 have hks:k=f0.length:=by omega
 have HF:Hid (ansS (nameL s)=.tuple #[.string z,.bool true]):=by
  have h:=HLS.out
  rw[hks,List.take_length]at h
  have h2:(jn 46 ls).length≤253:=by
   rw[←HZ.out]
   have e:=len_data z
   omega
  have h3:=name_ans_yes (HNM.out.trans (namesL_yes h h2))
  rw[←HZ.out,arr_data]at h3
  exact h3
 subst hks
 go_wp2_with fail
 go_ret2
 exact ⟨by rw[HF.out];rfl,hbel⟩
def eachAns(w w':World)(r:Option (List ByteArray))(e:Ending):Prop:=match r with
 |some ls=> ∃v,e=.returned (.tuple #[v,.bool true])∧w'.ownsRow w.heap.size 9 1 v ls.length (scells ls)
 |none=> ∃v,e=.returned (.tuple #[v,.bool false])
theorem implEach(fs:List ByteArray)(B:Nat)(v:Value)(w:World)(hpos:0<fs.length)(hlen:fs.length≤1048577)(hsz: ∀x∈fs,x.size≤1048576)(hT:Lib.Utf8Tabs 2 3 w)
  (hown:w.ownsRow B 9 1 v fs.length (scells fs)):
  Calls Tryz.prog 86 #[v,.func (.func 87) #[] #[]] w fun e w'=>eachAns w w' (ascs fs) e∧Below w.heap.size w w':=by
 obtain ⟨i0,hi,hz0,hz1,hz2⟩:=info_parts Tryz.infoStr
 have HSZ:Hid (∀x∈fs,x.size≤1048576):=hsz
 have HT:Hid (Lib.Utf8Tabs 2 3 w):=hT
 clear hsz hT
 rcases own_shape hown with ⟨h,_⟩|⟨_,g,cap,rfl⟩
 ·omega
 have HOW:Hid (w.ownsRow B 9 1 (.slice (some ⟨g,0,none⟩) fs.length cap) fs.length (scells fs)):=hown
 clear hown
 go_enter Tryz.func86,Tryz.ntmps86
 go_wp2_with (at_make;refine wpList_make_own _ rfl _ _ 60 rfl w.heap.size 9 i0 (.string ⟨#[]⟩) 1 Tryz.underlying60 hi hz0 hz1 _ _ _ fs.length rfl rfl (by omega) (by rw[hz2];omega) (by unfold maxLen;omega) (Nat.le_refl _) ?_)
 intro wm hmo hgm
 have Bm:Below w.heap.size w wm:=(Below.refl _ _).grown hgm (Nat.le_refl _) (fun k hk=>by cases hk)
 have o9:wm.ownsRow w.heap.size 9 1 (.slice (some ⟨w.heap.size,0,none⟩) 0 fs.length) 0 []:=hmo
 clear hmo hgm
 go_wp2_with fail
 go_loopw[6,16] (fun m i wr=> ∃(k:Nat) (ls:List ByteArray),k≤fs.length∧i=.int .i64 k∧ascs (fs.take k)=some ls∧wr.ownsRow w.heap.size 9 1 m ls.length (scells ls)∧Below w.heap.size w wr)
  (fun _ i _=>fs.length-(intOf i).toNat)
 case atStart=>exact ⟨0,[],Nat.zero_le _,rfl,rfl,o9,Bm⟩
 obtain ⟨k,ls,hk,rfl,hls,ow,hbel⟩:=hrel
 clear o9 Bm
 have HLS:Hid (ascs (fs.take k)=some ls):=hls
 have hln:ls.length=k:=by rw[ascs_len hls,List.length_take];omega
 clear hls
 have hsz:=hbel.size
 by_cases hlt:k<fs.length
 ·have hc:=scell_at (own_below HOW.out hbel) k hlt
  have hTA:=take_ascs hlt HLS.out
  have CT:Hid (∀W,Lib.Utf8Tabs 2 3 W→CB 87 #[.string (fs.getD k ByteArray.empty)] W (ansS (ascL (fs.getD k ByteArray.empty).data.toList))):=fun W hT=>implToAscii _ W (HSZ.out _ (by rw[List.getD_eq_getElem?_getD,List.getElem?_eq_getElem hlt];exact List.getElem_mem hlt)) hT
  have HTW:Hid (Lib.Utf8Tabs 2 3 wr):=tabs_below HT.out hbel
  rw[ansS_asc]at CT
  generalize fs.getD k ByteArray.empty=y at hc hTA CT
  have hkl:(k:Int)<fs.length:=by omega
  cases ha:ascB y with
  |none=>
   rw[ha]at CT hTA
   have HF:Hid (ascs fs=none):=ascs_none_of hTA
   clear ha hTA
   go_wp2_with fail
   refine (CT.out _ HTW.out).mono ?_
   rintro e wb ⟨rfl,bb⟩
   have b2:=hbel.trans (bb.mono hsz)
   clear hbel bb ow
   go_wp2_with fail
   go_ret2
   rw[HF.out]
   exact ⟨⟨_,rfl⟩,b2⟩
  |some a=>
   rw[ha]at CT hTA
   have HTA:Hid (ascs (fs.take (k+1))=some (ls++[a])):=hTA
   clear ha hTA
   go_wp2_with fail
   refine (CT.out _ HTW.out).mono ?_
   rintro e wb ⟨rfl,bb⟩
   have b2:=hbel.trans (bb.mono hsz)
   have o2:=own_below ow bb
   have z2:=b2.size
   clear hbel bb ow HTW CT
   go_wp2_with (at_builtin;refine wpList_append_new _ rfl _ _ 60 rfl w.heap.size 9 (.string ⟨#[]⟩) 16 Tryz.underlying60 Tryz.infoStr rfl _ _ _ rfl o2 #[.string a] 1 rfl rfl (str_one _) (by omega) (by unfold maxLen;omega) z2 ?_)
   intro v' w1 ow' hb1
   have R:w1.ownsRow w.heap.size 9 1 v' (ls++[a]).length (scells (ls++[a])):=by
    rw[scells_snoc,List.length_append,hln]
    exact ow'
   have B1:Below w.heap.size w w1:=b2.trans hb1
   clear ow' hb1 o2 b2
   go_wp2_with fail
   go_roundw
   case rel=>exact ⟨k+1,ls++[a],by omega,by go_num,HTA.out,R,B1⟩
   case measure=>simp[intOf];omega
 have hks:k=fs.length:=by omega
 have HF:Hid (ascs fs=some ls):=by
  have h:=HLS.out
  rw[hks,List.take_length]at h
  exact h
 go_wp2_with fail
 go_ret2
 rw[HF.out]
 exact ⟨⟨_,rfl,ow⟩,hbel⟩
theorem implNameOf(s:ByteArray)(w:World)(hs:s.size≤1048576)(hT:Lib.Utf8Tabs 2 3 w):
  Calls Tryz.prog 52 #[.string s] w fun e w'=>e=.returned (ansS (nameL s))∧Below w.heap.size w w':=by
 have CF:Hid (Calls Tryz.prog 28 #[.string s,.int .u8 46] w fun e w'=> ∃v,e=.returned v∧w'.ownsRow w.heap.size 9 1 v (fieldsL s 46).length (scells (fieldsL s 46))∧Below w.heap.size w w'):=implFields s 46 w hs
 have hpos:0<(fieldsL s 46).length:=by simp[fieldsL]
 have hlen:(fieldsL s 46).length≤1048577:=by
  have:=(fieldsTo_le s 46 s.size).2
  simp[fieldsL];omega
 have HSZ:Hid (∀x∈dropE (fieldsL s 46),x.size≤1048576):=dropE_sizes (fields_sizes46 s hs)
 have HNM:Hid (nameL s=namesL (dropE (fieldsL s 46))):=rfl
 have hp2:=dropE_pos hpos
 have hl2:(dropE (fieldsL s 46)).length≤1048577:=Nat.le_trans (dropE_le _) hlen
 have HT:Hid (Lib.Utf8Tabs 2 3 w):=hT
 have CW:Hid (∀(W:World) (v:Value) (B:Nat),W.ownsRow B 9 1 v (fieldsL s 46).length (scells (fieldsL s 46))→Calls Tryz.prog 85 #[v] W fun e w'=> ∃v',e=.returned v'∧W.ownsRow B 9 1 v' (dropE (fieldsL s 46)).length (scells (dropE (fieldsL s 46)))∧W=w'):=
  fun W v B h=>implWithout _ B v W hpos hlen h
 clear hT
 generalize dropE (fieldsL s 46)=fs at CW HSZ HNM hp2 hl2
 go_enter Tryz.func52,Tryz.ntmps52
 go_wp2_with fail
 refine CF.out.mono ?_
 rintro e wa ⟨va,rfl,oa,ba⟩
 go_wp2_with fail
 refine (CW.out _ _ _ oa).mono ?_
 rintro e wb ⟨vb,rfl,ob,rfl⟩
 clear oa CW CF hpos hlen
 have za:=ba.size
 have CE:Hid (Calls Tryz.prog 86 #[vb,.func (.func 87) #[] #[]] wa fun e w'=>eachAns wa w' (ascs fs) e∧Below wa.heap.size wa w'):=implEach fs _ vb wa hp2 hl2 HSZ.out (tabs_below HT.out ba) ob
 clear ob
 cases hr:ascs fs with
 |none=>
  have HF:Hid (ansS (nameL s)=.tuple #[.string ⟨#[]⟩,.bool false]):=name_ans_no (HNM.out.trans (namesL_no hr))
  rw[hr]at CE
  clear hr
  go_wp2_with fail
  refine CE.out.mono ?_
  rintro e wc ⟨⟨vc,rfl⟩,bc⟩
  have b2:=ba.trans (bc.mono za)
  clear ba bc
  go_wp2_with fail
  go_ret2
  exact ⟨by rw[HF.out];rfl,b2⟩
 |some ls=>
  have hll:ls.length=fs.length:=ascs_len hr
  have hjb:=jn_bound 46 ls (labs_size (ascs_labs hr))
  rw[hr]at CE
  have HR:Hid (ascs fs=some ls):=hr
  clear hr
  go_wp2_with fail
  refine CE.out.mono ?_
  rintro e wc ⟨⟨vc,rfl,oc⟩,bc⟩
  have b2:=ba.trans (bc.mono za)
  clear ba bc
  rcases own_shape oc with ⟨h,_⟩|⟨_,g,cap,rfl⟩
  ·omega
  have CJ:=Tryz.strings_Join g 0 cap ls ⟨#[46]⟩ wc (fun j x hj=>by
    have hjl:j<ls.length:=(List.getElem?_eq_some_iff.1 hj).1
    rw[Nat.zero_add,scell_at oc j hjl,List.getD_eq_getElem?_getD,hj]
    rfl) (oc.lt g rfl).2 (by omega) (own_cap oc) (by
    rw[show (⟨#[46]⟩:ByteArray).data.toList=[46] from rfl,jn_join];omega)
  rw[show (⟨#[46]⟩:ByteArray).data.toList=[46] from rfl,jn_join]at CJ
  have CJ:Hid (CB 47 #[.slice (some ⟨g,0,none⟩) ls.length cap,.string ⟨#[46]⟩] wc (.string ⟨(jn 46 ls).toArray⟩)):=CJ
  have hsz:(⟨(jn 46 ls).toArray⟩:ByteArray).size=(jn 46 ls).length:=by
   show (jn 46 ls).toArray.size=_
   exact List.size_toArray
  clear oc hll
  by_cases hov:(jn 46 ls).length≤253
  ·have HF:Hid (ansS (nameL s)=.tuple #[.string ⟨(jn 46 ls).toArray⟩,.bool true]):=name_ans_yes (HNM.out.trans (namesL_yes HR.out hov))
   generalize (⟨(jn 46 ls).toArray⟩:ByteArray)=T at CJ hsz HF
   have hov': ¬253<(T.size:Int):=by omega
   clear hsz
   go_wp2_with fail
   refine CJ.out.mono ?_
   rintro e wd ⟨rfl,bd⟩
   have b3:=b2.trans (bd.mono b2.size)
   clear b2 bd
   go_wp2_with fail
   go_ret2
   exact ⟨by rw[HF.out];rfl,b3⟩
  have HF:Hid (ansS (nameL s)=.tuple #[.string ⟨#[]⟩,.bool false]):=name_ans_no (HNM.out.trans (namesL_big HR.out hov))
  generalize (⟨(jn 46 ls).toArray⟩:ByteArray)=T at CJ hsz
  have hov':253<(T.size:Int):=by omega
  clear hsz
  go_wp2_with fail
  refine CJ.out.mono ?_
  rintro e wd ⟨rfl,bd⟩
  have b3:=b2.trans (bd.mono b2.size)
  clear b2 bd
  go_wp2_with fail
  go_ret2
  exact ⟨by rw[HF.out];rfl,b3⟩
end Go.Proofs.YtijliddchoehhaaGreatDoor
