/- NameSpec, NameImpl. -/
import Derived.Test.YtgcbaphbiaimoaaGreatDoorQU26
set_option maxHeartbeats 4000000
namespace Go.Proofs.YtgcbaphbiaimoaaGreatDoor
open Go.RowKit
theorem zdGz(s:ByteArray):ysz (y5z s.data.toList)=match jTz s with
  |some a=> .tuple #[.string a,.bool true]
  |none=> .tuple #[.string ⟨#[]⟩,.bool false]:=by
 unfold jTz ysz
 cases y5z s.data.toList<;>rfl
theorem zbWz{fs ls:List ByteArray}{k:Nat}(hk:k<fs.length)(h:yTz (fs.take k)=some ls):yTz (fs.take (k+1))=match jTz (fs.getD k ByteArray.empty)with
  |some a=>some (ls++[a])
  |none=>none:=by
 rw[zcmz fs k hk,zbpz,h]
 simp only[yTz]
 cases jTz (fs.getD k ByteArray.empty)<;>rfl
theorem jrz{fs:List ByteArray}{k:Nat}(h:yTz (fs.take k)=none):yTz fs=none:=by
 rw[←List.take_append_drop k fs,zbpz,h]
theorem zcDz{fs ls:List ByteArray}{k:Nat}(h:yTz (fs.take k)=some ls)(h2: ¬(jn 46 ls).length≤253):viz fs=none:=by
 have e:=zbpz (fs.take k) (fs.drop k)
 rw[List.take_append_drop,h]at e
 cases hd:yTz (fs.drop k)with
 |none=>rw[hd]at e;exact zawz e
 |some ms=>
  rw[hd]at e
  refine zfuz e fun hh=>h2 (Nat.le_trans (jn_le 46 ls ms) hh)
theorem xnz{r:Option (List UInt8)}(h:r=none):ysz r=.tuple #[.string ⟨#[]⟩,.bool false]:=by rw[h];rfl
theorem jsz{r:Option (List UInt8)}{t:List UInt8}(h:r=some t):ysz r=.tuple #[.string ⟨t.toArray⟩,.bool true]:=by rw[h];rfl
theorem zaGz(z:ByteArray):z.data.toList.length=z.size:=by simp
theorem zaHz(z:ByteArray):(⟨z.data.toList.toArray⟩:ByteArray)=z:=by
 apply ByteArray.ext
 apply Array.toList_inj.1
 rfl
theorem zf5z(s:ByteArray)(w:World)(hs:s.size≤1048576):
  Calls Tryz.prog 86 #[.string s] w fun e w'=>e=.returned (ysz (z7z s))∧Below w.heap.size w w':=by
 have CF:Hid (Calls Tryz.prog 93 #[.string s,.int .u8 46] w fun e w'=> ∃v,e=.returned v∧w'.ownsRow w.heap.size 9 1 v (zaz s 46).length (zsz (zaz s 46))∧Below w.heap.size w w'):=jFz s 46 w hs
 have hpos:0<(zaz s 46).length:=by simp[zaz]
 have hlen:(zaz s 46).length≤1048577:=by
  have:=(ywz s 46 s.size).2
  simp[zaz];omega
 have HSZ0:Hid (∀x∈zaz s 46,x.size≤1048576):=xEz s hs
 have HNM0:Hid (z7z s=viz (yzz (zaz s 46))):=rfl
 generalize zaz s 46=f0 at CF hpos hlen HSZ0 HNM0
 by_cases hd:1<f0.length∧(f0.getD (f0.length-1) ByteArray.empty).size=0
 ·have HNM:Hid (z7z s=viz (f0.take (f0.length-1))):=by
   have h:=HNM0.out
   unfold yzz at h
   rw[if_pos hd]at h
   exact h
  have HSZ:Hid (∀x∈f0.take (f0.length-1),x.size≤1048576):=fun x hx=>HSZ0.out x (List.mem_of_mem_take hx)
  have hl1:1<(f0.length:Int):=by omega
  have hem:=ztz hd.2
  clear hd
  go_enter Tryz.func86,Tryz.ntmps86
  go_wp2_with fail
  refine CF.out.mono ?_
  rintro e wa ⟨va,rfl,oa,ba⟩
  rcases zrz oa with ⟨h,_⟩|⟨_,g,cap,rfl⟩
  ·omega
  have hc:=z2z oa (f0.length-1) (by omega)
  have hcap:f0.length≤cap:=by
   rcases oa.2 with ⟨h,_⟩|⟨_,_,_,h,_,_,h3,_⟩
   ·cases h
   cases h;exact h3
  have OV:=zbgz oa (f0.length-1) (by omega)
  rw[vXz]at OV
  have hi:((f0.length:Int)-1)=((f0.length-1:Nat):Int):=by omega
  generalize f0.getD (f0.length-1) ByteArray.empty=q at hc hem
  clear oa
  go_wp2_with fail
  obtain ⟨m,hm⟩: ∃m,f0.length-1=m:=⟨_,rfl⟩
  rw[hm]at OV HNM HSZ⊢
  obtain ⟨fs,hfs⟩: ∃fs,f0.take m=fs:=⟨_,rfl⟩
  rw[hfs]at OV HNM HSZ
  have hml:m=fs.length:=by rw[←hfs,List.length_take];omega
  have hlen2:fs.length≤1048577:=by omega
  clear hfs hm hc hi
  subst hml
  go_loopw[5,6] (fun o i wr=> ∃(k:Nat) (ls:List ByteArray) (z:ByteArray),k≤fs.length∧i=.int .i64 k∧yTz (fs.take k)=some ls∧o=.string z∧z.data.toList=jn 46 ls∧z.size≤253∧wr.ownsRow w.heap.size 9 1 (.slice (some ⟨g,0,none⟩) fs.length cap) fs.length (zsz fs)∧Below w.heap.size w wr)
   (fun _ i _=>fs.length-(intOf i).toNat)
  case atStart=>exact ⟨0,[],⟨#[]⟩,Nat.zero_le _,rfl,rfl,rfl,rfl,by decide,OV,ba⟩
  obtain ⟨k,ls,z,hk,rfl,hls,rfl,hz,hz2,ow,hbel⟩:=hrel
  have HLS:Hid (yTz (fs.take k)=some ls):=hls
  have HZ:Hid (z.data.toList=jn 46 ls):=hz
  have HLN:Hid (ls.length=k):=by show _=_;rw[jMz hls,List.length_take];omega
  have hz3:(z.size:Int)≤253:=by omega
  clear hls hz
  by_cases hlt:k<fs.length
  ·have hc:=z2z ow k hlt
   have hTA:=zbWz hlt HLS.out
   have hsz:=hbel.size
   have CT:Hid (∀W,CB 137 #[.string (fs.getD k ByteArray.empty)] W (ysz (y5z (fs.getD k ByteArray.empty).data.toList))):=fun W=>zbBz _ W (HSZ.out _ (by rw[List.getD_eq_getElem?_getD,List.getElem?_eq_getElem hlt];exact List.getElem_mem hlt))
   rw[zdGz]at CT
   generalize fs.getD k ByteArray.empty=y at hc hTA CT
   have hkl:(k:Int)<fs.length:=by omega
   cases ha:jTz y with
   |none=>
    rw[ha]at CT hTA
    have HF:Hid (ysz (z7z s)=.tuple #[.string ⟨#[]⟩,.bool false]):=xnz (HNM.out.trans (zawz (jrz hTA)))
    clear ha hTA
    go_wp2_with fail
    refine (CT.out _).mono ?_
    rintro e wb ⟨rfl,bb⟩
    have b2:=hbel.trans (bb.mono hsz)
    clear hbel bb ow
    go_wp2_with fail
    go_ret2
    exact ⟨by rw[HF.out];rfl,b2⟩
   |some a=>
    rw[ha]at CT hTA
    have hal:a.size≤63:=by
     have:=(ymz (zc8z ha).1).2.1
     simpa using this
    have HTA:Hid (yTz (fs.take (k+1))=some (ls++[a])):=hTA
    clear ha hTA
    by_cases hk0:0<k
    ·first
     |(exfalso;omega)
     |(
       have HJ:Hid (((z++⟨#[46]⟩)++a).data.toList=jn 46 (ls++[a])):=by
        show _=_
        rw[zcPz 46 ls a (by intro h;have:=HLN.out;rw[h]at this;simp at this;omega),←HZ.out]
        simp
       have hzs:((z++(⟨#[46]⟩:ByteArray))++a).size=z.size+1+a.size:=by
        rw[ByteArray.size_append,ByteArray.size_append];rfl
       by_cases hov:((z++(⟨#[46]⟩:ByteArray))++a).size≤253
       ·have hov': ¬253<((((z++(⟨#[46]⟩:ByteArray))++a).size:Nat):Int):=by omega
        go_wp2_with fail
        refine (CT.out _).mono ?_
        rintro e wb ⟨rfl,bb⟩
        have b2:=hbel.trans (bb.mono hsz)
        have o2:=zkz ow bb
        clear hbel bb ow
        go_wp2_with fail
        go_roundw
        case rel=>exact ⟨k+1,ls++[a],_,by omega,by go_num,HTA.out,rfl,HJ.out,hov,o2,b2⟩
        case measure=>simp[intOf];omega
       have hov':253<((((z++(⟨#[46]⟩:ByteArray))++a).size:Nat):Int):=by omega
       have HF:Hid (ysz (z7z s)=.tuple #[.string ⟨#[]⟩,.bool false]):=xnz (HNM.out.trans (zcDz HTA.out (by
        rw[←HJ.out]
        have e:=zaGz ((z++(⟨#[46]⟩:ByteArray))++a)
        omega)))
       go_wp2_with fail
       refine (CT.out _).mono ?_
       rintro e wb ⟨rfl,bb⟩
       have b2:=hbel.trans (bb.mono hsz)
       clear hbel bb ow
       go_wp2_with fail
       go_ret2
       exact ⟨by rw[HF.out];rfl,b2⟩)
    have hk00:k=0:=by omega
    subst hk00
    have hl0:ls=[]:=List.eq_nil_of_length_eq_zero HLN.out
    subst hl0
    have hz0:z=⟨#[]⟩:=by
     rw[←zaHz z,HZ.out];rfl
    subst hz0
    have HJ:Hid (((⟨#[]⟩:ByteArray)++a).data.toList=jn 46 ([]++[a])):=by
     show _=_
     rw[ze6z]
     simp
    have hzs:((⟨#[]⟩:ByteArray)++a).size=a.size:=by
     rw[ByteArray.size_append];exact Nat.zero_add _
    have hov': ¬253<((((⟨#[]⟩:ByteArray)++a).size:Nat):Int):=by omega
    go_wp2_with fail
    refine (CT.out _).mono ?_
    rintro e wb ⟨rfl,bb⟩
    have b2:=hbel.trans (bb.mono hsz)
    have o2:=zkz ow bb
    clear hbel bb ow
    go_wp2_with fail
    go_roundw
    case rel=>exact ⟨0+1,[]++[a],_,by omega,by go_num,HTA.out,rfl,HJ.out,by omega,o2,b2⟩
    case measure=>simp[intOf];omega
  have hks:k=fs.length:=by omega
  have HF:Hid (ysz (z7z s)=.tuple #[.string z,.bool true]):=by
   have h:=HLS.out
   rw[hks,List.take_length]at h
   have h2:(jn 46 ls).length≤253:=by
    rw[←HZ.out]
    have e:=zaGz z
    omega
   have h3:=jsz (HNM.out.trans (vEz h h2))
   rw[←HZ.out,zaHz]at h3
   exact h3
  subst hks
  go_wp2_with fail
  go_ret2
  exact ⟨by rw[HF.out];rfl,hbel⟩
 have HNM:Hid (z7z s=viz f0):=by
  have h:=HNM0.out
  unfold yzz at h
  rw[if_neg hd]at h
  exact h
 by_cases hl1:1<f0.length
 ·have hl1':1<(f0.length:Int):=by omega
  have hem:=zwz (u:=f0.getD (f0.length-1) ByteArray.empty) (by apply Nat.pos_of_ne_zero;intro h;exact hd ⟨hl1,h⟩)
  clear hd
  go_enter Tryz.func86,Tryz.ntmps86
  go_wp2_with fail
  refine CF.out.mono ?_
  rintro e wa ⟨va,rfl,OV,ba⟩
  rcases zrz OV with ⟨h,_⟩|⟨_,g,cap,rfl⟩
  ·omega
  have hc:=z2z OV (f0.length-1) (by omega)
  have hi:((f0.length:Int)-1)=((f0.length-1:Nat):Int):=by omega
  generalize f0.getD (f0.length-1) ByteArray.empty=q at hc hem
  go_wp2_with fail
  clear hc hi hem hl1 hl1'
  have HSZ:=HSZ0
  go_loopw[5,6] (fun o i wr=> ∃(k:Nat) (ls:List ByteArray) (z:ByteArray),k≤f0.length∧i=.int .i64 k∧yTz (f0.take k)=some ls∧o=.string z∧z.data.toList=jn 46 ls∧z.size≤253∧wr.ownsRow w.heap.size 9 1 (.slice (some ⟨g,0,none⟩) f0.length cap) f0.length (zsz f0)∧Below w.heap.size w wr)
   (fun _ i _=>f0.length-(intOf i).toNat)
  case atStart=>exact ⟨0,[],⟨#[]⟩,Nat.zero_le _,rfl,rfl,rfl,rfl,by decide,OV,ba⟩
  obtain ⟨k,ls,z,hk,rfl,hls,rfl,hz,hz2,ow,hbel⟩:=hrel
  have HLS:Hid (yTz (f0.take k)=some ls):=hls
  have HZ:Hid (z.data.toList=jn 46 ls):=hz
  have HLN:Hid (ls.length=k):=by show _=_;rw[jMz hls,List.length_take];omega
  have hz3:(z.size:Int)≤253:=by omega
  clear hls hz
  by_cases hlt:k<f0.length
  ·have hc:=z2z ow k hlt
   have hTA:=zbWz hlt HLS.out
   have hsz:=hbel.size
   have CT:Hid (∀W,CB 137 #[.string (f0.getD k ByteArray.empty)] W (ysz (y5z (f0.getD k ByteArray.empty).data.toList))):=fun W=>zbBz _ W (HSZ.out _ (by rw[List.getD_eq_getElem?_getD,List.getElem?_eq_getElem hlt];exact List.getElem_mem hlt))
   rw[zdGz]at CT
   generalize f0.getD k ByteArray.empty=y at hc hTA CT
   have hkl:(k:Int)<f0.length:=by omega
   cases ha:jTz y with
   |none=>
    rw[ha]at CT hTA
    have HF:Hid (ysz (z7z s)=.tuple #[.string ⟨#[]⟩,.bool false]):=xnz (HNM.out.trans (zawz (jrz hTA)))
    clear ha hTA
    go_wp2_with fail
    refine (CT.out _).mono ?_
    rintro e wb ⟨rfl,bb⟩
    have b2:=hbel.trans (bb.mono hsz)
    clear hbel bb ow
    go_wp2_with fail
    go_ret2
    exact ⟨by rw[HF.out];rfl,b2⟩
   |some a=>
    rw[ha]at CT hTA
    have hal:a.size≤63:=by
     have:=(ymz (zc8z ha).1).2.1
     simpa using this
    have HTA:Hid (yTz (f0.take (k+1))=some (ls++[a])):=hTA
    clear ha hTA
    by_cases hk0:0<k
    ·first
     |(exfalso;omega)
     |(
       have HJ:Hid (((z++⟨#[46]⟩)++a).data.toList=jn 46 (ls++[a])):=by
        show _=_
        rw[zcPz 46 ls a (by intro h;have:=HLN.out;rw[h]at this;simp at this;omega),←HZ.out]
        simp
       have hzs:((z++(⟨#[46]⟩:ByteArray))++a).size=z.size+1+a.size:=by
        rw[ByteArray.size_append,ByteArray.size_append];rfl
       by_cases hov:((z++(⟨#[46]⟩:ByteArray))++a).size≤253
       ·have hov': ¬253<((((z++(⟨#[46]⟩:ByteArray))++a).size:Nat):Int):=by omega
        go_wp2_with fail
        refine (CT.out _).mono ?_
        rintro e wb ⟨rfl,bb⟩
        have b2:=hbel.trans (bb.mono hsz)
        have o2:=zkz ow bb
        clear hbel bb ow
        go_wp2_with fail
        go_roundw
        case rel=>exact ⟨k+1,ls++[a],_,by omega,by go_num,HTA.out,rfl,HJ.out,hov,o2,b2⟩
        case measure=>simp[intOf];omega
       have hov':253<((((z++(⟨#[46]⟩:ByteArray))++a).size:Nat):Int):=by omega
       have HF:Hid (ysz (z7z s)=.tuple #[.string ⟨#[]⟩,.bool false]):=xnz (HNM.out.trans (zcDz HTA.out (by
        rw[←HJ.out]
        have e:=zaGz ((z++(⟨#[46]⟩:ByteArray))++a)
        omega)))
       go_wp2_with fail
       refine (CT.out _).mono ?_
       rintro e wb ⟨rfl,bb⟩
       have b2:=hbel.trans (bb.mono hsz)
       clear hbel bb ow
       go_wp2_with fail
       go_ret2
       exact ⟨by rw[HF.out];rfl,b2⟩)
    have hk00:k=0:=by omega
    subst hk00
    have hl0:ls=[]:=List.eq_nil_of_length_eq_zero HLN.out
    subst hl0
    have hz0:z=⟨#[]⟩:=by
     rw[←zaHz z,HZ.out];rfl
    subst hz0
    have HJ:Hid (((⟨#[]⟩:ByteArray)++a).data.toList=jn 46 ([]++[a])):=by
     show _=_
     rw[ze6z]
     simp
    have hzs:((⟨#[]⟩:ByteArray)++a).size=a.size:=by
     rw[ByteArray.size_append];exact Nat.zero_add _
    have hov': ¬253<((((⟨#[]⟩:ByteArray)++a).size:Nat):Int):=by omega
    go_wp2_with fail
    refine (CT.out _).mono ?_
    rintro e wb ⟨rfl,bb⟩
    have b2:=hbel.trans (bb.mono hsz)
    have o2:=zkz ow bb
    clear hbel bb ow
    go_wp2_with fail
    go_roundw
    case rel=>exact ⟨0+1,[]++[a],_,by omega,by go_num,HTA.out,rfl,HJ.out,by omega,o2,b2⟩
    case measure=>simp[intOf];omega
  have hks:k=f0.length:=by omega
  have HF:Hid (ysz (z7z s)=.tuple #[.string z,.bool true]):=by
   have h:=HLS.out
   rw[hks,List.take_length]at h
   have h2:(jn 46 ls).length≤253:=by
    rw[←HZ.out]
    have e:=zaGz z
    omega
   have h3:=jsz (HNM.out.trans (vEz h h2))
   rw[←HZ.out,zaHz]at h3
   exact h3
  subst hks
  go_wp2_with fail
  go_ret2
  exact ⟨by rw[HF.out];rfl,hbel⟩
 have hl1': ¬1<(f0.length:Int):=by omega
 clear hd
 go_enter Tryz.func86,Tryz.ntmps86
 go_wp2_with fail
 refine CF.out.mono ?_
 rintro e wa ⟨va,rfl,OV,ba⟩
 rcases zrz OV with ⟨h,_⟩|⟨_,g,cap,rfl⟩
 ·omega
 go_wp2_with fail
 clear hl1 hl1'
 have HSZ:=HSZ0
 go_loopw[5,6] (fun o i wr=> ∃(k:Nat) (ls:List ByteArray) (z:ByteArray),k≤f0.length∧i=.int .i64 k∧yTz (f0.take k)=some ls∧o=.string z∧z.data.toList=jn 46 ls∧z.size≤253∧wr.ownsRow w.heap.size 9 1 (.slice (some ⟨g,0,none⟩) f0.length cap) f0.length (zsz f0)∧Below w.heap.size w wr)
  (fun _ i _=>f0.length-(intOf i).toNat)
 case atStart=>exact ⟨0,[],⟨#[]⟩,Nat.zero_le _,rfl,rfl,rfl,rfl,by decide,OV,ba⟩
 obtain ⟨k,ls,z,hk,rfl,hls,rfl,hz,hz2,ow,hbel⟩:=hrel
 have HLS:Hid (yTz (f0.take k)=some ls):=hls
 have HZ:Hid (z.data.toList=jn 46 ls):=hz
 have HLN:Hid (ls.length=k):=by show _=_;rw[jMz hls,List.length_take];omega
 have hz3:(z.size:Int)≤253:=by omega
 clear hls hz
 by_cases hlt:k<f0.length
 ·have hc:=z2z ow k hlt
  have hTA:=zbWz hlt HLS.out
  have hsz:=hbel.size
  have CT:Hid (∀W,CB 137 #[.string (f0.getD k ByteArray.empty)] W (ysz (y5z (f0.getD k ByteArray.empty).data.toList))):=fun W=>zbBz _ W (HSZ.out _ (by rw[List.getD_eq_getElem?_getD,List.getElem?_eq_getElem hlt];exact List.getElem_mem hlt))
  rw[zdGz]at CT
  generalize f0.getD k ByteArray.empty=y at hc hTA CT
  have hkl:(k:Int)<f0.length:=by omega
  cases ha:jTz y with
  |none=>
   rw[ha]at CT hTA
   have HF:Hid (ysz (z7z s)=.tuple #[.string ⟨#[]⟩,.bool false]):=xnz (HNM.out.trans (zawz (jrz hTA)))
   clear ha hTA
   go_wp2_with fail
   refine (CT.out _).mono ?_
   rintro e wb ⟨rfl,bb⟩
   have b2:=hbel.trans (bb.mono hsz)
   clear hbel bb ow
   go_wp2_with fail
   go_ret2
   exact ⟨by rw[HF.out];rfl,b2⟩
  |some a=>
   rw[ha]at CT hTA
   have hal:a.size≤63:=by
    have:=(ymz (zc8z ha).1).2.1
    simpa using this
   have HTA:Hid (yTz (f0.take (k+1))=some (ls++[a])):=hTA
   clear ha hTA
   by_cases hk0:0<k
   ·first
    |(exfalso;omega)
    |(
      have HJ:Hid (((z++⟨#[46]⟩)++a).data.toList=jn 46 (ls++[a])):=by
       show _=_
       rw[zcPz 46 ls a (by intro h;have:=HLN.out;rw[h]at this;simp at this;omega),←HZ.out]
       simp
      have hzs:((z++(⟨#[46]⟩:ByteArray))++a).size=z.size+1+a.size:=by
       rw[ByteArray.size_append,ByteArray.size_append];rfl
      by_cases hov:((z++(⟨#[46]⟩:ByteArray))++a).size≤253
      ·have hov': ¬253<((((z++(⟨#[46]⟩:ByteArray))++a).size:Nat):Int):=by omega
       go_wp2_with fail
       refine (CT.out _).mono ?_
       rintro e wb ⟨rfl,bb⟩
       have b2:=hbel.trans (bb.mono hsz)
       have o2:=zkz ow bb
       clear hbel bb ow
       go_wp2_with fail
       go_roundw
       case rel=>exact ⟨k+1,ls++[a],_,by omega,by go_num,HTA.out,rfl,HJ.out,hov,o2,b2⟩
       case measure=>simp[intOf];omega
      have hov':253<((((z++(⟨#[46]⟩:ByteArray))++a).size:Nat):Int):=by omega
      have HF:Hid (ysz (z7z s)=.tuple #[.string ⟨#[]⟩,.bool false]):=xnz (HNM.out.trans (zcDz HTA.out (by
       rw[←HJ.out]
       have e:=zaGz ((z++(⟨#[46]⟩:ByteArray))++a)
       omega)))
      go_wp2_with fail
      refine (CT.out _).mono ?_
      rintro e wb ⟨rfl,bb⟩
      have b2:=hbel.trans (bb.mono hsz)
      clear hbel bb ow
      go_wp2_with fail
      go_ret2
      exact ⟨by rw[HF.out];rfl,b2⟩)
   have hk00:k=0:=by omega
   subst hk00
   have hl0:ls=[]:=List.eq_nil_of_length_eq_zero HLN.out
   subst hl0
   have hz0:z=⟨#[]⟩:=by
    rw[←zaHz z,HZ.out];rfl
   subst hz0
   have HJ:Hid (((⟨#[]⟩:ByteArray)++a).data.toList=jn 46 ([]++[a])):=by
    show _=_
    rw[ze6z]
    simp
   have hzs:((⟨#[]⟩:ByteArray)++a).size=a.size:=by
    rw[ByteArray.size_append];exact Nat.zero_add _
   have hov': ¬253<((((⟨#[]⟩:ByteArray)++a).size:Nat):Int):=by omega
   go_wp2_with fail
   refine (CT.out _).mono ?_
   rintro e wb ⟨rfl,bb⟩
   have b2:=hbel.trans (bb.mono hsz)
   have o2:=zkz ow bb
   clear hbel bb ow
   go_wp2_with fail
   go_roundw
   case rel=>exact ⟨0+1,[]++[a],_,by omega,by go_num,HTA.out,rfl,HJ.out,by omega,o2,b2⟩
   case measure=>simp[intOf];omega
 have hks:k=f0.length:=by omega
 have HF:Hid (ysz (z7z s)=.tuple #[.string z,.bool true]):=by
  have h:=HLS.out
  rw[hks,List.take_length]at h
  have h2:(jn 46 ls).length≤253:=by
   rw[←HZ.out]
   have e:=zaGz z
   omega
  have h3:=jsz (HNM.out.trans (vEz h h2))
  rw[←HZ.out,zaHz]at h3
  exact h3
 subst hks
 go_wp2_with fail
 go_ret2
 exact ⟨by rw[HF.out];rfl,hbel⟩
def zmVz(w w':World)(r:Option (List ByteArray))(e:Ending):Prop:=match r with
 |some ls=> ∃v,e=.returned (.tuple #[v,.bool true])∧w'.ownsRow w.heap.size 9 1 v ls.length (zsz ls)
 |none=> ∃v,e=.returned (.tuple #[v,.bool false])
theorem zqiz(fs:List ByteArray)(B:Nat)(v:Value)(w:World)(hpos:0<fs.length)(hlen:fs.length≤1048577)(hsz: ∀x∈fs,x.size≤1048576)(hT:Lib.Utf8Tabs 12 13 w)
  (hown:w.ownsRow B 9 1 v fs.length (zsz fs)):
  Calls Tryz.prog 281 #[v,.func (.func 282) #[] #[]] w fun e w'=>zmVz w w' (yTz fs) e∧Below w.heap.size w w':=by
 obtain ⟨i0,hi,hz0,hz1,hz2⟩:=info_parts Tryz.infoStr
 have HSZ:Hid (∀x∈fs,x.size≤1048576):=hsz
 have HT:Hid (Lib.Utf8Tabs 12 13 w):=hT
 clear hsz hT
 rcases zrz hown with ⟨h,_⟩|⟨_,g,cap,rfl⟩
 ·omega
 have HOW:Hid (w.ownsRow B 9 1 (.slice (some ⟨g,0,none⟩) fs.length cap) fs.length (zsz fs)):=hown
 clear hown
 go_enter Tryz.func281,Tryz.ntmps281
 go_wp2_with (at_make;refine wpList_make_own _ rfl _ _ 245 rfl w.heap.size 9 i0 (.string ⟨#[]⟩) 1 Tryz.underlying245 hi hz0 hz1 _ _ _ fs.length rfl rfl (by omega) (by rw[hz2];omega) (by unfold maxLen;omega) (Nat.le_refl _) ?_)
 intro wm hmo hgm
 have Bm:Below w.heap.size w wm:=(Below.refl _ _).grown hgm (Nat.le_refl _) (fun k hk=>by cases hk)
 have om:wm.ownsRow w.heap.size 9 1 (.slice (some ⟨w.heap.size,0,none⟩) 0 fs.length) 0 []:=hmo
 clear hmo hgm
 go_wp2_with fail
 go_loopw[6,16] (fun m i wr=> ∃(k:Nat) (ls:List ByteArray),k≤fs.length∧i=.int .i64 k∧yTz (fs.take k)=some ls∧wr.ownsRow w.heap.size 9 1 m ls.length (zsz ls)∧Below w.heap.size w wr)
  (fun _ i _=>fs.length-(intOf i).toNat)
 case atStart=>exact ⟨0,[],Nat.zero_le _,rfl,rfl,om,Bm⟩
 obtain ⟨k,ls,hk,rfl,hls,ow,hbel⟩:=hrel
 clear om Bm
 have HLS:Hid (yTz (fs.take k)=some ls):=hls
 have hln:ls.length=k:=by rw[jMz hls,List.length_take];omega
 clear hls
 have hsz:=hbel.size
 by_cases hlt:k<fs.length
 ·have hc:=z2z (zkz HOW.out hbel) k hlt
  have hTA:=zbWz hlt HLS.out
  have CT:Hid (∀W,Lib.Utf8Tabs 12 13 W→CB 282 #[.string (fs.getD k ByteArray.empty)] W (ysz (y5z (fs.getD k ByteArray.empty).data.toList))):=fun W hT=>zksz _ W (HSZ.out _ (by rw[List.getD_eq_getElem?_getD,List.getElem?_eq_getElem hlt];exact List.getElem_mem hlt)) hT
  have HTW:Hid (Lib.Utf8Tabs 12 13 wr):=zWz HT.out hbel
  rw[zdGz]at CT
  generalize fs.getD k ByteArray.empty=y at hc hTA CT
  have hkl:(k:Int)<fs.length:=by omega
  cases ha:jTz y with
  |none=>
   rw[ha]at CT hTA
   have HF:Hid (yTz fs=none):=jrz hTA
   clear ha hTA
   go_wp2_with fail
   refine (CT.out _ HTW.out).mono ?_
   rintro e wb ⟨rfl,bb⟩
   have b2:=hbel.trans (bb.mono hsz)
   clear hbel bb ow
   go_wp2_with fail
   go_ret2
   rw[HF.out]
   exact ⟨⟨_,rfl⟩,b2⟩
  |some a=>
   rw[ha]at CT hTA
   have HTA:Hid (yTz (fs.take (k+1))=some (ls++[a])):=hTA
   clear ha hTA
   go_wp2_with fail
   refine (CT.out _ HTW.out).mono ?_
   rintro e wb ⟨rfl,bb⟩
   have b2:=hbel.trans (bb.mono hsz)
   have o2:=zkz ow bb
   have z2:=b2.size
   clear hbel bb ow HTW CT
   go_wp2_with (at_builtin;refine zbz _ rfl _ _ 245 rfl w.heap.size 9 (.string ⟨#[]⟩) 16 Tryz.underlying245 Tryz.infoStr rfl _ _ _ rfl o2 #[.string a] 1 rfl rfl (vJz _) (by omega) (by unfold maxLen;omega) z2 ?_)
   intro v' w1 ow' hb1
   have R:w1.ownsRow w.heap.size 9 1 v' (ls++[a]).length (zsz (ls++[a])):=by
    rw[vSz,List.length_append,hln]
    exact ow'
   have B1:Below w.heap.size w w1:=b2.trans hb1
   clear ow' hb1 o2 b2
   go_wp2_with fail
   go_roundw
   case rel=>exact ⟨k+1,ls++[a],by omega,by go_num,HTA.out,R,B1⟩
   case measure=>simp[intOf];omega
 have hks:k=fs.length:=by omega
 have HF:Hid (yTz fs=some ls):=by
  have h:=HLS.out
  rw[hks,List.take_length]at h
  exact h
 go_wp2_with fail
 go_ret2
 rw[HF.out]
 exact ⟨⟨_,rfl,ow⟩,hbel⟩
theorem zf6z(s:ByteArray)(w:World)(hs:s.size≤1048576)(hT:Lib.Utf8Tabs 12 13 w):
  Calls Tryz.prog 266 #[.string s] w fun e w'=>e=.returned (ysz (z7z s))∧Below w.heap.size w w':=by
 have CF:Hid (Calls Tryz.prog 135 #[.string s,.int .u8 46] w fun e w'=> ∃v,e=.returned v∧w'.ownsRow w.heap.size 9 1 v (zaz s 46).length (zsz (zaz s 46))∧Below w.heap.size w w'):=zclz s 46 w hs
 have hpos:0<(zaz s 46).length:=by simp[zaz]
 have hlen:(zaz s 46).length≤1048577:=by
  have:=(ywz s 46 s.size).2
  simp[zaz];omega
 have HSZ:Hid (∀x∈yzz (zaz s 46),x.size≤1048576):=zefz (xEz s hs)
 have HNM:Hid (z7z s=viz (yzz (zaz s 46))):=rfl
 have hp2:=zdLz hpos
 have hl2:(yzz (zaz s 46)).length≤1048577:=Nat.le_trans (zi3z _) hlen
 have HT:Hid (Lib.Utf8Tabs 12 13 w):=hT
 have CW:Hid (∀(W:World) (v:Value) (B:Nat),W.ownsRow B 9 1 v (zaz s 46).length (zsz (zaz s 46))→Calls Tryz.prog 280 #[v] W fun e w'=> ∃v',e=.returned v'∧W.ownsRow B 9 1 v' (yzz (zaz s 46)).length (zsz (yzz (zaz s 46)))∧W=w'):=
  fun W v B h=>zegz _ B v W hpos hlen h
 clear hT
 generalize yzz (zaz s 46)=fs at CW HSZ HNM hp2 hl2
 go_enter Tryz.func266,Tryz.ntmps266
 go_wp2_with fail
 refine CF.out.mono ?_
 rintro e wa ⟨va,rfl,oa,ba⟩
 go_wp2_with fail
 refine (CW.out _ _ _ oa).mono ?_
 rintro e wb ⟨vb,rfl,ob,rfl⟩
 clear oa CW CF hpos hlen
 have za:=ba.size
 have CE:Hid (Calls Tryz.prog 281 #[vb,.func (.func 282) #[] #[]] wa fun e w'=>zmVz wa w' (yTz fs) e∧Below wa.heap.size wa w'):=zqiz fs _ vb wa hp2 hl2 HSZ.out (zWz HT.out ba) ob
 clear ob
 cases hr:yTz fs with
 |none=>
  have HF:Hid (ysz (z7z s)=.tuple #[.string ⟨#[]⟩,.bool false]):=xnz (HNM.out.trans (zawz hr))
  rw[hr]at CE
  clear hr
  go_wp2_with fail
  refine CE.out.mono ?_
  rintro e wc ⟨⟨vc,rfl⟩,bc⟩
  have b2:=ba.trans (bc.mono za)
  clear ba bc
  go_wp2_with fail
  go_ret2
  exact ⟨by rw[HF.out];rfl,b2⟩
 |some ls=>
  have hll:ls.length=fs.length:=jMz hr
  have hjb:=zo9z 46 ls (zg6z (zg5z hr))
  rw[hr]at CE
  have HR:Hid (yTz fs=some ls):=hr
  clear hr
  go_wp2_with fail
  refine CE.out.mono ?_
  rintro e wc ⟨⟨vc,rfl,oc⟩,bc⟩
  have b2:=ba.trans (bc.mono za)
  clear ba bc
  rcases zrz oc with ⟨h,_⟩|⟨_,g,cap,rfl⟩
  ·omega
  have CJ:=Tryz.strings_Join g 0 cap ls ⟨#[46]⟩ wc (fun j x hj=>by
    have hjl:j<ls.length:=(List.getElem?_eq_some_iff.1 hj).1
    rw[Nat.zero_add,z2z oc j hjl,List.getD_eq_getElem?_getD,hj]
    rfl) (oc.lt g rfl).2 (by omega) (jlz oc) (by
    rw[show (⟨#[46]⟩:ByteArray).data.toList=[46] from rfl,zmpz];omega)
  rw[show (⟨#[46]⟩:ByteArray).data.toList=[46] from rfl,zmpz]at CJ
  have CJ:Hid (CB 185 #[.slice (some ⟨g,0,none⟩) ls.length cap,.string ⟨#[46]⟩] wc (.string ⟨(jn 46 ls).toArray⟩)):=CJ
  have hsz:(⟨(jn 46 ls).toArray⟩:ByteArray).size=(jn 46 ls).length:=by
   show (jn 46 ls).toArray.size=_
   exact List.size_toArray
  clear oc hll
  by_cases hov:(jn 46 ls).length≤253
  ·have HF:Hid (ysz (z7z s)=.tuple #[.string ⟨(jn 46 ls).toArray⟩,.bool true]):=jsz (HNM.out.trans (vEz HR.out hov))
   generalize (⟨(jn 46 ls).toArray⟩:ByteArray)=T at CJ hsz HF
   have hov': ¬253<(T.size:Int):=by omega
   clear hsz
   go_wp2_with fail
   refine CJ.out.mono ?_
   rintro e wd ⟨rfl,bd⟩
   have b3:=b2.trans (bd.mono b2.size)
   clear b2 bd
   go_wp2_with fail
   go_ret2
   exact ⟨by rw[HF.out];rfl,b3⟩
  have HF:Hid (ysz (z7z s)=.tuple #[.string ⟨#[]⟩,.bool false]):=xnz (HNM.out.trans (zfuz HR.out hov))
  generalize (⟨(jn 46 ls).toArray⟩:ByteArray)=T at CJ hsz
  have hov':253<(T.size:Int):=by omega
  clear hsz
  go_wp2_with fail
  refine CJ.out.mono ?_
  rintro e wd ⟨rfl,bd⟩
  have b3:=b2.trans (bd.mono b2.size)
  clear b2 bd
  go_wp2_with fail
  go_ret2
  exact ⟨by rw[HF.out];rfl,b3⟩
end Go.Proofs.YtgcbaphbiaimoaaGreatDoor
