/- NameSpec, NameImpl. -/
import Derived.Test.YtgcbaphbiaimoaaGreatDoorQP26
set_option maxHeartbeats 4000000
namespace Go.Proofs.YtgcbaphbiaimoaaGreatDoor
open Go.RowKit
theorem zd4z(s:ByteArray):yuz (y8z s.data.toList)=match j0z s with
  |some a=> .tuple #[.string a,.bool true]
  |none=> .tuple #[.string ⟨#[]⟩,.bool false]:=by
 unfold j0z yuz
 cases y8z s.data.toList<;>rfl
theorem zcjz{fs ls:List ByteArray}{k:Nat}(hk:k<fs.length)(h:yZz (fs.take k)=some ls):yZz (fs.take (k+1))=match j0z (fs.getD k ByteArray.empty)with
  |some a=>some (ls++[a])
  |none=>none:=by
 rw[zcKz fs k hk,zbJz,h]
 simp only[yZz]
 cases j0z (fs.getD k ByteArray.empty)<;>rfl
theorem jwz{fs:List ByteArray}{k:Nat}(h:yZz (fs.take k)=none):yZz fs=none:=by
 rw[←List.take_append_drop k fs,zbJz,h]
theorem zc1z{fs ls:List ByteArray}{k:Nat}(h:yZz (fs.take k)=some ls)(h2: ¬(jn 46 ls).length≤253):vsz fs=none:=by
 have e:=zbJz (fs.take k) (fs.drop k)
 rw[List.take_append_drop,h]at e
 cases hd:yZz (fs.drop k)with
 |none=>rw[hd]at e;exact zaKz e
 |some ms=>
  rw[hd]at e
  refine zf8z e fun hh=>h2 (Nat.le_trans (jn_le 46 ls ms) hh)
theorem xtz{r:Option (List UInt8)}(h:r=none):yuz r=.tuple #[.string ⟨#[]⟩,.bool false]:=by rw[h];rfl
theorem jxz{r:Option (List UInt8)}{t:List UInt8}(h:r=some t):yuz r=.tuple #[.string ⟨t.toArray⟩,.bool true]:=by rw[h];rfl
theorem zaXz(z:ByteArray):z.data.toList.length=z.size:=by simp
theorem zaYz(z:ByteArray):(⟨z.data.toList.toArray⟩:ByteArray)=z:=by
 apply ByteArray.ext
 apply Array.toList_inj.1
 rfl
theorem zgIz(s:ByteArray)(w:World)(hs:s.size≤1048576):
  Calls Tryz.prog 86 #[.string s] w fun e w'=>e=.returned (yuz (z6z s))∧Below w.heap.size w w':=by
 have CF:Hid (Calls Tryz.prog 93 #[.string s,.int .u8 46] w fun e w'=> ∃v,e=.returned v∧w'.ownsRow w.heap.size 9 1 v (zaz s 46).length (zrz (zaz s 46))∧Below w.heap.size w w'):=jJz s 46 w hs
 have hpos:0<(zaz s 46).length:=by simp[zaz]
 have hlen:(zaz s 46).length≤1048577:=by
  have:=(yAz s 46 s.size).2
  simp[zaz];omega
 have HSZ0:Hid (∀x∈zaz s 46,x.size≤1048576):=xKz s hs
 have HNM0:Hid (z6z s=vsz (yDz (zaz s 46))):=rfl
 generalize zaz s 46=f0 at CF hpos hlen HSZ0 HNM0
 by_cases hd:1<f0.length∧(f0.getD (f0.length-1) ByteArray.empty).size=0
 ·have HNM:Hid (z6z s=vsz (f0.take (f0.length-1))):=by
   have h:=HNM0.out
   unfold yDz at h
   rw[if_pos hd]at h
   exact h
  have HSZ:Hid (∀x∈f0.take (f0.length-1),x.size≤1048576):=fun x hx=>HSZ0.out x (List.mem_of_mem_take hx)
  have hl1:1<(f0.length:Int):=by omega
  have hem:=zsz hd.2
  clear hd
  go_enter Tryz.func86,Tryz.ntmps86
  go_wp2_with fail
  refine CF.out.mono ?_
  rintro e wa ⟨va,rfl,oa,ba⟩
  rcases zpz oa with ⟨h,_⟩|⟨_,g,cap,rfl⟩
  ·omega
  have hc:=z0z oa (f0.length-1) (by omega)
  have hcap:f0.length≤cap:=by
   rcases oa.2 with ⟨h,_⟩|⟨_,_,_,h,_,_,h3,_⟩
   ·cases h
   cases h;exact h3
  have OV:=zbAz oa (f0.length-1) (by omega)
  rw[v1z]at OV
  have hi:((f0.length:Int)-1)=((f0.length-1:Nat):Int):=by omega
  generalize f0.getD (f0.length-1) ByteArray.empty=q at hc hem
  clear oa
  go_wp2_with fail
  obtain ⟨m,hm⟩: ∃m,f0.length-1=m:=⟨_,rfl⟩
  rw[hm]at OV HNM HSZ⊢
  obtain ⟨fs,hfs⟩: ∃fs,f0.take m=fs:=⟨_,rfl⟩
  rw[hfs]at OV HNM HSZ
  have hml:m=fs.length:=by rw[←hfs,List.length_take];omega
  have hlen2:fs.length≤1048577:=by omega
  clear hfs hm hc hi
  subst hml
  go_loopw[5,6] (fun o i wr=> ∃(k:Nat) (ls:List ByteArray) (z:ByteArray),k≤fs.length∧i=.int .i64 k∧yZz (fs.take k)=some ls∧o=.string z∧z.data.toList=jn 46 ls∧z.size≤253∧wr.ownsRow w.heap.size 9 1 (.slice (some ⟨g,0,none⟩) fs.length cap) fs.length (zrz fs)∧Below w.heap.size w wr)
   (fun _ i _=>fs.length-(intOf i).toNat)
  case atStart=>exact ⟨0,[],⟨#[]⟩,Nat.zero_le _,rfl,rfl,rfl,rfl,by decide,OV,ba⟩
  obtain ⟨k,ls,z,hk,rfl,hls,rfl,hz,hz2,ow,hbel⟩:=hrel
  have HLS:Hid (yZz (fs.take k)=some ls):=hls
  have HZ:Hid (z.data.toList=jn 46 ls):=hz
  have HLN:Hid (ls.length=k):=by show _=_;rw[jQz hls,List.length_take];omega
  have hz3:(z.size:Int)≤253:=by omega
  clear hls hz
  by_cases hlt:k<fs.length
  ·have hc:=z0z ow k hlt
   have hTA:=zcjz hlt HLS.out
   have hsz:=hbel.size
   have CT:Hid (∀W,CB 137 #[.string (fs.getD k ByteArray.empty)] W (yuz (y8z (fs.getD k ByteArray.empty).data.toList))):=fun W=>zbXz _ W (HSZ.out _ (by rw[List.getD_eq_getElem?_getD,List.getElem?_eq_getElem hlt];exact List.getElem_mem hlt))
   rw[zd4z]at CT
   generalize fs.getD k ByteArray.empty=y at hc hTA CT
   have hkl:(k:Int)<fs.length:=by omega
   cases ha:j0z y with
   |none=>
    rw[ha]at CT hTA
    have HF:Hid (yuz (z6z s)=.tuple #[.string ⟨#[]⟩,.bool false]):=xtz (HNM.out.trans (zaKz (jwz hTA)))
    clear ha hTA
    go_wp2_with fail
    refine (CT.out _).mono ?_
    rintro e wb ⟨rfl,bb⟩
    have b2:=hbel.trans (bb.mono hsz)
    clear hbel bb ow
    go_wp2_with fail
    go_ret2
    exact ⟨by rw[HF.out];rfl,b2⟩
   |some a=>
    rw[ha]at CT hTA
    have hal:a.size≤63:=by
     have:=(ylz (zdvz ha).1).2.1
     simpa using this
    have HTA:Hid (yZz (fs.take (k+1))=some (ls++[a])):=hTA
    clear ha hTA
    by_cases hk0:0<k
    ·first
     |(exfalso;omega)
     |(
       have HJ:Hid (((z++⟨#[46]⟩)++a).data.toList=jn 46 (ls++[a])):=by
        show _=_
        rw[zdcz 46 ls a (by intro h;have:=HLN.out;rw[h]at this;simp at this;omega),←HZ.out]
        simp
       have hzs:((z++(⟨#[46]⟩:ByteArray))++a).size=z.size+1+a.size:=by
        rw[ByteArray.size_append,ByteArray.size_append];rfl
       by_cases hov:((z++(⟨#[46]⟩:ByteArray))++a).size≤253
       ·have hov': ¬253<((((z++(⟨#[46]⟩:ByteArray))++a).size:Nat):Int):=by omega
        go_wp2_with fail
        refine (CT.out _).mono ?_
        rintro e wb ⟨rfl,bb⟩
        have b2:=hbel.trans (bb.mono hsz)
        have o2:=zjz ow bb
        clear hbel bb ow
        go_wp2_with fail
        go_roundw
        case rel=>exact ⟨k+1,ls++[a],_,by omega,by go_num,HTA.out,rfl,HJ.out,hov,o2,b2⟩
        case measure=>simp[intOf];omega
       have hov':253<((((z++(⟨#[46]⟩:ByteArray))++a).size:Nat):Int):=by omega
       have HF:Hid (yuz (z6z s)=.tuple #[.string ⟨#[]⟩,.bool false]):=xtz (HNM.out.trans (zc1z HTA.out (by
        rw[←HJ.out]
        have e:=zaXz ((z++(⟨#[46]⟩:ByteArray))++a)
        omega)))
       go_wp2_with fail
       refine (CT.out _).mono ?_
       rintro e wb ⟨rfl,bb⟩
       have b2:=hbel.trans (bb.mono hsz)
       clear hbel bb ow
       go_wp2_with fail
       go_ret2
       exact ⟨by rw[HF.out];rfl,b2⟩)
    have hk00:k=0:=by omega
    subst hk00
    have hl0:ls=[]:=List.eq_nil_of_length_eq_zero HLN.out
    subst hl0
    have hz0:z=⟨#[]⟩:=by
     rw[←zaYz z,HZ.out];rfl
    subst hz0
    have HJ:Hid (((⟨#[]⟩:ByteArray)++a).data.toList=jn 46 ([]++[a])):=by
     show _=_
     rw[zfIz]
     simp
    have hzs:((⟨#[]⟩:ByteArray)++a).size=a.size:=by
     rw[ByteArray.size_append];exact Nat.zero_add _
    have hov': ¬253<((((⟨#[]⟩:ByteArray)++a).size:Nat):Int):=by omega
    go_wp2_with fail
    refine (CT.out _).mono ?_
    rintro e wb ⟨rfl,bb⟩
    have b2:=hbel.trans (bb.mono hsz)
    have o2:=zjz ow bb
    clear hbel bb ow
    go_wp2_with fail
    go_roundw
    case rel=>exact ⟨0+1,[]++[a],_,by omega,by go_num,HTA.out,rfl,HJ.out,by omega,o2,b2⟩
    case measure=>simp[intOf];omega
  have hks:k=fs.length:=by omega
  have HF:Hid (yuz (z6z s)=.tuple #[.string z,.bool true]):=by
   have h:=HLS.out
   rw[hks,List.take_length]at h
   have h2:(jn 46 ls).length≤253:=by
    rw[←HZ.out]
    have e:=zaXz z
    omega
   have h3:=jxz (HNM.out.trans (vLz h h2))
   rw[←HZ.out,zaYz]at h3
   exact h3
  subst hks
  go_wp2_with fail
  go_ret2
  exact ⟨by rw[HF.out];rfl,hbel⟩
 have HNM:Hid (z6z s=vsz f0):=by
  have h:=HNM0.out
  unfold yDz at h
  rw[if_neg hd]at h
  exact h
 by_cases hl1:1<f0.length
 ·have hl1':1<(f0.length:Int):=by omega
  have hem:=zvz (u:=f0.getD (f0.length-1) ByteArray.empty) (by apply Nat.pos_of_ne_zero;intro h;exact hd ⟨hl1,h⟩)
  clear hd
  go_enter Tryz.func86,Tryz.ntmps86
  go_wp2_with fail
  refine CF.out.mono ?_
  rintro e wa ⟨va,rfl,OV,ba⟩
  rcases zpz OV with ⟨h,_⟩|⟨_,g,cap,rfl⟩
  ·omega
  have hc:=z0z OV (f0.length-1) (by omega)
  have hi:((f0.length:Int)-1)=((f0.length-1:Nat):Int):=by omega
  generalize f0.getD (f0.length-1) ByteArray.empty=q at hc hem
  go_wp2_with fail
  clear hc hi hem hl1 hl1'
  have HSZ:=HSZ0
  go_loopw[5,6] (fun o i wr=> ∃(k:Nat) (ls:List ByteArray) (z:ByteArray),k≤f0.length∧i=.int .i64 k∧yZz (f0.take k)=some ls∧o=.string z∧z.data.toList=jn 46 ls∧z.size≤253∧wr.ownsRow w.heap.size 9 1 (.slice (some ⟨g,0,none⟩) f0.length cap) f0.length (zrz f0)∧Below w.heap.size w wr)
   (fun _ i _=>f0.length-(intOf i).toNat)
  case atStart=>exact ⟨0,[],⟨#[]⟩,Nat.zero_le _,rfl,rfl,rfl,rfl,by decide,OV,ba⟩
  obtain ⟨k,ls,z,hk,rfl,hls,rfl,hz,hz2,ow,hbel⟩:=hrel
  have HLS:Hid (yZz (f0.take k)=some ls):=hls
  have HZ:Hid (z.data.toList=jn 46 ls):=hz
  have HLN:Hid (ls.length=k):=by show _=_;rw[jQz hls,List.length_take];omega
  have hz3:(z.size:Int)≤253:=by omega
  clear hls hz
  by_cases hlt:k<f0.length
  ·have hc:=z0z ow k hlt
   have hTA:=zcjz hlt HLS.out
   have hsz:=hbel.size
   have CT:Hid (∀W,CB 137 #[.string (f0.getD k ByteArray.empty)] W (yuz (y8z (f0.getD k ByteArray.empty).data.toList))):=fun W=>zbXz _ W (HSZ.out _ (by rw[List.getD_eq_getElem?_getD,List.getElem?_eq_getElem hlt];exact List.getElem_mem hlt))
   rw[zd4z]at CT
   generalize f0.getD k ByteArray.empty=y at hc hTA CT
   have hkl:(k:Int)<f0.length:=by omega
   cases ha:j0z y with
   |none=>
    rw[ha]at CT hTA
    have HF:Hid (yuz (z6z s)=.tuple #[.string ⟨#[]⟩,.bool false]):=xtz (HNM.out.trans (zaKz (jwz hTA)))
    clear ha hTA
    go_wp2_with fail
    refine (CT.out _).mono ?_
    rintro e wb ⟨rfl,bb⟩
    have b2:=hbel.trans (bb.mono hsz)
    clear hbel bb ow
    go_wp2_with fail
    go_ret2
    exact ⟨by rw[HF.out];rfl,b2⟩
   |some a=>
    rw[ha]at CT hTA
    have hal:a.size≤63:=by
     have:=(ylz (zdvz ha).1).2.1
     simpa using this
    have HTA:Hid (yZz (f0.take (k+1))=some (ls++[a])):=hTA
    clear ha hTA
    by_cases hk0:0<k
    ·first
     |(exfalso;omega)
     |(
       have HJ:Hid (((z++⟨#[46]⟩)++a).data.toList=jn 46 (ls++[a])):=by
        show _=_
        rw[zdcz 46 ls a (by intro h;have:=HLN.out;rw[h]at this;simp at this;omega),←HZ.out]
        simp
       have hzs:((z++(⟨#[46]⟩:ByteArray))++a).size=z.size+1+a.size:=by
        rw[ByteArray.size_append,ByteArray.size_append];rfl
       by_cases hov:((z++(⟨#[46]⟩:ByteArray))++a).size≤253
       ·have hov': ¬253<((((z++(⟨#[46]⟩:ByteArray))++a).size:Nat):Int):=by omega
        go_wp2_with fail
        refine (CT.out _).mono ?_
        rintro e wb ⟨rfl,bb⟩
        have b2:=hbel.trans (bb.mono hsz)
        have o2:=zjz ow bb
        clear hbel bb ow
        go_wp2_with fail
        go_roundw
        case rel=>exact ⟨k+1,ls++[a],_,by omega,by go_num,HTA.out,rfl,HJ.out,hov,o2,b2⟩
        case measure=>simp[intOf];omega
       have hov':253<((((z++(⟨#[46]⟩:ByteArray))++a).size:Nat):Int):=by omega
       have HF:Hid (yuz (z6z s)=.tuple #[.string ⟨#[]⟩,.bool false]):=xtz (HNM.out.trans (zc1z HTA.out (by
        rw[←HJ.out]
        have e:=zaXz ((z++(⟨#[46]⟩:ByteArray))++a)
        omega)))
       go_wp2_with fail
       refine (CT.out _).mono ?_
       rintro e wb ⟨rfl,bb⟩
       have b2:=hbel.trans (bb.mono hsz)
       clear hbel bb ow
       go_wp2_with fail
       go_ret2
       exact ⟨by rw[HF.out];rfl,b2⟩)
    have hk00:k=0:=by omega
    subst hk00
    have hl0:ls=[]:=List.eq_nil_of_length_eq_zero HLN.out
    subst hl0
    have hz0:z=⟨#[]⟩:=by
     rw[←zaYz z,HZ.out];rfl
    subst hz0
    have HJ:Hid (((⟨#[]⟩:ByteArray)++a).data.toList=jn 46 ([]++[a])):=by
     show _=_
     rw[zfIz]
     simp
    have hzs:((⟨#[]⟩:ByteArray)++a).size=a.size:=by
     rw[ByteArray.size_append];exact Nat.zero_add _
    have hov': ¬253<((((⟨#[]⟩:ByteArray)++a).size:Nat):Int):=by omega
    go_wp2_with fail
    refine (CT.out _).mono ?_
    rintro e wb ⟨rfl,bb⟩
    have b2:=hbel.trans (bb.mono hsz)
    have o2:=zjz ow bb
    clear hbel bb ow
    go_wp2_with fail
    go_roundw
    case rel=>exact ⟨0+1,[]++[a],_,by omega,by go_num,HTA.out,rfl,HJ.out,by omega,o2,b2⟩
    case measure=>simp[intOf];omega
  have hks:k=f0.length:=by omega
  have HF:Hid (yuz (z6z s)=.tuple #[.string z,.bool true]):=by
   have h:=HLS.out
   rw[hks,List.take_length]at h
   have h2:(jn 46 ls).length≤253:=by
    rw[←HZ.out]
    have e:=zaXz z
    omega
   have h3:=jxz (HNM.out.trans (vLz h h2))
   rw[←HZ.out,zaYz]at h3
   exact h3
  subst hks
  go_wp2_with fail
  go_ret2
  exact ⟨by rw[HF.out];rfl,hbel⟩
 have hl1': ¬1<(f0.length:Int):=by omega
 clear hd
 go_enter Tryz.func86,Tryz.ntmps86
 go_wp2_with fail
 refine CF.out.mono ?_
 rintro e wa ⟨va,rfl,OV,ba⟩
 rcases zpz OV with ⟨h,_⟩|⟨_,g,cap,rfl⟩
 ·omega
 go_wp2_with fail
 clear hl1 hl1'
 have HSZ:=HSZ0
 go_loopw[5,6] (fun o i wr=> ∃(k:Nat) (ls:List ByteArray) (z:ByteArray),k≤f0.length∧i=.int .i64 k∧yZz (f0.take k)=some ls∧o=.string z∧z.data.toList=jn 46 ls∧z.size≤253∧wr.ownsRow w.heap.size 9 1 (.slice (some ⟨g,0,none⟩) f0.length cap) f0.length (zrz f0)∧Below w.heap.size w wr)
  (fun _ i _=>f0.length-(intOf i).toNat)
 case atStart=>exact ⟨0,[],⟨#[]⟩,Nat.zero_le _,rfl,rfl,rfl,rfl,by decide,OV,ba⟩
 obtain ⟨k,ls,z,hk,rfl,hls,rfl,hz,hz2,ow,hbel⟩:=hrel
 have HLS:Hid (yZz (f0.take k)=some ls):=hls
 have HZ:Hid (z.data.toList=jn 46 ls):=hz
 have HLN:Hid (ls.length=k):=by show _=_;rw[jQz hls,List.length_take];omega
 have hz3:(z.size:Int)≤253:=by omega
 clear hls hz
 by_cases hlt:k<f0.length
 ·have hc:=z0z ow k hlt
  have hTA:=zcjz hlt HLS.out
  have hsz:=hbel.size
  have CT:Hid (∀W,CB 137 #[.string (f0.getD k ByteArray.empty)] W (yuz (y8z (f0.getD k ByteArray.empty).data.toList))):=fun W=>zbXz _ W (HSZ.out _ (by rw[List.getD_eq_getElem?_getD,List.getElem?_eq_getElem hlt];exact List.getElem_mem hlt))
  rw[zd4z]at CT
  generalize f0.getD k ByteArray.empty=y at hc hTA CT
  have hkl:(k:Int)<f0.length:=by omega
  cases ha:j0z y with
  |none=>
   rw[ha]at CT hTA
   have HF:Hid (yuz (z6z s)=.tuple #[.string ⟨#[]⟩,.bool false]):=xtz (HNM.out.trans (zaKz (jwz hTA)))
   clear ha hTA
   go_wp2_with fail
   refine (CT.out _).mono ?_
   rintro e wb ⟨rfl,bb⟩
   have b2:=hbel.trans (bb.mono hsz)
   clear hbel bb ow
   go_wp2_with fail
   go_ret2
   exact ⟨by rw[HF.out];rfl,b2⟩
  |some a=>
   rw[ha]at CT hTA
   have hal:a.size≤63:=by
    have:=(ylz (zdvz ha).1).2.1
    simpa using this
   have HTA:Hid (yZz (f0.take (k+1))=some (ls++[a])):=hTA
   clear ha hTA
   by_cases hk0:0<k
   ·first
    |(exfalso;omega)
    |(
      have HJ:Hid (((z++⟨#[46]⟩)++a).data.toList=jn 46 (ls++[a])):=by
       show _=_
       rw[zdcz 46 ls a (by intro h;have:=HLN.out;rw[h]at this;simp at this;omega),←HZ.out]
       simp
      have hzs:((z++(⟨#[46]⟩:ByteArray))++a).size=z.size+1+a.size:=by
       rw[ByteArray.size_append,ByteArray.size_append];rfl
      by_cases hov:((z++(⟨#[46]⟩:ByteArray))++a).size≤253
      ·have hov': ¬253<((((z++(⟨#[46]⟩:ByteArray))++a).size:Nat):Int):=by omega
       go_wp2_with fail
       refine (CT.out _).mono ?_
       rintro e wb ⟨rfl,bb⟩
       have b2:=hbel.trans (bb.mono hsz)
       have o2:=zjz ow bb
       clear hbel bb ow
       go_wp2_with fail
       go_roundw
       case rel=>exact ⟨k+1,ls++[a],_,by omega,by go_num,HTA.out,rfl,HJ.out,hov,o2,b2⟩
       case measure=>simp[intOf];omega
      have hov':253<((((z++(⟨#[46]⟩:ByteArray))++a).size:Nat):Int):=by omega
      have HF:Hid (yuz (z6z s)=.tuple #[.string ⟨#[]⟩,.bool false]):=xtz (HNM.out.trans (zc1z HTA.out (by
       rw[←HJ.out]
       have e:=zaXz ((z++(⟨#[46]⟩:ByteArray))++a)
       omega)))
      go_wp2_with fail
      refine (CT.out _).mono ?_
      rintro e wb ⟨rfl,bb⟩
      have b2:=hbel.trans (bb.mono hsz)
      clear hbel bb ow
      go_wp2_with fail
      go_ret2
      exact ⟨by rw[HF.out];rfl,b2⟩)
   have hk00:k=0:=by omega
   subst hk00
   have hl0:ls=[]:=List.eq_nil_of_length_eq_zero HLN.out
   subst hl0
   have hz0:z=⟨#[]⟩:=by
    rw[←zaYz z,HZ.out];rfl
   subst hz0
   have HJ:Hid (((⟨#[]⟩:ByteArray)++a).data.toList=jn 46 ([]++[a])):=by
    show _=_
    rw[zfIz]
    simp
   have hzs:((⟨#[]⟩:ByteArray)++a).size=a.size:=by
    rw[ByteArray.size_append];exact Nat.zero_add _
   have hov': ¬253<((((⟨#[]⟩:ByteArray)++a).size:Nat):Int):=by omega
   go_wp2_with fail
   refine (CT.out _).mono ?_
   rintro e wb ⟨rfl,bb⟩
   have b2:=hbel.trans (bb.mono hsz)
   have o2:=zjz ow bb
   clear hbel bb ow
   go_wp2_with fail
   go_roundw
   case rel=>exact ⟨0+1,[]++[a],_,by omega,by go_num,HTA.out,rfl,HJ.out,by omega,o2,b2⟩
   case measure=>simp[intOf];omega
 have hks:k=f0.length:=by omega
 have HF:Hid (yuz (z6z s)=.tuple #[.string z,.bool true]):=by
  have h:=HLS.out
  rw[hks,List.take_length]at h
  have h2:(jn 46 ls).length≤253:=by
   rw[←HZ.out]
   have e:=zaXz z
   omega
  have h3:=jxz (HNM.out.trans (vLz h h2))
  rw[←HZ.out,zaYz]at h3
  exact h3
 subst hks
 go_wp2_with fail
 go_ret2
 exact ⟨by rw[HF.out];rfl,hbel⟩
def znJz(w w':World)(r:Option (List ByteArray))(e:Ending):Prop:=match r with
 |some ls=> ∃v,e=.returned (.tuple #[v,.bool true])∧w'.ownsRow w.heap.size 9 1 v ls.length (zrz ls)
 |none=> ∃v,e=.returned (.tuple #[v,.bool false])
theorem zq9z(fs:List ByteArray)(B:Nat)(v:Value)(w:World)(hpos:0<fs.length)(hlen:fs.length≤1048577)(hsz: ∀x∈fs,x.size≤1048576)(hT:Lib.Utf8Tabs 12 13 w)
  (hown:w.ownsRow B 9 1 v fs.length (zrz fs)):
  Calls Tryz.prog 281 #[v,.func (.func 282) #[] #[]] w fun e w'=>znJz w w' (yZz fs) e∧Below w.heap.size w w':=by
 obtain ⟨i0,hi,hz0,hz1,hz2⟩:=info_parts Tryz.infoStr
 have HSZ:Hid (∀x∈fs,x.size≤1048576):=hsz
 have HT:Hid (Lib.Utf8Tabs 12 13 w):=hT
 clear hsz hT
 rcases zpz hown with ⟨h,_⟩|⟨_,g,cap,rfl⟩
 ·omega
 have HOW:Hid (w.ownsRow B 9 1 (.slice (some ⟨g,0,none⟩) fs.length cap) fs.length (zrz fs)):=hown
 clear hown
 go_enter Tryz.func281,Tryz.ntmps281
 go_wp2_with (at_make;refine wpList_make_own _ rfl _ _ 245 rfl w.heap.size 9 i0 (.string ⟨#[]⟩) 1 Tryz.underlying245 hi hz0 hz1 _ _ _ fs.length rfl rfl (by omega) (by rw[hz2];omega) (by unfold maxLen;omega) (Nat.le_refl _) ?_)
 intro wm hmo hgm
 have Bm:Below w.heap.size w wm:=(Below.refl _ _).grown hgm (Nat.le_refl _) (fun k hk=>by cases hk)
 have om:wm.ownsRow w.heap.size 9 1 (.slice (some ⟨w.heap.size,0,none⟩) 0 fs.length) 0 []:=hmo
 clear hmo hgm
 go_wp2_with fail
 go_loopw[6,16] (fun m i wr=> ∃(k:Nat) (ls:List ByteArray),k≤fs.length∧i=.int .i64 k∧yZz (fs.take k)=some ls∧wr.ownsRow w.heap.size 9 1 m ls.length (zrz ls)∧Below w.heap.size w wr)
  (fun _ i _=>fs.length-(intOf i).toNat)
 case atStart=>exact ⟨0,[],Nat.zero_le _,rfl,rfl,om,Bm⟩
 obtain ⟨k,ls,hk,rfl,hls,ow,hbel⟩:=hrel
 clear om Bm
 have HLS:Hid (yZz (fs.take k)=some ls):=hls
 have hln:ls.length=k:=by rw[jQz hls,List.length_take];omega
 clear hls
 have hsz:=hbel.size
 by_cases hlt:k<fs.length
 ·have hc:=z0z (zjz HOW.out hbel) k hlt
  have hTA:=zcjz hlt HLS.out
  have CT:Hid (∀W,Lib.Utf8Tabs 12 13 W→CB 282 #[.string (fs.getD k ByteArray.empty)] W (yuz (y8z (fs.getD k ByteArray.empty).data.toList))):=fun W hT=>zlaz _ W (HSZ.out _ (by rw[List.getD_eq_getElem?_getD,List.getElem?_eq_getElem hlt];exact List.getElem_mem hlt)) hT
  have HTW:Hid (Lib.Utf8Tabs 12 13 wr):=zYz HT.out hbel
  rw[zd4z]at CT
  generalize fs.getD k ByteArray.empty=y at hc hTA CT
  have hkl:(k:Int)<fs.length:=by omega
  cases ha:j0z y with
  |none=>
   rw[ha]at CT hTA
   have HF:Hid (yZz fs=none):=jwz hTA
   clear ha hTA
   go_wp2_with fail
   refine (CT.out _ HTW.out).mono ?_
   rintro e wb ⟨rfl,bb⟩
   have b2:=hbel.trans (bb.mono hsz)
   clear hbel bb ow
   go_wp2_with fail
   go_ret2
   rw[HF.out]
   exact ⟨⟨_,rfl⟩,b2⟩
  |some a=>
   rw[ha]at CT hTA
   have HTA:Hid (yZz (fs.take (k+1))=some (ls++[a])):=hTA
   clear ha hTA
   go_wp2_with fail
   refine (CT.out _ HTW.out).mono ?_
   rintro e wb ⟨rfl,bb⟩
   have b2:=hbel.trans (bb.mono hsz)
   have o2:=zjz ow bb
   have z2:=b2.size
   clear hbel bb ow HTW CT
   go_wp2_with (at_builtin;refine zbz _ rfl _ _ 245 rfl w.heap.size 9 (.string ⟨#[]⟩) 16 Tryz.underlying245 Tryz.infoStr rfl _ _ _ rfl o2 #[.string a] 1 rfl rfl (vPz _) (by omega) (by unfold maxLen;omega) z2 ?_)
   intro v' w1 ow' hb1
   have R:w1.ownsRow w.heap.size 9 1 v' (ls++[a]).length (zrz (ls++[a])):=by
    rw[vXz,List.length_append,hln]
    exact ow'
   have B1:Below w.heap.size w w1:=b2.trans hb1
   clear ow' hb1 o2 b2
   go_wp2_with fail
   go_roundw
   case rel=>exact ⟨k+1,ls++[a],by omega,by go_num,HTA.out,R,B1⟩
   case measure=>simp[intOf];omega
 have hks:k=fs.length:=by omega
 have HF:Hid (yZz fs=some ls):=by
  have h:=HLS.out
  rw[hks,List.take_length]at h
  exact h
 go_wp2_with fail
 go_ret2
 rw[HF.out]
 exact ⟨⟨_,rfl,ow⟩,hbel⟩
theorem zgJz(s:ByteArray)(w:World)(hs:s.size≤1048576)(hT:Lib.Utf8Tabs 12 13 w):
  Calls Tryz.prog 266 #[.string s] w fun e w'=>e=.returned (yuz (z6z s))∧Below w.heap.size w w':=by
 have CF:Hid (Calls Tryz.prog 135 #[.string s,.int .u8 46] w fun e w'=> ∃v,e=.returned v∧w'.ownsRow w.heap.size 9 1 v (zaz s 46).length (zrz (zaz s 46))∧Below w.heap.size w w'):=zcJz s 46 w hs
 have hpos:0<(zaz s 46).length:=by simp[zaz]
 have hlen:(zaz s 46).length≤1048577:=by
  have:=(yAz s 46 s.size).2
  simp[zaz];omega
 have HSZ:Hid (∀x∈yDz (zaz s 46),x.size≤1048576):=zeLz (xKz s hs)
 have HNM:Hid (z6z s=vsz (yDz (zaz s 46))):=rfl
 have hp2:=zeez hpos
 have hl2:(yDz (zaz s 46)).length≤1048577:=Nat.le_trans (zjEz _) hlen
 have HT:Hid (Lib.Utf8Tabs 12 13 w):=hT
 have CW:Hid (∀(W:World) (v:Value) (B:Nat),W.ownsRow B 9 1 v (zaz s 46).length (zrz (zaz s 46))→Calls Tryz.prog 280 #[v] W fun e w'=> ∃v',e=.returned v'∧W.ownsRow B 9 1 v' (yDz (zaz s 46)).length (zrz (yDz (zaz s 46)))∧W=w'):=
  fun W v B h=>zeMz _ B v W hpos hlen h
 clear hT
 generalize yDz (zaz s 46)=fs at CW HSZ HNM hp2 hl2
 go_enter Tryz.func266,Tryz.ntmps266
 go_wp2_with fail
 refine CF.out.mono ?_
 rintro e wa ⟨va,rfl,oa,ba⟩
 go_wp2_with fail
 refine (CW.out _ _ _ oa).mono ?_
 rintro e wb ⟨vb,rfl,ob,rfl⟩
 clear oa CW CF hpos hlen
 have za:=ba.size
 have CE:Hid (Calls Tryz.prog 281 #[vb,.func (.func 282) #[] #[]] wa fun e w'=>znJz wa w' (yZz fs) e∧Below wa.heap.size wa w'):=zq9z fs _ vb wa hp2 hl2 HSZ.out (zYz HT.out ba) ob
 clear ob
 cases hr:yZz fs with
 |none=>
  have HF:Hid (yuz (z6z s)=.tuple #[.string ⟨#[]⟩,.bool false]):=xtz (HNM.out.trans (zaKz hr))
  rw[hr]at CE
  clear hr
  go_wp2_with fail
  refine CE.out.mono ?_
  rintro e wc ⟨⟨vc,rfl⟩,bc⟩
  have b2:=ba.trans (bc.mono za)
  clear ba bc
  go_wp2_with fail
  go_ret2
  exact ⟨by rw[HF.out];rfl,b2⟩
 |some ls=>
  have hll:ls.length=fs.length:=jQz hr
  have hjb:=zpYz 46 ls (zhLz (zhKz hr))
  rw[hr]at CE
  have HR:Hid (yZz fs=some ls):=hr
  clear hr
  go_wp2_with fail
  refine CE.out.mono ?_
  rintro e wc ⟨⟨vc,rfl,oc⟩,bc⟩
  have b2:=ba.trans (bc.mono za)
  clear ba bc
  rcases zpz oc with ⟨h,_⟩|⟨_,g,cap,rfl⟩
  ·omega
  have CJ:=Tryz.strings_Join g 0 cap ls ⟨#[46]⟩ wc (fun j x hj=>by
    have hjl:j<ls.length:=(List.getElem?_eq_some_iff.1 hj).1
    rw[Nat.zero_add,z0z oc j hjl,List.getD_eq_getElem?_getD,hj]
    rfl) (oc.lt g rfl).2 (by omega) (joz oc) (by
    rw[show (⟨#[46]⟩:ByteArray).data.toList=[46] from rfl,zncz];omega)
  rw[show (⟨#[46]⟩:ByteArray).data.toList=[46] from rfl,zncz]at CJ
  have CJ:Hid (CB 185 #[.slice (some ⟨g,0,none⟩) ls.length cap,.string ⟨#[46]⟩] wc (.string ⟨(jn 46 ls).toArray⟩)):=CJ
  have hsz:(⟨(jn 46 ls).toArray⟩:ByteArray).size=(jn 46 ls).length:=by
   show (jn 46 ls).toArray.size=_
   exact List.size_toArray
  clear oc hll
  by_cases hov:(jn 46 ls).length≤253
  ·have HF:Hid (yuz (z6z s)=.tuple #[.string ⟨(jn 46 ls).toArray⟩,.bool true]):=jxz (HNM.out.trans (vLz HR.out hov))
   generalize (⟨(jn 46 ls).toArray⟩:ByteArray)=T at CJ hsz HF
   have hov': ¬253<(T.size:Int):=by omega
   clear hsz
   go_wp2_with fail
   refine CJ.out.mono ?_
   rintro e wd ⟨rfl,bd⟩
   have b3:=b2.trans (bd.mono b2.size)
   clear b2 bd
   go_wp2_with fail
   go_ret2
   exact ⟨by rw[HF.out];rfl,b3⟩
  have HF:Hid (yuz (z6z s)=.tuple #[.string ⟨#[]⟩,.bool false]):=xtz (HNM.out.trans (zf8z HR.out hov))
  generalize (⟨(jn 46 ls).toArray⟩:ByteArray)=T at CJ hsz
  have hov':253<(T.size:Int):=by omega
  clear hsz
  go_wp2_with fail
  refine CJ.out.mono ?_
  rintro e wd ⟨rfl,bd⟩
  have b3:=b2.trans (bd.mono b2.size)
  clear b2 bd
  go_wp2_with fail
  go_ret2
  exact ⟨by rw[HF.out];rfl,b3⟩
end Go.Proofs.YtgcbaphbiaimoaaGreatDoor
