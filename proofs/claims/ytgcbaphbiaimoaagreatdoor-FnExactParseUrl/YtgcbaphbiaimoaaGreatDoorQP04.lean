/- Loose4Walk, Ip4Spec, Ip4Impl, MaxLaid. -/
import Derived.Test.YtgcbaphbiaimoaaGreatDoorQP03
import Derived.Lib.AppendIntMem
set_option maxHeartbeats 8000000
set_option maxRecDepth 20000
namespace Go.Proofs.YtgcbaphbiaimoaaGreatDoor
open Go.RowKit
set_option linter.unusedSimpArgs false
theorem vGz(fs:List ByteArray)(k:Nat)(h:k<fs.length):fs.drop k=fs.getD k ByteArray.empty::fs.drop (k+1):=by
 rw[List.drop_eq_getElem_cons h]
 simp[List.getD,h]
theorem ziyz(fs:List ByteArray)(k n r:Nat)(h: ¬k<fs.length):loF n r ((fs.drop k).map toL)=none:=by
 rw[List.drop_of_length_le (by omega)];rfl
theorem zdgz(fs:List ByteArray)(k n r:Nat)(h:k+1=fs.length):loF n r ((fs.drop k).map toL)=match zWz (toL (fs.getD k ByteArray.empty))with
  |none=>none
  |some v=>if v<r then some (n*r+v)else none:=by
 rw[vGz fs k (by omega),List.drop_of_length_le (by omega)]
 rfl
theorem zfjz(fs:List ByteArray)(k n r:Nat)(h:k+1<fs.length):loF n r ((fs.drop k).map toL)=match zWz (toL (fs.getD k ByteArray.empty))with
  |none=>none
  |some v=>if v<256 then loF (n*256+v) (r/256) ((fs.drop (k+1)).map toL)else none:=by
 rw[vGz fs k (by omega),vGz fs (k+1) h]
 rfl
theorem zm0z{fs:List ByteArray}(h:4<fs.length):lo4 (fs.map toL)=none:=by
 unfold lo4
 rw[if_neg (by simp;omega)]
theorem zjHz{fs:List ByteArray}(h:fs.length≤4):lo4 (fs.map toL)=loF 0 4294967296 (fs.map toL):=by
 unfold lo4
 rw[if_pos (by simpa using h)]
theorem jLz{fs:List ByteArray}{k:Nat}(h:k<fs.length):fs.getD k ByteArray.empty∈fs:=by
 rw[List.getD_eq_getElem?_getD,List.getElem?_eq_getElem h]
 exact List.getElem_mem h
theorem zfJz{k:Nat}(h:k≤3):256^k≤16777216:=Nat.pow_le_pow_right (n:=256) (j:=3) (by decide) h
theorem zizz(s:ByteArray)(w:World)(hs:s.size≤1048576):
  Calls Tryz.prog 116 #[.string s] w fun e w'=>e=.returned (y1z (loA s))∧Below w.heap.size w w':=by
 have CF:Hid (Calls Tryz.prog 93 #[.string s,.int .u8 46] w fun e w'=> ∃v,e=.returned v∧w'.ownsRow w.heap.size 9 1 v (zaz s 46).length (zrz (zaz s 46))∧Below w.heap.size w w'):=jJz s 46 w hs
 have hpos:0<(zaz s 46).length:=by simp[zaz]
 have hlen:(zaz s 46).length≤1048577:=by
  have:=(yAz s 46 s.size).2
  simp[zaz];omega
 have HSZ0:Hid (∀x∈zaz s 46,x.size≤1048576):=xKz s hs
 have HNM0:Hid (loA s=lo4 ((yDz (zaz s 46)).map toL)):=rfl
 generalize zaz s 46=f0 at CF hpos hlen HSZ0 HNM0
 go_enter Tryz.func116,Tryz.ntmps116
 go_wp2_with fail
 refine CF.out.mono ?_
 rintro e wa ⟨va,rfl,oa,ba⟩
 rcases zpz oa with ⟨h,_⟩|⟨_,g,cap,rfl⟩
 ·omega
 have hc:=z0z oa (f0.length-1) (by omega)
 have hcap:=joz oa
 have hi:((f0.length:Int)-1)=((f0.length-1:Nat):Int):=by omega
 have OA:Hid (wa.ownsRow w.heap.size 9 1 (.slice (some ⟨g,0,none⟩) f0.length cap) f0.length (zrz f0)):=oa
 have HP:Hid (0<f0.length∧f0.length≤1048577):=⟨hpos,hlen⟩
 clear oa CF
 obtain ⟨b,hb⟩: ∃b,decide (1<f0.length∧(f0.getD (f0.length-1) ByteArray.empty).size=0)=b:=⟨_,rfl⟩
 have HB:Hid (decide (1<f0.length∧(f0.getD (f0.length-1) ByteArray.empty).size=0)=b):=hb
 clear hb
 go_upto_region 2 with fail
 go_cut [22] (fun v wx=>v=.bool b∧wx=wa)
 case first=>
  by_cases hl1:1<f0.length
  ·have hl1':1<(f0.length:Int):=by omega
   by_cases hz:(f0.getD (f0.length-1) ByteArray.empty).size=0
   ·have hem:=zsz hz
    have HT:Hid (b=true):=HB.out.symm.trans (decide_eq_true ⟨hl1,hz⟩)
    generalize f0.getD (f0.length-1) ByteArray.empty=q at hc hem
    clear hz
    go_wp2_with fail
    go_meet
    exact ⟨by rw[HT.out],rfl⟩
   have hem:=zvz (u:=f0.getD (f0.length-1) ByteArray.empty) (by omega)
   have HT:Hid (b=false):=HB.out.symm.trans (decide_eq_false fun h=>hz h.2)
   generalize f0.getD (f0.length-1) ByteArray.empty=q at hc hem
   clear hz
   go_wp2_with fail
   go_meet
   exact ⟨by rw[HT.out],rfl⟩
  have hl1': ¬1<(f0.length:Int):=by omega
  have HT:Hid (b=false):=HB.out.symm.trans (decide_eq_false fun h=>hl1 h.1)
  go_wp2_with fail
  go_meet
  exact ⟨by rw[HT.out],rfl⟩
 obtain ⟨rfl,hw⟩:=hcut
 obtain rfl:=hw.symm
 clear hc
 go_upto_if 22 with fail
 go_cut [4] (fun v wx=> ∃(fs:List ByteArray) (cap':Nat),v=.slice (some ⟨g,0,none⟩) fs.length cap'∧wx=wa∧wa.ownsRow w.heap.size 9 1 (.slice (some ⟨g,0,none⟩) fs.length cap') fs.length (zrz fs)∧Hid (loA s=lo4 (fs.map toL))∧Hid (∀x∈fs,x.size≤1048576)∧1≤fs.length∧fs.length≤1048577)
 case first=>
  cases b with
  |true=>
   have hd:=of_decide_eq_true HB.out
   have OV:=zbAz OA.out (f0.length-1) (by omega)
   rw[v1z]at OV
   have HNM:Hid (loA s=lo4 ((f0.take (f0.length-1)).map toL)):=by
    have h:=HNM0.out
    unfold yDz at h
    rw[if_pos hd]at h
    exact h
   have HSZ:Hid (∀x∈f0.take (f0.length-1),x.size≤1048576):=fun x hx=>HSZ0.out x (List.mem_of_mem_take hx)
   have hl1:1<(f0.length:Int):=by omega
   have hml:(f0.take (f0.length-1)).length=f0.length-1:=by rw[List.length_take];omega
   obtain ⟨fs,hfs⟩: ∃fs,f0.take (f0.length-1)=fs:=⟨_,rfl⟩
   rw[hfs]at OV HNM HSZ hml
   have HML:Hid (fs.length=f0.length-1):=hml
   have HOV:Hid (wa.ownsRow w.heap.size 9 1 (.slice (some ⟨g,0,none⟩) (f0.length-1) cap) (f0.length-1) (zrz fs)):=OV
   clear hd hfs hml OV
   go_wp2_with fail
   go_meet
   have hp:=HP.out
   have hm:=HML.out
   exact ⟨fs,cap,by rw[hm],rfl,by rw[hm];exact HOV.out,HNM,HSZ,by omega,by omega⟩
  |false=>
   have hd:=of_decide_eq_false HB.out
   have HNM:Hid (loA s=lo4 (f0.map toL)):=by
    have h:=HNM0.out
    unfold yDz at h
    rw[if_neg hd]at h
    exact h
   clear hd
   go_wp2_with fail
   go_meet
   have hp:=HP.out
   exact ⟨f0,cap,rfl,rfl,OA.out,HNM,HSZ0,by omega,by omega⟩
 obtain ⟨fs,cap',rfl,hw,OV,HNM,HSZ,hq1,hq2⟩:=hcut
 obtain rfl:=hw.symm
 clear OA HP HB HNM0 HSZ0 hi hcap
 by_cases h5:4<fs.length
 ·have HZ:Hid (loA s=none):=by
   show _=_
   rw[HNM.out,zm0z h5]
  have h5':4<(fs.length:Int):=by omega
  go_wp2_with fail
  go_ret2
  exact ⟨by rw[HZ.out];rfl,ba⟩
 have h5': ¬4<(fs.length:Int):=by omega
 go_wp2_with fail
 have hlen2:1≤fs.length∧fs.length≤4:=by omega
 clear hpos hlen h5' h5 hq1 hq2
 have h4:fs.length=1∨fs.length=2∨fs.length=3∨fs.length=4:=by omega
 rcases h4 with hM|hM|hM|hM
 ·have HF:Hid (loA s=loF 0 4294967296 (fs.map toL)):=by
   show _=_
   rw[HNM.out,zjHz (by omega)]
  have HM:Hid (fs.length=1):=hM
  rw[hM]at OV⊢
  simp only[show ((1:Nat):Int)=(1:Int) from rfl,show decide ((4:Int)<(1:Int))=false from by decide,show decide ((1:Int)<(1:Int))=false from by decide,Nat.reduceSub,Int.reduceSub,show ((0:Nat):Int)=(0:Int) from rfl]
  clear hM hlen2
  go_loop[5,6] (fun x i=> ∃k n:Nat,k≤1∧i=.int .i64 k∧x=.int .i64 n∧n<256^k∧loF n (4294967296/256^k) ((fs.drop k).map toL)=loF 0 4294967296 (fs.map toL)) (fun _ i=>1-(intOf i).toNat)
  case atStart=>exact ⟨0,0,Nat.zero_le _,rfl,rfl,by decide,rfl⟩
  obtain ⟨k,n,hk,rfl,rfl,hn,hf⟩:=hrel
  have HR:Hid (loF n (4294967296/256^k) ((fs.drop k).map toL)=loF 0 4294967296 (fs.map toL)):=hf
  have HN:Hid (n<256^k):=hn
  clear hf
  have HN2:Hid (k<1→(n:Int)<16777216):=fun h=>by have h2:=zfJz (k:=k) (by omega);omega
  clear hn
  by_cases hlt:k<1
  ·obtain ⟨a,ha⟩: ∃a:Int,(n:Int)=a:=⟨_,rfl⟩
   have hn3:a<16777216:=by rw[←ha];exact HN2.out hlt
   have hn0:0≤a:=by omega
   have HAN:Hid ((n:Int)=a):=ha
   rw[ha]
   clear ha
   have hc:=z0z OV k (by omega)
   have hsy:=HSZ.out _ (jLz (k:=k) (by have:=HM.out;omega))
   have CT:Hid (∀W,CS 169 #[.string (fs.getD k ByteArray.empty)] W (.int .i64 (yLz (zWz (toL (fs.getD k ByteArray.empty)))))):=fun W=>zb5z _ W hsy
   have hki:(k:Int)<1:=by omega
   by_cases hl:k+1=1
   ·have HS:Hid (_=_):=zdgz fs k n (4294967296/256^k) (by have:=HM.out;omega)
    obtain rfl:k=1-1:=by omega
    rw[show 4294967296/256^(1-1)=4294967296 from by decide]at HS HR
    generalize fs.getD (1-1) ByteArray.empty=y at hc CT HS hsy
    clear hl hsy
    cases hv:zWz (toL y)with
    |none=>
     rw[hv]at CT HS
     have HZ:Hid (loA s=none):=by
      show _=_
      rw[HF.out,←HR.out,HS.out]
     clear hv
     have hng:(-1:Int)<0:=by decide
     go_wp2_with fail
     refine (CT.out _).mono ?_
     rintro e w' ⟨rfl,rfl⟩
     simp only[yLz]
     go_wp2_with fail
     go_ret2
     exact ⟨by rw[HZ.out];rfl,ba⟩
    |some v=>
     rw[hv]at CT HS
     clear hv
     by_cases hvr:v<4294967296
     ·have HZ:Hid (loA s=some (n*4294967296+v)):=by
       show _=_
       rw[HF.out,←HR.out,HS.out]
       exact if_pos hvr
      have hv1:(v:Int)<4294967296:=by omega
      have hv0: ¬(v:Int)<0:=by omega
      obtain ⟨x,hx⟩: ∃x:Int,(v:Int)=x:=⟨_,rfl⟩
      rw[hx]at hv1 hv0
      have e2:bits .or .i64 (a*4294967296) x=a*4294967296+x:=x4z 32 _ _ (by omega) (by omega) (by omega) (by omega) (by omega) (by omega)
      have HX:Hid ((v:Int)=x):=hx
      clear hx
      have HV:Hid (v<4294967296):=hvr
      clear hvr
      go_wp2_with fail
      refine (CT.out _).mono ?_
      rintro e w' ⟨rfl,rfl⟩
      simp only[yLz]
      rw[HX.out]
      go_wp2_with fail
      go_ret2
      exact ⟨by rw[HZ.out];have h1:=HAN.out;have h2:=HX.out;simp[y1z];omega,ba⟩
     have HZ:Hid (loA s=none):=by
      show _=_
      rw[HF.out,←HR.out,HS.out]
      exact if_neg hvr
     have hv1: ¬(v:Int)<4294967296:=by omega
     have hv0: ¬(v:Int)<0:=by omega
     have HV:Hid (¬v<4294967296):=hvr
     clear hvr
     go_wp2_with fail
     refine (CT.out _).mono ?_
     rintro e w' ⟨rfl,rfl⟩
     simp only[yLz]
     go_wp2_with fail
     go_ret2
     exact ⟨by rw[HZ.out];rfl,ba⟩
   exfalso;omega
  have HZ:Hid (loA s=none):=by
   show _=_
   rw[HF.out,←HR.out]
   exact ziyz fs k _ _ (by have:=HM.out;omega)
  have hki: ¬(k:Int)<1:=by omega
  go_wp2_with fail
  go_ret2
  exact ⟨by rw[HZ.out];rfl,ba⟩
 ·have HF:Hid (loA s=loF 0 4294967296 (fs.map toL)):=by
   show _=_
   rw[HNM.out,zjHz (by omega)]
  have HM:Hid (fs.length=2):=hM
  rw[hM]at OV⊢
  simp only[show ((2:Nat):Int)=(2:Int) from rfl,show decide ((4:Int)<(2:Int))=false from by decide,show decide ((1:Int)<(2:Int))=true from by decide,Nat.reduceSub,Int.reduceSub,show ((1:Nat):Int)=(1:Int) from rfl]
  clear hM hlen2
  go_loop[5,6] (fun x i=> ∃k n:Nat,k≤2∧i=.int .i64 k∧x=.int .i64 n∧n<256^k∧loF n (4294967296/256^k) ((fs.drop k).map toL)=loF 0 4294967296 (fs.map toL)) (fun _ i=>2-(intOf i).toNat)
  case atStart=>exact ⟨0,0,Nat.zero_le _,rfl,rfl,by decide,rfl⟩
  obtain ⟨k,n,hk,rfl,rfl,hn,hf⟩:=hrel
  have HR:Hid (loF n (4294967296/256^k) ((fs.drop k).map toL)=loF 0 4294967296 (fs.map toL)):=hf
  have HN:Hid (n<256^k):=hn
  clear hf
  have HN2:Hid (k<2→(n:Int)<16777216):=fun h=>by have h2:=zfJz (k:=k) (by omega);omega
  clear hn
  by_cases hlt:k<2
  ·obtain ⟨a,ha⟩: ∃a:Int,(n:Int)=a:=⟨_,rfl⟩
   have hn3:a<16777216:=by rw[←ha];exact HN2.out hlt
   have hn0:0≤a:=by omega
   have HAN:Hid ((n:Int)=a):=ha
   rw[ha]
   clear ha
   have hc:=z0z OV k (by omega)
   have hsy:=HSZ.out _ (jLz (k:=k) (by have:=HM.out;omega))
   have CT:Hid (∀W,CS 169 #[.string (fs.getD k ByteArray.empty)] W (.int .i64 (yLz (zWz (toL (fs.getD k ByteArray.empty)))))):=fun W=>zb5z _ W hsy
   have hki:(k:Int)<2:=by omega
   by_cases hl:k+1=2
   ·have HS:Hid (_=_):=zdgz fs k n (4294967296/256^k) (by have:=HM.out;omega)
    obtain rfl:k=2-1:=by omega
    rw[show 4294967296/256^(2-1)=16777216 from by decide]at HS HR
    generalize fs.getD (2-1) ByteArray.empty=y at hc CT HS hsy
    clear hl hsy
    cases hv:zWz (toL y)with
    |none=>
     rw[hv]at CT HS
     have HZ:Hid (loA s=none):=by
      show _=_
      rw[HF.out,←HR.out,HS.out]
     clear hv
     have hng:(-1:Int)<0:=by decide
     go_wp2_with fail
     refine (CT.out _).mono ?_
     rintro e w' ⟨rfl,rfl⟩
     simp only[yLz]
     go_wp2_with fail
     go_ret2
     exact ⟨by rw[HZ.out];rfl,ba⟩
    |some v=>
     rw[hv]at CT HS
     clear hv
     by_cases hvr:v<16777216
     ·have HZ:Hid (loA s=some (n*16777216+v)):=by
       show _=_
       rw[HF.out,←HR.out,HS.out]
       exact if_pos hvr
      have hv1:(v:Int)<16777216:=by omega
      have hv0: ¬(v:Int)<0:=by omega
      obtain ⟨x,hx⟩: ∃x:Int,(v:Int)=x:=⟨_,rfl⟩
      rw[hx]at hv1 hv0
      have e2:bits .or .i64 (a*16777216) x=a*16777216+x:=x4z 24 _ _ (by omega) (by omega) (by omega) (by omega) (by omega) (by omega)
      have HX:Hid ((v:Int)=x):=hx
      clear hx
      have HV:Hid (v<16777216):=hvr
      clear hvr
      go_wp2_with fail
      refine (CT.out _).mono ?_
      rintro e w' ⟨rfl,rfl⟩
      simp only[yLz]
      rw[HX.out]
      go_wp2_with fail
      go_ret2
      exact ⟨by rw[HZ.out];have h1:=HAN.out;have h2:=HX.out;simp[y1z];omega,ba⟩
     have HZ:Hid (loA s=none):=by
      show _=_
      rw[HF.out,←HR.out,HS.out]
      exact if_neg hvr
     have hv1: ¬(v:Int)<16777216:=by omega
     have hv0: ¬(v:Int)<0:=by omega
     have HV:Hid (¬v<16777216):=hvr
     clear hvr
     go_wp2_with fail
     refine (CT.out _).mono ?_
     rintro e w' ⟨rfl,rfl⟩
     simp only[yLz]
     go_wp2_with fail
     go_ret2
     exact ⟨by rw[HZ.out];rfl,ba⟩
   have HS:Hid (_=_):=zfjz fs k n (4294967296/256^k) (by have:=HM.out;omega)
   have HL:Hid (k+1<2):=by show _<_;omega
   have hkq:((k:Int)==1)=false:=by simp;omega
   generalize fs.getD k ByteArray.empty=y at hc CT HS hsy
   clear hl hsy
   cases hv:zWz (toL y)with
   |none=>
    rw[hv]at CT HS
    have HZ:Hid (loA s=none):=by
     show _=_
     rw[HF.out,←HR.out,HS.out]
    clear hv
    go_wp2_with fail
    refine (CT.out _).mono ?_
    rintro e w' ⟨rfl,rfl⟩
    simp only[yLz]
    go_wp2_with fail
    go_ret2
    exact ⟨by rw[HZ.out];rfl,ba⟩
   |some v=>
    rw[hv]at CT HS
    clear hv
    by_cases hvr:v<256
    ·have HG:Hid (loF (n*256+v) (4294967296/256^k/256) ((fs.drop (k+1)).map toL)=loF 0 4294967296 (fs.map toL)):=by
      show _=_
      rw[←HR.out,HS.out]
      exact (if_pos hvr).symm
     have hv1: ¬255<(v:Int):=by omega
     have hv0: ¬(v:Int)<0:=by omega
     obtain ⟨x,hx⟩: ∃x:Int,(v:Int)=x:=⟨_,rfl⟩
     rw[hx]at hv1 hv0
     have e2:bits .or .i64 (a*256) x=a*256+x:=x4z 8 _ _ (by omega) (by omega) (by omega) (by omega) (by omega) (by omega)
     have HX:Hid ((v:Int)=x):=hx
     clear hx
     have HV:Hid (v<256):=hvr
     clear hvr
     go_wp2_with fail
     refine (CT.out _).mono ?_
     rintro e w' ⟨rfl,rfl⟩
     simp only[yLz]
     rw[HX.out]
     go_wp2_with fail
     go_round
     case rel=>
      refine ⟨k+1,n*256+v,by have:=HL.out;omega,by go_num,by have h1:=HAN.out;have h2:=HX.out;go_num,?_,?_⟩
      ·have h1:=HN.out
       have h2:=HV.out
       rw[Nat.pow_succ];omega
      rw[Nat.pow_succ,←Nat.div_div_eq_div_mul]
      exact HG.out
     case measure=>simp[intOf];have:=HL.out;omega
    have HZ:Hid (loA s=none):=by
     show _=_
     rw[HF.out,←HR.out,HS.out]
     exact if_neg hvr
    have hv1:255<(v:Int):=by omega
    have hv0: ¬(v:Int)<0:=by omega
    have HV:Hid (¬v<256):=hvr
    clear hvr
    go_wp2_with fail
    refine (CT.out _).mono ?_
    rintro e w' ⟨rfl,rfl⟩
    simp only[yLz]
    go_wp2_with fail
    go_ret2
    exact ⟨by rw[HZ.out];rfl,ba⟩
  have HZ:Hid (loA s=none):=by
   show _=_
   rw[HF.out,←HR.out]
   exact ziyz fs k _ _ (by have:=HM.out;omega)
  have hki: ¬(k:Int)<2:=by omega
  go_wp2_with fail
  go_ret2
  exact ⟨by rw[HZ.out];rfl,ba⟩
 ·have HF:Hid (loA s=loF 0 4294967296 (fs.map toL)):=by
   show _=_
   rw[HNM.out,zjHz (by omega)]
  have HM:Hid (fs.length=3):=hM
  rw[hM]at OV⊢
  simp only[show ((3:Nat):Int)=(3:Int) from rfl,show decide ((4:Int)<(3:Int))=false from by decide,show decide ((1:Int)<(3:Int))=true from by decide,Nat.reduceSub,Int.reduceSub,show ((2:Nat):Int)=(2:Int) from rfl]
  clear hM hlen2
  go_loop[5,6] (fun x i=> ∃k n:Nat,k≤3∧i=.int .i64 k∧x=.int .i64 n∧n<256^k∧loF n (4294967296/256^k) ((fs.drop k).map toL)=loF 0 4294967296 (fs.map toL)) (fun _ i=>3-(intOf i).toNat)
  case atStart=>exact ⟨0,0,Nat.zero_le _,rfl,rfl,by decide,rfl⟩
  obtain ⟨k,n,hk,rfl,rfl,hn,hf⟩:=hrel
  have HR:Hid (loF n (4294967296/256^k) ((fs.drop k).map toL)=loF 0 4294967296 (fs.map toL)):=hf
  have HN:Hid (n<256^k):=hn
  clear hf
  have HN2:Hid (k<3→(n:Int)<16777216):=fun h=>by have h2:=zfJz (k:=k) (by omega);omega
  clear hn
  by_cases hlt:k<3
  ·obtain ⟨a,ha⟩: ∃a:Int,(n:Int)=a:=⟨_,rfl⟩
   have hn3:a<16777216:=by rw[←ha];exact HN2.out hlt
   have hn0:0≤a:=by omega
   have HAN:Hid ((n:Int)=a):=ha
   rw[ha]
   clear ha
   have hc:=z0z OV k (by omega)
   have hsy:=HSZ.out _ (jLz (k:=k) (by have:=HM.out;omega))
   have CT:Hid (∀W,CS 169 #[.string (fs.getD k ByteArray.empty)] W (.int .i64 (yLz (zWz (toL (fs.getD k ByteArray.empty)))))):=fun W=>zb5z _ W hsy
   have hki:(k:Int)<3:=by omega
   by_cases hl:k+1=3
   ·have HS:Hid (_=_):=zdgz fs k n (4294967296/256^k) (by have:=HM.out;omega)
    obtain rfl:k=3-1:=by omega
    rw[show 4294967296/256^(3-1)=65536 from by decide]at HS HR
    generalize fs.getD (3-1) ByteArray.empty=y at hc CT HS hsy
    clear hl hsy
    cases hv:zWz (toL y)with
    |none=>
     rw[hv]at CT HS
     have HZ:Hid (loA s=none):=by
      show _=_
      rw[HF.out,←HR.out,HS.out]
     clear hv
     have hng:(-1:Int)<0:=by decide
     go_wp2_with fail
     refine (CT.out _).mono ?_
     rintro e w' ⟨rfl,rfl⟩
     simp only[yLz]
     go_wp2_with fail
     go_ret2
     exact ⟨by rw[HZ.out];rfl,ba⟩
    |some v=>
     rw[hv]at CT HS
     clear hv
     by_cases hvr:v<65536
     ·have HZ:Hid (loA s=some (n*65536+v)):=by
       show _=_
       rw[HF.out,←HR.out,HS.out]
       exact if_pos hvr
      have hv1:(v:Int)<65536:=by omega
      have hv0: ¬(v:Int)<0:=by omega
      obtain ⟨x,hx⟩: ∃x:Int,(v:Int)=x:=⟨_,rfl⟩
      rw[hx]at hv1 hv0
      have e2:bits .or .i64 (a*65536) x=a*65536+x:=x4z 16 _ _ (by omega) (by omega) (by omega) (by omega) (by omega) (by omega)
      have HX:Hid ((v:Int)=x):=hx
      clear hx
      have HV:Hid (v<65536):=hvr
      clear hvr
      go_wp2_with fail
      refine (CT.out _).mono ?_
      rintro e w' ⟨rfl,rfl⟩
      simp only[yLz]
      rw[HX.out]
      go_wp2_with fail
      go_ret2
      exact ⟨by rw[HZ.out];have h1:=HAN.out;have h2:=HX.out;simp[y1z];omega,ba⟩
     have HZ:Hid (loA s=none):=by
      show _=_
      rw[HF.out,←HR.out,HS.out]
      exact if_neg hvr
     have hv1: ¬(v:Int)<65536:=by omega
     have hv0: ¬(v:Int)<0:=by omega
     have HV:Hid (¬v<65536):=hvr
     clear hvr
     go_wp2_with fail
     refine (CT.out _).mono ?_
     rintro e w' ⟨rfl,rfl⟩
     simp only[yLz]
     go_wp2_with fail
     go_ret2
     exact ⟨by rw[HZ.out];rfl,ba⟩
   have HS:Hid (_=_):=zfjz fs k n (4294967296/256^k) (by have:=HM.out;omega)
   have HL:Hid (k+1<3):=by show _<_;omega
   have hkq:((k:Int)==2)=false:=by simp;omega
   generalize fs.getD k ByteArray.empty=y at hc CT HS hsy
   clear hl hsy
   cases hv:zWz (toL y)with
   |none=>
    rw[hv]at CT HS
    have HZ:Hid (loA s=none):=by
     show _=_
     rw[HF.out,←HR.out,HS.out]
    clear hv
    go_wp2_with fail
    refine (CT.out _).mono ?_
    rintro e w' ⟨rfl,rfl⟩
    simp only[yLz]
    go_wp2_with fail
    go_ret2
    exact ⟨by rw[HZ.out];rfl,ba⟩
   |some v=>
    rw[hv]at CT HS
    clear hv
    by_cases hvr:v<256
    ·have HG:Hid (loF (n*256+v) (4294967296/256^k/256) ((fs.drop (k+1)).map toL)=loF 0 4294967296 (fs.map toL)):=by
      show _=_
      rw[←HR.out,HS.out]
      exact (if_pos hvr).symm
     have hv1: ¬255<(v:Int):=by omega
     have hv0: ¬(v:Int)<0:=by omega
     obtain ⟨x,hx⟩: ∃x:Int,(v:Int)=x:=⟨_,rfl⟩
     rw[hx]at hv1 hv0
     have e2:bits .or .i64 (a*256) x=a*256+x:=x4z 8 _ _ (by omega) (by omega) (by omega) (by omega) (by omega) (by omega)
     have HX:Hid ((v:Int)=x):=hx
     clear hx
     have HV:Hid (v<256):=hvr
     clear hvr
     go_wp2_with fail
     refine (CT.out _).mono ?_
     rintro e w' ⟨rfl,rfl⟩
     simp only[yLz]
     rw[HX.out]
     go_wp2_with fail
     go_round
     case rel=>
      refine ⟨k+1,n*256+v,by have:=HL.out;omega,by go_num,by have h1:=HAN.out;have h2:=HX.out;go_num,?_,?_⟩
      ·have h1:=HN.out
       have h2:=HV.out
       rw[Nat.pow_succ];omega
      rw[Nat.pow_succ,←Nat.div_div_eq_div_mul]
      exact HG.out
     case measure=>simp[intOf];have:=HL.out;omega
    have HZ:Hid (loA s=none):=by
     show _=_
     rw[HF.out,←HR.out,HS.out]
     exact if_neg hvr
    have hv1:255<(v:Int):=by omega
    have hv0: ¬(v:Int)<0:=by omega
    have HV:Hid (¬v<256):=hvr
    clear hvr
    go_wp2_with fail
    refine (CT.out _).mono ?_
    rintro e w' ⟨rfl,rfl⟩
    simp only[yLz]
    go_wp2_with fail
    go_ret2
    exact ⟨by rw[HZ.out];rfl,ba⟩
  have HZ:Hid (loA s=none):=by
   show _=_
   rw[HF.out,←HR.out]
   exact ziyz fs k _ _ (by have:=HM.out;omega)
  have hki: ¬(k:Int)<3:=by omega
  go_wp2_with fail
  go_ret2
  exact ⟨by rw[HZ.out];rfl,ba⟩
 have HF:Hid (loA s=loF 0 4294967296 (fs.map toL)):=by
  show _=_
  rw[HNM.out,zjHz (by omega)]
 have HM:Hid (fs.length=4):=hM
 rw[hM]at OV⊢
 simp only[show ((4:Nat):Int)=(4:Int) from rfl,show decide ((4:Int)<(4:Int))=false from by decide,show decide ((1:Int)<(4:Int))=true from by decide,Nat.reduceSub,Int.reduceSub,show ((3:Nat):Int)=(3:Int) from rfl]
 clear hM hlen2
 go_loop[5,6] (fun x i=> ∃k n:Nat,k≤4∧i=.int .i64 k∧x=.int .i64 n∧n<256^k∧loF n (4294967296/256^k) ((fs.drop k).map toL)=loF 0 4294967296 (fs.map toL)) (fun _ i=>4-(intOf i).toNat)
 case atStart=>exact ⟨0,0,Nat.zero_le _,rfl,rfl,by decide,rfl⟩
 obtain ⟨k,n,hk,rfl,rfl,hn,hf⟩:=hrel
 have HR:Hid (loF n (4294967296/256^k) ((fs.drop k).map toL)=loF 0 4294967296 (fs.map toL)):=hf
 have HN:Hid (n<256^k):=hn
 clear hf
 have HN2:Hid (k<4→(n:Int)<16777216):=fun h=>by have h2:=zfJz (k:=k) (by omega);omega
 clear hn
 by_cases hlt:k<4
 ·obtain ⟨a,ha⟩: ∃a:Int,(n:Int)=a:=⟨_,rfl⟩
  have hn3:a<16777216:=by rw[←ha];exact HN2.out hlt
  have hn0:0≤a:=by omega
  have HAN:Hid ((n:Int)=a):=ha
  rw[ha]
  clear ha
  have hc:=z0z OV k (by omega)
  have hsy:=HSZ.out _ (jLz (k:=k) (by have:=HM.out;omega))
  have CT:Hid (∀W,CS 169 #[.string (fs.getD k ByteArray.empty)] W (.int .i64 (yLz (zWz (toL (fs.getD k ByteArray.empty)))))):=fun W=>zb5z _ W hsy
  have hki:(k:Int)<4:=by omega
  by_cases hl:k+1=4
  ·have HS:Hid (_=_):=zdgz fs k n (4294967296/256^k) (by have:=HM.out;omega)
   obtain rfl:k=4-1:=by omega
   rw[show 4294967296/256^(4-1)=256 from by decide]at HS HR
   generalize fs.getD (4-1) ByteArray.empty=y at hc CT HS hsy
   clear hl hsy
   cases hv:zWz (toL y)with
   |none=>
    rw[hv]at CT HS
    have HZ:Hid (loA s=none):=by
     show _=_
     rw[HF.out,←HR.out,HS.out]
    clear hv
    have hng:(-1:Int)<0:=by decide
    go_wp2_with fail
    refine (CT.out _).mono ?_
    rintro e w' ⟨rfl,rfl⟩
    simp only[yLz]
    go_wp2_with fail
    go_ret2
    exact ⟨by rw[HZ.out];rfl,ba⟩
   |some v=>
    rw[hv]at CT HS
    clear hv
    by_cases hvr:v<256
    ·have HZ:Hid (loA s=some (n*256+v)):=by
      show _=_
      rw[HF.out,←HR.out,HS.out]
      exact if_pos hvr
     have hv1:(v:Int)<256:=by omega
     have hv0: ¬(v:Int)<0:=by omega
     obtain ⟨x,hx⟩: ∃x:Int,(v:Int)=x:=⟨_,rfl⟩
     rw[hx]at hv1 hv0
     have e2:bits .or .i64 (a*256) x=a*256+x:=x4z 8 _ _ (by omega) (by omega) (by omega) (by omega) (by omega) (by omega)
     have HX:Hid ((v:Int)=x):=hx
     clear hx
     have HV:Hid (v<256):=hvr
     clear hvr
     go_wp2_with fail
     refine (CT.out _).mono ?_
     rintro e w' ⟨rfl,rfl⟩
     simp only[yLz]
     rw[HX.out]
     go_wp2_with fail
     go_ret2
     exact ⟨by rw[HZ.out];have h1:=HAN.out;have h2:=HX.out;simp[y1z];omega,ba⟩
    have HZ:Hid (loA s=none):=by
     show _=_
     rw[HF.out,←HR.out,HS.out]
     exact if_neg hvr
    have hv1: ¬(v:Int)<256:=by omega
    have hv0: ¬(v:Int)<0:=by omega
    have HV:Hid (¬v<256):=hvr
    clear hvr
    go_wp2_with fail
    refine (CT.out _).mono ?_
    rintro e w' ⟨rfl,rfl⟩
    simp only[yLz]
    go_wp2_with fail
    go_ret2
    exact ⟨by rw[HZ.out];rfl,ba⟩
  have HS:Hid (_=_):=zfjz fs k n (4294967296/256^k) (by have:=HM.out;omega)
  have HL:Hid (k+1<4):=by show _<_;omega
  have hkq:((k:Int)==3)=false:=by simp;omega
  generalize fs.getD k ByteArray.empty=y at hc CT HS hsy
  clear hl hsy
  cases hv:zWz (toL y)with
  |none=>
   rw[hv]at CT HS
   have HZ:Hid (loA s=none):=by
    show _=_
    rw[HF.out,←HR.out,HS.out]
   clear hv
   go_wp2_with fail
   refine (CT.out _).mono ?_
   rintro e w' ⟨rfl,rfl⟩
   simp only[yLz]
   go_wp2_with fail
   go_ret2
   exact ⟨by rw[HZ.out];rfl,ba⟩
  |some v=>
   rw[hv]at CT HS
   clear hv
   by_cases hvr:v<256
   ·have HG:Hid (loF (n*256+v) (4294967296/256^k/256) ((fs.drop (k+1)).map toL)=loF 0 4294967296 (fs.map toL)):=by
     show _=_
     rw[←HR.out,HS.out]
     exact (if_pos hvr).symm
    have hv1: ¬255<(v:Int):=by omega
    have hv0: ¬(v:Int)<0:=by omega
    obtain ⟨x,hx⟩: ∃x:Int,(v:Int)=x:=⟨_,rfl⟩
    rw[hx]at hv1 hv0
    have e2:bits .or .i64 (a*256) x=a*256+x:=x4z 8 _ _ (by omega) (by omega) (by omega) (by omega) (by omega) (by omega)
    have HX:Hid ((v:Int)=x):=hx
    clear hx
    have HV:Hid (v<256):=hvr
    clear hvr
    go_wp2_with fail
    refine (CT.out _).mono ?_
    rintro e w' ⟨rfl,rfl⟩
    simp only[yLz]
    rw[HX.out]
    go_wp2_with fail
    go_round
    case rel=>
     refine ⟨k+1,n*256+v,by have:=HL.out;omega,by go_num,by have h1:=HAN.out;have h2:=HX.out;go_num,?_,?_⟩
     ·have h1:=HN.out
      have h2:=HV.out
      rw[Nat.pow_succ];omega
     rw[Nat.pow_succ,←Nat.div_div_eq_div_mul]
     exact HG.out
    case measure=>simp[intOf];have:=HL.out;omega
   have HZ:Hid (loA s=none):=by
    show _=_
    rw[HF.out,←HR.out,HS.out]
    exact if_neg hvr
   have hv1:255<(v:Int):=by omega
   have hv0: ¬(v:Int)<0:=by omega
   have HV:Hid (¬v<256):=hvr
   clear hvr
   go_wp2_with fail
   refine (CT.out _).mono ?_
   rintro e w' ⟨rfl,rfl⟩
   simp only[yLz]
   go_wp2_with fail
   go_ret2
   exact ⟨by rw[HZ.out];rfl,ba⟩
 have HZ:Hid (loA s=none):=by
  show _=_
  rw[HF.out,←HR.out]
  exact ziyz fs k _ _ (by have:=HM.out;omega)
 have hki: ¬(k:Int)<4:=by omega
 go_wp2_with fail
 go_ret2
 exact ⟨by rw[HZ.out];rfl,ba⟩
end Go.Proofs.YtgcbaphbiaimoaaGreatDoor
namespace Go.Proofs.YtgcbaphbiaimoaaGreatDoor
open Go.RowKit
theorem yoz(a b:List UInt8):((⟨a.toArray⟩:ByteArray)++(⟨b.toArray⟩:ByteArray))=⟨(a++b).toArray⟩:=by
 apply ByteArray.ext
 rw[ByteArray.data_append]
 simp
def digT(v:Nat):ByteArray:=⟨#[UInt8.ofNat (48+v)]⟩
def xIz(x:Int):ByteArray:=⟨(zGz x.toNat).toArray⟩
theorem zptz{x:Int}(h0:0≤x)(h:x<10):xIz x=digT x.toNat:=by
 unfold xIz digT zGz
 rw[if_pos (by omega)]
theorem zpuz{x:Int}(h0:10≤x)(h:x<100):xIz x=xIz (x/10)++digT (x%10).toNat:=by
 rw[zptz (x:=x/10) (by omega) (by omega)]
 unfold xIz digT zGz
 rw[if_neg (by omega),if_pos (by omega),show (⟨#[UInt8.ofNat (48+(x/10).toNat)]⟩:ByteArray)=⟨[UInt8.ofNat (48+(x/10).toNat)].toArray⟩ from rfl,show (⟨#[UInt8.ofNat (48+(x%10).toNat)]⟩:ByteArray)=⟨[UInt8.ofNat (48+(x%10).toNat)].toArray⟩ from rfl,yoz]
 have e1:(x/10).toNat=x.toNat/10:=by omega
 have e2:(x%10).toNat=x.toNat%10:=by omega
 rw[e1,e2]
 rfl
theorem ztvz{x:Int}(h0:100≤x)(h:x<1000):xIz x=xIz (x/10)++digT (x%10).toNat:=by
 unfold xIz digT zGz
 rw[if_neg (by omega),if_neg (by omega),if_neg (by omega),if_pos (by omega),show (⟨#[UInt8.ofNat (48+(x%10).toNat)]⟩:ByteArray)=⟨[UInt8.ofNat (48+(x%10).toNat)].toArray⟩ from rfl,yoz]
 have e1:(x/10).toNat/10=x.toNat/100:=by omega
 have e3:(x/10).toNat%10=x.toNat/10%10:=by omega
 have e2:(x%10).toNat=x.toNat%10:=by omega
 rw[e1,e2,e3]
 rfl
theorem zaBz(x:Int):(xIz x).size≤3:=by
 unfold xIz
 show (zGz x.toNat).toArray.size≤3
 rw[List.size_toArray]
 exact yvz _
theorem ziAz(W:World)(B:Nat)(c:Nat)(hc:c<256)(x:Int)(hx:x=(c:Int))(h:W.cell? ⟨B,0,none⟩=some (.int .u8 x)):
  (convert 22 9 (.slice (some ⟨B,0,none⟩) 1 1)).run Tryz.prog W=.ok (.string ⟨#[UInt8.ofNat c]⟩) W:=by
 subst hx
 have h:=run_convert_bytes_back (P:=Tryz.prog) W 22 9 5 ⟨B,0,none⟩ 1 [UInt8.ofNat c] Tryz.underlying22 Tryz.underlying5 Tryz.underlying9 (fun j hj=>by
  have:j=0:=by simpa using hj
  subst this
  rw[Addr.add_lit,h]
  simp
  omega)
 simpa using h
theorem zjIz(W:World)(c:Nat)(hc:c<256)(x:Int)(hx:x=(c:Int)):
  (convert 22 9 (.slice (some ⟨W.heap.size,0,none⟩) 1 1)).run Tryz.prog (W.alloc (.cells #[.int .u8 x] 5))=.ok (.string ⟨#[UInt8.ofNat c]⟩) (W.alloc (.cells #[.int .u8 x] 5)):=
 ziAz _ _ c hc x hx (by rw[World.cell?_alloc_at _ _ _ _ rfl];rfl)
theorem zb6z(x:Int)(w:World)(h0:0≤x)(h1:x<10):
  Calls Tryz.prog 119 #[.int .i64 x] w fun e w'=>e=.returned (.string (xIz x))∧Below w.heap.size w w':=by
 have HD:=zptz h0 h1
 have hcv:=zjIz w (48+x.toNat) (by omega) (48+x) (by omega)
 rw[show (⟨#[UInt8.ofNat (48+x.toNat)]⟩:ByteArray)=digT x.toNat from rfl,←HD]at hcv
 generalize xIz x=T at hcv⊢
 clear HD
 go_enter Tryz.func119,Tryz.ntmps119
 go_wp2
 go_ret
 exact ⟨rfl,(Below.refl _ _).alloc (Nat.le_refl _) _⟩
theorem zhoz(x:Int)(w:World)(T1 T:ByteArray)(h0:10≤x)(h1:x<100000)(hs1:T1.size≤5)(CT:Hid (∀W,Calls Tryz.prog 119 #[.int .i64 (x/10)] W fun e w'=>e=.returned (.string T1)∧Below W.heap.size W w'))(HD:Hid (T=T1++digT (x%10).toNat)):
  Calls Tryz.prog 119 #[.int .i64 x] w fun e w'=>e=.returned (.string T)∧Below w.heap.size w w':=by
 have hn:Hid (∀W:World,(convert 22 9 (.slice (some ⟨W.heap.size,0,none⟩) 1 1)).run Tryz.prog (W.alloc (.cells #[.int .u8 (48+x%10)] 5))=.ok (.string (digT (x%10).toNat)) (W.alloc (.cells #[.int .u8 (48+x%10)] 5))):=fun W=>zjIz W (48+(x%10).toNat) (by omega) (48+x%10) (by omega)
 have ho:Hid (∀(W':World) (B:Nat),W'.cell? ⟨B,0,none⟩=some (.int .u8 (48+x%10))→(convert 22 9 (.slice (some ⟨B,0,none⟩) 1 1)).run Tryz.prog W'=.ok (.string (digT (x%10).toNat)) W'):=fun W' B h=>ziAz W' B (48+(x%10).toNat) (by omega) (48+x%10) (by omega) h
 have hs2:(digT (x%10).toNat).size=1:=rfl
 have hz0:0≤x%10:=by omega
 have hz1:x%10<10:=by omega
 have hy0:0≤x/10:=by omega
 have hy1:x/10<10000:=by omega
 obtain ⟨z,hz⟩: ∃z:Int,x%10=z:=⟨_,rfl⟩
 obtain ⟨y,hy⟩: ∃y:Int,x/10=y:=⟨_,rfl⟩
 rw[hz]at hn ho hs2 hz0 hz1 HD
 rw[hy]at CT hy0 hy1
 generalize digT z.toNat=T2 at hn ho hs2 HD
 rw[HD.out]
 clear HD
 have hn2:=hn.out
 have hce:(w.alloc (.cells #[.int .u8 (48+z)] 5)).drew.cell? ⟨w.heap.size,0,none⟩=some (.int .u8 (48+z)):=by
  show (w.alloc (.cells #[.int .u8 (48+z)] 5)).cell? ⟨w.heap.size,0,none⟩=_
  rw[World.cell?_alloc_at _ _ _ _ rfl];rfl
 have hn3:=ho.out _ _ hce
 have HCE:Hid ((w.alloc (.cells #[.int .u8 (48+z)] 5)).drew.cell? ⟨w.heap.size,0,none⟩=some (.int .u8 (48+z))):=hce
 clear hce
 have t1:IntKind.i64.wrap (x.tdiv 10)=y:=by rw[Int.tdiv_eq_ediv_of_nonneg (by omega),hy];exact ywz _ (by omega) (by omega)
 have t2:x.tmod 10=z:=by rw[Int.tmod_eq_emod_of_nonneg (by omega),hz]
 have t3:IntKind.i64.wrap (48+z)=48+z:=ywz _ (by omega) (by omega)
 have t4:IntKind.u8.wrap (48+z)=48+z:=by simp[IntKind.wrap,IntKind.bits,IntKind.signed];omega
 have t5:IntKind.u8.wrap (IntKind.i64.wrap (48+z))=48+z:=by rw[t3,t4]
 clear hy hz
 go_enter Tryz.func119,Tryz.ntmps119
 go_wp2_with fail
 go_region_with (go_at_call 119;refine (CT.out _).mono ?_;rintro e wc ⟨rfl,hbc⟩;first|have hcc:=ho.out _ _ (cell_later hbc HCE.out)|skip)
 ·go_wp2
  go_ret
  exact ⟨rfl,((Below.drew (Below.refl _ w)).trans hbc).alloc (Nat.le_trans (Nat.le_refl _) hbc.size) _⟩
 ·go_wp2
  go_ret
  exact ⟨rfl,(((Below.refl w.heap.size w).alloc (Nat.le_refl _) _).drew).trans (hbc.mono (by simp))⟩
 go_wp2
 go_ret
 exact ⟨rfl,(((Below.refl w.heap.size w).alloc (Nat.le_refl _) _).drew).trans (hbc.mono (by simp))⟩
theorem zegz(x:Int)(w:World)(h0:10≤x)(h1:x<1000)(CT:Hid (∀W,Calls Tryz.prog 119 #[.int .i64 (x/10)] W fun e w'=>e=.returned (.string (xIz (x/10)))∧Below W.heap.size W w'))(HD:Hid (xIz x=xIz (x/10)++digT (x%10).toNat)):
  Calls Tryz.prog 119 #[.int .i64 x] w fun e w'=>e=.returned (.string (xIz x))∧Below w.heap.size w w':=zhoz x w _ _ h0 (by omega) (Nat.le_trans (zaBz _) (by decide)) CT HD
theorem zdhz(x:Int)(w:World)(h0:0≤x)(h1:x<1000):
  Calls Tryz.prog 119 #[.int .i64 x] w fun e w'=>e=.returned (.string (xIz x))∧Below w.heap.size w w':=by
 by_cases h10:x<10
 ·exact zb6z x w h0 h10
 by_cases h100:x<100
 ·exact zegz x w (by omega) h1 (fun W=>zb6z _ W (by omega) (by omega)) (zpuz (by omega) h100)
 exact zegz x w (by omega) h1 (fun W=>zegz _ W (by omega) (by omega) (fun W=>zb6z _ W (by omega) (by omega)) (zpuz (by omega) (by omega))) (ztvz (by omega) h1)
def xaz(n:Int):ByteArray:=⟨(xJz n.toNat).toArray⟩
theorem zpvz{n:Int}(h0:0≤n):xaz n=xIz (n/16777216)++⟨#[46]⟩++xIz (n/65536%256)++⟨#[46]⟩++xIz (n/256%256)++⟨#[46]⟩++xIz (n%256):=by
 unfold xaz xIz xJz
 rw[show (⟨#[46]⟩:ByteArray)=⟨[46].toArray⟩ from rfl,yoz,yoz,yoz,yoz,yoz,yoz]
 have e1:(n/16777216).toNat=n.toNat/16777216:=by omega
 have e2:(n/65536%256).toNat=n.toNat/65536%256:=by omega
 have e3:(n/256%256).toNat=n.toNat/256%256:=by omega
 have e4:(n%256).toNat=n.toNat%256:=by omega
 rw[e1,e2,e3,e4]
 simp
theorem zeNz(n:Int)(w:World)(h0:0≤n)(h1:n<4294967296):
  Calls Tryz.prog 170 #[.int .i64 n] w fun e w'=>e=.returned (.string (xaz n))∧Below w.heap.size w w':=by
 have HT:Hid (xaz n=xIz (n/16777216)++⟨#[46]⟩++xIz (n/65536%256)++⟨#[46]⟩++xIz (n/256%256)++⟨#[46]⟩++xIz (n%256)):=zpvz h0
 have c1:Hid (∀W,CB 119 #[.int .i64 (n/16777216)] W (.string (xIz (n/16777216)))):=fun W=>zdhz _ W (by omega) (by omega)
 have c2:Hid (∀W,CB 119 #[.int .i64 (n/65536%256)] W (.string (xIz (n/65536%256)))):=fun W=>zdhz _ W (by omega) (by omega)
 have c3:Hid (∀W,CB 119 #[.int .i64 (n/256%256)] W (.string (xIz (n/256%256)))):=fun W=>zdhz _ W (by omega) (by omega)
 have c4:Hid (∀W,CB 119 #[.int .i64 (n%256)] W (.string (xIz (n%256)))):=fun W=>zdhz _ W (by omega) (by omega)
 have b2:bits .and .i64 (n/65536) 255=n/65536%256:=jpz 8 255 rfl _ (by omega) (by omega) (by decide)
 have b3:bits .and .i64 (n/256) 255=n/256%256:=jpz 8 255 rfl _ (by omega) (by omega) (by decide)
 have b4:bits .and .i64 n 255=n%256:=jpz 8 255 rfl _ (by omega) (by omega) (by decide)
 have s1:=zaBz (n/16777216)
 have s2:=zaBz (n/65536%256)
 have s3:=zaBz (n/256%256)
 have s4:=zaBz (n%256)
 generalize xIz (n/16777216)=T1 at HT c1 s1
 generalize xIz (n/65536%256)=T2 at HT c2 s2
 generalize xIz (n/256%256)=T3 at HT c3 s3
 generalize xIz (n%256)=T4 at HT c4 s4
 have sz:(⟨#[46]⟩:ByteArray).size=1:=rfl
 rw[HT.out]
 clear HT
 go_enter Tryz.func170,Tryz.ntmps170
 go_wp2_with fail
 refine (zfz _ _ _ _ (by omega) (by omega)).mono ?_
 rintro e w' ⟨rfl,rfl⟩
 go_wp2_with fail
 refine (c1.out _).mono ?_
 rintro e w1 ⟨rfl,k1⟩
 go_wp2_with fail
 refine (c2.out _).mono ?_
 rintro e w2 ⟨rfl,k2⟩
 go_wp2_with fail
 refine (c3.out _).mono ?_
 rintro e w3 ⟨rfl,k3⟩
 go_wp2_with fail
 refine (c4.out _).mono ?_
 rintro e w4 ⟨rfl,k4⟩
 have B1:Below w.heap.size w w4:=((k1.trans (k2.mono k1.size)).trans (k3.mono (Nat.le_trans k1.size k2.size))).trans (k4.mono (Nat.le_trans (Nat.le_trans k1.size k2.size) k3.size))
 clear k1 k2 k3 k4
 go_wp2_with fail
 go_ret
 exact ⟨rfl,B1⟩
def Pow(w:World):Prop:=Lib.TabIs Tryz.prog w "internal/strconv.uint64pow10" .u64 Lib.pow10Tab
theorem yfz{w w':World}(h:Pow w)(hb:Below w.heap.size w w'):Pow w':=Lib.tabBelow_of_tabIs h w' hb
theorem zn0z{i:Int}(h0:0≤i)(h1:i<1000):Lib.itoa i=zGz i.toNat:=by
 obtain ⟨u,rfl⟩:=Int.eq_ofNat_of_zero_le h0
 rw[Lib.itoa_nonneg,Int.toNat_natCast]
 have hu:u<1000:=by omega
 unfold zGz
 by_cases c1:u<10
 ·rw[if_pos c1,Lib.decDigits_one c1]
 by_cases c2:u<100
 ·rw[if_neg c1,if_pos c2,Lib.decDigits_two c1 c2]
 rw[if_neg c1,if_neg c2,Lib.decDigits,dif_neg c1,Lib.decDigits_two (by omega) (by omega)]
 rw[show u/10/10=u/100 by omega]
 rfl
theorem za6z(B:Nat)(i:Int)(v:Value)(l:List UInt8)(w:World)(h0:0≤i)(h1:i<1000)(hown:w.ownsRow B 5 1 v l.length (zcz l))(hB:B≤w.heap.size)(hl:l.length≤1000)
  (hT:Lib.TabBelow Tryz.prog B w "internal/strconv.uint64pow10" .u64 Lib.pow10Tab):
  Calls Tryz.prog 192 #[v,.int .i64 i,.int .i64 10] w fun e w'=> ∃v',e=.returned v'∧w'.ownsRow B 5 1 v' (l++zGz i.toNat).length (zcz (l++zGz i.toNat))∧Below B w w':=by
 refine (Tryz.strconv_AppendInt_10 B l.length i (by omega) (by omega) v (zcz l) w hown hB (by omega) hT).mono ?_
 rintro e w' ⟨v',rfl,h2,h3,_⟩
 refine ⟨v',rfl,?_,h3⟩
 rw[zn0z h0 h1]at h2
 rw[xhz,List.length_append]
 exact h2
def yYz(n:Int):Nat→List UInt8
 |0=>[]
 |1=>zGz (n/16777216).toNat++[46]
 |2=>zGz (n/16777216).toNat++[46]++zGz (n/65536%256).toNat++[46]
 |_=>zGz (n/16777216).toNat++[46]++zGz (n/65536%256).toNat++[46]++zGz (n/256%256).toNat++[46]
theorem jMz(n:Int)(k:Nat):(yYz n k).length≤100:=by
 have h1:=yvz (n/16777216).toNat
 have h2:=yvz (n/65536%256).toNat
 have h3:=yvz (n/256%256).toNat
 match k with
 |0=>simp[yYz]
 |1=>simp[yYz];omega
 |2=>simp[yYz];omega
 |_+3=>simp[yYz];omega
theorem zpwz{n:Int}(h0:0≤n):(⟨(yYz n 3++zGz (n%256).toNat).toArray⟩:ByteArray)=xaz n:=by
 unfold xaz xJz yYz
 have e1:(n/16777216).toNat=n.toNat/16777216:=by omega
 have e2:(n/65536%256).toNat=n.toNat/65536%256:=by omega
 have e3:(n/256%256).toNat=n.toNat/256%256:=by omega
 have e4:(n%256).toNat=n.toNat%256:=by omega
 rw[e1,e2,e3,e4]
 simp
def zhpz:Nat→Int
 |0=>16777216
 |1=>65536
 |2=>256
 |3=>1
 |_=>0
theorem zbCz(n:Int)(w:World)(h0:0≤n)(h1:n<4294967296)(hT:Pow w):
  Calls Tryz.prog 142 #[.int .i64 n] w fun e w'=>e=.returned (.string (xaz n))∧Below w.heap.size w w':=by
 obtain ⟨i0,hi,hz0,hz1,hz2⟩:=info_parts Tryz.info5
 have HT:Hid (Lib.TabBelow Tryz.prog w.heap.size w "internal/strconv.uint64pow10" .u64 Lib.pow10Tab):=Lib.tabBelow_of_tabIs hT
 clear hT
 go_enter Tryz.func142,Tryz.ntmps142
 go_wp2_with (at_make;refine wpList_make_own _ rfl _ _ 22 rfl w.heap.size 5 i0 (.int .u8 0) 1 Tryz.underlying22 hi hz0 hz1 _ _ _ 15 rfl rfl (by omega) (by rw[hz2];omega) (by unfold maxLen;omega) (Nat.le_refl _) ?_)
 intro wm hmo hgm
 have Bm:Below w.heap.size w wm:=(Below.refl _ _).grown hgm (Nat.le_refl _) (fun k hk=>by cases hk)
 have om:wm.ownsRow w.heap.size 5 1 (.slice (some ⟨w.heap.size,0,none⟩) 0 15) 0 []:=hmo
 clear hmo hgm
 go_wp2_with fail
 go_loopw[3,4] (fun v r wr=> ∃k:Nat,k≤4∧r=.int .i64 (zhpz k)∧(k≤3→wr.ownsRow w.heap.size 5 1 v (yYz n k).length (zcz (yYz n k)))∧(k=4→wr.ownsRow w.heap.size 5 1 v (yYz n 3++zGz (n%256).toNat).length (zcz (yYz n 3++zGz (n%256).toNat)))∧Below w.heap.size w wr)
  (fun _ r _=>(intOf r).toNat)
 case atStart=>exact ⟨0,by omega,rfl,fun _=>om,fun h=>by omega,Bm⟩
 obtain ⟨k,hk,rfl,hin,hend,hbel⟩:=hrel
 clear om Bm hi hz0 hz1 hz2
 have hsz:=hbel.size
 have h5:k=0∨k=1∨k=2∨k=3∨k=4:=by omega
 have HTW:Hid (Lib.TabBelow Tryz.prog w.heap.size wr "internal/strconv.uint64pow10" .u64 Lib.pow10Tab):=HT.out.on hbel
 rcases h5 with rfl|rfl|rfl|rfl|rfl
 ·have e0:n/16777216%256=n/16777216:=by omega
  have HI:Hid (∀(v:Value) (W:World),W.ownsRow w.heap.size 5 1 v (yYz n 0).length (zcz (yYz n 0))→w.heap.size≤W.heap.size→Lib.TabBelow Tryz.prog w.heap.size W "internal/strconv.uint64pow10" .u64 Lib.pow10Tab→Calls Tryz.prog 192 #[v,.int .i64 (n/16777216),.int .i64 10] W fun e w'=> ∃v',e=.returned v'∧w'.ownsRow w.heap.size 5 1 v' (yYz n 0++zGz (n/16777216).toNat).length (zcz (yYz n 0++zGz (n/16777216).toNat))∧Below w.heap.size W w'):=fun v W ho hB hT=>za6z w.heap.size _ v _ W (by omega) (by omega) ho hB (by have:=jMz n 0;omega) hT
  have o1:=hin (by omega)
  have hl:=jMz n 0
  have hl2:=yvz (n/16777216).toNat
  clear hin hend
  simp only[zhpz]
  go_wp2_with fail
  refine (HI.out _ _ o1 hsz HTW.out).mono ?_
  rintro e wb ⟨vb,rfl,o2,b2⟩
  have B2:=hbel.trans b2
  have z2:=B2.size
  have hl3:(yYz n 0++zGz (n/16777216).toNat).length≤200:=by rw[List.length_append];omega
  clear o1 hbel b2 HTW HI
  obtain ⟨L,hL⟩: ∃L,yYz n 0++zGz (n/16777216).toNat=L:=⟨_,rfl⟩
  rw[hL]at o2 hl3
  have HL:Hid (yYz n 0++zGz (n/16777216).toNat=L):=hL
  clear hL
  go_wp2_with (at_builtin;refine zbz _ rfl _ _ 22 rfl w.heap.size 5 (.int .u8 0) 1 Tryz.underlying22 Tryz.info5 rfl _ _ _ rfl o2 #[.int .u8 46] 1 rfl rfl (by intro u hu;simp at hu;subst hu;rfl) (by omega) (by unfold maxLen;omega) z2 ?_)
  intro v' w1 o3 b3
  have R:w1.ownsRow w.heap.size 5 1 v' (yYz n 1).length (zcz (yYz n 1)):=by
   rw[show yYz n 1=L++[46] by rw[←HL.out];simp[yYz],vWz,List.length_append]
   exact o3
  have B3:=B2.trans b3
  clear o2 o3 b3 B2
  go_wp2_with fail
  go_roundw
  case rel=>exact ⟨1,by omega,rfl,fun _=>R,fun h=>by omega,B3⟩
  case measure=>simp[intOf]
 ·have HI:Hid (∀(v:Value) (W:World),W.ownsRow w.heap.size 5 1 v (yYz n 1).length (zcz (yYz n 1))→w.heap.size≤W.heap.size→Lib.TabBelow Tryz.prog w.heap.size W "internal/strconv.uint64pow10" .u64 Lib.pow10Tab→Calls Tryz.prog 192 #[v,.int .i64 (n/65536%256),.int .i64 10] W fun e w'=> ∃v',e=.returned v'∧w'.ownsRow w.heap.size 5 1 v' (yYz n 1++zGz (n/65536%256).toNat).length (zcz (yYz n 1++zGz (n/65536%256).toNat))∧Below w.heap.size W w'):=fun v W ho hB hT=>za6z w.heap.size _ v _ W (by omega) (by omega) ho hB (by have:=jMz n 1;omega) hT
  have o1:=hin (by omega)
  have hl:=jMz n 1
  have hl2:=yvz (n/65536%256).toNat
  clear hin hend
  simp only[zhpz]
  go_wp2_with fail
  refine (HI.out _ _ o1 hsz HTW.out).mono ?_
  rintro e wb ⟨vb,rfl,o2,b2⟩
  have B2:=hbel.trans b2
  have z2:=B2.size
  have hl3:(yYz n 1++zGz (n/65536%256).toNat).length≤200:=by rw[List.length_append];omega
  clear o1 hbel b2 HTW HI
  obtain ⟨L,hL⟩: ∃L,yYz n 1++zGz (n/65536%256).toNat=L:=⟨_,rfl⟩
  rw[hL]at o2 hl3
  have HL:Hid (yYz n 1++zGz (n/65536%256).toNat=L):=hL
  clear hL
  go_wp2_with (at_builtin;refine zbz _ rfl _ _ 22 rfl w.heap.size 5 (.int .u8 0) 1 Tryz.underlying22 Tryz.info5 rfl _ _ _ rfl o2 #[.int .u8 46] 1 rfl rfl (by intro u hu;simp at hu;subst hu;rfl) (by omega) (by unfold maxLen;omega) z2 ?_)
  intro v' w1 o3 b3
  have R:w1.ownsRow w.heap.size 5 1 v' (yYz n 2).length (zcz (yYz n 2)):=by
   rw[show yYz n 2=L++[46] by rw[←HL.out];simp[yYz],vWz,List.length_append]
   exact o3
  have B3:=B2.trans b3
  clear o2 o3 b3 B2
  go_wp2_with fail
  go_roundw
  case rel=>exact ⟨2,by omega,rfl,fun _=>R,fun h=>by omega,B3⟩
  case measure=>simp[intOf]
 ·have HI:Hid (∀(v:Value) (W:World),W.ownsRow w.heap.size 5 1 v (yYz n 2).length (zcz (yYz n 2))→w.heap.size≤W.heap.size→Lib.TabBelow Tryz.prog w.heap.size W "internal/strconv.uint64pow10" .u64 Lib.pow10Tab→Calls Tryz.prog 192 #[v,.int .i64 (n/256%256),.int .i64 10] W fun e w'=> ∃v',e=.returned v'∧w'.ownsRow w.heap.size 5 1 v' (yYz n 2++zGz (n/256%256).toNat).length (zcz (yYz n 2++zGz (n/256%256).toNat))∧Below w.heap.size W w'):=fun v W ho hB hT=>za6z w.heap.size _ v _ W (by omega) (by omega) ho hB (by have:=jMz n 2;omega) hT
  have o1:=hin (by omega)
  have hl:=jMz n 2
  have hl2:=yvz (n/256%256).toNat
  clear hin hend
  simp only[zhpz]
  go_wp2_with fail
  refine (HI.out _ _ o1 hsz HTW.out).mono ?_
  rintro e wb ⟨vb,rfl,o2,b2⟩
  have B2:=hbel.trans b2
  have z2:=B2.size
  have hl3:(yYz n 2++zGz (n/256%256).toNat).length≤200:=by rw[List.length_append];omega
  clear o1 hbel b2 HTW HI
  obtain ⟨L,hL⟩: ∃L,yYz n 2++zGz (n/256%256).toNat=L:=⟨_,rfl⟩
  rw[hL]at o2 hl3
  have HL:Hid (yYz n 2++zGz (n/256%256).toNat=L):=hL
  clear hL
  go_wp2_with (at_builtin;refine zbz _ rfl _ _ 22 rfl w.heap.size 5 (.int .u8 0) 1 Tryz.underlying22 Tryz.info5 rfl _ _ _ rfl o2 #[.int .u8 46] 1 rfl rfl (by intro u hu;simp at hu;subst hu;rfl) (by omega) (by unfold maxLen;omega) z2 ?_)
  intro v' w1 o3 b3
  have R:w1.ownsRow w.heap.size 5 1 v' (yYz n 3).length (zcz (yYz n 3)):=by
   rw[show yYz n 3=L++[46] by rw[←HL.out];simp[yYz],vWz,List.length_append]
   exact o3
  have B3:=B2.trans b3
  clear o2 o3 b3 B2
  go_wp2_with fail
  go_roundw
  case rel=>exact ⟨3,by omega,rfl,fun _=>R,fun h=>by omega,B3⟩
  case measure=>simp[intOf]
 ·have HI:Hid (∀(v:Value) (W:World),W.ownsRow w.heap.size 5 1 v (yYz n 3).length (zcz (yYz n 3))→w.heap.size≤W.heap.size→Lib.TabBelow Tryz.prog w.heap.size W "internal/strconv.uint64pow10" .u64 Lib.pow10Tab→Calls Tryz.prog 192 #[v,.int .i64 (n%256),.int .i64 10] W fun e w'=> ∃v',e=.returned v'∧w'.ownsRow w.heap.size 5 1 v' (yYz n 3++zGz (n%256).toNat).length (zcz (yYz n 3++zGz (n%256).toNat))∧Below w.heap.size W w'):=fun v W ho hB hT=>za6z w.heap.size _ v _ W (by omega) (by omega) ho hB (by have:=jMz n 3;omega) hT
  have o1:=hin (by omega)
  clear hin hend
  simp only[zhpz]
  go_wp2_with fail
  refine (HI.out _ _ o1 hsz HTW.out).mono ?_
  rintro e wb ⟨vb,rfl,o2,b2⟩
  have B2:=hbel.trans b2
  clear o1 hbel b2 HTW HI
  go_wp2_with fail
  go_roundw
  case rel=>exact ⟨4,by omega,rfl,fun h=>by omega,fun _=>o2,B2⟩
  case measure=>simp[intOf]
 have o1:=hend rfl
 clear hin hend
 have hcv:=zzz (P:=Tryz.prog) wr 22 9 5 Tryz.underlying22 Tryz.underlying5 Tryz.underlying9 o1
 rw[zpwz h0]at hcv
 simp only[zhpz]
 go_wp2_with fail
 go_ret
 exact ⟨rfl,hbel⟩
theorem zfKz(n:Int)(w:World)(h:n<0∨4294967295<n):
  Calls Tryz.prog 142 #[.int .i64 n] w fun e w'=>e=.returned (.string ⟨#[]⟩)∧Below w.heap.size w w':=by
 by_cases h0:n<0
 ·clear h
  go_enter Tryz.func142,Tryz.ntmps142
  go_wp2_with fail
  go_ret
  exact ⟨rfl,Below.refl _ _⟩
 have h1:4294967296≤n:=by omega
 clear h
 go_enter Tryz.func142,Tryz.ntmps142
 go_wp2_with fail
 go_ret
 exact ⟨rfl,Below.refl _ _⟩
def MaxI(w:World):Prop:= ∃m,w.cell? ⟨8,0,none⟩=some (.int .i64 m)
theorem zfLz{w:World}(h:w.ShapedOpen Tryz.prog):MaxI w:=Tryz.laysM145.s1_3 w h
theorem viz{w w':World}(h:MaxI w)(hb:Below w.heap.size w w'):MaxI w':=by
 obtain ⟨m,hm⟩:=h
 exact ⟨m,cell_later hb hm⟩
end Go.Proofs.YtgcbaphbiaimoaaGreatDoor
