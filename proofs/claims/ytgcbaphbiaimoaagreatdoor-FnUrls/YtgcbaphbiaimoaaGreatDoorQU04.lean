/- Loose4Walk, Ip4Spec, Ip4Impl, MaxLaid, LaidPow. -/
import Derived.Test.YtgcbaphbiaimoaaGreatDoorQU03
import Derived.Lib.AppendIntMem
import Derived.Lib.LaidTab
import Derived.Lib.LaidU8
set_option maxHeartbeats 8000000
set_option maxRecDepth 20000
namespace Go.Proofs.YtgcbaphbiaimoaaGreatDoor
open Go.RowKit
set_option linter.unusedSimpArgs false
theorem vyz(fs:List ByteArray)(k:Nat)(h:k<fs.length):fs.drop k=fs.getD k ByteArray.empty::fs.drop (k+1):=by
 rw[List.drop_eq_getElem_cons h]
 simp[List.getD,h]
theorem zhTz(fs:List ByteArray)(k n r:Nat)(h: ¬k<fs.length):loF n r ((fs.drop k).map toL)=none:=by
 rw[List.drop_of_length_le (by omega)];rfl
theorem zcTz(fs:List ByteArray)(k n r:Nat)(h:k+1=fs.length):loF n r ((fs.drop k).map toL)=match zYz (toL (fs.getD k ByteArray.empty))with
  |none=>none
  |some v=>if v<r then some (n*r+v)else none:=by
 rw[vyz fs k (by omega),List.drop_of_length_le (by omega)]
 rfl
theorem zeFz(fs:List ByteArray)(k n r:Nat)(h:k+1<fs.length):loF n r ((fs.drop k).map toL)=match zYz (toL (fs.getD k ByteArray.empty))with
  |none=>none
  |some v=>if v<256 then loF (n*256+v) (r/256) ((fs.drop (k+1)).map toL)else none:=by
 rw[vyz fs k (by omega),vyz fs (k+1) h]
 rfl
theorem zmgz{fs:List ByteArray}(h:4<fs.length):lo4 (fs.map toL)=none:=by
 unfold lo4
 rw[if_neg (by simp;omega)]
theorem zi6z{fs:List ByteArray}(h:fs.length≤4):lo4 (fs.map toL)=loF 0 4294967296 (fs.map toL):=by
 unfold lo4
 rw[if_pos (by simpa using h)]
theorem jHz{fs:List ByteArray}{k:Nat}(h:k<fs.length):fs.getD k ByteArray.empty∈fs:=by
 rw[List.getD_eq_getElem?_getD,List.getElem?_eq_getElem h]
 exact List.getElem_mem h
theorem ze7z{k:Nat}(h:k≤3):256^k≤16777216:=Nat.pow_le_pow_right (n:=256) (j:=3) (by decide) h
theorem zhUz(s:ByteArray)(w:World)(hs:s.size≤1048576):
  Calls Tryz.prog 116 #[.string s] w fun e w'=>e=.returned (yWz (loA s))∧Below w.heap.size w w':=by
 have CF:Hid (Calls Tryz.prog 93 #[.string s,.int .u8 46] w fun e w'=> ∃v,e=.returned v∧w'.ownsRow w.heap.size 9 1 v (zaz s 46).length (zsz (zaz s 46))∧Below w.heap.size w w'):=jFz s 46 w hs
 have hpos:0<(zaz s 46).length:=by simp[zaz]
 have hlen:(zaz s 46).length≤1048577:=by
  have:=(ywz s 46 s.size).2
  simp[zaz];omega
 have HSZ0:Hid (∀x∈zaz s 46,x.size≤1048576):=xEz s hs
 have HNM0:Hid (loA s=lo4 ((yzz (zaz s 46)).map toL)):=rfl
 generalize zaz s 46=f0 at CF hpos hlen HSZ0 HNM0
 go_enter Tryz.func116,Tryz.ntmps116
 go_wp2_with fail
 refine CF.out.mono ?_
 rintro e wa ⟨va,rfl,oa,ba⟩
 rcases zrz oa with ⟨h,_⟩|⟨_,g,cap,rfl⟩
 ·omega
 have hc:=z2z oa (f0.length-1) (by omega)
 have hcap:=jlz oa
 have hi:((f0.length:Int)-1)=((f0.length-1:Nat):Int):=by omega
 have OA:Hid (wa.ownsRow w.heap.size 9 1 (.slice (some ⟨g,0,none⟩) f0.length cap) f0.length (zsz f0)):=oa
 have HP:Hid (0<f0.length∧f0.length≤1048577):=⟨hpos,hlen⟩
 clear oa CF
 obtain ⟨b,hb⟩: ∃b,decide (1<f0.length∧(f0.getD (f0.length-1) ByteArray.empty).size=0)=b:=⟨_,rfl⟩
 have HB:Hid (decide (1<f0.length∧(f0.getD (f0.length-1) ByteArray.empty).size=0)=b):=hb
 clear hb
 go_upto_region 2 with fail
 go_cut [22] (fun v wx=>v=.bool b∧wx=wa)
 case first=>
  by_cases hl1:1<f0.length
  ·have hl1':1<(f0.length:Int):=by omega
   by_cases hz:(f0.getD (f0.length-1) ByteArray.empty).size=0
   ·have hem:=ztz hz
    have HT:Hid (b=true):=HB.out.symm.trans (decide_eq_true ⟨hl1,hz⟩)
    generalize f0.getD (f0.length-1) ByteArray.empty=q at hc hem
    clear hz
    go_wp2_with fail
    go_meet
    exact ⟨by rw[HT.out],rfl⟩
   have hem:=zwz (u:=f0.getD (f0.length-1) ByteArray.empty) (by omega)
   have HT:Hid (b=false):=HB.out.symm.trans (decide_eq_false fun h=>hz h.2)
   generalize f0.getD (f0.length-1) ByteArray.empty=q at hc hem
   clear hz
   go_wp2_with fail
   go_meet
   exact ⟨by rw[HT.out],rfl⟩
  have hl1': ¬1<(f0.length:Int):=by omega
  have HT:Hid (b=false):=HB.out.symm.trans (decide_eq_false fun h=>hl1 h.1)
  go_wp2_with fail
  go_meet
  exact ⟨by rw[HT.out],rfl⟩
 obtain ⟨rfl,hw⟩:=hcut
 obtain rfl:=hw.symm
 clear hc
 go_upto_if 22 with fail
 go_cut [4] (fun v wx=> ∃(fs:List ByteArray) (cap':Nat),v=.slice (some ⟨g,0,none⟩) fs.length cap'∧wx=wa∧wa.ownsRow w.heap.size 9 1 (.slice (some ⟨g,0,none⟩) fs.length cap') fs.length (zsz fs)∧Hid (loA s=lo4 (fs.map toL))∧Hid (∀x∈fs,x.size≤1048576)∧1≤fs.length∧fs.length≤1048577)
 case first=>
  cases b with
  |true=>
   have hd:=of_decide_eq_true HB.out
   have OV:=zbgz OA.out (f0.length-1) (by omega)
   rw[vXz]at OV
   have HNM:Hid (loA s=lo4 ((f0.take (f0.length-1)).map toL)):=by
    have h:=HNM0.out
    unfold yzz at h
    rw[if_pos hd]at h
    exact h
   have HSZ:Hid (∀x∈f0.take (f0.length-1),x.size≤1048576):=fun x hx=>HSZ0.out x (List.mem_of_mem_take hx)
   have hl1:1<(f0.length:Int):=by omega
   have hml:(f0.take (f0.length-1)).length=f0.length-1:=by rw[List.length_take];omega
   obtain ⟨fs,hfs⟩: ∃fs,f0.take (f0.length-1)=fs:=⟨_,rfl⟩
   rw[hfs]at OV HNM HSZ hml
   have HML:Hid (fs.length=f0.length-1):=hml
   have HOV:Hid (wa.ownsRow w.heap.size 9 1 (.slice (some ⟨g,0,none⟩) (f0.length-1) cap) (f0.length-1) (zsz fs)):=OV
   clear hd hfs hml OV
   go_wp2_with fail
   go_meet
   have hp:=HP.out
   have hm:=HML.out
   exact ⟨fs,cap,by rw[hm],rfl,by rw[hm];exact HOV.out,HNM,HSZ,by omega,by omega⟩
  |false=>
   have hd:=of_decide_eq_false HB.out
   have HNM:Hid (loA s=lo4 (f0.map toL)):=by
    have h:=HNM0.out
    unfold yzz at h
    rw[if_neg hd]at h
    exact h
   clear hd
   go_wp2_with fail
   go_meet
   have hp:=HP.out
   exact ⟨f0,cap,rfl,rfl,OA.out,HNM,HSZ0,by omega,by omega⟩
 obtain ⟨fs,cap',rfl,hw,OV,HNM,HSZ,hq1,hq2⟩:=hcut
 obtain rfl:=hw.symm
 clear OA HP HB HNM0 HSZ0 hi hcap
 by_cases h5:4<fs.length
 ·have HZ:Hid (loA s=none):=by
   show _=_
   rw[HNM.out,zmgz h5]
  have h5':4<(fs.length:Int):=by omega
  go_wp2_with fail
  go_ret2
  exact ⟨by rw[HZ.out];rfl,ba⟩
 have h5': ¬4<(fs.length:Int):=by omega
 go_wp2_with fail
 have hlen2:1≤fs.length∧fs.length≤4:=by omega
 clear hpos hlen h5' h5 hq1 hq2
 have h4:fs.length=1∨fs.length=2∨fs.length=3∨fs.length=4:=by omega
 rcases h4 with hM|hM|hM|hM
 ·have HF:Hid (loA s=loF 0 4294967296 (fs.map toL)):=by
   show _=_
   rw[HNM.out,zi6z (by omega)]
  have HM:Hid (fs.length=1):=hM
  rw[hM]at OV⊢
  simp only[show ((1:Nat):Int)=(1:Int) from rfl,show decide ((4:Int)<(1:Int))=false from by decide,show decide ((1:Int)<(1:Int))=false from by decide,Nat.reduceSub,Int.reduceSub,show ((0:Nat):Int)=(0:Int) from rfl]
  clear hM hlen2
  go_loop[5,6] (fun x i=> ∃k n:Nat,k≤1∧i=.int .i64 k∧x=.int .i64 n∧n<256^k∧loF n (4294967296/256^k) ((fs.drop k).map toL)=loF 0 4294967296 (fs.map toL)) (fun _ i=>1-(intOf i).toNat)
  case atStart=>exact ⟨0,0,Nat.zero_le _,rfl,rfl,by decide,rfl⟩
  obtain ⟨k,n,hk,rfl,rfl,hn,hf⟩:=hrel
  have HR:Hid (loF n (4294967296/256^k) ((fs.drop k).map toL)=loF 0 4294967296 (fs.map toL)):=hf
  have HN:Hid (n<256^k):=hn
  clear hf
  have HN2:Hid (k<1→(n:Int)<16777216):=fun h=>by have h2:=ze7z (k:=k) (by omega);omega
  clear hn
  by_cases hlt:k<1
  ·obtain ⟨a,ha⟩: ∃a:Int,(n:Int)=a:=⟨_,rfl⟩
   have hn3:a<16777216:=by rw[←ha];exact HN2.out hlt
   have hn0:0≤a:=by omega
   have HAN:Hid ((n:Int)=a):=ha
   rw[ha]
   clear ha
   have hc:=z2z OV k (by omega)
   have hsy:=HSZ.out _ (jHz (k:=k) (by have:=HM.out;omega))
   have CT:Hid (∀W,CS 169 #[.string (fs.getD k ByteArray.empty)] W (.int .i64 (yVz (zYz (toL (fs.getD k ByteArray.empty)))))):=fun W=>zbJz _ W hsy
   have hki:(k:Int)<1:=by omega
   by_cases hl:k+1=1
   ·have HS:Hid (_=_):=zcTz fs k n (4294967296/256^k) (by have:=HM.out;omega)
    obtain rfl:k=1-1:=by omega
    rw[show 4294967296/256^(1-1)=4294967296 from by decide]at HS HR
    generalize fs.getD (1-1) ByteArray.empty=y at hc CT HS hsy
    clear hl hsy
    cases hv:zYz (toL y)with
    |none=>
     rw[hv]at CT HS
     have HZ:Hid (loA s=none):=by
      show _=_
      rw[HF.out,←HR.out,HS.out]
     clear hv
     have hng:(-1:Int)<0:=by decide
     go_wp2_with fail
     refine (CT.out _).mono ?_
     rintro e w' ⟨rfl,rfl⟩
     simp only[yVz]
     go_wp2_with fail
     go_ret2
     exact ⟨by rw[HZ.out];rfl,ba⟩
    |some v=>
     rw[hv]at CT HS
     clear hv
     by_cases hvr:v<4294967296
     ·have HZ:Hid (loA s=some (n*4294967296+v)):=by
       show _=_
       rw[HF.out,←HR.out,HS.out]
       exact if_pos hvr
      have hv1:(v:Int)<4294967296:=by omega
      have hv0: ¬(v:Int)<0:=by omega
      obtain ⟨x,hx⟩: ∃x:Int,(v:Int)=x:=⟨_,rfl⟩
      rw[hx]at hv1 hv0
      have e2:bits .or .i64 (a*4294967296) x=a*4294967296+x:=xZz 32 _ _ (by omega) (by omega) (by omega) (by omega) (by omega) (by omega)
      have HX:Hid ((v:Int)=x):=hx
      clear hx
      have HV:Hid (v<4294967296):=hvr
      clear hvr
      go_wp2_with fail
      refine (CT.out _).mono ?_
      rintro e w' ⟨rfl,rfl⟩
      simp only[yVz]
      rw[HX.out]
      go_wp2_with fail
      go_ret2
      exact ⟨by rw[HZ.out];have h1:=HAN.out;have h2:=HX.out;simp[yWz];omega,ba⟩
     have HZ:Hid (loA s=none):=by
      show _=_
      rw[HF.out,←HR.out,HS.out]
      exact if_neg hvr
     have hv1: ¬(v:Int)<4294967296:=by omega
     have hv0: ¬(v:Int)<0:=by omega
     have HV:Hid (¬v<4294967296):=hvr
     clear hvr
     go_wp2_with fail
     refine (CT.out _).mono ?_
     rintro e w' ⟨rfl,rfl⟩
     simp only[yVz]
     go_wp2_with fail
     go_ret2
     exact ⟨by rw[HZ.out];rfl,ba⟩
   exfalso;omega
  have HZ:Hid (loA s=none):=by
   show _=_
   rw[HF.out,←HR.out]
   exact zhTz fs k _ _ (by have:=HM.out;omega)
  have hki: ¬(k:Int)<1:=by omega
  go_wp2_with fail
  go_ret2
  exact ⟨by rw[HZ.out];rfl,ba⟩
 ·have HF:Hid (loA s=loF 0 4294967296 (fs.map toL)):=by
   show _=_
   rw[HNM.out,zi6z (by omega)]
  have HM:Hid (fs.length=2):=hM
  rw[hM]at OV⊢
  simp only[show ((2:Nat):Int)=(2:Int) from rfl,show decide ((4:Int)<(2:Int))=false from by decide,show decide ((1:Int)<(2:Int))=true from by decide,Nat.reduceSub,Int.reduceSub,show ((1:Nat):Int)=(1:Int) from rfl]
  clear hM hlen2
  go_loop[5,6] (fun x i=> ∃k n:Nat,k≤2∧i=.int .i64 k∧x=.int .i64 n∧n<256^k∧loF n (4294967296/256^k) ((fs.drop k).map toL)=loF 0 4294967296 (fs.map toL)) (fun _ i=>2-(intOf i).toNat)
  case atStart=>exact ⟨0,0,Nat.zero_le _,rfl,rfl,by decide,rfl⟩
  obtain ⟨k,n,hk,rfl,rfl,hn,hf⟩:=hrel
  have HR:Hid (loF n (4294967296/256^k) ((fs.drop k).map toL)=loF 0 4294967296 (fs.map toL)):=hf
  have HN:Hid (n<256^k):=hn
  clear hf
  have HN2:Hid (k<2→(n:Int)<16777216):=fun h=>by have h2:=ze7z (k:=k) (by omega);omega
  clear hn
  by_cases hlt:k<2
  ·obtain ⟨a,ha⟩: ∃a:Int,(n:Int)=a:=⟨_,rfl⟩
   have hn3:a<16777216:=by rw[←ha];exact HN2.out hlt
   have hn0:0≤a:=by omega
   have HAN:Hid ((n:Int)=a):=ha
   rw[ha]
   clear ha
   have hc:=z2z OV k (by omega)
   have hsy:=HSZ.out _ (jHz (k:=k) (by have:=HM.out;omega))
   have CT:Hid (∀W,CS 169 #[.string (fs.getD k ByteArray.empty)] W (.int .i64 (yVz (zYz (toL (fs.getD k ByteArray.empty)))))):=fun W=>zbJz _ W hsy
   have hki:(k:Int)<2:=by omega
   by_cases hl:k+1=2
   ·have HS:Hid (_=_):=zcTz fs k n (4294967296/256^k) (by have:=HM.out;omega)
    obtain rfl:k=2-1:=by omega
    rw[show 4294967296/256^(2-1)=16777216 from by decide]at HS HR
    generalize fs.getD (2-1) ByteArray.empty=y at hc CT HS hsy
    clear hl hsy
    cases hv:zYz (toL y)with
    |none=>
     rw[hv]at CT HS
     have HZ:Hid (loA s=none):=by
      show _=_
      rw[HF.out,←HR.out,HS.out]
     clear hv
     have hng:(-1:Int)<0:=by decide
     go_wp2_with fail
     refine (CT.out _).mono ?_
     rintro e w' ⟨rfl,rfl⟩
     simp only[yVz]
     go_wp2_with fail
     go_ret2
     exact ⟨by rw[HZ.out];rfl,ba⟩
    |some v=>
     rw[hv]at CT HS
     clear hv
     by_cases hvr:v<16777216
     ·have HZ:Hid (loA s=some (n*16777216+v)):=by
       show _=_
       rw[HF.out,←HR.out,HS.out]
       exact if_pos hvr
      have hv1:(v:Int)<16777216:=by omega
      have hv0: ¬(v:Int)<0:=by omega
      obtain ⟨x,hx⟩: ∃x:Int,(v:Int)=x:=⟨_,rfl⟩
      rw[hx]at hv1 hv0
      have e2:bits .or .i64 (a*16777216) x=a*16777216+x:=xZz 24 _ _ (by omega) (by omega) (by omega) (by omega) (by omega) (by omega)
      have HX:Hid ((v:Int)=x):=hx
      clear hx
      have HV:Hid (v<16777216):=hvr
      clear hvr
      go_wp2_with fail
      refine (CT.out _).mono ?_
      rintro e w' ⟨rfl,rfl⟩
      simp only[yVz]
      rw[HX.out]
      go_wp2_with fail
      go_ret2
      exact ⟨by rw[HZ.out];have h1:=HAN.out;have h2:=HX.out;simp[yWz];omega,ba⟩
     have HZ:Hid (loA s=none):=by
      show _=_
      rw[HF.out,←HR.out,HS.out]
      exact if_neg hvr
     have hv1: ¬(v:Int)<16777216:=by omega
     have hv0: ¬(v:Int)<0:=by omega
     have HV:Hid (¬v<16777216):=hvr
     clear hvr
     go_wp2_with fail
     refine (CT.out _).mono ?_
     rintro e w' ⟨rfl,rfl⟩
     simp only[yVz]
     go_wp2_with fail
     go_ret2
     exact ⟨by rw[HZ.out];rfl,ba⟩
   have HS:Hid (_=_):=zeFz fs k n (4294967296/256^k) (by have:=HM.out;omega)
   have HL:Hid (k+1<2):=by show _<_;omega
   have hkq:((k:Int)==1)=false:=by simp;omega
   generalize fs.getD k ByteArray.empty=y at hc CT HS hsy
   clear hl hsy
   cases hv:zYz (toL y)with
   |none=>
    rw[hv]at CT HS
    have HZ:Hid (loA s=none):=by
     show _=_
     rw[HF.out,←HR.out,HS.out]
    clear hv
    go_wp2_with fail
    refine (CT.out _).mono ?_
    rintro e w' ⟨rfl,rfl⟩
    simp only[yVz]
    go_wp2_with fail
    go_ret2
    exact ⟨by rw[HZ.out];rfl,ba⟩
   |some v=>
    rw[hv]at CT HS
    clear hv
    by_cases hvr:v<256
    ·have HG:Hid (loF (n*256+v) (4294967296/256^k/256) ((fs.drop (k+1)).map toL)=loF 0 4294967296 (fs.map toL)):=by
      show _=_
      rw[←HR.out,HS.out]
      exact (if_pos hvr).symm
     have hv1: ¬255<(v:Int):=by omega
     have hv0: ¬(v:Int)<0:=by omega
     obtain ⟨x,hx⟩: ∃x:Int,(v:Int)=x:=⟨_,rfl⟩
     rw[hx]at hv1 hv0
     have e2:bits .or .i64 (a*256) x=a*256+x:=xZz 8 _ _ (by omega) (by omega) (by omega) (by omega) (by omega) (by omega)
     have HX:Hid ((v:Int)=x):=hx
     clear hx
     have HV:Hid (v<256):=hvr
     clear hvr
     go_wp2_with fail
     refine (CT.out _).mono ?_
     rintro e w' ⟨rfl,rfl⟩
     simp only[yVz]
     rw[HX.out]
     go_wp2_with fail
     go_round
     case rel=>
      refine ⟨k+1,n*256+v,by have:=HL.out;omega,by go_num,by have h1:=HAN.out;have h2:=HX.out;go_num,?_,?_⟩
      ·have h1:=HN.out
       have h2:=HV.out
       rw[Nat.pow_succ];omega
      rw[Nat.pow_succ,←Nat.div_div_eq_div_mul]
      exact HG.out
     case measure=>simp[intOf];have:=HL.out;omega
    have HZ:Hid (loA s=none):=by
     show _=_
     rw[HF.out,←HR.out,HS.out]
     exact if_neg hvr
    have hv1:255<(v:Int):=by omega
    have hv0: ¬(v:Int)<0:=by omega
    have HV:Hid (¬v<256):=hvr
    clear hvr
    go_wp2_with fail
    refine (CT.out _).mono ?_
    rintro e w' ⟨rfl,rfl⟩
    simp only[yVz]
    go_wp2_with fail
    go_ret2
    exact ⟨by rw[HZ.out];rfl,ba⟩
  have HZ:Hid (loA s=none):=by
   show _=_
   rw[HF.out,←HR.out]
   exact zhTz fs k _ _ (by have:=HM.out;omega)
  have hki: ¬(k:Int)<2:=by omega
  go_wp2_with fail
  go_ret2
  exact ⟨by rw[HZ.out];rfl,ba⟩
 ·have HF:Hid (loA s=loF 0 4294967296 (fs.map toL)):=by
   show _=_
   rw[HNM.out,zi6z (by omega)]
  have HM:Hid (fs.length=3):=hM
  rw[hM]at OV⊢
  simp only[show ((3:Nat):Int)=(3:Int) from rfl,show decide ((4:Int)<(3:Int))=false from by decide,show decide ((1:Int)<(3:Int))=true from by decide,Nat.reduceSub,Int.reduceSub,show ((2:Nat):Int)=(2:Int) from rfl]
  clear hM hlen2
  go_loop[5,6] (fun x i=> ∃k n:Nat,k≤3∧i=.int .i64 k∧x=.int .i64 n∧n<256^k∧loF n (4294967296/256^k) ((fs.drop k).map toL)=loF 0 4294967296 (fs.map toL)) (fun _ i=>3-(intOf i).toNat)
  case atStart=>exact ⟨0,0,Nat.zero_le _,rfl,rfl,by decide,rfl⟩
  obtain ⟨k,n,hk,rfl,rfl,hn,hf⟩:=hrel
  have HR:Hid (loF n (4294967296/256^k) ((fs.drop k).map toL)=loF 0 4294967296 (fs.map toL)):=hf
  have HN:Hid (n<256^k):=hn
  clear hf
  have HN2:Hid (k<3→(n:Int)<16777216):=fun h=>by have h2:=ze7z (k:=k) (by omega);omega
  clear hn
  by_cases hlt:k<3
  ·obtain ⟨a,ha⟩: ∃a:Int,(n:Int)=a:=⟨_,rfl⟩
   have hn3:a<16777216:=by rw[←ha];exact HN2.out hlt
   have hn0:0≤a:=by omega
   have HAN:Hid ((n:Int)=a):=ha
   rw[ha]
   clear ha
   have hc:=z2z OV k (by omega)
   have hsy:=HSZ.out _ (jHz (k:=k) (by have:=HM.out;omega))
   have CT:Hid (∀W,CS 169 #[.string (fs.getD k ByteArray.empty)] W (.int .i64 (yVz (zYz (toL (fs.getD k ByteArray.empty)))))):=fun W=>zbJz _ W hsy
   have hki:(k:Int)<3:=by omega
   by_cases hl:k+1=3
   ·have HS:Hid (_=_):=zcTz fs k n (4294967296/256^k) (by have:=HM.out;omega)
    obtain rfl:k=3-1:=by omega
    rw[show 4294967296/256^(3-1)=65536 from by decide]at HS HR
    generalize fs.getD (3-1) ByteArray.empty=y at hc CT HS hsy
    clear hl hsy
    cases hv:zYz (toL y)with
    |none=>
     rw[hv]at CT HS
     have HZ:Hid (loA s=none):=by
      show _=_
      rw[HF.out,←HR.out,HS.out]
     clear hv
     have hng:(-1:Int)<0:=by decide
     go_wp2_with fail
     refine (CT.out _).mono ?_
     rintro e w' ⟨rfl,rfl⟩
     simp only[yVz]
     go_wp2_with fail
     go_ret2
     exact ⟨by rw[HZ.out];rfl,ba⟩
    |some v=>
     rw[hv]at CT HS
     clear hv
     by_cases hvr:v<65536
     ·have HZ:Hid (loA s=some (n*65536+v)):=by
       show _=_
       rw[HF.out,←HR.out,HS.out]
       exact if_pos hvr
      have hv1:(v:Int)<65536:=by omega
      have hv0: ¬(v:Int)<0:=by omega
      obtain ⟨x,hx⟩: ∃x:Int,(v:Int)=x:=⟨_,rfl⟩
      rw[hx]at hv1 hv0
      have e2:bits .or .i64 (a*65536) x=a*65536+x:=xZz 16 _ _ (by omega) (by omega) (by omega) (by omega) (by omega) (by omega)
      have HX:Hid ((v:Int)=x):=hx
      clear hx
      have HV:Hid (v<65536):=hvr
      clear hvr
      go_wp2_with fail
      refine (CT.out _).mono ?_
      rintro e w' ⟨rfl,rfl⟩
      simp only[yVz]
      rw[HX.out]
      go_wp2_with fail
      go_ret2
      exact ⟨by rw[HZ.out];have h1:=HAN.out;have h2:=HX.out;simp[yWz];omega,ba⟩
     have HZ:Hid (loA s=none):=by
      show _=_
      rw[HF.out,←HR.out,HS.out]
      exact if_neg hvr
     have hv1: ¬(v:Int)<65536:=by omega
     have hv0: ¬(v:Int)<0:=by omega
     have HV:Hid (¬v<65536):=hvr
     clear hvr
     go_wp2_with fail
     refine (CT.out _).mono ?_
     rintro e w' ⟨rfl,rfl⟩
     simp only[yVz]
     go_wp2_with fail
     go_ret2
     exact ⟨by rw[HZ.out];rfl,ba⟩
   have HS:Hid (_=_):=zeFz fs k n (4294967296/256^k) (by have:=HM.out;omega)
   have HL:Hid (k+1<3):=by show _<_;omega
   have hkq:((k:Int)==2)=false:=by simp;omega
   generalize fs.getD k ByteArray.empty=y at hc CT HS hsy
   clear hl hsy
   cases hv:zYz (toL y)with
   |none=>
    rw[hv]at CT HS
    have HZ:Hid (loA s=none):=by
     show _=_
     rw[HF.out,←HR.out,HS.out]
    clear hv
    go_wp2_with fail
    refine (CT.out _).mono ?_
    rintro e w' ⟨rfl,rfl⟩
    simp only[yVz]
    go_wp2_with fail
    go_ret2
    exact ⟨by rw[HZ.out];rfl,ba⟩
   |some v=>
    rw[hv]at CT HS
    clear hv
    by_cases hvr:v<256
    ·have HG:Hid (loF (n*256+v) (4294967296/256^k/256) ((fs.drop (k+1)).map toL)=loF 0 4294967296 (fs.map toL)):=by
      show _=_
      rw[←HR.out,HS.out]
      exact (if_pos hvr).symm
     have hv1: ¬255<(v:Int):=by omega
     have hv0: ¬(v:Int)<0:=by omega
     obtain ⟨x,hx⟩: ∃x:Int,(v:Int)=x:=⟨_,rfl⟩
     rw[hx]at hv1 hv0
     have e2:bits .or .i64 (a*256) x=a*256+x:=xZz 8 _ _ (by omega) (by omega) (by omega) (by omega) (by omega) (by omega)
     have HX:Hid ((v:Int)=x):=hx
     clear hx
     have HV:Hid (v<256):=hvr
     clear hvr
     go_wp2_with fail
     refine (CT.out _).mono ?_
     rintro e w' ⟨rfl,rfl⟩
     simp only[yVz]
     rw[HX.out]
     go_wp2_with fail
     go_round
     case rel=>
      refine ⟨k+1,n*256+v,by have:=HL.out;omega,by go_num,by have h1:=HAN.out;have h2:=HX.out;go_num,?_,?_⟩
      ·have h1:=HN.out
       have h2:=HV.out
       rw[Nat.pow_succ];omega
      rw[Nat.pow_succ,←Nat.div_div_eq_div_mul]
      exact HG.out
     case measure=>simp[intOf];have:=HL.out;omega
    have HZ:Hid (loA s=none):=by
     show _=_
     rw[HF.out,←HR.out,HS.out]
     exact if_neg hvr
    have hv1:255<(v:Int):=by omega
    have hv0: ¬(v:Int)<0:=by omega
    have HV:Hid (¬v<256):=hvr
    clear hvr
    go_wp2_with fail
    refine (CT.out _).mono ?_
    rintro e w' ⟨rfl,rfl⟩
    simp only[yVz]
    go_wp2_with fail
    go_ret2
    exact ⟨by rw[HZ.out];rfl,ba⟩
  have HZ:Hid (loA s=none):=by
   show _=_
   rw[HF.out,←HR.out]
   exact zhTz fs k _ _ (by have:=HM.out;omega)
  have hki: ¬(k:Int)<3:=by omega
  go_wp2_with fail
  go_ret2
  exact ⟨by rw[HZ.out];rfl,ba⟩
 have HF:Hid (loA s=loF 0 4294967296 (fs.map toL)):=by
  show _=_
  rw[HNM.out,zi6z (by omega)]
 have HM:Hid (fs.length=4):=hM
 rw[hM]at OV⊢
 simp only[show ((4:Nat):Int)=(4:Int) from rfl,show decide ((4:Int)<(4:Int))=false from by decide,show decide ((1:Int)<(4:Int))=true from by decide,Nat.reduceSub,Int.reduceSub,show ((3:Nat):Int)=(3:Int) from rfl]
 clear hM hlen2
 go_loop[5,6] (fun x i=> ∃k n:Nat,k≤4∧i=.int .i64 k∧x=.int .i64 n∧n<256^k∧loF n (4294967296/256^k) ((fs.drop k).map toL)=loF 0 4294967296 (fs.map toL)) (fun _ i=>4-(intOf i).toNat)
 case atStart=>exact ⟨0,0,Nat.zero_le _,rfl,rfl,by decide,rfl⟩
 obtain ⟨k,n,hk,rfl,rfl,hn,hf⟩:=hrel
 have HR:Hid (loF n (4294967296/256^k) ((fs.drop k).map toL)=loF 0 4294967296 (fs.map toL)):=hf
 have HN:Hid (n<256^k):=hn
 clear hf
 have HN2:Hid (k<4→(n:Int)<16777216):=fun h=>by have h2:=ze7z (k:=k) (by omega);omega
 clear hn
 by_cases hlt:k<4
 ·obtain ⟨a,ha⟩: ∃a:Int,(n:Int)=a:=⟨_,rfl⟩
  have hn3:a<16777216:=by rw[←ha];exact HN2.out hlt
  have hn0:0≤a:=by omega
  have HAN:Hid ((n:Int)=a):=ha
  rw[ha]
  clear ha
  have hc:=z2z OV k (by omega)
  have hsy:=HSZ.out _ (jHz (k:=k) (by have:=HM.out;omega))
  have CT:Hid (∀W,CS 169 #[.string (fs.getD k ByteArray.empty)] W (.int .i64 (yVz (zYz (toL (fs.getD k ByteArray.empty)))))):=fun W=>zbJz _ W hsy
  have hki:(k:Int)<4:=by omega
  by_cases hl:k+1=4
  ·have HS:Hid (_=_):=zcTz fs k n (4294967296/256^k) (by have:=HM.out;omega)
   obtain rfl:k=4-1:=by omega
   rw[show 4294967296/256^(4-1)=256 from by decide]at HS HR
   generalize fs.getD (4-1) ByteArray.empty=y at hc CT HS hsy
   clear hl hsy
   cases hv:zYz (toL y)with
   |none=>
    rw[hv]at CT HS
    have HZ:Hid (loA s=none):=by
     show _=_
     rw[HF.out,←HR.out,HS.out]
    clear hv
    have hng:(-1:Int)<0:=by decide
    go_wp2_with fail
    refine (CT.out _).mono ?_
    rintro e w' ⟨rfl,rfl⟩
    simp only[yVz]
    go_wp2_with fail
    go_ret2
    exact ⟨by rw[HZ.out];rfl,ba⟩
   |some v=>
    rw[hv]at CT HS
    clear hv
    by_cases hvr:v<256
    ·have HZ:Hid (loA s=some (n*256+v)):=by
      show _=_
      rw[HF.out,←HR.out,HS.out]
      exact if_pos hvr
     have hv1:(v:Int)<256:=by omega
     have hv0: ¬(v:Int)<0:=by omega
     obtain ⟨x,hx⟩: ∃x:Int,(v:Int)=x:=⟨_,rfl⟩
     rw[hx]at hv1 hv0
     have e2:bits .or .i64 (a*256) x=a*256+x:=xZz 8 _ _ (by omega) (by omega) (by omega) (by omega) (by omega) (by omega)
     have HX:Hid ((v:Int)=x):=hx
     clear hx
     have HV:Hid (v<256):=hvr
     clear hvr
     go_wp2_with fail
     refine (CT.out _).mono ?_
     rintro e w' ⟨rfl,rfl⟩
     simp only[yVz]
     rw[HX.out]
     go_wp2_with fail
     go_ret2
     exact ⟨by rw[HZ.out];have h1:=HAN.out;have h2:=HX.out;simp[yWz];omega,ba⟩
    have HZ:Hid (loA s=none):=by
     show _=_
     rw[HF.out,←HR.out,HS.out]
     exact if_neg hvr
    have hv1: ¬(v:Int)<256:=by omega
    have hv0: ¬(v:Int)<0:=by omega
    have HV:Hid (¬v<256):=hvr
    clear hvr
    go_wp2_with fail
    refine (CT.out _).mono ?_
    rintro e w' ⟨rfl,rfl⟩
    simp only[yVz]
    go_wp2_with fail
    go_ret2
    exact ⟨by rw[HZ.out];rfl,ba⟩
  have HS:Hid (_=_):=zeFz fs k n (4294967296/256^k) (by have:=HM.out;omega)
  have HL:Hid (k+1<4):=by show _<_;omega
  have hkq:((k:Int)==3)=false:=by simp;omega
  generalize fs.getD k ByteArray.empty=y at hc CT HS hsy
  clear hl hsy
  cases hv:zYz (toL y)with
  |none=>
   rw[hv]at CT HS
   have HZ:Hid (loA s=none):=by
    show _=_
    rw[HF.out,←HR.out,HS.out]
   clear hv
   go_wp2_with fail
   refine (CT.out _).mono ?_
   rintro e w' ⟨rfl,rfl⟩
   simp only[yVz]
   go_wp2_with fail
   go_ret2
   exact ⟨by rw[HZ.out];rfl,ba⟩
  |some v=>
   rw[hv]at CT HS
   clear hv
   by_cases hvr:v<256
   ·have HG:Hid (loF (n*256+v) (4294967296/256^k/256) ((fs.drop (k+1)).map toL)=loF 0 4294967296 (fs.map toL)):=by
     show _=_
     rw[←HR.out,HS.out]
     exact (if_pos hvr).symm
    have hv1: ¬255<(v:Int):=by omega
    have hv0: ¬(v:Int)<0:=by omega
    obtain ⟨x,hx⟩: ∃x:Int,(v:Int)=x:=⟨_,rfl⟩
    rw[hx]at hv1 hv0
    have e2:bits .or .i64 (a*256) x=a*256+x:=xZz 8 _ _ (by omega) (by omega) (by omega) (by omega) (by omega) (by omega)
    have HX:Hid ((v:Int)=x):=hx
    clear hx
    have HV:Hid (v<256):=hvr
    clear hvr
    go_wp2_with fail
    refine (CT.out _).mono ?_
    rintro e w' ⟨rfl,rfl⟩
    simp only[yVz]
    rw[HX.out]
    go_wp2_with fail
    go_round
    case rel=>
     refine ⟨k+1,n*256+v,by have:=HL.out;omega,by go_num,by have h1:=HAN.out;have h2:=HX.out;go_num,?_,?_⟩
     ·have h1:=HN.out
      have h2:=HV.out
      rw[Nat.pow_succ];omega
     rw[Nat.pow_succ,←Nat.div_div_eq_div_mul]
     exact HG.out
    case measure=>simp[intOf];have:=HL.out;omega
   have HZ:Hid (loA s=none):=by
    show _=_
    rw[HF.out,←HR.out,HS.out]
    exact if_neg hvr
   have hv1:255<(v:Int):=by omega
   have hv0: ¬(v:Int)<0:=by omega
   have HV:Hid (¬v<256):=hvr
   clear hvr
   go_wp2_with fail
   refine (CT.out _).mono ?_
   rintro e w' ⟨rfl,rfl⟩
   simp only[yVz]
   go_wp2_with fail
   go_ret2
   exact ⟨by rw[HZ.out];rfl,ba⟩
 have HZ:Hid (loA s=none):=by
  show _=_
  rw[HF.out,←HR.out]
  exact zhTz fs k _ _ (by have:=HM.out;omega)
 have hki: ¬(k:Int)<4:=by omega
 go_wp2_with fail
 go_ret2
 exact ⟨by rw[HZ.out];rfl,ba⟩
end Go.Proofs.YtgcbaphbiaimoaaGreatDoor
namespace Go.Proofs.YtgcbaphbiaimoaaGreatDoor
open Go.RowKit
theorem xOz(a b:List UInt8):((⟨a.toArray⟩:ByteArray)++(⟨b.toArray⟩:ByteArray))=⟨(a++b).toArray⟩:=by
 apply ByteArray.ext
 rw[ByteArray.data_append]
 simp
theorem zq9z(W:World)(B:Nat)(c:Nat)(hc:c<256)(x:Int)(hx:x=(c:Int))(h:W.cell? ⟨B,0,none⟩=some (.int .u8 x)):
  (convert 22 9 (.slice (some ⟨B,0,none⟩) 1 1)).run Tryz.prog W=.ok (.string ⟨#[UInt8.ofNat c]⟩) W:=by
 subst hx
 have h:=run_convert_bytes_back (P:=Tryz.prog) W 22 9 5 ⟨B,0,none⟩ 1 [UInt8.ofNat c] Tryz.underlying22 Tryz.underlying5 Tryz.underlying9 (fun j hj=>by
  have:j=0:=by simpa using hj
  subst this
  rw[Addr.add_lit,h]
  simp
  omega)
 simpa using h
def xPz(n:Int):ByteArray:=⟨(xYz n.toNat).toArray⟩
def Pow(w:World):Prop:=Lib.TabIs Tryz.prog w "internal/strconv.uint64pow10" .u64 Lib.pow10Tab
theorem ybz{w w':World}(h:Pow w)(hb:Below w.heap.size w w'):Pow w':=Lib.tabBelow_of_tabIs h w' hb
theorem znaz{i:Int}(h0:0≤i)(h1:i<1000):Lib.itoa i=zPz i.toNat:=by
 obtain ⟨u,rfl⟩:=Int.eq_ofNat_of_zero_le h0
 rw[Lib.itoa_nonneg,Int.toNat_natCast]
 have hu:u<1000:=by omega
 unfold zPz
 by_cases c1:u<10
 ·rw[if_pos c1,Lib.decDigits_one c1]
 by_cases c2:u<100
 ·rw[if_neg c1,if_pos c2,Lib.decDigits_two c1 c2]
 rw[if_neg c1,if_neg c2,Lib.decDigits,dif_neg c1,Lib.decDigits_two (by omega) (by omega)]
 rw[show u/10/10=u/100 by omega]
 rfl
theorem zaQz(B:Nat)(i:Int)(v:Value)(l:List UInt8)(w:World)(h0:0≤i)(h1:i<1000)(hown:w.ownsRow B 5 1 v l.length (zcz l))(hB:B≤w.heap.size)(hl:l.length≤1000)
  (hT:Lib.TabBelow Tryz.prog B w "internal/strconv.uint64pow10" .u64 Lib.pow10Tab):
  Calls Tryz.prog 192 #[v,.int .i64 i,.int .i64 10] w fun e w'=> ∃v',e=.returned v'∧w'.ownsRow B 5 1 v' (l++zPz i.toNat).length (zcz (l++zPz i.toNat))∧Below B w w':=by
 refine (Tryz.strconv_AppendInt_10 B l.length i (by omega) (by omega) v (zcz l) w hown hB (by omega) hT).mono ?_
 rintro e w' ⟨v',rfl,h2,h3,_⟩
 refine ⟨v',rfl,?_,h3⟩
 rw[znaz h0 h1]at h2
 rw[xdz,List.length_append]
 exact h2
def ySz(n:Int):Nat→List UInt8
 |0=>[]
 |1=>zPz (n/16777216).toNat++[46]
 |2=>zPz (n/16777216).toNat++[46]++zPz (n/65536%256).toNat++[46]
 |_=>zPz (n/16777216).toNat++[46]++zPz (n/65536%256).toNat++[46]++zPz (n/256%256).toNat++[46]
theorem jIz(n:Int)(k:Nat):(ySz n k).length≤100:=by
 have h1:=xbz (n/16777216).toNat
 have h2:=xbz (n/65536%256).toNat
 have h3:=xbz (n/256%256).toNat
 match k with
 |0=>simp[ySz]
 |1=>simp[ySz];omega
 |2=>simp[ySz];omega
 |_+3=>simp[ySz];omega
theorem zoDz{n:Int}(h0:0≤n):(⟨(ySz n 3++zPz (n%256).toNat).toArray⟩:ByteArray)=xPz n:=by
 unfold xPz xYz ySz
 have e1:(n/16777216).toNat=n.toNat/16777216:=by omega
 have e2:(n/65536%256).toNat=n.toNat/65536%256:=by omega
 have e3:(n/256%256).toNat=n.toNat/256%256:=by omega
 have e4:(n%256).toNat=n.toNat%256:=by omega
 rw[e1,e2,e3,e4]
 simp
def zgLz:Nat→Int
 |0=>16777216
 |1=>65536
 |2=>256
 |3=>1
 |_=>0
theorem zbiz(n:Int)(w:World)(h0:0≤n)(h1:n<4294967296)(hT:Pow w):
  Calls Tryz.prog 142 #[.int .i64 n] w fun e w'=>e=.returned (.string (xPz n))∧Below w.heap.size w w':=by
 obtain ⟨i0,hi,hz0,hz1,hz2⟩:=info_parts Tryz.info5
 have HT:Hid (Lib.TabBelow Tryz.prog w.heap.size w "internal/strconv.uint64pow10" .u64 Lib.pow10Tab):=Lib.tabBelow_of_tabIs hT
 clear hT
 go_enter Tryz.func142,Tryz.ntmps142
 go_wp2_with (at_make;refine wpList_make_own _ rfl _ _ 22 rfl w.heap.size 5 i0 (.int .u8 0) 1 Tryz.underlying22 hi hz0 hz1 _ _ _ 15 rfl rfl (by omega) (by rw[hz2];omega) (by unfold maxLen;omega) (Nat.le_refl _) ?_)
 intro wm hmo hgm
 have Bm:Below w.heap.size w wm:=(Below.refl _ _).grown hgm (Nat.le_refl _) (fun k hk=>by cases hk)
 have om:wm.ownsRow w.heap.size 5 1 (.slice (some ⟨w.heap.size,0,none⟩) 0 15) 0 []:=hmo
 clear hmo hgm
 go_wp2_with fail
 go_loopw[3,4] (fun v r wr=> ∃k:Nat,k≤4∧r=.int .i64 (zgLz k)∧(k≤3→wr.ownsRow w.heap.size 5 1 v (ySz n k).length (zcz (ySz n k)))∧(k=4→wr.ownsRow w.heap.size 5 1 v (ySz n 3++zPz (n%256).toNat).length (zcz (ySz n 3++zPz (n%256).toNat)))∧Below w.heap.size w wr)
  (fun _ r _=>(intOf r).toNat)
 case atStart=>exact ⟨0,by omega,rfl,fun _=>om,fun h=>by omega,Bm⟩
 obtain ⟨k,hk,rfl,hin,hend,hbel⟩:=hrel
 clear om Bm hi hz0 hz1 hz2
 have hsz:=hbel.size
 have h5:k=0∨k=1∨k=2∨k=3∨k=4:=by omega
 have HTW:Hid (Lib.TabBelow Tryz.prog w.heap.size wr "internal/strconv.uint64pow10" .u64 Lib.pow10Tab):=HT.out.on hbel
 rcases h5 with rfl|rfl|rfl|rfl|rfl
 ·have e0:n/16777216%256=n/16777216:=by omega
  have HI:Hid (∀(v:Value) (W:World),W.ownsRow w.heap.size 5 1 v (ySz n 0).length (zcz (ySz n 0))→w.heap.size≤W.heap.size→Lib.TabBelow Tryz.prog w.heap.size W "internal/strconv.uint64pow10" .u64 Lib.pow10Tab→Calls Tryz.prog 192 #[v,.int .i64 (n/16777216),.int .i64 10] W fun e w'=> ∃v',e=.returned v'∧w'.ownsRow w.heap.size 5 1 v' (ySz n 0++zPz (n/16777216).toNat).length (zcz (ySz n 0++zPz (n/16777216).toNat))∧Below w.heap.size W w'):=fun v W ho hB hT=>zaQz w.heap.size _ v _ W (by omega) (by omega) ho hB (by have:=jIz n 0;omega) hT
  have o1:=hin (by omega)
  have hl:=jIz n 0
  have hl2:=xbz (n/16777216).toNat
  clear hin hend
  simp only[zgLz]
  go_wp2_with fail
  refine (HI.out _ _ o1 hsz HTW.out).mono ?_
  rintro e wb ⟨vb,rfl,o2,b2⟩
  have B2:=hbel.trans b2
  have z2:=B2.size
  have hl3:(ySz n 0++zPz (n/16777216).toNat).length≤200:=by rw[List.length_append];omega
  clear o1 hbel b2 HTW HI
  obtain ⟨L,hL⟩: ∃L,ySz n 0++zPz (n/16777216).toNat=L:=⟨_,rfl⟩
  rw[hL]at o2 hl3
  have HL:Hid (ySz n 0++zPz (n/16777216).toNat=L):=hL
  clear hL
  go_wp2_with (at_builtin;refine zbz _ rfl _ _ 22 rfl w.heap.size 5 (.int .u8 0) 1 Tryz.underlying22 Tryz.info5 rfl _ _ _ rfl o2 #[.int .u8 46] 1 rfl rfl (by intro u hu;simp at hu;subst hu;rfl) (by omega) (by unfold maxLen;omega) z2 ?_)
  intro v' w1 o3 b3
  have R:w1.ownsRow w.heap.size 5 1 v' (ySz n 1).length (zcz (ySz n 1)):=by
   rw[show ySz n 1=L++[46] by rw[←HL.out];simp[ySz],vRz,List.length_append]
   exact o3
  have B3:=B2.trans b3
  clear o2 o3 b3 B2
  go_wp2_with fail
  go_roundw
  case rel=>exact ⟨1,by omega,rfl,fun _=>R,fun h=>by omega,B3⟩
  case measure=>simp[intOf]
 ·have HI:Hid (∀(v:Value) (W:World),W.ownsRow w.heap.size 5 1 v (ySz n 1).length (zcz (ySz n 1))→w.heap.size≤W.heap.size→Lib.TabBelow Tryz.prog w.heap.size W "internal/strconv.uint64pow10" .u64 Lib.pow10Tab→Calls Tryz.prog 192 #[v,.int .i64 (n/65536%256),.int .i64 10] W fun e w'=> ∃v',e=.returned v'∧w'.ownsRow w.heap.size 5 1 v' (ySz n 1++zPz (n/65536%256).toNat).length (zcz (ySz n 1++zPz (n/65536%256).toNat))∧Below w.heap.size W w'):=fun v W ho hB hT=>zaQz w.heap.size _ v _ W (by omega) (by omega) ho hB (by have:=jIz n 1;omega) hT
  have o1:=hin (by omega)
  have hl:=jIz n 1
  have hl2:=xbz (n/65536%256).toNat
  clear hin hend
  simp only[zgLz]
  go_wp2_with fail
  refine (HI.out _ _ o1 hsz HTW.out).mono ?_
  rintro e wb ⟨vb,rfl,o2,b2⟩
  have B2:=hbel.trans b2
  have z2:=B2.size
  have hl3:(ySz n 1++zPz (n/65536%256).toNat).length≤200:=by rw[List.length_append];omega
  clear o1 hbel b2 HTW HI
  obtain ⟨L,hL⟩: ∃L,ySz n 1++zPz (n/65536%256).toNat=L:=⟨_,rfl⟩
  rw[hL]at o2 hl3
  have HL:Hid (ySz n 1++zPz (n/65536%256).toNat=L):=hL
  clear hL
  go_wp2_with (at_builtin;refine zbz _ rfl _ _ 22 rfl w.heap.size 5 (.int .u8 0) 1 Tryz.underlying22 Tryz.info5 rfl _ _ _ rfl o2 #[.int .u8 46] 1 rfl rfl (by intro u hu;simp at hu;subst hu;rfl) (by omega) (by unfold maxLen;omega) z2 ?_)
  intro v' w1 o3 b3
  have R:w1.ownsRow w.heap.size 5 1 v' (ySz n 2).length (zcz (ySz n 2)):=by
   rw[show ySz n 2=L++[46] by rw[←HL.out];simp[ySz],vRz,List.length_append]
   exact o3
  have B3:=B2.trans b3
  clear o2 o3 b3 B2
  go_wp2_with fail
  go_roundw
  case rel=>exact ⟨2,by omega,rfl,fun _=>R,fun h=>by omega,B3⟩
  case measure=>simp[intOf]
 ·have HI:Hid (∀(v:Value) (W:World),W.ownsRow w.heap.size 5 1 v (ySz n 2).length (zcz (ySz n 2))→w.heap.size≤W.heap.size→Lib.TabBelow Tryz.prog w.heap.size W "internal/strconv.uint64pow10" .u64 Lib.pow10Tab→Calls Tryz.prog 192 #[v,.int .i64 (n/256%256),.int .i64 10] W fun e w'=> ∃v',e=.returned v'∧w'.ownsRow w.heap.size 5 1 v' (ySz n 2++zPz (n/256%256).toNat).length (zcz (ySz n 2++zPz (n/256%256).toNat))∧Below w.heap.size W w'):=fun v W ho hB hT=>zaQz w.heap.size _ v _ W (by omega) (by omega) ho hB (by have:=jIz n 2;omega) hT
  have o1:=hin (by omega)
  have hl:=jIz n 2
  have hl2:=xbz (n/256%256).toNat
  clear hin hend
  simp only[zgLz]
  go_wp2_with fail
  refine (HI.out _ _ o1 hsz HTW.out).mono ?_
  rintro e wb ⟨vb,rfl,o2,b2⟩
  have B2:=hbel.trans b2
  have z2:=B2.size
  have hl3:(ySz n 2++zPz (n/256%256).toNat).length≤200:=by rw[List.length_append];omega
  clear o1 hbel b2 HTW HI
  obtain ⟨L,hL⟩: ∃L,ySz n 2++zPz (n/256%256).toNat=L:=⟨_,rfl⟩
  rw[hL]at o2 hl3
  have HL:Hid (ySz n 2++zPz (n/256%256).toNat=L):=hL
  clear hL
  go_wp2_with (at_builtin;refine zbz _ rfl _ _ 22 rfl w.heap.size 5 (.int .u8 0) 1 Tryz.underlying22 Tryz.info5 rfl _ _ _ rfl o2 #[.int .u8 46] 1 rfl rfl (by intro u hu;simp at hu;subst hu;rfl) (by omega) (by unfold maxLen;omega) z2 ?_)
  intro v' w1 o3 b3
  have R:w1.ownsRow w.heap.size 5 1 v' (ySz n 3).length (zcz (ySz n 3)):=by
   rw[show ySz n 3=L++[46] by rw[←HL.out];simp[ySz],vRz,List.length_append]
   exact o3
  have B3:=B2.trans b3
  clear o2 o3 b3 B2
  go_wp2_with fail
  go_roundw
  case rel=>exact ⟨3,by omega,rfl,fun _=>R,fun h=>by omega,B3⟩
  case measure=>simp[intOf]
 ·have HI:Hid (∀(v:Value) (W:World),W.ownsRow w.heap.size 5 1 v (ySz n 3).length (zcz (ySz n 3))→w.heap.size≤W.heap.size→Lib.TabBelow Tryz.prog w.heap.size W "internal/strconv.uint64pow10" .u64 Lib.pow10Tab→Calls Tryz.prog 192 #[v,.int .i64 (n%256),.int .i64 10] W fun e w'=> ∃v',e=.returned v'∧w'.ownsRow w.heap.size 5 1 v' (ySz n 3++zPz (n%256).toNat).length (zcz (ySz n 3++zPz (n%256).toNat))∧Below w.heap.size W w'):=fun v W ho hB hT=>zaQz w.heap.size _ v _ W (by omega) (by omega) ho hB (by have:=jIz n 3;omega) hT
  have o1:=hin (by omega)
  clear hin hend
  simp only[zgLz]
  go_wp2_with fail
  refine (HI.out _ _ o1 hsz HTW.out).mono ?_
  rintro e wb ⟨vb,rfl,o2,b2⟩
  have B2:=hbel.trans b2
  clear o1 hbel b2 HTW HI
  go_wp2_with fail
  go_roundw
  case rel=>exact ⟨4,by omega,rfl,fun h=>by omega,fun _=>o2,B2⟩
  case measure=>simp[intOf]
 have o1:=hend rfl
 clear hin hend
 have hcv:=zGz (P:=Tryz.prog) wr 22 9 5 Tryz.underlying22 Tryz.underlying5 Tryz.underlying9 o1
 rw[zoDz h0]at hcv
 simp only[zgLz]
 go_wp2_with fail
 go_ret
 exact ⟨rfl,hbel⟩
theorem ze8z(n:Int)(w:World)(h:n<0∨4294967295<n):
  Calls Tryz.prog 142 #[.int .i64 n] w fun e w'=>e=.returned (.string ⟨#[]⟩)∧Below w.heap.size w w':=by
 by_cases h0:n<0
 ·clear h
  go_enter Tryz.func142,Tryz.ntmps142
  go_wp2_with fail
  go_ret
  exact ⟨rfl,Below.refl _ _⟩
 have h1:4294967296≤n:=by omega
 clear h
 go_enter Tryz.func142,Tryz.ntmps142
 go_wp2_with fail
 go_ret
 exact ⟨rfl,Below.refl _ _⟩
def MaxI(w:World):Prop:= ∃m,w.cell? ⟨8,0,none⟩=some (.int .i64 m)
theorem zk3z{w:World}(h:w.ShapedOpen Tryz.prog):MaxI w:=Tryz.laysM145.s1_3 w h
theorem vzz{w w':World}(h:MaxI w)(hb:Below w.heap.size w w'):MaxI w':=by
 obtain ⟨m,hm⟩:=h
 exact ⟨m,cell_later hb hm⟩
end Go.Proofs.YtgcbaphbiaimoaaGreatDoor
namespace Go.Proofs.YtgcbaphbiaimoaaGreatDoor
open Go.ChangeShapes Go.WideShapes Go.ChangeAt Go.RowKit Go.Lib
theorem zoEz:(Rows.laid_internal_strconv_uint64pow10:DataW Unit)=Lib.tabData .u64 Lib.pow10Tab:=by kernel_rfl
def ze9z(d:DataW Unit):Array Value:=match d with
 | .agg ds=>(ds.map fun x=>match x with
  | .lit (.int k n)=>Value.int k n
  |_=>Value.int .i64 0).toArray
 |_=> #[]
def zhVz(cs:Array Value):Obj→Obj
 | .cells _ t frozen=> .cells cs t frozen
 |o=>o
def zraz(h:Array Obj):Array Obj:=
 ((h.modify 10 (zhVz (ze9z Rows.laid_math_bits_deBruijn32tab))).modify 11 (zhVz (ze9z Rows.laid_math_bits_deBruijn64tab))).modify 7 (zhVz (ze9z Rows.laid_internal_strconv_uint64pow10))
end Go.Proofs.YtgcbaphbiaimoaaGreatDoor
