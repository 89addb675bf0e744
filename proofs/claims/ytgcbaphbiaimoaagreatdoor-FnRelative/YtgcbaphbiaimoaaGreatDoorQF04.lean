/- Loose4Walk, Ip4Spec, Ip4Impl, MaxLaid, LaidPow. -/
import Derived.Test.YtgcbaphbiaimoaaGreatDoorQF03
import Derived.Lib.AppendIntMem
import Derived.Lib.LaidTab
import Derived.Lib.LaidU8
set_option maxHeartbeats 8000000
set_option maxRecDepth 20000
namespace Go.Proofs.YtgcbaphbiaimoaaGreatDoor
open Go.Value renaming int->I,string->Y
open Go.IntKind renaming i64->J
open Go.Ending renaming returned->Z
open _root_.Go.RowKit.Below renaming refl->zj
open _root_.ByteArray renaming empty->za
open _root_.Int renaming reduceSub->zg
open _root_.List renaming drop_of_length_le->zh,length_append->zc
open _root_.Nat renaming div_div_eq_div_mul->ze,pow_succ->zd,reduceSub->zf,zero_le->zi
open _root_.Go.Proofs.Tryz
open _root_.Go.Proofs.YtgcbaphbiaimoaaGreatDoor.Tryz
section
open Go.RowKit
set_option linter.unusedSimpArgs false
theorem jW(fs:List ByteArray)(k:Nat)(h:k<fs.length):fs.drop k=fs.getD k za::fs.drop (k+1):=by
 rw[List.drop_eq_getElem_cons h];simp[List.getD,h]
theorem KY(fs:List ByteArray)(k n r:Nat)(h: ¬k<fs.length):loF n r ((fs.drop k).map toL)=none:=by
 rw[zh om];rfl
theorem vN(fs:List ByteArray)(k n r:Nat)(h:k+1=fs.length):loF n r ((fs.drop k).map toL)=match bZ (toL (fs.getD k za))with
  |none=>none
  |some v=>if v<r then some (n*r+v)else none:=by
 rw[jW fs k om,zh om];rfl
theorem AN(fs:List ByteArray)(k n r:Nat)(h:k+1<fs.length):loF n r ((fs.drop k).map toL)=match bZ (toL (fs.getD k za))with
  |none=>none
  |some v=>if v<256 then loF (n*256+v) (r/256) ((fs.drop (k+1)).map toL)else none:=by
 rw[jW fs k om,jW fs (k+1) h];rfl
theorem XA{fs:List ByteArray}(h:4<fs.length):lo4 (fs.map toL)=none:=by
 unfold lo4;rw[if_neg (by simp;omega)]
theorem NZ{fs:List ByteArray}(h:fs.length<=4):lo4 (fs.map toL)=loF 0 4294967296 (fs.map toL):=by
 unfold lo4;rw[if_pos (by simpa using h)]
theorem nA{fs:List ByteArray}{k:Nat}(h:k<fs.length):fs.getD k za∈fs:=by
 rw[List.getD_eq_getElem?_getD,List.getElem?_eq_getElem h];exact List.getElem_mem h
theorem BU{k:Nat}(h:k<=3):256^k<=16777216:=Nat.pow_le_pow_right (n:=256) (j:=3) de h
theorem KZ(s:ByteArray)(w:World)(hs:s.size<=1048576):Calls prog 116 #[Y s] w fun e w'=>e=Z (eN (loA s))/\Below w.heap.size w w':=by
 have CF:Hid (Calls prog 93 #[Y s,.int .u8 46] w fun e w'=> ∃v,e=Z v/\w'.ownsRow w.heap.size 9 1 v (aA s 46).length (aM (aA s 46))/\Below w.heap.size w w'):=mX s 46 w hs;have hpos:0<(aA s 46).length:=by simp[aA]
 have hlen:(aA s 46).length<=1048577:=by
  have:=(dL s 46 s.size).2
  simp[aA];omega
 have HSZ0:Hid (∀x∈aA s 46,x.size<=1048576):=gE s hs;have HNM0:Hid (loA s=lo4 ((dP (aA s 46)).map toL)):=rfl;generalize aA s 46=f0 at CF hpos hlen HSZ0 HNM0;go_enter func116,ntmps116;go_wp2_with fail;refine CF.out.mono ?_;rintro e wa ⟨va,rfl,oa,ba⟩
 rcases aQ oa with ⟨h,_⟩|⟨_,g,cap,rfl⟩
 .omega
 have hc:=bY oa (f0.length-1) om;have hcap:=lV oa;have hi:((f0.length:Int)-1)=((f0.length-1:Nat):Int):=om;have OA:Hid (wa.ownsRow w.heap.size 9 1 (.slice (some ⟨g,0,none⟩) f0.length cap) f0.length (aM f0)):=oa;have HP:Hid (0<f0.length/\f0.length<=1048577):=⟨hpos,hlen⟩;clear oa CF;obtain ⟨b,hb⟩: ∃b,decide (1<f0.length/\(f0.getD (f0.length-1) za).size=0)=b:=⟨_,rfl⟩;have HB:Hid (decide (1<f0.length/\(f0.getD (f0.length-1) za).size=0)=b):=hb;clear hb
 go_upto_region 2 with fail
 go_cut [22] (fun v wx=>v=.bool b/\wx=wa)
 case first=>
  by_cases hl1:1<f0.length
  .have hl1':1<(f0.length:Int):=om
   by_cases hz:(f0.getD (f0.length-1) za).size=0
   .have hem:=aV hz
    have HT:Hid (b=true):=HB.out.symm.trans (decide_eq_true ⟨hl1,hz⟩);generalize f0.getD (f0.length-1) za=q at hc hem;clear hz;go_wp2_with fail;go_meet;exact ⟨by rw[HT.out],rfl⟩
   have hem:=aX (u:=f0.getD (f0.length-1) za) om;have HT:Hid (b=false):=HB.out.symm.trans (decide_eq_false fun h=>hz h.2);generalize f0.getD (f0.length-1) za=q at hc hem;clear hz;go_wp2_with fail;go_meet;exact ⟨by rw[HT.out],rfl⟩
  have hl1': ¬1<(f0.length:Int):=om;have HT:Hid (b=false):=HB.out.symm.trans (decide_eq_false fun h=>hl1 h.1);go_wp2_with fail;go_meet;exact ⟨by rw[HT.out],rfl⟩
 obtain ⟨rfl,hw⟩:=hcut
 obtain rfl:=hw.symm
 clear hc
 go_upto_if 22 with fail
 go_cut [4] (fun v wx=> ∃(fs:List ByteArray) (cap':Nat),v=.slice (some ⟨g,0,none⟩) fs.length cap'/\wx=wa/\wa.ownsRow w.heap.size 9 1 (.slice (some ⟨g,0,none⟩) fs.length cap') fs.length (aM fs)/\Hid (loA s=lo4 (fs.map toL))/\Hid (∀x∈fs,x.size<=1048576)/\1<=fs.length/\fs.length<=1048577)
 case first=>
  cases b with
  |true=>
   have hd:=of_decide_eq_true HB.out;have OV:=rL OA.out (f0.length-1) om;rw[kX]at OV;have HNM:Hid (loA s=lo4 ((f0.take (f0.length-1)).map toL)):=by
    have h:=HNM0.out;unfold dP at h;rw[if_pos hd]at h;exact h
   have HSZ:Hid (∀x∈f0.take (f0.length-1),x.size<=1048576):=fun x hx=>HSZ0.out x (List.mem_of_mem_take hx)
   have hl1:1<(f0.length:Int):=om;have hml:(f0.take (f0.length-1)).length=f0.length-1:=by rw[List.length_take];omega
   obtain ⟨fs,hfs⟩: ∃fs,f0.take (f0.length-1)=fs:=⟨_,rfl⟩;rw[hfs]at OV HNM HSZ hml;have HML:Hid (fs.length=f0.length-1):=hml;have HOV:Hid (wa.ownsRow w.heap.size 9 1 (.slice (some ⟨g,0,none⟩) (f0.length-1) cap) (f0.length-1) (aM fs)):=OV;clear hd hfs hml OV;go_wp2_with fail;go_meet;have hp:=HP.out;have hm:=HML.out;exact ⟨fs,cap,by rw[hm],rfl,by rw[hm];exact HOV.out,HNM,HSZ,om,om⟩
  |false=>
   have hd:=of_decide_eq_false HB.out;have HNM:Hid (loA s=lo4 (f0.map toL)):=by
    have h:=HNM0.out;unfold dP at h;rw[if_neg hd]at h;exact h
   clear hd;go_wp2_with fail;go_meet;have hp:=HP.out;exact ⟨f0,cap,rfl,rfl,OA.out,HNM,HSZ0,om,om⟩
 obtain ⟨fs,cap',rfl,hw,OV,HNM,HSZ,hq1,hq2⟩:=hcut
 obtain rfl:=hw.symm
 clear OA HP HB HNM0 HSZ0 hi hcap
 by_cases h5:4<fs.length
 .have HZ:Hid (loA s=none):=by
   show _=_;rw[HNM.out,XA h5]
  have h5':4<(fs.length:Int):=om;go_wp2_with fail;go_ret2;exact ⟨by rw[HZ.out];rfl,ba⟩
 have h5': ¬4<(fs.length:Int):=om;go_wp2_with fail;have hlen2:1<=fs.length/\fs.length<=4:=om;clear hpos hlen h5' h5 hq1 hq2;have h4:fs.length=1∨fs.length=2∨fs.length=3∨fs.length=4:=om
 rcases h4 with hM|hM|hM|hM
 .have HF:Hid (loA s=loF 0 4294967296 (fs.map toL)):=by
   show _=_;rw[HNM.out,NZ om]
  have HM:Hid (fs.length=1):=hM;rw[hM]at OV⊢;simp only[show ((1:Nat):Int)=(1:Int) from rfl,show decide ((4:Int)<(1:Int))=false from by decide,show decide ((1:Int)<(1:Int))=false from by decide,zf,zg,show ((0:Nat):Int)=(0:Int) from rfl];clear hM hlen2
  go_loop[5,6] (fun x i=> ∃k n:Nat,k<=1/\i=I J k/\x=I J n/\n<256^k/\loF n (4294967296/256^k) ((fs.drop k).map toL)=loF 0 4294967296 (fs.map toL)) (fun _ i=>1-(intOf i).toNat)
  case atStart=>exact ⟨0,0,zi _,rfl,rfl,de,rfl⟩
  obtain ⟨k,n,hk,rfl,rfl,hn,hf⟩:=hrel;have HR:Hid (loF n (4294967296/256^k) ((fs.drop k).map toL)=loF 0 4294967296 (fs.map toL)):=hf;have HN:Hid (n<256^k):=hn;clear hf;have HN2:Hid (k<1->(n:Int)<16777216):=fun h=>by have h2:=BU (k:=k) om;omega
  clear hn
  by_cases hlt:k<1
  .obtain ⟨a,ha⟩: ∃a:Int,(n:Int)=a:=⟨_,rfl⟩
   have hn3:a<16777216:=by rw[<-ha];exact HN2.out hlt
   have hn0:0<=a:=om;have HAN:Hid ((n:Int)=a):=ha;rw[ha];clear ha;have hc:=bY OV k om;have hsy:=HSZ.out _ (nA (k:=k) (by have:=HM.out;omega));have CT:Hid (∀W,CS 169 #[Y (fs.getD k za)] W (I J (eM (bZ (toL (fs.getD k za)))))):=fun W=>sO _ W hsy
   have hki:(k:Int)<1:=om
   by_cases hl:k+1=1
   .have HS:Hid (_=_):=vN fs k n (4294967296/256^k) (by have:=HM.out;omega)
    obtain rfl:k=1-1:=om
    rw[show 4294967296/256^(1-1)=4294967296 from by decide]at HS HR;generalize fs.getD (1-1) za=y at hc CT HS hsy;clear hl hsy
    cases hv:bZ (toL y)with
    |none=>
     rw[hv]at CT HS;have HZ:Hid (loA s=none):=by
      show _=_;rw[HF.out,<-HR.out,HS.out]
     clear hv;have hng:(-1:Int)<0:=de;go_wp2_with fail;refine (CT.out _).mono ?_;rintro e w' ⟨rfl,rfl⟩;simp only[eM];go_wp2_with fail;go_ret2;exact ⟨by rw[HZ.out];rfl,ba⟩
    |some v=>
     rw[hv]at CT HS;clear hv
     by_cases hvr:v<4294967296
     .have HZ:Hid (loA s=some (n*4294967296+v)):=by
       show _=_;rw[HF.out,<-HR.out,HS.out];exact if_pos hvr
      have hv1:(v:Int)<4294967296:=om;have hv0: ¬(v:Int)<0:=om;obtain ⟨x,hx⟩: ∃x:Int,(v:Int)=x:=⟨_,rfl⟩;rw[hx]at hv1 hv0;have e2:bits .or .i64 (a*4294967296) x=a*4294967296+x:=hG 32 _ _ om om om om om om;have HX:Hid ((v:Int)=x):=hx;clear hx;have HV:Hid (v<4294967296):=hvr;clear hvr;go_wp2_with fail;refine (CT.out _).mono ?_;rintro e w' ⟨rfl,rfl⟩;simp only[eM];rw[HX.out];go_wp2_with fail;go_ret2;exact ⟨by rw[HZ.out];have h1:=HAN.out;have h2:=HX.out;simp[eN];omega,ba⟩
     have HZ:Hid (loA s=none):=by
      show _=_;rw[HF.out,<-HR.out,HS.out];exact if_neg hvr
     have hv1: ¬(v:Int)<4294967296:=om;have hv0: ¬(v:Int)<0:=om;have HV:Hid (¬v<4294967296):=hvr;clear hvr;go_wp2_with fail;refine (CT.out _).mono ?_;rintro e w' ⟨rfl,rfl⟩;simp only[eM];go_wp2_with fail;go_ret2;exact ⟨by rw[HZ.out];rfl,ba⟩
   exfalso;omega
  have HZ:Hid (loA s=none):=by
   show _=_;rw[HF.out,<-HR.out];exact KY fs k _ _ (by have:=HM.out;omega)
  have hki: ¬(k:Int)<1:=om;go_wp2_with fail;go_ret2;exact ⟨by rw[HZ.out];rfl,ba⟩
 .have HF:Hid (loA s=loF 0 4294967296 (fs.map toL)):=by
   show _=_;rw[HNM.out,NZ om]
  have HM:Hid (fs.length=2):=hM;rw[hM]at OV⊢;simp only[show ((2:Nat):Int)=(2:Int) from rfl,show decide ((4:Int)<(2:Int))=false from by decide,show decide ((1:Int)<(2:Int))=true from by decide,zf,zg,show ((1:Nat):Int)=(1:Int) from rfl];clear hM hlen2
  go_loop[5,6] (fun x i=> ∃k n:Nat,k<=2/\i=I J k/\x=I J n/\n<256^k/\loF n (4294967296/256^k) ((fs.drop k).map toL)=loF 0 4294967296 (fs.map toL)) (fun _ i=>2-(intOf i).toNat)
  case atStart=>exact ⟨0,0,zi _,rfl,rfl,de,rfl⟩
  obtain ⟨k,n,hk,rfl,rfl,hn,hf⟩:=hrel;have HR:Hid (loF n (4294967296/256^k) ((fs.drop k).map toL)=loF 0 4294967296 (fs.map toL)):=hf;have HN:Hid (n<256^k):=hn;clear hf;have HN2:Hid (k<2->(n:Int)<16777216):=fun h=>by have h2:=BU (k:=k) om;omega
  clear hn
  by_cases hlt:k<2
  .obtain ⟨a,ha⟩: ∃a:Int,(n:Int)=a:=⟨_,rfl⟩
   have hn3:a<16777216:=by rw[<-ha];exact HN2.out hlt
   have hn0:0<=a:=om;have HAN:Hid ((n:Int)=a):=ha;rw[ha];clear ha;have hc:=bY OV k om;have hsy:=HSZ.out _ (nA (k:=k) (by have:=HM.out;omega));have CT:Hid (∀W,CS 169 #[Y (fs.getD k za)] W (I J (eM (bZ (toL (fs.getD k za)))))):=fun W=>sO _ W hsy
   have hki:(k:Int)<2:=om
   by_cases hl:k+1=2
   .have HS:Hid (_=_):=vN fs k n (4294967296/256^k) (by have:=HM.out;omega)
    obtain rfl:k=2-1:=om
    rw[show 4294967296/256^(2-1)=16777216 from by decide]at HS HR;generalize fs.getD (2-1) za=y at hc CT HS hsy;clear hl hsy
    cases hv:bZ (toL y)with
    |none=>
     rw[hv]at CT HS;have HZ:Hid (loA s=none):=by
      show _=_;rw[HF.out,<-HR.out,HS.out]
     clear hv;have hng:(-1:Int)<0:=de;go_wp2_with fail;refine (CT.out _).mono ?_;rintro e w' ⟨rfl,rfl⟩;simp only[eM];go_wp2_with fail;go_ret2;exact ⟨by rw[HZ.out];rfl,ba⟩
    |some v=>
     rw[hv]at CT HS;clear hv
     by_cases hvr:v<16777216
     .have HZ:Hid (loA s=some (n*16777216+v)):=by
       show _=_;rw[HF.out,<-HR.out,HS.out];exact if_pos hvr
      have hv1:(v:Int)<16777216:=om;have hv0: ¬(v:Int)<0:=om;obtain ⟨x,hx⟩: ∃x:Int,(v:Int)=x:=⟨_,rfl⟩;rw[hx]at hv1 hv0;have e2:bits .or .i64 (a*16777216) x=a*16777216+x:=hG 24 _ _ om om om om om om;have HX:Hid ((v:Int)=x):=hx;clear hx;have HV:Hid (v<16777216):=hvr;clear hvr;go_wp2_with fail;refine (CT.out _).mono ?_;rintro e w' ⟨rfl,rfl⟩;simp only[eM];rw[HX.out];go_wp2_with fail;go_ret2;exact ⟨by rw[HZ.out];have h1:=HAN.out;have h2:=HX.out;simp[eN];omega,ba⟩
     have HZ:Hid (loA s=none):=by
      show _=_;rw[HF.out,<-HR.out,HS.out];exact if_neg hvr
     have hv1: ¬(v:Int)<16777216:=om;have hv0: ¬(v:Int)<0:=om;have HV:Hid (¬v<16777216):=hvr;clear hvr;go_wp2_with fail;refine (CT.out _).mono ?_;rintro e w' ⟨rfl,rfl⟩;simp only[eM];go_wp2_with fail;go_ret2;exact ⟨by rw[HZ.out];rfl,ba⟩
   have HS:Hid (_=_):=AN fs k n (4294967296/256^k) (by have:=HM.out;omega);have HL:Hid (k+1<2):=by show _<_;omega
   have hkq:((k:Int)==1)=false:=by simp;omega
   generalize fs.getD k za=y at hc CT HS hsy;clear hl hsy
   cases hv:bZ (toL y)with
   |none=>
    rw[hv]at CT HS;have HZ:Hid (loA s=none):=by
     show _=_;rw[HF.out,<-HR.out,HS.out]
    clear hv;go_wp2_with fail;refine (CT.out _).mono ?_;rintro e w' ⟨rfl,rfl⟩;simp only[eM];go_wp2_with fail;go_ret2;exact ⟨by rw[HZ.out];rfl,ba⟩
   |some v=>
    rw[hv]at CT HS;clear hv
    by_cases hvr:v<256
    .have HG:Hid (loF (n*256+v) (4294967296/256^k/256) ((fs.drop (k+1)).map toL)=loF 0 4294967296 (fs.map toL)):=by
      show _=_;rw[<-HR.out,HS.out];exact (if_pos hvr).symm
     have hv1: ¬255<(v:Int):=om;have hv0: ¬(v:Int)<0:=om;obtain ⟨x,hx⟩: ∃x:Int,(v:Int)=x:=⟨_,rfl⟩;rw[hx]at hv1 hv0;have e2:bits .or .i64 (a*256) x=a*256+x:=hG 8 _ _ om om om om om om;have HX:Hid ((v:Int)=x):=hx;clear hx;have HV:Hid (v<256):=hvr;clear hvr;go_wp2_with fail;refine (CT.out _).mono ?_;rintro e w' ⟨rfl,rfl⟩;simp only[eM];rw[HX.out];go_wp2_with fail;go_round
     case rel=>
      refine ⟨k+1,n*256+v,by have:=HL.out;omega,gn,by have h1:=HAN.out;have h2:=HX.out;go_num,?_,?_⟩
      .have h1:=HN.out
       have h2:=HV.out;rw[zd];omega
      rw[zd,<-ze];exact HG.out
     case measure=>simp[intOf];have:=HL.out;omega
    have HZ:Hid (loA s=none):=by
     show _=_;rw[HF.out,<-HR.out,HS.out];exact if_neg hvr
    have hv1:255<(v:Int):=om;have hv0: ¬(v:Int)<0:=om;have HV:Hid (¬v<256):=hvr;clear hvr;go_wp2_with fail;refine (CT.out _).mono ?_;rintro e w' ⟨rfl,rfl⟩;simp only[eM];go_wp2_with fail;go_ret2;exact ⟨by rw[HZ.out];rfl,ba⟩
  have HZ:Hid (loA s=none):=by
   show _=_;rw[HF.out,<-HR.out];exact KY fs k _ _ (by have:=HM.out;omega)
  have hki: ¬(k:Int)<2:=om;go_wp2_with fail;go_ret2;exact ⟨by rw[HZ.out];rfl,ba⟩
 .have HF:Hid (loA s=loF 0 4294967296 (fs.map toL)):=by
   show _=_;rw[HNM.out,NZ om]
  have HM:Hid (fs.length=3):=hM;rw[hM]at OV⊢;simp only[show ((3:Nat):Int)=(3:Int) from rfl,show decide ((4:Int)<(3:Int))=false from by decide,show decide ((1:Int)<(3:Int))=true from by decide,zf,zg,show ((2:Nat):Int)=(2:Int) from rfl];clear hM hlen2
  go_loop[5,6] (fun x i=> ∃k n:Nat,k<=3/\i=I J k/\x=I J n/\n<256^k/\loF n (4294967296/256^k) ((fs.drop k).map toL)=loF 0 4294967296 (fs.map toL)) (fun _ i=>3-(intOf i).toNat)
  case atStart=>exact ⟨0,0,zi _,rfl,rfl,de,rfl⟩
  obtain ⟨k,n,hk,rfl,rfl,hn,hf⟩:=hrel;have HR:Hid (loF n (4294967296/256^k) ((fs.drop k).map toL)=loF 0 4294967296 (fs.map toL)):=hf;have HN:Hid (n<256^k):=hn;clear hf;have HN2:Hid (k<3->(n:Int)<16777216):=fun h=>by have h2:=BU (k:=k) om;omega
  clear hn
  by_cases hlt:k<3
  .obtain ⟨a,ha⟩: ∃a:Int,(n:Int)=a:=⟨_,rfl⟩
   have hn3:a<16777216:=by rw[<-ha];exact HN2.out hlt
   have hn0:0<=a:=om;have HAN:Hid ((n:Int)=a):=ha;rw[ha];clear ha;have hc:=bY OV k om;have hsy:=HSZ.out _ (nA (k:=k) (by have:=HM.out;omega));have CT:Hid (∀W,CS 169 #[Y (fs.getD k za)] W (I J (eM (bZ (toL (fs.getD k za)))))):=fun W=>sO _ W hsy
   have hki:(k:Int)<3:=om
   by_cases hl:k+1=3
   .have HS:Hid (_=_):=vN fs k n (4294967296/256^k) (by have:=HM.out;omega)
    obtain rfl:k=3-1:=om
    rw[show 4294967296/256^(3-1)=65536 from by decide]at HS HR;generalize fs.getD (3-1) za=y at hc CT HS hsy;clear hl hsy
    cases hv:bZ (toL y)with
    |none=>
     rw[hv]at CT HS;have HZ:Hid (loA s=none):=by
      show _=_;rw[HF.out,<-HR.out,HS.out]
     clear hv;have hng:(-1:Int)<0:=de;go_wp2_with fail;refine (CT.out _).mono ?_;rintro e w' ⟨rfl,rfl⟩;simp only[eM];go_wp2_with fail;go_ret2;exact ⟨by rw[HZ.out];rfl,ba⟩
    |some v=>
     rw[hv]at CT HS;clear hv
     by_cases hvr:v<65536
     .have HZ:Hid (loA s=some (n*65536+v)):=by
       show _=_;rw[HF.out,<-HR.out,HS.out];exact if_pos hvr
      have hv1:(v:Int)<65536:=om;have hv0: ¬(v:Int)<0:=om;obtain ⟨x,hx⟩: ∃x:Int,(v:Int)=x:=⟨_,rfl⟩;rw[hx]at hv1 hv0;have e2:bits .or .i64 (a*65536) x=a*65536+x:=hG 16 _ _ om om om om om om;have HX:Hid ((v:Int)=x):=hx;clear hx;have HV:Hid (v<65536):=hvr;clear hvr;go_wp2_with fail;refine (CT.out _).mono ?_;rintro e w' ⟨rfl,rfl⟩;simp only[eM];rw[HX.out];go_wp2_with fail;go_ret2;exact ⟨by rw[HZ.out];have h1:=HAN.out;have h2:=HX.out;simp[eN];omega,ba⟩
     have HZ:Hid (loA s=none):=by
      show _=_;rw[HF.out,<-HR.out,HS.out];exact if_neg hvr
     have hv1: ¬(v:Int)<65536:=om;have hv0: ¬(v:Int)<0:=om;have HV:Hid (¬v<65536):=hvr;clear hvr;go_wp2_with fail;refine (CT.out _).mono ?_;rintro e w' ⟨rfl,rfl⟩;simp only[eM];go_wp2_with fail;go_ret2;exact ⟨by rw[HZ.out];rfl,ba⟩
   have HS:Hid (_=_):=AN fs k n (4294967296/256^k) (by have:=HM.out;omega);have HL:Hid (k+1<3):=by show _<_;omega
   have hkq:((k:Int)==2)=false:=by simp;omega
   generalize fs.getD k za=y at hc CT HS hsy;clear hl hsy
   cases hv:bZ (toL y)with
   |none=>
    rw[hv]at CT HS;have HZ:Hid (loA s=none):=by
     show _=_;rw[HF.out,<-HR.out,HS.out]
    clear hv;go_wp2_with fail;refine (CT.out _).mono ?_;rintro e w' ⟨rfl,rfl⟩;simp only[eM];go_wp2_with fail;go_ret2;exact ⟨by rw[HZ.out];rfl,ba⟩
   |some v=>
    rw[hv]at CT HS;clear hv
    by_cases hvr:v<256
    .have HG:Hid (loF (n*256+v) (4294967296/256^k/256) ((fs.drop (k+1)).map toL)=loF 0 4294967296 (fs.map toL)):=by
      show _=_;rw[<-HR.out,HS.out];exact (if_pos hvr).symm
     have hv1: ¬255<(v:Int):=om;have hv0: ¬(v:Int)<0:=om;obtain ⟨x,hx⟩: ∃x:Int,(v:Int)=x:=⟨_,rfl⟩;rw[hx]at hv1 hv0;have e2:bits .or .i64 (a*256) x=a*256+x:=hG 8 _ _ om om om om om om;have HX:Hid ((v:Int)=x):=hx;clear hx;have HV:Hid (v<256):=hvr;clear hvr;go_wp2_with fail;refine (CT.out _).mono ?_;rintro e w' ⟨rfl,rfl⟩;simp only[eM];rw[HX.out];go_wp2_with fail;go_round
     case rel=>
      refine ⟨k+1,n*256+v,by have:=HL.out;omega,gn,by have h1:=HAN.out;have h2:=HX.out;go_num,?_,?_⟩
      .have h1:=HN.out
       have h2:=HV.out;rw[zd];omega
      rw[zd,<-ze];exact HG.out
     case measure=>simp[intOf];have:=HL.out;omega
    have HZ:Hid (loA s=none):=by
     show _=_;rw[HF.out,<-HR.out,HS.out];exact if_neg hvr
    have hv1:255<(v:Int):=om;have hv0: ¬(v:Int)<0:=om;have HV:Hid (¬v<256):=hvr;clear hvr;go_wp2_with fail;refine (CT.out _).mono ?_;rintro e w' ⟨rfl,rfl⟩;simp only[eM];go_wp2_with fail;go_ret2;exact ⟨by rw[HZ.out];rfl,ba⟩
  have HZ:Hid (loA s=none):=by
   show _=_;rw[HF.out,<-HR.out];exact KY fs k _ _ (by have:=HM.out;omega)
  have hki: ¬(k:Int)<3:=om;go_wp2_with fail;go_ret2;exact ⟨by rw[HZ.out];rfl,ba⟩
 have HF:Hid (loA s=loF 0 4294967296 (fs.map toL)):=by
  show _=_;rw[HNM.out,NZ om]
 have HM:Hid (fs.length=4):=hM;rw[hM]at OV⊢;simp only[show ((4:Nat):Int)=(4:Int) from rfl,show decide ((4:Int)<(4:Int))=false from by decide,show decide ((1:Int)<(4:Int))=true from by decide,zf,zg,show ((3:Nat):Int)=(3:Int) from rfl];clear hM hlen2
 go_loop[5,6] (fun x i=> ∃k n:Nat,k<=4/\i=I J k/\x=I J n/\n<256^k/\loF n (4294967296/256^k) ((fs.drop k).map toL)=loF 0 4294967296 (fs.map toL)) (fun _ i=>4-(intOf i).toNat)
 case atStart=>exact ⟨0,0,zi _,rfl,rfl,de,rfl⟩
 obtain ⟨k,n,hk,rfl,rfl,hn,hf⟩:=hrel;have HR:Hid (loF n (4294967296/256^k) ((fs.drop k).map toL)=loF 0 4294967296 (fs.map toL)):=hf;have HN:Hid (n<256^k):=hn;clear hf;have HN2:Hid (k<4->(n:Int)<16777216):=fun h=>by have h2:=BU (k:=k) om;omega
 clear hn
 by_cases hlt:k<4
 .obtain ⟨a,ha⟩: ∃a:Int,(n:Int)=a:=⟨_,rfl⟩
  have hn3:a<16777216:=by rw[<-ha];exact HN2.out hlt
  have hn0:0<=a:=om;have HAN:Hid ((n:Int)=a):=ha;rw[ha];clear ha;have hc:=bY OV k om;have hsy:=HSZ.out _ (nA (k:=k) (by have:=HM.out;omega));have CT:Hid (∀W,CS 169 #[Y (fs.getD k za)] W (I J (eM (bZ (toL (fs.getD k za)))))):=fun W=>sO _ W hsy
  have hki:(k:Int)<4:=om
  by_cases hl:k+1=4
  .have HS:Hid (_=_):=vN fs k n (4294967296/256^k) (by have:=HM.out;omega)
   obtain rfl:k=4-1:=om
   rw[show 4294967296/256^(4-1)=256 from by decide]at HS HR;generalize fs.getD (4-1) za=y at hc CT HS hsy;clear hl hsy
   cases hv:bZ (toL y)with
   |none=>
    rw[hv]at CT HS;have HZ:Hid (loA s=none):=by
     show _=_;rw[HF.out,<-HR.out,HS.out]
    clear hv;have hng:(-1:Int)<0:=de;go_wp2_with fail;refine (CT.out _).mono ?_;rintro e w' ⟨rfl,rfl⟩;simp only[eM];go_wp2_with fail;go_ret2;exact ⟨by rw[HZ.out];rfl,ba⟩
   |some v=>
    rw[hv]at CT HS;clear hv
    by_cases hvr:v<256
    .have HZ:Hid (loA s=some (n*256+v)):=by
      show _=_;rw[HF.out,<-HR.out,HS.out];exact if_pos hvr
     have hv1:(v:Int)<256:=om;have hv0: ¬(v:Int)<0:=om;obtain ⟨x,hx⟩: ∃x:Int,(v:Int)=x:=⟨_,rfl⟩;rw[hx]at hv1 hv0;have e2:bits .or .i64 (a*256) x=a*256+x:=hG 8 _ _ om om om om om om;have HX:Hid ((v:Int)=x):=hx;clear hx;have HV:Hid (v<256):=hvr;clear hvr;go_wp2_with fail;refine (CT.out _).mono ?_;rintro e w' ⟨rfl,rfl⟩;simp only[eM];rw[HX.out];go_wp2_with fail;go_ret2;exact ⟨by rw[HZ.out];have h1:=HAN.out;have h2:=HX.out;simp[eN];omega,ba⟩
    have HZ:Hid (loA s=none):=by
     show _=_;rw[HF.out,<-HR.out,HS.out];exact if_neg hvr
    have hv1: ¬(v:Int)<256:=om;have hv0: ¬(v:Int)<0:=om;have HV:Hid (¬v<256):=hvr;clear hvr;go_wp2_with fail;refine (CT.out _).mono ?_;rintro e w' ⟨rfl,rfl⟩;simp only[eM];go_wp2_with fail;go_ret2;exact ⟨by rw[HZ.out];rfl,ba⟩
  have HS:Hid (_=_):=AN fs k n (4294967296/256^k) (by have:=HM.out;omega);have HL:Hid (k+1<4):=by show _<_;omega
  have hkq:((k:Int)==3)=false:=by simp;omega
  generalize fs.getD k za=y at hc CT HS hsy;clear hl hsy
  cases hv:bZ (toL y)with
  |none=>
   rw[hv]at CT HS;have HZ:Hid (loA s=none):=by
    show _=_;rw[HF.out,<-HR.out,HS.out]
   clear hv;go_wp2_with fail;refine (CT.out _).mono ?_;rintro e w' ⟨rfl,rfl⟩;simp only[eM];go_wp2_with fail;go_ret2;exact ⟨by rw[HZ.out];rfl,ba⟩
  |some v=>
   rw[hv]at CT HS;clear hv
   by_cases hvr:v<256
   .have HG:Hid (loF (n*256+v) (4294967296/256^k/256) ((fs.drop (k+1)).map toL)=loF 0 4294967296 (fs.map toL)):=by
     show _=_;rw[<-HR.out,HS.out];exact (if_pos hvr).symm
    have hv1: ¬255<(v:Int):=om;have hv0: ¬(v:Int)<0:=om;obtain ⟨x,hx⟩: ∃x:Int,(v:Int)=x:=⟨_,rfl⟩;rw[hx]at hv1 hv0;have e2:bits .or .i64 (a*256) x=a*256+x:=hG 8 _ _ om om om om om om;have HX:Hid ((v:Int)=x):=hx;clear hx;have HV:Hid (v<256):=hvr;clear hvr;go_wp2_with fail;refine (CT.out _).mono ?_;rintro e w' ⟨rfl,rfl⟩;simp only[eM];rw[HX.out];go_wp2_with fail;go_round
    case rel=>
     refine ⟨k+1,n*256+v,by have:=HL.out;omega,gn,by have h1:=HAN.out;have h2:=HX.out;go_num,?_,?_⟩
     .have h1:=HN.out
      have h2:=HV.out;rw[zd];omega
     rw[zd,<-ze];exact HG.out
    case measure=>simp[intOf];have:=HL.out;omega
   have HZ:Hid (loA s=none):=by
    show _=_;rw[HF.out,<-HR.out,HS.out];exact if_neg hvr
   have hv1:255<(v:Int):=om;have hv0: ¬(v:Int)<0:=om;have HV:Hid (¬v<256):=hvr;clear hvr;go_wp2_with fail;refine (CT.out _).mono ?_;rintro e w' ⟨rfl,rfl⟩;simp only[eM];go_wp2_with fail;go_ret2;exact ⟨by rw[HZ.out];rfl,ba⟩
 have HZ:Hid (loA s=none):=by
  show _=_;rw[HF.out,<-HR.out];exact KY fs k _ _ (by have:=HM.out;omega)
 have hki: ¬(k:Int)<4:=om;go_wp2_with fail;go_ret2;exact ⟨by rw[HZ.out];rfl,ba⟩
end
section
open Go.RowKit
theorem GY(a b:List UInt8):((⟨a.toArray⟩:ByteArray)++(⟨b.toArray⟩:ByteArray))=⟨(a++b).toArray⟩:=by
 apply ByteArray.ext;rw[ByteArray.data_append];simp
def gP(n:Int):ByteArray:=⟨(hF n.toNat).toArray⟩
def Pow(w:World):Prop:=Lib.TabIs prog w "internal/strconv.uint64pow10" .u64 Lib.pow10Tab
theorem cN{w w':World}(h:Pow w)(hb:Below w.heap.size w w'):Pow w':=Lib.tabBelow_of_tabIs h w' hb
theorem ZN{i:Int}(h0:0<=i)(h1:i<1000):Lib.itoa i=bP i.toNat:=by
 obtain ⟨u,rfl⟩:=Int.eq_ofNat_of_zero_le h0;rw[Lib.itoa_nonneg,Int.toNat_natCast];have hu:u<1000:=om;unfold bP
 by_cases c1:u<10
 .rw[if_pos c1,Lib.decDigits_one c1]
 by_cases c2:u<100
 .rw[if_neg c1,if_pos c2,Lib.decDigits_two c1 c2]
 rw[if_neg c1,if_neg c2,Lib.decDigits,dif_neg c1,Lib.decDigits_two om om];rw[show u/10/10=u/100 by omega];rfl
theorem qD(B:Nat)(i:Int)(v:Value)(l:List UInt8)(w:World)(h0:0<=i)(h1:i<1000)(hown:w.ownsRow B 5 1 v l.length (aD l))(hB:B<=w.heap.size)(hl:l.length<=1000)
  (hT:Lib.TabBelow prog B w "internal/strconv.uint64pow10" .u64 Lib.pow10Tab):Calls prog 192 #[v,I J i,I J 10] w fun e w'=> ∃v',e=Z v'/\w'.ownsRow B 5 1 v' (l++bP i.toNat).length (aD (l++bP i.toNat))/\Below B w w':=by
 refine (strconv_AppendInt_10 B l.length i om om v (aD l) w hown hB om hT).mono ?_;rintro e w' ⟨v',rfl,h2,h3,_⟩;refine ⟨v',rfl,?_,h3⟩;rw[ZN h0 h1]at h2;rw[fC,zc];exact h2
def eJ(n:Int):Nat->List UInt8
 |0=>[]
 |1=>bP (n/16777216).toNat++[46]
 |2=>bP (n/16777216).toNat++[46]++bP (n/65536%256).toNat++[46]
 |_=>bP (n/16777216).toNat++[46]++bP (n/65536%256).toNat++[46]++bP (n/256%256).toNat++[46]
theorem nB(n:Int)(k:Nat):(eJ n k).length<=100:=by
 have h1:=eZ (n/16777216).toNat;have h2:=eZ (n/65536%256).toNat;have h3:=eZ (n/256%256).toNat
 match k with
 |0=>simp[eJ]
 |1=>simp[eJ];omega
 |2=>simp[eJ];omega
 |_+3=>simp[eJ];omega
theorem L6{n:Int}(h0:0<=n):(⟨(eJ n 3++bP (n%256).toNat).toArray⟩:ByteArray)=gP n:=by
 unfold gP hF eJ;have e1:(n/16777216).toNat=n.toNat/16777216:=om;have e2:(n/65536%256).toNat=n.toNat/65536%256:=om;have e3:(n/256%256).toNat=n.toNat/256%256:=om;have e4:(n%256).toNat=n.toNat%256:=om;rw[e1,e2,e3,e4];simp
def GZ:Nat->Int
 |0=>16777216
 |1=>65536
 |2=>256
 |3=>1
 |_=>0
theorem rN(n:Int)(w:World)(h0:0<=n)(h1:n<4294967296)(hT:Pow w):Calls prog 142 #[I J n] w fun e w'=>e=Z (Y (gP n))/\Below w.heap.size w w':=by
 obtain ⟨i0,hi,hz0,hz1,hz2⟩:=info_parts info5;have HT:Hid (Lib.TabBelow prog w.heap.size w "internal/strconv.uint64pow10" .u64 Lib.pow10Tab):=Lib.tabBelow_of_tabIs hT;clear hT;go_enter func142,ntmps142;go_wp2_with (at_make;refine wpList_make_own _ rfl _ _ 22 rfl w.heap.size 5 i0 (.int .u8 0) 1 underlying22 hi hz0 hz1 _ _ _ 15 rfl rfl om (by rw[hz2];omega) (by unfold maxLen;omega) (Nat.le_refl _) ?_);intro wm hmo hgm;have Bm:Below w.heap.size w wm:=(zj _ _).grown hgm (Nat.le_refl _) (fun k hk=>by cases hk);have o9:wm.ownsRow w.heap.size 5 1 (.slice (some ⟨w.heap.size,0,none⟩) 0 15) 0 []:=hmo;clear hmo hgm;go_wp2_with fail
 go_loopw[3,4] (fun v r wr=> ∃k:Nat,k<=4/\r=I J (GZ k)/\(k<=3->wr.ownsRow w.heap.size 5 1 v (eJ n k).length (aD (eJ n k)))/\(k=4->wr.ownsRow w.heap.size 5 1 v (eJ n 3++bP (n%256).toNat).length (aD (eJ n 3++bP (n%256).toNat)))/\Below w.heap.size w wr)
  (fun _ r _=>(intOf r).toNat)
 case atStart=>exact ⟨0,om,rfl,fun _=>o9,fun h=>by omega,Bm⟩
 obtain ⟨k,hk,rfl,hin,hend,hbel⟩:=hrel;clear o9 Bm hi hz0 hz1 hz2;have hsz:=hbel.size;have h5:k=0∨k=1∨k=2∨k=3∨k=4:=om;have HTW:Hid (Lib.TabBelow prog w.heap.size wr "internal/strconv.uint64pow10" .u64 Lib.pow10Tab):=HT.out.on hbel
 rcases h5 with rfl|rfl|rfl|rfl|rfl
 .have e0:n/16777216%256=n/16777216:=om
  have HI:Hid (∀(v:Value) (W:World),W.ownsRow w.heap.size 5 1 v (eJ n 0).length (aD (eJ n 0))->w.heap.size<=W.heap.size->Lib.TabBelow prog w.heap.size W "internal/strconv.uint64pow10" .u64 Lib.pow10Tab->Calls prog 192 #[v,I J (n/16777216),I J 10] W fun e w'=> ∃v',e=Z v'/\w'.ownsRow w.heap.size 5 1 v' (eJ n 0++bP (n/16777216).toNat).length (aD (eJ n 0++bP (n/16777216).toNat))/\Below w.heap.size W w'):=fun v W ho hB hT=>qD w.heap.size _ v _ W om om ho hB (by have:=nB n 0;omega) hT
  have o1:=hin om;have hl:=nB n 0;have hl2:=eZ (n/16777216).toNat;clear hin hend;simp only[GZ];go_wp2_with fail;refine (HI.out _ _ o1 hsz HTW.out).mono ?_;rintro e wb ⟨vb,rfl,o2,b2⟩;have B2:=hbel.trans b2;have z2:=B2.size;have hl3:(eJ n 0++bP (n/16777216).toNat).length<=200:=by rw[zc];omega
  clear o1 hbel b2 HTW HI;obtain ⟨L,hL⟩: ∃L,eJ n 0++bP (n/16777216).toNat=L:=⟨_,rfl⟩;rw[hL]at o2 hl3;have HL:Hid (eJ n 0++bP (n/16777216).toNat=L):=hL;clear hL;go_wp2_with (at_builtin;refine aB _ rfl _ _ 22 rfl w.heap.size 5 (.int .u8 0) 1 underlying22 info5 rfl _ _ _ rfl o2 #[.int .u8 46] 1 rfl rfl (by intro u hu;simp at hu;subst hu;rfl) om (by unfold maxLen;omega) z2 ?_);intro v' w1 o3 b3;have R:w1.ownsRow w.heap.size 5 1 v' (eJ n 1).length (aD (eJ n 1)):=by
   rw[show eJ n 1=L++[46] by rw[<-HL.out];simp[eJ],kR,zc];exact o3
  have B3:=B2.trans b3;clear o2 o3 b3 B2;go_wp2_with fail;go_roundw
  case rel=>exact ⟨1,om,rfl,fun _=>R,fun h=>by omega,B3⟩
  case measure=>simp[intOf]
 .have HI:Hid (∀(v:Value) (W:World),W.ownsRow w.heap.size 5 1 v (eJ n 1).length (aD (eJ n 1))->w.heap.size<=W.heap.size->Lib.TabBelow prog w.heap.size W "internal/strconv.uint64pow10" .u64 Lib.pow10Tab->Calls prog 192 #[v,I J (n/65536%256),I J 10] W fun e w'=> ∃v',e=Z v'/\w'.ownsRow w.heap.size 5 1 v' (eJ n 1++bP (n/65536%256).toNat).length (aD (eJ n 1++bP (n/65536%256).toNat))/\Below w.heap.size W w'):=fun v W ho hB hT=>qD w.heap.size _ v _ W om om ho hB (by have:=nB n 1;omega) hT
  have o1:=hin om;have hl:=nB n 1;have hl2:=eZ (n/65536%256).toNat;clear hin hend;simp only[GZ];go_wp2_with fail;refine (HI.out _ _ o1 hsz HTW.out).mono ?_;rintro e wb ⟨vb,rfl,o2,b2⟩;have B2:=hbel.trans b2;have z2:=B2.size;have hl3:(eJ n 1++bP (n/65536%256).toNat).length<=200:=by rw[zc];omega
  clear o1 hbel b2 HTW HI;obtain ⟨L,hL⟩: ∃L,eJ n 1++bP (n/65536%256).toNat=L:=⟨_,rfl⟩;rw[hL]at o2 hl3;have HL:Hid (eJ n 1++bP (n/65536%256).toNat=L):=hL;clear hL;go_wp2_with (at_builtin;refine aB _ rfl _ _ 22 rfl w.heap.size 5 (.int .u8 0) 1 underlying22 info5 rfl _ _ _ rfl o2 #[.int .u8 46] 1 rfl rfl (by intro u hu;simp at hu;subst hu;rfl) om (by unfold maxLen;omega) z2 ?_);intro v' w1 o3 b3;have R:w1.ownsRow w.heap.size 5 1 v' (eJ n 2).length (aD (eJ n 2)):=by
   rw[show eJ n 2=L++[46] by rw[<-HL.out];simp[eJ],kR,zc];exact o3
  have B3:=B2.trans b3;clear o2 o3 b3 B2;go_wp2_with fail;go_roundw
  case rel=>exact ⟨2,om,rfl,fun _=>R,fun h=>by omega,B3⟩
  case measure=>simp[intOf]
 .have HI:Hid (∀(v:Value) (W:World),W.ownsRow w.heap.size 5 1 v (eJ n 2).length (aD (eJ n 2))->w.heap.size<=W.heap.size->Lib.TabBelow prog w.heap.size W "internal/strconv.uint64pow10" .u64 Lib.pow10Tab->Calls prog 192 #[v,I J (n/256%256),I J 10] W fun e w'=> ∃v',e=Z v'/\w'.ownsRow w.heap.size 5 1 v' (eJ n 2++bP (n/256%256).toNat).length (aD (eJ n 2++bP (n/256%256).toNat))/\Below w.heap.size W w'):=fun v W ho hB hT=>qD w.heap.size _ v _ W om om ho hB (by have:=nB n 2;omega) hT
  have o1:=hin om;have hl:=nB n 2;have hl2:=eZ (n/256%256).toNat;clear hin hend;simp only[GZ];go_wp2_with fail;refine (HI.out _ _ o1 hsz HTW.out).mono ?_;rintro e wb ⟨vb,rfl,o2,b2⟩;have B2:=hbel.trans b2;have z2:=B2.size;have hl3:(eJ n 2++bP (n/256%256).toNat).length<=200:=by rw[zc];omega
  clear o1 hbel b2 HTW HI;obtain ⟨L,hL⟩: ∃L,eJ n 2++bP (n/256%256).toNat=L:=⟨_,rfl⟩;rw[hL]at o2 hl3;have HL:Hid (eJ n 2++bP (n/256%256).toNat=L):=hL;clear hL;go_wp2_with (at_builtin;refine aB _ rfl _ _ 22 rfl w.heap.size 5 (.int .u8 0) 1 underlying22 info5 rfl _ _ _ rfl o2 #[.int .u8 46] 1 rfl rfl (by intro u hu;simp at hu;subst hu;rfl) om (by unfold maxLen;omega) z2 ?_);intro v' w1 o3 b3;have R:w1.ownsRow w.heap.size 5 1 v' (eJ n 3).length (aD (eJ n 3)):=by
   rw[show eJ n 3=L++[46] by rw[<-HL.out];simp[eJ],kR,zc];exact o3
  have B3:=B2.trans b3;clear o2 o3 b3 B2;go_wp2_with fail;go_roundw
  case rel=>exact ⟨3,om,rfl,fun _=>R,fun h=>by omega,B3⟩
  case measure=>simp[intOf]
 .have HI:Hid (∀(v:Value) (W:World),W.ownsRow w.heap.size 5 1 v (eJ n 3).length (aD (eJ n 3))->w.heap.size<=W.heap.size->Lib.TabBelow prog w.heap.size W "internal/strconv.uint64pow10" .u64 Lib.pow10Tab->Calls prog 192 #[v,I J (n%256),I J 10] W fun e w'=> ∃v',e=Z v'/\w'.ownsRow w.heap.size 5 1 v' (eJ n 3++bP (n%256).toNat).length (aD (eJ n 3++bP (n%256).toNat))/\Below w.heap.size W w'):=fun v W ho hB hT=>qD w.heap.size _ v _ W om om ho hB (by have:=nB n 3;omega) hT
  have o1:=hin om;clear hin hend;simp only[GZ];go_wp2_with fail;refine (HI.out _ _ o1 hsz HTW.out).mono ?_;rintro e wb ⟨vb,rfl,o2,b2⟩;have B2:=hbel.trans b2;clear o1 hbel b2 HTW HI;go_wp2_with fail;go_roundw
  case rel=>exact ⟨4,om,rfl,fun h=>by omega,fun _=>o2,B2⟩
  case measure=>simp[intOf]
 have o1:=hend rfl;clear hin hend;have hcv:=bG (P:=prog) wr 22 9 5 underlying22 underlying5 underlying9 o1;rw[L6 h0]at hcv;simp only[GZ];go_wp2_with fail;go_ret;exact ⟨rfl,hbel⟩
theorem BV(n:Int)(w:World)(h:n<0∨4294967295<n):Calls prog 142 #[I J n] w fun e w'=>e=Z (Y ⟨#[]⟩)/\Below w.heap.size w w':=by
 by_cases h0:n<0
 .clear h
  go_enter func142,ntmps142;go_wp2_with fail;go_ret;exact ⟨rfl,zj _ _⟩
 have h1:4294967296<=n:=om;clear h;go_enter func142,ntmps142;go_wp2_with fail;go_ret;exact ⟨rfl,zj _ _⟩
def qE(w:World):Prop:= ∃m,w.cell? ⟨8,0,none⟩=some (I J m)
theorem TW{w:World}(h:w.ShapedOpen prog):qE w:=laysM145.s1_3 w h
theorem iM{w w':World}(h:qE w)(hb:Below w.heap.size w w'):qE w':=by
 obtain ⟨m,hm⟩:=h;exact ⟨m,cell_later hb hm⟩
end
section
open Go.ChangeShapes Go.WideShapes Go.ChangeAt Go.RowKit Go.Lib
theorem L7:(Rows.laid_internal_strconv_uint64pow10:DataW Unit)=Lib.tabData .u64 Lib.pow10Tab:=kr
def BX(d:DataW Unit):Array Value:=match d with
 | .agg ds=>(ds.map fun x=>match x with
  | .lit (.int k n)=>Value.int k n
  |_=>Value.int .i64 0).toArray
 |_=> #[]
def LA(cs:Array Value):Obj->Obj
 | .cells _ t frozen=> .cells cs t frozen
 |o=>o
def Cn(h:Array Obj):Array Obj:=
 ((h.modify 10 (LA (BX Rows.laid_math_bits_deBruijn32tab))).modify 11 (LA (BX Rows.laid_math_bits_deBruijn64tab))).modify 7 (LA (BX Rows.laid_internal_strconv_uint64pow10))
