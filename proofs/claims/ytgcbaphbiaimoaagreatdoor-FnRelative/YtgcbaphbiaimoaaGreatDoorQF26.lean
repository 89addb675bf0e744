/- NameSpec, NameImpl. -/
import Derived.Test.YtgcbaphbiaimoaaGreatDoorQF25
set_option maxHeartbeats 4000000
namespace Go.Proofs.YtgcbaphbiaimoaaGreatDoor
open Go.Value renaming string->I,tuple->L,bool->Y
open Go.Ending renaming returned->J
open _root_.ByteArray renaming empty->zc,size_append->zd
open _root_.List renaming eq_nil_of_length_eq_zero->zg,getD_eq_getElem?_getD->ze,getElem?_eq_getElem->zf,getElem_mem->zi,length_take->zh,take_append_drop->zl,take_length->zj
open _root_.Nat renaming zero_add->zk,zero_le->zm
open _root_.Go.Proofs.Tryz
open _root_.Go.Proofs.YtgcbaphbiaimoaaGreatDoor.Tryz
open Go.RowKit
theorem xH(s:ByteArray):dT (eV s.data.toList)=match nT s with
  |some a=> L #[I a,Y true]
  |none=> L #[I ⟨#[]⟩,Y false]:=by
 unfold nT dT
 cases eV s.data.toList<;>rfl
theorem tA{fs ls:List ByteArray}{k:Nat}(hk:k<fs.length)(h:eK (fs.take k)=some ls):eK (fs.take (k+1))=match nT (fs.getD k zc)with
  |some a=>some (ls++[a])
  |none=>none:=by
 rw[uF fs k hk,rU,h];simp only[eK]
 cases nT (fs.getD k zc)<;>rfl
theorem mC{fs:List ByteArray}{k:Nat}(h:eK (fs.take k)=none):eK fs=none:=by
 rw[<-zl k fs,rU,h]
theorem uY{fs ls:List ByteArray}{k:Nat}(h:eK (fs.take k)=some ls)(h2: ¬(jn 46 ls).length<=253):jE fs=none:=by
 have e:=rU (fs.take k) (fs.drop k);rw[zl,h]at e
 cases hd:eK (fs.drop k)with
 |none=>rw[hd]at e;exact pH e
 |some ms=>
  rw[hd]at e;refine DT e fun hh=>h2 (Nat.le_trans (jn_le 46 ls ms) hh)
theorem fL{r:Option (List UInt8)}(h:r=none):dT r=L #[I ⟨#[]⟩,Y false]:=by rw[h];rfl
theorem mD{r:Option (List UInt8)}{t:List UInt8}(h:r=some t):dT r=L #[I ⟨t.toArray⟩,Y true]:=by rw[h];rfl
theorem pS(z:ByteArray):z.data.toList.length=z.size:=by simp
theorem pT(z:ByteArray):(⟨z.data.toList.toArray⟩:ByteArray)=z:=by
 apply ByteArray.ext;apply Array.toList_inj.1;rfl
theorem VT(s:ByteArray)(w:World)(hs:s.size<=1048576):Calls prog 86 #[I s] w fun e w'=>e=J (dT (cV s))/\Below w.heap.size w w':=by
 have CF:Hid (Calls prog 93 #[I s,.int .u8 46] w fun e w'=> ∃v,e=J v/\w'.ownsRow w.heap.size 9 1 v (aA s 46).length (aM (aA s 46))/\Below w.heap.size w w'):=mX s 46 w hs;have hpos:0<(aA s 46).length:=by simp[aA]
 have hlen:(aA s 46).length<=1048577:=by
  have:=(dL s 46 s.size).2
  simp[aA];omega
 have HSZ0:Hid (∀x∈aA s 46,x.size<=1048576):=gE s hs;have HNM0:Hid (cV s=jE (dP (aA s 46))):=rfl;generalize aA s 46=f0 at CF hpos hlen HSZ0 HNM0
 by_cases hd:1<f0.length/\(f0.getD (f0.length-1) zc).size=0
 .have HNM:Hid (cV s=jE (f0.take (f0.length-1))):=by
   have h:=HNM0.out;unfold dP at h;rw[if_pos hd]at h;exact h
  have HSZ:Hid (∀x∈f0.take (f0.length-1),x.size<=1048576):=fun x hx=>HSZ0.out x (List.mem_of_mem_take hx)
  have hl1:1<(f0.length:Int):=om;have hem:=aV hd.2;clear hd;go_enter func86,ntmps86;go_wp2_with fail;refine CF.out.mono ?_;rintro e wa ⟨va,rfl,oa,ba⟩
  rcases aQ oa with ⟨h,_⟩|⟨_,g,cap,rfl⟩
  .omega
  have hc:=bY oa (f0.length-1) om;have hcap:f0.length<=cap:=by
   rcases oa.2 with ⟨h,_⟩|⟨_,_,_,h,_,_,h3,_⟩
   .cases h
   cases h;exact h3
  have OV:=rL oa (f0.length-1) om;rw[kX]at OV;have hi:((f0.length:Int)-1)=((f0.length-1:Nat):Int):=om;generalize f0.getD (f0.length-1) zc=q at hc hem;clear oa;go_wp2_with fail;obtain ⟨m,hm⟩: ∃m,f0.length-1=m:=⟨_,rfl⟩;rw[hm]at OV HNM HSZ⊢;obtain ⟨fs,hfs⟩: ∃fs,f0.take m=fs:=⟨_,rfl⟩;rw[hfs]at OV HNM HSZ;have hml:m=fs.length:=by rw[<-hfs,zh];omega
  have hlen2:fs.length<=1048577:=om;clear hfs hm hc hi;subst hml
  go_loopw[5,6] (fun o i wr=> ∃(k:Nat) (ls:List ByteArray) (z:ByteArray),k<=fs.length/\i=.int .i64 k/\eK (fs.take k)=some ls/\o=I z/\z.data.toList=jn 46 ls/\z.size<=253/\wr.ownsRow w.heap.size 9 1 (.slice (some ⟨g,0,none⟩) fs.length cap) fs.length (aM fs)/\Below w.heap.size w wr)
   (fun _ i _=>fs.length-(intOf i).toNat)
  case atStart=>exact ⟨0,[],⟨#[]⟩,zm _,rfl,rfl,rfl,rfl,de,OV,ba⟩
  obtain ⟨k,ls,z,hk,rfl,hls,rfl,hz,hz2,ow,hbel⟩:=hrel;have HLS:Hid (eK (fs.take k)=some ls):=hls;have HZ:Hid (z.data.toList=jn 46 ls):=hz;have HLN:Hid (ls.length=k):=by show _=_;rw[nI hls,zh];omega
  have hz3:(z.size:Int)<=253:=om;clear hls hz
  by_cases hlt:k<fs.length
  .have hc:=bY ow k hlt
   have hTA:=tA hlt HLS.out;have hsz:=hbel.size;have CT:Hid (∀W,CB 137 #[I (fs.getD k zc)] W (dT (eV (fs.getD k zc).data.toList))):=fun W=>sE _ W (HSZ.out _ (by rw[ze,zf hlt];exact zi hlt))
   rw[xH]at CT;generalize fs.getD k zc=y at hc hTA CT;have hkl:(k:Int)<fs.length:=om
   cases ha:nT y with
   |none=>
    rw[ha]at CT hTA;have HF:Hid (dT (cV s)=L #[I ⟨#[]⟩,Y false]):=fL (HNM.out.trans (pH (mC hTA)));clear ha hTA;go_wp2_with fail;refine (CT.out _).mono ?_;rintro e wb ⟨rfl,bb⟩;have b2:=hbel.trans (bb.mono hsz);clear hbel bb ow;go_wp2_with fail;go_ret2;exact ⟨by rw[HF.out];rfl,b2⟩
   |some a=>
    rw[ha]at CT hTA;have hal:a.size<=63:=by
     have:=(dC (wB ha).1).2.1
     simpa using this
    have HTA:Hid (eK (fs.take (k+1))=some (ls++[a])):=hTA;clear ha hTA
    by_cases hk0:0<k
    .first
     |(exfalso;omega)
     |(
       have HJ:Hid (((z++⟨#[46]⟩)++a).data.toList=jn 46 (ls++[a])):=by
        show _=_;rw[vJ 46 ls a (by intro h;have:=HLN.out;rw[h]at this;simp at this;omega),<-HZ.out];simp
       have hzs:((z++(⟨#[46]⟩:ByteArray))++a).size=z.size+1+a.size:=by
        rw[zd,zd];rfl
       by_cases hov:((z++(⟨#[46]⟩:ByteArray))++a).size<=253
       .have hov': ¬253<((((z++(⟨#[46]⟩:ByteArray))++a).size:Nat):Int):=om
        go_wp2_with fail;refine (CT.out _).mono ?_;rintro e wb ⟨rfl,bb⟩;have b2:=hbel.trans (bb.mono hsz);have o2:=aH ow bb;clear hbel bb ow;go_wp2_with fail;go_roundw
        case rel=>exact ⟨k+1,ls++[a],_,om,gn,HTA.out,rfl,HJ.out,hov,o2,b2⟩
        case measure=>exact j1
       have hov':253<((((z++(⟨#[46]⟩:ByteArray))++a).size:Nat):Int):=om;have HF:Hid (dT (cV s)=L #[I ⟨#[]⟩,Y false]):=fL (HNM.out.trans (uY HTA.out (by
        rw[<-HJ.out];have e:=pS ((z++(⟨#[46]⟩:ByteArray))++a);omega)))
       go_wp2_with fail;refine (CT.out _).mono ?_;rintro e wb ⟨rfl,bb⟩;have b2:=hbel.trans (bb.mono hsz);clear hbel bb ow;go_wp2_with fail;go_ret2;exact ⟨by rw[HF.out];rfl,b2⟩)
    have hk00:k=0:=om;subst hk00;have hl0:ls=[]:=zg HLN.out;subst hl0;have hz0:z=⟨#[]⟩:=by
     rw[<-pT z,HZ.out];rfl
    subst hz0;have HJ:Hid (((⟨#[]⟩:ByteArray)++a).data.toList=jn 46 ([]++[a])):=by
     show _=_;rw[BT];simp
    have hzs:((⟨#[]⟩:ByteArray)++a).size=a.size:=by
     rw[zd];exact zk _
    have hov': ¬253<((((⟨#[]⟩:ByteArray)++a).size:Nat):Int):=om;go_wp2_with fail;refine (CT.out _).mono ?_;rintro e wb ⟨rfl,bb⟩;have b2:=hbel.trans (bb.mono hsz);have o2:=aH ow bb;clear hbel bb ow;go_wp2_with fail;go_roundw
    case rel=>exact ⟨0+1,[]++[a],_,om,gn,HTA.out,rfl,HJ.out,om,o2,b2⟩
    case measure=>exact j1
  have hks:k=fs.length:=om;have HF:Hid (dT (cV s)=L #[I z,Y true]):=by
   have h:=HLS.out;rw[hks,zj]at h;have h2:(jn 46 ls).length<=253:=by
    rw[<-HZ.out];have e:=pS z;omega
   have h3:=mD (HNM.out.trans (kC h h2));rw[<-HZ.out,pT]at h3;exact h3
  subst hks;go_wp2_with fail;go_ret2;exact ⟨by rw[HF.out];rfl,hbel⟩
 have HNM:Hid (cV s=jE f0):=by
  have h:=HNM0.out;unfold dP at h;rw[if_neg hd]at h;exact h
 by_cases hl1:1<f0.length
 .have hl1':1<(f0.length:Int):=om
  have hem:=aX (u:=f0.getD (f0.length-1) zc) (by apply Nat.pos_of_ne_zero;intro h;exact hd ⟨hl1,h⟩);clear hd;go_enter func86,ntmps86;go_wp2_with fail;refine CF.out.mono ?_;rintro e wa ⟨va,rfl,OV,ba⟩
  rcases aQ OV with ⟨h,_⟩|⟨_,g,cap,rfl⟩
  .omega
  have hc:=bY OV (f0.length-1) om;have hi:((f0.length:Int)-1)=((f0.length-1:Nat):Int):=om;generalize f0.getD (f0.length-1) zc=q at hc hem;go_wp2_with fail;clear hc hi hem hl1 hl1';have HSZ:=HSZ0
  go_loopw[5,6] (fun o i wr=> ∃(k:Nat) (ls:List ByteArray) (z:ByteArray),k<=f0.length/\i=.int .i64 k/\eK (f0.take k)=some ls/\o=I z/\z.data.toList=jn 46 ls/\z.size<=253/\wr.ownsRow w.heap.size 9 1 (.slice (some ⟨g,0,none⟩) f0.length cap) f0.length (aM f0)/\Below w.heap.size w wr)
   (fun _ i _=>f0.length-(intOf i).toNat)
  case atStart=>exact ⟨0,[],⟨#[]⟩,zm _,rfl,rfl,rfl,rfl,de,OV,ba⟩
  obtain ⟨k,ls,z,hk,rfl,hls,rfl,hz,hz2,ow,hbel⟩:=hrel;have HLS:Hid (eK (f0.take k)=some ls):=hls;have HZ:Hid (z.data.toList=jn 46 ls):=hz;have HLN:Hid (ls.length=k):=by show _=_;rw[nI hls,zh];omega
  have hz3:(z.size:Int)<=253:=om;clear hls hz
  by_cases hlt:k<f0.length
  .have hc:=bY ow k hlt
   have hTA:=tA hlt HLS.out;have hsz:=hbel.size;have CT:Hid (∀W,CB 137 #[I (f0.getD k zc)] W (dT (eV (f0.getD k zc).data.toList))):=fun W=>sE _ W (HSZ.out _ (by rw[ze,zf hlt];exact zi hlt))
   rw[xH]at CT;generalize f0.getD k zc=y at hc hTA CT;have hkl:(k:Int)<f0.length:=om
   cases ha:nT y with
   |none=>
    rw[ha]at CT hTA;have HF:Hid (dT (cV s)=L #[I ⟨#[]⟩,Y false]):=fL (HNM.out.trans (pH (mC hTA)));clear ha hTA;go_wp2_with fail;refine (CT.out _).mono ?_;rintro e wb ⟨rfl,bb⟩;have b2:=hbel.trans (bb.mono hsz);clear hbel bb ow;go_wp2_with fail;go_ret2;exact ⟨by rw[HF.out];rfl,b2⟩
   |some a=>
    rw[ha]at CT hTA;have hal:a.size<=63:=by
     have:=(dC (wB ha).1).2.1
     simpa using this
    have HTA:Hid (eK (f0.take (k+1))=some (ls++[a])):=hTA;clear ha hTA
    by_cases hk0:0<k
    .first
     |(exfalso;omega)
     |(
       have HJ:Hid (((z++⟨#[46]⟩)++a).data.toList=jn 46 (ls++[a])):=by
        show _=_;rw[vJ 46 ls a (by intro h;have:=HLN.out;rw[h]at this;simp at this;omega),<-HZ.out];simp
       have hzs:((z++(⟨#[46]⟩:ByteArray))++a).size=z.size+1+a.size:=by
        rw[zd,zd];rfl
       by_cases hov:((z++(⟨#[46]⟩:ByteArray))++a).size<=253
       .have hov': ¬253<((((z++(⟨#[46]⟩:ByteArray))++a).size:Nat):Int):=om
        go_wp2_with fail;refine (CT.out _).mono ?_;rintro e wb ⟨rfl,bb⟩;have b2:=hbel.trans (bb.mono hsz);have o2:=aH ow bb;clear hbel bb ow;go_wp2_with fail;go_roundw
        case rel=>exact ⟨k+1,ls++[a],_,om,gn,HTA.out,rfl,HJ.out,hov,o2,b2⟩
        case measure=>exact j1
       have hov':253<((((z++(⟨#[46]⟩:ByteArray))++a).size:Nat):Int):=om;have HF:Hid (dT (cV s)=L #[I ⟨#[]⟩,Y false]):=fL (HNM.out.trans (uY HTA.out (by
        rw[<-HJ.out];have e:=pS ((z++(⟨#[46]⟩:ByteArray))++a);omega)))
       go_wp2_with fail;refine (CT.out _).mono ?_;rintro e wb ⟨rfl,bb⟩;have b2:=hbel.trans (bb.mono hsz);clear hbel bb ow;go_wp2_with fail;go_ret2;exact ⟨by rw[HF.out];rfl,b2⟩)
    have hk00:k=0:=om;subst hk00;have hl0:ls=[]:=zg HLN.out;subst hl0;have hz0:z=⟨#[]⟩:=by
     rw[<-pT z,HZ.out];rfl
    subst hz0;have HJ:Hid (((⟨#[]⟩:ByteArray)++a).data.toList=jn 46 ([]++[a])):=by
     show _=_;rw[BT];simp
    have hzs:((⟨#[]⟩:ByteArray)++a).size=a.size:=by
     rw[zd];exact zk _
    have hov': ¬253<((((⟨#[]⟩:ByteArray)++a).size:Nat):Int):=om;go_wp2_with fail;refine (CT.out _).mono ?_;rintro e wb ⟨rfl,bb⟩;have b2:=hbel.trans (bb.mono hsz);have o2:=aH ow bb;clear hbel bb ow;go_wp2_with fail;go_roundw
    case rel=>exact ⟨0+1,[]++[a],_,om,gn,HTA.out,rfl,HJ.out,om,o2,b2⟩
    case measure=>exact j1
  have hks:k=f0.length:=om;have HF:Hid (dT (cV s)=L #[I z,Y true]):=by
   have h:=HLS.out;rw[hks,zj]at h;have h2:(jn 46 ls).length<=253:=by
    rw[<-HZ.out];have e:=pS z;omega
   have h3:=mD (HNM.out.trans (kC h h2));rw[<-HZ.out,pT]at h3;exact h3
  subst hks;go_wp2_with fail;go_ret2;exact ⟨by rw[HF.out];rfl,hbel⟩
 have hl1': ¬1<(f0.length:Int):=om;clear hd;go_enter func86,ntmps86;go_wp2_with fail;refine CF.out.mono ?_;rintro e wa ⟨va,rfl,OV,ba⟩
 rcases aQ OV with ⟨h,_⟩|⟨_,g,cap,rfl⟩
 .omega
 go_wp2_with fail;clear hl1 hl1';have HSZ:=HSZ0
 go_loopw[5,6] (fun o i wr=> ∃(k:Nat) (ls:List ByteArray) (z:ByteArray),k<=f0.length/\i=.int .i64 k/\eK (f0.take k)=some ls/\o=I z/\z.data.toList=jn 46 ls/\z.size<=253/\wr.ownsRow w.heap.size 9 1 (.slice (some ⟨g,0,none⟩) f0.length cap) f0.length (aM f0)/\Below w.heap.size w wr)
  (fun _ i _=>f0.length-(intOf i).toNat)
 case atStart=>exact ⟨0,[],⟨#[]⟩,zm _,rfl,rfl,rfl,rfl,de,OV,ba⟩
 obtain ⟨k,ls,z,hk,rfl,hls,rfl,hz,hz2,ow,hbel⟩:=hrel;have HLS:Hid (eK (f0.take k)=some ls):=hls;have HZ:Hid (z.data.toList=jn 46 ls):=hz;have HLN:Hid (ls.length=k):=by show _=_;rw[nI hls,zh];omega
 have hz3:(z.size:Int)<=253:=om;clear hls hz
 by_cases hlt:k<f0.length
 .have hc:=bY ow k hlt
  have hTA:=tA hlt HLS.out;have hsz:=hbel.size;have CT:Hid (∀W,CB 137 #[I (f0.getD k zc)] W (dT (eV (f0.getD k zc).data.toList))):=fun W=>sE _ W (HSZ.out _ (by rw[ze,zf hlt];exact zi hlt))
  rw[xH]at CT;generalize f0.getD k zc=y at hc hTA CT;have hkl:(k:Int)<f0.length:=om
  cases ha:nT y with
  |none=>
   rw[ha]at CT hTA;have HF:Hid (dT (cV s)=L #[I ⟨#[]⟩,Y false]):=fL (HNM.out.trans (pH (mC hTA)));clear ha hTA;go_wp2_with fail;refine (CT.out _).mono ?_;rintro e wb ⟨rfl,bb⟩;have b2:=hbel.trans (bb.mono hsz);clear hbel bb ow;go_wp2_with fail;go_ret2;exact ⟨by rw[HF.out];rfl,b2⟩
  |some a=>
   rw[ha]at CT hTA;have hal:a.size<=63:=by
    have:=(dC (wB ha).1).2.1
    simpa using this
   have HTA:Hid (eK (f0.take (k+1))=some (ls++[a])):=hTA;clear ha hTA
   by_cases hk0:0<k
   .first
    |(exfalso;omega)
    |(
      have HJ:Hid (((z++⟨#[46]⟩)++a).data.toList=jn 46 (ls++[a])):=by
       show _=_;rw[vJ 46 ls a (by intro h;have:=HLN.out;rw[h]at this;simp at this;omega),<-HZ.out];simp
      have hzs:((z++(⟨#[46]⟩:ByteArray))++a).size=z.size+1+a.size:=by
       rw[zd,zd];rfl
      by_cases hov:((z++(⟨#[46]⟩:ByteArray))++a).size<=253
      .have hov': ¬253<((((z++(⟨#[46]⟩:ByteArray))++a).size:Nat):Int):=om
       go_wp2_with fail;refine (CT.out _).mono ?_;rintro e wb ⟨rfl,bb⟩;have b2:=hbel.trans (bb.mono hsz);have o2:=aH ow bb;clear hbel bb ow;go_wp2_with fail;go_roundw
       case rel=>exact ⟨k+1,ls++[a],_,om,gn,HTA.out,rfl,HJ.out,hov,o2,b2⟩
       case measure=>exact j1
      have hov':253<((((z++(⟨#[46]⟩:ByteArray))++a).size:Nat):Int):=om;have HF:Hid (dT (cV s)=L #[I ⟨#[]⟩,Y false]):=fL (HNM.out.trans (uY HTA.out (by
       rw[<-HJ.out];have e:=pS ((z++(⟨#[46]⟩:ByteArray))++a);omega)))
      go_wp2_with fail;refine (CT.out _).mono ?_;rintro e wb ⟨rfl,bb⟩;have b2:=hbel.trans (bb.mono hsz);clear hbel bb ow;go_wp2_with fail;go_ret2;exact ⟨by rw[HF.out];rfl,b2⟩)
   have hk00:k=0:=om;subst hk00;have hl0:ls=[]:=zg HLN.out;subst hl0;have hz0:z=⟨#[]⟩:=by
    rw[<-pT z,HZ.out];rfl
   subst hz0;have HJ:Hid (((⟨#[]⟩:ByteArray)++a).data.toList=jn 46 ([]++[a])):=by
    show _=_;rw[BT];simp
   have hzs:((⟨#[]⟩:ByteArray)++a).size=a.size:=by
    rw[zd];exact zk _
   have hov': ¬253<((((⟨#[]⟩:ByteArray)++a).size:Nat):Int):=om;go_wp2_with fail;refine (CT.out _).mono ?_;rintro e wb ⟨rfl,bb⟩;have b2:=hbel.trans (bb.mono hsz);have o2:=aH ow bb;clear hbel bb ow;go_wp2_with fail;go_roundw
   case rel=>exact ⟨0+1,[]++[a],_,om,gn,HTA.out,rfl,HJ.out,om,o2,b2⟩
   case measure=>exact j1
 have hks:k=f0.length:=om;have HF:Hid (dT (cV s)=L #[I z,Y true]):=by
  have h:=HLS.out;rw[hks,zj]at h;have h2:(jn 46 ls).length<=253:=by
   rw[<-HZ.out];have e:=pS z;omega
  have h3:=mD (HNM.out.trans (kC h h2));rw[<-HZ.out,pT]at h3;exact h3
 subst hks;go_wp2_with fail;go_ret2;exact ⟨by rw[HF.out];rfl,hbel⟩
def YP(w w':World)(r:Option (List ByteArray))(e:Ending):Prop:=match r with
 |some ls=> ∃v,e=J (L #[v,Y true])/\w'.ownsRow w.heap.size 9 1 v ls.length (aM ls)
 |none=> ∃v,e=J (L #[v,Y false])
theorem Z5(fs:List ByteArray)(B:Nat)(v:Value)(w:World)(hpos:0<fs.length)(hlen:fs.length<=1048577)(hsz: ∀x∈fs,x.size<=1048576)(hT:Lib.Utf8Tabs 12 13 w)
  (hown:w.ownsRow B 9 1 v fs.length (aM fs)):Calls prog 281 #[v,.func (.func 282) #[] #[]] w fun e w'=>YP w w' (eK fs) e/\Below w.heap.size w w':=by
 obtain ⟨i0,hi,hz0,hz1,hz2⟩:=info_parts infoStr;have HSZ:Hid (∀x∈fs,x.size<=1048576):=hsz;have HT:Hid (Lib.Utf8Tabs 12 13 w):=hT;clear hsz hT
 rcases aQ hown with ⟨h,_⟩|⟨_,g,cap,rfl⟩
 .omega
 have HOW:Hid (w.ownsRow B 9 1 (.slice (some ⟨g,0,none⟩) fs.length cap) fs.length (aM fs)):=hown;clear hown;go_enter func281,ntmps281;go_wp2_with (at_make;refine wpList_make_own _ rfl _ _ 245 rfl w.heap.size 9 i0 (I ⟨#[]⟩) 1 underlying245 hi hz0 hz1 _ _ _ fs.length rfl rfl om (by rw[hz2];omega) (by unfold maxLen;omega) (Nat.le_refl _) ?_);intro wm hmo hgm;have Bm:Below w.heap.size w wm:=(Below.refl _ _).grown hgm (Nat.le_refl _) (fun k hk=>by cases hk);have o9:wm.ownsRow w.heap.size 9 1 (.slice (some ⟨w.heap.size,0,none⟩) 0 fs.length) 0 []:=hmo;clear hmo hgm;go_wp2_with fail
 go_loopw[6,16] (fun m i wr=> ∃(k:Nat) (ls:List ByteArray),k<=fs.length/\i=.int .i64 k/\eK (fs.take k)=some ls/\wr.ownsRow w.heap.size 9 1 m ls.length (aM ls)/\Below w.heap.size w wr)
  (fun _ i _=>fs.length-(intOf i).toNat)
 case atStart=>exact ⟨0,[],zm _,rfl,rfl,o9,Bm⟩
 obtain ⟨k,ls,hk,rfl,hls,ow,hbel⟩:=hrel;clear o9 Bm;have HLS:Hid (eK (fs.take k)=some ls):=hls;have hln:ls.length=k:=by rw[nI hls,zh];omega
 clear hls;have hsz:=hbel.size
 by_cases hlt:k<fs.length
 .have hc:=bY (aH HOW.out hbel) k hlt
  have hTA:=tA hlt HLS.out;have CT:Hid (∀W,Lib.Utf8Tabs 12 13 W->CB 282 #[I (fs.getD k zc)] W (dT (eV (fs.getD k zc).data.toList))):=fun W hT=>RZ _ W (HSZ.out _ (by rw[ze,zf hlt];exact zi hlt)) hT
  have HTW:Hid (Lib.Utf8Tabs 12 13 wr):=bW HT.out hbel;rw[xH]at CT;generalize fs.getD k zc=y at hc hTA CT;have hkl:(k:Int)<fs.length:=om
  cases ha:nT y with
  |none=>
   rw[ha]at CT hTA;have HF:Hid (eK fs=none):=mC hTA;clear ha hTA;go_wp2_with fail;refine (CT.out _ HTW.out).mono ?_;rintro e wb ⟨rfl,bb⟩;have b2:=hbel.trans (bb.mono hsz);clear hbel bb ow;go_wp2_with fail;go_ret2;rw[HF.out];exact ⟨⟨_,rfl⟩,b2⟩
  |some a=>
   rw[ha]at CT hTA;have HTA:Hid (eK (fs.take (k+1))=some (ls++[a])):=hTA;clear ha hTA;go_wp2_with fail;refine (CT.out _ HTW.out).mono ?_;rintro e wb ⟨rfl,bb⟩;have b2:=hbel.trans (bb.mono hsz);have o2:=aH ow bb;have z2:=b2.size;clear hbel bb ow HTW CT;go_wp2_with (at_builtin;refine aB _ rfl _ _ 245 rfl w.heap.size 9 (I ⟨#[]⟩) 16 underlying245 infoStr rfl _ _ _ rfl o2 #[I a] 1 rfl rfl (gO _) om (by unfold maxLen;omega) z2 ?_);intro v' w1 ow' hb1;have R:w1.ownsRow w.heap.size 9 1 v' (ls++[a]).length (aM (ls++[a])):=by
    rw[kS,List.length_append,hln];exact ow'
   have B1:Below w.heap.size w w1:=b2.trans hb1;clear ow' hb1 o2 b2;go_wp2_with fail;go_roundw
   case rel=>exact ⟨k+1,ls++[a],om,gn,HTA.out,R,B1⟩
   case measure=>exact j1
 have hks:k=fs.length:=om;have HF:Hid (eK fs=some ls):=by
  have h:=HLS.out;rw[hks,zj]at h;exact h
 go_wp2_with fail;go_ret2;rw[HF.out];exact ⟨⟨_,rfl,ow⟩,hbel⟩
theorem EZ(s:ByteArray)(w:World)(hs:s.size<=1048576)(hT:Lib.Utf8Tabs 12 13 w):Calls prog 266 #[I s] w fun e w'=>e=J (dT (cV s))/\Below w.heap.size w w':=by
 have CF:Hid (Calls prog 135 #[I s,.int .u8 46] w fun e w'=> ∃v,e=J v/\w'.ownsRow w.heap.size 9 1 v (aA s 46).length (aM (aA s 46))/\Below w.heap.size w w'):=uD s 46 w hs;have hpos:0<(aA s 46).length:=by simp[aA]
 have hlen:(aA s 46).length<=1048577:=by
  have:=(dL s 46 s.size).2
  simp[aA];omega
 have HSZ:Hid (∀x∈dP (aA s 46),x.size<=1048576):=zG (gE s hs);have HNM:Hid (cV s=jE (dP (aA s 46))):=rfl;have hp2:=xV hpos;have hl2:(dP (aA s 46)).length<=1048577:=Nat.le_trans (NW _) hlen;have HT:Hid (Lib.Utf8Tabs 12 13 w):=hT;have CW:Hid (∀(W:World) (v:Value) (B:Nat),W.ownsRow B 9 1 v (aA s 46).length (aM (aA s 46))->Calls prog 280 #[v] W fun e w'=> ∃v',e=J v'/\W.ownsRow B 9 1 v' (dP (aA s 46)).length (aM (dP (aA s 46)))/\W=w'):=
  fun W v B h=>zH _ B v W hpos hlen h
 clear hT;generalize dP (aA s 46)=fs at CW HSZ HNM hp2 hl2;go_enter func266,ntmps266;go_wp2_with fail;refine CF.out.mono ?_;rintro e wa ⟨va,rfl,oa,ba⟩;go_wp2_with fail;refine (CW.out _ _ _ oa).mono ?_;rintro e wb ⟨vb,rfl,ob,rfl⟩;clear oa CW CF hpos hlen;have za:=ba.size;have CE:Hid (Calls prog 281 #[vb,.func (.func 282) #[] #[]] wa fun e w'=>YP wa w' (eK fs) e/\Below wa.heap.size wa w'):=Z5 fs _ vb wa hp2 hl2 HSZ.out (bW HT.out ba) ob;clear ob
 cases hr:eK fs with
 |none=>
  have HF:Hid (dT (cV s)=L #[I ⟨#[]⟩,Y false]):=fL (HNM.out.trans (pH hr));rw[hr]at CE;clear hr;go_wp2_with fail;refine CE.out.mono ?_;rintro e wc ⟨⟨vc,rfl⟩,bc⟩;have b2:=ba.trans (bc.mono za);clear ba bc;go_wp2_with fail;go_ret2;exact ⟨by rw[HF.out];rfl,b2⟩
 |some ls=>
  have hll:ls.length=fs.length:=nI hr;have hjb:=Q7 46 ls (IV (IU hr));rw[hr]at CE;have HR:Hid (eK fs=some ls):=hr;clear hr;go_wp2_with fail;refine CE.out.mono ?_;rintro e wc ⟨⟨vc,rfl,oc⟩,bc⟩;have b2:=ba.trans (bc.mono za);clear ba bc
  rcases aQ oc with ⟨h,_⟩|⟨_,g,cap,rfl⟩
  .omega
  have CJ:=strings_Join g 0 cap ls ⟨#[46]⟩ wc (fun j x hj=>by
    have hjl:j<ls.length:=(List.getElem?_eq_some_iff.1 hj).1;rw[zk,bY oc j hjl,ze,hj];rfl) (oc.lt g rfl).2 om (lV oc) (by
    rw[show (⟨#[46]⟩:ByteArray).data.toList=[46] from rfl,XI];omega)
  rw[show (⟨#[46]⟩:ByteArray).data.toList=[46] from rfl,XI]at CJ;have CJ:Hid (CB 185 #[.slice (some ⟨g,0,none⟩) ls.length cap,I ⟨#[46]⟩] wc (I ⟨(jn 46 ls).toArray⟩)):=CJ;have hsz:(⟨(jn 46 ls).toArray⟩:ByteArray).size=(jn 46 ls).length:=by
   show (jn 46 ls).toArray.size=_;exact List.size_toArray
  clear oc hll
  by_cases hov:(jn 46 ls).length<=253
  .have HF:Hid (dT (cV s)=L #[I ⟨(jn 46 ls).toArray⟩,Y true]):=mD (HNM.out.trans (kC HR.out hov))
   generalize (⟨(jn 46 ls).toArray⟩:ByteArray)=T at CJ hsz HF;have hov': ¬253<(T.size:Int):=om;clear hsz;go_wp2_with fail;refine CJ.out.mono ?_;rintro e wd ⟨rfl,bd⟩;have b3:=b2.trans (bd.mono b2.size);clear b2 bd;go_wp2_with fail;go_ret2;exact ⟨by rw[HF.out];rfl,b3⟩
  have HF:Hid (dT (cV s)=L #[I ⟨#[]⟩,Y false]):=fL (HNM.out.trans (DT HR.out hov));generalize (⟨(jn 46 ls).toArray⟩:ByteArray)=T at CJ hsz;have hov':253<(T.size:Int):=om;clear hsz;go_wp2_with fail;refine CJ.out.mono ?_;rintro e wd ⟨rfl,bd⟩;have b3:=b2.trans (bd.mono b2.size);clear b2 bd;go_wp2_with fail;go_ret2;exact ⟨by rw[HF.out];rfl,b3⟩
