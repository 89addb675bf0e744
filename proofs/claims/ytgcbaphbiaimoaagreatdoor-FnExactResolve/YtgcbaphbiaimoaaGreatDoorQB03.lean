/- LooseWalk, Loose4Walk. -/
import Derived.Test.YtgcbaphbiaimoaaGreatDoorQB02
set_option maxHeartbeats 8000000
set_option maxRecDepth 20000
namespace Go.Proofs.YtgcbaphbiaimoaaGreatDoor
open Go.Value renaming int->I,string->L
open Go.IntKind renaming i64->J
open _root_.ByteArray renaming empty->za
open _root_.Int renaming reduceSub->zh
open _root_.List renaming drop_eq_getElem_cons->zc,drop_of_length_le->zi,eq_nil_of_length_eq_zero->zf,isPrefixOf->zj
open _root_.Nat renaming div_div_eq_div_mul->ze,pow_succ->zd,reduceSub->zg,zero_le->zk
open _root_.Go.Proofs.Tryz
open _root_.Go.Proofs.YtgcbaphbiaimoaaGreatDoor.Tryz
section
open Go.RowKit
theorem nA(s:ByteArray)(h:0<s.size):s.data.toList=s[0]::(s.extract 1 s.size).data.toList:=by
 rw[bE,dD s s.size (Nat.le_refl _)];exact (List.drop_zero (l:=s.data.toList)).symm.trans (zc (by simpa using h))
theorem NR(s:ByteArray)(h:1<s.size):s.data.toList=s[0]::s[1]::(s.extract 2 s.size).data.toList:=by
 rw[bE,dD s s.size (Nat.le_refl _)];have h1:s.data.toList.drop 0=s[0]::s.data.toList.drop (0+1):=zc (by simp;omega);have h2:s.data.toList.drop 1=s[1]::s.data.toList.drop (1+1):=zc (by simpa using h);rw[List.drop_zero]at h1;rw[show 0+1=1 from rfl,h2]at h1;exact h1
theorem mP{c d:UInt8}(h:c.toNat=d.toNat):c=d:=UInt8.toNat_inj.1 h
theorem Ad{c d:UInt8}(h: ¬c.toNat=d.toNat):c≠d:=fun e=>h (by rw[e])
theorem KP{s:ByteArray}(h:s.size=0):cJ s.data.toList=none:=by
 have:s.data.toList=[]:=zf (by simpa using h)
 rw[this];rfl
theorem E2{s:ByteArray}(h:1<s.size)(h0:s[0].toNat=48)(h1:s[1].toNat=120∨s[1].toNat=88):cJ s.data.toList=cU 16 8 (s.extract 2 s.size).data.toList:=by
 rw[NR s h,cJ,if_pos (mP h0),XJ,if_pos]
 rcases h1 with h1|h1
 .exact .inl (mP h1)
 exact .inr (mP h1)
theorem E3{s:ByteArray}(h:0<s.size)(h0:s[0].toNat=48)(h1: ¬ ∃h1:1<s.size,s[1].toNat=120∨s[1].toNat=88):cJ s.data.toList=cU 8 11 (s.extract 1 s.size).data.toList:=by
 rw[nA s h,cJ,if_pos (mP h0)]
 by_cases h2:1<s.size
 .have e:=NR s h2
  rw[nA s h]at e;have e':(s.extract 1 s.size).data.toList=s[1]::(s.extract 2 s.size).data.toList:=(List.cons.inj e).2;rw[e',XJ,if_neg];rintro (e|e)
  .exact h1 ⟨h2,.inl (by rw[e];rfl)⟩
  exact h1 ⟨h2,.inr (by rw[e];rfl)⟩
 have:(s.extract 1 s.size).data.toList=[]:=zf (by simp;omega)
 rw[this];rfl
theorem RW{s:ByteArray}(h:0<s.size)(h0: ¬s[0].toNat=48):cJ s.data.toList=cU 10 10 s.data.toList:=by
 have e:=nA s h;rw[e,cJ,if_neg (Ad h0)]
theorem tS(s:ByteArray)(w:World)(hs:s.size<=1048576):Calls prog 169 #[L s] w fun e w'=>e=.returned (I J (eQ (cJ s.data.toList)))/\w=w':=by
 by_cases h:s.size=0
 .have HL:Hid (cJ s.data.toList=none):=KP h
  have hem:=aS h;clear h;go_enter func169,ntmps169;go_wp2_with fail;go_ret;exact ⟨by rw[HL.out];rfl,rfl⟩
 have hpos:0<s.size:=om;have hem:=aW hpos;clear h;obtain ⟨d,hd⟩: ∃d:Nat,s[0].toNat=d:=⟨_,rfl⟩
 by_cases h0:d=48
 .subst h0
  by_cases h1: ∃h1:1<s.size,s[1].toNat=120∨s[1].toNat=88
  .obtain ⟨h1,hx⟩:=h1
   have HL:Hid (cJ s.data.toList=cU 16 8 (s.extract 2 s.size).data.toList):=E2 h1 hd hx;have CN:Hid (∀W,CS 57 #[L (s.extract 2 s.size),I J 16,I J 8] W (I J (eQ (cU 16 8 (s.extract 2 s.size).data.toList)))):=fun W=>jU (s.extract 2 s.size) 16 8 W om om
   generalize cU 16 8 (s.extract 2 s.size).data.toList=R at HL CN;have h1':1<(s.size:Int):=om;obtain ⟨c,hc⟩: ∃c:Nat,s[1].toNat=c:=⟨_,rfl⟩;rw[hc]at hx
   rcases hx with rfl|rfl
   .go_enter func169,ntmps169
    go_wp2_with fail;refine (CN.out _).mono ?_;rintro e w' ⟨rfl,rfl⟩;go_wp2_with fail;go_ret;exact ⟨by rw[HL.out];rfl,rfl⟩
   go_enter func169,ntmps169;go_wp2_with fail;refine (CN.out _).mono ?_;rintro e w' ⟨rfl,rfl⟩;go_wp2_with fail;go_ret;exact ⟨by rw[HL.out];rfl,rfl⟩
  have HL:Hid (cJ s.data.toList=cU 8 11 (s.extract 1 s.size).data.toList):=E3 hpos hd h1;have CN:Hid (∀W,CS 57 #[L (s.extract 1 s.size),I J 8,I J 11] W (I J (eQ (cU 8 11 (s.extract 1 s.size).data.toList)))):=fun W=>jU (s.extract 1 s.size) 8 11 W om om
  generalize cU 8 11 (s.extract 1 s.size).data.toList=R at HL CN
  by_cases h2:1<s.size
  .obtain ⟨c,hc⟩: ∃c:Nat,s[1].toNat=c:=⟨_,rfl⟩
   have q1:((c:Int)==120)=false:=beq_eq_false_iff_ne.2 (fun e=>h1 ⟨h2,.inl om⟩);have q2:((c:Int)==88)=false:=beq_eq_false_iff_ne.2 (fun e=>h1 ⟨h2,.inr om⟩);have h2':1<(s.size:Int):=om;clear h1;go_enter func169,ntmps169;go_wp2_with fail;refine (CN.out _).mono ?_;rintro e w' ⟨rfl,rfl⟩;go_wp2_with fail;go_ret;exact ⟨by rw[HL.out];rfl,rfl⟩
  have h2': ¬1<(s.size:Int):=om;clear h1;go_enter func169,ntmps169;go_wp2_with fail;refine (CN.out _).mono ?_;rintro e w' ⟨rfl,rfl⟩;go_wp2_with fail;go_ret;exact ⟨by rw[HL.out];rfl,rfl⟩
 have HL:Hid (cJ s.data.toList=cU 10 10 s.data.toList):=RW hpos (by rw[hd];exact h0);have CN:Hid (∀W,CS 57 #[L s,I J 10,I J 10] W (I J (eQ (cU 10 10 s.data.toList)))):=fun W=>jU s 10 10 W om om
 generalize cU 10 10 s.data.toList=R at HL CN;have q0:((d:Int)==48)=false:=beq_eq_false_iff_ne.2 om;clear h0
 by_cases h2:1<(s.size:Int)
 .go_enter func169,ntmps169
  go_wp2_with fail;refine (CN.out _).mono ?_;rintro e w' ⟨rfl,rfl⟩;go_wp2_with fail;go_ret;exact ⟨by rw[HL.out];rfl,rfl⟩
 go_enter func169,ntmps169;go_wp2_with fail;refine (CN.out _).mono ?_;rintro e w' ⟨rfl,rfl⟩;go_wp2_with fail;go_ret;exact ⟨by rw[HL.out];rfl,rfl⟩
theorem Hp(s:ByteArray)(c:UInt8):Lib.hasPrefix s.data.toList [48,c]=decide (∃h:1<s.size,s[0]=48/\s[1]=c):=by
 unfold Lib.hasPrefix
 by_cases h:1<s.size
 .rw[NR s h]
  generalize (s.extract 2 s.size).data.toList=r
  by_cases h1:s[0]=48/\s[1]=c
  .rw[decide_eq_true ⟨h,h1⟩,h1.1,h1.2]
   simp[zj]
  rw[decide_eq_false (fun ⟨_,e⟩=>h1 e)];simp only[zj,Bool.and_eq_false_iff,beq_eq_false_iff_ne]
  by_cases h2:s[0]=48
  .exact .inr (.inl fun e=>h1 ⟨h2,e.symm⟩)
  exact .inl fun e=>h2 e.symm
 rw[decide_eq_false (fun ⟨e,_⟩=>h e)]
 match hl:s.data.toList with
 |[]=>rfl
 |[a]=>simp[zj]
 |a::b::r=>
  have:s.data.toList.length=s.size:=by simp
  rw[hl]at this;simp at this;omega
def hxA(s:ByteArray):Bool:=decide (∃h:1<s.size,s[0].toNat=48/\(s[1].toNat=120∨s[1].toNat=88))
theorem xE(s:ByteArray)(w:World):Calls prog 283 #[L s] w fun e w'=>e=.returned (.bool (hxA s))/\w=w':=by
 have CP:Hid (∀W (c:UInt8) (b:Bool),(decide (∃h:1<s.size,s[0]=48/\s[1]=c))=b->CS 83 #[L s,L ⟨#[48,c]⟩] W (.bool b)):=fun W c b hb=>
  (strings_HasPrefix s ⟨#[48,c]⟩ W).mono fun e w' h=>⟨by rw[h.1,<-hb,<-Hp s c],h.2.symm⟩
 by_cases h1: ∃h:1<s.size,s[0]=48/\s[1]=120
 .have HP:Hid (decide (∃h:1<s.size,s[0]=48/\s[1]=120)=true):=decide_eq_true h1
  have HZ:Hid (hxA s=true):=decide_eq_true (by obtain ⟨a,b,c⟩:=h1;exact ⟨a,by rw[b];rfl,.inl (by rw[c];rfl)⟩);clear h1;go_enter func283,ntmps283;go_wp2_with fail;refine (CP.out _ _ _ HP.out).mono ?_;rintro e w' ⟨rfl,rfl⟩;go_wp2_with fail;go_ret;exact ⟨by rw[HZ.out];rfl,rfl⟩
 have HP:Hid (decide (∃h:1<s.size,s[0]=48/\s[1]=120)=false):=decide_eq_false h1;have HZ:Hid (hxA s=decide (∃h:1<s.size,s[0]=48/\s[1]=88)):=by
  show _=_;unfold hxA;refine decide_eq_decide.2 ⟨?_,?_⟩
  .rintro ⟨a,b,c|c⟩
   .exact absurd ⟨a,mP b,mP c⟩ h1
   exact ⟨a,mP b,mP c⟩
  rintro ⟨a,b,c⟩;exact ⟨a,by rw[b];rfl,.inr (by rw[c];rfl)⟩
 clear h1;generalize hb:decide (∃h:1<s.size,s[0]=48/\s[1]=88)=b at HZ;have HB:Hid (decide (∃h:1<s.size,s[0]=48/\s[1]=88)=b):=hb;clear hb;go_enter func283,ntmps283;go_wp2_with fail;refine (CP.out _ _ _ HP.out).mono ?_;rintro e w' ⟨rfl,rfl⟩;go_wp2_with fail;refine (CP.out _ _ _ HB.out).mono ?_;rintro e w' ⟨rfl,rfl⟩;go_wp2_with fail;go_ret;exact ⟨by rw[HZ.out];rfl,rfl⟩
theorem N5(s:ByteArray)(w:World)(hs:s.size<=1048576):Calls prog 284 #[L s] w fun e w'=>e=.returned (fL (cJ s.data.toList))/\w=w':=by
 have CP:Hid (∀W (b:Bool),hxA s=b->CS 283 #[L s] W (.bool b)):=fun W b hb=>by
  rw[<-hb];exact xE s W
 by_cases h:s.size=0
 .have HL:Hid (cJ s.data.toList=none):=KP h
  have hem:=aS h;clear h;go_enter func284,ntmps284;go_wp2_with fail;go_ret2;exact ⟨by rw[HL.out];rfl,rfl⟩
 have hpos:0<s.size:=om;have hem:=aW hpos;clear h;obtain ⟨d,hd⟩: ∃d:Nat,s[0].toNat=d:=⟨_,rfl⟩
 by_cases h0:d=48
 .subst h0
  by_cases h1: ∃h1:1<s.size,s[1].toNat=120∨s[1].toNat=88
  .obtain ⟨h1,hx⟩:=h1
   have HL:Hid (cJ s.data.toList=cU 16 8 (s.extract 2 s.size).data.toList):=E2 h1 hd hx;have CN:Hid (∀W,CS 211 #[L (s.extract 2 s.size),I J 16,I J 8] W (fL (cU 16 8 (s.extract 2 s.size).data.toList))):=fun W=>nT (s.extract 2 s.size) 16 8 W om om
   generalize cU 16 8 (s.extract 2 s.size).data.toList=R at HL CN;have HP:Hid (hxA s=true):=decide_eq_true ⟨h1,hd,hx⟩;clear hx;go_enter func284,ntmps284;go_wp2_with fail;refine (CP.out _ _ HP.out).mono ?_;rintro e w' ⟨rfl,rfl⟩;go_wp2_with fail;refine (CN.out _).mono ?_;rintro e w' ⟨rfl,rfl⟩
   cases R<;>(simp only[fL]at HL⊢;go_wp2_with fail;go_ret2;exact ⟨by rw[HL.out];rfl,rfl⟩)
  have HL:Hid (cJ s.data.toList=cU 8 11 (s.extract 1 s.size).data.toList):=E3 hpos hd h1;have CN:Hid (∀W,CS 211 #[L (s.extract 1 s.size),I J 8,I J 11] W (fL (cU 8 11 (s.extract 1 s.size).data.toList))):=fun W=>nT (s.extract 1 s.size) 8 11 W om om
  generalize cU 8 11 (s.extract 1 s.size).data.toList=R at HL CN;have HP:Hid (hxA s=false):=decide_eq_false (fun ⟨h,_,e⟩=>h1 ⟨h,e⟩);clear h1;go_enter func284,ntmps284;go_wp2_with fail;refine (CP.out _ _ HP.out).mono ?_;rintro e w' ⟨rfl,rfl⟩;go_wp2_with fail;refine (CN.out _).mono ?_;rintro e w' ⟨rfl,rfl⟩
  cases R<;>(simp only[fL]at HL⊢;go_wp2_with fail;go_ret2;exact ⟨by rw[HL.out];rfl,rfl⟩)
 have HL:Hid (cJ s.data.toList=cU 10 10 s.data.toList):=RW hpos (by rw[hd];exact h0);have CN:Hid (∀W,CS 211 #[L s,I J 10,I J 10] W (fL (cU 10 10 s.data.toList))):=fun W=>nT s 10 10 W om om
 generalize cU 10 10 s.data.toList=R at HL CN;have HP:Hid (hxA s=false):=decide_eq_false (fun ⟨h,e,_⟩=>h0 (by rw[<-hd,e]));have q0:((d:Int)==48)=false:=beq_eq_false_iff_ne.2 om;clear h0;go_enter func284,ntmps284;go_wp2_with fail;refine (CP.out _ _ HP.out).mono ?_;rintro e w' ⟨rfl,rfl⟩;go_wp2_with fail;refine (CN.out _).mono ?_;rintro e w' ⟨rfl,rfl⟩
 cases R<;>(simp only[fL]at HL⊢;go_wp2_with fail;go_ret2;exact ⟨by rw[HL.out];rfl,rfl⟩)
end
section
open Go.RowKit
set_option linter.unusedSimpArgs false
theorem lA(fs:List ByteArray)(k:Nat)(h:k<fs.length):fs.drop k=fs.getD k za::fs.drop (k+1):=by
 rw[zc h];simp[List.getD,h]
theorem NS(fs:List ByteArray)(k n r:Nat)(h: ¬k<fs.length):loF n r ((fs.drop k).map toL)=none:=by
 rw[zi om];rfl
theorem xF(fs:List ByteArray)(k n r:Nat)(h:k+1=fs.length):loF n r ((fs.drop k).map toL)=match cJ (toL (fs.getD k za))with
  |none=>none
  |some v=>if v<r then some (n*r+v)else none:=by
 rw[lA fs k om,zi om];rfl
theorem DT(fs:List ByteArray)(k n r:Nat)(h:k+1<fs.length):loF n r ((fs.drop k).map toL)=match cJ (toL (fs.getD k za))with
  |none=>none
  |some v=>if v<256 then loF (n*256+v) (r/256) ((fs.drop (k+1)).map toL)else none:=by
 rw[lA fs k om,lA fs (k+1) h];rfl
theorem E4{fs:List ByteArray}(h:4<fs.length):lo4 (fs.map toL)=none:=by
 unfold lo4;rw[if_neg (by simp;omega)]
theorem RX{fs:List ByteArray}(h:fs.length<=4):lo4 (fs.map toL)=loF 0 4294967296 (fs.map toL):=by
 unfold lo4;rw[if_pos (by simpa using h)]
theorem nX{fs:List ByteArray}{k:Nat}(h:k<fs.length):fs.getD k za∈fs:=by
 rw[List.getD_eq_getElem?_getD,List.getElem?_eq_getElem h];exact List.getElem_mem h
theorem EX{k:Nat}(h:k<=3):256^k<=16777216:=Nat.pow_le_pow_right (n:=256) (j:=3) de h
theorem NT(s:ByteArray)(w:World)(hs:s.size<=1048576):Calls prog 116 #[L s] w fun e w'=>e=.returned (fL (loA s))/\Below w.heap.size w w':=by
 have CF:Hid (Calls prog 93 #[L s,.int .u8 46] w fun e w'=> ∃v,e=.returned v/\w'.ownsRow w.heap.size 9 1 v (aB s 46).length (aZ (aB s 46))/\Below w.heap.size w w'):=nU s 46 w hs;have hpos:0<(aB s 46).length:=by simp[aB]
 have hlen:(aB s 46).length<=1048577:=by
  have:=(eF s 46 s.size).2
  simp[aB];omega
 have HSZ0:Hid (∀x∈aB s 46,x.size<=1048576):=iF s hs;have HNM0:Hid (loA s=lo4 ((eJ (aB s 46)).map toL)):=rfl;generalize aB s 46=f0 at CF hpos hlen HSZ0 HNM0;go_enter func116,ntmps116;go_wp2_with fail;refine CF.out.mono ?_;rintro e wa ⟨va,rfl,oa,ba⟩
 rcases aY oa with ⟨h,_⟩|⟨_,g,cap,rfl⟩
 .omega
 have hc:=cO oa (f0.length-1) om;have hcap:=mY oa;have hi:((f0.length:Int)-1)=((f0.length-1:Nat):Int):=om;have OA:Hid (wa.ownsRow w.heap.size 9 1 (.slice (some ⟨g,0,none⟩) f0.length cap) f0.length (aZ f0)):=oa;have HP:Hid (0<f0.length/\f0.length<=1048577):=⟨hpos,hlen⟩;clear oa CF;obtain ⟨b,hb⟩: ∃b,decide (1<f0.length/\(f0.getD (f0.length-1) za).size=0)=b:=⟨_,rfl⟩;have HB:Hid (decide (1<f0.length/\(f0.getD (f0.length-1) za).size=0)=b):=hb;clear hb
 go_upto_region 2 with fail
 go_cut [22] (fun v wx=>v=.bool b/\wx=wa)
 case first=>
  by_cases hl1:1<f0.length
  .have hl1':1<(f0.length:Int):=om
   by_cases hz:(f0.getD (f0.length-1) za).size=0
   .have hem:=aS hz
    have HT:Hid (b=true):=HB.out.symm.trans (decide_eq_true ⟨hl1,hz⟩);generalize f0.getD (f0.length-1) za=q at hc hem;clear hz;go_wp2_with fail;go_meet;exact ⟨by rw[HT.out],rfl⟩
   have hem:=aW (u:=f0.getD (f0.length-1) za) om;have HT:Hid (b=false):=HB.out.symm.trans (decide_eq_false fun h=>hz h.2);generalize f0.getD (f0.length-1) za=q at hc hem;clear hz;go_wp2_with fail;go_meet;exact ⟨by rw[HT.out],rfl⟩
  have hl1': ¬1<(f0.length:Int):=om;have HT:Hid (b=false):=HB.out.symm.trans (decide_eq_false fun h=>hl1 h.1);go_wp2_with fail;go_meet;exact ⟨by rw[HT.out],rfl⟩
 obtain ⟨rfl,hw⟩:=hcut
 obtain rfl:=hw.symm
 clear hc
 go_upto_if 22 with fail
 go_cut [4] (fun v wx=> ∃(fs:List ByteArray) (cap':Nat),v=.slice (some ⟨g,0,none⟩) fs.length cap'/\wx=wa/\wa.ownsRow w.heap.size 9 1 (.slice (some ⟨g,0,none⟩) fs.length cap') fs.length (aZ fs)/\Hid (loA s=lo4 (fs.map toL))/\Hid (∀x∈fs,x.size<=1048576)/\1<=fs.length/\fs.length<=1048577)
 case first=>
  cases b with
  |true=>
   have hd:=of_decide_eq_true HB.out;have OV:=sK OA.out (f0.length-1) om;rw[lW]at OV;have HNM:Hid (loA s=lo4 ((f0.take (f0.length-1)).map toL)):=by
    have h:=HNM0.out;unfold eJ at h;rw[if_pos hd]at h;exact h
   have HSZ:Hid (∀x∈f0.take (f0.length-1),x.size<=1048576):=fun x hx=>HSZ0.out x (List.mem_of_mem_take hx)
   have hl1:1<(f0.length:Int):=om;have hml:(f0.take (f0.length-1)).length=f0.length-1:=by rw[List.length_take];omega
   obtain ⟨fs,hfs⟩: ∃fs,f0.take (f0.length-1)=fs:=⟨_,rfl⟩;rw[hfs]at OV HNM HSZ hml;have HML:Hid (fs.length=f0.length-1):=hml;have HOV:Hid (wa.ownsRow w.heap.size 9 1 (.slice (some ⟨g,0,none⟩) (f0.length-1) cap) (f0.length-1) (aZ fs)):=OV;clear hd hfs hml OV;go_wp2_with fail;go_meet;have hp:=HP.out;have hm:=HML.out;exact ⟨fs,cap,by rw[hm],rfl,by rw[hm];exact HOV.out,HNM,HSZ,om,om⟩
  |false=>
   have hd:=of_decide_eq_false HB.out;have HNM:Hid (loA s=lo4 (f0.map toL)):=by
    have h:=HNM0.out;unfold eJ at h;rw[if_neg hd]at h;exact h
   clear hd;go_wp2_with fail;go_meet;have hp:=HP.out;exact ⟨f0,cap,rfl,rfl,OA.out,HNM,HSZ0,om,om⟩
 obtain ⟨fs,cap',rfl,hw,OV,HNM,HSZ,hq1,hq2⟩:=hcut
 obtain rfl:=hw.symm
 clear OA HP HB HNM0 HSZ0 hi hcap
 by_cases h5:4<fs.length
 .have HZ:Hid (loA s=none):=by
   show _=_;rw[HNM.out,E4 h5]
  have h5':4<(fs.length:Int):=om;go_wp2_with fail;go_ret2;exact ⟨by rw[HZ.out];rfl,ba⟩
 have h5': ¬4<(fs.length:Int):=om;go_wp2_with fail;have hlen2:1<=fs.length/\fs.length<=4:=om;clear hpos hlen h5' h5 hq1 hq2;have h4:fs.length=1∨fs.length=2∨fs.length=3∨fs.length=4:=om
 rcases h4 with hM|hM|hM|hM
 .have HF:Hid (loA s=loF 0 4294967296 (fs.map toL)):=by
   show _=_;rw[HNM.out,RX om]
  have HM:Hid (fs.length=1):=hM;rw[hM]at OV⊢;simp only[show ((1:Nat):Int)=(1:Int) from rfl,show decide ((4:Int)<(1:Int))=false from by decide,show decide ((1:Int)<(1:Int))=false from by decide,zg,zh,show ((0:Nat):Int)=(0:Int) from rfl];clear hM hlen2
  go_loop[5,6] (fun x i=> ∃k n:Nat,k<=1/\i=I J k/\x=I J n/\n<256^k/\loF n (4294967296/256^k) ((fs.drop k).map toL)=loF 0 4294967296 (fs.map toL)) (fun _ i=>1-(intOf i).toNat)
  case atStart=>exact ⟨0,0,zk _,rfl,rfl,de,rfl⟩
  obtain ⟨k,n,hk,rfl,rfl,hn,hf⟩:=hrel;have HR:Hid (loF n (4294967296/256^k) ((fs.drop k).map toL)=loF 0 4294967296 (fs.map toL)):=hf;have HN:Hid (n<256^k):=hn;clear hf;have HN2:Hid (k<1->(n:Int)<16777216):=fun h=>by have h2:=EX (k:=k) om;omega
  clear hn
  by_cases hlt:k<1
  .obtain ⟨a,ha⟩: ∃a:Int,(n:Int)=a:=⟨_,rfl⟩
   have hn3:a<16777216:=by rw[<-ha];exact HN2.out hlt
   have hn0:0<=a:=om;have HAN:Hid ((n:Int)=a):=ha;rw[ha];clear ha;have hc:=cO OV k om;have hsy:=HSZ.out _ (nX (k:=k) (by have:=HM.out;omega));have CT:Hid (∀W,CS 169 #[L (fs.getD k za)] W (I J (eQ (cJ (toL (fs.getD k za)))))):=fun W=>tS _ W hsy
   have hki:(k:Int)<1:=om
   by_cases hl:k+1=1
   .have HS:Hid (_=_):=xF fs k n (4294967296/256^k) (by have:=HM.out;omega)
    obtain rfl:k=1-1:=om
    rw[show 4294967296/256^(1-1)=4294967296 from by decide]at HS HR;generalize fs.getD (1-1) za=y at hc CT HS hsy;clear hl hsy
    cases hv:cJ (toL y)with
    |none=>
     rw[hv]at CT HS;have HZ:Hid (loA s=none):=by
      show _=_;rw[HF.out,<-HR.out,HS.out]
     clear hv;have hng:(-1:Int)<0:=de;go_wp2_with fail;refine (CT.out _).mono ?_;rintro e w' ⟨rfl,rfl⟩;simp only[eQ];go_wp2_with fail;go_ret2;exact ⟨by rw[HZ.out];rfl,ba⟩
    |some v=>
     rw[hv]at CT HS;clear hv
     by_cases hvr:v<4294967296
     .have HZ:Hid (loA s=some (n*4294967296+v)):=by
       show _=_;rw[HF.out,<-HR.out,HS.out];exact if_pos hvr
      have hv1:(v:Int)<4294967296:=om;have hv0: ¬(v:Int)<0:=om;obtain ⟨x,hx⟩: ∃x:Int,(v:Int)=x:=⟨_,rfl⟩;rw[hx]at hv1 hv0;have e2:bits .or .i64 (a*4294967296) x=a*4294967296+x:=jD 32 _ _ om om om om om om;have HX:Hid ((v:Int)=x):=hx;clear hx;have HV:Hid (v<4294967296):=hvr;clear hvr;go_wp2_with fail;refine (CT.out _).mono ?_;rintro e w' ⟨rfl,rfl⟩;simp only[eQ];rw[HX.out];go_wp2_with fail;go_ret2;exact ⟨by rw[HZ.out];have h1:=HAN.out;have h2:=HX.out;simp[fL];omega,ba⟩
     have HZ:Hid (loA s=none):=by
      show _=_;rw[HF.out,<-HR.out,HS.out];exact if_neg hvr
     have hv1: ¬(v:Int)<4294967296:=om;have hv0: ¬(v:Int)<0:=om;have HV:Hid (¬v<4294967296):=hvr;clear hvr;go_wp2_with fail;refine (CT.out _).mono ?_;rintro e w' ⟨rfl,rfl⟩;simp only[eQ];go_wp2_with fail;go_ret2;exact ⟨by rw[HZ.out];rfl,ba⟩
   exfalso;omega
  have HZ:Hid (loA s=none):=by
   show _=_;rw[HF.out,<-HR.out];exact NS fs k _ _ (by have:=HM.out;omega)
  have hki: ¬(k:Int)<1:=om;go_wp2_with fail;go_ret2;exact ⟨by rw[HZ.out];rfl,ba⟩
 .have HF:Hid (loA s=loF 0 4294967296 (fs.map toL)):=by
   show _=_;rw[HNM.out,RX om]
  have HM:Hid (fs.length=2):=hM;rw[hM]at OV⊢;simp only[show ((2:Nat):Int)=(2:Int) from rfl,show decide ((4:Int)<(2:Int))=false from by decide,show decide ((1:Int)<(2:Int))=true from by decide,zg,zh,show ((1:Nat):Int)=(1:Int) from rfl];clear hM hlen2
  go_loop[5,6] (fun x i=> ∃k n:Nat,k<=2/\i=I J k/\x=I J n/\n<256^k/\loF n (4294967296/256^k) ((fs.drop k).map toL)=loF 0 4294967296 (fs.map toL)) (fun _ i=>2-(intOf i).toNat)
  case atStart=>exact ⟨0,0,zk _,rfl,rfl,de,rfl⟩
  obtain ⟨k,n,hk,rfl,rfl,hn,hf⟩:=hrel;have HR:Hid (loF n (4294967296/256^k) ((fs.drop k).map toL)=loF 0 4294967296 (fs.map toL)):=hf;have HN:Hid (n<256^k):=hn;clear hf;have HN2:Hid (k<2->(n:Int)<16777216):=fun h=>by have h2:=EX (k:=k) om;omega
  clear hn
  by_cases hlt:k<2
  .obtain ⟨a,ha⟩: ∃a:Int,(n:Int)=a:=⟨_,rfl⟩
   have hn3:a<16777216:=by rw[<-ha];exact HN2.out hlt
   have hn0:0<=a:=om;have HAN:Hid ((n:Int)=a):=ha;rw[ha];clear ha;have hc:=cO OV k om;have hsy:=HSZ.out _ (nX (k:=k) (by have:=HM.out;omega));have CT:Hid (∀W,CS 169 #[L (fs.getD k za)] W (I J (eQ (cJ (toL (fs.getD k za)))))):=fun W=>tS _ W hsy
   have hki:(k:Int)<2:=om
   by_cases hl:k+1=2
   .have HS:Hid (_=_):=xF fs k n (4294967296/256^k) (by have:=HM.out;omega)
    obtain rfl:k=2-1:=om
    rw[show 4294967296/256^(2-1)=16777216 from by decide]at HS HR;generalize fs.getD (2-1) za=y at hc CT HS hsy;clear hl hsy
    cases hv:cJ (toL y)with
    |none=>
     rw[hv]at CT HS;have HZ:Hid (loA s=none):=by
      show _=_;rw[HF.out,<-HR.out,HS.out]
     clear hv;have hng:(-1:Int)<0:=de;go_wp2_with fail;refine (CT.out _).mono ?_;rintro e w' ⟨rfl,rfl⟩;simp only[eQ];go_wp2_with fail;go_ret2;exact ⟨by rw[HZ.out];rfl,ba⟩
    |some v=>
     rw[hv]at CT HS;clear hv
     by_cases hvr:v<16777216
     .have HZ:Hid (loA s=some (n*16777216+v)):=by
       show _=_;rw[HF.out,<-HR.out,HS.out];exact if_pos hvr
      have hv1:(v:Int)<16777216:=om;have hv0: ¬(v:Int)<0:=om;obtain ⟨x,hx⟩: ∃x:Int,(v:Int)=x:=⟨_,rfl⟩;rw[hx]at hv1 hv0;have e2:bits .or .i64 (a*16777216) x=a*16777216+x:=jD 24 _ _ om om om om om om;have HX:Hid ((v:Int)=x):=hx;clear hx;have HV:Hid (v<16777216):=hvr;clear hvr;go_wp2_with fail;refine (CT.out _).mono ?_;rintro e w' ⟨rfl,rfl⟩;simp only[eQ];rw[HX.out];go_wp2_with fail;go_ret2;exact ⟨by rw[HZ.out];have h1:=HAN.out;have h2:=HX.out;simp[fL];omega,ba⟩
     have HZ:Hid (loA s=none):=by
      show _=_;rw[HF.out,<-HR.out,HS.out];exact if_neg hvr
     have hv1: ¬(v:Int)<16777216:=om;have hv0: ¬(v:Int)<0:=om;have HV:Hid (¬v<16777216):=hvr;clear hvr;go_wp2_with fail;refine (CT.out _).mono ?_;rintro e w' ⟨rfl,rfl⟩;simp only[eQ];go_wp2_with fail;go_ret2;exact ⟨by rw[HZ.out];rfl,ba⟩
   have HS:Hid (_=_):=DT fs k n (4294967296/256^k) (by have:=HM.out;omega);have HL:Hid (k+1<2):=by show _<_;omega
   have hkq:((k:Int)==1)=false:=by simp;omega
   generalize fs.getD k za=y at hc CT HS hsy;clear hl hsy
   cases hv:cJ (toL y)with
   |none=>
    rw[hv]at CT HS;have HZ:Hid (loA s=none):=by
     show _=_;rw[HF.out,<-HR.out,HS.out]
    clear hv;go_wp2_with fail;refine (CT.out _).mono ?_;rintro e w' ⟨rfl,rfl⟩;simp only[eQ];go_wp2_with fail;go_ret2;exact ⟨by rw[HZ.out];rfl,ba⟩
   |some v=>
    rw[hv]at CT HS;clear hv
    by_cases hvr:v<256
    .have HG:Hid (loF (n*256+v) (4294967296/256^k/256) ((fs.drop (k+1)).map toL)=loF 0 4294967296 (fs.map toL)):=by
      show _=_;rw[<-HR.out,HS.out];exact (if_pos hvr).symm
     have hv1: ¬255<(v:Int):=om;have hv0: ¬(v:Int)<0:=om;obtain ⟨x,hx⟩: ∃x:Int,(v:Int)=x:=⟨_,rfl⟩;rw[hx]at hv1 hv0;have e2:bits .or .i64 (a*256) x=a*256+x:=jD 8 _ _ om om om om om om;have HX:Hid ((v:Int)=x):=hx;clear hx;have HV:Hid (v<256):=hvr;clear hvr;go_wp2_with fail;refine (CT.out _).mono ?_;rintro e w' ⟨rfl,rfl⟩;simp only[eQ];rw[HX.out];go_wp2_with fail;go_round
     case rel=>
      refine ⟨k+1,n*256+v,by have:=HL.out;omega,gn,by have h1:=HAN.out;have h2:=HX.out;go_num,?_,?_⟩
      .have h1:=HN.out
       have h2:=HV.out;rw[zd];omega
      rw[zd,<-ze];exact HG.out
     case measure=>simp[intOf];have:=HL.out;omega
    have HZ:Hid (loA s=none):=by
     show _=_;rw[HF.out,<-HR.out,HS.out];exact if_neg hvr
    have hv1:255<(v:Int):=om;have hv0: ¬(v:Int)<0:=om;have HV:Hid (¬v<256):=hvr;clear hvr;go_wp2_with fail;refine (CT.out _).mono ?_;rintro e w' ⟨rfl,rfl⟩;simp only[eQ];go_wp2_with fail;go_ret2;exact ⟨by rw[HZ.out];rfl,ba⟩
  have HZ:Hid (loA s=none):=by
   show _=_;rw[HF.out,<-HR.out];exact NS fs k _ _ (by have:=HM.out;omega)
  have hki: ¬(k:Int)<2:=om;go_wp2_with fail;go_ret2;exact ⟨by rw[HZ.out];rfl,ba⟩
 .have HF:Hid (loA s=loF 0 4294967296 (fs.map toL)):=by
   show _=_;rw[HNM.out,RX om]
  have HM:Hid (fs.length=3):=hM;rw[hM]at OV⊢;simp only[show ((3:Nat):Int)=(3:Int) from rfl,show decide ((4:Int)<(3:Int))=false from by decide,show decide ((1:Int)<(3:Int))=true from by decide,zg,zh,show ((2:Nat):Int)=(2:Int) from rfl];clear hM hlen2
  go_loop[5,6] (fun x i=> ∃k n:Nat,k<=3/\i=I J k/\x=I J n/\n<256^k/\loF n (4294967296/256^k) ((fs.drop k).map toL)=loF 0 4294967296 (fs.map toL)) (fun _ i=>3-(intOf i).toNat)
  case atStart=>exact ⟨0,0,zk _,rfl,rfl,de,rfl⟩
  obtain ⟨k,n,hk,rfl,rfl,hn,hf⟩:=hrel;have HR:Hid (loF n (4294967296/256^k) ((fs.drop k).map toL)=loF 0 4294967296 (fs.map toL)):=hf;have HN:Hid (n<256^k):=hn;clear hf;have HN2:Hid (k<3->(n:Int)<16777216):=fun h=>by have h2:=EX (k:=k) om;omega
  clear hn
  by_cases hlt:k<3
  .obtain ⟨a,ha⟩: ∃a:Int,(n:Int)=a:=⟨_,rfl⟩
   have hn3:a<16777216:=by rw[<-ha];exact HN2.out hlt
   have hn0:0<=a:=om;have HAN:Hid ((n:Int)=a):=ha;rw[ha];clear ha;have hc:=cO OV k om;have hsy:=HSZ.out _ (nX (k:=k) (by have:=HM.out;omega));have CT:Hid (∀W,CS 169 #[L (fs.getD k za)] W (I J (eQ (cJ (toL (fs.getD k za)))))):=fun W=>tS _ W hsy
   have hki:(k:Int)<3:=om
   by_cases hl:k+1=3
   .have HS:Hid (_=_):=xF fs k n (4294967296/256^k) (by have:=HM.out;omega)
    obtain rfl:k=3-1:=om
    rw[show 4294967296/256^(3-1)=65536 from by decide]at HS HR;generalize fs.getD (3-1) za=y at hc CT HS hsy;clear hl hsy
    cases hv:cJ (toL y)with
    |none=>
     rw[hv]at CT HS;have HZ:Hid (loA s=none):=by
      show _=_;rw[HF.out,<-HR.out,HS.out]
     clear hv;have hng:(-1:Int)<0:=de;go_wp2_with fail;refine (CT.out _).mono ?_;rintro e w' ⟨rfl,rfl⟩;simp only[eQ];go_wp2_with fail;go_ret2;exact ⟨by rw[HZ.out];rfl,ba⟩
    |some v=>
     rw[hv]at CT HS;clear hv
     by_cases hvr:v<65536
     .have HZ:Hid (loA s=some (n*65536+v)):=by
       show _=_;rw[HF.out,<-HR.out,HS.out];exact if_pos hvr
      have hv1:(v:Int)<65536:=om;have hv0: ¬(v:Int)<0:=om;obtain ⟨x,hx⟩: ∃x:Int,(v:Int)=x:=⟨_,rfl⟩;rw[hx]at hv1 hv0;have e2:bits .or .i64 (a*65536) x=a*65536+x:=jD 16 _ _ om om om om om om;have HX:Hid ((v:Int)=x):=hx;clear hx;have HV:Hid (v<65536):=hvr;clear hvr;go_wp2_with fail;refine (CT.out _).mono ?_;rintro e w' ⟨rfl,rfl⟩;simp only[eQ];rw[HX.out];go_wp2_with fail;go_ret2;exact ⟨by rw[HZ.out];have h1:=HAN.out;have h2:=HX.out;simp[fL];omega,ba⟩
     have HZ:Hid (loA s=none):=by
      show _=_;rw[HF.out,<-HR.out,HS.out];exact if_neg hvr
     have hv1: ¬(v:Int)<65536:=om;have hv0: ¬(v:Int)<0:=om;have HV:Hid (¬v<65536):=hvr;clear hvr;go_wp2_with fail;refine (CT.out _).mono ?_;rintro e w' ⟨rfl,rfl⟩;simp only[eQ];go_wp2_with fail;go_ret2;exact ⟨by rw[HZ.out];rfl,ba⟩
   have HS:Hid (_=_):=DT fs k n (4294967296/256^k) (by have:=HM.out;omega);have HL:Hid (k+1<3):=by show _<_;omega
   have hkq:((k:Int)==2)=false:=by simp;omega
   generalize fs.getD k za=y at hc CT HS hsy;clear hl hsy
   cases hv:cJ (toL y)with
   |none=>
    rw[hv]at CT HS;have HZ:Hid (loA s=none):=by
     show _=_;rw[HF.out,<-HR.out,HS.out]
    clear hv;go_wp2_with fail;refine (CT.out _).mono ?_;rintro e w' ⟨rfl,rfl⟩;simp only[eQ];go_wp2_with fail;go_ret2;exact ⟨by rw[HZ.out];rfl,ba⟩
   |some v=>
    rw[hv]at CT HS;clear hv
    by_cases hvr:v<256
    .have HG:Hid (loF (n*256+v) (4294967296/256^k/256) ((fs.drop (k+1)).map toL)=loF 0 4294967296 (fs.map toL)):=by
      show _=_;rw[<-HR.out,HS.out];exact (if_pos hvr).symm
     have hv1: ¬255<(v:Int):=om;have hv0: ¬(v:Int)<0:=om;obtain ⟨x,hx⟩: ∃x:Int,(v:Int)=x:=⟨_,rfl⟩;rw[hx]at hv1 hv0;have e2:bits .or .i64 (a*256) x=a*256+x:=jD 8 _ _ om om om om om om;have HX:Hid ((v:Int)=x):=hx;clear hx;have HV:Hid (v<256):=hvr;clear hvr;go_wp2_with fail;refine (CT.out _).mono ?_;rintro e w' ⟨rfl,rfl⟩;simp only[eQ];rw[HX.out];go_wp2_with fail;go_round
     case rel=>
      refine ⟨k+1,n*256+v,by have:=HL.out;omega,gn,by have h1:=HAN.out;have h2:=HX.out;go_num,?_,?_⟩
      .have h1:=HN.out
       have h2:=HV.out;rw[zd];omega
      rw[zd,<-ze];exact HG.out
     case measure=>simp[intOf];have:=HL.out;omega
    have HZ:Hid (loA s=none):=by
     show _=_;rw[HF.out,<-HR.out,HS.out];exact if_neg hvr
    have hv1:255<(v:Int):=om;have hv0: ¬(v:Int)<0:=om;have HV:Hid (¬v<256):=hvr;clear hvr;go_wp2_with fail;refine (CT.out _).mono ?_;rintro e w' ⟨rfl,rfl⟩;simp only[eQ];go_wp2_with fail;go_ret2;exact ⟨by rw[HZ.out];rfl,ba⟩
  have HZ:Hid (loA s=none):=by
   show _=_;rw[HF.out,<-HR.out];exact NS fs k _ _ (by have:=HM.out;omega)
  have hki: ¬(k:Int)<3:=om;go_wp2_with fail;go_ret2;exact ⟨by rw[HZ.out];rfl,ba⟩
 have HF:Hid (loA s=loF 0 4294967296 (fs.map toL)):=by
  show _=_;rw[HNM.out,RX om]
 have HM:Hid (fs.length=4):=hM;rw[hM]at OV⊢;simp only[show ((4:Nat):Int)=(4:Int) from rfl,show decide ((4:Int)<(4:Int))=false from by decide,show decide ((1:Int)<(4:Int))=true from by decide,zg,zh,show ((3:Nat):Int)=(3:Int) from rfl];clear hM hlen2
 go_loop[5,6] (fun x i=> ∃k n:Nat,k<=4/\i=I J k/\x=I J n/\n<256^k/\loF n (4294967296/256^k) ((fs.drop k).map toL)=loF 0 4294967296 (fs.map toL)) (fun _ i=>4-(intOf i).toNat)
 case atStart=>exact ⟨0,0,zk _,rfl,rfl,de,rfl⟩
 obtain ⟨k,n,hk,rfl,rfl,hn,hf⟩:=hrel;have HR:Hid (loF n (4294967296/256^k) ((fs.drop k).map toL)=loF 0 4294967296 (fs.map toL)):=hf;have HN:Hid (n<256^k):=hn;clear hf;have HN2:Hid (k<4->(n:Int)<16777216):=fun h=>by have h2:=EX (k:=k) om;omega
 clear hn
 by_cases hlt:k<4
 .obtain ⟨a,ha⟩: ∃a:Int,(n:Int)=a:=⟨_,rfl⟩
  have hn3:a<16777216:=by rw[<-ha];exact HN2.out hlt
  have hn0:0<=a:=om;have HAN:Hid ((n:Int)=a):=ha;rw[ha];clear ha;have hc:=cO OV k om;have hsy:=HSZ.out _ (nX (k:=k) (by have:=HM.out;omega));have CT:Hid (∀W,CS 169 #[L (fs.getD k za)] W (I J (eQ (cJ (toL (fs.getD k za)))))):=fun W=>tS _ W hsy
  have hki:(k:Int)<4:=om
  by_cases hl:k+1=4
  .have HS:Hid (_=_):=xF fs k n (4294967296/256^k) (by have:=HM.out;omega)
   obtain rfl:k=4-1:=om
   rw[show 4294967296/256^(4-1)=256 from by decide]at HS HR;generalize fs.getD (4-1) za=y at hc CT HS hsy;clear hl hsy
   cases hv:cJ (toL y)with
   |none=>
    rw[hv]at CT HS;have HZ:Hid (loA s=none):=by
     show _=_;rw[HF.out,<-HR.out,HS.out]
    clear hv;have hng:(-1:Int)<0:=de;go_wp2_with fail;refine (CT.out _).mono ?_;rintro e w' ⟨rfl,rfl⟩;simp only[eQ];go_wp2_with fail;go_ret2;exact ⟨by rw[HZ.out];rfl,ba⟩
   |some v=>
    rw[hv]at CT HS;clear hv
    by_cases hvr:v<256
    .have HZ:Hid (loA s=some (n*256+v)):=by
      show _=_;rw[HF.out,<-HR.out,HS.out];exact if_pos hvr
     have hv1:(v:Int)<256:=om;have hv0: ¬(v:Int)<0:=om;obtain ⟨x,hx⟩: ∃x:Int,(v:Int)=x:=⟨_,rfl⟩;rw[hx]at hv1 hv0;have e2:bits .or .i64 (a*256) x=a*256+x:=jD 8 _ _ om om om om om om;have HX:Hid ((v:Int)=x):=hx;clear hx;have HV:Hid (v<256):=hvr;clear hvr;go_wp2_with fail;refine (CT.out _).mono ?_;rintro e w' ⟨rfl,rfl⟩;simp only[eQ];rw[HX.out];go_wp2_with fail;go_ret2;exact ⟨by rw[HZ.out];have h1:=HAN.out;have h2:=HX.out;simp[fL];omega,ba⟩
    have HZ:Hid (loA s=none):=by
     show _=_;rw[HF.out,<-HR.out,HS.out];exact if_neg hvr
    have hv1: ¬(v:Int)<256:=om;have hv0: ¬(v:Int)<0:=om;have HV:Hid (¬v<256):=hvr;clear hvr;go_wp2_with fail;refine (CT.out _).mono ?_;rintro e w' ⟨rfl,rfl⟩;simp only[eQ];go_wp2_with fail;go_ret2;exact ⟨by rw[HZ.out];rfl,ba⟩
  have HS:Hid (_=_):=DT fs k n (4294967296/256^k) (by have:=HM.out;omega);have HL:Hid (k+1<4):=by show _<_;omega
  have hkq:((k:Int)==3)=false:=by simp;omega
  generalize fs.getD k za=y at hc CT HS hsy;clear hl hsy
  cases hv:cJ (toL y)with
  |none=>
   rw[hv]at CT HS;have HZ:Hid (loA s=none):=by
    show _=_;rw[HF.out,<-HR.out,HS.out]
   clear hv;go_wp2_with fail;refine (CT.out _).mono ?_;rintro e w' ⟨rfl,rfl⟩;simp only[eQ];go_wp2_with fail;go_ret2;exact ⟨by rw[HZ.out];rfl,ba⟩
  |some v=>
   rw[hv]at CT HS;clear hv
   by_cases hvr:v<256
   .have HG:Hid (loF (n*256+v) (4294967296/256^k/256) ((fs.drop (k+1)).map toL)=loF 0 4294967296 (fs.map toL)):=by
     show _=_;rw[<-HR.out,HS.out];exact (if_pos hvr).symm
    have hv1: ¬255<(v:Int):=om;have hv0: ¬(v:Int)<0:=om;obtain ⟨x,hx⟩: ∃x:Int,(v:Int)=x:=⟨_,rfl⟩;rw[hx]at hv1 hv0;have e2:bits .or .i64 (a*256) x=a*256+x:=jD 8 _ _ om om om om om om;have HX:Hid ((v:Int)=x):=hx;clear hx;have HV:Hid (v<256):=hvr;clear hvr;go_wp2_with fail;refine (CT.out _).mono ?_;rintro e w' ⟨rfl,rfl⟩;simp only[eQ];rw[HX.out];go_wp2_with fail;go_round
    case rel=>
     refine ⟨k+1,n*256+v,by have:=HL.out;omega,gn,by have h1:=HAN.out;have h2:=HX.out;go_num,?_,?_⟩
     .have h1:=HN.out
      have h2:=HV.out;rw[zd];omega
     rw[zd,<-ze];exact HG.out
    case measure=>simp[intOf];have:=HL.out;omega
   have HZ:Hid (loA s=none):=by
    show _=_;rw[HF.out,<-HR.out,HS.out];exact if_neg hvr
   have hv1:255<(v:Int):=om;have hv0: ¬(v:Int)<0:=om;have HV:Hid (¬v<256):=hvr;clear hvr;go_wp2_with fail;refine (CT.out _).mono ?_;rintro e w' ⟨rfl,rfl⟩;simp only[eQ];go_wp2_with fail;go_ret2;exact ⟨by rw[HZ.out];rfl,ba⟩
 have HZ:Hid (loA s=none):=by
  show _=_;rw[HF.out,<-HR.out];exact NS fs k _ _ (by have:=HM.out;omega)
 have hki: ¬(k:Int)<4:=om;go_wp2_with fail;go_ret2;exact ⟨by rw[HZ.out];rfl,ba⟩
