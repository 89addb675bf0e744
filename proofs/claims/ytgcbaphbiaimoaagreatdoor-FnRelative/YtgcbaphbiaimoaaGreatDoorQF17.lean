/- PercentWalk, PlainlyWalk, DotSpec, KeepBox, DropDotsSpec, UrlSpec1. -/
import Derived.Test.YtgcbaphbiaimoaaGreatDoorQF16
import Derived.RangeFuncBox
set_option maxHeartbeats 4000000
set_option maxRecDepth 100000
namespace Go.Proofs.YtgcbaphbiaimoaaGreatDoor
open Go.Value renaming int->I,string->L,bool->H
open Go.IntKind renaming i64->J
open Go.Ending renaming returned->Y
open _root_.Go.RowKit.Below renaming refl->zk
open _root_.ByteArray renaming empty->zc,size_append->zv,size_extract->zm
open _root_.Int renaming eq_ofNat_of_zero_le->zq
open _root_.List renaming append_assoc->zw,append_nil->zj,eq_nil_of_length_eq_zero->zo,getD_eq_getElem?_getD->zp,getElem?_eq_getElem->ze,head?_eq_getElem?->zr,length_append->zl,length_take->zn,replicate->zi,size_toArray->zy,take_of_length_le->zs
open _root_.Nat renaming le_refl->zf,lt_of_lt_of_le->zg,min_eq_left->zu,zero_le->zh
open _root_.UInt8 renaming ofNat->zd,toNat_inj->zt
open _root_.Go.World renaming ownsRow_lit->zx
open _root_.Go.Proofs.Tryz
open _root_.Go.Proofs.YtgcbaphbiaimoaaGreatDoor.Tryz
open Go.RowKit
theorem QX{set:Int}{c:UInt8}(h:dV set c.toNat=true):fH set c=[c]:=by unfold fH;rw[h];rfl
theorem XZ{set:Int}{c:UInt8}(h:dV set c.toNat=false):fH set c=oZ c:=by unfold fH;rw[h];rfl
theorem EH(c:UInt8)(d:Nat)(hd:c.toNat=d)(set:Int)(v:Value)(o:List UInt8)(B:Nat)(w:World)(hM:gG w)(hown:w.ownsRow B 5 1 v o.length (aD o))(hB:B<=w.heap.size)(hl:o.length<=1099511627776):Calls prog 157 #[v,.int .u8 (d:Int),I J set] w fun e w'=> ∃v',e=Y v'/\w'.ownsRow B 5 1 v' (o++fH set c).length (aD (o++fH set c))/\Below B w w':=by
 have hd1:(d:Int)<=255:=by have:=c.toNat_lt;omega
 have hd0:0<=(d:Int):=om;have ck:=ZU set (d:Int) w hM;rw[xZ]at ck
 cases hk:dV set d with
 |true=>
  have HK:Hid (fH set c=[c]):=QX (by rw[hd];exact hk);have HD:Hid ((d:Int)=(c.toNat:Int)):=by show _=_;rw[hd]
  rw[hk]at ck;have CK:Hid (CS 216 #[I J set,I J (d:Int)] w (H true)):=ck;clear ck hk hd hM;go_enter func157,ntmps157;go_wp2_with fail;refine CK.out.mono ?_;rintro e w' ⟨rfl,rfl⟩;go_wp2_with (at_builtin;refine aB _ rfl _ _ 22 rfl B 5 (.int .u8 0) 1 underlying22 info5 rfl _ _ _ rfl hown #[.int .u8 (d:Int)] 1 rfl rfl (jJ _) om (by unfold maxLen;omega) om ?_);intro v' w1 hown' hb1;have R:=jI c HD.out hown';clear hown';go_wp2;go_ret;exact ⟨_,rfl,by rw[HK.out];exact R,hb1⟩
 |false=>
  have HK:Hid (fH set c=oZ c):=XZ (by rw[hd];exact hk);have HD:Hid (c.toNat=d):=hd;rw[hk]at ck;have CK:Hid (CS 216 #[I J set,I J (d:Int)] w (H false)):=ck;clear ck hk hd hM;go_enter func157,ntmps157;go_wp2_with fail;refine CK.out.mono ?_;rintro e w' ⟨rfl,rfl⟩;go_wp2_with fail;refine (tP c d HD.out _ o B _ hown hB hl).mono ?_;rintro e w1 ⟨v',rfl,hown',hb1⟩;go_wp2;go_ret;exact ⟨_,rfl,by rw[HK.out];exact hown',hb1⟩
theorem V9(set:Int)(s:ByteArray)(k n:Nat)(h:cM s k=(n:Int))(o:List UInt8)(he:o++plL set (s.data.toList.drop k)=plL set s.data.toList):
  (o++gZ (zd n))++plL set (s.data.toList.drop (k+3))=plL set s.data.toList:=by
 rw[<-he];unfold plL;rw[AJ _ _ s k om,h,zw];rfl
theorem YA(set:Int)(s:ByteArray)(k:Nat)(hk:k<s.size)(o:List UInt8)(h:cM s k<0)(he:o++plL set (s.data.toList.drop k)=plL set s.data.toList):
  (o++fH set s[k])++plL set (s.data.toList.drop (k+1))=plL set s.data.toList:=by
 rw[<-he];unfold plL;rw[vF _ _ s k hk h,zw]
theorem W2(set:Int)(s:ByteArray)(k:Nat)(hk:s.size<=k)(o:List UInt8)(he:o++plL set (s.data.toList.drop k)=plL set s.data.toList):o=plL set s.data.toList:=by
 rw[<-he];unfold plL;rw[WQ _ _ s k hk];simp
theorem JP(n:Nat):tM (n:Int)=eF n:=by simp[tM]
theorem oG(s:ByteArray)(set:Int)(w:World)(hM:gG w)(hs:s.size<=4294967296):Calls prog 104 #[L s,I J set] w fun e w'=>e=Y (L ⟨(plL set s.data.toList).toArray⟩)/\Below w.heap.size w w':=by
 have HM:Hid (gG w):=hM;clear hM;obtain ⟨i0,hi,hz0,hz1,hz2⟩:=info_parts info5;go_enter func104,ntmps104;go_wp2_with (at_make;refine wpList_make_own _ rfl _ _ 22 rfl w.heap.size 5 i0 (.int .u8 0) 1 underlying22 hi hz0 hz1 _ _ _ s.size rfl rfl om (by rw[hz2];omega) (by unfold maxLen;omega) (zf _) ?_);intro wm hmo hgm;have Bm:Below w.heap.size w wm:=(zk _ _).grown hgm (zf _) (fun k hk=>by cases hk);clear hgm;go_wp2
 go_loopw[5,6] (fun v i wr=> ∃(k:Nat) (o:List UInt8),k<=s.size/\i=I J k/\o.length<=3*k/\wr.ownsRow w.heap.size 5 1 v o.length (aD o)/\o++plL set (s.data.toList.drop k)=plL set s.data.toList/\Below w.heap.size w wr)
  (fun _ i _=>s.size-(intOf i).toNat)
 case atStart=>exact ⟨0,[],zh _,rfl,zh _,hmo,rfl,Bm⟩
 clear hmo Bm hi hz0 hz1 hz2;obtain ⟨k,o,hk,rfl,hol,hown,he,hbel⟩:=hrel;have HE:Hid (o++plL set (s.data.toList.drop k)=plL set s.data.toList):=he;clear he;have hsz:=hbel.size
 by_cases hlt:k<s.size
 .have hct:=fun W=>JM s k W hlt om
  have hcl:=rJ s k
  by_cases hc:0<=cM s k
  .obtain ⟨n,hn⟩:=zq hc
   have hk3:=pB hc;have HN:Hid ((o++gZ (zd n))++plL set (s.data.toList.drop (k+3))=plL set s.data.toList):=V9 set s k n hn o HE.out;have HT:Hid ((zd n).toNat=n):=by show _=_;simp;omega
   have HF:Hid (gZ (zd n)=if eF n then [zd n]else oZ (zd n)):=by show _=_;unfold gZ;rw[HT.out]
   rw[hn]at hct hcl;have hn1:(n:Int)<=255:=hcl.2;have hn0:0<=(n:Int):=om;have HC:Hid (∀W,CB 156 #[L s,I J (k:Int)] W (I J (n:Int))):=hct;clear hct hcl hc hn
   cases hf:eF n with
   |true=>
    rw[hf,if_pos rfl]at HF;rw[HF.out]at HN;have ckk:=fun (W:World) (hb:Below w.heap.size w W)=>rQ n W (HM.out.later hb) hn1
    rw[hf]at ckk;have CK:Hid (∀W,Below w.heap.size w W->CS 158 #[.int .u8 (n:Int)] W (H true)):=ckk;have HX:Hid ((n:Int)=((zd n).toNat:Int)):=by show _=_;rw[HT.out]
    clear ckk hf HF;generalize zd n=u at HN HT HX;go_wp2_with fail;refine (HC.out _).mono ?_;rintro e wb ⟨rfl,bb⟩;have ob:=aH hown bb;have hsb:=bb.size;have Bb:Below w.heap.size w wb:=hbel.trans (bb.mono hsz);clear bb hbel hown;go_wp2_with fail;refine (CK.out _ Bb).mono ?_;rintro e w' ⟨rfl,rfl⟩;go_wp2_with (at_builtin;refine aB _ rfl _ _ 22 rfl w.heap.size 5 (.int .u8 0) 1 underlying22 info5 rfl _ _ _ rfl ob #[.int .u8 (n:Int)] 1 rfl rfl (jJ _) om (by unfold maxLen;omega) om ?_);intro v' w1 hown' hb1;have R:=jI u HX.out hown';have B1:Below w.heap.size w w1:=Bb.trans hb1;clear hown' hb1 ob Bb;go_wp2;go_roundw
    case rel=>exact ⟨k+3,_,om,gn,by simp;omega,R,HN.out,B1⟩
    case measure=>exact j1
   |false=>
    rw[hf,if_neg de]at HF;rw[HF.out]at HN;have ckk:=fun (W:World) (hb:Below w.heap.size w W)=>rQ n W (HM.out.later hb) hn1
    rw[hf]at ckk;have CK:Hid (∀W,Below w.heap.size w W->CS 158 #[.int .u8 (n:Int)] W (H false)):=ckk;clear ckk hf HF;generalize zd n=u at HN HT;go_wp2_with fail;refine (HC.out _).mono ?_;rintro e wb ⟨rfl,bb⟩;have ob:=aH hown bb;have hsb:=bb.size;have Bb:Below w.heap.size w wb:=hbel.trans (bb.mono hsz);clear bb hbel hown;go_wp2_with fail;refine (CK.out _ Bb).mono ?_;rintro e w' ⟨rfl,rfl⟩;go_wp2_with fail;refine (tP u n HT.out _ o w.heap.size _ ob om om).mono ?_;rintro e w1 ⟨v',rfl,hown',hb1⟩;have B1:Below w.heap.size w w1:=Bb.trans hb1;clear hb1 ob Bb;go_wp2;go_roundw
    case rel=>exact ⟨k+3,_,om,gn,by simp[oZ];omega,hown',HN.out,B1⟩
    case measure=>exact j1
  have HN:Hid ((o++fH set s[k])++plL set (s.data.toList.drop (k+1))=plL set s.data.toList):=YA set s k hlt o om HE.out;obtain ⟨d,hd⟩: ∃d:Nat,s[k].toNat=d:=⟨_,rfl⟩;have hd1:(d:Int)<=255:=by have:=s[k].toNat_lt;omega
  have hd0:0<=(d:Int):=om;have HD:Hid (s[k].toNat=d):=hd;have hkl:=BO set s[k];generalize cM s k=c at hct hcl hc;obtain ⟨hc0,hc1⟩:=hcl;have HC:Hid (∀W,CB 156 #[L s,I J (k:Int)] W (I J c)):=hct;clear hct;go_wp2_with fail;refine (HC.out _).mono ?_;rintro e wb ⟨rfl,bb⟩;have ob:=aH hown bb;have hsb:=bb.size;have Bb:Below w.heap.size w wb:=hbel.trans (bb.mono hsz);clear bb hbel hown;go_wp2_with fail;refine (EH s[k] d HD.out set _ o w.heap.size _ (HM.out.later Bb) ob om om).mono ?_;rintro e w1 ⟨v',rfl,hown',hb1⟩;have B1:Below w.heap.size w w1:=Bb.trans hb1;clear hb1 ob Bb;go_wp2;go_roundw
  case rel=>exact ⟨k+1,_,om,gn,by rw[zl];omega,hown',HN.out,B1⟩
  case measure=>exact j1
 have HO:=bG (P:=prog) wr 22 9 5 underlying22 underlying5 underlying9 hown;go_wp2;go_ret;exact ⟨sH (W2 set s k om o HE.out),hbel⟩
theorem zO(s:ByteArray)(set:Int)(w:World)(hs:s.size<=4294967296):Calls prog 41 #[L s,I J set] w fun e w'=>e=Y (L ⟨(plL set s.data.toList).toArray⟩)/\Below w.heap.size w w':=by
 go_enter func41,ntmps41;go_wp2
 go_loopw[5,6] (fun v i wr=> ∃(k:Nat) (o:List UInt8),k<=s.size/\i=I J k/\o.length<=3*k/\wr.ownsRow w.heap.size 5 1 v o.length (aD o)/\o++plL set (s.data.toList.drop k)=plL set s.data.toList/\Below w.heap.size w wr)
  (fun _ i _=>s.size-(intOf i).toNat)
 case atStart=>exact ⟨0,[],zh _,rfl,zh _,zx w #[] 0 (zf _) de rfl,rfl,(zk _ _).alloc (zf _) _⟩
 obtain ⟨k,o,hk,rfl,hol,hown,he,hbel⟩:=hrel;have HE:Hid (o++plL set (s.data.toList.drop k)=plL set s.data.toList):=he;clear he;have hsz:=hbel.size
 by_cases hlt:k<s.size
 .have hct:=fun W=>QW s k W hlt om
  have hcl:=rJ s k
  by_cases hc:0<=cM s k
  .obtain ⟨n,hn⟩:=zq hc
   have hk3:=pB hc;have HN:Hid ((o++gZ (zd n))++plL set (s.data.toList.drop (k+3))=plL set s.data.toList):=V9 set s k n hn o HE.out;have HT:Hid ((zd n).toNat=n):=by show _=_;simp;omega
   have HF:Hid (gZ (zd n)=if eF n then [zd n]else oZ (zd n)):=by show _=_;unfold gZ;rw[HT.out]
   rw[hn]at hct hcl;have hn1:(n:Int)<=255:=hcl.2;have hn0:0<=(n:Int):=om;have HC:Hid (∀W,CB 89 #[L s,I J (k:Int)] W (I J (n:Int))):=hct;clear hct hcl hc hn
   cases hf:eF n with
   |true=>
    rw[hf,if_pos rfl]at HF;rw[HF.out]at HN;have ckk:=fun (W:World) (_:Below w.heap.size w W)=>EG (n:Int) W
    simp only[JP,hf]at ckk;have CK:Hid (∀W,Below w.heap.size w W->CS 91 #[I J (n:Int)] W (H true)):=ckk;have HX:Hid ((n:Int)=((zd n).toNat:Int)):=by show _=_;rw[HT.out]
    clear ckk hf HF;generalize zd n=u at HN HT HX;go_wp2_with fail;refine (HC.out _).mono ?_;rintro e wb ⟨rfl,bb⟩;have ob:=aH hown bb;have hsb:=bb.size;have Bb:Below w.heap.size w wb:=hbel.trans (bb.mono hsz);clear bb hbel hown;go_wp2_with fail;refine (CK.out _ Bb).mono ?_;rintro e w' ⟨rfl,rfl⟩;go_wp2_with (at_builtin;refine aB _ rfl _ _ 22 rfl w.heap.size 5 (.int .u8 0) 1 underlying22 info5 rfl _ _ _ rfl ob #[.int .u8 (n:Int)] 1 rfl rfl (jJ _) om (by unfold maxLen;omega) om ?_);intro v' w1 hown' hb1;have R:=jI u HX.out hown';have B1:Below w.heap.size w w1:=Bb.trans hb1;clear hown' hb1 ob Bb;go_wp2;go_roundw
    case rel=>exact ⟨k+3,_,om,gn,by simp;omega,R,HN.out,B1⟩
    case measure=>exact j1
   |false=>
    rw[hf,if_neg de]at HF;rw[HF.out]at HN;have ckk:=fun (W:World) (_:Below w.heap.size w W)=>EG (n:Int) W
    simp only[JP,hf]at ckk;have CK:Hid (∀W,Below w.heap.size w W->CS 91 #[I J (n:Int)] W (H false)):=ckk;clear ckk hf HF;generalize zd n=u at HN HT;go_wp2_with fail;refine (HC.out _).mono ?_;rintro e wb ⟨rfl,bb⟩;have ob:=aH hown bb;have hsb:=bb.size;have Bb:Below w.heap.size w wb:=hbel.trans (bb.mono hsz);clear bb hbel hown;go_wp2_with fail;refine (CK.out _ Bb).mono ?_;rintro e w' ⟨rfl,rfl⟩;go_wp2_with fail;refine (XY u n HT.out _ o w.heap.size _ ob om om).mono ?_;rintro e w1 ⟨v',rfl,hown',hb1⟩;have B1:Below w.heap.size w w1:=Bb.trans hb1;clear hb1 ob Bb;go_wp2;go_roundw
    case rel=>exact ⟨k+3,_,om,gn,by simp[oZ];omega,hown',HN.out,B1⟩
    case measure=>exact j1
  have HN:Hid ((o++fH set s[k])++plL set (s.data.toList.drop (k+1))=plL set s.data.toList):=YA set s k hlt o om HE.out;obtain ⟨d,hd⟩: ∃d:Nat,s[k].toNat=d:=⟨_,rfl⟩;have hd1:(d:Int)<=255:=by have:=s[k].toNat_lt;omega
  have hd0:0<=(d:Int):=om;have HD:Hid (s[k].toNat=d):=hd;have hkl:=BO set s[k];generalize cM s k=c at hct hcl hc;obtain ⟨hc0,hc1⟩:=hcl;have HC:Hid (∀W,CB 89 #[L s,I J (k:Int)] W (I J c)):=hct;clear hct;have ckk:=fun W=>E6 set (d:Int) W
  simp only[xZ]at ckk
  cases hkp:dV set d with
  |true=>
   rw[QX (show dV set s[k].toNat=true by rw[hd];exact hkp)]at HN hkl;rw[hkp]at ckk;have CK:Hid (∀W,CS 90 #[I J set,I J (d:Int)] W (H true)):=ckk;have HX:Hid ((d:Int)=(s[k].toNat:Int)):=by show _=_;rw[hd]
   clear ckk hkp;go_wp2_with fail;refine (HC.out _).mono ?_;rintro e wb ⟨rfl,bb⟩;have ob:=aH hown bb;have hsb:=bb.size;have Bb:Below w.heap.size w wb:=hbel.trans (bb.mono hsz);clear bb hbel hown;go_wp2_with fail;refine (CK.out _).mono ?_;rintro e w' ⟨rfl,rfl⟩;go_wp2_with (at_builtin;refine aB _ rfl _ _ 22 rfl w.heap.size 5 (.int .u8 0) 1 underlying22 info5 rfl _ _ _ rfl ob #[.int .u8 (d:Int)] 1 rfl rfl (jJ _) om (by unfold maxLen;omega) om ?_);intro v' w1 hown' hb1;have R:=jI s[k] HX.out hown';have B1:Below w.heap.size w w1:=Bb.trans hb1;clear hown' hb1 ob Bb;go_wp2;go_roundw
   case rel=>exact ⟨k+1,_,om,gn,by simp;omega,R,HN.out,B1⟩
   case measure=>exact j1
  |false=>
   rw[XZ (show dV set s[k].toNat=false by rw[hd];exact hkp)]at HN hkl;rw[hkp]at ckk;have CK:Hid (∀W,CS 90 #[I J set,I J (d:Int)] W (H false)):=ckk;clear ckk hkp;go_wp2_with fail;refine (HC.out _).mono ?_;rintro e wb ⟨rfl,bb⟩;have ob:=aH hown bb;have hsb:=bb.size;have Bb:Below w.heap.size w wb:=hbel.trans (bb.mono hsz);clear bb hbel hown;go_wp2_with fail;refine (CK.out _).mono ?_;rintro e w' ⟨rfl,rfl⟩;go_wp2_with fail;refine (XY s[k] d HD.out _ o w.heap.size _ ob om om).mono ?_;rintro e w1 ⟨v',rfl,hown',hb1⟩;have B1:Below w.heap.size w w1:=Bb.trans hb1;clear hb1 ob Bb;go_wp2;go_roundw
   case rel=>exact ⟨k+1,_,om,gn,by simp[oZ];omega,hown',HN.out,B1⟩
   case measure=>exact j1
 have HO:=bG (P:=prog) wr 22 9 5 underlying22 underlying5 underlying9 hown;go_wp2;go_ret;exact ⟨sH (W2 set s k om o HE.out),hbel⟩
def wR(n:Int):Int:=if 1<=n/\n<=2 then n else 0
theorem W4{s:ByteArray}{k n:Nat}(hk:s.size<=k)(he:unL s.data.toList=zi n 46++unL (s.data.toList.drop k)):(isd s.data.toList:Int)=wR (n:Int):=by
 rw[Do hk he];unfold wR
 by_cases h:1<=n/\n<=2
 .rw[if_pos h,if_pos om]
 rw[if_neg h,if_neg om];rfl
theorem wS{l:List UInt8}(h:isd l=0):(isd l:Int)=wR (-1):=by rw[h];rfl
theorem VB(s:ByteArray)(w:World)(hs:s.size<=16777216):Calls prog 141 #[L s] w fun e w'=> ∃n:Int,e=Y (I J n)/\ -1<=n/\n<=16777216/\(isd s.data.toList:Int)=wR n/\w=w':=by
 go_enter func141,ntmps141;go_wp2
 go_loop[3,4] (fun n i=> ∃k m:Nat,k<=s.size/\i=I J k/\n=I J m/\m<=k/\unL s.data.toList=zi m 46++unL (s.data.toList.drop k))
  (fun _ i=>s.size-(intOf i).toNat)
 case atStart=>exact ⟨0,0,zh _,rfl,rfl,zf _,rfl⟩
 obtain ⟨k,m,hk,rfl,rfl,hm,he⟩:=hrel;have HE:Hid (unL s.data.toList=zi m 46++unL (s.data.toList.drop k)):=he;clear he
 by_cases hlt:k<s.size
 .by_cases h46:s[k].toNat=46
  .have HN:Hid (unL s.data.toList=zi (m+1) 46++unL (s.data.toList.drop (k+1))):=Dn hlt h46 HE.out
   go_wp2;go_round
   case rel=>exact ⟨k+1,m+1,om,gn,gn,om,HN.out⟩
   case measure=>exact j1
  by_cases h2:k+2<s.size
  .obtain ⟨d1,e1⟩: ∃d:Nat,s[k+1].toNat=d:=⟨_,rfl⟩
   obtain ⟨d2,e2⟩: ∃d:Nat,s[k+2].toNat=d:=⟨_,rfl⟩;have i1:=yR prog 9 underlying9 s ((k:Int)+1) (k+1) d1 om om e1;have i2:=yR prog 9 underlying9 s ((k:Int)+2) (k+2) d2 om om e2
   by_cases h37:s[k].toNat=37
   .by_cases h50:d1=50
    .by_cases he1:d2=101
     .have HN:Hid (unL s.data.toList=zi (m+1) 46++unL (s.data.toList.drop (k+3))):=XT h2 h37 om om HE.out
      go_wp2;go_round
      case rel=>exact ⟨k+3,m+1,om,gn,gn,om,HN.out⟩
      case measure=>exact j1
     by_cases he2:d2=69
     .have HN:Hid (unL s.data.toList=zi (m+1) 46++unL (s.data.toList.drop (k+3))):=XT h2 h37 om om HE.out
      go_wp2;go_round
      case rel=>exact ⟨k+3,m+1,om,gn,gn,om,HN.out⟩
      case measure=>exact j1
     have q1:((d2:Int)==101)=false:=by rw[beq_eq_false_iff_ne];omega
     have q2:((d2:Int)==69)=false:=by rw[beq_eq_false_iff_ne];omega
     have HO:Hid ((isd s.data.toList:Int)=wR (-1)):=wS (BA hlt om (fun _=>by omega) HE.out);go_wp2;go_ret;exact ⟨-1,rfl,om,om,HO.out,rfl⟩
    skip
    have HO:Hid ((isd s.data.toList:Int)=wR (-1)):=wS (BA hlt om (fun _=>by omega) HE.out);go_wp2;go_ret;exact ⟨-1,rfl,om,om,HO.out,rfl⟩
   skip
   have HO:Hid ((isd s.data.toList:Int)=wR (-1)):=wS (BA hlt om (fun _=>by omega) HE.out);go_wp2;go_ret;exact ⟨-1,rfl,om,om,HO.out,rfl⟩
  skip
  have HO:Hid ((isd s.data.toList:Int)=wR (-1)):=wS (BA hlt om (fun _=>by omega) HE.out);go_wp2;go_ret;exact ⟨-1,rfl,om,om,HO.out,rfl⟩
 have HO:Hid ((isd s.data.toList:Int)=wR (m:Int)):=W4 om HE.out;go_wp2;go_ret;exact ⟨m,rfl,om,om,HO.out,rfl⟩
theorem VC(s:ByteArray)(w:World)(hs:s.size<=16777216):Calls prog 94 #[L s] w fun e w'=>e=Y (I J (isd s.data.toList:Int))/\w=w':=by
 go_enter func94,ntmps94;go_wp2_with fail;refine (VB s _ hs).mono ?_;rintro e w' ⟨n,rfl,hn0,hn1,hi,rfl⟩;have HI:Hid ((isd s.data.toList:Int)=wR n):=hi;clear hi
 by_cases h:1<=n/\n<=2
 .have HA:Hid (wR n=n):=by show _=_;unfold wR;rw[if_pos h]
  go_wp2_with fail;refine j5 (aJ _ _ _ _ h.1 h.2) ?_;go_wp2;go_ret;exact ⟨aR (by rw[HI.out,HA.out]),rfl⟩
 have HA:Hid (wR n=0):=by show _=_;unfold wR;rw[if_neg h]
 go_wp2_with fail;refine j5 (aN _ _ _ _ om) ?_;go_wp2;go_ret;exact ⟨aR (by rw[HI.out,HA.out]),rfl⟩
theorem Dx{p:ByteArray}{k:Nat}(hk:k<p.size)(h:p[k].toNat=47):upN p (k+1)=k+1:=by
 unfold upN;rw[if_pos];rw[sK p k hk];exact zt.1 h
theorem W5{p:ByteArray}{k:Nat}(hk:k<p.size)(h:p[k].toNat≠47):upN p (k+1)=upN p k:=by
 conv=>lhs;unfold upN
 rw[if_neg];rw[sK p k hk];intro e;exact h (by rw[e];rfl)
theorem Dy{p:ByteArray}{k:Nat}(h:upN p p.size=k):p.extract 0 k=upT p:=by unfold upT;rw[h]
theorem cA{a b:ByteArray}(h:a=b):Ending.returned (L a)=Y (L b):=by rw[h]
def jV(tb te:TypeId)(n0 B g:Nat)(out:List ByteArray)(W:World):Prop:=
 ∃v,Boxed W B tb v/\W.ownsRow n0 te 1 v out.length (aM out)/\some g≠v.ownBlock/\g<W.heap.size
theorem EI{w w':World}(hb:Below w.heap.size w w'):w.grownBy w' none:=⟨hb.os,hb.tape,hb.output,hb.size,fun k hk _=>hb.block k hk⟩
theorem JS{W W':World}{B:Nat}{t:TypeId}{v:Value}(h:Boxed W B t v)(hb:Below W.heap.size W W'):Boxed W' B t v:=h.kept (EI hb) j2
theorem sC{tb te:TypeId}{n0 B g:Nat}{out:List ByteArray}{W W':World}(h:jV tb te n0 B g out W)(hb:Below W.heap.size W W'):jV tb te n0 B g out W':=by
 obtain ⟨v,h1,h2,h3,h4⟩:=h;refine ⟨v,JS h1 hb,h2.kept (EI hb) (by cases hv:v.ownBlock<;>simp),h3,zg h4 hb.size⟩
theorem E8{tb te:TypeId}(hte:tb≠te){n0 B g:Nat}{out:List ByteArray}{x:ByteArray}{W w1:World}{v v':Value}(hgB:g≠B)(hB:n0<=B)(hn:n0<=W.heap.size)
  (h1:Boxed W B tb v) (h2:W.ownsRow n0 te 1 v out.length (aM out)) (h3:some g≠v.ownBlock) (h4:g<W.heap.size)
  (o:w1.ownsRow n0 te 1 v' (out.length+1) (aM out++[L x])) (hgr:W.grownBy w1 v.ownBlock) (hat:v'.ownBlock=v.ownBlock∨v'.ownBlock=some (W.heap.size+1)):
  Boxed w1 B tb v/\jV tb te n0 B g (out++[x]) (w1.setCell ⟨B,0,none⟩ v')/\(w1.setCell ⟨B,0,none⟩ v').heap[g]? =W.heap[g]? /\Below n0 W (w1.setCell ⟨B,0,none⟩ v'):=by
 have hb1:Boxed w1 B tb v:=h1.kept hgr (h1.not_row hte h2);have hgs:=grownBy_setCell' w1 B v';refine ⟨hb1,⟨v',hb1.set v',?_,?_,?_⟩,?_,?_⟩
 .rw[kS,zl]
  exact o.kept hgs (.inr (hb1.not_row hte o).symm)
 .rcases hat with h|h
  .rw[h];exact h3
  rw[h];intro e;cases e;omega
 .exact zg (zg h4 hgr.size) hgs.size
 .rw[hgs.block g (zg h4 hgr.size) (fun e=>hgB (by cases e;rfl)),hgr.block g h4 h3]
 refine ((zk n0 W).grown hgr hn fun j ej=> ?_).setCell (p:=⟨B,0,none⟩) hB v';exact (h2.lt j ej).1
theorem E9{tb te:TypeId}(hte:tb≠te){n0 B g b cap:Nat}{out:List ByteArray}{W:World}(m:Nat)(hm:m<=out.length)(hgB:g≠B)(hB:n0<=B)
  (h1:Boxed W B tb (.slice (some ⟨b,0,none⟩) out.length cap)) (h2:W.ownsRow n0 te 1 (.slice (some ⟨b,0,none⟩) out.length cap) out.length (aM out)) (h3:some g≠(Value.slice (some ⟨b,0,none⟩) out.length cap).ownBlock) (h4:g<W.heap.size):
  jV tb te n0 B g (out.take m) (W.setCell ⟨B,0,none⟩ (.slice (some ⟨b,0,none⟩) m cap))/\(W.setCell ⟨B,0,none⟩ (.slice (some ⟨b,0,none⟩) m cap)).heap[g]? =W.heap[g]? /\Below n0 W (W.setCell ⟨B,0,none⟩ (.slice (some ⟨b,0,none⟩) m cap)):=by
 have hgs:=grownBy_setCell' W B (.slice (some ⟨b,0,none⟩) m cap);have o:=rL h2 m hm;rw[kX]at o;refine ⟨⟨_,h1.set _,?_,h3,zg h4 hgs.size⟩,hgs.block g h4 (fun e=>hgB (by cases e;rfl)),(zk n0 W).setCell (p:=⟨B,0,none⟩) hB _⟩;rw[zn,zu hm];exact o.kept hgs (.inr (h1.not_row hte o).symm)
theorem yS{W W':World}{g:Nat}(h:W'.heap[g]? =W.heap[g]?)(j:Nat):W'.cell? ⟨g,j,none⟩=W.cell? ⟨g,j,none⟩:=by
 simp only[World.cell?,h]
theorem VD{p:ByteArray}(h0:0<p.size)(h:p[0].toNat=47):bR p=true:=by
 unfold bR;have e:p.data.toList.head? =some p[0]:=by
  rw[zr,ze (by simpa using h0)];rfl
 rw[e,zt.1 (show p[0].toNat=(47:UInt8).toNat from h)];rfl
theorem F0{p:ByteArray}(h0:0<p.size)(h:p[0].toNat≠47):bR p=false:=by
 unfold bR;have e:p.data.toList.head? =some p[0]:=by
  rw[zr,ze (by simpa using h0)];rfl
 rw[e,beq_eq_false_iff_ne];intro e2;exact h (by rw[Option.some.inj e2];rfl)
theorem MK{p:ByteArray}(h0:p.size=0):bR p=false:=by
 unfold bR;rw[zo (show p.data.toList.length=0 by simpa using h0)];rfl
theorem EJ{p:ByteArray}(h:bR p=false):cE p=p:=by unfold cE;rw[h];rfl
theorem JT{p:ByteArray}(h:bR p=true):(⟨(slL (dB (bD p))).toArray⟩:ByteArray)=cE p:=by unfold cE;rw[h];rfl
def jK(l:List ByteArray)(k:Nat):List ByteArray:=if k=l.length then dB l else dZ (l.take k)
theorem ML{l:List ByteArray}{k:Nat}(h:k<l.length):jK l k=dZ (l.take k):=by unfold jK;rw[if_neg om]
theorem YB(l:List ByteArray):jK l l.length=dB l:=by unfold jK;rw[if_pos rfl]
theorem W6{l:List ByteArray}{k:Nat}(h:k+1=l.length):rF l=l.getD k zc:=by unfold rF;rw[<-h];rfl
theorem W7{l:List ByteArray}{k:Nat}(h:k+1=l.length):dZ l=eO (dZ (l.take k)) (l.getD k zc):=by
 rw[<-yM l k om,h,List.take_length]
theorem QY{l:List ByteArray}{k:Nat}(h:k+1<l.length):jK l (k+1)=eO (jK l k) (l.getD k zc):=by
 rw[ML h,yM l k om,ML om]
theorem QZ{l:List ByteArray}{k:Nat}(h:k+1=l.length):jK l (k+1)=if isd (toL (l.getD k zc))=0 then eO (jK l k) (l.getD k zc)else eO (jK l k) (l.getD k zc)++[zc]:=by
 rw[h,YB];unfold dB;rw[W6 h,W7 h,ML (show k<l.length by omega)]
theorem VE(l:List ByteArray)(k:Nat):(jK l k).length<=l.length:=by
 unfold jK;split
 .exact sA l
 exact Nat.le_trans (zM _) (by rw[zn];omega)
theorem W8{l:List ByteArray}{k:Nat}{x:ByteArray}(hk:k<l.length)(hx:l.getD k zc=x)(h:isd x.data.toList=0):jK l (k+1)=jK l k++[x]:=by
 by_cases hl:k+1=l.length
 .rw[QZ hl,hx,if_pos (show isd (toL x)=0 from h),sX h]
 rw[QY om,hx,sX h]
theorem Dz{l:List ByteArray}{k:Nat}{x:ByteArray}(hk:k<l.length)(hx:l.getD k zc=x)(h:isd x.data.toList≠0):jK l (k+1)=eO (jK l k) x++(if k+1=l.length then [zc]else []):=by
 by_cases hl:k+1=l.length
 .rw[if_pos hl,QZ hl,hx,if_neg (show ¬isd (toL x)=0 from h)]
 rw[if_neg hl,QY om,hx,zj]
theorem wT{w1:World}{B:Nat}{v:Value}{e:TypeId}{o:List ByteArray}{x:ByteArray}{m:Nat}(hm:m=o.length)(h:w1.ownsRow B e 1 v (m+1) (aM o++ #[Value.string x].toList)):w1.ownsRow B e 1 v (o++[x]).length (aM (o++[x])):=by
 subst hm;rw[kS,zl];exact h
theorem W9{l:List ByteArray}{k:Nat}(hk:k<l.length){z y:ByteArray}(hz:z.data.toList=slL (l.take k))(hy:l.getD k zc=y):((z++(⟨#[47]⟩:ByteArray))++y).data.toList=slL (l.take (k+1)):=by
 rw[uF l k hk,hy,Dp,<-hz];simp[toL]
theorem YC{l:List ByteArray}{k n:Nat}{z:ByteArray}(h:z.data.toList=slL (l.take k))(hl:(slL l).length<=n):z.size<=n:=by
 have h1:=Dq l k;rw[<-h]at h1;have h2:z.data.toList.length=z.size:=by simp
 omega
theorem GI(p:ByteArray)(w:World)(hs:p.size<=16777216):Calls prog 42 #[L p] w fun e w'=>e=Y (L (cE p))/\Below w.heap.size w w':=by
 by_cases h0:p.size=0
 .have HD:Hid (p=cE p):=(EJ (MK h0)).symm
  have he:=aV h0;go_enter func42,ntmps42;go_wp2;go_ret;exact ⟨cA HD.out,zk _ _⟩
 have he:=aX (show 0<p.size by omega)
 by_cases h47:p[0].toNat=47
 .have hr:=VD om h47
  have HD:Hid ((⟨(slL (dB (bD p))).toArray⟩:ByteArray)=cE p):=JT hr;have hpl:=qS hr;have hlp:=yK hr;have hll:(bD p).length<=16777217:=by
   rw[hpl];have h1:=(dL (p.extract 1 p.size) 47 (p.extract 1 p.size).size).2;have h2:(p.extract 1 p.size).size<=p.size:=by rw[zm];omega
   unfold aA;rw[zl,List.length_singleton];omega
  have hxs: ∀j,((bD p).getD j zc).size<=16777216:=fun j=>by
   by_cases hj:j<(bD p).length
   .have hm:(bD p).getD j zc∈bD p:=by
     rw[zp,ze hj];exact List.getElem_mem hj
    generalize (bD p).getD j zc=y at hm;rw[hpl]at hm;have h1:=kI _ _ _ hm;rw[zm]at h1;omega
   rw[zp,List.getElem?_eq_none om]
   decide
  have hkz:(slL (dB (bD p))).length<=16777216:=by
   have h1:=yL (bD p);rw[wM hr]at h1;have h2:p.data.toList.length=p.size:=by simp
   omega
  have CF:Hid (∀W,Calls prog 93 #[L (p.extract 1 p.size),.int .u8 47] W fun e w'=> ∃v,e=Y v/\w'.ownsRow W.heap.size 9 1 v (bD p).length (aM (bD p))/\Below W.heap.size W w'):=fun W=>by
   have h1:=zD (p.extract 1 p.size) 47 W (by rw[zm];omega);rw[<-hpl]at h1;exact h1
  clear hpl;generalize bD p=l at HD hlp hll hxs hkz CF;have HX:Hid (∀j,(l.getD j zc).size<=16777216):=hxs;clear hxs hr;go_enter func42,ntmps42;go_wp2_with fail;refine (CF.out _).mono ?_;rintro e wa ⟨va,rfl,oa,ba⟩;have za:=ba.size
  rcases aQ oa with ⟨h,_⟩|⟨_,g,cp,rfl⟩
  .omega
  have hglt:=(oa.lt g rfl).2;have HC:Hid (∀j,j<l.length->wa.cell? ⟨g,j,none⟩=some (L (l.getD j zc))):=fun j hj=>bY oa j hj
  clear oa;go_wp2_with fail
  go_loopw[4,5] (fun o i wr=> ∃k:Nat,k<=l.length/\i=I J k/\wr.ownsRow wa.heap.size 9 1 o (jK l k).length (aM (jK l k))/\Below wa.heap.size wa wr)
   (fun _ i _=>l.length-(intOf i).toNat)
  case atStart=>exact ⟨0,zh _,rfl,by rw[ML hlp];exact zx wa #[] 0 (zf _) de rfl,(zk _ _).alloc (zf _) _⟩
  obtain ⟨k,hk,rfl,hown,hbel⟩:=hrel;have hsz:=hbel.size;have hcl:=VE l k
  by_cases hlt:k<l.length
  .have hcell:wr.cell? ⟨g,k,none⟩=some (L (l.getD k zc)):=by
    rw[yS (hbel.block g hglt) k];exact HC.out k hlt
   have hx1:=HX.out k;obtain ⟨x,hx⟩: ∃x,l.getD k zc=x:=⟨_,rfl⟩;rw[hx]at hcell hx1;have hxi:(x.size:Int)<=16777216:=om;have HXE:Hid (l.getD k zc=x):=hx;have hd:=UT x.data.toList;have CI:Hid (∀W,CS 94 #[L x] W (I J (isd x.data.toList:Int))):=fun W=>VC x W hx1
   clear hx
   by_cases d0:isd x.data.toList=0
   .have HN:Hid (jK l (k+1)=jK l k++[x]):=W8 hlt HXE.out d0
    rw[d0]at CI;clear d0 hd;obtain ⟨O,hO⟩: ∃O,jK l k=O:=⟨_,rfl⟩;rw[hO]at hown hcl HN;clear hO;go_wp2_with fail;refine (CI.out _).mono ?_;rintro e w' ⟨rfl,rfl⟩;go_wp2_with (at_builtin;refine aB _ rfl _ _ 86 rfl wa.heap.size 9 (L ⟨#[]⟩) 16 underlying86 infoStr rfl _ _ _ rfl hown #[L x] 1 rfl rfl (gO _) om (by unfold maxLen;omega) om ?_);intro v' w1 hown' hb1;have B1:Below wa.heap.size wa w1:=hbel.trans hb1;clear hb1 hbel;go_wp2;go_roundw
    case rel=>exact ⟨k+1,om,gn,by rw[HN.out];exact wT rfl hown',B1⟩
    case measure=>exact j1
   have HD2:Hid (jK l (k+1)=eO (jK l k) x++(if k+1=l.length then [zc]else [])):=Dz hlt HXE.out d0;obtain ⟨O,hO⟩: ∃O,jK l k=O:=⟨_,rfl⟩;rw[hO]at hown hcl HD2;clear hO
   by_cases d2:isd x.data.toList=2
   .rw[QN d2]at HD2
    rw[d2]at CI;clear d0 d2 hd
    rcases aQ hown with ⟨hl,hnil,ao,cap,rfl⟩|⟨hl,b,cap,rfl⟩
    .have hO:O.take (O.length-1)=O:=zs om
     rw[hO]at HD2;clear hO;have HO0:Hid (O.length=0):=hl;have hown2:wr.ownsRow wa.heap.size 9 1 (.slice ao 0 cap) 0 (aM O):=by have h5:=hown;rw[hl]at h5;exact h5
     clear hnil
     by_cases hla:k+1=l.length
     .rw[if_pos hla]at HD2
      have HN:Hid (jK l (k+1)=O++[zc]):=HD2.out;have hki:(((k:Int):Int)==(l.length:Int)-1)=true:=by rw[beq_iff_eq];omega
      clear hla HD2 hown hl;go_wp2_with fail;refine (CI.out _).mono ?_;rintro e w' ⟨rfl,rfl⟩;go_wp2_with (at_builtin;refine aB _ rfl _ _ 86 rfl wa.heap.size 9 (L ⟨#[]⟩) 16 underlying86 infoStr rfl _ _ _ rfl hown2 #[L ⟨#[]⟩] 1 rfl rfl (gO _) om (by unfold maxLen;omega) om ?_);intro v' w1 hown' hb1;have B1:Below wa.heap.size wa w1:=hbel.trans hb1;clear hb1 hbel;go_wp2;go_roundw
      case rel=>exact ⟨k+1,om,gn,by rw[HN.out];exact wT HO0.out.symm hown',B1⟩
      case measure=>exact j1
     rw[if_neg hla,zj]at HD2;have HN:Hid (jK l (k+1)=O):=HD2.out;have hki:(((k:Int):Int)==(l.length:Int)-1)=false:=by rw[beq_eq_false_iff_ne];omega
     clear hla HD2 hl;go_wp2_with fail;refine (CI.out _).mono ?_;rintro e w' ⟨rfl,rfl⟩;go_wp2;go_roundw
     case rel=>exact ⟨k+1,om,gn,by rw[HN.out];exact hown,hbel⟩
     case measure=>exact j1
    have hcap:=lV hown;have hown2:=rL hown (O.length-1) om;rw[kX]at hown2;have HL:Hid (O.length-1=(O.take (O.length-1)).length):=by show _=_;rw[zn];omega
    by_cases hla:k+1=l.length
    .rw[if_pos hla]at HD2
     have HN:Hid (jK l (k+1)=O.take (O.length-1)++[zc]):=HD2.out;have hki:(((k:Int):Int)==(l.length:Int)-1)=true:=by rw[beq_iff_eq];omega
     clear hla HD2 hown;go_wp2_with fail;refine (CI.out _).mono ?_;rintro e w' ⟨rfl,rfl⟩;go_wp2_with (at_builtin;refine aB _ rfl _ _ 86 rfl wa.heap.size 9 (L ⟨#[]⟩) 16 underlying86 infoStr rfl _ _ _ rfl hown2 #[L ⟨#[]⟩] 1 rfl rfl (gO _) om (by unfold maxLen;omega) om ?_);intro v' w1 hown' hb1;have B1:Below wa.heap.size wa w1:=hbel.trans hb1;clear hb1 hbel;go_wp2;go_roundw
     case rel=>exact ⟨k+1,om,gn,by rw[HN.out];exact wT HL.out hown',B1⟩
     case measure=>exact j1
    rw[if_neg hla,zj]at HD2;have HN:Hid (jK l (k+1)=O.take (O.length-1)):=HD2.out;have hki:(((k:Int):Int)==(l.length:Int)-1)=false:=by rw[beq_eq_false_iff_ne];omega
    have hown3:wr.ownsRow wa.heap.size 9 1 (.slice (some ⟨b,0,none⟩) (O.length-1) cap) (O.take (O.length-1)).length (aM (O.take (O.length-1))):=by rw[<-HL.out];exact hown2
    clear hla HD2 hown hown2;go_wp2_with fail;refine (CI.out _).mono ?_;rintro e w' ⟨rfl,rfl⟩;go_wp2;go_roundw
    case rel=>exact ⟨k+1,om,gn,by rw[HN.out];exact hown3,hbel⟩
    case measure=>exact j1
   have d1:isd x.data.toList=1:=om;rw[QM d1]at HD2;rw[d1]at CI;clear d0 d2 d1 hd
   by_cases hla:k+1=l.length
   .rw[if_pos hla]at HD2
    have HN:Hid (jK l (k+1)=O++[zc]):=HD2.out;have hki:(((k:Int):Int)==(l.length:Int)-1)=true:=by rw[beq_iff_eq];omega
    clear hla HD2;go_wp2_with fail;refine (CI.out _).mono ?_;rintro e w' ⟨rfl,rfl⟩;go_wp2_with (at_builtin;refine aB _ rfl _ _ 86 rfl wa.heap.size 9 (L ⟨#[]⟩) 16 underlying86 infoStr rfl _ _ _ rfl hown #[L ⟨#[]⟩] 1 rfl rfl (gO _) om (by unfold maxLen;omega) om ?_);intro v' w1 hown' hb1;have B1:Below wa.heap.size wa w1:=hbel.trans hb1;clear hb1 hbel;go_wp2;go_roundw
    case rel=>exact ⟨k+1,om,gn,by rw[HN.out];exact wT rfl hown',B1⟩
    case measure=>exact j1
   rw[if_neg hla,zj]at HD2;have HN:Hid (jK l (k+1)=O):=HD2.out;have hki:(((k:Int):Int)==(l.length:Int)-1)=false:=by rw[beq_eq_false_iff_ne];omega
   clear hla HD2;go_wp2_with fail;refine (CI.out _).mono ?_;rintro e w' ⟨rfl,rfl⟩;go_wp2;go_roundw
   case rel=>exact ⟨k+1,om,gn,by rw[HN.out];exact hown,hbel⟩
   case measure=>exact j1
  have hke:k=l.length:=om;rw[hke,YB]at hown;clear hcl;have hKn:=MF hlp;have hKl:=sA l;generalize dB l=K at hown hKn hKl HD hkz;have HK:Hid (K≠[]):=hKn;clear hKn
  rcases aQ hown with ⟨h,_⟩|⟨hK0,b,cap,rfl⟩
  .exact absurd (zo h) HK.out
  have HCK:Hid (∀j,j<K.length->wr.cell? ⟨b,j,none⟩=some (L (K.getD j zc))):=fun j hj=>bY hown j hj
  have hcap:=lV hown;have BW:Below w.heap.size w wr:=ba.trans (hbel.mono za);clear hown hbel hke;go_wp2_with fail
  go_loop[7,8] (fun t i=> ∃(k:Nat) (z:ByteArray),k<=K.length/\i=I J k/\t=L z/\z.data.toList=slL (K.take k)) (fun _ i=>K.length-(intOf i).toNat)
  case atStart=>exact ⟨0,⟨#[]⟩,zh _,rfl,rfl,rfl⟩
  obtain ⟨j,z,hj,rfl,rfl,hz⟩:=hrel;have HZ:Hid (z.data.toList=slL (K.take j)):=hz;have hzs:=YC hz hkz;clear hz
  by_cases hjl:j<K.length
  .have hc:=HCK.out j hjl
   obtain ⟨y,hy⟩: ∃y,K.getD j zc=y:=⟨_,rfl⟩;rw[hy]at hc;have HN:Hid (((z++(⟨#[47]⟩:ByteArray))++y).data.toList=slL (K.take (j+1))):=W9 hjl HZ.out hy;have hns:=YC HN.out hkz;have hd1:(⟨#[47]⟩:ByteArray).size=1:=rfl;have hys:y.size<=16777216:=by rw[zv,zv,hd1]at hns;omega
   clear hy hns;go_wp2_with fail;go_round
   case rel=>exact ⟨j+1,_,om,gn,rfl,HN.out⟩
   case measure=>exact j1
  have HE:Hid (z=cE p):=by
   show _=_;rw[<-HD.out];apply bX;show z.data.toList=_;rw[HZ.out,zs om];rfl
  go_wp2;go_ret;exact ⟨cA HE.out,BW⟩
 have HD:Hid (p=cE p):=(EJ (F0 om h47)).symm;go_enter func42,ntmps42;go_wp2;go_ret;exact ⟨cA HD.out,zk _ _⟩
def wU(c:UInt8):UInt8:=if c=92 then 47 else c
def eX(l:List UInt8)(k:Nat):List UInt8:=(l.take k).map wU++l.drop k
theorem RB(l:List UInt8):eX l 0=l:=by simp[eX]
theorem tQ(l:List UInt8)(k:Nat):(eX l k).length=l.length:=by simp[eX];omega
theorem JU(s:ByteArray)(k:Nat)(h:k<s.size)(h':k<(eX s.data.toList k).length):(eX s.data.toList k)[k]=s[k]:=by
 have hk:k<s.data.toList.length:=by simpa using h
 have e:(eX s.data.toList k)[k]? =some s[k]:=by
  unfold eX;rw[List.getElem?_append_right (by simp;omega)];simp only[List.length_map,zn,zu (Nat.le_of_lt hk),Nat.sub_self,List.getElem?_drop,Nat.add_zero];rw[ze hk];rfl
 rw[ze h']at e;exact Option.some.inj e
theorem zP(s:ByteArray)(k:Nat)(h:k<s.size):(eX s.data.toList k).set k (wU s[k])=eX s.data.toList (k+1):=by
 have hk:k<s.data.toList.length:=by simpa using h
 unfold eX;rw[List.set_append_right _ _ (by simp;omega)];rw[eI s k h,List.drop_eq_getElem_cons hk];simp[zu (Nat.le_of_lt h)]
theorem RC(s:ByteArray)(k:Nat)(h:k<s.size)(hc:wU s[k]=s[k]):eX s.data.toList k=eX s.data.toList (k+1):=by
 rw[<-zP s k h,hc];have h':k<(eX s.data.toList k).length:=by rw[tQ];simpa using h
 rw[<-JU s k h h',List.set_getElem_self]
theorem VF(s:ByteArray)(k:Nat)(h:s.size<=k):eX s.data.toList k=eA s.data.toList:=by
 unfold eX eA;rw[cS s k h,List.drop_eq_nil_of_le (by simp;omega),zj];rfl
theorem gT(l:List UInt8):(eA l).length=l.length:=by simp[eA]
theorem X0(s:ByteArray)(w:World)(hs:s.size<=4194304):Calls prog 117 #[L s] w fun e w'=>e=Y (L (cE (plB 1 ⟨(eA s.data.toList).toArray⟩)))/\Below w.heap.size w w':=by
 obtain ⟨cap,hcap⟩: ∃cap,grownCap w s.size 0 5=cap:=⟨_,rfl⟩;have hconv:=run_bytes_of_string w 9 22 5 s underlying9 underlying22 underlying5;rw[hcap]at hconv;have hmade:=vB w s cap 5;generalize hC:bytesRow s cap=C at hconv hmade;clear hC hcap;have hbs:(⟨(eA s.data.toList).toArray⟩:ByteArray).size<=4194304:=by
  show (eA s.data.toList).toArray.size<=_;rw[zy,gT];simpa using hs
 have CP:Hid (∀W,CB 41 #[L ⟨(eA s.data.toList).toArray⟩,I J 1] W (L (plB 1 ⟨(eA s.data.toList).toArray⟩))):=fun W=>zO ⟨(eA s.data.toList).toArray⟩ 1 W om
 have hps:(plB 1 ⟨(eA s.data.toList).toArray⟩).size<=16777216:=by
  show (plL 1 (eA s.data.toList)).toArray.size<=_;rw[zy];have h1:=TO 1 (eA s.data.toList);rw[gT]at h1;have h2:s.data.toList.length=s.size:=by simp
  omega
 have CD:Hid (∀W,CB 42 #[L (plB 1 ⟨(eA s.data.toList).toArray⟩)] W (L (cE (plB 1 ⟨(eA s.data.toList).toArray⟩)))):=fun W=>GI _ W hps
 generalize plB 1 ⟨(eA s.data.toList).toArray⟩=T at CP CD hps;go_enter func117,ntmps117;go_wp2_with fail
 go_loopw[4] (fun i wr=> ∃k:Nat,k<=s.size/\i=I J k/\kH wr w.heap.size (eX s.data.toList k)/\Below w.heap.size w wr)
  (fun i _=>s.size-(intOf i).toNat)
 case atStart=>exact ⟨0,zh _,rfl,by rw[RB];exact hmade,((zk _ _).alloc (zf _) _).drew⟩
 obtain ⟨k,hk,rfl,hat,hbel⟩:=hrel;clear hmade hconv
 by_cases hlt:k<s.size
 .have hl:k<(eX s.data.toList k).length:=by rw[tQ];simpa using hlt
  obtain ⟨hc,hf⟩:=hat k hl;rw[JU s k hlt hl]at hc;obtain ⟨d,hd⟩: ∃d:Nat,s[k].toNat=d:=⟨_,rfl⟩;rw[hd]at hc
  by_cases h92:d=92
  .have HB:Hid (wU s[k]=47):=by
    show _=_;unfold wU;rw[if_pos (zt.1 (show s[k].toNat=(92:UInt8).toNat from hd.trans h92))]
   have HS:=zP s k hlt;have HSS:Hid ((eX s.data.toList k).set k (wU s[k])=eX s.data.toList (k+1)):=HS;subst h92;clear HS hd;go_wp2;go_roundw
   case rel=>
    refine ⟨k+1,om,gn,?_,hbel.setCell (zf _) _⟩;rw[<-HSS.out];exact hat.set k hl (wU s[k]) (by rw[HB.out];rfl)
   case measure=>exact j1
  have q92:((d:Int)==92)=false:=beq_eq_false_iff_ne.2 om;have HB:Hid (wU s[k]=s[k]):=by
   show _=_;unfold wU;rw[if_neg];intro e;exact h92 (by rw[<-hd,e];rfl)
  have HK:Hid (eX s.data.toList k=eX s.data.toList (k+1)):=RC s k hlt HB.out;clear hd h92;go_wp2;go_roundw
  case rel=>exact ⟨k+1,om,gn,by rw[<-HK.out];exact hat,hbel⟩
  case measure=>exact j1
 rw[VF s k om]at hat;have HO:=tF (P:=prog) wr 22 9 5 underlying22 underlying5 underlying9 (n:=s.size) (cap:=cap) (by rw[gT];simp) hat;generalize (⟨(eA s.data.toList).toArray⟩:ByteArray)=Z at HO CP hbs;go_wp2_with fail;refine (CP.out _).mono ?_;rintro e wa ⟨rfl,ba⟩;have Ba:Below w.heap.size w wa:=hbel.trans (ba.mono hbel.size);clear ba hbel;go_wp2_with fail;refine (CD.out _).mono ?_;rintro e wb ⟨rfl,bb⟩;have Bb:Below w.heap.size w wb:=Ba.trans (bb.mono Ba.size);clear bb Ba;go_wp2;go_ret;exact ⟨rfl,Bb⟩
