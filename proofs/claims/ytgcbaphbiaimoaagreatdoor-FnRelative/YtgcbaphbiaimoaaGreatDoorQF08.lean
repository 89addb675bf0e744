/- PunyEncWalk, PunyDec. -/
import Derived.Test.YtgcbaphbiaimoaaGreatDoorQF07
import Derived.Test.YtgcbaphbiaimoaaGreatDoorQF06
import Derived.Deep.DeepCutAuto
set_option maxHeartbeats 8000000
set_option maxRecDepth 20000
namespace Go.Proofs.YtgcbaphbiaimoaaGreatDoor
open Go.Value renaming int->I,tuple->Y,bool->Z
open Go.IntKind renaming i64->J
open Go.Ending renaming returned->L
open _root_.Go.RowKit.Below renaming refl->zq
open _root_.List renaming append_assoc->zn,append_nil->zo,drop_of_length_le->ze,length->zk,length_append->zc,length_cons->zi,length_filter_le->za,map_append->zp,take_of_length_le->zj
open _root_.Nat renaming le_refl->zd,lt_trichotomy->zm,mul_le_mul_left->zf,zero_le->zg
open _root_.Go.World renaming ownsRow_lit->zh
open _root_.Go.Proofs.Tryz
open _root_.Go.Proofs.YtgcbaphbiaimoaaGreatDoor.Tryz
open Go.RowKit
theorem gR{w:World}{B:Nat}{e:TypeId}{v:Value}{n:Nat}{xs:List Value}(h:w.ownsRow B e 1 v n xs): ∃ao cap,v=.slice ao n cap:=by
 rcases aQ h with ⟨rfl,_,ao,cap,rfl⟩|⟨_,g,cap,rfl⟩
 .exact ⟨ao,cap,rfl⟩
 exact ⟨_,cap,rfl⟩
theorem zI(l:List Nat)(k:Nat)(h:k<l.length):(l.take (k+1)).filter (· <128)=(l.take k).filter (· <128)++(if l.getD k 0<128 then [l.getD k 0]else []):=by
 have e:l.take (k+1)=l.take k++[l.getD k 0]:=by
  rw[List.take_succ_eq_append_getElem h];simp[List.getD,h]
 rw[e,List.filter_append]
 congr 1
 split
 .next hc=>rw[List.filter_cons_of_pos (by simpa using hc)];rfl
 next hc=>rw[List.filter_cons_of_neg (by simpa using hc)];rfl
theorem IQ(basic:Nat): ∀(ds:List Nat) (h bias:Nat),(bT basic h bias ds).length<=28*ds.length
 |[],_,_=>by simp[bT]
 |d::ds,h,bias=>by
  have h1:=IQ basic ds (h+1) (aU d (h+1) (h==basic));have h2:=XD bias 28 36 d;show (cY 28 36 bias d++bT basic (h+1) (aU d (h+1) (h==basic)) ds).length<=28*(d::ds).length;rw[zc,zi];omega
theorem lA{l:List Nat}(h:dY l=true):(bC l).length<=2000:=by
 obtain ⟨h1,h2⟩:=bI h;have h3:=yD l h2 l.length 128 0;have h4:=IQ (l.filter (· <128)).length (dN l l.length 128 0 (l.filter (· <128)).length) (l.filter (· <128)).length 72;have h5:=za (fun x=>decide (x<128)) l;unfold bC rS;rw[zc,zc,List.length_map];have h6:(if 0<(l.filter (· <128)).length then [45]else []).length<=1:=by split<;>simp
 omega
theorem vW(l:List Nat)(f n d basic bias:Nat)(h:l.length<=(l.filter (· <n)).length):bT basic (l.filter (· <n)).length bias (dN l f n d (l.filter (· <n)).length)=[]:=by
 cases f with
 |zero=>rfl
 |succ f=>rw[dN,if_neg om];rfl
theorem vX{c:Nat}(h:IH c=true):dH (c:Int):=by
 simp[IH]at h;unfold dH;omega
theorem DJ{l:List Nat}(h:dY l=true)(k:Nat)(hk:k<l.length):IH (l.getD k 0)=true:=by
 simp only[dY,Bool.and_eq_true,List.all_eq_true]at h;refine h.2 _ ?_;rw[List.getD_eq_getElem?_getD,List.getElem?_eq_getElem hk];exact List.getElem_mem _
theorem iI(l:List Nat)(N g cap B:Nat)(w:World)(hok:dY l=true)(hN:l.length=N)(hown0:w.ownsRow B 3 1 (.slice (some ⟨g,0,none⟩) N cap) N (icN l)):Calls prog 189 #[.slice (some ⟨g,0,none⟩) N cap] w fun e w'=>e=L (Y #[.string ⟨(b8 (bC l)).toArray⟩,Z true])/\Below w.heap.size w w':=by
 have hN60:(N:Int)<=60:=by have:=(bI hok).1;omega
 have HOK:Hid (dY l=true):=hok;have HL:Hid (l.length=N):=hN;have HW:Hid (w.ownsRow B 3 1 (.slice (some ⟨g,0,none⟩) N cap) N (icN l)):=hown0;clear hok hN hown0;go_enter func189,ntmps189;go_wp2_with fail
 go_loopw[4,5] (fun v i wr=> ∃k:Nat,k<=N/\i=I J k/\wr.ownsRow w.heap.size 5 1 v ((l.take k).filter (· <128)).length (aD (b8 ((l.take k).filter (· <128))))/\Below w.heap.size w wr)
  (fun _ i _=>N-(intOf i).toNat)
 case atStart=>exact ⟨0,zg _,rfl,zh w #[] 0 (zd _) de rfl,(zq _ _).alloc (zd _) _⟩
 obtain ⟨k,hk,rfl,hown,hbel⟩:=hrel;have hsz:=hbel.size
 by_cases hlt:k<N
 .have ca:=jZ (aH HW.out hbel) k hlt
  have hr:=DJ HOK.out k (by have:=HL.out;omega);have hfl:((l.take k).filter (· <128)).length<=k:=Nat.le_trans (za _ _) (List.length_take_le _ _);have HS:Hid ((l.take (k+1)).filter (· <128)=(l.take k).filter (· <128)++(if l.getD k 0<128 then [l.getD k 0]else [])):=zI l k (by have:=HL.out;omega);generalize (l.take k).filter (· <128)=o at hown HS hfl;generalize l.getD k 0=c at ca HS hr;have HR:Hid (dH (c:Int)):=vX hr;have hc1:(c:Int)<=1114111:=HR.out.2.1;clear hr
  by_cases hc:(c:Int)<128
  .rw[if_pos om]at HS
   go_wp2_with fail;refine j5 (dR _ _ HR.out) ?_;go_wp2_with (first|(at_builtin;refine aB _ rfl _ _ 22 rfl w.heap.size 5 (.int .u8 0) 1 underlying22 info5 rfl _ _ _ rfl hown #[.int .u8 (c:Int)] 1 rfl rfl (dS _) om (by unfold maxLen;omega) om ?_));intro v' w1 hown' hb1;have R:=fP c om rfl hown';have B1:Below w.heap.size w w1:=hbel.trans hb1;clear hown' hb1 hown hbel;go_wp2_with fail;go_roundw
   case rel=>exact ⟨k+1,om,gn,by rw[HS.out];exact R,B1⟩
   case measure=>exact j1
  rw[if_neg om,zo]at HS;go_wp2_with fail;refine j5 (dR _ _ HR.out) ?_;go_wp2_with fail;go_roundw
  case rel=>exact ⟨k+1,om,gn,by rw[HS.out];exact hown,hbel⟩
  case measure=>exact j1
 rw[zj (by have:=HL.out;omega)]at hown;have hfl:=za (fun x=>decide (x<128)) l;obtain ⟨basic,hbs⟩: ∃b,(l.filter (· <128)).length=b:=⟨_,rfl⟩;have hb60:(basic:Int)<=60:=by have:=HL.out;omega
 obtain ⟨ao,cp,hu⟩:=gR hown;rw[hbs]at hu;subst hu;have HBS:Hid ((l.filter (· <128)).length=basic):=hbs;have hO:=hown;rw[hbs]at hO;have HO:Hid (wr.ownsRow w.heap.size 5 1 (.slice ao basic cp) basic (aD (b8 (l.filter (· <128))))):=hO;clear hown hO hfl hbs
 by_cases hbz:0<basic
 .have hbzi:0<(basic:Int):=om
  have HPRE:Hid ((l.filter (· <128)++[45])++(bT basic basic 72 (dN l N 128 0 basic)).map bH=bC l):=by
   show _=_;unfold bC rS;rw[HBS.out,if_pos hbz,HL.out]
  have hO:=HO.out;have hlen:(l.filter (· <128)).length=basic:=HBS.out;go_wp2_with (at_builtin;refine aB _ rfl _ _ 22 rfl w.heap.size 5 (.int .u8 0) 1 underlying22 info5 rfl _ _ _ rfl hO #[.int .u8 45] 1 rfl rfl (dS _) om (by unfold maxLen;omega) om ?_);intro v' w1 hown' hb1;have HO1:Hid (w1.ownsRow w.heap.size 5 1 v' (l.filter (· <128)++[45]).length (aD (b8 (l.filter (· <128)++[45])))):=fP 45 om rfl (by rw[hlen];exact hown');have B1:Below w.heap.size w w1:=hbel.trans hb1;clear hown' hb1 hO hbel hsz hlen;generalize l.filter (· <128)++[45]=o1 at HPRE HO1;go_wp2_with fail
  go_loopw[4,7,8,9,10] (fun v a b c e wr=> ∃(f n d bi h:Nat) (o:List Nat),a=I J h/\b=I J n/\c=I J d/\e=I J bi/\(l.filter (· <n)).length=h/\n<=1114112/\d<=61*n/\bi<=2400/\N<=h+f/\o++(bT basic h bi (dN l f n d h)).map bH=bC l/\wr.ownsRow w.heap.size 5 1 v o.length (aD (b8 o))/\Below w.heap.size w wr)
   (fun _ a _ _ _ _=>N-(intOf a).toNat)
  case atStart=>exact ⟨N,128,0,72,basic,o1,rfl,rfl,rfl,rfl,HBS.out,om,om,om,om,HPRE.out,HO1.out,B1⟩
  clear B1;obtain ⟨f,n,d,bi,h,o,rfl,rfl,rfl,rfl,hh,hn,hd,hbi,hf,he,hown,hbel⟩:=hrel;have HE:Hid (o++(bT basic h bi (dN l f n d h)).map bH=bC l):=he;have HH:Hid ((l.filter (· <n)).length=h):=hh;have hsz:=hbel.size;have hol:o.length<=2000:=by
   have h1:=congrArg zk HE.out;rw[zc]at h1
   have:=lA HOK.out
   omega
  have hhN:h<=N:=by
   have:=za (fun x=>decide (x<n)) l
   have:=HL.out
   omega
  clear he hh
  by_cases hlt2:h<N
  .obtain ⟨m1,m2,m3⟩:=pE l n (bI HOK.out).2 (by have:=HL.out;have:=HH.out;omega)
   have hmv:=(bI HOK.out).2 _ m1;have HFS:Hid (l.filter (· <n)=l.filter (· <aK n l)):=iN l n _ m2 m3;have HMO:Hid ((l.filter (· <aK n l)).length<(l.filter (· <=aK n l)).length):=kY _ l m1;have ctl:=IP l n N cap g B wr HL.out om (bI HOK.out).2 (aH HW.out hbel);obtain ⟨f',rfl⟩: ∃q,f=q+1:=⟨f-1,om⟩;have HD:Hid (dN l (f'+1) n d h=(aE (aK n l) l (d+(aK n l-n)*(h+1))).1++dN l f' (aK n l+1) ((aE (aK n l) l (d+(aK n l-n)*(h+1))).2+1) (h+(aE (aK n l) l (d+(aK n l-n)*(h+1))).1.length)):=by
    show _=_;rw[dN,if_pos (by have:=HL.out;omega)]
   clear m1 m3;generalize aK n l=m at*;have hxb:(m-n)*(h+1)<=(m-n)*61:=zf _ om;have hc1:((m-n:Nat):Int)=(m:Int)-(n:Int):=om;have hx61:d+(m-n)*(h+1)<=61*m:=om;have hX:((m:Int)-(n:Int))*((h:Int)+1)=(((m-n)*(h+1):Nat):Int):=by rw[<-hc1];norm_cast
   generalize (m-n)*(h+1)=x at*;have HPL:Hid ((l.filter (· <m)).length+(aE m l (d+x)).1.length=(l.filter (· <=m)).length):=jC m l (d+x);have HPB:Hid ((aE m l (d+x)).2<=61*m+60):=(nY m l (d+x) (61*m+60) (by have:=HL.out;omega)).2;obtain ⟨hE,HHE⟩: ∃q,Hid (h+(aE m l (d+x)).1.length=q):=⟨_,rfl⟩;obtain ⟨dE,HDE⟩: ∃q,Hid ((aE m l (d+x)).2=q):=⟨_,rfl⟩;have hhE:(l.filter (· <=m)).length=hE:=by
    have h1:=HPL.out;have h2:=HHE.out;have h3:=HH.out;rw[HFS.out]at h3;omega
   have hEN:hE<=N:=by
    have:=za (fun x=>decide (x<=m)) l
    have:=HL.out
    omega
   have hgr:h<hE:=by
    have h1:=HMO.out;have h3:=HH.out;rw[HFS.out]at h3;omega
   have HFE:Hid ((l.filter (· <m+1)).length=hE):=by show _=_;rw[fO];exact hhE
   obtain ⟨T,HT⟩: ∃q,Hid (dN l f' (m+1) (dE+1) hE=q):=⟨_,rfl⟩;have HE2:Hid (o++(bT basic h bi ((aE m l (d+x)).1++T)).map bH=bC l):=by
    show _=_;rw[<-HE.out,HD.out,<-HT.out,HHE.out,HDE.out]
   have hdE:dE<=61*m+60:=by have h1:=HPB.out;rw[HDE.out]at h1;exact h1
   have CTL:Hid (CS 227 #[.slice (some ⟨g,0,none⟩) N cap,I J (n:Int)] wr (I J (m:Int))):=ctl;clear ctl HFS HMO HPL HPB HD HE hc1 hxb hhE;go_wp2_with fail;refine CTL.out.mono ?_;rintro e w' ⟨rfl,rfl⟩;go_wp2_with fail
   go_loopw[4,7,9,10,12] (fun v a c e i wi=> ∃(j d' h' b':Nat) (o':List Nat),a=I J h'/\c=I J d'/\e=I J b'/\i=I J j/\j<=N/\d'<=61*m+j/\b'<=2400/\h'+(aE m (l.drop j) d').1.length=hE/\(aE m (l.drop j) d').2=dE/\o'++(bT basic h' b' ((aE m (l.drop j) d').1++T)).map bH=bC l/\wi.ownsRow w.heap.size 5 1 v o'.length (aD (b8 o'))/\Below w.heap.size w wi)
    (fun _ _ _ _ i _=>N-(intOf i).toNat)
   case atStart=>exact ⟨0,d+x,h,bi,o,rfl,gn,rfl,rfl,zg _,om,hbi,HHE.out,HDE.out,HE2.out,hown,hbel⟩
   clear hown hbel hsz;obtain ⟨j,d',h',b',o',rfl,rfl,rfl,rfl,hj,hd',hb',q1,q2,q3,hown,hbel⟩:=hrel;have Q1:Hid (h'+(aE m (l.drop j) d').1.length=hE):=q1;have Q2:Hid ((aE m (l.drop j) d').2=dE):=q2;have Q3:Hid (o'++(bT basic h' b' ((aE m (l.drop j) d').1++T)).map bH=bC l):=q3;have hsz:=hbel.size;have hh':h'<=hE:=om;have hol':o'.length<=2000:=by
    have h1:=congrArg zk Q3.out;rw[zc]at h1
    have:=lA HOK.out
    omega
   clear q1 q2 q3
   by_cases hlj:j<N
   .have ca:=jZ (aH HW.out hbel) j hlj
    have HS:Hid (l.drop j=l.getD j 0::l.drop (j+1)):=nH l j (by have:=HL.out;omega);generalize l.getD j 0=c at ca HS
    rcases zm c m with hc|hc|hc
    .have EP:Hid (aE m (l.drop j) d'=aE m (l.drop (j+1)) (d'+1)):=by show _=_;rw[HS.out,aE,if_pos hc]
     rw[EP.out]at Q1 Q2 Q3;have hci:(c:Int)<(m:Int):=om;have hcn: ¬(c:Int)=(m:Int):=om;go_wp2_with fail;go_roundw
     case rel=>exact ⟨j+1,d'+1,h',b',o',rfl,gn,rfl,gn,om,om,hb',Q1.out,Q2.out,Q3.out,hown,hbel⟩
     case measure=>exact j1
    .subst hc
     have EP:Hid (aE c (l.drop j) d'=(d'::(aE c (l.drop (j+1)) 0).1,(aE c (l.drop (j+1)) 0).2)):=by show _=_;rw[HS.out,aE,if_neg om,if_pos rfl]
     rw[EP.out]at Q1 Q2 Q3;have Q4:Hid ((o'++(cY 28 36 b' d').map bH)++(bT basic (h'+1) (aU d' (h'+1) (h'==basic)) ((aE c (l.drop (j+1)) 0).1++T)).map bH=bC l):=by
      show _=_;rw[<-Q3.out];show _=o'++(cY 28 36 b' d'++bT basic (h'+1) (aU d' (h'+1) (h'==basic)) ((aE c (l.drop (j+1)) 0).1++T)).map bH;rw[zp,zn]
     have Q5:Hid (h'+1+(aE c (l.drop (j+1)) 0).1.length=hE):=by
      show _=_;have h1:=Q1.out;simp only[zi]at h1;omega
     have hh1:h'+1<=hE:=by have:=Q5.out;omega
     have cta:=fun (first:Bool) (W:World)=>qL d' (h'+1) first W om om om
     have hal:=fI d' (h'+1) (h'==basic);simp only[show ((h'+1:Nat):Int)=(h':Int)+1 by omega]at cta;have CTA:Hid (∀(first:Bool) (W:World),CS 229 #[I J (d':Int),I J ((h':Int)+1),Z first] W (I J (aU d' (h'+1) first:Int))):=cta;clear cta Q3 Q1
     by_cases hbq:h'=basic
     .subst hbq
      rw[show (h'==h')=true by simp]at Q4 hal;go_wp2_with fail;refine (qM d' b' o' _ w.heap.size _ om om hown hsz om).mono ?_;rintro e w1 ⟨v',rfl,own1,hb1⟩;have B2:Below w.heap.size w w1:=hbel.trans hb1;clear hb1 hown hbel;go_wp2_with fail;refine (CTA.out _ _).mono ?_;rintro e w' ⟨rfl,rfl⟩;go_wp2_with fail;go_roundw
      case rel=>exact ⟨j+1,0,h'+1,_,_,gn,rfl,rfl,gn,om,om,hal,Q5.out,Q2.out,Q4.out,own1,B2⟩
      case measure=>exact j1
     have hbi2:((h':Int)==(basic:Int))=false:=by simp;omega
     rw[show (h'==basic)=false by simpa using hbq]at Q4 hal;clear hbq;go_wp2_with fail;refine (qM d' b' o' _ w.heap.size _ om om hown hsz om).mono ?_;rintro e w1 ⟨v',rfl,own1,hb1⟩;have B2:Below w.heap.size w w1:=hbel.trans hb1;clear hb1 hown hbel;go_wp2_with fail;refine (CTA.out _ _).mono ?_;rintro e w' ⟨rfl,rfl⟩;go_wp2_with fail;go_roundw
     case rel=>exact ⟨j+1,0,h'+1,_,_,gn,rfl,rfl,gn,om,om,hal,Q5.out,Q2.out,Q4.out,own1,B2⟩
     case measure=>exact j1
    have EP:Hid (aE m (l.drop j) d'=aE m (l.drop (j+1)) d'):=by show _=_;rw[HS.out,aE,if_neg om,if_neg om]
    rw[EP.out]at Q1 Q2 Q3;have hci: ¬(c:Int)<(m:Int):=om;have hcn: ¬(c:Int)=(m:Int):=om;go_wp2_with fail;go_roundw
    case rel=>exact ⟨j+1,d',h',b',o',rfl,rfl,rfl,gn,om,om,hb',Q1.out,Q2.out,Q3.out,hown,hbel⟩
    case measure=>exact j1
   have HNI:Hid (l.drop j=[]):=ze (by have:=HL.out;omega);rw[HNI.out]at Q1 Q2 Q3;have z1:h'=hE:=by have:=Q1.out;simpa[aE] using this
   have z2:d'=dE:=by have:=Q2.out;simpa[aE] using this
   have Q4:Hid (o'++(bT basic hE b' (dN l f' (m+1) (dE+1) hE)).map bH=bC l):=by
    show _=_;rw[HT.out,<-z1];exact Q3.out
   clear Q1 Q2 Q3;subst z1 z2;go_wp2_with fail;go_roundw
   case rel=>exact ⟨f',m+1,d'+1,b',h',o',rfl,gn,gn,rfl,HFE.out,om,om,hb',om,Q4.out,hown,hbel⟩
   case measure=>exact j1
  have HR:Hid (o=bC l):=by
   show _=_;have h1:=HE.out;have h2:=vW l f n d basic bi (by have:=HL.out;have:=HH.out;omega);rw[HH.out]at h2;rw[h2]at h1;simpa using h1
  have hcv:=bG (P:=prog) wr 22 9 5 underlying22 underlying5 underlying9 hown;go_wp2_with fail;go_ret2;exact ⟨by rw[HR.out];rfl,hbel⟩
 have hbzi: ¬0<(basic:Int):=om;have HPRE:Hid (l.filter (· <128)++(bT basic basic 72 (dN l N 128 0 basic)).map bH=bC l):=by
  show _=_;unfold bC rS;rw[HBS.out,if_neg hbz,HL.out,zo]
 have HO1:Hid (wr.ownsRow w.heap.size 5 1 (.slice ao basic cp) (l.filter (· <128)).length (aD (b8 (l.filter (· <128))))):=by
  have h1:=HO.out;rw[<-HBS.out]at h1⊢;exact h1
 have B1:Below w.heap.size w wr:=hbel;clear hbel hsz HO;obtain ⟨o1,ho1⟩: ∃q,l.filter (· <128)=q:=⟨_,rfl⟩;rw[ho1]at HPRE HO1;go_wp2_with fail
 go_loopw[4,7,8,9,10] (fun v a b c e wr=> ∃(f n d bi h:Nat) (o:List Nat),a=I J h/\b=I J n/\c=I J d/\e=I J bi/\(l.filter (· <n)).length=h/\n<=1114112/\d<=61*n/\bi<=2400/\N<=h+f/\o++(bT basic h bi (dN l f n d h)).map bH=bC l/\wr.ownsRow w.heap.size 5 1 v o.length (aD (b8 o))/\Below w.heap.size w wr)
  (fun _ a _ _ _ _=>N-(intOf a).toNat)
 case atStart=>exact ⟨N,128,0,72,basic,o1,rfl,rfl,rfl,rfl,HBS.out,om,om,om,om,HPRE.out,HO1.out,B1⟩
 clear B1;obtain ⟨f,n,d,bi,h,o,rfl,rfl,rfl,rfl,hh,hn,hd,hbi,hf,he,hown,hbel⟩:=hrel;have HE:Hid (o++(bT basic h bi (dN l f n d h)).map bH=bC l):=he;have HH:Hid ((l.filter (· <n)).length=h):=hh;have hsz:=hbel.size;have hol:o.length<=2000:=by
  have h1:=congrArg zk HE.out;rw[zc]at h1
  have:=lA HOK.out
  omega
 have hhN:h<=N:=by
  have:=za (fun x=>decide (x<n)) l
  have:=HL.out
  omega
 clear he hh
 by_cases hlt2:h<N
 .obtain ⟨m1,m2,m3⟩:=pE l n (bI HOK.out).2 (by have:=HL.out;have:=HH.out;omega)
  have hmv:=(bI HOK.out).2 _ m1;have HFS:Hid (l.filter (· <n)=l.filter (· <aK n l)):=iN l n _ m2 m3;have HMO:Hid ((l.filter (· <aK n l)).length<(l.filter (· <=aK n l)).length):=kY _ l m1;have ctl:=IP l n N cap g B wr HL.out om (bI HOK.out).2 (aH HW.out hbel);obtain ⟨f',rfl⟩: ∃q,f=q+1:=⟨f-1,om⟩;have HD:Hid (dN l (f'+1) n d h=(aE (aK n l) l (d+(aK n l-n)*(h+1))).1++dN l f' (aK n l+1) ((aE (aK n l) l (d+(aK n l-n)*(h+1))).2+1) (h+(aE (aK n l) l (d+(aK n l-n)*(h+1))).1.length)):=by
   show _=_;rw[dN,if_pos (by have:=HL.out;omega)]
  clear m1 m3;generalize aK n l=m at*;have hxb:(m-n)*(h+1)<=(m-n)*61:=zf _ om;have hc1:((m-n:Nat):Int)=(m:Int)-(n:Int):=om;have hx61:d+(m-n)*(h+1)<=61*m:=om;have hX:((m:Int)-(n:Int))*((h:Int)+1)=(((m-n)*(h+1):Nat):Int):=by rw[<-hc1];norm_cast
  generalize (m-n)*(h+1)=x at*;have HPL:Hid ((l.filter (· <m)).length+(aE m l (d+x)).1.length=(l.filter (· <=m)).length):=jC m l (d+x);have HPB:Hid ((aE m l (d+x)).2<=61*m+60):=(nY m l (d+x) (61*m+60) (by have:=HL.out;omega)).2;obtain ⟨hE,HHE⟩: ∃q,Hid (h+(aE m l (d+x)).1.length=q):=⟨_,rfl⟩;obtain ⟨dE,HDE⟩: ∃q,Hid ((aE m l (d+x)).2=q):=⟨_,rfl⟩;have hhE:(l.filter (· <=m)).length=hE:=by
   have h1:=HPL.out;have h2:=HHE.out;have h3:=HH.out;rw[HFS.out]at h3;omega
  have hEN:hE<=N:=by
   have:=za (fun x=>decide (x<=m)) l
   have:=HL.out
   omega
  have hgr:h<hE:=by
   have h1:=HMO.out;have h3:=HH.out;rw[HFS.out]at h3;omega
  have HFE:Hid ((l.filter (· <m+1)).length=hE):=by show _=_;rw[fO];exact hhE
  obtain ⟨T,HT⟩: ∃q,Hid (dN l f' (m+1) (dE+1) hE=q):=⟨_,rfl⟩;have HE2:Hid (o++(bT basic h bi ((aE m l (d+x)).1++T)).map bH=bC l):=by
   show _=_;rw[<-HE.out,HD.out,<-HT.out,HHE.out,HDE.out]
  have hdE:dE<=61*m+60:=by have h1:=HPB.out;rw[HDE.out]at h1;exact h1
  have CTL:Hid (CS 227 #[.slice (some ⟨g,0,none⟩) N cap,I J (n:Int)] wr (I J (m:Int))):=ctl;clear ctl HFS HMO HPL HPB HD HE hc1 hxb hhE;go_wp2_with fail;refine CTL.out.mono ?_;rintro e w' ⟨rfl,rfl⟩;go_wp2_with fail
  go_loopw[4,7,9,10,12] (fun v a c e i wi=> ∃(j d' h' b':Nat) (o':List Nat),a=I J h'/\c=I J d'/\e=I J b'/\i=I J j/\j<=N/\d'<=61*m+j/\b'<=2400/\h'+(aE m (l.drop j) d').1.length=hE/\(aE m (l.drop j) d').2=dE/\o'++(bT basic h' b' ((aE m (l.drop j) d').1++T)).map bH=bC l/\wi.ownsRow w.heap.size 5 1 v o'.length (aD (b8 o'))/\Below w.heap.size w wi)
   (fun _ _ _ _ i _=>N-(intOf i).toNat)
  case atStart=>exact ⟨0,d+x,h,bi,o,rfl,gn,rfl,rfl,zg _,om,hbi,HHE.out,HDE.out,HE2.out,hown,hbel⟩
  clear hown hbel hsz;obtain ⟨j,d',h',b',o',rfl,rfl,rfl,rfl,hj,hd',hb',q1,q2,q3,hown,hbel⟩:=hrel;have Q1:Hid (h'+(aE m (l.drop j) d').1.length=hE):=q1;have Q2:Hid ((aE m (l.drop j) d').2=dE):=q2;have Q3:Hid (o'++(bT basic h' b' ((aE m (l.drop j) d').1++T)).map bH=bC l):=q3;have hsz:=hbel.size;have hh':h'<=hE:=om;have hol':o'.length<=2000:=by
   have h1:=congrArg zk Q3.out;rw[zc]at h1
   have:=lA HOK.out
   omega
  clear q1 q2 q3
  by_cases hlj:j<N
  .have ca:=jZ (aH HW.out hbel) j hlj
   have HS:Hid (l.drop j=l.getD j 0::l.drop (j+1)):=nH l j (by have:=HL.out;omega);generalize l.getD j 0=c at ca HS
   rcases zm c m with hc|hc|hc
   .have EP:Hid (aE m (l.drop j) d'=aE m (l.drop (j+1)) (d'+1)):=by show _=_;rw[HS.out,aE,if_pos hc]
    rw[EP.out]at Q1 Q2 Q3;have hci:(c:Int)<(m:Int):=om;have hcn: ¬(c:Int)=(m:Int):=om;go_wp2_with fail;go_roundw
    case rel=>exact ⟨j+1,d'+1,h',b',o',rfl,gn,rfl,gn,om,om,hb',Q1.out,Q2.out,Q3.out,hown,hbel⟩
    case measure=>exact j1
   .subst hc
    have EP:Hid (aE c (l.drop j) d'=(d'::(aE c (l.drop (j+1)) 0).1,(aE c (l.drop (j+1)) 0).2)):=by show _=_;rw[HS.out,aE,if_neg om,if_pos rfl]
    rw[EP.out]at Q1 Q2 Q3;have Q4:Hid ((o'++(cY 28 36 b' d').map bH)++(bT basic (h'+1) (aU d' (h'+1) (h'==basic)) ((aE c (l.drop (j+1)) 0).1++T)).map bH=bC l):=by
     show _=_;rw[<-Q3.out];show _=o'++(cY 28 36 b' d'++bT basic (h'+1) (aU d' (h'+1) (h'==basic)) ((aE c (l.drop (j+1)) 0).1++T)).map bH;rw[zp,zn]
    have Q5:Hid (h'+1+(aE c (l.drop (j+1)) 0).1.length=hE):=by
     show _=_;have h1:=Q1.out;simp only[zi]at h1;omega
    have hh1:h'+1<=hE:=by have:=Q5.out;omega
    have cta:=fun (first:Bool) (W:World)=>qL d' (h'+1) first W om om om
    have hal:=fI d' (h'+1) (h'==basic);simp only[show ((h'+1:Nat):Int)=(h':Int)+1 by omega]at cta;have CTA:Hid (∀(first:Bool) (W:World),CS 229 #[I J (d':Int),I J ((h':Int)+1),Z first] W (I J (aU d' (h'+1) first:Int))):=cta;clear cta Q3 Q1
    by_cases hbq:h'=basic
    .subst hbq
     rw[show (h'==h')=true by simp]at Q4 hal;go_wp2_with fail;refine (qM d' b' o' _ w.heap.size _ om om hown hsz om).mono ?_;rintro e w1 ⟨v',rfl,own1,hb1⟩;have B2:Below w.heap.size w w1:=hbel.trans hb1;clear hb1 hown hbel;go_wp2_with fail;refine (CTA.out _ _).mono ?_;rintro e w' ⟨rfl,rfl⟩;go_wp2_with fail;go_roundw
     case rel=>exact ⟨j+1,0,h'+1,_,_,gn,rfl,rfl,gn,om,om,hal,Q5.out,Q2.out,Q4.out,own1,B2⟩
     case measure=>exact j1
    have hbi2:((h':Int)==(basic:Int))=false:=by simp;omega
    rw[show (h'==basic)=false by simpa using hbq]at Q4 hal;clear hbq;go_wp2_with fail;refine (qM d' b' o' _ w.heap.size _ om om hown hsz om).mono ?_;rintro e w1 ⟨v',rfl,own1,hb1⟩;have B2:Below w.heap.size w w1:=hbel.trans hb1;clear hb1 hown hbel;go_wp2_with fail;refine (CTA.out _ _).mono ?_;rintro e w' ⟨rfl,rfl⟩;go_wp2_with fail;go_roundw
    case rel=>exact ⟨j+1,0,h'+1,_,_,gn,rfl,rfl,gn,om,om,hal,Q5.out,Q2.out,Q4.out,own1,B2⟩
    case measure=>exact j1
   have EP:Hid (aE m (l.drop j) d'=aE m (l.drop (j+1)) d'):=by show _=_;rw[HS.out,aE,if_neg om,if_neg om]
   rw[EP.out]at Q1 Q2 Q3;have hci: ¬(c:Int)<(m:Int):=om;have hcn: ¬(c:Int)=(m:Int):=om;go_wp2_with fail;go_roundw
   case rel=>exact ⟨j+1,d',h',b',o',rfl,rfl,rfl,gn,om,om,hb',Q1.out,Q2.out,Q3.out,hown,hbel⟩
   case measure=>exact j1
  have HNI:Hid (l.drop j=[]):=ze (by have:=HL.out;omega);rw[HNI.out]at Q1 Q2 Q3;have z1:h'=hE:=by have:=Q1.out;simpa[aE] using this
  have z2:d'=dE:=by have:=Q2.out;simpa[aE] using this
  have Q4:Hid (o'++(bT basic hE b' (dN l f' (m+1) (dE+1) hE)).map bH=bC l):=by
   show _=_;rw[HT.out,<-z1];exact Q3.out
  clear Q1 Q2 Q3;subst z1 z2;go_wp2_with fail;go_roundw
  case rel=>exact ⟨f',m+1,d'+1,b',h',o',rfl,gn,gn,rfl,HFE.out,om,om,hb',om,Q4.out,hown,hbel⟩
  case measure=>exact j1
 have HR:Hid (o=bC l):=by
  show _=_;have h1:=HE.out;have h2:=vW l f n d basic bi (by have:=HL.out;have:=HH.out;omega);rw[HH.out]at h2;rw[h2]at h1;simpa using h1
 have hcv:=bG (P:=prog) wr 22 9 5 underlying22 underlying5 underlying9 hown;go_wp2_with fail;go_ret2;exact ⟨by rw[HR.out];rfl,hbel⟩
theorem iJ(ao:Option Addr)(cap:Nat)(w:World):Calls prog 189 #[.slice ao 0 cap] w fun e w'=>e=L (Y #[.string ⟨#[]⟩,Z true])/\Below w.heap.size w w':=by
 have HO:=bG (P:=prog) (w.alloc (.cells #[] 5)) 22 9 5 underlying22 underlying5 underlying9 (l:=[]) (zh w #[] 0 (zd _) de rfl);go_enter func189,ntmps189;go_wp2_with fail;refine wp_loop_rounds 1 ?_;rw[rounds_succ];go_wp2_with fail;refine wp_loop_rounds 1 ?_;rw[rounds_succ];go_wp2_with fail;go_ret2;exact ⟨rfl,(zq _ _).alloc (zd _) _⟩
def DK(zl:List Int):Prop:=zl.length<=60/\ ∀z∈zl,dH z
theorem jD(zl:List Int)(N g cap B:Nat)(w:World)(hno: ¬DK zl)(hN:zl.length=N)(hN1:N<=1048576)(hown0:w.ownsRow B 3 1 (.slice (some ⟨g,0,none⟩) N cap) N (aL zl)):Calls prog 189 #[.slice (some ⟨g,0,none⟩) N cap] w fun e w'=>e=L (Y #[.string ⟨#[]⟩,Z false])/\Below w.heap.size w w':=by
 have HOK:Hid (¬DK zl):=hno;have HL:Hid (zl.length=N):=hN;have HW:Hid (w.ownsRow B 3 1 (.slice (some ⟨g,0,none⟩) N cap) N (aL zl)):=hown0;have hpos:0<N:=by
  rcases Nat.eq_zero_or_pos N with h|h
  .refine absurd ⟨om,fun z hz=> ?_⟩ hno
   rw[List.eq_nil_of_length_eq_zero (hN.trans h)]at hz;simp at hz
  exact h
 clear hno hN hown0;go_enter func189,ntmps189;go_wp2_with fail
 go_loopw[4,5] (fun v i wr=> ∃(k:Nat) (o:List Nat),k<=N/\i=I J k/\o.length<=k/\(0<k->N<=60)/\(∀z∈zl.take k,dH z)/\wr.ownsRow w.heap.size 5 1 v o.length (aD (b8 o))/\Below w.heap.size w wr)
  (fun _ i _=>N-(intOf i).toNat)
 case atStart=>exact ⟨0,[],zg _,rfl,zg _,fun h=>by omega,fun z hz=>by simp at hz,zh w #[] 0 (zd _) de rfl,(zq _ _).alloc (zd _) _⟩
 obtain ⟨k,o,hk,rfl,hol,h60,hall,hown,hbel⟩:=hrel;have H60:Hid (0<k->N<=60):=h60;have HA:Hid (∀z∈zl.take k,dH z):=hall;have hsz:=hbel.size;clear h60 hall
 by_cases hlt:k<N
 .by_cases hbig:60<(N:Int)
  .go_wp2_with fail
   go_ret2;exact ⟨rfl,hbel⟩
  have ca:=oX (aH HW.out hbel) k hlt;have HS:Hid (zl.take (k+1)=zl.take k++[zl.getD k 0]):=pY zl k (by have:=HL.out;omega);generalize zl.getD k 0=z at ca HS
  by_cases hr:dH z
  .have HR:Hid (dH z):=hr
   have HA2:Hid (∀y∈zl.take (k+1),dH y):=by
    intro y hy;rw[HS.out]at hy
    rcases List.mem_append.1 hy with hy|hy
    .exact HA.out y hy
    rw[List.mem_singleton.1 hy];exact hr
   have hz0:0<=z:=hr.1;have hz1:z<=1114111:=hr.2.1;clear hr
   by_cases hc:z<128
   .obtain ⟨c,rfl⟩:=Int.eq_ofNat_of_zero_le hz0
    go_wp2_with fail;refine j5 (dR _ _ HR.out) ?_;go_wp2_with (first|(at_builtin;refine aB _ rfl _ _ 22 rfl w.heap.size 5 (.int .u8 0) 1 underlying22 info5 rfl _ _ _ rfl hown #[.int .u8 (c:Int)] 1 rfl rfl (dS _) om (by unfold maxLen;omega) om ?_));intro v' w1 hown' hb1;have R:=fP c om rfl hown';have B1:Below w.heap.size w w1:=hbel.trans hb1;clear hown' hb1 hown hbel;go_wp2_with fail;go_roundw
    case rel=>exact ⟨k+1,o++[c],om,gn,by simp;omega,fun _=>by omega,HA2.out,R,B1⟩
    case measure=>exact j1
   go_wp2_with fail;refine j5 (dR _ _ HR.out) ?_;go_wp2_with fail;go_roundw
   case rel=>exact ⟨k+1,o,om,gn,om,fun _=>by omega,HA2.out,hown,hbel⟩
   case measure=>exact j1
  have HR:Hid (¬dH z):=hr;clear hr;go_wp2_with fail;refine j5 (lL _ _ HR.out) ?_;go_wp2_with fail;go_ret2;exact ⟨rfl,hbel⟩
 refine absurd ⟨?_,?_⟩ HOK.out
 .have:=HL.out
  have:=H60.out om
  omega
 have h:=HA.out;rw[zj (by have:=HL.out;omega)]at h;exact h
theorem XE(c:Nat):aW c<=36:=by
 unfold aW;split
 .omega
 split<;>omega
theorem A6(c:Nat)(w:World)(hc:(c:Int)<=255):Calls prog 274 #[.int .u8 (c:Int)] w fun e w'=>e=L (I J (aW c:Int))/\w=w':=by
 by_cases h1:97<=(c:Int)/\(c:Int)<=122
 .obtain ⟨a1,a2⟩:=h1
  have HV:Hid ((aW c:Int)=(c:Int)-97):=by show _=_;unfold aW;rw[if_pos om];omega
  go_enter func274,ntmps274;go_wp2_with fail;refine j5 (aJ _ _ _ _ a1 a2) ?_;go_wp2;go_ret;exact ⟨aR (by rw[HV.out]<;>omega),rfl⟩
 have H1:Hid ((c:Int)<97∨122<(c:Int)):=by show _∨_;omega
 by_cases h2:48<=(c:Int)/\(c:Int)<=57
 .obtain ⟨a1,a2⟩:=h2
  have HV:Hid ((aW c:Int)=(c:Int)-22):=by show _=_;unfold aW;rw[if_neg om,if_pos om];omega
  clear h1;go_enter func274,ntmps274;go_wp2_with fail;refine j5 (aN _ _ _ _ H1.out) ?_;go_wp2_with fail;refine j5 (aJ _ _ _ _ a1 a2) ?_;go_wp2;go_ret;exact ⟨aR (by rw[HV.out]<;>omega),rfl⟩
 have HV:Hid ((aW c:Int)=36):=by show _=_;unfold aW;rw[if_neg om,if_neg om];rfl
 have H2:Hid ((c:Int)<48∨57<(c:Int)):=by show _∨_;omega
 clear h1 h2;go_enter func274,ntmps274;go_wp2_with fail;refine j5 (aN _ _ _ _ H1.out) ?_;go_wp2_with fail;refine j5 (aN _ _ _ _ H2.out) ?_;go_wp2;go_ret;exact ⟨aR (by rw[HV.out]),rfl⟩
def sN(s:ByteArray):List Nat:=s.data.toList.map UInt8.toNat
theorem bM(s:ByteArray):(sN s).length=s.size:=by simp[sN]
theorem oA(s:ByteArray)(k:Nat)(h:k<s.size):(sN s).drop k=s[k].toNat::(sN s).drop (k+1):=by
 unfold sN;rw[<-List.map_drop,<-List.map_drop,gC s k h];rfl
theorem LN(s:ByteArray)(k:Nat)(h:s.size<=k):(sN s).drop k=[]:=ze (by rw[bM];exact h)
theorem DL: ∀(a:List Nat) (s:List Nat),(∀c∈s.drop (a.length+1),c≠45)->s.take a.length=a->s[a.length]? =some 45->cP s=some (a,s.drop (a.length+1)):=by
 intro a s h1 h2 h3;have hs:s=a++45::s.drop (a.length+1):=by
  obtain ⟨hl,he⟩:=List.getElem?_eq_some_iff.1 h3;rw[<-List.take_append_drop a.length s,h2,List.drop_eq_getElem_cons hl,he];simp
 rw[hs];rw[vU _ h1 a];simp
theorem P0(s:ByteArray)(w:World)(hs:(s.size:Int)<=1048576):Calls prog 256 #[.string s] w fun e w'=> ∃r:Int,e=L (I J r)/\w=w'/\((r= -1/\cP (sN s)=none)∨ ∃k:Nat,k<s.size/\r=(k:Int)/\cP (sN s)=some ((sN s).take k,(sN s).drop (k+1))):=by
 go_enter func256,ntmps256;go_wp2_with fail
 go_loop[3] (fun i=> ∃k:Nat,k<=s.size/\i=I J ((k:Int)-1)/\ ∀c∈(sN s).drop k,c≠45) (fun i=>(intOf i+1).toNat)
 case atStart=>exact ⟨s.size,zd _,rfl,fun c hc=>by rw[LN s _ (zd _)]at hc;simp at hc⟩
 obtain ⟨k,hk,rfl,hno⟩:=hrel;have HN:Hid (∀c∈(sN s).drop k,c≠45):=hno;clear hno
 by_cases hp:0<k
 .obtain ⟨j,rfl⟩: ∃j,k=j+1:=⟨k-1,om⟩
  have hcast:(((j+1:Nat):Int)-1)=(j:Int):=om;have hjs:j<s.size:=om;obtain ⟨d,hd⟩: ∃d:Nat,s[j].toNat=d:=⟨_,rfl⟩;have hge:0<=(j:Int):=om;rw[hcast]
  by_cases h45:(d:Int)=45
  .have HS:Hid (cP (sN s)=some ((sN s).take j,(sN s).drop (j+1))):=by
    have hl:((sN s).take j).length=j:=by rw[List.length_take,bM];omega
    have h:=DL ((sN s).take j) (sN s) (by rw[hl];exact HN.out) (by rw[hl]) (by
     rw[hl,<-List.head?_drop,oA s j hjs,hd];simp;omega)
    rw[hl]at h;exact h
   have hd45:d=45:=om;subst hd45;clear h45 hcast;go_wp2_with fail;go_ret;exact ⟨_,rfl,rfl,.inr ⟨j,hjs,rfl,HS.out⟩⟩
  have HN2:Hid (∀c∈(sN s).drop j,c≠45):=by
   intro c hc;rw[oA s j hjs,hd]at hc
   rcases List.mem_cons.1 hc with rfl|hc
   .omega
   exact HN.out c hc
  clear hcast;go_wp2_with fail;go_round
  case rel=>exact ⟨j,om,gn,HN2.out⟩
  case measure=>simp[intOf]
 have hk0:k=0:=om;subst hk0;have HS:Hid (cP (sN s)=none):=nG _ (by have h:=HN.out;simpa using h);go_wp2_with fail;go_ret;exact ⟨-1,rfl,rfl,.inl ⟨rfl,HS.out⟩⟩
theorem DM{bias k i w d:Nat}{ds:List Nat}(h:1099511627776<i∨1099511627776<w∨36<=d):dA bias k i w (d::ds)=none:=by rw[dA,if_pos h]
theorem A7{bias k i w d:Nat}{ds:List Nat}(h: ¬(1099511627776<i∨1099511627776<w∨36<=d))(hd:d<bF k bias):dA bias k i w (d::ds)=some (i+d*w,ds):=by rw[dA,if_neg h,if_pos hd]
theorem UG{bias k i w d:Nat}{ds:List Nat}(h: ¬(1099511627776<i∨1099511627776<w∨36<=d))(hd: ¬d<bF k bias):dA bias k i w (d::ds)=dA bias (k+36) (i+d*w) (w*(36-bF k bias)) ds:=by rw[dA,if_neg h,if_neg hd]
def lX(s:ByteArray)(at0 bias:Nat)(e:Ending):Prop:=
 match dA bias 36 0 1 (((sN s).drop at0).map aW)with
 |none=>e=L (Y #[I J 0,I J 0,Z false])
 |some (more,rest)=> ∃next:Nat,at0<next/\next<=s.size/\rest=((sN s).drop next).map aW/\e=L (Y #[I J (more:Int),I J (next:Int),Z true])
theorem lY{s:ByteArray}{at0 bias:Nat}{e:Ending}(h:dA bias 36 0 1 (((sN s).drop at0).map aW)=none)(he:e=L (Y #[I J 0,I J 0,Z false])):lX s at0 bias e:=by
 unfold lX;rw[h];exact he
theorem LO{s:ByteArray}{at0 bias more next:Nat}{e:Ending}(h:dA bias 36 0 1 (((sN s).drop at0).map aW)=some (more,((sN s).drop next).map aW))(h1:at0<next)(h2:next<=s.size)(he:e=L (Y #[I J (more:Int),I J (next:Int),Z true])):lX s at0 bias e:=by
 unfold lX;rw[h];exact ⟨next,h1,h2,rfl,he⟩
theorem OY(s:ByteArray)(at0 bias:Nat)(w:World)(hs:(s.size:Int)<=600)(hat:at0<=s.size)(hb:(bias:Int)<=2400):Calls prog 257 #[.string s,I J (at0:Int),I J (bias:Int)] w fun e w'=>lX s at0 bias e/\w=w':=by
 go_enter func257,ntmps257;go_wp2_with fail
 go_loop[1,9,10,11] (fun p a b c=> ∃q i v k:Nat,p=I J q/\a=I J i/\b=I J v/\c=I J k/\at0<=q/\q<=s.size/\i<=39582418599936/\v<=38482906972160/\k<=36*(q+1)/\dA bias k i v (((sN s).drop q).map aW)=dA bias 36 0 1 (((sN s).drop at0).map aW)) (fun p _ _ _=>s.size-(intOf p).toNat)
 case atStart=>exact ⟨at0,0,1,36,rfl,rfl,rfl,rfl,zd _,hat,om,om,om,rfl⟩
 obtain ⟨q,i,v,k,rfl,rfl,rfl,rfl,hq0,hq,hi,hv,hk,he⟩:=hrel;have HE:Hid (dA bias k i v (((sN s).drop q).map aW)=dA bias 36 0 1 (((sN s).drop at0).map aW)):=he;clear he
 by_cases hlt:q<s.size
 .have hlti: ¬(s.size:Int)<=(q:Int):=om
  obtain ⟨c,hc⟩: ∃c:Nat,s[q].toNat=c:=⟨_,rfl⟩;have hc255:(c:Int)<=255:=by have:=s[q].toNat_lt;omega
  have HS:Hid (((sN s).drop q).map aW=aW c::((sN s).drop (q+1)).map aW):=by show _=_;rw[oA s q hlt,hc];rfl
  rw[HS.out]at HE;have cv:=fun W=>A6 c W hc255
  have hv36:=XE c;generalize aW c=d at cv HE hv36;have CV:Hid (∀W,CS 274 #[.int .u8 (c:Int)] W (I J (d:Int))):=cv;clear cv HS
  by_cases hib:1099511627776<(i:Int)
  .have HR:=HE.out.symm.trans (DM (.inl om))
   have HRH:Hid (dA bias 36 0 1 (((sN s).drop at0).map aW)=none):=HR;clear HR;go_wp2_with fail;go_ret3;exact ⟨lY HRH.out rfl,rfl⟩
  by_cases hvb:1099511627776<(v:Int)
  .have HRH:Hid (dA bias 36 0 1 (((sN s).drop at0).map aW)=none):=HE.out.symm.trans (DM (.inr (.inl om)))
   go_wp2_with fail;go_ret3;exact ⟨lY HRH.out rfl,rfl⟩
  by_cases hd36:(d:Int)=36
  .have HRH:Hid (dA bias 36 0 1 (((sN s).drop at0).map aW)=none):=HE.out.symm.trans (DM (.inr (.inr om)))
   have hd37:d=36:=om;subst hd37;clear hd36;go_wp2_with fail;refine (CV.out _).mono ?_;rintro e w' ⟨rfl,rfl⟩;go_wp2_with fail;go_ret3;exact ⟨lY HRH.out rfl,rfl⟩
  have ct:=fun W=>IL k bias W om om
  obtain ⟨l1,l2⟩:=qI k bias;have hpb:d*v<=35*v:=Nat.mul_le_mul_right v om;have hM:(d:Int)*(v:Int)=((d*v:Nat):Int):=by norm_cast
  by_cases hdt:d<bF k bias
  .have HRH:Hid (dA bias 36 0 1 (((sN s).drop at0).map aW)=some (i+d*v,((sN s).drop (q+1)).map aW)):=HE.out.symm.trans (A7 om hdt)
   generalize bF k bias=t at ct hdt l1 l2;generalize d*v=p at hM HRH hpb;have hdti:(d:Int)<(t:Int):=om;have CT:Hid (∀W,CS 254 #[I J (k:Int),I J (bias:Int)] W (I J (t:Int))):=ct;clear ct;go_wp2_with fail;refine (CV.out _).mono ?_;rintro e w' ⟨rfl,rfl⟩;go_wp2_with fail;refine (CT.out _).mono ?_;rintro e w' ⟨rfl,rfl⟩;go_wp2_with fail;go_ret3;exact ⟨LO HRH.out om om j2,rfl⟩
  have HN:Hid (dA bias (k+36) (i+d*v) (v*(36-bF k bias)) (((sN s).drop (q+1)).map aW)=dA bias 36 0 1 (((sN s).drop at0).map aW)):=(UG om hdt).symm.trans HE.out;have hwb:v*(36-bF k bias)<=v*35:=zf v om;have hc2:((36-bF k bias:Nat):Int)=36-(bF k bias:Int):=om;have hW:(v:Int)*(36-(bF k bias:Int))=((v*(36-bF k bias):Nat):Int):=by rw[<-hc2];norm_cast
  clear hc2;generalize hlim:bF k bias=t at ct hdt l1 l2 HN hwb hW;clear hlim;generalize d*v=p at hM HN hpb;generalize v*(36-t)=v' at hW HN hwb;have hdti: ¬(d:Int)<(t:Int):=om;have CT:Hid (∀W,CS 254 #[I J (k:Int),I J (bias:Int)] W (I J (t:Int))):=ct;clear ct;go_wp2_with fail;refine (CV.out _).mono ?_;rintro e w' ⟨rfl,rfl⟩;go_wp2_with fail;refine (CT.out _).mono ?_;rintro e w' ⟨rfl,rfl⟩;go_wp2_with fail;go_round
  case rel=>exact ⟨q+1,i+p,v',k+36,gn,gn,rfl,gn,om,om,om,om,om,HN.out⟩
  case measure=>exact j1
 have hlti:(s.size:Int)<=(q:Int):=om;have HRH:Hid (dA bias 36 0 1 (((sN s).drop at0).map aW)=none):=by
  show _=_;rw[<-HE.out,LN s q om];rfl
 go_wp2_with fail;go_ret3;exact ⟨lY HRH.out rfl,rfl⟩
