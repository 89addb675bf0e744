/- EncImpl, IntMarks, EncBoth, InsImpl. -/
import Derived.Test.YtgcbaphbiaimoaaGreatDoorQF19
import Derived.Test.YtgcbaphbiaimoaaGreatDoorQF21
set_option maxHeartbeats 8000000
set_option maxRecDepth 20000
namespace Go.Proofs.YtgcbaphbiaimoaaGreatDoor
open Go.Value renaming int->I,tuple->Z,bool->H
open Go.IntKind renaming i64->J
open Go.Ending renaming returned->L
open Go.Obj renaming cells->Y
open _root_.Array renaming size_append->zi,toList_append->zm
open _root_.Go.RowKit.Below renaming refl->zp
open _root_.List renaming any_eq_false->zt,append_assoc->zd,append_nil->zq,drop_of_length_le->zh,eq_nil_of_length_eq_zero->zk,length->zr,length_append->zf,length_cons->zj,length_drop->zw,length_filter_le->za,map_append->zy,take_left'->zc,take_of_length_le->zg
open _root_.Nat renaming le_refl->zn,lt_trichotomy->zv,mul_le_mul_left->zs,mul_one->zo,zero_add->ze,zero_le->zx
open _root_.Go.World renaming ownsRow_lit->zu
open _root_.Go.Proofs.Tryz
open _root_.Go.Proofs.YtgcbaphbiaimoaaGreatDoor.Tryz
section
open Go.RowKit Go.Shelf
theorem F4: ∀args w,(callFunc 298 args).run prog w=.ok (.enter 298 args) w:=enters_of func298 kr rfl
theorem EO(zl:List Int)(N g cap B:Nat)(w:World)(hN:zl.length=N)(hN1:N<=1048576)(hown:w.ownsRow B 3 1 (.slice (some ⟨g,0,none⟩) N cap) N (aL zl)):Calls prog 297 #[.slice (some ⟨g,0,none⟩) N cap,.func (.func 298) #[] #[]] w fun e w'=>e=L (H (zl.any fun z=> !(iE z)))/\ ∃q,w'=w.drewN q:=by
 have h:=slices_ContainsFunc (fun z:Int=>Value.int .i64 z) (fun z=> !(iE z)) 298 #[] F4 g 0 N cap zl w (RK w) om om (fun j hj=>by
  rw[ze,oX hown j om];simp[List.getD,hj])
 rw[zg om]at h;exact h
theorem RO(l:List Nat)(N g cap B:Nat)(w:World)(hok:dY l=true)(hN:l.length=N)(hown:w.ownsRow B 3 1 (.slice (some ⟨g,0,none⟩) N cap) N (icN l)):Calls prog 297 #[.slice (some ⟨g,0,none⟩) N cap,.func (.func 298) #[] #[]] w fun e w'=>e=L (H false)/\ ∃q,w'=w.drewN q:=by
 have h60:=(bI hok).1;have h:=EO (l.map fun (c:Nat)=>(c:Int)) N g cap B w (by simpa using hN) om hown;have e:(l.map fun (c:Nat)=>(c:Int)).any (fun z=> !(iE z))=false:=by
  rw[zt];intro z hz;obtain ⟨c,hc,rfl⟩:=List.mem_map.1 hz;simp only[dY,Bool.and_eq_true,List.all_eq_true]at hok
  have:=(JW (c:Int)).2 (vX (hok.2 c hc))
  simp[this]
 rw[e]at h;exact h
theorem uR(l:List Nat)(N g cap B:Nat)(w:World)(hok:dY l=true)(hN:l.length=N)(hown0:w.ownsRow B 3 1 (.slice (some ⟨g,0,none⟩) N cap) N (icN l)):Calls prog 292 #[.slice (some ⟨g,0,none⟩) N cap] w fun e w'=>e=L (Z #[.string ⟨(b8 (bC l)).toArray⟩,H true])/\Below w.heap.size w w':=by
 have hN60:(N:Int)<=60:=by have:=(bI hok).1;omega
 have HOK:Hid (dY l=true):=hok;have HL:Hid (l.length=N):=hN;have HW:Hid (w.ownsRow B 3 1 (.slice (some ⟨g,0,none⟩) N cap) N (icN l)):=hown0;have CC:Hid (Calls prog 297 #[.slice (some ⟨g,0,none⟩) N cap,.func (.func 298) #[] #[]] w fun e w'=>e=L (H false)/\ ∃q,w'=w.drewN q):=RO l N g cap B w hok hN hown0;clear hok hN hown0;go_enter func292,ntmps292;have hng: ¬60<(N:Int):=om;go_wp2_with fail;refine CC.out.mono ?_;rintro e w2 ⟨rfl,q,hw2⟩;have B0:Below w.heap.size w w2:=by rw[hw2];exact ⟨rfl,rfl,rfl,zn _,fun _ _=>rfl⟩
 have hsz2:w2.heap.size=w.heap.size:=by rw[hw2];rfl
 clear hw2 q;have HZ:Hid ((w2.alloc (Y #[] 5)).ownsRow w.heap.size 5 1 (.slice (some ⟨w.heap.size,0,none⟩) 0 0) 0 []):=by
  have h:(w2.alloc (Y #[] 5)).ownsRow w.heap.size 5 1 (.slice (some ⟨w2.heap.size,0,none⟩) 0 0) 0 []:=zu w2 #[] 0 (show w.heap.size<=w2.heap.size by omega) de rfl;rw[hsz2]at h;exact h
 go_wp2_with fail
 go_loopw[4,25] (fun v i wr=> ∃k:Nat,k<=N/\i=I J k/\wr.ownsRow w.heap.size 5 1 v ((l.take k).filter (· <128)).length (aD (b8 ((l.take k).filter (· <128))))/\Below w.heap.size w wr)
  (fun _ i _=>N-(intOf i).toNat)
 case atStart=>exact ⟨0,zx _,rfl,HZ.out,B0.alloc om _⟩
 obtain ⟨k,hk,rfl,hown,hbel⟩:=hrel;have hsz:=hbel.size
 by_cases hlt:k<N
 .have ca:=jZ (aH HW.out hbel) k hlt
  have hr:=DJ HOK.out k (by have:=HL.out;omega);have hfl:((l.take k).filter (· <128)).length<=k:=Nat.le_trans (za _ _) (List.length_take_le _ _);have HS:Hid ((l.take (k+1)).filter (· <128)=(l.take k).filter (· <128)++(if l.getD k 0<128 then [l.getD k 0]else [])):=zI l k (by have:=HL.out;omega);generalize (l.take k).filter (· <128)=o at hown HS hfl;generalize l.getD k 0=c at ca HS hr;have HR:Hid (dH (c:Int)):=vX hr;have hc1:(c:Int)<=1114111:=HR.out.2.1;clear hr
  by_cases hc:(c:Int)<128
  .rw[if_pos om]at HS
   go_wp2_with (first|(at_builtin;refine aB _ rfl _ _ 22 rfl w.heap.size 5 (.int .u8 0) 1 underlying22 info5 rfl _ _ _ rfl hown #[.int .u8 (c:Int)] 1 rfl rfl (dS _) om (by unfold maxLen;omega) om ?_));intro v' w1 hown' hb1;have R:=fP c om rfl hown';have B1:Below w.heap.size w w1:=hbel.trans hb1;clear hown' hb1 hown hbel;go_wp2_with fail;go_roundw
   case rel=>exact ⟨k+1,om,gn,by rw[HS.out];exact R,B1⟩
   case measure=>exact j1
  rw[if_neg om,zq]at HS;go_wp2_with fail;go_roundw
  case rel=>exact ⟨k+1,om,gn,by rw[HS.out];exact hown,hbel⟩
  case measure=>exact j1
 rw[zg (by have:=HL.out;omega)]at hown;have hfl:=za (fun x=>decide (x<128)) l;obtain ⟨basic,hbs⟩: ∃b,(l.filter (· <128)).length=b:=⟨_,rfl⟩;have hb60:(basic:Int)<=60:=by have:=HL.out;omega
 obtain ⟨ao,cp,hu⟩:=gR hown;rw[hbs]at hu;subst hu;have HBS:Hid ((l.filter (· <128)).length=basic):=hbs;have hO:=hown;rw[hbs]at hO;have HO:Hid (wr.ownsRow w.heap.size 5 1 (.slice ao basic cp) basic (aD (b8 (l.filter (· <128))))):=hO;clear hown hO hfl hbs
 by_cases hbz:0<basic
 .have hbzi:0<(basic:Int):=om
  have HPRE:Hid ((l.filter (· <128)++[45])++(bT basic basic 72 (dN l N 128 0 basic)).map bH=bC l):=by
   show _=_;unfold bC rS;rw[HBS.out,if_pos hbz,HL.out]
  have hO:=HO.out;have hlen:(l.filter (· <128)).length=basic:=HBS.out;go_wp2_with (at_builtin;refine aB _ rfl _ _ 22 rfl w.heap.size 5 (.int .u8 0) 1 underlying22 info5 rfl _ _ _ rfl hO #[.int .u8 45] 1 rfl rfl (dS _) om (by unfold maxLen;omega) om ?_);intro v' w1 hown' hb1;have HO1:Hid (w1.ownsRow w.heap.size 5 1 v' (l.filter (· <128)++[45]).length (aD (b8 (l.filter (· <128)++[45])))):=fP 45 om rfl (by rw[hlen];exact hown');have B1:Below w.heap.size w w1:=hbel.trans hb1;clear hown' hb1 hO hbel hsz hlen;generalize l.filter (· <128)++[45]=o1 at HPRE HO1;go_wp2_with fail
  go_loopw[4,11,8,9,10] (fun v a b c e wr=> ∃(f n d bi h:Nat) (o:List Nat),a=I J h/\b=I J n/\c=I J d/\e=I J bi/\(l.filter (· <n)).length=h/\n<=1114112/\d<=61*n/\bi<=2400/\N<=h+f/\o++(bT basic h bi (dN l f n d h)).map bH=bC l/\wr.ownsRow w.heap.size 5 1 v o.length (aD (b8 o))/\Below w.heap.size w wr)
   (fun _ a _ _ _ _=>N-(intOf a).toNat)
  case atStart=>exact ⟨N,128,0,72,basic,o1,rfl,rfl,rfl,rfl,HBS.out,om,om,om,om,HPRE.out,HO1.out,B1⟩
  clear B1;obtain ⟨f,n,d,bi,h,o,rfl,rfl,rfl,rfl,hh,hn,hd,hbi,hf,he,hown,hbel⟩:=hrel;have HE:Hid (o++(bT basic h bi (dN l f n d h)).map bH=bC l):=he;have HH:Hid ((l.filter (· <n)).length=h):=hh;have hsz:=hbel.size;have hol:o.length<=2000:=by
   have h1:=congrArg zr HE.out;rw[zf]at h1
   have:=lA HOK.out
   omega
  have hhN:h<=N:=by
   have:=za (fun x=>decide (x<n)) l
   have:=HL.out
   omega
  clear he hh
  by_cases hlt2:h<N
  .obtain ⟨m1,m2,m3⟩:=pE l n (bI HOK.out).2 (by have:=HL.out;have:=HH.out;omega)
   have hmv:=(bI HOK.out).2 _ m1;have HFS:Hid (l.filter (· <n)=l.filter (· <aK n l)):=iN l n _ m2 m3;have HMO:Hid ((l.filter (· <aK n l)).length<(l.filter (· <=aK n l)).length):=kY _ l m1;have ctl:=JX l n N cap g B wr HL.out om (bI HOK.out).2 hmv (aH HW.out hbel);obtain ⟨f',rfl⟩: ∃q,f=q+1:=⟨f-1,om⟩;have HD:Hid (dN l (f'+1) n d h=(aE (aK n l) l (d+(aK n l-n)*(h+1))).1++dN l f' (aK n l+1) ((aE (aK n l) l (d+(aK n l-n)*(h+1))).2+1) (h+(aE (aK n l) l (d+(aK n l-n)*(h+1))).1.length)):=by
    show _=_;rw[dN,if_pos (by have:=HL.out;omega)]
   clear m1 m3;generalize aK n l=m at*;have hxb:(m-n)*(h+1)<=(m-n)*61:=zs _ om;have hc1:((m-n:Nat):Int)=(m:Int)-(n:Int):=om;have hx61:d+(m-n)*(h+1)<=61*m:=om;have hX:((m:Int)-(n:Int))*((h:Int)+1)=(((m-n)*(h+1):Nat):Int):=by rw[<-hc1];norm_cast
   generalize (m-n)*(h+1)=x at*;have HPL:Hid ((l.filter (· <m)).length+(aE m l (d+x)).1.length=(l.filter (· <=m)).length):=jC m l (d+x);have HPB:Hid ((aE m l (d+x)).2<=61*m+60):=(nY m l (d+x) (61*m+60) (by have:=HL.out;omega)).2;obtain ⟨hE,HHE⟩: ∃q,Hid (h+(aE m l (d+x)).1.length=q):=⟨_,rfl⟩;obtain ⟨dE,HDE⟩: ∃q,Hid ((aE m l (d+x)).2=q):=⟨_,rfl⟩;have hhE:(l.filter (· <=m)).length=hE:=by
    have h1:=HPL.out;have h2:=HHE.out;have h3:=HH.out;rw[HFS.out]at h3;omega
   have hEN:hE<=N:=by
    have:=za (fun x=>decide (x<=m)) l
    have:=HL.out
    omega
   have hgr:h<hE:=by
    have h1:=HMO.out;have h3:=HH.out;rw[HFS.out]at h3;omega
   have HFE:Hid ((l.filter (· <m+1)).length=hE):=by show _=_;rw[fO];exact hhE
   obtain ⟨T,HT⟩: ∃q,Hid (dN l f' (m+1) (dE+1) hE=q):=⟨_,rfl⟩;have HE2:Hid (o++(bT basic h bi ((aE m l (d+x)).1++T)).map bH=bC l):=by
    show _=_;rw[<-HE.out,HD.out,<-HT.out,HHE.out,HDE.out]
   have hdE:dE<=61*m+60:=by have h1:=HPB.out;rw[HDE.out]at h1;exact h1
   have CTL:Hid (CS 299 #[.slice (some ⟨g,0,none⟩) N cap,I J (n:Int)] wr (I J (m:Int))):=ctl;clear ctl HFS HMO HPL HPB HD HE hc1 hxb hhE;go_wp2_with fail;refine CTL.out.mono ?_;rintro e w' ⟨rfl,rfl⟩;go_wp2_with fail
   go_loopw[4,11,9,10,63] (fun v a c e i wi=> ∃(j d' h' b':Nat) (o':List Nat),a=I J h'/\c=I J d'/\e=I J b'/\i=I J j/\j<=N/\d'<=61*m+j/\b'<=2400/\h'+(aE m (l.drop j) d').1.length=hE/\(aE m (l.drop j) d').2=dE/\o'++(bT basic h' b' ((aE m (l.drop j) d').1++T)).map bH=bC l/\wi.ownsRow w.heap.size 5 1 v o'.length (aD (b8 o'))/\Below w.heap.size w wi)
    (fun _ _ _ _ i _=>N-(intOf i).toNat)
   case atStart=>exact ⟨0,d+x,h,bi,o,rfl,gn,rfl,rfl,zx _,om,hbi,HHE.out,HDE.out,HE2.out,hown,hbel⟩
   clear hown hbel hsz;obtain ⟨j,d',h',b',o',rfl,rfl,rfl,rfl,hj,hd',hb',q1,q2,q3,hown,hbel⟩:=hrel;have Q1:Hid (h'+(aE m (l.drop j) d').1.length=hE):=q1;have Q2:Hid ((aE m (l.drop j) d').2=dE):=q2;have Q3:Hid (o'++(bT basic h' b' ((aE m (l.drop j) d').1++T)).map bH=bC l):=q3;have hsz:=hbel.size;have hh':h'<=hE:=om;have hol':o'.length<=2000:=by
    have h1:=congrArg zr Q3.out;rw[zf]at h1
    have:=lA HOK.out
    omega
   clear q1 q2 q3
   by_cases hlj:j<N
   .have ca:=jZ (aH HW.out hbel) j hlj
    have HS:Hid (l.drop j=l.getD j 0::l.drop (j+1)):=nH l j (by have:=HL.out;omega);generalize l.getD j 0=c at ca HS
    rcases zv c m with hc|hc|hc
    .have EP:Hid (aE m (l.drop j) d'=aE m (l.drop (j+1)) (d'+1)):=by show _=_;rw[HS.out,aE,if_pos hc]
     rw[EP.out]at Q1 Q2 Q3;have hci:(c:Int)<(m:Int):=om;have hcn: ¬(c:Int)=(m:Int):=om;go_wp2_with fail;go_roundw
     case rel=>exact ⟨j+1,d'+1,h',b',o',rfl,gn,rfl,gn,om,om,hb',Q1.out,Q2.out,Q3.out,hown,hbel⟩
     case measure=>exact j1
    .subst hc
     have EP:Hid (aE c (l.drop j) d'=(d'::(aE c (l.drop (j+1)) 0).1,(aE c (l.drop (j+1)) 0).2)):=by show _=_;rw[HS.out,aE,if_neg om,if_pos rfl]
     rw[EP.out]at Q1 Q2 Q3;have Q4:Hid ((o'++(cY 28 36 b' d').map bH)++(bT basic (h'+1) (aU d' (h'+1) (h'==basic)) ((aE c (l.drop (j+1)) 0).1++T)).map bH=bC l):=by
      show _=_;rw[<-Q3.out];show _=o'++(cY 28 36 b' d'++bT basic (h'+1) (aU d' (h'+1) (h'==basic)) ((aE c (l.drop (j+1)) 0).1++T)).map bH;rw[zy,zd]
     have Q5:Hid (h'+1+(aE c (l.drop (j+1)) 0).1.length=hE):=by
      show _=_;have h1:=Q1.out;simp only[zj]at h1;omega
     have hh1:h'+1<=hE:=by have:=Q5.out;omega
     have cta:=fun (first:Bool) (W:World)=>jN d' (h'+1) first W om om om
     have hal:=fI d' (h'+1) (h'==basic);simp only[show ((h'+1:Nat):Int)=(h':Int)+1 by omega]at cta;have CTA:Hid (∀(first:Bool) (W:World),CS 301 #[I J (d':Int),I J ((h':Int)+1),H first] W (I J (aU d' (h'+1) first:Int))):=cta;clear cta Q3 Q1
     by_cases hbq:h'=basic
     .subst hbq
      rw[show (h'==h')=true by simp]at Q4 hal;go_wp2_with fail;refine (qW d' b' o' _ w.heap.size _ om om hown hsz om).mono ?_;rintro e w1 ⟨v',rfl,own1,hb1⟩;have B2:Below w.heap.size w w1:=hbel.trans hb1;clear hb1 hown hbel;go_wp2_with fail;refine (CTA.out _ _).mono ?_;rintro e w' ⟨rfl,rfl⟩;go_wp2_with fail;go_roundw
      case rel=>exact ⟨j+1,0,h'+1,_,_,gn,rfl,rfl,gn,om,om,hal,Q5.out,Q2.out,Q4.out,own1,B2⟩
      case measure=>exact j1
     have hbi2:((h':Int)==(basic:Int))=false:=by simp;omega
     rw[show (h'==basic)=false by simpa using hbq]at Q4 hal;clear hbq;go_wp2_with fail;refine (qW d' b' o' _ w.heap.size _ om om hown hsz om).mono ?_;rintro e w1 ⟨v',rfl,own1,hb1⟩;have B2:Below w.heap.size w w1:=hbel.trans hb1;clear hb1 hown hbel;go_wp2_with fail;refine (CTA.out _ _).mono ?_;rintro e w' ⟨rfl,rfl⟩;go_wp2_with fail;go_roundw
     case rel=>exact ⟨j+1,0,h'+1,_,_,gn,rfl,rfl,gn,om,om,hal,Q5.out,Q2.out,Q4.out,own1,B2⟩
     case measure=>exact j1
    have EP:Hid (aE m (l.drop j) d'=aE m (l.drop (j+1)) d'):=by show _=_;rw[HS.out,aE,if_neg om,if_neg om]
    rw[EP.out]at Q1 Q2 Q3;have hci: ¬(c:Int)<(m:Int):=om;have hcn: ¬(c:Int)=(m:Int):=om;go_wp2_with fail;go_roundw
    case rel=>exact ⟨j+1,d',h',b',o',rfl,rfl,rfl,gn,om,om,hb',Q1.out,Q2.out,Q3.out,hown,hbel⟩
    case measure=>exact j1
   have HNI:Hid (l.drop j=[]):=zh (by have:=HL.out;omega);rw[HNI.out]at Q1 Q2 Q3;have z1:h'=hE:=by have:=Q1.out;simpa[aE] using this
   have z2:d'=dE:=by have:=Q2.out;simpa[aE] using this
   have Q4:Hid (o'++(bT basic hE b' (dN l f' (m+1) (dE+1) hE)).map bH=bC l):=by
    show _=_;rw[HT.out,<-z1];exact Q3.out
   clear Q1 Q2 Q3;subst z1 z2;go_wp2_with fail;go_roundw
   case rel=>exact ⟨f',m+1,d'+1,b',h',o',rfl,gn,gn,rfl,HFE.out,om,om,hb',om,Q4.out,hown,hbel⟩
   case measure=>exact j1
  have HR:Hid (o=bC l):=by
   show _=_;have h1:=HE.out;have h2:=vW l f n d basic bi (by have:=HL.out;have:=HH.out;omega);rw[HH.out]at h2;rw[h2]at h1;simpa using h1
  have hcv:=bG (P:=prog) wr 22 9 5 underlying22 underlying5 underlying9 hown;go_wp2_with fail;go_ret2;exact ⟨by rw[HR.out];rfl,hbel⟩
 have hbzi: ¬0<(basic:Int):=om;have HPRE:Hid (l.filter (· <128)++(bT basic basic 72 (dN l N 128 0 basic)).map bH=bC l):=by
  show _=_;unfold bC rS;rw[HBS.out,if_neg hbz,HL.out,zq]
 have HO1:Hid (wr.ownsRow w.heap.size 5 1 (.slice ao basic cp) (l.filter (· <128)).length (aD (b8 (l.filter (· <128))))):=by
  have h1:=HO.out;rw[<-HBS.out]at h1⊢;exact h1
 have B1:Below w.heap.size w wr:=hbel;clear hbel hsz HO;obtain ⟨o1,ho1⟩: ∃q,l.filter (· <128)=q:=⟨_,rfl⟩;rw[ho1]at HPRE HO1;go_wp2_with fail
 go_loopw[4,11,8,9,10] (fun v a b c e wr=> ∃(f n d bi h:Nat) (o:List Nat),a=I J h/\b=I J n/\c=I J d/\e=I J bi/\(l.filter (· <n)).length=h/\n<=1114112/\d<=61*n/\bi<=2400/\N<=h+f/\o++(bT basic h bi (dN l f n d h)).map bH=bC l/\wr.ownsRow w.heap.size 5 1 v o.length (aD (b8 o))/\Below w.heap.size w wr)
  (fun _ a _ _ _ _=>N-(intOf a).toNat)
 case atStart=>exact ⟨N,128,0,72,basic,o1,rfl,rfl,rfl,rfl,HBS.out,om,om,om,om,HPRE.out,HO1.out,B1⟩
 clear B1;obtain ⟨f,n,d,bi,h,o,rfl,rfl,rfl,rfl,hh,hn,hd,hbi,hf,he,hown,hbel⟩:=hrel;have HE:Hid (o++(bT basic h bi (dN l f n d h)).map bH=bC l):=he;have HH:Hid ((l.filter (· <n)).length=h):=hh;have hsz:=hbel.size;have hol:o.length<=2000:=by
  have h1:=congrArg zr HE.out;rw[zf]at h1
  have:=lA HOK.out
  omega
 have hhN:h<=N:=by
  have:=za (fun x=>decide (x<n)) l
  have:=HL.out
  omega
 clear he hh
 by_cases hlt2:h<N
 .obtain ⟨m1,m2,m3⟩:=pE l n (bI HOK.out).2 (by have:=HL.out;have:=HH.out;omega)
  have hmv:=(bI HOK.out).2 _ m1;have HFS:Hid (l.filter (· <n)=l.filter (· <aK n l)):=iN l n _ m2 m3;have HMO:Hid ((l.filter (· <aK n l)).length<(l.filter (· <=aK n l)).length):=kY _ l m1;have ctl:=JX l n N cap g B wr HL.out om (bI HOK.out).2 hmv (aH HW.out hbel);obtain ⟨f',rfl⟩: ∃q,f=q+1:=⟨f-1,om⟩;have HD:Hid (dN l (f'+1) n d h=(aE (aK n l) l (d+(aK n l-n)*(h+1))).1++dN l f' (aK n l+1) ((aE (aK n l) l (d+(aK n l-n)*(h+1))).2+1) (h+(aE (aK n l) l (d+(aK n l-n)*(h+1))).1.length)):=by
   show _=_;rw[dN,if_pos (by have:=HL.out;omega)]
  clear m1 m3;generalize aK n l=m at*;have hxb:(m-n)*(h+1)<=(m-n)*61:=zs _ om;have hc1:((m-n:Nat):Int)=(m:Int)-(n:Int):=om;have hx61:d+(m-n)*(h+1)<=61*m:=om;have hX:((m:Int)-(n:Int))*((h:Int)+1)=(((m-n)*(h+1):Nat):Int):=by rw[<-hc1];norm_cast
  generalize (m-n)*(h+1)=x at*;have HPL:Hid ((l.filter (· <m)).length+(aE m l (d+x)).1.length=(l.filter (· <=m)).length):=jC m l (d+x);have HPB:Hid ((aE m l (d+x)).2<=61*m+60):=(nY m l (d+x) (61*m+60) (by have:=HL.out;omega)).2;obtain ⟨hE,HHE⟩: ∃q,Hid (h+(aE m l (d+x)).1.length=q):=⟨_,rfl⟩;obtain ⟨dE,HDE⟩: ∃q,Hid ((aE m l (d+x)).2=q):=⟨_,rfl⟩;have hhE:(l.filter (· <=m)).length=hE:=by
   have h1:=HPL.out;have h2:=HHE.out;have h3:=HH.out;rw[HFS.out]at h3;omega
  have hEN:hE<=N:=by
   have:=za (fun x=>decide (x<=m)) l
   have:=HL.out
   omega
  have hgr:h<hE:=by
   have h1:=HMO.out;have h3:=HH.out;rw[HFS.out]at h3;omega
  have HFE:Hid ((l.filter (· <m+1)).length=hE):=by show _=_;rw[fO];exact hhE
  obtain ⟨T,HT⟩: ∃q,Hid (dN l f' (m+1) (dE+1) hE=q):=⟨_,rfl⟩;have HE2:Hid (o++(bT basic h bi ((aE m l (d+x)).1++T)).map bH=bC l):=by
   show _=_;rw[<-HE.out,HD.out,<-HT.out,HHE.out,HDE.out]
  have hdE:dE<=61*m+60:=by have h1:=HPB.out;rw[HDE.out]at h1;exact h1
  have CTL:Hid (CS 299 #[.slice (some ⟨g,0,none⟩) N cap,I J (n:Int)] wr (I J (m:Int))):=ctl;clear ctl HFS HMO HPL HPB HD HE hc1 hxb hhE;go_wp2_with fail;refine CTL.out.mono ?_;rintro e w' ⟨rfl,rfl⟩;go_wp2_with fail
  go_loopw[4,11,9,10,63] (fun v a c e i wi=> ∃(j d' h' b':Nat) (o':List Nat),a=I J h'/\c=I J d'/\e=I J b'/\i=I J j/\j<=N/\d'<=61*m+j/\b'<=2400/\h'+(aE m (l.drop j) d').1.length=hE/\(aE m (l.drop j) d').2=dE/\o'++(bT basic h' b' ((aE m (l.drop j) d').1++T)).map bH=bC l/\wi.ownsRow w.heap.size 5 1 v o'.length (aD (b8 o'))/\Below w.heap.size w wi)
   (fun _ _ _ _ i _=>N-(intOf i).toNat)
  case atStart=>exact ⟨0,d+x,h,bi,o,rfl,gn,rfl,rfl,zx _,om,hbi,HHE.out,HDE.out,HE2.out,hown,hbel⟩
  clear hown hbel hsz;obtain ⟨j,d',h',b',o',rfl,rfl,rfl,rfl,hj,hd',hb',q1,q2,q3,hown,hbel⟩:=hrel;have Q1:Hid (h'+(aE m (l.drop j) d').1.length=hE):=q1;have Q2:Hid ((aE m (l.drop j) d').2=dE):=q2;have Q3:Hid (o'++(bT basic h' b' ((aE m (l.drop j) d').1++T)).map bH=bC l):=q3;have hsz:=hbel.size;have hh':h'<=hE:=om;have hol':o'.length<=2000:=by
   have h1:=congrArg zr Q3.out;rw[zf]at h1
   have:=lA HOK.out
   omega
  clear q1 q2 q3
  by_cases hlj:j<N
  .have ca:=jZ (aH HW.out hbel) j hlj
   have HS:Hid (l.drop j=l.getD j 0::l.drop (j+1)):=nH l j (by have:=HL.out;omega);generalize l.getD j 0=c at ca HS
   rcases zv c m with hc|hc|hc
   .have EP:Hid (aE m (l.drop j) d'=aE m (l.drop (j+1)) (d'+1)):=by show _=_;rw[HS.out,aE,if_pos hc]
    rw[EP.out]at Q1 Q2 Q3;have hci:(c:Int)<(m:Int):=om;have hcn: ¬(c:Int)=(m:Int):=om;go_wp2_with fail;go_roundw
    case rel=>exact ⟨j+1,d'+1,h',b',o',rfl,gn,rfl,gn,om,om,hb',Q1.out,Q2.out,Q3.out,hown,hbel⟩
    case measure=>exact j1
   .subst hc
    have EP:Hid (aE c (l.drop j) d'=(d'::(aE c (l.drop (j+1)) 0).1,(aE c (l.drop (j+1)) 0).2)):=by show _=_;rw[HS.out,aE,if_neg om,if_pos rfl]
    rw[EP.out]at Q1 Q2 Q3;have Q4:Hid ((o'++(cY 28 36 b' d').map bH)++(bT basic (h'+1) (aU d' (h'+1) (h'==basic)) ((aE c (l.drop (j+1)) 0).1++T)).map bH=bC l):=by
     show _=_;rw[<-Q3.out];show _=o'++(cY 28 36 b' d'++bT basic (h'+1) (aU d' (h'+1) (h'==basic)) ((aE c (l.drop (j+1)) 0).1++T)).map bH;rw[zy,zd]
    have Q5:Hid (h'+1+(aE c (l.drop (j+1)) 0).1.length=hE):=by
     show _=_;have h1:=Q1.out;simp only[zj]at h1;omega
    have hh1:h'+1<=hE:=by have:=Q5.out;omega
    have cta:=fun (first:Bool) (W:World)=>jN d' (h'+1) first W om om om
    have hal:=fI d' (h'+1) (h'==basic);simp only[show ((h'+1:Nat):Int)=(h':Int)+1 by omega]at cta;have CTA:Hid (∀(first:Bool) (W:World),CS 301 #[I J (d':Int),I J ((h':Int)+1),H first] W (I J (aU d' (h'+1) first:Int))):=cta;clear cta Q3 Q1
    by_cases hbq:h'=basic
    .subst hbq
     rw[show (h'==h')=true by simp]at Q4 hal;go_wp2_with fail;refine (qW d' b' o' _ w.heap.size _ om om hown hsz om).mono ?_;rintro e w1 ⟨v',rfl,own1,hb1⟩;have B2:Below w.heap.size w w1:=hbel.trans hb1;clear hb1 hown hbel;go_wp2_with fail;refine (CTA.out _ _).mono ?_;rintro e w' ⟨rfl,rfl⟩;go_wp2_with fail;go_roundw
     case rel=>exact ⟨j+1,0,h'+1,_,_,gn,rfl,rfl,gn,om,om,hal,Q5.out,Q2.out,Q4.out,own1,B2⟩
     case measure=>exact j1
    have hbi2:((h':Int)==(basic:Int))=false:=by simp;omega
    rw[show (h'==basic)=false by simpa using hbq]at Q4 hal;clear hbq;go_wp2_with fail;refine (qW d' b' o' _ w.heap.size _ om om hown hsz om).mono ?_;rintro e w1 ⟨v',rfl,own1,hb1⟩;have B2:Below w.heap.size w w1:=hbel.trans hb1;clear hb1 hown hbel;go_wp2_with fail;refine (CTA.out _ _).mono ?_;rintro e w' ⟨rfl,rfl⟩;go_wp2_with fail;go_roundw
    case rel=>exact ⟨j+1,0,h'+1,_,_,gn,rfl,rfl,gn,om,om,hal,Q5.out,Q2.out,Q4.out,own1,B2⟩
    case measure=>exact j1
   have EP:Hid (aE m (l.drop j) d'=aE m (l.drop (j+1)) d'):=by show _=_;rw[HS.out,aE,if_neg om,if_neg om]
   rw[EP.out]at Q1 Q2 Q3;have hci: ¬(c:Int)<(m:Int):=om;have hcn: ¬(c:Int)=(m:Int):=om;go_wp2_with fail;go_roundw
   case rel=>exact ⟨j+1,d',h',b',o',rfl,rfl,rfl,gn,om,om,hb',Q1.out,Q2.out,Q3.out,hown,hbel⟩
   case measure=>exact j1
  have HNI:Hid (l.drop j=[]):=zh (by have:=HL.out;omega);rw[HNI.out]at Q1 Q2 Q3;have z1:h'=hE:=by have:=Q1.out;simpa[aE] using this
  have z2:d'=dE:=by have:=Q2.out;simpa[aE] using this
  have Q4:Hid (o'++(bT basic hE b' (dN l f' (m+1) (dE+1) hE)).map bH=bC l):=by
   show _=_;rw[HT.out,<-z1];exact Q3.out
  clear Q1 Q2 Q3;subst z1 z2;go_wp2_with fail;go_roundw
  case rel=>exact ⟨f',m+1,d'+1,b',h',o',rfl,gn,gn,rfl,HFE.out,om,om,hb',om,Q4.out,hown,hbel⟩
  case measure=>exact j1
 have HR:Hid (o=bC l):=by
  show _=_;have h1:=HE.out;have h2:=vW l f n d basic bi (by have:=HL.out;have:=HH.out;omega);rw[HH.out]at h2;rw[h2]at h1;simpa using h1
 have hcv:=bG (P:=prog) wr 22 9 5 underlying22 underlying5 underlying9 hown;go_wp2_with fail;go_ret2;exact ⟨by rw[HR.out];rfl,hbel⟩
theorem RP(w:World)(q:Nat):Below w.heap.size w (w.drewN q):=⟨rfl,rfl,rfl,zn _,fun _ _=>rfl⟩
theorem uS(ao:Option Addr)(cap:Nat)(w:World):Calls prog 292 #[.slice ao 0 cap] w fun e w'=>e=L (Z #[.string ⟨#[]⟩,H true])/\Below w.heap.size w w':=by
 have HO:=bG (P:=prog) (w.alloc (Y #[] 5)) 22 9 5 underlying22 underlying5 underlying9 (l:=[]) (zu w #[] 0 (zn _) de rfl);go_enter func292,ntmps292;go_wp2_with fail;refine (slices_ContainsFunc_empty (α:=Int) _ _ _ _).mono ?_;rintro e w2 ⟨rfl,rfl⟩;go_wp2_with fail;refine wp_loop_rounds 1 ?_;rw[rounds_succ];go_wp2_with fail;refine wp_loop_rounds 1 ?_;rw[rounds_succ];go_wp2_with fail;go_ret2;exact ⟨rfl,(zp _ _).alloc (zn _) _⟩
theorem xB(zl:List Int)(N g cap B:Nat)(w:World)(hno: ¬DK zl)(hN:zl.length=N)(hN1:N<=1048576)(hown0:w.ownsRow B 3 1 (.slice (some ⟨g,0,none⟩) N cap) N (aL zl)):Calls prog 292 #[.slice (some ⟨g,0,none⟩) N cap] w fun e w'=>e=L (Z #[.string ⟨#[]⟩,H false])/\Below w.heap.size w w':=by
 by_cases hbig:60<(N:Int)
 .clear hno hN hown0
  go_enter func292,ntmps292;go_wp2_with fail;go_ret2;exact ⟨rfl,zp _ _⟩
 have e:zl.any (fun z=> !(iE z))=true:=by
  refine Classical.byContradiction fun h=>hno ⟨om,fun z hz=> ?_⟩
  rw[Bool.not_eq_true,zt]at h
  have:=h z hz
  exact (JW z).1 (by simpa using this)
 have h:=EO zl N g cap B w hN hN1 hown0;rw[e]at h;have CC:Hid (Calls prog 297 #[.slice (some ⟨g,0,none⟩) N cap,.func (.func 298) #[] #[]] w fun e w'=>e=L (H true)/\ ∃q,w'=w.drewN q):=h;clear hno hN hown0 e h;go_enter func292,ntmps292;go_wp2_with fail;refine CC.out.mono ?_;rintro e w2 ⟨rfl,q,hw2⟩;have B0:Below w.heap.size w w2:=by rw[hw2];exact RP w q
 clear hw2 q;go_wp2_with fail;go_ret2;exact ⟨rfl,B0⟩
end
section
open Go.RowKit
def Y4(w:World)(ao:Option Addr)(n:Nat)(zl:List Int):Prop:=
 zl.length=n/\(n=0∨ ∃b off,ao=some ⟨b,off,none⟩/\b<w.heap.size/\ ∀i,i<n->w.cell? ⟨b,off+i,none⟩=some (I J (zl.getD i 0)))
theorem Y4.below{w w':World}{ao:Option Addr}{n:Nat}{zl:List Int}(h:Y4 w ao n zl)(hb:Below w.heap.size w w'):Y4 w' ao n zl:=by
 refine ⟨h.1,?_⟩
 rcases h.2 with h0|⟨b,off,h1,h2,h3⟩
 .exact .inl h0
 exact .inr ⟨b,off,h1,Nat.lt_of_lt_of_le h2 hb.size,fun i hi=>(hb.cell (p:=⟨b,off+i,none⟩) h2).trans (h3 i hi)⟩
theorem Tryz.infoInt:(prog.info? 3).map (fun i=>(i.zero,i.size,i.bytes))=some (some (I J 0),1,8):=kr
theorem VM(l:List Nat)(v:Value)(B:Nat)(w:World)(hk:dY l=true)(h:w.ownsRow B 3 1 v l.length (icN l)):Calls prog 189 #[v] w fun e w'=>e=L (Z #[.string ⟨(b8 (bC l)).toArray⟩,H true])/\Below w.heap.size w w':=by
 rcases aQ h with ⟨h0,_,ao,cap,rfl⟩|⟨_,g,cap,rfl⟩
 .have hl0:l=[]:=zk h0
  subst hl0;exact iJ ao cap w
 exact iI l l.length g cap B w hk rfl h
end
section
open Go.RowKit Go.Shelf
theorem gU(g:Nat)(e:TypeId): ∀(vs:List Value) (o:Nat) (w:World) (cur:Array Value),w.heap[g]? =some (.cells cur e (0,0))->o+vs.length<=cur.size->
  ∃cur':Array Value,(w.setCells g o vs).heap[g]? =some (.cells cur' e (0,0))/\cur'.toList=cur.toList.take o++(vs++cur.toList.drop (o+vs.length))
 |[],o,w,cur,h,_=>⟨cur,h,by simp⟩
 |v::r,o,w,cur,h,hl=>by
  rw[zj]at hl;obtain ⟨cur',h1,h2⟩:=gU g e r (o+1) (w.setCell ⟨g,o,none⟩ v) (cur.setIfInBounds o v) (heap_setCell_same w g o cur e v h) (by simp;omega);refine ⟨cur',h1,?_⟩;rw[h2,Array.toList_setIfInBounds,List.drop_set_of_lt om,List.take_set,zj,show o+(r.length+1)=o+1+r.length by omega];have hc:o<cur.toList.length:=by simp;omega
  rw[List.take_succ_eq_append_getElem hc,List.set_append_right _ _ (by simp;omega)];have e1:o-(cur.toList.take o).length=0:=by simp;omega
  rw[e1];simp
theorem fK{B g:Nat}(hb:B<=g): ∀(vs:List Value) (o:Nat) (a w:World),Below B a w->Below B a (w.setCells g o vs)
 |[],_,_,_,h=>h
 |v::r,o,a,_,h=>fK hb r (o+1) a _ (h.setCell (p:=⟨g,o,none⟩) hb v)
theorem MT(l:List Nat)(i x:Nat):icN (dF i x l)=(icN l).take i++([Value.int .i64 (x:Int)]++(icN l).drop i):=by
 simp[icN,aL,dF]
theorem nL(l:List Nat):(icN l).length=l.length:=by simp[icN,aL]
theorem YL(l:List Nat): ∀v∈icN l,v.oneCell'=true:=by
 intro v hv;simp[icN,aL]at hv;obtain ⟨c,_,rfl⟩:=hv;rfl
theorem YM(l:List Nat)(x:Nat):icN (dF l.length x l)=icN l++[Value.int .i64 (x:Int)]:=by
 have h:=nL l;rw[MT,zg om,zh om,zq]
theorem qX(z:Value)(n:Nat)(h:z.cells= #[z]):(Builtin.zeroCells z.cells n).size=n:=by
 rw[h];simp[Builtin.zeroCells]
theorem pP{α:Type}{c:Array α}{l:List α}(h:c.toList=l):c.size=l.length:=by rw[<-h];simp
theorem uT(l:List Nat)(i x:Nat)(v:Value)(B:Nat)(w:World)(hown:w.ownsRow B 3 1 v l.length (icN l))(hB:B<=w.heap.size)(hi:i<=l.length)(hl:l.length<=1048576):Calls prog 309 #[v,I J (i:Int),.slice (some ⟨w.heap.size,0,none⟩) 1 1] (w.alloc (Y #[I J (x:Int)] 3)) fun e w'=>
   ∃v',e=L v'/\w'.ownsRow B 3 1 v' (l.length+1) (icN (dF i x l))/\Below B w w':=by
 have hil:=nL l;have hlen:(icN (dF i x l)).length=(l.length+1)*1:=by rw[nL,aP];omega
 obtain ⟨W,hW⟩: ∃W,w.alloc (Y #[I J (x:Int)] 3)=W:=⟨_,rfl⟩;have hsz:W.heap.size=w.heap.size+1:=by rw[<-hW];simp
 have hnew:W.heap[w.heap.size]? =some (Y #[I J (x:Int)] 3 (0,0)):=by rw[<-hW];exact heap_alloc_new w _
 have hcell: ∀j u,[Value.int .i64 (x:Int)][j]? =some u->W.cell? ⟨w.heap.size,0+j,none⟩=some u:=by
  intro j u hj;rw[ze,<-hW,World.cell?_alloc_at _ _ _ _ rfl];simpa using hj
 have hone: ∀u∈[Value.int .i64 (x:Int)],u.oneCell'=true:=by
  intro u hu;rw[List.mem_singleton.1 hu];rfl
 have hoW:W.ownsRow B 3 1 v l.length (icN l):=by rw[<-hW];exact hown.alloc _
 have hbW:Below B w W:=by rw[<-hW];exact (zp B w).alloc hB _
 have hglt: ∀g cap,v=.slice (some ⟨g,0,none⟩) l.length cap->g≠w.heap.size:=by
  intro g cap hv
  rcases hown.2 with ⟨h0,_⟩|⟨g',cap',cur,hv',_,hg,_⟩
  .rw[hv]at h0;cases h0
  rw[hv]at hv';injection hv' with h1;injection h1 with h1;injection h1 with h1;subst h1
  have:=(Array.getElem?_eq_some_iff.1 hg).1
  omega
 rw[hW]
 rcases hoW.2 with ⟨rfl,h0⟩|⟨g,cap,cur,rfl,hb,hg,hnc,hcm,hcs,htake⟩
 .
  have hl0:l=[]:=zk h0;subst hl0
  obtain rfl:i=0:=by simpa using hi
  refine (Any2.slices_Insert_int_end_grow laysNm221 none 0 0 w.heap.size 0 1 1 [] [I J (x:Int)] W de (zn _) de de rfl rfl (fun _=>rfl) (fun a h=>by cases h) hcell hone).mono ?_;rintro e w' ⟨rfl,rfl⟩;have hc:1<=grownCap W 1 0 3:=grownCap_ge W 1 0 3;refine ⟨_,rfl,⟨hlen,.inr ⟨W.heap.size,_,_,rfl,om,heap_alloc_new W.drew _,hc,grownCap_le_maxLen W _ _ _ (by unfold maxLen;omega),?_,?_⟩⟩,hbW.trans (((zp B W).drew).alloc (by show B<=W.heap.size;omega) _)⟩
  .show (([]++[Value.int .i64 (x:Int)]).toArray++Builtin.zeroCells (Value.int .i64 0).cells (grownCap W 1 0 3-1)).size=grownCap W 1 0 3*1
   rw[zi,qX _ _ rfl];simp;omega
  simp[icN,aL,dF]
 simp only[zo]at hcs htake;have hgw:=hglt g cap rfl;have hcells: ∀(j:Nat) (u:Value),(icN l)[j]? =some u->W.cell? ⟨g,0+j,none⟩=some u:=by
  intro j u hj;rw[ze];have hjl:j<l.length:=by
   have:=(List.getElem?_eq_some_iff.1 hj).1
   omega
  rw[<-htake,List.getElem?_take_of_lt hjl]at hj;simp only[World.cell?,hg];simpa using hj
 have hsp: ∀j,j<cap->(W.cell? ⟨g,0+j,none⟩).isSome=true:=by
  intro j hj;rw[ze];simp only[World.cell?,hg];simp[hcs,hj]
 have hfz: ∀j,W.frozen? ⟨g,0+j,none⟩=false:=fun j=>fQ hoW (0+j)
 have hcur:cur.toList.length=cap:=by simp[hcs]
 by_cases hroom:l.length+1<=cap
 .by_cases hend:i=l.length
  .subst hend
   refine (Any2.slices_Insert_int_end_room laysNm221 g 0 l.length cap w.heap.size 0 1 1 [I J (x:Int)] W de hroom (by unfold maxLen at hcm;omega) rfl (fun j hj=>by rw[ze];simpa using hsp (l.length+j) om) (fun j _=>by have:=hfz (l.length+j);simpa using this) hcell hone).mono ?_;rintro e w' ⟨rfl,rfl⟩;obtain ⟨cur',h1,h2⟩:=gU g 3 [I J (x:Int)] (0+l.length) W cur hg (by simp;omega);refine ⟨_,rfl,⟨hlen,.inr ⟨g,cap,cur',rfl,hb,h1,hroom,hcm,?_,?_⟩⟩,fK hb _ _ _ _ hbW⟩
   .rw[pP h2]
    simp;omega
   rw[zo,h2,ze,htake,<-zd,zc (by simp[hil]),YM]
  have hin:i<l.length:=om;refine (Any2.slices_Insert_int_shift laysNm221 g 0 l.length cap i w.heap.size 0 1 1 (icN l) [I J (x:Int)] W hin de hroom (by unfold maxLen at hcm;omega) hgw.symm hil rfl hcells (fun j hj=>hsp j om) (fun j _=>hfz j) hcell (YL l) hone
   3 3 1 cap (by simp[World.shape?,hnew]) (by simp[World.shape?,hg,hcs]) om (by simp[World.frozen?,hnew]) (by simp[World.frozen?,hnew])).mono ?_
  rintro e w' ⟨rfl,rfl⟩;have hdl:((icN l).drop i).length=l.length-i:=by rw[zw,hil]
  obtain ⟨c1,h1,h2⟩:=gU g 3 ((icN l).drop i) (0+(i+1)) W.drew cur hg om;have s1:c1.size=cap:=by rw[pP h2];simp;omega
  obtain ⟨c2,h3,h4⟩:=gU g 3 [I J (x:Int)] (0+i) (W.drew.setCells g (0+(i+1)) ((icN l).drop i)) c1 h1 (by simp;omega);have t1:c1.toList.take i=(icN l).take i:=by
   rw[h2,List.take_append_of_le_length (by simp;omega),List.take_take,<-htake,List.take_take]
   congr 1
   omega
  have t2:c1.toList.drop (i+1)=(icN l).drop i++cur.toList.drop (0+(i+1)+((icN l).drop i).length):=by
   rw[h2,List.drop_left' (by simp;omega)]
  have t3:c2.toList=icN (dF i x l)++cur.toList.drop (0+(i+1)+((icN l).drop i).length):=by
   rw[h4,MT,ze];simp only[List.length_singleton];rw[t1,t2];simp
  refine ⟨_,rfl,⟨hlen,.inr ⟨g,cap,c2,rfl,hb,h3,hroom,hcm,?_,?_⟩⟩,fK hb _ _ _ _ (fK hb _ _ _ _ hbW.drew)⟩
  .rw[pP h4]
   simp;omega
  rw[zo,t3,zc (by rw[nL,aP])]
 by_cases hend:i=l.length
 .subst hend
  refine (Any2.slices_Insert_int_end_grow laysNm221 (some ⟨g,0,none⟩) l.length cap w.heap.size 0 1 1 (icN l) [I J (x:Int)] W de hnc om om hil rfl (fun h=>by cases h) (fun a ha j u hj=>by cases ha;rw[Addr.add_lit];exact hcells j u hj) hcell hone).mono ?_;rintro e w' ⟨rfl,rfl⟩;have hc:=grownCap_ge W (l.length+1) cap 3;refine ⟨_,rfl,⟨hlen,.inr ⟨W.heap.size,_,_,rfl,om,heap_alloc_new W.drew _,hc,grownCap_le_maxLen W _ _ _ (by unfold maxLen;omega),?_,?_⟩⟩,hbW.trans (((zp B W).drew).alloc (by show B<=W.heap.size;omega) _)⟩
  .show ((icN l++[Value.int .i64 (x:Int)]).toArray++Builtin.zeroCells (Value.int .i64 0).cells (grownCap W (l.length+1) cap 3-(l.length+1))).size=grownCap W (l.length+1) cap 3*1
   rw[zi,qX _ _ rfl];simp;omega
  rw[zo,zm,zc (by simp[hil]),YM]
 have hin:i<l.length:=om;have hct:=Any2.slices_Insert_int_grow laysNm221 g 0 l.length cap i w.heap.size 0 1 1 (icN l) [I J (x:Int)] W hin de hnc om om hil rfl hcells hcell (YL l) hone;simp only[show laysNm221_ren.t 3=3 from rfl]at hct;refine hct.mono ?_;rintro e w' ⟨rfl,rfl⟩;have hdl:((icN l).drop i).length=l.length-i:=by rw[zw,hil]
 have hc:=grownCap_ge W (l.length+1) cap 3;have hc2:=grownCap_le_maxLen W (l.length+1) cap 3 (by unfold maxLen;omega);have hlen0:(((icN l).take i).toArray++Builtin.zeroCells (Value.int .i64 0).cells (l.length+1-i)++Builtin.zeroCells (Value.int .i64 0).cells (grownCap W (l.length+1) cap 3-(l.length+1))).size=grownCap W (l.length+1) cap 3:=by
  rw[zi,zi,qX _ _ rfl,qX _ _ rfl];simp;omega
 have htk:(((icN l).take i).toArray++Builtin.zeroCells (Value.int .i64 0).cells (l.length+1-i)++Builtin.zeroCells (Value.int .i64 0).cells (grownCap W (l.length+1) cap 3-(l.length+1))).toList.take i=(icN l).take i:=by
  rw[zm,zm,zd,zc (by simp;omega)]
 generalize ((icN l).take i).toArray++Builtin.zeroCells (Value.int .i64 0).cells (l.length+1-i)++Builtin.zeroCells (Value.int .i64 0).cells (grownCap W (l.length+1) cap 3-(l.length+1))=c0 at hlen0 htk⊢;generalize grownCap W (l.length+1) cap 3=gc at hc hc2 hlen0⊢;obtain ⟨c1,h1,h2⟩:=gU W.heap.size 3 [I J (x:Int)] i (W.alloc (.cells c0 3)).drew c0 (heap_alloc_new W _) (by simp;omega);have s1:c1.size=gc:=by rw[pP h2];simp;omega
 obtain ⟨c2,h3,h4⟩:=gU W.heap.size 3 ((icN l).drop i) (i+1) ((W.alloc (.cells c0 3)).drew.setCells W.heap.size i [I J (x:Int)]).drew c1 h1 om;have t1:c1.toList.take (i+1)=(icN l).take i++[Value.int .i64 (x:Int)]:=by
  rw[h2,htk,<-zd,zc (by simp;omega)]
 have t3:c2.toList=icN (dF i x l)++c1.toList.drop (i+1+((icN l).drop i).length):=by
  rw[h4,MT,t1];simp
 refine ⟨_,rfl,⟨hlen,.inr ⟨W.heap.size,gc,c2,rfl,om,h3,hc,hc2,?_,?_⟩⟩,fK om _ _ _ _ (Below.drew (fK om _ _ _ _ (Below.drew (hbW.alloc om _))))⟩
 .rw[pP h4]
  simp;omega
 rw[zo,t3,zc (by rw[nL,aP])]
