/- PunyEncWalk, PunyDec. -/
import Derived.Test.YtgcbaphbiaimoaaGreatDoorQP07
import Derived.Deep.DeepCutAuto
set_option maxHeartbeats 8000000
set_option maxRecDepth 20000
namespace Go.Proofs.YtgcbaphbiaimoaaGreatDoor
open Go.RowKit
theorem xWz{w:World}{B:Nat}{e:TypeId}{v:Value}{n:Nat}{xs:List Value}(h:w.ownsRow B e 1 v n xs): ∃ao cap,v=.slice ao n cap:=by
 rcases zpz h with ⟨rfl,_,ao,cap,rfl⟩|⟨_,g,cap,rfl⟩
 ·exact ⟨ao,cap,rfl⟩
 exact ⟨_,cap,rfl⟩
theorem zeOz(l:List Nat)(k:Nat)(h:k<l.length):(l.take (k+1)).filter (· <128)=(l.take k).filter (· <128)++(if l.getD k 0<128 then [l.getD k 0]else []):=by
 have e:l.take (k+1)=l.take k++[l.getD k 0]:=by
  rw[List.take_succ_eq_append_getElem h]
  simp[List.getD,h]
 rw[e,List.filter_append]
 congr 1
 split
 ·next hc=>rw[List.filter_cons_of_pos (by simpa using hc)];rfl
 next hc=>rw[List.filter_cons_of_neg (by simpa using hc)];rfl
theorem zhGz(basic:Nat): ∀(ds:List Nat) (h bias:Nat),(zRz basic h bias ds).length≤28*ds.length
 |[],_,_=>by simp[zRz]
 |d::ds,h,bias=>by
  have h1:=zhGz basic ds (h+1) (zuz d (h+1) (h==basic))
  have h2:=zm7z bias 28 36 d
  show (yiz 28 36 bias d++zRz basic (h+1) (zuz d (h+1) (h==basic)) ds).length≤28*(d::ds).length
  rw[List.length_append,List.length_cons]
  omega
theorem v5z{l:List Nat}(h:yPz l=true):(zBz l).length≤2000:=by
 obtain ⟨h1,h2⟩:=zLz h
 have h3:=zemz l h2 l.length 128 0
 have h4:=zhGz (l.filter (· <128)).length (yCz l l.length 128 0 (l.filter (· <128)).length) (l.filter (· <128)).length 72
 have h5:=List.length_filter_le (fun x=>decide (x<128)) l
 unfold zBz encV
 rw[List.length_append,List.length_append,List.length_map]
 have h6:(if 0<(l.filter (· <128)).length then [45]else []).length≤1:=by split<;>simp
 omega
theorem zdqz(l:List Nat)(f n d basic bias:Nat)(h:l.length≤(l.filter (· <n)).length):zRz basic (l.filter (· <n)).length bias (yCz l f n d (l.filter (· <n)).length)=[]:=by
 cases f with
 |zero=>rfl
 |succ f=>rw[yCz,if_neg (by omega)];rfl
theorem zdrz{c:Nat}(h:zhyz c=true):ytz (c:Int):=by
 simp[zhyz]at h
 unfold ytz
 omega
theorem zfYz{l:List Nat}(h:yPz l=true)(k:Nat)(hk:k<l.length):zhyz (l.getD k 0)=true:=by
 simp only[yPz,Bool.and_eq_true,List.all_eq_true]at h
 refine h.2 _ ?_
 rw[List.getD_eq_getElem?_getD,List.getElem?_eq_getElem hk]
 exact List.getElem_mem _
theorem vfz(l:List Nat)(N g cap B:Nat)(w:World)(hok:yPz l=true)(hN:l.length=N)(hown0:w.ownsRow B 3 1 (.slice (some ⟨g,0,none⟩) N cap) N (icN l)):
  Calls Tryz.prog 189 #[.slice (some ⟨g,0,none⟩) N cap] w fun e w'=>e=.returned (.tuple #[.string ⟨(b8 (zBz l)).toArray⟩,.bool true])∧Below w.heap.size w w':=by
 have hN60:(N:Int)≤60:=by have:=(zLz hok).1;omega
 have HOK:Hid (yPz l=true):=hok
 have HL:Hid (l.length=N):=hN
 have HW:Hid (w.ownsRow B 3 1 (.slice (some ⟨g,0,none⟩) N cap) N (icN l)):=hown0
 clear hok hN hown0
 go_enter Tryz.func189,Tryz.ntmps189
 go_wp2_with fail
 go_loopw[4,5] (fun v i wr=> ∃k:Nat,k≤N∧i=.int .i64 k∧wr.ownsRow w.heap.size 5 1 v ((l.take k).filter (· <128)).length (zcz (b8 ((l.take k).filter (· <128))))∧Below w.heap.size w wr)
  (fun _ i _=>N-(intOf i).toNat)
 case atStart=>exact ⟨0,Nat.zero_le _,rfl,World.ownsRow_lit w #[] 0 (Nat.le_refl _) (by decide) rfl,(Below.refl _ _).alloc (Nat.le_refl _) _⟩
 obtain ⟨k,hk,rfl,hown,hbel⟩:=hrel
 have hsz:=hbel.size
 by_cases hlt:k<N
 ·have ca:=vIz (zjz HW.out hbel) k hlt
  have hr:=zfYz HOK.out k (by have:=HL.out;omega)
  have hfl:((l.take k).filter (· <128)).length≤k:=Nat.le_trans (List.length_filter_le _ _) (List.length_take_le _ _)
  have HS:Hid ((l.take (k+1)).filter (· <128)=(l.take k).filter (· <128)++(if l.getD k 0<128 then [l.getD k 0]else [])):=zeOz l k (by have:=HL.out;omega)
  generalize (l.take k).filter (· <128)=o at hown HS hfl
  generalize l.getD k 0=c at ca HS hr
  have HR:Hid (ytz (c:Int)):=zdrz hr
  have hc1:(c:Int)≤1114111:=HR.out.2.1
  clear hr
  by_cases hc:(c:Int)<128
  ·rw[if_pos (by omega)]at HS
   go_wp2_with fail
   refine (yFz _ _ HR.out).mono ?_
   rintro e w' ⟨rfl,rfl⟩
   go_wp2_with (first|(at_builtin;refine zbz _ rfl _ _ 22 rfl w.heap.size 5 (.int .u8 0) 1 Tryz.underlying22 Tryz.info5 rfl _ _ _ rfl hown #[.int .u8 (c:Int)] 1 rfl rfl (yGz _) (by omega) (by unfold maxLen;omega) (by omega) ?_))
   intro v' w1 hown' hb1
   have R:=xwz c (by omega) rfl hown'
   have B1:Below w.heap.size w w1:=hbel.trans hb1
   clear hown' hb1 hown hbel
   go_wp2_with fail
   go_roundw
   case rel=>exact ⟨k+1,by omega,by go_num,by rw[HS.out];exact R,B1⟩
   case measure=>simp[intOf];omega
  rw[if_neg (by omega),List.append_nil]at HS
  go_wp2_with fail
  refine (yFz _ _ HR.out).mono ?_
  rintro e w' ⟨rfl,rfl⟩
  go_wp2_with fail
  go_roundw
  case rel=>exact ⟨k+1,by omega,by go_num,by rw[HS.out];exact hown,hbel⟩
  case measure=>simp[intOf];omega
 rw[List.take_of_length_le (by have:=HL.out;omega)]at hown
 have hfl:=List.length_filter_le (fun x=>decide (x<128)) l
 obtain ⟨basic,hbs⟩: ∃b,(l.filter (· <128)).length=b:=⟨_,rfl⟩
 have hb60:(basic:Int)≤60:=by have:=HL.out;omega
 obtain ⟨ao,cp,hu⟩:=xWz hown
 rw[hbs]at hu
 subst hu
 have HBS:Hid ((l.filter (· <128)).length=basic):=hbs
 have hO:=hown
 rw[hbs]at hO
 have HO:Hid (wr.ownsRow w.heap.size 5 1 (.slice ao basic cp) basic (zcz (b8 (l.filter (· <128))))):=hO
 clear hown hO hfl hbs
 by_cases hbz:0<basic
 ·have hbzi:0<(basic:Int):=by omega
  have HPRE:Hid ((l.filter (· <128)++[45])++(zRz basic basic 72 (yCz l N 128 0 basic)).map zKz=zBz l):=by
   show _=_
   unfold zBz encV
   rw[HBS.out,if_pos hbz,HL.out]
  have hO:=HO.out
  have hlen:(l.filter (· <128)).length=basic:=HBS.out
  go_wp2_with (at_builtin;refine zbz _ rfl _ _ 22 rfl w.heap.size 5 (.int .u8 0) 1 Tryz.underlying22 Tryz.info5 rfl _ _ _ rfl hO #[.int .u8 45] 1 rfl rfl (yGz _) (by omega) (by unfold maxLen;omega) (by omega) ?_)
  intro v' w1 hown' hb1
  have HO1:Hid (w1.ownsRow w.heap.size 5 1 v' (l.filter (· <128)++[45]).length (zcz (b8 (l.filter (· <128)++[45])))):=xwz 45 (by omega) rfl (by rw[hlen];exact hown')
  have B1:Below w.heap.size w w1:=hbel.trans hb1
  clear hown' hb1 hO hbel hsz hlen
  generalize l.filter (· <128)++[45]=o1 at HPRE HO1
  go_wp2_with fail
  go_loopw[4,7,8,9,10] (fun v a b c e wr=> ∃(f n d bi h:Nat) (o:List Nat),a=.int .i64 h∧b=.int .i64 n∧c=.int .i64 d∧e=.int .i64 bi∧(l.filter (· <n)).length=h∧n≤1114112∧d≤61*n∧bi≤2400∧N≤h+f∧o++(zRz basic h bi (yCz l f n d h)).map zKz=zBz l∧wr.ownsRow w.heap.size 5 1 v o.length (zcz (b8 o))∧Below w.heap.size w wr)
   (fun _ a _ _ _ _=>N-(intOf a).toNat)
  case atStart=>exact ⟨N,128,0,72,basic,o1,rfl,rfl,rfl,rfl,HBS.out,by omega,by omega,by omega,by omega,HPRE.out,HO1.out,B1⟩
  clear B1
  obtain ⟨f,n,d,bi,h,o,rfl,rfl,rfl,rfl,hh,hn,hd,hbi,hf,he,hown,hbel⟩:=hrel
  have HE:Hid (o++(zRz basic h bi (yCz l f n d h)).map zKz=zBz l):=he
  have HH:Hid ((l.filter (· <n)).length=h):=hh
  have hsz:=hbel.size
  have hol:o.length≤2000:=by
   have h1:=congrArg List.length HE.out
   rw[List.length_append]at h1
   have:=v5z HOK.out
   omega
  have hhN:h≤N:=by
   have:=List.length_filter_le (fun x=>decide (x<n)) l
   have:=HL.out
   omega
  clear he hh
  by_cases hlt2:h<N
  ·obtain ⟨m1,m2,m3⟩:=zaHz l n (zLz HOK.out).2 (by have:=HL.out;have:=HH.out;omega)
   have hmv:=(zLz HOK.out).2 _ m1
   have HFS:Hid (l.filter (· <n)=l.filter (· <ziz n l)):=vjz l n _ m2 m3
   have HMO:Hid ((l.filter (· <ziz n l)).length<(l.filter (· ≤ziz n l)).length):=v3z _ l m1
   have ctl:=zhFz l n N cap g B wr HL.out (by omega) (zLz HOK.out).2 (zjz HW.out hbel)
   obtain ⟨f',rfl⟩: ∃q,f=q+1:=⟨f-1,by omega⟩
   have HD:Hid (yCz l (f'+1) n d h=(zez (ziz n l) l (d+(ziz n l-n)*(h+1))).1++yCz l f' (ziz n l+1) ((zez (ziz n l) l (d+(ziz n l-n)*(h+1))).2+1) (h+(zez (ziz n l) l (d+(ziz n l-n)*(h+1))).1.length)):=by
    show _=_
    rw[yCz,if_pos (by have:=HL.out;omega)]
   clear m1 m3
   generalize ziz n l=m at*
   have hxb:(m-n)*(h+1)≤(m-n)*61:=Nat.mul_le_mul_left _ (by omega)
   have hc1:((m-n:Nat):Int)=(m:Int)-(n:Int):=by omega
   have hx61:d+(m-n)*(h+1)≤61*m:=by omega
   have hX:((m:Int)-(n:Int))*((h:Int)+1)=(((m-n)*(h+1):Nat):Int):=by rw[←hc1];norm_cast
   generalize (m-n)*(h+1)=x at*
   have HPL:Hid ((l.filter (· <m)).length+(zez m l (d+x)).1.length=(l.filter (· ≤m)).length):=vqz m l (d+x)
   have HPB:Hid ((zez m l (d+x)).2≤61*m+60):=(j6z m l (d+x) (61*m+60) (by have:=HL.out;omega)).2
   obtain ⟨hE,HHE⟩: ∃q,Hid (h+(zez m l (d+x)).1.length=q):=⟨_,rfl⟩
   obtain ⟨dE,HDE⟩: ∃q,Hid ((zez m l (d+x)).2=q):=⟨_,rfl⟩
   have hhE:(l.filter (· ≤m)).length=hE:=by
    have h1:=HPL.out;have h2:=HHE.out;have h3:=HH.out
    rw[HFS.out]at h3
    omega
   have hEN:hE≤N:=by
    have:=List.length_filter_le (fun x=>decide (x≤m)) l
    have:=HL.out
    omega
   have hgr:h<hE:=by
    have h1:=HMO.out;have h3:=HH.out
    rw[HFS.out]at h3
    omega
   have HFE:Hid ((l.filter (· <m+1)).length=hE):=by show _=_;rw[xvz];exact hhE
   obtain ⟨T,HT⟩: ∃q,Hid (yCz l f' (m+1) (dE+1) hE=q):=⟨_,rfl⟩
   have HE2:Hid (o++(zRz basic h bi ((zez m l (d+x)).1++T)).map zKz=zBz l):=by
    show _=_
    rw[←HE.out,HD.out,←HT.out,HHE.out,HDE.out]
   have hdE:dE≤61*m+60:=by have h1:=HPB.out;rw[HDE.out]at h1;exact h1
   have CTL:Hid (CS 227 #[.slice (some ⟨g,0,none⟩) N cap,.int .i64 (n:Int)] wr (.int .i64 (m:Int))):=ctl
   clear ctl HFS HMO HPL HPB HD HE hc1 hxb hhE
   go_wp2_with fail
   refine CTL.out.mono ?_
   rintro e w' ⟨rfl,rfl⟩
   go_wp2_with fail
   go_loopw[4,7,9,10,12] (fun v a c e i wi=> ∃(j d' h' b':Nat) (o':List Nat),a=.int .i64 h'∧c=.int .i64 d'∧e=.int .i64 b'∧i=.int .i64 j∧j≤N∧d'≤61*m+j∧b'≤2400∧h'+(zez m (l.drop j) d').1.length=hE∧(zez m (l.drop j) d').2=dE∧o'++(zRz basic h' b' ((zez m (l.drop j) d').1++T)).map zKz=zBz l∧wi.ownsRow w.heap.size 5 1 v o'.length (zcz (b8 o'))∧Below w.heap.size w wi)
    (fun _ _ _ _ i _=>N-(intOf i).toNat)
   case atStart=>exact ⟨0,d+x,h,bi,o,rfl,by go_num,rfl,rfl,Nat.zero_le _,by omega,hbi,HHE.out,HDE.out,HE2.out,hown,hbel⟩
   clear hown hbel hsz
   obtain ⟨j,d',h',b',o',rfl,rfl,rfl,rfl,hj,hd',hb',q1,q2,q3,hown,hbel⟩:=hrel
   have Q1:Hid (h'+(zez m (l.drop j) d').1.length=hE):=q1
   have Q2:Hid ((zez m (l.drop j) d').2=dE):=q2
   have Q3:Hid (o'++(zRz basic h' b' ((zez m (l.drop j) d').1++T)).map zKz=zBz l):=q3
   have hsz:=hbel.size
   have hh':h'≤hE:=by omega
   have hol':o'.length≤2000:=by
    have h1:=congrArg List.length Q3.out
    rw[List.length_append]at h1
    have:=v5z HOK.out
    omega
   clear q1 q2 q3
   by_cases hlj:j<N
   ·have ca:=vIz (zjz HW.out hbel) j hlj
    have HS:Hid (l.drop j=l.getD j 0::l.drop (j+1)):=jPz l j (by have:=HL.out;omega)
    generalize l.getD j 0=c at ca HS
    rcases Nat.lt_trichotomy c m with hc|hc|hc
    ·have EP:Hid (zez m (l.drop j) d'=zez m (l.drop (j+1)) (d'+1)):=by show _=_;rw[HS.out,zez,if_pos hc]
     rw[EP.out]at Q1 Q2 Q3
     have hci:(c:Int)<(m:Int):=by omega
     have hcn: ¬(c:Int)=(m:Int):=by omega
     go_wp2_with fail
     go_roundw
     case rel=>exact ⟨j+1,d'+1,h',b',o',rfl,by go_num,rfl,by go_num,by omega,by omega,hb',Q1.out,Q2.out,Q3.out,hown,hbel⟩
     case measure=>simp[intOf];omega
    ·subst hc
     have EP:Hid (zez c (l.drop j) d'=(d'::(zez c (l.drop (j+1)) 0).1,(zez c (l.drop (j+1)) 0).2)):=by show _=_;rw[HS.out,zez,if_neg (by omega),if_pos rfl]
     rw[EP.out]at Q1 Q2 Q3
     have Q4:Hid ((o'++(yiz 28 36 b' d').map zKz)++(zRz basic (h'+1) (zuz d' (h'+1) (h'==basic)) ((zez c (l.drop (j+1)) 0).1++T)).map zKz=zBz l):=by
      show _=_
      rw[←Q3.out]
      show _=o'++(yiz 28 36 b' d'++zRz basic (h'+1) (zuz d' (h'+1) (h'==basic)) ((zez c (l.drop (j+1)) 0).1++T)).map zKz
      rw[List.map_append,List.append_assoc]
     have Q5:Hid (h'+1+(zez c (l.drop (j+1)) 0).1.length=hE):=by
      show _=_
      have h1:=Q1.out
      simp only[List.length_cons]at h1
      omega
     have hh1:h'+1≤hE:=by have:=Q5.out;omega
     have cta:=fun (first:Bool) (W:World)=>zbez d' (h'+1) first W (by omega) (by omega) (by omega)
     have hal:=xnz d' (h'+1) (h'==basic)
     simp only[show ((h'+1:Nat):Int)=(h':Int)+1 by omega]at cta
     have CTA:Hid (∀(first:Bool) (W:World),CS 229 #[.int .i64 (d':Int),.int .i64 ((h':Int)+1),.bool first] W (.int .i64 (zuz d' (h'+1) first:Int))):=cta
     clear cta Q3 Q1
     by_cases hbq:h'=basic
     ·subst hbq
      rw[show (h'==h')=true by simp]at Q4 hal
      go_wp2_with fail
      refine (zbfz d' b' o' _ w.heap.size _ (by omega) (by omega) hown hsz (by omega)).mono ?_
      rintro e w1 ⟨v',rfl,own1,hb1⟩
      have B2:Below w.heap.size w w1:=hbel.trans hb1
      clear hb1 hown hbel
      go_wp2_with fail
      refine (CTA.out _ _).mono ?_
      rintro e w' ⟨rfl,rfl⟩
      go_wp2_with fail
      go_roundw
      case rel=>exact ⟨j+1,0,h'+1,_,_,by go_num,rfl,rfl,by go_num,by omega,by omega,hal,Q5.out,Q2.out,Q4.out,own1,B2⟩
      case measure=>simp[intOf];omega
     have hbi2:((h':Int)==(basic:Int))=false:=by simp;omega
     rw[show (h'==basic)=false by simpa using hbq]at Q4 hal
     clear hbq
     go_wp2_with fail
     refine (zbfz d' b' o' _ w.heap.size _ (by omega) (by omega) hown hsz (by omega)).mono ?_
     rintro e w1 ⟨v',rfl,own1,hb1⟩
     have B2:Below w.heap.size w w1:=hbel.trans hb1
     clear hb1 hown hbel
     go_wp2_with fail
     refine (CTA.out _ _).mono ?_
     rintro e w' ⟨rfl,rfl⟩
     go_wp2_with fail
     go_roundw
     case rel=>exact ⟨j+1,0,h'+1,_,_,by go_num,rfl,rfl,by go_num,by omega,by omega,hal,Q5.out,Q2.out,Q4.out,own1,B2⟩
     case measure=>simp[intOf];omega
    have EP:Hid (zez m (l.drop j) d'=zez m (l.drop (j+1)) d'):=by show _=_;rw[HS.out,zez,if_neg (by omega),if_neg (by omega)]
    rw[EP.out]at Q1 Q2 Q3
    have hci: ¬(c:Int)<(m:Int):=by omega
    have hcn: ¬(c:Int)=(m:Int):=by omega
    go_wp2_with fail
    go_roundw
    case rel=>exact ⟨j+1,d',h',b',o',rfl,rfl,rfl,by go_num,by omega,by omega,hb',Q1.out,Q2.out,Q3.out,hown,hbel⟩
    case measure=>simp[intOf];omega
   have HNI:Hid (l.drop j=[]):=List.drop_of_length_le (by have:=HL.out;omega)
   rw[HNI.out]at Q1 Q2 Q3
   have z1:h'=hE:=by have:=Q1.out;simpa[zez] using this
   have z2:d'=dE:=by have:=Q2.out;simpa[zez] using this
   have Q4:Hid (o'++(zRz basic hE b' (yCz l f' (m+1) (dE+1) hE)).map zKz=zBz l):=by
    show _=_
    rw[HT.out,←z1]
    exact Q3.out
   clear Q1 Q2 Q3
   subst z1 z2
   go_wp2_with fail
   go_roundw
   case rel=>exact ⟨f',m+1,d'+1,b',h',o',rfl,by go_num,by go_num,rfl,HFE.out,by omega,by omega,hb',by omega,Q4.out,hown,hbel⟩
   case measure=>simp[intOf];omega
  have HR:Hid (o=zBz l):=by
   show _=_
   have h1:=HE.out
   have h2:=zdqz l f n d basic bi (by have:=HL.out;have:=HH.out;omega)
   rw[HH.out]at h2
   rw[h2]at h1
   simpa using h1
  have hcv:=zzz (P:=Tryz.prog) wr 22 9 5 Tryz.underlying22 Tryz.underlying5 Tryz.underlying9 hown
  go_wp2_with fail
  go_ret2
  exact ⟨by rw[HR.out];rfl,hbel⟩
 have hbzi: ¬0<(basic:Int):=by omega
 have HPRE:Hid (l.filter (· <128)++(zRz basic basic 72 (yCz l N 128 0 basic)).map zKz=zBz l):=by
  show _=_
  unfold zBz encV
  rw[HBS.out,if_neg hbz,HL.out,List.append_nil]
 have HO1:Hid (wr.ownsRow w.heap.size 5 1 (.slice ao basic cp) (l.filter (· <128)).length (zcz (b8 (l.filter (· <128))))):=by
  have h1:=HO.out
  rw[←HBS.out]at h1⊢
  exact h1
 have B1:Below w.heap.size w wr:=hbel
 clear hbel hsz HO
 obtain ⟨o1,ho1⟩: ∃q,l.filter (· <128)=q:=⟨_,rfl⟩
 rw[ho1]at HPRE HO1
 go_wp2_with fail
 go_loopw[4,7,8,9,10] (fun v a b c e wr=> ∃(f n d bi h:Nat) (o:List Nat),a=.int .i64 h∧b=.int .i64 n∧c=.int .i64 d∧e=.int .i64 bi∧(l.filter (· <n)).length=h∧n≤1114112∧d≤61*n∧bi≤2400∧N≤h+f∧o++(zRz basic h bi (yCz l f n d h)).map zKz=zBz l∧wr.ownsRow w.heap.size 5 1 v o.length (zcz (b8 o))∧Below w.heap.size w wr)
  (fun _ a _ _ _ _=>N-(intOf a).toNat)
 case atStart=>exact ⟨N,128,0,72,basic,o1,rfl,rfl,rfl,rfl,HBS.out,by omega,by omega,by omega,by omega,HPRE.out,HO1.out,B1⟩
 clear B1
 obtain ⟨f,n,d,bi,h,o,rfl,rfl,rfl,rfl,hh,hn,hd,hbi,hf,he,hown,hbel⟩:=hrel
 have HE:Hid (o++(zRz basic h bi (yCz l f n d h)).map zKz=zBz l):=he
 have HH:Hid ((l.filter (· <n)).length=h):=hh
 have hsz:=hbel.size
 have hol:o.length≤2000:=by
  have h1:=congrArg List.length HE.out
  rw[List.length_append]at h1
  have:=v5z HOK.out
  omega
 have hhN:h≤N:=by
  have:=List.length_filter_le (fun x=>decide (x<n)) l
  have:=HL.out
  omega
 clear he hh
 by_cases hlt2:h<N
 ·obtain ⟨m1,m2,m3⟩:=zaHz l n (zLz HOK.out).2 (by have:=HL.out;have:=HH.out;omega)
  have hmv:=(zLz HOK.out).2 _ m1
  have HFS:Hid (l.filter (· <n)=l.filter (· <ziz n l)):=vjz l n _ m2 m3
  have HMO:Hid ((l.filter (· <ziz n l)).length<(l.filter (· ≤ziz n l)).length):=v3z _ l m1
  have ctl:=zhFz l n N cap g B wr HL.out (by omega) (zLz HOK.out).2 (zjz HW.out hbel)
  obtain ⟨f',rfl⟩: ∃q,f=q+1:=⟨f-1,by omega⟩
  have HD:Hid (yCz l (f'+1) n d h=(zez (ziz n l) l (d+(ziz n l-n)*(h+1))).1++yCz l f' (ziz n l+1) ((zez (ziz n l) l (d+(ziz n l-n)*(h+1))).2+1) (h+(zez (ziz n l) l (d+(ziz n l-n)*(h+1))).1.length)):=by
   show _=_
   rw[yCz,if_pos (by have:=HL.out;omega)]
  clear m1 m3
  generalize ziz n l=m at*
  have hxb:(m-n)*(h+1)≤(m-n)*61:=Nat.mul_le_mul_left _ (by omega)
  have hc1:((m-n:Nat):Int)=(m:Int)-(n:Int):=by omega
  have hx61:d+(m-n)*(h+1)≤61*m:=by omega
  have hX:((m:Int)-(n:Int))*((h:Int)+1)=(((m-n)*(h+1):Nat):Int):=by rw[←hc1];norm_cast
  generalize (m-n)*(h+1)=x at*
  have HPL:Hid ((l.filter (· <m)).length+(zez m l (d+x)).1.length=(l.filter (· ≤m)).length):=vqz m l (d+x)
  have HPB:Hid ((zez m l (d+x)).2≤61*m+60):=(j6z m l (d+x) (61*m+60) (by have:=HL.out;omega)).2
  obtain ⟨hE,HHE⟩: ∃q,Hid (h+(zez m l (d+x)).1.length=q):=⟨_,rfl⟩
  obtain ⟨dE,HDE⟩: ∃q,Hid ((zez m l (d+x)).2=q):=⟨_,rfl⟩
  have hhE:(l.filter (· ≤m)).length=hE:=by
   have h1:=HPL.out;have h2:=HHE.out;have h3:=HH.out
   rw[HFS.out]at h3
   omega
  have hEN:hE≤N:=by
   have:=List.length_filter_le (fun x=>decide (x≤m)) l
   have:=HL.out
   omega
  have hgr:h<hE:=by
   have h1:=HMO.out;have h3:=HH.out
   rw[HFS.out]at h3
   omega
  have HFE:Hid ((l.filter (· <m+1)).length=hE):=by show _=_;rw[xvz];exact hhE
  obtain ⟨T,HT⟩: ∃q,Hid (yCz l f' (m+1) (dE+1) hE=q):=⟨_,rfl⟩
  have HE2:Hid (o++(zRz basic h bi ((zez m l (d+x)).1++T)).map zKz=zBz l):=by
   show _=_
   rw[←HE.out,HD.out,←HT.out,HHE.out,HDE.out]
  have hdE:dE≤61*m+60:=by have h1:=HPB.out;rw[HDE.out]at h1;exact h1
  have CTL:Hid (CS 227 #[.slice (some ⟨g,0,none⟩) N cap,.int .i64 (n:Int)] wr (.int .i64 (m:Int))):=ctl
  clear ctl HFS HMO HPL HPB HD HE hc1 hxb hhE
  go_wp2_with fail
  refine CTL.out.mono ?_
  rintro e w' ⟨rfl,rfl⟩
  go_wp2_with fail
  go_loopw[4,7,9,10,12] (fun v a c e i wi=> ∃(j d' h' b':Nat) (o':List Nat),a=.int .i64 h'∧c=.int .i64 d'∧e=.int .i64 b'∧i=.int .i64 j∧j≤N∧d'≤61*m+j∧b'≤2400∧h'+(zez m (l.drop j) d').1.length=hE∧(zez m (l.drop j) d').2=dE∧o'++(zRz basic h' b' ((zez m (l.drop j) d').1++T)).map zKz=zBz l∧wi.ownsRow w.heap.size 5 1 v o'.length (zcz (b8 o'))∧Below w.heap.size w wi)
   (fun _ _ _ _ i _=>N-(intOf i).toNat)
  case atStart=>exact ⟨0,d+x,h,bi,o,rfl,by go_num,rfl,rfl,Nat.zero_le _,by omega,hbi,HHE.out,HDE.out,HE2.out,hown,hbel⟩
  clear hown hbel hsz
  obtain ⟨j,d',h',b',o',rfl,rfl,rfl,rfl,hj,hd',hb',q1,q2,q3,hown,hbel⟩:=hrel
  have Q1:Hid (h'+(zez m (l.drop j) d').1.length=hE):=q1
  have Q2:Hid ((zez m (l.drop j) d').2=dE):=q2
  have Q3:Hid (o'++(zRz basic h' b' ((zez m (l.drop j) d').1++T)).map zKz=zBz l):=q3
  have hsz:=hbel.size
  have hh':h'≤hE:=by omega
  have hol':o'.length≤2000:=by
   have h1:=congrArg List.length Q3.out
   rw[List.length_append]at h1
   have:=v5z HOK.out
   omega
  clear q1 q2 q3
  by_cases hlj:j<N
  ·have ca:=vIz (zjz HW.out hbel) j hlj
   have HS:Hid (l.drop j=l.getD j 0::l.drop (j+1)):=jPz l j (by have:=HL.out;omega)
   generalize l.getD j 0=c at ca HS
   rcases Nat.lt_trichotomy c m with hc|hc|hc
   ·have EP:Hid (zez m (l.drop j) d'=zez m (l.drop (j+1)) (d'+1)):=by show _=_;rw[HS.out,zez,if_pos hc]
    rw[EP.out]at Q1 Q2 Q3
    have hci:(c:Int)<(m:Int):=by omega
    have hcn: ¬(c:Int)=(m:Int):=by omega
    go_wp2_with fail
    go_roundw
    case rel=>exact ⟨j+1,d'+1,h',b',o',rfl,by go_num,rfl,by go_num,by omega,by omega,hb',Q1.out,Q2.out,Q3.out,hown,hbel⟩
    case measure=>simp[intOf];omega
   ·subst hc
    have EP:Hid (zez c (l.drop j) d'=(d'::(zez c (l.drop (j+1)) 0).1,(zez c (l.drop (j+1)) 0).2)):=by show _=_;rw[HS.out,zez,if_neg (by omega),if_pos rfl]
    rw[EP.out]at Q1 Q2 Q3
    have Q4:Hid ((o'++(yiz 28 36 b' d').map zKz)++(zRz basic (h'+1) (zuz d' (h'+1) (h'==basic)) ((zez c (l.drop (j+1)) 0).1++T)).map zKz=zBz l):=by
     show _=_
     rw[←Q3.out]
     show _=o'++(yiz 28 36 b' d'++zRz basic (h'+1) (zuz d' (h'+1) (h'==basic)) ((zez c (l.drop (j+1)) 0).1++T)).map zKz
     rw[List.map_append,List.append_assoc]
    have Q5:Hid (h'+1+(zez c (l.drop (j+1)) 0).1.length=hE):=by
     show _=_
     have h1:=Q1.out
     simp only[List.length_cons]at h1
     omega
    have hh1:h'+1≤hE:=by have:=Q5.out;omega
    have cta:=fun (first:Bool) (W:World)=>zbez d' (h'+1) first W (by omega) (by omega) (by omega)
    have hal:=xnz d' (h'+1) (h'==basic)
    simp only[show ((h'+1:Nat):Int)=(h':Int)+1 by omega]at cta
    have CTA:Hid (∀(first:Bool) (W:World),CS 229 #[.int .i64 (d':Int),.int .i64 ((h':Int)+1),.bool first] W (.int .i64 (zuz d' (h'+1) first:Int))):=cta
    clear cta Q3 Q1
    by_cases hbq:h'=basic
    ·subst hbq
     rw[show (h'==h')=true by simp]at Q4 hal
     go_wp2_with fail
     refine (zbfz d' b' o' _ w.heap.size _ (by omega) (by omega) hown hsz (by omega)).mono ?_
     rintro e w1 ⟨v',rfl,own1,hb1⟩
     have B2:Below w.heap.size w w1:=hbel.trans hb1
     clear hb1 hown hbel
     go_wp2_with fail
     refine (CTA.out _ _).mono ?_
     rintro e w' ⟨rfl,rfl⟩
     go_wp2_with fail
     go_roundw
     case rel=>exact ⟨j+1,0,h'+1,_,_,by go_num,rfl,rfl,by go_num,by omega,by omega,hal,Q5.out,Q2.out,Q4.out,own1,B2⟩
     case measure=>simp[intOf];omega
    have hbi2:((h':Int)==(basic:Int))=false:=by simp;omega
    rw[show (h'==basic)=false by simpa using hbq]at Q4 hal
    clear hbq
    go_wp2_with fail
    refine (zbfz d' b' o' _ w.heap.size _ (by omega) (by omega) hown hsz (by omega)).mono ?_
    rintro e w1 ⟨v',rfl,own1,hb1⟩
    have B2:Below w.heap.size w w1:=hbel.trans hb1
    clear hb1 hown hbel
    go_wp2_with fail
    refine (CTA.out _ _).mono ?_
    rintro e w' ⟨rfl,rfl⟩
    go_wp2_with fail
    go_roundw
    case rel=>exact ⟨j+1,0,h'+1,_,_,by go_num,rfl,rfl,by go_num,by omega,by omega,hal,Q5.out,Q2.out,Q4.out,own1,B2⟩
    case measure=>simp[intOf];omega
   have EP:Hid (zez m (l.drop j) d'=zez m (l.drop (j+1)) d'):=by show _=_;rw[HS.out,zez,if_neg (by omega),if_neg (by omega)]
   rw[EP.out]at Q1 Q2 Q3
   have hci: ¬(c:Int)<(m:Int):=by omega
   have hcn: ¬(c:Int)=(m:Int):=by omega
   go_wp2_with fail
   go_roundw
   case rel=>exact ⟨j+1,d',h',b',o',rfl,rfl,rfl,by go_num,by omega,by omega,hb',Q1.out,Q2.out,Q3.out,hown,hbel⟩
   case measure=>simp[intOf];omega
  have HNI:Hid (l.drop j=[]):=List.drop_of_length_le (by have:=HL.out;omega)
  rw[HNI.out]at Q1 Q2 Q3
  have z1:h'=hE:=by have:=Q1.out;simpa[zez] using this
  have z2:d'=dE:=by have:=Q2.out;simpa[zez] using this
  have Q4:Hid (o'++(zRz basic hE b' (yCz l f' (m+1) (dE+1) hE)).map zKz=zBz l):=by
   show _=_
   rw[HT.out,←z1]
   exact Q3.out
  clear Q1 Q2 Q3
  subst z1 z2
  go_wp2_with fail
  go_roundw
  case rel=>exact ⟨f',m+1,d'+1,b',h',o',rfl,by go_num,by go_num,rfl,HFE.out,by omega,by omega,hb',by omega,Q4.out,hown,hbel⟩
  case measure=>simp[intOf];omega
 have HR:Hid (o=zBz l):=by
  show _=_
  have h1:=HE.out
  have h2:=zdqz l f n d basic bi (by have:=HL.out;have:=HH.out;omega)
  rw[HH.out]at h2
  rw[h2]at h1
  simpa using h1
 have hcv:=zzz (P:=Tryz.prog) wr 22 9 5 Tryz.underlying22 Tryz.underlying5 Tryz.underlying9 hown
 go_wp2_with fail
 go_ret2
 exact ⟨by rw[HR.out];rfl,hbel⟩
theorem vgz(ao:Option Addr)(cap:Nat)(w:World):
  Calls Tryz.prog 189 #[.slice ao 0 cap] w fun e w'=>e=.returned (.tuple #[.string ⟨#[]⟩,.bool true])∧Below w.heap.size w w':=by
 have HO:=zzz (P:=Tryz.prog) (w.alloc (.cells #[] 5)) 22 9 5 Tryz.underlying22 Tryz.underlying5 Tryz.underlying9 (l:=[]) (World.ownsRow_lit w #[] 0 (Nat.le_refl _) (by decide) rfl)
 go_enter Tryz.func189,Tryz.ntmps189
 go_wp2_with fail
 refine wp_loop_rounds 1 ?_
 rw[rounds_succ]
 go_wp2_with fail
 refine wp_loop_rounds 1 ?_
 rw[rounds_succ]
 go_wp2_with fail
 go_ret2
 exact ⟨rfl,(Below.refl _ _).alloc (Nat.le_refl _) _⟩
def zfZz(zl:List Int):Prop:=zl.length≤60∧ ∀z∈zl,ytz z
theorem vrz(zl:List Int)(N g cap B:Nat)(w:World)(hno: ¬zfZz zl)(hN:zl.length=N)(hN1:N≤1048576)(hown0:w.ownsRow B 3 1 (.slice (some ⟨g,0,none⟩) N cap) N (zkz zl)):
  Calls Tryz.prog 189 #[.slice (some ⟨g,0,none⟩) N cap] w fun e w'=>e=.returned (.tuple #[.string ⟨#[]⟩,.bool false])∧Below w.heap.size w w':=by
 have HOK:Hid (¬zfZz zl):=hno
 have HL:Hid (zl.length=N):=hN
 have HW:Hid (w.ownsRow B 3 1 (.slice (some ⟨g,0,none⟩) N cap) N (zkz zl)):=hown0
 have hpos:0<N:=by
  rcases Nat.eq_zero_or_pos N with h|h
  ·refine absurd ⟨by omega,fun z hz=> ?_⟩ hno
   rw[List.eq_nil_of_length_eq_zero (hN.trans h)]at hz
   simp at hz
  exact h
 clear hno hN hown0
 go_enter Tryz.func189,Tryz.ntmps189
 go_wp2_with fail
 go_loopw[4,5] (fun v i wr=> ∃(k:Nat) (o:List Nat),k≤N∧i=.int .i64 k∧o.length≤k∧(0<k→N≤60)∧(∀z∈zl.take k,ytz z)∧wr.ownsRow w.heap.size 5 1 v o.length (zcz (b8 o))∧Below w.heap.size w wr)
  (fun _ i _=>N-(intOf i).toNat)
 case atStart=>exact ⟨0,[],Nat.zero_le _,rfl,Nat.zero_le _,fun h=>by omega,fun z hz=>by simp at hz,World.ownsRow_lit w #[] 0 (Nat.le_refl _) (by decide) rfl,(Below.refl _ _).alloc (Nat.le_refl _) _⟩
 obtain ⟨k,o,hk,rfl,hol,h60,hall,hown,hbel⟩:=hrel
 have H60:Hid (0<k→N≤60):=h60
 have HA:Hid (∀z∈zl.take k,ytz z):=hall
 have hsz:=hbel.size
 clear h60 hall
 by_cases hlt:k<N
 ·by_cases hbig:60<(N:Int)
  ·go_wp2_with fail
   go_ret2
   exact ⟨rfl,hbel⟩
  have ca:=zawz (zjz HW.out hbel) k hlt
  have HS:Hid (zl.take (k+1)=zl.take k++[zl.getD k 0]):=jGz zl k (by have:=HL.out;omega)
  generalize zl.getD k 0=z at ca HS
  by_cases hr:ytz z
  ·have HR:Hid (ytz z):=hr
   have HA2:Hid (∀y∈zl.take (k+1),ytz y):=by
    intro y hy
    rw[HS.out]at hy
    rcases List.mem_append.1 hy with hy|hy
    ·exact HA.out y hy
    rw[List.mem_singleton.1 hy];exact hr
   have hz0:0≤z:=hr.1
   have hz1:z≤1114111:=hr.2.1
   clear hr
   by_cases hc:z<128
   ·obtain ⟨c,rfl⟩:=Int.eq_ofNat_of_zero_le hz0
    go_wp2_with fail
    refine (yFz _ _ HR.out).mono ?_
    rintro e w' ⟨rfl,rfl⟩
    go_wp2_with (first|(at_builtin;refine zbz _ rfl _ _ 22 rfl w.heap.size 5 (.int .u8 0) 1 Tryz.underlying22 Tryz.info5 rfl _ _ _ rfl hown #[.int .u8 (c:Int)] 1 rfl rfl (yGz _) (by omega) (by unfold maxLen;omega) (by omega) ?_))
    intro v' w1 hown' hb1
    have R:=xwz c (by omega) rfl hown'
    have B1:Below w.heap.size w w1:=hbel.trans hb1
    clear hown' hb1 hown hbel
    go_wp2_with fail
    go_roundw
    case rel=>exact ⟨k+1,o++[c],by omega,by go_num,by simp;omega,fun _=>by omega,HA2.out,R,B1⟩
    case measure=>simp[intOf];omega
   go_wp2_with fail
   refine (yFz _ _ HR.out).mono ?_
   rintro e w' ⟨rfl,rfl⟩
   go_wp2_with fail
   go_roundw
   case rel=>exact ⟨k+1,o,by omega,by go_num,by omega,fun _=>by omega,HA2.out,hown,hbel⟩
   case measure=>simp[intOf];omega
  have HR:Hid (¬ytz z):=hr
  clear hr
  go_wp2_with fail
  refine (jfz _ _ HR.out).mono ?_
  rintro e w' ⟨rfl,rfl⟩
  go_wp2_with fail
  go_ret2
  exact ⟨rfl,hbel⟩
 refine absurd ⟨?_,?_⟩ HOK.out
 ·have:=HL.out
  have:=H60.out (by omega)
  omega
 have h:=HA.out
 rw[List.take_of_length_le (by have:=HL.out;omega)]at h
 exact h
theorem zm8z(c:Nat):zyz c≤36:=by
 unfold zyz
 split
 ·omega
 split<;>omega
theorem zodz(c:Nat)(w:World)(hc:(c:Int)≤255):
  Calls Tryz.prog 274 #[.int .u8 (c:Int)] w fun e w'=>e=.returned (.int .i64 (zyz c:Int))∧w=w':=by
 by_cases h1:97≤(c:Int)∧(c:Int)≤122
 ·obtain ⟨a1,a2⟩:=h1
  have HV:Hid ((zyz c:Int)=(c:Int)-97):=by show _=_;unfold zyz;rw[if_pos (by omega)];omega
  go_enter Tryz.func274,Tryz.ntmps274
  go_wp2_with fail
  refine (zfz _ _ _ _ a1 a2).mono ?_
  rintro e w' ⟨rfl,rfl⟩
  go_wp2
  go_ret
  exact ⟨znz (by rw[HV.out]<;>omega),rfl⟩
 have H1:Hid ((c:Int)<97∨122<(c:Int)):=by show _∨_;omega
 by_cases h2:48≤(c:Int)∧(c:Int)≤57
 ·obtain ⟨a1,a2⟩:=h2
  have HV:Hid ((zyz c:Int)=(c:Int)-22):=by show _=_;unfold zyz;rw[if_neg (by omega),if_pos (by omega)];omega
  clear h1
  go_enter Tryz.func274,Tryz.ntmps274
  go_wp2_with fail
  refine (zlz _ _ _ _ H1.out).mono ?_
  rintro e w' ⟨rfl,rfl⟩
  go_wp2_with fail
  refine (zfz _ _ _ _ a1 a2).mono ?_
  rintro e w' ⟨rfl,rfl⟩
  go_wp2
  go_ret
  exact ⟨znz (by rw[HV.out]<;>omega),rfl⟩
 have HV:Hid ((zyz c:Int)=36):=by show _=_;unfold zyz;rw[if_neg (by omega),if_neg (by omega)];rfl
 have H2:Hid ((c:Int)<48∨57<(c:Int)):=by show _∨_;omega
 clear h1 h2
 go_enter Tryz.func274,Tryz.ntmps274
 go_wp2_with fail
 refine (zlz _ _ _ _ H1.out).mono ?_
 rintro e w' ⟨rfl,rfl⟩
 go_wp2_with fail
 refine (zlz _ _ _ _ H2.out).mono ?_
 rintro e w' ⟨rfl,rfl⟩
 go_wp2
 go_ret
 exact ⟨znz (by rw[HV.out]),rfl⟩
def sN(s:ByteArray):List Nat:=s.data.toList.map UInt8.toNat
theorem zOz(s:ByteArray):(sN s).length=s.size:=by simp[sN]
theorem j8z(s:ByteArray)(k:Nat)(h:k<s.size):(sN s).drop k=s[k].toNat::(sN s).drop (k+1):=by
 unfold sN
 rw[←List.map_drop,←List.map_drop,xHz s k h]
 rfl
theorem ziNz(s:ByteArray)(k:Nat)(h:s.size≤k):(sN s).drop k=[]:=List.drop_of_length_le (by rw[zOz];exact h)
theorem zf0z: ∀(a:List Nat) (s:List Nat),(∀c∈s.drop (a.length+1),c≠45)→s.take a.length=a→s[a.length]? =some 45→ycz s=some (a,s.drop (a.length+1)):=by
 intro a s h1 h2 h3
 have hs:s=a++45::s.drop (a.length+1):=by
  obtain ⟨hl,he⟩:=List.getElem?_eq_some_iff.1 h3
  rw[←List.take_append_drop a.length s,h2,List.drop_eq_getElem_cons hl,he]
  simp
 rw[hs]
 rw[zdoz _ h1 a]
 simp
theorem zpUz(s:ByteArray)(w:World)(hs:(s.size:Int)≤1048576):
  Calls Tryz.prog 256 #[.string s] w fun e w'=> ∃r:Int,e=.returned (.int .i64 r)∧w=w'∧((r= -1∧ycz (sN s)=none)∨ ∃k:Nat,k<s.size∧r=(k:Int)∧ycz (sN s)=some ((sN s).take k,(sN s).drop (k+1))):=by
 go_enter Tryz.func256,Tryz.ntmps256
 go_wp2_with fail
 go_loop[3] (fun i=> ∃k:Nat,k≤s.size∧i=.int .i64 ((k:Int)-1)∧ ∀c∈(sN s).drop k,c≠45) (fun i=>(intOf i+1).toNat)
 case atStart=>exact ⟨s.size,Nat.le_refl _,rfl,fun c hc=>by rw[ziNz s _ (Nat.le_refl _)]at hc;simp at hc⟩
 obtain ⟨k,hk,rfl,hno⟩:=hrel
 have HN:Hid (∀c∈(sN s).drop k,c≠45):=hno
 clear hno
 by_cases hp:0<k
 ·obtain ⟨j,rfl⟩: ∃j,k=j+1:=⟨k-1,by omega⟩
  have hcast:(((j+1:Nat):Int)-1)=(j:Int):=by omega
  have hjs:j<s.size:=by omega
  obtain ⟨d,hd⟩: ∃d:Nat,s[j].toNat=d:=⟨_,rfl⟩
  have hge:0≤(j:Int):=by omega
  rw[hcast]
  by_cases h45:(d:Int)=45
  ·have HS:Hid (ycz (sN s)=some ((sN s).take j,(sN s).drop (j+1))):=by
    have hl:((sN s).take j).length=j:=by rw[List.length_take,zOz];omega
    have h:=zf0z ((sN s).take j) (sN s) (by rw[hl];exact HN.out) (by rw[hl]) (by
     rw[hl,←List.head?_drop,j8z s j hjs,hd]
     simp
     omega)
    rw[hl]at h
    exact h
   have hd45:d=45:=by omega
   subst hd45
   clear h45 hcast
   go_wp2_with fail
   go_ret
   exact ⟨_,rfl,rfl,.inr ⟨j,hjs,rfl,HS.out⟩⟩
  have HN2:Hid (∀c∈(sN s).drop j,c≠45):=by
   intro c hc
   rw[j8z s j hjs,hd]at hc
   rcases List.mem_cons.1 hc with rfl|hc
   ·omega
   exact HN.out c hc
  clear hcast
  go_wp2_with fail
  go_round
  case rel=>exact ⟨j,by omega,by go_num,HN2.out⟩
  case measure=>simp[intOf]
 have hk0:k=0:=by omega
 subst hk0
 have HS:Hid (ycz (sN s)=none):=jOz _ (by have h:=HN.out;simpa using h)
 go_wp2_with fail
 go_ret
 exact ⟨-1,rfl,rfl,.inl ⟨rfl,HS.out⟩⟩
theorem zf1z{bias k i w d:Nat}{ds:List Nat}(h:1099511627776<i∨1099511627776<w∨36≤d):yjz bias k i w (d::ds)=none:=by rw[yjz,if_pos h]
theorem zoez{bias k i w d:Nat}{ds:List Nat}(h: ¬(1099511627776<i∨1099511627776<w∨36≤d))(hd:d<zFz k bias):yjz bias k i w (d::ds)=some (i+d*w,ds):=by rw[yjz,if_neg h,if_pos hd]
theorem zlMz{bias k i w d:Nat}{ds:List Nat}(h: ¬(1099511627776<i∨1099511627776<w∨36≤d))(hd: ¬d<zFz k bias):yjz bias k i w (d::ds)=yjz bias (k+36) (i+d*w) (w*(36-zFz k bias)) ds:=by rw[yjz,if_neg h,if_neg hd]
def jsz(s:ByteArray)(at0 bias:Nat)(e:Ending):Prop:=
 match yjz bias 36 0 1 (((sN s).drop at0).map zyz)with
 |none=>e=.returned (.tuple #[.int .i64 0,.int .i64 0,.bool false])
 |some (more,rest)=> ∃next:Nat,at0<next∧next≤s.size∧rest=((sN s).drop next).map zyz∧e=.returned (.tuple #[.int .i64 (more:Int),.int .i64 (next:Int),.bool true])
theorem jtz{s:ByteArray}{at0 bias:Nat}{e:Ending}(h:yjz bias 36 0 1 (((sN s).drop at0).map zyz)=none)(he:e=.returned (.tuple #[.int .i64 0,.int .i64 0,.bool false])):jsz s at0 bias e:=by
 unfold jsz
 rw[h]
 exact he
theorem ziOz{s:ByteArray}{at0 bias more next:Nat}{e:Ending}(h:yjz bias 36 0 1 (((sN s).drop at0).map zyz)=some (more,((sN s).drop next).map zyz))(h1:at0<next)(h2:next≤s.size)(he:e=.returned (.tuple #[.int .i64 (more:Int),.int .i64 (next:Int),.bool true])):jsz s at0 bias e:=by
 unfold jsz
 rw[h]
 exact ⟨next,h1,h2,rfl,he⟩
theorem zj6z(s:ByteArray)(at0 bias:Nat)(w:World)(hs:(s.size:Int)≤600)(hat:at0≤s.size)(hb:(bias:Int)≤2400):
  Calls Tryz.prog 257 #[.string s,.int .i64 (at0:Int),.int .i64 (bias:Int)] w fun e w'=>jsz s at0 bias e∧w=w':=by
 go_enter Tryz.func257,Tryz.ntmps257
 go_wp2_with fail
 go_loop[1,9,10,11] (fun p a b c=> ∃q i v k:Nat,p=.int .i64 q∧a=.int .i64 i∧b=.int .i64 v∧c=.int .i64 k∧at0≤q∧q≤s.size∧i≤39582418599936∧v≤38482906972160∧k≤36*(q+1)∧yjz bias k i v (((sN s).drop q).map zyz)=yjz bias 36 0 1 (((sN s).drop at0).map zyz)) (fun p _ _ _=>s.size-(intOf p).toNat)
 case atStart=>exact ⟨at0,0,1,36,rfl,rfl,rfl,rfl,Nat.le_refl _,hat,by omega,by omega,by omega,rfl⟩
 obtain ⟨q,i,v,k,rfl,rfl,rfl,rfl,hq0,hq,hi,hv,hk,he⟩:=hrel
 have HE:Hid (yjz bias k i v (((sN s).drop q).map zyz)=yjz bias 36 0 1 (((sN s).drop at0).map zyz)):=he
 clear he
 by_cases hlt:q<s.size
 ·have hlti: ¬(s.size:Int)≤(q:Int):=by omega
  obtain ⟨c,hc⟩: ∃c:Nat,s[q].toNat=c:=⟨_,rfl⟩
  have hc255:(c:Int)≤255:=by have:=s[q].toNat_lt;omega
  have HS:Hid (((sN s).drop q).map zyz=zyz c::((sN s).drop (q+1)).map zyz):=by show _=_;rw[j8z s q hlt,hc];rfl
  rw[HS.out]at HE
  have cv:=fun W=>zodz c W hc255
  have hv36:=zm8z c
  generalize zyz c=d at cv HE hv36
  have CV:Hid (∀W,CS 274 #[.int .u8 (c:Int)] W (.int .i64 (d:Int))):=cv
  clear cv HS
  by_cases hib:1099511627776<(i:Int)
  ·have HR:=HE.out.symm.trans (zf1z (.inl (by omega)))
   have HRH:Hid (yjz bias 36 0 1 (((sN s).drop at0).map zyz)=none):=HR
   clear HR
   go_wp2_with fail
   go_ret3
   exact ⟨jtz HRH.out rfl,rfl⟩
  by_cases hvb:1099511627776<(v:Int)
  ·have HRH:Hid (yjz bias 36 0 1 (((sN s).drop at0).map zyz)=none):=HE.out.symm.trans (zf1z (.inr (.inl (by omega))))
   go_wp2_with fail
   go_ret3
   exact ⟨jtz HRH.out rfl,rfl⟩
  by_cases hd36:(d:Int)=36
  ·have HRH:Hid (yjz bias 36 0 1 (((sN s).drop at0).map zyz)=none):=HE.out.symm.trans (zf1z (.inr (.inr (by omega))))
   have hd37:d=36:=by omega
   subst hd37
   clear hd36
   go_wp2_with fail
   refine (CV.out _).mono ?_
   rintro e w' ⟨rfl,rfl⟩
   go_wp2_with fail
   go_ret3
   exact ⟨jtz HRH.out rfl,rfl⟩
  have ct:=fun W=>zhCz k bias W (by omega) (by omega)
  obtain ⟨l1,l2⟩:=zbbz k bias
  have hpb:d*v≤35*v:=Nat.mul_le_mul_right v (by omega)
  have hM:(d:Int)*(v:Int)=((d*v:Nat):Int):=by norm_cast
  by_cases hdt:d<zFz k bias
  ·have HRH:Hid (yjz bias 36 0 1 (((sN s).drop at0).map zyz)=some (i+d*v,((sN s).drop (q+1)).map zyz)):=HE.out.symm.trans (zoez (by omega) hdt)
   generalize zFz k bias=t at ct hdt l1 l2
   generalize d*v=p at hM HRH hpb
   have hdti:(d:Int)<(t:Int):=by omega
   have CT:Hid (∀W,CS 254 #[.int .i64 (k:Int),.int .i64 (bias:Int)] W (.int .i64 (t:Int))):=ct
   clear ct
   go_wp2_with fail
   refine (CV.out _).mono ?_
   rintro e w' ⟨rfl,rfl⟩
   go_wp2_with fail
   refine (CT.out _).mono ?_
   rintro e w' ⟨rfl,rfl⟩
   go_wp2_with fail
   go_ret3
   exact ⟨ziOz HRH.out (by omega) (by omega) (by simp),rfl⟩
  have HN:Hid (yjz bias (k+36) (i+d*v) (v*(36-zFz k bias)) (((sN s).drop (q+1)).map zyz)=yjz bias 36 0 1 (((sN s).drop at0).map zyz)):=(zlMz (by omega) hdt).symm.trans HE.out
  have hwb:v*(36-zFz k bias)≤v*35:=Nat.mul_le_mul_left v (by omega)
  have hc2:((36-zFz k bias:Nat):Int)=36-(zFz k bias:Int):=by omega
  have hW:(v:Int)*(36-(zFz k bias:Int))=((v*(36-zFz k bias):Nat):Int):=by rw[←hc2];norm_cast
  clear hc2
  generalize hlim:zFz k bias=t at ct hdt l1 l2 HN hwb hW
  clear hlim
  generalize d*v=p at hM HN hpb
  generalize v*(36-t)=v' at hW HN hwb
  have hdti: ¬(d:Int)<(t:Int):=by omega
  have CT:Hid (∀W,CS 254 #[.int .i64 (k:Int),.int .i64 (bias:Int)] W (.int .i64 (t:Int))):=ct
  clear ct
  go_wp2_with fail
  refine (CV.out _).mono ?_
  rintro e w' ⟨rfl,rfl⟩
  go_wp2_with fail
  refine (CT.out _).mono ?_
  rintro e w' ⟨rfl,rfl⟩
  go_wp2_with fail
  go_round
  case rel=>exact ⟨q+1,i+p,v',k+36,by go_num,by go_num,rfl,by go_num,by omega,by omega,by omega,by omega,by omega,HN.out⟩
  case measure=>simp[intOf];omega
 have hlti:(s.size:Int)≤(q:Int):=by omega
 have HRH:Hid (yjz bias 36 0 1 (((sN s).drop at0).map zyz)=none):=by
  show _=_
  rw[←HE.out,ziNz s q (by omega)]
  rfl
 go_wp2_with fail
 go_ret3
 exact ⟨jtz HRH.out rfl,rfl⟩
end Go.Proofs.YtgcbaphbiaimoaaGreatDoor
