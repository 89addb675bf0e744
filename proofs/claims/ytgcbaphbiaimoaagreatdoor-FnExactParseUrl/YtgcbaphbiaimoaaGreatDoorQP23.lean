/- EncImpl, IntMarks, EncBoth, InsImpl. -/
import Derived.Test.YtgcbaphbiaimoaaGreatDoorQP20
import Derived.Test.YtgcbaphbiaimoaaGreatDoorQP22
set_option maxHeartbeats 8000000
set_option maxRecDepth 20000
namespace Go.Proofs.YtgcbaphbiaimoaaGreatDoor
open Go.RowKit Go.Shelf
theorem zoOz: ∀args w,(callFunc 298 args).run Tryz.prog w=.ok (.enter 298 args) w:=enters_of Tryz.func298 (by kernel_rfl) rfl
theorem zgyz(zl:List Int)(N g cap B:Nat)(w:World)(hN:zl.length=N)(hN1:N≤1048576)(hown:w.ownsRow B 3 1 (.slice (some ⟨g,0,none⟩) N cap) N (zkz zl)):
  Calls Tryz.prog 297 #[.slice (some ⟨g,0,none⟩) N cap,.func (.func 298) #[] #[]] w fun e w'=>e=.returned (.bool (zl.any fun z=> !(vaz z)))∧ ∃q,w'=w.drewN q:=by
 have h:=Tryz.slices_ContainsFunc (fun z:Int=>Value.int .i64 z) (fun z=> !(vaz z)) 298 #[] zoOz g 0 N cap zl w (zkXz w) (by omega) (by omega) (fun j hj=>by
  rw[Nat.zero_add,zawz hown j (by omega)]
  simp[List.getD,hj])
 rw[List.take_of_length_le (by omega)]at h
 exact h
theorem zk1z(l:List Nat)(N g cap B:Nat)(w:World)(hok:yPz l=true)(hN:l.length=N)(hown:w.ownsRow B 3 1 (.slice (some ⟨g,0,none⟩) N cap) N (icN l)):
  Calls Tryz.prog 297 #[.slice (some ⟨g,0,none⟩) N cap,.func (.func 298) #[] #[]] w fun e w'=>e=.returned (.bool false)∧ ∃q,w'=w.drewN q:=by
 have h60:=(zLz hok).1
 have h:=zgyz (l.map fun (c:Nat)=>(c:Int)) N g cap B w (by simpa using hN) (by omega) hown
 have e:(l.map fun (c:Nat)=>(c:Int)).any (fun z=> !(vaz z))=false:=by
  rw[List.any_eq_false]
  intro z hz
  obtain ⟨c,hc,rfl⟩:=List.mem_map.1 hz
  simp only[yPz,Bool.and_eq_true,List.all_eq_true]at hok
  have:=(zibz (c:Int)).2 (zdrz (hok.2 c hc))
  simp[this]
 rw[e]at h
 exact h
theorem zcVz(l:List Nat)(N g cap B:Nat)(w:World)(hok:yPz l=true)(hN:l.length=N)(hown0:w.ownsRow B 3 1 (.slice (some ⟨g,0,none⟩) N cap) N (icN l)):
  Calls Tryz.prog 292 #[.slice (some ⟨g,0,none⟩) N cap] w fun e w'=>e=.returned (.tuple #[.string ⟨(b8 (zBz l)).toArray⟩,.bool true])∧Below w.heap.size w w':=by
 have hN60:(N:Int)≤60:=by have:=(zLz hok).1;omega
 have HOK:Hid (yPz l=true):=hok
 have HL:Hid (l.length=N):=hN
 have HW:Hid (w.ownsRow B 3 1 (.slice (some ⟨g,0,none⟩) N cap) N (icN l)):=hown0
 have CC:Hid (Calls Tryz.prog 297 #[.slice (some ⟨g,0,none⟩) N cap,.func (.func 298) #[] #[]] w fun e w'=>e=.returned (.bool false)∧ ∃q,w'=w.drewN q):=zk1z l N g cap B w hok hN hown0
 clear hok hN hown0
 go_enter Tryz.func292,Tryz.ntmps292
 have hng: ¬60<(N:Int):=by omega
 go_wp2_with fail
 refine CC.out.mono ?_
 rintro e w2 ⟨rfl,q,hw2⟩
 have B0:Below w.heap.size w w2:=by rw[hw2];exact ⟨rfl,rfl,rfl,Nat.le_refl _,fun _ _=>rfl⟩
 have hsz2:w2.heap.size=w.heap.size:=by rw[hw2];rfl
 clear hw2 q
 have HZ:Hid ((w2.alloc (.cells #[] 5)).ownsRow w.heap.size 5 1 (.slice (some ⟨w.heap.size,0,none⟩) 0 0) 0 []):=by
  have h:(w2.alloc (.cells #[] 5)).ownsRow w.heap.size 5 1 (.slice (some ⟨w2.heap.size,0,none⟩) 0 0) 0 []:=World.ownsRow_lit w2 #[] 0 (show w.heap.size≤w2.heap.size by omega) (by decide) rfl
  rw[hsz2]at h
  exact h
 go_wp2_with fail
 go_loopw[4,25] (fun v i wr=> ∃k:Nat,k≤N∧i=.int .i64 k∧wr.ownsRow w.heap.size 5 1 v ((l.take k).filter (· <128)).length (zcz (b8 ((l.take k).filter (· <128))))∧Below w.heap.size w wr)
  (fun _ i _=>N-(intOf i).toNat)
 case atStart=>exact ⟨0,Nat.zero_le _,rfl,HZ.out,B0.alloc (by omega) _⟩
 obtain ⟨k,hk,rfl,hown,hbel⟩:=hrel
 have hsz:=hbel.size
 by_cases hlt:k<N
 ·have ca:=vIz (zjz HW.out hbel) k hlt
  have hr:=zfYz HOK.out k (by have:=HL.out;omega)
  have hfl:((l.take k).filter (· <128)).length≤k:=Nat.le_trans (List.length_filter_le _ _) (List.length_take_le _ _)
  have HS:Hid ((l.take (k+1)).filter (· <128)=(l.take k).filter (· <128)++(if l.getD k 0<128 then [l.getD k 0]else [])):=zeOz l k (by have:=HL.out;omega)
  generalize (l.take k).filter (· <128)=o at hown HS hfl
  generalize l.getD k 0=c at ca HS hr
  have HR:Hid (ytz (c:Int)):=zdrz hr
  have hc1:(c:Int)≤1114111:=HR.out.2.1
  clear hr
  by_cases hc:(c:Int)<128
  ·rw[if_pos (by omega)]at HS
   go_wp2_with (first|(at_builtin;refine zbz _ rfl _ _ 22 rfl w.heap.size 5 (.int .u8 0) 1 Tryz.underlying22 Tryz.info5 rfl _ _ _ rfl hown #[.int .u8 (c:Int)] 1 rfl rfl (yGz _) (by omega) (by unfold maxLen;omega) (by omega) ?_))
   intro v' w1 hown' hb1
   have R:=xwz c (by omega) rfl hown'
   have B1:Below w.heap.size w w1:=hbel.trans hb1
   clear hown' hb1 hown hbel
   go_wp2_with fail
   go_roundw
   case rel=>exact ⟨k+1,by omega,by go_num,by rw[HS.out];exact R,B1⟩
   case measure=>simp[intOf];omega
  rw[if_neg (by omega),List.append_nil]at HS
  go_wp2_with fail
  go_roundw
  case rel=>exact ⟨k+1,by omega,by go_num,by rw[HS.out];exact hown,hbel⟩
  case measure=>simp[intOf];omega
 rw[List.take_of_length_le (by have:=HL.out;omega)]at hown
 have hfl:=List.length_filter_le (fun x=>decide (x<128)) l
 obtain ⟨basic,hbs⟩: ∃b,(l.filter (· <128)).length=b:=⟨_,rfl⟩
 have hb60:(basic:Int)≤60:=by have:=HL.out;omega
 obtain ⟨ao,cp,hu⟩:=xWz hown
 rw[hbs]at hu
 subst hu
 have HBS:Hid ((l.filter (· <128)).length=basic):=hbs
 have hO:=hown
 rw[hbs]at hO
 have HO:Hid (wr.ownsRow w.heap.size 5 1 (.slice ao basic cp) basic (zcz (b8 (l.filter (· <128))))):=hO
 clear hown hO hfl hbs
 by_cases hbz:0<basic
 ·have hbzi:0<(basic:Int):=by omega
  have HPRE:Hid ((l.filter (· <128)++[45])++(zRz basic basic 72 (yCz l N 128 0 basic)).map zKz=zBz l):=by
   show _=_
   unfold zBz encV
   rw[HBS.out,if_pos hbz,HL.out]
  have hO:=HO.out
  have hlen:(l.filter (· <128)).length=basic:=HBS.out
  go_wp2_with (at_builtin;refine zbz _ rfl _ _ 22 rfl w.heap.size 5 (.int .u8 0) 1 Tryz.underlying22 Tryz.info5 rfl _ _ _ rfl hO #[.int .u8 45] 1 rfl rfl (yGz _) (by omega) (by unfold maxLen;omega) (by omega) ?_)
  intro v' w1 hown' hb1
  have HO1:Hid (w1.ownsRow w.heap.size 5 1 v' (l.filter (· <128)++[45]).length (zcz (b8 (l.filter (· <128)++[45])))):=xwz 45 (by omega) rfl (by rw[hlen];exact hown')
  have B1:Below w.heap.size w w1:=hbel.trans hb1
  clear hown' hb1 hO hbel hsz hlen
  generalize l.filter (· <128)++[45]=o1 at HPRE HO1
  go_wp2_with fail
  go_loopw[4,11,8,9,10] (fun v a b c e wr=> ∃(f n d bi h:Nat) (o:List Nat),a=.int .i64 h∧b=.int .i64 n∧c=.int .i64 d∧e=.int .i64 bi∧(l.filter (· <n)).length=h∧n≤1114112∧d≤61*n∧bi≤2400∧N≤h+f∧o++(zRz basic h bi (yCz l f n d h)).map zKz=zBz l∧wr.ownsRow w.heap.size 5 1 v o.length (zcz (b8 o))∧Below w.heap.size w wr)
   (fun _ a _ _ _ _=>N-(intOf a).toNat)
  case atStart=>exact ⟨N,128,0,72,basic,o1,rfl,rfl,rfl,rfl,HBS.out,by omega,by omega,by omega,by omega,HPRE.out,HO1.out,B1⟩
  clear B1
  obtain ⟨f,n,d,bi,h,o,rfl,rfl,rfl,rfl,hh,hn,hd,hbi,hf,he,hown,hbel⟩:=hrel
  have HE:Hid (o++(zRz basic h bi (yCz l f n d h)).map zKz=zBz l):=he
  have HH:Hid ((l.filter (· <n)).length=h):=hh
  have hsz:=hbel.size
  have hol:o.length≤2000:=by
   have h1:=congrArg List.length HE.out
   rw[List.length_append]at h1
   have:=v5z HOK.out
   omega
  have hhN:h≤N:=by
   have:=List.length_filter_le (fun x=>decide (x<n)) l
   have:=HL.out
   omega
  clear he hh
  by_cases hlt2:h<N
  ·obtain ⟨m1,m2,m3⟩:=zaHz l n (zLz HOK.out).2 (by have:=HL.out;have:=HH.out;omega)
   have hmv:=(zLz HOK.out).2 _ m1
   have HFS:Hid (l.filter (· <n)=l.filter (· <ziz n l)):=vjz l n _ m2 m3
   have HMO:Hid ((l.filter (· <ziz n l)).length<(l.filter (· ≤ziz n l)).length):=v3z _ l m1
   have ctl:=zicz l n N cap g B wr HL.out (by omega) (zLz HOK.out).2 hmv (zjz HW.out hbel)
   obtain ⟨f',rfl⟩: ∃q,f=q+1:=⟨f-1,by omega⟩
   have HD:Hid (yCz l (f'+1) n d h=(zez (ziz n l) l (d+(ziz n l-n)*(h+1))).1++yCz l f' (ziz n l+1) ((zez (ziz n l) l (d+(ziz n l-n)*(h+1))).2+1) (h+(zez (ziz n l) l (d+(ziz n l-n)*(h+1))).1.length)):=by
    show _=_
    rw[yCz,if_pos (by have:=HL.out;omega)]
   clear m1 m3
   generalize ziz n l=m at*
   have hxb:(m-n)*(h+1)≤(m-n)*61:=Nat.mul_le_mul_left _ (by omega)
   have hc1:((m-n:Nat):Int)=(m:Int)-(n:Int):=by omega
   have hx61:d+(m-n)*(h+1)≤61*m:=by omega
   have hX:((m:Int)-(n:Int))*((h:Int)+1)=(((m-n)*(h+1):Nat):Int):=by rw[←hc1];norm_cast
   generalize (m-n)*(h+1)=x at*
   have HPL:Hid ((l.filter (· <m)).length+(zez m l (d+x)).1.length=(l.filter (· ≤m)).length):=vqz m l (d+x)
   have HPB:Hid ((zez m l (d+x)).2≤61*m+60):=(j6z m l (d+x) (61*m+60) (by have:=HL.out;omega)).2
   obtain ⟨hE,HHE⟩: ∃q,Hid (h+(zez m l (d+x)).1.length=q):=⟨_,rfl⟩
   obtain ⟨dE,HDE⟩: ∃q,Hid ((zez m l (d+x)).2=q):=⟨_,rfl⟩
   have hhE:(l.filter (· ≤m)).length=hE:=by
    have h1:=HPL.out;have h2:=HHE.out;have h3:=HH.out
    rw[HFS.out]at h3
    omega
   have hEN:hE≤N:=by
    have:=List.length_filter_le (fun x=>decide (x≤m)) l
    have:=HL.out
    omega
   have hgr:h<hE:=by
    have h1:=HMO.out;have h3:=HH.out
    rw[HFS.out]at h3
    omega
   have HFE:Hid ((l.filter (· <m+1)).length=hE):=by show _=_;rw[xvz];exact hhE
   obtain ⟨T,HT⟩: ∃q,Hid (yCz l f' (m+1) (dE+1) hE=q):=⟨_,rfl⟩
   have HE2:Hid (o++(zRz basic h bi ((zez m l (d+x)).1++T)).map zKz=zBz l):=by
    show _=_
    rw[←HE.out,HD.out,←HT.out,HHE.out,HDE.out]
   have hdE:dE≤61*m+60:=by have h1:=HPB.out;rw[HDE.out]at h1;exact h1
   have CTL:Hid (CS 299 #[.slice (some ⟨g,0,none⟩) N cap,.int .i64 (n:Int)] wr (.int .i64 (m:Int))):=ctl
   clear ctl HFS HMO HPL HPB HD HE hc1 hxb hhE
   go_wp2_with fail
   refine CTL.out.mono ?_
   rintro e w' ⟨rfl,rfl⟩
   go_wp2_with fail
   go_loopw[4,11,9,10,63] (fun v a c e i wi=> ∃(j d' h' b':Nat) (o':List Nat),a=.int .i64 h'∧c=.int .i64 d'∧e=.int .i64 b'∧i=.int .i64 j∧j≤N∧d'≤61*m+j∧b'≤2400∧h'+(zez m (l.drop j) d').1.length=hE∧(zez m (l.drop j) d').2=dE∧o'++(zRz basic h' b' ((zez m (l.drop j) d').1++T)).map zKz=zBz l∧wi.ownsRow w.heap.size 5 1 v o'.length (zcz (b8 o'))∧Below w.heap.size w wi)
    (fun _ _ _ _ i _=>N-(intOf i).toNat)
   case atStart=>exact ⟨0,d+x,h,bi,o,rfl,by go_num,rfl,rfl,Nat.zero_le _,by omega,hbi,HHE.out,HDE.out,HE2.out,hown,hbel⟩
   clear hown hbel hsz
   obtain ⟨j,d',h',b',o',rfl,rfl,rfl,rfl,hj,hd',hb',q1,q2,q3,hown,hbel⟩:=hrel
   have Q1:Hid (h'+(zez m (l.drop j) d').1.length=hE):=q1
   have Q2:Hid ((zez m (l.drop j) d').2=dE):=q2
   have Q3:Hid (o'++(zRz basic h' b' ((zez m (l.drop j) d').1++T)).map zKz=zBz l):=q3
   have hsz:=hbel.size
   have hh':h'≤hE:=by omega
   have hol':o'.length≤2000:=by
    have h1:=congrArg List.length Q3.out
    rw[List.length_append]at h1
    have:=v5z HOK.out
    omega
   clear q1 q2 q3
   by_cases hlj:j<N
   ·have ca:=vIz (zjz HW.out hbel) j hlj
    have HS:Hid (l.drop j=l.getD j 0::l.drop (j+1)):=jPz l j (by have:=HL.out;omega)
    generalize l.getD j 0=c at ca HS
    rcases Nat.lt_trichotomy c m with hc|hc|hc
    ·have EP:Hid (zez m (l.drop j) d'=zez m (l.drop (j+1)) (d'+1)):=by show _=_;rw[HS.out,zez,if_pos hc]
     rw[EP.out]at Q1 Q2 Q3
     have hci:(c:Int)<(m:Int):=by omega
     have hcn: ¬(c:Int)=(m:Int):=by omega
     go_wp2_with fail
     go_roundw
     case rel=>exact ⟨j+1,d'+1,h',b',o',rfl,by go_num,rfl,by go_num,by omega,by omega,hb',Q1.out,Q2.out,Q3.out,hown,hbel⟩
     case measure=>simp[intOf];omega
    ·subst hc
     have EP:Hid (zez c (l.drop j) d'=(d'::(zez c (l.drop (j+1)) 0).1,(zez c (l.drop (j+1)) 0).2)):=by show _=_;rw[HS.out,zez,if_neg (by omega),if_pos rfl]
     rw[EP.out]at Q1 Q2 Q3
     have Q4:Hid ((o'++(yiz 28 36 b' d').map zKz)++(zRz basic (h'+1) (zuz d' (h'+1) (h'==basic)) ((zez c (l.drop (j+1)) 0).1++T)).map zKz=zBz l):=by
      show _=_
      rw[←Q3.out]
      show _=o'++(yiz 28 36 b' d'++zRz basic (h'+1) (zuz d' (h'+1) (h'==basic)) ((zez c (l.drop (j+1)) 0).1++T)).map zKz
      rw[List.map_append,List.append_assoc]
     have Q5:Hid (h'+1+(zez c (l.drop (j+1)) 0).1.length=hE):=by
      show _=_
      have h1:=Q1.out
      simp only[List.length_cons]at h1
      omega
     have hh1:h'+1≤hE:=by have:=Q5.out;omega
     have cta:=fun (first:Bool) (W:World)=>vzz d' (h'+1) first W (by omega) (by omega) (by omega)
     have hal:=xnz d' (h'+1) (h'==basic)
     simp only[show ((h'+1:Nat):Int)=(h':Int)+1 by omega]at cta
     have CTA:Hid (∀(first:Bool) (W:World),CS 301 #[.int .i64 (d':Int),.int .i64 ((h':Int)+1),.bool first] W (.int .i64 (zuz d' (h'+1) first:Int))):=cta
     clear cta Q3 Q1
     by_cases hbq:h'=basic
     ·subst hbq
      rw[show (h'==h')=true by simp]at Q4 hal
      go_wp2_with fail
      refine (zbnz d' b' o' _ w.heap.size _ (by omega) (by omega) hown hsz (by omega)).mono ?_
      rintro e w1 ⟨v',rfl,own1,hb1⟩
      have B2:Below w.heap.size w w1:=hbel.trans hb1
      clear hb1 hown hbel
      go_wp2_with fail
      refine (CTA.out _ _).mono ?_
      rintro e w' ⟨rfl,rfl⟩
      go_wp2_with fail
      go_roundw
      case rel=>exact ⟨j+1,0,h'+1,_,_,by go_num,rfl,rfl,by go_num,by omega,by omega,hal,Q5.out,Q2.out,Q4.out,own1,B2⟩
      case measure=>simp[intOf];omega
     have hbi2:((h':Int)==(basic:Int))=false:=by simp;omega
     rw[show (h'==basic)=false by simpa using hbq]at Q4 hal
     clear hbq
     go_wp2_with fail
     refine (zbnz d' b' o' _ w.heap.size _ (by omega) (by omega) hown hsz (by omega)).mono ?_
     rintro e w1 ⟨v',rfl,own1,hb1⟩
     have B2:Below w.heap.size w w1:=hbel.trans hb1
     clear hb1 hown hbel
     go_wp2_with fail
     refine (CTA.out _ _).mono ?_
     rintro e w' ⟨rfl,rfl⟩
     go_wp2_with fail
     go_roundw
     case rel=>exact ⟨j+1,0,h'+1,_,_,by go_num,rfl,rfl,by go_num,by omega,by omega,hal,Q5.out,Q2.out,Q4.out,own1,B2⟩
     case measure=>simp[intOf];omega
    have EP:Hid (zez m (l.drop j) d'=zez m (l.drop (j+1)) d'):=by show _=_;rw[HS.out,zez,if_neg (by omega),if_neg (by omega)]
    rw[EP.out]at Q1 Q2 Q3
    have hci: ¬(c:Int)<(m:Int):=by omega
    have hcn: ¬(c:Int)=(m:Int):=by omega
    go_wp2_with fail
    go_roundw
    case rel=>exact ⟨j+1,d',h',b',o',rfl,rfl,rfl,by go_num,by omega,by omega,hb',Q1.out,Q2.out,Q3.out,hown,hbel⟩
    case measure=>simp[intOf];omega
   have HNI:Hid (l.drop j=[]):=List.drop_of_length_le (by have:=HL.out;omega)
   rw[HNI.out]at Q1 Q2 Q3
   have z1:h'=hE:=by have:=Q1.out;simpa[zez] using this
   have z2:d'=dE:=by have:=Q2.out;simpa[zez] using this
   have Q4:Hid (o'++(zRz basic hE b' (yCz l f' (m+1) (dE+1) hE)).map zKz=zBz l):=by
    show _=_
    rw[HT.out,←z1]
    exact Q3.out
   clear Q1 Q2 Q3
   subst z1 z2
   go_wp2_with fail
   go_roundw
   case rel=>exact ⟨f',m+1,d'+1,b',h',o',rfl,by go_num,by go_num,rfl,HFE.out,by omega,by omega,hb',by omega,Q4.out,hown,hbel⟩
   case measure=>simp[intOf];omega
  have HR:Hid (o=zBz l):=by
   show _=_
   have h1:=HE.out
   have h2:=zdqz l f n d basic bi (by have:=HL.out;have:=HH.out;omega)
   rw[HH.out]at h2
   rw[h2]at h1
   simpa using h1
  have hcv:=zzz (P:=Tryz.prog) wr 22 9 5 Tryz.underlying22 Tryz.underlying5 Tryz.underlying9 hown
  go_wp2_with fail
  go_ret2
  exact ⟨by rw[HR.out];rfl,hbel⟩
 have hbzi: ¬0<(basic:Int):=by omega
 have HPRE:Hid (l.filter (· <128)++(zRz basic basic 72 (yCz l N 128 0 basic)).map zKz=zBz l):=by
  show _=_
  unfold zBz encV
  rw[HBS.out,if_neg hbz,HL.out,List.append_nil]
 have HO1:Hid (wr.ownsRow w.heap.size 5 1 (.slice ao basic cp) (l.filter (· <128)).length (zcz (b8 (l.filter (· <128))))):=by
  have h1:=HO.out
  rw[←HBS.out]at h1⊢
  exact h1
 have B1:Below w.heap.size w wr:=hbel
 clear hbel hsz HO
 obtain ⟨o1,ho1⟩: ∃q,l.filter (· <128)=q:=⟨_,rfl⟩
 rw[ho1]at HPRE HO1
 go_wp2_with fail
 go_loopw[4,11,8,9,10] (fun v a b c e wr=> ∃(f n d bi h:Nat) (o:List Nat),a=.int .i64 h∧b=.int .i64 n∧c=.int .i64 d∧e=.int .i64 bi∧(l.filter (· <n)).length=h∧n≤1114112∧d≤61*n∧bi≤2400∧N≤h+f∧o++(zRz basic h bi (yCz l f n d h)).map zKz=zBz l∧wr.ownsRow w.heap.size 5 1 v o.length (zcz (b8 o))∧Below w.heap.size w wr)
  (fun _ a _ _ _ _=>N-(intOf a).toNat)
 case atStart=>exact ⟨N,128,0,72,basic,o1,rfl,rfl,rfl,rfl,HBS.out,by omega,by omega,by omega,by omega,HPRE.out,HO1.out,B1⟩
 clear B1
 obtain ⟨f,n,d,bi,h,o,rfl,rfl,rfl,rfl,hh,hn,hd,hbi,hf,he,hown,hbel⟩:=hrel
 have HE:Hid (o++(zRz basic h bi (yCz l f n d h)).map zKz=zBz l):=he
 have HH:Hid ((l.filter (· <n)).length=h):=hh
 have hsz:=hbel.size
 have hol:o.length≤2000:=by
  have h1:=congrArg List.length HE.out
  rw[List.length_append]at h1
  have:=v5z HOK.out
  omega
 have hhN:h≤N:=by
  have:=List.length_filter_le (fun x=>decide (x<n)) l
  have:=HL.out
  omega
 clear he hh
 by_cases hlt2:h<N
 ·obtain ⟨m1,m2,m3⟩:=zaHz l n (zLz HOK.out).2 (by have:=HL.out;have:=HH.out;omega)
  have hmv:=(zLz HOK.out).2 _ m1
  have HFS:Hid (l.filter (· <n)=l.filter (· <ziz n l)):=vjz l n _ m2 m3
  have HMO:Hid ((l.filter (· <ziz n l)).length<(l.filter (· ≤ziz n l)).length):=v3z _ l m1
  have ctl:=zicz l n N cap g B wr HL.out (by omega) (zLz HOK.out).2 hmv (zjz HW.out hbel)
  obtain ⟨f',rfl⟩: ∃q,f=q+1:=⟨f-1,by omega⟩
  have HD:Hid (yCz l (f'+1) n d h=(zez (ziz n l) l (d+(ziz n l-n)*(h+1))).1++yCz l f' (ziz n l+1) ((zez (ziz n l) l (d+(ziz n l-n)*(h+1))).2+1) (h+(zez (ziz n l) l (d+(ziz n l-n)*(h+1))).1.length)):=by
   show _=_
   rw[yCz,if_pos (by have:=HL.out;omega)]
  clear m1 m3
  generalize ziz n l=m at*
  have hxb:(m-n)*(h+1)≤(m-n)*61:=Nat.mul_le_mul_left _ (by omega)
  have hc1:((m-n:Nat):Int)=(m:Int)-(n:Int):=by omega
  have hx61:d+(m-n)*(h+1)≤61*m:=by omega
  have hX:((m:Int)-(n:Int))*((h:Int)+1)=(((m-n)*(h+1):Nat):Int):=by rw[←hc1];norm_cast
  generalize (m-n)*(h+1)=x at*
  have HPL:Hid ((l.filter (· <m)).length+(zez m l (d+x)).1.length=(l.filter (· ≤m)).length):=vqz m l (d+x)
  have HPB:Hid ((zez m l (d+x)).2≤61*m+60):=(j6z m l (d+x) (61*m+60) (by have:=HL.out;omega)).2
  obtain ⟨hE,HHE⟩: ∃q,Hid (h+(zez m l (d+x)).1.length=q):=⟨_,rfl⟩
  obtain ⟨dE,HDE⟩: ∃q,Hid ((zez m l (d+x)).2=q):=⟨_,rfl⟩
  have hhE:(l.filter (· ≤m)).length=hE:=by
   have h1:=HPL.out;have h2:=HHE.out;have h3:=HH.out
   rw[HFS.out]at h3
   omega
  have hEN:hE≤N:=by
   have:=List.length_filter_le (fun x=>decide (x≤m)) l
   have:=HL.out
   omega
  have hgr:h<hE:=by
   have h1:=HMO.out;have h3:=HH.out
   rw[HFS.out]at h3
   omega
  have HFE:Hid ((l.filter (· <m+1)).length=hE):=by show _=_;rw[xvz];exact hhE
  obtain ⟨T,HT⟩: ∃q,Hid (yCz l f' (m+1) (dE+1) hE=q):=⟨_,rfl⟩
  have HE2:Hid (o++(zRz basic h bi ((zez m l (d+x)).1++T)).map zKz=zBz l):=by
   show _=_
   rw[←HE.out,HD.out,←HT.out,HHE.out,HDE.out]
  have hdE:dE≤61*m+60:=by have h1:=HPB.out;rw[HDE.out]at h1;exact h1
  have CTL:Hid (CS 299 #[.slice (some ⟨g,0,none⟩) N cap,.int .i64 (n:Int)] wr (.int .i64 (m:Int))):=ctl
  clear ctl HFS HMO HPL HPB HD HE hc1 hxb hhE
  go_wp2_with fail
  refine CTL.out.mono ?_
  rintro e w' ⟨rfl,rfl⟩
  go_wp2_with fail
  go_loopw[4,11,9,10,63] (fun v a c e i wi=> ∃(j d' h' b':Nat) (o':List Nat),a=.int .i64 h'∧c=.int .i64 d'∧e=.int .i64 b'∧i=.int .i64 j∧j≤N∧d'≤61*m+j∧b'≤2400∧h'+(zez m (l.drop j) d').1.length=hE∧(zez m (l.drop j) d').2=dE∧o'++(zRz basic h' b' ((zez m (l.drop j) d').1++T)).map zKz=zBz l∧wi.ownsRow w.heap.size 5 1 v o'.length (zcz (b8 o'))∧Below w.heap.size w wi)
   (fun _ _ _ _ i _=>N-(intOf i).toNat)
  case atStart=>exact ⟨0,d+x,h,bi,o,rfl,by go_num,rfl,rfl,Nat.zero_le _,by omega,hbi,HHE.out,HDE.out,HE2.out,hown,hbel⟩
  clear hown hbel hsz
  obtain ⟨j,d',h',b',o',rfl,rfl,rfl,rfl,hj,hd',hb',q1,q2,q3,hown,hbel⟩:=hrel
  have Q1:Hid (h'+(zez m (l.drop j) d').1.length=hE):=q1
  have Q2:Hid ((zez m (l.drop j) d').2=dE):=q2
  have Q3:Hid (o'++(zRz basic h' b' ((zez m (l.drop j) d').1++T)).map zKz=zBz l):=q3
  have hsz:=hbel.size
  have hh':h'≤hE:=by omega
  have hol':o'.length≤2000:=by
   have h1:=congrArg List.length Q3.out
   rw[List.length_append]at h1
   have:=v5z HOK.out
   omega
  clear q1 q2 q3
  by_cases hlj:j<N
  ·have ca:=vIz (zjz HW.out hbel) j hlj
   have HS:Hid (l.drop j=l.getD j 0::l.drop (j+1)):=jPz l j (by have:=HL.out;omega)
   generalize l.getD j 0=c at ca HS
   rcases Nat.lt_trichotomy c m with hc|hc|hc
   ·have EP:Hid (zez m (l.drop j) d'=zez m (l.drop (j+1)) (d'+1)):=by show _=_;rw[HS.out,zez,if_pos hc]
    rw[EP.out]at Q1 Q2 Q3
    have hci:(c:Int)<(m:Int):=by omega
    have hcn: ¬(c:Int)=(m:Int):=by omega
    go_wp2_with fail
    go_roundw
    case rel=>exact ⟨j+1,d'+1,h',b',o',rfl,by go_num,rfl,by go_num,by omega,by omega,hb',Q1.out,Q2.out,Q3.out,hown,hbel⟩
    case measure=>simp[intOf];omega
   ·subst hc
    have EP:Hid (zez c (l.drop j) d'=(d'::(zez c (l.drop (j+1)) 0).1,(zez c (l.drop (j+1)) 0).2)):=by show _=_;rw[HS.out,zez,if_neg (by omega),if_pos rfl]
    rw[EP.out]at Q1 Q2 Q3
    have Q4:Hid ((o'++(yiz 28 36 b' d').map zKz)++(zRz basic (h'+1) (zuz d' (h'+1) (h'==basic)) ((zez c (l.drop (j+1)) 0).1++T)).map zKz=zBz l):=by
     show _=_
     rw[←Q3.out]
     show _=o'++(yiz 28 36 b' d'++zRz basic (h'+1) (zuz d' (h'+1) (h'==basic)) ((zez c (l.drop (j+1)) 0).1++T)).map zKz
     rw[List.map_append,List.append_assoc]
    have Q5:Hid (h'+1+(zez c (l.drop (j+1)) 0).1.length=hE):=by
     show _=_
     have h1:=Q1.out
     simp only[List.length_cons]at h1
     omega
    have hh1:h'+1≤hE:=by have:=Q5.out;omega
    have cta:=fun (first:Bool) (W:World)=>vzz d' (h'+1) first W (by omega) (by omega) (by omega)
    have hal:=xnz d' (h'+1) (h'==basic)
    simp only[show ((h'+1:Nat):Int)=(h':Int)+1 by omega]at cta
    have CTA:Hid (∀(first:Bool) (W:World),CS 301 #[.int .i64 (d':Int),.int .i64 ((h':Int)+1),.bool first] W (.int .i64 (zuz d' (h'+1) first:Int))):=cta
    clear cta Q3 Q1
    by_cases hbq:h'=basic
    ·subst hbq
     rw[show (h'==h')=true by simp]at Q4 hal
     go_wp2_with fail
     refine (zbnz d' b' o' _ w.heap.size _ (by omega) (by omega) hown hsz (by omega)).mono ?_
     rintro e w1 ⟨v',rfl,own1,hb1⟩
     have B2:Below w.heap.size w w1:=hbel.trans hb1
     clear hb1 hown hbel
     go_wp2_with fail
     refine (CTA.out _ _).mono ?_
     rintro e w' ⟨rfl,rfl⟩
     go_wp2_with fail
     go_roundw
     case rel=>exact ⟨j+1,0,h'+1,_,_,by go_num,rfl,rfl,by go_num,by omega,by omega,hal,Q5.out,Q2.out,Q4.out,own1,B2⟩
     case measure=>simp[intOf];omega
    have hbi2:((h':Int)==(basic:Int))=false:=by simp;omega
    rw[show (h'==basic)=false by simpa using hbq]at Q4 hal
    clear hbq
    go_wp2_with fail
    refine (zbnz d' b' o' _ w.heap.size _ (by omega) (by omega) hown hsz (by omega)).mono ?_
    rintro e w1 ⟨v',rfl,own1,hb1⟩
    have B2:Below w.heap.size w w1:=hbel.trans hb1
    clear hb1 hown hbel
    go_wp2_with fail
    refine (CTA.out _ _).mono ?_
    rintro e w' ⟨rfl,rfl⟩
    go_wp2_with fail
    go_roundw
    case rel=>exact ⟨j+1,0,h'+1,_,_,by go_num,rfl,rfl,by go_num,by omega,by omega,hal,Q5.out,Q2.out,Q4.out,own1,B2⟩
    case measure=>simp[intOf];omega
   have EP:Hid (zez m (l.drop j) d'=zez m (l.drop (j+1)) d'):=by show _=_;rw[HS.out,zez,if_neg (by omega),if_neg (by omega)]
   rw[EP.out]at Q1 Q2 Q3
   have hci: ¬(c:Int)<(m:Int):=by omega
   have hcn: ¬(c:Int)=(m:Int):=by omega
   go_wp2_with fail
   go_roundw
   case rel=>exact ⟨j+1,d',h',b',o',rfl,rfl,rfl,by go_num,by omega,by omega,hb',Q1.out,Q2.out,Q3.out,hown,hbel⟩
   case measure=>simp[intOf];omega
  have HNI:Hid (l.drop j=[]):=List.drop_of_length_le (by have:=HL.out;omega)
  rw[HNI.out]at Q1 Q2 Q3
  have z1:h'=hE:=by have:=Q1.out;simpa[zez] using this
  have z2:d'=dE:=by have:=Q2.out;simpa[zez] using this
  have Q4:Hid (o'++(zRz basic hE b' (yCz l f' (m+1) (dE+1) hE)).map zKz=zBz l):=by
   show _=_
   rw[HT.out,←z1]
   exact Q3.out
  clear Q1 Q2 Q3
  subst z1 z2
  go_wp2_with fail
  go_roundw
  case rel=>exact ⟨f',m+1,d'+1,b',h',o',rfl,by go_num,by go_num,rfl,HFE.out,by omega,by omega,hb',by omega,Q4.out,hown,hbel⟩
  case measure=>simp[intOf];omega
 have HR:Hid (o=zBz l):=by
  show _=_
  have h1:=HE.out
  have h2:=zdqz l f n d basic bi (by have:=HL.out;have:=HH.out;omega)
  rw[HH.out]at h2
  rw[h2]at h1
  simpa using h1
 have hcv:=zzz (P:=Tryz.prog) wr 22 9 5 Tryz.underlying22 Tryz.underlying5 Tryz.underlying9 hown
 go_wp2_with fail
 go_ret2
 exact ⟨by rw[HR.out];rfl,hbel⟩
theorem zk2z(w:World)(q:Nat):Below w.heap.size w (w.drewN q):=⟨rfl,rfl,rfl,Nat.le_refl _,fun _ _=>rfl⟩
theorem zcWz(ao:Option Addr)(cap:Nat)(w:World):
  Calls Tryz.prog 292 #[.slice ao 0 cap] w fun e w'=>e=.returned (.tuple #[.string ⟨#[]⟩,.bool true])∧Below w.heap.size w w':=by
 have HO:=zzz (P:=Tryz.prog) (w.alloc (.cells #[] 5)) 22 9 5 Tryz.underlying22 Tryz.underlying5 Tryz.underlying9 (l:=[]) (World.ownsRow_lit w #[] 0 (Nat.le_refl _) (by decide) rfl)
 go_enter Tryz.func292,Tryz.ntmps292
 go_wp2_with fail
 refine (Tryz.slices_ContainsFunc_empty (α:=Int) _ _ _ _).mono ?_
 rintro e w2 ⟨rfl,rfl⟩
 go_wp2_with fail
 refine wp_loop_rounds 1 ?_
 rw[rounds_succ]
 go_wp2_with fail
 refine wp_loop_rounds 1 ?_
 rw[rounds_succ]
 go_wp2_with fail
 go_ret2
 exact ⟨rfl,(Below.refl _ _).alloc (Nat.le_refl _) _⟩
theorem zdYz(zl:List Int)(N g cap B:Nat)(w:World)(hno: ¬zfZz zl)(hN:zl.length=N)(hN1:N≤1048576)(hown0:w.ownsRow B 3 1 (.slice (some ⟨g,0,none⟩) N cap) N (zkz zl)):
  Calls Tryz.prog 292 #[.slice (some ⟨g,0,none⟩) N cap] w fun e w'=>e=.returned (.tuple #[.string ⟨#[]⟩,.bool false])∧Below w.heap.size w w':=by
 by_cases hbig:60<(N:Int)
 ·clear hno hN hown0
  go_enter Tryz.func292,Tryz.ntmps292
  go_wp2_with fail
  go_ret2
  exact ⟨rfl,Below.refl _ _⟩
 have e:zl.any (fun z=> !(vaz z))=true:=by
  refine Classical.byContradiction fun h=>hno ⟨by omega,fun z hz=> ?_⟩
  rw[Bool.not_eq_true,List.any_eq_false]at h
  have:=h z hz
  exact (zibz z).1 (by simpa using this)
 have h:=zgyz zl N g cap B w hN hN1 hown0
 rw[e]at h
 have CC:Hid (Calls Tryz.prog 297 #[.slice (some ⟨g,0,none⟩) N cap,.func (.func 298) #[] #[]] w fun e w'=>e=.returned (.bool true)∧ ∃q,w'=w.drewN q):=h
 clear hno hN hown0 e h
 go_enter Tryz.func292,Tryz.ntmps292
 go_wp2_with fail
 refine CC.out.mono ?_
 rintro e w2 ⟨rfl,q,hw2⟩
 have B0:Below w.heap.size w w2:=by rw[hw2];exact zk2z w q
 clear hw2 q
 go_wp2_with fail
 go_ret2
 exact ⟨rfl,B0⟩
end Go.Proofs.YtgcbaphbiaimoaaGreatDoor
namespace Go.Proofs.YtgcbaphbiaimoaaGreatDoor
open Go.RowKit
def zqZz(w:World)(ao:Option Addr)(n:Nat)(zl:List Int):Prop:=
 zl.length=n∧(n=0∨ ∃b off,ao=some ⟨b,off,none⟩∧b<w.heap.size∧ ∀i,i<n→w.cell? ⟨b,off+i,none⟩=some (.int .i64 (zl.getD i 0)))
theorem zqZz.below{w w':World}{ao:Option Addr}{n:Nat}{zl:List Int}(h:zqZz w ao n zl)(hb:Below w.heap.size w w'):zqZz w' ao n zl:=by
 refine ⟨h.1,?_⟩
 rcases h.2 with h0|⟨b,off,h1,h2,h3⟩
 ·exact .inl h0
 exact .inr ⟨b,off,h1,Nat.lt_of_lt_of_le h2 hb.size,fun i hi=>(hb.cell (p:=⟨b,off+i,none⟩) h2).trans (h3 i hi)⟩
theorem Tryz.infoInt:(Tryz.prog.info? 3).map (fun i=>(i.zero,i.size,i.bytes))=some (some (.int .i64 0),1,8):=by kernel_rfl
theorem zmfz(l:List Nat)(v:Value)(B:Nat)(w:World)(hk:yPz l=true)(h:w.ownsRow B 3 1 v l.length (icN l)):
  Calls Tryz.prog 189 #[v] w fun e w'=>e=.returned (.tuple #[.string ⟨(b8 (zBz l)).toArray⟩,.bool true])∧Below w.heap.size w w':=by
 rcases zpz h with ⟨h0,_,ao,cap,rfl⟩|⟨_,g,cap,rfl⟩
 ·have hl0:l=[]:=List.eq_nil_of_length_eq_zero h0
  subst hl0
  exact vgz ao cap w
 exact vfz l l.length g cap B w hk rfl h
end Go.Proofs.YtgcbaphbiaimoaaGreatDoor
namespace Go.Proofs.YtgcbaphbiaimoaaGreatDoor
open Go.RowKit Go.Shelf
theorem xZz(g:Nat)(e:TypeId): ∀(vs:List Value) (o:Nat) (w:World) (cur:Array Value),w.heap[g]? =some (.cells cur e (0,0))→o+vs.length≤cur.size→
  ∃cur':Array Value,(w.setCells g o vs).heap[g]? =some (.cells cur' e (0,0))∧cur'.toList=cur.toList.take o++(vs++cur.toList.drop (o+vs.length))
 |[],o,w,cur,h,_=>⟨cur,h,by simp⟩
 |v::r,o,w,cur,h,hl=>by
  rw[List.length_cons]at hl
  obtain ⟨cur',h1,h2⟩:=xZz g e r (o+1) (w.setCell ⟨g,o,none⟩ v) (cur.setIfInBounds o v) (heap_setCell_same w g o cur e v h) (by simp;omega)
  refine ⟨cur',h1,?_⟩
  rw[h2,Array.toList_setIfInBounds,List.drop_set_of_lt (by omega),List.take_set,List.length_cons,show o+(r.length+1)=o+1+r.length by omega]
  have hc:o<cur.toList.length:=by simp;omega
  rw[List.take_succ_eq_append_getElem hc,List.set_append_right _ _ (by simp;omega)]
  have e1:o-(cur.toList.take o).length=0:=by simp;omega
  rw[e1]
  simp
theorem xqz{B g:Nat}(hb:B≤g): ∀(vs:List Value) (o:Nat) (a w:World),Below B a w→Below B a (w.setCells g o vs)
 |[],_,_,_,h=>h
 |v::r,o,a,_,h=>xqz hb r (o+1) a _ (h.setCell (p:=⟨g,o,none⟩) hb v)
theorem zjiz(l:List Nat)(i x:Nat):icN (ypz i x l)=(icN l).take i++([Value.int .i64 (x:Int)]++(icN l).drop i):=by
 simp[icN,zkz,ypz]
theorem jVz(l:List Nat):(icN l).length=l.length:=by simp[icN,zkz]
theorem znFz(l:List Nat): ∀v∈icN l,v.oneCell'=true:=by
 intro v hv
 simp[icN,zkz]at hv
 obtain ⟨c,_,rfl⟩:=hv
 rfl
theorem znGz(l:List Nat)(x:Nat):icN (ypz l.length x l)=icN l++[Value.int .i64 (x:Int)]:=by
 have h:=jVz l
 rw[zjiz,List.take_of_length_le (by omega),List.drop_of_length_le (by omega),List.append_nil]
theorem zboz(z:Value)(n:Nat)(h:z.cells= #[z]):(Builtin.zeroCells z.cells n).size=n:=by
 rw[h]
 simp[Builtin.zeroCells]
theorem zaUz{α:Type}{c:Array α}{l:List α}(h:c.toList=l):c.size=l.length:=by rw[←h];simp
theorem zcXz(l:List Nat)(i x:Nat)(v:Value)(B:Nat)(w:World)(hown:w.ownsRow B 3 1 v l.length (icN l))(hB:B≤w.heap.size)(hi:i≤l.length)(hl:l.length≤1048576):
  Calls Tryz.prog 309 #[v,.int .i64 (i:Int),.slice (some ⟨w.heap.size,0,none⟩) 1 1] (w.alloc (.cells #[.int .i64 (x:Int)] 3)) fun e w'=>
   ∃v',e=.returned v'∧w'.ownsRow B 3 1 v' (l.length+1) (icN (ypz i x l))∧Below B w w':=by
 have hil:=jVz l
 have hlen:(icN (ypz i x l)).length=(l.length+1)*1:=by rw[jVz,zoz];omega
 obtain ⟨W,hW⟩: ∃W,w.alloc (.cells #[.int .i64 (x:Int)] 3)=W:=⟨_,rfl⟩
 have hsz:W.heap.size=w.heap.size+1:=by rw[←hW];simp
 have hnew:W.heap[w.heap.size]? =some (.cells #[.int .i64 (x:Int)] 3 (0,0)):=by rw[←hW];exact heap_alloc_new w _
 have hcell: ∀j u,[Value.int .i64 (x:Int)][j]? =some u→W.cell? ⟨w.heap.size,0+j,none⟩=some u:=by
  intro j u hj
  rw[Nat.zero_add,←hW,World.cell?_alloc_at _ _ _ _ rfl]
  simpa using hj
 have hone: ∀u∈[Value.int .i64 (x:Int)],u.oneCell'=true:=by
  intro u hu
  rw[List.mem_singleton.1 hu]
  rfl
 have hoW:W.ownsRow B 3 1 v l.length (icN l):=by rw[←hW];exact hown.alloc _
 have hbW:Below B w W:=by rw[←hW];exact (Below.refl B w).alloc hB _
 have hglt: ∀g cap,v=.slice (some ⟨g,0,none⟩) l.length cap→g≠w.heap.size:=by
  intro g cap hv
  rcases hown.2 with ⟨h0,_⟩|⟨g',cap',cur,hv',_,hg,_⟩
  ·rw[hv]at h0;cases h0
  rw[hv]at hv'
  injection hv' with h1
  injection h1 with h1
  injection h1 with h1
  subst h1
  have:=(Array.getElem?_eq_some_iff.1 hg).1
  omega
 rw[hW]
 rcases hoW.2 with ⟨rfl,h0⟩|⟨g,cap,cur,rfl,hb,hg,hnc,hcm,hcs,htake⟩
 ·
  have hl0:l=[]:=List.eq_nil_of_length_eq_zero h0
  subst hl0
  obtain rfl:i=0:=by simpa using hi
  refine (Any2.slices_Insert_int_end_grow Tryz.laysNm221 none 0 0 w.heap.size 0 1 1 [] [.int .i64 (x:Int)] W (by decide) (Nat.le_refl _) (by decide) (by decide) rfl rfl (fun _=>rfl) (fun a h=>by cases h) hcell hone).mono ?_
  rintro e w' ⟨rfl,rfl⟩
  have hc:1≤grownCap W 1 0 3:=grownCap_ge W 1 0 3
  refine ⟨_,rfl,⟨hlen,.inr ⟨W.heap.size,_,_,rfl,by omega,heap_alloc_new W.drew _,hc,grownCap_le_maxLen W _ _ _ (by unfold maxLen;omega),?_,?_⟩⟩,hbW.trans (((Below.refl B W).drew).alloc (by show B≤W.heap.size;omega) _)⟩
  ·show (([]++[Value.int .i64 (x:Int)]).toArray++Builtin.zeroCells (Value.int .i64 0).cells (grownCap W 1 0 3-1)).size=grownCap W 1 0 3*1
   rw[Array.size_append,zboz _ _ rfl]
   simp
   omega
  simp[icN,zkz,ypz]
 simp only[Nat.mul_one]at hcs htake
 have hgw:=hglt g cap rfl
 have hcells: ∀(j:Nat) (u:Value),(icN l)[j]? =some u→W.cell? ⟨g,0+j,none⟩=some u:=by
  intro j u hj
  rw[Nat.zero_add]
  have hjl:j<l.length:=by
   have:=(List.getElem?_eq_some_iff.1 hj).1
   omega
  rw[←htake,List.getElem?_take_of_lt hjl]at hj
  simp only[World.cell?,hg]
  simpa using hj
 have hsp: ∀j,j<cap→(W.cell? ⟨g,0+j,none⟩).isSome=true:=by
  intro j hj
  rw[Nat.zero_add]
  simp only[World.cell?,hg]
  simp[hcs,hj]
 have hfz: ∀j,W.frozen? ⟨g,0+j,none⟩=false:=fun j=>xxz hoW (0+j)
 have hcur:cur.toList.length=cap:=by simp[hcs]
 by_cases hroom:l.length+1≤cap
 ·by_cases hend:i=l.length
  ·subst hend
   refine (Any2.slices_Insert_int_end_room Tryz.laysNm221 g 0 l.length cap w.heap.size 0 1 1 [.int .i64 (x:Int)] W (by decide) hroom (by unfold maxLen at hcm;omega) rfl (fun j hj=>by rw[Nat.zero_add];simpa using hsp (l.length+j) (by omega)) (fun j _=>by have:=hfz (l.length+j);simpa using this) hcell hone).mono ?_
   rintro e w' ⟨rfl,rfl⟩
   obtain ⟨cur',h1,h2⟩:=xZz g 3 [.int .i64 (x:Int)] (0+l.length) W cur hg (by simp;omega)
   refine ⟨_,rfl,⟨hlen,.inr ⟨g,cap,cur',rfl,hb,h1,hroom,hcm,?_,?_⟩⟩,xqz hb _ _ _ _ hbW⟩
   ·rw[zaUz h2]
    simp
    omega
   rw[Nat.mul_one,h2,Nat.zero_add,htake,←List.append_assoc,List.take_left' (by simp[hil]),znGz]
  have hin:i<l.length:=by omega
  refine (Any2.slices_Insert_int_shift Tryz.laysNm221 g 0 l.length cap i w.heap.size 0 1 1 (icN l) [.int .i64 (x:Int)] W hin (by decide) hroom (by unfold maxLen at hcm;omega) hgw.symm hil rfl hcells (fun j hj=>hsp j (by omega)) (fun j _=>hfz j) hcell (znFz l) hone
   3 3 1 cap (by simp[World.shape?,hnew]) (by simp[World.shape?,hg,hcs]) (by omega) (by simp[World.frozen?,hnew]) (by simp[World.frozen?,hnew])).mono ?_
  rintro e w' ⟨rfl,rfl⟩
  have hdl:((icN l).drop i).length=l.length-i:=by rw[List.length_drop,hil]
  obtain ⟨c1,h1,h2⟩:=xZz g 3 ((icN l).drop i) (0+(i+1)) W.drew cur hg (by omega)
  have s1:c1.size=cap:=by rw[zaUz h2];simp;omega
  obtain ⟨c2,h3,h4⟩:=xZz g 3 [.int .i64 (x:Int)] (0+i) (W.drew.setCells g (0+(i+1)) ((icN l).drop i)) c1 h1 (by simp;omega)
  have t1:c1.toList.take i=(icN l).take i:=by
   rw[h2,List.take_append_of_le_length (by simp;omega),List.take_take,←htake,List.take_take]
   congr 1
   omega
  have t2:c1.toList.drop (i+1)=(icN l).drop i++cur.toList.drop (0+(i+1)+((icN l).drop i).length):=by
   rw[h2,List.drop_left' (by simp;omega)]
  have t3:c2.toList=icN (ypz i x l)++cur.toList.drop (0+(i+1)+((icN l).drop i).length):=by
   rw[h4,zjiz,Nat.zero_add]
   simp only[List.length_singleton]
   rw[t1,t2]
   simp
  refine ⟨_,rfl,⟨hlen,.inr ⟨g,cap,c2,rfl,hb,h3,hroom,hcm,?_,?_⟩⟩,xqz hb _ _ _ _ (xqz hb _ _ _ _ hbW.drew)⟩
  ·rw[zaUz h4]
   simp
   omega
  rw[Nat.mul_one,t3,List.take_left' (by rw[jVz,zoz])]
 by_cases hend:i=l.length
 ·subst hend
  refine (Any2.slices_Insert_int_end_grow Tryz.laysNm221 (some ⟨g,0,none⟩) l.length cap w.heap.size 0 1 1 (icN l) [.int .i64 (x:Int)] W (by decide) hnc (by omega) (by omega) hil rfl (fun h=>by cases h) (fun a ha j u hj=>by cases ha;rw[Addr.add_lit];exact hcells j u hj) hcell hone).mono ?_
  rintro e w' ⟨rfl,rfl⟩
  have hc:=grownCap_ge W (l.length+1) cap 3
  refine ⟨_,rfl,⟨hlen,.inr ⟨W.heap.size,_,_,rfl,by omega,heap_alloc_new W.drew _,hc,grownCap_le_maxLen W _ _ _ (by unfold maxLen;omega),?_,?_⟩⟩,hbW.trans (((Below.refl B W).drew).alloc (by show B≤W.heap.size;omega) _)⟩
  ·show ((icN l++[Value.int .i64 (x:Int)]).toArray++Builtin.zeroCells (Value.int .i64 0).cells (grownCap W (l.length+1) cap 3-(l.length+1))).size=grownCap W (l.length+1) cap 3*1
   rw[Array.size_append,zboz _ _ rfl]
   simp
   omega
  rw[Nat.mul_one,Array.toList_append,List.take_left' (by simp[hil]),znGz]
 have hin:i<l.length:=by omega
 have hct:=Any2.slices_Insert_int_grow Tryz.laysNm221 g 0 l.length cap i w.heap.size 0 1 1 (icN l) [.int .i64 (x:Int)] W hin (by decide) hnc (by omega) (by omega) hil rfl hcells hcell (znFz l) hone
 simp only[show Tryz.laysNm221_ren.t 3=3 from rfl]at hct
 refine hct.mono ?_
 rintro e w' ⟨rfl,rfl⟩
 have hdl:((icN l).drop i).length=l.length-i:=by rw[List.length_drop,hil]
 have hc:=grownCap_ge W (l.length+1) cap 3
 have hc2:=grownCap_le_maxLen W (l.length+1) cap 3 (by unfold maxLen;omega)
 have hlen0:(((icN l).take i).toArray++Builtin.zeroCells (Value.int .i64 0).cells (l.length+1-i)++Builtin.zeroCells (Value.int .i64 0).cells (grownCap W (l.length+1) cap 3-(l.length+1))).size=grownCap W (l.length+1) cap 3:=by
  rw[Array.size_append,Array.size_append,zboz _ _ rfl,zboz _ _ rfl]
  simp
  omega
 have htk:(((icN l).take i).toArray++Builtin.zeroCells (Value.int .i64 0).cells (l.length+1-i)++Builtin.zeroCells (Value.int .i64 0).cells (grownCap W (l.length+1) cap 3-(l.length+1))).toList.take i=(icN l).take i:=by
  rw[Array.toList_append,Array.toList_append,List.append_assoc,List.take_left' (by simp;omega)]
 generalize ((icN l).take i).toArray++Builtin.zeroCells (Value.int .i64 0).cells (l.length+1-i)++Builtin.zeroCells (Value.int .i64 0).cells (grownCap W (l.length+1) cap 3-(l.length+1))=c0 at hlen0 htk⊢
 generalize grownCap W (l.length+1) cap 3=gc at hc hc2 hlen0⊢
 obtain ⟨c1,h1,h2⟩:=xZz W.heap.size 3 [.int .i64 (x:Int)] i (W.alloc (.cells c0 3)).drew c0 (heap_alloc_new W _) (by simp;omega)
 have s1:c1.size=gc:=by rw[zaUz h2];simp;omega
 obtain ⟨c2,h3,h4⟩:=xZz W.heap.size 3 ((icN l).drop i) (i+1) ((W.alloc (.cells c0 3)).drew.setCells W.heap.size i [.int .i64 (x:Int)]).drew c1 h1 (by omega)
 have t1:c1.toList.take (i+1)=(icN l).take i++[Value.int .i64 (x:Int)]:=by
  rw[h2,htk,←List.append_assoc,List.take_left' (by simp;omega)]
 have t3:c2.toList=icN (ypz i x l)++c1.toList.drop (i+1+((icN l).drop i).length):=by
  rw[h4,zjiz,t1]
  simp
 refine ⟨_,rfl,⟨hlen,.inr ⟨W.heap.size,gc,c2,rfl,by omega,h3,hc,hc2,?_,?_⟩⟩,xqz (by omega) _ _ _ _ (Below.drew (xqz (by omega) _ _ _ _ (Below.drew (hbW.alloc (by omega) _))))⟩
 ·rw[zaUz h4]
  simp
  omega
 rw[Nat.mul_one,t3,List.take_left' (by rw[jVz,zoz])]
end Go.Proofs.YtgcbaphbiaimoaaGreatDoor
