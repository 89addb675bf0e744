/- DropDotsSpec, UrlSpec1, DotImpl, DropDotsImpl. -/
import Derived.Test.YtgcbaphbiaimoaaGreatDoorQP17
set_option maxHeartbeats 4000000
set_option maxRecDepth 100000
namespace Go.Proofs.YtgcbaphbiaimoaaGreatDoor
open Go.RowKit
theorem zl6z{p:ByteArray}(h0:0<p.size)(h:p[0].toNat=47):zVz p=true:=by
 unfold zVz
 have e:p.data.toList.head? =some p[0]:=by
  rw[List.head?_eq_getElem?,List.getElem?_eq_getElem (by simpa using h0)]
  rfl
 rw[e,UInt8.toNat_inj.1 (show p[0].toNat=(47:UInt8).toNat from h)]
 rfl
theorem zoIz{p:ByteArray}(h0:0<p.size)(h:p[0].toNat≠47):zVz p=false:=by
 unfold zVz
 have e:p.data.toList.head? =some p[0]:=by
  rw[List.head?_eq_getElem?,List.getElem?_eq_getElem (by simpa using h0)]
  rfl
 rw[e,beq_eq_false_iff_ne]
 intro e2
 exact h (by rw[Option.some.inj e2];rfl)
theorem zjaz{p:ByteArray}(h0:p.size=0):zVz p=false:=by
 unfold zVz
 rw[List.eq_nil_of_length_eq_zero (show p.data.toList.length=0 by simpa using h0)]
 rfl
theorem zgsz{p:ByteArray}(h:zVz p=false):zXz p=p:=by unfold zXz;rw[h];rfl
theorem zh8z{p:ByteArray}(h:zVz p=true):(⟨(slL (ykz (zDz p))).toArray⟩:ByteArray)=zXz p:=by unfold zXz;rw[h];rfl
def vwz(l:List ByteArray)(k:Nat):List ByteArray:=if k=l.length then ykz l else yQz (l.take k)
theorem zjbz{l:List ByteArray}{k:Nat}(h:k<l.length):vwz l k=yQz (l.take k):=by unfold vwz;rw[if_neg (by omega)]
theorem znvz(l:List ByteArray):vwz l l.length=ykz l:=by unfold vwz;rw[if_pos rfl]
theorem zqHz{l:List ByteArray}{k:Nat}(h:k+1=l.length):zbsz l=l.getD k ByteArray.empty:=by unfold zbsz;rw[←h];rfl
theorem zqIz{l:List ByteArray}{k:Nat}(h:k+1=l.length):yQz l=y2z (yQz (l.take k)) (l.getD k ByteArray.empty):=by
 rw[←zevz l k (by omega),h,List.take_length]
theorem zkLz{l:List ByteArray}{k:Nat}(h:k+1<l.length):vwz l (k+1)=y2z (vwz l k) (l.getD k ByteArray.empty):=by
 rw[zjbz h,zevz l k (by omega),zjbz (by omega)]
theorem zkMz{l:List ByteArray}{k:Nat}(h:k+1=l.length):vwz l (k+1)=if isd (toL (l.getD k ByteArray.empty))=0 then y2z (vwz l k) (l.getD k ByteArray.empty)else y2z (vwz l k) (l.getD k ByteArray.empty)++[ByteArray.empty]:=by
 rw[h,znvz]
 unfold ykz
 rw[zqHz h,zqIz h,zjbz (show k<l.length by omega)]
theorem zl7z(l:List ByteArray)(k:Nat):(vwz l k).length≤l.length:=by
 unfold vwz
 split
 ·exact zbQz l
 exact Nat.le_trans (zeRz _) (by rw[List.length_take];omega)
theorem zqJz{l:List ByteArray}{k:Nat}{x:ByteArray}(hk:k<l.length)(hx:l.getD k ByteArray.empty=x)(h:isd x.data.toList=0):vwz l (k+1)=vwz l k++[x]:=by
 by_cases hl:k+1=l.length
 ·rw[zkMz hl,hx,if_pos (show isd (toL x)=0 from h),zcgz h]
 rw[zkLz (by omega),hx,zcgz h]
theorem zsyz{l:List ByteArray}{k:Nat}{x:ByteArray}(hk:k<l.length)(hx:l.getD k ByteArray.empty=x)(h:isd x.data.toList≠0):vwz l (k+1)=y2z (vwz l k) x++(if k+1=l.length then [ByteArray.empty]else []):=by
 by_cases hl:k+1=l.length
 ·rw[if_pos hl,zkMz hl,hx,if_neg (show ¬isd (toL x)=0 from h)]
 rw[if_neg hl,zkLz (by omega),hx,List.append_nil]
theorem zdPz{w1:World}{B:Nat}{v:Value}{e:TypeId}{o:List ByteArray}{x:ByteArray}{m:Nat}(hm:m=o.length)(h:w1.ownsRow B e 1 v (m+1) (zrz o++ #[Value.string x].toList)):w1.ownsRow B e 1 v (o++[x]).length (zrz (o++[x])):=by
 subst hm
 rw[vXz,List.length_append]
 exact h
theorem zqKz{l:List ByteArray}{k:Nat}(hk:k<l.length){z y:ByteArray}(hz:z.data.toList=slL (l.take k))(hy:l.getD k ByteArray.empty=y):((z++(⟨#[47]⟩:ByteArray))++y).data.toList=slL (l.take (k+1)):=by
 rw[zcKz l k hk,hy,zsrz,←hz]
 simp[toL]
theorem znwz{l:List ByteArray}{k n:Nat}{z:ByteArray}(h:z.data.toList=slL (l.take k))(hl:(slL l).length≤n):z.size≤n:=by
 have h1:=zssz l k
 rw[←h]at h1
 have h2:z.data.toList.length=z.size:=by simp
 omega
theorem zhaz(p:ByteArray)(w:World)(hs:p.size≤16777216):
  Calls Tryz.prog 42 #[.string p] w fun e w'=>e=.returned (.string (zXz p))∧Below w.heap.size w w':=by
 by_cases h0:p.size=0
 ·have HD:Hid (p=zXz p):=(zgsz (zjaz h0)).symm
  have he:=zsz h0
  go_enter Tryz.func42,Tryz.ntmps42
  go_wp2
  go_ret
  exact ⟨zUz HD.out,Below.refl _ _⟩
 have he:=zvz (show 0<p.size by omega)
 by_cases h47:p[0].toNat=47
 ·have hr:=zl6z (by omega) h47
  have HD:Hid ((⟨(slL (ykz (zDz p))).toArray⟩:ByteArray)=zXz p):=zh8z hr
  have hpl:=zbkz hr
  have hlp:=zetz hr
  have hll:(zDz p).length≤16777217:=by
   rw[hpl]
   have h1:=(yAz (p.extract 1 p.size) 47 (p.extract 1 p.size).size).2
   have h2:(p.extract 1 p.size).size≤p.size:=by rw[ByteArray.size_extract];omega
   unfold zaz
   rw[List.length_append,List.length_singleton]
   omega
  have hxs: ∀j,((zDz p).getD j ByteArray.empty).size≤16777216:=fun j=>by
   by_cases hj:j<(zDz p).length
   ·have hm:(zDz p).getD j ByteArray.empty∈zDz p:=by
     rw[List.getD_eq_getElem?_getD,List.getElem?_eq_getElem hj]
     exact List.getElem_mem hj
    generalize (zDz p).getD j ByteArray.empty=y at hm
    rw[hpl]at hm
    have h1:=vQz _ _ _ hm
    rw[ByteArray.size_extract]at h1
    omega
   rw[List.getD_eq_getElem?_getD,List.getElem?_eq_none (by omega)]
   decide
  have hkz:(slL (ykz (zDz p))).length≤16777216:=by
   have h1:=zeuz (zDz p)
   rw[zdFz hr]at h1
   have h2:p.data.toList.length=p.size:=by simp
   omega
  have CF:Hid (∀W,Calls Tryz.prog 93 #[.string (p.extract 1 p.size),.int .u8 47] W fun e w'=> ∃v,e=.returned v∧w'.ownsRow W.heap.size 9 1 v (zDz p).length (zrz (zDz p))∧Below W.heap.size W w'):=fun W=>by
   have h1:=zeIz (p.extract 1 p.size) 47 W (by rw[ByteArray.size_extract];omega)
   rw[←hpl]at h1
   exact h1
  clear hpl
  generalize zDz p=l at HD hlp hll hxs hkz CF
  have HX:Hid (∀j,(l.getD j ByteArray.empty).size≤16777216):=hxs
  clear hxs hr
  go_enter Tryz.func42,Tryz.ntmps42
  go_wp2_with fail
  refine (CF.out _).mono ?_
  rintro e wa ⟨va,rfl,oa,ba⟩
  have za:=ba.size
  rcases zpz oa with ⟨h,_⟩|⟨_,g,cp,rfl⟩
  ·omega
  have hglt:=(oa.lt g rfl).2
  have HC:Hid (∀j,j<l.length→wa.cell? ⟨g,j,none⟩=some (.string (l.getD j ByteArray.empty))):=fun j hj=>z0z oa j hj
  clear oa
  go_wp2_with fail
  go_loopw[4,5] (fun o i wr=> ∃k:Nat,k≤l.length∧i=.int .i64 k∧wr.ownsRow wa.heap.size 9 1 o (vwz l k).length (zrz (vwz l k))∧Below wa.heap.size wa wr)
   (fun _ i _=>l.length-(intOf i).toNat)
  case atStart=>exact ⟨0,Nat.zero_le _,rfl,by rw[zjbz hlp];exact World.ownsRow_lit wa #[] 0 (Nat.le_refl _) (by decide) rfl,(Below.refl _ _).alloc (Nat.le_refl _) _⟩
  obtain ⟨k,hk,rfl,hown,hbel⟩:=hrel
  have hsz:=hbel.size
  have hcl:=zl7z l k
  by_cases hlt:k<l.length
  ·have hcell:wr.cell? ⟨g,k,none⟩=some (.string (l.getD k ByteArray.empty)):=by
    rw[zeAz (hbel.block g hglt) k]
    exact HC.out k hlt
   have hx1:=HX.out k
   obtain ⟨x,hx⟩: ∃x,l.getD k ByteArray.empty=x:=⟨_,rfl⟩
   rw[hx]at hcell hx1
   have hxi:(x.size:Int)≤16777216:=by omega
   have HXE:Hid (l.getD k ByteArray.empty=x):=hx
   have hd:=zlXz x.data.toList
   have CI:Hid (∀W,CS 94 #[.string x] W (.int .i64 (isd x.data.toList:Int))):=fun W=>zl5z x W hx1
   clear hx
   by_cases d0:isd x.data.toList=0
   ·have HN:Hid (vwz l (k+1)=vwz l k++[x]):=zqJz hlt HXE.out d0
    rw[d0]at CI
    clear d0 hd
    obtain ⟨O,hO⟩: ∃O,vwz l k=O:=⟨_,rfl⟩
    rw[hO]at hown hcl HN
    clear hO
    go_wp2_with fail
    refine (CI.out _).mono ?_
    rintro e w' ⟨rfl,rfl⟩
    go_wp2_with (at_builtin;refine zbz _ rfl _ _ 86 rfl wa.heap.size 9 (.string ⟨#[]⟩) 16 Tryz.underlying86 Tryz.infoStr rfl _ _ _ rfl hown #[.string x] 1 rfl rfl (vPz _) (by omega) (by unfold maxLen;omega) (by omega) ?_)
    intro v' w1 hown' hb1
    have B1:Below wa.heap.size wa w1:=hbel.trans hb1
    clear hb1 hbel
    go_wp2
    go_roundw
    case rel=>exact ⟨k+1,by omega,by go_num,by rw[HN.out];exact zdPz rfl hown',B1⟩
    case measure=>simp[intOf];omega
   have HD2:Hid (vwz l (k+1)=y2z (vwz l k) x++(if k+1=l.length then [ByteArray.empty]else [])):=zsyz hlt HXE.out d0
   obtain ⟨O,hO⟩: ∃O,vwz l k=O:=⟨_,rfl⟩
   rw[hO]at hown hcl HD2
   clear hO
   by_cases d2:isd x.data.toList=2
   ·rw[zkzz d2]at HD2
    rw[d2]at CI
    clear d0 d2 hd
    rcases zpz hown with ⟨hl,hnil,ao,cap,rfl⟩|⟨hl,b,cap,rfl⟩
    ·have hO:O.take (O.length-1)=O:=List.take_of_length_le (by omega)
     rw[hO]at HD2
     clear hO
     have HO0:Hid (O.length=0):=hl
     have hown2:wr.ownsRow wa.heap.size 9 1 (.slice ao 0 cap) 0 (zrz O):=by have h5:=hown;rw[hl]at h5;exact h5
     clear hnil
     by_cases hla:k+1=l.length
     ·rw[if_pos hla]at HD2
      have HN:Hid (vwz l (k+1)=O++[ByteArray.empty]):=HD2.out
      have hki:(((k:Int):Int)==(l.length:Int)-1)=true:=by rw[beq_iff_eq];omega
      clear hla HD2 hown hl
      go_wp2_with fail
      refine (CI.out _).mono ?_
      rintro e w' ⟨rfl,rfl⟩
      go_wp2_with (at_builtin;refine zbz _ rfl _ _ 86 rfl wa.heap.size 9 (.string ⟨#[]⟩) 16 Tryz.underlying86 Tryz.infoStr rfl _ _ _ rfl hown2 #[.string ⟨#[]⟩] 1 rfl rfl (vPz _) (by omega) (by unfold maxLen;omega) (by omega) ?_)
      intro v' w1 hown' hb1
      have B1:Below wa.heap.size wa w1:=hbel.trans hb1
      clear hb1 hbel
      go_wp2
      go_roundw
      case rel=>exact ⟨k+1,by omega,by go_num,by rw[HN.out];exact zdPz HO0.out.symm hown',B1⟩
      case measure=>simp[intOf];omega
     rw[if_neg hla,List.append_nil]at HD2
     have HN:Hid (vwz l (k+1)=O):=HD2.out
     have hki:(((k:Int):Int)==(l.length:Int)-1)=false:=by rw[beq_eq_false_iff_ne];omega
     clear hla HD2 hl
     go_wp2_with fail
     refine (CI.out _).mono ?_
     rintro e w' ⟨rfl,rfl⟩
     go_wp2
     go_roundw
     case rel=>exact ⟨k+1,by omega,by go_num,by rw[HN.out];exact hown,hbel⟩
     case measure=>simp[intOf];omega
    have hcap:=joz hown
    have hown2:=zbAz hown (O.length-1) (by omega)
    rw[v1z]at hown2
    have HL:Hid (O.length-1=(O.take (O.length-1)).length):=by show _=_;rw[List.length_take];omega
    by_cases hla:k+1=l.length
    ·rw[if_pos hla]at HD2
     have HN:Hid (vwz l (k+1)=O.take (O.length-1)++[ByteArray.empty]):=HD2.out
     have hki:(((k:Int):Int)==(l.length:Int)-1)=true:=by rw[beq_iff_eq];omega
     clear hla HD2 hown
     go_wp2_with fail
     refine (CI.out _).mono ?_
     rintro e w' ⟨rfl,rfl⟩
     go_wp2_with (at_builtin;refine zbz _ rfl _ _ 86 rfl wa.heap.size 9 (.string ⟨#[]⟩) 16 Tryz.underlying86 Tryz.infoStr rfl _ _ _ rfl hown2 #[.string ⟨#[]⟩] 1 rfl rfl (vPz _) (by omega) (by unfold maxLen;omega) (by omega) ?_)
     intro v' w1 hown' hb1
     have B1:Below wa.heap.size wa w1:=hbel.trans hb1
     clear hb1 hbel
     go_wp2
     go_roundw
     case rel=>exact ⟨k+1,by omega,by go_num,by rw[HN.out];exact zdPz HL.out hown',B1⟩
     case measure=>simp[intOf];omega
    rw[if_neg hla,List.append_nil]at HD2
    have HN:Hid (vwz l (k+1)=O.take (O.length-1)):=HD2.out
    have hki:(((k:Int):Int)==(l.length:Int)-1)=false:=by rw[beq_eq_false_iff_ne];omega
    have hown3:wr.ownsRow wa.heap.size 9 1 (.slice (some ⟨b,0,none⟩) (O.length-1) cap) (O.take (O.length-1)).length (zrz (O.take (O.length-1))):=by rw[←HL.out];exact hown2
    clear hla HD2 hown hown2
    go_wp2_with fail
    refine (CI.out _).mono ?_
    rintro e w' ⟨rfl,rfl⟩
    go_wp2
    go_roundw
    case rel=>exact ⟨k+1,by omega,by go_num,by rw[HN.out];exact hown3,hbel⟩
    case measure=>simp[intOf];omega
   have d1:isd x.data.toList=1:=by omega
   rw[zkyz d1]at HD2
   rw[d1]at CI
   clear d0 d2 d1 hd
   by_cases hla:k+1=l.length
   ·rw[if_pos hla]at HD2
    have HN:Hid (vwz l (k+1)=O++[ByteArray.empty]):=HD2.out
    have hki:(((k:Int):Int)==(l.length:Int)-1)=true:=by rw[beq_iff_eq];omega
    clear hla HD2
    go_wp2_with fail
    refine (CI.out _).mono ?_
    rintro e w' ⟨rfl,rfl⟩
    go_wp2_with (at_builtin;refine zbz _ rfl _ _ 86 rfl wa.heap.size 9 (.string ⟨#[]⟩) 16 Tryz.underlying86 Tryz.infoStr rfl _ _ _ rfl hown #[.string ⟨#[]⟩] 1 rfl rfl (vPz _) (by omega) (by unfold maxLen;omega) (by omega) ?_)
    intro v' w1 hown' hb1
    have B1:Below wa.heap.size wa w1:=hbel.trans hb1
    clear hb1 hbel
    go_wp2
    go_roundw
    case rel=>exact ⟨k+1,by omega,by go_num,by rw[HN.out];exact zdPz rfl hown',B1⟩
    case measure=>simp[intOf];omega
   rw[if_neg hla,List.append_nil]at HD2
   have HN:Hid (vwz l (k+1)=O):=HD2.out
   have hki:(((k:Int):Int)==(l.length:Int)-1)=false:=by rw[beq_eq_false_iff_ne];omega
   clear hla HD2
   go_wp2_with fail
   refine (CI.out _).mono ?_
   rintro e w' ⟨rfl,rfl⟩
   go_wp2
   go_roundw
   case rel=>exact ⟨k+1,by omega,by go_num,by rw[HN.out];exact hown,hbel⟩
   case measure=>simp[intOf];omega
  have hke:k=l.length:=by omega
  rw[hke,znvz]at hown
  clear hcl
  have hKn:=zi7z hlp
  have hKl:=zbQz l
  generalize ykz l=K at hown hKn hKl HD hkz
  have HK:Hid (K≠[]):=hKn
  clear hKn
  rcases zpz hown with ⟨h,_⟩|⟨hK0,b,cap,rfl⟩
  ·exact absurd (List.eq_nil_of_length_eq_zero h) HK.out
  have HCK:Hid (∀j,j<K.length→wr.cell? ⟨b,j,none⟩=some (.string (K.getD j ByteArray.empty))):=fun j hj=>z0z hown j hj
  have hcap:=joz hown
  have BW:Below w.heap.size w wr:=ba.trans (hbel.mono za)
  clear hown hbel hke
  go_wp2_with fail
  go_loop[7,8] (fun t i=> ∃(k:Nat) (z:ByteArray),k≤K.length∧i=.int .i64 k∧t=.string z∧z.data.toList=slL (K.take k)) (fun _ i=>K.length-(intOf i).toNat)
  case atStart=>exact ⟨0,⟨#[]⟩,Nat.zero_le _,rfl,rfl,rfl⟩
  obtain ⟨j,z,hj,rfl,rfl,hz⟩:=hrel
  have HZ:Hid (z.data.toList=slL (K.take j)):=hz
  have hzs:=znwz hz hkz
  clear hz
  by_cases hjl:j<K.length
  ·have hc:=HCK.out j hjl
   obtain ⟨y,hy⟩: ∃y,K.getD j ByteArray.empty=y:=⟨_,rfl⟩
   rw[hy]at hc
   have HN:Hid (((z++(⟨#[47]⟩:ByteArray))++y).data.toList=slL (K.take (j+1))):=zqKz hjl HZ.out hy
   have hns:=znwz HN.out hkz
   have hd1:(⟨#[47]⟩:ByteArray).size=1:=rfl
   have hys:y.size≤16777216:=by rw[ByteArray.size_append,ByteArray.size_append,hd1]at hns;omega
   clear hy hns
   go_wp2_with fail
   go_round
   case rel=>exact ⟨j+1,_,by omega,by go_num,rfl,HN.out⟩
   case measure=>simp[intOf];omega
  have HE:Hid (z=zXz p):=by
   show _=_
   rw[←HD.out]
   apply zIz
   show z.data.toList=_
   rw[HZ.out,List.take_of_length_le (by omega)]
   rfl
  go_wp2
  go_ret
  exact ⟨zUz HE.out,BW⟩
 have HD:Hid (p=zXz p):=(zgsz (zoIz (by omega) h47)).symm
 go_enter Tryz.func42,Tryz.ntmps42
 go_wp2
 go_ret
 exact ⟨zUz HD.out,Below.refl _ _⟩
theorem znxz{c:UInt8}(h:c.toNat=47∨c.toNat=92):slB c=true:=by
 unfold slB
 rcases h with h|h
 ·rw[UInt8.toNat_inj.1 (show c.toNat=(47:UInt8).toNat from h)];rfl
 rw[UInt8.toNat_inj.1 (show c.toNat=(92:UInt8).toNat from h)];rfl
theorem ztJz{c:UInt8}(h1:c.toNat≠47)(h2:c.toNat≠92):slB c=false:=by
 unfold slB
 rw[Bool.or_eq_false_iff,beq_eq_false_iff_ne,beq_eq_false_iff_ne]
 exact ⟨fun e=>h1 (by rw[e];rfl),fun e=>h2 (by rw[e];rfl)⟩
theorem zaTz(c:UInt8)(d:Nat)(hd:c.toNat=d)(w:World):
  Calls Tryz.prog 53 #[.int .u8 (d:Int)] w fun e w'=>e=.returned (.bool (slB c))∧w=w':=by
 by_cases h1:d=47
 ·have HS:Hid (slB c=true):=znxz (by omega)
  subst h1
  clear hd
  go_enter Tryz.func53,Tryz.ntmps53
  go_wp2
  go_ret
  exact ⟨zgz HS.out.symm,rfl⟩
 have q1:((d:Int)==47)=false:=beq_eq_false_iff_ne.2 (by omega)
 by_cases h2:d=92
 ·have HS:Hid (slB c=true):=znxz (by omega)
  subst h2
  clear hd
  go_enter Tryz.func53,Tryz.ntmps53
  go_wp2
  go_ret
  exact ⟨zgz HS.out.symm,rfl⟩
 have q2:((d:Int)==92)=false:=beq_eq_false_iff_ne.2 (by omega)
 have HS:Hid (slB c=false):=ztJz (by omega) (by omega)
 clear hd h1 h2
 go_enter Tryz.func53,Tryz.ntmps53
 go_wp2
 go_ret
 exact ⟨zgz HS.out.symm,rfl⟩
def clL(l:List UInt8):List UInt8:=(l.takeWhile fun c=>c !=35).filter fun c=>c !=9&&c !=10&&c !=13
theorem zszz{c:UInt8}(h:c.toNat=35)(r:List UInt8):clL (c::r)=[]:=by
 rw[UInt8.toNat_inj.1 (show c.toNat=(35:UInt8).toNat from h)]
 rfl
theorem zkNz{c:UInt8}{n:UInt8}(h:c.toNat≠n.toNat):(c !=n)=true:=by
 rw[bne_iff_ne]
 intro e
 exact h (by rw[e])
theorem zsAz{c:UInt8}(h:c.toNat=9∨c.toNat=10∨c.toNat=13)(r:List UInt8):clL (c::r)=clL r:=by
 unfold clL
 rw[List.takeWhile_cons,if_pos (zkNz (n:=35) (by show c.toNat≠35;omega)),List.filter_cons,if_neg]
 rcases h with h|h|h
 ·rw[UInt8.toNat_inj.1 (show c.toNat=(9:UInt8).toNat from h)];decide
 ·rw[UInt8.toNat_inj.1 (show c.toNat=(10:UInt8).toNat from h)];decide
 rw[UInt8.toNat_inj.1 (show c.toNat=(13:UInt8).toNat from h)];decide
theorem zsBz{c:UInt8}(h0:c.toNat≠35)(h1:c.toNat≠9)(h2:c.toNat≠10)(h3:c.toNat≠13)(r:List UInt8):clL (c::r)=c::clL r:=by
 unfold clL
 rw[List.takeWhile_cons,if_pos (zkNz (n:=35) h0),List.filter_cons,if_pos]
 rw[zkNz (n:=9) h1,zkNz (n:=10) h2,zkNz (n:=13) h3]
 rfl
theorem zoJz(s:ByteArray)(w:World)(hs:s.size≤1048576):
  Calls Tryz.prog 51 #[.string s] w fun e w'=>e=.returned (.string ⟨(ySz s.data.toList).toArray⟩)∧Below w.heap.size w w':=by
 have hts:(⟨(Lib.trimS s.data.toList z1z).toArray⟩:ByteArray).size≤1048576:=by
  have h1:=zdMz s.data.toList z1z
  have h2:(⟨(Lib.trimS s.data.toList z1z).toArray⟩:ByteArray).size=(Lib.trimS s.data.toList z1z).length:=List.size_toArray
  have h3:s.data.toList.length=s.size:=by simp
  omega
 have HF:Hid (ySz s.data.toList=clL (⟨(Lib.trimS s.data.toList z1z).toArray⟩:ByteArray).data.toList):=rfl
 have CT:Hid (∀W,CS 112 #[.string s] W (.string ⟨(Lib.trimS s.data.toList z1z).toArray⟩)):=fun W=>zqxz s W (by omega)
 generalize (⟨(Lib.trimS s.data.toList z1z).toArray⟩:ByteArray)=t at hts HF CT
 go_enter Tryz.func51,Tryz.ntmps51
 go_wp2_with fail
 refine (CT.out _).mono ?_
 rintro e w' ⟨rfl,rfl⟩
 go_wp2_with fail
 go_loopw[3,5] (fun b i wr=> ∃(k:Nat) (o:List UInt8),k≤t.size∧i=.int .i64 k∧o.length≤k∧wr.ownsRow w.heap.size 5 1 b o.length (zcz o)∧o++clL (t.data.toList.drop k)=clL t.data.toList∧Below w.heap.size w wr)
  (fun _ i _=>t.size-(intOf i).toNat)
 case atStart=>exact ⟨0,[],Nat.zero_le _,rfl,Nat.zero_le _,World.ownsRow_lit w #[] 0 (Nat.le_refl _) (by decide) rfl,rfl,(Below.refl _ _).alloc (Nat.le_refl _) _⟩
 obtain ⟨k,o,hk,rfl,hol,hown,he,hbel⟩:=hrel
 have HE:Hid (o++clL (t.data.toList.drop k)=clL t.data.toList):=he
 clear he
 have hsz:=hbel.size
 by_cases hlt:k<t.size
 ·have hdr:=xHz t k hlt
  rw[hdr]at HE
  clear hdr
  obtain ⟨d,hd⟩: ∃d:Nat,t[k].toNat=d:=⟨_,rfl⟩
  have hd2:d<256:=by rw[←hd];exact t[k].toNat_lt
  by_cases h35:d=35
  ·have HN:Hid (o=clL t.data.toList):=by show _=_;rw[←HE.out,zszz (by omega),List.append_nil]
   have HO:=zzz (P:=Tryz.prog) wr 22 9 5 Tryz.underlying22 Tryz.underlying5 Tryz.underlying9 hown
   subst h35
   go_wp2
   go_ret
   exact ⟨j2z (HN.out.trans HF.out.symm),hbel⟩
  have q35:((d:Int) !=35)=true:=bne_iff_ne.2 (by omega)
  by_cases hw:d=9∨d=10∨d=13
  ·have HN:Hid (o++clL (t.data.toList.drop (k+1))=clL t.data.toList):=by show _=_;rw[←HE.out,zsAz (by omega)]
   rcases hw with h|h|h
   all_goals
    subst h
    go_wp2
    go_roundw
    case rel=>exact ⟨k+1,o,by omega,by go_num,by omega,hown,HN.out,hbel⟩
    case measure=>simp[intOf];omega
  have HN:Hid ((o++[t[k]])++clL (t.data.toList.drop (k+1))=clL t.data.toList):=by show _=_;rw[←HE.out,zsBz (by omega) (by omega) (by omega) (by omega)];simp
  have q9:((d:Int) !=9)=true:=bne_iff_ne.2 (by omega)
  have q10:((d:Int) !=10)=true:=bne_iff_ne.2 (by omega)
  have q13:((d:Int) !=13)=true:=bne_iff_ne.2 (by omega)
  have HD:Hid ((d:Int)=(t[k].toNat:Int)):=by show _=_;omega
  clear hw h35
  go_wp2_with (at_builtin;refine zbz _ rfl _ _ 22 rfl w.heap.size 5 (.int .u8 0) 1 Tryz.underlying22 Tryz.info5 rfl _ _ _ rfl hown #[.int .u8 (d:Int)] 1 rfl rfl (x9z _) (by omega) (by unfold maxLen;omega) (by omega) ?_)
  intro v' w1 hown' hb1
  have R:=x8z t[k] HD.out hown'
  have B1:Below w.heap.size w w1:=hbel.trans hb1
  clear hown' hb1 hown hbel
  go_wp2
  go_roundw
  case rel=>exact ⟨k+1,_,by omega,by go_num,by simp;omega,R,HN.out,B1⟩
  case measure=>simp[intOf];omega
 have HN:Hid (o=clL t.data.toList):=by
  show _=_
  rw[←HE.out,List.drop_of_length_le (by simp;omega)]
  simp[clL]
 have HO:=zzz (P:=Tryz.prog) wr 22 9 5 Tryz.underlying22 Tryz.underlying5 Tryz.underlying9 hown
 go_wp2
 go_ret
 exact ⟨j2z (HN.out.trans HF.out.symm),hbel⟩
def zdQz(c:UInt8):UInt8:=if c=92 then 47 else c
def xcz(l:List UInt8)(k:Nat):List UInt8:=(l.take k).map zdQz++l.drop k
theorem zkOz(l:List UInt8):xcz l 0=l:=by simp[xcz]
theorem zcAz(l:List UInt8)(k:Nat):(xcz l k).length=l.length:=by simp[xcz];omega
theorem zh9z(s:ByteArray)(k:Nat)(h:k<s.size)(h':k<(xcz s.data.toList k).length):(xcz s.data.toList k)[k]=s[k]:=by
 have hk:k<s.data.toList.length:=by simpa using h
 have e:(xcz s.data.toList k)[k]? =some s[k]:=by
  unfold xcz
  rw[List.getElem?_append_right (by simp;omega)]
  simp only[List.length_map,List.length_take,Nat.min_eq_left (Nat.le_of_lt hk),Nat.sub_self,List.getElem?_drop,Nat.add_zero]
  rw[List.getElem?_eq_getElem hk]
  rfl
 rw[List.getElem?_eq_getElem h']at e
 exact Option.some.inj e
theorem zeUz(s:ByteArray)(k:Nat)(h:k<s.size):(xcz s.data.toList k).set k (zdQz s[k])=xcz s.data.toList (k+1):=by
 have hk:k<s.data.toList.length:=by simpa using h
 unfold xcz
 rw[List.set_append_right _ _ (by simp;omega)]
 rw[xez s k h,List.drop_eq_getElem_cons hk]
 simp[Nat.min_eq_left (Nat.le_of_lt h)]
theorem zkPz(s:ByteArray)(k:Nat)(h:k<s.size)(hc:zdQz s[k]=s[k]):xcz s.data.toList k=xcz s.data.toList (k+1):=by
 rw[←zeUz s k h,hc]
 have h':k<(xcz s.data.toList k).length:=by rw[zcAz];simpa using h
 rw[←zh9z s k h h',List.set_getElem_self]
theorem zl8z(s:ByteArray)(k:Nat)(h:s.size≤k):xcz s.data.toList k=yRz s.data.toList:=by
 unfold xcz yRz
 rw[ynz s k h,List.drop_eq_nil_of_le (by simp;omega),List.append_nil]
 rfl
theorem vxz(l:List UInt8):(yRz l).length=l.length:=by simp[yRz]
theorem zqLz(s:ByteArray)(w:World)(hs:s.size≤4194304):
  Calls Tryz.prog 117 #[.string s] w fun e w'=>e=.returned (.string (zXz (plB 1 ⟨(yRz s.data.toList).toArray⟩)))∧Below w.heap.size w w':=by
 obtain ⟨cap,hcap⟩: ∃cap,grownCap w s.size 0 5=cap:=⟨_,rfl⟩
 have hconv:=run_bytes_of_string w 9 22 5 s Tryz.underlying9 Tryz.underlying22 Tryz.underlying5
 rw[hcap]at hconv
 have hmade:=zc5z w s cap 5
 generalize hC:bytesRow s cap=C at hconv hmade
 clear hC hcap
 have hbs:(⟨(yRz s.data.toList).toArray⟩:ByteArray).size≤4194304:=by
  show (yRz s.data.toList).toArray.size≤_
  rw[List.size_toArray,vxz]
  simpa using hs
 have CP:Hid (∀W,CB 41 #[.string ⟨(yRz s.data.toList).toArray⟩,.int .i64 1] W (.string (plB 1 ⟨(yRz s.data.toList).toArray⟩))):=fun W=>zeTz ⟨(yRz s.data.toList).toArray⟩ 1 W (by omega)
 have hps:(plB 1 ⟨(yRz s.data.toList).toArray⟩).size≤16777216:=by
  show (plL 1 (yRz s.data.toList)).toArray.size≤_
  rw[List.size_toArray]
  have h1:=zlyz 1 (yRz s.data.toList)
  rw[vxz]at h1
  have h2:s.data.toList.length=s.size:=by simp
  omega
 have CD:Hid (∀W,CB 42 #[.string (plB 1 ⟨(yRz s.data.toList).toArray⟩)] W (.string (zXz (plB 1 ⟨(yRz s.data.toList).toArray⟩)))):=fun W=>zhaz _ W hps
 generalize plB 1 ⟨(yRz s.data.toList).toArray⟩=T at CP CD hps
 go_enter Tryz.func117,Tryz.ntmps117
 go_wp2_with fail
 go_loopw[4] (fun i wr=> ∃k:Nat,k≤s.size∧i=.int .i64 k∧vOz wr w.heap.size (xcz s.data.toList k)∧Below w.heap.size w wr)
  (fun i _=>s.size-(intOf i).toNat)
 case atStart=>exact ⟨0,Nat.zero_le _,rfl,by rw[zkOz];exact hmade,((Below.refl _ _).alloc (Nat.le_refl _) _).drew⟩
 obtain ⟨k,hk,rfl,hat,hbel⟩:=hrel
 clear hmade hconv
 by_cases hlt:k<s.size
 ·have hl:k<(xcz s.data.toList k).length:=by rw[zcAz];simpa using hlt
  obtain ⟨hc,hf⟩:=hat k hl
  rw[zh9z s k hlt hl]at hc
  obtain ⟨d,hd⟩: ∃d:Nat,s[k].toNat=d:=⟨_,rfl⟩
  rw[hd]at hc
  by_cases h92:d=92
  ·have HB:Hid (zdQz s[k]=47):=by
    show _=_
    unfold zdQz
    rw[if_pos (UInt8.toNat_inj.1 (show s[k].toNat=(92:UInt8).toNat from hd.trans h92))]
   have HS:=zeUz s k hlt
   have HSS:Hid ((xcz s.data.toList k).set k (zdQz s[k])=xcz s.data.toList (k+1)):=HS
   subst h92
   clear HS hd
   go_wp2
   go_roundw
   case rel=>
    refine ⟨k+1,by omega,by go_num,?_,hbel.setCell (Nat.le_refl _) _⟩
    rw[←HSS.out]
    exact hat.set k hl (zdQz s[k]) (by rw[HB.out];rfl)
   case measure=>simp[intOf];omega
  have q92:((d:Int)==92)=false:=beq_eq_false_iff_ne.2 (by omega)
  have HB:Hid (zdQz s[k]=s[k]):=by
   show _=_
   unfold zdQz
   rw[if_neg]
   intro e
   exact h92 (by rw[←hd,e];rfl)
  have HK:Hid (xcz s.data.toList k=xcz s.data.toList (k+1)):=zkPz s k hlt HB.out
  clear hd h92
  go_wp2
  go_roundw
  case rel=>exact ⟨k+1,by omega,by go_num,by rw[←HK.out];exact hat,hbel⟩
  case measure=>simp[intOf];omega
 rw[zl8z s k (by omega)]at hat
 have HO:=zcqz (P:=Tryz.prog) wr 22 9 5 Tryz.underlying22 Tryz.underlying5 Tryz.underlying9 (n:=s.size) (cap:=cap) (by rw[vxz];simp) hat
 generalize (⟨(yRz s.data.toList).toArray⟩:ByteArray)=Z at HO CP hbs
 go_wp2_with fail
 refine (CP.out _).mono ?_
 rintro e wa ⟨rfl,ba⟩
 have Ba:Below w.heap.size w wa:=hbel.trans (ba.mono hbel.size)
 clear ba hbel
 go_wp2_with fail
 refine (CD.out _).mono ?_
 rintro e wb ⟨rfl,bb⟩
 have Bb:Below w.heap.size w wb:=Ba.trans (bb.mono Ba.size)
 clear bb Ba
 go_wp2
 go_ret
 exact ⟨rfl,Bb⟩
def colZ(l:List UInt8):Int:=match vDz l with
 |none=> -1
 |some k=>(k:Int)
theorem zoKz{s:ByteArray}{k:Nat}(hk:k<s.size)(h:s[k].toNat=93):xpz s.data.toList (k+1)=k:=by
 unfold xpz
 rw[if_pos]
 rw[j5z s k hk]
 exact UInt8.toNat_inj.1 h
theorem zl9z{s:ByteArray}{k:Nat}(hk:k<s.size)(h:s[k].toNat≠93):xpz s.data.toList (k+1)=xpz s.data.toList k:=by
 conv=>lhs;unfold xpz
 rw[if_neg]
 rw[j5z s k hk]
 intro e
 exact h (by rw[e];rfl)
theorem zgtz(l:List UInt8): ∀k,xpz l k≤k
 |0=>Nat.le_refl _
 |k+1=>by
  have:=zgtz l k
  unfold xpz
  split<;>omega
theorem zoLz{c:UInt8}{r:List UInt8}(h:c.toNat≠58):(c::r).findIdx? (fun c=>c==58)=(r.findIdx? fun c=>c==58).map (· +1):=by
 rw[List.findIdx?_cons,if_neg]
 intro e
 rw[beq_iff_eq]at e
 exact h (by rw[e];rfl)
theorem zqMz{c:UInt8}{r:List UInt8}(h:c.toNat=58):(c::r).findIdx? (fun c=>c==58)=some 0:=by
 rw[List.findIdx?_cons,if_pos]
 rw[beq_iff_eq]
 exact UInt8.toNat_inj.1 h
theorem zsCz{s:ByteArray}{j:Nat}(hj:j<s.size)(h:s[j].toNat=58)(he:vDz s.data.toList=((s.data.toList.drop j).findIdx? fun c=>c==58).map (· +j)):(j:Int)=colZ s.data.toList:=by
 unfold colZ
 rw[he,xHz s j hj,zqMz h]
 simp
theorem zqNz{s:ByteArray}{j:Nat}(hj:j<s.size)(h:s[j].toNat≠58)(he:vDz s.data.toList=((s.data.toList.drop j).findIdx? fun c=>c==58).map (· +j)):vDz s.data.toList=((s.data.toList.drop (j+1)).findIdx? fun c=>c==58).map (· +(j+1)):=by
 rw[he,xHz s j hj,zoLz h,Option.map_map]
 congr 1
 funext x
 show x+1+j=_
 omega
theorem zsDz{s:ByteArray}{j:Nat}(hj:s.size≤j)(he:vDz s.data.toList=((s.data.toList.drop j).findIdx? fun c=>c==58).map (· +j)):(-1:Int)=colZ s.data.toList:=by
 unfold colZ
 rw[he,List.drop_of_length_le (by simpa using hj)]
 rfl
theorem zqOz(s:ByteArray)(w:World)(hs:s.size≤1048576):
  Calls Tryz.prog 56 #[.string s] w fun e w'=>e=.returned (.int .i64 (colZ s.data.toList))∧w=w':=by
 go_enter Tryz.func56,Tryz.ntmps56
 go_wp2
 go_loop[3,4] (fun f i=> ∃k:Nat,k≤s.size∧i=.int .i64 k∧f=.int .i64 (xpz s.data.toList k)) (fun _ i=>s.size-(intOf i).toNat)
 case atStart=>exact ⟨0,Nat.zero_le _,rfl,rfl⟩
 obtain ⟨k,hk,rfl,rfl⟩:=hrel
 have hlb:=zgtz s.data.toList k
 by_cases hlt:k<s.size
 ·obtain ⟨d,hd⟩: ∃d:Nat,s[k].toNat=d:=⟨_,rfl⟩
  by_cases h93:d=93
  ·have HN:Hid (xpz s.data.toList (k+1)=k):=zoKz hlt (by omega)
   subst h93
   go_wp2
   go_round
   case rel=>exact ⟨k+1,by omega,by go_num,by rw[HN.out]⟩
   case measure=>simp[intOf];omega
  have q:((d:Int)==93)=false:=beq_eq_false_iff_ne.2 (by omega)
  have HN:Hid (xpz s.data.toList (k+1)=xpz s.data.toList k):=zl9z hlt (by omega)
  clear h93
  go_wp2
  go_round
  case rel=>exact ⟨k+1,by omega,by go_num,by rw[HN.out]⟩
  case measure=>simp[intOf];omega
 have hke:k=s.size:=by omega
 rw[hke]
 have hle:=zgtz s.data.toList s.size
 have HC:Hid (vDz s.data.toList=((s.data.toList.drop (xpz s.data.toList s.size)).findIdx? fun c=>c==58).map (· +xpz s.data.toList s.size)):=by
  show _=_
  unfold vDz
  rw[show s.data.toList.length=s.size by simp]
 clear hlb hlt hke hk
 generalize xpz s.data.toList s.size=F at hle HC
 go_wp2_with fail
 go_loop[5] (fun i=> ∃j:Nat,j≤s.size∧i=.int .i64 j∧vDz s.data.toList=((s.data.toList.drop j).findIdx? fun c=>c==58).map (· +j)) (fun i=>s.size-(intOf i).toNat)
 case atStart=>exact ⟨F,hle,rfl,HC.out⟩
 obtain ⟨j,hj,rfl,he⟩:=hrel
 have HE:Hid (vDz s.data.toList=((s.data.toList.drop j).findIdx? fun c=>c==58).map (· +j)):=he
 clear he
 by_cases hlt:j<s.size
 ·obtain ⟨d,hd⟩: ∃d:Nat,s[j].toNat=d:=⟨_,rfl⟩
  by_cases h58:d=58
  ·have HN:Hid ((j:Int)=colZ s.data.toList):=zsCz hlt (by omega) HE.out
   subst h58
   go_wp2
   go_ret
   exact ⟨znz HN.out,rfl⟩
  have q:((d:Int)==58)=false:=beq_eq_false_iff_ne.2 (by omega)
  have HN:=zqNz hlt (by omega) HE.out
  have HM:Hid (vDz s.data.toList=((s.data.toList.drop (j+1)).findIdx? fun c=>c==58).map (· +(j+1))):=HN
  clear HN h58
  go_wp2
  go_round
  case rel=>exact ⟨j+1,by omega,by go_num,HM.out⟩
  case measure=>simp[intOf];omega
 have HN:Hid ((-1:Int)=colZ s.data.toList):=zsDz (by omega) HE.out
 go_wp2
 go_ret
 exact ⟨znz HN.out,rfl⟩
theorem zsEz{l:List UInt8}(h:unL l=[46]):isd l=1:=by unfold isd;rw[if_pos h]
theorem zsFz{l:List UInt8}(h:unL l=[46,46]):isd l=2:=by unfold isd;rw[h];decide
theorem zqPz{l:List UInt8}(h1: ¬unL l=[46])(h2: ¬unL l=[46,46]):isd l=0:=by unfold isd;rw[if_neg h1,if_neg h2]
theorem zeBz{u:ByteArray}{l:List UInt8}(h:u.data.toList=l):(u.toList==l)=true:=by rw[ByteArray.toList_eq,h];exact beq_self_eq_true _
theorem zeCz{u:ByteArray}{l:List UInt8}(h: ¬u.data.toList=l):(u.toList==l)=false:=by
 rw[ByteArray.toList_eq]
 exact beq_eq_false_iff_ne.2 h
theorem zkQz(b:UInt8)(ls:List ByteArray):Lib.join (ls.map (·.data.toList)) [b]=jn b ls:=by
 cases ls with
 |nil=>rfl
 |cons x xs=>
  unfold jn
  induction xs generalizing x with
  |nil=>simp[Lib.join,List.intercalate]
  |cons y ys ih=>
   have h:=ih y
   simp only[Lib.join,List.intercalate,List.map_cons]at h⊢
   rw[List.intersperse_cons_cons,List.flatten_cons,List.flatten_cons,h,List.flatMap_cons]
   simp
theorem zguz(s:ByteArray)(w:World)(hs:s.size≤16777216):
  Calls Tryz.prog 136 #[.string s] w fun e w'=>e=.returned (.int .i64 (isd s.data.toList:Int))∧Below w.heap.size w w':=by
 go_enter Tryz.func136,Tryz.ntmps136
 go_wp2_with fail
 refine (zcyz s _ (by omega)).mono ?_
 rintro e wa ⟨rfl,ba⟩
 obtain ⟨u,hu⟩: ∃u:ByteArray,u=⟨(unL s.data.toList).toArray⟩:=⟨_,rfl⟩
 have hd:u.data.toList=unL s.data.toList:=by rw[hu]
 rw[←hu]
 clear hu
 have HD:Hid (u.data.toList=unL s.data.toList):=hd
 by_cases h1:unL s.data.toList=[46]
 ·have h:=zeBz (hd.trans h1)
  have HI:Hid (isd s.data.toList=1):=zsEz h1
  clear hd h1
  go_wp2
  go_ret
  exact ⟨znz (by rw[HI.out];rfl),ba⟩
 have hx1:=zeCz (u:=u) (l:=[46]) (by rw[hd];exact h1)
 by_cases h2:unL s.data.toList=[46,46]
 ·have h:=zeBz (hd.trans h2)
  have HI:Hid (isd s.data.toList=2):=zsFz h2
  clear hd h1 h2
  go_wp2
  go_ret
  exact ⟨znz (by rw[HI.out];rfl),ba⟩
 have hx2:=zeCz (u:=u) (l:=[46,46]) (by rw[hd];exact h2)
 have HI:Hid (isd s.data.toList=0):=zqPz h1 h2
 clear hd h1 h2
 go_wp2
 go_ret
 exact ⟨znz (by rw[HI.out];rfl),ba⟩
theorem zkRz(n0 B g:Nat)(out:List ByteArray)(x:ByteArray)(w:World)(hx:x.size≤16777216)(hlen:out.length≤16777217)(hgB:g≠B)(hB:n0≤B)(h:vFz 86 9 n0 B g out w):
  Calls Tryz.prog 183 #[.string x,.pointer (some ⟨B,0,none⟩)] w fun e w'=>e=.returned (.tuple #[])∧vFz 86 9 n0 B g (y2z out x) w'∧w'.heap[g]? =w.heap[g]? ∧Below n0 w w':=by
 have hBs:B<w.heap.size:=by obtain ⟨v,h1,_⟩:=h;exact h1.lt
 go_enter Tryz.func183,Tryz.ntmps183
 go_wp2_with fail
 refine (zguz x _ hx).mono ?_
 rintro e wa ⟨rfl,ba⟩
 have za:=ba.size
 have ha:=zbUz h ba
 have hg0:wa.heap[g]? =w.heap[g]? :=by obtain ⟨v,_,_,_,h4⟩:=h;exact ba.block g h4
 have hbel:Below n0 w wa:=ba.mono (by omega)
 clear h ba
 have hn:=zlXz x.data.toList
 obtain ⟨v,h1,h2,h3,h4⟩:=ha
 have hc:=h1.cell
 have hf:=h1.frozen
 have HG:Hid (wa.heap[g]? =w.heap[g]?):=hg0
 clear hg0
 by_cases d0:isd x.data.toList=0
 ·have HS:Hid (y2z out x=out++[x]):=zcgz d0
  have e0:((isd x.data.toList:Int)==0)=true:=by rw[d0];rfl
  clear d0 hn
  go_wp2_with (at_builtin;refine yTz _ rfl _ _ 86 rfl n0 9 (.string ⟨#[]⟩) 16 Tryz.underlying86 Tryz.infoStr rfl _ _ _ rfl h2 #[.string x] 1 rfl rfl (vPz _) (by omega) (by unfold maxLen;omega) (by omega) ?_)
  intro v' w1 o hgr hat
  obtain ⟨k1,k2,k3,k4⟩:=zoGz (by decide) hgB hB (by omega) h1 h2 h3 h4 o hgr hat
  obtain ⟨b',cp',rfl⟩:=ownsRow_succ o
  have hf1:=k1.frozen
  have hc1:=k1.cell
  clear h1 h2 h3 h4 hc hf o hgr hat
  go_wp2
  go_end0
  exact ⟨rfl,by rw[HS.out];exact k2,k3.trans HG.out,hbel.trans k4⟩
 have e0:((isd x.data.toList:Int)==0)=false:=by rw[beq_eq_false_iff_ne];omega
 by_cases d2:isd x.data.toList=2
 ·have HS:Hid (y2z out x=out.take (out.length-1)):=zkzz d2
  have e2:((isd x.data.toList:Int)==2)=true:=by rw[d2];rfl
  clear d0 d2 hn
  rcases zpz h2 with ⟨hl,hnil,ao,cap,rfl⟩|⟨hl,b,cap,rfl⟩
  ·go_wp2
   go_end0
   refine ⟨rfl,?_,HG.out,hbel⟩
   rw[HS.out,hl,List.take_of_length_le (by omega)]
   exact ⟨_,h1,h2,h3,h4⟩
  obtain ⟨k2,k3,k4⟩:=zoHz (by decide) (out.length-1) (by omega) hgB hB h1 h2 h3 h4
  have hcap:=joz h2
  clear h1 h2 h3 h4
  go_wp2
  go_end0
  exact ⟨rfl,by rw[HS.out];exact k2,k3.trans HG.out,hbel.trans k4⟩
 have HS:Hid (y2z out x=out):=zkyz (by show isd x.data.toList=1;omega)
 have e2:((isd x.data.toList:Int)==2)=false:=by rw[beq_eq_false_iff_ne];omega
 clear d0 d2 hn
 go_wp2
 go_end0
 exact ⟨rfl,by rw[HS.out];exact ⟨v,h1,h2,h3,h4⟩,HG.out,hbel⟩
theorem zdRz(n0 B g:Nat)(out:List ByteArray)(w:World)(hne:out≠[])(hlen:(out.length:Int)≤16777217)(hsz:((slL out).length:Int)≤16777217)(h:vFz 86 9 n0 B g out w):
  Calls Tryz.prog 184 #[.pointer (some ⟨B,0,none⟩)] w fun e w'=>e=.returned (.string ⟨(slL out).toArray⟩)∧Below w.heap.size w w':=by
 obtain ⟨v,h1,h2,h3,h4⟩:=h
 have hc:=h1.cell
 have hs:=sl_jn out hne
 have hjl:(slL out).length=(jn 47 out).length+1:=by rw[hs];rfl
 have HS:Hid (slL out=47::jn 47 out):=hs
 clear hs
 rcases zpz h2 with ⟨hl,_⟩|⟨hl,b,cap,rfl⟩
 ·exact absurd (List.eq_nil_of_length_eq_zero hl) hne
 have CJ:=Tryz.strings_Join b 0 cap out ⟨#[47]⟩ w (fun j x hj=>by
    have hjl:j<out.length:=(List.getElem?_eq_some_iff.1 hj).1
    rw[Nat.zero_add,z0z h2 j hjl,List.getD_eq_getElem?_getD,hj]
    rfl) (h2.lt b rfl).2 (by omega) (joz h2) (by
    rw[show (⟨#[47]⟩:ByteArray).data.toList=[47] from rfl,zkQz];omega)
 rw[show (⟨#[47]⟩:ByteArray).data.toList=[47] from rfl,zkQz]at CJ
 have CJ:Hid (CB 185 #[.slice (some ⟨b,0,none⟩) out.length cap,.string ⟨#[47]⟩] w (.string ⟨(jn 47 out).toArray⟩)):=CJ
 have hT:(⟨(jn 47 out).toArray⟩:ByteArray).size=(jn 47 out).length:=List.size_toArray
 have HF:Hid ((⟨#[47]⟩:ByteArray)++(⟨(jn 47 out).toArray⟩:ByteArray)=⟨(slL out).toArray⟩):=by show _=_;rw[zlxz,←HS.out]
 clear h1 h2 h3 h4
 generalize (⟨(jn 47 out).toArray⟩:ByteArray)=T at CJ hT HF
 have hTs:T.size≤16777217:=by omega
 clear hT hjl
 go_enter Tryz.func184,Tryz.ntmps184
 go_wp2_with fail
 refine CJ.out.mono ?_
 rintro e wa ⟨rfl,ba⟩
 go_wp2
 go_ret
 exact ⟨zUz HF.out,ba⟩
theorem zcBz(p:ByteArray):Lib.hasPrefix p.data.toList (⟨#[47]⟩:ByteArray).data.toList=zVz p:=by
 unfold Lib.hasPrefix zVz
 show List.isPrefixOf [47] p.data.toList=_
 cases p.data.toList with
 |nil=>rfl
 |cons a r=>
  simp only[List.isPrefixOf,List.head?_cons,Bool.and_true]
  rw[Bool.eq_iff_iff]
  simp only[beq_iff_eq,Option.some.injEq]
  exact eq_comm
theorem zsGz{tb te:TypeId}{w:World}: ∃v,Boxed (((w.alloc (.cells #[] te)).alloc (.cells #[.slice (some ⟨w.heap.size,0,none⟩) 0 0] tb))) (w.heap.size+1) tb v∧(((w.alloc (.cells #[] te)).alloc (.cells #[.slice (some ⟨w.heap.size,0,none⟩) 0 0] tb))).ownsRow w.heap.size te 1 v 0 []:=by
 refine ⟨.slice (some ⟨w.heap.size,0,none⟩) 0 0,?_,?_⟩
 ·have h:=Boxed.new (w.alloc (.cells #[] te)) tb (.slice (some ⟨w.heap.size,0,none⟩) 0 0)
  rwa[World.size_alloc]at h
 exact (World.ownsRow_lit w #[] 0 (Nat.le_refl _) (by decide) rfl).alloc _
theorem zkSz(w:World):
  Calls Tryz.prog 134 #[] w fun e w'=>e=.returned (.tuple #[.func (.func 183) #[] #[.pointer (some ⟨w.heap.size+1,0,none⟩)],.func (.func 184) #[] #[.pointer (some ⟨w.heap.size+1,0,none⟩)]])∧
   (∃v,Boxed w' (w.heap.size+1) 86 v∧w'.ownsRow w.heap.size 9 1 v 0 [])∧w'.heap.size=w.heap.size+2∧Below w.heap.size w w':=by
 have hmf: ∀(fn:Fn) (first cap:Array Value) (w:World),(Instr.makeFunc fn first cap).run Tryz.prog w=.ok (.func fn first cap) w:=fun _ _ _ _=>rfl
 go_enter Tryz.func134,Tryz.ntmps134
 go_wp2
 go_ret2
 refine ⟨rfl,zsGz,by simp,((Below.refl _ w).alloc (Nat.le_refl _) _).alloc (by simp) _⟩
theorem zoMz{l:List ByteArray}(h:isd (toL (zbsz l))=0):yQz l=ykz l:=by unfold ykz;rw[if_pos h]
theorem zqQz{l:List ByteArray}(h:isd (toL (zbsz l))≠0):y2z (yQz l) ⟨#[]⟩=ykz l:=by
 unfold ykz
 rw[if_neg h,zcgz (show isd (toL (⟨#[]⟩:ByteArray))=0 from zftz)]
 rfl
theorem zcCz(p:ByteArray)(w:World)(hs:p.size≤16777216):
  Calls Tryz.prog 85 #[.string p] w fun e w'=>e=.returned (.string (zXz p))∧Below w.heap.size w w':=by
 have CP:Hid (∀W,CS 83 #[.string p,.string ⟨#[47]⟩] W (.bool (zVz p))):=fun W=>
  (Tryz.strings_HasPrefix p ⟨#[47]⟩ W).mono fun e w' h=>⟨by rw[h.1,zcBz],h.2.symm⟩
 cases hr:zVz p with
 |false=>
  have HD:Hid (p=zXz p):=(zgsz hr).symm
  rw[hr]at CP
  clear hr
  go_enter Tryz.func85,Tryz.ntmps85
  go_wp2_with fail
  refine (CP.out _).mono ?_
  rintro e w' ⟨rfl,rfl⟩
  go_wp2_with fail
  refine (zbzz _ _ (by omega)).mono ?_
  rintro e wa ⟨rfl,ba⟩
  go_wp2
  go_ret
  exact ⟨zUz HD.out,ba⟩
 |true=>
  rw[hr]at CP
  have HD:Hid ((⟨(slL (ykz (zDz p))).toArray⟩:ByteArray)=zXz p):=zh8z hr
  have hfp:=zdEz hr
  have hlp:=zetz hr
  have hll:(zDz p).length≤16777217:=by
   have h1:=(yAz p 47 p.size).2
   have h2:(zaz p 47).length=(zDz p).length+1:=by rw[hfp];rfl
   unfold zaz at h2
   rw[List.length_append,List.length_singleton]at h2
   omega
  have hxs: ∀j,j<(zDz p).length→((zDz p).getD j ByteArray.empty).size≤16777216:=fun j hj=>by
   have hm:(zDz p).getD j ByteArray.empty∈zaz p 47:=by
    rw[hfp,List.getD_eq_getElem?_getD,List.getElem?_eq_getElem hj]
    exact List.mem_cons_of_mem _ (List.getElem_mem hj)
   have h1:=vQz _ _ _ hm
   omega
  have hkz:((slL (ykz (zDz p))).length:Int)≤16777217:=by
   have h1:=zeuz (zDz p)
   rw[zdFz hr]at h1
   have h2:p.data.toList.length=p.size:=by simp
   omega
  have CF:Hid (∀W,Calls Tryz.prog 135 #[.string p,.int .u8 47] W fun e w'=> ∃v,e=.returned v∧w'.ownsRow W.heap.size 9 1 v ((zDz p).length+1) (zrz (ByteArray.empty::zDz p))∧Below W.heap.size W w'):=fun W=>by
   have h1:=zeJz p 47 W hs
   rw[hfp]at h1
   exact h1
  clear hfp hr
  generalize zDz p=l at HD hlp hll hxs hkz CF
  have HX:Hid (∀j,j<l.length→(l.getD j ByteArray.empty).size≤16777216):=hxs
  have HKZ:Hid (((slL (ykz l)).length:Int)≤16777217):=hkz
  clear hxs hkz
  go_enter Tryz.func85,Tryz.ntmps85
  go_wp2_with fail
  refine (CP.out _).mono ?_
  rintro e w' ⟨rfl,rfl⟩
  go_wp2_with fail
  refine (zkSz _).mono ?_
  rintro e wa ⟨rfl,⟨v0,hb0,ho0⟩,za,ba⟩
  go_wp2_with fail
  refine (CF.out _).mono ?_
  rintro e wb ⟨vb,rfl,ob,bb⟩
  have zb:=bb.size
  rcases zpz ob with ⟨h,_⟩|⟨_,g,cp,rfl⟩
  ·omega
  have hglt:=ob.lt g rfl
  have hcap:=joz ob
  have HC:Hid (∀j,j<l.length→wb.cell? ⟨g,j+1,none⟩=some (.string (l.getD j ByteArray.empty))):=fun j hj=>by
   have h1:=z0z ob (j+1) (by omega)
   rw[h1]
   rfl
  have hgB:g≠w.heap.size+1:=by omega
  have K0:vFz 86 9 w.heap.size (w.heap.size+1) g [] wb:=by
   refine ⟨v0,zh7z hb0 bb,?_,?_,hglt.2⟩
   ·exact ho0.kept (zgrz bb) (by cases hv:v0.ownBlock<;>simp)
   intro e
   have:=(ho0.lt g e.symm).2
   omega
  have B0:Below w.heap.size w wb:=ba.trans (bb.mono (by omega))
  clear ob hb0 ho0 ba bb
  have hl0:0<(l.length:Int):=by omega
  have HG:Hid (wa.heap.size≤g∧g<wb.heap.size):=hglt
  have HK0:Hid (vFz 86 9 w.heap.size (w.heap.size+1) g [] wb):=K0
  have HB0:Hid (Below w.heap.size w wb):=B0
  have HGB:Hid (g≠w.heap.size+1):=hgB
  clear hglt K0 B0 hgB
  go_wp2_with fail
  go_loopw[22] (fun i wr=> ∃k:Nat,k≤l.length∧i=.int .i64 k∧vFz 86 9 w.heap.size (w.heap.size+1) g (yQz (l.take k)) wr∧wr.heap[g]? =wb.heap[g]? ∧Below w.heap.size w wr)
   (fun i _=>l.length-(intOf i).toNat)
  case atStart=>exact ⟨0,Nat.zero_le _,rfl,HK0.out,rfl,HB0.out⟩
  obtain ⟨k,hk,rfl,hkeep,hgs,hbel⟩:=hrel
  have HKP:Hid (vFz 86 9 w.heap.size (w.heap.size+1) g (yQz (l.take k)) wr):=hkeep
  have HGS:Hid (wr.heap[g]? =wb.heap[g]?):=hgs
  have HBL:Hid (Below w.heap.size w wr):=hbel
  have hfl:(yQz (l.take k)).length≤16777217:=by
   have h1:=zeRz (l.take k)
   rw[List.length_take]at h1
   omega
  clear hkeep hgs hbel
  by_cases hlt:k<l.length
  ·have hc:wr.cell? ⟨g,1+k,none⟩=some (.string (l.getD k ByteArray.empty)):=by
    rw[zeAz HGS.out,Nat.add_comm 1 k]
    exact HC.out k hlt
   have hx:=HX.out k hlt
   have HF:Hid (yQz (l.take (k+1))=y2z (yQz (l.take k)) (l.getD k ByteArray.empty)):=zevz l k hlt
   generalize l.getD k ByteArray.empty=x at hc hx HF
   have hxi:(x.size:Int)≤16777216:=by omega
   go_wp2_with fail
   refine (zkRz w.heap.size (w.heap.size+1) g (yQz (l.take k)) x wr hx hfl HGB.out (by omega) HKP.out).mono ?_
   rintro e wc ⟨rfl,kc,gc,bc⟩
   have KC:Hid (vFz 86 9 w.heap.size (w.heap.size+1) g (yQz (l.take (k+1))) wc):=by show vFz _ _ _ _ _ _ _;rw[HF.out];exact kc
   have GC:Hid (wc.heap[g]? =wb.heap[g]?):=gc.trans HGS.out
   have BC:Hid (Below w.heap.size w wc):=HBL.out.trans bc
   clear kc gc bc
   go_wp2_with fail
   go_roundw
   case rel=>exact ⟨k+1,by omega,by go_num,KC.out,GC.out,BC.out⟩
   case measure=>simp[intOf];omega
  have hke:k=l.length:=by omega
  rw[hke,List.take_length]at HKP
  rw[hke,List.take_length]at hfl
  have hc:wr.cell? ⟨g,1+(l.length-1),none⟩=some (.string (zbsz l)):=by
   rw[zeAz HGS.out,Nat.add_comm 1 _]
   exact HC.out (l.length-1) (by omega)
  have hx:(zbsz l).size≤16777216:=HX.out (l.length-1) (by omega)
  have HZ:Hid (∀h:isd (toL (zbsz l))=0,yQz l=ykz l):=zoMz
  have HT:Hid (∀h:isd (toL (zbsz l))≠0,y2z (yQz l) ⟨#[]⟩=ykz l):=zqQz
  have HKN:Hid (ykz l≠[]):=zi7z hlp
  have HKL:Hid (((ykz l).length:Int)≤16777217):=by
   show _≤_
   have:=zbQz l
   omega
  generalize zbsz l=x at hc hx HZ HT
  have CI:Hid (∀W,CB 136 #[.string x] W (.int .i64 (isd x.data.toList:Int))):=fun W=>zguz x W hx
  have hd:=zlXz x.data.toList
  clear hke
  by_cases d0:isd x.data.toList=0
  ·have HN:Hid (yQz l=ykz l):=HZ.out d0
   have hdi: ¬0<(isd x.data.toList:Int):=by omega
   clear d0 HZ HT hd
   go_wp2_with fail
   refine (CI.out _).mono ?_
   rintro e wc ⟨rfl,bc⟩
   have zc:=bc.size
   have KC:Hid (vFz 86 9 w.heap.size (w.heap.size+1) g (ykz l) wc):=by show vFz _ _ _ _ _ _ _;rw[←HN.out];exact zbUz HKP.out bc
   have BC:Hid (Below w.heap.size w wc):=HBL.out.trans (bc.mono HBL.out.size)
   clear bc
   go_wp2_with fail
   refine (zdRz w.heap.size (w.heap.size+1) g (ykz l) wc HKN.out HKL.out HKZ.out KC.out).mono ?_
   rintro e wd ⟨rfl,bd⟩
   have BD:Hid (Below w.heap.size w wd):=BC.out.trans (bd.mono BC.out.size)
   clear bd
   go_wp2
   go_ret
   exact ⟨zUz HD.out,BD.out⟩
  have HN:Hid (y2z (yQz l) ⟨#[]⟩=ykz l):=HT.out d0
  have hdi:0<(isd x.data.toList:Int):=by omega
  clear d0 HZ HT hd
  go_wp2_with fail
  refine (CI.out _).mono ?_
  rintro e wc ⟨rfl,bc⟩
  have zc:=bc.size
  have KC:Hid (vFz 86 9 w.heap.size (w.heap.size+1) g (yQz l) wc):=zbUz HKP.out bc
  have BC:Hid (Below w.heap.size w wc):=HBL.out.trans (bc.mono HBL.out.size)
  clear bc
  go_wp2_with fail
  refine (zkRz w.heap.size (w.heap.size+1) g (yQz l) ⟨#[]⟩ wc (by decide) hfl HGB.out (by omega) KC.out).mono ?_
  rintro e wd ⟨rfl,kd,gd,bd⟩
  have KD:Hid (vFz 86 9 w.heap.size (w.heap.size+1) g (ykz l) wd):=by show vFz _ _ _ _ _ _ _;rw[←HN.out];exact kd
  have BD:Hid (Below w.heap.size w wd):=BC.out.trans bd
  clear kd gd bd
  go_wp2_with fail
  refine (zdRz w.heap.size (w.heap.size+1) g (ykz l) wd HKN.out HKL.out HKZ.out KD.out).mono ?_
  rintro e we ⟨rfl,be⟩
  have BE:Hid (Below w.heap.size w we):=BD.out.trans (be.mono BD.out.size)
  clear be
  go_wp2
  go_ret
  exact ⟨zUz HD.out,BE.out⟩
theorem zjcz(p:ByteArray)(w:World)(hs:p.size≤1048576):
  Calls Tryz.prog 85 #[.string p] w fun e w'=>e=.returned (.string (zXz p))∧Below w.heap.size w w':=
 zcCz p w (by omega)
end Go.Proofs.YtgcbaphbiaimoaaGreatDoor
