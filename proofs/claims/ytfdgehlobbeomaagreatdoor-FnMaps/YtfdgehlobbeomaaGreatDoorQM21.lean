/- TokImpl4. -/
import Derived.Test.YtfdgehlobbeomaaGreatDoorQM20
set_option maxHeartbeats 4000000
set_option maxRecDepth 100000
namespace Go.Proofs.YtfdgehlobbeomaaGreatDoor
open Go.RowKit
set_option linter.unusedVariables false
set_option linter.unusedSimpArgs false
theorem byte_whole(s:ByteArray):s.extract 0 s.size=s:=by
 have h:=take_data s s.size
 rw[List.take_of_length_le (by simp)]at h
 cases s
 rw[←Lib.mk_data (ByteArray.extract _ _ _),h]
def textR(r:List UInt8):MR:=match unF (upB 60 r)with
 |some t=>⟨[⟨3,bytesV t⟩],(upB 60 r).length,0⟩
 |none=>noMR 2
theorem implReadText(s:ByteArray)(w:World)(hs:s.size≤16777216)(hE:Esc w):
  Calls Tryz.prog 102 #[.string s] w fun e w'=>PieceA w (textR s.data.toList) s.data.toList e w':=by
 have hsl:s.data.toList.length=s.size:=by simp
 obtain ⟨E,hEq⟩: ∃E,(upB 60 s.data.toList).length=E:=⟨_,rfl⟩
 have hup:(s.extract 0 E).data.toList=upB 60 s.data.toList:=by
  rw[take_data,←hEq]
  unfold upB
  exact take_tw _ _
 have hEl:E≤s.size:=by
  have:=(List.takeWhile_sublist (fun x:UInt8=>x !=60) (l:=s.data.toList)).length_le
  unfold upB at hEq
  omega
 have HEs:Hid (Esc w):=hE
 have CU:=fun W (hW:Below w.heap.size w W)=>implUnescape (s.extract 0 E) W (by simp;omega) (HEs.out.later hW)
 rw[hup]at CU
 have HY:Hid ((s.extract E s.size).data.toList=s.data.toList.drop E):=drop_data s E
 have CI: ∃z:Int,Hid (∀W,CS 119 #[.string s,.string ⟨#[60]⟩] W (.int .i64 z))∧(z=(E:Int)∨(z= -1∧s.size=E)):=by
  refine ⟨if s.data.toList.contains 60 then ((upB 60 s.data.toList).length:Int)else-1,fun W=>(Tryz.strings_Index_one s 60 W).mono fun e w' h=>⟨by rw[h.1,←Lib.index_one,index_while],h.2.symm⟩,?_⟩
  cases hc:s.data.toList.contains 60 with
  |true=>exact .inl (by rw[if_pos rfl,hEq])
  |false=>
   refine .inr ⟨rfl,?_⟩
   rw[←hEq,((up_beh 60 s.data.toList).2.1 hc).1,hsl]
 obtain ⟨z,CI',hz⟩:=CI
 have hEu:(E:Int)≤16777216:=by omega
 have hEa:(E:Int)≤(s.size:Int):=by omega
 have hE0:0≤(E:Int):=by omega
 clear hE
 cases hu:unF (upB 60 s.data.toList)with
 |none=>
  rw[hu]at CU
  have HR:Hid (textR s.data.toList=noMR 2):=by show _=_;unfold textR;rw[hu]
  have CU':Hid (∀W,Below w.heap.size w W→CB 120 #[.string (s.extract 0 E)] W (.tuple #[.string ⟨#[]⟩,.bool false])):=CU
  clear CU hu hup hEq hsl
  rcases hz with rfl|⟨rfl,hz2⟩
  ·have hzz: ¬(E:Int)<0:=by omega
   go_enter Tryz.func102,Tryz.ntmps102
   go_wp2_with fail
   refine (CI'.out _).mono ?_
   rintro e w' ⟨rfl,rfl⟩
   go_wp2_with fail
   refine (CU'.out _ (Below.refl _ _)).mono ?_
   rintro e w1 ⟨rfl,b1⟩
   go_wp2_with fail
   go_ret3
   exact PieceA.bad HR.out (by decide) b1
  have hex:s.extract 0 E=s:=by rw[←hz2];exact byte_whole s
  rw[hex]at CU'
  clear hex
  go_enter Tryz.func102,Tryz.ntmps102
  go_wp2_with fail
  refine (CI'.out _).mono ?_
  rintro e w' ⟨rfl,rfl⟩
  clear hEa hE0 hEu
  have HZ2:Hid (s.size=E):=hz2
  clear hz2
  go_wp2_with fail
  refine (CU'.out _ (Below.refl _ _)).mono ?_
  rintro e w1 ⟨rfl,b1⟩
  go_wp2_with fail
  go_ret3
  exact PieceA.bad HR.out (by decide) b1
 |some t=>
  rw[hu]at CU
  obtain ⟨x,hx⟩: ∃x:ByteArray,(⟨t.toArray⟩:ByteArray)=x:=⟨_,rfl⟩
  have HR:Hid (textR s.data.toList=⟨[⟨3,x⟩],E,0⟩):=by show _=_;unfold textR;rw[hu,←hx,←hEq];rfl
  have CU':Hid (∀W,Below w.heap.size w W→CB 120 #[.string (s.extract 0 E)] W (.tuple #[.string x,.bool true])):=by rw[←hx];exact CU
  clear CU hu hup hEq hsl hx
  rcases hz with rfl|⟨rfl,hz2⟩
  ·have hzz: ¬(E:Int)<0:=by omega
   go_enter Tryz.func102,Tryz.ntmps102
   go_wp2_with fail
   refine (CI'.out _).mono ?_
   rintro e w' ⟨rfl,rfl⟩
   go_wp2_with fail
   refine (CU'.out _ (Below.refl _ _)).mono ?_
   rintro e w1 ⟨rfl,b1⟩
   clear CI' CU' HEs
   go_upto_region 7 with fail
   refine wp_region_held_drew (S:=fun W=>Below w.heap.size w W) (by kernel_rfl) b1.drew (fun h0=> ?_)
   clear b1
   refine wpAnyH_take (i:=0) (v:= ?_) rfl (by kernel_rfl) (by kernel_rfl) (by kernel_rfl) (fun _ _ _ h=>h) (Or.inl ⟨by rfl,fun W hW=> ?_⟩) h0 ?_
   rotate_left
   ·clear hW
    go_simp
    try with_reducible rfl
   simp only[Act.put,List.getElem_toArray,List.getElem_cons_zero,List.getElem_cons_succ,List.setIfInBounds_toArray,List.set_cons_zero,List.set_cons_succ]
   refine wpAnyH_take (i:=1) (v:= ?_) rfl (by kernel_rfl) (by kernel_rfl) (by kernel_rfl) (fun _ _ _ h=>h) (Or.inl ⟨by rfl,fun W hW=> ?_⟩) h0 ?_
   rotate_left
   ·clear hW
    go_simp
    try with_reducible rfl
   simp only[Act.put,List.getElem_toArray,List.getElem_cons_zero,List.getElem_cons_succ,List.setIfInBounds_toArray,List.set_cons_zero,List.set_cons_succ]
   refine wpAnyH_take (i:=3) (v:= ?_) rfl (by kernel_rfl) (by kernel_rfl) (by kernel_rfl) (fun _ _ _ h=>h) (Or.inl ⟨by rfl,fun W hW=> ?_⟩) h0 ?_
   rotate_left
   ·clear hW
    go_simp
    try with_reducible rfl
   simp only[Act.put,List.getElem_toArray,List.getElem_cons_zero,List.getElem_cons_succ,List.setIfInBounds_toArray,List.set_cons_zero,List.set_cons_succ]
   refine wpAnyH_take (i:=4) (v:= ?_) rfl (by kernel_rfl) (by kernel_rfl) (by kernel_rfl) (fun _ _ _ h=>h) (Or.inl ⟨by rfl,fun W hW=> ?_⟩) h0 ?_
   rotate_left
   ·clear hW
    go_simp
    try with_reducible rfl
   simp only[Act.put,List.getElem_toArray,List.getElem_cons_zero,List.getElem_cons_succ,List.setIfInBounds_toArray,List.set_cons_zero,List.set_cons_succ]
   refine wpAnyH_take (i:=5) (v:= ?_) rfl (by kernel_rfl) (by kernel_rfl) (by kernel_rfl) (fun _ _ _ h=>h) (Or.inl ⟨by rfl,fun W hW=> ?_⟩) h0 ?_
   rotate_left
   ·clear hW
    go_simp
    try with_reducible rfl
   simp only[Act.put,List.getElem_toArray,List.getElem_cons_zero,List.getElem_cons_succ,List.setIfInBounds_toArray,List.set_cons_zero,List.set_cons_succ]
   have hs1:=h0.size
   refine wpAnyH_ready (rs:=[2]) (by kernel_rfl) (by simp) (AllReadyH.cons rfl (fun K hK=> ?_) AllReadyH.nil)
   go_simp
   refine hK.out _ _ (h0.alloc h0.size _) (fun h2=> ?_)
   clear hK K h0
   refine wpAnyH_take (i:=6) (v:= ?_) rfl (by kernel_rfl) (by kernel_rfl) (by kernel_rfl) (fun _ _ _ h=>h) (Or.inl ⟨by rfl,fun W hW=> ?_⟩) h2 ?_
   rotate_left
   ·clear hW
    go_simp
    try with_reducible rfl
   simp only[Act.put,List.getElem_toArray,List.getElem_cons_zero,List.getElem_cons_succ,List.setIfInBounds_toArray,List.set_cons_zero,List.set_cons_succ]
   refine wpAnyH_take (i:=7) (v:= ?_) rfl (by kernel_rfl) (by kernel_rfl) (by kernel_rfl) (fun _ _ _ h=>h) (Or.inl ⟨by rfl,fun W hW=> ?_⟩) h2 ?_
   rotate_left
   ·clear hW
    go_simp
    try with_reducible rfl
   simp only[Act.put,List.getElem_toArray,List.getElem_cons_zero,List.getElem_cons_succ,List.setIfInBounds_toArray,List.set_cons_zero,List.set_cons_succ]
   refine wpAnyH_take (i:=8) (v:= ?_) rfl (by kernel_rfl) (by kernel_rfl) (by kernel_rfl) (fun _ _ _ h=>h) (Or.inl ⟨by rfl,fun W hW=> ?_⟩) h2 ?_
   rotate_left
   ·clear hW
    go_simp
    try with_reducible rfl
   simp only[Act.put,List.getElem_toArray,List.getElem_cons_zero,List.getElem_cons_succ,List.setIfInBounds_toArray,List.set_cons_zero,List.set_cons_succ]
   refine wpAnyH_done (by kernel_rfl) ?_ _
   go_wp2_with fail
   go_ret3
   rw[HR.out]
   exact ⟨_,_,rfl,own_tok1 _ _ hs1 3 x,fun _=>HY.out,h2⟩
  have hex:s.extract 0 E=s:=by rw[←hz2];exact byte_whole s
  rw[hex]at CU'
  clear hex
  go_enter Tryz.func102,Tryz.ntmps102
  go_wp2_with fail
  refine (CI'.out _).mono ?_
  rintro e w' ⟨rfl,rfl⟩
  clear hEa hE0 hEu
  have HZ2:Hid (s.size=E):=hz2
  clear hz2
  go_wp2_with fail
  refine (CU'.out _ (Below.refl _ _)).mono ?_
  rintro e w1 ⟨rfl,b1⟩
  clear CI' CU' HEs
  have HYE:Hid (ByteArray.empty.data.toList=s.data.toList.drop E):=by
   show _=_
   rw[List.drop_eq_nil_of_le (by rw[←HZ2.out];simp)]
   rfl
  go_upto_region 7 with fail
  refine wp_region_held_drew (S:=fun W=>Below w.heap.size w W) (by kernel_rfl) b1.drew (fun h0=> ?_)
  clear b1
  refine wpAnyH_take (i:=0) (v:= ?_) rfl (by kernel_rfl) (by kernel_rfl) (by kernel_rfl) (fun _ _ _ h=>h) (Or.inl ⟨by rfl,fun W hW=> ?_⟩) h0 ?_
  rotate_left
  ·clear hW
   go_simp
   try with_reducible rfl
  simp only[Act.put,List.getElem_toArray,List.getElem_cons_zero,List.getElem_cons_succ,List.setIfInBounds_toArray,List.set_cons_zero,List.set_cons_succ]
  refine wpAnyH_take (i:=1) (v:= ?_) rfl (by kernel_rfl) (by kernel_rfl) (by kernel_rfl) (fun _ _ _ h=>h) (Or.inl ⟨by rfl,fun W hW=> ?_⟩) h0 ?_
  rotate_left
  ·clear hW
   go_simp
   try with_reducible rfl
  simp only[Act.put,List.getElem_toArray,List.getElem_cons_zero,List.getElem_cons_succ,List.setIfInBounds_toArray,List.set_cons_zero,List.set_cons_succ]
  refine wpAnyH_take (i:=3) (v:= ?_) rfl (by kernel_rfl) (by kernel_rfl) (by kernel_rfl) (fun _ _ _ h=>h) (Or.inl ⟨by rfl,fun W hW=> ?_⟩) h0 ?_
  rotate_left
  ·clear hW
   go_simp
   try with_reducible rfl
  simp only[Act.put,List.getElem_toArray,List.getElem_cons_zero,List.getElem_cons_succ,List.setIfInBounds_toArray,List.set_cons_zero,List.set_cons_succ]
  refine wpAnyH_take (i:=4) (v:= ?_) rfl (by kernel_rfl) (by kernel_rfl) (by kernel_rfl) (fun _ _ _ h=>h) (Or.inl ⟨by rfl,fun W hW=> ?_⟩) h0 ?_
  rotate_left
  ·clear hW
   go_simp
   try with_reducible rfl
  simp only[Act.put,List.getElem_toArray,List.getElem_cons_zero,List.getElem_cons_succ,List.setIfInBounds_toArray,List.set_cons_zero,List.set_cons_succ]
  refine wpAnyH_take (i:=5) (v:= ?_) rfl (by kernel_rfl) (by kernel_rfl) (by kernel_rfl) (fun _ _ _ h=>h) (Or.inl ⟨by rfl,fun W hW=> ?_⟩) h0 ?_
  rotate_left
  ·clear hW
   go_simp
   try with_reducible rfl
  simp only[Act.put,List.getElem_toArray,List.getElem_cons_zero,List.getElem_cons_succ,List.setIfInBounds_toArray,List.set_cons_zero,List.set_cons_succ]
  have hs1:=h0.size
  refine wpAnyH_ready (rs:=[2]) (by kernel_rfl) (by simp) (AllReadyH.cons rfl (fun K hK=> ?_) AllReadyH.nil)
  go_simp
  refine hK.out _ _ (h0.alloc h0.size _) (fun h2=> ?_)
  clear hK K h0
  refine wpAnyH_take (i:=6) (v:= ?_) rfl (by kernel_rfl) (by kernel_rfl) (by kernel_rfl) (fun _ _ _ h=>h) (Or.inl ⟨by rfl,fun W hW=> ?_⟩) h2 ?_
  rotate_left
  ·clear hW
   go_simp
   try with_reducible rfl
  simp only[Act.put,List.getElem_toArray,List.getElem_cons_zero,List.getElem_cons_succ,List.setIfInBounds_toArray,List.set_cons_zero,List.set_cons_succ]
  refine wpAnyH_take (i:=7) (v:= ?_) rfl (by kernel_rfl) (by kernel_rfl) (by kernel_rfl) (fun _ _ _ h=>h) (Or.inl ⟨by rfl,fun W hW=> ?_⟩) h2 ?_
  rotate_left
  ·clear hW
   go_simp
   try with_reducible rfl
  simp only[Act.put,List.getElem_toArray,List.getElem_cons_zero,List.getElem_cons_succ,List.setIfInBounds_toArray,List.set_cons_zero,List.set_cons_succ]
  refine wpAnyH_take (i:=8) (v:= ?_) rfl (by kernel_rfl) (by kernel_rfl) (by kernel_rfl) (fun _ _ _ h=>h) (Or.inl ⟨by rfl,fun W hW=> ?_⟩) h2 ?_
  rotate_left
  ·clear hW
   go_simp
   try with_reducible rfl
  simp only[Act.put,List.getElem_toArray,List.getElem_cons_zero,List.getElem_cons_succ,List.setIfInBounds_toArray,List.set_cons_zero,List.set_cons_succ]
  refine wpAnyH_done (by kernel_rfl) ?_ _
  go_wp2_with fail
  go_ret3
  rw[HR.out]
  exact ⟨_,_,rfl,own_tok1 _ _ hs1 3 x,fun _=>HYE.out,h2⟩
theorem PieceA.shift{W w':World}{m:MR}{r:List UInt8}{e:Ending}(k:Nat)(h:PieceA W m (r.drop k) e w'):PieceA W (shMR k m) r e w':=by
 obtain ⟨v,y,h1,h2,h3,h4⟩:=h
 refine ⟨v,y,h1,h2,fun hc=> ?_,h4⟩
 rw[h3 hc,List.drop_drop]
 rfl
theorem PieceA.named{W w':World}{m:MR}{r:List UInt8}{e:Ending}(h:PieceA W m r e w'): ∃(c:Int) (v:Value) (y:ByteArray),e=.returned (.tuple #[v,.string y,.int .i64 c])∧Hid (PieceA W m r (.returned (.tuple #[v,.string y,.int .i64 c])) w'):=by
 obtain ⟨v,y,rfl,h2⟩:=h
 exact ⟨_,v,y,rfl,v,y,rfl,h2⟩
theorem step_chain(r:List UInt8):stepI r=
  if Lib.hasPrefix r [60,33,45,45]=true then shMR 4 (skipR (r.drop 4) [45,45,62])
  else if Lib.hasPrefix r [60,63]=true then shMR 2 (skipR (r.drop 2) [63,62])
  else if Lib.hasPrefix r [60,33,91,67,68,65,84,65,91]=true then shMR 9 (cdataR (r.drop 9))
  else if Lib.hasPrefix r [60,47]=true then shMR 2 (closeI (r.drop 2))
  else if Lib.hasPrefix r [60]=true then shMR 1 (openR (r.drop 1))
  else textR r:=by
 have two: ∀(a b:UInt8) (p:List UInt8),b≠47→Lib.hasPrefix r (a::b::p)=true→Lib.hasPrefix r [60,47]=false:=fun a b p hb h=>by
  unfold Lib.hasPrefix at h⊢
  obtain ⟨t,ht⟩:=List.isPrefixOf_iff_prefix.1 h
  rw[←ht]
  simp[List.isPrefixOf]
  exact fun _ e=>hb e.symm
 have hh: ∀p,Lib.hasPrefix r (60::p)=true→r.head? =some 60:=fun p h=>by
  unfold Lib.hasPrefix at h
  obtain ⟨t,ht⟩:=List.isPrefixOf_iff_prefix.1 h
  rw[←ht]
  rfl
 unfold stepI
 cases h1:Lib.hasPrefix r [60,33,45,45]with
 |true=>rw[two _ _ _ (by decide) h1,if_neg (by decide),if_pos rfl,step_mark13 (hh _ h1)];unfold markR;rw[if_pos h1]
 |false=>
  rw[if_neg (show ¬(false=true) by decide)]
  cases h2:Lib.hasPrefix r [60,63]with
  |true=>rw[two _ _ _ (by decide) h2,if_neg (by decide),if_pos rfl,step_mark13 (hh _ h2)];unfold markR;rw[if_neg (by rw[h1];decide),if_pos h2]
  |false=>
   rw[if_neg (show ¬(false=true) by decide)]
   cases h3:Lib.hasPrefix r [60,33,91,67,68,65,84,65,91]with
   |true=>rw[two _ _ _ (by decide) h3,if_neg (by decide),if_pos rfl,step_mark13 (hh _ h3)];unfold markR;rw[if_neg (by rw[h1];decide),if_neg (by rw[h2];decide),if_pos h3]
   |false=>
    rw[if_neg (show ¬(false=true) by decide)]
    cases h4:Lib.hasPrefix r [60,47]with
    |true=>rw[if_pos rfl,if_pos rfl]
    |false=>
     rw[if_neg (by decide),if_neg (by decide)]
     cases h5:Lib.hasPrefix r [60]with
     |true=>rw[if_pos rfl,step_mark13 (hh _ h5)];unfold markR;rw[if_neg (by rw[h1];decide),if_neg (by rw[h2];decide),if_neg (by rw[h3];decide),if_neg (by rw[h4];decide)]
     |false=>
      rw[if_neg (by decide),step_text13 (fun e=> ?_)]
      ·rfl
      cases r with
      |nil=>cases e
      |cons c t=>
       rw[List.head?_cons]at e
       injection e with e
       subst e
       simp[Lib.hasPrefix,List.isPrefixOf]at h5
theorem pre_parts(s p:ByteArray): ∃(x:ByteArray),Hid (∀W,Calls Tryz.prog 97 #[.string s,.string p] W fun e w'=>e=.returned (.tuple #[.string x,.bool (Lib.hasPrefix s.data.toList p.data.toList)])∧W=w')∧(Lib.hasPrefix s.data.toList p.data.toList=true→x.data.toList=s.data.toList.drop p.data.toList.length)∧x.size≤s.size:=by
 refine ⟨⟨(Lib.trimPrefix s.data.toList p.data.toList).toArray⟩,fun W=>(Tryz.strings_CutPrefix s p W).mono fun e w' h=>⟨h.1,h.2.symm⟩,fun h=> ?_,?_⟩
 ·show Lib.trimPrefix s.data.toList p.data.toList=_
  unfold Lib.trimPrefix
  rw[if_pos h]
 show (Lib.trimPrefix s.data.toList p.data.toList).length≤_
 have hl:s.data.toList.length=s.size:=by simp
 unfold Lib.trimPrefix
 split
 ·rw[List.length_drop];omega
 omega
theorem implReadPiece(s:ByteArray)(w:World)(hs:s.size≤16777216)(hE:Esc w)(hM:MaxI w):
  Calls Tryz.prog 90 #[.string s] w fun e w'=>PieceA w (stepI s.data.toList) s.data.toList e w':=by
 have HE:Hid (Esc w):=hE
 have HM:Hid (MaxI w):=hM
 have hch:=step_chain s.data.toList
 obtain ⟨x1,P1,q1,z1⟩:=pre_parts s ⟨#[60,33,45,45]⟩
 obtain ⟨x2,P2,q2,z2⟩:=pre_parts s ⟨#[60,63]⟩
 obtain ⟨x3,P3,q3,z3⟩:=pre_parts s ⟨#[60,33,91,67,68,65,84,65,91]⟩
 obtain ⟨x4,P4,q4,z4⟩:=pre_parts s ⟨#[60,47]⟩
 obtain ⟨x5,P5,q5,z5⟩:=pre_parts s ⟨#[60]⟩
 have C1:Hid (Lib.hasPrefix s.data.toList [60,33,45,45]=true→Calls Tryz.prog 98 #[.string x1,.string ⟨#[45,45,62]⟩] w fun e w'=>PieceA w (shMR 4 (skipR (s.data.toList.drop 4) [45,45,62])) s.data.toList e w'):=fun h=>(implPassed x1 ⟨#[45,45,62]⟩ w (by omega) hM).mono fun e w' hp=>by rw[q1 h]at hp;exact hp.shift 4
 have C2:Hid (Lib.hasPrefix s.data.toList [60,63]=true→Calls Tryz.prog 98 #[.string x2,.string ⟨#[63,62]⟩] w fun e w'=>PieceA w (shMR 2 (skipR (s.data.toList.drop 2) [63,62])) s.data.toList e w'):=fun h=>(implPassed x2 ⟨#[63,62]⟩ w (by omega) hM).mono fun e w' hp=>by rw[q2 h]at hp;exact hp.shift 2
 have C3:Hid (Lib.hasPrefix s.data.toList [60,33,91,67,68,65,84,65,91]=true→Calls Tryz.prog 99 #[.string x3] w fun e w'=>PieceA w (shMR 9 (cdataR (s.data.toList.drop 9))) s.data.toList e w'):=fun h=>(implCData x3 w (by omega) hM).mono fun e w' hp=>by rw[q3 h]at hp;exact hp.shift 9
 have C4:Hid (Lib.hasPrefix s.data.toList [60,47]=true→Calls Tryz.prog 100 #[.string x4] w fun e w'=>PieceA w (shMR 2 (closeI (s.data.toList.drop 2))) s.data.toList e w'):=fun h=>(implReadClose x4 w (by omega)).mono fun e w' hp=>by rw[q4 h]at hp;exact hp.shift 2
 have C5:Hid (Lib.hasPrefix s.data.toList [60]=true→Calls Tryz.prog 101 #[.string x5] w fun e w'=>PieceA w (shMR 1 (openR (s.data.toList.drop 1))) s.data.toList e w'):=fun h=>(implReadOpen x5 w (by omega)).mono fun e w' hp=>by rw[q5 h]at hp;exact hp.shift 1
 have C6:Hid (Calls Tryz.prog 102 #[.string s] w fun e w'=>PieceA w (textR s.data.toList) s.data.toList e w'):=implReadText s w hs hE
 clear hE hM q1 q2 q3 q4 q5 HE HM
 change Hid (∀W,Calls _ _ _ W fun e w'=>e=.returned (.tuple #[.string x1,.bool (Lib.hasPrefix s.data.toList [60,33,45,45])])∧W=w')at P1
 change Hid (∀W,Calls _ _ _ W fun e w'=>e=.returned (.tuple #[.string x2,.bool (Lib.hasPrefix s.data.toList [60,63])])∧W=w')at P2
 change Hid (∀W,Calls _ _ _ W fun e w'=>e=.returned (.tuple #[.string x3,.bool (Lib.hasPrefix s.data.toList [60,33,91,67,68,65,84,65,91])])∧W=w')at P3
 change Hid (∀W,Calls _ _ _ W fun e w'=>e=.returned (.tuple #[.string x4,.bool (Lib.hasPrefix s.data.toList [60,47])])∧W=w')at P4
 change Hid (∀W,Calls _ _ _ W fun e w'=>e=.returned (.tuple #[.string x5,.bool (Lib.hasPrefix s.data.toList [60])])∧W=w')at P5
 rw[hch]
 clear hch
 generalize Lib.hasPrefix s.data.toList [60,33,45,45]=b1 at*
 generalize Lib.hasPrefix s.data.toList [60,63]=b2 at*
 generalize Lib.hasPrefix s.data.toList [60,33,91,67,68,65,84,65,91]=b3 at*
 generalize Lib.hasPrefix s.data.toList [60,47]=b4 at*
 generalize Lib.hasPrefix s.data.toList [60]=b5 at*
 generalize shMR 1 (openR (s.data.toList.drop 1))=m5 at*
 go_enter Tryz.func90,Tryz.ntmps90
 cases b1 with
 |true=>
  go_wp2_with fail
  refine (P1.out _).mono ?_
  rintro e w' ⟨rfl,rfl⟩
  go_wp2_with fail
  refine (C1.out trivial).mono ?_
  rintro e w' hA
  obtain ⟨c,v,y,rfl,HA⟩:=hA.named
  clear hA
  go_wp2_with fail
  go_ret3
  exact HA.out
 |false=>
  go_wp2_with fail
  refine (P1.out _).mono ?_
  rintro e w' ⟨rfl,rfl⟩
  cases b2 with
  |true=>
   go_wp2_with fail
   refine (P2.out _).mono ?_
   rintro e w' ⟨rfl,rfl⟩
   go_wp2_with fail
   refine (C2.out trivial).mono ?_
   rintro e w' hA
   obtain ⟨c,v,y,rfl,HA⟩:=hA.named
   clear hA
   go_wp2_with fail
   go_ret3
   exact HA.out
  |false=>
   go_wp2_with fail
   refine (P2.out _).mono ?_
   rintro e w' ⟨rfl,rfl⟩
   cases b3 with
   |true=>
    go_wp2_with fail
    refine (P3.out _).mono ?_
    rintro e w' ⟨rfl,rfl⟩
    go_wp2_with fail
    refine (C3.out trivial).mono ?_
    rintro e w' hA
    obtain ⟨c,v,y,rfl,HA⟩:=hA.named
    clear hA
    go_wp2_with fail
    go_ret3
    exact HA.out
   |false=>
    go_wp2_with fail
    refine (P3.out _).mono ?_
    rintro e w' ⟨rfl,rfl⟩
    cases b4 with
    |true=>
     go_wp2_with fail
     refine (P4.out _).mono ?_
     rintro e w' ⟨rfl,rfl⟩
     go_wp2_with fail
     refine (C4.out trivial).mono ?_
     rintro e w' hA
     obtain ⟨c,v,y,rfl,HA⟩:=hA.named
     clear hA
     go_wp2_with fail
     go_ret3
     exact HA.out
    |false=>
     go_wp2_with fail
     refine (P4.out _).mono ?_
     rintro e w' ⟨rfl,rfl⟩
     cases b5 with
     |true=>
      go_wp2_with fail
      refine (P5.out _).mono ?_
      rintro e w' ⟨rfl,rfl⟩
      go_wp2_with fail
      refine (C5.out trivial).mono ?_
      rintro e w' hA
      obtain ⟨c,v,y,rfl,HA⟩:=hA.named
      clear hA
      go_wp2_with fail
      go_ret3
      exact HA.out
     |false=>
      go_wp2_with fail
      refine (P5.out _).mono ?_
      rintro e w' ⟨rfl,rfl⟩
      go_wp2_with fail
      refine C6.out.mono ?_
      rintro e w' hA
      obtain ⟨c,v,y,rfl,HA⟩:=hA.named
      clear hA
      go_wp2_with fail
      go_ret3
      exact HA.out
end Go.Proofs.YtfdgehlobbeomaaGreatDoor
