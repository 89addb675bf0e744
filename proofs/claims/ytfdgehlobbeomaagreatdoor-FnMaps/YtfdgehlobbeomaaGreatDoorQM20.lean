/- TokImpl3. -/
import Derived.Test.YtfdgehlobbeomaaGreatDoorQM19
import Derived.Test.YtfdgehlobbeomaaGreatDoorQM12
set_option maxHeartbeats 4000000
set_option maxRecDepth 100000
namespace Go.Proofs.YtfdgehlobbeomaaGreatDoor
open Go.RowKit
set_option linter.unusedVariables false
set_option linter.unusedSimpArgs false
theorem suf_last(l:List UInt8):Lib.hasSuffix l [47]=decide (l.getLast? =some 47):=by
 unfold Lib.hasSuffix
 by_cases h:l.getLast? =some 47
 ·rw[decide_eq_true h,List.isSuffixOf_iff_suffix]
  obtain ⟨t,ht⟩:=List.getLast?_eq_some_iff.1 h
  exact ⟨t,ht.symm⟩
 rw[decide_eq_false h]
 cases hs:([47]:List UInt8).isSuffixOf l with
 |false=>rfl
 |true=>
  obtain ⟨t,ht⟩:=List.isSuffixOf_iff_suffix.1 hs
  exact absurd (List.getLast?_eq_some_iff.2 ⟨t,ht.symm⟩) h
theorem implReadOpen(s:ByteArray)(w:World)(hs:s.size≤16777216):
  Calls Tryz.prog 101 #[.string s] w fun e w'=>PieceA w (openR s.data.toList) s.data.toList e w':=by
 have hsl:s.data.toList.length=s.size:=by simp
 have CI:=fun W=>implMarkEnd s W hs
 have hw:=open_way s.data.toList
 have hle:=scQ_le s.data.toList 0
 by_cases hc:scQ 0 s.data.toList=s.data.toList.length
 ·rw[endZ_none hc]at CI
  have CI':Hid (∀W,CS 116 #[.string s] W (.int .i64 (-1))):=CI
  have HR:Hid (openR s.data.toList=noMR 1):=by show _=_;rw[hw,if_pos hc]
  clear CI hc hsl hw hle
  go_enter Tryz.func101,Tryz.ntmps101
  go_wp2_with fail
  refine (CI'.out _).mono ?_
  rintro e w' ⟨rfl,rfl⟩
  go_wp2_with fail
  go_ret3
  exact PieceA.bad HR.out (by decide) (Below.refl _ _)
 obtain ⟨E,hE⟩: ∃E,scQ 0 s.data.toList=E:=⟨_,rfl⟩
 rw[if_neg hc]at hw
 rw[hE]at hw hc hle
 have hEl:E<s.size:=by omega
 rw[endZ_at hE (by omega)]at CI
 have CI':Hid (∀W,CS 116 #[.string s] W (.int .i64 (E:Int))):=CI
 have hup:(s.extract 0 E).data.toList=s.data.toList.take E:=take_data s E
 have CC:=fun W=>implCutName (s.extract 0 E) W (by simp;omega)
 rw[hup]at CC
 obtain ⟨nm,hnm⟩: ∃x:ByteArray,(⟨((s.data.toList.take E).takeWhile nmB).toArray⟩:ByteArray)=x:=⟨_,rfl⟩
 obtain ⟨bt,hbt⟩: ∃x:ByteArray,(⟨((s.data.toList.take E).dropWhile nmB).toArray⟩:ByteArray)=x:=⟨_,rfl⟩
 have hnd:nm.data.toList=(s.data.toList.take E).takeWhile nmB:=by rw[←hnm]
 have hbd:bt.data.toList=(s.data.toList.take E).dropWhile nmB:=by rw[←hbt]
 have htl:(s.data.toList.take E).length≤s.size:=by rw[List.length_take];omega
 have hns:nm.size≤16777216:=by
  have h1:=(List.takeWhile_sublist nmB (l:=s.data.toList.take E)).length_le
  have h2:nm.size=nm.data.toList.length:=by simp
  rw[h2,hnd]
  omega
 have hbs:bt.size≤16777216:=by
  have h1:=(List.dropWhile_sublist nmB (l:=s.data.toList.take E)).length_le
  have h2:bt.size=bt.data.toList.length:=by simp
  rw[h2,hbd]
  omega
 rw[hnm,hbt]at CC
 have CC':Hid (∀W,CB 114 #[.string (s.extract 0 E)] W (.tuple #[.string nm,.string bt])):=CC
 rw[←hnd,←hbd]at hw
 have HW:Hid (openR s.data.toList=if nameOkB nm.data.toList=true∧badM bt.data.toList=false then ⟨⟨1,nm⟩::(if bt.data.toList.getLast? =some 47 then [⟨2,nm⟩]else []),E+1,0⟩else noMR 2):=by
  show _=_
  rw[hw]
  unfold bytesV
  rw[Lib.mk_data]
 have CO:Hid (∀W,CS 115 #[.string nm] W (.bool (nameOkB nm.data.toList))):=fun W=>implNameOk nm W
 have CA:Hid (∀W,CS 117 #[.string bt] W (.bool (!badM bt.data.toList))):=fun W=>implAfterOk bt W
 have CN:Hid (∀(k:Int) (W:World),CB 112 #[.int .i64 k,.string nm] W (.agg #[.int .i64 k,.string nm])):=fun k W=>implNewToken k nm W hns
 have CS:Hid (∀W,CS 118 #[.string bt,.string ⟨#[47]⟩] W (.bool (decide (bt.data.toList.getLast? =some 47)))):=fun W=>(Tryz.strings_HasSuffix bt ⟨#[47]⟩ W (by omega)).mono fun e w' h=>⟨by rw[h.1,show (⟨#[47]⟩:ByteArray).data.toList=[47] from rfl,suf_last],h.2.symm⟩
 have hE0: ¬(E:Int)<0:=by omega
 have hEu:(E:Int)≤16777216:=by omega
 have hwr:IntKind.i64.wrap ((E:Int)+1)=(E:Int)+1:=by rw[IntKind.wrap_i64];omega
 have hEa:(E:Int)+1≤(s.size:Int):=by omega
 have hEb:0≤(E:Int)+1:=by omega
 have hEc:((E:Int)+1).toNat=E+1:=by omega
 have HY:Hid ((s.extract (E+1) s.size).data.toList=s.data.toList.drop (E+1)):=drop_data s (E+1)
 clear CI hc hsl hw hE hle hup CC hnm hbt hnd hbd htl
 cases hok:nameOkB nm.data.toList with
 |false=>
  rw[hok]at CO
  have HR:Hid (openR s.data.toList=noMR 2):=by have:=HW.out;rw[hok,if_neg (by simp)]at this;exact this
  clear HW hok
  go_enter Tryz.func101,Tryz.ntmps101
  go_wp2_with fail
  refine (CI'.out _).mono ?_
  rintro e w' ⟨rfl,rfl⟩
  go_wp2_with fail
  refine (CC'.out _).mono ?_
  rintro e w1 ⟨rfl,b1⟩
  go_wp2_with fail
  refine (CO.out _).mono ?_
  rintro e w' ⟨rfl,rfl⟩
  go_wp2_with fail
  go_ret3
  exact PieceA.bad HR.out (by decide) b1
 |true=>
  rw[hok]at CO
  cases hbm:badM bt.data.toList with
  |true=>
   rw[hbm]at CA
   have HR:Hid (openR s.data.toList=noMR 2):=by have:=HW.out;rw[hok,hbm,if_neg (by simp)]at this;exact this
   clear HW hok hbm
   go_enter Tryz.func101,Tryz.ntmps101
   go_wp2_with fail
   refine (CI'.out _).mono ?_
   rintro e w' ⟨rfl,rfl⟩
   go_wp2_with fail
   refine (CC'.out _).mono ?_
   rintro e w1 ⟨rfl,b1⟩
   go_wp2_with fail
   refine (CO.out _).mono ?_
   rintro e w' ⟨rfl,rfl⟩
   go_wp2_with fail
   refine (CA.out _).mono ?_
   rintro e w' ⟨rfl,rfl⟩
   go_wp2_with fail
   go_ret3
   exact PieceA.bad HR.out (by decide) b1
  |false=>
   rw[hbm]at CA
   by_cases hla:bt.data.toList.getLast? =some 47
   ·rw[decide_eq_true hla]at CS
    have HR:Hid (openR s.data.toList=⟨[⟨1,nm⟩,⟨2,nm⟩],E+1,0⟩):=by have:=HW.out;rw[hok,hbm,if_pos ⟨rfl,rfl⟩,if_pos hla]at this;exact this
    clear HW hok hbm hla
    go_enter Tryz.func101,Tryz.ntmps101
    go_wp2_with fail
    refine (CI'.out _).mono ?_
    rintro e w' ⟨rfl,rfl⟩
    go_wp2_with fail
    refine (CC'.out _).mono ?_
    rintro e w1 ⟨rfl,b1⟩
    go_wp2_with fail
    refine (CO.out _).mono ?_
    rintro e w' ⟨rfl,rfl⟩
    go_wp2_with fail
    refine (CA.out _).mono ?_
    rintro e w' ⟨rfl,rfl⟩
    go_wp2_with fail
    refine (CN.out _ _).mono ?_
    rintro e w2 ⟨rfl,b2⟩
    have B2:=b1.trans (b2.mono b1.size)
    obtain ⟨U,hU⟩: ∃U,U=w2.alloc (.cells #[.int .i64 1,.string nm] 74):=⟨_,rfl⟩
    have O2:Hid (U.ownsRow w2.heap.size 74 2 (.slice (some ⟨w2.heap.size,0,none⟩) 1 1) 1 (tcells [⟨1,nm⟩])):=by rw[hU];exact World.ownsRow_lit w2 #[.int .i64 1,.string nm] 1 (Nat.le_refl _) (by decide) rfl
    have BU:Below w.heap.size w U:=by rw[hU];exact B2.alloc B2.size _
    have hUs:w2.heap.size≤U.heap.size:=by rw[hU];simp
    have hws:=B2.size
    clear b1 b2 B2
    go_upto_region 8 with fail
    rw[←hU]
    clear hU
    generalize w2.heap.size=D at*
    go_wp2_with fail
    refine (CS.out _).mono ?_
    rintro e w' ⟨rfl,rfl⟩
    go_wp2_with fail
    refine (CN.out _ _).mono ?_
    rintro e w3 ⟨rfl,b3⟩
    have B3:=BU.trans (b3.mono BU.size)
    have O3:Hid (w3.ownsRow D 74 2 (.slice (some ⟨D,0,none⟩) 1 1) 1 (tcells [⟨1,nm⟩])):=own_below O2.out b3
    have hs3:=b3.size
    clear b3 BU O2 CI' CC' CO CA CS CN
    have hq:TokRow _ _ _:=TokRow.of_own' (own_tok1 w3 _ (Nat.le_refl _) 2 nm)
    have hown:=O3.out.alloc (.cells #[.int .i64 2,.string nm] 74)
    go_wp2_with (at_builtin;refine wpList_append_toks rfl _ _ 65 rfl D 74 (.agg #[.int .i64 0,.string ⟨#[]⟩]) 24 Tryz.underlying65 Tryz.infoTk rfl _ [⟨1,nm⟩] rfl hown _ [⟨2,nm⟩] rfl hq (show (1+1)*24≤140737488355328 by decide) (show 1+1≤maxLen by unfold maxLen;decide) (by simp;omega) ?_)
    intro v4 w4 o4 g4 _
    have R4:TokRow w4 v4 [⟨1,nm⟩,⟨2,nm⟩]:=TokRow.of_own' o4
    have B4:Below w.heap.size w w4:=(B3.alloc B3.size _).grown g4 (by simp;have:=B3.size;omega) (fun b hb=>by have:=(O3.out.lt b hb).1;omega)
    obtain ⟨ao,co,rfl⟩:=R4.slice
    have W4:w4.ownsRow w.heap.size 74 2 (.slice ao 2 co) ([⟨1,nm⟩,⟨2,nm⟩]:List TV).length (tcells [⟨1,nm⟩,⟨2,nm⟩]):=own_base o4 hws
    clear o4 g4 hown hq O3 B3
    go_upto_region 10 with fail
    refine wp_region_held_drew (S:=fun W=>Below w.heap.size w W∧W.ownsRow w.heap.size 74 2 (.slice ao 2 co) ([⟨1,nm⟩,⟨2,nm⟩]:List TV).length (tcells [⟨1,nm⟩,⟨2,nm⟩])) (by kernel_rfl) ⟨B4.drew,W4⟩ (fun h0=> ?_)
    clear B4 W4
    refine wpAnyH_take (i:=0) (v:= ?_) rfl (by kernel_rfl) (by kernel_rfl) (by kernel_rfl) (fun _ _ _ h=>h) (Or.inl ⟨by rfl,fun W hW=> ?_⟩) h0 ?_
    rotate_left
    ·clear hW
     go_simp
     try with_reducible rfl
    simp only[Act.put,List.getElem_toArray,List.getElem_cons_zero,List.getElem_cons_succ,List.setIfInBounds_toArray,List.set_cons_zero,List.set_cons_succ]
    refine wpAnyH_take (i:=1) (v:= ?_) rfl (by kernel_rfl) (by kernel_rfl) (by kernel_rfl) (fun _ _ _ h=>h) (Or.inl ⟨by rfl,fun W hW=> ?_⟩) h0 ?_
    rotate_left
    ·clear hW
     go_simp
     try with_reducible rfl
    simp only[Act.put,List.getElem_toArray,List.getElem_cons_zero,List.getElem_cons_succ,List.setIfInBounds_toArray,List.set_cons_zero,List.set_cons_succ]
    refine wpAnyH_take (i:=2) (v:= ?_) rfl (by kernel_rfl) (by kernel_rfl) (by kernel_rfl) (fun _ _ _ h=>h) (Or.inl ⟨by rfl,fun W hW=> ?_⟩) h0 ?_
    rotate_left
    ·clear hW
     go_simp
     try with_reducible rfl
    simp only[Act.put,List.getElem_toArray,List.getElem_cons_zero,List.getElem_cons_succ,List.setIfInBounds_toArray,List.set_cons_zero,List.set_cons_succ]
    refine wpAnyH_take (i:=3) (v:= ?_) rfl (by kernel_rfl) (by kernel_rfl) (by kernel_rfl) (fun _ _ _ h=>h) (Or.inl ⟨by rfl,fun W hW=> ?_⟩) h0 ?_
    rotate_left
    ·clear hW
     go_simp
     try with_reducible rfl
    simp only[Act.put,List.getElem_toArray,List.getElem_cons_zero,List.getElem_cons_succ,List.setIfInBounds_toArray,List.set_cons_zero,List.set_cons_succ]
    refine wpAnyH_take (i:=4) (v:= ?_) rfl (by kernel_rfl) (by kernel_rfl) (by kernel_rfl) (fun _ _ _ h=>h) (Or.inl ⟨by rfl,fun W hW=> ?_⟩) h0 ?_
    rotate_left
    ·clear hW
     go_simp
     try with_reducible rfl
    simp only[Act.put,List.getElem_toArray,List.getElem_cons_zero,List.getElem_cons_succ,List.setIfInBounds_toArray,List.set_cons_zero,List.set_cons_succ]
    refine wpAnyH_take (i:=5) (v:= ?_) rfl (by kernel_rfl) (by kernel_rfl) (by kernel_rfl) (fun _ _ _ h=>h) (Or.inl ⟨by rfl,fun W hW=> ?_⟩) h0 ?_
    rotate_left
    ·clear hW
     go_simp
     try with_reducible rfl
    simp only[Act.put,List.getElem_toArray,List.getElem_cons_zero,List.getElem_cons_succ,List.setIfInBounds_toArray,List.set_cons_zero,List.set_cons_succ]
    refine wpAnyH_take (i:=6) (v:= ?_) rfl (by kernel_rfl) (by kernel_rfl) (by kernel_rfl) (fun _ _ _ h=>h) (Or.inl ⟨by rfl,fun W hW=> ?_⟩) h0 ?_
    rotate_left
    ·clear hW
     go_simp
     try with_reducible rfl
    simp only[Act.put,List.getElem_toArray,List.getElem_cons_zero,List.getElem_cons_succ,List.setIfInBounds_toArray,List.set_cons_zero,List.set_cons_succ]
    refine wpAnyH_take (i:=7) (v:= ?_) rfl (by kernel_rfl) (by kernel_rfl) (by kernel_rfl) (fun _ _ _ h=>h) (Or.inl ⟨by rfl,fun W hW=> ?_⟩) h0 ?_
    rotate_left
    ·clear hW
     go_simp
     try with_reducible rfl
    simp only[Act.put,List.getElem_toArray,List.getElem_cons_zero,List.getElem_cons_succ,List.setIfInBounds_toArray,List.set_cons_zero,List.set_cons_succ]
    refine wpAnyH_done (by kernel_rfl) ?_ _
    go_wp2_with fail
    go_ret3
    rw[HR.out]
    exact ⟨_,_,rfl,h0.2,fun _=>HY.out,h0.1⟩
   rw[decide_eq_false hla]at CS
   have HR:Hid (openR s.data.toList=⟨[⟨1,nm⟩],E+1,0⟩):=by have:=HW.out;rw[hok,hbm,if_pos ⟨rfl,rfl⟩,if_neg hla]at this;exact this
   clear HW hok hbm hla
   go_enter Tryz.func101,Tryz.ntmps101
   go_wp2_with fail
   refine (CI'.out _).mono ?_
   rintro e w' ⟨rfl,rfl⟩
   go_wp2_with fail
   refine (CC'.out _).mono ?_
   rintro e w1 ⟨rfl,b1⟩
   go_wp2_with fail
   refine (CO.out _).mono ?_
   rintro e w' ⟨rfl,rfl⟩
   go_wp2_with fail
   refine (CA.out _).mono ?_
   rintro e w' ⟨rfl,rfl⟩
   go_wp2_with fail
   refine (CN.out _ _).mono ?_
   rintro e w2 ⟨rfl,b2⟩
   have B2:=b1.trans (b2.mono b1.size)
   obtain ⟨U,hU⟩: ∃U,U=w2.alloc (.cells #[.int .i64 1,.string nm] 74):=⟨_,rfl⟩
   have R2:U.ownsRow w.heap.size 74 2 (.slice (some ⟨w2.heap.size,0,none⟩) 1 1) ([⟨1,nm⟩]:List TV).length (tcells [⟨1,nm⟩]):=by rw[hU];exact own_tok1 w2 _ B2.size 1 nm
   have BU:Below w.heap.size w U:=by rw[hU];exact B2.alloc B2.size _
   clear b1 b2 B2
   go_upto_region 8 with fail
   rw[←hU]
   clear hU
   generalize w2.heap.size=D at*
   go_wp2_with fail
   refine (CS.out _).mono ?_
   rintro e w' ⟨rfl,rfl⟩
   clear CI' CC' CO CA CS CN
   go_upto_region 10 with fail
   refine wp_region_held_drew (S:=fun W=>Below w.heap.size w W∧W.ownsRow w.heap.size 74 2 (.slice (some ⟨D,0,none⟩) 1 1) ([⟨1,nm⟩]:List TV).length (tcells [⟨1,nm⟩])) (by kernel_rfl) ⟨BU.drew,R2⟩ (fun h0=> ?_)
   clear BU R2
   refine wpAnyH_take (i:=0) (v:= ?_) rfl (by kernel_rfl) (by kernel_rfl) (by kernel_rfl) (fun _ _ _ h=>h) (Or.inl ⟨by rfl,fun W hW=> ?_⟩) h0 ?_
   rotate_left
   ·clear hW
    go_simp
    try with_reducible rfl
   simp only[Act.put,List.getElem_toArray,List.getElem_cons_zero,List.getElem_cons_succ,List.setIfInBounds_toArray,List.set_cons_zero,List.set_cons_succ]
   refine wpAnyH_take (i:=1) (v:= ?_) rfl (by kernel_rfl) (by kernel_rfl) (by kernel_rfl) (fun _ _ _ h=>h) (Or.inl ⟨by rfl,fun W hW=> ?_⟩) h0 ?_
   rotate_left
   ·clear hW
    go_simp
    try with_reducible rfl
   simp only[Act.put,List.getElem_toArray,List.getElem_cons_zero,List.getElem_cons_succ,List.setIfInBounds_toArray,List.set_cons_zero,List.set_cons_succ]
   refine wpAnyH_take (i:=2) (v:= ?_) rfl (by kernel_rfl) (by kernel_rfl) (by kernel_rfl) (fun _ _ _ h=>h) (Or.inl ⟨by rfl,fun W hW=> ?_⟩) h0 ?_
   rotate_left
   ·clear hW
    go_simp
    try with_reducible rfl
   simp only[Act.put,List.getElem_toArray,List.getElem_cons_zero,List.getElem_cons_succ,List.setIfInBounds_toArray,List.set_cons_zero,List.set_cons_succ]
   refine wpAnyH_take (i:=3) (v:= ?_) rfl (by kernel_rfl) (by kernel_rfl) (by kernel_rfl) (fun _ _ _ h=>h) (Or.inl ⟨by rfl,fun W hW=> ?_⟩) h0 ?_
   rotate_left
   ·clear hW
    go_simp
    try with_reducible rfl
   simp only[Act.put,List.getElem_toArray,List.getElem_cons_zero,List.getElem_cons_succ,List.setIfInBounds_toArray,List.set_cons_zero,List.set_cons_succ]
   refine wpAnyH_take (i:=4) (v:= ?_) rfl (by kernel_rfl) (by kernel_rfl) (by kernel_rfl) (fun _ _ _ h=>h) (Or.inl ⟨by rfl,fun W hW=> ?_⟩) h0 ?_
   rotate_left
   ·clear hW
    go_simp
    try with_reducible rfl
   simp only[Act.put,List.getElem_toArray,List.getElem_cons_zero,List.getElem_cons_succ,List.setIfInBounds_toArray,List.set_cons_zero,List.set_cons_succ]
   refine wpAnyH_take (i:=5) (v:= ?_) rfl (by kernel_rfl) (by kernel_rfl) (by kernel_rfl) (fun _ _ _ h=>h) (Or.inl ⟨by rfl,fun W hW=> ?_⟩) h0 ?_
   rotate_left
   ·clear hW
    go_simp
    try with_reducible rfl
   simp only[Act.put,List.getElem_toArray,List.getElem_cons_zero,List.getElem_cons_succ,List.setIfInBounds_toArray,List.set_cons_zero,List.set_cons_succ]
   refine wpAnyH_take (i:=6) (v:= ?_) rfl (by kernel_rfl) (by kernel_rfl) (by kernel_rfl) (fun _ _ _ h=>h) (Or.inl ⟨by rfl,fun W hW=> ?_⟩) h0 ?_
   rotate_left
   ·clear hW
    go_simp
    try with_reducible rfl
   simp only[Act.put,List.getElem_toArray,List.getElem_cons_zero,List.getElem_cons_succ,List.setIfInBounds_toArray,List.set_cons_zero,List.set_cons_succ]
   refine wpAnyH_take (i:=7) (v:= ?_) rfl (by kernel_rfl) (by kernel_rfl) (by kernel_rfl) (fun _ _ _ h=>h) (Or.inl ⟨by rfl,fun W hW=> ?_⟩) h0 ?_
   rotate_left
   ·clear hW
    go_simp
    try with_reducible rfl
   simp only[Act.put,List.getElem_toArray,List.getElem_cons_zero,List.getElem_cons_succ,List.setIfInBounds_toArray,List.set_cons_zero,List.set_cons_succ]
   refine wpAnyH_done (by kernel_rfl) ?_ _
   go_wp2_with fail
   go_ret3
   rw[HR.out]
   exact ⟨_,_,rfl,h0.2,fun _=>HY.out,h0.1⟩
end Go.Proofs.YtfdgehlobbeomaaGreatDoor
