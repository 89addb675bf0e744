/- TokImpl2, TokSpec3, LabPlain, TokSpec4. -/
import Derived.Test.YtfdgehlobbeomaaGreatDoorQM15
import Derived.Test.YtfdgehlobbeomaaGreatDoorQM17
import Derived.Deep.RegionHeld3
import Derived.Test.YtfdgehlobbeomaaGreatDoorQM14
set_option maxHeartbeats 2000000
set_option maxRecDepth 100000
namespace Go.Proofs.YtfdgehlobbeomaaGreatDoor
open Go.RowKit
set_option linter.unusedVariables false
set_option linter.unusedSimpArgs false
def PieceA(W:World)(m:MR)(r:List UInt8)(e:Ending)(w':World):Prop:=
 ∃(v:Value) (y:ByteArray),e=.returned (.tuple #[v,.string y,.int .i64 (m.code:Int)])∧w'.ownsRow W.heap.size 74 2 v m.ts.length (tcells m.ts)∧(m.code=0→y.data.toList=r.drop m.n)∧Below W.heap.size W w'
theorem PieceA.bad{W w':World}{m:MR}{r:List UInt8}{c:Nat}(hm:m=noMR c)(hc:c≠0)(hb:Below W.heap.size W w'):PieceA W m r (.returned (.tuple #[.slice none 0 0,.string ⟨#[]⟩,.int .i64 (c:Int)])) w':=by
 subst hm
 exact ⟨_,_,rfl,World.ownsRow_nil _ _ _ _,fun h=>absurd h hc,hb⟩
theorem cut_cases(s m:List UInt8):(Lib.index s m= -1∧Lib.cut s m=(s,[],false))∨ ∃k:Nat,Lib.index s m=(k:Int)∧Lib.cut s m=(s.take k,s.drop (k+m.length),true):=by
 by_cases h:0≤Lib.index s m
 ·obtain ⟨k,hk⟩:=Int.eq_ofNat_of_zero_le h
  refine .inr ⟨k,hk,?_⟩
  unfold Lib.cut
  rw[if_pos h,hk]
  rfl
 have:=Lib.index_ge s m
 refine .inl ⟨by omega,?_⟩
 unfold Lib.cut
 rw[if_neg h]
theorem own_tok1(W:World)(B:Nat)(hB:B≤W.heap.size)(k:Int)(s:ByteArray):(W.alloc (.cells #[.int .i64 k,.string s] 74)).ownsRow B 74 2 (.slice (some ⟨W.heap.size,0,none⟩) 1 1) ([⟨k,s⟩]:List TV).length (tcells [⟨k,s⟩]):=
 World.ownsRow_lit W #[.int .i64 k,.string s] 1 hB (by decide) rfl
theorem strCut(s m:ByteArray)(w:World)(hs:s.size≤16777216)(hM:MaxI w):
  Calls Tryz.prog 27 #[.string s,.string m] w fun e w'=>e=.returned (.tuple #[.string ⟨(Lib.cut s.data.toList m.data.toList).1.toArray⟩,.string ⟨(Lib.cut s.data.toList m.data.toList).2.1.toArray⟩,.bool (Lib.cut s.data.toList m.data.toList).2.2])∧Below w.heap.size w w':=by
 obtain ⟨mx,hmx⟩:=hM
 refine (Tryz.strings_Cut s m mx w (by omega) hmx).mono ?_
 rintro e w' ⟨rfl,n,rfl⟩
 exact ⟨rfl,below_drewN (Below.refl _ _) _⟩
theorem implPassed(s m:ByteArray)(w:World)(hs:s.size≤16777216)(hM:MaxI w):
  Calls Tryz.prog 98 #[.string s,.string m] w fun e w'=>PieceA w (skipR s.data.toList m.data.toList) s.data.toList e w':=by
 have CC:=strCut s m w hs hM
 rcases cut_cases s.data.toList m.data.toList with ⟨h1,h2⟩|⟨k,h1,h2⟩
 ·rw[h2]at CC
  have HR:Hid (skipR s.data.toList m.data.toList=noMR 1):=by show _=_;unfold skipR;rw[if_pos h1]
  have CC':=hidU CC
  clear CC h1 h2 hM
  go_enter Tryz.func98,Tryz.ntmps98
  go_wp2_with fail
  refine CC'.out.mono ?_
  rintro e w1 ⟨rfl,b1⟩
  go_wp2_with fail
  go_ret3
  exact PieceA.bad HR.out (by decide) b1
 rw[h2]at CC
 have HR:Hid (skipR s.data.toList m.data.toList=⟨[],k+m.data.toList.length,0⟩):=by show _=_;unfold skipR;rw[if_neg (by omega),h1];rfl
 obtain ⟨y,hy⟩: ∃y:ByteArray,(⟨(s.data.toList.drop (k+m.data.toList.length)).toArray⟩:ByteArray)=y:=⟨_,rfl⟩
 have HY:Hid (y.data.toList=s.data.toList.drop (k+m.data.toList.length)):=by show _=_;rw[←hy]
 rw[hy]at CC
 generalize (⟨(s.data.toList.take k).toArray⟩:ByteArray)=x at CC
 have CC':=hidU CC
 clear CC h1 h2 hM hy
 go_enter Tryz.func98,Tryz.ntmps98
 go_wp2_with fail
 refine CC'.out.mono ?_
 rintro e w1 ⟨rfl,b1⟩
 go_wp2_with fail
 go_ret3
 rw[HR.out]
 exact ⟨_,y,rfl,World.ownsRow_nil _ _ _ _,fun _=>HY.out,b1⟩
theorem implCData(s:ByteArray)(w:World)(hs:s.size≤16777216)(hM:MaxI w):
  Calls Tryz.prog 99 #[.string s] w fun e w'=>PieceA w (cdataR s.data.toList) s.data.toList e w':=by
 have CC:CB 27 #[.string s,.string ⟨#[93,93,62]⟩] w (.tuple #[.string ⟨(Lib.cut s.data.toList [93,93,62]).1.toArray⟩,.string ⟨(Lib.cut s.data.toList [93,93,62]).2.1.toArray⟩,.bool (Lib.cut s.data.toList [93,93,62]).2.2]):=strCut s ⟨#[93,93,62]⟩ w hs hM
 rcases cut_cases s.data.toList [93,93,62]with ⟨h1,h2⟩|⟨k,h1,h2⟩
 ·rw[h2]at CC
  have HR:Hid (cdataR s.data.toList=noMR 1):=by show _=_;unfold cdataR;rw[if_pos h1]
  have CC':=hidU CC
  clear CC h1 h2 hM
  go_enter Tryz.func99,Tryz.ntmps99
  go_wp2_with fail
  refine CC'.out.mono ?_
  rintro e w1 ⟨rfl,b1⟩
  go_wp2_with fail
  go_ret3
  exact PieceA.bad HR.out (by decide) b1
 rw[h2]at CC
 have hroom:=Lib.index_room s.data.toList [93,93,62] (by omega)
 rw[h1]at hroom
 have hl3:([93,93,62]:List UInt8).length=3:=rfl
 rw[hl3]at hroom CC
 have hsl:s.data.toList.length=s.size:=by simp
 obtain ⟨y,hy⟩: ∃y:ByteArray,(⟨(s.data.toList.drop (k+3)).toArray⟩:ByteArray)=y:=⟨_,rfl⟩
 have HY:Hid (y.data.toList=s.data.toList.drop (k+3)):=by show _=_;rw[←hy]
 obtain ⟨x,hx⟩: ∃x:ByteArray,(⟨(s.data.toList.take k).toArray⟩:ByteArray)=x:=⟨_,rfl⟩
 have HX:Hid (x=bytesV (s.data.toList.take k)):=hx.symm
 have hxs:x.size=k:=by
  rw[←hx]
  show (s.data.toList.take k).length=k
  rw[List.length_take]
  omega
 rw[show (s.data.toList.take k,s.data.toList.drop (k+3),true).fst=s.data.toList.take k from rfl,show (s.data.toList.take k,s.data.toList.drop (k+3),true).snd.fst=s.data.toList.drop (k+3) from rfl,hy,hx]at CC
 have CC':Hid (CB 27 #[.string s,.string ⟨#[93,93,62]⟩] w (.tuple #[.string x,.string y,.bool true])):=CC
 by_cases hk0:k=0
 ·have HR:Hid (cdataR s.data.toList=⟨[],3,0⟩):=by show _=_;unfold cdataR;rw[if_neg (by omega),if_pos (by rw[h1,hk0];rfl)]
  have hem:=empty_yes (hxs.trans hk0)
  have HY0:Hid (y.data.toList=s.data.toList.drop 3):=by show _=_;rw[HY.out,hk0]
  clear CC h1 h2 hM hy hx hroom hsl hk0 hxs
  go_enter Tryz.func99,Tryz.ntmps99
  go_wp2_with fail
  refine CC'.out.mono ?_
  rintro e w1 ⟨rfl,b1⟩
  go_wp2_with fail
  go_ret3
  rw[HR.out]
  exact ⟨_,y,rfl,World.ownsRow_nil _ _ _ _,fun _=>HY0.out,b1⟩
 have HR:Hid (cdataR s.data.toList=⟨[⟨3,x⟩],k+3,0⟩):=by show _=_;unfold cdataR;rw[if_neg (by omega),if_neg (by omega),h1,HX.out];rfl
 have hem:=empty_no (show 0<x.size by omega)
 have CN:Hid (∀W,CB 112 #[.int .i64 3,.string x] W (.agg #[.int .i64 3,.string x])):=fun W=>implNewToken 3 x W (by omega)
 clear CC h1 h2 hM hy hx hroom hsl hk0 hxs HX
 go_enter Tryz.func99,Tryz.ntmps99
 go_wp2_with fail
 refine CC'.out.mono ?_
 rintro e w1 ⟨rfl,b1⟩
 go_wp2_with fail
 refine (CN.out _).mono ?_
 rintro e w2 ⟨rfl,b2⟩
 have B2:=b1.trans (b2.mono b1.size)
 clear b1 b2 CC' CN
 go_wp2_with fail
 go_ret3
 rw[HR.out]
 exact ⟨_,y,rfl,own_tok1 w2 _ B2.size 3 x,fun _=>HY.out,B2.alloc B2.size _⟩
theorem implReadClose(s:ByteArray)(w:World)(hs:s.size≤16777216):
  Calls Tryz.prog 100 #[.string s] w fun e w'=>PieceA w (closeI s.data.toList) s.data.toList e w':=by
 have hsl:s.data.toList.length=s.size:=by simp
 have CI: ∀W,CS 113 #[.string s,.int .u8 62] W (.int .i64 (if s.data.toList.contains 62 then ((upB 62 s.data.toList).length:Int)else-1)):=fun W=>(Tryz.strings_IndexByte s 62 W).mono fun e w' h=>⟨by rw[h.1,show (62:Int).toNat.toUInt8=(62:UInt8) from rfl,←Lib.index_one,index_while],h.2.symm⟩
 cases hc:s.data.toList.contains 62 with
 |false=>
  rw[hc]at CI
  have CI':Hid (∀W,CS 113 #[.string s,.int .u8 62] W (.int .i64 (-1))):=CI
  have HR:Hid (closeI s.data.toList=noMR 1):=by show _=_;unfold closeI;rw[hc];rfl
  clear CI hc hsl
  go_enter Tryz.func100,Tryz.ntmps100
  go_wp2_with fail
  refine (CI'.out _).mono ?_
  rintro e w' ⟨rfl,rfl⟩
  go_wp2_with fail
  go_ret3
  exact PieceA.bad HR.out (by decide) (Below.refl _ _)
 |true=>
  have hw:=close_way s.data.toList hc
  have hub:=(up_beh 62 s.data.toList).1 hc
  obtain ⟨E,hE⟩: ∃E,(upB 62 s.data.toList).length=E:=⟨_,rfl⟩
  have hlen:=congrArg List.length hub
  rw[List.length_append,List.length_cons,hE,hsl]at hlen
  rw[hc,if_pos rfl,hE]at CI
  have CI':Hid (∀W,CS 113 #[.string s,.int .u8 62] W (.int .i64 (E:Int))):=CI
  have hup:(s.extract 0 E).data.toList=upB 62 s.data.toList:=by
   rw[take_data,←hE]
   unfold upB
   exact take_tw _ _
  have CC:=fun W=>implCutName (s.extract 0 E) W (by simp;omega)
  rw[hup]at CC
  obtain ⟨nm,hnm⟩: ∃x:ByteArray,(⟨((upB 62 s.data.toList).takeWhile nmB).toArray⟩:ByteArray)=x:=⟨_,rfl⟩
  obtain ⟨bh,hbh⟩: ∃x:ByteArray,(⟨((upB 62 s.data.toList).dropWhile nmB).toArray⟩:ByteArray)=x:=⟨_,rfl⟩
  have hnd:nm.data.toList=(upB 62 s.data.toList).takeWhile nmB:=by rw[←hnm]
  have hbd:bh.data.toList=(upB 62 s.data.toList).dropWhile nmB:=by rw[←hbh]
  have hns:nm.size≤16777216:=by
   have h1:=(List.takeWhile_sublist nmB (l:=upB 62 s.data.toList)).length_le
   have h2:nm.size=nm.data.toList.length:=by simp
   rw[h2,hnd]
   omega
  have hbs:bh.size≤16777216:=by
   have h1:=(List.dropWhile_sublist nmB (l:=upB 62 s.data.toList)).length_le
   have h2:bh.size=bh.data.toList.length:=by simp
   rw[h2,hbd]
   omega
  rw[hnm,hbh]at CC
  have CC':Hid (∀W,CB 114 #[.string (s.extract 0 E)] W (.tuple #[.string nm,.string bh])):=CC
  rw[hE,←hnd,←hbd]at hw
  have HW:Hid (closeI s.data.toList=if nameOkB nm.data.toList=true∧bh.data.toList.all blkB=true then ⟨[⟨2,nm⟩],E+1,0⟩else noMR 2):=by
   show _=_
   rw[hw]
   unfold bytesV
   rw[Lib.mk_data]
  have CO:Hid (∀W,CS 115 #[.string nm] W (.bool (nameOkB nm.data.toList))):=fun W=>implNameOk nm W
  have CT:Hid (∀W,CB 79 #[.string bh] W (.string ⟨(Lib.trimS bh.data.toList blanks4).toArray⟩)):=fun W=>implTrim bh W (by omega)
  have CN:Hid (∀W,CB 112 #[.int .i64 2,.string nm] W (.agg #[.int .i64 2,.string nm])):=fun W=>implNewToken 2 nm W hns
  have hElt:E+1≤s.size:=by omega
  have hE0: ¬(E:Int)<0:=by omega
  have hEu:(E:Int)≤16777216:=by omega
  have hwr:IntKind.i64.wrap ((E:Int)+1)=(E:Int)+1:=by rw[IntKind.wrap_i64];omega
  have hEa:(E:Int)+1≤(s.size:Int):=by omega
  have hEb:0≤(E:Int)+1:=by omega
  have hEc:((E:Int)+1).toNat=E+1:=by omega
  have HY:Hid ((s.extract (E+1) s.size).data.toList=s.data.toList.drop (E+1)):=drop_data s (E+1)
  clear CI hc hsl hw hub hE hlen hup CC hnm hbh hnd hbd
  cases hok:nameOkB nm.data.toList with
  |false=>
   rw[hok]at CO
   have HR:Hid (closeI s.data.toList=noMR 2):=by have:=HW.out;rw[hok,if_neg (by simp)]at this;exact this
   clear HW hok
   go_enter Tryz.func100,Tryz.ntmps100
   go_wp2_with fail
   refine (CI'.out _).mono ?_
   rintro e w' ⟨rfl,rfl⟩
   go_wp2_with fail
   refine (CC'.out _).mono ?_
   rintro e w1 ⟨rfl,b1⟩
   go_wp2_with fail
   refine (CO.out _).mono ?_
   rintro e w' ⟨rfl,rfl⟩
   go_wp2_with fail
   go_ret3
   exact PieceA.bad HR.out (by decide) b1
  |true=>
   rw[hok]at CO
   obtain ⟨tr,htr⟩: ∃x:ByteArray,(⟨(Lib.trimS bh.data.toList blanks4).toArray⟩:ByteArray)=x:=⟨_,rfl⟩
   have htd:tr.data.toList=Lib.trimS bh.data.toList blanks4:=by rw[←htr]
   have htl:tr.data.toList.length=tr.size:=by simp
   have hti:=trim_none bh.data.toList
   rw[htr]at CT
   cases hal:bh.data.toList.all blkB with
   |false=>
    have HR:Hid (closeI s.data.toList=noMR 2):=by have:=HW.out;rw[hok,hal,if_neg (by simp)]at this;exact this
    have hne:0<tr.size:=by
     rw[←htl,htd]
     refine List.length_pos_iff.2 fun e=> ?_
     have:=hti.1 e
     rw[hal]at this
     cases this
    have hem:=empty_no hne
    clear HW hok hal hti htl htd htr hne
    go_enter Tryz.func100,Tryz.ntmps100
    go_wp2_with fail
    refine (CI'.out _).mono ?_
    rintro e w' ⟨rfl,rfl⟩
    go_wp2_with fail
    refine (CC'.out _).mono ?_
    rintro e w1 ⟨rfl,b1⟩
    go_wp2_with fail
    refine (CO.out _).mono ?_
    rintro e w' ⟨rfl,rfl⟩
    go_wp2_with fail
    refine (CT.out _).mono ?_
    rintro e w2 ⟨rfl,b2⟩
    have B2:=b1.trans (b2.mono b1.size)
    go_wp2_with fail
    go_ret3
    exact PieceA.bad HR.out (by decide) B2
   |true=>
    have HR:Hid (closeI s.data.toList=⟨[⟨2,nm⟩],E+1,0⟩):=by have:=HW.out;rw[hok,hal,if_pos ⟨rfl,rfl⟩]at this;exact this
    have hz:tr.size=0:=by rw[←htl,htd,hti.2 hal];rfl
    have hem:=empty_yes hz
    clear HW hok hal hti htl htd htr hz
    go_enter Tryz.func100,Tryz.ntmps100
    go_wp2_with fail
    refine (CI'.out _).mono ?_
    rintro e w' ⟨rfl,rfl⟩
    go_wp2_with fail
    refine (CC'.out _).mono ?_
    rintro e w1 ⟨rfl,b1⟩
    go_wp2_with fail
    refine (CO.out _).mono ?_
    rintro e w' ⟨rfl,rfl⟩
    go_wp2_with fail
    refine (CT.out _).mono ?_
    rintro e w2 ⟨rfl,b2⟩
    have B2:=b1.trans (b2.mono b1.size)
    clear b1 b2 CI' CC' CO CT
    go_wp2_with fail
    go_upto_region 7 with fail
    refine wp_region_held_drew (S:=fun W=>Below w.heap.size w W) (by kernel_rfl) B2.drew (fun h0=> ?_)
    clear B2
    refine wpAnyH_take (i:=0) (v:= ?_) rfl (by kernel_rfl) (by kernel_rfl) (by kernel_rfl) (fun _ _ _ h=>h) (Or.inl ⟨by rfl,fun W hW=> ?_⟩) h0 ?_
    rotate_left
    ·clear hW
     go_simp
     try with_reducible rfl
    simp only[Act.put,List.getElem_toArray,List.getElem_cons_zero,List.getElem_cons_succ,List.setIfInBounds_toArray,List.set_cons_zero,List.set_cons_succ]
    refine wpAnyH_take (i:=3) (v:= ?_) rfl (by kernel_rfl) (by kernel_rfl) (by kernel_rfl) (fun _ _ _ h=>h) (Or.inl ⟨by rfl,fun W hW=> ?_⟩) h0 ?_
    rotate_left
    ·clear hW
     go_simp
     try with_reducible rfl
    simp only[Act.put,List.getElem_toArray,List.getElem_cons_zero,List.getElem_cons_succ,List.setIfInBounds_toArray,List.set_cons_zero,List.set_cons_succ]
    refine wpAnyH_take (i:=4) (v:= ?_) rfl (by kernel_rfl) (by kernel_rfl) (by kernel_rfl) (fun _ _ _ h=>h) (Or.inl ⟨by rfl,fun W hW=> ?_⟩) h0 ?_
    rotate_left
    ·clear hW
     go_simp
     try with_reducible rfl
    simp only[Act.put,List.getElem_toArray,List.getElem_cons_zero,List.getElem_cons_succ,List.setIfInBounds_toArray,List.set_cons_zero,List.set_cons_succ]
    refine wpAnyH_take (i:=5) (v:= ?_) rfl (by kernel_rfl) (by kernel_rfl) (by kernel_rfl) (fun _ _ _ h=>h) (Or.inl ⟨by rfl,fun W hW=> ?_⟩) h0 ?_
    rotate_left
    ·clear hW
     go_simp
     try with_reducible rfl
    simp only[Act.put,List.getElem_toArray,List.getElem_cons_zero,List.getElem_cons_succ,List.setIfInBounds_toArray,List.set_cons_zero,List.set_cons_succ]
    refine wpAnyH_take (i:=6) (v:= ?_) rfl (by kernel_rfl) (by kernel_rfl) (by kernel_rfl) (fun _ _ _ h=>h) (Or.inl ⟨by rfl,fun W hW=> ?_⟩) h0 ?_
    rotate_left
    ·clear hW
     go_simp
     try with_reducible rfl
    simp only[Act.put,List.getElem_toArray,List.getElem_cons_zero,List.getElem_cons_succ,List.setIfInBounds_toArray,List.set_cons_zero,List.set_cons_succ]
    refine wpAnyH_ready (rs:=[1]) (by kernel_rfl) (by simp) (AllReadyH.cons rfl (fun K hK=> ?_) AllReadyH.nil)
    go_simp
    go_wp2_with (go_at_call 112;refine (CN.out _).mono ?_;rintro e w3 ⟨rfl,bq⟩)
    refine hK.out _ _ (h0.trans (bq.mono h0.size)) (fun h1=> ?_)
    clear hK K bq h0
    have hs1:=h1.size
    refine wpAnyH_ready (rs:=[2]) (by kernel_rfl) (by simp) (AllReadyH.cons rfl (fun K hK=> ?_) AllReadyH.nil)
    go_simp
    refine hK.out _ _ (h1.alloc h1.size _) (fun h2=> ?_)
    clear hK K h1
    refine wpAnyH_take (i:=7) (v:= ?_) rfl (by kernel_rfl) (by kernel_rfl) (by kernel_rfl) (fun _ _ _ h=>h) (Or.inl ⟨by rfl,fun W hW=> ?_⟩) h2 ?_
    rotate_left
    ·clear hW
     go_simp
     try with_reducible rfl
    simp only[Act.put,List.getElem_toArray,List.getElem_cons_zero,List.getElem_cons_succ,List.setIfInBounds_toArray,List.set_cons_zero,List.set_cons_succ]
    refine wpAnyH_take (i:=8) (v:= ?_) rfl (by kernel_rfl) (by kernel_rfl) (by kernel_rfl) (fun _ _ _ h=>h) (Or.inl ⟨by rfl,fun W hW=> ?_⟩) h2 ?_
    rotate_left
    ·clear hW
     go_simp
     try with_reducible rfl
    simp only[Act.put,List.getElem_toArray,List.getElem_cons_zero,List.getElem_cons_succ,List.setIfInBounds_toArray,List.set_cons_zero,List.set_cons_succ]
    refine wpAnyH_take (i:=9) (v:= ?_) rfl (by kernel_rfl) (by kernel_rfl) (by kernel_rfl) (fun _ _ _ h=>h) (Or.inl ⟨by rfl,fun W hW=> ?_⟩) h2 ?_
    rotate_left
    ·clear hW
     go_simp
     try with_reducible rfl
    simp only[Act.put,List.getElem_toArray,List.getElem_cons_zero,List.getElem_cons_succ,List.setIfInBounds_toArray,List.set_cons_zero,List.set_cons_succ]
    refine wpAnyH_done (by kernel_rfl) ?_ _
    go_wp2_with fail
    go_ret3
    rw[HR.out]
    exact ⟨_,_,rfl,own_tok1 w3 _ hs1 2 nm,fun _=>HY.out,h2⟩
end Go.Proofs.YtfdgehlobbeomaaGreatDoor
namespace Go.Proofs.YtfdgehlobbeomaaGreatDoor
open Go.RowKit

theorem Tryz.infoTk:(Tryz.prog.info? 74).map (fun i=>(i.zero,i.size,i.bytes))=some (some (.agg #[.int .i64 0,.string ⟨#[]⟩]),2,24):=by kernel_rfl
end Go.Proofs.YtfdgehlobbeomaaGreatDoor
