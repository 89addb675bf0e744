/- UrlOkSpec, Draw2Walk, Draw4Walk. -/
import Derived.Test.YtgcbaphbiaimoaaGreatDoorQU34
set_option maxHeartbeats 8000000
set_option maxRecDepth 100000
namespace Go.Proofs.YtgcbaphbiaimoaaGreatDoor
open Go.RowKit
attribute [local go_sem↓] Go.wp_at_zero Go.wp_at_succ
theorem okS_1(l:List UInt8):okS 1 l=okL 1 l:=by unfold okS;simp
theorem okS_2(l:List UInt8):okS 2 l=okL 2 l:=by unfold okS;simp
theorem ziVz(a b:ByteArray):(a.toList==b.toList)=decide (toL a=toL b):=by
 rw[ByteArray.toList_eq,ByteArray.toList_eq]
 by_cases h:a.data.toList=b.data.toList
 ·rw[h,decide_eq_true (show toL a=toL b from h)];exact beq_self_eq_true _
 rw[decide_eq_false (show ¬toL a=toL b from h)];exact beq_eq_false_iff_ne.2 h
def gOk(u:UV):Bool:=decide (z4z u.s≠0)&&(hOk u.h&&(decide (1≤u.p∧u.p≤65535)&&(zSz u.a&&(u.q||decide (u.r.size=0)))))
theorem zolz(u:UV):uOk u=(gOk u&&(okL 1 (toL u.a)&&(decide (toL (plB 1 u.a)=toL u.a)&&(decide (toL (zLz u.a)=toL u.a)&&(okL 2 (toL u.r)&&decide (toL (plB 2 u.r)=toL u.r)))))):=by
 unfold uOk gOk
 simp only[Bool.and_assoc]
 rfl
theorem zomz(s k n p:Int)(nm a r:ByteArray)(q:Bool)(x0 x1 x2 x3 x4 x5 x6 x7:Int)(w:World)(hs:nm.size≤1048576)(ha:a.size≤1048576)(hr:r.size≤1048576):
  Calls Tryz.prog 14 #[.agg #[.int .i64 s,.int .i64 k,.string nm,.int .i64 n,.int .i64 x0,.int .i64 x1,.int .i64 x2,.int .i64 x3,.int .i64 x4,.int .i64 x5,.int .i64 x6,.int .i64 x7,.int .i64 p,.string a,.bool q,.string r]] w fun e w'=>e=.returned (.bool (uOk ⟨s,⟨k,nm,n,[x0,x1,x2,x3,x4,x5,x6,x7]⟩,p,a,q,r⟩))∧Below w.heap.size w w':=by
 have HX:Hid (uOk ⟨s,⟨k,nm,n,[x0,x1,x2,x3,x4,x5,x6,x7]⟩,p,a,q,r⟩=(gOk ⟨s,⟨k,nm,n,[x0,x1,x2,x3,x4,x5,x6,x7]⟩,p,a,q,r⟩&&(okL 1 (toL a)&&(decide (toL (plB 1 a)=toL a)&&(decide (toL (zLz a)=toL a)&&(okL 2 (toL r)&&decide (toL (plB 2 r)=toL r))))))):=zolz _
 have HG:Hid (gOk ⟨s,⟨k,nm,n,[x0,x1,x2,x3,x4,x5,x6,x7]⟩,p,a,q,r⟩=(decide (z4z s≠0)&&(hOk ⟨k,nm,n,[x0,x1,x2,x3,x4,x5,x6,x7]⟩&&(decide (1≤p∧p≤65535)&&(zSz a&&(q||decide (r.size=0))))))):=rfl
 generalize uOk ⟨s,⟨k,nm,n,[x0,x1,x2,x3,x4,x5,x6,x7]⟩,p,a,q,r⟩=ans at HX⊢
 generalize gOk ⟨s,⟨k,nm,n,[x0,x1,x2,x3,x4,x5,x6,x7]⟩,p,a,q,r⟩=g at HX HG
 have CD:Hid (∀W,CS 37 #[.int .i64 s] W (.int .i64 (z4z s))):=fun W=>zbbz s W
 have CH:Hid (∀W,CB 38 #[.agg #[.int .i64 k,.string nm,.int .i64 n,.int .i64 x0,.int .i64 x1,.int .i64 x2,.int .i64 x3,.int .i64 x4,.int .i64 x5,.int .i64 x6,.int .i64 x7]] W (.bool (hOk ⟨k,nm,n,[x0,x1,x2,x3,x4,x5,x6,x7]⟩))):=fun W=>zlNz k n nm x0 x1 x2 x3 x4 x5 x6 x7 W hs
 have C1:Hid (∀W,CB 40 #[.string a,.int .i64 1] W (.bool (okL 1 (toL a)))):=fun W=>by
  have h:=zckz a 1 W (by omega)
  rw[okS_1]at h
  exact h
 have C4:Hid (∀W,CB 40 #[.string r,.int .i64 2] W (.bool (okL 2 (toL r)))):=fun W=>by
  have h:=zckz r 2 W (by omega)
  rw[okS_2]at h
  exact h
 have C2:Hid (∀W,CB 41 #[.string a,.int .i64 1] W (.string (plB 1 a))):=fun W=>j5z a 1 W (by omega)
 have C5:Hid (∀W,CB 41 #[.string r,.int .i64 2] W (.string (plB 2 r))):=fun W=>j5z r 2 W (by omega)
 have C3:Hid (∀W,CB 42 #[.string a] W (.string (zLz a))):=fun W=>ziyz a W ha
 generalize okL 1 (toL a)=b1 at HX C1
 generalize okL 2 (toL r)=b4 at HX C4
 have HQ2:Hid (((plB 1 a).toList==a.toList)=decide (toL (plB 1 a)=toL a)):=ziVz _ _
 have HQ3:Hid (((zLz a).toList==a.toList)=decide (toL (zLz a)=toL a)):=ziVz _ _
 have HQ5:Hid (((plB 2 r).toList==r.toList)=decide (toL (plB 2 r)=toL r)):=ziVz _ _
 generalize decide (toL (plB 1 a)=toL a)=b2 at HX HQ2
 generalize decide (toL (zLz a)=toL a)=b3 at HX HQ3
 generalize decide (toL (plB 2 r)=toL r)=b5 at HX HQ5
 generalize plB 1 a=PA at C2 HQ2
 generalize zLz a=DA at C3 HQ3
 generalize plB 2 r=PR at C5 HQ5
 generalize hOk ⟨k,nm,n,[x0,x1,x2,x3,x4,x5,x6,x7]⟩=bh at HG CH
 obtain ⟨O,hO⟩: ∃O,O=w.alloc (.cells #[.int .i64 s,.int .i64 k,.string nm,.int .i64 n,.int .i64 x0,.int .i64 x1,.int .i64 x2,.int .i64 x3,.int .i64 x4,.int .i64 x5,.int .i64 x6,.int .i64 x7,.int .i64 p,.string a,.bool q,.string r] 28):=⟨_,rfl⟩
 have HU:Hid (PU w (zjz s k nm n x0 x1 x2 x3 x4 x5 x6 x7 p a q r) O):=by
  rw[hO]
  exact PU.new w _ _
 have c0:=HU.out.1.1 0 _ rfl
 go_enter Tryz.func14,Tryz.ntmps14
 go_upto_region 1 with fail
 rw[←hO]
 clear hO
 go_cut [39] (fun v wx=>v=.bool (!g)∧PU w (zjz s k nm n x0 x1 x2 x3 x4 x5 x6 x7 p a q r) wx)
 case first=>
  clear HX C1 C2 C3 C4 C5 HQ2 HQ3 HQ5
  go_wp2_with fail
  refine (CD.out _).mono ?_
  rintro e w' ⟨rfl,rfl⟩
  clear CD c0
  generalize z4z s=D at HG⊢
  by_cases hD:D=0
  ·have HA:Hid (g=false):=by show _=_;rw[HG.out];simp[hD]
   go_wp2_with fail
   go_meet
   exact ⟨by rw[HA.out];rfl,HU.out⟩
  have hDb:(D==0)=false:=beq_eq_false_iff_ne.2 hD
  have c1:=HU.out.1.1 1 _ rfl
  have c2:=HU.out.1.1 2 _ rfl
  have c3:=HU.out.1.1 3 _ rfl
  have c4:=HU.out.1.1 4 _ rfl
  have c5:=HU.out.1.1 5 _ rfl
  have c6:=HU.out.1.1 6 _ rfl
  have c7:=HU.out.1.1 7 _ rfl
  have c8:=HU.out.1.1 8 _ rfl
  have c9:=HU.out.1.1 9 _ rfl
  have c10:=HU.out.1.1 10 _ rfl
  have c11:=HU.out.1.1 11 _ rfl
  go_wp2_with fail
  refine (CH.out _).mono ?_
  rintro e w1 ⟨rfl,hb1⟩
  clear c1 c2 c3 c4 c5 c6 c7 c8 c9 c10 c11
  have HU1:Hid (PU w (zjz s k nm n x0 x1 x2 x3 x4 x5 x6 x7 p a q r) w1):=HU.out.later hb1
  clear hb1 HU CH
  cases bh with
  |false=>
   have HA:Hid (g=false):=by show _=_;rw[HG.out];simp
   go_wp2_with fail
   go_meet
   exact ⟨by rw[HA.out];rfl,HU1.out⟩
  |true=>
   have c12:=HU1.out.1.1 12 _ rfl
   go_wp2_with fail
   refine (zi1z _ _ _ _).mono ?_
   rintro e w' ⟨rfl,rfl⟩
   clear c12
   by_cases hp:1≤p∧p≤65535
   ·rw[decide_eq_true hp]at HG⊢
    have c13:=HU1.out.1.1 13 _ rfl
    by_cases h0:a.size=0
    ·have he:=ztz h0
     have hr:=zdqz h0
     have HA:Hid (g=false):=by show _=_;rw[HG.out];rw[hr];simp
     go_wp2_with fail
     go_meet
     exact ⟨by rw[HA.out];rfl,HU1.out⟩
    have he:=zwz (show 0<a.size by omega)
    by_cases h47:a[0].toNat=47
    ·have hr:=zfPz (by omega) h47
     have c14:=HU1.out.1.1 14 _ rfl
     have c15:=HU1.out.1.1 15 _ rfl
     cases q with
     |true=>
      have HA:Hid (g=true):=by show _=_;rw[HG.out];rw[hr];simp[hD]
      go_wp2_with fail
      go_meet
      exact ⟨by rw[HA.out];rfl,HU1.out⟩
     |false=>
      by_cases hz:r.size=0
      ·have he2:=ztz hz
       have HA:Hid (g=true):=by show _=_;rw[HG.out];rw[hr];simp[hD,hz]
       go_wp2_with fail
       go_meet
       exact ⟨by rw[HA.out];rfl,HU1.out⟩
      have he2:=zwz (show 0<r.size by omega)
      have HA:Hid (g=false):=by show _=_;rw[HG.out];simp[hz]
      go_wp2_with fail
      go_meet
      exact ⟨by rw[HA.out];rfl,HU1.out⟩
    have hr:=zhtz (by omega) h47
    have HA:Hid (g=false):=by show _=_;rw[HG.out];rw[hr];simp
    go_wp2_with fail
    go_meet
    exact ⟨by rw[HA.out];rfl,HU1.out⟩
   rw[decide_eq_false hp]at HG⊢
   have HA:Hid (g=false):=by show _=_;rw[HG.out];simp
   go_wp2_with fail
   go_meet
   exact ⟨by rw[HA.out];rfl,HU1.out⟩
 obtain ⟨rfl,hu⟩:=hcut
 clear HG CD CH HU c0
 cases g with
 |false=>
  have HA:Hid (ans=false):=by show _=_;rw[HX.out];rfl
  clear HX
  go_wp2_with fail
  go_ret
  exact ⟨zez HA.out.symm,hu.2⟩
 |true=>
  have e2:=HQ2.out
  have e3:=HQ3.out
  have e5:=HQ5.out
  clear HQ2 HQ3 HQ5
  go_upto_region 3 with fail
  refine wp_region_held_drew (S:=PU w (zjz s k nm n x0 x1 x2 x3 x4 x5 x6 x7 p a q r)) (by kernel_rfl) (PU.drew hu) (fun h0=> ?_)
  clear hu
  refine wpAnyH_take (i:=0) (v:= ?_) rfl (by kernel_rfl) (by kernel_rfl) (by kernel_rfl) (fun _ _ _ h=>h) (Or.inl ⟨by rfl,fun W hW=> ?_⟩) h0 ?_
  rotate_left
  ·clear hW
   go_simp
   try with_reducible rfl
  simp only[Act.put,List.getElem_toArray,List.getElem_cons_zero,List.setIfInBounds_toArray,List.set_cons_zero,List.set_cons_succ]
  refine wpAnyH_take (i:=1) (v:= ?_) rfl (by kernel_rfl) (by kernel_rfl) (by kernel_rfl) (fun _ _ _ h=>h) (Or.inl ⟨by rfl,fun W hW=> ?_⟩) h0 ?_
  rotate_left
  ·have c:=hW.1.1 13 _ rfl
   go_simp
   try with_reducible rfl
  simp only[Act.put,List.getElem_toArray,List.getElem_cons_zero,List.getElem_cons_succ,List.setIfInBounds_toArray,List.set_cons_zero,List.set_cons_succ]
  refine wpAnyH_ready (rs:=[2]) (by kernel_rfl) (by simp) (AllReadyH.cons rfl (fun K hK=> ?_) AllReadyH.nil)
  go_simp
  go_wp2_with (go_at_call 40;refine (C1.out _).mono ?_;rintro e wq1 ⟨rfl,hb1⟩)
  refine hK.out _ _ (PU.later h0 hb1) (fun h1=> ?_)
  clear hK K
  clear h0
  refine wpAnyH_take (i:=3) (v:= ?_) rfl (by kernel_rfl) (by kernel_rfl) (by kernel_rfl) (fun _ _ _ h=>h) (Or.inl ⟨by rfl,fun W hW=> ?_⟩) h1 ?_
  rotate_left
  ·clear hW
   go_simp
   try with_reducible rfl
  simp only[Act.put,List.getElem_toArray,List.getElem_cons_zero,List.getElem_cons_succ,List.setIfInBounds_toArray,List.set_cons_zero,List.set_cons_succ]
  cases b1 with
  |false=>
   refine wpAnyH_take (i:=4) (v:=undef) rfl (by kernel_rfl) (by kernel_rfl) (by kernel_rfl) (fun _ _ _ h=>h) (Or.inr ⟨by rfl,rfl⟩) h1 ?_
   simp only[Act.put,List.getElem_toArray,List.getElem_cons_zero,List.getElem_cons_succ,List.setIfInBounds_toArray,List.set_cons_zero,List.set_cons_succ]
   refine wpAnyH_take (i:=5) (v:=undef) rfl (by kernel_rfl) (by kernel_rfl) (by kernel_rfl) (fun _ _ _ h=>h) (Or.inr ⟨by rfl,rfl⟩) h1 ?_
   simp only[Act.put,List.getElem_toArray,List.getElem_cons_zero,List.getElem_cons_succ,List.setIfInBounds_toArray,List.set_cons_zero,List.set_cons_succ]
   refine wpAnyH_take (i:=6) (v:=undef) rfl (by kernel_rfl) (by kernel_rfl) (by kernel_rfl) (fun _ _ _ h=>h) (Or.inr ⟨by rfl,rfl⟩) h1 ?_
   simp only[Act.put,List.getElem_toArray,List.getElem_cons_zero,List.getElem_cons_succ,List.setIfInBounds_toArray,List.set_cons_zero,List.set_cons_succ]
   refine wpAnyH_take (i:=7) (v:=undef) rfl (by kernel_rfl) (by kernel_rfl) (by kernel_rfl) (fun _ _ _ h=>h) (Or.inr ⟨by rfl,rfl⟩) h1 ?_
   simp only[Act.put,List.getElem_toArray,List.getElem_cons_zero,List.getElem_cons_succ,List.setIfInBounds_toArray,List.set_cons_zero,List.set_cons_succ]
   refine wpAnyH_take (i:=8) (v:=undef) rfl (by kernel_rfl) (by kernel_rfl) (by kernel_rfl) (fun _ _ _ h=>h) (Or.inr ⟨by rfl,rfl⟩) h1 ?_
   simp only[Act.put,List.getElem_toArray,List.getElem_cons_zero,List.getElem_cons_succ,List.setIfInBounds_toArray,List.set_cons_zero,List.set_cons_succ]
   refine wpAnyH_take (i:=9) (v:=undef) rfl (by kernel_rfl) (by kernel_rfl) (by kernel_rfl) (fun _ _ _ h=>h) (Or.inr ⟨by rfl,rfl⟩) h1 ?_
   simp only[Act.put,List.getElem_toArray,List.getElem_cons_zero,List.getElem_cons_succ,List.setIfInBounds_toArray,List.set_cons_zero,List.set_cons_succ]
   refine wpAnyH_take (i:=10) (v:= ?_) rfl (by kernel_rfl) (by kernel_rfl) (by kernel_rfl) (fun _ _ _ h=>h) (Or.inl ⟨by rfl,fun W hW=> ?_⟩) h1 ?_
   rotate_left
   ·clear hW
    go_simp
    try with_reducible rfl
   simp only[Act.put,List.getElem_toArray,List.getElem_cons_zero,List.getElem_cons_succ,List.setIfInBounds_toArray,List.set_cons_zero,List.set_cons_succ]
   refine wpAnyH_take (i:=11) (v:= ?_) rfl (by kernel_rfl) (by kernel_rfl) (by kernel_rfl) (fun _ _ _ h=>h) (Or.inl ⟨by rfl,fun W hW=> ?_⟩) h1 ?_
   rotate_left
   ·clear hW
    go_simp
    try with_reducible rfl
   simp only[Act.put,List.getElem_toArray,List.getElem_cons_zero,List.getElem_cons_succ,List.setIfInBounds_toArray,List.set_cons_zero,List.set_cons_succ]
   refine wpAnyH_take (i:=12) (v:=undef) rfl (by kernel_rfl) (by kernel_rfl) (by kernel_rfl) (fun _ _ _ h=>h) (Or.inr ⟨by rfl,rfl⟩) h1 ?_
   simp only[Act.put,List.getElem_toArray,List.getElem_cons_zero,List.getElem_cons_succ,List.setIfInBounds_toArray,List.set_cons_zero,List.set_cons_succ]
   refine wpAnyH_take (i:=13) (v:=undef) rfl (by kernel_rfl) (by kernel_rfl) (by kernel_rfl) (fun _ _ _ h=>h) (Or.inr ⟨by rfl,rfl⟩) h1 ?_
   simp only[Act.put,List.getElem_toArray,List.getElem_cons_zero,List.getElem_cons_succ,List.setIfInBounds_toArray,List.set_cons_zero,List.set_cons_succ]
   refine wpAnyH_take (i:=14) (v:=undef) rfl (by kernel_rfl) (by kernel_rfl) (by kernel_rfl) (fun _ _ _ h=>h) (Or.inr ⟨by rfl,rfl⟩) h1 ?_
   simp only[Act.put,List.getElem_toArray,List.getElem_cons_zero,List.getElem_cons_succ,List.setIfInBounds_toArray,List.set_cons_zero,List.set_cons_succ]
   refine wpAnyH_take (i:=15) (v:=undef) rfl (by kernel_rfl) (by kernel_rfl) (by kernel_rfl) (fun _ _ _ h=>h) (Or.inr ⟨by rfl,rfl⟩) h1 ?_
   simp only[Act.put,List.getElem_toArray,List.getElem_cons_zero,List.getElem_cons_succ,List.setIfInBounds_toArray,List.set_cons_zero,List.set_cons_succ]
   refine wpAnyH_take (i:=16) (v:=undef) rfl (by kernel_rfl) (by kernel_rfl) (by kernel_rfl) (fun _ _ _ h=>h) (Or.inr ⟨by rfl,rfl⟩) h1 ?_
   simp only[Act.put,List.getElem_toArray,List.getElem_cons_zero,List.getElem_cons_succ,List.setIfInBounds_toArray,List.set_cons_zero,List.set_cons_succ]
   refine wpAnyH_take (i:=17) (v:=undef) rfl (by kernel_rfl) (by kernel_rfl) (by kernel_rfl) (fun _ _ _ h=>h) (Or.inr ⟨by rfl,rfl⟩) h1 ?_
   simp only[Act.put,List.getElem_toArray,List.getElem_cons_zero,List.getElem_cons_succ,List.setIfInBounds_toArray,List.set_cons_zero,List.set_cons_succ]
   refine wpAnyH_take (i:=18) (v:= ?_) rfl (by kernel_rfl) (by kernel_rfl) (by kernel_rfl) (fun _ _ _ h=>h) (Or.inl ⟨by rfl,fun W hW=> ?_⟩) h1 ?_
   rotate_left
   ·clear hW
    go_simp
    try with_reducible rfl
   simp only[Act.put,List.getElem_toArray,List.getElem_cons_zero,List.getElem_cons_succ,List.setIfInBounds_toArray,List.set_cons_zero,List.set_cons_succ]
   refine wpAnyH_take (i:=19) (v:= ?_) rfl (by kernel_rfl) (by kernel_rfl) (by kernel_rfl) (fun _ _ _ h=>h) (Or.inl ⟨by rfl,fun W hW=> ?_⟩) h1 ?_
   rotate_left
   ·clear hW
    go_simp
    try with_reducible rfl
   simp only[Act.put,List.getElem_toArray,List.getElem_cons_zero,List.getElem_cons_succ,List.setIfInBounds_toArray,List.set_cons_zero,List.set_cons_succ]
   refine wpAnyH_take (i:=20) (v:=undef) rfl (by kernel_rfl) (by kernel_rfl) (by kernel_rfl) (fun _ _ _ h=>h) (Or.inr ⟨by rfl,rfl⟩) h1 ?_
   simp only[Act.put,List.getElem_toArray,List.getElem_cons_zero,List.getElem_cons_succ,List.setIfInBounds_toArray,List.set_cons_zero,List.set_cons_succ]
   refine wpAnyH_take (i:=21) (v:=undef) rfl (by kernel_rfl) (by kernel_rfl) (by kernel_rfl) (fun _ _ _ h=>h) (Or.inr ⟨by rfl,rfl⟩) h1 ?_
   simp only[Act.put,List.getElem_toArray,List.getElem_cons_zero,List.getElem_cons_succ,List.setIfInBounds_toArray,List.set_cons_zero,List.set_cons_succ]
   refine wpAnyH_take (i:=22) (v:=undef) rfl (by kernel_rfl) (by kernel_rfl) (by kernel_rfl) (fun _ _ _ h=>h) (Or.inr ⟨by rfl,rfl⟩) h1 ?_
   simp only[Act.put,List.getElem_toArray,List.getElem_cons_zero,List.getElem_cons_succ,List.setIfInBounds_toArray,List.set_cons_zero,List.set_cons_succ]
   refine wpAnyH_take (i:=23) (v:= ?_) rfl (by kernel_rfl) (by kernel_rfl) (by kernel_rfl) (fun _ _ _ h=>h) (Or.inl ⟨by rfl,fun W hW=> ?_⟩) h1 ?_
   rotate_left
   ·clear hW
    go_simp
    try with_reducible rfl
   simp only[Act.put,List.getElem_toArray,List.getElem_cons_zero,List.getElem_cons_succ,List.setIfInBounds_toArray,List.set_cons_zero,List.set_cons_succ]
   refine wpAnyH_take (i:=24) (v:= ?_) rfl (by kernel_rfl) (by kernel_rfl) (by kernel_rfl) (fun _ _ _ h=>h) (Or.inl ⟨by rfl,fun W hW=> ?_⟩) h1 ?_
   rotate_left
   ·clear hW
    go_simp
    try with_reducible rfl
   simp only[Act.put,List.getElem_toArray,List.getElem_cons_zero,List.getElem_cons_succ,List.setIfInBounds_toArray,List.set_cons_zero,List.set_cons_succ]
   refine wpAnyH_take (i:=25) (v:=undef) rfl (by kernel_rfl) (by kernel_rfl) (by kernel_rfl) (fun _ _ _ h=>h) (Or.inr ⟨by rfl,rfl⟩) h1 ?_
   simp only[Act.put,List.getElem_toArray,List.getElem_cons_zero,List.getElem_cons_succ,List.setIfInBounds_toArray,List.set_cons_zero,List.set_cons_succ]
   refine wpAnyH_take (i:=26) (v:=undef) rfl (by kernel_rfl) (by kernel_rfl) (by kernel_rfl) (fun _ _ _ h=>h) (Or.inr ⟨by rfl,rfl⟩) h1 ?_
   simp only[Act.put,List.getElem_toArray,List.getElem_cons_zero,List.getElem_cons_succ,List.setIfInBounds_toArray,List.set_cons_zero,List.set_cons_succ]
   refine wpAnyH_take (i:=27) (v:=undef) rfl (by kernel_rfl) (by kernel_rfl) (by kernel_rfl) (fun _ _ _ h=>h) (Or.inr ⟨by rfl,rfl⟩) h1 ?_
   simp only[Act.put,List.getElem_toArray,List.getElem_cons_zero,List.getElem_cons_succ,List.setIfInBounds_toArray,List.set_cons_zero,List.set_cons_succ]
   refine wpAnyH_take (i:=28) (v:=undef) rfl (by kernel_rfl) (by kernel_rfl) (by kernel_rfl) (fun _ _ _ h=>h) (Or.inr ⟨by rfl,rfl⟩) h1 ?_
   simp only[Act.put,List.getElem_toArray,List.getElem_cons_zero,List.getElem_cons_succ,List.setIfInBounds_toArray,List.set_cons_zero,List.set_cons_succ]
   refine wpAnyH_take (i:=29) (v:=undef) rfl (by kernel_rfl) (by kernel_rfl) (by kernel_rfl) (fun _ _ _ h=>h) (Or.inr ⟨by rfl,rfl⟩) h1 ?_
   simp only[Act.put,List.getElem_toArray,List.getElem_cons_zero,List.getElem_cons_succ,List.setIfInBounds_toArray,List.set_cons_zero,List.set_cons_succ]
   refine wpAnyH_take (i:=30) (v:=undef) rfl (by kernel_rfl) (by kernel_rfl) (by kernel_rfl) (fun _ _ _ h=>h) (Or.inr ⟨by rfl,rfl⟩) h1 ?_
   simp only[Act.put,List.getElem_toArray,List.getElem_cons_zero,List.getElem_cons_succ,List.setIfInBounds_toArray,List.set_cons_zero,List.set_cons_succ]
   refine wpAnyH_take (i:=31) (v:= ?_) rfl (by kernel_rfl) (by kernel_rfl) (by kernel_rfl) (fun _ _ _ h=>h) (Or.inl ⟨by rfl,fun W hW=> ?_⟩) h1 ?_
   rotate_left
   ·clear hW
    go_simp
    try with_reducible rfl
   simp only[Act.put,List.getElem_toArray,List.getElem_cons_zero,List.getElem_cons_succ,List.setIfInBounds_toArray,List.set_cons_zero,List.set_cons_succ]
   refine wpAnyH_take (i:=32) (v:= ?_) rfl (by kernel_rfl) (by kernel_rfl) (by kernel_rfl) (fun _ _ _ h=>h) (Or.inl ⟨by rfl,fun W hW=> ?_⟩) h1 ?_
   rotate_left
   ·clear hW
    go_simp
    try with_reducible rfl
   simp only[Act.put,List.getElem_toArray,List.getElem_cons_zero,List.getElem_cons_succ,List.setIfInBounds_toArray,List.set_cons_zero,List.set_cons_succ]
   have HZ:Hid (ans=false):=by show _=_;rw[HX.out];rfl
   clear HX
   refine wpAnyH_done (by kernel_rfl) ?_ _
   go_wp2_with fail
   go_ret
   exact ⟨zez HZ.out.symm,h1.2⟩
  |true=>
   refine wpAnyH_take (i:=4) (v:= ?_) rfl (by kernel_rfl) (by kernel_rfl) (by kernel_rfl) (fun _ _ _ h=>h) (Or.inl ⟨by rfl,fun W hW=> ?_⟩) h1 ?_
   rotate_left
   ·clear hW
    go_simp
    try with_reducible rfl
   simp only[Act.put,List.getElem_toArray,List.getElem_cons_zero,List.getElem_cons_succ,List.setIfInBounds_toArray,List.set_cons_zero,List.set_cons_succ]
   refine wpAnyH_take (i:=5) (v:= ?_) rfl (by kernel_rfl) (by kernel_rfl) (by kernel_rfl) (fun _ _ _ h=>h) (Or.inl ⟨by rfl,fun W hW=> ?_⟩) h1 ?_
   rotate_left
   ·have c:=hW.1.1 13 _ rfl
    go_simp
    try with_reducible rfl
   simp only[Act.put,List.getElem_toArray,List.getElem_cons_zero,List.getElem_cons_succ,List.setIfInBounds_toArray,List.set_cons_zero,List.set_cons_succ]
   refine wpAnyH_take (i:=7) (v:= ?_) rfl (by kernel_rfl) (by kernel_rfl) (by kernel_rfl) (fun _ _ _ h=>h) (Or.inl ⟨by rfl,fun W hW=> ?_⟩) h1 ?_
   rotate_left
   ·clear hW
    go_simp
    try with_reducible rfl
   simp only[Act.put,List.getElem_toArray,List.getElem_cons_zero,List.getElem_cons_succ,List.setIfInBounds_toArray,List.set_cons_zero,List.set_cons_succ]
   refine wpAnyH_take (i:=8) (v:= ?_) rfl (by kernel_rfl) (by kernel_rfl) (by kernel_rfl) (fun _ _ _ h=>h) (Or.inl ⟨by rfl,fun W hW=> ?_⟩) h1 ?_
   rotate_left
   ·have c:=hW.1.1 13 _ rfl
    go_simp
    try with_reducible rfl
   simp only[Act.put,List.getElem_toArray,List.getElem_cons_zero,List.getElem_cons_succ,List.setIfInBounds_toArray,List.set_cons_zero,List.set_cons_succ]
   refine wpAnyH_ready (rs:=[6]) (by kernel_rfl) (by simp) (AllReadyH.cons rfl (fun K hK=> ?_) AllReadyH.nil)
   go_simp
   go_wp2_with (go_at_call 41;refine (C2.out _).mono ?_;rintro e wq2 ⟨rfl,hb2⟩)
   refine hK.out _ _ (PU.later h1 hb2) (fun h2=> ?_)
   clear hK K
   clear h1
   refine wpAnyH_take (i:=9) (v:= ?_) rfl (by kernel_rfl) (by kernel_rfl) (by kernel_rfl) (fun _ _ _ h=>h) (Or.inl ⟨by rfl,fun W hW=> ?_⟩) h2 ?_
   rotate_left
   ·clear hW
    go_simp
    try with_reducible rfl
   simp only[Act.put,List.getElem_toArray,List.getElem_cons_zero,List.getElem_cons_succ,List.setIfInBounds_toArray,List.set_cons_zero,List.set_cons_succ]
   refine wpAnyH_take (i:=10) (v:= ?_) rfl (by kernel_rfl) (by kernel_rfl) (by kernel_rfl) (fun _ _ _ h=>h) (Or.inl ⟨by rfl,fun W hW=> ?_⟩) h2 ?_
   rotate_left
   ·clear hW
    go_simp
    try with_reducible rfl
   simp only[Act.put,List.getElem_toArray,List.getElem_cons_zero,List.getElem_cons_succ,List.setIfInBounds_toArray,List.set_cons_zero,List.set_cons_succ]
   refine wpAnyH_take (i:=11) (v:= ?_) rfl (by kernel_rfl) (by kernel_rfl) (by kernel_rfl) (fun _ _ _ h=>h) (Or.inl ⟨by rfl,fun W hW=> ?_⟩) h2 ?_
   rotate_left
   ·clear hW
    go_simp
    try with_reducible rfl
   simp only[Act.put,List.getElem_toArray,List.getElem_cons_zero,List.getElem_cons_succ,List.setIfInBounds_toArray,List.set_cons_zero,List.set_cons_succ]
   cases b2 with
   |false=>
    refine wpAnyH_take (i:=12) (v:=undef) rfl (by kernel_rfl) (by kernel_rfl) (by kernel_rfl) (fun _ _ _ h=>h) (Or.inr ⟨by rfl,rfl⟩) h2 ?_
    simp only[Act.put,List.getElem_toArray,List.getElem_cons_zero,List.getElem_cons_succ,List.setIfInBounds_toArray,List.set_cons_zero,List.set_cons_succ]
    refine wpAnyH_take (i:=13) (v:=undef) rfl (by kernel_rfl) (by kernel_rfl) (by kernel_rfl) (fun _ _ _ h=>h) (Or.inr ⟨by rfl,rfl⟩) h2 ?_
    simp only[Act.put,List.getElem_toArray,List.getElem_cons_zero,List.getElem_cons_succ,List.setIfInBounds_toArray,List.set_cons_zero,List.set_cons_succ]
    refine wpAnyH_take (i:=14) (v:=undef) rfl (by kernel_rfl) (by kernel_rfl) (by kernel_rfl) (fun _ _ _ h=>h) (Or.inr ⟨by rfl,rfl⟩) h2 ?_
    simp only[Act.put,List.getElem_toArray,List.getElem_cons_zero,List.getElem_cons_succ,List.setIfInBounds_toArray,List.set_cons_zero,List.set_cons_succ]
    refine wpAnyH_take (i:=15) (v:=undef) rfl (by kernel_rfl) (by kernel_rfl) (by kernel_rfl) (fun _ _ _ h=>h) (Or.inr ⟨by rfl,rfl⟩) h2 ?_
    simp only[Act.put,List.getElem_toArray,List.getElem_cons_zero,List.getElem_cons_succ,List.setIfInBounds_toArray,List.set_cons_zero,List.set_cons_succ]
    refine wpAnyH_take (i:=16) (v:=undef) rfl (by kernel_rfl) (by kernel_rfl) (by kernel_rfl) (fun _ _ _ h=>h) (Or.inr ⟨by rfl,rfl⟩) h2 ?_
    simp only[Act.put,List.getElem_toArray,List.getElem_cons_zero,List.getElem_cons_succ,List.setIfInBounds_toArray,List.set_cons_zero,List.set_cons_succ]
    refine wpAnyH_take (i:=17) (v:=undef) rfl (by kernel_rfl) (by kernel_rfl) (by kernel_rfl) (fun _ _ _ h=>h) (Or.inr ⟨by rfl,rfl⟩) h2 ?_
    simp only[Act.put,List.getElem_toArray,List.getElem_cons_zero,List.getElem_cons_succ,List.setIfInBounds_toArray,List.set_cons_zero,List.set_cons_succ]
    refine wpAnyH_take (i:=18) (v:= ?_) rfl (by kernel_rfl) (by kernel_rfl) (by kernel_rfl) (fun _ _ _ h=>h) (Or.inl ⟨by rfl,fun W hW=> ?_⟩) h2 ?_
    rotate_left
    ·clear hW
     go_simp
     try with_reducible rfl
    simp only[Act.put,List.getElem_toArray,List.getElem_cons_zero,List.getElem_cons_succ,List.setIfInBounds_toArray,List.set_cons_zero,List.set_cons_succ]
    refine wpAnyH_take (i:=19) (v:= ?_) rfl (by kernel_rfl) (by kernel_rfl) (by kernel_rfl) (fun _ _ _ h=>h) (Or.inl ⟨by rfl,fun W hW=> ?_⟩) h2 ?_
    rotate_left
    ·clear hW
     go_simp
     try with_reducible rfl
    simp only[Act.put,List.getElem_toArray,List.getElem_cons_zero,List.getElem_cons_succ,List.setIfInBounds_toArray,List.set_cons_zero,List.set_cons_succ]
    refine wpAnyH_take (i:=20) (v:=undef) rfl (by kernel_rfl) (by kernel_rfl) (by kernel_rfl) (fun _ _ _ h=>h) (Or.inr ⟨by rfl,rfl⟩) h2 ?_
    simp only[Act.put,List.getElem_toArray,List.getElem_cons_zero,List.getElem_cons_succ,List.setIfInBounds_toArray,List.set_cons_zero,List.set_cons_succ]
    refine wpAnyH_take (i:=21) (v:=undef) rfl (by kernel_rfl) (by kernel_rfl) (by kernel_rfl) (fun _ _ _ h=>h) (Or.inr ⟨by rfl,rfl⟩) h2 ?_
    simp only[Act.put,List.getElem_toArray,List.getElem_cons_zero,List.getElem_cons_succ,List.setIfInBounds_toArray,List.set_cons_zero,List.set_cons_succ]
    refine wpAnyH_take (i:=22) (v:=undef) rfl (by kernel_rfl) (by kernel_rfl) (by kernel_rfl) (fun _ _ _ h=>h) (Or.inr ⟨by rfl,rfl⟩) h2 ?_
    simp only[Act.put,List.getElem_toArray,List.getElem_cons_zero,List.getElem_cons_succ,List.setIfInBounds_toArray,List.set_cons_zero,List.set_cons_succ]
    refine wpAnyH_take (i:=23) (v:= ?_) rfl (by kernel_rfl) (by kernel_rfl) (by kernel_rfl) (fun _ _ _ h=>h) (Or.inl ⟨by rfl,fun W hW=> ?_⟩) h2 ?_
    rotate_left
    ·clear hW
     go_simp
     try with_reducible rfl
    simp only[Act.put,List.getElem_toArray,List.getElem_cons_zero,List.getElem_cons_succ,List.setIfInBounds_toArray,List.set_cons_zero,List.set_cons_succ]
    refine wpAnyH_take (i:=24) (v:= ?_) rfl (by kernel_rfl) (by kernel_rfl) (by kernel_rfl) (fun _ _ _ h=>h) (Or.inl ⟨by rfl,fun W hW=> ?_⟩) h2 ?_
    rotate_left
    ·clear hW
     go_simp
     try with_reducible rfl
    simp only[Act.put,List.getElem_toArray,List.getElem_cons_zero,List.getElem_cons_succ,List.setIfInBounds_toArray,List.set_cons_zero,List.set_cons_succ]
    refine wpAnyH_take (i:=25) (v:=undef) rfl (by kernel_rfl) (by kernel_rfl) (by kernel_rfl) (fun _ _ _ h=>h) (Or.inr ⟨by rfl,rfl⟩) h2 ?_
    simp only[Act.put,List.getElem_toArray,List.getElem_cons_zero,List.getElem_cons_succ,List.setIfInBounds_toArray,List.set_cons_zero,List.set_cons_succ]
    refine wpAnyH_take (i:=26) (v:=undef) rfl (by kernel_rfl) (by kernel_rfl) (by kernel_rfl) (fun _ _ _ h=>h) (Or.inr ⟨by rfl,rfl⟩) h2 ?_
    simp only[Act.put,List.getElem_toArray,List.getElem_cons_zero,List.getElem_cons_succ,List.setIfInBounds_toArray,List.set_cons_zero,List.set_cons_succ]
    refine wpAnyH_take (i:=27) (v:=undef) rfl (by kernel_rfl) (by kernel_rfl) (by kernel_rfl) (fun _ _ _ h=>h) (Or.inr ⟨by rfl,rfl⟩) h2 ?_
    simp only[Act.put,List.getElem_toArray,List.getElem_cons_zero,List.getElem_cons_succ,List.setIfInBounds_toArray,List.set_cons_zero,List.set_cons_succ]
    refine wpAnyH_take (i:=28) (v:=undef) rfl (by kernel_rfl) (by kernel_rfl) (by kernel_rfl) (fun _ _ _ h=>h) (Or.inr ⟨by rfl,rfl⟩) h2 ?_
    simp only[Act.put,List.getElem_toArray,List.getElem_cons_zero,List.getElem_cons_succ,List.setIfInBounds_toArray,List.set_cons_zero,List.set_cons_succ]
    refine wpAnyH_take (i:=29) (v:=undef) rfl (by kernel_rfl) (by kernel_rfl) (by kernel_rfl) (fun _ _ _ h=>h) (Or.inr ⟨by rfl,rfl⟩) h2 ?_
    simp only[Act.put,List.getElem_toArray,List.getElem_cons_zero,List.getElem_cons_succ,List.setIfInBounds_toArray,List.set_cons_zero,List.set_cons_succ]
    refine wpAnyH_take (i:=30) (v:=undef) rfl (by kernel_rfl) (by kernel_rfl) (by kernel_rfl) (fun _ _ _ h=>h) (Or.inr ⟨by rfl,rfl⟩) h2 ?_
    simp only[Act.put,List.getElem_toArray,List.getElem_cons_zero,List.getElem_cons_succ,List.setIfInBounds_toArray,List.set_cons_zero,List.set_cons_succ]
    refine wpAnyH_take (i:=31) (v:= ?_) rfl (by kernel_rfl) (by kernel_rfl) (by kernel_rfl) (fun _ _ _ h=>h) (Or.inl ⟨by rfl,fun W hW=> ?_⟩) h2 ?_
    rotate_left
    ·clear hW
     go_simp
     try with_reducible rfl
    simp only[Act.put,List.getElem_toArray,List.getElem_cons_zero,List.getElem_cons_succ,List.setIfInBounds_toArray,List.set_cons_zero,List.set_cons_succ]
    refine wpAnyH_take (i:=32) (v:= ?_) rfl (by kernel_rfl) (by kernel_rfl) (by kernel_rfl) (fun _ _ _ h=>h) (Or.inl ⟨by rfl,fun W hW=> ?_⟩) h2 ?_
    rotate_left
    ·clear hW
     go_simp
     try with_reducible rfl
    simp only[Act.put,List.getElem_toArray,List.getElem_cons_zero,List.getElem_cons_succ,List.setIfInBounds_toArray,List.set_cons_zero,List.set_cons_succ]
    have HZ:Hid (ans=false):=by show _=_;rw[HX.out];rfl
    clear HX
    refine wpAnyH_done (by kernel_rfl) ?_ _
    go_wp2_with fail
    go_ret
    exact ⟨zez HZ.out.symm,h2.2⟩
   |true=>
    refine wpAnyH_take (i:=12) (v:= ?_) rfl (by kernel_rfl) (by kernel_rfl) (by kernel_rfl) (fun _ _ _ h=>h) (Or.inl ⟨by rfl,fun W hW=> ?_⟩) h2 ?_
    rotate_left
    ·clear hW
     go_simp
     try with_reducible rfl
    simp only[Act.put,List.getElem_toArray,List.getElem_cons_zero,List.getElem_cons_succ,List.setIfInBounds_toArray,List.set_cons_zero,List.set_cons_succ]
    refine wpAnyH_take (i:=13) (v:= ?_) rfl (by kernel_rfl) (by kernel_rfl) (by kernel_rfl) (fun _ _ _ h=>h) (Or.inl ⟨by rfl,fun W hW=> ?_⟩) h2 ?_
    rotate_left
    ·have c:=hW.1.1 13 _ rfl
     go_simp
     try with_reducible rfl
    simp only[Act.put,List.getElem_toArray,List.getElem_cons_zero,List.getElem_cons_succ,List.setIfInBounds_toArray,List.set_cons_zero,List.set_cons_succ]
    refine wpAnyH_take (i:=15) (v:= ?_) rfl (by kernel_rfl) (by kernel_rfl) (by kernel_rfl) (fun _ _ _ h=>h) (Or.inl ⟨by rfl,fun W hW=> ?_⟩) h2 ?_
    rotate_left
    ·clear hW
     go_simp
     try with_reducible rfl
    simp only[Act.put,List.getElem_toArray,List.getElem_cons_zero,List.getElem_cons_succ,List.setIfInBounds_toArray,List.set_cons_zero,List.set_cons_succ]
    refine wpAnyH_take (i:=16) (v:= ?_) rfl (by kernel_rfl) (by kernel_rfl) (by kernel_rfl) (fun _ _ _ h=>h) (Or.inl ⟨by rfl,fun W hW=> ?_⟩) h2 ?_
    rotate_left
    ·have c:=hW.1.1 13 _ rfl
     go_simp
     try with_reducible rfl
    simp only[Act.put,List.getElem_toArray,List.getElem_cons_zero,List.getElem_cons_succ,List.setIfInBounds_toArray,List.set_cons_zero,List.set_cons_succ]
    refine wpAnyH_ready (rs:=[14]) (by kernel_rfl) (by simp) (AllReadyH.cons rfl (fun K hK=> ?_) AllReadyH.nil)
    go_simp
    go_wp2_with (go_at_call 42;refine (C3.out _).mono ?_;rintro e wq3 ⟨rfl,hb3⟩)
    refine hK.out _ _ (PU.later h2 hb3) (fun h3=> ?_)
    clear hK K
    clear h2
    refine wpAnyH_take (i:=17) (v:= ?_) rfl (by kernel_rfl) (by kernel_rfl) (by kernel_rfl) (fun _ _ _ h=>h) (Or.inl ⟨by rfl,fun W hW=> ?_⟩) h3 ?_
    rotate_left
    ·clear hW
     go_simp
     try with_reducible rfl
    simp only[Act.put,List.getElem_toArray,List.getElem_cons_zero,List.getElem_cons_succ,List.setIfInBounds_toArray,List.set_cons_zero,List.set_cons_succ]
    refine wpAnyH_take (i:=18) (v:= ?_) rfl (by kernel_rfl) (by kernel_rfl) (by kernel_rfl) (fun _ _ _ h=>h) (Or.inl ⟨by rfl,fun W hW=> ?_⟩) h3 ?_
    rotate_left
    ·clear hW
     go_simp
     try with_reducible rfl
    simp only[Act.put,List.getElem_toArray,List.getElem_cons_zero,List.getElem_cons_succ,List.setIfInBounds_toArray,List.set_cons_zero,List.set_cons_succ]
    refine wpAnyH_take (i:=19) (v:= ?_) rfl (by kernel_rfl) (by kernel_rfl) (by kernel_rfl) (fun _ _ _ h=>h) (Or.inl ⟨by rfl,fun W hW=> ?_⟩) h3 ?_
    rotate_left
    ·clear hW
     go_simp
     try with_reducible rfl
    simp only[Act.put,List.getElem_toArray,List.getElem_cons_zero,List.getElem_cons_succ,List.setIfInBounds_toArray,List.set_cons_zero,List.set_cons_succ]
    cases b3 with
    |false=>
     refine wpAnyH_take (i:=20) (v:=undef) rfl (by kernel_rfl) (by kernel_rfl) (by kernel_rfl) (fun _ _ _ h=>h) (Or.inr ⟨by rfl,rfl⟩) h3 ?_
     simp only[Act.put,List.getElem_toArray,List.getElem_cons_zero,List.getElem_cons_succ,List.setIfInBounds_toArray,List.set_cons_zero,List.set_cons_succ]
     refine wpAnyH_take (i:=21) (v:=undef) rfl (by kernel_rfl) (by kernel_rfl) (by kernel_rfl) (fun _ _ _ h=>h) (Or.inr ⟨by rfl,rfl⟩) h3 ?_
     simp only[Act.put,List.getElem_toArray,List.getElem_cons_zero,List.getElem_cons_succ,List.setIfInBounds_toArray,List.set_cons_zero,List.set_cons_succ]
     refine wpAnyH_take (i:=22) (v:=undef) rfl (by kernel_rfl) (by kernel_rfl) (by kernel_rfl) (fun _ _ _ h=>h) (Or.inr ⟨by rfl,rfl⟩) h3 ?_
     simp only[Act.put,List.getElem_toArray,List.getElem_cons_zero,List.getElem_cons_succ,List.setIfInBounds_toArray,List.set_cons_zero,List.set_cons_succ]
     refine wpAnyH_take (i:=23) (v:= ?_) rfl (by kernel_rfl) (by kernel_rfl) (by kernel_rfl) (fun _ _ _ h=>h) (Or.inl ⟨by rfl,fun W hW=> ?_⟩) h3 ?_
     rotate_left
     ·clear hW
      go_simp
      try with_reducible rfl
     simp only[Act.put,List.getElem_toArray,List.getElem_cons_zero,List.getElem_cons_succ,List.setIfInBounds_toArray,List.set_cons_zero,List.set_cons_succ]
     refine wpAnyH_take (i:=24) (v:= ?_) rfl (by kernel_rfl) (by kernel_rfl) (by kernel_rfl) (fun _ _ _ h=>h) (Or.inl ⟨by rfl,fun W hW=> ?_⟩) h3 ?_
     rotate_left
     ·clear hW
      go_simp
      try with_reducible rfl
     simp only[Act.put,List.getElem_toArray,List.getElem_cons_zero,List.getElem_cons_succ,List.setIfInBounds_toArray,List.set_cons_zero,List.set_cons_succ]
     refine wpAnyH_take (i:=25) (v:=undef) rfl (by kernel_rfl) (by kernel_rfl) (by kernel_rfl) (fun _ _ _ h=>h) (Or.inr ⟨by rfl,rfl⟩) h3 ?_
     simp only[Act.put,List.getElem_toArray,List.getElem_cons_zero,List.getElem_cons_succ,List.setIfInBounds_toArray,List.set_cons_zero,List.set_cons_succ]
     refine wpAnyH_take (i:=26) (v:=undef) rfl (by kernel_rfl) (by kernel_rfl) (by kernel_rfl) (fun _ _ _ h=>h) (Or.inr ⟨by rfl,rfl⟩) h3 ?_
     simp only[Act.put,List.getElem_toArray,List.getElem_cons_zero,List.getElem_cons_succ,List.setIfInBounds_toArray,List.set_cons_zero,List.set_cons_succ]
     refine wpAnyH_take (i:=27) (v:=undef) rfl (by kernel_rfl) (by kernel_rfl) (by kernel_rfl) (fun _ _ _ h=>h) (Or.inr ⟨by rfl,rfl⟩) h3 ?_
     simp only[Act.put,List.getElem_toArray,List.getElem_cons_zero,List.getElem_cons_succ,List.setIfInBounds_toArray,List.set_cons_zero,List.set_cons_succ]
     refine wpAnyH_take (i:=28) (v:=undef) rfl (by kernel_rfl) (by kernel_rfl) (by kernel_rfl) (fun _ _ _ h=>h) (Or.inr ⟨by rfl,rfl⟩) h3 ?_
     simp only[Act.put,List.getElem_toArray,List.getElem_cons_zero,List.getElem_cons_succ,List.setIfInBounds_toArray,List.set_cons_zero,List.set_cons_succ]
     refine wpAnyH_take (i:=29) (v:=undef) rfl (by kernel_rfl) (by kernel_rfl) (by kernel_rfl) (fun _ _ _ h=>h) (Or.inr ⟨by rfl,rfl⟩) h3 ?_
     simp only[Act.put,List.getElem_toArray,List.getElem_cons_zero,List.getElem_cons_succ,List.setIfInBounds_toArray,List.set_cons_zero,List.set_cons_succ]
     refine wpAnyH_take (i:=30) (v:=undef) rfl (by kernel_rfl) (by kernel_rfl) (by kernel_rfl) (fun _ _ _ h=>h) (Or.inr ⟨by rfl,rfl⟩) h3 ?_
     simp only[Act.put,List.getElem_toArray,List.getElem_cons_zero,List.getElem_cons_succ,List.setIfInBounds_toArray,List.set_cons_zero,List.set_cons_succ]
     refine wpAnyH_take (i:=31) (v:= ?_) rfl (by kernel_rfl) (by kernel_rfl) (by kernel_rfl) (fun _ _ _ h=>h) (Or.inl ⟨by rfl,fun W hW=> ?_⟩) h3 ?_
     rotate_left
     ·clear hW
      go_simp
      try with_reducible rfl
     simp only[Act.put,List.getElem_toArray,List.getElem_cons_zero,List.getElem_cons_succ,List.setIfInBounds_toArray,List.set_cons_zero,List.set_cons_succ]
     refine wpAnyH_take (i:=32) (v:= ?_) rfl (by kernel_rfl) (by kernel_rfl) (by kernel_rfl) (fun _ _ _ h=>h) (Or.inl ⟨by rfl,fun W hW=> ?_⟩) h3 ?_
     rotate_left
     ·clear hW
      go_simp
      try with_reducible rfl
     simp only[Act.put,List.getElem_toArray,List.getElem_cons_zero,List.getElem_cons_succ,List.setIfInBounds_toArray,List.set_cons_zero,List.set_cons_succ]
     have HZ:Hid (ans=false):=by show _=_;rw[HX.out];rfl
     clear HX
     refine wpAnyH_done (by kernel_rfl) ?_ _
     go_wp2_with fail
     go_ret
     exact ⟨zez HZ.out.symm,h3.2⟩
    |true=>
     refine wpAnyH_take (i:=20) (v:= ?_) rfl (by kernel_rfl) (by kernel_rfl) (by kernel_rfl) (fun _ _ _ h=>h) (Or.inl ⟨by rfl,fun W hW=> ?_⟩) h3 ?_
     rotate_left
     ·clear hW
      go_simp
      try with_reducible rfl
     simp only[Act.put,List.getElem_toArray,List.getElem_cons_zero,List.getElem_cons_succ,List.setIfInBounds_toArray,List.set_cons_zero,List.set_cons_succ]
     refine wpAnyH_take (i:=21) (v:= ?_) rfl (by kernel_rfl) (by kernel_rfl) (by kernel_rfl) (fun _ _ _ h=>h) (Or.inl ⟨by rfl,fun W hW=> ?_⟩) h3 ?_
     rotate_left
     ·have c:=hW.1.1 15 _ rfl
      go_simp
      try with_reducible rfl
     simp only[Act.put,List.getElem_toArray,List.getElem_cons_zero,List.getElem_cons_succ,List.setIfInBounds_toArray,List.set_cons_zero,List.set_cons_succ]
     refine wpAnyH_ready (rs:=[22]) (by kernel_rfl) (by simp) (AllReadyH.cons rfl (fun K hK=> ?_) AllReadyH.nil)
     go_simp
     go_wp2_with (go_at_call 40;refine (C4.out _).mono ?_;rintro e wq4 ⟨rfl,hb4⟩)
     refine hK.out _ _ (PU.later h3 hb4) (fun h4=> ?_)
     clear hK K
     clear h3
     refine wpAnyH_take (i:=23) (v:= ?_) rfl (by kernel_rfl) (by kernel_rfl) (by kernel_rfl) (fun _ _ _ h=>h) (Or.inl ⟨by rfl,fun W hW=> ?_⟩) h4 ?_
     rotate_left
     ·clear hW
      go_simp
      try with_reducible rfl
     simp only[Act.put,List.getElem_toArray,List.getElem_cons_zero,List.getElem_cons_succ,List.setIfInBounds_toArray,List.set_cons_zero,List.set_cons_succ]
     refine wpAnyH_take (i:=24) (v:= ?_) rfl (by kernel_rfl) (by kernel_rfl) (by kernel_rfl) (fun _ _ _ h=>h) (Or.inl ⟨by rfl,fun W hW=> ?_⟩) h4 ?_
     rotate_left
     ·clear hW
      go_simp
      try with_reducible rfl
     simp only[Act.put,List.getElem_toArray,List.getElem_cons_zero,List.getElem_cons_succ,List.setIfInBounds_toArray,List.set_cons_zero,List.set_cons_succ]
     cases b4 with
     |false=>
      refine wpAnyH_take (i:=25) (v:=undef) rfl (by kernel_rfl) (by kernel_rfl) (by kernel_rfl) (fun _ _ _ h=>h) (Or.inr ⟨by rfl,rfl⟩) h4 ?_
      simp only[Act.put,List.getElem_toArray,List.getElem_cons_zero,List.getElem_cons_succ,List.setIfInBounds_toArray,List.set_cons_zero,List.set_cons_succ]
      refine wpAnyH_take (i:=26) (v:=undef) rfl (by kernel_rfl) (by kernel_rfl) (by kernel_rfl) (fun _ _ _ h=>h) (Or.inr ⟨by rfl,rfl⟩) h4 ?_
      simp only[Act.put,List.getElem_toArray,List.getElem_cons_zero,List.getElem_cons_succ,List.setIfInBounds_toArray,List.set_cons_zero,List.set_cons_succ]
      refine wpAnyH_take (i:=27) (v:=undef) rfl (by kernel_rfl) (by kernel_rfl) (by kernel_rfl) (fun _ _ _ h=>h) (Or.inr ⟨by rfl,rfl⟩) h4 ?_
      simp only[Act.put,List.getElem_toArray,List.getElem_cons_zero,List.getElem_cons_succ,List.setIfInBounds_toArray,List.set_cons_zero,List.set_cons_succ]
      refine wpAnyH_take (i:=28) (v:=undef) rfl (by kernel_rfl) (by kernel_rfl) (by kernel_rfl) (fun _ _ _ h=>h) (Or.inr ⟨by rfl,rfl⟩) h4 ?_
      simp only[Act.put,List.getElem_toArray,List.getElem_cons_zero,List.getElem_cons_succ,List.setIfInBounds_toArray,List.set_cons_zero,List.set_cons_succ]
      refine wpAnyH_take (i:=29) (v:=undef) rfl (by kernel_rfl) (by kernel_rfl) (by kernel_rfl) (fun _ _ _ h=>h) (Or.inr ⟨by rfl,rfl⟩) h4 ?_
      simp only[Act.put,List.getElem_toArray,List.getElem_cons_zero,List.getElem_cons_succ,List.setIfInBounds_toArray,List.set_cons_zero,List.set_cons_succ]
      refine wpAnyH_take (i:=30) (v:=undef) rfl (by kernel_rfl) (by kernel_rfl) (by kernel_rfl) (fun _ _ _ h=>h) (Or.inr ⟨by rfl,rfl⟩) h4 ?_
      simp only[Act.put,List.getElem_toArray,List.getElem_cons_zero,List.getElem_cons_succ,List.setIfInBounds_toArray,List.set_cons_zero,List.set_cons_succ]
      refine wpAnyH_take (i:=31) (v:= ?_) rfl (by kernel_rfl) (by kernel_rfl) (by kernel_rfl) (fun _ _ _ h=>h) (Or.inl ⟨by rfl,fun W hW=> ?_⟩) h4 ?_
      rotate_left
      ·clear hW
       go_simp
       try with_reducible rfl
      simp only[Act.put,List.getElem_toArray,List.getElem_cons_zero,List.getElem_cons_succ,List.setIfInBounds_toArray,List.set_cons_zero,List.set_cons_succ]
      refine wpAnyH_take (i:=32) (v:= ?_) rfl (by kernel_rfl) (by kernel_rfl) (by kernel_rfl) (fun _ _ _ h=>h) (Or.inl ⟨by rfl,fun W hW=> ?_⟩) h4 ?_
      rotate_left
      ·clear hW
       go_simp
       try with_reducible rfl
      simp only[Act.put,List.getElem_toArray,List.getElem_cons_zero,List.getElem_cons_succ,List.setIfInBounds_toArray,List.set_cons_zero,List.set_cons_succ]
      have HZ:Hid (ans=false):=by show _=_;rw[HX.out];rfl
      clear HX
      refine wpAnyH_done (by kernel_rfl) ?_ _
      go_wp2_with fail
      go_ret
      exact ⟨zez HZ.out.symm,h4.2⟩
     |true=>
      refine wpAnyH_take (i:=25) (v:= ?_) rfl (by kernel_rfl) (by kernel_rfl) (by kernel_rfl) (fun _ _ _ h=>h) (Or.inl ⟨by rfl,fun W hW=> ?_⟩) h4 ?_
      rotate_left
      ·clear hW
       go_simp
       try with_reducible rfl
      simp only[Act.put,List.getElem_toArray,List.getElem_cons_zero,List.getElem_cons_succ,List.setIfInBounds_toArray,List.set_cons_zero,List.set_cons_succ]
      refine wpAnyH_take (i:=26) (v:= ?_) rfl (by kernel_rfl) (by kernel_rfl) (by kernel_rfl) (fun _ _ _ h=>h) (Or.inl ⟨by rfl,fun W hW=> ?_⟩) h4 ?_
      rotate_left
      ·have c:=hW.1.1 15 _ rfl
       go_simp
       try with_reducible rfl
      simp only[Act.put,List.getElem_toArray,List.getElem_cons_zero,List.getElem_cons_succ,List.setIfInBounds_toArray,List.set_cons_zero,List.set_cons_succ]
      refine wpAnyH_take (i:=28) (v:= ?_) rfl (by kernel_rfl) (by kernel_rfl) (by kernel_rfl) (fun _ _ _ h=>h) (Or.inl ⟨by rfl,fun W hW=> ?_⟩) h4 ?_
      rotate_left
      ·clear hW
       go_simp
       try with_reducible rfl
      simp only[Act.put,List.getElem_toArray,List.getElem_cons_zero,List.getElem_cons_succ,List.setIfInBounds_toArray,List.set_cons_zero,List.set_cons_succ]
      refine wpAnyH_take (i:=29) (v:= ?_) rfl (by kernel_rfl) (by kernel_rfl) (by kernel_rfl) (fun _ _ _ h=>h) (Or.inl ⟨by rfl,fun W hW=> ?_⟩) h4 ?_
      rotate_left
      ·have c:=hW.1.1 15 _ rfl
       go_simp
       try with_reducible rfl
      simp only[Act.put,List.getElem_toArray,List.getElem_cons_zero,List.getElem_cons_succ,List.setIfInBounds_toArray,List.set_cons_zero,List.set_cons_succ]
      refine wpAnyH_ready (rs:=[27]) (by kernel_rfl) (by simp) (AllReadyH.cons rfl (fun K hK=> ?_) AllReadyH.nil)
      go_simp
      go_wp2_with (go_at_call 41;refine (C5.out _).mono ?_;rintro e wq5 ⟨rfl,hb5⟩)
      refine hK.out _ _ (PU.later h4 hb5) (fun h5=> ?_)
      clear hK K
      clear h4
      refine wpAnyH_take (i:=30) (v:= ?_) rfl (by kernel_rfl) (by kernel_rfl) (by kernel_rfl) (fun _ _ _ h=>h) (Or.inl ⟨by rfl,fun W hW=> ?_⟩) h5 ?_
      rotate_left
      ·clear hW
       go_simp
       try with_reducible rfl
      simp only[Act.put,List.getElem_toArray,List.getElem_cons_zero,List.getElem_cons_succ,List.setIfInBounds_toArray,List.set_cons_zero,List.set_cons_succ]
      refine wpAnyH_take (i:=31) (v:= ?_) rfl (by kernel_rfl) (by kernel_rfl) (by kernel_rfl) (fun _ _ _ h=>h) (Or.inl ⟨by rfl,fun W hW=> ?_⟩) h5 ?_
      rotate_left
      ·clear hW
       go_simp
       try with_reducible rfl
      simp only[Act.put,List.getElem_toArray,List.getElem_cons_zero,List.getElem_cons_succ,List.setIfInBounds_toArray,List.set_cons_zero,List.set_cons_succ]
      refine wpAnyH_take (i:=32) (v:= ?_) rfl (by kernel_rfl) (by kernel_rfl) (by kernel_rfl) (fun _ _ _ h=>h) (Or.inl ⟨by rfl,fun W hW=> ?_⟩) h5 ?_
      rotate_left
      ·clear hW
       go_simp
       try with_reducible rfl
      simp only[Act.put,List.getElem_toArray,List.getElem_cons_zero,List.getElem_cons_succ,List.setIfInBounds_toArray,List.set_cons_zero,List.set_cons_succ]
      have HZ:Hid (ans=b5):=by show _=_;rw[HX.out];rfl
      clear HX
      refine wpAnyH_done (by kernel_rfl) ?_ _
      go_wp2_with fail
      go_ret
      exact ⟨zez HZ.out.symm,h5.2⟩
end Go.Proofs.YtgcbaphbiaimoaaGreatDoor
namespace Go.Proofs.YtgcbaphbiaimoaaGreatDoor
open Go.RowKit
theorem zqVz(D B:Nat)(ao:Option Addr)(len cap:Nat)(w:World)(hcur:Cur D B ao len cap w):
  Calls Tryz.prog 79 #[.pointer (some ⟨B,0,none⟩)] w fun e w'=> ∃z:ByteArray,z.size≤1000∧e=.returned (.string z)∧Cur D B ao len cap w'∧w.grownBy w' (some B):=by
 have HC:Hid (Cur D B ao len cap w):=hcur
 clear hcur
 go_enter Tryz.func79,Tryz.ntmps79
 go_wp2_with fail
 refine (xtz 7 _ _ _ _ _ _ (by omega) (by omega) HC.out).mono ?_
 rintro e wa ⟨x,hx0,hx1,rfl,ca,ga⟩
 have CA:Hid (Cur D B ao len cap wa):=ca
 clear ca
 obtain ⟨n,rfl⟩:=Int.eq_ofNat_of_zero_le hx0
 go_wp2_with fail
 go_loopw[3,4] (fun a i wr=> ∃(k:Nat) (z:ByteArray),k≤n∧i=.int .i64 k∧a=.string z∧z.size+20*k≤20*n∧Cur D B ao len cap wr∧w.grownBy wr (some B)) (fun _ i _=>(intOf i).toNat)
 case atStart=>exact ⟨n,⟨#[]⟩,Nat.le_refl _,rfl,rfl,by simp[ByteArray.size],CA.out,ga⟩
 obtain ⟨k,z,hk,rfl,rfl,hz,hcu,hgr⟩:=hrel
 have HU:Hid (Cur D B ao len cap wr):=hcu
 have hB:=hcu.lt
 clear hcu
 by_cases hp:0<k
 ·go_wp2_with fail
  refine (zfBz 20 17 _ 17 0 _ _ _ _ _ _ _ (by omega) (by omega) (HU.out.alloc _) (World.ownsRow_lit wr _ 17 (Nat.zero_le _) (by decide) rfl) (by omega) (by decide)).mono ?_
  rintro e wc ⟨y,hy,rfl,cc,gc⟩
  have CC:Hid (Cur D B ao len cap wc):=cc
  have G:=zpz (yJz hgr _) gc
  clear cc gc hgr
  go_wp2_with fail
  go_roundw
  case rel=>exact ⟨k-1,z++y,by omega,by go_num,rfl,by rw[ByteArray.size_append];omega,CC.out,G⟩
  case measure=>simp[intOf];omega
 go_wp2_with fail
 go_ret
 exact ⟨z,by omega,rfl,HU.out,hgr⟩
theorem ziWz(D B:Nat)(ao:Option Addr)(len cap:Nat)(w:World)(hcur:Cur D B ao len cap w):
  Calls Tryz.prog 181 #[.pointer (some ⟨B,0,none⟩)] w fun e w'=> ∃z:ByteArray,z.size≤20∧e=.returned (.string z)∧Cur D B ao len cap w'∧w.grownBy w' (some B):=by
 have HC:Hid (Cur D B ao len cap w):=hcur
 have hB:=hcur.lt
 clear hcur
 go_enter Tryz.func181,Tryz.ntmps181
 go_wp2_with fail
 refine (zfBz 20 16 _ 16 0 _ _ _ _ _ _ _ (by omega) (by omega) (HC.out.alloc _) (World.ownsRow_lit w _ 16 (Nat.zero_le _) (by decide) rfl) (by omega) (by decide)).mono ?_
 rintro e wc ⟨y,hy,rfl,cc,gc⟩
 have CC:Hid (Cur D B ao len cap wc):=cc
 have G:=zpz (World.grownBy_alloc w _ (some B)) gc
 clear cc gc
 go_wp2_with fail
 go_ret
 exact ⟨y,hy,rfl,CC.out,G⟩
theorem zlYz(D B:Nat)(ao:Option Addr)(len cap:Nat)(w:World)(hcur:Cur D B ao len cap w):
  Calls Tryz.prog 131 #[.pointer (some ⟨B,0,none⟩)] w fun e w'=> ∃z:ByteArray,z.size≤80∧e=.returned (.string z)∧Cur D B ao len cap w'∧w.grownBy w' (some B):=by
 have HC:Hid (Cur D B ao len cap w):=hcur
 clear hcur
 go_enter Tryz.func131,Tryz.ntmps131
 go_wp2_with fail
 refine (zptz 5 _ _ _ _ _ _ (by omega) (by omega) HC.out).mono ?_
 rintro e wa ⟨b,rfl,ca,ga⟩
 have CA:Hid (Cur D B ao len cap wa):=ca
 have hB:=ca.lt
 clear ca
 cases b with
 |true=>
  go_wp2_with fail
  refine (zfBz 80 15 _ 15 0 _ _ _ _ _ _ _ (by omega) (by omega) (CA.out.alloc _) (World.ownsRow_lit wa _ 15 (Nat.zero_le _) (by decide) rfl) (by omega) (by decide)).mono ?_
  rintro e wc ⟨y,hy,rfl,cc,gc⟩
  have CC:Hid (Cur D B ao len cap wc):=cc
  have G:=zpz (yJz ga _) gc
  clear cc gc ga
  go_wp2_with fail
  go_ret
  exact ⟨y,hy,rfl,CC.out,G⟩
 |false=>
  go_wp2_with fail
  refine (ziWz _ _ _ _ _ _ CA.out).mono ?_
  rintro e wc ⟨y,hy,rfl,cc,gc⟩
  have CC:Hid (Cur D B ao len cap wc):=cc
  have G:=zpz ga gc
  clear cc gc ga
  go_wp2_with fail
  go_ret
  exact ⟨y,by omega,rfl,CC.out,G⟩
theorem ztcz(D B:Nat)(ao:Option Addr)(len cap:Nat)(w:World)(hcur:Cur D B ao len cap w):
  Calls Tryz.prog 180 #[.pointer (some ⟨B,0,none⟩)] w fun e w'=> ∃z:ByteArray,z.size≤100∧e=.returned (.string z)∧Cur D B ao len cap w'∧w.grownBy w' (some B):=by
 have HC:Hid (Cur D B ao len cap w):=hcur
 clear hcur
 go_enter Tryz.func180,Tryz.ntmps180
 go_wp2_with fail
 refine (ziWz _ _ _ _ _ _ HC.out).mono ?_
 rintro e wz ⟨z0,hz0,rfl,cz,gz⟩
 have CZ:Hid (Cur D B ao len cap wz):=cz
 clear cz
 go_wp2_with fail
 refine (xtz 4 _ _ _ _ _ _ (by omega) (by omega) CZ.out).mono ?_
 rintro e wa ⟨x,hx0,hx1,rfl,ca,ga⟩
 have CA:Hid (Cur D B ao len cap wa):=ca
 have GA:=zpz gz ga
 clear ca gz ga
 obtain ⟨n,rfl⟩:=Int.eq_ofNat_of_zero_le hx0
 go_wp2_with fail
 go_loopw[3,4] (fun a i wr=> ∃(k:Nat) (z:ByteArray),k≤n∧i=.int .i64 k∧a=.string z∧z.size+21*k≤20+21*n∧Cur D B ao len cap wr∧w.grownBy wr (some B)) (fun _ i _=>(intOf i).toNat)
 case atStart=>exact ⟨n,z0,Nat.le_refl _,rfl,rfl,by omega,CA.out,GA⟩
 obtain ⟨k,z,hk,rfl,rfl,hz,hcu,hgr⟩:=hrel
 have HU:Hid (Cur D B ao len cap wr):=hcu
 clear hcu
 by_cases hp:0<k
 ·have hd1:(⟨#[46]⟩:ByteArray).size=1:=rfl
  go_wp2_with fail
  refine (ziWz _ _ _ _ _ _ HU.out).mono ?_
  rintro e wc ⟨y,hy,rfl,cc,gc⟩
  have CC:Hid (Cur D B ao len cap wc):=cc
  have G:=zpz hgr gc
  clear cc gc hgr
  go_wp2_with fail
  go_roundw
  case rel=>exact ⟨k-1,_,by omega,by go_num,rfl,by rw[ByteArray.size_append,ByteArray.size_append,hd1];omega,CC.out,G⟩
  case measure=>simp[intOf];omega
 go_wp2_with fail
 go_ret
 exact ⟨z,by omega,rfl,HU.out,hgr⟩
end Go.Proofs.YtgcbaphbiaimoaaGreatDoor
