/- UrlOkSpec. -/
import Derived.Test.YtgcbaphbiaimoaaGreatDoorQB27
set_option maxHeartbeats 8000000
set_option maxRecDepth 100000
namespace Go.Proofs.YtgcbaphbiaimoaaGreatDoor
open Go.Value renaming int->I,string->L,bool->Y
open Go.IntKind renaming i64->J
open _root_.Go.Act renaming put->zh
open _root_.Go.AllReadyH renaming cons->zi,nil->zj
open _root_.Go.ByteArray renaming toList_eq->zk
open _root_.List renaming getElem_cons_succ->zd,getElem_cons_zero->zc,getElem_toArray->ze,setIfInBounds_toArray->za,set_cons_succ->zg,set_cons_zero->zf
open Go.RowKit
attribute [local go_sem↓] Go.wp_at_zero Go.wp_at_succ
theorem okS_1(l:List UInt8):okS 1 l=okL 1 l:=by unfold okS;simp
theorem okS_2(l:List UInt8):okS 2 l=okL 2 l:=by unfold okS;simp
theorem QT(a b:ByteArray):(a.toList==b.toList)=decide (toL a=toL b):=by
 rw[zk,zk]
 by_cases h:a.data.toList=b.data.toList
 .rw[h,decide_eq_true (show toL a=toL b from h)];exact beq_self_eq_true _
 rw[decide_eq_false (show ¬toL a=toL b from h)];exact beq_eq_false_iff_ne.2 h
def gOk(u:UV):Bool:=decide (bS u.s≠0)&&(hOk u.h&&(decide (1<=u.p/\u.p<=65535)&&(bZ u.a&&(u.q||decide (u.r.size=0)))))
theorem W2(u:UV):uOk u=(gOk u&&(okL 1 (toL u.a)&&(decide (toL (plB 1 u.a)=toL u.a)&&(decide (toL (cD u.a)=toL u.a)&&(okL 2 (toL u.r)&&decide (toL (plB 2 u.r)=toL u.r)))))):=by
 unfold uOk gOk;simp only[Bool.and_assoc];rfl
theorem NH(s k n p:Int)(nm a r:ByteArray)(q:Bool)(x0 x1 x2 x3 x4 x5 x6 x7:Int)(w:World)(hs:nm.size<=1048576)(ha:a.size<=4194304)(hr:r.size<=4194304):Calls Tryz.prog 14 #[.agg #[I J s,I J k,L nm,I J n,I J x0,I J x1,I J x2,I J x3,I J x4,I J x5,I J x6,I J x7,I J p,L a,Y q,L r]] w fun e w'=>e=.returned (Y (uOk ⟨s,⟨k,nm,n,[x0,x1,x2,x3,x4,x5,x6,x7]⟩,p,a,q,r⟩))/\Below w.heap.size w w':=by
 have HX:Hid (uOk ⟨s,⟨k,nm,n,[x0,x1,x2,x3,x4,x5,x6,x7]⟩,p,a,q,r⟩=(gOk ⟨s,⟨k,nm,n,[x0,x1,x2,x3,x4,x5,x6,x7]⟩,p,a,q,r⟩&&(okL 1 (toL a)&&(decide (toL (plB 1 a)=toL a)&&(decide (toL (cD a)=toL a)&&(okL 2 (toL r)&&decide (toL (plB 2 r)=toL r))))))):=W2 _;have HG:Hid (gOk ⟨s,⟨k,nm,n,[x0,x1,x2,x3,x4,x5,x6,x7]⟩,p,a,q,r⟩=(decide (bS s≠0)&&(hOk ⟨k,nm,n,[x0,x1,x2,x3,x4,x5,x6,x7]⟩&&(decide (1<=p/\p<=65535)&&(bZ a&&(q||decide (r.size=0))))))):=rfl;generalize uOk ⟨s,⟨k,nm,n,[x0,x1,x2,x3,x4,x5,x6,x7]⟩,p,a,q,r⟩=ans at HX⊢;generalize gOk ⟨s,⟨k,nm,n,[x0,x1,x2,x3,x4,x5,x6,x7]⟩,p,a,q,r⟩=g at HX HG;have CD:Hid (∀W,CS 37 #[I J s] W (I J (bS s))):=fun W=>jM s W
 have CH:Hid (∀W,CB 38 #[.agg #[I J k,L nm,I J n,I J x0,I J x1,I J x2,I J x3,I J x4,I J x5,I J x6,I J x7]] W (Y (hOk ⟨k,nm,n,[x0,x1,x2,x3,x4,x5,x6,x7]⟩))):=fun W=>IP k n nm x0 x1 x2 x3 x4 x5 x6 x7 W hs
 have C1:Hid (∀W,CB 40 #[L a,I J 1] W (Y (okL 1 (toL a)))):=fun W=>by
  have h:=vO a 1 W om;rw[okS_1]at h;exact h
 have C4:Hid (∀W,CB 40 #[L r,I J 2] W (Y (okL 2 (toL r)))):=fun W=>by
  have h:=vO r 2 W om;rw[okS_2]at h;exact h
 have C2:Hid (∀W,CB 41 #[L a,I J 1] W (L (plB 1 a))):=fun W=>mG a 1 W om
 have C5:Hid (∀W,CB 41 #[L r,I J 2] W (L (plB 2 r))):=fun W=>mG r 2 W om
 have C3:Hid (∀W,CB 42 #[L a] W (L (cD a))):=fun W=>vC a W om
 generalize okL 1 (toL a)=b1 at HX C1;generalize okL 2 (toL r)=b4 at HX C4;have HQ2:Hid (((plB 1 a).toList==a.toList)=decide (toL (plB 1 a)=toL a)):=QT _ _;have HQ3:Hid (((cD a).toList==a.toList)=decide (toL (cD a)=toL a)):=QT _ _;have HQ5:Hid (((plB 2 r).toList==r.toList)=decide (toL (plB 2 r)=toL r)):=QT _ _;generalize decide (toL (plB 1 a)=toL a)=b2 at HX HQ2;generalize decide (toL (cD a)=toL a)=b3 at HX HQ3;generalize decide (toL (plB 2 r)=toL r)=b5 at HX HQ5;generalize plB 1 a=PA at C2 HQ2;generalize cD a=DA at C3 HQ3;generalize plB 2 r=PR at C5 HQ5;generalize hOk ⟨k,nm,n,[x0,x1,x2,x3,x4,x5,x6,x7]⟩=bh at HG CH;obtain ⟨O,hO⟩: ∃O,O=w.alloc (.cells #[I J s,I J k,L nm,I J n,I J x0,I J x1,I J x2,I J x3,I J x4,I J x5,I J x6,I J x7,I J p,L a,Y q,L r] 28):=⟨_,rfl⟩;have HU:Hid (PU w (aA s k nm n x0 x1 x2 x3 x4 x5 x6 x7 p a q r) O):=by
  rw[hO];exact PU.new w _ _
 have c0:=HU.out.1.1 0 _ rfl;go_enter Tryz.func14,Tryz.ntmps14
 go_upto_region 1 with fail
 rw[<-hO];clear hO
 go_cut [39] (fun v wx=>v=Y (!g)/\PU w (aA s k nm n x0 x1 x2 x3 x4 x5 x6 x7 p a q r) wx)
 case first=>
  clear HX C1 C2 C3 C4 C5 HQ2 HQ3 HQ5;go_wp2_with fail;refine (CD.out _).mono ?_;rintro e w' ⟨rfl,rfl⟩;clear CD c0;generalize bS s=D at HG⊢
  by_cases hD:D=0
  .have HA:Hid (g=false):=by show _=_;rw[HG.out];simp[hD]
   go_wp2_with fail;go_meet;exact ⟨by rw[HA.out];rfl,HU.out⟩
  have hDb:(D==0)=false:=beq_eq_false_iff_ne.2 hD;have c1:=HU.out.1.1 1 _ rfl;have c2:=HU.out.1.1 2 _ rfl;have c3:=HU.out.1.1 3 _ rfl;have c4:=HU.out.1.1 4 _ rfl;have c5:=HU.out.1.1 5 _ rfl;have c6:=HU.out.1.1 6 _ rfl;have c7:=HU.out.1.1 7 _ rfl;have c8:=HU.out.1.1 8 _ rfl;have c9:=HU.out.1.1 9 _ rfl;have c10:=HU.out.1.1 10 _ rfl;have c11:=HU.out.1.1 11 _ rfl;go_wp2_with fail;refine (CH.out _).mono ?_;rintro e w1 ⟨rfl,hb1⟩;clear c1 c2 c3 c4 c5 c6 c7 c8 c9 c10 c11;have HU1:Hid (PU w (aA s k nm n x0 x1 x2 x3 x4 x5 x6 x7 p a q r) w1):=HU.out.later hb1;clear hb1 HU CH
  cases bh with
  |false=>
   have HA:Hid (g=false):=by show _=_;rw[HG.out];simp
   go_wp2_with fail;go_meet;exact ⟨by rw[HA.out];rfl,HU1.out⟩
  |true=>
   have c12:=HU1.out.1.1 12 _ rfl;go_wp2_with fail;refine j5 (ER _ _ _ _) ?_;clear c12
   by_cases hp:1<=p/\p<=65535
   .rw[decide_eq_true hp]at HG⊢
    have c13:=HU1.out.1.1 13 _ rfl
    by_cases h0:a.size=0
    .have he:=aS h0
     have hr:=yP h0;have HA:Hid (g=false):=by show _=_;rw[HG.out];rw[hr];simp
     go_wp2_with fail;go_meet;exact ⟨by rw[HA.out];rfl,HU1.out⟩
    have he:=aW (show 0<a.size by omega)
    by_cases h47:a[0].toNat=47
    .have hr:=GV om h47
     have c14:=HU1.out.1.1 14 _ rfl;have c15:=HU1.out.1.1 15 _ rfl
     cases q with
     |true=>
      have HA:Hid (g=true):=by show _=_;rw[HG.out];rw[hr];simp[hD]
      go_wp2_with fail;go_meet;exact ⟨by rw[HA.out];rfl,HU1.out⟩
     |false=>
      by_cases hz:r.size=0
      .have he2:=aS hz
       have HA:Hid (g=true):=by show _=_;rw[HG.out];rw[hr];simp[hD,hz]
       go_wp2_with fail;go_meet;exact ⟨by rw[HA.out];rfl,HU1.out⟩
      have he2:=aW (show 0<r.size by omega);have HA:Hid (g=false):=by show _=_;rw[HG.out];simp[hz]
      go_wp2_with fail;go_meet;exact ⟨by rw[HA.out];rfl,HU1.out⟩
    have hr:=MH om h47;have HA:Hid (g=false):=by show _=_;rw[HG.out];rw[hr];simp
    go_wp2_with fail;go_meet;exact ⟨by rw[HA.out];rfl,HU1.out⟩
   rw[decide_eq_false hp]at HG⊢;have HA:Hid (g=false):=by show _=_;rw[HG.out];simp
   go_wp2_with fail;go_meet;exact ⟨by rw[HA.out];rfl,HU1.out⟩
 obtain ⟨rfl,hu⟩:=hcut;clear HG CD CH HU c0
 cases g with
 |false=>
  have HA:Hid (ans=false):=by show _=_;rw[HX.out];rfl
  clear HX;go_wp2_with fail;go_ret;exact ⟨aF HA.out.symm,hu.2⟩
 |true=>
  have e2:=HQ2.out;have e3:=HQ3.out;have e5:=HQ5.out;clear HQ2 HQ3 HQ5
  go_upto_region 3 with fail
  refine wp_region_held_drew (S:=PU w (aA s k nm n x0 x1 x2 x3 x4 x5 x6 x7 p a q r)) kr (PU.drew hu) (fun h0=> ?_);clear hu;refine wpAnyH_take (i:=0) (v:= ?_) rfl kr kr kr (fun _ _ _ h=>h) (Or.inl ⟨by rfl,fun W hW=> ?_⟩) h0 ?_;rotate_left
  .clear hW
   go_simp
   try with_reducible rfl
  simp only[zh,ze,zc,za,zf,zg];refine wpAnyH_take (i:=1) (v:= ?_) rfl kr kr kr (fun _ _ _ h=>h) (Or.inl ⟨by rfl,fun W hW=> ?_⟩) h0 ?_;rotate_left
  .have c:=hW.1.1 13 _ rfl
   go_simp
   try with_reducible rfl
  simp only[zh,ze,zc,zd,za,zf,zg];refine wpAnyH_ready (rs:=[2]) kr j2 (zi rfl (fun K hK=> ?_) zj);go_simp;go_wp2_with (go_at_call 40;refine (C1.out _).mono ?_;rintro e wq1 ⟨rfl,hb1⟩);refine hK.out _ _ (PU.later h0 hb1) (fun h1=> ?_);clear hK K;clear h0;refine wpAnyH_take (i:=3) (v:= ?_) rfl kr kr kr (fun _ _ _ h=>h) (Or.inl ⟨by rfl,fun W hW=> ?_⟩) h1 ?_;rotate_left
  .clear hW
   go_simp
   try with_reducible rfl
  simp only[zh,ze,zc,zd,za,zf,zg]
  cases b1 with
  |false=>
   refine wpAnyH_take (i:=4) (v:=undef) rfl kr kr kr (fun _ _ _ h=>h) (Or.inr ⟨by rfl,rfl⟩) h1 ?_;simp only[zh,ze,zc,zd,za,zf,zg];refine wpAnyH_take (i:=5) (v:=undef) rfl kr kr kr (fun _ _ _ h=>h) (Or.inr ⟨by rfl,rfl⟩) h1 ?_;simp only[zh,ze,zc,zd,za,zf,zg];refine wpAnyH_take (i:=6) (v:=undef) rfl kr kr kr (fun _ _ _ h=>h) (Or.inr ⟨by rfl,rfl⟩) h1 ?_;simp only[zh,ze,zc,zd,za,zf,zg];refine wpAnyH_take (i:=7) (v:=undef) rfl kr kr kr (fun _ _ _ h=>h) (Or.inr ⟨by rfl,rfl⟩) h1 ?_;simp only[zh,ze,zc,zd,za,zf,zg];refine wpAnyH_take (i:=8) (v:=undef) rfl kr kr kr (fun _ _ _ h=>h) (Or.inr ⟨by rfl,rfl⟩) h1 ?_;simp only[zh,ze,zc,zd,za,zf,zg];refine wpAnyH_take (i:=9) (v:=undef) rfl kr kr kr (fun _ _ _ h=>h) (Or.inr ⟨by rfl,rfl⟩) h1 ?_;simp only[zh,ze,zc,zd,za,zf,zg];refine wpAnyH_take (i:=10) (v:= ?_) rfl kr kr kr (fun _ _ _ h=>h) (Or.inl ⟨by rfl,fun W hW=> ?_⟩) h1 ?_;rotate_left
   .clear hW
    go_simp
    try with_reducible rfl
   simp only[zh,ze,zc,zd,za,zf,zg];refine wpAnyH_take (i:=11) (v:= ?_) rfl kr kr kr (fun _ _ _ h=>h) (Or.inl ⟨by rfl,fun W hW=> ?_⟩) h1 ?_;rotate_left
   .clear hW
    go_simp
    try with_reducible rfl
   simp only[zh,ze,zc,zd,za,zf,zg];refine wpAnyH_take (i:=12) (v:=undef) rfl kr kr kr (fun _ _ _ h=>h) (Or.inr ⟨by rfl,rfl⟩) h1 ?_;simp only[zh,ze,zc,zd,za,zf,zg];refine wpAnyH_take (i:=13) (v:=undef) rfl kr kr kr (fun _ _ _ h=>h) (Or.inr ⟨by rfl,rfl⟩) h1 ?_;simp only[zh,ze,zc,zd,za,zf,zg];refine wpAnyH_take (i:=14) (v:=undef) rfl kr kr kr (fun _ _ _ h=>h) (Or.inr ⟨by rfl,rfl⟩) h1 ?_;simp only[zh,ze,zc,zd,za,zf,zg];refine wpAnyH_take (i:=15) (v:=undef) rfl kr kr kr (fun _ _ _ h=>h) (Or.inr ⟨by rfl,rfl⟩) h1 ?_;simp only[zh,ze,zc,zd,za,zf,zg];refine wpAnyH_take (i:=16) (v:=undef) rfl kr kr kr (fun _ _ _ h=>h) (Or.inr ⟨by rfl,rfl⟩) h1 ?_;simp only[zh,ze,zc,zd,za,zf,zg];refine wpAnyH_take (i:=17) (v:=undef) rfl kr kr kr (fun _ _ _ h=>h) (Or.inr ⟨by rfl,rfl⟩) h1 ?_;simp only[zh,ze,zc,zd,za,zf,zg];refine wpAnyH_take (i:=18) (v:= ?_) rfl kr kr kr (fun _ _ _ h=>h) (Or.inl ⟨by rfl,fun W hW=> ?_⟩) h1 ?_;rotate_left
   .clear hW
    go_simp
    try with_reducible rfl
   simp only[zh,ze,zc,zd,za,zf,zg];refine wpAnyH_take (i:=19) (v:= ?_) rfl kr kr kr (fun _ _ _ h=>h) (Or.inl ⟨by rfl,fun W hW=> ?_⟩) h1 ?_;rotate_left
   .clear hW
    go_simp
    try with_reducible rfl
   simp only[zh,ze,zc,zd,za,zf,zg];refine wpAnyH_take (i:=20) (v:=undef) rfl kr kr kr (fun _ _ _ h=>h) (Or.inr ⟨by rfl,rfl⟩) h1 ?_;simp only[zh,ze,zc,zd,za,zf,zg];refine wpAnyH_take (i:=21) (v:=undef) rfl kr kr kr (fun _ _ _ h=>h) (Or.inr ⟨by rfl,rfl⟩) h1 ?_;simp only[zh,ze,zc,zd,za,zf,zg];refine wpAnyH_take (i:=22) (v:=undef) rfl kr kr kr (fun _ _ _ h=>h) (Or.inr ⟨by rfl,rfl⟩) h1 ?_;simp only[zh,ze,zc,zd,za,zf,zg];refine wpAnyH_take (i:=23) (v:= ?_) rfl kr kr kr (fun _ _ _ h=>h) (Or.inl ⟨by rfl,fun W hW=> ?_⟩) h1 ?_;rotate_left
   .clear hW
    go_simp
    try with_reducible rfl
   simp only[zh,ze,zc,zd,za,zf,zg];refine wpAnyH_take (i:=24) (v:= ?_) rfl kr kr kr (fun _ _ _ h=>h) (Or.inl ⟨by rfl,fun W hW=> ?_⟩) h1 ?_;rotate_left
   .clear hW
    go_simp
    try with_reducible rfl
   simp only[zh,ze,zc,zd,za,zf,zg];refine wpAnyH_take (i:=25) (v:=undef) rfl kr kr kr (fun _ _ _ h=>h) (Or.inr ⟨by rfl,rfl⟩) h1 ?_;simp only[zh,ze,zc,zd,za,zf,zg];refine wpAnyH_take (i:=26) (v:=undef) rfl kr kr kr (fun _ _ _ h=>h) (Or.inr ⟨by rfl,rfl⟩) h1 ?_;simp only[zh,ze,zc,zd,za,zf,zg];refine wpAnyH_take (i:=27) (v:=undef) rfl kr kr kr (fun _ _ _ h=>h) (Or.inr ⟨by rfl,rfl⟩) h1 ?_;simp only[zh,ze,zc,zd,za,zf,zg];refine wpAnyH_take (i:=28) (v:=undef) rfl kr kr kr (fun _ _ _ h=>h) (Or.inr ⟨by rfl,rfl⟩) h1 ?_;simp only[zh,ze,zc,zd,za,zf,zg];refine wpAnyH_take (i:=29) (v:=undef) rfl kr kr kr (fun _ _ _ h=>h) (Or.inr ⟨by rfl,rfl⟩) h1 ?_;simp only[zh,ze,zc,zd,za,zf,zg];refine wpAnyH_take (i:=30) (v:=undef) rfl kr kr kr (fun _ _ _ h=>h) (Or.inr ⟨by rfl,rfl⟩) h1 ?_;simp only[zh,ze,zc,zd,za,zf,zg];refine wpAnyH_take (i:=31) (v:= ?_) rfl kr kr kr (fun _ _ _ h=>h) (Or.inl ⟨by rfl,fun W hW=> ?_⟩) h1 ?_;rotate_left
   .clear hW
    go_simp
    try with_reducible rfl
   simp only[zh,ze,zc,zd,za,zf,zg];refine wpAnyH_take (i:=32) (v:= ?_) rfl kr kr kr (fun _ _ _ h=>h) (Or.inl ⟨by rfl,fun W hW=> ?_⟩) h1 ?_;rotate_left
   .clear hW
    go_simp
    try with_reducible rfl
   simp only[zh,ze,zc,zd,za,zf,zg];have HZ:Hid (ans=false):=by show _=_;rw[HX.out];rfl
   clear HX;refine wpAnyH_done kr ?_ _;go_wp2_with fail;go_ret;exact ⟨aF HZ.out.symm,h1.2⟩
  |true=>
   refine wpAnyH_take (i:=4) (v:= ?_) rfl kr kr kr (fun _ _ _ h=>h) (Or.inl ⟨by rfl,fun W hW=> ?_⟩) h1 ?_;rotate_left
   .clear hW
    go_simp
    try with_reducible rfl
   simp only[zh,ze,zc,zd,za,zf,zg];refine wpAnyH_take (i:=5) (v:= ?_) rfl kr kr kr (fun _ _ _ h=>h) (Or.inl ⟨by rfl,fun W hW=> ?_⟩) h1 ?_;rotate_left
   .have c:=hW.1.1 13 _ rfl
    go_simp
    try with_reducible rfl
   simp only[zh,ze,zc,zd,za,zf,zg];refine wpAnyH_take (i:=7) (v:= ?_) rfl kr kr kr (fun _ _ _ h=>h) (Or.inl ⟨by rfl,fun W hW=> ?_⟩) h1 ?_;rotate_left
   .clear hW
    go_simp
    try with_reducible rfl
   simp only[zh,ze,zc,zd,za,zf,zg];refine wpAnyH_take (i:=8) (v:= ?_) rfl kr kr kr (fun _ _ _ h=>h) (Or.inl ⟨by rfl,fun W hW=> ?_⟩) h1 ?_;rotate_left
   .have c:=hW.1.1 13 _ rfl
    go_simp
    try with_reducible rfl
   simp only[zh,ze,zc,zd,za,zf,zg];refine wpAnyH_ready (rs:=[6]) kr j2 (zi rfl (fun K hK=> ?_) zj);go_simp;go_wp2_with (go_at_call 41;refine (C2.out _).mono ?_;rintro e wq2 ⟨rfl,hb2⟩);refine hK.out _ _ (PU.later h1 hb2) (fun h2=> ?_);clear hK K;clear h1;refine wpAnyH_take (i:=9) (v:= ?_) rfl kr kr kr (fun _ _ _ h=>h) (Or.inl ⟨by rfl,fun W hW=> ?_⟩) h2 ?_;rotate_left
   .clear hW
    go_simp
    try with_reducible rfl
   simp only[zh,ze,zc,zd,za,zf,zg];refine wpAnyH_take (i:=10) (v:= ?_) rfl kr kr kr (fun _ _ _ h=>h) (Or.inl ⟨by rfl,fun W hW=> ?_⟩) h2 ?_;rotate_left
   .clear hW
    go_simp
    try with_reducible rfl
   simp only[zh,ze,zc,zd,za,zf,zg];refine wpAnyH_take (i:=11) (v:= ?_) rfl kr kr kr (fun _ _ _ h=>h) (Or.inl ⟨by rfl,fun W hW=> ?_⟩) h2 ?_;rotate_left
   .clear hW
    go_simp
    try with_reducible rfl
   simp only[zh,ze,zc,zd,za,zf,zg]
   cases b2 with
   |false=>
    refine wpAnyH_take (i:=12) (v:=undef) rfl kr kr kr (fun _ _ _ h=>h) (Or.inr ⟨by rfl,rfl⟩) h2 ?_;simp only[zh,ze,zc,zd,za,zf,zg];refine wpAnyH_take (i:=13) (v:=undef) rfl kr kr kr (fun _ _ _ h=>h) (Or.inr ⟨by rfl,rfl⟩) h2 ?_;simp only[zh,ze,zc,zd,za,zf,zg];refine wpAnyH_take (i:=14) (v:=undef) rfl kr kr kr (fun _ _ _ h=>h) (Or.inr ⟨by rfl,rfl⟩) h2 ?_;simp only[zh,ze,zc,zd,za,zf,zg];refine wpAnyH_take (i:=15) (v:=undef) rfl kr kr kr (fun _ _ _ h=>h) (Or.inr ⟨by rfl,rfl⟩) h2 ?_;simp only[zh,ze,zc,zd,za,zf,zg];refine wpAnyH_take (i:=16) (v:=undef) rfl kr kr kr (fun _ _ _ h=>h) (Or.inr ⟨by rfl,rfl⟩) h2 ?_;simp only[zh,ze,zc,zd,za,zf,zg];refine wpAnyH_take (i:=17) (v:=undef) rfl kr kr kr (fun _ _ _ h=>h) (Or.inr ⟨by rfl,rfl⟩) h2 ?_;simp only[zh,ze,zc,zd,za,zf,zg];refine wpAnyH_take (i:=18) (v:= ?_) rfl kr kr kr (fun _ _ _ h=>h) (Or.inl ⟨by rfl,fun W hW=> ?_⟩) h2 ?_;rotate_left
    .clear hW
     go_simp
     try with_reducible rfl
    simp only[zh,ze,zc,zd,za,zf,zg];refine wpAnyH_take (i:=19) (v:= ?_) rfl kr kr kr (fun _ _ _ h=>h) (Or.inl ⟨by rfl,fun W hW=> ?_⟩) h2 ?_;rotate_left
    .clear hW
     go_simp
     try with_reducible rfl
    simp only[zh,ze,zc,zd,za,zf,zg];refine wpAnyH_take (i:=20) (v:=undef) rfl kr kr kr (fun _ _ _ h=>h) (Or.inr ⟨by rfl,rfl⟩) h2 ?_;simp only[zh,ze,zc,zd,za,zf,zg];refine wpAnyH_take (i:=21) (v:=undef) rfl kr kr kr (fun _ _ _ h=>h) (Or.inr ⟨by rfl,rfl⟩) h2 ?_;simp only[zh,ze,zc,zd,za,zf,zg];refine wpAnyH_take (i:=22) (v:=undef) rfl kr kr kr (fun _ _ _ h=>h) (Or.inr ⟨by rfl,rfl⟩) h2 ?_;simp only[zh,ze,zc,zd,za,zf,zg];refine wpAnyH_take (i:=23) (v:= ?_) rfl kr kr kr (fun _ _ _ h=>h) (Or.inl ⟨by rfl,fun W hW=> ?_⟩) h2 ?_;rotate_left
    .clear hW
     go_simp
     try with_reducible rfl
    simp only[zh,ze,zc,zd,za,zf,zg];refine wpAnyH_take (i:=24) (v:= ?_) rfl kr kr kr (fun _ _ _ h=>h) (Or.inl ⟨by rfl,fun W hW=> ?_⟩) h2 ?_;rotate_left
    .clear hW
     go_simp
     try with_reducible rfl
    simp only[zh,ze,zc,zd,za,zf,zg];refine wpAnyH_take (i:=25) (v:=undef) rfl kr kr kr (fun _ _ _ h=>h) (Or.inr ⟨by rfl,rfl⟩) h2 ?_;simp only[zh,ze,zc,zd,za,zf,zg];refine wpAnyH_take (i:=26) (v:=undef) rfl kr kr kr (fun _ _ _ h=>h) (Or.inr ⟨by rfl,rfl⟩) h2 ?_;simp only[zh,ze,zc,zd,za,zf,zg];refine wpAnyH_take (i:=27) (v:=undef) rfl kr kr kr (fun _ _ _ h=>h) (Or.inr ⟨by rfl,rfl⟩) h2 ?_;simp only[zh,ze,zc,zd,za,zf,zg];refine wpAnyH_take (i:=28) (v:=undef) rfl kr kr kr (fun _ _ _ h=>h) (Or.inr ⟨by rfl,rfl⟩) h2 ?_;simp only[zh,ze,zc,zd,za,zf,zg];refine wpAnyH_take (i:=29) (v:=undef) rfl kr kr kr (fun _ _ _ h=>h) (Or.inr ⟨by rfl,rfl⟩) h2 ?_;simp only[zh,ze,zc,zd,za,zf,zg];refine wpAnyH_take (i:=30) (v:=undef) rfl kr kr kr (fun _ _ _ h=>h) (Or.inr ⟨by rfl,rfl⟩) h2 ?_;simp only[zh,ze,zc,zd,za,zf,zg];refine wpAnyH_take (i:=31) (v:= ?_) rfl kr kr kr (fun _ _ _ h=>h) (Or.inl ⟨by rfl,fun W hW=> ?_⟩) h2 ?_;rotate_left
    .clear hW
     go_simp
     try with_reducible rfl
    simp only[zh,ze,zc,zd,za,zf,zg];refine wpAnyH_take (i:=32) (v:= ?_) rfl kr kr kr (fun _ _ _ h=>h) (Or.inl ⟨by rfl,fun W hW=> ?_⟩) h2 ?_;rotate_left
    .clear hW
     go_simp
     try with_reducible rfl
    simp only[zh,ze,zc,zd,za,zf,zg];have HZ:Hid (ans=false):=by show _=_;rw[HX.out];rfl
    clear HX;refine wpAnyH_done kr ?_ _;go_wp2_with fail;go_ret;exact ⟨aF HZ.out.symm,h2.2⟩
   |true=>
    refine wpAnyH_take (i:=12) (v:= ?_) rfl kr kr kr (fun _ _ _ h=>h) (Or.inl ⟨by rfl,fun W hW=> ?_⟩) h2 ?_;rotate_left
    .clear hW
     go_simp
     try with_reducible rfl
    simp only[zh,ze,zc,zd,za,zf,zg];refine wpAnyH_take (i:=13) (v:= ?_) rfl kr kr kr (fun _ _ _ h=>h) (Or.inl ⟨by rfl,fun W hW=> ?_⟩) h2 ?_;rotate_left
    .have c:=hW.1.1 13 _ rfl
     go_simp
     try with_reducible rfl
    simp only[zh,ze,zc,zd,za,zf,zg];refine wpAnyH_take (i:=15) (v:= ?_) rfl kr kr kr (fun _ _ _ h=>h) (Or.inl ⟨by rfl,fun W hW=> ?_⟩) h2 ?_;rotate_left
    .clear hW
     go_simp
     try with_reducible rfl
    simp only[zh,ze,zc,zd,za,zf,zg];refine wpAnyH_take (i:=16) (v:= ?_) rfl kr kr kr (fun _ _ _ h=>h) (Or.inl ⟨by rfl,fun W hW=> ?_⟩) h2 ?_;rotate_left
    .have c:=hW.1.1 13 _ rfl
     go_simp
     try with_reducible rfl
    simp only[zh,ze,zc,zd,za,zf,zg];refine wpAnyH_ready (rs:=[14]) kr j2 (zi rfl (fun K hK=> ?_) zj);go_simp;go_wp2_with (go_at_call 42;refine (C3.out _).mono ?_;rintro e wq3 ⟨rfl,hb3⟩);refine hK.out _ _ (PU.later h2 hb3) (fun h3=> ?_);clear hK K;clear h2;refine wpAnyH_take (i:=17) (v:= ?_) rfl kr kr kr (fun _ _ _ h=>h) (Or.inl ⟨by rfl,fun W hW=> ?_⟩) h3 ?_;rotate_left
    .clear hW
     go_simp
     try with_reducible rfl
    simp only[zh,ze,zc,zd,za,zf,zg];refine wpAnyH_take (i:=18) (v:= ?_) rfl kr kr kr (fun _ _ _ h=>h) (Or.inl ⟨by rfl,fun W hW=> ?_⟩) h3 ?_;rotate_left
    .clear hW
     go_simp
     try with_reducible rfl
    simp only[zh,ze,zc,zd,za,zf,zg];refine wpAnyH_take (i:=19) (v:= ?_) rfl kr kr kr (fun _ _ _ h=>h) (Or.inl ⟨by rfl,fun W hW=> ?_⟩) h3 ?_;rotate_left
    .clear hW
     go_simp
     try with_reducible rfl
    simp only[zh,ze,zc,zd,za,zf,zg]
    cases b3 with
    |false=>
     refine wpAnyH_take (i:=20) (v:=undef) rfl kr kr kr (fun _ _ _ h=>h) (Or.inr ⟨by rfl,rfl⟩) h3 ?_;simp only[zh,ze,zc,zd,za,zf,zg];refine wpAnyH_take (i:=21) (v:=undef) rfl kr kr kr (fun _ _ _ h=>h) (Or.inr ⟨by rfl,rfl⟩) h3 ?_;simp only[zh,ze,zc,zd,za,zf,zg];refine wpAnyH_take (i:=22) (v:=undef) rfl kr kr kr (fun _ _ _ h=>h) (Or.inr ⟨by rfl,rfl⟩) h3 ?_;simp only[zh,ze,zc,zd,za,zf,zg];refine wpAnyH_take (i:=23) (v:= ?_) rfl kr kr kr (fun _ _ _ h=>h) (Or.inl ⟨by rfl,fun W hW=> ?_⟩) h3 ?_;rotate_left
     .clear hW
      go_simp
      try with_reducible rfl
     simp only[zh,ze,zc,zd,za,zf,zg];refine wpAnyH_take (i:=24) (v:= ?_) rfl kr kr kr (fun _ _ _ h=>h) (Or.inl ⟨by rfl,fun W hW=> ?_⟩) h3 ?_;rotate_left
     .clear hW
      go_simp
      try with_reducible rfl
     simp only[zh,ze,zc,zd,za,zf,zg];refine wpAnyH_take (i:=25) (v:=undef) rfl kr kr kr (fun _ _ _ h=>h) (Or.inr ⟨by rfl,rfl⟩) h3 ?_;simp only[zh,ze,zc,zd,za,zf,zg];refine wpAnyH_take (i:=26) (v:=undef) rfl kr kr kr (fun _ _ _ h=>h) (Or.inr ⟨by rfl,rfl⟩) h3 ?_;simp only[zh,ze,zc,zd,za,zf,zg];refine wpAnyH_take (i:=27) (v:=undef) rfl kr kr kr (fun _ _ _ h=>h) (Or.inr ⟨by rfl,rfl⟩) h3 ?_;simp only[zh,ze,zc,zd,za,zf,zg];refine wpAnyH_take (i:=28) (v:=undef) rfl kr kr kr (fun _ _ _ h=>h) (Or.inr ⟨by rfl,rfl⟩) h3 ?_;simp only[zh,ze,zc,zd,za,zf,zg];refine wpAnyH_take (i:=29) (v:=undef) rfl kr kr kr (fun _ _ _ h=>h) (Or.inr ⟨by rfl,rfl⟩) h3 ?_;simp only[zh,ze,zc,zd,za,zf,zg];refine wpAnyH_take (i:=30) (v:=undef) rfl kr kr kr (fun _ _ _ h=>h) (Or.inr ⟨by rfl,rfl⟩) h3 ?_;simp only[zh,ze,zc,zd,za,zf,zg];refine wpAnyH_take (i:=31) (v:= ?_) rfl kr kr kr (fun _ _ _ h=>h) (Or.inl ⟨by rfl,fun W hW=> ?_⟩) h3 ?_;rotate_left
     .clear hW
      go_simp
      try with_reducible rfl
     simp only[zh,ze,zc,zd,za,zf,zg];refine wpAnyH_take (i:=32) (v:= ?_) rfl kr kr kr (fun _ _ _ h=>h) (Or.inl ⟨by rfl,fun W hW=> ?_⟩) h3 ?_;rotate_left
     .clear hW
      go_simp
      try with_reducible rfl
     simp only[zh,ze,zc,zd,za,zf,zg];have HZ:Hid (ans=false):=by show _=_;rw[HX.out];rfl
     clear HX;refine wpAnyH_done kr ?_ _;go_wp2_with fail;go_ret;exact ⟨aF HZ.out.symm,h3.2⟩
    |true=>
     refine wpAnyH_take (i:=20) (v:= ?_) rfl kr kr kr (fun _ _ _ h=>h) (Or.inl ⟨by rfl,fun W hW=> ?_⟩) h3 ?_;rotate_left
     .clear hW
      go_simp
      try with_reducible rfl
     simp only[zh,ze,zc,zd,za,zf,zg];refine wpAnyH_take (i:=21) (v:= ?_) rfl kr kr kr (fun _ _ _ h=>h) (Or.inl ⟨by rfl,fun W hW=> ?_⟩) h3 ?_;rotate_left
     .have c:=hW.1.1 15 _ rfl
      go_simp
      try with_reducible rfl
     simp only[zh,ze,zc,zd,za,zf,zg];refine wpAnyH_ready (rs:=[22]) kr j2 (zi rfl (fun K hK=> ?_) zj);go_simp;go_wp2_with (go_at_call 40;refine (C4.out _).mono ?_;rintro e wq4 ⟨rfl,hb4⟩);refine hK.out _ _ (PU.later h3 hb4) (fun h4=> ?_);clear hK K;clear h3;refine wpAnyH_take (i:=23) (v:= ?_) rfl kr kr kr (fun _ _ _ h=>h) (Or.inl ⟨by rfl,fun W hW=> ?_⟩) h4 ?_;rotate_left
     .clear hW
      go_simp
      try with_reducible rfl
     simp only[zh,ze,zc,zd,za,zf,zg];refine wpAnyH_take (i:=24) (v:= ?_) rfl kr kr kr (fun _ _ _ h=>h) (Or.inl ⟨by rfl,fun W hW=> ?_⟩) h4 ?_;rotate_left
     .clear hW
      go_simp
      try with_reducible rfl
     simp only[zh,ze,zc,zd,za,zf,zg]
     cases b4 with
     |false=>
      refine wpAnyH_take (i:=25) (v:=undef) rfl kr kr kr (fun _ _ _ h=>h) (Or.inr ⟨by rfl,rfl⟩) h4 ?_;simp only[zh,ze,zc,zd,za,zf,zg];refine wpAnyH_take (i:=26) (v:=undef) rfl kr kr kr (fun _ _ _ h=>h) (Or.inr ⟨by rfl,rfl⟩) h4 ?_;simp only[zh,ze,zc,zd,za,zf,zg];refine wpAnyH_take (i:=27) (v:=undef) rfl kr kr kr (fun _ _ _ h=>h) (Or.inr ⟨by rfl,rfl⟩) h4 ?_;simp only[zh,ze,zc,zd,za,zf,zg];refine wpAnyH_take (i:=28) (v:=undef) rfl kr kr kr (fun _ _ _ h=>h) (Or.inr ⟨by rfl,rfl⟩) h4 ?_;simp only[zh,ze,zc,zd,za,zf,zg];refine wpAnyH_take (i:=29) (v:=undef) rfl kr kr kr (fun _ _ _ h=>h) (Or.inr ⟨by rfl,rfl⟩) h4 ?_;simp only[zh,ze,zc,zd,za,zf,zg];refine wpAnyH_take (i:=30) (v:=undef) rfl kr kr kr (fun _ _ _ h=>h) (Or.inr ⟨by rfl,rfl⟩) h4 ?_;simp only[zh,ze,zc,zd,za,zf,zg];refine wpAnyH_take (i:=31) (v:= ?_) rfl kr kr kr (fun _ _ _ h=>h) (Or.inl ⟨by rfl,fun W hW=> ?_⟩) h4 ?_;rotate_left
      .clear hW
       go_simp
       try with_reducible rfl
      simp only[zh,ze,zc,zd,za,zf,zg];refine wpAnyH_take (i:=32) (v:= ?_) rfl kr kr kr (fun _ _ _ h=>h) (Or.inl ⟨by rfl,fun W hW=> ?_⟩) h4 ?_;rotate_left
      .clear hW
       go_simp
       try with_reducible rfl
      simp only[zh,ze,zc,zd,za,zf,zg];have HZ:Hid (ans=false):=by show _=_;rw[HX.out];rfl
      clear HX;refine wpAnyH_done kr ?_ _;go_wp2_with fail;go_ret;exact ⟨aF HZ.out.symm,h4.2⟩
     |true=>
      refine wpAnyH_take (i:=25) (v:= ?_) rfl kr kr kr (fun _ _ _ h=>h) (Or.inl ⟨by rfl,fun W hW=> ?_⟩) h4 ?_;rotate_left
      .clear hW
       go_simp
       try with_reducible rfl
      simp only[zh,ze,zc,zd,za,zf,zg];refine wpAnyH_take (i:=26) (v:= ?_) rfl kr kr kr (fun _ _ _ h=>h) (Or.inl ⟨by rfl,fun W hW=> ?_⟩) h4 ?_;rotate_left
      .have c:=hW.1.1 15 _ rfl
       go_simp
       try with_reducible rfl
      simp only[zh,ze,zc,zd,za,zf,zg];refine wpAnyH_take (i:=28) (v:= ?_) rfl kr kr kr (fun _ _ _ h=>h) (Or.inl ⟨by rfl,fun W hW=> ?_⟩) h4 ?_;rotate_left
      .clear hW
       go_simp
       try with_reducible rfl
      simp only[zh,ze,zc,zd,za,zf,zg];refine wpAnyH_take (i:=29) (v:= ?_) rfl kr kr kr (fun _ _ _ h=>h) (Or.inl ⟨by rfl,fun W hW=> ?_⟩) h4 ?_;rotate_left
      .have c:=hW.1.1 15 _ rfl
       go_simp
       try with_reducible rfl
      simp only[zh,ze,zc,zd,za,zf,zg];refine wpAnyH_ready (rs:=[27]) kr j2 (zi rfl (fun K hK=> ?_) zj);go_simp;go_wp2_with (go_at_call 41;refine (C5.out _).mono ?_;rintro e wq5 ⟨rfl,hb5⟩);refine hK.out _ _ (PU.later h4 hb5) (fun h5=> ?_);clear hK K;clear h4;refine wpAnyH_take (i:=30) (v:= ?_) rfl kr kr kr (fun _ _ _ h=>h) (Or.inl ⟨by rfl,fun W hW=> ?_⟩) h5 ?_;rotate_left
      .clear hW
       go_simp
       try with_reducible rfl
      simp only[zh,ze,zc,zd,za,zf,zg];refine wpAnyH_take (i:=31) (v:= ?_) rfl kr kr kr (fun _ _ _ h=>h) (Or.inl ⟨by rfl,fun W hW=> ?_⟩) h5 ?_;rotate_left
      .clear hW
       go_simp
       try with_reducible rfl
      simp only[zh,ze,zc,zd,za,zf,zg];refine wpAnyH_take (i:=32) (v:= ?_) rfl kr kr kr (fun _ _ _ h=>h) (Or.inl ⟨by rfl,fun W hW=> ?_⟩) h5 ?_;rotate_left
      .clear hW
       go_simp
       try with_reducible rfl
      simp only[zh,ze,zc,zd,za,zf,zg];have HZ:Hid (ans=b5):=by show _=_;rw[HX.out];rfl
      clear HX;refine wpAnyH_done kr ?_ _;go_wp2_with fail;go_ret;exact ⟨aF HZ.out.symm,h5.2⟩
