/- Draw8Any, UrlHold. -/
import Derived.Test.YtgcbaphbiaimoaaGreatDoorQU36
set_option maxHeartbeats 8000000
set_option maxRecDepth 100000
namespace Go.Proofs.YtgcbaphbiaimoaaGreatDoor
open Go.RowKit
attribute [local go_sem↓] Go.wp_at_zero Go.wp_at_succ
theorem l8Any(D B:Nat)(ao:Option Addr)(len cap:Nat)(w:World)(hcur:Cur D B ao len cap w):
  Calls Tryz.prog 31 #[.pointer (some ⟨B,0,none⟩)] w fun e w'=> ∃(s k n p:Int) (nm a r:ByteArray) (q:Bool) (x0 x1 x2 x3 x4 x5 x6 x7:Int),(nm.size≤1048576∧a.size≤1048576∧r.size≤1048576)∧e=.returned (.agg (zjz s k nm n x0 x1 x2 x3 x4 x5 x6 x7 p a q r).toArray)∧Cur D B ao len cap w'∧w.grownBy w' (some B):=by
 have hB:=hcur.lt
 obtain ⟨O,hO⟩: ∃O,O=w.alloc (.cells #[.int .i64 0,.int .i64 0,.string ⟨#[]⟩,.int .i64 0,.int .i64 0,.int .i64 0,.int .i64 0,.int .i64 0,.int .i64 0,.int .i64 0,.int .i64 0,.int .i64 0,.int .i64 0,.string ⟨#[]⟩,.bool false,.string ⟨#[]⟩] 28):=⟨_,rfl⟩
 have HC:Hid (Cur D B ao len cap O):=by rw[hO];exact hcur.alloc _
 have HG:Hid (w.grownBy O (some B)):=by rw[hO];exact World.grownBy_alloc w _ _
 have HU:Hid (UAt O w.heap.size zZz):=by rw[hO];exact UAt.new w _ _
 clear hcur
 go_enter Tryz.func31,Tryz.ntmps31
 go_wp2_with fail
 rw[←hO]
 refine (l8Url _ _ _ _ _ _ HC.out).mono ?_
 rintro e wb ⟨s,k,n,p,nm,a,r,q,x0,x1,x2,x3,x4,x5,x6,x7,⟨hs,ha,hr⟩,rfl,cb,gb⟩
 have SB:Hid (SD D B ao len cap w wb.heap.size (zjz 0 0 ⟨#[]⟩ 0 0 0 0 0 0 0 0 0 0 ⟨#[]⟩ false ⟨#[]⟩) (wb.alloc (.cells #[.int .i64 0,.int .i64 0,.string ⟨#[]⟩,.int .i64 0,.int .i64 0,.int .i64 0,.int .i64 0,.int .i64 0,.int .i64 0,.int .i64 0,.int .i64 0,.int .i64 0,.int .i64 0,.string ⟨#[]⟩,.bool false,.string ⟨#[]⟩] 28))):=
  have hu:=HU.out.grown gb (by omega)
  ⟨cb.alloc _,yJz (zpz HG.out gb) _,⟨_,rfl,hu.below ((Below.refl _ _).alloc (Nat.le_refl _) _)⟩,UAt.new wb _ _,hu.2.2,hB⟩
 clear cb gb HC HG HU hO
 go_upto_region 2 with (refine y0z SB.out.2.2.2.1 rfl (us:=zjz s k nm n x0 x1 x2 x3 x4 x5 x6 x7 p a q r) rfl (zQz ..) rfl _ _ rfl rfl rfl ?_;intro w5 HU5 HM5)
 have S5:Hid (SD D B ao len cap w wb.heap.size (zjz s k nm n x0 x1 x2 x3 x4 x5 x6 x7 p a q r) w5):=SB.out.moved HM5 HU5
 clear HU5 HM5 SB
 generalize wb.heap.size=U at S5⊢
 go_wp2_with fail
 refine (xtz 16 _ _ _ _ _ _ (by omega) (by omega) S5.out.1).mono ?_
 rintro e w6 ⟨y,hy0,hy1,rfl,c6,g6⟩
 have S6:Hid (SD D B ao len cap w U (zjz s k nm n x0 x1 x2 x3 x4 x5 x6 x7 p a q r) w6):=S5.out.grown c6 g6
 have hB6:=S6.out.1.lt
 clear c6 g6 S5
 by_cases y0:y=0
 ·subst y0
  go_wp2_with fail
  refine (xtz 4 _ _ _ _ _ _ (by omega) (by omega) S6.out.1).mono ?_
  rintro e wc ⟨z,hz0,hz1,rfl,cc,gc⟩
  have gm:=(S6.out).grown cc gc
  have c:=gm.2.2.2.1.1 0 _ rfl
  have f:=gm.2.2.2.1.2.1 0
  have GG:Hid (SD D B ao len cap w U (zjz z k nm n x0 x1 x2 x3 x4 x5 x6 x7 p a q r) (wc.setCell ⟨U,0,none⟩ (.int .i64 z))):=gm.set 0 (by show 0<16;decide) (.int .i64 z)
  clear cc gc gm
  obtain ⟨rr,hrl,hN⟩:=GG.out.2.2.1
  have HN:Hid (UAt (wc.setCell ⟨U,0,none⟩ (.int .i64 z)) w.heap.size rr):=hN
  clear hN
  go_wp2_with (first|(refine xxz GG.out.2.2.2.1 rfl rfl _ rfl rfl ?_)|(refine y0z HN.out hrl (us:=(zjz z k nm n x0 x1 x2 x3 x4 x5 x6 x7 p a q r)) rfl (zQz ..) rfl _ _ rfl rfl rfl ?_;intro w9 HU9 HM9))
  have g9:=GG.out.res HM9 rfl HU9
  refine bodyPost_ret (yRz rfl _ _ w.heap.size (zjz z k nm n x0 x1 x2 x3 x4 x5 x6 x7 p a q r) rfl rfl HU9) rfl ⟨_,_,_,_,_,_,_,_,_,_,_,_,_,_,_,_,⟨hs,ha,hr⟩,rfl,g9.1,g9.2.1⟩
 have q0:(y==0)=false:=beq_eq_false_iff_ne.2 y0
 by_cases y1:y=1
 ·subst y1
  clear q0 y0
  go_wp2_with fail
  refine (zipz 3 _ 3 0 _ _ _ _ _ _ _ (by omega) (by omega) (S6.out.alloc _).1 (World.ownsRow_lit w6 _ 3 (Nat.zero_le _) (by decide) rfl) (by omega) rfl).mono ?_
  rintro e wc ⟨z,rfl,cc,gc⟩
  have gm:=(S6.out.alloc _).grown cc gc
  have c:=gm.2.2.2.1.1 12 _ rfl
  have f:=gm.2.2.2.1.2.1 12
  have GG:Hid (SD D B ao len cap w U (zjz s k nm n x0 x1 x2 x3 x4 x5 x6 x7 z a q r) (wc.setCell ⟨U,12,none⟩ (.int .i64 z))):=gm.set 12 (by show 12<16;decide) (.int .i64 z)
  clear cc gc gm
  obtain ⟨rr,hrl,hN⟩:=GG.out.2.2.1
  have HN:Hid (UAt (wc.setCell ⟨U,12,none⟩ (.int .i64 z)) w.heap.size rr):=hN
  clear hN
  go_wp2_with (first|(refine xxz GG.out.2.2.2.1 rfl rfl _ rfl rfl ?_)|(refine y0z HN.out hrl (us:=(zjz s k nm n x0 x1 x2 x3 x4 x5 x6 x7 z a q r)) rfl (zQz ..) rfl _ _ rfl rfl rfl ?_;intro w9 HU9 HM9))
  have g9:=GG.out.res HM9 rfl HU9
  refine bodyPost_ret (yRz rfl _ _ w.heap.size (zjz s k nm n x0 x1 x2 x3 x4 x5 x6 x7 z a q r) rfl rfl HU9) rfl ⟨_,_,_,_,_,_,_,_,_,_,_,_,_,_,_,_,⟨hs,ha,hr⟩,rfl,g9.1,g9.2.1⟩
 have q1:(y==1)=false:=beq_eq_false_iff_ne.2 y1
 by_cases y2:y=2
 ·subst y2
  clear q0 y0 q1 y1
  go_wp2_with fail
  refine (zfBz 20 7 _ 7 0 _ _ _ _ _ _ _ (by omega) (by omega) (S6.out.alloc _).1 (World.ownsRow_lit w6 _ 7 (Nat.zero_le _) (by decide) rfl) (by omega) (by decide)).mono ?_
  rintro e wc ⟨z,hz,rfl,cc,gc⟩
  have gm:=(S6.out.alloc _).grown cc gc
  have c:=gm.2.2.2.1.1 13 _ rfl
  have f:=gm.2.2.2.1.2.1 13
  have GG:Hid (SD D B ao len cap w U (zjz s k nm n x0 x1 x2 x3 x4 x5 x6 x7 p z q r) (wc.setCell ⟨U,13,none⟩ (.string z))):=gm.set 13 (by show 13<16;decide) (.string z)
  clear cc gc gm
  obtain ⟨rr,hrl,hN⟩:=GG.out.2.2.1
  have HN:Hid (UAt (wc.setCell ⟨U,13,none⟩ (.string z)) w.heap.size rr):=hN
  clear hN
  go_wp2_with (first|(refine xxz GG.out.2.2.2.1 rfl rfl _ rfl rfl ?_)|(refine y0z HN.out hrl (us:=(zjz s k nm n x0 x1 x2 x3 x4 x5 x6 x7 p z q r)) rfl (zQz ..) rfl _ _ rfl rfl rfl ?_;intro w9 HU9 HM9))
  have g9:=GG.out.res HM9 rfl HU9
  refine bodyPost_ret (yRz rfl _ _ w.heap.size (zjz s k nm n x0 x1 x2 x3 x4 x5 x6 x7 p z q r) rfl rfl HU9) rfl ⟨_,_,_,_,_,_,_,_,_,_,_,_,_,_,_,_,⟨hs,by omega,hr⟩,rfl,g9.1,g9.2.1⟩
 have q2:(y==2)=false:=beq_eq_false_iff_ne.2 y2
 by_cases y3:y=3
 ·subst y3
  clear q0 y0 q1 y1 q2 y2
  go_wp2_with fail
  refine (zqVz _ _ _ _ _ _ S6.out.1).mono ?_
  rintro e wc ⟨z,hz,rfl,cc,gc⟩
  have gm:=(S6.out).grown cc gc
  have c:=gm.2.2.2.1.1 15 _ rfl
  have f:=gm.2.2.2.1.2.1 15
  have GG:Hid (SD D B ao len cap w U (zjz s k nm n x0 x1 x2 x3 x4 x5 x6 x7 p a q z) (wc.setCell ⟨U,15,none⟩ (.string z))):=gm.set 15 (by show 15<16;decide) (.string z)
  clear cc gc gm
  obtain ⟨rr,hrl,hN⟩:=GG.out.2.2.1
  have HN:Hid (UAt (wc.setCell ⟨U,15,none⟩ (.string z)) w.heap.size rr):=hN
  clear hN
  go_wp2_with (first|(refine xxz GG.out.2.2.2.1 rfl rfl _ rfl rfl ?_)|(refine y0z HN.out hrl (us:=(zjz s k nm n x0 x1 x2 x3 x4 x5 x6 x7 p a q z)) rfl (zQz ..) rfl _ _ rfl rfl rfl ?_;intro w9 HU9 HM9))
  have g9:=GG.out.res HM9 rfl HU9
  refine bodyPost_ret (yRz rfl _ _ w.heap.size (zjz s k nm n x0 x1 x2 x3 x4 x5 x6 x7 p a q z) rfl rfl HU9) rfl ⟨_,_,_,_,_,_,_,_,_,_,_,_,_,_,_,_,⟨hs,ha,by omega⟩,rfl,g9.1,g9.2.1⟩
 have q3:(y==3)=false:=beq_eq_false_iff_ne.2 y3
 by_cases y4:y=4
 ·subst y4
  clear q0 y0 q1 y1 q2 y2 q3 y3
  have c:=S6.out.2.2.2.1.1 14 _ rfl
  have f:=S6.out.2.2.2.1.2.1 14
  have GG:Hid (SD D B ao len cap w U (zjz s k nm n x0 x1 x2 x3 x4 x5 x6 x7 p a (!q) r) (w6.setCell ⟨U,14,none⟩ (.bool (!q)))):=S6.out.set 14 (by show 14<16;decide) (.bool (!q))
  obtain ⟨rr,hrl,hN⟩:=GG.out.2.2.1
  have HN:Hid (UAt (w6.setCell ⟨U,14,none⟩ (.bool (!q))) w.heap.size rr):=hN
  clear hN
  go_wp2_with (first|(refine xxz GG.out.2.2.2.1 rfl rfl _ rfl rfl ?_)|(refine y0z HN.out hrl (us:=(zjz s k nm n x0 x1 x2 x3 x4 x5 x6 x7 p a (!q) r)) rfl (zQz ..) rfl _ _ rfl rfl rfl ?_;intro w9 HU9 HM9))
  have g9:=GG.out.res HM9 rfl HU9
  refine bodyPost_ret (yRz rfl _ _ w.heap.size (zjz s k nm n x0 x1 x2 x3 x4 x5 x6 x7 p a (!q) r) rfl rfl HU9) rfl ⟨_,_,_,_,_,_,_,_,_,_,_,_,_,_,_,_,⟨hs,ha,hr⟩,rfl,g9.1,g9.2.1⟩
 have q4:(y==4)=false:=beq_eq_false_iff_ne.2 y4
 by_cases y5:y=5
 ·subst y5
  clear q0 y0 q1 y1 q2 y2 q3 y3 q4 y4
  go_wp2_with fail
  refine (l6Any _ _ _ _ _ _ S6.out.1).mono ?_
  rintro e wc ⟨k',n',nm',z0,z1,z2,z3,z4,z5,z6,z7,hs',rfl,cc,gc⟩
  have gm:=S6.out.grown cc gc
  clear cc gc
  go_upto_region 15 with (refine zacz gm.2.2.2.1 1 (by show 1+11≤16;decide) (us:=yvz k' nm' n' z0 z1 z2 z3 z4 z5 z6 z7) rfl (v8z ..) rfl _ _ rfl rfl rfl ?_;intro w7 HU7 HM7)
  have GG:Hid (SD D B ao len cap w U (zjz s k' nm' n' z0 z1 z2 z3 z4 z5 z6 z7 p a q r) w7):=gm.moved HM7 HU7
  clear gm HM7 HU7
  obtain ⟨rr,hrl,hN⟩:=GG.out.2.2.1
  have HN:Hid (UAt w7 w.heap.size rr):=hN
  clear hN
  go_wp2_with (first|(refine xxz GG.out.2.2.2.1 rfl rfl _ rfl rfl ?_)|(refine y0z HN.out hrl (us:=(zjz s k' nm' n' z0 z1 z2 z3 z4 z5 z6 z7 p a q r)) rfl (zQz ..) rfl _ _ rfl rfl rfl ?_;intro w9 HU9 HM9))
  have g9:=GG.out.res HM9 rfl HU9
  refine bodyPost_ret (yRz rfl _ _ w.heap.size (zjz s k' nm' n' z0 z1 z2 z3 z4 z5 z6 z7 p a q r) rfl rfl HU9) rfl ⟨_,_,_,_,_,_,_,_,_,_,_,_,_,_,_,_,⟨hs',ha,hr⟩,rfl,g9.1,g9.2.1⟩
 have q5:(y==5)=false:=beq_eq_false_iff_ne.2 y5
 have GG:=S6
 obtain ⟨rr,hrl,hN⟩:=GG.out.2.2.1
 have HN:Hid (UAt w6 w.heap.size rr):=hN
 clear hN
 go_wp2_with (first|(refine xxz GG.out.2.2.2.1 rfl rfl _ rfl rfl ?_)|(refine y0z HN.out hrl (us:=(zjz s k nm n x0 x1 x2 x3 x4 x5 x6 x7 p a q r)) rfl (zQz ..) rfl _ _ rfl rfl rfl ?_;intro w9 HU9 HM9))
 have g9:=GG.out.res HM9 rfl HU9
 refine bodyPost_ret (yRz rfl _ _ w.heap.size (zjz s k nm n x0 x1 x2 x3 x4 x5 x6 x7 p a q r) rfl rfl HU9) rfl ⟨_,_,_,_,_,_,_,_,_,_,_,_,_,_,_,_,⟨hs,ha,hr⟩,rfl,g9.1,g9.2.1⟩
theorem zkTz(ao:Option Addr)(len cap:Nat)(w:World)(hl:len≤1048576)(hcode:y2z w.heap.size w ao len):
  Calls Tryz.prog 11 #[.slice ao len cap] w fun e w'=> ∃(s k n p:Int) (nm a r:ByteArray) (q:Bool) (x0 x1 x2 x3 x4 x5 x6 x7:Int),(nm.size≤1048576∧a.size≤1048576∧r.size≤1048576)∧e=.returned (.agg (zjz s k nm n x0 x1 x2 x3 x4 x5 x6 x7 p a q r).toArray)∧Below w.heap.size w w':=by
 obtain ⟨O,hO⟩: ∃O,O=w.alloc (.cells #[.int .i64 0,.int .i64 0,.string ⟨#[]⟩,.int .i64 0,.int .i64 0,.int .i64 0,.int .i64 0,.int .i64 0,.int .i64 0,.int .i64 0,.int .i64 0,.int .i64 0,.int .i64 0,.string ⟨#[]⟩,.bool false,.string ⟨#[]⟩] 28):=⟨_,rfl⟩
 have HCO:Hid (y2z O.heap.size O ao len):=by rw[hO];exact hcode.later ((Below.refl _ w).alloc (Nat.le_refl _) _)
 have HP:Hid (PU w zZz O):=by rw[hO];exact PU.new w _ _
 clear hcode
 go_enter Tryz.func11,Tryz.ntmps11
 go_wp2_with fail
 rw[←hO]
 refine (l1New _ _ _ _ hl HCO.out).mono ?_
 rintro e wa ⟨B,rfl,hBw,ca,ba⟩
 have CA:Hid (Cur O.heap.size B ao len cap wa):=ca
 have PA:Hid (PU w zZz wa):=HP.out.later ba
 have hBg:w.heap.size<B:=by have:=HP.out.1.2.2;omega
 clear ca ba HCO HP hO
 go_wp2_with fail
 refine (l8Any _ _ _ _ _ _ CA.out).mono ?_
 rintro e wb ⟨s,k,n,p,nm,a,r,q,x0,x1,x2,x3,x4,x5,x6,x7,hz,rfl,cb,gb⟩
 have PB:Hid (PU w zZz wb):=⟨PA.out.1.grown gb (by omega),PA.out.2.grown gb PA.out.2.size (fun k hk=>by cases hk;omega)⟩
 clear cb gb CA PA
 go_wp2_with (refine y0z PB.out.1 rfl (us:=zjz s k nm n x0 x1 x2 x3 x4 x5 x6 x7 p a q r) rfl (zQz ..) rfl _ _ rfl rfl rfl ?_;intro w9 HU9 HM9)
 refine bodyPost_ret (yRz rfl _ _ w.heap.size (zjz s k nm n x0 x1 x2 x3 x4 x5 x6 x7 p a q r) rfl rfl HU9) rfl ⟨s,k,n,p,nm,a,r,q,x0,x1,x2,x3,x4,x5,x6,x7,hz,rfl,HM9.2 _ _ (Nat.le_refl _) PB.out.2⟩
end Go.Proofs.YtgcbaphbiaimoaaGreatDoor
namespace Go.Proofs.YtgcbaphbiaimoaaGreatDoor
open Go.RowKit
def PV(w:World)(V:Nat)(row:List Value)(W:World):Prop:=UAt W V row∧Below w.heap.size w W
theorem PV.later{w:World}{V:Nat}{row:List Value}{W W':World}(h:PV w V row W)(hb:Below W.heap.size W W'):PV w V row W':=⟨h.1.below hb,h.2.trans (hb.mono h.2.size)⟩
theorem PV.drew{w:World}{V:Nat}{row:List Value}{W:World}(h:PV w V row W):PV w V row W.drew:=⟨h.1,h.2.drew⟩
theorem zl1z(s k n p:Int)(nm a r:ByteArray)(q:Bool)(x0 x1 x2 x3 x4 x5 x6 x7:Int)(h:uOk ⟨s,⟨k,nm,n,[x0,x1,x2,x3,x4,x5,x6,x7]⟩,p,a,q,r⟩=true):
  (⟨(uTx ⟨s,⟨k,nm,n,[x0,x1,x2,x3,x4,x5,x6,x7]⟩,p,a,q,r⟩).toArray⟩:ByteArray)=⟨(xCz s (hTx ⟨k,nm,n,[x0,x1,x2,x3,x4,x5,x6,x7]⟩) p).toArray⟩++⟨(xTz ⟨s,⟨k,nm,n,[x0,x1,x2,x3,x4,x5,x6,x7]⟩,p,a,q,r⟩).toArray⟩:=by
 have e:uTx ⟨s,⟨k,nm,n,[x0,x1,x2,x3,x4,x5,x6,x7]⟩,p,a,q,r⟩=xCz s (hTx ⟨k,nm,n,[x0,x1,x2,x3,x4,x5,x6,x7]⟩) p++xTz ⟨s,⟨k,nm,n,[x0,x1,x2,x3,x4,x5,x6,x7]⟩,p,a,q,r⟩:=by
  unfold uTx
  rw[if_pos h]
  rfl
 rw[e]
 apply ByteArray.ext
 simp
theorem zonz(s k n p:Int)(nm a r:ByteArray)(q:Bool)(x0 x1 x2 x3 x4 x5 x6 x7:Int)(h:uOk ⟨s,⟨k,nm,n,[x0,x1,x2,x3,x4,x5,x6,x7]⟩,p,a,q,r⟩=false):uTx ⟨s,⟨k,nm,n,[x0,x1,x2,x3,x4,x5,x6,x7]⟩,p,a,q,r⟩=[]:=by
 unfold uTx
 rw[h]
 rfl
theorem zl2z(s k n p:Int)(nm a r:ByteArray)(q:Bool)(x0 x1 x2 x3 x4 x5 x6 x7:Int)(h:uOk ⟨s,⟨k,nm,n,[x0,x1,x2,x3,x4,x5,x6,x7]⟩,p,a,q,r⟩=true):8≤(uTx ⟨s,⟨k,nm,n,[x0,x1,x2,x3,x4,x5,x6,x7]⟩,p,a,q,r⟩).length:=by
 have ha:=(vGz h).2.2.2.1.1
 obtain ⟨z,hz⟩:=v5z ha
 have e:uTx ⟨s,⟨k,nm,n,[x0,x1,x2,x3,x4,x5,x6,x7]⟩,p,a,q,r⟩=xCz s (hTx ⟨k,nm,n,[x0,x1,x2,x3,x4,x5,x6,x7]⟩) p++xTz ⟨s,⟨k,nm,n,[x0,x1,x2,x3,x4,x5,x6,x7]⟩,p,a,q,r⟩:=by
  unfold uTx
  rw[if_pos h]
  rfl
 have h1:1≤(xTz ⟨s,⟨k,nm,n,[x0,x1,x2,x3,x4,x5,x6,x7]⟩,p,a,q,r⟩).length:=by
  have e2:toL a=47::z:=hz
  unfold xTz
  cases q<;>simp[e2]
 have h2:5≤(jUz s).length:=by
  unfold jUz
  split<;>decide
 rw[e]
 unfold xCz
 simp only[List.length_append,List.length_cons]
 omega
end Go.Proofs.YtgcbaphbiaimoaaGreatDoor
