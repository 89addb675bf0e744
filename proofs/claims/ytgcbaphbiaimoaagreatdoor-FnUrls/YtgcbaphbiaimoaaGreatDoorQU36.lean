/- Draw6Walk, Draw6More, Draw7Walk, Draw8Walk, Draw8More. -/
import Derived.Test.YtgcbaphbiaimoaaGreatDoorQU35
set_option maxHeartbeats 8000000
set_option maxRecDepth 100000
namespace Go.Proofs.YtgcbaphbiaimoaaGreatDoor
open Go.RowKit
theorem zlZz(s:ByteArray):(rV (znz s)).s.size≤1048576:=by
 have hz:(⟨#[]⟩:ByteArray).size≤1048576:=by decide
 unfold znz
 split
 ·exact hz
 split
 ·unfold xIz
  split
  ·cases yAz _ with
   |none=>exact hz
   |some g=>exact hz
  exact hz
 unfold xyz
 split
 ·exact hz
 rename_i n hn
 unfold vaz
 split
 ·split<;>exact hz
 show n.toArray.size≤1048576
 rw[List.size_toArray]
 have:=zdbz hn
 omega
theorem yNz{W:World}{R:Nat}{t:TypeId}(h:W.heap[R]? =some (.cells #[.int .i64 0,.string ⟨#[]⟩,.int .i64 0,.int .i64 0,.int .i64 0,.int .i64 0,.int .i64 0,.int .i64 0,.int .i64 0,.int .i64 0,.int .i64 0] t (0,0))):zaLz W R∧ ∀j,W.frozen? ⟨R,j,none⟩=false:=by
 refine ⟨⟨?_,?_,?_,?_,?_,?_,?_,?_,?_,?_,?_⟩,fun j=>frozen_of_row W R j _ t h⟩<;>(rw[cell_of_row W R _ _ t (0,0) h];rfl)
theorem yez{D B:Nat}{ao:Option Addr}{len cap:Nat}{W:World}(h:Cur D B ao len cap W){C:Nat}(hC:B<C)(k n:Int)(s:ByteArray)(x0 x1 x2 x3 x4 x5 x6 x7:Int):Cur D B ao len cap (((((((((((W.setCell ⟨C,0,none⟩ (.int .i64 k)).setCell ⟨C,1,none⟩ (.string s)).setCell ⟨C,2,none⟩ (.int .i64 n)).setCell ⟨C,3,none⟩ (.int .i64 x0)).setCell ⟨C,4,none⟩ (.int .i64 x1)).setCell ⟨C,5,none⟩ (.int .i64 x2)).setCell ⟨C,6,none⟩ (.int .i64 x3)).setCell ⟨C,7,none⟩ (.int .i64 x4)).setCell ⟨C,8,none⟩ (.int .i64 x5)).setCell ⟨C,9,none⟩ (.int .i64 x6)).setCell ⟨C,10,none⟩ (.int .i64 x7)):=
 ((((((((((h.set hC _).set hC _).set hC _).set hC _).set hC _).set hC _).set hC _).set hC _).set hC _).set hC _).set hC _
theorem z0z{w W:World}{row:Option Nat}(h:w.grownBy W row){C:Nat}(hC:w.heap.size≤C)(k n:Int)(s:ByteArray)(x0 x1 x2 x3 x4 x5 x6 x7:Int):w.grownBy (((((((((((W.setCell ⟨C,0,none⟩ (.int .i64 k)).setCell ⟨C,1,none⟩ (.string s)).setCell ⟨C,2,none⟩ (.int .i64 n)).setCell ⟨C,3,none⟩ (.int .i64 x0)).setCell ⟨C,4,none⟩ (.int .i64 x1)).setCell ⟨C,5,none⟩ (.int .i64 x2)).setCell ⟨C,6,none⟩ (.int .i64 x3)).setCell ⟨C,7,none⟩ (.int .i64 x4)).setCell ⟨C,8,none⟩ (.int .i64 x5)).setCell ⟨C,9,none⟩ (.int .i64 x6)).setCell ⟨C,10,none⟩ (.int .i64 x7)) row:=
 zAz (zAz (zAz (zAz (zAz (zAz (zAz (zAz (zAz (zAz (zAz h hC _) hC _) hC _) hC _) hC _) hC _) hC _) hC _) hC _) hC _) hC _
theorem zqWz(D B:Nat)(ao:Option Addr)(len cap:Nat)(w:World)(hcur:Cur D B ao len cap w):
  Calls Tryz.prog 128 #[.pointer (some ⟨B,0,none⟩)] w fun e w'=> ∃(k n:Int) (s:ByteArray) (x0 x1 x2 x3 x4 x5 x6 x7:Int),s.size≤1048576∧e=.returned (.agg #[.int .i64 k,.string s,.int .i64 n,.int .i64 x0,.int .i64 x1,.int .i64 x2,.int .i64 x3,.int .i64 x4,.int .i64 x5,.int .i64 x6,.int .i64 x7])∧Cur D B ao len cap w'∧w.grownBy w' (some B):=by
 have hB:=hcur.lt
 obtain ⟨O,hO⟩: ∃O,O=w.alloc (.cells #[.int .i64 0,.string ⟨#[]⟩,.int .i64 0,.int .i64 0,.int .i64 0,.int .i64 0,.int .i64 0,.int .i64 0,.int .i64 0,.int .i64 0,.int .i64 0] 26):=⟨_,rfl⟩
 have HC:Hid (Cur D B ao len cap O):=by rw[hO];exact hcur.alloc _
 have HG:Hid (w.grownBy O (some B)):=by rw[hO];exact World.grownBy_alloc w _ _
 have HH:Hid (O.heap[w.heap.size]? =some (.cells #[.int .i64 0,.string ⟨#[]⟩,.int .i64 0,.int .i64 0,.int .i64 0,.int .i64 0,.int .i64 0,.int .i64 0,.int .i64 0,.int .i64 0,.int .i64 0] 26 (0,0))):=by rw[hO];exact heap_alloc_new w _
 have HS:Hid (w.heap.size<O.heap.size):=by show _<_;rw[hO];simp
 clear hcur
 go_enter Tryz.func128,Tryz.ntmps128
 go_wp2_with fail
 rw[←hO]
 refine (xtz 6 _ _ _ _ _ _ (by omega) (by omega) HC.out).mono ?_
 rintro e wa ⟨y,hy0,hy1,rfl,ca,ga⟩
 have CA:Hid (Cur D B ao len cap wa):=ca
 have GA:Hid (w.grownBy wa (some B)):=zpz HG.out ga
 have HA:Hid (wa.heap[w.heap.size]? =some (.cells #[.int .i64 0,.string ⟨#[]⟩,.int .i64 0,.int .i64 0,.int .i64 0,.int .i64 0,.int .i64 0,.int .i64 0,.int .i64 0,.int .i64 0,.int .i64 0] 26 (0,0))):=(ga.block _ HS.out (by intro h;cases h;omega)).trans HH.out
 have SA:Hid (w.heap.size<wa.heap.size):=Nat.lt_of_lt_of_le HS.out ga.size
 clear ca ga HC HG HH HS hO
 by_cases y0:y=0
 ·subst y0
  go_wp2_with fail
  refine (zsFz _ _ _ _ _ _ CA.out).mono ?_
  rintro e wb ⟨z,hz0,hz1,rfl,cb,gb⟩
  have CB:Hid (Cur D B ao len cap wb):=cb
  have GB:Hid (w.grownBy wb (some B)):=zpz GA.out gb
  have hh:=yNz ((gb.block _ SA.out (by intro h;cases h;omega)).trans HA.out)
  have HR:Hid (yIz wb w.heap.size (yvz 0 ⟨#[]⟩ 0 0 0 0 0 0 0 0 0)):=zVz hh.1
  obtain ⟨⟨c0,c1,c2,c3,c4,c5,c6,c7,c8,c9,c10⟩,fz⟩:=hh
  clear cb gb
  go_wp2_with fail
  refine bodyPost_ret (zRz rfl _ _ w.heap.size 2 z ⟨#[]⟩ 0 0 0 0 0 0 0 0 rfl (zDz HR.out 2 z ⟨#[]⟩ 0 0 0 0 0 0 0 0)) rfl ⟨2,z,⟨#[]⟩,0,0,0,0,0,0,0,0,by decide,rfl,yez CB.out hB 2 z ⟨#[]⟩ 0 0 0 0 0 0 0 0,z0z GB.out (Nat.le_refl _) 2 z ⟨#[]⟩ 0 0 0 0 0 0 0 0⟩
 by_cases y1:y=1
 ·subst y1
  go_wp2_with fail
  refine (l5Six _ _ _ _ _ _ CA.out).mono ?_
  rintro e wb ⟨x0,x1,x2,x3,x4,x5,x6,x7,_,rfl,cb,gb⟩
  have CB:Hid (Cur D B ao len cap wb):=cb
  have GB:Hid (w.grownBy wb (some B)):=zpz GA.out gb
  have hh:=yNz ((gb.block _ SA.out (by intro h;cases h;omega)).trans HA.out)
  have HR:Hid (yIz wb w.heap.size (yvz 0 ⟨#[]⟩ 0 0 0 0 0 0 0 0 0)):=zVz hh.1
  obtain ⟨⟨c0,c1,c2,c3,c4,c5,c6,c7,c8,c9,c10⟩,fz⟩:=hh
  clear cb gb
  go_wp2_with fail
  refine bodyPost_ret (zRz rfl _ _ w.heap.size 3 0 ⟨#[]⟩ x0 x1 x2 x3 x4 x5 x6 x7 rfl (zDz HR.out 3 0 ⟨#[]⟩ x0 x1 x2 x3 x4 x5 x6 x7)) rfl ⟨3,0,⟨#[]⟩,x0,x1,x2,x3,x4,x5,x6,x7,by decide,rfl,yez CB.out hB 3 0 ⟨#[]⟩ x0 x1 x2 x3 x4 x5 x6 x7,z0z GB.out (Nat.le_refl _) 3 0 ⟨#[]⟩ x0 x1 x2 x3 x4 x5 x6 x7⟩
 have q0:(y==0)=false:=beq_eq_false_iff_ne.2 y0
 have q1:(y==1)=false:=beq_eq_false_iff_ne.2 y1
 go_wp2_with fail
 go_loopw[3] (fun i wr=> ∃k:Nat,k≤5∧i=.int .i64 k∧Cur D B ao len cap wr∧w.grownBy wr (some B)∧wr.heap[w.heap.size]? =some (.cells #[.int .i64 0,.string ⟨#[]⟩,.int .i64 0,.int .i64 0,.int .i64 0,.int .i64 0,.int .i64 0,.int .i64 0,.int .i64 0,.int .i64 0,.int .i64 0] 26 (0,0))∧w.heap.size<wr.heap.size) (fun i _=>5-(intOf i).toNat)
 case atStart=>exact ⟨0,by decide,rfl,CA.out,GA.out,HA.out,SA.out⟩
 obtain ⟨k,hk,rfl,hcu,hgr,hh,hsz⟩:=hrel
 have HU:Hid (Cur D B ao len cap wr):=hcu
 have HG:Hid (w.grownBy wr (some B)):=hgr
 have HH:Hid (wr.heap[w.heap.size]? =some (.cells #[.int .i64 0,.string ⟨#[]⟩,.int .i64 0,.int .i64 0,.int .i64 0,.int .i64 0,.int .i64 0,.int .i64 0,.int .i64 0,.int .i64 0,.int .i64 0] 26 (0,0))):=hh
 have HSZ:Hid (w.heap.size<wr.heap.size):=hsz
 clear hcu hgr hh hsz CA GA HA SA
 by_cases hlt:k<5
 ·have hki:(k:Int)<5:=by omega
  go_wp2_with fail
  refine (ztcz _ _ _ _ _ _ HU.out).mono ?_
  rintro e wc ⟨z,hz,rfl,cc,gc⟩
  have CC:Hid (Cur D B ao len cap wc):=cc
  have GC:Hid (w.grownBy wc (some B)):=zpz HG.out gc
  have HC:Hid (wc.heap[w.heap.size]? =some (.cells #[.int .i64 0,.string ⟨#[]⟩,.int .i64 0,.int .i64 0,.int .i64 0,.int .i64 0,.int .i64 0,.int .i64 0,.int .i64 0,.int .i64 0,.int .i64 0] 26 (0,0))):=(gc.block _ HSZ.out (by intro h;cases h;omega)).trans HH.out
  have SC:Hid (w.heap.size<wc.heap.size):=Nat.lt_of_lt_of_le HSZ.out gc.size
  have CP:Hid (Calls Tryz.prog 58 #[.string z] wc fun e w'=>e=.returned (.tuple #[xcz (rV (znz z)),.int .i64 (rC (znz z))])∧Below wc.heap.size wc w'):=zgGz z wc (by omega)
  obtain ⟨x0,x1,x2,x3,x4,x5,x6,x7,_,hv⟩:=zchz _ (vbz z)
  have hvs:(rV (znz z)).s.size≤1048576:=zlZz z
  rw[hv]at CP
  generalize rC (znz z)=C at CP
  generalize (rV (znz z)).k=kk at CP
  generalize (rV (znz z)).s=t at CP hvs
  generalize (rV (znz z)).n=n at CP
  clear cc gc hv
  go_wp2_with fail
  refine CP.out.mono ?_
  rintro e wd ⟨rfl,bd⟩
  have CD:Hid (Cur D B ao len cap (wd.alloc (.cells #[.int .i64 kk,.string t,.int .i64 n,.int .i64 x0,.int .i64 x1,.int .i64 x2,.int .i64 x3,.int .i64 x4,.int .i64 x5,.int .i64 x6,.int .i64 x7] 26))):=(CC.out.below bd.block).alloc _
  have GD:Hid (w.grownBy (wd.alloc (.cells #[.int .i64 kk,.string t,.int .i64 n,.int .i64 x0,.int .i64 x1,.int .i64 x2,.int .i64 x3,.int .i64 x4,.int .i64 x5,.int .i64 x6,.int .i64 x7] 26)) (some B)):=yJz (zeYz GC.out bd) _
  have HD0:wd.heap[w.heap.size]? =some (.cells #[.int .i64 0,.string ⟨#[]⟩,.int .i64 0,.int .i64 0,.int .i64 0,.int .i64 0,.int .i64 0,.int .i64 0,.int .i64 0,.int .i64 0,.int .i64 0] 26 (0,0)):=(bd.block _ SC.out).trans HC.out
  have SD0:w.heap.size<wd.heap.size:=Nat.lt_of_lt_of_le SC.out bd.size
  have HD:Hid ((wd.alloc (.cells #[.int .i64 kk,.string t,.int .i64 n,.int .i64 x0,.int .i64 x1,.int .i64 x2,.int .i64 x3,.int .i64 x4,.int .i64 x5,.int .i64 x6,.int .i64 x7] 26)).heap[w.heap.size]? =some (.cells #[.int .i64 0,.string ⟨#[]⟩,.int .i64 0,.int .i64 0,.int .i64 0,.int .i64 0,.int .i64 0,.int .i64 0,.int .i64 0,.int .i64 0,.int .i64 0] 26 (0,0))):=(Below.heap_alloc wd _ _ SD0).trans HD0
  have SD:Hid (w.heap.size<(wd.alloc (.cells #[.int .i64 kk,.string t,.int .i64 n,.int .i64 x0,.int .i64 x1,.int .i64 x2,.int .i64 x3,.int .i64 x4,.int .i64 x5,.int .i64 x6,.int .i64 x7] 26)).heap.size):=by show _<_;simp;omega
  clear bd HD0 SD0
  by_cases hC:C=0
  ·subst hC
   have hh:=yNz HD.out
   have HR:Hid (yIz (wd.alloc (.cells #[.int .i64 kk,.string t,.int .i64 n,.int .i64 x0,.int .i64 x1,.int .i64 x2,.int .i64 x3,.int .i64 x4,.int .i64 x5,.int .i64 x6,.int .i64 x7] 26)) w.heap.size (yvz 0 ⟨#[]⟩ 0 0 0 0 0 0 0 0 0)):=zVz hh.1
   obtain ⟨⟨c0,c1,c2,c3,c4,c5,c6,c7,c8,c9,c10⟩,fz⟩:=hh
   go_wp2_with fail
   refine bodyPost_ret (zRz rfl _ _ w.heap.size kk n t x0 x1 x2 x3 x4 x5 x6 x7 rfl (zDz HR.out kk n t x0 x1 x2 x3 x4 x5 x6 x7)) rfl ⟨kk,n,t,x0,x1,x2,x3,x4,x5,x6,x7,hvs,rfl,yez CD.out hB kk n t x0 x1 x2 x3 x4 x5 x6 x7,z0z GD.out (Nat.le_refl _) kk n t x0 x1 x2 x3 x4 x5 x6 x7⟩
  have qC:(C==0)=false:=beq_eq_false_iff_ne.2 hC
  go_wp2_with fail
  go_roundw
  case rel=>exact ⟨k+1,by omega,by go_num,CD.out,GD.out,HD.out,SD.out⟩
  case measure=>simp[intOf];omega
 have hki: ¬(k:Int)<5:=by omega
 have hh:=yNz HH.out
 have HR:Hid (yIz wr w.heap.size (yvz 0 ⟨#[]⟩ 0 0 0 0 0 0 0 0 0)):=zVz hh.1
 obtain ⟨⟨c0,c1,c2,c3,c4,c5,c6,c7,c8,c9,c10⟩,fz⟩:=hh
 go_wp2_with fail
 refine bodyPost_ret (zRz rfl _ _ w.heap.size 1 0 ⟨#[97,46,99,111,109]⟩ 0 0 0 0 0 0 0 0 rfl (zDz HR.out 1 0 ⟨#[97,46,99,111,109]⟩ 0 0 0 0 0 0 0 0)) rfl ⟨1,0,⟨#[97,46,99,111,109]⟩,by decide,⟨0,0,0,0,0,0,0,0,rfl⟩,yez HU.out hB 1 0 ⟨#[97,46,99,111,109]⟩ 0 0 0 0 0 0 0 0,z0z HG.out (Nat.le_refl _) 1 0 ⟨#[97,46,99,111,109]⟩ 0 0 0 0 0 0 0 0⟩
theorem vtz{W:World}{R:Nat}{t:TypeId}{k n:Int}{s:ByteArray}{x0 x1 x2 x3 x4 x5 x6 x7:Int}(h:W.heap[R]? =some (.cells #[.int .i64 k,.string s,.int .i64 n,.int .i64 x0,.int .i64 x1,.int .i64 x2,.int .i64 x3,.int .i64 x4,.int .i64 x5,.int .i64 x6,.int .i64 x7] t (0,0))):
  (W.cell? ⟨R,0,none⟩=some (.int .i64 k)∧W.cell? ⟨R,1,none⟩=some (.string s)∧W.cell? ⟨R,2,none⟩=some (.int .i64 n)∧W.cell? ⟨R,3,none⟩=some (.int .i64 x0)∧W.cell? ⟨R,4,none⟩=some (.int .i64 x1)∧W.cell? ⟨R,5,none⟩=some (.int .i64 x2)∧W.cell? ⟨R,6,none⟩=some (.int .i64 x3)∧
  W.cell? ⟨R,7,none⟩=some (.int .i64 x4)∧W.cell? ⟨R,8,none⟩=some (.int .i64 x5)∧W.cell? ⟨R,9,none⟩=some (.int .i64 x6)∧W.cell? ⟨R,10,none⟩=some (.int .i64 x7))∧ ∀j,W.frozen? ⟨R,j,none⟩=false:=by
 refine ⟨⟨?_,?_,?_,?_,?_,?_,?_,?_,?_,?_,?_⟩,fun j=>frozen_of_row W R j _ t h⟩<;>(rw[cell_of_row W R _ _ t (0,0) h];rfl)
theorem l6Any(D B:Nat)(ao:Option Addr)(len cap:Nat)(w:World)(hcur:Cur D B ao len cap w):
  Calls Tryz.prog 80 #[.pointer (some ⟨B,0,none⟩)] w fun e w'=> ∃(k n:Int) (s:ByteArray) (x0 x1 x2 x3 x4 x5 x6 x7:Int),s.size≤1048576∧e=.returned (.agg #[.int .i64 k,.string s,.int .i64 n,.int .i64 x0,.int .i64 x1,.int .i64 x2,.int .i64 x3,.int .i64 x4,.int .i64 x5,.int .i64 x6,.int .i64 x7])∧Cur D B ao len cap w'∧w.grownBy w' (some B):=by
 have hB:=hcur.lt
 obtain ⟨O,hO⟩: ∃O,O=w.alloc (.cells #[.int .i64 0,.string ⟨#[]⟩,.int .i64 0,.int .i64 0,.int .i64 0,.int .i64 0,.int .i64 0,.int .i64 0,.int .i64 0,.int .i64 0,.int .i64 0] 26):=⟨_,rfl⟩
 have HC:Hid (Cur D B ao len cap O):=by rw[hO];exact hcur.alloc _
 have HG:Hid (w.grownBy O (some B)):=by rw[hO];exact World.grownBy_alloc w _ _
 have HH:Hid (O.heap[w.heap.size]? =some (.cells #[.int .i64 0,.string ⟨#[]⟩,.int .i64 0,.int .i64 0,.int .i64 0,.int .i64 0,.int .i64 0,.int .i64 0,.int .i64 0,.int .i64 0,.int .i64 0] 26 (0,0))):=by rw[hO];exact heap_alloc_new w _
 have HS:Hid (w.heap.size<O.heap.size):=by show _<_;rw[hO];simp
 clear hcur
 go_enter Tryz.func80,Tryz.ntmps80
 go_wp2_with fail
 rw[←hO]
 refine (zqWz _ _ _ _ _ _ HC.out).mono ?_
 rintro e wa ⟨k,n,s,x0,x1,x2,x3,x4,x5,x6,x7,hs,rfl,ca,ga⟩
 obtain ⟨Q,hQ⟩: ∃Q,Q=wa.alloc (.cells #[.int .i64 k,.string s,.int .i64 n,.int .i64 x0,.int .i64 x1,.int .i64 x2,.int .i64 x3,.int .i64 x4,.int .i64 x5,.int .i64 x6,.int .i64 x7] 26):=⟨_,rfl⟩
 have CA:Hid (Cur D B ao len cap Q):=by rw[hQ];exact ca.alloc _
 have GA:Hid (w.grownBy Q (some B)):=by rw[hQ];exact yJz (zpz HG.out ga) _
 have hwa:w.heap.size<wa.heap.size:=Nat.lt_of_lt_of_le HS.out ga.size
 have HA:Hid (Q.heap[w.heap.size]? =some (.cells #[.int .i64 0,.string ⟨#[]⟩,.int .i64 0,.int .i64 0,.int .i64 0,.int .i64 0,.int .i64 0,.int .i64 0,.int .i64 0,.int .i64 0,.int .i64 0] 26 (0,0))):=by
  rw[hQ]
  exact (Below.heap_alloc wa _ _ hwa).trans ((ga.block _ HS.out (by intro h;cases h;omega)).trans HH.out)
 have HK:Hid (Q.heap[wa.heap.size]? =some (.cells #[.int .i64 k,.string s,.int .i64 n,.int .i64 x0,.int .i64 x1,.int .i64 x2,.int .i64 x3,.int .i64 x4,.int .i64 x5,.int .i64 x6,.int .i64 x7] 26 (0,0))):=by rw[hQ];exact heap_alloc_new wa _
 have SQ:Hid (wa.heap.size<Q.heap.size):=by show _<_;rw[hQ];simp
 clear ca ga HC HG HH HS hO
 go_wp2_with fail
 rw[←hQ]
 refine (xtz 12 _ _ _ _ _ _ (by omega) (by omega) CA.out).mono ?_
 rintro e wb ⟨y,hy0,hy1,rfl,cb,gb⟩
 have CB:Hid (Cur D B ao len cap wb):=cb
 have GB:Hid (w.grownBy wb (some B)):=zpz GA.out gb
 have HZ:Hid (wb.heap[w.heap.size]? =some (.cells #[.int .i64 0,.string ⟨#[]⟩,.int .i64 0,.int .i64 0,.int .i64 0,.int .i64 0,.int .i64 0,.int .i64 0,.int .i64 0,.int .i64 0,.int .i64 0] 26 (0,0))):=(gb.block _ (by have:=SQ.out;omega) (by intro h;cases h;omega)).trans HA.out
 have HX:Hid (wb.heap[wa.heap.size]? =some (.cells #[.int .i64 k,.string s,.int .i64 n,.int .i64 x0,.int .i64 x1,.int .i64 x2,.int .i64 x3,.int .i64 x4,.int .i64 x5,.int .i64 x6,.int .i64 x7] 26 (0,0))):=(gb.block _ SQ.out (by intro h;cases h;omega)).trans HK.out
 have SB:Hid (wa.heap.size<wb.heap.size):=Nat.lt_of_lt_of_le SQ.out gb.size
 clear cb gb HA HK SQ CA GA hQ
 have hBa:B<wa.heap.size:=by omega
 by_cases y0:y=0
 ·subst y0
  go_wp2_with fail
  refine (xtz 5 _ _ _ _ _ _ (by omega) (by omega) CB.out).mono ?_
  rintro e wc ⟨z,hz0,hz1,rfl,cc,gc⟩
  have CC:Hid (Cur D B ao len cap wc):=cc
  have GC:Hid (w.grownBy wc (some B)):=zpz GB.out gc
  have Z1:=(gc.block _ (by have:=SB.out;omega) (by intro h;cases h;omega)).trans HZ.out
  have X1:=(gc.block _ SB.out (by intro h;cases h;omega)).trans HX.out
  have hz:=yNz Z1
  have HR:Hid (yIz wc w.heap.size (yvz 0 ⟨#[]⟩ 0 0 0 0 0 0 0 0 0)):=zVz hz.1
  obtain ⟨⟨c0,c1,c2,c3,c4,c5,c6,c7,c8,c9,c10⟩,fz⟩:=hz
  obtain ⟨⟨d0,d1,d2,d3,d4,d5,d6,d7,d8,d9,d10⟩,gz⟩:=vtz X1
  clear cc gc Z1 X1
  go_wp2_with fail
  refine bodyPost_ret (zRz rfl _ _ w.heap.size z n s x0 x1 x2 x3 x4 x5 x6 x7 rfl (zDz (HR.out.other (by omega) _ _) z n s x0 x1 x2 x3 x4 x5 x6 x7)) rfl ⟨z,n,s,x0,x1,x2,x3,x4,x5,x6,x7,hs,rfl,yez (CC.out.set hBa _) hB z n s x0 x1 x2 x3 x4 x5 x6 x7,z0z (zAz GC.out (by omega) _) (Nat.le_refl _) z n s x0 x1 x2 x3 x4 x5 x6 x7⟩
 have q0:(y==0)=false:=beq_eq_false_iff_ne.2 y0
 by_cases y1:y=1
 ·subst y1
  go_wp2_with fail
  refine (zlYz _ _ _ _ _ _ CB.out).mono ?_
  rintro e wc ⟨z,hz,rfl,cc,gc⟩
  have CC:Hid (Cur D B ao len cap wc):=cc
  have GC:Hid (w.grownBy wc (some B)):=zpz GB.out gc
  have Z1:=(gc.block _ (by have:=SB.out;omega) (by intro h;cases h;omega)).trans HZ.out
  have X1:=(gc.block _ SB.out (by intro h;cases h;omega)).trans HX.out
  have hz:=yNz Z1
  have HR:Hid (yIz wc w.heap.size (yvz 0 ⟨#[]⟩ 0 0 0 0 0 0 0 0 0)):=zVz hz.1
  obtain ⟨⟨c0,c1,c2,c3,c4,c5,c6,c7,c8,c9,c10⟩,fz⟩:=hz
  obtain ⟨⟨d0,d1,d2,d3,d4,d5,d6,d7,d8,d9,d10⟩,gz⟩:=vtz X1
  clear cc gc Z1 X1
  go_wp2_with fail
  refine bodyPost_ret (zRz rfl _ _ w.heap.size k n z x0 x1 x2 x3 x4 x5 x6 x7 rfl (zDz (HR.out.other (by omega) _ _) k n z x0 x1 x2 x3 x4 x5 x6 x7)) rfl ⟨k,n,z,x0,x1,x2,x3,x4,x5,x6,x7,by omega,rfl,yez (CC.out.set hBa _) hB k n z x0 x1 x2 x3 x4 x5 x6 x7,z0z (zAz GC.out (by omega) _) (Nat.le_refl _) k n z x0 x1 x2 x3 x4 x5 x6 x7⟩
 have q1:(y==1)=false:=beq_eq_false_iff_ne.2 y1
 by_cases y2:y=2
 ·subst y2
  go_wp2_with fail
  refine (zipz 3 _ 3 0 _ _ _ _ _ _ _ (by omega) (by omega) (CB.out.alloc _) (World.ownsRow_lit wb _ 3 (Nat.zero_le _) (by decide) rfl) (by have:=CB.out.lt;omega) rfl).mono ?_
  rintro e wc ⟨z,rfl,cc,gc⟩
  have CC:Hid (Cur D B ao len cap wc):=cc
  have GC:Hid (w.grownBy wc (some B)):=zpz (yJz GB.out _) gc
  have Z1:=(gc.block _ (by have:=SB.out;simp;omega) (by intro h;cases h;omega)).trans ((Below.heap_alloc wb _ _ (by have:=SB.out;omega)).trans HZ.out)
  have X1:=(gc.block _ (by have:=SB.out;simp;omega) (by intro h;cases h;omega)).trans ((Below.heap_alloc wb _ _ SB.out).trans HX.out)
  have hz:=yNz Z1
  have HR:Hid (yIz wc w.heap.size (yvz 0 ⟨#[]⟩ 0 0 0 0 0 0 0 0 0)):=zVz hz.1
  obtain ⟨⟨c0,c1,c2,c3,c4,c5,c6,c7,c8,c9,c10⟩,fz⟩:=hz
  obtain ⟨⟨d0,d1,d2,d3,d4,d5,d6,d7,d8,d9,d10⟩,gz⟩:=vtz X1
  clear cc gc Z1 X1
  go_wp2_with fail
  refine bodyPost_ret (zRz rfl _ _ w.heap.size k z s x0 x1 x2 x3 x4 x5 x6 x7 rfl (zDz (HR.out.other (by omega) _ _) k z s x0 x1 x2 x3 x4 x5 x6 x7)) rfl ⟨k,z,s,x0,x1,x2,x3,x4,x5,x6,x7,hs,rfl,yez (CC.out.set hBa _) hB k z s x0 x1 x2 x3 x4 x5 x6 x7,z0z (zAz GC.out (by omega) _) (Nat.le_refl _) k z s x0 x1 x2 x3 x4 x5 x6 x7⟩
 have q2:(y==2)=false:=beq_eq_false_iff_ne.2 y2
 by_cases y3:y=3
 ·subst y3
  go_wp2_with fail
  refine (xtz 8 _ _ _ _ _ _ (by omega) (by omega) CB.out).mono ?_
  rintro e wc ⟨z,hz0,hz1,rfl,cc,gc⟩
  have CC:Hid (Cur D B ao len cap wc):=cc
  have hBc:=cc.lt
  have GC:Hid (w.grownBy wc (some B)):=zpz GB.out gc
  have Z1:Hid (_=_):=(gc.block _ (by have:=SB.out;omega) (by intro h;cases h;omega)).trans HZ.out
  have X1:Hid (_=_):=(gc.block _ SB.out (by intro h;cases h;omega)).trans HX.out
  have SC:Hid (wa.heap.size<wc.heap.size):=Nat.lt_of_lt_of_le SB.out gc.size
  clear cc gc HZ HX SB CB GB
  go_wp2_with fail
  refine (zipz 3 _ 3 0 _ _ _ _ _ _ _ (by omega) (by omega) (CC.out.alloc _) (World.ownsRow_lit wc _ 3 (Nat.zero_le _) (by decide) rfl) (by omega) rfl).mono ?_
  rintro e wd ⟨v,rfl,cd,gd⟩
  have CD:Hid (Cur D B ao len cap wd):=cd
  have GD:Hid (w.grownBy wd (some B)):=zpz (yJz GC.out _) gd
  have Z2:=(gd.block _ (by have:=SC.out;simp;omega) (by intro h;cases h;omega)).trans ((Below.heap_alloc wc _ _ (by have:=SC.out;omega)).trans Z1.out)
  have X2:=(gd.block _ (by have:=SC.out;simp;omega) (by intro h;cases h;omega)).trans ((Below.heap_alloc wc _ _ SC.out).trans X1.out)
  have hz:=yNz Z2
  have HR:Hid (yIz wd w.heap.size (yvz 0 ⟨#[]⟩ 0 0 0 0 0 0 0 0 0)):=zVz hz.1
  obtain ⟨⟨c0,c1,c2,c3,c4,c5,c6,c7,c8,c9,c10⟩,fz⟩:=hz
  obtain ⟨⟨d0,d1,d2,d3,d4,d5,d6,d7,d8,d9,d10⟩,gz⟩:=vtz X2
  clear cd gd Z1 X1 Z2 X2 CC GC hBc
  have h8:z=0∨z=1∨z=2∨z=3∨z=4∨z=5∨z=6∨z=7:=by omega
  clear hz0 hz1
  rcases h8 with rfl|rfl|rfl|rfl|rfl|rfl|rfl|rfl
  ·go_wp2_with fail
   refine bodyPost_ret (zRz rfl _ _ w.heap.size k n s v x1 x2 x3 x4 x5 x6 x7 rfl (zDz (HR.out.other (by omega) _ _) k n s v x1 x2 x3 x4 x5 x6 x7)) rfl ⟨k,n,s,v,x1,x2,x3,x4,x5,x6,x7,hs,rfl,yez (CD.out.set hBa _) hB k n s v x1 x2 x3 x4 x5 x6 x7,z0z (zAz GD.out (by omega) _) (Nat.le_refl _) k n s v x1 x2 x3 x4 x5 x6 x7⟩
  ·go_wp2_with fail
   refine bodyPost_ret (zRz rfl _ _ w.heap.size k n s x0 v x2 x3 x4 x5 x6 x7 rfl (zDz (HR.out.other (by omega) _ _) k n s x0 v x2 x3 x4 x5 x6 x7)) rfl ⟨k,n,s,x0,v,x2,x3,x4,x5,x6,x7,hs,rfl,yez (CD.out.set hBa _) hB k n s x0 v x2 x3 x4 x5 x6 x7,z0z (zAz GD.out (by omega) _) (Nat.le_refl _) k n s x0 v x2 x3 x4 x5 x6 x7⟩
  ·go_wp2_with fail
   refine bodyPost_ret (zRz rfl _ _ w.heap.size k n s x0 x1 v x3 x4 x5 x6 x7 rfl (zDz (HR.out.other (by omega) _ _) k n s x0 x1 v x3 x4 x5 x6 x7)) rfl ⟨k,n,s,x0,x1,v,x3,x4,x5,x6,x7,hs,rfl,yez (CD.out.set hBa _) hB k n s x0 x1 v x3 x4 x5 x6 x7,z0z (zAz GD.out (by omega) _) (Nat.le_refl _) k n s x0 x1 v x3 x4 x5 x6 x7⟩
  ·go_wp2_with fail
   refine bodyPost_ret (zRz rfl _ _ w.heap.size k n s x0 x1 x2 v x4 x5 x6 x7 rfl (zDz (HR.out.other (by omega) _ _) k n s x0 x1 x2 v x4 x5 x6 x7)) rfl ⟨k,n,s,x0,x1,x2,v,x4,x5,x6,x7,hs,rfl,yez (CD.out.set hBa _) hB k n s x0 x1 x2 v x4 x5 x6 x7,z0z (zAz GD.out (by omega) _) (Nat.le_refl _) k n s x0 x1 x2 v x4 x5 x6 x7⟩
  ·go_wp2_with fail
   refine bodyPost_ret (zRz rfl _ _ w.heap.size k n s x0 x1 x2 x3 v x5 x6 x7 rfl (zDz (HR.out.other (by omega) _ _) k n s x0 x1 x2 x3 v x5 x6 x7)) rfl ⟨k,n,s,x0,x1,x2,x3,v,x5,x6,x7,hs,rfl,yez (CD.out.set hBa _) hB k n s x0 x1 x2 x3 v x5 x6 x7,z0z (zAz GD.out (by omega) _) (Nat.le_refl _) k n s x0 x1 x2 x3 v x5 x6 x7⟩
  ·go_wp2_with fail
   refine bodyPost_ret (zRz rfl _ _ w.heap.size k n s x0 x1 x2 x3 x4 v x6 x7 rfl (zDz (HR.out.other (by omega) _ _) k n s x0 x1 x2 x3 x4 v x6 x7)) rfl ⟨k,n,s,x0,x1,x2,x3,x4,v,x6,x7,hs,rfl,yez (CD.out.set hBa _) hB k n s x0 x1 x2 x3 x4 v x6 x7,z0z (zAz GD.out (by omega) _) (Nat.le_refl _) k n s x0 x1 x2 x3 x4 v x6 x7⟩
  ·go_wp2_with fail
   refine bodyPost_ret (zRz rfl _ _ w.heap.size k n s x0 x1 x2 x3 x4 x5 v x7 rfl (zDz (HR.out.other (by omega) _ _) k n s x0 x1 x2 x3 x4 x5 v x7)) rfl ⟨k,n,s,x0,x1,x2,x3,x4,x5,v,x7,hs,rfl,yez (CD.out.set hBa _) hB k n s x0 x1 x2 x3 x4 x5 v x7,z0z (zAz GD.out (by omega) _) (Nat.le_refl _) k n s x0 x1 x2 x3 x4 x5 v x7⟩
  go_wp2_with fail
  refine bodyPost_ret (zRz rfl _ _ w.heap.size k n s x0 x1 x2 x3 x4 x5 x6 v rfl (zDz (HR.out.other (by omega) _ _) k n s x0 x1 x2 x3 x4 x5 x6 v)) rfl ⟨k,n,s,x0,x1,x2,x3,x4,x5,x6,v,hs,rfl,yez (CD.out.set hBa _) hB k n s x0 x1 x2 x3 x4 x5 x6 v,z0z (zAz GD.out (by omega) _) (Nat.le_refl _) k n s x0 x1 x2 x3 x4 x5 x6 v⟩
 have q3:(y==3)=false:=beq_eq_false_iff_ne.2 y3
 have Z1:=HZ.out
 have X1:=HX.out
 have hz:=yNz Z1
 have HR:Hid (yIz wb w.heap.size (yvz 0 ⟨#[]⟩ 0 0 0 0 0 0 0 0 0)):=zVz hz.1
 obtain ⟨⟨c0,c1,c2,c3,c4,c5,c6,c7,c8,c9,c10⟩,fz⟩:=hz
 obtain ⟨⟨d0,d1,d2,d3,d4,d5,d6,d7,d8,d9,d10⟩,gz⟩:=vtz X1
 clear Z1 X1
 go_wp2_with fail
 refine bodyPost_ret (zRz rfl _ _ w.heap.size k n s x0 x1 x2 x3 x4 x5 x6 x7 rfl (zDz HR.out k n s x0 x1 x2 x3 x4 x5 x6 x7)) rfl ⟨k,n,s,x0,x1,x2,x3,x4,x5,x6,x7,hs,rfl,yez CB.out hB k n s x0 x1 x2 x3 x4 x5 x6 x7,z0z GB.out (Nat.le_refl _) k n s x0 x1 x2 x3 x4 x5 x6 x7⟩
theorem ztdz(D B:Nat)(ao:Option Addr)(len cap:Nat)(w:World)(hcur:Cur D B ao len cap w):
  Calls Tryz.prog 165 #[.pointer (some ⟨B,0,none⟩)] w fun e w'=> ∃z:ByteArray,1≤z.size∧z.size≤1000∧e=.returned (.string z)∧Cur D B ao len cap w'∧w.grownBy w' (some B):=by
 have HC:Hid (Cur D B ao len cap w):=hcur
 clear hcur
 go_enter Tryz.func165,Tryz.ntmps165
 go_wp2_with fail
 refine (xtz 7 _ _ _ _ _ _ (by omega) (by omega) HC.out).mono ?_
 rintro e wa ⟨x,hx0,hx1,rfl,ca,ga⟩
 have CA:Hid (Cur D B ao len cap wa):=ca
 clear ca
 obtain ⟨n,rfl⟩:=Int.eq_ofNat_of_zero_le hx0
 go_wp2_with fail
 go_loopw[3,4] (fun a i wr=> ∃(k:Nat) (z:ByteArray),k≤n∧i=.int .i64 k∧a=.string z∧1≤z.size∧z.size+20*k≤20*n+1∧Cur D B ao len cap wr∧w.grownBy wr (some B)) (fun _ i _=>(intOf i).toNat)
 case atStart=>exact ⟨n,⟨#[47]⟩,Nat.le_refl _,rfl,rfl,by simp[ByteArray.size],by simp[ByteArray.size];omega,CA.out,ga⟩
 obtain ⟨k,z,hk,rfl,rfl,hz1,hz,hcu,hgr⟩:=hrel
 have HU:Hid (Cur D B ao len cap wr):=hcu
 have hB:=hcu.lt
 clear hcu
 by_cases hp:0<k
 ·go_wp2_with fail
  refine (zfBz 20 14 _ 14 0 _ _ _ _ _ _ _ (by omega) (by omega) (HU.out.alloc _) (World.ownsRow_lit wr _ 14 (Nat.zero_le _) (by decide) rfl) (by omega) (by decide)).mono ?_
  rintro e wc ⟨y,hy,rfl,cc,gc⟩
  have CC:Hid (Cur D B ao len cap wc):=cc
  have G:=zpz (yJz hgr _) gc
  clear cc gc hgr
  go_wp2_with fail
  go_roundw
  case rel=>exact ⟨k-1,z++y,by omega,by go_num,rfl,by rw[ByteArray.size_append];omega,by rw[ByteArray.size_append];omega,CC.out,G⟩
  case measure=>simp[intOf];omega
 go_wp2_with fail
 go_ret
 exact ⟨z,hz1,by omega,rfl,HU.out,hgr⟩
theorem zsez(D B:Nat)(ao:Option Addr)(len cap:Nat)(w:World)(hcur:Cur D B ao len cap w):
  Calls Tryz.prog 110 #[.pointer (some ⟨B,0,none⟩)] w fun e w'=> ∃z:ByteArray,z.size≤3000∧e=.returned (.string z)∧Cur D B ao len cap w'∧w.grownBy w' (some B):=by
 have HC:Hid (Cur D B ao len cap w):=hcur
 clear hcur
 have hd1:(⟨#[63]⟩:ByteArray).size=1:=rfl
 go_enter Tryz.func110,Tryz.ntmps110
 go_wp2_with fail
 refine (ztdz _ _ _ _ _ _ HC.out).mono ?_
 rintro e wa ⟨x,hx1,hx,rfl,ca,ga⟩
 have CA:Hid (Cur D B ao len cap wa):=ca
 clear ca hx1
 go_wp2_with fail
 refine (zptz 2 _ _ _ _ _ _ (by omega) (by omega) CA.out).mono ?_
 rintro e wb ⟨y,rfl,cb,gb⟩
 have CB:Hid (Cur D B ao len cap wb):=cb
 have GB:Hid (w.grownBy wb (some B)):=zpz ga gb
 clear cb gb ga
 cases y with
 |true=>
  go_wp2_with fail
  refine (zqVz _ _ _ _ _ _ CB.out).mono ?_
  rintro e wc ⟨z,hz,rfl,cc,gc⟩
  have CC:Hid (Cur D B ao len cap wc):=cc
  have GC:Hid (w.grownBy wc (some B)):=zpz GB.out gc
  clear cc gc
  go_wp2_with fail
  go_ret
  exact ⟨_,by rw[ByteArray.size_append,ByteArray.size_append,hd1];omega,rfl,CC.out,GC.out⟩
 |false=>
  go_wp2_with fail
  go_ret
  exact ⟨x,by omega,rfl,CB.out,GB.out⟩
end Go.Proofs.YtgcbaphbiaimoaaGreatDoor
namespace Go.Proofs.YtgcbaphbiaimoaaGreatDoor
open Go.RowKit
attribute [local go_sem↓] Go.wp_at_zero Go.wp_at_succ
theorem Cur.moved{D B C:Nat}{ao:Option Addr}{len cap:Nat}{W W':World}(h:Cur D B ao len cap W)(hC:B<C)(hM:zbCz C W W'):Cur D B ao len cap W':=
 have hb:=hM.2 C W (Nat.le_refl _) (Below.refl _ _)
 h.keep (hb.block B hC) fun k hk=>hb.block k (by have:=h.le;omega)
theorem zgqz{C:Nat}{w W W':World}{row:Option Nat}(h:w.grownBy W row)(hC:w.heap.size≤C)(hM:zbCz C W W'):w.grownBy W' row:=
 have hb:=hM.2 _ W hC (Below.refl _ _)
 ⟨hb.os.trans h.os,hb.tape.trans h.tape,hb.output.trans h.output,Nat.le_trans h.size hb.size,fun k hk hr=>(hb.block k hk).trans (h.block k hk hr)⟩
theorem UAt.grown{W W':World}{U B:Nat}{vs:List Value}(h:UAt W U vs)(hg:W.grownBy W' (some B))(hne:U≠B):UAt W' U vs:=by
 have hs:=hg.block U h.2.2 (by intro h;cases h;exact hne rfl)
 refine ⟨fun j v hv=>(World.cell?_of_block (w:=W) (a:=⟨U,j,none⟩) hs).trans (h.1 j v hv),fun j=>(World.frozen?_of_block (w:=W) (a:=⟨U,j,none⟩) hs).trans (h.2.1 j),Nat.lt_of_lt_of_le h.2.2 hg.size⟩
def SD(D B:Nat)(ao:Option Addr)(len cap:Nat)(w:World)(U:Nat)(row:List Value)(W:World):Prop:=
 Cur D B ao len cap W∧w.grownBy W (some B)∧(∃rr:List Value,rr.length=16∧UAt W w.heap.size rr)∧UAt W U row∧w.heap.size<U∧B<w.heap.size
section
variable {D B:Nat} {ao:Option Addr} {len cap:Nat} {w:World} {U:Nat} {row:List Value} {W W':World}
theorem SD.below(h:SD D B ao len cap w U row W)(hb:Below W.heap.size W W'):SD D B ao len cap w U row W':=by
 obtain ⟨h1,h2,⟨rr,hl,h3⟩,h4,h5⟩:=h
 exact ⟨h1.below fun k hk=>hb.block k hk,zeYz h2 hb,⟨rr,hl,h3.below hb⟩,h4.below hb,h5⟩
theorem SD.drew(h:SD D B ao len cap w U row W):SD D B ao len cap w U row W.drew:=⟨h.1,⟨h.2.1.os,h.2.1.tape,h.2.1.output,h.2.1.size,h.2.1.block⟩,h.2.2⟩
theorem SD.grown(h:SD D B ao len cap w U row W)(hc:Cur D B ao len cap W')(hg:W.grownBy W' (some B)):SD D B ao len cap w U row W':=by
 obtain ⟨h1,h2,⟨rr,hl,h3⟩,h4,h5,h6⟩:=h
 exact ⟨hc,zpz h2 hg,⟨rr,hl,h3.grown hg (by omega)⟩,h4.grown hg (by omega),h5,h6⟩
theorem SD.alloc(h:SD D B ao len cap w U row W)(o:Obj):SD D B ao len cap w U row (W.alloc o):=h.below ((Below.refl _ _).alloc (Nat.le_refl _) o)
theorem SD.moved{row':List Value}(h:SD D B ao len cap w U row W)(hM:zbCz U W W')(hU:UAt W' U row'):SD D B ao len cap w U row' W':=by
 obtain ⟨h1,h2,⟨rr,hl,h3⟩,h4,h5,h6⟩:=h
 exact ⟨h1.moved (by omega) hM,zgqz h2 (by omega) hM,⟨rr,hl,hM.1 _ _ (by omega) h3⟩,hU,h5,h6⟩
theorem SD.res{rr:List Value}(h:SD D B ao len cap w U row W)(hM:zbCz w.heap.size W W')(hl:rr.length=16)(hU:UAt W' w.heap.size rr):SD D B ao len cap w U row W':=by
 obtain ⟨h1,h2,_,h4,h5,h6⟩:=h
 exact ⟨h1.moved h6 hM,zgqz h2 (Nat.le_refl _) hM,⟨rr,hl,hU⟩,hM.1 _ _ (by omega) h4,h5,h6⟩
theorem SD.set(h:SD D B ao len cap w U row W)(j:Nat)(hj:j<row.length)(v:Value):SD D B ao len cap w U (row.set j v) (W.setCell ⟨U,j,none⟩ v):=by
 obtain ⟨h1,h2,⟨rr,hl,h3⟩,h4,h5,h6⟩:=h
 exact ⟨h1.set (by omega) v,zAz h2 (by omega) v,⟨rr,hl,h3.other (by omega) j v⟩,h4.set j hj v,h5,h6⟩
end
theorem zl0z(l:ByteArray)(h:l.size≤3000):(zhLz l).size≤1048576∧(zgiz l).size≤1048576:=by
 obtain ⟨h1,h2⟩:=zcGz (p:=fun c=>c !=63) l
 have h3:(zciz l).size≤3000:=by unfold zciz;omega
 have h4:(jaz l).size≤3000:=by unfold jaz;omega
 have h5:(zaKz (zciz l)).size≤3000:=by
  unfold zaKz
  split
  ·decide
  exact h3
 constructor
 ·unfold zhLz
  refine Nat.le_trans (zfGz _) (Nat.le_trans (zdIz _ _) ?_)
  rw[yMz,vpz]
  have e:(zaKz (zciz l)).data.toList.length=(zaKz (zciz l)).size:=by simp
  omega
 unfold zgiz
 refine Nat.le_trans (zdIz _ _) ?_
 rw[ByteArray.size_extract]
 omega
theorem l8Url(D B:Nat)(ao:Option Addr)(len cap:Nat)(w:World)(hcur:Cur D B ao len cap w):
  Calls Tryz.prog 69 #[.pointer (some ⟨B,0,none⟩)] w fun e w'=> ∃(s k n p:Int) (nm a r:ByteArray) (q:Bool) (x0 x1 x2 x3 x4 x5 x6 x7:Int),(nm.size≤1048576∧a.size≤1048576∧r.size≤1048576)∧e=.returned (.agg (zjz s k nm n x0 x1 x2 x3 x4 x5 x6 x7 p a q r).toArray)∧Cur D B ao len cap w'∧w.grownBy w' (some B):=by
 have hB:=hcur.lt
 obtain ⟨O,hO⟩: ∃O,O=w.alloc (.cells #[.int .i64 0,.int .i64 0,.string ⟨#[]⟩,.int .i64 0,.int .i64 0,.int .i64 0,.int .i64 0,.int .i64 0,.int .i64 0,.int .i64 0,.int .i64 0,.int .i64 0,.int .i64 0,.string ⟨#[]⟩,.bool false,.string ⟨#[]⟩] 28):=⟨_,rfl⟩
 have HC:Hid (Cur D B ao len cap O):=by rw[hO];exact hcur.alloc _
 have HG:Hid (w.grownBy O (some B)):=by rw[hO];exact World.grownBy_alloc w _ _
 have HU:Hid (UAt O w.heap.size zZz):=by rw[hO];exact UAt.new w _ _
 clear hcur
 go_enter Tryz.func69,Tryz.ntmps69
 go_wp2_with fail
 rw[←hO]
 refine (xtz 2 _ _ _ _ _ _ (by omega) (by omega) HC.out).mono ?_
 rintro e wa ⟨y,hy0,hy1,rfl,ca,ga⟩
 have CA:Hid (Cur D B ao len cap wa):=ca
 have GA:Hid (w.grownBy wa (some B)):=zpz HG.out ga
 have UA:Hid (UAt wa w.heap.size zZz):=HU.out.grown ga (by omega)
 clear ca ga HC HG HU hO
 go_wp2_with fail
 refine (zqWz _ _ _ _ _ _ CA.out).mono ?_
 rintro e wb ⟨k,n,nm,x0,x1,x2,x3,x4,x5,x6,x7,hs,rfl,cb,gb⟩
 have SB:Hid (SD D B ao len cap w wb.heap.size (zjz 0 0 ⟨#[]⟩ 0 0 0 0 0 0 0 0 0 0 ⟨#[]⟩ false ⟨#[]⟩) (wb.alloc (.cells #[.int .i64 0,.int .i64 0,.string ⟨#[]⟩,.int .i64 0,.int .i64 0,.int .i64 0,.int .i64 0,.int .i64 0,.int .i64 0,.int .i64 0,.int .i64 0,.int .i64 0,.int .i64 0,.string ⟨#[]⟩,.bool false,.string ⟨#[]⟩] 28))):=
  have hu:=UA.out.grown gb (by omega)
  ⟨cb.alloc _,yJz (zpz GA.out gb) _,⟨_,rfl,hu.below ((Below.refl _ _).alloc (Nat.le_refl _) _)⟩,UAt.new wb _ _,hu.2.2,hB⟩
 clear cb gb CA GA UA
 go_upto_region 2 with (refine y0z SB.out.2.2.2.1 rfl (us:=zjz (1+y) k nm n x0 x1 x2 x3 x4 x5 x6 x7 0 ⟨#[]⟩ false ⟨#[]⟩) rfl (zQz ..) rfl _ _ rfl rfl rfl ?_;intro w5 HU5 HM5)
 have S5:Hid (SD D B ao len cap w wb.heap.size (zjz (1+y) k nm n x0 x1 x2 x3 x4 x5 x6 x7 0 ⟨#[]⟩ false ⟨#[]⟩) w5):=SB.out.moved HM5 HU5
 clear HU5 HM5 SB
 generalize wb.heap.size=U at S5⊢
 generalize 1+y=s at S5⊢
 have hBw:B<w5.heap.size:=S5.out.1.lt
 have CD:Hid (∀W,CS 37 #[.int .i64 s] W (.int .i64 (z4z s))):=fun W=>zbbz s W
 generalize z4z s=d at CD
 refine wp_region_held_drew (S:=fun W=> ∃p:Int,SD D B ao len cap w U (zjz s k nm n x0 x1 x2 x3 x4 x5 x6 x7 p ⟨#[]⟩ false ⟨#[]⟩) W) (by kernel_rfl) ⟨0,S5.out.drew⟩ (fun h0=> ?_)
 clear S5
 refine wpAnyH_take (i:=0) (v:= ?_) rfl (by kernel_rfl) (by kernel_rfl) (by kernel_rfl) (fun _ _ _ h=>h) (Or.inl ⟨by rfl,fun W hW=> ?_⟩) h0 ?_
 rotate_left
 ·clear hW
  go_simp
  try with_reducible rfl
 simp only[Act.put,List.getElem_toArray,List.getElem_cons_zero,List.setIfInBounds_toArray,List.set_cons_zero,List.set_cons_succ]
 refine wpAnyH_take (i:=1) (v:= ?_) rfl (by kernel_rfl) (by kernel_rfl) (by kernel_rfl) (fun _ _ _ h=>h) (Or.inl ⟨by rfl,fun W hW=> ?_⟩) h0 ?_
 rotate_left
 ·clear hW
  go_simp
  try with_reducible rfl
 simp only[Act.put,List.getElem_toArray,List.getElem_cons_zero,List.getElem_cons_succ,List.setIfInBounds_toArray,List.set_cons_zero,List.set_cons_succ]
 refine wpAnyH_take (i:=2) (v:= ?_) rfl (by kernel_rfl) (by kernel_rfl) (by kernel_rfl) (fun _ _ _ h=>h) (Or.inl ⟨by rfl,fun W hW=> ?_⟩) h0 ?_
 rotate_left
 ·have c:=hW.choose_spec.2.2.2.1.1 0 _ rfl
  go_simp
  try with_reducible rfl
 simp only[Act.put,List.getElem_toArray,List.getElem_cons_zero,List.getElem_cons_succ,List.setIfInBounds_toArray,List.set_cons_zero,List.set_cons_succ]
 refine wpAnyH_take (i:=4) (v:= ?_) rfl (by kernel_rfl) (by kernel_rfl) (by kernel_rfl) (fun _ _ _ h=>h) (Or.inl ⟨by rfl,fun W hW=> ?_⟩) h0 ?_
 rotate_left
 ·clear hW
  go_simp
  try with_reducible rfl
 simp only[Act.put,List.getElem_toArray,List.getElem_cons_zero,List.getElem_cons_succ,List.setIfInBounds_toArray,List.set_cons_zero,List.set_cons_succ]
 refine wpAnyH_take (i:=5) (v:= ?_) rfl (by kernel_rfl) (by kernel_rfl) (by kernel_rfl) (fun _ _ _ h=>h) (Or.inl ⟨by rfl,fun W hW=> ?_⟩) h0 ?_
 rotate_left
 ·have c:=hW.choose_spec.2.2.2.1.1 0 _ rfl
  go_simp
  try with_reducible rfl
 simp only[Act.put,List.getElem_toArray,List.getElem_cons_zero,List.getElem_cons_succ,List.setIfInBounds_toArray,List.set_cons_zero,List.set_cons_succ]
 refine wpAnyH_ready (rs:=[3]) (by kernel_rfl) (by simp) (AllReadyH.cons rfl (fun K hK=> ?_) AllReadyH.nil)
 go_simp
 go_wp2_with (go_at_call 37;refine (CD.out _).mono ?_;rintro e wq ⟨rfl,rfl⟩)
 refine hK.out _ _ h0 (fun h1=> ?_)
 clear hK K h1
 refine wpAnyH_ready (rs:=[6]) (by kernel_rfl) (by simp) (AllReadyH.cons rfl (fun K hK=> ?_) AllReadyH.nil)
 go_simp
 go_wp2_with (go_at_call 37;refine (CD.out _).mono ?_;rintro e wq ⟨rfl,rfl⟩)
 refine hK.out _ _ h0 (fun h1=> ?_)
 clear hK K h1
 refine wpAnyH_ready (rs:=[7]) (by kernel_rfl) (by simp) (AllReadyH.cons rfl (fun K hK=> ?_) AllReadyH.nil)
 go_simp
 obtain ⟨p0,g0⟩:=h0
 refine hK.out _ _ ⟨p0,g0.alloc _⟩ (fun h1=> ?_)
 clear hK K h1
 refine wpAnyH_ready (rs:=[8]) (by kernel_rfl) (by simp) (AllReadyH.cons rfl (fun K hK=> ?_) AllReadyH.nil)
 go_simp
 go_wp2_with (go_at_call 77;refine (zipz 7 _ 7 0 _ _ _ _ _ _ _ (by omega) (by omega) (g0.alloc _).1 (World.ownsRow_lit w5 _ 7 (Nat.zero_le _) (by decide) rfl) (by omega) rfl).mono ?_;rintro e wc ⟨z,rfl,cc,gc⟩)
 have g1:=(g0.alloc _).grown cc gc
 refine hK.out _ _ ⟨p0,g1⟩ (fun h1=> ?_)
 clear hK K g0 cc gc
 refine wpAnyH_take (i:=9) (v:= ?_) rfl (by kernel_rfl) (by kernel_rfl) (by kernel_rfl) (fun _ _ _ h=>h) (Or.inl ⟨by rfl,fun W hW=> ?_⟩) h1 ?_
 rotate_left
 ·clear hW
  go_simp
  try with_reducible rfl
 simp only[Act.put,List.getElem_toArray,List.getElem_cons_zero,List.getElem_cons_succ,List.setIfInBounds_toArray,List.set_cons_zero,List.set_cons_succ]
 have c12:=g1.2.2.2.1.1 12 _ rfl
 have f12:=g1.2.2.2.1.2.1 12
 refine wpAnyH_ready (rs:=[10]) (by kernel_rfl) (by simp) (AllReadyH.cons rfl (fun K hK=> ?_) AllReadyH.nil)
 go_simp
 refine hK.out _ _ ⟨z,g1.set 12 (by show 12<16;decide) (.int .i64 z)⟩ (fun h2=> ?_)
 clear hK K h1 c12 f12
 refine wpAnyH_done (by kernel_rfl) ?_ _
 have S6:Hid (SD D B ao len cap w U (zjz s k nm n x0 x1 x2 x3 x4 x5 x6 x7 z ⟨#[]⟩ false ⟨#[]⟩) (wc.setCell ⟨U,12,none⟩ (.int .i64 z))):=g1.set 12 (by show 12<16;decide) (.int .i64 z)
 clear g1 h2
 generalize wc.setCell ⟨U,12,none⟩ (.int .i64 z)=w6 at S6⊢
 go_upto_region 3 with fail
 refine wp_region_held_drew (S:=SD D B ao len cap w U (zjz s k nm n x0 x1 x2 x3 x4 x5 x6 x7 z ⟨#[]⟩ false ⟨#[]⟩)) (by kernel_rfl) S6.out.drew (fun h0=> ?_)
 clear S6
 refine wpAnyH_take (i:=0) (v:=.agg (zjz s k nm n x0 x1 x2 x3 x4 x5 x6 x7 z ⟨#[]⟩ false ⟨#[]⟩).toArray) rfl (by kernel_rfl) (by kernel_rfl) (by kernel_rfl) (fun _ _ _ h=>h) (yieldsIf_load_mid (by rfl) _ _ rfl U 0 rfl (zjz s k nm n x0 x1 x2 x3 x4 x5 x6 x7 z ⟨#[]⟩ false ⟨#[]⟩) _ (fun W hW=>hW.2.2.2.1.range 0 _ (fun j v hv=>by rw[Nat.zero_add];exact hv)) Tryz.underlying28 rfl Tryz.infoUrl) h0 ?_
 simp only[Act.put,List.getElem_toArray,List.getElem_cons_zero,List.setIfInBounds_toArray,List.set_cons_zero,List.set_cons_succ]
 refine wpAnyH_take (i:=1) (v:= ?_) rfl (by kernel_rfl) (by kernel_rfl) (by kernel_rfl) (fun _ _ _ h=>h) (Or.inl ⟨by rfl,fun W hW=> ?_⟩) h0 ?_
 rotate_left
 ·clear hW
  go_simp
  try with_reducible rfl
 simp only[Act.put,List.getElem_toArray,List.getElem_cons_zero,List.getElem_cons_succ,List.setIfInBounds_toArray,List.set_cons_zero,List.set_cons_succ]
 refine wpAnyH_ready (rs:=[2]) (by kernel_rfl) (by simp) (AllReadyH.cons rfl (fun K hK=> ?_) AllReadyH.nil)
 go_simp
 go_wp2_with (go_at_call 110;refine (zsez _ _ _ _ _ _ h0.1).mono ?_;rintro e wq ⟨l,hl,rfl,cq,gq⟩)
 have g1:=h0.grown cq gq
 refine hK.out _ _ g1 (fun h1=> ?_)
 clear hK K h1 h0 cq gq
 refine wpAnyH_ready (rs:=[3]) (by kernel_rfl) (by simp) (AllReadyH.cons rfl (fun K hK=> ?_) AllReadyH.nil)
 go_simp
 go_wp2_with (go_at_call 59;refine (zqIz s k n z nm ⟨#[]⟩ ⟨#[]⟩ false x0 x1 x2 x3 x4 x5 x6 x7 l _ (by omega)).mono ?_;rintro e wr ⟨rfl,hbr⟩)
 have g2:=g1.below hbr
 refine hK.out _ _ g2 (fun h1=> ?_)
 clear hK K h1 g1 hbr
 obtain ⟨hA,hR⟩:=zl0z l hl
 generalize zhLz l=A at hA⊢
 generalize zgiz l=R at hR⊢
 generalize zkPz l=Q at⊢
 obtain ⟨rr,hrl,hN⟩:=g2.2.2.1
 refine wpAnyH_ready (rs:=[4]) (by kernel_rfl) (by simp) (AllReadyH.cons rfl (fun K hK=> ?_) AllReadyH.nil)
 rw[if_pos (by rfl)]
 refine wp_store_mid _ _ _ rfl w.heap.size 0 (zjz s k nm n x0 x1 x2 x3 x4 x5 x6 x7 z A Q R).toArray rfl rfl (hN.there 0 16 (by rw[hrl];decide)) Tryz.infoUrl (zQz ..) ?_
 have hM:=yZz (C:=w.heap.size) (zjz s k nm n x0 x1 x2 x3 x4 x5 x6 x7 z A Q R).toArray.toList 0 wr
 have hU:=jSz (us:=zjz s k nm n x0 x1 x2 x3 x4 x5 x6 x7 z A Q R) hN hrl rfl
 have g3:=g2.res hM rfl hU
 generalize wr.setCells w.heap.size 0 (zjz s k nm n x0 x1 x2 x3 x4 x5 x6 x7 z A Q R).toArray.toList=w9 at hM hU g3⊢
 refine hK.out _ _ g3 (fun h2=> ?_)
 clear hK K h2 g2 hM hN
 refine wpAnyH_done (by kernel_rfl) ?_ _
 simp only[Act.put]
 go_wp2_with fail
 refine bodyPost_ret (yRz rfl _ _ w.heap.size (zjz s k nm n x0 x1 x2 x3 x4 x5 x6 x7 z A Q R) rfl rfl hU) rfl ⟨s,k,n,z,nm,A,R,Q,x0,x1,x2,x3,x4,x5,x6,x7,⟨hs,hA,hR⟩,rfl,g3.1,g3.2.1⟩
end Go.Proofs.YtgcbaphbiaimoaaGreatDoor
