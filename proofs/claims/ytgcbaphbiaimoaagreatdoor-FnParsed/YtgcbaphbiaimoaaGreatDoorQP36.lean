/- Draw6Walk, Draw6More, Draw7Walk, Draw8Walk. -/
import Derived.Test.YtgcbaphbiaimoaaGreatDoorQP35
set_option maxHeartbeats 8000000
set_option maxRecDepth 100000
namespace Go.Proofs.YtgcbaphbiaimoaaGreatDoor
open Go.RowKit
theorem zmKz(ao:Option Addr)(len cap:Nat)(w:World)(hl:len≤1048576)(hcode:yNz w.heap.size w ao len):
  Calls Tryz.prog 163 #[.slice ao len cap] w fun e w'=> ∃z:ByteArray,z.size≤100∧e=.returned (.string z)∧Below w.heap.size w w':=by
 have HCO:Hid (yNz w.heap.size w ao len):=hcode
 clear hcode
 go_enter Tryz.func163,Tryz.ntmps163
 go_wp2_with fail
 refine (ztdz _ _ _ _ hl HCO.out).mono ?_
 rintro e wa ⟨B,rfl,hBw,ca,ba⟩
 have CA:Hid (Cur w.heap.size B ao len cap wa):=ca
 clear ca
 go_wp2_with fail
 refine (zghz 3 _ _ _ _ _ _ (by omega) (by omega) CA.out).mono ?_
 rintro e wb ⟨b,rfl,cb,gb⟩
 have CB:Hid (Cur w.heap.size B ao len cap wb):=cb
 have hB:=cb.lt
 have B1:Below w.heap.size w wb:=ba.grown gb ba.size (fun k hk=>by cases hk;exact hBw)
 clear cb gb ba
 cases b with
 |true=>
  go_wp2_with fail
  refine (zbOz 100 10 _ 10 0 _ _ _ _ _ _ _ (by omega) (by omega) (CB.out.alloc _) (World.ownsRow_lit wb _ 10 (Nat.zero_le _) (by decide) rfl) (by omega) (by decide)).mono ?_
  rintro e wc ⟨y,hy,rfl,cc,gc⟩
  have B2:Below w.heap.size w wc:=(B1.alloc B1.size _).grown gc (by simp;have:=B1.size;omega) (fun k hk=>by cases hk;exact hBw)
  clear cc gc
  go_wp2_with fail
  go_ret
  exact ⟨y,hy,rfl,B2⟩
 |false=>
  go_wp2_with fail
  refine (zqiz _ _ _ _ _ _ CB.out).mono ?_
  rintro e wc ⟨z,hz0,hz1,rfl,cc,gc⟩
  have B2:Below w.heap.size w wc:=B1.grown gc B1.size (fun k hk=>by cases hk;exact hBw)
  clear cc gc
  have CI:Hid (∀W,Calls Tryz.prog 170 #[.int .i64 z] W fun e w'=>e=.returned (.string (xaz z))∧Below W.heap.size W w'):=fun W=>zeNz z W hz0 hz1
  have HS:Hid ((xaz z).size≤100):=by
   show _≤_
   unfold xaz
   show (xJz z.toNat).toArray.size≤100
   rw[List.size_toArray]
   unfold xJz
   have h1:=yvz (z.toNat/16777216)
   have h2:=yvz (z.toNat/65536%256)
   have h3:=yvz (z.toNat/256%256)
   have h4:=yvz (z.toNat%256)
   simp
   omega
  generalize xaz z=T at CI HS
  go_wp2_with fail
  refine (CI.out _).mono ?_
  rintro e wd ⟨rfl,bd⟩
  have B3:=B2.trans (bd.mono B2.size)
  clear bd
  go_wp2_with fail
  go_ret
  exact ⟨T,HS.out,rfl,B3⟩
def jBz(l:List Int):List Value:=l.map (Value.int .u8)
theorem zjxz(l:List Int)(x:Int):jBz (l++[x])=jBz l++[Value.int .u8 x]:=by simp[jBz]
theorem zlwz{w:World}{B:Nat}{m:Nat}{v:Value}{zl:List Int}(h:w.ownsRow B 5 1 v m (jBz zl))(hz: ∀x∈zl,0≤x∧x≤255): ∃ao cap,v=.slice ao m cap∧yNz w.heap.size w ao m:=by
 rcases zpz h with ⟨rfl,_,ao,cap,rfl⟩|⟨_,g,cap,rfl⟩
 ·exact ⟨ao,cap,rfl,.inl rfl⟩
 refine ⟨_,cap,rfl,.inr ⟨g,0,rfl,(h.lt g rfl).2,fun j hj=> ?_⟩⟩
 have hl:zl.length=m:=by have:=h.1;simpa[jBz] using this
 have hj':j<zl.length:=by omega
 refine ⟨zl[j],?_,hz _ (List.getElem_mem hj')⟩
 rw[Nat.zero_add,h.cellAt j (by omega)]
 simp[jBz,hj']
theorem zs9z(n:Nat)(D B:Nat)(ao:Option Addr)(len cap:Nat)(w:World)(hn:n≤1000)(hcur:Cur D B ao len cap w):
  Calls Tryz.prog 164 #[.pointer (some ⟨B,0,none⟩),.int .i64 (n:Int)] w fun e w'=> ∃(v:Value) (zl:List Int),e=.returned v∧(∀x∈zl,0≤x∧x≤255)∧w'.ownsRow w.heap.size 5 1 v n (jBz zl)∧Cur D B ao len cap w'∧w.grownBy w' (some B):=by
 have hB:=hcur.lt
 have HC:Hid (Cur D B ao len cap (w.alloc (.cells #[] 5))):=hcur.alloc _
 have HO:(w.alloc (.cells #[] 5)).ownsRow w.heap.size 5 1 (.slice (some ⟨w.heap.size,0,none⟩) 0 0) 0 []:=World.ownsRow_lit w #[] 0 (Nat.le_refl _) (by decide) rfl
 have G0:w.grownBy (w.alloc (.cells #[] 5)) (some B):=World.grownBy_alloc w _ _
 clear hcur
 go_enter Tryz.func164,Tryz.ntmps164
 go_wp2_with fail
 go_loopw[5,6] (fun v i wr=> ∃(k:Nat) (zl:List Int),k≤n∧i=.int .i64 k∧(∀x∈zl,0≤x∧x≤255)∧wr.ownsRow w.heap.size 5 1 v k (jBz zl)∧some B≠v.ownBlock∧Cur D B ao len cap wr∧w.grownBy wr (some B)) (fun _ i _=>n-(intOf i).toNat)
 case atStart=>exact ⟨0,[],Nat.zero_le _,rfl,by simp,HO,by simp[Value.ownBlock];omega,HC.out,G0⟩
 clear HO G0
 obtain ⟨k,zl,hk,rfl,hz,hown,hne,hcu,hgr⟩:=hrel
 have HU:Hid (Cur D B ao len cap wr):=hcu
 have HZ:Hid (∀x∈zl,0≤x∧x≤255):=hz
 have HN:Hid (some B≠u5.ownBlock):=hne
 have hBr:=hcu.lt
 have hsz:=hgr.size
 clear hcu hz hne
 by_cases hlt:k<n
 ·have hki:(k:Int)<(n:Int):=by omega
  go_wp2_with fail
  refine (zggz _ _ _ _ _ _ HU.out).mono ?_
  rintro e wc ⟨y,hy0,hy1,rfl,cc,gc⟩
  have CC:Hid (Cur D B ao len cap wc):=cc
  have oc:=hown.kept gc (.inr (fun h=>HN.out h.symm))
  have Gc:=ztz hgr gc
  have zc:=Gc.size
  have hBc:=cc.lt
  clear cc gc hown hgr
  go_wp2_with (at_builtin;refine vdz _ rfl _ _ 22 rfl w.heap.size 5 (.int .u8 0) 1 Tryz.underlying22 Tryz.info5 rfl _ _ _ rfl oc #[.int .u8 y] 1 rfl rfl (by intro u hu;simp at hu;subst hu;rfl) (by omega) (by unfold maxLen;omega) zc ?_)
  intro v' w1 hown' hb1 hkeep
  have C1:Cur D B ao len cap w1:=CC.out.keep (hkeep B hBc HN.out) (fun k hk=>hb1.block k (by have:=CC.out.le;omega))
  have N1:some B≠v'.ownBlock:=by
   intro hx
   have h1:=(hown'.cells (g:=B) hx.symm) 0
   obtain ⟨i',h',hc,_⟩:=C1
   rcases hown'.2 with ⟨rfl,_⟩|⟨g,cap',cur,rfl,_,hg,_⟩
   ·simp[Value.ownBlock]at hx
   simp[Value.ownBlock]at hx
   subst hx
   rw[hc]at hg
   simp at hg
  have G1:w.grownBy w1 (some B):=⟨hb1.os.trans Gc.os,hb1.tape.trans Gc.tape,hb1.output.trans Gc.output,by have:=hb1.size;omega,fun k hk hkB=>(hb1.block k hk).trans (Gc.block k hk hkB)⟩
  have O1:w1.ownsRow w.heap.size 5 1 v' (k+1) (jBz (zl++[y])):=by rw[zjxz];exact hown'
  clear hown' hb1 hkeep oc Gc
  go_wp2_with fail
  go_roundw
  case rel=>
   refine ⟨k+1,zl++[y],by omega,by go_num,?_,O1,N1,C1,G1⟩
   intro x hx
   rcases List.mem_append.1 hx with h|h
   ·exact HZ.out x h
   rw[List.mem_singleton.1 h]
   exact ⟨hy0,hy1⟩
  case measure=>simp[intOf];omega
 have hki: ¬(k:Int)<(n:Int):=by omega
 obtain rfl:k=n:=by omega
 go_wp2_with fail
 go_ret
 first|exact ⟨_,zl,rfl,HZ.out,hown,HU.out,hgr⟩|exact ⟨_,rfl,zl,HZ.out,hown,HU.out,hgr⟩
theorem zmLz(s:ByteArray):(rV (zmz s)).s.size≤1048576:=by
 have hz:(⟨#[]⟩:ByteArray).size≤1048576:=by decide
 unfold zmz
 split
 ·exact hz
 split
 ·unfold xOz
  split
  ·cases yEz _ with
   |none=>exact hz
   |some g=>exact hz
  exact hz
 unfold xCz
 split
 ·exact hz
 rename_i n hn
 unfold vlz
 split
 ·split<;>exact hz
 show n.toArray.size≤1048576
 rw[List.size_toArray]
 have:=zdyz hn
 omega
theorem jCz{W:World}{R:Nat}{t:TypeId}(h:W.heap[R]? =some (.cells #[.int .i64 0,.string ⟨#[]⟩,.int .i64 0,.int .i64 0,.int .i64 0,.int .i64 0,.int .i64 0,.int .i64 0,.int .i64 0,.int .i64 0,.int .i64 0] t (0,0))):za1z W R∧ ∀j,W.frozen? ⟨R,j,none⟩=false:=by
 refine ⟨⟨?_,?_,?_,?_,?_,?_,?_,?_,?_,?_,?_⟩,fun j=>frozen_of_row W R j _ t h⟩<;>(rw[cell_of_row W R _ _ t (0,0) h];rfl)
theorem zbrz{D B:Nat}{ao:Option Addr}{len cap:Nat}{W:World}(h:Cur D B ao len cap W){C:Nat}(hC:B<C)(k n:Int)(s:ByteArray)(x0 x1 x2 x3 x4 x5 x6 x7:Int):Cur D B ao len cap (((((((((((W.setCell ⟨C,0,none⟩ (.int .i64 k)).setCell ⟨C,1,none⟩ (.string s)).setCell ⟨C,2,none⟩ (.int .i64 n)).setCell ⟨C,3,none⟩ (.int .i64 x0)).setCell ⟨C,4,none⟩ (.int .i64 x1)).setCell ⟨C,5,none⟩ (.int .i64 x2)).setCell ⟨C,6,none⟩ (.int .i64 x3)).setCell ⟨C,7,none⟩ (.int .i64 x4)).setCell ⟨C,8,none⟩ (.int .i64 x5)).setCell ⟨C,9,none⟩ (.int .i64 x6)).setCell ⟨C,10,none⟩ (.int .i64 x7)):=
 ((((((((((h.set hC _).set hC _).set hC _).set hC _).set hC _).set hC _).set hC _).set hC _).set hC _).set hC _).set hC _
theorem zaoz{w W:World}{row:Option Nat}(h:w.grownBy W row){C:Nat}(hC:w.heap.size≤C)(k n:Int)(s:ByteArray)(x0 x1 x2 x3 x4 x5 x6 x7:Int):w.grownBy (((((((((((W.setCell ⟨C,0,none⟩ (.int .i64 k)).setCell ⟨C,1,none⟩ (.string s)).setCell ⟨C,2,none⟩ (.int .i64 n)).setCell ⟨C,3,none⟩ (.int .i64 x0)).setCell ⟨C,4,none⟩ (.int .i64 x1)).setCell ⟨C,5,none⟩ (.int .i64 x2)).setCell ⟨C,6,none⟩ (.int .i64 x3)).setCell ⟨C,7,none⟩ (.int .i64 x4)).setCell ⟨C,8,none⟩ (.int .i64 x5)).setCell ⟨C,9,none⟩ (.int .i64 x6)).setCell ⟨C,10,none⟩ (.int .i64 x7)) row:=
 yqz (yqz (yqz (yqz (yqz (yqz (yqz (yqz (yqz (yqz (yqz h hC _) hC _) hC _) hC _) hC _) hC _) hC _) hC _) hC _) hC _) hC _
theorem zucz(D B:Nat)(ao:Option Addr)(len cap:Nat)(w:World)(hcur:Cur D B ao len cap w):
  Calls Tryz.prog 128 #[.pointer (some ⟨B,0,none⟩)] w fun e w'=> ∃(k n:Int) (s:ByteArray) (x0 x1 x2 x3 x4 x5 x6 x7:Int),s.size≤1048576∧e=.returned (.agg #[.int .i64 k,.string s,.int .i64 n,.int .i64 x0,.int .i64 x1,.int .i64 x2,.int .i64 x3,.int .i64 x4,.int .i64 x5,.int .i64 x6,.int .i64 x7])∧Cur D B ao len cap w'∧w.grownBy w' (some B):=by
 have hB:=hcur.lt
 obtain ⟨O,hO⟩: ∃O,O=w.alloc (.cells #[.int .i64 0,.string ⟨#[]⟩,.int .i64 0,.int .i64 0,.int .i64 0,.int .i64 0,.int .i64 0,.int .i64 0,.int .i64 0,.int .i64 0,.int .i64 0] 26):=⟨_,rfl⟩
 have HC:Hid (Cur D B ao len cap O):=by rw[hO];exact hcur.alloc _
 have HG:Hid (w.grownBy O (some B)):=by rw[hO];exact World.grownBy_alloc w _ _
 have HH:Hid (O.heap[w.heap.size]? =some (.cells #[.int .i64 0,.string ⟨#[]⟩,.int .i64 0,.int .i64 0,.int .i64 0,.int .i64 0,.int .i64 0,.int .i64 0,.int .i64 0,.int .i64 0,.int .i64 0] 26 (0,0))):=by rw[hO];exact heap_alloc_new w _
 have HS:Hid (w.heap.size<O.heap.size):=by show _<_;rw[hO];simp
 clear hcur
 go_enter Tryz.func128,Tryz.ntmps128
 go_wp2_with fail
 rw[←hO]
 refine (vuz 6 _ _ _ _ _ _ (by omega) (by omega) HC.out).mono ?_
 rintro e wa ⟨y,hy0,hy1,rfl,ca,ga⟩
 have CA:Hid (Cur D B ao len cap wa):=ca
 have GA:Hid (w.grownBy wa (some B)):=ztz HG.out ga
 have HA:Hid (wa.heap[w.heap.size]? =some (.cells #[.int .i64 0,.string ⟨#[]⟩,.int .i64 0,.int .i64 0,.int .i64 0,.int .i64 0,.int .i64 0,.int .i64 0,.int .i64 0,.int .i64 0,.int .i64 0] 26 (0,0))):=(ga.block _ HS.out (by intro h;cases h;omega)).trans HH.out
 have SA:Hid (w.heap.size<wa.heap.size):=Nat.lt_of_lt_of_le HS.out ga.size
 clear ca ga HC HG HH HS hO
 by_cases y0:y=0
 ·subst y0
  go_wp2_with fail
  refine (zqiz _ _ _ _ _ _ CA.out).mono ?_
  rintro e wb ⟨z,hz0,hz1,rfl,cb,gb⟩
  have CB:Hid (Cur D B ao len cap wb):=cb
  have GB:Hid (w.grownBy wb (some B)):=ztz GA.out gb
  have hh:=jCz ((gb.block _ SA.out (by intro h;cases h;omega)).trans HA.out)
  have HR:Hid (xgz wb w.heap.size (ymz 0 ⟨#[]⟩ 0 0 0 0 0 0 0 0 0)):=yBz hh.1
  obtain ⟨⟨c0,c1,c2,c3,c4,c5,c6,c7,c8,c9,c10⟩,fz⟩:=hh
  clear cb gb
  go_wp2_with fail
  refine bodyPost_ret (jvz rfl _ _ w.heap.size 2 z ⟨#[]⟩ 0 0 0 0 0 0 0 0 rfl (y4z HR.out 2 z ⟨#[]⟩ 0 0 0 0 0 0 0 0)) rfl ⟨2,z,⟨#[]⟩,0,0,0,0,0,0,0,0,by decide,rfl,zbrz CB.out hB 2 z ⟨#[]⟩ 0 0 0 0 0 0 0 0,zaoz GB.out (Nat.le_refl _) 2 z ⟨#[]⟩ 0 0 0 0 0 0 0 0⟩
 by_cases y1:y=1
 ·subst y1
  go_wp2_with fail
  refine (l5Six _ _ _ _ _ _ CA.out).mono ?_
  rintro e wb ⟨x0,x1,x2,x3,x4,x5,x6,x7,_,rfl,cb,gb⟩
  have CB:Hid (Cur D B ao len cap wb):=cb
  have GB:Hid (w.grownBy wb (some B)):=ztz GA.out gb
  have hh:=jCz ((gb.block _ SA.out (by intro h;cases h;omega)).trans HA.out)
  have HR:Hid (xgz wb w.heap.size (ymz 0 ⟨#[]⟩ 0 0 0 0 0 0 0 0 0)):=yBz hh.1
  obtain ⟨⟨c0,c1,c2,c3,c4,c5,c6,c7,c8,c9,c10⟩,fz⟩:=hh
  clear cb gb
  go_wp2_with fail
  refine bodyPost_ret (jvz rfl _ _ w.heap.size 3 0 ⟨#[]⟩ x0 x1 x2 x3 x4 x5 x6 x7 rfl (y4z HR.out 3 0 ⟨#[]⟩ x0 x1 x2 x3 x4 x5 x6 x7)) rfl ⟨3,0,⟨#[]⟩,x0,x1,x2,x3,x4,x5,x6,x7,by decide,rfl,zbrz CB.out hB 3 0 ⟨#[]⟩ x0 x1 x2 x3 x4 x5 x6 x7,zaoz GB.out (Nat.le_refl _) 3 0 ⟨#[]⟩ x0 x1 x2 x3 x4 x5 x6 x7⟩
 have q0:(y==0)=false:=beq_eq_false_iff_ne.2 y0
 have q1:(y==1)=false:=beq_eq_false_iff_ne.2 y1
 go_wp2_with fail
 go_loopw[3] (fun i wr=> ∃k:Nat,k≤5∧i=.int .i64 k∧Cur D B ao len cap wr∧w.grownBy wr (some B)∧wr.heap[w.heap.size]? =some (.cells #[.int .i64 0,.string ⟨#[]⟩,.int .i64 0,.int .i64 0,.int .i64 0,.int .i64 0,.int .i64 0,.int .i64 0,.int .i64 0,.int .i64 0,.int .i64 0] 26 (0,0))∧w.heap.size<wr.heap.size) (fun i _=>5-(intOf i).toNat)
 case atStart=>exact ⟨0,by decide,rfl,CA.out,GA.out,HA.out,SA.out⟩
 obtain ⟨k,hk,rfl,hcu,hgr,hh,hsz⟩:=hrel
 have HU:Hid (Cur D B ao len cap wr):=hcu
 have HG:Hid (w.grownBy wr (some B)):=hgr
 have HH:Hid (wr.heap[w.heap.size]? =some (.cells #[.int .i64 0,.string ⟨#[]⟩,.int .i64 0,.int .i64 0,.int .i64 0,.int .i64 0,.int .i64 0,.int .i64 0,.int .i64 0,.int .i64 0,.int .i64 0] 26 (0,0))):=hh
 have HSZ:Hid (w.heap.size<wr.heap.size):=hsz
 clear hcu hgr hh hsz CA GA HA SA
 by_cases hlt:k<5
 ·have hki:(k:Int)<5:=by omega
  go_wp2_with fail
  refine (zubz _ _ _ _ _ _ HU.out).mono ?_
  rintro e wc ⟨z,hz,rfl,cc,gc⟩
  have CC:Hid (Cur D B ao len cap wc):=cc
  have GC:Hid (w.grownBy wc (some B)):=ztz HG.out gc
  have HC:Hid (wc.heap[w.heap.size]? =some (.cells #[.int .i64 0,.string ⟨#[]⟩,.int .i64 0,.int .i64 0,.int .i64 0,.int .i64 0,.int .i64 0,.int .i64 0,.int .i64 0,.int .i64 0,.int .i64 0] 26 (0,0))):=(gc.block _ HSZ.out (by intro h;cases h;omega)).trans HH.out
  have SC:Hid (w.heap.size<wc.heap.size):=Nat.lt_of_lt_of_le HSZ.out gc.size
  have CP:Hid (Calls Tryz.prog 58 #[.string z] wc fun e w'=>e=.returned (.tuple #[y7z (rV (zmz z)),.int .i64 (rC (zmz z))])∧Below wc.heap.size wc w'):=zcHz z wc (by omega)
  obtain ⟨x0,x1,x2,x3,x4,x5,x6,x7,_,hv⟩:=zcFz _ (xQz z)
  have hvs:(rV (zmz z)).s.size≤1048576:=zmLz z
  rw[hv]at CP
  generalize rC (zmz z)=C at CP
  generalize (rV (zmz z)).k=kk at CP
  generalize (rV (zmz z)).s=t at CP hvs
  generalize (rV (zmz z)).n=n at CP
  clear cc gc hv
  go_wp2_with fail
  refine CP.out.mono ?_
  rintro e wd ⟨rfl,bd⟩
  have CD:Hid (Cur D B ao len cap (wd.alloc (.cells #[.int .i64 kk,.string t,.int .i64 n,.int .i64 x0,.int .i64 x1,.int .i64 x2,.int .i64 x3,.int .i64 x4,.int .i64 x5,.int .i64 x6,.int .i64 x7] 26))):=(CC.out.below bd.block).alloc _
  have GD:Hid (w.grownBy (wd.alloc (.cells #[.int .i64 kk,.string t,.int .i64 n,.int .i64 x0,.int .i64 x1,.int .i64 x2,.int .i64 x3,.int .i64 x4,.int .i64 x5,.int .i64 x6,.int .i64 x7] 26)) (some B)):=xkz (zcIz GC.out bd) _
  have HD0:wd.heap[w.heap.size]? =some (.cells #[.int .i64 0,.string ⟨#[]⟩,.int .i64 0,.int .i64 0,.int .i64 0,.int .i64 0,.int .i64 0,.int .i64 0,.int .i64 0,.int .i64 0,.int .i64 0] 26 (0,0)):=(bd.block _ SC.out).trans HC.out
  have SD0:w.heap.size<wd.heap.size:=Nat.lt_of_lt_of_le SC.out bd.size
  have HD:Hid ((wd.alloc (.cells #[.int .i64 kk,.string t,.int .i64 n,.int .i64 x0,.int .i64 x1,.int .i64 x2,.int .i64 x3,.int .i64 x4,.int .i64 x5,.int .i64 x6,.int .i64 x7] 26)).heap[w.heap.size]? =some (.cells #[.int .i64 0,.string ⟨#[]⟩,.int .i64 0,.int .i64 0,.int .i64 0,.int .i64 0,.int .i64 0,.int .i64 0,.int .i64 0,.int .i64 0,.int .i64 0] 26 (0,0))):=(Below.heap_alloc wd _ _ SD0).trans HD0
  have SD:Hid (w.heap.size<(wd.alloc (.cells #[.int .i64 kk,.string t,.int .i64 n,.int .i64 x0,.int .i64 x1,.int .i64 x2,.int .i64 x3,.int .i64 x4,.int .i64 x5,.int .i64 x6,.int .i64 x7] 26)).heap.size):=by show _<_;simp;omega
  clear bd HD0 SD0
  by_cases hC:C=0
  ·subst hC
   have hh:=jCz HD.out
   have HR:Hid (xgz (wd.alloc (.cells #[.int .i64 kk,.string t,.int .i64 n,.int .i64 x0,.int .i64 x1,.int .i64 x2,.int .i64 x3,.int .i64 x4,.int .i64 x5,.int .i64 x6,.int .i64 x7] 26)) w.heap.size (ymz 0 ⟨#[]⟩ 0 0 0 0 0 0 0 0 0)):=yBz hh.1
   obtain ⟨⟨c0,c1,c2,c3,c4,c5,c6,c7,c8,c9,c10⟩,fz⟩:=hh
   go_wp2_with fail
   refine bodyPost_ret (jvz rfl _ _ w.heap.size kk n t x0 x1 x2 x3 x4 x5 x6 x7 rfl (y4z HR.out kk n t x0 x1 x2 x3 x4 x5 x6 x7)) rfl ⟨kk,n,t,x0,x1,x2,x3,x4,x5,x6,x7,hvs,rfl,zbrz CD.out hB kk n t x0 x1 x2 x3 x4 x5 x6 x7,zaoz GD.out (Nat.le_refl _) kk n t x0 x1 x2 x3 x4 x5 x6 x7⟩
  have qC:(C==0)=false:=beq_eq_false_iff_ne.2 hC
  go_wp2_with fail
  go_roundw
  case rel=>exact ⟨k+1,by omega,by go_num,CD.out,GD.out,HD.out,SD.out⟩
  case measure=>simp[intOf];omega
 have hki: ¬(k:Int)<5:=by omega
 have hh:=jCz HH.out
 have HR:Hid (xgz wr w.heap.size (ymz 0 ⟨#[]⟩ 0 0 0 0 0 0 0 0 0)):=yBz hh.1
 obtain ⟨⟨c0,c1,c2,c3,c4,c5,c6,c7,c8,c9,c10⟩,fz⟩:=hh
 go_wp2_with fail
 refine bodyPost_ret (jvz rfl _ _ w.heap.size 1 0 ⟨#[97,46,99,111,109]⟩ 0 0 0 0 0 0 0 0 rfl (y4z HR.out 1 0 ⟨#[97,46,99,111,109]⟩ 0 0 0 0 0 0 0 0)) rfl ⟨1,0,⟨#[97,46,99,111,109]⟩,by decide,⟨0,0,0,0,0,0,0,0,rfl⟩,zbrz HU.out hB 1 0 ⟨#[97,46,99,111,109]⟩ 0 0 0 0 0 0 0 0,zaoz HG.out (Nat.le_refl _) 1 0 ⟨#[97,46,99,111,109]⟩ 0 0 0 0 0 0 0 0⟩
theorem zudz(D B:Nat)(ao:Option Addr)(len cap:Nat)(w:World)(hcur:Cur D B ao len cap w):
  Calls Tryz.prog 109 #[.pointer (some ⟨B,0,none⟩)] w fun e w'=> ∃s:ByteArray,s.size≤1048576∧e=.returned (.string s)∧Cur D B ao len cap w'∧w.grownBy w' (some B):=by
 have HC:Hid (Cur D B ao len cap w):=hcur
 clear hcur
 go_enter Tryz.func109,Tryz.ntmps109
 go_wp2_with fail
 refine (vuz 6 _ _ _ _ _ _ (by omega) (by omega) HC.out).mono ?_
 rintro e wa ⟨y,hy0,hy1,rfl,ca,ga⟩
 have CA:Hid (Cur D B ao len cap wa):=ca
 have GA:Hid (w.grownBy wa (some B)):=ga
 have hB:=ca.lt
 clear ca ga HC
 by_cases y0:y=0
 ·subst y0
  go_wp2_with fail
  refine (zbOz 100 17 _ 17 0 _ _ _ _ _ _ _ (by omega) (by omega) (CA.out.alloc _) (World.ownsRow_lit wa _ 17 (Nat.zero_le _) (by decide) rfl) (by omega) (by decide)).mono ?_
  rintro e wb ⟨z,hz,rfl,cb,gb⟩
  have CB:Hid (Cur D B ao len cap wb):=cb
  have GB:Hid (w.grownBy wb (some B)):=ztz (xkz GA.out _) gb
  clear cb gb
  go_wp2_with fail
  go_ret
  exact ⟨z,by omega,rfl,CB.out,GB.out⟩
 have q0:(y==0)=false:=beq_eq_false_iff_ne.2 y0
 by_cases y1:y=1
 ·subst y1
  go_wp2_with fail
  refine (zs9z 4 _ _ _ _ _ _ (by omega) CA.out).mono ?_
  rintro e wb ⟨v,zl,rfl,hzl,ow,cb,gb⟩
  obtain ⟨ao2,cap2,rfl,hcd⟩:=zlwz ow hzl
  have CB:Hid (Cur D B ao len cap wb):=cb
  have GB:Hid (w.grownBy wb (some B)):=ztz GA.out gb
  have HCD:Hid (yNz wb.heap.size wb ao2 4):=hcd
  clear cb gb ow hcd hzl
  go_wp2_with fail
  refine (zmKz ao2 4 cap2 _ (by omega) HCD.out).mono ?_
  rintro e wc ⟨z,hz,rfl,bc⟩
  have CC:Hid (Cur D B ao len cap wc):=CB.out.below bc.block
  have GC:Hid (w.grownBy wc (some B)):=zcIz GB.out bc
  clear bc
  go_wp2_with fail
  go_ret
  exact ⟨z,by omega,rfl,CC.out,GC.out⟩
 have q1:(y==1)=false:=beq_eq_false_iff_ne.2 y1
 go_wp2_with fail
 refine (zucz _ _ _ _ _ _ CA.out).mono ?_
 rintro e wb ⟨k,n,s,x0,x1,x2,x3,x4,x5,x6,x7,hs,rfl,cb,gb⟩
 have CB:Hid (Cur D B ao len cap wb):=cb
 have GB:Hid (w.grownBy wb (some B)):=ztz GA.out gb
 have CT:Hid (∀W,Calls Tryz.prog 118 #[.agg #[.int .i64 k,.string s,.int .i64 n,.int .i64 x0,.int .i64 x1,.int .i64 x2,.int .i64 x3,.int .i64 x4,.int .i64 x5,.int .i64 x6,.int .i64 x7]] W fun e w'=>e=.returned (.string (hTx ⟨k,s,n,[x0,x1,x2,x3,x4,x5,x6,x7]⟩))∧Below W.heap.size W w'):=fun W=>zd5z k n s x0 x1 x2 x3 x4 x5 x6 x7 W hs
 have hts:=zbYz (k:=k) (n:=n) (s:=s) (x0:=x0) (x1:=x1) (x2:=x2) (x3:=x3) (x4:=x4) (x5:=x5) (x6:=x6) (x7:=x7) hs
 generalize hTx ⟨k,s,n,[x0,x1,x2,x3,x4,x5,x6,x7]⟩=T at CT hts
 clear cb gb
 go_wp2_with fail
 refine (CT.out _).mono ?_
 rintro e wc ⟨rfl,bc⟩
 have CC:Hid (Cur D B ao len cap wc):=CB.out.below bc.block
 have GC:Hid (w.grownBy wc (some B)):=zcIz GB.out bc
 clear bc
 go_wp2_with fail
 go_ret
 exact ⟨T,hts,rfl,CC.out,GC.out⟩
theorem zuez(D B:Nat)(ao:Option Addr)(len cap:Nat)(w:World)(hcur:Cur D B ao len cap w):
  Calls Tryz.prog 165 #[.pointer (some ⟨B,0,none⟩)] w fun e w'=> ∃z:ByteArray,1≤z.size∧z.size≤1000∧e=.returned (.string z)∧Cur D B ao len cap w'∧w.grownBy w' (some B):=by
 have HC:Hid (Cur D B ao len cap w):=hcur
 clear hcur
 go_enter Tryz.func165,Tryz.ntmps165
 go_wp2_with fail
 refine (vuz 7 _ _ _ _ _ _ (by omega) (by omega) HC.out).mono ?_
 rintro e wa ⟨x,hx0,hx1,rfl,ca,ga⟩
 have CA:Hid (Cur D B ao len cap wa):=ca
 clear ca
 obtain ⟨n,rfl⟩:=Int.eq_ofNat_of_zero_le hx0
 go_wp2_with fail
 go_loopw[3,4] (fun a i wr=> ∃(k:Nat) (z:ByteArray),k≤n∧i=.int .i64 k∧a=.string z∧1≤z.size∧z.size+20*k≤20*n+1∧Cur D B ao len cap wr∧w.grownBy wr (some B)) (fun _ i _=>(intOf i).toNat)
 case atStart=>exact ⟨n,⟨#[47]⟩,Nat.le_refl _,rfl,rfl,by simp[ByteArray.size],by simp[ByteArray.size];omega,CA.out,ga⟩
 obtain ⟨k,z,hk,rfl,rfl,hz1,hz,hcu,hgr⟩:=hrel
 have HU:Hid (Cur D B ao len cap wr):=hcu
 have hB:=hcu.lt
 clear hcu
 by_cases hp:0<k
 ·go_wp2_with fail
  refine (zbOz 20 14 _ 14 0 _ _ _ _ _ _ _ (by omega) (by omega) (HU.out.alloc _) (World.ownsRow_lit wr _ 14 (Nat.zero_le _) (by decide) rfl) (by omega) (by decide)).mono ?_
  rintro e wc ⟨y,hy,rfl,cc,gc⟩
  have CC:Hid (Cur D B ao len cap wc):=cc
  have G:=ztz (xkz hgr _) gc
  clear cc gc hgr
  go_wp2_with fail
  go_roundw
  case rel=>exact ⟨k-1,z++y,by omega,by go_num,rfl,by rw[ByteArray.size_append];omega,by rw[ByteArray.size_append];omega,CC.out,G⟩
  case measure=>simp[intOf];omega
 go_wp2_with fail
 go_ret
 exact ⟨z,hz1,by omega,rfl,HU.out,hgr⟩
theorem znVz(D B:Nat)(ao:Option Addr)(len cap:Nat)(w:World)(hcur:Cur D B ao len cap w):
  Calls Tryz.prog 110 #[.pointer (some ⟨B,0,none⟩)] w fun e w'=> ∃z:ByteArray,z.size≤3000∧e=.returned (.string z)∧Cur D B ao len cap w'∧w.grownBy w' (some B):=by
 have HC:Hid (Cur D B ao len cap w):=hcur
 clear hcur
 have hd1:(⟨#[63]⟩:ByteArray).size=1:=rfl
 go_enter Tryz.func110,Tryz.ntmps110
 go_wp2_with fail
 refine (zuez _ _ _ _ _ _ HC.out).mono ?_
 rintro e wa ⟨x,hx1,hx,rfl,ca,ga⟩
 have CA:Hid (Cur D B ao len cap wa):=ca
 clear ca hx1
 go_wp2_with fail
 refine (zghz 2 _ _ _ _ _ _ (by omega) (by omega) CA.out).mono ?_
 rintro e wb ⟨y,rfl,cb,gb⟩
 have CB:Hid (Cur D B ao len cap wb):=cb
 have GB:Hid (w.grownBy wb (some B)):=ztz ga gb
 clear cb gb ga
 cases y with
 |true=>
  go_wp2_with fail
  refine (zuaz _ _ _ _ _ _ CB.out).mono ?_
  rintro e wc ⟨z,hz,rfl,cc,gc⟩
  have CC:Hid (Cur D B ao len cap wc):=cc
  have GC:Hid (w.grownBy wc (some B)):=ztz GB.out gc
  clear cc gc
  go_wp2_with fail
  go_ret
  exact ⟨_,by rw[ByteArray.size_append,ByteArray.size_append,hd1];omega,rfl,CC.out,GC.out⟩
 |false=>
  go_wp2_with fail
  go_ret
  exact ⟨x,by omega,rfl,CB.out,GB.out⟩
theorem zufz(D B:Nat)(ao:Option Addr)(len cap:Nat)(w:World)(hcur:Cur D B ao len cap w):
  Calls Tryz.prog 48 #[.pointer (some ⟨B,0,none⟩)] w fun e w'=> ∃z:ByteArray,z.size≤2097152∧e=.returned (.string z)∧Cur D B ao len cap w'∧w.grownBy w' (some B):=by
 have HC:Hid (Cur D B ao len cap w):=hcur
 have hB:=hcur.lt
 clear hcur
 have hd1:(⟨#[58]⟩:ByteArray).size=1:=rfl
 go_enter Tryz.func48,Tryz.ntmps48
 go_wp2_with fail
 refine (zghz 3 _ _ _ _ _ _ (by omega) (by omega) HC.out).mono ?_
 rintro e wa ⟨y,rfl,ca,ga⟩
 have CA:Hid (Cur D B ao len cap wa):=ca
 have hBa:B<wa.heap.size:=ca.lt
 clear ca
 cases y with
 |true=>
  go_wp2_with fail
  refine (zbOz 40 22 _ 22 0 _ _ _ _ _ _ _ (by omega) (by omega) (CA.out.alloc _) (World.ownsRow_lit wa _ 22 (Nat.zero_le _) (by decide) rfl) (by omega) (by decide)).mono ?_
  rintro e wc ⟨z,hz,rfl,cc,gc⟩
  have CC:Hid (Cur D B ao len cap wc):=cc
  have GC:Hid (w.grownBy wc (some B)):=ztz (xkz ga _) gc
  clear cc gc
  go_wp2_with fail
  go_ret
  exact ⟨z,by omega,rfl,CC.out,GC.out⟩
 |false=>
  go_wp2_with fail
  refine (zbOz 40 3 _ 3 0 _ _ _ _ _ _ _ (by omega) (by omega) (CA.out.alloc _) (World.ownsRow_lit wa _ 3 (Nat.zero_le _) (by decide) rfl) (by omega) (by decide)).mono ?_
  rintro e wb ⟨x,hx,rfl,cb,gb⟩
  have CB:Hid (Cur D B ao len cap wb):=cb
  have GB:Hid (w.grownBy wb (some B)):=ztz (xkz ga _) gb
  clear cb gb ga CA
  go_wp2_with fail
  refine (zudz _ _ _ _ _ _ CB.out).mono ?_
  rintro e wc ⟨h,hh,rfl,cc,gc⟩
  have CC:Hid (Cur D B ao len cap wc):=cc
  have GC:Hid (w.grownBy wc (some B)):=ztz GB.out gc
  clear cc gc GB CB
  have hxh:(x++h).size≤1048616:=by rw[ByteArray.size_append];omega
  go_wp2_with fail
  generalize x++h=s1 at hxh⊢
  refine (zghz 4 _ _ _ _ _ _ (by omega) (by omega) CC.out).mono ?_
  rintro e wd ⟨y,rfl,cd,gd⟩
  have CD:Hid (Cur D B ao len cap wd):=cd
  have hBd:B<wd.heap.size:=cd.lt
  have GD:Hid (w.grownBy wd (some B)):=ztz GC.out gd
  clear cd gd GC CC
  cases y with
  |true=>
   go_wp2_with fail
   refine (zbOz 40 6 _ 6 0 _ _ _ _ _ _ _ (by omega) (by omega) (CD.out.alloc _) (World.ownsRow_lit wd _ 6 (Nat.zero_le _) (by decide) rfl) (by omega) (by decide)).mono ?_
   rintro e we ⟨p,hp,rfl,ce,ge⟩
   have CE:Hid (Cur D B ao len cap we):=ce
   have GE:Hid (w.grownBy we (some B)):=ztz (xkz GD.out _) ge
   clear ce ge GD CD
   have hs2:(s1++⟨#[58]⟩++p).size≤1048700:=by rw[ByteArray.size_append,ByteArray.size_append,hd1];omega
   go_wp2_with fail
   generalize s1++⟨#[58]⟩++p=s2 at hs2⊢
   refine (znVz _ _ _ _ _ _ CE.out).mono ?_
   rintro e wf ⟨t,ht,rfl,cf,gf⟩
   have GF:Hid (w.grownBy wf (some B)):=ztz GE.out gf
   go_wp2_with fail
   go_ret
   exact ⟨_,by rw[ByteArray.size_append];omega,rfl,cf,GF.out⟩
  |false=>
   go_wp2_with fail
   refine (znVz _ _ _ _ _ _ CD.out).mono ?_
   rintro e wf ⟨t,ht,rfl,cf,gf⟩
   have GF:Hid (w.grownBy wf (some B)):=ztz GD.out gf
   go_wp2_with fail
   go_ret
   exact ⟨_,by rw[ByteArray.size_append];omega,rfl,cf,GF.out⟩
theorem zmMz(n:Nat):(madeCells #[Value.int .u8 0] n).toList=zcz (List.replicate n 0):=by
 simp only[madeCells,zcz,Array.toList_map,Array.toList_range,List.map_replicate]
 refine List.ext_getElem (by simp) fun i h1 h2=> ?_
 simp[Nat.mod_one]
theorem zjyz(ao:Option Addr)(len cap:Nat)(w:World)(hl:len≤1048576)(hcode:yNz w.heap.size w ao len):
  Calls Tryz.prog 19 #[.slice ao len cap] w fun e w'=> ∃z:ByteArray,z.size≤2097152∧e=.returned (.string z)∧Below w.heap.size w w':=by
 obtain ⟨i0,hi,hz0,hz1,hz2⟩:=info_parts Tryz.info5
 have HI:Hid (Tryz.prog.info? 5=some i0∧i0.zero=some (.int .u8 0)∧i0.size=1∧i0.bytes=1):=⟨hi,hz0,hz1,hz2⟩
 clear hi hz0 hz1 hz2
 go_enter Tryz.func19,Tryz.ntmps19
 go_wp2_with fail
 refine (ztdz _ _ _ _ hl hcode).mono ?_
 rintro e wa ⟨B,rfl,hB,ca,ba⟩
 have CA:Hid (Cur w.heap.size B ao len cap wa):=ca
 have za:=ba.size
 clear ca hcode
 go_wp2_with fail
 refine (zufz _ _ _ _ _ _ CA.out).mono ?_
 rintro e wb ⟨x,hx,rfl,cb,gb⟩
 have CB:Hid (Cur w.heap.size B ao len cap wb):=cb
 have Bb:Below w.heap.size w wb:=ba.grown gb za (fun k hk=>by cases hk;exact hB)
 have zb:=Bb.size
 clear cb gb ba
 go_wp2_with fail
 refine (zghz 40 _ _ _ _ _ _ (by omega) (by omega) CB.out).mono ?_
 rintro e wc ⟨y,rfl,cc,gc⟩
 have CC:Hid (Cur w.heap.size B ao len cap wc):=cc
 have Bc:Below w.heap.size w wc:=Bb.grown gc zb (fun k hk=>by cases hk;exact hB)
 have zc:=Bc.size
 clear cc gc Bb
 cases y with
 |false=>
  go_wp2_with fail
  go_ret
  exact ⟨x,hx,rfl,Bc⟩
 |true=>
  go_wp2_with fail
  refine (vuz 3 _ _ _ _ _ _ (by omega) (by omega) CC.out).mono ?_
  rintro e wd ⟨v,hv0,hv1,rfl,cd,gd⟩
  have Bd:Below w.heap.size w wd:=Bc.grown gd zc (fun k hk=>by cases hk;exact hB)
  have zd:=Bd.size
  clear cd gd Bc
  obtain ⟨m,rfl⟩:=Int.eq_ofNat_of_zero_le hv0
  go_wp2_with (at_make;refine wpList_make_full _ rfl _ _ 22 rfl w.heap.size 5 i0 (.int .u8 0) 1 Tryz.underlying22 HI.out.1 HI.out.2.1 HI.out.2.2.1 _ _ _ _ (1986+m) rfl rfl (by omega) (by omega) (by rw[HI.out.2.2.2];omega) (by unfold maxLen;omega) zd ?_)
  intro wm hmo hgm
  have Bm:Below w.heap.size w wm:=Bd.grown hgm zd (fun k hk=>by cases hk)
  have ho:wm.ownsRow w.heap.size 5 1 (.slice (some ⟨wd.heap.size,0,none⟩) (1986+m) (1986+m)) (List.replicate (1986+m) (0:UInt8)).length (zcz (List.replicate (1986+m) 0)):=by
   rw[←zmMz,List.length_replicate]
   exact hmo
  have HO:=zzz (P:=Tryz.prog) wm 22 9 5 Tryz.underlying22 Tryz.underlying5 Tryz.underlying9 ho
  have hzs:(⟨(List.replicate (1986+m) (0:UInt8)).toArray⟩:ByteArray).size≤3000:=by
   show (List.replicate (1986+m) (0:UInt8)).toArray.size≤_
   rw[List.size_toArray,List.length_replicate]
   omega
  have hps:(⟨#[104,116,116,112,58,47,47,97,46,99,111,109,47]⟩:ByteArray).size=13:=rfl
  generalize (⟨(List.replicate (1986+m) (0:UInt8)).toArray⟩:ByteArray)=Z at HO hzs
  clear hmo hgm Bd ho
  go_wp2_with fail
  go_ret
  exact ⟨_,by rw[ByteArray.size_append,hps];omega,rfl,Bm⟩
end Go.Proofs.YtgcbaphbiaimoaaGreatDoor
