/- Draw4Walk, Draw5Walk, UnWalk, ArrMarks, Par6Eight, HostParse, Ip6Spec, Ip6Both, HostSpec, HostSpec2, HostSpec3. -/
import Derived.Test.YtijliddchoehhaaGreatDoorQA31
set_option maxHeartbeats 4000000
set_option maxRecDepth 100000
namespace Go.Proofs.YtijliddchoehhaaGreatDoor
open Go.RowKit
theorem l4Label(D B:Nat)(ao:Option Addr)(len cap:Nat)(w:World)(hcur:Cur D B ao len cap w):
  Calls Tryz.prog 76 #[.pointer (some ⟨B,0,none⟩)] w fun e w'=> ∃z:ByteArray,z.size≤20∧e=.returned (.string z)∧Cur D B ao len cap w'∧w.grownBy w' (some B):=by
 have HC:Hid (Cur D B ao len cap w):=hcur
 have hB:=hcur.lt
 clear hcur
 go_enter Tryz.func76,Tryz.ntmps76
 go_wp2_with fail
 refine (l1StrX 20 16 _ 16 0 _ _ _ _ _ _ _ (by omega) (by omega) (HC.out.alloc _) (World.ownsRow_lit w _ 16 (Nat.zero_le _) (by decide) rfl) (by omega) (by decide)).mono ?_
 rintro e wc ⟨y,hy,rfl,cc,gc⟩
 have CC:Hid (Cur D B ao len cap wc):=cc
 have G:=grow_trans (World.grownBy_alloc w _ (some B)) gc
 clear cc gc
 go_wp2_with fail
 go_ret
 exact ⟨y,hy,rfl,CC.out,G⟩
theorem l4Name(D B:Nat)(ao:Option Addr)(len cap:Nat)(w:World)(hcur:Cur D B ao len cap w):
  Calls Tryz.prog 46 #[.pointer (some ⟨B,0,none⟩)] w fun e w'=> ∃z:ByteArray,z.size≤100∧e=.returned (.string z)∧Cur D B ao len cap w'∧w.grownBy w' (some B):=by
 have HC:Hid (Cur D B ao len cap w):=hcur
 clear hcur
 go_enter Tryz.func46,Tryz.ntmps46
 go_wp2_with fail
 refine (l4Label _ _ _ _ _ _ HC.out).mono ?_
 rintro e wz ⟨z0,hz0,rfl,cz,gz⟩
 have CZ:Hid (Cur D B ao len cap wz):=cz
 clear cz
 go_wp2_with fail
 refine (l1Below 4 _ _ _ _ _ _ (by omega) (by omega) CZ.out).mono ?_
 rintro e wa ⟨x,hx0,hx1,rfl,ca,ga⟩
 have CA:Hid (Cur D B ao len cap wa):=ca
 have GA:=grow_trans gz ga
 clear ca gz ga
 obtain ⟨n,rfl⟩:=Int.eq_ofNat_of_zero_le hx0
 go_wp2_with fail
 go_loopw[3,4] (fun a i wr=> ∃(k:Nat) (z:ByteArray),k≤n∧i=.int .i64 k∧a=.string z∧z.size+21*k≤20+21*n∧Cur D B ao len cap wr∧w.grownBy wr (some B)) (fun _ i _=>(intOf i).toNat)
 case atStart=>exact ⟨n,z0,Nat.le_refl _,rfl,rfl,by omega,CA.out,GA⟩
 obtain ⟨k,z,hk,rfl,rfl,hz,hcu,hgr⟩:=hrel
 have HU:Hid (Cur D B ao len cap wr):=hcu
 clear hcu
 by_cases hp:0<k
 ·have hd1:(⟨#[46]⟩:ByteArray).size=1:=rfl
  go_wp2_with fail
  refine (l4Label _ _ _ _ _ _ HU.out).mono ?_
  rintro e wc ⟨y,hy,rfl,cc,gc⟩
  have CC:Hid (Cur D B ao len cap wc):=cc
  have G:=grow_trans hgr gc
  clear cc gc hgr
  go_wp2_with fail
  go_roundw
  case rel=>exact ⟨k-1,_,by omega,by go_num,rfl,by rw[ByteArray.size_append,ByteArray.size_append,hd1];omega,CC.out,G⟩
  case measure=>simp[intOf];omega
 go_wp2_with fail
 go_ret
 exact ⟨z,by omega,rfl,HU.out,hgr⟩
theorem l5Four(D B:Nat)(ao:Option Addr)(len cap:Nat)(w:World)(hcur:Cur D B ao len cap w):
  Calls Tryz.prog 43 #[.pointer (some ⟨B,0,none⟩)] w fun e w'=> ∃z:Int,0≤z∧z<4294967296∧e=.returned (.int .i64 z)∧Cur D B ao len cap w'∧w.grownBy w' (some B):=by
 have HC:Hid (Cur D B ao len cap w):=hcur
 clear hcur
 go_enter Tryz.func43,Tryz.ntmps43
 go_wp2_with fail
 refine (l1Below 100000 _ _ _ _ _ _ (by omega) (by omega) HC.out).mono ?_
 rintro e wa ⟨y,hy0,hy1,rfl,ca,ga⟩
 have CA:Hid (Cur D B ao len cap wa):=ca
 have hB:=ca.lt
 clear ca
 go_wp2_with fail
 refine (l1Int 8 wa.heap.size 8 0 [0,1,2130706433,4294967295,256,65536,3232235777,y] _ _ _ _ _ _ (by omega) (by omega) (CA.out.alloc _) (World.ownsRow_lit wa _ 8 (Nat.zero_le _) (by decide) rfl) (by omega)).mono ?_
 rintro e wc ⟨z,hz,rfl,cc,gc⟩
 have CC:Hid (Cur D B ao len cap wc):=cc
 have G:=grow_trans (grow_alloc ga _) gc
 have hz2:0≤z∧z<4294967296:=by
  simp only[List.mem_cons,List.not_mem_nil,or_false]at hz
  omega
 clear cc gc ga hz
 obtain ⟨hz0,hz1⟩:=hz2
 go_wp2_with fail
 go_ret
 exact ⟨z,hz0,hz1,rfl,CC.out,G⟩
def sixOk(z:List Int):Prop:=z.length=8∧ ∀x∈z,0≤x∧x≤65535
theorem ArrAt.kept{w w':World}{B' B:Nat}{z:List Int}(h:ArrAt w B' z)(g:w.grownBy w' (some B))(hne:B'≠B):ArrAt w' B' z:=by
 have hlt:B'<w.heap.size:=World.block_lt_of_cell? w ⟨B',0,none⟩ (h.2 0 (by decide)).1
 have e:w'.heap[B']? =w.heap[B']? :=g.block B' hlt (by simp[hne])
 refine ⟨h.1,fun j hj=>⟨(World.cell?_of_block (w:=w) (a:=⟨B',j,none⟩) e).trans (h.2 j hj).1,?_⟩⟩
 have:=(h.2 j hj).2
 unfold World.frozen? at this⊢
 simp only[e]
 exact this
theorem grow_set{w wr:World}{row:Option Nat}(h:w.grownBy wr row){C k:Nat}(hC:w.heap.size≤C)(v:Value):w.grownBy (wr.setCell ⟨C,k,none⟩ v) row:=by
 have b:=(Below.refl C wr).setCell (p:=⟨C,k,none⟩) (Nat.le_refl _) v
 exact ⟨b.os.trans h.os,b.tape.trans h.tape,b.output.trans h.output,Nat.le_trans h.size b.size,fun j hj hne=>(b.block j (by omega)).trans (h.block j hj hne)⟩
theorem Cur.set{D B:Nat}{ao:Option Addr}{len cap:Nat}{wr:World}(h:Cur D B ao len cap wr){C k:Nat}(hC:B<C)(v:Value):Cur D B ao len cap (wr.setCell ⟨C,k,none⟩ v):=by
 have b:=(Below.refl C wr).setCell (p:=⟨C,k,none⟩) (Nat.le_refl _) v
 have hle:=h.le
 exact h.keep (b.block B hC) fun j hj=>b.block j (by omega)
theorem arr_result1{fn:Func}{p:Tmp}(h:fn.results= #[.cell p 25])(tmps:Array Value)(W:World)(B:Nat)(x0 x1 x2 x3 x4 x5 x6 x7:Int)
  (hp:tmps[p]?.getD undef=.pointer (some ⟨B,0,none⟩)) (ha:ArrAt W B [x0,x1,x2,x3,x4,x5,x6,x7]):
  (results fn tmps).run Tryz.prog W=.ok (.agg #[.int .i64 x0,.int .i64 x1,.int .i64 x2,.int .i64 x3,.int .i64 x4,.int .i64 x5,.int .i64 x6,.int .i64 x7]) W:=by
 have c0:=(ha.2 0 (by decide)).1
 have c1:=(ha.2 1 (by decide)).1
 have c2:=(ha.2 2 (by decide)).1
 have c3:=(ha.2 3 (by decide)).1
 have c4:=(ha.2 4 (by decide)).1
 have c5:=(ha.2 5 (by decide)).1
 have c6:=(ha.2 6 (by decide)).1
 have c7:=(ha.2 7 (by decide)).1
 simp at c0 c1 c2 c3 c4 c5 c6 c7
 simp[results,h,hp,asAddr,go_sem,c0,c1,c2,c3,c4,c5,c6,c7,Addr.add_lit]
theorem grow_store{w W:World}{row:Option Nat}(h:w.grownBy W row){B:Nat}(hB:w.heap.size≤B)(x0 x1 x2 x3 x4 x5 x6 x7:Int):w.grownBy ((((((((W.setCell ⟨B,0,none⟩ (.int .i64 x0)).setCell ⟨B,1,none⟩ (.int .i64 x1)).setCell ⟨B,2,none⟩ (.int .i64 x2)).setCell ⟨B,3,none⟩ (.int .i64 x3)).setCell ⟨B,4,none⟩ (.int .i64 x4)).setCell ⟨B,5,none⟩ (.int .i64 x5)).setCell ⟨B,6,none⟩ (.int .i64 x6)).setCell ⟨B,7,none⟩ (.int .i64 x7)) row:=
 grow_set (grow_set (grow_set (grow_set (grow_set (grow_set (grow_set (grow_set h hB _) hB _) hB _) hB _) hB _) hB _) hB _) hB _
theorem cur_store{D B:Nat}{ao:Option Addr}{len cap:Nat}{W:World}(h:Cur D B ao len cap W){C:Nat}(hC:B<C)(x0 x1 x2 x3 x4 x5 x6 x7:Int):Cur D B ao len cap ((((((((W.setCell ⟨C,0,none⟩ (.int .i64 x0)).setCell ⟨C,1,none⟩ (.int .i64 x1)).setCell ⟨C,2,none⟩ (.int .i64 x2)).setCell ⟨C,3,none⟩ (.int .i64 x3)).setCell ⟨C,4,none⟩ (.int .i64 x4)).setCell ⟨C,5,none⟩ (.int .i64 x5)).setCell ⟨C,6,none⟩ (.int .i64 x6)).setCell ⟨C,7,none⟩ (.int .i64 x7)):=
 (((((((h.set hC _).set hC _).set hC _).set hC _).set hC _).set hC _).set hC _).set hC _
theorem l5Six(D B:Nat)(ao:Option Addr)(len cap:Nat)(w:World)(hcur:Cur D B ao len cap w):
  Calls Tryz.prog 44 #[.pointer (some ⟨B,0,none⟩)] w fun e w'=> ∃x0 x1 x2 x3 x4 x5 x6 x7:Int,sixOk [x0,x1,x2,x3,x4,x5,x6,x7]∧e=.returned (.agg #[.int .i64 x0,.int .i64 x1,.int .i64 x2,.int .i64 x3,.int .i64 x4,.int .i64 x5,.int .i64 x6,.int .i64 x7])∧Cur D B ao len cap w'∧w.grownBy w' (some B):=by
 have HC:Hid (Cur D B ao len cap w):=hcur
 have hB:=hcur.lt
 clear hcur
 have AR:=hid_arr ((arr_new w).later ((Below.refl _ _).alloc (Nat.le_refl _) (.cells #[.int .i64 0,.int .i64 0,.int .i64 0,.int .i64 0,.int .i64 0,.int .i64 0,.int .i64 0,.int .i64 0] 25)))
 have AO:Hid (ArrAt ((w.alloc (.cells #[.int .i64 0,.int .i64 0,.int .i64 0,.int .i64 0,.int .i64 0,.int .i64 0,.int .i64 0,.int .i64 0] 25)).alloc (.cells #[.int .i64 0,.int .i64 0,.int .i64 0,.int .i64 0,.int .i64 0,.int .i64 0,.int .i64 0,.int .i64 0] 25)) (w.heap.size+1) [0,0,0,0,0,0,0,0]):=by
  have h:=arr_new (w.alloc (.cells #[.int .i64 0,.int .i64 0,.int .i64 0,.int .i64 0,.int .i64 0,.int .i64 0,.int .i64 0,.int .i64 0] 25))
  rw[show (w.alloc (.cells #[.int .i64 0,.int .i64 0,.int .i64 0,.int .i64 0,.int .i64 0,.int .i64 0,.int .i64 0,.int .i64 0] 25)).heap.size=w.heap.size+1 by simp]at h
  exact h
 have G0:Hid (w.grownBy ((w.alloc (.cells #[.int .i64 0,.int .i64 0,.int .i64 0,.int .i64 0,.int .i64 0,.int .i64 0,.int .i64 0,.int .i64 0] 25)).alloc (.cells #[.int .i64 0,.int .i64 0,.int .i64 0,.int .i64 0,.int .i64 0,.int .i64 0,.int .i64 0,.int .i64 0] 25)) (some B)):=grow_alloc (World.grownBy_alloc w _ (some B)) _
 have C0:Hid (Cur D B ao len cap ((w.alloc (.cells #[.int .i64 0,.int .i64 0,.int .i64 0,.int .i64 0,.int .i64 0,.int .i64 0,.int .i64 0,.int .i64 0] 25)).alloc (.cells #[.int .i64 0,.int .i64 0,.int .i64 0,.int .i64 0,.int .i64 0,.int .i64 0,.int .i64 0,.int .i64 0] 25))):=(HC.out.alloc _).alloc _
 go_enter Tryz.func44,Tryz.ntmps44
 go_wp2_with fail
 go_loopw[4] (fun i wr=> ∃(k:Nat) (z:List Int),k≤8∧i=.int .i64 k∧ArrAt wr (w.heap.size+1) z∧ArrAt wr w.heap.size [0,0,0,0,0,0,0,0]∧(∀x∈z,0≤x∧x≤65535)∧Cur D B ao len cap wr∧w.grownBy wr (some B)) (fun i _=>8-(intOf i).toNat)
 case atStart=>exact ⟨0,_,Nat.zero_le _,rfl,AO.out,AR.out,by decide,C0.out,G0.out⟩
 obtain ⟨k,z,hk,rfl,oa,ra,hz,cc,gg⟩:=hrel
 have HOW:=hid_arr oa
 have HRW:=hid_arr ra
 have HZ:Hid (∀x∈z,0≤x∧x≤65535):=hz
 have HCC:Hid (Cur D B ao len cap wr):=cc
 have HGG:Hid (w.grownBy wr (some B)):=gg
 clear oa ra hz cc gg AR AO G0 C0
 by_cases hlt:k<8
 ·have hki:(k:Int)<8:=by omega
  go_wp2_with fail
  refine (l1Below 65536 _ _ _ _ _ _ (by omega) (by omega) HCC.out).mono ?_
  rintro e wa ⟨y,hy0,hy1,rfl,ca,ga⟩
  have CA:Hid (Cur D B ao len cap wa):=ca
  have hBa:=ca.lt
  have oa2:=hid_arr (HOW.out.kept ga (by omega))
  have ra2:=hid_arr (HRW.out.kept ga (by omega))
  have G2:Hid (w.grownBy wa (some B)):=grow_trans HGG.out ga
  clear ca ga HOW HRW HCC HGG
  go_wp2_with fail
  refine (l1Int 8 wa.heap.size 8 0 [0,0,0,1,255,4096,65535,y] _ _ _ _ _ _ (by omega) (by omega) (CA.out.alloc _) (World.ownsRow_lit wa _ 8 (Nat.zero_le _) (by decide) rfl) (by omega)).mono ?_
  rintro e wc ⟨x,hx,rfl,cc,gc⟩
  have hx2:0≤x∧x≤65535:=by
   simp only[List.mem_cons,List.not_mem_nil,or_false]at hx
   omega
  have CC:Hid (Cur D B ao len cap wc):=cc
  have oa3:=hid_arr ((oa2.out.later ((Below.refl _ _).alloc (Nat.le_refl _) _)).kept gc (by omega))
  have ra3:=hid_arr ((ra2.out.later ((Below.refl _ _).alloc (Nat.le_refl _) _)).kept gc (by omega))
  have G3:Hid (w.grownBy wc (some B)):=grow_trans (grow_alloc G2.out _) gc
  have ho:=(oa3.out.2 k hlt).1
  have hof:=(oa3.out.2 k hlt).2
  have HX:Hid (0≤x∧x≤65535):=hx2
  clear cc gc hx hx2 oa2 ra2 G2 CA
  generalize z.getD k 0=y0 at ho
  go_wp2_with fail
  go_roundw
  case rel=>
   refine ⟨k+1,z.set k x,by omega,by go_num,oa3.out.set k hlt x,ra3.out.other (by omega) _ _,?_,CC.out.set (by omega) _,grow_set G3.out (by omega) _⟩
   intro u hu
   rcases List.mem_or_eq_of_mem_set hu with h|h
   ·exact HZ.out u h
   rw[h];exact HX.out
  case measure=>simp[intOf];omega
 have hki: ¬(k:Int)<8:=by omega
 have OA8:=HOW.out
 have HZ2:=HZ.out
 obtain ⟨x0,x1,x2,x3,x4,x5,x6,x7,rfl⟩:=arr_list OA8
 have HS:Hid (sixOk [x0,x1,x2,x3,x4,x5,x6,x7]):=⟨rfl,HZ2⟩
 clear HZ2 HZ HOW
 have o0:=(OA8.2 0 (by decide)).1
 have o1:=(OA8.2 1 (by decide)).1
 have o2:=(OA8.2 2 (by decide)).1
 have o3:=(OA8.2 3 (by decide)).1
 have o4:=(OA8.2 4 (by decide)).1
 have o5:=(OA8.2 5 (by decide)).1
 have o6:=(OA8.2 6 (by decide)).1
 have o7:=(OA8.2 7 (by decide)).1
 clear OA8
 simp only[List.getD_eq_getElem?_getD,List.getElem?_cons_zero,List.getElem?_cons_succ,Option.getD_some]at o0 o1 o2 o3 o4 o5 o6 o7
 have RA:=HRW.out
 have r0:=(RA.2 0 (by decide)).1
 have r1:=(RA.2 1 (by decide)).1
 have r2:=(RA.2 2 (by decide)).1
 have r3:=(RA.2 3 (by decide)).1
 have r4:=(RA.2 4 (by decide)).1
 have r5:=(RA.2 5 (by decide)).1
 have r6:=(RA.2 6 (by decide)).1
 have r7:=(RA.2 7 (by decide)).1
 have f0:=(RA.2 0 (by decide)).2
 have f1:=(RA.2 1 (by decide)).2
 have f2:=(RA.2 2 (by decide)).2
 have f3:=(RA.2 3 (by decide)).2
 have f4:=(RA.2 4 (by decide)).2
 have f5:=(RA.2 5 (by decide)).2
 have f6:=(RA.2 6 (by decide)).2
 have f7:=(RA.2 7 (by decide)).2
 have HRA:=hid_arr RA
 clear RA
 go_wp2_with fail
 refine bodyPost_ret (arr_result1 rfl _ _ w.heap.size x0 x1 x2 x3 x4 x5 x6 x7 rfl (arr_store HRA.out x0 x1 x2 x3 x4 x5 x6 x7)) rfl ⟨x0,x1,x2,x3,x4,x5,x6,x7,HS.out,rfl,cur_store HCC.out (by omega) x0 x1 x2 x3 x4 x5 x6 x7,grow_store HGG.out (Nat.le_refl _) x0 x1 x2 x3 x4 x5 x6 x7⟩
theorem own_byte{w1:World}{B:Nat}{e:TypeId}{v:Value}{o:List UInt8}{x:Int}(c:UInt8)(hx:x=(c.toNat:Int))
  (h:w1.ownsRow B e 1 v (o.length+1) (bcells o++ #[Value.int .u8 x].toList)):w1.ownsRow B e 1 v (o++[c]).length (bcells (o++[c])):=by
 subst hx
 rw[bcells_snoc,List.length_append]
 exact h
theorem byte_one(x:Int): ∀u∈ #[Value.int .u8 x].toList,u.oneCell'=true:=by
 intro u hu;simp at hu;subst hu;rfl
theorem ofNat_pct{c:Int}(h0:0≤c)(h1:c≤255):c=((UInt8.ofNat c.toNat).toNat:Int):=by
 have:(UInt8.ofNat c.toNat).toNat=c.toNat%256:=by simp
 omega
theorem un_hit(s:ByteArray)(k:Nat)(o:List UInt8)(h:0≤pctAt s k)(he:o++unL (s.data.toList.drop k)=unL s.data.toList):
  (o++[UInt8.ofNat (pctAt s k).toNat])++unL (s.data.toList.drop (k+3))=unL s.data.toList:=by
 rw[←he]
 unfold unL
 rw[tok_hit _ _ s k h]
 simp
theorem un_miss(s:ByteArray)(k:Nat)(hk:k<s.size)(o:List UInt8)(h:pctAt s k<0)(he:o++unL (s.data.toList.drop k)=unL s.data.toList):
  (o++[s[k]])++unL (s.data.toList.drop (k+1))=unL s.data.toList:=by
 rw[←he]
 unfold unL
 rw[tok_miss _ _ s k hk h]
 simp
theorem un_end(s:ByteArray)(k:Nat)(hk:s.size≤k)(o:List UInt8)(he:o++unL (s.data.toList.drop k)=unL s.data.toList):o=unL s.data.toList:=by
 rw[←he]
 unfold unL
 rw[tok_end _ _ s k hk]
 simp
theorem specUnpercent(s:ByteArray)(w:World)(hs:s.size≤1099511627776):
  Calls Tryz.prog 74 #[.string s] w fun e w'=>e=.returned (.string ⟨(unL s.data.toList).toArray⟩)∧Below w.heap.size w w':=by
 go_enter Tryz.func74,Tryz.ntmps74
 go_wp2
 go_loopw[3,4] (fun v i wr=> ∃(k:Nat) (o:List UInt8),k≤s.size∧i=.int .i64 k∧o.length≤k∧wr.ownsRow w.heap.size 5 1 v o.length (bcells o)∧o++unL (s.data.toList.drop k)=unL s.data.toList∧Below w.heap.size w wr)
  (fun _ i _=>s.size-(intOf i).toNat)
 case atStart=>exact ⟨0,[],Nat.zero_le _,rfl,Nat.zero_le _,World.ownsRow_lit w #[] 0 (Nat.le_refl _) (by decide) rfl,rfl,(Below.refl _ _).alloc (Nat.le_refl _) _⟩
 obtain ⟨k,o,hk,rfl,hol,hown,he,hbel⟩:=hrel
 have HE:Hid (o++unL (s.data.toList.drop k)=unL s.data.toList):=he
 clear he
 have hsz:=hbel.size
 by_cases hlt:k<s.size
 ·have hct:=fun W=>specByte s k W hlt hs
  have hcl:=pctAt_le s k
  by_cases hc:0≤pctAt s k
  ·have HN:Hid ((o++[UInt8.ofNat (pctAt s k).toNat])++unL (s.data.toList.drop (k+3))=unL s.data.toList):=un_hit s k o hc HE.out
   have hk3:=pctAt_lt hc
   generalize pctAt s k=c at hct hcl hc HN
   obtain ⟨hc0,hc1⟩:=hcl
   have HC:Hid (∀W,CB 99 #[.string s,.int .i64 (k:Int)] W (.int .i64 c)):=hct
   clear hct
   go_wp2_with fail
   refine (HC.out _).mono ?_
   rintro e wb ⟨rfl,bb⟩
   have ob:=own_below hown bb
   have hsb:=bb.size
   go_wp2_with (at_builtin;refine wpList_append_new _ rfl _ _ 22 rfl w.heap.size 5 (.int .u8 0) 1 Tryz.underlying22 Tryz.info5 rfl _ _ _ rfl ob #[.int .u8 c] 1 rfl rfl (byte_one _) (by omega) (by unfold maxLen;omega) (by omega) ?_)
   intro v' w1 hown' hb1
   have R:=own_byte _ (ofNat_pct hc hc1) hown'
   have B1:Below w.heap.size w w1:=(hbel.trans (bb.mono hsz)).trans hb1
   clear hown' hb1 hown hbel ob bb
   go_wp2
   go_roundw
   case rel=>exact ⟨k+3,_,by omega,by go_num,by simp;omega,R,HN.out,B1⟩
   case measure=>simp[intOf];omega
  have HN:Hid ((o++[s[k]])++unL (s.data.toList.drop (k+1))=unL s.data.toList):=un_miss s k hlt o (by omega) HE.out
  generalize pctAt s k=c at hct hcl hc
  obtain ⟨hc0,hc1⟩:=hcl
  have HC:Hid (∀W,CB 99 #[.string s,.int .i64 (k:Int)] W (.int .i64 c)):=hct
  clear hct
  go_wp2_with fail
  refine (HC.out _).mono ?_
  rintro e wb ⟨rfl,bb⟩
  have ob:=own_below hown bb
  have hsb:=bb.size
  go_wp2_with (at_builtin;refine wpList_append_new _ rfl _ _ 22 rfl w.heap.size 5 (.int .u8 0) 1 Tryz.underlying22 Tryz.info5 rfl _ _ _ rfl ob #[.int .u8 (s[k].toNat:Int)] 1 rfl rfl (byte_one _) (by omega) (by unfold maxLen;omega) (by omega) ?_)
  intro v' w1 hown' hb1
  have R:=own_byte s[k] rfl hown'
  have B1:Below w.heap.size w w1:=(hbel.trans (bb.mono hsz)).trans hb1
  clear hown' hb1 hown hbel ob bb
  go_wp2
  go_roundw
  case rel=>exact ⟨k+1,_,by omega,by go_num,by simp;omega,R,HN.out,B1⟩
  case measure=>simp[intOf];omega
 have HO:=run_string_own (P:=Tryz.prog) wr 22 9 5 Tryz.underlying22 Tryz.underlying5 Tryz.underlying9 hown
 go_wp2
 go_ret
 exact ⟨ret_str (un_end s k (by omega) o HE.out),hbel⟩

theorem par6_eight(l:List UInt8): ∀gs,par6 l=some gs→gs.length=8:=by
 intro gs h
 unfold par6 at h
 split at h
 ·split at h
  ·cases h
  split at h
  ·cases h;assumption
  cases h
 split at h
 ·split at h
  ·cases h
   unfold fill8
   simp
   omega
  cases h
 cases h
def hostVal(h:HV):Value:=.agg (#[.int .i64 h.k,.string h.s,.int .i64 h.n]++(h.z.map (Value.int .i64)).toArray)
def mV(r:HostR):Value:=match r.t with
 |0=> .nilIface
 |1=> .iface 89 (.string ⟨r.l.toArray⟩)
 |2=> .iface 91 (.int .i64 (r.n:Int))
 |_=> .iface 93 (.agg ((r.g.map fun (x:Nat)=>(x:Int)).map (Value.int .i64)).toArray)
theorem readS_yes{r:List UInt8}(h:r.getLast? =some 93):readS r=readB (par6 r.dropLast):=by unfold readS;rw[if_pos h]
theorem readS_no{r:List UInt8}(h: ¬r.getLast? =some 93):readS r=.bad 2:=by unfold readS;rw[if_neg h]
theorem parV_si{gs:List Nat}(h:gs.length=8): ∃x0 x1 x2 x3 x4 x5 x6 x7:Int,parV (some gs)=.tuple #[.agg #[.int .i64 x0,.int .i64 x1,.int .i64 x2,.int .i64 x3,.int .i64 x4,.int .i64 x5,.int .i64 x6,.int .i64 x7],.bool true]∧mV (.si gs)=.iface 93 (.agg #[.int .i64 x0,.int .i64 x1,.int .i64 x2,.int .i64 x3,.int .i64 x4,.int .i64 x5,.int .i64 x6,.int .i64 x7])∧(gs.map fun (x:Nat)=>(x:Int))=[x0,x1,x2,x3,x4,x5,x6,x7]:=by
 obtain ⟨x0,x1,x2,x3,x4,x5,x6,x7,hx⟩:=list_eight (z:=gs.map fun (x:Nat)=>(x:Int)) (by simpa using h)
 refine ⟨x0,x1,x2,x3,x4,x5,x6,x7,?_,?_,hx⟩
 ·show Value.tuple #[.agg ((toI gs).map (Value.int .i64)).toArray,.bool true]=_
  rw[show toI gs=gs.map (fun (x:Nat)=>(x:Int)) from rfl,hx]
  rfl
 show Value.iface 93 (.agg ((gs.map fun (x:Nat)=>(x:Int)).map (Value.int .i64)).toArray)=_
 rw[hx]
 rfl
theorem readH_eight(s:ByteArray):(rV (readH s)).z.length=8:=by
 unfold readH
 split
 ·rfl
 split
 ·unfold readS
  split
  ·cases h:par6 _ with
   |none=>rfl
   |some g=>
    show (g.map fun (x:Nat)=>(x:Int)).length=8
    rw[List.length_map]
    exact par6_eight _ g h
  rfl
 unfold readN
 split
 ·rfl
 unfold readM
 split
 ·split<;>rfl
 rfl
theorem hostVal_eight(h:HV)(h8:h.z.length=8): ∃x0 x1 x2 x3 x4 x5 x6 x7:Int,h.z=[x0,x1,x2,x3,x4,x5,x6,x7]∧hostVal h=.agg #[.int .i64 h.k,.string h.s,.int .i64 h.n,.int .i64 x0,.int .i64 x1,.int .i64 x2,.int .i64 x3,.int .i64 x4,.int .i64 x5,.int .i64 x6,.int .i64 x7]:=by
 obtain ⟨x0,x1,x2,x3,x4,x5,x6,x7,hx⟩:=list_eight h8
 refine ⟨x0,x1,x2,x3,x4,x5,x6,x7,hx,?_⟩
 unfold hostVal
 rw[hx]
 rfl




def NoneCells(W:World)(B:Nat):Prop:=
 W.cell? ⟨B,0,none⟩=some (.int .i64 0)∧W.cell? ⟨B,1,none⟩=some (.string ⟨#[]⟩)∧W.cell? ⟨B,2,none⟩=some (.int .i64 0)∧W.cell? ⟨B,3,none⟩=some (.int .i64 0)∧W.cell? ⟨B,4,none⟩=some (.int .i64 0)∧
 W.cell? ⟨B,5,none⟩=some (.int .i64 0)∧W.cell? ⟨B,6,none⟩=some (.int .i64 0)∧W.cell? ⟨B,7,none⟩=some (.int .i64 0)∧W.cell? ⟨B,8,none⟩=some (.int .i64 0)∧W.cell? ⟨B,9,none⟩=some (.int .i64 0)∧W.cell? ⟨B,10,none⟩=some (.int .i64 0)
def Laid3(w W:World):Prop:=NoneCells W w.heap.size∧NoneCells W (w.heap.size+1)∧ ∀j,W.frozen? ⟨w.heap.size,j,none⟩=false
theorem laid3(w W:World)(t:TypeId)(hb:Below ((w.alloc (.cells #[.int .i64 0,.string ⟨#[]⟩,.int .i64 0,.int .i64 0,.int .i64 0,.int .i64 0,.int .i64 0,.int .i64 0,.int .i64 0,.int .i64 0,.int .i64 0] t)).alloc (.cells #[.int .i64 0,.string ⟨#[]⟩,.int .i64 0,.int .i64 0,.int .i64 0,.int .i64 0,.int .i64 0,.int .i64 0,.int .i64 0,.int .i64 0,.int .i64 0] t)).heap.size ((w.alloc (.cells #[.int .i64 0,.string ⟨#[]⟩,.int .i64 0,.int .i64 0,.int .i64 0,.int .i64 0,.int .i64 0,.int .i64 0,.int .i64 0,.int .i64 0,.int .i64 0] t)).alloc (.cells #[.int .i64 0,.string ⟨#[]⟩,.int .i64 0,.int .i64 0,.int .i64 0,.int .i64 0,.int .i64 0,.int .i64 0,.int .i64 0,.int .i64 0,.int .i64 0] t)) W):Laid3 w W:=by
 have h1:=((Below.refl _ (w.alloc (.cells #[.int .i64 0,.string ⟨#[]⟩,.int .i64 0,.int .i64 0,.int .i64 0,.int .i64 0,.int .i64 0,.int .i64 0,.int .i64 0,.int .i64 0,.int .i64 0] t))).alloc (Nat.le_refl _) (.cells #[.int .i64 0,.string ⟨#[]⟩,.int .i64 0,.int .i64 0,.int .i64 0,.int .i64 0,.int .i64 0,.int .i64 0,.int .i64 0,.int .i64 0,.int .i64 0] t)).trans (hb.mono (by simp))
 have h2:=host_cells _ W _ _ _ 0 0 0 0 0 0 0 0 t hb
 unfold HostCells at h2
 simp only[show (w.alloc (.cells #[.int .i64 0,.string ⟨#[]⟩,.int .i64 0,.int .i64 0,.int .i64 0,.int .i64 0,.int .i64 0,.int .i64 0,.int .i64 0,.int .i64 0,.int .i64 0] t)).heap.size=w.heap.size+1 by simp]at h2
 exact ⟨host_cells w W _ _ _ 0 0 0 0 0 0 0 0 t h1,h2,host_frozen w W _ t h1⟩
theorem row_of_none{W:World}{B:Nat}(h:NoneCells W B):RowIs W B (hRow 0 ⟨#[]⟩ 0 0 0 0 0 0 0 0 0):=by
 obtain ⟨c0,c1,c2,c3,c4,c5,c6,c7,c8,c9,c10⟩:=h
 intro j v hv
 match j,hv with
 |0,hv=>cases hv;exact c0
 |1,hv=>cases hv;exact c1
 |2,hv=>cases hv;exact c2
 |3,hv=>cases hv;exact c3
 |4,hv=>cases hv;exact c4
 |5,hv=>cases hv;exact c5
 |6,hv=>cases hv;exact c6
 |7,hv=>cases hv;exact c7
 |8,hv=>cases hv;exact c8
 |9,hv=>cases hv;exact c9
 |10,hv=>cases hv;exact c10
 |j+11,hv=>simp[hRow]at hv
theorem last_r{s:ByteArray}(h:1<s.size):(s.extract 1 s.size).data.toList.getLast? =some (s[s.size-1]'(by omega)):=by
 rw[extract_list,take_all s s.size (Nat.le_refl _),List.getLast?_drop,if_neg (by simp;omega)]
 exact last_at s (by omega)
theorem drop_r{s:ByteArray}(h:1<s.size):(s.extract 1 s.size).data.toList.dropLast=(s.extract 1 (s.size-1)).data.toList:=by
 have hl:s.data.toList.length=s.size:=by simp
 rw[extract_list,extract_list,take_all s s.size (Nat.le_refl _),List.dropLast_eq_take,List.length_drop,hl,List.take_drop,show 1+(s.size-1-1)=s.size-1 by omega]
theorem nil_r{s:ByteArray}(h: ¬1<s.size):(s.extract 1 s.size).data.toList.getLast? =none:=by
 have e:(s.extract 1 s.size).data.toList=[]:=List.eq_nil_of_length_eq_zero (by simp;omega)
 rw[e]
 rfl
theorem row_arr{W:World}{B:Nat}{vs:List Value}(h:RowIs W B vs){C:Nat}(hne:B≠C)(x0 x1 x2 x3 x4 x5 x6 x7:Int):RowIs ((((((((W.setCell ⟨C,0,none⟩ (.int .i64 x0)).setCell ⟨C,1,none⟩ (.int .i64 x1)).setCell ⟨C,2,none⟩ (.int .i64 x2)).setCell ⟨C,3,none⟩ (.int .i64 x3)).setCell ⟨C,4,none⟩ (.int .i64 x4)).setCell ⟨C,5,none⟩ (.int .i64 x5)).setCell ⟨C,6,none⟩ (.int .i64 x6)).setCell ⟨C,7,none⟩ (.int .i64 x7)) B vs:=
 (((((((h.other hne 0 _).other hne 1 _).other hne 2 _).other hne 3 _).other hne 4 _).other hne 5 _).other hne 6 _).other hne 7 _
theorem specParseHost0(s:ByteArray)(w:World)(h0:s.size=0):
  Calls Tryz.prog 45 #[.string s] w fun e w'=>e=.returned (.tuple #[hostVal (rV (readH s)),.int .i64 (rC (readH s))])∧Below w.heap.size w w':=by
 rw[readH_nil h0]
 show Calls _ _ _ _ fun e w'=>e=.returned (.tuple #[.agg #[.int .i64 0,.string ⟨#[]⟩,.int .i64 0,.int .i64 0,.int .i64 0,.int .i64 0,.int .i64 0,.int .i64 0,.int .i64 0,.int .i64 0,.int .i64 0],.int .i64 1])∧Below w.heap.size w w'
 have hem:=empty_yes h0
 clear h0
 go_enter Tryz.func45,Tryz.ntmps45
 go_wp2_with fail
 go_returns
 exact ⟨rfl,by go_grown⟩
theorem specParseHostN(s:ByteArray)(w:World)(hs:s.size≤1048576)(hp:0<s.size)(h9: ¬s[0].toNat=91):
  Calls Tryz.prog 45 #[.string s] w fun e w'=>e=.returned (.tuple #[hostVal (rV (readH s)),.int .i64 (rC (readH s))])∧Below w.heap.size w w':=by
 rw[readH_name hp h9]
 have hem:=empty_no hp
 obtain ⟨d,hd⟩: ∃d:Nat,s[0].toNat=d:=⟨_,rfl⟩
 have q0:((d:Int)==91)=false:=beq_eq_false_iff_ne.2 (by omega)
 have hus:=Nat.le_trans (unB_size s) hs
 obtain ⟨O,hO⟩: ∃O,O=(w.alloc (.cells #[.int .i64 0,.string ⟨#[]⟩,.int .i64 0,.int .i64 0,.int .i64 0,.int .i64 0,.int .i64 0,.int .i64 0,.int .i64 0,.int .i64 0,.int .i64 0] 27)).alloc (.cells #[.int .i64 0,.string ⟨#[]⟩,.int .i64 0,.int .i64 0,.int .i64 0,.int .i64 0,.int .i64 0,.int .i64 0,.int .i64 0,.int .i64 0,.int .i64 0] 27):=⟨_,rfl⟩
 have HL:Hid (∀W,Below O.heap.size O W→Laid3 w W):=fun W h=>by rw[hO]at h;exact laid3 w W _ h
 have HE:Hid (∀W,Below O.heap.size O W→Below w.heap.size w W):=fun W h=>by
  rw[hO]at h
  exact (((Below.refl _ w).alloc (Nat.le_refl _) _).alloc (by simp) _).trans (h.mono (by simp;omega))
 have CU:Hid (Calls Tryz.prog 74 #[.string s] O fun e w'=>e=.returned (.string (unB s))∧Hid (Below O.heap.size O w')):=specUnpercent s O (by omega)
 have CN:Hid (∀W,Below O.heap.size O W→Calls Tryz.prog 57 #[.string (unB s)] W fun e w'=>e=.returned (ansS (nameL (unB s)))∧Hid (Below O.heap.size O w')):=fun W hb=>(specNameOf (unB s) W hus).mono fun e w' h=>⟨h.1,hb.trans (h.2.mono hb.size)⟩
 have HZ0:Hid (readN s=match nameL (unB s)with
  |none=> .bad 3
  |some n=>readM n):=rfl
 have HNL:Hid (∀n,nameL (unB s)=some n→n.length≤253):=fun n hn=>(nameL_le hn)
 generalize unB s=u at CU CN HZ0 HNL
 clear hus h9
 cases hn:nameL u with
 |none=>
  have HZ:Hid (readN s=.bad 3):=by
   show _=_
   rw[HZ0.out,hn]
  rw[HZ.out]
  show Calls _ _ _ _ fun e w'=>e=.returned (.tuple #[.agg #[.int .i64 0,.string ⟨#[]⟩,.int .i64 0,.int .i64 0,.int .i64 0,.int .i64 0,.int .i64 0,.int .i64 0,.int .i64 0,.int .i64 0,.int .i64 0],.int .i64 3])∧Below w.heap.size w w'
  rw[hn,show ansS none=.tuple #[.string ⟨#[]⟩,.bool false] from rfl]at CN
  clear hn HZ0 HNL HZ
  go_enter Tryz.func45,Tryz.ntmps45
  go_wp2_with fail
  rw[←hO]
  refine CU.out.mono ?_
  rintro e w1 ⟨rfl,b1⟩
  go_wp2_with fail
  refine (CN.out _ b1.out).mono ?_
  rintro e w2 ⟨rfl,b2⟩
  have hl3:=HL.out w2 b2.out
  have HR:Hid (RowIs w2 w.heap.size (hRow 0 ⟨#[]⟩ 0 0 0 0 0 0 0 0 0)):=row_of_none hl3.1
  have BW:Hid (Below w.heap.size w w2):=HE.out _ b2.out
  obtain ⟨⟨c0,c1,c2,c3,c4,c5,c6,c7,c8,c9,c10⟩,⟨d0,d1,d2,d3,d4,d5,d6,d7,d8,d9,d10⟩,fz⟩:=hl3
  go_wp2_with fail
  refine bodyPost_ret (host_result2 rfl _ _ w.heap.size _ 0 0 ⟨#[]⟩ 0 0 0 0 0 0 0 0 rfl rfl (host_store HR.out 0 0 ⟨#[]⟩ 0 0 0 0 0 0 0 0)) rfl ⟨rfl,below_hstore BW.out (Nat.le_refl _) 0 0 ⟨#[]⟩ 0 0 0 0 0 0 0 0⟩
 |some n=>
  have hl:=HNL.out n hn
  have HZ1:Hid (readN s=readM n):=by
   show _=_
   rw[HZ0.out,hn]
  rw[hn,show ansS (some n)=.tuple #[.string ⟨n.toArray⟩,.bool true] from rfl]at CN
  have hns:(⟨n.toArray⟩:ByteArray).size≤1048576:=by
   show n.toArray.size≤_
   rw[List.size_toArray]
   omega
  have CE:Hid (∀W,Below O.heap.size O W→Calls Tryz.prog 58 #[.string ⟨n.toArray⟩] W fun e w'=>e=.returned (.bool (endL ⟨n.toArray⟩))∧Hid (Below O.heap.size O w')):=fun W hb=>(specEndsInNumber _ W hns).mono fun e w' h=>⟨h.1,hb.trans (h.2.mono hb.size)⟩
  have CL:Hid (∀W,Below O.heap.size O W→Calls Tryz.prog 75 #[.string ⟨n.toArray⟩] W fun e w'=>e=.returned (numA (loA ⟨n.toArray⟩))∧Hid (Below O.heap.size O w')):=fun W hb=>(specLooseIp4 _ W hns).mono fun e w' h=>⟨h.1,hb.trans (h.2.mono hb.size)⟩
  have HM:Hid (readM n=if endL ⟨n.toArray⟩=true then (match loA ⟨n.toArray⟩with
   |none=> .bad 4
   |some v=> .fo v)else .nm n):=rfl
  have HMV:Hid (hostVal (rV (.nm n))=.agg #[.int .i64 1,.string ⟨n.toArray⟩,.int .i64 0,.int .i64 0,.int .i64 0,.int .i64 0,.int .i64 0,.int .i64 0,.int .i64 0,.int .i64 0,.int .i64 0]):=rfl
  generalize (⟨n.toArray⟩:ByteArray)=T at CN CE CL HM HMV
  clear hn HZ0 HNL hl hns
  cases he:endL T with
  |false=>
   have HZ:Hid (readN s=.nm n):=by
    show _=_
    rw[HZ1.out,HM.out,he,if_neg (by decide)]
   rw[HZ.out,HMV.out,show rC (.nm n)=0 from rfl]
   rw[he]at CE
   clear he HZ1 HM CL HZ HMV
   go_enter Tryz.func45,Tryz.ntmps45
   go_wp2_with fail
   rw[←hO]
   refine CU.out.mono ?_
   rintro e w1 ⟨rfl,b1⟩
   go_wp2_with fail
   refine (CN.out _ b1.out).mono ?_
   rintro e w2 ⟨rfl,b2⟩
   go_wp2_with fail
   refine (CE.out _ b2.out).mono ?_
   rintro e w3 ⟨rfl,b3⟩
   have hl3:=HL.out w3 b3.out
   have HR:Hid (RowIs w3 w.heap.size (hRow 0 ⟨#[]⟩ 0 0 0 0 0 0 0 0 0)):=row_of_none hl3.1
   have BW:Hid (Below w.heap.size w w3):=HE.out _ b3.out
   obtain ⟨⟨c0,c1,c2,c3,c4,c5,c6,c7,c8,c9,c10⟩,⟨d0,d1,d2,d3,d4,d5,d6,d7,d8,d9,d10⟩,fz⟩:=hl3
   go_wp2_with fail
   refine bodyPost_ret (host_result2 rfl _ _ w.heap.size _ 1 0 T 0 0 0 0 0 0 0 0 rfl rfl (host_store HR.out 1 0 T 0 0 0 0 0 0 0 0)) rfl ⟨rfl,below_hstore BW.out (Nat.le_refl _) 1 0 T 0 0 0 0 0 0 0 0⟩
  |true=>
   rw[he]at CE
   cases hlo:loA T with
   |none=>
    have HZ:Hid (readN s=.bad 4):=by
     show _=_
     rw[HZ1.out,HM.out,he,if_pos rfl,hlo]
    rw[HZ.out]
    show Calls _ _ _ _ fun e w'=>e=.returned (.tuple #[.agg #[.int .i64 0,.string ⟨#[]⟩,.int .i64 0,.int .i64 0,.int .i64 0,.int .i64 0,.int .i64 0,.int .i64 0,.int .i64 0,.int .i64 0,.int .i64 0],.int .i64 4])∧Below w.heap.size w w'
    rw[hlo,show numA none=.tuple #[.int .i64 0,.bool false] from rfl]at CL
    clear he hlo HZ1 HM HMV HZ
    go_enter Tryz.func45,Tryz.ntmps45
    go_wp2_with fail
    rw[←hO]
    refine CU.out.mono ?_
    rintro e w1 ⟨rfl,b1⟩
    go_wp2_with fail
    refine (CN.out _ b1.out).mono ?_
    rintro e w2 ⟨rfl,b2⟩
    go_wp2_with fail
    refine (CE.out _ b2.out).mono ?_
    rintro e w3 ⟨rfl,b3⟩
    go_wp2_with fail
    refine (CL.out _ b3.out).mono ?_
    rintro e w4 ⟨rfl,b4⟩
    have hl3:=HL.out w4 b4.out
    have HR:Hid (RowIs w4 w.heap.size (hRow 0 ⟨#[]⟩ 0 0 0 0 0 0 0 0 0)):=row_of_none hl3.1
    have BW:Hid (Below w.heap.size w w4):=HE.out _ b4.out
    obtain ⟨⟨c0,c1,c2,c3,c4,c5,c6,c7,c8,c9,c10⟩,⟨d0,d1,d2,d3,d4,d5,d6,d7,d8,d9,d10⟩,fz⟩:=hl3
    go_wp2_with fail
    refine bodyPost_ret (host_result2 rfl _ _ w.heap.size _ 0 0 ⟨#[]⟩ 0 0 0 0 0 0 0 0 rfl rfl (host_store HR.out 0 0 ⟨#[]⟩ 0 0 0 0 0 0 0 0)) rfl ⟨rfl,below_hstore BW.out (Nat.le_refl _) 0 0 ⟨#[]⟩ 0 0 0 0 0 0 0 0⟩
   |some v=>
    have HZ:Hid (readN s=.fo v):=by
     show _=_
     rw[HZ1.out,HM.out,he,if_pos rfl,hlo]
    rw[HZ.out]
    obtain ⟨y,hy⟩: ∃y:Int,(v:Int)=y:=⟨_,rfl⟩
    show Calls _ _ _ _ fun e w'=>e=.returned (.tuple #[.agg #[.int .i64 2,.string ⟨#[]⟩,.int .i64 (v:Int),.int .i64 0,.int .i64 0,.int .i64 0,.int .i64 0,.int .i64 0,.int .i64 0,.int .i64 0,.int .i64 0],.int .i64 0])∧Below w.heap.size w w'
    rw[hlo,show numA (some v)=.tuple #[.int .i64 (v:Int),.bool true] from rfl,hy]at CL
    rw[hy]
    clear he hlo HZ1 HM HMV HZ hy
    go_enter Tryz.func45,Tryz.ntmps45
    go_wp2_with fail
    rw[←hO]
    refine CU.out.mono ?_
    rintro e w1 ⟨rfl,b1⟩
    go_wp2_with fail
    refine (CN.out _ b1.out).mono ?_
    rintro e w2 ⟨rfl,b2⟩
    go_wp2_with fail
    refine (CE.out _ b2.out).mono ?_
    rintro e w3 ⟨rfl,b3⟩
    go_wp2_with fail
    refine (CL.out _ b3.out).mono ?_
    rintro e w4 ⟨rfl,b4⟩
    have hl3:=HL.out w4 b4.out
    have HR:Hid (RowIs w4 w.heap.size (hRow 0 ⟨#[]⟩ 0 0 0 0 0 0 0 0 0)):=row_of_none hl3.1
    have BW:Hid (Below w.heap.size w w4):=HE.out _ b4.out
    obtain ⟨⟨c0,c1,c2,c3,c4,c5,c6,c7,c8,c9,c10⟩,⟨d0,d1,d2,d3,d4,d5,d6,d7,d8,d9,d10⟩,fz⟩:=hl3
    go_wp2_with fail
    refine bodyPost_ret (host_result2 rfl _ _ w.heap.size _ 2 y ⟨#[]⟩ 0 0 0 0 0 0 0 0 rfl rfl (host_store HR.out 2 y ⟨#[]⟩ 0 0 0 0 0 0 0 0)) rfl ⟨rfl,below_hstore BW.out (Nat.le_refl _) 2 y ⟨#[]⟩ 0 0 0 0 0 0 0 0⟩
end Go.Proofs.YtijliddchoehhaaGreatDoor
