/- Parse6Spec, Par6Impl. -/
import Derived.Test.YtgcbaphbiaimoaaGreatDoorQP12
set_option maxHeartbeats 8000000
set_option maxRecDepth 20000
namespace Go.Proofs.YtgcbaphbiaimoaaGreatDoor
open Go.RowKit
def vtz(r:Option (List Nat)):Value:=match r with
 |none=> .tuple #[.agg #[.int .i64 0,.int .i64 0,.int .i64 0,.int .i64 0,.int .i64 0,.int .i64 0,.int .i64 0,.int .i64 0],.bool false]
 |some gs=> .tuple #[.agg ((toI gs).map (Value.int .i64)).toArray,.bool true]
def yIz(w:World)(B:Nat)(z:List Int):Prop:=z.length=8∧ ∀j,j<8→w.cell? ⟨B,j,none⟩=some (.int .i64 (z.getD j 0))∧w.frozen? ⟨B,j,none⟩=false
theorem zi0z{w w':World}(hb:Below w.heap.size w w'){B j:Nat}{v:Value}(hc:w.cell? ⟨B,j,none⟩=some v)(h:w.frozen? ⟨B,j,none⟩=false):w'.frozen? ⟨B,j,none⟩=false:=by
 have hB:B<w.heap.size:=World.block_lt_of_cell? w ⟨B,j,none⟩ hc
 have e:=hb.block B hB
 unfold World.frozen? at h⊢
 simp only[e]
 exact h
theorem yIz.later{w w':World}{B:Nat}{z:List Int}(h:yIz w B z)(hb:Below w.heap.size w w'):yIz w' B z:=
 ⟨h.1,fun j hj=>⟨cell_later hb (h.2 j hj).1,zi0z hb (h.2 j hj).1 (h.2 j hj).2⟩⟩
theorem yIz.set{w:World}{B:Nat}{z:List Int}(h:yIz w B z)(k:Nat)(hk:k<8)(x:Int):yIz (w.setCell ⟨B,k,none⟩ (.int .i64 x)) B (z.set k x):=by
 refine ⟨by rw[List.length_set];exact h.1,fun j hj=>⟨?_,by rw[World.frozen?_setCell];exact (h.2 j hj).2⟩⟩
 by_cases e:k=j
 ·subst e
  rw[World.cell?_setCell_same' _ _ _ (by rw[(h.2 k hk).1];rfl)]
  simp[List.getD,h.1,hk]
 rw[World.cell?_setCell_other _ _ _ _ (fun h=>e (by injection h)),(h.2 j hj).1]
 simp[List.getD,List.getElem?_set_ne e]
theorem zcfz(w:World):yIz (w.alloc (.cells #[.int .i64 0,.int .i64 0,.int .i64 0,.int .i64 0,.int .i64 0,.int .i64 0,.int .i64 0,.int .i64 0] 24)) w.heap.size [0,0,0,0,0,0,0,0]:=
 ⟨rfl,fun j hj=>⟨zgaz w 0 0 0 0 0 0 0 0 j hj,World.frozen?_alloc_new _ _ _ _⟩⟩
def padA(l:List Int)(k:Nat):List Int:=l.take k++List.replicate (8-k) 0
theorem zklz{l:List Int}{k:Nat}(h:k<l.length)(h8:l.length≤8):(padA l k).set k (l.getD k 0)=padA l (k+1):=by
 unfold padA
 have h1:(l.take k).length=k:=by rw[List.length_take];omega
 rw[List.set_append_right _ _ (by omega),h1,Nat.sub_self,show 8-k=(8-(k+1))+1 by omega,List.replicate_succ,List.set_cons_zero,jGz l k h]
 simp
theorem zonz{l:List Int}(h:l.length=8):padA l 8=l:=by unfold padA;rw[List.take_of_length_le (by omega)];simp
def padB(z b:List Int)(i:Nat):List Int:=z.take (8-b.length)++b.take i++z.drop (8-b.length+i)
theorem zqdz{z b:List Int}{i:Nat}(hz:z.length=8)(hb:b.length≤8)(h:i<b.length):(padB z b i).set (8-b.length+i) (b.getD i 0)=padB z b (i+1):=by
 unfold padB
 have h1:(z.take (8-b.length)++b.take i).length=8-b.length+i:=by rw[List.length_append,List.length_take,List.length_take];omega
 have h2:z.drop (8-b.length+i)=z.getD (8-b.length+i) 0::z.drop (8-b.length+i+1):=by
  rw[List.drop_eq_getElem_cons (by omega)]
  simp[List.getD,show 8-b.length+i<z.length by omega]
 rw[List.set_append_right _ _ (by omega),h1,Nat.sub_self,h2,List.set_cons_zero,jGz b i h,show 8-b.length+(i+1)=8-b.length+i+1 by omega]
 simp
theorem zooz{z b:List Int}:padB z b 0=z:=by unfold padB;simp
theorem zopz{a b:List Int}(h:a.length+b.length≤7):padB (padA a a.length) b b.length=a++List.replicate (8-a.length-b.length) 0++b:=by
 unfold padB padA
 rw[List.take_length,List.take_length]
 have h1:(a++List.replicate (8-a.length) 0).take (8-b.length)=a++List.replicate (8-a.length-b.length) (0:Int):=by
  rw[List.take_append,List.take_of_length_le (by omega),List.take_replicate,show min (8-b.length-a.length) (8-a.length)=8-a.length-b.length by omega]
 rw[h1,List.drop_of_length_le (by simp;omega)]
 simp
theorem zqez(a b:List Nat):toI (x5z a b)=toI a++List.replicate (8-(toI a).length-(toI b).length) 0++toI b:=by
 unfold toI x5z
 simp
theorem zqfz{l:List Int}{k:Nat}(hk:k≤l.length)(h8:l.length≤8):(padA l k).length=8:=by
 unfold padA;simp;omega
theorem zoqz{l:List UInt8}(h:x7z l=none):yEz l=match yhz true l with
  |none=>none
  |some g=>if g.length=8 then some g else none:=by
 unfold yEz
 rw[zfqz,h]
 rfl
theorem zorz{l:List UInt8}{k:Nat}(h:x7z l=some k):yEz l=match yhz false (l.take k),yhz true (l.drop (k+2))with
  |some x,some y=>if x.length+y.length≤7 then some (x5z x y)else none
  |_,_=>none:=by
 unfold yEz
 rw[zfqz,h]
 rfl
theorem zPz{w:World}{B:Nat}{z:List Int}(h:yIz w B z):Hid (yIz w B z):=h
theorem ygz{W:World}{B:Nat}{z:List Int}(h:yIz W B z)(x0 x1 x2 x3 x4 x5 x6 x7:Int):yIz ((((((((W.setCell ⟨B,0,none⟩ (.int .i64 x0)).setCell ⟨B,1,none⟩ (.int .i64 x1)).setCell ⟨B,2,none⟩ (.int .i64 x2)).setCell ⟨B,3,none⟩ (.int .i64 x3)).setCell ⟨B,4,none⟩ (.int .i64 x4)).setCell ⟨B,5,none⟩ (.int .i64 x5)).setCell ⟨B,6,none⟩ (.int .i64 x6)).setCell ⟨B,7,none⟩ (.int .i64 x7)) B [x0,x1,x2,x3,x4,x5,x6,x7]:=by
 have h1:=(((((((h.set 0 (by decide) x0).set 1 (by decide) x1).set 2 (by decide) x2).set 3 (by decide) x3).set 4 (by decide) x4).set 5 (by decide) x5).set 6 (by decide) x6).set 7 (by decide) x7
 obtain ⟨a,b,c,d,e,f,g,i,rfl⟩: ∃a b c d e f g i:Int,z=[a,b,c,d,e,f,g,i]:=by
  match z,h.1 with
  |[a,b,c,d,e,f,g,i],_=>exact ⟨a,b,c,d,e,f,g,i,rfl⟩
 exact h1
theorem zTz{n:Nat}{w W:World}(h:Below n w W){B:Nat}(hB:n≤B)(x0 x1 x2 x3 x4 x5 x6 x7:Int):Below n w ((((((((W.setCell ⟨B,0,none⟩ (.int .i64 x0)).setCell ⟨B,1,none⟩ (.int .i64 x1)).setCell ⟨B,2,none⟩ (.int .i64 x2)).setCell ⟨B,3,none⟩ (.int .i64 x3)).setCell ⟨B,4,none⟩ (.int .i64 x4)).setCell ⟨B,5,none⟩ (.int .i64 x5)).setCell ⟨B,6,none⟩ (.int .i64 x6)).setCell ⟨B,7,none⟩ (.int .i64 x7)):=by
 have st: ∀(U:World) (j:Nat) (x:Value),Below n w U→Below n w (U.setCell ⟨B,j,none⟩ x):=fun U j x hU=>hU.setCell (p:=⟨B,j,none⟩) hB _
 exact st _ _ _ (st _ _ _ (st _ _ _ (st _ _ _ (st _ _ _ (st _ _ _ (st _ _ _ (st _ _ _ h)))))))
theorem z7z{fn:Func}{p q:Tmp}(h:fn.results= #[.cell p 24,.tmp q])(tmps:Array Value)(W:World)(B:Nat)(b:Bool)(x0 x1 x2 x3 x4 x5 x6 x7:Int)
  (hp:tmps[p]?.getD undef=.pointer (some ⟨B,0,none⟩)) (hq:tmps[q]?.getD undef=.bool b) (ha:yIz W B [x0,x1,x2,x3,x4,x5,x6,x7]):
  (results fn tmps).run Tryz.prog W=.ok (.tuple #[.agg #[.int .i64 x0,.int .i64 x1,.int .i64 x2,.int .i64 x3,.int .i64 x4,.int .i64 x5,.int .i64 x6,.int .i64 x7],.bool b]) W:=by
 have c0:=(ha.2 0 (by decide)).1
 have c1:=(ha.2 1 (by decide)).1
 have c2:=(ha.2 2 (by decide)).1
 have c3:=(ha.2 3 (by decide)).1
 have c4:=(ha.2 4 (by decide)).1
 have c5:=(ha.2 5 (by decide)).1
 have c6:=(ha.2 6 (by decide)).1
 have c7:=(ha.2 7 (by decide)).1
 simp at c0 c1 c2 c3 c4 c5 c6 c7
 simp[results,h,hp,hq,asAddr,go_sem,c0,c1,c2,c3,c4,c5,c6,c7,Addr.add_lit]
theorem yIz.other{w:World}{B:Nat}{z:List Int}(h:yIz w B z){B':Nat}(hne:B≠B')(j:Nat)(x:Value):yIz (w.setCell ⟨B',j,none⟩ x) B z:=
 ⟨h.1,fun i hi=>⟨by rw[World.cell?_setCell_other _ _ _ _ (fun h=>hne (by injection h with h1 _;exact h1.symm))];exact (h.2 i hi).1,by rw[World.frozen?_setCell];exact (h.2 i hi).2⟩⟩
theorem zgez{w:World}{B:Nat}{z:List Int}(h:yIz w B z): ∃a b c d e f g i:Int,z=[a,b,c,d,e,f,g,i]:=by
 match z,h.1 with
 |[a,b,c,d,e,f,g,i],_=>exact ⟨a,b,c,d,e,f,g,i,rfl⟩
def v7z(w:World)(B:Nat)(ao:Option Addr)(z:List Int):Prop:=0<z.length→ ∃g,ao=some ⟨g,0,none⟩∧B≤g∧ ∀j,j<z.length→w.cell? ⟨g,j,none⟩=some (.int .i64 (z.getD j 0))
theorem v7z.later{w w':World}{B:Nat}{ao:Option Addr}{z:List Int}(h:v7z w B ao z)(hb:Below w.heap.size w w'):v7z w' B ao z:=fun h0=>by
 obtain ⟨g,h1,h2,h3⟩:=h h0
 exact ⟨g,h1,h2,fun j hj=>cell_later hb (h3 j hj)⟩
theorem v7z.other{w:World}{B:Nat}{ao:Option Addr}{z:List Int}(h:v7z w B ao z){B':Nat}(hB:B'<B)(i:Nat)(x:Value):v7z (w.setCell ⟨B',i,none⟩ x) B ao z:=fun h0=>by
 obtain ⟨g,h1,h2,h3⟩:=h h0
 refine ⟨g,h1,h2,fun j hj=> ?_⟩
 rw[World.cell?_setCell_other _ _ _ _ (fun h=>by injection h;omega)]
 exact h3 j hj
theorem zdDz{w:World}{B:Nat}{e:TypeId}{v:Value}{n:Nat}{z:List Int}(h:w.ownsRow B e 1 v n (zkz z))(hz:z.length=n): ∃ao cap,v=.slice ao n cap∧v7z w B ao z:=by
 rcases zpz h with ⟨h0,_,ao,cap,rfl⟩|⟨h0,g,cap,rfl⟩
 ·exact ⟨ao,cap,by rw[h0],fun h1=>by omega⟩
 exact ⟨_,cap,rfl,fun _=>⟨g,rfl,(h.lt g rfl).1,fun j hj=>zawz h j (by omega)⟩⟩
theorem zi1z(s:ByteArray)(w:World)(hs:s.size≤1048576):
  Calls Tryz.prog 114 #[.string s] w fun e w'=>e=.returned (vtz (yEz s.data.toList))∧Below w.heap.size w w':=by
 have CD:Hid (∀W,CB 167 #[.string s] W (.int .i64 (dblZ (x7z s.data.toList)))):=fun W=>zlQz s W hs
 have AR:Hid (yIz ((w.alloc (.cells #[.int .i64 0,.int .i64 0,.int .i64 0,.int .i64 0,.int .i64 0,.int .i64 0,.int .i64 0,.int .i64 0] 24)).alloc (.cells #[.int .i64 0,.int .i64 0,.int .i64 0,.int .i64 0,.int .i64 0,.int .i64 0,.int .i64 0,.int .i64 0] 24)) w.heap.size [0,0,0,0,0,0,0,0]):=(zcfz w).later ((Below.refl _ _).alloc (Nat.le_refl _) _)
 have AO:Hid (yIz ((w.alloc (.cells #[.int .i64 0,.int .i64 0,.int .i64 0,.int .i64 0,.int .i64 0,.int .i64 0,.int .i64 0,.int .i64 0] 24)).alloc (.cells #[.int .i64 0,.int .i64 0,.int .i64 0,.int .i64 0,.int .i64 0,.int .i64 0,.int .i64 0,.int .i64 0] 24)) (w.heap.size+1) [0,0,0,0,0,0,0,0]):=by
  have h:=zcfz (w.alloc (.cells #[.int .i64 0,.int .i64 0,.int .i64 0,.int .i64 0,.int .i64 0,.int .i64 0,.int .i64 0,.int .i64 0] 24))
  rw[show (w.alloc (.cells #[.int .i64 0,.int .i64 0,.int .i64 0,.int .i64 0,.int .i64 0,.int .i64 0,.int .i64 0,.int .i64 0] 24)).heap.size=w.heap.size+1 by simp]at h
  exact h
 have B0:Hid (Below w.heap.size w ((w.alloc (.cells #[.int .i64 0,.int .i64 0,.int .i64 0,.int .i64 0,.int .i64 0,.int .i64 0,.int .i64 0,.int .i64 0] 24)).alloc (.cells #[.int .i64 0,.int .i64 0,.int .i64 0,.int .i64 0,.int .i64 0,.int .i64 0,.int .i64 0,.int .i64 0] 24))):=((Below.refl _ w).alloc (Nat.le_refl _) _).alloc (by simp) _
 have Z0:Hid (((w.alloc (.cells #[.int .i64 0,.int .i64 0,.int .i64 0,.int .i64 0,.int .i64 0,.int .i64 0,.int .i64 0,.int .i64 0] 24)).alloc (.cells #[.int .i64 0,.int .i64 0,.int .i64 0,.int .i64 0,.int .i64 0,.int .i64 0,.int .i64 0,.int .i64 0] 24)).heap.size=w.heap.size+2):=by show _=_;simp
 cases hd:x7z s.data.toList with
 |none=>
  rw[hd]at CD
  have CG:Hid (∀W,Calls Tryz.prog 168 #[.string s,.bool true] W fun e w'=>ziZz W w' (yhz true s.data.toList) e∧Below W.heap.size W w'):=fun W=>zcRz s true W hs
  have HP:Hid (yEz s.data.toList=match yhz true s.data.toList with
   |none=>none
   |some g=>if g.length=8 then some g else none):=zoqz hd
  generalize yhz true s.data.toList=r at CG HP
  clear hd
  simp only[dblZ]at CD
  go_enter Tryz.func114,Tryz.ntmps114
  go_wp2_with fail
  refine (CD.out _).mono ?_
  rintro e w1 ⟨rfl,b1⟩
  go_wp2_with fail
  refine (CG.out _).mono ?_
  rintro e w2 ⟨⟨v,l,rfl,ol,hll,hrl⟩,b2⟩
  have b12:=b1.trans (b2.mono b1.size)
  have RA:=AR.out.later b12
  have OA:=AO.out.later b12
  have B2:=B0.out.trans (b12.mono B0.out.size)
  have HRL:Hid (∀gs,r=some gs→l=gs):=hrl
  have z1:w.heap.size+2≤w1.heap.size:=by have:=Z0.out;have:=b1.size;omega
  clear b12 b2 b1 hrl
  by_cases h8:l.length=8
  ·rcases zpz ol with ⟨h,_⟩|⟨_,g,cap,rfl⟩
   ·omega
   have hg:=(ol.lt g rfl).1
   have HCL:Hid (∀j,j<8→w2.cell? ⟨g,j,none⟩=some (.int .i64 ((toI l).getD j 0))):=fun j hj=>zawz ol j (by omega)
   have HTL:Hid ((toI l).length=8):=by show _=_;rw[xyz];exact h8
   have HH8:Hid (l.length=8):=h8
   rw[h8]
   have HRA:=zPz RA
   have HOA:=zPz OA
   have HB2:Hid (Below w.heap.size w w2):=B2
   clear ol h8 RA OA B2 CD CG AR AO B0 Z0 hll
   go_wp2_with fail
   go_loopw[8] (fun i wr=> ∃k:Nat,k≤8∧i=.int .i64 k∧yIz wr (w.heap.size+1) (padA (toI l) k)∧yIz wr w.heap.size [0,0,0,0,0,0,0,0]∧(∀j,j<8→wr.cell? ⟨g,j,none⟩=some (.int .i64 ((toI l).getD j 0)))∧Below w.heap.size w wr) (fun i _=>8-(intOf i).toNat)
   case atStart=>exact ⟨0,Nat.zero_le _,rfl,HOA.out,HRA.out,HCL.out,HB2.out⟩
   obtain ⟨k,hk,rfl,oa,ra,hcl,hbel⟩:=hrel
   have HOW:=zPz oa
   have HRW:=zPz ra
   have HCW:Hid (∀j,j<8→wr.cell? ⟨g,j,none⟩=some (.int .i64 ((toI l).getD j 0))):=hcl
   clear oa ra hcl HRA HOA HCL HB2
   by_cases hlt:k<8
   ·have hc:=HCW.out k hlt
    have ho:=(HOW.out.2 k hlt).1
    have hof:=(HOW.out.2 k hlt).2
    have HPS:Hid ((padA (toI l) k).set k ((toI l).getD k 0)=padA (toI l) (k+1)):=zklz (by have:=HTL.out;omega) (by have:=HTL.out;omega)
    have hki:(k:Int)<8:=by omega
    generalize (toI l).getD k 0=y at hc HPS
    generalize (padA (toI l) k).getD k 0=y0 at ho
    go_wp2_with fail
    go_roundw
    case rel=>
     refine ⟨k+1,by omega,by go_num,?_,?_,?_,?_⟩
     ·have h:=HOW.out.set k hlt y
      rw[HPS.out]at h
      exact h
     ·exact HRW.out.other (by omega) _ _
     ·intro j hj
      rw[World.cell?_setCell_other _ _ _ _ (fun h=>by injection h;omega)]
      exact HCW.out j hj
     exact hbel.setCell (p:=⟨w.heap.size+1,k,none⟩) (by simp) _
    case measure=>simp[intOf];omega
   have hki: ¬(k:Int)<8:=by omega
   obtain rfl:k=8:=by omega
   generalize hq:r.isSome=q at*
   cases q with
   |true=>
    obtain ⟨gs,hgs⟩:=Option.isSome_iff_exists.1 hq
    have hlg:=HRL.out gs hgs
    have HZ:Hid (vtz (yEz s.data.toList)=.tuple #[.agg ((toI l).map (Value.int .i64)).toArray,.bool true]):=by
     show _=_
     rw[HP.out,hgs]
     simp only
     rw[if_pos (by rw[←hlg];exact HH8.out),hlg]
     rfl
    have OA8:=HOW.out
    rw[zonz HTL.out]at OA8
    obtain ⟨x0,x1,x2,x3,x4,x5,x6,x7,hx⟩:=zgez OA8
    rw[hx]at OA8 HZ
    have HRQ:Hid (r.isSome=true):=hq
    clear hq hgs hlg hx HOW HCW
    have HOA8:=zPz OA8
    have o0:=(OA8.2 0 (by decide)).1
    have o1:=(OA8.2 1 (by decide)).1
    have o2:=(OA8.2 2 (by decide)).1
    have o3:=(OA8.2 3 (by decide)).1
    have o4:=(OA8.2 4 (by decide)).1
    have o5:=(OA8.2 5 (by decide)).1
    have o6:=(OA8.2 6 (by decide)).1
    have o7:=(OA8.2 7 (by decide)).1
    clear OA8
    simp only[List.getD_eq_getElem?_getD,List.getElem?_cons_zero,List.getElem?_cons_succ,Option.getD_some]at o0 o1 o2 o3 o4 o5 o6 o7
    have RA:=HRW.out
    have r0:=(RA.2 0 (by decide)).1
    have r1:=(RA.2 1 (by decide)).1
    have r2:=(RA.2 2 (by decide)).1
    have r3:=(RA.2 3 (by decide)).1
    have r4:=(RA.2 4 (by decide)).1
    have r5:=(RA.2 5 (by decide)).1
    have r6:=(RA.2 6 (by decide)).1
    have r7:=(RA.2 7 (by decide)).1
    have f0:=(RA.2 0 (by decide)).2
    have f1:=(RA.2 1 (by decide)).2
    have f2:=(RA.2 2 (by decide)).2
    have f3:=(RA.2 3 (by decide)).2
    have f4:=(RA.2 4 (by decide)).2
    have f5:=(RA.2 5 (by decide)).2
    have f6:=(RA.2 6 (by decide)).2
    have f7:=(RA.2 7 (by decide)).2
    have HRA:=zPz RA
    clear RA
    go_wp2_with fail
    refine bodyPost_ret (z7z rfl _ _ w.heap.size true x0 x1 x2 x3 x4 x5 x6 x7 rfl rfl (ygz HRA.out x0 x1 x2 x3 x4 x5 x6 x7)) rfl ⟨by rw[HZ.out];rfl,zTz hbel (Nat.le_refl _) x0 x1 x2 x3 x4 x5 x6 x7⟩
   |false=>
    have HZ:Hid (vtz (yEz s.data.toList)=vtz none):=by
     show _=_
     rw[HP.out]
     cases hr:r with
     |none=>rfl
     |some gs=>rw[hr]at hq;cases hq
    clear hq
    have RA:=HRW.out
    have r0:=(RA.2 0 (by decide)).1
    have r1:=(RA.2 1 (by decide)).1
    have r2:=(RA.2 2 (by decide)).1
    have r3:=(RA.2 3 (by decide)).1
    have r4:=(RA.2 4 (by decide)).1
    have r5:=(RA.2 5 (by decide)).1
    have r6:=(RA.2 6 (by decide)).1
    have r7:=(RA.2 7 (by decide)).1
    have f0:=(RA.2 0 (by decide)).2
    have f1:=(RA.2 1 (by decide)).2
    have f2:=(RA.2 2 (by decide)).2
    have f3:=(RA.2 3 (by decide)).2
    have f4:=(RA.2 4 (by decide)).2
    have f5:=(RA.2 5 (by decide)).2
    have f6:=(RA.2 6 (by decide)).2
    have f7:=(RA.2 7 (by decide)).2
    have HRA:=zPz RA
    clear RA
    go_wp2_with fail
    refine bodyPost_ret (z7z rfl _ _ w.heap.size false 0 0 0 0 0 0 0 0 rfl rfl (ygz HRA.out 0 0 0 0 0 0 0 0)) rfl ⟨by rw[HZ.out];rfl,zTz hbel (Nat.le_refl _) 0 0 0 0 0 0 0 0⟩
  have HZ:Hid (vtz (yEz s.data.toList)=vtz none):=by
   show _=_
   rw[HP.out]
   cases hr:r with
   |none=>rfl
   |some gs=>
    simp only
    rw[if_neg (by rw[←HRL.out gs hr];exact h8)]
  have h8':((l.length:Int)==8)=false:=by simp;omega
  have r0:=(RA.2 0 (by decide)).1
  have r1:=(RA.2 1 (by decide)).1
  have r2:=(RA.2 2 (by decide)).1
  have r3:=(RA.2 3 (by decide)).1
  have r4:=(RA.2 4 (by decide)).1
  have r5:=(RA.2 5 (by decide)).1
  have r6:=(RA.2 6 (by decide)).1
  have r7:=(RA.2 7 (by decide)).1
  have f0:=(RA.2 0 (by decide)).2
  have f1:=(RA.2 1 (by decide)).2
  have f2:=(RA.2 2 (by decide)).2
  have f3:=(RA.2 3 (by decide)).2
  have f4:=(RA.2 4 (by decide)).2
  have f5:=(RA.2 5 (by decide)).2
  have f6:=(RA.2 6 (by decide)).2
  have f7:=(RA.2 7 (by decide)).2
  have HRA:=zPz RA
  clear RA
  rcases zpz ol with ⟨h,_,ao,cap,rfl⟩|⟨hpl,g,cap,rfl⟩
  ·generalize r.isSome=q at*
   clear ol OA h8' h8 h
   cases q with
   |true=>
    go_wp2_with fail
    refine wp_loop_rounds 1 ?_
    rw[rounds_succ]
    go_wp2_with fail
    refine bodyPost_ret (z7z rfl _ _ w.heap.size false 0 0 0 0 0 0 0 0 rfl rfl (ygz HRA.out 0 0 0 0 0 0 0 0)) rfl ⟨by rw[HZ.out];rfl,zTz B2 (Nat.le_refl _) 0 0 0 0 0 0 0 0⟩
   |false=>
    go_wp2_with fail
    refine wp_loop_rounds 1 ?_
    rw[rounds_succ]
    go_wp2_with fail
    refine bodyPost_ret (z7z rfl _ _ w.heap.size false 0 0 0 0 0 0 0 0 rfl rfl (ygz HRA.out 0 0 0 0 0 0 0 0)) rfl ⟨by rw[HZ.out];rfl,zTz B2 (Nat.le_refl _) 0 0 0 0 0 0 0 0⟩
  have hpl':0<(l.length:Int):=by omega
  generalize r.isSome=q at*
  clear ol OA h8
  cases q with
  |true=>
   go_wp2_with fail
   refine wp_loop_rounds 1 ?_
   rw[rounds_succ]
   go_wp2_with fail
   refine bodyPost_ret (z7z rfl _ _ w.heap.size false 0 0 0 0 0 0 0 0 rfl rfl (ygz HRA.out 0 0 0 0 0 0 0 0)) rfl ⟨by rw[HZ.out];rfl,zTz B2 (Nat.le_refl _) 0 0 0 0 0 0 0 0⟩
  |false=>
   go_wp2_with fail
   refine wp_loop_rounds 1 ?_
   rw[rounds_succ]
   go_wp2_with fail
   refine bodyPost_ret (z7z rfl _ _ w.heap.size false 0 0 0 0 0 0 0 0 rfl rfl (ygz HRA.out 0 0 0 0 0 0 0 0)) rfl ⟨by rw[HZ.out];rfl,zTz B2 (Nat.le_refl _) 0 0 0 0 0 0 0 0⟩
 |some k=>
  have hk2:=zqbz hd
  have hsl:s.data.toList.length=s.size:=by simp
  rw[hsl]at hk2
  have ea:(s.extract 0 k).data.toList=s.data.toList.take k:=by rw[zAz];simp
  have eb:(s.extract (k+2) s.size).data.toList=s.data.toList.drop (k+2):=by rw[zAz,ynz s s.size (Nat.le_refl _)]
  have CA:Hid (∀W,Calls Tryz.prog 168 #[.string (s.extract 0 k),.bool false] W fun e w'=>ziZz W w' (yhz false (s.data.toList.take k)) e∧Below W.heap.size W w'):=fun W=>by
   rw[←ea]
   exact zcRz _ false W (by rw[ByteArray.size_extract];omega)
  have CB:Hid (∀W,Calls Tryz.prog 168 #[.string (s.extract (k+2) s.size),.bool true] W fun e w'=>ziZz W w' (yhz true (s.data.toList.drop (k+2))) e∧Below W.heap.size W w'):=fun W=>by
   rw[←eb]
   exact zcRz _ true W (by rw[ByteArray.size_extract];omega)
  have HP:Hid (yEz s.data.toList=match yhz false (s.data.toList.take k),yhz true (s.data.toList.drop (k+2))with
   |some x,some y=>if x.length+y.length≤7 then some (x5z x y)else none
   |_,_=>none):=zorz hd
  rw[hd]at CD
  simp only[dblZ]at CD
  clear ea eb hsl hd
  generalize yhz false (s.data.toList.take k)=ra at CA HP
  generalize yhz true (s.data.toList.drop (k+2))=rb at CB HP
  have hk3:(k:Int)+2≤(s.size:Int):=by omega
  have hk4: ¬(k:Int)<0:=by omega
  go_enter Tryz.func114,Tryz.ntmps114
  go_wp2_with fail
  refine (CD.out _).mono ?_
  rintro e w1 ⟨rfl,b1⟩
  go_wp2_with fail
  refine (CA.out _).mono ?_
  rintro e w2 ⟨⟨va,la,rfl,oa,hla,hra⟩,b2⟩
  go_wp2_with fail
  refine (CB.out _).mono ?_
  rintro e w3 ⟨⟨vb,lb,rfl,ob,hlb,hrb⟩,b3⟩
  have b12:=b1.trans (b2.mono b1.size)
  have b13:=b12.trans (b3.mono b12.size)
  have AR3:=zPz (AR.out.later b13)
  have AO3:=zPz (AO.out.later b13)
  have B3:Hid (Below w.heap.size w w3):=B0.out.trans (b13.mono B0.out.size)
  have oa':=zjz oa b3
  have z1:w.heap.size+2≤w1.heap.size:=by have:=Z0.out;have:=b1.size;omega
  have z2:w.heap.size+2≤w2.heap.size:=Nat.le_trans z1 b2.size
  obtain ⟨aoa,capa,rfl,ra0⟩:=zdDz oa' (xyz la)
  obtain ⟨aob,capb,rfl,rb0⟩:=zdDz ob (xyz lb)
  have HRA0:Hid (v7z w3 (w.heap.size+2) aoa (toI la)):=fun h0=>by
   obtain ⟨g,h1,h2,h3⟩:=ra0 h0
   exact ⟨g,h1,by omega,h3⟩
  have HRB0:Hid (v7z w3 (w.heap.size+2) aob (toI lb)):=fun h0=>by
   obtain ⟨g,h1,h2,h3⟩:=rb0 h0
   exact ⟨g,h1,by omega,h3⟩
  have HLA:Hid (∀gs,ra=some gs→la=gs):=hra
  have HLB:Hid (∀gs,rb=some gs→lb=gs):=hrb
  clear ra0 rb0 oa oa' ob b1 b2 b3 b12 b13 hra hrb AR AO B0 Z0 CA CB CD z1 z2
  cases ra with
  |none=>
   have HZ:Hid (vtz (yEz s.data.toList)=vtz none):=by show _=_;rw[HP.out]
   simp only[Option.isSome_none]
   have RA:=AR3.out
   have r0:=(RA.2 0 (by decide)).1
   have r1:=(RA.2 1 (by decide)).1
   have r2:=(RA.2 2 (by decide)).1
   have r3:=(RA.2 3 (by decide)).1
   have r4:=(RA.2 4 (by decide)).1
   have r5:=(RA.2 5 (by decide)).1
   have r6:=(RA.2 6 (by decide)).1
   have r7:=(RA.2 7 (by decide)).1
   have f0:=(RA.2 0 (by decide)).2
   have f1:=(RA.2 1 (by decide)).2
   have f2:=(RA.2 2 (by decide)).2
   have f3:=(RA.2 3 (by decide)).2
   have f4:=(RA.2 4 (by decide)).2
   have f5:=(RA.2 5 (by decide)).2
   have f6:=(RA.2 6 (by decide)).2
   have f7:=(RA.2 7 (by decide)).2
   have HRA:=zPz RA
   clear RA
   go_wp2_with fail
   refine bodyPost_ret (z7z rfl _ _ w.heap.size false 0 0 0 0 0 0 0 0 rfl rfl (ygz HRA.out 0 0 0 0 0 0 0 0)) rfl ⟨by rw[HZ.out];rfl,zTz B3.out (Nat.le_refl _) 0 0 0 0 0 0 0 0⟩
  |some ga=>
   cases rb with
   |none=>
    have HZ:Hid (vtz (yEz s.data.toList)=vtz none):=by show _=_;rw[HP.out]
    simp only[Option.isSome_none,Option.isSome_some]
    have RA:=AR3.out
    have r0:=(RA.2 0 (by decide)).1
    have r1:=(RA.2 1 (by decide)).1
    have r2:=(RA.2 2 (by decide)).1
    have r3:=(RA.2 3 (by decide)).1
    have r4:=(RA.2 4 (by decide)).1
    have r5:=(RA.2 5 (by decide)).1
    have r6:=(RA.2 6 (by decide)).1
    have r7:=(RA.2 7 (by decide)).1
    have f0:=(RA.2 0 (by decide)).2
    have f1:=(RA.2 1 (by decide)).2
    have f2:=(RA.2 2 (by decide)).2
    have f3:=(RA.2 3 (by decide)).2
    have f4:=(RA.2 4 (by decide)).2
    have f5:=(RA.2 5 (by decide)).2
    have f6:=(RA.2 6 (by decide)).2
    have f7:=(RA.2 7 (by decide)).2
    have HRA:=zPz RA
    clear RA
    go_wp2_with fail
    refine bodyPost_ret (z7z rfl _ _ w.heap.size false 0 0 0 0 0 0 0 0 rfl rfl (ygz HRA.out 0 0 0 0 0 0 0 0)) rfl ⟨by rw[HZ.out];rfl,zTz B3.out (Nat.le_refl _) 0 0 0 0 0 0 0 0⟩
   |some gb=>
    obtain rfl:=HLA.out ga rfl
    obtain rfl:=HLB.out gb rfl
    simp only[Option.isSome_some]
    by_cases h7:la.length+lb.length≤7
    ·have HZ:Hid (vtz (yEz s.data.toList)=.tuple #[.agg ((toI (x5z la lb)).map (Value.int .i64)).toArray,.bool true]):=by
      show _=_
      rw[HP.out]
      simp only
      rw[if_pos h7]
      rfl
     have h7': ¬7<(la.length:Int)+(lb.length:Int):=by omega
     have HFIN:Hid (padB (padA (toI la) (toI la).length) (toI lb) (toI lb).length=toI (x5z la lb)):=by
      show _=_
      rw[zopz (by rw[xyz,xyz];exact h7),zqez]
     have HLL:Hid ((toI la).length=la.length∧(toI lb).length=lb.length):=⟨xyz la,xyz lb⟩
     have hla7:la.length≤7:=by omega
     have hlb7:lb.length≤7:=by omega
     clear hla hlb HP HLA HLB hk2 hk3 hk4 h7
     go_wp2_with fail
     go_loopw[13] (fun i wr=> ∃k:Nat,k≤la.length∧i=.int .i64 k∧yIz wr (w.heap.size+1) (padA (toI la) k)∧yIz wr w.heap.size [0,0,0,0,0,0,0,0]∧v7z wr (w.heap.size+2) aoa (toI la)∧v7z wr (w.heap.size+2) aob (toI lb)∧Below w.heap.size w wr) (fun i _=>la.length-(intOf i).toNat)
     case atStart=>exact ⟨0,Nat.zero_le _,rfl,AO3.out,AR3.out,HRA0.out,HRB0.out,B3.out⟩
     obtain ⟨i,hi,rfl,oa,ra,qa,qb,hbel⟩:=hrel
     have HOW:=zPz oa
     have HRW:=zPz ra
     have HQA:Hid (v7z wr (w.heap.size+2) aoa (toI la)):=qa
     have HQB:Hid (v7z wr (w.heap.size+2) aob (toI lb)):=qb
     clear oa ra qa qb HRA0 HRB0 AO3 AR3 B3
     by_cases hlt:i<la.length
     ·obtain ⟨g,rfl,hg1,hg2⟩:=HQA.out (by have:=HLL.out;omega)
      have hc:=hg2 i (by have:=HLL.out;omega)
      have ho:=(HOW.out.2 i (by omega)).1
      have hof:=(HOW.out.2 i (by omega)).2
      have HPS:Hid ((padA (toI la) i).set i ((toI la).getD i 0)=padA (toI la) (i+1)):=zklz (by have:=HLL.out;omega) (by have:=HLL.out;omega)
      have hki:(i:Int)<(la.length:Int):=by omega
      clear hg2
      generalize (toI la).getD i 0=y at hc HPS
      generalize (padA (toI la) i).getD i 0=y0 at ho
      have hi8:(i:Int)<8:=by omega
      go_wp2_with fail
      go_roundw
      case rel=>
       refine ⟨i+1,by omega,by go_num,?_,HRW.out.other (by omega) _ _,HQA.out.other (by omega) _ _,HQB.out.other (by omega) _ _,?_⟩
       ·have h:=HOW.out.set i (by omega) y
        rw[HPS.out]at h
        exact h
       exact hbel.setCell (p:=⟨w.heap.size+1,i,none⟩) (by simp) _
      case measure=>simp[intOf];omega
     have hki: ¬(i:Int)<(la.length:Int):=by omega
     obtain rfl:i=la.length:=by omega
     have HOW2:Hid (yIz wr (w.heap.size+1) (padB (padA (toI la) (toI la).length) (toI lb) 0)):=by
      have h:=HOW.out
      rw[←HLL.out.1]at h
      rw[zooz]
      exact h
     have HB4:Hid (Below w.heap.size w wr):=hbel
     have HPL:Hid ((padA (toI la) (toI la).length).length=8):=zqfz (Nat.le_refl _) (by have:=HLL.out;omega)
     clear HOW hlt hi hbel HQA
     generalize padA (toI la) (toI la).length=zz at HOW2 HPL HFIN
     go_wp2_with fail
     clear hki
     go_loopw[14] (fun i wr'=> ∃k:Nat,k≤lb.length∧i=.int .i64 k∧yIz wr' (w.heap.size+1) (padB zz (toI lb) k)∧yIz wr' w.heap.size [0,0,0,0,0,0,0,0]∧v7z wr' (w.heap.size+2) aob (toI lb)∧Below w.heap.size w wr') (fun i _=>lb.length-(intOf i).toNat)
     case atStart=>exact ⟨0,Nat.zero_le _,rfl,HOW2.out,HRW.out,HQB.out,HB4.out⟩
     obtain ⟨i,hi,rfl,oa,ra,qb,hbel⟩:=hrel
     have HOW:=zPz oa
     have HRW:=zPz ra
     have HQB:Hid (v7z wr (w.heap.size+2) aob (toI lb)):=qb
     clear oa ra qb HOW2 HB4
     by_cases hlt:i<lb.length
     ·obtain ⟨g,rfl,hg1,hg2⟩:=HQB.out (by have:=HLL.out;omega)
      have hc:=hg2 i (by have:=HLL.out;omega)
      obtain ⟨m,hm⟩: ∃m:Nat,8-lb.length+i=m:=⟨_,rfl⟩
      have hm8:m<8:=by omega
      have hmi:(8:Int)-(lb.length:Int)+(i:Int)=(m:Int):=by omega
      have ho:=(HOW.out.2 m hm8).1
      have hof:=(HOW.out.2 m hm8).2
      have HPS:Hid ((padB zz (toI lb) i).set m ((toI lb).getD i 0)=padB zz (toI lb) (i+1)):=by
       show _=_
       have h:=zqdz (z:=zz) (b:=toI lb) (i:=i) HPL.out (by have:=HLL.out;omega) (by have:=HLL.out;omega)
       rw[HLL.out.2,hm]at h
       exact h
      have HM:Hid (8-lb.length+i=m):=hm
      have hki:(i:Int)<(lb.length:Int):=by omega
      clear hg2 hm
      generalize (toI lb).getD i 0=y at hc HPS
      generalize (padB zz (toI lb) i).getD m 0=y0 at ho
      have hm8i:(m:Int)<8:=by omega
      go_wp2_with fail
      go_roundw
      case rel=>
       refine ⟨i+1,by omega,by go_num,?_,HRW.out.other (by omega) _ _,HQB.out.other (by omega) _ _,?_⟩
       ·have h:=HOW.out.set m hm8 y
        rw[HPS.out]at h
        exact h
       exact hbel.setCell (p:=⟨w.heap.size+1,m,none⟩) (by simp) _
      case measure=>simp[intOf];omega
     have hki: ¬(i:Int)<(lb.length:Int):=by omega
     obtain rfl:i=lb.length:=by omega
     have OA8:yIz wr (w.heap.size+1) (toI (x5z la lb)):=by
      have h:=HOW.out
      rw[←HLL.out.2,HFIN.out]at h
      exact h
     obtain ⟨x0,x1,x2,x3,x4,x5,x6,x7,hx⟩:=zgez OA8
     rw[hx]at OA8 HZ
     clear HOW HFIN hx
     have o0:=(OA8.2 0 (by decide)).1
     have o1:=(OA8.2 1 (by decide)).1
     have o2:=(OA8.2 2 (by decide)).1
     have o3:=(OA8.2 3 (by decide)).1
     have o4:=(OA8.2 4 (by decide)).1
     have o5:=(OA8.2 5 (by decide)).1
     have o6:=(OA8.2 6 (by decide)).1
     have o7:=(OA8.2 7 (by decide)).1
     clear OA8
     simp only[List.getD_eq_getElem?_getD,List.getElem?_cons_zero,List.getElem?_cons_succ,Option.getD_some]at o0 o1 o2 o3 o4 o5 o6 o7
     have RA:=HRW.out
     have r0:=(RA.2 0 (by decide)).1
     have r1:=(RA.2 1 (by decide)).1
     have r2:=(RA.2 2 (by decide)).1
     have r3:=(RA.2 3 (by decide)).1
     have r4:=(RA.2 4 (by decide)).1
     have r5:=(RA.2 5 (by decide)).1
     have r6:=(RA.2 6 (by decide)).1
     have r7:=(RA.2 7 (by decide)).1
     have f0:=(RA.2 0 (by decide)).2
     have f1:=(RA.2 1 (by decide)).2
     have f2:=(RA.2 2 (by decide)).2
     have f3:=(RA.2 3 (by decide)).2
     have f4:=(RA.2 4 (by decide)).2
     have f5:=(RA.2 5 (by decide)).2
     have f6:=(RA.2 6 (by decide)).2
     have f7:=(RA.2 7 (by decide)).2
     have HRA:=zPz RA
     clear RA
     go_wp2_with fail
     refine bodyPost_ret (z7z rfl _ _ w.heap.size true x0 x1 x2 x3 x4 x5 x6 x7 rfl rfl (ygz HRA.out x0 x1 x2 x3 x4 x5 x6 x7)) rfl ⟨by rw[HZ.out];rfl,zTz hbel (Nat.le_refl _) x0 x1 x2 x3 x4 x5 x6 x7⟩
    have HZ:Hid (vtz (yEz s.data.toList)=vtz none):=by
     show _=_
     rw[HP.out]
     simp only
     rw[if_neg h7]
    have h7':7<(la.length:Int)+(lb.length:Int):=by omega
    clear h7
    have RA:=AR3.out
    have r0:=(RA.2 0 (by decide)).1
    have r1:=(RA.2 1 (by decide)).1
    have r2:=(RA.2 2 (by decide)).1
    have r3:=(RA.2 3 (by decide)).1
    have r4:=(RA.2 4 (by decide)).1
    have r5:=(RA.2 5 (by decide)).1
    have r6:=(RA.2 6 (by decide)).1
    have r7:=(RA.2 7 (by decide)).1
    have f0:=(RA.2 0 (by decide)).2
    have f1:=(RA.2 1 (by decide)).2
    have f2:=(RA.2 2 (by decide)).2
    have f3:=(RA.2 3 (by decide)).2
    have f4:=(RA.2 4 (by decide)).2
    have f5:=(RA.2 5 (by decide)).2
    have f6:=(RA.2 6 (by decide)).2
    have f7:=(RA.2 7 (by decide)).2
    have HRA:=zPz RA
    clear RA
    go_wp2_with fail
    refine bodyPost_ret (z7z rfl _ _ w.heap.size false 0 0 0 0 0 0 0 0 rfl rfl (ygz HRA.out 0 0 0 0 0 0 0 0)) rfl ⟨by rw[HZ.out];rfl,zTz B3.out (Nat.le_refl _) 0 0 0 0 0 0 0 0⟩
theorem zhRz: ∀l:List UInt8,Lib.index l [58,58]=dblZ (x7z l)
 |[]=>rfl
 |c::r=>by
  rw[Lib.index,x7z,zhRz r]
  by_cases h:c=58∧r.head? =some 58
  ·rw[if_pos h,if_pos]
   ·rfl
   obtain ⟨rfl,h2⟩:=h
   cases r with
   |nil=>simp at h2
   |cons d q=>simp at h2;subst h2;simp[List.isPrefixOf]
  rw[if_neg h,if_neg]
  ·cases hr:x7z r with
   |none=>simp[dblZ]
   |some k=>
    have:((k:Int)== -1)=false:=by simp
    simp[dblZ,this]
  intro h2
  apply h
  cases r with
  |nil=>simp[List.isPrefixOf]at h2
  |cons d q=>
   simp[List.isPrefixOf]at h2
   exact ⟨h2.1.symm,by rw[h2.2];rfl⟩
theorem zsiz(l:List UInt8):Lib.cut l [58,58]=match z5z l with
  |none=>(l,[],false)
  |some (a,b)=>(a,b,true):=by
 unfold Lib.cut
 rw[zhRz,zfqz]
 cases hd:x7z l with
 |none=>rfl
 |some k=>
  have h:(0:Int)≤dblZ (some k):=by simp[dblZ]
  rw[if_pos h]
  simp[dblZ]
theorem zkmz(many:Int)(cut:Bool)(w:World):
  Calls Tryz.prog 279 #[.int .i64 many,.bool cut] w fun e w'=>e=.returned (.bool (if cut then decide (many<8)else (many==8)))∧w=w':=by
 cases cut with
 |true=>
  go_enter Tryz.func279,Tryz.ntmps279
  go_wp2
  go_ret
  exact ⟨rfl,rfl⟩
 |false=>
  go_enter Tryz.func279,Tryz.ntmps279
  go_wp2
  go_ret
  exact ⟨rfl,rfl⟩
def zi2z(w w':World)(r:Option (List Nat))(e:Ending):Prop:=match r with
 |none=>e=.returned (.tuple #[.slice none 0 0,.bool false])
 |some gs=> ∃v:Value,e=.returned (.tuple #[v,.bool true])∧w'.ownsRow w.heap.size 3 1 v gs.length (zkz (toI gs))
theorem zbNz(s:ByteArray)(w:World)(hs:s.size≤1048576):
  Calls Tryz.prog 278 #[.string s] w fun e w'=>zi2z w w' (yhz false s.data.toList) e∧Below w.heap.size w w':=by
 have HO:(w.alloc (.cells #[] 3)).ownsRow w.heap.size 3 1 (.slice (some ⟨w.heap.size,0,none⟩) 0 0) 0 []:=World.ownsRow_lit w #[] 0 (Nat.le_refl _) (by decide) rfl
 by_cases h0:s.size=0
 ·have hem:=zsz h0
  have HZ:Hid (yhz false s.data.toList=some []):=zkkz h0
  clear h0
  go_enter Tryz.func278,Tryz.ntmps278
  go_wp2_with fail
  go_ret2
  rw[HZ.out]
  exact ⟨⟨_,rfl,HO⟩,(Below.refl _ _).alloc (Nat.le_refl _) _⟩
 have hp:0<s.size:=by omega
 have hem:=zvz hp
 have HF:Hid (yhz false s.data.toList=grp false ((zaz s 58).map toL)):=zeQz hp
 have hpos:0<(zaz s 58).length:=by simp[zaz]
 have hlen:(zaz s 58).length≤1048577:=by
  have:=(yAz s 58 s.size).2
  simp[zaz];omega
 have HSZ:Hid (∀x∈zaz s 58,x.size≤1048576):=zbMz s hs
 have CF:Hid (∀W,Calls Tryz.prog 135 #[.string s,.int .u8 58] W fun e w'=> ∃v,e=.returned v∧w'.ownsRow W.heap.size 9 1 v (zaz s 58).length (zrz (zaz s 58))∧Below W.heap.size W w'):=fun W=>zcJz s 58 W hs
 generalize zaz s 58=fs at HF hpos hlen HSZ CF
 clear h0
 go_enter Tryz.func278,Tryz.ntmps278
 go_wp2_with fail
 refine (CF.out _).mono ?_
 rintro e wa ⟨va,rfl,oa,ba⟩
 have OA:=zjz HO ba
 rcases zpz oa with ⟨h,_⟩|⟨_,g,cap,rfl⟩
 ·omega
 have hg:=(oa.lt g rfl).1
 have hg2:=(oa.lt g rfl).2
 have B0:Below w.heap.size w wa:=((Below.refl _ w).alloc (Nat.le_refl _) _).trans (ba.mono (by simp))
 have HC0:Hid (∀j,j<fs.length→wa.cell? ⟨g,j,none⟩=some (.string (fs.getD j ByteArray.empty))):=fun j hj=>z0z oa j hj
 clear ba HO oa CF
 go_wp2_with fail
 go_loopw[4,16] (fun v i wr=> ∃(k:Nat) (acc:List Nat),k≤fs.length∧i=.int .i64 k∧acc.length≤k∧grp false (fs.map toL)=(grp false ((fs.drop k).map toL)).map (acc++ ·)∧wr.ownsRow w.heap.size 3 1 v acc.length (zkz (toI acc))∧(∀j,j<fs.length→wr.cell? ⟨g,j,none⟩=some (.string (fs.getD j ByteArray.empty)))∧some g≠v.ownBlock∧g<wr.heap.size∧Below w.heap.size w wr)
  (fun _ i _=>fs.length-(intOf i).toNat)
 case atStart=>
  refine ⟨0,[],Nat.zero_le _,rfl,by simp,by simp,OA,HC0.out,?_,hg2,B0⟩
  simp[Value.ownBlock]
  simp at hg
  omega
 obtain ⟨k,acc,hk,rfl,hal,hr,ow,hcell,hne,hgl,hbel⟩:=hrel
 have HR:Hid (grp false (fs.map toL)=(grp false ((fs.drop k).map toL)).map (acc++ ·)):=hr
 have HC2:Hid (∀j,j<fs.length→wr.cell? ⟨g,j,none⟩=some (.string (fs.getD j ByteArray.empty))):=hcell
 have hsz:=hbel.size
 clear hr OA B0 HC0
 by_cases hlt:k<fs.length
 ·have hc:=hcell k hlt
  have HS:Hid (_=_):=zkjz false fs k hlt
  have CN:Hid (∀W,CS 211 #[.string (fs.getD k ByteArray.empty),.int .i64 16,.int .i64 4] W (y1z (z4z 16 4 (toL (fs.getD k ByteArray.empty))))):=fun W=>jIz _ 16 4 W (by omega) (by omega)
  clear hcell
  generalize fs.getD k ByteArray.empty=y at hc HS CN
  have HN0:Hid ((if false=true∧k+1=fs.length then p4 (toL y)else none)=none):=by
   show _=_
   rw[if_neg (by simp)]
  have hki:(k:Int)<(fs.length:Int):=by omega
  cases hv:z4z 16 4 (toL y)with
  |none=>
   have hg16:g16 (toL y)=none:=by
    unfold g16
    split
    ·rfl
    exact hv
   rw[hv]at CN
   have HZ:Hid (yhz false s.data.toList=none):=by
    show _=_
    rw[HF.out,HR.out,HS.out,HN0.out,hg16]
    rfl
   clear hv hg16
   go_wp2_with fail
   refine (CN.out _).mono ?_
   rintro e w' ⟨rfl,rfl⟩
   simp only[y1z]
   go_wp2_with fail
   go_ret2
   rw[HZ.out]
   exact ⟨rfl,hbel⟩
  |some v=>
   have hvl:=zgdz hv
   rw[hv]at CN
   obtain ⟨x,hx⟩: ∃x:Int,(v:Int)=x:=⟨_,rfl⟩
   have HX:Hid ((v:Int)=x):=hx
   by_cases he:y.size=0
   ·have HZ:Hid (yhz false s.data.toList=none):=by
     show _=_
     rw[HF.out,HR.out,HS.out,HN0.out,zfrz he]
     rfl
    have hem2:=zsz he
    clear he hv hvl hx
    go_wp2_with fail
    refine (CN.out _).mono ?_
    rintro e w' ⟨rfl,rfl⟩
    simp only[y1z]
    rw[HX.out]
    go_wp2_with fail
    go_ret2
    rw[HZ.out]
    exact ⟨rfl,hbel⟩
   have hpy:0<y.size:=by omega
   have hem2:=zvz hpy
   have HG:Hid (grp false (fs.map toL)=(grp false ((fs.drop (k+1)).map toL)).map ((acc++[v])++ ·)):=by
    show _=_
    rw[HR.out,HS.out,HN0.out,zfsz hpy,hv]
    simp only
    cases grp false ((fs.drop (k+1)).map toL)<;>simp
   clear he hv hvl hx
   go_wp2_with fail
   refine (CN.out _).mono ?_
   rintro e w' ⟨rfl,rfl⟩
   simp only[y1z]
   rw[HX.out]
   go_wp2_with (at_builtin;refine yTz _ rfl _ _ 95 rfl w.heap.size 3 (.int .i64 0) 8 Tryz.underlying95 Tryz.infoI5 rfl _ _ _ rfl ow #[.int .i64 x] 1 rfl rfl (by intro u hu;simp at hu;subst hu;rfl) (by omega) (by unfold maxLen;omega) hsz ?_)
   intro v' w1 ow' gr hat
   have R:w1.ownsRow w.heap.size 3 1 v' (acc++[v]).length (zkz (toI (acc++[v]))):=by
    rw[zdCz,HX.out,vZz,List.length_append]
    exact ow'
   have B3:Below w.heap.size w w1:=hbel.grown gr hsz (fun k hk=>(ow.lt k hk).1)
   have hgw:w1.heap[g]? =wr.heap[g]? :=gr.block g hgl hne
   have C1:Hid (∀j,j<fs.length→w1.cell? ⟨g,j,none⟩=some (.string (fs.getD j ByteArray.empty))):=fun j hj=>
    (World.cell?_of_block (w:=wr) (a:=⟨g,j,none⟩) hgw).trans (HC2.out j hj)
   have hne1:some g≠v'.ownBlock:=by
    rcases hat with h|h
    ·rw[h];exact hne
    rw[h];intro h2;cases h2;omega
   have hgl1:g<w1.heap.size:=Nat.lt_of_lt_of_le hgl gr.size
   clear ow ow' gr hat hbel hgw HC2 hc
   go_wp2_with fail
   go_roundw
   case rel=>exact ⟨k+1,acc++[v],by omega,by go_num,by rw[List.length_append];simp;omega,HG.out,R,C1.out,hne1,hgl1,B3⟩
   case measure=>simp[intOf];omega
 have HZ:Hid (yhz false s.data.toList=some acc):=by
  show _=_
  rw[HF.out,HR.out,znfz false fs k hlt]
  simp
 have hki: ¬(k:Int)<(fs.length:Int):=by omega
 clear hcell HC2
 go_wp2_with fail
 go_ret2
 rw[HZ.out]
 exact ⟨⟨_,rfl,ow⟩,hbel⟩
theorem zqgz{a b:Nat}(ha:a<256)(hb:b<256):(zCz (a*256+b)).length≤(zGz a).length+1+(zGz b).length:=by
 have h1:1≤(zGz b).length:=by unfold zGz;split;simp;split<;>simp
 by_cases c1:a<10
 ·have h2:1≤(zGz a).length:=by unfold zGz;rw[if_pos c1];simp
  have h3:(zCz (a*256+b)).length≤3:=by
   unfold zCz
   split
   ·simp
   split
   ·simp
   rw[if_pos (by omega)];simp
  omega
 have h2:2≤(zGz a).length:=by unfold zGz;rw[if_neg c1];split<;>simp
 have h3:=(v2z (a*256+b)).2
 omega
theorem zqhz{n:Nat}(h:n<4294967296):(jNz n).length≤(xJz n).length:=by
 have e1:n/65536=(n/16777216)*256+n/65536%256:=by omega
 have e2:n%65536=(n/256%256)*256+n%256:=by omega
 have h1:=zqgz (a:=n/16777216) (b:=n/65536%256) (by omega) (by omega)
 have h2:=zqgz (a:=n/256%256) (b:=n%256) (by omega) (by omega)
 rw[←e1]at h1
 rw[←e2]at h2
 unfold jNz xJz
 simp only[jl,List.length_append,List.length_cons]
 omega
theorem zlRz(s:ByteArray): ∃b:Nat,b≤s.size∧Lib.lastIndexByte s 58+1=(b:Int)∧zbEz (s.data.toList.take b)∧ ∀c∈s.data.toList.drop b,c≠58:=by
 rcases Lib.lastIndexByte_spec s 58 with ⟨h1,h2⟩|⟨i,h0,h1,h2,h3⟩
 ·refine ⟨0,Nat.zero_le _,by rw[h1];rfl,.inl (by simp),?_⟩
  intro c hc e
  rw[List.drop_zero]at hc
  obtain ⟨j,hj,rfl⟩:=List.getElem_of_mem hc
  have hj':j<s.size:=by simpa using hj
  apply h2 j hj'
  rw[getElem!_pos s.data j hj']
  have:s.data[j]=58:=by simpa using e
  rw[this];rfl
 refine ⟨i+1,h0,by rw[h1];simp,.inr ⟨s.data.toList.take i,?_⟩,?_⟩
 ·rw[xez s i h0]
  congr 2
  apply jiz
  rw[getElem!_pos s.data i h0]at h2
  show s.data[i].toNat=58
  omega
 intro c hc e
 obtain ⟨j,hj,rfl⟩:=List.getElem_of_mem hc
 rw[List.length_drop]at hj
 have hj':i+1+j<s.size:=by simp at hj;omega
 apply h3 (i+1+j) (by omega) hj'
 rw[getElem!_pos s.data _ hj']
 have:s.data[i+1+j]=58:=by simpa using e
 rw[this];rfl
theorem zosz(s:ByteArray)(b:Nat)(hb:b≤s.size)(W:World):(Instr.slice 9 (.string s) none (some (.int .i64 (b:Int))) none).run Tryz.prog W=.ok (.string (s.extract 0 b)) W:=by
 simp[Instr.slice,run_underlying Tryz.underlying9,Instr.sliceBounds,run_sliceBound,go_sem,hb]
theorem zsjz(s:ByteArray)(w:World)(hs:s.size≤1048576)(hT:Pow w)(hD:zJz w):
  Calls Tryz.prog 277 #[.string s] w fun e w'=> ∃T:ByteArray,e=.returned (.string T)∧zbDz T.data.toList=yEz s.data.toList∧T.size≤1048576∧Below w.heap.size w w':=by
 obtain ⟨b,hb,hlb,hpre,htl⟩:=zlRz s
 have CL:Hid (∀W,CS 210 #[.string s,.int .u8 58] W (.int .i64 (Lib.lastIndexByte s 58))):=fun W=>(Tryz.strings_LastIndexByte s 58 (by omega) W).mono fun e w' h=>⟨h.1,h.2.symm⟩
 have et:(s.extract b s.size).data.toList=s.data.toList.drop b:=by rw[zAz,ynz s s.size (Nat.le_refl _)]
 have ep:(s.extract 0 b).data.toList=s.data.toList.take b:=by rw[zAz];simp
 have CP:Hid (∀W,Pow W→CB 286 #[.string (s.extract b s.size)] W (y1z (p4 (s.data.toList.drop b)))):=fun W h=>by
  rw[←et]
  exact ziYz _ W (by rw[ByteArray.size_extract];omega) h
 have HT:Hid (Pow w):=hT
 have HD:Hid (zJz w):=hD
 have hcat:s.data.toList.take b++s.data.toList.drop b=s.data.toList:=List.take_append_drop b _
 clear hT hD
 have hbi:(b:Int)≤(s.size:Int):=by omega
 have hl0:Lib.lastIndexByte s 58=(b:Int)-1:=by omega
 rw[hl0]at CL
 clear hlb hl0
 cases hp:p4 (s.data.toList.drop b)with
 |none=>
  have HZ:Hid (zbDz s.data.toList=yEz s.data.toList):=by
   have h:=zlGz hpre htl hp
   rw[hcat]at h
   exact h
  rw[hp]at CP
  clear hp hpre htl et ep hcat
  go_enter Tryz.func277,Tryz.ntmps277
  go_wp2_with fail
  refine (CL.out _).mono ?_
  rintro e w' ⟨rfl,rfl⟩
  go_wp2_with fail
  refine (CP.out _ HT.out).mono ?_
  rintro e w1 ⟨rfl,b1⟩
  simp only[y1z]
  go_wp2_with fail
  go_ret
  exact ⟨s,rfl,HZ.out,hs,b1⟩
 |some n=>
  have hn4:=(j4z hp).1
  have HTL:Hid (s.data.toList.drop b=xJz n):=(j4z hp).2
  have HZ:Hid (zbDz (s.data.toList.take b++jNz n)=yEz s.data.toList):=by
   have h:=zn1z hpre htl hp
   rw[hcat]at h
   exact h
  rw[hp]at CP
  clear hp hpre htl et hcat
  obtain ⟨x,hx⟩: ∃x:Int,(n:Int)=x:=⟨_,rfl⟩
  have HX:Hid ((n:Int)=x):=hx
  have hx0:0≤x:=by omega
  have hx1:x<4294967296:=by omega
  have b2:bits .and .i64 x 65535=x%65536:=jpz 16 65535 rfl _ (by omega) (by omega) (by decide)
  clear hx
  go_enter Tryz.func277,Tryz.ntmps277
  go_wp2_with fail
  refine (CL.out _).mono ?_
  rintro e w' ⟨rfl,rfl⟩
  go_wp2_with fail
  refine (CP.out _ HT.out).mono ?_
  rintro e w1 ⟨rfl,b1⟩
  simp only[y1z]
  rw[HX.out]
  have CG:Hid (Calls Tryz.prog 195 #[.slice (some ⟨w1.heap.size,0,none⟩) 2 2] ((w1.alloc (.cells #[.int .i64 (x/65536),.int .i64 (x%65536)] 3)).drew) fun e w'=>e=.returned (.string ⟨(jNz n).toArray⟩)∧Below w1.heap.size w1 w'):=by
   have hB:Below w1.heap.size w1 (w1.alloc (.cells #[.int .i64 (x/65536),.int .i64 (x%65536)] 3)).drew:=((Below.refl _ w1).alloc (Nat.le_refl _) _).drew
   have h:=xNz w1.heap.size 0 2 [n/65536,n%65536] ((w1.alloc (.cells #[.int .i64 (x/65536),.int .i64 (x%65536)] 3)).drew) (by simp) (by
    intro y hy
    simp at hy
    omega) (by
    intro j hj
    have hj2:j=0∨j=1:=by simp at hj;omega
    show (w1.alloc (.cells #[.int .i64 (x/65536),.int .i64 (x%65536)] 3)).cell? _=_
    rw[World.cell?_alloc_at _ _ _ _ rfl]
    have:=HX.out
    rcases hj2 with rfl|rfl
    ·simp
     omega
    simp
    omega) (zxz (zxz HD.out b1) hB)
   refine h.mono fun e w' q=>⟨?_,hB.trans (q.2.mono hB.size)⟩
   rw[q.1]
   rfl
  have HB1:Hid (Below w.heap.size w w1):=b1
  have hs2:(jNz n).length≤100:=by
   have h1:=(v2z (n/65536)).2
   have h2:=(v2z (n%65536)).2
   simp[jNz,jl]
   omega
  have HSZ:Hid ((s.extract 0 b).size+(⟨(jNz n).toArray⟩:ByteArray).size≤1048576):=by
   show _≤_
   have h1:=zqhz hn4
   have h2:=congrArg List.length HTL.out
   rw[List.length_drop]at h2
   have h3:s.data.toList.length=s.size:=by simp
   rw[ByteArray.size_extract,show (⟨(jNz n).toArray⟩:ByteArray).size=(jNz n).length from List.size_toArray]
   omega
  have HEQ:Hid ((s.extract 0 b++⟨(jNz n).toArray⟩).data.toList=s.data.toList.take b++jNz n):=by
   show _=_
   rw[ByteArray.data_append,Array.toList_append,ep]
  have z2:(⟨(jNz n).toArray⟩:ByteArray).size≤100:=by rw[show (⟨(jNz n).toArray⟩:ByteArray).size=(jNz n).length from List.size_toArray];exact hs2
  generalize (⟨(jNz n).toArray⟩:ByteArray)=T2 at CG HSZ HEQ z2
  have z1:(s.extract 0 b).size≤1048576:=by rw[ByteArray.size_extract];omega
  have hsx: ∀W:World,(Instr.slice 9 (.string s) none (some (.int .i64 (b:Int))) none).run Tryz.prog W=.ok (.string (s.extract 0 b)) W:=fun W=>zosz s b hb W
  generalize s.extract 0 b=T1 at HSZ HEQ z1 hsx
  clear b1 hs2 HTL hn4 ep
  go_wp2_with fail
  go_region_with (go_at_call 195;with_reducible refine CG.out.mono ?_;rintro e w2 ⟨rfl,k2⟩)
  all_goals
   go_wp2_with fail
   go_ret
   refine ⟨T1++T2,rfl,by rw[HEQ.out];exact HZ.out,?_,HB1.out.trans (k2.mono HB1.out.size)⟩
   rw[ByteArray.size_append]
   exact HSZ.out
end Go.Proofs.YtgcbaphbiaimoaaGreatDoor
