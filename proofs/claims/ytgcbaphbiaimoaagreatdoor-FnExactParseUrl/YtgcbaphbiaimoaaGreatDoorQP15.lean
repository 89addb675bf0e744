/- Draw5Walk, AddrBack, HostBack, DotPlain, UrlPath, DportWalk. -/
import Derived.Test.YtgcbaphbiaimoaaGreatDoorQP14
set_option maxHeartbeats 4000000
set_option maxRecDepth 100000
namespace Go.Proofs.YtgcbaphbiaimoaaGreatDoor
open Go.RowKit
theorem zqiz(D B:Nat)(ao:Option Addr)(len cap:Nat)(w:World)(hcur:Cur D B ao len cap w):
  Calls Tryz.prog 178 #[.pointer (some ⟨B,0,none⟩)] w fun e w'=> ∃z:Int,0≤z∧z<4294967296∧e=.returned (.int .i64 z)∧Cur D B ao len cap w'∧w.grownBy w' (some B):=by
 have HC:Hid (Cur D B ao len cap w):=hcur
 clear hcur
 go_enter Tryz.func178,Tryz.ntmps178
 go_wp2_with fail
 refine (vuz 100000 _ _ _ _ _ _ (by omega) (by omega) HC.out).mono ?_
 rintro e wa ⟨y,hy0,hy1,rfl,ca,ga⟩
 have CA:Hid (Cur D B ao len cap wa):=ca
 have hB:=ca.lt
 clear ca
 go_wp2_with fail
 refine (ztcz 8 wa.heap.size 8 0 [0,1,2130706433,4294967295,256,65536,3232235777,y] _ _ _ _ _ _ (by omega) (by omega) (CA.out.alloc _) (World.ownsRow_lit wa _ 8 (Nat.zero_le _) (by decide) rfl) (by omega)).mono ?_
 rintro e wc ⟨z,hz,rfl,cc,gc⟩
 have CC:Hid (Cur D B ao len cap wc):=cc
 have G:=ztz (xkz ga _) gc
 have hz2:0≤z∧z<4294967296:=by
  simp only[List.mem_cons,List.not_mem_nil,or_false]at hz
  omega
 clear cc gc ga hz
 obtain ⟨hz0,hz1⟩:=hz2
 go_wp2_with fail
 go_ret
 exact ⟨z,hz0,hz1,rfl,CC.out,G⟩
def zhTz(z:List Int):Prop:=z.length=8∧ ∀x∈z,0≤x∧x≤65535
theorem yIz.kept{w w':World}{B' B:Nat}{z:List Int}(h:yIz w B' z)(g:w.grownBy w' (some B))(hne:B'≠B):yIz w' B' z:=by
 have hlt:B'<w.heap.size:=World.block_lt_of_cell? w ⟨B',0,none⟩ (h.2 0 (by decide)).1
 have e:w'.heap[B']? =w.heap[B']? :=g.block B' hlt (by simp[hne])
 refine ⟨h.1,fun j hj=>⟨(World.cell?_of_block (w:=w) (a:=⟨B',j,none⟩) e).trans (h.2 j hj).1,?_⟩⟩
 have:=(h.2 j hj).2
 unfold World.frozen? at this⊢
 simp only[e]
 exact this
theorem yqz{w wr:World}{row:Option Nat}(h:w.grownBy wr row){C k:Nat}(hC:w.heap.size≤C)(v:Value):w.grownBy (wr.setCell ⟨C,k,none⟩ v) row:=by
 have b:=(Below.refl C wr).setCell (p:=⟨C,k,none⟩) (Nat.le_refl _) v
 exact ⟨b.os.trans h.os,b.tape.trans h.tape,b.output.trans h.output,Nat.le_trans h.size b.size,fun j hj hne=>(b.block j (by omega)).trans (h.block j hj hne)⟩
theorem Cur.set{D B:Nat}{ao:Option Addr}{len cap:Nat}{wr:World}(h:Cur D B ao len cap wr){C k:Nat}(hC:B<C)(v:Value):Cur D B ao len cap (wr.setCell ⟨C,k,none⟩ v):=by
 have b:=(Below.refl C wr).setCell (p:=⟨C,k,none⟩) (Nat.le_refl _) v
 have hle:=h.le
 exact h.keep (b.block B hC) fun j hj=>b.block j (by omega)
theorem zkqz{fn:Func}{p:Tmp}(h:fn.results= #[.cell p 24])(tmps:Array Value)(W:World)(B:Nat)(x0 x1 x2 x3 x4 x5 x6 x7:Int)
  (hp:tmps[p]?.getD undef=.pointer (some ⟨B,0,none⟩)) (ha:yIz W B [x0,x1,x2,x3,x4,x5,x6,x7]):
  (results fn tmps).run Tryz.prog W=.ok (.agg #[.int .i64 x0,.int .i64 x1,.int .i64 x2,.int .i64 x3,.int .i64 x4,.int .i64 x5,.int .i64 x6,.int .i64 x7]) W:=by
 have c0:=(ha.2 0 (by decide)).1
 have c1:=(ha.2 1 (by decide)).1
 have c2:=(ha.2 2 (by decide)).1
 have c3:=(ha.2 3 (by decide)).1
 have c4:=(ha.2 4 (by decide)).1
 have c5:=(ha.2 5 (by decide)).1
 have c6:=(ha.2 6 (by decide)).1
 have c7:=(ha.2 7 (by decide)).1
 simp at c0 c1 c2 c3 c4 c5 c6 c7
 simp[results,h,hp,asAddr,go_sem,c0,c1,c2,c3,c4,c5,c6,c7,Addr.add_lit]
theorem zlVz{w W:World}{row:Option Nat}(h:w.grownBy W row){B:Nat}(hB:w.heap.size≤B)(x0 x1 x2 x3 x4 x5 x6 x7:Int):w.grownBy ((((((((W.setCell ⟨B,0,none⟩ (.int .i64 x0)).setCell ⟨B,1,none⟩ (.int .i64 x1)).setCell ⟨B,2,none⟩ (.int .i64 x2)).setCell ⟨B,3,none⟩ (.int .i64 x3)).setCell ⟨B,4,none⟩ (.int .i64 x4)).setCell ⟨B,5,none⟩ (.int .i64 x5)).setCell ⟨B,6,none⟩ (.int .i64 x6)).setCell ⟨B,7,none⟩ (.int .i64 x7)) row:=
 yqz (yqz (yqz (yqz (yqz (yqz (yqz (yqz h hB _) hB _) hB _) hB _) hB _) hB _) hB _) hB _
theorem zovz{D B:Nat}{ao:Option Addr}{len cap:Nat}{W:World}(h:Cur D B ao len cap W){C:Nat}(hC:B<C)(x0 x1 x2 x3 x4 x5 x6 x7:Int):Cur D B ao len cap ((((((((W.setCell ⟨C,0,none⟩ (.int .i64 x0)).setCell ⟨C,1,none⟩ (.int .i64 x1)).setCell ⟨C,2,none⟩ (.int .i64 x2)).setCell ⟨C,3,none⟩ (.int .i64 x3)).setCell ⟨C,4,none⟩ (.int .i64 x4)).setCell ⟨C,5,none⟩ (.int .i64 x5)).setCell ⟨C,6,none⟩ (.int .i64 x6)).setCell ⟨C,7,none⟩ (.int .i64 x7)):=
 (((((((h.set hC _).set hC _).set hC _).set hC _).set hC _).set hC _).set hC _).set hC _
theorem l5Six(D B:Nat)(ao:Option Addr)(len cap:Nat)(w:World)(hcur:Cur D B ao len cap w):
  Calls Tryz.prog 179 #[.pointer (some ⟨B,0,none⟩)] w fun e w'=> ∃x0 x1 x2 x3 x4 x5 x6 x7:Int,zhTz [x0,x1,x2,x3,x4,x5,x6,x7]∧e=.returned (.agg #[.int .i64 x0,.int .i64 x1,.int .i64 x2,.int .i64 x3,.int .i64 x4,.int .i64 x5,.int .i64 x6,.int .i64 x7])∧Cur D B ao len cap w'∧w.grownBy w' (some B):=by
 have HC:Hid (Cur D B ao len cap w):=hcur
 have hB:=hcur.lt
 clear hcur
 have AR:=zPz ((zcfz w).later ((Below.refl _ _).alloc (Nat.le_refl _) (.cells #[.int .i64 0,.int .i64 0,.int .i64 0,.int .i64 0,.int .i64 0,.int .i64 0,.int .i64 0,.int .i64 0] 24)))
 have AO:Hid (yIz ((w.alloc (.cells #[.int .i64 0,.int .i64 0,.int .i64 0,.int .i64 0,.int .i64 0,.int .i64 0,.int .i64 0,.int .i64 0] 24)).alloc (.cells #[.int .i64 0,.int .i64 0,.int .i64 0,.int .i64 0,.int .i64 0,.int .i64 0,.int .i64 0,.int .i64 0] 24)) (w.heap.size+1) [0,0,0,0,0,0,0,0]):=by
  have h:=zcfz (w.alloc (.cells #[.int .i64 0,.int .i64 0,.int .i64 0,.int .i64 0,.int .i64 0,.int .i64 0,.int .i64 0,.int .i64 0] 24))
  rw[show (w.alloc (.cells #[.int .i64 0,.int .i64 0,.int .i64 0,.int .i64 0,.int .i64 0,.int .i64 0,.int .i64 0,.int .i64 0] 24)).heap.size=w.heap.size+1 by simp]at h
  exact h
 have G0:Hid (w.grownBy ((w.alloc (.cells #[.int .i64 0,.int .i64 0,.int .i64 0,.int .i64 0,.int .i64 0,.int .i64 0,.int .i64 0,.int .i64 0] 24)).alloc (.cells #[.int .i64 0,.int .i64 0,.int .i64 0,.int .i64 0,.int .i64 0,.int .i64 0,.int .i64 0,.int .i64 0] 24)) (some B)):=xkz (World.grownBy_alloc w _ (some B)) _
 have C0:Hid (Cur D B ao len cap ((w.alloc (.cells #[.int .i64 0,.int .i64 0,.int .i64 0,.int .i64 0,.int .i64 0,.int .i64 0,.int .i64 0,.int .i64 0] 24)).alloc (.cells #[.int .i64 0,.int .i64 0,.int .i64 0,.int .i64 0,.int .i64 0,.int .i64 0,.int .i64 0,.int .i64 0] 24))):=(HC.out.alloc _).alloc _
 go_enter Tryz.func179,Tryz.ntmps179
 go_wp2_with fail
 go_loopw[4] (fun i wr=> ∃(k:Nat) (z:List Int),k≤8∧i=.int .i64 k∧yIz wr (w.heap.size+1) z∧yIz wr w.heap.size [0,0,0,0,0,0,0,0]∧(∀x∈z,0≤x∧x≤65535)∧Cur D B ao len cap wr∧w.grownBy wr (some B)) (fun i _=>8-(intOf i).toNat)
 case atStart=>exact ⟨0,_,Nat.zero_le _,rfl,AO.out,AR.out,by decide,C0.out,G0.out⟩
 obtain ⟨k,z,hk,rfl,oa,ra,hz,cc,gg⟩:=hrel
 have HOW:=zPz oa
 have HRW:=zPz ra
 have HZ:Hid (∀x∈z,0≤x∧x≤65535):=hz
 have HCC:Hid (Cur D B ao len cap wr):=cc
 have HGG:Hid (w.grownBy wr (some B)):=gg
 clear oa ra hz cc gg AR AO G0 C0
 by_cases hlt:k<8
 ·have hki:(k:Int)<8:=by omega
  go_wp2_with fail
  refine (vuz 65536 _ _ _ _ _ _ (by omega) (by omega) HCC.out).mono ?_
  rintro e wa ⟨y,hy0,hy1,rfl,ca,ga⟩
  have CA:Hid (Cur D B ao len cap wa):=ca
  have hBa:=ca.lt
  have oa2:=zPz (HOW.out.kept ga (by omega))
  have ra2:=zPz (HRW.out.kept ga (by omega))
  have G2:Hid (w.grownBy wa (some B)):=ztz HGG.out ga
  clear ca ga HOW HRW HCC HGG
  go_wp2_with fail
  refine (ztcz 8 wa.heap.size 8 0 [0,0,0,1,255,4096,65535,y] _ _ _ _ _ _ (by omega) (by omega) (CA.out.alloc _) (World.ownsRow_lit wa _ 8 (Nat.zero_le _) (by decide) rfl) (by omega)).mono ?_
  rintro e wc ⟨x,hx,rfl,cc,gc⟩
  have hx2:0≤x∧x≤65535:=by
   simp only[List.mem_cons,List.not_mem_nil,or_false]at hx
   omega
  have CC:Hid (Cur D B ao len cap wc):=cc
  have oa3:=zPz ((oa2.out.later ((Below.refl _ _).alloc (Nat.le_refl _) _)).kept gc (by omega))
  have ra3:=zPz ((ra2.out.later ((Below.refl _ _).alloc (Nat.le_refl _) _)).kept gc (by omega))
  have G3:Hid (w.grownBy wc (some B)):=ztz (xkz G2.out _) gc
  have ho:=(oa3.out.2 k hlt).1
  have hof:=(oa3.out.2 k hlt).2
  have HX:Hid (0≤x∧x≤65535):=hx2
  clear cc gc hx hx2 oa2 ra2 G2 CA
  generalize z.getD k 0=y0 at ho
  go_wp2_with fail
  go_roundw
  case rel=>
   refine ⟨k+1,z.set k x,by omega,by go_num,oa3.out.set k hlt x,ra3.out.other (by omega) _ _,?_,CC.out.set (by omega) _,yqz G3.out (by omega) _⟩
   intro u hu
   rcases List.mem_or_eq_of_mem_set hu with h|h
   ·exact HZ.out u h
   rw[h];exact HX.out
  case measure=>simp[intOf];omega
 have hki: ¬(k:Int)<8:=by omega
 have OA8:=HOW.out
 have HZ2:=HZ.out
 obtain ⟨x0,x1,x2,x3,x4,x5,x6,x7,rfl⟩:=zgez OA8
 have HS:Hid (zhTz [x0,x1,x2,x3,x4,x5,x6,x7]):=⟨rfl,HZ2⟩
 clear HZ2 HZ HOW
 have o0:=(OA8.2 0 (by decide)).1
 have o1:=(OA8.2 1 (by decide)).1
 have o2:=(OA8.2 2 (by decide)).1
 have o3:=(OA8.2 3 (by decide)).1
 have o4:=(OA8.2 4 (by decide)).1
 have o5:=(OA8.2 5 (by decide)).1
 have o6:=(OA8.2 6 (by decide)).1
 have o7:=(OA8.2 7 (by decide)).1
 clear OA8
 simp only[List.getD_eq_getElem?_getD,List.getElem?_cons_zero,List.getElem?_cons_succ,Option.getD_some]at o0 o1 o2 o3 o4 o5 o6 o7
 have RA:=HRW.out
 have r0:=(RA.2 0 (by decide)).1
 have r1:=(RA.2 1 (by decide)).1
 have r2:=(RA.2 2 (by decide)).1
 have r3:=(RA.2 3 (by decide)).1
 have r4:=(RA.2 4 (by decide)).1
 have r5:=(RA.2 5 (by decide)).1
 have r6:=(RA.2 6 (by decide)).1
 have r7:=(RA.2 7 (by decide)).1
 have f0:=(RA.2 0 (by decide)).2
 have f1:=(RA.2 1 (by decide)).2
 have f2:=(RA.2 2 (by decide)).2
 have f3:=(RA.2 3 (by decide)).2
 have f4:=(RA.2 4 (by decide)).2
 have f5:=(RA.2 5 (by decide)).2
 have f6:=(RA.2 6 (by decide)).2
 have f7:=(RA.2 7 (by decide)).2
 have HRA:=zPz RA
 clear RA
 go_wp2_with fail
 refine bodyPost_ret (zkqz rfl _ _ w.heap.size x0 x1 x2 x3 x4 x5 x6 x7 rfl (ygz HRA.out x0 x1 x2 x3 x4 x5 x6 x7)) rfl ⟨x0,x1,x2,x3,x4,x5,x6,x7,HS.out,rfl,zovz HCC.out (by omega) x0 x1 x2 x3 x4 x5 x6 x7,zlVz HGG.out (Nat.le_refl _) x0 x1 x2 x3 x4 x5 x6 x7⟩
theorem zowz(n:Int):(xaz n).size≤100:=by
 unfold xaz
 show (xJz n.toNat).toArray.size≤100
 rw[List.size_toArray]
 unfold xJz
 have h1:=yvz (n.toNat/16777216)
 have h2:=yvz (n.toNat/65536%256)
 have h3:=yvz (n.toNat/256%256)
 have h4:=yvz (n.toNat%256)
 simp
 omega
theorem zniz{z:List Int}(h:zhTz z): ∀g∈z.map Int.toNat,g<65536:=by
 intro g hg
 obtain ⟨x,hx,rfl⟩:=List.mem_map.1 hg
 have:=h.2 x hx
 omega
theorem ztCz{z:List Int}(h:zhTz z):okG z=true:=zfnz h.2
theorem zqjz{x0 x1 x2 x3 x4 x5 x6 x7:Int}(h:zhTz [x0,x1,x2,x3,x4,x5,x6,x7]):yEz (xbz [x0,x1,x2,x3,x4,x5,x6,x7])=some ([x0,x1,x2,x3,x4,x5,x6,x7].map Int.toNat):=by
 unfold xbz
 rw[if_pos (ztCz h)]
 have hr:=zeqz x0 x1 x2 x3 x4 x5 x6 x7
 have hle:=ziVz hr
 unfold zcNz at hr
 have hz: ∀i,i<8→(zb [x0,x1,x2,x3,x4,x5,x6,x7]).getD i false=true→([x0,x1,x2,x3,x4,x5,x6,x7].map Int.toNat).getD i 0=0:=by
  intro i hi hb
  have h8:i=0∨i=1∨i=2∨i=3∨i=4∨i=5∨i=6∨i=7:=by omega
  rcases h8 with rfl|rfl|rfl|rfl|rfl|rfl|rfl|rfl<;>simp[zb]at hb⊢ <;>omega
 generalize vpz 0 (0,0,0) (zb [x0,x1,x2,x3,x4,x5,x6,x7])=p at hr hle⊢
 simp only[Bool.and_eq_true,decide_eq_true_eq]at hr
 by_cases c:p.2.1-p.1<2
 ·unfold ip6T
  rw[if_pos c]
  exact zm1z rfl (zniz h)
 have h3:=hr.2
 rw[if_neg c]at h3
 simp only[Bool.and_eq_true,decide_eq_true_eq,List.all_eq_true,List.mem_range,Bool.or_eq_true,Bool.not_eq_true',Bool.and_eq_false_iff,decide_eq_false_iff_not]at h3
 refine zn2z rfl (zniz h) hle.2 ?_
 intro i h1 h2
 refine hz i (by omega) ?_
 rcases h3.2 i (by omega)with h4|h4
 ·omega
 exact h4
end Go.Proofs.YtgcbaphbiaimoaaGreatDoor
namespace Go.Proofs.YtgcbaphbiaimoaaGreatDoor
open Go.RowKit
set_option linter.unusedVariables false
theorem ztez: ∀{l:List UInt8},(∀c∈l,c.toNat≠37)→unL l=l
 |[],_=>rfl
 |c::r,h=>by
  rw[zmOz c r (zjAz c r (h c List.mem_cons_self)),ztez fun x hx=>h x (List.mem_cons_of_mem _ hx)]
theorem zgiz: ∀{ls:List ByteArray},(∀a∈ls,yMz a.data.toList=true)→ ∀c∈jn 46 ls,xXz c=true∨c=46:=by
 intro ls h c hc
 cases ls with
 |nil=>simp[jn]at hc
 |cons x xs=>
  unfold jn at hc
  rcases List.mem_append.1 hc with h1|h1
  ·exact .inl ((ylz (h x List.mem_cons_self)).2.2.2.2 c h1)
  obtain ⟨y,hy,h2⟩:=List.mem_flatMap.1 h1
  rcases List.mem_cons.1 h2 with h3|h3
  ·exact .inr h3
  exact .inl ((ylz (h y (List.mem_cons_of_mem _ hy))).2.2.2.2 c h3)
theorem znjz{c:UInt8}(h:xXz c=true∨c=46):c.toNat≠37∧c≠91:=by
 rcases h with h|rfl
 ·rcases vKz h with h1|h1|h1
  ·exact ⟨by omega,fun e=>by rw[e]at h1;simp at h1⟩
  ·exact ⟨by omega,fun e=>by rw[e]at h1;simp at h1⟩
  exact ⟨by omega,fun e=>by rw[e]at h1;simp at h1⟩
 exact ⟨by decide,by decide⟩
theorem zgjz{s:ByteArray}(h:z6z s=some s.data.toList):zmz s=vlz s.data.toList∧0<s.size:=by
 obtain ⟨ls,hne,_,_,hl,hj,_,_,hp⟩:=zcez h
 have hch: ∀c∈s.data.toList,xXz c=true∨c=46:=by
  rw[hj]
  exact zgiz fun a ha=>(hl a ha).1
 have hp':0<s.size:=by simpa using hp
 refine ⟨?_,hp'⟩
 have h0:s[0]∈s.data.toList:=by
  rw[jqz s hp']
  exact List.mem_cons_self
 rw[zcQz hp' (fun e=>(znjz (hch _ h0)).2 (jiz e))]
 unfold xCz unB
 rw[ztez fun c hc=>(znjz (hch c hc)).1,zbKz,h]
theorem znkz: ∀v,v<256→okA (zGz v)=true:=by decide+kernel
theorem zqkz: ∀v,v<256→endT ⟨(zGz v).toArray⟩=true:=by decide+kernel
theorem ztDz(n:Nat):jn 46 [⟨(zGz (n/16777216)).toArray⟩,⟨(zGz (n/65536%256)).toArray⟩,⟨(zGz (n/256%256)).toArray⟩,⟨(zGz (n%256)).toArray⟩]=xJz n:=by
 simp[jn,xJz]
theorem zkrz{n:Nat}(hn:n<4294967296):z6z ⟨(xJz n).toArray⟩=some (xJz n):=by
 have hv: ∀a∈([⟨(zGz (n/16777216)).toArray⟩,⟨(zGz (n/65536%256)).toArray⟩,⟨(zGz (n/256%256)).toArray⟩,⟨(zGz (n%256)).toArray⟩]:List ByteArray),∃v,v<256∧a=⟨(zGz v).toArray⟩:=by
  intro a ha
  simp only[List.mem_cons,List.not_mem_nil,or_false]at ha
  rcases ha with rfl|rfl|rfl|rfl
  ·exact ⟨_,by omega,rfl⟩
  ·exact ⟨_,by omega,rfl⟩
  ·exact ⟨_,by omega,rfl⟩
  exact ⟨_,by omega,rfl⟩
 have hj:=ztDz n
 generalize ([⟨(zGz (n/16777216)).toArray⟩,⟨(zGz (n/65536%256)).toArray⟩,⟨(zGz (n/256%256)).toArray⟩,⟨(zGz (n%256)).toArray⟩]:List ByteArray)=ls at hv hj
 have hlab: ∀a∈ls,yMz a.data.toList=true:=by
  intro a ha
  obtain ⟨v,hv1,rfl⟩:=hv a ha
  exact ziQz (znkz v hv1)
 have hasc: ∀a∈ls,j0z a=some a:=by
  intro a ha
  obtain ⟨v,hv1,rfl⟩:=hv a ha
  unfold j0z
  rw[show (⟨(zGz v).toArray⟩:ByteArray).data.toList=zGz v from rfl,zf5z (znkz v hv1)]
 have hne:ls≠[]:=by
  intro h0
  rw[h0]at hj
  have:=congrArg List.length hj
  simp[jn,xJz]at this
 rw[←hj]
 unfold z6z
 rw[zhQz hne hlab,zgcz hlab]
 refine vLz (zepz hasc) ?_
 rw[hj]
 have:=zowz (n:Int)
 unfold xaz at this
 have e:(xJz n).length=(⟨(xJz ((n:Int).toNat)).toArray⟩:ByteArray).size:=by
  show _=(xJz ((n:Int).toNat)).toArray.size
  rw[List.size_toArray]
  rfl
 omega
theorem zqlz{n:Nat}(hn:n<4294967296):juz ⟨(xJz n).toArray⟩=true:=by
 have h:=zhMz ⟨(xJz n).toArray⟩ (zGz (n/16777216)++46::(zGz (n/65536%256)++46::(zGz (n/256%256)++[46]))) (zGz (n%256)) (by simp[xJz])
  (.inr ⟨zGz (n/16777216)++46::(zGz (n/65536%256)++46::zGz (n/256%256)),by simp⟩) (zmVz (by omega))
 unfold juz
 have e:zaLz ⟨(xJz n).toArray⟩=⟨(zGz (n%256)).toArray⟩:=zbLz h
 rw[e]
 exact zqkz _ (by omega)
theorem zoxz{n:Nat}(hn:n<4294967296):vlz (xJz n)=.fo n:=by
 unfold vlz
 rw[if_pos (zqlz hn),ziwz hn rfl]
theorem zqmz(t:Bool): ∀{fs:List (List UInt8)} {g:List Nat},grp t fs=some g→ ∀x∈g,x<65536
 |[],g,h,x,hx=>by cases h;simp at hx
 |y::r,g,h,x,hx=>by
  rw[grp]at h
  split at h
  ·rename_i n hn
   cases h
   have hn4:n<4294967296:=by
    split at hn
    ·exact (j4z hn).1
    cases hn
   simp only[List.mem_cons,List.not_mem_nil,or_false]at hx
   omega
  split at h
  ·cases h
  rename_i v hv
  cases hr:grp t r with
  |none=>rw[hr]at h;cases h
  |some q=>
   rw[hr]at h
   cases h
   rcases List.mem_cons.1 hx with rfl|h2
   ·unfold g16 at hv
    split at hv
    ·cases hv
    exact zgdz hv
   exact zqmz t hr x h2
theorem zi4z(t:Bool){l:List UInt8}{g:List Nat}(h:yhz t l=some g): ∀x∈g,x<65536:=by
 unfold yhz at h
 split at h
 ·cases h
  intro x hx
  simp at hx
 exact zqmz t h
theorem zsmz{l:List UInt8}{g:List Nat}(h:yEz l=some g): ∀x∈g,x<65536:=by
 unfold yEz at h
 split at h
 ·split at h
  ·cases h
  rename_i q hq
  split at h
  ·cases h
   exact zi4z true hq
  cases h
 split at h
 ·rename_i a b ha hb
  split at h
  ·cases h
   intro x hx
   unfold x5z at hx
   rcases List.mem_append.1 hx with h1|h1
   ·rcases List.mem_append.1 h1 with h2|h2
    ·exact zi4z false ha x h2
    rw[(List.mem_replicate.1 h2).2]
    decide
   exact zi4z true hb x h1
  cases h
 cases h
theorem zsnz{g:List Nat}(h: ∀x∈g,x<65536):okG (g.map fun (x:Nat)=>(x:Int))=true:=by
 refine zfnz ?_
 intro x hx
 obtain ⟨y,hy,rfl⟩:=List.mem_map.1 hx
 have:=h y hy
 omega
theorem zi5z(s:ByteArray):(∃c,zmz s=.bad c∧1≤c∧c≤4)∨(hOk (rV (zmz s))=true∧rC (zmz s)=0):=by
 have key: ∀l,(∃c,vlz l=.bad c∧1≤c∧c≤4)∨z6z ⟨l.toArray⟩=some l→(∃c,vlz l=.bad c∧1≤c∧c≤4)∨(hOk (rV (vlz l))=true∧rC (vlz l)=0):=by
  intro l hl
  rcases hl with hl|hl
  ·exact .inl hl
  unfold vlz
  split
  ·cases h:loA ⟨l.toArray⟩with
   |none=>exact .inl ⟨4,rfl,by decide,by decide⟩
   |some v=>
    have:=zlCz h
    refine .inr ⟨?_,rfl⟩
    show hOk ⟨2,⟨#[]⟩,v,xsz⟩=true
    unfold hOk
    rw[if_neg (show ¬(2:Int)=1 by decide),if_pos rfl]
    simp only[Bool.and_eq_true,decide_eq_true_eq]
    exact ⟨⟨rfl,by omega,by omega⟩,trivial⟩
  rename_i he
  refine .inr ⟨?_,rfl⟩
  show hOk ⟨1,⟨l.toArray⟩,0,xsz⟩=true
  unfold hOk
  rw[if_pos rfl]
  have he':juz ⟨l.toArray⟩=false:=by simpa using he
  simp[hl,he']
 unfold zmz
 split
 ·exact .inl ⟨1,rfl,by decide,by decide⟩
 rename_i c r hl
 split
 ·unfold xOz
  split
  ·cases h:yEz r.dropLast with
   |none=>exact .inl ⟨2,rfl,by decide,by decide⟩
   |some g=>
    refine .inr ⟨?_,rfl⟩
    show hOk ⟨3,⟨#[]⟩,0,g.map fun (x:Nat)=>(x:Int)⟩=true
    unfold hOk
    rw[if_neg (show ¬(3:Int)=1 by decide),if_neg (show ¬(3:Int)=2 by decide),if_pos rfl]
    simp only[zsnz (zsmz h)]
    rfl
  exact .inl ⟨2,rfl,by decide,by decide⟩
 unfold xCz
 split
 ·exact .inl ⟨3,rfl,by decide,by decide⟩
 rename_i n hn
 obtain ⟨_,_,_,_,_,_,hb,_,_⟩:=zcez hn
 exact key n (.inr hb)
theorem zlWz{s:ByteArray}{c:UInt8}{r:List UInt8}(h:s.data.toList=c::r):zmz s=if c=91 then xOz r else xCz s:=by
 unfold zmz
 rw[h]
theorem zoyz{k n:Int}{s:ByteArray}{x0 x1 x2 x3 x4 x5 x6 x7:Int}(h:hOk ⟨k,s,n,[x0,x1,x2,x3,x4,x5,x6,x7]⟩=true):0<(hTx ⟨k,s,n,[x0,x1,x2,x3,x4,x5,x6,x7]⟩).size∧rV (zmz (hTx ⟨k,s,n,[x0,x1,x2,x3,x4,x5,x6,x7]⟩))=⟨k,s,n,[x0,x1,x2,x3,x4,x5,x6,x7]⟩∧rC (zmz (hTx ⟨k,s,n,[x0,x1,x2,x3,x4,x5,x6,x7]⟩))=0:=by
 unfold hTx
 rw[if_pos h]
 unfold hOk at h
 simp only at h⊢
 by_cases h1:k=1
 ·subst h1
  rw[if_pos rfl]at h⊢
  simp only[Bool.and_eq_true,decide_eq_true_eq,Bool.not_eq_true']at h
  obtain ⟨⟨⟨h1,h2⟩,h3⟩,h4⟩:=h
  obtain ⟨h5,h6⟩:=zgjz h1
  have h7:vlz s.data.toList=.nm s.data.toList:=by
   unfold vlz
   rw[zbKz,if_neg (by rw[h2];decide)]
  rw[h5,h7]
  refine ⟨h6,?_,rfl⟩
  show HV.mk 1 ⟨s.data.toList.toArray⟩ 0 xsz=_
  rw[zbKz,h3,h4]
 rw[if_neg h1]at h⊢
 by_cases h2:k=2
 ·subst h2
  rw[if_pos rfl]at h⊢
  simp only[Bool.and_eq_true,decide_eq_true_eq]at h
  obtain ⟨⟨h3,h4,h5⟩,h6⟩:=h
  have hn:n.toNat<4294967296:=by omega
  have hs:s=⟨#[]⟩:=zbLz (List.eq_nil_of_length_eq_zero (by simpa using h3))
  have hr:zmz (xaz n)=.fo n.toNat∧0<(xaz n).size:=by
   have hnm:z6z (xaz n)=some (xaz n).data.toList:=zkrz hn
   obtain ⟨a,b⟩:=zgjz hnm
   refine ⟨?_,b⟩
   rw[a]
   exact zoxz hn
  rw[hr.1]
  refine ⟨hr.2,?_,rfl⟩
  show HV.mk 2 ⟨#[]⟩ ((n.toNat:Nat):Int) xsz=_
  rw[Int.toNat_of_nonneg h4,hs,h6]
 rw[if_neg h2]at h⊢
 by_cases h3:k=3
 ·subst h3
  rw[if_pos rfl]at h
  simp only[Bool.and_eq_true,decide_eq_true_eq]at h
  obtain ⟨⟨h4,h5⟩,h6⟩:=h
  have h8:=ziUz h6
  have hsix:zhTz [x0,x1,x2,x3,x4,x5,x6,x7]:=⟨rfl,h8⟩
  have hs:s=⟨#[]⟩:=zbLz (List.eq_nil_of_length_eq_zero (by simpa using h4))
  have hr:zmz ⟨(91::(xbz [x0,x1,x2,x3,x4,x5,x6,x7]++[93])).toArray⟩=.si ([x0,x1,x2,x3,x4,x5,x6,x7].map Int.toNat):=by
   rw[zlWz (c:=91) (r:=xbz [x0,x1,x2,x3,x4,x5,x6,x7]++[93]) rfl,if_pos rfl]
   unfold xOz
   rw[List.getLast?_concat,if_pos rfl,List.dropLast_concat,zqjz hsix]
   rfl
  rw[hr]
  refine ⟨?_,?_,rfl⟩
  ·show 0<(91::(xbz [x0,x1,x2,x3,x4,x5,x6,x7]++[93])).toArray.size
   simp
  show HV.mk 3 ⟨#[]⟩ 0 (([x0,x1,x2,x3,x4,x5,x6,x7].map Int.toNat).map fun (y:Nat)=>(y:Int))=_
  have e:([x0,x1,x2,x3,x4,x5,x6,x7].map Int.toNat).map (fun (y:Nat)=>(y:Int))=[x0,x1,x2,x3,x4,x5,x6,x7]:=by
   rw[List.map_map]
   conv=>rhs;rw[←List.map_id [x0,x1,x2,x3,x4,x5,x6,x7]]
   refine List.map_congr_left ?_
   intro y hy
   have:=(h8 y hy).1
   simp only[Function.comp,id]
   omega
  rw[e,hs,h5]
 rw[if_neg h3]at h
 cases h
end Go.Proofs.YtgcbaphbiaimoaaGreatDoor
namespace Go.Proofs.YtgcbaphbiaimoaaGreatDoor
open Go.RowKit
def isd(l:List UInt8):Nat:=if unL l=[46]then 1 else if unL l=[46,46]then 2 else 0
theorem zlXz(l:List UInt8):isd l≤2:=by unfold isd;split;omega;split<;>omega
theorem zftz:isd []=0:=by decide
theorem zqnz{l:List UInt8}{n:Nat}(h:unL l=List.replicate n 46):isd l=if 1≤n∧n≤2 then n else 0:=by
 unfold isd
 rw[h]
 match n with
 |0=>decide
 |1=>decide
 |2=>decide
 |n+3=>
  have h1: ¬(List.replicate (n+3) (46:UInt8)=[46]):=fun e=>by have:=congrArg List.length e;simp at this
  have h2: ¬(List.replicate (n+3) (46:UInt8)=[46,46]):=fun e=>by have:=congrArg List.length e;simp at this
  rw[if_neg h1,if_neg h2,if_neg (by omega)]
theorem zhUz{l:List UInt8}{n:Nat}{c:UInt8}{r:List UInt8}(h:unL l=List.replicate n 46++c::r)(hc:c≠46):isd l=0:=by
 have hm:c∈unL l:=by rw[h];simp
 unfold isd
 rw[if_neg,if_neg]
 ·intro e;rw[e]at hm;simp at hm;exact hc hm
 intro e;rw[e]at hm;simp at hm;exact hc hm
def y2z(out:List ByteArray)(x:ByteArray):List ByteArray:=if isd (toL x)=0 then out++[x]else if isd (toL x)=2 then out.dropLast else out
def yQz(l:List ByteArray):List ByteArray:=l.foldl y2z []
def zbsz(l:List ByteArray):ByteArray:=l.getD (l.length-1) ByteArray.empty
def ykz(l:List ByteArray):List ByteArray:=if isd (toL (zbsz l))=0 then yQz l else yQz l++[ByteArray.empty]
def slL(l:List ByteArray):List UInt8:=l.flatMap fun x=>47::toL x
def zDz(p:ByteArray):List ByteArray:=(zaz p 47).drop 1
def zVz(p:ByteArray):Bool:=p.data.toList.head? ==some 47
def zXz(p:ByteArray):ByteArray:=if zVz p then ⟨(slL (ykz (zDz p))).toArray⟩else p
theorem zbPz{a b:List ByteArray}(h:a.map toL=b.map toL):a=b:=by
 induction a generalizing b with
 |nil=>cases b with
  |nil=>rfl
  |cons _ _=>simp at h
 |cons x a ih=>cases b with
  |nil=>simp at h
  |cons y b=>
   simp only[List.map_cons,List.cons.injEq]at h
   rw[zIz h.1,ih h.2]
theorem zbjz(s:ByteArray):(zaz s 47).map toL=spl 47 s.data.toList:=zbBz s 47
theorem zi6z(b:UInt8)(l:List UInt8):spl b (b::l)=[]::spl b l:=by
 simp[spl]
theorem ztEz(b:UInt8): ∀l,∀x∈spl b l,∀c∈x,c≠b:=by
 intro l
 have: ∀r:List UInt8,∀x∈spl b r.reverse,∀c∈x,c≠b:=by
  intro r
  induction r with
  |nil=>intro x hx c hc;simp[spl]at hx;subst hx;cases hc
  |cons a r ih=>
   obtain ⟨xs,y,h,hn⟩:=zbyz b r.reverse
   rw[h]at ih
   rw[List.reverse_cons,hn a]
   intro x hx c hc
   split at hx
   ·simp only[List.mem_append,List.mem_cons,List.not_mem_nil,or_false]at hx
    rcases hx with h1|h1|h1
    ·exact ih x (by simp[h1]) c hc
    ·exact ih x (by simp[h1]) c hc
    subst h1;cases hc
   next hne=>
   simp only[List.mem_append,List.mem_singleton]at hx
   rcases hx with h1|h1
   ·exact ih x (by simp[h1]) c hc
   subst h1
   rcases List.mem_append.1 hc with h2|h2
   ·exact ih y (by simp) c h2
   rw[List.mem_singleton.1 h2];exact hne
 have h:=this l.reverse
 rwa[List.reverse_reverse]at h
theorem zabz{p:ByteArray}(h:zVz p=true): ∃r,p.data.toList=47::r:=by
 unfold zVz at h
 cases hp:p.data.toList with
 |nil=>rw[hp]at h;simp at h
 |cons a r=>rw[hp]at h;simp at h;exact ⟨r,by rw[h]⟩
theorem zcvz{p:ByteArray}(h:zVz p=true):zaz p 47=ByteArray.empty::zaz (p.extract 1 p.size) 47:=by
 obtain ⟨r,hr⟩:=zabz h
 apply zbPz
 have hx:(p.extract 1 p.size).data.toList=r:=by rw[zAz,ynz p p.size (Nat.le_refl _),hr];rfl
 rw[List.map_cons,zbjz,zbjz,hx,hr,zi6z]
 rfl
theorem zbkz{p:ByteArray}(h:zVz p=true):zDz p=zaz (p.extract 1 p.size) 47:=by
 unfold zDz
 rw[zcvz h]
 rfl
theorem zdEz{p:ByteArray}(h:zVz p=true):zaz p 47=ByteArray.empty::zDz p:=by
 rw[zbkz h,zcvz h]
theorem zdFz{p:ByteArray}(h:zVz p=true):slL (zDz p)=p.data.toList:=by
 have h1:=zddz p 47 (by decide) (by decide)
 rw[zdEz h]at h1
 exact h1
theorem zetz{p:ByteArray}(h:zVz p=true):0<(zDz p).length:=by
 rw[zbkz h]
 simp[zaz]
def sumD(f:ByteArray→Nat)(l:List ByteArray):Nat:=(l.map f).sum
theorem zaOz(f:ByteArray→Nat)(l:List ByteArray)(x:ByteArray):sumD f (l++[x])=sumD f l+f x:=by simp[sumD]
theorem zhVz(f:ByteArray→Nat)(l:List ByteArray):sumD f l.dropLast≤sumD f l:=by
 rcases List.eq_nil_or_concat l with h|⟨m,x,h⟩
 ·rw[h];exact Nat.le_refl _
 rw[h,List.concat_eq_append,List.dropLast_concat,zaOz];omega
theorem zozz(f:ByteArray→Nat)(out:List ByteArray)(x:ByteArray):sumD f (y2z out x)≤sumD f out+f x:=by
 unfold y2z
 split
 ·rw[zaOz];exact Nat.le_refl _
 split
 ·have:=zhVz f out;omega
 omega
theorem zqoz(f:ByteArray→Nat)(out:List ByteArray)(x:ByteArray)(h:isd (toL x)≠0):sumD f (y2z out x)≤sumD f out:=by
 unfold y2z
 rw[if_neg h]
 split
 ·exact zhVz f out
 exact Nat.le_refl _
theorem vMz(l:List ByteArray)(x:ByteArray):yQz (l++[x])=y2z (yQz l) x:=by simp[yQz]
theorem zhWz(f:ByteArray→Nat): ∀r:List ByteArray,sumD f (yQz r.reverse)≤sumD f r.reverse
 |[]=>Nat.le_refl _
 |x::r=>by
  rw[List.reverse_cons,vMz,zaOz]
  have h1:=zozz f (yQz r.reverse) x
  have h2:=zhWz f r
  omega
theorem zgkz(f:ByteArray→Nat)(l:List ByteArray):sumD f (yQz l)≤sumD f l:=by
 have h:=zhWz f l.reverse
 rwa[List.reverse_reverse]at h
theorem zcSz(l:List ByteArray)(x:ByteArray):zbsz (l++[x])=x:=by
 unfold zbsz
 simp[List.getD_eq_getElem?_getD]
theorem zksz(f:ByteArray→Nat)(hf: ∀x,f ByteArray.empty≤f x)(l:List ByteArray):sumD f (ykz l)≤sumD f l:=by
 unfold ykz
 split
 ·exact zgkz f l
 next h=>
 rcases List.eq_nil_or_concat l with e|⟨m,x,e⟩
 ·rw[e]at h
  exact absurd zftz h
 rw[List.concat_eq_append]at e
 rw[e,zcSz]at h
 rw[e,vMz,zaOz,zaOz]
 have h1:=zqoz f (yQz m) x h
 have h2:=zgkz f m
 have h3:=hf x
 omega
theorem zfuz(l:List ByteArray):sumD (fun _=>1) l=l.length:=by
 induction l with
 |nil=>rfl
 |cons x l ih=>simp only[sumD,List.map_cons,List.sum_cons,List.length_cons]at ih⊢;omega
theorem zktz(l:List ByteArray):sumD (fun x=>x.size+1) l=(slL l).length:=by
 induction l with
 |nil=>rfl
 |cons x l ih=>
  simp only[sumD,List.map_cons,List.sum_cons,slL,List.flatMap_cons,List.length_append,List.length_cons]at ih⊢
  rw[ih]
  simp[toL]
theorem zbQz(l:List ByteArray):(ykz l).length≤l.length:=by
 have h:=zksz (fun _=>1) (fun _=>Nat.le_refl _) l
 rwa[zfuz,zfuz]at h
theorem zeuz(l:List ByteArray):(slL (ykz l)).length≤(slL l).length:=by
 have h:=zksz (fun x=>x.size+1) (fun x=>Nat.add_le_add_right (Nat.zero_le _) 1) l
 rwa[zktz,zktz]at h
theorem zeRz(l:List ByteArray):(yQz l).length≤l.length:=by
 have h:=zgkz (fun _=>1) l
 rwa[zfuz,zfuz]at h
theorem zqpz{out:List ByteArray}{x y:ByteArray}(h:y∈y2z out x):y∈out∨(y=x∧isd (toL x)=0):=by
 unfold y2z at h
 split at h
 ·next e=>
  rcases List.mem_append.1 h with h1|h1
  ·exact .inl h1
  exact .inr ⟨List.mem_singleton.1 h1,e⟩
 split at h
 ·exact .inl (List.dropLast_subset _ h)
 exact .inl h
theorem zkuz: ∀(r:List ByteArray) (y:ByteArray),y∈yQz r.reverse→y∈r∧isd (toL y)=0
 |[],y,h=>by simp[yQz]at h
 |x::r,y,h=>by
  rw[List.reverse_cons,vMz]at h
  rcases zqpz h with h1|⟨h1,h2⟩
  ·have h3:=zkuz r y h1
   exact ⟨List.mem_cons_of_mem _ h3.1,h3.2⟩
  subst h1;exact ⟨by simp,h2⟩
theorem zglz{l:List ByteArray}{y:ByteArray}(h:y∈ykz l):(y∈l∨y=ByteArray.empty)∧isd (toL y)=0:=by
 have hf: ∀y,y∈yQz l→y∈l∧isd (toL y)=0:=fun y hy=>by
  have:=zkuz l.reverse y (by rwa[List.reverse_reverse])
  exact ⟨List.mem_reverse.1 this.1,this.2⟩
 unfold ykz at h
 split at h
 ·exact ⟨.inl (hf y h).1,(hf y h).2⟩
 rcases List.mem_append.1 h with h1|h1
 ·exact ⟨.inl (hf y h1).1,(hf y h1).2⟩
 rw[List.mem_singleton.1 h1];exact ⟨.inr rfl,zftz⟩
theorem zi7z{l:List ByteArray}(h:0<l.length):ykz l≠[]:=by
 unfold ykz
 split
 ·next e=>
  rcases List.eq_nil_or_concat l with e1|⟨m,x,e1⟩
  ·rw[e1]at h;simp at h
  rw[List.concat_eq_append]at e1
  rw[e1,zcSz]at e
  rw[e1,vMz]
  unfold y2z
  rw[if_pos e]
  simp
 simp
theorem znlz: ∀r:List ByteArray,(∀x∈r,isd (toL x)=0)→yQz r.reverse=r.reverse
 |[],_=>rfl
 |x::r,h=>by
  rw[List.reverse_cons,vMz,znlz r fun y hy=>h y (List.mem_cons_of_mem _ hy)]
  unfold y2z
  rw[if_pos (h x (by simp))]
theorem zsoz{l:List ByteArray}(h: ∀x∈l,isd (toL x)=0):ykz l=l:=by
 have h1:=znlz l.reverse fun x hx=>h x (List.mem_reverse.1 hx)
 rw[List.reverse_reverse]at h1
 unfold ykz
 rw[if_pos]
 ·exact h1
 rcases List.eq_nil_or_concat l with e|⟨m,x,e⟩
 ·rw[e];exact zftz
 rw[List.concat_eq_append]at e
 rw[e,zcSz]
 exact h x (by rw[e];simp)
theorem zkvz(p:ByteArray): ∀x∈zDz p,∀c∈toL x,c≠47:=by
 intro x hx c hc
 have h1:toL x∈spl 47 p.data.toList:=by
  rw[←zbjz]
  exact List.mem_map_of_mem (List.mem_of_mem_drop hx)
 exact ztEz 47 _ _ h1 c hc
theorem ztfz(l:List ByteArray):slL l=jl 47 ([]::l.map toL):=by
 have h1: ∀l:List ByteArray,jl 47 ([]::l.map toL)=slL l:=by
  intro l
  have h2: ∀(z:List UInt8) (l:List ByteArray),jl 47 (z::l.map toL)=z++slL l:=by
   intro z l
   induction l generalizing z with
   |nil=>simp[jl,slL]
   |cons x l ih=>rw[List.map_cons,jl,ih];simp[slL]
  exact h2 [] l
 exact (h1 l).symm
theorem zdGz{p:ByteArray}(h:zVz p=true):zVz (zXz p)=true:=by
 unfold zXz
 rw[if_pos h]
 cases hk:ykz (zDz p)with
 |nil=>exact absurd hk (zi7z (zetz h))
 |cons x l=>simp[zVz,slL]
theorem jSz{p:ByteArray}(h:zVz p=true):(zXz p).data.toList=slL (ykz (zDz p)):=by
 unfold zXz
 rw[if_pos h]
theorem zi8z{p:ByteArray}(h:zVz p=true):zaz (zXz p) 47=ByteArray.empty::ykz (zDz p):=by
 apply zbPz
 rw[zbjz,jSz h,ztfz _,zedz 47 (by simp)]
 ·rfl
 intro x hx c hc
 rcases List.mem_cons.1 hx with h1|h1
 ·subst h1;cases hc
 obtain ⟨y,hy,e⟩:=List.mem_map.1 h1
 subst e
 rcases (zglz hy).1 with h2|h2
 ·exact zkvz p y h2 c hc
 subst h2;cases hc
theorem zkwz{p:ByteArray}(h:zVz p=true):zDz (zXz p)=ykz (zDz p):=by
 unfold zDz
 rw[zi8z h]
 rfl
theorem zkxz{p:ByteArray}(h:zVz p=true):zXz (zXz p)=zXz p:=by
 apply zIz
 show (zXz (zXz p)).data.toList=(zXz p).data.toList
 rw[jSz (zdGz h),zkwz h,jSz h,zsoz fun x hx=>(zglz hx).2]
theorem zgmz(p:ByteArray):(zXz p).size≤p.size:=by
 by_cases h:zVz p=true
 ·have h1:=zeuz (zDz p)
  rw[←jSz h,zdFz h]at h1
  simpa using h1
 unfold zXz
 rw[if_neg h]
 exact Nat.le_refl _
theorem zspz{s:ByteArray}{k n:Nat}(hk:k<s.size)(h:s[k].toNat=46)(he:unL s.data.toList=List.replicate n 46++unL (s.data.toList.drop k)):
  unL s.data.toList=List.replicate (n+1) 46++unL (s.data.toList.drop (k+1)):=by
 have hp:yaz s k<0:=by
  by_cases h2:k+2<s.size
  ·rw[jHz s k h2];unfold x0z;rw[if_neg (by omega)];omega
  rw[zazz s k (by omega)];omega
 have hc:s[k]=46:=UInt8.toNat_inj.1 h
 rw[he]
 unfold unL
 rw[zc8z _ _ s k hk hp,hc,List.replicate_succ']
 simp
theorem znmz{s:ByteArray}{k n:Nat}(hk:k+2<s.size)(h:s[k].toNat=37)(h1:s[k+1].toNat=50)(h2:s[k+2].toNat=101∨s[k+2].toNat=69)(he:unL s.data.toList=List.replicate n 46++unL (s.data.toList.drop k)):
  unL s.data.toList=List.replicate (n+1) 46++unL (s.data.toList.drop (k+3)):=by
 have hp:yaz s k=46:=by
  rw[jHz s k hk,h,h1]
  rcases h2 with h2|h2<;>rw[h2]<;>decide
 rw[he]
 unfold unL
 rw[zffz _ _ s k (by omega),hp,List.replicate_succ']
 simp
theorem ztFz: ∀x,x<256→ ∀y,y<256→zEz x*16+zEz y=46→0≤zEz x→0≤zEz y→x=50∧(y=101∨y=69):=by
 intro x _ y _ h hx hy
 have h1:=xSz x
 have h2:=xSz y
 have hx2:zEz x=2:=by omega
 have hy2:zEz y=14:=by omega
 unfold zEz at hx2 hy2
 refine ⟨?_,?_⟩
 ·split at hx2
  ·omega
  split at hx2
  ·omega
  split at hx2<;>omega
 split at hy2
 ·omega
 split at hy2
 ·omega
 split at hy2<;>omega
theorem zfvz{s:ByteArray}{k n:Nat}(hk:k<s.size)(h:s[k].toNat≠46)(h2: ∀_:k+2<s.size,¬(s[k].toNat=37∧s[k+1].toNat=50∧(s[k+2].toNat=101∨s[k+2].toNat=69)))
  (he:unL s.data.toList=List.replicate n 46++unL (s.data.toList.drop k)):isd s.data.toList=0:=by
 by_cases hp:0≤yaz s k
 ·have hk2:=zaAz hp
  have hin:=jHz s k hk2
  have hne:yaz s k≠46:=by
   intro e
   rw[hin]at e
   unfold x0z at e
   split at e
   ·next hc=>
    have:=ztFz _ s[k+1].toNat_lt _ s[k+2].toNat_lt e hc.2.1 hc.2.2
    exact h2 hk2 ⟨hc.1,this.1,this.2⟩
   omega
  have hle:=zbxz s k
  refine zhUz (n:=n) (c:=UInt8.ofNat (yaz s k).toNat) (r:=unL (s.data.toList.drop (k+3))) ?_ ?_
  ·rw[he]
   conv=>lhs;rw[show unL (s.data.toList.drop k)=_ from zffz _ _ s k hp]
   rfl
  intro e
  have e2:=congrArg UInt8.toNat e
  have e3:(UInt8.ofNat (yaz s k).toNat).toNat=(yaz s k).toNat%256:=by simp
  rw[e3]at e2
  have e4:(yaz s k).toNat%256=46:=e2
  omega
 refine zhUz (n:=n) (c:=s[k]) (r:=unL (s.data.toList.drop (k+1))) ?_ fun e=>h (by rw[e];rfl)
 rw[he]
 conv=>lhs;rw[show unL (s.data.toList.drop k)=_ from zc8z _ _ s k hk (by omega)]
 rfl
theorem zsqz{s:ByteArray}{k n:Nat}(hk:s.size≤k)(he:unL s.data.toList=List.replicate n 46++unL (s.data.toList.drop k)):isd s.data.toList=if 1≤n∧n≤2 then n else 0:=by
 apply zqnz
 rw[he,List.drop_of_length_le (by simpa using hk)]
 simp[unL,xuz]
theorem zcgz{out:List ByteArray}{x:ByteArray}(h:isd (toL x)=0):y2z out x=out++[x]:=by unfold y2z;rw[if_pos h]
theorem zkyz{out:List ByteArray}{x:ByteArray}(h:isd (toL x)=1):y2z out x=out:=by unfold y2z;rw[if_neg (by omega),if_neg (by omega)]
theorem zkzz{out:List ByteArray}{x:ByteArray}(h:isd (toL x)=2):y2z out x=out.take (out.length-1):=by unfold y2z;rw[if_neg (by omega),if_pos h,List.dropLast_eq_take]
theorem zevz(l:List ByteArray)(k:Nat)(h:k<l.length):yQz (l.take (k+1))=y2z (yQz (l.take k)) (l.getD k ByteArray.empty):=by
 rw[zcKz l k h,vMz]
theorem zsrz(l:List ByteArray)(x:ByteArray):slL (l++[x])=slL l++47::toL x:=by simp[slL]
theorem zssz(l:List ByteArray)(k:Nat):(slL (l.take k)).length≤(slL l).length:=by
 conv=>rhs;rw[←List.take_append_drop k l]
 unfold slL
 rw[List.flatMap_append,List.length_append]
 omega
theorem sl_jn(l:List ByteArray)(h:l≠[]):slL l=47::jn 47 l:=by
 cases l with
 |nil=>exact absurd rfl h
 |cons x l=>simp[slL,jn,toL]
theorem ztgz:zEz 47= -1:=by decide
theorem zqqz(a:UInt8)(r y:List UInt8)(h:j3z (a::r)<0):j3z (a::(r++47::y))<0:=by
 match r,h with
 |[],_=>
  match y with
  |[]=>show (-1:Int)<0;decide
  |c::_=>
   show x0z a.toNat 47 c.toNat<0
   unfold x0z
   rw[if_neg (fun h=>by have:=h.2.1;rw[ztgz]at this;omega)]
   decide
 |[b],_=>
  show x0z a.toNat b.toNat 47<0
  unfold x0z
  rw[if_neg (fun h=>by have:=h.2.2;rw[ztgz]at this;omega)]
  decide
 |b::c::r,h=>exact h
theorem zoAz{α:Type}(f g:UInt8→List α)(y x:List UInt8):xuz f g (x++47::y)=xuz f g x++(g 47++xuz f g y):=by
 induction x using jnz with
 |h0=>exact voz f g 47 y (zjAz 47 y (by decide))
 |h1 a b c r h ih=>
  show xuz f g (a::b::c::(r++47::y))=_
  rw[za3z f g a b c _ h,za3z f g a b c _ h,ih,List.append_assoc]
 |h2 a r h ih=>
  show xuz f g (a::(r++47::y))=_
  rw[voz f g a _ (zqqz a r y h),voz f g a r h,ih,List.append_assoc]
theorem znnz{α:Type}(f g:UInt8→List α): ∀(K:List ByteArray) (z:List UInt8),xuz f g (z++slL K)=xuz f g z++K.flatMap fun x=>g 47++xuz f g (toL x)
 |[],z=>by simp[slL]
 |x::K,z=>by
  have e:z++slL (x::K)=z++47::(toL x++slL K):=by simp[slL]
  rw[e,zoAz,znnz f g K (toL x)]
  simp
theorem zqrz{α:Type}(f g:UInt8→List α)(K:List ByteArray):xuz f g (slL K)=K.flatMap fun x=>g 47++xuz f g (toL x):=znnz f g K []
theorem zqsz:xlz 1 47=[47]:=by decide
theorem zthz(K:List ByteArray):okL 1 (slL K)=K.all fun x=>okL 1 (toL x):=by
 unfold okL okT
 rw[zqrz]
 induction K with
 |nil=>rfl
 |cons x K ih=>rw[List.flatMap_cons,List.all_append,ih,List.all_cons,List.all_append];rfl
def plB(set:Int)(x:ByteArray):ByteArray:=⟨(plL set (toL x)).toArray⟩
theorem zacz(set:Int)(x:ByteArray):toL (plB set x)=plL set (toL x):=rfl
theorem ztiz(K:List ByteArray):plL 1 (slL K)=slL (K.map (plB 1)):=by
 unfold plL
 rw[zqrz]
 induction K with
 |nil=>rfl
 |cons x K ih=>
  rw[List.flatMap_cons,ih]
  have e:xlz 1 (47:UInt8)=[47]:=zqsz
  rw[e]
  simp[slL,zacz,plL]
theorem zkAz: ∀n,n<16→digU n≠47:=by decide+kernel
theorem zkBz(c:UInt8): ∀b∈putB c,b≠47:=by
 intro b hb
 have hc:=c.toNat_lt
 unfold putB at hb
 simp only[List.mem_cons,List.not_mem_nil,or_false]at hb
 rcases hb with rfl|rfl|rfl
 ·decide
 ·exact zkAz _ (by omega)
 exact zkAz _ (by omega)
theorem zoBz(c:UInt8): ∀b∈x3z c,b≠47:=by
 intro b hb
 unfold x3z at hb
 split at hb
 ·next h=>
  rw[List.mem_singleton.1 hb]
  intro e
  rw[e]at h
  exact absurd h (by decide)
 exact zkBz c b hb
theorem zoCz(set:Int)(c:UInt8)(h:c≠47): ∀b∈xlz set c,b≠47:=by
 intro b hb
 unfold xlz at hb
 split at hb
 ·rw[List.mem_singleton.1 hb];exact h
 exact zkBz c b hb
theorem zstz(set:Int)(l:List UInt8):(∀c∈l,c≠47)→ ∀b∈plL set l,b≠47:=by
 induction l using jnz with
 |h0=>intro _ b hb;simp[plL,xuz]at hb
 |h1 a b c r h ih=>
  intro hl x hx
  rw[zivz set a b c r h]at hx
  rcases List.mem_append.1 hx with h1|h1
  ·exact zoBz _ x h1
  exact ih (fun y hy=>hl y (by simp[hy])) x h1
 |h2 a r h ih=>
  intro hl x hx
  rw[zc7z set a r h]at hx
  rcases List.mem_append.1 hx with h1|h1
  ·exact zoCz set a (hl a (by simp)) x h1
  exact ih (fun y hy=>hl y (by simp[hy])) x h1
theorem ztGz{K M:List ByteArray}(hK: ∀x∈K,∀c∈toL x,c≠47)(hM: ∀x∈M,∀c∈toL x,c≠47)(h:slL K=slL M):K=M:=by
 have key: ∀{L:List ByteArray},(∀x∈L,∀c∈toL x,c≠47)→spl 47 (slL L)=[]::L.map toL:=fun {L} hL=>by
  rw[ztfz,zedz 47 (by simp)]
  intro x hx c hc
  rcases List.mem_cons.1 hx with h1|h1
  ·subst h1;cases hc
  obtain ⟨y,hy,rfl⟩:=List.mem_map.1 h1
  exact hL y hy c hc
 have h1:=key hK
 rw[h,key hM]at h1
 simp only[List.cons.injEq,true_and]at h1
 exact (zbPz h1).symm
def zi9z(p:ByteArray):Prop:=zVz p=true∧okL 1 (toL p)=true∧plL 1 (toL p)=toL p∧zXz p=p
theorem zkCz{p:ByteArray}(hr:zVz p=true)(ho:okL 1 (toL p)=true)(hp:plL 1 (toL p)=toL p): ∀x∈zDz p,okL 1 (toL x)=true∧plL 1 (toL x)=toL x:=by
 have hs:=zdFz hr
 have hno:=zkvz p
 have h1:slL ((zDz p).map (plB 1))=slL (zDz p):=by
  rw[←ztiz,hs]
  exact hp
 have h2:(zDz p).map (plB 1)=zDz p:=by
  refine ztGz ?_ hno h1
  intro x hx c hc
  obtain ⟨y,hy,rfl⟩:=List.mem_map.1 hx
  exact zstz 1 (toL y) (hno y hy) c hc
 have h3:((zDz p).all fun x=>okL 1 (toL x))=true:=by
  rw[←zthz,hs]
  exact ho
 intro x hx
 refine ⟨List.all_eq_true.1 h3 x hx,?_⟩
 obtain ⟨i,hi,rfl⟩:=List.getElem_of_mem hx
 have h4:=congrArg (fun l=>l[i]?) h2
 simp only[List.getElem?_map,List.getElem?_eq_getElem hi,Option.map_some,Option.some.injEq]at h4
 rw[←zacz,h4]
theorem zlYz{p:ByteArray}(hr:zVz p=true)(ho:okL 1 (toL p)=true)(hp:plL 1 (toL p)=toL p):zi9z (zXz p):=by
 have hk: ∀x∈ykz (zDz p),okL 1 (toL x)=true∧plL 1 (toL x)=toL x:=fun x hx=>by
  rcases (zglz hx).1 with h|h
  ·exact zkCz hr ho hp x h
  rw[h];exact ⟨rfl,rfl⟩
 have hd:toL (zXz p)=slL (ykz (zDz p)):=jSz hr
 refine ⟨zdGz hr,?_,?_,zkxz hr⟩
 ·rw[hd,zthz]
  exact List.all_eq_true.2 fun x hx=>(hk x hx).1
 rw[hd,ztiz]
 congr 1
 conv=>rhs;rw[←List.map_id (ykz (zDz p))]
 refine List.map_congr_left fun x hx=> ?_
 apply zIz
 exact (hk x hx).2
theorem zhXz{p:ByteArray}{r:List UInt8}(h:toL p=47::r):zVz p=true:=by
 unfold zVz
 rw[show p.data.toList=_ from h]
 rfl
theorem zoDz{q:ByteArray}(h:zVz q=true):zi9z (zXz (plB 1 q)):=by
 obtain ⟨r,hr⟩:=zabz h
 have hq:toL (plB 1 q)=47::plL 1 r:=by
  rw[zacz,show toL q=_ from hr,zc7z 1 47 r (zjAz 47 r (by decide)),zqsz]
  rfl
 refine zlYz (zhXz hq) ?_ ?_
 ·rw[zacz];exact zmPz 1 (by decide) _
 rw[zacz];exact ztaz 1 (by decide) _
theorem zkDz(set:Int)(l:List UInt8):okL set l=true→ ∀b∈l,yHz set b.toNat=true∨b=37∨0≤zEz b.toNat:=by
 induction l using jnz with
 |h0=>intro _ b hb;cases hb
 |h1 a b c r h ih=>
  intro ho x hx
  have ho2:okL set r=true:=by
   unfold okL okT at ho⊢
   rw[za3z _ _ a b c r h]at ho
   exact ho
  have hp:a.toNat=37∧0≤zEz b.toNat∧0≤zEz c.toNat:=by
   unfold x0z at h
   split at h
   ·next hc=>exact hc
   omega
  simp only[List.mem_cons]at hx
  rcases hx with rfl|rfl|rfl|hx
  ·exact .inr (.inl (UInt8.toNat_inj.1 hp.1))
  ·exact .inr (.inr hp.2.1)
  ·exact .inr (.inr hp.2.2)
  exact ih ho2 x hx
 |h2 a r h ih=>
  intro ho x hx
  unfold okL okT at ho
  rw[voz _ _ a r h,List.all_append,Bool.and_eq_true]at ho
  rcases List.mem_cons.1 hx with rfl|hx
  ·refine .inl ?_
   have h1:=ho.1
   simpa using h1
  exact ih ho.2 x hx
def zSz(s:Int):Int:=if s=1 then 80 else if s=2 then 443 else 0
theorem zbtz(s:Int)(w:World):
  Calls Tryz.prog 37 #[.int .i64 s] w fun e w'=>e=.returned (.int .i64 (zSz s))∧w=w':=by
 by_cases h1:s=1
 ·subst h1
  go_enter Tryz.func37,Tryz.ntmps37
  go_wp2
  go_ret
  exact ⟨rfl,rfl⟩
 have q1:(s==1)=false:=beq_eq_false_iff_ne.2 h1
 by_cases h2:s=2
 ·subst h2
  go_enter Tryz.func37,Tryz.ntmps37
  go_wp2
  go_ret
  exact ⟨rfl,rfl⟩
 have q2:(s==2)=false:=beq_eq_false_iff_ne.2 h2
 have HD:Hid (zSz s=0):=by show _=_;unfold zSz;rw[if_neg h1,if_neg h2]
 clear h1 h2
 go_enter Tryz.func37,Tryz.ntmps37
 go_wp2
 go_ret
 exact ⟨znz (by rw[HD.out]),rfl⟩
theorem zbuz(s:Int)(w:World):
  Calls Tryz.prog 17 #[.int .i64 s] w fun e w'=>e=.returned (.int .i64 (zSz s))∧w=w':=by
 by_cases h1:s=1
 ·subst h1
  go_enter Tryz.func17,Tryz.ntmps17
  go_wp2
  go_ret
  exact ⟨rfl,rfl⟩
 have q1:(s==1)=false:=beq_eq_false_iff_ne.2 h1
 by_cases h2:s=2
 ·subst h2
  go_enter Tryz.func17,Tryz.ntmps17
  go_wp2
  go_ret
  exact ⟨rfl,rfl⟩
 have q2:(s==2)=false:=beq_eq_false_iff_ne.2 h2
 have HD:Hid (zSz s=0):=by show _=_;unfold zSz;rw[if_neg h1,if_neg h2]
 clear h1 h2
 go_enter Tryz.func17,Tryz.ntmps17
 go_wp2
 go_ret
 exact ⟨znz (by rw[HD.out]),rfl⟩
end Go.Proofs.YtgcbaphbiaimoaaGreatDoor
