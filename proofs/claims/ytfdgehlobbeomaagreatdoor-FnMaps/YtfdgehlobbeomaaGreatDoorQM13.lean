/- EntImpl2. -/
import Derived.Test.YtfdgehlobbeomaaGreatDoorQM12
set_option maxHeartbeats 8000000
set_option maxRecDepth 100000
namespace Go.Proofs.YtfdgehlobbeomaaGreatDoor
open Go.RowKit
set_option linter.unusedVariables false
set_option linter.unusedSimpArgs false
def lenV:Value→Nat
 | .slice _ n _=>n
 |_=>0
theorem parts_step{n:Nat}{rest:List TV}{ls ps:List ByteArray}{R:List ByteArray×List ByteArray}(h:partsE (n+1) rest ls ps=.ok R)(hr:rest≠[]):
  ∃nm wi be,cutE 3 rest=.ok (nm,wi,be)∧((nm=bytesV nLoc∧ ∃t,textE wi=.ok t∧partsE n be (ls++[t]) ps=.ok R)∨(nm≠bytesV nLoc∧nm=bytesV nPrio∧ ∃t,textE wi=.ok t∧partsE n be ls (ps++[t])=.ok R)∨(nm≠bytesV nLoc∧nm≠bytesV nPrio∧partsE n be ls ps=.ok R)):=by
 rw[partsE,if_neg hr]at h
 cases hc:cutE 3 rest with
 |error c=>rw[hc]at h;cases h
 |ok x=>
  obtain ⟨nm,wi,be⟩:=x
  rw[hc]at h
  dsimp only at h
  refine ⟨nm,wi,be,rfl,?_⟩
  by_cases h1:nm=bytesV nLoc
  ·rw[if_pos h1]at h
   cases ht:textE wi with
   |error c=>rw[ht]at h;cases h
   |ok t=>rw[ht]at h;exact .inl ⟨h1,t,rfl,h⟩
  rw[if_neg h1]at h
  by_cases h2:nm=bytesV nPrio
  ·rw[if_pos h2]at h
   cases ht:textE wi with
   |error c=>rw[ht]at h;cases h
   |ok t=>rw[ht]at h;exact .inr (.inl ⟨h1,h2,t,rfl,h⟩)
  rw[if_neg h2]at h
  exact .inr (.inr ⟨h1,h2,h⟩)
theorem parts_end{n:Nat}{ls ps:List ByteArray}{R:List ByteArray×List ByteArray}(h:partsE (n+1) [] ls ps=.ok R):R=(ls,ps):=by
 rw[partsE,if_pos rfl]at h
 injection h with h
 exact h.symm
theorem name_toL{s:ByteArray}{l:List UInt8}:s.toList=l↔s=bytesV l:=by
 rw[ByteArray.toList_eq,ba_eq]
 exact Iff.rfl
theorem text_le{wi:List TV}{t:ByteArray}(h:textE wi=.ok t):t.size≤(textsL wi).length:=by
 unfold textE at h
 split at h
 ·injection h with h
  rw[←h]
  show (Lib.trimS (textsL wi) blanks4).toArray.size≤_
  rw[List.size_toArray]
  exact trimS_le _ _
 cases h
structure Two (w wr:World) (v3 v4:Value) (ls ps:List ByteArray):Prop where
 o3:wr.ownsRow w.heap.size 9 1 v3 ls.length (scells ls)
 o4:wr.ownsRow w.heap.size 9 1 v4 ps.length (scells ps)
 ne:v3.ownBlock≠v4.ownBlock
 b:Below w.heap.size w wr
theorem Two.below{w wr w1:World}{v3 v4:Value}{ls ps:List ByteArray}(h:Two w wr v3 v4 ls ps)(hb:Below wr.heap.size wr w1):Two w w1 v3 v4 ls ps:=
 ⟨own_below h.o3 hb,own_below h.o4 hb,h.ne,h.b.trans (hb.mono h.b.size)⟩
theorem Two.put3{w wr w1:World}{v3 v4 v':Value}{ls ps:List ByteArray}{t:ByteArray}(h:Two w wr v3 v4 ls ps)(o:w1.ownsRow w.heap.size 9 1 v' (ls.length+1) (scells ls++[Value.string t]))(g:wr.grownBy w1 v3.ownBlock)(hp:v'.ownBlock=v3.ownBlock∨v'.ownBlock=some (wr.heap.size+1)):Two w w1 v' v4 (ls++[t]) ps:=by
 refine ⟨by rw[List.length_append,scells_snoc];exact o,h.o4.kept g (.inr fun e=>h.ne e.symm),?_,h.b.grown g h.b.size (fun k hk=>(h.o3.lt k hk).1)⟩
 rcases hp with hp|hp
 ·rw[hp];exact h.ne
 rw[hp]
 intro e
 have:=(h.o4.lt _ e.symm).2
 omega
theorem Two.put4{w wr w1:World}{v3 v4 v':Value}{ls ps:List ByteArray}{t:ByteArray}(h:Two w wr v3 v4 ls ps)(o:w1.ownsRow w.heap.size 9 1 v' (ps.length+1) (scells ps++[Value.string t]))(g:wr.grownBy w1 v4.ownBlock)(hp:v'.ownBlock=v4.ownBlock∨v'.ownBlock=some (wr.heap.size+1)):Two w w1 v3 v' ls (ps++[t]):=by
 refine ⟨h.o3.kept g (.inr fun e=>h.ne e),by rw[List.length_append,scells_snoc];exact o,?_,h.b.grown g h.b.size (fun k hk=>(h.o4.lt k hk).1)⟩
 rcases hp with hp|hp
 ·rw[hp];exact h.ne
 rw[hp]
 intro e
 have:=(h.o3.lt _ e).2
 omega
theorem implReadEntry(nm0:ByteArray)(l:List TV)(v:Value)(x:EV)(w:World)(hl:l.length≤1048576)(hz:(textsL l).length≤16777216)(h:TokRow w v l)(hE:entryE l=.ok x):
  Calls Tryz.prog 63 #[.agg #[.string nm0,v]] w fun e w'=>e=.returned (.agg #[.string x.s,.int .i64 x.k])∧Below w.heap.size w w':=by
 obtain ⟨LS,PS,hp,hl1,hne,hps,hpr⟩: ∃LS PS,partsE (l.length+1) l [] []=.ok (LS,PS)∧LS=[x.s]∧x.s.data.toList≠[]∧PS.length≤1∧prioE PS=.ok x.k:=by
  unfold entryE at hE
  cases hp:partsE (l.length+1) l [] []with
  |error c=>rw[hp]at hE;cases hE
  |ok R=>
   obtain ⟨LS,PS⟩:=R
   rw[hp]at hE
   dsimp only at hE
   split at hE
   ·rename_i hh
    cases hq:prioE PS with
    |error c=>rw[hq]at hE;cases hE
    |ok k=>
     rw[hq]at hE
     injection hE with hE
     subst hE
     refine ⟨LS,PS,rfl,?_,hh.2.1,hh.2.2,hq⟩
     match LS,hh.1 with
     |[a],_=>rfl
   cases hE
 have HP0:Hid (partsE (l.length+1) l [] []=.ok (LS,PS)):=hp
 have HL1:Hid (LS=[x.s]):=hl1
 have HNE:Hid (x.s.data.toList≠[]):=hne
 have HPS:Hid (PS.length≤1):=hps
 have HPR:Hid (prioE PS=.ok x.k):=hpr
 clear hp hl1 hne hps hpr hE
 obtain ⟨vo,vc,rfl⟩:=h.slice
 obtain ⟨W0,hW0⟩: ∃W0,W0=(w.alloc (.cells #[.string nm0,.slice vo l.length vc] 87)).alloc (.cells #[.string ⟨#[]⟩,.int .i64 0] 32):=⟨_,rfl⟩
 have bW:Below w.heap.size w W0:=by rw[hW0];exact ((Below.refl _ _).alloc (Nat.le_refl _) _).alloc (by simp) _
 have HROW:Hid (TokRow W0 (.slice vo l.length vc) l):=h.below bW
 clear h
 have AW:BAt W0 w.heap.size [.string nm0,.slice vo l.length vc]:=by rw[hW0];exact (BAt.new w #[.string nm0,.slice vo l.length vc] _).alloc _
 have AR:BAt W0 (w.heap.size+1) [.string ⟨#[]⟩,.int .i64 0]:=by
  rw[hW0]
  have:=BAt.new (w.alloc (.cells #[.string nm0,.slice vo l.length vc] 87)) #[.string ⟨#[]⟩,.int .i64 0] 32
  rw[World.size_alloc]at this
  exact this
 have HAR:Hid (BAt W0 (w.heap.size+1) [.string ⟨#[]⟩,.int .i64 0]):=AR
 obtain ⟨O,hO⟩: ∃O,O=(W0.alloc (.cells #[] 9)).alloc (.cells #[] 9):=⟨_,rfl⟩
 have bO:Below W0.heap.size W0 O:=by rw[hO];exact ((Below.refl _ _).alloc (Nat.le_refl _) _).alloc (by simp) _
 have T0:Hid (Two W0 O (.slice (some ⟨W0.heap.size,0,none⟩) 0 0) (.slice (some ⟨W0.heap.size+1,0,none⟩) 0 0) [] []):=by
  refine ⟨?_,?_,by simp[Value.ownBlock],bO⟩
  ·rw[hO]
   exact (World.ownsRow_lit W0 (e:=9) (size:=1) (base:=W0.heap.size) #[] 0 (Nat.le_refl _) (by decide) rfl).alloc _
  rw[hO]
  have:=World.ownsRow_lit (W0.alloc (.cells #[] 9)) (e:=9) (size:=1) (base:=W0.heap.size) #[] 0 (by simp) (by decide) rfl
  simp only[World.size_alloc]at this
  exact this
 have c1:=(AW.below bO).1 1 _ rfl
 have hsW:W0.heap.size=w.heap.size+1+1:=by rw[hW0];simp
 go_enter Tryz.func63,Tryz.ntmps63
 go_upto_region 2 with fail
 rw[←hW0,←hO,←hsW]
 have HSW:Hid (W0.heap.size=w.heap.size+1+1):=hsW
 clear hW0 hO hsW AW AR
 go_wp2_with fail
 clear c1
 go_loopw[3,4,5] (fun a b r wr=> ∃(n:Nat) (rest:List TV) (ro:Option Addr) (rc:Nat) (ls ps:List ByteArray),r=.slice ro rest.length rc∧ls.length+ps.length+rest.length≤l.length∧rest.length<n∧Hid (partsE n rest ls ps=.ok (LS,PS))∧Hid (TokRow W0 (.slice ro rest.length rc) rest)∧Hid (Two W0 wr a b ls ps)∧Hid (∀p∈ps,p.size≤16777216)∧(textsL rest).length≤16777216) (fun _ _ r _=>lenV r)
 case atStart=>exact ⟨l.length+1,l,vo,vc,[],[],rfl,by simp,by omega,HP0,HROW,T0,fun p hp=>absurd hp (List.not_mem_nil),hz⟩
 obtain ⟨n,rest,ro,rc,ls,ps,rfl,hcnt,hfuel,HP,HR,HT,HZ,hzr⟩:=hrel
 clear T0 HP0 bO HROW
 obtain ⟨n,rfl⟩: ∃m,n=m+1:=⟨n-1,by omega⟩
 by_cases hr:rest=[]
 ·subst hr
  have hEQ:=parts_end HP.out
  injection hEQ with hq1 hq2
  subst hq2
  have hls:ls=[x.s]:=hq1.symm.trans HL1.out
  clear hq1 HP HR hcnt hfuel
  subst hls
  have S3:=StrRow.of_own HT.out.o3
  have S4:=StrRow.of_own HT.out.o4
  obtain ⟨a4,c4,rfl⟩:=S4.slice
  rcases S3 with ⟨h,_⟩|⟨_,g3,off3,cap3,rfl,hg3,hc3⟩
  ·cases h
  have c3:=hc3 0 (by simp)
  rw[Nat.add_zero,show [x.s].getD 0 ByteArray.empty=x.s from rfl]at c3
  have hg3W:W0.heap.size≤g3:=(HT.out.o3.lt g3 rfl).1
  have HS4:Hid (StrRow wr (.slice a4 PS.length c4) PS):=S4
  have bwr:=HT.out.b
  have A2:Hid (BAt wr (w.heap.size+1) [.string ⟨#[]⟩,.int .i64 0]):=HAR.out.below bwr
  have hsW:=HSW.out
  have hps1:(PS.length:Int)≤1:=by have:=HPS.out;omega
  have hemp:x.s.toList.isEmpty=false:=by
   cases he:x.s.toList.isEmpty with
   |false=>rfl
   |true=>
    exfalso
    rw[ByteArray.toList_eq,List.isEmpty_iff]at he
    exact HNE.out he
  rw[show [x.s].length=1 from rfl]
  clear hc3 S4 HT
  have hsWW: ¬g3=w.heap.size+1:=by omega
  have hsWr:=bwr.size
  clear hsW
  go_upto_region 12 with (go_at_call 43;refine (implInsist _ _).mono ?_;rintro e w' ⟨rfl,rfl⟩)
  refine wp_region_held_drew (S:=fun W=>W.cell? ⟨g3,off3,none⟩=some (.string x.s)) (by kernel_rfl) c3 (fun s0=> ?_)
  refine wpAnyH_take (i:=0) (v:= ?_) rfl (by kernel_rfl) (by kernel_rfl) (by kernel_rfl) (fun _ _ _ h=>h) (Or.inl ⟨by rfl,fun W hW=> ?_⟩) s0 ?_
  rotate_left
  ·clear hW
   go_simp
   try with_reducible rfl
  simp only[Act.put,List.getElem_toArray,List.getElem_cons_zero,List.getElem_cons_succ,List.setIfInBounds_toArray,List.set_cons_zero,List.set_cons_succ]
  refine wpAnyH_take (i:=1) (v:= ?_) rfl (by kernel_rfl) (by kernel_rfl) (by kernel_rfl) (fun _ _ _ h=>h) (Or.inl ⟨by rfl,fun W hW=> ?_⟩) s0 ?_
  rotate_left
  ·clear hW
   go_simp
   try with_reducible rfl
  simp only[Act.put,List.getElem_toArray,List.getElem_cons_zero,List.getElem_cons_succ,List.setIfInBounds_toArray,List.set_cons_zero,List.set_cons_succ]
  refine wpAnyH_take (i:=2) (v:=.string x.s) rfl (by kernel_rfl) (by kernel_rfl) (by kernel_rfl) (fun _ _ _ h=>h) (Or.inl ⟨by rfl,fun W hW=> ?_⟩) s0 ?_
  ·go_simp
  simp only[Act.put,List.getElem_toArray,List.getElem_cons_zero,List.getElem_cons_succ,List.setIfInBounds_toArray,List.set_cons_zero,List.set_cons_succ]
  refine wpAnyH_take (i:=3) (v:= ?_) rfl (by kernel_rfl) (by kernel_rfl) (by kernel_rfl) (fun _ _ _ h=>h) (Or.inl ⟨by rfl,fun W hW=> ?_⟩) s0 ?_
  rotate_left
  ·clear hW
   go_simp
   try with_reducible rfl
  simp only[Act.put,List.getElem_toArray,List.getElem_cons_zero,List.getElem_cons_succ,List.setIfInBounds_toArray,List.set_cons_zero,List.set_cons_succ]
  have CP:=hidB (implReadPriority PS (.slice a4 PS.length c4) x.k wr.drew HZ.out HS4.out HPR.out)
  refine wpAnyH_ready (rs:=[4]) (by kernel_rfl) (by simp) (AllReadyH.cons rfl (fun K hK=> ?_) AllReadyH.nil)
  go_simp
  go_wp2_with (go_at_call 81;refine CP.out.mono ?_;rintro e w5 ⟨rfl,b5⟩)
  refine hK.out _ _ ?_ (fun s1=> ?_)
  ·exact (b5.cell (p:=⟨g3,off3,none⟩) hg3).trans c3
  clear hK K s0 CP
  refine wpAnyH_take (i:=5) (v:= ?_) rfl (by kernel_rfl) (by kernel_rfl) (by kernel_rfl) (fun _ _ _ h=>h) (Or.inl ⟨by rfl,fun W hW=> ?_⟩) s1 ?_
  rotate_left
  ·clear hW
   go_simp
   try with_reducible rfl
  simp only[Act.put,List.getElem_toArray,List.getElem_cons_zero,List.getElem_cons_succ,List.setIfInBounds_toArray,List.set_cons_zero,List.set_cons_succ]
  have A5:BAt w5 (w.heap.size+1) [.string ⟨#[]⟩,.int .i64 0]:=A2.out.below (W:=wr.drew) b5
  have a0:=A5.1 0 _ rfl
  have a1:=A5.1 1 _ rfl
  have f0:=A5.2.1
  have A6:Hid (BAt ((w5.setCell ⟨w.heap.size+1,0,none⟩ (.string x.s)).setCell ⟨w.heap.size+1,1,none⟩ (.int .i64 x.k)) (w.heap.size+1) [.string x.s,.int .i64 x.k]):=(A5.set 0 (by simp) (.string x.s)).set 1 (by simp) (.int .i64 x.k)
  refine wpAnyH_ready (rs:=[6]) (by kernel_rfl) (by simp) (AllReadyH.cons rfl (fun K hK=> ?_) AllReadyH.nil)
  go_simp
  refine hK.out _ _ ?_ (fun s2=> ?_)
  ·show World.cell? _ _=_
   rw[World.cell?_setCell_other _ _ _ _ (fun e=>by injection e with e1;omega),World.cell?_setCell_other _ _ _ _ (fun e=>by injection e with e1;omega)]
   exact (b5.cell (p:=⟨g3,off3,none⟩) hg3).trans c3
  clear hK K s1
  refine wpAnyH_done (by kernel_rfl) ?_ _
  go_wp2_with fail
  refine bodyPost_ret (ent_result1 rfl _ _ (w.heap.size+1) (.string x.s) (.int .i64 x.k) rfl A6.out) rfl ⟨rfl,?_⟩
  have B5:Below w.heap.size w w5:=bW.trans ((bwr.drew.trans (b5.mono bwr.size)).mono bW.size)
  exact (B5.setCell (p:=⟨w.heap.size+1,0,none⟩) (by simp) _).setCell (p:=⟨w.heap.size+1,1,none⟩) (by simp) _
 obtain ⟨nm,wi,be,hcut,hways⟩:=parts_step HP.out hr
 have hpos:(0:Int)<rest.length:=by
  have:rest.length≠0:=fun e=>hr (List.eq_nil_of_length_eq_zero e)
  omega
 obtain ⟨k1,k2,k3,k4⟩:=cutE_le hcut
 have CE:=hidB (implCutElement rest (.slice ro rest.length rc) 3 nm wi be wr (by omega) (HR.out.below HT.out.b) hcut)
 clear hcut HP
 go_wp2_with fail
 refine CE.out.mono ?_
 rintro e w1 ⟨⟨va,vb,rfl,hsub⟩,b1⟩
 obtain ⟨ta,tb⟩:=hsub W0 HR.out
 obtain ⟨xo,xc,rfl⟩:=ta.slice
 obtain ⟨bo,bc,rfl⟩:=tb.slice
 have HTA:Hid (TokRow W0 (.slice xo wi.length xc) wi):=ta
 have HTB:Hid (TokRow W0 (.slice bo be.length bc) be):=tb
 have HT1:Hid (Two W0 w1 u3 u4 ls ps):=HT.out.below b1
 clear ta tb hsub CE HT HR b1
 obtain ⟨U,hU⟩: ∃U,U=w1.alloc (.cells #[.string nm,.slice xo wi.length xc] 87):=⟨_,rfl⟩
 have bU:Below w1.heap.size w1 U:=by rw[hU];exact (Below.refl _ _).alloc (Nat.le_refl _) _
 have AU:BAt U w1.heap.size [.string nm,.slice xo wi.length xc]:=by rw[hU];exact BAt.new w1 #[.string nm,.slice xo wi.length xc] _
 have HTU:Hid (Two W0 U u3 u4 ls ps):=HT1.out.below bU
 have d0:=AU.1 0 _ rfl
 have d1:=AU.1 1 _ rfl
 go_upto_region 5 with fail
 rw[←hU]
 clear hU bU AU HT1
 generalize w1.heap.size=D at*
 rcases hways with ⟨hn,t,ht,hp⟩|⟨hn1,hn,t,ht,hp⟩|⟨hn1,hn2,hp⟩
 ·have hnl:nm.toList=[108,111,99]:=name_toL.2 hn
  have CX:=hidB (implTextIn nm wi (.slice xo wi.length xc) t U (by omega) (by omega) (HTA.out.below HTU.out.b) ht)
  have HP1:Hid (partsE n be (ls++[t]) ps=.ok (LS,PS)):=hp
  clear hn hp ht HTA
  go_wp2_with fail
  refine CX.out.mono ?_
  rintro e w2 ⟨rfl,b2⟩
  have HT2:Hid (Two W0 w2 u3 u4 ls ps):=HTU.out.below b2
  have hsz:=HT2.out.b.size
  have ow:=HT2.out.o3
  clear HTU CX b2 d0 d1
  go_wp2_with (at_builtin;refine wpList_append_newAt _ rfl _ _ 64 rfl W0.heap.size 9 (.string ⟨#[]⟩) 16 Tryz.underlying64 Tryz.infoStr rfl _ _ _ rfl ow #[.string t] 1 rfl rfl (str_one _) (by omega) (by unfold maxLen;omega) hsz ?_)
  intro v' w3 o3 g3 p3
  have HT3:Hid (Two W0 w3 v' u4 (ls++[t]) ps):=HT2.out.put3 o3 g3 p3
  clear o3 g3 p3 ow HT2
  go_wp2_with fail
  go_roundw
  case rel=>exact ⟨n,be,bo,bc,ls++[t],ps,rfl,by rw[List.length_append,List.length_singleton];omega,by omega,HP1,HTB,HT3,HZ,by omega⟩
  case measure=>show be.length<rest.length;omega
 ·have hnl:nm.toList=[112,114,105,111,114,105,116,121]:=name_toL.2 hn
  have CX:=hidB (implTextIn nm wi (.slice xo wi.length xc) t U (by omega) (by omega) (HTA.out.below HTU.out.b) ht)
  have HP1:Hid (partsE n be ls (ps++[t])=.ok (LS,PS)):=hp
  have HZ1:Hid (∀p∈ps++[t],p.size≤16777216):=fun p hp=>by
   rcases List.mem_append.1 hp with hp|hp
   ·exact HZ.out p hp
   rw[List.mem_singleton.1 hp]
   have:=text_le ht
   omega
  clear hn hp ht HTA hn1
  go_wp2_with fail
  refine CX.out.mono ?_
  rintro e w2 ⟨rfl,b2⟩
  have HT2:Hid (Two W0 w2 u3 u4 ls ps):=HTU.out.below b2
  have hsz:=HT2.out.b.size
  have ow:=HT2.out.o4
  clear HTU CX b2 d0 d1
  go_wp2_with (at_builtin;refine wpList_append_newAt _ rfl _ _ 64 rfl W0.heap.size 9 (.string ⟨#[]⟩) 16 Tryz.underlying64 Tryz.infoStr rfl _ _ _ rfl ow #[.string t] 1 rfl rfl (str_one _) (by omega) (by unfold maxLen;omega) hsz ?_)
  intro v' w3 o3 g3 p3
  have HT3:Hid (Two W0 w3 u3 v' ls (ps++[t])):=HT2.out.put4 o3 g3 p3
  clear o3 g3 p3 ow HT2
  go_wp2_with fail
  go_roundw
  case rel=>exact ⟨n,be,bo,bc,ls,ps++[t],rfl,by rw[List.length_append,List.length_singleton];omega,by omega,HP1,HTB,HT3,HZ1,by omega⟩
  case measure=>show be.length<rest.length;omega
 have hnl1:(nm.toList==[108,111,99])=false:=beq_eq_false_iff_ne.2 fun h=>hn1 (name_toL.1 h)
 have hnl2:(nm.toList==[112,114,105,111,114,105,116,121])=false:=beq_eq_false_iff_ne.2 fun h=>hn2 (name_toL.1 h)
 have HP1:Hid (partsE n be ls ps=.ok (LS,PS)):=hp
 clear hp hn1 hn2 HTA
 go_wp2_with fail
 go_roundw
 case rel=>exact ⟨n,be,bo,bc,ls,ps,rfl,by omega,by omega,HP1,HTB,HTU,HZ,by omega⟩
 case measure=>show be.length<rest.length;omega
end Go.Proofs.YtfdgehlobbeomaaGreatDoor
