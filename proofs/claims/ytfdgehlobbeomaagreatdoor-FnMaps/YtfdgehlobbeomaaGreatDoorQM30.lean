/- Draw14. -/
import Derived.Test.YtfdgehlobbeomaaGreatDoorQM29
import Derived.Test.YtfdgehlobbeomaaGreatDoorQM25
set_option maxHeartbeats 8000000
set_option maxRecDepth 100000
namespace Go.Proofs.YtfdgehlobbeomaaGreatDoor
open Go.RowKit
set_option linter.unusedVariables false
set_option linter.unusedSimpArgs false
def locB(l:List UInt8):Bool:=decide (l≠[])&&decide (Lib.trimS l blanks4=l)
def EntGood(e:EV):Prop:=EntOk e∧Lib.trimS e.s.data.toList blanks4=e.s.data.toList∧e.s.size≤30
theorem seam3{α β γ:Type}{G:Prop}{H P:α→β→γ→Prop}(h1:(∀a b c,H a b c→P a b c)→G)(h2: ∀a b c,H a b c→P a b c):G:=h1 h2
theorem seam5{α β γ δ ε:Type}{G:Prop}{H P:α→β→γ→δ→ε→Prop}(h1:(∀a b c d e,H a b c d e→P a b c d e)→G)(h2: ∀a b c d e,H a b c d e→P a b c d e):G:=h1 h2
theorem hidD{p:Prop}(h:p):Hid p:=h
theorem l14Loc(D B:Nat)(ao:Option Addr)(len cap:Nat)(w:World)(hcur:Cur D B ao len cap w):
  Calls Tryz.prog 38 #[.pointer (some ⟨B,0,none⟩)] w fun e w'=> ∃z:ByteArray,Hid (z.size≤30∧locB z.data.toList=true)∧e=.returned (.string z)∧Cur D B ao len cap w'∧w.grownBy w' (some B):=by
 have HC:Hid (Cur D B ao len cap w):=hcur
 have hB:=hcur.lt
 clear hcur
 go_enter Tryz.func38,Tryz.ntmps38
 go_wp2_with fail
 refine (l1StrP locB 30 7 _ 7 0 _ _ _ _ _ _ _ (by omega) (by omega) (HC.out.alloc _) (World.ownsRow_lit w _ 7 (Nat.zero_le _) (by decide) rfl) (by omega) (by kernel_rfl)).mono ?_
 rintro e wc ⟨y,hy,rfl,cc,gc⟩
 have HY:=hidD hy
 have CC:Hid (Cur D B ao len cap wc):=cc
 have G:=grow_trans (World.grownBy_alloc w _ (some B)) gc
 clear cc gc hy
 go_wp2_with fail
 go_ret
 exact ⟨y,HY,rfl,CC.out,G⟩
def MD(D B:Nat)(ao:Option Addr)(len cap:Nat)(w:World)(R C:Nat)(b:Bool)(v:Value)(l:List EV)(W:World):Prop:=
 Cur D B ao len cap W∧w.grownBy W (some B)∧BAt W C [.bool b,v]∧W.ownsRow w.heap.size 32 2 v l.length (ecells l)∧v.ownBlock≠some C∧BAt W R [.bool false,.slice none 0 0]∧v.ownBlock≠some R
section
variable {D B:Nat} {ao:Option Addr} {len cap:Nat} {w:World} {R C:Nat} {b:Bool} {v:Value} {l:List EV} {W W':World}
theorem MD.grown(h:MD D B ao len cap w R C b v l W)(hB:B<w.heap.size)(hC:w.heap.size≤C)(hR:w.heap.size≤R)(c:Cur D B ao len cap W')(g:W.grownBy W' (some B)):MD D B ao len cap w R C b v l W':=
 ⟨c,grow_trans h.2.1 g,h.2.2.1.grown g (by omega),h.2.2.2.1.kept g (.inr fun e=>by have:=(h.2.2.2.1.lt B e).1;omega),h.2.2.2.2.1,h.2.2.2.2.2.1.grown g (by omega),h.2.2.2.2.2.2⟩
theorem MD.alloc(h:MD D B ao len cap w R C b v l W)(o:Obj):MD D B ao len cap w R C b v l (W.alloc o):=
 ⟨h.1.alloc o,grow_alloc h.2.1 o,h.2.2.1.alloc o,h.2.2.2.1.alloc o,h.2.2.2.2.1,h.2.2.2.2.2.1.alloc o,h.2.2.2.2.2.2⟩
theorem MD.drew(h:MD D B ao len cap w R C b v l W):MD D B ao len cap w R C b v l W.drew:=⟨h.1,⟨h.2.1.os,h.2.1.tape,h.2.1.output,h.2.1.size,h.2.1.block⟩,h.2.2.1,h.2.2.2.1,h.2.2.2.2.1,h.2.2.2.2.2.1,h.2.2.2.2.2.2⟩
theorem row_not{e:TypeId}{v:Value}{n:Nat}{x:EV}{base C:Nat}{c:Value}{b:Bool}(l:List EV)(o:W.ownsRow base e 2 v n (ecells (l++[x])))(hn:n=(l++[x]).length)(a:BAt W C [.bool b,c]):v.ownBlock≠some C:=fun e=>by
 rcases o.2 with ⟨rfl,h0⟩|⟨g,cp,cur,rfl,_⟩
 ·cases e
 obtain rfl:g=C:=by simpa[Value.ownBlock] using e
 have hl:0<n:=by rw[hn];simp
 have h1:=o.cellAt 0 (by omega)
 rw[a.1 0 _ rfl]at h1
 cases l with
 |nil=>cases h1
 |cons y l=>cases h1
theorem MD.app{v':Value}{x:EV}(h:MD D B ao len cap w R C b v l W)(hB:B<w.heap.size)(hC:w.heap.size≤C)(hR:w.heap.size≤R)(hCR:C≠R)(o:W'.ownsRow w.heap.size 32 2 v' (l++[x]).length (ecells (l++[x])))(g:W.grownBy W' v.ownBlock):
  BAt W' C [.bool b,v]∧MD D B ao len cap w R C b v' (l++[x]) (W'.setCell ⟨C,1,none⟩ v'):=by
 obtain ⟨h1,h2,h3,h4,h5,h6,h7⟩:=h
 have A1:BAt W' C [.bool b,v]:=h3.same g.size (g.block C h3.2.2 (fun e=>h5 e.symm))
 have A2:BAt W' R [.bool false,.slice none 0 0]:=h6.same g.size (g.block R h6.2.2 (fun e=>h7 e.symm))
 have n1:=row_not l o rfl A1
 have n2:=row_not l o rfl A2
 have hlow: ∀k,k<w.heap.size→W'.heap[k]? =W.heap[k]? :=fun k hk=>g.block k (by have:=h2.size;omega) (fun e=>by have:=(h4.lt k e.symm).1;omega)
 have hDB:=h1.le
 have gs:=put_grown W' C 1 v'
 have hlow2: ∀k,k<w.heap.size→(W'.setCell ⟨C,1,none⟩ v').heap[k]? =W.heap[k]? :=fun k hk=>(gs.block k (by have:=h2.size;have:=g.size;omega) (fun e=>by injection e with e;omega)).trans (hlow k hk)
 refine ⟨A1,h1.keep (hlow2 B hB) (fun k hk=>hlow2 k (by omega)),?_,A1.set 1 (by simp) v',?_,n1,A2.other hCR.symm 1 v',n2⟩
 ·refine ⟨gs.os.trans (g.os.trans h2.os),gs.tape.trans (g.tape.trans h2.tape),gs.output.trans (g.output.trans h2.output),Nat.le_trans h2.size (Nat.le_trans g.size gs.size),fun k hk hne=>(hlow2 k hk).trans (h2.block k hk hne)⟩
 exact o.kept gs (.inr n1)
end
def MapDrawn(w:World)(e:Ending)(w':World):Prop:= ∃(b:Bool) (l:List EV) (v:Value),(l.length≤4∧ ∀x∈l,EntGood x)∧e=.returned (.agg #[.bool b,v])∧w'.ownsRow w.heap.size 32 2 v l.length (ecells l)
theorem l14Map(D B:Nat)(ao:Option Addr)(len cap:Nat)(w:World)(hcur:Cur D B ao len cap w):
  Calls Tryz.prog 15 #[.pointer (some ⟨B,0,none⟩)] w fun e w'=>MapDrawn w e w'∧Cur D B ao len cap w'∧w.grownBy w' (some B):=by
 have HC:Hid (Cur D B ao len cap w):=hcur
 have hBw:=hcur.lt
 obtain ⟨i0,hi,hz0,hz1,hz2⟩:=info_parts Tryz.infoEnt
 clear hcur
 obtain ⟨O,hO⟩: ∃O,O=w.alloc (.cells #[.bool false,.slice none 0 0] 26):=⟨_,rfl⟩
 have AO:BAt O w.heap.size [.bool false,.slice none 0 0]:=by rw[hO];exact BAt.new w #[.bool false,.slice none 0 0] _
 have CO:Hid (Cur D B ao len cap O):=by rw[hO];exact HC.out.alloc _
 have GO:w.grownBy O (some B):=by rw[hO];exact World.grownBy_alloc w _ (some B)
 go_enter Tryz.func15,Tryz.ntmps15
 go_upto_region 1 with fail
 rw[←hO]
 clear hO HC
 go_wp2_with fail
 refine (l1Once 3 _ _ _ _ _ _ (by omega) (by omega) CO.out).mono ?_
 rintro e wa ⟨b,rfl,ca,ga⟩
 obtain ⟨U,hU⟩: ∃U,U=wa.alloc (.cells #[.bool b,.slice none 0 0] 26):=⟨_,rfl⟩
 have TU:Hid (MD D B ao len cap w w.heap.size wa.heap.size b (.slice none 0 0) [] U):=by
  rw[hU]
  exact ⟨ca.alloc _,grow_alloc (grow_trans GO ga) _,BAt.new wa #[.bool b,.slice none 0 0] _,World.ownsRow_nil _ _ _ _,(by simp[Value.ownBlock]),(AO.grown ga (by omega)).alloc _,(by simp[Value.ownBlock])⟩
 have hRw:w.heap.size≤w.heap.size:=Nat.le_refl _
 have hCw:w.heap.size≤wa.heap.size:=Nat.le_trans GO.size ga.size
 have hCR:wa.heap.size≠w.heap.size:=by have:=AO.2.2;have:=ga.size;omega
 go_upto_region 2 with fail
 rw[←hU]
 clear hU AO CO GO ca ga
 generalize wa.heap.size=C at*
 go_wp2_with fail
 refine (l1Below 5 _ _ _ _ _ _ (by omega) (by omega) TU.out.1).mono ?_
 rintro e wb ⟨x,hx0,hx1,rfl,cb,gb⟩
 have TB:=hidD (TU.out.grown hBw hCw hRw cb gb)
 clear cb gb TU
 obtain ⟨n,rfl⟩:=Int.eq_ofNat_of_zero_le hx0
 go_wp2_with fail
 go_loopw[4] (fun i wr=> ∃(k:Nat) (v:Value) (l:List EV),k≤n∧i=.int .i64 k∧l.length+k≤4∧Hid (∀e∈l,EntGood e)∧Hid (MD D B ao len cap w w.heap.size C b v l wr)) (fun i _=>(intOf i).toNat)
 case atStart=>exact ⟨n,_,[],Nat.le_refl _,rfl,by simp;omega,(fun e he=>(by cases he)),TB⟩
 obtain ⟨k,v,l,hk,rfl,hlk,HG,T⟩:=hrel
 clear TB
 obtain ⟨vo,vc,rfl⟩:=(EntRow.of_own' T.out.2.2.2.1).slice
 by_cases hp:0<k
 ·have hpi:0<(k:Int):=by omega
  obtain ⟨v,hv⟩: ∃v,Value.slice vo l.length vc=v:=⟨_,rfl⟩
  rw[hv]at T
  have T0:=hidD T.out.drew
  clear T
  go_upto_region 5 with fail
  refine wp_region_held_drew (S:=fun _=>True) (by kernel_rfl) trivial (fun h0=> ?_)
  refine wpAnyH_take (i:=0) (v:= ?_) rfl (by kernel_rfl) (by kernel_rfl) (by kernel_rfl) (fun _ _ _ h=>h) (Or.inl ⟨by rfl,fun W hW=> ?_⟩) trivial ?_
  rotate_left
  ·clear hW
   go_simp
   try with_reducible rfl
  simp only[Act.put,List.getElem_toArray,List.getElem_cons_zero,List.getElem_cons_succ,List.setIfInBounds_toArray,List.set_cons_zero,List.set_cons_succ]
  refine wpAnyH_take (i:=2) (v:= ?_) rfl (by kernel_rfl) (by kernel_rfl) (by kernel_rfl) (fun _ _ _ h=>h) (Or.inl ⟨by rfl,fun W hW=> ?_⟩) trivial ?_
  rotate_left
  ·clear hW
   go_simp
   try with_reducible rfl
  simp only[Act.put,List.getElem_toArray,List.getElem_cons_zero,List.getElem_cons_succ,List.setIfInBounds_toArray,List.set_cons_zero,List.set_cons_succ]
  refine wpAnyH_take (i:=4) (v:= ?_) rfl (by kernel_rfl) (by kernel_rfl) (by kernel_rfl) (fun _ _ _ h=>h) (Or.inl ⟨by rfl,fun W hW=> ?_⟩) trivial ?_
  rotate_left
  ·clear hW
   go_simp
   try with_reducible rfl
  simp only[Act.put,List.getElem_toArray,List.getElem_cons_zero,List.getElem_cons_succ,List.setIfInBounds_toArray,List.set_cons_zero,List.set_cons_succ]
  refine wpAnyH_take (i:=5) (v:= ?_) rfl (by kernel_rfl) (by kernel_rfl) (by kernel_rfl) (fun _ _ _ h=>h) (Or.inl ⟨by rfl,fun W hW=> ?_⟩) trivial ?_
  rotate_left
  ·clear hW
   go_simp
   try with_reducible rfl
  simp only[Act.put,List.getElem_toArray,List.getElem_cons_zero,List.getElem_cons_succ,List.setIfInBounds_toArray,List.set_cons_zero,List.set_cons_succ]
  apply seam5 (H:=fun (s:ByteArray) (y pz:Int) (w2 w3:World)=>Hid (s.size≤30∧locB s.data.toList=true)∧Hid (0≤pz∧pz≤1000)∧Hid (MD D B ao len cap w w.heap.size C b v l (w3.alloc (.cells #[.string s,.int .i64 pz] 32))))
  case h1=>
   intro FIN
   apply seam3 (H:=fun (s:ByteArray) (y:Int) (w2:World)=>Hid (s.size≤30∧locB s.data.toList=true)∧Hid (MD D B ao len cap w w.heap.size C b v l w2∧0≤y∧y<1001))
   case h1=>
    intro MID
    refine wpAnyH_ready (rs:=[1,3]) (by kernel_rfl) (by simp) (AllReadyH.cons rfl (fun K hK=> ?_) (AllReadyH.cons rfl (fun K hK=> ?_) AllReadyH.nil))
    ·have q0:=(T0.out).2.2.1.1 1 _ rfl
     go_simp
     refine hK.out _ _ trivial (fun _=> ?_)
     clear hK K q0
     refine wpAnyH_ready (rs:=[3]) (by kernel_rfl) (by simp) (AllReadyH.cons rfl (fun K hK=> ?_) AllReadyH.nil)
     rw[if_pos (by rfl)]
     go_wp2_with (go_at_call 38;refine (l14Loc _ _ _ _ _ _ T0.out.1).mono ?_;rintro e w1 ⟨s,HSL,rfl,c1,g1⟩)
     refine hK.out _ _ trivial (fun _=> ?_)
     clear hK K
     have T1:=hidD (T0.out.grown hBw hCw hRw c1 g1)
     clear c1 g1
     refine wpAnyH_ready (rs:=[6]) (by kernel_rfl) (by simp) (AllReadyH.cons rfl (fun K hK=> ?_) AllReadyH.nil)
     rw[if_pos (by rfl)]
     go_wp2_with (go_at_call 25;refine (l1Below 1001 _ _ _ _ _ _ (by omega) (by omega) T1.out.1).mono ?_;rintro e w2 ⟨y,hy0,hy1,rfl,c2,g2⟩)
     refine hK.out _ _ trivial (fun _=> ?_)
     clear hK K
     have T2:=hidD (T1.out.grown hBw hCw hRw c2 g2)
     have TI:=hidD (T2.out.alloc (.cells #[.int .i64 0,.int .i64 500,.int .i64 1000,.int .i64 7,.int .i64 y] 3))
     have hw2:=T2.out.1.lt
     clear c2 g2
     exact MID s y w2 ⟨HSL,hidD ⟨T2.out,hy0,hy1⟩⟩
    rw[if_pos (by rfl)]
    go_wp2_with (go_at_call 38;refine (l14Loc _ _ _ _ _ _ T0.out.1).mono ?_;rintro e w1 ⟨s,HSL,rfl,c1,g1⟩)
    refine hK.out _ _ trivial (fun _=> ?_)
    clear hK K
    have T1:=hidD (T0.out.grown hBw hCw hRw c1 g1)
    clear c1 g1
    refine wpAnyH_ready (rs:=[1,6]) (by kernel_rfl) (by simp) (AllReadyH.cons rfl (fun K hK=> ?_) (AllReadyH.cons rfl (fun K hK=> ?_) AllReadyH.nil))
    ·have q0:=(T1.out).2.2.1.1 1 _ rfl
     go_simp
     refine hK.out _ _ trivial (fun _=> ?_)
     clear hK K q0
     refine wpAnyH_ready (rs:=[6]) (by kernel_rfl) (by simp) (AllReadyH.cons rfl (fun K hK=> ?_) AllReadyH.nil)
     rw[if_pos (by rfl)]
     go_wp2_with (go_at_call 25;refine (l1Below 1001 _ _ _ _ _ _ (by omega) (by omega) T1.out.1).mono ?_;rintro e w2 ⟨y,hy0,hy1,rfl,c2,g2⟩)
     refine hK.out _ _ trivial (fun _=> ?_)
     clear hK K
     have T2:=hidD (T1.out.grown hBw hCw hRw c2 g2)
     have TI:=hidD (T2.out.alloc (.cells #[.int .i64 0,.int .i64 500,.int .i64 1000,.int .i64 7,.int .i64 y] 3))
     have hw2:=T2.out.1.lt
     clear c2 g2
     exact MID s y w2 ⟨HSL,hidD ⟨T2.out,hy0,hy1⟩⟩
    rw[if_pos (by rfl)]
    go_wp2_with (go_at_call 25;refine (l1Below 1001 _ _ _ _ _ _ (by omega) (by omega) T1.out.1).mono ?_;rintro e w2 ⟨y,hy0,hy1,rfl,c2,g2⟩)
    refine hK.out _ _ trivial (fun _=> ?_)
    clear hK K
    have T2:=hidD (T1.out.grown hBw hCw hRw c2 g2)
    have TI:=hidD (T2.out.alloc (.cells #[.int .i64 0,.int .i64 500,.int .i64 1000,.int .i64 7,.int .i64 y] 3))
    have hw2:=T2.out.1.lt
    clear c2 g2
    refine wpAnyH_ready (rs:=[1,7]) (by kernel_rfl) (by simp) (AllReadyH.cons rfl (fun K hK=> ?_) (AllReadyH.cons rfl (fun K hK=> ?_) AllReadyH.nil))
    ·have q0:=(T2.out).2.2.1.1 1 _ rfl
     go_simp
     refine hK.out _ _ trivial (fun _=> ?_)
     clear hK K q0
     exact MID s y w2 ⟨HSL,hidD ⟨T2.out,hy0,hy1⟩⟩
    go_simp
    refine hK.out _ _ trivial (fun _=> ?_)
    clear hK K
    refine wpAnyH_ready (rs:=[1,8]) (by kernel_rfl) (by simp) (AllReadyH.cons rfl (fun K hK=> ?_) (AllReadyH.cons rfl (fun K hK=> ?_) AllReadyH.nil))
    ·have q0:=(TI.out).2.2.1.1 1 _ rfl
     go_simp
     refine hK.out _ _ trivial (fun _=> ?_)
     clear hK K q0
     refine wpAnyH_ready (rs:=[8]) (by kernel_rfl) (by simp) (AllReadyH.cons rfl (fun K hK=> ?_) AllReadyH.nil)
     rw[if_pos (by rfl)]
     go_wp2_with (go_at_call 24;refine (l1Int 5 _ 5 0 [0,500,1000,7,y] _ _ _ _ _ _ (by omega) (by omega) TI.out.1 (World.ownsRow_lit w2 #[.int .i64 0,.int .i64 500,.int .i64 1000,.int .i64 7,.int .i64 y] 5 (Nat.zero_le _) (by decide) rfl) (by omega)).mono ?_;rintro e w3 ⟨pz,hpz,rfl,c3,g3⟩)
     refine hK.out _ _ trivial (fun _=> ?_)
     clear hK K
     have HPZ:Hid (0≤pz∧pz≤1000):=by
      simp at hpz
      show _∧_
      omega
     have T3:=hidD (TI.out.grown hBw hCw hRw c3 g3)
     have TE:=hidD (T3.out.alloc (.cells #[.string s,.int .i64 pz] 32))
     clear c3 g3 hpz
     refine wpAnyH_take (i:=9) (v:= ?_) rfl (by kernel_rfl) (by kernel_rfl) (by kernel_rfl) (fun _ _ _ h=>h) (Or.inl ⟨by rfl,fun W hW=> ?_⟩) trivial ?_
     rotate_left
     ·clear hW
      go_simp
      try with_reducible rfl
     simp only[Act.put,List.getElem_toArray,List.getElem_cons_zero,List.getElem_cons_succ,List.setIfInBounds_toArray,List.set_cons_zero,List.set_cons_succ]
     refine wpAnyH_ready (rs:=[10]) (by kernel_rfl) (by simp) (AllReadyH.cons rfl (fun K hK=> ?_) AllReadyH.nil)
     go_simp
     refine hK.out _ _ trivial (fun _=> ?_)
     clear hK K
     exact FIN s y pz w2 w3 ⟨HSL,HPZ,TE⟩
    rw[if_pos (by rfl)]
    go_wp2_with (go_at_call 24;refine (l1Int 5 _ 5 0 [0,500,1000,7,y] _ _ _ _ _ _ (by omega) (by omega) TI.out.1 (World.ownsRow_lit w2 #[.int .i64 0,.int .i64 500,.int .i64 1000,.int .i64 7,.int .i64 y] 5 (Nat.zero_le _) (by decide) rfl) (by omega)).mono ?_;rintro e w3 ⟨pz,hpz,rfl,c3,g3⟩)
    refine hK.out _ _ trivial (fun _=> ?_)
    clear hK K
    have HPZ:Hid (0≤pz∧pz≤1000):=by
     simp at hpz
     show _∧_
     omega
    have T3:=hidD (TI.out.grown hBw hCw hRw c3 g3)
    have TE:=hidD (T3.out.alloc (.cells #[.string s,.int .i64 pz] 32))
    clear c3 g3 hpz
    refine wpAnyH_take (i:=9) (v:= ?_) rfl (by kernel_rfl) (by kernel_rfl) (by kernel_rfl) (fun _ _ _ h=>h) (Or.inl ⟨by rfl,fun W hW=> ?_⟩) trivial ?_
    rotate_left
    ·clear hW
     go_simp
     try with_reducible rfl
    simp only[Act.put,List.getElem_toArray,List.getElem_cons_zero,List.getElem_cons_succ,List.setIfInBounds_toArray,List.set_cons_zero,List.set_cons_succ]
    refine wpAnyH_ready (rs:=[1,10]) (by kernel_rfl) (by simp) (AllReadyH.cons rfl (fun K hK=> ?_) (AllReadyH.cons rfl (fun K hK=> ?_) AllReadyH.nil))
    ·have q0:=(T3.out).2.2.1.1 1 _ rfl
     go_simp
     refine hK.out _ _ trivial (fun _=> ?_)
     clear hK K q0
     refine wpAnyH_ready (rs:=[10]) (by kernel_rfl) (by simp) (AllReadyH.cons rfl (fun K hK=> ?_) AllReadyH.nil)
     go_simp
     refine hK.out _ _ trivial (fun _=> ?_)
     clear hK K
     exact FIN s y pz w2 w3 ⟨HSL,HPZ,TE⟩
    go_simp
    refine hK.out _ _ trivial (fun _=> ?_)
    clear hK K
    refine wpAnyH_ready (rs:=[1]) (by kernel_rfl) (by simp) (AllReadyH.cons rfl (fun K hK=> ?_) AllReadyH.nil)
    have q0:=(TE.out).2.2.1.1 1 _ rfl
    go_simp
    refine hK.out _ _ trivial (fun _=> ?_)
    clear hK K q0
    exact FIN s y pz w2 w3 ⟨HSL,HPZ,TE⟩
   case h2=>
    rintro s y w2 ⟨HSL,T2Y⟩
    have T2:=hidD T2Y.out.1
    obtain ⟨hy0,hy1⟩:=T2Y.out.2
    have TI:=hidD (T2.out.alloc (.cells #[.int .i64 0,.int .i64 500,.int .i64 1000,.int .i64 7,.int .i64 y] 3))
    have hw2:=T2.out.1.lt
    refine wpAnyH_ready (rs:=[7]) (by kernel_rfl) (by simp) (AllReadyH.cons rfl (fun K hK=> ?_) AllReadyH.nil)
    go_simp
    refine hK.out _ _ trivial (fun _=> ?_)
    clear hK K
    refine wpAnyH_ready (rs:=[8]) (by kernel_rfl) (by simp) (AllReadyH.cons rfl (fun K hK=> ?_) AllReadyH.nil)
    rw[if_pos (by rfl)]
    go_wp2_with (go_at_call 24;refine (l1Int 5 _ 5 0 [0,500,1000,7,y] _ _ _ _ _ _ (by omega) (by omega) TI.out.1 (World.ownsRow_lit w2 #[.int .i64 0,.int .i64 500,.int .i64 1000,.int .i64 7,.int .i64 y] 5 (Nat.zero_le _) (by decide) rfl) (by omega)).mono ?_;rintro e w3 ⟨pz,hpz,rfl,c3,g3⟩)
    refine hK.out _ _ trivial (fun _=> ?_)
    clear hK K
    have HPZ:Hid (0≤pz∧pz≤1000):=by
     simp at hpz
     show _∧_
     omega
    have T3:=hidD (TI.out.grown hBw hCw hRw c3 g3)
    have TE:=hidD (T3.out.alloc (.cells #[.string s,.int .i64 pz] 32))
    clear c3 g3 hpz
    refine wpAnyH_take (i:=9) (v:= ?_) rfl (by kernel_rfl) (by kernel_rfl) (by kernel_rfl) (fun _ _ _ h=>h) (Or.inl ⟨by rfl,fun W hW=> ?_⟩) trivial ?_
    rotate_left
    ·clear hW
     go_simp
     try with_reducible rfl
    simp only[Act.put,List.getElem_toArray,List.getElem_cons_zero,List.getElem_cons_succ,List.setIfInBounds_toArray,List.set_cons_zero,List.set_cons_succ]
    refine wpAnyH_ready (rs:=[10]) (by kernel_rfl) (by simp) (AllReadyH.cons rfl (fun K hK=> ?_) AllReadyH.nil)
    go_simp
    refine hK.out _ _ trivial (fun _=> ?_)
    clear hK K
    exact FIN s y pz w2 w3 ⟨HSL,HPZ,TE⟩
  case h2=>
   rintro s y pz w2 w3 ⟨HSL,HPZ,TE⟩
   refine wpAnyH_ready (rs:=[11]) (by kernel_rfl) (by simp) (AllReadyH.cons rfl (fun K hK=> ?_) AllReadyH.nil)
   rw[if_pos (by rfl)]
   refine wp_append_own _ (.tmp 15) (.tmp 24) 24 rfl w.heap.size 32 i0 (.agg #[.string ⟨#[]⟩,.int .i64 0]) 2 24 Tryz.underlying24 hi hz0 hz1 hz2 rfl (by decide) v l.length (ecells l) rfl TE.out.2.2.2.1 ⟨w3.heap.size,0,none⟩ 1 1 [.string s,.int .i64 pz] rfl rfl (fun q u hq=>by rw[Addr.add_lit,Nat.zero_add,World.cell?_alloc_at _ _ _ _ rfl];simpa using hq) (by intro u hu;simp at hu;rcases hu with rfl|rfl<;>rfl) (by unfold maxLen;omega) (by omega) (TE.out.2.1.size) ?_
   intro v' W2 o2 g2 _
   have o3:W2.ownsRow w.heap.size 32 2 v' (l++[(⟨pz,s⟩:EV)]).length (ecells (l++[(⟨pz,s⟩:EV)])):=by
    rw[List.length_append,ecells_append]
    exact o2
   obtain ⟨g',cp',rfl⟩: ∃g' cp',v'=.slice (some ⟨g',0,none⟩) (l.length+1) cp':=by
    rcases o2.2 with ⟨_,h⟩|⟨g,cp,cur,rfl,_⟩
    ·omega
    exact ⟨g,cp,rfl⟩
   obtain ⟨a2,t2⟩:=TE.out.app hBw hCw hRw hCR o3 g2
   have T4:=hidD t2
   refine hK.out _ _ trivial (fun _=> ?_)
   clear hK K o2 g2 t2 o3
   simp only[Act.put,List.getElem_toArray,List.getElem_cons_zero,List.getElem_cons_succ,List.setIfInBounds_toArray,List.set_cons_zero,List.set_cons_succ]
   refine wpAnyH_take (i:=12) (v:= ?_) rfl (by kernel_rfl) (by kernel_rfl) (by kernel_rfl) (fun _ _ _ h=>h) (Or.inl ⟨by rfl,fun W hW=> ?_⟩) trivial ?_
   rotate_left
   ·clear hW
    go_simp
    try with_reducible rfl
   simp only[Act.put,List.getElem_toArray,List.getElem_cons_zero,List.getElem_cons_succ,List.setIfInBounds_toArray,List.set_cons_zero,List.set_cons_succ]
   refine wpAnyH_ready (rs:=[13]) (by kernel_rfl) (by simp) (AllReadyH.cons rfl (fun K hK=> ?_) AllReadyH.nil)
   have q0:=a2.1 1 _ rfl
   have f0:=a2.2.1 1
   go_simp
   refine hK.out _ _ trivial (fun _=> ?_)
   clear hK K
   refine wpAnyH_done (by kernel_rfl) ?_ _
   clear q0 f0 a2
   have HG2:Hid (∀e∈l++[(⟨pz,s⟩:EV)],EntGood e):=fun e he=>by
    rcases List.mem_append.1 he with h|h
    ·exact HG.out e h
    rw[List.mem_singleton.1 h]
    obtain ⟨q1,q2⟩:=HSL.out
    unfold locB at q2
    simp only[Bool.and_eq_true,decide_eq_true_eq]at q2
    exact ⟨⟨HPZ.out.1,HPZ.out.2,q2.1⟩,q2.2,q1⟩
   clear TE HSL HPZ T0
   go_wp2_with fail
   go_roundw
   case rel=>exact ⟨k-1,_,_,by omega,by go_num,by simp;omega,HG2,T4⟩
   case measure=>simp[intOf]<;>omega
 have hpi: ¬0<(k:Int):=by omega
 obtain ⟨t1,t2,t3,t4,t5,t6,t7⟩:=T.out
 have c0:=t3.1 0 _ rfl
 have c1:=t3.1 1 _ rfl
 have r0:=t6.1 0 _ rfl
 have r1:=t6.1 1 _ rfl
 have f1:=t6.2.1
 go_wp2_with fail
 have gs:=grow_trans (put_grown wr w.heap.size 0 (.bool b)) (put_grown (wr.setCell ⟨w.heap.size,0,none⟩ (.bool b)) w.heap.size 1 (.slice vo l.length vc))
 refine bodyPost_ret (map_result1 rfl _ _ w.heap.size (.bool b) (.slice vo l.length vc) rfl ((t6.set 0 (by simp) _).set 1 (by simp) _)) rfl ⟨⟨b,l,_,⟨by omega,HG.out⟩,rfl,t4.kept gs (.inr t7)⟩,?_,?_⟩
 ·exact t1.keep (gs.block B t1.lt (fun e=>by injection e with e;omega)) (fun q hq=>gs.block q (by have:=t1.le;have:=t1.lt;omega) (fun e=>by injection e with e;have:=t1.le;omega))
 exact ⟨gs.os.trans t2.os,gs.tape.trans t2.tape,gs.output.trans t2.output,Nat.le_trans t2.size gs.size,fun q hq hne=>(gs.block q (by have:=t2.size;omega) (fun e=>by injection e with e;omega)).trans (t2.block q hq hne)⟩
theorem drawMap(ao:Option Addr)(len cap:Nat)(w:World)(hl:len≤1048576)(hcode:CodeRow w.heap.size w ao len):
  Calls Tryz.prog 6 #[.slice ao len cap] w fun e w'=>MapDrawn w e w'∧Below w.heap.size w w':=by
 have HCO:Hid (CodeRow w.heap.size w ao len):=hcode
 clear hcode
 obtain ⟨O,hO⟩: ∃O,O=w.alloc (.cells #[.bool false,.slice none 0 0] 26):=⟨_,rfl⟩
 have AO:BAt O w.heap.size [.bool false,.slice none 0 0]:=by rw[hO];exact BAt.new w #[.bool false,.slice none 0 0] _
 have bO:Below w.heap.size w O:=by rw[hO];exact (Below.refl _ _).alloc (Nat.le_refl _) _
 have CO:Hid (CodeRow O.heap.size O ao len):=HCO.out.later bO
 go_enter Tryz.func6,Tryz.ntmps6
 go_upto_region 1 with fail
 rw[←hO]
 clear hO HCO
 go_wp2_with fail
 refine (l1New _ _ _ _ hl CO.out).mono ?_
 rintro e wa ⟨B,rfl,hB,ca,ba⟩
 have CA:Hid (Cur O.heap.size B ao len cap wa):=ca
 have AA:=AO.below ba
 have Ba:=bO.trans (ba.mono bO.size)
 clear ca CO
 go_wp2_with fail
 refine (l14Map _ _ _ _ _ _ CA.out).mono ?_
 rintro e wb ⟨⟨b,l,v,hg,rfl,own⟩,cb,gb⟩
 have HG:=hidD hg
 have hOs:=AO.2.2
 have hBle:=CA.out.le
 have AB:=AA.grown gb (by omega)
 have Bb:Below w.heap.size w wb:=Ba.grown gb Ba.size (fun k hk=>by cases hk;omega)
 have HOw:Hid (wb.ownsRow wa.heap.size 32 2 v l.length (ecells l)):=own
 obtain ⟨vo,vc,rfl⟩:=(EntRow.of_own' own).slice
 have hwa:=Ba.size
 have hAl:=AA.2.2
 clear own cb gb hg CA AA Ba ba bO AO
 have r0:=AB.1 0 _ rfl
 have r1:=AB.1 1 _ rfl
 have f1:=AB.2.1
 go_wp2_with fail
 have gs:=grow_trans (put_grown wb w.heap.size 0 (.bool b)) (put_grown (wb.setCell ⟨w.heap.size,0,none⟩ (.bool b)) w.heap.size 1 (.slice vo l.length vc))
 refine bodyPost_ret (map_result1 rfl _ _ w.heap.size (.bool b) (.slice vo l.length vc) rfl ((AB.set 0 (by simp) _).set 1 (by simp) _)) rfl ⟨⟨b,l,_,HG.out,rfl,?_⟩,?_⟩
 ·have k1:=HOw.out.kept gs (.inr fun e=>by have:=(HOw.out.lt w.heap.size e).1;omega)
  exact ⟨k1.1,k1.2.imp id fun ⟨g,cap,cur,h1,h2,h3⟩=>⟨g,cap,cur,h1,by omega,h3⟩⟩
 exact (Bb.setCell (by simp) _).setCell (by simp) _
end Go.Proofs.YtfdgehlobbeomaaGreatDoor
