/- Draw10Walk. -/
import Derived.Test.YtijliddchoehhaaGreatDoorQA31
set_option maxHeartbeats 8000000
set_option maxRecDepth 100000
namespace Go.Proofs.YtijliddchoehhaaGreatDoor
open Go.RowKit
set_option linter.unusedVariables false
set_option linter.unusedSimpArgs false
theorem InRules.wide{w:World}{base base':Nat}{vs:List Value}{l:List RV}(h:InRules w base vs l)(hb:base'≤base):InRules w base' vs l:=fun i hi=>by
 obtain ⟨p,h1,h2,h3,h4⟩:=h i hi
 exact ⟨p,h1,h2,h3,fun b e=>by have:=h4 b e;omega⟩
def TD(D B:Nat)(ao:Option Addr)(len cap:Nat)(w:World)(C:Nat)(g cp:Nat)(ps:List ByteArray)(ex:Bool)(W:World):Prop:=
 Cur D B ao len cap W∧w.grownBy W (some B)∧BAt W C [.slice (some ⟨g,0,none⟩) ps.length cp,.bool ex]∧W.ownsRow w.heap.size 9 1 (.slice (some ⟨g,0,none⟩) ps.length cp) ps.length (scells ps)∧w.heap.size≤C∧B<w.heap.size∧0<ps.length
section
variable {D B:Nat} {ao:Option Addr} {len cap:Nat} {w:World} {C g cp:Nat} {ps:List ByteArray} {ex:Bool} {W W':World}
theorem TD.apart(h:TD D B ao len cap w C g cp ps ex W):g≠C:=fun e=>by
 have h1:=h.2.2.1.1 0 _ rfl
 have h2:=scell_at h.2.2.2.1 0 h.2.2.2.2.2.2
 rw[e]at h2
 rw[h1]at h2
 injection h2 with h2
 injection h2
theorem TD.grown(h:TD D B ao len cap w C g cp ps ex W)(hc:Cur D B ao len cap W')(hg:W.grownBy W' (some B)):TD D B ao len cap w C g cp ps ex W':=
 ⟨hc,grow_trans h.2.1 hg,h.2.2.1.grown hg (by have:=h.2.2.2.2.1;have:=h.2.2.2.2.2.1;omega),h.2.2.2.1.kept hg (.inr fun e=>by have:=(h.2.2.2.1.lt B e).1;have:=h.2.2.2.2.2.1;omega),h.2.2.2.2⟩
theorem TD.below(h:TD D B ao len cap w C g cp ps ex W)(hb:Below W.heap.size W W'):TD D B ao len cap w C g cp ps ex W':=
 ⟨h.1.below hb.block,grow_below h.2.1 hb,h.2.2.1.below hb,own_below h.2.2.2.1 hb,h.2.2.2.2⟩
theorem TD.alloc(h:TD D B ao len cap w C g cp ps ex W)(o:Obj):TD D B ao len cap w C g cp ps ex (W.alloc o):=h.below ((Below.refl _ _).alloc (Nat.le_refl _) o)
theorem TD.mark(h:TD D B ao len cap w C g cp ps ex W)(b:Bool):TD D B ao len cap w C g cp ps b (W.setCell ⟨C,1,none⟩ (.bool b)):=by
 obtain ⟨h1,h2,h3,h4,h5,h6,h7⟩:=h
 have hne:B≠C:=by omega
 have hle:=h1.le
 have hb:=(Below.refl C W).setCell (p:=⟨C,1,none⟩) (Nat.le_refl _) (.bool b)
 have hgc:=TD.apart (D:=D) (B:=B) (ao:=ao) (len:=len) (cap:=cap) ⟨h1,h2,h3,h4,h5,h6,h7⟩
 exact ⟨h1.keep (hb.block B (by omega)) (fun k hk=>hb.block k (by omega)),⟨hb.os.trans h2.os,hb.tape.trans h2.tape,hb.output.trans h2.output,Nat.le_trans h2.size hb.size,fun k hk hn=>(hb.block k (by omega)).trans (h2.block k hk hn)⟩,h3.set 1 (by simp) (.bool b),h4.kept (put_grown W C 1 (.bool b)) (.inr fun e=>hgc (by injection e)),h5,h6,h7⟩
theorem TD.app{y:ByteArray}{v:Value}(h:TD D B ao len cap w C g cp ps ex W)(hz:W.heap.size≤W'.heap.size)(hbel:Below w.heap.size W W')(hb: ∀k,k<W.heap.size→k≠g→W'.heap[k]? =W.heap[k]?)(ho:W'.ownsRow w.heap.size 9 1 v (ps.length+1) (scells (ps++[y]))):
  ∃g' cp',v=.slice (some ⟨g',0,none⟩) (ps.length+1) cp'∧BAt W' C [.slice (some ⟨g,0,none⟩) ps.length cp,.bool ex]∧TD D B ao len cap w C g' cp' (ps++[y]) ex (W'.setCell ⟨C,0,none⟩ v):=by
 obtain ⟨h1,h2,h3,h4,h5,h6,h7⟩:=h
 have hgc:=TD.apart (D:=D) (B:=B) (ao:=ao) (len:=len) (cap:=cap) ⟨h1,h2,h3,h4,h5,h6,h7⟩
 have hle:=h1.le
 have hl:(ps++[y]).length=ps.length+1:=by simp
 rcases own_shape ho with ⟨h,_⟩|⟨_,g',cp',rfl⟩
 ·omega
 have hA:=h3.same hz (hb C h3.2.2 (Ne.symm hgc))
 have hgc':g'≠C:=fun e=>by
  have q1:=hA.1 0 _ rfl
  have q2:=scell_at ho 0 (by omega)
  rw[e]at q2
  rw[q1]at q2
  injection q2 with q2
  injection q2
 have hb2:=hbel.setCell (p:=⟨C,0,none⟩) h5 (.slice (some ⟨g',0,none⟩) (ps.length+1) cp')
 refine ⟨g',cp',rfl,hA,h1.keep (hb2.block B h6) (fun k hk=>hb2.block k (by omega)),⟨hb2.os.trans h2.os,hb2.tape.trans h2.tape,hb2.output.trans h2.output,Nat.le_trans h2.size hb2.size,fun k hk hn=>(hb2.block k hk).trans (h2.block k hk hn)⟩,?_,?_,h5,h6,by omega⟩
 ·have:=hA.set 0 (by simp) (.slice (some ⟨g',0,none⟩) (ps.length+1) cp')
  rw[hl]
  exact this
 rw[hl]
 exact ho.kept (put_grown W' C 0 _) (.inr fun e=>hgc' (by injection e))
end
theorem l10Draw(D B:Nat)(ao:Option Addr)(len cap:Nat)(w:World)(hcur:Cur D B ao len cap w):
  Calls Tryz.prog 19 #[.pointer (some ⟨B,0,none⟩)] w fun e w'=> ∃(v:Value) (l:List RV),rulesB l=true∧e=.returned v∧RuleAns w' w.heap.size v l∧Cur D B ao len cap w'∧w.grownBy w' (some B):=by
 have HC:Hid (Cur D B ao len cap w):=hcur
 have hB:=hcur.lt
 obtain ⟨i0,hi,hz0,hz1,hz2⟩:=info_parts Tryz.infoRule
 obtain ⟨i1,hi1,hy0,hy1,hy2⟩:=info_parts Tryz.infoStr
 clear hcur
 go_enter Tryz.func19,Tryz.ntmps19
 go_wp2_with fail
 refine (l1StrX 60 5 _ 5 0 _ _ _ _ _ _ _ (by omega) (by omega) (HC.out.alloc _) (World.ownsRow_lit w _ 5 (Nat.zero_le _) (by decide) rfl) (by omega) (by decide)).mono ?_
 rintro e w1 ⟨s,hs,rfl,c1,g1⟩
 have C1:=hidden c1
 have G1:=hidden (grow_trans (World.grownBy_alloc w _ (some B)) g1)
 have CP:Hid (Calls Tryz.prog 38 #[.string s] w1 fun e w'=> ∃v,e=.returned (.tuple #[v,.int .i64 (parseR s).2])∧RuleAns w' w1.heap.size v (parseR s).1∧Below w1.heap.size w1 w'):=specParseRulesO s w1 (by omega)
 have HB0:=hidden (parse_ok s)
 generalize parseR s=R at CP HB0
 clear c1 g1
 go_wp2_with fail
 refine CP.out.mono ?_
 rintro e w2 ⟨v,rfl,ra,b2⟩
 have hzw1:=G1.out.size
 have C2:=hidden (C1.out.below b2.block)
 have G2:=hidden (grow_below G1.out b2)
 obtain ⟨vs0,ad0,c0,rfl,ho,hin,hap⟩:=ra
 have HA0:=hidden hap
 have R2:Hid (w2.ownsRow w.heap.size 37 2 (.slice (some ad0) R.1.length c0) R.1.length vs0∧InRules w2 w.heap.size vs0 R.1):=⟨own_wide0 ho hzw1,hin.wide hzw1⟩
 clear CP C1 G1 b2 ho hin hap
 go_wp2_with fail
 refine (l1Below 3 _ _ _ _ _ _ (by omega) (by omega) C2.out).mono ?_
 rintro e w3 ⟨x,hx0,hx1,rfl,c3,g3⟩
 have C3:=hidden c3
 have G3:=hidden (grow_trans G2.out g3)
 have R3:Hid (w3.ownsRow w.heap.size 37 2 (.slice (some ad0) R.1.length c0) R.1.length vs0∧InRules w3 w.heap.size vs0 R.1):=⟨R2.out.1.kept g3 (.inr fun e=>by have:=(R2.out.1.lt B e).1;omega),R2.out.2.grown g3 hB⟩
 clear c3 g3 R2 G2 C2
 obtain ⟨n,rfl⟩:=Int.eq_ofNat_of_zero_le hx0
 go_wp2_with fail
 go_loopw[3,5] (fun o i wr=> ∃(k:Nat) (acc:List RV) (vs:List Value) (ad:Addr) (c:Nat),k≤n∧i=.int .i64 k∧o=.slice (some ad) acc.length c∧Hid (wr.ownsRow w.heap.size 37 2 o acc.length vs∧InRules wr w.heap.size vs acc)∧Hid (rulesB acc=true)∧Hid (Apart ad.block vs acc)∧Hid (Cur D B ao len cap wr)∧Hid (w.grownBy wr (some B))) (fun _ i _=>(intOf i).toNat)
 case atStart=>exact ⟨n,R.1,vs0,ad0,c0,Nat.le_refl _,rfl,rfl,R3,HB0,HA0,C3,G3⟩
 obtain ⟨k,acc,vs,ad,c,hk,rfl,rfl,HR,HB,HAP,HU,HG⟩:=hrel
 clear R3 HB0 HA0 C3 G3 HC
 obtain ⟨wz,hwz⟩: ∃wz,wz=wr:=⟨_,rfl⟩
 subst hwz
 by_cases hp:0<k
 ·have hzr:=HG.out.size
  have hBr:B<wz.heap.size:=by omega
  go_wp2_with fail
  refine (l1StrX 20 3 _ 3 0 _ _ _ _ _ _ _ (by omega) (by omega) (HU.out.alloc _) (World.ownsRow_lit wz _ 3 (Nat.zero_le _) (by decide) rfl) (by omega) (by decide)).mono ?_
  rintro e w4 ⟨y,hy,rfl,c4,g4⟩
  have C4:=hidden c4
  have G4:=hidden (grow_trans (World.grownBy_alloc wz _ (some B)) g4)
  clear c4 g4
  go_upto_region 6 with fail
  have T5:Hid (TD D B ao len cap wz (w4.heap.size+1) w4.heap.size 1 [y] false ((w4.alloc (.cells #[.string y] 9)).alloc (.cells #[.slice (some ⟨w4.heap.size,0,none⟩) 1 1,.bool false] 37))):=by
   have hz4:=G4.out.size
   have hA:=BAt.new (w4.alloc (.cells #[.string y] 9)) #[.slice (some ⟨w4.heap.size,0,none⟩) 1 1,.bool false] 37
   rw[World.size_alloc]at hA
   exact ⟨(C4.out.alloc _).alloc _,grow_alloc (grow_alloc G4.out _) _,hA,(World.ownsRow_lit w4 _ 1 hz4 (by decide) rfl).alloc _,by omega,hBr,Nat.zero_lt_one⟩
  generalize (w4.alloc (.cells #[.string y] 9)).alloc (.cells #[.slice (some ⟨w4.heap.size,0,none⟩) 1 1,.bool false] 37)=w5 at T5⊢
  generalize w4.heap.size+1=C at T5⊢
  clear C4 G4
  go_wp2_with fail
  refine (l1Below 3 _ _ _ _ _ _ (by omega) (by omega) T5.out.1).mono ?_
  rintro e w6 ⟨x6,hx60,hx61,rfl,c6,g6⟩
  have T6:=hidden (T5.out.grown c6 g6)
  clear c6 g6 T5
  obtain ⟨n6,rfl⟩:=Int.eq_ofNat_of_zero_le hx60
  go_wp2_with fail
  go_loopw[7] (fun i W=> ∃(j g cp:Nat) (ps:List ByteArray),j≤n6∧i=.int .i64 j∧Hid (TD D B ao len cap wz C g cp ps false W)∧Hid (∀x∈ps,x.size≤20)∧ps.length+j≤1+n6) (fun i _=>(intOf i).toNat)
  case atStart=>exact ⟨n6,w4.heap.size,1,[y],Nat.le_refl _,rfl,T6,(fun x hx=>by rw[List.mem_singleton.1 hx];exact hy: ∀x∈[y],x.size≤20),Nat.le_refl _⟩
  obtain ⟨j,g,cp,ps,hj,rfl,HT,HSZ,hps⟩:=hrel
  clear T6
  by_cases hpj:0<j
  ·have hpj':0<(j:Int):=by omega
   go_upto_region 9 with fail
   have TD0:=hidden (HT.out.below (Below.refl _ _).drew)
   have TA:=hidden (TD0.out.alloc (.cells #[.string ⟨#[99,111]⟩,.string ⟨#[97]⟩,.string ⟨#[107,111,98,101]⟩,.string ⟨#[120,49]⟩] 9))
   have hBW:wr.drew.heap.size≠B:=by have:=TD0.out.1.lt;omega
   have hn3:ps.length≤3:=by omega
   refine wp_region_held_drew (S:=fun _=>True) (by kernel_rfl) trivial (fun h0=> ?_)
   refine wpAnyH_take (i:=0) (v:= ?_) rfl (by kernel_rfl) (by kernel_rfl) (by kernel_rfl) (fun _ _ _ h=>h) (Or.inl ⟨by rfl,fun W hW=> ?_⟩) h0 ?_
   rotate_left
   ·clear hW
    go_simp
    try with_reducible rfl
   simp only[Act.put,List.getElem_toArray,List.getElem_cons_zero,List.getElem_cons_succ,List.setIfInBounds_toArray,List.set_cons_zero,List.set_cons_succ]
   refine wpAnyH_take (i:=2) (v:= ?_) rfl (by kernel_rfl) (by kernel_rfl) (by kernel_rfl) (fun _ _ _ h=>h) (Or.inl ⟨by rfl,fun W hW=> ?_⟩) h0 ?_
   rotate_left
   ·clear hW
    go_simp
    try with_reducible rfl
   simp only[Act.put,List.getElem_toArray,List.getElem_cons_zero,List.getElem_cons_succ,List.setIfInBounds_toArray,List.set_cons_zero,List.set_cons_succ]
   refine wpAnyH_ready (rs:=[1,3]) (by kernel_rfl) (by simp) (AllReadyH.cons rfl (fun K hK=> ?_) (AllReadyH.cons rfl (fun K hK=> ?_) AllReadyH.nil))
   ·have q0:=(TD0.out).2.2.1.1 0 _ rfl
    go_simp
    refine hK.out _ _ trivial (fun _=> ?_)
    clear hK K q0
    refine wpAnyH_ready (rs:=[3]) (by kernel_rfl) (by simp) (AllReadyH.cons rfl (fun K hK=> ?_) AllReadyH.nil)
    go_simp
    refine hK.out _ _ trivial (fun _=> ?_)
    clear hK K
    refine wpAnyH_ready (rs:=[4]) (by kernel_rfl) (by simp) (AllReadyH.cons rfl (fun K hK=> ?_) AllReadyH.nil)
    go_wp2_with (go_at_call 39;refine (l1StrX 20 4 _ 4 0 _ _ _ _ _ _ _ (by omega) (by omega) TA.out.1 (World.ownsRow_lit wr.drew _ 4 (Nat.zero_le _) (by decide) rfl) hBW (by decide)).mono ?_;rintro e wb ⟨z,hz,rfl,cb,gb⟩)
    refine hK.out _ _ trivial (fun _=> ?_)
    clear hK K
    have TB:=hidden (TA.out.grown cb gb)
    have TC:=hidden (TB.out.alloc (.cells #[.string z] 9))
    clear cb gb
    refine wpAnyH_ready (rs:=[5]) (by kernel_rfl) (by simp) (AllReadyH.cons rfl (fun K hK=> ?_) AllReadyH.nil)
    go_simp
    refine hK.out _ _ trivial (fun _=> ?_)
    clear hK K
    refine wpAnyH_ready (rs:=[6]) (by kernel_rfl) (by simp) (AllReadyH.cons rfl (fun K hK=> ?_) AllReadyH.nil)
    rw[if_pos (by rfl)]
    refine wp_append_own _ (.tmp 34) (.tmp 38) 33 rfl wz.heap.size 9 i1 (.string ⟨#[]⟩) 1 16 Tryz.underlying33 hi1 hy0 hy1 hy2 rfl (by decide) (.slice (some ⟨g,0,none⟩) ps.length cp) ps.length (scells ps) rfl TC.out.2.2.2.1 ⟨wb.heap.size,0,none⟩ 1 1 [.string z] rfl rfl (fun q u hq=>by rw[Addr.add_lit,Nat.zero_add,World.cell?_alloc_at _ _ _ _ rfl];simpa using hq) (by intro u hu;rw[List.mem_singleton.1 hu];rfl) (by unfold maxLen;omega) (by omega) TC.out.2.1.size ?_
    intro v' W2 o2 g2 _
    rw[←scells_snoc]at o2
    obtain ⟨g',cp',rfl,a2,t2⟩:=TC.out.app g2.size ((Below.refl wz.heap.size _).grown g2 TC.out.2.1.size (fun q hq=>(TC.out.2.2.2.1.lt q hq).1)) (fun q hq hne=>g2.block q hq (fun e=>hne (by injection e))) o2
    have T2:=hidden t2
    refine hK.out _ _ trivial (fun _=> ?_)
    clear hK K o2 g2 t2
    simp only[Act.put,List.getElem_toArray,List.getElem_cons_zero,List.getElem_cons_succ,List.setIfInBounds_toArray,List.set_cons_zero,List.set_cons_succ]
    refine wpAnyH_ready (rs:=[7]) (by kernel_rfl) (by simp) (AllReadyH.cons rfl (fun K hK=> ?_) AllReadyH.nil)
    go_simp
    refine hK.out _ _ trivial (fun _=> ?_)
    clear hK K
    refine wpAnyH_ready (rs:=[8]) (by kernel_rfl) (by simp) (AllReadyH.cons rfl (fun K hK=> ?_) AllReadyH.nil)
    have q0:=a2.1 0 _ rfl
    have f0:=a2.2.1 0
    go_simp
    refine hK.out _ _ trivial (fun _=> ?_)
    clear hK K
    refine wpAnyH_done (by kernel_rfl) ?_ _
    clear q0 f0 a2 TA TB TC
    go_wp2_with fail
    go_roundw
    case rel=>exact ⟨j-1,g',cp',ps++[z],by omega,by go_num,T2,(fun x hx=>by rcases List.mem_append.1 hx with h|h;exact HSZ.out x h;rw[List.mem_singleton.1 h];exact hz: ∀x∈ps++[z],x.size≤20),by simp;omega⟩
    case measure=>simp[intOf];omega
   go_simp
   refine hK.out _ _ trivial (fun _=> ?_)
   clear hK K
   refine wpAnyH_ready (rs:=[1,4]) (by kernel_rfl) (by simp) (AllReadyH.cons rfl (fun K hK=> ?_) (AllReadyH.cons rfl (fun K hK=> ?_) AllReadyH.nil))
   ·have q0:(wr.alloc (.cells #[.string ⟨#[99,111]⟩,.string ⟨#[97]⟩,.string ⟨#[107,111,98,101]⟩,.string ⟨#[120,49]⟩] 9)).cell? ⟨C,0,none⟩=some (.slice (some ⟨g,0,none⟩) ps.length cp):=TA.out.2.2.1.1 0 _ rfl
    go_simp
    refine hK.out _ _ trivial (fun _=> ?_)
    clear hK K q0
    refine wpAnyH_ready (rs:=[4]) (by kernel_rfl) (by simp) (AllReadyH.cons rfl (fun K hK=> ?_) AllReadyH.nil)
    go_wp2_with (go_at_call 39;refine (l1StrX 20 4 _ 4 0 _ _ _ _ _ _ _ (by omega) (by omega) TA.out.1 (World.ownsRow_lit wr.drew _ 4 (Nat.zero_le _) (by decide) rfl) hBW (by decide)).mono ?_;rintro e wb ⟨z,hz,rfl,cb,gb⟩)
    refine hK.out _ _ trivial (fun _=> ?_)
    clear hK K
    have TB:=hidden (TA.out.grown cb gb)
    have TC:=hidden (TB.out.alloc (.cells #[.string z] 9))
    clear cb gb
    refine wpAnyH_ready (rs:=[5]) (by kernel_rfl) (by simp) (AllReadyH.cons rfl (fun K hK=> ?_) AllReadyH.nil)
    go_simp
    refine hK.out _ _ trivial (fun _=> ?_)
    clear hK K
    refine wpAnyH_ready (rs:=[6]) (by kernel_rfl) (by simp) (AllReadyH.cons rfl (fun K hK=> ?_) AllReadyH.nil)
    rw[if_pos (by rfl)]
    refine wp_append_own _ (.tmp 34) (.tmp 38) 33 rfl wz.heap.size 9 i1 (.string ⟨#[]⟩) 1 16 Tryz.underlying33 hi1 hy0 hy1 hy2 rfl (by decide) (.slice (some ⟨g,0,none⟩) ps.length cp) ps.length (scells ps) rfl TC.out.2.2.2.1 ⟨wb.heap.size,0,none⟩ 1 1 [.string z] rfl rfl (fun q u hq=>by rw[Addr.add_lit,Nat.zero_add,World.cell?_alloc_at _ _ _ _ rfl];simpa using hq) (by intro u hu;rw[List.mem_singleton.1 hu];rfl) (by unfold maxLen;omega) (by omega) TC.out.2.1.size ?_
    intro v' W2 o2 g2 _
    rw[←scells_snoc]at o2
    obtain ⟨g',cp',rfl,a2,t2⟩:=TC.out.app g2.size ((Below.refl wz.heap.size _).grown g2 TC.out.2.1.size (fun q hq=>(TC.out.2.2.2.1.lt q hq).1)) (fun q hq hne=>g2.block q hq (fun e=>hne (by injection e))) o2
    have T2:=hidden t2
    refine hK.out _ _ trivial (fun _=> ?_)
    clear hK K o2 g2 t2
    simp only[Act.put,List.getElem_toArray,List.getElem_cons_zero,List.getElem_cons_succ,List.setIfInBounds_toArray,List.set_cons_zero,List.set_cons_succ]
    refine wpAnyH_ready (rs:=[7]) (by kernel_rfl) (by simp) (AllReadyH.cons rfl (fun K hK=> ?_) AllReadyH.nil)
    go_simp
    refine hK.out _ _ trivial (fun _=> ?_)
    clear hK K
    refine wpAnyH_ready (rs:=[8]) (by kernel_rfl) (by simp) (AllReadyH.cons rfl (fun K hK=> ?_) AllReadyH.nil)
    have q0:=a2.1 0 _ rfl
    have f0:=a2.2.1 0
    go_simp
    refine hK.out _ _ trivial (fun _=> ?_)
    clear hK K
    refine wpAnyH_done (by kernel_rfl) ?_ _
    clear q0 f0 a2 TA TB TC
    go_wp2_with fail
    go_roundw
    case rel=>exact ⟨j-1,g',cp',ps++[z],by omega,by go_num,T2,(fun x hx=>by rcases List.mem_append.1 hx with h|h;exact HSZ.out x h;rw[List.mem_singleton.1 h];exact hz: ∀x∈ps++[z],x.size≤20),by simp;omega⟩
    case measure=>simp[intOf];omega
   go_wp2_with (go_at_call 39;refine (l1StrX 20 4 _ 4 0 _ _ _ _ _ _ _ (by omega) (by omega) TA.out.1 (World.ownsRow_lit wr.drew _ 4 (Nat.zero_le _) (by decide) rfl) hBW (by decide)).mono ?_;rintro e wb ⟨z,hz,rfl,cb,gb⟩)
   refine hK.out _ _ trivial (fun _=> ?_)
   clear hK K
   have TB:=hidden (TA.out.grown cb gb)
   have TC:=hidden (TB.out.alloc (.cells #[.string z] 9))
   clear cb gb
   refine wpAnyH_ready (rs:=[1,5]) (by kernel_rfl) (by simp) (AllReadyH.cons rfl (fun K hK=> ?_) (AllReadyH.cons rfl (fun K hK=> ?_) AllReadyH.nil))
   ·have q0:=(TB.out).2.2.1.1 0 _ rfl
    go_simp
    refine hK.out _ _ trivial (fun _=> ?_)
    clear hK K q0
    refine wpAnyH_ready (rs:=[5]) (by kernel_rfl) (by simp) (AllReadyH.cons rfl (fun K hK=> ?_) AllReadyH.nil)
    go_simp
    refine hK.out _ _ trivial (fun _=> ?_)
    clear hK K
    refine wpAnyH_ready (rs:=[6]) (by kernel_rfl) (by simp) (AllReadyH.cons rfl (fun K hK=> ?_) AllReadyH.nil)
    rw[if_pos (by rfl)]
    refine wp_append_own _ (.tmp 34) (.tmp 38) 33 rfl wz.heap.size 9 i1 (.string ⟨#[]⟩) 1 16 Tryz.underlying33 hi1 hy0 hy1 hy2 rfl (by decide) (.slice (some ⟨g,0,none⟩) ps.length cp) ps.length (scells ps) rfl TC.out.2.2.2.1 ⟨wb.heap.size,0,none⟩ 1 1 [.string z] rfl rfl (fun q u hq=>by rw[Addr.add_lit,Nat.zero_add,World.cell?_alloc_at _ _ _ _ rfl];simpa using hq) (by intro u hu;rw[List.mem_singleton.1 hu];rfl) (by unfold maxLen;omega) (by omega) TC.out.2.1.size ?_
    intro v' W2 o2 g2 _
    rw[←scells_snoc]at o2
    obtain ⟨g',cp',rfl,a2,t2⟩:=TC.out.app g2.size ((Below.refl wz.heap.size _).grown g2 TC.out.2.1.size (fun q hq=>(TC.out.2.2.2.1.lt q hq).1)) (fun q hq hne=>g2.block q hq (fun e=>hne (by injection e))) o2
    have T2:=hidden t2
    refine hK.out _ _ trivial (fun _=> ?_)
    clear hK K o2 g2 t2
    simp only[Act.put,List.getElem_toArray,List.getElem_cons_zero,List.getElem_cons_succ,List.setIfInBounds_toArray,List.set_cons_zero,List.set_cons_succ]
    refine wpAnyH_ready (rs:=[7]) (by kernel_rfl) (by simp) (AllReadyH.cons rfl (fun K hK=> ?_) AllReadyH.nil)
    go_simp
    refine hK.out _ _ trivial (fun _=> ?_)
    clear hK K
    refine wpAnyH_ready (rs:=[8]) (by kernel_rfl) (by simp) (AllReadyH.cons rfl (fun K hK=> ?_) AllReadyH.nil)
    have q0:=a2.1 0 _ rfl
    have f0:=a2.2.1 0
    go_simp
    refine hK.out _ _ trivial (fun _=> ?_)
    clear hK K
    refine wpAnyH_done (by kernel_rfl) ?_ _
    clear q0 f0 a2 TA TB TC
    go_wp2_with fail
    go_roundw
    case rel=>exact ⟨j-1,g',cp',ps++[z],by omega,by go_num,T2,(fun x hx=>by rcases List.mem_append.1 hx with h|h;exact HSZ.out x h;rw[List.mem_singleton.1 h];exact hz: ∀x∈ps++[z],x.size≤20),by simp;omega⟩
    case measure=>simp[intOf];omega
   go_simp
   refine hK.out _ _ trivial (fun _=> ?_)
   clear hK K
   refine wpAnyH_ready (rs:=[1]) (by kernel_rfl) (by simp) (AllReadyH.cons rfl (fun K hK=> ?_) AllReadyH.nil)
   have q0:=(TC.out).2.2.1.1 0 _ rfl
   go_simp
   refine hK.out _ _ trivial (fun _=> ?_)
   clear hK K q0
   refine wpAnyH_ready (rs:=[6]) (by kernel_rfl) (by simp) (AllReadyH.cons rfl (fun K hK=> ?_) AllReadyH.nil)
   rw[if_pos (by rfl)]
   refine wp_append_own _ (.tmp 34) (.tmp 38) 33 rfl wz.heap.size 9 i1 (.string ⟨#[]⟩) 1 16 Tryz.underlying33 hi1 hy0 hy1 hy2 rfl (by decide) (.slice (some ⟨g,0,none⟩) ps.length cp) ps.length (scells ps) rfl TC.out.2.2.2.1 ⟨wb.heap.size,0,none⟩ 1 1 [.string z] rfl rfl (fun q u hq=>by rw[Addr.add_lit,Nat.zero_add,World.cell?_alloc_at _ _ _ _ rfl];simpa using hq) (by intro u hu;rw[List.mem_singleton.1 hu];rfl) (by unfold maxLen;omega) (by omega) TC.out.2.1.size ?_
   intro v' W2 o2 g2 _
   rw[←scells_snoc]at o2
   obtain ⟨g',cp',rfl,a2,t2⟩:=TC.out.app g2.size ((Below.refl wz.heap.size _).grown g2 TC.out.2.1.size (fun q hq=>(TC.out.2.2.2.1.lt q hq).1)) (fun q hq hne=>g2.block q hq (fun e=>hne (by injection e))) o2
   have T2:=hidden t2
   refine hK.out _ _ trivial (fun _=> ?_)
   clear hK K o2 g2 t2
   simp only[Act.put,List.getElem_toArray,List.getElem_cons_zero,List.getElem_cons_succ,List.setIfInBounds_toArray,List.set_cons_zero,List.set_cons_succ]
   refine wpAnyH_ready (rs:=[7]) (by kernel_rfl) (by simp) (AllReadyH.cons rfl (fun K hK=> ?_) AllReadyH.nil)
   go_simp
   refine hK.out _ _ trivial (fun _=> ?_)
   clear hK K
   refine wpAnyH_ready (rs:=[8]) (by kernel_rfl) (by simp) (AllReadyH.cons rfl (fun K hK=> ?_) AllReadyH.nil)
   have q0:=a2.1 0 _ rfl
   have f0:=a2.2.1 0
   go_simp
   refine hK.out _ _ trivial (fun _=> ?_)
   clear hK K
   refine wpAnyH_done (by kernel_rfl) ?_ _
   clear q0 f0 a2 TA TB TC
   go_wp2_with fail
   go_roundw
   case rel=>exact ⟨j-1,g',cp',ps++[z],by omega,by go_num,T2,(fun x hx=>by rcases List.mem_append.1 hx with h|h;exact HSZ.out x h;rw[List.mem_singleton.1 h];exact hz: ∀x∈ps++[z],x.size≤20),by simp;omega⟩
   case measure=>simp[intOf];omega
  have hpj': ¬0<(j:Int):=by omega
  go_wp2_with fail
  refine (l1Once 3 _ _ _ _ _ _ (by omega) (by omega) HT.out.1).mono ?_
  rintro e w7 ⟨b,rfl,c7,g7⟩
  have T7:=hidden (HT.out.grown c7 g7)
  clear c7 g7 HT
  have hn3:ps.length≤3:=by omega
  go_upto_if 42 with fail
  go_cut [] (fun W=> ∃(g cp:Nat) (ps:List ByteArray) (ex:Bool),Hid (TD D B ao len cap wz C g cp ps ex W)∧Hid (∀x∈ps,x.size≤20)∧ps.length≤4)
  case first=>
   cases b with
   |true=>
    have q0:=T7.out.2.2.1.1 0 _ rfl
    go_wp2_with (at_builtin;refine wpList_append_newG _ rfl _ _ 33 rfl wz.heap.size 9 (.string ⟨#[]⟩) 16 Tryz.underlying33 Tryz.infoStr rfl _ _ _ rfl T7.out.2.2.2.1 #[.string ⟨#[42]⟩] 1 rfl rfl (str_one _) (by omega) (by unfold maxLen;omega) T7.out.2.1.size ?_;intro v' W2 o2 b2 h2;have o3:W2.ownsRow wz.heap.size 9 1 v' (ps.length+1) (scells (ps++[⟨#[42]⟩])):=by {rw[scells_snoc];exact o2};obtain ⟨g',cp',rfl,a2,t2⟩:=T7.out.app b2.size b2 (fun q hq hne=>h2 q hq (fun e=>hne (by injection e))) o3;have q2:=a2.1 0 _ rfl;have f2:=a2.2.1 0;have T8:=hidden t2;clear o2 o3 t2 b2 h2)
    go_meet
    have HS2:Hid (∀x∈ps++[(⟨#[42]⟩:ByteArray)],x.size≤20):=fun x hx=>by
     rcases List.mem_append.1 hx with h|h
     ·exact HSZ.out x h
     rw[List.mem_singleton.1 h]
     decide
    case rel=>exact ⟨g',cp',ps++[⟨#[42]⟩],false,T8,HS2,by simp;omega⟩
   |false=>
    have q0:=T7.out.2.2.1.1 0 _ rfl
    by_cases h1:1<ps.length
    ·have h1':1<(ps.length:Int):=by omega
     go_wp2_with fail
     refine (l1Once 4 _ _ _ _ _ _ (by omega) (by omega) T7.out.1).mono ?_
     rintro e w8 ⟨b,rfl,c8,g8⟩
     have T8:=hidden (T7.out.grown c8 g8)
     clear c8 g8 T7 q0
     cases b with
     |true=>
      have q1:=T8.out.2.2.1.1 1 _ rfl
      have f1:=T8.out.2.2.1.2.1 1
      go_wp2_with fail
      go_meet
      case rel=>exact ⟨g,cp,ps,true,T8.out.mark true,HSZ,by omega⟩
     |false=>
      go_wp2_with fail
      go_meet
      case rel=>exact ⟨g,cp,ps,false,T8,HSZ,by omega⟩
    have h1': ¬1<(ps.length:Int):=by omega
    go_wp2_with fail
    go_meet
    case rel=>exact ⟨g,cp,ps,false,T7,HSZ,by omega⟩
  clear T7 HSZ hps hn3
  obtain ⟨g,cp,ps,ex,T9,HSZ,hn4⟩:=hcut
  have HVL:Hid (vs.length=acc.length*2):=HR.out.1.1
  have HV1:Hid (∀u∈vs,u.oneCell'=true):=HR.out.2.one HR.out.1.1
  have h60:=rules_60 HB.out
  have hzc:=T9.out.2.1.size
  have hwc:w.heap.size≤wc.heap.size:=by omega
  have A4:=hidden T9.out.2.2.1
  have S4:=hidden (StrRow.of_own T9.out.2.2.2.1)
  have hD4:=A4.out.2.2
  have H4:Hid (wc.ownsRow w.heap.size 37 2 (.slice (some ad) acc.length c) acc.length vs∧InRules wc w.heap.size vs acc):=⟨HR.out.1.kept T9.out.2.1 (.inr fun e=>by have:=(HR.out.1.lt B e).1;omega),HR.out.2.grown T9.out.2.1 hB⟩
  have HPB:Hid (∀b,(Value.slice (some ⟨g,0,none⟩) ps.length cp).ownBlock=some b→w.heap.size≤b):=fun b hb=>by have:=(T9.out.2.2.2.1.lt b hb).1;omega
  have HLS:Hid (ps.length≤2097152∧ ∀x∈ps,x.size≤1048576):=⟨by omega,fun x hx=>by have:=HSZ.out x hx;omega⟩
  have HVC:Hid (∀W,Below wc.heap.size wc W→ ∀j u,vs[j]? =some u→W.cell? (ad.add j)=some u):=fun W hb j u hj=>own_cellsA (own_below H4.out.1 hb) hj
  clear HR HU
  go_upto_region 14 with fail
  refine wp_region_held_drew (S:=fun W=>Below wc.heap.size wc W) (by kernel_rfl) (Below.refl _ wc).drew (fun h0=> ?_)
  refine wpAnyH_take (i:=1) (v:= ?_) rfl (by kernel_rfl) (by kernel_rfl) (by kernel_rfl) (fun _ _ _ h=>h) (Or.inl ⟨by rfl,fun W hW=> ?_⟩) h0 ?_
  rotate_left
  ·clear hW
   go_simp
   try with_reducible rfl
  simp only[Act.put,List.getElem_toArray,List.getElem_cons_zero,List.getElem_cons_succ,List.setIfInBounds_toArray,List.set_cons_zero,List.set_cons_succ]
  refine wpAnyH_take (i:=3) (v:=.agg #[.slice (some ⟨g,0,none⟩) ps.length cp,.bool ex]) rfl (by kernel_rfl) (by kernel_rfl) (by kernel_rfl) (fun _ _ _ h=>h) (Or.inl ⟨by rfl,fun W hW=> ?_⟩) h0 ?_
  ·have q0:=(A4.out.below hW).1 0 _ rfl
   have q1:=(A4.out.below hW).1 1 _ rfl
   go_simp
  simp only[Act.put,List.getElem_toArray,List.getElem_cons_zero,List.getElem_cons_succ,List.setIfInBounds_toArray,List.set_cons_zero,List.set_cons_succ]
  refine wpAnyH_ready (rs:=[0,4]) (by kernel_rfl) (by simp) (AllReadyH.cons rfl (fun K hK=> ?_) (AllReadyH.cons rfl (fun K hK=> ?_) AllReadyH.nil))
  ·go_simp
   refine hK.out _ _ (h0.alloc h0.size _) (fun h1=> ?_)
   clear hK K h1
   have o47:=hidden (World.ownsRow_made (e:=37) (size:=2) (base:=wc.heap.size) wc.drew #[] 0 (Nat.le_refl _) (by decide) rfl)
   have h1:Below wc.heap.size wc (wc.drew.alloc (.cells #[] 37)):=h0.alloc h0.size _
   refine wpAnyH_ready (rs:=[2,4]) (by kernel_rfl) (by simp) (AllReadyH.cons rfl (fun K hK=> ?_) (AllReadyH.cons rfl (fun K hK=> ?_) AllReadyH.nil))
   ·rw[if_pos (by rfl)]
    refine wp_append_own _ (.tmp 57) (.tmp 58) 24 rfl wc.heap.size 37 i0 (.agg #[.slice none 0 0,.bool false]) 2 32 Tryz.underlying24 hi hz0 hz1 hz2 rfl (by decide) (.slice (some ⟨wc.drew.heap.size,0,none⟩) 0 0) 0 [] rfl (o47.out) ad acc.length c vs rfl HVL.out (HVC.out _ (h1)) HV1.out (by unfold maxLen;omega) (by omega) (h1).size ?_
    intro v49 wq o49 g49 _
    rw[Nat.zero_add,List.nil_append]at o49
    have hq:=(h1).grown g49 (h1).size (fun k hk=>((o47.out).lt k hk).1)
    refine hK.out _ _ hq (fun h3=> ?_)
    clear hK K h3
    refine wpAnyH_ready (rs:=[4]) (by kernel_rfl) (by simp) (AllReadyH.cons rfl (fun K hK=> ?_) AllReadyH.nil)
    go_simp
    refine hK.out _ _ (hq.alloc hq.size _) (fun h3=> ?_)
    clear hK K
    refine wpAnyH_ready (rs:=[5]) (by kernel_rfl) (by simp) (AllReadyH.cons rfl (fun K hK=> ?_) AllReadyH.nil)
    have oB:=o49.alloc (.cells #[.slice (some ⟨g,0,none⟩) ps.length cp,.bool ex] 37)
    have hBl:=hq.alloc hq.size (.cells #[.slice (some ⟨g,0,none⟩) ps.length cp,.bool ex] 37)
    have tB:=BAt.new wq #[.slice (some ⟨g,0,none⟩) ps.length cp,.bool ex] 37
    rw[if_pos (by rfl)]
    refine wp_append_own _ (.tmp 59) (.tmp 61) 24 rfl wc.heap.size 37 i0 (.agg #[.slice none 0 0,.bool false]) 2 32 Tryz.underlying24 hi hz0 hz1 hz2 rfl (by decide) v49 acc.length vs rfl (oB) ⟨wq.heap.size,0,none⟩ 1 1 [.slice (some ⟨g,0,none⟩) ps.length cp,.bool ex] rfl rfl (fun j u hj=>by rw[Addr.add_lit,Nat.zero_add];exact (tB).1 j u hj) (by intro u hu;simp at hu;rcases hu with rfl|rfl<;>rfl) (by unfold maxLen;omega) (by omega) (hBl).size ?_
    intro v52 w5 o52 g52 _
    have h5:=(hBl).grown g52 (hBl).size (fun k hk=>((oB).lt k hk).1)
    refine hK.out _ _ h5 (fun h6=> ?_)
    clear hK K
    refine wpAnyH_take (i:=6) (v:= ?_) rfl (by kernel_rfl) (by kernel_rfl) (by kernel_rfl) (fun _ _ _ h=>h) (Or.inl ⟨by rfl,fun W hW=> ?_⟩) h6 ?_
    rotate_left
    ·clear hW
     go_simp
     try with_reducible rfl
    refine wpAnyH_done (by kernel_rfl) ?_ _
    have O5:=hidden o52
    have H5:=hidden h5
    clear o52 h5 h6 g52
    simp only[Act.put,List.getElem_toArray,List.getElem_cons_zero,List.getElem_cons_succ,List.setIfInBounds_toArray,List.set_cons_zero,List.set_cons_succ]
    (try clear oB);(try clear hBl);(try clear tB);(try clear tq);clear o49 g49 hq
    obtain ⟨g5,c5,rfl⟩: ∃g5 c5,v52=.slice (some ⟨g5,0,none⟩) (acc.length+1) c5:=by
     rcases O5.out.2 with ⟨_,h⟩|⟨g5,c5,cur,h,_⟩
     ·omega
     exact ⟨g5,c5,h⟩
    have O6:Hid (w5.ownsRow w.heap.size 37 2 (.slice (some ⟨g5,0,none⟩) (acc.length+1) c5) (acc++[RV.mk ps ex]).length (vs++[.slice (some ⟨g,0,none⟩) ps.length cp,.bool ex])):=by
     have:=own_wide0 O5.out hwc
     rw[List.length_append]
     exact this
    have I6:Hid (InRules w5 w.heap.size (vs++[.slice (some ⟨g,0,none⟩) ps.length cp,.bool ex]) (acc++[RV.mk ps ex])):=by
      exact (H4.out.2.below H5.out).snoc (r:=⟨ps,ex⟩) HVL.out (S4.out.below H5.out) HPB.out
    have HA7:Hid (Apart g5 (vs++[.slice (some ⟨g,0,none⟩) ps.length cp,.bool ex]) (acc++[RV.mk ps ex])):=Apart.new (H4.out.2.snoc (r:=RV.mk ps ex) HVL.out S4.out HPB.out) (O5.out.lt g5 rfl).1
    have B6:=hidden H5.out
    have hal:(acc++[RV.mk ps ex]).length=acc.length+1:=by simp
    have HS6:Hid (RSz (acc++[RV.mk ps ex])):=fun r hr=>by
     rcases List.mem_append.1 hr with h|h
     ·exact rules_sz HB.out r h
     rw[List.mem_singleton.1 h]
     exact HLS.out
    have CR:Hid (CB 42 #[.slice (some ⟨g5,0,none⟩) (acc.length+1) c5] w5 (.bool (rulesB (acc++[RV.mk ps ex])))):=specRulesOk (acc++[RV.mk ps ex]) _ w5 (by omega) HS6.out (RuleRow.of_own O6.out I6.out.cells)
    clear O5 H5 HS6
    cases hrb:rulesB (acc++[RV.mk ps ex])with
    |false=>
     rw[hrb]at CR
     clear hrb O6 I6
     go_wp2_with fail
     refine CR.out.mono ?_
     rintro e w6 ⟨rfl,b6⟩
     have b7:=B6.out.trans (b6.mono B6.out.size)
     have T10:=hidden (T9.out.below b7)
     have R7:Hid (w6.ownsRow w.heap.size 37 2 (.slice (some ad) acc.length c) acc.length vs∧InRules w6 w.heap.size vs acc):=⟨own_below H4.out.1 b7,H4.out.2.below b7⟩
     clear b6 B6 CR b7
     go_wp2_with fail
     go_roundw
     case rel=>exact ⟨k-1,acc,vs,ad,c,by omega,by go_num,rfl,R7,HB,HAP,T10.out.1,grow_trans HG.out T10.out.2.1⟩
     case measure=>simp[intOf];omega
    |true=>
     have HB7:=hidden hrb
     rw[hrb]at CR
     clear hrb
     go_wp2_with fail
     refine CR.out.mono ?_
     rintro e w6 ⟨rfl,b6⟩
     have b7:=B6.out.trans (b6.mono B6.out.size)
     have T10:=hidden (T9.out.below b7)
     have R7:Hid (w6.ownsRow w.heap.size 37 2 (.slice (some ⟨g5,0,none⟩) (acc.length+1) c5) (acc++[RV.mk ps ex]).length (vs++[.slice (some ⟨g,0,none⟩) ps.length cp,.bool ex])∧InRules w6 w.heap.size (vs++[.slice (some ⟨g,0,none⟩) ps.length cp,.bool ex]) (acc++[RV.mk ps ex])):=⟨own_below O6.out b6,I6.out.below b6⟩
     clear b6 B6 O6 I6 CR b7
     go_wp2_with fail
     go_roundw
     case rel=>exact ⟨k-1,acc++[RV.mk ps ex],_,_,_,by omega,by go_num,by rw[hal],R7,HB7,HA7,T10.out.1,grow_trans HG.out T10.out.2.1⟩
     case measure=>simp[intOf];omega
   go_simp
   refine hK.out _ _ (h1.alloc h1.size _) (fun h3=> ?_)
   clear hK K h3
   have oB:=o47.out.alloc (.cells #[.slice (some ⟨g,0,none⟩) ps.length cp,.bool ex] 37)
   have hBl:=h1.alloc h1.size (.cells #[.slice (some ⟨g,0,none⟩) ps.length cp,.bool ex] 37)
   have tB:BAt ((wc.drew.alloc (.cells #[] 37)).alloc (.cells #[.slice (some ⟨g,0,none⟩) ps.length cp,.bool ex] 37)) (wc.heap.size+1) [.slice (some ⟨g,0,none⟩) ps.length cp,.bool ex]:=by
    have:=BAt.new (wc.drew.alloc (.cells #[] 37)) #[.slice (some ⟨g,0,none⟩) ps.length cp,.bool ex] 37
    rw[World.size_alloc]at this
    exact this
   refine wpAnyH_ready (rs:=[2]) (by kernel_rfl) (by simp) (AllReadyH.cons rfl (fun K hK=> ?_) AllReadyH.nil)
   rw[if_pos (by rfl)]
   refine wp_append_own _ (.tmp 57) (.tmp 58) 24 rfl wc.heap.size 37 i0 (.agg #[.slice none 0 0,.bool false]) 2 32 Tryz.underlying24 hi hz0 hz1 hz2 rfl (by decide) (.slice (some ⟨wc.drew.heap.size,0,none⟩) 0 0) 0 [] rfl (oB) ad acc.length c vs rfl HVL.out (HVC.out _ (hBl)) HV1.out (by unfold maxLen;omega) (by omega) (hBl).size ?_
   intro v49 wq o49 g49 _
   rw[Nat.zero_add,List.nil_append]at o49
   have hq:=(hBl).grown g49 (hBl).size (fun k hk=>((oB).lt k hk).1)
   have tq:=tB.grown (C:=wc.heap.size) g49 (by omega)
   refine hK.out _ _ hq (fun h3=> ?_)
   clear hK K h3
   refine wpAnyH_ready (rs:=[5]) (by kernel_rfl) (by simp) (AllReadyH.cons rfl (fun K hK=> ?_) AllReadyH.nil)
   rw[if_pos (by rfl)]
   refine wp_append_own _ (.tmp 59) (.tmp 61) 24 rfl wc.heap.size 37 i0 (.agg #[.slice none 0 0,.bool false]) 2 32 Tryz.underlying24 hi hz0 hz1 hz2 rfl (by decide) v49 acc.length vs rfl (o49) ⟨(wc.heap.size+1),0,none⟩ 1 1 [.slice (some ⟨g,0,none⟩) ps.length cp,.bool ex] rfl rfl (fun j u hj=>by rw[Addr.add_lit,Nat.zero_add];exact (tq).1 j u hj) (by intro u hu;simp at hu;rcases hu with rfl|rfl<;>rfl) (by unfold maxLen;omega) (by omega) (hq).size ?_
   intro v52 w5 o52 g52 _
   have h5:=(hq).grown g52 (hq).size (fun k hk=>((o49).lt k hk).1)
   refine hK.out _ _ h5 (fun h6=> ?_)
   clear hK K
   refine wpAnyH_take (i:=6) (v:= ?_) rfl (by kernel_rfl) (by kernel_rfl) (by kernel_rfl) (fun _ _ _ h=>h) (Or.inl ⟨by rfl,fun W hW=> ?_⟩) h6 ?_
   rotate_left
   ·clear hW
    go_simp
    try with_reducible rfl
   refine wpAnyH_done (by kernel_rfl) ?_ _
   have O5:=hidden o52
   have H5:=hidden h5
   clear o52 h5 h6 g52
   simp only[Act.put,List.getElem_toArray,List.getElem_cons_zero,List.getElem_cons_succ,List.setIfInBounds_toArray,List.set_cons_zero,List.set_cons_succ]
   (try clear oB);(try clear hBl);(try clear tB);(try clear tq);clear o49 g49 hq
   obtain ⟨g5,c5,rfl⟩: ∃g5 c5,v52=.slice (some ⟨g5,0,none⟩) (acc.length+1) c5:=by
    rcases O5.out.2 with ⟨_,h⟩|⟨g5,c5,cur,h,_⟩
    ·omega
    exact ⟨g5,c5,h⟩
   have O6:Hid (w5.ownsRow w.heap.size 37 2 (.slice (some ⟨g5,0,none⟩) (acc.length+1) c5) (acc++[RV.mk ps ex]).length (vs++[.slice (some ⟨g,0,none⟩) ps.length cp,.bool ex])):=by
    have:=own_wide0 O5.out hwc
    rw[List.length_append]
    exact this
   have I6:Hid (InRules w5 w.heap.size (vs++[.slice (some ⟨g,0,none⟩) ps.length cp,.bool ex]) (acc++[RV.mk ps ex])):=by
     exact (H4.out.2.below H5.out).snoc (r:=⟨ps,ex⟩) HVL.out (S4.out.below H5.out) HPB.out
   have HA7:Hid (Apart g5 (vs++[.slice (some ⟨g,0,none⟩) ps.length cp,.bool ex]) (acc++[RV.mk ps ex])):=Apart.new (H4.out.2.snoc (r:=RV.mk ps ex) HVL.out S4.out HPB.out) (O5.out.lt g5 rfl).1
   have B6:=hidden H5.out
   have hal:(acc++[RV.mk ps ex]).length=acc.length+1:=by simp
   have HS6:Hid (RSz (acc++[RV.mk ps ex])):=fun r hr=>by
    rcases List.mem_append.1 hr with h|h
    ·exact rules_sz HB.out r h
    rw[List.mem_singleton.1 h]
    exact HLS.out
   have CR:Hid (CB 42 #[.slice (some ⟨g5,0,none⟩) (acc.length+1) c5] w5 (.bool (rulesB (acc++[RV.mk ps ex])))):=specRulesOk (acc++[RV.mk ps ex]) _ w5 (by omega) HS6.out (RuleRow.of_own O6.out I6.out.cells)
   clear O5 H5 HS6
   cases hrb:rulesB (acc++[RV.mk ps ex])with
   |false=>
    rw[hrb]at CR
    clear hrb O6 I6
    go_wp2_with fail
    refine CR.out.mono ?_
    rintro e w6 ⟨rfl,b6⟩
    have b7:=B6.out.trans (b6.mono B6.out.size)
    have T10:=hidden (T9.out.below b7)
    have R7:Hid (w6.ownsRow w.heap.size 37 2 (.slice (some ad) acc.length c) acc.length vs∧InRules w6 w.heap.size vs acc):=⟨own_below H4.out.1 b7,H4.out.2.below b7⟩
    clear b6 B6 CR b7
    go_wp2_with fail
    go_roundw
    case rel=>exact ⟨k-1,acc,vs,ad,c,by omega,by go_num,rfl,R7,HB,HAP,T10.out.1,grow_trans HG.out T10.out.2.1⟩
    case measure=>simp[intOf];omega
   |true=>
    have HB7:=hidden hrb
    rw[hrb]at CR
    clear hrb
    go_wp2_with fail
    refine CR.out.mono ?_
    rintro e w6 ⟨rfl,b6⟩
    have b7:=B6.out.trans (b6.mono B6.out.size)
    have T10:=hidden (T9.out.below b7)
    have R7:Hid (w6.ownsRow w.heap.size 37 2 (.slice (some ⟨g5,0,none⟩) (acc.length+1) c5) (acc++[RV.mk ps ex]).length (vs++[.slice (some ⟨g,0,none⟩) ps.length cp,.bool ex])∧InRules w6 w.heap.size (vs++[.slice (some ⟨g,0,none⟩) ps.length cp,.bool ex]) (acc++[RV.mk ps ex])):=⟨own_below O6.out b6,I6.out.below b6⟩
    clear b6 B6 O6 I6 CR b7
    go_wp2_with fail
    go_roundw
    case rel=>exact ⟨k-1,acc++[RV.mk ps ex],_,_,_,by omega,by go_num,by rw[hal],R7,HB7,HA7,T10.out.1,grow_trans HG.out T10.out.2.1⟩
    case measure=>simp[intOf];omega
  go_simp
  refine hK.out _ _ (h0.alloc h0.size _) (fun h1=> ?_)
  clear hK K h1
  have h1:=h0.alloc h0.size (.cells #[.slice (some ⟨g,0,none⟩) ps.length cp,.bool ex] 37)
  have t1:=BAt.new wc.drew #[.slice (some ⟨g,0,none⟩) ps.length cp,.bool ex] 37
  refine wpAnyH_ready (rs:=[0]) (by kernel_rfl) (by simp) (AllReadyH.cons rfl (fun K hK=> ?_) AllReadyH.nil)
  go_simp
  refine hK.out _ _ (h1.alloc h1.size _) (fun h3=> ?_)
  clear hK K h3
  have hBl:=h1.alloc h1.size (.cells #[] 37)
  have tB:=t1.alloc (.cells #[] 37)
  have oB:((wc.drew.alloc (.cells #[.slice (some ⟨g,0,none⟩) ps.length cp,.bool ex] 37)).alloc (.cells #[] 37)).ownsRow wc.heap.size 37 2 (.slice (some ⟨wc.heap.size+1,0,none⟩) 0 0) 0 []:=by
   have:=World.ownsRow_made (e:=37) (size:=2) (base:=wc.heap.size) (wc.drew.alloc (.cells #[.slice (some ⟨g,0,none⟩) ps.length cp,.bool ex] 37)) #[] 0 (by simp) (by decide) rfl
   rw[World.size_alloc]at this
   exact this
  refine wpAnyH_ready (rs:=[2]) (by kernel_rfl) (by simp) (AllReadyH.cons rfl (fun K hK=> ?_) AllReadyH.nil)
  rw[if_pos (by rfl)]
  refine wp_append_own _ (.tmp 57) (.tmp 58) 24 rfl wc.heap.size 37 i0 (.agg #[.slice none 0 0,.bool false]) 2 32 Tryz.underlying24 hi hz0 hz1 hz2 rfl (by decide) (.slice (some ⟨wc.heap.size+1,0,none⟩) 0 0) 0 [] rfl (oB) ad acc.length c vs rfl HVL.out (HVC.out _ (hBl)) HV1.out (by unfold maxLen;omega) (by omega) (hBl).size ?_
  intro v49 wq o49 g49 _
  rw[Nat.zero_add,List.nil_append]at o49
  have hq:=(hBl).grown g49 (hBl).size (fun k hk=>((oB).lt k hk).1)
  have tq:=tB.grown (C:=wc.heap.size+1) g49 (by show wc.heap.size≠_;omega)
  refine hK.out _ _ hq (fun h3=> ?_)
  clear hK K h3
  refine wpAnyH_ready (rs:=[5]) (by kernel_rfl) (by simp) (AllReadyH.cons rfl (fun K hK=> ?_) AllReadyH.nil)
  rw[if_pos (by rfl)]
  refine wp_append_own _ (.tmp 59) (.tmp 61) 24 rfl wc.heap.size 37 i0 (.agg #[.slice none 0 0,.bool false]) 2 32 Tryz.underlying24 hi hz0 hz1 hz2 rfl (by decide) v49 acc.length vs rfl (o49) ⟨wc.drew.heap.size,0,none⟩ 1 1 [.slice (some ⟨g,0,none⟩) ps.length cp,.bool ex] rfl rfl (fun j u hj=>by rw[Addr.add_lit,Nat.zero_add];exact (tq).1 j u hj) (by intro u hu;simp at hu;rcases hu with rfl|rfl<;>rfl) (by unfold maxLen;omega) (by omega) (hq).size ?_
  intro v52 w5 o52 g52 _
  have h5:=(hq).grown g52 (hq).size (fun k hk=>((o49).lt k hk).1)
  refine hK.out _ _ h5 (fun h6=> ?_)
  clear hK K
  refine wpAnyH_take (i:=6) (v:= ?_) rfl (by kernel_rfl) (by kernel_rfl) (by kernel_rfl) (fun _ _ _ h=>h) (Or.inl ⟨by rfl,fun W hW=> ?_⟩) h6 ?_
  rotate_left
  ·clear hW
   go_simp
   try with_reducible rfl
  refine wpAnyH_done (by kernel_rfl) ?_ _
  have O5:=hidden o52
  have H5:=hidden h5
  clear o52 h5 h6 g52
  simp only[Act.put,List.getElem_toArray,List.getElem_cons_zero,List.getElem_cons_succ,List.setIfInBounds_toArray,List.set_cons_zero,List.set_cons_succ]
  (try clear oB);(try clear hBl);(try clear tB);(try clear tq);clear o49 g49 hq
  obtain ⟨g5,c5,rfl⟩: ∃g5 c5,v52=.slice (some ⟨g5,0,none⟩) (acc.length+1) c5:=by
   rcases O5.out.2 with ⟨_,h⟩|⟨g5,c5,cur,h,_⟩
   ·omega
   exact ⟨g5,c5,h⟩
  have O6:Hid (w5.ownsRow w.heap.size 37 2 (.slice (some ⟨g5,0,none⟩) (acc.length+1) c5) (acc++[RV.mk ps ex]).length (vs++[.slice (some ⟨g,0,none⟩) ps.length cp,.bool ex])):=by
   have:=own_wide0 O5.out hwc
   rw[List.length_append]
   exact this
  have I6:Hid (InRules w5 w.heap.size (vs++[.slice (some ⟨g,0,none⟩) ps.length cp,.bool ex]) (acc++[RV.mk ps ex])):=by
    exact (H4.out.2.below H5.out).snoc (r:=⟨ps,ex⟩) HVL.out (S4.out.below H5.out) HPB.out
  have HA7:Hid (Apart g5 (vs++[.slice (some ⟨g,0,none⟩) ps.length cp,.bool ex]) (acc++[RV.mk ps ex])):=Apart.new (H4.out.2.snoc (r:=RV.mk ps ex) HVL.out S4.out HPB.out) (O5.out.lt g5 rfl).1
  have B6:=hidden H5.out
  have hal:(acc++[RV.mk ps ex]).length=acc.length+1:=by simp
  have HS6:Hid (RSz (acc++[RV.mk ps ex])):=fun r hr=>by
   rcases List.mem_append.1 hr with h|h
   ·exact rules_sz HB.out r h
   rw[List.mem_singleton.1 h]
   exact HLS.out
  have CR:Hid (CB 42 #[.slice (some ⟨g5,0,none⟩) (acc.length+1) c5] w5 (.bool (rulesB (acc++[RV.mk ps ex])))):=specRulesOk (acc++[RV.mk ps ex]) _ w5 (by omega) HS6.out (RuleRow.of_own O6.out I6.out.cells)
  clear O5 H5 HS6
  cases hrb:rulesB (acc++[RV.mk ps ex])with
  |false=>
   rw[hrb]at CR
   clear hrb O6 I6
   go_wp2_with fail
   refine CR.out.mono ?_
   rintro e w6 ⟨rfl,b6⟩
   have b7:=B6.out.trans (b6.mono B6.out.size)
   have T10:=hidden (T9.out.below b7)
   have R7:Hid (w6.ownsRow w.heap.size 37 2 (.slice (some ad) acc.length c) acc.length vs∧InRules w6 w.heap.size vs acc):=⟨own_below H4.out.1 b7,H4.out.2.below b7⟩
   clear b6 B6 CR b7
   go_wp2_with fail
   go_roundw
   case rel=>exact ⟨k-1,acc,vs,ad,c,by omega,by go_num,rfl,R7,HB,HAP,T10.out.1,grow_trans HG.out T10.out.2.1⟩
   case measure=>simp[intOf];omega
  |true=>
   have HB7:=hidden hrb
   rw[hrb]at CR
   clear hrb
   go_wp2_with fail
   refine CR.out.mono ?_
   rintro e w6 ⟨rfl,b6⟩
   have b7:=B6.out.trans (b6.mono B6.out.size)
   have T10:=hidden (T9.out.below b7)
   have R7:Hid (w6.ownsRow w.heap.size 37 2 (.slice (some ⟨g5,0,none⟩) (acc.length+1) c5) (acc++[RV.mk ps ex]).length (vs++[.slice (some ⟨g,0,none⟩) ps.length cp,.bool ex])∧InRules w6 w.heap.size (vs++[.slice (some ⟨g,0,none⟩) ps.length cp,.bool ex]) (acc++[RV.mk ps ex])):=⟨own_below O6.out b6,I6.out.below b6⟩
   clear b6 B6 O6 I6 CR b7
   go_wp2_with fail
   go_roundw
   case rel=>exact ⟨k-1,acc++[RV.mk ps ex],_,_,_,by omega,by go_num,by rw[hal],R7,HB7,HA7,T10.out.1,grow_trans HG.out T10.out.2.1⟩
   case measure=>simp[intOf];omega
 have hp': ¬0<(k:Int):=by omega
 go_wp2_with fail
 go_ret
 exact ⟨_,acc,HB.out,rfl,⟨vs,ad,c,rfl,HR.out.1,HR.out.2,HAP.out⟩,HU.out,HG.out⟩
end Go.Proofs.YtijliddchoehhaaGreatDoor
