/- The contracts of the code's ownSeen and SeenPress. -/
import Derived.Test.YtdnlaijpgjpplaaRows
import Derived.Test.YtdnlaijpgjpplaaSeenImpl
import Derived.Test.YtdnlaijpgjpplaaSeenOkI2
namespace Go.Proofs.Ytdnlaijpgjpplaa
open Go.RowKit
set_option linter.unusedVariables false

theorem seen_resultI {fn : Func} {q : Tmp} (h : fn.results = #[.cell q 27]) (tmps : Array Value) (W : World) (B : Nat) (a b : Value)
    (hp : tmps[q]?.getD undef = .pointer (some ⟨B, 0, none⟩)) (ha : BAt W B [a, b]) : (results fn tmps).run Try.prog W = .ok (.agg #[a, b]) W := by
  have c0 := ha.1 0 _ rfl
  have c1 := ha.1 1 _ rfl
  simp [results, h, hp, asAddr, go_sem, c0, c1, Addr.add_lit]
theorem getD_mem {l : List EV} {i : Nat} (h : i < l.length) : l.getD i ev0 ∈ l := by
  rw [List.getD_eq_getElem?_getD, List.getElem?_eq_getElem h]
  exact List.getElem_mem _
theorem getDD_mem {ll : List (List EV)} {i : Nat} (h : i < ll.length) : ll.getD i [] ∈ ll := by
  rw [List.getD_eq_getElem?_getD, List.getElem?_eq_getElem h]
  exact List.getElem_mem _
theorem flat_len {ll : List (List EV)} {i : Nat} (h : i < ll.length) : (ll.getD i []).length ≤ ll.flatten.length := by
  have := psum_flat ll
  have h2 := psum_at (fun i => (ll.getD i []).length) h
  omega
set_option maxRecDepth 100000 in
set_option maxHeartbeats 4000000 in
theorem implOwnSeen (m : List EV) (ll : List (List EV)) (p q : Value) (w : World) (hm : m.length ≤ 1048576) (hn : ll.length ≤ 1048576) (hf : ∀ i, i < ll.length → (ll.getD i []).length ≤ 1048576) (hz : RZ m ll) (hp : EntRow w p m) (hq : RunRow w q ll) :
    Calls Try.prog 23 #[.agg #[p, q]] w fun e w' => ∃ ao ac bo bc, e = .returned (.agg #[.slice ao m.length ac, .slice bo ll.length bc]) ∧ SnOwn w' w.heap.size w'.heap.size (.slice ao m.length ac) (.slice bo ll.length bc) m ll ∧ Below w.heap.size w w' := by
  obtain ⟨i0, hi, hz0, hz1, hz2⟩ := info_parts Try.infoRw
  obtain ⟨O, hO⟩ : ∃ O, O = (w.alloc (.cells #[p, q] 27)).alloc (.cells #[.slice none 0 0, .slice none 0 0] 27) := ⟨_, rfl⟩
  have bO : Below w.heap.size w O := by rw [hO]; exact ((Below.refl _ _).alloc (Nat.le_refl _) _).alloc (by simp) _
  have hzO : w.heap.size + 2 ≤ O.heap.size := by rw [hO]; simp
  have A0 : BAt O w.heap.size [p, q] := by rw [hO]; exact (BAt.new w #[p, q] _).alloc _
  have A1 : BAt O (w.heap.size + 1) [.slice none 0 0, .slice none 0 0] := by
    rw [hO]
    have := BAt.new (w.alloc (.cells #[p, q] 27)) #[.slice none 0 0, .slice none 0 0] 27
    rwa [World.size_alloc] at this
  have HB : Hid (∀ W, Below O.heap.size O W → Below w.heap.size w W ∧ BAt W w.heap.size [p, q] ∧ BAt W (w.heap.size + 1) [.slice none 0 0, .slice none 0 0]) := fun W hW => ⟨bO.trans (hW.mono bO.size), A0.below hW, A1.below hW⟩
  have CM : Hid (∀ W, Below w.heap.size w W → Calls Try.prog 28 #[p] W fun e w' => ∃ v', e = .returned v' ∧ w'.ownsRow W.heap.size 35 2 v' m.length (ecells m) ∧ Below W.heap.size W w') := fun W hW => implOwnMarks m p W hm (fun i hi => by have := hz _ (List.mem_append_left _ (getD_mem hi)); omega) (hp.below hW)
  have CR : Hid (∀ i x W, i < ll.length → EntRow W x (ll.getD i []) → Calls Try.prog 28 #[x] W fun e w' => ∃ v', e = .returned v' ∧ w'.ownsRow W.heap.size 35 2 v' (ll.getD i []).length (ecells (ll.getD i [])) ∧ Below W.heap.size W w') := fun i x W hi hx => implOwnMarks _ x W (hf i hi) (fun j hj => by have := hz _ (List.mem_append_right _ (List.mem_flatten.2 ⟨_, getDD_mem hi, getD_mem hj⟩)); omega) hx
  obtain ⟨pa, pc, rfl⟩ := hp.slice
  have HQ := hidM hq
  obtain ⟨qa, qc, hqe⟩ := hq.slice
  subst hqe
  have c1 := A0.1 1 _ rfl
  clear hp hq hz hf
  go_enter Try.func23, Try.ntmps23
  go_upto_region 1 with fail
  rw [← hO]
  clear hO A0 A1
  go_wp2_with (at_make; refine wpList_make_own _ rfl _ _ 25 rfl O.heap.size 24 i0 (.slice none 0 0) 1 Try.underlying25 hi hz0 hz1 _ _ _ ll.length rfl rfl (by omega) (by rw [hz2]; omega) (by unfold maxLen; omega) (Nat.le_refl _) ?_)
  intro wm hmo hgm
  have Bm : Below O.heap.size O wm := (Below.refl _ _).grown hgm (Nat.le_refl _) (fun k hk => by cases hk)
  obtain ⟨BW, AW, AR⟩ := HB.out wm Bm
  have d1 := AW.1 1 _ rfl
  have HI0 : Hid (InR wm O.heap.size wm.heap.size (.slice (some ⟨O.heap.size, 0, none⟩) 0 ll.length) [] ll 0) := hidM ⟨(fun i hi => absurd hi (Nat.not_lt_zero _)), (fun a x ha => absurd ha (Nat.not_lt_zero _)), fun b hb => (hmo.lt b hb).2⟩
  have HMO := hidM hmo
  clear hgm hmo c1
  rcases HQ.out with ⟨h0, ao, cap, hv⟩ | ⟨h0, g, off, cap, hv, hg, hc⟩
  · subst h0
    have RO : Hid (RunOwn wm O.heap.size wm.heap.size (.slice (some ⟨O.heap.size, 0, none⟩) 0 0) []) := ⟨[], HMO.out, HI0.out⟩
    have hbO := Bm
    clear HQ hv CR HI0 HMO Bm BW AW AR
    go_wp2
    refine wp_loop_rounds 1 ?_
    rw [rounds_succ]
    obtain ⟨BW, AW, AR⟩ := HB.out _ hbO
    have e0 := AW.1 0 _ rfl
    have CM2 := hidM (CM.out _ BW)
    go_wp2_with fail
    refine CM2.out.mono ?_
    rintro e w3 ⟨vm, rfl, om, b3⟩
    have hz3 := b3.size
    have hzb := hbO.size
    have RO3 := RO.out.below (Nat.le_refl _) b3
    have AR3 := AR.below b3
    obtain ⟨ma, mc, rfl⟩ := (EntRow.of_own' om).slice
    obtain ⟨ra, rc, hrv⟩ := RO.out.row.slice
    first | subst hrv | cases hrv
    have B3 := BW.trans (b3.mono BW.size)
    have S0 := hidM (SnOwn.mk (base := O.heap.size) (top := w3.heap.size) (own_wide1 om hzb) RO3 (Nat.le_refl _) hz3 (fun b hb => (om.lt b hb).2) (fun b hb => .inr (om.lt b hb).1))
    clear om RO RO3 CM2 e0 AW
    have r0 := AR3.1 0 _ rfl
    have r1 := AR3.1 1 _ rfl
    have g1 := AR3.2.1
    go_wp2_with fail
    refine bodyPost_ret (seen_resultI rfl _ _ (w.heap.size + 1) _ _ rfl ((AR3.set 0 (by simp) _).set 1 (by simp) _)) rfl ⟨_, _, _, _, rfl, ?_, ?_⟩
    · obtain ⟨vs, k1, k2⟩ := (S0.out.same (w' := (w3.setCell ⟨w.heap.size + 1, 0, none⟩ (.slice ma m.length mc)).setCell ⟨w.heap.size + 1, 1, none⟩ (.slice (some ⟨O.heap.size, 0, none⟩) 0 0)) (fun bb h1 h2 => by
        rw [Below.heap_setCell _ _ _ _ (by simp; omega), Below.heap_setCell _ _ _ _ (by simp; omega)])).wide (base' := w.heap.size) (by omega)
      exact ⟨vs, k1, k2.same (by simp) fun _ _ _ _ => rfl⟩
    · exact (B3.setCell (by simp) _).setCell (by simp) _
  · injection hv with hv1 hv2 hv3
    subst hv1 hv3
    have HC : Hid (∀ i, i < ll.length → ∃ x, w.cell? ⟨g, off + i, none⟩ = some x ∧ EntRow w x (ll.getD i [])) := hc
    clear hc HQ hv2
    go_wp2
    go_loopw [3, 13] (fun s i wr => ∃ (k : Nat) (xs : List Value), k ≤ ll.length ∧ i = .int .i64 k ∧ Hid (wr.ownsRow O.heap.size 24 1 s k xs) ∧ Hid (InR wr O.heap.size wr.heap.size s xs ll k) ∧ Below O.heap.size O wr) (fun _ i _ => ll.length - (intOf i).toNat)
    case atStart => exact ⟨0, [], Nat.zero_le _, rfl, HMO, HI0, Bm⟩
    case round =>
      clear HMO HI0 Bm BW AW AR d1
      obtain ⟨k, xs, hk, rfl, HO, HI, hbO⟩ := hrel
      by_cases hlt : k < ll.length
      · have hki : (k : Int) < ll.length := by omega
        obtain ⟨x, d1, d2⟩ := HC.out k hlt
        have hbel := (HB.out _ hbO).1
        have d1w := (hbel.cell (p := ⟨g, off + k, none⟩) hg).trans d1
        have CX := hidM (CR.out k x wr hlt (d2.below hbel))
        clear d1 d2
        go_wp2_with fail
        refine CX.out.mono ?_
        rintro e w1 ⟨x1, rfl, o1, b1⟩
        have hOB : O.heap.size ≤ w1.heap.size := by have := hbO.size; have := b1.size; omega
        have HO1 := hidM (own_below HO.out b1)
        obtain ⟨xa, xc, hxe⟩ := (EntRow.of_own' o1).slice
        obtain ⟨XN, hXN⟩ : ∃ n, (ll.getD k []).length = n := ⟨_, rfl⟩
        have O1 := hidM o1
        rw [hXN] at hxe
        subst hxe
        clear CX d1w o1 hXN
        go_wp2_with (at_builtin; refine wpList_append_newAt _ rfl _ _ 25 rfl O.heap.size 24 (.slice none 0 0) 24 Try.underlying25 Try.infoRw rfl _ _ _ rfl HO1.out #[.slice xa XN xc] 1 rfl rfl (by intro u hu; simp at hu; rw [hu]; rfl) (by omega) (by unfold maxLen; omega) hOB ?_)
        intro v2 w2 o2 g2 hv2
        have hxl : xs.length = k := by have := HO.out.1; omega
        have hvb : ∀ b, u3.ownBlock = some b → O.heap.size ≤ b ∧ b < wr.heap.size := fun b hb => HO.out.lt b hb
        have hs1 := b1.size
        have hs2 := g2.size
        have HI2 : Hid (InR w2 O.heap.size w2.heap.size v2 (xs ++ [.slice xa XN xc]) ll (k + 1)) := hidM (by
          refine HI.out.more (p := .slice xa XN xc) (fun b h1 h2 h3 => ?_) (fun a ha => ?_) (fun _ _ => rfl) ?_ (by omega) ?_ ?_ (fun b e => ?_) (fun b e1 e2 => ?_)
          · rw [g2.block b (by omega) h3, b1.block b h2]
          · rw [List.getElem?_append_left (by omega)]
          · rcases hv2 with e | e
            · exact .inl e
            · exact .inr fun b hb => by rw [e] at hb; injection hb with hb; have := (o2.lt b (by rw [e, hb])).2; omega
          · rw [List.getElem?_append_right (by omega), hxl, Nat.sub_self]; rfl
          · refine own_wide1 (O1.out.kept g2 ?_) hbO.size
            cases hxb : (Value.slice xa XN xc).ownBlock with
            | none => exact .inl rfl
            | some b => exact .inr fun e => by have h1 := (O1.out.lt b hxb).1; have h2 := (hvb b e.symm).2; omega
          · have := O1.out.lt b e; omega
          · have h1 := O1.out.lt b e1
            rcases hv2 with e | e
            · have := (hvb b (by rw [← e]; exact e2)).2; omega
            · rw [e] at e2; injection e2 with e2; omega)
        have O2 : Hid (w2.ownsRow O.heap.size 24 1 v2 (k + 1) (xs ++ [.slice xa XN xc])) := hidM (by simpa using o2)
        have B2 : Below O.heap.size O w2 := (hbO.trans (b1.mono hbO.size)).grown g2 hOB (fun b hb => (hvb b hb).1)
        clear o2 g2 hv2 O1 b1 HO1 HO HI hvb hbO
        go_wp2_with fail
        go_roundw
        case rel => exact ⟨k + 1, xs ++ [.slice xa XN xc], by omega, by go_num, O2, HI2, B2⟩
        case measure => simp [intOf]; omega
      · have hki : ¬ (k : Int) < ll.length := by omega
        have RO : Hid (RunOwn wr O.heap.size wr.heap.size u3 ll) := hidM (by
          obtain rfl : k = ll.length := by omega
          exact ⟨xs, HO.out, HI.out⟩)
        clear HO HI HC CR
        obtain ⟨BW, AW, AR⟩ := HB.out _ hbO
        have e0 := AW.1 0 _ rfl
        have CM2 := hidM (CM.out _ BW)
        go_wp2_with fail
        refine CM2.out.mono ?_
        rintro e w3 ⟨vm, rfl, om, b3⟩
        have hz3 := b3.size
        have hzb := hbO.size
        have RO3 := RO.out.below (Nat.le_refl _) b3
        have AR3 := AR.below b3
        obtain ⟨ma, mc, rfl⟩ := (EntRow.of_own' om).slice
        obtain ⟨ra, rc, hrv⟩ := RO.out.row.slice
        first | subst hrv | cases hrv
        have B3 := BW.trans (b3.mono BW.size)
        have S0 := hidM (SnOwn.mk (base := O.heap.size) (top := w3.heap.size) (own_wide1 om hzb) RO3 (Nat.le_refl _) hz3 (fun b hb => (om.lt b hb).2) (fun b hb => .inr (om.lt b hb).1))
        clear om RO RO3 CM2 e0 AW
        have r0 := AR3.1 0 _ rfl
        have r1 := AR3.1 1 _ rfl
        have g1 := AR3.2.1
        go_wp2_with fail
        refine bodyPost_ret (seen_resultI rfl _ _ (w.heap.size + 1) _ _ rfl ((AR3.set 0 (by simp) _).set 1 (by simp) _)) rfl ⟨_, _, _, _, rfl, ?_, ?_⟩
        · obtain ⟨vs, k1, k2⟩ := (S0.out.same (w' := (w3.setCell ⟨w.heap.size + 1, 0, none⟩ (.slice ma m.length mc)).setCell ⟨w.heap.size + 1, 1, none⟩ (.slice ra ll.length rc)) (fun bb h1 h2 => by
            rw [Below.heap_setCell _ _ _ _ (by simp; omega), Below.heap_setCell _ _ _ _ (by simp; omega)])).wide (base' := w.heap.size) (by omega)
          exact ⟨vs, k1, k2.same (by simp) fun _ _ _ _ => rfl⟩
        · exact (B3.setCell (by simp) _).setCell (by simp) _
end Go.Proofs.Ytdnlaijpgjpplaa
