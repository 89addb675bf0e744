/- The contract of the code's ownSched. -/
import Derived.Test.YtcjblhiihgdljaaGreatRows
import Derived.Test.YtcjblhiihgdljaaGreatSchCopyS
import Derived.Test.YtcjblhiihgdljaaGreatOwnQI
namespace Go.Proofs.YtcjblhiihgdljaaGreat
open Go.RowKit
set_option linter.unusedVariables false
set_option linter.unusedSimpArgs false

/-- All texts are short. -/
structure TxB (si : List SiteV) (le : List LsV) : Prop where
  s : ∀ x ∈ si, x.n.size ≤ 1048576 ∧ ∀ y ∈ x.w, y.k.size ≤ 1048576
  l : ∀ x ∈ le, x.k.size ≤ 1048576 ∧ x.s.size ≤ 1048576
set_option maxRecDepth 100000 in
set_option maxHeartbeats 16000000 in
theorem implOwnSched (d sp nw sq : Int) (si : List SiteV) (le : List LsV) (p q : Value) (w : World) (hn : SitFew si) (hl : le.length ≤ 1073741824) (hx : TxB si le) (hp : SitRow w p si) (hq : LsRow w q le) :
    Calls Tryz.prog 64 #[.agg #[.int .i64 d, .int .i64 sp, .int .i64 nw, .int .i64 sq, p, q]] w fun e w' => SchR w d sp nw sq si le e w' := by
  obtain ⟨i0, hi, hz0, hz1, hz2⟩ := info_parts Tryz.infoSi
  obtain ⟨hn1, hn2⟩ := hn
  have HF := hidM hn2
  have HS := hidM hp
  have HL := hidM hq
  have HT := hidM hx
  obtain ⟨pa, pc, rfl⟩ := hp.slice
  obtain ⟨qa, qc, rfl⟩ := hq.slice
  clear hp hq hn2 hx
  obtain ⟨O, hO⟩ : ∃ O, O = (w.alloc (.cells #[.int .i64 d, .int .i64 sp, .int .i64 nw, .int .i64 sq, .slice pa si.length pc, .slice qa le.length qc] 27)).alloc (.cells #[.int .i64 0, .int .i64 0, .int .i64 0, .int .i64 0, .slice none 0 0, .slice none 0 0] 27) := ⟨_, rfl⟩
  have hbO : Below w.heap.size w O := by rw [hO]; exact ((Below.refl _ _).alloc (Nat.le_refl _) _).alloc (by simp) _
  have HZO : Hid (O.heap.size = w.heap.size + 2) := hidM (by rw [hO]; simp)
  have A0 : Hid (BAt O w.heap.size [.int .i64 d, .int .i64 sp, .int .i64 nw, .int .i64 sq, .slice pa si.length pc, .slice qa le.length qc]) := hidM (by rw [hO]; exact (BAt.new w #[.int .i64 d, .int .i64 sp, .int .i64 nw, .int .i64 sq, .slice pa si.length pc, .slice qa le.length qc] _).alloc _)
  have A1 : Hid (BAt O (w.heap.size + 1) [.int .i64 0, .int .i64 0, .int .i64 0, .int .i64 0, .slice none 0 0, .slice none 0 0]) := hidM (by
    rw [hO]
    have := BAt.new (w.alloc (.cells #[.int .i64 d, .int .i64 sp, .int .i64 nw, .int .i64 sq, .slice pa si.length pc, .slice qa le.length qc] 27)) #[.int .i64 0, .int .i64 0, .int .i64 0, .int .i64 0, .slice none 0 0, .slice none 0 0] 27
    rw [World.size_alloc] at this
    exact this)
  have c4 := A0.out.1 4 _ rfl
  go_enter Tryz.func64, Tryz.ntmps64
  go_upto_region 1 with fail
  rw [← hO]
  clear hO
  go_wp2_with (at_make; refine wpList_make_own _ rfl _ _ 24 rfl O.heap.size 43 i0 (.agg #[.string ⟨#[]⟩, .int .i64 0, .slice none 0 0]) 3 Tryz.underlying24 hi hz0 hz1 _ _ _ si.length rfl rfl (by omega) (by rw [hz2]; omega) (by unfold maxLen; omega) (Nat.le_refl _) ?_)
  intro wm hmo hgm
  have Bm : Below O.heap.size O wm := (Below.refl _ _).grown hgm (Nat.le_refl _) (fun k hk => by cases hk)
  have HX0 : Hid (SitX wm O.heap.size wm.heap.size (.slice (some ⟨O.heap.size, 0, none⟩) 0 si.length) [] (si.take 0)) := hidM ⟨hmo, fun b hb => (hmo.lt b hb).2, SitPart.nil _ _ _⟩
  have m4 := (A0.out.below Bm).1 4 _ rfl
  clear hgm hmo c4
  go_wp2_with fail
  go_loopw [3, 13] (fun s i wr => ∃ (k : Nat) (ra : Option Addr) (rc : Nat) (cs : List SiV), k ≤ si.length ∧ i = .int .i64 k ∧ s = .slice ra k rc ∧ Hid (SitX wr O.heap.size wr.heap.size (.slice ra k rc) cs (si.take k)) ∧ Below O.heap.size O wr) (fun _ i _ => si.length - (intOf i).toNat)
  case atStart => exact ⟨0, _, _, [], Nat.zero_le _, rfl, rfl, HX0, Bm⟩
  case round =>
    clear HX0 Bm m4
    obtain ⟨k, ra, rc, cs, hk, rfl, rfl, HX, hbr⟩ := hrel
    have zO : w.heap.size + 2 ≤ O.heap.size := Nat.le_of_eq HZO.out.symm
    have zr := hbr.size
    have hbel : Below w.heap.size w wr := hbO.trans (hbr.mono (by omega))
    by_cases hlt : k < si.length
    · have hki : (k : Int) < si.length := by omega
      rcases HS.out.cases with ⟨h0, _⟩ | ⟨_, g, off, cap, hpe, hg, hc⟩
      · rw [h0] at hlt; exact absurd hlt (Nat.not_lt_zero _)
      · injection hpe with i1 i2 i3
        subst i1
        clear i2 i3
        obtain ⟨c0, c1, x, c2, c3⟩ := (hc k hlt).below hbel hg
        have hxl := HF.out k hlt
        obtain ⟨hxn, hxk⟩ := HT.out.s _ (getD_mem sitv0 hlt)
        obtain ⟨xa, xc, hxe⟩ := c3.slice
        have htl : (si.take k).length = k := by rw [List.length_take]; omega
        have HTK : Hid (si.take (k + 1) = si.take k ++ [si.getD k sitv0]) := hidM (takeD_snoc sitv0 si hlt)
        have HCW := hidM c3
        have HTL := hidM htl
        have HXK := hidM hxk
        clear hc c3 htl hxk
        generalize si.getD k sitv0 = xs at *
        obtain ⟨xn, xr, xw⟩ := xs
        dsimp only at c0 c1 hxe HCW hxl hxn HXK
        subst hxe
        obtain ⟨E, hE⟩ : ∃ E, E = wr.heap.size := ⟨_, rfl⟩
        obtain ⟨V, hV⟩ : ∃ V, V = wr.alloc (.cells #[.string xn, .int .i64 xr, .slice xa xw.length xc] 43) := ⟨_, rfl⟩
        have BV : Below wr.heap.size wr V := by rw [hV]; exact (Below.refl _ _).alloc (Nat.le_refl _) _
        have AV : BAt V E [.string xn, .int .i64 xr, .slice xa xw.length xc] := by rw [hV, hE]; exact BAt.new wr #[.string xn, .int .i64 xr, .slice xa xw.length xc] _
        have CC : Hid (∀ W, Calls Tryz.prog 67 #[.string xn] W fun e w' => e = .returned (.string xn) ∧ Below W.heap.size W w') := fun W => strClone _ W (by omega)
        have CQ : Hid (∀ W, Below wr.heap.size wr W → Calls Tryz.prog 120 #[.slice xa xw.length xc] W fun e w' => ∃ ao cap, e = .returned (.slice ao xw.length cap) ∧ w'.ownsRow W.heap.size 83 3 (.slice ao xw.length cap) xw.length (wtcells xw) ∧ Below W.heap.size W w') := fun W hW => implOwnQueue xw _ W (by omega) HXK.out (HCW.out.below hW)
        clear HXK HCW
        go_upto_region 5 with fail
        rw [← hV, ← hE]
        clear hV c0 c1 c2
        have hEl : Hid (E = wr.heap.size) := hE
        have hEb : E < V.heap.size := AV.2.2
        have hB0 : Below wr.heap.size wr V.drew := BV.drew
        clear hE
        refine wp_region_held_drew (S := fun W => BAt W E [.string xn, .int .i64 xr, .slice xa xw.length xc]) (by kernel_rfl) AV (fun h0 => ?_)
        refine wpAnyH_take (i := 0) (v := ?_) rfl (by kernel_rfl) (by kernel_rfl) (by kernel_rfl) (fun _ _ _ h => h) (Or.inl ⟨by rfl, fun W hW => ?_⟩) h0 ?_
        rotate_left
        · have q0 := hW.1 0 _ rfl
          clear hW
          go_simp
          try with_reducible rfl
        simp only [Act.put, List.getElem_toArray, List.getElem_cons_zero, List.getElem_cons_succ, List.setIfInBounds_toArray, List.set_cons_zero, List.set_cons_succ]
        refine wpAnyH_take (i := 1) (v := ?_) rfl (by kernel_rfl) (by kernel_rfl) (by kernel_rfl) (fun _ _ _ h => h) (Or.inl ⟨by rfl, fun W hW => ?_⟩) h0 ?_
        rotate_left
        · have q0 := hW.1 0 _ rfl
          clear hW
          go_simp
          try with_reducible rfl
        simp only [Act.put, List.getElem_toArray, List.getElem_cons_zero, List.getElem_cons_succ, List.setIfInBounds_toArray, List.set_cons_zero, List.set_cons_succ]
        refine wpAnyH_take (i := 2) (v := ?_) rfl (by kernel_rfl) (by kernel_rfl) (by kernel_rfl) (fun _ _ _ h => h) (Or.inl ⟨by rfl, fun W hW => ?_⟩) h0 ?_
        rotate_left
        · have q0 := hW.1 0 _ rfl
          clear hW
          go_simp
          try with_reducible rfl
        simp only [Act.put, List.getElem_toArray, List.getElem_cons_zero, List.getElem_cons_succ, List.setIfInBounds_toArray, List.set_cons_zero, List.set_cons_succ]
        refine wpAnyH_take (i := 4) (v := ?_) rfl (by kernel_rfl) (by kernel_rfl) (by kernel_rfl) (fun _ _ _ h => h) (Or.inl ⟨by rfl, fun W hW => ?_⟩) h0 ?_
        rotate_left
        · have q0 := hW.1 1 _ rfl
          clear hW
          go_simp
          try with_reducible rfl
        simp only [Act.put, List.getElem_toArray, List.getElem_cons_zero, List.getElem_cons_succ, List.setIfInBounds_toArray, List.set_cons_zero, List.set_cons_succ]
        refine wpAnyH_take (i := 5) (v := ?_) rfl (by kernel_rfl) (by kernel_rfl) (by kernel_rfl) (fun _ _ _ h => h) (Or.inl ⟨by rfl, fun W hW => ?_⟩) h0 ?_
        rotate_left
        · have q0 := hW.1 1 _ rfl
          clear hW
          go_simp
          try with_reducible rfl
        simp only [Act.put, List.getElem_toArray, List.getElem_cons_zero, List.getElem_cons_succ, List.setIfInBounds_toArray, List.set_cons_zero, List.set_cons_succ]
        refine wpAnyH_take (i := 6) (v := ?_) rfl (by kernel_rfl) (by kernel_rfl) (by kernel_rfl) (fun _ _ _ h => h) (Or.inl ⟨by rfl, fun W hW => ?_⟩) h0 ?_
        rotate_left
        · have q0 := hW.1 2 _ rfl
          clear hW
          go_simp
          try with_reducible rfl
        simp only [Act.put, List.getElem_toArray, List.getElem_cons_zero, List.getElem_cons_succ, List.setIfInBounds_toArray, List.set_cons_zero, List.set_cons_succ]
        refine wpAnyH_take (i := 7) (v := ?_) rfl (by kernel_rfl) (by kernel_rfl) (by kernel_rfl) (fun _ _ _ h => h) (Or.inl ⟨by rfl, fun W hW => ?_⟩) h0 ?_
        rotate_left
        · have q0 := hW.1 2 _ rfl
          clear hW
          go_simp
          try with_reducible rfl
        simp only [Act.put, List.getElem_toArray, List.getElem_cons_zero, List.getElem_cons_succ, List.setIfInBounds_toArray, List.set_cons_zero, List.set_cons_succ]
        refine wpAnyH_ready (rs := [3]) (by kernel_rfl) (by simp) (AllReadyH.cons rfl (fun K hK => ?_) AllReadyH.nil)
        go_simp
        go_wp2_with (go_at_call 67; refine (CC.out _).mono ?_; rintro e w1 ⟨rfl, b1⟩)
        have s1 : BAt w1 E [.string xn, .int .i64 xr, .slice xa xw.length xc] := AV.below (W := V.drew) b1
        have B1 : Below wr.heap.size wr w1 := hB0.trans (b1.mono hB0.size)
        refine hK.out _ _ s1 (fun h1 => ?_)
        clear hK K h0 b1 hB0
        refine wpAnyH_ready (rs := [8]) (by kernel_rfl) (by simp) (AllReadyH.cons rfl (fun K hK => ?_) AllReadyH.nil)
        go_simp
        go_wp2_with (go_at_call 120; refine (CQ.out _ B1).mono ?_; rintro e w2 ⟨va, vc, rfl, o2, b2⟩)
        have s2 : BAt w2 E [.string xn, .int .i64 xr, .slice xa xw.length xc] := s1.below b2
        have B2 : Below wr.heap.size wr w2 := B1.trans (b2.mono B1.size)
        refine hK.out _ _ s2 (fun h2 => ?_)
        clear hK K h1 s1
        refine wpAnyH_take (i := 9) (v := ?_) rfl (by kernel_rfl) (by kernel_rfl) (by kernel_rfl) (fun _ _ _ h => h) (Or.inl ⟨by rfl, fun W hW => ?_⟩) h2 ?_
        rotate_left
        · skip
          clear hW
          go_simp
          try with_reducible rfl
        simp only [Act.put, List.getElem_toArray, List.getElem_cons_zero, List.getElem_cons_succ, List.setIfInBounds_toArray, List.set_cons_zero, List.set_cons_succ]
        refine wpAnyH_ready (rs := [10]) (by kernel_rfl) (by simp) (AllReadyH.cons rfl (fun K hK => ?_) AllReadyH.nil)
        go_simp
        obtain ⟨Y, hY⟩ : ∃ Y, Y = w2.alloc (.cells #[.string xn, .int .i64 xr, .slice va xw.length vc] 43) := ⟨_, rfl⟩
        have NY := BAt.new w2 #[.string xn, .int .i64 xr, .slice va xw.length vc] 43
        rw [← hY] at NY ⊢
        have bY : Below w2.heap.size w2 Y := by rw [hY]; exact (Below.refl _ _).alloc (Nat.le_refl _) _
        have BY : Below wr.heap.size wr Y := B2.trans (bY.mono B2.size)
        have sY : BAt Y E [.string xn, .int .i64 xr, .slice xa xw.length xc] := s2.below bY
        have OY : Hid (Y.ownsRow w1.heap.size 83 3 (.slice va xw.length vc) xw.length (wtcells xw)) := own_below o2 bY
        have RY : Hid (Y.ownsRow O.heap.size 43 3 (.slice ra k rc) k (sicells cs)) := hidM (by have := own_below HX.out.row BY; rwa [HTL.out] at this)
        refine hK.out _ _ sY (fun h3 => ?_)
        have hz1w := B1.size
        clear hK K h2 hY o2 b2 s2 bY B2 B1
        refine wpAnyH_ready (rs := [11]) (by kernel_rfl) (by simp) (AllReadyH.cons rfl (fun K hK => ?_) AllReadyH.nil)
        rw [if_pos (by rfl)]
        refine wp_append_own _ (.tmp 17) (.tmp 27) 24 rfl O.heap.size 43 i0 (.agg #[.string ⟨#[]⟩, .int .i64 0, .slice none 0 0]) 3 48 Tryz.underlying24 hi hz0 hz1 hz2 rfl (by decide) (.slice ra k rc) k (sicells cs) rfl RY.out ⟨w2.heap.size, 0, none⟩ 1 1 [.string xn, .int .i64 xr, .slice va xw.length vc] rfl rfl (fun jj u hj => by
          rw [Addr.add_lit, Nat.zero_add]
          exact NY.1 jj u hj) (by intro u hu; simp at hu; rcases hu with rfl | rfl | rfl <;> rfl) (by unfold maxLen; omega) (by omega) (by have := BY.size; omega) ?_
        intro v4 w4 o4 g4 _
        have hrl := fun b hb => RY.out.lt b hb
        have s4 : BAt w4 E [.string xn, .int .i64 xr, .slice xa xw.length xc] := sY.same g4.size (g4.block E sY.2.2 fun e => by
          have h1 := HX.out.lid E e.symm
          have := hEl.out
          omega)
        have B4 : Below O.heap.size O w4 := (hbr.trans (BY.mono zr)).grown g4 (by have := BY.size; omega) (fun b hb => (hrl b hb).1)
        refine hK.out _ _ s4 (fun h4 => ?_)
        clear hK K h3
        refine wpAnyH_take (i := 12) (v := ?_) rfl (by kernel_rfl) (by kernel_rfl) (by kernel_rfl) (fun _ _ _ h => h) (Or.inl ⟨by rfl, fun W hW => ?_⟩) h4 ?_
        rotate_left
        · skip
          clear hW
          go_simp
          try with_reducible rfl
        simp only [Act.put, List.getElem_toArray, List.getElem_cons_zero, List.getElem_cons_succ, List.setIfInBounds_toArray, List.set_cons_zero, List.set_cons_succ]
        refine wpAnyH_done (by kernel_rfl) ?_ _
        obtain ⟨sa, sc, rfl⟩ : ∃ a c, v4 = .slice a (k + 1) c := by
          rcases o4.2 with ⟨h, h2⟩ | ⟨g, cap, cur, h, _⟩
          · exact absurd h2 (by omega)
          · exact ⟨_, _, h⟩
        have HFX : Hid (SitX w4 O.heap.size w4.heap.size (.slice sa (k + 1) sc) (cs ++ [⟨xn, xr, .slice va xw.length vc⟩]) (si.take (k + 1))) := hidM (by
          rw [HTK.out]
          exact HX.out.more (c := ⟨xn, xr, .slice va xw.length vc⟩) (x := ⟨xn, xr, xw⟩) (Nat.le_refl _) BY (by rw [HTL.out, sicells_append]; exact o4) g4 (fun b hb => rfl) (Nat.le_refl _) rfl rfl OY.out (by omega) (by omega))
        clear o4 g4 RY OY hrl BY s4 sY NY HX AV BV CC CQ h4
        go_wp2_with fail
        go_roundw
        case rel => exact ⟨k + 1, sa, sc, _, by omega, by go_num, rfl, HFX, B4⟩
        case measure => simp [intOf]; omega
    · have hki : ¬ (k : Int) < si.length := by omega
      obtain rfl : k = si.length := by omega
      rw [List.take_length] at HX
      have b5 := (A0.out.below hbr).1 5 _ rfl
      have CL := hidM (implOwnLeases le (.slice qa le.length qc) wr (by omega) HT.out.l (HL.out.below hbel))
      go_wp2_with fail
      refine CL.out.mono ?_
      rintro e w1 ⟨la, lc, rfl, o1, b1⟩
      have O1 := hidM o1
      have B1 : Below O.heap.size O w1 := hbr.trans (b1.mono zr)
      have hw1 : Below w.heap.size w w1 := hbel.trans (b1.mono hbel.size)
      have T1 := A0.out.below B1
      have R1 := A1.out.below B1
      have m4 := T1.1 4 _ rfl
      have mf := T1.2.1
      have m5 := (T1.set 4 (by simp) (.slice ra si.length rc)).1 5 _ rfl
      have mg := (T1.set 4 (by simp) (.slice ra si.length rc)).2.1
      obtain ⟨Y, hY⟩ : ∃ Y, Y = (w1.setCell ⟨w.heap.size, 4, none⟩ (.slice ra si.length rc)).setCell ⟨w.heap.size, 5, none⟩ (.slice la le.length lc) := ⟨_, rfl⟩
      have BYw : Below w.heap.size w Y := by rw [hY]; exact (hw1.setCell (Nat.le_refl _) _).setCell (Nat.le_refl _) _
      have TY : BAt Y w.heap.size [.int .i64 d, .int .i64 sp, .int .i64 nw, .int .i64 sq, .slice ra si.length rc, .slice la le.length lc] := by rw [hY]; exact (T1.set 4 (by simp) _).set 5 (by simp) _
      have RY : BAt Y (w.heap.size + 1) [.int .i64 0, .int .i64 0, .int .i64 0, .int .i64 0, .slice none 0 0, .slice none 0 0] := by rw [hY]; exact (R1.other (by omega) 4 _).other (by omega) 5 _
      have hYb : ∀ b, O.heap.size ≤ b → Y.heap[b]? = w1.heap[b]? := fun b hb => by rw [hY, Below.heap_setCell _ _ _ _ (by show b ≠ w.heap.size; omega), Below.heap_setCell _ _ _ _ (by show b ≠ w.heap.size; omega)]
      have hYz : Y.heap.size = w1.heap.size := by rw [hY]; simp
      have HFIN : Hid (∀ F, F = six Y (w.heap.size + 1) (.int .i64 d) (.int .i64 sp) (.int .i64 nw) (.int .i64 sq) (.slice ra si.length rc) (.slice la le.length lc) → SchR w d sp nw sq si le (.returned (.agg #[.int .i64 d, .int .i64 sp, .int .i64 nw, .int .i64 sq, .slice ra si.length rc, .slice la le.length lc])) F) := fun F hF => by
        have hFz : F.heap.size = w1.heap.size := by rw [hF, six_size, hYz]
        have hFb : ∀ b, O.heap.size ≤ b → F.heap[b]? = w1.heap[b]? := fun b hb => by rw [hF, six_block _ _ _ _ _ _ _ _ (by omega), hYb b hb]
        have b1z := b1.size
        refine ⟨ra, rc, la, lc, rfl, ⟨⟨cs, (HX.out.same (top' := F.heap.size) (by omega) fun b h1 h2 => ?_).wide (by omega)⟩, own_wide1 (own_at O1.out fun b hb => hFb b (by have := (O1.out.lt b hb).1; omega)) (by omega), fun b hb => by have := (O1.out.lt b hb).2; omega⟩, by rw [hF]; exact six_below BYw (by omega) _ _ _ _ _ _⟩
        rw [hFb b h1]
        exact b1.block b h2
      have HRY := hidM RY
      clear o1 B1 O1 T1 R1 HX RY hYb hYz CL hw1 b1 b5
      go_upto_region 8 with fail
      rw [← hY]
      clear hY m4 mf m5 mg
      have y0 := TY.1 0 _ rfl
      have y1 := TY.1 1 _ rfl
      have y2 := TY.1 2 _ rfl
      have y3 := TY.1 3 _ rfl
      have y4 := TY.1 4 _ rfl
      have y5 := TY.1 5 _ rfl
      have r0 := HRY.out.1 0 _ rfl
      have r1 := HRY.out.1 1 _ rfl
      have r2 := HRY.out.1 2 _ rfl
      have r3 := HRY.out.1 3 _ rfl
      have r4 := HRY.out.1 4 _ rfl
      have r5 := HRY.out.1 5 _ rfl
      have rf := HRY.out.2.1
      go_wp2_with fail
      (try simp only [Exit.inBlock, Exit.then])
      refine bodyPost_ret (sch_result1 rfl _ _ (w.heap.size + 1) _ _ _ _ _ _ rfl (six_at HRY.out _ _ _ _ _ _)) rfl ?_
      exact HFIN.out _ rfl
end Go.Proofs.YtcjblhiihgdljaaGreat
