/- The contract of the code's queuesOf. -/
import Derived.Test.YtcjblhiihgdljaaGreatRows
import Derived.Test.YtcjblhiihgdljaaGreatQStat
import Derived.Test.YtcjblhiihgdljaaGreatOwnSI
import Derived.Test.YtcjblhiihgdljaaGreatSchCrow
import Derived.Lib.SliceRun
namespace Go.Proofs.YtcjblhiihgdljaaGreat
open Go.RowKit
set_option linter.unusedVariables false
set_option linter.unusedSimpArgs false

theorem wp_mapUpdate {P : Program} {w : World} {o : Oper} {a : Act} {K : Act → World → Prop} {Q : Exit → Act → World → Prop} (m x v : Operand) (t : TypeId) (hop : o.op = Op.mapUpdate t m x v) {b : Nat} {key val : Value} (hm : a.eval m = .map (some b)) (hx : a.eval x = key) (hv : a.eval v = val)
    {w' : World} (hrun : (Instr.mapUpdate t (.map (some b)) key val).run P w = .ok () w') (hK : K (a.put o.dst undef) w') : Oper.wp P o a w K Q := by
  unfold Oper.wp
  simp [execOp, hop, hm, hx, hv, hrun, Result.andThen]
  exact hK
theorem Tryz.infoPt : (Tryz.prog.info? 76).map (fun i => (i.zero, i.size, i.bytes)) = some (some (.pointer none), 1, 8) := by kernel_rfl
set_option maxHeartbeats 4000000 in
theorem implCloneW (l : List WtV) (v : Value) (w : World) (hl : l.length ≤ 1073741824) (h : WtRow w v l) :
    Calls Tryz.prog 135 #[v] w fun e w' => ∃ ao cap, e = .returned (.slice ao l.length cap) ∧ w'.ownsRow w.heap.size 83 3 (.slice ao l.length cap) l.length (wtcells l) ∧ Below w.heap.size w w' := by
  have q22 : ∀ (w : World) (a : Option Addr) (n c n' c' : Nat), (binOp .eql 41 (.slice a n c) (.slice none n' c')).run Tryz.prog w = .ok (.bool a.isNone) w := fun w a n c n' c' => Lib.run_eql_slice_nil w _ _ a n c n' c' Tryz.underlying41
  have HC := hidM h.crow
  have HE := hidM (World.ownsRow_made (e := 83) (size := 3) (base := w.heap.size) w #[] 0 (Nat.le_refl _) (by decide) rfl)
  obtain ⟨ao, ac, rfl⟩ := h.slice
  cases ao with
  | none =>
    have hl0 : l = [] := by
      rcases h with ⟨e, _⟩ | ⟨_, g, off, cap, e, _⟩
      · exact e
      · cases e
    subst hl0
    clear h HC HE
    go_enter Tryz.func135, Tryz.ntmps135
    go_wp2_with fail
    go_ret
    exact ⟨none, 0, rfl, World.ownsRow_nil _ _ _ _, Below.refl _ _⟩
  | some ad =>
    have HC2 : Hid (CRow (w.alloc (.cells #[] 83)) (.slice (some ad) l.length ac) l.length 3 (wtcells l)) := hidM (HC.out.below ((Below.refl _ w).alloc (Nat.le_refl _) _))
    clear h HC
    go_enter Tryz.func135, Tryz.ntmps135
    go_wp2_with (at_builtin; refine wpList_append_crow rfl _ _ 41 rfl w.heap.size 83 (.agg #[.string ⟨#[]⟩, .int .i64 0, .int .i64 0]) 3 32 Tryz.underlying41 Tryz.infoWt rfl (by decide) _ 0 _ rfl HE.out _ l.length (wtcells l) rfl HC2.out (by omega) (by unfold maxLen; omega) (by simp) ?_)
    intro v1 w1 o1 g1 _
    have B1 : Below w.heap.size w w1 := ((Below.refl _ w).alloc (Nat.le_refl _) (.cells #[] 83)).grown g1 (by simp) (fun b hb => (HE.out.lt b hb).1)
    obtain ⟨va, vc, rfl⟩ : ∃ a c, v1 = .slice a l.length c := by
      rcases o1.2 with ⟨h, h2⟩ | ⟨g, cap, cur, h, _⟩
      · exact ⟨none, 0, by rw [h, h2]⟩
      · exact ⟨_, _, h⟩
    have O1 := hidM (show w1.ownsRow w.heap.size 83 3 (.slice va l.length vc) l.length (wtcells l) from o1)
    clear o1 g1 HE HC2
    go_wp2_with fail
    go_ret
    exact ⟨va, vc, rfl, O1.out, B1⟩
theorem lRem_fresh {le : List LsV} {k : ByteArray} (h : ∀ x ∈ le, x.k ≠ k) : lRem le k = le := by
  unfold lRem
  rw [List.filter_eq_self]
  intro x hx
  simpa using h x hx
set_option maxRecDepth 100000 in
set_option maxHeartbeats 16000000 in
theorem implQueuesOf (d sp nw sq : Int) (si : List SiteV) (le : List LsV) (p q : Value) (w : World) (hn : SitFew si) (hl : le.length ≤ 1048576) (hx : TxB si le) (hs : le.Pairwise fun a b => lBef a b = true) (hp : SitRow w p si) (hq : LsRow w q le) :
    Calls Tryz.prog 93 #[.agg #[.int .i64 d, .int .i64 sp, .int .i64 nw, .int .i64 sq, p, q]] w fun e w' => ∃ Q, e = .returned (.pointer (some ⟨Q, 0, none⟩)) ∧ QStO w' w.heap.size Q d sp nw sq si le.length le ∧ Below w.heap.size w w' := by
  obtain ⟨ip, hip, hp0, hp1, hp2⟩ := info_parts Tryz.infoPt
  obtain ⟨hn1, hn2⟩ := hn
  have HF := hidM hn2
  have HS := hidM hp
  have HL := hidM hq
  have HT := hidM hx
  have HSO := hidM hs
  obtain ⟨pa, pc, rfl⟩ := hp.slice
  obtain ⟨qa, qc, rfl⟩ := hq.slice
  clear hp hq hn2 hx hs
  obtain ⟨O, hO⟩ : ∃ O, O = w.alloc (.cells #[.int .i64 d, .int .i64 sp, .int .i64 nw, .int .i64 sq, .slice pa si.length pc, .slice qa le.length qc] 27) := ⟨_, rfl⟩
  have hbO : Below w.heap.size w O := by rw [hO]; exact (Below.refl _ _).alloc (Nat.le_refl _) _
  have hzO : O.heap.size = w.heap.size + 1 := by rw [hO]; simp
  have A0 : BAt O w.heap.size [.int .i64 d, .int .i64 sp, .int .i64 nw, .int .i64 sq, .slice pa si.length pc, .slice qa le.length qc] := by rw [hO]; exact BAt.new w #[.int .i64 d, .int .i64 sp, .int .i64 nw, .int .i64 sq, .slice pa si.length pc, .slice qa le.length qc] _
  have c0 := A0.1 0 _ rfl
  have c1 := A0.1 1 _ rfl
  have c2 := A0.1 2 _ rfl
  have c3 := A0.1 3 _ rfl
  obtain ⟨V, hV⟩ : ∃ V, V = (O.alloc (.map #[] 0)).alloc (.cells #[.int .i64 d, .int .i64 sp, .int .i64 nw, .int .i64 sq, .slice none 0 0, .map (some O.heap.size)] 95) := ⟨_, rfl⟩
  have bV : Below O.heap.size O V := by rw [hV]; exact ((Below.refl _ _).alloc (Nat.le_refl _) _).alloc (by simp) _
  have HQ0 : Hid (QSt V O.heap.size (O.heap.size + 1) d sp nw sq (.slice none 0 0) [] [] (si.take 0) O.heap.size 0 []) := hidM (by
    rw [hV]
    have h1 := OAt.new (O.alloc (.map #[] 0)) 95 [.int .i64 d, .int .i64 sp, .int .i64 nw, .int .i64 sq, .slice none 0 0, .map (some O.heap.size)]
    rw [World.size_alloc] at h1
    exact ⟨h1, by omega, World.ownsRow_nil _ _ _ _, rfl, fun i hi => absurd hi (Nat.not_lt_zero _), List.nodup_nil, SitPart.nil _ _ _, (LMapO.made O).below ((Below.refl _ _).alloc (Nat.le_refl _) _), Nat.le_refl _⟩)
  have HA := hidM A0
  have HZO := hidM hzO
  have d4 := (A0.below bV).1 4 _ rfl
  have hmm := @run_makeMap Tryz.prog
  clear hzO
  go_enter Tryz.func93, Tryz.ntmps93
  go_upto_region 1 with fail
  rw [← hO]
  clear hO
  go_upto_region 2 with fail
  rw [← hV]
  clear hV c0 c1 c2 c3 A0 hmm
  go_wp2_with fail
  go_loopw [22] (fun i wr => ∃ (k : Nat) (ra : Option Addr) (rc : Nat) (ps : List Nat) (cs : List SiV), k ≤ si.length ∧ i = .int .i64 k ∧ Hid (QSt wr O.heap.size (O.heap.size + 1) d sp nw sq (.slice ra k rc) ps cs (si.take k) O.heap.size 0 []) ∧ Below O.heap.size O wr) (fun i _ => si.length - (intOf i).toNat)
  case atStart => exact ⟨0, none, 0, [], [], Nat.zero_le _, rfl, HQ0, bV⟩
  case round =>
    clear HQ0 d4 bV
    obtain ⟨k, ra, rc, ps, cs, hk, rfl, HQ, hbr⟩ := hrel
    have zO : w.heap.size + 1 ≤ O.heap.size := Nat.le_of_eq HZO.out.symm
    have zr := hbr.size
    have hbel : Below w.heap.size w wr := hbO.trans (hbr.mono (by omega))
    by_cases hlt : k < si.length
    · have hki : (k : Int) < si.length := by omega
      rcases HS.out.cases with ⟨h0, _⟩ | ⟨_, g, off, cap, hpe, hg, hc⟩
      · rw [h0] at hlt; exact absurd hlt (Nat.not_lt_zero _)
      · injection hpe with i1 i2 i3
        subst i1
        clear i2 i3
        obtain ⟨c0, c1, x, c2, c3⟩ := (hc k hlt).below hbel hg
        have hxl := HF.out k hlt
        obtain ⟨xa, xc, hxe⟩ := c3.slice
        have htl : ps.length = k := by have := HQ.out.len; rw [List.length_take] at this; omega
        have HTK : Hid (si.take (k + 1) = si.take k ++ [si.getD k sitv0]) := hidM (takeD_snoc sitv0 si hlt)
        have HCW := hidM c3
        have HTL := hidM htl
        clear hc c3 htl
        generalize si.getD k sitv0 = xs at *
        obtain ⟨xn, xr, xw⟩ := xs
        dsimp only at c0 c1 hxe HCW hxl
        subst hxe
        obtain ⟨E, hE⟩ : ∃ E, E = wr.heap.size := ⟨_, rfl⟩
        obtain ⟨V, hV⟩ : ∃ V, V = wr.alloc (.cells #[.string xn, .int .i64 xr, .slice xa xw.length xc] 43) := ⟨_, rfl⟩
        have BV : Below wr.heap.size wr V := by rw [hV]; exact (Below.refl _ _).alloc (Nat.le_refl _) _
        have AV : BAt V E [.string xn, .int .i64 xr, .slice xa xw.length xc] := by rw [hV, hE]; exact BAt.new wr #[.string xn, .int .i64 xr, .slice xa xw.length xc] _
        have QV : BAt V (O.heap.size + 1) [.int .i64 d, .int .i64 sp, .int .i64 nw, .int .i64 sq, .slice ra k rc, .map (some O.heap.size)] := (HQ.out.obj.below BV).bat
        have CQ : Hid (∀ W, Below wr.heap.size wr W → Calls Tryz.prog 135 #[.slice xa xw.length xc] W fun e w' => ∃ ao cap, e = .returned (.slice ao xw.length cap) ∧ w'.ownsRow W.heap.size 83 3 (.slice ao xw.length cap) xw.length (wtcells xw) ∧ Below W.heap.size W w') := fun W hW => implCloneW xw _ W (by omega) (HCW.out.below hW)
        have hqlt : O.heap.size + 1 < wr.heap.size := HQ.out.obj.lt
        clear HCW
        go_upto_region 5 with fail
        rw [← hV, ← hE]
        clear hV c0 c1 c2
        have hEl : Hid (E = wr.heap.size) := hE
        have hB0 : Below wr.heap.size wr V.drew := BV.drew
        clear hE
        refine wp_region_held_drew (S := fun W => BAt W E [.string xn, .int .i64 xr, .slice xa xw.length xc]) (by kernel_rfl) AV (fun h0 => ?_)
        refine wpAnyH_take (i := 0) (v := ?_) rfl (by kernel_rfl) (by kernel_rfl) (by kernel_rfl) (fun _ _ _ h => h) (Or.inl ⟨by rfl, fun W hW => ?_⟩) h0 ?_
        rotate_left
        · skip
          clear hW
          go_simp
          try with_reducible rfl
        simp only [Act.put, List.getElem_toArray, List.getElem_cons_zero, List.getElem_cons_succ, List.setIfInBounds_toArray, List.set_cons_zero, List.set_cons_succ]
        refine wpAnyH_take (i := 1) (v := ?_) rfl (by kernel_rfl) (by kernel_rfl) (by kernel_rfl) (fun _ _ _ h => h) (Or.inl ⟨by rfl, fun W hW => ?_⟩) h0 ?_
        rotate_left
        · skip
          clear hW
          go_simp
          try with_reducible rfl
        simp only [Act.put, List.getElem_toArray, List.getElem_cons_zero, List.getElem_cons_succ, List.setIfInBounds_toArray, List.set_cons_zero, List.set_cons_succ]
        refine wpAnyH_take (i := 2) (v := ?_) rfl (by kernel_rfl) (by kernel_rfl) (by kernel_rfl) (fun _ _ _ h => h) (Or.inl ⟨by rfl, fun W hW => ?_⟩) h0 ?_
        rotate_left
        · skip
          clear hW
          go_simp
          try with_reducible rfl
        simp only [Act.put, List.getElem_toArray, List.getElem_cons_zero, List.getElem_cons_succ, List.setIfInBounds_toArray, List.set_cons_zero, List.set_cons_succ]
        refine wpAnyH_take (i := 3) (v := ?_) rfl (by kernel_rfl) (by kernel_rfl) (by kernel_rfl) (fun _ _ _ h => h) (Or.inl ⟨by rfl, fun W hW => ?_⟩) h0 ?_
        rotate_left
        · skip
          clear hW
          go_simp
          try with_reducible rfl
        simp only [Act.put, List.getElem_toArray, List.getElem_cons_zero, List.getElem_cons_succ, List.setIfInBounds_toArray, List.set_cons_zero, List.set_cons_succ]
        refine wpAnyH_take (i := 5) (v := ?_) rfl (by kernel_rfl) (by kernel_rfl) (by kernel_rfl) (fun _ _ _ h => h) (Or.inl ⟨by rfl, fun W hW => ?_⟩) h0 ?_
        rotate_left
        · have q0 := hW.1 0 _ rfl
          clear hW
          go_simp
          try with_reducible rfl
        simp only [Act.put, List.getElem_toArray, List.getElem_cons_zero, List.getElem_cons_succ, List.setIfInBounds_toArray, List.set_cons_zero, List.set_cons_succ]
        refine wpAnyH_take (i := 6) (v := ?_) rfl (by kernel_rfl) (by kernel_rfl) (by kernel_rfl) (fun _ _ _ h => h) (Or.inl ⟨by rfl, fun W hW => ?_⟩) h0 ?_
        rotate_left
        · have q0 := hW.1 0 _ rfl
          clear hW
          go_simp
          try with_reducible rfl
        simp only [Act.put, List.getElem_toArray, List.getElem_cons_zero, List.getElem_cons_succ, List.setIfInBounds_toArray, List.set_cons_zero, List.set_cons_succ]
        refine wpAnyH_take (i := 7) (v := ?_) rfl (by kernel_rfl) (by kernel_rfl) (by kernel_rfl) (fun _ _ _ h => h) (Or.inl ⟨by rfl, fun W hW => ?_⟩) h0 ?_
        rotate_left
        · have q0 := hW.1 1 _ rfl
          clear hW
          go_simp
          try with_reducible rfl
        simp only [Act.put, List.getElem_toArray, List.getElem_cons_zero, List.getElem_cons_succ, List.setIfInBounds_toArray, List.set_cons_zero, List.set_cons_succ]
        refine wpAnyH_take (i := 8) (v := ?_) rfl (by kernel_rfl) (by kernel_rfl) (by kernel_rfl) (fun _ _ _ h => h) (Or.inl ⟨by rfl, fun W hW => ?_⟩) h0 ?_
        rotate_left
        · have q0 := hW.1 1 _ rfl
          clear hW
          go_simp
          try with_reducible rfl
        simp only [Act.put, List.getElem_toArray, List.getElem_cons_zero, List.getElem_cons_succ, List.setIfInBounds_toArray, List.set_cons_zero, List.set_cons_succ]
        refine wpAnyH_take (i := 9) (v := ?_) rfl (by kernel_rfl) (by kernel_rfl) (by kernel_rfl) (fun _ _ _ h => h) (Or.inl ⟨by rfl, fun W hW => ?_⟩) h0 ?_
        rotate_left
        · have q0 := hW.1 2 _ rfl
          clear hW
          go_simp
          try with_reducible rfl
        simp only [Act.put, List.getElem_toArray, List.getElem_cons_zero, List.getElem_cons_succ, List.setIfInBounds_toArray, List.set_cons_zero, List.set_cons_succ]
        refine wpAnyH_take (i := 10) (v := ?_) rfl (by kernel_rfl) (by kernel_rfl) (by kernel_rfl) (fun _ _ _ h => h) (Or.inl ⟨by rfl, fun W hW => ?_⟩) h0 ?_
        rotate_left
        · have q0 := hW.1 2 _ rfl
          clear hW
          go_simp
          try with_reducible rfl
        simp only [Act.put, List.getElem_toArray, List.getElem_cons_zero, List.getElem_cons_succ, List.setIfInBounds_toArray, List.set_cons_zero, List.set_cons_succ]
        refine wpAnyH_ready (rs := [4, 11]) (by kernel_rfl) (by simp) (AllReadyH.cons rfl (fun K hK => ?_) (AllReadyH.cons rfl (fun K hK => ?_) AllReadyH.nil))
        · have e4 := QV.1 4 _ rfl
          go_simp
          refine hK.out _ _ h0 (fun hl => ?_)
          clear hK K e4 hl
          refine wpAnyH_ready (rs := [11]) (by kernel_rfl) (by simp) (AllReadyH.cons rfl (fun K hK => ?_) AllReadyH.nil)
          go_simp
          go_wp2_with (go_at_call 135; refine (CQ.out _ hB0).mono ?_; rintro e w1 ⟨va, vc, rfl, o1, b1⟩)
          have s1 : BAt w1 E [.string xn, .int .i64 xr, .slice xa xw.length xc] := AV.below (W := V.drew) b1
          have q1s : BAt w1 (O.heap.size + 1) [.int .i64 d, .int .i64 sp, .int .i64 nw, .int .i64 sq, .slice ra k rc, .map (some O.heap.size)] := QV.below (W := V.drew) b1
          have B1 : Below wr.heap.size wr w1 := hB0.trans (b1.mono hB0.size)
          refine hK.out _ _ s1 (fun h1 => ?_)
          clear hK K b1
          refine wpAnyH_take (i := 12) (v := ?_) rfl (by kernel_rfl) (by kernel_rfl) (by kernel_rfl) (fun _ _ _ h => h) (Or.inl ⟨by rfl, fun W hW => ?_⟩) h1 ?_
          rotate_left
          · skip
            clear hW
            go_simp
            try with_reducible rfl
          simp only [Act.put, List.getElem_toArray, List.getElem_cons_zero, List.getElem_cons_succ, List.setIfInBounds_toArray, List.set_cons_zero, List.set_cons_succ]
          refine wpAnyH_ready (rs := [13]) (by kernel_rfl) (by simp) (AllReadyH.cons rfl (fun K hK => ?_) AllReadyH.nil)
          go_simp
          obtain ⟨X, hX⟩ : ∃ X, X = w1.alloc (.cells #[.string xn, .int .i64 xr, .slice va xw.length vc] 43) := ⟨_, rfl⟩
          have oX : OAt X w1.heap.size 43 [.string xn, .int .i64 xr, .slice va xw.length vc] := by rw [hX]; exact OAt.new w1 _ [.string xn, .int .i64 xr, .slice va xw.length vc]
          have bX : Below w1.heap.size w1 X := by rw [hX]; exact (Below.refl _ _).alloc (Nat.le_refl _) _
          rw [← hX]
          have sX : BAt X E [.string xn, .int .i64 xr, .slice xa xw.length xc] := s1.below bX
          have qX : BAt X (O.heap.size + 1) [.int .i64 d, .int .i64 sp, .int .i64 nw, .int .i64 sq, .slice ra k rc, .map (some O.heap.size)] := q1s.below bX
          refine hK.out _ _ sX (fun h2 => ?_)
          clear hK K hX
          refine wpAnyH_ready (rs := [14]) (by kernel_rfl) (by simp) (AllReadyH.cons rfl (fun K hK => ?_) AllReadyH.nil)
          go_simp
          obtain ⟨Y, hY⟩ : ∃ Y, Y = X.alloc (.cells #[.pointer (some ⟨w1.heap.size, 0, none⟩)] 76) := ⟨_, rfl⟩
          have NY := BAt.new X #[.pointer (some ⟨w1.heap.size, 0, none⟩)] 76
          rw [← hY] at NY ⊢
          have bY : Below X.heap.size X Y := by rw [hY]; exact (Below.refl _ _).alloc (Nat.le_refl _) _
          have BX : Below wr.heap.size wr X := B1.trans (bX.mono B1.size)
          have BY : Below wr.heap.size wr Y := BX.trans (bY.mono BX.size)
          have sY : BAt Y E [.string xn, .int .i64 xr, .slice xa xw.length xc] := sX.below bY
          have qY : BAt Y (O.heap.size + 1) [.int .i64 d, .int .i64 sp, .int .i64 nw, .int .i64 sq, .slice ra k rc, .map (some O.heap.size)] := qX.below bY
          have OY : Hid (Y.ownsRow V.heap.size 83 3 (.slice va xw.length vc) xw.length (wtcells xw)) := own_below (own_below o1 bX) bY
          have oY := hidM (oX.below bY)
          have RY : Hid (Y.ownsRow O.heap.size 76 1 (.slice ra k rc) k (ptrs ps)) := hidM (by have := own_below HQ.out.row BY; rwa [HTL.out] at this)
          have hz1w := B1.size
          refine hK.out _ _ sY (fun h3 => ?_)
          clear hK K hY o1 bX bY BX oX
          refine wpAnyH_ready (rs := [15]) (by kernel_rfl) (by simp) (AllReadyH.cons rfl (fun K hK => ?_) AllReadyH.nil)
          rw [if_pos (by rfl)]
          refine wp_append_own _ (.tmp 30) (.tmp 40) 92 rfl O.heap.size 76 ip (.pointer none) 1 8 Tryz.underlying92 hip hp0 hp1 hp2 rfl (by decide) (.slice ra k rc) k (ptrs ps) rfl RY.out ⟨X.heap.size, 0, none⟩ 1 1 [.pointer (some ⟨w1.heap.size, 0, none⟩)] rfl rfl (fun jj u hj => by
            rw [Addr.add_lit, Nat.zero_add]
            exact NY.1 jj u hj) (by intro u hu; simp at hu; subst hu; rfl) (by unfold maxLen; omega) (by omega) (by have := BY.size; omega) ?_
          intro v4 w4 o4 g4 _
          have hrl := fun b hb => RY.out.lt b hb
          have o4q : OAt w4 (O.heap.size + 1) 95 [.int .i64 d, .int .i64 sp, .int .i64 nw, .int .i64 sq, .slice ra k rc, .map (some O.heap.size)] := (HQ.out.obj.below BY).kept g4 fun e => (HQ.out.obj.below BY).no_row t_q_ptr RY.out e.symm
          have s4 : BAt w4 E [.string xn, .int .i64 xr, .slice xa xw.length xc] := sY.same g4.size (g4.block E sY.2.2 fun e => by
            have h1 := (HQ.out.row.lt E e.symm).2
            have := hEl.out
            omega)
          have B4 : Below O.heap.size O w4 := (hbr.trans (BY.mono zr)).grown g4 (by have := BY.size; omega) (fun b hb => (hrl b hb).1)
          refine hK.out _ _ s4 (fun h4 => ?_)
          clear hK K
          refine wpAnyH_take (i := 16) (v := ?_) rfl (by kernel_rfl) (by kernel_rfl) (by kernel_rfl) (fun _ _ _ h => h) (Or.inl ⟨by rfl, fun W hW => ?_⟩) h4 ?_
          rotate_left
          · skip
            clear hW
            go_simp
            try with_reducible rfl
          simp only [Act.put, List.getElem_toArray, List.getElem_cons_zero, List.getElem_cons_succ, List.setIfInBounds_toArray, List.set_cons_zero, List.set_cons_succ]
          refine wpAnyH_take (i := 17) (v := ?_) rfl (by kernel_rfl) (by kernel_rfl) (by kernel_rfl) (fun _ _ _ h => h) (Or.inl ⟨by rfl, fun W hW => ?_⟩) h4 ?_
          rotate_left
          · skip
            clear hW
            go_simp
            try with_reducible rfl
          simp only [Act.put, List.getElem_toArray, List.getElem_cons_zero, List.getElem_cons_succ, List.setIfInBounds_toArray, List.set_cons_zero, List.set_cons_succ]
          obtain ⟨sa, sc, rfl⟩ : ∃ a c, v4 = .slice a (k + 1) c := by
            rcases o4.2 with ⟨h, h2⟩ | ⟨g, cap, cur, h, _⟩
            · exact absurd h2 (by omega)
            · exact ⟨_, _, h⟩
          have HFX : Hid (QSt (w4.setCell ⟨O.heap.size + 1, 4, none⟩ (.slice sa (k + 1) sc)) O.heap.size (O.heap.size + 1) d sp nw sq (.slice sa (k + 1) sc) (ps ++ [w1.heap.size]) (cs ++ [⟨xn, xr, .slice va xw.length vc⟩]) (si.take (k + 1)) O.heap.size 0 []) := hidM (by
            rw [HTK.out]
            exact HQ.out.more BY (c := ⟨xn, xr, .slice va xw.length vc⟩) (x := ⟨xn, xr, xw⟩) hz1w oY.out rfl rfl OY.out BV.size (by rw [HTL.out, ptrs_app]; exact o4) g4 rfl)
          have B5 : Below O.heap.size O (w4.setCell ⟨O.heap.size + 1, 4, none⟩ (.slice sa (k + 1) sc)) := B4.setCell (by show O.heap.size ≤ O.heap.size + 1; omega) _
          refine wpAnyH_ready (rs := [18]) (by kernel_rfl) (by simp) (AllReadyH.cons rfl (fun K hK => ?_) AllReadyH.nil)
          have q0 := o4q.bat.1 4 _ rfl
          have qf := o4q.bat.2.1
          have hEq : E ≠ O.heap.size + 1 := by have := hEl.out; omega
          have s5 : BAt (w4.setCell ⟨O.heap.size + 1, 4, none⟩ (.slice sa (k + 1) sc)) E [.string xn, .int .i64 xr, .slice xa xw.length xc] := s4.other hEq 4 _
          go_simp
          refine hK.out _ _ s5 (fun h5 => ?_)
          clear hK K q0 qf
          refine wpAnyH_done (by kernel_rfl) ?_ _
          clear h5 s5 o4q s4 o4 g4 OY oY RY hrl BY sY qY NY HQ AV QV CQ h4 h3
          go_wp2_with fail
          go_roundw
          case rel => exact ⟨k + 1, sa, sc, _, _, by omega, by go_num, HFX, B5⟩
          case measure => simp [intOf]; omega
        · go_simp
          go_wp2_with (go_at_call 135; refine (CQ.out _ hB0).mono ?_; rintro e w1 ⟨va, vc, rfl, o1, b1⟩)
          have s1 : BAt w1 E [.string xn, .int .i64 xr, .slice xa xw.length xc] := AV.below (W := V.drew) b1
          have q1s : BAt w1 (O.heap.size + 1) [.int .i64 d, .int .i64 sp, .int .i64 nw, .int .i64 sq, .slice ra k rc, .map (some O.heap.size)] := QV.below (W := V.drew) b1
          have B1 : Below wr.heap.size wr w1 := hB0.trans (b1.mono hB0.size)
          refine hK.out _ _ s1 (fun h1 => ?_)
          clear hK K b1
          refine wpAnyH_take (i := 12) (v := ?_) rfl (by kernel_rfl) (by kernel_rfl) (by kernel_rfl) (fun _ _ _ h => h) (Or.inl ⟨by rfl, fun W hW => ?_⟩) h1 ?_
          rotate_left
          · skip
            clear hW
            go_simp
            try with_reducible rfl
          simp only [Act.put, List.getElem_toArray, List.getElem_cons_zero, List.getElem_cons_succ, List.setIfInBounds_toArray, List.set_cons_zero, List.set_cons_succ]
          refine wpAnyH_ready (rs := [4, 13]) (by kernel_rfl) (by simp) (AllReadyH.cons rfl (fun K hK => ?_) (AllReadyH.cons rfl (fun K hK => ?_) AllReadyH.nil))
          · have e4 := q1s.1 4 _ rfl
            go_simp
            refine hK.out _ _ h1 (fun hl => ?_)
            clear hK K e4 hl
            refine wpAnyH_ready (rs := [13]) (by kernel_rfl) (by simp) (AllReadyH.cons rfl (fun K hK => ?_) AllReadyH.nil)
            go_simp
            obtain ⟨X, hX⟩ : ∃ X, X = w1.alloc (.cells #[.string xn, .int .i64 xr, .slice va xw.length vc] 43) := ⟨_, rfl⟩
            have oX : OAt X w1.heap.size 43 [.string xn, .int .i64 xr, .slice va xw.length vc] := by rw [hX]; exact OAt.new w1 _ [.string xn, .int .i64 xr, .slice va xw.length vc]
            have bX : Below w1.heap.size w1 X := by rw [hX]; exact (Below.refl _ _).alloc (Nat.le_refl _) _
            rw [← hX]
            have sX : BAt X E [.string xn, .int .i64 xr, .slice xa xw.length xc] := s1.below bX
            have qX : BAt X (O.heap.size + 1) [.int .i64 d, .int .i64 sp, .int .i64 nw, .int .i64 sq, .slice ra k rc, .map (some O.heap.size)] := q1s.below bX
            refine hK.out _ _ sX (fun h2 => ?_)
            clear hK K hX
            refine wpAnyH_ready (rs := [14]) (by kernel_rfl) (by simp) (AllReadyH.cons rfl (fun K hK => ?_) AllReadyH.nil)
            go_simp
            obtain ⟨Y, hY⟩ : ∃ Y, Y = X.alloc (.cells #[.pointer (some ⟨w1.heap.size, 0, none⟩)] 76) := ⟨_, rfl⟩
            have NY := BAt.new X #[.pointer (some ⟨w1.heap.size, 0, none⟩)] 76
            rw [← hY] at NY ⊢
            have bY : Below X.heap.size X Y := by rw [hY]; exact (Below.refl _ _).alloc (Nat.le_refl _) _
            have BX : Below wr.heap.size wr X := B1.trans (bX.mono B1.size)
            have BY : Below wr.heap.size wr Y := BX.trans (bY.mono BX.size)
            have sY : BAt Y E [.string xn, .int .i64 xr, .slice xa xw.length xc] := sX.below bY
            have qY : BAt Y (O.heap.size + 1) [.int .i64 d, .int .i64 sp, .int .i64 nw, .int .i64 sq, .slice ra k rc, .map (some O.heap.size)] := qX.below bY
            have OY : Hid (Y.ownsRow V.heap.size 83 3 (.slice va xw.length vc) xw.length (wtcells xw)) := own_below (own_below o1 bX) bY
            have oY := hidM (oX.below bY)
            have RY : Hid (Y.ownsRow O.heap.size 76 1 (.slice ra k rc) k (ptrs ps)) := hidM (by have := own_below HQ.out.row BY; rwa [HTL.out] at this)
            have hz1w := B1.size
            refine hK.out _ _ sY (fun h3 => ?_)
            clear hK K hY o1 bX bY BX oX
            refine wpAnyH_ready (rs := [15]) (by kernel_rfl) (by simp) (AllReadyH.cons rfl (fun K hK => ?_) AllReadyH.nil)
            rw [if_pos (by rfl)]
            refine wp_append_own _ (.tmp 30) (.tmp 40) 92 rfl O.heap.size 76 ip (.pointer none) 1 8 Tryz.underlying92 hip hp0 hp1 hp2 rfl (by decide) (.slice ra k rc) k (ptrs ps) rfl RY.out ⟨X.heap.size, 0, none⟩ 1 1 [.pointer (some ⟨w1.heap.size, 0, none⟩)] rfl rfl (fun jj u hj => by
              rw [Addr.add_lit, Nat.zero_add]
              exact NY.1 jj u hj) (by intro u hu; simp at hu; subst hu; rfl) (by unfold maxLen; omega) (by omega) (by have := BY.size; omega) ?_
            intro v4 w4 o4 g4 _
            have hrl := fun b hb => RY.out.lt b hb
            have o4q : OAt w4 (O.heap.size + 1) 95 [.int .i64 d, .int .i64 sp, .int .i64 nw, .int .i64 sq, .slice ra k rc, .map (some O.heap.size)] := (HQ.out.obj.below BY).kept g4 fun e => (HQ.out.obj.below BY).no_row t_q_ptr RY.out e.symm
            have s4 : BAt w4 E [.string xn, .int .i64 xr, .slice xa xw.length xc] := sY.same g4.size (g4.block E sY.2.2 fun e => by
              have h1 := (HQ.out.row.lt E e.symm).2
              have := hEl.out
              omega)
            have B4 : Below O.heap.size O w4 := (hbr.trans (BY.mono zr)).grown g4 (by have := BY.size; omega) (fun b hb => (hrl b hb).1)
            refine hK.out _ _ s4 (fun h4 => ?_)
            clear hK K
            refine wpAnyH_take (i := 16) (v := ?_) rfl (by kernel_rfl) (by kernel_rfl) (by kernel_rfl) (fun _ _ _ h => h) (Or.inl ⟨by rfl, fun W hW => ?_⟩) h4 ?_
            rotate_left
            · skip
              clear hW
              go_simp
              try with_reducible rfl
            simp only [Act.put, List.getElem_toArray, List.getElem_cons_zero, List.getElem_cons_succ, List.setIfInBounds_toArray, List.set_cons_zero, List.set_cons_succ]
            refine wpAnyH_take (i := 17) (v := ?_) rfl (by kernel_rfl) (by kernel_rfl) (by kernel_rfl) (fun _ _ _ h => h) (Or.inl ⟨by rfl, fun W hW => ?_⟩) h4 ?_
            rotate_left
            · skip
              clear hW
              go_simp
              try with_reducible rfl
            simp only [Act.put, List.getElem_toArray, List.getElem_cons_zero, List.getElem_cons_succ, List.setIfInBounds_toArray, List.set_cons_zero, List.set_cons_succ]
            obtain ⟨sa, sc, rfl⟩ : ∃ a c, v4 = .slice a (k + 1) c := by
              rcases o4.2 with ⟨h, h2⟩ | ⟨g, cap, cur, h, _⟩
              · exact absurd h2 (by omega)
              · exact ⟨_, _, h⟩
            have HFX : Hid (QSt (w4.setCell ⟨O.heap.size + 1, 4, none⟩ (.slice sa (k + 1) sc)) O.heap.size (O.heap.size + 1) d sp nw sq (.slice sa (k + 1) sc) (ps ++ [w1.heap.size]) (cs ++ [⟨xn, xr, .slice va xw.length vc⟩]) (si.take (k + 1)) O.heap.size 0 []) := hidM (by
              rw [HTK.out]
              exact HQ.out.more BY (c := ⟨xn, xr, .slice va xw.length vc⟩) (x := ⟨xn, xr, xw⟩) hz1w oY.out rfl rfl OY.out BV.size (by rw [HTL.out, ptrs_app]; exact o4) g4 rfl)
            have B5 : Below O.heap.size O (w4.setCell ⟨O.heap.size + 1, 4, none⟩ (.slice sa (k + 1) sc)) := B4.setCell (by show O.heap.size ≤ O.heap.size + 1; omega) _
            refine wpAnyH_ready (rs := [18]) (by kernel_rfl) (by simp) (AllReadyH.cons rfl (fun K hK => ?_) AllReadyH.nil)
            have q0 := o4q.bat.1 4 _ rfl
            have qf := o4q.bat.2.1
            have hEq : E ≠ O.heap.size + 1 := by have := hEl.out; omega
            have s5 : BAt (w4.setCell ⟨O.heap.size + 1, 4, none⟩ (.slice sa (k + 1) sc)) E [.string xn, .int .i64 xr, .slice xa xw.length xc] := s4.other hEq 4 _
            go_simp
            refine hK.out _ _ s5 (fun h5 => ?_)
            clear hK K q0 qf
            refine wpAnyH_done (by kernel_rfl) ?_ _
            clear h5 s5 o4q s4 o4 g4 OY oY RY hrl BY sY qY NY HQ AV QV CQ h4 h3
            go_wp2_with fail
            go_roundw
            case rel => exact ⟨k + 1, sa, sc, _, _, by omega, by go_num, HFX, B5⟩
            case measure => simp [intOf]; omega
          · go_simp
            obtain ⟨X, hX⟩ : ∃ X, X = w1.alloc (.cells #[.string xn, .int .i64 xr, .slice va xw.length vc] 43) := ⟨_, rfl⟩
            have oX : OAt X w1.heap.size 43 [.string xn, .int .i64 xr, .slice va xw.length vc] := by rw [hX]; exact OAt.new w1 _ [.string xn, .int .i64 xr, .slice va xw.length vc]
            have bX : Below w1.heap.size w1 X := by rw [hX]; exact (Below.refl _ _).alloc (Nat.le_refl _) _
            rw [← hX]
            have sX : BAt X E [.string xn, .int .i64 xr, .slice xa xw.length xc] := s1.below bX
            have qX : BAt X (O.heap.size + 1) [.int .i64 d, .int .i64 sp, .int .i64 nw, .int .i64 sq, .slice ra k rc, .map (some O.heap.size)] := q1s.below bX
            refine hK.out _ _ sX (fun h2 => ?_)
            clear hK K hX
            refine wpAnyH_ready (rs := [4, 14]) (by kernel_rfl) (by simp) (AllReadyH.cons rfl (fun K hK => ?_) (AllReadyH.cons rfl (fun K hK => ?_) AllReadyH.nil))
            · have e4 := qX.1 4 _ rfl
              go_simp
              refine hK.out _ _ h2 (fun hl => ?_)
              clear hK K e4 hl
              refine wpAnyH_ready (rs := [14]) (by kernel_rfl) (by simp) (AllReadyH.cons rfl (fun K hK => ?_) AllReadyH.nil)
              go_simp
              obtain ⟨Y, hY⟩ : ∃ Y, Y = X.alloc (.cells #[.pointer (some ⟨w1.heap.size, 0, none⟩)] 76) := ⟨_, rfl⟩
              have NY := BAt.new X #[.pointer (some ⟨w1.heap.size, 0, none⟩)] 76
              rw [← hY] at NY ⊢
              have bY : Below X.heap.size X Y := by rw [hY]; exact (Below.refl _ _).alloc (Nat.le_refl _) _
              have BX : Below wr.heap.size wr X := B1.trans (bX.mono B1.size)
              have BY : Below wr.heap.size wr Y := BX.trans (bY.mono BX.size)
              have sY : BAt Y E [.string xn, .int .i64 xr, .slice xa xw.length xc] := sX.below bY
              have qY : BAt Y (O.heap.size + 1) [.int .i64 d, .int .i64 sp, .int .i64 nw, .int .i64 sq, .slice ra k rc, .map (some O.heap.size)] := qX.below bY
              have OY : Hid (Y.ownsRow V.heap.size 83 3 (.slice va xw.length vc) xw.length (wtcells xw)) := own_below (own_below o1 bX) bY
              have oY := hidM (oX.below bY)
              have RY : Hid (Y.ownsRow O.heap.size 76 1 (.slice ra k rc) k (ptrs ps)) := hidM (by have := own_below HQ.out.row BY; rwa [HTL.out] at this)
              have hz1w := B1.size
              refine hK.out _ _ sY (fun h3 => ?_)
              clear hK K hY o1 bX bY BX oX
              refine wpAnyH_ready (rs := [15]) (by kernel_rfl) (by simp) (AllReadyH.cons rfl (fun K hK => ?_) AllReadyH.nil)
              rw [if_pos (by rfl)]
              refine wp_append_own _ (.tmp 30) (.tmp 40) 92 rfl O.heap.size 76 ip (.pointer none) 1 8 Tryz.underlying92 hip hp0 hp1 hp2 rfl (by decide) (.slice ra k rc) k (ptrs ps) rfl RY.out ⟨X.heap.size, 0, none⟩ 1 1 [.pointer (some ⟨w1.heap.size, 0, none⟩)] rfl rfl (fun jj u hj => by
                rw [Addr.add_lit, Nat.zero_add]
                exact NY.1 jj u hj) (by intro u hu; simp at hu; subst hu; rfl) (by unfold maxLen; omega) (by omega) (by have := BY.size; omega) ?_
              intro v4 w4 o4 g4 _
              have hrl := fun b hb => RY.out.lt b hb
              have o4q : OAt w4 (O.heap.size + 1) 95 [.int .i64 d, .int .i64 sp, .int .i64 nw, .int .i64 sq, .slice ra k rc, .map (some O.heap.size)] := (HQ.out.obj.below BY).kept g4 fun e => (HQ.out.obj.below BY).no_row t_q_ptr RY.out e.symm
              have s4 : BAt w4 E [.string xn, .int .i64 xr, .slice xa xw.length xc] := sY.same g4.size (g4.block E sY.2.2 fun e => by
                have h1 := (HQ.out.row.lt E e.symm).2
                have := hEl.out
                omega)
              have B4 : Below O.heap.size O w4 := (hbr.trans (BY.mono zr)).grown g4 (by have := BY.size; omega) (fun b hb => (hrl b hb).1)
              refine hK.out _ _ s4 (fun h4 => ?_)
              clear hK K
              refine wpAnyH_take (i := 16) (v := ?_) rfl (by kernel_rfl) (by kernel_rfl) (by kernel_rfl) (fun _ _ _ h => h) (Or.inl ⟨by rfl, fun W hW => ?_⟩) h4 ?_
              rotate_left
              · skip
                clear hW
                go_simp
                try with_reducible rfl
              simp only [Act.put, List.getElem_toArray, List.getElem_cons_zero, List.getElem_cons_succ, List.setIfInBounds_toArray, List.set_cons_zero, List.set_cons_succ]
              refine wpAnyH_take (i := 17) (v := ?_) rfl (by kernel_rfl) (by kernel_rfl) (by kernel_rfl) (fun _ _ _ h => h) (Or.inl ⟨by rfl, fun W hW => ?_⟩) h4 ?_
              rotate_left
              · skip
                clear hW
                go_simp
                try with_reducible rfl
              simp only [Act.put, List.getElem_toArray, List.getElem_cons_zero, List.getElem_cons_succ, List.setIfInBounds_toArray, List.set_cons_zero, List.set_cons_succ]
              obtain ⟨sa, sc, rfl⟩ : ∃ a c, v4 = .slice a (k + 1) c := by
                rcases o4.2 with ⟨h, h2⟩ | ⟨g, cap, cur, h, _⟩
                · exact absurd h2 (by omega)
                · exact ⟨_, _, h⟩
              have HFX : Hid (QSt (w4.setCell ⟨O.heap.size + 1, 4, none⟩ (.slice sa (k + 1) sc)) O.heap.size (O.heap.size + 1) d sp nw sq (.slice sa (k + 1) sc) (ps ++ [w1.heap.size]) (cs ++ [⟨xn, xr, .slice va xw.length vc⟩]) (si.take (k + 1)) O.heap.size 0 []) := hidM (by
                rw [HTK.out]
                exact HQ.out.more BY (c := ⟨xn, xr, .slice va xw.length vc⟩) (x := ⟨xn, xr, xw⟩) hz1w oY.out rfl rfl OY.out BV.size (by rw [HTL.out, ptrs_app]; exact o4) g4 rfl)
              have B5 : Below O.heap.size O (w4.setCell ⟨O.heap.size + 1, 4, none⟩ (.slice sa (k + 1) sc)) := B4.setCell (by show O.heap.size ≤ O.heap.size + 1; omega) _
              refine wpAnyH_ready (rs := [18]) (by kernel_rfl) (by simp) (AllReadyH.cons rfl (fun K hK => ?_) AllReadyH.nil)
              have q0 := o4q.bat.1 4 _ rfl
              have qf := o4q.bat.2.1
              have hEq : E ≠ O.heap.size + 1 := by have := hEl.out; omega
              have s5 : BAt (w4.setCell ⟨O.heap.size + 1, 4, none⟩ (.slice sa (k + 1) sc)) E [.string xn, .int .i64 xr, .slice xa xw.length xc] := s4.other hEq 4 _
              go_simp
              refine hK.out _ _ s5 (fun h5 => ?_)
              clear hK K q0 qf
              refine wpAnyH_done (by kernel_rfl) ?_ _
              clear h5 s5 o4q s4 o4 g4 OY oY RY hrl BY sY qY NY HQ AV QV CQ h4 h3
              go_wp2_with fail
              go_roundw
              case rel => exact ⟨k + 1, sa, sc, _, _, by omega, by go_num, HFX, B5⟩
              case measure => simp [intOf]; omega
            · go_simp
              obtain ⟨Y, hY⟩ : ∃ Y, Y = X.alloc (.cells #[.pointer (some ⟨w1.heap.size, 0, none⟩)] 76) := ⟨_, rfl⟩
              have NY := BAt.new X #[.pointer (some ⟨w1.heap.size, 0, none⟩)] 76
              rw [← hY] at NY ⊢
              have bY : Below X.heap.size X Y := by rw [hY]; exact (Below.refl _ _).alloc (Nat.le_refl _) _
              have BX : Below wr.heap.size wr X := B1.trans (bX.mono B1.size)
              have BY : Below wr.heap.size wr Y := BX.trans (bY.mono BX.size)
              have sY : BAt Y E [.string xn, .int .i64 xr, .slice xa xw.length xc] := sX.below bY
              have qY : BAt Y (O.heap.size + 1) [.int .i64 d, .int .i64 sp, .int .i64 nw, .int .i64 sq, .slice ra k rc, .map (some O.heap.size)] := qX.below bY
              have OY : Hid (Y.ownsRow V.heap.size 83 3 (.slice va xw.length vc) xw.length (wtcells xw)) := own_below (own_below o1 bX) bY
              have oY := hidM (oX.below bY)
              have RY : Hid (Y.ownsRow O.heap.size 76 1 (.slice ra k rc) k (ptrs ps)) := hidM (by have := own_below HQ.out.row BY; rwa [HTL.out] at this)
              have hz1w := B1.size
              refine hK.out _ _ sY (fun h3 => ?_)
              clear hK K hY o1 bX bY BX oX
              refine wpAnyH_ready (rs := [4]) (by kernel_rfl) (by simp) (AllReadyH.cons rfl (fun K hK => ?_) AllReadyH.nil)
              have e4 := qY.1 4 _ rfl
              go_simp
              refine hK.out _ _ h3 (fun hl => ?_)
              clear hK K e4 hl
              refine wpAnyH_ready (rs := [15]) (by kernel_rfl) (by simp) (AllReadyH.cons rfl (fun K hK => ?_) AllReadyH.nil)
              rw [if_pos (by rfl)]
              refine wp_append_own _ (.tmp 30) (.tmp 40) 92 rfl O.heap.size 76 ip (.pointer none) 1 8 Tryz.underlying92 hip hp0 hp1 hp2 rfl (by decide) (.slice ra k rc) k (ptrs ps) rfl RY.out ⟨X.heap.size, 0, none⟩ 1 1 [.pointer (some ⟨w1.heap.size, 0, none⟩)] rfl rfl (fun jj u hj => by
                rw [Addr.add_lit, Nat.zero_add]
                exact NY.1 jj u hj) (by intro u hu; simp at hu; subst hu; rfl) (by unfold maxLen; omega) (by omega) (by have := BY.size; omega) ?_
              intro v4 w4 o4 g4 _
              have hrl := fun b hb => RY.out.lt b hb
              have o4q : OAt w4 (O.heap.size + 1) 95 [.int .i64 d, .int .i64 sp, .int .i64 nw, .int .i64 sq, .slice ra k rc, .map (some O.heap.size)] := (HQ.out.obj.below BY).kept g4 fun e => (HQ.out.obj.below BY).no_row t_q_ptr RY.out e.symm
              have s4 : BAt w4 E [.string xn, .int .i64 xr, .slice xa xw.length xc] := sY.same g4.size (g4.block E sY.2.2 fun e => by
                have h1 := (HQ.out.row.lt E e.symm).2
                have := hEl.out
                omega)
              have B4 : Below O.heap.size O w4 := (hbr.trans (BY.mono zr)).grown g4 (by have := BY.size; omega) (fun b hb => (hrl b hb).1)
              refine hK.out _ _ s4 (fun h4 => ?_)
              clear hK K
              refine wpAnyH_take (i := 16) (v := ?_) rfl (by kernel_rfl) (by kernel_rfl) (by kernel_rfl) (fun _ _ _ h => h) (Or.inl ⟨by rfl, fun W hW => ?_⟩) h4 ?_
              rotate_left
              · skip
                clear hW
                go_simp
                try with_reducible rfl
              simp only [Act.put, List.getElem_toArray, List.getElem_cons_zero, List.getElem_cons_succ, List.setIfInBounds_toArray, List.set_cons_zero, List.set_cons_succ]
              refine wpAnyH_take (i := 17) (v := ?_) rfl (by kernel_rfl) (by kernel_rfl) (by kernel_rfl) (fun _ _ _ h => h) (Or.inl ⟨by rfl, fun W hW => ?_⟩) h4 ?_
              rotate_left
              · skip
                clear hW
                go_simp
                try with_reducible rfl
              simp only [Act.put, List.getElem_toArray, List.getElem_cons_zero, List.getElem_cons_succ, List.setIfInBounds_toArray, List.set_cons_zero, List.set_cons_succ]
              obtain ⟨sa, sc, rfl⟩ : ∃ a c, v4 = .slice a (k + 1) c := by
                rcases o4.2 with ⟨h, h2⟩ | ⟨g, cap, cur, h, _⟩
                · exact absurd h2 (by omega)
                · exact ⟨_, _, h⟩
              have HFX : Hid (QSt (w4.setCell ⟨O.heap.size + 1, 4, none⟩ (.slice sa (k + 1) sc)) O.heap.size (O.heap.size + 1) d sp nw sq (.slice sa (k + 1) sc) (ps ++ [w1.heap.size]) (cs ++ [⟨xn, xr, .slice va xw.length vc⟩]) (si.take (k + 1)) O.heap.size 0 []) := hidM (by
                rw [HTK.out]
                exact HQ.out.more BY (c := ⟨xn, xr, .slice va xw.length vc⟩) (x := ⟨xn, xr, xw⟩) hz1w oY.out rfl rfl OY.out BV.size (by rw [HTL.out, ptrs_app]; exact o4) g4 rfl)
              have B5 : Below O.heap.size O (w4.setCell ⟨O.heap.size + 1, 4, none⟩ (.slice sa (k + 1) sc)) := B4.setCell (by show O.heap.size ≤ O.heap.size + 1; omega) _
              refine wpAnyH_ready (rs := [18]) (by kernel_rfl) (by simp) (AllReadyH.cons rfl (fun K hK => ?_) AllReadyH.nil)
              have q0 := o4q.bat.1 4 _ rfl
              have qf := o4q.bat.2.1
              have hEq : E ≠ O.heap.size + 1 := by have := hEl.out; omega
              have s5 : BAt (w4.setCell ⟨O.heap.size + 1, 4, none⟩ (.slice sa (k + 1) sc)) E [.string xn, .int .i64 xr, .slice xa xw.length xc] := s4.other hEq 4 _
              go_simp
              refine hK.out _ _ s5 (fun h5 => ?_)
              clear hK K q0 qf
              refine wpAnyH_done (by kernel_rfl) ?_ _
              clear h5 s5 o4q s4 o4 g4 OY oY RY hrl BY sY qY NY HQ AV QV CQ h4 h3
              go_wp2_with fail
              go_roundw
              case rel => exact ⟨k + 1, sa, sc, _, _, by omega, by go_num, HFX, B5⟩
              case measure => simp [intOf]; omega
    · have hki : ¬ (k : Int) < si.length := by omega
      obtain rfl : k = si.length := by omega
      rw [List.take_length] at HQ
      have d5 := (HA.out.below hbr).1 5 _ rfl
      have HQ1 : Hid (QSt wr O.heap.size (O.heap.size + 1) d sp nw sq (.slice ra si.length rc) ps cs si O.heap.size 0 (le.take 0)) := HQ
      have HQK : Hid (∀ x ∈ le, x.k.size ≤ maxLen) := fun x hx => by have := (HT.out.l x hx).1; unfold maxLen; omega
      clear HQ HF HS HT
      go_wp2_with fail
      go_loopw [48] (fun i wv => ∃ (m : Nat), m ≤ le.length ∧ i = .int .i64 m ∧ Hid (QSt wv O.heap.size (O.heap.size + 1) d sp nw sq (.slice ra si.length rc) ps cs si O.heap.size m (le.take m)) ∧ Below O.heap.size O wv) (fun i _ => le.length - (intOf i).toNat)
      case atStart => exact ⟨0, Nat.zero_le _, rfl, HQ1, hbr⟩
      case round =>
        clear HQ1 d5 hbr hbel zr hki hlt hk
        obtain ⟨m, hm, rfl, HQ, hbr⟩ := hrel
        have zr := hbr.size
        have hbel : Below w.heap.size w wr := hbO.trans (hbr.mono (by omega))
        by_cases hlt : m < le.length
        · have hki : (m : Int) < le.length := by omega
          rcases HL.out with ⟨h0, _⟩ | ⟨_, g, off, cap, hpe, hg, hc⟩
          · rw [h0] at hlt; exact absurd hlt (Nat.not_lt_zero _)
          · injection hpe with i1 i2 i3
            subst i1
            clear i2 i3
            obtain ⟨c0, c1, c2, c3⟩ := (hc m hlt).below hbel hg
            have hkl := HQK.out _ (getD_mem lsv0 hlt)
            have HTK : Hid (le.take (m + 1) = le.take m ++ [le.getD m lsv0]) := hidM (takeD_snoc lsv0 le hlt)
            have HFR : Hid (lRem (le.take m) (le.getD m lsv0).k = le.take m) := hidM (lRem_fresh fun y hy => by
              obtain ⟨i, hi, rfl⟩ := mem_getD lsv0 hy
              rw [List.length_take] at hi
              have e : (le.take m).getD i lsv0 = le.getD i lsv0 := by rw [List.getD_eq_getElem?_getD, List.getD_eq_getElem?_getD, List.getElem?_take, if_pos (by omega)]
              rw [e]
              exact tl_ne (pair_at (R := fun a b => lBef a b = true) lsv0 HSO.out (show i < m by omega) hlt))
            clear hc
            generalize le.getD m lsv0 = x at *
            obtain ⟨E, hE⟩ : ∃ E, E = wr.heap.size := ⟨_, rfl⟩
            obtain ⟨V, hV⟩ : ∃ V, V = wr.alloc (.cells #[.string x.k, .string x.s, .int .i64 x.p, .int .i64 x.u] 51) := ⟨_, rfl⟩
            have BV : Below wr.heap.size wr V := by rw [hV]; exact (Below.refl _ _).alloc (Nat.le_refl _) _
            have AV : BAt V E [.string x.k, .string x.s, .int .i64 x.p, .int .i64 x.u] := by rw [hV, hE]; exact BAt.new wr #[.string x.k, .string x.s, .int .i64 x.p, .int .i64 x.u] _
            have QV := HQ.out.below BV
            have QB : BAt V (O.heap.size + 1) [.int .i64 d, .int .i64 sp, .int .i64 nw, .int .i64 sq, .slice ra si.length rc, .map (some O.heap.size)] := QV.obj.bat
            have HQV := hidM QV
            have BO : Below O.heap.size O V.drew := (hbr.trans (BV.mono zr)).drew
            have hEO : E ≠ O.heap.size := by have := HQ.out.map.lt; omega
            clear QV HQ
            go_upto_region 10 with fail
            rw [← hV, ← hE]
            clear hV c0 c1 c2 c3 hE
            refine wp_region_held_drew (S := fun W => BAt W E [.string x.k, .string x.s, .int .i64 x.p, .int .i64 x.u] ∧ BAt W (O.heap.size + 1) [.int .i64 d, .int .i64 sp, .int .i64 nw, .int .i64 sq, .slice ra si.length rc, .map (some O.heap.size)]) (by kernel_rfl) ⟨AV, QB⟩ (fun h0 => ?_)
            refine wpAnyH_take (i := 0) (v := ?_) rfl (by kernel_rfl) (by kernel_rfl) (by kernel_rfl) (fun _ _ _ h => h) (Or.inl ⟨by rfl, fun W hW => ?_⟩) h0 ?_
            rotate_left
            · have q0 := hW.2.1 5 _ rfl
              clear hW
              go_simp
              try with_reducible rfl
            simp only [Act.put, List.getElem_toArray, List.getElem_cons_zero, List.getElem_cons_succ, List.setIfInBounds_toArray, List.set_cons_zero, List.set_cons_succ]
            refine wpAnyH_take (i := 1) (v := ?_) rfl (by kernel_rfl) (by kernel_rfl) (by kernel_rfl) (fun _ _ _ h => h) (Or.inl ⟨by rfl, fun W hW => ?_⟩) h0 ?_
            rotate_left
            · have q0 := hW.2.1 5 _ rfl
              clear hW
              go_simp
              try with_reducible rfl
            simp only [Act.put, List.getElem_toArray, List.getElem_cons_zero, List.getElem_cons_succ, List.setIfInBounds_toArray, List.set_cons_zero, List.set_cons_succ]
            refine wpAnyH_take (i := 2) (v := ?_) rfl (by kernel_rfl) (by kernel_rfl) (by kernel_rfl) (fun _ _ _ h => h) (Or.inl ⟨by rfl, fun W hW => ?_⟩) h0 ?_
            rotate_left
            · have q0 := hW.2.1 5 _ rfl
              clear hW
              go_simp
              try with_reducible rfl
            simp only [Act.put, List.getElem_toArray, List.getElem_cons_zero, List.getElem_cons_succ, List.setIfInBounds_toArray, List.set_cons_zero, List.set_cons_succ]
            refine wpAnyH_take (i := 3) (v := ?_) rfl (by kernel_rfl) (by kernel_rfl) (by kernel_rfl) (fun _ _ _ h => h) (Or.inl ⟨by rfl, fun W hW => ?_⟩) h0 ?_
            rotate_left
            · have q0 := hW.2.1 5 _ rfl
              clear hW
              go_simp
              try with_reducible rfl
            simp only [Act.put, List.getElem_toArray, List.getElem_cons_zero, List.getElem_cons_succ, List.setIfInBounds_toArray, List.set_cons_zero, List.set_cons_succ]
            refine wpAnyH_take (i := 4) (v := ?_) rfl (by kernel_rfl) (by kernel_rfl) (by kernel_rfl) (fun _ _ _ h => h) (Or.inl ⟨by rfl, fun W hW => ?_⟩) h0 ?_
            rotate_left
            · have q0 := hW.1.1 0 _ rfl
              clear hW
              go_simp
              try with_reducible rfl
            simp only [Act.put, List.getElem_toArray, List.getElem_cons_zero, List.getElem_cons_succ, List.setIfInBounds_toArray, List.set_cons_zero, List.set_cons_succ]
            refine wpAnyH_take (i := 5) (v := ?_) rfl (by kernel_rfl) (by kernel_rfl) (by kernel_rfl) (fun _ _ _ h => h) (Or.inl ⟨by rfl, fun W hW => ?_⟩) h0 ?_
            rotate_left
            · have q0 := hW.1.1 0 _ rfl
              clear hW
              go_simp
              try with_reducible rfl
            simp only [Act.put, List.getElem_toArray, List.getElem_cons_zero, List.getElem_cons_succ, List.setIfInBounds_toArray, List.set_cons_zero, List.set_cons_succ]
            refine wpAnyH_take (i := 6) (v := ?_) rfl (by kernel_rfl) (by kernel_rfl) (by kernel_rfl) (fun _ _ _ h => h) (Or.inl ⟨by rfl, fun W hW => ?_⟩) h0 ?_
            rotate_left
            · have q0 := hW.1.1 0 _ rfl; have q1 := hW.1.1 1 _ rfl; have q2 := hW.1.1 2 _ rfl; have q3 := hW.1.1 3 _ rfl
              clear hW
              go_simp
              try with_reducible rfl
            simp only [Act.put, List.getElem_toArray, List.getElem_cons_zero, List.getElem_cons_succ, List.setIfInBounds_toArray, List.set_cons_zero, List.set_cons_succ]
            refine wpAnyH_ready (rs := [7]) (by kernel_rfl) (by simp) (AllReadyH.cons rfl (fun K hK => ?_) AllReadyH.nil)
            rw [if_pos (by rfl)]
            have QD : QSt V.drew O.heap.size (O.heap.size + 1) d sp nw sq (.slice ra si.length rc) ps cs si O.heap.size m (le.take m) := HQV.out.below (Below.refl _ V).drew
            obtain ⟨D, hD⟩ := QD.map
            obtain ⟨w5, hrun, h5, g5⟩ := hD.own.update (Maps.string_keyed Tryz.underlying9) Tryz.underlying93 (by unfold maxLen; omega) (string_lit hkl) (leaseD_mk x)
            have HM5 := hD.put (x := x) h5
            rw [HFR.out, ← HTK.out] at HM5
            have Q5 := QD.turn g5 HM5
            have E5 : BAt w5 E [.string x.k, .string x.s, .int .i64 x.p, .int .i64 x.u] := AV.same g5.size (g5.block E AV.2.2 (fun e => hEO (by injection e)))
            have B5 : Below O.heap.size O w5 := BO.grown g5 BO.size (fun b e => by injection e with e; omega)
            refine wp_mapUpdate (.tmp 55) (.tmp 57) (.tmp 58) 93 rfl rfl rfl rfl hrun ?_
            refine hK.out _ _ ⟨E5, Q5.obj.bat⟩ (fun h7 => ?_)
            have HQ5 := hidM Q5
            clear hK K Q5 E5 h7 HM5 h5 g5 hrun hD QD HQV AV QB BO h0
            refine wpAnyH_done (by kernel_rfl) ?_ _
            simp only [Act.put, List.getElem_toArray, List.getElem_cons_zero, List.getElem_cons_succ, List.setIfInBounds_toArray, List.set_cons_zero, List.set_cons_succ]
            go_wp2_with fail
            go_roundw
            case rel => exact ⟨m + 1, by omega, by go_num, HQ5, B5⟩
            case measure => simp [intOf]; omega
        · have hki : ¬ (m : Int) < le.length := by omega
          obtain rfl : m = le.length := by omega
          rw [List.take_length] at HQ
          have HR : Hid (QStO wr w.heap.size (O.heap.size + 1) d sp nw sq si le.length le) := hidM ⟨_, _, _, _, HQ.out.wide (by omega)⟩
          clear HQ
          go_wp2_with fail
          go_ret
          exact ⟨_, rfl, HR.out, hbel⟩
end Go.Proofs.YtcjblhiihgdljaaGreat
