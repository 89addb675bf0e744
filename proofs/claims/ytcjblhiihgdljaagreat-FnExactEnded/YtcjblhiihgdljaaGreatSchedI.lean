/- The contract of the code's sched. -/
import Derived.Test.YtcjblhiihgdljaaGreatRows
import Derived.Test.YtcjblhiihgdljaaGreatQOfI
import Derived.Test.YtcjblhiihgdljaaGreatSortLs
namespace Go.Proofs.YtcjblhiihgdljaaGreat
open Go.RowKit
set_option linter.unusedVariables false
set_option linter.unusedSimpArgs false

/-- Queues whose rows lie from a base on. -/
def SchB (w : World) (base : Nat) (d sp nw sq : Int) (si : List SiteV) (le : List LsV) (e : Ending) (w' : World) : Prop := ∃ ao ac bo bc, e = .returned (.agg #[.int .i64 d, .int .i64 sp, .int .i64 nw, .int .i64 sq, .slice ao si.length ac, .slice bo le.length bc]) ∧ SchOwn w' base w'.heap.size (.slice ao si.length ac) (.slice bo le.length bc) si le ∧ Below w.heap.size w w'
set_option maxRecDepth 100000 in
set_option maxHeartbeats 16000000 in
theorem implSched (base Q : Nat) (d sp nw sq : Int) (si : List SiteV) (N : Nat) (le : List LsV) (w : World) (hN : N ≤ 1048576) (hn : si.length ≤ 1073741824) (hl : le.length ≤ 1048576) (hs : le.Pairwise fun a b => lBef a b = true) (h : QStO w base Q d sp nw sq si N le) :
    Calls Tryz.prog 94 #[.pointer (some ⟨Q, 0, none⟩)] w fun e w' => SchB w base d sp nw sq si le e w' := by
  obtain ⟨i0, hi, hz0, hz1, hz2⟩ := info_parts Tryz.infoSi
  obtain ⟨sv, ps, cs, mb, hq⟩ := h
  have HQ := hidM hq
  have HSO := hidM hs
  have hQl := hq.obj.lt
  have hbw : base ≤ w.heap.size := by have := hq.qb; omega
  have hpl : ps.length = si.length := hq.len
  have hcl : cs.length = si.length := hq.part.1
  have hQB := hq.obj.bat
  obtain ⟨pa, pc, hsv⟩ : ∃ pa pc, sv = .slice pa ps.length pc := by
    rcases hq.row.2 with ⟨e, h0⟩ | ⟨g, cap, cur, e, _⟩
    · exact ⟨none, 0, by rw [e, h0]⟩
    · exact ⟨_, _, e⟩
  have HRW := hidM hq.row
  have HSI := hidM hq.site
  have HSQ : Hid (∀ i, i < cs.length → ∃ ao n c, (cs.getD i siv0).q = .slice ao n c) := fun i hi => by
    rcases (hq.part.2.1 i (by omega)).2.2.1.2 with ⟨e, _⟩ | ⟨g, cap, cur, e, _⟩
    · exact ⟨_, _, _, e⟩
    · exact ⟨_, _, _, e⟩
  have HPT := hidM hq.part
  have HMP := hidM hq.map
  have hQn : Q < w.heap.size := hQl
  clear hq hs
  obtain ⟨O, hO⟩ : ∃ O, O = w.alloc (.cells #[.int .i64 0, .int .i64 0, .int .i64 0, .int .i64 0, .slice none 0 0, .slice none 0 0] 27) := ⟨_, rfl⟩
  have hbO : Below w.heap.size w O := by rw [hO]; exact (Below.refl _ _).alloc (Nat.le_refl _) _
  have hzO : O.heap.size = w.heap.size + 1 := by rw [hO]; simp
  have A0 : BAt O w.heap.size [.int .i64 0, .int .i64 0, .int .i64 0, .int .i64 0, .slice none 0 0, .slice none 0 0] := by rw [hO]; exact BAt.new w #[.int .i64 0, .int .i64 0, .int .i64 0, .int .i64 0, .slice none 0 0, .slice none 0 0] _
  obtain ⟨X, hX⟩ : ∃ X, X = (O.alloc (.cells #[.int .i64 0, .int .i64 0, .int .i64 0, .int .i64 0, .slice none 0 0, .slice none 0 0] 27)).drew := ⟨_, rfl⟩
  have AX : BAt X O.heap.size [.int .i64 0, .int .i64 0, .int .i64 0, .int .i64 0, .slice none 0 0, .slice none 0 0] := by
    rw [hX]
    exact BAt.new O #[.int .i64 0, .int .i64 0, .int .i64 0, .int .i64 0, .slice none 0 0, .slice none 0 0] _
  have hzX : X.heap.size = O.heap.size + 1 := by rw [hX]; show (O.alloc _).heap.size = _; rw [World.size_alloc]
  have bX : Below w.heap.size w X := by rw [hX]; exact (hbO.alloc hbO.size _).drew
  obtain ⟨V, hV⟩ : ∃ V, V = six X O.heap.size (.int .i64 d) (.int .i64 sp) (.int .i64 nw) (.int .i64 sq) (.slice none 0 0) (.slice none 0 0) := ⟨_, rfl⟩
  have bV : Below w.heap.size w V := by rw [hV]; exact six_below bX (by omega) _ _ _ _ _ _
  have hzV : V.heap.size = O.heap.size + 1 := by rw [hV, six_size, hzX]
  have AV : BAt V O.heap.size [.int .i64 d, .int .i64 sp, .int .i64 nw, .int .i64 sq, .slice none 0 0, .slice none 0 0] := by rw [hV]; exact six_at AX _ _ _ _ _ _
  have A0V : BAt V w.heap.size [.int .i64 0, .int .i64 0, .int .i64 0, .int .i64 0, .slice none 0 0, .slice none 0 0] := by
    have h1 : BAt X w.heap.size [.int .i64 0, .int .i64 0, .int .i64 0, .int .i64 0, .slice none 0 0, .slice none 0 0] := by rw [hX]; exact A0.alloc (.cells #[.int .i64 0, .int .i64 0, .int .i64 0, .int .i64 0, .slice none 0 0, .slice none 0 0] 27)
    rw [hV]
    exact h1.same (by rw [six_size]; exact Nat.le_refl _) (six_block _ _ _ _ _ _ _ _ (by omega))
  have HAV := hidM AV
  have HA0 := hidM A0V
  have HZV := hidM hzV
  have HZO := hidM hzO
  have QO := hQB.below hbO
  have a0 := AX.1 0 _ rfl
  have a1 := AX.1 1 _ rfl
  have a2 := AX.1 2 _ rfl
  have a3 := AX.1 3 _ rfl
  have a4 := AX.1 4 _ rfl
  have a5 := AX.1 5 _ rfl
  have af := AX.2.1
  have v4 := (hQB.below bV).1 4 _ rfl
  clear hzO hzX hzV
  go_enter Tryz.func94, Tryz.ntmps94
  go_upto_region 1 with fail
  rw [← hO]
  clear hO
  refine wp_region_held_drew (S := fun W => BAt W Q [.int .i64 d, .int .i64 sp, .int .i64 nw, .int .i64 sq, sv, .map (some mb)]) (by kernel_rfl) QO (fun h0 => ?_)
  refine wpAnyH_take (i := 0) (v := ?_) rfl (by kernel_rfl) (by kernel_rfl) (by kernel_rfl) (fun _ _ _ h => h) (Or.inl ⟨by rfl, fun W hW => ?_⟩) h0 ?_
  rotate_left
  · have q0 := hW.1 0 _ rfl
    clear hW
    go_simp
    try with_reducible rfl
  simp only [Act.put, List.getElem_toArray, List.getElem_cons_zero, List.getElem_cons_succ, List.setIfInBounds_toArray, List.set_cons_zero, List.set_cons_succ]
  refine wpAnyH_take (i := 1) (v := ?_) rfl (by kernel_rfl) (by kernel_rfl) (by kernel_rfl) (fun _ _ _ h => h) (Or.inl ⟨by rfl, fun W hW => ?_⟩) h0 ?_
  rotate_left
  · have q0 := hW.1 0 _ rfl
    clear hW
    go_simp
    try with_reducible rfl
  simp only [Act.put, List.getElem_toArray, List.getElem_cons_zero, List.getElem_cons_succ, List.setIfInBounds_toArray, List.set_cons_zero, List.set_cons_succ]
  refine wpAnyH_take (i := 2) (v := ?_) rfl (by kernel_rfl) (by kernel_rfl) (by kernel_rfl) (fun _ _ _ h => h) (Or.inl ⟨by rfl, fun W hW => ?_⟩) h0 ?_
  rotate_left
  · have q0 := hW.1 0 _ rfl
    clear hW
    go_simp
    try with_reducible rfl
  simp only [Act.put, List.getElem_toArray, List.getElem_cons_zero, List.getElem_cons_succ, List.setIfInBounds_toArray, List.set_cons_zero, List.set_cons_succ]
  refine wpAnyH_take (i := 3) (v := ?_) rfl (by kernel_rfl) (by kernel_rfl) (by kernel_rfl) (fun _ _ _ h => h) (Or.inl ⟨by rfl, fun W hW => ?_⟩) h0 ?_
  rotate_left
  · have q0 := hW.1 0 _ rfl
    clear hW
    go_simp
    try with_reducible rfl
  simp only [Act.put, List.getElem_toArray, List.getElem_cons_zero, List.getElem_cons_succ, List.setIfInBounds_toArray, List.set_cons_zero, List.set_cons_succ]
  refine wpAnyH_take (i := 4) (v := ?_) rfl (by kernel_rfl) (by kernel_rfl) (by kernel_rfl) (fun _ _ _ h => h) (Or.inl ⟨by rfl, fun W hW => ?_⟩) h0 ?_
  rotate_left
  · have q0 := hW.1 1 _ rfl
    clear hW
    go_simp
    try with_reducible rfl
  simp only [Act.put, List.getElem_toArray, List.getElem_cons_zero, List.getElem_cons_succ, List.setIfInBounds_toArray, List.set_cons_zero, List.set_cons_succ]
  refine wpAnyH_take (i := 5) (v := ?_) rfl (by kernel_rfl) (by kernel_rfl) (by kernel_rfl) (fun _ _ _ h => h) (Or.inl ⟨by rfl, fun W hW => ?_⟩) h0 ?_
  rotate_left
  · have q0 := hW.1 1 _ rfl
    clear hW
    go_simp
    try with_reducible rfl
  simp only [Act.put, List.getElem_toArray, List.getElem_cons_zero, List.getElem_cons_succ, List.setIfInBounds_toArray, List.set_cons_zero, List.set_cons_succ]
  refine wpAnyH_take (i := 6) (v := ?_) rfl (by kernel_rfl) (by kernel_rfl) (by kernel_rfl) (fun _ _ _ h => h) (Or.inl ⟨by rfl, fun W hW => ?_⟩) h0 ?_
  rotate_left
  · have q0 := hW.1 1 _ rfl
    clear hW
    go_simp
    try with_reducible rfl
  simp only [Act.put, List.getElem_toArray, List.getElem_cons_zero, List.getElem_cons_succ, List.setIfInBounds_toArray, List.set_cons_zero, List.set_cons_succ]
  refine wpAnyH_take (i := 7) (v := ?_) rfl (by kernel_rfl) (by kernel_rfl) (by kernel_rfl) (fun _ _ _ h => h) (Or.inl ⟨by rfl, fun W hW => ?_⟩) h0 ?_
  rotate_left
  · have q0 := hW.1 1 _ rfl
    clear hW
    go_simp
    try with_reducible rfl
  simp only [Act.put, List.getElem_toArray, List.getElem_cons_zero, List.getElem_cons_succ, List.setIfInBounds_toArray, List.set_cons_zero, List.set_cons_succ]
  refine wpAnyH_take (i := 8) (v := ?_) rfl (by kernel_rfl) (by kernel_rfl) (by kernel_rfl) (fun _ _ _ h => h) (Or.inl ⟨by rfl, fun W hW => ?_⟩) h0 ?_
  rotate_left
  · have q0 := hW.1 2 _ rfl
    clear hW
    go_simp
    try with_reducible rfl
  simp only [Act.put, List.getElem_toArray, List.getElem_cons_zero, List.getElem_cons_succ, List.setIfInBounds_toArray, List.set_cons_zero, List.set_cons_succ]
  refine wpAnyH_take (i := 9) (v := ?_) rfl (by kernel_rfl) (by kernel_rfl) (by kernel_rfl) (fun _ _ _ h => h) (Or.inl ⟨by rfl, fun W hW => ?_⟩) h0 ?_
  rotate_left
  · have q0 := hW.1 2 _ rfl
    clear hW
    go_simp
    try with_reducible rfl
  simp only [Act.put, List.getElem_toArray, List.getElem_cons_zero, List.getElem_cons_succ, List.setIfInBounds_toArray, List.set_cons_zero, List.set_cons_succ]
  refine wpAnyH_take (i := 10) (v := ?_) rfl (by kernel_rfl) (by kernel_rfl) (by kernel_rfl) (fun _ _ _ h => h) (Or.inl ⟨by rfl, fun W hW => ?_⟩) h0 ?_
  rotate_left
  · have q0 := hW.1 2 _ rfl
    clear hW
    go_simp
    try with_reducible rfl
  simp only [Act.put, List.getElem_toArray, List.getElem_cons_zero, List.getElem_cons_succ, List.setIfInBounds_toArray, List.set_cons_zero, List.set_cons_succ]
  refine wpAnyH_take (i := 11) (v := ?_) rfl (by kernel_rfl) (by kernel_rfl) (by kernel_rfl) (fun _ _ _ h => h) (Or.inl ⟨by rfl, fun W hW => ?_⟩) h0 ?_
  rotate_left
  · have q0 := hW.1 2 _ rfl
    clear hW
    go_simp
    try with_reducible rfl
  simp only [Act.put, List.getElem_toArray, List.getElem_cons_zero, List.getElem_cons_succ, List.setIfInBounds_toArray, List.set_cons_zero, List.set_cons_succ]
  refine wpAnyH_take (i := 12) (v := ?_) rfl (by kernel_rfl) (by kernel_rfl) (by kernel_rfl) (fun _ _ _ h => h) (Or.inl ⟨by rfl, fun W hW => ?_⟩) h0 ?_
  rotate_left
  · have q0 := hW.1 3 _ rfl
    clear hW
    go_simp
    try with_reducible rfl
  simp only [Act.put, List.getElem_toArray, List.getElem_cons_zero, List.getElem_cons_succ, List.setIfInBounds_toArray, List.set_cons_zero, List.set_cons_succ]
  refine wpAnyH_take (i := 13) (v := ?_) rfl (by kernel_rfl) (by kernel_rfl) (by kernel_rfl) (fun _ _ _ h => h) (Or.inl ⟨by rfl, fun W hW => ?_⟩) h0 ?_
  rotate_left
  · have q0 := hW.1 3 _ rfl
    clear hW
    go_simp
    try with_reducible rfl
  simp only [Act.put, List.getElem_toArray, List.getElem_cons_zero, List.getElem_cons_succ, List.setIfInBounds_toArray, List.set_cons_zero, List.set_cons_succ]
  refine wpAnyH_take (i := 14) (v := ?_) rfl (by kernel_rfl) (by kernel_rfl) (by kernel_rfl) (fun _ _ _ h => h) (Or.inl ⟨by rfl, fun W hW => ?_⟩) h0 ?_
  rotate_left
  · have q0 := hW.1 3 _ rfl
    clear hW
    go_simp
    try with_reducible rfl
  simp only [Act.put, List.getElem_toArray, List.getElem_cons_zero, List.getElem_cons_succ, List.setIfInBounds_toArray, List.set_cons_zero, List.set_cons_succ]
  refine wpAnyH_take (i := 15) (v := ?_) rfl (by kernel_rfl) (by kernel_rfl) (by kernel_rfl) (fun _ _ _ h => h) (Or.inl ⟨by rfl, fun W hW => ?_⟩) h0 ?_
  rotate_left
  · have q0 := hW.1 3 _ rfl
    clear hW
    go_simp
    try with_reducible rfl
  simp only [Act.put, List.getElem_toArray, List.getElem_cons_zero, List.getElem_cons_succ, List.setIfInBounds_toArray, List.set_cons_zero, List.set_cons_succ]
  refine wpAnyH_take (i := 16) (v := ?_) rfl (by kernel_rfl) (by kernel_rfl) (by kernel_rfl) (fun _ _ _ h => h) (Or.inl ⟨by rfl, fun W hW => ?_⟩) h0 ?_
  rotate_left
  · skip
    clear hW
    go_simp
    try with_reducible rfl
  simp only [Act.put, List.getElem_toArray, List.getElem_cons_zero, List.getElem_cons_succ, List.setIfInBounds_toArray, List.set_cons_zero, List.set_cons_succ]
  refine wpAnyH_ready (rs := [17]) (by kernel_rfl) (by simp) (AllReadyH.cons rfl (fun K hK => ?_) AllReadyH.nil)
  go_simp
  rw [← hX]
  refine hK.out _ _ (hQB.below bX) (fun h1 => ?_)
  clear hK K h0 hX
  refine wpAnyH_ready (rs := [18]) (by kernel_rfl) (by simp) (AllReadyH.cons rfl (fun K hK => ?_) AllReadyH.nil)
  go_simp
  change K _ (six X O.heap.size (.int .i64 d) (.int .i64 sp) (.int .i64 nw) (.int .i64 sq) (.slice none 0 0) (.slice none 0 0))
  rw [← hV]
  refine hK.out _ _ (hQB.below bV) (fun h2 => ?_)
  clear hK K h1 hV a0 a1 a2 a3 a4 a5 af AX bX
  refine wpAnyH_done (by kernel_rfl) ?_ _
  clear h2 QO A0 A0V AV
  subst hsv
  go_wp2_with fail
  go_loopw [28] (fun i wr => ∃ (k : Nat) (ra : Option Addr) (rc : Nat), k ≤ ps.length ∧ i = .int .i64 k ∧ Hid (wr.ownsRow (O.heap.size + 1) 43 3 (.slice ra k rc) k (sicells (cs.take k))) ∧ Hid (BAt wr O.heap.size [.int .i64 d, .int .i64 sp, .int .i64 nw, .int .i64 sq, .slice ra k rc, .slice none 0 0]) ∧ Below O.heap.size V wr) (fun i _ => ps.length - (intOf i).toNat)
  case atStart => exact ⟨0, none, 0, Nat.zero_le _, rfl, World.ownsRow_nil _ _ _ _, HAV, Below.refl _ _⟩
  case round =>
    clear v4
    obtain ⟨k, ra, rc, hk, rfl, HR, HT, hbr⟩ := hrel
    have zO : w.heap.size + 1 ≤ O.heap.size := Nat.le_of_eq HZO.out.symm
    have zO2 : O.heap.size ≤ w.heap.size + 1 := Nat.le_of_eq HZO.out
    have zV : O.heap.size + 1 ≤ V.heap.size := Nat.le_of_eq HZV.out.symm
    have zr := hbr.size
    have hbel : Below w.heap.size w wr := bV.trans (hbr.mono (by omega))
    by_cases hlt : k < ps.length
    · have hki : (k : Int) < ps.length := by omega
      rcases HRW.out.2 with ⟨_, h0⟩ | ⟨g, cap, cur, hpe, _⟩
      · exact absurd h0 (by omega)
      · injection hpe with i1 i2 i3
        subst i1
        clear i2 i3
        obtain ⟨P, hP⟩ : ∃ P, P = ps.getD k 0 := ⟨_, rfl⟩
        have hcell : wr.cell? ⟨g, k, none⟩ = some (.pointer (some ⟨P, 0, none⟩)) := by
          have hgl : g < w.heap.size := (HRW.out.lt g rfl).2
          refine (hbel.cell (p := ⟨g, k, none⟩) hgl).trans ((HRW.out.cellAt k (by omega)).trans ?_)
          unfold ptrs
          rw [List.getElem?_map, List.getElem?_eq_getElem hlt, hP, List.getD_eq_getElem?_getD, List.getElem?_eq_getElem hlt]
          rfl
        have OP := hidM (((HSI.out k hlt).2).below hbel)
        have hPl : P < w.heap.size := by rw [hP]; exact (HSI.out k hlt).2.lt
        have HTK : Hid (cs.take (k + 1) = cs.take k ++ [cs.getD k siv0]) := hidM (takeD_snoc siv0 cs (by omega))
        have hq1 : (cs.getD k siv0).q.oneCell' = true := by
          obtain ⟨ao, n, c, e⟩ := HSQ.out k (by omega)
          rw [e]; rfl
        rw [← hP] at OP
        clear hP
        unfold sivs at OP
        generalize cs.getD k siv0 = c at *
        obtain ⟨xn, xr, xq⟩ := c
        dsimp only at OP hq1
        go_upto_region 5 with fail
        clear hcell
        refine wp_region_held_drew (S := fun W => OAt W P 43 [.string xn, .int .i64 xr, xq]) (by kernel_rfl) (OP.out.below (Below.refl _ wr).drew) (fun h0 => ?_)
        refine wpAnyH_take (i := 0) (v := ?_) rfl (by kernel_rfl) (by kernel_rfl) (by kernel_rfl) (fun _ _ _ h => h) (Or.inl ⟨by rfl, fun W hW => ?_⟩) h0 ?_
        rotate_left
        · skip
          clear hW
          go_simp
          try with_reducible rfl
        simp only [Act.put, List.getElem_toArray, List.getElem_cons_zero, List.getElem_cons_succ, List.setIfInBounds_toArray, List.set_cons_zero, List.set_cons_succ]
        refine wpAnyH_take (i := 2) (v := ?_) rfl (by kernel_rfl) (by kernel_rfl) (by kernel_rfl) (fun _ _ _ h => h) (Or.inl ⟨by rfl, fun W hW => ?_⟩) h0 ?_
        rotate_left
        · skip
          clear hW
          go_simp
          try with_reducible rfl
        simp only [Act.put, List.getElem_toArray, List.getElem_cons_zero, List.getElem_cons_succ, List.setIfInBounds_toArray, List.set_cons_zero, List.set_cons_succ]
        refine wpAnyH_take (i := 3) (v := ?_) rfl (by kernel_rfl) (by kernel_rfl) (by kernel_rfl) (fun _ _ _ h => h) (Or.inl ⟨by rfl, fun W hW => ?_⟩) h0 ?_
        rotate_left
        · skip
          clear hW
          go_simp
          try with_reducible rfl
        simp only [Act.put, List.getElem_toArray, List.getElem_cons_zero, List.getElem_cons_succ, List.setIfInBounds_toArray, List.set_cons_zero, List.set_cons_succ]
        refine wpAnyH_take (i := 4) (v := ?_) rfl (by kernel_rfl) (by kernel_rfl) (by kernel_rfl) (fun _ _ _ h => h) (Or.inl ⟨by rfl, fun W hW => ?_⟩) h0 ?_
        rotate_left
        · have q0 := (OAt.bat hW).1 0 _ rfl; have q1 := (OAt.bat hW).1 1 _ rfl; have q2 := (OAt.bat hW).1 2 _ rfl
          clear hW
          go_simp
          try with_reducible rfl
        simp only [Act.put, List.getElem_toArray, List.getElem_cons_zero, List.getElem_cons_succ, List.setIfInBounds_toArray, List.set_cons_zero, List.set_cons_succ]
        have HTd : BAt wr.drew O.heap.size [.int .i64 d, .int .i64 sp, .int .i64 nw, .int .i64 sq, .slice ra k rc, .slice none 0 0] := HT.out
        refine wpAnyH_ready (rs := [1, 5]) (by kernel_rfl) (by simp) (AllReadyH.cons rfl (fun K hK => ?_) (AllReadyH.cons rfl (fun K hK => ?_) AllReadyH.nil))
        · have e4 := HTd.1 4 _ rfl
          go_simp
          refine hK.out _ _ h0 (fun hl => ?_)
          clear hK K e4 hl
          refine wpAnyH_ready (rs := [5]) (by kernel_rfl) (by simp) (AllReadyH.cons rfl (fun K hK => ?_) AllReadyH.nil)
          go_simp
          obtain ⟨Y, hY⟩ : ∃ Y, Y = (wr.alloc (.cells #[.string xn, .int .i64 xr, xq] 43)).drew := ⟨_, rfl⟩
          have NY : BAt Y wr.heap.size [.string xn, .int .i64 xr, xq] := by rw [hY]; exact BAt.new wr #[.string xn, .int .i64 xr, xq] 43
          have bY : Below wr.heap.size wr Y := by rw [hY]; exact ((Below.refl _ wr).alloc (Nat.le_refl _) _).drew
          rw [← hY]
          have sY : OAt Y P 43 [.string xn, .int .i64 xr, xq] := OP.out.below bY
          have tY : BAt Y O.heap.size [.int .i64 d, .int .i64 sp, .int .i64 nw, .int .i64 sq, .slice ra k rc, .slice none 0 0] := HT.out.below bY
          have RY : Hid (Y.ownsRow (O.heap.size + 1) 43 3 (.slice ra k rc) k (sicells (cs.take k))) := hidM (own_below HR.out bY)
          refine hK.out _ _ sY (fun h5 => ?_)
          clear hK K hY
          refine wpAnyH_ready (rs := [6]) (by kernel_rfl) (by simp) (AllReadyH.cons rfl (fun K hK => ?_) AllReadyH.nil)
          rw [if_pos (by rfl)]
          refine wp_append_own _ (.tmp 33) (.tmp 37) 24 rfl (O.heap.size + 1) 43 i0 (.agg #[.string ⟨#[]⟩, .int .i64 0, .slice none 0 0]) 3 48 Tryz.underlying24 hi hz0 hz1 hz2 rfl (by decide) (.slice ra k rc) k (sicells (cs.take k)) rfl RY.out ⟨wr.heap.size, 0, none⟩ 1 1 [.string xn, .int .i64 xr, xq] rfl rfl (fun jj u hj => by
            rw [Addr.add_lit, Nat.zero_add]
            exact NY.1 jj u hj) (by intro u hu; simp at hu; rcases hu with rfl | rfl | rfl <;> first | rfl | exact hq1) (by unfold maxLen; omega) (by omega) (by have := bY.size; omega) ?_
          intro v4 w4 o4 g4 _
          have hrl := fun b hb => RY.out.lt b hb
          have s4 : OAt w4 P 43 [.string xn, .int .i64 xr, xq] := sY.kept g4 fun e => by have := (hrl P e.symm).1; omega
          have t4 : BAt w4 O.heap.size [.int .i64 d, .int .i64 sp, .int .i64 nw, .int .i64 sq, .slice ra k rc, .slice none 0 0] := tY.same g4.size (g4.block _ tY.2.2 fun e => by have := (hrl _ e.symm).1; omega)
          have B4 : Below O.heap.size V w4 := (hbr.trans (bY.mono (by omega))).grown g4 (by have := bY.size; omega) (fun b hb => by have := (hrl b hb).1; omega)
          refine hK.out _ _ s4 (fun h4 => ?_)
          clear hK K
          refine wpAnyH_take (i := 7) (v := ?_) rfl (by kernel_rfl) (by kernel_rfl) (by kernel_rfl) (fun _ _ _ h => h) (Or.inl ⟨by rfl, fun W hW => ?_⟩) h4 ?_
          rotate_left
          · skip
            clear hW
            go_simp
            try with_reducible rfl
          simp only [Act.put, List.getElem_toArray, List.getElem_cons_zero, List.getElem_cons_succ, List.setIfInBounds_toArray, List.set_cons_zero, List.set_cons_succ]
          obtain ⟨sa, sc, rfl⟩ : ∃ a c, v4 = .slice a (k + 1) c := by
            rcases o4.2 with ⟨h, h2⟩ | ⟨g, cap, cur, h, _⟩
            · exact absurd h2 (by omega)
            · exact ⟨_, _, h⟩
          have HR2 : Hid ((w4.setCell ⟨O.heap.size, 4, none⟩ (.slice sa (k + 1) sc)).ownsRow (O.heap.size + 1) 43 3 (.slice sa (k + 1) sc) (k + 1) (sicells (cs.take (k + 1)))) := hidM (own_put (by rw [HTK.out, sicells_append]; exact o4) (by omega) 4 _)
          have HT2 : Hid (BAt (w4.setCell ⟨O.heap.size, 4, none⟩ (.slice sa (k + 1) sc)) O.heap.size [.int .i64 d, .int .i64 sp, .int .i64 nw, .int .i64 sq, .slice sa (k + 1) sc, .slice none 0 0]) := hidM (t4.set 4 (by simp) _)
          have B5 : Below O.heap.size V (w4.setCell ⟨O.heap.size, 4, none⟩ (.slice sa (k + 1) sc)) := B4.setCell (Nat.le_refl _) _
          refine wpAnyH_ready (rs := [8]) (by kernel_rfl) (by simp) (AllReadyH.cons rfl (fun K hK => ?_) AllReadyH.nil)
          have q0 := t4.1 4 _ rfl
          have qf := t4.2.1
          have s5 : OAt (w4.setCell ⟨O.heap.size, 4, none⟩ (.slice sa (k + 1) sc)) P 43 [.string xn, .int .i64 xr, xq] := s4.other (by omega) 4 _
          go_simp
          refine hK.out _ _ s5 (fun h5 => ?_)
          clear hK K q0 qf
          refine wpAnyH_done (by kernel_rfl) ?_ _
          clear h5 s5 t4 s4 o4 g4 RY hrl bY sY tY NY HR HT OP h4
          go_wp2_with fail
          go_roundw
          case rel => exact ⟨k + 1, sa, sc, by omega, by go_num, HR2, HT2, B5⟩
          case measure => simp [intOf]; omega
        · go_simp
          obtain ⟨Y, hY⟩ : ∃ Y, Y = (wr.alloc (.cells #[.string xn, .int .i64 xr, xq] 43)).drew := ⟨_, rfl⟩
          have NY : BAt Y wr.heap.size [.string xn, .int .i64 xr, xq] := by rw [hY]; exact BAt.new wr #[.string xn, .int .i64 xr, xq] 43
          have bY : Below wr.heap.size wr Y := by rw [hY]; exact ((Below.refl _ wr).alloc (Nat.le_refl _) _).drew
          rw [← hY]
          have sY : OAt Y P 43 [.string xn, .int .i64 xr, xq] := OP.out.below bY
          have tY : BAt Y O.heap.size [.int .i64 d, .int .i64 sp, .int .i64 nw, .int .i64 sq, .slice ra k rc, .slice none 0 0] := HT.out.below bY
          have RY : Hid (Y.ownsRow (O.heap.size + 1) 43 3 (.slice ra k rc) k (sicells (cs.take k))) := hidM (own_below HR.out bY)
          refine hK.out _ _ sY (fun h5 => ?_)
          clear hK K hY
          refine wpAnyH_ready (rs := [1]) (by kernel_rfl) (by simp) (AllReadyH.cons rfl (fun K hK => ?_) AllReadyH.nil)
          have e4 := tY.1 4 _ rfl
          go_simp
          refine hK.out _ _ h5 (fun hl => ?_)
          clear hK K e4 hl
          refine wpAnyH_ready (rs := [6]) (by kernel_rfl) (by simp) (AllReadyH.cons rfl (fun K hK => ?_) AllReadyH.nil)
          rw [if_pos (by rfl)]
          refine wp_append_own _ (.tmp 33) (.tmp 37) 24 rfl (O.heap.size + 1) 43 i0 (.agg #[.string ⟨#[]⟩, .int .i64 0, .slice none 0 0]) 3 48 Tryz.underlying24 hi hz0 hz1 hz2 rfl (by decide) (.slice ra k rc) k (sicells (cs.take k)) rfl RY.out ⟨wr.heap.size, 0, none⟩ 1 1 [.string xn, .int .i64 xr, xq] rfl rfl (fun jj u hj => by
            rw [Addr.add_lit, Nat.zero_add]
            exact NY.1 jj u hj) (by intro u hu; simp at hu; rcases hu with rfl | rfl | rfl <;> first | rfl | exact hq1) (by unfold maxLen; omega) (by omega) (by have := bY.size; omega) ?_
          intro v4 w4 o4 g4 _
          have hrl := fun b hb => RY.out.lt b hb
          have s4 : OAt w4 P 43 [.string xn, .int .i64 xr, xq] := sY.kept g4 fun e => by have := (hrl P e.symm).1; omega
          have t4 : BAt w4 O.heap.size [.int .i64 d, .int .i64 sp, .int .i64 nw, .int .i64 sq, .slice ra k rc, .slice none 0 0] := tY.same g4.size (g4.block _ tY.2.2 fun e => by have := (hrl _ e.symm).1; omega)
          have B4 : Below O.heap.size V w4 := (hbr.trans (bY.mono (by omega))).grown g4 (by have := bY.size; omega) (fun b hb => by have := (hrl b hb).1; omega)
          refine hK.out _ _ s4 (fun h4 => ?_)
          clear hK K
          refine wpAnyH_take (i := 7) (v := ?_) rfl (by kernel_rfl) (by kernel_rfl) (by kernel_rfl) (fun _ _ _ h => h) (Or.inl ⟨by rfl, fun W hW => ?_⟩) h4 ?_
          rotate_left
          · skip
            clear hW
            go_simp
            try with_reducible rfl
          simp only [Act.put, List.getElem_toArray, List.getElem_cons_zero, List.getElem_cons_succ, List.setIfInBounds_toArray, List.set_cons_zero, List.set_cons_succ]
          obtain ⟨sa, sc, rfl⟩ : ∃ a c, v4 = .slice a (k + 1) c := by
            rcases o4.2 with ⟨h, h2⟩ | ⟨g, cap, cur, h, _⟩
            · exact absurd h2 (by omega)
            · exact ⟨_, _, h⟩
          have HR2 : Hid ((w4.setCell ⟨O.heap.size, 4, none⟩ (.slice sa (k + 1) sc)).ownsRow (O.heap.size + 1) 43 3 (.slice sa (k + 1) sc) (k + 1) (sicells (cs.take (k + 1)))) := hidM (own_put (by rw [HTK.out, sicells_append]; exact o4) (by omega) 4 _)
          have HT2 : Hid (BAt (w4.setCell ⟨O.heap.size, 4, none⟩ (.slice sa (k + 1) sc)) O.heap.size [.int .i64 d, .int .i64 sp, .int .i64 nw, .int .i64 sq, .slice sa (k + 1) sc, .slice none 0 0]) := hidM (t4.set 4 (by simp) _)
          have B5 : Below O.heap.size V (w4.setCell ⟨O.heap.size, 4, none⟩ (.slice sa (k + 1) sc)) := B4.setCell (Nat.le_refl _) _
          refine wpAnyH_ready (rs := [8]) (by kernel_rfl) (by simp) (AllReadyH.cons rfl (fun K hK => ?_) AllReadyH.nil)
          have q0 := t4.1 4 _ rfl
          have qf := t4.2.1
          have s5 : OAt (w4.setCell ⟨O.heap.size, 4, none⟩ (.slice sa (k + 1) sc)) P 43 [.string xn, .int .i64 xr, xq] := s4.other (by omega) 4 _
          go_simp
          refine hK.out _ _ s5 (fun h5 => ?_)
          clear hK K q0 qf
          refine wpAnyH_done (by kernel_rfl) ?_ _
          clear h5 s5 t4 s4 o4 g4 RY hrl bY sY tY NY HR HT OP h4
          go_wp2_with fail
          go_roundw
          case rel => exact ⟨k + 1, sa, sc, by omega, by go_num, HR2, HT2, B5⟩
          case measure => simp [intOf]; omega
    · have hki : ¬ (k : Int) < ps.length := by omega
      obtain rfl : k = ps.length := by omega
      have v5 := (hQB.below hbel).1 5 _ rfl
      rw [List.take_of_length_le (by omega)] at HR
      have CV : Hid (Calls Tryz.prog 137 #[.map (some mb)] wr fun e w' => e = .returned (.func (.func 157) #[] #[.pointer (some ⟨wr.heap.size, 0, none⟩)]) ∧ w' = wr.alloc (.cells #[.map (some mb)] 93)) := callsIn_wide.1 (implVals 1 (some mb) wr)
      go_wp2_with fail
      refine CV.out.mono ?_
      rintro e w1 ⟨rfl, hw1⟩
      have b1 : Below wr.heap.size wr w1 := by rw [hw1]; exact (Below.refl _ _).alloc (Nat.le_refl _) _
      have s1 : w1.heap.size = wr.heap.size + 1 := by rw [hw1]; simp
      have hm1 : w1.cell? ⟨wr.heap.size, 0, none⟩ = some (.map (some mb)) := by rw [hw1]; exact (BAt.new wr #[.map (some mb)] _).1 0 _ rfl
      have CS := hidM (implSortedLs wr.heap.size mb N le w1 hN hl (by omega) hm1 ((HMP.out.below hbel).below b1) HSO.out)
      have hs1 : wr.heap.size ≤ w1.heap.size := by omega
      clear hw1 CV hm1 s1
      go_wp2_with fail
      refine CS.out.mono ?_
      rintro e w2 ⟨lv, rfl, o2, b2⟩
      have B2 : Below wr.heap.size wr w2 := b1.trans (b2.mono hs1)
      have O2 := hidM o2
      obtain ⟨la, lc, rfl⟩ : ∃ a c, lv = .slice a le.length c := by
        rcases o2.2 with ⟨h, h2⟩ | ⟨g, cap, cur, h, _⟩
        · exact ⟨none, 0, by rw [h, h2]⟩
        · exact ⟨_, _, h⟩
      have T2 := HT.out.below B2
      have m5 := T2.1 5 _ rfl
      have mf := T2.2.1
      obtain ⟨Y, hY⟩ : ∃ Y, Y = w2.setCell ⟨O.heap.size, 5, none⟩ (.slice la le.length lc) := ⟨_, rfl⟩
      have hw2 : Below w.heap.size w w2 := hbel.trans (B2.mono hbel.size)
      have BYw : Below w.heap.size w Y := by rw [hY]; exact hw2.setCell (by show w.heap.size ≤ O.heap.size; omega) _
      have TY : BAt Y O.heap.size [.int .i64 d, .int .i64 sp, .int .i64 nw, .int .i64 sq, .slice ra ps.length rc, .slice la le.length lc] := by rw [hY]; exact T2.set 5 (by simp) _
      have R0 : BAt wr w.heap.size [.int .i64 0, .int .i64 0, .int .i64 0, .int .i64 0, .slice none 0 0, .slice none 0 0] := HA0.out.same hbr.size (hbr.block _ (by omega))
      have RY : BAt Y w.heap.size [.int .i64 0, .int .i64 0, .int .i64 0, .int .i64 0, .slice none 0 0, .slice none 0 0] := by rw [hY]; exact (R0.below B2).other (by omega) 5 _
      have hYb : ∀ b, b ≠ O.heap.size → Y.heap[b]? = w2.heap[b]? := fun b hb => by rw [hY]; exact Below.heap_setCell _ _ _ _ hb
      have hYz : Y.heap.size = w2.heap.size := by rw [hY]; simp
      have HFIN : Hid (∀ F, F = six Y w.heap.size (.int .i64 d) (.int .i64 sp) (.int .i64 nw) (.int .i64 sq) (.slice ra ps.length rc) (.slice la le.length lc) → SchB w base d sp nw sq si le (.returned (.agg #[.int .i64 d, .int .i64 sp, .int .i64 nw, .int .i64 sq, .slice ra ps.length rc, .slice la le.length lc])) F) := fun F hF => by
        have hFz : F.heap.size = w2.heap.size := by rw [hF, six_size, hYz]
        have hFb : ∀ b, b ≠ w.heap.size → b ≠ O.heap.size → F.heap[b]? = w2.heap[b]? := fun b h1 h2 => by rw [hF, six_block _ _ _ _ _ _ _ _ h1, hYb b h2]
        have bz := B2.size
        have bz2 := hw2.size
        have hrow : F.ownsRow base 43 3 (.slice ra ps.length rc) ps.length (sicells cs) := own_wide1 (own_at HR.out fun b hb => by
          have h1 := HR.out.lt b hb
          rw [hFb b (by omega) (by omega)]
          exact B2.block b h1.2) (by omega)
        refine ⟨ra, rc, la, lc, by rw [hpl], ⟨⟨cs, ?_, fun b hb => ?_, HPT.out.same (by omega) fun b _ h1 h2 => ?_⟩, own_wide1 (own_at O2.out fun b hb => ?_) (by omega), fun b hb => ?_⟩, by rw [hF]; exact six_below BYw (Nat.le_refl _) _ _ _ _ _ _⟩
        · rw [← hpl]; exact hrow
        · rw [← hpl] at hb
          exact (hrow.lt b hb).2
        · rw [hFb b (by omega) (by omega)]
          exact hw2.block b h2
        · have h1 := O2.out.lt b hb
          exact hFb b (by omega) (by omega)
        · have h1 := O2.out.lt b hb
          omega
      have HRY := hidM RY
      clear o2 b2 B2 O2 T2 HR HT R0 RY hYb hYz CS hw2 b1 v5 HPT HMP HSI HSQ HRW
      go_upto_region 8 with fail
      rw [← hY]
      clear hY m5 mf
      have y0 := TY.1 0 _ rfl
      have y1 := TY.1 1 _ rfl
      have y2 := TY.1 2 _ rfl
      have y3 := TY.1 3 _ rfl
      have y4 := TY.1 4 _ rfl
      have y5 := TY.1 5 _ rfl
      have r0 := HRY.out.1 0 _ rfl
      have r1 := HRY.out.1 1 _ rfl
      have r2 := HRY.out.1 2 _ rfl
      have r3 := HRY.out.1 3 _ rfl
      have r4 := HRY.out.1 4 _ rfl
      have r5 := HRY.out.1 5 _ rfl
      have rf := HRY.out.2.1
      go_wp2_with fail
      (try simp only [Exit.inBlock, Exit.then])
      refine bodyPost_ret (sch_result1 rfl _ _ w.heap.size _ _ _ _ _ _ rfl (six_at HRY.out _ _ _ _ _ _)) rfl ?_
      have HF2 := HFIN.out _ rfl
      rw [hpl] at HF2
      exact HF2
end Go.Proofs.YtcjblhiihgdljaaGreat
