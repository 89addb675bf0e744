/- The contracts of the code's layersOf, ownMarks and SeenAll. -/
import Derived.Test.YtdnlaijpgjpplaaRows
import Derived.Test.YtdnlaijpgjpplaaMrgImpl
import Derived.Test.YtdnlaijpgjpplaaCloneWalk
import Derived.Test.YtdnlaijpgjpplaaAppAt
import Derived.Deep.Slices
namespace Go.Proofs.Ytdnlaijpgjpplaa
open Go.RowKit
set_option linter.unusedVariables false
set_option linter.unusedSimpArgs false

theorem RunRow.cells {w : World} {q : Value} {ll : List (List EV)} (h : RunRow w q ll) : ∃ vs, CRow w q ll.length 1 vs ∧ ∀ i, i < ll.length → ∃ x, vs[i]? = some x ∧ EntRow w x (ll.getD i []) := by
  rcases h with ⟨rfl, ao, cap, rfl⟩ | ⟨h0, g, off, cap, h1, h2, h3⟩
  · exact ⟨[], ⟨⟨rfl, fun u hu => by cases hu⟩, .inl ⟨rfl, _, _, rfl⟩⟩, fun i hi => absurd hi (Nat.not_lt_zero _)⟩
  · haveI : Inhabited Value := ⟨undef⟩
    obtain ⟨X, hX⟩ := Go.Deep.choose_lt h3
    have hat : ∀ i, i < ll.length → ((List.range ll.length).map X)[i]? = some (X i) := fun i hi => by simp [hi]
    refine ⟨(List.range ll.length).map X, ⟨⟨by simp, fun u hu => ?_⟩, .inr ⟨g, off, _, h1, h2, fun j u hj => ?_⟩⟩, fun i hi => ⟨X i, hat i hi, (hX i hi).2⟩⟩
    · obtain ⟨i, hi, rfl⟩ := List.mem_map.1 hu
      obtain ⟨a, c, e⟩ := (hX i (List.mem_range.1 hi)).2.slice
      rw [e]; rfl
    · have hjl : j < ll.length := by
        have := (List.getElem?_eq_some_iff.1 hj).1
        simpa using this
      rw [hat j hjl] at hj
      injection hj with hj
      rw [← hj]
      exact (hX j hjl).1
theorem RunRow.of_cells {w : World} {base : Nat} {v : Value} {ll : List (List EV)} {vs : List Value} (h1 : w.ownsRow base 24 1 v ll.length vs) (h2 : ∀ i, i < ll.length → ∃ x, vs[i]? = some x ∧ EntRow w x (ll.getD i [])) : RunRow w v ll := by
  by_cases h0 : ll.length = 0
  · have hl : ll = [] := List.eq_nil_of_length_eq_zero h0
    rw [h0] at h1
    rcases h1.2 with ⟨rfl, _⟩ | ⟨g, cap, cur, rfl, _⟩
    · exact .inl ⟨hl, _, _, rfl⟩
    · exact .inl ⟨hl, _, _, rfl⟩
  · rcases h1.2 with ⟨_, h3⟩ | ⟨g, cap, cur, rfl, _⟩
    · exact absurd h3 h0
    · refine .inr ⟨by omega, g, 0, cap - ll.length, by rw [Nat.add_sub_cancel' (own_room h1)], (h1.lt g rfl).2, fun i hi => ?_⟩
      obtain ⟨x, a1, a2⟩ := h2 i hi
      exact ⟨x, by rw [Nat.zero_add, h1.cellAt i (by omega)]; exact a1, a2⟩
/-- Two rows of rows, one behind the other. -/
theorem implConcatTwo (p q v : Value) (l1 l2 : List (List EV)) (w : World) (b : Nat) (h1 : l1.length ≤ 1000) (h2 : l2.length ≤ 1000000) (hp : RunRow w p l1) (hq : RunRow w q l2) (hb : BAt w b [p, q]) (hv : v = .slice (some ⟨b, 0, none⟩) 2 2) :
    Calls Try.prog 36 #[v] w fun e w' => ∃ v', e = .returned v' ∧ RunRow w' v' (l1 ++ l2) ∧ Below w.heap.size w w' := by
  obtain ⟨vs1, c1, e1⟩ := hp.cells
  obtain ⟨vs2, c2, e2⟩ := hq.cells
  have hR : RRow w v 1 [(l1.length, vs1), (l2.length, vs2)] := by
    refine .inr ⟨by simp, b, 0, 0, hv, hb.2.2, fun i hi => ?_⟩
    match i, hi with
    | 0, _ => exact ⟨p, hb.1 0 _ rfl, c1⟩
    | 1, _ => exact ⟨q, hb.1 1 _ rfl, c2⟩
  have hN : totN [(l1.length, vs1), (l2.length, vs2)] = l1.length + l2.length := by show (0 + l1.length) + l2.length = _; omega
  have hV : totV [(l1.length, vs1), (l2.length, vs2)] = vs1 ++ vs2 := by unfold totV; simp
  have hl1 : vs1.length = l1.length := by have := c1.1.1; omega
  refine (implConcatR [(l1.length, vs1), (l2.length, vs2)] v w (by simp) (by rw [hN]; omega) hR).mono ?_
  rintro e w' ⟨v', rfl, o, bb⟩
  rw [hN, hV, ← List.length_append] at o
  refine ⟨v', rfl, RunRow.of_cells o fun i hi => ?_, bb⟩
  by_cases hi1 : i < l1.length
  · obtain ⟨x, a1, a2⟩ := e1 i hi1
    refine ⟨x, by rw [List.getElem?_append_left (by omega)]; exact a1, ?_⟩
    rw [List.getD_eq_getElem?_getD, List.getElem?_append_left hi1, ← List.getD_eq_getElem?_getD]
    exact a2.below bb
  · rw [List.length_append] at hi
    obtain ⟨x, a1, a2⟩ := e2 (i - l1.length) (by omega)
    refine ⟨x, by rw [List.getElem?_append_right (by omega), hl1]; exact a1, ?_⟩
    rw [List.getD_eq_getElem?_getD, List.getElem?_append_right (by omega), ← List.getD_eq_getElem?_getD]
    exact a2.below bb
theorem RunRow.one {w : World} {b : Nat} {x : Value} {m : List EV} (hb : BAt w b [x]) (h : EntRow w x m) : RunRow w (.slice (some ⟨b, 0, none⟩) 1 1) [m] := .inr ⟨by simp, b, 0, 0, rfl, hb.2.2, fun i hi => by
  match i, hi with
  | 0, _ => exact ⟨x, hb.1 0 _ rfl, h⟩⟩
set_option maxHeartbeats 4000000 in
theorem implLayersOf (m : List EV) (ll : List (List EV)) (p q : Value) (w : World) (hn : ll.length ≤ 1000000) (hp : EntRow w p m) (hq : RunRow w q ll) :
    Calls Try.prog 31 #[.agg #[p, q]] w fun e w' => ∃ v', e = .returned v' ∧ RunRow w' v' (m :: ll) ∧ Below w.heap.size w w' := by
  obtain ⟨O, hO⟩ : ∃ O, O = w.alloc (.cells #[p, q] 27) := ⟨_, rfl⟩
  have bO : Below w.heap.size w O := by rw [hO]; exact (Below.refl _ _).alloc (Nat.le_refl _) _
  have AO : BAt O w.heap.size [p, q] := by rw [hO]; exact BAt.new w #[p, q] _
  obtain ⟨U, hU⟩ : ∃ U, U = (O.alloc (.cells #[p] 24)).alloc (.cells #[.slice (some ⟨O.heap.size, 0, none⟩) 1 1, q] 25) := ⟨_, rfl⟩
  have bU : Below O.heap.size O U := by rw [hU]; exact ((Below.refl _ _).alloc (Nat.le_refl _) _).alloc (by simp) _
  have BU := bO.trans (bU.mono bO.size)
  have A1 : BAt U O.heap.size [p] := by rw [hU]; exact (BAt.new O #[p] _).alloc _
  have A2 : BAt U (O.heap.size + 1) [.slice (some ⟨O.heap.size, 0, none⟩) 1 1, q] := by
    rw [hU]
    have := BAt.new (O.alloc (.cells #[p] 24)) #[.slice (some ⟨O.heap.size, 0, none⟩) 1 1, q] 25
    rwa [World.size_alloc] at this
  have CC := hidM (implConcatTwo (.slice (some ⟨O.heap.size, 0, none⟩) 1 1) q (.slice (some ⟨O.heap.size + 1, 0, none⟩) 2 2) [m] ll U (O.heap.size + 1) (by simp) hn (RunRow.one A1 (hp.below BU)) (hq.below BU) A2 rfl)
  obtain ⟨pa, pc, rfl⟩ := hp.slice
  obtain ⟨qa, qc, rfl⟩ := hq.slice
  clear hp hq A1 A2
  have c0 := AO.1 0 _ rfl
  have c1 := (AO.alloc (.cells #[.slice pa m.length pc] 24)).1 1 _ rfl
  go_enter Try.func31, Try.ntmps31
  go_upto_region 1 with fail
  rw [← hO]
  clear hO AO
  go_wp2_with fail
  rw [← hU]
  refine CC.out.mono ?_
  rintro e w1 ⟨v1, rfl, r1, b1⟩
  have R1 := hidM r1
  clear r1
  go_wp2_with fail
  go_ret
  exact ⟨_, rfl, R1.out, BU.trans (b1.mono BU.size)⟩
set_option maxRecDepth 100000 in
set_option maxHeartbeats 4000000 in
theorem implOwnMarks (l : List EV) (v : Value) (w : World) (hl : l.length ≤ 1048576) (hz : ∀ i, i < l.length → (l.getD i ev0).s.size ≤ 281474976710656) (h : EntRow w v l) :
    Calls Try.prog 28 #[v] w fun e w' => ∃ v', e = .returned v' ∧ w'.ownsRow w.heap.size 35 2 v' l.length (ecells l) ∧ Below w.heap.size w w' := by
  obtain ⟨i0, hi, hz0, hz1, hz2⟩ := info_parts Try.infoMk
  have HZ := hidM hz
  clear hz
  rcases h with ⟨rfl, ao, cap, rfl⟩ | ⟨h0, g, off, cap, rfl, hg, hc⟩
  · go_enter Try.func28, Try.ntmps28
    go_wp2_with (at_make; refine wpList_make_own _ rfl _ _ 24 rfl w.heap.size 35 i0 (.agg #[.string ⟨#[]⟩, .int .i64 0]) 2 Try.underlying24 hi hz0 hz1 _ _ _ 0 rfl rfl (by omega) (by rw [hz2]; omega) (by unfold maxLen; omega) (Nat.le_refl _) ?_)
    intro wm hmo hgm
    have Bm : Below w.heap.size w wm := (Below.refl _ _).grown hgm (Nat.le_refl _) (fun k hk => by cases hk)
    have HMO := hidM hmo
    clear hgm hmo
    go_wp2
    refine wp_loop_rounds 1 ?_
    rw [rounds_succ]
    go_wp2
    go_ret
    exact ⟨_, rfl, HMO.out, Bm⟩
  · have HC : Hid (∀ i, i < l.length → w.cell? ⟨g, off + i * 2, none⟩ = some (.string (l.getD i ev0).s) ∧ w.cell? ⟨g, off + i * 2 + 1, none⟩ = some (.int .i64 (l.getD i ev0).k)) := hc
    clear hc
    go_enter Try.func28, Try.ntmps28
    go_wp2_with (at_make; refine wpList_make_own _ rfl _ _ 24 rfl w.heap.size 35 i0 (.agg #[.string ⟨#[]⟩, .int .i64 0]) 2 Try.underlying24 hi hz0 hz1 _ _ _ l.length rfl rfl (by omega) (by rw [hz2]; omega) (by unfold maxLen; omega) (Nat.le_refl _) ?_)
    intro wm hmo hgm
    have Bm : Below w.heap.size w wm := (Below.refl _ _).grown hgm (Nat.le_refl _) (fun k hk => by cases hk)
    have HMO := hidM hmo
    clear hgm hmo
    go_wp2
    go_loopw [3, 11] (fun s i wr => ∃ k : Nat, k ≤ l.length ∧ i = .int .i64 k ∧ Hid (wr.ownsRow w.heap.size 35 2 s k (ecells (l.take k))) ∧ Below w.heap.size w wr) (fun _ i _ => l.length - (intOf i).toNat)
    case atStart => exact ⟨0, Nat.zero_le _, rfl, HMO, Bm⟩
    case round =>
      clear HMO Bm
      obtain ⟨k, hk, rfl, HO, hbel⟩ := hrel
      by_cases hlt : k < l.length
      · have hki : (k : Int) < l.length := by omega
        obtain ⟨c1, c2⟩ := HC.out k hlt
        have c1w := (hbel.cell (p := ⟨g, off + k * 2, none⟩) hg).trans c1
        have c2w := (hbel.cell (p := ⟨g, off + k * 2 + 1, none⟩) hg).trans c2
        have hzk := HZ.out k hlt
        have HNX : Hid (ecells (l.take (k + 1)) = ecells (l.take k) ++ [.string (l.getD k ev0).s, .int .i64 (l.getD k ev0).k]) := hidM (by
          rw [List.take_succ_eq_append_getElem hlt, ecells_append, List.getD_eq_getElem?_getD, List.getElem?_eq_getElem hlt]
          rfl)
        have CC : Hid (∀ W, Calls Try.prog 39 #[.string (l.getD k ev0).s] W fun e w' => e = .returned (.string (l.getD k ev0).s) ∧ Below W.heap.size W w') := fun W => strClone _ W hzk
        obtain ⟨V, hV⟩ : ∃ V, V = wr.alloc (.cells #[.string (l.getD k ev0).s, .int .i64 (l.getD k ev0).k] 35) := ⟨_, rfl⟩
        have AV : BAt V wr.heap.size [.string (l.getD k ev0).s, .int .i64 (l.getD k ev0).k] := by rw [hV]; exact BAt.new wr #[.string (l.getD k ev0).s, .int .i64 (l.getD k ev0).k] _
        have BV : Below w.heap.size w V := by rw [hV]; exact hbel.alloc hbel.size _
        have HOV : Hid (V.ownsRow w.heap.size 35 2 u3 k (ecells (l.take k))) := hidM (by rw [hV]; exact HO.out.alloc _)
        have HUE : Hid (∀ b, u3.ownBlock = some b → w.heap.size ≤ b ∧ b < wr.heap.size) := fun b hb => HO.out.lt b hb
        clear c1 c2 hzk HO
        generalize (l.getD k ev0).s = ks at *
        generalize (l.getD k ev0).k = kk at *
        go_upto_region 5 with fail
        rw [← hV]
        clear hV c1w c2w
        generalize wr.heap.size = E at *
        refine wp_region_held_drew (S := fun W => BAt W E [.string ks, .int .i64 kk] ∧ Below w.heap.size w W) (by kernel_rfl) ⟨AV, BV.drew⟩ (fun h0 => ?_)
        refine wpAnyH_take (i := 0) (v := ?_) rfl (by kernel_rfl) (by kernel_rfl) (by kernel_rfl) (fun _ _ _ h => h) (Or.inl ⟨by rfl, fun W hW => ?_⟩) h0 ?_
        rotate_left
        · clear hW
          go_simp
          try with_reducible rfl
        simp only [Act.put, List.getElem_toArray, List.getElem_cons_zero, List.getElem_cons_succ, List.setIfInBounds_toArray, List.set_cons_zero, List.set_cons_succ]
        refine wpAnyH_take (i := 1) (v := ?_) rfl (by kernel_rfl) (by kernel_rfl) (by kernel_rfl) (fun _ _ _ h => h) (Or.inl ⟨by rfl, fun W hW => ?_⟩) h0 ?_
        rotate_left
        · clear hW
          go_simp
          try with_reducible rfl
        simp only [Act.put, List.getElem_toArray, List.getElem_cons_zero, List.getElem_cons_succ, List.setIfInBounds_toArray, List.set_cons_zero, List.set_cons_succ]
        refine wpAnyH_take (i := 2) (v := .string ks) rfl (by kernel_rfl) (by kernel_rfl) (by kernel_rfl) (fun _ _ _ h => h) (Or.inl ⟨by rfl, fun W hW => ?_⟩) h0 ?_
        · have q0 := hW.1.1 0 _ rfl
          go_simp
        simp only [Act.put, List.getElem_toArray, List.getElem_cons_zero, List.getElem_cons_succ, List.setIfInBounds_toArray, List.set_cons_zero, List.set_cons_succ]
        refine wpAnyH_take (i := 4) (v := ?_) rfl (by kernel_rfl) (by kernel_rfl) (by kernel_rfl) (fun _ _ _ h => h) (Or.inl ⟨by rfl, fun W hW => ?_⟩) h0 ?_
        rotate_left
        · clear hW
          go_simp
          try with_reducible rfl
        simp only [Act.put, List.getElem_toArray, List.getElem_cons_zero, List.getElem_cons_succ, List.setIfInBounds_toArray, List.set_cons_zero, List.set_cons_succ]
        refine wpAnyH_take (i := 5) (v := .int .i64 kk) rfl (by kernel_rfl) (by kernel_rfl) (by kernel_rfl) (fun _ _ _ h => h) (Or.inl ⟨by rfl, fun W hW => ?_⟩) h0 ?_
        · have q0 := hW.1.1 1 _ rfl
          go_simp
        simp only [Act.put, List.getElem_toArray, List.getElem_cons_zero, List.getElem_cons_succ, List.setIfInBounds_toArray, List.set_cons_zero, List.set_cons_succ]
        refine wpAnyH_ready (rs := [3]) (by kernel_rfl) (by simp) (AllReadyH.cons rfl (fun K hK => ?_) AllReadyH.nil)
        go_simp
        go_wp2_with (go_at_call 39; refine (CC.out _).mono ?_; rintro e wq ⟨rfl, hbq⟩)
        have sq : BAt wq E [.string ks, .int .i64 kk] ∧ Below w.heap.size w wq := ⟨h0.1.below hbq, h0.2.trans (hbq.mono h0.2.size)⟩
        have HOQ : Hid (wq.ownsRow w.heap.size 35 2 u3 k (ecells (l.take k))) := own_below (w := V.drew) HOV.out hbq
        refine hK.out _ _ sq (fun h1 => ?_)
        clear hK K h0 hbq HOV
        refine wpAnyH_take (i := 6) (v := .agg #[.string ks, .int .i64 kk]) rfl (by kernel_rfl) (by kernel_rfl) (by kernel_rfl) (fun _ _ _ h => h) (Or.inl ⟨by rfl, fun W hW => ?_⟩) h1 ?_
        · clear hW
          go_simp
          try with_reducible rfl
        simp only [Act.put, List.getElem_toArray, List.getElem_cons_zero, List.getElem_cons_succ, List.setIfInBounds_toArray, List.set_cons_zero, List.set_cons_succ]
        refine wpAnyH_ready (rs := [7]) (by kernel_rfl) (by simp) (AllReadyH.cons rfl (fun K hK => ?_) AllReadyH.nil)
        go_simp
        have sr : BAt (wq.alloc (.cells #[.string ks, .int .i64 kk] 35)) E [.string ks, .int .i64 kk] ∧ Below w.heap.size w (wq.alloc (.cells #[.string ks, .int .i64 kk] 35)) := ⟨sq.1.alloc _, sq.2.alloc sq.2.size _⟩
        refine hK.out _ _ sr (fun h2 => ?_)
        clear hK K h1
        refine wpAnyH_ready (rs := [8]) (by kernel_rfl) (by simp) (AllReadyH.cons rfl (fun K hK => ?_) AllReadyH.nil)
        rw [if_pos (by rfl)]
        refine wp_append_own _ (.tmp 15) (.tmp 22) 24 rfl w.heap.size 35 i0 (.agg #[.string ⟨#[]⟩, .int .i64 0]) 2 24 Try.underlying24 hi hz0 hz1 hz2 rfl (by decide) u3 k (ecells (l.take k)) rfl (HOQ.out.alloc _) ⟨wq.heap.size, 0, none⟩ 1 1 [.string ks, .int .i64 kk] rfl rfl (fun jj u hj => by
          rw [Addr.add_lit, Nat.zero_add]
          exact (BAt.new wq #[.string ks, .int .i64 kk] 35).1 jj u hj) (by intro u hu; simp at hu; rcases hu with rfl | rfl <;> rfl) (by unfold maxLen; omega) (by omega) sr.2.size ?_
        intro v9 w9 o9 g9 _
        have s9 : BAt w9 E [.string ks, .int .i64 kk] ∧ Below w.heap.size w w9 := ⟨sr.1.same g9.size (g9.block E sr.1.2.2 fun e => by have := HUE.out E e.symm; omega), sr.2.grown g9 sr.2.size fun b e => (HUE.out b e).1⟩
        refine hK.out _ _ s9 (fun h3 => ?_)
        clear hK K
        refine wpAnyH_take (i := 9) (v := ?_) rfl (by kernel_rfl) (by kernel_rfl) (by kernel_rfl) (fun _ _ _ h => h) (Or.inl ⟨by rfl, fun W hW => ?_⟩) h3 ?_
        rotate_left
        · clear hW
          go_simp
          try with_reducible rfl
        refine wpAnyH_done (by kernel_rfl) ?_ _
        have HO9 : Hid (w9.ownsRow w.heap.size 35 2 v9 (k + 1) (ecells (l.take (k + 1)))) := by
          show World.ownsRow _ _ _ _ _ _ _
          rw [HNX.out]
          exact o9
        have B9 := s9.2
        clear o9 s9 g9 h3 h2 sr sq HOQ AV BV CC HUE HNX
        simp only [Act.put, List.getElem_toArray, List.getElem_cons_zero, List.getElem_cons_succ, List.setIfInBounds_toArray, List.set_cons_zero, List.set_cons_succ]
        go_wp2_with fail
        go_roundw
        case rel => exact ⟨k + 1, by omega, by go_num, HO9, B9⟩
        case measure => simp [intOf] <;> omega
      · have hki : ¬ (k : Int) < l.length := by omega
        have HO2 : Hid (wr.ownsRow w.heap.size 35 2 u3 l.length (ecells l)) := hidM (by have := HO.out; rwa [show k = l.length by omega, List.take_length] at this)
        clear HO
        go_wp2_with fail
        go_ret
        exact ⟨_, rfl, HO2.out, hbel⟩
def RZ (m : List EV) (ll : List (List EV)) : Prop := ∀ x, x ∈ m ++ ll.flatten → x.s.size ≤ 1048576
set_option maxHeartbeats 4000000 in
theorem implSeenAll (m : List EV) (ll : List (List EV)) (p q : Value) (w : World) (hn : ll.length ≤ 1000000) (ht : (m ++ ll.flatten).length ≤ 262144) (hz : RZ m ll) (hp : EntRow w p m) (hq : RunRow w q ll) :
    Calls Try.prog 10 #[.agg #[p, q]] w fun e w' => ∃ v', e = .returned v' ∧ w'.ownsRow w.heap.size 35 2 v' (canon (m ++ ll.flatten)).length (ecells (canon (m ++ ll.flatten))) ∧ Below w.heap.size w w' := by
  obtain ⟨O, hO⟩ : ∃ O, O = w.alloc (.cells #[p, q] 27) := ⟨_, rfl⟩
  have bO : Below w.heap.size w O := by rw [hO]; exact (Below.refl _ _).alloc (Nat.le_refl _) _
  have AO : BAt O w.heap.size [p, q] := by rw [hO]; exact BAt.new w #[p, q] _
  have CL := hidM (implLayersOf m ll p q O hn (hp.below bO) (hq.below bO))
  have CM : Hid (∀ W v, RunRow W v (m :: ll) → Calls Try.prog 29 #[.func (.func 30) #[] #[], v] W fun e w' => ∃ v', e = .returned v' ∧ EntRow w' v' (canon (m ++ ll.flatten)) ∧ Below W.heap.size W w') := fun W v h => by
    have := implMerged (m :: ll) v W (by simp; omega) (by simpa using ht) h
    rwa [List.flatten_cons] at this
  have hcl : (canon (m ++ ll.flatten)).length ≤ 1048576 := by
    have := canon_len (m ++ ll.flatten)
    omega
  have CO : Hid (∀ W v, EntRow W v (canon (m ++ ll.flatten)) → Calls Try.prog 28 #[v] W fun e w' => ∃ v', e = .returned v' ∧ w'.ownsRow W.heap.size 35 2 v' (canon (m ++ ll.flatten)).length (ecells (canon (m ++ ll.flatten))) ∧ Below W.heap.size W w') := fun W v h => implOwnMarks _ v W hcl (fun i hi => by
    have hm : (canon (m ++ ll.flatten)).getD i ev0 ∈ canon (m ++ ll.flatten) := by
      rw [List.getD_eq_getElem?_getD, List.getElem?_eq_getElem hi]
      exact List.getElem_mem _
    have := hz _ (canon_mem hm)
    omega) h
  obtain ⟨pa, pc, rfl⟩ := hp.slice
  obtain ⟨qa, qc, rfl⟩ := hq.slice
  have c0 := AO.1 0 _ rfl
  have c1 := AO.1 1 _ rfl
  clear hp hq hz ht
  generalize canon (m ++ ll.flatten) = R at *
  go_enter Try.func10, Try.ntmps10
  go_upto_region 1 with fail
  rw [← hO]
  clear hO AO
  go_wp2_with fail
  refine CL.out.mono ?_
  rintro e w1 ⟨v1, rfl, r1, b1⟩
  have B1 := bO.trans (b1.mono bO.size)
  have CM2 := hidM (CM.out w1 v1 r1)
  clear CM CL r1
  go_wp2_with fail
  refine CM2.out.mono ?_
  rintro e w2 ⟨v2, rfl, r2, b2⟩
  have B2 := B1.trans (b2.mono B1.size)
  have CO2 := hidM (CO.out w2 v2 r2)
  clear CO CM2 r2
  go_wp2_with fail
  refine CO2.out.mono ?_
  rintro e w3 ⟨v3, rfl, r3, b3⟩
  have R3 := hidM (own_wide1 r3 B2.size)
  have B3 := B2.trans (b3.mono B2.size)
  clear r3 CO2
  go_wp2_with fail
  go_ret
  exact ⟨_, rfl, R3.out, B3⟩
end Go.Proofs.Ytdnlaijpgjpplaa
