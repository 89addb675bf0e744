/- The contracts of the code's ownQueue and ownLeases. -/
import Derived.Test.YtcjblhiihgdljaaGreatRows
import Derived.Test.YtcjblhiihgdljaaGreatSitRow
import Derived.Test.YtcjblhiihgdljaaGreatBlockAt
import Derived.Test.YtcjblhiihgdljaaGreatAppAt
import Derived.Test.YtcjblhiihgdljaaGreatOnlyIn
import Derived.Test.YtcjblhiihgdljaaGreatSchPure2
import Derived.Test.YtcjblhiihgdljaaGreatCloneWalk
import Derived.Test.YtcjblhiihgdljaaGreatSumZ
import Derived.Deep.RegionHeld3
namespace Go.Proofs.YtcjblhiihgdljaaGreat
open Go.RowKit
set_option linter.unusedVariables false
set_option linter.unusedSimpArgs false

set_option maxRecDepth 100000 in
set_option maxHeartbeats 4000000 in
theorem implOwnQueue (l : List WtV) (v : Value) (w : World) (hl : l.length ≤ 1073741824) (hz : ∀ y ∈ l, y.k.size ≤ 1048576) (h : WtRow w v l) :
    Calls Tryz.prog 120 #[v] w fun e w' => ∃ ao cap, e = .returned (.slice ao l.length cap) ∧ w'.ownsRow w.heap.size 83 3 (.slice ao l.length cap) l.length (wtcells l) ∧ Below w.heap.size w w' := by
  obtain ⟨i0, hi, hz0, hz1, hz2⟩ := info_parts Tryz.infoWt
  have HZ : Hid (∀ i, i < l.length → (l.getD i wtv0).k.size ≤ 1048576) := fun i hi => hz _ (getD_mem wtv0 hi)
  clear hz
  rcases h with ⟨rfl, ao, cap, rfl⟩ | ⟨h0, g, off, cap, rfl, hg, hc⟩
  · go_enter Tryz.func120, Tryz.ntmps120
    go_wp2_with (at_make; refine wpList_make_own _ rfl _ _ 41 rfl w.heap.size 83 i0 (.agg #[.string ⟨#[]⟩, .int .i64 0, .int .i64 0]) 3 Tryz.underlying41 hi hz0 hz1 _ _ _ 0 rfl rfl (by omega) (by rw [hz2]; omega) (by unfold maxLen; omega) (Nat.le_refl _) ?_)
    intro wm hmo hgm
    have Bm : Below w.heap.size w wm := (Below.refl _ _).grown hgm (Nat.le_refl _) (fun k hk => by cases hk)
    have HMO := hidM hmo
    clear hgm hmo
    go_wp2
    refine wp_loop_rounds 1 ?_
    rw [rounds_succ]
    go_wp2
    go_ret
    exact ⟨_, _, rfl, HMO.out, Bm⟩
  · have HC : Hid (∀ i, i < l.length → WtAt w g (off + i * 3) (l.getD i wtv0)) := hc
    clear hc
    go_enter Tryz.func120, Tryz.ntmps120
    go_wp2_with (at_make; refine wpList_make_own _ rfl _ _ 41 rfl w.heap.size 83 i0 (.agg #[.string ⟨#[]⟩, .int .i64 0, .int .i64 0]) 3 Tryz.underlying41 hi hz0 hz1 _ _ _ l.length rfl rfl (by omega) (by rw [hz2]; omega) (by unfold maxLen; omega) (Nat.le_refl _) ?_)
    intro wm hmo hgm
    have Bm : Below w.heap.size w wm := (Below.refl _ _).grown hgm (Nat.le_refl _) (fun k hk => by cases hk)
    have HMO := hidM hmo
    clear hgm hmo
    go_wp2
    go_loopw [3, 11] (fun s i wr => ∃ (k : Nat) (ra : Option Addr) (rc : Nat), k ≤ l.length ∧ i = .int .i64 k ∧ s = .slice ra k rc ∧ Hid (wr.ownsRow w.heap.size 83 3 (.slice ra k rc) k (wtcells (l.take k))) ∧ Below w.heap.size w wr) (fun _ i _ => l.length - (intOf i).toNat)
    case atStart => exact ⟨0, _, _, Nat.zero_le _, rfl, rfl, HMO, Bm⟩
    case round =>
      clear HMO Bm
      obtain ⟨k, ra, rc, hk, rfl, rfl, HO, hbel⟩ := hrel
      by_cases hlt : k < l.length
      · have hki : (k : Int) < l.length := by omega
        obtain ⟨c0, c1, c2⟩ := (HC.out k hlt).below hbel hg
        have hzk := HZ.out k hlt
        have HNX : Hid (wtcells (l.take (k + 1)) = wtcells (l.take k) ++ [.string (l.getD k wtv0).k, .int .i64 (l.getD k wtv0).p, .int .i64 (l.getD k wtv0).q]) := hidM (by
          rw [takeD_snoc wtv0 l hlt, wtcells_append]
          rfl)
        have CC : Hid (∀ W, Calls Tryz.prog 67 #[.string (l.getD k wtv0).k] W fun e w' => e = .returned (.string (l.getD k wtv0).k) ∧ Below W.heap.size W w') := fun W => strClone _ W (by omega)
        obtain ⟨V, hV⟩ : ∃ V, V = wr.alloc (.cells #[.string (l.getD k wtv0).k, .int .i64 (l.getD k wtv0).p, .int .i64 (l.getD k wtv0).q] 83) := ⟨_, rfl⟩
        have AV : BAt V wr.heap.size [.string (l.getD k wtv0).k, .int .i64 (l.getD k wtv0).p, .int .i64 (l.getD k wtv0).q] := by rw [hV]; exact BAt.new wr #[.string (l.getD k wtv0).k, .int .i64 (l.getD k wtv0).p, .int .i64 (l.getD k wtv0).q] _
        have BV : Below w.heap.size w V := by rw [hV]; exact hbel.alloc hbel.size _
        have HOV : Hid (V.ownsRow w.heap.size 83 3 (.slice ra k rc) k (wtcells (l.take k))) := hidM (by rw [hV]; exact HO.out.alloc _)
        have HUE : Hid (∀ b, Value.ownBlock (.slice ra k rc) = some b → w.heap.size ≤ b ∧ b < wr.heap.size) := fun b hb => HO.out.lt b hb
        clear hzk HO
        generalize (l.getD k wtv0).k = xk at *
        generalize (l.getD k wtv0).p = xp at *
        generalize (l.getD k wtv0).q = xq at *
        go_upto_region 5 with fail
        rw [← hV]
        clear hV c0 c1 c2
        generalize wr.heap.size = E at *
        refine wp_region_held_drew (S := fun W => BAt W E [.string xk, .int .i64 xp, .int .i64 xq] ∧ Below w.heap.size w W) (by kernel_rfl) ⟨AV, BV.drew⟩ (fun h0 => ?_)
        refine wpAnyH_take (i := 0) (v := ?_) rfl (by kernel_rfl) (by kernel_rfl) (by kernel_rfl) (fun _ _ _ h => h) (Or.inl ⟨by rfl, fun W hW => ?_⟩) h0 ?_
        rotate_left
        · have q0 := hW.1.1 0 _ rfl
          clear hW
          go_simp
          try with_reducible rfl
        simp only [Act.put, List.getElem_toArray, List.getElem_cons_zero, List.getElem_cons_succ, List.setIfInBounds_toArray, List.set_cons_zero, List.set_cons_succ]
        refine wpAnyH_take (i := 1) (v := ?_) rfl (by kernel_rfl) (by kernel_rfl) (by kernel_rfl) (fun _ _ _ h => h) (Or.inl ⟨by rfl, fun W hW => ?_⟩) h0 ?_
        rotate_left
        · have q0 := hW.1.1 0 _ rfl
          clear hW
          go_simp
          try with_reducible rfl
        simp only [Act.put, List.getElem_toArray, List.getElem_cons_zero, List.getElem_cons_succ, List.setIfInBounds_toArray, List.set_cons_zero, List.set_cons_succ]
        refine wpAnyH_take (i := 2) (v := ?_) rfl (by kernel_rfl) (by kernel_rfl) (by kernel_rfl) (fun _ _ _ h => h) (Or.inl ⟨by rfl, fun W hW => ?_⟩) h0 ?_
        rotate_left
        · have q0 := hW.1.1 0 _ rfl
          clear hW
          go_simp
          try with_reducible rfl
        simp only [Act.put, List.getElem_toArray, List.getElem_cons_zero, List.getElem_cons_succ, List.setIfInBounds_toArray, List.set_cons_zero, List.set_cons_succ]
        refine wpAnyH_take (i := 4) (v := ?_) rfl (by kernel_rfl) (by kernel_rfl) (by kernel_rfl) (fun _ _ _ h => h) (Or.inl ⟨by rfl, fun W hW => ?_⟩) h0 ?_
        rotate_left
        · have q0 := hW.1.1 1 _ rfl
          clear hW
          go_simp
          try with_reducible rfl
        simp only [Act.put, List.getElem_toArray, List.getElem_cons_zero, List.getElem_cons_succ, List.setIfInBounds_toArray, List.set_cons_zero, List.set_cons_succ]
        refine wpAnyH_take (i := 5) (v := ?_) rfl (by kernel_rfl) (by kernel_rfl) (by kernel_rfl) (fun _ _ _ h => h) (Or.inl ⟨by rfl, fun W hW => ?_⟩) h0 ?_
        rotate_left
        · have q0 := hW.1.1 1 _ rfl
          clear hW
          go_simp
          try with_reducible rfl
        simp only [Act.put, List.getElem_toArray, List.getElem_cons_zero, List.getElem_cons_succ, List.setIfInBounds_toArray, List.set_cons_zero, List.set_cons_succ]
        refine wpAnyH_take (i := 6) (v := ?_) rfl (by kernel_rfl) (by kernel_rfl) (by kernel_rfl) (fun _ _ _ h => h) (Or.inl ⟨by rfl, fun W hW => ?_⟩) h0 ?_
        rotate_left
        · have q0 := hW.1.1 2 _ rfl
          clear hW
          go_simp
          try with_reducible rfl
        simp only [Act.put, List.getElem_toArray, List.getElem_cons_zero, List.getElem_cons_succ, List.setIfInBounds_toArray, List.set_cons_zero, List.set_cons_succ]
        refine wpAnyH_take (i := 7) (v := ?_) rfl (by kernel_rfl) (by kernel_rfl) (by kernel_rfl) (fun _ _ _ h => h) (Or.inl ⟨by rfl, fun W hW => ?_⟩) h0 ?_
        rotate_left
        · have q0 := hW.1.1 2 _ rfl
          clear hW
          go_simp
          try with_reducible rfl
        simp only [Act.put, List.getElem_toArray, List.getElem_cons_zero, List.getElem_cons_succ, List.setIfInBounds_toArray, List.set_cons_zero, List.set_cons_succ]
        refine wpAnyH_ready (rs := [3]) (by kernel_rfl) (by simp) (AllReadyH.cons rfl (fun K hK => ?_) AllReadyH.nil)
        go_simp
        go_wp2_with (go_at_call 67; refine (CC.out _).mono ?_; rintro e wq ⟨rfl, hbq⟩)
        have sq : BAt wq E [.string xk, .int .i64 xp, .int .i64 xq] ∧ Below w.heap.size w wq := ⟨h0.1.below hbq, h0.2.trans (hbq.mono h0.2.size)⟩
        have HOQ : Hid (wq.ownsRow w.heap.size 83 3 (.slice ra k rc) k (wtcells (l.take k))) := own_below (w := V.drew) HOV.out hbq
        refine hK.out _ _ sq (fun h1 => ?_)
        clear hK K h0 hbq HOV
        refine wpAnyH_take (i := 8) (v := ?_) rfl (by kernel_rfl) (by kernel_rfl) (by kernel_rfl) (fun _ _ _ h => h) (Or.inl ⟨by rfl, fun W hW => ?_⟩) h1 ?_
        rotate_left
        · skip
          clear hW
          go_simp
          try with_reducible rfl
        simp only [Act.put, List.getElem_toArray, List.getElem_cons_zero, List.getElem_cons_succ, List.setIfInBounds_toArray, List.set_cons_zero, List.set_cons_succ]
        refine wpAnyH_ready (rs := [9]) (by kernel_rfl) (by simp) (AllReadyH.cons rfl (fun K hK => ?_) AllReadyH.nil)
        go_simp
        have sr : BAt (wq.alloc (.cells #[.string xk, .int .i64 xp, .int .i64 xq] 83)) E [.string xk, .int .i64 xp, .int .i64 xq] ∧ Below w.heap.size w (wq.alloc (.cells #[.string xk, .int .i64 xp, .int .i64 xq] 83)) := ⟨sq.1.alloc _, sq.2.alloc sq.2.size _⟩
        refine hK.out _ _ sr (fun h2 => ?_)
        clear hK K h1
        refine wpAnyH_ready (rs := [10]) (by kernel_rfl) (by simp) (AllReadyH.cons rfl (fun K hK => ?_) AllReadyH.nil)
        rw [if_pos (by rfl)]
        refine wp_append_own _ (.tmp 15) (.tmp 24) 41 rfl w.heap.size 83 i0 (.agg #[.string ⟨#[]⟩, .int .i64 0, .int .i64 0]) 3 32 Tryz.underlying41 hi hz0 hz1 hz2 rfl (by decide) (.slice ra k rc) k (wtcells (l.take k)) rfl (HOQ.out.alloc _) ⟨wq.heap.size, 0, none⟩ 1 1 [.string xk, .int .i64 xp, .int .i64 xq] rfl rfl (fun jj u hj => by
          rw [Addr.add_lit, Nat.zero_add]
          exact (BAt.new wq #[.string xk, .int .i64 xp, .int .i64 xq] 83).1 jj u hj) (by intro u hu; simp at hu; rcases hu with rfl | rfl | rfl <;> rfl) (by unfold maxLen; omega) (by omega) sr.2.size ?_
        intro v9 w9 o9 g9 _
        have s9 : BAt w9 E [.string xk, .int .i64 xp, .int .i64 xq] ∧ Below w.heap.size w w9 := ⟨sr.1.same g9.size (g9.block E sr.1.2.2 fun e => by have := HUE.out E e.symm; omega), sr.2.grown g9 sr.2.size fun b e => (HUE.out b e).1⟩
        refine hK.out _ _ s9 (fun h3 => ?_)
        clear hK K
        refine wpAnyH_take (i := 11) (v := ?_) rfl (by kernel_rfl) (by kernel_rfl) (by kernel_rfl) (fun _ _ _ h => h) (Or.inl ⟨by rfl, fun W hW => ?_⟩) h3 ?_
        rotate_left
        · skip
          clear hW
          go_simp
          try with_reducible rfl
        simp only [Act.put, List.getElem_toArray, List.getElem_cons_zero, List.getElem_cons_succ, List.setIfInBounds_toArray, List.set_cons_zero, List.set_cons_succ]
        refine wpAnyH_done (by kernel_rfl) ?_ _
        obtain ⟨ra', rc', rfl⟩ : ∃ a c, v9 = .slice a (k + 1) c := by
          rcases o9.2 with ⟨h, h2⟩ | ⟨g, cap, cur, h, _⟩
          · exact absurd h2 (by omega)
          · exact ⟨_, _, h⟩
        have HO9 : Hid (w9.ownsRow w.heap.size 83 3 (.slice ra' (k + 1) rc') (k + 1) (wtcells (l.take (k + 1)))) := by
          show World.ownsRow _ _ _ _ _ _ _
          rw [HNX.out]
          exact o9
        have B9 := s9.2
        clear o9 s9 g9 h3 h2 sr sq HOQ AV BV CC HUE HNX
        go_wp2_with fail
        go_roundw
        case rel => exact ⟨k + 1, ra', rc', by omega, by go_num, rfl, HO9, B9⟩
        case measure => simp [intOf]; omega
      · have hki : ¬ (k : Int) < l.length := by omega
        obtain rfl : k = l.length := by omega
        have HO2 : Hid (wr.ownsRow w.heap.size 83 3 (.slice ra l.length rc) l.length (wtcells l)) := hidM (by have := HO.out; rwa [List.take_length] at this)
        clear HO
        go_wp2_with fail
        go_ret
        exact ⟨_, _, rfl, HO2.out, hbel⟩
set_option maxRecDepth 100000 in
set_option maxHeartbeats 4000000 in
theorem implOwnLeases (l : List LsV) (v : Value) (w : World) (hl : l.length ≤ 1073741824) (hz : ∀ y ∈ l, y.k.size ≤ 1048576 ∧ y.s.size ≤ 1048576) (h : LsRow w v l) :
    Calls Tryz.prog 121 #[v] w fun e w' => ∃ ao cap, e = .returned (.slice ao l.length cap) ∧ w'.ownsRow w.heap.size 51 4 (.slice ao l.length cap) l.length (lscells l) ∧ Below w.heap.size w w' := by
  obtain ⟨i0, hi, hz0, hz1, hz2⟩ := info_parts Tryz.infoLs
  have HZ : Hid (∀ i, i < l.length → (l.getD i lsv0).k.size ≤ 1048576 ∧ (l.getD i lsv0).s.size ≤ 1048576) := fun i hi => hz _ (getD_mem lsv0 hi)
  clear hz
  rcases h with ⟨rfl, ao, cap, rfl⟩ | ⟨h0, g, off, cap, rfl, hg, hc⟩
  · go_enter Tryz.func121, Tryz.ntmps121
    go_wp2_with (at_make; refine wpList_make_own _ rfl _ _ 25 rfl w.heap.size 51 i0 (.agg #[.string ⟨#[]⟩, .string ⟨#[]⟩, .int .i64 0, .int .i64 0]) 4 Tryz.underlying25 hi hz0 hz1 _ _ _ 0 rfl rfl (by omega) (by rw [hz2]; omega) (by unfold maxLen; omega) (Nat.le_refl _) ?_)
    intro wm hmo hgm
    have Bm : Below w.heap.size w wm := (Below.refl _ _).grown hgm (Nat.le_refl _) (fun k hk => by cases hk)
    have HMO := hidM hmo
    clear hgm hmo
    go_wp2
    refine wp_loop_rounds 1 ?_
    rw [rounds_succ]
    go_wp2
    go_ret
    exact ⟨_, _, rfl, HMO.out, Bm⟩
  · have HC : Hid (∀ i, i < l.length → LsAt w g (off + i * 4) (l.getD i lsv0)) := hc
    clear hc
    go_enter Tryz.func121, Tryz.ntmps121
    go_wp2_with (at_make; refine wpList_make_own _ rfl _ _ 25 rfl w.heap.size 51 i0 (.agg #[.string ⟨#[]⟩, .string ⟨#[]⟩, .int .i64 0, .int .i64 0]) 4 Tryz.underlying25 hi hz0 hz1 _ _ _ l.length rfl rfl (by omega) (by rw [hz2]; omega) (by unfold maxLen; omega) (Nat.le_refl _) ?_)
    intro wm hmo hgm
    have Bm : Below w.heap.size w wm := (Below.refl _ _).grown hgm (Nat.le_refl _) (fun k hk => by cases hk)
    have HMO := hidM hmo
    clear hgm hmo
    go_wp2
    go_loopw [3, 11] (fun s i wr => ∃ (k : Nat) (ra : Option Addr) (rc : Nat), k ≤ l.length ∧ i = .int .i64 k ∧ s = .slice ra k rc ∧ Hid (wr.ownsRow w.heap.size 51 4 (.slice ra k rc) k (lscells (l.take k))) ∧ Below w.heap.size w wr) (fun _ i _ => l.length - (intOf i).toNat)
    case atStart => exact ⟨0, _, _, Nat.zero_le _, rfl, rfl, HMO, Bm⟩
    case round =>
      clear HMO Bm
      obtain ⟨k, ra, rc, hk, rfl, rfl, HO, hbel⟩ := hrel
      by_cases hlt : k < l.length
      · have hki : (k : Int) < l.length := by omega
        obtain ⟨c0, c1, c2, c3⟩ := (HC.out k hlt).below hbel hg
        obtain ⟨hzk, hzs⟩ := HZ.out k hlt
        have HNX : Hid (l.take (k + 1) = l.take k ++ [⟨(l.getD k lsv0).k, (l.getD k lsv0).s, (l.getD k lsv0).p, (l.getD k lsv0).u⟩]) := hidM (takeD_snoc lsv0 l hlt)
        have CC : Hid (∀ W, Calls Tryz.prog 67 #[.string (l.getD k lsv0).k] W fun e w' => e = .returned (.string (l.getD k lsv0).k) ∧ Below W.heap.size W w') := fun W => strClone _ W (by omega)
        have CD : Hid (∀ W, Calls Tryz.prog 67 #[.string (l.getD k lsv0).s] W fun e w' => e = .returned (.string (l.getD k lsv0).s) ∧ Below W.heap.size W w') := fun W => strClone _ W (by omega)
        obtain ⟨V, hV⟩ : ∃ V, V = wr.alloc (.cells #[.string (l.getD k lsv0).k, .string (l.getD k lsv0).s, .int .i64 (l.getD k lsv0).p, .int .i64 (l.getD k lsv0).u] 51) := ⟨_, rfl⟩
        have AV : BAt V wr.heap.size [.string (l.getD k lsv0).k, .string (l.getD k lsv0).s, .int .i64 (l.getD k lsv0).p, .int .i64 (l.getD k lsv0).u] := by rw [hV]; exact BAt.new wr #[.string (l.getD k lsv0).k, .string (l.getD k lsv0).s, .int .i64 (l.getD k lsv0).p, .int .i64 (l.getD k lsv0).u] _
        have BV : Below w.heap.size w V := by rw [hV]; exact hbel.alloc hbel.size _
        have HOV : Hid (V.ownsRow w.heap.size 51 4 (.slice ra k rc) k (lscells (l.take k))) := hidM (by rw [hV]; exact HO.out.alloc _)
        have HUE : Hid (∀ b, Value.ownBlock (.slice ra k rc) = some b → w.heap.size ≤ b ∧ b < wr.heap.size) := fun b hb => HO.out.lt b hb
        have hEw : w.heap.size ≤ wr.heap.size := hbel.size
        clear hzk hzs HO
        generalize (l.getD k lsv0).k = xk at *
        generalize (l.getD k lsv0).s = xs at *
        generalize (l.getD k lsv0).p = xp at *
        generalize (l.getD k lsv0).u = xu at *
        go_upto_region 5 with fail
        rw [← hV]
        clear hV c0 c1 c2 c3
        generalize wr.heap.size = E at *
        refine wp_region_held_drew (S := fun W => BAt W E [.string xk, .string xs, .int .i64 xp, .int .i64 xu] ∧ Below w.heap.size w W) (by kernel_rfl) ⟨AV, BV.drew⟩ (fun h0 => ?_)
        refine wpAnyH_take (i := 0) (v := ?_) rfl (by kernel_rfl) (by kernel_rfl) (by kernel_rfl) (fun _ _ _ h => h) (Or.inl ⟨by rfl, fun W hW => ?_⟩) h0 ?_
        rotate_left
        · have q0 := hW.1.1 0 _ rfl
          clear hW
          go_simp
          try with_reducible rfl
        simp only [Act.put, List.getElem_toArray, List.getElem_cons_zero, List.getElem_cons_succ, List.setIfInBounds_toArray, List.set_cons_zero, List.set_cons_succ]
        refine wpAnyH_take (i := 1) (v := ?_) rfl (by kernel_rfl) (by kernel_rfl) (by kernel_rfl) (fun _ _ _ h => h) (Or.inl ⟨by rfl, fun W hW => ?_⟩) h0 ?_
        rotate_left
        · have q0 := hW.1.1 0 _ rfl
          clear hW
          go_simp
          try with_reducible rfl
        simp only [Act.put, List.getElem_toArray, List.getElem_cons_zero, List.getElem_cons_succ, List.setIfInBounds_toArray, List.set_cons_zero, List.set_cons_succ]
        refine wpAnyH_take (i := 3) (v := ?_) rfl (by kernel_rfl) (by kernel_rfl) (by kernel_rfl) (fun _ _ _ h => h) (Or.inl ⟨by rfl, fun W hW => ?_⟩) h0 ?_
        rotate_left
        · have q0 := hW.1.1 1 _ rfl
          clear hW
          go_simp
          try with_reducible rfl
        simp only [Act.put, List.getElem_toArray, List.getElem_cons_zero, List.getElem_cons_succ, List.setIfInBounds_toArray, List.set_cons_zero, List.set_cons_succ]
        refine wpAnyH_take (i := 4) (v := ?_) rfl (by kernel_rfl) (by kernel_rfl) (by kernel_rfl) (fun _ _ _ h => h) (Or.inl ⟨by rfl, fun W hW => ?_⟩) h0 ?_
        rotate_left
        · have q0 := hW.1.1 1 _ rfl
          clear hW
          go_simp
          try with_reducible rfl
        simp only [Act.put, List.getElem_toArray, List.getElem_cons_zero, List.getElem_cons_succ, List.setIfInBounds_toArray, List.set_cons_zero, List.set_cons_succ]
        refine wpAnyH_ready (rs := [2]) (by kernel_rfl) (by simp) (AllReadyH.cons rfl (fun K hK => ?_) AllReadyH.nil)
        go_simp
        go_wp2_with (go_at_call 67; refine (CC.out _).mono ?_; rintro e wq ⟨rfl, hbq⟩)
        have sq : BAt wq E [.string xk, .string xs, .int .i64 xp, .int .i64 xu] ∧ Below w.heap.size w wq := ⟨h0.1.below hbq, h0.2.trans (hbq.mono h0.2.size)⟩
        have HOQ : Hid (wq.ownsRow w.heap.size 51 4 (.slice ra k rc) k (lscells (l.take k))) := own_below (w := V.drew) HOV.out hbq
        refine hK.out _ _ sq (fun h1 => ?_)
        clear hK K h0 hbq HOV
        refine wpAnyH_take (i := 6) (v := ?_) rfl (by kernel_rfl) (by kernel_rfl) (by kernel_rfl) (fun _ _ _ h => h) (Or.inl ⟨by rfl, fun W hW => ?_⟩) h1 ?_
        rotate_left
        · skip
          clear hW
          go_simp
          try with_reducible rfl
        simp only [Act.put, List.getElem_toArray, List.getElem_cons_zero, List.getElem_cons_succ, List.setIfInBounds_toArray, List.set_cons_zero, List.set_cons_succ]
        refine wpAnyH_ready (rs := [5]) (by kernel_rfl) (by simp) (AllReadyH.cons rfl (fun K hK => ?_) AllReadyH.nil)
        go_simp
        go_wp2_with (go_at_call 67; refine (CD.out _).mono ?_; rintro e wt ⟨rfl, hbt⟩)
        have st : BAt wt E [.string xk, .string xs, .int .i64 xp, .int .i64 xu] ∧ Below w.heap.size w wt := ⟨sq.1.below hbt, sq.2.trans (hbt.mono sq.2.size)⟩
        have HOT : Hid (wt.ownsRow w.heap.size 51 4 (.slice ra k rc) k (lscells (l.take k))) := own_below HOQ.out hbt
        refine hK.out _ _ st (fun h2 => ?_)
        clear hK K h1 hbt HOQ sq
        refine wpAnyH_ready (rs := [7]) (by kernel_rfl) (by simp) (AllReadyH.cons rfl (fun K hK => ?_) AllReadyH.nil)
        have q0 := st.1.1 0 _ rfl
        have qf := st.1.2.1
        have s3 : BAt (wt.setCell ⟨E, 0, none⟩ (.string xk)) E [.string xk, .string xs, .int .i64 xp, .int .i64 xu] ∧ Below w.heap.size w (wt.setCell ⟨E, 0, none⟩ (.string xk)) := ⟨st.1.set 0 (by simp) _, st.2.setCell hEw _⟩
        go_simp
        refine hK.out _ _ s3 (fun h3 => ?_)
        clear hK K h2 q0 qf
        refine wpAnyH_take (i := 8) (v := ?_) rfl (by kernel_rfl) (by kernel_rfl) (by kernel_rfl) (fun _ _ _ h => h) (Or.inl ⟨by rfl, fun W hW => ?_⟩) h3 ?_
        rotate_left
        · skip
          clear hW
          go_simp
          try with_reducible rfl
        simp only [Act.put, List.getElem_toArray, List.getElem_cons_zero, List.getElem_cons_succ, List.setIfInBounds_toArray, List.set_cons_zero, List.set_cons_succ]
        refine wpAnyH_ready (rs := [9]) (by kernel_rfl) (by simp) (AllReadyH.cons rfl (fun K hK => ?_) AllReadyH.nil)
        have q1 := s3.1.1 1 _ rfl
        have qf := s3.1.2.1
        have s4 : BAt ((wt.setCell ⟨E, 0, none⟩ (.string xk)).setCell ⟨E, 1, none⟩ (.string xs)) E [.string xk, .string xs, .int .i64 xp, .int .i64 xu] ∧ Below w.heap.size w ((wt.setCell ⟨E, 0, none⟩ (.string xk)).setCell ⟨E, 1, none⟩ (.string xs)) := ⟨s3.1.set 1 (by simp) _, s3.2.setCell hEw _⟩
        go_simp
        refine hK.out _ _ s4 (fun h4 => ?_)
        clear hK K h3 q1 qf
        refine wpAnyH_done (by kernel_rfl) ?_ _
        obtain ⟨Y, hY⟩ : ∃ Y, Y = (wt.setCell ⟨E, 0, none⟩ (.string xk)).setCell ⟨E, 1, none⟩ (.string xs) := ⟨_, rfl⟩
        have OY : Hid (Y.ownsRow w.heap.size 51 4 (.slice ra k rc) k (lscells (l.take k))) := hidM (own_at HOT.out fun b hb => by
          have := HUE.out b hb
          rw [hY, Below.heap_setCell _ _ _ _ (by show b ≠ E; omega), Below.heap_setCell _ _ _ _ (by show b ≠ E; omega)])
        rw [← hY] at s4 ⊢
        obtain ⟨AY, BY⟩ := s4
        clear hY h4 s3 st HOT
        have y0 := AY.1 0 _ rfl
        have y1 := AY.1 1 _ rfl
        have y2 := AY.1 2 _ rfl
        have y3 := AY.1 3 _ rfl
        go_wp2_with (at_builtin; refine wpList_append_ls Y rfl _ _ 25 rfl w.heap.size 51 (.agg #[.string ⟨#[]⟩, .string ⟨#[]⟩, .int .i64 0, .int .i64 0]) 48 Tryz.underlying25 Tryz.infoLs rfl (.slice ra k rc) k (l.take k) rfl OY.out xk xs xp xu Y.heap.size rfl rfl (by omega) (by unfold maxLen; omega) BY.size ?_)
        intro v9 w9 o9 g9
        obtain ⟨ra', rc', rfl⟩ : ∃ a c, v9 = .slice a (k + 1) c := by
          rcases o9.2 with ⟨h, h2⟩ | ⟨g, cap, cur, h, _⟩
          · exact absurd h2 (by omega)
          · exact ⟨_, _, h⟩
        have HO9 : Hid (w9.ownsRow w.heap.size 51 4 (.slice ra' (k + 1) rc') (k + 1) (lscells (l.take (k + 1)))) := hidM (by rw [HNX.out]; exact o9)
        have B9 := BY.grown g9 BY.size fun b e => (HUE.out b e).1
        clear o9 g9 OY AY BY y0 y1 y2 y3 HUE HNX CC CD
        go_wp2_with fail
        go_roundw
        case rel => exact ⟨k + 1, ra', rc', by omega, by go_num, rfl, HO9, B9⟩
        case measure => simp [intOf]; omega
      · have hki : ¬ (k : Int) < l.length := by omega
        obtain rfl : k = l.length := by omega
        have HO2 : Hid (wr.ownsRow w.heap.size 51 4 (.slice ra l.length rc) l.length (lscells l)) := hidM (by have := HO.out; rwa [List.take_length] at this)
        clear HO
        go_wp2_with fail
        go_ret
        exact ⟨_, _, rfl, HO2.out, hbel⟩
end Go.Proofs.YtcjblhiihgdljaaGreat
