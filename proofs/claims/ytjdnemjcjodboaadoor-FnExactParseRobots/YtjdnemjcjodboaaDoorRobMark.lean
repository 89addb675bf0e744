/- The laws' marks on lines, parts and robots that a call owns. -/
import Derived.Test.YtjdnemjcjodboaaDoorRows
import Derived.Test.YtjdnemjcjodboaaDoorRobOwn
import Derived.Test.YtjdnemjcjodboaaDoorStrMarks
import Derived.Test.YtjdnemjcjodboaaDoorBlockAt
import Derived.Handy
import Derived.Deep.DeepCutAuto
import Derived.Deep.RegionWith
namespace Go.Proofs.YtjdnemjcjodboaaDoor
open Go.RowKit
set_option linter.unusedVariables false

def mkX (k : Nat) : LV := ⟨decide (k % 3 = 0), markS (k + 1)⟩
def mkL (k0 n : Nat) : List LV := (List.range n).map fun i => mkX (k0 + 2 * i)
theorem mkL_length (k0 n : Nat) : (mkL k0 n).length = n := by simp [mkL]
theorem mkL_succ (k0 n : Nat) : mkL k0 (n + 1) = mkL k0 n ++ [mkX (k0 + 2 * n)] := by simp [mkL, List.range_succ]
theorem mkL_at (k0 n : Nat) {i : Nat} (h : i < n) : (mkL k0 n).getD i lv0 = mkX (k0 + 2 * i) := by simp [mkL, List.getD, h]
theorem mkL_set (k0 : Nat) (l : List LV) (k : Nat) (h : k < l.length) : (mkL k0 k ++ l.drop k).set k (mkX (k0 + 2 * k)) = mkL k0 (k + 1) ++ l.drop (k + 1) := by
  rw [List.set_append_right _ _ (by rw [mkL_length]; exact Nat.le_refl _), mkL_length, Nat.sub_self, mkL_succ, List.drop_eq_getElem_cons h, List.set_cons_zero, List.append_assoc]
  rfl
theorem mix_length (k0 : Nat) (l : List LV) (k : Nat) (h : k ≤ l.length) : (mkL k0 k ++ l.drop k).length = l.length := by
  rw [List.length_append, mkL_length, List.length_drop]; omega
theorem mod3 {z : Int} {k : Nat} (h : z = (k : Int)) : (z % 3 == 0) = decide (k % 3 = 0) := by
  by_cases h3 : k % 3 = 0
  · rw [decide_eq_true h3]; simp; omega
  · rw [decide_eq_false h3]; exact beq_eq_false_iff_ne.2 (by omega)
set_option maxHeartbeats 4000000 in
theorem markLines (l : List LV) (v : Value) (k0 B : Nat) (w : World) (hk0 : 0 < k0) (hn : k0 + 2 * l.length ≤ 1000000000) (h : w.ownsRow B 35 2 v l.length (lcells l)) :
    Calls Tryd.prog 64 #[v, .int .i64 (k0 : Int)] w fun e w' => e = .returned (.int .i64 ((k0 + 2 * l.length : Nat) : Int)) ∧ w'.ownsRow B 35 2 v l.length (lcells (mkL k0 l.length)) ∧ w.grownBy w' v.ownBlock := by
  by_cases h0 : l.length = 0
  · obtain rfl : l = [] := List.eq_nil_of_length_eq_zero h0
    obtain ⟨ao, cap, rfl⟩ := (LineRow.of_own' h).slice
    have HO : Hid (w.ownsRow B 35 2 (.slice ao 0 cap) 0 (lcells (mkL k0 0))) := h
    clear h
    go_enter Tryd.func64, Tryd.ntmps64
    go_wp2
    refine wp_loop_rounds 1 ?_
    rw [rounds_succ]
    go_wp2
    go_ret
    exact ⟨rfl, HO.out, World.grownBy.refl _ _⟩
  · obtain ⟨g, cap, rfl⟩ : ∃ g cap, v = .slice (some ⟨g, 0, none⟩) l.length cap := by
      rcases h.2 with ⟨_, h2⟩ | ⟨g, cap, cur, rfl, _⟩
      · exact absurd h2 h0
      · exact ⟨g, cap, rfl⟩
    go_enter Tryd.func64, Tryd.ntmps64
    go_wp2
    go_loopw [1, 5] (fun a i wr => ∃ (k : Nat) (z : Int), k ≤ l.length ∧ i = .int .i64 k ∧ a = .int .i64 z ∧ 0 < z ∧ z ≤ 1000000000 ∧ Hid (z = ((k0 + 2 * k : Nat) : Int)) ∧ Hid (wr.ownsRow B 35 2 (.slice (some ⟨g, 0, none⟩) l.length cap) l.length (lcells (mkL k0 k ++ l.drop k))) ∧ w.grownBy wr (some g)) (fun _ i _ => l.length - (intOf i).toNat)
    case atStart => exact ⟨0, _, Nat.zero_le _, rfl, rfl, by omega, by omega, rfl, (by show World.ownsRow _ _ _ _ _ _ _; simpa [mkL] using h), World.grownBy.refl _ _⟩
    case round =>
      obtain ⟨k, z, hk, rfl, rfl, hz0, hz1, HZ, HO, hgr⟩ := hrel
      clear h
      by_cases hlt : k < l.length
      · have hki : (k : Int) < l.length := by omega
        have hz2 : z + 2 ≤ 1000000000 := by have := HZ.out; omega
        have hm := mod3 HZ.out
        have hml := mix_length k0 l k hk
        have own0 := HO.out
        have hll : (lcells (mkL k0 k ++ l.drop k)).length = l.length * 2 := by rw [lcells_length, hml]
        have hfz := own0.frozenAt (k * 2)
        obtain ⟨u0, hu0⟩ : ∃ u, wr.cell? ⟨g, k * 2, none⟩ = some u := by
          rw [own0.cellAt (k * 2) (by omega)]
          exact ⟨_, List.getElem?_eq_getElem (by omega)⟩
        obtain ⟨S1, G1⟩ := own0.stored (k * 2) (.bool (decide ((k0 + 2 * k) % 3 = 0)))
        have CM : Hid (∀ W, Calls Tryd.prog 82 #[.int .i64 (z + 1)] W fun e w' => e = .returned (.string (markS (k0 + 2 * k + 1))) ∧ Below W.heap.size W w') := fun W => by
          have := markTextI (z + 1) W (by omega) (by omega)
          rwa [show (z + 1).toNat = k0 + 2 * k + 1 by have := HZ.out; omega] at this
        have HS : Hid (((lcells (mkL k0 k ++ l.drop k)).set (k * 2) (.bool (decide ((k0 + 2 * k) % 3 = 0)))).set (k * 2 + 1) (.string (markS (k0 + 2 * k + 1))) = lcells (mkL k0 (k + 1) ++ l.drop (k + 1))) := by
          show _ = _
          rw [← mkL_set k0 l k hlt]
          exact lcells_set _ k (by rw [hml]; exact hlt) (mkX (k0 + 2 * k))
        have HS1 : Hid ((wr.setCell ⟨g, k * 2, none⟩ (.bool (decide ((k0 + 2 * k) % 3 = 0)))).ownsRow B 35 2 (.slice (some ⟨g, 0, none⟩) l.length cap) l.length ((lcells (mkL k0 k ++ l.drop k)).set (k * 2) (.bool (decide ((k0 + 2 * k) % 3 = 0))))) := S1
        have GG := grow_trans hgr G1
        clear own0 S1 G1 HO hgr
        generalize decide ((k0 + 2 * k) % 3 = 0) = D at *
        generalize markS (k0 + 2 * k + 1) = M at *
        go_wp2_with fail
        refine (CM.out _).mono ?_
        rintro e w1 ⟨rfl, b1⟩
        have own1 := own_below HS1.out b1
        have G2 := grow_below GG b1
        have hfz1 := own1.frozenAt (k * 2 + 1)
        obtain ⟨u1, hu1⟩ : ∃ u, w1.cell? ⟨g, k * 2 + 1, none⟩ = some u := by
          rw [own1.cellAt (k * 2 + 1) (by omega)]
          exact ⟨_, List.getElem?_eq_getElem (by rw [List.length_set]; omega)⟩
        obtain ⟨S3, G3⟩ := own1.stored (k * 2 + 1) (.string M)
        rw [HS.out] at S3
        have HO3 : Hid ((w1.setCell ⟨g, k * 2 + 1, none⟩ (.string M)).ownsRow B 35 2 (.slice (some ⟨g, 0, none⟩) l.length cap) l.length (lcells (mkL k0 (k + 1) ++ l.drop (k + 1)))) := S3
        have G4 := grow_trans G2 G3
        clear own1 S3 G3 G2 GG b1 HS1 CM hfz hu0 hll hml hm
        go_wp2_with fail
        go_roundw
        case rel => exact ⟨k + 1, _, by omega, by go_num, rfl, by omega, by omega, (by have := HZ.out; show _ = _; omega), HO3, G4⟩
        case measure => simp [intOf]; omega
      · have hki : ¬ (k : Int) < l.length := by omega
        have HE : Hid (k = l.length) := by show _ = _; omega
        have HO2 : Hid (wr.ownsRow B 35 2 (.slice (some ⟨g, 0, none⟩) l.length cap) l.length (lcells (mkL k0 l.length))) := by
          have := HO.out
          rwa [HE.out, List.drop_length, List.append_nil] at this
        have HZ2 : Hid (z = ((k0 + 2 * l.length : Nat) : Int)) := by
          have := HZ.out
          rwa [HE.out] at this
        clear HO HZ
        go_wp2_with fail
        go_ret
        exact ⟨ret_int (by have := HZ2.out; omega), HO2.out, hgr⟩
set_option maxHeartbeats 4000000 in
theorem heldLines (n : Nat) (v : Value) (k0 : Nat) (w : World) (hk0 : 0 < k0) (hn : k0 + 2 * n ≤ 1000000000) (h : LineRow w v (mkL k0 n)) :
    Calls Tryd.prog 66 #[v, .int .i64 (k0 : Int)] w fun e w' => e = .returned (.int .i64 ((k0 + 2 * n : Nat) : Int)) ∧ Below w.heap.size w w' := by
  rcases h with ⟨h0, ao, cap, rfl⟩ | ⟨h0, g, off, cap, rfl, hg, hc⟩
  · obtain rfl : n = 0 := by have := mkL_length k0 n; rw [h0] at this; simp at this; omega
    go_enter Tryd.func66, Tryd.ntmps66
    go_wp2
    refine wp_loop_rounds 1 ?_
    rw [rounds_succ]
    go_wp2
    go_ret
    exact ⟨rfl, Below.refl _ _⟩
  · rw [mkL_length] at h0 hc ⊢
    have HC : Hid (∀ i, i < n → w.cell? ⟨g, off + i * 2, none⟩ = some (.bool (decide ((k0 + 2 * i) % 3 = 0))) ∧ w.cell? ⟨g, off + i * 2 + 1, none⟩ = some (.string (markS (k0 + 2 * i + 1)))) := fun i hi => by
      have := hc i hi
      rwa [mkL_at k0 n hi] at this
    clear hc
    go_enter Tryd.func66, Tryd.ntmps66
    go_wp2
    go_loopw [1, 5] (fun a i wr => ∃ (k : Nat) (z : Int), k ≤ n ∧ i = .int .i64 k ∧ a = .int .i64 z ∧ 0 < z ∧ z ≤ 1000000000 ∧ Hid (z = ((k0 + 2 * k : Nat) : Int)) ∧ Below w.heap.size w wr) (fun _ i _ => n - (intOf i).toNat)
    case atStart => exact ⟨0, _, Nat.zero_le _, rfl, rfl, by omega, by omega, rfl, Below.refl _ _⟩
    case round =>
      obtain ⟨k, z, hk, rfl, rfl, hz0, hz1, HZ, hbel⟩ := hrel
      by_cases hlt : k < n
      · have hki : (k : Int) < n := by omega
        have hz2 : z + 2 ≤ 1000000000 := by have := HZ.out; omega
        have hm := mod3 HZ.out
        obtain ⟨c1, c2⟩ := HC.out k hlt
        have c1w := (hbel.cell (p := ⟨g, off + k * 2, none⟩) hg).trans c1
        have c2w := (hbel.cell (p := ⟨g, off + k * 2 + 1, none⟩) hg).trans c2
        have CM : Hid (∀ W, Calls Tryd.prog 82 #[.int .i64 (z + 1)] W fun e w' => e = .returned (.string (markS (k0 + 2 * k + 1))) ∧ Below W.heap.size W w') := fun W => by
          have := markTextI (z + 1) W (by omega) (by omega)
          rwa [show (z + 1).toNat = k0 + 2 * k + 1 by have := HZ.out; omega] at this
        have hgw : g < wr.heap.size := by have := hbel.size; omega
        clear c1 c2
        generalize decide ((k0 + 2 * k) % 3 = 0) = D at *
        generalize markS (k0 + 2 * k + 1) = M at *
        go_wp2_with fail
        go_region_with (go_at_call 82; refine (CM.out _).mono ?_; rintro e wc ⟨rfl, bc⟩; have cc := (bc.cell (p := ⟨g, off + k * 2 + 1, none⟩) hgw).trans c2w)
        all_goals
          have B1 := hbel.drew.trans (bc.mono hbel.size)
          clear bc CM
          go_wp2_with fail
          refine ⟨⟨k + 1, z + 2, by omega, by go_num, by go_num, by omega, by omega, (by have := HZ.out; show _ = _; omega), B1⟩, ?_⟩
          simp [intOf]
          omega
      · have hki : ¬ (k : Int) < n := by omega
        have HZ2 : Hid (z = ((k0 + 2 * n : Nat) : Int)) := by
          have := HZ.out
          rwa [show k = n by omega] at this
        clear HZ
        go_wp2_with fail
        go_ret
        exact ⟨ret_int (by have := HZ2.out; omega), hbel⟩
end Go.Proofs.YtjdnemjcjodboaaDoor
