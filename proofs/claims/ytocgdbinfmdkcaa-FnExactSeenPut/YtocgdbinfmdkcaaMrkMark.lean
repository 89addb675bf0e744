/- The laws' marks on marks that a call owns. -/
import Derived.Test.YtocgdbinfmdkcaaRows
import Derived.Test.YtocgdbinfmdkcaaEntRow
import Derived.Test.YtocgdbinfmdkcaaStrMarks
import Derived.Test.YtocgdbinfmdkcaaBlockAt
import Derived.Test.YtocgdbinfmdkcaaSumZ
import Derived.Handy
import Derived.Deep.DeepCutAuto
import Derived.Deep.RegionWith
namespace Go.Proofs.Ytocgdbinfmdkcaa
open Go.RowKit
set_option linter.unusedVariables false

def mkEX (k : Nat) : EV := ⟨((k + 1 : Nat) : Int), markS k⟩
def mkEL (k0 n : Nat) : List EV := (List.range n).map fun i => mkEX (k0 + 2 * i)
theorem mkEL_length (k0 n : Nat) : (mkEL k0 n).length = n := by simp [mkEL]
theorem mkEL_succ (k0 n : Nat) : mkEL k0 (n + 1) = mkEL k0 n ++ [mkEX (k0 + 2 * n)] := by simp [mkEL, List.range_succ]
theorem mkEL_at (k0 n : Nat) {i : Nat} (h : i < n) : (mkEL k0 n).getD i ev0 = mkEX (k0 + 2 * i) := by simp [mkEL, List.getD, h]
theorem mkEL_set (k0 : Nat) (l : List EV) (k : Nat) (h : k < l.length) : (mkEL k0 k ++ l.drop k).set k (mkEX (k0 + 2 * k)) = mkEL k0 (k + 1) ++ l.drop (k + 1) := by
  rw [List.set_append_right _ _ (by rw [mkEL_length]; exact Nat.le_refl _), mkEL_length, Nat.sub_self, mkEL_succ, List.drop_eq_getElem_cons h, List.set_cons_zero, List.append_assoc]
  rfl
theorem mixE_length (k0 : Nat) (l : List EV) (k : Nat) (h : k ≤ l.length) : (mkEL k0 k ++ l.drop k).length = l.length := by
  rw [List.length_append, mkEL_length, List.length_drop]; omega
set_option maxHeartbeats 4000000 in
theorem markMrks (l : List EV) (v : Value) (k0 B : Nat) (w : World) (hk0 : 0 < k0) (hn : k0 + 2 * l.length ≤ 1000000000) (h : w.ownsRow B 35 2 v l.length (ecells l)) :
    Calls Try.prog 50 #[v, .int .i64 (k0 : Int)] w fun e w' => e = .returned (.int .i64 ((k0 + 2 * l.length : Nat) : Int)) ∧ w'.ownsRow B 35 2 v l.length (ecells (mkEL k0 l.length)) ∧ w.grownBy w' v.ownBlock := by
  by_cases h0 : l.length = 0
  · obtain rfl : l = [] := List.eq_nil_of_length_eq_zero h0
    obtain ⟨ao, cap, rfl⟩ := (EntRow.of_own' h).slice
    have HO : Hid (w.ownsRow B 35 2 (.slice ao 0 cap) 0 (ecells (mkEL k0 0))) := h
    clear h
    go_enter Try.func50, Try.ntmps50
    go_wp2
    refine wp_loop_rounds 1 ?_
    rw [rounds_succ]
    go_wp2
    go_ret
    exact ⟨rfl, HO.out, World.grownBy.refl _ _⟩
  · obtain ⟨g, cap, rfl⟩ : ∃ g cap, v = .slice (some ⟨g, 0, none⟩) l.length cap := by
      rcases h.2 with ⟨_, h2⟩ | ⟨g, cap, cur, rfl, _⟩
      · exact absurd h2 h0
      · exact ⟨g, cap, rfl⟩
    go_enter Try.func50, Try.ntmps50
    go_wp2
    go_loopw [1, 5] (fun a i wr => ∃ (k : Nat) (z : Int), k ≤ l.length ∧ i = .int .i64 k ∧ a = .int .i64 z ∧ 0 < z ∧ z ≤ 1000000000 ∧ Hid (z = ((k0 + 2 * k : Nat) : Int)) ∧ Hid (wr.ownsRow B 35 2 (.slice (some ⟨g, 0, none⟩) l.length cap) l.length (ecells (mkEL k0 k ++ l.drop k))) ∧ w.grownBy wr (some g)) (fun _ i _ => l.length - (intOf i).toNat)
    case atStart => exact ⟨0, _, Nat.zero_le _, rfl, rfl, by omega, by omega, rfl, (by show World.ownsRow _ _ _ _ _ _ _; simpa [mkEL] using h), World.grownBy.refl _ _⟩
    case round =>
      obtain ⟨k, z, hk, rfl, rfl, hz0, hz1, HZ, HO, hgr⟩ := hrel
      clear h
      by_cases hlt : k < l.length
      · have hki : (k : Int) < l.length := by omega
        have hz2 : z + 2 ≤ 1000000000 := by have := HZ.out; omega
        have hml := mixE_length k0 l k hk
        have hll : (ecells (mkEL k0 k ++ l.drop k)).length = l.length * 2 := by rw [ecells_length, hml]
        have CM : Hid (∀ W, Calls Try.prog 69 #[.int .i64 z] W fun e w' => e = .returned (.string (markS (k0 + 2 * k))) ∧ Below W.heap.size W w') := fun W => by
          have := markTextI z W (by omega) (by omega)
          rwa [show z.toNat = k0 + 2 * k by have := HZ.out; omega] at this
        have HS : Hid (((ecells (mkEL k0 k ++ l.drop k)).set (k * 2) (.string (markS (k0 + 2 * k)))).set (k * 2 + 1) (.int .i64 (z + 1)) = ecells (mkEL k0 (k + 1) ++ l.drop (k + 1))) := by
          show _ = _
          rw [← mkEL_set k0 l k hlt, show z + 1 = (mkEX (k0 + 2 * k)).k by have := HZ.out; show z + 1 = ((k0 + 2 * k + 1 : Nat) : Int); omega]
          exact ecells_set _ k (by rw [hml]; exact hlt) (mkEX (k0 + 2 * k))
        generalize markS (k0 + 2 * k) = M at *
        go_wp2_with fail
        refine (CM.out _).mono ?_
        rintro e w1 ⟨rfl, b1⟩
        have own1 := own_below HO.out b1
        have G2 := grow_below hgr b1
        have hfz := own1.frozenAt (k * 2)
        have hfz1 := own1.frozenAt (k * 2 + 1)
        obtain ⟨u0, hu0⟩ : ∃ u, w1.cell? ⟨g, k * 2, none⟩ = some u := by
          rw [own1.cellAt (k * 2) (by omega)]
          exact ⟨_, List.getElem?_eq_getElem (by omega)⟩
        obtain ⟨u1, hu1⟩ : ∃ u, w1.cell? ⟨g, k * 2 + 1, none⟩ = some u := by
          rw [own1.cellAt (k * 2 + 1) (by omega)]
          exact ⟨_, List.getElem?_eq_getElem (by omega)⟩
        obtain ⟨S1, G1⟩ := own1.stored (k * 2) (.string M)
        obtain ⟨S3, G3⟩ := S1.stored (k * 2 + 1) (.int .i64 (z + 1))
        rw [HS.out] at S3
        have HO3 := hidM S3
        have G4 := grow_trans (grow_trans G2 G1) G3
        clear own1 S1 S3 G1 G3 G2 b1 CM HO hgr HS hll hml
        go_wp2_with fail
        go_roundw
        case rel => exact ⟨k + 1, z + 2, by omega, by go_num, by go_num, by omega, by omega, (by have := HZ.out; show _ = _; omega), HO3, G4⟩
        case measure => simp [intOf]; omega
      · have hki : ¬ (k : Int) < l.length := by omega
        have HE : Hid (k = l.length) := by show _ = _; omega
        have HO2 : Hid (wr.ownsRow B 35 2 (.slice (some ⟨g, 0, none⟩) l.length cap) l.length (ecells (mkEL k0 l.length))) := by
          have := HO.out
          rwa [HE.out, List.drop_length, List.append_nil] at this
        have HZ2 : Hid (z = ((k0 + 2 * l.length : Nat) : Int)) := by
          have := HZ.out
          rwa [HE.out] at this
        clear HO HZ
        go_wp2_with fail
        go_ret
        exact ⟨ret_int (by have := HZ2.out; omega), HO2.out, hgr⟩
set_option maxHeartbeats 4000000 in
theorem heldMrks (n : Nat) (v : Value) (k0 : Nat) (w : World) (hk0 : 0 < k0) (hn : k0 + 2 * n ≤ 1000000000) (h : EntRow w v (mkEL k0 n)) :
    Calls Try.prog 52 #[v, .int .i64 (k0 : Int)] w fun e w' => e = .returned (.int .i64 ((k0 + 2 * n : Nat) : Int)) ∧ Below w.heap.size w w' := by
  rcases h with ⟨h0, ao, cap, rfl⟩ | ⟨h0, g, off, cap, rfl, hg, hc⟩
  · obtain rfl : n = 0 := by have := mkEL_length k0 n; rw [h0] at this; simp at this; omega
    go_enter Try.func52, Try.ntmps52
    go_wp2
    refine wp_loop_rounds 1 ?_
    rw [rounds_succ]
    go_wp2
    go_ret
    exact ⟨rfl, Below.refl _ _⟩
  · rw [mkEL_length] at h0 hc ⊢
    have HC : Hid (∀ i, i < n → w.cell? ⟨g, off + i * 2, none⟩ = some (.string (markS (k0 + 2 * i))) ∧ w.cell? ⟨g, off + i * 2 + 1, none⟩ = some (.int .i64 ((k0 + 2 * i + 1 : Nat) : Int))) := fun i hi => by
      have := hc i hi
      rwa [mkEL_at k0 n hi] at this
    clear hc
    go_enter Try.func52, Try.ntmps52
    go_wp2
    go_loopw [1, 5] (fun a i wr => ∃ (k : Nat) (z : Int), k ≤ n ∧ i = .int .i64 k ∧ a = .int .i64 z ∧ 0 < z ∧ z ≤ 1000000000 ∧ Hid (z = ((k0 + 2 * k : Nat) : Int)) ∧ Below w.heap.size w wr) (fun _ i _ => n - (intOf i).toNat)
    case atStart => exact ⟨0, _, Nat.zero_le _, rfl, rfl, by omega, by omega, rfl, Below.refl _ _⟩
    case round =>
      obtain ⟨k, z, hk, rfl, rfl, hz0, hz1, HZ, hbel⟩ := hrel
      by_cases hlt : k < n
      · have hki : (k : Int) < n := by omega
        have hz2 : z + 2 ≤ 1000000000 := by have := HZ.out; omega
        obtain ⟨c1, c2⟩ := HC.out k hlt
        have c1w := (hbel.cell (p := ⟨g, off + k * 2, none⟩) hg).trans c1
        have c2w := (hbel.cell (p := ⟨g, off + k * 2 + 1, none⟩) hg).trans c2
        rw [show ((k0 + 2 * k + 1 : Nat) : Int) = z + 1 by have := HZ.out; omega] at c2w
        have CM : Hid (∀ W, Calls Try.prog 69 #[.int .i64 z] W fun e w' => e = .returned (.string (markS (k0 + 2 * k))) ∧ Below W.heap.size W w') := fun W => by
          have := markTextI z W (by omega) (by omega)
          rwa [show z.toNat = k0 + 2 * k by have := HZ.out; omega] at this
        have hgw : g < wr.heap.size := by have := hbel.size; omega
        clear c1 c2
        generalize markS (k0 + 2 * k) = M at *
        go_wp2_with fail
        go_region_with (go_at_call 69; refine (CM.out _).mono ?_; rintro e wc ⟨rfl, bc⟩; have cc := (bc.cell (p := ⟨g, off + k * 2, none⟩) hgw).trans c1w)
        all_goals
          have B1 := hbel.drew.trans (bc.mono hbel.size)
          have cd := (bc.cell (p := ⟨g, off + k * 2 + 1, none⟩) hgw).trans c2w
          clear bc CM
          go_wp2_with fail
          refine ⟨⟨k + 1, z + 2, by omega, by go_num, by go_num, by omega, by omega, (by have := HZ.out; show _ = _; omega), B1⟩, ?_⟩
          simp [intOf]
          omega
      · have hki : ¬ (k : Int) < n := by omega
        have HZ2 : Hid (z = ((k0 + 2 * n : Nat) : Int)) := by
          have := HZ.out
          rwa [show k = n by omega] at this
        clear HZ
        go_wp2_with fail
        go_ret
        exact ⟨ret_int (by have := HZ2.out; omega), hbel⟩
end Go.Proofs.Ytocgdbinfmdkcaa
