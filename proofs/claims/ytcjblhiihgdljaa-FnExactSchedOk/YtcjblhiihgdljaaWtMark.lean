/- The laws' marks on Waitings that a call owns. -/
import Derived.Test.YtcjblhiihgdljaaRows
import Derived.Test.YtcjblhiihgdljaaWtRow
import Derived.Test.YtcjblhiihgdljaaStrMarks
import Derived.Test.YtcjblhiihgdljaaBlockAt
import Derived.Handy
import Derived.Deep.DeepCutAuto
import Derived.Deep.RegionWith
namespace Go.Proofs.Ytcjblhiihgdljaa
open Go.RowKit
set_option linter.unusedVariables false

def mkWtX (k : Nat) : WtV := ⟨markS k, ((k + 1 : Nat) : Int), ((k + 2 : Nat) : Int)⟩
def mkWtL (k0 n : Nat) : List WtV := (List.range n).map fun i => mkWtX (k0 + 3 * i)
theorem mkWtL_length (k0 n : Nat) : (mkWtL k0 n).length = n := by simp [mkWtL]
theorem mkWtL_succ (k0 n : Nat) : mkWtL k0 (n + 1) = mkWtL k0 n ++ [mkWtX (k0 + 3 * n)] := by simp [mkWtL, List.range_succ]
theorem mkWtL_at (k0 n : Nat) {i : Nat} (h : i < n) : (mkWtL k0 n).getD i wtv0 = mkWtX (k0 + 3 * i) := by simp [mkWtL, List.getD, h]
theorem mkWtL_set (k0 : Nat) (l : List WtV) (k : Nat) (h : k < l.length) : (mkWtL k0 k ++ l.drop k).set k (mkWtX (k0 + 3 * k)) = mkWtL k0 (k + 1) ++ l.drop (k + 1) := by
  rw [List.set_append_right _ _ (by rw [mkWtL_length]; exact Nat.le_refl _), mkWtL_length, Nat.sub_self, mkWtL_succ, List.drop_eq_getElem_cons h, List.set_cons_zero, List.append_assoc]
  rfl
theorem mixWt_length (k0 : Nat) (l : List WtV) (k : Nat) (h : k ≤ l.length) : (mkWtL k0 k ++ l.drop k).length = l.length := by
  rw [List.length_append, mkWtL_length, List.length_drop]; omega
set_option maxHeartbeats 4000000 in
theorem markWts (l : List WtV) (v : Value) (k0 B : Nat) (w : World) (hk0 : 0 < k0) (hn : k0 + 3 * l.length ≤ 1000000000) (h : w.ownsRow B 48 3 v l.length (wtcells l)) :
    Calls Try.prog 62 #[v, .int .i64 (k0 : Int)] w fun e w' => e = .returned (.int .i64 ((k0 + 3 * l.length : Nat) : Int)) ∧ w'.ownsRow B 48 3 v l.length (wtcells (mkWtL k0 l.length)) ∧ w.grownBy w' v.ownBlock := by
  by_cases h0 : l.length = 0
  · obtain rfl : l = [] := List.eq_nil_of_length_eq_zero h0
    obtain ⟨ao, cap, rfl⟩ := (WtRow.of_own h).slice
    have HO : Hid (w.ownsRow B 48 3 (.slice ao 0 cap) 0 (wtcells (mkWtL k0 0))) := h
    clear h
    go_enter Try.func62, Try.ntmps62
    go_wp2
    refine wp_loop_rounds 1 ?_
    rw [rounds_succ]
    go_wp2
    go_ret
    exact ⟨rfl, HO.out, World.grownBy.refl _ _⟩
  · obtain ⟨g, cap, rfl⟩ : ∃ g cap, v = .slice (some ⟨g, 0, none⟩) l.length cap := by
      rcases h.2 with ⟨_, h2⟩ | ⟨g, cap, cur, rfl, _⟩
      · exact absurd h2 h0
      · exact ⟨g, cap, rfl⟩
    go_enter Try.func62, Try.ntmps62
    go_wp2
    go_loopw [1, 5] (fun a i wr => ∃ (k : Nat) (z : Int), k ≤ l.length ∧ i = .int .i64 k ∧ a = .int .i64 z ∧ 0 < z ∧ z ≤ 1000000000 ∧ Hid (z = ((k0 + 3 * k : Nat) : Int)) ∧ Hid (wr.ownsRow B 48 3 (.slice (some ⟨g, 0, none⟩) l.length cap) l.length (wtcells (mkWtL k0 k ++ l.drop k))) ∧ w.grownBy wr (some g)) (fun _ i _ => l.length - (intOf i).toNat)
    case atStart => exact ⟨0, _, Nat.zero_le _, rfl, rfl, by omega, by omega, rfl, (by show World.ownsRow _ _ _ _ _ _ _; simpa [mkWtL] using h), World.grownBy.refl _ _⟩
    case round =>
      obtain ⟨k, z, hk, rfl, rfl, hz0, hz1, HZ, HO, hgr⟩ := hrel
      clear h
      by_cases hlt : k < l.length
      · have hki : (k : Int) < l.length := by omega
        have hz2 : z + 3 ≤ 1000000000 := by have := HZ.out; omega
        have hml := mixWt_length k0 l k hk
        have hll : (wtcells (mkWtL k0 k ++ l.drop k)).length = l.length * 3 := by rw [wtcells_length, hml]
        obtain ⟨M0, hM0⟩ : ∃ M, markS (k0 + 3 * k) = M := ⟨_, rfl⟩
        have CM0 : Hid (∀ W, Calls Try.prog 61 #[.int .i64 z] W fun e w' => e = .returned (.string M0) ∧ Below W.heap.size W w') := fun W => by
          have := markTextI z W (by omega) (by omega)
          rwa [show z.toNat = k0 + 3 * k by have := HZ.out; omega, hM0] at this
        have HS : Hid (((((wtcells (mkWtL k0 k ++ l.drop k)).set (k * 3) (.string M0)).set (k * 3 + 1) (.int .i64 (z + 1))).set (k * 3 + 2) (.int .i64 (z + 1 + 1))) = wtcells (mkWtL k0 (k + 1) ++ l.drop (k + 1))) := by
          show _ = _
          rw [← mkWtL_set k0 l k hlt, ← setWt_set _ k (by rw [hml]; exact hlt) (mkWtX (k0 + 3 * k)), ← hM0]
          unfold setWt mkWtX
          dsimp only
          rw [show ((k0 + 3 * k + 1 : Nat) : Int) = z + 1 by have := HZ.out; omega, show ((k0 + 3 * k + 2 : Nat) : Int) = z + 1 + 1 by have := HZ.out; omega]
        clear hM0
        generalize wtcells (mkWtL k0 k ++ l.drop k) = XS at *
        go_wp2_with fail
        refine (CM0.out _).mono ?_
        rintro e w1 ⟨rfl, b1⟩
        have own1 := own_below HO.out b1
        have G1 := grow_below hgr b1
        have hfz0 := own1.frozenAt (k * 3)
        have hfz1 := own1.frozenAt (k * 3 + 1)
        have hfz2 := own1.frozenAt (k * 3 + 2)
        obtain ⟨⟨u0, hu0⟩, ⟨u1, hu1⟩, ⟨u2, hu2⟩⟩ := own_wt own1 k hlt
        obtain ⟨S0, H0⟩ := own1.stored (k * 3) (.string M0)
        obtain ⟨S1, H1⟩ := S0.stored (k * 3 + 1) (.int .i64 (z + 1))
        obtain ⟨S2, H2⟩ := S1.stored (k * 3 + 2) (.int .i64 (z + 1 + 1))
        have GG0 := (grow_trans (grow_trans (grow_trans G1 H0) H1) H2)
        rw [HS.out] at S2
        have HO9 : Hid ((((w1.setCell ⟨g, k * 3, none⟩ (.string M0)).setCell ⟨g, k * 3 + 1, none⟩ (.int .i64 (z + 1))).setCell ⟨g, k * 3 + 2, none⟩ (.int .i64 (z + 1 + 1))).ownsRow B 48 3 (.slice (some ⟨g, 0, none⟩) l.length cap) l.length (wtcells (mkWtL k0 (k + 1) ++ l.drop (k + 1)))) := S2
        clear own1 G1 b1 CM0 hgr HO S0 H0 S1 H1 S2 H2 HS
        go_wp2_with fail
        go_roundw
        case rel => exact ⟨k + 1, _, by omega, by go_num, rfl, by omega, by omega, (by have := HZ.out; show _ = _; omega), HO9, GG0⟩
        case measure => simp [intOf]; omega
      · have hki : ¬ (k : Int) < l.length := by omega
        have HE : Hid (k = l.length) := by show _ = _; omega
        have HO2 : Hid (wr.ownsRow B 48 3 (.slice (some ⟨g, 0, none⟩) l.length cap) l.length (wtcells (mkWtL k0 l.length))) := by
          have := HO.out
          rwa [HE.out, List.drop_length, List.append_nil] at this
        have HZ2 : Hid (z = ((k0 + 3 * l.length : Nat) : Int)) := by
          have := HZ.out
          rwa [HE.out] at this
        clear HO HZ
        go_wp2_with fail
        go_ret
        exact ⟨ret_int (by have := HZ2.out; omega), HO2.out, hgr⟩
set_option maxHeartbeats 4000000 in
theorem heldWts (n : Nat) (v : Value) (k0 : Nat) (w : World) (hk0 : 0 < k0) (hn : k0 + 3 * n ≤ 1000000000) (h : WtRow w v (mkWtL k0 n)) :
    Calls Try.prog 63 #[v, .int .i64 (k0 : Int)] w fun e w' => e = .returned (.int .i64 ((k0 + 3 * n : Nat) : Int)) ∧ Below w.heap.size w w' := by
  rcases h with ⟨h0, ao, cap, rfl⟩ | ⟨h0, g, off, cap, rfl, hg, hc⟩
  · obtain rfl : n = 0 := by have := mkWtL_length k0 n; rw [h0] at this; simp at this; omega
    go_enter Try.func63, Try.ntmps63
    go_wp2
    refine wp_loop_rounds 1 ?_
    rw [rounds_succ]
    go_wp2
    go_ret
    exact ⟨rfl, Below.refl _ _⟩
  · rw [mkWtL_length] at h0 hc ⊢
    have HC : Hid (∀ i, i < n → WtAt w g (off + i * 3) (mkWtX (k0 + 3 * i))) := fun i hi => by
      have := hc i hi
      rwa [mkWtL_at k0 n hi] at this
    clear hc
    go_enter Try.func63, Try.ntmps63
    go_wp2
    go_loopw [1, 5] (fun a i wr => ∃ (k : Nat) (z : Int), k ≤ n ∧ i = .int .i64 k ∧ a = .int .i64 z ∧ 0 < z ∧ z ≤ 1000000000 ∧ Hid (z = ((k0 + 3 * k : Nat) : Int)) ∧ Below w.heap.size w wr) (fun _ i _ => n - (intOf i).toNat)
    case atStart => exact ⟨0, _, Nat.zero_le _, rfl, rfl, by omega, by omega, rfl, Below.refl _ _⟩
    case round =>
      obtain ⟨k, z, hk, rfl, rfl, hz0, hz1, HZ, hbel⟩ := hrel
      by_cases hlt : k < n
      · have hki : (k : Int) < n := by omega
        have hz2 : z + 3 ≤ 1000000000 := by have := HZ.out; omega
        obtain ⟨M0, hM0⟩ : ∃ M, markS (k0 + 3 * k) = M := ⟨_, rfl⟩
        have CM0 : Hid (∀ W, Calls Try.prog 61 #[.int .i64 z] W fun e w' => e = .returned (.string M0) ∧ Below W.heap.size W w') := fun W => by
          have := markTextI z W (by omega) (by omega)
          rwa [show z.toNat = k0 + 3 * k by have := HZ.out; omega, hM0] at this
        have hA : WtAt wr g (off + k * 3) ⟨M0, z + 1, z + 1 + 1⟩ := by
          have h1 := (HC.out k hlt).below hbel hg
          have e : mkWtX (k0 + 3 * k) = ⟨M0, z + 1, z + 1 + 1⟩ := by
            unfold mkWtX
            rw [hM0, show ((k0 + 3 * k + 1 : Nat) : Int) = z + 1 by have := HZ.out; omega, show ((k0 + 3 * k + 2 : Nat) : Int) = z + 1 + 1 by have := HZ.out; omega]
          rwa [e] at h1
        have HA : Hid (WtAt wr g (off + k * 3) ⟨M0, z + 1, z + 1 + 1⟩) := hA
        obtain ⟨c0, c1, c2⟩ := hA
        dsimp only at c0 c1 c2
        have hgw : g < wr.heap.size := by have := hbel.size; omega
        clear hM0
        go_wp2_with fail
        go_region_with (go_at_call 61; refine (CM0.out _).mono ?_; rintro e wc ⟨rfl, bwc⟩; have cc := (bwc.cell (p := ⟨g, off + k * 3, none⟩) hgw).trans c0)
        all_goals
          have B1 := hbel.drew.trans (bwc.mono hbel.size)
          have HA1 : Hid (WtAt wc g (off + k * 3) ⟨M0, z + 1, z + 1 + 1⟩) := HA.out.below (w := wr.drew) (w' := wc) (m := wr.heap.size) bwc hgw
          obtain ⟨d0, d1, d2⟩ := HA1.out
          dsimp only at d0 d1 d2
          have hgwc : g < wc.heap.size := by have := B1.size; omega
          clear bwc CM0 c0 c1 c2 hbel HA cc
          go_wp2_with fail
          refine ⟨⟨k + 1, z + 3, by omega, by go_num, by go_num, by omega, by omega, (by have := HZ.out; show _ = _; omega), B1⟩, ?_⟩
          simp [intOf]
          omega
      · have hki : ¬ (k : Int) < n := by omega
        have HZ2 : Hid (z = ((k0 + 3 * n : Nat) : Int)) := by
          have := HZ.out
          rwa [show k = n by omega] at this
        clear HZ
        go_wp2_with fail
        go_ret
        exact ⟨ret_int (by have := HZ2.out; omega), hbel⟩
end Go.Proofs.Ytcjblhiihgdljaa
