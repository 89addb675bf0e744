/- The laws' marks on Leases that a call owns. -/
import Derived.Test.YtcjblhiihgdljaaRows
import Derived.Test.YtcjblhiihgdljaaLsRow
import Derived.Test.YtcjblhiihgdljaaStrMarks
import Derived.Test.YtcjblhiihgdljaaBlockAt
import Derived.Handy
import Derived.Deep.DeepCutAuto
import Derived.Deep.RegionWith
namespace Go.Proofs.Ytcjblhiihgdljaa
open Go.RowKit
set_option linter.unusedVariables false

def mkLsX (k : Nat) : LsV := ⟨markS k, markS (k + 1), ((k + 2 : Nat) : Int), ((k + 3 : Nat) : Int)⟩
def mkLsL (k0 n : Nat) : List LsV := (List.range n).map fun i => mkLsX (k0 + 4 * i)
theorem mkLsL_length (k0 n : Nat) : (mkLsL k0 n).length = n := by simp [mkLsL]
theorem mkLsL_succ (k0 n : Nat) : mkLsL k0 (n + 1) = mkLsL k0 n ++ [mkLsX (k0 + 4 * n)] := by simp [mkLsL, List.range_succ]
theorem mkLsL_at (k0 n : Nat) {i : Nat} (h : i < n) : (mkLsL k0 n).getD i lsv0 = mkLsX (k0 + 4 * i) := by simp [mkLsL, List.getD, h]
theorem mkLsL_set (k0 : Nat) (l : List LsV) (k : Nat) (h : k < l.length) : (mkLsL k0 k ++ l.drop k).set k (mkLsX (k0 + 4 * k)) = mkLsL k0 (k + 1) ++ l.drop (k + 1) := by
  rw [List.set_append_right _ _ (by rw [mkLsL_length]; exact Nat.le_refl _), mkLsL_length, Nat.sub_self, mkLsL_succ, List.drop_eq_getElem_cons h, List.set_cons_zero, List.append_assoc]
  rfl
theorem mixLs_length (k0 : Nat) (l : List LsV) (k : Nat) (h : k ≤ l.length) : (mkLsL k0 k ++ l.drop k).length = l.length := by
  rw [List.length_append, mkLsL_length, List.length_drop]; omega
set_option maxHeartbeats 4000000 in
theorem markLss (l : List LsV) (v : Value) (k0 B : Nat) (w : World) (hk0 : 0 < k0) (hn : k0 + 4 * l.length ≤ 1000000000) (h : w.ownsRow B 70 4 v l.length (lscells l)) :
    Calls Try.prog 37 #[v, .int .i64 (k0 : Int)] w fun e w' => e = .returned (.int .i64 ((k0 + 4 * l.length : Nat) : Int)) ∧ w'.ownsRow B 70 4 v l.length (lscells (mkLsL k0 l.length)) ∧ w.grownBy w' v.ownBlock := by
  by_cases h0 : l.length = 0
  · obtain rfl : l = [] := List.eq_nil_of_length_eq_zero h0
    obtain ⟨ao, cap, rfl⟩ := (LsRow.of_own h).slice
    have HO : Hid (w.ownsRow B 70 4 (.slice ao 0 cap) 0 (lscells (mkLsL k0 0))) := h
    clear h
    go_enter Try.func37, Try.ntmps37
    go_wp2
    refine wp_loop_rounds 1 ?_
    rw [rounds_succ]
    go_wp2
    go_ret
    exact ⟨rfl, HO.out, World.grownBy.refl _ _⟩
  · obtain ⟨g, cap, rfl⟩ : ∃ g cap, v = .slice (some ⟨g, 0, none⟩) l.length cap := by
      rcases h.2 with ⟨_, h2⟩ | ⟨g, cap, cur, rfl, _⟩
      · exact absurd h2 h0
      · exact ⟨g, cap, rfl⟩
    go_enter Try.func37, Try.ntmps37
    go_wp2
    go_loopw [1, 5] (fun a i wr => ∃ (k : Nat) (z : Int), k ≤ l.length ∧ i = .int .i64 k ∧ a = .int .i64 z ∧ 0 < z ∧ z ≤ 1000000000 ∧ Hid (z = ((k0 + 4 * k : Nat) : Int)) ∧ Hid (wr.ownsRow B 70 4 (.slice (some ⟨g, 0, none⟩) l.length cap) l.length (lscells (mkLsL k0 k ++ l.drop k))) ∧ w.grownBy wr (some g)) (fun _ i _ => l.length - (intOf i).toNat)
    case atStart => exact ⟨0, _, Nat.zero_le _, rfl, rfl, by omega, by omega, rfl, (by show World.ownsRow _ _ _ _ _ _ _; simpa [mkLsL] using h), World.grownBy.refl _ _⟩
    case round =>
      obtain ⟨k, z, hk, rfl, rfl, hz0, hz1, HZ, HO, hgr⟩ := hrel
      clear h
      by_cases hlt : k < l.length
      · have hki : (k : Int) < l.length := by omega
        have hz2 : z + 4 ≤ 1000000000 := by have := HZ.out; omega
        have hml := mixLs_length k0 l k hk
        have hll : (lscells (mkLsL k0 k ++ l.drop k)).length = l.length * 4 := by rw [lscells_length, hml]
        obtain ⟨M0, hM0⟩ : ∃ M, markS (k0 + 4 * k) = M := ⟨_, rfl⟩
        obtain ⟨M1, hM1⟩ : ∃ M, markS (k0 + 4 * k + 1) = M := ⟨_, rfl⟩
        have CM0 : Hid (∀ W, Calls Try.prog 61 #[.int .i64 z] W fun e w' => e = .returned (.string M0) ∧ Below W.heap.size W w') := fun W => by
          have := markTextI z W (by omega) (by omega)
          rwa [show z.toNat = k0 + 4 * k by have := HZ.out; omega, hM0] at this
        have CM1 : Hid (∀ W, Calls Try.prog 61 #[.int .i64 (z + 1)] W fun e w' => e = .returned (.string M1) ∧ Below W.heap.size W w') := fun W => by
          have := markTextI (z + 1) W (by omega) (by omega)
          rwa [show (z + 1).toNat = k0 + 4 * k + 1 by have := HZ.out; omega, hM1] at this
        have HS : Hid ((((((lscells (mkLsL k0 k ++ l.drop k)).set (k * 4) (.string M0)).set (k * 4 + 1) (.string M1)).set (k * 4 + 2) (.int .i64 (z + 1 + 1))).set (k * 4 + 3) (.int .i64 (z + 1 + 1 + 1))) = lscells (mkLsL k0 (k + 1) ++ l.drop (k + 1))) := by
          show _ = _
          rw [← mkLsL_set k0 l k hlt, ← setLs_set _ k (by rw [hml]; exact hlt) (mkLsX (k0 + 4 * k)), ← hM0, ← hM1]
          unfold setLs mkLsX
          dsimp only
          rw [show ((k0 + 4 * k + 2 : Nat) : Int) = z + 1 + 1 by have := HZ.out; omega, show ((k0 + 4 * k + 3 : Nat) : Int) = z + 1 + 1 + 1 by have := HZ.out; omega]
        clear hM0 hM1
        generalize lscells (mkLsL k0 k ++ l.drop k) = XS at *
        go_wp2_with fail
        refine (CM0.out _).mono ?_
        rintro e w1 ⟨rfl, b1⟩
        have own1 := own_below HO.out b1
        have G1 := grow_below hgr b1
        have hfz0 := own1.frozenAt (k * 4)
        obtain ⟨⟨u0, hu0⟩, _, _, _⟩ := own_ls own1 k hlt
        obtain ⟨S0, H0⟩ := own1.stored (k * 4) (.string M0)
        have GG0 := (grow_trans G1 H0)
        have HQ0 : Hid ((w1.setCell ⟨g, k * 4, none⟩ (.string M0)).ownsRow B 70 4 (.slice (some ⟨g, 0, none⟩) l.length cap) l.length (XS.set (k * 4) (.string M0))) := S0
        clear own1 G1 b1 CM0 hgr HO S0 H0
        go_wp2_with fail
        refine (CM1.out _).mono ?_
        rintro e w2 ⟨rfl, b2⟩
        have own2 := own_below HQ0.out b2
        have G11 := grow_below GG0 b2
        have hfz1 := own2.frozenAt (k * 4 + 1)
        have hfz2 := own2.frozenAt (k * 4 + 2)
        have hfz3 := own2.frozenAt (k * 4 + 3)
        obtain ⟨_, ⟨u1, hu1⟩, ⟨u2, hu2⟩, ⟨u3, hu3⟩⟩ := own_ls own2 k hlt
        obtain ⟨S1, H1⟩ := own2.stored (k * 4 + 1) (.string M1)
        obtain ⟨S2, H2⟩ := S1.stored (k * 4 + 2) (.int .i64 (z + 1 + 1))
        obtain ⟨S3, H3⟩ := S2.stored (k * 4 + 3) (.int .i64 (z + 1 + 1 + 1))
        have GG1 := (grow_trans (grow_trans (grow_trans G11 H1) H2) H3)
        rw [HS.out] at S3
        have HO9 : Hid ((((w2.setCell ⟨g, k * 4 + 1, none⟩ (.string M1)).setCell ⟨g, k * 4 + 2, none⟩ (.int .i64 (z + 1 + 1))).setCell ⟨g, k * 4 + 3, none⟩ (.int .i64 (z + 1 + 1 + 1))).ownsRow B 70 4 (.slice (some ⟨g, 0, none⟩) l.length cap) l.length (lscells (mkLsL k0 (k + 1) ++ l.drop (k + 1)))) := S3
        clear own2 G11 b2 CM1 GG0 HQ0 S1 H1 S2 H2 S3 H3 HS
        go_wp2_with fail
        go_roundw
        case rel => exact ⟨k + 1, _, by omega, by go_num, rfl, by omega, by omega, (by have := HZ.out; show _ = _; omega), HO9, GG1⟩
        case measure => simp [intOf]; omega
      · have hki : ¬ (k : Int) < l.length := by omega
        have HE : Hid (k = l.length) := by show _ = _; omega
        have HO2 : Hid (wr.ownsRow B 70 4 (.slice (some ⟨g, 0, none⟩) l.length cap) l.length (lscells (mkLsL k0 l.length))) := by
          have := HO.out
          rwa [HE.out, List.drop_length, List.append_nil] at this
        have HZ2 : Hid (z = ((k0 + 4 * l.length : Nat) : Int)) := by
          have := HZ.out
          rwa [HE.out] at this
        clear HO HZ
        go_wp2_with fail
        go_ret
        exact ⟨ret_int (by have := HZ2.out; omega), HO2.out, hgr⟩
set_option maxHeartbeats 4000000 in
theorem heldLss (n : Nat) (v : Value) (k0 : Nat) (w : World) (hk0 : 0 < k0) (hn : k0 + 4 * n ≤ 1000000000) (h : LsRow w v (mkLsL k0 n)) :
    Calls Try.prog 39 #[v, .int .i64 (k0 : Int)] w fun e w' => e = .returned (.int .i64 ((k0 + 4 * n : Nat) : Int)) ∧ Below w.heap.size w w' := by
  rcases h with ⟨h0, ao, cap, rfl⟩ | ⟨h0, g, off, cap, rfl, hg, hc⟩
  · obtain rfl : n = 0 := by have := mkLsL_length k0 n; rw [h0] at this; simp at this; omega
    go_enter Try.func39, Try.ntmps39
    go_wp2
    refine wp_loop_rounds 1 ?_
    rw [rounds_succ]
    go_wp2
    go_ret
    exact ⟨rfl, Below.refl _ _⟩
  · rw [mkLsL_length] at h0 hc ⊢
    have HC : Hid (∀ i, i < n → LsAt w g (off + i * 4) (mkLsX (k0 + 4 * i))) := fun i hi => by
      have := hc i hi
      rwa [mkLsL_at k0 n hi] at this
    clear hc
    go_enter Try.func39, Try.ntmps39
    go_wp2
    go_loopw [1, 5] (fun a i wr => ∃ (k : Nat) (z : Int), k ≤ n ∧ i = .int .i64 k ∧ a = .int .i64 z ∧ 0 < z ∧ z ≤ 1000000000 ∧ Hid (z = ((k0 + 4 * k : Nat) : Int)) ∧ Below w.heap.size w wr) (fun _ i _ => n - (intOf i).toNat)
    case atStart => exact ⟨0, _, Nat.zero_le _, rfl, rfl, by omega, by omega, rfl, Below.refl _ _⟩
    case round =>
      obtain ⟨k, z, hk, rfl, rfl, hz0, hz1, HZ, hbel⟩ := hrel
      by_cases hlt : k < n
      · have hki : (k : Int) < n := by omega
        have hz2 : z + 4 ≤ 1000000000 := by have := HZ.out; omega
        obtain ⟨M0, hM0⟩ : ∃ M, markS (k0 + 4 * k) = M := ⟨_, rfl⟩
        obtain ⟨M1, hM1⟩ : ∃ M, markS (k0 + 4 * k + 1) = M := ⟨_, rfl⟩
        have CM0 : Hid (∀ W, Calls Try.prog 61 #[.int .i64 z] W fun e w' => e = .returned (.string M0) ∧ Below W.heap.size W w') := fun W => by
          have := markTextI z W (by omega) (by omega)
          rwa [show z.toNat = k0 + 4 * k by have := HZ.out; omega, hM0] at this
        have CM1 : Hid (∀ W, Calls Try.prog 61 #[.int .i64 (z + 1)] W fun e w' => e = .returned (.string M1) ∧ Below W.heap.size W w') := fun W => by
          have := markTextI (z + 1) W (by omega) (by omega)
          rwa [show (z + 1).toNat = k0 + 4 * k + 1 by have := HZ.out; omega, hM1] at this
        have hA : LsAt wr g (off + k * 4) ⟨M0, M1, z + 1 + 1, z + 1 + 1 + 1⟩ := by
          have h1 := (HC.out k hlt).below hbel hg
          have e : mkLsX (k0 + 4 * k) = ⟨M0, M1, z + 1 + 1, z + 1 + 1 + 1⟩ := by
            unfold mkLsX
            rw [hM0, hM1, show ((k0 + 4 * k + 2 : Nat) : Int) = z + 1 + 1 by have := HZ.out; omega, show ((k0 + 4 * k + 3 : Nat) : Int) = z + 1 + 1 + 1 by have := HZ.out; omega]
          rwa [e] at h1
        have HA : Hid (LsAt wr g (off + k * 4) ⟨M0, M1, z + 1 + 1, z + 1 + 1 + 1⟩) := hA
        obtain ⟨c0, c1, c2, c3⟩ := hA
        dsimp only at c0 c1 c2 c3
        have hgw : g < wr.heap.size := by have := hbel.size; omega
        clear hM0 hM1
        go_wp2_with fail
        go_region_with (go_at_call 61; refine (CM0.out _).mono ?_; rintro e wc ⟨rfl, bwc⟩; have cc := (bwc.cell (p := ⟨g, off + k * 4, none⟩) hgw).trans c0)
        all_goals
          have B1 := hbel.drew.trans (bwc.mono hbel.size)
          have HA1 : Hid (LsAt wc g (off + k * 4) ⟨M0, M1, z + 1 + 1, z + 1 + 1 + 1⟩) := HA.out.below (w := wr.drew) (w' := wc) (m := wr.heap.size) bwc hgw
          obtain ⟨d0, d1, d2, d3⟩ := HA1.out
          dsimp only at d0 d1 d2 d3
          have hgwc : g < wc.heap.size := by have := B1.size; omega
          clear bwc CM0 c0 c1 c2 c3 hbel HA cc
          go_wp2_with fail
          go_region_with (go_at_call 61; refine (CM1.out _).mono ?_; rintro e wd ⟨rfl, bwd⟩; have cc := (bwd.cell (p := ⟨g, off + k * 4 + 1, none⟩) hgwc).trans d1)
          all_goals
            have B2 := B1.drew.trans (bwd.mono B1.size)
            have HA2 : Hid (LsAt wd g (off + k * 4) ⟨M0, M1, z + 1 + 1, z + 1 + 1 + 1⟩) := HA1.out.below (w := wc.drew) (w' := wd) (m := wc.heap.size) bwd hgwc
            obtain ⟨e0, e1, e2, e3⟩ := HA2.out
            dsimp only at e0 e1 e2 e3
            have hgwd : g < wd.heap.size := by have := B2.size; omega
            clear bwd CM1 d0 d1 d2 d3 B1 HA1 cc
            go_wp2_with fail
            refine ⟨⟨k + 1, z + 4, by omega, by go_num, by go_num, by omega, by omega, (by have := HZ.out; show _ = _; omega), B2⟩, ?_⟩
            simp [intOf]
            omega
      · have hki : ¬ (k : Int) < n := by omega
        have HZ2 : Hid (z = ((k0 + 4 * n : Nat) : Int)) := by
          have := HZ.out
          rwa [show k = n by omega] at this
        clear HZ
        go_wp2_with fail
        go_ret
        exact ⟨ret_int (by have := HZ2.out; omega), hbel⟩
end Go.Proofs.Ytcjblhiihgdljaa
