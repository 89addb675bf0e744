/- The laws' marks on acts that a call owns. -/
import Derived.Test.YtfigkoapebdlfaaRows
import Derived.Test.YtfigkoapebdlfaaActRow
import Derived.Test.YtfigkoapebdlfaaStrMarks
import Derived.Test.YtfigkoapebdlfaaBlockAt
import Derived.Handy
import Derived.Deep.DeepCutAuto
import Derived.Deep.RegionWith
namespace Go.Proofs.Ytfigkoapebdlfaa
open Go.RowKit
set_option linter.unusedVariables false

def mkAX (k : Nat) : AV := ⟨(k : Int), markS (k + 1), markS (k + 2), ((k + 3 : Nat) : Int)⟩
def mkAL (k0 n : Nat) : List AV := (List.range n).map fun i => mkAX (k0 + 4 * i)
theorem mkAL_length (k0 n : Nat) : (mkAL k0 n).length = n := by simp [mkAL]
theorem mkAL_succ (k0 n : Nat) : mkAL k0 (n + 1) = mkAL k0 n ++ [mkAX (k0 + 4 * n)] := by simp [mkAL, List.range_succ]
theorem mkAL_at (k0 n : Nat) {i : Nat} (h : i < n) : (mkAL k0 n).getD i av0 = mkAX (k0 + 4 * i) := by simp [mkAL, List.getD, h]
theorem mkAL_set (k0 : Nat) (l : List AV) (k : Nat) (h : k < l.length) : (mkAL k0 k ++ l.drop k).set k (mkAX (k0 + 4 * k)) = mkAL k0 (k + 1) ++ l.drop (k + 1) := by
  rw [List.set_append_right _ _ (by rw [mkAL_length]; exact Nat.le_refl _), mkAL_length, Nat.sub_self, mkAL_succ, List.drop_eq_getElem_cons h, List.set_cons_zero, List.append_assoc]
  rfl
theorem mixA_length (k0 : Nat) (l : List AV) (k : Nat) (h : k ≤ l.length) : (mkAL k0 k ++ l.drop k).length = l.length := by
  rw [List.length_append, mkAL_length, List.length_drop]; omega
set_option maxHeartbeats 4000000 in
theorem markActs (l : List AV) (v : Value) (k0 B : Nat) (w : World) (hk0 : 0 < k0) (hn : k0 + 4 * l.length ≤ 1000000000) (h : w.ownsRow B 26 4 v l.length (acells l)) :
    Calls Try.prog 26 #[v, .int .i64 (k0 : Int)] w fun e w' => e = .returned (.int .i64 ((k0 + 4 * l.length : Nat) : Int)) ∧ w'.ownsRow B 26 4 v l.length (acells (mkAL k0 l.length)) ∧ w.grownBy w' v.ownBlock := by
  by_cases h0 : l.length = 0
  · obtain rfl : l = [] := List.eq_nil_of_length_eq_zero h0
    obtain ⟨ao, cap, rfl⟩ := (ActRow.of_own h).slice
    have HO : Hid (w.ownsRow B 26 4 (.slice ao 0 cap) 0 (acells (mkAL k0 0))) := h
    clear h
    go_enter Try.func26, Try.ntmps26
    go_wp2
    refine wp_loop_rounds 1 ?_
    rw [rounds_succ]
    go_wp2
    go_ret
    exact ⟨rfl, HO.out, World.grownBy.refl _ _⟩
  · obtain ⟨g, cap, rfl⟩ : ∃ g cap, v = .slice (some ⟨g, 0, none⟩) l.length cap := by
      rcases h.2 with ⟨_, h2⟩ | ⟨g, cap, cur, rfl, _⟩
      · exact absurd h2 h0
      · exact ⟨g, cap, rfl⟩
    go_enter Try.func26, Try.ntmps26
    go_wp2
    go_loopw [1, 5] (fun a i wr => ∃ (k : Nat) (z : Int), k ≤ l.length ∧ i = .int .i64 k ∧ a = .int .i64 z ∧ 0 < z ∧ z ≤ 1000000000 ∧ Hid (z = ((k0 + 4 * k : Nat) : Int)) ∧ Hid (wr.ownsRow B 26 4 (.slice (some ⟨g, 0, none⟩) l.length cap) l.length (acells (mkAL k0 k ++ l.drop k))) ∧ w.grownBy wr (some g)) (fun _ i _ => l.length - (intOf i).toNat)
    case atStart => exact ⟨0, _, Nat.zero_le _, rfl, rfl, by omega, by omega, rfl, (by show World.ownsRow _ _ _ _ _ _ _; simpa [mkAL] using h), World.grownBy.refl _ _⟩
    case round =>
      obtain ⟨k, z, hk, rfl, rfl, hz0, hz1, HZ, HO, hgr⟩ := hrel
      clear h
      by_cases hlt : k < l.length
      · have hki : (k : Int) < l.length := by omega
        have hz2 : z + 4 ≤ 1000000000 := by have := HZ.out; omega
        have hml := mixA_length k0 l k hk
        have own0 := HO.out
        have hll : (acells (mkAL k0 k ++ l.drop k)).length = l.length * 4 := by rw [acells_length, hml]
        have hfz := own0.frozenAt (k * 4)
        obtain ⟨⟨u0, hu0⟩, _⟩ := own_four own0 k hlt
        obtain ⟨S1, G1⟩ := own0.stored (k * 4) (.int .i64 z)
        obtain ⟨M1, hM1⟩ : ∃ M, markS (k0 + 4 * k + 1) = M := ⟨_, rfl⟩
        obtain ⟨M2, hM2⟩ : ∃ M, markS (k0 + 4 * k + 2) = M := ⟨_, rfl⟩
        have CM1 : Hid (∀ W, Calls Try.prog 43 #[.int .i64 (z + 1)] W fun e w' => e = .returned (.string M1) ∧ Below W.heap.size W w') := fun W => by
          have := markTextI (z + 1) W (by omega) (by omega)
          rwa [show (z + 1).toNat = k0 + 4 * k + 1 by have := HZ.out; omega, hM1] at this
        have CM2 : Hid (∀ W, Calls Try.prog 43 #[.int .i64 (z + 1 + 1)] W fun e w' => e = .returned (.string M2) ∧ Below W.heap.size W w') := fun W => by
          have := markTextI (z + 1 + 1) W (by omega) (by omega)
          rwa [show (z + 1 + 1).toNat = k0 + 4 * k + 2 by have := HZ.out; omega, hM2] at this
        have HS : Hid (((((acells (mkAL k0 k ++ l.drop k)).set (k * 4) (.int .i64 z)).set (k * 4 + 1) (.string M1)).set (k * 4 + 2) (.string M2)).set (k * 4 + 3) (.int .i64 (z + 1 + 1 + 1)) = acells (mkAL k0 (k + 1) ++ l.drop (k + 1))) := by
          show _ = _
          rw [← mkAL_set k0 l k hlt, ← setFour_set _ k (by rw [hml]; exact hlt) (mkAX (k0 + 4 * k)), ← hM1, ← hM2]
          unfold setFour mkAX
          rw [show ((k0 + 4 * k + 3 : Nat) : Int) = z + 1 + 1 + 1 by have := HZ.out; omega, show ((k0 + 4 * k : Nat) : Int) = z from HZ.out.symm]
        have HS1 : Hid ((wr.setCell ⟨g, k * 4, none⟩ (.int .i64 z)).ownsRow B 26 4 (.slice (some ⟨g, 0, none⟩) l.length cap) l.length ((acells (mkAL k0 k ++ l.drop k)).set (k * 4) (.int .i64 z))) := S1
        have GG := grow_trans hgr G1
        clear own0 S1 G1 HO hgr hM1 hM2
        generalize acells (mkAL k0 k ++ l.drop k) = XS at *
        go_wp2_with fail
        refine (CM1.out _).mono ?_
        rintro e w1 ⟨rfl, b1⟩
        have own1 := own_below HS1.out b1
        have G2 := grow_below GG b1
        have hfz1 := own1.frozenAt (k * 4 + 1)
        obtain ⟨_, ⟨u1, hu1⟩, _⟩ := own_four own1 k hlt
        obtain ⟨S3, G3⟩ := own1.stored (k * 4 + 1) (.string M1)
        have HS2 : Hid ((w1.setCell ⟨g, k * 4 + 1, none⟩ (.string M1)).ownsRow B 26 4 (.slice (some ⟨g, 0, none⟩) l.length cap) l.length ((XS.set (k * 4) (.int .i64 z)).set (k * 4 + 1) (.string M1))) := S3
        have G4 := grow_trans G2 G3
        clear own1 S3 G3 G2 GG b1 HS1 CM1 hfz hu0
        go_wp2_with fail
        refine (CM2.out _).mono ?_
        rintro e w2 ⟨rfl, b2⟩
        have own2 := own_below HS2.out b2
        have G5 := grow_below G4 b2
        have hfz2 := own2.frozenAt (k * 4 + 2)
        have hfz3 := own2.frozenAt (k * 4 + 3)
        obtain ⟨_, _, ⟨u2, hu2⟩, ⟨u3, hu3⟩⟩ := own_four own2 k hlt
        obtain ⟨S5, G6⟩ := own2.stored (k * 4 + 2) (.string M2)
        obtain ⟨S6, G7⟩ := S5.stored (k * 4 + 3) (.int .i64 (z + 1 + 1 + 1))
        rw [HS.out] at S6
        have HO3 : Hid (((w2.setCell ⟨g, k * 4 + 2, none⟩ (.string M2)).setCell ⟨g, k * 4 + 3, none⟩ (.int .i64 (z + 1 + 1 + 1))).ownsRow B 26 4 (.slice (some ⟨g, 0, none⟩) l.length cap) l.length (acells (mkAL k0 (k + 1) ++ l.drop (k + 1)))) := S6
        have G8 := grow_trans (grow_trans G5 G6) G7
        clear own2 S5 S6 G4 G5 G6 G7 b2 HS2 CM2 HS hfz1 hu1 hll hml
        go_wp2_with fail
        go_roundw
        case rel => exact ⟨k + 1, _, by omega, by go_num, rfl, by omega, by omega, (by have := HZ.out; show _ = _; omega), HO3, G8⟩
        case measure => simp [intOf]; omega
      · have hki : ¬ (k : Int) < l.length := by omega
        have HE : Hid (k = l.length) := by show _ = _; omega
        have HO2 : Hid (wr.ownsRow B 26 4 (.slice (some ⟨g, 0, none⟩) l.length cap) l.length (acells (mkAL k0 l.length))) := by
          have := HO.out
          rwa [HE.out, List.drop_length, List.append_nil] at this
        have HZ2 : Hid (z = ((k0 + 4 * l.length : Nat) : Int)) := by
          have := HZ.out
          rwa [HE.out] at this
        clear HO HZ
        go_wp2_with fail
        go_ret
        exact ⟨ret_int (by have := HZ2.out; omega), HO2.out, hgr⟩
set_option maxHeartbeats 4000000 in
theorem heldActs (n : Nat) (v : Value) (k0 : Nat) (w : World) (hk0 : 0 < k0) (hn : k0 + 4 * n ≤ 1000000000) (h : ActRow w v (mkAL k0 n)) :
    Calls Try.prog 29 #[v, .int .i64 (k0 : Int)] w fun e w' => e = .returned (.int .i64 ((k0 + 4 * n : Nat) : Int)) ∧ Below w.heap.size w w' := by
  rcases h with ⟨h0, ao, cap, rfl⟩ | ⟨h0, g, off, cap, rfl, hg, hc⟩
  · obtain rfl : n = 0 := by have := mkAL_length k0 n; rw [h0] at this; simp at this; omega
    go_enter Try.func29, Try.ntmps29
    go_wp2
    refine wp_loop_rounds 1 ?_
    rw [rounds_succ]
    go_wp2
    go_ret
    exact ⟨rfl, Below.refl _ _⟩
  · rw [mkAL_length] at h0 hc ⊢
    have HC : Hid (∀ i, i < n → ActAt w g (off + i * 4) (mkAX (k0 + 4 * i))) := fun i hi => by
      have := hc i hi
      rwa [mkAL_at k0 n hi] at this
    clear hc
    go_enter Try.func29, Try.ntmps29
    go_wp2
    go_loopw [1, 5] (fun a i wr => ∃ (k : Nat) (z : Int), k ≤ n ∧ i = .int .i64 k ∧ a = .int .i64 z ∧ 0 < z ∧ z ≤ 1000000000 ∧ Hid (z = ((k0 + 4 * k : Nat) : Int)) ∧ Below w.heap.size w wr) (fun _ i _ => n - (intOf i).toNat)
    case atStart => exact ⟨0, _, Nat.zero_le _, rfl, rfl, by omega, by omega, rfl, Below.refl _ _⟩
    case round =>
      obtain ⟨k, z, hk, rfl, rfl, hz0, hz1, HZ, hbel⟩ := hrel
      by_cases hlt : k < n
      · have hki : (k : Int) < n := by omega
        have hz2 : z + 4 ≤ 1000000000 := by have := HZ.out; omega
        obtain ⟨M1, hM1⟩ : ∃ M, markS (k0 + 4 * k + 1) = M := ⟨_, rfl⟩
        obtain ⟨M2, hM2⟩ : ∃ M, markS (k0 + 4 * k + 2) = M := ⟨_, rfl⟩
        have CM1 : Hid (∀ W, Calls Try.prog 43 #[.int .i64 (z + 1)] W fun e w' => e = .returned (.string M1) ∧ Below W.heap.size W w') := fun W => by
          have := markTextI (z + 1) W (by omega) (by omega)
          rwa [show (z + 1).toNat = k0 + 4 * k + 1 by have := HZ.out; omega, hM1] at this
        have CM2 : Hid (∀ W, Calls Try.prog 43 #[.int .i64 (z + 1 + 1)] W fun e w' => e = .returned (.string M2) ∧ Below W.heap.size W w') := fun W => by
          have := markTextI (z + 1 + 1) W (by omega) (by omega)
          rwa [show (z + 1 + 1).toNat = k0 + 4 * k + 2 by have := HZ.out; omega, hM2] at this
        have hA : ActAt wr g (off + k * 4) ⟨z, M1, M2, z + 1 + 1 + 1⟩ := by
          have h1 := (HC.out k hlt).below hbel hg
          have e : mkAX (k0 + 4 * k) = ⟨z, M1, M2, z + 1 + 1 + 1⟩ := by
            unfold mkAX
            rw [hM1, hM2, show ((k0 + 4 * k + 3 : Nat) : Int) = z + 1 + 1 + 1 by have := HZ.out; omega, show ((k0 + 4 * k : Nat) : Int) = z from HZ.out.symm]
          rwa [e] at h1
        have HA : Hid (ActAt wr g (off + k * 4) ⟨z, M1, M2, z + 1 + 1 + 1⟩) := hA
        obtain ⟨c0, c1, c2, c3⟩ := hA
        dsimp only at c0 c1 c2 c3
        have hgw : g < wr.heap.size := by have := hbel.size; omega
        clear hM1 hM2
        go_wp2_with fail
        go_region_with (go_at_call 43; refine (CM1.out _).mono ?_; rintro e wc ⟨rfl, bc⟩; have cc := (bc.cell (p := ⟨g, off + k * 4 + 1, none⟩) hgw).trans c1)
        all_goals
          have B1 := hbel.drew.trans (bc.mono hbel.size)
          obtain ⟨d0, d1, d2, d3⟩ := HA.out.below (w := wr.drew) (w' := wc) (m := wr.heap.size) bc hgw
          dsimp only at d0 d1 d2 d3
          have hgc : g < wc.heap.size := by have := B1.size; omega
          clear bc CM1 c0 c1 c2 c3 hbel
          go_wp2_with fail
          go_region_with (go_at_call 43; refine (CM2.out _).mono ?_; rintro e wd ⟨rfl, bd⟩; have cd := (bd.cell (p := ⟨g, off + k * 4 + 2, none⟩) hgc).trans d2)
          all_goals
            have B2 := B1.drew.trans (bd.mono B1.size)
            have e3 := (bd.cell (p := ⟨g, off + k * 4 + 3, none⟩) hgc).trans d3
            clear bd CM2 d0 d1 d2 d3 B1 HA
            go_wp2_with fail
            refine ⟨⟨k + 1, z + 4, by omega, by go_num, by go_num, by omega, by omega, (by have := HZ.out; show _ = _; omega), B2⟩, ?_⟩
            simp [intOf]
            omega
      · have hki : ¬ (k : Int) < n := by omega
        have HZ2 : Hid (z = ((k0 + 4 * n : Nat) : Int)) := by
          have := HZ.out
          rwa [show k = n by omega] at this
        clear HZ
        go_wp2_with fail
        go_ret
        exact ⟨ret_int (by have := HZ2.out; omega), hbel⟩
end Go.Proofs.Ytfigkoapebdlfaa
