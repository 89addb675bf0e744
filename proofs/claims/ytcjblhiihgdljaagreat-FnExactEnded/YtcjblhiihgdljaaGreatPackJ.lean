/- Contracts and plain laws: StrMarks, WtMark, LsMark, SitMark, SitMark2, WtSz, LsSz, SitSz, SchLaw. -/
import Derived.Test.YtcjblhiihgdljaaGreatRows
import Derived.Test.YtcjblhiihgdljaaGreatBase
import Derived.BigQuiet
import Derived.Deep.QuietTactic
import Derived.Deep.RegionWith
import Derived.Test.YtcjblhiihgdljaaGreatWtRow
import Derived.Test.YtcjblhiihgdljaaGreatBlockAt
import Derived.Handy
import Derived.Deep.DeepCutAuto
import Derived.Test.YtcjblhiihgdljaaGreatLsRow
import Derived.Test.YtcjblhiihgdljaaGreatSitOwn
import Derived.Test.YtcjblhiihgdljaaGreatSitEq
import Derived.Test.YtcjblhiihgdljaaGreatSumZ
import Derived.Test.YtcjblhiihgdljaaGreatSitRow
import Derived.Test.YtcjblhiihgdljaaGreatSchOkI2
namespace Go.Proofs.YtcjblhiihgdljaaGreat
open Go.RowKit

def mtF : Nat → Nat → List UInt8 → List UInt8
  | 0, _, l => l
  | f + 1, k, l => if k = 0 then l else mtF f (k / 10) (UInt8.ofNat (48 + k % 10) :: l)

theorem mtF_fuel : ∀ (f g k : Nat) (l : List UInt8), k ≤ f → k ≤ g → mtF f k l = mtF g k l
  | 0, g, k, l, hf, _ => by
    have : k = 0 := by omega
    subst this
    cases g <;> simp [mtF]
  | f + 1, 0, k, l, _, hg => by
    have : k = 0 := by omega
    subst this
    simp [mtF]
  | f + 1, g + 1, k, l, hf, hg => by
    simp only [mtF]
    by_cases h : k = 0
    · rw [if_pos h, if_pos h]
    · rw [if_neg h, if_neg h]
      exact mtF_fuel f g (k / 10) _ (by omega) (by omega)

def mt (k : Nat) (l : List UInt8) : List UInt8 := mtF k k l

theorem mt_zero (l : List UInt8) : mt 0 l = l := rfl

theorem mt_step (k : Nat) (l : List UInt8) (h : ¬ k = 0) : mt k l = mt (k / 10) (UInt8.ofNat (48 + k % 10) :: l) := by
  unfold mt
  cases k with
  | zero => exact absurd rfl h
  | succ f =>
    rw [mtF, if_neg h]
    exact mtF_fuel f _ _ _ (by omega) (Nat.le_refl _)

def markS (k : Nat) : ByteArray := ⟨(if k = 0 then [109, 48] else 109 :: mt k []).toArray⟩

set_option maxHeartbeats 1000000 in
theorem markText (k0 : Nat) (w : World) (hk0 : 0 < k0) (hk : k0 ≤ 1099511627776) :
    Calls Tryz.prog 132 #[.int .i64 (k0 : Int)] w fun e w' => e = .returned (.string (markS k0)) ∧ Below w.heap.size w w' := by
  go_enter Tryz.func132, Tryz.ntmps132
  go_wp2
  go_loopw [0, 3] (fun a o wr => ∃ (k : Nat) (l : List UInt8), a = .int .i64 k ∧ o = .string ⟨l.toArray⟩ ∧ mt k l = mt k0 [] ∧ l.length + k ≤ k0 ∧ Below w.heap.size w wr)
    (fun a _ _ => (intOf a).toNat)
  case atStart => exact ⟨k0, [], rfl, rfl, rfl, by simp, Below.refl _ _⟩
  case round =>
    obtain ⟨k, l, rfl, rfl, hm, hle, hbel⟩ := hrel
    have HM : Hid (mt k l = mt k0 []) := hm
    clear hm
    have hsz := hbel.size
    by_cases hp : 0 < k
    · have hdig := run_digit (P := Tryz.prog) wr 22 9 5 Tryz.underlying22 Tryz.underlying5 Tryz.underlying9 (48 + k % 10) (by omega) (48 + (k : Int) % 10) (by omega)
      obtain ⟨d, hd⟩ : ∃ d, d = UInt8.ofNat (48 + k % 10) := ⟨_, rfl⟩
      rw [← hd] at hdig
      have HD : Hid (d = UInt8.ofNat (48 + k % 10)) := hd
      clear hd
      go_wp2
      go_roundw
      case rel => exact ⟨k / 10, d :: l, by go_num, by rw [bytes_cons], by rw [← HM.out, mt_step k l (by omega), HD.out], by simp; omega, hbel.alloc hsz _⟩
      case measure => simp [intOf]; omega
    · have hz : k = 0 := by omega
      have hl : l = mt k0 [] := by rw [← HM.out, hz, mt_zero]
      have HL : Hid (l = mt k0 []) := hl
      clear hl hz
      go_wp2
      go_ret
      refine ⟨?_, hbel⟩
      unfold markS
      rw [if_neg (by omega), ← HL.out, ← bytes_cons]
      rfl

theorem markTextI (x : Int) (w : World) (h0 : 0 < x) (h1 : x ≤ 1099511627776) :
    Calls Tryz.prog 132 #[.int .i64 x] w fun e w' => e = .returned (.string (markS x.toNat)) ∧ Below w.heap.size w w' := by
  obtain ⟨k, rfl⟩ := Int.eq_ofNat_of_zero_le (Int.le_of_lt h0)
  exact markText k w (by omega) (by omega)

def marks (k0 n : Nat) : List ByteArray := (List.range n).map fun i => markS (k0 + i)

theorem marks_succ (k0 n : Nat) : marks k0 (n + 1) = marks k0 n ++ [markS (k0 + n)] := by simp [marks, List.range_succ]

theorem marks_length (k0 n : Nat) : (marks k0 n).length = n := by simp [marks]

theorem marks_at (k0 n k : Nat) (h : k < n) : (marks k0 n).getD k ByteArray.empty = markS (k0 + k) := by simp [marks, List.getD, h]

theorem marks_set (k0 : Nat) (xs : List Value) (k : Nat) (h : k < xs.length) :
    (scells (marks k0 k) ++ xs.drop k).set k (.string (markS (k0 + k))) = scells (marks k0 (k + 1)) ++ xs.drop (k + 1) := by
  rw [List.set_append_right _ _ (by simp [scells_length, marks_length])]
  rw [marks_succ, scells_snoc]
  simp only [scells_length, marks_length, Nat.sub_self, List.append_assoc, List.append_cancel_left_eq]
  rw [List.drop_eq_getElem_cons h]
  rfl

end Go.Proofs.YtcjblhiihgdljaaGreat

namespace Go.Proofs.YtcjblhiihgdljaaGreat
open Go.RowKit
set_option linter.unusedVariables false

def mkWtX (k : Nat) : WtV := ⟨markS k, ((k + 1 : Nat) : Int), ((k + 2 : Nat) : Int)⟩
def mkWtL (k0 n : Nat) : List WtV := (List.range n).map fun i => mkWtX (k0 + 3 * i)
theorem mkWtL_length (k0 n : Nat) : (mkWtL k0 n).length = n := by simp [mkWtL]
theorem mkWtL_succ (k0 n : Nat) : mkWtL k0 (n + 1) = mkWtL k0 n ++ [mkWtX (k0 + 3 * n)] := by simp [mkWtL, List.range_succ]
theorem mkWtL_at (k0 n : Nat) {i : Nat} (h : i < n) : (mkWtL k0 n).getD i wtv0 = mkWtX (k0 + 3 * i) := by simp [mkWtL, List.getD, h]
theorem mkWtL_set (k0 : Nat) (l : List WtV) (k : Nat) (h : k < l.length) : (mkWtL k0 k ++ l.drop k).set k (mkWtX (k0 + 3 * k)) = mkWtL k0 (k + 1) ++ l.drop (k + 1) := by
  rw [List.set_append_right _ _ (by rw [mkWtL_length]; exact Nat.le_refl _), mkWtL_length, Nat.sub_self, mkWtL_succ, List.drop_eq_getElem_cons h, List.set_cons_zero, List.append_assoc]
  rfl
theorem mixWt_length (k0 : Nat) (l : List WtV) (k : Nat) (h : k ≤ l.length) : (mkWtL k0 k ++ l.drop k).length = l.length := by
  rw [List.length_append, mkWtL_length, List.length_drop]; omega
set_option maxHeartbeats 4000000 in
theorem markWts (l : List WtV) (v : Value) (k0 B : Nat) (w : World) (hk0 : 0 < k0) (hn : k0 + 3 * l.length ≤ 1000000000) (h : w.ownsRow B 83 3 v l.length (wtcells l)) :
    Calls Tryz.prog 133 #[v, .int .i64 (k0 : Int)] w fun e w' => e = .returned (.int .i64 ((k0 + 3 * l.length : Nat) : Int)) ∧ w'.ownsRow B 83 3 v l.length (wtcells (mkWtL k0 l.length)) ∧ w.grownBy w' v.ownBlock := by
  by_cases h0 : l.length = 0
  · obtain rfl : l = [] := List.eq_nil_of_length_eq_zero h0
    obtain ⟨ao, cap, rfl⟩ := (WtRow.of_own h).slice
    have HO : Hid (w.ownsRow B 83 3 (.slice ao 0 cap) 0 (wtcells (mkWtL k0 0))) := h
    clear h
    go_enter Tryz.func133, Tryz.ntmps133
    go_wp2
    refine wp_loop_rounds 1 ?_
    rw [rounds_succ]
    go_wp2
    go_ret
    exact ⟨rfl, HO.out, World.grownBy.refl _ _⟩
  · obtain ⟨g, cap, rfl⟩ : ∃ g cap, v = .slice (some ⟨g, 0, none⟩) l.length cap := by
      rcases h.2 with ⟨_, h2⟩ | ⟨g, cap, cur, rfl, _⟩
      · exact absurd h2 h0
      · exact ⟨g, cap, rfl⟩
    go_enter Tryz.func133, Tryz.ntmps133
    go_wp2
    go_loopw [1, 5] (fun a i wr => ∃ (k : Nat) (z : Int), k ≤ l.length ∧ i = .int .i64 k ∧ a = .int .i64 z ∧ 0 < z ∧ z ≤ 1000000000 ∧ Hid (z = ((k0 + 3 * k : Nat) : Int)) ∧ Hid (wr.ownsRow B 83 3 (.slice (some ⟨g, 0, none⟩) l.length cap) l.length (wtcells (mkWtL k0 k ++ l.drop k))) ∧ w.grownBy wr (some g)) (fun _ i _ => l.length - (intOf i).toNat)
    case atStart => exact ⟨0, _, Nat.zero_le _, rfl, rfl, by omega, by omega, rfl, (by show World.ownsRow _ _ _ _ _ _ _; simpa [mkWtL] using h), World.grownBy.refl _ _⟩
    case round =>
      obtain ⟨k, z, hk, rfl, rfl, hz0, hz1, HZ, HO, hgr⟩ := hrel
      clear h
      by_cases hlt : k < l.length
      · have hki : (k : Int) < l.length := by omega
        have hz2 : z + 3 ≤ 1000000000 := by have := HZ.out; omega
        have hml := mixWt_length k0 l k hk
        have hll : (wtcells (mkWtL k0 k ++ l.drop k)).length = l.length * 3 := by rw [wtcells_length, hml]
        obtain ⟨M0, hM0⟩ : ∃ M, markS (k0 + 3 * k) = M := ⟨_, rfl⟩
        have CM0 : Hid (∀ W, Calls Tryz.prog 132 #[.int .i64 z] W fun e w' => e = .returned (.string M0) ∧ Below W.heap.size W w') := fun W => by
          have := markTextI z W (by omega) (by omega)
          rwa [show z.toNat = k0 + 3 * k by have := HZ.out; omega, hM0] at this
        have HS : Hid (((((wtcells (mkWtL k0 k ++ l.drop k)).set (k * 3) (.string M0)).set (k * 3 + 1) (.int .i64 (z + 1))).set (k * 3 + 2) (.int .i64 (z + 1 + 1))) = wtcells (mkWtL k0 (k + 1) ++ l.drop (k + 1))) := by
          show _ = _
          rw [← mkWtL_set k0 l k hlt, ← setWt_set _ k (by rw [hml]; exact hlt) (mkWtX (k0 + 3 * k)), ← hM0]
          unfold setWt mkWtX
          dsimp only
          rw [show ((k0 + 3 * k + 1 : Nat) : Int) = z + 1 by have := HZ.out; omega, show ((k0 + 3 * k + 2 : Nat) : Int) = z + 1 + 1 by have := HZ.out; omega]
        clear hM0
        generalize wtcells (mkWtL k0 k ++ l.drop k) = XS at *
        go_wp2_with fail
        refine (CM0.out _).mono ?_
        rintro e w1 ⟨rfl, b1⟩
        have own1 := own_below HO.out b1
        have G1 := grow_below hgr b1
        have hfz0 := own1.frozenAt (k * 3)
        have hfz1 := own1.frozenAt (k * 3 + 1)
        have hfz2 := own1.frozenAt (k * 3 + 2)
        obtain ⟨⟨u0, hu0⟩, ⟨u1, hu1⟩, ⟨u2, hu2⟩⟩ := own_wt own1 k hlt
        obtain ⟨S0, H0⟩ := own1.stored (k * 3) (.string M0)
        obtain ⟨S1, H1⟩ := S0.stored (k * 3 + 1) (.int .i64 (z + 1))
        obtain ⟨S2, H2⟩ := S1.stored (k * 3 + 2) (.int .i64 (z + 1 + 1))
        have GG0 := (grow_trans (grow_trans (grow_trans G1 H0) H1) H2)
        rw [HS.out] at S2
        have HO9 : Hid ((((w1.setCell ⟨g, k * 3, none⟩ (.string M0)).setCell ⟨g, k * 3 + 1, none⟩ (.int .i64 (z + 1))).setCell ⟨g, k * 3 + 2, none⟩ (.int .i64 (z + 1 + 1))).ownsRow B 83 3 (.slice (some ⟨g, 0, none⟩) l.length cap) l.length (wtcells (mkWtL k0 (k + 1) ++ l.drop (k + 1)))) := S2
        clear own1 G1 b1 CM0 hgr HO S0 H0 S1 H1 S2 H2 HS
        go_wp2_with fail
        go_roundw
        case rel => exact ⟨k + 1, _, by omega, by go_num, rfl, by omega, by omega, (by have := HZ.out; show _ = _; omega), HO9, GG0⟩
        case measure => simp [intOf]; omega
      · have hki : ¬ (k : Int) < l.length := by omega
        have HE : Hid (k = l.length) := by show _ = _; omega
        have HO2 : Hid (wr.ownsRow B 83 3 (.slice (some ⟨g, 0, none⟩) l.length cap) l.length (wtcells (mkWtL k0 l.length))) := by
          have := HO.out
          rwa [HE.out, List.drop_length, List.append_nil] at this
        have HZ2 : Hid (z = ((k0 + 3 * l.length : Nat) : Int)) := by
          have := HZ.out
          rwa [HE.out] at this
        clear HO HZ
        go_wp2_with fail
        go_ret
        exact ⟨ret_int (by have := HZ2.out; omega), HO2.out, hgr⟩
set_option maxHeartbeats 4000000 in
theorem heldWts (n : Nat) (v : Value) (k0 : Nat) (w : World) (hk0 : 0 < k0) (hn : k0 + 3 * n ≤ 1000000000) (h : WtRow w v (mkWtL k0 n)) :
    Calls Tryz.prog 134 #[v, .int .i64 (k0 : Int)] w fun e w' => e = .returned (.int .i64 ((k0 + 3 * n : Nat) : Int)) ∧ Below w.heap.size w w' := by
  rcases h with ⟨h0, ao, cap, rfl⟩ | ⟨h0, g, off, cap, rfl, hg, hc⟩
  · obtain rfl : n = 0 := by have := mkWtL_length k0 n; rw [h0] at this; simp at this; omega
    go_enter Tryz.func134, Tryz.ntmps134
    go_wp2
    refine wp_loop_rounds 1 ?_
    rw [rounds_succ]
    go_wp2
    go_ret
    exact ⟨rfl, Below.refl _ _⟩
  · rw [mkWtL_length] at h0 hc ⊢
    have HC : Hid (∀ i, i < n → WtAt w g (off + i * 3) (mkWtX (k0 + 3 * i))) := fun i hi => by
      have := hc i hi
      rwa [mkWtL_at k0 n hi] at this
    clear hc
    go_enter Tryz.func134, Tryz.ntmps134
    go_wp2
    go_loopw [1, 5] (fun a i wr => ∃ (k : Nat) (z : Int), k ≤ n ∧ i = .int .i64 k ∧ a = .int .i64 z ∧ 0 < z ∧ z ≤ 1000000000 ∧ Hid (z = ((k0 + 3 * k : Nat) : Int)) ∧ Below w.heap.size w wr) (fun _ i _ => n - (intOf i).toNat)
    case atStart => exact ⟨0, _, Nat.zero_le _, rfl, rfl, by omega, by omega, rfl, Below.refl _ _⟩
    case round =>
      obtain ⟨k, z, hk, rfl, rfl, hz0, hz1, HZ, hbel⟩ := hrel
      by_cases hlt : k < n
      · have hki : (k : Int) < n := by omega
        have hz2 : z + 3 ≤ 1000000000 := by have := HZ.out; omega
        obtain ⟨M0, hM0⟩ : ∃ M, markS (k0 + 3 * k) = M := ⟨_, rfl⟩
        have CM0 : Hid (∀ W, Calls Tryz.prog 132 #[.int .i64 z] W fun e w' => e = .returned (.string M0) ∧ Below W.heap.size W w') := fun W => by
          have := markTextI z W (by omega) (by omega)
          rwa [show z.toNat = k0 + 3 * k by have := HZ.out; omega, hM0] at this
        have hA : WtAt wr g (off + k * 3) ⟨M0, z + 1, z + 1 + 1⟩ := by
          have h1 := (HC.out k hlt).below hbel hg
          have e : mkWtX (k0 + 3 * k) = ⟨M0, z + 1, z + 1 + 1⟩ := by
            unfold mkWtX
            rw [hM0, show ((k0 + 3 * k + 1 : Nat) : Int) = z + 1 by have := HZ.out; omega, show ((k0 + 3 * k + 2 : Nat) : Int) = z + 1 + 1 by have := HZ.out; omega]
          rwa [e] at h1
        have HA : Hid (WtAt wr g (off + k * 3) ⟨M0, z + 1, z + 1 + 1⟩) := hA
        obtain ⟨c0, c1, c2⟩ := hA
        dsimp only at c0 c1 c2
        have hgw : g < wr.heap.size := by have := hbel.size; omega
        clear hM0
        go_wp2_with fail
        go_region_with (go_at_call 132; refine (CM0.out _).mono ?_; rintro e wc ⟨rfl, bwc⟩; have cc := (bwc.cell (p := ⟨g, off + k * 3, none⟩) hgw).trans c0)
        all_goals
          have B1 := hbel.drew.trans (bwc.mono hbel.size)
          have HA1 : Hid (WtAt wc g (off + k * 3) ⟨M0, z + 1, z + 1 + 1⟩) := HA.out.below (w := wr.drew) (w' := wc) (m := wr.heap.size) bwc hgw
          obtain ⟨d0, d1, d2⟩ := HA1.out
          dsimp only at d0 d1 d2
          have hgwc : g < wc.heap.size := by have := B1.size; omega
          clear bwc CM0 c0 c1 c2 hbel HA cc
          go_wp2_with fail
          refine ⟨⟨k + 1, z + 3, by omega, by go_num, by go_num, by omega, by omega, (by have := HZ.out; show _ = _; omega), B1⟩, ?_⟩
          simp [intOf]
          omega
      · have hki : ¬ (k : Int) < n := by omega
        have HZ2 : Hid (z = ((k0 + 3 * n : Nat) : Int)) := by
          have := HZ.out
          rwa [show k = n by omega] at this
        clear HZ
        go_wp2_with fail
        go_ret
        exact ⟨ret_int (by have := HZ2.out; omega), hbel⟩
end Go.Proofs.YtcjblhiihgdljaaGreat

namespace Go.Proofs.YtcjblhiihgdljaaGreat
open Go.RowKit
set_option linter.unusedVariables false

def mkLsX (k : Nat) : LsV := ⟨markS k, markS (k + 1), ((k + 2 : Nat) : Int), ((k + 3 : Nat) : Int)⟩
def mkLsL (k0 n : Nat) : List LsV := (List.range n).map fun i => mkLsX (k0 + 4 * i)
theorem mkLsL_length (k0 n : Nat) : (mkLsL k0 n).length = n := by simp [mkLsL]
theorem mkLsL_succ (k0 n : Nat) : mkLsL k0 (n + 1) = mkLsL k0 n ++ [mkLsX (k0 + 4 * n)] := by simp [mkLsL, List.range_succ]
theorem mkLsL_at (k0 n : Nat) {i : Nat} (h : i < n) : (mkLsL k0 n).getD i lsv0 = mkLsX (k0 + 4 * i) := by simp [mkLsL, List.getD, h]
theorem mkLsL_set (k0 : Nat) (l : List LsV) (k : Nat) (h : k < l.length) : (mkLsL k0 k ++ l.drop k).set k (mkLsX (k0 + 4 * k)) = mkLsL k0 (k + 1) ++ l.drop (k + 1) := by
  rw [List.set_append_right _ _ (by rw [mkLsL_length]; exact Nat.le_refl _), mkLsL_length, Nat.sub_self, mkLsL_succ, List.drop_eq_getElem_cons h, List.set_cons_zero, List.append_assoc]
  rfl
theorem mixLs_length (k0 : Nat) (l : List LsV) (k : Nat) (h : k ≤ l.length) : (mkLsL k0 k ++ l.drop k).length = l.length := by
  rw [List.length_append, mkLsL_length, List.length_drop]; omega
set_option maxHeartbeats 4000000 in
theorem markLss (l : List LsV) (v : Value) (k0 B : Nat) (w : World) (hk0 : 0 < k0) (hn : k0 + 4 * l.length ≤ 1000000000) (h : w.ownsRow B 51 4 v l.length (lscells l)) :
    Calls Tryz.prog 87 #[v, .int .i64 (k0 : Int)] w fun e w' => e = .returned (.int .i64 ((k0 + 4 * l.length : Nat) : Int)) ∧ w'.ownsRow B 51 4 v l.length (lscells (mkLsL k0 l.length)) ∧ w.grownBy w' v.ownBlock := by
  by_cases h0 : l.length = 0
  · obtain rfl : l = [] := List.eq_nil_of_length_eq_zero h0
    obtain ⟨ao, cap, rfl⟩ := (LsRow.of_own h).slice
    have HO : Hid (w.ownsRow B 51 4 (.slice ao 0 cap) 0 (lscells (mkLsL k0 0))) := h
    clear h
    go_enter Tryz.func87, Tryz.ntmps87
    go_wp2
    refine wp_loop_rounds 1 ?_
    rw [rounds_succ]
    go_wp2
    go_ret
    exact ⟨rfl, HO.out, World.grownBy.refl _ _⟩
  · obtain ⟨g, cap, rfl⟩ : ∃ g cap, v = .slice (some ⟨g, 0, none⟩) l.length cap := by
      rcases h.2 with ⟨_, h2⟩ | ⟨g, cap, cur, rfl, _⟩
      · exact absurd h2 h0
      · exact ⟨g, cap, rfl⟩
    go_enter Tryz.func87, Tryz.ntmps87
    go_wp2
    go_loopw [1, 5] (fun a i wr => ∃ (k : Nat) (z : Int), k ≤ l.length ∧ i = .int .i64 k ∧ a = .int .i64 z ∧ 0 < z ∧ z ≤ 1000000000 ∧ Hid (z = ((k0 + 4 * k : Nat) : Int)) ∧ Hid (wr.ownsRow B 51 4 (.slice (some ⟨g, 0, none⟩) l.length cap) l.length (lscells (mkLsL k0 k ++ l.drop k))) ∧ w.grownBy wr (some g)) (fun _ i _ => l.length - (intOf i).toNat)
    case atStart => exact ⟨0, _, Nat.zero_le _, rfl, rfl, by omega, by omega, rfl, (by show World.ownsRow _ _ _ _ _ _ _; simpa [mkLsL] using h), World.grownBy.refl _ _⟩
    case round =>
      obtain ⟨k, z, hk, rfl, rfl, hz0, hz1, HZ, HO, hgr⟩ := hrel
      clear h
      by_cases hlt : k < l.length
      · have hki : (k : Int) < l.length := by omega
        have hz2 : z + 4 ≤ 1000000000 := by have := HZ.out; omega
        have hml := mixLs_length k0 l k hk
        have hll : (lscells (mkLsL k0 k ++ l.drop k)).length = l.length * 4 := by rw [lscells_length, hml]
        obtain ⟨M0, hM0⟩ : ∃ M, markS (k0 + 4 * k) = M := ⟨_, rfl⟩
        obtain ⟨M1, hM1⟩ : ∃ M, markS (k0 + 4 * k + 1) = M := ⟨_, rfl⟩
        have CM0 : Hid (∀ W, Calls Tryz.prog 132 #[.int .i64 z] W fun e w' => e = .returned (.string M0) ∧ Below W.heap.size W w') := fun W => by
          have := markTextI z W (by omega) (by omega)
          rwa [show z.toNat = k0 + 4 * k by have := HZ.out; omega, hM0] at this
        have CM1 : Hid (∀ W, Calls Tryz.prog 132 #[.int .i64 (z + 1)] W fun e w' => e = .returned (.string M1) ∧ Below W.heap.size W w') := fun W => by
          have := markTextI (z + 1) W (by omega) (by omega)
          rwa [show (z + 1).toNat = k0 + 4 * k + 1 by have := HZ.out; omega, hM1] at this
        have HS : Hid ((((((lscells (mkLsL k0 k ++ l.drop k)).set (k * 4) (.string M0)).set (k * 4 + 1) (.string M1)).set (k * 4 + 2) (.int .i64 (z + 1 + 1))).set (k * 4 + 3) (.int .i64 (z + 1 + 1 + 1))) = lscells (mkLsL k0 (k + 1) ++ l.drop (k + 1))) := by
          show _ = _
          rw [← mkLsL_set k0 l k hlt, ← setLs_set _ k (by rw [hml]; exact hlt) (mkLsX (k0 + 4 * k)), ← hM0, ← hM1]
          unfold setLs mkLsX
          dsimp only
          rw [show ((k0 + 4 * k + 2 : Nat) : Int) = z + 1 + 1 by have := HZ.out; omega, show ((k0 + 4 * k + 3 : Nat) : Int) = z + 1 + 1 + 1 by have := HZ.out; omega]
        clear hM0 hM1
        generalize lscells (mkLsL k0 k ++ l.drop k) = XS at *
        go_wp2_with fail
        refine (CM0.out _).mono ?_
        rintro e w1 ⟨rfl, b1⟩
        have own1 := own_below HO.out b1
        have G1 := grow_below hgr b1
        have hfz0 := own1.frozenAt (k * 4)
        obtain ⟨⟨u0, hu0⟩, _, _, _⟩ := own_ls own1 k hlt
        obtain ⟨S0, H0⟩ := own1.stored (k * 4) (.string M0)
        have GG0 := (grow_trans G1 H0)
        have HQ0 : Hid ((w1.setCell ⟨g, k * 4, none⟩ (.string M0)).ownsRow B 51 4 (.slice (some ⟨g, 0, none⟩) l.length cap) l.length (XS.set (k * 4) (.string M0))) := S0
        clear own1 G1 b1 CM0 hgr HO S0 H0
        go_wp2_with fail
        refine (CM1.out _).mono ?_
        rintro e w2 ⟨rfl, b2⟩
        have own2 := own_below HQ0.out b2
        have G11 := grow_below GG0 b2
        have hfz1 := own2.frozenAt (k * 4 + 1)
        have hfz2 := own2.frozenAt (k * 4 + 2)
        have hfz3 := own2.frozenAt (k * 4 + 3)
        obtain ⟨_, ⟨u1, hu1⟩, ⟨u2, hu2⟩, ⟨u3, hu3⟩⟩ := own_ls own2 k hlt
        obtain ⟨S1, H1⟩ := own2.stored (k * 4 + 1) (.string M1)
        obtain ⟨S2, H2⟩ := S1.stored (k * 4 + 2) (.int .i64 (z + 1 + 1))
        obtain ⟨S3, H3⟩ := S2.stored (k * 4 + 3) (.int .i64 (z + 1 + 1 + 1))
        have GG1 := (grow_trans (grow_trans (grow_trans G11 H1) H2) H3)
        rw [HS.out] at S3
        have HO9 : Hid ((((w2.setCell ⟨g, k * 4 + 1, none⟩ (.string M1)).setCell ⟨g, k * 4 + 2, none⟩ (.int .i64 (z + 1 + 1))).setCell ⟨g, k * 4 + 3, none⟩ (.int .i64 (z + 1 + 1 + 1))).ownsRow B 51 4 (.slice (some ⟨g, 0, none⟩) l.length cap) l.length (lscells (mkLsL k0 (k + 1) ++ l.drop (k + 1)))) := S3
        clear own2 G11 b2 CM1 GG0 HQ0 S1 H1 S2 H2 S3 H3 HS
        go_wp2_with fail
        go_roundw
        case rel => exact ⟨k + 1, _, by omega, by go_num, rfl, by omega, by omega, (by have := HZ.out; show _ = _; omega), HO9, GG1⟩
        case measure => simp [intOf]; omega
      · have hki : ¬ (k : Int) < l.length := by omega
        have HE : Hid (k = l.length) := by show _ = _; omega
        have HO2 : Hid (wr.ownsRow B 51 4 (.slice (some ⟨g, 0, none⟩) l.length cap) l.length (lscells (mkLsL k0 l.length))) := by
          have := HO.out
          rwa [HE.out, List.drop_length, List.append_nil] at this
        have HZ2 : Hid (z = ((k0 + 4 * l.length : Nat) : Int)) := by
          have := HZ.out
          rwa [HE.out] at this
        clear HO HZ
        go_wp2_with fail
        go_ret
        exact ⟨ret_int (by have := HZ2.out; omega), HO2.out, hgr⟩
set_option maxHeartbeats 4000000 in
theorem heldLss (n : Nat) (v : Value) (k0 : Nat) (w : World) (hk0 : 0 < k0) (hn : k0 + 4 * n ≤ 1000000000) (h : LsRow w v (mkLsL k0 n)) :
    Calls Tryz.prog 89 #[v, .int .i64 (k0 : Int)] w fun e w' => e = .returned (.int .i64 ((k0 + 4 * n : Nat) : Int)) ∧ Below w.heap.size w w' := by
  rcases h with ⟨h0, ao, cap, rfl⟩ | ⟨h0, g, off, cap, rfl, hg, hc⟩
  · obtain rfl : n = 0 := by have := mkLsL_length k0 n; rw [h0] at this; simp at this; omega
    go_enter Tryz.func89, Tryz.ntmps89
    go_wp2
    refine wp_loop_rounds 1 ?_
    rw [rounds_succ]
    go_wp2
    go_ret
    exact ⟨rfl, Below.refl _ _⟩
  · rw [mkLsL_length] at h0 hc ⊢
    have HC : Hid (∀ i, i < n → LsAt w g (off + i * 4) (mkLsX (k0 + 4 * i))) := fun i hi => by
      have := hc i hi
      rwa [mkLsL_at k0 n hi] at this
    clear hc
    go_enter Tryz.func89, Tryz.ntmps89
    go_wp2
    go_loopw [1, 5] (fun a i wr => ∃ (k : Nat) (z : Int), k ≤ n ∧ i = .int .i64 k ∧ a = .int .i64 z ∧ 0 < z ∧ z ≤ 1000000000 ∧ Hid (z = ((k0 + 4 * k : Nat) : Int)) ∧ Below w.heap.size w wr) (fun _ i _ => n - (intOf i).toNat)
    case atStart => exact ⟨0, _, Nat.zero_le _, rfl, rfl, by omega, by omega, rfl, Below.refl _ _⟩
    case round =>
      obtain ⟨k, z, hk, rfl, rfl, hz0, hz1, HZ, hbel⟩ := hrel
      by_cases hlt : k < n
      · have hki : (k : Int) < n := by omega
        have hz2 : z + 4 ≤ 1000000000 := by have := HZ.out; omega
        obtain ⟨M0, hM0⟩ : ∃ M, markS (k0 + 4 * k) = M := ⟨_, rfl⟩
        obtain ⟨M1, hM1⟩ : ∃ M, markS (k0 + 4 * k + 1) = M := ⟨_, rfl⟩
        have CM0 : Hid (∀ W, Calls Tryz.prog 132 #[.int .i64 z] W fun e w' => e = .returned (.string M0) ∧ Below W.heap.size W w') := fun W => by
          have := markTextI z W (by omega) (by omega)
          rwa [show z.toNat = k0 + 4 * k by have := HZ.out; omega, hM0] at this
        have CM1 : Hid (∀ W, Calls Tryz.prog 132 #[.int .i64 (z + 1)] W fun e w' => e = .returned (.string M1) ∧ Below W.heap.size W w') := fun W => by
          have := markTextI (z + 1) W (by omega) (by omega)
          rwa [show (z + 1).toNat = k0 + 4 * k + 1 by have := HZ.out; omega, hM1] at this
        have hA : LsAt wr g (off + k * 4) ⟨M0, M1, z + 1 + 1, z + 1 + 1 + 1⟩ := by
          have h1 := (HC.out k hlt).below hbel hg
          have e : mkLsX (k0 + 4 * k) = ⟨M0, M1, z + 1 + 1, z + 1 + 1 + 1⟩ := by
            unfold mkLsX
            rw [hM0, hM1, show ((k0 + 4 * k + 2 : Nat) : Int) = z + 1 + 1 by have := HZ.out; omega, show ((k0 + 4 * k + 3 : Nat) : Int) = z + 1 + 1 + 1 by have := HZ.out; omega]
          rwa [e] at h1
        have HA : Hid (LsAt wr g (off + k * 4) ⟨M0, M1, z + 1 + 1, z + 1 + 1 + 1⟩) := hA
        obtain ⟨c0, c1, c2, c3⟩ := hA
        dsimp only at c0 c1 c2 c3
        have hgw : g < wr.heap.size := by have := hbel.size; omega
        clear hM0 hM1
        go_wp2_with fail
        go_region_with (go_at_call 132; refine (CM0.out _).mono ?_; rintro e wc ⟨rfl, bwc⟩; have cc := (bwc.cell (p := ⟨g, off + k * 4, none⟩) hgw).trans c0)
        all_goals
          have B1 := hbel.drew.trans (bwc.mono hbel.size)
          have HA1 : Hid (LsAt wc g (off + k * 4) ⟨M0, M1, z + 1 + 1, z + 1 + 1 + 1⟩) := HA.out.below (w := wr.drew) (w' := wc) (m := wr.heap.size) bwc hgw
          obtain ⟨d0, d1, d2, d3⟩ := HA1.out
          dsimp only at d0 d1 d2 d3
          have hgwc : g < wc.heap.size := by have := B1.size; omega
          clear bwc CM0 c0 c1 c2 c3 hbel HA cc
          go_wp2_with fail
          go_region_with (go_at_call 132; refine (CM1.out _).mono ?_; rintro e wd ⟨rfl, bwd⟩; have cc := (bwd.cell (p := ⟨g, off + k * 4 + 1, none⟩) hgwc).trans d1)
          all_goals
            have B2 := B1.drew.trans (bwd.mono B1.size)
            have HA2 : Hid (LsAt wd g (off + k * 4) ⟨M0, M1, z + 1 + 1, z + 1 + 1 + 1⟩) := HA1.out.below (w := wc.drew) (w' := wd) (m := wc.heap.size) bwd hgwc
            obtain ⟨e0, e1, e2, e3⟩ := HA2.out
            dsimp only at e0 e1 e2 e3
            have hgwd : g < wd.heap.size := by have := B2.size; omega
            clear bwd CM1 d0 d1 d2 d3 B1 HA1 cc
            go_wp2_with fail
            refine ⟨⟨k + 1, z + 4, by omega, by go_num, by go_num, by omega, by omega, (by have := HZ.out; show _ = _; omega), B2⟩, ?_⟩
            simp [intOf]
            omega
      · have hki : ¬ (k : Int) < n := by omega
        have HZ2 : Hid (z = ((k0 + 4 * n : Nat) : Int)) := by
          have := HZ.out
          rwa [show k = n by omega] at this
        clear HZ
        go_wp2_with fail
        go_ret
        exact ⟨ret_int (by have := HZ2.out; omega), hbel⟩
end Go.Proofs.YtcjblhiihgdljaaGreat

namespace Go.Proofs.YtcjblhiihgdljaaGreat
open Go.RowKit
set_option linter.unusedVariables false

theorem set_same' {α : Type} {l : List α} {i : Nat} {v : α} (h : l[i]? = some v) : l.set i v = l := by
  refine List.ext_getElem? fun j => ?_
  rw [List.getElem?_set]
  split
  · rename_i e
    subst e
    rw [if_pos (List.getElem?_eq_some_iff.1 h).1, h]
  · rfl
theorem si_set2 (cs : List SiV) (k : Nat) (hk : k < cs.length) (M : ByteArray) (z : Int) : ((sicells cs).set (k * 3) (.string M)).set (k * 3 + 1) (.int .i64 z) = sicells (cs.set k ⟨M, z, (cs.getD k siv0).q⟩) := by
  rw [← setSi_set cs k hk]
  unfold setSi
  dsimp only
  rw [set_same' (i := k * 3 + 2)]
  rw [List.getElem?_set_ne (by omega), List.getElem?_set_ne (by omega)]
  exact (sicells_at cs k hk).2.2
theorem si_set1 (cs : List SiV) (k : Nat) (hk : k < cs.length) (z : Int) : (sicells cs).set (k * 3 + 1) (.int .i64 z) = sicells (cs.set k ⟨(cs.getD k siv0).n, z, (cs.getD k siv0).q⟩) := by
  rw [← si_set2 cs k hk, set_same' (i := k * 3)]
  exact (sicells_at cs k hk).1
theorem si_set3 (cs : List SiV) (k : Nat) (hk : k < cs.length) (q : Value) : (sicells cs).set (k * 3 + 2) q = sicells (cs.set k ⟨(cs.getD k siv0).n, (cs.getD k siv0).r, q⟩) := by
  rw [← setSi_set cs k hk]
  unfold setSi
  dsimp only
  rw [set_same' (i := k * 3) (sicells_at cs k hk).1, set_same' (i := k * 3 + 1) (sicells_at cs k hk).2.1]
/-- One site's cells that tell its name and its time have turned. -/
theorem SitPart.put {w : World} {base top : Nat} {cs : List SiV} {l : List SiteV} {k : Nat} {M : ByteArray} {z : Int} (h : SitPart w base top cs l) (hk : k < l.length) : SitPart w base top (cs.set k ⟨M, z, (cs.getD k siv0).q⟩) (l.set k ⟨M, z, (l.getD k sitv0).w⟩) := by
  obtain ⟨h1, h2, h3⟩ := h
  have hkc : k < cs.length := by omega
  have hq : ∀ i, i < cs.length → ((cs.set k ⟨M, z, (cs.getD k siv0).q⟩).getD i siv0).q = (cs.getD i siv0).q := fun i hi => by
    rw [si_getD_set cs k i hi]
    split
    · rename_i e; subst e; rfl
    · rfl
  refine ⟨by simp [h1], fun i hi => ?_, fun a b ha hb hne => ?_⟩
  · rw [List.length_set] at hi
    rw [si_getD_set cs k i (by omega), sit_getD_set l k i hi]
    split
    · rename_i e
      subst e
      exact ⟨rfl, rfl, (h2 k hi).2.2⟩
    · exact h2 i hi
  · rw [List.length_set] at ha hb
    rw [hq a ha, hq b hb]
    exact h3 a b ha hb hne
theorem SitX.put {w : World} {base top g cap : Nat} {cs : List SiV} {l : List SiteV} {k : Nat} {M : ByteArray} {z : Int} (h : SitX w base top (.slice (some ⟨g, 0, none⟩) l.length cap) cs l) (hz : top ≤ w.heap.size) (hk : k < l.length) :
    SitX ((w.setCell ⟨g, k * 3, none⟩ (.string M)).setCell ⟨g, k * 3 + 1, none⟩ (.int .i64 z)) base top (.slice (some ⟨g, 0, none⟩) l.length cap) (cs.set k ⟨M, z, (cs.getD k siv0).q⟩) (l.set k ⟨M, z, (l.getD k sitv0).w⟩) ∧ w.grownBy ((w.setCell ⟨g, k * 3, none⟩ (.string M)).setCell ⟨g, k * 3 + 1, none⟩ (.int .i64 z)) (some g) := by
  obtain ⟨S1, G1⟩ := h.row.stored (k * 3) (.string M)
  obtain ⟨S2, G2⟩ := S1.stored (k * 3 + 1) (.int .i64 z)
  have GG : w.grownBy _ (some g) := grow_trans G1 G2
  refine ⟨h.cells hz GG ?_ (h.part.put hk), GG⟩
  rw [List.length_set, ← si_set2 cs k (by rw [h.part.1]; exact hk)]
  exact S2
/-- No row of leases has turned. -/
def LKeep (w w' : World) : Prop := ∀ (b : Nat) (c : Array Value) (f : Nat × Nat), w.heap[b]? = some (Obj.cells c 51 f) → w'.heap[b]? = w.heap[b]?
theorem LKeep.refl (w : World) : LKeep w w := fun _ _ _ _ => rfl
theorem LKeep.trans {a b c : World} (h : LKeep a b) (k : LKeep b c) : LKeep a c := fun i x f hx => (k i x f ((h i x f hx).trans hx)).trans (h i x f hx)
theorem LKeep.of_below {a b : World} (h : Below a.heap.size a b) : LKeep a b := fun i x f hx => h.block i (Array.getElem?_eq_some_iff.1 hx).1
theorem LKeep.of_grown {a b : World} {B : Nat} {e : TypeId} {size n : Nat} {v : Value} {xs : List Value} (h : a.ownsRow B e size v n xs) (hg : a.grownBy b v.ownBlock) (ht : 51 ≠ e) : LKeep a b := fun i x f hx => hg.block i (Array.getElem?_eq_some_iff.1 hx).1 fun e2 => by
  obtain ⟨c, f2, h2⟩ := own_ty h e2.symm
  rw [hx] at h2
  injection h2 with h2
  injection h2 with _ h3
  exact ht h3
theorem LKeep.own {a b : World} {B n : Nat} {v : Value} {xs : List Value} (h : LKeep a b) (ho : a.ownsRow B 51 4 v n xs) : b.ownsRow B 51 4 v n xs := own_at ho fun i hi => by
  obtain ⟨c, f, h2⟩ := own_ty ho hi
  exact h i c f h2
def OnlyL (base top : Nat) (w w' : World) : Prop := Only base top w w' ∧ LKeep w w'
def kSit (k0 : Nat) (l : List SiteV) (i : Nat) : Nat := k0 + psum (fun j => 2 + 3 * (l.getD j sitv0).w.length) i
theorem kSit_succ (k0 : Nat) (l : List SiteV) (i : Nat) : kSit k0 l (i + 1) = kSit k0 l i + 2 + 3 * (l.getD i sitv0).w.length := by
  unfold kSit
  show k0 + (psum _ i + (2 + 3 * (l.getD i sitv0).w.length)) = _
  omega
theorem kSit_le (k0 : Nat) (l : List SiteV) {i j : Nat} (h : i ≤ j) : kSit k0 l i ≤ kSit k0 l j := by
  unfold kSit
  have := psum_le (fun j => 2 + 3 * (l.getD j sitv0).w.length) h
  omega
def mkSitX (k0 : Nat) (l : List SiteV) (i : Nat) : SiteV := ⟨markS (kSit k0 l i), ((kSit k0 l i + 1 : Nat) : Int), mkWtL (kSit k0 l i + 2) (l.getD i sitv0).w.length⟩
def mixSit (k0 : Nat) (l : List SiteV) (k : Nat) : List SiteV := (List.range l.length).map fun i => if i < k then mkSitX k0 l i else l.getD i sitv0
def markSit (k0 : Nat) (l : List SiteV) : List SiteV := mixSit k0 l l.length
theorem mixSit_length (k0 : Nat) (l : List SiteV) (k : Nat) : (mixSit k0 l k).length = l.length := by simp [mixSit]
theorem mixSit_at (k0 : Nat) (l : List SiteV) (k : Nat) {i : Nat} (h : i < l.length) : (mixSit k0 l k).getD i sitv0 = if i < k then mkSitX k0 l i else l.getD i sitv0 := getD_map _ _ _ _ h
theorem markSit_at (k0 : Nat) (l : List SiteV) {i : Nat} (h : i < l.length) : (markSit k0 l).getD i sitv0 = mkSitX k0 l i := by
  unfold markSit
  rw [mixSit_at k0 l _ h, if_pos h]
theorem sit_ext {l m : List SiteV} (h1 : l.length = m.length) (h2 : ∀ i, i < l.length → l.getD i sitv0 = m.getD i sitv0) : l = m := by
  refine List.ext_getElem? fun i => ?_
  by_cases hi : i < l.length
  · have := h2 i hi
    rw [List.getD_eq_getElem?_getD, List.getD_eq_getElem?_getD, List.getElem?_eq_getElem hi, List.getElem?_eq_getElem (by omega)] at this
    rw [List.getElem?_eq_getElem hi, List.getElem?_eq_getElem (by omega)]
    exact congrArg some this
  · rw [List.getElem?_eq_none (by omega), List.getElem?_eq_none (by omega)]
theorem mixSit_zero (k0 : Nat) (l : List SiteV) : mixSit k0 l 0 = l := sit_ext (mixSit_length ..) fun i hi => by
  rw [mixSit_length] at hi
  rw [mixSit_at k0 l 0 hi, if_neg (Nat.not_lt_zero _)]
theorem mixSit_set (k0 : Nat) (l : List SiteV) {k : Nat} (h : k < l.length) : (mixSit k0 l k).set k (mkSitX k0 l k) = mixSit k0 l (k + 1) := sit_ext (by rw [List.length_set, mixSit_length, mixSit_length]) fun i hi => by
  rw [List.length_set, mixSit_length] at hi
  rw [sit_getD_set _ _ _ (by rw [mixSit_length]; exact hi), mixSit_at k0 l k hi, mixSit_at k0 l (k + 1) hi]
  by_cases e : k = i
  · subst e
    rw [if_pos rfl, if_pos (by omega)]
  · rw [if_neg e]
    by_cases h2 : i < k
    · rw [if_pos h2, if_pos (by omega)]
    · rw [if_neg h2, if_neg (by omega)]
set_option maxRecDepth 100000 in
set_option maxHeartbeats 8000000 in
theorem markSits (l : List SiteV) (v : Value) (k0 base top : Nat) (w : World) (hk0 : 0 < k0) (hl : l.length ≤ 1073741824) (hK : kSit k0 l l.length ≤ 1000000000) (ht : top ≤ w.heap.size) (h : SitOwn w base top v l) :
    Calls Tryz.prog 86 #[v, .int .i64 (k0 : Int)] w fun e w' => e = .returned (.int .i64 ((kSit k0 l l.length : Nat) : Int)) ∧ SitOwn w' base top v (markSit k0 l) ∧ OnlyL base top w w' := by
  obtain ⟨cs, h⟩ := h
  by_cases h0 : l.length = 0
  · have hl : l = [] := List.eq_nil_of_length_eq_zero h0
    obtain ⟨ao, cap, rfl⟩ := h.slice
    subst hl
    have HI : Hid (SitOwn w base top (.slice ao 0 cap) (markSit k0 [])) := ⟨cs, h⟩
    clear h
    go_enter Tryz.func86, Tryz.ntmps86
    go_wp2
    refine wp_loop_rounds 1 ?_
    rw [rounds_succ]
    go_wp2
    go_ret
    exact ⟨rfl, HI.out, Only.refl _ _ _, LKeep.refl _⟩
  · obtain ⟨g, cap, rfl⟩ : ∃ g cap, v = .slice (some ⟨g, 0, none⟩) l.length cap := by
      rcases h.row.2 with ⟨_, h3⟩ | ⟨g, cap, cur, rfl, _⟩
      · exact absurd h3 h0
      · exact ⟨g, cap, rfl⟩
    have hgt : g < top := h.lid g rfl
    have hgb : base ≤ g := (h.row.lt g rfl).1
    have HI0 : Hid (SitOwn w base top (.slice (some ⟨g, 0, none⟩) l.length cap) (mixSit k0 l 0)) := by rw [mixSit_zero]; exact ⟨cs, h⟩
    have HKL : Hid (∀ i, i ≤ l.length → k0 ≤ kSit k0 l i ∧ kSit k0 l i ≤ 1000000000) := fun i hi => ⟨by unfold kSit; omega, Nat.le_trans (kSit_le k0 l hi) hK⟩
    clear h hK
    go_enter Tryz.func86, Tryz.ntmps86
    go_wp2
    go_loopw [1, 5] (fun a i wr => ∃ (k : Nat) (z : Int), k ≤ l.length ∧ i = .int .i64 k ∧ a = .int .i64 z ∧ 0 < z ∧ z ≤ 1000000000 ∧ Hid (z = ((kSit k0 l k : Nat) : Int)) ∧ Hid (SitOwn wr base top (.slice (some ⟨g, 0, none⟩) l.length cap) (mixSit k0 l k)) ∧ Hid (OnlyL base top w wr)) (fun _ i _ => l.length - (intOf i).toNat)
    case atStart => exact ⟨0, _, Nat.zero_le _, rfl, rfl, by omega, by have := (HKL.out 0 (Nat.zero_le _)); unfold kSit at this; simp [psum] at this; omega, rfl, HI0, Only.refl _ _ _, LKeep.refl _⟩
    case round =>
      clear HI0
      obtain ⟨k, z, hk, rfl, rfl, hz0, hz1, HZ, HI, HR⟩ := hrel
      by_cases hlt : k < l.length
      · have hki : (k : Int) < l.length := by omega
        have hzz := HZ.out
        have hks := kSit_succ k0 l k
        have hk1 := (HKL.out (k + 1) (by omega)).2
        have hz2 : z + 2 ≤ 1000000000 := by omega
        obtain ⟨cs, X⟩ := HI.out
        have hml := mixSit_length k0 l k
        have htw : top ≤ wr.heap.size := by have := HR.out.1.size; omega
        obtain ⟨M, hM⟩ : ∃ M, markS (kSit k0 l k) = M := ⟨_, rfl⟩
        have CM : Hid (∀ W, Calls Tryz.prog 132 #[.int .i64 z] W fun e w' => e = .returned (.string M) ∧ Below W.heap.size W w') := fun W => by
          have := markTextI z W (by omega) (by omega)
          rwa [show z.toNat = kSit k0 l k by omega, hM] at this
        have hcl : cs.length = l.length := by rw [X.part.1, hml]
        obtain ⟨q, hq⟩ : ∃ q, (cs.getD k siv0).q = q := ⟨_, rfl⟩
        have hlk : (mixSit k0 l k).getD k sitv0 = l.getD k sitv0 := by rw [mixSit_at k0 l k hlt, if_neg (Nat.lt_irrefl _)]
        have HS : Hid (∀ w1, Below wr.heap.size wr w1 →
            (w1.ownsRow base 43 3 (.slice (some ⟨g, 0, none⟩) l.length cap) l.length (sicells cs)) ∧
            (((w1.setCell ⟨g, k * 3, none⟩ (.string M)).setCell ⟨g, k * 3 + 1, none⟩ (.int .i64 (z + 1))).cell? ⟨g, k * 3 + 2, none⟩ = some q) ∧
            (((w1.setCell ⟨g, k * 3, none⟩ (.string M)).setCell ⟨g, k * 3 + 1, none⟩ (.int .i64 (z + 1))).ownsRow base 83 3 q (l.getD k sitv0).w.length (wtcells (l.getD k sitv0).w)) ∧
            ∀ w3, w3.ownsRow base 83 3 q (l.getD k sitv0).w.length (wtcells (mkWtL (kSit k0 l k + 2) (l.getD k sitv0).w.length)) → ((w1.setCell ⟨g, k * 3, none⟩ (.string M)).setCell ⟨g, k * 3 + 1, none⟩ (.int .i64 (z + 1))).grownBy w3 q.ownBlock →
              SitOwn w3 base top (.slice (some ⟨g, 0, none⟩) l.length cap) (mixSit k0 l (k + 1)) ∧ OnlyL base top w w3) := fun w1 b1 => by
          have X1 : SitX w1 base top (.slice (some ⟨g, 0, none⟩) l.length cap) cs (mixSit k0 l k) := X.same (Nat.le_refl _) fun b h1 h2 => b1.block b (by omega)
          have r1 := X1.row
          rw [hml] at r1
          have X1' : SitX w1 base top (.slice (some ⟨g, 0, none⟩) (mixSit k0 l k).length cap) cs (mixSit k0 l k) := by rw [hml]; exact X1
          obtain ⟨X2, G2⟩ := X1'.put (M := M) (z := z + 1) (by have := b1.size; omega) (k := k) (by rw [hml]; exact hlt)
          rw [hml] at X2
          have hkk : k < ((mixSit k0 l k).set k ⟨M, z + 1, ((mixSit k0 l k).getD k sitv0).w⟩).length := by rw [List.length_set, hml]; exact hlt
          have q2 := X2.part.2.1 k hkk
          rw [si_getD_set cs k k (by omega), sit_getD_set _ k k (by rw [hml]; exact hlt), if_pos rfl, if_pos rfl, hlk] at q2
          have r2 := X2.row
          rw [List.length_set, hml] at r2
          have hc : ((w1.setCell ⟨g, k * 3, none⟩ (.string M)).setCell ⟨g, k * 3 + 1, none⟩ (.int .i64 (z + 1))).cell? ⟨g, k * 3 + 2, none⟩ = some q := by
            rw [r2.cellAt (k * 3 + 2) (by omega)]
            have := (sicells_at (cs.set k ⟨M, z + 1, (cs.getD k siv0).q⟩) k (by rw [List.length_set]; omega)).2.2
            rw [si_getD_set cs k k (by omega), if_pos rfl] at this
            rw [this, hq]
          have q3 := q2.2.2.1
          dsimp only at q3
          rw [hq] at q3
          refine ⟨r1, hc, q3, fun w3 o3 g3 => ?_⟩
          have hz3 : top ≤ ((w1.setCell ⟨g, k * 3, none⟩ (.string M)).setCell ⟨g, k * 3 + 1, none⟩ (.int .i64 (z + 1))).heap.size := by simp; have := b1.size; omega
          have hqg : ((cs.set k ⟨M, z + 1, (cs.getD k siv0).q⟩).getD k siv0) = ⟨M, z + 1, q⟩ := by rw [si_getD_set cs k k (by omega), if_pos rfl, hq]
          have X3 := X2.turn (w' := w3) (y := mkSitX k0 l k) hkk hz3 (by rw [hqg]; exact g3) (by rw [hqg]; exact hM.symm) (by rw [hqg]; unfold mkSitX; dsimp only; omega) (by rw [hqg]; unfold mkSitX; dsimp only; rw [mkWtL_length]; exact o3)
          rw [List.set_set, mixSit_set k0 l hlt] at X3
          refine ⟨⟨_, X3⟩, HR.out.1.trans (((Only.of_below b1).trans (Only.of_grown G2 fun b hb => ?_)).trans (Only.of_grown g3 fun b hb => ⟨(q3.lt b hb).1, q2.2.2.2 b ?_⟩)), HR.out.2.trans (((LKeep.of_below b1).trans (LKeep.of_grown r1 G2 t_site_lease.symm)).trans (LKeep.of_grown q3 g3 t_lease_wait))⟩
          · injection hb with hb
            omega
          · rw [← hq] at hb; exact hb
        have HCW : Hid (∀ W, W.ownsRow base 83 3 q (l.getD k sitv0).w.length (wtcells (l.getD k sitv0).w) → Calls Tryz.prog 133 #[q, .int .i64 (z + 1 + 1)] W fun e w' => e = .returned (.int .i64 (((kSit k0 l k + 2) + 3 * (l.getD k sitv0).w.length : Nat) : Int)) ∧ w'.ownsRow base 83 3 q (l.getD k sitv0).w.length (wtcells (mkWtL (kSit k0 l k + 2) (l.getD k sitv0).w.length)) ∧ W.grownBy w' q.ownBlock) := fun W hW => by
          have := markWts (l.getD k sitv0).w q (kSit k0 l k + 2) base W (by omega) (by omega) hW
          rwa [show ((kSit k0 l k + 2 : Nat) : Int) = z + 1 + 1 by omega] at this
        obtain ⟨qa, qn, qc, hqs⟩ : ∃ qa qn qc, q = .slice qa qn qc := by
          have := (X.part.2.1 k (by rw [hml]; exact hlt)).2.2.1
          rw [hq] at this
          obtain ⟨a, c, e⟩ := (WtRow.of_own this).slice
          exact ⟨a, _, c, e⟩
        have hr0 := X.row
        rw [hml] at hr0
        obtain ⟨y, hy⟩ : ∃ y : Int, (((kSit k0 l k + 2) + 3 * (l.getD k sitv0).w.length : Nat) : Int) = y := ⟨_, rfl⟩
        have hy1 : y ≤ 1000000000 := by omega
        have hy0 : 0 < y := by omega
        have HY : Hid (y = ((kSit k0 l (k + 1) : Nat) : Int)) := hidM (by rw [← hy, hks])
        rw [hy] at HCW
        clear X HI HR hM hzz hks hml hlk htw hcl hq hy hk1 hr0
        subst hqs
        go_wp2_with fail
        refine (CM.out _).mono ?_
        rintro e w1 ⟨rfl, b1⟩
        obtain ⟨r1, c3, o3, HF⟩ := HS.out w1 b1
        have HF2 := hidM HF
        have CW2 := hidM (HCW.out _ o3)
        have hfz0 := r1.frozenAt (k * 3)
        have hfz1 := r1.frozenAt (k * 3 + 1)
        obtain ⟨⟨u0, hu0⟩, ⟨u1, hu1⟩, _⟩ := own_si r1 k hlt
        clear HF HCW HS CM b1 o3 r1
        go_wp2_with fail
        refine CW2.out.mono ?_
        rintro e w3 ⟨rfl, o3, g3⟩
        obtain ⟨S3, R3⟩ := HF2.out w3 o3 g3
        have S3 := hidM S3
        have R3 := hidM R3
        clear HF2 CW2 o3 g3 c3 hfz0 hfz1 hu0 hu1
        go_wp2_with fail
        go_roundw
        case rel => exact ⟨k + 1, y, by omega, by go_num, rfl, hy0, hy1, HY, S3, R3⟩
        case measure => simp [intOf]; omega
      · have hki : ¬ (k : Int) < l.length := by omega
        have hke : k = l.length := by omega
        have HE : Hid (Value.int .i64 z = .int .i64 ((kSit k0 l l.length : Nat) : Int)) := hidM (by rw [HZ.out, hke])
        have HI2 : Hid (SitOwn wr base top (.slice (some ⟨g, 0, none⟩) l.length cap) (markSit k0 l)) := hidM (by have := HI.out; rw [hke] at this; exact this)
        clear HI HZ hke
        go_wp2_with fail
        go_ret
        exact ⟨by first | exact congrArg _ HE.out | (rw [HE.out]; rfl), HI2.out, HR.out⟩
end Go.Proofs.YtcjblhiihgdljaaGreat

namespace Go.Proofs.YtcjblhiihgdljaaGreat
open Go.RowKit
set_option linter.unusedVariables false

set_option maxRecDepth 100000 in
set_option maxHeartbeats 8000000 in
theorem heldSits (l : List SiteV) (v : Value) (k0 : Nat) (w : World) (hk0 : 0 < k0) (hl : l.length ≤ 1073741824) (hK : kSit k0 l l.length ≤ 1000000000) (h : SitRow w v (markSit k0 l)) :
    Calls Tryz.prog 88 #[v, .int .i64 (k0 : Int)] w fun e w' => e = .returned (.int .i64 ((kSit k0 l l.length : Nat) : Int)) ∧ Below w.heap.size w w' := by
  have hml : (markSit k0 l).length = l.length := mixSit_length k0 l _
  rcases h.cases with ⟨h0, ao, cap, rfl⟩ | ⟨h0, g, off, cap, rfl, hg, hc⟩
  · have hl : l = [] := List.eq_nil_of_length_eq_zero (by rw [← hml, h0]; rfl)
    subst hl
    clear hml h0 h
    go_enter Tryz.func88, Tryz.ntmps88
    go_wp2
    refine wp_loop_rounds 1 ?_
    rw [rounds_succ]
    go_wp2
    go_ret
    exact ⟨rfl, Below.refl _ _⟩
  · rw [hml] at h0 hc ⊢
    have HC : Hid (∀ i, i < l.length → SitAt w g (off + i * 3) (mkSitX k0 l i)) := fun i hi => by
      have := hc i hi
      rwa [markSit_at k0 l hi] at this
    have HKL : Hid (∀ i, i ≤ l.length → k0 ≤ kSit k0 l i ∧ kSit k0 l i ≤ 1000000000) := fun i hi => ⟨by unfold kSit; omega, Nat.le_trans (kSit_le k0 l hi) hK⟩
    clear hc hml hK h
    go_enter Tryz.func88, Tryz.ntmps88
    go_wp2
    go_loopw [1, 5] (fun a i wr => ∃ (k : Nat) (z : Int), k ≤ l.length ∧ i = .int .i64 k ∧ a = .int .i64 z ∧ 0 < z ∧ z ≤ 1000000000 ∧ Hid (z = ((kSit k0 l k : Nat) : Int)) ∧ Below w.heap.size w wr) (fun _ i _ => l.length - (intOf i).toNat)
    case atStart => exact ⟨0, _, Nat.zero_le _, rfl, rfl, by omega, by have := (HKL.out 0 (Nat.zero_le _)); unfold kSit at this; simp [psum] at this; omega, rfl, Below.refl _ _⟩
    case round =>
      obtain ⟨k, z, hk, rfl, rfl, hz0, hz1, HZ, hbel⟩ := hrel
      by_cases hlt : k < l.length
      · have hki : (k : Int) < l.length := by omega
        have hzz := HZ.out
        have hks := kSit_succ k0 l k
        have hk1 := (HKL.out (k + 1) (by omega)).2
        have hz2 : z + 2 ≤ 1000000000 := by omega
        obtain ⟨M, hM⟩ : ∃ M, markS (kSit k0 l k) = M := ⟨_, rfl⟩
        have CM : Hid (∀ W, Calls Tryz.prog 132 #[.int .i64 z] W fun e w' => e = .returned (.string M) ∧ Below W.heap.size W w') := fun W => by
          have := markTextI z W (by omega) (by omega)
          rwa [show z.toNat = kSit k0 l k by omega, hM] at this
        have hA : SitAt wr g (off + k * 3) ⟨M, z + 1, mkWtL (kSit k0 l k + 2) (l.getD k sitv0).w.length⟩ := by
          have h1 := (HC.out k hlt).below hbel hg
          have e : mkSitX k0 l k = ⟨M, z + 1, mkWtL (kSit k0 l k + 2) (l.getD k sitv0).w.length⟩ := by
            unfold mkSitX
            rw [hM, show ((kSit k0 l k + 1 : Nat) : Int) = z + 1 by omega]
          rwa [e] at h1
        have hgw : g < wr.heap.size := by have := hbel.size; omega
        obtain ⟨c0, c1, q, c2, c3⟩ := hA
        have HCW : Hid (∀ W, Below wr.heap.size wr W → Calls Tryz.prog 134 #[q, .int .i64 (z + 1 + 1)] W fun e w' => e = .returned (.int .i64 (((kSit k0 l k + 2) + 3 * (l.getD k sitv0).w.length : Nat) : Int)) ∧ Below W.heap.size W w') := fun W hW => by
          have := heldWts (l.getD k sitv0).w.length q (kSit k0 l k + 2) W (by omega) (by omega) (c3.below hW)
          rwa [show ((kSit k0 l k + 2 : Nat) : Int) = z + 1 + 1 by omega] at this
        obtain ⟨qa, qc, hqs⟩ := c3.slice
        dsimp only at c0 c1 c2 hqs
        rw [mkWtL_length] at hqs
        obtain ⟨y, hy⟩ : ∃ y : Int, (((kSit k0 l k + 2) + 3 * (l.getD k sitv0).w.length : Nat) : Int) = y := ⟨_, rfl⟩
        have hy1 : y ≤ 1000000000 := by omega
        have hy0 : 0 < y := by omega
        have hyn : ¬ y < 0 := by omega
        have HY : Hid (y = ((kSit k0 l (k + 1) : Nat) : Int)) := hidM (by rw [← hy, hks])
        rw [hy] at HCW
        clear hM hzz hks hy hk1 c3
        generalize (l.getD k sitv0).w.length = XN at *
        subst hqs
        go_wp2_with fail
        go_region_with (go_at_call 132; refine (CM.out _).mono ?_; rintro e wc ⟨rfl, bwc⟩; have cc := (bwc.cell (p := ⟨g, off + k * 3, none⟩) hgw).trans c0)
        all_goals
          have B1 := hbel.drew.trans (bwc.mono hbel.size)
          have d1 := (bwc.cell (p := ⟨g, off + k * 3 + 1, none⟩) hgw).trans c1
          have d2 := (bwc.cell (p := ⟨g, off + k * 3 + 2, none⟩) hgw).trans c2
          have CW2 := hidM (HCW.out wc ((Below.refl _ _).drew.trans (bwc.mono (Nat.le_refl _))))
          clear bwc CM c0 c1 c2 hbel HCW
          go_wp2_with fail
          refine CW2.out.mono ?_
          rintro e wd ⟨rfl, bd⟩
          have B2 := B1.trans (bd.mono B1.size)
          clear bd CW2 d1 d2 B1
          go_wp2_with fail
          refine ⟨⟨k + 1, y, by omega, by go_num, rfl, hy0, hy1, HY, B2⟩, ?_⟩
          simp [intOf]
          omega
      · have hki : ¬ (k : Int) < l.length := by omega
        have HE : Hid (Value.int .i64 z = .int .i64 ((kSit k0 l l.length : Nat) : Int)) := hidM (by rw [HZ.out, show k = l.length by omega])
        clear HZ
        go_wp2_with fail
        go_ret
        exact ⟨by first | exact congrArg _ HE.out | (rw [HE.out]; rfl), hbel⟩
def kSch (si : List SiteV) (le : List LsV) : Nat := kSit 1 si si.length + 4 * le.length
set_option maxHeartbeats 8000000 in
theorem markSch (d sp nw sq : Int) (si : List SiteV) (le : List LsV) (p q : Value) (base top : Nat) (w : World) (hl : si.length ≤ 1073741824) (hK : kSch si le ≤ 1000000000) (ht : top ≤ w.heap.size) (h : SchOwn w base top p q si le) :
    Calls Tryz.prog 35 #[.agg #[.int .i64 d, .int .i64 sp, .int .i64 nw, .int .i64 sq, p, q], .int .i64 1] w fun e w' => e = .returned (.int .i64 ((kSch si le : Nat) : Int)) ∧ SchOwn w' base top p q (markSit 1 si) (mkLsL (kSit 1 si si.length) le.length) ∧ Only base top w w' := by
  obtain ⟨O, hO⟩ : ∃ O, O = w.alloc (.cells #[.int .i64 d, .int .i64 sp, .int .i64 nw, .int .i64 sq, p, q] 27) := ⟨_, rfl⟩
  have bO : Below w.heap.size w O := by rw [hO]; exact (Below.refl _ _).alloc (Nat.le_refl _) _
  have AO : BAt O w.heap.size [.int .i64 d, .int .i64 sp, .int .i64 nw, .int .i64 sq, p, q] := by rw [hO]; exact BAt.new w #[.int .i64 d, .int .i64 sp, .int .i64 nw, .int .i64 sq, p, q] _
  obtain ⟨a1, a2, a3⟩ := h.below ht bO
  have hk1 : 1 ≤ kSit 1 si si.length := by unfold kSit; omega
  have hk2 : kSit 1 si si.length ≤ 1000000000 := by unfold kSch at hK; omega
  have htO : top ≤ O.heap.size := by have := bO.size; omega
  have CM := hidM (markSits si p 1 base top O (by decide) hl hk2 htO a1)
  have CL : Hid (∀ W, W.ownsRow base 51 4 q le.length (lscells le) → Calls Tryz.prog 87 #[q, .int .i64 ((kSit 1 si si.length : Nat) : Int)] W fun e w' => e = .returned (.int .i64 ((kSch si le : Nat) : Int)) ∧ w'.ownsRow base 51 4 q le.length (lscells (mkLsL (kSit 1 si si.length) le.length)) ∧ W.grownBy w' q.ownBlock) := fun W hW => markLss le q (kSit 1 si si.length) base W (by omega) hK hW
  have HF : Hid (∀ W1, SitOwn W1 base top p (markSit 1 si) → OnlyL base top O W1 → BAt W1 w.heap.size [.int .i64 d, .int .i64 sp, .int .i64 nw, .int .i64 sq, p, q] ∧ W1.ownsRow base 51 4 q le.length (lscells le) ∧
      ∀ W2, W2.ownsRow base 51 4 q le.length (lscells (mkLsL (kSit 1 si si.length) le.length)) → W1.grownBy W2 q.ownBlock → SchOwn W2 base top p q (markSit 1 si) (mkLsL (kSit 1 si si.length) le.length) ∧ Only base top w W2) := fun W1 s1 h1 => by
    have l1 := h1.2.own a2
    refine ⟨AO.same h1.1.size (h1.1.block _ AO.2.2 (by omega)), l1, fun W2 o2 g2 => ⟨⟨?_, ?_, a3⟩, ?_⟩⟩
    · obtain ⟨cs, x⟩ := s1
      refine ⟨cs, own_at x.row fun b hb => g2.block b (x.row.lt b hb).2 fun e => apt_ty x.row l1 t_site_lease b hb e.symm, x.lid, x.part.1, fun i hi => ?_, x.part.2.2⟩
      have hq := x.part.2.1 i hi
      exact hq.same (Nat.le_refl _) fun b hb _ _ => g2.block b (hq.2.2.1.lt b hb).2 fun e => apt_ty l1 hq.2.2.1 t_lease_wait b e.symm hb
    · rw [mkLsL_length]; exact o2
    · exact ((Only.of_below bO).trans h1.1).trans (Only.of_grown g2 fun b hb => ⟨(l1.lt b hb).1, a3 b hb⟩)
  obtain ⟨_, _, hps⟩ := a1.row.slice
  obtain ⟨_, _, hqs⟩ := (LsRow.of_own a2).slice
  have c4 := AO.1 4 _ rfl
  clear a1 a2 a3 h AO
  obtain ⟨y, hy⟩ : ∃ y : Int, ((kSit 1 si si.length : Nat) : Int) = y := ⟨_, rfl⟩
  obtain ⟨y2, hy2⟩ : ∃ y : Int, ((kSch si le : Nat) : Int) = y := ⟨_, rfl⟩
  rw [hy] at CM CL
  rw [hy2] at CL ⊢
  generalize kSit 1 si si.length = KK at *
  clear hy hy2
  subst hps hqs
  go_enter Tryz.func35, Tryz.ntmps35
  go_upto_region 1 with fail
  rw [← hO]
  clear hO
  go_wp2_with fail
  refine CM.out.mono ?_
  rintro e w1 ⟨rfl, s1, o1⟩
  obtain ⟨A1, l1, HF1⟩ := HF.out w1 s1 o1
  have HF1 := hidM HF1
  have CL1 := hidM (CL.out w1 l1)
  have c5 := A1.1 5 _ rfl
  clear s1 o1 A1 l1 HF CM CL c4
  go_wp2_with fail
  refine CL1.out.mono ?_
  rintro e w2 ⟨rfl, o2, g2⟩
  obtain ⟨f1, f2⟩ := HF1.out w2 o2 g2
  have F1 := hidM f1
  have F2 := hidM f2
  clear f1 f2 o2 g2 CL1 HF1 c5
  go_wp2_with fail
  go_ret
  exact ⟨rfl, F1.out, F2.out⟩
set_option maxHeartbeats 8000000 in
theorem heldSch (d sp nw sq : Int) (si : List SiteV) (le : List LsV) (p q : Value) (w : World) (hl : si.length ≤ 1073741824) (hK : kSch si le ≤ 1000000000) (hp : SitRow w p (markSit 1 si)) (hq : LsRow w q (mkLsL (kSit 1 si si.length) le.length)) :
    Calls Tryz.prog 36 #[.agg #[.int .i64 d, .int .i64 sp, .int .i64 nw, .int .i64 sq, p, q], .int .i64 1] w fun e w' => e = .returned (.int .i64 ((kSch si le : Nat) : Int)) ∧ Below w.heap.size w w' := by
  obtain ⟨O, hO⟩ : ∃ O, O = w.alloc (.cells #[.int .i64 d, .int .i64 sp, .int .i64 nw, .int .i64 sq, p, q] 27) := ⟨_, rfl⟩
  have bO : Below w.heap.size w O := by rw [hO]; exact (Below.refl _ _).alloc (Nat.le_refl _) _
  have AO : BAt O w.heap.size [.int .i64 d, .int .i64 sp, .int .i64 nw, .int .i64 sq, p, q] := by rw [hO]; exact BAt.new w #[.int .i64 d, .int .i64 sp, .int .i64 nw, .int .i64 sq, p, q] _
  have hk1 : 1 ≤ kSit 1 si si.length := by unfold kSit; omega
  have hk2 : kSit 1 si si.length ≤ 1000000000 := by unfold kSch at hK; omega
  have CM := hidM (heldSits si p 1 O (by decide) hl hk2 (hp.below bO))
  have CQ : Hid (∀ W, Below w.heap.size w W → Calls Tryz.prog 89 #[q, .int .i64 ((kSit 1 si si.length : Nat) : Int)] W fun e w' => e = .returned (.int .i64 ((kSch si le : Nat) : Int)) ∧ Below W.heap.size W w') := fun W hW => heldLss le.length q (kSit 1 si si.length) W (by omega) hK (hq.below hW)
  obtain ⟨pa, pc, hpe⟩ := hp.slice
  obtain ⟨qa, qc, hqe⟩ := hq.slice
  have c4 := AO.1 4 _ rfl
  clear hp hq
  obtain ⟨y1, hy1⟩ : ∃ y : Int, ((kSit 1 si si.length : Nat) : Int) = y := ⟨_, rfl⟩
  obtain ⟨y2, hy2⟩ : ∃ y : Int, ((kSch si le : Nat) : Int) = y := ⟨_, rfl⟩
  have hn1 : ¬ y1 < 0 := by omega
  have hn2 : ¬ y2 < 0 := by unfold kSch at hy2; omega
  rw [hy1] at CM CQ
  rw [hy2] at CQ ⊢
  clear hy1 hy2 hk1 hk2 hK hl
  generalize (markSit 1 si).length = N1 at *
  generalize (mkLsL (kSit 1 si si.length) le.length).length = N2 at *
  subst hpe hqe
  go_enter Tryz.func36, Tryz.ntmps36
  go_upto_region 1 with fail
  rw [← hO]
  clear hO
  go_wp2_with fail
  refine CM.out.mono ?_
  rintro e w1 ⟨rfl, b1⟩
  have B1 := bO.trans (b1.mono bO.size)
  have c5 := (AO.below b1).1 5 _ rfl
  clear CM c4
  go_wp2_with fail
  refine (CQ.out _ B1).mono ?_
  rintro e w2 ⟨rfl, b2⟩
  have B2 := B1.trans (b2.mono B1.size)
  clear CQ c5
  go_wp2_with fail
  go_ret
  exact ⟨rfl, B2⟩
end Go.Proofs.YtcjblhiihgdljaaGreat

namespace Go.Proofs.YtcjblhiihgdljaaGreat
open Go.RowKit
set_option linter.unusedVariables false

def szWt (x : WtV) : Nat := x.k.size
def sumWt (l : List WtV) : Nat := l.length + psum (fun i => szWt (l.getD i wtv0)) l.length
def WtMx (l : List WtV) : Prop := l.length ≤ maxLen ∧ ∀ i, i < l.length → (l.getD i wtv0).k.size ≤ maxLen
theorem sumWt_len {l : List WtV} (h : sumWt l ≤ 1048576) : l.length ≤ 1048576 := by unfold sumWt at h; omega
set_option maxHeartbeats 2000000 in
theorem szWtC (x : WtV) (left : Int) (w : World) (h0 : 0 ≤ left) (h1 : left ≤ 1048576) (hm : x.k.size ≤ maxLen) :
    Calls Tryz.prog 184 #[.agg #[.string x.k, .int .i64 x.p, .int .i64 x.q], .int .i64 left] w fun e w' => e = .returned (.int .i64 (leftZ left (szWt x))) ∧ Below w.heap.size w w' := by
  obtain ⟨a, b, c⟩ := x
  have hbO : Below w.heap.size w (w.alloc (.cells #[.string a, .int .i64 b, .int .i64 c] 203)) := (Below.refl _ _).alloc (Nat.le_refl _) _
  have hm1 := hm
  clear hm
  unfold maxLen at hm1
  dsimp only at hm1 ⊢
  unfold szWt
  dsimp only
  by_cases hn0 : left - (a.size : Int) < 0
  · have HZ : Hid (leftZ left (a.size) = -1) := leftZ_no (by omega)
    go_enter Tryz.func184, Tryz.ntmps184
    go_wp2_with fail
    go_ret
    exact ⟨by rw [HZ.out]; rfl, by first | exact hbO | exact Below.refl _ _⟩
  · skip
    have HZ : Hid (leftZ left (a.size) = left - (a.size : Int)) := (leftZ_yes (by omega)).trans (by omega)
    go_enter Tryz.func184, Tryz.ntmps184
    go_wp2_with fail
    go_ret
    exact ⟨by rw [HZ.out]; rfl, by first | exact hbO | exact Below.refl _ _⟩
set_option maxHeartbeats 2000000 in
theorem szWts (l : List WtV) (v : Value) (left : Int) (w : World) (h0 : 0 ≤ left) (h1 : left ≤ 1048576) (hm : WtMx l) (h : WtRow w v l) :
    Calls Tryz.prog 152 #[v, .int .i64 left] w fun e w' => e = .returned (.int .i64 (leftZ left (sumWt l))) ∧ Below w.heap.size w w' := by
  obtain ⟨hml, hmx⟩ := hm
  unfold maxLen at hml
  have HMX : Hid (∀ i, i < l.length → (l.getD i wtv0).k.size ≤ maxLen) := hmx
  clear hmx
  by_cases hneg : left - (l.length : Int) < 0
  · obtain ⟨ao, cap, rfl⟩ := h.slice
    clear h
    have HZ : Hid (leftZ left (sumWt l) = -1) := leftZ_no (by unfold sumWt; omega)
    go_enter Tryz.func152, Tryz.ntmps152
    go_wp2
    go_ret
    exact ⟨by rw [HZ.out]; rfl, Below.refl _ _⟩
  · rcases h with ⟨rfl, ao, cap, rfl⟩ | ⟨hp, g, off, cap, rfl, hg, hc⟩
    · have HZ : Hid (leftZ left (sumWt []) = left) := (leftZ_yes (by show ((0 : Nat) : Int) ≤ left; omega)).trans (by show left - ((0 : Nat) : Int) = left; omega)
      go_enter Tryz.func152, Tryz.ntmps152
      have hneg' : ¬ left < 0 := by omega
      go_wp2
      refine wp_loop_rounds 1 ?_
      rw [rounds_succ]
      go_wp2
      go_ret
      exact ⟨by rw [HZ.out]; rfl, Below.refl _ _⟩
    · have HC : Hid (∀ i, i < l.length → WtAt w g (off + i * 3) (l.getD i wtv0)) := hc
      clear hc
      obtain ⟨F, hF⟩ : ∃ F : Nat → Nat, F = fun i => szWt (l.getD i wtv0) := ⟨_, rfl⟩
      have HS : Hid (sumWt l = l.length + psum F l.length) := by show _ = _; rw [hF]; rfl
      have HF : Hid (F = fun i => szWt (l.getD i wtv0)) := hF
      clear hF
      have hz : ∃ z : Int, left - l.length = z ∧ 0 ≤ z ∧ z ≤ left := ⟨_, rfl, by omega, by omega⟩
      obtain ⟨z0, hz0, hz1, hz2⟩ := hz
      have HZ0 : Hid (left - l.length = z0) := hz0
      clear hneg
      have hzn : ¬ z0 < 0 := by omega
      go_enter Tryz.func152, Tryz.ntmps152
      go_wp2
      clear hz0 hzn
      go_loopw [1, 5] (fun a i wr => ∃ (k : Nat) (z : Int), k ≤ l.length ∧ i = .int .i64 k ∧ a = .int .i64 z ∧ 0 ≤ z ∧ z ≤ left ∧ Hid (z = z0 - psum F k) ∧ Below w.heap.size w wr) (fun _ i _ => l.length - (intOf i).toNat)
      case atStart => exact ⟨0, z0, Nat.zero_le _, rfl, rfl, hz1, hz2, (by show z0 = z0 - ((0 : Nat) : Int); omega), Below.refl _ _⟩
      case round =>
        obtain ⟨k, z, hk, rfl, rfl, hy1, hy2, HX, hbel⟩ := hrel
        clear hz1 hz2
        by_cases hlt : k < l.length
        · have hki : (k : Int) < l.length := by omega
          obtain ⟨c0, c1, c2⟩ := (HC.out k hlt).below hbel hg
          have hx := HMX.out k hlt
          have HFk : Hid (F k = szWt (l.getD k wtv0)) := by show _ = _; rw [HF.out]
          have CR : Hid (∀ W, Calls Tryz.prog 184 #[.agg #[.string (l.getD k wtv0).k, .int .i64 (l.getD k wtv0).p, .int .i64 (l.getD k wtv0).q], .int .i64 z] W fun e w' => e = .returned (.int .i64 (leftZ z (szWt (l.getD k wtv0)))) ∧ Below W.heap.size W w') := fun W => szWtC (l.getD k wtv0) z W hy1 (by omega) hx
          clear hx
          generalize szWt (l.getD k wtv0) = xs at *
          generalize (l.getD k wtv0).k = x0 at *
          generalize (l.getD k wtv0).p = x1 at *
          generalize (l.getD k wtv0).q = x2 at *
          have hlz := leftZ_le (n := xs) hy1
          have HLY : Hid ((xs : Int) ≤ z → leftZ z xs = z - xs) := leftZ_yes
          have HLN : Hid (z < (xs : Int) → leftZ z xs = -1) := leftZ_no
          generalize leftZ z xs = z' at *
          obtain ⟨q1, q2, q3⟩ := hlz
          have HQ3 : Hid (0 ≤ z' → (xs : Int) ≤ z) := q3
          clear q3
          go_wp2_with fail
          refine (CR.out _).mono ?_
          rintro e w1 ⟨rfl, b1⟩
          have B1 := hbel.trans (b1.mono hbel.size)
          clear CR b1 hbel c0 c1 c2
          by_cases hn : z' < 0
          · have HZ : Hid (leftZ left (sumWt l) = -1) := leftZ_no (by
              have e1 := HX.out; have e2 := HZ0.out; have e3 := HFk.out
              have e4 := psum_le F (show k + 1 ≤ l.length from hlt)
              have e5 : psum F (k + 1) = psum F k + F k := rfl
              have e6 : z < (xs : Int) := by
                by_cases h : (xs : Int) ≤ z
                · have := HLY.out h; omega
                · omega
              rw [HS.out]; omega)
            clear HX
            go_wp2_with fail
            go_ret
            exact ⟨by rw [HZ.out]; rfl, B1⟩
          · have HN : Hid (z' = z0 - psum F (k + 1)) := by
              show _ = _
              have e1 := HX.out; have e3 := HFk.out
              have e5 : psum F (k + 1) = psum F k + F k := rfl
              have e6 := HLY.out (HQ3.out (by omega))
              omega
            clear HX
            go_wp2_with fail
            go_roundw
            case rel => exact ⟨k + 1, _, by omega, by go_num, rfl, by omega, by omega, HN, B1⟩
            case measure => simp [intOf]; omega
        · have hki : ¬ (k : Int) < l.length := by omega
          have HZ : Hid (leftZ left (sumWt l) = z) := by
            have e1 := HX.out; have e2 := HZ0.out
            rw [show k = l.length by omega] at e1
            show _ = _
            rw [HS.out, leftZ_yes (by omega)]
            omega
          clear HX
          go_wp2_with fail
          go_ret
          exact ⟨by rw [HZ.out]; rfl, hbel⟩
end Go.Proofs.YtcjblhiihgdljaaGreat

namespace Go.Proofs.YtcjblhiihgdljaaGreat
open Go.RowKit
set_option linter.unusedVariables false

def szLs (x : LsV) : Nat := x.k.size + x.s.size
def sumLs (l : List LsV) : Nat := l.length + psum (fun i => szLs (l.getD i lsv0)) l.length
def LsMx (l : List LsV) : Prop := l.length ≤ maxLen ∧ ∀ i, i < l.length → (l.getD i lsv0).k.size ≤ maxLen ∧ (l.getD i lsv0).s.size ≤ maxLen
theorem sumLs_len {l : List LsV} (h : sumLs l ≤ 1048576) : l.length ≤ 1048576 := by unfold sumLs at h; omega
set_option maxHeartbeats 2000000 in
theorem szLsC (x : LsV) (left : Int) (w : World) (h0 : 0 ≤ left) (h1 : left ≤ 1048576) (hm : x.k.size ≤ maxLen ∧ x.s.size ≤ maxLen) :
    Calls Tryz.prog 127 #[.agg #[.string x.k, .string x.s, .int .i64 x.p, .int .i64 x.u], .int .i64 left] w fun e w' => e = .returned (.int .i64 (leftZ left (szLs x))) ∧ Below w.heap.size w w' := by
  obtain ⟨a, b, c, d⟩ := x
  have hbO : Below w.heap.size w (w.alloc (.cells #[.string a, .string b, .int .i64 c, .int .i64 d] 151)) := (Below.refl _ _).alloc (Nat.le_refl _) _
  obtain ⟨hm1, hm2⟩ := hm
  unfold maxLen at hm1 hm2
  dsimp only at hm1 hm2 ⊢
  unfold szLs
  dsimp only
  by_cases hn0 : left - (a.size : Int) < 0
  · have HZ : Hid (leftZ left (a.size + b.size) = -1) := leftZ_no (by omega)
    go_enter Tryz.func127, Tryz.ntmps127
    go_wp2_with fail
    go_ret
    exact ⟨by rw [HZ.out]; rfl, by first | exact hbO | exact Below.refl _ _⟩
  · skip
    by_cases hn1 : left - (a.size : Int) - (b.size : Int) < 0
    · have HZ : Hid (leftZ left (a.size + b.size) = -1) := leftZ_no (by omega)
      go_enter Tryz.func127, Tryz.ntmps127
      go_wp2_with fail
      go_ret
      exact ⟨by rw [HZ.out]; rfl, by first | exact hbO | exact Below.refl _ _⟩
    · skip
      have HZ : Hid (leftZ left (a.size + b.size) = left - (a.size : Int) - (b.size : Int)) := (leftZ_yes (by omega)).trans (by omega)
      go_enter Tryz.func127, Tryz.ntmps127
      go_wp2_with fail
      go_ret
      exact ⟨by rw [HZ.out]; rfl, by first | exact hbO | exact Below.refl _ _⟩
set_option maxHeartbeats 2000000 in
theorem szLss (l : List LsV) (v : Value) (left : Int) (w : World) (h0 : 0 ≤ left) (h1 : left ≤ 1048576) (hm : LsMx l) (h : LsRow w v l) :
    Calls Tryz.prog 81 #[v, .int .i64 left] w fun e w' => e = .returned (.int .i64 (leftZ left (sumLs l))) ∧ Below w.heap.size w w' := by
  obtain ⟨hml, hmx⟩ := hm
  unfold maxLen at hml
  have HMX : Hid (∀ i, i < l.length → (l.getD i lsv0).k.size ≤ maxLen ∧ (l.getD i lsv0).s.size ≤ maxLen) := hmx
  clear hmx
  by_cases hneg : left - (l.length : Int) < 0
  · obtain ⟨ao, cap, rfl⟩ := h.slice
    clear h
    have HZ : Hid (leftZ left (sumLs l) = -1) := leftZ_no (by unfold sumLs; omega)
    go_enter Tryz.func81, Tryz.ntmps81
    go_wp2
    go_ret
    exact ⟨by rw [HZ.out]; rfl, Below.refl _ _⟩
  · rcases h with ⟨rfl, ao, cap, rfl⟩ | ⟨hp, g, off, cap, rfl, hg, hc⟩
    · have HZ : Hid (leftZ left (sumLs []) = left) := (leftZ_yes (by show ((0 : Nat) : Int) ≤ left; omega)).trans (by show left - ((0 : Nat) : Int) = left; omega)
      go_enter Tryz.func81, Tryz.ntmps81
      have hneg' : ¬ left < 0 := by omega
      go_wp2
      refine wp_loop_rounds 1 ?_
      rw [rounds_succ]
      go_wp2
      go_ret
      exact ⟨by rw [HZ.out]; rfl, Below.refl _ _⟩
    · have HC : Hid (∀ i, i < l.length → LsAt w g (off + i * 4) (l.getD i lsv0)) := hc
      clear hc
      obtain ⟨F, hF⟩ : ∃ F : Nat → Nat, F = fun i => szLs (l.getD i lsv0) := ⟨_, rfl⟩
      have HS : Hid (sumLs l = l.length + psum F l.length) := by show _ = _; rw [hF]; rfl
      have HF : Hid (F = fun i => szLs (l.getD i lsv0)) := hF
      clear hF
      have hz : ∃ z : Int, left - l.length = z ∧ 0 ≤ z ∧ z ≤ left := ⟨_, rfl, by omega, by omega⟩
      obtain ⟨z0, hz0, hz1, hz2⟩ := hz
      have HZ0 : Hid (left - l.length = z0) := hz0
      clear hneg
      have hzn : ¬ z0 < 0 := by omega
      go_enter Tryz.func81, Tryz.ntmps81
      go_wp2
      clear hz0 hzn
      go_loopw [1, 5] (fun a i wr => ∃ (k : Nat) (z : Int), k ≤ l.length ∧ i = .int .i64 k ∧ a = .int .i64 z ∧ 0 ≤ z ∧ z ≤ left ∧ Hid (z = z0 - psum F k) ∧ Below w.heap.size w wr) (fun _ i _ => l.length - (intOf i).toNat)
      case atStart => exact ⟨0, z0, Nat.zero_le _, rfl, rfl, hz1, hz2, (by show z0 = z0 - ((0 : Nat) : Int); omega), Below.refl _ _⟩
      case round =>
        obtain ⟨k, z, hk, rfl, rfl, hy1, hy2, HX, hbel⟩ := hrel
        clear hz1 hz2
        by_cases hlt : k < l.length
        · have hki : (k : Int) < l.length := by omega
          obtain ⟨c0, c1, c2, c3⟩ := (HC.out k hlt).below hbel hg
          have hx := HMX.out k hlt
          have HFk : Hid (F k = szLs (l.getD k lsv0)) := by show _ = _; rw [HF.out]
          have CR : Hid (∀ W, Calls Tryz.prog 127 #[.agg #[.string (l.getD k lsv0).k, .string (l.getD k lsv0).s, .int .i64 (l.getD k lsv0).p, .int .i64 (l.getD k lsv0).u], .int .i64 z] W fun e w' => e = .returned (.int .i64 (leftZ z (szLs (l.getD k lsv0)))) ∧ Below W.heap.size W w') := fun W => szLsC (l.getD k lsv0) z W hy1 (by omega) hx
          clear hx
          generalize szLs (l.getD k lsv0) = xs at *
          generalize (l.getD k lsv0).k = x0 at *
          generalize (l.getD k lsv0).s = x1 at *
          generalize (l.getD k lsv0).p = x2 at *
          generalize (l.getD k lsv0).u = x3 at *
          have hlz := leftZ_le (n := xs) hy1
          have HLY : Hid ((xs : Int) ≤ z → leftZ z xs = z - xs) := leftZ_yes
          have HLN : Hid (z < (xs : Int) → leftZ z xs = -1) := leftZ_no
          generalize leftZ z xs = z' at *
          obtain ⟨q1, q2, q3⟩ := hlz
          have HQ3 : Hid (0 ≤ z' → (xs : Int) ≤ z) := q3
          clear q3
          go_wp2_with fail
          refine (CR.out _).mono ?_
          rintro e w1 ⟨rfl, b1⟩
          have B1 := hbel.trans (b1.mono hbel.size)
          clear CR b1 hbel c0 c1 c2 c3
          by_cases hn : z' < 0
          · have HZ : Hid (leftZ left (sumLs l) = -1) := leftZ_no (by
              have e1 := HX.out; have e2 := HZ0.out; have e3 := HFk.out
              have e4 := psum_le F (show k + 1 ≤ l.length from hlt)
              have e5 : psum F (k + 1) = psum F k + F k := rfl
              have e6 : z < (xs : Int) := by
                by_cases h : (xs : Int) ≤ z
                · have := HLY.out h; omega
                · omega
              rw [HS.out]; omega)
            clear HX
            go_wp2_with fail
            go_ret
            exact ⟨by rw [HZ.out]; rfl, B1⟩
          · have HN : Hid (z' = z0 - psum F (k + 1)) := by
              show _ = _
              have e1 := HX.out; have e3 := HFk.out
              have e5 : psum F (k + 1) = psum F k + F k := rfl
              have e6 := HLY.out (HQ3.out (by omega))
              omega
            clear HX
            go_wp2_with fail
            go_roundw
            case rel => exact ⟨k + 1, _, by omega, by go_num, rfl, by omega, by omega, HN, B1⟩
            case measure => simp [intOf]; omega
        · have hki : ¬ (k : Int) < l.length := by omega
          have HZ : Hid (leftZ left (sumLs l) = z) := by
            have e1 := HX.out; have e2 := HZ0.out
            rw [show k = l.length by omega] at e1
            show _ = _
            rw [HS.out, leftZ_yes (by omega)]
            omega
          clear HX
          go_wp2_with fail
          go_ret
          exact ⟨by rw [HZ.out]; rfl, hbel⟩
end Go.Proofs.YtcjblhiihgdljaaGreat

namespace Go.Proofs.YtcjblhiihgdljaaGreat
open Go.RowKit
set_option linter.unusedVariables false

def szSit (x : SiteV) : Nat := x.n.size + sumWt x.w
def sumSit (l : List SiteV) : Nat := l.length + psum (fun i => szSit (l.getD i sitv0)) l.length
def SitMx (l : List SiteV) : Prop := l.length ≤ maxLen ∧ ∀ i, i < l.length → (l.getD i sitv0).n.size ≤ maxLen ∧ WtMx (l.getD i sitv0).w
theorem sumSit_len {l : List SiteV} (h : sumSit l ≤ 1048576) : l.length ≤ 1048576 := by unfold sumSit at h; omega
theorem leftZ_neg {left : Int} {a b : Nat} (h0 : 0 ≤ left) (h : leftZ left a < 0) : leftZ left (a + b) = -1 := leftZ_no (by
  by_cases hh : (a : Int) ≤ left
  · have := leftZ_yes hh; omega
  · omega)
set_option maxHeartbeats 4000000 in
theorem szSitC (x : SiteV) (q : Value) (left : Int) (w : World) (h0 : 0 ≤ left) (h1 : left ≤ 1048576) (hm1 : x.n.size ≤ maxLen) (hm2 : WtMx x.w) (hq : WtRow w q x.w) :
    Calls Tryz.prog 126 #[.agg #[.string x.n, .int .i64 x.r, q], .int .i64 left] w fun e w' => e = .returned (.int .i64 (leftZ left (szSit x))) ∧ Below w.heap.size w w' := by
  obtain ⟨n, r, l⟩ := x
  dsimp only at hm1 hm2 hq ⊢
  unfold szSit
  dsimp only
  obtain ⟨O, hO⟩ : ∃ O, O = w.alloc (.cells #[.string n, .int .i64 r, q] 149) := ⟨_, rfl⟩
  have bO : Below w.heap.size w O := by rw [hO]; exact (Below.refl _ _).alloc (Nat.le_refl _) _
  have AO : BAt O w.heap.size [.string n, .int .i64 r, q] := by rw [hO]; exact BAt.new w #[.string n, .int .i64 r, q] _
  unfold maxLen at hm1
  have CR : Hid (∀ W z, Below w.heap.size w W → 0 ≤ z → z ≤ 1048576 → Calls Tryz.prog 152 #[q, .int .i64 z] W fun e w' => e = .returned (.int .i64 (leftZ z (sumWt l))) ∧ Below W.heap.size W w') := fun W z hW h2 h3 => szWts l q z W h2 h3 hm2 (hq.below hW)
  obtain ⟨qa, qc, rfl⟩ := hq.slice
  clear hq hm2
  have c0 := AO.1 0 _ rfl
  have c2 := AO.1 2 _ rfl
  by_cases hn : left - (n.size : Int) < 0
  · have HZ : Hid (leftZ left (n.size + sumWt l) = -1) := leftZ_no (by omega)
    go_enter Tryz.func126, Tryz.ntmps126
    go_upto_region 1 with fail
    rw [← hO]
    clear hO
    go_wp2_with fail
    go_ret
    exact ⟨by rw [HZ.out]; rfl, bO⟩
  · obtain ⟨z, hz⟩ : ∃ z : Int, left - (n.size : Int) = z := ⟨_, rfl⟩
    have hz0 : 0 ≤ z := by omega
    have hz1 : z ≤ 1048576 := by omega
    have hz2 : ¬ z < 0 := by omega
    have HZ : Hid (leftZ left (n.size + sumWt l) = leftZ z (sumWt l)) := by
      show _ = _
      rw [← leftZ_two h0 (by omega), leftZ_yes (show (n.size : Int) ≤ left by omega), hz]
    have CR2 := hidM (CR.out O z bO hz0 hz1)
    have hl := leftZ_le (n := sumWt l) hz0
    generalize leftZ z (sumWt l) = y at *
    obtain ⟨hl1, _, _⟩ := hl
    clear CR
    go_enter Tryz.func126, Tryz.ntmps126
    go_upto_region 1 with fail
    rw [← hO]
    clear hO
    go_wp2_with fail
    refine CR2.out.mono ?_
    rintro e w1 ⟨rfl, b1⟩
    have B1 := bO.trans (b1.mono bO.size)
    clear CR2 b1
    by_cases hy : y < 0
    · obtain rfl : y = -1 := by omega
      go_wp2_with fail
      go_ret
      exact ⟨by rw [HZ.out]; rfl, B1⟩
    · go_wp2_with fail
      go_ret
      exact ⟨by rw [HZ.out]; rfl, B1⟩
set_option maxHeartbeats 4000000 in
theorem szSits (l : List SiteV) (v : Value) (left : Int) (w : World) (h0 : 0 ≤ left) (h1 : left ≤ 1048576) (hm : SitMx l) (h : SitRow w v l) :
    Calls Tryz.prog 80 #[v, .int .i64 left] w fun e w' => e = .returned (.int .i64 (leftZ left (sumSit l))) ∧ Below w.heap.size w w' := by
  obtain ⟨hml, hmx⟩ := hm
  unfold maxLen at hml
  have HMX : Hid (∀ i, i < l.length → (l.getD i sitv0).n.size ≤ maxLen ∧ WtMx (l.getD i sitv0).w) := hmx
  clear hmx
  by_cases hneg : left - (l.length : Int) < 0
  · obtain ⟨ao, cap, rfl⟩ := h.slice
    clear h
    have HZ : Hid (leftZ left (sumSit l) = -1) := leftZ_no (by unfold sumSit; omega)
    go_enter Tryz.func80, Tryz.ntmps80
    go_wp2
    go_ret
    exact ⟨by rw [HZ.out]; rfl, Below.refl _ _⟩
  · rcases h.cases with ⟨rfl, ao, cap, rfl⟩ | ⟨hp, g, off, cap, rfl, hg, hc⟩
    · have HZ : Hid (leftZ left (sumSit []) = left) := (leftZ_yes (by show ((0 : Nat) : Int) ≤ left; omega)).trans (by show left - ((0 : Nat) : Int) = left; omega)
      clear h
      go_enter Tryz.func80, Tryz.ntmps80
      have hneg' : ¬ left < 0 := by omega
      go_wp2
      refine wp_loop_rounds 1 ?_
      rw [rounds_succ]
      go_wp2
      go_ret
      exact ⟨by rw [HZ.out]; rfl, Below.refl _ _⟩
    · have HC : Hid (∀ i, i < l.length → SitAt w g (off + i * 3) (l.getD i sitv0)) := hc
      clear hc h
      obtain ⟨F, hF⟩ : ∃ F : Nat → Nat, F = fun i => szSit (l.getD i sitv0) := ⟨_, rfl⟩
      have HS : Hid (sumSit l = l.length + psum F l.length) := by show _ = _; rw [hF]; rfl
      have HF : Hid (F = fun i => szSit (l.getD i sitv0)) := hF
      clear hF
      have hz : ∃ z : Int, left - l.length = z ∧ 0 ≤ z ∧ z ≤ left := ⟨_, rfl, by omega, by omega⟩
      obtain ⟨z0, hz0, hz1, hz2⟩ := hz
      have HZ0 : Hid (left - l.length = z0) := hz0
      clear hneg
      have hzn : ¬ z0 < 0 := by omega
      go_enter Tryz.func80, Tryz.ntmps80
      go_wp2
      clear hz0 hzn
      go_loopw [1, 5] (fun a i wr => ∃ (k : Nat) (z : Int), k ≤ l.length ∧ i = .int .i64 k ∧ a = .int .i64 z ∧ 0 ≤ z ∧ z ≤ left ∧ Hid (z = z0 - psum F k) ∧ Below w.heap.size w wr) (fun _ i _ => l.length - (intOf i).toNat)
      case atStart => exact ⟨0, z0, Nat.zero_le _, rfl, rfl, hz1, hz2, (by show z0 = z0 - ((0 : Nat) : Int); omega), Below.refl _ _⟩
      case round =>
        obtain ⟨k, z, hk, rfl, rfl, hy1, hy2, HX, hbel⟩ := hrel
        clear hz1 hz2
        by_cases hlt : k < l.length
        · have hki : (k : Int) < l.length := by omega
          obtain ⟨c0, c1, q, c2, c3⟩ := (HC.out k hlt).below hbel hg
          have HFk : Hid (F k = szSit (l.getD k sitv0)) := by show _ = _; rw [HF.out]
          have CR : Hid (Calls Tryz.prog 126 #[.agg #[.string (l.getD k sitv0).n, .int .i64 (l.getD k sitv0).r, q], .int .i64 z] wr fun e w' => e = .returned (.int .i64 (leftZ z (szSit (l.getD k sitv0)))) ∧ Below wr.heap.size wr w') := szSitC (l.getD k sitv0) q z wr hy1 (by omega) (HMX.out k hlt).1 (HMX.out k hlt).2 c3
          obtain ⟨xa, xc, hxx⟩ := c3.slice
          clear c3
          generalize szSit (l.getD k sitv0) = XS at *
          generalize (l.getD k sitv0).n = x0 at *
          generalize (l.getD k sitv0).r = x1 at *
          generalize (l.getD k sitv0).w.length = XN at *
          subst hxx
          have hlz := leftZ_le (n := XS) hy1
          have HLY : Hid ((XS : Int) ≤ z → leftZ z XS = z - XS) := leftZ_yes
          have HLN : Hid (z < (XS : Int) → leftZ z XS = -1) := leftZ_no
          generalize leftZ z XS = z' at *
          obtain ⟨q1, q2, q3⟩ := hlz
          have HQ3 : Hid (0 ≤ z' → (XS : Int) ≤ z) := q3
          clear q3
          go_wp2_with fail
          refine CR.out.mono ?_
          rintro e w1 ⟨rfl, b1⟩
          have B1 := hbel.trans (b1.mono hbel.size)
          clear CR b1 hbel c0 c1 c2
          by_cases hn : z' < 0
          · have HZ : Hid (leftZ left (sumSit l) = -1) := leftZ_no (by
              have e1 := HX.out; have e2 := HZ0.out; have e3 := HFk.out
              have e4 := psum_le F (show k + 1 ≤ l.length from hlt)
              have e5 : psum F (k + 1) = psum F k + F k := rfl
              have e6 : z < (XS : Int) := by
                by_cases h : (XS : Int) ≤ z
                · have := HLY.out h; omega
                · omega
              rw [HS.out]; omega)
            clear HX
            go_wp2_with fail
            go_ret
            exact ⟨by rw [HZ.out]; rfl, B1⟩
          · have HN : Hid (z' = z0 - psum F (k + 1)) := by
              show _ = _
              have e1 := HX.out; have e3 := HFk.out
              have e5 : psum F (k + 1) = psum F k + F k := rfl
              have e6 := HLY.out (HQ3.out (by omega))
              omega
            clear HX
            go_wp2_with fail
            go_roundw
            case rel => exact ⟨k + 1, _, by omega, by go_num, rfl, by omega, by omega, HN, B1⟩
            case measure => simp [intOf]; omega
        · have hki : ¬ (k : Int) < l.length := by omega
          have HZ : Hid (leftZ left (sumSit l) = z) := by
            have e1 := HX.out; have e2 := HZ0.out
            rw [show k = l.length by omega] at e1
            show _ = _
            rw [HS.out, leftZ_yes (by omega)]
            omega
          clear HX
          go_wp2_with fail
          go_ret
          exact ⟨by rw [HZ.out]; rfl, hbel⟩
set_option maxHeartbeats 4000000 in
theorem szSch (d sp nw sq : Int) (si : List SiteV) (le : List LsV) (p q : Value) (left : Int) (w : World) (h0 : 0 ≤ left) (h1 : left ≤ 1048576) (hm1 : SitMx si) (hm2 : LsMx le) (hp : SitRow w p si) (hq : LsRow w q le) :
    Calls Tryz.prog 32 #[.agg #[.int .i64 d, .int .i64 sp, .int .i64 nw, .int .i64 sq, p, q], .int .i64 left] w fun e w' => e = .returned (.int .i64 (leftZ left (sumSit si + sumLs le))) ∧ Below w.heap.size w w' := by
  obtain ⟨O, hO⟩ : ∃ O, O = w.alloc (.cells #[.int .i64 d, .int .i64 sp, .int .i64 nw, .int .i64 sq, p, q] 57) := ⟨_, rfl⟩
  have bO : Below w.heap.size w O := by rw [hO]; exact (Below.refl _ _).alloc (Nat.le_refl _) _
  have AO : BAt O w.heap.size [.int .i64 d, .int .i64 sp, .int .i64 nw, .int .i64 sq, p, q] := by rw [hO]; exact BAt.new w #[.int .i64 d, .int .i64 sp, .int .i64 nw, .int .i64 sq, p, q] _
  have CM := hidM (szSits si p left O h0 h1 hm1 (hp.below bO))
  have hlz := leftZ_le (n := sumSit si) h0
  have CR : Hid (∀ W, Below w.heap.size w W → 0 ≤ leftZ left (sumSit si) → Calls Tryz.prog 81 #[q, .int .i64 (leftZ left (sumSit si))] W fun e w' => e = .returned (.int .i64 (leftZ (leftZ left (sumSit si)) (sumLs le))) ∧ Below W.heap.size W w') := fun W hW h => szLss le q _ W h (by omega) hm2 (hq.below hW)
  have HT : Hid (0 ≤ leftZ left (sumSit si) → leftZ (leftZ left (sumSit si)) (sumLs le) = leftZ left (sumSit si + sumLs le)) := fun h => leftZ_two h0 (hlz.2.2 h)
  have HN : Hid (leftZ left (sumSit si) < 0 → leftZ left (sumSit si + sumLs le) = -1) := fun h => leftZ_neg h0 h
  obtain ⟨pa, pc, rfl⟩ := hp.slice
  obtain ⟨qa, qc, rfl⟩ := hq.slice
  have hl2 := hlz.1
  clear hp hq hlz
  generalize leftZ left (sumSit si) = z at *
  have hz2 := leftZ_le (left := z) (n := sumLs le)
  generalize leftZ z (sumLs le) = z2 at *
  have c4 := AO.1 4 _ rfl
  go_enter Tryz.func32, Tryz.ntmps32
  go_upto_region 1 with fail
  rw [← hO]
  clear hO
  go_wp2_with fail
  refine CM.out.mono ?_
  rintro e w1 ⟨rfl, b1⟩
  have B1 := bO.trans (b1.mono bO.size)
  have c5 := (AO.below b1).1 5 _ rfl
  clear CM c4
  by_cases hz : z < 0
  · have HE := hidM (HN.out hz)
    go_wp2_with fail
    go_ret
    exact ⟨by rw [HE.out]; rfl, B1⟩
  · have hz0 : 0 ≤ z := by omega
    obtain ⟨y1, y2, y3⟩ := hz2 hz0
    clear y3
    have HE := hidM (HT.out hz0)
    have CR2 := hidM (CR.out w1 B1 hz0)
    clear CR HT HN
    go_wp2_with fail
    refine CR2.out.mono ?_
    rintro e w2 ⟨rfl, b2⟩
    have B2 := B1.trans (b2.mono B1.size)
    by_cases hz3 : z2 < 0
    · obtain rfl : z2 = -1 := by omega
      go_wp2_with fail
      go_ret
      exact ⟨by rw [← HE.out]; rfl, B2⟩
    · go_wp2_with fail
      go_ret
      exact ⟨by rw [← HE.out]; rfl, B2⟩
end Go.Proofs.YtcjblhiihgdljaaGreat

namespace Go.Proofs.YtcjblhiihgdljaaGreat
open Go.RowKit
set_option linter.unusedVariables false

theorem waits_len {si : List SiteV} {le : List LsV} (h : sumSit si + sumLs le ≤ 1048576) : si.length + (waitL si).length + le.length ≤ 1048576 := by
  rw [waitL_len]
  have key : ∀ n, psum (fun i => (si.getD i sitv0).w.length) n ≤ psum (fun i => szSit (si.getD i sitv0)) n := by
    intro n
    induction n with
    | zero => exact Nat.le_refl _
    | succ n ih =>
      show psum _ n + (si.getD n sitv0).w.length ≤ psum _ n + szSit (si.getD n sitv0)
      have : (si.getD n sitv0).w.length ≤ szSit (si.getD n sitv0) := by unfold szSit sumWt; omega
      omega
  have := key si.length
  unfold sumSit sumLs at h
  omega
theorem kSch_len (si : List SiteV) (le : List LsV) : kSch si le = 1 + 2 * si.length + 3 * (waitL si).length + 4 * le.length := by
  unfold kSch kSit
  rw [waitL_len]
  have key : ∀ n, psum (fun j => 2 + 3 * (si.getD j sitv0).w.length) n = 2 * n + 3 * psum (fun i => (si.getD i sitv0).w.length) n := by
    intro n
    induction n with
    | zero => rfl
    | succ n ih =>
      show psum _ n + (2 + 3 * (si.getD n sitv0).w.length) = 2 * (n + 1) + 3 * (psum _ n + (si.getD n sitv0).w.length)
      rw [ih]; omega
  rw [key]
  omega
theorem few_of {si : List SiteV} {M : Nat} (hM : M ≤ 1073741824) (h : si.length + (waitL si).length ≤ M) : SitFew si := by
  refine ⟨by omega, fun i hi => ?_⟩
  have := psum_at (fun i => (si.getD i sitv0).w.length) hi
  rw [waitL_len] at h
  omega
theorem sch_sz {si : List SiteV} {le : List LsV} (h : sumSit si + sumLs le ≤ 1048576) : SitFew si ∧ le.length ≤ 1048576 ∧ si.length ≤ 1048576 ∧ kSch si le ≤ 1000000000 ∧ (waitL si).length ≤ 1048576 := by
  have := waits_len h
  refine ⟨few_of (M := 1048576) (by omega) (by omega), by omega, by omega, ?_, by omega⟩
  rw [kSch_len]
  omega
structure ScSt (U W : World) (D2 B3 D3 : Nat) (d sp nw sq : Int) (p2 q2 : Value) (xi : List SiteV) (xl : List LsV) (d' sp' nw' sq' : Int) (p3 q3 : Value) (gi : List SiteV) (gl : List LsV) : Prop where
  b : Below U.heap.size U W
  x : SchOwn W U.heap.size D2 p2 q2 xi xl
  g : SchOwn W B3 D3 p3 q3 gi gl
  a2 : BAt W D2 [.int .i64 d, .int .i64 sp, .int .i64 nw, .int .i64 sq, p2, q2]
  a3 : BAt W D3 [.int .i64 d', .int .i64 sp', .int .i64 nw', .int .i64 sq', p3, q3]
  l1 : U.heap.size ≤ D2
  l2 : D2 < B3
  l3 : B3 ≤ D3
  l4 : D3 < W.heap.size
section
variable {U W W' : World} {D2 B3 D3 : Nat} {d sp nw sq d' sp' nw' sq' : Int} {p2 q2 p3 q3 : Value} {xi gi xi' gi' : List SiteV} {xl gl xl' gl' : List LsV}
theorem ScSt.below (h : ScSt U W D2 B3 D3 d sp nw sq p2 q2 xi xl d' sp' nw' sq' p3 q3 gi gl) (hb : Below W.heap.size W W') : ScSt U W' D2 B3 D3 d sp nw sq p2 q2 xi xl d' sp' nw' sq' p3 q3 gi gl := by
  have := h.l1; have := h.l2; have := h.l3; have := h.l4
  exact ⟨h.b.trans (hb.mono h.b.size), h.x.below (by omega) hb, h.g.below (by omega) hb, h.a2.below hb, h.a3.below hb, h.l1, h.l2, h.l3, Nat.lt_of_lt_of_le h.l4 hb.size⟩
theorem ScSt.markX (h : ScSt U W D2 B3 D3 d sp nw sq p2 q2 xi xl d' sp' nw' sq' p3 q3 gi gl) (ho : Only U.heap.size D2 W W') (hs : SchOwn W' U.heap.size D2 p2 q2 xi' xl') : ScSt U W' D2 B3 D3 d sp nw sq p2 q2 xi' xl' d' sp' nw' sq' p3 q3 gi gl := by
  have := h.l1; have := h.l2; have := h.l3; have := h.l4
  exact ⟨h.b.trans (ho.below h.b.size), hs, h.g.same (Nat.le_refl _) fun b h1 h2 => ho.block b (by omega) (by omega), h.a2.same ho.size (ho.block _ (by omega) (by omega)), h.a3.same ho.size (ho.block _ (by omega) (by omega)), h.l1, h.l2, h.l3, Nat.lt_of_lt_of_le h.l4 ho.size⟩
theorem ScSt.markG (h : ScSt U W D2 B3 D3 d sp nw sq p2 q2 xi xl d' sp' nw' sq' p3 q3 gi gl) (ho : Only B3 D3 W W') (hs : SchOwn W' B3 D3 p3 q3 gi' gl') : ScSt U W' D2 B3 D3 d sp nw sq p2 q2 xi xl d' sp' nw' sq' p3 q3 gi' gl' := by
  have := h.l1; have := h.l2; have := h.l3; have := h.l4
  exact ⟨h.b.trans ((ho.below (by omega)).mono (by omega)), h.x.same (Nat.le_refl _) fun b h1 h2 => ho.block b (by omega) (by omega), hs, h.a2.same ho.size (ho.block _ (by omega) (by omega)), h.a3.same ho.size (ho.block _ (by omega) (by omega)), h.l1, h.l2, h.l3, Nat.lt_of_lt_of_le h.l4 ho.size⟩
theorem ScSt.new {wd U2 we U3 : World} (hx : SchOwn wd U.heap.size wd.heap.size p2 q2 xi xl) (bx : Below U.heap.size U wd) (h2 : U2 = wd.alloc (.cells #[.int .i64 d, .int .i64 sp, .int .i64 nw, .int .i64 sq, p2, q2] 27)) (hg : SchOwn we U2.heap.size we.heap.size p3 q3 gi gl) (bg : Below U2.heap.size U2 we) (h3 : U3 = we.alloc (.cells #[.int .i64 d', .int .i64 sp', .int .i64 nw', .int .i64 sq', p3, q3] 27)) :
    ScSt U U3 wd.heap.size U2.heap.size we.heap.size d sp nw sq p2 q2 xi xl d' sp' nw' sq' p3 q3 gi gl := by
  have b2 : Below wd.heap.size wd U2 := by rw [h2]; exact (Below.refl _ _).alloc (Nat.le_refl _) _
  have b3 : Below we.heap.size we U3 := by rw [h3]; exact (Below.refl _ _).alloc (Nat.le_refl _) _
  have z2 : U2.heap.size = wd.heap.size + 1 := by rw [h2]; simp
  have z3 : U3.heap.size = we.heap.size + 1 := by rw [h3]; simp
  have s1 := bx.size; have s2 := bg.size
  have A2 : BAt U2 wd.heap.size [.int .i64 d, .int .i64 sp, .int .i64 nw, .int .i64 sq, p2, q2] := by rw [h2]; exact BAt.new wd #[.int .i64 d, .int .i64 sp, .int .i64 nw, .int .i64 sq, p2, q2] _
  have A3 : BAt U3 we.heap.size [.int .i64 d', .int .i64 sp', .int .i64 nw', .int .i64 sq', p3, q3] := by rw [h3]; exact BAt.new we #[.int .i64 d', .int .i64 sp', .int .i64 nw', .int .i64 sq', p3, q3] _
  exact ⟨((bx.trans (b2.mono s1)).trans (bg.mono (by omega))).trans (b3.mono (by omega)), ((hx.below (Nat.le_refl _) b2).below (by omega) bg).below (by omega) b3, hg.below (Nat.le_refl _) b3, (A2.below bg).below b3, A3, s1, by omega, s2, by omega⟩
end
/-- What stands while the laws ask a row of numbers that comes of queues. -/
structure RpSt (U W : World) (D B3 A0 : Nat) (d sp nw sq : Int) (p2 q2 : Value) (xi : List SiteV) (xl : List LsV) (va vb : Value) (n : Nat) (xs ys : List Value) : Prop where
  b : Below U.heap.size U W
  x : SchOwn W U.heap.size D p2 q2 xi xl
  a2 : BAt W D [.int .i64 d, .int .i64 sp, .int .i64 nw, .int .i64 sq, p2, q2]
  ra : W.ownsRow A0 3 1 va n xs
  rb : W.ownsRow B3 3 1 vb n ys
  ta : ∀ b, va.ownBlock = some b → b < U.heap.size
  l1 : U.heap.size ≤ D
  l2 : D < B3
  l3 : B3 ≤ W.heap.size
section
variable {U W W' : World} {D B3 A0 : Nat} {d sp nw sq : Int} {p2 q2 va vb : Value} {xi xi' : List SiteV} {xl xl' : List LsV} {n : Nat} {xs ys ys' : List Value}
theorem RpSt.below (h : RpSt U W D B3 A0 d sp nw sq p2 q2 xi xl va vb n xs ys) (hb : Below W.heap.size W W') : RpSt U W' D B3 A0 d sp nw sq p2 q2 xi xl va vb n xs ys := by
  have := h.l1; have := h.l2; have := h.l3; have := h.b.size
  exact ⟨h.b.trans (hb.mono h.b.size), h.x.below (by omega) hb, h.a2.below hb, own_below h.ra hb, own_below h.rb hb, h.ta, h.l1, h.l2, Nat.le_trans h.l3 hb.size⟩
theorem RpSt.markX (h : RpSt U W D B3 A0 d sp nw sq p2 q2 xi xl va vb n xs ys) (ho : Only U.heap.size D W W') (hs : SchOwn W' U.heap.size D p2 q2 xi' xl') : RpSt U W' D B3 A0 d sp nw sq p2 q2 xi' xl' va vb n xs ys := by
  have := h.l1; have := h.l2; have := h.l3; have := h.b.size
  exact ⟨h.b.trans (ho.below h.b.size), hs, h.a2.same ho.size (ho.block _ (by omega) (by omega)), own_at h.ra fun b hb => ho.block b (by have := h.ta b hb; omega) (.inl (h.ta b hb)), own_at h.rb fun b hb => ho.block b (h.rb.lt b hb).2 (.inr (by have := (h.rb.lt b hb).1; omega)), h.ta, h.l1, h.l2, Nat.le_trans h.l3 ho.size⟩
theorem RpSt.markB (h : RpSt U W D B3 A0 d sp nw sq p2 q2 xi xl va vb n xs ys) (hg : W.grownBy W' vb.ownBlock) (hs : W'.ownsRow B3 3 1 vb n ys') : RpSt U W' D B3 A0 d sp nw sq p2 q2 xi xl va vb n xs ys' := by
  have := h.l1; have := h.l2; have := h.l3; have := h.b.size
  have hne : ∀ b, b < B3 → vb.ownBlock ≠ some b := fun b hb e => by have := (h.rb.lt b e).1; omega
  exact ⟨h.b.grown hg h.b.size fun x hx => by (have := (h.rb.lt x hx).1; omega), h.x.same (Nat.le_refl _) fun b h1 h2 => hg.block b (by omega) (fun e => hne b (by omega) e.symm), h.a2.same hg.size (hg.block _ (by omega) (fun e => hne D (by omega) e.symm)), own_at h.ra fun b hb => hg.block b (by have := h.ta b hb; omega) (fun e => hne b (by have := h.ta b hb; omega) e.symm), hs, h.ta, h.l1, h.l2, Nat.le_trans h.l3 hg.size⟩
end
end Go.Proofs.YtcjblhiihgdljaaGreat
