/- The contract of slices.swapRangeCmpFunc at marks. -/
import Derived.Test.YtdnlaijpgjpplaaRows
import Derived.Test.YtdnlaijpgjpplaaSrtRow
import Derived.BigRegion
namespace Go.Proofs.Ytdnlaijpgjpplaa
open Go.RowKit
set_option linter.unusedVariables false

set_option maxRecDepth 100000 in
set_option maxHeartbeats 4000000 in
theorem implSwapRange (w W : World) (base g n cap : Nat) (fv : Value) (A U M V C : List EV) (a b c : Nat) (ha : A.length = a) (hb : A.length + U.length + M.length = b) (hU : U.length = c) (hV : V.length = c) (hn : n ≤ 1048576)
    (h : MRw w W base g n cap (A ++ (U ++ (M ++ (V ++ C))))) :
    Calls Try.prog 56 #[.slice (some ⟨g, 0, none⟩) n cap, .int .i64 a, .int .i64 b, .int .i64 c, fv] W fun e w' => e = .returned (.tuple #[]) ∧ MRw w w' base g n cap (A ++ (V ++ (M ++ (U ++ C)))) := by
  have HL : Hid (MRw w W base g n cap (A ++ (U ++ (M ++ (V ++ C))))) := h
  have hlen := h.len
  simp at hlen
  clear h
  go_enter Try.func56, Try.ntmps56
  go_wp2
  go_loopw [10] (fun i wr => ∃ (k : Nat) (U1 U2 V1 V2 : List EV), i = .int .i64 k ∧ Hid (U = U1 ++ U2 ∧ V = V1 ++ V2) ∧ U1.length = k ∧ V1.length = k ∧ U2.length + k = c ∧ V2.length + k = c ∧ Hid (MRw w wr base g n cap (A ++ (V1 ++ (U2 ++ (M ++ (U1 ++ (V2 ++ C)))))))) (fun i _ => c - (intOf i).toNat)
  case atStart => exact ⟨0, [], U, [], V, rfl, ⟨rfl, rfl⟩, rfl, rfl, by omega, by omega, HL⟩
  case round =>
    obtain ⟨k, U1, U2, V1, V2, rfl, HUV, hU1, hV1, hU2, hV2, HM⟩ := hrel
    clear HL
    by_cases hlt : k < c
    · have hki : (k : Int) < (c : Int) := by omega
      match U2, V2, hU2, hV2, HM with
      | [], _, h1, _, _ => exact absurd h1 (by simp; omega)
      | u :: U2, [], _, h1, _ => exact absurd h1 (by simp; omega)
      | u :: U2, v :: V2, hU2, hV2, HM =>
      have m0 := HM.out
      rw [← List.append_assoc, List.cons_append, show U2 ++ (M ++ (U1 ++ (v :: V2 ++ C))) = (U2 ++ (M ++ U1)) ++ v :: (V2 ++ C) by simp] at m0
      have hi : (A ++ V1).length = a + k := by rw [List.length_append]; omega
      have hj : (A ++ V1).length + 1 + (U2 ++ (M ++ U1)).length = b + k := by simp at *; omega
      obtain ⟨cu1, cu2⟩ := m0.cell hi
      obtain ⟨cv1, cv2⟩ := MRw.cell (A := (A ++ V1) ++ u :: (U2 ++ (M ++ U1))) (x := v) (B := V2 ++ C) (i := b + k) (by simpa using m0) (by simp at *; omega)
      have SW := hidM (m0.swap hi hj).drew
      have f1 := m0.fz ((a + k) * 2)
      have f2 := m0.fz ((a + k) * 2 + 1)
      have f3 := m0.fz ((b + k) * 2)
      have f4 := m0.fz ((b + k) * 2 + 1)
      clear HM m0
      have z1 : (a : Int) + (k : Int) < (n : Int) := by simp at *; omega
      have z2 : (b : Int) + (k : Int) < (n : Int) := by simp at *; omega
      go_wp2_with fail
      go_big_region
      have eq0 : A ++ V1 ++ v :: (U2 ++ (M ++ U1) ++ u :: (V2 ++ C)) = A ++ ((V1 ++ [v]) ++ (U2 ++ (M ++ ((U1 ++ [u]) ++ (V2 ++ C))))) := by simp
      rw [eq0] at SW
      clear cu1 cu2 cv1 cv2 f1 f2 f3 f4 eq0
      generalize ((((wr.setCell _ _).setCell _ _).setCell _ _).setCell _ _).drew = W2 at *
      go_wp2_with fail
      go_roundw
      case rel => exact ⟨k + 1, U1 ++ [u], U2, V1 ++ [v], V2, by go_num, ⟨by rw [HUV.out.1]; simp, by rw [HUV.out.2]; simp⟩, by simp; omega, by simp; omega, by simp at hU2; omega, by simp at hV2; omega, SW⟩
      case measure => simp [intOf]; omega
    · have hki : ¬ (k : Int) < (c : Int) := by omega
      have e1 : U2 = [] := List.eq_nil_of_length_eq_zero (by omega)
      have e2 : V2 = [] := List.eq_nil_of_length_eq_zero (by omega)
      subst e1 e2
      go_wp2_with fail
      go_end0
      refine ⟨rfl, ?_⟩
      have := HM.out
      rw [HUV.out.1, HUV.out.2]
      simpa using this
end Go.Proofs.Ytdnlaijpgjpplaa
