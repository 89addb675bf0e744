/- The contract of slices.rotateCmpFunc at marks. -/
import Derived.Test.YtdnlaijpgjpplaaRows
import Derived.Test.YtdnlaijpgjpplaaSrtSwap
namespace Go.Proofs.Ytdnlaijpgjpplaa
open Go.RowKit
set_option linter.unusedVariables false

theorem cut_at {α : Type} (l : List α) (n : Nat) (h : n ≤ l.length) : ∃ X Y, l = X ++ Y ∧ X.length = n ∧ Y.length = l.length - n := ⟨l.take n, l.drop n, (List.take_append_drop n l).symm, by simp; omega, by simp⟩
set_option maxRecDepth 100000 in
set_option maxHeartbeats 4000000 in
theorem implRotate (w W : World) (base g n cap : Nat) (fv : Value) (A U V C : List EV) (a m b : Nat) (ha : A.length = a) (hm : a + U.length = m) (hb : m + V.length = b) (hU : 0 < U.length) (hV : 0 < V.length) (hn : n ≤ 1048576)
    (h : MRw w W base g n cap (A ++ (U ++ (V ++ C)))) :
    Calls Try.prog 55 #[.slice (some ⟨g, 0, none⟩) n cap, .int .i64 a, .int .i64 m, .int .i64 b, fv] W fun e w' => e = .returned (.tuple #[]) ∧ MRw w w' base g n cap (A ++ (V ++ (U ++ C))) := by
  have hlen := h.len
  simp only [List.length_append] at hlen
  have HL := hidM h
  clear h
  have CS : Hid (∀ (W : World) (A U M V C : List EV) (a b c : Nat), A.length = a → A.length + U.length + M.length = b → U.length = c → V.length = c → MRw w W base g n cap (A ++ (U ++ (M ++ (V ++ C)))) →
    Calls Try.prog 56 #[.slice (some ⟨g, 0, none⟩) n cap, .int .i64 a, .int .i64 b, .int .i64 c, fv] W fun e w' => e = .returned (.tuple #[]) ∧ MRw w w' base g n cap (A ++ (V ++ (M ++ (U ++ C))))) := fun W A U M V C a b c h1 h2 h3 h4 h5 => implSwapRange w W base g n cap fv A U M V C a b c h1 h2 h3 h4 hn h5
  have hz1 : IntKind.i64.wrap ((m : Int) - (a : Int)) = ((U.length : Nat) : Int) := by rw [IntKind.wrap_i64]; omega
  have hz2 : IntKind.i64.wrap ((b : Int) - (m : Int)) = ((V.length : Nat) : Int) := by rw [IntKind.wrap_i64]; omega
  go_enter Try.func55, Try.ntmps55
  go_wp2
  go_loopw [10, 11] (fun s t wr => ∃ (i j : Nat) (P U1 V1 S : List EV), s = .int .i64 i ∧ t = .int .i64 j ∧ 0 < i ∧ 0 < j ∧ U1.length = i ∧ V1.length = j ∧ P.length + i = m ∧ P.length + i + j + S.length = n ∧ Hid (P ++ (V1 ++ (U1 ++ S)) = A ++ (V ++ (U ++ C))) ∧ Hid (MRw w wr base g n cap (P ++ (U1 ++ (V1 ++ S))))) (fun s t _ => (intOf s).toNat + (intOf t).toNat)
  case atStart => exact ⟨U.length, V.length, A, U, V, C, by go_num, by go_num, hU, hV, rfl, rfl, by omega, by omega, rfl, HL⟩
  case round =>
    obtain ⟨i, j, P, U1, V1, S, rfl, rfl, hi, hj, hU1, hV1, hP, hS, HE, HM⟩ := hrel
    clear HL
    by_cases hij : i = j
    · subst hij
      have CR := hidM (CS.out wr P U1 [] V1 S (m - i) m i (by omega) (by simp; omega) hU1 hV1 (by simpa using HM.out))
      have hsub : ((m - i : Nat) : Int) = (m : Int) - (i : Int) := by omega
      rw [hsub] at CR
      clear hsub HM
      go_wp2_with fail
      refine CR.out.mono ?_
      rintro e w1 ⟨rfl, m1⟩
      go_wp2_with fail
      go_end0
      exact ⟨rfl, by rw [← HE.out]; simpa using m1⟩
    · have hne : ((i : Int) == (j : Int)) = false := by rw [beq_eq_false_iff_ne]; omega
      by_cases hgt : j < i
      · have hgi : (j : Int) < (i : Int) := by omega
        obtain ⟨X, Y, hXY, hX, hY⟩ := cut_at U1 j (by omega)
        have CR := hidM (CS.out wr P X Y V1 S (m - i) m j (by omega) (by omega) hX hV1 (by have := HM.out; rw [hXY] at this; simpa using this))
        have hsub : ((m - i : Nat) : Int) = (m : Int) - (i : Int) := by omega
        rw [hsub] at CR
        have HX := hidM hXY
        clear hsub HM hXY
        go_wp2_with fail
        refine CR.out.mono ?_
        rintro e w1 ⟨rfl, m1⟩
        have HM1 := hidM m1
        clear m1 CR
        go_wp2_with fail
        go_roundw
        case rel => exact ⟨i - j, j, P ++ V1, Y, X, S, by first | go_num | (congr 1; omega), rfl, by omega, hj, by omega, hX, by rw [List.length_append]; omega, by rw [List.length_append]; omega, (by have := HE.out; rw [HX.out] at this; show _ = _; rw [← this]; simp), hidM (by simpa using HM1.out)⟩
        case measure => simp [intOf]; omega
      · have hgi : ¬ (j : Int) < (i : Int) := by omega
        obtain ⟨X, Y, hXY, hX, hY⟩ := cut_at V1 (j - i) (by omega)
        have CR := hidM (CS.out wr P U1 X Y S (m - i) (m + j - i) i (by omega) (by omega) hU1 (by omega) (by have := HM.out; rw [hXY] at this; simpa using this))
        have hsub : ((m - i : Nat) : Int) = (m : Int) - (i : Int) := by omega
        have hsub2 : ((m + j - i : Nat) : Int) = (m : Int) + (j : Int) - (i : Int) := by omega
        rw [hsub, hsub2] at CR
        have HX := hidM hXY
        clear hsub hsub2 HM hXY
        go_wp2_with fail
        refine CR.out.mono ?_
        rintro e w1 ⟨rfl, m1⟩
        have HM1 := hidM m1
        clear m1 CR
        go_wp2_with fail
        go_roundw
        case rel => exact ⟨i, j - i, P, Y, X, U1 ++ S, rfl, by first | go_num | (congr 1; omega), hi, by omega, by omega, hX, hP, by rw [List.length_append]; omega, (by have := HE.out; rw [HX.out] at this; show _ = _; rw [← this]; simp), hidM (by simpa using HM1.out)⟩
        case measure => simp [intOf]; omega
end Go.Proofs.Ytdnlaijpgjpplaa
