/- Contracts of a hex digit's number and of the byte that a percent tells. -/
import Derived.Test.YtjdmmmohaiiocaaDoorRows
import Derived.Test.YtjdmmmohaiiocaaDoorLowerWalk
import Derived.Test.YtjdmmmohaiiocaaDoorPctPlain
import Derived.BigQuiet
namespace Go.Proofs.YtjdmmmohaiiocaaDoor
open Go.RowKit

theorem specL1In (x a b : Int) (w : World) :
    Calls Tryd.prog 64 #[.int .i64 x, .int .i64 a, .int .i64 b] w fun e w' => e = .returned (.bool (decide (a ≤ x ∧ x ≤ b))) ∧ w = w' := by
  by_cases h : a ≤ x ∧ x ≤ b
  · rw [decide_eq_true h]; exact specL1In_yes x a b w h.1 h.2
  · rw [decide_eq_false h]; exact specL1In_no x a b w (by omega)

theorem hexN_09 {c : Nat} (h1 : 48 ≤ (c : Int)) (h2 : (c : Int) ≤ 57) : hexN c = (c : Int) - 48 := by unfold hexN; rw [if_pos (by omega)]
theorem hexN_az {c : Nat} (h1 : 97 ≤ (c : Int)) (h2 : (c : Int) ≤ 102) : hexN c = (c : Int) - 87 := by unfold hexN; rw [if_neg (by omega), if_pos (by omega)]
theorem hexN_AZ {c : Nat} (h1 : 65 ≤ (c : Int)) (h2 : (c : Int) ≤ 70) : hexN c = (c : Int) - 55 := by unfold hexN; rw [if_neg (by omega), if_neg (by omega), if_pos (by omega)]
theorem hexN_no {c : Nat} (h1 : ¬ (48 ≤ (c : Int) ∧ (c : Int) ≤ 57)) (h2 : ¬ (97 ≤ (c : Int) ∧ (c : Int) ≤ 102)) (h3 : ¬ (65 ≤ (c : Int) ∧ (c : Int) ≤ 70)) : hexN c = -1 := by unfold hexN; rw [if_neg (by omega), if_neg (by omega), if_neg (by omega)]

theorem implIsDigit (c : Nat) (w : World) (hc : c ≤ 255) :
    Calls Tryd.prog 86 #[.int .u8 (c : Int)] w fun e w' => e = .returned (.bool (decide (48 ≤ (c : Int) ∧ (c : Int) ≤ 57))) ∧ w = w' := by
  by_cases h1 : 48 ≤ (c : Int)
  · go_enter Tryd.func86, Tryd.ntmps86
    go_wp2
    go_ret
    exact ⟨ret_bool (by simp [h1] <;> omega), rfl⟩
  · go_enter Tryd.func86, Tryd.ntmps86
    go_wp2
    go_ret
    exact ⟨ret_bool (by simp <;> omega), rfl⟩

set_option maxHeartbeats 1000000 in
theorem implHex (c : Nat) (w : World) (hc : c ≤ 255) :
    Calls Tryd.prog 71 #[.int .u8 (c : Int)] w fun e w' => e = .returned (.int .i64 (hexN c)) ∧ w = w' := by
  by_cases h1 : 48 ≤ (c : Int) ∧ (c : Int) ≤ 57
  · obtain ⟨a1, a2⟩ := h1
    go_enter Tryd.func71, Tryd.ntmps71
    go_wp2_with fail
    refine (implIsDigit c _ hc).mono ?_
    rintro e w' ⟨rfl, rfl⟩
    rw [decide_eq_true (show 48 ≤ (c : Int) ∧ (c : Int) ≤ 57 from ⟨a1, a2⟩)]
    go_wp2
    go_ret
    exact ⟨ret_int (by rw [hexN_09 a1 a2]), rfl⟩
  · by_cases h2 : 97 ≤ (c : Int) ∧ (c : Int) ≤ 102
    · obtain ⟨a1, a2⟩ := h2
      have H1 : Hid (¬ (48 ≤ (c : Int) ∧ (c : Int) ≤ 57)) := h1
      clear h1
      go_enter Tryd.func71, Tryd.ntmps71
      go_wp2_with fail
      refine (implIsDigit c _ hc).mono ?_
      rintro e w' ⟨rfl, rfl⟩
      rw [decide_eq_false H1.out]
      go_wp2
      go_ret
      exact ⟨ret_int (by rw [hexN_az a1 a2] <;> omega), rfl⟩
    · by_cases h3 : 65 ≤ (c : Int) ∧ (c : Int) ≤ 70
      · obtain ⟨a1, a2⟩ := h3
        have H1 : Hid (¬ (48 ≤ (c : Int) ∧ (c : Int) ≤ 57)) := h1
        clear h1 h2
        have h4 : ¬ 97 ≤ (c : Int) := by omega
        go_enter Tryd.func71, Tryd.ntmps71
        go_wp2_with fail
        refine (implIsDigit c _ hc).mono ?_
        rintro e w' ⟨rfl, rfl⟩
        rw [decide_eq_false H1.out]
        go_wp2
        go_ret
        exact ⟨ret_int (by rw [hexN_AZ a1 a2] <;> omega), rfl⟩
      · have H1 : Hid (¬ (48 ≤ (c : Int) ∧ (c : Int) ≤ 57)) := h1
        have H0 : Hid (hexN c = -1) := hexN_no h1 h2 h3
        clear h1
        rcases Int.lt_or_le (c : Int) 97 with h4 | h4
        · rcases Int.lt_or_le (c : Int) 65 with h5 | h5
          · clear h2 h3
            go_enter Tryd.func71, Tryd.ntmps71
            go_wp2_with fail
            refine (implIsDigit c _ hc).mono ?_
            rintro e w' ⟨rfl, rfl⟩
            rw [decide_eq_false H1.out]
            go_wp2
            go_ret
            exact ⟨ret_int (by rw [H0.out]), rfl⟩
          · have h6 : ¬ (c : Int) ≤ 70 := by omega
            clear h2 h3
            go_enter Tryd.func71, Tryd.ntmps71
            go_wp2_with fail
            refine (implIsDigit c _ hc).mono ?_
            rintro e w' ⟨rfl, rfl⟩
            rw [decide_eq_false H1.out]
            go_wp2
            go_ret
            exact ⟨ret_int (by rw [H0.out]), rfl⟩
        · have h6 : ¬ (c : Int) ≤ 102 := by omega
          have h7 : ¬ (c : Int) ≤ 70 := by omega
          have h8 : 65 ≤ (c : Int) := by omega
          clear h2 h3
          go_enter Tryd.func71, Tryd.ntmps71
          go_wp2_with fail
          refine (implIsDigit c _ hc).mono ?_
          rintro e w' ⟨rfl, rfl⟩
          rw [decide_eq_false H1.out]
          go_wp2
          go_ret
          exact ⟨ret_int (by rw [H0.out]), rfl⟩

set_option maxHeartbeats 1000000 in
theorem specHex (c : Nat) (w : World) (hc : (c : Int) ≤ 255) :
    Calls Tryd.prog 63 #[.int .u8 (c : Int)] w fun e w' => e = .returned (.int .i64 (hexN c)) ∧ w = w' := by
  by_cases h1 : 48 ≤ (c : Int) ∧ (c : Int) ≤ 57
  · obtain ⟨a1, a2⟩ := h1
    go_enter Tryd.func63, Tryd.ntmps63
    go_wp2_with (go_at_call 64; refine (specL1In_yes _ _ _ _ a1 a2).mono ?_; rintro e w' ⟨rfl, rfl⟩)
    go_ret
    exact ⟨ret_int (by rw [hexN_09 a1 a2]), rfl⟩
  · have g1 : (c : Int) < 48 ∨ 57 < (c : Int) := by omega
    by_cases h2 : 97 ≤ (c : Int) ∧ (c : Int) ≤ 102
    · obtain ⟨a1, a2⟩ := h2
      clear h1
      have H1 : Hid ((c : Int) < 48 ∨ 57 < (c : Int)) := g1
      clear g1
      go_enter Tryd.func63, Tryd.ntmps63
      go_wp2_with fail
      refine (specL1In_no _ _ _ _ H1.out).mono ?_
      rintro e w' ⟨rfl, rfl⟩
      go_wp2_with fail
      refine (specL1In_yes _ _ _ _ a1 a2).mono ?_
      rintro e w' ⟨rfl, rfl⟩
      go_wp2
      go_ret
      exact ⟨ret_int (by rw [hexN_az a1 a2] <;> omega), rfl⟩
    · have g2 : (c : Int) < 97 ∨ 102 < (c : Int) := by omega
      have H1 : Hid ((c : Int) < 48 ∨ 57 < (c : Int)) := g1
      have H2 : Hid ((c : Int) < 97 ∨ 102 < (c : Int)) := g2
      by_cases h3 : 65 ≤ (c : Int) ∧ (c : Int) ≤ 70
      · obtain ⟨a1, a2⟩ := h3
        clear h1 h2 g1 g2
        go_enter Tryd.func63, Tryd.ntmps63
        go_wp2_with fail
        refine (specL1In_no _ _ _ _ H1.out).mono ?_
        rintro e w' ⟨rfl, rfl⟩
        go_wp2_with fail
        refine (specL1In_no _ _ _ _ H2.out).mono ?_
        rintro e w' ⟨rfl, rfl⟩
        go_wp2_with fail
        refine (specL1In_yes _ _ _ _ a1 a2).mono ?_
        rintro e w' ⟨rfl, rfl⟩
        go_wp2
        go_ret
        exact ⟨ret_int (by rw [hexN_AZ a1 a2] <;> omega), rfl⟩
      · have H0 : Hid (hexN c = -1) := hexN_no h1 h2 h3
        have H3 : Hid ((c : Int) < 65 ∨ 70 < (c : Int)) := by show _ ∨ _; omega
        clear h1 h2 h3 g1 g2
        go_enter Tryd.func63, Tryd.ntmps63
        go_wp2_with fail
        refine (specL1In_no _ _ _ _ H1.out).mono ?_
        rintro e w' ⟨rfl, rfl⟩
        go_wp2_with fail
        refine (specL1In_no _ _ _ _ H2.out).mono ?_
        rintro e w' ⟨rfl, rfl⟩
        go_wp2_with fail
        refine (specL1In_no _ _ _ _ H3.out).mono ?_
        rintro e w' ⟨rfl, rfl⟩
        go_wp2
        go_ret
        exact ⟨ret_int (by rw [H0.out]), rfl⟩
end Go.Proofs.YtjdmmmohaiiocaaDoor
