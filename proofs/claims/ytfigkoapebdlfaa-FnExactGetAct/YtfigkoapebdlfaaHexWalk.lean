/- Contracts of a hex digit's number and of the byte that a percent tells. -/
import Derived.Test.YtfigkoapebdlfaaRows
import Derived.Test.YtfigkoapebdlfaaLowerWalk
import Derived.Test.YtfigkoapebdlfaaPctPlain
import Derived.BigQuiet
namespace Go.Proofs.Ytfigkoapebdlfaa
open Go.RowKit

theorem specL1In (x a b : Int) (w : World) :
    Calls Try.prog 30 #[.int .i64 x, .int .i64 a, .int .i64 b] w fun e w' => e = .returned (.bool (decide (a ≤ x ∧ x ≤ b))) ∧ w = w' := by
  by_cases h : a ≤ x ∧ x ≤ b
  · rw [decide_eq_true h]; exact specL1In_yes x a b w h.1 h.2
  · rw [decide_eq_false h]; exact specL1In_no x a b w (by omega)

theorem hexN_09 {c : Nat} (h1 : 48 ≤ (c : Int)) (h2 : (c : Int) ≤ 57) : hexN c = (c : Int) - 48 := by unfold hexN; rw [if_pos (by omega)]
theorem hexN_az {c : Nat} (h1 : 97 ≤ (c : Int)) (h2 : (c : Int) ≤ 102) : hexN c = (c : Int) - 87 := by unfold hexN; rw [if_neg (by omega), if_pos (by omega)]
theorem hexN_AZ {c : Nat} (h1 : 65 ≤ (c : Int)) (h2 : (c : Int) ≤ 70) : hexN c = (c : Int) - 55 := by unfold hexN; rw [if_neg (by omega), if_neg (by omega), if_pos (by omega)]
theorem hexN_no {c : Nat} (h1 : ¬ (48 ≤ (c : Int) ∧ (c : Int) ≤ 57)) (h2 : ¬ (97 ≤ (c : Int) ∧ (c : Int) ≤ 102)) (h3 : ¬ (65 ≤ (c : Int) ∧ (c : Int) ≤ 70)) : hexN c = -1 := by unfold hexN; rw [if_neg (by omega), if_neg (by omega), if_neg (by omega)]



end Go.Proofs.Ytfigkoapebdlfaa
