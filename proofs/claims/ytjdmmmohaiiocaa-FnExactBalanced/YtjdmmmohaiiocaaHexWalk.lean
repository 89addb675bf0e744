/- Contracts of a hex digit's number and of the byte that a percent tells. -/
import Derived.Test.YtjdmmmohaiiocaaRows
import Derived.Test.YtjdmmmohaiiocaaLowerWalk
import Derived.Test.YtjdmmmohaiiocaaPctPlain
import Derived.BigQuiet
namespace Go.Proofs.Ytjdmmmohaiiocaa
open Go.RowKit

theorem hexN_09 {c : Nat} (h1 : 48 ≤ (c : Int)) (h2 : (c : Int) ≤ 57) : hexN c = (c : Int) - 48 := by unfold hexN; rw [if_pos (by omega)]
theorem hexN_az {c : Nat} (h1 : 97 ≤ (c : Int)) (h2 : (c : Int) ≤ 102) : hexN c = (c : Int) - 87 := by unfold hexN; rw [if_neg (by omega), if_pos (by omega)]
theorem hexN_AZ {c : Nat} (h1 : 65 ≤ (c : Int)) (h2 : (c : Int) ≤ 70) : hexN c = (c : Int) - 55 := by unfold hexN; rw [if_neg (by omega), if_neg (by omega), if_pos (by omega)]
theorem hexN_no {c : Nat} (h1 : ¬ (48 ≤ (c : Int) ∧ (c : Int) ≤ 57)) (h2 : ¬ (97 ≤ (c : Int) ∧ (c : Int) ≤ 102)) (h3 : ¬ (65 ≤ (c : Int) ∧ (c : Int) ≤ 70)) : hexN c = -1 := by unfold hexN; rw [if_neg (by omega), if_neg (by omega), if_neg (by omega)]



end Go.Proofs.Ytjdmmmohaiiocaa
