/- Contracts of what is kept. -/
import Derived.Test.YtbjidcejpdeegaaRows
import Derived.Test.YtbjidcejpdeegaaLetWalk
namespace Go.Proofs.Ytbjidcejpdeegaa
open Go.RowKit

theorem digit_eq (c : Nat) : decide (48 ≤ (c : Int) ∧ (c : Int) ≤ 57) = digitN c := by
  unfold digitN
  exact decide_eq_decide.2 (by omega)

theorem keepZ_out {set : Int} (c : Int) (h : ¬ (1 ≤ set ∧ set ≤ 3)) : keepZ set c = false := by
  unfold keepZ
  rw [keep_out h]
  simp
theorem keepZ_neg (set : Int) {c : Int} (h : c < 0) : keepZ set c = false := by
  unfold keepZ
  rw [decide_eq_false (by omega)]
  rfl
theorem keepZ_big (set : Int) {c : Int} (h : 128 ≤ c) : keepZ set c = false := by
  unfold keepZ
  cases hx : keepN set c.toNat with
  | false => simp
  | true => have := keep_lt hx; omega
theorem keepZ_nat (set : Int) (n : Nat) : keepZ set (n : Int) = keepN set n := by simp [keepZ]
theorem keepN_slash {set : Int} (h : 1 ≤ set ∧ set ≤ 3) : keepN set 47 = decide (set ≠ 3) := by simp [keepN, h, freeN, letterN, digitN, plainT, markN]
theorem keepN_quest {set : Int} (h : 1 ≤ set ∧ set ≤ 3) : keepN set 63 = decide (set = 2) := by simp [keepN, h, freeN, letterN, digitN, plainT, markN]
theorem keepN_else {set : Int} {n : Nat} (h : 1 ≤ set ∧ set ≤ 3) (h1 : n ≠ 47) (h2 : n ≠ 63) : keepN set n = (markN n || freeN n) := by
  simp [keepN, h, h1, h2, Bool.or_comm]

end Go.Proofs.Ytbjidcejpdeegaa
