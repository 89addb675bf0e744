/- Whether tokens are balanced, plainly; the contract of the specification's Balanced. -/
import Derived.Test.YtjdmmmohaiiocaaDoorRows
import Derived.Test.YtjdmmmohaiiocaaDoorTokRow
import Derived.Test.YtjdmmmohaiiocaaDoorRowMore
import Derived.Test.YtjdmmmohaiiocaaDoorFieldsWalk
import Derived.Handy
import Derived.BigQuiet
import Derived.Deep.QuietTactic
import Derived.Deep.DeepCutAuto
namespace Go.Proofs.YtjdmmmohaiiocaaDoor
open Go.RowKit
set_option linter.unusedVariables false

/-- What began and has not ended, the last one first; the tokens that follow. -/
def balS : List ByteArray → List TV → Bool
  | st, [] => st.isEmpty
  | st, t :: r => if t.k = 1 then balS (t.s :: st) r else if t.k = 2 then (match st with
    | [] => false
    | x :: st' => if x = t.s then balS st' r else false) else balS st r
def balL (l : List TV) : Bool := balS [] l
theorem bal_open {st : List ByteArray} {t : TV} {r : List TV} (h : t.k = 1) : balS st (t :: r) = balS (t.s :: st) r := by
  rw [balS.eq_def]
  dsimp only
  rw [if_pos h]
theorem bal_text {st : List ByteArray} {t : TV} {r : List TV} (h : t.k ≠ 1) (h2 : t.k ≠ 2) : balS st (t :: r) = balS st r := by
  rw [balS.eq_def]
  dsimp only
  rw [if_neg h, if_neg h2]
theorem bal_none {t : TV} {r : List TV} (h : t.k = 2) : balS [] (t :: r) = false := by
  rw [balS.eq_def]
  dsimp only
  rw [if_neg (by rw [h]; decide), if_pos h]
theorem bal_close {x : ByteArray} {st : List ByteArray} {t : TV} {r : List TV} (h : t.k = 2) : balS (x :: st) (t :: r) = if x = t.s then balS st r else false := by
  rw [balS.eq_def]
  dsimp only
  rw [if_neg (by rw [h]; decide), if_pos h]
theorem tok_drop {l : List TV} {k : Nat} (h : k < l.length) : l.drop k = l.getD k tv0 :: l.drop (k + 1) := by
  rw [List.drop_eq_getElem_cons h, List.getD_eq_getElem?_getD, List.getElem?_eq_getElem h]
  rfl
end Go.Proofs.YtjdmmmohaiiocaaDoor
