/- Chapter 12: what the law of patterns asks, at drawn texts. -/
import Derived.Test.YtbjidcejpdeegaaRows
import Derived.Test.YtbjidcejpdeegaaMatSpec
import Derived.Test.YtbjidcejpdeegaaMatImpl
import Derived.Test.YtbjidcejpdeegaaDraw12
namespace Go.Proofs.Ytbjidcejpdeegaa
open Go.RowKit
set_option linter.unusedVariables false

theorem app_data (a b : ByteArray) : (a ++ b).data.toList = a.data.toList ++ b.data.toList := by simp
theorem drop_last (p : ByteArray) : (p.extract 0 (p.size - 1)).data.toList = p.data.toList.dropLast := by
  rw [take_data, List.dropLast_eq_take]
  simp
/-- The byte ahead of the last one is a dollar. -/
def twiceM (p : ByteArray) : Bool := decide (1 < p.size) && endM p.data.toList.dropLast
theorem twice_at {p : ByteArray} (h : 1 < p.size) : endM p.data.toList.dropLast = decide (p[p.size - 2]'(by omega) = 36) := by
  have hl : p.data.toList.length = p.size := by simp
  have h2 : p.data.toList.dropLast.getLast? = some (p[p.size - 2]'(by omega)) := by
    rw [List.getLast?_eq_getElem?, List.length_dropLast, List.dropLast_eq_take, List.getElem?_take, if_pos (by omega), hl, show p.size - 1 - 1 = p.size - 2 by omega, List.getElem?_eq_getElem (by omega)]
    rfl
  unfold endM
  rw [h2]
  simp
theorem twice_no {p : ByteArray} (h : ¬ 1 < p.size) : endM p.data.toList.dropLast = false := by
  have hl : p.data.toList.length = p.size := by simp
  have : p.data.toList.dropLast = [] := List.eq_nil_of_length_eq_zero (by rw [List.length_dropLast]; omega)
  rw [this]
  rfl
end Go.Proofs.Ytbjidcejpdeegaa
