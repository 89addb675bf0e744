/- Fields without an empty one at the end: the plain function, and the code's own method. -/
import Derived.Test.YtjdnemjcjodboaaDoorRows
import Derived.Test.YtjdnemjcjodboaaDoorJoinPlain
import Derived.Test.YtjdnemjcjodboaaDoorRowMore
namespace Go.Proofs.YtjdnemjcjodboaaDoor
open Go.RowKit

def dropE (fs : List ByteArray) : List ByteArray := if 1 < fs.length ∧ (fs.getD (fs.length - 1) ByteArray.empty).size = 0 then fs.take (fs.length - 1) else fs

theorem dropE_pos {fs : List ByteArray} (h : 0 < fs.length) : 0 < (dropE fs).length := by
  unfold dropE
  split
  · rw [List.length_take]; omega
  · exact h
theorem dropE_le (fs : List ByteArray) : (dropE fs).length ≤ fs.length := by
  unfold dropE
  split
  · rw [List.length_take]; omega
  · exact Nat.le_refl _
theorem dropE_sizes {fs : List ByteArray} {n : Nat} (h : ∀ x ∈ fs, x.size ≤ n) : ∀ x ∈ dropE fs, x.size ≤ n := by
  intro x hx
  unfold dropE at hx
  split at hx
  · exact h x (List.mem_of_mem_take hx)
  · exact h x hx

theorem fields_sizes46 (s : ByteArray) (hs : s.size ≤ 1048576) : ∀ x ∈ fieldsL s 46, x.size ≤ 1048576 := fun x hx => Nat.le_trans (fieldsL_sizes s 46 x hx) hs

end Go.Proofs.YtjdnemjcjodboaaDoor
