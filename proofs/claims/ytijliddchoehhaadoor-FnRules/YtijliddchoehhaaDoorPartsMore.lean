/- Sizes of a name's parts. -/
import Derived.Test.YtijliddchoehhaaDoorRows
import Derived.Test.YtijliddchoehhaaDoorPartsWalk
import Derived.Test.YtijliddchoehhaaDoorJoinPlain
namespace Go.Proofs.YtijliddchoehhaaDoor
open Go.RowKit

theorem parts_len (s : ByteArray) : (partsL s).length ≤ s.size + 1 := by
  unfold partsL
  split
  · simp
  · rw [List.length_reverse]
    exact fields_le s 46
theorem parts_sizes (s : ByteArray) : ∀ x ∈ partsL s, x.size ≤ s.size := by
  intro x hx
  unfold partsL at hx
  split at hx
  · cases hx
  · exact fieldsL_sizes s 46 x (by simpa using hx)
end Go.Proofs.YtijliddchoehhaaDoor
