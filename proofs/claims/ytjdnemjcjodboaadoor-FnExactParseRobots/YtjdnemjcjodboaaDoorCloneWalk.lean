/- The contract of strings.Clone: the same bytes in new memory. -/
import Derived.Test.YtjdnemjcjodboaaDoorRows
import Derived.Test.YtjdnemjcjodboaaDoorBase
import Derived.Test.YtjdnemjcjodboaaDoorShelf
namespace Go.Proofs.YtjdnemjcjodboaaDoor
open Go.RowKit

set_option maxHeartbeats 400000 in
theorem strClone (s : ByteArray) (w : World) (hlim : s.size ≤ 281474976710656) :
    Calls Tryd.prog 70 #[.string s] w fun e w' => e = .returned (.string s) ∧ Below w.heap.size w w' := by
  go_enter Tryd.func70, Tryd.ntmps70
  go_wp2_with (go_at_call 83; refine (Tryd.stringslite_Clone _ _ hlim).mono ?_; rintro e w1 ⟨rfl, hb1⟩)
  go_ret
  exact ⟨rfl, hb1⟩
end Go.Proofs.YtjdnemjcjodboaaDoor
