/- The contract of strings.Clone: the same bytes in new memory. -/
import Derived.Test.YtjdmmmohaiiocaaDoorRows
import Derived.Test.YtjdmmmohaiiocaaDoorBase
import Derived.Test.YtjdmmmohaiiocaaDoorShelf
namespace Go.Proofs.YtjdmmmohaiiocaaDoor
open Go.RowKit

set_option maxHeartbeats 400000 in
theorem strClone (s : ByteArray) (w : World) (hlim : s.size ≤ 281474976710656) :
    Calls Tryd.prog 87 #[.string s] w fun e w' => e = .returned (.string s) ∧ Below w.heap.size w w' := by
  go_enter Tryd.func87, Tryd.ntmps87
  go_wp2_with (go_at_call 91; refine (Tryd.stringslite_Clone _ _ hlim).mono ?_; rintro e w1 ⟨rfl, hb1⟩)
  go_ret
  exact ⟨rfl, hb1⟩
end Go.Proofs.YtjdmmmohaiiocaaDoor
