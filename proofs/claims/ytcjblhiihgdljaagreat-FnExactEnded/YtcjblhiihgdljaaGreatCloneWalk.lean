/- The contract of strings.Clone: the same bytes in new memory. -/
import Derived.Test.YtcjblhiihgdljaaGreatRows
import Derived.Test.YtcjblhiihgdljaaGreatBase
import Derived.Test.YtcjblhiihgdljaaGreatShelf
namespace Go.Proofs.YtcjblhiihgdljaaGreat
open Go.RowKit

set_option maxHeartbeats 400000 in
theorem strClone (s : ByteArray) (w : World) (hlim : s.size ≤ 281474976710656) :
    Calls Tryz.prog 67 #[.string s] w fun e w' => e = .returned (.string s) ∧ Below w.heap.size w w' := by
  go_enter Tryz.func67, Tryz.ntmps67
  go_wp2_with (go_at_call 123; refine (Tryz.stringslite_Clone _ _ hlim).mono ?_; rintro e w1 ⟨rfl, hb1⟩)
  go_ret
  exact ⟨rfl, hb1⟩
end Go.Proofs.YtcjblhiihgdljaaGreat
