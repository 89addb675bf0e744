/- The contract of strings.Clone: the same bytes in new memory. -/
import Derived.Test.YtophgcneckjdjaaRows
import Derived.Test.YtophgcneckjdjaaBase
import Derived.Test.YtophgcneckjdjaaShelf
namespace Go.Proofs.Ytophgcneckjdjaa
open Go.RowKit

set_option maxHeartbeats 400000 in
theorem strClone (s : ByteArray) (w : World) (hlim : s.size ≤ 281474976710656) :
    Calls Try.prog 20 #[.string s] w fun e w' => e = .returned (.string s) ∧ Below w.heap.size w w' := by
  go_enter Try.func20, Try.ntmps20
  go_wp2_with (go_at_call 26; refine (Try.stringslite_Clone _ _ hlim).mono ?_; rintro e w1 ⟨rfl, hb1⟩)
  go_ret
  exact ⟨rfl, hb1⟩
end Go.Proofs.Ytophgcneckjdjaa
