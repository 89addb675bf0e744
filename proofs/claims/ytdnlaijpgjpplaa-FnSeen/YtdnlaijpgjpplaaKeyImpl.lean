/- The contract of the code's byKey. -/
import Derived.Test.YtdnlaijpgjpplaaRows
import Derived.Test.YtdnlaijpgjpplaaSeenPlain
import Derived.Test.YtdnlaijpgjpplaaSumZ
import Derived.Test.YtdnlaijpgjpplaaShelf
import Derived.Handy
namespace Go.Proofs.Ytdnlaijpgjpplaa
open Go.RowKit
set_option linter.unusedVariables false

set_option maxHeartbeats 2000000 in
theorem implByKey (x y : EV) (W : World) :
    Calls Try.prog 30 #[.agg #[.string x.s, .int .i64 x.k], .agg #[.string y.s, .int .i64 y.k]] W fun e w' => e = .returned (.int .i64 (kcmp x y)) ∧ Below W.heap.size W w' := by
  have hbO : Below W.heap.size W ((W.alloc (.cells #[.string x.s, .int .i64 x.k] 35)).alloc (.cells #[.string y.s, .int .i64 y.k] 35)) := ((Below.refl _ _).alloc (Nat.le_refl _) _).alloc (by simp) _
  have CC : Hid (∀ W, Calls Try.prog 44 #[.string x.s, .string y.s] W fun e w' => e = .returned (.int .i64 (kcmp x y)) ∧ w' = W) := fun W => Try.strings_Compare x.s y.s W
  go_enter Try.func30, Try.ntmps30
  go_wp2_with fail
  refine (CC.out _).mono ?_
  rintro e w1 ⟨rfl, rfl⟩
  go_wp2_with fail
  go_ret
  exact ⟨rfl, hbO⟩

end Go.Proofs.Ytdnlaijpgjpplaa
