/- Contract of spec.l1IsRune. -/
import Derived.Test.YtfdgehlobbeomaaDoorRows
import Derived.Test.YtfdgehlobbeomaaDoorLowerWalk
namespace Go.Proofs.YtfdgehlobbeomaaDoor
open Go.RowKit

def runeOk (r : Int) : Prop := 0 ≤ r ∧ r ≤ 1114111 ∧ (r < 55296 ∨ 57343 < r)

end Go.Proofs.YtfdgehlobbeomaaDoor
