/- Contracts of letters and of a byte among others. -/
import Derived.Test.YtfdgehlobbeomaaDoorRows
import Derived.Test.YtfdgehlobbeomaaDoorHexWalk
namespace Go.Proofs.YtfdgehlobbeomaaDoor
open Go.RowKit


def amongL (l : List UInt8) (c : Int) : Bool := l.any fun b => decide ((b.toNat : Int) = c)

def letterZ (c : Int) : Bool := decide (97 ≤ c ∧ c ≤ 122) || decide (65 ≤ c ∧ c ≤ 90)

end Go.Proofs.YtfdgehlobbeomaaDoor
