/- Package bytealg's variable. -/
import Derived.Test.YtfdgehlobbeomaaDoorRows
import Derived.Test.YtfdgehlobbeomaaDoorBase
import Derived.Test.YtfdgehlobbeomaaDoorShelf
import Derived.ProofKit
namespace Go.Proofs.YtfdgehlobbeomaaDoor
open Go.RowKit

end Go.Proofs.YtfdgehlobbeomaaDoor
