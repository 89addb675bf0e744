/- Contract of a text up to the first of some bytes. -/
import Derived.Test.YtfdgehlobbeomaaDoorRows
import Derived.Test.YtfdgehlobbeomaaDoorLetWalk
import Derived.Test.YtfdgehlobbeomaaDoorExtPlain
namespace Go.Proofs.YtfdgehlobbeomaaDoor
open Go.RowKit


end Go.Proofs.YtfdgehlobbeomaaDoor
