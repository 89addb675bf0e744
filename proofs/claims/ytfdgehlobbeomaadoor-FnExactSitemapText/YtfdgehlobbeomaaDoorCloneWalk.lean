/- The contract of strings.Clone: the same bytes in new memory. -/
import Derived.Test.YtfdgehlobbeomaaDoorRows
import Derived.Test.YtfdgehlobbeomaaDoorBase
import Derived.Test.YtfdgehlobbeomaaDoorShelf
namespace Go.Proofs.YtfdgehlobbeomaaDoor
open Go.RowKit

end Go.Proofs.YtfdgehlobbeomaaDoor
