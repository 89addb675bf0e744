/- The laws' comparison of two rows of texts that are the same. -/
import Derived.Test.YtfdgehlobbeomaaDoorRows
import Derived.Test.YtfdgehlobbeomaaDoorRowStr
import Derived.Test.YtfdgehlobbeomaaDoorRowMore
import Derived.Test.YtfdgehlobbeomaaDoorPctWalk
import Derived.BigQuiet
import Derived.Deep.QuietTactic
import Derived.Deep.RegionWith
namespace Go.Proofs.YtfdgehlobbeomaaDoor
open Go.RowKit
set_option linter.unusedVariables false

end Go.Proofs.YtfdgehlobbeomaaDoor
