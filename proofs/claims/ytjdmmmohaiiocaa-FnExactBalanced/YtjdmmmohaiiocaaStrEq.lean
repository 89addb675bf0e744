/- The laws' comparison of two rows of texts that are the same. -/
import Derived.Test.YtjdmmmohaiiocaaRows
import Derived.Test.YtjdmmmohaiiocaaRowStr
import Derived.Test.YtjdmmmohaiiocaaRowMore
import Derived.Test.YtjdmmmohaiiocaaPctWalk
import Derived.BigQuiet
import Derived.Deep.QuietTactic
import Derived.Deep.RegionWith
namespace Go.Proofs.Ytjdmmmohaiiocaa
open Go.RowKit
set_option linter.unusedVariables false

end Go.Proofs.Ytjdmmmohaiiocaa
