/- The laws' comparison of two rows of texts that are the same. -/
import Derived.Test.YtocgdbinfmdkcaaRows
import Derived.Test.YtocgdbinfmdkcaaRowStr
import Derived.Test.YtocgdbinfmdkcaaRowMore
import Derived.Test.YtocgdbinfmdkcaaPctWalk
import Derived.BigQuiet
import Derived.Deep.QuietTactic
import Derived.Deep.RegionWith
namespace Go.Proofs.Ytocgdbinfmdkcaa
open Go.RowKit
set_option linter.unusedVariables false

end Go.Proofs.Ytocgdbinfmdkcaa
