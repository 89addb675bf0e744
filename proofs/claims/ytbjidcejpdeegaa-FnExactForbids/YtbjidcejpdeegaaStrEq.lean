/- The laws' comparison of two rows of texts that are the same. -/
import Derived.Test.YtbjidcejpdeegaaRows
import Derived.Test.YtbjidcejpdeegaaRowStr
import Derived.Test.YtbjidcejpdeegaaRowMore
import Derived.Test.YtbjidcejpdeegaaPctWalk
import Derived.BigQuiet
import Derived.Deep.QuietTactic
import Derived.Deep.RegionWith
namespace Go.Proofs.Ytbjidcejpdeegaa
open Go.RowKit
set_option linter.unusedVariables false

end Go.Proofs.Ytbjidcejpdeegaa
