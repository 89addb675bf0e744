/- The contracts of the specification's SeenAll, l15Copy and SeenPress. -/
import Derived.Test.YtdnlaijpgjpplaaRows
import Derived.Test.YtdnlaijpgjpplaaMrgSpec
import Derived.Test.YtdnlaijpgjpplaaSeenOkS2
import Derived.Test.YtdnlaijpgjpplaaPressPlain
import Derived.Test.YtdnlaijpgjpplaaAppAt
namespace Go.Proofs.Ytdnlaijpgjpplaa
open Go.RowKit
set_option linter.unusedVariables false
set_option linter.unusedSimpArgs false

end Go.Proofs.Ytdnlaijpgjpplaa
