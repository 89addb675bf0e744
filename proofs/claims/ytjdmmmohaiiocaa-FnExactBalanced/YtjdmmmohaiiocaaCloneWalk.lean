/- The contract of strings.Clone: the same bytes in new memory. -/
import Derived.Test.YtjdmmmohaiiocaaRows
import Derived.Test.YtjdmmmohaiiocaaBase
import Derived.Test.YtjdmmmohaiiocaaShelf
namespace Go.Proofs.Ytjdmmmohaiiocaa
open Go.RowKit

end Go.Proofs.Ytjdmmmohaiiocaa
