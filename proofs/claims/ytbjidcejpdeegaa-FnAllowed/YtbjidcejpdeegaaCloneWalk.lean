/- The contract of strings.Clone: the same bytes in new memory. -/
import Derived.Test.YtbjidcejpdeegaaRows
import Derived.Test.YtbjidcejpdeegaaBase
import Derived.Test.YtbjidcejpdeegaaShelf
namespace Go.Proofs.Ytbjidcejpdeegaa
open Go.RowKit

end Go.Proofs.Ytbjidcejpdeegaa
