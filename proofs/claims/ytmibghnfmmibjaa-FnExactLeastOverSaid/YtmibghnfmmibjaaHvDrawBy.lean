/- Contracts that the statement's proof stands on. -/
import Derived.Test.YtmibghnfmmibjaaAll0b

namespace Go.Proofs.Ytmibghnfmmibjaa
open Go.RowKit
end Go.Proofs.Ytmibghnfmmibjaa
