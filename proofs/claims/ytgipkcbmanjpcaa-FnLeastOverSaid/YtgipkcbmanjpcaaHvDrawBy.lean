/- Contracts that the statement's proof stands on. -/
import Derived.Test.YtgipkcbmanjpcaaAll0b

namespace Go.Proofs.Ytgipkcbmanjpcaa
open Go.RowKit
end Go.Proofs.Ytgipkcbmanjpcaa
