/- Contracts that the statement's proof stands on. -/
import Derived.Test.YtodeifciedjfgaaAll0

namespace Go.Proofs.Ytodeifciedjfgaa
open Go.RowKit
end Go.Proofs.Ytodeifciedjfgaa
