/- Contracts that the statement's proof stands on. -/
import Derived.Test.YtfihmcpigbpgpaaAll0

namespace Go.Proofs.Ytfihmcpigbpgpaa
open Go.RowKit
end Go.Proofs.Ytfihmcpigbpgpaa
