/- Contracts that the statement's proof stands on. -/
import Derived.Test.YthjphhgcpfbjeaaAll0b

namespace Go.Proofs.Ythjphhgcpfbjeaa
open Go.RowKit
end Go.Proofs.Ythjphhgcpfbjeaa
