/- Contracts that the statement's proof stands on. -/
import Derived.Test.YtiipojemjkndjaaAll0b

namespace Go.Proofs.Ytiipojemjkndjaa
open Go.RowKit
end Go.Proofs.Ytiipojemjkndjaa
