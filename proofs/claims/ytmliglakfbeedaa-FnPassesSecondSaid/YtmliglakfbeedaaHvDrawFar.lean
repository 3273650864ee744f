/- Contracts that the statement's proof stands on. -/
import Derived.Test.YtmliglakfbeedaaAll0b

namespace Go.Proofs.Ytmliglakfbeedaa
open Go.RowKit
end Go.Proofs.Ytmliglakfbeedaa
