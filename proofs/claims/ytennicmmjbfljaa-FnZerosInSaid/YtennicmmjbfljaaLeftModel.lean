/- What is left, in the model: l3Left, l3Both. -/
import Derived.Test.YtennicmmjbfljaaLeftMath
import Derived.Test.YtennicmmjbfljaaPairMore
import Derived.Test.YtennicmmjbfljaaDrawsOne
import Derived.Deep.QuietTactic
import Derived.BigQuiet
import Derived.IntWalk
namespace Go.Proofs.Ytennicmmjbfljaa
open Go.RowKit
end Go.Proofs.Ytennicmmjbfljaa
