/- The draws of the second stage: nothing that was there is written. -/
import Derived.Test.YtennicmmjbfljaaDrawsTwo
namespace Go.Proofs.Ytennicmmjbfljaa
open Go.RowKit
/-- What a draw of a pair and a number returns. -/
def DrawnOne (w : World) (e : Ending) (w' : World) : Prop :=
  ∃ p q a : Int, e = .returned (.tuple #[pr p q, .int .i64 a]) ∧ -6 ≤ p ∧ p ≤ 100 ∧ -6 ≤ q ∧ q ≤ 100 ∧ -60 ≤ a ∧ a ≤ 60 ∧ Below w.heap.size w w'
/-- What a draw of a pair and two numbers returns. -/
def DrawnBoth (w : World) (e : Ending) (w' : World) : Prop :=
  ∃ p q a b : Int, e = .returned (.tuple #[pr p q, .int .i64 a, .int .i64 b]) ∧ -6 ≤ p ∧ p ≤ 100 ∧ -6 ≤ q ∧ q ≤ 100 ∧ -60 ≤ a ∧ a ≤ 60 ∧ -60 ≤ b ∧ b ≤ 60 ∧ Below w.heap.size w w'
end Go.Proofs.Ytennicmmjbfljaa
