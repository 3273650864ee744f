/- Contracts that the statement's proof stands on. -/
import Derived.Test.YtodeifciedjfgaaAll1
import Derived.Test.YtodeifciedjfgaaHvDrawRanked

namespace Go.Proofs.Ytodeifciedjfgaa
open Go.RowKit
/-- What a draw of a pair and a number returns. -/
def DrawnPairNum (w : World) (e : Ending) (w' : World) : Prop :=
  ∃ p q a : Int, e = .returned (.tuple #[pr p q, .int .i64 a]) ∧ Below w.heap.size w w'
/-- What a draw of two numbers returns. -/
def DrawnNums (w : World) (e : Ending) (w' : World) : Prop :=
  ∃ a b : Int, e = .returned (.tuple #[.int .i64 a, .int .i64 b]) ∧ Below w.heap.size w w'
theorem two_get (v a b : Int) (h0 : 0 ≤ v) (h1 : v ≤ 1) : (#[.int .i64 a, .int .i64 b] : Array Value)[v.toNat]? = some (.int .i64 (if v = 0 then a else b)) := by
  rcases (show v = 0 ∨ v = 1 by omega) with e | e <;> simp [e]
theorem two_at (v a b : Int) (h : v.toNat < [Value.int .i64 a, Value.int .i64 b].length) (h0 : 0 ≤ v) (h1 : v ≤ 1) : [Value.int .i64 a, Value.int .i64 b][v.toNat]'h = .int .i64 (if v = 0 then a else b) := by
  have e := two_get v a b h0 h1
  rw [Array.getElem?_eq_some_iff] at e
  obtain ⟨_, e⟩ := e
  simpa using e
end Go.Proofs.Ytodeifciedjfgaa
