/- Contracts that the statement's proof stands on. -/
import Derived.Test.YtodeifciedjfgaaAll0

namespace Go.Proofs.Ytodeifciedjfgaa
open Go.RowKit
/-- One of six numbers, by half of another one. -/
def six_ (v a b c d e f : Int) : Int := if v / 2 = 0 then a else if v / 2 = 1 then b else if v / 2 = 2 then c else if v / 2 = 3 then d else if v / 2 = 4 then e else f
theorem six_get (v a b c d e f : Int) (h0 : 0 ≤ v) (h1 : v ≤ 11) : (#[.int .i64 a, .int .i64 b, .int .i64 c, .int .i64 d, .int .i64 e, .int .i64 f] : Array Value)[(v / 2).toNat]? = some (.int .i64 (six_ v a b c d e f)) := by
  rcases (show v / 2 = 0 ∨ v / 2 = 1 ∨ v / 2 = 2 ∨ v / 2 = 3 ∨ v / 2 = 4 ∨ v / 2 = 5 by omega) with e | e | e | e | e | e <;> simp [six_, e]
theorem six_at (v a b c d e f : Int) (h : (v / 2).toNat < [Value.int .i64 a, Value.int .i64 b, Value.int .i64 c, Value.int .i64 d, Value.int .i64 e, Value.int .i64 f].length) (h0 : 0 ≤ v) (h1 : v ≤ 11) : [Value.int .i64 a, Value.int .i64 b, Value.int .i64 c, Value.int .i64 d, Value.int .i64 e, Value.int .i64 f][(v / 2).toNat]'h = .int .i64 (six_ v a b c d e f) := by
  have e := six_get v a b c d e f h0 h1
  rw [Array.getElem?_eq_some_iff] at e
  obtain ⟨_, e⟩ := e
  simpa using e
end Go.Proofs.Ytodeifciedjfgaa
