/- Contracts that the statement's proof stands on. -/
import Derived.Test.YtodeifciedjfgaaAll0

namespace Go.Proofs.Ytodeifciedjfgaa
open Go.RowKit
/-- One of fifteen numbers. -/
def ofPrimes (v x : Int) : Int := if v = 0 then 3 else if v = 1 then 5 else if v = 2 then 7 else if v = 3 then 11 else if v = 4 then 13 else if v = 5 then 17 else if v = 6 then 19 else if v = 7 then 23 else if v = 8 then 89 else if v = 9 then 97 else if v = 10 then 199 else if v = 11 then 397 else if v = 12 then 2 else if v = 13 then x else 9
theorem ofPrimes_get (v x : Int) (h0 : 0 ≤ v) (h1 : v ≤ 14) : (#[.int .i64 3, .int .i64 5, .int .i64 7, .int .i64 11, .int .i64 13, .int .i64 17, .int .i64 19, .int .i64 23, .int .i64 89, .int .i64 97, .int .i64 199, .int .i64 397, .int .i64 2, .int .i64 x, .int .i64 9] : Array Value)[v.toNat]? = some (.int .i64 (ofPrimes v x)) := by
  rcases (show v = 0 ∨ v = 1 ∨ v = 2 ∨ v = 3 ∨ v = 4 ∨ v = 5 ∨ v = 6 ∨ v = 7 ∨ v = 8 ∨ v = 9 ∨ v = 10 ∨ v = 11 ∨ v = 12 ∨ v = 13 ∨ v = 14 by omega) with e | e | e | e | e | e | e | e | e | e | e | e | e | e | e <;> simp [ofPrimes, e]
theorem ofPrimes_at (v x : Int) (h : v.toNat < [Value.int .i64 3, Value.int .i64 5, Value.int .i64 7, Value.int .i64 11, Value.int .i64 13, Value.int .i64 17, Value.int .i64 19, Value.int .i64 23, Value.int .i64 89, Value.int .i64 97, Value.int .i64 199, Value.int .i64 397, Value.int .i64 2, Value.int .i64 x, Value.int .i64 9].length) (h0 : 0 ≤ v) (h1 : v ≤ 14) : [Value.int .i64 3, Value.int .i64 5, Value.int .i64 7, Value.int .i64 11, Value.int .i64 13, Value.int .i64 17, Value.int .i64 19, Value.int .i64 23, Value.int .i64 89, Value.int .i64 97, Value.int .i64 199, Value.int .i64 397, Value.int .i64 2, Value.int .i64 x, Value.int .i64 9][v.toNat]'h = .int .i64 (ofPrimes v x) := by
  have e := ofPrimes_get v x h0 h1
  rw [Array.getElem?_eq_some_iff] at e
  obtain ⟨_, e⟩ := e
  simpa using e
end Go.Proofs.Ytodeifciedjfgaa
