/- The walk of the law on SecondAt: both rows belong together. -/
import Derived.Test.YtennicmmjbfljaaLawsTwo
import Derived.Test.YtennicmmjbfljaaRowMath
namespace Go.Proofs.Ytennicmmjbfljaa
open Go.RowKit
theorem row_eight {p q a b : Int} (hp : -4 ≤ p) (hp' : p ≤ 4) (hq : -4 ≤ q) (hq' : q ≤ 4) (ha : -4 ≤ a) (ha' : a ≤ 4) (hb : -4 ≤ b) (hb' : b ≤ 4) (n : Nat) (hn : n ≤ 8) : -1562500 ≤ row p q a b n ∧ row p q a b n ≤ 1562500 := by
  have h := (row_bd (a := a) (b := b) hp hp' hq hq' (c := 4) (by omega) ha ha' (by omega) (by omega) n).1
  have e : cap 4 n ≤ 1562500 := by
    rcases (show n = 0 ∨ n = 1 ∨ n = 2 ∨ n = 3 ∨ n = 4 ∨ n = 5 ∨ n = 6 ∨ n = 7 ∨ n = 8 by omega) with rfl | rfl | rfl | rfl | rfl | rfl | rfl | rfl | rfl <;> decide +kernel
  omega
end Go.Proofs.Ytennicmmjbfljaa
