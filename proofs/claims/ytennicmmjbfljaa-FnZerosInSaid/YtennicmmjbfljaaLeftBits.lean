/- How many bits a number has, and the iterator that yields them, the greatest one first. -/
import Derived.Test.YtennicmmjbfljaaIter
import Derived.Test.YtennicmmjbfljaaCounted
import Derived.Test.YtennicmmjbfljaaPairMore
import Derived.Test.YtennicmmjbfljaaBitLen
import Derived.Lib.RabinKarpLaws
namespace Go.Proofs.Ytennicmmjbfljaa
open Go.RowKit Go.Shelf
attribute [local go_sem] Oper.semAt_some
/-- The bit that round i yields. -/
def bitB (k i : Nat) : Bool := decide (k / 2 ^ (Lib.bitLen k - 1 - i) % 2 = 1)
theorem bit_is (k g i : Nat) (hk : k ≤ 1000000000) (h : i + (g + 1) = Lib.bitLen k) : (bits BinOp.and IntKind.i64 ((k : Int) / 2 ^ g) 1 == 1) = bitB k i := by
  have hle : k / 2 ^ g ≤ k := Nat.div_le_self _ _
  have e := and_one (k / 2 ^ g) (by omega)
  have e2 : ((k / 2 ^ g : Nat) : Int) = (k : Int) / 2 ^ g := by simp
  rw [e2] at e
  rw [e, bitB, show Lib.bitLen k - 1 - i = g by omega, Bool.eq_iff_iff, beq_iff_eq, decide_eq_true_iff]
  omega
end Go.Proofs.Ytennicmmjbfljaa
