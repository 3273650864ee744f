/- The walk of the law on FirstAt: each number is made of the two before. -/
import Derived.Test.YtgcpmgddlaeccaaLawsOne
import Derived.Test.YtgcpmgddlaeccaaImplAt
namespace Go.Proofs.Ytgcpmgddlaeccaa
open Go.RowKit
theorem implFirst_at (p q : Int) (k : Nat) (v n : Int) (w : World) (hn : n = k) (hp : pairB p q = true) (hk : k ≤ 20) (hv : row p q 0 1 k = v) :
    Calls Try.prog 16 #[pr p q, .int .i64 n] w fun e w' => e = .returned (.tuple #[.int .i64 v, .bool true]) ∧ Below w.heap.size w w' := by
  have h : atB p q n = true := by simp [atB, hp, placeB_mk (n := n) (by omega) (by omega)]
  have := implFirst_any p q n w
  rw [firstV, if_pos h, h, hn] at this
  subst hv
  subst hn
  exact this
theorem implFirst_no (p q n : Int) (w : World) (h : atB p q n = false) :
    Calls Try.prog 16 #[pr p q, .int .i64 n] w fun e w' => e = .returned (.tuple #[.int .i64 0, .bool false]) ∧ Below w.heap.size w w' := by
  have := implFirst_any p q n w
  rw [firstV, if_neg (by simp [h]), h] at this
  exact this
end Go.Proofs.Ytgcpmgddlaeccaa
