/- The walk of the law on FirstAt: each number is made of the two before. -/
import Derived.Test.YtennicmmjbfljaaLawsOne
import Derived.Test.YtennicmmjbfljaaImplAt
namespace Go.Proofs.Ytennicmmjbfljaa
open Go.RowKit
theorem implFirst_at (p q : Int) (k : Nat) (v n : Int) (w : World) (hn : n = k) (hp : pairB p q = true) (hk : k ≤ 20) (hv : row p q 0 1 k = v) :
    Calls Try.prog 20 #[pr p q, .int .i64 n] w fun e w' => e = .returned (.tuple #[.int .i64 v, .bool true]) ∧ Below w.heap.size w w' := by
  have h : atB p q n = true := by simp [atB, hp, placeB_mk (n := n) (by omega) (by omega)]
  have := implFirst_any p q n w
  rw [firstV, if_pos h, h, hn] at this
  subst hv
  subst hn
  exact this
theorem implFirst_no (p q n : Int) (w : World) (h : atB p q n = false) :
    Calls Try.prog 20 #[pr p q, .int .i64 n] w fun e w' => e = .returned (.tuple #[.int .i64 0, .bool false]) ∧ Below w.heap.size w w' := by
  have := implFirst_any p q n w
  rw [firstV, if_neg (by simp [h]), h] at this
  exact this
theorem implSecond_at (p q : Int) (k : Nat) (v n : Int) (w : World) (hn : n = k) (hp : pairB p q = true) (hk : k ≤ 20) (hv : row p q 2 p k = v) :
    Calls Try.prog 24 #[pr p q, .int .i64 n] w fun e w' => e = .returned (.tuple #[.int .i64 v, .bool true]) ∧ Below w.heap.size w w' := by
  have h : atB p q n = true := by simp [atB, hp, placeB_mk (n := n) (by omega) (by omega)]
  have := implSecond_any p q n w
  rw [secondV, if_pos h, h, hn] at this
  subst hv
  subst hn
  exact this
theorem implSecond_no (p q n : Int) (w : World) (h : atB p q n = false) :
    Calls Try.prog 24 #[pr p q, .int .i64 n] w fun e w' => e = .returned (.tuple #[.int .i64 0, .bool false]) ∧ Below w.heap.size w w' := by
  have := implSecond_any p q n w
  rw [secondV, if_neg (by simp [h]), h] at this
  exact this
theorem specFirst_at (p q : Int) (k : Nat) (v n : Int) (w : World) (hn : n = k) (hp : pairB p q = true) (hk : k ≤ 20) (hv : row p q 0 1 k = v) :
    Calls Try.prog 47 #[pr p q, .int .i64 n] w fun e w' => e = .returned (.tuple #[.int .i64 v, .bool true]) ∧ Below w.heap.size w w' := by
  have h : atB p q n = true := by simp [atB, hp, placeB_mk (n := n) (by omega) (by omega)]
  have := specFirst_any p q n w
  rw [firstV, if_pos h, h, hn] at this
  subst hv
  subst hn
  exact this
theorem specFirst_no (p q n : Int) (w : World) (h : atB p q n = false) :
    Calls Try.prog 47 #[pr p q, .int .i64 n] w fun e w' => e = .returned (.tuple #[.int .i64 0, .bool false]) ∧ Below w.heap.size w w' := by
  have := specFirst_any p q n w
  rw [firstV, if_neg (by simp [h]), h] at this
  exact this
end Go.Proofs.Ytennicmmjbfljaa
