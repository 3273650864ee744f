/- What FarFirst, FarSecond and PowerLeft return at a number that is told; the mathematics of their laws. -/
import Derived.Test.YtgcpmgddlaeccaaLeftImpl
import Derived.Test.YtgcpmgddlaeccaaLeftDraws
import Derived.Test.YtgcpmgddlaeccaaLawsThree
namespace Go.Proofs.Ytgcpmgddlaeccaa
open Go.RowKit
theorem farB_mk {p q n m : Int} (k : Nat) (hn : n = k) (hp : pairB p q = true) (hk : k ≤ 1000000000) (m1 : 1 ≤ m) (m2 : m ≤ 10000) : farB p q n m = true := by
  simp [farB, hp, inB_mk (n := n) (a := 0) (b := 1000000000) (by omega) (by omega), inB_mk m1 m2]
theorem farB_no {p q n m : Int} (h : n < 0 ∨ 1000000000 < n) : farB p q n m = false := by
  simp [farB, inB_no h]
theorem powB_mk {a n m : Int} (k : Nat) (hn : n = k) (a1 : -10000 ≤ a) (a2 : a ≤ 10000) (hk : k ≤ 1000000000) (m1 : 1 ≤ m) (m2 : m ≤ 10000) : powB a n m = true := by
  simp [powB, inB_mk a1 a2, inB_mk (n := n) (a := 0) (b := 1000000000) (by omega) (by omega), inB_mk m1 m2]
theorem powB_no {a n m : Int} (h : n < 0 ∨ 1000000000 < n) : powB a n m = false := by
  simp [powB, inB_no h]
theorem implFarFirst_at (p q m : Int) (k : Nat) (v n : Int) (w : World) (hn : n = k) (hp : pairB p q = true) (hk : k ≤ 1000000000) (m1 : 1 ≤ m) (m2 : m ≤ 10000) (hv : row p q 0 1 k % m = v) :
    Calls Try.prog 12 #[pr p q, .int .i64 n, .int .i64 m] w fun e w' => e = .returned (.int .i64 v) ∧ Below w.heap.size w w' := by
  have := implFarFirst_any p q n m w
  rw [farFirstV, if_pos (farB_mk k hn hp hk m1 m2), hn] at this
  subst hv
  subst hn
  exact this
theorem implFarFirst_no (p q n m : Int) (w : World) (h : farB p q n m = false) :
    Calls Try.prog 12 #[pr p q, .int .i64 n, .int .i64 m] w fun e w' => e = .returned (.int .i64 (-1)) ∧ Below w.heap.size w w' := by
  have := implFarFirst_any p q n m w
  rw [farFirstV, if_neg (by simp [h])] at this
  exact this
theorem implFarSecond_at (p q m : Int) (k : Nat) (v n : Int) (w : World) (hn : n = k) (hp : pairB p q = true) (hk : k ≤ 1000000000) (m1 : 1 ≤ m) (m2 : m ≤ 10000) (hv : row p q 2 p k % m = v) :
    Calls Try.prog 18 #[pr p q, .int .i64 n, .int .i64 m] w fun e w' => e = .returned (.int .i64 v) ∧ Below w.heap.size w w' := by
  have := implFarSecond_any p q n m w
  rw [farSecondV, if_pos (farB_mk k hn hp hk m1 m2), hn] at this
  subst hv
  subst hn
  exact this
theorem implFarSecond_no (p q n m : Int) (w : World) (h : farB p q n m = false) :
    Calls Try.prog 18 #[pr p q, .int .i64 n, .int .i64 m] w fun e w' => e = .returned (.int .i64 (-1)) ∧ Below w.heap.size w w' := by
  have := implFarSecond_any p q n m w
  rw [farSecondV, if_neg (by simp [h])] at this
  exact this
theorem implPowerLeft_at (a m : Int) (k : Nat) (v n : Int) (w : World) (hn : n = k) (a1 : -10000 ≤ a) (a2 : a ≤ 10000) (hk : k ≤ 1000000000) (m1 : 1 ≤ m) (m2 : m ≤ 10000) (hv : a ^ k % m = v) :
    Calls Try.prog 21 #[.int .i64 a, .int .i64 n, .int .i64 m] w fun e w' => e = .returned (.int .i64 v) ∧ Below w.heap.size w w' := by
  have := implPowerLeft_any a n m w
  rw [powLeftV, if_pos (powB_mk k hn a1 a2 hk m1 m2), hn] at this
  subst hv
  subst hn
  exact this
theorem implPowerLeft_no (a n m : Int) (w : World) (h : powB a n m = false) :
    Calls Try.prog 21 #[.int .i64 a, .int .i64 n, .int .i64 m] w fun e w' => e = .returned (.int .i64 (-1)) ∧ Below w.heap.size w w' := by
  have := implPowerLeft_any a n m w
  rw [powLeftV, if_neg (by simp [h])] at this
  exact this
theorem specFarFirst_at (p q m : Int) (k : Nat) (v n : Int) (w : World) (hn : n = k) (hp : pairB p q = true) (hk : k ≤ 1000000000) (m1 : 1 ≤ m) (m2 : m ≤ 10000) (hv : row p q 0 1 k % m = v) :
    Calls Try.prog 13 #[pr p q, .int .i64 n, .int .i64 m] w fun e w' => e = .returned (.int .i64 v) ∧ Below w.heap.size w w' := by
  have := specFarFirst_any p q n m w
  rw [farFirstV, if_pos (farB_mk k hn hp hk m1 m2), hn] at this
  subst hv
  subst hn
  exact this
theorem specFarFirst_no (p q n m : Int) (w : World) (h : farB p q n m = false) :
    Calls Try.prog 13 #[pr p q, .int .i64 n, .int .i64 m] w fun e w' => e = .returned (.int .i64 (-1)) ∧ Below w.heap.size w w' := by
  have := specFarFirst_any p q n m w
  rw [farFirstV, if_neg (by simp [h])] at this
  exact this
theorem specFarSecond_at (p q m : Int) (k : Nat) (v n : Int) (w : World) (hn : n = k) (hp : pairB p q = true) (hk : k ≤ 1000000000) (m1 : 1 ≤ m) (m2 : m ≤ 10000) (hv : row p q 2 p k % m = v) :
    Calls Try.prog 19 #[pr p q, .int .i64 n, .int .i64 m] w fun e w' => e = .returned (.int .i64 v) ∧ Below w.heap.size w w' := by
  have := specFarSecond_any p q n m w
  rw [farSecondV, if_pos (farB_mk k hn hp hk m1 m2), hn] at this
  subst hv
  subst hn
  exact this
theorem specFarSecond_no (p q n m : Int) (w : World) (h : farB p q n m = false) :
    Calls Try.prog 19 #[pr p q, .int .i64 n, .int .i64 m] w fun e w' => e = .returned (.int .i64 (-1)) ∧ Below w.heap.size w w' := by
  have := specFarSecond_any p q n m w
  rw [farSecondV, if_neg (by simp [h])] at this
  exact this
theorem specPowerLeft_at (a m : Int) (k : Nat) (v n : Int) (w : World) (hn : n = k) (a1 : -10000 ≤ a) (a2 : a ≤ 10000) (hk : k ≤ 1000000000) (m1 : 1 ≤ m) (m2 : m ≤ 10000) (hv : a ^ k % m = v) :
    Calls Try.prog 23 #[.int .i64 a, .int .i64 n, .int .i64 m] w fun e w' => e = .returned (.int .i64 v) ∧ w = w' := by
  have := specPowerLeft_any a n m w
  rw [powLeftV, if_pos (powB_mk k hn a1 a2 hk m1 m2), hn] at this
  subst hv
  subst hn
  exact this
theorem specPowerLeft_no (a n m : Int) (w : World) (h : powB a n m = false) :
    Calls Try.prog 23 #[.int .i64 a, .int .i64 n, .int .i64 m] w fun e w' => e = .returned (.int .i64 (-1)) ∧ w = w' := by
  have := specPowerLeft_any a n m w
  rw [powLeftV, if_neg (by simp [h])] at this
  exact this
theorem rowLeftN_is (p q m x : Int) (k : Nat) (hx : x = k) (hp : pairB p q = true) (hk : k ≤ 200) (m1 : 1 ≤ m) (m2 : m ≤ 10000) : rowLeftN p q x m = k + 1 := by
  have h : rowLeftB p q x m = true := by simp [rowLeftB, hp, inB_mk (n := x) (a := 0) (b := 200) (by omega) (by omega), inB_mk m1 m2]
  rw [rowLeftN, if_pos h]
  omega
theorem eqm_tmod (m x : Int) : Eqm m (x.tmod m) x := ⟨-(x.tdiv m), by have := Int.mul_tdiv_add_tmod x m; rw [Int.mul_neg]; omega⟩
theorem tmod_bd (n m : Int) (hm : 1 ≤ m) : -m < n.tmod m ∧ n.tmod m < m := by
  refine ⟨?_, Int.tmod_lt_of_pos n (by omega)⟩
  have := Int.tmod_lt_of_pos (-n) (b := m) (by omega)
  rw [Int.neg_tmod] at this
  omega
/-- Seven places on. -/
theorem far_want (p q m : Int) (k : Nat) : (row p q 0 1 (k + 1) % m * (row p q 0 1 8).tmod m - q * (row p q 0 1 k % m * (row p q 0 1 7).tmod m).tmod m).tmod m % m = row p q 0 1 (k + 8) % m := by
  refine Eqm.left ((eqm_tmod m _).trans ?_)
  refine Eqm.trans (((Eqm.refl m _).mul (eqm_tmod m _)).sub ((Eqm.refl m q).mul ((eqm_tmod m _).trans ((Eqm.refl m _).mul (eqm_tmod m _))))) ?_
  exact far_add p q m k 7
theorem eqm_tmod_zero {m x y : Int} (h : Eqm m x y) : ((x - y).tmod m == 0) = true := by
  rw [Int.tmod_eq_zero_of_dvd h]; rfl
end Go.Proofs.Ytgcpmgddlaeccaa
