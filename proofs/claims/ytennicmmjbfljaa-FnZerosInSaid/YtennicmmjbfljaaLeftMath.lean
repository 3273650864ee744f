/- The mathematics of what is left: numbers that leave the same, rows by doubling and going on, powers by squares. No program is named here. -/
import Derived.Test.YtennicmmjbfljaaSumMath
namespace Go.Proofs.Ytennicmmjbfljaa
/-- Two numbers leave the same, divided by m. -/
def Eqm (m x y : Int) : Prop := m ∣ x - y
theorem Eqm.refl (m x : Int) : Eqm m x x := ⟨0, by omega⟩
theorem Eqm.of_eq {m x y : Int} (h : x = y) : Eqm m x y := by subst h; exact Eqm.refl m x
theorem Eqm.symm {m x y : Int} (h : Eqm m x y) : Eqm m y x := by
  obtain ⟨k, hk⟩ := h
  exact ⟨-k, by rw [Int.mul_neg]; omega⟩
theorem Eqm.trans {m x y z : Int} (h : Eqm m x y) (g : Eqm m y z) : Eqm m x z := by
  obtain ⟨k, hk⟩ := h
  obtain ⟨l, hl⟩ := g
  exact ⟨k + l, by rw [Int.mul_add]; omega⟩
theorem Eqm.add {m x y u v : Int} (h : Eqm m x y) (g : Eqm m u v) : Eqm m (x + u) (y + v) := by
  obtain ⟨k, hk⟩ := h
  obtain ⟨l, hl⟩ := g
  exact ⟨k + l, by rw [Int.mul_add]; omega⟩
theorem Eqm.sub {m x y u v : Int} (h : Eqm m x y) (g : Eqm m u v) : Eqm m (x - u) (y - v) := by
  obtain ⟨k, hk⟩ := h
  obtain ⟨l, hl⟩ := g
  exact ⟨k - l, by rw [Int.mul_sub]; omega⟩
theorem Eqm.mul {m x y u v : Int} (h : Eqm m x y) (g : Eqm m u v) : Eqm m (x * u) (y * v) := by
  obtain ⟨k, hk⟩ := h
  obtain ⟨l, hl⟩ := g
  have e : x = y + m * k := by omega
  have e2 : u = v + m * l := by omega
  subst e e2
  clear hk hl
  exact ⟨y * l + k * v + k * (m * l), by grind⟩
theorem Eqm.pow {m x y : Int} (h : Eqm m x y) : ∀ n : Nat, Eqm m (x ^ n) (y ^ n)
  | 0 => by rw [Int.pow_zero, Int.pow_zero]; exact Eqm.refl _ _
  | n + 1 => by rw [Int.pow_succ, Int.pow_succ]; exact (h.pow n).mul h
theorem eqm_left (m x : Int) : Eqm m (x % m) x := ⟨-(x / m), by have := Int.emod_add_mul_ediv x m; rw [Int.mul_neg]; omega⟩
theorem Eqm.left {m x y : Int} (h : Eqm m x y) : x % m = y % m := by
  exact Int.emod_eq_emod_iff_emod_sub_eq_zero.2 (Int.emod_eq_zero_of_dvd h)
theorem eqm_of_left {m x y : Int} (h : x % m = y % m) : Eqm m x y := ((eqm_left m x).symm.trans (Eqm.of_eq h)).trans (eqm_left m y)
/-- What is left, as Go's quotients tell it. -/
theorem go_left2 (n m : Int) : (n.tmod m + m) % m = n % m := by
  refine Eqm.left ⟨1 - n.tdiv m, ?_⟩
  have := Int.mul_tdiv_add_tmod n m
  rw [Int.mul_sub]
  omega
theorem go_left (n m : Int) (hm : 1 ≤ m) : (n.tmod m + m).tmod m = n % m := by
  have h1 := Int.tmod_lt_of_pos n (b := m) (by omega)
  have h2 : -m < n.tmod m := by
    have := Int.tmod_lt_of_pos (-n) (b := m) (by omega)
    rw [Int.neg_tmod] at this
    omega
  rw [Int.tmod_eq_emod_of_nonneg (by omega)]
  exact go_left2 n m
theorem left_bd (n m : Int) (hm : 1 ≤ m) : 0 ≤ n % m ∧ n % m < m := ⟨Int.emod_nonneg _ (by omega), Int.emod_lt_of_pos _ (by omega)⟩
theorem left_again (n m : Int) : n % m % m = n % m := Int.emod_emod_of_dvd n (Int.dvd_refl m)
/-- A remainder of Go's is 0 exactly where a number divides. -/
theorem tmod_zero {n m : Int} (h : m ∣ n) : n.tmod m = 0 := Int.tmod_eq_zero_of_dvd h
/-- At twice a place, at the next place, one behind. -/
theorem far_even (p q m : Int) (k : Nat) : row p q 0 1 k % m * ((2 * (row p q 0 1 (k + 1) % m) - p * (row p q 0 1 k % m)) % m) % m = row p q 0 1 (2 * k) % m := by
  refine Eqm.left ?_
  rw [← row_twice, second_of_first]
  exact (eqm_left m _).mul ((eqm_left m _).trans (((Eqm.refl m 2).mul (eqm_left m _)).sub ((Eqm.refl m p).mul (eqm_left m _))))
theorem far_odd (p q m : Int) (k : Nat) : (row p q 0 1 (k + 1) % m * (row p q 0 1 (k + 1) % m) - q * (row p q 0 1 k % m) % m * (row p q 0 1 k % m)) % m = row p q 0 1 (2 * k + 1) % m := by
  refine Eqm.left ?_
  rw [show 2 * k + 1 = k + 1 + k by omega, ← row_add]
  exact ((eqm_left m _).mul (eqm_left m _)).sub (((eqm_left m _).trans ((Eqm.refl m q).mul (eqm_left m _))).mul (eqm_left m _))
theorem far_next (p q m : Int) (k : Nat) : (p * (row p q 0 1 (k + 1) % m) - q * (row p q 0 1 k % m)) % m = row p q 0 1 (k + 2) % m := by
  refine Eqm.left ?_
  rw [row_step]
  exact ((Eqm.refl m p).mul (eqm_left m _)).sub ((Eqm.refl m q).mul (eqm_left m _))
theorem far_second (p q m : Int) (k : Nat) : (2 * (row p q 0 1 (k + 1) % m) - p * (row p q 0 1 k % m)) % m = row p q 2 p k % m := by
  refine Eqm.left ?_
  rw [second_of_first]
  exact ((Eqm.refl m 2).mul (eqm_left m _)).sub ((Eqm.refl m p).mul (eqm_left m _))
/-- A power by its square: the exponent even, odd. -/
theorem pow_even (a : Int) (k : Nat) : (a * a) ^ k = a ^ (2 * k) := by rw [Int.pow_mul, show a ^ 2 = a * a by rw [Int.pow_succ, Int.pow_succ, Int.pow_zero, Int.one_mul]]
theorem pow_step_even {m o s t : Int} {k : Nat} (h : Eqm m (o * s ^ (2 * k)) t) : Eqm m (o * (s * s % m) ^ k) t := by
  rw [← pow_even] at h
  exact ((Eqm.refl m o).mul ((eqm_left m (s * s)).pow k)).trans h
theorem pow_step_odd {m o s t : Int} {k : Nat} (h : Eqm m (o * s ^ (2 * k + 1)) t) : Eqm m (o * s % m * (s * s % m) ^ k) t := by
  rw [Int.pow_succ, ← pow_even] at h
  refine (((eqm_left m (o * s)).mul ((eqm_left m (s * s)).pow k)).trans (Eqm.of_eq ?_)).trans h
  clear h
  grind
/-- Addition far on. -/
theorem far_add (p q m : Int) (k j : Nat) : Eqm m (row p q 0 1 (k + 1) % m * row p q 0 1 (j + 1) - q * (row p q 0 1 k % m * row p q 0 1 j)) (row p q 0 1 (k + 1 + j)) := by
  rw [← row_add, Int.mul_assoc q]
  exact ((eqm_left m _).mul (Eqm.refl m _)).sub ((Eqm.refl m q).mul ((eqm_left m _).mul (Eqm.refl m _)))
/-- Both rows far on. -/
theorem far_square (p q m : Int) (k : Nat) : m ∣ row p q 2 p k % m * (row p q 2 p k % m) - (p * p - 4 * q) * (row p q 0 1 k % m) * (row p q 0 1 k % m) - 4 * (q ^ k % m) := by
  have h : Eqm m (row p q 2 p k % m * (row p q 2 p k % m) - (p * p - 4 * q) * (row p q 0 1 k % m) * (row p q 0 1 k % m) - 4 * (q ^ k % m)) (row p q 2 p k * row p q 2 p k - (p * p - 4 * q) * row p q 0 1 k * row p q 0 1 k - 4 * q ^ k) :=
    (((eqm_left m _).mul (eqm_left m _)).sub (((Eqm.refl m _).mul (eqm_left m _)).mul (eqm_left m _))).sub ((Eqm.refl m 4).mul (eqm_left m _))
  rw [row_square, Int.sub_self] at h
  simpa [Eqm] using h
theorem far_twice (p q m : Int) (k : Nat) : row p q 2 p k % m * (row p q 0 1 k % m) % m = row p q 0 1 (2 * k) % m := by
  refine Eqm.left ?_
  rw [← row_twice, Int.mul_comm (row p q 0 1 k)]
  exact (eqm_left m _).mul (eqm_left m _)
end Go.Proofs.Ytennicmmjbfljaa
