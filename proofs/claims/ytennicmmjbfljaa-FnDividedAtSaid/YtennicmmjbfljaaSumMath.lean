/- The mathematics of sums of places: rows go on from anywhere, both rows multiplied, middles, sums; how great the numbers are. No program is named here. -/
import Derived.Test.YtennicmmjbfljaaRowMath
namespace Go.Proofs.Ytennicmmjbfljaa
/-- Rows go on from anywhere. -/
theorem row_add (p q : Int) (a : Nat) : ∀ b : Nat, row p q 0 1 (a + 1) * row p q 0 1 (b + 1) - q * row p q 0 1 a * row p q 0 1 b = row p q 0 1 (a + 1 + b) := by
  refine two_steps ?_ ?_ ?_
  · simp [row]
  · have e : row p q 0 1 (a + 1 + 1) = p * row p q 0 1 (a + 1) - q * row p q 0 1 a := rfl
    have e2 : row p q 0 1 (1 + 1) = p := by simp [row]
    have e3 : row p q 0 1 1 = 1 := rfl
    rw [e, e2, e3]
    grind
  · intro b h1 h2
    have e : row p q 0 1 (a + 1 + (b + 2)) = p * row p q 0 1 (a + 1 + (b + 1)) - q * row p q 0 1 (a + 1 + b) := rfl
    have e2 : row p q 0 1 (b + 2 + 1) = p * row p q 0 1 (b + 1 + 1) - q * row p q 0 1 (b + 1) := rfl
    have e3 : row p q 0 1 (b + 2) = p * row p q 0 1 (b + 1) - q * row p q 0 1 b := rfl
    rw [e, ← h1, ← h2, e2, e3]
    clear h1 h2 e e2 e3
    grind
/-- Both rows multiplied are the row at twice the place. -/
theorem row_twice (p q : Int) (n : Nat) : row p q 0 1 n * row p q 2 p n = row p q 0 1 (2 * n) := by
  cases n with
  | zero => simp [row]
  | succ n =>
    have e : row p q 0 1 (n + 1 + 1) = p * row p q 0 1 (n + 1) - q * row p q 0 1 n := rfl
    rw [show 2 * (n + 1) = n + 1 + (n + 1) by omega, ← row_add p q n (n + 1), second_of_first, e]
    clear e
    grind
/-- Middles are powers times squares. -/
theorem row_about (p q : Int) (d r : Nat) : row p q 0 1 (d + r) * row p q 0 1 (d + r) - row p q 0 1 d * row p q 0 1 (d + r + r) = q ^ d * row p q 0 1 r * row p q 0 1 r := by
  cases r with
  | zero => simp [row]
  | succ r =>
    have e0 : row p q 0 1 (r + 1 + 1) = p * row p q 0 1 (r + 1) - q * row p q 0 1 r := rfl
    have e1 : row p q 0 1 (d + (r + 1)) = row p q 0 1 (d + 1) * row p q 0 1 (r + 1) - q * row p q 0 1 d * row p q 0 1 r := by rw [row_add, show d + 1 + r = d + (r + 1) by omega]
    have e2 : row p q 0 1 (r + 1 + r) = row p q 0 1 (r + 1) * row p q 0 1 (r + 1) - q * row p q 0 1 r * row p q 0 1 r := (row_add p q r r).symm
    have e3 : row p q 0 1 (r + 1 + r + 1) = row p q 0 1 (r + 1) * row p q 0 1 (r + 1 + 1) - q * row p q 0 1 r * row p q 0 1 (r + 1) := by rw [row_add, show r + 1 + (r + 1) = r + 1 + r + 1 by omega]
    have e4 : row p q 0 1 (d + (r + 1) + (r + 1)) = row p q 0 1 (d + 1) * row p q 0 1 (r + 1 + r + 1) - q * row p q 0 1 d * row p q 0 1 (r + 1 + r) := by rw [row_add, show d + 1 + (r + 1 + r) = d + (r + 1) + (r + 1) by omega]
    rw [e4, e3, e2, e1, e0, ← row_norm p q d]
    clear e0 e1 e2 e3 e4
    grind
/-- The sum of the numbers of the first row up to a place. -/
def rowSum (p q : Int) : Nat → Int
  | 0 => 0
  | n + 1 => rowSum p q n + row p q 0 1 n
/-- Sums are told by two numbers. -/
theorem row_sum (p q : Int) : ∀ n : Nat, rowSum p q (n + 1) * (p - q - 1) = row p q 0 1 (n + 1) - q * row p q 0 1 n - 1
  | 0 => by simp [rowSum, row]
  | n + 1 => by
    have ih := row_sum p q n
    have e : row p q 0 1 (n + 1 + 1) = p * row p q 0 1 (n + 1) - q * row p q 0 1 n := rfl
    have e2 : rowSum p q (n + 1 + 1) = rowSum p q (n + 1) + row p q 0 1 (n + 1) := rfl
    rw [e2, e, Int.add_mul, ih]
    clear ih e e2
    grind
/-- .. and so by a quotient, where P less Q is not 1. -/
theorem row_sum_quo (p q : Int) (n : Nat) (h : p - q - 1 ≠ 0) : (row p q 0 1 (n + 1) - q * row p q 0 1 n - 1).tdiv (p - q - 1) = rowSum p q (n + 1) := by
  rw [← row_sum]
  exact Int.mul_tdiv_cancel _ h
/-- The numbers of the first row, by powers of 5. -/
theorem first_bd {p q : Int} (hp : -4 ≤ p) (hp' : p ≤ 4) (hq : -4 ≤ q) (hq' : q ≤ 4) (n : Nat) : -(cap 1 n) ≤ row p q 0 1 n ∧ row p q 0 1 n ≤ cap 1 n :=
  (row_bd hp hp' hq hq' (c := 1) (by omega) (by omega) (by omega) (by omega) (by omega) n).1
theorem cap_mono {c : Int} (h : 0 ≤ c) (n m : Nat) (hm : n ≤ m) : cap c n ≤ cap c m := by
  obtain ⟨d, rfl⟩ := Nat.exists_eq_add_of_le hm
  induction d with
  | zero => exact Int.le_refl _
  | succ d ih =>
    have := ih (by omega)
    have h2 := cap_nonneg h (n + d)
    have e : cap c (n + (d + 1)) = 5 * cap c (n + d) := rfl
    omega
theorem first_half {p q : Int} (hp : -4 ≤ p) (hp' : p ≤ 4) (hq : -4 ≤ q) (hq' : q ≤ 4) (n : Nat) (hn : n ≤ 10) : -9765625 ≤ row p q 0 1 n ∧ row p q 0 1 n ≤ 9765625 := by
  have h := first_bd hp hp' hq hq' n
  have m := cap_mono (c := 1) (by omega) n 10 hn
  have e : cap 1 10 = 9765625 := by decide +kernel
  omega
theorem second_half {p q : Int} (hp : -4 ≤ p) (hp' : p ≤ 4) (hq : -4 ≤ q) (hq' : q ≤ 4) (n : Nat) (hn : n ≤ 10) : -39062500 ≤ row p q 2 p n ∧ row p q 2 p n ≤ 39062500 := by
  have h := (row_bd (a := 2) (b := p) hp hp' hq hq' (c := 4) (by omega) (by omega) (by omega) (by omega) (by omega) n).1
  have m := cap_mono (c := 4) (by omega) n 10 hn
  have e : cap 4 10 = 39062500 := by decide +kernel
  omega
theorem first_far {p q : Int} (hp : -4 ≤ p) (hp' : p ≤ 4) (hq : -4 ≤ q) (hq' : q ≤ 4) (n : Nat) (hn : n ≤ 20) : -95367431640625 ≤ row p q 0 1 n ∧ row p q 0 1 n ≤ 95367431640625 := by
  have h := first_bd hp hp' hq hq' n
  have m := cap_mono (c := 1) (by omega) n 20 hn
  have e : cap 1 20 = 95367431640625 := by decide +kernel
  omega
/-- The product of a number of the row and the one as far behind the middle as it is before it. -/
theorem about_bd {p q : Int} (hp : -4 ≤ p) (hp' : p ≤ 4) (hq : -4 ≤ q) (hq' : q ≤ 4) (d r : Nat) (h : d + r ≤ 10) : -95367431640625 ≤ row p q 0 1 d * row p q 0 1 (d + r + r) ∧ row p q 0 1 d * row p q 0 1 (d + r + r) ≤ 95367431640625 := by
  have h1 := first_bd hp hp' hq hq' d
  have h2 := first_bd hp hp' hq hq' (d + r + r)
  have m := mul_bd h1.1 h1.2 h2.1 h2.2
  have cm : ∀ n m : Nat, cap 1 n * cap 1 m = cap 1 (n + m) := fun n m => by
    induction m with
    | zero => simp [cap]
    | succ m ih =>
      have e : cap 1 (m + 1) = 5 * cap 1 m := rfl
      have e2 : cap 1 (n + (m + 1)) = 5 * cap 1 (n + m) := rfl
      rw [e, e2, ← ih]
      clear ih e e2
      grind
  rw [cm] at m
  have m2 := cap_mono (c := 1) (by omega) (d + (d + r + r)) 20 (by omega)
  have e : cap 1 20 = 95367431640625 := by decide +kernel
  omega
theorem pow_row_bd {p q : Int} (hp : -4 ≤ p) (hp' : p ≤ 4) (hq : -4 ≤ q) (hq' : q ≤ 4) (d r : Nat) (h : d + r ≤ 10) : (-9765625 ≤ q ^ d * row p q 0 1 r ∧ q ^ d * row p q 0 1 r ≤ 9765625) ∧ -95367431640625 ≤ q ^ d * row p q 0 1 r * row p q 0 1 r ∧ q ^ d * row p q 0 1 r * row p q 0 1 r ≤ 95367431640625 := by
  have h1 := first_bd hp hp' hq hq' r
  have pc : ∀ d : Nat, -(cap 1 d) ≤ q ^ d ∧ q ^ d ≤ cap 1 d := fun d => by
    induction d with
    | zero => simp [cap]
    | succ d ih =>
      have n := cap_nonneg (c := 1) (by omega) d
      have m := mul_bd ih.1 ih.2 hq hq'
      have e : cap 1 (d + 1) = 5 * cap 1 d := rfl
      rw [Int.pow_succ]
      omega
  have h2 := pc d
  have m := mul_bd h2.1 h2.2 h1.1 h1.2
  have cm : ∀ n m : Nat, cap 1 n * cap 1 m = cap 1 (n + m) := fun n m => by
    induction m with
    | zero => simp [cap]
    | succ m ih =>
      have e : cap 1 (m + 1) = 5 * cap 1 m := rfl
      have e2 : cap 1 (n + (m + 1)) = 5 * cap 1 (n + m) := rfl
      rw [e, e2, ← ih]
      clear ih e e2
      grind
  rw [cm] at m
  have m2 := mul_bd m.1 m.2 h1.1 h1.2
  rw [cm] at m2
  have c1 := cap_mono (c := 1) (by omega) (d + r) 10 h
  have c2 := cap_mono (c := 1) (by omega) (d + r + r) 20 (by omega)
  have e1 : cap 1 10 = 9765625 := by decide +kernel
  have e2 : cap 1 20 = 95367431640625 := by decide +kernel
  omega
/-- The sums, by powers of 5. -/
theorem sum_bd {p q : Int} (hp : -4 ≤ p) (hp' : p ≤ 4) (hq : -4 ≤ q) (hq' : q ≤ 4) : ∀ n : Nat, -(cap 1 n) ≤ rowSum p q n ∧ rowSum p q n ≤ cap 1 n
  | 0 => by simp [rowSum, cap]
  | n + 1 => by
    have ih := sum_bd hp hp' hq hq' n
    have h := first_bd hp hp' hq hq' n
    have n0 := cap_nonneg (c := 1) (by omega) n
    have e : cap 1 (n + 1) = 5 * cap 1 n := rfl
    have e2 : rowSum p q (n + 1) = rowSum p q n + row p q 0 1 n := rfl
    omega
theorem sum_far {p q : Int} (hp : -4 ≤ p) (hp' : p ≤ 4) (hq : -4 ≤ q) (hq' : q ≤ 4) (n : Nat) (hn : n ≤ 20) : -95367431640625 ≤ rowSum p q n ∧ rowSum p q n ≤ 95367431640625 := by
  have h := sum_bd hp hp' hq hq' n
  have m := cap_mono (c := 1) (by omega) n 20 hn
  have e : cap 1 20 = 95367431640625 := by decide +kernel
  omega
end Go.Proofs.Ytennicmmjbfljaa
