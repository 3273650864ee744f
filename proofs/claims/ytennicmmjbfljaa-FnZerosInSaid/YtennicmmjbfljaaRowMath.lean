/- The mathematics of both rows: what belongs together. No program is named here. -/
import Derived.Test.YtennicmmjbfljaaMath
namespace Go.Proofs.Ytennicmmjbfljaa
theorem two_steps {P : Nat → Prop} (h0 : P 0) (h1 : P 1) (hs : ∀ n, P n → P (n + 1) → P (n + 2)) : ∀ n, P n := by
  have : ∀ n, P n ∧ P (n + 1) := fun n => by
    induction n with
    | zero => exact ⟨h0, h1⟩
    | succ n ih => exact ⟨ih.2, hs n ih.1 ih.2⟩
  exact fun n => (this n).1
/-- The second row is told by the first one. -/
theorem second_of_first (p q : Int) : ∀ n, row p q 2 p n = 2 * row p q 0 1 (n + 1) - p * row p q 0 1 n := by
  refine two_steps ?_ ?_ ?_
  · simp [row]
  · simp only [row]; grind
  · intro n h1 h2
    have e1 : row p q 2 p (n + 2) = p * row p q 2 p (n + 1) - q * row p q 2 p n := rfl
    have e2 : row p q 0 1 (n + 1 + 1) = p * row p q 0 1 (n + 1) - q * row p q 0 1 n := rfl
    have e3 : row p q 0 1 (n + 2 + 1) = p * row p q 0 1 (n + 1 + 1) - q * row p q 0 1 (n + 1) := rfl
    rw [e1, h1, h2, e3]
    have e4 : row p q 0 1 (n + 2) = row p q 0 1 (n + 1 + 1) := rfl
    rw [e4, e2]
    grind
/-- The norm of two neighbours is a power. -/
theorem row_norm (p q : Int) : ∀ n, row p q 0 1 (n + 1) * row p q 0 1 (n + 1) - p * row p q 0 1 n * row p q 0 1 (n + 1) + q * row p q 0 1 n * row p q 0 1 n = q ^ n := by
  intro n
  induction n with
  | zero => simp [row]
  | succ n ih =>
    have e : row p q 0 1 (n + 1 + 1) = p * row p q 0 1 (n + 1) - q * row p q 0 1 n := rfl
    rw [e, Int.pow_succ, ← ih]
    grind
/-- Both rows belong together. -/
theorem row_square (p q : Int) (n : Nat) : row p q 2 p n * row p q 2 p n - (p * p - 4 * q) * row p q 0 1 n * row p q 0 1 n = 4 * q ^ n := by
  rw [second_of_first, ← row_norm p q n]
  grind
/-- A power of a number of a pair. -/
theorem pow_bd {a : Int} (h1 : -4 ≤ a) (h2 : a ≤ 4) : ∀ n : Nat, -(4 ^ n) ≤ a ^ n ∧ a ^ n ≤ 4 ^ n
  | 0 => by simp
  | n + 1 => by
    obtain ⟨m1, m2⟩ := pow_bd h1 h2 n
    have := mul_bd m1 m2 h1 h2
    rw [Int.pow_succ, Int.pow_succ]
    exact this
theorem pow_small {a : Int} (h1 : -4 ≤ a) (h2 : a ≤ 4) (n : Nat) (hn : n ≤ 25) : -1125899906842624 ≤ a ^ n ∧ a ^ n ≤ 1125899906842624 := by
  obtain ⟨m1, m2⟩ := pow_bd h1 h2 n
  have e : (4 : Int) ^ n ≤ 4 ^ 25 := by
    have := Nat.pow_le_pow_right (n := 4) (by omega) hn
    exact_mod_cast this
  have e2 : (4 : Int) ^ 25 = 1125899906842624 := by decide +kernel
  omega
/-- The sign at a place of a turned first row. -/
def sgn : Nat → Int
  | 0 => -1
  | n + 1 => -sgn n
theorem sgn_mod : ∀ n : Nat, sgn n = -(1 - (n : Int) % 2 * 2)
  | 0 => rfl
  | n + 1 => by simp only [sgn, sgn_mod n]; omega
/-- Turned pairs change every second sign. -/
theorem row_turn (p q : Int) : ∀ n, row (-p) q 0 1 n = sgn n * row p q 0 1 n ∧ row (-p) q 2 (-p) n = -sgn n * row p q 2 p n := by
  refine two_steps ?_ ?_ ?_
  · simp [row, sgn]
  · simp [row, sgn]
  · rintro n ⟨h1, h2⟩ ⟨h3, h4⟩
    have a1 : row (-p) q 0 1 (n + 2) = (-p) * row (-p) q 0 1 (n + 1) - q * row (-p) q 0 1 n := rfl
    have a2 : row (-p) q 2 (-p) (n + 2) = (-p) * row (-p) q 2 (-p) (n + 1) - q * row (-p) q 2 (-p) n := rfl
    have b1 : row p q 0 1 (n + 2) = p * row p q 0 1 (n + 1) - q * row p q 0 1 n := rfl
    have b2 : row p q 2 p (n + 2) = p * row p q 2 p (n + 1) - q * row p q 2 p n := rfl
    have s1 : sgn (n + 1) = -sgn n := rfl
    have s2 : sgn (n + 2) = sgn n := by show - - sgn n = sgn n; omega
    rw [a1, a2, b1, b2, h1, h2, h3, h4, s1, s2]
    clear h1 h2 h3 h4 a1 a2 b1 b2 s1 s2
    constructor <;> grind
end Go.Proofs.Ytennicmmjbfljaa
