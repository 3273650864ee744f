/- Contracts that the statement's proof stands on. -/
import Derived.Test.YtfihmcpigbpgpaaAll0

namespace Go.Proofs.Ytfihmcpigbpgpaa
/-- What is left at a place, and behind it, by doubling. -/
def fastL (p q m : Int) : Nat → Nat → Int × Int
  | 0, _ => (0, 1 % m)
  | f + 1, n => if n = 0 then (0, 1 % m) else
    match fastL p q m f (n / 2) with
    | (u, v) =>
      match u * ((2 * v - p * u) % m) % m, (v * v - q * u % m * u) % m with
      | a, b => if n % 2 = 0 then (a, b) else (b, (p * b - q * a) % m)
theorem fastL_is (p q m : Int) : ∀ (f n : Nat), n < 2 ^ f → fastL p q m f n = (row p q 0 1 n % m, row p q 0 1 (n + 1) % m)
  | 0, n, h => by
    obtain rfl : n = 0 := by simpa using h
    simp [fastL, row]
  | f + 1, n, h => by
    by_cases h0 : n = 0
    · subst h0; simp [fastL, row]
    · have ih := fastL_is p q m f (n / 2) (by rw [Nat.pow_succ] at h; omega)
      rw [fastL, if_neg h0, ih]
      simp only []
      rw [far_even, far_odd]
      rcases Nat.mod_two_eq_zero_or_one n with he | he
      · obtain ⟨k, rfl⟩ : ∃ k, n = 2 * k := ⟨n / 2, by omega⟩
        rw [if_pos he, Nat.mul_div_cancel_left k (by omega)]
      · obtain ⟨k, rfl⟩ : ∃ k, n = 2 * k + 1 := ⟨n / 2, by omega⟩
        rw [if_neg (by omega), show (2 * k + 1) / 2 = k by omega, far_next]
/-- A power, by squaring. -/
def fastP (a m : Int) : Nat → Nat → Int
  | 0, _ => 1 % m
  | f + 1, n => if n = 0 then 1 % m else
    match fastP a m f (n / 2) with
    | s => match s * s % m with
      | t => if n % 2 = 0 then t else t * a % m
theorem fastP_is (a m : Int) : ∀ (f n : Nat), n < 2 ^ f → fastP a m f n = a ^ n % m
  | 0, n, h => by
    obtain rfl : n = 0 := by simpa using h
    simp [fastP]
  | f + 1, n, h => by
    by_cases h0 : n = 0
    · subst h0; simp [fastP]
    · have ih := fastP_is a m f (n / 2) (by rw [Nat.pow_succ] at h; omega)
      rw [fastP, if_neg h0, ih]
      simp only []
      have sq : a ^ (n / 2) % m * (a ^ (n / 2) % m) % m = a ^ (2 * (n / 2)) % m := by
        rw [show 2 * (n / 2) = n / 2 + n / 2 by omega, Int.pow_add]
        exact Eqm.left ((eqm_left m _).mul (eqm_left m _))
      rcases Nat.mod_two_eq_zero_or_one n with he | he
      · rw [if_pos he, sq, show 2 * (n / 2) = n by omega]
      · rw [if_neg (by omega), sq]
        refine Eq.trans (Eqm.left ((eqm_left m _).mul (Eqm.refl m a))) ?_
        rw [← Int.pow_succ, show (2 * (n / 2)).succ = n by omega]
def primes400 : List Nat := (List.range 401).filter fun p => decide (2 ≤ p) && (List.range p).all fun d => decide (d < 2) || decide (p % d ≠ 0)
/-- At an odd prime m the first row leaves what the power of the weight does, and the second one P; and beside it the first row leaves 0. -/
def chkPair (m : Nat) (p q : Int) : Bool :=
  match fastL p q m 9 m, fastP (p * p - 4 * q) m 9 (m / 2) with
  | (u, v), s => u == s && ((2 * v - p * u) % m == p % m) &&
    (q % m == 0 || (p * p - 4 * q) % m == 0 || (if s = 1 then (fastL p q m 9 (m - 1)).1 == 0 else (s == (m : Int) - 1) && ((fastL p q m 9 (m + 1)).1 == 0)))
def chkPrime (m : Nat) : Bool := (List.range 9).all fun i => (List.range 9).all fun j => chkPair m ((i : Int) - 4) ((j : Int) - 4)
set_option maxRecDepth 100000 in
theorem chk_all : (primes400.all fun m => m == 2 || chkPrime m) = true := by decide +kernel
end Go.Proofs.Ytfihmcpigbpgpaa
