/- The mathematics of what divides a row: places that divide, the rank of a number, shared divisors. No program is named here. -/
import Derived.Test.YtennicmmjbfljaaLeftMath
namespace Go.Proofs.Ytennicmmjbfljaa
/-- No common divisor but 1. -/
def Apart (d q : Int) : Prop := ∀ c : Int, c ∣ d → c ∣ q → c ∣ 1
theorem apart_gcd {d q : Int} : Int.gcd d q = 1 ↔ Apart d q := Int.gcd_eq_one_iff
theorem Apart.symm {d q : Int} (h : Apart d q) : Apart q d := fun c h1 h2 => h c h2 h1
theorem Apart.of_dvd {c d q : Int} (h : Apart d q) (hc : c ∣ d) : Apart c q := fun e h1 h2 => h e (Int.dvd_trans h1 hc) h2
theorem apart_cancel {d q x : Int} (h : Apart d q) (hd : d ∣ q * x) : d ∣ x := by
  have hg := apart_gcd.2 h
  rw [← Int.natAbs_dvd_natAbs] at hd ⊢
  rw [Int.natAbs_mul] at hd
  exact Nat.Coprime.dvd_of_dvd_mul_left hg hd
theorem Apart.mul {d q x : Int} (h : Apart d q) (h2 : Apart d x) : Apart d (q * x) := fun c hc hx => h2 c hc (apart_cancel (h.of_dvd hc) hx)
theorem Apart.pow {d q : Int} (h : Apart d q) : ∀ n : Nat, Apart d (q ^ n)
  | 0 => fun c _ hx => by rwa [Int.pow_zero] at hx
  | n + 1 => by rw [Int.pow_succ]; exact (h.pow n).mul h
/-- Two numbers of a row that are beside each other share nothing with what is apart from Q. -/
theorem neighbours_apart {p q m : Int} (h : Apart m q) : ∀ (n : Nat) (c : Int), c ∣ m → c ∣ row p q 0 1 n → c ∣ row p q 0 1 (n + 1) → c ∣ 1
  | 0, _, _, _, h2 => h2
  | n + 1, c, hc, h1, h2 => by
    refine neighbours_apart h n c hc ?_ h1
    refine apart_cancel (h.of_dvd hc) ?_
    have e : q * row p q 0 1 n = p * row p q 0 1 (n + 1) - row p q 0 1 (n + 1 + 1) := by
      have : row p q 0 1 (n + 1 + 1) = p * row p q 0 1 (n + 1) - q * row p q 0 1 n := rfl
      omega
    rw [e]
    exact Int.dvd_sub (Int.dvd_mul_of_dvd_right h1) h2
theorem next_apart {p q m : Int} (h : Apart m q) {r : Nat} (hr : m ∣ row p q 0 1 r) : Apart m (row p q 0 1 (r + 1)) := fun c h1 h2 => neighbours_apart h r c h1 (Int.dvd_trans h1 hr) h2
/-- Behind a place at which a number divides it divides as from the beginning. -/
theorem shift_dvd {p q m : Int} (h : Apart m q) {r : Nat} (hr : m ∣ row p q 0 1 r) : ∀ s : Nat, m ∣ row p q 0 1 (r + s) ↔ m ∣ row p q 0 1 s
  | 0 => ⟨fun _ => ⟨0, by simp [row]⟩, fun _ => hr⟩
  | s + 1 => by
    rw [show r + (s + 1) = s + 1 + r by omega, ← row_add]
    constructor
    · intro hd
      have h2 : m ∣ row p q 0 1 (r + 1) * row p q 0 1 (s + 1) := by
        have e : row p q 0 1 (r + 1) * row p q 0 1 (s + 1) = row p q 0 1 (s + 1) * row p q 0 1 (r + 1) - q * row p q 0 1 s * row p q 0 1 r + q * row p q 0 1 s * row p q 0 1 r := by rw [Int.mul_comm (row p q 0 1 (r + 1))]; omega
        rw [e]
        exact Int.dvd_add hd (Int.dvd_mul_of_dvd_right hr)
      exact apart_cancel (next_apart h hr) h2
    · intro hd
      exact Int.dvd_sub (Int.dvd_mul_of_dvd_left hd) (Int.dvd_mul_of_dvd_right hr)
/-- Places that divide make numbers that divide. -/
theorem row_dvd (p q : Int) (a : Nat) : ∀ k : Nat, row p q 0 1 a ∣ row p q 0 1 (a * k)
  | 0 => ⟨0, by simp [row]⟩
  | k + 1 => by
    cases a with
    | zero => exact ⟨1, by simp⟩
    | succ a =>
      have ih := row_dvd p q (a + 1) k
      rw [show (a + 1) * (k + 1) = a + 1 + (a + 1) * k by rw [Nat.mul_succ]; omega, ← row_add]
      exact Int.dvd_sub (Int.dvd_mul_of_dvd_left (Int.dvd_refl _)) (Int.dvd_mul_of_dvd_right ih)
/-- A number divides exactly at the multiples of its rank. -/
theorem rank_dvd {p q m : Int} (h : Apart m q) {r : Nat} (h1 : 1 ≤ r) (hr : m ∣ row p q 0 1 r) (hl : ∀ s, 1 ≤ s → s < r → ¬ m ∣ row p q 0 1 s) : ∀ N n : Nat, n ≤ N → (m ∣ row p q 0 1 n ↔ r ∣ n)
  | 0, n, hn => by
    obtain rfl : n = 0 := by omega
    exact ⟨fun _ => Nat.dvd_zero r, fun _ => ⟨0, by simp [row]⟩⟩
  | N + 1, n, hn => by
    by_cases h0 : n = 0
    · subst h0
      exact ⟨fun _ => Nat.dvd_zero r, fun _ => ⟨0, by simp [row]⟩⟩
    by_cases hlt : n < r
    · constructor
      · intro hd
        exact absurd hd (hl n (by omega) hlt)
      · intro hd
        have := Nat.le_of_dvd (by omega) hd
        omega
    · obtain ⟨s, rfl⟩ := Nat.exists_eq_add_of_le (show r ≤ n by omega)
      rw [shift_dvd h hr s, rank_dvd h h1 hr hl N s (by omega)]
      constructor
      · intro hd; exact Nat.dvd_add (Nat.dvd_refl r) hd
      · intro hd; exact (Nat.dvd_add_right (Nat.dvd_refl r)).1 hd
/-- Numbers of a row of a pair that is apart are apart from Q. -/
theorem row_apart {p q : Int} (h : Apart p q) : ∀ n : Nat, Apart (row p q 0 1 (n + 1)) q
  | 0 => fun c h1 _ => h1
  | n + 1 => fun c h1 h2 => by
    refine row_apart h n c ?_ h2
    refine apart_cancel (q := p) (fun e e1 e2 => h e e2 (Int.dvd_trans e1 h2)) ?_
    have e : p * row p q 0 1 (n + 1) = row p q 0 1 (n + 1 + 1) + q * row p q 0 1 n := by
      have : row p q 0 1 (n + 1 + 1) = p * row p q 0 1 (n + 1) - q * row p q 0 1 n := rfl
      omega
    rw [e]
    exact Int.dvd_add h1 (Int.dvd_mul_of_dvd_left h2)
/-- What divides at two places divides at what the places share. -/
theorem shared_dvd {p q : Int} (h : Apart p q) (c : Int) (a b : Nat) : c ∣ row p q 0 1 a → c ∣ row p q 0 1 b → c ∣ row p q 0 1 (Nat.gcd a b) := by
  induction a, b using Nat.gcd.induction with
  | H0 n => intro _ h2; rw [Nat.gcd_zero_left]; exact h2
  | H1 m n hm ih =>
    intro h1 h2
    rw [Nat.gcd_rec]
    refine ih ?_ h1
    obtain ⟨k, rfl⟩ : ∃ k, m = k + 1 := ⟨m - 1, by omega⟩
    have hq : Apart c q := (row_apart h k).of_dvd h1
    have hr : c ∣ row p q 0 1 ((k + 1) * (n / (k + 1))) := Int.dvd_trans h1 (row_dvd p q _ _)
    rw [← shift_dvd hq hr, Nat.div_add_mod]
    exact h2
/-- What both share is at what the places share. -/
theorem shared_is {p q : Int} (h : Apart p q) (a b : Nat) : Int.gcd (row p q 0 1 a) (row p q 0 1 b) = (row p q 0 1 (Nat.gcd a b)).natAbs := by
  apply Nat.dvd_antisymm
  · have := shared_dvd h (Int.gcd (row p q 0 1 a) (row p q 0 1 b)) a b (Int.gcd_dvd_left _ _) (Int.gcd_dvd_right _ _)
    rwa [Int.ofNat_dvd_left] at this
  · have h1 : row p q 0 1 (Nat.gcd a b) ∣ row p q 0 1 a := by
      obtain ⟨k, hk⟩ := Nat.gcd_dvd_left a b
      have := row_dvd p q (Nat.gcd a b) k
      rwa [← hk] at this
    have h2 : row p q 0 1 (Nat.gcd a b) ∣ row p q 0 1 b := by
      obtain ⟨k, hk⟩ := Nat.gcd_dvd_right a b
      have := row_dvd p q (Nat.gcd a b) k
      rwa [← hk] at this
    have := Int.dvd_coe_gcd h1 h2
    rw [← Int.natAbs_dvd_natAbs] at this
    simpa using this
end Go.Proofs.Ytennicmmjbfljaa
