/- The plain mathematics of pairs of rows: which numbers are a pair's, the numbers of both rows, their bounds. No program is named here. -/
import Derived.KernelRfl
namespace Go.Proofs.Ytennicmmjbfljaa
/-- A number of a pair. -/
def numB (n : Int) : Bool := decide (-4 ≤ n ∧ n ≤ 4)
/-- Both numbers of a pair. -/
def pairB (p q : Int) : Bool := numB p && numB q
/-- A place of a row. -/
def placeB (k : Int) : Bool := decide (0 ≤ k ∧ k ≤ 20)
theorem numB_true {n : Int} (h : numB n = true) : -4 ≤ n ∧ n ≤ 4 := by simpa [numB] using h
theorem numB_false {n : Int} (h : numB n = false) : n < -4 ∨ 4 < n := by
  have h' : ¬ (-4 ≤ n ∧ n ≤ 4) := by simpa [numB] using h
  omega
theorem numB_mk {n : Int} (h1 : -4 ≤ n) (h2 : n ≤ 4) : numB n = true := by simp [numB, h1, h2]
theorem numB_no {n : Int} (h : n < -4 ∨ 4 < n) : numB n = false := by
  have h' : ¬ (-4 ≤ n ∧ n ≤ 4) := by omega
  simp only [numB, h', decide_false]
theorem placeB_true {n : Int} (h : placeB n = true) : 0 ≤ n ∧ n ≤ 20 := by simpa [placeB] using h
theorem placeB_false {n : Int} (h : placeB n = false) : n < 0 ∨ 20 < n := by
  have h' : ¬ (0 ≤ n ∧ n ≤ 20) := by simpa [placeB] using h
  omega
theorem placeB_mk {n : Int} (h1 : 0 ≤ n) (h2 : n ≤ 20) : placeB n = true := by simp [placeB, h1, h2]
theorem placeB_no {n : Int} (h : n < 0 ∨ 20 < n) : placeB n = false := by
  have h' : ¬ (0 ≤ n ∧ n ≤ 20) := by omega
  simp only [placeB, h', decide_false]
theorem pairB_true {p q : Int} (h : pairB p q = true) : (-4 ≤ p ∧ p ≤ 4) ∧ (-4 ≤ q ∧ q ≤ 4) := by
  have h' : numB p = true ∧ numB q = true := by simpa [pairB] using h
  exact ⟨numB_true h'.1, numB_true h'.2⟩
theorem pairB_mk {p q : Int} (h1 : -4 ≤ p) (h2 : p ≤ 4) (h3 : -4 ≤ q) (h4 : q ≤ 4) : pairB p q = true := by simp [pairB, numB_mk, h1, h2, h3, h4]
/-- The numbers of a row that begins with a and b. -/
def row (p q a b : Int) : Nat → Int
  | 0 => a
  | 1 => b
  | n + 2 => p * row p q a b (n + 1) - q * row p q a b n
theorem row_step (p q a b : Int) (n : Nat) : row p q a b (n + 2) = p * row p q a b (n + 1) - q * row p q a b n := rfl
/-- The product of two bounded numbers. -/
theorem mul_bd {a b x y : Int} (h1 : -a ≤ x) (h2 : x ≤ a) (h3 : -b ≤ y) (h4 : y ≤ b) : -(a * b) ≤ x * y ∧ x * y ≤ a * b := by
  have ha : 0 ≤ a := by omega
  have hb : 0 ≤ b := by omega
  have hx : x.natAbs ≤ a.natAbs := by omega
  have hy : y.natAbs ≤ b.natAbs := by omega
  have h : (x * y).natAbs ≤ (a * b).natAbs := by rw [Int.natAbs_mul, Int.natAbs_mul]; exact Nat.mul_le_mul hx hy
  have hab : 0 ≤ a * b := Int.mul_nonneg ha hb
  omega
/-- How great the numbers of a row may be. -/
def cap (c : Int) : Nat → Int
  | 0 => c
  | n + 1 => 5 * cap c n
theorem cap_nonneg {c : Int} (h : 0 ≤ c) : ∀ n, 0 ≤ cap c n
  | 0 => h
  | n + 1 => by have := cap_nonneg h n; simp only [cap]; omega
theorem row_bd {p q a b : Int} (hp : -4 ≤ p) (hp' : p ≤ 4) (hq : -4 ≤ q) (hq' : q ≤ 4) {c : Int} (hc : 0 ≤ c) (ha : -c ≤ a) (ha' : a ≤ c) (hb : -(5 * c) ≤ b) (hb' : b ≤ 5 * c) :
    ∀ n, (-(cap c n) ≤ row p q a b n ∧ row p q a b n ≤ cap c n) ∧ (-(cap c (n + 1)) ≤ row p q a b (n + 1) ∧ row p q a b (n + 1) ≤ cap c (n + 1))
  | 0 => ⟨⟨ha, ha'⟩, hb, hb'⟩
  | n + 1 => by
    obtain ⟨⟨h1, h2⟩, h3, h4⟩ := row_bd hp hp' hq hq' hc ha ha' hb hb' n
    refine ⟨⟨h3, h4⟩, ?_⟩
    have e := row_step p q a b n
    have m1 := mul_bd (a := 4) hp hp' h3 h4
    have m2 := mul_bd (a := 4) hq hq' h1 h2
    have hn := cap_nonneg hc n
    have e2 : cap c (n + 1 + 1) = 5 * cap c (n + 1) := rfl
    have e1 : cap c (n + 1) = 5 * cap c n := rfl
    rw [e]
    omega
end Go.Proofs.Ytennicmmjbfljaa
