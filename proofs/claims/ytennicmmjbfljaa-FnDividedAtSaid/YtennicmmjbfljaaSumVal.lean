/- The numbers that AtSum, AtTwice, AboutOf and SumTo tell, and where there is none; l1In, decided. -/
import Derived.Test.YtennicmmjbfljaaSumMath
import Derived.Test.YtennicmmjbfljaaSpecAt
namespace Go.Proofs.Ytennicmmjbfljaa
open Go.RowKit
theorem l1In_yes (n a b : Int) (w : World) (h : inB n a b = true) : Calls Try.prog 49 #[.int .i64 n, .int .i64 a, .int .i64 b] w fun e w' => e = .returned (.bool true) ∧ w = w' := by have := l1In_any n a b w; rw [h] at this; exact this
theorem l1In_no (n a b : Int) (w : World) (h : inB n a b = false) : Calls Try.prog 49 #[.int .i64 n, .int .i64 a, .int .i64 b] w fun e w' => e = .returned (.bool false) ∧ w = w' := by have := l1In_any n a b w; rw [h] at this; exact this
theorem l1Rows_at (p q n : Int) (m : Nat) (w : World) (hn : n = m) (h1 : -4 ≤ p) (h2 : p ≤ 4) (h3 : -4 ≤ q) (h4 : q ≤ 4) (hm : m ≤ 21) :
    Calls Try.prog 58 #[pr p q, .int .i64 n] w (Rows2 p q m w) := by subst hn; exact l1Rows_any p q m w h1 h2 h3 h4 hm
/-- Whether AtSum tells a number; and which, 0 where it tells none. -/
def atSumB (p q : Int) (a b : Int) : Bool := pairB p q && (inB a 1 10 && inB b 0 9)
def atSumV (p q : Int) (a b : Int) : Int := if atSumB p q a b = true then row p q 0 1 (a.toNat + b.toNat) else 0
/-- Whether AtTwice tells a number; and which, 0 where it tells none. -/
def atTwiceB (p q : Int) (n : Int) : Bool := pairB p q && inB n 0 10
def atTwiceV (p q : Int) (n : Int) : Int := if atTwiceB p q n = true then row p q 0 1 (2 * n.toNat) else 0
/-- Whether AboutOf tells a number; and which, 0 where it tells none. -/
def aboutOfB (p q : Int) (n r : Int) : Bool := pairB p q && (inB n 0 10 && inB r 0 n)
def aboutOfV (p q : Int) (n r : Int) : Int := if aboutOfB p q n r = true then q ^ (n - r).toNat * row p q 0 1 r.toNat * row p q 0 1 r.toNat else 0
/-- Whether SumTo tells a number; and which, 0 where it tells none. -/
def sumToB (p q : Int) (n : Int) : Bool := pairB p q && inB n 0 19
def sumToV (p q : Int) (n : Int) : Int := if sumToB p q n = true then rowSum p q (n.toNat + 1) else 0
theorem atSumB_true {p q a b : Int} (h : atSumB p q a b = true) : pairB p q = true ∧ ∃ i j : Nat, a = (i : Int) + 1 ∧ b = j ∧ i ≤ 9 ∧ j ≤ 9 := by
  have h' : pairB p q = true ∧ inB a 1 10 = true ∧ inB b 0 9 = true := by simpa [atSumB] using h
  obtain ⟨hp, ha, hb⟩ := h'
  obtain ⟨a1, a2⟩ := inB_true ha
  obtain ⟨b1, b2⟩ := inB_true hb
  exact ⟨hp, (a - 1).toNat, b.toNat, by omega, by omega, by omega, by omega⟩
theorem atTwiceB_true {p q n : Int} (h : atTwiceB p q n = true) : pairB p q = true ∧ ∃ i : Nat, n = i ∧ i ≤ 10 := by
  have h' : pairB p q = true ∧ inB n 0 10 = true := by simpa [atTwiceB] using h
  obtain ⟨hp, ha⟩ := h'
  obtain ⟨a1, a2⟩ := inB_true ha
  exact ⟨hp, n.toNat, by omega, by omega⟩
theorem aboutOfB_true {p q n r : Int} (h : aboutOfB p q n r = true) : pairB p q = true ∧ ∃ d k : Nat, n = (d : Int) + k ∧ r = k ∧ d + k ≤ 10 := by
  have h' : pairB p q = true ∧ inB n 0 10 = true ∧ inB r 0 n = true := by simpa [aboutOfB] using h
  obtain ⟨hp, ha, hb⟩ := h'
  obtain ⟨a1, a2⟩ := inB_true ha
  obtain ⟨b1, b2⟩ := inB_true hb
  exact ⟨hp, (n - r).toNat, r.toNat, by omega, by omega, by omega⟩
theorem sumToB_true {p q n : Int} (h : sumToB p q n = true) : pairB p q = true ∧ ∃ i : Nat, n = i ∧ i ≤ 19 := by
  have h' : pairB p q = true ∧ inB n 0 19 = true := by simpa [sumToB] using h
  obtain ⟨hp, ha⟩ := h'
  obtain ⟨a1, a2⟩ := inB_true ha
  exact ⟨hp, n.toNat, by omega, by omega⟩
theorem atSumV_is (p q : Int) (i j : Nat) (h : atSumB p q ((i : Int) + 1) j = true) : atSumV p q ((i : Int) + 1) j = row p q 0 1 (i + 1 + j) := by
  rw [atSumV, if_pos h, show ((i : Int) + 1).toNat = i + 1 by omega, show ((j : Int)).toNat = j by omega]
theorem atTwiceV_is (p q : Int) (i : Nat) (h : atTwiceB p q i = true) : atTwiceV p q i = row p q 0 1 (2 * i) := by
  rw [atTwiceV, if_pos h, show ((i : Int)).toNat = i by omega]
theorem aboutOfV_is (p q : Int) (d k : Nat) (h : aboutOfB p q ((d : Int) + k) k = true) : aboutOfV p q ((d : Int) + k) k = q ^ d * row p q 0 1 k * row p q 0 1 k := by
  rw [aboutOfV, if_pos h, show ((d : Int) + k - k).toNat = d by omega, show ((k : Int)).toNat = k by omega]
theorem sumToV_is (p q : Int) (i : Nat) (h : sumToB p q i = true) : sumToV p q i = rowSum p q (i + 1) := by
  rw [sumToV, if_pos h, show ((i : Int)).toNat = i by omega]
end Go.Proofs.Ytennicmmjbfljaa
