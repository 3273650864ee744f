/- What the small functions on a pair of numbers return: PairOk, l1In, WeightOf, TurnedOf, on both sides. -/
import Derived.Test.YtennicmmjbfljaaProg
import Derived.Test.YtennicmmjbfljaaMath
import Derived.WalkKit
import Derived.Lib.Hide
import Derived.WalkSpells
import Derived.WalkLawsBesides
namespace Go.Proofs.Ytennicmmjbfljaa
open Go.RowKit
theorem ret_bool {a b : Bool} (h : a = b) : Ending.returned (.bool a) = .returned (.bool b) := by rw [h]
theorem ret_int {k : IntKind} {a b : Int} (h : a = b) : Ending.returned (.int k a) = .returned (.int k b) := by rw [h]
/-- A pair as a value. -/
abbrev pr (p q : Int) : Value := .agg #[.int .i64 p, .int .i64 q]
set_option maxHeartbeats 400000 in
theorem numberOk_any (n : Int) (w : World) :
    Calls Try.prog 56 #[.int .i64 n] w fun e w' => e = .returned (.bool (numB n)) ∧ w = w' := by
  by_cases h1 : -4 ≤ n
  · by_cases h2 : n ≤ 4
    · have H := Lib.hid (numB_mk h1 h2)
      go_enter Try.func56, Try.ntmps56
      go_wp2
      go_ret
      exact ⟨ret_bool H.out.symm, rfl⟩
    · have H := Lib.hid (numB_no (n := n) (by omega))
      have h2' : 4 < n := by omega
      go_enter Try.func56, Try.ntmps56
      go_wp2
      go_ret
      exact ⟨ret_bool H.out.symm, rfl⟩
  · have H := Lib.hid (numB_no (n := n) (by omega))
    have h1' : n < -4 := by omega
    go_enter Try.func56, Try.ntmps56
    go_wp2
    go_ret
    exact ⟨ret_bool H.out.symm, rfl⟩
set_option maxHeartbeats 400000 in
theorem placeOk_any (n : Int) (w : World) :
    Calls Try.prog 59 #[.int .i64 n] w fun e w' => e = .returned (.bool (placeB n)) ∧ w = w' := by
  by_cases h1 : 0 ≤ n
  · by_cases h2 : n ≤ 20
    · have H := Lib.hid (placeB_mk h1 h2)
      go_enter Try.func59, Try.ntmps59
      go_wp2
      go_ret
      exact ⟨ret_bool H.out.symm, rfl⟩
    · have H := Lib.hid (placeB_no (n := n) (by omega))
      have h2' : 20 < n := by omega
      go_enter Try.func59, Try.ntmps59
      go_wp2
      go_ret
      exact ⟨ret_bool H.out.symm, rfl⟩
  · have H := Lib.hid (placeB_no (n := n) (by omega))
    have h1' : n < 0 := by omega
    go_enter Try.func59, Try.ntmps59
    go_wp2
    go_ret
    exact ⟨ret_bool H.out.symm, rfl⟩
/-- Whether a number is within two others. -/
def inB (n a b : Int) : Bool := decide (a ≤ n ∧ n ≤ b)
theorem inB_mk {n a b : Int} (h1 : a ≤ n) (h2 : n ≤ b) : inB n a b = true := by simp [inB, h1, h2]
theorem inB_no {n a b : Int} (h : n < a ∨ b < n) : inB n a b = false := by
  have h' : ¬ (a ≤ n ∧ n ≤ b) := by omega
  simp only [inB, h', decide_false]
theorem inB_true {n a b : Int} (h : inB n a b = true) : a ≤ n ∧ n ≤ b := by simpa [inB] using h
theorem inB_false {n a b : Int} (h : inB n a b = false) : n < a ∨ b < n := by
  have h' : ¬ (a ≤ n ∧ n ≤ b) := by simpa [inB] using h
  omega
theorem inB_num (n : Int) : inB n (-4) 4 = numB n := rfl
theorem inB_place (n : Int) : inB n 0 20 = placeB n := rfl
set_option maxHeartbeats 400000 in
theorem l1In_any (n a b : Int) (w : World) :
    Calls Try.prog 49 #[.int .i64 n, .int .i64 a, .int .i64 b] w fun e w' => e = .returned (.bool (inB n a b)) ∧ w = w' := by
  by_cases h1 : a ≤ n
  · by_cases h2 : n ≤ b
    · have H := Lib.hid (inB_mk h1 h2)
      go_enter Try.func49, Try.ntmps49
      go_wp2
      go_ret
      exact ⟨ret_bool H.out.symm, rfl⟩
    · have H := Lib.hid (inB_no (n := n) (a := a) (b := b) (by omega))
      have h2' : b < n := by omega
      go_enter Try.func49, Try.ntmps49
      go_wp2
      go_ret
      exact ⟨ret_bool H.out.symm, rfl⟩
  · have H := Lib.hid (inB_no (n := n) (a := a) (b := b) (by omega))
    have h1' : n < a := by omega
    go_enter Try.func49, Try.ntmps49
    go_wp2
    go_ret
    exact ⟨ret_bool H.out.symm, rfl⟩
set_option maxHeartbeats 400000 in
theorem implPairOk_any (p q : Int) (w : World) :
    Calls Try.prog 40 #[pr p q] w fun e w' => e = .returned (.bool (pairB p q)) ∧ Below w.heap.size w w' := by
  by_cases h1 : numB p = true
  · by_cases h2 : numB q = true
    · have H := Lib.hid (show pairB p q = true by simp [pairB, h1, h2])
      go_enter Try.func40, Try.ntmps40
      go_wp2_with (go_at_call 56; refine (numberOk_any _ _).mono ?_; rintro e w' ⟨rfl, rfl⟩)
      go_ret
      exact ⟨ret_bool H.out.symm, (Below.refl _ _).alloc (Nat.le_refl _) _⟩
    · have h2' : numB q = false := by simpa using h2
      have H := Lib.hid (show pairB p q = false by simp [pairB, h2'])
      clear h2
      go_enter Try.func40, Try.ntmps40
      go_wp2_with (go_at_call 56; refine (numberOk_any _ _).mono ?_; rintro e w' ⟨rfl, rfl⟩)
      go_ret
      exact ⟨ret_bool H.out.symm, (Below.refl _ _).alloc (Nat.le_refl _) _⟩
  · have h1' : numB p = false := by simpa using h1
    have H := Lib.hid (show pairB p q = false by simp [pairB, h1'])
    clear h1
    go_enter Try.func40, Try.ntmps40
    go_wp2_with (go_at_call 56; refine (numberOk_any _ _).mono ?_; rintro e w' ⟨rfl, rfl⟩)
    go_ret
    exact ⟨ret_bool H.out.symm, (Below.refl _ _).alloc (Nat.le_refl _) _⟩
set_option maxHeartbeats 400000 in
theorem l1In_num (n : Int) (w : World) : Calls Try.prog 49 #[.int .i64 n, .int .i64 (-4), .int .i64 4] w fun e w' => e = .returned (.bool (numB n)) ∧ w = w' := l1In_any n (-4) 4 w
set_option maxHeartbeats 400000 in
theorem l1In_place (n : Int) (w : World) : Calls Try.prog 49 #[.int .i64 n, .int .i64 0, .int .i64 20] w fun e w' => e = .returned (.bool (placeB n)) ∧ w = w' := l1In_any n 0 20 w
set_option maxHeartbeats 400000 in
theorem specPairOk_any (p q : Int) (w : World) :
    Calls Try.prog 42 #[pr p q] w fun e w' => e = .returned (.bool (pairB p q)) ∧ Below w.heap.size w w' := by
  by_cases h1 : numB p = true
  · by_cases h2 : numB q = true
    · have H := Lib.hid (show pairB p q = true by simp [pairB, h1, h2])
      go_enter Try.func42, Try.ntmps42
      go_wp2_with (go_at_call 49; refine (l1In_num _ _).mono ?_; rintro e w' ⟨rfl, rfl⟩)
      go_ret
      exact ⟨ret_bool H.out.symm, (Below.refl _ _).alloc (Nat.le_refl _) _⟩
    · have h2' : numB q = false := by simpa using h2
      have H := Lib.hid (show pairB p q = false by simp [pairB, h2'])
      clear h2
      go_enter Try.func42, Try.ntmps42
      go_wp2_with (go_at_call 49; refine (l1In_num _ _).mono ?_; rintro e w' ⟨rfl, rfl⟩)
      go_ret
      exact ⟨ret_bool H.out.symm, (Below.refl _ _).alloc (Nat.le_refl _) _⟩
  · have h1' : numB p = false := by simpa using h1
    have H := Lib.hid (show pairB p q = false by simp [pairB, h1'])
    clear h1
    go_enter Try.func42, Try.ntmps42
    go_wp2_with (go_at_call 49; refine (l1In_num _ _).mono ?_; rintro e w' ⟨rfl, rfl⟩)
    go_ret
    exact ⟨ret_bool H.out.symm, (Below.refl _ _).alloc (Nat.le_refl _) _⟩
end Go.Proofs.Ytennicmmjbfljaa
