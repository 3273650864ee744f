/- FarFirst, FarSecond, PowerLeft and RowLeft of the model: what they return. -/
import Derived.Test.YtennicmmjbfljaaLeftModel
import Derived.Test.YtennicmmjbfljaaLists
import Derived.Test.YtennicmmjbfljaaRowsModel
namespace Go.Proofs.Ytennicmmjbfljaa
open Go.RowKit
/-- Whether there is something left: a pair, a place far on, a number by which is divided; and how much, -1 for others. -/
def farB (p q n m : Int) : Bool := pairB p q && (inB n 0 1000000000 && inB m 1 10000)
def farFirstV (p q n m : Int) : Int := if farB p q n m = true then row p q 0 1 n.toNat % m else -1
def farSecondV (p q n m : Int) : Int := if farB p q n m = true then row p q 2 p n.toNat % m else -1
def powB (a t m : Int) : Bool := inB a (-10000) 10000 && (inB t 0 1000000000 && inB m 1 10000)
def powLeftV (a t m : Int) : Int := if powB a t m = true then a ^ t.toNat % m else -1
def rowLeftB (p q n m : Int) : Bool := pairB p q && (inB n 0 200 && inB m 1 10000)
/-- How many numbers RowLeft returns. -/
def rowLeftN (p q n m : Int) : Nat := if rowLeftB p q n m = true then n.toNat + 1 else 0
theorem farB_true {p q n m : Int} (h : farB p q n m = true) : pairB p q = true ∧ (∃ k : Nat, n = k ∧ k ≤ 1000000000) ∧ 1 ≤ m ∧ m ≤ 10000 := by
  have h' : pairB p q = true ∧ inB n 0 1000000000 = true ∧ inB m 1 10000 = true := by simpa [farB] using h
  obtain ⟨hp, ha, hb⟩ := h'
  obtain ⟨a1, a2⟩ := inB_true ha
  obtain ⟨b1, b2⟩ := inB_true hb
  exact ⟨hp, ⟨n.toNat, by omega, by omega⟩, b1, b2⟩
theorem powB_true {a t m : Int} (h : powB a t m = true) : (-10000 ≤ a ∧ a ≤ 10000) ∧ (∃ k : Nat, t = k ∧ k ≤ 1000000000) ∧ 1 ≤ m ∧ m ≤ 10000 := by
  have h' : inB a (-10000) 10000 = true ∧ inB t 0 1000000000 = true ∧ inB m 1 10000 = true := by simpa [powB] using h
  obtain ⟨ht, ha, hb⟩ := h'
  obtain ⟨a1, a2⟩ := inB_true ha
  obtain ⟨b1, b2⟩ := inB_true hb
  exact ⟨inB_true ht, ⟨t.toNat, by omega, by omega⟩, b1, b2⟩
theorem rowLeftB_true {p q n m : Int} (h : rowLeftB p q n m = true) : pairB p q = true ∧ (∃ k : Nat, n = k ∧ k ≤ 200) ∧ 1 ≤ m ∧ m ≤ 10000 := by
  have h' : pairB p q = true ∧ inB n 0 200 = true ∧ inB m 1 10000 = true := by simpa [rowLeftB] using h
  obtain ⟨hp, ha, hb⟩ := h'
  obtain ⟨a1, a2⟩ := inB_true ha
  obtain ⟨b1, b2⟩ := inB_true hb
  exact ⟨hp, ⟨n.toNat, by omega, by omega⟩, b1, b2⟩
theorem l1In_is (n a b : Int) (c : Bool) (w : World) (h : inB n a b = c) : Calls Try.prog 49 #[.int .i64 n, .int .i64 a, .int .i64 b] w fun e w' => e = .returned (.bool c) ∧ w = w' := by have := l1In_any n a b w; rw [h] at this; exact this
theorem farB_ways {p q n m : Int} (h : farB p q n m = false) : pairB p q = false ∨ (pairB p q = true ∧ inB n 0 1000000000 = false) ∨ (pairB p q = true ∧ inB n 0 1000000000 = true ∧ inB m 1 10000 = false) := by
  cases hp : pairB p q with
  | false => exact .inl rfl
  | true =>
    cases ha : inB n 0 1000000000 with
    | false => exact .inr (.inl ⟨rfl, rfl⟩)
    | true => exact .inr (.inr ⟨rfl, rfl, by simpa [farB, hp, ha] using h⟩)
theorem rowLeftB_ways {p q n m : Int} (h : rowLeftB p q n m = false) : pairB p q = false ∨ (pairB p q = true ∧ inB n 0 200 = false) ∨ (pairB p q = true ∧ inB n 0 200 = true ∧ inB m 1 10000 = false) := by
  cases hp : pairB p q with
  | false => exact .inl rfl
  | true =>
    cases ha : inB n 0 200 with
    | false => exact .inr (.inl ⟨rfl, rfl⟩)
    | true => exact .inr (.inr ⟨rfl, rfl, by simpa [rowLeftB, hp, ha] using h⟩)
theorem powB_ways {a t m : Int} (h : powB a t m = false) : inB a (-10000) 10000 = false ∨ (inB a (-10000) 10000 = true ∧ inB t 0 1000000000 = false) ∨ (inB a (-10000) 10000 = true ∧ inB t 0 1000000000 = true ∧ inB m 1 10000 = false) := by
  cases hp : inB a (-10000) 10000 with
  | false => exact .inl rfl
  | true =>
    cases ha : inB t 0 1000000000 with
    | false => exact .inr (.inl ⟨rfl, rfl⟩)
    | true => exact .inr (.inr ⟨rfl, rfl, by simpa [powB, hp, ha] using h⟩)
theorem mul_pos_bd {x y m : Int} (h1 : 0 ≤ x) (h2 : x < m) (h3 : 0 ≤ y) (h4 : y < m) (hm : m ≤ 10000) : 0 ≤ x * y ∧ x * y ≤ 100000000 := by
  have := mul_bd (a := 10000) (b := 10000) (show -10000 ≤ x by omega) (by omega) (show -10000 ≤ y by omega) (by omega)
  exact ⟨Int.mul_nonneg h1 h3, this.2⟩
end Go.Proofs.Ytennicmmjbfljaa
