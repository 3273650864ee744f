/- RowLeft of the model: a row of its own, appended to number by number. -/
import Derived.Test.YtennicmmjbfljaaLeftSpec
namespace Go.Proofs.Ytennicmmjbfljaa
open Go.RowKit
/-- The numbers that are left, as cells. -/
def leftCells (p q m : Int) (n : Nat) : List Value := (List.range n).map fun i => .int .i64 (row p q 0 1 i % m)
theorem leftCells_length (p q m : Int) (n : Nat) : (leftCells p q m n).length = n := by simp [leftCells]
theorem leftCells_snoc (p q m : Int) (n : Nat) : leftCells p q m n ++ [.int .i64 (row p q 0 1 n % m)] = leftCells p q m (n + 1) := by simp [leftCells, List.range_succ]
theorem own0 {w : World} {base g : Nat} (hb : base ≤ g) (h : w.heap[g]? = some (.cells #[] 3 (0, 0))) : w.ownsRow base 3 1 (.slice (some ⟨g, 0, none⟩) 0 0) 0 [] :=
  ⟨rfl, .inr ⟨g, 0, #[], rfl, hb, h, Nat.le_refl _, by unfold maxLen; omega, rfl, rfl⟩⟩
/-- What RowLeft returns. -/
def RowLeftOf (p q n m : Int) (w : World) (e : Ending) (w' : World) : Prop :=
  ∃ v, e = .returned v ∧ IsInts w.heap.size w'.heap.size w' v (rowLeftN p q n m) (fun i => row p q 0 1 i % m) ∧ Below w.heap.size w w'
end Go.Proofs.Ytennicmmjbfljaa
