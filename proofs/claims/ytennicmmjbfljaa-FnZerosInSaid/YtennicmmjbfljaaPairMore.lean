/- What WeightOf and TurnedOf return, on both sides; the copy of a pair, and the equality of pairs. -/
import Derived.Test.YtennicmmjbfljaaPair
namespace Go.Proofs.Ytennicmmjbfljaa
open Go.RowKit
theorem bcell {W w1 : World} (hb : Below W.heap.size W w1) : (∀ b o, b < W.heap.size → w1.cell? ⟨b, o, none⟩ = W.cell? ⟨b, o, none⟩) ∧ (∀ b o, b < W.heap.size → w1.frozen? ⟨b, o, none⟩ = W.frozen? ⟨b, o, none⟩) :=
  ⟨fun b o h => hb.cell (p := ⟨b, o, none⟩) h, fun b o h => hb.frozen (p := ⟨b, o, none⟩) h⟩
theorem implPairOk_yes (p q : Int) (w : World) (h : pairB p q = true) : Calls Try.prog 40 #[pr p q] w fun e w' => e = .returned (.bool true) ∧ Below w.heap.size w w' := by rw [← h]; exact implPairOk_any p q w
theorem implPairOk_no (p q : Int) (w : World) (h : pairB p q = false) : Calls Try.prog 40 #[pr p q] w fun e w' => e = .returned (.bool false) ∧ Below w.heap.size w w' := by rw [← h]; exact implPairOk_any p q w
theorem specPairOk_yes (p q : Int) (w : World) (h : pairB p q = true) : Calls Try.prog 42 #[pr p q] w fun e w' => e = .returned (.bool true) ∧ Below w.heap.size w w' := by rw [← h]; exact specPairOk_any p q w
theorem specPairOk_no (p q : Int) (w : World) (h : pairB p q = false) : Calls Try.prog 42 #[pr p q] w fun e w' => e = .returned (.bool false) ∧ Below w.heap.size w w' := by rw [← h]; exact specPairOk_any p q w
/-- The weight of a pair, 0 for others. -/
def weightV (p q : Int) : Int := if pairB p q = true then p * p - 4 * q else 0
/-- P of the turned pair, 0 for others; and Q. -/
def turnP (p q : Int) : Int := if pairB p q = true then -p else 0
def turnQ (p q : Int) : Int := if pairB p q = true then q else 0
theorem ret_int_bool {k : IntKind} {a b : Int} {c d : Bool} (h : a = b) (h' : c = d) : Ending.returned (.tuple #[.int k a, .bool c]) = .returned (.tuple #[.int k b, .bool d]) := by rw [h, h']
theorem ret_pr {a b c d : Int} (h : a = c) (h' : b = d) : Ending.returned (pr a b) = .returned (pr c d) := by rw [h, h']
set_option maxHeartbeats 400000 in
theorem toPair_any (p q : Int) (w : World) :
    Calls Try.prog 34 #[pr p q] w fun e w' => e = .returned (pr p q) ∧ Below w.heap.size w w' := by
  go_enter Try.func34, Try.ntmps34
  go_wp2
  refine bodyPost_ret (v := pr p q) (by simp [results, Try.results34, go_sem]) rfl ⟨rfl, ?_⟩
  (repeat (first | exact Below.refl _ _ | refine Below.setCell ?_ (by first | omega | (simp <;> omega)) _ | refine Below.alloc ?_ (by first | omega | (simp <;> omega)) _ | refine Below.drew ?_ | refine Below.trans ?_ (Below.mono (by assumption) (by first | omega | (simp <;> omega))) | refine Below.grown ?_ (by assumption) (by first | omega | (simp <;> omega)) (fun k e => by cases e; first | omega | (simp <;> omega))))
end Go.Proofs.Ytennicmmjbfljaa
