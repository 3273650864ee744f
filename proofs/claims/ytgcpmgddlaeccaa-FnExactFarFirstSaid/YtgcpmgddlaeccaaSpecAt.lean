/- What FirstAt and SecondAt of the model return. -/
import Derived.Test.YtgcpmgddlaeccaaRowsModel
namespace Go.Proofs.Ytgcpmgddlaeccaa
open Go.RowKit
/-- Whether there is a number of a row: a pair, and a place of a row. -/
def atB (p q n : Int) : Bool := pairB p q && placeB n
/-- The number of the first row, and of the second one, at a place; 0 where there is none. -/
def firstV (p q n : Int) : Int := if atB p q n = true then row p q 0 1 n.toNat else 0
def secondV (p q n : Int) : Int := if atB p q n = true then row p q 2 p n.toNat else 0
theorem l1In_place_yes (n : Int) (w : World) (h : placeB n = true) : Calls Try.prog 41 #[.int .i64 n, .int .i64 0, .int .i64 20] w fun e w' => e = .returned (.bool true) ∧ w = w' := by have := l1In_place n w; rw [h] at this; exact this
theorem l1In_place_no (n : Int) (w : World) (h : placeB n = false) : Calls Try.prog 41 #[.int .i64 n, .int .i64 0, .int .i64 20] w fun e w' => e = .returned (.bool false) ∧ w = w' := by have := l1In_place n w; rw [h] at this; exact this
end Go.Proofs.Ytgcpmgddlaeccaa
