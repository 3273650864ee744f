/- One of four numbers, drawn. -/
import Derived.Test.YtgcpmgddlaeccaaDrawsTwo
import Derived.Deep.RegionWith
namespace Go.Proofs.Ytgcpmgddlaeccaa
open Go.RowKit
/-- One of four numbers, by half of another one. -/
def four (v a b c d : Int) : Int := if v / 2 = 0 then a else if v / 2 = 1 then b else if v / 2 = 2 then c else d
theorem four_get (v a b c d : Int) (h0 : 0 ≤ v) (h1 : v ≤ 7) : (#[.int .i64 a, .int .i64 b, .int .i64 c, .int .i64 d] : Array Value)[(v / 2).toNat]? = some (.int .i64 (four v a b c d)) := by
  rcases (show v / 2 = 0 ∨ v / 2 = 1 ∨ v / 2 = 2 ∨ v / 2 = 3 by omega) with e | e | e | e <;> simp [four, e]
theorem four_at (v a b c d : Int) (h : (v / 2).toNat < [Value.int .i64 a, Value.int .i64 b, Value.int .i64 c, Value.int .i64 d].length) (h0 : 0 ≤ v) (h1 : v ≤ 7) : [Value.int .i64 a, Value.int .i64 b, Value.int .i64 c, Value.int .i64 d][(v / 2).toNat]'h = .int .i64 (four v a b c d) := by
  have e := four_get v a b c d h0 h1
  rw [Array.getElem?_eq_some_iff] at e
  obtain ⟨_, e⟩ := e
  simpa using e
/-- What a draw of a number returns. -/
def NumberDrawn (w : World) (R k m : Nat) (e : Ending) (w' : World) : Prop :=
  ∃ v : Int, e = .returned (.int .i64 v) ∧ Rd w' R (k + m) ∧ w.grownBy w' (some R)
end Go.Proofs.Ytgcpmgddlaeccaa
