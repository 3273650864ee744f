/- The draws of the first stage, from the code on: nothing that was there is written. -/
import Derived.Test.YtennicmmjbfljaaDrawsPair
namespace Go.Proofs.Ytennicmmjbfljaa
open Go.RowKit
/-- What a draw of a pair returns. -/
def DrawnPair (w : World) (e : Ending) (w' : World) : Prop :=
  ∃ p q : Int, e = .returned (pr p q) ∧ -6 ≤ p ∧ p ≤ 100 ∧ -6 ≤ q ∧ q ≤ 100 ∧ Below w.heap.size w w'
/-- What a draw of a pair and a place returns. -/
def DrawnPlace (w : World) (e : Ending) (w' : World) : Prop :=
  ∃ p q n : Int, e = .returned (.tuple #[pr p q, .int .i64 n]) ∧ -6 ≤ p ∧ p ≤ 100 ∧ -6 ≤ q ∧ q ≤ 100 ∧ -60 ≤ n ∧ n ≤ 60 ∧ Below w.heap.size w w'
def PlaceDrawn (w : World) (R k : Nat) (e : Ending) (w' : World) : Prop :=
  ∃ p q n : Int, e = .returned (.tuple #[pr p q, .int .i64 n]) ∧ -5 ≤ p ∧ p ≤ 100 ∧ -5 ≤ q ∧ q ≤ 100 ∧ -60 ≤ n ∧ n ≤ 60 ∧ Rd w' R (k + 8) ∧ w.grownBy w' (some R)
/-- A code lies on. -/
theorem IsRow.below {w w' : World} {a : Option Addr} {len cap : Nat} {zs : List Int} (h : IsRow w a len cap zs) (hb : Below w.heap.size w w') : IsRow w' a len cap zs := by
  rcases h with h | ⟨x, rfl, hl, hm, hz, hc, hw⟩
  · exact .inl h
  · refine .inr ⟨x, rfl, hl, hm, hz, fun i hi => ?_, hw⟩
    have hci := hc i hi
    obtain ⟨o, ho, _⟩ := cells_of_cell' hci
    exact (hb.cell (Array.getElem?_eq_some_iff.1 ho).1).trans hci
/-- What is known of a pair's draw, as a fact behind a call. -/
theorem DrawnPair.of {w : World} {R k m : Nat} {e : Ending} {w1 w' : World} (h : PairDrawn w1 R k m e w') (hb : Below w.heap.size w w1) (hR : w.heap.size ≤ R) : DrawnPair w e w' := by
  obtain ⟨p, q, rfl, h1, h2, h3, h4, _, hg⟩ := h
  exact ⟨p, q, rfl, by omega, h2, by omega, h4, hb.grown hg hb.size (fun k e => by cases e; exact hR)⟩
end Go.Proofs.Ytennicmmjbfljaa
