/- What WeightOf and TurnedOf return, on both sides; the copy of a pair, and the equality of pairs. -/
import Derived.Test.YtgcpmgddlaeccaaPair
namespace Go.Proofs.Ytgcpmgddlaeccaa
open Go.RowKit
theorem bcell {W w1 : World} (hb : Below W.heap.size W w1) : (∀ b o, b < W.heap.size → w1.cell? ⟨b, o, none⟩ = W.cell? ⟨b, o, none⟩) ∧ (∀ b o, b < W.heap.size → w1.frozen? ⟨b, o, none⟩ = W.frozen? ⟨b, o, none⟩) :=
  ⟨fun b o h => hb.cell (p := ⟨b, o, none⟩) h, fun b o h => hb.frozen (p := ⟨b, o, none⟩) h⟩
theorem implPairOk_yes (p q : Int) (w : World) (h : pairB p q = true) : Calls Try.prog 36 #[pr p q] w fun e w' => e = .returned (.bool true) ∧ Below w.heap.size w w' := by rw [← h]; exact implPairOk_any p q w
theorem implPairOk_no (p q : Int) (w : World) (h : pairB p q = false) : Calls Try.prog 36 #[pr p q] w fun e w' => e = .returned (.bool false) ∧ Below w.heap.size w w' := by rw [← h]; exact implPairOk_any p q w
theorem specPairOk_yes (p q : Int) (w : World) (h : pairB p q = true) : Calls Try.prog 40 #[pr p q] w fun e w' => e = .returned (.bool true) ∧ Below w.heap.size w w' := by rw [← h]; exact specPairOk_any p q w
theorem specPairOk_no (p q : Int) (w : World) (h : pairB p q = false) : Calls Try.prog 40 #[pr p q] w fun e w' => e = .returned (.bool false) ∧ Below w.heap.size w w' := by rw [← h]; exact specPairOk_any p q w
/-- The weight of a pair, 0 for others. -/
def weightV (p q : Int) : Int := if pairB p q = true then p * p - 4 * q else 0
/-- P of the turned pair, 0 for others; and Q. -/
def turnP (p q : Int) : Int := if pairB p q = true then -p else 0
def turnQ (p q : Int) : Int := if pairB p q = true then q else 0
theorem ret_int_bool {k : IntKind} {a b : Int} {c d : Bool} (h : a = b) (h' : c = d) : Ending.returned (.tuple #[.int k a, .bool c]) = .returned (.tuple #[.int k b, .bool d]) := by rw [h, h']
theorem ret_pr {a b c d : Int} (h : a = c) (h' : b = d) : Ending.returned (pr a b) = .returned (pr c d) := by rw [h, h']
set_option maxHeartbeats 400000 in
theorem implWeight_any (p q : Int) (w : World) :
    Calls Try.prog 20 #[pr p q] w fun e w' => e = .returned (.tuple #[.int .i64 (weightV p q), .bool (pairB p q)]) ∧ Below w.heap.size w w' := by
  by_cases h : pairB p q = true
  · obtain ⟨⟨h1, h2⟩, h3, h4⟩ := pairB_true h
    obtain ⟨m1, m2⟩ := mul_bd h1 h2 h1 h2
    have H := Lib.hid h
    have HV := Lib.hid (show weightV p q = p * p - 4 * q by rw [weightV, if_pos h])
    clear h
    go_enter Try.func20, Try.ntmps20
    go_wp2_with (go_at_call 36; refine (implPairOk_yes _ _ _ H.out).mono ?_; rintro e w1 ⟨rfl, hb1⟩; obtain ⟨hc1, hf1⟩ := bcell hb1; have hz1 := hb1.size; try simp only [World.size_alloc] at hz1)
    go_ret2
    exact ⟨ret_int_bool HV.out.symm H.out.symm, ((Below.refl _ _).alloc (Nat.le_refl _) _).trans (hb1.mono (by simp))⟩
  · have h' : pairB p q = false := by simpa using h
    have H := Lib.hid h'
    have HV := Lib.hid (show weightV p q = 0 by rw [weightV, if_neg h])
    clear h h'
    go_enter Try.func20, Try.ntmps20
    go_wp2_with (go_at_call 36; refine (implPairOk_no _ _ _ H.out).mono ?_; rintro e w1 ⟨rfl, hb1⟩; obtain ⟨hc1, hf1⟩ := bcell hb1; have hz1 := hb1.size; try simp only [World.size_alloc] at hz1)
    go_ret2
    exact ⟨ret_int_bool HV.out.symm H.out.symm, ((Below.refl _ _).alloc (Nat.le_refl _) _).trans (hb1.mono (by simp))⟩
set_option maxHeartbeats 400000 in
theorem toPair_any (p q : Int) (w : World) :
    Calls Try.prog 28 #[pr p q] w fun e w' => e = .returned (pr p q) ∧ Below w.heap.size w w' := by
  go_enter Try.func28, Try.ntmps28
  go_wp2
  refine bodyPost_ret (v := pr p q) (by simp [results, Try.results28, go_sem]) rfl ⟨rfl, ?_⟩
  (repeat (first | exact Below.refl _ _ | refine Below.setCell ?_ (by first | omega | (simp <;> omega)) _ | refine Below.alloc ?_ (by first | omega | (simp <;> omega)) _ | refine Below.drew ?_ | refine Below.trans ?_ (Below.mono (by assumption) (by first | omega | (simp <;> omega))) | refine Below.grown ?_ (by assumption) (by first | omega | (simp <;> omega)) (fun k e => by cases e; first | omega | (simp <;> omega))))
end Go.Proofs.Ytgcpmgddlaeccaa
