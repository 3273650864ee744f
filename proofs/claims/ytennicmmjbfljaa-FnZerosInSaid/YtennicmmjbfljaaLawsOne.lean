/- The walks of the laws of the first stage on pairs: PairOk, WeightOf. -/
import Derived.Test.YtennicmmjbfljaaDrawsTwo
namespace Go.Proofs.Ytennicmmjbfljaa
open Go.RowKit
theorem pairB_neg (p q : Int) : pairB (-p) (-q) = pairB p q := by
  have h : ∀ n, numB (-n) = numB n := fun n => by
    simp only [numB]
    exact decide_eq_decide.2 (by omega)
  simp [pairB, h]
theorem implPairOk_neg (p q : Int) (w : World) : Calls Try.prog 40 #[pr (-p) (-q)] w fun e w' => e = .returned (.bool (pairB p q)) ∧ Below w.heap.size w w' := by rw [← pairB_neg]; exact implPairOk_any _ _ _
set_option maxHeartbeats 400000 in
theorem alive_any (w : World) : Calls Try.prog 19 #[] w fun e w' => e = .returned (.bool true) ∧ Below w.heap.size w w' := by
  go_enter Try.func19, Try.ntmps19
  go_wp2_with fail
  refine (implPairOk_yes 1 (-1) _ (by decide)).mono ?_
  rintro e w1 ⟨rfl, hh1⟩
  obtain ⟨hc1, hf1⟩ := bcell hh1
  have hz1 := hh1.size
  try simp only [World.size_alloc] at hz1
  go_wp2_with fail
  refine (implPairOk_no 5 0 _ (by decide)).mono ?_
  rintro e w2 ⟨rfl, hh2⟩
  obtain ⟨hc2, hf2⟩ := bcell hh2
  have hz2 := hh2.size
  try simp only [World.size_alloc] at hz2
  go_wp2
  go_ret
  exact ⟨rfl, by (repeat (first | exact Below.refl _ _ | refine Below.setCell ?_ (by first | omega | (simp <;> omega)) _ | refine Below.alloc ?_ (by first | omega | (simp <;> omega)) _ | refine Below.drew ?_ | refine Below.trans ?_ (Below.mono (by assumption) (by first | omega | (simp <;> omega))) | refine Below.grown ?_ (by assumption) (by first | omega | (simp <;> omega)) (fun k e => by cases e; first | omega | (simp <;> omega))))⟩
theorem nine {p : Int} (h1 : -4 ≤ p) (h2 : p ≤ 4) : p = -4 ∨ p = -3 ∨ p = -2 ∨ p = -1 ∨ p = 0 ∨ p = 1 ∨ p = 2 ∨ p = 3 ∨ p = 4 := by omega
theorem weight_mod (p q : Int) (h : pairB p q = true) : ((wrap64 ((weightV p q).tmod 4 + 4)).tmod 4 == (p * p).tmod 2) = true := by
  obtain ⟨⟨h1, h2⟩, h3, h4⟩ := pairB_true h
  rw [weightV, if_pos h]
  clear h
  rcases nine h1 h2 with rfl | rfl | rfl | rfl | rfl | rfl | rfl | rfl | rfl <;> rcases nine h3 h4 with rfl | rfl | rfl | rfl | rfl | rfl | rfl | rfl | rfl <;> decide +kernel
theorem pairB_turn (p q : Int) (h : pairB p q = true) : pairB (-p) q = true := by
  obtain ⟨⟨h1, h2⟩, h3, h4⟩ := pairB_true h
  exact pairB_mk (by omega) (by omega) h3 h4
end Go.Proofs.Ytennicmmjbfljaa
