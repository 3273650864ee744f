/- What the functions behind sums of places return: numbers at places, powers, the two sides of each rule. -/
import Derived.Test.YtennicmmjbfljaaSumMath
import Derived.Test.YtennicmmjbfljaaLawsThree
import Derived.Deep.RegionHeld3
namespace Go.Proofs.Ytennicmmjbfljaa
open Go.RowKit
set_option maxHeartbeats 1000000 in
theorem firstOf_at (p q : Int) (k : Nat) (v n : Int) (w : World) (hn : n = k) (hp : pairB p q = true) (hk : k ≤ 20) (hv : row p q 0 1 k = v) :
    Calls Try.prog 46 #[pr p q, .int .i64 n] w fun e w' => e = .returned (.int .i64 v) ∧ Below w.heap.size w w' := by
  have HP := Lib.hid hp
  have HN := Lib.hid hn
  have HV := Lib.hid hv
  clear hp hn hv
  go_enter Try.func46, Try.ntmps46
  go_wp2_with fail
  refine (implFirst_at p q k v n _ HN.out HP.out hk HV.out).mono ?_
  rintro e w1 ⟨rfl, hh1⟩
  obtain ⟨hc1, hf1⟩ := bcell hh1
  have hz1 := hh1.size
  try simp only [World.size_alloc] at hz1
  go_wp2
  go_ret
  exact ⟨rfl, by (repeat (first | exact Below.refl _ _ | refine Below.setCell ?_ (by first | omega | (simp <;> omega)) _ | refine Below.alloc ?_ (by first | omega | (simp <;> omega)) _ | refine Below.drew ?_ | refine Below.trans ?_ (Below.mono (by assumption) (by first | omega | (simp <;> omega))) | refine Below.grown ?_ (by assumption) (by first | omega | (simp <;> omega)) (fun k e => by cases e; first | omega | (simp <;> omega))))⟩
end Go.Proofs.Ytennicmmjbfljaa
