/- What the functions behind what is left return, in the program: leftOf, the bounds, the state of two numbers and its methods. -/
import Derived.Test.YtennicmmjbfljaaLeftRow
import Derived.Test.YtennicmmjbfljaaNumberAt
import Derived.Deep.RegionHeld3
namespace Go.Proofs.Ytennicmmjbfljaa
open Go.RowKit
set_option maxHeartbeats 400000 in
theorem byOk_any (n : Int) (w : World) :
    Calls Try.prog 53 #[.int .i64 n] w fun e w' => e = .returned (.bool (inB n 1 10000)) ∧ w = w' := by
  by_cases h1 : 1 ≤ n
  · by_cases h2 : n ≤ 10000
    · have H := Lib.hid (inB_mk h1 h2)
      go_enter Try.func53, Try.ntmps53
      go_wp2
      go_ret
      exact ⟨ret_bool H.out.symm, rfl⟩
    · have H := Lib.hid (inB_no (n := n) (a := 1) (b := 10000) (by omega))
      have h2' : 10000 < n := by omega
      go_enter Try.func53, Try.ntmps53
      go_wp2
      go_ret
      exact ⟨ret_bool H.out.symm, rfl⟩
  · have H := Lib.hid (inB_no (n := n) (a := 1) (b := 10000) (by omega))
    have h1' : n < 1 := by omega
    go_enter Try.func53, Try.ntmps53
    go_wp2
    go_ret
    exact ⟨ret_bool H.out.symm, rfl⟩
theorem byOk_is (n : Int) (c : Bool) (w : World) (h : inB n 1 10000 = c) : Calls Try.prog 53 #[.int .i64 n] w fun e w' => e = .returned (.bool c) ∧ w = w' := by have := byOk_any n w; rw [h] at this; exact this
end Go.Proofs.Ytennicmmjbfljaa
