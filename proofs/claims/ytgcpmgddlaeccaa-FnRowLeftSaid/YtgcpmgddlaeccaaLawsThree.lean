/- The walk of the law on SecondAt: both rows belong together. -/
import Derived.Test.YtgcpmgddlaeccaaLawsTwo
import Derived.Test.YtgcpmgddlaeccaaRowMath
namespace Go.Proofs.Ytgcpmgddlaeccaa
open Go.RowKit
set_option maxHeartbeats 1000000 in
theorem powerOf_any (a : Int) (m : Nat) (w : World) (h1 : -4 ≤ a) (h2 : a ≤ 4) (hm : m ≤ 24) :
    Calls Try.prog 24 #[.int .i64 a, .int .i64 m] w fun e w' => e = .returned (.int .i64 (a ^ m)) ∧ w = w' := by
  go_enter Try.func24, Try.ntmps24
  go_wp2
  go_loop [5, 6] (fun n k => ∃ i : Nat, i ≤ m ∧ k = .int .i64 i ∧ n = .int .i64 (a ^ i)) (fun _ k => m - (intOf k).toNat)
  case atStart => exact ⟨0, Nat.zero_le _, rfl, by simp⟩
  case round =>
    obtain ⟨i, hi, rfl, rfl⟩ := hrel
    by_cases hlt : i < m
    · obtain ⟨b1, b2⟩ := pow_small h1 h2 (i + 1) (by omega)
      rw [Int.pow_succ] at b1 b2
      go_wp2
      go_round
      case rel => exact ⟨i + 1, by omega, congrArg (Value.int .i64) (by omega), congrArg (Value.int .i64) (by rw [Int.pow_succ])⟩
      case measure => simp [intOf]; omega
    · obtain rfl : i = m := by omega
      go_wp2
      go_ret
      exact ⟨rfl, rfl⟩
theorem row_eight {p q a b : Int} (hp : -4 ≤ p) (hp' : p ≤ 4) (hq : -4 ≤ q) (hq' : q ≤ 4) (ha : -4 ≤ a) (ha' : a ≤ 4) (hb : -4 ≤ b) (hb' : b ≤ 4) (n : Nat) (hn : n ≤ 8) : -1562500 ≤ row p q a b n ∧ row p q a b n ≤ 1562500 := by
  have h := (row_bd (a := a) (b := b) hp hp' hq hq' (c := 4) (by omega) ha ha' (by omega) (by omega) n).1
  have e : cap 4 n ≤ 1562500 := by
    rcases (show n = 0 ∨ n = 1 ∨ n = 2 ∨ n = 3 ∨ n = 4 ∨ n = 5 ∨ n = 6 ∨ n = 7 ∨ n = 8 by omega) with rfl | rfl | rfl | rfl | rfl | rfl | rfl | rfl | rfl <;> decide +kernel
  omega
end Go.Proofs.Ytgcpmgddlaeccaa
