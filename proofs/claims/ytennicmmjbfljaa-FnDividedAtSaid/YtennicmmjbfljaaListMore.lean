/- Lists of numbers that a call hands back: whether one has a number; whether they ascend. -/
import Derived.Test.YtennicmmjbfljaaLists
namespace Go.Proofs.Ytennicmmjbfljaa
open Go.RowKit
set_option maxHeartbeats 2000000 in
theorem hasInt_yes (B C n k : Nat) (v : Value) (f : Nat → Int) (x : Int) (w : World) (h : IsInts B C w v n f) (hn : n ≤ 1000000) (hk : k < n) (hx : f k = x) :
    Calls Try.prog 29 #[v, .int .i64 x] w fun e w' => e = .returned (.bool true) ∧ w = w' := by
  obtain ⟨a, ca, rfl, hC, hs⟩ := h
  rcases hs with rfl | ⟨g, off, rfl, h1, h2, hc, hf⟩
  · omega
  go_enter Try.func29, Try.ntmps29
  go_wp2_with fail
  go_loop [5] (fun c => ∃ i : Nat, i ≤ k ∧ c = .int .i64 i) (fun c => n - (intOf c).toNat)
  case atStart => exact ⟨0, Nat.zero_le _, rfl⟩
  case round =>
    obtain ⟨i, hi, rfl⟩ := hrel
    have c1 : w.cell? ⟨g, off + i, none⟩ = some (.int .i64 (f i)) := hc i (by omega)
    clear hc hf
    by_cases he : f i = x
    · rw [he] at c1
      go_wp2
      go_ret
      exact ⟨rfl, rfl⟩
    · have hb : (f i == x) = false := by simpa using he
      have hlt : i < k := by
        rcases Nat.lt_or_ge i k with h | h
        · exact h
        · obtain rfl : i = k := by omega
          exact absurd hx he
      have hin : i < n := by omega
      go_wp2
      go_round
      case rel => exact ⟨i + 1, by omega, congrArg (Value.int .i64) (by omega)⟩
      case measure => simp [intOf]; omega
set_option maxHeartbeats 2000000 in
theorem ascend_yes (B C n : Nat) (v : Value) (f : Nat → Int) (w : World) (h : IsInts B C w v n f) (hn : n ≤ 1000000) (hasc : ∀ i, i + 1 < n → f i < f (i + 1)) :
    Calls Try.prog 30 #[v] w fun e w' => e = .returned (.bool true) ∧ Below w.heap.size w w' := by
  obtain ⟨a, ca, rfl, hC, hs⟩ := h
  go_enter Try.func30, Try.ntmps30
  go_wp2_with fail
  go_loopw [3] (fun c wr => ∃ i : Nat, (i < n ∨ i = 0) ∧ c = .int .i64 ((i : Int) + 1) ∧ Below w.heap.size w wr) (fun c _ => n + 1 - (intOf c).toNat)
  case atStart => exact ⟨0, .inr rfl, rfl, Below.refl _ _⟩
  case round =>
    obtain ⟨i, hi, rfl, hB⟩ := hrel
    by_cases hlt : i + 1 < n
    · rcases hs with rfl | ⟨g, off, rfl, h1, h2, hc, hf⟩
      · omega
      have c1 : wr.cell? ⟨g, off + i, none⟩ = some (.int .i64 (f i)) := (hB.cell (p := ⟨g, off + i, none⟩) (by show g < _; omega)).trans (hc i (by omega))
      have c2 : wr.cell? ⟨g, off + (i + 1), none⟩ = some (.int .i64 (f (i + 1))) := (hB.cell (p := ⟨g, off + (i + 1), none⟩) (by show g < _; omega)).trans (hc (i + 1) hlt)
      have hz := hB.size
      have hd : decide (f (i + 1) ≤ f i) = false := by have := hasc i hlt; simp; omega
      have iy0 : (0 : Int) ≤ (i : Int) + 1 := by omega
      have iy1 : (i : Int) + 1 < (n : Int) := by omega
      have iy2 : ((i : Int) + 1).toNat = i + 1 := by omega
      have iz0 : (0 : Int) ≤ (i : Int) := by omega
      have iz1 : (i : Int) < (n : Int) := by omega
      have V1 : IntKind.i64.wrap ((i : Int) + 1 - 1) = (i : Int) := by rw [IntKind.wrap_i64]; omega
      have V2 : IntKind.i64.wrap (i : Int) = (i : Int) := by rw [IntKind.wrap_i64]; omega
      clear hc hf hasc
      go_wp2
      go_quiet (fail)
      go_wp2
      go_roundw
      case rel => exact ⟨i + 1, by omega, congrArg (Value.int .i64) (by omega), below_drewN hB _⟩
      case measure => simp [intOf]; omega
    · have hge : (n : Int) ≤ (i : Int) + 1 := by omega
      clear hs hasc
      go_wp2
      go_ret
      exact ⟨rfl, hB⟩
end Go.Proofs.Ytennicmmjbfljaa
