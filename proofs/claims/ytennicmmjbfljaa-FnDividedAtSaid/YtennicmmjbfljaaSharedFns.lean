/- The greatest common divisor, as the program's loop and the model's find it; the bounds of a place. -/
import Derived.Test.YtennicmmjbfljaaSumFns
import Derived.Test.YtennicmmjbfljaaLists
namespace Go.Proofs.Ytennicmmjbfljaa
open Go.RowKit
theorem gcd_rem (c d : Int) : Int.gcd d (c.tmod d) = Int.gcd c d := by
  simp only [Int.gcd, Int.natAbs_tmod]
  rw [Nat.gcd_comm d.natAbs, ← Nat.gcd_rec, Nat.gcd_comm]
theorem rem_small {d : Int} (c : Int) (h : d ≠ 0) : (c.tmod d).natAbs < d.natAbs := by
  rw [Int.natAbs_tmod]
  exact Nat.mod_lt _ (by omega)
theorem rem_bd {c d M : Int} (h : d ≠ 0) (h1 : -M ≤ d) (h2 : d ≤ M) : -M ≤ c.tmod d ∧ c.tmod d ≤ M := by
  have hr := rem_small c h
  generalize c.tmod d = r at hr ⊢
  omega
set_option maxHeartbeats 2000000 in
theorem commonDivisor_at (a b : Int) (w : World) (a1 : -1000000000000000 ≤ a) (a2 : a ≤ 1000000000000000) (b1 : -1000000000000000 ≤ b) (b2 : b ≤ 1000000000000000) :
    Calls Try.prog 41 #[.int .i64 a, .int .i64 b] w fun e w' => e = .returned (.int .i64 (Int.gcd a b)) ∧ Below w.heap.size w w' := by
  go_enter Try.func41, Try.ntmps41
  go_wp2_with fail
  go_loopw [0, 1] (fun x y wr => ∃ c d : Int, x = .int .i64 c ∧ y = .int .i64 d ∧ -1000000000000000 ≤ c ∧ c ≤ 1000000000000000 ∧ -1000000000000000 ≤ d ∧ d ≤ 1000000000000000 ∧ Int.gcd c d = Int.gcd a b ∧ Below w.heap.size w wr) (fun _ y _ => (intOf y).natAbs)
  case atStart => exact ⟨a, b, rfl, rfl, a1, a2, b1, b2, rfl, Below.refl _ _⟩
  case round =>
    obtain ⟨c, d, rfl, rfl, c1, c2, d1, d2, hg, hB⟩ := hrel
    have HB := Lib.hid hB
    have HG := Lib.hid hg
    clear hB hg
    by_cases h0 : d = 0
    · subst h0
      by_cases hn : c < 0
      · have E := Lib.hid (show -c = (Int.gcd a b : Int) by rw [← HG.out, Int.gcd_zero_right]; omega)
        go_wp2
        go_ret
        exact ⟨ret_int E.out, HB.out⟩
      · have E := Lib.hid (show c = (Int.gcd a b : Int) by rw [← HG.out, Int.gcd_zero_right]; omega)
        have hn' : 0 ≤ c := by omega
        go_wp2
        go_ret
        exact ⟨ret_int E.out, HB.out⟩
    · have hz : (d == 0) = false := by simp; omega
      obtain ⟨e1, e2⟩ := rem_bd (c := c) h0 d1 d2
      have HR := Lib.hid (rem_small c h0)
      have HE := Lib.hid ((gcd_rem c d).trans HG.out)
      go_wp2
      go_quiet (fail)
      go_wp2
      go_roundw
      case rel => exact ⟨d, c.tmod d, rfl, rfl, d1, d2, e1, e2, HE.out, below_drewN HB.out _⟩
      case measure => simpa [intOf] using HR.out
set_option maxHeartbeats 400000 in
theorem l1Size_at (n : Int) (w : World) (a1 : -1000000000000000 ≤ n) (a2 : n ≤ 1000000000000000) :
    Calls Try.prog 57 #[.int .i64 n] w fun e w' => e = .returned (.int .i64 n.natAbs) ∧ w = w' := by
  go_enter Try.func57, Try.ntmps57
  go_wp2
  all_goals go_ret
  all_goals exact ⟨ret_int (by omega), rfl⟩
set_option maxHeartbeats 2000000 in
theorem l1Common_at (a b : Int) (w : World) (a1 : -1000000000000000 ≤ a) (a2 : a ≤ 1000000000000000) (b1 : -1000000000000000 ≤ b) (b2 : b ≤ 1000000000000000) :
    Calls Try.prog 43 #[.int .i64 a, .int .i64 b] w fun e w' => e = .returned (.int .i64 (Int.gcd a b)) ∧ w = w' := by
  go_enter Try.func43, Try.ntmps43
  go_wp2_with fail
  refine (l1Size_at a _ a1 a2).mono ?_
  rintro e wx ⟨rfl, rfl⟩
  go_wp2_with fail
  refine (l1Size_at b _ b1 b2).mono ?_
  rintro e wx ⟨rfl, rfl⟩
  go_wp2_with fail
  go_loop [0, 1, 5] (fun x y _ => ∃ c d : Int, x = .int .i64 c ∧ y = .int .i64 d ∧ 0 ≤ c ∧ c ≤ 1000000000000000 ∧ 0 ≤ d ∧ d ≤ 1000000000000000 ∧ Int.gcd c d = Int.gcd a b) (fun _ y _ => (intOf y).natAbs)
  case atStart => exact ⟨a.natAbs, b.natAbs, rfl, rfl, by omega, by omega, by omega, by omega, by simp [Int.gcd]⟩
  case round =>
    obtain ⟨c, d, rfl, rfl, c1, c2, d1, d2, hg⟩ := hrel
    have HG := Lib.hid hg
    clear hg
    by_cases h0 : d = 0
    · subst h0
      have E := Lib.hid (show c = (Int.gcd a b : Int) by rw [← HG.out, Int.gcd_zero_right]; omega)
      go_wp2
      go_ret
      exact ⟨ret_int E.out, rfl⟩
    · have hz : (d == 0) = false := by simp; omega
      have et : c.tmod d = c % d := Int.tmod_eq_emod_of_nonneg c1
      have hd : 0 < d := by omega
      have e1 := Int.emod_nonneg c h0
      have e2 := Int.emod_lt_of_pos c hd
      have HR := Lib.hid (show (c % d).natAbs < d.natAbs by rw [← et]; exact rem_small c h0)
      have HE := Lib.hid (show Int.gcd d (c % d) = Int.gcd a b by rw [← et]; exact (gcd_rem c d).trans HG.out)
      go_wp2
      go_round
      case rel => exact ⟨d, c % d, rfl, rfl, d1, d2, by omega, by omega, HE.out⟩
      case measure => have := HR.out; simp [intOf]; omega
set_option maxHeartbeats 400000 in
theorem furtherOk_any (n : Int) (w : World) :
    Calls Try.prog 45 #[.int .i64 n] w fun e w' => e = .returned (.bool (inB n 1 20)) ∧ w = w' := by
  by_cases h1 : 1 ≤ n
  · by_cases h2 : n ≤ 20
    · have H := Lib.hid (inB_mk h1 h2)
      go_enter Try.func45, Try.ntmps45
      go_wp2
      go_ret
      exact ⟨ret_bool H.out.symm, rfl⟩
    · have H := Lib.hid (inB_no (n := n) (a := 1) (b := 20) (by omega))
      have h2' : 20 < n := by omega
      go_enter Try.func45, Try.ntmps45
      go_wp2
      go_ret
      exact ⟨ret_bool H.out.symm, rfl⟩
  · have H := Lib.hid (inB_no (n := n) (a := 1) (b := 20) (by omega))
    have h1' : n < 1 := by omega
    go_enter Try.func45, Try.ntmps45
    go_wp2
    go_ret
    exact ⟨ret_bool H.out.symm, rfl⟩
theorem furtherOk_is (n : Int) (c : Bool) (w : World) (h : inB n 1 20 = c) : Calls Try.prog 45 #[.int .i64 n] w fun e w' => e = .returned (.bool c) ∧ w = w' := by have := furtherOk_any n w; rw [h] at this; exact this
end Go.Proofs.Ytennicmmjbfljaa
