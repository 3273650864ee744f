/- The walk of the law on PowerLeft: powers go on. -/
import Derived.Test.YtgcpmgddlaeccaaLeftLaws
namespace Go.Proofs.Ytgcpmgddlaeccaa
open Go.RowKit
theorem pow_fifty {a : Int} (h1 : -50 ≤ a) (h2 : a ≤ 50) : ∀ n : Nat, -(50 ^ n) ≤ a ^ n ∧ a ^ n ≤ 50 ^ n
  | 0 => by simp
  | n + 1 => by
    obtain ⟨m1, m2⟩ := pow_fifty h1 h2 n
    have := mul_bd m1 m2 h1 h2
    rw [Int.pow_succ, Int.pow_succ]
    exact this
theorem pow_nine {a : Int} (h1 : -50 ≤ a) (h2 : a ≤ 50) (n : Nat) (hn : n ≤ 9) : -1953125000000000 ≤ a ^ n ∧ a ^ n ≤ 1953125000000000 := by
  obtain ⟨m1, m2⟩ := pow_fifty h1 h2 n
  have e : (50 : Int) ^ n ≤ 50 ^ 9 := by
    have := Nat.pow_le_pow_right (n := 50) (by omega) hn
    exact_mod_cast this
  have e2 : (50 : Int) ^ 9 = 1953125000000000 := by decide +kernel
  omega
set_option maxHeartbeats 1000000 in
theorem powerOf_nine (a : Int) (m : Nat) (w : World) (h1 : -50 ≤ a) (h2 : a ≤ 50) (hm : m ≤ 9) :
    Calls Try.prog 24 #[.int .i64 a, .int .i64 m] w fun e w' => e = .returned (.int .i64 (a ^ m)) ∧ w = w' := by
  go_enter Try.func24, Try.ntmps24
  go_wp2
  go_loop [5, 6] (fun n k => ∃ i : Nat, i ≤ m ∧ k = .int .i64 i ∧ n = .int .i64 (a ^ i)) (fun _ k => m - (intOf k).toNat)
  case atStart => exact ⟨0, Nat.zero_le _, rfl, by simp⟩
  case round =>
    obtain ⟨i, hi, rfl, rfl⟩ := hrel
    by_cases hlt : i < m
    · obtain ⟨b1, b2⟩ := pow_nine h1 h2 (i + 1) (by omega)
      rw [Int.pow_succ] at b1 b2
      go_wp2
      go_round
      case rel => exact ⟨i + 1, by omega, congrArg (Value.int .i64) (by omega), congrArg (Value.int .i64) (by rw [Int.pow_succ])⟩
      case measure => simp [intOf]; omega
    · obtain rfl : i = m := by omega
      go_wp2
      go_ret
      exact ⟨rfl, rfl⟩
set_option maxRecDepth 100000 in
set_option maxHeartbeats 8000000 in
theorem fnPowerLeft_walk (ad : Option Addr) (len cap : Nat) (z : List Int) (w : World) (w0 : IsRow w ad len cap z) :
    Calls Try.prog 5 #[.slice ad len cap] w fun e w' => e = .returned (.bool true) ∧ Below w.heap.size w w' := by
  by_cases hbig : 1048576 < len
  · go_enter Try.func5, Try.ntmps5
    go_wp2
    go_ret
    exact ⟨rfl, Below.refl _ _⟩
  · have hsm : len ≤ 1048576 := by omega
    go_enter Try.func5, Try.ntmps5
    go_wp2_with fail
    refine (drawPowerLeft_any _ _ _ _ z w0).mono ?_
    rintro e w1 ⟨a, n, m, rfl, hh1⟩
    have hz1 := hh1.size
    obtain ⟨hc1, hf1⟩ := bcell hh1
    by_cases h : powB a n m = true
    · obtain ⟨⟨a1, a2⟩, ⟨k, rfl, hk⟩, m1, m2⟩ := powB_true h
      have hz : (m == 0) = false := by simp; omega
      clear h
      obtain ⟨u1, u2⟩ := left_bd (a ^ k) m m1
      obtain ⟨x1, x2⟩ := mul_bd (a := 10000) (b := 10000) (show -10000 ≤ a ^ k % m by omega) (by omega) a1 a2
      by_cases hn : k + 1 ≤ 1000000000
      · obtain ⟨z1, z2⟩ := left_bd (a ^ (k + 1)) m m1
        have T1 : (a ^ k % m * a - a ^ (k + 1) % m).tmod m = 0 := by
          refine Int.tmod_eq_zero_of_dvd (((eqm_left m (a ^ k)).mul (Eqm.refl m a)).trans ?_)
          rw [← Int.pow_succ]
          exact (eqm_left m _).symm
        by_cases s3 : k ≤ 9
        · by_cases s2 : a ≤ 50
          · by_cases s1 : -50 ≤ a
            · obtain ⟨y1, y2⟩ := pow_nine s1 s2 k s3
              have T2 : (a ^ k - a ^ k % m).tmod m = 0 := Int.tmod_eq_zero_of_dvd (eqm_left m (a ^ k)).symm
              go_wp2_with fail
              refine (implPowerLeft_at a m k _ _ _ rfl a1 a2 hk m1 m2 rfl).mono ?_
              rintro e w2 ⟨rfl, hh2⟩
              have hz2 := hh2.size
              go_wp2_with fail
              refine (specPowerLeft_at a m k _ _ _ rfl a1 a2 hk m1 m2 rfl).mono ?_
              rintro e wx ⟨rfl, rfl⟩
              go_wp2_with fail
              refine (implPowerLeft_at a m (k + 1) _ _ _ (by omega) a1 a2 (by omega) m1 m2 rfl).mono ?_
              rintro e w4 ⟨rfl, hh4⟩
              have hz4 := hh4.size
              go_wp2_with fail
              refine (powerOf_nine a k _ s1 s2 s3).mono ?_
              rintro e wx ⟨rfl, rfl⟩
              go_wp2_with fail
              refine (alive_any _).mono ?_
              rintro e w6 ⟨rfl, hh6⟩
              have hz6 := hh6.size
              go_wp2
              go_ret
              exact ⟨rfl, by (repeat (first | exact Below.refl _ _ | refine below_drewN ?_ _ | refine Below.setCell ?_ (by first | omega | (simp <;> omega)) _ | refine Below.alloc ?_ (by first | omega | (simp <;> omega)) _ | refine Below.drew ?_ | refine Below.trans ?_ (Below.mono (by assumption) (by first | omega | (simp <;> omega))) | refine Below.grown ?_ (by assumption) (by first | omega | (simp <;> omega)) (fun k e => by cases e; first | omega | (simp <;> omega))))⟩
            · have s1' : a < -50 := by omega
              go_wp2_with fail
              refine (implPowerLeft_at a m k _ _ _ rfl a1 a2 hk m1 m2 rfl).mono ?_
              rintro e w2 ⟨rfl, hh2⟩
              have hz2 := hh2.size
              go_wp2_with fail
              refine (specPowerLeft_at a m k _ _ _ rfl a1 a2 hk m1 m2 rfl).mono ?_
              rintro e wx ⟨rfl, rfl⟩
              go_wp2_with fail
              refine (implPowerLeft_at a m (k + 1) _ _ _ (by omega) a1 a2 (by omega) m1 m2 rfl).mono ?_
              rintro e w4 ⟨rfl, hh4⟩
              have hz4 := hh4.size
              go_wp2_with fail
              refine (alive_any _).mono ?_
              rintro e w6 ⟨rfl, hh6⟩
              have hz6 := hh6.size
              go_wp2
              go_ret
              exact ⟨rfl, by (repeat (first | exact Below.refl _ _ | refine below_drewN ?_ _ | refine Below.setCell ?_ (by first | omega | (simp <;> omega)) _ | refine Below.alloc ?_ (by first | omega | (simp <;> omega)) _ | refine Below.drew ?_ | refine Below.trans ?_ (Below.mono (by assumption) (by first | omega | (simp <;> omega))) | refine Below.grown ?_ (by assumption) (by first | omega | (simp <;> omega)) (fun k e => by cases e; first | omega | (simp <;> omega))))⟩
          · have s2' : 50 < a := by omega
            go_wp2_with fail
            refine (implPowerLeft_at a m k _ _ _ rfl a1 a2 hk m1 m2 rfl).mono ?_
            rintro e w2 ⟨rfl, hh2⟩
            have hz2 := hh2.size
            go_wp2_with fail
            refine (specPowerLeft_at a m k _ _ _ rfl a1 a2 hk m1 m2 rfl).mono ?_
            rintro e wx ⟨rfl, rfl⟩
            go_wp2_with fail
            refine (implPowerLeft_at a m (k + 1) _ _ _ (by omega) a1 a2 (by omega) m1 m2 rfl).mono ?_
            rintro e w4 ⟨rfl, hh4⟩
            have hz4 := hh4.size
            go_wp2_with fail
            refine (alive_any _).mono ?_
            rintro e w6 ⟨rfl, hh6⟩
            have hz6 := hh6.size
            go_wp2
            go_ret
            exact ⟨rfl, by (repeat (first | exact Below.refl _ _ | refine below_drewN ?_ _ | refine Below.setCell ?_ (by first | omega | (simp <;> omega)) _ | refine Below.alloc ?_ (by first | omega | (simp <;> omega)) _ | refine Below.drew ?_ | refine Below.trans ?_ (Below.mono (by assumption) (by first | omega | (simp <;> omega))) | refine Below.grown ?_ (by assumption) (by first | omega | (simp <;> omega)) (fun k e => by cases e; first | omega | (simp <;> omega))))⟩
        · have s3' : (9 : Int) < k := by omega
          go_wp2_with fail
          refine (implPowerLeft_at a m k _ _ _ rfl a1 a2 hk m1 m2 rfl).mono ?_
          rintro e w2 ⟨rfl, hh2⟩
          have hz2 := hh2.size
          go_wp2_with fail
          refine (specPowerLeft_at a m k _ _ _ rfl a1 a2 hk m1 m2 rfl).mono ?_
          rintro e wx ⟨rfl, rfl⟩
          go_wp2_with fail
          refine (implPowerLeft_at a m (k + 1) _ _ _ (by omega) a1 a2 (by omega) m1 m2 rfl).mono ?_
          rintro e w4 ⟨rfl, hh4⟩
          have hz4 := hh4.size
          go_wp2_with fail
          refine (alive_any _).mono ?_
          rintro e w6 ⟨rfl, hh6⟩
          have hz6 := hh6.size
          go_wp2
          go_ret
          exact ⟨rfl, by (repeat (first | exact Below.refl _ _ | refine below_drewN ?_ _ | refine Below.setCell ?_ (by first | omega | (simp <;> omega)) _ | refine Below.alloc ?_ (by first | omega | (simp <;> omega)) _ | refine Below.drew ?_ | refine Below.trans ?_ (Below.mono (by assumption) (by first | omega | (simp <;> omega))) | refine Below.grown ?_ (by assumption) (by first | omega | (simp <;> omega)) (fun k e => by cases e; first | omega | (simp <;> omega))))⟩
      · have HN := Lib.hid (powB_no (a := a) (n := (k : Int) + 1) (m := m) (by omega))
        have s3' : (9 : Int) < k := by omega
        go_wp2_with fail
        refine (implPowerLeft_at a m k _ _ _ rfl a1 a2 hk m1 m2 rfl).mono ?_
        rintro e w2 ⟨rfl, hh2⟩
        have hz2 := hh2.size
        go_wp2_with fail
        refine (specPowerLeft_at a m k _ _ _ rfl a1 a2 hk m1 m2 rfl).mono ?_
        rintro e wx ⟨rfl, rfl⟩
        go_wp2_with fail
        refine (implPowerLeft_no a _ m _ HN.out).mono ?_
        rintro e w4 ⟨rfl, hh4⟩
        have hz4 := hh4.size
        go_wp2_with fail
        refine (alive_any _).mono ?_
        rintro e w6 ⟨rfl, hh6⟩
        have hz6 := hh6.size
        go_wp2
        go_ret
        exact ⟨rfl, by (repeat (first | exact Below.refl _ _ | refine below_drewN ?_ _ | refine Below.setCell ?_ (by first | omega | (simp <;> omega)) _ | refine Below.alloc ?_ (by first | omega | (simp <;> omega)) _ | refine Below.drew ?_ | refine Below.trans ?_ (Below.mono (by assumption) (by first | omega | (simp <;> omega))) | refine Below.grown ?_ (by assumption) (by first | omega | (simp <;> omega)) (fun k e => by cases e; first | omega | (simp <;> omega))))⟩
    · have H := Lib.hid (show powB a n m = false by simpa using h)
      clear h
      go_wp2_with fail
      refine (implPowerLeft_no a n m _ H.out).mono ?_
      rintro e w2 ⟨rfl, hh2⟩
      have hz2 := hh2.size
      go_wp2_with fail
      refine (specPowerLeft_no a n m _ H.out).mono ?_
      rintro e wx ⟨rfl, rfl⟩
      go_wp2_with fail
      refine (alive_any _).mono ?_
      rintro e w4 ⟨rfl, hh4⟩
      have hz4 := hh4.size
      go_wp2
      go_ret
      exact ⟨rfl, by (repeat (first | exact Below.refl _ _ | refine Below.setCell ?_ (by first | omega | (simp <;> omega)) _ | refine Below.alloc ?_ (by first | omega | (simp <;> omega)) _ | refine Below.drew ?_ | refine Below.trans ?_ (Below.mono (by assumption) (by first | omega | (simp <;> omega))) | refine Below.grown ?_ (by assumption) (by first | omega | (simp <;> omega)) (fun k e => by cases e; first | omega | (simp <;> omega))))⟩
end Go.Proofs.Ytgcpmgddlaeccaa
