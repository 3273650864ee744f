/- What is left, in the model: l3Left, l3Both. -/
import Derived.Test.YtgcpmgddlaeccaaLeftMath
import Derived.Test.YtgcpmgddlaeccaaPairMore
import Derived.Test.YtgcpmgddlaeccaaDrawsOne
import Derived.Deep.QuietTactic
import Derived.BigQuiet
import Derived.IntWalk
namespace Go.Proofs.Ytgcpmgddlaeccaa
open Go.RowKit
set_option maxHeartbeats 400000 in
theorem l3Left_at (n m v : Int) (w : World) (h1 : 1 ≤ m) (h2 : m ≤ 1000000000000) (hv : n % m = v) :
    Calls Try.prog 43 #[.int .i64 n, .int .i64 m] w fun e w' => e = .returned (.int .i64 v) ∧ w = w' := by
  have hz : (m == 0) = false := by simp; omega
  have t1 : n.tmod m < m := Int.tmod_lt_of_pos n (by omega)
  have t2 : -m < n.tmod m := by
    have := Int.tmod_lt_of_pos (-n) (b := m) (by omega)
    rw [Int.neg_tmod] at this
    omega
  have E := Lib.hid ((go_left2 n m).trans hv)
  clear hv
  go_enter Try.func43, Try.ntmps43
  go_wp2
  go_ret
  exact ⟨ret_int E.out, rfl⟩
set_option maxRecDepth 100000 in
set_option maxHeartbeats 4000000 in
theorem l3Both_any (p q m : Int) (r1 : -4 ≤ p) (r2 : p ≤ 4) (r3 : -4 ≤ q) (r4 : q ≤ 4) (h1 : 1 ≤ m) (h2 : m ≤ 10000) (N : Nat) : ∀ (n : Nat) (x : Int) (w : World), n ≤ N → n ≤ 4000000000 → x = n →
    Calls Try.prog 42 #[pr p q, .int .i64 x, .int .i64 m] w fun e w' => e = .returned (.tuple #[.int .i64 (row p q 0 1 n % m), .int .i64 (row p q 0 1 (n + 1) % m)]) ∧ Below w.heap.size w w' := by
  have hz : (m == 0) = false := by simp; omega
  have h3 : m ≤ 1000000000000 := by omega
  induction N with
  | zero =>
    intro n x w hn _ hx
    obtain rfl : n = 0 := by omega
    subst hx
    have E0 : row p q 0 1 0 % m = 0 := by simp [row]
    have E1 : row p q 0 1 (0 + 1) % m = 1 % m := by simp [row]
    rw [E0, E1]
    clear E0 E1
    go_enter Try.func42, Try.ntmps42
    go_wp2_with fail
    go_quiet (fail)
    go_wp2_with fail
    go_ret2
    exact ⟨rfl, below_drewN (by (repeat (first | exact Below.refl _ _ | refine Below.setCell ?_ (by first | omega | (simp <;> omega)) _ | refine Below.alloc ?_ (by first | omega | (simp <;> omega)) _ | refine Below.drew ?_ | refine Below.trans ?_ (Below.mono (by assumption) (by first | omega | (simp <;> omega))) | refine Below.grown ?_ (by assumption) (by first | omega | (simp <;> omega)) (fun k e => by cases e; first | omega | (simp <;> omega))))) _⟩
  | succ N ih =>
    intro n x w hn hb hx
    subst hx
    by_cases hn0 : n = 0
    · exact ih n n w (by omega) hb rfl
    · rcases Nat.mod_two_eq_zero_or_one n with hp | hp
      · obtain ⟨k, rfl⟩ : ∃ k, n = 2 * k := ⟨n / 2, by omega⟩
        have hk : 1 ≤ k := by omega
        have ihk := Lib.hid ih
        clear ih hp
        obtain ⟨a0, a1⟩ := left_bd (row p q 0 1 k) m h1
        obtain ⟨b0, b1⟩ := left_bd (row p q 0 1 (k + 1)) m h1
        obtain ⟨c0, c1⟩ := left_bd (row p q 0 1 (2 * k)) m h1
        obtain ⟨d0, d1⟩ := left_bd (row p q 0 1 (2 * k + 1)) m h1
        obtain ⟨s0, s1⟩ := left_bd (2 * (row p q 0 1 (k + 1) % m) - p * (row p q 0 1 k % m)) m h1
        obtain ⟨t0, t1⟩ := left_bd (q * (row p q 0 1 k % m)) m h1
        obtain ⟨x1, x2⟩ := mul_bd (b := 10000) r1 r2 (show -10000 ≤ row p q 0 1 k % m by omega) (by omega)
        obtain ⟨x3, x4⟩ := mul_bd (b := 10000) r3 r4 (show -10000 ≤ row p q 0 1 k % m by omega) (by omega)
        obtain ⟨x5, x6⟩ := mul_bd (a := 10000) (b := 10000) (show -10000 ≤ row p q 0 1 k % m by omega) (by omega) (show -10000 ≤ (2 * (row p q 0 1 (k + 1) % m) - p * (row p q 0 1 k % m)) % m by omega) (by omega)
        obtain ⟨x7, x8⟩ := mul_bd (a := 10000) (b := 10000) (show -10000 ≤ row p q 0 1 (k + 1) % m by omega) (by omega) (show -10000 ≤ row p q 0 1 (k + 1) % m by omega) (by omega)
        obtain ⟨x9, x10⟩ := mul_bd (a := 10000) (b := 10000) (show -10000 ≤ q * (row p q 0 1 k % m) % m by omega) (by omega) (show -10000 ≤ row p q 0 1 k % m by omega) (by omega)
        obtain ⟨y1, y2⟩ := mul_bd (b := 10000) r1 r2 (show -10000 ≤ row p q 0 1 (2 * k + 1) % m by omega) (by omega)
        obtain ⟨y3, y4⟩ := mul_bd (b := 10000) r3 r4 (show -10000 ≤ row p q 0 1 (2 * k) % m by omega) (by omega)
        have E1 := Lib.hid (far_even p q m k)
        have E2 := Lib.hid (far_odd p q m k)
        have E3 := Lib.hid (far_next p q m (2 * k))
        go_enter Try.func42, Try.ntmps42
        go_wp2_with fail
        refine (ihk.out k _ _ (by omega) (by omega) (by omega)).mono ?_
        rintro e w1 ⟨rfl, hh1⟩
        obtain ⟨hc1, hf1⟩ := bcell hh1
        have hz1 := hh1.size
        try simp only [World.size_alloc] at hz1
        have hz1_0 : w.heap.size < w1.heap.size := by omega
        have kb1_0_0 : w1.cell? ⟨w.heap.size, 0, none⟩ = some (.int .i64 p) := by go_simp
        have kf1_0_0 : w1.frozen? ⟨w.heap.size, 0, none⟩ = false := by go_simp
        have kb1_0_1 : w1.cell? ⟨w.heap.size, 1, none⟩ = some (.int .i64 q) := by go_simp
        have kf1_0_1 : w1.frozen? ⟨w.heap.size, 1, none⟩ = false := by go_simp
        clear hc1 hf1
        go_wp2_with fail
        refine (l3Left_at _ _ _ _ h1 h3 rfl).mono ?_
        rintro e wx ⟨rfl, rfl⟩
        go_wp2_with fail
        refine (l3Left_at _ _ _ _ h1 h3 E1.out).mono ?_
        rintro e wx ⟨rfl, rfl⟩
        go_wp2_with fail
        refine (l3Left_at _ _ _ _ h1 h3 rfl).mono ?_
        rintro e wx ⟨rfl, rfl⟩
        go_wp2_with fail
        refine (l3Left_at _ _ _ _ h1 h3 E2.out).mono ?_
        rintro e wx ⟨rfl, rfl⟩
        go_wp2_with fail
        go_ret2
        exact ⟨rfl, by (repeat (first | exact Below.refl _ _ | refine Below.setCell ?_ (by first | omega | (simp <;> omega)) _ | refine Below.alloc ?_ (by first | omega | (simp <;> omega)) _ | refine Below.drew ?_ | refine Below.trans ?_ (Below.mono (by assumption) (by first | omega | (simp <;> omega))) | refine Below.grown ?_ (by assumption) (by first | omega | (simp <;> omega)) (fun k e => by cases e; first | omega | (simp <;> omega))))⟩
      · obtain ⟨k, rfl⟩ : ∃ k, n = 2 * k + 1 := ⟨n / 2, by omega⟩
        have ihk := Lib.hid ih
        clear ih hp
        obtain ⟨a0, a1⟩ := left_bd (row p q 0 1 k) m h1
        obtain ⟨b0, b1⟩ := left_bd (row p q 0 1 (k + 1)) m h1
        obtain ⟨c0, c1⟩ := left_bd (row p q 0 1 (2 * k)) m h1
        obtain ⟨d0, d1⟩ := left_bd (row p q 0 1 (2 * k + 1)) m h1
        obtain ⟨s0, s1⟩ := left_bd (2 * (row p q 0 1 (k + 1) % m) - p * (row p q 0 1 k % m)) m h1
        obtain ⟨t0, t1⟩ := left_bd (q * (row p q 0 1 k % m)) m h1
        obtain ⟨x1, x2⟩ := mul_bd (b := 10000) r1 r2 (show -10000 ≤ row p q 0 1 k % m by omega) (by omega)
        obtain ⟨x3, x4⟩ := mul_bd (b := 10000) r3 r4 (show -10000 ≤ row p q 0 1 k % m by omega) (by omega)
        obtain ⟨x5, x6⟩ := mul_bd (a := 10000) (b := 10000) (show -10000 ≤ row p q 0 1 k % m by omega) (by omega) (show -10000 ≤ (2 * (row p q 0 1 (k + 1) % m) - p * (row p q 0 1 k % m)) % m by omega) (by omega)
        obtain ⟨x7, x8⟩ := mul_bd (a := 10000) (b := 10000) (show -10000 ≤ row p q 0 1 (k + 1) % m by omega) (by omega) (show -10000 ≤ row p q 0 1 (k + 1) % m by omega) (by omega)
        obtain ⟨x9, x10⟩ := mul_bd (a := 10000) (b := 10000) (show -10000 ≤ q * (row p q 0 1 k % m) % m by omega) (by omega) (show -10000 ≤ row p q 0 1 k % m by omega) (by omega)
        obtain ⟨y1, y2⟩ := mul_bd (b := 10000) r1 r2 (show -10000 ≤ row p q 0 1 (2 * k + 1) % m by omega) (by omega)
        obtain ⟨y3, y4⟩ := mul_bd (b := 10000) r3 r4 (show -10000 ≤ row p q 0 1 (2 * k) % m by omega) (by omega)
        have E1 := Lib.hid (far_even p q m k)
        have E2 := Lib.hid (far_odd p q m k)
        have E3 := Lib.hid (far_next p q m (2 * k))
        go_enter Try.func42, Try.ntmps42
        go_wp2_with fail
        refine (ihk.out k _ _ (by omega) (by omega) (by omega)).mono ?_
        rintro e w1 ⟨rfl, hh1⟩
        obtain ⟨hc1, hf1⟩ := bcell hh1
        have hz1 := hh1.size
        try simp only [World.size_alloc] at hz1
        have hz1_0 : w.heap.size < w1.heap.size := by omega
        have kb1_0_0 : w1.cell? ⟨w.heap.size, 0, none⟩ = some (.int .i64 p) := by go_simp
        have kf1_0_0 : w1.frozen? ⟨w.heap.size, 0, none⟩ = false := by go_simp
        have kb1_0_1 : w1.cell? ⟨w.heap.size, 1, none⟩ = some (.int .i64 q) := by go_simp
        have kf1_0_1 : w1.frozen? ⟨w.heap.size, 1, none⟩ = false := by go_simp
        clear hc1 hf1
        go_wp2_with fail
        refine (l3Left_at _ _ _ _ h1 h3 rfl).mono ?_
        rintro e wx ⟨rfl, rfl⟩
        go_wp2_with fail
        refine (l3Left_at _ _ _ _ h1 h3 E1.out).mono ?_
        rintro e wx ⟨rfl, rfl⟩
        go_wp2_with fail
        refine (l3Left_at _ _ _ _ h1 h3 rfl).mono ?_
        rintro e wx ⟨rfl, rfl⟩
        go_wp2_with fail
        refine (l3Left_at _ _ _ _ h1 h3 E2.out).mono ?_
        rintro e wx ⟨rfl, rfl⟩
        go_wp2_with fail
        refine (l3Left_at _ _ _ _ h1 h3 E3.out).mono ?_
        rintro e wx ⟨rfl, rfl⟩
        go_wp2_with fail
        go_ret2
        exact ⟨rfl, by (repeat (first | exact Below.refl _ _ | refine Below.setCell ?_ (by first | omega | (simp <;> omega)) _ | refine Below.alloc ?_ (by first | omega | (simp <;> omega)) _ | refine Below.drew ?_ | refine Below.trans ?_ (Below.mono (by assumption) (by first | omega | (simp <;> omega))) | refine Below.grown ?_ (by assumption) (by first | omega | (simp <;> omega)) (fun k e => by cases e; first | omega | (simp <;> omega))))⟩
end Go.Proofs.Ytgcpmgddlaeccaa
