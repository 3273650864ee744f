/- Contracts and laws that the statement's proof stands on, one text behind the other. -/
import Derived.Test.YtpogmnkedohdcaaAll0b
import Derived.Test.YtpogmnkedohdcaaHvDrawFar
import Derived.Test.YtpogmnkedohdcaaHvDrawBy
import Derived.Test.YtpogmnkedohdcaaHvPlaceWhere
import Derived.Test.YtpogmnkedohdcaaHvDrawRanked

namespace Go.Proofs.Ytpogmnkedohdcaa
open Go.RowKit
/-- What a draw of a pair and two numbers returns. -/
def DrawnAny (w : World) (e : Ending) (w' : World) : Prop :=
  ∃ p q a b : Int, e = .returned (.tuple #[pr p q, .int .i64 a, .int .i64 b]) ∧ Below w.heap.size w w'
/-- What a draw of three numbers returns. -/
def DrawnThree (w : World) (e : Ending) (w' : World) : Prop :=
  ∃ a b c : Int, e = .returned (.tuple #[.int .i64 a, .int .i64 b, .int .i64 c]) ∧ Below w.heap.size w w'
set_option maxHeartbeats 2000000 in
theorem drawFarFirst_any (w : World) (a : Option Addr) (len cap : Nat) (zs : List Int) (h : IsRow w a len cap zs) :
    Calls Try.prog 31 #[.slice a len cap] w (DrawnAny w) := by
  go_enter Try.func31, Try.ntmps31
  go_wp2_with fail
  refine (open_any _ _ _ _ zs (h.below ((Below.refl _ _).alloc (Nat.le_refl _) _))).mono ?_
  rintro e w1 ⟨rfl, hR1, hh1, hzR1⟩
  try simp only [World.size_alloc] at hzR1
  try simp only [World.size_alloc] at hR1
  obtain ⟨hc1, hf1⟩ := bcell hh1
  have hz1 := hh1.size
  try simp only [World.size_alloc] at hz1
  have hz1_0 : w.heap.size < w1.heap.size := by omega
  have kb1_0_0 : w1.cell? ⟨w.heap.size, 0, none⟩ = some (.int .i64 0) := by go_simp
  have kf1_0_0 : w1.frozen? ⟨w.heap.size, 0, none⟩ = false := by go_simp
  have kb1_0_1 : w1.cell? ⟨w.heap.size, 1, none⟩ = some (.int .i64 0) := by go_simp
  have kf1_0_1 : w1.frozen? ⟨w.heap.size, 1, none⟩ = false := by go_simp
  clear hc1 hf1
  go_wp2_with fail
  refine (l20Pair_any (w.heap.size + 1) 0 14 _ hR1 (by omega) (by omega)).mono ?_
  rintro e w2 ⟨p2, q2, rfl, pa2, pb2, qa2, qb2, hR2, hh2⟩
  obtain ⟨hc2, hf2⟩ := gcell hh2
  have hz2 := hh2.size
  try simp only [World.size_alloc] at hz2
  have hz2_0 : w.heap.size < w2.heap.size := by omega
  have hn2_0 : ¬ w.heap.size = (w.heap.size + 1) := by omega
  have kb2_0_0 : w2.cell? ⟨w.heap.size, 0, none⟩ = some (.int .i64 0) := by go_simp
  have kf2_0_0 : w2.frozen? ⟨w.heap.size, 0, none⟩ = false := by go_simp
  have kb2_0_1 : w2.cell? ⟨w.heap.size, 1, none⟩ = some (.int .i64 0) := by go_simp
  have kf2_0_1 : w2.frozen? ⟨w.heap.size, 1, none⟩ = false := by go_simp
  clear hc2 hf2
  go_wp2_with fail
  refine (l20Far_any (w.heap.size + 1) (0 + 5) _ hR2 (by omega)).mono ?_
  rintro e w3 ⟨v3, rfl, hR3, hh3⟩
  obtain ⟨hc3, hf3⟩ := gcell hh3
  have hz3 := hh3.size
  try simp only [World.size_alloc] at hz3
  have hz3_0 : w.heap.size < w3.heap.size := by omega
  have hn3_0 : ¬ w.heap.size = (w.heap.size + 1) := by omega
  have kb3_0_0 : w3.cell? ⟨w.heap.size, 0, none⟩ = some (.int .i64 0) := by go_simp
  have kf3_0_0 : w3.frozen? ⟨w.heap.size, 0, none⟩ = false := by go_simp
  have kb3_0_1 : w3.cell? ⟨w.heap.size, 1, none⟩ = some (.int .i64 0) := by go_simp
  have kf3_0_1 : w3.frozen? ⟨w.heap.size, 1, none⟩ = false := by go_simp
  clear hc3 hf3
  go_wp2_with fail
  refine (l20By_any (w.heap.size + 1) (0 + 5 + 7) _ hR3 (by omega)).mono ?_
  rintro e w4 ⟨v4, rfl, hR4, hh4⟩
  obtain ⟨hc4, hf4⟩ := gcell hh4
  have hz4 := hh4.size
  try simp only [World.size_alloc] at hz4
  have hz4_0 : w.heap.size < w4.heap.size := by omega
  have hn4_0 : ¬ w.heap.size = (w.heap.size + 1) := by omega
  have kb4_0_0 : w4.cell? ⟨w.heap.size, 0, none⟩ = some (.int .i64 0) := by go_simp
  have kf4_0_0 : w4.frozen? ⟨w.heap.size, 0, none⟩ = false := by go_simp
  have kb4_0_1 : w4.cell? ⟨w.heap.size, 1, none⟩ = some (.int .i64 0) := by go_simp
  have kf4_0_1 : w4.frozen? ⟨w.heap.size, 1, none⟩ = false := by go_simp
  clear hc4 hf4
  go_wp2
  refine bodyPost_ret (v := .tuple #[pr p2 q2, .int .i64 v3, .int .i64 v4]) (by simp [results, Try.results31, go_sem, kb4_0_0, kb4_0_1]) rfl ⟨_, _, _, _, rfl, ?_⟩
  (repeat (first | exact Below.refl _ _ | refine Below.setCell ?_ (by first | omega | (simp <;> omega)) _ | refine Below.alloc ?_ (by first | omega | (simp <;> omega)) _ | refine Below.drew ?_ | refine Below.trans ?_ (Below.mono (by assumption) (by first | omega | (simp <;> omega))) | refine Below.grown ?_ (by assumption) (by first | omega | (simp <;> omega)) (fun k e => by cases e; first | omega | (simp <;> omega))))
set_option maxHeartbeats 2000000 in
theorem drawFarSecond_any (w : World) (a : Option Addr) (len cap : Nat) (zs : List Int) (h : IsRow w a len cap zs) :
    Calls Try.prog 10 #[.slice a len cap] w (DrawnAny w) := by
  go_enter Try.func10, Try.ntmps10
  go_wp2_with fail
  refine (drawFarFirst_any _ _ _ _ zs (h.below ((Below.refl _ _).alloc (Nat.le_refl _) _))).mono ?_
  rintro e w1 ⟨p1, q1, n1, m1, rfl, hh1⟩
  obtain ⟨hc1, hf1⟩ := bcell hh1
  have hz1 := hh1.size
  try simp only [World.size_alloc] at hz1
  have hz1_0 : w.heap.size < w1.heap.size := by omega
  have kb1_0_0 : w1.cell? ⟨w.heap.size, 0, none⟩ = some (.int .i64 0) := by go_simp
  have kf1_0_0 : w1.frozen? ⟨w.heap.size, 0, none⟩ = false := by go_simp
  have kb1_0_1 : w1.cell? ⟨w.heap.size, 1, none⟩ = some (.int .i64 0) := by go_simp
  have kf1_0_1 : w1.frozen? ⟨w.heap.size, 1, none⟩ = false := by go_simp
  clear hc1 hf1
  go_wp2
  refine bodyPost_ret (v := .tuple #[pr p1 q1, .int .i64 n1, .int .i64 m1]) (by simp [results, Try.results10, go_sem, kb1_0_0, kb1_0_1]) rfl ⟨_, _, _, _, rfl, ?_⟩
  (repeat (first | exact Below.refl _ _ | refine Below.setCell ?_ (by first | omega | (simp <;> omega)) _ | refine Below.alloc ?_ (by first | omega | (simp <;> omega)) _ | refine Below.drew ?_ | refine Below.trans ?_ (Below.mono (by assumption) (by first | omega | (simp <;> omega))) | refine Below.grown ?_ (by assumption) (by first | omega | (simp <;> omega)) (fun k e => by cases e; first | omega | (simp <;> omega))))
set_option maxHeartbeats 2000000 in
theorem drawPowerLeft_any (w : World) (a : Option Addr) (len cap : Nat) (zs : List Int) (h : IsRow w a len cap zs) :
    Calls Try.prog 17 #[.slice a len cap] w (DrawnThree w) := by
  go_enter Try.func17, Try.ntmps17
  go_wp2_with fail
  refine (open_any _ _ _ _ zs h).mono ?_
  rintro e w1 ⟨rfl, hR1, hh1, hzR1⟩
  try simp only [World.size_alloc] at hzR1
  try simp only [World.size_alloc] at hR1
  obtain ⟨hc1, hf1⟩ := bcell hh1
  have hz1 := hh1.size
  try simp only [World.size_alloc] at hz1
  go_wp2_with fail
  refine (pick_any w.heap.size 0 200 _ hR1 (by omega) (by omega)).mono ?_
  rintro e w2 ⟨v2, rfl, va2, vb2, hR2, hh2⟩
  have vc2 : v2 ≤ max (200 - 1) 0 := by omega
  clear vb2
  obtain ⟨hc2, hf2⟩ := gcell hh2
  have hz2 := hh2.size
  try simp only [World.size_alloc] at hz2
  clear hc2 hf2
  go_wp2_with fail
  refine (pick_any w.heap.size (0 + 1) 200 _ hR2 (by omega) (by omega)).mono ?_
  rintro e w3 ⟨v3, rfl, va3, vb3, hR3, hh3⟩
  have vc3 : v3 ≤ max (200 - 1) 0 := by omega
  clear vb3
  obtain ⟨hc3, hf3⟩ := gcell hh3
  have hz3 := hh3.size
  try simp only [World.size_alloc] at hz3
  clear hc3 hf3
  go_wp2_with fail
  refine (pick_any w.heap.size (0 + 1 + 1) 30 _ hR3 (by omega) (by omega)).mono ?_
  rintro e w4 ⟨v4, rfl, va4, vb4, hR4, hh4⟩
  have vc4 : v4 ≤ max (30 - 1) 0 := by omega
  clear vb4
  obtain ⟨hc4, hf4⟩ := gcell hh4
  have hz4 := hh4.size
  try simp only [World.size_alloc] at hz4
  clear hc4 hf4
  go_wp2_with fail
  refine (l20Far_any w.heap.size (0 + 1 + 1 + 1) _ hR4 (by omega)).mono ?_
  rintro e w5 ⟨v5, rfl, hR5, hh5⟩
  obtain ⟨hc5, hf5⟩ := gcell hh5
  have hz5 := hh5.size
  try simp only [World.size_alloc] at hz5
  clear hc5 hf5
  go_wp2_with fail
  refine (l20By_any w.heap.size (0 + 1 + 1 + 1 + 7) _ hR5 (by omega)).mono ?_
  rintro e w6 ⟨v6, rfl, hR6, hh6⟩
  obtain ⟨hc6, hf6⟩ := gcell hh6
  have hz6 := hh6.size
  try simp only [World.size_alloc] at hz6
  clear hc6 hf6
  go_wp2
  refine bodyPost_ret (v := .tuple #[.int .i64 (v2 - v3 + v4 / 29 * 20000), .int .i64 v5, .int .i64 v6]) (by simp [results, Try.results17, go_sem]) rfl ⟨_, _, _, rfl, ?_⟩
  (repeat (first | exact Below.refl _ _ | refine Below.setCell ?_ (by first | omega | (simp <;> omega)) _ | refine Below.alloc ?_ (by first | omega | (simp <;> omega)) _ | refine Below.drew ?_ | refine Below.trans ?_ (Below.mono (by assumption) (by first | omega | (simp <;> omega))) | refine Below.grown ?_ (by assumption) (by first | omega | (simp <;> omega)) (fun k e => by cases e; first | omega | (simp <;> omega))))
end Go.Proofs.Ytpogmnkedohdcaa
namespace Go.Proofs.Ytpogmnkedohdcaa
open Go.RowKit
theorem farB_mk {p q n m : Int} (k : Nat) (hn : n = k) (hp : pairB p q = true) (hk : k ≤ 1000000000) (m1 : 1 ≤ m) (m2 : m ≤ 10000) : farB p q n m = true := by
  simp [farB, hp, inB_mk (n := n) (a := 0) (b := 1000000000) (by omega) (by omega), inB_mk m1 m2]
theorem farB_no {p q n m : Int} (h : n < 0 ∨ 1000000000 < n) : farB p q n m = false := by
  simp [farB, inB_no h]
theorem powB_mk {a n m : Int} (k : Nat) (hn : n = k) (a1 : -10000 ≤ a) (a2 : a ≤ 10000) (hk : k ≤ 1000000000) (m1 : 1 ≤ m) (m2 : m ≤ 10000) : powB a n m = true := by
  simp [powB, inB_mk a1 a2, inB_mk (n := n) (a := 0) (b := 1000000000) (by omega) (by omega), inB_mk m1 m2]
theorem powB_no {a n m : Int} (h : n < 0 ∨ 1000000000 < n) : powB a n m = false := by
  simp [powB, inB_no h]
theorem implFarFirst_at (p q m : Int) (k : Nat) (v n : Int) (w : World) (hn : n = k) (hp : pairB p q = true) (hk : k ≤ 1000000000) (m1 : 1 ≤ m) (m2 : m ≤ 10000) (hv : row p q 0 1 k % m = v) :
    Calls Try.prog 14 #[pr p q, .int .i64 n, .int .i64 m] w fun e w' => e = .returned (.int .i64 v) ∧ Below w.heap.size w w' := by
  have := implFarFirst_any p q n m w
  rw [farFirstV, if_pos (farB_mk k hn hp hk m1 m2), hn] at this
  subst hv
  subst hn
  exact this
theorem implFarFirst_no (p q n m : Int) (w : World) (h : farB p q n m = false) :
    Calls Try.prog 14 #[pr p q, .int .i64 n, .int .i64 m] w fun e w' => e = .returned (.int .i64 (-1)) ∧ Below w.heap.size w w' := by
  have := implFarFirst_any p q n m w
  rw [farFirstV, if_neg (by simp [h])] at this
  exact this
theorem implFarSecond_at (p q m : Int) (k : Nat) (v n : Int) (w : World) (hn : n = k) (hp : pairB p q = true) (hk : k ≤ 1000000000) (m1 : 1 ≤ m) (m2 : m ≤ 10000) (hv : row p q 2 p k % m = v) :
    Calls Try.prog 11 #[pr p q, .int .i64 n, .int .i64 m] w fun e w' => e = .returned (.int .i64 v) ∧ Below w.heap.size w w' := by
  have := implFarSecond_any p q n m w
  rw [farSecondV, if_pos (farB_mk k hn hp hk m1 m2), hn] at this
  subst hv
  subst hn
  exact this
theorem implFarSecond_no (p q n m : Int) (w : World) (h : farB p q n m = false) :
    Calls Try.prog 11 #[pr p q, .int .i64 n, .int .i64 m] w fun e w' => e = .returned (.int .i64 (-1)) ∧ Below w.heap.size w w' := by
  have := implFarSecond_any p q n m w
  rw [farSecondV, if_neg (by simp [h])] at this
  exact this
theorem implPowerLeft_at (a m : Int) (k : Nat) (v n : Int) (w : World) (hn : n = k) (a1 : -10000 ≤ a) (a2 : a ≤ 10000) (hk : k ≤ 1000000000) (m1 : 1 ≤ m) (m2 : m ≤ 10000) (hv : a ^ k % m = v) :
    Calls Try.prog 16 #[.int .i64 a, .int .i64 n, .int .i64 m] w fun e w' => e = .returned (.int .i64 v) ∧ Below w.heap.size w w' := by
  have := implPowerLeft_any a n m w
  rw [powLeftV, if_pos (powB_mk k hn a1 a2 hk m1 m2), hn] at this
  subst hv
  subst hn
  exact this
theorem implPowerLeft_no (a n m : Int) (w : World) (h : powB a n m = false) :
    Calls Try.prog 16 #[.int .i64 a, .int .i64 n, .int .i64 m] w fun e w' => e = .returned (.int .i64 (-1)) ∧ Below w.heap.size w w' := by
  have := implPowerLeft_any a n m w
  rw [powLeftV, if_neg (by simp [h])] at this
  exact this
theorem specFarFirst_at (p q m : Int) (k : Nat) (v n : Int) (w : World) (hn : n = k) (hp : pairB p q = true) (hk : k ≤ 1000000000) (m1 : 1 ≤ m) (m2 : m ≤ 10000) (hv : row p q 0 1 k % m = v) :
    Calls Try.prog 53 #[pr p q, .int .i64 n, .int .i64 m] w fun e w' => e = .returned (.int .i64 v) ∧ Below w.heap.size w w' := by
  have := specFarFirst_any p q n m w
  rw [farFirstV, if_pos (farB_mk k hn hp hk m1 m2), hn] at this
  subst hv
  subst hn
  exact this
theorem specFarFirst_no (p q n m : Int) (w : World) (h : farB p q n m = false) :
    Calls Try.prog 53 #[pr p q, .int .i64 n, .int .i64 m] w fun e w' => e = .returned (.int .i64 (-1)) ∧ Below w.heap.size w w' := by
  have := specFarFirst_any p q n m w
  rw [farFirstV, if_neg (by simp [h])] at this
  exact this
theorem specFarSecond_at (p q m : Int) (k : Nat) (v n : Int) (w : World) (hn : n = k) (hp : pairB p q = true) (hk : k ≤ 1000000000) (m1 : 1 ≤ m) (m2 : m ≤ 10000) (hv : row p q 2 p k % m = v) :
    Calls Try.prog 12 #[pr p q, .int .i64 n, .int .i64 m] w fun e w' => e = .returned (.int .i64 v) ∧ Below w.heap.size w w' := by
  have := specFarSecond_any p q n m w
  rw [farSecondV, if_pos (farB_mk k hn hp hk m1 m2), hn] at this
  subst hv
  subst hn
  exact this
theorem specFarSecond_no (p q n m : Int) (w : World) (h : farB p q n m = false) :
    Calls Try.prog 12 #[pr p q, .int .i64 n, .int .i64 m] w fun e w' => e = .returned (.int .i64 (-1)) ∧ Below w.heap.size w w' := by
  have := specFarSecond_any p q n m w
  rw [farSecondV, if_neg (by simp [h])] at this
  exact this
theorem specPowerLeft_at (a m : Int) (k : Nat) (v n : Int) (w : World) (hn : n = k) (a1 : -10000 ≤ a) (a2 : a ≤ 10000) (hk : k ≤ 1000000000) (m1 : 1 ≤ m) (m2 : m ≤ 10000) (hv : a ^ k % m = v) :
    Calls Try.prog 18 #[.int .i64 a, .int .i64 n, .int .i64 m] w fun e w' => e = .returned (.int .i64 v) ∧ w = w' := by
  have := specPowerLeft_any a n m w
  rw [powLeftV, if_pos (powB_mk k hn a1 a2 hk m1 m2), hn] at this
  subst hv
  subst hn
  exact this
theorem specPowerLeft_no (a n m : Int) (w : World) (h : powB a n m = false) :
    Calls Try.prog 18 #[.int .i64 a, .int .i64 n, .int .i64 m] w fun e w' => e = .returned (.int .i64 (-1)) ∧ w = w' := by
  have := specPowerLeft_any a n m w
  rw [powLeftV, if_neg (by simp [h])] at this
  exact this
theorem rowLeftN_is (p q m x : Int) (k : Nat) (hx : x = k) (hp : pairB p q = true) (hk : k ≤ 200) (m1 : 1 ≤ m) (m2 : m ≤ 10000) : rowLeftN p q x m = k + 1 := by
  have h : rowLeftB p q x m = true := by simp [rowLeftB, hp, inB_mk (n := x) (a := 0) (b := 200) (by omega) (by omega), inB_mk m1 m2]
  rw [rowLeftN, if_pos h]
  omega
theorem eqm_tmod (m x : Int) : Eqm m (x.tmod m) x := ⟨-(x.tdiv m), by have := Int.mul_tdiv_add_tmod x m; rw [Int.mul_neg]; omega⟩
theorem tmod_bd (n m : Int) (hm : 1 ≤ m) : -m < n.tmod m ∧ n.tmod m < m := by
  refine ⟨?_, Int.tmod_lt_of_pos n (by omega)⟩
  have := Int.tmod_lt_of_pos (-n) (b := m) (by omega)
  rw [Int.neg_tmod] at this
  omega
/-- Seven places on. -/
theorem far_want (p q m : Int) (k : Nat) : (row p q 0 1 (k + 1) % m * (row p q 0 1 8).tmod m - q * (row p q 0 1 k % m * (row p q 0 1 7).tmod m).tmod m).tmod m % m = row p q 0 1 (k + 8) % m := by
  refine Eqm.left ((eqm_tmod m _).trans ?_)
  refine Eqm.trans (((Eqm.refl m _).mul (eqm_tmod m _)).sub ((Eqm.refl m q).mul ((eqm_tmod m _).trans ((Eqm.refl m _).mul (eqm_tmod m _))))) ?_
  exact far_add p q m k 7
theorem eqm_tmod_zero {m x y : Int} (h : Eqm m x y) : ((x - y).tmod m == 0) = true := by
  rw [Int.tmod_eq_zero_of_dvd h]; rfl
end Go.Proofs.Ytpogmnkedohdcaa
namespace Go.Proofs.Ytpogmnkedohdcaa
open Go.RowKit
theorem pow_fifty {a : Int} (h1 : -50 ≤ a) (h2 : a ≤ 50) : ∀ n : Nat, -(50 ^ n) ≤ a ^ n ∧ a ^ n ≤ 50 ^ n
  | 0 => by simp
  | n + 1 => by
    obtain ⟨m1, m2⟩ := pow_fifty h1 h2 n
    have := mul_bd m1 m2 h1 h2
    rw [Int.pow_succ, Int.pow_succ]
    exact this
theorem pow_nine {a : Int} (h1 : -50 ≤ a) (h2 : a ≤ 50) (n : Nat) (hn : n ≤ 9) : -1953125000000000 ≤ a ^ n ∧ a ^ n ≤ 1953125000000000 := by
  obtain ⟨m1, m2⟩ := pow_fifty h1 h2 n
  have e : (50 : Int) ^ n ≤ 50 ^ 9 := by
    have := Nat.pow_le_pow_right (n := 50) (by omega) hn
    exact_mod_cast this
  have e2 : (50 : Int) ^ 9 = 1953125000000000 := by decide +kernel
  omega
set_option maxHeartbeats 1000000 in
theorem powerOf_nine (a : Int) (m : Nat) (w : World) (h1 : -50 ≤ a) (h2 : a ≤ 50) (hm : m ≤ 9) :
    Calls Try.prog 19 #[.int .i64 a, .int .i64 m] w fun e w' => e = .returned (.int .i64 (a ^ m)) ∧ w = w' := by
  go_enter Try.func19, Try.ntmps19
  go_wp2
  go_loop [5, 6] (fun n k => ∃ i : Nat, i ≤ m ∧ k = .int .i64 i ∧ n = .int .i64 (a ^ i)) (fun _ k => m - (intOf k).toNat)
  case atStart => exact ⟨0, Nat.zero_le _, rfl, by simp⟩
  case round =>
    obtain ⟨i, hi, rfl, rfl⟩ := hrel
    by_cases hlt : i < m
    · obtain ⟨b1, b2⟩ := pow_nine h1 h2 (i + 1) (by omega)
      rw [Int.pow_succ] at b1 b2
      go_wp2
      go_round
      case rel => exact ⟨i + 1, by omega, congrArg (Value.int .i64) (by omega), congrArg (Value.int .i64) (by rw [Int.pow_succ])⟩
      case measure => simp [intOf]; omega
    · obtain rfl : i = m := by omega
      go_wp2
      go_ret
      exact ⟨rfl, rfl⟩
set_option maxRecDepth 100000 in
set_option maxHeartbeats 8000000 in
theorem fnPowerLeft_walk (ad : Option Addr) (len cap : Nat) (z : List Int) (w : World) (w0 : IsRow w ad len cap z) :
    Calls Try.prog 4 #[.slice ad len cap] w fun e w' => e = .returned (.bool true) ∧ Below w.heap.size w w' := by
  by_cases hbig : 1048576 < len
  · go_enter Try.func4, Try.ntmps4
    go_wp2
    go_ret
    exact ⟨rfl, Below.refl _ _⟩
  · have hsm : len ≤ 1048576 := by omega
    go_enter Try.func4, Try.ntmps4
    go_wp2_with fail
    refine (drawPowerLeft_any _ _ _ _ z w0).mono ?_
    rintro e w1 ⟨a, n, m, rfl, hh1⟩
    have hz1 := hh1.size
    obtain ⟨hc1, hf1⟩ := bcell hh1
    by_cases h : powB a n m = true
    · obtain ⟨⟨a1, a2⟩, ⟨k, rfl, hk⟩, m1, m2⟩ := powB_true h
      have hz : (m == 0) = false := by simp; omega
      clear h
      obtain ⟨u1, u2⟩ := left_bd (a ^ k) m m1
      obtain ⟨x1, x2⟩ := mul_bd (a := 10000) (b := 10000) (show -10000 ≤ a ^ k % m by omega) (by omega) a1 a2
      by_cases hn : k + 1 ≤ 1000000000
      · obtain ⟨z1, z2⟩ := left_bd (a ^ (k + 1)) m m1
        have T1 : (a ^ k % m * a - a ^ (k + 1) % m).tmod m = 0 := by
          refine Int.tmod_eq_zero_of_dvd (((eqm_left m (a ^ k)).mul (Eqm.refl m a)).trans ?_)
          rw [← Int.pow_succ]
          exact (eqm_left m _).symm
        by_cases s3 : k ≤ 9
        · by_cases s2 : a ≤ 50
          · by_cases s1 : -50 ≤ a
            · obtain ⟨y1, y2⟩ := pow_nine s1 s2 k s3
              have T2 : (a ^ k - a ^ k % m).tmod m = 0 := Int.tmod_eq_zero_of_dvd (eqm_left m (a ^ k)).symm
              go_wp2_with fail
              refine (implPowerLeft_at a m k _ _ _ rfl a1 a2 hk m1 m2 rfl).mono ?_
              rintro e w2 ⟨rfl, hh2⟩
              have hz2 := hh2.size
              go_wp2_with fail
              refine (specPowerLeft_at a m k _ _ _ rfl a1 a2 hk m1 m2 rfl).mono ?_
              rintro e wx ⟨rfl, rfl⟩
              go_wp2_with fail
              refine (implPowerLeft_at a m (k + 1) _ _ _ (by omega) a1 a2 (by omega) m1 m2 rfl).mono ?_
              rintro e w4 ⟨rfl, hh4⟩
              have hz4 := hh4.size
              go_wp2_with fail
              refine (powerOf_nine a k _ s1 s2 s3).mono ?_
              rintro e wx ⟨rfl, rfl⟩
              go_wp2_with fail
              refine (alive_any _).mono ?_
              rintro e w6 ⟨rfl, hh6⟩
              have hz6 := hh6.size
              go_wp2
              go_ret
              exact ⟨rfl, by (repeat (first | exact Below.refl _ _ | refine below_drewN ?_ _ | refine Below.setCell ?_ (by first | omega | (simp <;> omega)) _ | refine Below.alloc ?_ (by first | omega | (simp <;> omega)) _ | refine Below.drew ?_ | refine Below.trans ?_ (Below.mono (by assumption) (by first | omega | (simp <;> omega))) | refine Below.grown ?_ (by assumption) (by first | omega | (simp <;> omega)) (fun k e => by cases e; first | omega | (simp <;> omega))))⟩
            · have s1' : a < -50 := by omega
              go_wp2_with fail
              refine (implPowerLeft_at a m k _ _ _ rfl a1 a2 hk m1 m2 rfl).mono ?_
              rintro e w2 ⟨rfl, hh2⟩
              have hz2 := hh2.size
              go_wp2_with fail
              refine (specPowerLeft_at a m k _ _ _ rfl a1 a2 hk m1 m2 rfl).mono ?_
              rintro e wx ⟨rfl, rfl⟩
              go_wp2_with fail
              refine (implPowerLeft_at a m (k + 1) _ _ _ (by omega) a1 a2 (by omega) m1 m2 rfl).mono ?_
              rintro e w4 ⟨rfl, hh4⟩
              have hz4 := hh4.size
              go_wp2_with fail
              refine (alive_any _).mono ?_
              rintro e w6 ⟨rfl, hh6⟩
              have hz6 := hh6.size
              go_wp2
              go_ret
              exact ⟨rfl, by (repeat (first | exact Below.refl _ _ | refine below_drewN ?_ _ | refine Below.setCell ?_ (by first | omega | (simp <;> omega)) _ | refine Below.alloc ?_ (by first | omega | (simp <;> omega)) _ | refine Below.drew ?_ | refine Below.trans ?_ (Below.mono (by assumption) (by first | omega | (simp <;> omega))) | refine Below.grown ?_ (by assumption) (by first | omega | (simp <;> omega)) (fun k e => by cases e; first | omega | (simp <;> omega))))⟩
          · have s2' : 50 < a := by omega
            go_wp2_with fail
            refine (implPowerLeft_at a m k _ _ _ rfl a1 a2 hk m1 m2 rfl).mono ?_
            rintro e w2 ⟨rfl, hh2⟩
            have hz2 := hh2.size
            go_wp2_with fail
            refine (specPowerLeft_at a m k _ _ _ rfl a1 a2 hk m1 m2 rfl).mono ?_
            rintro e wx ⟨rfl, rfl⟩
            go_wp2_with fail
            refine (implPowerLeft_at a m (k + 1) _ _ _ (by omega) a1 a2 (by omega) m1 m2 rfl).mono ?_
            rintro e w4 ⟨rfl, hh4⟩
            have hz4 := hh4.size
            go_wp2_with fail
            refine (alive_any _).mono ?_
            rintro e w6 ⟨rfl, hh6⟩
            have hz6 := hh6.size
            go_wp2
            go_ret
            exact ⟨rfl, by (repeat (first | exact Below.refl _ _ | refine below_drewN ?_ _ | refine Below.setCell ?_ (by first | omega | (simp <;> omega)) _ | refine Below.alloc ?_ (by first | omega | (simp <;> omega)) _ | refine Below.drew ?_ | refine Below.trans ?_ (Below.mono (by assumption) (by first | omega | (simp <;> omega))) | refine Below.grown ?_ (by assumption) (by first | omega | (simp <;> omega)) (fun k e => by cases e; first | omega | (simp <;> omega))))⟩
        · have s3' : (9 : Int) < k := by omega
          go_wp2_with fail
          refine (implPowerLeft_at a m k _ _ _ rfl a1 a2 hk m1 m2 rfl).mono ?_
          rintro e w2 ⟨rfl, hh2⟩
          have hz2 := hh2.size
          go_wp2_with fail
          refine (specPowerLeft_at a m k _ _ _ rfl a1 a2 hk m1 m2 rfl).mono ?_
          rintro e wx ⟨rfl, rfl⟩
          go_wp2_with fail
          refine (implPowerLeft_at a m (k + 1) _ _ _ (by omega) a1 a2 (by omega) m1 m2 rfl).mono ?_
          rintro e w4 ⟨rfl, hh4⟩
          have hz4 := hh4.size
          go_wp2_with fail
          refine (alive_any _).mono ?_
          rintro e w6 ⟨rfl, hh6⟩
          have hz6 := hh6.size
          go_wp2
          go_ret
          exact ⟨rfl, by (repeat (first | exact Below.refl _ _ | refine below_drewN ?_ _ | refine Below.setCell ?_ (by first | omega | (simp <;> omega)) _ | refine Below.alloc ?_ (by first | omega | (simp <;> omega)) _ | refine Below.drew ?_ | refine Below.trans ?_ (Below.mono (by assumption) (by first | omega | (simp <;> omega))) | refine Below.grown ?_ (by assumption) (by first | omega | (simp <;> omega)) (fun k e => by cases e; first | omega | (simp <;> omega))))⟩
      · have HN := Lib.hid (powB_no (a := a) (n := (k : Int) + 1) (m := m) (by omega))
        have s3' : (9 : Int) < k := by omega
        go_wp2_with fail
        refine (implPowerLeft_at a m k _ _ _ rfl a1 a2 hk m1 m2 rfl).mono ?_
        rintro e w2 ⟨rfl, hh2⟩
        have hz2 := hh2.size
        go_wp2_with fail
        refine (specPowerLeft_at a m k _ _ _ rfl a1 a2 hk m1 m2 rfl).mono ?_
        rintro e wx ⟨rfl, rfl⟩
        go_wp2_with fail
        refine (implPowerLeft_no a _ m _ HN.out).mono ?_
        rintro e w4 ⟨rfl, hh4⟩
        have hz4 := hh4.size
        go_wp2_with fail
        refine (alive_any _).mono ?_
        rintro e w6 ⟨rfl, hh6⟩
        have hz6 := hh6.size
        go_wp2
        go_ret
        exact ⟨rfl, by (repeat (first | exact Below.refl _ _ | refine below_drewN ?_ _ | refine Below.setCell ?_ (by first | omega | (simp <;> omega)) _ | refine Below.alloc ?_ (by first | omega | (simp <;> omega)) _ | refine Below.drew ?_ | refine Below.trans ?_ (Below.mono (by assumption) (by first | omega | (simp <;> omega))) | refine Below.grown ?_ (by assumption) (by first | omega | (simp <;> omega)) (fun k e => by cases e; first | omega | (simp <;> omega))))⟩
    · have H := Lib.hid (show powB a n m = false by simpa using h)
      clear h
      go_wp2_with fail
      refine (implPowerLeft_no a n m _ H.out).mono ?_
      rintro e w2 ⟨rfl, hh2⟩
      have hz2 := hh2.size
      go_wp2_with fail
      refine (specPowerLeft_no a n m _ H.out).mono ?_
      rintro e wx ⟨rfl, rfl⟩
      go_wp2_with fail
      refine (alive_any _).mono ?_
      rintro e w4 ⟨rfl, hh4⟩
      have hz4 := hh4.size
      go_wp2
      go_ret
      exact ⟨rfl, by (repeat (first | exact Below.refl _ _ | refine Below.setCell ?_ (by first | omega | (simp <;> omega)) _ | refine Below.alloc ?_ (by first | omega | (simp <;> omega)) _ | refine Below.drew ?_ | refine Below.trans ?_ (Below.mono (by assumption) (by first | omega | (simp <;> omega))) | refine Below.grown ?_ (by assumption) (by first | omega | (simp <;> omega)) (fun k e => by cases e; first | omega | (simp <;> omega))))⟩
end Go.Proofs.Ytpogmnkedohdcaa
namespace Go.Proofs.Ytpogmnkedohdcaa
open Go.RowKit
set_option maxRecDepth 100000 in
set_option maxHeartbeats 8000000 in
theorem fnFarSecond_walk (a : Option Addr) (len cap : Nat) (z : List Int) (w : World) (w0 : IsRow w a len cap z) :
    Calls Try.prog 3 #[.slice a len cap] w fun e w' => e = .returned (.bool true) ∧ Below w.heap.size w w' := by
  by_cases hbig : 1048576 < len
  · go_enter Try.func3, Try.ntmps3
    go_wp2
    go_ret
    exact ⟨rfl, Below.refl _ _⟩
  · have hsm : len ≤ 1048576 := by omega
    go_enter Try.func3, Try.ntmps3
    go_wp2_with fail
    refine (drawFarSecond_any _ _ _ _ z w0).mono ?_
    rintro e w1 ⟨p, q, n, m, rfl, hh1⟩
    have hz1 := hh1.size
    obtain ⟨hc1, hf1⟩ := bcell hh1
    by_cases h : farB p q n m = true
    · obtain ⟨hp, ⟨k, rfl, hk⟩, m1, m2⟩ := farB_true h
      obtain ⟨⟨r1, r2⟩, r3, r4⟩ := pairB_true hp
      have HP := Lib.hid hp
      have hz : (m == 0) = false := by simp; omega
      clear h hp
      obtain ⟨u1, u2⟩ := left_bd (row p q 0 1 k) m m1
      obtain ⟨v1, v2⟩ := left_bd (row p q 2 p k) m m1
      obtain ⟨y1, y2⟩ := left_bd (q ^ k) m m1
      have hW : weightV p q = p * p - 4 * q := by rw [weightV, if_pos HP.out]
      have hwb : -32 ≤ weightV p q ∧ weightV p q ≤ 32 := by
        have := mul_bd r1 r2 r1 r2
        rw [hW]; omega
      obtain ⟨x1, x2⟩ := mul_bd (a := 10000) (b := 10000) (show -10000 ≤ row p q 2 p k % m by omega) (by omega) (show -10000 ≤ row p q 2 p k % m by omega) (by omega)
      obtain ⟨x3, x4⟩ := mul_bd (b := 10000) hwb.1 hwb.2 (show -10000 ≤ row p q 0 1 k % m by omega) (by omega)
      obtain ⟨x5, x6⟩ := mul_bd (b := 10000) x3 x4 (show -10000 ≤ row p q 0 1 k % m by omega) (by omega)
      obtain ⟨x7, x8⟩ := mul_bd (a := 10000) (b := 10000) (show -10000 ≤ row p q 2 p k % m by omega) (by omega) (show -10000 ≤ row p q 0 1 k % m by omega) (by omega)
      have x9 : 0 ≤ row p q 2 p k % m * (row p q 0 1 k % m) := Int.mul_nonneg v1 u1
      have T1 : (row p q 2 p k % m * (row p q 2 p k % m) - weightV p q * (row p q 0 1 k % m) * (row p q 0 1 k % m) - 4 * (q ^ k % m)).tmod m = 0 := by
        rw [hW]; exact Int.tmod_eq_zero_of_dvd (far_square p q m k)
      have T2 := far_twice p q m k
      clear hW hwb
      by_cases h2 : 2 * k ≤ 1000000000
      · obtain ⟨z1, z2⟩ := left_bd (row p q 0 1 (2 * k)) m m1
        go_wp2_with fail
        refine (implFarSecond_at p q m k _ _ _ rfl HP.out hk m1 m2 rfl).mono ?_
        rintro e w2 ⟨rfl, hh2⟩
        obtain ⟨hc2, hf2⟩ := bcell hh2
        have hz2 := hh2.size
        try simp only [World.size_alloc] at hz2
        have hz2_0 : w1.heap.size < w2.heap.size := by omega
        have kb2_0_0 : w2.cell? ⟨w1.heap.size, 0, none⟩ = some (.int .i64 p) := by go_simp
        have kf2_0_0 : w2.frozen? ⟨w1.heap.size, 0, none⟩ = false := by go_simp
        have kb2_0_1 : w2.cell? ⟨w1.heap.size, 1, none⟩ = some (.int .i64 q) := by go_simp
        have kf2_0_1 : w2.frozen? ⟨w1.heap.size, 1, none⟩ = false := by go_simp
        clear hc2 hf2
        go_wp2_with fail
        refine (specFarSecond_at p q m k _ _ _ rfl HP.out hk m1 m2 rfl).mono ?_
        rintro e w3 ⟨rfl, hh3⟩
        obtain ⟨hc3, hf3⟩ := bcell hh3
        have hz3 := hh3.size
        try simp only [World.size_alloc] at hz3
        have hz3_0 : w1.heap.size < w3.heap.size := by omega
        have kb3_0_0 : w3.cell? ⟨w1.heap.size, 0, none⟩ = some (.int .i64 p) := by go_simp
        have kf3_0_0 : w3.frozen? ⟨w1.heap.size, 0, none⟩ = false := by go_simp
        have kb3_0_1 : w3.cell? ⟨w1.heap.size, 1, none⟩ = some (.int .i64 q) := by go_simp
        have kf3_0_1 : w3.frozen? ⟨w1.heap.size, 1, none⟩ = false := by go_simp
        clear hc3 hf3
        go_wp2_with fail
        refine (implFarFirst_at p q m k _ _ _ rfl HP.out hk m1 m2 rfl).mono ?_
        rintro e w4 ⟨rfl, hh4⟩
        obtain ⟨hc4, hf4⟩ := bcell hh4
        have hz4 := hh4.size
        try simp only [World.size_alloc] at hz4
        have hz4_0 : w1.heap.size < w4.heap.size := by omega
        have kb4_0_0 : w4.cell? ⟨w1.heap.size, 0, none⟩ = some (.int .i64 p) := by go_simp
        have kf4_0_0 : w4.frozen? ⟨w1.heap.size, 0, none⟩ = false := by go_simp
        have kb4_0_1 : w4.cell? ⟨w1.heap.size, 1, none⟩ = some (.int .i64 q) := by go_simp
        have kf4_0_1 : w4.frozen? ⟨w1.heap.size, 1, none⟩ = false := by go_simp
        clear hc4 hf4
        go_wp2_with fail
        refine (implWeight_yes p q _ HP.out).mono ?_
        rintro e w5 ⟨rfl, hh5⟩
        obtain ⟨hc5, hf5⟩ := bcell hh5
        have hz5 := hh5.size
        try simp only [World.size_alloc] at hz5
        have hz5_0 : w1.heap.size < w5.heap.size := by omega
        have kb5_0_0 : w5.cell? ⟨w1.heap.size, 0, none⟩ = some (.int .i64 p) := by go_simp
        have kf5_0_0 : w5.frozen? ⟨w1.heap.size, 0, none⟩ = false := by go_simp
        have kb5_0_1 : w5.cell? ⟨w1.heap.size, 1, none⟩ = some (.int .i64 q) := by go_simp
        have kf5_0_1 : w5.frozen? ⟨w1.heap.size, 1, none⟩ = false := by go_simp
        clear hc5 hf5
        go_wp2_with fail
        refine (implPowerLeft_at q m k _ _ _ rfl (by omega) (by omega) hk m1 m2 rfl).mono ?_
        rintro e w6 ⟨rfl, hh6⟩
        obtain ⟨hc6, hf6⟩ := bcell hh6
        have hz6 := hh6.size
        try simp only [World.size_alloc] at hz6
        have hz6_0 : w1.heap.size < w6.heap.size := by omega
        have kb6_0_0 : w6.cell? ⟨w1.heap.size, 0, none⟩ = some (.int .i64 p) := by go_simp
        have kf6_0_0 : w6.frozen? ⟨w1.heap.size, 0, none⟩ = false := by go_simp
        have kb6_0_1 : w6.cell? ⟨w1.heap.size, 1, none⟩ = some (.int .i64 q) := by go_simp
        have kf6_0_1 : w6.frozen? ⟨w1.heap.size, 1, none⟩ = false := by go_simp
        clear hc6 hf6
        go_wp2_with fail
        refine (implFarFirst_at p q m (2 * k) _ _ _ (by omega) HP.out h2 m1 m2 rfl).mono ?_
        rintro e w7 ⟨rfl, hh7⟩
        obtain ⟨hc7, hf7⟩ := bcell hh7
        have hz7 := hh7.size
        try simp only [World.size_alloc] at hz7
        have hz7_0 : w1.heap.size < w7.heap.size := by omega
        have kb7_0_0 : w7.cell? ⟨w1.heap.size, 0, none⟩ = some (.int .i64 p) := by go_simp
        have kf7_0_0 : w7.frozen? ⟨w1.heap.size, 0, none⟩ = false := by go_simp
        have kb7_0_1 : w7.cell? ⟨w1.heap.size, 1, none⟩ = some (.int .i64 q) := by go_simp
        have kf7_0_1 : w7.frozen? ⟨w1.heap.size, 1, none⟩ = false := by go_simp
        clear hc7 hf7
        go_wp2_with fail
        refine (alive_any _).mono ?_
        rintro e w8 ⟨rfl, hh8⟩
        obtain ⟨hc8, hf8⟩ := bcell hh8
        have hz8 := hh8.size
        try simp only [World.size_alloc] at hz8
        clear hc8 hf8
        go_wp2
        go_ret
        exact ⟨rfl, by (repeat (first | exact Below.refl _ _ | refine below_drewN ?_ _ | refine Below.setCell ?_ (by first | omega | (simp <;> omega)) _ | refine Below.alloc ?_ (by first | omega | (simp <;> omega)) _ | refine Below.drew ?_ | refine Below.trans ?_ (Below.mono (by assumption) (by first | omega | (simp <;> omega))) | refine Below.grown ?_ (by assumption) (by first | omega | (simp <;> omega)) (fun k e => by cases e; first | omega | (simp <;> omega))))⟩
      · have HN := Lib.hid (farB_no (p := p) (q := q) (n := 2 * (k : Int)) (m := m) (by omega))
        go_wp2_with fail
        refine (implFarSecond_at p q m k _ _ _ rfl HP.out hk m1 m2 rfl).mono ?_
        rintro e w2 ⟨rfl, hh2⟩
        obtain ⟨hc2, hf2⟩ := bcell hh2
        have hz2 := hh2.size
        try simp only [World.size_alloc] at hz2
        have hz2_0 : w1.heap.size < w2.heap.size := by omega
        have kb2_0_0 : w2.cell? ⟨w1.heap.size, 0, none⟩ = some (.int .i64 p) := by go_simp
        have kf2_0_0 : w2.frozen? ⟨w1.heap.size, 0, none⟩ = false := by go_simp
        have kb2_0_1 : w2.cell? ⟨w1.heap.size, 1, none⟩ = some (.int .i64 q) := by go_simp
        have kf2_0_1 : w2.frozen? ⟨w1.heap.size, 1, none⟩ = false := by go_simp
        clear hc2 hf2
        go_wp2_with fail
        refine (specFarSecond_at p q m k _ _ _ rfl HP.out hk m1 m2 rfl).mono ?_
        rintro e w3 ⟨rfl, hh3⟩
        obtain ⟨hc3, hf3⟩ := bcell hh3
        have hz3 := hh3.size
        try simp only [World.size_alloc] at hz3
        have hz3_0 : w1.heap.size < w3.heap.size := by omega
        have kb3_0_0 : w3.cell? ⟨w1.heap.size, 0, none⟩ = some (.int .i64 p) := by go_simp
        have kf3_0_0 : w3.frozen? ⟨w1.heap.size, 0, none⟩ = false := by go_simp
        have kb3_0_1 : w3.cell? ⟨w1.heap.size, 1, none⟩ = some (.int .i64 q) := by go_simp
        have kf3_0_1 : w3.frozen? ⟨w1.heap.size, 1, none⟩ = false := by go_simp
        clear hc3 hf3
        go_wp2_with fail
        refine (implFarFirst_at p q m k _ _ _ rfl HP.out hk m1 m2 rfl).mono ?_
        rintro e w4 ⟨rfl, hh4⟩
        obtain ⟨hc4, hf4⟩ := bcell hh4
        have hz4 := hh4.size
        try simp only [World.size_alloc] at hz4
        have hz4_0 : w1.heap.size < w4.heap.size := by omega
        have kb4_0_0 : w4.cell? ⟨w1.heap.size, 0, none⟩ = some (.int .i64 p) := by go_simp
        have kf4_0_0 : w4.frozen? ⟨w1.heap.size, 0, none⟩ = false := by go_simp
        have kb4_0_1 : w4.cell? ⟨w1.heap.size, 1, none⟩ = some (.int .i64 q) := by go_simp
        have kf4_0_1 : w4.frozen? ⟨w1.heap.size, 1, none⟩ = false := by go_simp
        clear hc4 hf4
        go_wp2_with fail
        refine (implWeight_yes p q _ HP.out).mono ?_
        rintro e w5 ⟨rfl, hh5⟩
        obtain ⟨hc5, hf5⟩ := bcell hh5
        have hz5 := hh5.size
        try simp only [World.size_alloc] at hz5
        have hz5_0 : w1.heap.size < w5.heap.size := by omega
        have kb5_0_0 : w5.cell? ⟨w1.heap.size, 0, none⟩ = some (.int .i64 p) := by go_simp
        have kf5_0_0 : w5.frozen? ⟨w1.heap.size, 0, none⟩ = false := by go_simp
        have kb5_0_1 : w5.cell? ⟨w1.heap.size, 1, none⟩ = some (.int .i64 q) := by go_simp
        have kf5_0_1 : w5.frozen? ⟨w1.heap.size, 1, none⟩ = false := by go_simp
        clear hc5 hf5
        go_wp2_with fail
        refine (implPowerLeft_at q m k _ _ _ rfl (by omega) (by omega) hk m1 m2 rfl).mono ?_
        rintro e w6 ⟨rfl, hh6⟩
        obtain ⟨hc6, hf6⟩ := bcell hh6
        have hz6 := hh6.size
        try simp only [World.size_alloc] at hz6
        have hz6_0 : w1.heap.size < w6.heap.size := by omega
        have kb6_0_0 : w6.cell? ⟨w1.heap.size, 0, none⟩ = some (.int .i64 p) := by go_simp
        have kf6_0_0 : w6.frozen? ⟨w1.heap.size, 0, none⟩ = false := by go_simp
        have kb6_0_1 : w6.cell? ⟨w1.heap.size, 1, none⟩ = some (.int .i64 q) := by go_simp
        have kf6_0_1 : w6.frozen? ⟨w1.heap.size, 1, none⟩ = false := by go_simp
        clear hc6 hf6
        go_wp2_with fail
        refine (implFarFirst_no p q _ m _ HN.out).mono ?_
        rintro e w7 ⟨rfl, hh7⟩
        obtain ⟨hc7, hf7⟩ := bcell hh7
        have hz7 := hh7.size
        try simp only [World.size_alloc] at hz7
        have hz7_0 : w1.heap.size < w7.heap.size := by omega
        have kb7_0_0 : w7.cell? ⟨w1.heap.size, 0, none⟩ = some (.int .i64 p) := by go_simp
        have kf7_0_0 : w7.frozen? ⟨w1.heap.size, 0, none⟩ = false := by go_simp
        have kb7_0_1 : w7.cell? ⟨w1.heap.size, 1, none⟩ = some (.int .i64 q) := by go_simp
        have kf7_0_1 : w7.frozen? ⟨w1.heap.size, 1, none⟩ = false := by go_simp
        clear hc7 hf7
        go_wp2_with fail
        refine (alive_any _).mono ?_
        rintro e w8 ⟨rfl, hh8⟩
        obtain ⟨hc8, hf8⟩ := bcell hh8
        have hz8 := hh8.size
        try simp only [World.size_alloc] at hz8
        clear hc8 hf8
        go_wp2
        go_ret
        exact ⟨rfl, by (repeat (first | exact Below.refl _ _ | refine below_drewN ?_ _ | refine Below.setCell ?_ (by first | omega | (simp <;> omega)) _ | refine Below.alloc ?_ (by first | omega | (simp <;> omega)) _ | refine Below.drew ?_ | refine Below.trans ?_ (Below.mono (by assumption) (by first | omega | (simp <;> omega))) | refine Below.grown ?_ (by assumption) (by first | omega | (simp <;> omega)) (fun k e => by cases e; first | omega | (simp <;> omega))))⟩
    · have H := Lib.hid (show farB p q n m = false by simpa using h)
      clear h
      go_wp2_with fail
      refine (implFarSecond_no p q n m _ H.out).mono ?_
      rintro e w2 ⟨rfl, hh2⟩
      obtain ⟨hc2, hf2⟩ := bcell hh2
      have hz2 := hh2.size
      try simp only [World.size_alloc] at hz2
      have hz2_0 : w1.heap.size < w2.heap.size := by omega
      have kb2_0_0 : w2.cell? ⟨w1.heap.size, 0, none⟩ = some (.int .i64 p) := by go_simp
      have kf2_0_0 : w2.frozen? ⟨w1.heap.size, 0, none⟩ = false := by go_simp
      have kb2_0_1 : w2.cell? ⟨w1.heap.size, 1, none⟩ = some (.int .i64 q) := by go_simp
      have kf2_0_1 : w2.frozen? ⟨w1.heap.size, 1, none⟩ = false := by go_simp
      clear hc2 hf2
      go_wp2_with fail
      refine (specFarSecond_no p q n m _ H.out).mono ?_
      rintro e w3 ⟨rfl, hh3⟩
      obtain ⟨hc3, hf3⟩ := bcell hh3
      have hz3 := hh3.size
      try simp only [World.size_alloc] at hz3
      have hz3_0 : w1.heap.size < w3.heap.size := by omega
      have kb3_0_0 : w3.cell? ⟨w1.heap.size, 0, none⟩ = some (.int .i64 p) := by go_simp
      have kf3_0_0 : w3.frozen? ⟨w1.heap.size, 0, none⟩ = false := by go_simp
      have kb3_0_1 : w3.cell? ⟨w1.heap.size, 1, none⟩ = some (.int .i64 q) := by go_simp
      have kf3_0_1 : w3.frozen? ⟨w1.heap.size, 1, none⟩ = false := by go_simp
      clear hc3 hf3
      go_wp2_with fail
      refine (alive_any _).mono ?_
      rintro e w4 ⟨rfl, hh4⟩
      obtain ⟨hc4, hf4⟩ := bcell hh4
      have hz4 := hh4.size
      try simp only [World.size_alloc] at hz4
      clear hc4 hf4
      go_wp2
      go_ret
      exact ⟨rfl, by (repeat (first | exact Below.refl _ _ | refine Below.setCell ?_ (by first | omega | (simp <;> omega)) _ | refine Below.alloc ?_ (by first | omega | (simp <;> omega)) _ | refine Below.drew ?_ | refine Below.trans ?_ (Below.mono (by assumption) (by first | omega | (simp <;> omega))) | refine Below.grown ?_ (by assumption) (by first | omega | (simp <;> omega)) (fun k e => by cases e; first | omega | (simp <;> omega))))⟩
end Go.Proofs.Ytpogmnkedohdcaa
namespace Go.Proofs.Ytpogmnkedohdcaa
open Go.RowKit
/-- Places, as cells; those up to one at which something holds. -/
def natCells (L : List Nat) : List Value := L.map fun (i : Nat) => .int .i64 (i : Int)
def holdL (B : Nat → Bool) (n : Nat) : List Nat := (List.range n).filter B
theorem holdL_len (B : Nat → Bool) (n : Nat) : (holdL B n).length ≤ n := Nat.le_trans (List.length_filter_le _ _) (by simp)
theorem holdL_yes {B : Nat → Bool} {n : Nat} (h : B n = true) : holdL B n ++ [n] = holdL B (n + 1) := by simp [holdL, List.range_succ, h]
theorem holdL_no {B : Nat → Bool} {n : Nat} (h : B n = false) : holdL B (n + 1) = holdL B n := by simp [holdL, List.range_succ, h]
theorem natCells_yes {B : Nat → Bool} {n : Nat} (h : B n = true) : natCells (holdL B n) ++ [.int .i64 (n : Int)] = natCells (holdL B (n + 1)) := by
  rw [← holdL_yes h]; simp [natCells]
theorem holdL_yes_len {B : Nat → Bool} {n : Nat} (h : B n = true) : (holdL B n).length + 1 = (holdL B (n + 1)).length := by
  rw [← holdL_yes h]; simp
theorem natCells_range (L : List Nat) : natCells L = (List.range L.length).map fun i => .int .i64 ((L.getD i 0 : Nat) : Int) := by
  refine List.ext_getElem (by simp [natCells]) fun i h1 h2 => ?_
  simp only [natCells, List.getElem_map, List.getElem_range]
  have h3 : i < L.length := by simpa [natCells] using h1
  simp [h3]
/-- A list of places, in new memory. -/
def ListOf (L : List Nat) (w : World) (e : Ending) (w' : World) : Prop :=
  ∃ v, e = .returned v ∧ IsInts w.heap.size w'.heap.size w' v L.length (fun i => ((L.getD i 0 : Nat) : Int)) ∧ Below w.heap.size w w'
/-- The places from 1 on at which d divides the row. -/
def divB (p q d : Int) (j : Nat) : Bool := decide (1 ≤ j) && decide (d ∣ row p q 0 1 j)
def zerosL (p q : Int) : List Nat := if pairB p q = true then holdL (divB p q 0) 21 else []
def dividedB (p q m : Int) : Bool := pairB p q && inB m 1 10000
def dividedL (p q m : Int) : List Nat := if dividedB p q m = true then holdL (divB p q m) 21 else []
theorem table_list {p q d : Int} {t : Nat} (h : Table p q d t) : holdL (fun j => t.testBit j) 21 = holdL (divB p q d) 21 := by
  refine List.filter_congr fun j hj => ?_
  have hj' : j < 21 := by simpa using hj
  rw [Bool.eq_iff_iff, h.2 j]
  simp only [divB, Bool.and_eq_true, decide_eq_true_iff]
  exact ⟨fun h => ⟨h.1, h.2.2⟩, fun h => ⟨h.1, by omega, h.2⟩⟩
theorem dividedB_ways {p q m : Int} (h : dividedB p q m = false) : pairB p q = false ∨ (pairB p q = true ∧ inB m 1 10000 = false) := by
  cases hp : pairB p q with
  | false => exact .inl rfl
  | true => exact .inr ⟨rfl, by simpa [dividedB, hp] using h⟩
theorem dividedB_true {p q m : Int} (h : dividedB p q m = true) : pairB p q = true ∧ inB m 1 10000 = true := by simpa [dividedB] using h
end Go.Proofs.Ytpogmnkedohdcaa
namespace Go.Proofs.Ytpogmnkedohdcaa
open Go.RowKit
theorem own_below {w w' : World} {base : Nat} {e : TypeId} {size : Nat} {v : Value} {n : Nat} {xs : List Value} (h : w.ownsRow base e size v n xs) (hb : Below w.heap.size w w') : w'.ownsRow base e size v n xs :=
  h.kept (row := none) ⟨hb.os, hb.tape, hb.output, hb.size, fun j hj _ => hb.block j hj⟩ (by cases v.ownBlock <;> simp)
theorem divB_zero (p q : Int) (j : Nat) (h : 1 ≤ j) : divB p q 0 j = (row p q 0 1 j == 0) := by
  rw [zero_bool]; simp [divB, h]
theorem divB_by (p q m : Int) (j : Nat) (h : 1 ≤ j) : divB p q m j = ((row p q 0 1 j).tmod m == 0) := by
  rw [dvd_bool]; simp [divB, h]
end Go.Proofs.Ytpogmnkedohdcaa
namespace Go.Proofs.Ytpogmnkedohdcaa
open Go.RowKit
theorem l1Common_is (a b v : Int) (w : World) (a1 : -1000000000000000 ≤ a) (a2 : a ≤ 1000000000000000) (b1 : -1000000000000000 ≤ b) (b2 : b ≤ 1000000000000000) (hv : ((Int.gcd a b : Nat) : Int) = v) :
    Calls Try.prog 66 #[.int .i64 a, .int .i64 b] w fun e w' => e = .returned (.int .i64 v) ∧ w = w' := by subst hv; exact l1Common_at a b w a1 a2 b1 b2
/-- Whether a number has a rank; the rank. -/
def rankB (p q m : Int) : Bool := pairB p q && (decide (q ≠ 0) && (inB m 1 400 && decide (Int.gcd q m = 1)))
def rankV (p q m : Int) : Int := if rankB p q m = true then (rankN p q m.toNat : Int) else -1
theorem rankB_true {p q m : Int} (h : rankB p q m = true) : pairB p q = true ∧ q ≠ 0 ∧ inB m 1 400 = true ∧ Int.gcd q m = 1 ∧ ∃ k : Nat, m = k ∧ 1 ≤ k ∧ k ≤ 400 ∧ Apart (k : Int) q := by
  have h' : pairB p q = true ∧ ¬ q = 0 ∧ inB m 1 400 = true ∧ Int.gcd q m = 1 := by simpa [rankB] using h
  obtain ⟨hp, hq, hm, hg⟩ := h'
  obtain ⟨m1, m2⟩ := inB_true hm
  have e : m = (m.toNat : Int) := by omega
  refine ⟨hp, hq, hm, hg, m.toNat, e, by omega, by omega, ?_⟩
  rw [← e]
  exact (apart_gcd.1 hg).symm
theorem rankB_ways {p q m : Int} (h : rankB p q m = false) : pairB p q = false ∨ (pairB p q = true ∧ q = 0) ∨ (pairB p q = true ∧ q ≠ 0 ∧ inB m 1 400 = false) ∨ (pairB p q = true ∧ q ≠ 0 ∧ inB m 1 400 = true ∧ Int.gcd q m ≠ 1) := by
  cases hp : pairB p q with
  | false => exact .inl rfl
  | true =>
    by_cases hq : q = 0
    · exact .inr (.inl ⟨rfl, hq⟩)
    · cases hm : inB m 1 400 with
      | false => exact .inr (.inr (.inl ⟨rfl, hq, rfl⟩))
      | true => exact .inr (.inr (.inr ⟨rfl, hq, rfl, by simpa [rankB, hp, hq, hm] using h⟩))
theorem rankB_mk {p q : Int} {k : Nat} (hp : pairB p q = true) (hq : q ≠ 0) (h1 : 1 ≤ k) (h2 : k ≤ 400) (h : Apart (k : Int) q) : rankB p q k = true := by
  have hg : Int.gcd q (k : Int) = 1 := apart_gcd.2 h.symm
  simp [rankB, hp, hq, inB_mk (n := (k : Int)) (a := 1) (b := 400) (by omega) (by omega), hg]
theorem rankV_is {p q : Int} {k : Nat} (h : rankB p q k = true) : rankV p q k = (rankN p q k : Int) := by rw [rankV, if_pos h]; rfl
theorem rank_bd {p q : Int} {k : Nat} (h1 : 1 ≤ k) (h2 : k ≤ 400) (h : Apart (k : Int) q) : 1 ≤ rankN p q k ∧ rankN p q k ≤ 160000 := by
  obtain ⟨_, a, b, _⟩ := rankN_spec (p := p) k h1 h
  exact ⟨a, Nat.le_trans b (Nat.mul_le_mul h2 h2)⟩
/-- What is left before the rank is not 0; at the rank it is. -/
theorem rank_left {p q : Int} {k : Nat} (h1 : 1 ≤ k) (h : Apart (k : Int) q) (n : Nat) (hn : 1 ≤ n) (hr : n ≤ rankN p q k) : (row p q 0 1 n % (k : Int) == 0) = decide (n = rankN p q k) := by
  obtain ⟨a, b, _, d⟩ := rankN_spec (p := p) k h1 h
  rw [Bool.eq_iff_iff, left_zero_iff, decide_eq_true_iff]
  constructor
  · intro hd
    rcases Nat.lt_or_ge n (rankN p q k) with hlt | hge
    · exact absurd hd (d n hn hlt)
    · omega
  · rintro rfl; exact a
set_option maxRecDepth 100000 in
set_option maxHeartbeats 4000000 in
theorem specRank_any (p q m : Int) (w : World) : Calls Try.prog 51 #[pr p q, .int .i64 m] w fun e w' => e = .returned (.tuple #[.int .i64 (rankV p q m), .bool (rankB p q m)]) ∧ Below w.heap.size w w' := by
  cases h : rankB p q m with
  | true =>
    obtain ⟨hp, hq, hm, hg, k, rfl, k1, k2, ha⟩ := rankB_true h
    obtain ⟨⟨r1, r2⟩, r3, r4⟩ := pairB_true hp
    obtain ⟨b1, b2⟩ := rank_bd (p := p) k1 k2 ha
    have HV := Lib.hid (rankV_is h)
    have HL := Lib.hid (rank_left (p := p) k1 ha)
    obtain ⟨R, hR⟩ : ∃ R, rankN p q k = R := ⟨_, rfl⟩
    rw [hR] at b1 b2 HL HV
    have HP := Lib.hid hp
    have HM := Lib.hid hm
    have hqz : (q == 0) = false := by simpa using hq
    have hz : ((k : Int) == 0) = false := by simp; omega
    have hgz : (((Int.gcd q (k : Int) : Nat) : Int)) = 1 := by rw [hg]; rfl
    have HG := Lib.hid hgz
    have m1 : (1 : Int) ≤ (k : Int) := by omega
    have m3 : (k : Int) ≤ 1000000000000 := by omega
    have E2 := Lib.hid (show p % (k : Int) = row p q 0 1 2 % (k : Int) by simp [row])
    have E1 := Lib.hid (show (1 : Int) % (k : Int) = row p q 0 1 1 % (k : Int) by simp [row])
    clear hp hm h hR hg hgz ha
    go_enter Try.func51, Try.ntmps51
    go_wp2_with fail
    refine (specPairOk_yes p q _ HP.out).mono ?_
    rintro e w1 ⟨rfl, hh1⟩
    obtain ⟨hc1, hf1⟩ := bcell hh1
    have hz1 := hh1.size
    try simp only [World.size_alloc] at hz1
    have hz1_0 : w.heap.size < w1.heap.size := by omega
    have kb1_0_0 : w1.cell? ⟨w.heap.size, 0, none⟩ = some (.int .i64 p) := by go_simp
    have kf1_0_0 : w1.frozen? ⟨w.heap.size, 0, none⟩ = false := by go_simp
    have kb1_0_1 : w1.cell? ⟨w.heap.size, 1, none⟩ = some (.int .i64 q) := by go_simp
    have kf1_0_1 : w1.frozen? ⟨w.heap.size, 1, none⟩ = false := by go_simp
    clear hc1 hf1
    go_wp2_with fail
    refine (l1In_yes _ 1 400 _ HM.out).mono ?_
    rintro e wx ⟨rfl, rfl⟩
    go_wp2_with fail
    refine (l1Common_is q _ 1 _ (by omega) (by omega) (by omega) (by omega) HG.out).mono ?_
    rintro e wx ⟨rfl, rfl⟩
    go_wp2_with fail
    refine (l3Left_at _ _ _ _ m1 m3 E2.out).mono ?_
    rintro e wx ⟨rfl, rfl⟩
    go_wp2_with fail
    go_loop [6, 7, 8] (fun x y c => ∃ n : Nat, 1 ≤ n ∧ n ≤ R ∧ x = .int .i64 (row p q 0 1 n % (k : Int)) ∧ y = .int .i64 (row p q 0 1 (n + 1) % (k : Int)) ∧ c = .int .i64 n) (fun _ _ c => R - (intOf c).toNat)
    case atStart => exact ⟨1, Nat.le_refl _, b1, congrArg (Value.int .i64) E1.out, rfl, rfl⟩
    case round =>
      obtain ⟨n, n1, n2, rfl, rfl, rfl⟩ := hrel
      by_cases he : n = R
      · have ht : (row p q 0 1 n % (k : Int) == 0) = true := by rw [HL.out n n1 n2]; simpa using he
        have HE := Lib.hid he
        clear he
        rw [beq_iff_eq] at ht
        go_wp2
        go_ret2
        exact ⟨ret_int_bool (by rw [HV.out, HE.out]) rfl, by (repeat (first | exact Below.refl _ _ | refine Below.setCell ?_ (by first | omega | (simp <;> omega)) _ | refine Below.alloc ?_ (by first | omega | (simp <;> omega)) _ | refine Below.drew ?_ | refine Below.trans ?_ (Below.mono (by assumption) (by first | omega | (simp <;> omega))) | refine Below.grown ?_ (by assumption) (by first | omega | (simp <;> omega)) (fun k e => by cases e; first | omega | (simp <;> omega))))⟩
      · have ht : (row p q 0 1 n % (k : Int) == 0) = false := by rw [HL.out n n1 n2]; simpa using he
        obtain ⟨a0, a1⟩ := left_bd (row p q 0 1 n) k m1
        obtain ⟨c0, c1⟩ := left_bd (row p q 0 1 (n + 1)) k m1
        obtain ⟨x1, x2⟩ := mul_bd (b := 400) r1 r2 (show -400 ≤ row p q 0 1 (n + 1) % (k : Int) by omega) (by omega)
        obtain ⟨x3, x4⟩ := mul_bd (b := 400) r3 r4 (show -400 ≤ row p q 0 1 n % (k : Int) by omega) (by omega)
        have E := Lib.hid (far_next p q k n)
        go_wp2_with fail
        refine (l3Left_at _ _ _ _ m1 m3 E.out).mono ?_
        rintro e wx ⟨rfl, rfl⟩
        go_wp2
        go_round
        case rel => exact ⟨n + 1, by omega, by omega, rfl, rfl, congrArg (Value.int .i64) (by omega)⟩
        case measure => simp [intOf]; omega
  | false =>
    have HV := Lib.hid (show rankV p q m = -1 by rw [rankV, if_neg (by simp [h])])
    rcases rankB_ways h with hp | ⟨hp, hq⟩ | ⟨hp, hq, hm⟩ | ⟨hp, hq, hm, hg⟩
    · have HP := Lib.hid hp
      clear hp h
      go_enter Try.func51, Try.ntmps51
      go_wp2_with fail
      refine (specPairOk_no p q _ HP.out).mono ?_
      rintro e w1 ⟨rfl, hh1⟩
      obtain ⟨hc1, hf1⟩ := bcell hh1
      have hz1 := hh1.size
      try simp only [World.size_alloc] at hz1
      have hz1_0 : w.heap.size < w1.heap.size := by omega
      have kb1_0_0 : w1.cell? ⟨w.heap.size, 0, none⟩ = some (.int .i64 p) := by go_simp
      have kf1_0_0 : w1.frozen? ⟨w.heap.size, 0, none⟩ = false := by go_simp
      have kb1_0_1 : w1.cell? ⟨w.heap.size, 1, none⟩ = some (.int .i64 q) := by go_simp
      have kf1_0_1 : w1.frozen? ⟨w.heap.size, 1, none⟩ = false := by go_simp
      clear hc1 hf1
      go_wp2
      go_ret2
      exact ⟨ret_int_bool HV.out.symm rfl, by (repeat (first | exact Below.refl _ _ | refine Below.setCell ?_ (by first | omega | (simp <;> omega)) _ | refine Below.alloc ?_ (by first | omega | (simp <;> omega)) _ | refine Below.drew ?_ | refine Below.trans ?_ (Below.mono (by assumption) (by first | omega | (simp <;> omega))) | refine Below.grown ?_ (by assumption) (by first | omega | (simp <;> omega)) (fun k e => by cases e; first | omega | (simp <;> omega))))⟩
    · have HP := Lib.hid hp
      have hqz : (q == 0) = true := by simpa using hq
      clear hp h hq
      go_enter Try.func51, Try.ntmps51
      go_wp2_with fail
      refine (specPairOk_yes p q _ HP.out).mono ?_
      rintro e w1 ⟨rfl, hh1⟩
      obtain ⟨hc1, hf1⟩ := bcell hh1
      have hz1 := hh1.size
      try simp only [World.size_alloc] at hz1
      have hz1_0 : w.heap.size < w1.heap.size := by omega
      have kb1_0_0 : w1.cell? ⟨w.heap.size, 0, none⟩ = some (.int .i64 p) := by go_simp
      have kf1_0_0 : w1.frozen? ⟨w.heap.size, 0, none⟩ = false := by go_simp
      have kb1_0_1 : w1.cell? ⟨w.heap.size, 1, none⟩ = some (.int .i64 q) := by go_simp
      have kf1_0_1 : w1.frozen? ⟨w.heap.size, 1, none⟩ = false := by go_simp
      clear hc1 hf1
      go_wp2
      go_ret2
      exact ⟨ret_int_bool HV.out.symm rfl, by (repeat (first | exact Below.refl _ _ | refine Below.setCell ?_ (by first | omega | (simp <;> omega)) _ | refine Below.alloc ?_ (by first | omega | (simp <;> omega)) _ | refine Below.drew ?_ | refine Below.trans ?_ (Below.mono (by assumption) (by first | omega | (simp <;> omega))) | refine Below.grown ?_ (by assumption) (by first | omega | (simp <;> omega)) (fun k e => by cases e; first | omega | (simp <;> omega))))⟩
    · have HP := Lib.hid hp
      have HM := Lib.hid hm
      have hqz : (q == 0) = false := by simpa using hq
      clear hp h hm
      go_enter Try.func51, Try.ntmps51
      go_wp2_with fail
      refine (specPairOk_yes p q _ HP.out).mono ?_
      rintro e w1 ⟨rfl, hh1⟩
      obtain ⟨hc1, hf1⟩ := bcell hh1
      have hz1 := hh1.size
      try simp only [World.size_alloc] at hz1
      have hz1_0 : w.heap.size < w1.heap.size := by omega
      have kb1_0_0 : w1.cell? ⟨w.heap.size, 0, none⟩ = some (.int .i64 p) := by go_simp
      have kf1_0_0 : w1.frozen? ⟨w.heap.size, 0, none⟩ = false := by go_simp
      have kb1_0_1 : w1.cell? ⟨w.heap.size, 1, none⟩ = some (.int .i64 q) := by go_simp
      have kf1_0_1 : w1.frozen? ⟨w.heap.size, 1, none⟩ = false := by go_simp
      clear hc1 hf1
      go_wp2_with fail
      refine (l1In_no _ 1 400 _ HM.out).mono ?_
      rintro e wx ⟨rfl, rfl⟩
      go_wp2
      go_ret2
      exact ⟨ret_int_bool HV.out.symm rfl, by (repeat (first | exact Below.refl _ _ | refine Below.setCell ?_ (by first | omega | (simp <;> omega)) _ | refine Below.alloc ?_ (by first | omega | (simp <;> omega)) _ | refine Below.drew ?_ | refine Below.trans ?_ (Below.mono (by assumption) (by first | omega | (simp <;> omega))) | refine Below.grown ?_ (by assumption) (by first | omega | (simp <;> omega)) (fun k e => by cases e; first | omega | (simp <;> omega))))⟩
    · have HP := Lib.hid hp
      have HM := Lib.hid hm
      obtain ⟨m1, m2⟩ := inB_true hm
      obtain ⟨⟨r1, r2⟩, r3, r4⟩ := pairB_true hp
      have hqz : (q == 0) = false := by simpa using hq
      have hgz : (((Int.gcd q m : Nat) : Int) == 1) = false := by simp; omega
      clear hp h hm
      go_enter Try.func51, Try.ntmps51
      go_wp2_with fail
      refine (specPairOk_yes p q _ HP.out).mono ?_
      rintro e w1 ⟨rfl, hh1⟩
      obtain ⟨hc1, hf1⟩ := bcell hh1
      have hz1 := hh1.size
      try simp only [World.size_alloc] at hz1
      have hz1_0 : w.heap.size < w1.heap.size := by omega
      have kb1_0_0 : w1.cell? ⟨w.heap.size, 0, none⟩ = some (.int .i64 p) := by go_simp
      have kf1_0_0 : w1.frozen? ⟨w.heap.size, 0, none⟩ = false := by go_simp
      have kb1_0_1 : w1.cell? ⟨w.heap.size, 1, none⟩ = some (.int .i64 q) := by go_simp
      have kf1_0_1 : w1.frozen? ⟨w.heap.size, 1, none⟩ = false := by go_simp
      clear hc1 hf1
      go_wp2_with fail
      refine (l1In_yes _ 1 400 _ HM.out).mono ?_
      rintro e wx ⟨rfl, rfl⟩
      go_wp2_with fail
      refine (l1Common_at q m _ (by omega) (by omega) (by omega) (by omega)).mono ?_
      rintro e wx ⟨rfl, rfl⟩
      go_wp2
      go_ret2
      exact ⟨ret_int_bool HV.out.symm rfl, by (repeat (first | exact Below.refl _ _ | refine Below.setCell ?_ (by first | omega | (simp <;> omega)) _ | refine Below.alloc ?_ (by first | omega | (simp <;> omega)) _ | refine Below.drew ?_ | refine Below.trans ?_ (Below.mono (by assumption) (by first | omega | (simp <;> omega))) | refine Below.grown ?_ (by assumption) (by first | omega | (simp <;> omega)) (fun k e => by cases e; first | omega | (simp <;> omega))))⟩
theorem specRank_is (p q m v : Int) (c : Bool) (w : World) (hv : rankV p q m = v) (hc : rankB p q m = c) : Calls Try.prog 51 #[pr p q, .int .i64 m] w fun e w' => e = .returned (.tuple #[.int .i64 v, .bool c]) ∧ Below w.heap.size w w' := by rw [← hv, ← hc]; exact specRank_any p q m w
end Go.Proofs.Ytpogmnkedohdcaa
namespace Go.Proofs.Ytpogmnkedohdcaa
open Go.RowKit
/-- Whether a number divides at a place; the numbers of a rank; the least number that two numbers divide. -/
def dividesB (p q m n : Int) : Bool := rankB p q m && (inB n 0 1000000000 && decide (rankN p q m.toNat ∣ n.toNat))
def sameB (p q : Int) (n j : Nat) : Bool := decide (1 ≤ j) && (rankB p q (j : Int) && decide (rankN p q j = n))
def sameL (p q n : Int) : List Nat := if inB n 1 200 = true then holdL (sameB p q n.toNat) 101 else []
def leastB (a b : Int) : Bool := inB a 1 200000 && inB b 1 200000
def leastV (a b : Int) : Int := if leastB a b = true then (Nat.lcm a.toNat b.toNat : Int) else -1
theorem div_test (k R : Nat) : ((k : Int) % (R : Int) == 0) = decide (R ∣ k) := by
  rw [Bool.eq_iff_iff, left_zero_iff, decide_eq_true_iff]
  exact Int.natCast_dvd_natCast
theorem lcm_le (i j : Nat) : Nat.lcm i j ≤ i * j := Nat.div_le_self _ _
theorem sameB_test (p q : Int) (n j : Nat) (hj : 1 ≤ j) : sameB p q n j = (rankB p q j && (rankV p q j == (n : Int))) := by
  cases h : rankB p q j with
  | false => simp [sameB, h]
  | true =>
    have e : ((rankN p q j : Int) == (n : Int)) = decide (rankN p q j = n) := by rw [Bool.eq_iff_iff, beq_iff_eq, decide_eq_true_iff]; omega
    rw [rankV_is h, e]
    simp [sameB, h, hj]
end Go.Proofs.Ytpogmnkedohdcaa
namespace Go.Proofs.Ytpogmnkedohdcaa
open Go.RowKit
def periodV (p q m : Int) : Int := if rankB p q m = true then (periodN p q m.toNat : Int) else -1
def loopsV (p q m : Int) : Int := if rankB p q m = true then (loopsN p q m.toNat : Int) else -1
def stepOfV (p q m : Int) : Int := if rankB p q m = true then stepV p q m.toNat else -1
def shiftedB (p q n m : Int) : Bool := rankB p q m && inB n 0 1000000000
def shiftedV (p q n m : Int) : Int := if shiftedB p q n m = true then row p q 0 1 n.toNat % m else -1
theorem periodV_is {p q : Int} {k : Nat} (h : rankB p q k = true) : periodV p q k = (periodN p q k : Int) := by rw [periodV, if_pos h]; rfl
theorem loopsV_is {p q : Int} {k : Nat} (h : rankB p q k = true) : loopsV p q k = (loopsN p q k : Int) := by rw [loopsV, if_pos h]; rfl
theorem stepOfV_is {p q : Int} {k : Nat} (h : rankB p q k = true) : stepOfV p q k = stepV p q k := by rw [stepOfV, if_pos h]; rfl
theorem periodV_no {p q m : Int} (h : rankB p q m = false) : periodV p q m = -1 := by rw [periodV, if_neg (by simp [h])]
theorem loopsV_no {p q m : Int} (h : rankB p q m = false) : loopsV p q m = -1 := by rw [loopsV, if_neg (by simp [h])]
theorem stepOfV_no {p q m : Int} (h : rankB p q m = false) : stepOfV p q m = -1 := by rw [stepOfV, if_neg (by simp [h])]
theorem shiftedV_no {p q n m : Int} (h : shiftedB p q n m = false) : shiftedV p q n m = -1 := by rw [shiftedV, if_neg (by simp [h])]
theorem period_bd {p q : Int} {k : Nat} (h1 : 1 ≤ k) (h2 : k ≤ 400) (h : Apart (k : Int) q) : 1 ≤ periodN p q k ∧ periodN p q k ≤ 160000 := by
  obtain ⟨_, a, b, _⟩ := periodN_spec (p := p) k h1 h
  exact ⟨a, Nat.le_trans b (Nat.mul_le_mul h2 h2)⟩
/-- Before the period what is left is not that of 0 and of 1; at the period it is. -/
theorem period_left {p q : Int} {k : Nat} (h1 : 1 ≤ k) (h : Apart (k : Int) q) (n : Nat) (hn : 1 ≤ n) (hr : n ≤ periodN p q k) : (row p q 0 1 n % (k : Int) == 0 && row p q 0 1 (n + 1) % (k : Int) == 1 % (k : Int)) = decide (n = periodN p q k) := by
  obtain ⟨a, b, _, d⟩ := periodN_spec (p := p) k h1 h
  rw [Bool.eq_iff_iff, again_iff, decide_eq_true_iff]
  constructor
  · intro hd
    rcases Nat.lt_or_ge n (periodN p q k) with hlt | hge
    · exact absurd hd (d n hn hlt)
    · omega
  · rintro rfl; exact a
/-- Far on by ranks: what is left at a place. -/
theorem shifted_is {p q : Int} {k : Nat} (h1 : 1 ≤ k) (h : Apart (k : Int) q) (n : Nat) : (stepV p q k ^ (n / rankN p q k) % (k : Int)) * (row p q 0 1 (n % rankN p q k) % (k : Int)) % (k : Int) = row p q 0 1 n % (k : Int) := by
  obtain ⟨a, _, _, _⟩ := rankN_spec (p := p) k h1 h
  have e := step_pow a (n % rankN p q k) (n / rankN p q k)
  rw [show n / rankN p q k * rankN p q k + n % rankN p q k = n by rw [Nat.mul_comm]; exact Nat.div_add_mod n _] at e
  refine Eqm.left ?_
  refine Eqm.trans ?_ e.symm
  exact ((eqm_left _ _).trans ((eqm_left _ _).pow _)).mul (eqm_left _ _)
set_option maxRecDepth 100000 in
set_option maxHeartbeats 4000000 in
theorem specPeriod_any (p q m : Int) (w : World) : Calls Try.prog 50 #[pr p q, .int .i64 m] w fun e w' => e = .returned (.tuple #[.int .i64 (periodV p q m), .bool (rankB p q m)]) ∧ Below w.heap.size w w' := by
  cases h : rankB p q m with
  | false =>
    have HV := Lib.hid (periodV_no h)
    have HB := Lib.hid h
    clear h
    go_enter Try.func50, Try.ntmps50
    go_wp2_with fail
    refine (specRank_is p q m _ false _ rfl HB.out).mono ?_
    rintro e w1 ⟨rfl, hh1⟩
    obtain ⟨hc1, hf1⟩ := bcell hh1
    have hz1 := hh1.size
    try simp only [World.size_alloc] at hz1
    have hz1_0 : w.heap.size < w1.heap.size := by omega
    have kb1_0_0 : w1.cell? ⟨w.heap.size, 0, none⟩ = some (.int .i64 p) := by go_simp
    have kf1_0_0 : w1.frozen? ⟨w.heap.size, 0, none⟩ = false := by go_simp
    have kb1_0_1 : w1.cell? ⟨w.heap.size, 1, none⟩ = some (.int .i64 q) := by go_simp
    have kf1_0_1 : w1.frozen? ⟨w.heap.size, 1, none⟩ = false := by go_simp
    clear hc1 hf1
    go_wp2
    go_ret2
    exact ⟨ret_int_bool HV.out.symm rfl, by (repeat (first | exact Below.refl _ _ | refine Below.setCell ?_ (by first | omega | (simp <;> omega)) _ | refine Below.alloc ?_ (by first | omega | (simp <;> omega)) _ | refine Below.drew ?_ | refine Below.trans ?_ (Below.mono (by assumption) (by first | omega | (simp <;> omega))) | refine Below.grown ?_ (by assumption) (by first | omega | (simp <;> omega)) (fun k e => by cases e; first | omega | (simp <;> omega))))⟩
  | true =>
    obtain ⟨hp, _, _, _, k, rfl, k1, k2, ha⟩ := rankB_true h
    obtain ⟨⟨r1, r2⟩, r3, r4⟩ := pairB_true hp
    obtain ⟨b1, b2⟩ := period_bd (p := p) k1 k2 ha
    have HV := Lib.hid (periodV_is h)
    have HL := Lib.hid (period_left (p := p) k1 ha)
    obtain ⟨R, hR⟩ : ∃ R, periodN p q k = R := ⟨_, rfl⟩
    rw [hR] at b1 b2 HL HV
    have HB := Lib.hid h
    have hz : ((k : Int) == 0) = false := by simp; omega
    have m1 : (1 : Int) ≤ (k : Int) := by omega
    have m3 : (k : Int) ≤ 1000000000000 := by omega
    have E2 := Lib.hid (show p % (k : Int) = row p q 0 1 2 % (k : Int) by simp [row])
    have E1 := Lib.hid (show (1 : Int) % (k : Int) = row p q 0 1 1 % (k : Int) by simp [row])
    clear hp h hR ha
    go_enter Try.func50, Try.ntmps50
    go_wp2_with fail
    refine (specRank_is p q k _ true _ rfl HB.out).mono ?_
    rintro e w1 ⟨rfl, hh1⟩
    obtain ⟨hc1, hf1⟩ := bcell hh1
    have hz1 := hh1.size
    try simp only [World.size_alloc] at hz1
    have hz1_0 : w.heap.size < w1.heap.size := by omega
    have kb1_0_0 : w1.cell? ⟨w.heap.size, 0, none⟩ = some (.int .i64 p) := by go_simp
    have kf1_0_0 : w1.frozen? ⟨w.heap.size, 0, none⟩ = false := by go_simp
    have kb1_0_1 : w1.cell? ⟨w.heap.size, 1, none⟩ = some (.int .i64 q) := by go_simp
    have kf1_0_1 : w1.frozen? ⟨w.heap.size, 1, none⟩ = false := by go_simp
    clear hc1 hf1
    go_wp2_with fail
    refine (l3Left_at _ _ _ _ m1 m3 E2.out).mono ?_
    rintro e wx ⟨rfl, rfl⟩
    go_wp2_with fail
    go_loop [8, 9, 10] (fun x y c => ∃ n : Nat, 1 ≤ n ∧ n ≤ R ∧ x = .int .i64 (row p q 0 1 n % (k : Int)) ∧ y = .int .i64 (row p q 0 1 (n + 1) % (k : Int)) ∧ c = .int .i64 n) (fun _ _ c => R - (intOf c).toNat)
    case atStart => exact ⟨1, Nat.le_refl _, b1, congrArg (Value.int .i64) E1.out, rfl, rfl⟩
    case round =>
      obtain ⟨n, n1, n2, rfl, rfl, rfl⟩ := hrel
      by_cases he : n = R
      · have hb := HL.out n n1 n2
        rw [decide_eq_true he, Bool.and_eq_true] at hb
        obtain ⟨hb1, hb2⟩ := hb
        have ht1 : (row p q 0 1 n % (k : Int) != 0) = false := by rw [bne, hb1]; rfl
        have ht2 : (row p q 0 1 (n + 1) % (k : Int) != 1 % (k : Int)) = false := by rw [bne, hb2]; rfl
        have HE := Lib.hid he
        clear he hb1 hb2
        go_wp2
        go_ret2
        exact ⟨ret_int_bool (by rw [HV.out, HE.out]) rfl, by (repeat (first | exact Below.refl _ _ | refine Below.setCell ?_ (by first | omega | (simp <;> omega)) _ | refine Below.alloc ?_ (by first | omega | (simp <;> omega)) _ | refine Below.drew ?_ | refine Below.trans ?_ (Below.mono (by assumption) (by first | omega | (simp <;> omega))) | refine Below.grown ?_ (by assumption) (by first | omega | (simp <;> omega)) (fun k e => by cases e; first | omega | (simp <;> omega))))⟩
      · have hb := HL.out n n1 n2
        rw [decide_eq_false he] at hb
        obtain ⟨a0, a1⟩ := left_bd (row p q 0 1 n) k m1
        obtain ⟨c0, c1⟩ := left_bd (row p q 0 1 (n + 1)) k m1
        obtain ⟨x1, x2⟩ := mul_bd (b := 400) r1 r2 (show -400 ≤ row p q 0 1 (n + 1) % (k : Int) by omega) (by omega)
        obtain ⟨x3, x4⟩ := mul_bd (b := 400) r3 r4 (show -400 ≤ row p q 0 1 n % (k : Int) by omega) (by omega)
        have E := Lib.hid (far_next p q k n)
        cases hz1 : (row p q 0 1 n % (k : Int) == 0) with
        | true =>
          rw [hz1, Bool.true_and] at hb
          have ht1 : (row p q 0 1 n % (k : Int) != 0) = false := by rw [bne, hz1]; rfl
          have ht2 : (row p q 0 1 (n + 1) % (k : Int) != 1 % (k : Int)) = true := by rw [bne, hb]; rfl
          clear hb hz1
          go_wp2_with fail
          refine (l3Left_at _ _ _ _ m1 m3 E.out).mono ?_
          rintro e wx ⟨rfl, rfl⟩
          go_wp2
          go_round
          case rel => exact ⟨n + 1, by omega, by omega, rfl, rfl, congrArg (Value.int .i64) (by omega)⟩
          case measure => simp [intOf]; omega
        | false =>
          have ht1 : (row p q 0 1 n % (k : Int) != 0) = true := by rw [bne, hz1]; rfl
          clear hb hz1
          go_wp2_with fail
          refine (l3Left_at _ _ _ _ m1 m3 E.out).mono ?_
          rintro e wx ⟨rfl, rfl⟩
          go_wp2
          go_round
          case rel => exact ⟨n + 1, by omega, by omega, rfl, rfl, congrArg (Value.int .i64) (by omega)⟩
          case measure => simp [intOf]; omega
theorem specPeriod_is (p q m v : Int) (c : Bool) (w : World) (hv : periodV p q m = v) (hc : rankB p q m = c) : Calls Try.prog 50 #[pr p q, .int .i64 m] w fun e w' => e = .returned (.tuple #[.int .i64 v, .bool c]) ∧ Below w.heap.size w w' := by rw [← hv, ← hc]; exact specPeriod_any p q m w
set_option maxHeartbeats 4000000 in
theorem specLoops_any (p q m : Int) (w : World) : Calls Try.prog 22 #[pr p q, .int .i64 m] w fun e w' => e = .returned (.tuple #[.int .i64 (loopsV p q m), .bool (rankB p q m)]) ∧ Below w.heap.size w w' := by
  cases h : rankB p q m with
  | false =>
    have HV := Lib.hid (loopsV_no h)
    have HP := Lib.hid (periodV_no h)
    have HB := Lib.hid h
    clear h
    go_enter Try.func22, Try.ntmps22
    go_wp2_with fail
    refine (specPeriod_is p q m _ false _ HP.out HB.out).mono ?_
    rintro e w1 ⟨rfl, hh1⟩
    obtain ⟨hc1, hf1⟩ := bcell hh1
    have hz1 := hh1.size
    try simp only [World.size_alloc] at hz1
    have hz1_0 : w.heap.size < w1.heap.size := by omega
    have kb1_0_0 : w1.cell? ⟨w.heap.size, 0, none⟩ = some (.int .i64 p) := by go_simp
    have kf1_0_0 : w1.frozen? ⟨w.heap.size, 0, none⟩ = false := by go_simp
    have kb1_0_1 : w1.cell? ⟨w.heap.size, 1, none⟩ = some (.int .i64 q) := by go_simp
    have kf1_0_1 : w1.frozen? ⟨w.heap.size, 1, none⟩ = false := by go_simp
    clear hc1 hf1
    go_wp2_with fail
    refine (specRank_is p q m _ false _ rfl HB.out).mono ?_
    rintro e w2 ⟨rfl, hh2⟩
    obtain ⟨hc2, hf2⟩ := bcell hh2
    have hz2 := hh2.size
    try simp only [World.size_alloc] at hz2
    have hz2_0 : w.heap.size < w2.heap.size := by omega
    have kb2_0_0 : w2.cell? ⟨w.heap.size, 0, none⟩ = some (.int .i64 p) := by go_simp
    have kf2_0_0 : w2.frozen? ⟨w.heap.size, 0, none⟩ = false := by go_simp
    have kb2_0_1 : w2.cell? ⟨w.heap.size, 1, none⟩ = some (.int .i64 q) := by go_simp
    have kf2_0_1 : w2.frozen? ⟨w.heap.size, 1, none⟩ = false := by go_simp
    clear hc2 hf2
    go_wp2
    go_ret2
    exact ⟨ret_int_bool HV.out.symm rfl, by (repeat (first | exact Below.refl _ _ | refine Below.setCell ?_ (by first | omega | (simp <;> omega)) _ | refine Below.alloc ?_ (by first | omega | (simp <;> omega)) _ | refine Below.drew ?_ | refine Below.trans ?_ (Below.mono (by assumption) (by first | omega | (simp <;> omega))) | refine Below.grown ?_ (by assumption) (by first | omega | (simp <;> omega)) (fun k e => by cases e; first | omega | (simp <;> omega))))⟩
  | true =>
    obtain ⟨hp, _, _, _, k, rfl, k1, k2, ha⟩ := rankB_true h
    obtain ⟨b1, b2⟩ := period_bd (p := p) k1 k2 ha
    obtain ⟨c1, c2⟩ := rank_bd (p := p) k1 k2 ha
    have HP := Lib.hid (periodV_is h)
    have HR := Lib.hid (rankV_is h)
    have HV := Lib.hid (loopsV_is h)
    have HB := Lib.hid h
    have HQ := Lib.hid (show ((periodN p q k : Nat) : Int) / ((rankN p q k : Nat) : Int) = (loopsN p q k : Int) by simp [loopsN])
    obtain ⟨X, hX⟩ : ∃ X, periodN p q k = X := ⟨_, rfl⟩
    obtain ⟨R, hR⟩ : ∃ R, rankN p q k = R := ⟨_, rfl⟩
    have hlb' := b2
    rw [hX] at b1 b2 HP HQ
    rw [hR] at c1 c2 HR HQ
    have hz : ((R : Int) == 0) = false := by simp; omega
    have hlb : loopsN p q k ≤ 160000 := Nat.le_trans (Nat.div_le_self _ _) (by omega)
    have U : IntKind.i64.wrap ((X : Int) / (R : Int)) = (X : Int) / (R : Int) := by rw [HQ.out, IntKind.wrap_i64]; omega
    clear h hp hX hR ha hlb hlb'
    go_enter Try.func22, Try.ntmps22
    go_wp2_with fail
    refine (specPeriod_is p q k X true _ HP.out HB.out).mono ?_
    rintro e w1 ⟨rfl, hh1⟩
    obtain ⟨hc1, hf1⟩ := bcell hh1
    have hz1 := hh1.size
    try simp only [World.size_alloc] at hz1
    have hz1_0 : w.heap.size < w1.heap.size := by omega
    have kb1_0_0 : w1.cell? ⟨w.heap.size, 0, none⟩ = some (.int .i64 p) := by go_simp
    have kf1_0_0 : w1.frozen? ⟨w.heap.size, 0, none⟩ = false := by go_simp
    have kb1_0_1 : w1.cell? ⟨w.heap.size, 1, none⟩ = some (.int .i64 q) := by go_simp
    have kf1_0_1 : w1.frozen? ⟨w.heap.size, 1, none⟩ = false := by go_simp
    clear hc1 hf1
    go_wp2_with fail
    refine (specRank_is p q k R true _ HR.out HB.out).mono ?_
    rintro e w2 ⟨rfl, hh2⟩
    obtain ⟨hc2, hf2⟩ := bcell hh2
    have hz2 := hh2.size
    try simp only [World.size_alloc] at hz2
    have hz2_0 : w.heap.size < w2.heap.size := by omega
    have kb2_0_0 : w2.cell? ⟨w.heap.size, 0, none⟩ = some (.int .i64 p) := by go_simp
    have kf2_0_0 : w2.frozen? ⟨w.heap.size, 0, none⟩ = false := by go_simp
    have kb2_0_1 : w2.cell? ⟨w.heap.size, 1, none⟩ = some (.int .i64 q) := by go_simp
    have kf2_0_1 : w2.frozen? ⟨w.heap.size, 1, none⟩ = false := by go_simp
    clear hc2 hf2
    go_wp2
    go_ret2
    exact ⟨ret_int_bool (by rw [HV.out, ← HQ.out]) rfl, by (repeat (first | exact Below.refl _ _ | refine Below.setCell ?_ (by first | omega | (simp <;> omega)) _ | refine Below.alloc ?_ (by first | omega | (simp <;> omega)) _ | refine Below.drew ?_ | refine Below.trans ?_ (Below.mono (by assumption) (by first | omega | (simp <;> omega))) | refine Below.grown ?_ (by assumption) (by first | omega | (simp <;> omega)) (fun k e => by cases e; first | omega | (simp <;> omega))))⟩
theorem specLoops_is (p q m v : Int) (c : Bool) (w : World) (hv : loopsV p q m = v) (hc : rankB p q m = c) : Calls Try.prog 22 #[pr p q, .int .i64 m] w fun e w' => e = .returned (.tuple #[.int .i64 v, .bool c]) ∧ Below w.heap.size w w' := by rw [← hv, ← hc]; exact specLoops_any p q m w
set_option maxHeartbeats 4000000 in
theorem specStep_any (p q m : Int) (w : World) : Calls Try.prog 25 #[pr p q, .int .i64 m] w fun e w' => e = .returned (.tuple #[.int .i64 (stepOfV p q m), .bool (rankB p q m)]) ∧ Below w.heap.size w w' := by
  cases h : rankB p q m with
  | false =>
    have HV := Lib.hid (stepOfV_no h)
    have HB := Lib.hid h
    clear h
    go_enter Try.func25, Try.ntmps25
    go_wp2_with fail
    refine (specRank_is p q m _ false _ rfl HB.out).mono ?_
    rintro e w1 ⟨rfl, hh1⟩
    obtain ⟨hc1, hf1⟩ := bcell hh1
    have hz1 := hh1.size
    try simp only [World.size_alloc] at hz1
    have hz1_0 : w.heap.size < w1.heap.size := by omega
    have kb1_0_0 : w1.cell? ⟨w.heap.size, 0, none⟩ = some (.int .i64 p) := by go_simp
    have kf1_0_0 : w1.frozen? ⟨w.heap.size, 0, none⟩ = false := by go_simp
    have kb1_0_1 : w1.cell? ⟨w.heap.size, 1, none⟩ = some (.int .i64 q) := by go_simp
    have kf1_0_1 : w1.frozen? ⟨w.heap.size, 1, none⟩ = false := by go_simp
    clear hc1 hf1
    go_wp2
    go_ret2
    exact ⟨ret_int_bool HV.out.symm rfl, by (repeat (first | exact Below.refl _ _ | refine Below.setCell ?_ (by first | omega | (simp <;> omega)) _ | refine Below.alloc ?_ (by first | omega | (simp <;> omega)) _ | refine Below.drew ?_ | refine Below.trans ?_ (Below.mono (by assumption) (by first | omega | (simp <;> omega))) | refine Below.grown ?_ (by assumption) (by first | omega | (simp <;> omega)) (fun k e => by cases e; first | omega | (simp <;> omega))))⟩
  | true =>
    obtain ⟨hp, _, _, _, k, rfl, k1, k2, ha⟩ := rankB_true h
    obtain ⟨c1, c2⟩ := rank_bd (p := p) k1 k2 ha
    have HR := Lib.hid (rankV_is h)
    have HV := Lib.hid (stepOfV_is h)
    have HB := Lib.hid h
    have HP := Lib.hid hp
    have HS := Lib.hid (show row p q 0 1 (rankN p q k + 1) % (k : Int) = stepV p q k from rfl)
    obtain ⟨R, hR⟩ : ∃ R, rankN p q k = R := ⟨_, rfl⟩
    rw [hR] at c1 c2 HR HS
    clear h hp hR ha
    go_enter Try.func25, Try.ntmps25
    go_wp2_with fail
    refine (specRank_is p q k R true _ HR.out HB.out).mono ?_
    rintro e w1 ⟨rfl, hh1⟩
    obtain ⟨hc1, hf1⟩ := bcell hh1
    have hz1 := hh1.size
    try simp only [World.size_alloc] at hz1
    have hz1_0 : w.heap.size < w1.heap.size := by omega
    have kb1_0_0 : w1.cell? ⟨w.heap.size, 0, none⟩ = some (.int .i64 p) := by go_simp
    have kf1_0_0 : w1.frozen? ⟨w.heap.size, 0, none⟩ = false := by go_simp
    have kb1_0_1 : w1.cell? ⟨w.heap.size, 1, none⟩ = some (.int .i64 q) := by go_simp
    have kf1_0_1 : w1.frozen? ⟨w.heap.size, 1, none⟩ = false := by go_simp
    clear hc1 hf1
    go_wp2_with fail
    refine (specFarFirst_at p q k (R + 1) _ _ _ (by omega) HP.out (by omega) (by omega) (by omega) HS.out).mono ?_
    rintro e w2 ⟨rfl, hh2⟩
    obtain ⟨hc2, hf2⟩ := bcell hh2
    have hz2 := hh2.size
    try simp only [World.size_alloc] at hz2
    have hz2_0 : w.heap.size < w2.heap.size := by omega
    have kb2_0_0 : w2.cell? ⟨w.heap.size, 0, none⟩ = some (.int .i64 p) := by go_simp
    have kf2_0_0 : w2.frozen? ⟨w.heap.size, 0, none⟩ = false := by go_simp
    have kb2_0_1 : w2.cell? ⟨w.heap.size, 1, none⟩ = some (.int .i64 q) := by go_simp
    have kf2_0_1 : w2.frozen? ⟨w.heap.size, 1, none⟩ = false := by go_simp
    clear hc2 hf2
    go_wp2
    go_ret2
    exact ⟨ret_int_bool HV.out.symm rfl, by (repeat (first | exact Below.refl _ _ | refine Below.setCell ?_ (by first | omega | (simp <;> omega)) _ | refine Below.alloc ?_ (by first | omega | (simp <;> omega)) _ | refine Below.drew ?_ | refine Below.trans ?_ (Below.mono (by assumption) (by first | omega | (simp <;> omega))) | refine Below.grown ?_ (by assumption) (by first | omega | (simp <;> omega)) (fun k e => by cases e; first | omega | (simp <;> omega))))⟩
theorem specStep_is (p q m v : Int) (c : Bool) (w : World) (hv : stepOfV p q m = v) (hc : rankB p q m = c) : Calls Try.prog 25 #[pr p q, .int .i64 m] w fun e w' => e = .returned (.tuple #[.int .i64 v, .bool c]) ∧ Below w.heap.size w w' := by rw [← hv, ← hc]; exact specStep_any p q m w
end Go.Proofs.Ytpogmnkedohdcaa
namespace Go.Proofs.Ytpogmnkedohdcaa
open Go.RowKit
set_option maxHeartbeats 4000000 in
theorem specShifted_any (p q n m : Int) (w : World) : Calls Try.prog 29 #[pr p q, .int .i64 n, .int .i64 m] w fun e w' => e = .returned (.int .i64 (shiftedV p q n m)) ∧ Below w.heap.size w w' := by
  cases h : rankB p q m with
  | false =>
    have HV := Lib.hid (show shiftedV p q n m = -1 from shiftedV_no (by simp [shiftedB, h]))
    have HB := Lib.hid h
    clear h
    go_enter Try.func29, Try.ntmps29
    go_wp2_with fail
    refine (specRank_is p q m _ false _ rfl HB.out).mono ?_
    rintro e w1 ⟨rfl, hh1⟩
    obtain ⟨hc1, hf1⟩ := bcell hh1
    have hz1 := hh1.size
    try simp only [World.size_alloc] at hz1
    have hz1_0 : w.heap.size < w1.heap.size := by omega
    have kb1_0_0 : w1.cell? ⟨w.heap.size, 0, none⟩ = some (.int .i64 p) := by go_simp
    have kf1_0_0 : w1.frozen? ⟨w.heap.size, 0, none⟩ = false := by go_simp
    have kb1_0_1 : w1.cell? ⟨w.heap.size, 1, none⟩ = some (.int .i64 q) := by go_simp
    have kf1_0_1 : w1.frozen? ⟨w.heap.size, 1, none⟩ = false := by go_simp
    clear hc1 hf1
    go_wp2
    go_ret
    exact ⟨ret_int HV.out.symm, by (repeat (first | exact Below.refl _ _ | refine Below.setCell ?_ (by first | omega | (simp <;> omega)) _ | refine Below.alloc ?_ (by first | omega | (simp <;> omega)) _ | refine Below.drew ?_ | refine Below.trans ?_ (Below.mono (by assumption) (by first | omega | (simp <;> omega))) | refine Below.grown ?_ (by assumption) (by first | omega | (simp <;> omega)) (fun k e => by cases e; first | omega | (simp <;> omega))))⟩
  | true =>
    cases hn : inB n 0 1000000000 with
    | false =>
      have HV := Lib.hid (show shiftedV p q n m = -1 from shiftedV_no (by simp [shiftedB, hn]))
      have HB := Lib.hid h
      have HN := Lib.hid hn
      clear h hn
      go_enter Try.func29, Try.ntmps29
      go_wp2_with fail
      refine (specRank_is p q m _ true _ rfl HB.out).mono ?_
      rintro e w1 ⟨rfl, hh1⟩
      obtain ⟨hc1, hf1⟩ := bcell hh1
      have hz1 := hh1.size
      try simp only [World.size_alloc] at hz1
      have hz1_0 : w.heap.size < w1.heap.size := by omega
      have kb1_0_0 : w1.cell? ⟨w.heap.size, 0, none⟩ = some (.int .i64 p) := by go_simp
      have kf1_0_0 : w1.frozen? ⟨w.heap.size, 0, none⟩ = false := by go_simp
      have kb1_0_1 : w1.cell? ⟨w.heap.size, 1, none⟩ = some (.int .i64 q) := by go_simp
      have kf1_0_1 : w1.frozen? ⟨w.heap.size, 1, none⟩ = false := by go_simp
      clear hc1 hf1
      go_wp2_with fail
      refine (l1In_no n 0 1000000000 _ HN.out).mono ?_
      rintro e wx ⟨rfl, rfl⟩
      go_wp2
      go_ret
      exact ⟨ret_int HV.out.symm, by (repeat (first | exact Below.refl _ _ | refine Below.setCell ?_ (by first | omega | (simp <;> omega)) _ | refine Below.alloc ?_ (by first | omega | (simp <;> omega)) _ | refine Below.drew ?_ | refine Below.trans ?_ (Below.mono (by assumption) (by first | omega | (simp <;> omega))) | refine Below.grown ?_ (by assumption) (by first | omega | (simp <;> omega)) (fun k e => by cases e; first | omega | (simp <;> omega))))⟩
    | true =>
      obtain ⟨n1, n2⟩ := inB_true hn
      obtain ⟨hp, _, _, _, k, rfl, k1, k2, ha⟩ := rankB_true h
      obtain ⟨i, rfl⟩ := Int.eq_ofNat_of_zero_le n1
      obtain ⟨c1, c2⟩ := rank_bd (p := p) k1 k2 ha
      have m1 : (1 : Int) ≤ (k : Int) := by omega
      have HR := Lib.hid (rankV_is h)
      have HB := Lib.hid h
      have HP := Lib.hid hp
      have HN := Lib.hid hn
      have HV := Lib.hid (show shiftedV p q i k = row p q 0 1 i % (k : Int) by rw [shiftedV, if_pos (by simp [shiftedB, h, hn])]; rfl)
      have HS := Lib.hid (show row p q 0 1 (rankN p q k + 1) % (k : Int) = stepV p q k from rfl)
      have HX := Lib.hid (shifted_is (p := p) k1 ha i)
      have s0 := left_bd (row p q 0 1 (rankN p q k + 1)) k m1
      rw [HS.out] at s0
      obtain ⟨s1, s2⟩ := s0
      obtain ⟨R, hR⟩ : ∃ R, rankN p q k = R := ⟨_, rfl⟩
      rw [hR] at c1 c2 HR HS HX
      obtain ⟨s, hs⟩ : ∃ s, stepV p q k = s := ⟨_, rfl⟩
      rw [hs] at HS HX s1 s2
      have hz : ((R : Int) == 0) = false := by simp; omega
      have hz2 : ((k : Int) == 0) = false := by simp; omega
      obtain ⟨a, hA⟩ : ∃ a, i / R = a := ⟨_, rfl⟩
      obtain ⟨b, hB⟩ : ∃ b, i % R = b := ⟨_, rfl⟩
      have hD : (i : Int) / (R : Int) = (a : Int) := by rw [← hA]; simp
      have hM : (i : Int) % (R : Int) = (b : Int) := by rw [← hB]; simp
      have hd1 : a ≤ i := by rw [← hA]; exact Nat.div_le_self _ _
      have hd2 : b ≤ i := by rw [← hB]; exact Nat.mod_le _ _
      have ha9 : a ≤ 1000000000 := by omega
      have hb9 : b ≤ 1000000000 := by omega
      rw [hA, hB] at HX
      obtain ⟨X, hX⟩ : ∃ X, s ^ a % (k : Int) = X := ⟨_, rfl⟩
      obtain ⟨Y, hY⟩ : ∃ Y, row p q 0 1 b % (k : Int) = Y := ⟨_, rfl⟩
      have a0 := left_bd (s ^ a) k m1
      have e0 := left_bd (row p q 0 1 b) k m1
      rw [hX] at a0 HX
      rw [hY] at e0 HX
      obtain ⟨v, hv⟩ : ∃ v, row p q 0 1 i % (k : Int) = v := ⟨_, rfl⟩
      rw [hv] at HV HX
      obtain ⟨x1, x2⟩ := mul_bd (a := 400) (b := 400) (show -400 ≤ X by omega) (by omega) (show -400 ≤ Y by omega) (by omega)
      have hpos : 0 ≤ X * Y := Int.mul_nonneg a0.1 e0.1
      have U : IntKind.i64.wrap (X * Y) = X * Y := by rw [IntKind.wrap_i64]; omega
      have hT1 : (X * Y) % (k : Int) = v := HX.out
      have hT2 : (X * Y).tmod (k : Int) = v := by rw [Int.tmod_eq_emod_of_nonneg hpos]; exact hT1
      have HPX := Lib.hid hX
      have HPY := Lib.hid hY
      have hR0 : ¬ (R : Int) = 0 := by omega
      have hk0 : ¬ (k : Int) = 0 := by omega
      clear h hp hR ha hs hn n1 n2 hA hB hX hY hv x1 x2 hpos HX
      go_enter Try.func29, Try.ntmps29
      go_wp2_with fail
      refine (specRank_is p q k R true _ HR.out HB.out).mono ?_
      rintro e w1 ⟨rfl, hh1⟩
      obtain ⟨hc1, hf1⟩ := bcell hh1
      have hz1 := hh1.size
      try simp only [World.size_alloc] at hz1
      have hz1_0 : w.heap.size < w1.heap.size := by omega
      have kb1_0_0 : w1.cell? ⟨w.heap.size, 0, none⟩ = some (.int .i64 p) := by go_simp
      have kf1_0_0 : w1.frozen? ⟨w.heap.size, 0, none⟩ = false := by go_simp
      have kb1_0_1 : w1.cell? ⟨w.heap.size, 1, none⟩ = some (.int .i64 q) := by go_simp
      have kf1_0_1 : w1.frozen? ⟨w.heap.size, 1, none⟩ = false := by go_simp
      clear hc1 hf1
      go_wp2_with fail
      refine (l1In_yes _ 0 1000000000 _ HN.out).mono ?_
      rintro e wx ⟨rfl, rfl⟩
      go_wp2_with fail
      refine (specFarFirst_at p q k (R + 1) _ _ _ (by omega) HP.out (by omega) (by omega) (by omega) HS.out).mono ?_
      rintro e w2 ⟨rfl, hh2⟩
      obtain ⟨hc2, hf2⟩ := bcell hh2
      have hz2 := hh2.size
      try simp only [World.size_alloc] at hz2
      have hz2_0 : w.heap.size < w2.heap.size := by omega
      have kb2_0_0 : w2.cell? ⟨w.heap.size, 0, none⟩ = some (.int .i64 p) := by go_simp
      have kf2_0_0 : w2.frozen? ⟨w.heap.size, 0, none⟩ = false := by go_simp
      have kb2_0_1 : w2.cell? ⟨w.heap.size, 1, none⟩ = some (.int .i64 q) := by go_simp
      have kf2_0_1 : w2.frozen? ⟨w.heap.size, 1, none⟩ = false := by go_simp
      clear hc2 hf2
      obtain ⟨S, hSd⟩ : ∃ S : World → Prop, (fun V => Below w2.heap.size w2 V) = S := ⟨_, rfl⟩
      have hkeep : ∀ V V' : World, S V → Below V.heap.size V V' → S V' := by rw [← hSd]; exact fun V V' h hb => h.trans (hb.mono h.size)
      have gk0 : ∀ iq : KeptBy S, iq.world.cell? ⟨w.heap.size, 0, none⟩ = some (.int .i64 p) := by rw [← hSd]; exact fun iq => cell_below iq.ok kb2_0_0
      have gk1 : ∀ iq : KeptBy S, iq.world.cell? ⟨w.heap.size, 1, none⟩ = some (.int .i64 q) := by rw [← hSd]; exact fun iq => cell_below iq.ok kb2_0_1
      have gkn : Nonempty (KeptBy S) := ⟨⟨w2.drew, by rw [← hSd]; exact (Below.refl _ _).drew⟩⟩
      go_wp2_with fail
      refine wp_region_kept (S := S) (by rw [← hSd]; exact (Below.refl _ _).drew) (by kernel_rfl) (by kernel_rfl) ?_
      repeat (go_big_quiet_step ((first | (go_at_call 18; refine (specPowerLeft_at s k a X _ _ rfl (by omega) (by omega) (by omega) (by omega) (by omega) HPX.out).mono ?_; rintro e w' ⟨rfl, rfl⟩; exact ⟨rfl, _, rfl⟩) | (go_at_call 53; refine (specFarFirst_at p q k b Y _ _ rfl HP.out (by omega) (by omega) (by omega) HPY.out).mono ?_; rintro e w' ⟨rfl, hhw⟩; exact ⟨rfl, ⟨w', hkeep _ _ (KeptBy.ok _) hhw⟩, rfl⟩) | fail)))
      refine wpQuiet_nil ?_
      rintro wz ⟨iz, hwz⟩
      have bwz : Below w2.heap.size w2 wz := by
        have this : S wz := by rw [hwz]; exact iz.ok
        rw [← hSd] at this
        exact this
      clear hwz iz gkn hkeep hSd gk0 gk1
      go_wp2
      go_ret
      exact ⟨ret_int HV.out.symm, by (repeat (first | exact Below.refl _ _ | refine Below.setCell ?_ (by first | omega | (simp <;> omega)) _ | refine Below.alloc ?_ (by first | omega | (simp <;> omega)) _ | refine Below.drew ?_ | refine Below.trans ?_ (Below.mono (by assumption) (by first | omega | (simp <;> omega))) | refine Below.grown ?_ (by assumption) (by first | omega | (simp <;> omega)) (fun k e => by cases e; first | omega | (simp <;> omega))))⟩
theorem specShifted_is (p q n m v : Int) (w : World) (hv : shiftedV p q n m = v) : Calls Try.prog 29 #[pr p q, .int .i64 n, .int .i64 m] w fun e w' => e = .returned (.int .i64 v) ∧ Below w.heap.size w w' := by rw [← hv]; exact specShifted_any p q n m w
end Go.Proofs.Ytpogmnkedohdcaa
namespace Go.Proofs.Ytpogmnkedohdcaa
open Go.RowKit Go.Shelf
attribute [local go_sem] Oper.semAt_some
set_option maxHeartbeats 400000 in
theorem primePowers_any (k : Int) (w : World) :
    Calls Try.prog 69 #[.int .i64 k] w fun e w' => e = .returned (.func (.func 76) #[] #[.pointer (some ⟨w.heap.size, 0, none⟩)]) ∧ w' = w.alloc (.cells #[.int .i64 k] 3) := by
  have hmf : ∀ (fn : Fn) (first cap : Array Value) (w : World), (Instr.makeFunc fn first cap).run Try.prog w = .ok (.func fn first cap) w := fun _ _ _ _ => rfl
  go_enter Try.func69, Try.ntmps69
  go_wp2
  go_ret
  exact ⟨rfl, rfl⟩
set_option maxHeartbeats 4000000 in
theorem primePowers_counted (n : Nat) (hn : 1 ≤ n) (m B : Nat) (w : World) (m1 : 1 ≤ m) (m2 : m ≤ 10000) :
    Counted Fence.wide n Try.prog 76 #[.pointer (some ⟨B, 0, none⟩)] (fun k => #[.int .i64 ((ppL m).getD k 0 : Nat)]) (fun V => V.cell? ⟨B, 0, none⟩ = some (.int .i64 m)) (ppL m).length w := by
  intro l J X W hW hJ hX hKp hY h0
  have c0 := hKp 0 W h0
  refine callsIn_of_wp Try.func76 rfl trivial ?_ rfl
  simp only [Try.ntmps76, List.size_toArray, List.length_cons, List.length_nil, Nat.reduceAdd, Nat.reduceSub, Array.replicate_succ, Array.replicate_zero, List.push_toArray, List.append_toArray, List.nil_append, List.cons_append]
  gi_wp2
  clear c0
  gi_loopg [3, 4, 5] m (fun r x y _ wr => ∃ p s k : Nat, p + r = m + 2 ∧ x = .int .i64 s ∧ y = .int .i64 p ∧ PPState m k p s ∧ J k wr)
  case atStart => exact ⟨2, m, 0, by omega, rfl, rfl, PPState.start m1, h0⟩
  case round =>
    obtain ⟨p, s, k, hpr, rfl, rfl, hst, hj⟩ := hrel
    obtain ⟨g0, hg0⟩ : ∃ g0, gk = g0 := ⟨_, rfl⟩
    have p2 := hst.1
    have s1 := hst.2.1
    have s2 := hst.2.2.1
    by_cases hs : 1 < s
    · have hps := hst.big hs
      have hd : decide ((1 : Int) < (s : Int)) = true := by simp; omega
      have hz : ((p : Int) == 0) = false := by simp; omega
      have HST := Lib.hid hst
      clear hst
      gi_wp2
      gi_loopg [3, 5] s (fun r x y wr => ∃ t u : Nat, t = r ∧ x = .int .i64 t ∧ y = .int .i64 u ∧ PowState p s t u ∧ J k wr)
      case atStart => exact ⟨s, 1, rfl, rfl, rfl, PowState.start s1, hj⟩
      case round =>
        obtain ⟨t, u, rfl, rfl, rfl, hpw, hj'⟩ := hrel
        obtain ⟨t2, u2⟩ := hpw.bd
        have t1 := hpw.1.1
        have HPW := Lib.hid hpw
        clear hpw
        by_cases hdv : p ∣ t
        · have hT : ((t : Int) % (p : Int) == 0) = true := by rw [div_test]; simpa using hdv
          have hlt : t / p < t := Nat.div_lt_self t1 p2
          have HN := Lib.hid (HPW.out.next p2 (Nat.mod_eq_zero_of_dvd hdv))
          obtain ⟨c, hc⟩ : ∃ c, t / p = c := ⟨_, rfl⟩
          have EC := Lib.hid (show (t : Int) / (p : Int) = (c : Int) by rw [← hc]; simp)
          rw [hc] at HN hlt
          obtain ⟨hb1, hb2⟩ := HN.out.bd
          have EM := Lib.hid (show (u : Int) * (p : Int) = ((u * p : Nat) : Int) by simp)
          have U1 : IntKind.i64.wrap ((u : Int) * (p : Int)) = (u : Int) * (p : Int) := by rw [EM.out, IntKind.wrap_i64]; omega
          have U2 : IntKind.i64.wrap ((t : Int) / (p : Int)) = (t : Int) / (p : Int) := by rw [EC.out, IntKind.wrap_i64]; omega
          clear hdv hb1 hb2 hc
          gi_wp2
          gi_roundg c
          case measure => omega
          case rel => exact ⟨c, u * p, rfl, congrArg (Value.int .i64) EC.out, congrArg (Value.int .i64) EM.out, HN.out, hj'⟩
        · have hT : ((t : Int) % (p : Int) == 0) = false := by rw [div_test]; simpa using hdv
          obtain ⟨e1, e2⟩ := HPW.out.done (fun h => hdv (Nat.dvd_of_mod_eq_zero h))
          by_cases hw : 1 < u
          · obtain ⟨hk, hg, hst'⟩ := HST.out.yes hs (by rw [← e1]; exact hw)
            rw [← e1] at hg
            rw [← e2] at hst'
            obtain ⟨fn, tmps, assign, body, hy, hR⟩ := hY k _ hk hj'
            simp only [hg] at hy
            have HS := Lib.hid hst'
            clear hg hst' e1 e2 hdv HPW HST
            gi_wp2
            refine hR.mono ?_
            rintro e W3 (⟨rfl, hj3⟩ | ⟨rfl, hx3⟩)
            · gi_wp2
              gi_roundg (g0 - 1)
              case measure => omega
              case rel => exact ⟨p + 1, t, k + 1, by omega, rfl, congrArg (Value.int .i64) (by omega), HS.out, hj3⟩
            · gi_wp2
              refine bodyPost_ret (results_none rfl _ _ _) rfl ?_
              exact ⟨⟨_, rfl⟩, .inr ⟨k, hk, hx3⟩⟩
          · have hst' := HST.out.no hs (by rw [← e1]; exact hw)
            rw [← e2] at hst'
            have HS := Lib.hid hst'
            have hw' : u ≤ 1 := by omega
            clear hst' e1 e2 hdv HPW HST hw
            gi_wp2
            refine ⟨fun f e => (by cases e), ?_⟩
            gi_wp2
            gi_roundg (g0 - 1)
            case measure => omega
            case rel => exact ⟨p + 1, t, k, by omega, rfl, congrArg (Value.int .i64) (by omega), HS.out, hj'⟩
    · have he := hst.done hs
      rw [he] at hj
      have hs' : s ≤ 1 := by omega
      clear hst he hs
      gi_wp2
      go_end0
      exact ⟨⟨_, rfl⟩, .inl hj⟩
end Go.Proofs.Ytpogmnkedohdcaa
namespace Go.Proofs.Ytpogmnkedohdcaa
open Go.RowKit
theorem hold_at (B : Nat → Bool) (n i : Nat) (h : i < (holdL B n).length) : (holdL B n).getD i 0 < n ∧ B ((holdL B n).getD i 0) = true := by
  have hm : (holdL B n).getD i 0 ∈ holdL B n := by
    simp only [List.getD_eq_getElem?_getD, List.getElem?_eq_getElem h, Option.getD_some]
    exact List.getElem_mem h
  simpa [holdL] using hm
theorem hold_has {B : Nat → Bool} {n x : Nat} (hx : x < n) (hb : B x = true) : ∃ i, i < (holdL B n).length ∧ (holdL B n).getD i 0 = x := by
  have hm : x ∈ holdL B n := by simp [holdL, hx, hb]
  obtain ⟨i, hi, he⟩ := List.getElem_of_mem hm
  exact ⟨i, hi, by simp only [List.getD_eq_getElem?_getD, List.getElem?_eq_getElem hi, Option.getD_some]; exact he⟩
theorem hold_lt (B : Nat → Bool) (n i j : Nat) (hij : i < j) (h : j < (holdL B n).length) : (holdL B n).getD i 0 < (holdL B n).getD j 0 := by
  have hp : (holdL B n).Pairwise (· < ·) := List.Pairwise.filter _ List.pairwise_lt_range
  have := List.pairwise_iff_getElem.1 hp i j (by omega) h hij
  simpa only [List.getD_eq_getElem?_getD, List.getElem?_eq_getElem h, List.getElem?_eq_getElem (show i < (holdL B n).length by omega), Option.getD_some] using this
/-- What a list of places keeps: they are from 1 to 20 and ascend; multiples are told; of a pair that is apart all are multiples of the first one. -/
def PlacesOk (p q : Int) (L : List Nat) : Prop :=
  L.length ≤ 21 ∧ (∀ i, i < L.length → 1 ≤ L.getD i 0 ∧ L.getD i 0 ≤ 20) ∧ (∀ i, i + 1 < L.length → L.getD i 0 < L.getD (i + 1) 0) ∧
  (∀ i t, i < L.length → 1 ≤ t → t * L.getD i 0 ≤ 20 → ∃ j, j < L.length ∧ L.getD j 0 = t * L.getD i 0) ∧
  (apartB p q = true → ∀ i, i < L.length → L.getD i 0 % L.getD 0 0 = 0)
theorem placesOk_nil (p q : Int) : PlacesOk p q [] := ⟨by simp, fun i h => by simp at h, fun i h => by simp at h, fun i t h => by simp at h, fun _ i h => by simp at h⟩
theorem placesOk_div (p q d : Int) : PlacesOk p q (holdL (divB p q d) 21) := by
  have at_ := fun i h => hold_at (divB p q d) 21 i h
  have one : ∀ j, divB p q d j = true → 1 ≤ j ∧ d ∣ row p q 0 1 j := fun j h => by simpa [divB] using h
  refine ⟨holdL_len _ _, fun i h => ?_, fun i h => hold_lt _ _ _ _ (by omega) h, fun i t h ht hm => ?_, fun ha i h => ?_⟩
  · obtain ⟨h1, h2⟩ := at_ i h
    exact ⟨(one _ h2).1, by omega⟩
  · obtain ⟨h1, h2⟩ := at_ i h
    obtain ⟨h3, h4⟩ := one _ h2
    refine hold_has (by omega) ?_
    have h5 : 1 ≤ t * (holdL (divB p q d) 21).getD i 0 := Nat.mul_pos ht h3
    have h6 : d ∣ row p q 0 1 (t * (holdL (divB p q d) 21).getD i 0) := by rw [Nat.mul_comm]; exact Int.dvd_trans h4 (row_dvd p q _ t)
    simp only [divB, Bool.and_eq_true, decide_eq_true_iff]
    exact ⟨h5, h6⟩
  · obtain ⟨a1, a2⟩ := at_ 0 (by omega)
    obtain ⟨a3, a4⟩ := one _ a2
    obtain ⟨b1, b2⟩ := at_ i h
    obtain ⟨b3, b4⟩ := one _ b2
    have hap : Apart d q := by
      obtain ⟨r, hr⟩ : ∃ r, (holdL (divB p q d) 21).getD 0 0 = r + 1 := ⟨(holdL (divB p q d) 21).getD 0 0 - 1, by omega⟩
      rw [hr] at a4
      exact (row_apart (apartB_apart ha).2 r).of_dvd a4
    refine Nat.mod_eq_zero_of_dvd ((rank_dvd hap a3 a4 (fun s s1 s2 hd => ?_) _ _ (Nat.le_refl _)).1 b4)
    obtain ⟨j, hj, he⟩ := hold_has (B := divB p q d) (n := 21) (x := s) (by omega) (by simp [divB, s1, hd])
    by_cases h0 : j = 0
    · subst h0; omega
    · have := hold_lt (divB p q d) 21 0 j (by omega) hj
      omega
theorem zerosL_ok (p q : Int) : PlacesOk p q (zerosL p q) := by
  rw [zerosL]; split
  · exact placesOk_div p q 0
  · exact placesOk_nil p q
theorem dividedL_ok (p q m : Int) : PlacesOk p q (dividedL p q m) := by
  rw [dividedL]; split
  · exact placesOk_div p q m
  · exact placesOk_nil p q
end Go.Proofs.Ytpogmnkedohdcaa
