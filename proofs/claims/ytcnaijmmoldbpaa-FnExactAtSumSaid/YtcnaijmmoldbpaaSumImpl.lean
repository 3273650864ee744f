/- What AtSum, AtTwice, AboutOf and SumTo of the program return. -/
import Derived.Test.YtcnaijmmoldbpaaSumTold
import Derived.Test.YtcnaijmmoldbpaaSumVal
namespace Go.Proofs.Ytcnaijmmoldbpaa
open Go.RowKit
set_option maxHeartbeats 2000000 in
theorem implAtSum_yes (p q : Int) (a b : Int) (w : World) (h : atSumB p q a b = true) :
    Calls Try.prog 12 #[pr p q, .int .i64 a, .int .i64 b] w fun e w' => e = .returned (.tuple #[.int .i64 (atSumV p q a b), .bool true]) ∧ Below w.heap.size w w' := by
  obtain ⟨hp, i, j, rfl, rfl, hi, hj⟩ := atSumB_true h
  rw [atSumV_is p q i j h]
  have HP := Lib.hid hp
  clear hp h
  go_enter Try.func12, Try.ntmps12
  go_wp2_with fail
  refine (implPairOk_yes p q _ HP.out).mono ?_
  rintro e w1 ⟨rfl, hh1⟩
  obtain ⟨hc1, hf1⟩ := bcell hh1
  have hz1 := hh1.size
  try simp only [World.size_alloc] at hz1
  have hz1_0 : w.heap.size < w1.heap.size := by omega
  have kb1_0_0 : w1.cell? ⟨w.heap.size, 0, none⟩ = some (.int .i64 p) := by go_simp
  have kf1_0_0 : w1.frozen? ⟨w.heap.size, 0, none⟩ = false := by go_simp
  have kb1_0_1 : w1.cell? ⟨w.heap.size, 1, none⟩ = some (.int .i64 q) := by go_simp
  have kf1_0_1 : w1.frozen? ⟨w.heap.size, 1, none⟩ = false := by go_simp
  clear hc1 hf1
  go_wp2_with fail
  refine (told0 p q ((i : Int) + 1) j _ _ (fun w => sumMade_at p q i j hi hj w HP.out) (fun w => sumKnown_at p q i j hi hj w HP.out)).mono ?_
  rintro e w2 ⟨rfl, hh2⟩
  go_wp2
  go_ret2
  exact ⟨rfl, by (repeat (first | exact Below.refl _ _ | refine Below.setCell ?_ (by first | omega | (simp <;> omega)) _ | refine Below.alloc ?_ (by first | omega | (simp <;> omega)) _ | refine Below.drew ?_ | refine Below.trans ?_ (Below.mono (by assumption) (by first | omega | (simp <;> omega))) | refine Below.grown ?_ (by assumption) (by first | omega | (simp <;> omega)) (fun k e => by cases e; first | omega | (simp <;> omega))))⟩
set_option maxHeartbeats 4000000 in
theorem implAtSum_no (p q : Int) (a b : Int) (w : World) (h : atSumB p q a b = false) :
    Calls Try.prog 12 #[pr p q, .int .i64 a, .int .i64 b] w fun e w' => e = .returned (.tuple #[.int .i64 0, .bool false]) ∧ Below w.heap.size w w' := by
  by_cases hp : pairB p q = true
  · have hno : inB a 1 10 = true → inB b 0 9 = false := by simpa [atSumB, hp] using h
    have hd : (a < 1) ∨ (1 ≤ a ∧ 10 < a) ∨ (1 ≤ a ∧ a ≤ 10 ∧ b < 0) ∨ (1 ≤ a ∧ a ≤ 10 ∧ 0 ≤ b ∧ 9 < b) := by
      by_cases ha : 1 ≤ a ∧ a ≤ 10
      · have hb := inB_false (hno (inB_mk ha.1 ha.2)); omega
      · omega
    have HP := Lib.hid hp
    clear hp h hno
    rcases hd with h1 | ⟨h1, h2⟩ | ⟨h1, h2, h3⟩ | ⟨h1, h2, h3, h4⟩
    all_goals
      go_enter Try.func12, Try.ntmps12
      go_wp2_with fail
      refine (implPairOk_yes p q _ HP.out).mono ?_
      rintro e w1 ⟨rfl, hh1⟩
      obtain ⟨hc1, hf1⟩ := bcell hh1
      have hz1 := hh1.size
      try simp only [World.size_alloc] at hz1
      have hz1_0 : w.heap.size < w1.heap.size := by omega
      have kb1_0_0 : w1.cell? ⟨w.heap.size, 0, none⟩ = some (.int .i64 p) := by go_simp
      have kf1_0_0 : w1.frozen? ⟨w.heap.size, 0, none⟩ = false := by go_simp
      have kb1_0_1 : w1.cell? ⟨w.heap.size, 1, none⟩ = some (.int .i64 q) := by go_simp
      have kf1_0_1 : w1.frozen? ⟨w.heap.size, 1, none⟩ = false := by go_simp
      clear hc1 hf1
      go_wp2
      go_ret2
      exact ⟨rfl, by (repeat (first | exact Below.refl _ _ | refine Below.setCell ?_ (by first | omega | (simp <;> omega)) _ | refine Below.alloc ?_ (by first | omega | (simp <;> omega)) _ | refine Below.drew ?_ | refine Below.trans ?_ (Below.mono (by assumption) (by first | omega | (simp <;> omega))) | refine Below.grown ?_ (by assumption) (by first | omega | (simp <;> omega)) (fun k e => by cases e; first | omega | (simp <;> omega))))⟩
  · have HP := Lib.hid (show pairB p q = false by simpa using hp)
    clear hp h
    go_enter Try.func12, Try.ntmps12
    go_wp2_with fail
    refine (implPairOk_no p q _ HP.out).mono ?_
    rintro e w1 ⟨rfl, hh1⟩
    obtain ⟨hc1, hf1⟩ := bcell hh1
    have hz1 := hh1.size
    try simp only [World.size_alloc] at hz1
    have hz1_0 : w.heap.size < w1.heap.size := by omega
    have kb1_0_0 : w1.cell? ⟨w.heap.size, 0, none⟩ = some (.int .i64 p) := by go_simp
    have kf1_0_0 : w1.frozen? ⟨w.heap.size, 0, none⟩ = false := by go_simp
    have kb1_0_1 : w1.cell? ⟨w.heap.size, 1, none⟩ = some (.int .i64 q) := by go_simp
    have kf1_0_1 : w1.frozen? ⟨w.heap.size, 1, none⟩ = false := by go_simp
    clear hc1 hf1
    go_wp2
    go_ret2
    exact ⟨rfl, by (repeat (first | exact Below.refl _ _ | refine Below.setCell ?_ (by first | omega | (simp <;> omega)) _ | refine Below.alloc ?_ (by first | omega | (simp <;> omega)) _ | refine Below.drew ?_ | refine Below.trans ?_ (Below.mono (by assumption) (by first | omega | (simp <;> omega))) | refine Below.grown ?_ (by assumption) (by first | omega | (simp <;> omega)) (fun k e => by cases e; first | omega | (simp <;> omega))))⟩
theorem implAtSum_any (p q : Int) (a b : Int) (w : World) :
    Calls Try.prog 12 #[pr p q, .int .i64 a, .int .i64 b] w fun e w' => e = .returned (.tuple #[.int .i64 (atSumV p q a b), .bool (atSumB p q a b)]) ∧ Below w.heap.size w w' := by
  cases h : atSumB p q a b with
  | true => exact implAtSum_yes p q a b w h
  | false => rw [atSumV, if_neg (by simp [h])]; exact implAtSum_no p q a b w h
set_option maxHeartbeats 2000000 in
theorem implAtTwice_yes (p q : Int) (n : Int) (w : World) (h : atTwiceB p q n = true) :
    Calls Try.prog 17 #[pr p q, .int .i64 n] w fun e w' => e = .returned (.tuple #[.int .i64 (atTwiceV p q n), .bool true]) ∧ Below w.heap.size w w' := by
  obtain ⟨hp, i, rfl, hi⟩ := atTwiceB_true h
  rw [atTwiceV_is p q i h]
  have HP := Lib.hid hp
  clear hp h
  go_enter Try.func17, Try.ntmps17
  go_wp2_with fail
  refine (implPairOk_yes p q _ HP.out).mono ?_
  rintro e w1 ⟨rfl, hh1⟩
  obtain ⟨hc1, hf1⟩ := bcell hh1
  have hz1 := hh1.size
  try simp only [World.size_alloc] at hz1
  have hz1_0 : w.heap.size < w1.heap.size := by omega
  have kb1_0_0 : w1.cell? ⟨w.heap.size, 0, none⟩ = some (.int .i64 p) := by go_simp
  have kf1_0_0 : w1.frozen? ⟨w.heap.size, 0, none⟩ = false := by go_simp
  have kb1_0_1 : w1.cell? ⟨w.heap.size, 1, none⟩ = some (.int .i64 q) := by go_simp
  have kf1_0_1 : w1.frozen? ⟨w.heap.size, 1, none⟩ = false := by go_simp
  clear hc1 hf1
  go_wp2_with fail
  refine (told1 p q i 0 _ _ (fun w => twiceMade_at p q i 0 hi w HP.out) (fun w => twiceKnown_at p q i 0 hi w HP.out)).mono ?_
  rintro e w2 ⟨rfl, hh2⟩
  go_wp2
  go_ret2
  exact ⟨rfl, by (repeat (first | exact Below.refl _ _ | refine Below.setCell ?_ (by first | omega | (simp <;> omega)) _ | refine Below.alloc ?_ (by first | omega | (simp <;> omega)) _ | refine Below.drew ?_ | refine Below.trans ?_ (Below.mono (by assumption) (by first | omega | (simp <;> omega))) | refine Below.grown ?_ (by assumption) (by first | omega | (simp <;> omega)) (fun k e => by cases e; first | omega | (simp <;> omega))))⟩
set_option maxHeartbeats 4000000 in
theorem implAtTwice_no (p q : Int) (n : Int) (w : World) (h : atTwiceB p q n = false) :
    Calls Try.prog 17 #[pr p q, .int .i64 n] w fun e w' => e = .returned (.tuple #[.int .i64 0, .bool false]) ∧ Below w.heap.size w w' := by
  by_cases hp : pairB p q = true
  · have hno : inB n 0 10 = false := by simpa [atTwiceB, hp] using h
    have hd : (n < 0) ∨ (0 ≤ n ∧ 10 < n) := by
      have hb := inB_false hno; omega
    have HP := Lib.hid hp
    clear hp h hno
    rcases hd with h1 | ⟨h1, h2⟩
    all_goals
      go_enter Try.func17, Try.ntmps17
      go_wp2_with fail
      refine (implPairOk_yes p q _ HP.out).mono ?_
      rintro e w1 ⟨rfl, hh1⟩
      obtain ⟨hc1, hf1⟩ := bcell hh1
      have hz1 := hh1.size
      try simp only [World.size_alloc] at hz1
      have hz1_0 : w.heap.size < w1.heap.size := by omega
      have kb1_0_0 : w1.cell? ⟨w.heap.size, 0, none⟩ = some (.int .i64 p) := by go_simp
      have kf1_0_0 : w1.frozen? ⟨w.heap.size, 0, none⟩ = false := by go_simp
      have kb1_0_1 : w1.cell? ⟨w.heap.size, 1, none⟩ = some (.int .i64 q) := by go_simp
      have kf1_0_1 : w1.frozen? ⟨w.heap.size, 1, none⟩ = false := by go_simp
      clear hc1 hf1
      go_wp2
      go_ret2
      exact ⟨rfl, by (repeat (first | exact Below.refl _ _ | refine Below.setCell ?_ (by first | omega | (simp <;> omega)) _ | refine Below.alloc ?_ (by first | omega | (simp <;> omega)) _ | refine Below.drew ?_ | refine Below.trans ?_ (Below.mono (by assumption) (by first | omega | (simp <;> omega))) | refine Below.grown ?_ (by assumption) (by first | omega | (simp <;> omega)) (fun k e => by cases e; first | omega | (simp <;> omega))))⟩
  · have HP := Lib.hid (show pairB p q = false by simpa using hp)
    clear hp h
    go_enter Try.func17, Try.ntmps17
    go_wp2_with fail
    refine (implPairOk_no p q _ HP.out).mono ?_
    rintro e w1 ⟨rfl, hh1⟩
    obtain ⟨hc1, hf1⟩ := bcell hh1
    have hz1 := hh1.size
    try simp only [World.size_alloc] at hz1
    have hz1_0 : w.heap.size < w1.heap.size := by omega
    have kb1_0_0 : w1.cell? ⟨w.heap.size, 0, none⟩ = some (.int .i64 p) := by go_simp
    have kf1_0_0 : w1.frozen? ⟨w.heap.size, 0, none⟩ = false := by go_simp
    have kb1_0_1 : w1.cell? ⟨w.heap.size, 1, none⟩ = some (.int .i64 q) := by go_simp
    have kf1_0_1 : w1.frozen? ⟨w.heap.size, 1, none⟩ = false := by go_simp
    clear hc1 hf1
    go_wp2
    go_ret2
    exact ⟨rfl, by (repeat (first | exact Below.refl _ _ | refine Below.setCell ?_ (by first | omega | (simp <;> omega)) _ | refine Below.alloc ?_ (by first | omega | (simp <;> omega)) _ | refine Below.drew ?_ | refine Below.trans ?_ (Below.mono (by assumption) (by first | omega | (simp <;> omega))) | refine Below.grown ?_ (by assumption) (by first | omega | (simp <;> omega)) (fun k e => by cases e; first | omega | (simp <;> omega))))⟩
theorem implAtTwice_any (p q : Int) (n : Int) (w : World) :
    Calls Try.prog 17 #[pr p q, .int .i64 n] w fun e w' => e = .returned (.tuple #[.int .i64 (atTwiceV p q n), .bool (atTwiceB p q n)]) ∧ Below w.heap.size w w' := by
  cases h : atTwiceB p q n with
  | true => exact implAtTwice_yes p q n w h
  | false => rw [atTwiceV, if_neg (by simp [h])]; exact implAtTwice_no p q n w h
set_option maxHeartbeats 2000000 in
theorem implAboutOf_yes (p q : Int) (n r : Int) (w : World) (h : aboutOfB p q n r = true) :
    Calls Try.prog 20 #[pr p q, .int .i64 n, .int .i64 r] w fun e w' => e = .returned (.tuple #[.int .i64 (aboutOfV p q n r), .bool true]) ∧ Below w.heap.size w w' := by
  obtain ⟨hp, d, k, rfl, rfl, hdk⟩ := aboutOfB_true h
  rw [aboutOfV_is p q d k h]
  have HP := Lib.hid hp
  clear hp h
  go_enter Try.func20, Try.ntmps20
  go_wp2_with fail
  refine (implPairOk_yes p q _ HP.out).mono ?_
  rintro e w1 ⟨rfl, hh1⟩
  obtain ⟨hc1, hf1⟩ := bcell hh1
  have hz1 := hh1.size
  try simp only [World.size_alloc] at hz1
  have hz1_0 : w.heap.size < w1.heap.size := by omega
  have kb1_0_0 : w1.cell? ⟨w.heap.size, 0, none⟩ = some (.int .i64 p) := by go_simp
  have kf1_0_0 : w1.frozen? ⟨w.heap.size, 0, none⟩ = false := by go_simp
  have kb1_0_1 : w1.cell? ⟨w.heap.size, 1, none⟩ = some (.int .i64 q) := by go_simp
  have kf1_0_1 : w1.frozen? ⟨w.heap.size, 1, none⟩ = false := by go_simp
  clear hc1 hf1
  go_wp2_with fail
  refine (told2 p q ((d : Int) + k) k _ _ (fun w => aboutMade_at p q d k hdk w HP.out) (fun w => aboutKnown_at p q d k hdk w HP.out)).mono ?_
  rintro e w2 ⟨rfl, hh2⟩
  go_wp2
  go_ret2
  exact ⟨rfl, by (repeat (first | exact Below.refl _ _ | refine Below.setCell ?_ (by first | omega | (simp <;> omega)) _ | refine Below.alloc ?_ (by first | omega | (simp <;> omega)) _ | refine Below.drew ?_ | refine Below.trans ?_ (Below.mono (by assumption) (by first | omega | (simp <;> omega))) | refine Below.grown ?_ (by assumption) (by first | omega | (simp <;> omega)) (fun k e => by cases e; first | omega | (simp <;> omega))))⟩
set_option maxHeartbeats 4000000 in
theorem implAboutOf_no (p q : Int) (n r : Int) (w : World) (h : aboutOfB p q n r = false) :
    Calls Try.prog 20 #[pr p q, .int .i64 n, .int .i64 r] w fun e w' => e = .returned (.tuple #[.int .i64 0, .bool false]) ∧ Below w.heap.size w w' := by
  by_cases hp : pairB p q = true
  · have hno : inB n 0 10 = true → inB r 0 n = false := by simpa [aboutOfB, hp] using h
    have hd : (n < 0) ∨ (0 ≤ n ∧ 10 < n) ∨ (0 ≤ n ∧ n ≤ 10 ∧ r < 0) ∨ (0 ≤ n ∧ n ≤ 10 ∧ 0 ≤ r ∧ n < r) := by
      by_cases ha : 0 ≤ n ∧ n ≤ 10
      · have hb := inB_false (hno (inB_mk ha.1 ha.2)); omega
      · omega
    have HP := Lib.hid hp
    clear hp h hno
    rcases hd with h1 | ⟨h1, h2⟩ | ⟨h1, h2, h3⟩ | ⟨h1, h2, h3, h4⟩
    all_goals
      go_enter Try.func20, Try.ntmps20
      go_wp2_with fail
      refine (implPairOk_yes p q _ HP.out).mono ?_
      rintro e w1 ⟨rfl, hh1⟩
      obtain ⟨hc1, hf1⟩ := bcell hh1
      have hz1 := hh1.size
      try simp only [World.size_alloc] at hz1
      have hz1_0 : w.heap.size < w1.heap.size := by omega
      have kb1_0_0 : w1.cell? ⟨w.heap.size, 0, none⟩ = some (.int .i64 p) := by go_simp
      have kf1_0_0 : w1.frozen? ⟨w.heap.size, 0, none⟩ = false := by go_simp
      have kb1_0_1 : w1.cell? ⟨w.heap.size, 1, none⟩ = some (.int .i64 q) := by go_simp
      have kf1_0_1 : w1.frozen? ⟨w.heap.size, 1, none⟩ = false := by go_simp
      clear hc1 hf1
      go_wp2
      go_ret2
      exact ⟨rfl, by (repeat (first | exact Below.refl _ _ | refine Below.setCell ?_ (by first | omega | (simp <;> omega)) _ | refine Below.alloc ?_ (by first | omega | (simp <;> omega)) _ | refine Below.drew ?_ | refine Below.trans ?_ (Below.mono (by assumption) (by first | omega | (simp <;> omega))) | refine Below.grown ?_ (by assumption) (by first | omega | (simp <;> omega)) (fun k e => by cases e; first | omega | (simp <;> omega))))⟩
  · have HP := Lib.hid (show pairB p q = false by simpa using hp)
    clear hp h
    go_enter Try.func20, Try.ntmps20
    go_wp2_with fail
    refine (implPairOk_no p q _ HP.out).mono ?_
    rintro e w1 ⟨rfl, hh1⟩
    obtain ⟨hc1, hf1⟩ := bcell hh1
    have hz1 := hh1.size
    try simp only [World.size_alloc] at hz1
    have hz1_0 : w.heap.size < w1.heap.size := by omega
    have kb1_0_0 : w1.cell? ⟨w.heap.size, 0, none⟩ = some (.int .i64 p) := by go_simp
    have kf1_0_0 : w1.frozen? ⟨w.heap.size, 0, none⟩ = false := by go_simp
    have kb1_0_1 : w1.cell? ⟨w.heap.size, 1, none⟩ = some (.int .i64 q) := by go_simp
    have kf1_0_1 : w1.frozen? ⟨w.heap.size, 1, none⟩ = false := by go_simp
    clear hc1 hf1
    go_wp2
    go_ret2
    exact ⟨rfl, by (repeat (first | exact Below.refl _ _ | refine Below.setCell ?_ (by first | omega | (simp <;> omega)) _ | refine Below.alloc ?_ (by first | omega | (simp <;> omega)) _ | refine Below.drew ?_ | refine Below.trans ?_ (Below.mono (by assumption) (by first | omega | (simp <;> omega))) | refine Below.grown ?_ (by assumption) (by first | omega | (simp <;> omega)) (fun k e => by cases e; first | omega | (simp <;> omega))))⟩
theorem implAboutOf_any (p q : Int) (n r : Int) (w : World) :
    Calls Try.prog 20 #[pr p q, .int .i64 n, .int .i64 r] w fun e w' => e = .returned (.tuple #[.int .i64 (aboutOfV p q n r), .bool (aboutOfB p q n r)]) ∧ Below w.heap.size w w' := by
  cases h : aboutOfB p q n r with
  | true => exact implAboutOf_yes p q n r w h
  | false => rw [aboutOfV, if_neg (by simp [h])]; exact implAboutOf_no p q n r w h
set_option maxHeartbeats 2000000 in
theorem implSumTo_yes (p q : Int) (n : Int) (w : World) (h : sumToB p q n = true) :
    Calls Try.prog 24 #[pr p q, .int .i64 n] w fun e w' => e = .returned (.tuple #[.int .i64 (sumToV p q n), .bool true]) ∧ Below w.heap.size w w' := by
  obtain ⟨hp, i, rfl, hi⟩ := sumToB_true h
  rw [sumToV_is p q i h]
  have HP := Lib.hid hp
  clear hp h
  go_enter Try.func24, Try.ntmps24
  go_wp2_with fail
  refine (implPairOk_yes p q _ HP.out).mono ?_
  rintro e w1 ⟨rfl, hh1⟩
  obtain ⟨hc1, hf1⟩ := bcell hh1
  have hz1 := hh1.size
  try simp only [World.size_alloc] at hz1
  have hz1_0 : w.heap.size < w1.heap.size := by omega
  have kb1_0_0 : w1.cell? ⟨w.heap.size, 0, none⟩ = some (.int .i64 p) := by go_simp
  have kf1_0_0 : w1.frozen? ⟨w.heap.size, 0, none⟩ = false := by go_simp
  have kb1_0_1 : w1.cell? ⟨w.heap.size, 1, none⟩ = some (.int .i64 q) := by go_simp
  have kf1_0_1 : w1.frozen? ⟨w.heap.size, 1, none⟩ = false := by go_simp
  clear hc1 hf1
  go_wp2_with fail
  refine (told3 p q i 0 _ _ (fun w => totalMade_at p q i 0 hi w HP.out) (fun w => totalKnown_at p q i 0 hi w HP.out)).mono ?_
  rintro e w2 ⟨rfl, hh2⟩
  go_wp2
  go_ret2
  exact ⟨rfl, by (repeat (first | exact Below.refl _ _ | refine Below.setCell ?_ (by first | omega | (simp <;> omega)) _ | refine Below.alloc ?_ (by first | omega | (simp <;> omega)) _ | refine Below.drew ?_ | refine Below.trans ?_ (Below.mono (by assumption) (by first | omega | (simp <;> omega))) | refine Below.grown ?_ (by assumption) (by first | omega | (simp <;> omega)) (fun k e => by cases e; first | omega | (simp <;> omega))))⟩
set_option maxHeartbeats 4000000 in
theorem implSumTo_no (p q : Int) (n : Int) (w : World) (h : sumToB p q n = false) :
    Calls Try.prog 24 #[pr p q, .int .i64 n] w fun e w' => e = .returned (.tuple #[.int .i64 0, .bool false]) ∧ Below w.heap.size w w' := by
  by_cases hp : pairB p q = true
  · have hno : inB n 0 19 = false := by simpa [sumToB, hp] using h
    have hd : (n < 0) ∨ (0 ≤ n ∧ 20 ≤ n) := by
      have hb := inB_false hno; omega
    have HP := Lib.hid hp
    clear hp h hno
    rcases hd with h1 | ⟨h1, h2⟩
    all_goals
      go_enter Try.func24, Try.ntmps24
      go_wp2_with fail
      refine (implPairOk_yes p q _ HP.out).mono ?_
      rintro e w1 ⟨rfl, hh1⟩
      obtain ⟨hc1, hf1⟩ := bcell hh1
      have hz1 := hh1.size
      try simp only [World.size_alloc] at hz1
      have hz1_0 : w.heap.size < w1.heap.size := by omega
      have kb1_0_0 : w1.cell? ⟨w.heap.size, 0, none⟩ = some (.int .i64 p) := by go_simp
      have kf1_0_0 : w1.frozen? ⟨w.heap.size, 0, none⟩ = false := by go_simp
      have kb1_0_1 : w1.cell? ⟨w.heap.size, 1, none⟩ = some (.int .i64 q) := by go_simp
      have kf1_0_1 : w1.frozen? ⟨w.heap.size, 1, none⟩ = false := by go_simp
      clear hc1 hf1
      go_wp2
      go_ret2
      exact ⟨rfl, by (repeat (first | exact Below.refl _ _ | refine Below.setCell ?_ (by first | omega | (simp <;> omega)) _ | refine Below.alloc ?_ (by first | omega | (simp <;> omega)) _ | refine Below.drew ?_ | refine Below.trans ?_ (Below.mono (by assumption) (by first | omega | (simp <;> omega))) | refine Below.grown ?_ (by assumption) (by first | omega | (simp <;> omega)) (fun k e => by cases e; first | omega | (simp <;> omega))))⟩
  · have HP := Lib.hid (show pairB p q = false by simpa using hp)
    clear hp h
    go_enter Try.func24, Try.ntmps24
    go_wp2_with fail
    refine (implPairOk_no p q _ HP.out).mono ?_
    rintro e w1 ⟨rfl, hh1⟩
    obtain ⟨hc1, hf1⟩ := bcell hh1
    have hz1 := hh1.size
    try simp only [World.size_alloc] at hz1
    have hz1_0 : w.heap.size < w1.heap.size := by omega
    have kb1_0_0 : w1.cell? ⟨w.heap.size, 0, none⟩ = some (.int .i64 p) := by go_simp
    have kf1_0_0 : w1.frozen? ⟨w.heap.size, 0, none⟩ = false := by go_simp
    have kb1_0_1 : w1.cell? ⟨w.heap.size, 1, none⟩ = some (.int .i64 q) := by go_simp
    have kf1_0_1 : w1.frozen? ⟨w.heap.size, 1, none⟩ = false := by go_simp
    clear hc1 hf1
    go_wp2
    go_ret2
    exact ⟨rfl, by (repeat (first | exact Below.refl _ _ | refine Below.setCell ?_ (by first | omega | (simp <;> omega)) _ | refine Below.alloc ?_ (by first | omega | (simp <;> omega)) _ | refine Below.drew ?_ | refine Below.trans ?_ (Below.mono (by assumption) (by first | omega | (simp <;> omega))) | refine Below.grown ?_ (by assumption) (by first | omega | (simp <;> omega)) (fun k e => by cases e; first | omega | (simp <;> omega))))⟩
theorem implSumTo_any (p q : Int) (n : Int) (w : World) :
    Calls Try.prog 24 #[pr p q, .int .i64 n] w fun e w' => e = .returned (.tuple #[.int .i64 (sumToV p q n), .bool (sumToB p q n)]) ∧ Below w.heap.size w w' := by
  cases h : sumToB p q n with
  | true => exact implSumTo_yes p q n w h
  | false => rw [sumToV, if_neg (by simp [h])]; exact implSumTo_no p q n w h
end Go.Proofs.Ytcnaijmmoldbpaa
