/- What AtSum, AtTwice, AboutOf and SumTo of the model return. -/
import Derived.Test.YtcnaijmmoldbpaaSumVal
import Derived.Deep.QuietTactic
import Derived.BigQuiet
import Derived.IntWalk
namespace Go.Proofs.Ytcnaijmmoldbpaa
open Go.RowKit
set_option maxRecDepth 100000 in
set_option maxHeartbeats 4000000 in
theorem specAtSum_yes (p q : Int) (a b : Int) (w : World) (h : atSumB p q a b = true) :
    Calls Try.prog 13 #[pr p q, .int .i64 a, .int .i64 b] w fun e w' => e = .returned (.tuple #[.int .i64 (atSumV p q a b), .bool true]) ∧ Below w.heap.size w w' := by
  obtain ⟨hp, i, j, rfl, rfl, hi, hj⟩ := atSumB_true h
  rw [atSumV_is p q i j h]
  obtain ⟨⟨r1, r2⟩, r3, r4⟩ := pairB_true hp
  have HP := Lib.hid hp
  clear hp h
  go_enter Try.func13, Try.ntmps13
  go_wp2_with fail
  refine (specPairOk_yes p q _ HP.out).mono ?_
  rintro e w1 ⟨rfl, hh1⟩
  obtain ⟨hc1, hf1⟩ := bcell hh1
  have hz1 := hh1.size
  try simp only [World.size_alloc] at hz1
  have hz1_0 : w.heap.size < w1.heap.size := by omega
  have kb1_0_0 : w1.cell? ⟨w.heap.size, 0, none⟩ = some (.int .i64 p) := by go_simp
  have kf1_0_0 : w1.frozen? ⟨w.heap.size, 0, none⟩ = false := by go_simp
  have kb1_0_1 : w1.cell? ⟨w.heap.size, 1, none⟩ = some (.int .i64 q) := by go_simp
  have kf1_0_1 : w1.frozen? ⟨w.heap.size, 1, none⟩ = false := by go_simp
  clear hc1 hf1
  go_wp2_with fail
  refine (l1In_yes ((i : Int) + 1) 1 10 _ (inB_mk (by omega) (by omega))).mono ?_
  rintro e wx ⟨rfl, rfl⟩
  go_wp2_with fail
  refine (l1In_yes (j : Int) 0 9 _ (inB_mk (by omega) (by omega))).mono ?_
  rintro e wx ⟨rfl, rfl⟩
  go_wp2_with fail
  refine (l1Rows_at p q 11 (11) _ (by omega) r1 r2 r3 r4 (by omega)).mono ?_
  rintro e w3 ⟨gu, cu, gv, cv, rfl, hgu, hgv, hcu, hcv, hh3⟩
  have hz3 := hh3.size
  have kq : w3.cell? ⟨w.heap.size, 1, none⟩ = some (.int .i64 q) := by rw [hh3.cell (p := ⟨w.heap.size, 1, none⟩) (by omega)]; exact kb1_0_1
  have ka := hcu (i + 1) (by omega)
  have kb := hcu (j + 1) (by omega)
  have kc := hcu i (by omega)
  have kd := hcu j (by omega)
  clear hcu hcv
  obtain ⟨x1, x2⟩ := first_half r1 r2 r3 r4 (i + 1) (by omega)
  obtain ⟨y1, y2⟩ := first_half r1 r2 r3 r4 (j + 1) (by omega)
  obtain ⟨u1, u2⟩ := first_half r1 r2 r3 r4 i (by omega)
  obtain ⟨v1, v2⟩ := first_half r1 r2 r3 r4 j (by omega)
  obtain ⟨m1, m2⟩ := mul_bd x1 x2 y1 y2
  obtain ⟨m3, m4⟩ := mul_bd r3 r4 u1 u2
  obtain ⟨m5, m6⟩ := mul_bd m3 m4 v1 v2
  have E := row_add p q i j
  have ix1a : (0 : Int) ≤ (i : Int) + 1 := by omega
  have ix1b : (i : Int) + 1 < 12 := by omega
  have ix1c : ((i : Int) + 1).toNat = i + 1 := by omega
  have ix2a : (0 : Int) ≤ (j : Int) + 1 := by omega
  have ix2b : (j : Int) + 1 < 12 := by omega
  have ix2c : ((j : Int) + 1).toNat = j + 1 := by omega
  have ix3a : (0 : Int) ≤ (i : Int) := by omega
  have ix3b : (i : Int) < 12 := by omega
  have ix3c : ((i : Int)).toNat = i := by omega
  have ix4a : (0 : Int) ≤ (j : Int) := by omega
  have ix4b : (j : Int) < 12 := by omega
  have ix4c : ((j : Int)).toNat = j := by omega
  have wa : IntKind.i64.wrap ((i : Int)) = (i : Int) := by rw [IntKind.wrap_i64]; omega
  have wb : IntKind.i64.wrap ((j : Int) + 1) = (j : Int) + 1 := by rw [IntKind.wrap_i64]; omega
  have U1 : IntKind.i64.wrap (row p q 0 1 (i + 1) * row p q 0 1 (j + 1)) = row p q 0 1 (i + 1) * row p q 0 1 (j + 1) := by rw [IntKind.wrap_i64]; omega
  have U2 : IntKind.i64.wrap (q * row p q 0 1 (i)) = q * row p q 0 1 (i) := by rw [IntKind.wrap_i64]; omega
  have U3 : IntKind.i64.wrap (q * row p q 0 1 (i) * row p q 0 1 (j)) = q * row p q 0 1 (i) * row p q 0 1 (j) := by rw [IntKind.wrap_i64]; omega
  have U4 : IntKind.i64.wrap (row p q 0 1 (i + 1) * row p q 0 1 (j + 1) - q * row p q 0 1 (i) * row p q 0 1 (j)) = row p q 0 1 (i + 1 + j) := by rw [← E, IntKind.wrap_i64]; omega
  clear x1 x2 y1 y2 u1 u2 v1 v2 m1 m2 m3 m4 m5 m6 E
  go_wp2
  go_quiet (fail)
  go_wp2
  go_ret2
  exact ⟨rfl, below_drewN (by (repeat (first | exact Below.refl _ _ | refine Below.setCell ?_ (by first | omega | (simp <;> omega)) _ | refine Below.alloc ?_ (by first | omega | (simp <;> omega)) _ | refine Below.drew ?_ | refine Below.trans ?_ (Below.mono (by assumption) (by first | omega | (simp <;> omega))) | refine Below.grown ?_ (by assumption) (by first | omega | (simp <;> omega)) (fun k e => by cases e; first | omega | (simp <;> omega))))) _⟩
set_option maxHeartbeats 4000000 in
theorem specAtSum_no (p q : Int) (a b : Int) (w : World) (h : atSumB p q a b = false) :
    Calls Try.prog 13 #[pr p q, .int .i64 a, .int .i64 b] w fun e w' => e = .returned (.tuple #[.int .i64 0, .bool false]) ∧ Below w.heap.size w w' := by
  by_cases hp : pairB p q = true
  · have hno : inB a 1 10 = true → inB b 0 9 = false := by simpa [atSumB, hp] using h
    have HP := Lib.hid hp
    by_cases ha : inB a 1 10 = true
    · have HA := Lib.hid ha
      have HB := Lib.hid (hno ha)
      clear h hno ha hp
      go_enter Try.func13, Try.ntmps13
      go_wp2_with fail
      refine (specPairOk_yes p q _ HP.out).mono ?_
      rintro e w1 ⟨rfl, hh1⟩
      obtain ⟨hc1, hf1⟩ := bcell hh1
      have hz1 := hh1.size
      try simp only [World.size_alloc] at hz1
      have hz1_0 : w.heap.size < w1.heap.size := by omega
      have kb1_0_0 : w1.cell? ⟨w.heap.size, 0, none⟩ = some (.int .i64 p) := by go_simp
      have kf1_0_0 : w1.frozen? ⟨w.heap.size, 0, none⟩ = false := by go_simp
      have kb1_0_1 : w1.cell? ⟨w.heap.size, 1, none⟩ = some (.int .i64 q) := by go_simp
      have kf1_0_1 : w1.frozen? ⟨w.heap.size, 1, none⟩ = false := by go_simp
      clear hc1 hf1
      go_wp2_with fail
      refine (l1In_yes a 1 10 _ HA.out).mono ?_
      rintro e wx ⟨rfl, rfl⟩
      go_wp2_with fail
      refine (l1In_no b 0 9 _ HB.out).mono ?_
      rintro e wx ⟨rfl, rfl⟩
      go_wp2
      go_ret2
      exact ⟨rfl, by (repeat (first | exact Below.refl _ _ | refine Below.setCell ?_ (by first | omega | (simp <;> omega)) _ | refine Below.alloc ?_ (by first | omega | (simp <;> omega)) _ | refine Below.drew ?_ | refine Below.trans ?_ (Below.mono (by assumption) (by first | omega | (simp <;> omega))) | refine Below.grown ?_ (by assumption) (by first | omega | (simp <;> omega)) (fun k e => by cases e; first | omega | (simp <;> omega))))⟩
    · have HA := Lib.hid (show inB a 1 10 = false by simpa using ha)
      clear h hno ha hp
      go_enter Try.func13, Try.ntmps13
      go_wp2_with fail
      refine (specPairOk_yes p q _ HP.out).mono ?_
      rintro e w1 ⟨rfl, hh1⟩
      obtain ⟨hc1, hf1⟩ := bcell hh1
      have hz1 := hh1.size
      try simp only [World.size_alloc] at hz1
      have hz1_0 : w.heap.size < w1.heap.size := by omega
      have kb1_0_0 : w1.cell? ⟨w.heap.size, 0, none⟩ = some (.int .i64 p) := by go_simp
      have kf1_0_0 : w1.frozen? ⟨w.heap.size, 0, none⟩ = false := by go_simp
      have kb1_0_1 : w1.cell? ⟨w.heap.size, 1, none⟩ = some (.int .i64 q) := by go_simp
      have kf1_0_1 : w1.frozen? ⟨w.heap.size, 1, none⟩ = false := by go_simp
      clear hc1 hf1
      go_wp2_with fail
      refine (l1In_no a 1 10 _ HA.out).mono ?_
      rintro e wx ⟨rfl, rfl⟩
      go_wp2
      go_ret2
      exact ⟨rfl, by (repeat (first | exact Below.refl _ _ | refine Below.setCell ?_ (by first | omega | (simp <;> omega)) _ | refine Below.alloc ?_ (by first | omega | (simp <;> omega)) _ | refine Below.drew ?_ | refine Below.trans ?_ (Below.mono (by assumption) (by first | omega | (simp <;> omega))) | refine Below.grown ?_ (by assumption) (by first | omega | (simp <;> omega)) (fun k e => by cases e; first | omega | (simp <;> omega))))⟩
  · have HP := Lib.hid (show pairB p q = false by simpa using hp)
    clear hp h
    go_enter Try.func13, Try.ntmps13
    go_wp2_with fail
    refine (specPairOk_no p q _ HP.out).mono ?_
    rintro e w1 ⟨rfl, hh1⟩
    obtain ⟨hc1, hf1⟩ := bcell hh1
    have hz1 := hh1.size
    try simp only [World.size_alloc] at hz1
    have hz1_0 : w.heap.size < w1.heap.size := by omega
    have kb1_0_0 : w1.cell? ⟨w.heap.size, 0, none⟩ = some (.int .i64 p) := by go_simp
    have kf1_0_0 : w1.frozen? ⟨w.heap.size, 0, none⟩ = false := by go_simp
    have kb1_0_1 : w1.cell? ⟨w.heap.size, 1, none⟩ = some (.int .i64 q) := by go_simp
    have kf1_0_1 : w1.frozen? ⟨w.heap.size, 1, none⟩ = false := by go_simp
    clear hc1 hf1
    go_wp2
    go_ret2
    exact ⟨rfl, by (repeat (first | exact Below.refl _ _ | refine Below.setCell ?_ (by first | omega | (simp <;> omega)) _ | refine Below.alloc ?_ (by first | omega | (simp <;> omega)) _ | refine Below.drew ?_ | refine Below.trans ?_ (Below.mono (by assumption) (by first | omega | (simp <;> omega))) | refine Below.grown ?_ (by assumption) (by first | omega | (simp <;> omega)) (fun k e => by cases e; first | omega | (simp <;> omega))))⟩
theorem specAtSum_any (p q : Int) (a b : Int) (w : World) :
    Calls Try.prog 13 #[pr p q, .int .i64 a, .int .i64 b] w fun e w' => e = .returned (.tuple #[.int .i64 (atSumV p q a b), .bool (atSumB p q a b)]) ∧ Below w.heap.size w w' := by
  cases h : atSumB p q a b with
  | true => exact specAtSum_yes p q a b w h
  | false => rw [atSumV, if_neg (by simp [h])]; exact specAtSum_no p q a b w h
set_option maxRecDepth 100000 in
set_option maxHeartbeats 4000000 in
theorem specAtTwice_yes (p q : Int) (n : Int) (w : World) (h : atTwiceB p q n = true) :
    Calls Try.prog 18 #[pr p q, .int .i64 n] w fun e w' => e = .returned (.tuple #[.int .i64 (atTwiceV p q n), .bool true]) ∧ Below w.heap.size w w' := by
  obtain ⟨hp, i, rfl, hi⟩ := atTwiceB_true h
  rw [atTwiceV_is p q i h]
  obtain ⟨⟨r1, r2⟩, r3, r4⟩ := pairB_true hp
  have HP := Lib.hid hp
  clear hp h
  go_enter Try.func18, Try.ntmps18
  go_wp2_with fail
  refine (specPairOk_yes p q _ HP.out).mono ?_
  rintro e w1 ⟨rfl, hh1⟩
  obtain ⟨hc1, hf1⟩ := bcell hh1
  have hz1 := hh1.size
  try simp only [World.size_alloc] at hz1
  have hz1_0 : w.heap.size < w1.heap.size := by omega
  have kb1_0_0 : w1.cell? ⟨w.heap.size, 0, none⟩ = some (.int .i64 p) := by go_simp
  have kf1_0_0 : w1.frozen? ⟨w.heap.size, 0, none⟩ = false := by go_simp
  have kb1_0_1 : w1.cell? ⟨w.heap.size, 1, none⟩ = some (.int .i64 q) := by go_simp
  have kf1_0_1 : w1.frozen? ⟨w.heap.size, 1, none⟩ = false := by go_simp
  clear hc1 hf1
  go_wp2_with fail
  refine (l1In_yes (i : Int) 0 10 _ (inB_mk (by omega) (by omega))).mono ?_
  rintro e wx ⟨rfl, rfl⟩
  go_wp2_with fail
  refine (l1Rows_at p q i (i) _ rfl r1 r2 r3 r4 (by omega)).mono ?_
  rintro e w3 ⟨gu, cu, gv, cv, rfl, hgu, hgv, hcu, hcv, hh3⟩
  have hz3 := hh3.size
  have kq : w3.cell? ⟨w.heap.size, 1, none⟩ = some (.int .i64 q) := by rw [hh3.cell (p := ⟨w.heap.size, 1, none⟩) (by omega)]; exact kb1_0_1
  have ka := hcu i (by omega)
  have kb := hcv i (by omega)
  clear hcu hcv
  obtain ⟨x1, x2⟩ := first_half r1 r2 r3 r4 i hi
  obtain ⟨y1, y2⟩ := second_half r1 r2 r3 r4 i hi
  obtain ⟨m1, m2⟩ := mul_bd x1 x2 y1 y2
  have E := row_twice p q i
  have ix1a : (0 : Int) ≤ (i : Int) := by omega
  have ix1b : (i : Int) < (i : Int) + 1 := by omega
  have ix1c : ((i : Int)).toNat = i := by omega
  have U1 : IntKind.i64.wrap (row p q 0 1 i * row p q 2 p i) = row p q 0 1 (2 * i) := by rw [← E, IntKind.wrap_i64]; omega
  clear x1 x2 y1 y2 m1 m2 E
  go_wp2
  go_quiet (fail)
  go_wp2
  go_ret2
  exact ⟨rfl, below_drewN (by (repeat (first | exact Below.refl _ _ | refine Below.setCell ?_ (by first | omega | (simp <;> omega)) _ | refine Below.alloc ?_ (by first | omega | (simp <;> omega)) _ | refine Below.drew ?_ | refine Below.trans ?_ (Below.mono (by assumption) (by first | omega | (simp <;> omega))) | refine Below.grown ?_ (by assumption) (by first | omega | (simp <;> omega)) (fun k e => by cases e; first | omega | (simp <;> omega))))) _⟩
set_option maxHeartbeats 4000000 in
theorem specAtTwice_no (p q : Int) (n : Int) (w : World) (h : atTwiceB p q n = false) :
    Calls Try.prog 18 #[pr p q, .int .i64 n] w fun e w' => e = .returned (.tuple #[.int .i64 0, .bool false]) ∧ Below w.heap.size w w' := by
  by_cases hp : pairB p q = true
  · have hno : inB n 0 10 = false := by simpa [atTwiceB, hp] using h
    have HP := Lib.hid hp
    have HA := Lib.hid hno
    clear h hno hp
    go_enter Try.func18, Try.ntmps18
    go_wp2_with fail
    refine (specPairOk_yes p q _ HP.out).mono ?_
    rintro e w1 ⟨rfl, hh1⟩
    obtain ⟨hc1, hf1⟩ := bcell hh1
    have hz1 := hh1.size
    try simp only [World.size_alloc] at hz1
    have hz1_0 : w.heap.size < w1.heap.size := by omega
    have kb1_0_0 : w1.cell? ⟨w.heap.size, 0, none⟩ = some (.int .i64 p) := by go_simp
    have kf1_0_0 : w1.frozen? ⟨w.heap.size, 0, none⟩ = false := by go_simp
    have kb1_0_1 : w1.cell? ⟨w.heap.size, 1, none⟩ = some (.int .i64 q) := by go_simp
    have kf1_0_1 : w1.frozen? ⟨w.heap.size, 1, none⟩ = false := by go_simp
    clear hc1 hf1
    go_wp2_with fail
    refine (l1In_no n 0 10 _ HA.out).mono ?_
    rintro e wx ⟨rfl, rfl⟩
    go_wp2
    go_ret2
    exact ⟨rfl, by (repeat (first | exact Below.refl _ _ | refine Below.setCell ?_ (by first | omega | (simp <;> omega)) _ | refine Below.alloc ?_ (by first | omega | (simp <;> omega)) _ | refine Below.drew ?_ | refine Below.trans ?_ (Below.mono (by assumption) (by first | omega | (simp <;> omega))) | refine Below.grown ?_ (by assumption) (by first | omega | (simp <;> omega)) (fun k e => by cases e; first | omega | (simp <;> omega))))⟩
  · have HP := Lib.hid (show pairB p q = false by simpa using hp)
    clear hp h
    go_enter Try.func18, Try.ntmps18
    go_wp2_with fail
    refine (specPairOk_no p q _ HP.out).mono ?_
    rintro e w1 ⟨rfl, hh1⟩
    obtain ⟨hc1, hf1⟩ := bcell hh1
    have hz1 := hh1.size
    try simp only [World.size_alloc] at hz1
    have hz1_0 : w.heap.size < w1.heap.size := by omega
    have kb1_0_0 : w1.cell? ⟨w.heap.size, 0, none⟩ = some (.int .i64 p) := by go_simp
    have kf1_0_0 : w1.frozen? ⟨w.heap.size, 0, none⟩ = false := by go_simp
    have kb1_0_1 : w1.cell? ⟨w.heap.size, 1, none⟩ = some (.int .i64 q) := by go_simp
    have kf1_0_1 : w1.frozen? ⟨w.heap.size, 1, none⟩ = false := by go_simp
    clear hc1 hf1
    go_wp2
    go_ret2
    exact ⟨rfl, by (repeat (first | exact Below.refl _ _ | refine Below.setCell ?_ (by first | omega | (simp <;> omega)) _ | refine Below.alloc ?_ (by first | omega | (simp <;> omega)) _ | refine Below.drew ?_ | refine Below.trans ?_ (Below.mono (by assumption) (by first | omega | (simp <;> omega))) | refine Below.grown ?_ (by assumption) (by first | omega | (simp <;> omega)) (fun k e => by cases e; first | omega | (simp <;> omega))))⟩
theorem specAtTwice_any (p q : Int) (n : Int) (w : World) :
    Calls Try.prog 18 #[pr p q, .int .i64 n] w fun e w' => e = .returned (.tuple #[.int .i64 (atTwiceV p q n), .bool (atTwiceB p q n)]) ∧ Below w.heap.size w w' := by
  cases h : atTwiceB p q n with
  | true => exact specAtTwice_yes p q n w h
  | false => rw [atTwiceV, if_neg (by simp [h])]; exact specAtTwice_no p q n w h
set_option maxRecDepth 100000 in
set_option maxHeartbeats 4000000 in
theorem specAboutOf_yes (p q : Int) (n r : Int) (w : World) (h : aboutOfB p q n r = true) :
    Calls Try.prog 21 #[pr p q, .int .i64 n, .int .i64 r] w fun e w' => e = .returned (.tuple #[.int .i64 (aboutOfV p q n r), .bool true]) ∧ Below w.heap.size w w' := by
  obtain ⟨hp, d, k, rfl, rfl, hdk⟩ := aboutOfB_true h
  rw [aboutOfV_is p q d k h]
  obtain ⟨⟨r1, r2⟩, r3, r4⟩ := pairB_true hp
  have HP := Lib.hid hp
  clear hp h
  go_enter Try.func21, Try.ntmps21
  go_wp2_with fail
  refine (specPairOk_yes p q _ HP.out).mono ?_
  rintro e w1 ⟨rfl, hh1⟩
  obtain ⟨hc1, hf1⟩ := bcell hh1
  have hz1 := hh1.size
  try simp only [World.size_alloc] at hz1
  have hz1_0 : w.heap.size < w1.heap.size := by omega
  have kb1_0_0 : w1.cell? ⟨w.heap.size, 0, none⟩ = some (.int .i64 p) := by go_simp
  have kf1_0_0 : w1.frozen? ⟨w.heap.size, 0, none⟩ = false := by go_simp
  have kb1_0_1 : w1.cell? ⟨w.heap.size, 1, none⟩ = some (.int .i64 q) := by go_simp
  have kf1_0_1 : w1.frozen? ⟨w.heap.size, 1, none⟩ = false := by go_simp
  clear hc1 hf1
  go_wp2_with fail
  refine (l1In_yes ((d : Int) + k) 0 10 _ (inB_mk (by omega) (by omega))).mono ?_
  rintro e wx ⟨rfl, rfl⟩
  go_wp2_with fail
  refine (l1In_yes (k : Int) 0 ((d : Int) + k) _ (inB_mk (by omega) (by omega))).mono ?_
  rintro e wx ⟨rfl, rfl⟩
  go_wp2_with fail
  refine (l1Rows_at p q ((d : Int) + k + k) (d + k + k) _ (by omega) r1 r2 r3 r4 (by omega)).mono ?_
  rintro e w3 ⟨gu, cu, gv, cv, rfl, hgu, hgv, hcu, hcv, hh3⟩
  have hz3 := hh3.size
  have kq : w3.cell? ⟨w.heap.size, 1, none⟩ = some (.int .i64 q) := by rw [hh3.cell (p := ⟨w.heap.size, 1, none⟩) (by omega)]; exact kb1_0_1
  have ka := hcu (d + k) (by omega)
  have kb := hcu d (by omega)
  have kc := hcu (d + k + k) (by omega)
  clear hcu hcv
  obtain ⟨x1, x2⟩ := first_half r1 r2 r3 r4 (d + k) hdk
  obtain ⟨m1, m2⟩ := mul_bd x1 x2 x1 x2
  obtain ⟨m3, m4⟩ := about_bd r1 r2 r3 r4 d k hdk
  have E := row_about p q d k
  have ix1a : (0 : Int) ≤ (d : Int) + k := by omega
  have ix1b : (d : Int) + k < (d : Int) + k + k + 1 := by omega
  have ix1c : ((d : Int) + k).toNat = d + k := by omega
  have ix2a : (0 : Int) ≤ (d : Int) := by omega
  have ix2b : (d : Int) < (d : Int) + k + k + 1 := by omega
  have ix2c : ((d : Int)).toNat = d := by omega
  have ix3a : (0 : Int) ≤ (d : Int) + k + k := by omega
  have ix3b : (d : Int) + k + k < (d : Int) + k + k + 1 := by omega
  have ix3c : ((d : Int) + k + k).toNat = d + k + k := by omega
  have wa : IntKind.i64.wrap ((d : Int)) = (d : Int) := by rw [IntKind.wrap_i64]; omega
  have wb : IntKind.i64.wrap ((d : Int) + k + k) = (d : Int) + k + k := by rw [IntKind.wrap_i64]; omega
  have U1 : IntKind.i64.wrap (row p q 0 1 (d + k) * row p q 0 1 (d + k)) = row p q 0 1 (d + k) * row p q 0 1 (d + k) := by rw [IntKind.wrap_i64]; omega
  have U2 : IntKind.i64.wrap (row p q 0 1 (d) * row p q 0 1 (d + k + k)) = row p q 0 1 (d) * row p q 0 1 (d + k + k) := by rw [IntKind.wrap_i64]; omega
  have U3 : IntKind.i64.wrap (row p q 0 1 (d + k) * row p q 0 1 (d + k) - row p q 0 1 (d) * row p q 0 1 (d + k + k)) = q ^ d * row p q 0 1 k * row p q 0 1 k := by rw [← E, IntKind.wrap_i64]; omega
  clear x1 x2 m1 m2 m3 m4 E
  go_wp2
  go_quiet (fail)
  go_wp2
  go_ret2
  exact ⟨rfl, below_drewN (by (repeat (first | exact Below.refl _ _ | refine Below.setCell ?_ (by first | omega | (simp <;> omega)) _ | refine Below.alloc ?_ (by first | omega | (simp <;> omega)) _ | refine Below.drew ?_ | refine Below.trans ?_ (Below.mono (by assumption) (by first | omega | (simp <;> omega))) | refine Below.grown ?_ (by assumption) (by first | omega | (simp <;> omega)) (fun k e => by cases e; first | omega | (simp <;> omega))))) _⟩
set_option maxHeartbeats 4000000 in
theorem specAboutOf_no (p q : Int) (n r : Int) (w : World) (h : aboutOfB p q n r = false) :
    Calls Try.prog 21 #[pr p q, .int .i64 n, .int .i64 r] w fun e w' => e = .returned (.tuple #[.int .i64 0, .bool false]) ∧ Below w.heap.size w w' := by
  by_cases hp : pairB p q = true
  · have hno : inB n 0 10 = true → inB r 0 n = false := by simpa [aboutOfB, hp] using h
    have HP := Lib.hid hp
    by_cases ha : inB n 0 10 = true
    · have HA := Lib.hid ha
      have HB := Lib.hid (hno ha)
      clear h hno ha hp
      go_enter Try.func21, Try.ntmps21
      go_wp2_with fail
      refine (specPairOk_yes p q _ HP.out).mono ?_
      rintro e w1 ⟨rfl, hh1⟩
      obtain ⟨hc1, hf1⟩ := bcell hh1
      have hz1 := hh1.size
      try simp only [World.size_alloc] at hz1
      have hz1_0 : w.heap.size < w1.heap.size := by omega
      have kb1_0_0 : w1.cell? ⟨w.heap.size, 0, none⟩ = some (.int .i64 p) := by go_simp
      have kf1_0_0 : w1.frozen? ⟨w.heap.size, 0, none⟩ = false := by go_simp
      have kb1_0_1 : w1.cell? ⟨w.heap.size, 1, none⟩ = some (.int .i64 q) := by go_simp
      have kf1_0_1 : w1.frozen? ⟨w.heap.size, 1, none⟩ = false := by go_simp
      clear hc1 hf1
      go_wp2_with fail
      refine (l1In_yes n 0 10 _ HA.out).mono ?_
      rintro e wx ⟨rfl, rfl⟩
      go_wp2_with fail
      refine (l1In_no r 0 n _ HB.out).mono ?_
      rintro e wx ⟨rfl, rfl⟩
      go_wp2
      go_ret2
      exact ⟨rfl, by (repeat (first | exact Below.refl _ _ | refine Below.setCell ?_ (by first | omega | (simp <;> omega)) _ | refine Below.alloc ?_ (by first | omega | (simp <;> omega)) _ | refine Below.drew ?_ | refine Below.trans ?_ (Below.mono (by assumption) (by first | omega | (simp <;> omega))) | refine Below.grown ?_ (by assumption) (by first | omega | (simp <;> omega)) (fun k e => by cases e; first | omega | (simp <;> omega))))⟩
    · have HA := Lib.hid (show inB n 0 10 = false by simpa using ha)
      clear h hno ha hp
      go_enter Try.func21, Try.ntmps21
      go_wp2_with fail
      refine (specPairOk_yes p q _ HP.out).mono ?_
      rintro e w1 ⟨rfl, hh1⟩
      obtain ⟨hc1, hf1⟩ := bcell hh1
      have hz1 := hh1.size
      try simp only [World.size_alloc] at hz1
      have hz1_0 : w.heap.size < w1.heap.size := by omega
      have kb1_0_0 : w1.cell? ⟨w.heap.size, 0, none⟩ = some (.int .i64 p) := by go_simp
      have kf1_0_0 : w1.frozen? ⟨w.heap.size, 0, none⟩ = false := by go_simp
      have kb1_0_1 : w1.cell? ⟨w.heap.size, 1, none⟩ = some (.int .i64 q) := by go_simp
      have kf1_0_1 : w1.frozen? ⟨w.heap.size, 1, none⟩ = false := by go_simp
      clear hc1 hf1
      go_wp2_with fail
      refine (l1In_no n 0 10 _ HA.out).mono ?_
      rintro e wx ⟨rfl, rfl⟩
      go_wp2
      go_ret2
      exact ⟨rfl, by (repeat (first | exact Below.refl _ _ | refine Below.setCell ?_ (by first | omega | (simp <;> omega)) _ | refine Below.alloc ?_ (by first | omega | (simp <;> omega)) _ | refine Below.drew ?_ | refine Below.trans ?_ (Below.mono (by assumption) (by first | omega | (simp <;> omega))) | refine Below.grown ?_ (by assumption) (by first | omega | (simp <;> omega)) (fun k e => by cases e; first | omega | (simp <;> omega))))⟩
  · have HP := Lib.hid (show pairB p q = false by simpa using hp)
    clear hp h
    go_enter Try.func21, Try.ntmps21
    go_wp2_with fail
    refine (specPairOk_no p q _ HP.out).mono ?_
    rintro e w1 ⟨rfl, hh1⟩
    obtain ⟨hc1, hf1⟩ := bcell hh1
    have hz1 := hh1.size
    try simp only [World.size_alloc] at hz1
    have hz1_0 : w.heap.size < w1.heap.size := by omega
    have kb1_0_0 : w1.cell? ⟨w.heap.size, 0, none⟩ = some (.int .i64 p) := by go_simp
    have kf1_0_0 : w1.frozen? ⟨w.heap.size, 0, none⟩ = false := by go_simp
    have kb1_0_1 : w1.cell? ⟨w.heap.size, 1, none⟩ = some (.int .i64 q) := by go_simp
    have kf1_0_1 : w1.frozen? ⟨w.heap.size, 1, none⟩ = false := by go_simp
    clear hc1 hf1
    go_wp2
    go_ret2
    exact ⟨rfl, by (repeat (first | exact Below.refl _ _ | refine Below.setCell ?_ (by first | omega | (simp <;> omega)) _ | refine Below.alloc ?_ (by first | omega | (simp <;> omega)) _ | refine Below.drew ?_ | refine Below.trans ?_ (Below.mono (by assumption) (by first | omega | (simp <;> omega))) | refine Below.grown ?_ (by assumption) (by first | omega | (simp <;> omega)) (fun k e => by cases e; first | omega | (simp <;> omega))))⟩
theorem specAboutOf_any (p q : Int) (n r : Int) (w : World) :
    Calls Try.prog 21 #[pr p q, .int .i64 n, .int .i64 r] w fun e w' => e = .returned (.tuple #[.int .i64 (aboutOfV p q n r), .bool (aboutOfB p q n r)]) ∧ Below w.heap.size w w' := by
  cases h : aboutOfB p q n r with
  | true => exact specAboutOf_yes p q n r w h
  | false => rw [aboutOfV, if_neg (by simp [h])]; exact specAboutOf_no p q n r w h
set_option maxRecDepth 100000 in
set_option maxHeartbeats 4000000 in
theorem specSumTo_yes (p q : Int) (n : Int) (w : World) (h : sumToB p q n = true) :
    Calls Try.prog 25 #[pr p q, .int .i64 n] w fun e w' => e = .returned (.tuple #[.int .i64 (sumToV p q n), .bool true]) ∧ Below w.heap.size w w' := by
  obtain ⟨hp, i, rfl, hi⟩ := sumToB_true h
  rw [sumToV_is p q i h]
  obtain ⟨⟨r1, r2⟩, r3, r4⟩ := pairB_true hp
  have HP := Lib.hid hp
  clear hp h
  go_enter Try.func25, Try.ntmps25
  go_wp2_with fail
  refine (specPairOk_yes p q _ HP.out).mono ?_
  rintro e w1 ⟨rfl, hh1⟩
  obtain ⟨hc1, hf1⟩ := bcell hh1
  have hz1 := hh1.size
  try simp only [World.size_alloc] at hz1
  have hz1_0 : w.heap.size < w1.heap.size := by omega
  have kb1_0_0 : w1.cell? ⟨w.heap.size, 0, none⟩ = some (.int .i64 p) := by go_simp
  have kf1_0_0 : w1.frozen? ⟨w.heap.size, 0, none⟩ = false := by go_simp
  have kb1_0_1 : w1.cell? ⟨w.heap.size, 1, none⟩ = some (.int .i64 q) := by go_simp
  have kf1_0_1 : w1.frozen? ⟨w.heap.size, 1, none⟩ = false := by go_simp
  clear hc1 hf1
  go_wp2_with fail
  refine (l1In_yes (i : Int) 0 19 _ (inB_mk (by omega) (by omega))).mono ?_
  rintro e wx ⟨rfl, rfl⟩
  go_wp2_with fail
  refine (l1Rows_at p q i (i) _ rfl r1 r2 r3 r4 (by omega)).mono ?_
  rintro e w3 ⟨gu, cu, gv, cv, rfl, hgu, hgv, hcu, hcv, hh3⟩
  have hz3 := hh3.size
  have kq : w3.cell? ⟨w.heap.size, 1, none⟩ = some (.int .i64 q) := by rw [hh3.cell (p := ⟨w.heap.size, 1, none⟩) (by omega)]; exact kb1_0_1
  clear hcv
  go_wp2
  go_loop [8, 9] (fun s k => ∃ m : Nat, m ≤ i + 1 ∧ s = .int .i64 (rowSum p q m) ∧ k = .int .i64 m) (fun _ k => 30 - (intOf k).toNat)
  case atStart => exact ⟨0, by omega, rfl, rfl⟩
  case round =>
    obtain ⟨m, hm, rfl, rfl⟩ := hrel
    obtain ⟨s1, s2⟩ := sum_far r1 r2 r3 r4 m (by omega)
    by_cases hlt : m ≤ i
    · obtain ⟨x1, x2⟩ := first_far r1 r2 r3 r4 m (by omega)
      have ka := hcu m hlt
      have ix1a : (0 : Int) ≤ (m : Int) := by omega
      have ix1b : (m : Int) < (i : Int) + 1 := by omega
      go_wp2
      go_round
      case rel => exact ⟨m + 1, by omega, rfl, congrArg (Value.int .i64) (by omega)⟩
      case measure => simp [intOf]; omega
    · obtain rfl : m = i + 1 := by omega
      go_wp2
      go_ret2
      exact ⟨rfl, by (repeat (first | exact Below.refl _ _ | refine Below.setCell ?_ (by first | omega | (simp <;> omega)) _ | refine Below.alloc ?_ (by first | omega | (simp <;> omega)) _ | refine Below.drew ?_ | refine Below.trans ?_ (Below.mono (by assumption) (by first | omega | (simp <;> omega))) | refine Below.grown ?_ (by assumption) (by first | omega | (simp <;> omega)) (fun k e => by cases e; first | omega | (simp <;> omega))))⟩
set_option maxHeartbeats 4000000 in
theorem specSumTo_no (p q : Int) (n : Int) (w : World) (h : sumToB p q n = false) :
    Calls Try.prog 25 #[pr p q, .int .i64 n] w fun e w' => e = .returned (.tuple #[.int .i64 0, .bool false]) ∧ Below w.heap.size w w' := by
  by_cases hp : pairB p q = true
  · have hno : inB n 0 19 = false := by simpa [sumToB, hp] using h
    have HP := Lib.hid hp
    have HA := Lib.hid hno
    clear h hno hp
    go_enter Try.func25, Try.ntmps25
    go_wp2_with fail
    refine (specPairOk_yes p q _ HP.out).mono ?_
    rintro e w1 ⟨rfl, hh1⟩
    obtain ⟨hc1, hf1⟩ := bcell hh1
    have hz1 := hh1.size
    try simp only [World.size_alloc] at hz1
    have hz1_0 : w.heap.size < w1.heap.size := by omega
    have kb1_0_0 : w1.cell? ⟨w.heap.size, 0, none⟩ = some (.int .i64 p) := by go_simp
    have kf1_0_0 : w1.frozen? ⟨w.heap.size, 0, none⟩ = false := by go_simp
    have kb1_0_1 : w1.cell? ⟨w.heap.size, 1, none⟩ = some (.int .i64 q) := by go_simp
    have kf1_0_1 : w1.frozen? ⟨w.heap.size, 1, none⟩ = false := by go_simp
    clear hc1 hf1
    go_wp2_with fail
    refine (l1In_no n 0 19 _ HA.out).mono ?_
    rintro e wx ⟨rfl, rfl⟩
    go_wp2
    go_ret2
    exact ⟨rfl, by (repeat (first | exact Below.refl _ _ | refine Below.setCell ?_ (by first | omega | (simp <;> omega)) _ | refine Below.alloc ?_ (by first | omega | (simp <;> omega)) _ | refine Below.drew ?_ | refine Below.trans ?_ (Below.mono (by assumption) (by first | omega | (simp <;> omega))) | refine Below.grown ?_ (by assumption) (by first | omega | (simp <;> omega)) (fun k e => by cases e; first | omega | (simp <;> omega))))⟩
  · have HP := Lib.hid (show pairB p q = false by simpa using hp)
    clear hp h
    go_enter Try.func25, Try.ntmps25
    go_wp2_with fail
    refine (specPairOk_no p q _ HP.out).mono ?_
    rintro e w1 ⟨rfl, hh1⟩
    obtain ⟨hc1, hf1⟩ := bcell hh1
    have hz1 := hh1.size
    try simp only [World.size_alloc] at hz1
    have hz1_0 : w.heap.size < w1.heap.size := by omega
    have kb1_0_0 : w1.cell? ⟨w.heap.size, 0, none⟩ = some (.int .i64 p) := by go_simp
    have kf1_0_0 : w1.frozen? ⟨w.heap.size, 0, none⟩ = false := by go_simp
    have kb1_0_1 : w1.cell? ⟨w.heap.size, 1, none⟩ = some (.int .i64 q) := by go_simp
    have kf1_0_1 : w1.frozen? ⟨w.heap.size, 1, none⟩ = false := by go_simp
    clear hc1 hf1
    go_wp2
    go_ret2
    exact ⟨rfl, by (repeat (first | exact Below.refl _ _ | refine Below.setCell ?_ (by first | omega | (simp <;> omega)) _ | refine Below.alloc ?_ (by first | omega | (simp <;> omega)) _ | refine Below.drew ?_ | refine Below.trans ?_ (Below.mono (by assumption) (by first | omega | (simp <;> omega))) | refine Below.grown ?_ (by assumption) (by first | omega | (simp <;> omega)) (fun k e => by cases e; first | omega | (simp <;> omega))))⟩
theorem specSumTo_any (p q : Int) (n : Int) (w : World) :
    Calls Try.prog 25 #[pr p q, .int .i64 n] w fun e w' => e = .returned (.tuple #[.int .i64 (sumToV p q n), .bool (sumToB p q n)]) ∧ Below w.heap.size w w' := by
  cases h : sumToB p q n with
  | true => exact specSumTo_yes p q n w h
  | false => rw [sumToV, if_neg (by simp [h])]; exact specSumTo_no p q n w h
end Go.Proofs.Ytcnaijmmoldbpaa
