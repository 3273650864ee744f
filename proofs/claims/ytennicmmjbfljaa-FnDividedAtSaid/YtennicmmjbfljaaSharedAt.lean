/- ApartPair, SharedAt and QuotientAt: what they return, in the program and in the model. -/
import Derived.Test.YtennicmmjbfljaaSharedFns
import Derived.Test.YtennicmmjbfljaaSumVal
import Derived.Test.YtennicmmjbfljaaDivMath
namespace Go.Proofs.Ytennicmmjbfljaa
open Go.RowKit
/-- Whether a pair is apart; what two places share; the quotient at a multiple of a place. -/
def apartB (p q : Int) : Bool := pairB p q && decide (Int.gcd p q = 1)
def sharedB (p q a b : Int) : Bool := pairB p q && (inB a 1 20 && inB b 1 20)
def sharedV (p q a b : Int) : Int := if sharedB p q a b = true then (Int.gcd (row p q 0 1 a.toNat) (row p q 0 1 b.toNat) : Int) else -1
def quotB (p q n t : Int) : Bool := pairB p q && (inB n 1 20 && (decide (1 ≤ t) && (decide (n * t ≤ 20) && (row p q 0 1 n.toNat != 0))))
def quotV (p q n t : Int) : Int := if quotB p q n t = true then (row p q 0 1 (n * t).toNat).tdiv (row p q 0 1 n.toNat) else 0
theorem sharedB_true {p q a b : Int} (h : sharedB p q a b = true) : pairB p q = true ∧ ∃ i j : Nat, a = (i : Int) + 1 ∧ b = (j : Int) + 1 ∧ i ≤ 19 ∧ j ≤ 19 := by
  have h' : pairB p q = true ∧ inB a 1 20 = true ∧ inB b 1 20 = true := by simpa [sharedB] using h
  obtain ⟨hp, ha, hb⟩ := h'
  obtain ⟨a1, a2⟩ := inB_true ha
  obtain ⟨b1, b2⟩ := inB_true hb
  exact ⟨hp, (a - 1).toNat, (b - 1).toNat, by omega, by omega, by omega, by omega⟩
theorem sharedB_ways {p q a b : Int} (h : sharedB p q a b = false) : pairB p q = false ∨ (pairB p q = true ∧ inB a 1 20 = false) ∨ (pairB p q = true ∧ inB a 1 20 = true ∧ inB b 1 20 = false) := by
  cases hp : pairB p q with
  | false => exact .inl rfl
  | true =>
    cases ha : inB a 1 20 with
    | false => exact .inr (.inl ⟨rfl, rfl⟩)
    | true => exact .inr (.inr ⟨rfl, rfl, by simpa [sharedB, hp, ha] using h⟩)
theorem times_bd {n t : Nat} (h : (n + 1) * (t + 1) ≤ 20) : n ≤ 19 ∧ t ≤ 19 := by
  constructor
  · have := Nat.le_mul_of_pos_right (n + 1) (show 0 < t + 1 by omega); omega
  · have := Nat.le_mul_of_pos_left (t + 1) (show 0 < n + 1 by omega); omega
theorem quotB_true {p q n t : Int} (h : quotB p q n t = true) : pairB p q = true ∧ ∃ i j : Nat, n = (i : Int) + 1 ∧ t = (j : Int) + 1 ∧ (i + 1) * (j + 1) ≤ 20 ∧ row p q 0 1 (i + 1) ≠ 0 := by
  have h' : pairB p q = true ∧ inB n 1 20 = true ∧ 1 ≤ t ∧ n * t ≤ 20 ∧ ¬ row p q 0 1 n.toNat = 0 := by simpa [quotB] using h
  obtain ⟨hp, ha, ht, hm, hr⟩ := h'
  obtain ⟨a1, a2⟩ := inB_true ha
  obtain ⟨i, rfl⟩ : ∃ i : Nat, n = (i : Int) + 1 := ⟨(n - 1).toNat, by omega⟩
  obtain ⟨j, rfl⟩ : ∃ j : Nat, t = (j : Int) + 1 := ⟨(t - 1).toNat, by omega⟩
  refine ⟨hp, i, j, rfl, rfl, ?_, hr⟩
  have : (((i + 1) * (j + 1) : Nat) : Int) ≤ 20 := by simpa using hm
  omega
theorem quotV_is {p q : Int} {i j : Nat} (h : quotB p q ((i : Int) + 1) ((j : Int) + 1) = true) : quotV p q ((i : Int) + 1) ((j : Int) + 1) = (row p q 0 1 ((i + 1) * (j + 1))).tdiv (row p q 0 1 (i + 1)) := by
  rw [quotV, if_pos h]
  have e : (((i : Int) + 1) * ((j : Int) + 1)).toNat = (i + 1) * (j + 1) := by
    have : ((i : Int) + 1) * ((j : Int) + 1) = (((i + 1) * (j + 1) : Nat) : Int) := by simp
    omega
  rw [e]; rfl
theorem tdiv_bd {a b : Int} (h1 : -95367431640625 ≤ a) (h2 : a ≤ 95367431640625) : -95367431640625 ≤ a.tdiv b ∧ a.tdiv b ≤ 95367431640625 := by
  have h := Int.natAbs_tdiv_le_natAbs a b
  generalize a.tdiv b = r at h ⊢
  omega
/-- How often a place goes into 20. -/
theorem times_in (i : Nat) (t : Int) (hi : i ≤ 19) : (0 ≤ (20 : Int).tdiv ((i : Int) + 1) ∧ (20 : Int).tdiv ((i : Int) + 1) ≤ 20) ∧ ((20 : Int).tdiv ((i : Int) + 1) < t ↔ 20 < ((i : Int) + 1) * t) := by
  rw [Int.tdiv_eq_ediv_of_nonneg (by omega)]
  refine ⟨⟨Int.ediv_nonneg (by omega) (by omega), Int.ediv_le_self _ (by omega)⟩, ?_⟩
  rw [Int.ediv_lt_iff_lt_mul (by omega), Int.mul_comm]
set_option maxHeartbeats 2000000 in
theorem implApart_any (p q : Int) (w : World) : Calls Try.prog 14 #[pr p q] w fun e w' => e = .returned (.bool (apartB p q)) ∧ Below w.heap.size w w' := by
  cases hp : pairB p q with
  | true =>
    obtain ⟨⟨r1, r2⟩, r3, r4⟩ := pairB_true hp
    have HP := Lib.hid hp
    by_cases hg : (Int.gcd p q : Int) = 1
    · have HV := Lib.hid (show apartB p q = true by simp [apartB, hp]; omega)
      clear hp
      go_enter Try.func14, Try.ntmps14
      go_wp2_with fail
      refine (implPairOk_yes p q _ HP.out).mono ?_
      rintro e w1 ⟨rfl, hh1⟩
      obtain ⟨hc1, hf1⟩ := bcell hh1
      have hz1 := hh1.size
      try simp only [World.size_alloc] at hz1
      have hz1_0 : w.heap.size < w1.heap.size := by omega
      have kb1_0_0 : w1.cell? ⟨w.heap.size, 0, none⟩ = some (.int .i64 p) := by go_simp
      have kf1_0_0 : w1.frozen? ⟨w.heap.size, 0, none⟩ = false := by go_simp
      have kb1_0_1 : w1.cell? ⟨w.heap.size, 1, none⟩ = some (.int .i64 q) := by go_simp
      have kf1_0_1 : w1.frozen? ⟨w.heap.size, 1, none⟩ = false := by go_simp
      clear hc1 hf1
      go_wp2_with fail
      refine (commonDivisor_at p q _ (by omega) (by omega) (by omega) (by omega)).mono ?_
      rintro e w2 ⟨rfl, hh2⟩
      obtain ⟨hc2, hf2⟩ := bcell hh2
      have hz2 := hh2.size
      try simp only [World.size_alloc] at hz2
      have hz2_0 : w.heap.size < w2.heap.size := by omega
      have hgb : ((Int.gcd p q : Int) == 1) = true := by simpa using hg
      go_wp2
      go_ret
      exact ⟨ret_bool HV.out.symm, by (repeat (first | exact Below.refl _ _ | refine Below.setCell ?_ (by first | omega | (simp <;> omega)) _ | refine Below.alloc ?_ (by first | omega | (simp <;> omega)) _ | refine Below.drew ?_ | refine Below.trans ?_ (Below.mono (by assumption) (by first | omega | (simp <;> omega))) | refine Below.grown ?_ (by assumption) (by first | omega | (simp <;> omega)) (fun k e => by cases e; first | omega | (simp <;> omega))))⟩
    · have HV := Lib.hid (show apartB p q = false by simp [apartB, hp]; omega)
      clear hp
      go_enter Try.func14, Try.ntmps14
      go_wp2_with fail
      refine (implPairOk_yes p q _ HP.out).mono ?_
      rintro e w1 ⟨rfl, hh1⟩
      obtain ⟨hc1, hf1⟩ := bcell hh1
      have hz1 := hh1.size
      try simp only [World.size_alloc] at hz1
      have hz1_0 : w.heap.size < w1.heap.size := by omega
      have kb1_0_0 : w1.cell? ⟨w.heap.size, 0, none⟩ = some (.int .i64 p) := by go_simp
      have kf1_0_0 : w1.frozen? ⟨w.heap.size, 0, none⟩ = false := by go_simp
      have kb1_0_1 : w1.cell? ⟨w.heap.size, 1, none⟩ = some (.int .i64 q) := by go_simp
      have kf1_0_1 : w1.frozen? ⟨w.heap.size, 1, none⟩ = false := by go_simp
      clear hc1 hf1
      go_wp2_with fail
      refine (commonDivisor_at p q _ (by omega) (by omega) (by omega) (by omega)).mono ?_
      rintro e w2 ⟨rfl, hh2⟩
      obtain ⟨hc2, hf2⟩ := bcell hh2
      have hz2 := hh2.size
      try simp only [World.size_alloc] at hz2
      have hz2_0 : w.heap.size < w2.heap.size := by omega
      have hgb : ((Int.gcd p q : Int) == 1) = false := by simpa using hg
      go_wp2
      go_ret
      exact ⟨ret_bool HV.out.symm, by (repeat (first | exact Below.refl _ _ | refine Below.setCell ?_ (by first | omega | (simp <;> omega)) _ | refine Below.alloc ?_ (by first | omega | (simp <;> omega)) _ | refine Below.drew ?_ | refine Below.trans ?_ (Below.mono (by assumption) (by first | omega | (simp <;> omega))) | refine Below.grown ?_ (by assumption) (by first | omega | (simp <;> omega)) (fun k e => by cases e; first | omega | (simp <;> omega))))⟩
  | false =>
    have HP := Lib.hid hp
    have HV := Lib.hid (show apartB p q = false by simp [apartB, hp])
    clear hp
    go_enter Try.func14, Try.ntmps14
    go_wp2_with fail
    refine (implPairOk_no p q _ HP.out).mono ?_
    rintro e w1 ⟨rfl, hh1⟩
    obtain ⟨hc1, hf1⟩ := bcell hh1
    have hz1 := hh1.size
    try simp only [World.size_alloc] at hz1
    have hz1_0 : w.heap.size < w1.heap.size := by omega
    have kb1_0_0 : w1.cell? ⟨w.heap.size, 0, none⟩ = some (.int .i64 p) := by go_simp
    have kf1_0_0 : w1.frozen? ⟨w.heap.size, 0, none⟩ = false := by go_simp
    have kb1_0_1 : w1.cell? ⟨w.heap.size, 1, none⟩ = some (.int .i64 q) := by go_simp
    have kf1_0_1 : w1.frozen? ⟨w.heap.size, 1, none⟩ = false := by go_simp
    clear hc1 hf1
    go_wp2
    go_ret
    exact ⟨ret_bool HV.out.symm, by (repeat (first | exact Below.refl _ _ | refine Below.setCell ?_ (by first | omega | (simp <;> omega)) _ | refine Below.alloc ?_ (by first | omega | (simp <;> omega)) _ | refine Below.drew ?_ | refine Below.trans ?_ (Below.mono (by assumption) (by first | omega | (simp <;> omega))) | refine Below.grown ?_ (by assumption) (by first | omega | (simp <;> omega)) (fun k e => by cases e; first | omega | (simp <;> omega))))⟩
set_option maxHeartbeats 2000000 in
theorem specApart_any (p q : Int) (w : World) : Calls Try.prog 15 #[pr p q] w fun e w' => e = .returned (.bool (apartB p q)) ∧ Below w.heap.size w w' := by
  cases hp : pairB p q with
  | true =>
    obtain ⟨⟨r1, r2⟩, r3, r4⟩ := pairB_true hp
    have HP := Lib.hid hp
    by_cases hg : (Int.gcd p q : Int) = 1
    · have HV := Lib.hid (show apartB p q = true by simp [apartB, hp]; omega)
      clear hp
      go_enter Try.func15, Try.ntmps15
      go_wp2_with fail
      refine (specPairOk_yes p q _ HP.out).mono ?_
      rintro e w1 ⟨rfl, hh1⟩
      obtain ⟨hc1, hf1⟩ := bcell hh1
      have hz1 := hh1.size
      try simp only [World.size_alloc] at hz1
      have hz1_0 : w.heap.size < w1.heap.size := by omega
      have kb1_0_0 : w1.cell? ⟨w.heap.size, 0, none⟩ = some (.int .i64 p) := by go_simp
      have kf1_0_0 : w1.frozen? ⟨w.heap.size, 0, none⟩ = false := by go_simp
      have kb1_0_1 : w1.cell? ⟨w.heap.size, 1, none⟩ = some (.int .i64 q) := by go_simp
      have kf1_0_1 : w1.frozen? ⟨w.heap.size, 1, none⟩ = false := by go_simp
      clear hc1 hf1
      go_wp2_with fail
      refine (l1Common_at p q _ (by omega) (by omega) (by omega) (by omega)).mono ?_
      rintro e wx ⟨rfl, rfl⟩
      have hgb : ((Int.gcd p q : Int) == 1) = true := by simpa using hg
      go_wp2
      go_ret
      exact ⟨ret_bool HV.out.symm, by (repeat (first | exact Below.refl _ _ | refine Below.setCell ?_ (by first | omega | (simp <;> omega)) _ | refine Below.alloc ?_ (by first | omega | (simp <;> omega)) _ | refine Below.drew ?_ | refine Below.trans ?_ (Below.mono (by assumption) (by first | omega | (simp <;> omega))) | refine Below.grown ?_ (by assumption) (by first | omega | (simp <;> omega)) (fun k e => by cases e; first | omega | (simp <;> omega))))⟩
    · have HV := Lib.hid (show apartB p q = false by simp [apartB, hp]; omega)
      clear hp
      go_enter Try.func15, Try.ntmps15
      go_wp2_with fail
      refine (specPairOk_yes p q _ HP.out).mono ?_
      rintro e w1 ⟨rfl, hh1⟩
      obtain ⟨hc1, hf1⟩ := bcell hh1
      have hz1 := hh1.size
      try simp only [World.size_alloc] at hz1
      have hz1_0 : w.heap.size < w1.heap.size := by omega
      have kb1_0_0 : w1.cell? ⟨w.heap.size, 0, none⟩ = some (.int .i64 p) := by go_simp
      have kf1_0_0 : w1.frozen? ⟨w.heap.size, 0, none⟩ = false := by go_simp
      have kb1_0_1 : w1.cell? ⟨w.heap.size, 1, none⟩ = some (.int .i64 q) := by go_simp
      have kf1_0_1 : w1.frozen? ⟨w.heap.size, 1, none⟩ = false := by go_simp
      clear hc1 hf1
      go_wp2_with fail
      refine (l1Common_at p q _ (by omega) (by omega) (by omega) (by omega)).mono ?_
      rintro e wx ⟨rfl, rfl⟩
      have hgb : ((Int.gcd p q : Int) == 1) = false := by simpa using hg
      go_wp2
      go_ret
      exact ⟨ret_bool HV.out.symm, by (repeat (first | exact Below.refl _ _ | refine Below.setCell ?_ (by first | omega | (simp <;> omega)) _ | refine Below.alloc ?_ (by first | omega | (simp <;> omega)) _ | refine Below.drew ?_ | refine Below.trans ?_ (Below.mono (by assumption) (by first | omega | (simp <;> omega))) | refine Below.grown ?_ (by assumption) (by first | omega | (simp <;> omega)) (fun k e => by cases e; first | omega | (simp <;> omega))))⟩
  | false =>
    have HP := Lib.hid hp
    have HV := Lib.hid (show apartB p q = false by simp [apartB, hp])
    clear hp
    go_enter Try.func15, Try.ntmps15
    go_wp2_with fail
    refine (specPairOk_no p q _ HP.out).mono ?_
    rintro e w1 ⟨rfl, hh1⟩
    obtain ⟨hc1, hf1⟩ := bcell hh1
    have hz1 := hh1.size
    try simp only [World.size_alloc] at hz1
    have hz1_0 : w.heap.size < w1.heap.size := by omega
    have kb1_0_0 : w1.cell? ⟨w.heap.size, 0, none⟩ = some (.int .i64 p) := by go_simp
    have kf1_0_0 : w1.frozen? ⟨w.heap.size, 0, none⟩ = false := by go_simp
    have kb1_0_1 : w1.cell? ⟨w.heap.size, 1, none⟩ = some (.int .i64 q) := by go_simp
    have kf1_0_1 : w1.frozen? ⟨w.heap.size, 1, none⟩ = false := by go_simp
    clear hc1 hf1
    go_wp2
    go_ret
    exact ⟨ret_bool HV.out.symm, by (repeat (first | exact Below.refl _ _ | refine Below.setCell ?_ (by first | omega | (simp <;> omega)) _ | refine Below.alloc ?_ (by first | omega | (simp <;> omega)) _ | refine Below.drew ?_ | refine Below.trans ?_ (Below.mono (by assumption) (by first | omega | (simp <;> omega))) | refine Below.grown ?_ (by assumption) (by first | omega | (simp <;> omega)) (fun k e => by cases e; first | omega | (simp <;> omega))))⟩
set_option maxRecDepth 100000 in
set_option maxHeartbeats 4000000 in
theorem implShared_any (p q a b : Int) (w : World) : Calls Try.prog 17 #[pr p q, .int .i64 a, .int .i64 b] w fun e w' => e = .returned (.int .i64 (sharedV p q a b)) ∧ Below w.heap.size w w' := by
  cases h : sharedB p q a b with
  | true =>
    obtain ⟨hp, i, j, rfl, rfl, hi, hj⟩ := sharedB_true h
    obtain ⟨⟨r1, r2⟩, r3, r4⟩ := pairB_true hp
    have HV := Lib.hid (show sharedV p q ((i : Int) + 1) ((j : Int) + 1) = (Int.gcd (row p q 0 1 (i + 1)) (row p q 0 1 (j + 1)) : Int) by rw [sharedV, if_pos h]; rfl)
    have HA := Lib.hid (inB_mk (n := (i : Int) + 1) (a := 1) (b := 20) (by omega) (by omega))
    have HB := Lib.hid (inB_mk (n := (j : Int) + 1) (a := 1) (b := 20) (by omega) (by omega))
    have HP := Lib.hid hp
    clear hp h
    obtain ⟨x1, x2⟩ := first_far r1 r2 r3 r4 (i + 1) (by omega)
    obtain ⟨y1, y2⟩ := first_far r1 r2 r3 r4 (j + 1) (by omega)
    go_enter Try.func17, Try.ntmps17
    go_wp2_with fail
    refine (implPairOk_yes p q _ HP.out).mono ?_
    rintro e w1 ⟨rfl, hh1⟩
    obtain ⟨hc1, hf1⟩ := bcell hh1
    have hz1 := hh1.size
    try simp only [World.size_alloc] at hz1
    have hz1_0 : w.heap.size < w1.heap.size := by omega
    have kb1_0_0 : w1.cell? ⟨w.heap.size, 0, none⟩ = some (.int .i64 p) := by go_simp
    have kf1_0_0 : w1.frozen? ⟨w.heap.size, 0, none⟩ = false := by go_simp
    have kb1_0_1 : w1.cell? ⟨w.heap.size, 1, none⟩ = some (.int .i64 q) := by go_simp
    have kf1_0_1 : w1.frozen? ⟨w.heap.size, 1, none⟩ = false := by go_simp
    clear hc1 hf1
    go_wp2_with fail
    refine (furtherOk_is _ true _ HA.out).mono ?_
    rintro e wx ⟨rfl, rfl⟩
    go_wp2_with fail
    refine (furtherOk_is _ true _ HB.out).mono ?_
    rintro e wx ⟨rfl, rfl⟩
    go_wp2_with fail
    go_region_held3 (fun w' => w'.cell? ⟨w.heap.size, 0, none⟩ = some (.int .i64 p) ∧ w'.cell? ⟨w.heap.size, 1, none⟩ = some (.int .i64 q))
      (first | go_keep | (go_split_ands; exact ⟨kx0, kx1⟩))
      ((first | (go_at_call 46; refine (firstOf_at p q (i + 1) _ _ _ (by omega) HP.out (by omega) rfl).mono ?_; rintro e w2 ⟨rfl, hh2⟩; have hz2 := hh2.size; (try simp at hz2); have kx0 := (hh2.cell (p := ⟨w.heap.size, 0, none⟩) (by first | omega | (simp <;> omega))); have kx1 := (hh2.cell (p := ⟨w.heap.size, 1, none⟩) (by first | omega | (simp <;> omega)))) | (go_at_call 46; refine (firstOf_at p q (j + 1) _ _ _ (by omega) HP.out (by omega) rfl).mono ?_; rintro e w2 ⟨rfl, hh2⟩; have hz2 := hh2.size; (try simp at hz2); have kx0 := (hh2.cell (p := ⟨w.heap.size, 0, none⟩) (by first | omega | (simp <;> omega))); have kx1 := (hh2.cell (p := ⟨w.heap.size, 1, none⟩) (by first | omega | (simp <;> omega)))) | (go_at_call 41; refine (commonDivisor_at _ _ _ (by omega) (by omega) (by omega) (by omega)).mono ?_; rintro e w2 ⟨rfl, hh2⟩; have hz2 := hh2.size; (try simp at hz2); have kx0 := (hh2.cell (p := ⟨w.heap.size, 0, none⟩) (by first | omega | (simp <;> omega))); have kx1 := (hh2.cell (p := ⟨w.heap.size, 1, none⟩) (by first | omega | (simp <;> omega)))) | fail))
    go_wp2
    go_ret
    exact ⟨ret_int HV.out.symm, by (repeat (first | exact Below.refl _ _ | refine Below.setCell ?_ (by first | omega | (simp <;> omega)) _ | refine Below.alloc ?_ (by first | omega | (simp <;> omega)) _ | refine Below.drew ?_ | refine Below.trans ?_ (Below.mono (by assumption) (by first | omega | (simp <;> omega))) | refine Below.grown ?_ (by assumption) (by first | omega | (simp <;> omega)) (fun k e => by cases e; first | omega | (simp <;> omega))))⟩
  | false =>
    have HV := Lib.hid (show sharedV p q a b = -1 by rw [sharedV, if_neg (by simp [h])])
    rcases sharedB_ways h with hp | ⟨hp, ha⟩ | ⟨hp, ha, hb⟩
    · have HP := Lib.hid hp
      clear hp h
      go_enter Try.func17, Try.ntmps17
      go_wp2_with fail
      refine (implPairOk_no p q _ HP.out).mono ?_
      rintro e w1 ⟨rfl, hh1⟩
      obtain ⟨hc1, hf1⟩ := bcell hh1
      have hz1 := hh1.size
      try simp only [World.size_alloc] at hz1
      have hz1_0 : w.heap.size < w1.heap.size := by omega
      have kb1_0_0 : w1.cell? ⟨w.heap.size, 0, none⟩ = some (.int .i64 p) := by go_simp
      have kf1_0_0 : w1.frozen? ⟨w.heap.size, 0, none⟩ = false := by go_simp
      have kb1_0_1 : w1.cell? ⟨w.heap.size, 1, none⟩ = some (.int .i64 q) := by go_simp
      have kf1_0_1 : w1.frozen? ⟨w.heap.size, 1, none⟩ = false := by go_simp
      clear hc1 hf1
      go_wp2
      go_ret
      exact ⟨ret_int HV.out.symm, by (repeat (first | exact Below.refl _ _ | refine Below.setCell ?_ (by first | omega | (simp <;> omega)) _ | refine Below.alloc ?_ (by first | omega | (simp <;> omega)) _ | refine Below.drew ?_ | refine Below.trans ?_ (Below.mono (by assumption) (by first | omega | (simp <;> omega))) | refine Below.grown ?_ (by assumption) (by first | omega | (simp <;> omega)) (fun k e => by cases e; first | omega | (simp <;> omega))))⟩
    · have HP := Lib.hid hp
      have HA := Lib.hid ha
      clear hp ha h
      go_enter Try.func17, Try.ntmps17
      go_wp2_with fail
      refine (implPairOk_yes p q _ HP.out).mono ?_
      rintro e w1 ⟨rfl, hh1⟩
      obtain ⟨hc1, hf1⟩ := bcell hh1
      have hz1 := hh1.size
      try simp only [World.size_alloc] at hz1
      have hz1_0 : w.heap.size < w1.heap.size := by omega
      have kb1_0_0 : w1.cell? ⟨w.heap.size, 0, none⟩ = some (.int .i64 p) := by go_simp
      have kf1_0_0 : w1.frozen? ⟨w.heap.size, 0, none⟩ = false := by go_simp
      have kb1_0_1 : w1.cell? ⟨w.heap.size, 1, none⟩ = some (.int .i64 q) := by go_simp
      have kf1_0_1 : w1.frozen? ⟨w.heap.size, 1, none⟩ = false := by go_simp
      clear hc1 hf1
      go_wp2_with fail
      refine (furtherOk_is a false _ HA.out).mono ?_
      rintro e wx ⟨rfl, rfl⟩
      go_wp2
      go_ret
      exact ⟨ret_int HV.out.symm, by (repeat (first | exact Below.refl _ _ | refine Below.setCell ?_ (by first | omega | (simp <;> omega)) _ | refine Below.alloc ?_ (by first | omega | (simp <;> omega)) _ | refine Below.drew ?_ | refine Below.trans ?_ (Below.mono (by assumption) (by first | omega | (simp <;> omega))) | refine Below.grown ?_ (by assumption) (by first | omega | (simp <;> omega)) (fun k e => by cases e; first | omega | (simp <;> omega))))⟩
    · have HP := Lib.hid hp
      have HA := Lib.hid ha
      have HB := Lib.hid hb
      clear hp ha hb h
      go_enter Try.func17, Try.ntmps17
      go_wp2_with fail
      refine (implPairOk_yes p q _ HP.out).mono ?_
      rintro e w1 ⟨rfl, hh1⟩
      obtain ⟨hc1, hf1⟩ := bcell hh1
      have hz1 := hh1.size
      try simp only [World.size_alloc] at hz1
      have hz1_0 : w.heap.size < w1.heap.size := by omega
      have kb1_0_0 : w1.cell? ⟨w.heap.size, 0, none⟩ = some (.int .i64 p) := by go_simp
      have kf1_0_0 : w1.frozen? ⟨w.heap.size, 0, none⟩ = false := by go_simp
      have kb1_0_1 : w1.cell? ⟨w.heap.size, 1, none⟩ = some (.int .i64 q) := by go_simp
      have kf1_0_1 : w1.frozen? ⟨w.heap.size, 1, none⟩ = false := by go_simp
      clear hc1 hf1
      go_wp2_with fail
      refine (furtherOk_is a true _ HA.out).mono ?_
      rintro e wx ⟨rfl, rfl⟩
      go_wp2_with fail
      refine (furtherOk_is b false _ HB.out).mono ?_
      rintro e wx ⟨rfl, rfl⟩
      go_wp2
      go_ret
      exact ⟨ret_int HV.out.symm, by (repeat (first | exact Below.refl _ _ | refine Below.setCell ?_ (by first | omega | (simp <;> omega)) _ | refine Below.alloc ?_ (by first | omega | (simp <;> omega)) _ | refine Below.drew ?_ | refine Below.trans ?_ (Below.mono (by assumption) (by first | omega | (simp <;> omega))) | refine Below.grown ?_ (by assumption) (by first | omega | (simp <;> omega)) (fun k e => by cases e; first | omega | (simp <;> omega))))⟩
theorem specFirst_is (p q n : Int) (c : Bool) (w : World) (h : atB p q n = c) : Calls Try.prog 47 #[pr p q, .int .i64 n] w fun e w' => e = .returned (.tuple #[.int .i64 (firstV p q n), .bool c]) ∧ Below w.heap.size w w' := by have := specFirst_any p q n w; rw [h] at this; exact this
theorem sharedB_told {p q a b : Int} (h : sharedB p q a b = false) : atB p q a = false ∨ (atB p q a = true ∧ atB p q b = false) ∨ (atB p q a = true ∧ atB p q b = true ∧ a < 1) ∨ (atB p q a = true ∧ atB p q b = true ∧ 1 ≤ a ∧ b < 1) := by
  cases ha : atB p q a with
  | false => exact .inl rfl
  | true =>
    cases hb : atB p q b with
    | false => exact .inr (.inl ⟨rfl, rfl⟩)
    | true =>
      have ha' : pairB p q = true ∧ placeB a = true := by simpa [atB] using ha
      have hb' : pairB p q = true ∧ placeB b = true := by simpa [atB] using hb
      obtain ⟨a1, a2⟩ := placeB_true ha'.2
      obtain ⟨b1, b2⟩ := placeB_true hb'.2
      by_cases h1 : a < 1
      · exact .inr (.inr (.inl ⟨rfl, rfl, h1⟩))
      · by_cases h2 : b < 1
        · exact .inr (.inr (.inr ⟨rfl, rfl, by omega, h2⟩))
        · have e : sharedB p q a b = true := by simp [sharedB, ha'.1, inB_mk (n := a) (a := 1) (b := 20) (by omega) (by omega), inB_mk (n := b) (a := 1) (b := 20) (by omega) (by omega)]
          rw [e] at h; cases h
set_option maxHeartbeats 4000000 in
theorem specShared_any (p q a b : Int) (w : World) : Calls Try.prog 18 #[pr p q, .int .i64 a, .int .i64 b] w fun e w' => e = .returned (.int .i64 (sharedV p q a b)) ∧ Below w.heap.size w w' := by
  cases h : sharedB p q a b with
  | true =>
    obtain ⟨hp, i, j, rfl, rfl, hi, hj⟩ := sharedB_true h
    obtain ⟨⟨r1, r2⟩, r3, r4⟩ := pairB_true hp
    have HV := Lib.hid (show sharedV p q ((i : Int) + 1) ((j : Int) + 1) = (Int.gcd (row p q 0 1 (i + 1)) (row p q 0 1 (j + 1)) : Int) by rw [sharedV, if_pos h]; rfl)
    have HP := Lib.hid hp
    clear hp h
    obtain ⟨x1, x2⟩ := first_far r1 r2 r3 r4 (i + 1) (by omega)
    obtain ⟨y1, y2⟩ := first_far r1 r2 r3 r4 (j + 1) (by omega)
    go_enter Try.func18, Try.ntmps18
    go_wp2_with fail
    refine (specFirst_at p q (i + 1) _ _ _ (by omega) HP.out (by omega) rfl).mono ?_
    rintro e w1 ⟨rfl, hh1⟩
    obtain ⟨hc1, hf1⟩ := bcell hh1
    have hz1 := hh1.size
    try simp only [World.size_alloc] at hz1
    have hz1_0 : w.heap.size < w1.heap.size := by omega
    have kb1_0_0 : w1.cell? ⟨w.heap.size, 0, none⟩ = some (.int .i64 p) := by go_simp
    have kf1_0_0 : w1.frozen? ⟨w.heap.size, 0, none⟩ = false := by go_simp
    have kb1_0_1 : w1.cell? ⟨w.heap.size, 1, none⟩ = some (.int .i64 q) := by go_simp
    have kf1_0_1 : w1.frozen? ⟨w.heap.size, 1, none⟩ = false := by go_simp
    clear hc1 hf1
    go_wp2_with fail
    refine (specFirst_at p q (j + 1) _ _ _ (by omega) HP.out (by omega) rfl).mono ?_
    rintro e w2 ⟨rfl, hh2⟩
    obtain ⟨hc2, hf2⟩ := bcell hh2
    have hz2 := hh2.size
    try simp only [World.size_alloc] at hz2
    have hz2_0 : w.heap.size < w2.heap.size := by omega
    have kb2_0_0 : w2.cell? ⟨w.heap.size, 0, none⟩ = some (.int .i64 p) := by go_simp
    have kf2_0_0 : w2.frozen? ⟨w.heap.size, 0, none⟩ = false := by go_simp
    have kb2_0_1 : w2.cell? ⟨w.heap.size, 1, none⟩ = some (.int .i64 q) := by go_simp
    have kf2_0_1 : w2.frozen? ⟨w.heap.size, 1, none⟩ = false := by go_simp
    clear hc2 hf2
    go_wp2_with fail
    refine (l1Common_at _ _ _ (by omega) (by omega) (by omega) (by omega)).mono ?_
    rintro e wx ⟨rfl, rfl⟩
    go_wp2
    go_ret
    exact ⟨ret_int HV.out.symm, by (repeat (first | exact Below.refl _ _ | refine Below.setCell ?_ (by first | omega | (simp <;> omega)) _ | refine Below.alloc ?_ (by first | omega | (simp <;> omega)) _ | refine Below.drew ?_ | refine Below.trans ?_ (Below.mono (by assumption) (by first | omega | (simp <;> omega))) | refine Below.grown ?_ (by assumption) (by first | omega | (simp <;> omega)) (fun k e => by cases e; first | omega | (simp <;> omega))))⟩
  | false =>
    have HV := Lib.hid (show sharedV p q a b = -1 by rw [sharedV, if_neg (by simp [h])])
    rcases sharedB_told h with ha | ⟨ha, hb⟩ | ⟨ha, hb, hc⟩ | ⟨ha, hb, hc, hd⟩
    · have HA := Lib.hid ha
      clear ha h
      go_enter Try.func18, Try.ntmps18
      go_wp2_with fail
      refine (specFirst_is p q a false _ HA.out).mono ?_
      rintro e w1 ⟨rfl, hh1⟩
      obtain ⟨hc1, hf1⟩ := bcell hh1
      have hz1 := hh1.size
      try simp only [World.size_alloc] at hz1
      have hz1_0 : w.heap.size < w1.heap.size := by omega
      have kb1_0_0 : w1.cell? ⟨w.heap.size, 0, none⟩ = some (.int .i64 p) := by go_simp
      have kf1_0_0 : w1.frozen? ⟨w.heap.size, 0, none⟩ = false := by go_simp
      have kb1_0_1 : w1.cell? ⟨w.heap.size, 1, none⟩ = some (.int .i64 q) := by go_simp
      have kf1_0_1 : w1.frozen? ⟨w.heap.size, 1, none⟩ = false := by go_simp
      clear hc1 hf1
      go_wp2_with fail
      refine (specFirst_any p q b _).mono ?_
      rintro e w2 ⟨rfl, hh2⟩
      obtain ⟨hc2, hf2⟩ := bcell hh2
      have hz2 := hh2.size
      try simp only [World.size_alloc] at hz2
      have hz2_0 : w.heap.size < w2.heap.size := by omega
      have kb2_0_0 : w2.cell? ⟨w.heap.size, 0, none⟩ = some (.int .i64 p) := by go_simp
      have kf2_0_0 : w2.frozen? ⟨w.heap.size, 0, none⟩ = false := by go_simp
      have kb2_0_1 : w2.cell? ⟨w.heap.size, 1, none⟩ = some (.int .i64 q) := by go_simp
      have kf2_0_1 : w2.frozen? ⟨w.heap.size, 1, none⟩ = false := by go_simp
      clear hc2 hf2
      go_wp2
      go_ret
      exact ⟨ret_int HV.out.symm, by (repeat (first | exact Below.refl _ _ | refine Below.setCell ?_ (by first | omega | (simp <;> omega)) _ | refine Below.alloc ?_ (by first | omega | (simp <;> omega)) _ | refine Below.drew ?_ | refine Below.trans ?_ (Below.mono (by assumption) (by first | omega | (simp <;> omega))) | refine Below.grown ?_ (by assumption) (by first | omega | (simp <;> omega)) (fun k e => by cases e; first | omega | (simp <;> omega))))⟩
    · have HA := Lib.hid ha
      have HB := Lib.hid hb
      clear ha hb h
      go_enter Try.func18, Try.ntmps18
      go_wp2_with fail
      refine (specFirst_is p q a true _ HA.out).mono ?_
      rintro e w1 ⟨rfl, hh1⟩
      obtain ⟨hc1, hf1⟩ := bcell hh1
      have hz1 := hh1.size
      try simp only [World.size_alloc] at hz1
      have hz1_0 : w.heap.size < w1.heap.size := by omega
      have kb1_0_0 : w1.cell? ⟨w.heap.size, 0, none⟩ = some (.int .i64 p) := by go_simp
      have kf1_0_0 : w1.frozen? ⟨w.heap.size, 0, none⟩ = false := by go_simp
      have kb1_0_1 : w1.cell? ⟨w.heap.size, 1, none⟩ = some (.int .i64 q) := by go_simp
      have kf1_0_1 : w1.frozen? ⟨w.heap.size, 1, none⟩ = false := by go_simp
      clear hc1 hf1
      go_wp2_with fail
      refine (specFirst_is p q b false _ HB.out).mono ?_
      rintro e w2 ⟨rfl, hh2⟩
      obtain ⟨hc2, hf2⟩ := bcell hh2
      have hz2 := hh2.size
      try simp only [World.size_alloc] at hz2
      have hz2_0 : w.heap.size < w2.heap.size := by omega
      have kb2_0_0 : w2.cell? ⟨w.heap.size, 0, none⟩ = some (.int .i64 p) := by go_simp
      have kf2_0_0 : w2.frozen? ⟨w.heap.size, 0, none⟩ = false := by go_simp
      have kb2_0_1 : w2.cell? ⟨w.heap.size, 1, none⟩ = some (.int .i64 q) := by go_simp
      have kf2_0_1 : w2.frozen? ⟨w.heap.size, 1, none⟩ = false := by go_simp
      clear hc2 hf2
      go_wp2
      go_ret
      exact ⟨ret_int HV.out.symm, by (repeat (first | exact Below.refl _ _ | refine Below.setCell ?_ (by first | omega | (simp <;> omega)) _ | refine Below.alloc ?_ (by first | omega | (simp <;> omega)) _ | refine Below.drew ?_ | refine Below.trans ?_ (Below.mono (by assumption) (by first | omega | (simp <;> omega))) | refine Below.grown ?_ (by assumption) (by first | omega | (simp <;> omega)) (fun k e => by cases e; first | omega | (simp <;> omega))))⟩
    · have HA := Lib.hid ha
      have HB := Lib.hid hb
      clear ha hb h
      go_enter Try.func18, Try.ntmps18
      go_wp2_with fail
      refine (specFirst_is p q a true _ HA.out).mono ?_
      rintro e w1 ⟨rfl, hh1⟩
      obtain ⟨hc1, hf1⟩ := bcell hh1
      have hz1 := hh1.size
      try simp only [World.size_alloc] at hz1
      have hz1_0 : w.heap.size < w1.heap.size := by omega
      have kb1_0_0 : w1.cell? ⟨w.heap.size, 0, none⟩ = some (.int .i64 p) := by go_simp
      have kf1_0_0 : w1.frozen? ⟨w.heap.size, 0, none⟩ = false := by go_simp
      have kb1_0_1 : w1.cell? ⟨w.heap.size, 1, none⟩ = some (.int .i64 q) := by go_simp
      have kf1_0_1 : w1.frozen? ⟨w.heap.size, 1, none⟩ = false := by go_simp
      clear hc1 hf1
      go_wp2_with fail
      refine (specFirst_is p q b true _ HB.out).mono ?_
      rintro e w2 ⟨rfl, hh2⟩
      obtain ⟨hc2, hf2⟩ := bcell hh2
      have hz2 := hh2.size
      try simp only [World.size_alloc] at hz2
      have hz2_0 : w.heap.size < w2.heap.size := by omega
      have kb2_0_0 : w2.cell? ⟨w.heap.size, 0, none⟩ = some (.int .i64 p) := by go_simp
      have kf2_0_0 : w2.frozen? ⟨w.heap.size, 0, none⟩ = false := by go_simp
      have kb2_0_1 : w2.cell? ⟨w.heap.size, 1, none⟩ = some (.int .i64 q) := by go_simp
      have kf2_0_1 : w2.frozen? ⟨w.heap.size, 1, none⟩ = false := by go_simp
      clear hc2 hf2
      go_wp2
      go_ret
      exact ⟨ret_int HV.out.symm, by (repeat (first | exact Below.refl _ _ | refine Below.setCell ?_ (by first | omega | (simp <;> omega)) _ | refine Below.alloc ?_ (by first | omega | (simp <;> omega)) _ | refine Below.drew ?_ | refine Below.trans ?_ (Below.mono (by assumption) (by first | omega | (simp <;> omega))) | refine Below.grown ?_ (by assumption) (by first | omega | (simp <;> omega)) (fun k e => by cases e; first | omega | (simp <;> omega))))⟩
    · have HA := Lib.hid ha
      have HB := Lib.hid hb
      clear ha hb h
      go_enter Try.func18, Try.ntmps18
      go_wp2_with fail
      refine (specFirst_is p q a true _ HA.out).mono ?_
      rintro e w1 ⟨rfl, hh1⟩
      obtain ⟨hc1, hf1⟩ := bcell hh1
      have hz1 := hh1.size
      try simp only [World.size_alloc] at hz1
      have hz1_0 : w.heap.size < w1.heap.size := by omega
      have kb1_0_0 : w1.cell? ⟨w.heap.size, 0, none⟩ = some (.int .i64 p) := by go_simp
      have kf1_0_0 : w1.frozen? ⟨w.heap.size, 0, none⟩ = false := by go_simp
      have kb1_0_1 : w1.cell? ⟨w.heap.size, 1, none⟩ = some (.int .i64 q) := by go_simp
      have kf1_0_1 : w1.frozen? ⟨w.heap.size, 1, none⟩ = false := by go_simp
      clear hc1 hf1
      go_wp2_with fail
      refine (specFirst_is p q b true _ HB.out).mono ?_
      rintro e w2 ⟨rfl, hh2⟩
      obtain ⟨hc2, hf2⟩ := bcell hh2
      have hz2 := hh2.size
      try simp only [World.size_alloc] at hz2
      have hz2_0 : w.heap.size < w2.heap.size := by omega
      have kb2_0_0 : w2.cell? ⟨w.heap.size, 0, none⟩ = some (.int .i64 p) := by go_simp
      have kf2_0_0 : w2.frozen? ⟨w.heap.size, 0, none⟩ = false := by go_simp
      have kb2_0_1 : w2.cell? ⟨w.heap.size, 1, none⟩ = some (.int .i64 q) := by go_simp
      have kf2_0_1 : w2.frozen? ⟨w.heap.size, 1, none⟩ = false := by go_simp
      clear hc2 hf2
      go_wp2
      go_ret
      exact ⟨ret_int HV.out.symm, by (repeat (first | exact Below.refl _ _ | refine Below.setCell ?_ (by first | omega | (simp <;> omega)) _ | refine Below.alloc ?_ (by first | omega | (simp <;> omega)) _ | refine Below.drew ?_ | refine Below.trans ?_ (Below.mono (by assumption) (by first | omega | (simp <;> omega))) | refine Below.grown ?_ (by assumption) (by first | omega | (simp <;> omega)) (fun k e => by cases e; first | omega | (simp <;> omega))))⟩
theorem quotB_ways {p q n t : Int} (h : quotB p q n t = false) : pairB p q = false ∨ (pairB p q = true ∧ inB n 1 20 = false) ∨ (pairB p q = true ∧ inB n 1 20 = true ∧ t < 1) ∨ (pairB p q = true ∧ inB n 1 20 = true ∧ 1 ≤ t ∧ 20 < n * t) ∨
    (pairB p q = true ∧ inB n 1 20 = true ∧ 1 ≤ t ∧ n * t ≤ 20 ∧ row p q 0 1 n.toNat = 0) := by
  cases hp : pairB p q with
  | false => exact .inl rfl
  | true =>
    cases ha : inB n 1 20 with
    | false => exact .inr (.inl ⟨rfl, rfl⟩)
    | true =>
      by_cases h1 : t < 1
      · exact .inr (.inr (.inl ⟨rfl, rfl, h1⟩))
      · by_cases h2 : 20 < n * t
        · exact .inr (.inr (.inr (.inl ⟨rfl, rfl, by omega, h2⟩)))
        · refine .inr (.inr (.inr (.inr ⟨rfl, rfl, by omega, by omega, ?_⟩)))
          have : 1 ≤ t → n * t ≤ 20 → row p q 0 1 n.toNat = 0 := by simpa [quotB, hp, ha] using h
          exact this (by omega) (by omega)
theorem further_nat {n : Int} (h : inB n 1 20 = true) : ∃ i : Nat, n = (i : Int) + 1 ∧ i ≤ 19 := by
  obtain ⟨a1, a2⟩ := inB_true h
  exact ⟨(n - 1).toNat, by omega, by omega⟩
set_option maxHeartbeats 4000000 in
theorem implQuotient_any (p q n t : Int) (w : World) : Calls Try.prog 22 #[pr p q, .int .i64 n, .int .i64 t] w fun e w' => e = .returned (.tuple #[.int .i64 (quotV p q n t), .bool (quotB p q n t)]) ∧ Below w.heap.size w w' := by
  cases h : quotB p q n t with
  | true =>
    obtain ⟨hp, i, j, rfl, rfl, hm, h0⟩ := quotB_true h
    obtain ⟨⟨r1, r2⟩, r3, r4⟩ := pairB_true hp
    have HV := Lib.hid (quotV_is h)
    have HP := Lib.hid hp
    clear hp h
    obtain ⟨hi, hj⟩ := times_bd hm
    obtain ⟨x1, x2⟩ := first_far r1 r2 r3 r4 (i + 1) (by omega)
    obtain ⟨y1, y2⟩ := first_far r1 r2 r3 r4 ((i + 1) * (j + 1)) hm
    obtain ⟨z1, z2⟩ := tdiv_bd (b := row p q 0 1 (i + 1)) y1 y2
    have hz : (row p q 0 1 (i + 1) == 0) = false := by simpa using h0
    have E : ((i : Int) + 1) * ((j : Int) + 1) = (((i + 1) * (j + 1) : Nat) : Int) := by simp
    have U1 : IntKind.i64.wrap (((i : Int) + 1) * ((j : Int) + 1)) = ((i : Int) + 1) * ((j : Int) + 1) := by rw [IntKind.wrap_i64]; omega
    have HE := Lib.hid E
    clear E
    have U2 : IntKind.i64.wrap ((row p q 0 1 ((i + 1) * (j + 1))).tdiv (row p q 0 1 (i + 1))) = (row p q 0 1 ((i + 1) * (j + 1))).tdiv (row p q 0 1 (i + 1)) := by rw [IntKind.wrap_i64]; omega
    have HA := Lib.hid (inB_mk (n := (i : Int) + 1) (a := 1) (b := 20) (by omega) (by omega))
    obtain ⟨⟨c1, c2⟩, hc⟩ := times_in i ((j : Int) + 1) (by omega)
    obtain ⟨c, hcc⟩ : ∃ c, (20 : Int).tdiv ((i : Int) + 1) = c := ⟨_, rfl⟩
    rw [hcc] at c1 c2 hc
    have hle : (j : Int) + 1 ≤ c := Int.not_lt.1 (fun hlt => by have h3 := hc.1 hlt; rw [HE.out] at h3; omega)
    have hne : (((i : Int) + 1) == 0) = false := by simp; omega
    clear hc
    go_enter Try.func22, Try.ntmps22
    go_wp2_with fail
    refine (implPairOk_yes p q _ HP.out).mono ?_
    rintro e w1 ⟨rfl, hh1⟩
    obtain ⟨hc1, hf1⟩ := bcell hh1
    have hz1 := hh1.size
    try simp only [World.size_alloc] at hz1
    have hz1_0 : w.heap.size < w1.heap.size := by omega
    have kb1_0_0 : w1.cell? ⟨w.heap.size, 0, none⟩ = some (.int .i64 p) := by go_simp
    have kf1_0_0 : w1.frozen? ⟨w.heap.size, 0, none⟩ = false := by go_simp
    have kb1_0_1 : w1.cell? ⟨w.heap.size, 1, none⟩ = some (.int .i64 q) := by go_simp
    have kf1_0_1 : w1.frozen? ⟨w.heap.size, 1, none⟩ = false := by go_simp
    clear hc1 hf1
    go_wp2_with fail
    refine (furtherOk_is _ true _ HA.out).mono ?_
    rintro e wx ⟨rfl, rfl⟩
    go_wp2_with fail
    refine (firstOf_at p q (i + 1) _ _ _ (by omega) HP.out (by omega) rfl).mono ?_
    rintro e w2 ⟨rfl, hh2⟩
    obtain ⟨hc2, hf2⟩ := bcell hh2
    have hz2 := hh2.size
    try simp only [World.size_alloc] at hz2
    have hz2_0 : w.heap.size < w2.heap.size := by omega
    have kb2_0_0 : w2.cell? ⟨w.heap.size, 0, none⟩ = some (.int .i64 p) := by go_simp
    have kf2_0_0 : w2.frozen? ⟨w.heap.size, 0, none⟩ = false := by go_simp
    have kb2_0_1 : w2.cell? ⟨w.heap.size, 1, none⟩ = some (.int .i64 q) := by go_simp
    have kf2_0_1 : w2.frozen? ⟨w.heap.size, 1, none⟩ = false := by go_simp
    clear hc2 hf2
    go_wp2_with fail
    refine (firstOf_at p q ((i + 1) * (j + 1)) _ _ _ HE.out HP.out hm rfl).mono ?_
    rintro e w3 ⟨rfl, hh3⟩
    obtain ⟨hc3, hf3⟩ := bcell hh3
    have hz3 := hh3.size
    try simp only [World.size_alloc] at hz3
    have hz3_0 : w.heap.size < w3.heap.size := by omega
    have kb3_0_0 : w3.cell? ⟨w.heap.size, 0, none⟩ = some (.int .i64 p) := by go_simp
    have kf3_0_0 : w3.frozen? ⟨w.heap.size, 0, none⟩ = false := by go_simp
    have kb3_0_1 : w3.cell? ⟨w.heap.size, 1, none⟩ = some (.int .i64 q) := by go_simp
    have kf3_0_1 : w3.frozen? ⟨w.heap.size, 1, none⟩ = false := by go_simp
    clear hc3 hf3
    go_wp2
    go_ret2
    exact ⟨ret_int_bool HV.out.symm rfl, by (repeat (first | exact Below.refl _ _ | refine Below.setCell ?_ (by first | omega | (simp <;> omega)) _ | refine Below.alloc ?_ (by first | omega | (simp <;> omega)) _ | refine Below.drew ?_ | refine Below.trans ?_ (Below.mono (by assumption) (by first | omega | (simp <;> omega))) | refine Below.grown ?_ (by assumption) (by first | omega | (simp <;> omega)) (fun k e => by cases e; first | omega | (simp <;> omega))))⟩
  | false =>
    have HV := Lib.hid (show quotV p q n t = 0 by rw [quotV, if_neg (by simp [h])])
    rcases quotB_ways h with hp | ⟨hp, ha⟩ | ⟨hp, ha, ht⟩ | ⟨hp, ha, ht, hm⟩ | ⟨hp, ha, ht, hm, h0⟩
    · have HP := Lib.hid hp
      clear hp h
      go_enter Try.func22, Try.ntmps22
      go_wp2_with fail
      refine (implPairOk_no p q _ HP.out).mono ?_
      rintro e w1 ⟨rfl, hh1⟩
      obtain ⟨hc1, hf1⟩ := bcell hh1
      have hz1 := hh1.size
      try simp only [World.size_alloc] at hz1
      have hz1_0 : w.heap.size < w1.heap.size := by omega
      have kb1_0_0 : w1.cell? ⟨w.heap.size, 0, none⟩ = some (.int .i64 p) := by go_simp
      have kf1_0_0 : w1.frozen? ⟨w.heap.size, 0, none⟩ = false := by go_simp
      have kb1_0_1 : w1.cell? ⟨w.heap.size, 1, none⟩ = some (.int .i64 q) := by go_simp
      have kf1_0_1 : w1.frozen? ⟨w.heap.size, 1, none⟩ = false := by go_simp
      clear hc1 hf1
      go_wp2
      go_ret2
      exact ⟨ret_int_bool HV.out.symm rfl, by (repeat (first | exact Below.refl _ _ | refine Below.setCell ?_ (by first | omega | (simp <;> omega)) _ | refine Below.alloc ?_ (by first | omega | (simp <;> omega)) _ | refine Below.drew ?_ | refine Below.trans ?_ (Below.mono (by assumption) (by first | omega | (simp <;> omega))) | refine Below.grown ?_ (by assumption) (by first | omega | (simp <;> omega)) (fun k e => by cases e; first | omega | (simp <;> omega))))⟩
    · have HP := Lib.hid hp
      have HA := Lib.hid ha
      clear hp ha h
      go_enter Try.func22, Try.ntmps22
      go_wp2_with fail
      refine (implPairOk_yes p q _ HP.out).mono ?_
      rintro e w1 ⟨rfl, hh1⟩
      obtain ⟨hc1, hf1⟩ := bcell hh1
      have hz1 := hh1.size
      try simp only [World.size_alloc] at hz1
      have hz1_0 : w.heap.size < w1.heap.size := by omega
      have kb1_0_0 : w1.cell? ⟨w.heap.size, 0, none⟩ = some (.int .i64 p) := by go_simp
      have kf1_0_0 : w1.frozen? ⟨w.heap.size, 0, none⟩ = false := by go_simp
      have kb1_0_1 : w1.cell? ⟨w.heap.size, 1, none⟩ = some (.int .i64 q) := by go_simp
      have kf1_0_1 : w1.frozen? ⟨w.heap.size, 1, none⟩ = false := by go_simp
      clear hc1 hf1
      go_wp2_with fail
      refine (furtherOk_is _ false _ HA.out).mono ?_
      rintro e wx ⟨rfl, rfl⟩
      go_wp2
      go_ret2
      exact ⟨ret_int_bool HV.out.symm rfl, by (repeat (first | exact Below.refl _ _ | refine Below.setCell ?_ (by first | omega | (simp <;> omega)) _ | refine Below.alloc ?_ (by first | omega | (simp <;> omega)) _ | refine Below.drew ?_ | refine Below.trans ?_ (Below.mono (by assumption) (by first | omega | (simp <;> omega))) | refine Below.grown ?_ (by assumption) (by first | omega | (simp <;> omega)) (fun k e => by cases e; first | omega | (simp <;> omega))))⟩
    · have HP := Lib.hid hp
      have HA := Lib.hid ha
      clear hp ha h
      go_enter Try.func22, Try.ntmps22
      go_wp2_with fail
      refine (implPairOk_yes p q _ HP.out).mono ?_
      rintro e w1 ⟨rfl, hh1⟩
      obtain ⟨hc1, hf1⟩ := bcell hh1
      have hz1 := hh1.size
      try simp only [World.size_alloc] at hz1
      have hz1_0 : w.heap.size < w1.heap.size := by omega
      have kb1_0_0 : w1.cell? ⟨w.heap.size, 0, none⟩ = some (.int .i64 p) := by go_simp
      have kf1_0_0 : w1.frozen? ⟨w.heap.size, 0, none⟩ = false := by go_simp
      have kb1_0_1 : w1.cell? ⟨w.heap.size, 1, none⟩ = some (.int .i64 q) := by go_simp
      have kf1_0_1 : w1.frozen? ⟨w.heap.size, 1, none⟩ = false := by go_simp
      clear hc1 hf1
      go_wp2_with fail
      refine (furtherOk_is _ true _ HA.out).mono ?_
      rintro e wx ⟨rfl, rfl⟩
      go_wp2
      go_ret2
      exact ⟨ret_int_bool HV.out.symm rfl, by (repeat (first | exact Below.refl _ _ | refine Below.setCell ?_ (by first | omega | (simp <;> omega)) _ | refine Below.alloc ?_ (by first | omega | (simp <;> omega)) _ | refine Below.drew ?_ | refine Below.trans ?_ (Below.mono (by assumption) (by first | omega | (simp <;> omega))) | refine Below.grown ?_ (by assumption) (by first | omega | (simp <;> omega)) (fun k e => by cases e; first | omega | (simp <;> omega))))⟩
    · have HP := Lib.hid hp
      have HA := Lib.hid ha
      obtain ⟨i, rfl, hi⟩ := further_nat ha
      obtain ⟨⟨c1, c2⟩, hc⟩ := times_in i t (by omega)
      obtain ⟨c, hcc⟩ : ∃ c, (20 : Int).tdiv ((i : Int) + 1) = c := ⟨_, rfl⟩
      rw [hcc] at c1 c2 hc
      have hne : (((i : Int) + 1) == 0) = false := by simp; omega
      have hlt : c < t := hc.2 hm
      clear hp ha h hc hm
      go_enter Try.func22, Try.ntmps22
      go_wp2_with fail
      refine (implPairOk_yes p q _ HP.out).mono ?_
      rintro e w1 ⟨rfl, hh1⟩
      obtain ⟨hc1, hf1⟩ := bcell hh1
      have hz1 := hh1.size
      try simp only [World.size_alloc] at hz1
      have hz1_0 : w.heap.size < w1.heap.size := by omega
      have kb1_0_0 : w1.cell? ⟨w.heap.size, 0, none⟩ = some (.int .i64 p) := by go_simp
      have kf1_0_0 : w1.frozen? ⟨w.heap.size, 0, none⟩ = false := by go_simp
      have kb1_0_1 : w1.cell? ⟨w.heap.size, 1, none⟩ = some (.int .i64 q) := by go_simp
      have kf1_0_1 : w1.frozen? ⟨w.heap.size, 1, none⟩ = false := by go_simp
      clear hc1 hf1
      go_wp2_with fail
      refine (furtherOk_is _ true _ HA.out).mono ?_
      rintro e wx ⟨rfl, rfl⟩
      go_wp2
      go_ret2
      exact ⟨ret_int_bool HV.out.symm rfl, by (repeat (first | exact Below.refl _ _ | refine Below.setCell ?_ (by first | omega | (simp <;> omega)) _ | refine Below.alloc ?_ (by first | omega | (simp <;> omega)) _ | refine Below.drew ?_ | refine Below.trans ?_ (Below.mono (by assumption) (by first | omega | (simp <;> omega))) | refine Below.grown ?_ (by assumption) (by first | omega | (simp <;> omega)) (fun k e => by cases e; first | omega | (simp <;> omega))))⟩
    · have HP := Lib.hid hp
      have HA := Lib.hid ha
      obtain ⟨⟨r1, r2⟩, r3, r4⟩ := pairB_true hp
      obtain ⟨i, rfl, hi⟩ := further_nat ha
      have H0 := Lib.hid (show row p q 0 1 (i + 1) = 0 from h0)
      obtain ⟨⟨c1, c2⟩, hc⟩ := times_in i t (by omega)
      obtain ⟨c, hcc⟩ : ∃ c, (20 : Int).tdiv ((i : Int) + 1) = c := ⟨_, rfl⟩
      rw [hcc] at c1 c2 hc
      have hne : (((i : Int) + 1) == 0) = false := by simp; omega
      have hle : t ≤ c := by omega
      clear hp ha h hc hm h0
      go_enter Try.func22, Try.ntmps22
      go_wp2_with fail
      refine (implPairOk_yes p q _ HP.out).mono ?_
      rintro e w1 ⟨rfl, hh1⟩
      obtain ⟨hc1, hf1⟩ := bcell hh1
      have hz1 := hh1.size
      try simp only [World.size_alloc] at hz1
      have hz1_0 : w.heap.size < w1.heap.size := by omega
      have kb1_0_0 : w1.cell? ⟨w.heap.size, 0, none⟩ = some (.int .i64 p) := by go_simp
      have kf1_0_0 : w1.frozen? ⟨w.heap.size, 0, none⟩ = false := by go_simp
      have kb1_0_1 : w1.cell? ⟨w.heap.size, 1, none⟩ = some (.int .i64 q) := by go_simp
      have kf1_0_1 : w1.frozen? ⟨w.heap.size, 1, none⟩ = false := by go_simp
      clear hc1 hf1
      go_wp2_with fail
      refine (furtherOk_is _ true _ HA.out).mono ?_
      rintro e wx ⟨rfl, rfl⟩
      go_wp2_with fail
      refine (firstOf_at p q (i + 1) 0 _ _ (by omega) HP.out (by omega) H0.out).mono ?_
      rintro e w2 ⟨rfl, hh2⟩
      obtain ⟨hc2, hf2⟩ := bcell hh2
      have hz2 := hh2.size
      try simp only [World.size_alloc] at hz2
      have hz2_0 : w.heap.size < w2.heap.size := by omega
      have kb2_0_0 : w2.cell? ⟨w.heap.size, 0, none⟩ = some (.int .i64 p) := by go_simp
      have kf2_0_0 : w2.frozen? ⟨w.heap.size, 0, none⟩ = false := by go_simp
      have kb2_0_1 : w2.cell? ⟨w.heap.size, 1, none⟩ = some (.int .i64 q) := by go_simp
      have kf2_0_1 : w2.frozen? ⟨w.heap.size, 1, none⟩ = false := by go_simp
      clear hc2 hf2
      go_wp2
      go_ret2
      exact ⟨ret_int_bool HV.out.symm rfl, by (repeat (first | exact Below.refl _ _ | refine Below.setCell ?_ (by first | omega | (simp <;> omega)) _ | refine Below.alloc ?_ (by first | omega | (simp <;> omega)) _ | refine Below.drew ?_ | refine Below.trans ?_ (Below.mono (by assumption) (by first | omega | (simp <;> omega))) | refine Below.grown ?_ (by assumption) (by first | omega | (simp <;> omega)) (fun k e => by cases e; first | omega | (simp <;> omega))))⟩
set_option maxHeartbeats 4000000 in
theorem specQuotient_any (p q n t : Int) (w : World) : Calls Try.prog 23 #[pr p q, .int .i64 n, .int .i64 t] w fun e w' => e = .returned (.tuple #[.int .i64 (quotV p q n t), .bool (quotB p q n t)]) ∧ Below w.heap.size w w' := by
  cases h : quotB p q n t with
  | true =>
    obtain ⟨hp, i, j, rfl, rfl, hm, h0⟩ := quotB_true h
    obtain ⟨⟨r1, r2⟩, r3, r4⟩ := pairB_true hp
    have HV := Lib.hid (quotV_is h)
    have HP := Lib.hid hp
    clear hp h
    obtain ⟨hi, hj⟩ := times_bd hm
    obtain ⟨x1, x2⟩ := first_far r1 r2 r3 r4 (i + 1) (by omega)
    obtain ⟨y1, y2⟩ := first_far r1 r2 r3 r4 ((i + 1) * (j + 1)) hm
    obtain ⟨z1, z2⟩ := tdiv_bd (b := row p q 0 1 (i + 1)) y1 y2
    have hz : (row p q 0 1 (i + 1) == 0) = false := by simpa using h0
    have E : ((i : Int) + 1) * ((j : Int) + 1) = (((i + 1) * (j + 1) : Nat) : Int) := by simp
    have U1 : IntKind.i64.wrap (((i : Int) + 1) * ((j : Int) + 1)) = ((i : Int) + 1) * ((j : Int) + 1) := by rw [IntKind.wrap_i64]; omega
    have HE := Lib.hid E
    clear E
    have U2 : IntKind.i64.wrap ((row p q 0 1 ((i + 1) * (j + 1))).tdiv (row p q 0 1 (i + 1))) = (row p q 0 1 ((i + 1) * (j + 1))).tdiv (row p q 0 1 (i + 1)) := by rw [IntKind.wrap_i64]; omega
    have HA := Lib.hid (inB_mk (n := (i : Int) + 1) (a := 1) (b := 20) (by omega) (by omega))
    have HT := Lib.hid (inB_mk (n := (j : Int) + 1) (a := 1) (b := 20) (by omega) (by omega))
    go_enter Try.func23, Try.ntmps23
    go_wp2_with fail
    refine (l1In_yes _ 1 20 _ HA.out).mono ?_
    rintro e wx ⟨rfl, rfl⟩
    go_wp2_with fail
    refine (l1In_yes _ 1 20 _ HT.out).mono ?_
    rintro e wx ⟨rfl, rfl⟩
    go_wp2_with fail
    refine (specFirst_at p q (i + 1) _ _ _ (by omega) HP.out (by omega) rfl).mono ?_
    rintro e w2 ⟨rfl, hh2⟩
    obtain ⟨hc2, hf2⟩ := bcell hh2
    have hz2 := hh2.size
    try simp only [World.size_alloc] at hz2
    have hz2_0 : w.heap.size < w2.heap.size := by omega
    have kb2_0_0 : w2.cell? ⟨w.heap.size, 0, none⟩ = some (.int .i64 p) := by go_simp
    have kf2_0_0 : w2.frozen? ⟨w.heap.size, 0, none⟩ = false := by go_simp
    have kb2_0_1 : w2.cell? ⟨w.heap.size, 1, none⟩ = some (.int .i64 q) := by go_simp
    have kf2_0_1 : w2.frozen? ⟨w.heap.size, 1, none⟩ = false := by go_simp
    clear hc2 hf2
    go_wp2_with fail
    refine (specFirst_at p q ((i + 1) * (j + 1)) _ _ _ HE.out HP.out hm rfl).mono ?_
    rintro e w3 ⟨rfl, hh3⟩
    obtain ⟨hc3, hf3⟩ := bcell hh3
    have hz3 := hh3.size
    try simp only [World.size_alloc] at hz3
    have hz3_0 : w.heap.size < w3.heap.size := by omega
    have kb3_0_0 : w3.cell? ⟨w.heap.size, 0, none⟩ = some (.int .i64 p) := by go_simp
    have kf3_0_0 : w3.frozen? ⟨w.heap.size, 0, none⟩ = false := by go_simp
    have kb3_0_1 : w3.cell? ⟨w.heap.size, 1, none⟩ = some (.int .i64 q) := by go_simp
    have kf3_0_1 : w3.frozen? ⟨w.heap.size, 1, none⟩ = false := by go_simp
    clear hc3 hf3
    go_wp2
    go_ret2
    exact ⟨ret_int_bool HV.out.symm rfl, by (repeat (first | exact Below.refl _ _ | refine Below.setCell ?_ (by first | omega | (simp <;> omega)) _ | refine Below.alloc ?_ (by first | omega | (simp <;> omega)) _ | refine Below.drew ?_ | refine Below.trans ?_ (Below.mono (by assumption) (by first | omega | (simp <;> omega))) | refine Below.grown ?_ (by assumption) (by first | omega | (simp <;> omega)) (fun k e => by cases e; first | omega | (simp <;> omega))))⟩
  | false =>
    have HV := Lib.hid (show quotV p q n t = 0 by rw [quotV, if_neg (by simp [h])])
    cases ha : inB n 1 20 with
    | false =>
      have HA := Lib.hid ha
      clear ha h
      go_enter Try.func23, Try.ntmps23
      go_wp2_with fail
      refine (l1In_no _ 1 20 _ HA.out).mono ?_
      rintro e wx ⟨rfl, rfl⟩
      go_wp2
      go_ret2
      exact ⟨ret_int_bool HV.out.symm rfl, by (repeat (first | exact Below.refl _ _ | refine Below.setCell ?_ (by first | omega | (simp <;> omega)) _ | refine Below.alloc ?_ (by first | omega | (simp <;> omega)) _ | refine Below.drew ?_ | refine Below.trans ?_ (Below.mono (by assumption) (by first | omega | (simp <;> omega))) | refine Below.grown ?_ (by assumption) (by first | omega | (simp <;> omega)) (fun k e => by cases e; first | omega | (simp <;> omega))))⟩
    | true =>
      cases ht : inB t 1 20 with
      | false =>
        have HA := Lib.hid ha
        have HT := Lib.hid ht
        clear ha ht h
        go_enter Try.func23, Try.ntmps23
        go_wp2_with fail
        refine (l1In_yes _ 1 20 _ HA.out).mono ?_
        rintro e wx ⟨rfl, rfl⟩
        go_wp2_with fail
        refine (l1In_no _ 1 20 _ HT.out).mono ?_
        rintro e wx ⟨rfl, rfl⟩
        go_wp2
        go_ret2
        exact ⟨ret_int_bool HV.out.symm rfl, by (repeat (first | exact Below.refl _ _ | refine Below.setCell ?_ (by first | omega | (simp <;> omega)) _ | refine Below.alloc ?_ (by first | omega | (simp <;> omega)) _ | refine Below.drew ?_ | refine Below.trans ?_ (Below.mono (by assumption) (by first | omega | (simp <;> omega))) | refine Below.grown ?_ (by assumption) (by first | omega | (simp <;> omega)) (fun k e => by cases e; first | omega | (simp <;> omega))))⟩
      | true =>
        obtain ⟨i, rfl, hi⟩ := further_nat ha
        obtain ⟨j, rfl, hj⟩ := further_nat ht
        have HA := Lib.hid ha
        have HT := Lib.hid ht
        have E : ((i : Int) + 1) * ((j : Int) + 1) = (((i + 1) * (j + 1) : Nat) : Int) := by simp
        have hm1 : (i + 1) * (j + 1) ≤ 400 := Nat.mul_le_mul (show i + 1 ≤ 20 by omega) (show j + 1 ≤ 20 by omega)
        have U1 : IntKind.i64.wrap (((i : Int) + 1) * ((j : Int) + 1)) = ((i : Int) + 1) * ((j : Int) + 1) := by rw [IntKind.wrap_i64]; omega
        have HE := Lib.hid E
        rcases quotB_ways h with hp | ⟨hp, ha'⟩ | ⟨hp, ha', ht'⟩ | ⟨hp, ha', ht', hm⟩ | ⟨hp, ha', ht', hm, h0⟩
        · have HN := Lib.hid (show atB p q ((i : Int) + 1) = false by simp [atB, hp])
          clear hp ha ht h E hm1
          go_enter Try.func23, Try.ntmps23
          go_wp2_with fail
          refine (l1In_yes _ 1 20 _ HA.out).mono ?_
          rintro e wx ⟨rfl, rfl⟩
          go_wp2_with fail
          refine (l1In_yes _ 1 20 _ HT.out).mono ?_
          rintro e wx ⟨rfl, rfl⟩
          go_wp2_with fail
          refine (specFirst_no p q _ _ HN.out).mono ?_
          rintro e w2 ⟨rfl, hh2⟩
          obtain ⟨hc2, hf2⟩ := bcell hh2
          have hz2 := hh2.size
          try simp only [World.size_alloc] at hz2
          have hz2_0 : w.heap.size < w2.heap.size := by omega
          have kb2_0_0 : w2.cell? ⟨w.heap.size, 0, none⟩ = some (.int .i64 p) := by go_simp
          have kf2_0_0 : w2.frozen? ⟨w.heap.size, 0, none⟩ = false := by go_simp
          have kb2_0_1 : w2.cell? ⟨w.heap.size, 1, none⟩ = some (.int .i64 q) := by go_simp
          have kf2_0_1 : w2.frozen? ⟨w.heap.size, 1, none⟩ = false := by go_simp
          clear hc2 hf2
          go_wp2_with fail
          refine (specFirst_any p q _ _).mono ?_
          rintro e w3 ⟨rfl, hh3⟩
          obtain ⟨hc3, hf3⟩ := bcell hh3
          have hz3 := hh3.size
          try simp only [World.size_alloc] at hz3
          have hz3_0 : w.heap.size < w3.heap.size := by omega
          have kb3_0_0 : w3.cell? ⟨w.heap.size, 0, none⟩ = some (.int .i64 p) := by go_simp
          have kf3_0_0 : w3.frozen? ⟨w.heap.size, 0, none⟩ = false := by go_simp
          have kb3_0_1 : w3.cell? ⟨w.heap.size, 1, none⟩ = some (.int .i64 q) := by go_simp
          have kf3_0_1 : w3.frozen? ⟨w.heap.size, 1, none⟩ = false := by go_simp
          clear hc3 hf3
          go_wp2
          go_ret2
          exact ⟨ret_int_bool HV.out.symm rfl, by (repeat (first | exact Below.refl _ _ | refine Below.setCell ?_ (by first | omega | (simp <;> omega)) _ | refine Below.alloc ?_ (by first | omega | (simp <;> omega)) _ | refine Below.drew ?_ | refine Below.trans ?_ (Below.mono (by assumption) (by first | omega | (simp <;> omega))) | refine Below.grown ?_ (by assumption) (by first | omega | (simp <;> omega)) (fun k e => by cases e; first | omega | (simp <;> omega))))⟩
        · rw [ha] at ha'; cases ha'
        · omega
        · have HP := Lib.hid hp
          have HN := Lib.hid (show atB p q (((i : Int) + 1) * ((j : Int) + 1)) = false by rw [atB, placeB_no (.inr hm)]; simp)
          clear hp ha ht h hm E hm1
          go_enter Try.func23, Try.ntmps23
          go_wp2_with fail
          refine (l1In_yes _ 1 20 _ HA.out).mono ?_
          rintro e wx ⟨rfl, rfl⟩
          go_wp2_with fail
          refine (l1In_yes _ 1 20 _ HT.out).mono ?_
          rintro e wx ⟨rfl, rfl⟩
          go_wp2_with fail
          refine (specFirst_at p q (i + 1) _ _ _ (by omega) HP.out (by omega) rfl).mono ?_
          rintro e w2 ⟨rfl, hh2⟩
          obtain ⟨hc2, hf2⟩ := bcell hh2
          have hz2 := hh2.size
          try simp only [World.size_alloc] at hz2
          have hz2_0 : w.heap.size < w2.heap.size := by omega
          have kb2_0_0 : w2.cell? ⟨w.heap.size, 0, none⟩ = some (.int .i64 p) := by go_simp
          have kf2_0_0 : w2.frozen? ⟨w.heap.size, 0, none⟩ = false := by go_simp
          have kb2_0_1 : w2.cell? ⟨w.heap.size, 1, none⟩ = some (.int .i64 q) := by go_simp
          have kf2_0_1 : w2.frozen? ⟨w.heap.size, 1, none⟩ = false := by go_simp
          clear hc2 hf2
          go_wp2_with fail
          refine (specFirst_no p q _ _ HN.out).mono ?_
          rintro e w3 ⟨rfl, hh3⟩
          obtain ⟨hc3, hf3⟩ := bcell hh3
          have hz3 := hh3.size
          try simp only [World.size_alloc] at hz3
          have hz3_0 : w.heap.size < w3.heap.size := by omega
          have kb3_0_0 : w3.cell? ⟨w.heap.size, 0, none⟩ = some (.int .i64 p) := by go_simp
          have kf3_0_0 : w3.frozen? ⟨w.heap.size, 0, none⟩ = false := by go_simp
          have kb3_0_1 : w3.cell? ⟨w.heap.size, 1, none⟩ = some (.int .i64 q) := by go_simp
          have kf3_0_1 : w3.frozen? ⟨w.heap.size, 1, none⟩ = false := by go_simp
          clear hc3 hf3
          go_wp2
          go_ret2
          exact ⟨ret_int_bool HV.out.symm rfl, by (repeat (first | exact Below.refl _ _ | refine Below.setCell ?_ (by first | omega | (simp <;> omega)) _ | refine Below.alloc ?_ (by first | omega | (simp <;> omega)) _ | refine Below.drew ?_ | refine Below.trans ?_ (Below.mono (by assumption) (by first | omega | (simp <;> omega))) | refine Below.grown ?_ (by assumption) (by first | omega | (simp <;> omega)) (fun k e => by cases e; first | omega | (simp <;> omega))))⟩
        · have HP := Lib.hid hp
          have H0 := Lib.hid (show row p q 0 1 (i + 1) = 0 from h0)
          have hm2 : (i + 1) * (j + 1) ≤ 20 := by omega
          clear hp ha ht h hm h0 E hm1
          go_enter Try.func23, Try.ntmps23
          go_wp2_with fail
          refine (l1In_yes _ 1 20 _ HA.out).mono ?_
          rintro e wx ⟨rfl, rfl⟩
          go_wp2_with fail
          refine (l1In_yes _ 1 20 _ HT.out).mono ?_
          rintro e wx ⟨rfl, rfl⟩
          go_wp2_with fail
          refine (specFirst_at p q (i + 1) 0 _ _ (by omega) HP.out (by omega) H0.out).mono ?_
          rintro e w2 ⟨rfl, hh2⟩
          obtain ⟨hc2, hf2⟩ := bcell hh2
          have hz2 := hh2.size
          try simp only [World.size_alloc] at hz2
          have hz2_0 : w.heap.size < w2.heap.size := by omega
          have kb2_0_0 : w2.cell? ⟨w.heap.size, 0, none⟩ = some (.int .i64 p) := by go_simp
          have kf2_0_0 : w2.frozen? ⟨w.heap.size, 0, none⟩ = false := by go_simp
          have kb2_0_1 : w2.cell? ⟨w.heap.size, 1, none⟩ = some (.int .i64 q) := by go_simp
          have kf2_0_1 : w2.frozen? ⟨w.heap.size, 1, none⟩ = false := by go_simp
          clear hc2 hf2
          go_wp2_with fail
          refine (specFirst_at p q ((i + 1) * (j + 1)) _ _ _ HE.out HP.out hm2 rfl).mono ?_
          rintro e w3 ⟨rfl, hh3⟩
          obtain ⟨hc3, hf3⟩ := bcell hh3
          have hz3 := hh3.size
          try simp only [World.size_alloc] at hz3
          have hz3_0 : w.heap.size < w3.heap.size := by omega
          have kb3_0_0 : w3.cell? ⟨w.heap.size, 0, none⟩ = some (.int .i64 p) := by go_simp
          have kf3_0_0 : w3.frozen? ⟨w.heap.size, 0, none⟩ = false := by go_simp
          have kb3_0_1 : w3.cell? ⟨w.heap.size, 1, none⟩ = some (.int .i64 q) := by go_simp
          have kf3_0_1 : w3.frozen? ⟨w.heap.size, 1, none⟩ = false := by go_simp
          clear hc3 hf3
          go_wp2
          go_ret2
          exact ⟨ret_int_bool HV.out.symm rfl, by (repeat (first | exact Below.refl _ _ | refine Below.setCell ?_ (by first | omega | (simp <;> omega)) _ | refine Below.alloc ?_ (by first | omega | (simp <;> omega)) _ | refine Below.drew ?_ | refine Below.trans ?_ (Below.mono (by assumption) (by first | omega | (simp <;> omega))) | refine Below.grown ?_ (by assumption) (by first | omega | (simp <;> omega)) (fun k e => by cases e; first | omega | (simp <;> omega))))⟩
end Go.Proofs.Ytennicmmjbfljaa
