/- The walks of the laws of the first stage on pairs: PairOk, WeightOf. -/
import Derived.Test.YtngmkepoppoomaaDrawsTwo
namespace Go.Proofs.Ytngmkepoppoomaa
open Go.RowKit
theorem pairB_neg (p q : Int) : pairB (-p) (-q) = pairB p q := by
  have h : ∀ n, numB (-n) = numB n := fun n => by
    simp only [numB]
    exact decide_eq_decide.2 (by omega)
  simp [pairB, h]
theorem implPairOk_neg (p q : Int) (w : World) : Calls Try.prog 14 #[pr (-p) (-q)] w fun e w' => e = .returned (.bool (pairB p q)) ∧ Below w.heap.size w w' := by rw [← pairB_neg]; exact implPairOk_any _ _ _
set_option maxHeartbeats 400000 in
theorem alive_any (w : World) : Calls Try.prog 16 #[] w fun e w' => e = .returned (.bool true) ∧ Below w.heap.size w w' := by
  go_enter Try.func16, Try.ntmps16
  go_wp2_with fail
  refine (implPairOk_yes 1 (-1) _ (by decide)).mono ?_
  rintro e w1 ⟨rfl, hh1⟩
  obtain ⟨hc1, hf1⟩ := bcell hh1
  have hz1 := hh1.size
  try simp only [World.size_alloc] at hz1
  go_wp2_with fail
  refine (implPairOk_no 5 0 _ (by decide)).mono ?_
  rintro e w2 ⟨rfl, hh2⟩
  obtain ⟨hc2, hf2⟩ := bcell hh2
  have hz2 := hh2.size
  try simp only [World.size_alloc] at hz2
  go_wp2
  go_ret
  exact ⟨rfl, by (repeat (first | exact Below.refl _ _ | refine Below.setCell ?_ (by first | omega | (simp <;> omega)) _ | refine Below.alloc ?_ (by first | omega | (simp <;> omega)) _ | refine Below.drew ?_ | refine Below.trans ?_ (Below.mono (by assumption) (by first | omega | (simp <;> omega))) | refine Below.grown ?_ (by assumption) (by first | omega | (simp <;> omega)) (fun k e => by cases e; first | omega | (simp <;> omega))))⟩
set_option maxHeartbeats 2000000 in
theorem fnPairOk_walk (a : Option Addr) (len cap : Nat) (z : List Int) (w : World) (w0 : IsRow w a len cap z) :
    Calls Try.prog 3 #[.slice a len cap] w fun e w' => e = .returned (.bool true) ∧ Below w.heap.size w w' := by
  by_cases hbig : 1048576 < len
  · go_enter Try.func3, Try.ntmps3
    go_wp2
    go_ret
    exact ⟨rfl, Below.refl _ _⟩
  · have hsm : len ≤ 1048576 := by omega
    go_enter Try.func3, Try.ntmps3
    go_wp2_with fail
    refine (drawPairOk_any _ _ _ _ z w0).mono ?_
    rintro e w1 ⟨p, q, rfl, hp1, hp2, hq1, hq2, hh1⟩
    have hz1 := hh1.size
    obtain ⟨hc1, hf1⟩ := bcell hh1
    go_wp2_with fail
    refine (implPairOk_any p q _).mono ?_
    rintro e w2 ⟨rfl, hh2⟩
    obtain ⟨hc2, hf2⟩ := bcell hh2
    have hz2 := hh2.size
    try simp only [World.size_alloc] at hz2
    have hz2_0 : w1.heap.size < w2.heap.size := by omega
    have kb2_0_0 : w2.cell? ⟨w1.heap.size, 0, none⟩ = some (.int .i64 p) := by go_simp
    have kf2_0_0 : w2.frozen? ⟨w1.heap.size, 0, none⟩ = false := by go_simp
    have kb2_0_1 : w2.cell? ⟨w1.heap.size, 1, none⟩ = some (.int .i64 q) := by go_simp
    have kf2_0_1 : w2.frozen? ⟨w1.heap.size, 1, none⟩ = false := by go_simp
    clear hc2 hf2
    go_wp2_with fail
    refine (specPairOk_any p q _).mono ?_
    rintro e w3 ⟨rfl, hh3⟩
    obtain ⟨hc3, hf3⟩ := bcell hh3
    have hz3 := hh3.size
    try simp only [World.size_alloc] at hz3
    have hz3_0 : w1.heap.size < w3.heap.size := by omega
    have kb3_0_0 : w3.cell? ⟨w1.heap.size, 0, none⟩ = some (.int .i64 p) := by go_simp
    have kf3_0_0 : w3.frozen? ⟨w1.heap.size, 0, none⟩ = false := by go_simp
    have kb3_0_1 : w3.cell? ⟨w1.heap.size, 1, none⟩ = some (.int .i64 q) := by go_simp
    have kf3_0_1 : w3.frozen? ⟨w1.heap.size, 1, none⟩ = false := by go_simp
    clear hc3 hf3
    go_wp2_with fail
    refine (implPairOk_yes 1 (-1) _ (by decide)).mono ?_
    rintro e w4 ⟨rfl, hh4⟩
    obtain ⟨hc4, hf4⟩ := bcell hh4
    have hz4 := hh4.size
    try simp only [World.size_alloc] at hz4
    have hz4_0 : w1.heap.size < w4.heap.size := by omega
    have kb4_0_0 : w4.cell? ⟨w1.heap.size, 0, none⟩ = some (.int .i64 p) := by go_simp
    have kf4_0_0 : w4.frozen? ⟨w1.heap.size, 0, none⟩ = false := by go_simp
    have kb4_0_1 : w4.cell? ⟨w1.heap.size, 1, none⟩ = some (.int .i64 q) := by go_simp
    have kf4_0_1 : w4.frozen? ⟨w1.heap.size, 1, none⟩ = false := by go_simp
    clear hc4 hf4
    go_wp2_with fail
    refine (implPairOk_neg p q _).mono ?_
    rintro e w5 ⟨rfl, hh5⟩
    obtain ⟨hc5, hf5⟩ := bcell hh5
    have hz5 := hh5.size
    try simp only [World.size_alloc] at hz5
    have hz5_0 : w1.heap.size < w5.heap.size := by omega
    have kb5_0_0 : w5.cell? ⟨w1.heap.size, 0, none⟩ = some (.int .i64 p) := by go_simp
    have kf5_0_0 : w5.frozen? ⟨w1.heap.size, 0, none⟩ = false := by go_simp
    have kb5_0_1 : w5.cell? ⟨w1.heap.size, 1, none⟩ = some (.int .i64 q) := by go_simp
    have kf5_0_1 : w5.frozen? ⟨w1.heap.size, 1, none⟩ = false := by go_simp
    clear hc5 hf5
    go_wp2_with fail
    refine (alive_any _).mono ?_
    rintro e w6 ⟨rfl, hh6⟩
    obtain ⟨hc6, hf6⟩ := bcell hh6
    have hz6 := hh6.size
    try simp only [World.size_alloc] at hz6
    clear hc6 hf6
    go_wp2
    go_ret
    exact ⟨rfl, by (repeat (first | exact Below.refl _ _ | refine Below.setCell ?_ (by first | omega | (simp <;> omega)) _ | refine Below.alloc ?_ (by first | omega | (simp <;> omega)) _ | refine Below.drew ?_ | refine Below.trans ?_ (Below.mono (by assumption) (by first | omega | (simp <;> omega))) | refine Below.grown ?_ (by assumption) (by first | omega | (simp <;> omega)) (fun k e => by cases e; first | omega | (simp <;> omega))))⟩
theorem nine {p : Int} (h1 : -4 ≤ p) (h2 : p ≤ 4) : p = -4 ∨ p = -3 ∨ p = -2 ∨ p = -1 ∨ p = 0 ∨ p = 1 ∨ p = 2 ∨ p = 3 ∨ p = 4 := by omega
theorem weight_mod (p q : Int) (h : pairB p q = true) : ((wrap64 ((weightV p q).tmod 4 + 4)).tmod 4 == (p * p).tmod 2) = true := by
  obtain ⟨⟨h1, h2⟩, h3, h4⟩ := pairB_true h
  rw [weightV, if_pos h]
  clear h
  rcases nine h1 h2 with rfl | rfl | rfl | rfl | rfl | rfl | rfl | rfl | rfl <;> rcases nine h3 h4 with rfl | rfl | rfl | rfl | rfl | rfl | rfl | rfl | rfl <;> decide +kernel
theorem pairB_turn (p q : Int) (h : pairB p q = true) : pairB (-p) q = true := by
  obtain ⟨⟨h1, h2⟩, h3, h4⟩ := pairB_true h
  exact pairB_mk (by omega) (by omega) h3 h4
theorem implWeight_yes (p q : Int) (w : World) (h : pairB p q = true) : Calls Try.prog 23 #[pr p q] w fun e w' => e = .returned (.tuple #[.int .i64 (weightV p q), .bool true]) ∧ Below w.heap.size w w' := by
  have := implWeight_any p q w; rw [h] at this; exact this
theorem specWeight_yes (p q : Int) (w : World) (h : pairB p q = true) : Calls Try.prog 26 #[pr p q] w fun e w' => e = .returned (.tuple #[.int .i64 (weightV p q), .bool true]) ∧ Below w.heap.size w w' := by
  have := specWeight_any p q w; rw [h] at this; exact this
theorem implWeight_no (p q : Int) (w : World) (h : pairB p q = false) : Calls Try.prog 23 #[pr p q] w fun e w' => e = .returned (.tuple #[.int .i64 0, .bool false]) ∧ Below w.heap.size w w' := by
  have := implWeight_any p q w; rw [weightV, if_neg (by simp [h]), h] at this; exact this
theorem specWeight_no (p q : Int) (w : World) (h : pairB p q = false) : Calls Try.prog 26 #[pr p q] w fun e w' => e = .returned (.tuple #[.int .i64 0, .bool false]) ∧ Below w.heap.size w w' := by
  have := specWeight_any p q w; rw [weightV, if_neg (by simp [h]), h] at this; exact this
theorem implTurned_yes (p q : Int) (w : World) (h : pairB p q = true) : Calls Try.prog 27 #[pr p q] w fun e w' => e = .returned (pr (-p) q) ∧ Below w.heap.size w w' := by
  have := implTurned_any p q w; rw [turnP, if_pos h, turnQ, if_pos h] at this; exact this
theorem implWeight_turn (p q : Int) (w : World) (h : pairB p q = true) : Calls Try.prog 23 #[pr (-p) q] w fun e w' => e = .returned (.tuple #[.int .i64 (weightV p q), .bool true]) ∧ Below w.heap.size w w' := by
  have h' := pairB_turn p q h
  have := implWeight_any (-p) q w
  rw [h', weightV, if_pos h', Int.neg_mul_neg] at this
  rw [weightV, if_pos h]
  exact this
set_option maxHeartbeats 2000000 in
theorem fnWeightOf_walk (a : Option Addr) (len cap : Nat) (z : List Int) (w : World) (w0 : IsRow w a len cap z) :
    Calls Try.prog 6 #[.slice a len cap] w fun e w' => e = .returned (.bool true) ∧ Below w.heap.size w w' := by
  by_cases hbig : 1048576 < len
  · go_enter Try.func6, Try.ntmps6
    go_wp2
    go_ret
    exact ⟨rfl, Below.refl _ _⟩
  · have hsm : len ≤ 1048576 := by omega
    go_enter Try.func6, Try.ntmps6
    go_wp2_with fail
    refine (drawWeightOf_any _ _ _ _ z w0).mono ?_
    rintro e w1 ⟨p, q, rfl, hp1, hp2, hq1, hq2, hh1⟩
    have hz1 := hh1.size
    obtain ⟨hc1, hf1⟩ := bcell hh1
    by_cases hpq : pairB p q = true
    · have H := Lib.hid hpq
      obtain ⟨⟨r1, r2⟩, r3, r4⟩ := pairB_true hpq
      obtain ⟨m1, m2⟩ := mul_bd r1 r2 r1 r2
      have HM := weight_mod p q hpq
      clear hpq
      go_wp2_with fail
      refine (implWeight_yes p q _ H.out).mono ?_
      rintro e w2 ⟨rfl, hh2⟩
      obtain ⟨hc2, hf2⟩ := bcell hh2
      have hz2 := hh2.size
      try simp only [World.size_alloc] at hz2
      have hz2_0 : w1.heap.size < w2.heap.size := by omega
      have kb2_0_0 : w2.cell? ⟨w1.heap.size, 0, none⟩ = some (.int .i64 p) := by go_simp
      have kf2_0_0 : w2.frozen? ⟨w1.heap.size, 0, none⟩ = false := by go_simp
      have kb2_0_1 : w2.cell? ⟨w1.heap.size, 1, none⟩ = some (.int .i64 q) := by go_simp
      have kf2_0_1 : w2.frozen? ⟨w1.heap.size, 1, none⟩ = false := by go_simp
      clear hc2 hf2
      go_wp2_with fail
      refine (specWeight_yes p q _ H.out).mono ?_
      rintro e w3 ⟨rfl, hh3⟩
      obtain ⟨hc3, hf3⟩ := bcell hh3
      have hz3 := hh3.size
      try simp only [World.size_alloc] at hz3
      have hz3_0 : w1.heap.size < w3.heap.size := by omega
      have kb3_0_0 : w3.cell? ⟨w1.heap.size, 0, none⟩ = some (.int .i64 p) := by go_simp
      have kf3_0_0 : w3.frozen? ⟨w1.heap.size, 0, none⟩ = false := by go_simp
      have kb3_0_1 : w3.cell? ⟨w1.heap.size, 1, none⟩ = some (.int .i64 q) := by go_simp
      have kf3_0_1 : w3.frozen? ⟨w1.heap.size, 1, none⟩ = false := by go_simp
      clear hc3 hf3
      go_wp2_with fail
      refine (implTurned_yes p q _ H.out).mono ?_
      rintro e w4 ⟨rfl, hh4⟩
      obtain ⟨hc4, hf4⟩ := bcell hh4
      have hz4 := hh4.size
      try simp only [World.size_alloc] at hz4
      have hz4_0 : w1.heap.size < w4.heap.size := by omega
      have kb4_0_0 : w4.cell? ⟨w1.heap.size, 0, none⟩ = some (.int .i64 p) := by go_simp
      have kf4_0_0 : w4.frozen? ⟨w1.heap.size, 0, none⟩ = false := by go_simp
      have kb4_0_1 : w4.cell? ⟨w1.heap.size, 1, none⟩ = some (.int .i64 q) := by go_simp
      have kf4_0_1 : w4.frozen? ⟨w1.heap.size, 1, none⟩ = false := by go_simp
      clear hc4 hf4
      go_wp2_with fail
      refine (implWeight_turn p q _ H.out).mono ?_
      rintro e w5 ⟨rfl, hh5⟩
      obtain ⟨hc5, hf5⟩ := bcell hh5
      have hz5 := hh5.size
      try simp only [World.size_alloc] at hz5
      have hz5_0 : w1.heap.size < w5.heap.size := by omega
      have kb5_0_0 : w5.cell? ⟨w1.heap.size, 0, none⟩ = some (.int .i64 p) := by go_simp
      have kf5_0_0 : w5.frozen? ⟨w1.heap.size, 0, none⟩ = false := by go_simp
      have kb5_0_1 : w5.cell? ⟨w1.heap.size, 1, none⟩ = some (.int .i64 q) := by go_simp
      have kf5_0_1 : w5.frozen? ⟨w1.heap.size, 1, none⟩ = false := by go_simp
      clear hc5 hf5
      go_wp2_with fail
      refine (alive_any _).mono ?_
      rintro e w6 ⟨rfl, hh6⟩
      obtain ⟨hc6, hf6⟩ := bcell hh6
      have hz6 := hh6.size
      try simp only [World.size_alloc] at hz6
      clear hc6 hf6
      go_wp2
      go_ret
      exact ⟨rfl, by (repeat (first | exact Below.refl _ _ | refine Below.setCell ?_ (by first | omega | (simp <;> omega)) _ | refine Below.alloc ?_ (by first | omega | (simp <;> omega)) _ | refine Below.drew ?_ | refine Below.trans ?_ (Below.mono (by assumption) (by first | omega | (simp <;> omega))) | refine Below.grown ?_ (by assumption) (by first | omega | (simp <;> omega)) (fun k e => by cases e; first | omega | (simp <;> omega))))⟩
    · have h' : pairB p q = false := by simpa using hpq
      have H := Lib.hid h'
      clear hpq h'
      go_wp2_with fail
      refine (implWeight_no p q _ H.out).mono ?_
      rintro e w2 ⟨rfl, hh2⟩
      obtain ⟨hc2, hf2⟩ := bcell hh2
      have hz2 := hh2.size
      try simp only [World.size_alloc] at hz2
      have hz2_0 : w1.heap.size < w2.heap.size := by omega
      have kb2_0_0 : w2.cell? ⟨w1.heap.size, 0, none⟩ = some (.int .i64 p) := by go_simp
      have kf2_0_0 : w2.frozen? ⟨w1.heap.size, 0, none⟩ = false := by go_simp
      have kb2_0_1 : w2.cell? ⟨w1.heap.size, 1, none⟩ = some (.int .i64 q) := by go_simp
      have kf2_0_1 : w2.frozen? ⟨w1.heap.size, 1, none⟩ = false := by go_simp
      clear hc2 hf2
      go_wp2_with fail
      refine (specWeight_no p q _ H.out).mono ?_
      rintro e w3 ⟨rfl, hh3⟩
      obtain ⟨hc3, hf3⟩ := bcell hh3
      have hz3 := hh3.size
      try simp only [World.size_alloc] at hz3
      have hz3_0 : w1.heap.size < w3.heap.size := by omega
      have kb3_0_0 : w3.cell? ⟨w1.heap.size, 0, none⟩ = some (.int .i64 p) := by go_simp
      have kf3_0_0 : w3.frozen? ⟨w1.heap.size, 0, none⟩ = false := by go_simp
      have kb3_0_1 : w3.cell? ⟨w1.heap.size, 1, none⟩ = some (.int .i64 q) := by go_simp
      have kf3_0_1 : w3.frozen? ⟨w1.heap.size, 1, none⟩ = false := by go_simp
      clear hc3 hf3
      go_wp2_with fail
      refine (alive_any _).mono ?_
      rintro e w4 ⟨rfl, hh4⟩
      obtain ⟨hc4, hf4⟩ := bcell hh4
      have hz4 := hh4.size
      try simp only [World.size_alloc] at hz4
      clear hc4 hf4
      go_wp2
      go_ret
      exact ⟨rfl, by (repeat (first | exact Below.refl _ _ | refine Below.setCell ?_ (by first | omega | (simp <;> omega)) _ | refine Below.alloc ?_ (by first | omega | (simp <;> omega)) _ | refine Below.drew ?_ | refine Below.trans ?_ (Below.mono (by assumption) (by first | omega | (simp <;> omega))) | refine Below.grown ?_ (by assumption) (by first | omega | (simp <;> omega)) (fun k e => by cases e; first | omega | (simp <;> omega))))⟩
end Go.Proofs.Ytngmkepoppoomaa
