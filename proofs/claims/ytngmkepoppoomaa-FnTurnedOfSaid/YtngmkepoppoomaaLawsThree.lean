/- The walk of the law on SecondAt: both rows belong together. -/
import Derived.Test.YtngmkepoppoomaaLawsTwo
import Derived.Test.YtngmkepoppoomaaRowMath
namespace Go.Proofs.Ytngmkepoppoomaa
open Go.RowKit
set_option maxHeartbeats 1000000 in
theorem powerOf_any (a : Int) (m : Nat) (w : World) (h1 : -4 ≤ a) (h2 : a ≤ 4) (hm : m ≤ 24) :
    Calls Try.prog 24 #[.int .i64 a, .int .i64 m] w fun e w' => e = .returned (.int .i64 (a ^ m)) ∧ w = w' := by
  go_enter Try.func24, Try.ntmps24
  go_wp2
  go_loop [5, 6] (fun n k => ∃ i : Nat, i ≤ m ∧ k = .int .i64 i ∧ n = .int .i64 (a ^ i)) (fun _ k => m - (intOf k).toNat)
  case atStart => exact ⟨0, Nat.zero_le _, rfl, by simp⟩
  case round =>
    obtain ⟨i, hi, rfl, rfl⟩ := hrel
    by_cases hlt : i < m
    · obtain ⟨b1, b2⟩ := pow_small h1 h2 (i + 1) (by omega)
      rw [Int.pow_succ] at b1 b2
      go_wp2
      go_round
      case rel => exact ⟨i + 1, by omega, congrArg (Value.int .i64) (by omega), congrArg (Value.int .i64) (by rw [Int.pow_succ])⟩
      case measure => simp [intOf]; omega
    · obtain rfl : i = m := by omega
      go_wp2
      go_ret
      exact ⟨rfl, rfl⟩
theorem row_eight {p q a b : Int} (hp : -4 ≤ p) (hp' : p ≤ 4) (hq : -4 ≤ q) (hq' : q ≤ 4) (ha : -4 ≤ a) (ha' : a ≤ 4) (hb : -4 ≤ b) (hb' : b ≤ 4) (n : Nat) (hn : n ≤ 8) : -1562500 ≤ row p q a b n ∧ row p q a b n ≤ 1562500 := by
  have h := (row_bd (a := a) (b := b) hp hp' hq hq' (c := 4) (by omega) ha ha' (by omega) (by omega) n).1
  have e : cap 4 n ≤ 1562500 := by
    rcases (show n = 0 ∨ n = 1 ∨ n = 2 ∨ n = 3 ∨ n = 4 ∨ n = 5 ∨ n = 6 ∨ n = 7 ∨ n = 8 by omega) with rfl | rfl | rfl | rfl | rfl | rfl | rfl | rfl | rfl <;> decide +kernel
  omega
set_option maxHeartbeats 4000000 in
theorem fnSecondAt_walk (a : Option Addr) (len cap : Nat) (z : List Int) (w : World) (w0 : IsRow w a len cap z) :
    Calls Try.prog 5 #[.slice a len cap] w fun e w' => e = .returned (.bool true) ∧ Below w.heap.size w w' := by
  by_cases hbig : 1048576 < len
  · go_enter Try.func5, Try.ntmps5
    go_wp2
    go_ret
    exact ⟨rfl, Below.refl _ _⟩
  · have hsm : len ≤ 1048576 := by omega
    go_enter Try.func5, Try.ntmps5
    go_wp2_with fail
    refine (drawSecondAt_any _ _ _ _ z w0).mono ?_
    rintro e w1 ⟨p, q, n, rfl, hp1, hp2, hq1, hq2, hn1, hn2, hh1⟩
    have hz1 := hh1.size
    obtain ⟨hc1, hf1⟩ := bcell hh1
    by_cases h : atB p q n = true
    · have hpn : pairB p q = true ∧ placeB n = true := by simpa [atB] using h
      obtain ⟨hp, hn⟩ := hpn
      obtain ⟨⟨r1, r2⟩, r3, r4⟩ := pairB_true hp
      obtain ⟨n0, n1⟩ := placeB_true hn
      obtain ⟨j, rfl⟩ := Int.eq_ofNat_of_zero_le n0
      have HP := Lib.hid hp
      obtain ⟨⟨x1, x2⟩, x3, x4⟩ := row_next (a := 0) (b := 1) r1 r2 r3 r4 (by omega) (by omega) (by omega) (by omega) j (by omega)
      obtain ⟨u1, u2⟩ := row_small (a := 0) (b := 1) r1 r2 r3 r4 (by omega) (by omega) (by omega) (by omega) j (by omega)
      obtain ⟨y1, y2⟩ := row_small (a := 0) (b := 1) r1 r2 r3 r4 (by omega) (by omega) (by omega) (by omega) (j + 1) (by omega)
      obtain ⟨z1, z2⟩ := mul_bd r1 r2 u1 u2
      have T := second_of_first p q j
      have T1 : (row p q 2 p j == 2 * row p q 0 1 (j + 1) - p * row p q 0 1 j) = true := by rw [T]; simp
      clear T
      by_cases h8 : j ≤ 8
      · have T2 := row_square p q j
        have hW : weightV p q = p * p - 4 * q := by rw [weightV, if_pos hp]
        have w1b : -32 ≤ weightV p q ∧ weightV p q ≤ 32 := by
          have := mul_bd r1 r2 r1 r2
          rw [hW]; omega
        obtain ⟨s1, s2⟩ := row_eight (a := 0) (b := 1) r1 r2 r3 r4 (by omega) (by omega) (by omega) (by omega) j h8
        obtain ⟨t1, t2⟩ := row_eight (a := 2) (b := p) r1 r2 r3 r4 (by omega) (by omega) (by omega) (by omega) j h8
        obtain ⟨m1, m2⟩ := mul_bd t1 t2 t1 t2
        obtain ⟨m3, m4⟩ := mul_bd w1b.1 w1b.2 s1 s2
        obtain ⟨m5, m6⟩ := mul_bd m3 m4 s1 s2
        obtain ⟨m7, m8⟩ := pow_small r3 r4 j (by omega)
        rw [← hW] at T2
        have T3 : (row p q 2 p j * row p q 2 p j - weightV p q * row p q 0 1 j * row p q 0 1 j == 4 * q ^ j) = true := by rw [T2]; simp
        clear T2 hW h hp hn w1b s1 s2 t1 t2
        go_wp2_with fail
        refine (implSecond_at p q j _ _ _ rfl HP.out (by omega) rfl).mono ?_
        rintro e w2 ⟨rfl, hh2⟩
        obtain ⟨hc2, hf2⟩ := bcell hh2
        have hz2 := hh2.size
        try simp only [World.size_alloc] at hz2
        have hz2_0 : w1.heap.size < w2.heap.size := by omega
        have kb2_0_0 : w2.cell? ⟨w1.heap.size, 0, none⟩ = some (.int .i64 p) := by go_simp
        have kf2_0_0 : w2.frozen? ⟨w1.heap.size, 0, none⟩ = false := by go_simp
        have kb2_0_1 : w2.cell? ⟨w1.heap.size, 1, none⟩ = some (.int .i64 q) := by go_simp
        have kf2_0_1 : w2.frozen? ⟨w1.heap.size, 1, none⟩ = false := by go_simp
        clear hc2 hf2
        go_wp2_with fail
        refine (specSecond_at p q j _ _ _ rfl HP.out (by omega) rfl).mono ?_
        rintro e w3 ⟨rfl, hh3⟩
        obtain ⟨hc3, hf3⟩ := bcell hh3
        have hz3 := hh3.size
        try simp only [World.size_alloc] at hz3
        have hz3_0 : w1.heap.size < w3.heap.size := by omega
        have kb3_0_0 : w3.cell? ⟨w1.heap.size, 0, none⟩ = some (.int .i64 p) := by go_simp
        have kf3_0_0 : w3.frozen? ⟨w1.heap.size, 0, none⟩ = false := by go_simp
        have kb3_0_1 : w3.cell? ⟨w1.heap.size, 1, none⟩ = some (.int .i64 q) := by go_simp
        have kf3_0_1 : w3.frozen? ⟨w1.heap.size, 1, none⟩ = false := by go_simp
        clear hc3 hf3
        go_wp2_with fail
        refine (implFirst_at p q j _ _ _ rfl HP.out (by omega) rfl).mono ?_
        rintro e w4 ⟨rfl, hh4⟩
        obtain ⟨hc4, hf4⟩ := bcell hh4
        have hz4 := hh4.size
        try simp only [World.size_alloc] at hz4
        have hz4_0 : w1.heap.size < w4.heap.size := by omega
        have kb4_0_0 : w4.cell? ⟨w1.heap.size, 0, none⟩ = some (.int .i64 p) := by go_simp
        have kf4_0_0 : w4.frozen? ⟨w1.heap.size, 0, none⟩ = false := by go_simp
        have kb4_0_1 : w4.cell? ⟨w1.heap.size, 1, none⟩ = some (.int .i64 q) := by go_simp
        have kf4_0_1 : w4.frozen? ⟨w1.heap.size, 1, none⟩ = false := by go_simp
        clear hc4 hf4
        go_wp2_with fail
        refine (implFirst_at p q (j + 1) _ _ _ (by omega) HP.out (by omega) rfl).mono ?_
        rintro e w5 ⟨rfl, hh5⟩
        obtain ⟨hc5, hf5⟩ := bcell hh5
        have hz5 := hh5.size
        try simp only [World.size_alloc] at hz5
        have hz5_0 : w1.heap.size < w5.heap.size := by omega
        have kb5_0_0 : w5.cell? ⟨w1.heap.size, 0, none⟩ = some (.int .i64 p) := by go_simp
        have kf5_0_0 : w5.frozen? ⟨w1.heap.size, 0, none⟩ = false := by go_simp
        have kb5_0_1 : w5.cell? ⟨w1.heap.size, 1, none⟩ = some (.int .i64 q) := by go_simp
        have kf5_0_1 : w5.frozen? ⟨w1.heap.size, 1, none⟩ = false := by go_simp
        clear hc5 hf5
        go_wp2_with fail
        refine (implWeight_yes p q _ HP.out).mono ?_
        rintro e w6 ⟨rfl, hh6⟩
        obtain ⟨hc6, hf6⟩ := bcell hh6
        have hz6 := hh6.size
        try simp only [World.size_alloc] at hz6
        have hz6_0 : w1.heap.size < w6.heap.size := by omega
        have kb6_0_0 : w6.cell? ⟨w1.heap.size, 0, none⟩ = some (.int .i64 p) := by go_simp
        have kf6_0_0 : w6.frozen? ⟨w1.heap.size, 0, none⟩ = false := by go_simp
        have kb6_0_1 : w6.cell? ⟨w1.heap.size, 1, none⟩ = some (.int .i64 q) := by go_simp
        have kf6_0_1 : w6.frozen? ⟨w1.heap.size, 1, none⟩ = false := by go_simp
        clear hc6 hf6
        go_wp2_with fail
        refine (powerOf_any q j _ r3 r4 (by omega)).mono ?_
        rintro e w7 ⟨rfl, rfl⟩
        go_wp2_with fail
        refine (alive_any _).mono ?_
        rintro e w8 ⟨rfl, hh8⟩
        obtain ⟨hc8, hf8⟩ := bcell hh8
        have hz8 := hh8.size
        try simp only [World.size_alloc] at hz8
        clear hc8 hf8
        go_wp2
        go_ret
        exact ⟨rfl, by (repeat (first | exact Below.refl _ _ | refine Below.setCell ?_ (by first | omega | (simp <;> omega)) _ | refine Below.alloc ?_ (by first | omega | (simp <;> omega)) _ | refine Below.drew ?_ | refine Below.trans ?_ (Below.mono (by assumption) (by first | omega | (simp <;> omega))) | refine Below.grown ?_ (by assumption) (by first | omega | (simp <;> omega)) (fun k e => by cases e; first | omega | (simp <;> omega))))⟩
      · clear h hp hn
        by_cases h20 : j < 20
        · go_wp2_with fail
          refine (implSecond_at p q j _ _ _ rfl HP.out (by omega) rfl).mono ?_
          rintro e w2 ⟨rfl, hh2⟩
          obtain ⟨hc2, hf2⟩ := bcell hh2
          have hz2 := hh2.size
          try simp only [World.size_alloc] at hz2
          have hz2_0 : w1.heap.size < w2.heap.size := by omega
          have kb2_0_0 : w2.cell? ⟨w1.heap.size, 0, none⟩ = some (.int .i64 p) := by go_simp
          have kf2_0_0 : w2.frozen? ⟨w1.heap.size, 0, none⟩ = false := by go_simp
          have kb2_0_1 : w2.cell? ⟨w1.heap.size, 1, none⟩ = some (.int .i64 q) := by go_simp
          have kf2_0_1 : w2.frozen? ⟨w1.heap.size, 1, none⟩ = false := by go_simp
          clear hc2 hf2
          go_wp2_with fail
          refine (specSecond_at p q j _ _ _ rfl HP.out (by omega) rfl).mono ?_
          rintro e w3 ⟨rfl, hh3⟩
          obtain ⟨hc3, hf3⟩ := bcell hh3
          have hz3 := hh3.size
          try simp only [World.size_alloc] at hz3
          have hz3_0 : w1.heap.size < w3.heap.size := by omega
          have kb3_0_0 : w3.cell? ⟨w1.heap.size, 0, none⟩ = some (.int .i64 p) := by go_simp
          have kf3_0_0 : w3.frozen? ⟨w1.heap.size, 0, none⟩ = false := by go_simp
          have kb3_0_1 : w3.cell? ⟨w1.heap.size, 1, none⟩ = some (.int .i64 q) := by go_simp
          have kf3_0_1 : w3.frozen? ⟨w1.heap.size, 1, none⟩ = false := by go_simp
          clear hc3 hf3
          go_wp2_with fail
          refine (implFirst_at p q j _ _ _ rfl HP.out (by omega) rfl).mono ?_
          rintro e w4 ⟨rfl, hh4⟩
          obtain ⟨hc4, hf4⟩ := bcell hh4
          have hz4 := hh4.size
          try simp only [World.size_alloc] at hz4
          have hz4_0 : w1.heap.size < w4.heap.size := by omega
          have kb4_0_0 : w4.cell? ⟨w1.heap.size, 0, none⟩ = some (.int .i64 p) := by go_simp
          have kf4_0_0 : w4.frozen? ⟨w1.heap.size, 0, none⟩ = false := by go_simp
          have kb4_0_1 : w4.cell? ⟨w1.heap.size, 1, none⟩ = some (.int .i64 q) := by go_simp
          have kf4_0_1 : w4.frozen? ⟨w1.heap.size, 1, none⟩ = false := by go_simp
          clear hc4 hf4
          go_wp2_with fail
          refine (implFirst_at p q (j + 1) _ _ _ (by omega) HP.out (by omega) rfl).mono ?_
          rintro e w5 ⟨rfl, hh5⟩
          obtain ⟨hc5, hf5⟩ := bcell hh5
          have hz5 := hh5.size
          try simp only [World.size_alloc] at hz5
          have hz5_0 : w1.heap.size < w5.heap.size := by omega
          have kb5_0_0 : w5.cell? ⟨w1.heap.size, 0, none⟩ = some (.int .i64 p) := by go_simp
          have kf5_0_0 : w5.frozen? ⟨w1.heap.size, 0, none⟩ = false := by go_simp
          have kb5_0_1 : w5.cell? ⟨w1.heap.size, 1, none⟩ = some (.int .i64 q) := by go_simp
          have kf5_0_1 : w5.frozen? ⟨w1.heap.size, 1, none⟩ = false := by go_simp
          clear hc5 hf5
          go_wp2_with fail
          refine (implWeight_yes p q _ HP.out).mono ?_
          rintro e w6 ⟨rfl, hh6⟩
          obtain ⟨hc6, hf6⟩ := bcell hh6
          have hz6 := hh6.size
          try simp only [World.size_alloc] at hz6
          have hz6_0 : w1.heap.size < w6.heap.size := by omega
          have kb6_0_0 : w6.cell? ⟨w1.heap.size, 0, none⟩ = some (.int .i64 p) := by go_simp
          have kf6_0_0 : w6.frozen? ⟨w1.heap.size, 0, none⟩ = false := by go_simp
          have kb6_0_1 : w6.cell? ⟨w1.heap.size, 1, none⟩ = some (.int .i64 q) := by go_simp
          have kf6_0_1 : w6.frozen? ⟨w1.heap.size, 1, none⟩ = false := by go_simp
          clear hc6 hf6
          go_wp2_with fail
          refine (alive_any _).mono ?_
          rintro e w7 ⟨rfl, hh7⟩
          obtain ⟨hc7, hf7⟩ := bcell hh7
          have hz7 := hh7.size
          try simp only [World.size_alloc] at hz7
          clear hc7 hf7
          go_wp2
          go_ret
          exact ⟨rfl, by (repeat (first | exact Below.refl _ _ | refine Below.setCell ?_ (by first | omega | (simp <;> omega)) _ | refine Below.alloc ?_ (by first | omega | (simp <;> omega)) _ | refine Below.drew ?_ | refine Below.trans ?_ (Below.mono (by assumption) (by first | omega | (simp <;> omega))) | refine Below.grown ?_ (by assumption) (by first | omega | (simp <;> omega)) (fun k e => by cases e; first | omega | (simp <;> omega))))⟩
        · obtain rfl : j = 20 := by omega
          go_wp2_with fail
          refine (implSecond_at p q 20 _ _ _ rfl HP.out (by omega) rfl).mono ?_
          rintro e w2 ⟨rfl, hh2⟩
          obtain ⟨hc2, hf2⟩ := bcell hh2
          have hz2 := hh2.size
          try simp only [World.size_alloc] at hz2
          have hz2_0 : w1.heap.size < w2.heap.size := by omega
          have kb2_0_0 : w2.cell? ⟨w1.heap.size, 0, none⟩ = some (.int .i64 p) := by go_simp
          have kf2_0_0 : w2.frozen? ⟨w1.heap.size, 0, none⟩ = false := by go_simp
          have kb2_0_1 : w2.cell? ⟨w1.heap.size, 1, none⟩ = some (.int .i64 q) := by go_simp
          have kf2_0_1 : w2.frozen? ⟨w1.heap.size, 1, none⟩ = false := by go_simp
          clear hc2 hf2
          go_wp2_with fail
          refine (specSecond_at p q 20 _ _ _ rfl HP.out (by omega) rfl).mono ?_
          rintro e w3 ⟨rfl, hh3⟩
          obtain ⟨hc3, hf3⟩ := bcell hh3
          have hz3 := hh3.size
          try simp only [World.size_alloc] at hz3
          have hz3_0 : w1.heap.size < w3.heap.size := by omega
          have kb3_0_0 : w3.cell? ⟨w1.heap.size, 0, none⟩ = some (.int .i64 p) := by go_simp
          have kf3_0_0 : w3.frozen? ⟨w1.heap.size, 0, none⟩ = false := by go_simp
          have kb3_0_1 : w3.cell? ⟨w1.heap.size, 1, none⟩ = some (.int .i64 q) := by go_simp
          have kf3_0_1 : w3.frozen? ⟨w1.heap.size, 1, none⟩ = false := by go_simp
          clear hc3 hf3
          go_wp2_with fail
          refine (implFirst_at p q 20 _ _ _ rfl HP.out (by omega) rfl).mono ?_
          rintro e w4 ⟨rfl, hh4⟩
          obtain ⟨hc4, hf4⟩ := bcell hh4
          have hz4 := hh4.size
          try simp only [World.size_alloc] at hz4
          have hz4_0 : w1.heap.size < w4.heap.size := by omega
          have kb4_0_0 : w4.cell? ⟨w1.heap.size, 0, none⟩ = some (.int .i64 p) := by go_simp
          have kf4_0_0 : w4.frozen? ⟨w1.heap.size, 0, none⟩ = false := by go_simp
          have kb4_0_1 : w4.cell? ⟨w1.heap.size, 1, none⟩ = some (.int .i64 q) := by go_simp
          have kf4_0_1 : w4.frozen? ⟨w1.heap.size, 1, none⟩ = false := by go_simp
          clear hc4 hf4
          go_wp2_with fail
          refine (implFirst_no p q _ _ (by simp [atB, placeB])).mono ?_
          rintro e w5 ⟨rfl, hh5⟩
          obtain ⟨hc5, hf5⟩ := bcell hh5
          have hz5 := hh5.size
          try simp only [World.size_alloc] at hz5
          have hz5_0 : w1.heap.size < w5.heap.size := by omega
          have kb5_0_0 : w5.cell? ⟨w1.heap.size, 0, none⟩ = some (.int .i64 p) := by go_simp
          have kf5_0_0 : w5.frozen? ⟨w1.heap.size, 0, none⟩ = false := by go_simp
          have kb5_0_1 : w5.cell? ⟨w1.heap.size, 1, none⟩ = some (.int .i64 q) := by go_simp
          have kf5_0_1 : w5.frozen? ⟨w1.heap.size, 1, none⟩ = false := by go_simp
          clear hc5 hf5
          go_wp2_with fail
          refine (implWeight_yes p q _ HP.out).mono ?_
          rintro e w6 ⟨rfl, hh6⟩
          obtain ⟨hc6, hf6⟩ := bcell hh6
          have hz6 := hh6.size
          try simp only [World.size_alloc] at hz6
          have hz6_0 : w1.heap.size < w6.heap.size := by omega
          have kb6_0_0 : w6.cell? ⟨w1.heap.size, 0, none⟩ = some (.int .i64 p) := by go_simp
          have kf6_0_0 : w6.frozen? ⟨w1.heap.size, 0, none⟩ = false := by go_simp
          have kb6_0_1 : w6.cell? ⟨w1.heap.size, 1, none⟩ = some (.int .i64 q) := by go_simp
          have kf6_0_1 : w6.frozen? ⟨w1.heap.size, 1, none⟩ = false := by go_simp
          clear hc6 hf6
          go_wp2_with fail
          refine (alive_any _).mono ?_
          rintro e w7 ⟨rfl, hh7⟩
          obtain ⟨hc7, hf7⟩ := bcell hh7
          have hz7 := hh7.size
          try simp only [World.size_alloc] at hz7
          clear hc7 hf7
          go_wp2
          go_ret
          exact ⟨rfl, by (repeat (first | exact Below.refl _ _ | refine Below.setCell ?_ (by first | omega | (simp <;> omega)) _ | refine Below.alloc ?_ (by first | omega | (simp <;> omega)) _ | refine Below.drew ?_ | refine Below.trans ?_ (Below.mono (by assumption) (by first | omega | (simp <;> omega))) | refine Below.grown ?_ (by assumption) (by first | omega | (simp <;> omega)) (fun k e => by cases e; first | omega | (simp <;> omega))))⟩
    · have H := Lib.hid (show atB p q n = false by simpa using h)
      clear h
      go_wp2_with fail
      refine (implSecond_no p q n _ H.out).mono ?_
      rintro e w2 ⟨rfl, hh2⟩
      obtain ⟨hc2, hf2⟩ := bcell hh2
      have hz2 := hh2.size
      try simp only [World.size_alloc] at hz2
      have hz2_0 : w1.heap.size < w2.heap.size := by omega
      have kb2_0_0 : w2.cell? ⟨w1.heap.size, 0, none⟩ = some (.int .i64 p) := by go_simp
      have kf2_0_0 : w2.frozen? ⟨w1.heap.size, 0, none⟩ = false := by go_simp
      have kb2_0_1 : w2.cell? ⟨w1.heap.size, 1, none⟩ = some (.int .i64 q) := by go_simp
      have kf2_0_1 : w2.frozen? ⟨w1.heap.size, 1, none⟩ = false := by go_simp
      clear hc2 hf2
      go_wp2_with fail
      refine (specSecond_no p q n _ H.out).mono ?_
      rintro e w3 ⟨rfl, hh3⟩
      obtain ⟨hc3, hf3⟩ := bcell hh3
      have hz3 := hh3.size
      try simp only [World.size_alloc] at hz3
      have hz3_0 : w1.heap.size < w3.heap.size := by omega
      have kb3_0_0 : w3.cell? ⟨w1.heap.size, 0, none⟩ = some (.int .i64 p) := by go_simp
      have kf3_0_0 : w3.frozen? ⟨w1.heap.size, 0, none⟩ = false := by go_simp
      have kb3_0_1 : w3.cell? ⟨w1.heap.size, 1, none⟩ = some (.int .i64 q) := by go_simp
      have kf3_0_1 : w3.frozen? ⟨w1.heap.size, 1, none⟩ = false := by go_simp
      clear hc3 hf3
      go_wp2_with fail
      refine (alive_any _).mono ?_
      rintro e w4 ⟨rfl, hh4⟩
      obtain ⟨hc4, hf4⟩ := bcell hh4
      have hz4 := hh4.size
      try simp only [World.size_alloc] at hz4
      clear hc4 hf4
      go_wp2
      go_ret
      exact ⟨rfl, by (repeat (first | exact Below.refl _ _ | refine Below.setCell ?_ (by first | omega | (simp <;> omega)) _ | refine Below.alloc ?_ (by first | omega | (simp <;> omega)) _ | refine Below.drew ?_ | refine Below.trans ?_ (Below.mono (by assumption) (by first | omega | (simp <;> omega))) | refine Below.grown ?_ (by assumption) (by first | omega | (simp <;> omega)) (fun k e => by cases e; first | omega | (simp <;> omega))))⟩
end Go.Proofs.Ytngmkepoppoomaa
