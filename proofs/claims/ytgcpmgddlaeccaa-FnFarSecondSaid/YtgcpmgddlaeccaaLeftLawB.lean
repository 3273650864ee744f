/- The walk of the law on FarSecond: both rows far on belong together. -/
import Derived.Test.YtgcpmgddlaeccaaLeftLaws
namespace Go.Proofs.Ytgcpmgddlaeccaa
open Go.RowKit
set_option maxRecDepth 100000 in
set_option maxHeartbeats 8000000 in
theorem fnFarSecond_walk (a : Option Addr) (len cap : Nat) (z : List Int) (w : World) (w0 : IsRow w a len cap z) :
    Calls Try.prog 4 #[.slice a len cap] w fun e w' => e = .returned (.bool true) ∧ Below w.heap.size w w' := by
  by_cases hbig : 1048576 < len
  · go_enter Try.func4, Try.ntmps4
    go_wp2
    go_ret
    exact ⟨rfl, Below.refl _ _⟩
  · have hsm : len ≤ 1048576 := by omega
    go_enter Try.func4, Try.ntmps4
    go_wp2_with fail
    refine (drawFarSecond_any _ _ _ _ z w0).mono ?_
    rintro e w1 ⟨p, q, n, m, rfl, hh1⟩
    have hz1 := hh1.size
    obtain ⟨hc1, hf1⟩ := bcell hh1
    by_cases h : farB p q n m = true
    · obtain ⟨hp, ⟨k, rfl, hk⟩, m1, m2⟩ := farB_true h
      obtain ⟨⟨r1, r2⟩, r3, r4⟩ := pairB_true hp
      have HP := Lib.hid hp
      have hz : (m == 0) = false := by simp; omega
      clear h hp
      obtain ⟨u1, u2⟩ := left_bd (row p q 0 1 k) m m1
      obtain ⟨v1, v2⟩ := left_bd (row p q 2 p k) m m1
      obtain ⟨y1, y2⟩ := left_bd (q ^ k) m m1
      have hW : weightV p q = p * p - 4 * q := by rw [weightV, if_pos HP.out]
      have hwb : -32 ≤ weightV p q ∧ weightV p q ≤ 32 := by
        have := mul_bd r1 r2 r1 r2
        rw [hW]; omega
      obtain ⟨x1, x2⟩ := mul_bd (a := 10000) (b := 10000) (show -10000 ≤ row p q 2 p k % m by omega) (by omega) (show -10000 ≤ row p q 2 p k % m by omega) (by omega)
      obtain ⟨x3, x4⟩ := mul_bd (b := 10000) hwb.1 hwb.2 (show -10000 ≤ row p q 0 1 k % m by omega) (by omega)
      obtain ⟨x5, x6⟩ := mul_bd (b := 10000) x3 x4 (show -10000 ≤ row p q 0 1 k % m by omega) (by omega)
      obtain ⟨x7, x8⟩ := mul_bd (a := 10000) (b := 10000) (show -10000 ≤ row p q 2 p k % m by omega) (by omega) (show -10000 ≤ row p q 0 1 k % m by omega) (by omega)
      have x9 : 0 ≤ row p q 2 p k % m * (row p q 0 1 k % m) := Int.mul_nonneg v1 u1
      have T1 : (row p q 2 p k % m * (row p q 2 p k % m) - weightV p q * (row p q 0 1 k % m) * (row p q 0 1 k % m) - 4 * (q ^ k % m)).tmod m = 0 := by
        rw [hW]; exact Int.tmod_eq_zero_of_dvd (far_square p q m k)
      have T2 := far_twice p q m k
      clear hW hwb
      by_cases h2 : 2 * k ≤ 1000000000
      · obtain ⟨z1, z2⟩ := left_bd (row p q 0 1 (2 * k)) m m1
        go_wp2_with fail
        refine (implFarSecond_at p q m k _ _ _ rfl HP.out hk m1 m2 rfl).mono ?_
        rintro e w2 ⟨rfl, hh2⟩
        obtain ⟨hc2, hf2⟩ := bcell hh2
        have hz2 := hh2.size
        try simp only [World.size_alloc] at hz2
        have hz2_0 : w1.heap.size < w2.heap.size := by omega
        have kb2_0_0 : w2.cell? ⟨w1.heap.size, 0, none⟩ = some (.int .i64 p) := by go_simp
        have kf2_0_0 : w2.frozen? ⟨w1.heap.size, 0, none⟩ = false := by go_simp
        have kb2_0_1 : w2.cell? ⟨w1.heap.size, 1, none⟩ = some (.int .i64 q) := by go_simp
        have kf2_0_1 : w2.frozen? ⟨w1.heap.size, 1, none⟩ = false := by go_simp
        clear hc2 hf2
        go_wp2_with fail
        refine (specFarSecond_at p q m k _ _ _ rfl HP.out hk m1 m2 rfl).mono ?_
        rintro e w3 ⟨rfl, hh3⟩
        obtain ⟨hc3, hf3⟩ := bcell hh3
        have hz3 := hh3.size
        try simp only [World.size_alloc] at hz3
        have hz3_0 : w1.heap.size < w3.heap.size := by omega
        have kb3_0_0 : w3.cell? ⟨w1.heap.size, 0, none⟩ = some (.int .i64 p) := by go_simp
        have kf3_0_0 : w3.frozen? ⟨w1.heap.size, 0, none⟩ = false := by go_simp
        have kb3_0_1 : w3.cell? ⟨w1.heap.size, 1, none⟩ = some (.int .i64 q) := by go_simp
        have kf3_0_1 : w3.frozen? ⟨w1.heap.size, 1, none⟩ = false := by go_simp
        clear hc3 hf3
        go_wp2_with fail
        refine (implFarFirst_at p q m k _ _ _ rfl HP.out hk m1 m2 rfl).mono ?_
        rintro e w4 ⟨rfl, hh4⟩
        obtain ⟨hc4, hf4⟩ := bcell hh4
        have hz4 := hh4.size
        try simp only [World.size_alloc] at hz4
        have hz4_0 : w1.heap.size < w4.heap.size := by omega
        have kb4_0_0 : w4.cell? ⟨w1.heap.size, 0, none⟩ = some (.int .i64 p) := by go_simp
        have kf4_0_0 : w4.frozen? ⟨w1.heap.size, 0, none⟩ = false := by go_simp
        have kb4_0_1 : w4.cell? ⟨w1.heap.size, 1, none⟩ = some (.int .i64 q) := by go_simp
        have kf4_0_1 : w4.frozen? ⟨w1.heap.size, 1, none⟩ = false := by go_simp
        clear hc4 hf4
        go_wp2_with fail
        refine (implWeight_yes p q _ HP.out).mono ?_
        rintro e w5 ⟨rfl, hh5⟩
        obtain ⟨hc5, hf5⟩ := bcell hh5
        have hz5 := hh5.size
        try simp only [World.size_alloc] at hz5
        have hz5_0 : w1.heap.size < w5.heap.size := by omega
        have kb5_0_0 : w5.cell? ⟨w1.heap.size, 0, none⟩ = some (.int .i64 p) := by go_simp
        have kf5_0_0 : w5.frozen? ⟨w1.heap.size, 0, none⟩ = false := by go_simp
        have kb5_0_1 : w5.cell? ⟨w1.heap.size, 1, none⟩ = some (.int .i64 q) := by go_simp
        have kf5_0_1 : w5.frozen? ⟨w1.heap.size, 1, none⟩ = false := by go_simp
        clear hc5 hf5
        go_wp2_with fail
        refine (implPowerLeft_at q m k _ _ _ rfl (by omega) (by omega) hk m1 m2 rfl).mono ?_
        rintro e w6 ⟨rfl, hh6⟩
        obtain ⟨hc6, hf6⟩ := bcell hh6
        have hz6 := hh6.size
        try simp only [World.size_alloc] at hz6
        have hz6_0 : w1.heap.size < w6.heap.size := by omega
        have kb6_0_0 : w6.cell? ⟨w1.heap.size, 0, none⟩ = some (.int .i64 p) := by go_simp
        have kf6_0_0 : w6.frozen? ⟨w1.heap.size, 0, none⟩ = false := by go_simp
        have kb6_0_1 : w6.cell? ⟨w1.heap.size, 1, none⟩ = some (.int .i64 q) := by go_simp
        have kf6_0_1 : w6.frozen? ⟨w1.heap.size, 1, none⟩ = false := by go_simp
        clear hc6 hf6
        go_wp2_with fail
        refine (implFarFirst_at p q m (2 * k) _ _ _ (by omega) HP.out h2 m1 m2 rfl).mono ?_
        rintro e w7 ⟨rfl, hh7⟩
        obtain ⟨hc7, hf7⟩ := bcell hh7
        have hz7 := hh7.size
        try simp only [World.size_alloc] at hz7
        have hz7_0 : w1.heap.size < w7.heap.size := by omega
        have kb7_0_0 : w7.cell? ⟨w1.heap.size, 0, none⟩ = some (.int .i64 p) := by go_simp
        have kf7_0_0 : w7.frozen? ⟨w1.heap.size, 0, none⟩ = false := by go_simp
        have kb7_0_1 : w7.cell? ⟨w1.heap.size, 1, none⟩ = some (.int .i64 q) := by go_simp
        have kf7_0_1 : w7.frozen? ⟨w1.heap.size, 1, none⟩ = false := by go_simp
        clear hc7 hf7
        go_wp2_with fail
        refine (alive_any _).mono ?_
        rintro e w8 ⟨rfl, hh8⟩
        obtain ⟨hc8, hf8⟩ := bcell hh8
        have hz8 := hh8.size
        try simp only [World.size_alloc] at hz8
        clear hc8 hf8
        go_wp2
        go_ret
        exact ⟨rfl, by (repeat (first | exact Below.refl _ _ | refine below_drewN ?_ _ | refine Below.setCell ?_ (by first | omega | (simp <;> omega)) _ | refine Below.alloc ?_ (by first | omega | (simp <;> omega)) _ | refine Below.drew ?_ | refine Below.trans ?_ (Below.mono (by assumption) (by first | omega | (simp <;> omega))) | refine Below.grown ?_ (by assumption) (by first | omega | (simp <;> omega)) (fun k e => by cases e; first | omega | (simp <;> omega))))⟩
      · have HN := Lib.hid (farB_no (p := p) (q := q) (n := 2 * (k : Int)) (m := m) (by omega))
        go_wp2_with fail
        refine (implFarSecond_at p q m k _ _ _ rfl HP.out hk m1 m2 rfl).mono ?_
        rintro e w2 ⟨rfl, hh2⟩
        obtain ⟨hc2, hf2⟩ := bcell hh2
        have hz2 := hh2.size
        try simp only [World.size_alloc] at hz2
        have hz2_0 : w1.heap.size < w2.heap.size := by omega
        have kb2_0_0 : w2.cell? ⟨w1.heap.size, 0, none⟩ = some (.int .i64 p) := by go_simp
        have kf2_0_0 : w2.frozen? ⟨w1.heap.size, 0, none⟩ = false := by go_simp
        have kb2_0_1 : w2.cell? ⟨w1.heap.size, 1, none⟩ = some (.int .i64 q) := by go_simp
        have kf2_0_1 : w2.frozen? ⟨w1.heap.size, 1, none⟩ = false := by go_simp
        clear hc2 hf2
        go_wp2_with fail
        refine (specFarSecond_at p q m k _ _ _ rfl HP.out hk m1 m2 rfl).mono ?_
        rintro e w3 ⟨rfl, hh3⟩
        obtain ⟨hc3, hf3⟩ := bcell hh3
        have hz3 := hh3.size
        try simp only [World.size_alloc] at hz3
        have hz3_0 : w1.heap.size < w3.heap.size := by omega
        have kb3_0_0 : w3.cell? ⟨w1.heap.size, 0, none⟩ = some (.int .i64 p) := by go_simp
        have kf3_0_0 : w3.frozen? ⟨w1.heap.size, 0, none⟩ = false := by go_simp
        have kb3_0_1 : w3.cell? ⟨w1.heap.size, 1, none⟩ = some (.int .i64 q) := by go_simp
        have kf3_0_1 : w3.frozen? ⟨w1.heap.size, 1, none⟩ = false := by go_simp
        clear hc3 hf3
        go_wp2_with fail
        refine (implFarFirst_at p q m k _ _ _ rfl HP.out hk m1 m2 rfl).mono ?_
        rintro e w4 ⟨rfl, hh4⟩
        obtain ⟨hc4, hf4⟩ := bcell hh4
        have hz4 := hh4.size
        try simp only [World.size_alloc] at hz4
        have hz4_0 : w1.heap.size < w4.heap.size := by omega
        have kb4_0_0 : w4.cell? ⟨w1.heap.size, 0, none⟩ = some (.int .i64 p) := by go_simp
        have kf4_0_0 : w4.frozen? ⟨w1.heap.size, 0, none⟩ = false := by go_simp
        have kb4_0_1 : w4.cell? ⟨w1.heap.size, 1, none⟩ = some (.int .i64 q) := by go_simp
        have kf4_0_1 : w4.frozen? ⟨w1.heap.size, 1, none⟩ = false := by go_simp
        clear hc4 hf4
        go_wp2_with fail
        refine (implWeight_yes p q _ HP.out).mono ?_
        rintro e w5 ⟨rfl, hh5⟩
        obtain ⟨hc5, hf5⟩ := bcell hh5
        have hz5 := hh5.size
        try simp only [World.size_alloc] at hz5
        have hz5_0 : w1.heap.size < w5.heap.size := by omega
        have kb5_0_0 : w5.cell? ⟨w1.heap.size, 0, none⟩ = some (.int .i64 p) := by go_simp
        have kf5_0_0 : w5.frozen? ⟨w1.heap.size, 0, none⟩ = false := by go_simp
        have kb5_0_1 : w5.cell? ⟨w1.heap.size, 1, none⟩ = some (.int .i64 q) := by go_simp
        have kf5_0_1 : w5.frozen? ⟨w1.heap.size, 1, none⟩ = false := by go_simp
        clear hc5 hf5
        go_wp2_with fail
        refine (implPowerLeft_at q m k _ _ _ rfl (by omega) (by omega) hk m1 m2 rfl).mono ?_
        rintro e w6 ⟨rfl, hh6⟩
        obtain ⟨hc6, hf6⟩ := bcell hh6
        have hz6 := hh6.size
        try simp only [World.size_alloc] at hz6
        have hz6_0 : w1.heap.size < w6.heap.size := by omega
        have kb6_0_0 : w6.cell? ⟨w1.heap.size, 0, none⟩ = some (.int .i64 p) := by go_simp
        have kf6_0_0 : w6.frozen? ⟨w1.heap.size, 0, none⟩ = false := by go_simp
        have kb6_0_1 : w6.cell? ⟨w1.heap.size, 1, none⟩ = some (.int .i64 q) := by go_simp
        have kf6_0_1 : w6.frozen? ⟨w1.heap.size, 1, none⟩ = false := by go_simp
        clear hc6 hf6
        go_wp2_with fail
        refine (implFarFirst_no p q _ m _ HN.out).mono ?_
        rintro e w7 ⟨rfl, hh7⟩
        obtain ⟨hc7, hf7⟩ := bcell hh7
        have hz7 := hh7.size
        try simp only [World.size_alloc] at hz7
        have hz7_0 : w1.heap.size < w7.heap.size := by omega
        have kb7_0_0 : w7.cell? ⟨w1.heap.size, 0, none⟩ = some (.int .i64 p) := by go_simp
        have kf7_0_0 : w7.frozen? ⟨w1.heap.size, 0, none⟩ = false := by go_simp
        have kb7_0_1 : w7.cell? ⟨w1.heap.size, 1, none⟩ = some (.int .i64 q) := by go_simp
        have kf7_0_1 : w7.frozen? ⟨w1.heap.size, 1, none⟩ = false := by go_simp
        clear hc7 hf7
        go_wp2_with fail
        refine (alive_any _).mono ?_
        rintro e w8 ⟨rfl, hh8⟩
        obtain ⟨hc8, hf8⟩ := bcell hh8
        have hz8 := hh8.size
        try simp only [World.size_alloc] at hz8
        clear hc8 hf8
        go_wp2
        go_ret
        exact ⟨rfl, by (repeat (first | exact Below.refl _ _ | refine below_drewN ?_ _ | refine Below.setCell ?_ (by first | omega | (simp <;> omega)) _ | refine Below.alloc ?_ (by first | omega | (simp <;> omega)) _ | refine Below.drew ?_ | refine Below.trans ?_ (Below.mono (by assumption) (by first | omega | (simp <;> omega))) | refine Below.grown ?_ (by assumption) (by first | omega | (simp <;> omega)) (fun k e => by cases e; first | omega | (simp <;> omega))))⟩
    · have H := Lib.hid (show farB p q n m = false by simpa using h)
      clear h
      go_wp2_with fail
      refine (implFarSecond_no p q n m _ H.out).mono ?_
      rintro e w2 ⟨rfl, hh2⟩
      obtain ⟨hc2, hf2⟩ := bcell hh2
      have hz2 := hh2.size
      try simp only [World.size_alloc] at hz2
      have hz2_0 : w1.heap.size < w2.heap.size := by omega
      have kb2_0_0 : w2.cell? ⟨w1.heap.size, 0, none⟩ = some (.int .i64 p) := by go_simp
      have kf2_0_0 : w2.frozen? ⟨w1.heap.size, 0, none⟩ = false := by go_simp
      have kb2_0_1 : w2.cell? ⟨w1.heap.size, 1, none⟩ = some (.int .i64 q) := by go_simp
      have kf2_0_1 : w2.frozen? ⟨w1.heap.size, 1, none⟩ = false := by go_simp
      clear hc2 hf2
      go_wp2_with fail
      refine (specFarSecond_no p q n m _ H.out).mono ?_
      rintro e w3 ⟨rfl, hh3⟩
      obtain ⟨hc3, hf3⟩ := bcell hh3
      have hz3 := hh3.size
      try simp only [World.size_alloc] at hz3
      have hz3_0 : w1.heap.size < w3.heap.size := by omega
      have kb3_0_0 : w3.cell? ⟨w1.heap.size, 0, none⟩ = some (.int .i64 p) := by go_simp
      have kf3_0_0 : w3.frozen? ⟨w1.heap.size, 0, none⟩ = false := by go_simp
      have kb3_0_1 : w3.cell? ⟨w1.heap.size, 1, none⟩ = some (.int .i64 q) := by go_simp
      have kf3_0_1 : w3.frozen? ⟨w1.heap.size, 1, none⟩ = false := by go_simp
      clear hc3 hf3
      go_wp2_with fail
      refine (alive_any _).mono ?_
      rintro e w4 ⟨rfl, hh4⟩
      obtain ⟨hc4, hf4⟩ := bcell hh4
      have hz4 := hh4.size
      try simp only [World.size_alloc] at hz4
      clear hc4 hf4
      go_wp2
      go_ret
      exact ⟨rfl, by (repeat (first | exact Below.refl _ _ | refine Below.setCell ?_ (by first | omega | (simp <;> omega)) _ | refine Below.alloc ?_ (by first | omega | (simp <;> omega)) _ | refine Below.drew ?_ | refine Below.trans ?_ (Below.mono (by assumption) (by first | omega | (simp <;> omega))) | refine Below.grown ?_ (by assumption) (by first | omega | (simp <;> omega)) (fun k e => by cases e; first | omega | (simp <;> omega))))⟩
end Go.Proofs.Ytgcpmgddlaeccaa
