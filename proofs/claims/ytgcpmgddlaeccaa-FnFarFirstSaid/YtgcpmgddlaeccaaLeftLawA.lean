/- The walk of the law on FarFirst: bits tell what is left. -/
import Derived.Test.YtgcpmgddlaeccaaLeftLaws
namespace Go.Proofs.Ytgcpmgddlaeccaa
open Go.RowKit
set_option maxRecDepth 100000 in
set_option maxHeartbeats 8000000 in
theorem fnFarFirst_walk (a : Option Addr) (len cap : Nat) (z : List Int) (w : World) (w0 : IsRow w a len cap z) :
    Calls Try.prog 3 #[.slice a len cap] w fun e w' => e = .returned (.bool true) ∧ Below w.heap.size w w' := by
  by_cases hbig : 1048576 < len
  · go_enter Try.func3, Try.ntmps3
    go_wp2
    go_ret
    exact ⟨rfl, Below.refl _ _⟩
  · have hsm : len ≤ 1048576 := by omega
    go_enter Try.func3, Try.ntmps3
    go_wp2_with fail
    refine (drawFarFirst_any _ _ _ _ z w0).mono ?_
    rintro e w1 ⟨p, q, n, m, rfl, hh1⟩
    have hz1 := hh1.size
    obtain ⟨hc1, hf1⟩ := bcell hh1
    by_cases h : farB p q n m = true
    · obtain ⟨hp, ⟨k, rfl, hk⟩, m1, m2⟩ := farB_true h
      obtain ⟨⟨r1, r2⟩, r3, r4⟩ := pairB_true hp
      have HP := Lib.hid hp
      have hz : (m == 0) = false := by simp; omega
      clear h hp
      by_cases h0 : k = 0
      · subst h0
        obtain ⟨u1, u2⟩ := left_bd (row p q 0 1 (0)) m m1
        obtain ⟨a1, a2⟩ := tmod_bd (row p q 0 1 8) m m1
        obtain ⟨b1, b2⟩ := tmod_bd (row p q 0 1 7) m m1
        have HN := Lib.hid (farB_no (p := p) (q := q) (n := -1) (m := m) (by omega))
        go_wp2_with fail
        refine (implFarFirst_at p q m (0) _ _ _ (by omega) HP.out (by omega) m1 m2 rfl).mono ?_
        rintro e w2 ⟨rfl, hh2⟩
        obtain ⟨hc2, hf2⟩ := bcell hh2
        have hz2 := hh2.size
        try simp only [World.size_alloc] at hz2
        have hz2_0 : w1.heap.size < w2.heap.size := by omega
        have kb2_0_0 : w2.cell? ⟨w1.heap.size, 0, none⟩ = some (.int .i64 p) := by go_simp
        have kf2_0_0 : w2.frozen? ⟨w1.heap.size, 0, none⟩ = false := by go_simp
        have kb2_0_1 : w2.cell? ⟨w1.heap.size, 1, none⟩ = some (.int .i64 q) := by go_simp
        have kf2_0_1 : w2.frozen? ⟨w1.heap.size, 1, none⟩ = false := by go_simp
        clear hc2 hf2
        go_wp2_with fail
        refine (specFarFirst_at p q m (0) _ _ _ (by omega) HP.out (by omega) m1 m2 rfl).mono ?_
        rintro e w3 ⟨rfl, hh3⟩
        obtain ⟨hc3, hf3⟩ := bcell hh3
        have hz3 := hh3.size
        try simp only [World.size_alloc] at hz3
        have hz3_0 : w1.heap.size < w3.heap.size := by omega
        have kb3_0_0 : w3.cell? ⟨w1.heap.size, 0, none⟩ = some (.int .i64 p) := by go_simp
        have kf3_0_0 : w3.frozen? ⟨w1.heap.size, 0, none⟩ = false := by go_simp
        have kb3_0_1 : w3.cell? ⟨w1.heap.size, 1, none⟩ = some (.int .i64 q) := by go_simp
        have kf3_0_1 : w3.frozen? ⟨w1.heap.size, 1, none⟩ = false := by go_simp
        clear hc3 hf3
        go_wp2_with fail
        refine (specRowLeft_any p q _ m _).mono ?_
        rintro e w4 ⟨u4, rfl, hI4, hh4⟩
        obtain ⟨hc4, hf4⟩ := bcell hh4
        have hz4 := hh4.size
        try simp only [World.size_alloc] at hz4
        have hz4_0 : w1.heap.size < w4.heap.size := by omega
        have kb4_0_0 : w4.cell? ⟨w1.heap.size, 0, none⟩ = some (.int .i64 p) := by go_simp
        have kf4_0_0 : w4.frozen? ⟨w1.heap.size, 0, none⟩ = false := by go_simp
        have kb4_0_1 : w4.cell? ⟨w1.heap.size, 1, none⟩ = some (.int .i64 q) := by go_simp
        have kf4_0_1 : w4.frozen? ⟨w1.heap.size, 1, none⟩ = false := by go_simp
        clear hc4 hf4
        rw [rowLeftN_is p q m ((0 : Int)) (0) (by omega) HP.out (by omega) m1 m2] at hI4
        obtain ⟨a4, c4, rfl, hC4, hs4⟩ := hI4
        obtain ⟨g4, o4, rfl, hg1, hg2, hcl, hfl⟩ : ∃ g off, a4 = some ⟨g, off, none⟩ ∧ w3.heap.size ≤ g ∧ g < w4.heap.size ∧ (∀ i, i < 0 + 1 → w4.cell? ⟨g, off + i, none⟩ = some (.int .i64 (row p q 0 1 i % m))) ∧ (∀ i, i < 0 + 1 → w4.frozen? ⟨g, off + i, none⟩ = false) := by
          rcases hs4 with h | h
          · omega
          · exact h
        have kl : w4.cell? ⟨g4, o4 + (0), none⟩ = some (.int .i64 (row p q 0 1 (0) % m)) := hcl _ (by omega)
        have ix0 : (0 : Int) ≤ (0 : Int) := by omega
        have ix1 : (0 : Int) < (0 : Int) + 1 := by omega
        have ix2 : ((0 : Int)).toNat = 0 := by omega
        have kl0 : w4.cell? ⟨g4, o4 + (0), none⟩ = some (.int .i64 (row p q 0 1 (0) % m)) := kl
        try simp only [Nat.add_zero] at kl0
        clear hcl hfl hs4
        go_wp2_with fail
        refine (implFirst_at p q 8 _ _ _ rfl HP.out (by omega) rfl).mono ?_
        rintro e w5 ⟨rfl, hh5⟩
        obtain ⟨hc5, hf5⟩ := bcell hh5
        have hz5 := hh5.size
        try simp only [World.size_alloc] at hz5
        have hz5_0 : w1.heap.size < w5.heap.size := by omega
        have kb5_0_0 : w5.cell? ⟨w1.heap.size, 0, none⟩ = some (.int .i64 p) := by go_simp
        have kf5_0_0 : w5.frozen? ⟨w1.heap.size, 0, none⟩ = false := by go_simp
        have kb5_0_1 : w5.cell? ⟨w1.heap.size, 1, none⟩ = some (.int .i64 q) := by go_simp
        have kf5_0_1 : w5.frozen? ⟨w1.heap.size, 1, none⟩ = false := by go_simp
        clear hc5 hf5
        go_wp2_with fail
        refine (implFirst_at p q 7 _ _ _ rfl HP.out (by omega) rfl).mono ?_
        rintro e w6 ⟨rfl, hh6⟩
        obtain ⟨hc6, hf6⟩ := bcell hh6
        have hz6 := hh6.size
        try simp only [World.size_alloc] at hz6
        have hz6_0 : w1.heap.size < w6.heap.size := by omega
        have kb6_0_0 : w6.cell? ⟨w1.heap.size, 0, none⟩ = some (.int .i64 p) := by go_simp
        have kf6_0_0 : w6.frozen? ⟨w1.heap.size, 0, none⟩ = false := by go_simp
        have kb6_0_1 : w6.cell? ⟨w1.heap.size, 1, none⟩ = some (.int .i64 q) := by go_simp
        have kf6_0_1 : w6.frozen? ⟨w1.heap.size, 1, none⟩ = false := by go_simp
        clear hc6 hf6
        go_wp2_with fail
        refine (implFarFirst_at p q m 7 _ _ _ (by omega) HP.out (by omega) m1 m2 rfl).mono ?_
        rintro e w7 ⟨rfl, hh7⟩
        obtain ⟨hc7, hf7⟩ := bcell hh7
        have hz7 := hh7.size
        try simp only [World.size_alloc] at hz7
        have hz7_0 : w1.heap.size < w7.heap.size := by omega
        have kb7_0_0 : w7.cell? ⟨w1.heap.size, 0, none⟩ = some (.int .i64 p) := by go_simp
        have kf7_0_0 : w7.frozen? ⟨w1.heap.size, 0, none⟩ = false := by go_simp
        have kb7_0_1 : w7.cell? ⟨w1.heap.size, 1, none⟩ = some (.int .i64 q) := by go_simp
        have kf7_0_1 : w7.frozen? ⟨w1.heap.size, 1, none⟩ = false := by go_simp
        clear hc7 hf7
        go_wp2_with fail
        refine (implFarFirst_no p q _ m _ HN.out).mono ?_
        rintro e w8 ⟨rfl, hh8⟩
        obtain ⟨hc8, hf8⟩ := bcell hh8
        have hz8 := hh8.size
        try simp only [World.size_alloc] at hz8
        have hz8_0 : w1.heap.size < w8.heap.size := by omega
        have kb8_0_0 : w8.cell? ⟨w1.heap.size, 0, none⟩ = some (.int .i64 p) := by go_simp
        have kf8_0_0 : w8.frozen? ⟨w1.heap.size, 0, none⟩ = false := by go_simp
        have kb8_0_1 : w8.cell? ⟨w1.heap.size, 1, none⟩ = some (.int .i64 q) := by go_simp
        have kf8_0_1 : w8.frozen? ⟨w1.heap.size, 1, none⟩ = false := by go_simp
        clear hc8 hf8
        go_wp2
        go_quiet (fail)
        
        go_wp2_with fail
        refine (alive_any _).mono ?_
        rintro e w10 ⟨rfl, hh10⟩
        obtain ⟨hc10, hf10⟩ := bcell hh10
        have hz10 := hh10.size
        try simp only [World.size_alloc] at hz10
        clear hc10 hf10
        go_wp2
        go_ret
        exact ⟨rfl, by (repeat (first | exact Below.refl _ _ | refine below_drewN ?_ _ | refine Below.setCell ?_ (by first | omega | (simp <;> omega)) _ | refine Below.alloc ?_ (by first | omega | (simp <;> omega)) _ | refine Below.drew ?_ | refine Below.trans ?_ (Below.mono (by assumption) (by first | omega | (simp <;> omega))) | refine Below.grown ?_ (by assumption) (by first | omega | (simp <;> omega)) (fun k e => by cases e; first | omega | (simp <;> omega))))⟩
      · obtain ⟨j, rfl⟩ : ∃ j, k = j + 1 := ⟨k - 1, by omega⟩
        clear h0
        have j1 : ¬ ((j : Int) + 1 < 1) := by omega
        obtain ⟨u1, u2⟩ := left_bd (row p q 0 1 (j + 1)) m m1
        obtain ⟨a1, a2⟩ := tmod_bd (row p q 0 1 8) m m1
        obtain ⟨b1, b2⟩ := tmod_bd (row p q 0 1 7) m m1
        by_cases h7 : j + 8 ≤ 1000000000
        · obtain ⟨v1, v2⟩ := left_bd (row p q 0 1 j) m m1
          obtain ⟨x1, x2⟩ := mul_bd (a := 10000) (b := 10000) (show -10000 ≤ row p q 0 1 (j + 1) % m by omega) (by omega) (show -10000 ≤ (row p q 0 1 8).tmod m by omega) (by omega)
          obtain ⟨x3, x4⟩ := mul_bd (a := 10000) (b := 10000) (show -10000 ≤ row p q 0 1 j % m by omega) (by omega) (show -10000 ≤ (row p q 0 1 7).tmod m by omega) (by omega)
          obtain ⟨c1, c2⟩ := tmod_bd (row p q 0 1 j % m * (row p q 0 1 7).tmod m) m m1
          obtain ⟨x5, x6⟩ := mul_bd (b := 10000) r3 r4 (show -10000 ≤ (row p q 0 1 j % m * (row p q 0 1 7).tmod m).tmod m by omega) (by omega)
          obtain ⟨d1, d2⟩ := tmod_bd (row p q 0 1 (j + 1) % m * (row p q 0 1 8).tmod m - q * (row p q 0 1 j % m * (row p q 0 1 7).tmod m).tmod m) m m1
          obtain ⟨z1, z2⟩ := left_bd (row p q 0 1 (j + 8)) m m1
          have T := far_want p q m j
          have U1 : IntKind.i64.wrap (row p q 0 1 (j + 1) % m * (row p q 0 1 8).tmod m) = row p q 0 1 (j + 1) % m * (row p q 0 1 8).tmod m := by rw [IntKind.wrap_i64]; omega
          have U2 : IntKind.i64.wrap (row p q 0 1 j % m * (row p q 0 1 7).tmod m) = row p q 0 1 j % m * (row p q 0 1 7).tmod m := by rw [IntKind.wrap_i64]; omega
          have U3 : IntKind.i64.wrap (q * (row p q 0 1 j % m * (row p q 0 1 7).tmod m).tmod m) = q * (row p q 0 1 j % m * (row p q 0 1 7).tmod m).tmod m := by rw [IntKind.wrap_i64]; omega
          have U4 : IntKind.i64.wrap (row p q 0 1 (j + 1) % m * (row p q 0 1 8).tmod m - q * (row p q 0 1 j % m * (row p q 0 1 7).tmod m).tmod m) = row p q 0 1 (j + 1) % m * (row p q 0 1 8).tmod m - q * (row p q 0 1 j % m * (row p q 0 1 7).tmod m).tmod m := by rw [IntKind.wrap_i64]; omega
          by_cases h2 : j + 1 ≤ 200
          · go_wp2_with fail
            refine (implFarFirst_at p q m (j + 1) _ _ _ (by omega) HP.out (by omega) m1 m2 rfl).mono ?_
            rintro e w2 ⟨rfl, hh2⟩
            obtain ⟨hc2, hf2⟩ := bcell hh2
            have hz2 := hh2.size
            try simp only [World.size_alloc] at hz2
            have hz2_0 : w1.heap.size < w2.heap.size := by omega
            have kb2_0_0 : w2.cell? ⟨w1.heap.size, 0, none⟩ = some (.int .i64 p) := by go_simp
            have kf2_0_0 : w2.frozen? ⟨w1.heap.size, 0, none⟩ = false := by go_simp
            have kb2_0_1 : w2.cell? ⟨w1.heap.size, 1, none⟩ = some (.int .i64 q) := by go_simp
            have kf2_0_1 : w2.frozen? ⟨w1.heap.size, 1, none⟩ = false := by go_simp
            clear hc2 hf2
            go_wp2_with fail
            refine (specFarFirst_at p q m (j + 1) _ _ _ (by omega) HP.out (by omega) m1 m2 rfl).mono ?_
            rintro e w3 ⟨rfl, hh3⟩
            obtain ⟨hc3, hf3⟩ := bcell hh3
            have hz3 := hh3.size
            try simp only [World.size_alloc] at hz3
            have hz3_0 : w1.heap.size < w3.heap.size := by omega
            have kb3_0_0 : w3.cell? ⟨w1.heap.size, 0, none⟩ = some (.int .i64 p) := by go_simp
            have kf3_0_0 : w3.frozen? ⟨w1.heap.size, 0, none⟩ = false := by go_simp
            have kb3_0_1 : w3.cell? ⟨w1.heap.size, 1, none⟩ = some (.int .i64 q) := by go_simp
            have kf3_0_1 : w3.frozen? ⟨w1.heap.size, 1, none⟩ = false := by go_simp
            clear hc3 hf3
            go_wp2_with fail
            refine (specRowLeft_any p q _ m _).mono ?_
            rintro e w4 ⟨u4, rfl, hI4, hh4⟩
            obtain ⟨hc4, hf4⟩ := bcell hh4
            have hz4 := hh4.size
            try simp only [World.size_alloc] at hz4
            have hz4_0 : w1.heap.size < w4.heap.size := by omega
            have kb4_0_0 : w4.cell? ⟨w1.heap.size, 0, none⟩ = some (.int .i64 p) := by go_simp
            have kf4_0_0 : w4.frozen? ⟨w1.heap.size, 0, none⟩ = false := by go_simp
            have kb4_0_1 : w4.cell? ⟨w1.heap.size, 1, none⟩ = some (.int .i64 q) := by go_simp
            have kf4_0_1 : w4.frozen? ⟨w1.heap.size, 1, none⟩ = false := by go_simp
            clear hc4 hf4
            rw [rowLeftN_is p q m (((j : Int) + 1)) (j + 1) (by omega) HP.out (by omega) m1 m2] at hI4
            obtain ⟨a4, c4, rfl, hC4, hs4⟩ := hI4
            obtain ⟨g4, o4, rfl, hg1, hg2, hcl, hfl⟩ : ∃ g off, a4 = some ⟨g, off, none⟩ ∧ w3.heap.size ≤ g ∧ g < w4.heap.size ∧ (∀ i, i < j + 1 + 1 → w4.cell? ⟨g, off + i, none⟩ = some (.int .i64 (row p q 0 1 i % m))) ∧ (∀ i, i < j + 1 + 1 → w4.frozen? ⟨g, off + i, none⟩ = false) := by
              rcases hs4 with h | h
              · omega
              · exact h
            have kl : w4.cell? ⟨g4, o4 + (j + 1), none⟩ = some (.int .i64 (row p q 0 1 (j + 1) % m)) := hcl _ (by omega)
            have ix0 : (0 : Int) ≤ ((j : Int) + 1) := by omega
            have ix1 : ((j : Int) + 1) < ((j : Int) + 1) + 1 := by omega
            have ix2 : (((j : Int) + 1)).toNat = j + 1 := by omega
            have kl0 : w4.cell? ⟨g4, o4 + (j + 1), none⟩ = some (.int .i64 (row p q 0 1 (j + 1) % m)) := kl
            try simp only [Nat.add_zero] at kl0
            clear hcl hfl hs4
            go_wp2_with fail
            refine (implFirst_at p q 8 _ _ _ rfl HP.out (by omega) rfl).mono ?_
            rintro e w5 ⟨rfl, hh5⟩
            obtain ⟨hc5, hf5⟩ := bcell hh5
            have hz5 := hh5.size
            try simp only [World.size_alloc] at hz5
            have hz5_0 : w1.heap.size < w5.heap.size := by omega
            have kb5_0_0 : w5.cell? ⟨w1.heap.size, 0, none⟩ = some (.int .i64 p) := by go_simp
            have kf5_0_0 : w5.frozen? ⟨w1.heap.size, 0, none⟩ = false := by go_simp
            have kb5_0_1 : w5.cell? ⟨w1.heap.size, 1, none⟩ = some (.int .i64 q) := by go_simp
            have kf5_0_1 : w5.frozen? ⟨w1.heap.size, 1, none⟩ = false := by go_simp
            clear hc5 hf5
            go_wp2_with fail
            refine (implFirst_at p q 7 _ _ _ rfl HP.out (by omega) rfl).mono ?_
            rintro e w6 ⟨rfl, hh6⟩
            obtain ⟨hc6, hf6⟩ := bcell hh6
            have hz6 := hh6.size
            try simp only [World.size_alloc] at hz6
            have hz6_0 : w1.heap.size < w6.heap.size := by omega
            have kb6_0_0 : w6.cell? ⟨w1.heap.size, 0, none⟩ = some (.int .i64 p) := by go_simp
            have kf6_0_0 : w6.frozen? ⟨w1.heap.size, 0, none⟩ = false := by go_simp
            have kb6_0_1 : w6.cell? ⟨w1.heap.size, 1, none⟩ = some (.int .i64 q) := by go_simp
            have kf6_0_1 : w6.frozen? ⟨w1.heap.size, 1, none⟩ = false := by go_simp
            clear hc6 hf6
            go_wp2_with fail
            refine (implFarFirst_at p q m (j + 8) _ _ _ (by omega) HP.out (by omega) m1 m2 rfl).mono ?_
            rintro e w7 ⟨rfl, hh7⟩
            obtain ⟨hc7, hf7⟩ := bcell hh7
            have hz7 := hh7.size
            try simp only [World.size_alloc] at hz7
            have hz7_0 : w1.heap.size < w7.heap.size := by omega
            have kb7_0_0 : w7.cell? ⟨w1.heap.size, 0, none⟩ = some (.int .i64 p) := by go_simp
            have kf7_0_0 : w7.frozen? ⟨w1.heap.size, 0, none⟩ = false := by go_simp
            have kb7_0_1 : w7.cell? ⟨w1.heap.size, 1, none⟩ = some (.int .i64 q) := by go_simp
            have kf7_0_1 : w7.frozen? ⟨w1.heap.size, 1, none⟩ = false := by go_simp
            clear hc7 hf7
            go_wp2_with fail
            refine (implFarFirst_at p q m j _ _ _ (by omega) HP.out (by omega) m1 m2 rfl).mono ?_
            rintro e w8 ⟨rfl, hh8⟩
            obtain ⟨hc8, hf8⟩ := bcell hh8
            have hz8 := hh8.size
            try simp only [World.size_alloc] at hz8
            have hz8_0 : w1.heap.size < w8.heap.size := by omega
            have kb8_0_0 : w8.cell? ⟨w1.heap.size, 0, none⟩ = some (.int .i64 p) := by go_simp
            have kf8_0_0 : w8.frozen? ⟨w1.heap.size, 0, none⟩ = false := by go_simp
            have kb8_0_1 : w8.cell? ⟨w1.heap.size, 1, none⟩ = some (.int .i64 q) := by go_simp
            have kf8_0_1 : w8.frozen? ⟨w1.heap.size, 1, none⟩ = false := by go_simp
            clear hc8 hf8
            go_wp2
            go_quiet (fail)
            
            go_wp2_with fail
            refine (alive_any _).mono ?_
            rintro e w10 ⟨rfl, hh10⟩
            obtain ⟨hc10, hf10⟩ := bcell hh10
            have hz10 := hh10.size
            try simp only [World.size_alloc] at hz10
            clear hc10 hf10
            go_wp2
            go_ret
            exact ⟨rfl, by (repeat (first | exact Below.refl _ _ | refine below_drewN ?_ _ | refine Below.setCell ?_ (by first | omega | (simp <;> omega)) _ | refine Below.alloc ?_ (by first | omega | (simp <;> omega)) _ | refine Below.drew ?_ | refine Below.trans ?_ (Below.mono (by assumption) (by first | omega | (simp <;> omega))) | refine Below.grown ?_ (by assumption) (by first | omega | (simp <;> omega)) (fun k e => by cases e; first | omega | (simp <;> omega))))⟩
          · go_wp2_with fail
            refine (implFarFirst_at p q m (j + 1) _ _ _ (by omega) HP.out (by omega) m1 m2 rfl).mono ?_
            rintro e w2 ⟨rfl, hh2⟩
            obtain ⟨hc2, hf2⟩ := bcell hh2
            have hz2 := hh2.size
            try simp only [World.size_alloc] at hz2
            have hz2_0 : w1.heap.size < w2.heap.size := by omega
            have kb2_0_0 : w2.cell? ⟨w1.heap.size, 0, none⟩ = some (.int .i64 p) := by go_simp
            have kf2_0_0 : w2.frozen? ⟨w1.heap.size, 0, none⟩ = false := by go_simp
            have kb2_0_1 : w2.cell? ⟨w1.heap.size, 1, none⟩ = some (.int .i64 q) := by go_simp
            have kf2_0_1 : w2.frozen? ⟨w1.heap.size, 1, none⟩ = false := by go_simp
            clear hc2 hf2
            go_wp2_with fail
            refine (specFarFirst_at p q m (j + 1) _ _ _ (by omega) HP.out (by omega) m1 m2 rfl).mono ?_
            rintro e w3 ⟨rfl, hh3⟩
            obtain ⟨hc3, hf3⟩ := bcell hh3
            have hz3 := hh3.size
            try simp only [World.size_alloc] at hz3
            have hz3_0 : w1.heap.size < w3.heap.size := by omega
            have kb3_0_0 : w3.cell? ⟨w1.heap.size, 0, none⟩ = some (.int .i64 p) := by go_simp
            have kf3_0_0 : w3.frozen? ⟨w1.heap.size, 0, none⟩ = false := by go_simp
            have kb3_0_1 : w3.cell? ⟨w1.heap.size, 1, none⟩ = some (.int .i64 q) := by go_simp
            have kf3_0_1 : w3.frozen? ⟨w1.heap.size, 1, none⟩ = false := by go_simp
            clear hc3 hf3
            go_wp2_with fail
            refine (implFirst_at p q 8 _ _ _ rfl HP.out (by omega) rfl).mono ?_
            rintro e w4 ⟨rfl, hh4⟩
            obtain ⟨hc4, hf4⟩ := bcell hh4
            have hz4 := hh4.size
            try simp only [World.size_alloc] at hz4
            have hz4_0 : w1.heap.size < w4.heap.size := by omega
            have kb4_0_0 : w4.cell? ⟨w1.heap.size, 0, none⟩ = some (.int .i64 p) := by go_simp
            have kf4_0_0 : w4.frozen? ⟨w1.heap.size, 0, none⟩ = false := by go_simp
            have kb4_0_1 : w4.cell? ⟨w1.heap.size, 1, none⟩ = some (.int .i64 q) := by go_simp
            have kf4_0_1 : w4.frozen? ⟨w1.heap.size, 1, none⟩ = false := by go_simp
            clear hc4 hf4
            go_wp2_with fail
            refine (implFirst_at p q 7 _ _ _ rfl HP.out (by omega) rfl).mono ?_
            rintro e w5 ⟨rfl, hh5⟩
            obtain ⟨hc5, hf5⟩ := bcell hh5
            have hz5 := hh5.size
            try simp only [World.size_alloc] at hz5
            have hz5_0 : w1.heap.size < w5.heap.size := by omega
            have kb5_0_0 : w5.cell? ⟨w1.heap.size, 0, none⟩ = some (.int .i64 p) := by go_simp
            have kf5_0_0 : w5.frozen? ⟨w1.heap.size, 0, none⟩ = false := by go_simp
            have kb5_0_1 : w5.cell? ⟨w1.heap.size, 1, none⟩ = some (.int .i64 q) := by go_simp
            have kf5_0_1 : w5.frozen? ⟨w1.heap.size, 1, none⟩ = false := by go_simp
            clear hc5 hf5
            go_wp2_with fail
            refine (implFarFirst_at p q m (j + 8) _ _ _ (by omega) HP.out (by omega) m1 m2 rfl).mono ?_
            rintro e w6 ⟨rfl, hh6⟩
            obtain ⟨hc6, hf6⟩ := bcell hh6
            have hz6 := hh6.size
            try simp only [World.size_alloc] at hz6
            have hz6_0 : w1.heap.size < w6.heap.size := by omega
            have kb6_0_0 : w6.cell? ⟨w1.heap.size, 0, none⟩ = some (.int .i64 p) := by go_simp
            have kf6_0_0 : w6.frozen? ⟨w1.heap.size, 0, none⟩ = false := by go_simp
            have kb6_0_1 : w6.cell? ⟨w1.heap.size, 1, none⟩ = some (.int .i64 q) := by go_simp
            have kf6_0_1 : w6.frozen? ⟨w1.heap.size, 1, none⟩ = false := by go_simp
            clear hc6 hf6
            go_wp2_with fail
            refine (implFarFirst_at p q m j _ _ _ (by omega) HP.out (by omega) m1 m2 rfl).mono ?_
            rintro e w7 ⟨rfl, hh7⟩
            obtain ⟨hc7, hf7⟩ := bcell hh7
            have hz7 := hh7.size
            try simp only [World.size_alloc] at hz7
            have hz7_0 : w1.heap.size < w7.heap.size := by omega
            have kb7_0_0 : w7.cell? ⟨w1.heap.size, 0, none⟩ = some (.int .i64 p) := by go_simp
            have kf7_0_0 : w7.frozen? ⟨w1.heap.size, 0, none⟩ = false := by go_simp
            have kb7_0_1 : w7.cell? ⟨w1.heap.size, 1, none⟩ = some (.int .i64 q) := by go_simp
            have kf7_0_1 : w7.frozen? ⟨w1.heap.size, 1, none⟩ = false := by go_simp
            clear hc7 hf7
            go_wp2
            go_quiet (fail)
            
            go_wp2_with fail
            refine (alive_any _).mono ?_
            rintro e w9 ⟨rfl, hh9⟩
            obtain ⟨hc9, hf9⟩ := bcell hh9
            have hz9 := hh9.size
            try simp only [World.size_alloc] at hz9
            clear hc9 hf9
            go_wp2
            go_ret
            exact ⟨rfl, by (repeat (first | exact Below.refl _ _ | refine below_drewN ?_ _ | refine Below.setCell ?_ (by first | omega | (simp <;> omega)) _ | refine Below.alloc ?_ (by first | omega | (simp <;> omega)) _ | refine Below.drew ?_ | refine Below.trans ?_ (Below.mono (by assumption) (by first | omega | (simp <;> omega))) | refine Below.grown ?_ (by assumption) (by first | omega | (simp <;> omega)) (fun k e => by cases e; first | omega | (simp <;> omega))))⟩
        · have HN := Lib.hid (farB_no (p := p) (q := q) (n := ((j + 1 : Nat) : Int) + 7) (m := m) (by omega))
          go_wp2_with fail
          refine (implFarFirst_at p q m (j + 1) _ _ _ (by omega) HP.out (by omega) m1 m2 rfl).mono ?_
          rintro e w2 ⟨rfl, hh2⟩
          obtain ⟨hc2, hf2⟩ := bcell hh2
          have hz2 := hh2.size
          try simp only [World.size_alloc] at hz2
          have hz2_0 : w1.heap.size < w2.heap.size := by omega
          have kb2_0_0 : w2.cell? ⟨w1.heap.size, 0, none⟩ = some (.int .i64 p) := by go_simp
          have kf2_0_0 : w2.frozen? ⟨w1.heap.size, 0, none⟩ = false := by go_simp
          have kb2_0_1 : w2.cell? ⟨w1.heap.size, 1, none⟩ = some (.int .i64 q) := by go_simp
          have kf2_0_1 : w2.frozen? ⟨w1.heap.size, 1, none⟩ = false := by go_simp
          clear hc2 hf2
          go_wp2_with fail
          refine (specFarFirst_at p q m (j + 1) _ _ _ (by omega) HP.out (by omega) m1 m2 rfl).mono ?_
          rintro e w3 ⟨rfl, hh3⟩
          obtain ⟨hc3, hf3⟩ := bcell hh3
          have hz3 := hh3.size
          try simp only [World.size_alloc] at hz3
          have hz3_0 : w1.heap.size < w3.heap.size := by omega
          have kb3_0_0 : w3.cell? ⟨w1.heap.size, 0, none⟩ = some (.int .i64 p) := by go_simp
          have kf3_0_0 : w3.frozen? ⟨w1.heap.size, 0, none⟩ = false := by go_simp
          have kb3_0_1 : w3.cell? ⟨w1.heap.size, 1, none⟩ = some (.int .i64 q) := by go_simp
          have kf3_0_1 : w3.frozen? ⟨w1.heap.size, 1, none⟩ = false := by go_simp
          clear hc3 hf3
          go_wp2_with fail
          refine (implFirst_at p q 8 _ _ _ rfl HP.out (by omega) rfl).mono ?_
          rintro e w4 ⟨rfl, hh4⟩
          obtain ⟨hc4, hf4⟩ := bcell hh4
          have hz4 := hh4.size
          try simp only [World.size_alloc] at hz4
          have hz4_0 : w1.heap.size < w4.heap.size := by omega
          have kb4_0_0 : w4.cell? ⟨w1.heap.size, 0, none⟩ = some (.int .i64 p) := by go_simp
          have kf4_0_0 : w4.frozen? ⟨w1.heap.size, 0, none⟩ = false := by go_simp
          have kb4_0_1 : w4.cell? ⟨w1.heap.size, 1, none⟩ = some (.int .i64 q) := by go_simp
          have kf4_0_1 : w4.frozen? ⟨w1.heap.size, 1, none⟩ = false := by go_simp
          clear hc4 hf4
          go_wp2_with fail
          refine (implFirst_at p q 7 _ _ _ rfl HP.out (by omega) rfl).mono ?_
          rintro e w5 ⟨rfl, hh5⟩
          obtain ⟨hc5, hf5⟩ := bcell hh5
          have hz5 := hh5.size
          try simp only [World.size_alloc] at hz5
          have hz5_0 : w1.heap.size < w5.heap.size := by omega
          have kb5_0_0 : w5.cell? ⟨w1.heap.size, 0, none⟩ = some (.int .i64 p) := by go_simp
          have kf5_0_0 : w5.frozen? ⟨w1.heap.size, 0, none⟩ = false := by go_simp
          have kb5_0_1 : w5.cell? ⟨w1.heap.size, 1, none⟩ = some (.int .i64 q) := by go_simp
          have kf5_0_1 : w5.frozen? ⟨w1.heap.size, 1, none⟩ = false := by go_simp
          clear hc5 hf5
          go_wp2_with fail
          refine (implFarFirst_no p q _ m _ HN.out).mono ?_
          rintro e w6 ⟨rfl, hh6⟩
          obtain ⟨hc6, hf6⟩ := bcell hh6
          have hz6 := hh6.size
          try simp only [World.size_alloc] at hz6
          have hz6_0 : w1.heap.size < w6.heap.size := by omega
          have kb6_0_0 : w6.cell? ⟨w1.heap.size, 0, none⟩ = some (.int .i64 p) := by go_simp
          have kf6_0_0 : w6.frozen? ⟨w1.heap.size, 0, none⟩ = false := by go_simp
          have kb6_0_1 : w6.cell? ⟨w1.heap.size, 1, none⟩ = some (.int .i64 q) := by go_simp
          have kf6_0_1 : w6.frozen? ⟨w1.heap.size, 1, none⟩ = false := by go_simp
          clear hc6 hf6
          go_wp2_with fail
          refine (implFarFirst_at p q m j _ _ _ (by omega) HP.out (by omega) m1 m2 rfl).mono ?_
          rintro e w7 ⟨rfl, hh7⟩
          obtain ⟨hc7, hf7⟩ := bcell hh7
          have hz7 := hh7.size
          try simp only [World.size_alloc] at hz7
          have hz7_0 : w1.heap.size < w7.heap.size := by omega
          have kb7_0_0 : w7.cell? ⟨w1.heap.size, 0, none⟩ = some (.int .i64 p) := by go_simp
          have kf7_0_0 : w7.frozen? ⟨w1.heap.size, 0, none⟩ = false := by go_simp
          have kb7_0_1 : w7.cell? ⟨w1.heap.size, 1, none⟩ = some (.int .i64 q) := by go_simp
          have kf7_0_1 : w7.frozen? ⟨w1.heap.size, 1, none⟩ = false := by go_simp
          clear hc7 hf7
          go_wp2
          go_quiet (fail)
          
          go_wp2_with fail
          refine (alive_any _).mono ?_
          rintro e w9 ⟨rfl, hh9⟩
          obtain ⟨hc9, hf9⟩ := bcell hh9
          have hz9 := hh9.size
          try simp only [World.size_alloc] at hz9
          clear hc9 hf9
          go_wp2
          go_ret
          exact ⟨rfl, by (repeat (first | exact Below.refl _ _ | refine below_drewN ?_ _ | refine Below.setCell ?_ (by first | omega | (simp <;> omega)) _ | refine Below.alloc ?_ (by first | omega | (simp <;> omega)) _ | refine Below.drew ?_ | refine Below.trans ?_ (Below.mono (by assumption) (by first | omega | (simp <;> omega))) | refine Below.grown ?_ (by assumption) (by first | omega | (simp <;> omega)) (fun k e => by cases e; first | omega | (simp <;> omega))))⟩
    · have H := Lib.hid (show farB p q n m = false by simpa using h)
      clear h
      go_wp2_with fail
      refine (implFarFirst_no p q n m _ H.out).mono ?_
      rintro e w2 ⟨rfl, hh2⟩
      obtain ⟨hc2, hf2⟩ := bcell hh2
      have hz2 := hh2.size
      try simp only [World.size_alloc] at hz2
      have hz2_0 : w1.heap.size < w2.heap.size := by omega
      have kb2_0_0 : w2.cell? ⟨w1.heap.size, 0, none⟩ = some (.int .i64 p) := by go_simp
      have kf2_0_0 : w2.frozen? ⟨w1.heap.size, 0, none⟩ = false := by go_simp
      have kb2_0_1 : w2.cell? ⟨w1.heap.size, 1, none⟩ = some (.int .i64 q) := by go_simp
      have kf2_0_1 : w2.frozen? ⟨w1.heap.size, 1, none⟩ = false := by go_simp
      clear hc2 hf2
      go_wp2_with fail
      refine (specFarFirst_no p q n m _ H.out).mono ?_
      rintro e w3 ⟨rfl, hh3⟩
      obtain ⟨hc3, hf3⟩ := bcell hh3
      have hz3 := hh3.size
      try simp only [World.size_alloc] at hz3
      have hz3_0 : w1.heap.size < w3.heap.size := by omega
      have kb3_0_0 : w3.cell? ⟨w1.heap.size, 0, none⟩ = some (.int .i64 p) := by go_simp
      have kf3_0_0 : w3.frozen? ⟨w1.heap.size, 0, none⟩ = false := by go_simp
      have kb3_0_1 : w3.cell? ⟨w1.heap.size, 1, none⟩ = some (.int .i64 q) := by go_simp
      have kf3_0_1 : w3.frozen? ⟨w1.heap.size, 1, none⟩ = false := by go_simp
      clear hc3 hf3
      go_wp2_with fail
      refine (alive_any _).mono ?_
      rintro e w4 ⟨rfl, hh4⟩
      obtain ⟨hc4, hf4⟩ := bcell hh4
      have hz4 := hh4.size
      try simp only [World.size_alloc] at hz4
      clear hc4 hf4
      go_wp2
      go_ret
      exact ⟨rfl, by (repeat (first | exact Below.refl _ _ | refine Below.setCell ?_ (by first | omega | (simp <;> omega)) _ | refine Below.alloc ?_ (by first | omega | (simp <;> omega)) _ | refine Below.drew ?_ | refine Below.trans ?_ (Below.mono (by assumption) (by first | omega | (simp <;> omega))) | refine Below.grown ?_ (by assumption) (by first | omega | (simp <;> omega)) (fun k e => by cases e; first | omega | (simp <;> omega))))⟩
end Go.Proofs.Ytgcpmgddlaeccaa
