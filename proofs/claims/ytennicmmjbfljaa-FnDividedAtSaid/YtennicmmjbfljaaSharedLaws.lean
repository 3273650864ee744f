/- The walks of the laws on ApartPair, SharedAt and QuotientAt. -/
import Derived.Test.YtennicmmjbfljaaSharedAt
import Derived.Test.YtennicmmjbfljaaSharedDraws
import Derived.Test.YtennicmmjbfljaaLawsThree
namespace Go.Proofs.Ytennicmmjbfljaa
open Go.RowKit
theorem apartB_neg (p q : Int) : apartB (-p) q = apartB p q := by
  have h : pairB (-p) q = pairB p q := by
    have h2 := pairB_neg p q
    simp only [pairB, numB] at *
    have : decide (-4 ≤ -p ∧ -p ≤ 4) = decide (-4 ≤ p ∧ p ≤ 4) := decide_eq_decide.2 (by omega)
    rw [this]
  rw [apartB, apartB, h, Int.neg_gcd]
theorem apartB_neg2 (p q : Int) : apartB p (-q) = apartB p q := by
  have h : pairB p (-q) = pairB p q := by
    simp only [pairB, numB]
    have : decide (-4 ≤ -q ∧ -q ≤ 4) = decide (-4 ≤ q ∧ q ≤ 4) := decide_eq_decide.2 (by omega)
    rw [this]
  rw [apartB, apartB, h, Int.gcd_neg]
theorem implApart_is (p q : Int) (c : Bool) (w : World) (h : apartB p q = c) : Calls Try.prog 14 #[pr p q] w fun e w' => e = .returned (.bool c) ∧ Below w.heap.size w w' := by rw [← h]; exact implApart_any p q w
theorem specApart_is (p q : Int) (c : Bool) (w : World) (h : apartB p q = c) : Calls Try.prog 15 #[pr p q] w fun e w' => e = .returned (.bool c) ∧ Below w.heap.size w w' := by rw [← h]; exact specApart_any p q w
theorem implShared_is (p q a b v : Int) (w : World) (h : sharedV p q a b = v) : Calls Try.prog 17 #[pr p q, .int .i64 a, .int .i64 b] w fun e w' => e = .returned (.int .i64 v) ∧ Below w.heap.size w w' := by rw [← h]; exact implShared_any p q a b w
theorem specShared_is (p q a b v : Int) (w : World) (h : sharedV p q a b = v) : Calls Try.prog 18 #[pr p q, .int .i64 a, .int .i64 b] w fun e w' => e = .returned (.int .i64 v) ∧ Below w.heap.size w w' := by rw [← h]; exact specShared_any p q a b w
theorem implQuotient_is (p q n t v : Int) (c : Bool) (w : World) (h : quotV p q n t = v) (hc : quotB p q n t = c) : Calls Try.prog 22 #[pr p q, .int .i64 n, .int .i64 t] w fun e w' => e = .returned (.tuple #[.int .i64 v, .bool c]) ∧ Below w.heap.size w w' := by rw [← h, ← hc]; exact implQuotient_any p q n t w
theorem specQuotient_is (p q n t v : Int) (c : Bool) (w : World) (h : quotV p q n t = v) (hc : quotB p q n t = c) : Calls Try.prog 23 #[pr p q, .int .i64 n, .int .i64 t] w fun e w' => e = .returned (.tuple #[.int .i64 v, .bool c]) ∧ Below w.heap.size w w' := by rw [← h, ← hc]; exact specQuotient_any p q n t w
theorem apartB_apart {p q : Int} (h : apartB p q = true) : pairB p q = true ∧ Apart p q := by
  have h' : pairB p q = true ∧ Int.gcd p q = 1 := by simpa [apartB] using h
  exact ⟨h'.1, apart_gcd.1 h'.2⟩
set_option maxHeartbeats 4000000 in
theorem fnApartPair_walk (a : Option Addr) (len cap : Nat) (z : List Int) (w : World) (w0 : IsRow w a len cap z) :
    Calls Try.prog 3 #[.slice a len cap] w fun e w' => e = .returned (.bool true) ∧ Below w.heap.size w w' := by
  by_cases hbig : 1048576 < len
  · go_enter Try.func3, Try.ntmps3
    go_wp2
    go_ret
    exact ⟨rfl, Below.refl _ _⟩
  · have hsm : len ≤ 1048576 := by omega
    go_enter Try.func3, Try.ntmps3
    go_wp2_with fail
    refine (drawApartPair_any _ _ _ _ z w0).mono ?_
    rintro e w1 ⟨p, q, rfl, hp1, hp2, hq1, hq2, hh1⟩
    have hz1 := hh1.size
    obtain ⟨hc1, hf1⟩ := bcell hh1
    cases hc : apartB p q with
    | true =>
      have H := Lib.hid hc
      clear hc
      go_wp2_with fail
      refine (implApart_is p q true _ H.out).mono ?_
      rintro e w2 ⟨rfl, hh2⟩
      obtain ⟨hc2, hf2⟩ := bcell hh2
      have hz2 := hh2.size
      try simp only [World.size_alloc] at hz2
      have hz2_0 : w1.heap.size < w2.heap.size := by omega
      have kb2_0_0 : w2.cell? ⟨w1.heap.size, 0, none⟩ = some (.int .i64 p) := by go_simp
      have kf2_0_0 : w2.frozen? ⟨w1.heap.size, 0, none⟩ = false := by go_simp
      have kb2_0_1 : w2.cell? ⟨w1.heap.size, 1, none⟩ = some (.int .i64 q) := by go_simp
      have kf2_0_1 : w2.frozen? ⟨w1.heap.size, 1, none⟩ = false := by go_simp
      clear hc2 hf2
      go_wp2_with fail
      refine (specApart_is p q true _ H.out).mono ?_
      rintro e w3 ⟨rfl, hh3⟩
      obtain ⟨hc3, hf3⟩ := bcell hh3
      have hz3 := hh3.size
      try simp only [World.size_alloc] at hz3
      have hz3_0 : w1.heap.size < w3.heap.size := by omega
      have kb3_0_0 : w3.cell? ⟨w1.heap.size, 0, none⟩ = some (.int .i64 p) := by go_simp
      have kf3_0_0 : w3.frozen? ⟨w1.heap.size, 0, none⟩ = false := by go_simp
      have kb3_0_1 : w3.cell? ⟨w1.heap.size, 1, none⟩ = some (.int .i64 q) := by go_simp
      have kf3_0_1 : w3.frozen? ⟨w1.heap.size, 1, none⟩ = false := by go_simp
      clear hc3 hf3
      go_wp2_with fail
      refine (implApart_is (-p) q true _ ((apartB_neg p q).trans H.out)).mono ?_
      rintro e w4 ⟨rfl, hh4⟩
      obtain ⟨hc4, hf4⟩ := bcell hh4
      have hz4 := hh4.size
      try simp only [World.size_alloc] at hz4
      have hz4_0 : w1.heap.size < w4.heap.size := by omega
      have kb4_0_0 : w4.cell? ⟨w1.heap.size, 0, none⟩ = some (.int .i64 p) := by go_simp
      have kf4_0_0 : w4.frozen? ⟨w1.heap.size, 0, none⟩ = false := by go_simp
      have kb4_0_1 : w4.cell? ⟨w1.heap.size, 1, none⟩ = some (.int .i64 q) := by go_simp
      have kf4_0_1 : w4.frozen? ⟨w1.heap.size, 1, none⟩ = false := by go_simp
      clear hc4 hf4
      go_wp2_with fail
      refine (implApart_is p (-q) true _ ((apartB_neg2 p q).trans H.out)).mono ?_
      rintro e w5 ⟨rfl, hh5⟩
      obtain ⟨hc5, hf5⟩ := bcell hh5
      have hz5 := hh5.size
      try simp only [World.size_alloc] at hz5
      have hz5_0 : w1.heap.size < w5.heap.size := by omega
      have kb5_0_0 : w5.cell? ⟨w1.heap.size, 0, none⟩ = some (.int .i64 p) := by go_simp
      have kf5_0_0 : w5.frozen? ⟨w1.heap.size, 0, none⟩ = false := by go_simp
      have kb5_0_1 : w5.cell? ⟨w1.heap.size, 1, none⟩ = some (.int .i64 q) := by go_simp
      have kf5_0_1 : w5.frozen? ⟨w1.heap.size, 1, none⟩ = false := by go_simp
      clear hc5 hf5
      go_wp2_with fail
      refine (implApart_is 4 (-1) true _ (by decide)).mono ?_
      rintro e w6 ⟨rfl, hh6⟩
      obtain ⟨hc6, hf6⟩ := bcell hh6
      have hz6 := hh6.size
      try simp only [World.size_alloc] at hz6
      clear hc6 hf6
      go_wp2_with fail
      refine (implApart_is 4 2 false _ (by decide)).mono ?_
      rintro e w7 ⟨rfl, hh7⟩
      obtain ⟨hc7, hf7⟩ := bcell hh7
      have hz7 := hh7.size
      try simp only [World.size_alloc] at hz7
      clear hc7 hf7
      go_wp2
      go_ret
      exact ⟨rfl, by (repeat (first | exact Below.refl _ _ | refine Below.setCell ?_ (by first | omega | (simp <;> omega)) _ | refine Below.alloc ?_ (by first | omega | (simp <;> omega)) _ | refine Below.drew ?_ | refine Below.trans ?_ (Below.mono (by assumption) (by first | omega | (simp <;> omega))) | refine Below.grown ?_ (by assumption) (by first | omega | (simp <;> omega)) (fun k e => by cases e; first | omega | (simp <;> omega))))⟩
    | false =>
      have H := Lib.hid hc
      clear hc
      go_wp2_with fail
      refine (implApart_is p q false _ H.out).mono ?_
      rintro e w2 ⟨rfl, hh2⟩
      obtain ⟨hc2, hf2⟩ := bcell hh2
      have hz2 := hh2.size
      try simp only [World.size_alloc] at hz2
      have hz2_0 : w1.heap.size < w2.heap.size := by omega
      have kb2_0_0 : w2.cell? ⟨w1.heap.size, 0, none⟩ = some (.int .i64 p) := by go_simp
      have kf2_0_0 : w2.frozen? ⟨w1.heap.size, 0, none⟩ = false := by go_simp
      have kb2_0_1 : w2.cell? ⟨w1.heap.size, 1, none⟩ = some (.int .i64 q) := by go_simp
      have kf2_0_1 : w2.frozen? ⟨w1.heap.size, 1, none⟩ = false := by go_simp
      clear hc2 hf2
      go_wp2_with fail
      refine (specApart_is p q false _ H.out).mono ?_
      rintro e w3 ⟨rfl, hh3⟩
      obtain ⟨hc3, hf3⟩ := bcell hh3
      have hz3 := hh3.size
      try simp only [World.size_alloc] at hz3
      have hz3_0 : w1.heap.size < w3.heap.size := by omega
      have kb3_0_0 : w3.cell? ⟨w1.heap.size, 0, none⟩ = some (.int .i64 p) := by go_simp
      have kf3_0_0 : w3.frozen? ⟨w1.heap.size, 0, none⟩ = false := by go_simp
      have kb3_0_1 : w3.cell? ⟨w1.heap.size, 1, none⟩ = some (.int .i64 q) := by go_simp
      have kf3_0_1 : w3.frozen? ⟨w1.heap.size, 1, none⟩ = false := by go_simp
      clear hc3 hf3
      go_wp2_with fail
      refine (implApart_is (-p) q false _ ((apartB_neg p q).trans H.out)).mono ?_
      rintro e w4 ⟨rfl, hh4⟩
      obtain ⟨hc4, hf4⟩ := bcell hh4
      have hz4 := hh4.size
      try simp only [World.size_alloc] at hz4
      have hz4_0 : w1.heap.size < w4.heap.size := by omega
      have kb4_0_0 : w4.cell? ⟨w1.heap.size, 0, none⟩ = some (.int .i64 p) := by go_simp
      have kf4_0_0 : w4.frozen? ⟨w1.heap.size, 0, none⟩ = false := by go_simp
      have kb4_0_1 : w4.cell? ⟨w1.heap.size, 1, none⟩ = some (.int .i64 q) := by go_simp
      have kf4_0_1 : w4.frozen? ⟨w1.heap.size, 1, none⟩ = false := by go_simp
      clear hc4 hf4
      go_wp2_with fail
      refine (implApart_is p (-q) false _ ((apartB_neg2 p q).trans H.out)).mono ?_
      rintro e w5 ⟨rfl, hh5⟩
      obtain ⟨hc5, hf5⟩ := bcell hh5
      have hz5 := hh5.size
      try simp only [World.size_alloc] at hz5
      have hz5_0 : w1.heap.size < w5.heap.size := by omega
      have kb5_0_0 : w5.cell? ⟨w1.heap.size, 0, none⟩ = some (.int .i64 p) := by go_simp
      have kf5_0_0 : w5.frozen? ⟨w1.heap.size, 0, none⟩ = false := by go_simp
      have kb5_0_1 : w5.cell? ⟨w1.heap.size, 1, none⟩ = some (.int .i64 q) := by go_simp
      have kf5_0_1 : w5.frozen? ⟨w1.heap.size, 1, none⟩ = false := by go_simp
      clear hc5 hf5
      go_wp2_with fail
      refine (implApart_is 4 (-1) true _ (by decide)).mono ?_
      rintro e w6 ⟨rfl, hh6⟩
      obtain ⟨hc6, hf6⟩ := bcell hh6
      have hz6 := hh6.size
      try simp only [World.size_alloc] at hz6
      clear hc6 hf6
      go_wp2_with fail
      refine (implApart_is 4 2 false _ (by decide)).mono ?_
      rintro e w7 ⟨rfl, hh7⟩
      obtain ⟨hc7, hf7⟩ := bcell hh7
      have hz7 := hh7.size
      try simp only [World.size_alloc] at hz7
      clear hc7 hf7
      go_wp2
      go_ret
      exact ⟨rfl, by (repeat (first | exact Below.refl _ _ | refine Below.setCell ?_ (by first | omega | (simp <;> omega)) _ | refine Below.alloc ?_ (by first | omega | (simp <;> omega)) _ | refine Below.drew ?_ | refine Below.trans ?_ (Below.mono (by assumption) (by first | omega | (simp <;> omega))) | refine Below.grown ?_ (by assumption) (by first | omega | (simp <;> omega)) (fun k e => by cases e; first | omega | (simp <;> omega))))⟩
set_option maxRecDepth 100000 in
set_option maxHeartbeats 8000000 in
theorem fnSharedAt_walk (a : Option Addr) (len cap : Nat) (z : List Int) (w : World) (w0 : IsRow w a len cap z) :
    Calls Try.prog 4 #[.slice a len cap] w fun e w' => e = .returned (.bool true) ∧ Below w.heap.size w w' := by
  by_cases hbig : 1048576 < len
  · go_enter Try.func4, Try.ntmps4
    go_wp2
    go_ret
    exact ⟨rfl, Below.refl _ _⟩
  · have hsm : len ≤ 1048576 := by omega
    go_enter Try.func4, Try.ntmps4
    go_wp2_with fail
    refine (drawSharedAt_any _ _ _ _ z w0).mono ?_
    rintro e w1 ⟨p, q, a, b, rfl, hp1, hp2, hq1, hq2, ha1, ha2, hb1, hb2, hh1⟩
    have hz1 := hh1.size
    obtain ⟨hc1, hf1⟩ := bcell hh1
    cases h : sharedB p q a b with
    | false =>
      have H := Lib.hid (show sharedV p q a b = -1 by rw [sharedV, if_neg (by simp [h])])
      clear h
      go_wp2_with fail
      refine (implShared_is p q a b _ _ H.out).mono ?_
      rintro e w2 ⟨rfl, hh2⟩
      obtain ⟨hc2, hf2⟩ := bcell hh2
      have hz2 := hh2.size
      try simp only [World.size_alloc] at hz2
      have hz2_0 : w1.heap.size < w2.heap.size := by omega
      have kb2_0_0 : w2.cell? ⟨w1.heap.size, 0, none⟩ = some (.int .i64 p) := by go_simp
      have kf2_0_0 : w2.frozen? ⟨w1.heap.size, 0, none⟩ = false := by go_simp
      have kb2_0_1 : w2.cell? ⟨w1.heap.size, 1, none⟩ = some (.int .i64 q) := by go_simp
      have kf2_0_1 : w2.frozen? ⟨w1.heap.size, 1, none⟩ = false := by go_simp
      clear hc2 hf2
      go_wp2_with fail
      refine (specShared_is p q a b _ _ H.out).mono ?_
      rintro e w3 ⟨rfl, hh3⟩
      obtain ⟨hc3, hf3⟩ := bcell hh3
      have hz3 := hh3.size
      try simp only [World.size_alloc] at hz3
      have hz3_0 : w1.heap.size < w3.heap.size := by omega
      have kb3_0_0 : w3.cell? ⟨w1.heap.size, 0, none⟩ = some (.int .i64 p) := by go_simp
      have kf3_0_0 : w3.frozen? ⟨w1.heap.size, 0, none⟩ = false := by go_simp
      have kb3_0_1 : w3.cell? ⟨w1.heap.size, 1, none⟩ = some (.int .i64 q) := by go_simp
      have kf3_0_1 : w3.frozen? ⟨w1.heap.size, 1, none⟩ = false := by go_simp
      clear hc3 hf3
      go_wp2_with fail
      refine (alive_any _).mono ?_
      rintro e w4 ⟨rfl, hh4⟩
      obtain ⟨hc4, hf4⟩ := bcell hh4
      have hz4 := hh4.size
      try simp only [World.size_alloc] at hz4
      clear hc4 hf4
      go_wp2
      go_ret
      exact ⟨rfl, by (repeat (first | exact Below.refl _ _ | refine Below.setCell ?_ (by first | omega | (simp <;> omega)) _ | refine Below.alloc ?_ (by first | omega | (simp <;> omega)) _ | refine Below.drew ?_ | refine Below.trans ?_ (Below.mono (by assumption) (by first | omega | (simp <;> omega))) | refine Below.grown ?_ (by assumption) (by first | omega | (simp <;> omega)) (fun k e => by cases e; first | omega | (simp <;> omega))))⟩
    | true =>
      obtain ⟨hp, i, j, rfl, rfl, hi, hj⟩ := sharedB_true h
      obtain ⟨⟨r1, r2⟩, r3, r4⟩ := pairB_true hp
      have HV := Lib.hid (show sharedV p q ((i : Int) + 1) ((j : Int) + 1) = (Int.gcd (row p q 0 1 (i + 1)) (row p q 0 1 (j + 1)) : Int) by rw [sharedV, if_pos h]; rfl)
      have HN := Lib.hid (show apartB p q = true → (Int.gcd (row p q 0 1 (i + 1)) (row p q 0 1 (j + 1)) : Int) = ((row p q 0 1 (Nat.gcd (i + 1) (j + 1))).natAbs : Int) from fun ha => congrArg Nat.cast (shared_is (apartB_apart ha).2 _ _))
      have HP := Lib.hid hp
      clear hp h
      obtain ⟨n, hn⟩ : ∃ n : Nat, Int.gcd (row p q 0 1 (i + 1)) (row p q 0 1 (j + 1)) = n := ⟨_, rfl⟩
      rw [hn] at HV HN
      clear hn
      go_wp2_with fail
      refine (implShared_is p q _ _ _ _ HV.out).mono ?_
      rintro e w2 ⟨rfl, hh2⟩
      obtain ⟨hc2, hf2⟩ := bcell hh2
      have hz2 := hh2.size
      try simp only [World.size_alloc] at hz2
      have hz2_0 : w1.heap.size < w2.heap.size := by omega
      have kb2_0_0 : w2.cell? ⟨w1.heap.size, 0, none⟩ = some (.int .i64 p) := by go_simp
      have kf2_0_0 : w2.frozen? ⟨w1.heap.size, 0, none⟩ = false := by go_simp
      have kb2_0_1 : w2.cell? ⟨w1.heap.size, 1, none⟩ = some (.int .i64 q) := by go_simp
      have kf2_0_1 : w2.frozen? ⟨w1.heap.size, 1, none⟩ = false := by go_simp
      clear hc2 hf2
      go_wp2_with fail
      refine (specShared_is p q _ _ _ _ HV.out).mono ?_
      rintro e w3 ⟨rfl, hh3⟩
      obtain ⟨hc3, hf3⟩ := bcell hh3
      have hz3 := hh3.size
      try simp only [World.size_alloc] at hz3
      have hz3_0 : w1.heap.size < w3.heap.size := by omega
      have kb3_0_0 : w3.cell? ⟨w1.heap.size, 0, none⟩ = some (.int .i64 p) := by go_simp
      have kf3_0_0 : w3.frozen? ⟨w1.heap.size, 0, none⟩ = false := by go_simp
      have kb3_0_1 : w3.cell? ⟨w1.heap.size, 1, none⟩ = some (.int .i64 q) := by go_simp
      have kf3_0_1 : w3.frozen? ⟨w1.heap.size, 1, none⟩ = false := by go_simp
      clear hc3 hf3
      go_wp2_with fail
      go_loop [7, 8, 9] (fun x y _ => ∃ c d : Nat, x = .int .i64 c ∧ y = .int .i64 d ∧ c ≤ 20 ∧ d ≤ 20 ∧ Nat.gcd c d = Nat.gcd (i + 1) (j + 1)) (fun _ y _ => (intOf y).natAbs)
      case atStart => exact ⟨i + 1, j + 1, congrArg (Value.int .i64) (by omega), congrArg (Value.int .i64) (by omega), by omega, by omega, rfl⟩
      case round =>
        obtain ⟨c, d, rfl, rfl, hc, hd, hg⟩ := hrel
        have HG := Lib.hid hg
        clear hg
        by_cases h0 : d = 0
        · subst h0
          have hcg : c = Nat.gcd (i + 1) (j + 1) := by have := HG.out; rwa [Nat.gcd_zero_right] at this
          obtain ⟨g, hgg⟩ : ∃ g, Nat.gcd (i + 1) (j + 1) = g := ⟨_, rfl⟩
          rw [hgg] at hcg HN
          subst hcg
          obtain ⟨r, hr⟩ : ∃ r, row p q 0 1 c = r := ⟨_, rfl⟩
          have HR := Lib.hid hr
          obtain ⟨z1, z2⟩ := first_far r1 r2 r3 r4 c (by omega)
          rw [hr] at z1 z2
          clear hr hgg HG
          cases ha : apartB p q with
          | true =>
            have HA := Lib.hid ha
            have hnr := HN.out ha
            rw [HR.out] at hnr
            clear ha
            by_cases hs : 0 ≤ r
            · have hnr2 : (n : Int) = r := by omega
              rw [hnr2]
              clear hnr hnr2
              have hmax : -r ≤ r := by omega
              go_wp2_with fail
              refine (implFirst_at p q c r _ _ rfl HP.out (by omega) HR.out).mono ?_
              rintro e w4 ⟨rfl, hh4⟩
              obtain ⟨hc4, hf4⟩ := bcell hh4
              have hz4 := hh4.size
              try simp only [World.size_alloc] at hz4
              have hz4_0 : w1.heap.size < w4.heap.size := by omega
              have kb4_0_0 : w4.cell? ⟨w1.heap.size, 0, none⟩ = some (.int .i64 p) := by go_simp
              have kf4_0_0 : w4.frozen? ⟨w1.heap.size, 0, none⟩ = false := by go_simp
              have kb4_0_1 : w4.cell? ⟨w1.heap.size, 1, none⟩ = some (.int .i64 q) := by go_simp
              have kf4_0_1 : w4.frozen? ⟨w1.heap.size, 1, none⟩ = false := by go_simp
              clear hc4 hf4
              go_wp2_with fail
              refine (implApart_is p q true _ HA.out).mono ?_
              rintro e w5 ⟨rfl, hh5⟩
              obtain ⟨hc5, hf5⟩ := bcell hh5
              have hz5 := hh5.size
              try simp only [World.size_alloc] at hz5
              have hz5_0 : w1.heap.size < w5.heap.size := by omega
              have kb5_0_0 : w5.cell? ⟨w1.heap.size, 0, none⟩ = some (.int .i64 p) := by go_simp
              have kf5_0_0 : w5.frozen? ⟨w1.heap.size, 0, none⟩ = false := by go_simp
              have kb5_0_1 : w5.cell? ⟨w1.heap.size, 1, none⟩ = some (.int .i64 q) := by go_simp
              have kf5_0_1 : w5.frozen? ⟨w1.heap.size, 1, none⟩ = false := by go_simp
              clear hc5 hf5
              go_wp2_with fail
              refine (alive_any _).mono ?_
              rintro e w6 ⟨rfl, hh6⟩
              obtain ⟨hc6, hf6⟩ := bcell hh6
              have hz6 := hh6.size
              try simp only [World.size_alloc] at hz6
              clear hc6 hf6
              go_wp2
              go_ret
              exact ⟨rfl, by (repeat (first | exact Below.refl _ _ | refine Below.setCell ?_ (by first | omega | (simp <;> omega)) _ | refine Below.alloc ?_ (by first | omega | (simp <;> omega)) _ | refine Below.drew ?_ | refine Below.trans ?_ (Below.mono (by assumption) (by first | omega | (simp <;> omega))) | refine Below.grown ?_ (by assumption) (by first | omega | (simp <;> omega)) (fun k e => by cases e; first | omega | (simp <;> omega))))⟩
            · have hnr2 : (n : Int) = -r := by omega
              rw [hnr2]
              clear hnr hnr2
              have hmax : ¬ -r ≤ r := by omega
              go_wp2_with fail
              refine (implFirst_at p q c r _ _ rfl HP.out (by omega) HR.out).mono ?_
              rintro e w4 ⟨rfl, hh4⟩
              obtain ⟨hc4, hf4⟩ := bcell hh4
              have hz4 := hh4.size
              try simp only [World.size_alloc] at hz4
              have hz4_0 : w1.heap.size < w4.heap.size := by omega
              have kb4_0_0 : w4.cell? ⟨w1.heap.size, 0, none⟩ = some (.int .i64 p) := by go_simp
              have kf4_0_0 : w4.frozen? ⟨w1.heap.size, 0, none⟩ = false := by go_simp
              have kb4_0_1 : w4.cell? ⟨w1.heap.size, 1, none⟩ = some (.int .i64 q) := by go_simp
              have kf4_0_1 : w4.frozen? ⟨w1.heap.size, 1, none⟩ = false := by go_simp
              clear hc4 hf4
              go_wp2_with fail
              refine (implApart_is p q true _ HA.out).mono ?_
              rintro e w5 ⟨rfl, hh5⟩
              obtain ⟨hc5, hf5⟩ := bcell hh5
              have hz5 := hh5.size
              try simp only [World.size_alloc] at hz5
              have hz5_0 : w1.heap.size < w5.heap.size := by omega
              have kb5_0_0 : w5.cell? ⟨w1.heap.size, 0, none⟩ = some (.int .i64 p) := by go_simp
              have kf5_0_0 : w5.frozen? ⟨w1.heap.size, 0, none⟩ = false := by go_simp
              have kb5_0_1 : w5.cell? ⟨w1.heap.size, 1, none⟩ = some (.int .i64 q) := by go_simp
              have kf5_0_1 : w5.frozen? ⟨w1.heap.size, 1, none⟩ = false := by go_simp
              clear hc5 hf5
              go_wp2_with fail
              refine (alive_any _).mono ?_
              rintro e w6 ⟨rfl, hh6⟩
              obtain ⟨hc6, hf6⟩ := bcell hh6
              have hz6 := hh6.size
              try simp only [World.size_alloc] at hz6
              clear hc6 hf6
              go_wp2
              go_ret
              exact ⟨rfl, by (repeat (first | exact Below.refl _ _ | refine Below.setCell ?_ (by first | omega | (simp <;> omega)) _ | refine Below.alloc ?_ (by first | omega | (simp <;> omega)) _ | refine Below.drew ?_ | refine Below.trans ?_ (Below.mono (by assumption) (by first | omega | (simp <;> omega))) | refine Below.grown ?_ (by assumption) (by first | omega | (simp <;> omega)) (fun k e => by cases e; first | omega | (simp <;> omega))))⟩
          | false =>
            have HA := Lib.hid ha
            clear ha
            go_wp2_with fail
            refine (implFirst_at p q c r _ _ rfl HP.out (by omega) HR.out).mono ?_
            rintro e w4 ⟨rfl, hh4⟩
            obtain ⟨hc4, hf4⟩ := bcell hh4
            have hz4 := hh4.size
            try simp only [World.size_alloc] at hz4
            have hz4_0 : w1.heap.size < w4.heap.size := by omega
            have kb4_0_0 : w4.cell? ⟨w1.heap.size, 0, none⟩ = some (.int .i64 p) := by go_simp
            have kf4_0_0 : w4.frozen? ⟨w1.heap.size, 0, none⟩ = false := by go_simp
            have kb4_0_1 : w4.cell? ⟨w1.heap.size, 1, none⟩ = some (.int .i64 q) := by go_simp
            have kf4_0_1 : w4.frozen? ⟨w1.heap.size, 1, none⟩ = false := by go_simp
            clear hc4 hf4
            go_wp2_with fail
            refine (implApart_is p q false _ HA.out).mono ?_
            rintro e w5 ⟨rfl, hh5⟩
            obtain ⟨hc5, hf5⟩ := bcell hh5
            have hz5 := hh5.size
            try simp only [World.size_alloc] at hz5
            have hz5_0 : w1.heap.size < w5.heap.size := by omega
            have kb5_0_0 : w5.cell? ⟨w1.heap.size, 0, none⟩ = some (.int .i64 p) := by go_simp
            have kf5_0_0 : w5.frozen? ⟨w1.heap.size, 0, none⟩ = false := by go_simp
            have kb5_0_1 : w5.cell? ⟨w1.heap.size, 1, none⟩ = some (.int .i64 q) := by go_simp
            have kf5_0_1 : w5.frozen? ⟨w1.heap.size, 1, none⟩ = false := by go_simp
            clear hc5 hf5
            go_wp2_with fail
            refine (alive_any _).mono ?_
            rintro e w6 ⟨rfl, hh6⟩
            obtain ⟨hc6, hf6⟩ := bcell hh6
            have hz6 := hh6.size
            try simp only [World.size_alloc] at hz6
            clear hc6 hf6
            go_wp2
            go_ret
            exact ⟨rfl, by (repeat (first | exact Below.refl _ _ | refine Below.setCell ?_ (by first | omega | (simp <;> omega)) _ | refine Below.alloc ?_ (by first | omega | (simp <;> omega)) _ | refine Below.drew ?_ | refine Below.trans ?_ (Below.mono (by assumption) (by first | omega | (simp <;> omega))) | refine Below.grown ?_ (by assumption) (by first | omega | (simp <;> omega)) (fun k e => by cases e; first | omega | (simp <;> omega))))⟩
        · have hz : ((d : Int) == 0) = false := by simp; omega
          have hd0 : (0 : Int) < d := by omega
          have e1 : (0 : Int) ≤ (c : Int) % (d : Int) := Int.emod_nonneg _ (by omega)
          have e2 : (c : Int) % (d : Int) < d := Int.emod_lt_of_pos _ hd0
          have HE := Lib.hid (show Nat.gcd d (c % d) = Nat.gcd (i + 1) (j + 1) by rw [← HG.out, Nat.gcd_comm d, ← Nat.gcd_rec, Nat.gcd_comm])
          have hcd : c % d < d := Nat.mod_lt _ (by omega)
          go_wp2
          go_round
          case rel => exact ⟨d, c % d, rfl, congrArg (Value.int .i64) (by simp), hd, by omega, HE.out⟩
          case measure => simp [intOf]; omega
set_option maxRecDepth 100000 in
set_option maxHeartbeats 8000000 in
theorem fnQuotientAt_walk (a : Option Addr) (len cap : Nat) (z : List Int) (w : World) (w0 : IsRow w a len cap z) :
    Calls Try.prog 5 #[.slice a len cap] w fun e w' => e = .returned (.bool true) ∧ Below w.heap.size w w' := by
  by_cases hbig : 1048576 < len
  · go_enter Try.func5, Try.ntmps5
    go_wp2
    go_ret
    exact ⟨rfl, Below.refl _ _⟩
  · have hsm : len ≤ 1048576 := by omega
    go_enter Try.func5, Try.ntmps5
    go_wp2_with fail
    refine (drawQuotientAt_any _ _ _ _ z w0).mono ?_
    rintro e w1 ⟨p, q, n, t, rfl, hp1, hp2, hq1, hq2, hn1, hn2, ht1, ht2, hh1⟩
    have hz1 := hh1.size
    obtain ⟨hc1, hf1⟩ := bcell hh1
    cases h : quotB p q n t with
    | false =>
      have HV := Lib.hid (show quotV p q n t = 0 by rw [quotV, if_neg (by simp [h])])
      have HB := Lib.hid h
      clear h
      go_wp2_with fail
      refine (implQuotient_is p q n t 0 false _ HV.out HB.out).mono ?_
      rintro e w2 ⟨rfl, hh2⟩
      obtain ⟨hc2, hf2⟩ := bcell hh2
      have hz2 := hh2.size
      try simp only [World.size_alloc] at hz2
      have hz2_0 : w1.heap.size < w2.heap.size := by omega
      have kb2_0_0 : w2.cell? ⟨w1.heap.size, 0, none⟩ = some (.int .i64 p) := by go_simp
      have kf2_0_0 : w2.frozen? ⟨w1.heap.size, 0, none⟩ = false := by go_simp
      have kb2_0_1 : w2.cell? ⟨w1.heap.size, 1, none⟩ = some (.int .i64 q) := by go_simp
      have kf2_0_1 : w2.frozen? ⟨w1.heap.size, 1, none⟩ = false := by go_simp
      clear hc2 hf2
      go_wp2_with fail
      refine (specQuotient_is p q n t 0 false _ HV.out HB.out).mono ?_
      rintro e w3 ⟨rfl, hh3⟩
      obtain ⟨hc3, hf3⟩ := bcell hh3
      have hz3 := hh3.size
      try simp only [World.size_alloc] at hz3
      have hz3_0 : w1.heap.size < w3.heap.size := by omega
      have kb3_0_0 : w3.cell? ⟨w1.heap.size, 0, none⟩ = some (.int .i64 p) := by go_simp
      have kf3_0_0 : w3.frozen? ⟨w1.heap.size, 0, none⟩ = false := by go_simp
      have kb3_0_1 : w3.cell? ⟨w1.heap.size, 1, none⟩ = some (.int .i64 q) := by go_simp
      have kf3_0_1 : w3.frozen? ⟨w1.heap.size, 1, none⟩ = false := by go_simp
      clear hc3 hf3
      go_wp2_with fail
      refine (alive_any _).mono ?_
      rintro e w4 ⟨rfl, hh4⟩
      obtain ⟨hc4, hf4⟩ := bcell hh4
      have hz4 := hh4.size
      try simp only [World.size_alloc] at hz4
      clear hc4 hf4
      go_wp2
      go_ret
      exact ⟨rfl, by (repeat (first | exact Below.refl _ _ | refine Below.setCell ?_ (by first | omega | (simp <;> omega)) _ | refine Below.alloc ?_ (by first | omega | (simp <;> omega)) _ | refine Below.drew ?_ | refine Below.trans ?_ (Below.mono (by assumption) (by first | omega | (simp <;> omega))) | refine Below.grown ?_ (by assumption) (by first | omega | (simp <;> omega)) (fun k e => by cases e; first | omega | (simp <;> omega))))⟩
    | true =>
      obtain ⟨hp, i, j, rfl, rfl, hm, h0⟩ := quotB_true h
      obtain ⟨⟨r1, r2⟩, r3, r4⟩ := pairB_true hp
      have HV := Lib.hid (quotV_is h)
      have HB := Lib.hid h
      have HP := Lib.hid hp
      clear hp h
      obtain ⟨hi, hj⟩ := times_bd hm
      have HE := Lib.hid (show ((i : Int) + 1) * ((j : Int) + 1) = (((i + 1) * (j + 1) : Nat) : Int) by simp)
      have hm' : (((i + 1) * (j + 1) : Nat) : Int) ≤ 20 := by omega
      have U1 : IntKind.i64.wrap (((i : Int) + 1) * ((j : Int) + 1)) = ((i : Int) + 1) * ((j : Int) + 1) := by rw [IntKind.wrap_i64, HE.out]; omega
      clear hm'
      obtain ⟨y1, y2⟩ := first_far r1 r2 r3 r4 ((i + 1) * (j + 1)) hm
      have hmul : (row p q 0 1 ((i + 1) * (j + 1))).tdiv (row p q 0 1 (i + 1)) * row p q 0 1 (i + 1) = row p q 0 1 ((i + 1) * (j + 1)) := Int.tdiv_mul_cancel (row_dvd p q (i + 1) (j + 1))
      have U2 : IntKind.i64.wrap ((row p q 0 1 ((i + 1) * (j + 1))).tdiv (row p q 0 1 (i + 1)) * row p q 0 1 (i + 1)) = row p q 0 1 ((i + 1) * (j + 1)) := by rw [hmul, IntKind.wrap_i64]; omega
      clear hmul
      by_cases hj2 : j = 1
      · subst hj2
        have HS := Lib.hid (show row p q 2 p (i + 1) = (row p q 0 1 ((i + 1) * (1 + 1))).tdiv (row p q 0 1 (i + 1)) by
          rw [show (i + 1) * (1 + 1) = 2 * (i + 1) by omega, ← row_twice, Int.mul_tdiv_cancel_left _ h0])
        go_wp2_with fail
        refine (implQuotient_is p q _ _ _ true _ HV.out HB.out).mono ?_
        rintro e w2 ⟨rfl, hh2⟩
        obtain ⟨hc2, hf2⟩ := bcell hh2
        have hz2 := hh2.size
        try simp only [World.size_alloc] at hz2
        have hz2_0 : w1.heap.size < w2.heap.size := by omega
        have kb2_0_0 : w2.cell? ⟨w1.heap.size, 0, none⟩ = some (.int .i64 p) := by go_simp
        have kf2_0_0 : w2.frozen? ⟨w1.heap.size, 0, none⟩ = false := by go_simp
        have kb2_0_1 : w2.cell? ⟨w1.heap.size, 1, none⟩ = some (.int .i64 q) := by go_simp
        have kf2_0_1 : w2.frozen? ⟨w1.heap.size, 1, none⟩ = false := by go_simp
        clear hc2 hf2
        go_wp2_with fail
        refine (specQuotient_is p q _ _ _ true _ HV.out HB.out).mono ?_
        rintro e w3 ⟨rfl, hh3⟩
        obtain ⟨hc3, hf3⟩ := bcell hh3
        have hz3 := hh3.size
        try simp only [World.size_alloc] at hz3
        have hz3_0 : w1.heap.size < w3.heap.size := by omega
        have kb3_0_0 : w3.cell? ⟨w1.heap.size, 0, none⟩ = some (.int .i64 p) := by go_simp
        have kf3_0_0 : w3.frozen? ⟨w1.heap.size, 0, none⟩ = false := by go_simp
        have kb3_0_1 : w3.cell? ⟨w1.heap.size, 1, none⟩ = some (.int .i64 q) := by go_simp
        have kf3_0_1 : w3.frozen? ⟨w1.heap.size, 1, none⟩ = false := by go_simp
        clear hc3 hf3
        go_wp2_with fail
        refine (implFirst_at p q (i + 1) _ _ _ (by omega) HP.out (by omega) rfl).mono ?_
        rintro e w4 ⟨rfl, hh4⟩
        obtain ⟨hc4, hf4⟩ := bcell hh4
        have hz4 := hh4.size
        try simp only [World.size_alloc] at hz4
        have hz4_0 : w1.heap.size < w4.heap.size := by omega
        have kb4_0_0 : w4.cell? ⟨w1.heap.size, 0, none⟩ = some (.int .i64 p) := by go_simp
        have kf4_0_0 : w4.frozen? ⟨w1.heap.size, 0, none⟩ = false := by go_simp
        have kb4_0_1 : w4.cell? ⟨w1.heap.size, 1, none⟩ = some (.int .i64 q) := by go_simp
        have kf4_0_1 : w4.frozen? ⟨w1.heap.size, 1, none⟩ = false := by go_simp
        clear hc4 hf4
        go_wp2_with fail
        refine (implFirst_at p q ((i + 1) * (1 + 1)) _ _ _ HE.out HP.out hm rfl).mono ?_
        rintro e w5 ⟨rfl, hh5⟩
        obtain ⟨hc5, hf5⟩ := bcell hh5
        have hz5 := hh5.size
        try simp only [World.size_alloc] at hz5
        have hz5_0 : w1.heap.size < w5.heap.size := by omega
        have kb5_0_0 : w5.cell? ⟨w1.heap.size, 0, none⟩ = some (.int .i64 p) := by go_simp
        have kf5_0_0 : w5.frozen? ⟨w1.heap.size, 0, none⟩ = false := by go_simp
        have kb5_0_1 : w5.cell? ⟨w1.heap.size, 1, none⟩ = some (.int .i64 q) := by go_simp
        have kf5_0_1 : w5.frozen? ⟨w1.heap.size, 1, none⟩ = false := by go_simp
        clear hc5 hf5
        go_wp2_with fail
        refine (implSecond_at p q (i + 1) _ _ _ (by omega) HP.out (by omega) HS.out).mono ?_
        rintro e w6 ⟨rfl, hh6⟩
        obtain ⟨hc6, hf6⟩ := bcell hh6
        have hz6 := hh6.size
        try simp only [World.size_alloc] at hz6
        have hz6_0 : w1.heap.size < w6.heap.size := by omega
        have kb6_0_0 : w6.cell? ⟨w1.heap.size, 0, none⟩ = some (.int .i64 p) := by go_simp
        have kf6_0_0 : w6.frozen? ⟨w1.heap.size, 0, none⟩ = false := by go_simp
        have kb6_0_1 : w6.cell? ⟨w1.heap.size, 1, none⟩ = some (.int .i64 q) := by go_simp
        have kf6_0_1 : w6.frozen? ⟨w1.heap.size, 1, none⟩ = false := by go_simp
        clear hc6 hf6
        go_wp2_with fail
        refine (alive_any _).mono ?_
        rintro e w7 ⟨rfl, hh7⟩
        obtain ⟨hc7, hf7⟩ := bcell hh7
        have hz7 := hh7.size
        try simp only [World.size_alloc] at hz7
        clear hc7 hf7
        go_wp2
        go_ret
        exact ⟨rfl, by (repeat (first | exact Below.refl _ _ | refine Below.setCell ?_ (by first | omega | (simp <;> omega)) _ | refine Below.alloc ?_ (by first | omega | (simp <;> omega)) _ | refine Below.drew ?_ | refine Below.trans ?_ (Below.mono (by assumption) (by first | omega | (simp <;> omega))) | refine Below.grown ?_ (by assumption) (by first | omega | (simp <;> omega)) (fun k e => by cases e; first | omega | (simp <;> omega))))⟩
      · have hne : (((j : Int) + 1) == 2) = false := by simp; omega
        go_wp2_with fail
        refine (implQuotient_is p q _ _ _ true _ HV.out HB.out).mono ?_
        rintro e w2 ⟨rfl, hh2⟩
        obtain ⟨hc2, hf2⟩ := bcell hh2
        have hz2 := hh2.size
        try simp only [World.size_alloc] at hz2
        have hz2_0 : w1.heap.size < w2.heap.size := by omega
        have kb2_0_0 : w2.cell? ⟨w1.heap.size, 0, none⟩ = some (.int .i64 p) := by go_simp
        have kf2_0_0 : w2.frozen? ⟨w1.heap.size, 0, none⟩ = false := by go_simp
        have kb2_0_1 : w2.cell? ⟨w1.heap.size, 1, none⟩ = some (.int .i64 q) := by go_simp
        have kf2_0_1 : w2.frozen? ⟨w1.heap.size, 1, none⟩ = false := by go_simp
        clear hc2 hf2
        go_wp2_with fail
        refine (specQuotient_is p q _ _ _ true _ HV.out HB.out).mono ?_
        rintro e w3 ⟨rfl, hh3⟩
        obtain ⟨hc3, hf3⟩ := bcell hh3
        have hz3 := hh3.size
        try simp only [World.size_alloc] at hz3
        have hz3_0 : w1.heap.size < w3.heap.size := by omega
        have kb3_0_0 : w3.cell? ⟨w1.heap.size, 0, none⟩ = some (.int .i64 p) := by go_simp
        have kf3_0_0 : w3.frozen? ⟨w1.heap.size, 0, none⟩ = false := by go_simp
        have kb3_0_1 : w3.cell? ⟨w1.heap.size, 1, none⟩ = some (.int .i64 q) := by go_simp
        have kf3_0_1 : w3.frozen? ⟨w1.heap.size, 1, none⟩ = false := by go_simp
        clear hc3 hf3
        go_wp2_with fail
        refine (implFirst_at p q (i + 1) _ _ _ (by omega) HP.out (by omega) rfl).mono ?_
        rintro e w4 ⟨rfl, hh4⟩
        obtain ⟨hc4, hf4⟩ := bcell hh4
        have hz4 := hh4.size
        try simp only [World.size_alloc] at hz4
        have hz4_0 : w1.heap.size < w4.heap.size := by omega
        have kb4_0_0 : w4.cell? ⟨w1.heap.size, 0, none⟩ = some (.int .i64 p) := by go_simp
        have kf4_0_0 : w4.frozen? ⟨w1.heap.size, 0, none⟩ = false := by go_simp
        have kb4_0_1 : w4.cell? ⟨w1.heap.size, 1, none⟩ = some (.int .i64 q) := by go_simp
        have kf4_0_1 : w4.frozen? ⟨w1.heap.size, 1, none⟩ = false := by go_simp
        clear hc4 hf4
        go_wp2_with fail
        refine (implFirst_at p q ((i + 1) * (j + 1)) _ _ _ HE.out HP.out hm rfl).mono ?_
        rintro e w5 ⟨rfl, hh5⟩
        obtain ⟨hc5, hf5⟩ := bcell hh5
        have hz5 := hh5.size
        try simp only [World.size_alloc] at hz5
        have hz5_0 : w1.heap.size < w5.heap.size := by omega
        have kb5_0_0 : w5.cell? ⟨w1.heap.size, 0, none⟩ = some (.int .i64 p) := by go_simp
        have kf5_0_0 : w5.frozen? ⟨w1.heap.size, 0, none⟩ = false := by go_simp
        have kb5_0_1 : w5.cell? ⟨w1.heap.size, 1, none⟩ = some (.int .i64 q) := by go_simp
        have kf5_0_1 : w5.frozen? ⟨w1.heap.size, 1, none⟩ = false := by go_simp
        clear hc5 hf5
        go_wp2_with fail
        refine (implSecond_at p q (i + 1) _ _ _ (by omega) HP.out (by omega) rfl).mono ?_
        rintro e w6 ⟨rfl, hh6⟩
        obtain ⟨hc6, hf6⟩ := bcell hh6
        have hz6 := hh6.size
        try simp only [World.size_alloc] at hz6
        have hz6_0 : w1.heap.size < w6.heap.size := by omega
        have kb6_0_0 : w6.cell? ⟨w1.heap.size, 0, none⟩ = some (.int .i64 p) := by go_simp
        have kf6_0_0 : w6.frozen? ⟨w1.heap.size, 0, none⟩ = false := by go_simp
        have kb6_0_1 : w6.cell? ⟨w1.heap.size, 1, none⟩ = some (.int .i64 q) := by go_simp
        have kf6_0_1 : w6.frozen? ⟨w1.heap.size, 1, none⟩ = false := by go_simp
        clear hc6 hf6
        go_wp2_with fail
        refine (alive_any _).mono ?_
        rintro e w7 ⟨rfl, hh7⟩
        obtain ⟨hc7, hf7⟩ := bcell hh7
        have hz7 := hh7.size
        try simp only [World.size_alloc] at hz7
        clear hc7 hf7
        go_wp2
        go_ret
        exact ⟨rfl, by (repeat (first | exact Below.refl _ _ | refine Below.setCell ?_ (by first | omega | (simp <;> omega)) _ | refine Below.alloc ?_ (by first | omega | (simp <;> omega)) _ | refine Below.drew ?_ | refine Below.trans ?_ (Below.mono (by assumption) (by first | omega | (simp <;> omega))) | refine Below.grown ?_ (by assumption) (by first | omega | (simp <;> omega)) (fun k e => by cases e; first | omega | (simp <;> omega))))⟩
end Go.Proofs.Ytennicmmjbfljaa
