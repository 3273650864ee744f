/- Contracts and laws that the statement's proof stands on, one text behind the other. -/
import Derived.Test.YtmliglakfbeedaaAll2a

namespace Go.Proofs.Ytmliglakfbeedaa
open Go.RowKit
set_option maxRecDepth 100000 in
set_option maxHeartbeats 8000000 in
theorem fnPassesFirst_walk (a : Option Addr) (len cap : Nat) (z : List Int) (w : World) (w0 : IsRow w a len cap z) :
    Calls Try.prog 5 #[.slice a len cap] w fun e w' => e = .returned (.bool true) ∧ Below w.heap.size w w' := by
  by_cases hbig : 1048576 < len
  · go_enter Try.func5, Try.ntmps5
    go_wp2
    go_ret
    exact ⟨rfl, Below.refl _ _⟩
  · have hsm : len ≤ 1048576 := by omega
    go_enter Try.func5, Try.ntmps5
    go_wp2_with fail
    refine (drawPassesFirst_any _ _ _ _ z w0).mono ?_
    rintro e w1 ⟨p, q, n, rfl, hh1⟩
    have hz1 := hh1.size
    obtain ⟨hc1, hf1⟩ := bcell hh1
    have H7 := Lib.hid first_seven
    cases hc : passFirstB p q n with
    | false =>
      have hF : fittingB p q n = false := by
        cases h : fittingB p q n with
        | false => rfl
        | true =>
          obtain ⟨_, _, ⟨m, rfl, _⟩, _⟩ := fittingB_true h
          rw [first_fits h] at hc
          cases hc
      have HC := Lib.hid hc
      have HF := Lib.hid hF
      obtain ⟨R, hR⟩ : ∃ R, rankV p q n = R := ⟨_, rfl⟩
      obtain ⟨rb, hrb⟩ : ∃ rb, rankB p q n = rb := ⟨_, rfl⟩
      obtain ⟨x, hx⟩ : ∃ x, weightV p q = x := ⟨_, rfl⟩
      obtain ⟨pb, hpb⟩ : ∃ pb, pairB p q = pb := ⟨_, rfl⟩
      obtain ⟨s, hs⟩ : ∃ s, signOfV x n = s := ⟨_, rfl⟩
      obtain ⟨sb, hsb⟩ : ∃ sb, signB x n = sb := ⟨_, rfl⟩
      have HRV := Lib.hid hR
      have HRB := Lib.hid hrb
      have HX := Lib.hid hx
      have HP := Lib.hid hpb
      have HSV := Lib.hid hs
      have HSB := Lib.hid hsb
      clear hc hF hR hrb hx hpb hs hsb
      go_wp2_with fail
      refine (implPassFirst_is p q n false _ HC.out).mono ?_
      rintro e w2 ⟨rfl, hh2⟩
      obtain ⟨hc2, hf2⟩ := bcell hh2
      have hz2 := hh2.size
      try simp only [World.size_alloc] at hz2
      have hz2_0 : w1.heap.size < w2.heap.size := by omega
      have kb2_0_0 : w2.cell? ⟨w1.heap.size, 0, none⟩ = some (.int .i64 p) := by go_simp
      have kf2_0_0 : w2.frozen? ⟨w1.heap.size, 0, none⟩ = false := by go_simp
      have kb2_0_1 : w2.cell? ⟨w1.heap.size, 1, none⟩ = some (.int .i64 q) := by go_simp
      have kf2_0_1 : w2.frozen? ⟨w1.heap.size, 1, none⟩ = false := by go_simp
      clear hc2 hf2
      go_wp2_with fail
      refine (specPassFirst_is p q n false _ HC.out).mono ?_
      rintro e w3 ⟨rfl, hh3⟩
      obtain ⟨hc3, hf3⟩ := bcell hh3
      have hz3 := hh3.size
      try simp only [World.size_alloc] at hz3
      have hz3_0 : w1.heap.size < w3.heap.size := by omega
      have kb3_0_0 : w3.cell? ⟨w1.heap.size, 0, none⟩ = some (.int .i64 p) := by go_simp
      have kf3_0_0 : w3.frozen? ⟨w1.heap.size, 0, none⟩ = false := by go_simp
      have kb3_0_1 : w3.cell? ⟨w1.heap.size, 1, none⟩ = some (.int .i64 q) := by go_simp
      have kf3_0_1 : w3.frozen? ⟨w1.heap.size, 1, none⟩ = false := by go_simp
      clear hc3 hf3
      go_wp2_with fail
      refine (implFitting_is p q n false _ HF.out).mono ?_
      rintro e w4 ⟨rfl, hh4⟩
      obtain ⟨hc4, hf4⟩ := bcell hh4
      have hz4 := hh4.size
      try simp only [World.size_alloc] at hz4
      have hz4_0 : w1.heap.size < w4.heap.size := by omega
      have kb4_0_0 : w4.cell? ⟨w1.heap.size, 0, none⟩ = some (.int .i64 p) := by go_simp
      have kf4_0_0 : w4.frozen? ⟨w1.heap.size, 0, none⟩ = false := by go_simp
      have kb4_0_1 : w4.cell? ⟨w1.heap.size, 1, none⟩ = some (.int .i64 q) := by go_simp
      have kf4_0_1 : w4.frozen? ⟨w1.heap.size, 1, none⟩ = false := by go_simp
      clear hc4 hf4
      go_wp2_with fail
      refine (implRank_is p q n R rb _ HRV.out HRB.out).mono ?_
      rintro e w5 ⟨rfl, hh5⟩
      obtain ⟨hc5, hf5⟩ := bcell hh5
      have hz5 := hh5.size
      try simp only [World.size_alloc] at hz5
      have hz5_0 : w1.heap.size < w5.heap.size := by omega
      have kb5_0_0 : w5.cell? ⟨w1.heap.size, 0, none⟩ = some (.int .i64 p) := by go_simp
      have kf5_0_0 : w5.frozen? ⟨w1.heap.size, 0, none⟩ = false := by go_simp
      have kb5_0_1 : w5.cell? ⟨w1.heap.size, 1, none⟩ = some (.int .i64 q) := by go_simp
      have kf5_0_1 : w5.frozen? ⟨w1.heap.size, 1, none⟩ = false := by go_simp
      clear hc5 hf5
      go_wp2_with fail
      refine (implWeight_is p q x pb _ HX.out HP.out).mono ?_
      rintro e w6 ⟨rfl, hh6⟩
      obtain ⟨hc6, hf6⟩ := bcell hh6
      have hz6 := hh6.size
      try simp only [World.size_alloc] at hz6
      have hz6_0 : w1.heap.size < w6.heap.size := by omega
      have kb6_0_0 : w6.cell? ⟨w1.heap.size, 0, none⟩ = some (.int .i64 p) := by go_simp
      have kf6_0_0 : w6.frozen? ⟨w1.heap.size, 0, none⟩ = false := by go_simp
      have kb6_0_1 : w6.cell? ⟨w1.heap.size, 1, none⟩ = some (.int .i64 q) := by go_simp
      have kf6_0_1 : w6.frozen? ⟨w1.heap.size, 1, none⟩ = false := by go_simp
      clear hc6 hf6
      go_wp2_with fail
      refine (implSign_is x n s sb _ HSV.out HSB.out).mono ?_
      rintro e w7 ⟨rfl, hh7⟩
      obtain ⟨hc7, hf7⟩ := bcell hh7
      have hz7 := hh7.size
      try simp only [World.size_alloc] at hz7
      have hz7_0 : w1.heap.size < w7.heap.size := by omega
      have kb7_0_0 : w7.cell? ⟨w1.heap.size, 0, none⟩ = some (.int .i64 p) := by go_simp
      have kf7_0_0 : w7.frozen? ⟨w1.heap.size, 0, none⟩ = false := by go_simp
      have kb7_0_1 : w7.cell? ⟨w1.heap.size, 1, none⟩ = some (.int .i64 q) := by go_simp
      have kf7_0_1 : w7.frozen? ⟨w1.heap.size, 1, none⟩ = false := by go_simp
      clear hc7 hf7
      go_wp2_with fail
      refine (implPassFirst_is 1 (-1) 7 true _ H7.out).mono ?_
      rintro e w8 ⟨rfl, hh8⟩
      obtain ⟨hc8, hf8⟩ := bcell hh8
      have hz8 := hh8.size
      try simp only [World.size_alloc] at hz8
      clear hc8 hf8
      go_wp2
      go_ret
      exact ⟨rfl, by (repeat (first | exact Below.refl _ _ | refine Below.setCell ?_ (by first | omega | (simp <;> omega)) _ | refine Below.alloc ?_ (by first | omega | (simp <;> omega)) _ | refine Below.drew ?_ | refine Below.trans ?_ (Below.mono (by assumption) (by first | omega | (simp <;> omega))) | refine Below.grown ?_ (by assumption) (by first | omega | (simp <;> omega)) (fun k e => by cases e; first | omega | (simp <;> omega))))⟩
    | true =>
      obtain ⟨m, rfl, hp, hq, m1, m2, m3, _, _, _⟩ := passFirstB_true hc
      have HC := Lib.hid hc
      have HP := Lib.hid hp
      obtain ⟨x1, x2⟩ := weight_bd hp
      obtain ⟨e1, e2, e3⟩ := beside_is (p := p) (q := q) (m := m) m1
      have hdv := fun h => first_rank (p := p) (q := q) (m := m) hc h
      obtain ⟨t, ht⟩ : ∃ t, besideN p q m = t := ⟨_, rfl⟩
      rw [ht] at e1 e2 e3 hdv
      have HX := Lib.hid (weightV_is hp)
      obtain ⟨x, hx⟩ : ∃ x, p * p - 4 * q = x := ⟨_, rfl⟩
      rw [hx] at x1 x2 e1 HX
      have hsb : signB x m = true := signB_mk (by omega) m2 m3 (by omega) (by omega)
      have HSB := Lib.hid hsb
      have hsc := signV_cases x m
      obtain ⟨s, hs⟩ : ∃ s, signV x m = s := ⟨_, rfl⟩
      have HSV := Lib.hid (show signOfV x m = s by rw [signOfV_is hsb, hs])
      rw [hs] at e1 hsc
      have U : IntKind.i64.wrap ((m : Int) - s) = (m : Int) - s := by rw [IntKind.wrap_i64]; rcases hsc with h | h | h <;> rw [h] <;> omega
      obtain ⟨fb, hfb⟩ : ∃ fb, fittingB p q m = fb := ⟨_, rfl⟩
      have HF := Lib.hid hfb
      cases hrb : rankB p q m with
      | false =>
        have HRB := Lib.hid hrb
        obtain ⟨R, hR⟩ : ∃ R, rankV p q m = R := ⟨_, rfl⟩
        have HRV := Lib.hid hR
        clear hc hp hx hsb hs hfb hrb hR hdv ht hsc
        cases fb with
        | false =>
          go_wp2_with fail
          refine (implPassFirst_is p q m true _ HC.out).mono ?_
          rintro e w2 ⟨rfl, hh2⟩
          obtain ⟨hc2, hf2⟩ := bcell hh2
          have hz2 := hh2.size
          try simp only [World.size_alloc] at hz2
          have hz2_0 : w1.heap.size < w2.heap.size := by omega
          have kb2_0_0 : w2.cell? ⟨w1.heap.size, 0, none⟩ = some (.int .i64 p) := by go_simp
          have kf2_0_0 : w2.frozen? ⟨w1.heap.size, 0, none⟩ = false := by go_simp
          have kb2_0_1 : w2.cell? ⟨w1.heap.size, 1, none⟩ = some (.int .i64 q) := by go_simp
          have kf2_0_1 : w2.frozen? ⟨w1.heap.size, 1, none⟩ = false := by go_simp
          clear hc2 hf2
          go_wp2_with fail
          refine (specPassFirst_is p q m true _ HC.out).mono ?_
          rintro e w3 ⟨rfl, hh3⟩
          obtain ⟨hc3, hf3⟩ := bcell hh3
          have hz3 := hh3.size
          try simp only [World.size_alloc] at hz3
          have hz3_0 : w1.heap.size < w3.heap.size := by omega
          have kb3_0_0 : w3.cell? ⟨w1.heap.size, 0, none⟩ = some (.int .i64 p) := by go_simp
          have kf3_0_0 : w3.frozen? ⟨w1.heap.size, 0, none⟩ = false := by go_simp
          have kb3_0_1 : w3.cell? ⟨w1.heap.size, 1, none⟩ = some (.int .i64 q) := by go_simp
          have kf3_0_1 : w3.frozen? ⟨w1.heap.size, 1, none⟩ = false := by go_simp
          clear hc3 hf3
          go_wp2_with fail
          refine (implFitting_is p q m false _ HF.out).mono ?_
          rintro e w4 ⟨rfl, hh4⟩
          obtain ⟨hc4, hf4⟩ := bcell hh4
          have hz4 := hh4.size
          try simp only [World.size_alloc] at hz4
          have hz4_0 : w1.heap.size < w4.heap.size := by omega
          have kb4_0_0 : w4.cell? ⟨w1.heap.size, 0, none⟩ = some (.int .i64 p) := by go_simp
          have kf4_0_0 : w4.frozen? ⟨w1.heap.size, 0, none⟩ = false := by go_simp
          have kb4_0_1 : w4.cell? ⟨w1.heap.size, 1, none⟩ = some (.int .i64 q) := by go_simp
          have kf4_0_1 : w4.frozen? ⟨w1.heap.size, 1, none⟩ = false := by go_simp
          clear hc4 hf4
          go_wp2_with fail
          refine (implRank_is p q m R false _ HRV.out HRB.out).mono ?_
          rintro e w5 ⟨rfl, hh5⟩
          obtain ⟨hc5, hf5⟩ := bcell hh5
          have hz5 := hh5.size
          try simp only [World.size_alloc] at hz5
          have hz5_0 : w1.heap.size < w5.heap.size := by omega
          have kb5_0_0 : w5.cell? ⟨w1.heap.size, 0, none⟩ = some (.int .i64 p) := by go_simp
          have kf5_0_0 : w5.frozen? ⟨w1.heap.size, 0, none⟩ = false := by go_simp
          have kb5_0_1 : w5.cell? ⟨w1.heap.size, 1, none⟩ = some (.int .i64 q) := by go_simp
          have kf5_0_1 : w5.frozen? ⟨w1.heap.size, 1, none⟩ = false := by go_simp
          clear hc5 hf5
          go_wp2_with fail
          refine (implWeight_is p q x true _ HX.out HP.out).mono ?_
          rintro e w6 ⟨rfl, hh6⟩
          obtain ⟨hc6, hf6⟩ := bcell hh6
          have hz6 := hh6.size
          try simp only [World.size_alloc] at hz6
          have hz6_0 : w1.heap.size < w6.heap.size := by omega
          have kb6_0_0 : w6.cell? ⟨w1.heap.size, 0, none⟩ = some (.int .i64 p) := by go_simp
          have kf6_0_0 : w6.frozen? ⟨w1.heap.size, 0, none⟩ = false := by go_simp
          have kb6_0_1 : w6.cell? ⟨w1.heap.size, 1, none⟩ = some (.int .i64 q) := by go_simp
          have kf6_0_1 : w6.frozen? ⟨w1.heap.size, 1, none⟩ = false := by go_simp
          clear hc6 hf6
          go_wp2_with fail
          refine (implSign_is x m s true _ HSV.out HSB.out).mono ?_
          rintro e w7 ⟨rfl, hh7⟩
          obtain ⟨hc7, hf7⟩ := bcell hh7
          have hz7 := hh7.size
          try simp only [World.size_alloc] at hz7
          have hz7_0 : w1.heap.size < w7.heap.size := by omega
          have kb7_0_0 : w7.cell? ⟨w1.heap.size, 0, none⟩ = some (.int .i64 p) := by go_simp
          have kf7_0_0 : w7.frozen? ⟨w1.heap.size, 0, none⟩ = false := by go_simp
          have kb7_0_1 : w7.cell? ⟨w1.heap.size, 1, none⟩ = some (.int .i64 q) := by go_simp
          have kf7_0_1 : w7.frozen? ⟨w1.heap.size, 1, none⟩ = false := by go_simp
          clear hc7 hf7
          go_wp2_with fail
          refine (implPassFirst_is 1 (-1) 7 true _ H7.out).mono ?_
          rintro e w8 ⟨rfl, hh8⟩
          obtain ⟨hc8, hf8⟩ := bcell hh8
          have hz8 := hh8.size
          try simp only [World.size_alloc] at hz8
          clear hc8 hf8
          go_wp2
          go_ret
          exact ⟨rfl, by (repeat (first | exact Below.refl _ _ | refine Below.setCell ?_ (by first | omega | (simp <;> omega)) _ | refine Below.alloc ?_ (by first | omega | (simp <;> omega)) _ | refine Below.drew ?_ | refine Below.trans ?_ (Below.mono (by assumption) (by first | omega | (simp <;> omega))) | refine Below.grown ?_ (by assumption) (by first | omega | (simp <;> omega)) (fun k e => by cases e; first | omega | (simp <;> omega))))⟩
        | true =>
          go_wp2_with fail
          refine (implPassFirst_is p q m true _ HC.out).mono ?_
          rintro e w2 ⟨rfl, hh2⟩
          obtain ⟨hc2, hf2⟩ := bcell hh2
          have hz2 := hh2.size
          try simp only [World.size_alloc] at hz2
          have hz2_0 : w1.heap.size < w2.heap.size := by omega
          have kb2_0_0 : w2.cell? ⟨w1.heap.size, 0, none⟩ = some (.int .i64 p) := by go_simp
          have kf2_0_0 : w2.frozen? ⟨w1.heap.size, 0, none⟩ = false := by go_simp
          have kb2_0_1 : w2.cell? ⟨w1.heap.size, 1, none⟩ = some (.int .i64 q) := by go_simp
          have kf2_0_1 : w2.frozen? ⟨w1.heap.size, 1, none⟩ = false := by go_simp
          clear hc2 hf2
          go_wp2_with fail
          refine (specPassFirst_is p q m true _ HC.out).mono ?_
          rintro e w3 ⟨rfl, hh3⟩
          obtain ⟨hc3, hf3⟩ := bcell hh3
          have hz3 := hh3.size
          try simp only [World.size_alloc] at hz3
          have hz3_0 : w1.heap.size < w3.heap.size := by omega
          have kb3_0_0 : w3.cell? ⟨w1.heap.size, 0, none⟩ = some (.int .i64 p) := by go_simp
          have kf3_0_0 : w3.frozen? ⟨w1.heap.size, 0, none⟩ = false := by go_simp
          have kb3_0_1 : w3.cell? ⟨w1.heap.size, 1, none⟩ = some (.int .i64 q) := by go_simp
          have kf3_0_1 : w3.frozen? ⟨w1.heap.size, 1, none⟩ = false := by go_simp
          clear hc3 hf3
          go_wp2_with fail
          refine (implFitting_is p q m true _ HF.out).mono ?_
          rintro e w4 ⟨rfl, hh4⟩
          obtain ⟨hc4, hf4⟩ := bcell hh4
          have hz4 := hh4.size
          try simp only [World.size_alloc] at hz4
          have hz4_0 : w1.heap.size < w4.heap.size := by omega
          have kb4_0_0 : w4.cell? ⟨w1.heap.size, 0, none⟩ = some (.int .i64 p) := by go_simp
          have kf4_0_0 : w4.frozen? ⟨w1.heap.size, 0, none⟩ = false := by go_simp
          have kb4_0_1 : w4.cell? ⟨w1.heap.size, 1, none⟩ = some (.int .i64 q) := by go_simp
          have kf4_0_1 : w4.frozen? ⟨w1.heap.size, 1, none⟩ = false := by go_simp
          clear hc4 hf4
          go_wp2_with fail
          refine (implRank_is p q m R false _ HRV.out HRB.out).mono ?_
          rintro e w5 ⟨rfl, hh5⟩
          obtain ⟨hc5, hf5⟩ := bcell hh5
          have hz5 := hh5.size
          try simp only [World.size_alloc] at hz5
          have hz5_0 : w1.heap.size < w5.heap.size := by omega
          have kb5_0_0 : w5.cell? ⟨w1.heap.size, 0, none⟩ = some (.int .i64 p) := by go_simp
          have kf5_0_0 : w5.frozen? ⟨w1.heap.size, 0, none⟩ = false := by go_simp
          have kb5_0_1 : w5.cell? ⟨w1.heap.size, 1, none⟩ = some (.int .i64 q) := by go_simp
          have kf5_0_1 : w5.frozen? ⟨w1.heap.size, 1, none⟩ = false := by go_simp
          clear hc5 hf5
          go_wp2_with fail
          refine (implWeight_is p q x true _ HX.out HP.out).mono ?_
          rintro e w6 ⟨rfl, hh6⟩
          obtain ⟨hc6, hf6⟩ := bcell hh6
          have hz6 := hh6.size
          try simp only [World.size_alloc] at hz6
          have hz6_0 : w1.heap.size < w6.heap.size := by omega
          have kb6_0_0 : w6.cell? ⟨w1.heap.size, 0, none⟩ = some (.int .i64 p) := by go_simp
          have kf6_0_0 : w6.frozen? ⟨w1.heap.size, 0, none⟩ = false := by go_simp
          have kb6_0_1 : w6.cell? ⟨w1.heap.size, 1, none⟩ = some (.int .i64 q) := by go_simp
          have kf6_0_1 : w6.frozen? ⟨w1.heap.size, 1, none⟩ = false := by go_simp
          clear hc6 hf6
          go_wp2_with fail
          refine (implSign_is x m s true _ HSV.out HSB.out).mono ?_
          rintro e w7 ⟨rfl, hh7⟩
          obtain ⟨hc7, hf7⟩ := bcell hh7
          have hz7 := hh7.size
          try simp only [World.size_alloc] at hz7
          have hz7_0 : w1.heap.size < w7.heap.size := by omega
          have kb7_0_0 : w7.cell? ⟨w1.heap.size, 0, none⟩ = some (.int .i64 p) := by go_simp
          have kf7_0_0 : w7.frozen? ⟨w1.heap.size, 0, none⟩ = false := by go_simp
          have kb7_0_1 : w7.cell? ⟨w1.heap.size, 1, none⟩ = some (.int .i64 q) := by go_simp
          have kf7_0_1 : w7.frozen? ⟨w1.heap.size, 1, none⟩ = false := by go_simp
          clear hc7 hf7
          go_wp2_with fail
          refine (implPassFirst_is 1 (-1) 7 true _ H7.out).mono ?_
          rintro e w8 ⟨rfl, hh8⟩
          obtain ⟨hc8, hf8⟩ := bcell hh8
          have hz8 := hh8.size
          try simp only [World.size_alloc] at hz8
          clear hc8 hf8
          go_wp2
          go_ret
          exact ⟨rfl, by (repeat (first | exact Below.refl _ _ | refine Below.setCell ?_ (by first | omega | (simp <;> omega)) _ | refine Below.alloc ?_ (by first | omega | (simp <;> omega)) _ | refine Below.drew ?_ | refine Below.trans ?_ (Below.mono (by assumption) (by first | omega | (simp <;> omega))) | refine Below.grown ?_ (by assumption) (by first | omega | (simp <;> omega)) (fun k e => by cases e; first | omega | (simp <;> omega))))⟩
      | true =>
        have HRB := Lib.hid hrb
        obtain ⟨_, _, _, _, k, hk, k1, k2, ha⟩ := rankB_true hrb
        obtain rfl : m = k := by omega
        obtain ⟨c1, c2⟩ := rank_bd (p := p) k1 k2 ha
        have hd := hdv hrb
        have HRV0 := rankV_is hrb
        obtain ⟨R, hR⟩ : ∃ R, rankN p q m = R := ⟨_, rfl⟩
        rw [hR] at c1 c2 hd HRV0
        have HRV := Lib.hid HRV0
        have hRz : ((R : Int) == 0) = false := by simp; omega
        have hR1 : (1 : Int) ≤ (R : Int) := by omega
        have hmz : ¬ (R : Int) = 0 := by omega
        have hD1 : ((m : Int) - s) % (R : Int) = 0 := by rw [e1]; exact Int.emod_eq_zero_of_dvd (Int.natCast_dvd_natCast.2 hd)
        have hD2 : ((m : Int) - s).tmod (R : Int) = 0 := by rw [e1]; exact Int.tmod_eq_zero_of_dvd (Int.natCast_dvd_natCast.2 hd)
        clear hc hp hx hsb hs hfb hrb hR hdv ht hsc ha hd HRV0 hk e1
        cases fb with
        | false =>
          go_wp2_with fail
          refine (implPassFirst_is p q m true _ HC.out).mono ?_
          rintro e w2 ⟨rfl, hh2⟩
          obtain ⟨hc2, hf2⟩ := bcell hh2
          have hz2 := hh2.size
          try simp only [World.size_alloc] at hz2
          have hz2_0 : w1.heap.size < w2.heap.size := by omega
          have kb2_0_0 : w2.cell? ⟨w1.heap.size, 0, none⟩ = some (.int .i64 p) := by go_simp
          have kf2_0_0 : w2.frozen? ⟨w1.heap.size, 0, none⟩ = false := by go_simp
          have kb2_0_1 : w2.cell? ⟨w1.heap.size, 1, none⟩ = some (.int .i64 q) := by go_simp
          have kf2_0_1 : w2.frozen? ⟨w1.heap.size, 1, none⟩ = false := by go_simp
          clear hc2 hf2
          go_wp2_with fail
          refine (specPassFirst_is p q m true _ HC.out).mono ?_
          rintro e w3 ⟨rfl, hh3⟩
          obtain ⟨hc3, hf3⟩ := bcell hh3
          have hz3 := hh3.size
          try simp only [World.size_alloc] at hz3
          have hz3_0 : w1.heap.size < w3.heap.size := by omega
          have kb3_0_0 : w3.cell? ⟨w1.heap.size, 0, none⟩ = some (.int .i64 p) := by go_simp
          have kf3_0_0 : w3.frozen? ⟨w1.heap.size, 0, none⟩ = false := by go_simp
          have kb3_0_1 : w3.cell? ⟨w1.heap.size, 1, none⟩ = some (.int .i64 q) := by go_simp
          have kf3_0_1 : w3.frozen? ⟨w1.heap.size, 1, none⟩ = false := by go_simp
          clear hc3 hf3
          go_wp2_with fail
          refine (implFitting_is p q m false _ HF.out).mono ?_
          rintro e w4 ⟨rfl, hh4⟩
          obtain ⟨hc4, hf4⟩ := bcell hh4
          have hz4 := hh4.size
          try simp only [World.size_alloc] at hz4
          have hz4_0 : w1.heap.size < w4.heap.size := by omega
          have kb4_0_0 : w4.cell? ⟨w1.heap.size, 0, none⟩ = some (.int .i64 p) := by go_simp
          have kf4_0_0 : w4.frozen? ⟨w1.heap.size, 0, none⟩ = false := by go_simp
          have kb4_0_1 : w4.cell? ⟨w1.heap.size, 1, none⟩ = some (.int .i64 q) := by go_simp
          have kf4_0_1 : w4.frozen? ⟨w1.heap.size, 1, none⟩ = false := by go_simp
          clear hc4 hf4
          go_wp2_with fail
          refine (implRank_is p q m R true _ HRV.out HRB.out).mono ?_
          rintro e w5 ⟨rfl, hh5⟩
          obtain ⟨hc5, hf5⟩ := bcell hh5
          have hz5 := hh5.size
          try simp only [World.size_alloc] at hz5
          have hz5_0 : w1.heap.size < w5.heap.size := by omega
          have kb5_0_0 : w5.cell? ⟨w1.heap.size, 0, none⟩ = some (.int .i64 p) := by go_simp
          have kf5_0_0 : w5.frozen? ⟨w1.heap.size, 0, none⟩ = false := by go_simp
          have kb5_0_1 : w5.cell? ⟨w1.heap.size, 1, none⟩ = some (.int .i64 q) := by go_simp
          have kf5_0_1 : w5.frozen? ⟨w1.heap.size, 1, none⟩ = false := by go_simp
          clear hc5 hf5
          go_wp2_with fail
          refine (implWeight_is p q x true _ HX.out HP.out).mono ?_
          rintro e w6 ⟨rfl, hh6⟩
          obtain ⟨hc6, hf6⟩ := bcell hh6
          have hz6 := hh6.size
          try simp only [World.size_alloc] at hz6
          have hz6_0 : w1.heap.size < w6.heap.size := by omega
          have kb6_0_0 : w6.cell? ⟨w1.heap.size, 0, none⟩ = some (.int .i64 p) := by go_simp
          have kf6_0_0 : w6.frozen? ⟨w1.heap.size, 0, none⟩ = false := by go_simp
          have kb6_0_1 : w6.cell? ⟨w1.heap.size, 1, none⟩ = some (.int .i64 q) := by go_simp
          have kf6_0_1 : w6.frozen? ⟨w1.heap.size, 1, none⟩ = false := by go_simp
          clear hc6 hf6
          go_wp2_with fail
          refine (implSign_is x m s true _ HSV.out HSB.out).mono ?_
          rintro e w7 ⟨rfl, hh7⟩
          obtain ⟨hc7, hf7⟩ := bcell hh7
          have hz7 := hh7.size
          try simp only [World.size_alloc] at hz7
          have hz7_0 : w1.heap.size < w7.heap.size := by omega
          have kb7_0_0 : w7.cell? ⟨w1.heap.size, 0, none⟩ = some (.int .i64 p) := by go_simp
          have kf7_0_0 : w7.frozen? ⟨w1.heap.size, 0, none⟩ = false := by go_simp
          have kb7_0_1 : w7.cell? ⟨w1.heap.size, 1, none⟩ = some (.int .i64 q) := by go_simp
          have kf7_0_1 : w7.frozen? ⟨w1.heap.size, 1, none⟩ = false := by go_simp
          clear hc7 hf7
          go_wp2_with fail
          refine (implPassFirst_is 1 (-1) 7 true _ H7.out).mono ?_
          rintro e w8 ⟨rfl, hh8⟩
          obtain ⟨hc8, hf8⟩ := bcell hh8
          have hz8 := hh8.size
          try simp only [World.size_alloc] at hz8
          clear hc8 hf8
          go_wp2
          go_ret
          exact ⟨rfl, by (repeat (first | exact Below.refl _ _ | refine Below.setCell ?_ (by first | omega | (simp <;> omega)) _ | refine Below.alloc ?_ (by first | omega | (simp <;> omega)) _ | refine Below.drew ?_ | refine Below.trans ?_ (Below.mono (by assumption) (by first | omega | (simp <;> omega))) | refine Below.grown ?_ (by assumption) (by first | omega | (simp <;> omega)) (fun k e => by cases e; first | omega | (simp <;> omega))))⟩
        | true =>
          go_wp2_with fail
          refine (implPassFirst_is p q m true _ HC.out).mono ?_
          rintro e w2 ⟨rfl, hh2⟩
          obtain ⟨hc2, hf2⟩ := bcell hh2
          have hz2 := hh2.size
          try simp only [World.size_alloc] at hz2
          have hz2_0 : w1.heap.size < w2.heap.size := by omega
          have kb2_0_0 : w2.cell? ⟨w1.heap.size, 0, none⟩ = some (.int .i64 p) := by go_simp
          have kf2_0_0 : w2.frozen? ⟨w1.heap.size, 0, none⟩ = false := by go_simp
          have kb2_0_1 : w2.cell? ⟨w1.heap.size, 1, none⟩ = some (.int .i64 q) := by go_simp
          have kf2_0_1 : w2.frozen? ⟨w1.heap.size, 1, none⟩ = false := by go_simp
          clear hc2 hf2
          go_wp2_with fail
          refine (specPassFirst_is p q m true _ HC.out).mono ?_
          rintro e w3 ⟨rfl, hh3⟩
          obtain ⟨hc3, hf3⟩ := bcell hh3
          have hz3 := hh3.size
          try simp only [World.size_alloc] at hz3
          have hz3_0 : w1.heap.size < w3.heap.size := by omega
          have kb3_0_0 : w3.cell? ⟨w1.heap.size, 0, none⟩ = some (.int .i64 p) := by go_simp
          have kf3_0_0 : w3.frozen? ⟨w1.heap.size, 0, none⟩ = false := by go_simp
          have kb3_0_1 : w3.cell? ⟨w1.heap.size, 1, none⟩ = some (.int .i64 q) := by go_simp
          have kf3_0_1 : w3.frozen? ⟨w1.heap.size, 1, none⟩ = false := by go_simp
          clear hc3 hf3
          go_wp2_with fail
          refine (implFitting_is p q m true _ HF.out).mono ?_
          rintro e w4 ⟨rfl, hh4⟩
          obtain ⟨hc4, hf4⟩ := bcell hh4
          have hz4 := hh4.size
          try simp only [World.size_alloc] at hz4
          have hz4_0 : w1.heap.size < w4.heap.size := by omega
          have kb4_0_0 : w4.cell? ⟨w1.heap.size, 0, none⟩ = some (.int .i64 p) := by go_simp
          have kf4_0_0 : w4.frozen? ⟨w1.heap.size, 0, none⟩ = false := by go_simp
          have kb4_0_1 : w4.cell? ⟨w1.heap.size, 1, none⟩ = some (.int .i64 q) := by go_simp
          have kf4_0_1 : w4.frozen? ⟨w1.heap.size, 1, none⟩ = false := by go_simp
          clear hc4 hf4
          go_wp2_with fail
          refine (implRank_is p q m R true _ HRV.out HRB.out).mono ?_
          rintro e w5 ⟨rfl, hh5⟩
          obtain ⟨hc5, hf5⟩ := bcell hh5
          have hz5 := hh5.size
          try simp only [World.size_alloc] at hz5
          have hz5_0 : w1.heap.size < w5.heap.size := by omega
          have kb5_0_0 : w5.cell? ⟨w1.heap.size, 0, none⟩ = some (.int .i64 p) := by go_simp
          have kf5_0_0 : w5.frozen? ⟨w1.heap.size, 0, none⟩ = false := by go_simp
          have kb5_0_1 : w5.cell? ⟨w1.heap.size, 1, none⟩ = some (.int .i64 q) := by go_simp
          have kf5_0_1 : w5.frozen? ⟨w1.heap.size, 1, none⟩ = false := by go_simp
          clear hc5 hf5
          go_wp2_with fail
          refine (implWeight_is p q x true _ HX.out HP.out).mono ?_
          rintro e w6 ⟨rfl, hh6⟩
          obtain ⟨hc6, hf6⟩ := bcell hh6
          have hz6 := hh6.size
          try simp only [World.size_alloc] at hz6
          have hz6_0 : w1.heap.size < w6.heap.size := by omega
          have kb6_0_0 : w6.cell? ⟨w1.heap.size, 0, none⟩ = some (.int .i64 p) := by go_simp
          have kf6_0_0 : w6.frozen? ⟨w1.heap.size, 0, none⟩ = false := by go_simp
          have kb6_0_1 : w6.cell? ⟨w1.heap.size, 1, none⟩ = some (.int .i64 q) := by go_simp
          have kf6_0_1 : w6.frozen? ⟨w1.heap.size, 1, none⟩ = false := by go_simp
          clear hc6 hf6
          go_wp2_with fail
          refine (implSign_is x m s true _ HSV.out HSB.out).mono ?_
          rintro e w7 ⟨rfl, hh7⟩
          obtain ⟨hc7, hf7⟩ := bcell hh7
          have hz7 := hh7.size
          try simp only [World.size_alloc] at hz7
          have hz7_0 : w1.heap.size < w7.heap.size := by omega
          have kb7_0_0 : w7.cell? ⟨w1.heap.size, 0, none⟩ = some (.int .i64 p) := by go_simp
          have kf7_0_0 : w7.frozen? ⟨w1.heap.size, 0, none⟩ = false := by go_simp
          have kb7_0_1 : w7.cell? ⟨w1.heap.size, 1, none⟩ = some (.int .i64 q) := by go_simp
          have kf7_0_1 : w7.frozen? ⟨w1.heap.size, 1, none⟩ = false := by go_simp
          clear hc7 hf7
          go_wp2_with fail
          refine (implPassFirst_is 1 (-1) 7 true _ H7.out).mono ?_
          rintro e w8 ⟨rfl, hh8⟩
          obtain ⟨hc8, hf8⟩ := bcell hh8
          have hz8 := hh8.size
          try simp only [World.size_alloc] at hz8
          clear hc8 hf8
          go_wp2
          go_ret
          exact ⟨rfl, by (repeat (first | exact Below.refl _ _ | refine Below.setCell ?_ (by first | omega | (simp <;> omega)) _ | refine Below.alloc ?_ (by first | omega | (simp <;> omega)) _ | refine Below.drew ?_ | refine Below.trans ?_ (Below.mono (by assumption) (by first | omega | (simp <;> omega))) | refine Below.grown ?_ (by assumption) (by first | omega | (simp <;> omega)) (fun k e => by cases e; first | omega | (simp <;> omega))))⟩
end Go.Proofs.Ytmliglakfbeedaa
namespace Go.Proofs.Ytmliglakfbeedaa
open Go.RowKit
set_option maxRecDepth 100000 in
set_option maxHeartbeats 8000000 in
theorem fnPassingFirst_walk (a : Option Addr) (len cap : Nat) (z : List Int) (w : World) (w0 : IsRow w a len cap z) :
    Calls Try.prog 6 #[.slice a len cap] w fun e w' => e = .returned (.bool true) ∧ Below w.heap.size w w' := by
  by_cases hbig : 1048576 < len
  · go_enter Try.func6, Try.ntmps6
    go_wp2
    go_ret
    exact ⟨rfl, Below.refl _ _⟩
  · have hsm : len ≤ 1048576 := by omega
    go_enter Try.func6, Try.ntmps6
    go_wp2_with fail
    refine (drawPassingFirst_any _ _ _ _ z w0).mono ?_
    rintro e w1 ⟨p, q, n, rfl, hh1⟩
    have hz1 := hh1.size
    obtain ⟨hc1, hf1⟩ := bcell hh1
    have hOk := passingL_ok p q n
    obtain ⟨LL, hLL⟩ : ∃ LL, passingL p q n = LL := ⟨_, rfl⟩
    rw [hLL] at hOk
    obtain ⟨k0, k1, k2⟩ := hOk
    obtain ⟨nn, hn⟩ : ∃ nn, LL.length = nn := ⟨_, rfl⟩
    rw [hn] at k0 k1 k2
    have K1 := Lib.hid k1
    have HAS := Lib.hid (show ∀ i, i + 1 < nn → ((LL.getD i 0 : Nat) : Int) < ((LL.getD (i + 1) 0 : Nat) : Int) from fun i h => by have := k2 i h; omega)
    have HLL := Lib.hid hLL
    have HNN := Lib.hid hn
    clear k1 k2 hLL hn
    go_wp2_with fail
    refine (implPassing_any p q n _).mono ?_
    rintro e w2 ⟨u2, rfl, hI2, hh2⟩
    obtain ⟨hc2, hf2⟩ := bcell hh2
    have hz2 := hh2.size
    try simp only [World.size_alloc] at hz2
    have hz2_0 : w1.heap.size < w2.heap.size := by omega
    have kb2_0_0 : w2.cell? ⟨w1.heap.size, 0, none⟩ = some (.int .i64 p) := by go_simp
    have kf2_0_0 : w2.frozen? ⟨w1.heap.size, 0, none⟩ = false := by go_simp
    have kb2_0_1 : w2.cell? ⟨w1.heap.size, 1, none⟩ = some (.int .i64 q) := by go_simp
    have kf2_0_1 : w2.frozen? ⟨w1.heap.size, 1, none⟩ = false := by go_simp
    clear hc2 hf2
    go_wp2_with fail
    refine (specPassing_any p q n _).mono ?_
    rintro e w3 ⟨u3, rfl, hI3, hh3⟩
    obtain ⟨hc3, hf3⟩ := bcell hh3
    have hz3 := hh3.size
    try simp only [World.size_alloc] at hz3
    have hz3_0 : w1.heap.size < w3.heap.size := by omega
    have kb3_0_0 : w3.cell? ⟨w1.heap.size, 0, none⟩ = some (.int .i64 p) := by go_simp
    have kf3_0_0 : w3.frozen? ⟨w1.heap.size, 0, none⟩ = false := by go_simp
    have kb3_0_1 : w3.cell? ⟨w1.heap.size, 1, none⟩ = some (.int .i64 q) := by go_simp
    have kf3_0_1 : w3.frozen? ⟨w1.heap.size, 1, none⟩ = false := by go_simp
    clear hc3 hf3
    rw [HLL.out, HNN.out] at hI2 hI3
    go_wp2_with fail
    refine (sameInts_same _ _ _ _ _ _ _ _ _ (hI2.below hh3 (Nat.le_refl _)) hI3 (by omega)).mono ?_
    rintro e w4 ⟨rfl, hh4⟩
    obtain ⟨hc4, hf4⟩ := bcell hh4
    have hz4 := hh4.size
    try simp only [World.size_alloc] at hz4
    have hz4_0 : w1.heap.size < w4.heap.size := by omega
    have kb4_0_0 : w4.cell? ⟨w1.heap.size, 0, none⟩ = some (.int .i64 p) := by go_simp
    have kf4_0_0 : w4.frozen? ⟨w1.heap.size, 0, none⟩ = false := by go_simp
    have kb4_0_1 : w4.cell? ⟨w1.heap.size, 1, none⟩ = some (.int .i64 q) := by go_simp
    have kf4_0_1 : w4.frozen? ⟨w1.heap.size, 1, none⟩ = false := by go_simp
    clear hc4 hf4
    have HI := Lib.hid (hI2.below (show Below w2.heap.size w2 w4 by (repeat (first | exact Below.refl _ _ | refine Below.setCell ?_ (by first | omega | (simp <;> omega)) _ | refine Below.alloc ?_ (by first | omega | (simp <;> omega)) _ | refine Below.drew ?_ | refine Below.trans ?_ (Below.mono (by assumption) (by first | omega | (simp <;> omega))) | refine Below.grown ?_ (by assumption) (by first | omega | (simp <;> omega)) (fun k e => by cases e; first | omega | (simp <;> omega))))) (Nat.le_refl _))
    have H4 := Lib.hid (show Below w.heap.size w w4 by (repeat (first | exact Below.refl _ _ | refine Below.setCell ?_ (by first | omega | (simp <;> omega)) _ | refine Below.alloc ?_ (by first | omega | (simp <;> omega)) _ | refine Below.drew ?_ | refine Below.trans ?_ (Below.mono (by assumption) (by first | omega | (simp <;> omega))) | refine Below.grown ?_ (by assumption) (by first | omega | (simp <;> omega)) (fun k e => by cases e; first | omega | (simp <;> omega)))))
    clear hI2 hI3 hc1 hf1 hh1 hh2 hh3 hh4 hz2 hz3 kb2_0_0 kf2_0_0 kb2_0_1 kf2_0_1 kb3_0_0 kf3_0_0 kb3_0_1 kf3_0_1 hz2_0 hz3_0 hsm w0
    obtain ⟨a2, c2, rfl, hC2, hs2⟩ := HI.out
    go_wp2_with fail
    go_loopw [6, 7, 8] (fun c _ _ wr => ∃ i : Nat, i ≤ nn ∧ c = .int .i64 i ∧ Below w4.heap.size w4 wr) (fun c _ _ _ => 1100 - (intOf c).toNat)
    case atStart => exact ⟨0, by omega, rfl, Below.refl _ _⟩
    case round =>
      obtain ⟨i, hi, rfl, hB⟩ := hrel
      by_cases hlt : i < nn
      · rcases hs2 with hs2 | ⟨g2, o2, rfl, hg1, hg2, hcl, hfl⟩
        · omega
        obtain ⟨x, hx⟩ : ∃ x, LL.getD i 0 = x := ⟨_, rfl⟩
        obtain ⟨x3, x9, hpf, hpr⟩ := K1.out i hlt
        have c1 : wr.cell? ⟨g2, o2 + i, none⟩ = some (.int .i64 (x : Int)) := by rw [← hx]; exact (hB.cell (p := ⟨g2, o2 + i, none⟩) (by show g2 < _; omega)).trans (hcl i hlt)
        have kp : wr.cell? ⟨w1.heap.size, 0, none⟩ = some (.int .i64 p) := cell_below hB kb4_0_0
        have kq : wr.cell? ⟨w1.heap.size, 1, none⟩ = some (.int .i64 q) := cell_below hB kb4_0_1
        rw [hx] at x3 x9 hpf hpr
        have HPF := Lib.hid hpf
        have HPR := Lib.hid hpr
        have hin : (i : Int) < (nn : Int) := by omega
        have ix0 : (0 : Int) ≤ (i : Int) := by omega
        have hx0 : (0 : Int) ≤ (x : Int) := by omega
        have hsz := hB.size
        clear hcl hfl hx hpf hpr
        go_wp2_with fail
        go_loop [7, 8] (fun b y => ∃ (d : Nat) (c : Bool), 2 ≤ d ∧ d ≤ 32 ∧ b = .bool c ∧ y = .int .i64 d ∧ (c = true ∨ ∀ e : Nat, 2 ≤ e → e < d → ¬ e ∣ x)) (fun _ y => 40 - (intOf y).toNat)
        case atStart => exact ⟨2, false, by omega, by omega, rfl, rfl, .inr fun e e1 e2 => by omega⟩
        case round =>
          obtain ⟨d, c, d2, d3, rfl, rfl, hno⟩ := hrel
          have HNO := Lib.hid hno
          clear hno
          have hdd : (d : Int) * (d : Int) = ((d * d : Nat) : Int) := by simp
          have hb := Nat.mul_le_mul d3 d3
          have U : IntKind.i64.wrap ((d : Int) * (d : Int)) = (d : Int) * (d : Int) := by rw [IntKind.wrap_i64, hdd]; omega
          have hz : ((d : Int) == 0) = false := by simp; omega
          have hz' : ¬ (d : Int) = 0 := by omega
          by_cases h1 : d * d ≤ x
          · have h1i : (d : Int) * (d : Int) ≤ (x : Int) := by rw [hdd]; omega
            have hd31 : d ≤ 31 := by
              rcases Nat.lt_or_ge d 32 with h | h
              · omega
              · have := Nat.mul_le_mul h h; omega
            cases c with
            | true =>
              clear hdd hb
              go_wp2
              go_round
              case rel => exact ⟨d + 1, true, by omega, by omega, rfl, congrArg (Value.int .i64) (by omega), .inl rfl⟩
              case measure => simp [intOf]; omega
            | false =>
              by_cases hdv : d ∣ x
              · have hT : ((x : Int) % (d : Int) == 0) = true := by rw [div_test]; simpa using hdv
                have hT2 : ((x : Int).tmod (d : Int) == 0) = true := by rw [Int.tmod_eq_emod_of_nonneg (by omega)]; exact hT
                clear hdd hb hdv
                go_wp2
                go_round
                case rel => exact ⟨d + 1, true, by omega, by omega, (by first | rfl | exact congrArg Value.bool hT), congrArg (Value.int .i64) (by omega), .inl rfl⟩
                case measure => simp [intOf]; omega
              · have hT : ((x : Int) % (d : Int) == 0) = false := by rw [div_test]; simpa using hdv
                have hT2 : ((x : Int).tmod (d : Int) == 0) = false := by rw [Int.tmod_eq_emod_of_nonneg (by omega)]; exact hT
                have HD := Lib.hid hdv
                clear hdd hb hdv
                go_wp2
                go_round
                case rel => exact ⟨d + 1, false, by omega, by omega, (by first | rfl | exact congrArg Value.bool hT), congrArg (Value.int .i64) (by omega), .inr fun e e1 e2 he => by
                  rcases Nat.eq_or_lt_of_le (Nat.le_of_lt_succ e2) with rfl | h
                  · exact HD.out he
                  · rcases HNO.out with hh | hh
                    · cases hh
                    · exact hh e e1 h he⟩
                case measure => simp [intOf]; omega
          · have h1i : (x : Int) < (d : Int) * (d : Int) := by rw [hdd]; omega
            obtain rfl : c = true := by
              rcases HNO.out with hh | hh
              · exact hh
              · have := prime8_root (m := x) (d := d) (by omega) hh (by omega)
                rw [HPR.out] at this
                cases this
            clear hdd hb
            obtain ⟨S, hSd⟩ : ∃ S : World → Prop, (fun V => Below wr.heap.size wr V) = S := ⟨_, rfl⟩
            have hkeep : ∀ V V' : World, S V → Below V.heap.size V V' → S V' := by rw [← hSd]; exact fun V V' h hb => h.trans (hb.mono h.size)
            have gk0 : ∀ iq : KeptBy S, iq.world.cell? ⟨w1.heap.size, 0, none⟩ = some (.int .i64 p) := by rw [← hSd]; exact fun iq => cell_below iq.ok kp
            have gk1 : ∀ iq : KeptBy S, iq.world.cell? ⟨w1.heap.size, 1, none⟩ = some (.int .i64 q) := by rw [← hSd]; exact fun iq => cell_below iq.ok kq
            have gk2 : ∀ iq : KeptBy S, iq.world.cell? ⟨g2, o2 + i, none⟩ = some (.int .i64 (x : Int)) := by rw [← hSd]; exact fun iq => cell_below iq.ok c1
            have gkn : Nonempty (KeptBy S) := ⟨⟨wr.drew, by rw [← hSd]; exact (Below.refl _ _).drew⟩⟩
            go_wp2_with fail
            refine wp_region_kept (S := S) (by rw [← hSd]; exact (Below.refl _ _).drew) (by kernel_rfl) (by kernel_rfl) ?_
            repeat (go_big_quiet_step ((first | (go_at_call 22; refine (implPassFirst_is p q x true _ HPF.out).mono ?_; rintro e w' ⟨rfl, hhw⟩; exact ⟨rfl, ⟨w', hkeep _ _ (KeptBy.ok _) hhw⟩, rfl⟩) | fail)))
            refine wpQuiet_nil ?_
            rintro wz ⟨iz, hwz⟩
            have bwz : Below wr.heap.size wr wz := by
              have this : S wz := by rw [hwz]; exact iz.ok
              rw [← hSd] at this
              exact this
            clear hwz iz gkn hkeep hSd gk0 gk1 gk2
            clear kp kq c1
            go_wp2
            go_roundw
            case rel => exact ⟨i + 1, by omega, congrArg (Value.int .i64) (by omega), hB.trans (bwz.mono hB.size)⟩
            case measure => simp [intOf]; omega
      · obtain rfl : i = nn := by omega
        clear hs2
        have HI2 := Lib.hid (HI.out.below hB hC2)
        have HB := Lib.hid (H4.out.trans (hB.mono (by have := H4.out.size; omega)))
        have hsz := hB.size
        have hszw := HB.out.size
        clear hB
        go_wp2_with fail
        refine (implPassing_any 1 (-1) 330 _).mono ?_
        rintro e w5 ⟨u5, rfl, hI5, hh5⟩
        obtain ⟨hc5, hf5⟩ := bcell hh5
        have hz5 := hh5.size
        try simp only [World.size_alloc] at hz5
        clear hc5 hf5
        rw [passing_330] at hI5
        have hone : ∀ j : Nat, j < 1 → (([323] : List Nat).getD j 0 : Int) = 323 := by
          intro j hj
          obtain rfl : j = 0 := Nat.lt_one_iff.1 hj
          rfl
        have hI5' : IsInts wr.heap.size w5.heap.size w5 u5 1 (fun _ => (323 : Int)) := hI5.congr hone
        have HI5 := Lib.hid hI5'
        obtain ⟨a5, c5, rfl, hC5, _⟩ := hI5'
        clear hI5
        go_wp2_with fail
        refine (ascend_yes _ _ _ _ _ _ (HI2.out.below hh5 (by omega)) (by omega) HAS.out).mono ?_
        rintro e w6 ⟨rfl, hh6⟩
        obtain ⟨hc6, hf6⟩ := bcell hh6
        have hz6 := hh6.size
        try simp only [World.size_alloc] at hz6
        clear hc6 hf6
        have hlc : ∀ j, j < 1 → (w6.alloc (.cells #[.int .i64 323] 3)).cell? ⟨w6.heap.size, 0 + j, none⟩ = some (.int .i64 323) := by
          intro j hj
          obtain rfl : j = 0 := Nat.lt_one_iff.1 hj
          go_simp
        have hlf : ∀ j, j < 1 → (w6.alloc (.cells #[.int .i64 323] 3)).frozen? ⟨w6.heap.size, 0 + j, none⟩ = false := by
          intro j hj
          obtain rfl : j = 0 := Nat.lt_one_iff.1 hj
          go_simp
        have hlit : IsInts w6.heap.size (w6.heap.size + 1) (w6.alloc (.cells #[.int .i64 323] 3)) (.slice (some ⟨w6.heap.size, 0, none⟩) 1 1) 1 (fun _ => (323 : Int)) := ⟨some ⟨w6.heap.size, 0, none⟩, 1, rfl, by simp, .inr ⟨w6.heap.size, 0, rfl, by omega, by omega, hlc, hlf⟩⟩
        have HLI := Lib.hid hlit
        have hI6 := HI5.out.below (show Below w5.heap.size w5 (w6.alloc (.cells #[.int .i64 323] 3)) by (repeat (first | exact Below.refl _ _ | refine Below.setCell ?_ (by first | omega | (simp <;> omega)) _ | refine Below.alloc ?_ (by first | omega | (simp <;> omega)) _ | refine Below.drew ?_ | refine Below.trans ?_ (Below.mono (by assumption) (by first | omega | (simp <;> omega))) | refine Below.grown ?_ (by assumption) (by first | omega | (simp <;> omega)) (fun k e => by cases e; first | omega | (simp <;> omega))))) (Nat.le_refl _)
        have HI6 := Lib.hid hI6
        clear hlit hI6
        go_wp2_with fail
        refine (sameInts_same _ _ _ _ _ _ _ _ _ HI6.out HLI.out (by omega)).mono ?_
        rintro e w7 ⟨rfl, hh7⟩
        have hz7 := hh7.size
        try simp only [World.size_alloc] at hz7
        go_wp2
        go_ret
        exact ⟨rfl, HB.out.trans (show Below w.heap.size wr w7 by (repeat (first | exact Below.refl _ _ | refine Below.setCell ?_ (by first | omega | (simp <;> omega)) _ | refine Below.alloc ?_ (by first | omega | (simp <;> omega)) _ | refine Below.drew ?_ | refine Below.trans ?_ (Below.mono (by assumption) (by first | omega | (simp <;> omega))) | refine Below.grown ?_ (by assumption) (by first | omega | (simp <;> omega)) (fun k e => by cases e; first | omega | (simp <;> omega)))))⟩
end Go.Proofs.Ytmliglakfbeedaa
namespace Go.Proofs.Ytmliglakfbeedaa
open Go.RowKit
set_option maxHeartbeats 1000000 in
theorem fnExactSignOf_walk (n m : Int) (w : World) (_ : (Lit.int .i64 n).wf = true) (_ : (Lit.int .i64 m).wf = true) :
    Calls Try.prog 7 #[.int .i64 n, .int .i64 m] w fun e w' => e = .returned (.bool true) ∧ Below w.heap.size w w' := by
  go_enter Try.func7, Try.ntmps7
  go_wp2_with fail
  refine (specSign_any _ _ _).mono ?_
  rintro e wx ⟨rfl, rfl⟩
  go_wp2_with fail
  refine (implSign_any _ _ _).mono ?_
  rintro e w2 ⟨rfl, hh2⟩
  obtain ⟨hc2, hf2⟩ := bcell hh2
  have hz2 := hh2.size
  try simp only [World.size_alloc] at hz2
  clear hc2 hf2
  go_wp2
  go_ret
  exact ⟨rfl, by (repeat (first | exact Below.refl _ _ | refine Below.setCell ?_ (by first | omega | (simp <;> omega)) _ | refine Below.alloc ?_ (by first | omega | (simp <;> omega)) _ | refine Below.drew ?_ | refine Below.trans ?_ (Below.mono (by assumption) (by first | omega | (simp <;> omega))) | refine Below.grown ?_ (by assumption) (by first | omega | (simp <;> omega)) (fun k e => by cases e; first | omega | (simp <;> omega))))⟩
set_option maxHeartbeats 1000000 in
theorem fnExactPassesSecond_walk (a b n : Int) (w : World) (_ : (Lit.int .i64 a).wf = true) (_ : (Lit.int .i64 b).wf = true) (_ : (Lit.int .i64 n).wf = true) :
    Calls Try.prog 8 #[pr a b, .int .i64 n] w fun e w' => e = .returned (.bool true) ∧ Below w.heap.size w w' := by
  go_enter Try.func8, Try.ntmps8
  go_wp2_with fail
  refine (toPair_any _ _ _).mono ?_
  rintro e w1 ⟨rfl, hh1⟩
  obtain ⟨hc1, hf1⟩ := bcell hh1
  have hz1 := hh1.size
  try simp only [World.size_alloc] at hz1
  have hz1_0 : w.heap.size < w1.heap.size := by omega
  have kb1_0_0 : w1.cell? ⟨w.heap.size, 0, none⟩ = some (.int .i64 a) := by go_simp
  have kf1_0_0 : w1.frozen? ⟨w.heap.size, 0, none⟩ = false := by go_simp
  have kb1_0_1 : w1.cell? ⟨w.heap.size, 1, none⟩ = some (.int .i64 b) := by go_simp
  have kf1_0_1 : w1.frozen? ⟨w.heap.size, 1, none⟩ = false := by go_simp
  clear hc1 hf1
  go_wp2_with fail
  refine (specPassSecond_any _ _ _ _).mono ?_
  rintro e w2 ⟨rfl, hh2⟩
  obtain ⟨hc2, hf2⟩ := bcell hh2
  have hz2 := hh2.size
  try simp only [World.size_alloc] at hz2
  have hz2_0 : w.heap.size < w2.heap.size := by omega
  have kb2_0_0 : w2.cell? ⟨w.heap.size, 0, none⟩ = some (.int .i64 a) := by go_simp
  have kf2_0_0 : w2.frozen? ⟨w.heap.size, 0, none⟩ = false := by go_simp
  have kb2_0_1 : w2.cell? ⟨w.heap.size, 1, none⟩ = some (.int .i64 b) := by go_simp
  have kf2_0_1 : w2.frozen? ⟨w.heap.size, 1, none⟩ = false := by go_simp
  clear hc2 hf2
  go_wp2_with fail
  refine (toPair_any _ _ _).mono ?_
  rintro e w3 ⟨rfl, hh3⟩
  obtain ⟨hc3, hf3⟩ := bcell hh3
  have hz3 := hh3.size
  try simp only [World.size_alloc] at hz3
  have hz3_0 : w.heap.size < w3.heap.size := by omega
  have kb3_0_0 : w3.cell? ⟨w.heap.size, 0, none⟩ = some (.int .i64 a) := by go_simp
  have kf3_0_0 : w3.frozen? ⟨w.heap.size, 0, none⟩ = false := by go_simp
  have kb3_0_1 : w3.cell? ⟨w.heap.size, 1, none⟩ = some (.int .i64 b) := by go_simp
  have kf3_0_1 : w3.frozen? ⟨w.heap.size, 1, none⟩ = false := by go_simp
  clear hc3 hf3
  go_wp2_with fail
  refine (implPassSecond_any _ _ _ _).mono ?_
  rintro e w4 ⟨rfl, hh4⟩
  obtain ⟨hc4, hf4⟩ := bcell hh4
  have hz4 := hh4.size
  try simp only [World.size_alloc] at hz4
  have hz4_0 : w.heap.size < w4.heap.size := by omega
  have kb4_0_0 : w4.cell? ⟨w.heap.size, 0, none⟩ = some (.int .i64 a) := by go_simp
  have kf4_0_0 : w4.frozen? ⟨w.heap.size, 0, none⟩ = false := by go_simp
  have kb4_0_1 : w4.cell? ⟨w.heap.size, 1, none⟩ = some (.int .i64 b) := by go_simp
  have kf4_0_1 : w4.frozen? ⟨w.heap.size, 1, none⟩ = false := by go_simp
  clear hc4 hf4
  go_wp2
  go_ret
  exact ⟨rfl, by (repeat (first | exact Below.refl _ _ | refine Below.setCell ?_ (by first | omega | (simp <;> omega)) _ | refine Below.alloc ?_ (by first | omega | (simp <;> omega)) _ | refine Below.drew ?_ | refine Below.trans ?_ (Below.mono (by assumption) (by first | omega | (simp <;> omega))) | refine Below.grown ?_ (by assumption) (by first | omega | (simp <;> omega)) (fun k e => by cases e; first | omega | (simp <;> omega))))⟩
set_option maxHeartbeats 1000000 in
theorem fnExactPassesFirst_walk (a b n : Int) (w : World) (_ : (Lit.int .i64 a).wf = true) (_ : (Lit.int .i64 b).wf = true) (_ : (Lit.int .i64 n).wf = true) :
    Calls Try.prog 9 #[pr a b, .int .i64 n] w fun e w' => e = .returned (.bool true) ∧ Below w.heap.size w w' := by
  go_enter Try.func9, Try.ntmps9
  go_wp2_with fail
  refine (toPair_any _ _ _).mono ?_
  rintro e w1 ⟨rfl, hh1⟩
  obtain ⟨hc1, hf1⟩ := bcell hh1
  have hz1 := hh1.size
  try simp only [World.size_alloc] at hz1
  have hz1_0 : w.heap.size < w1.heap.size := by omega
  have kb1_0_0 : w1.cell? ⟨w.heap.size, 0, none⟩ = some (.int .i64 a) := by go_simp
  have kf1_0_0 : w1.frozen? ⟨w.heap.size, 0, none⟩ = false := by go_simp
  have kb1_0_1 : w1.cell? ⟨w.heap.size, 1, none⟩ = some (.int .i64 b) := by go_simp
  have kf1_0_1 : w1.frozen? ⟨w.heap.size, 1, none⟩ = false := by go_simp
  clear hc1 hf1
  go_wp2_with fail
  refine (specPassFirst_any _ _ _ _).mono ?_
  rintro e w2 ⟨rfl, hh2⟩
  obtain ⟨hc2, hf2⟩ := bcell hh2
  have hz2 := hh2.size
  try simp only [World.size_alloc] at hz2
  have hz2_0 : w.heap.size < w2.heap.size := by omega
  have kb2_0_0 : w2.cell? ⟨w.heap.size, 0, none⟩ = some (.int .i64 a) := by go_simp
  have kf2_0_0 : w2.frozen? ⟨w.heap.size, 0, none⟩ = false := by go_simp
  have kb2_0_1 : w2.cell? ⟨w.heap.size, 1, none⟩ = some (.int .i64 b) := by go_simp
  have kf2_0_1 : w2.frozen? ⟨w.heap.size, 1, none⟩ = false := by go_simp
  clear hc2 hf2
  go_wp2_with fail
  refine (toPair_any _ _ _).mono ?_
  rintro e w3 ⟨rfl, hh3⟩
  obtain ⟨hc3, hf3⟩ := bcell hh3
  have hz3 := hh3.size
  try simp only [World.size_alloc] at hz3
  have hz3_0 : w.heap.size < w3.heap.size := by omega
  have kb3_0_0 : w3.cell? ⟨w.heap.size, 0, none⟩ = some (.int .i64 a) := by go_simp
  have kf3_0_0 : w3.frozen? ⟨w.heap.size, 0, none⟩ = false := by go_simp
  have kb3_0_1 : w3.cell? ⟨w.heap.size, 1, none⟩ = some (.int .i64 b) := by go_simp
  have kf3_0_1 : w3.frozen? ⟨w.heap.size, 1, none⟩ = false := by go_simp
  clear hc3 hf3
  go_wp2_with fail
  refine (implPassFirst_any _ _ _ _).mono ?_
  rintro e w4 ⟨rfl, hh4⟩
  obtain ⟨hc4, hf4⟩ := bcell hh4
  have hz4 := hh4.size
  try simp only [World.size_alloc] at hz4
  have hz4_0 : w.heap.size < w4.heap.size := by omega
  have kb4_0_0 : w4.cell? ⟨w.heap.size, 0, none⟩ = some (.int .i64 a) := by go_simp
  have kf4_0_0 : w4.frozen? ⟨w.heap.size, 0, none⟩ = false := by go_simp
  have kb4_0_1 : w4.cell? ⟨w.heap.size, 1, none⟩ = some (.int .i64 b) := by go_simp
  have kf4_0_1 : w4.frozen? ⟨w.heap.size, 1, none⟩ = false := by go_simp
  clear hc4 hf4
  go_wp2
  go_ret
  exact ⟨rfl, by (repeat (first | exact Below.refl _ _ | refine Below.setCell ?_ (by first | omega | (simp <;> omega)) _ | refine Below.alloc ?_ (by first | omega | (simp <;> omega)) _ | refine Below.drew ?_ | refine Below.trans ?_ (Below.mono (by assumption) (by first | omega | (simp <;> omega))) | refine Below.grown ?_ (by assumption) (by first | omega | (simp <;> omega)) (fun k e => by cases e; first | omega | (simp <;> omega))))⟩
set_option maxRecDepth 100000 in
set_option maxHeartbeats 4000000 in
theorem fnExactPassingFirst_walk (a b n : Int) (w : World) (_ : (Lit.int .i64 a).wf = true) (_ : (Lit.int .i64 b).wf = true) (_ : (Lit.int .i64 n).wf = true) :
    Calls Try.prog 10 #[pr a b, .int .i64 n] w fun e w' => e = .returned (.bool true) ∧ Below w.heap.size w w' := by
  have hN : (passingL a b n).length ≤ 1000000 := Nat.le_trans (passingL_len a b n) (by omega)
  go_enter Try.func10, Try.ntmps10
  go_wp2_with fail
  refine (toPair_any _ _ _).mono ?_
  rintro e w1 ⟨rfl, hh1⟩
  obtain ⟨hc1, hf1⟩ := bcell hh1
  have hz1 := hh1.size
  try simp only [World.size_alloc] at hz1
  have hz1_0 : w.heap.size < w1.heap.size := by omega
  have kb1_0_0 : w1.cell? ⟨w.heap.size, 0, none⟩ = some (.int .i64 a) := by go_simp
  have kf1_0_0 : w1.frozen? ⟨w.heap.size, 0, none⟩ = false := by go_simp
  have kb1_0_1 : w1.cell? ⟨w.heap.size, 1, none⟩ = some (.int .i64 b) := by go_simp
  have kf1_0_1 : w1.frozen? ⟨w.heap.size, 1, none⟩ = false := by go_simp
  clear hc1 hf1
  go_wp2_with fail
  refine (specPassing_any _ _ _ _).mono ?_
  rintro e w2 ⟨u2, rfl, hI2, hh2⟩
  obtain ⟨hc2, hf2⟩ := bcell hh2
  have hz2 := hh2.size
  try simp only [World.size_alloc] at hz2
  have hz2_0 : w.heap.size < w2.heap.size := by omega
  have kb2_0_0 : w2.cell? ⟨w.heap.size, 0, none⟩ = some (.int .i64 a) := by go_simp
  have kf2_0_0 : w2.frozen? ⟨w.heap.size, 0, none⟩ = false := by go_simp
  have kb2_0_1 : w2.cell? ⟨w.heap.size, 1, none⟩ = some (.int .i64 b) := by go_simp
  have kf2_0_1 : w2.frozen? ⟨w.heap.size, 1, none⟩ = false := by go_simp
  clear hc2 hf2
  go_wp2_with fail
  refine (toPair_any _ _ _).mono ?_
  rintro e w3 ⟨rfl, hh3⟩
  obtain ⟨hc3, hf3⟩ := bcell hh3
  have hz3 := hh3.size
  try simp only [World.size_alloc] at hz3
  have hz3_0 : w.heap.size < w3.heap.size := by omega
  have kb3_0_0 : w3.cell? ⟨w.heap.size, 0, none⟩ = some (.int .i64 a) := by go_simp
  have kf3_0_0 : w3.frozen? ⟨w.heap.size, 0, none⟩ = false := by go_simp
  have kb3_0_1 : w3.cell? ⟨w.heap.size, 1, none⟩ = some (.int .i64 b) := by go_simp
  have kf3_0_1 : w3.frozen? ⟨w.heap.size, 1, none⟩ = false := by go_simp
  clear hc3 hf3
  go_wp2_with fail
  refine (implPassing_any _ _ _ _).mono ?_
  rintro e w4 ⟨u4, rfl, hI4, hh4⟩
  obtain ⟨hc4, hf4⟩ := bcell hh4
  have hz4 := hh4.size
  try simp only [World.size_alloc] at hz4
  have hz4_0 : w.heap.size < w4.heap.size := by omega
  have kb4_0_0 : w4.cell? ⟨w.heap.size, 0, none⟩ = some (.int .i64 a) := by go_simp
  have kf4_0_0 : w4.frozen? ⟨w.heap.size, 0, none⟩ = false := by go_simp
  have kb4_0_1 : w4.cell? ⟨w.heap.size, 1, none⟩ = some (.int .i64 b) := by go_simp
  have kf4_0_1 : w4.frozen? ⟨w.heap.size, 1, none⟩ = false := by go_simp
  clear hc4 hf4
  go_wp2_with fail
  refine (eqIntS_same _ _ _ _ _ _ _ _ _ hI4 (hI2.below (show Below w2.heap.size w2 w4 by (repeat (first | exact Below.refl _ _ | refine Below.setCell ?_ (by first | omega | (simp <;> omega)) _ | refine Below.alloc ?_ (by first | omega | (simp <;> omega)) _ | refine Below.drew ?_ | refine Below.trans ?_ (Below.mono (by assumption) (by first | omega | (simp <;> omega))) | refine Below.grown ?_ (by assumption) (by first | omega | (simp <;> omega)) (fun k e => by cases e; first | omega | (simp <;> omega))))) (Nat.le_refl _)) hN).mono ?_
  rintro e w5 ⟨rfl, hh5⟩
  obtain ⟨hc5, hf5⟩ := bcell hh5
  have hz5 := hh5.size
  try simp only [World.size_alloc] at hz5
  have hz5_0 : w.heap.size < w5.heap.size := by omega
  have kb5_0_0 : w5.cell? ⟨w.heap.size, 0, none⟩ = some (.int .i64 a) := by go_simp
  have kf5_0_0 : w5.frozen? ⟨w.heap.size, 0, none⟩ = false := by go_simp
  have kb5_0_1 : w5.cell? ⟨w.heap.size, 1, none⟩ = some (.int .i64 b) := by go_simp
  have kf5_0_1 : w5.frozen? ⟨w.heap.size, 1, none⟩ = false := by go_simp
  clear hc5 hf5
  go_wp2_with fail
  refine (markIntS_any _ _ _ _ _ 1 _ (hI4.below (show Below w4.heap.size w4 w5 by exact hh5) (Nat.le_refl _)) hN (by omega) (by omega)).mono ?_
  rintro e w6 ⟨rfl, hI6, hM6⟩
  have hz6 : w6.heap.size = w5.heap.size := hM6.1
  have kb6_0_0 : w6.cell? ⟨w.heap.size, 0, none⟩ = some (.int .i64 a) := by
    obtain ⟨_, row, hg, hr⟩ := hM6
    exact (hg.cell_far ⟨w.heap.size, 0, none⟩ (by show w.heap.size < _; omega) (fun e => by have := hr w.heap.size e.symm; omega)).trans kb5_0_0
  have kb6_0_1 : w6.cell? ⟨w.heap.size, 1, none⟩ = some (.int .i64 b) := by
    obtain ⟨_, row, hg, hr⟩ := hM6
    exact (hg.cell_far ⟨w.heap.size, 1, none⟩ (by show w.heap.size < _; omega) (fun e => by have := hr w.heap.size e.symm; omega)).trans kb5_0_1
  have kf6_0_0 : w6.frozen? ⟨w.heap.size, 0, none⟩ = false := by
    obtain ⟨_, row, hg, hr⟩ := hM6
    exact (hg.frozen_far ⟨w.heap.size, 0, none⟩ (by show w.heap.size < _; omega) (fun e => by have := hr w.heap.size e.symm; omega)).trans kf5_0_0
  have kf6_0_1 : w6.frozen? ⟨w.heap.size, 1, none⟩ = false := by
    obtain ⟨_, row, hg, hr⟩ := hM6
    exact (hg.frozen_far ⟨w.heap.size, 1, none⟩ (by show w.heap.size < _; omega) (fun e => by have := hr w.heap.size e.symm; omega)).trans kf5_0_1
  have hB6 : Below w3.heap.size w3 w6 := below_marked (show Below w3.heap.size w3 w5 by (repeat (first | exact Below.refl _ _ | refine Below.setCell ?_ (by first | omega | (simp <;> omega)) _ | refine Below.alloc ?_ (by first | omega | (simp <;> omega)) _ | refine Below.drew ?_ | refine Below.trans ?_ (Below.mono (by assumption) (by first | omega | (simp <;> omega))) | refine Below.grown ?_ (by assumption) (by first | omega | (simp <;> omega)) (fun k e => by cases e; first | omega | (simp <;> omega))))) hM6 (Nat.le_refl _) (by omega)
  have hIb := (hI2.below (show Below w2.heap.size w2 w5 by (repeat (first | exact Below.refl _ _ | refine Below.setCell ?_ (by first | omega | (simp <;> omega)) _ | refine Below.alloc ?_ (by first | omega | (simp <;> omega)) _ | refine Below.drew ?_ | refine Below.trans ?_ (Below.mono (by assumption) (by first | omega | (simp <;> omega))) | refine Below.grown ?_ (by assumption) (by first | omega | (simp <;> omega)) (fun k e => by cases e; first | omega | (simp <;> omega))))) (Nat.le_refl _)).marked hM6 (by omega)
  clear hM6
  go_wp2_with fail
  refine (heldIntS_any _ _ _ _ 1 _ hI6 hN (by omega) (by omega)).mono ?_
  rintro e wx ⟨rfl, rfl⟩
  go_wp2_with fail
  refine (toPair_any _ _ _).mono ?_
  rintro e w7 ⟨rfl, hh7⟩
  obtain ⟨hc7, hf7⟩ := bcell hh7
  have hz7 := hh7.size
  try simp only [World.size_alloc] at hz7
  have hz7_0 : w.heap.size < w7.heap.size := by omega
  have kb7_0_0 : w7.cell? ⟨w.heap.size, 0, none⟩ = some (.int .i64 a) := by go_simp
  have kf7_0_0 : w7.frozen? ⟨w.heap.size, 0, none⟩ = false := by go_simp
  have kb7_0_1 : w7.cell? ⟨w.heap.size, 1, none⟩ = some (.int .i64 b) := by go_simp
  have kf7_0_1 : w7.frozen? ⟨w.heap.size, 1, none⟩ = false := by go_simp
  clear hc7 hf7
  go_wp2_with fail
  refine (implPassing_any _ _ _ _).mono ?_
  rintro e w8 ⟨u8, rfl, hI8, hh8⟩
  obtain ⟨hc8, hf8⟩ := bcell hh8
  have hz8 := hh8.size
  try simp only [World.size_alloc] at hz8
  have hz8_0 : w.heap.size < w8.heap.size := by omega
  have kb8_0_0 : w8.cell? ⟨w.heap.size, 0, none⟩ = some (.int .i64 a) := by go_simp
  have kf8_0_0 : w8.frozen? ⟨w.heap.size, 0, none⟩ = false := by go_simp
  have kb8_0_1 : w8.cell? ⟨w.heap.size, 1, none⟩ = some (.int .i64 b) := by go_simp
  have kf8_0_1 : w8.frozen? ⟨w.heap.size, 1, none⟩ = false := by go_simp
  clear hc8 hf8
  go_wp2_with fail
  refine (eqIntS_same _ _ _ _ _ _ _ _ _ hI8 (hIb.below (show Below w6.heap.size w6 w8 by (repeat (first | exact Below.refl _ _ | refine Below.setCell ?_ (by first | omega | (simp <;> omega)) _ | refine Below.alloc ?_ (by first | omega | (simp <;> omega)) _ | refine Below.drew ?_ | refine Below.trans ?_ (Below.mono (by assumption) (by first | omega | (simp <;> omega))) | refine Below.grown ?_ (by assumption) (by first | omega | (simp <;> omega)) (fun k e => by cases e; first | omega | (simp <;> omega))))) (by omega)) hN).mono ?_
  rintro e w9 ⟨rfl, hh9⟩
  obtain ⟨hc9, hf9⟩ := bcell hh9
  have hz9 := hh9.size
  try simp only [World.size_alloc] at hz9
  have hz9_0 : w.heap.size < w9.heap.size := by omega
  have kb9_0_0 : w9.cell? ⟨w.heap.size, 0, none⟩ = some (.int .i64 a) := by go_simp
  have kf9_0_0 : w9.frozen? ⟨w.heap.size, 0, none⟩ = false := by go_simp
  have kb9_0_1 : w9.cell? ⟨w.heap.size, 1, none⟩ = some (.int .i64 b) := by go_simp
  have kf9_0_1 : w9.frozen? ⟨w.heap.size, 1, none⟩ = false := by go_simp
  clear hc9 hf9
  go_wp2_with fail
  refine (heldIntS_any _ _ _ _ 1 _ (hI6.below (show Below w6.heap.size w6 w9 by (repeat (first | exact Below.refl _ _ | refine Below.setCell ?_ (by first | omega | (simp <;> omega)) _ | refine Below.alloc ?_ (by first | omega | (simp <;> omega)) _ | refine Below.drew ?_ | refine Below.trans ?_ (Below.mono (by assumption) (by first | omega | (simp <;> omega))) | refine Below.grown ?_ (by assumption) (by first | omega | (simp <;> omega)) (fun k e => by cases e; first | omega | (simp <;> omega))))) (by omega)) hN (by omega) (by omega)).mono ?_
  rintro e wx ⟨rfl, rfl⟩
  go_wp2
  go_ret
  exact ⟨rfl, by (repeat (first | exact Below.refl _ _ | refine Below.setCell ?_ (by first | omega | (simp <;> omega)) _ | refine Below.alloc ?_ (by first | omega | (simp <;> omega)) _ | refine Below.drew ?_ | refine Below.trans ?_ (Below.mono (by assumption) (by first | omega | (simp <;> omega))) | refine Below.grown ?_ (by assumption) (by first | omega | (simp <;> omega)) (fun k e => by cases e; first | omega | (simp <;> omega))))⟩
end Go.Proofs.Ytmliglakfbeedaa
