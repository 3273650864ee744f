/- Contracts and laws that the statement's proof stands on, one text behind the other. -/
import Derived.Test.YtfihmcpigbpgpaaAll2
import Derived.Test.YtfihmcpigbpgpaaHvOftenImpl

namespace Go.Proofs.Ytfihmcpigbpgpaa
open Go.RowKit
theorem implTimesIn_is (n p v : Int) (w : World) (hv : timesInV n p = v) : Calls Try.prog 12 #[.int .i64 n, .int .i64 p] w fun e w' => e = .returned (.int .i64 v) ∧ Below w.heap.size w w' := by rw [← hv]; exact implTimesIn_any n p w
theorem implFib_is (p v : Int) (w : World) (hv : fibRankV p = v) : Calls Try.prog 17 #[.int .i64 p] w fun e w' => e = .returned (.int .i64 v) ∧ Below w.heap.size w w' := by rw [← hv]; exact implFib_any p w
theorem implTimesAt_is (n p v : Int) (w : World) (hv : timesAtV n p = v) : Calls Try.prog 21 #[.int .i64 n, .int .i64 p] w fun e w' => e = .returned (.int .i64 v) ∧ Below w.heap.size w w' := by rw [← hv]; exact implTimesAt_any n p w
theorem implPowRank_is (p k v : Int) (w : World) (hv : powerV p k = v) : Calls Try.prog 25 #[.int .i64 p, .int .i64 k] w fun e w' => e = .returned (.int .i64 v) ∧ Below w.heap.size w w' := by rw [← hv]; exact implPowRank_any p k w
set_option maxHeartbeats 1000000 in
theorem powerOf_nat (a m : Nat) (w : World) (h1 : 1 ≤ a) (h9 : a ^ m ≤ 10000000000000000) (hm : m ≤ 100) (v : Int) (hv : ((a ^ m : Nat) : Int) = v) :
    Calls Try.prog 15 #[.int .i64 a, .int .i64 m] w fun e w' => e = .returned (.int .i64 v) ∧ w = w' := by
  have HV := Lib.hid hv
  clear hv
  go_enter Try.func15, Try.ntmps15
  go_wp2_with fail
  go_loop [5, 6] (fun x y => ∃ i : Nat, i ≤ m ∧ x = .int .i64 ((a ^ i : Nat) : Int) ∧ y = .int .i64 i) (fun _ y => 101 - (intOf y).toNat)
  case atStart => exact ⟨0, by omega, congrArg (Value.int .i64) (by simp), rfl⟩
  case round =>
    obtain ⟨i, hi, rfl, rfl⟩ := hrel
    by_cases hlt : i < m
    · have hlti : (i : Int) < (m : Int) := by omega
      have hb : a ^ (i + 1) ≤ 10000000000000000 := Nat.le_trans (Nat.pow_le_pow_right h1 hlt) h9
      have hmul : a ^ i * a = a ^ (i + 1) := (Nat.pow_succ a i).symm
      obtain ⟨y, hy⟩ : ∃ y, a ^ i = y := ⟨_, rfl⟩
      obtain ⟨z, hz⟩ : ∃ z, a ^ (i + 1) = z := ⟨_, rfl⟩
      rw [hy, hz] at hmul
      rw [hz] at hb
      rw [hy]
      have HZ := Lib.hid hz
      have HM := Lib.hid (show (y : Int) * (a : Int) = (z : Int) by rw [← hmul]; simp)
      have U : IntKind.i64.wrap ((y : Int) * (a : Int)) = (z : Int) := by rw [HM.out, IntKind.wrap_i64]; omega
      clear hy hz hmul
      go_wp2
      go_round
      case rel => exact ⟨i + 1, by omega, by rw [HZ.out], congrArg (Value.int .i64) (by omega)⟩
      case measure => simp [intOf]; omega
    · obtain rfl : i = m := by omega
      obtain ⟨y, hy⟩ : ∃ y, ((a ^ i : Nat) : Int) = y := ⟨_, rfl⟩
      have HY := Lib.hid (show y = v by rw [← hy]; exact HV.out)
      rw [hy]
      clear hy
      go_wp2
      go_ret
      exact ⟨ret_int HY.out, rfl⟩
end Go.Proofs.Ytfihmcpigbpgpaa
namespace Go.Proofs.Ytfihmcpigbpgpaa
open Go.RowKit
set_option maxRecDepth 100000 in
set_option maxHeartbeats 8000000 in
theorem fnTimesIn_walk (a : Option Addr) (len cap : Nat) (z : List Int) (w : World) (w0 : IsRow w a len cap z) :
    Calls Try.prog 3 #[.slice a len cap] w fun e w' => e = .returned (.bool true) ∧ Below w.heap.size w w' := by
  by_cases hbig : 1048576 < len
  · go_enter Try.func3, Try.ntmps3
    go_wp2
    go_ret
    exact ⟨rfl, Below.refl _ _⟩
  · have hsm : len ≤ 1048576 := by omega
    go_enter Try.func3, Try.ntmps3
    go_wp2_with fail
    refine (drawTimesIn_any _ _ _ _ z w0).mono ?_
    rintro e w1 ⟨n, p, rfl, hh1⟩
    have hz1 := hh1.size
    obtain ⟨hc1, hf1⟩ := bcell hh1
    cases hb : timesInB n p with
    | false =>
      have HV := Lib.hid (timesInV_no hb)
      clear hb
      go_wp2_with fail
      refine (implTimesIn_is n p (-1) _ HV.out).mono ?_
      rintro e w2 ⟨rfl, hh2⟩
      obtain ⟨hc2, hf2⟩ := bcell hh2
      have hz2 := hh2.size
      try simp only [World.size_alloc] at hz2
      clear hc2 hf2
      go_wp2_with fail
      refine (specTimesIn_is n p (-1) _ HV.out).mono ?_
      rintro e wx ⟨rfl, rfl⟩
      go_wp2_with fail
      refine (alive_any _).mono ?_
      rintro e w3 ⟨rfl, hh3⟩
      obtain ⟨hc3, hf3⟩ := bcell hh3
      have hz3 := hh3.size
      try simp only [World.size_alloc] at hz3
      clear hc3 hf3
      go_wp2
      go_ret
      exact ⟨rfl, by (repeat (first | exact Below.refl _ _ | refine Below.setCell ?_ (by first | omega | (simp <;> omega)) _ | refine Below.alloc ?_ (by first | omega | (simp <;> omega)) _ | refine Below.drew ?_ | refine Below.trans ?_ (Below.mono (by assumption) (by first | omega | (simp <;> omega))) | refine Below.grown ?_ (by assumption) (by first | omega | (simp <;> omega)) (fun k e => by cases e; first | omega | (simp <;> omega))))⟩
    | true =>
      obtain ⟨m, k, rfl, rfl, hm, m1, m2, k1, k2⟩ := timesInB_true hb
      have hV := timesInV_is hb
      have hall := fun c (c1 : 1 ≤ c) (c2 : c ≤ 1000000000) => timesInV_is (timesInB_mk (n := c) (p := m) hm c1 c2)
      have hmul := fun c (c1 : 1 ≤ c) (c2 : c * k ≤ 1000000000) => vp_mul (p := m) hm c1 k1 (show c * k < 2 ^ 50 by omega)
      have hdv := fun j => vp_iff m1 k1 (show k < 2 ^ 50 by omega) j
      have hv5 := vp_le m k
      obtain ⟨v, hv⟩ : ∃ v, vp m k = v := ⟨_, rfl⟩
      rw [hv] at hV hmul hv5 hdv
      have HV := Lib.hid hV
      have HALL := Lib.hid hall
      have HMUL := Lib.hid hmul
      have hpv : m ^ v ∣ k := (hdv v).2 (Nat.le_refl _)
      have hnv : ¬ m ^ (v + 1) ∣ k := fun h => by have := (hdv (v + 1)).1 h; omega
      have hple : m ^ v ≤ k := Nat.le_of_dvd k1 hpv
      have hple2 : m ^ (v + 1) ≤ 31000000000 := by
        rw [Nat.pow_succ]
        exact Nat.le_trans (Nat.mul_le_mul hple m2) (by omega)
      have hp1 : 0 < m ^ v := Nat.pow_pos (by omega)
      have hp2 : 0 < m ^ (v + 1) := Nat.pow_pos (by omega)
      obtain ⟨x, hx⟩ : ∃ x, m ^ v = x := ⟨_, rfl⟩
      obtain ⟨y, hy⟩ : ∃ y, m ^ (v + 1) = y := ⟨_, rfl⟩
      have HX := Lib.hid hx
      have HY := Lib.hid hy
      rw [hx] at hpv hple hp1
      rw [hy] at hnv hple2 hp2
      have hD1 : (k : Int) % (x : Int) = 0 := Int.emod_eq_zero_of_dvd (Int.natCast_dvd_natCast.2 hpv)
      obtain ⟨z, hz, hD2⟩ := left_some k y
      have hz0 : ((z : Int) != 0) = true := by
        have : z ≠ 0 := fun h => hnv (Nat.dvd_of_mod_eq_zero (by rw [hz]; exact h))
        simp; omega
      have hxz : ((x : Int) == 0) = false := by simp; omega
      have hyz : ((y : Int) == 0) = false := by simp; omega
      have hvi : (0 : Int) ≤ (v : Int) := by omega
      clear hb hV hall hmul hdv hv hpv hnv hx hy hz
      go_wp2_with fail
      refine (implTimesIn_is k m v _ HV.out).mono ?_
      rintro e w2 ⟨rfl, hh2⟩
      obtain ⟨hc2, hf2⟩ := bcell hh2
      have hz2 := hh2.size
      try simp only [World.size_alloc] at hz2
      clear hc2 hf2
      go_wp2_with fail
      refine (specTimesIn_is k m v _ HV.out).mono ?_
      rintro e wx ⟨rfl, rfl⟩
      go_wp2_with fail
      go_loopw [6] (fun c wr => ∃ j : Nat, 2 ≤ j ∧ j ≤ 10 ∧ c = .int .i64 j ∧ Below w2.heap.size w2 wr) (fun c _ => 20 - (intOf c).toNat)
      case atStart => exact ⟨2, by omega, by omega, rfl, Below.refl _ _⟩
      case round =>
        obtain ⟨j, j1, j2, rfl, hB⟩ := hrel
        by_cases h9 : j ≤ 9
        · have h9i : (j : Int) ≤ 9 := by omega
          obtain ⟨t, ht⟩ : ∃ t, j * k = t := ⟨_, rfl⟩
          have htb : t ≤ 9000000000 := by rw [← ht]; exact Nat.mul_le_mul h9 k2
          have ht1 : 1 ≤ t := by rw [← ht]; exact Nat.mul_pos (by omega) (by omega)
          have hT : (j : Int) * (k : Int) = (t : Int) := by rw [← ht]; simp
          by_cases hle : t ≤ 1000000000
          · have hlei : (t : Int) ≤ 1000000000 := by omega
            have hm2 := HMUL.out j (by omega) (by rw [ht]; exact hle)
            rw [ht] at hm2
            have h3 := vp_le m j
            have HJ := Lib.hid (HALL.out j (by omega) (by omega))
            have HT := Lib.hid (HALL.out t ht1 hle)
            obtain ⟨u, hu⟩ : ∃ u, vp m j = u := ⟨_, rfl⟩
            rw [hu] at hm2 h3 HJ
            rw [hm2] at HT
            have hsum : (((u + v : Nat) : Int) != (v : Int) + (u : Int)) = false := by simp; omega
            clear ht hu hm2
            go_wp2_with fail
            refine (implTimesIn_is t m _ _ HT.out).mono ?_
            rintro e w3 ⟨rfl, hh3⟩
            go_wp2_with fail
            refine (implTimesIn_is j m _ _ HJ.out).mono ?_
            rintro e w4 ⟨rfl, hh4⟩
            have hB4 := (hB.trans (hh3.mono hB.size)).trans (hh4.mono (Nat.le_trans hB.size hh3.size))
            clear hh3 hh4 hB
            go_wp2
            go_roundw
            case rel => exact ⟨j + 1, by omega, by omega, congrArg (Value.int .i64) (by omega), hB4⟩
            case measure => simp [intOf]; omega
          · have hlei : 1000000000 < (t : Int) := by omega
            clear ht
            go_wp2
            go_roundw
            case rel => exact ⟨j + 1, by omega, by omega, congrArg (Value.int .i64) (by omega), hB⟩
            case measure => simp [intOf]; omega
        · have h9i : 9 < (j : Int) := by omega
          go_wp2_with fail
          refine (powerOf_nat m v _ (by omega) (by rw [HX.out]; omega) (by omega) x (by rw [HX.out])).mono ?_
          rintro e wx ⟨rfl, rfl⟩
          go_wp2_with fail
          refine (powerOf_nat m (v + 1) _ (by omega) (by rw [HY.out]; omega) (by omega) y (by rw [HY.out])).mono ?_
          rintro e wx ⟨rfl, rfl⟩
          have hB2 : Below w.heap.size w wr := (hh1.trans (hh2.mono hh1.size)).trans (hB.mono (Nat.le_trans hh1.size hh2.size))
          go_wp2
          go_ret
          exact ⟨rfl, hB2⟩
end Go.Proofs.Ytfihmcpigbpgpaa
namespace Go.Proofs.Ytfihmcpigbpgpaa
open Go.RowKit
set_option maxRecDepth 100000 in
set_option maxHeartbeats 8000000 in
theorem fnFibRank_walk (a : Option Addr) (len cap : Nat) (z : List Int) (w : World) (w0 : IsRow w a len cap z) :
    Calls Try.prog 4 #[.slice a len cap] w fun e w' => e = .returned (.bool true) ∧ Below w.heap.size w w' := by
  by_cases hbig : 1048576 < len
  · go_enter Try.func4, Try.ntmps4
    go_wp2
    go_ret
    exact ⟨rfl, Below.refl _ _⟩
  · have hsm : len ≤ 1048576 := by omega
    go_enter Try.func4, Try.ntmps4
    go_wp2_with fail
    refine (drawFibRank_any _ _ _ _ z w0).mono ?_
    rintro e w1 ⟨p, rfl, hh1⟩
    have hz1 := hh1.size
    obtain ⟨hc1, hf1⟩ := bcell hh1
    cases hb : fewB p with
    | false =>
      have HV := Lib.hid (fibRankV_no hb)
      clear hb
      go_wp2_with fail
      refine (implFib_is p (-1) _ HV.out).mono ?_
      rintro e w2 ⟨rfl, hh2⟩
      obtain ⟨hc2, hf2⟩ := bcell hh2
      have hz2 := hh2.size
      try simp only [World.size_alloc] at hz2
      clear hc2 hf2
      go_wp2_with fail
      refine (specFib_is p (-1) _ HV.out).mono ?_
      rintro e w3 ⟨rfl, hh3⟩
      obtain ⟨hc3, hf3⟩ := bcell hh3
      have hz3 := hh3.size
      try simp only [World.size_alloc] at hz3
      clear hc3 hf3
      go_wp2_with fail
      refine (alive_any _).mono ?_
      rintro e w4 ⟨rfl, hh4⟩
      obtain ⟨hc4, hf4⟩ := bcell hh4
      have hz4 := hh4.size
      try simp only [World.size_alloc] at hz4
      clear hc4 hf4
      go_wp2
      go_ret
      exact ⟨rfl, by (repeat (first | exact Below.refl _ _ | refine Below.setCell ?_ (by first | omega | (simp <;> omega)) _ | refine Below.alloc ?_ (by first | omega | (simp <;> omega)) _ | refine Below.drew ?_ | refine Below.trans ?_ (Below.mono (by assumption) (by first | omega | (simp <;> omega))) | refine Below.grown ?_ (by assumption) (by first | omega | (simp <;> omega)) (fun k e => by cases e; first | omega | (simp <;> omega))))⟩
    | true =>
      obtain ⟨m, rfl, hm, m1, m2⟩ := fewB_true hb
      have hV := fibRankV_is hm
      obtain ⟨hrb, hrv⟩ := rank_fib hm
      have hbe := rank_beside hm
      have hr1 := fibRk_pos m
      have hr30 : fibRk m ≤ 30 := by rw [fibRk]; repeat (first | omega | split)
      obtain ⟨r, hr⟩ : ∃ r, fibRk m = r := ⟨_, rfl⟩
      rw [hr] at hV hrv hbe hr1 hr30
      have HV := Lib.hid hV
      have HRV := Lib.hid hrv
      have HRB := Lib.hid hrb
      have hrz : ((r : Int) == 0) = false := by simp; omega
      have hr1i : (1 : Int) ≤ (r : Int) := by omega
      clear hb hV hrb hrv hr
      rcases hbe with ⟨hme, hre⟩ | ⟨hme, hre⟩ | ⟨hn2, hn5, hor⟩
      · subst hme
        subst hre
        go_wp2_with fail
        refine (implFib_is 2 3 _ HV.out).mono ?_
        rintro e w2 ⟨rfl, hh2⟩
        obtain ⟨hc2, hf2⟩ := bcell hh2
        have hz2 := hh2.size
        try simp only [World.size_alloc] at hz2
        clear hc2 hf2
        go_wp2_with fail
        refine (specFib_is 2 3 _ HV.out).mono ?_
        rintro e w3 ⟨rfl, hh3⟩
        obtain ⟨hc3, hf3⟩ := bcell hh3
        have hz3 := hh3.size
        try simp only [World.size_alloc] at hz3
        clear hc3 hf3
        go_wp2_with fail
        refine (implRank_is 1 (-1) 2 3 true _ HRV.out HRB.out).mono ?_
        rintro e w4 ⟨rfl, hh4⟩
        obtain ⟨hc4, hf4⟩ := bcell hh4
        have hz4 := hh4.size
        try simp only [World.size_alloc] at hz4
        clear hc4 hf4
        go_wp2
        go_ret
        exact ⟨rfl, by (repeat (first | exact Below.refl _ _ | refine Below.setCell ?_ (by first | omega | (simp <;> omega)) _ | refine Below.alloc ?_ (by first | omega | (simp <;> omega)) _ | refine Below.drew ?_ | refine Below.trans ?_ (Below.mono (by assumption) (by first | omega | (simp <;> omega))) | refine Below.grown ?_ (by assumption) (by first | omega | (simp <;> omega)) (fun k e => by cases e; first | omega | (simp <;> omega))))⟩
      · subst hme
        subst hre
        go_wp2_with fail
        refine (implFib_is 5 5 _ HV.out).mono ?_
        rintro e w2 ⟨rfl, hh2⟩
        obtain ⟨hc2, hf2⟩ := bcell hh2
        have hz2 := hh2.size
        try simp only [World.size_alloc] at hz2
        clear hc2 hf2
        go_wp2_with fail
        refine (specFib_is 5 5 _ HV.out).mono ?_
        rintro e w3 ⟨rfl, hh3⟩
        obtain ⟨hc3, hf3⟩ := bcell hh3
        have hz3 := hh3.size
        try simp only [World.size_alloc] at hz3
        clear hc3 hf3
        go_wp2_with fail
        refine (implRank_is 1 (-1) 5 5 true _ HRV.out HRB.out).mono ?_
        rintro e w4 ⟨rfl, hh4⟩
        obtain ⟨hc4, hf4⟩ := bcell hh4
        have hz4 := hh4.size
        try simp only [World.size_alloc] at hz4
        clear hc4 hf4
        go_wp2
        go_ret
        exact ⟨rfl, by (repeat (first | exact Below.refl _ _ | refine Below.setCell ?_ (by first | omega | (simp <;> omega)) _ | refine Below.alloc ?_ (by first | omega | (simp <;> omega)) _ | refine Below.drew ?_ | refine Below.trans ?_ (Below.mono (by assumption) (by first | omega | (simp <;> omega))) | refine Below.grown ?_ (by assumption) (by first | omega | (simp <;> omega)) (fun k e => by cases e; first | omega | (simp <;> omega))))⟩
      · have hb2 : ((m : Int) == 2) = false := by simp; omega
        have hb5 : ((m : Int) == 5) = false := by simp; omega
        have hn2' : ((m : Int) != 2) = true := by simp; omega
        have hn5' : ((m : Int) != 5) = true := by simp; omega
        obtain ⟨x, hx, hD⟩ := left_some (m - 1) r
        rw [show ((m - 1 : Nat) : Int) = (m : Int) - 1 by omega] at hD
        obtain ⟨y, hy, hE⟩ := left_some (m + 1) r
        rw [show ((m + 1 : Nat) : Int) = (m : Int) + 1 by omega] at hE
        by_cases h0 : x = 0
        · subst h0
          clear hx hy hor
          go_wp2_with fail
          refine (implFib_is m r _ HV.out).mono ?_
          rintro e w2 ⟨rfl, hh2⟩
          obtain ⟨hc2, hf2⟩ := bcell hh2
          have hz2 := hh2.size
          try simp only [World.size_alloc] at hz2
          clear hc2 hf2
          go_wp2_with fail
          refine (specFib_is m r _ HV.out).mono ?_
          rintro e w3 ⟨rfl, hh3⟩
          obtain ⟨hc3, hf3⟩ := bcell hh3
          have hz3 := hh3.size
          try simp only [World.size_alloc] at hz3
          clear hc3 hf3
          go_wp2_with fail
          refine (implRank_is 1 (-1) m r true _ HRV.out HRB.out).mono ?_
          rintro e w4 ⟨rfl, hh4⟩
          obtain ⟨hc4, hf4⟩ := bcell hh4
          have hz4 := hh4.size
          try simp only [World.size_alloc] at hz4
          clear hc4 hf4
          go_wp2
          go_ret
          exact ⟨rfl, by (repeat (first | exact Below.refl _ _ | refine Below.setCell ?_ (by first | omega | (simp <;> omega)) _ | refine Below.alloc ?_ (by first | omega | (simp <;> omega)) _ | refine Below.drew ?_ | refine Below.trans ?_ (Below.mono (by assumption) (by first | omega | (simp <;> omega))) | refine Below.grown ?_ (by assumption) (by first | omega | (simp <;> omega)) (fun k e => by cases e; first | omega | (simp <;> omega))))⟩
        · have hx0 : ((x : Int) == 0) = false := by simp; omega
          obtain rfl : y = 0 := by rcases hor with h | h; omega; omega
          clear hx hy hor
          go_wp2_with fail
          refine (implFib_is m r _ HV.out).mono ?_
          rintro e w2 ⟨rfl, hh2⟩
          obtain ⟨hc2, hf2⟩ := bcell hh2
          have hz2 := hh2.size
          try simp only [World.size_alloc] at hz2
          clear hc2 hf2
          go_wp2_with fail
          refine (specFib_is m r _ HV.out).mono ?_
          rintro e w3 ⟨rfl, hh3⟩
          obtain ⟨hc3, hf3⟩ := bcell hh3
          have hz3 := hh3.size
          try simp only [World.size_alloc] at hz3
          clear hc3 hf3
          go_wp2_with fail
          refine (implRank_is 1 (-1) m r true _ HRV.out HRB.out).mono ?_
          rintro e w4 ⟨rfl, hh4⟩
          obtain ⟨hc4, hf4⟩ := bcell hh4
          have hz4 := hh4.size
          try simp only [World.size_alloc] at hz4
          clear hc4 hf4
          go_wp2
          go_ret
          exact ⟨rfl, by (repeat (first | exact Below.refl _ _ | refine Below.setCell ?_ (by first | omega | (simp <;> omega)) _ | refine Below.alloc ?_ (by first | omega | (simp <;> omega)) _ | refine Below.drew ?_ | refine Below.trans ?_ (Below.mono (by assumption) (by first | omega | (simp <;> omega))) | refine Below.grown ?_ (by assumption) (by first | omega | (simp <;> omega)) (fun k e => by cases e; first | omega | (simp <;> omega))))⟩
end Go.Proofs.Ytfihmcpigbpgpaa
namespace Go.Proofs.Ytfihmcpigbpgpaa
open Go.RowKit
set_option maxRecDepth 100000 in
set_option maxHeartbeats 8000000 in
theorem fnTimesAt_walk (a : Option Addr) (len cap : Nat) (z : List Int) (w : World) (w0 : IsRow w a len cap z) :
    Calls Try.prog 5 #[.slice a len cap] w fun e w' => e = .returned (.bool true) ∧ Below w.heap.size w w' := by
  by_cases hbig : 1048576 < len
  · go_enter Try.func5, Try.ntmps5
    go_wp2
    go_ret
    exact ⟨rfl, Below.refl _ _⟩
  · have hsm : len ≤ 1048576 := by omega
    go_enter Try.func5, Try.ntmps5
    go_wp2_with fail
    refine (drawTimesAt_any _ _ _ _ z w0).mono ?_
    rintro e w1 ⟨n, p, rfl, hh1⟩
    have hz1 := hh1.size
    obtain ⟨hc1, hf1⟩ := bcell hh1
    cases hb : timesInB n p with
    | false =>
      have HV := Lib.hid (timesAtV_no hb)
      clear hb
      go_wp2_with fail
      refine (implTimesAt_is n p (-1) _ HV.out).mono ?_
      rintro e w2 ⟨rfl, hh2⟩
      obtain ⟨hc2, hf2⟩ := bcell hh2
      have hz2 := hh2.size
      try simp only [World.size_alloc] at hz2
      clear hc2 hf2
      go_wp2_with fail
      refine (specTimesAt_is n p (-1) _ HV.out).mono ?_
      rintro e w3 ⟨rfl, hh3⟩
      obtain ⟨hc3, hf3⟩ := bcell hh3
      have hz3 := hh3.size
      try simp only [World.size_alloc] at hz3
      clear hc3 hf3
      go_wp2_with fail
      refine (alive_any _).mono ?_
      rintro e w4 ⟨rfl, hh4⟩
      obtain ⟨hc4, hf4⟩ := bcell hh4
      have hz4 := hh4.size
      try simp only [World.size_alloc] at hz4
      clear hc4 hf4
      go_wp2
      go_ret
      exact ⟨rfl, by (repeat (first | exact Below.refl _ _ | refine Below.setCell ?_ (by first | omega | (simp <;> omega)) _ | refine Below.alloc ?_ (by first | omega | (simp <;> omega)) _ | refine Below.drew ?_ | refine Below.trans ?_ (Below.mono (by assumption) (by first | omega | (simp <;> omega))) | refine Below.grown ?_ (by assumption) (by first | omega | (simp <;> omega)) (fun k e => by cases e; first | omega | (simp <;> omega))))⟩
    | true =>
      obtain ⟨m, k, rfl, rfl, hm, m1, m2, k1, k2⟩ := timesInB_true hb
      have hV := timesAtV_is hb
      have hta := fun i (hi : 1 ≤ i) (hp : m ^ i ≤ 10000) => (powT_dvd (p := m) hm hi hp k).trans (tA_iff (p := m) (n := k) hm k1 (by omega) hi)
      have hv5 := tA_le m k
      obtain ⟨v, hv⟩ : ∃ v, tA m k = v := ⟨_, rfl⟩
      rw [hv] at hV hta hv5
      have HV := Lib.hid hV
      have HTA := Lib.hid hta
      have hvi : (0 : Int) ≤ (v : Int) := by omega
      have HP := Lib.hid (show pairB 1 (-1) = true by decide)
      clear hb hV hta hv
      go_wp2_with fail
      refine (implTimesAt_is k m v _ HV.out).mono ?_
      rintro e w2 ⟨rfl, hh2⟩
      obtain ⟨hc2, hf2⟩ := bcell hh2
      have hz2 := hh2.size
      try simp only [World.size_alloc] at hz2
      clear hc2 hf2
      go_wp2_with fail
      refine (specTimesAt_is k m v _ HV.out).mono ?_
      rintro e w3 ⟨rfl, hh3⟩
      obtain ⟨hc3, hf3⟩ := bcell hh3
      have hz3 := hh3.size
      try simp only [World.size_alloc] at hz3
      clear hc3 hf3
      go_wp2_with fail
      go_loopw [6, 7] (fun x c wr => ∃ i : Nat, 1 ≤ i ∧ i ≤ 14 ∧ m ^ i ≤ 310000 ∧ x = .int .i64 ((m ^ i : Nat) : Int) ∧ c = .int .i64 i ∧ Below w3.heap.size w3 wr) (fun _ c _ => 20 - (intOf c).toNat)
      case atStart => exact ⟨1, by omega, by omega, by rw [Nat.pow_one]; omega, congrArg (Value.int .i64) (by rw [Nat.pow_one]), rfl, Below.refl _ _⟩
      case round =>
        obtain ⟨i, i1, i2, ib, rfl, rfl, hB⟩ := hrel
        have hi14 : m ^ i ≤ 10000 → i ≤ 13 := fun h => by
          rcases Nat.lt_or_ge i 14 with h' | h'
          · omega
          · have h3 : 2 ^ 14 ≤ 2 ^ i := Nat.pow_le_pow_right (by omega) h'
            have h4 : 2 ^ i ≤ m ^ i := Nat.pow_le_pow_left m1 i
            omega
        have hx1 : 1 ≤ m ^ i := Nat.pow_pos (by omega)
        have hta := HTA.out i i1
        have hnext : m ^ (i + 1) = m ^ i * m := Nat.pow_succ m i
        obtain ⟨x, hx⟩ : ∃ x, m ^ i = x := ⟨_, rfl⟩
        rw [hx] at hi14 hx1 hta hnext ib ⊢
        by_cases hle : x ≤ 10000
        · have hlei : (x : Int) ≤ 10000 := by omega
          have h13 := hi14 hle
          have hxm : x * m ≤ 310000 := Nat.mul_le_mul hle m2
          have hT := hta hle
          obtain ⟨F, hF⟩ : ∃ F, row 1 (-1) 0 1 k % (x : Int) = F := ⟨_, rfl⟩
          have HF := Lib.hid hF
          have hd : (F == 0) = decide ((i : Int) ≤ (v : Int)) := by
            rw [Bool.eq_iff_iff, beq_iff_eq, decide_eq_true_iff]
            constructor
            · intro h
              have := hT.1 (Int.dvd_of_emod_eq_zero (by rw [hF]; exact h))
              omega
            · intro h
              rw [← hF]; exact Int.emod_eq_zero_of_dvd (hT.2 (by omega))
          obtain ⟨y, hy⟩ : ∃ y, x * m = y := ⟨_, rfl⟩
          have HY := Lib.hid (show m ^ (i + 1) = y by rw [hnext, hy])
          have HM := Lib.hid (show (x : Int) * (m : Int) = (y : Int) by rw [← hy]; simp)
          rw [hy] at hxm
          have U : IntKind.i64.wrap ((x : Int) * (m : Int)) = (y : Int) := by rw [HM.out, IntKind.wrap_i64]; omega
          clear hx hF hy hnext hta hT hi14
          by_cases hiv : i ≤ v
          · have hivi : (i : Int) ≤ (v : Int) := by omega
            have hF0 : (F == 0) = true := by rw [hd]; exact decide_eq_true hivi
            clear hd
            go_wp2_with fail
            refine (implFarFirst_at 1 (-1) x k F _ _ rfl HP.out (by omega) (by omega) (by omega) HF.out).mono ?_
            rintro e w4 ⟨rfl, hh4⟩
            have hB4 := hB.trans (hh4.mono hB.size)
            clear hh4 hB
            go_wp2
            go_roundw
            case rel => exact ⟨i + 1, by omega, by omega, by rw [HY.out]; omega, by rw [HY.out], congrArg (Value.int .i64) (by omega), hB4⟩
            case measure => simp [intOf]; omega
          · have hivi : (v : Int) < (i : Int) := by omega
            have hF0 : (F == 0) = false := by rw [hd]; exact decide_eq_false (by omega)
            clear hd
            go_wp2_with fail
            refine (implFarFirst_at 1 (-1) x k F _ _ rfl HP.out (by omega) (by omega) (by omega) HF.out).mono ?_
            rintro e w4 ⟨rfl, hh4⟩
            have hB4 := hB.trans (hh4.mono hB.size)
            clear hh4 hB
            go_wp2
            go_roundw
            case rel => exact ⟨i + 1, by omega, by omega, by rw [HY.out]; omega, by rw [HY.out], congrArg (Value.int .i64) (by omega), hB4⟩
            case measure => simp [intOf]; omega
        · have hlei : 10000 < (x : Int) := by omega
          clear hx hta hnext hi14
          go_wp2_with fail
          refine (alive_any _).mono ?_
          rintro e w4 ⟨rfl, hh4⟩
          have hB2 : Below w.heap.size w w4 := ((((hh1.trans (hh2.mono hh1.size)).trans (hh3.mono (Nat.le_trans hh1.size hh2.size))).trans (hB.mono (Nat.le_trans hh1.size (Nat.le_trans hh2.size hh3.size)))).trans (hh4.mono (Nat.le_trans hh1.size (Nat.le_trans hh2.size (Nat.le_trans hh3.size hB.size)))))
          go_wp2
          go_ret
          exact ⟨rfl, hB2⟩
end Go.Proofs.Ytfihmcpigbpgpaa
namespace Go.Proofs.Ytfihmcpigbpgpaa
open Go.RowKit
theorem few_pow_bd {p : Nat} (hf : p ∈ few) {j : Nat} (hj : j ≤ 9) : p ^ j ≤ 10000000000000000 := by
  have hall : few.all (fun p => (List.range 10).all fun k => decide (p ^ k ≤ 10000000000000000)) = true := by decide +kernel
  exact of_decide_eq_true (List.all_eq_true.1 (List.all_eq_true.1 hall p hf) j (by simp; omega))
set_option maxRecDepth 100000 in
set_option maxHeartbeats 8000000 in
theorem fnPowerRank_walk (a : Option Addr) (len cap : Nat) (z : List Int) (w : World) (w0 : IsRow w a len cap z) :
    Calls Try.prog 6 #[.slice a len cap] w fun e w' => e = .returned (.bool true) ∧ Below w.heap.size w w' := by
  by_cases hbig : 1048576 < len
  · go_enter Try.func6, Try.ntmps6
    go_wp2
    go_ret
    exact ⟨rfl, Below.refl _ _⟩
  · have hsm : len ≤ 1048576 := by omega
    go_enter Try.func6, Try.ntmps6
    go_wp2_with fail
    refine (drawPowerRank_any _ _ _ _ z w0).mono ?_
    rintro e w1 ⟨p, t, rfl, hh1⟩
    have hz1 := hh1.size
    obtain ⟨hc1, hf1⟩ := bcell hh1
    cases hb : powerB p t with
    | false =>
      have HV := Lib.hid (powerV_no hb)
      clear hb
      go_wp2_with fail
      refine (implPowRank_is p t (-1) _ HV.out).mono ?_
      rintro e w2 ⟨rfl, hh2⟩
      obtain ⟨hc2, hf2⟩ := bcell hh2
      have hz2 := hh2.size
      try simp only [World.size_alloc] at hz2
      clear hc2 hf2
      go_wp2_with fail
      refine (specPowRank_is p t (-1) _ HV.out).mono ?_
      rintro e w3 ⟨rfl, hh3⟩
      obtain ⟨hc3, hf3⟩ := bcell hh3
      have hz3 := hh3.size
      try simp only [World.size_alloc] at hz3
      clear hc3 hf3
      go_wp2_with fail
      refine (alive_any _).mono ?_
      rintro e w4 ⟨rfl, hh4⟩
      obtain ⟨hc4, hf4⟩ := bcell hh4
      have hz4 := hh4.size
      try simp only [World.size_alloc] at hz4
      clear hc4 hf4
      go_wp2
      go_ret
      exact ⟨rfl, by (repeat (first | exact Below.refl _ _ | refine Below.setCell ?_ (by first | omega | (simp <;> omega)) _ | refine Below.alloc ?_ (by first | omega | (simp <;> omega)) _ | refine Below.drew ?_ | refine Below.trans ?_ (Below.mono (by assumption) (by first | omega | (simp <;> omega))) | refine Below.grown ?_ (by assumption) (by first | omega | (simp <;> omega)) (fun k e => by cases e; first | omega | (simp <;> omega))))⟩
    | true =>
      obtain ⟨m, j, rfl, rfl, hm, m1, m2, j1, j2⟩ := powerB_true hb
      have hV := powerV_is hb
      have hta := fun c (c1 : 1 ≤ c) (c2 : c ≤ 1000000000) => tA_iff (p := m) (n := c) hm c1 (show c < 2 ^ 50 by omega) j1
      have htv := fun c (c1 : 1 ≤ c) (c2 : c ≤ 1000000000) => timesAtV_is (timesInB_mk (n := c) (p := m) hm c1 c2)
      have hpos := powT_pos hm j
      have hpb := powT_bd hm j2
      have hrk := rank_pow hm j1
      have hx9 := few_pow_bd hm j2
      have hx1 : 1 ≤ m ^ j := Nat.pow_pos (by omega)
      obtain ⟨n, hn⟩ : ∃ n, powT m j = n := ⟨_, rfl⟩
      rw [hn] at hV hta hpos hpb hrk
      obtain ⟨x, hx⟩ : ∃ x, m ^ j = x := ⟨_, rfl⟩
      rw [hx] at hrk hx9 hx1
      have HX := Lib.hid hx
      have HV := Lib.hid hV
      have HTA := Lib.hid hta
      have HTV := Lib.hid htv
      have hn1 : (1 : Int) ≤ (n : Int) := by omega
      obtain ⟨RV, hRV⟩ : ∃ RV, rankV 1 (-1) x = RV := ⟨_, rfl⟩
      obtain ⟨RB, hRB⟩ : ∃ RB, rankB 1 (-1) x = RB := ⟨_, rfl⟩
      have HR4 := Lib.hid (show x ≤ 400 → RV = (n : Int) ∧ RB = true from fun h4 => by
        have h : rankB 1 (-1) x = true := rankB_mk (by decide) (by omega) hx1 h4 (fun c _ h2 => Int.dvd_neg.1 h2)
        exact ⟨by rw [← hRV, rankV_is h, hrk (by omega)], by rw [← hRB]; exact h⟩)
      have HRV := Lib.hid hRV
      have HRB := Lib.hid hRB
      have HN := Lib.hid (show n ≤ 1000000000 → ∃ v : Nat, timesAtV n m = (v : Int) ∧ j ≤ v from fun h => ⟨_, htv n hpos h, (hta n hpos h).1 (Nat.dvd_refl _)⟩)
      have HL := Lib.hid (show ∀ d, 1 ≤ d → d < n → d ≤ 400 → ∃ v : Nat, timesAtV d m = (v : Int) ∧ v < j from fun d d1 d2 d4 => ⟨_, htv d d1 (by omega), by
        rcases Nat.lt_or_ge (tA m d) j with h | h
        · exact h
        · have := Nat.le_of_dvd d1 ((hta d d1 (by omega)).2 h)
          omega⟩)
      clear hb hV hta htv hrk hn hx hRV hRB
      go_wp2_with fail
      refine (implPowRank_is m j n _ HV.out).mono ?_
      rintro e w2 ⟨rfl, hh2⟩
      obtain ⟨hc2, hf2⟩ := bcell hh2
      have hz2 := hh2.size
      try simp only [World.size_alloc] at hz2
      clear hc2 hf2
      go_wp2_with fail
      refine (specPowRank_is m j n _ HV.out).mono ?_
      rintro e w3 ⟨rfl, hh3⟩
      obtain ⟨hc3, hf3⟩ := bcell hh3
      have hz3 := hh3.size
      try simp only [World.size_alloc] at hz3
      clear hc3 hf3
      go_wp2_with fail
      go_loopw [6] (fun c wr => ∃ d : Nat, 1 ≤ d ∧ d ≤ 401 ∧ c = .int .i64 d ∧ Below w3.heap.size w3 wr) (fun c _ => 500 - (intOf c).toNat)
      case atStart => exact ⟨1, by omega, by omega, rfl, Below.refl _ _⟩
      case round =>
        obtain ⟨d, d1, d4, rfl, hB⟩ := hrel
        have hdz : ((d : Int) == 0) = false := by simp; omega
        by_cases hgo : d < n ∧ d ≤ 400
        · obtain ⟨g1, g2⟩ := hgo
          have g1i : (d : Int) < (n : Int) := by omega
          have g2i : (d : Int) ≤ 400 := by omega
          obtain ⟨y, hy, hD⟩ := left_some n d
          by_cases h0 : y = 0
          · subst h0
            obtain ⟨v, hv, hvj⟩ := HL.out d d1 g1 g2
            have HVV := Lib.hid hv
            have hvji : (v : Int) < (j : Int) := by omega
            clear hy hv
            go_wp2_with fail
            refine (implTimesAt_is d m v _ HVV.out).mono ?_
            rintro e w4 ⟨rfl, hh4⟩
            have hB4 := hB.trans (hh4.mono hB.size)
            clear hh4 hB
            go_wp2
            go_roundw
            case rel => exact ⟨d + 1, by omega, by omega, congrArg (Value.int .i64) (by omega), hB4⟩
            case measure => simp [intOf]; omega
          · have hy0 : ((y : Int) == 0) = false := by simp; omega
            clear hy
            go_wp2
            go_roundw
            case rel => exact ⟨d + 1, by omega, by omega, congrArg (Value.int .i64) (by omega), hB⟩
            case measure => simp [intOf]; omega
        · have hB0 : Below w.heap.size w wr := (((hh1.trans (hh2.mono hh1.size)).trans (hh3.mono (Nat.le_trans hh1.size hh2.size))).trans (hB.mono (Nat.le_trans hh1.size (Nat.le_trans hh2.size hh3.size))))
          by_cases hdn : d < n
          · have hdni : (d : Int) < (n : Int) := by omega
            have hd4i : 400 < (d : Int) := by omega
            by_cases h4 : x ≤ 400
            · have h4i : (x : Int) ≤ 400 := by omega
              obtain ⟨rfl, rfl⟩ := HR4.out h4
              by_cases hfar : n ≤ 1000000000
              · have hfi : (n : Int) ≤ 1000000000 := by omega
                obtain ⟨v, hv, hvj⟩ := HN.out hfar
                have HVV := Lib.hid hv
                have hvji : (j : Int) ≤ (v : Int) := by omega
                clear hv
                go_wp2_with fail
                refine (powerOf_nat m j _ (by omega) (by rw [HX.out]; omega) (by omega) x (by rw [HX.out])).mono ?_
                rintro e wx ⟨rfl, rfl⟩
                go_wp2_with fail
                refine (implRank_is 1 (-1) x _ _ _ HRV.out HRB.out).mono ?_
                rintro e w4 ⟨rfl, hh4⟩
                have hz4 := hh4.size
                go_wp2_with fail
                refine (implTimesAt_is n m v _ HVV.out).mono ?_
                rintro e w5 ⟨rfl, hh5⟩
                go_wp2
                go_ret
                exact ⟨rfl, (hB0.trans (hh4.mono hB0.size)).trans (hh5.mono (Nat.le_trans hB0.size hz4))⟩
              · have hfi : 1000000000 < (n : Int) := by omega
                go_wp2_with fail
                refine (powerOf_nat m j _ (by omega) (by rw [HX.out]; omega) (by omega) x (by rw [HX.out])).mono ?_
                rintro e wx ⟨rfl, rfl⟩
                go_wp2_with fail
                refine (implRank_is 1 (-1) x _ _ _ HRV.out HRB.out).mono ?_
                rintro e w4 ⟨rfl, hh4⟩
                have hz4 := hh4.size
                go_wp2
                go_ret
                exact ⟨rfl, hB0.trans (hh4.mono hB0.size)⟩
            · have h4i : 400 < (x : Int) := by omega
              by_cases hfar : n ≤ 1000000000
              · have hfi : (n : Int) ≤ 1000000000 := by omega
                obtain ⟨v, hv, hvj⟩ := HN.out hfar
                have HVV := Lib.hid hv
                have hvji : (j : Int) ≤ (v : Int) := by omega
                clear hv
                go_wp2_with fail
                refine (powerOf_nat m j _ (by omega) (by rw [HX.out]; omega) (by omega) x (by rw [HX.out])).mono ?_
                rintro e wx ⟨rfl, rfl⟩
                go_wp2_with fail
                refine (implRank_is 1 (-1) x _ _ _ HRV.out HRB.out).mono ?_
                rintro e w4 ⟨rfl, hh4⟩
                have hz4 := hh4.size
                go_wp2_with fail
                refine (implTimesAt_is n m v _ HVV.out).mono ?_
                rintro e w5 ⟨rfl, hh5⟩
                go_wp2
                go_ret
                exact ⟨rfl, (hB0.trans (hh4.mono hB0.size)).trans (hh5.mono (Nat.le_trans hB0.size hz4))⟩
              · have hfi : 1000000000 < (n : Int) := by omega
                go_wp2_with fail
                refine (powerOf_nat m j _ (by omega) (by rw [HX.out]; omega) (by omega) x (by rw [HX.out])).mono ?_
                rintro e wx ⟨rfl, rfl⟩
                go_wp2_with fail
                refine (implRank_is 1 (-1) x _ _ _ HRV.out HRB.out).mono ?_
                rintro e w4 ⟨rfl, hh4⟩
                have hz4 := hh4.size
                go_wp2
                go_ret
                exact ⟨rfl, hB0.trans (hh4.mono hB0.size)⟩
          · have hdni : (n : Int) ≤ (d : Int) := by omega
            by_cases h4 : x ≤ 400
            · have h4i : (x : Int) ≤ 400 := by omega
              obtain ⟨rfl, rfl⟩ := HR4.out h4
              by_cases hfar : n ≤ 1000000000
              · have hfi : (n : Int) ≤ 1000000000 := by omega
                obtain ⟨v, hv, hvj⟩ := HN.out hfar
                have HVV := Lib.hid hv
                have hvji : (j : Int) ≤ (v : Int) := by omega
                clear hv
                go_wp2_with fail
                refine (powerOf_nat m j _ (by omega) (by rw [HX.out]; omega) (by omega) x (by rw [HX.out])).mono ?_
                rintro e wx ⟨rfl, rfl⟩
                go_wp2_with fail
                refine (implRank_is 1 (-1) x _ _ _ HRV.out HRB.out).mono ?_
                rintro e w4 ⟨rfl, hh4⟩
                have hz4 := hh4.size
                go_wp2_with fail
                refine (implTimesAt_is n m v _ HVV.out).mono ?_
                rintro e w5 ⟨rfl, hh5⟩
                go_wp2
                go_ret
                exact ⟨rfl, (hB0.trans (hh4.mono hB0.size)).trans (hh5.mono (Nat.le_trans hB0.size hz4))⟩
              · omega
            · have h4i : 400 < (x : Int) := by omega
              by_cases hfar : n ≤ 1000000000
              · have hfi : (n : Int) ≤ 1000000000 := by omega
                obtain ⟨v, hv, hvj⟩ := HN.out hfar
                have HVV := Lib.hid hv
                have hvji : (j : Int) ≤ (v : Int) := by omega
                clear hv
                go_wp2_with fail
                refine (powerOf_nat m j _ (by omega) (by rw [HX.out]; omega) (by omega) x (by rw [HX.out])).mono ?_
                rintro e wx ⟨rfl, rfl⟩
                go_wp2_with fail
                refine (implRank_is 1 (-1) x _ _ _ HRV.out HRB.out).mono ?_
                rintro e w4 ⟨rfl, hh4⟩
                have hz4 := hh4.size
                go_wp2_with fail
                refine (implTimesAt_is n m v _ HVV.out).mono ?_
                rintro e w5 ⟨rfl, hh5⟩
                go_wp2
                go_ret
                exact ⟨rfl, (hB0.trans (hh4.mono hB0.size)).trans (hh5.mono (Nat.le_trans hB0.size hz4))⟩
              · omega
end Go.Proofs.Ytfihmcpigbpgpaa
namespace Go.Proofs.Ytfihmcpigbpgpaa
open Go.RowKit
set_option maxHeartbeats 1000000 in
theorem fnExactTimesIn_walk (n m : Int) (w : World) (_ : (Lit.int .i64 n).wf = true) (_ : (Lit.int .i64 m).wf = true) :
    Calls Try.prog 7 #[.int .i64 n, .int .i64 m] w fun e w' => e = .returned (.bool true) ∧ Below w.heap.size w w' := by
  go_enter Try.func7, Try.ntmps7
  go_wp2_with fail
  refine (specTimesIn_any _ _ _).mono ?_
  rintro e wx ⟨rfl, rfl⟩
  go_wp2_with fail
  refine (implTimesIn_any _ _ _).mono ?_
  rintro e w2 ⟨rfl, hh2⟩
  obtain ⟨hc2, hf2⟩ := bcell hh2
  have hz2 := hh2.size
  try simp only [World.size_alloc] at hz2
  clear hc2 hf2
  go_wp2
  go_ret
  exact ⟨rfl, by (repeat (first | exact Below.refl _ _ | refine Below.setCell ?_ (by first | omega | (simp <;> omega)) _ | refine Below.alloc ?_ (by first | omega | (simp <;> omega)) _ | refine Below.drew ?_ | refine Below.trans ?_ (Below.mono (by assumption) (by first | omega | (simp <;> omega))) | refine Below.grown ?_ (by assumption) (by first | omega | (simp <;> omega)) (fun k e => by cases e; first | omega | (simp <;> omega))))⟩
set_option maxHeartbeats 1000000 in
theorem fnExactFibRank_walk (n : Int) (w : World) (_ : (Lit.int .i64 n).wf = true) :
    Calls Try.prog 8 #[.int .i64 n] w fun e w' => e = .returned (.bool true) ∧ Below w.heap.size w w' := by
  go_enter Try.func8, Try.ntmps8
  go_wp2_with fail
  refine (specFib_any _ _).mono ?_
  rintro e w1 ⟨rfl, hh1⟩
  obtain ⟨hc1, hf1⟩ := bcell hh1
  have hz1 := hh1.size
  try simp only [World.size_alloc] at hz1
  clear hc1 hf1
  go_wp2_with fail
  refine (implFib_any _ _).mono ?_
  rintro e w2 ⟨rfl, hh2⟩
  obtain ⟨hc2, hf2⟩ := bcell hh2
  have hz2 := hh2.size
  try simp only [World.size_alloc] at hz2
  clear hc2 hf2
  go_wp2
  go_ret
  exact ⟨rfl, by (repeat (first | exact Below.refl _ _ | refine Below.setCell ?_ (by first | omega | (simp <;> omega)) _ | refine Below.alloc ?_ (by first | omega | (simp <;> omega)) _ | refine Below.drew ?_ | refine Below.trans ?_ (Below.mono (by assumption) (by first | omega | (simp <;> omega))) | refine Below.grown ?_ (by assumption) (by first | omega | (simp <;> omega)) (fun k e => by cases e; first | omega | (simp <;> omega))))⟩
set_option maxHeartbeats 1000000 in
theorem fnExactTimesAt_walk (n m : Int) (w : World) (_ : (Lit.int .i64 n).wf = true) (_ : (Lit.int .i64 m).wf = true) :
    Calls Try.prog 9 #[.int .i64 n, .int .i64 m] w fun e w' => e = .returned (.bool true) ∧ Below w.heap.size w w' := by
  go_enter Try.func9, Try.ntmps9
  go_wp2_with fail
  refine (specTimesAt_any _ _ _).mono ?_
  rintro e w1 ⟨rfl, hh1⟩
  obtain ⟨hc1, hf1⟩ := bcell hh1
  have hz1 := hh1.size
  try simp only [World.size_alloc] at hz1
  clear hc1 hf1
  go_wp2_with fail
  refine (implTimesAt_any _ _ _).mono ?_
  rintro e w2 ⟨rfl, hh2⟩
  obtain ⟨hc2, hf2⟩ := bcell hh2
  have hz2 := hh2.size
  try simp only [World.size_alloc] at hz2
  clear hc2 hf2
  go_wp2
  go_ret
  exact ⟨rfl, by (repeat (first | exact Below.refl _ _ | refine Below.setCell ?_ (by first | omega | (simp <;> omega)) _ | refine Below.alloc ?_ (by first | omega | (simp <;> omega)) _ | refine Below.drew ?_ | refine Below.trans ?_ (Below.mono (by assumption) (by first | omega | (simp <;> omega))) | refine Below.grown ?_ (by assumption) (by first | omega | (simp <;> omega)) (fun k e => by cases e; first | omega | (simp <;> omega))))⟩
set_option maxHeartbeats 1000000 in
theorem fnExactPowerRank_walk (n m : Int) (w : World) (_ : (Lit.int .i64 n).wf = true) (_ : (Lit.int .i64 m).wf = true) :
    Calls Try.prog 10 #[.int .i64 n, .int .i64 m] w fun e w' => e = .returned (.bool true) ∧ Below w.heap.size w w' := by
  go_enter Try.func10, Try.ntmps10
  go_wp2_with fail
  refine (specPowRank_any _ _ _).mono ?_
  rintro e w1 ⟨rfl, hh1⟩
  obtain ⟨hc1, hf1⟩ := bcell hh1
  have hz1 := hh1.size
  try simp only [World.size_alloc] at hz1
  clear hc1 hf1
  go_wp2_with fail
  refine (implPowRank_any _ _ _).mono ?_
  rintro e w2 ⟨rfl, hh2⟩
  obtain ⟨hc2, hf2⟩ := bcell hh2
  have hz2 := hh2.size
  try simp only [World.size_alloc] at hz2
  clear hc2 hf2
  go_wp2
  go_ret
  exact ⟨rfl, by (repeat (first | exact Below.refl _ _ | refine Below.setCell ?_ (by first | omega | (simp <;> omega)) _ | refine Below.alloc ?_ (by first | omega | (simp <;> omega)) _ | refine Below.drew ?_ | refine Below.trans ?_ (Below.mono (by assumption) (by first | omega | (simp <;> omega))) | refine Below.grown ?_ (by assumption) (by first | omega | (simp <;> omega)) (fun k e => by cases e; first | omega | (simp <;> omega))))⟩
end Go.Proofs.Ytfihmcpigbpgpaa
