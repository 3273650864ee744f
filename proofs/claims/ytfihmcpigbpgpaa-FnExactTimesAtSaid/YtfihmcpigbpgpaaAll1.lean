/- Contracts and laws that the statement's proof stands on, one text behind the other. -/
import Derived.Test.YtfihmcpigbpgpaaAll0
import Derived.Test.YtfihmcpigbpgpaaHvPlaceWhere
import Derived.Test.YtfihmcpigbpgpaaHvDrawFar
import Derived.Test.YtfihmcpigbpgpaaHvDrawBy
import Derived.Test.YtfihmcpigbpgpaaHvPrimeMath
import Derived.Test.YtfihmcpigbpgpaaHvPrimeSq
import Derived.Test.YtfihmcpigbpgpaaHvDrawRanked
import Derived.Test.YtfihmcpigbpgpaaHvDrawPrime

namespace Go.Proofs.Ytfihmcpigbpgpaa
open Go.RowKit
/-- Places, as cells; those up to one at which something holds. -/
def natCells (L : List Nat) : List Value := L.map fun (i : Nat) => .int .i64 (i : Int)
def holdL (B : Nat → Bool) (n : Nat) : List Nat := (List.range n).filter B
theorem holdL_len (B : Nat → Bool) (n : Nat) : (holdL B n).length ≤ n := Nat.le_trans (List.length_filter_le _ _) (by simp)
theorem holdL_yes {B : Nat → Bool} {n : Nat} (h : B n = true) : holdL B n ++ [n] = holdL B (n + 1) := by simp [holdL, List.range_succ, h]
theorem holdL_no {B : Nat → Bool} {n : Nat} (h : B n = false) : holdL B (n + 1) = holdL B n := by simp [holdL, List.range_succ, h]
theorem natCells_yes {B : Nat → Bool} {n : Nat} (h : B n = true) : natCells (holdL B n) ++ [.int .i64 (n : Int)] = natCells (holdL B (n + 1)) := by
  rw [← holdL_yes h]; simp [natCells]
theorem holdL_yes_len {B : Nat → Bool} {n : Nat} (h : B n = true) : (holdL B n).length + 1 = (holdL B (n + 1)).length := by
  rw [← holdL_yes h]; simp
theorem natCells_range (L : List Nat) : natCells L = (List.range L.length).map fun i => .int .i64 ((L.getD i 0 : Nat) : Int) := by
  refine List.ext_getElem (by simp [natCells]) fun i h1 h2 => ?_
  simp only [natCells, List.getElem_map, List.getElem_range]
  have h3 : i < L.length := by simpa [natCells] using h1
  simp [h3]
/-- A list of places, in new memory. -/
def ListOf (L : List Nat) (w : World) (e : Ending) (w' : World) : Prop :=
  ∃ v, e = .returned v ∧ IsInts w.heap.size w'.heap.size w' v L.length (fun i => ((L.getD i 0 : Nat) : Int)) ∧ Below w.heap.size w w'
/-- The places from 1 on at which d divides the row. -/
def divB (p q d : Int) (j : Nat) : Bool := decide (1 ≤ j) && decide (d ∣ row p q 0 1 j)
def zerosL (p q : Int) : List Nat := if pairB p q = true then holdL (divB p q 0) 21 else []
def dividedB (p q m : Int) : Bool := pairB p q && inB m 1 10000
def dividedL (p q m : Int) : List Nat := if dividedB p q m = true then holdL (divB p q m) 21 else []
theorem table_list {p q d : Int} {t : Nat} (h : Table p q d t) : holdL (fun j => t.testBit j) 21 = holdL (divB p q d) 21 := by
  refine List.filter_congr fun j hj => ?_
  have hj' : j < 21 := by simpa using hj
  rw [Bool.eq_iff_iff, h.2 j]
  simp only [divB, Bool.and_eq_true, decide_eq_true_iff]
  exact ⟨fun h => ⟨h.1, h.2.2⟩, fun h => ⟨h.1, by omega, h.2⟩⟩
theorem dividedB_ways {p q m : Int} (h : dividedB p q m = false) : pairB p q = false ∨ (pairB p q = true ∧ inB m 1 10000 = false) := by
  cases hp : pairB p q with
  | false => exact .inl rfl
  | true => exact .inr ⟨rfl, by simpa [dividedB, hp] using h⟩
theorem dividedB_true {p q m : Int} (h : dividedB p q m = true) : pairB p q = true ∧ inB m 1 10000 = true := by simpa [dividedB] using h
end Go.Proofs.Ytfihmcpigbpgpaa
namespace Go.Proofs.Ytfihmcpigbpgpaa
open Go.RowKit
theorem own_below {w w' : World} {base : Nat} {e : TypeId} {size : Nat} {v : Value} {n : Nat} {xs : List Value} (h : w.ownsRow base e size v n xs) (hb : Below w.heap.size w w') : w'.ownsRow base e size v n xs :=
  h.kept (row := none) ⟨hb.os, hb.tape, hb.output, hb.size, fun j hj _ => hb.block j hj⟩ (by cases v.ownBlock <;> simp)
theorem divB_zero (p q : Int) (j : Nat) (h : 1 ≤ j) : divB p q 0 j = (row p q 0 1 j == 0) := by
  rw [zero_bool]; simp [divB, h]
theorem divB_by (p q m : Int) (j : Nat) (h : 1 ≤ j) : divB p q m j = ((row p q 0 1 j).tmod m == 0) := by
  rw [dvd_bool]; simp [divB, h]
end Go.Proofs.Ytfihmcpigbpgpaa
namespace Go.Proofs.Ytfihmcpigbpgpaa
open Go.RowKit
theorem l1Common_is (a b v : Int) (w : World) (a1 : -1000000000000000 ≤ a) (a2 : a ≤ 1000000000000000) (b1 : -1000000000000000 ≤ b) (b2 : b ≤ 1000000000000000) (hv : ((Int.gcd a b : Nat) : Int) = v) :
    Calls Try.prog 48 #[.int .i64 a, .int .i64 b] w fun e w' => e = .returned (.int .i64 v) ∧ w = w' := by subst hv; exact l1Common_at a b w a1 a2 b1 b2
/-- Whether a number has a rank; the rank. -/
def rankB (p q m : Int) : Bool := pairB p q && (decide (q ≠ 0) && (inB m 1 400 && decide (Int.gcd q m = 1)))
def rankV (p q m : Int) : Int := if rankB p q m = true then (rankN p q m.toNat : Int) else -1
theorem rankB_true {p q m : Int} (h : rankB p q m = true) : pairB p q = true ∧ q ≠ 0 ∧ inB m 1 400 = true ∧ Int.gcd q m = 1 ∧ ∃ k : Nat, m = k ∧ 1 ≤ k ∧ k ≤ 400 ∧ Apart (k : Int) q := by
  have h' : pairB p q = true ∧ ¬ q = 0 ∧ inB m 1 400 = true ∧ Int.gcd q m = 1 := by simpa [rankB] using h
  obtain ⟨hp, hq, hm, hg⟩ := h'
  obtain ⟨m1, m2⟩ := inB_true hm
  have e : m = (m.toNat : Int) := by omega
  refine ⟨hp, hq, hm, hg, m.toNat, e, by omega, by omega, ?_⟩
  rw [← e]
  exact (apart_gcd.1 hg).symm
theorem rankB_ways {p q m : Int} (h : rankB p q m = false) : pairB p q = false ∨ (pairB p q = true ∧ q = 0) ∨ (pairB p q = true ∧ q ≠ 0 ∧ inB m 1 400 = false) ∨ (pairB p q = true ∧ q ≠ 0 ∧ inB m 1 400 = true ∧ Int.gcd q m ≠ 1) := by
  cases hp : pairB p q with
  | false => exact .inl rfl
  | true =>
    by_cases hq : q = 0
    · exact .inr (.inl ⟨rfl, hq⟩)
    · cases hm : inB m 1 400 with
      | false => exact .inr (.inr (.inl ⟨rfl, hq, rfl⟩))
      | true => exact .inr (.inr (.inr ⟨rfl, hq, rfl, by simpa [rankB, hp, hq, hm] using h⟩))
theorem rankB_mk {p q : Int} {k : Nat} (hp : pairB p q = true) (hq : q ≠ 0) (h1 : 1 ≤ k) (h2 : k ≤ 400) (h : Apart (k : Int) q) : rankB p q k = true := by
  have hg : Int.gcd q (k : Int) = 1 := apart_gcd.2 h.symm
  simp [rankB, hp, hq, inB_mk (n := (k : Int)) (a := 1) (b := 400) (by omega) (by omega), hg]
theorem rankV_is {p q : Int} {k : Nat} (h : rankB p q k = true) : rankV p q k = (rankN p q k : Int) := by rw [rankV, if_pos h]; rfl
theorem rank_bd {p q : Int} {k : Nat} (h1 : 1 ≤ k) (h2 : k ≤ 400) (h : Apart (k : Int) q) : 1 ≤ rankN p q k ∧ rankN p q k ≤ 160000 := by
  obtain ⟨_, a, b, _⟩ := rankN_spec (p := p) k h1 h
  exact ⟨a, Nat.le_trans b (Nat.mul_le_mul h2 h2)⟩
/-- What is left before the rank is not 0; at the rank it is. -/
theorem rank_left {p q : Int} {k : Nat} (h1 : 1 ≤ k) (h : Apart (k : Int) q) (n : Nat) (hn : 1 ≤ n) (hr : n ≤ rankN p q k) : (row p q 0 1 n % (k : Int) == 0) = decide (n = rankN p q k) := by
  obtain ⟨a, b, _, d⟩ := rankN_spec (p := p) k h1 h
  rw [Bool.eq_iff_iff, left_zero_iff, decide_eq_true_iff]
  constructor
  · intro hd
    rcases Nat.lt_or_ge n (rankN p q k) with hlt | hge
    · exact absurd hd (d n hn hlt)
    · omega
  · rintro rfl; exact a
set_option maxRecDepth 100000 in
set_option maxHeartbeats 4000000 in
theorem specRank_any (p q m : Int) (w : World) : Calls Try.prog 37 #[pr p q, .int .i64 m] w fun e w' => e = .returned (.tuple #[.int .i64 (rankV p q m), .bool (rankB p q m)]) ∧ Below w.heap.size w w' := by
  cases h : rankB p q m with
  | true =>
    obtain ⟨hp, hq, hm, hg, k, rfl, k1, k2, ha⟩ := rankB_true h
    obtain ⟨⟨r1, r2⟩, r3, r4⟩ := pairB_true hp
    obtain ⟨b1, b2⟩ := rank_bd (p := p) k1 k2 ha
    have HV := Lib.hid (rankV_is h)
    have HL := Lib.hid (rank_left (p := p) k1 ha)
    obtain ⟨R, hR⟩ : ∃ R, rankN p q k = R := ⟨_, rfl⟩
    rw [hR] at b1 b2 HL HV
    have HP := Lib.hid hp
    have HM := Lib.hid hm
    have hqz : (q == 0) = false := by simpa using hq
    have hz : ((k : Int) == 0) = false := by simp; omega
    have hgz : (((Int.gcd q (k : Int) : Nat) : Int)) = 1 := by rw [hg]; rfl
    have HG := Lib.hid hgz
    have m1 : (1 : Int) ≤ (k : Int) := by omega
    have m3 : (k : Int) ≤ 1000000000000 := by omega
    have E2 := Lib.hid (show p % (k : Int) = row p q 0 1 2 % (k : Int) by simp [row])
    have E1 := Lib.hid (show (1 : Int) % (k : Int) = row p q 0 1 1 % (k : Int) by simp [row])
    clear hp hm h hR hg hgz ha
    go_enter Try.func37, Try.ntmps37
    go_wp2_with fail
    refine (specPairOk_yes p q _ HP.out).mono ?_
    rintro e w1 ⟨rfl, hh1⟩
    obtain ⟨hc1, hf1⟩ := bcell hh1
    have hz1 := hh1.size
    try simp only [World.size_alloc] at hz1
    have hz1_0 : w.heap.size < w1.heap.size := by omega
    have kb1_0_0 : w1.cell? ⟨w.heap.size, 0, none⟩ = some (.int .i64 p) := by go_simp
    have kf1_0_0 : w1.frozen? ⟨w.heap.size, 0, none⟩ = false := by go_simp
    have kb1_0_1 : w1.cell? ⟨w.heap.size, 1, none⟩ = some (.int .i64 q) := by go_simp
    have kf1_0_1 : w1.frozen? ⟨w.heap.size, 1, none⟩ = false := by go_simp
    clear hc1 hf1
    go_wp2_with fail
    refine (l1In_yes _ 1 400 _ HM.out).mono ?_
    rintro e wx ⟨rfl, rfl⟩
    go_wp2_with fail
    refine (l1Common_is q _ 1 _ (by omega) (by omega) (by omega) (by omega) HG.out).mono ?_
    rintro e wx ⟨rfl, rfl⟩
    go_wp2_with fail
    refine (l3Left_at _ _ _ _ m1 m3 E2.out).mono ?_
    rintro e wx ⟨rfl, rfl⟩
    go_wp2_with fail
    go_loop [6, 7, 8] (fun x y c => ∃ n : Nat, 1 ≤ n ∧ n ≤ R ∧ x = .int .i64 (row p q 0 1 n % (k : Int)) ∧ y = .int .i64 (row p q 0 1 (n + 1) % (k : Int)) ∧ c = .int .i64 n) (fun _ _ c => R - (intOf c).toNat)
    case atStart => exact ⟨1, Nat.le_refl _, b1, congrArg (Value.int .i64) E1.out, rfl, rfl⟩
    case round =>
      obtain ⟨n, n1, n2, rfl, rfl, rfl⟩ := hrel
      by_cases he : n = R
      · have ht : (row p q 0 1 n % (k : Int) == 0) = true := by rw [HL.out n n1 n2]; simpa using he
        have HE := Lib.hid he
        clear he
        rw [beq_iff_eq] at ht
        go_wp2
        go_ret2
        exact ⟨ret_int_bool (by rw [HV.out, HE.out]) rfl, by (repeat (first | exact Below.refl _ _ | refine Below.setCell ?_ (by first | omega | (simp <;> omega)) _ | refine Below.alloc ?_ (by first | omega | (simp <;> omega)) _ | refine Below.drew ?_ | refine Below.trans ?_ (Below.mono (by assumption) (by first | omega | (simp <;> omega))) | refine Below.grown ?_ (by assumption) (by first | omega | (simp <;> omega)) (fun k e => by cases e; first | omega | (simp <;> omega))))⟩
      · have ht : (row p q 0 1 n % (k : Int) == 0) = false := by rw [HL.out n n1 n2]; simpa using he
        obtain ⟨a0, a1⟩ := left_bd (row p q 0 1 n) k m1
        obtain ⟨c0, c1⟩ := left_bd (row p q 0 1 (n + 1)) k m1
        obtain ⟨x1, x2⟩ := mul_bd (b := 400) r1 r2 (show -400 ≤ row p q 0 1 (n + 1) % (k : Int) by omega) (by omega)
        obtain ⟨x3, x4⟩ := mul_bd (b := 400) r3 r4 (show -400 ≤ row p q 0 1 n % (k : Int) by omega) (by omega)
        have E := Lib.hid (far_next p q k n)
        go_wp2_with fail
        refine (l3Left_at _ _ _ _ m1 m3 E.out).mono ?_
        rintro e wx ⟨rfl, rfl⟩
        go_wp2
        go_round
        case rel => exact ⟨n + 1, by omega, by omega, rfl, rfl, congrArg (Value.int .i64) (by omega)⟩
        case measure => simp [intOf]; omega
  | false =>
    have HV := Lib.hid (show rankV p q m = -1 by rw [rankV, if_neg (by simp [h])])
    rcases rankB_ways h with hp | ⟨hp, hq⟩ | ⟨hp, hq, hm⟩ | ⟨hp, hq, hm, hg⟩
    · have HP := Lib.hid hp
      clear hp h
      go_enter Try.func37, Try.ntmps37
      go_wp2_with fail
      refine (specPairOk_no p q _ HP.out).mono ?_
      rintro e w1 ⟨rfl, hh1⟩
      obtain ⟨hc1, hf1⟩ := bcell hh1
      have hz1 := hh1.size
      try simp only [World.size_alloc] at hz1
      have hz1_0 : w.heap.size < w1.heap.size := by omega
      have kb1_0_0 : w1.cell? ⟨w.heap.size, 0, none⟩ = some (.int .i64 p) := by go_simp
      have kf1_0_0 : w1.frozen? ⟨w.heap.size, 0, none⟩ = false := by go_simp
      have kb1_0_1 : w1.cell? ⟨w.heap.size, 1, none⟩ = some (.int .i64 q) := by go_simp
      have kf1_0_1 : w1.frozen? ⟨w.heap.size, 1, none⟩ = false := by go_simp
      clear hc1 hf1
      go_wp2
      go_ret2
      exact ⟨ret_int_bool HV.out.symm rfl, by (repeat (first | exact Below.refl _ _ | refine Below.setCell ?_ (by first | omega | (simp <;> omega)) _ | refine Below.alloc ?_ (by first | omega | (simp <;> omega)) _ | refine Below.drew ?_ | refine Below.trans ?_ (Below.mono (by assumption) (by first | omega | (simp <;> omega))) | refine Below.grown ?_ (by assumption) (by first | omega | (simp <;> omega)) (fun k e => by cases e; first | omega | (simp <;> omega))))⟩
    · have HP := Lib.hid hp
      have hqz : (q == 0) = true := by simpa using hq
      clear hp h hq
      go_enter Try.func37, Try.ntmps37
      go_wp2_with fail
      refine (specPairOk_yes p q _ HP.out).mono ?_
      rintro e w1 ⟨rfl, hh1⟩
      obtain ⟨hc1, hf1⟩ := bcell hh1
      have hz1 := hh1.size
      try simp only [World.size_alloc] at hz1
      have hz1_0 : w.heap.size < w1.heap.size := by omega
      have kb1_0_0 : w1.cell? ⟨w.heap.size, 0, none⟩ = some (.int .i64 p) := by go_simp
      have kf1_0_0 : w1.frozen? ⟨w.heap.size, 0, none⟩ = false := by go_simp
      have kb1_0_1 : w1.cell? ⟨w.heap.size, 1, none⟩ = some (.int .i64 q) := by go_simp
      have kf1_0_1 : w1.frozen? ⟨w.heap.size, 1, none⟩ = false := by go_simp
      clear hc1 hf1
      go_wp2
      go_ret2
      exact ⟨ret_int_bool HV.out.symm rfl, by (repeat (first | exact Below.refl _ _ | refine Below.setCell ?_ (by first | omega | (simp <;> omega)) _ | refine Below.alloc ?_ (by first | omega | (simp <;> omega)) _ | refine Below.drew ?_ | refine Below.trans ?_ (Below.mono (by assumption) (by first | omega | (simp <;> omega))) | refine Below.grown ?_ (by assumption) (by first | omega | (simp <;> omega)) (fun k e => by cases e; first | omega | (simp <;> omega))))⟩
    · have HP := Lib.hid hp
      have HM := Lib.hid hm
      have hqz : (q == 0) = false := by simpa using hq
      clear hp h hm
      go_enter Try.func37, Try.ntmps37
      go_wp2_with fail
      refine (specPairOk_yes p q _ HP.out).mono ?_
      rintro e w1 ⟨rfl, hh1⟩
      obtain ⟨hc1, hf1⟩ := bcell hh1
      have hz1 := hh1.size
      try simp only [World.size_alloc] at hz1
      have hz1_0 : w.heap.size < w1.heap.size := by omega
      have kb1_0_0 : w1.cell? ⟨w.heap.size, 0, none⟩ = some (.int .i64 p) := by go_simp
      have kf1_0_0 : w1.frozen? ⟨w.heap.size, 0, none⟩ = false := by go_simp
      have kb1_0_1 : w1.cell? ⟨w.heap.size, 1, none⟩ = some (.int .i64 q) := by go_simp
      have kf1_0_1 : w1.frozen? ⟨w.heap.size, 1, none⟩ = false := by go_simp
      clear hc1 hf1
      go_wp2_with fail
      refine (l1In_no _ 1 400 _ HM.out).mono ?_
      rintro e wx ⟨rfl, rfl⟩
      go_wp2
      go_ret2
      exact ⟨ret_int_bool HV.out.symm rfl, by (repeat (first | exact Below.refl _ _ | refine Below.setCell ?_ (by first | omega | (simp <;> omega)) _ | refine Below.alloc ?_ (by first | omega | (simp <;> omega)) _ | refine Below.drew ?_ | refine Below.trans ?_ (Below.mono (by assumption) (by first | omega | (simp <;> omega))) | refine Below.grown ?_ (by assumption) (by first | omega | (simp <;> omega)) (fun k e => by cases e; first | omega | (simp <;> omega))))⟩
    · have HP := Lib.hid hp
      have HM := Lib.hid hm
      obtain ⟨m1, m2⟩ := inB_true hm
      obtain ⟨⟨r1, r2⟩, r3, r4⟩ := pairB_true hp
      have hqz : (q == 0) = false := by simpa using hq
      have hgz : (((Int.gcd q m : Nat) : Int) == 1) = false := by simp; omega
      clear hp h hm
      go_enter Try.func37, Try.ntmps37
      go_wp2_with fail
      refine (specPairOk_yes p q _ HP.out).mono ?_
      rintro e w1 ⟨rfl, hh1⟩
      obtain ⟨hc1, hf1⟩ := bcell hh1
      have hz1 := hh1.size
      try simp only [World.size_alloc] at hz1
      have hz1_0 : w.heap.size < w1.heap.size := by omega
      have kb1_0_0 : w1.cell? ⟨w.heap.size, 0, none⟩ = some (.int .i64 p) := by go_simp
      have kf1_0_0 : w1.frozen? ⟨w.heap.size, 0, none⟩ = false := by go_simp
      have kb1_0_1 : w1.cell? ⟨w.heap.size, 1, none⟩ = some (.int .i64 q) := by go_simp
      have kf1_0_1 : w1.frozen? ⟨w.heap.size, 1, none⟩ = false := by go_simp
      clear hc1 hf1
      go_wp2_with fail
      refine (l1In_yes _ 1 400 _ HM.out).mono ?_
      rintro e wx ⟨rfl, rfl⟩
      go_wp2_with fail
      refine (l1Common_at q m _ (by omega) (by omega) (by omega) (by omega)).mono ?_
      rintro e wx ⟨rfl, rfl⟩
      go_wp2
      go_ret2
      exact ⟨ret_int_bool HV.out.symm rfl, by (repeat (first | exact Below.refl _ _ | refine Below.setCell ?_ (by first | omega | (simp <;> omega)) _ | refine Below.alloc ?_ (by first | omega | (simp <;> omega)) _ | refine Below.drew ?_ | refine Below.trans ?_ (Below.mono (by assumption) (by first | omega | (simp <;> omega))) | refine Below.grown ?_ (by assumption) (by first | omega | (simp <;> omega)) (fun k e => by cases e; first | omega | (simp <;> omega))))⟩
theorem specRank_is (p q m v : Int) (c : Bool) (w : World) (hv : rankV p q m = v) (hc : rankB p q m = c) : Calls Try.prog 37 #[pr p q, .int .i64 m] w fun e w' => e = .returned (.tuple #[.int .i64 v, .bool c]) ∧ Below w.heap.size w w' := by rw [← hv, ← hc]; exact specRank_any p q m w
end Go.Proofs.Ytfihmcpigbpgpaa
namespace Go.Proofs.Ytfihmcpigbpgpaa
open Go.RowKit
/-- Whether a number divides at a place; the numbers of a rank; the least number that two numbers divide. -/
def dividesB (p q m n : Int) : Bool := rankB p q m && (inB n 0 1000000000 && decide (rankN p q m.toNat ∣ n.toNat))
def sameB (p q : Int) (n j : Nat) : Bool := decide (1 ≤ j) && (rankB p q (j : Int) && decide (rankN p q j = n))
def sameL (p q n : Int) : List Nat := if inB n 1 200 = true then holdL (sameB p q n.toNat) 101 else []
def leastB (a b : Int) : Bool := inB a 1 200000 && inB b 1 200000
def leastV (a b : Int) : Int := if leastB a b = true then (Nat.lcm a.toNat b.toNat : Int) else -1
theorem div_test (k R : Nat) : ((k : Int) % (R : Int) == 0) = decide (R ∣ k) := by
  rw [Bool.eq_iff_iff, left_zero_iff, decide_eq_true_iff]
  exact Int.natCast_dvd_natCast
theorem lcm_le (i j : Nat) : Nat.lcm i j ≤ i * j := Nat.div_le_self _ _
theorem sameB_test (p q : Int) (n j : Nat) (hj : 1 ≤ j) : sameB p q n j = (rankB p q j && (rankV p q j == (n : Int))) := by
  cases h : rankB p q j with
  | false => simp [sameB, h]
  | true =>
    have e : ((rankN p q j : Int) == (n : Int)) = decide (rankN p q j = n) := by rw [Bool.eq_iff_iff, beq_iff_eq, decide_eq_true_iff]; omega
    rw [rankV_is h, e]
    simp [sameB, h, hj]
end Go.Proofs.Ytfihmcpigbpgpaa
namespace Go.Proofs.Ytfihmcpigbpgpaa
open Go.RowKit Go.Shelf
attribute [local go_sem] Oper.semAt_some
set_option maxHeartbeats 400000 in
theorem primePowers_any (k : Int) (w : World) :
    Calls Try.prog 52 #[.int .i64 k] w fun e w' => e = .returned (.func (.func 61) #[] #[.pointer (some ⟨w.heap.size, 0, none⟩)]) ∧ w' = w.alloc (.cells #[.int .i64 k] 3) := by
  have hmf : ∀ (fn : Fn) (first cap : Array Value) (w : World), (Instr.makeFunc fn first cap).run Try.prog w = .ok (.func fn first cap) w := fun _ _ _ _ => rfl
  go_enter Try.func52, Try.ntmps52
  go_wp2
  go_ret
  exact ⟨rfl, rfl⟩
set_option maxHeartbeats 4000000 in
theorem primePowers_counted (n : Nat) (hn : 1 ≤ n) (m B : Nat) (w : World) (m1 : 1 ≤ m) (m2 : m ≤ 10000) :
    Counted Fence.wide n Try.prog 61 #[.pointer (some ⟨B, 0, none⟩)] (fun k => #[.int .i64 ((ppL m).getD k 0 : Nat)]) (fun V => V.cell? ⟨B, 0, none⟩ = some (.int .i64 m)) (ppL m).length w := by
  intro l J X W hW hJ hX hKp hY h0
  have c0 := hKp 0 W h0
  refine callsIn_of_wp Try.func61 rfl trivial ?_ rfl
  simp only [Try.ntmps61, List.size_toArray, List.length_cons, List.length_nil, Nat.reduceAdd, Nat.reduceSub, Array.replicate_succ, Array.replicate_zero, List.push_toArray, List.append_toArray, List.nil_append, List.cons_append]
  gi_wp2
  clear c0
  gi_loopg [3, 4, 5] m (fun r x y _ wr => ∃ p s k : Nat, p + r = m + 2 ∧ x = .int .i64 s ∧ y = .int .i64 p ∧ PPState m k p s ∧ J k wr)
  case atStart => exact ⟨2, m, 0, by omega, rfl, rfl, PPState.start m1, h0⟩
  case round =>
    obtain ⟨p, s, k, hpr, rfl, rfl, hst, hj⟩ := hrel
    obtain ⟨g0, hg0⟩ : ∃ g0, gk = g0 := ⟨_, rfl⟩
    have p2 := hst.1
    have s1 := hst.2.1
    have s2 := hst.2.2.1
    by_cases hs : 1 < s
    · have hps := hst.big hs
      have hd : decide ((1 : Int) < (s : Int)) = true := by simp; omega
      have hz : ((p : Int) == 0) = false := by simp; omega
      have HST := Lib.hid hst
      clear hst
      gi_wp2
      gi_loopg [3, 5] s (fun r x y wr => ∃ t u : Nat, t = r ∧ x = .int .i64 t ∧ y = .int .i64 u ∧ PowState p s t u ∧ J k wr)
      case atStart => exact ⟨s, 1, rfl, rfl, rfl, PowState.start s1, hj⟩
      case round =>
        obtain ⟨t, u, rfl, rfl, rfl, hpw, hj'⟩ := hrel
        obtain ⟨t2, u2⟩ := hpw.bd
        have t1 := hpw.1.1
        have HPW := Lib.hid hpw
        clear hpw
        by_cases hdv : p ∣ t
        · have hT : ((t : Int) % (p : Int) == 0) = true := by rw [div_test]; simpa using hdv
          have hlt : t / p < t := Nat.div_lt_self t1 p2
          have HN := Lib.hid (HPW.out.next p2 (Nat.mod_eq_zero_of_dvd hdv))
          obtain ⟨c, hc⟩ : ∃ c, t / p = c := ⟨_, rfl⟩
          have EC := Lib.hid (show (t : Int) / (p : Int) = (c : Int) by rw [← hc]; simp)
          rw [hc] at HN hlt
          obtain ⟨hb1, hb2⟩ := HN.out.bd
          have EM := Lib.hid (show (u : Int) * (p : Int) = ((u * p : Nat) : Int) by simp)
          have U1 : IntKind.i64.wrap ((u : Int) * (p : Int)) = (u : Int) * (p : Int) := by rw [EM.out, IntKind.wrap_i64]; omega
          have U2 : IntKind.i64.wrap ((t : Int) / (p : Int)) = (t : Int) / (p : Int) := by rw [EC.out, IntKind.wrap_i64]; omega
          clear hdv hb1 hb2 hc
          gi_wp2
          gi_roundg c
          case measure => omega
          case rel => exact ⟨c, u * p, rfl, congrArg (Value.int .i64) EC.out, congrArg (Value.int .i64) EM.out, HN.out, hj'⟩
        · have hT : ((t : Int) % (p : Int) == 0) = false := by rw [div_test]; simpa using hdv
          obtain ⟨e1, e2⟩ := HPW.out.done (fun h => hdv (Nat.dvd_of_mod_eq_zero h))
          by_cases hw : 1 < u
          · obtain ⟨hk, hg, hst'⟩ := HST.out.yes hs (by rw [← e1]; exact hw)
            rw [← e1] at hg
            rw [← e2] at hst'
            obtain ⟨fn, tmps, assign, body, hy, hR⟩ := hY k _ hk hj'
            simp only [hg] at hy
            have HS := Lib.hid hst'
            clear hg hst' e1 e2 hdv HPW HST
            gi_wp2
            refine hR.mono ?_
            rintro e W3 (⟨rfl, hj3⟩ | ⟨rfl, hx3⟩)
            · gi_wp2
              gi_roundg (g0 - 1)
              case measure => omega
              case rel => exact ⟨p + 1, t, k + 1, by omega, rfl, congrArg (Value.int .i64) (by omega), HS.out, hj3⟩
            · gi_wp2
              refine bodyPost_ret (results_none rfl _ _ _) rfl ?_
              exact ⟨⟨_, rfl⟩, .inr ⟨k, hk, hx3⟩⟩
          · have hst' := HST.out.no hs (by rw [← e1]; exact hw)
            rw [← e2] at hst'
            have HS := Lib.hid hst'
            have hw' : u ≤ 1 := by omega
            clear hst' e1 e2 hdv HPW HST hw
            gi_wp2
            refine ⟨fun f e => (by cases e), ?_⟩
            gi_wp2
            gi_roundg (g0 - 1)
            case measure => omega
            case rel => exact ⟨p + 1, t, k, by omega, rfl, congrArg (Value.int .i64) (by omega), HS.out, hj'⟩
    · have he := hst.done hs
      rw [he] at hj
      have hs' : s ≤ 1 := by omega
      clear hst he hs
      gi_wp2
      go_end0
      exact ⟨⟨_, rfl⟩, .inl hj⟩
end Go.Proofs.Ytfihmcpigbpgpaa
namespace Go.Proofs.Ytfihmcpigbpgpaa
open Go.RowKit
/-- What a draw of a pair and two numbers returns. -/
def DrawnAny (w : World) (e : Ending) (w' : World) : Prop :=
  ∃ p q a b : Int, e = .returned (.tuple #[pr p q, .int .i64 a, .int .i64 b]) ∧ Below w.heap.size w w'
/-- What a draw of three numbers returns. -/
def DrawnThree (w : World) (e : Ending) (w' : World) : Prop :=
  ∃ a b c : Int, e = .returned (.tuple #[.int .i64 a, .int .i64 b, .int .i64 c]) ∧ Below w.heap.size w w'
end Go.Proofs.Ytfihmcpigbpgpaa
namespace Go.Proofs.Ytfihmcpigbpgpaa
open Go.RowKit
theorem farB_mk {p q n m : Int} (k : Nat) (hn : n = k) (hp : pairB p q = true) (hk : k ≤ 1000000000) (m1 : 1 ≤ m) (m2 : m ≤ 10000) : farB p q n m = true := by
  simp [farB, hp, inB_mk (n := n) (a := 0) (b := 1000000000) (by omega) (by omega), inB_mk m1 m2]
theorem farB_no {p q n m : Int} (h : n < 0 ∨ 1000000000 < n) : farB p q n m = false := by
  simp [farB, inB_no h]
theorem powB_mk {a n m : Int} (k : Nat) (hn : n = k) (a1 : -10000 ≤ a) (a2 : a ≤ 10000) (hk : k ≤ 1000000000) (m1 : 1 ≤ m) (m2 : m ≤ 10000) : powB a n m = true := by
  simp [powB, inB_mk a1 a2, inB_mk (n := n) (a := 0) (b := 1000000000) (by omega) (by omega), inB_mk m1 m2]
theorem powB_no {a n m : Int} (h : n < 0 ∨ 1000000000 < n) : powB a n m = false := by
  simp [powB, inB_no h]
theorem implFarFirst_at (p q m : Int) (k : Nat) (v n : Int) (w : World) (hn : n = k) (hp : pairB p q = true) (hk : k ≤ 1000000000) (m1 : 1 ≤ m) (m2 : m ≤ 10000) (hv : row p q 0 1 k % m = v) :
    Calls Try.prog 23 #[pr p q, .int .i64 n, .int .i64 m] w fun e w' => e = .returned (.int .i64 v) ∧ Below w.heap.size w w' := by
  have := implFarFirst_any p q n m w
  rw [farFirstV, if_pos (farB_mk k hn hp hk m1 m2), hn] at this
  subst hv
  subst hn
  exact this
theorem implFarFirst_no (p q n m : Int) (w : World) (h : farB p q n m = false) :
    Calls Try.prog 23 #[pr p q, .int .i64 n, .int .i64 m] w fun e w' => e = .returned (.int .i64 (-1)) ∧ Below w.heap.size w w' := by
  have := implFarFirst_any p q n m w
  rw [farFirstV, if_neg (by simp [h])] at this
  exact this
theorem rowLeftN_is (p q m x : Int) (k : Nat) (hx : x = k) (hp : pairB p q = true) (hk : k ≤ 200) (m1 : 1 ≤ m) (m2 : m ≤ 10000) : rowLeftN p q x m = k + 1 := by
  have h : rowLeftB p q x m = true := by simp [rowLeftB, hp, inB_mk (n := x) (a := 0) (b := 200) (by omega) (by omega), inB_mk m1 m2]
  rw [rowLeftN, if_pos h]
  omega
theorem eqm_tmod (m x : Int) : Eqm m (x.tmod m) x := ⟨-(x.tdiv m), by have := Int.mul_tdiv_add_tmod x m; rw [Int.mul_neg]; omega⟩
theorem tmod_bd (n m : Int) (hm : 1 ≤ m) : -m < n.tmod m ∧ n.tmod m < m := by
  refine ⟨?_, Int.tmod_lt_of_pos n (by omega)⟩
  have := Int.tmod_lt_of_pos (-n) (b := m) (by omega)
  rw [Int.neg_tmod] at this
  omega
/-- Seven places on. -/
theorem far_want (p q m : Int) (k : Nat) : (row p q 0 1 (k + 1) % m * (row p q 0 1 8).tmod m - q * (row p q 0 1 k % m * (row p q 0 1 7).tmod m).tmod m).tmod m % m = row p q 0 1 (k + 8) % m := by
  refine Eqm.left ((eqm_tmod m _).trans ?_)
  refine Eqm.trans (((Eqm.refl m _).mul (eqm_tmod m _)).sub ((Eqm.refl m q).mul ((eqm_tmod m _).trans ((Eqm.refl m _).mul (eqm_tmod m _))))) ?_
  exact far_add p q m k 7
theorem eqm_tmod_zero {m x y : Int} (h : Eqm m x y) : ((x - y).tmod m == 0) = true := by
  rw [Int.tmod_eq_zero_of_dvd h]; rfl
end Go.Proofs.Ytfihmcpigbpgpaa
namespace Go.Proofs.Ytfihmcpigbpgpaa
theorem prime_mem {m : Nat} : m ∈ primes400 ↔ 2 ≤ m ∧ m ≤ 400 ∧ ∀ d, 2 ≤ d → d < m → m % d ≠ 0 := by
  simp only [primes400, List.mem_filter, List.mem_range, Bool.and_eq_true, decide_eq_true_iff, List.all_eq_true, Bool.or_eq_true]
  constructor
  · rintro ⟨h1, h2, h3⟩
    refine ⟨h2, by omega, fun d d1 d2 => ?_⟩
    rcases h3 d d2 with h | h
    · omega
    · exact h
  · rintro ⟨h1, h2, h3⟩
    refine ⟨by omega, h1, fun d hd => ?_⟩
    by_cases h : d < 2
    · exact .inl h
    · exact .inr (h3 d (by omega) hd)
theorem pow9 {n : Nat} (h : n ≤ 401) : n < 2 ^ 9 := Nat.lt_of_le_of_lt h (by decide)
theorem chk_at {m : Nat} (hm : m ∈ primes400) (h2 : m ≠ 2) {p q : Int} (r1 : -4 ≤ p) (r2 : p ≤ 4) (r3 : -4 ≤ q) (r4 : q ≤ 4) : chkPair m p q = true := by
  have h := List.all_eq_true.1 chk_all m hm
  rw [Bool.or_eq_true, beq_iff_eq] at h
  rcases h with h | h
  · exact absurd h h2
  · have hi := List.all_eq_true.1 h (p + 4).toNat (by simp; omega)
    have hj := List.all_eq_true.1 hi (q + 4).toNat (by simp; omega)
    rw [show (((p + 4).toNat : Nat) : Int) - 4 = p by omega, show (((q + 4).toNat : Nat) : Int) - 4 = q by omega] at hj
    exact hj
/-- At an odd prime the first row leaves what the power of the weight does, and the second one P. -/
theorem at_prime {m : Nat} (hm : m ∈ primes400) (h2 : m ≠ 2) {p q : Int} (r1 : -4 ≤ p) (r2 : p ≤ 4) (r3 : -4 ≤ q) (r4 : q ≤ 4) :
    row p q 0 1 m % (m : Int) = (p * p - 4 * q) ^ (m / 2) % (m : Int) ∧ row p q 2 p m % (m : Int) = p % (m : Int) := by
  have h := chk_at hm h2 r1 r2 r3 r4
  have hb := (prime_mem.1 hm).2.1
  rw [chkPair, fastL_is p q m 9 m (pow9 (by omega)), fastP_is _ m 9 (m / 2) (pow9 (by omega))] at h
  simp only [Bool.and_eq_true, beq_iff_eq] at h
  refine ⟨h.1.1, ?_⟩
  rw [← far_second]
  exact h.1.2
/-- A prime that divides neither Q nor the weight divides the first row beside itself. -/
theorem beside {m : Nat} (hm : m ∈ primes400) (h2 : m ≠ 2) {p q : Int} (r1 : -4 ≤ p) (r2 : p ≤ 4) (r3 : -4 ≤ q) (r4 : q ≤ 4) (hq : q % (m : Int) ≠ 0) (hd : (p * p - 4 * q) % (m : Int) ≠ 0) :
    ((p * p - 4 * q) ^ (m / 2) % (m : Int) = 1 ∧ row p q 0 1 (m - 1) % (m : Int) = 0) ∨ ((p * p - 4 * q) ^ (m / 2) % (m : Int) = (m : Int) - 1 ∧ row p q 0 1 (m + 1) % (m : Int) = 0) := by
  have h := chk_at hm h2 r1 r2 r3 r4
  have hb := (prime_mem.1 hm).2.1
  rw [chkPair, fastL_is p q m 9 m (pow9 (by omega)), fastP_is _ m 9 (m / 2) (pow9 (by omega)), fastL_is p q m 9 (m - 1) (pow9 (by omega)), fastL_is p q m 9 (m + 1) (pow9 (by omega))] at h
  simp only [Bool.and_eq_true, Bool.or_eq_true, beq_iff_eq] at h
  rcases h.2 with (h3 | h3) | h3
  · exact absurd h3 hq
  · exact absurd h3 hd
  · split at h3
    · rename_i hs
      exact .inl ⟨hs, by simpa using h3⟩
    · simp only [Bool.and_eq_true, beq_iff_eq] at h3
      exact .inr h3
/-- The sign of a number: whether it leaves what a square does. -/
def signN (n : Int) (m : Nat) : Int := if n % (m : Int) = 0 then 0 else if sqN m (n % (m : Int)).toNat = true then 1 else -1
theorem sqN_iff {m r : Nat} : sqN m r = true ↔ ∃ k, k < m ∧ k * k % m = r := by
  simp only [sqN, List.any_eq_true, List.mem_range, beq_iff_eq]
theorem chkE_at {m : Nat} (hm : m ∈ primes400) (h2 : m ≠ 2) : chkE m = true := by
  have h := List.all_eq_true.1 chkE_low m hm
  have h' := List.all_eq_true.1 chkE_high m hm
  simp only [Bool.or_eq_true, beq_iff_eq, decide_eq_true_iff] at h h'
  rcases h with (h | h) | h
  · exact absurd h h2
  · rcases h' with (h' | h') | h'
    · exact absurd h' h2
    · omega
    · exact h'
  · exact h
theorem chkS_at {m : Nat} (hm : m ∈ primes400) (h2 : m ≠ 2) : chkS m = true := by
  have h := List.all_eq_true.1 chkS_all m hm
  simp only [Bool.or_eq_true, beq_iff_eq] at h
  rcases h with h | h
  · exact absurd h h2
  · exact h
/-- Powers tell squares. -/
theorem euler {m : Nat} (hm : m ∈ primes400) (h2 : m ≠ 2) (n : Int) : n ^ (m / 2) % (m : Int) = (signN n m + m) % (m : Int) := by
  obtain ⟨b1, b2, _⟩ := prime_mem.1 hm
  have m0 : (0 : Int) < m := by omega
  have n0 := Int.emod_nonneg n (show (m : Int) ≠ 0 by omega)
  have n1 := Int.emod_lt_of_pos n m0
  obtain ⟨r, hr⟩ := Int.eq_ofNat_of_zero_le n0
  have hpow : n ^ (m / 2) % (m : Int) = fastP (r : Int) m 9 (m / 2) := by
    rw [fastP_is _ m 9 (m / 2) (pow9 (by omega))]
    refine Eqm.left (Eqm.pow ?_ _)
    rw [show (r : Int) = n % (m : Int) from hr.symm]
    exact (eqm_left _ _).symm
  have hE := List.all_eq_true.1 (chkE_at hm h2) r (by simp; omega)
  rw [hpow, signN, hr]
  simp only [Int.toNat_natCast]
  by_cases hr0 : r = 0
  · subst hr0
    simp only [if_true, beq_iff_eq] at hE
    rw [hE]; simp
  · simp only [if_neg hr0] at hE
    rw [if_neg (by omega)]
    by_cases hs : fastP (r : Int) m 9 (m / 2) = 1
    · rw [if_pos hs] at hE
      have hsq : sqN m r = true := by
        by_cases h4 : m % 4 = 3
        · rw [if_pos h4, beq_iff_eq] at hE
          generalize ht : fastP (r : Int) m 9 ((m + 1) / 4) = t at hE
          rw [fastP_is _ m 9 _ (pow9 (by omega))] at ht
          have t0 : 0 ≤ t := by rw [← ht]; exact Int.emod_nonneg _ (by omega)
          have t1 : t < m := by rw [← ht]; exact Int.emod_lt_of_pos _ m0
          obtain ⟨k, rfl⟩ := Int.eq_ofNat_of_zero_le t0
          refine sqN_iff.2 ⟨k, by omega, ?_⟩
          have : (((k * k % m : Nat)) : Int) = (r : Int) := by rw [← hE]; simp
          omega
        · rw [if_neg h4] at hE; exact hE
      rw [hs, if_pos hsq]
      rw [Int.add_emod_right, Int.emod_eq_of_lt (by omega) (by omega)]
    · rw [if_neg hs, beq_iff_eq] at hE
      have hsq : ¬ sqN m r = true := by
        intro h
        obtain ⟨k, k1, k2⟩ := sqN_iff.1 h
        have hS := List.all_eq_true.1 (chkS_at hm h2) k (by simp; omega)
        rw [Bool.or_eq_true, decide_eq_true_iff, beq_iff_eq, k2] at hS
        rcases hS with hS | hS
        · subst hS; simp at k2; omega
        · exact hs hS
      rw [hE, if_neg hsq]
      rw [Int.emod_eq_of_lt (by omega) (by omega)]
      omega
end Go.Proofs.Ytfihmcpigbpgpaa
namespace Go.Proofs.Ytfihmcpigbpgpaa
open Go.RowKit
def primeB (n : Int) : Bool := decide (0 ≤ n) && decide (n.toNat ∈ primes400)
theorem primeB_true {n : Int} (h : primeB n = true) : ∃ m : Nat, n = m ∧ m ∈ primes400 ∧ 2 ≤ m ∧ m ≤ 400 := by
  have h' : 0 ≤ n ∧ n.toNat ∈ primes400 := by simpa [primeB] using h
  obtain ⟨h1, h2, _⟩ := prime_mem.1 h'.2
  exact ⟨n.toNat, by omega, h'.2, h1, h2⟩
theorem primeB_nat (m : Nat) : primeB (m : Int) = decide (m ∈ primes400) := by simp [primeB]
theorem primeB_no {n : Int} (h : n < 2 ∨ 400 < n) : primeB n = false := by
  cases hb : primeB n with
  | false => rfl
  | true => obtain ⟨m, rfl, _, h1, h2⟩ := primeB_true hb; omega
theorem prime_root {m d : Nat} (h2 : 2 ≤ m) (h4 : m ≤ 400) (hn : ∀ e : Nat, 2 ≤ e → e < d → ¬ e ∣ m) (hd : m < d * d) : m ∈ primes400 := by
  refine prime_mem.2 ⟨h2, h4, fun e e1 e2 he => ?_⟩
  have hdv := Nat.dvd_of_mod_eq_zero he
  rcases Nat.lt_or_ge e d with h | h
  · exact hn e e1 h hdv
  · obtain ⟨c, hc⟩ := hdv
    have hcd : c < d := by
      rcases Nat.lt_or_ge c d with h' | h'
      · exact h'
      · have := Nat.mul_le_mul h h'; omega
    have hc2 : 2 ≤ c := by
      rcases Nat.lt_or_ge c 2 with h' | h'
      · have : c = 0 ∨ c = 1 := by omega
        rcases this with rfl | rfl
        · omega
        · rw [Nat.mul_one] at hc; omega
      · exact h'
    exact hn c hc2 hcd ⟨e, by rw [hc, Nat.mul_comm]⟩
theorem prime_not {m d : Nat} (d2 : 2 ≤ d) (hdv : d ∣ m) (hd : d * d ≤ m) : m ∉ primes400 := by
  intro hm
  obtain ⟨_, _, h⟩ := prime_mem.1 hm
  refine h d d2 ?_ (Nat.mod_eq_zero_of_dvd hdv)
  have := Nat.mul_le_mul_left d d2
  omega
set_option maxHeartbeats 4000000 in
theorem specPrime_any (n : Int) (w : World) : Calls Try.prog 32 #[.int .i64 n] w fun e w' => e = .returned (.bool (primeB n)) ∧ w = w' := by
  go_enter Try.func32, Try.ntmps32
  go_wp2_with fail
  go_loop [3] (fun c => ∃ d : Nat, 2 ≤ d ∧ d ≤ 21 ∧ c = .int .i64 d ∧ ∀ e : Nat, 2 ≤ e → e < d → ¬ e ∣ n.toNat) (fun c => 30 - (intOf c).toNat)
  case atStart => exact ⟨2, by omega, by omega, rfl, fun e e1 e2 => by omega⟩
  case round =>
    obtain ⟨d, d2, d3, rfl, hno⟩ := hrel
    have HNO := Lib.hid hno
    clear hno
    have hdd : (d : Int) * (d : Int) = ((d * d : Nat) : Int) := by simp
    have hb := Nat.mul_le_mul d3 d3
    have U : IntKind.i64.wrap ((d : Int) * (d : Int)) = (d : Int) * (d : Int) := by rw [IntKind.wrap_i64, hdd]; omega
    by_cases h1 : d * d ≤ n.toNat ∧ 2 ≤ n
    · have h1i : (d : Int) * (d : Int) ≤ n := by rw [hdd]; omega
      by_cases h2 : n ≤ 400
      · obtain ⟨m, rfl⟩ := Int.eq_ofNat_of_zero_le (show 0 ≤ n by omega)
        have hm : ((m : Int)).toNat = m := by simp
        rw [hm] at HNO h1
        have hd20 : d ≤ 20 := by
          rcases Nat.lt_or_ge d 21 with h | h
          · omega
          · have := Nat.mul_le_mul h h; omega
        have hz : ((d : Int) == 0) = false := by simp; omega
        by_cases hdv : d ∣ m
        · have hT : ((m : Int) % (d : Int) == 0) = true := by rw [div_test]; simpa using hdv
          have HV := Lib.hid (show primeB (m : Int) = false by rw [primeB_nat]; simpa using prime_not d2 hdv h1.1)
          rw [beq_iff_eq] at hT
          clear hdd hb hdv
          go_wp2
          go_ret
          exact ⟨ret_bool HV.out.symm, rfl⟩
        · have hT : ((m : Int) % (d : Int) == 0) = false := by rw [div_test]; simpa using hdv
          have HD := Lib.hid hdv
          clear hdd hb hdv
          go_wp2
          go_round
          case rel => exact ⟨d + 1, by omega, by omega, congrArg (Value.int .i64) (by omega), fun e e1 e2 he => by
            have he' : e ∣ m := by simpa using he
            rcases Nat.eq_or_lt_of_le (Nat.le_of_lt_succ e2) with rfl | h
            · exact HD.out he'
            · exact HNO.out e e1 h he'⟩
          case measure => simp [intOf]; omega
      · have h2' : 400 < n := by omega
        have HV := Lib.hid (show primeB n = false from primeB_no (.inr h2'))
        have HN := Lib.hid (show inB n 2 400 = false from inB_no (.inr h2'))
        clear hdd hb
        go_wp2_with fail
        refine (l1In_no n 2 400 _ HN.out).mono ?_
        rintro e wx ⟨rfl, rfl⟩
        go_wp2
        go_ret
        exact ⟨ret_bool HV.out.symm, rfl⟩
    · have h1i : n < (d : Int) * (d : Int) := by
        rw [hdd]
        rcases Int.lt_or_le n 2 with h | h
        · have := Nat.mul_le_mul d2 d2; omega
        · have h3 : ¬ d * d ≤ n.toNat := fun hh => h1 ⟨hh, h⟩
          omega
      by_cases h2 : 2 ≤ n ∧ n ≤ 400
      · have HV := Lib.hid (show primeB n = true by
          obtain ⟨m, rfl⟩ := Int.eq_ofNat_of_zero_le (show 0 ≤ n by omega)
          rw [primeB_nat]
          refine decide_eq_true (prime_root (d := d) (by omega) (by omega) ?_ (by rw [hdd] at h1i; omega))
          simpa using HNO.out)
        have HN := Lib.hid (show inB n 2 400 = true from inB_mk h2.1 h2.2)
        clear hdd hb
        go_wp2_with fail
        refine (l1In_yes n 2 400 _ HN.out).mono ?_
        rintro e wx ⟨rfl, rfl⟩
        go_wp2
        go_ret
        exact ⟨ret_bool HV.out.symm, rfl⟩
      · have HV := Lib.hid (show primeB n = false from primeB_no (by omega))
        have HN := Lib.hid (show inB n 2 400 = false from inB_no (by omega))
        clear hdd hb
        go_wp2_with fail
        refine (l1In_no n 2 400 _ HN.out).mono ?_
        rintro e wx ⟨rfl, rfl⟩
        go_wp2
        go_ret
        exact ⟨ret_bool HV.out.symm, rfl⟩
theorem specPrime_is (n : Int) (c : Bool) (w : World) (h : primeB n = c) : Calls Try.prog 32 #[.int .i64 n] w fun e w' => e = .returned (.bool c) ∧ w = w' := by rw [← h]; exact specPrime_any n w
def squareB (n p : Int) : Bool := primeB p && (decide (p ≠ 2) && inB n (-10000) 10000)
def squareV (n p : Int) : Int := if squareB n p = true then signN n p.toNat else 0
theorem squareV_no {n p : Int} (h : squareB n p = false) : squareV n p = 0 := by rw [squareV, if_neg (by simp [h])]
theorem squareV_is {n : Int} {m : Nat} (h : squareB n m = true) : squareV n m = signN n m := by rw [squareV, if_pos h]; rfl
theorem squareB_true {n p : Int} (h : squareB n p = true) : ∃ m : Nat, p = m ∧ m ∈ primes400 ∧ 2 ≤ m ∧ m ≤ 400 ∧ m ≠ 2 ∧ -10000 ≤ n ∧ n ≤ 10000 := by
  have h' : primeB p = true ∧ ¬ p = 2 ∧ inB n (-10000) 10000 = true := by simpa [squareB] using h
  obtain ⟨hp, h2, hn⟩ := h'
  obtain ⟨m, rfl, hm, m1, m2⟩ := primeB_true hp
  obtain ⟨n1, n2⟩ := inB_true hn
  exact ⟨m, rfl, hm, m1, m2, by omega, n1, n2⟩
theorem squareB_mk {n : Int} {m : Nat} (hm : m ∈ primes400) (h2 : m ≠ 2) (n1 : -10000 ≤ n) (n2 : n ≤ 10000) : squareB n m = true := by
  simp [squareB, primeB_nat, hm, inB_mk n1 n2]; omega
theorem squareB_ways {n p : Int} (h : squareB n p = false) : primeB p = false ∨ (primeB p = true ∧ p = 2) ∨ (primeB p = true ∧ p ≠ 2 ∧ inB n (-10000) 10000 = false) := by
  cases hp : primeB p with
  | false => exact .inl rfl
  | true =>
    by_cases h2 : p = 2
    · exact .inr (.inl ⟨rfl, h2⟩)
    · exact .inr (.inr ⟨rfl, h2, by simpa [squareB, hp, h2] using h⟩)
theorem sq_test (k m r : Nat) : ((k : Int) * (k : Int) % (m : Int) == (r : Int)) = decide (k * k % m = r) := by
  have e : (k : Int) * (k : Int) % (m : Int) = ((k * k % m : Nat) : Int) := by simp
  rw [e, Bool.eq_iff_iff, beq_iff_eq, decide_eq_true_iff]
  omega
end Go.Proofs.Ytfihmcpigbpgpaa
namespace Go.Proofs.Ytfihmcpigbpgpaa
open Go.RowKit
def fittingB (p q l : Int) : Bool := pairB p q && (decide (q ≠ 0) && (primeB l && (decide (2 < l) && (decide (¬ l ∣ q) && decide (¬ l ∣ p * p - 4 * q)))))
theorem rem_test (n d : Int) : (n.tmod d != 0) = decide (¬ d ∣ n) := by
  rw [Bool.eq_iff_iff, bne_iff_ne, decide_eq_true_iff]
  exact not_congr ⟨Int.dvd_of_tmod_eq_zero, Int.tmod_eq_zero_of_dvd⟩
theorem weight_bd {p q : Int} (h : pairB p q = true) : -16 ≤ p * p - 4 * q ∧ p * p - 4 * q ≤ 32 := by
  obtain ⟨⟨r1, r2⟩, r3, r4⟩ := pairB_true h
  rcases (show p = -4 ∨ p = -3 ∨ p = -2 ∨ p = -1 ∨ p = 0 ∨ p = 1 ∨ p = 2 ∨ p = 3 ∨ p = 4 by omega) with rfl | rfl | rfl | rfl | rfl | rfl | rfl | rfl | rfl <;> omega
theorem weightV_is {p q : Int} (h : pairB p q = true) : weightV p q = p * p - 4 * q := by rw [weightV, if_pos h]
theorem fittingB_true {p q l : Int} (h : fittingB p q l = true) : pairB p q = true ∧ q ≠ 0 ∧ (∃ m : Nat, l = m ∧ m ∈ primes400 ∧ 2 < m ∧ m ≤ 400) ∧ ¬ l ∣ q ∧ ¬ l ∣ p * p - 4 * q := by
  have h' : pairB p q = true ∧ ¬ q = 0 ∧ primeB l = true ∧ 2 < l ∧ ¬ l ∣ q ∧ ¬ l ∣ p * p - 4 * q := by simpa [fittingB] using h
  obtain ⟨hp, hq, hl, h2, h3, h4⟩ := h'
  obtain ⟨m, rfl, hm, m1, m2⟩ := primeB_true hl
  exact ⟨hp, hq, ⟨m, rfl, hm, by omega, m2⟩, h3, h4⟩
def placeByV (p q l : Int) : Int := if fittingB p q l = true then l - signN (p * p - 4 * q) l.toNat else -1
theorem placeByV_no {p q l : Int} (h : fittingB p q l = false) : placeByV p q l = -1 := by rw [placeByV, if_neg (by simp [h])]
theorem placeByV_is {p q : Int} {m : Nat} (h : fittingB p q m = true) : placeByV p q m = m - signN (p * p - 4 * q) m := by rw [placeByV, if_pos h]; rfl
theorem signN_bd (n : Int) (m : Nat) : -1 ≤ signN n m ∧ signN n m ≤ 1 := by
  rw [signN]
  split
  · omega
  · split <;> omega
def atPrimeB (p q l : Int) : Bool := pairB p q && primeB l
def atFirstV (p q l : Int) : Int := if atPrimeB p q l = true then row p q 0 1 l.toNat % l else -1
def atSecondV (p q l : Int) : Int := if atPrimeB p q l = true then row p q 2 p l.toNat % l else -1
end Go.Proofs.Ytfihmcpigbpgpaa
namespace Go.Proofs.Ytfihmcpigbpgpaa
open Go.RowKit
set_option maxHeartbeats 4000000 in
theorem leastDivisor_at (m : Nat) (w : World) (m2 : 2 ≤ m) (m4 : m ≤ 400) :
    Calls Try.prog 59 #[.int .i64 m] w fun e w' => (∃ d : Int, e = .returned (.int .i64 d) ∧ (d == (m : Int)) = primeB (m : Int)) ∧ w = w' := by
  go_enter Try.func59, Try.ntmps59
  go_wp2_with fail
  go_loop [3] (fun c => ∃ d : Nat, 2 ≤ d ∧ d ≤ 21 ∧ c = .int .i64 d ∧ ∀ e : Nat, 2 ≤ e → e < d → ¬ e ∣ m) (fun c => 30 - (intOf c).toNat)
  case atStart => exact ⟨2, by omega, by omega, rfl, fun e e1 e2 => by omega⟩
  case round =>
    obtain ⟨d, d2, d3, rfl, hno⟩ := hrel
    have HNO := Lib.hid hno
    clear hno
    have hdd : (d : Int) * (d : Int) = ((d * d : Nat) : Int) := by simp
    have hb := Nat.mul_le_mul d3 d3
    have U : IntKind.i64.wrap ((d : Int) * (d : Int)) = (d : Int) * (d : Int) := by rw [IntKind.wrap_i64, hdd]; omega
    by_cases h1 : d * d ≤ m
    · have h1i : (d : Int) * (d : Int) ≤ m := by rw [hdd]; omega
      have hd20 : d ≤ 20 := by
        rcases Nat.lt_or_ge d 21 with h | h
        · omega
        · have := Nat.mul_le_mul h h; omega
      have hz : ((d : Int) == 0) = false := by simp; omega
      have hm0 : 0 ≤ (m : Int) := by omega
      by_cases hdv : d ∣ m
      · have hT : ((m : Int) % (d : Int) == 0) = true := by rw [div_test]; simpa using hdv
        have HV := Lib.hid (show (((d : Nat) : Int) == (m : Int)) = primeB (m : Int) by
          rw [primeB_nat, decide_eq_false (prime_not d2 hdv h1)]
          have hlt : d < m := by have := Nat.mul_le_mul d2 (Nat.le_refl d); omega
          simp; omega)
        rw [beq_iff_eq] at hT
        clear hdd hb hdv
        go_wp2
        go_ret
        exact ⟨⟨d, rfl, HV.out⟩, rfl⟩
      · have hT : ((m : Int) % (d : Int) == 0) = false := by rw [div_test]; simpa using hdv
        have HD := Lib.hid hdv
        clear hdd hb hdv
        go_wp2
        go_round
        case rel => exact ⟨d + 1, by omega, by omega, congrArg (Value.int .i64) (by omega), fun e e1 e2 he => by
          rcases Nat.eq_or_lt_of_le (Nat.le_of_lt_succ e2) with rfl | h
          · exact HD.out he
          · exact HNO.out e e1 h he⟩
        case measure => simp [intOf]; omega
    · have h1i : (m : Int) < (d : Int) * (d : Int) := by rw [hdd]; omega
      have HV := Lib.hid (show ((m : Int) == (m : Int)) = primeB (m : Int) by
        rw [primeB_nat, decide_eq_true (prime_root (d := d) m2 m4 HNO.out (by omega))]
        simp)
      clear hdd hb
      go_wp2
      go_ret
      exact ⟨⟨m, rfl, HV.out⟩, rfl⟩
set_option maxHeartbeats 1000000 in
theorem primeOk_at (n : Int) (w : World) : Calls Try.prog 44 #[.int .i64 n] w fun e w' => e = .returned (.bool (primeB n)) ∧ w = w' := by
  by_cases h1 : 2 ≤ n
  · by_cases h2 : n ≤ 400
    · obtain ⟨m, rfl⟩ := Int.eq_ofNat_of_zero_le (show 0 ≤ n by omega)
      have m2 : 2 ≤ m := by omega
      have m4 : m ≤ 400 := by omega
      go_enter Try.func44, Try.ntmps44
      go_wp2_with fail
      refine (leastDivisor_at m _ m2 m4).mono ?_
      rintro e wx ⟨⟨d, rfl, hd⟩, rfl⟩
      have HD := Lib.hid hd
      clear hd
      go_wp2
      go_ret
      exact ⟨ret_bool HD.out, rfl⟩
    · have HV := Lib.hid (primeB_no (n := n) (.inr (by omega)))
      have h2' : 400 < n := by omega
      go_enter Try.func44, Try.ntmps44
      go_wp2
      go_ret
      exact ⟨ret_bool HV.out.symm, rfl⟩
  · have HV := Lib.hid (primeB_no (n := n) (.inl (by omega)))
    have h1' : n < 2 := by omega
    go_enter Try.func44, Try.ntmps44
    go_wp2
    go_ret
    exact ⟨ret_bool HV.out.symm, rfl⟩
theorem primeOk_is (n : Int) (c : Bool) (w : World) (h : primeB n = c) : Calls Try.prog 44 #[.int .i64 n] w fun e w' => e = .returned (.bool c) ∧ w = w' := by rw [← h]; exact primeOk_at n w
def oddB (n : Int) : Bool := decide (n ≠ 2) && primeB n
theorem oddB_true {n : Int} (h : oddB n = true) : ∃ m : Nat, n = m ∧ m ∈ primes400 ∧ 2 ≤ m ∧ m ≤ 400 ∧ m ≠ 2 := by
  have h' : n ≠ 2 ∧ primeB n = true := by simpa [oddB] using h
  obtain ⟨m, rfl, hm, a, b⟩ := primeB_true h'.2
  exact ⟨m, rfl, hm, a, b, fun e => h'.1 (by omega)⟩
end Go.Proofs.Ytfihmcpigbpgpaa
namespace Go.Proofs.Ytfihmcpigbpgpaa
/-- How often p divides n, asked f times at most. -/
def vN (p : Nat) : Nat → Nat → Nat
  | 0, _ => 0
  | f + 1, n => if n % p = 0 then vN p f (n / p) + 1 else 0
theorem vN_spec {p : Nat} (hp : 2 ≤ p) : ∀ (f n : Nat), 1 ≤ n → n < 2 ^ f → p ^ vN p f n ∣ n ∧ ¬ p ^ (vN p f n + 1) ∣ n
  | 0, n, h1, h => by simp at h; omega
  | f + 1, n, h1, h => by
    rw [vN]
    by_cases hd : n % p = 0
    · rw [if_pos hd]
      obtain ⟨m, rfl⟩ := Nat.dvd_of_mod_eq_zero hd
      have hm1 : 1 ≤ m := by
        rcases Nat.eq_zero_or_pos m with h0 | h0
        · subst h0; simp at h1
        · exact h0
      have hmf : m < 2 ^ f := by
        have h2 := Nat.mul_le_mul_right m hp
        rw [Nat.pow_succ] at h
        omega
      have hpp : 0 < p := by omega
      rw [Nat.mul_div_cancel_left m hpp]
      obtain ⟨a, b⟩ := vN_spec hp f m hm1 hmf
      refine ⟨?_, fun hc => b ?_⟩
      · rw [Nat.pow_succ, Nat.mul_comm]; exact Nat.mul_dvd_mul_left p a
      · rw [Nat.pow_succ, Nat.mul_comm] at hc
        exact Nat.dvd_of_mul_dvd_mul_left hpp hc
    · rw [if_neg hd]
      exact ⟨by simp, fun hc => hd (Nat.mod_eq_zero_of_dvd (by simpa using hc))⟩
/-- How often p divides n. -/
def vp (p n : Nat) : Nat := vN p 50 n
theorem vp_iff {p n : Nat} (hp : 2 ≤ p) (h1 : 1 ≤ n) (h : n < 2 ^ 50) (k : Nat) : p ^ k ∣ n ↔ k ≤ vp p n := by
  obtain ⟨a, b⟩ := vN_spec hp 50 n h1 h
  constructor
  · intro hk
    rcases Nat.lt_or_ge (vp p n) k with h' | h'
    · exact absurd (Nat.dvd_trans (Nat.pow_dvd_pow p (Nat.succ_le_of_lt h')) hk) b
    · exact h'
  · intro hk
    exact Nat.dvd_trans (Nat.pow_dvd_pow p hk) a
theorem vp_eq {p n k : Nat} (hp : 2 ≤ p) (h1 : 1 ≤ n) (h : n < 2 ^ 50) (ha : p ^ k ∣ n) (hb : ¬ p ^ (k + 1) ∣ n) : vp p n = k := by
  have h2 := (vp_iff hp h1 h k).1 ha
  have h3 : ¬ k + 1 ≤ vp p n := fun h' => hb ((vp_iff hp h1 h (k + 1)).2 h')
  omega
theorem vp_step {p n : Nat} (hp : 2 ≤ p) (h1 : 1 ≤ n) (h : n < 2 ^ 50) (hd : n % p = 0) : vp p n = vp p (n / p) + 1 := by
  obtain ⟨m, rfl⟩ := Nat.dvd_of_mod_eq_zero hd
  have hpp : 0 < p := by omega
  have hm1 : 1 ≤ m := by
    rcases Nat.eq_zero_or_pos m with h0 | h0
    · subst h0; simp at h1
    · exact h0
  have hm : m ≤ p * m := Nat.le_mul_of_pos_left m hpp
  have hm9 : m < 2 ^ 50 := by omega
  rw [Nat.mul_div_cancel_left m hpp]
  refine vp_eq hp h1 h ?_ fun hc => ?_
  · rw [Nat.pow_succ, Nat.mul_comm]; exact Nat.mul_dvd_mul_left p ((vp_iff hp hm1 hm9 _).2 (Nat.le_refl _))
  · rw [Nat.pow_succ, Nat.mul_comm] at hc
    have := (vp_iff hp hm1 hm9 _).1 (Nat.dvd_of_mul_dvd_mul_left hpp hc)
    omega
theorem vp_none {p n : Nat} (hp : 2 ≤ p) (h1 : 1 ≤ n) (h : n < 2 ^ 50) (hd : n % p ≠ 0) : vp p n = 0 :=
  vp_eq hp h1 h (by simp) fun hc => hd (Nat.mod_eq_zero_of_dvd (by simpa using hc))
/-- The primes up to 31. -/
def few : List Nat := [2, 3, 5, 7, 11, 13, 17, 19, 23, 29, 31]
theorem few_is : (List.range 32).filter (fun p => primes400.contains p) = few := by decide +kernel
theorem few_of {p : Nat} (hm : p ∈ primes400) (h : p ≤ 31) : p ∈ few := by
  rw [← few_is, List.mem_filter]
  exact ⟨by simp; omega, by simpa using hm⟩
theorem few_prime {p : Nat} (h : p ∈ few) : p ∈ primes400 ∧ p ≤ 31 := by
  rw [← few_is, List.mem_filter] at h
  exact ⟨by simpa using h.2, by have := h.1; simp at this; omega⟩
theorem few_two {p : Nat} (h : p ∈ few) : 2 ≤ p := by
  have : few.all (fun p => decide (2 ≤ p)) = true := by decide
  simpa using List.all_eq_true.1 this p h
theorem few_euclid {p a b : Nat} (h : p ∈ few) (hd : p ∣ a * b) : p ∣ a ∨ p ∣ b := by
  have h2 := few_two h
  by_cases ha : p ∣ a
  · exact .inl ha
  · right
    have hp : ∀ d, 2 ≤ d → d < p → p % d ≠ 0 := by
      have hall : few.all (fun p => (List.range p).all fun d => decide (2 ≤ d → p % d ≠ 0)) = true := by decide
      intro d d2 d3
      have h3 := List.all_eq_true.1 (List.all_eq_true.1 hall p h) d (by simpa using d3)
      have h4 : 2 ≤ d → p % d ≠ 0 := of_decide_eq_true h3
      exact h4 d2
    refine Nat.Coprime.dvd_of_dvd_mul_left (m := a) ?_ hd
    rw [Nat.Coprime]
    have h1 : Nat.gcd p a ∣ p := Nat.gcd_dvd_left ..
    have h3 : Nat.gcd p a ∣ a := Nat.gcd_dvd_right ..
    have hpos : 1 ≤ Nat.gcd p a := Nat.pos_of_dvd_of_pos h1 (by omega)
    have hle := Nat.le_of_dvd (by omega) h1
    rcases Nat.lt_or_ge (Nat.gcd p a) 2 with h' | h'
    · omega
    · rcases Nat.lt_or_ge (Nat.gcd p a) p with h'' | h''
      · exact absurd (Nat.mod_eq_zero_of_dvd h1) (hp _ h' h'')
      · rw [show Nat.gcd p a = p by omega] at h3
        exact absurd h3 ha
/-- A prime divides a product as often as both numbers together. -/
theorem vp_mul {p a b : Nat} (hf : p ∈ few) (ha : 1 ≤ a) (hb : 1 ≤ b) (h : a * b < 2 ^ 50) : vp p (a * b) = vp p a + vp p b := by
  have h2 := few_two hf
  have la : a ≤ a * b := Nat.le_mul_of_pos_right a hb
  have lb : b ≤ a * b := Nat.le_mul_of_pos_left b ha
  have hab : 1 ≤ a * b := Nat.le_trans ha la
  obtain ⟨x, hx⟩ : ∃ x, vp p a = x := ⟨_, rfl⟩
  obtain ⟨y, hy⟩ : ∃ y, vp p b = y := ⟨_, rfl⟩
  obtain ⟨a', hae⟩ : p ^ x ∣ a := (vp_iff h2 ha (by omega) x).2 (by omega)
  obtain ⟨b', hbe⟩ := (vp_iff h2 hb (by omega) y).2 (by omega)
  have hpx : 0 < p ^ x := Nat.pow_pos (by omega)
  have hpy : 0 < p ^ y := Nat.pow_pos (by omega)
  rw [hx, hy]
  have e : a * b = p ^ (x + y) * (a' * b') := by rw [hae, hbe, Nat.pow_add]; simp only [Nat.mul_assoc, Nat.mul_left_comm]
  refine vp_eq h2 hab h ⟨_, e⟩ fun hc => ?_
  rw [e, Nat.pow_succ] at hc
  have hd : p ∣ a' * b' := Nat.dvd_of_mul_dvd_mul_left (Nat.pow_pos (by omega)) hc
  rcases few_euclid hf hd with ⟨c, hcc⟩ | ⟨c, hcc⟩
  · have : p ^ (x + 1) ∣ a := ⟨c, by rw [hae, hcc, Nat.pow_succ, Nat.mul_assoc]⟩
    have := (vp_iff h2 ha (by omega) (x + 1)).1 this
    omega
  · have : p ^ (y + 1) ∣ b := ⟨c, by rw [hbe, hcc, Nat.pow_succ, Nat.mul_assoc]⟩
    have := (vp_iff h2 hb (by omega) (y + 1)).1 this
    omega
/-- The ranks of these primes for 1 and -1. -/
def fibRk (p : Nat) : Nat := if p = 2 then 3 else if p = 3 then 4 else if p = 5 then 5 else if p = 7 then 8 else if p = 11 then 10 else if p = 13 then 7 else if p = 17 then 9 else if p = 19 then 18 else if p = 23 then 24 else if p = 29 then 14 else 30
/-- The ranks of their powers. -/
def powT (p k : Nat) : Nat := if p = 2 then (if k ≤ 1 then 3 else if k = 2 then 6 else 3 * 2 ^ (k - 2)) else fibRk p * p ^ (k - 1)
def chkPow (p k : Nat) : Bool := (fastL 1 (-1) ((p ^ k : Nat) : Int) 14 (powT p k)).1 == 0 && (List.range (powT p k)).all fun s => s == 0 || powT p k % s != 0 || (fastL 1 (-1) ((p ^ k : Nat) : Int) 14 s).1 != 0
set_option maxRecDepth 100000 in
theorem chkPow_all : (few.all fun p => (List.range 14).all fun k => k == 0 || decide (10000 < p ^ k) || (decide (powT p k < 16384) && chkPow p k)) = true := by decide +kernel
theorem powT_dvd {p k : Nat} (hf : p ∈ few) (hk : 1 ≤ k) (h : p ^ k ≤ 10000) (n : Nat) : ((p ^ k : Nat) : Int) ∣ row 1 (-1) 0 1 n ↔ powT p k ∣ n := by
  have h2 := few_two hf
  have hk14 : k < 14 := by
    rcases Nat.lt_or_ge k 14 with h' | h'
    · exact h'
    · have h3 : 2 ^ 14 ≤ 2 ^ k := Nat.pow_le_pow_right (by omega) h'
      have h4 : 2 ^ k ≤ p ^ k := Nat.pow_le_pow_left h2 k
      omega
  have hc := List.all_eq_true.1 (List.all_eq_true.1 chkPow_all p hf) k (by simpa using hk14)
  have hk0 : (k == 0) = false := by simp; omega
  have h10 : decide (10000 < p ^ k) = false := by simp; omega
  rw [hk0, h10] at hc
  simp only [Bool.false_or, Bool.and_eq_true, decide_eq_true_iff] at hc
  obtain ⟨hlt, hc⟩ := hc
  have hm1 : 1 ≤ p ^ k := Nat.pow_pos (by omega)
  generalize hm : p ^ k = m at *
  generalize hR : powT p k = R at *
  rw [chkPow, hm, hR, fastL_is _ _ _ _ _ (show R < 2 ^ 14 by omega)] at hc
  simp only [Bool.and_eq_true, beq_iff_eq] at hc
  obtain ⟨hz, hall⟩ := hc
  have hap : Apart (m : Int) (-1) := fun c _ h2 => Int.dvd_neg.1 h2
  have hdR : (m : Int) ∣ row 1 (-1) 0 1 R := Int.dvd_of_emod_eq_zero hz
  have hrR := (rankN_dvd (p := 1) m hm1 hap R).1 hdR
  have hr1 := (rankN_spec (p := 1) m hm1 hap).2.1
  have hrd := (rankN_spec (p := 1) m hm1 hap).1
  have hR1 : 1 ≤ R := by
    rw [← hR, powT]
    split
    · split
      · omega
      · split
        · omega
        · have : 0 < 2 ^ (k - 2) := Nat.pow_pos (by omega)
          omega
    · have h5 : 0 < fibRk p := by rw [fibRk]; repeat (first | omega | split)
      exact Nat.mul_pos h5 (Nat.pow_pos (by omega))
  have hle := Nat.le_of_dvd hR1 hrR
  have he : rankN 1 (-1) m = R := by
    rcases Nat.eq_or_lt_of_le hle with h' | h'
    · exact h'
    · have hs := List.all_eq_true.1 hall (rankN 1 (-1) m) (by simpa using h')
      rw [fastL_is _ _ _ _ _ (show rankN 1 (-1) m < 2 ^ 14 by omega)] at hs
      have e1 : (rankN 1 (-1) m == 0) = false := by simp; omega
      have e2 : (R % rankN 1 (-1) m != 0) = false := by simp [Nat.mod_eq_zero_of_dvd hrR]
      rw [e1, e2] at hs
      have e3 : row 1 (-1) 0 1 (rankN 1 (-1) m) % (m : Int) = 0 := Int.emod_eq_zero_of_dvd hrd
      simp [e3] at hs
  rw [rankN_dvd (p := 1) m hm1 hap n, he]
/-- How often p divides the row of 1 and -1 at a place. -/
def tA (p n : Nat) : Nat := if n % fibRk p ≠ 0 then 0 else if p = 2 then (if n % 6 ≠ 0 then 1 else 2 + vp 2 n) else 1 + vp p (n / fibRk p)
theorem fibRk_pos (p : Nat) : 1 ≤ fibRk p := by rw [fibRk]; repeat (first | omega | split)
theorem tA_iff {p n k : Nat} (hf : p ∈ few) (hn : 1 ≤ n) (h : n < 2 ^ 50) (hk : 1 ≤ k) : powT p k ∣ n ↔ k ≤ tA p n := by
  have h2 := few_two hf
  by_cases hp : p = 2
  · subst hp
    have ta : n % 3 ≠ 0 → tA 2 n = 0 := fun h' => by rw [tA, show fibRk 2 = 3 from rfl, if_pos h']
    have tb : n % 3 = 0 → n % 6 ≠ 0 → tA 2 n = 1 := fun h' h'' => by rw [tA, show fibRk 2 = 3 from rfl, if_neg (by omega), if_pos rfl, if_pos h'']
    have tc : n % 6 = 0 → tA 2 n = 2 + vp 2 n := fun h' => by rw [tA, show fibRk 2 = 3 from rfl, if_neg (by omega), if_pos rfl, if_neg (by omega)]
    have pa : k ≤ 1 → powT 2 k = 3 := fun h' => by rw [powT, if_pos rfl, if_pos h']
    have pb : k = 2 → powT 2 k = 6 := fun h' => by rw [powT, if_pos rfl, if_neg (by omega), if_pos h']
    have pc : ¬ k ≤ 1 → ¬ k = 2 → powT 2 k = 3 * 2 ^ (k - 2) := fun h' h'' => by rw [powT, if_pos rfl, if_neg h', if_neg h'']
    by_cases h3 : n % 3 = 0
    · by_cases h6 : n % 6 = 0
      · rw [tc h6]
        have hv : 1 ≤ vp 2 n := (vp_iff (by omega) hn h 1).1 (by rw [Nat.pow_one]; omega)
        by_cases k1 : k ≤ 1
        · rw [pa k1]; omega
        · by_cases k2 : k = 2
          · rw [pb k2]; omega
          · rw [pc k1 k2]
            constructor
            · intro hd
              have := (vp_iff (by omega) hn h (k - 2)).1 (Nat.dvd_trans (Nat.dvd_mul_left _ _) hd)
              omega
            · intro hle
              have hd := (vp_iff (p := 2) (by omega) hn h (k - 2)).2 (by omega)
              refine Nat.Coprime.mul_dvd_of_dvd_of_dvd ?_ (Nat.dvd_of_mod_eq_zero h3) hd
              exact Nat.Coprime.pow_right _ (by decide)
      · rw [tb h3 h6]
        by_cases k1 : k ≤ 1
        · rw [pa k1]; omega
        · refine ⟨fun hd => absurd ?_ h6, fun hh => by omega⟩
          by_cases k2 : k = 2
          · rw [pb k2] at hd; omega
          · rw [pc k1 k2] at hd
            obtain ⟨j, hj⟩ : ∃ j, k - 2 = j + 1 := ⟨k - 3, by omega⟩
            rw [hj, Nat.pow_succ, ← Nat.mul_assoc] at hd
            have : 2 ∣ n := Nat.dvd_trans (Nat.dvd_mul_left _ _) hd
            omega
    · rw [ta h3]
      refine ⟨fun hd => absurd ?_ h3, fun hh => by omega⟩
      by_cases k1 : k ≤ 1
      · rw [pa k1] at hd; omega
      · by_cases k2 : k = 2
        · rw [pb k2] at hd; omega
        · rw [pc k1 k2] at hd
          exact Nat.mod_eq_zero_of_dvd (Nat.dvd_trans (Nat.dvd_mul_right _ _) hd)
  · rw [tA, powT, if_neg hp, if_neg hp]
    have hr := fibRk_pos p
    generalize fibRk p = r at hr
    by_cases h3 : n % r = 0
    · rw [if_neg (by omega)]
      obtain ⟨m, rfl⟩ := Nat.dvd_of_mod_eq_zero h3
      rw [Nat.mul_div_cancel_left m (by omega)]
      have hm1 : 1 ≤ m := by
        rcases Nat.eq_zero_or_pos m with h0 | h0
        · subst h0; simp at hn
        · exact h0
      have hm : m ≤ r * m := Nat.le_mul_of_pos_left m (by omega)
      have hi := vp_iff (p := p) h2 hm1 (by omega) (k - 1)
      constructor
      · intro hd
        have := hi.1 (Nat.dvd_of_mul_dvd_mul_left (by omega) hd)
        omega
      · intro hle
        exact Nat.mul_dvd_mul_left r (hi.2 (by omega))
    · rw [if_pos h3]
      exact ⟨fun hd => absurd (Nat.mod_eq_zero_of_dvd (Nat.dvd_trans (Nat.dvd_mul_right _ _) hd)) h3, fun hh => by omega⟩
theorem powT_one {p : Nat} (hf : p ∈ few) : powT p 1 = fibRk p := by
  have : few.all (fun p => powT p 1 == fibRk p) = true := by decide
  simpa using List.all_eq_true.1 this p hf
/-- The rank of one of these primes, and of their powers. -/
theorem rank_pow {p k : Nat} (hf : p ∈ few) (hk : 1 ≤ k) (h : p ^ k ≤ 10000) : rankN 1 (-1) (p ^ k) = powT p k :=
  rankN_eq (Nat.pow_pos (by have := few_two hf; omega)) (fun c _ h2 => Int.dvd_neg.1 h2) fun n => powT_dvd hf hk h n
theorem rank_few {p : Nat} (hf : p ∈ few) : rankN 1 (-1) p = fibRk p := by
  have h31 := (few_prime hf).2
  have := rank_pow (k := 1) hf (by omega) (by rw [Nat.pow_one]; omega)
  rwa [Nat.pow_one, powT_one hf] at this
/-- The rank of a prime is beside it. -/
theorem rank_beside {p : Nat} (hf : p ∈ few) : p = 2 ∧ fibRk p = 3 ∨ p = 5 ∧ fibRk p = 5 ∨ (p ≠ 2 ∧ p ≠ 5 ∧ ((p - 1) % fibRk p = 0 ∨ (p + 1) % fibRk p = 0)) := by
  have : few.all (fun p => decide (p = 2 ∧ fibRk p = 3 ∨ p = 5 ∧ fibRk p = 5 ∨ (p ≠ 2 ∧ p ≠ 5 ∧ ((p - 1) % fibRk p = 0 ∨ (p + 1) % fibRk p = 0)))) = true := by decide
  exact of_decide_eq_true (List.all_eq_true.1 this p hf)
theorem powT_pos {p : Nat} (hf : p ∈ few) (k : Nat) : 1 ≤ powT p k := by
  have h2 := few_two hf
  rw [powT]
  split
  · split
    · omega
    · split
      · omega
      · have : 0 < 2 ^ (k - 2) := Nat.pow_pos (by omega)
        omega
  · exact Nat.mul_pos (fibRk_pos p) (Nat.pow_pos (by omega))
theorem powT_bd {p k : Nat} (hf : p ∈ few) (hk : k ≤ 9) : powT p k < 2 ^ 50 := by
  have hall : few.all (fun p => (List.range 10).all fun k => decide (powT p k < 2 ^ 50)) = true := by decide +kernel
  exact of_decide_eq_true (List.all_eq_true.1 (List.all_eq_true.1 hall p hf) k (by simp; omega))
end Go.Proofs.Ytfihmcpigbpgpaa
namespace Go.Proofs.Ytfihmcpigbpgpaa
open Go.RowKit
def fewB (p : Int) : Bool := primeB p && decide (p ≤ 31)
theorem fewB_true {p : Int} (h : fewB p = true) : ∃ m : Nat, p = m ∧ m ∈ few ∧ 2 ≤ m ∧ m ≤ 31 := by
  have h' : primeB p = true ∧ p ≤ 31 := by simpa [fewB] using h
  obtain ⟨m, rfl, hm, m1, m2⟩ := primeB_true h'.1
  exact ⟨m, rfl, few_of hm (by omega), m1, by omega⟩
theorem fewB_mk {m : Nat} (h : m ∈ few) : fewB m = true := by
  obtain ⟨h1, h2⟩ := few_prime h
  simp [fewB, primeB_nat, h1]; omega
theorem fewB_ways {p : Int} (h : fewB p = false) : primeB p = false ∨ (primeB p = true ∧ 31 < p) := by
  cases hp : primeB p with
  | false => exact .inl rfl
  | true => exact .inr ⟨rfl, by simpa [fewB, hp] using h⟩
def timesInB (n p : Int) : Bool := fewB p && inB n 1 1000000000
def timesInV (n p : Int) : Int := if timesInB n p = true then (vp p.toNat n.toNat : Int) else -1
def fibRankV (p : Int) : Int := if fewB p = true then (fibRk p.toNat : Int) else -1
def timesAtV (n p : Int) : Int := if timesInB n p = true then (tA p.toNat n.toNat : Int) else -1
def powerB (p k : Int) : Bool := fewB p && inB k 1 9
def powerV (p k : Int) : Int := if powerB p k = true then (powT p.toNat k.toNat : Int) else -1
theorem timesInV_no {n p : Int} (h : timesInB n p = false) : timesInV n p = -1 := by rw [timesInV, if_neg (by simp [h])]
theorem timesInV_is {n p : Nat} (h : timesInB n p = true) : timesInV n p = (vp p n : Int) := by rw [timesInV, if_pos h]; rfl
theorem timesAtV_no {n p : Int} (h : timesInB n p = false) : timesAtV n p = -1 := by rw [timesAtV, if_neg (by simp [h])]
theorem timesAtV_is {n p : Nat} (h : timesInB n p = true) : timesAtV n p = (tA p n : Int) := by rw [timesAtV, if_pos h]; rfl
theorem fibRankV_no {p : Int} (h : fewB p = false) : fibRankV p = -1 := by rw [fibRankV, if_neg (by simp [h])]
theorem fibRankV_is {p : Nat} (h : p ∈ few) : fibRankV p = (fibRk p : Int) := by rw [fibRankV, if_pos (fewB_mk h)]; rfl
theorem powerV_no {p k : Int} (h : powerB p k = false) : powerV p k = -1 := by rw [powerV, if_neg (by simp [h])]
theorem powerV_is {p k : Nat} (h : powerB p k = true) : powerV p k = (powT p k : Int) := by rw [powerV, if_pos h]; rfl
theorem timesInB_true {n p : Int} (h : timesInB n p = true) : ∃ m k : Nat, n = k ∧ p = m ∧ m ∈ few ∧ 2 ≤ m ∧ m ≤ 31 ∧ 1 ≤ k ∧ k ≤ 1000000000 := by
  have h' : fewB p = true ∧ inB n 1 1000000000 = true := by simpa [timesInB] using h
  obtain ⟨m, rfl, hm, m1, m2⟩ := fewB_true h'.1
  obtain ⟨n1, n2⟩ := inB_true h'.2
  exact ⟨m, n.toNat, by omega, rfl, hm, m1, m2, by omega, by omega⟩
theorem timesInB_mk {n p : Nat} (h : p ∈ few) (h1 : 1 ≤ n) (h2 : n ≤ 1000000000) : timesInB n p = true := by
  rw [timesInB, fewB_mk h, inB_mk (by omega) (by omega)]; rfl
theorem powerB_true {p k : Int} (h : powerB p k = true) : ∃ m j : Nat, p = m ∧ k = j ∧ m ∈ few ∧ 2 ≤ m ∧ m ≤ 31 ∧ 1 ≤ j ∧ j ≤ 9 := by
  have h' : fewB p = true ∧ inB k 1 9 = true := by simpa [powerB] using h
  obtain ⟨m, rfl, hm, m1, m2⟩ := fewB_true h'.1
  obtain ⟨n1, n2⟩ := inB_true h'.2
  exact ⟨m, k.toNat, rfl, by omega, hm, m1, m2, by omega, by omega⟩
theorem vN_le (p : Nat) : ∀ f n, vN p f n ≤ f
  | 0, _ => Nat.le_refl _
  | f + 1, n => by rw [vN]; split; exact Nat.succ_le_succ (vN_le p f _); exact Nat.zero_le _
theorem vp_le (p n : Nat) : vp p n ≤ 50 := vN_le p 50 n
theorem tA_le (p n : Nat) : tA p n ≤ 60 := by
  rw [tA]
  have h1 := vp_le 2 n
  have h2 := vp_le p (n / fibRk p)
  repeat (first | omega | split)
theorem left_some (n m : Nat) : ∃ x : Nat, n % m = x ∧ (n : Int) % (m : Int) = (x : Int) := ⟨_, rfl, by simp⟩
theorem quot_some (n m : Nat) : ∃ x : Nat, n / m = x ∧ (n : Int) / (m : Int) = (x : Int) := ⟨_, rfl, by simp⟩
set_option maxHeartbeats 4000000 in
theorem specTimesIn_any (n p : Int) (w : World) : Calls Try.prog 13 #[.int .i64 n, .int .i64 p] w fun e w' => e = .returned (.int .i64 (timesInV n p)) ∧ w = w' := by
  cases hf : fewB p with
  | false =>
    have HV := Lib.hid (timesInV_no (n := n) (p := p) (by simp [timesInB, hf]))
    rcases fewB_ways hf with hp | ⟨hp, h31⟩
    · have HP := Lib.hid hp
      clear hf hp
      go_enter Try.func13, Try.ntmps13
      go_wp2_with fail
      refine (specPrime_is _ false _ HP.out).mono ?_
      rintro e wx ⟨rfl, rfl⟩
      go_wp2
      go_ret
      exact ⟨ret_int HV.out.symm, rfl⟩
    · have HP := Lib.hid hp
      clear hf hp
      go_enter Try.func13, Try.ntmps13
      go_wp2_with fail
      refine (specPrime_is _ true _ HP.out).mono ?_
      rintro e wx ⟨rfl, rfl⟩
      go_wp2
      go_ret
      exact ⟨ret_int HV.out.symm, rfl⟩
  | true =>
    obtain ⟨m, rfl, hm, m1, m2⟩ := fewB_true hf
    have HP := Lib.hid (show primeB m = true by rw [primeB_nat]; exact decide_eq_true (few_prime hm).1)
    have m2i : (m : Int) ≤ 31 := by omega
    cases hn : inB n 1 1000000000 with
    | false =>
      have HV := Lib.hid (timesInV_no (n := n) (p := m) (by simp [timesInB, hn]))
      have HN := Lib.hid hn
      clear hf hn
      go_enter Try.func13, Try.ntmps13
      go_wp2_with fail
      refine (specPrime_is _ true _ HP.out).mono ?_
      rintro e wx ⟨rfl, rfl⟩
      go_wp2_with fail
      refine (l1In_no _ 1 1000000000 _ HN.out).mono ?_
      rintro e wx ⟨rfl, rfl⟩
      go_wp2
      go_ret
      exact ⟨ret_int HV.out.symm, rfl⟩
    | true =>
      obtain ⟨n1, n2⟩ := inB_true hn
      obtain ⟨k, rfl⟩ := Int.eq_ofNat_of_zero_le (show 0 ≤ n by omega)
      have HV := Lib.hid (timesInV_is (n := k) (p := m) (by rw [timesInB, hf, hn]; rfl))
      have HN := Lib.hid hn
      have hmz : ((m : Int) == 0) = false := by simp; omega
      obtain ⟨v, hv⟩ : ∃ v, vp m k = v := ⟨_, rfl⟩
      have hv5 : v ≤ 50 := by rw [← hv]; exact vp_le m k
      rw [hv] at HV
      clear hf hn
      go_enter Try.func13, Try.ntmps13
      go_wp2_with fail
      refine (specPrime_is _ true _ HP.out).mono ?_
      rintro e wx ⟨rfl, rfl⟩
      go_wp2_with fail
      refine (l1In_yes _ 1 1000000000 _ HN.out).mono ?_
      rintro e wx ⟨rfl, rfl⟩
      go_wp2_with fail
      go_loop [0, 5] (fun x y => ∃ a j : Nat, 1 ≤ a ∧ a ≤ 1000000000 ∧ x = .int .i64 a ∧ y = .int .i64 j ∧ vp m a + j = v) (fun x _ => (intOf x).toNat)
      case atStart => exact ⟨k, 0, by omega, by omega, rfl, rfl, by omega⟩
      case round =>
        obtain ⟨a, j, a1, a2, rfl, rfl, hj⟩ := hrel
        obtain ⟨x, hx, hD⟩ := left_some a m
        by_cases h0 : x = 0
        · subst h0
          obtain ⟨c, hc, hQ⟩ := quot_some a m
          have hst := vp_step m1 a1 (by omega) hx
          rw [hc] at hst
          have hca : c < a := by rw [← hc]; exact Nat.div_lt_self a1 m1
          have hc1 : 1 ≤ c := by
            have h1 := Nat.div_add_mod a m
            rw [hx, hc] at h1
            rcases Nat.eq_zero_or_pos c with h | h
            · rw [h] at h1; omega
            · exact h
          have HJ := Lib.hid (show vp m c + (j + 1) = v by omega)
          have hjb : j < 60 := by omega
          clear hx hc hst hj
          go_wp2
          go_round
          case rel => exact ⟨c, j + 1, hc1, by omega, (by first | rfl | exact congrArg (Value.int .i64) hQ), congrArg (Value.int .i64) (by omega), HJ.out⟩
          case measure => simp [intOf]; omega
        · have hx0 : ((x : Int) == 0) = false := by simp; omega
          have hst := vp_none m1 a1 (by omega) (by rw [hx]; exact h0)
          have HJ := Lib.hid (show v = j by omega)
          clear hx hst hj
          go_wp2
          go_ret
          exact ⟨ret_int (by rw [HV.out, HJ.out]), rfl⟩
theorem specTimesIn_is (n p v : Int) (w : World) (hv : timesInV n p = v) : Calls Try.prog 13 #[.int .i64 n, .int .i64 p] w fun e w' => e = .returned (.int .i64 v) ∧ w = w' := by rw [← hv]; exact specTimesIn_any n p w
theorem rank_fib {m : Nat} (hm : m ∈ few) : rankB 1 (-1) m = true ∧ rankV 1 (-1) m = (fibRk m : Int) := by
  have h2 := few_two hm
  have h31 := (few_prime hm).2
  have h : rankB 1 (-1) m = true := rankB_mk (by decide) (by omega) (by omega) (by omega) (fun c _ h2 => Int.dvd_neg.1 h2)
  exact ⟨h, by rw [rankV_is h, rank_few hm]⟩
set_option maxHeartbeats 2000000 in
theorem specFib_any (p : Int) (w : World) : Calls Try.prog 18 #[.int .i64 p] w fun e w' => e = .returned (.int .i64 (fibRankV p)) ∧ Below w.heap.size w w' := by
  cases hf : fewB p with
  | false =>
    have HV := Lib.hid (fibRankV_no hf)
    rcases fewB_ways hf with hp | ⟨hp, h31⟩
    · have HP := Lib.hid hp
      clear hf hp
      go_enter Try.func18, Try.ntmps18
      go_wp2_with fail
      refine (specPrime_is _ false _ HP.out).mono ?_
      rintro e wx ⟨rfl, rfl⟩
      go_wp2
      go_ret
      exact ⟨ret_int HV.out.symm, Below.refl _ _⟩
    · have HP := Lib.hid hp
      clear hf hp
      go_enter Try.func18, Try.ntmps18
      go_wp2_with fail
      refine (specPrime_is _ true _ HP.out).mono ?_
      rintro e wx ⟨rfl, rfl⟩
      go_wp2
      go_ret
      exact ⟨ret_int HV.out.symm, Below.refl _ _⟩
  | true =>
    obtain ⟨m, rfl, hm, m1, m2⟩ := fewB_true hf
    have HP := Lib.hid (show primeB m = true by rw [primeB_nat]; exact decide_eq_true (few_prime hm).1)
    have m2i : (m : Int) ≤ 31 := by omega
    have HV := Lib.hid (fibRankV_is hm)
    obtain ⟨hb, hr⟩ := rank_fib hm
    have HB := Lib.hid hb
    have HR := Lib.hid hr
    clear hf hb hr
    go_enter Try.func18, Try.ntmps18
    go_wp2_with fail
    refine (specPrime_is _ true _ HP.out).mono ?_
    rintro e wx ⟨rfl, rfl⟩
    go_wp2_with fail
    refine (specRank_is 1 (-1) m _ true _ HR.out HB.out).mono ?_
    rintro e w1 ⟨rfl, hh1⟩
    obtain ⟨hc1, hf1⟩ := bcell hh1
    have hz1 := hh1.size
    try simp only [World.size_alloc] at hz1
    clear hc1 hf1
    go_wp2
    go_ret
    exact ⟨ret_int HV.out.symm, by (repeat (first | exact Below.refl _ _ | refine Below.setCell ?_ (by first | omega | (simp <;> omega)) _ | refine Below.alloc ?_ (by first | omega | (simp <;> omega)) _ | refine Below.drew ?_ | refine Below.trans ?_ (Below.mono (by assumption) (by first | omega | (simp <;> omega))) | refine Below.grown ?_ (by assumption) (by first | omega | (simp <;> omega)) (fun k e => by cases e; first | omega | (simp <;> omega))))⟩
theorem specFib_is (p v : Int) (w : World) (hv : fibRankV p = v) : Calls Try.prog 18 #[.int .i64 p] w fun e w' => e = .returned (.int .i64 v) ∧ Below w.heap.size w w' := by rw [← hv]; exact specFib_any p w
end Go.Proofs.Ytfihmcpigbpgpaa
namespace Go.Proofs.Ytfihmcpigbpgpaa
open Go.RowKit
set_option maxHeartbeats 4000000 in
theorem specTimesAt_any (n p : Int) (w : World) : Calls Try.prog 22 #[.int .i64 n, .int .i64 p] w fun e w' => e = .returned (.int .i64 (timesAtV n p)) ∧ Below w.heap.size w w' := by
  cases hf : fewB p with
  | false =>
    have HV := Lib.hid (timesAtV_no (n := n) (p := p) (by simp [timesInB, hf]))
    have HR := Lib.hid (fibRankV_no hf)
    clear hf
    go_enter Try.func22, Try.ntmps22
    go_wp2_with fail
    refine (specFib_is p (-1) _ HR.out).mono ?_
    rintro e w1 ⟨rfl, hh1⟩
    obtain ⟨hc1, hf1⟩ := bcell hh1
    have hz1 := hh1.size
    try simp only [World.size_alloc] at hz1
    clear hc1 hf1
    go_wp2
    go_ret
    exact ⟨ret_int HV.out.symm, by (repeat (first | exact Below.refl _ _ | refine Below.setCell ?_ (by first | omega | (simp <;> omega)) _ | refine Below.alloc ?_ (by first | omega | (simp <;> omega)) _ | refine Below.drew ?_ | refine Below.trans ?_ (Below.mono (by assumption) (by first | omega | (simp <;> omega))) | refine Below.grown ?_ (by assumption) (by first | omega | (simp <;> omega)) (fun k e => by cases e; first | omega | (simp <;> omega))))⟩
  | true =>
    obtain ⟨m, rfl, hm, m1, m2⟩ := fewB_true hf
    have hR := fibRankV_is hm
    have hr1 := fibRk_pos m
    have hti := fun c c1 c2 => timesInV_is (timesInB_mk (n := c) (p := m) hm c1 c2)
    obtain ⟨r, hr⟩ : ∃ r, fibRk m = r := ⟨_, rfl⟩
    rw [hr] at hR hr1
    have HR := Lib.hid hR
    have hr0 : (0 : Int) ≤ (r : Int) := by omega
    have hrz : ((r : Int) == 0) = false := by simp; omega
    cases hn : inB n 1 1000000000 with
    | false =>
      have HV := Lib.hid (timesAtV_no (n := n) (p := m) (by simp [timesInB, hn]))
      have HN := Lib.hid hn
      clear hf hn hR hr
      go_enter Try.func22, Try.ntmps22
      go_wp2_with fail
      refine (specFib_is m r _ HR.out).mono ?_
      rintro e w1 ⟨rfl, hh1⟩
      obtain ⟨hc1, hf1⟩ := bcell hh1
      have hz1 := hh1.size
      try simp only [World.size_alloc] at hz1
      clear hc1 hf1
      go_wp2_with fail
      refine (l1In_no _ 1 1000000000 _ HN.out).mono ?_
      rintro e wx ⟨rfl, rfl⟩
      go_wp2
      go_ret
      exact ⟨ret_int HV.out.symm, by (repeat (first | exact Below.refl _ _ | refine Below.setCell ?_ (by first | omega | (simp <;> omega)) _ | refine Below.alloc ?_ (by first | omega | (simp <;> omega)) _ | refine Below.drew ?_ | refine Below.trans ?_ (Below.mono (by assumption) (by first | omega | (simp <;> omega))) | refine Below.grown ?_ (by assumption) (by first | omega | (simp <;> omega)) (fun k e => by cases e; first | omega | (simp <;> omega))))⟩
    | true =>
      obtain ⟨n1, n2⟩ := inB_true hn
      obtain ⟨k, rfl⟩ := Int.eq_ofNat_of_zero_le (show 0 ≤ n by omega)
      have HV := Lib.hid (timesAtV_is (n := k) (p := m) (by rw [timesInB, hf, hn]; rfl))
      have HN := Lib.hid hn
      obtain ⟨x, hx, hD⟩ := left_some k r
      by_cases h0 : x = 0
      · subst h0
        by_cases h2 : m = 2
        · subst h2
          have HR2 := Lib.hid (show fibRankV 2 = (r : Int) from HR.out)
          by_cases h6 : k % 6 = 0
          · have hT6 : ((k : Int) % 6 != 0) = false := by simp; omega
            have HT := Lib.hid (show timesInV k 2 = (vp 2 k : Int) from hti k (by omega) (by omega))
            have HF := Lib.hid (show timesAtV k 2 = 2 + (vp 2 k : Int) by
              have h3 : k % 3 = 0 := by omega
              refine HV.out.trans ?_
              rw [tA, show fibRk 2 = 3 from rfl, if_neg (by omega), if_pos rfl, if_neg (by omega)]; simp)
            have hv5 := vp_le 2 k
            obtain ⟨v, hv⟩ : ∃ v, vp 2 k = v := ⟨_, rfl⟩
            rw [hv] at HT HF hv5
            show Calls _ _ #[.int .i64 (k : Int), .int .i64 2] w fun e w' => e = .returned (.int .i64 (timesAtV k 2)) ∧ Below w.heap.size w w'
            clear hf hn hR hr hx hti hv HV HR
            go_enter Try.func22, Try.ntmps22
            go_wp2_with fail
            refine (specFib_is 2 r _ HR2.out).mono ?_
            rintro e w1 ⟨rfl, hh1⟩
            obtain ⟨hc1, hf1⟩ := bcell hh1
            have hz1 := hh1.size
            try simp only [World.size_alloc] at hz1
            clear hc1 hf1
            go_wp2_with fail
            refine (l1In_yes _ 1 1000000000 _ HN.out).mono ?_
            rintro e wx ⟨rfl, rfl⟩
            go_wp2_with fail
            refine (specTimesIn_is k 2 v _ HT.out).mono ?_
            rintro e wx ⟨rfl, rfl⟩
            go_wp2
            go_ret
            exact ⟨ret_int HF.out.symm, by (repeat (first | exact Below.refl _ _ | refine Below.setCell ?_ (by first | omega | (simp <;> omega)) _ | refine Below.alloc ?_ (by first | omega | (simp <;> omega)) _ | refine Below.drew ?_ | refine Below.trans ?_ (Below.mono (by assumption) (by first | omega | (simp <;> omega))) | refine Below.grown ?_ (by assumption) (by first | omega | (simp <;> omega)) (fun k e => by cases e; first | omega | (simp <;> omega))))⟩
          · have hT6 : ((k : Int) % 6 != 0) = true := by simp; omega
            have HF := Lib.hid (show timesAtV k 2 = 1 by
              refine HV.out.trans ?_
              rw [tA, show fibRk 2 = 3 from rfl, if_neg (by rw [show (3 : Nat) = r from hr]; omega), if_pos rfl, if_pos h6]; rfl)
            show Calls _ _ #[.int .i64 (k : Int), .int .i64 2] w fun e w' => e = .returned (.int .i64 (timesAtV k 2)) ∧ Below w.heap.size w w'
            clear hf hn hR hr hx hti HV HR
            go_enter Try.func22, Try.ntmps22
            go_wp2_with fail
            refine (specFib_is 2 r _ HR2.out).mono ?_
            rintro e w1 ⟨rfl, hh1⟩
            obtain ⟨hc1, hf1⟩ := bcell hh1
            have hz1 := hh1.size
            try simp only [World.size_alloc] at hz1
            clear hc1 hf1
            go_wp2_with fail
            refine (l1In_yes _ 1 1000000000 _ HN.out).mono ?_
            rintro e wx ⟨rfl, rfl⟩
            go_wp2
            go_ret
            exact ⟨ret_int HF.out.symm, by (repeat (first | exact Below.refl _ _ | refine Below.setCell ?_ (by first | omega | (simp <;> omega)) _ | refine Below.alloc ?_ (by first | omega | (simp <;> omega)) _ | refine Below.drew ?_ | refine Below.trans ?_ (Below.mono (by assumption) (by first | omega | (simp <;> omega))) | refine Below.grown ?_ (by assumption) (by first | omega | (simp <;> omega)) (fun k e => by cases e; first | omega | (simp <;> omega))))⟩
        · have hm2 : ((m : Int) == 2) = false := by simp; omega
          obtain ⟨c, hc, hQ⟩ := quot_some k r
          have hc1 : 1 ≤ c := by
            have h1 := Nat.div_add_mod k r
            rw [hx, hc] at h1
            rcases Nat.eq_zero_or_pos c with h | h
            · rw [h] at h1; omega
            · exact h
          have hck : c ≤ k := by rw [← hc]; exact Nat.div_le_self _ _
          have HT := Lib.hid (hti c hc1 (by omega))
          have HF := Lib.hid (show timesAtV k m = 1 + (vp m c : Int) by
            rw [HV.out, tA, hr, if_neg (by rw [hx]; omega), if_neg h2, hc]; simp)
          have hv5 := vp_le m c
          obtain ⟨v, hv⟩ : ∃ v, vp m c = v := ⟨_, rfl⟩
          rw [hv] at HT HF hv5
          clear hf hn hR hr hx hc hti hv
          go_enter Try.func22, Try.ntmps22
          go_wp2_with fail
          refine (specFib_is m r _ HR.out).mono ?_
          rintro e w1 ⟨rfl, hh1⟩
          obtain ⟨hc1, hf1⟩ := bcell hh1
          have hz1 := hh1.size
          try simp only [World.size_alloc] at hz1
          clear hc1 hf1
          go_wp2_with fail
          refine (l1In_yes _ 1 1000000000 _ HN.out).mono ?_
          rintro e wx ⟨rfl, rfl⟩
          go_wp2_with fail
          refine (specTimesIn_is c m v _ HT.out).mono ?_
          rintro e wx ⟨rfl, rfl⟩
          go_wp2
          go_ret
          exact ⟨ret_int HF.out.symm, by (repeat (first | exact Below.refl _ _ | refine Below.setCell ?_ (by first | omega | (simp <;> omega)) _ | refine Below.alloc ?_ (by first | omega | (simp <;> omega)) _ | refine Below.drew ?_ | refine Below.trans ?_ (Below.mono (by assumption) (by first | omega | (simp <;> omega))) | refine Below.grown ?_ (by assumption) (by first | omega | (simp <;> omega)) (fun k e => by cases e; first | omega | (simp <;> omega))))⟩
      · have hx0 : ((x : Int) != 0) = true := by simp; omega
        have HF := Lib.hid (show timesAtV k m = 0 by rw [HV.out, tA, hr, if_pos (by rw [hx]; exact h0)]; rfl)
        clear hf hn hR hr hx hti
        go_enter Try.func22, Try.ntmps22
        go_wp2_with fail
        refine (specFib_is m r _ HR.out).mono ?_
        rintro e w1 ⟨rfl, hh1⟩
        obtain ⟨hc1, hf1⟩ := bcell hh1
        have hz1 := hh1.size
        try simp only [World.size_alloc] at hz1
        clear hc1 hf1
        go_wp2_with fail
        refine (l1In_yes _ 1 1000000000 _ HN.out).mono ?_
        rintro e wx ⟨rfl, rfl⟩
        go_wp2
        go_ret
        exact ⟨ret_int HF.out.symm, by (repeat (first | exact Below.refl _ _ | refine Below.setCell ?_ (by first | omega | (simp <;> omega)) _ | refine Below.alloc ?_ (by first | omega | (simp <;> omega)) _ | refine Below.drew ?_ | refine Below.trans ?_ (Below.mono (by assumption) (by first | omega | (simp <;> omega))) | refine Below.grown ?_ (by assumption) (by first | omega | (simp <;> omega)) (fun k e => by cases e; first | omega | (simp <;> omega))))⟩
theorem specTimesAt_is (n p v : Int) (w : World) (hv : timesAtV n p = v) : Calls Try.prog 22 #[.int .i64 n, .int .i64 p] w fun e w' => e = .returned (.int .i64 v) ∧ Below w.heap.size w w' := by rw [← hv]; exact specTimesAt_any n p w
end Go.Proofs.Ytfihmcpigbpgpaa
namespace Go.Proofs.Ytfihmcpigbpgpaa
open Go.RowKit
theorem fib_pow_bd {p : Nat} (hf : p ∈ few) {j : Nat} (hj : j ≤ 8) : fibRk p * p ^ j < 2 ^ 50 := by
  have hall : few.all (fun p => (List.range 9).all fun k => decide (fibRk p * p ^ k < 2 ^ 50)) = true := by decide +kernel
  exact of_decide_eq_true (List.all_eq_true.1 (List.all_eq_true.1 hall p hf) j (by simp; omega))
set_option maxHeartbeats 4000000 in
theorem specPowRank_any (p k : Int) (w : World) : Calls Try.prog 26 #[.int .i64 p, .int .i64 k] w fun e w' => e = .returned (.int .i64 (powerV p k)) ∧ Below w.heap.size w w' := by
  cases hf : fewB p with
  | false =>
    have HV := Lib.hid (powerV_no (p := p) (k := k) (by simp [powerB, hf]))
    have HR := Lib.hid (fibRankV_no hf)
    clear hf
    go_enter Try.func26, Try.ntmps26
    go_wp2_with fail
    refine (specFib_is p (-1) _ HR.out).mono ?_
    rintro e w1 ⟨rfl, hh1⟩
    obtain ⟨hc1, hf1⟩ := bcell hh1
    have hz1 := hh1.size
    try simp only [World.size_alloc] at hz1
    clear hc1 hf1
    go_wp2
    go_ret
    exact ⟨ret_int HV.out.symm, by (repeat (first | exact Below.refl _ _ | refine Below.setCell ?_ (by first | omega | (simp <;> omega)) _ | refine Below.alloc ?_ (by first | omega | (simp <;> omega)) _ | refine Below.drew ?_ | refine Below.trans ?_ (Below.mono (by assumption) (by first | omega | (simp <;> omega))) | refine Below.grown ?_ (by assumption) (by first | omega | (simp <;> omega)) (fun k e => by cases e; first | omega | (simp <;> omega))))⟩
  | true =>
    obtain ⟨m, rfl, hm, m1, m2⟩ := fewB_true hf
    have hR := fibRankV_is hm
    have hr1 := fibRk_pos m
    have hbd := fun j hj => fib_pow_bd (p := m) hm (j := j) hj
    have hpt : ∀ j, m ≠ 2 → powT m j = fibRk m * m ^ (j - 1) := fun j h => by rw [powT, if_neg h]
    obtain ⟨r, hr⟩ : ∃ r, fibRk m = r := ⟨_, rfl⟩
    rw [hr] at hR hr1 hbd hpt
    have HR := Lib.hid hR
    have hr0 : (0 : Int) ≤ (r : Int) := by omega
    cases hn : inB k 1 9 with
    | false =>
      have HV := Lib.hid (powerV_no (p := m) (k := k) (by simp [powerB, hn]))
      have HN := Lib.hid hn
      clear hf hn hR hr hbd hpt
      go_enter Try.func26, Try.ntmps26
      go_wp2_with fail
      refine (specFib_is m r _ HR.out).mono ?_
      rintro e w1 ⟨rfl, hh1⟩
      obtain ⟨hc1, hf1⟩ := bcell hh1
      have hz1 := hh1.size
      try simp only [World.size_alloc] at hz1
      clear hc1 hf1
      go_wp2_with fail
      refine (l1In_no _ 1 9 _ HN.out).mono ?_
      rintro e wx ⟨rfl, rfl⟩
      go_wp2
      go_ret
      exact ⟨ret_int HV.out.symm, by (repeat (first | exact Below.refl _ _ | refine Below.setCell ?_ (by first | omega | (simp <;> omega)) _ | refine Below.alloc ?_ (by first | omega | (simp <;> omega)) _ | refine Below.drew ?_ | refine Below.trans ?_ (Below.mono (by assumption) (by first | omega | (simp <;> omega))) | refine Below.grown ?_ (by assumption) (by first | omega | (simp <;> omega)) (fun k e => by cases e; first | omega | (simp <;> omega))))⟩
    | true =>
      obtain ⟨n1, n2⟩ := inB_true hn
      obtain ⟨j, rfl⟩ := Int.eq_ofNat_of_zero_le (show 0 ≤ k by omega)
      have HV := Lib.hid (powerV_is (p := m) (k := j) (by rw [powerB, hf, hn]; rfl))
      have HN := Lib.hid hn
      by_cases h2 : m = 2
      · subst h2
        have HR2 := Lib.hid (show fibRankV 2 = (r : Int) from HR.out)
        show Calls _ _ #[.int .i64 2, .int .i64 (j : Int)] w fun e w' => e = .returned (.int .i64 (powerV 2 j)) ∧ Below w.heap.size w w'
        clear hf hn hR hr hbd hpt HR
        rcases (show j = 1 ∨ j = 2 ∨ j = 3 ∨ j = 4 ∨ j = 5 ∨ j = 6 ∨ j = 7 ∨ j = 8 ∨ j = 9 by omega) with rfl | rfl | rfl | rfl | rfl | rfl | rfl | rfl | rfl
        · have HF := Lib.hid (show powerV 2 1 = 3 from HV.out.trans (by decide))
          have HN1 := Lib.hid (show inB 1 1 9 = true from HN.out)
          show Calls _ _ #[.int .i64 2, .int .i64 1] w fun e w' => e = .returned (.int .i64 (powerV 2 1)) ∧ Below w.heap.size w w'
          clear n1 n2 HV HN
          go_enter Try.func26, Try.ntmps26
          go_wp2_with fail
          refine (specFib_is 2 r _ HR2.out).mono ?_
          rintro e w1 ⟨rfl, hh1⟩
          obtain ⟨hc1, hf1⟩ := bcell hh1
          have hz1 := hh1.size
          try simp only [World.size_alloc] at hz1
          clear hc1 hf1
          go_wp2_with fail
          refine (l1In_yes _ 1 9 _ HN1.out).mono ?_
          rintro e wx ⟨rfl, rfl⟩
          go_wp2
          go_ret
          exact ⟨ret_int HF.out.symm, by (repeat (first | exact Below.refl _ _ | refine Below.setCell ?_ (by first | omega | (simp <;> omega)) _ | refine Below.alloc ?_ (by first | omega | (simp <;> omega)) _ | refine Below.drew ?_ | refine Below.trans ?_ (Below.mono (by assumption) (by first | omega | (simp <;> omega))) | refine Below.grown ?_ (by assumption) (by first | omega | (simp <;> omega)) (fun k e => by cases e; first | omega | (simp <;> omega))))⟩
        · have HF := Lib.hid (show powerV 2 2 = 6 from HV.out.trans (by decide))
          have HN1 := Lib.hid (show inB 2 1 9 = true from HN.out)
          show Calls _ _ #[.int .i64 2, .int .i64 2] w fun e w' => e = .returned (.int .i64 (powerV 2 2)) ∧ Below w.heap.size w w'
          clear n1 n2 HV HN
          go_enter Try.func26, Try.ntmps26
          go_wp2_with fail
          refine (specFib_is 2 r _ HR2.out).mono ?_
          rintro e w1 ⟨rfl, hh1⟩
          obtain ⟨hc1, hf1⟩ := bcell hh1
          have hz1 := hh1.size
          try simp only [World.size_alloc] at hz1
          clear hc1 hf1
          go_wp2_with fail
          refine (l1In_yes _ 1 9 _ HN1.out).mono ?_
          rintro e wx ⟨rfl, rfl⟩
          go_wp2
          go_ret
          exact ⟨ret_int HF.out.symm, by (repeat (first | exact Below.refl _ _ | refine Below.setCell ?_ (by first | omega | (simp <;> omega)) _ | refine Below.alloc ?_ (by first | omega | (simp <;> omega)) _ | refine Below.drew ?_ | refine Below.trans ?_ (Below.mono (by assumption) (by first | omega | (simp <;> omega))) | refine Below.grown ?_ (by assumption) (by first | omega | (simp <;> omega)) (fun k e => by cases e; first | omega | (simp <;> omega))))⟩
        · have HF := Lib.hid (show powerV 2 3 = 6 from HV.out.trans (by decide))
          have HN1 := Lib.hid (show inB 3 1 9 = true from HN.out)
          show Calls _ _ #[.int .i64 2, .int .i64 3] w fun e w' => e = .returned (.int .i64 (powerV 2 3)) ∧ Below w.heap.size w w'
          clear n1 n2 HV HN
          go_enter Try.func26, Try.ntmps26
          go_wp2_with fail
          refine (specFib_is 2 r _ HR2.out).mono ?_
          rintro e w1 ⟨rfl, hh1⟩
          obtain ⟨hc1, hf1⟩ := bcell hh1
          have hz1 := hh1.size
          try simp only [World.size_alloc] at hz1
          clear hc1 hf1
          go_wp2_with fail
          refine (l1In_yes _ 1 9 _ HN1.out).mono ?_
          rintro e wx ⟨rfl, rfl⟩
          go_wp2
          go_ret
          exact ⟨ret_int HF.out.symm, by (repeat (first | exact Below.refl _ _ | refine Below.setCell ?_ (by first | omega | (simp <;> omega)) _ | refine Below.alloc ?_ (by first | omega | (simp <;> omega)) _ | refine Below.drew ?_ | refine Below.trans ?_ (Below.mono (by assumption) (by first | omega | (simp <;> omega))) | refine Below.grown ?_ (by assumption) (by first | omega | (simp <;> omega)) (fun k e => by cases e; first | omega | (simp <;> omega))))⟩
        · have HF := Lib.hid (show powerV 2 4 = 12 from HV.out.trans (by decide))
          have HN1 := Lib.hid (show inB 4 1 9 = true from HN.out)
          show Calls _ _ #[.int .i64 2, .int .i64 4] w fun e w' => e = .returned (.int .i64 (powerV 2 4)) ∧ Below w.heap.size w w'
          clear n1 n2 HV HN
          go_enter Try.func26, Try.ntmps26
          go_wp2_with fail
          refine (specFib_is 2 r _ HR2.out).mono ?_
          rintro e w1 ⟨rfl, hh1⟩
          obtain ⟨hc1, hf1⟩ := bcell hh1
          have hz1 := hh1.size
          try simp only [World.size_alloc] at hz1
          clear hc1 hf1
          go_wp2_with fail
          refine (l1In_yes _ 1 9 _ HN1.out).mono ?_
          rintro e wx ⟨rfl, rfl⟩
          go_wp2
          go_ret
          exact ⟨ret_int HF.out.symm, by (repeat (first | exact Below.refl _ _ | refine Below.setCell ?_ (by first | omega | (simp <;> omega)) _ | refine Below.alloc ?_ (by first | omega | (simp <;> omega)) _ | refine Below.drew ?_ | refine Below.trans ?_ (Below.mono (by assumption) (by first | omega | (simp <;> omega))) | refine Below.grown ?_ (by assumption) (by first | omega | (simp <;> omega)) (fun k e => by cases e; first | omega | (simp <;> omega))))⟩
        · have HF := Lib.hid (show powerV 2 5 = 24 from HV.out.trans (by decide))
          have HN1 := Lib.hid (show inB 5 1 9 = true from HN.out)
          show Calls _ _ #[.int .i64 2, .int .i64 5] w fun e w' => e = .returned (.int .i64 (powerV 2 5)) ∧ Below w.heap.size w w'
          clear n1 n2 HV HN
          go_enter Try.func26, Try.ntmps26
          go_wp2_with fail
          refine (specFib_is 2 r _ HR2.out).mono ?_
          rintro e w1 ⟨rfl, hh1⟩
          obtain ⟨hc1, hf1⟩ := bcell hh1
          have hz1 := hh1.size
          try simp only [World.size_alloc] at hz1
          clear hc1 hf1
          go_wp2_with fail
          refine (l1In_yes _ 1 9 _ HN1.out).mono ?_
          rintro e wx ⟨rfl, rfl⟩
          go_wp2
          go_ret
          exact ⟨ret_int HF.out.symm, by (repeat (first | exact Below.refl _ _ | refine Below.setCell ?_ (by first | omega | (simp <;> omega)) _ | refine Below.alloc ?_ (by first | omega | (simp <;> omega)) _ | refine Below.drew ?_ | refine Below.trans ?_ (Below.mono (by assumption) (by first | omega | (simp <;> omega))) | refine Below.grown ?_ (by assumption) (by first | omega | (simp <;> omega)) (fun k e => by cases e; first | omega | (simp <;> omega))))⟩
        · have HF := Lib.hid (show powerV 2 6 = 48 from HV.out.trans (by decide))
          have HN1 := Lib.hid (show inB 6 1 9 = true from HN.out)
          show Calls _ _ #[.int .i64 2, .int .i64 6] w fun e w' => e = .returned (.int .i64 (powerV 2 6)) ∧ Below w.heap.size w w'
          clear n1 n2 HV HN
          go_enter Try.func26, Try.ntmps26
          go_wp2_with fail
          refine (specFib_is 2 r _ HR2.out).mono ?_
          rintro e w1 ⟨rfl, hh1⟩
          obtain ⟨hc1, hf1⟩ := bcell hh1
          have hz1 := hh1.size
          try simp only [World.size_alloc] at hz1
          clear hc1 hf1
          go_wp2_with fail
          refine (l1In_yes _ 1 9 _ HN1.out).mono ?_
          rintro e wx ⟨rfl, rfl⟩
          go_wp2
          go_ret
          exact ⟨ret_int HF.out.symm, by (repeat (first | exact Below.refl _ _ | refine Below.setCell ?_ (by first | omega | (simp <;> omega)) _ | refine Below.alloc ?_ (by first | omega | (simp <;> omega)) _ | refine Below.drew ?_ | refine Below.trans ?_ (Below.mono (by assumption) (by first | omega | (simp <;> omega))) | refine Below.grown ?_ (by assumption) (by first | omega | (simp <;> omega)) (fun k e => by cases e; first | omega | (simp <;> omega))))⟩
        · have HF := Lib.hid (show powerV 2 7 = 96 from HV.out.trans (by decide))
          have HN1 := Lib.hid (show inB 7 1 9 = true from HN.out)
          show Calls _ _ #[.int .i64 2, .int .i64 7] w fun e w' => e = .returned (.int .i64 (powerV 2 7)) ∧ Below w.heap.size w w'
          clear n1 n2 HV HN
          go_enter Try.func26, Try.ntmps26
          go_wp2_with fail
          refine (specFib_is 2 r _ HR2.out).mono ?_
          rintro e w1 ⟨rfl, hh1⟩
          obtain ⟨hc1, hf1⟩ := bcell hh1
          have hz1 := hh1.size
          try simp only [World.size_alloc] at hz1
          clear hc1 hf1
          go_wp2_with fail
          refine (l1In_yes _ 1 9 _ HN1.out).mono ?_
          rintro e wx ⟨rfl, rfl⟩
          go_wp2
          go_ret
          exact ⟨ret_int HF.out.symm, by (repeat (first | exact Below.refl _ _ | refine Below.setCell ?_ (by first | omega | (simp <;> omega)) _ | refine Below.alloc ?_ (by first | omega | (simp <;> omega)) _ | refine Below.drew ?_ | refine Below.trans ?_ (Below.mono (by assumption) (by first | omega | (simp <;> omega))) | refine Below.grown ?_ (by assumption) (by first | omega | (simp <;> omega)) (fun k e => by cases e; first | omega | (simp <;> omega))))⟩
        · have HF := Lib.hid (show powerV 2 8 = 192 from HV.out.trans (by decide))
          have HN1 := Lib.hid (show inB 8 1 9 = true from HN.out)
          show Calls _ _ #[.int .i64 2, .int .i64 8] w fun e w' => e = .returned (.int .i64 (powerV 2 8)) ∧ Below w.heap.size w w'
          clear n1 n2 HV HN
          go_enter Try.func26, Try.ntmps26
          go_wp2_with fail
          refine (specFib_is 2 r _ HR2.out).mono ?_
          rintro e w1 ⟨rfl, hh1⟩
          obtain ⟨hc1, hf1⟩ := bcell hh1
          have hz1 := hh1.size
          try simp only [World.size_alloc] at hz1
          clear hc1 hf1
          go_wp2_with fail
          refine (l1In_yes _ 1 9 _ HN1.out).mono ?_
          rintro e wx ⟨rfl, rfl⟩
          go_wp2
          go_ret
          exact ⟨ret_int HF.out.symm, by (repeat (first | exact Below.refl _ _ | refine Below.setCell ?_ (by first | omega | (simp <;> omega)) _ | refine Below.alloc ?_ (by first | omega | (simp <;> omega)) _ | refine Below.drew ?_ | refine Below.trans ?_ (Below.mono (by assumption) (by first | omega | (simp <;> omega))) | refine Below.grown ?_ (by assumption) (by first | omega | (simp <;> omega)) (fun k e => by cases e; first | omega | (simp <;> omega))))⟩
        · have HF := Lib.hid (show powerV 2 9 = 384 from HV.out.trans (by decide))
          have HN1 := Lib.hid (show inB 9 1 9 = true from HN.out)
          show Calls _ _ #[.int .i64 2, .int .i64 9] w fun e w' => e = .returned (.int .i64 (powerV 2 9)) ∧ Below w.heap.size w w'
          clear n1 n2 HV HN
          go_enter Try.func26, Try.ntmps26
          go_wp2_with fail
          refine (specFib_is 2 r _ HR2.out).mono ?_
          rintro e w1 ⟨rfl, hh1⟩
          obtain ⟨hc1, hf1⟩ := bcell hh1
          have hz1 := hh1.size
          try simp only [World.size_alloc] at hz1
          clear hc1 hf1
          go_wp2_with fail
          refine (l1In_yes _ 1 9 _ HN1.out).mono ?_
          rintro e wx ⟨rfl, rfl⟩
          go_wp2
          go_ret
          exact ⟨ret_int HF.out.symm, by (repeat (first | exact Below.refl _ _ | refine Below.setCell ?_ (by first | omega | (simp <;> omega)) _ | refine Below.alloc ?_ (by first | omega | (simp <;> omega)) _ | refine Below.drew ?_ | refine Below.trans ?_ (Below.mono (by assumption) (by first | omega | (simp <;> omega))) | refine Below.grown ?_ (by assumption) (by first | omega | (simp <;> omega)) (fun k e => by cases e; first | omega | (simp <;> omega))))⟩
      · have hm2 : ((m : Int) == 2) = false := by simp; omega
        have HF := Lib.hid (show powerV m j = ((r * m ^ (j - 1) : Nat) : Int) by rw [HV.out, hpt j h2])
        have HBD := Lib.hid hbd
        clear hf hn hR hr hbd hpt
        go_enter Try.func26, Try.ntmps26
        go_wp2_with fail
        refine (specFib_is m r _ HR.out).mono ?_
        rintro e w1 ⟨rfl, hh1⟩
        obtain ⟨hc1, hf1⟩ := bcell hh1
        have hz1 := hh1.size
        try simp only [World.size_alloc] at hz1
        clear hc1 hf1
        go_wp2_with fail
        refine (l1In_yes _ 1 9 _ HN.out).mono ?_
        rintro e wx ⟨rfl, rfl⟩
        go_wp2_with fail
        go_loop [6, 7] (fun x y => ∃ i : Nat, 1 ≤ i ∧ i ≤ j ∧ x = .int .i64 ((r * m ^ (i - 1) : Nat) : Int) ∧ y = .int .i64 i) (fun _ y => 20 - (intOf y).toNat)
        case atStart => exact ⟨1, by omega, by omega, congrArg (Value.int .i64) (by simp), rfl⟩
        case round =>
          obtain ⟨i, i1, i2, rfl, rfl⟩ := hrel
          by_cases hlt : i < j
          · have hlti : (i : Int) < (j : Int) := by omega
            have hb := HBD.out i (by omega)
            have hmul : r * m ^ (i - 1) * m = r * m ^ i := by
              obtain ⟨t, rfl⟩ : ∃ t, i = t + 1 := ⟨i - 1, by omega⟩
              rw [Nat.add_sub_cancel, Nat.pow_succ, Nat.mul_assoc]
            obtain ⟨y, hy⟩ : ∃ y, r * m ^ (i - 1) = y := ⟨_, rfl⟩
            obtain ⟨z, hz⟩ : ∃ z, r * m ^ i = z := ⟨_, rfl⟩
            rw [hy, hz] at hmul
            rw [hz] at hb
            rw [hy]
            have HZ := Lib.hid (show r * m ^ (i + 1 - 1) = z from hz)
            have HM := Lib.hid (show (y : Int) * (m : Int) = (z : Int) by rw [← hmul]; simp)
            have U : IntKind.i64.wrap ((y : Int) * (m : Int)) = (z : Int) := by rw [HM.out, IntKind.wrap_i64]; omega
            clear hy hz hmul
            go_wp2
            go_round
            case rel => exact ⟨i + 1, by omega, by omega, by rw [HZ.out], congrArg (Value.int .i64) (by omega)⟩
            case measure => simp [intOf]; omega
          · obtain rfl : i = j := by omega
            obtain ⟨y, hy⟩ : ∃ y, r * m ^ (i - 1) = y := ⟨_, rfl⟩
            rw [hy] at HF ⊢
            clear hy
            go_wp2
            go_ret
            exact ⟨ret_int HF.out.symm, by (repeat (first | exact Below.refl _ _ | refine Below.setCell ?_ (by first | omega | (simp <;> omega)) _ | refine Below.alloc ?_ (by first | omega | (simp <;> omega)) _ | refine Below.drew ?_ | refine Below.trans ?_ (Below.mono (by assumption) (by first | omega | (simp <;> omega))) | refine Below.grown ?_ (by assumption) (by first | omega | (simp <;> omega)) (fun k e => by cases e; first | omega | (simp <;> omega))))⟩
theorem specPowRank_is (p k v : Int) (w : World) (hv : powerV p k = v) : Calls Try.prog 26 #[.int .i64 p, .int .i64 k] w fun e w' => e = .returned (.int .i64 v) ∧ Below w.heap.size w w' := by rw [← hv]; exact specPowRank_any p k w
end Go.Proofs.Ytfihmcpigbpgpaa
namespace Go.Proofs.Ytfihmcpigbpgpaa
open Go.RowKit
theorem hold_at (B : Nat → Bool) (n i : Nat) (h : i < (holdL B n).length) : (holdL B n).getD i 0 < n ∧ B ((holdL B n).getD i 0) = true := by
  have hm : (holdL B n).getD i 0 ∈ holdL B n := by
    simp only [List.getD_eq_getElem?_getD, List.getElem?_eq_getElem h, Option.getD_some]
    exact List.getElem_mem h
  simpa [holdL] using hm
theorem hold_has {B : Nat → Bool} {n x : Nat} (hx : x < n) (hb : B x = true) : ∃ i, i < (holdL B n).length ∧ (holdL B n).getD i 0 = x := by
  have hm : x ∈ holdL B n := by simp [holdL, hx, hb]
  obtain ⟨i, hi, he⟩ := List.getElem_of_mem hm
  exact ⟨i, hi, by simp only [List.getD_eq_getElem?_getD, List.getElem?_eq_getElem hi, Option.getD_some]; exact he⟩
theorem hold_lt (B : Nat → Bool) (n i j : Nat) (hij : i < j) (h : j < (holdL B n).length) : (holdL B n).getD i 0 < (holdL B n).getD j 0 := by
  have hp : (holdL B n).Pairwise (· < ·) := List.Pairwise.filter _ List.pairwise_lt_range
  have := List.pairwise_iff_getElem.1 hp i j (by omega) h hij
  simpa only [List.getD_eq_getElem?_getD, List.getElem?_eq_getElem h, List.getElem?_eq_getElem (show i < (holdL B n).length by omega), Option.getD_some] using this
/-- What a list of places keeps: they are from 1 to 20 and ascend; multiples are told; of a pair that is apart all are multiples of the first one. -/
def PlacesOk (p q : Int) (L : List Nat) : Prop :=
  L.length ≤ 21 ∧ (∀ i, i < L.length → 1 ≤ L.getD i 0 ∧ L.getD i 0 ≤ 20) ∧ (∀ i, i + 1 < L.length → L.getD i 0 < L.getD (i + 1) 0) ∧
  (∀ i t, i < L.length → 1 ≤ t → t * L.getD i 0 ≤ 20 → ∃ j, j < L.length ∧ L.getD j 0 = t * L.getD i 0) ∧
  (apartB p q = true → ∀ i, i < L.length → L.getD i 0 % L.getD 0 0 = 0)
theorem placesOk_nil (p q : Int) : PlacesOk p q [] := ⟨by simp, fun i h => by simp at h, fun i h => by simp at h, fun i t h => by simp at h, fun _ i h => by simp at h⟩
theorem placesOk_div (p q d : Int) : PlacesOk p q (holdL (divB p q d) 21) := by
  have at_ := fun i h => hold_at (divB p q d) 21 i h
  have one : ∀ j, divB p q d j = true → 1 ≤ j ∧ d ∣ row p q 0 1 j := fun j h => by simpa [divB] using h
  refine ⟨holdL_len _ _, fun i h => ?_, fun i h => hold_lt _ _ _ _ (by omega) h, fun i t h ht hm => ?_, fun ha i h => ?_⟩
  · obtain ⟨h1, h2⟩ := at_ i h
    exact ⟨(one _ h2).1, by omega⟩
  · obtain ⟨h1, h2⟩ := at_ i h
    obtain ⟨h3, h4⟩ := one _ h2
    refine hold_has (by omega) ?_
    have h5 : 1 ≤ t * (holdL (divB p q d) 21).getD i 0 := Nat.mul_pos ht h3
    have h6 : d ∣ row p q 0 1 (t * (holdL (divB p q d) 21).getD i 0) := by rw [Nat.mul_comm]; exact Int.dvd_trans h4 (row_dvd p q _ t)
    simp only [divB, Bool.and_eq_true, decide_eq_true_iff]
    exact ⟨h5, h6⟩
  · obtain ⟨a1, a2⟩ := at_ 0 (by omega)
    obtain ⟨a3, a4⟩ := one _ a2
    obtain ⟨b1, b2⟩ := at_ i h
    obtain ⟨b3, b4⟩ := one _ b2
    have hap : Apart d q := by
      obtain ⟨r, hr⟩ : ∃ r, (holdL (divB p q d) 21).getD 0 0 = r + 1 := ⟨(holdL (divB p q d) 21).getD 0 0 - 1, by omega⟩
      rw [hr] at a4
      exact (row_apart (apartB_apart ha).2 r).of_dvd a4
    refine Nat.mod_eq_zero_of_dvd ((rank_dvd hap a3 a4 (fun s s1 s2 hd => ?_) _ _ (Nat.le_refl _)).1 b4)
    obtain ⟨j, hj, he⟩ := hold_has (B := divB p q d) (n := 21) (x := s) (by omega) (by simp [divB, s1, hd])
    by_cases h0 : j = 0
    · subst h0; omega
    · have := hold_lt (divB p q d) 21 0 j (by omega) hj
      omega
theorem zerosL_ok (p q : Int) : PlacesOk p q (zerosL p q) := by
  rw [zerosL]; split
  · exact placesOk_div p q 0
  · exact placesOk_nil p q
theorem dividedL_ok (p q m : Int) : PlacesOk p q (dividedL p q m) := by
  rw [dividedL]; split
  · exact placesOk_div p q m
  · exact placesOk_nil p q
end Go.Proofs.Ytfihmcpigbpgpaa
