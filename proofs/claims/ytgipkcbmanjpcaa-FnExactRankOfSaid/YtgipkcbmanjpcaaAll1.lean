/- Contracts and laws that the statement's proof stands on, one text behind the other. -/
import Derived.Test.YtgipkcbmanjpcaaAll0b
import Derived.Test.YtgipkcbmanjpcaaHvPlaceWhere
import Derived.Test.YtgipkcbmanjpcaaHvDrawFar
import Derived.Test.YtgipkcbmanjpcaaHvDrawBy
import Derived.Test.YtgipkcbmanjpcaaHvDrawRanked

namespace Go.Proofs.Ytgipkcbmanjpcaa
open Go.RowKit
/-- Places, as cells; those up to one at which something holds. -/
def natCells (L : List Nat) : List Value := L.map fun (i : Nat) => .int .i64 (i : Int)
def holdL (B : Nat → Bool) (n : Nat) : List Nat := (List.range n).filter B
theorem holdL_len (B : Nat → Bool) (n : Nat) : (holdL B n).length ≤ n := Nat.le_trans (List.length_filter_le _ _) (by simp)
theorem holdL_yes {B : Nat → Bool} {n : Nat} (h : B n = true) : holdL B n ++ [n] = holdL B (n + 1) := by simp [holdL, List.range_succ, h]
theorem holdL_no {B : Nat → Bool} {n : Nat} (h : B n = false) : holdL B (n + 1) = holdL B n := by simp [holdL, List.range_succ, h]
theorem natCells_yes {B : Nat → Bool} {n : Nat} (h : B n = true) : natCells (holdL B n) ++ [.int .i64 (n : Int)] = natCells (holdL B (n + 1)) := by
  rw [← holdL_yes h]; simp [natCells]
theorem holdL_yes_len {B : Nat → Bool} {n : Nat} (h : B n = true) : (holdL B n).length + 1 = (holdL B (n + 1)).length := by
  rw [← holdL_yes h]; simp
theorem natCells_range (L : List Nat) : natCells L = (List.range L.length).map fun i => .int .i64 ((L.getD i 0 : Nat) : Int) := by
  refine List.ext_getElem (by simp [natCells]) fun i h1 h2 => ?_
  simp only [natCells, List.getElem_map, List.getElem_range]
  have h3 : i < L.length := by simpa [natCells] using h1
  simp [h3]
/-- A list of places, in new memory. -/
def ListOf (L : List Nat) (w : World) (e : Ending) (w' : World) : Prop :=
  ∃ v, e = .returned v ∧ IsInts w.heap.size w'.heap.size w' v L.length (fun i => ((L.getD i 0 : Nat) : Int)) ∧ Below w.heap.size w w'
/-- The places from 1 on at which d divides the row. -/
def divB (p q d : Int) (j : Nat) : Bool := decide (1 ≤ j) && decide (d ∣ row p q 0 1 j)
def zerosL (p q : Int) : List Nat := if pairB p q = true then holdL (divB p q 0) 21 else []
def dividedB (p q m : Int) : Bool := pairB p q && inB m 1 10000
def dividedL (p q m : Int) : List Nat := if dividedB p q m = true then holdL (divB p q m) 21 else []
theorem table_list {p q d : Int} {t : Nat} (h : Table p q d t) : holdL (fun j => t.testBit j) 21 = holdL (divB p q d) 21 := by
  refine List.filter_congr fun j hj => ?_
  have hj' : j < 21 := by simpa using hj
  rw [Bool.eq_iff_iff, h.2 j]
  simp only [divB, Bool.and_eq_true, decide_eq_true_iff]
  exact ⟨fun h => ⟨h.1, h.2.2⟩, fun h => ⟨h.1, by omega, h.2⟩⟩
theorem dividedB_ways {p q m : Int} (h : dividedB p q m = false) : pairB p q = false ∨ (pairB p q = true ∧ inB m 1 10000 = false) := by
  cases hp : pairB p q with
  | false => exact .inl rfl
  | true => exact .inr ⟨rfl, by simpa [dividedB, hp] using h⟩
theorem dividedB_true {p q m : Int} (h : dividedB p q m = true) : pairB p q = true ∧ inB m 1 10000 = true := by simpa [dividedB] using h
end Go.Proofs.Ytgipkcbmanjpcaa
namespace Go.Proofs.Ytgipkcbmanjpcaa
open Go.RowKit
theorem own_below {w w' : World} {base : Nat} {e : TypeId} {size : Nat} {v : Value} {n : Nat} {xs : List Value} (h : w.ownsRow base e size v n xs) (hb : Below w.heap.size w w') : w'.ownsRow base e size v n xs :=
  h.kept (row := none) ⟨hb.os, hb.tape, hb.output, hb.size, fun j hj _ => hb.block j hj⟩ (by cases v.ownBlock <;> simp)
theorem divB_zero (p q : Int) (j : Nat) (h : 1 ≤ j) : divB p q 0 j = (row p q 0 1 j == 0) := by
  rw [zero_bool]; simp [divB, h]
theorem divB_by (p q m : Int) (j : Nat) (h : 1 ≤ j) : divB p q m j = ((row p q 0 1 j).tmod m == 0) := by
  rw [dvd_bool]; simp [divB, h]
end Go.Proofs.Ytgipkcbmanjpcaa
namespace Go.Proofs.Ytgipkcbmanjpcaa
open Go.RowKit
theorem l1Common_is (a b v : Int) (w : World) (a1 : -1000000000000000 ≤ a) (a2 : a ≤ 1000000000000000) (b1 : -1000000000000000 ≤ b) (b2 : b ≤ 1000000000000000) (hv : ((Int.gcd a b : Nat) : Int) = v) :
    Calls Try.prog 39 #[.int .i64 a, .int .i64 b] w fun e w' => e = .returned (.int .i64 v) ∧ w = w' := by subst hv; exact l1Common_at a b w a1 a2 b1 b2
/-- Whether a number has a rank; the rank. -/
def rankB (p q m : Int) : Bool := pairB p q && (decide (q ≠ 0) && (inB m 1 400 && decide (Int.gcd q m = 1)))
def rankV (p q m : Int) : Int := if rankB p q m = true then (rankN p q m.toNat : Int) else -1
theorem rankB_true {p q m : Int} (h : rankB p q m = true) : pairB p q = true ∧ q ≠ 0 ∧ inB m 1 400 = true ∧ Int.gcd q m = 1 ∧ ∃ k : Nat, m = k ∧ 1 ≤ k ∧ k ≤ 400 ∧ Apart (k : Int) q := by
  have h' : pairB p q = true ∧ ¬ q = 0 ∧ inB m 1 400 = true ∧ Int.gcd q m = 1 := by simpa [rankB] using h
  obtain ⟨hp, hq, hm, hg⟩ := h'
  obtain ⟨m1, m2⟩ := inB_true hm
  have e : m = (m.toNat : Int) := by omega
  refine ⟨hp, hq, hm, hg, m.toNat, e, by omega, by omega, ?_⟩
  rw [← e]
  exact (apart_gcd.1 hg).symm
theorem rankB_ways {p q m : Int} (h : rankB p q m = false) : pairB p q = false ∨ (pairB p q = true ∧ q = 0) ∨ (pairB p q = true ∧ q ≠ 0 ∧ inB m 1 400 = false) ∨ (pairB p q = true ∧ q ≠ 0 ∧ inB m 1 400 = true ∧ Int.gcd q m ≠ 1) := by
  cases hp : pairB p q with
  | false => exact .inl rfl
  | true =>
    by_cases hq : q = 0
    · exact .inr (.inl ⟨rfl, hq⟩)
    · cases hm : inB m 1 400 with
      | false => exact .inr (.inr (.inl ⟨rfl, hq, rfl⟩))
      | true => exact .inr (.inr (.inr ⟨rfl, hq, rfl, by simpa [rankB, hp, hq, hm] using h⟩))
theorem rankB_mk {p q : Int} {k : Nat} (hp : pairB p q = true) (hq : q ≠ 0) (h1 : 1 ≤ k) (h2 : k ≤ 400) (h : Apart (k : Int) q) : rankB p q k = true := by
  have hg : Int.gcd q (k : Int) = 1 := apart_gcd.2 h.symm
  simp [rankB, hp, hq, inB_mk (n := (k : Int)) (a := 1) (b := 400) (by omega) (by omega), hg]
theorem rankV_is {p q : Int} {k : Nat} (h : rankB p q k = true) : rankV p q k = (rankN p q k : Int) := by rw [rankV, if_pos h]; rfl
theorem rank_bd {p q : Int} {k : Nat} (h1 : 1 ≤ k) (h2 : k ≤ 400) (h : Apart (k : Int) q) : 1 ≤ rankN p q k ∧ rankN p q k ≤ 160000 := by
  obtain ⟨_, a, b, _⟩ := rankN_spec (p := p) k h1 h
  exact ⟨a, Nat.le_trans b (Nat.mul_le_mul h2 h2)⟩
/-- What is left before the rank is not 0; at the rank it is. -/
theorem rank_left {p q : Int} {k : Nat} (h1 : 1 ≤ k) (h : Apart (k : Int) q) (n : Nat) (hn : 1 ≤ n) (hr : n ≤ rankN p q k) : (row p q 0 1 n % (k : Int) == 0) = decide (n = rankN p q k) := by
  obtain ⟨a, b, _, d⟩ := rankN_spec (p := p) k h1 h
  rw [Bool.eq_iff_iff, left_zero_iff, decide_eq_true_iff]
  constructor
  · intro hd
    rcases Nat.lt_or_ge n (rankN p q k) with hlt | hge
    · exact absurd hd (d n hn hlt)
    · omega
  · rintro rfl; exact a
set_option maxRecDepth 100000 in
set_option maxHeartbeats 4000000 in
theorem specRank_any (p q m : Int) (w : World) : Calls Try.prog 13 #[pr p q, .int .i64 m] w fun e w' => e = .returned (.tuple #[.int .i64 (rankV p q m), .bool (rankB p q m)]) ∧ Below w.heap.size w w' := by
  cases h : rankB p q m with
  | true =>
    obtain ⟨hp, hq, hm, hg, k, rfl, k1, k2, ha⟩ := rankB_true h
    obtain ⟨⟨r1, r2⟩, r3, r4⟩ := pairB_true hp
    obtain ⟨b1, b2⟩ := rank_bd (p := p) k1 k2 ha
    have HV := Lib.hid (rankV_is h)
    have HL := Lib.hid (rank_left (p := p) k1 ha)
    obtain ⟨R, hR⟩ : ∃ R, rankN p q k = R := ⟨_, rfl⟩
    rw [hR] at b1 b2 HL HV
    have HP := Lib.hid hp
    have HM := Lib.hid hm
    have hqz : (q == 0) = false := by simpa using hq
    have hz : ((k : Int) == 0) = false := by simp; omega
    have hgz : (((Int.gcd q (k : Int) : Nat) : Int)) = 1 := by rw [hg]; rfl
    have HG := Lib.hid hgz
    have m1 : (1 : Int) ≤ (k : Int) := by omega
    have m3 : (k : Int) ≤ 1000000000000 := by omega
    have E2 := Lib.hid (show p % (k : Int) = row p q 0 1 2 % (k : Int) by simp [row])
    have E1 := Lib.hid (show (1 : Int) % (k : Int) = row p q 0 1 1 % (k : Int) by simp [row])
    clear hp hm h hR hg hgz ha
    go_enter Try.func13, Try.ntmps13
    go_wp2_with fail
    refine (specPairOk_yes p q _ HP.out).mono ?_
    rintro e w1 ⟨rfl, hh1⟩
    obtain ⟨hc1, hf1⟩ := bcell hh1
    have hz1 := hh1.size
    try simp only [World.size_alloc] at hz1
    have hz1_0 : w.heap.size < w1.heap.size := by omega
    have kb1_0_0 : w1.cell? ⟨w.heap.size, 0, none⟩ = some (.int .i64 p) := by go_simp
    have kf1_0_0 : w1.frozen? ⟨w.heap.size, 0, none⟩ = false := by go_simp
    have kb1_0_1 : w1.cell? ⟨w.heap.size, 1, none⟩ = some (.int .i64 q) := by go_simp
    have kf1_0_1 : w1.frozen? ⟨w.heap.size, 1, none⟩ = false := by go_simp
    clear hc1 hf1
    go_wp2_with fail
    refine (l1In_yes _ 1 400 _ HM.out).mono ?_
    rintro e wx ⟨rfl, rfl⟩
    go_wp2_with fail
    refine (l1Common_is q _ 1 _ (by omega) (by omega) (by omega) (by omega) HG.out).mono ?_
    rintro e wx ⟨rfl, rfl⟩
    go_wp2_with fail
    refine (l3Left_at _ _ _ _ m1 m3 E2.out).mono ?_
    rintro e wx ⟨rfl, rfl⟩
    go_wp2_with fail
    go_loop [6, 7, 8] (fun x y c => ∃ n : Nat, 1 ≤ n ∧ n ≤ R ∧ x = .int .i64 (row p q 0 1 n % (k : Int)) ∧ y = .int .i64 (row p q 0 1 (n + 1) % (k : Int)) ∧ c = .int .i64 n) (fun _ _ c => R - (intOf c).toNat)
    case atStart => exact ⟨1, Nat.le_refl _, b1, congrArg (Value.int .i64) E1.out, rfl, rfl⟩
    case round =>
      obtain ⟨n, n1, n2, rfl, rfl, rfl⟩ := hrel
      by_cases he : n = R
      · have ht : (row p q 0 1 n % (k : Int) == 0) = true := by rw [HL.out n n1 n2]; simpa using he
        have HE := Lib.hid he
        clear he
        rw [beq_iff_eq] at ht
        go_wp2
        go_ret2
        exact ⟨ret_int_bool (by rw [HV.out, HE.out]) rfl, by (repeat (first | exact Below.refl _ _ | refine Below.setCell ?_ (by first | omega | (simp <;> omega)) _ | refine Below.alloc ?_ (by first | omega | (simp <;> omega)) _ | refine Below.drew ?_ | refine Below.trans ?_ (Below.mono (by assumption) (by first | omega | (simp <;> omega))) | refine Below.grown ?_ (by assumption) (by first | omega | (simp <;> omega)) (fun k e => by cases e; first | omega | (simp <;> omega))))⟩
      · have ht : (row p q 0 1 n % (k : Int) == 0) = false := by rw [HL.out n n1 n2]; simpa using he
        obtain ⟨a0, a1⟩ := left_bd (row p q 0 1 n) k m1
        obtain ⟨c0, c1⟩ := left_bd (row p q 0 1 (n + 1)) k m1
        obtain ⟨x1, x2⟩ := mul_bd (b := 400) r1 r2 (show -400 ≤ row p q 0 1 (n + 1) % (k : Int) by omega) (by omega)
        obtain ⟨x3, x4⟩ := mul_bd (b := 400) r3 r4 (show -400 ≤ row p q 0 1 n % (k : Int) by omega) (by omega)
        have E := Lib.hid (far_next p q k n)
        go_wp2_with fail
        refine (l3Left_at _ _ _ _ m1 m3 E.out).mono ?_
        rintro e wx ⟨rfl, rfl⟩
        go_wp2
        go_round
        case rel => exact ⟨n + 1, by omega, by omega, rfl, rfl, congrArg (Value.int .i64) (by omega)⟩
        case measure => simp [intOf]; omega
  | false =>
    have HV := Lib.hid (show rankV p q m = -1 by rw [rankV, if_neg (by simp [h])])
    rcases rankB_ways h with hp | ⟨hp, hq⟩ | ⟨hp, hq, hm⟩ | ⟨hp, hq, hm, hg⟩
    · have HP := Lib.hid hp
      clear hp h
      go_enter Try.func13, Try.ntmps13
      go_wp2_with fail
      refine (specPairOk_no p q _ HP.out).mono ?_
      rintro e w1 ⟨rfl, hh1⟩
      obtain ⟨hc1, hf1⟩ := bcell hh1
      have hz1 := hh1.size
      try simp only [World.size_alloc] at hz1
      have hz1_0 : w.heap.size < w1.heap.size := by omega
      have kb1_0_0 : w1.cell? ⟨w.heap.size, 0, none⟩ = some (.int .i64 p) := by go_simp
      have kf1_0_0 : w1.frozen? ⟨w.heap.size, 0, none⟩ = false := by go_simp
      have kb1_0_1 : w1.cell? ⟨w.heap.size, 1, none⟩ = some (.int .i64 q) := by go_simp
      have kf1_0_1 : w1.frozen? ⟨w.heap.size, 1, none⟩ = false := by go_simp
      clear hc1 hf1
      go_wp2
      go_ret2
      exact ⟨ret_int_bool HV.out.symm rfl, by (repeat (first | exact Below.refl _ _ | refine Below.setCell ?_ (by first | omega | (simp <;> omega)) _ | refine Below.alloc ?_ (by first | omega | (simp <;> omega)) _ | refine Below.drew ?_ | refine Below.trans ?_ (Below.mono (by assumption) (by first | omega | (simp <;> omega))) | refine Below.grown ?_ (by assumption) (by first | omega | (simp <;> omega)) (fun k e => by cases e; first | omega | (simp <;> omega))))⟩
    · have HP := Lib.hid hp
      have hqz : (q == 0) = true := by simpa using hq
      clear hp h hq
      go_enter Try.func13, Try.ntmps13
      go_wp2_with fail
      refine (specPairOk_yes p q _ HP.out).mono ?_
      rintro e w1 ⟨rfl, hh1⟩
      obtain ⟨hc1, hf1⟩ := bcell hh1
      have hz1 := hh1.size
      try simp only [World.size_alloc] at hz1
      have hz1_0 : w.heap.size < w1.heap.size := by omega
      have kb1_0_0 : w1.cell? ⟨w.heap.size, 0, none⟩ = some (.int .i64 p) := by go_simp
      have kf1_0_0 : w1.frozen? ⟨w.heap.size, 0, none⟩ = false := by go_simp
      have kb1_0_1 : w1.cell? ⟨w.heap.size, 1, none⟩ = some (.int .i64 q) := by go_simp
      have kf1_0_1 : w1.frozen? ⟨w.heap.size, 1, none⟩ = false := by go_simp
      clear hc1 hf1
      go_wp2
      go_ret2
      exact ⟨ret_int_bool HV.out.symm rfl, by (repeat (first | exact Below.refl _ _ | refine Below.setCell ?_ (by first | omega | (simp <;> omega)) _ | refine Below.alloc ?_ (by first | omega | (simp <;> omega)) _ | refine Below.drew ?_ | refine Below.trans ?_ (Below.mono (by assumption) (by first | omega | (simp <;> omega))) | refine Below.grown ?_ (by assumption) (by first | omega | (simp <;> omega)) (fun k e => by cases e; first | omega | (simp <;> omega))))⟩
    · have HP := Lib.hid hp
      have HM := Lib.hid hm
      have hqz : (q == 0) = false := by simpa using hq
      clear hp h hm
      go_enter Try.func13, Try.ntmps13
      go_wp2_with fail
      refine (specPairOk_yes p q _ HP.out).mono ?_
      rintro e w1 ⟨rfl, hh1⟩
      obtain ⟨hc1, hf1⟩ := bcell hh1
      have hz1 := hh1.size
      try simp only [World.size_alloc] at hz1
      have hz1_0 : w.heap.size < w1.heap.size := by omega
      have kb1_0_0 : w1.cell? ⟨w.heap.size, 0, none⟩ = some (.int .i64 p) := by go_simp
      have kf1_0_0 : w1.frozen? ⟨w.heap.size, 0, none⟩ = false := by go_simp
      have kb1_0_1 : w1.cell? ⟨w.heap.size, 1, none⟩ = some (.int .i64 q) := by go_simp
      have kf1_0_1 : w1.frozen? ⟨w.heap.size, 1, none⟩ = false := by go_simp
      clear hc1 hf1
      go_wp2_with fail
      refine (l1In_no _ 1 400 _ HM.out).mono ?_
      rintro e wx ⟨rfl, rfl⟩
      go_wp2
      go_ret2
      exact ⟨ret_int_bool HV.out.symm rfl, by (repeat (first | exact Below.refl _ _ | refine Below.setCell ?_ (by first | omega | (simp <;> omega)) _ | refine Below.alloc ?_ (by first | omega | (simp <;> omega)) _ | refine Below.drew ?_ | refine Below.trans ?_ (Below.mono (by assumption) (by first | omega | (simp <;> omega))) | refine Below.grown ?_ (by assumption) (by first | omega | (simp <;> omega)) (fun k e => by cases e; first | omega | (simp <;> omega))))⟩
    · have HP := Lib.hid hp
      have HM := Lib.hid hm
      obtain ⟨m1, m2⟩ := inB_true hm
      obtain ⟨⟨r1, r2⟩, r3, r4⟩ := pairB_true hp
      have hqz : (q == 0) = false := by simpa using hq
      have hgz : (((Int.gcd q m : Nat) : Int) == 1) = false := by simp; omega
      clear hp h hm
      go_enter Try.func13, Try.ntmps13
      go_wp2_with fail
      refine (specPairOk_yes p q _ HP.out).mono ?_
      rintro e w1 ⟨rfl, hh1⟩
      obtain ⟨hc1, hf1⟩ := bcell hh1
      have hz1 := hh1.size
      try simp only [World.size_alloc] at hz1
      have hz1_0 : w.heap.size < w1.heap.size := by omega
      have kb1_0_0 : w1.cell? ⟨w.heap.size, 0, none⟩ = some (.int .i64 p) := by go_simp
      have kf1_0_0 : w1.frozen? ⟨w.heap.size, 0, none⟩ = false := by go_simp
      have kb1_0_1 : w1.cell? ⟨w.heap.size, 1, none⟩ = some (.int .i64 q) := by go_simp
      have kf1_0_1 : w1.frozen? ⟨w.heap.size, 1, none⟩ = false := by go_simp
      clear hc1 hf1
      go_wp2_with fail
      refine (l1In_yes _ 1 400 _ HM.out).mono ?_
      rintro e wx ⟨rfl, rfl⟩
      go_wp2_with fail
      refine (l1Common_at q m _ (by omega) (by omega) (by omega) (by omega)).mono ?_
      rintro e wx ⟨rfl, rfl⟩
      go_wp2
      go_ret2
      exact ⟨ret_int_bool HV.out.symm rfl, by (repeat (first | exact Below.refl _ _ | refine Below.setCell ?_ (by first | omega | (simp <;> omega)) _ | refine Below.alloc ?_ (by first | omega | (simp <;> omega)) _ | refine Below.drew ?_ | refine Below.trans ?_ (Below.mono (by assumption) (by first | omega | (simp <;> omega))) | refine Below.grown ?_ (by assumption) (by first | omega | (simp <;> omega)) (fun k e => by cases e; first | omega | (simp <;> omega))))⟩
theorem specRank_is (p q m v : Int) (c : Bool) (w : World) (hv : rankV p q m = v) (hc : rankB p q m = c) : Calls Try.prog 13 #[pr p q, .int .i64 m] w fun e w' => e = .returned (.tuple #[.int .i64 v, .bool c]) ∧ Below w.heap.size w w' := by rw [← hv, ← hc]; exact specRank_any p q m w
end Go.Proofs.Ytgipkcbmanjpcaa
namespace Go.Proofs.Ytgipkcbmanjpcaa
open Go.RowKit
/-- Whether a number divides at a place; the numbers of a rank; the least number that two numbers divide. -/
def dividesB (p q m n : Int) : Bool := rankB p q m && (inB n 0 1000000000 && decide (rankN p q m.toNat ∣ n.toNat))
def sameB (p q : Int) (n j : Nat) : Bool := decide (1 ≤ j) && (rankB p q (j : Int) && decide (rankN p q j = n))
def sameL (p q n : Int) : List Nat := if inB n 1 200 = true then holdL (sameB p q n.toNat) 101 else []
def leastB (a b : Int) : Bool := inB a 1 200000 && inB b 1 200000
def leastV (a b : Int) : Int := if leastB a b = true then (Nat.lcm a.toNat b.toNat : Int) else -1
theorem div_test (k R : Nat) : ((k : Int) % (R : Int) == 0) = decide (R ∣ k) := by
  rw [Bool.eq_iff_iff, left_zero_iff, decide_eq_true_iff]
  exact Int.natCast_dvd_natCast
set_option maxHeartbeats 4000000 in
theorem specDivides_any (p q m n : Int) (w : World) : Calls Try.prog 19 #[pr p q, .int .i64 m, .int .i64 n] w fun e w' => e = .returned (.bool (dividesB p q m n)) ∧ Below w.heap.size w w' := by
  cases h : rankB p q m with
  | false =>
    have HV := Lib.hid (show dividesB p q m n = false by simp [dividesB, h])
    have HB := Lib.hid h
    clear h
    go_enter Try.func19, Try.ntmps19
    go_wp2_with fail
    refine (specRank_is p q m _ false _ rfl HB.out).mono ?_
    rintro e w1 ⟨rfl, hh1⟩
    obtain ⟨hc1, hf1⟩ := bcell hh1
    have hz1 := hh1.size
    try simp only [World.size_alloc] at hz1
    have hz1_0 : w.heap.size < w1.heap.size := by omega
    have kb1_0_0 : w1.cell? ⟨w.heap.size, 0, none⟩ = some (.int .i64 p) := by go_simp
    have kf1_0_0 : w1.frozen? ⟨w.heap.size, 0, none⟩ = false := by go_simp
    have kb1_0_1 : w1.cell? ⟨w.heap.size, 1, none⟩ = some (.int .i64 q) := by go_simp
    have kf1_0_1 : w1.frozen? ⟨w.heap.size, 1, none⟩ = false := by go_simp
    clear hc1 hf1
    go_wp2
    go_ret
    exact ⟨ret_bool HV.out.symm, by (repeat (first | exact Below.refl _ _ | refine Below.setCell ?_ (by first | omega | (simp <;> omega)) _ | refine Below.alloc ?_ (by first | omega | (simp <;> omega)) _ | refine Below.drew ?_ | refine Below.trans ?_ (Below.mono (by assumption) (by first | omega | (simp <;> omega))) | refine Below.grown ?_ (by assumption) (by first | omega | (simp <;> omega)) (fun k e => by cases e; first | omega | (simp <;> omega))))⟩
  | true =>
    cases hn : inB n 0 1000000000 with
    | false =>
      have HV := Lib.hid (show dividesB p q m n = false by simp [dividesB, hn])
      have HB := Lib.hid h
      have HN := Lib.hid hn
      clear h hn
      go_enter Try.func19, Try.ntmps19
      go_wp2_with fail
      refine (specRank_is p q m _ true _ rfl HB.out).mono ?_
      rintro e w1 ⟨rfl, hh1⟩
      obtain ⟨hc1, hf1⟩ := bcell hh1
      have hz1 := hh1.size
      try simp only [World.size_alloc] at hz1
      have hz1_0 : w.heap.size < w1.heap.size := by omega
      have kb1_0_0 : w1.cell? ⟨w.heap.size, 0, none⟩ = some (.int .i64 p) := by go_simp
      have kf1_0_0 : w1.frozen? ⟨w.heap.size, 0, none⟩ = false := by go_simp
      have kb1_0_1 : w1.cell? ⟨w.heap.size, 1, none⟩ = some (.int .i64 q) := by go_simp
      have kf1_0_1 : w1.frozen? ⟨w.heap.size, 1, none⟩ = false := by go_simp
      clear hc1 hf1
      go_wp2_with fail
      refine (l1In_no n 0 1000000000 _ HN.out).mono ?_
      rintro e wx ⟨rfl, rfl⟩
      go_wp2
      go_ret
      exact ⟨ret_bool HV.out.symm, by (repeat (first | exact Below.refl _ _ | refine Below.setCell ?_ (by first | omega | (simp <;> omega)) _ | refine Below.alloc ?_ (by first | omega | (simp <;> omega)) _ | refine Below.drew ?_ | refine Below.trans ?_ (Below.mono (by assumption) (by first | omega | (simp <;> omega))) | refine Below.grown ?_ (by assumption) (by first | omega | (simp <;> omega)) (fun k e => by cases e; first | omega | (simp <;> omega))))⟩
    | true =>
      obtain ⟨_, _, _, _, k, rfl, k1, k2, ha⟩ := rankB_true h
      obtain ⟨n1, n2⟩ := inB_true hn
      obtain ⟨t, rfl⟩ := Int.eq_ofNat_of_zero_le n1
      obtain ⟨b1, b2⟩ := rank_bd (p := p) k1 k2 ha
      have HB := Lib.hid h
      have HN := Lib.hid hn
      have HW := Lib.hid (rankV_is h)
      obtain ⟨R, hR⟩ : ∃ R, rankN p q k = R := ⟨_, rfl⟩
      have HV := Lib.hid (show dividesB p q (k : Int) (t : Int) = decide (R ∣ t) by simp [dividesB, h, hn, hR])
      rw [hR] at b1 b2 HW
      have hz : ((R : Int) == 0) = false := by simp; omega
      have HT := Lib.hid (div_test t R)
      clear h hn hR
      go_enter Try.func19, Try.ntmps19
      go_wp2_with fail
      refine (specRank_is p q _ _ true _ HW.out HB.out).mono ?_
      rintro e w1 ⟨rfl, hh1⟩
      obtain ⟨hc1, hf1⟩ := bcell hh1
      have hz1 := hh1.size
      try simp only [World.size_alloc] at hz1
      have hz1_0 : w.heap.size < w1.heap.size := by omega
      have kb1_0_0 : w1.cell? ⟨w.heap.size, 0, none⟩ = some (.int .i64 p) := by go_simp
      have kf1_0_0 : w1.frozen? ⟨w.heap.size, 0, none⟩ = false := by go_simp
      have kb1_0_1 : w1.cell? ⟨w.heap.size, 1, none⟩ = some (.int .i64 q) := by go_simp
      have kf1_0_1 : w1.frozen? ⟨w.heap.size, 1, none⟩ = false := by go_simp
      clear hc1 hf1
      go_wp2_with fail
      refine (l1In_yes _ 0 1000000000 _ HN.out).mono ?_
      rintro e wx ⟨rfl, rfl⟩
      by_cases hd : R ∣ t
      · have hmo : (t : Int) % (R : Int) = 0 := by have := HT.out; rw [decide_eq_true hd, beq_iff_eq] at this; exact this
        go_wp2
        go_ret
        exact ⟨ret_bool (by rw [HV.out, decide_eq_true hd]), by (repeat (first | exact Below.refl _ _ | refine Below.setCell ?_ (by first | omega | (simp <;> omega)) _ | refine Below.alloc ?_ (by first | omega | (simp <;> omega)) _ | refine Below.drew ?_ | refine Below.trans ?_ (Below.mono (by assumption) (by first | omega | (simp <;> omega))) | refine Below.grown ?_ (by assumption) (by first | omega | (simp <;> omega)) (fun k e => by cases e; first | omega | (simp <;> omega))))⟩
      · have hmo : ((t : Int) % (R : Int) == 0) = false := by rw [HT.out, decide_eq_false hd]
        go_wp2
        go_ret
        exact ⟨ret_bool (by rw [HV.out, decide_eq_false hd]), by (repeat (first | exact Below.refl _ _ | refine Below.setCell ?_ (by first | omega | (simp <;> omega)) _ | refine Below.alloc ?_ (by first | omega | (simp <;> omega)) _ | refine Below.drew ?_ | refine Below.trans ?_ (Below.mono (by assumption) (by first | omega | (simp <;> omega))) | refine Below.grown ?_ (by assumption) (by first | omega | (simp <;> omega)) (fun k e => by cases e; first | omega | (simp <;> omega))))⟩
theorem lcm_le (i j : Nat) : Nat.lcm i j ≤ i * j := Nat.div_le_self _ _
set_option maxHeartbeats 4000000 in
theorem specLeast_any (a b : Int) (w : World) : Calls Try.prog 27 #[.int .i64 a, .int .i64 b] w fun e w' => e = .returned (.int .i64 (leastV a b)) ∧ w = w' := by
  cases ha : inB a 1 200000 with
  | false =>
    have HV := Lib.hid (show leastV a b = -1 by simp [leastV, leastB, ha])
    have HA := Lib.hid ha
    clear ha
    go_enter Try.func27, Try.ntmps27
    go_wp2_with fail
    refine (l1In_no a 1 200000 _ HA.out).mono ?_
    rintro e wx ⟨rfl, rfl⟩
    go_wp2
    go_ret
    exact ⟨ret_int HV.out.symm, rfl⟩
  | true =>
    cases hb : inB b 1 200000 with
    | false =>
      have HV := Lib.hid (show leastV a b = -1 by simp [leastV, leastB, hb])
      have HA := Lib.hid ha
      have HB := Lib.hid hb
      clear ha hb
      go_enter Try.func27, Try.ntmps27
      go_wp2_with fail
      refine (l1In_yes _ 1 200000 _ HA.out).mono ?_
      rintro e wx ⟨rfl, rfl⟩
      go_wp2_with fail
      refine (l1In_no b 1 200000 _ HB.out).mono ?_
      rintro e wx ⟨rfl, rfl⟩
      go_wp2
      go_ret
      exact ⟨ret_int HV.out.symm, rfl⟩
    | true =>
      obtain ⟨a1, a2⟩ := inB_true ha
      obtain ⟨b1, b2⟩ := inB_true hb
      obtain ⟨i, rfl⟩ := Int.eq_ofNat_of_zero_le (show 0 ≤ a by omega)
      obtain ⟨j, rfl⟩ := Int.eq_ofNat_of_zero_le (show 0 ≤ b by omega)
      have HV := Lib.hid (show leastV (i : Int) (j : Int) = (Nat.lcm i j : Int) by simp [leastV, leastB, ha, hb])
      have HA := Lib.hid ha
      have HB := Lib.hid hb
      obtain ⟨g, hg⟩ : ∃ g, Nat.gcd i j = g := ⟨_, rfl⟩
      have HG := Lib.hid (show ((Int.gcd (i : Int) (j : Int) : Nat) : Int) = (g : Int) by rw [← hg]; rfl)
      have hg1 : 1 ≤ g := by rw [← hg]; exact Nat.gcd_pos_of_pos_left _ (by omega)
      have hgz : ((g : Int) == 0) = false := by simp; omega
      have E := Lib.hid (show (i / g * j : Nat) = Nat.lcm i j by rw [← hg]; exact lcm_is i j)
      obtain ⟨c, hc⟩ : ∃ c, i / g = c := ⟨_, rfl⟩
      have hcb : c ≤ 200000 := by rw [← hc]; exact Nat.le_trans (Nat.div_le_self _ _) (by omega)
      have hm1 : c * j ≤ 200000 * 200000 := Nat.mul_le_mul hcb (by omega)
      have hcd : (i : Int) / (g : Int) = (c : Int) := by rw [← hc]; simp
      have hmm : (c : Int) * (j : Int) = ((c * j : Nat) : Int) := by simp
      have U : IntKind.i64.wrap ((c : Int) * (j : Int)) = (c : Int) * (j : Int) := by rw [IntKind.wrap_i64, hmm]; omega
      rw [hc] at E
      have HM := Lib.hid hmm
      clear ha hb hg hc hm1 hmm
      go_enter Try.func27, Try.ntmps27
      go_wp2_with fail
      refine (l1In_yes _ 1 200000 _ HA.out).mono ?_
      rintro e wx ⟨rfl, rfl⟩
      go_wp2_with fail
      refine (l1In_yes _ 1 200000 _ HB.out).mono ?_
      rintro e wx ⟨rfl, rfl⟩
      go_wp2_with fail
      refine (l1Common_is _ _ _ _ (by omega) (by omega) (by omega) (by omega) HG.out).mono ?_
      rintro e wx ⟨rfl, rfl⟩
      go_wp2
      go_ret
      exact ⟨ret_int (by rw [HV.out, HM.out, E.out]), rfl⟩
theorem specLeast_is (a b v : Int) (w : World) (hv : leastV a b = v) : Calls Try.prog 27 #[.int .i64 a, .int .i64 b] w fun e w' => e = .returned (.int .i64 v) ∧ w = w' := by rw [← hv]; exact specLeast_any a b w
theorem sameB_test (p q : Int) (n j : Nat) (hj : 1 ≤ j) : sameB p q n j = (rankB p q j && (rankV p q j == (n : Int))) := by
  cases h : rankB p q j with
  | false => simp [sameB, h]
  | true =>
    have e : ((rankN p q j : Int) == (n : Int)) = decide (rankN p q j = n) := by rw [Bool.eq_iff_iff, beq_iff_eq, decide_eq_true_iff]; omega
    rw [rankV_is h, e]
    simp [sameB, h, hj]
set_option maxRecDepth 100000 in
set_option maxHeartbeats 4000000 in
theorem specSame_yes (p q : Int) (n : Nat) (w : World) (hn : inB (n : Int) 1 200 = true) : Calls Try.prog 23 #[pr p q, .int .i64 n] w (ListOf (holdL (sameB p q n) 101) w) := by
  obtain ⟨i0, hi0, hz0, hzs1, hz2⟩ := info_parts info_int
  have HN := Lib.hid hn
  obtain ⟨n1, n2⟩ := inB_true hn
  clear hn
  go_enter Try.func23, Try.ntmps23
  have e1 : ((w.alloc (.cells #[.int .i64 p, .int .i64 q] 24)).alloc (.cells #[] 3 (0, 0))).heap[w.heap.size + 1]? = some (.cells #[] 3 (0, 0)) := by
    have := heap_alloc_new (w.alloc (.cells #[.int .i64 p, .int .i64 q] 24)) (.cells #[] 3 (0, 0))
    rwa [World.size_alloc] at this
  have hO := own0 (base := w.heap.size + 1) (Nat.le_refl _) e1
  clear e1
  have hB0 : Below w.heap.size w ((w.alloc (.cells #[.int .i64 p, .int .i64 q] 24)).alloc (.cells #[] 3 (0, 0))) := by
    (repeat (first | exact Below.refl _ _ | refine Below.setCell ?_ (by first | omega | (simp <;> omega)) _ | refine Below.alloc ?_ (by first | omega | (simp <;> omega)) _ | refine Below.drew ?_ | refine Below.trans ?_ (Below.mono (by assumption) (by first | omega | (simp <;> omega))) | refine Below.grown ?_ (by assumption) (by first | omega | (simp <;> omega)) (fun k e => by cases e; first | omega | (simp <;> omega))))
  go_wp2_with fail
  go_loopw [5, 6, 7, 8] (fun v c _ _ wr => ∃ j : Nat, 1 ≤ j ∧ j ≤ 101 ∧ c = .int .i64 j ∧ wr.ownsRow (w.heap.size + 1) 3 1 v (holdL (sameB p q n) j).length (natCells (holdL (sameB p q n) j)) ∧
      wr.cell? ⟨w.heap.size, 0, none⟩ = some (.int .i64 p) ∧ wr.cell? ⟨w.heap.size, 1, none⟩ = some (.int .i64 q) ∧ w.heap.size < wr.heap.size ∧ Below w.heap.size w wr) (fun _ c _ _ _ => 110 - (intOf c).toNat)
  case atStart => exact ⟨1, by omega, by omega, rfl, by simpa [holdL, sameB, natCells] using hO, by go_simp, by go_simp, by simp; omega, hB0⟩
  case round =>
    obtain ⟨j, j1, hj, rfl, hown, kp, kq, hsz, hB⟩ := hrel
    have hlen := holdL_len (sameB p q n) j
    by_cases hlt : j ≤ 100
    · have HB := Lib.hid hB
      have HO := Lib.hid hown
      have HT := Lib.hid (sameB_test p q n j j1)
      clear hB hown
      go_wp2_with fail
      refine (l1In_yes _ 1 200 _ HN.out).mono ?_
      rintro e wx ⟨rfl, rfl⟩
      go_wp2_with fail
      refine (specRank_any p q j _).mono ?_
      rintro e w3 ⟨rfl, hh3⟩
      have kp3 : w3.cell? ⟨w.heap.size, 0, none⟩ = some (.int .i64 p) := cell_below hh3 kp
      have kq3 : w3.cell? ⟨w.heap.size, 1, none⟩ = some (.int .i64 q) := cell_below hh3 kq
      have hz3 := hh3.size
      have hown3 := own_below HO.out hh3
      have HB3 := Lib.hid (HB.out.trans (hh3.mono (by omega)))
      clear kp kq hh3 HO HB
      have hsz3 : w.heap.size < w3.heap.size := by omega
      cases hbit : sameB p q n j with
      | true =>
        have hb2 : rankB p q j = true ∧ (rankV p q j == (n : Int)) = true := by rw [HT.out] at hbit; simpa using hbit
        obtain ⟨hb3, hb4⟩ := hb2
        rw [beq_iff_eq] at hb4
        have E1 := Lib.hid (natCells_yes hbit)
        have E2 := Lib.hid (holdL_yes_len hbit)
        have hlk := hown3.lt
        go_wp2_with (first | (at_builtin; refine wpList_append_own _ rfl _ _ 37 rfl (w.heap.size + 1) 3 i0 (.int .i64 0) 1 8 Try.underlying37 hi0 hz0 hzs1 hz2 rfl (by decide) _ _ _ rfl (hown3.alloc _) ⟨w3.heap.size, 0, none⟩ 1 1 [.int .i64 (j : Int)] rfl rfl (World.news_of_block (cs := #[.int .i64 (j : Int)]) (t := 3) (fr := (0, 0)) (heap_alloc_new w3 _)) (by simp [Value.oneCell']) (by unfold maxLen; omega) (by omega) (by simp; omega) ?_))
        intro v' w4 hown4 hgrow4 _
        rw [E1.out, E2.out] at hown4
        have kP : w4.cell? ⟨w.heap.size, 0, none⟩ = some (.int .i64 p) := (hgrow4.cell_far ⟨w.heap.size, 0, none⟩ (by simp; omega) (fun e => by have := hlk w.heap.size e.symm; omega)).trans ((World.cell?_alloc_past _ _ _ hsz3).trans kp3)
        have kQ : w4.cell? ⟨w.heap.size, 1, none⟩ = some (.int .i64 q) := (hgrow4.cell_far ⟨w.heap.size, 1, none⟩ (by simp; omega) (fun e => by have := hlk w.heap.size e.symm; omega)).trans ((World.cell?_alloc_past _ _ _ hsz3).trans kq3)
        have hz4 : w3.heap.size + 1 ≤ w4.heap.size := by have := hgrow4.size; simpa using this
        have hB4 : Below w.heap.size w w4 := (HB3.out.alloc (by omega) _).grown hgrow4 (by simp; omega) (fun k e => by have := hlk _ e; omega)
        clear hown3 hgrow4 kp3 kq3 hlk
        go_wp2
        go_roundw
        case rel => exact ⟨j + 1, by omega, by omega, congrArg (Value.int .i64) (by omega), hown4, kP, kQ, by omega, hB4⟩
        case measure => simp [intOf]; omega
      | false =>
        have E1 := Lib.hid (holdL_no hbit)
        have HO := Lib.hid hown3
        clear hown3
        cases hb3 : rankB p q j with
        | true =>
          have hb4 : (rankV p q j == (n : Int)) = false := by have := HT.out; rw [hbit, hb3] at this; simpa using this.symm
          go_wp2
          go_roundw
          case rel => exact ⟨j + 1, by omega, by omega, congrArg (Value.int .i64) (by omega), by rw [E1.out]; exact HO.out, kp3, kq3, hsz3, HB3.out⟩
          case measure => simp [intOf]; omega
        | false =>
          go_wp2
          go_roundw
          case rel => exact ⟨j + 1, by omega, by omega, congrArg (Value.int .i64) (by omega), by rw [E1.out]; exact HO.out, kp3, kq3, hsz3, HB3.out⟩
          case measure => simp [intOf]; omega
    · obtain rfl : j = 101 := by omega
      have HO := Lib.hid hown
      clear hown
      go_wp2
      go_ret
      exact ⟨_, rfl, (IsInts.of_owns (by rw [← natCells_range]; exact HO.out)).mono (by omega) (Nat.le_refl _) (Nat.le_refl _), hB⟩
set_option maxHeartbeats 4000000 in
theorem specSame_any (p q n : Int) (w : World) : Calls Try.prog 23 #[pr p q, .int .i64 n] w (ListOf (sameL p q n) w) := by
  cases h : inB n 1 200 with
  | true =>
    obtain ⟨n1, n2⟩ := inB_true h
    obtain ⟨k, rfl⟩ := Int.eq_ofNat_of_zero_le (show 0 ≤ n by omega)
    rw [sameL, if_pos h]
    exact specSame_yes p q k w h
  | false =>
    have HL := Lib.hid (show sameL p q n = [] by rw [sameL, if_neg (by simp [h])])
    have HN := Lib.hid h
    clear h
    go_enter Try.func23, Try.ntmps23
    go_wp2_with fail
    go_loopw [5, 6, 7, 8] (fun v c _ _ wr => c = .int .i64 1 ∧ v = .slice (some ⟨w.heap.size + 1, 0, none⟩) 0 0 ∧ wr = (w.alloc (.cells #[.int .i64 p, .int .i64 q] 24)).alloc (.cells #[] 3 (0, 0))) (fun _ _ _ _ _ => 0)
    case atStart => exact ⟨rfl, rfl, rfl⟩
    case round =>
      obtain ⟨rfl, rfl, rfl⟩ := hrel
      go_wp2_with fail
      refine (l1In_no _ 1 200 _ HN.out).mono ?_
      rintro e wx ⟨rfl, rfl⟩
      go_wp2
      go_ret
      exact ⟨_, rfl, by rw [HL.out]; exact IsInts.empty _ _ _ _ _, by (repeat (first | exact Below.refl _ _ | refine Below.setCell ?_ (by first | omega | (simp <;> omega)) _ | refine Below.alloc ?_ (by first | omega | (simp <;> omega)) _ | refine Below.drew ?_ | refine Below.trans ?_ (Below.mono (by assumption) (by first | omega | (simp <;> omega))) | refine Below.grown ?_ (by assumption) (by first | omega | (simp <;> omega)) (fun k e => by cases e; first | omega | (simp <;> omega))))⟩
end Go.Proofs.Ytgipkcbmanjpcaa
namespace Go.Proofs.Ytgipkcbmanjpcaa
open Go.RowKit Go.Shelf
attribute [local go_sem] Oper.semAt_some
set_option maxHeartbeats 400000 in
theorem primePowers_any (k : Int) (w : World) :
    Calls Try.prog 53 #[.int .i64 k] w fun e w' => e = .returned (.func (.func 63) #[] #[.pointer (some ⟨w.heap.size, 0, none⟩)]) ∧ w' = w.alloc (.cells #[.int .i64 k] 3) := by
  have hmf : ∀ (fn : Fn) (first cap : Array Value) (w : World), (Instr.makeFunc fn first cap).run Try.prog w = .ok (.func fn first cap) w := fun _ _ _ _ => rfl
  go_enter Try.func53, Try.ntmps53
  go_wp2
  go_ret
  exact ⟨rfl, rfl⟩
set_option maxHeartbeats 4000000 in
theorem primePowers_counted (n : Nat) (hn : 1 ≤ n) (m B : Nat) (w : World) (m1 : 1 ≤ m) (m2 : m ≤ 10000) :
    Counted Fence.wide n Try.prog 63 #[.pointer (some ⟨B, 0, none⟩)] (fun k => #[.int .i64 ((ppL m).getD k 0 : Nat)]) (fun V => V.cell? ⟨B, 0, none⟩ = some (.int .i64 m)) (ppL m).length w := by
  intro l J X W hW hJ hX hKp hY h0
  have c0 := hKp 0 W h0
  refine callsIn_of_wp Try.func63 rfl trivial ?_ rfl
  simp only [Try.ntmps63, List.size_toArray, List.length_cons, List.length_nil, Nat.reduceAdd, Nat.reduceSub, Array.replicate_succ, Array.replicate_zero, List.push_toArray, List.append_toArray, List.nil_append, List.cons_append]
  gi_wp2
  clear c0
  gi_loopg [3, 4, 5] m (fun r x y _ wr => ∃ p s k : Nat, p + r = m + 2 ∧ x = .int .i64 s ∧ y = .int .i64 p ∧ PPState m k p s ∧ J k wr)
  case atStart => exact ⟨2, m, 0, by omega, rfl, rfl, PPState.start m1, h0⟩
  case round =>
    obtain ⟨p, s, k, hpr, rfl, rfl, hst, hj⟩ := hrel
    obtain ⟨g0, hg0⟩ : ∃ g0, gk = g0 := ⟨_, rfl⟩
    have p2 := hst.1
    have s1 := hst.2.1
    have s2 := hst.2.2.1
    by_cases hs : 1 < s
    · have hps := hst.big hs
      have hd : decide ((1 : Int) < (s : Int)) = true := by simp; omega
      have hz : ((p : Int) == 0) = false := by simp; omega
      have HST := Lib.hid hst
      clear hst
      gi_wp2
      gi_loopg [3, 5] s (fun r x y wr => ∃ t u : Nat, t = r ∧ x = .int .i64 t ∧ y = .int .i64 u ∧ PowState p s t u ∧ J k wr)
      case atStart => exact ⟨s, 1, rfl, rfl, rfl, PowState.start s1, hj⟩
      case round =>
        obtain ⟨t, u, rfl, rfl, rfl, hpw, hj'⟩ := hrel
        obtain ⟨t2, u2⟩ := hpw.bd
        have t1 := hpw.1.1
        have HPW := Lib.hid hpw
        clear hpw
        by_cases hdv : p ∣ t
        · have hT : ((t : Int) % (p : Int) == 0) = true := by rw [div_test]; simpa using hdv
          have hlt : t / p < t := Nat.div_lt_self t1 p2
          have HN := Lib.hid (HPW.out.next p2 (Nat.mod_eq_zero_of_dvd hdv))
          obtain ⟨c, hc⟩ : ∃ c, t / p = c := ⟨_, rfl⟩
          have EC := Lib.hid (show (t : Int) / (p : Int) = (c : Int) by rw [← hc]; simp)
          rw [hc] at HN hlt
          obtain ⟨hb1, hb2⟩ := HN.out.bd
          have EM := Lib.hid (show (u : Int) * (p : Int) = ((u * p : Nat) : Int) by simp)
          have U1 : IntKind.i64.wrap ((u : Int) * (p : Int)) = (u : Int) * (p : Int) := by rw [EM.out, IntKind.wrap_i64]; omega
          have U2 : IntKind.i64.wrap ((t : Int) / (p : Int)) = (t : Int) / (p : Int) := by rw [EC.out, IntKind.wrap_i64]; omega
          clear hdv hb1 hb2 hc
          gi_wp2
          gi_roundg c
          case measure => omega
          case rel => exact ⟨c, u * p, rfl, congrArg (Value.int .i64) EC.out, congrArg (Value.int .i64) EM.out, HN.out, hj'⟩
        · have hT : ((t : Int) % (p : Int) == 0) = false := by rw [div_test]; simpa using hdv
          obtain ⟨e1, e2⟩ := HPW.out.done (fun h => hdv (Nat.dvd_of_mod_eq_zero h))
          by_cases hw : 1 < u
          · obtain ⟨hk, hg, hst'⟩ := HST.out.yes hs (by rw [← e1]; exact hw)
            rw [← e1] at hg
            rw [← e2] at hst'
            obtain ⟨fn, tmps, assign, body, hy, hR⟩ := hY k _ hk hj'
            simp only [hg] at hy
            have HS := Lib.hid hst'
            clear hg hst' e1 e2 hdv HPW HST
            gi_wp2
            refine hR.mono ?_
            rintro e W3 (⟨rfl, hj3⟩ | ⟨rfl, hx3⟩)
            · gi_wp2
              gi_roundg (g0 - 1)
              case measure => omega
              case rel => exact ⟨p + 1, t, k + 1, by omega, rfl, congrArg (Value.int .i64) (by omega), HS.out, hj3⟩
            · gi_wp2
              refine bodyPost_ret (results_none rfl _ _ _) rfl ?_
              exact ⟨⟨_, rfl⟩, .inr ⟨k, hk, hx3⟩⟩
          · have hst' := HST.out.no hs (by rw [← e1]; exact hw)
            rw [← e2] at hst'
            have HS := Lib.hid hst'
            have hw' : u ≤ 1 := by omega
            clear hst' e1 e2 hdv HPW HST hw
            gi_wp2
            refine ⟨fun f e => (by cases e), ?_⟩
            gi_wp2
            gi_roundg (g0 - 1)
            case measure => omega
            case rel => exact ⟨p + 1, t, k, by omega, rfl, congrArg (Value.int .i64) (by omega), HS.out, hj'⟩
    · have he := hst.done hs
      rw [he] at hj
      have hs' : s ≤ 1 := by omega
      clear hst he hs
      gi_wp2
      go_end0
      exact ⟨⟨_, rfl⟩, .inl hj⟩
end Go.Proofs.Ytgipkcbmanjpcaa
namespace Go.Proofs.Ytgipkcbmanjpcaa
open Go.RowKit
/-- What a draw of a pair and two numbers returns. -/
def DrawnAny (w : World) (e : Ending) (w' : World) : Prop :=
  ∃ p q a b : Int, e = .returned (.tuple #[pr p q, .int .i64 a, .int .i64 b]) ∧ Below w.heap.size w w'
/-- What a draw of three numbers returns. -/
def DrawnThree (w : World) (e : Ending) (w' : World) : Prop :=
  ∃ a b c : Int, e = .returned (.tuple #[.int .i64 a, .int .i64 b, .int .i64 c]) ∧ Below w.heap.size w w'
end Go.Proofs.Ytgipkcbmanjpcaa
namespace Go.Proofs.Ytgipkcbmanjpcaa
open Go.RowKit
theorem farB_mk {p q n m : Int} (k : Nat) (hn : n = k) (hp : pairB p q = true) (hk : k ≤ 1000000000) (m1 : 1 ≤ m) (m2 : m ≤ 10000) : farB p q n m = true := by
  simp [farB, hp, inB_mk (n := n) (a := 0) (b := 1000000000) (by omega) (by omega), inB_mk m1 m2]
theorem farB_no {p q n m : Int} (h : n < 0 ∨ 1000000000 < n) : farB p q n m = false := by
  simp [farB, inB_no h]
theorem powB_mk {a n m : Int} (k : Nat) (hn : n = k) (a1 : -10000 ≤ a) (a2 : a ≤ 10000) (hk : k ≤ 1000000000) (m1 : 1 ≤ m) (m2 : m ≤ 10000) : powB a n m = true := by
  simp [powB, inB_mk a1 a2, inB_mk (n := n) (a := 0) (b := 1000000000) (by omega) (by omega), inB_mk m1 m2]
theorem powB_no {a n m : Int} (h : n < 0 ∨ 1000000000 < n) : powB a n m = false := by
  simp [powB, inB_no h]
theorem implFarFirst_at (p q m : Int) (k : Nat) (v n : Int) (w : World) (hn : n = k) (hp : pairB p q = true) (hk : k ≤ 1000000000) (m1 : 1 ≤ m) (m2 : m ≤ 10000) (hv : row p q 0 1 k % m = v) :
    Calls Try.prog 15 #[pr p q, .int .i64 n, .int .i64 m] w fun e w' => e = .returned (.int .i64 v) ∧ Below w.heap.size w w' := by
  have := implFarFirst_any p q n m w
  rw [farFirstV, if_pos (farB_mk k hn hp hk m1 m2), hn] at this
  subst hv
  subst hn
  exact this
theorem implFarFirst_no (p q n m : Int) (w : World) (h : farB p q n m = false) :
    Calls Try.prog 15 #[pr p q, .int .i64 n, .int .i64 m] w fun e w' => e = .returned (.int .i64 (-1)) ∧ Below w.heap.size w w' := by
  have := implFarFirst_any p q n m w
  rw [farFirstV, if_neg (by simp [h])] at this
  exact this
theorem rowLeftN_is (p q m x : Int) (k : Nat) (hx : x = k) (hp : pairB p q = true) (hk : k ≤ 200) (m1 : 1 ≤ m) (m2 : m ≤ 10000) : rowLeftN p q x m = k + 1 := by
  have h : rowLeftB p q x m = true := by simp [rowLeftB, hp, inB_mk (n := x) (a := 0) (b := 200) (by omega) (by omega), inB_mk m1 m2]
  rw [rowLeftN, if_pos h]
  omega
theorem eqm_tmod (m x : Int) : Eqm m (x.tmod m) x := ⟨-(x.tdiv m), by have := Int.mul_tdiv_add_tmod x m; rw [Int.mul_neg]; omega⟩
theorem tmod_bd (n m : Int) (hm : 1 ≤ m) : -m < n.tmod m ∧ n.tmod m < m := by
  refine ⟨?_, Int.tmod_lt_of_pos n (by omega)⟩
  have := Int.tmod_lt_of_pos (-n) (b := m) (by omega)
  rw [Int.neg_tmod] at this
  omega
/-- Seven places on. -/
theorem far_want (p q m : Int) (k : Nat) : (row p q 0 1 (k + 1) % m * (row p q 0 1 8).tmod m - q * (row p q 0 1 k % m * (row p q 0 1 7).tmod m).tmod m).tmod m % m = row p q 0 1 (k + 8) % m := by
  refine Eqm.left ((eqm_tmod m _).trans ?_)
  refine Eqm.trans (((Eqm.refl m _).mul (eqm_tmod m _)).sub ((Eqm.refl m q).mul ((eqm_tmod m _).trans ((Eqm.refl m _).mul (eqm_tmod m _))))) ?_
  exact far_add p q m k 7
theorem eqm_tmod_zero {m x y : Int} (h : Eqm m x y) : ((x - y).tmod m == 0) = true := by
  rw [Int.tmod_eq_zero_of_dvd h]; rfl
end Go.Proofs.Ytgipkcbmanjpcaa
namespace Go.Proofs.Ytgipkcbmanjpcaa
open Go.RowKit
theorem hold_at (B : Nat → Bool) (n i : Nat) (h : i < (holdL B n).length) : (holdL B n).getD i 0 < n ∧ B ((holdL B n).getD i 0) = true := by
  have hm : (holdL B n).getD i 0 ∈ holdL B n := by
    simp only [List.getD_eq_getElem?_getD, List.getElem?_eq_getElem h, Option.getD_some]
    exact List.getElem_mem h
  simpa [holdL] using hm
theorem hold_has {B : Nat → Bool} {n x : Nat} (hx : x < n) (hb : B x = true) : ∃ i, i < (holdL B n).length ∧ (holdL B n).getD i 0 = x := by
  have hm : x ∈ holdL B n := by simp [holdL, hx, hb]
  obtain ⟨i, hi, he⟩ := List.getElem_of_mem hm
  exact ⟨i, hi, by simp only [List.getD_eq_getElem?_getD, List.getElem?_eq_getElem hi, Option.getD_some]; exact he⟩
theorem hold_lt (B : Nat → Bool) (n i j : Nat) (hij : i < j) (h : j < (holdL B n).length) : (holdL B n).getD i 0 < (holdL B n).getD j 0 := by
  have hp : (holdL B n).Pairwise (· < ·) := List.Pairwise.filter _ List.pairwise_lt_range
  have := List.pairwise_iff_getElem.1 hp i j (by omega) h hij
  simpa only [List.getD_eq_getElem?_getD, List.getElem?_eq_getElem h, List.getElem?_eq_getElem (show i < (holdL B n).length by omega), Option.getD_some] using this
/-- What a list of places keeps: they are from 1 to 20 and ascend; multiples are told; of a pair that is apart all are multiples of the first one. -/
def PlacesOk (p q : Int) (L : List Nat) : Prop :=
  L.length ≤ 21 ∧ (∀ i, i < L.length → 1 ≤ L.getD i 0 ∧ L.getD i 0 ≤ 20) ∧ (∀ i, i + 1 < L.length → L.getD i 0 < L.getD (i + 1) 0) ∧
  (∀ i t, i < L.length → 1 ≤ t → t * L.getD i 0 ≤ 20 → ∃ j, j < L.length ∧ L.getD j 0 = t * L.getD i 0) ∧
  (apartB p q = true → ∀ i, i < L.length → L.getD i 0 % L.getD 0 0 = 0)
theorem placesOk_nil (p q : Int) : PlacesOk p q [] := ⟨by simp, fun i h => by simp at h, fun i h => by simp at h, fun i t h => by simp at h, fun _ i h => by simp at h⟩
theorem placesOk_div (p q d : Int) : PlacesOk p q (holdL (divB p q d) 21) := by
  have at_ := fun i h => hold_at (divB p q d) 21 i h
  have one : ∀ j, divB p q d j = true → 1 ≤ j ∧ d ∣ row p q 0 1 j := fun j h => by simpa [divB] using h
  refine ⟨holdL_len _ _, fun i h => ?_, fun i h => hold_lt _ _ _ _ (by omega) h, fun i t h ht hm => ?_, fun ha i h => ?_⟩
  · obtain ⟨h1, h2⟩ := at_ i h
    exact ⟨(one _ h2).1, by omega⟩
  · obtain ⟨h1, h2⟩ := at_ i h
    obtain ⟨h3, h4⟩ := one _ h2
    refine hold_has (by omega) ?_
    have h5 : 1 ≤ t * (holdL (divB p q d) 21).getD i 0 := Nat.mul_pos ht h3
    have h6 : d ∣ row p q 0 1 (t * (holdL (divB p q d) 21).getD i 0) := by rw [Nat.mul_comm]; exact Int.dvd_trans h4 (row_dvd p q _ t)
    simp only [divB, Bool.and_eq_true, decide_eq_true_iff]
    exact ⟨h5, h6⟩
  · obtain ⟨a1, a2⟩ := at_ 0 (by omega)
    obtain ⟨a3, a4⟩ := one _ a2
    obtain ⟨b1, b2⟩ := at_ i h
    obtain ⟨b3, b4⟩ := one _ b2
    have hap : Apart d q := by
      obtain ⟨r, hr⟩ : ∃ r, (holdL (divB p q d) 21).getD 0 0 = r + 1 := ⟨(holdL (divB p q d) 21).getD 0 0 - 1, by omega⟩
      rw [hr] at a4
      exact (row_apart (apartB_apart ha).2 r).of_dvd a4
    refine Nat.mod_eq_zero_of_dvd ((rank_dvd hap a3 a4 (fun s s1 s2 hd => ?_) _ _ (Nat.le_refl _)).1 b4)
    obtain ⟨j, hj, he⟩ := hold_has (B := divB p q d) (n := 21) (x := s) (by omega) (by simp [divB, s1, hd])
    by_cases h0 : j = 0
    · subst h0; omega
    · have := hold_lt (divB p q d) 21 0 j (by omega) hj
      omega
theorem zerosL_ok (p q : Int) : PlacesOk p q (zerosL p q) := by
  rw [zerosL]; split
  · exact placesOk_div p q 0
  · exact placesOk_nil p q
theorem dividedL_ok (p q m : Int) : PlacesOk p q (dividedL p q m) := by
  rw [dividedL]; split
  · exact placesOk_div p q m
  · exact placesOk_nil p q
end Go.Proofs.Ytgipkcbmanjpcaa
