/- Contracts and laws that the statement's proof stands on, one text behind the other. -/
import Derived.Test.YtmliglakfbeedaaAll0b
import Derived.Test.YtmliglakfbeedaaHvPrimeMath
import Derived.Test.YtmliglakfbeedaaHvPrimeSq
import Derived.Test.YtmliglakfbeedaaHvPlaceWhere
import Derived.Test.YtmliglakfbeedaaHvDrawFar
import Derived.Test.YtmliglakfbeedaaHvDrawBy
import Derived.Test.YtmliglakfbeedaaHvDrawRanked
import Derived.Test.YtmliglakfbeedaaHvDrawPrime
import Derived.Laws.EntriesVeiled

namespace Go.Proofs.Ytmliglakfbeedaa
theorem prime_mem {m : Nat} : m ∈ primes400 ↔ 2 ≤ m ∧ m ≤ 400 ∧ ∀ d, 2 ≤ d → d < m → m % d ≠ 0 := by
  simp only [primes400, List.mem_filter, List.mem_range, Bool.and_eq_true, decide_eq_true_iff, List.all_eq_true, Bool.or_eq_true]
  constructor
  · rintro ⟨h1, h2, h3⟩
    refine ⟨h2, by omega, fun d d1 d2 => ?_⟩
    rcases h3 d d2 with h | h
    · omega
    · exact h
  · rintro ⟨h1, h2, h3⟩
    refine ⟨by omega, h1, fun d hd => ?_⟩
    by_cases h : d < 2
    · exact .inl h
    · exact .inr (h3 d (by omega) hd)
theorem pow9 {n : Nat} (h : n ≤ 401) : n < 2 ^ 9 := Nat.lt_of_le_of_lt h (by decide)
theorem chk_at {m : Nat} (hm : m ∈ primes400) (h2 : m ≠ 2) {p q : Int} (r1 : -4 ≤ p) (r2 : p ≤ 4) (r3 : -4 ≤ q) (r4 : q ≤ 4) : chkPair m p q = true := by
  have h := List.all_eq_true.1 chk_all m hm
  rw [Bool.or_eq_true, beq_iff_eq] at h
  rcases h with h | h
  · exact absurd h h2
  · have hi := List.all_eq_true.1 h (p + 4).toNat (by simp; omega)
    have hj := List.all_eq_true.1 hi (q + 4).toNat (by simp; omega)
    rw [show (((p + 4).toNat : Nat) : Int) - 4 = p by omega, show (((q + 4).toNat : Nat) : Int) - 4 = q by omega] at hj
    exact hj
/-- At an odd prime the first row leaves what the power of the weight does, and the second one P. -/
theorem at_prime {m : Nat} (hm : m ∈ primes400) (h2 : m ≠ 2) {p q : Int} (r1 : -4 ≤ p) (r2 : p ≤ 4) (r3 : -4 ≤ q) (r4 : q ≤ 4) :
    row p q 0 1 m % (m : Int) = (p * p - 4 * q) ^ (m / 2) % (m : Int) ∧ row p q 2 p m % (m : Int) = p % (m : Int) := by
  have h := chk_at hm h2 r1 r2 r3 r4
  have hb := (prime_mem.1 hm).2.1
  rw [chkPair, fastL_is p q m 9 m (pow9 (by omega)), fastP_is _ m 9 (m / 2) (pow9 (by omega))] at h
  simp only [Bool.and_eq_true, beq_iff_eq] at h
  refine ⟨h.1.1, ?_⟩
  rw [← far_second]
  exact h.1.2
/-- A prime that divides neither Q nor the weight divides the first row beside itself. -/
theorem beside {m : Nat} (hm : m ∈ primes400) (h2 : m ≠ 2) {p q : Int} (r1 : -4 ≤ p) (r2 : p ≤ 4) (r3 : -4 ≤ q) (r4 : q ≤ 4) (hq : q % (m : Int) ≠ 0) (hd : (p * p - 4 * q) % (m : Int) ≠ 0) :
    ((p * p - 4 * q) ^ (m / 2) % (m : Int) = 1 ∧ row p q 0 1 (m - 1) % (m : Int) = 0) ∨ ((p * p - 4 * q) ^ (m / 2) % (m : Int) = (m : Int) - 1 ∧ row p q 0 1 (m + 1) % (m : Int) = 0) := by
  have h := chk_at hm h2 r1 r2 r3 r4
  have hb := (prime_mem.1 hm).2.1
  rw [chkPair, fastL_is p q m 9 m (pow9 (by omega)), fastP_is _ m 9 (m / 2) (pow9 (by omega)), fastL_is p q m 9 (m - 1) (pow9 (by omega)), fastL_is p q m 9 (m + 1) (pow9 (by omega))] at h
  simp only [Bool.and_eq_true, Bool.or_eq_true, beq_iff_eq] at h
  rcases h.2 with (h3 | h3) | h3
  · exact absurd h3 hq
  · exact absurd h3 hd
  · split at h3
    · rename_i hs
      exact .inl ⟨hs, by simpa using h3⟩
    · simp only [Bool.and_eq_true, beq_iff_eq] at h3
      exact .inr h3
/-- The sign of a number: whether it leaves what a square does. -/
def signN (n : Int) (m : Nat) : Int := if n % (m : Int) = 0 then 0 else if sqN m (n % (m : Int)).toNat = true then 1 else -1
theorem sqN_iff {m r : Nat} : sqN m r = true ↔ ∃ k, k < m ∧ k * k % m = r := by
  simp only [sqN, List.any_eq_true, List.mem_range, beq_iff_eq]
theorem chkE_at {m : Nat} (hm : m ∈ primes400) (h2 : m ≠ 2) : chkE m = true := by
  have h := List.all_eq_true.1 chkE_low m hm
  have h' := List.all_eq_true.1 chkE_high m hm
  simp only [Bool.or_eq_true, beq_iff_eq, decide_eq_true_iff] at h h'
  rcases h with (h | h) | h
  · exact absurd h h2
  · rcases h' with (h' | h') | h'
    · exact absurd h' h2
    · omega
    · exact h'
  · exact h
theorem chkS_at {m : Nat} (hm : m ∈ primes400) (h2 : m ≠ 2) : chkS m = true := by
  have h := List.all_eq_true.1 chkS_all m hm
  simp only [Bool.or_eq_true, beq_iff_eq] at h
  rcases h with h | h
  · exact absurd h h2
  · exact h
/-- Powers tell squares. -/
theorem euler {m : Nat} (hm : m ∈ primes400) (h2 : m ≠ 2) (n : Int) : n ^ (m / 2) % (m : Int) = (signN n m + m) % (m : Int) := by
  obtain ⟨b1, b2, _⟩ := prime_mem.1 hm
  have m0 : (0 : Int) < m := by omega
  have n0 := Int.emod_nonneg n (show (m : Int) ≠ 0 by omega)
  have n1 := Int.emod_lt_of_pos n m0
  obtain ⟨r, hr⟩ := Int.eq_ofNat_of_zero_le n0
  have hpow : n ^ (m / 2) % (m : Int) = fastP (r : Int) m 9 (m / 2) := by
    rw [fastP_is _ m 9 (m / 2) (pow9 (by omega))]
    refine Eqm.left (Eqm.pow ?_ _)
    rw [show (r : Int) = n % (m : Int) from hr.symm]
    exact (eqm_left _ _).symm
  have hE := List.all_eq_true.1 (chkE_at hm h2) r (by simp; omega)
  rw [hpow, signN, hr]
  simp only [Int.toNat_natCast]
  by_cases hr0 : r = 0
  · subst hr0
    simp only [if_true, beq_iff_eq] at hE
    rw [hE]; simp
  · simp only [if_neg hr0] at hE
    rw [if_neg (by omega)]
    by_cases hs : fastP (r : Int) m 9 (m / 2) = 1
    · rw [if_pos hs] at hE
      have hsq : sqN m r = true := by
        by_cases h4 : m % 4 = 3
        · rw [if_pos h4, beq_iff_eq] at hE
          generalize ht : fastP (r : Int) m 9 ((m + 1) / 4) = t at hE
          rw [fastP_is _ m 9 _ (pow9 (by omega))] at ht
          have t0 : 0 ≤ t := by rw [← ht]; exact Int.emod_nonneg _ (by omega)
          have t1 : t < m := by rw [← ht]; exact Int.emod_lt_of_pos _ m0
          obtain ⟨k, rfl⟩ := Int.eq_ofNat_of_zero_le t0
          refine sqN_iff.2 ⟨k, by omega, ?_⟩
          have : (((k * k % m : Nat)) : Int) = (r : Int) := by rw [← hE]; simp
          omega
        · rw [if_neg h4] at hE; exact hE
      rw [hs, if_pos hsq]
      rw [Int.add_emod_right, Int.emod_eq_of_lt (by omega) (by omega)]
    · rw [if_neg hs, beq_iff_eq] at hE
      have hsq : ¬ sqN m r = true := by
        intro h
        obtain ⟨k, k1, k2⟩ := sqN_iff.1 h
        have hS := List.all_eq_true.1 (chkS_at hm h2) k (by simp; omega)
        rw [Bool.or_eq_true, decide_eq_true_iff, beq_iff_eq, k2] at hS
        rcases hS with hS | hS
        · subst hS; simp at k2; omega
        · exact hs hS
      rw [hE, if_neg hsq]
      rw [Int.emod_eq_of_lt (by omega) (by omega)]
      omega
end Go.Proofs.Ytmliglakfbeedaa
namespace Go.Proofs.Ytmliglakfbeedaa
open Go.RowKit
/-- Places, as cells; those up to one at which something holds. -/
def natCells (L : List Nat) : List Value := L.map fun (i : Nat) => .int .i64 (i : Int)
def holdL (B : Nat → Bool) (n : Nat) : List Nat := (List.range n).filter B
theorem holdL_len (B : Nat → Bool) (n : Nat) : (holdL B n).length ≤ n := Nat.le_trans (List.length_filter_le _ _) (by simp)
theorem holdL_yes {B : Nat → Bool} {n : Nat} (h : B n = true) : holdL B n ++ [n] = holdL B (n + 1) := by simp [holdL, List.range_succ, h]
theorem holdL_no {B : Nat → Bool} {n : Nat} (h : B n = false) : holdL B (n + 1) = holdL B n := by simp [holdL, List.range_succ, h]
theorem natCells_yes {B : Nat → Bool} {n : Nat} (h : B n = true) : natCells (holdL B n) ++ [.int .i64 (n : Int)] = natCells (holdL B (n + 1)) := by
  rw [← holdL_yes h]; simp [natCells]
theorem holdL_yes_len {B : Nat → Bool} {n : Nat} (h : B n = true) : (holdL B n).length + 1 = (holdL B (n + 1)).length := by
  rw [← holdL_yes h]; simp
theorem natCells_range (L : List Nat) : natCells L = (List.range L.length).map fun i => .int .i64 ((L.getD i 0 : Nat) : Int) := by
  refine List.ext_getElem (by simp [natCells]) fun i h1 h2 => ?_
  simp only [natCells, List.getElem_map, List.getElem_range]
  have h3 : i < L.length := by simpa [natCells] using h1
  simp [h3]
/-- A list of places, in new memory. -/
def ListOf (L : List Nat) (w : World) (e : Ending) (w' : World) : Prop :=
  ∃ v, e = .returned v ∧ IsInts w.heap.size w'.heap.size w' v L.length (fun i => ((L.getD i 0 : Nat) : Int)) ∧ Below w.heap.size w w'
/-- The places from 1 on at which d divides the row. -/
def divB (p q d : Int) (j : Nat) : Bool := decide (1 ≤ j) && decide (d ∣ row p q 0 1 j)
def zerosL (p q : Int) : List Nat := if pairB p q = true then holdL (divB p q 0) 21 else []
def dividedB (p q m : Int) : Bool := pairB p q && inB m 1 10000
def dividedL (p q m : Int) : List Nat := if dividedB p q m = true then holdL (divB p q m) 21 else []
theorem table_list {p q d : Int} {t : Nat} (h : Table p q d t) : holdL (fun j => t.testBit j) 21 = holdL (divB p q d) 21 := by
  refine List.filter_congr fun j hj => ?_
  have hj' : j < 21 := by simpa using hj
  rw [Bool.eq_iff_iff, h.2 j]
  simp only [divB, Bool.and_eq_true, decide_eq_true_iff]
  exact ⟨fun h => ⟨h.1, h.2.2⟩, fun h => ⟨h.1, by omega, h.2⟩⟩
theorem dividedB_ways {p q m : Int} (h : dividedB p q m = false) : pairB p q = false ∨ (pairB p q = true ∧ inB m 1 10000 = false) := by
  cases hp : pairB p q with
  | false => exact .inl rfl
  | true => exact .inr ⟨rfl, by simpa [dividedB, hp] using h⟩
theorem dividedB_true {p q m : Int} (h : dividedB p q m = true) : pairB p q = true ∧ inB m 1 10000 = true := by simpa [dividedB] using h
end Go.Proofs.Ytmliglakfbeedaa
namespace Go.Proofs.Ytmliglakfbeedaa
open Go.RowKit
theorem own_below {w w' : World} {base : Nat} {e : TypeId} {size : Nat} {v : Value} {n : Nat} {xs : List Value} (h : w.ownsRow base e size v n xs) (hb : Below w.heap.size w w') : w'.ownsRow base e size v n xs :=
  h.kept (row := none) ⟨hb.os, hb.tape, hb.output, hb.size, fun j hj _ => hb.block j hj⟩ (by cases v.ownBlock <;> simp)
theorem divB_zero (p q : Int) (j : Nat) (h : 1 ≤ j) : divB p q 0 j = (row p q 0 1 j == 0) := by
  rw [zero_bool]; simp [divB, h]
theorem divB_by (p q m : Int) (j : Nat) (h : 1 ≤ j) : divB p q m j = ((row p q 0 1 j).tmod m == 0) := by
  rw [dvd_bool]; simp [divB, h]
end Go.Proofs.Ytmliglakfbeedaa
namespace Go.Proofs.Ytmliglakfbeedaa
open Go.RowKit
theorem l1Common_is (a b v : Int) (w : World) (a1 : -1000000000000000 ≤ a) (a2 : a ≤ 1000000000000000) (b1 : -1000000000000000 ≤ b) (b2 : b ≤ 1000000000000000) (hv : ((Int.gcd a b : Nat) : Int) = v) :
    Calls Try.prog 58 #[.int .i64 a, .int .i64 b] w fun e w' => e = .returned (.int .i64 v) ∧ w = w' := by subst hv; exact l1Common_at a b w a1 a2 b1 b2
/-- Whether a number has a rank; the rank. -/
def rankB (p q m : Int) : Bool := pairB p q && (decide (q ≠ 0) && (inB m 1 400 && decide (Int.gcd q m = 1)))
def rankV (p q m : Int) : Int := if rankB p q m = true then (rankN p q m.toNat : Int) else -1
theorem rankB_true {p q m : Int} (h : rankB p q m = true) : pairB p q = true ∧ q ≠ 0 ∧ inB m 1 400 = true ∧ Int.gcd q m = 1 ∧ ∃ k : Nat, m = k ∧ 1 ≤ k ∧ k ≤ 400 ∧ Apart (k : Int) q := by
  have h' : pairB p q = true ∧ ¬ q = 0 ∧ inB m 1 400 = true ∧ Int.gcd q m = 1 := by simpa [rankB] using h
  obtain ⟨hp, hq, hm, hg⟩ := h'
  obtain ⟨m1, m2⟩ := inB_true hm
  have e : m = (m.toNat : Int) := by omega
  refine ⟨hp, hq, hm, hg, m.toNat, e, by omega, by omega, ?_⟩
  rw [← e]
  exact (apart_gcd.1 hg).symm
theorem rankB_ways {p q m : Int} (h : rankB p q m = false) : pairB p q = false ∨ (pairB p q = true ∧ q = 0) ∨ (pairB p q = true ∧ q ≠ 0 ∧ inB m 1 400 = false) ∨ (pairB p q = true ∧ q ≠ 0 ∧ inB m 1 400 = true ∧ Int.gcd q m ≠ 1) := by
  cases hp : pairB p q with
  | false => exact .inl rfl
  | true =>
    by_cases hq : q = 0
    · exact .inr (.inl ⟨rfl, hq⟩)
    · cases hm : inB m 1 400 with
      | false => exact .inr (.inr (.inl ⟨rfl, hq, rfl⟩))
      | true => exact .inr (.inr (.inr ⟨rfl, hq, rfl, by simpa [rankB, hp, hq, hm] using h⟩))
theorem rankB_mk {p q : Int} {k : Nat} (hp : pairB p q = true) (hq : q ≠ 0) (h1 : 1 ≤ k) (h2 : k ≤ 400) (h : Apart (k : Int) q) : rankB p q k = true := by
  have hg : Int.gcd q (k : Int) = 1 := apart_gcd.2 h.symm
  simp [rankB, hp, hq, inB_mk (n := (k : Int)) (a := 1) (b := 400) (by omega) (by omega), hg]
theorem rankV_is {p q : Int} {k : Nat} (h : rankB p q k = true) : rankV p q k = (rankN p q k : Int) := by rw [rankV, if_pos h]; rfl
theorem rank_bd {p q : Int} {k : Nat} (h1 : 1 ≤ k) (h2 : k ≤ 400) (h : Apart (k : Int) q) : 1 ≤ rankN p q k ∧ rankN p q k ≤ 160000 := by
  obtain ⟨_, a, b, _⟩ := rankN_spec (p := p) k h1 h
  exact ⟨a, Nat.le_trans b (Nat.mul_le_mul h2 h2)⟩
/-- What is left before the rank is not 0; at the rank it is. -/
theorem rank_left {p q : Int} {k : Nat} (h1 : 1 ≤ k) (h : Apart (k : Int) q) (n : Nat) (hn : 1 ≤ n) (hr : n ≤ rankN p q k) : (row p q 0 1 n % (k : Int) == 0) = decide (n = rankN p q k) := by
  obtain ⟨a, b, _, d⟩ := rankN_spec (p := p) k h1 h
  rw [Bool.eq_iff_iff, left_zero_iff, decide_eq_true_iff]
  constructor
  · intro hd
    rcases Nat.lt_or_ge n (rankN p q k) with hlt | hge
    · exact absurd hd (d n hn hlt)
    · omega
  · rintro rfl; exact a
end Go.Proofs.Ytmliglakfbeedaa
namespace Go.Proofs.Ytmliglakfbeedaa
open Go.RowKit
/-- Whether a number divides at a place; the numbers of a rank; the least number that two numbers divide. -/
def dividesB (p q m n : Int) : Bool := rankB p q m && (inB n 0 1000000000 && decide (rankN p q m.toNat ∣ n.toNat))
def sameB (p q : Int) (n j : Nat) : Bool := decide (1 ≤ j) && (rankB p q (j : Int) && decide (rankN p q j = n))
def sameL (p q n : Int) : List Nat := if inB n 1 200 = true then holdL (sameB p q n.toNat) 101 else []
def leastB (a b : Int) : Bool := inB a 1 200000 && inB b 1 200000
def leastV (a b : Int) : Int := if leastB a b = true then (Nat.lcm a.toNat b.toNat : Int) else -1
theorem div_test (k R : Nat) : ((k : Int) % (R : Int) == 0) = decide (R ∣ k) := by
  rw [Bool.eq_iff_iff, left_zero_iff, decide_eq_true_iff]
  exact Int.natCast_dvd_natCast
theorem lcm_le (i j : Nat) : Nat.lcm i j ≤ i * j := Nat.div_le_self _ _
theorem sameB_test (p q : Int) (n j : Nat) (hj : 1 ≤ j) : sameB p q n j = (rankB p q j && (rankV p q j == (n : Int))) := by
  cases h : rankB p q j with
  | false => simp [sameB, h]
  | true =>
    have e : ((rankN p q j : Int) == (n : Int)) = decide (rankN p q j = n) := by rw [Bool.eq_iff_iff, beq_iff_eq, decide_eq_true_iff]; omega
    rw [rankV_is h, e]
    simp [sameB, h, hj]
end Go.Proofs.Ytmliglakfbeedaa
namespace Go.Proofs.Ytmliglakfbeedaa
open Go.RowKit
def primeB (n : Int) : Bool := decide (0 ≤ n) && decide (n.toNat ∈ primes400)
theorem primeB_true {n : Int} (h : primeB n = true) : ∃ m : Nat, n = m ∧ m ∈ primes400 ∧ 2 ≤ m ∧ m ≤ 400 := by
  have h' : 0 ≤ n ∧ n.toNat ∈ primes400 := by simpa [primeB] using h
  obtain ⟨h1, h2, _⟩ := prime_mem.1 h'.2
  exact ⟨n.toNat, by omega, h'.2, h1, h2⟩
theorem primeB_nat (m : Nat) : primeB (m : Int) = decide (m ∈ primes400) := by simp [primeB]
theorem primeB_no {n : Int} (h : n < 2 ∨ 400 < n) : primeB n = false := by
  cases hb : primeB n with
  | false => rfl
  | true => obtain ⟨m, rfl, _, h1, h2⟩ := primeB_true hb; omega
theorem prime_root {m d : Nat} (h2 : 2 ≤ m) (h4 : m ≤ 400) (hn : ∀ e : Nat, 2 ≤ e → e < d → ¬ e ∣ m) (hd : m < d * d) : m ∈ primes400 := by
  refine prime_mem.2 ⟨h2, h4, fun e e1 e2 he => ?_⟩
  have hdv := Nat.dvd_of_mod_eq_zero he
  rcases Nat.lt_or_ge e d with h | h
  · exact hn e e1 h hdv
  · obtain ⟨c, hc⟩ := hdv
    have hcd : c < d := by
      rcases Nat.lt_or_ge c d with h' | h'
      · exact h'
      · have := Nat.mul_le_mul h h'; omega
    have hc2 : 2 ≤ c := by
      rcases Nat.lt_or_ge c 2 with h' | h'
      · have : c = 0 ∨ c = 1 := by omega
        rcases this with rfl | rfl
        · omega
        · rw [Nat.mul_one] at hc; omega
      · exact h'
    exact hn c hc2 hcd ⟨e, by rw [hc, Nat.mul_comm]⟩
theorem prime_not {m d : Nat} (d2 : 2 ≤ d) (hdv : d ∣ m) (hd : d * d ≤ m) : m ∉ primes400 := by
  intro hm
  obtain ⟨_, _, h⟩ := prime_mem.1 hm
  refine h d d2 ?_ (Nat.mod_eq_zero_of_dvd hdv)
  have := Nat.mul_le_mul_left d d2
  omega
def squareB (n p : Int) : Bool := primeB p && (decide (p ≠ 2) && inB n (-10000) 10000)
def squareV (n p : Int) : Int := if squareB n p = true then signN n p.toNat else 0
theorem squareV_no {n p : Int} (h : squareB n p = false) : squareV n p = 0 := by rw [squareV, if_neg (by simp [h])]
theorem squareV_is {n : Int} {m : Nat} (h : squareB n m = true) : squareV n m = signN n m := by rw [squareV, if_pos h]; rfl
theorem squareB_true {n p : Int} (h : squareB n p = true) : ∃ m : Nat, p = m ∧ m ∈ primes400 ∧ 2 ≤ m ∧ m ≤ 400 ∧ m ≠ 2 ∧ -10000 ≤ n ∧ n ≤ 10000 := by
  have h' : primeB p = true ∧ ¬ p = 2 ∧ inB n (-10000) 10000 = true := by simpa [squareB] using h
  obtain ⟨hp, h2, hn⟩ := h'
  obtain ⟨m, rfl, hm, m1, m2⟩ := primeB_true hp
  obtain ⟨n1, n2⟩ := inB_true hn
  exact ⟨m, rfl, hm, m1, m2, by omega, n1, n2⟩
theorem squareB_mk {n : Int} {m : Nat} (hm : m ∈ primes400) (h2 : m ≠ 2) (n1 : -10000 ≤ n) (n2 : n ≤ 10000) : squareB n m = true := by
  simp [squareB, primeB_nat, hm, inB_mk n1 n2]; omega
theorem squareB_ways {n p : Int} (h : squareB n p = false) : primeB p = false ∨ (primeB p = true ∧ p = 2) ∨ (primeB p = true ∧ p ≠ 2 ∧ inB n (-10000) 10000 = false) := by
  cases hp : primeB p with
  | false => exact .inl rfl
  | true =>
    by_cases h2 : p = 2
    · exact .inr (.inl ⟨rfl, h2⟩)
    · exact .inr (.inr ⟨rfl, h2, by simpa [squareB, hp, h2] using h⟩)
theorem sq_test (k m r : Nat) : ((k : Int) * (k : Int) % (m : Int) == (r : Int)) = decide (k * k % m = r) := by
  have e : (k : Int) * (k : Int) % (m : Int) = ((k * k % m : Nat) : Int) := by simp
  rw [e, Bool.eq_iff_iff, beq_iff_eq, decide_eq_true_iff]
  omega
end Go.Proofs.Ytmliglakfbeedaa
namespace Go.Proofs.Ytmliglakfbeedaa
open Go.RowKit
/-- What a draw of a pair and two numbers returns. -/
def DrawnAny (w : World) (e : Ending) (w' : World) : Prop :=
  ∃ p q a b : Int, e = .returned (.tuple #[pr p q, .int .i64 a, .int .i64 b]) ∧ Below w.heap.size w w'
/-- What a draw of three numbers returns. -/
def DrawnThree (w : World) (e : Ending) (w' : World) : Prop :=
  ∃ a b c : Int, e = .returned (.tuple #[.int .i64 a, .int .i64 b, .int .i64 c]) ∧ Below w.heap.size w w'
end Go.Proofs.Ytmliglakfbeedaa
namespace Go.Proofs.Ytmliglakfbeedaa
open Go.RowKit
theorem farB_mk {p q n m : Int} (k : Nat) (hn : n = k) (hp : pairB p q = true) (hk : k ≤ 1000000000) (m1 : 1 ≤ m) (m2 : m ≤ 10000) : farB p q n m = true := by
  simp [farB, hp, inB_mk (n := n) (a := 0) (b := 1000000000) (by omega) (by omega), inB_mk m1 m2]
theorem farB_no {p q n m : Int} (h : n < 0 ∨ 1000000000 < n) : farB p q n m = false := by
  simp [farB, inB_no h]
theorem powB_mk {a n m : Int} (k : Nat) (hn : n = k) (a1 : -10000 ≤ a) (a2 : a ≤ 10000) (hk : k ≤ 1000000000) (m1 : 1 ≤ m) (m2 : m ≤ 10000) : powB a n m = true := by
  simp [powB, inB_mk a1 a2, inB_mk (n := n) (a := 0) (b := 1000000000) (by omega) (by omega), inB_mk m1 m2]
theorem powB_no {a n m : Int} (h : n < 0 ∨ 1000000000 < n) : powB a n m = false := by
  simp [powB, inB_no h]
theorem implFarFirst_at (p q m : Int) (k : Nat) (v n : Int) (w : World) (hn : n = k) (hp : pairB p q = true) (hk : k ≤ 1000000000) (m1 : 1 ≤ m) (m2 : m ≤ 10000) (hv : row p q 0 1 k % m = v) :
    Calls Try.prog 79 #[pr p q, .int .i64 n, .int .i64 m] w fun e w' => e = .returned (.int .i64 v) ∧ Below w.heap.size w w' := by
  have := implFarFirst_any p q n m w
  rw [farFirstV, if_pos (farB_mk k hn hp hk m1 m2), hn] at this
  subst hv
  subst hn
  exact this
theorem implFarFirst_no (p q n m : Int) (w : World) (h : farB p q n m = false) :
    Calls Try.prog 79 #[pr p q, .int .i64 n, .int .i64 m] w fun e w' => e = .returned (.int .i64 (-1)) ∧ Below w.heap.size w w' := by
  have := implFarFirst_any p q n m w
  rw [farFirstV, if_neg (by simp [h])] at this
  exact this
theorem implFarSecond_at (p q m : Int) (k : Nat) (v n : Int) (w : World) (hn : n = k) (hp : pairB p q = true) (hk : k ≤ 1000000000) (m1 : 1 ≤ m) (m2 : m ≤ 10000) (hv : row p q 2 p k % m = v) :
    Calls Try.prog 49 #[pr p q, .int .i64 n, .int .i64 m] w fun e w' => e = .returned (.int .i64 v) ∧ Below w.heap.size w w' := by
  have := implFarSecond_any p q n m w
  rw [farSecondV, if_pos (farB_mk k hn hp hk m1 m2), hn] at this
  subst hv
  subst hn
  exact this
theorem implFarSecond_no (p q n m : Int) (w : World) (h : farB p q n m = false) :
    Calls Try.prog 49 #[pr p q, .int .i64 n, .int .i64 m] w fun e w' => e = .returned (.int .i64 (-1)) ∧ Below w.heap.size w w' := by
  have := implFarSecond_any p q n m w
  rw [farSecondV, if_neg (by simp [h])] at this
  exact this
theorem specFarFirst_at (p q m : Int) (k : Nat) (v n : Int) (w : World) (hn : n = k) (hp : pairB p q = true) (hk : k ≤ 1000000000) (m1 : 1 ≤ m) (m2 : m ≤ 10000) (hv : row p q 0 1 k % m = v) :
    Calls Try.prog 59 #[pr p q, .int .i64 n, .int .i64 m] w fun e w' => e = .returned (.int .i64 v) ∧ Below w.heap.size w w' := by
  have := specFarFirst_any p q n m w
  rw [farFirstV, if_pos (farB_mk k hn hp hk m1 m2), hn] at this
  subst hv
  subst hn
  exact this
theorem specFarFirst_no (p q n m : Int) (w : World) (h : farB p q n m = false) :
    Calls Try.prog 59 #[pr p q, .int .i64 n, .int .i64 m] w fun e w' => e = .returned (.int .i64 (-1)) ∧ Below w.heap.size w w' := by
  have := specFarFirst_any p q n m w
  rw [farFirstV, if_neg (by simp [h])] at this
  exact this
theorem specFarSecond_at (p q m : Int) (k : Nat) (v n : Int) (w : World) (hn : n = k) (hp : pairB p q = true) (hk : k ≤ 1000000000) (m1 : 1 ≤ m) (m2 : m ≤ 10000) (hv : row p q 2 p k % m = v) :
    Calls Try.prog 51 #[pr p q, .int .i64 n, .int .i64 m] w fun e w' => e = .returned (.int .i64 v) ∧ Below w.heap.size w w' := by
  have := specFarSecond_any p q n m w
  rw [farSecondV, if_pos (farB_mk k hn hp hk m1 m2), hn] at this
  subst hv
  subst hn
  exact this
theorem specFarSecond_no (p q n m : Int) (w : World) (h : farB p q n m = false) :
    Calls Try.prog 51 #[pr p q, .int .i64 n, .int .i64 m] w fun e w' => e = .returned (.int .i64 (-1)) ∧ Below w.heap.size w w' := by
  have := specFarSecond_any p q n m w
  rw [farSecondV, if_neg (by simp [h])] at this
  exact this
theorem rowLeftN_is (p q m x : Int) (k : Nat) (hx : x = k) (hp : pairB p q = true) (hk : k ≤ 200) (m1 : 1 ≤ m) (m2 : m ≤ 10000) : rowLeftN p q x m = k + 1 := by
  have h : rowLeftB p q x m = true := by simp [rowLeftB, hp, inB_mk (n := x) (a := 0) (b := 200) (by omega) (by omega), inB_mk m1 m2]
  rw [rowLeftN, if_pos h]
  omega
theorem eqm_tmod (m x : Int) : Eqm m (x.tmod m) x := ⟨-(x.tdiv m), by have := Int.mul_tdiv_add_tmod x m; rw [Int.mul_neg]; omega⟩
theorem tmod_bd (n m : Int) (hm : 1 ≤ m) : -m < n.tmod m ∧ n.tmod m < m := by
  refine ⟨?_, Int.tmod_lt_of_pos n (by omega)⟩
  have := Int.tmod_lt_of_pos (-n) (b := m) (by omega)
  rw [Int.neg_tmod] at this
  omega
/-- Seven places on. -/
theorem far_want (p q m : Int) (k : Nat) : (row p q 0 1 (k + 1) % m * (row p q 0 1 8).tmod m - q * (row p q 0 1 k % m * (row p q 0 1 7).tmod m).tmod m).tmod m % m = row p q 0 1 (k + 8) % m := by
  refine Eqm.left ((eqm_tmod m _).trans ?_)
  refine Eqm.trans (((Eqm.refl m _).mul (eqm_tmod m _)).sub ((Eqm.refl m q).mul ((eqm_tmod m _).trans ((Eqm.refl m _).mul (eqm_tmod m _))))) ?_
  exact far_add p q m k 7
theorem eqm_tmod_zero {m x y : Int} (h : Eqm m x y) : ((x - y).tmod m == 0) = true := by
  rw [Int.tmod_eq_zero_of_dvd h]; rfl
end Go.Proofs.Ytmliglakfbeedaa
namespace Go.Proofs.Ytmliglakfbeedaa
open Go.RowKit
def fittingB (p q l : Int) : Bool := pairB p q && (decide (q ≠ 0) && (primeB l && (decide (2 < l) && (decide (¬ l ∣ q) && decide (¬ l ∣ p * p - 4 * q)))))
theorem rem_test (n d : Int) : (n.tmod d != 0) = decide (¬ d ∣ n) := by
  rw [Bool.eq_iff_iff, bne_iff_ne, decide_eq_true_iff]
  exact not_congr ⟨Int.dvd_of_tmod_eq_zero, Int.tmod_eq_zero_of_dvd⟩
theorem weight_bd {p q : Int} (h : pairB p q = true) : -16 ≤ p * p - 4 * q ∧ p * p - 4 * q ≤ 32 := by
  obtain ⟨⟨r1, r2⟩, r3, r4⟩ := pairB_true h
  rcases (show p = -4 ∨ p = -3 ∨ p = -2 ∨ p = -1 ∨ p = 0 ∨ p = 1 ∨ p = 2 ∨ p = 3 ∨ p = 4 by omega) with rfl | rfl | rfl | rfl | rfl | rfl | rfl | rfl | rfl <;> omega
theorem weightV_is {p q : Int} (h : pairB p q = true) : weightV p q = p * p - 4 * q := by rw [weightV, if_pos h]
theorem fittingB_true {p q l : Int} (h : fittingB p q l = true) : pairB p q = true ∧ q ≠ 0 ∧ (∃ m : Nat, l = m ∧ m ∈ primes400 ∧ 2 < m ∧ m ≤ 400) ∧ ¬ l ∣ q ∧ ¬ l ∣ p * p - 4 * q := by
  have h' : pairB p q = true ∧ ¬ q = 0 ∧ primeB l = true ∧ 2 < l ∧ ¬ l ∣ q ∧ ¬ l ∣ p * p - 4 * q := by simpa [fittingB] using h
  obtain ⟨hp, hq, hl, h2, h3, h4⟩ := h'
  obtain ⟨m, rfl, hm, m1, m2⟩ := primeB_true hl
  exact ⟨hp, hq, ⟨m, rfl, hm, by omega, m2⟩, h3, h4⟩
theorem specWeight_val (p q v : Int) (w : World) (h : pairB p q = true) (hv : weightV p q = v) : Calls Try.prog 57 #[pr p q] w fun e w' => e = .returned (.tuple #[.int .i64 v, .bool true]) ∧ Below w.heap.size w w' := by
  have := specWeight_any p q w
  rw [h, hv] at this
  exact this
theorem specWeight_not (p q : Int) (w : World) (h : pairB p q = false) : Calls Try.prog 57 #[pr p q] w fun e w' => e = .returned (.tuple #[.int .i64 0, .bool false]) ∧ Below w.heap.size w w' := by
  have := specWeight_any p q w
  rw [weightV, h] at this
  exact this
def placeByV (p q l : Int) : Int := if fittingB p q l = true then l - signN (p * p - 4 * q) l.toNat else -1
theorem placeByV_no {p q l : Int} (h : fittingB p q l = false) : placeByV p q l = -1 := by rw [placeByV, if_neg (by simp [h])]
theorem placeByV_is {p q : Int} {m : Nat} (h : fittingB p q m = true) : placeByV p q m = m - signN (p * p - 4 * q) m := by rw [placeByV, if_pos h]; rfl
theorem signN_bd (n : Int) (m : Nat) : -1 ≤ signN n m ∧ signN n m ≤ 1 := by
  rw [signN]
  split
  · omega
  · split <;> omega
def atPrimeB (p q l : Int) : Bool := pairB p q && primeB l
def atFirstV (p q l : Int) : Int := if atPrimeB p q l = true then row p q 0 1 l.toNat % l else -1
def atSecondV (p q l : Int) : Int := if atPrimeB p q l = true then row p q 2 p l.toNat % l else -1
end Go.Proofs.Ytmliglakfbeedaa
namespace Go.Proofs.Ytmliglakfbeedaa
open Go.RowKit
set_option maxHeartbeats 4000000 in
theorem leastDivisor_at (m : Nat) (w : World) (m2 : 2 ≤ m) (m4 : m ≤ 400) :
    Calls Try.prog 52 #[.int .i64 m] w fun e w' => (∃ d : Int, e = .returned (.int .i64 d) ∧ (d == (m : Int)) = primeB (m : Int)) ∧ w = w' := by
  go_enter Try.func52, Try.ntmps52
  go_wp2_with fail
  go_loop [3] (fun c => ∃ d : Nat, 2 ≤ d ∧ d ≤ 21 ∧ c = .int .i64 d ∧ ∀ e : Nat, 2 ≤ e → e < d → ¬ e ∣ m) (fun c => 30 - (intOf c).toNat)
  case atStart => exact ⟨2, by omega, by omega, rfl, fun e e1 e2 => by omega⟩
  case round =>
    obtain ⟨d, d2, d3, rfl, hno⟩ := hrel
    have HNO := Lib.hid hno
    clear hno
    have hdd : (d : Int) * (d : Int) = ((d * d : Nat) : Int) := by simp
    have hb := Nat.mul_le_mul d3 d3
    have U : IntKind.i64.wrap ((d : Int) * (d : Int)) = (d : Int) * (d : Int) := by rw [IntKind.wrap_i64, hdd]; omega
    by_cases h1 : d * d ≤ m
    · have h1i : (d : Int) * (d : Int) ≤ m := by rw [hdd]; omega
      have hd20 : d ≤ 20 := by
        rcases Nat.lt_or_ge d 21 with h | h
        · omega
        · have := Nat.mul_le_mul h h; omega
      have hz : ((d : Int) == 0) = false := by simp; omega
      have hm0 : 0 ≤ (m : Int) := by omega
      by_cases hdv : d ∣ m
      · have hT : ((m : Int) % (d : Int) == 0) = true := by rw [div_test]; simpa using hdv
        have HV := Lib.hid (show (((d : Nat) : Int) == (m : Int)) = primeB (m : Int) by
          rw [primeB_nat, decide_eq_false (prime_not d2 hdv h1)]
          have hlt : d < m := by have := Nat.mul_le_mul d2 (Nat.le_refl d); omega
          simp; omega)
        rw [beq_iff_eq] at hT
        clear hdd hb hdv
        go_wp2
        go_ret
        exact ⟨⟨d, rfl, HV.out⟩, rfl⟩
      · have hT : ((m : Int) % (d : Int) == 0) = false := by rw [div_test]; simpa using hdv
        have HD := Lib.hid hdv
        clear hdd hb hdv
        go_wp2
        go_round
        case rel => exact ⟨d + 1, by omega, by omega, congrArg (Value.int .i64) (by omega), fun e e1 e2 he => by
          rcases Nat.eq_or_lt_of_le (Nat.le_of_lt_succ e2) with rfl | h
          · exact HD.out he
          · exact HNO.out e e1 h he⟩
        case measure => simp [intOf]; omega
    · have h1i : (m : Int) < (d : Int) * (d : Int) := by rw [hdd]; omega
      have HV := Lib.hid (show ((m : Int) == (m : Int)) = primeB (m : Int) by
        rw [primeB_nat, decide_eq_true (prime_root (d := d) m2 m4 HNO.out (by omega))]
        simp)
      clear hdd hb
      go_wp2
      go_ret
      exact ⟨⟨m, rfl, HV.out⟩, rfl⟩
set_option maxHeartbeats 1000000 in
theorem primeOk_at (n : Int) (w : World) : Calls Try.prog 20 #[.int .i64 n] w fun e w' => e = .returned (.bool (primeB n)) ∧ w = w' := by
  by_cases h1 : 2 ≤ n
  · by_cases h2 : n ≤ 400
    · obtain ⟨m, rfl⟩ := Int.eq_ofNat_of_zero_le (show 0 ≤ n by omega)
      have m2 : 2 ≤ m := by omega
      have m4 : m ≤ 400 := by omega
      go_enter Try.func20, Try.ntmps20
      go_wp2_with fail
      refine (leastDivisor_at m _ m2 m4).mono ?_
      rintro e wx ⟨⟨d, rfl, hd⟩, rfl⟩
      have HD := Lib.hid hd
      clear hd
      go_wp2
      go_ret
      exact ⟨ret_bool HD.out, rfl⟩
    · have HV := Lib.hid (primeB_no (n := n) (.inr (by omega)))
      have h2' : 400 < n := by omega
      go_enter Try.func20, Try.ntmps20
      go_wp2
      go_ret
      exact ⟨ret_bool HV.out.symm, rfl⟩
  · have HV := Lib.hid (primeB_no (n := n) (.inl (by omega)))
    have h1' : n < 2 := by omega
    go_enter Try.func20, Try.ntmps20
    go_wp2
    go_ret
    exact ⟨ret_bool HV.out.symm, rfl⟩
theorem primeOk_is (n : Int) (c : Bool) (w : World) (h : primeB n = c) : Calls Try.prog 20 #[.int .i64 n] w fun e w' => e = .returned (.bool c) ∧ w = w' := by rw [← h]; exact primeOk_at n w
def oddB (n : Int) : Bool := decide (n ≠ 2) && primeB n
theorem oddB_true {n : Int} (h : oddB n = true) : ∃ m : Nat, n = m ∧ m ∈ primes400 ∧ 2 ≤ m ∧ m ≤ 400 ∧ m ≠ 2 := by
  have h' : n ≠ 2 ∧ primeB n = true := by simpa [oddB] using h
  obtain ⟨m, rfl, hm, a, b⟩ := primeB_true h'.2
  exact ⟨m, rfl, hm, a, b, fun e => h'.1 (by omega)⟩
set_option maxHeartbeats 1000000 in
theorem oddPrimeOk_is (n : Int) (c : Bool) (w : World) (h : oddB n = c) : Calls Try.prog 44 #[.int .i64 n] w fun e w' => e = .returned (.bool c) ∧ w = w' := by
  by_cases h2 : n = 2
  · subst h2
    have HC := Lib.hid (show false = c by rw [← h]; rfl)
    clear h
    go_enter Try.func44, Try.ntmps44
    go_wp2
    go_ret
    exact ⟨ret_bool HC.out, rfl⟩
  · have HC := Lib.hid (show primeB n = c by rw [← h]; simp [oddB, h2])
    have h2b : (n != 2) = true := by simpa using h2
    clear h h2
    go_enter Try.func44, Try.ntmps44
    go_wp2_with fail
    refine (primeOk_is n c _ HC.out).mono ?_
    rintro e wx ⟨rfl, rfl⟩
    go_wp2
    go_ret
    exact ⟨rfl, rfl⟩
end Go.Proofs.Ytmliglakfbeedaa
namespace Go.Proofs.Ytmliglakfbeedaa
open Go.RowKit Go.Shelf
theorem info_bool : (Try.prog.info? 4).map (fun i => (i.zero, i.size, i.bytes)) = some (some (.bool false), 1, 1) := by kernel_rfl
/-- What the numbers from 1 on and less than j have squares that leave. -/
def tabB (m j r : Nat) : Bool := (List.range j).any fun k => decide (1 ≤ k) && (k * k % m == r)
theorem tabB_iff {m j r : Nat} : tabB m j r = true ↔ ∃ k, 1 ≤ k ∧ k < j ∧ k * k % m = r := by
  simp only [tabB, List.any_eq_true, List.mem_range, Bool.and_eq_true, decide_eq_true_eq, beq_iff_eq]
  exact ⟨fun ⟨k, a, b, c⟩ => ⟨k, b, a, c⟩, fun ⟨k, a, b, c⟩ => ⟨k, b, a, c⟩⟩
theorem tabB_one (m r : Nat) : tabB m 1 r = false := by
  cases h : tabB m 1 r with
  | false => rfl
  | true => obtain ⟨k, a, b, _⟩ := tabB_iff.1 h; omega
theorem tabB_succ (m j r : Nat) (hj : 1 ≤ j) : tabB m (j + 1) r = (tabB m j r || (j * j % m == r)) := by
  rw [Bool.eq_iff_iff, Bool.or_eq_true, beq_iff_eq, tabB_iff, tabB_iff]
  constructor
  · rintro ⟨k, a, b, c⟩
    rcases Nat.eq_or_lt_of_le (Nat.le_of_lt_succ b) with rfl | h
    · exact .inr c
    · exact .inl ⟨k, a, h, c⟩
  · rintro (⟨k, a, b, c⟩ | h)
    · exact ⟨k, a, by omega, c⟩
    · exact ⟨j, hj, by omega, h⟩
theorem sq_mirror (k d : Nat) : d * d % (k + d) = k * k % (k + d) := by
  have h : d * d + k * (k + d) = k * k + d * (k + d) := by rw [Nat.mul_add, Nat.mul_add, Nat.mul_comm d k]; omega
  have h2 := congrArg (· % (k + d)) h
  simpa [Nat.add_mul_mod_self_right] using h2
theorem tabB_all {m r : Nat} (r1 : 1 ≤ r) : tabB m (m / 2 + 1) r = sqN m r := by
  rw [Bool.eq_iff_iff, tabB_iff, sqN_iff]
  constructor
  · rintro ⟨k, a, b, c⟩
    refine ⟨k, ?_, c⟩
    omega
  · rintro ⟨k, a, c⟩
    have hk : 1 ≤ k := by
      rcases Nat.eq_zero_or_pos k with rfl | h
      · simp at c; omega
      · exact h
    by_cases h : k < m / 2 + 1
    · exact ⟨k, hk, h, c⟩
    · refine ⟨m - k, by omega, by omega, ?_⟩
      obtain ⟨d, rfl⟩ : ∃ d, m = k + d := ⟨m - k, by omega⟩
      rw [show k + d - k = d by omega, sq_mirror]
      exact c
/-- The table when the numbers less than j have been squared. -/
def TabIs (G m j : Nat) (W : World) : Prop := ∀ r, r < m → W.cell? ⟨G, r, none⟩ = some (.bool (tabB m j r)) ∧ W.frozen? ⟨G, r, none⟩ = false
theorem TabIs.set {G m j r : Nat} {W : World} (h : TabIs G m j W) (hj : 1 ≤ j) (hr : j * j % m = r) (hm : r < m) : TabIs G m (j + 1) (W.setCell ⟨G, r, none⟩ (.bool true)) := by
  intro x hx
  rw [tabB_succ m j x hj, hr]
  by_cases e : r = x
  · subst e
    simp only [beq_self_eq_true, Bool.or_true]
    exact ⟨set_same (h r hm).1, set_frozen (h r hm).2⟩
  · rw [show (r == x) = false by simpa using e, Bool.or_false]
    exact ⟨(World.cell?_setCell_other _ ⟨G, r, none⟩ ⟨G, x, none⟩ _ (fun e' => by injection e' with _ e'; omega)).trans (h x hx).1, set_frozen (h x hx).2⟩
theorem madeBools_at (n x : Nat) (h : x < n) : (madeCells #[.bool false] n)[x]? = some (.bool false) := by
  rw [← Array.getElem?_toList, toList_madeCells_one]
  simp [h]
theorem TabIs.made {m : Nat} (W : World) (t : TypeId) : TabIs W.heap.size m 1 (W.alloc (.cells (madeCells #[.bool false] m) t)) := by
  intro x hx
  have := heap_alloc_new W (.cells (madeCells #[.bool false] m) t)
  rw [tabB_one]
  constructor
  · simp only [World.cell?, this]
    simp [madeBools_at m x hx]
  · simp only [World.frozen?, this]
    simp
/-- The table of squares. -/
def SqTab (G m : Nat) (W : World) : Prop := ∀ r, 1 ≤ r → r < m → W.cell? ⟨G, r, none⟩ = some (.bool (sqN m r))
theorem SqTab.below {G m : Nat} {W W' : World} (h : SqTab G m W) (hb : Below W.heap.size W W') : SqTab G m W' := fun r a b => cell_below hb (h r a b)
theorem SqTab.set {G m S o : Nat} {v : Value} {W : World} (h : SqTab G m W) (hS : G ≠ S) : SqTab G m (W.setCell ⟨S, o, none⟩ v) := fun r a b => (set_other hS).trans (h r a b)
set_option maxRecDepth 100000 in
set_option maxHeartbeats 4000000 in
theorem squaresLeft_at (m : Nat) (w : World) (m2 : 2 ≤ m) (m4 : m ≤ 400) :
    Calls Try.prog 70 #[.int .i64 m] w fun e w' => e = .returned (.slice (some ⟨w.heap.size, 0, none⟩) m m) ∧ SqTab w.heap.size m w' ∧ w.heap.size < w'.heap.size ∧ Below w.heap.size w w' := by
  obtain ⟨i0, hi0, hz0, hzs1, hz2⟩ := info_parts info_bool
  have hmk : ∀ W : World, (Instr.makeSlice 76 (.int .i64 (m : Int)) (.int .i64 (m : Int))).run Try.prog W = .ok (.slice (some ⟨W.heap.size, 0, none⟩) m m) (W.alloc (.cells (madeCells #[.bool false] m) 4)) := by
    intro W
    have hr := run_make W 76 4 i0 (.bool false) Try.underlying76 hi0 hz0 .i64 .i64 (m : Int) (m : Int) (by omega) (by omega) (by rw [hz2]; omega) (by omega)
    rw [hzs1, show ((m : Int)).toNat = m by omega, Nat.mul_one] at hr
    exact hr
  have HL := Lib.hid (TabIs.made (m := m) w 4)
  clear hi0 hz0 hzs1 hz2 i0
  go_enter Try.func70, Try.ntmps70
  go_wp2_with fail
  go_loopw [4] (fun c wr => ∃ j : Nat, 1 ≤ j ∧ j ≤ m / 2 + 1 ∧ c = .int .i64 j ∧ TabIs w.heap.size m j wr ∧ w.heap.size < wr.heap.size ∧ Below w.heap.size w wr) (fun c _ => 500 - (intOf c).toNat)
  case atStart => exact ⟨1, by omega, by omega, rfl, HL.out, by simp, (Below.refl _ _).alloc (Nat.le_refl _) _⟩
  case round =>
    obtain ⟨j, j1, j2, rfl, ht, hsz, hB⟩ := hrel
    have hhalf : (m : Int).tdiv 2 = ((m / 2 : Nat) : Int) := by rw [Int.tdiv_eq_ediv_of_nonneg (by omega)]; rfl
    have hjj : (j : Int) * (j : Int) = ((j * j : Nat) : Int) := by simp
    have hb := Nat.mul_le_mul (show j ≤ 201 by omega) (show j ≤ 201 by omega)
    have U : IntKind.i64.wrap ((j : Int) * (j : Int)) = (j : Int) * (j : Int) := by rw [IntKind.wrap_i64, hjj]; omega
    have hz : ((m : Int) == 0) = false := by simp; omega
    have hm0 : 0 < m := by omega
    obtain ⟨r, hr⟩ : ∃ r, j * j % m = r := ⟨_, rfl⟩
    have hrm : r < m := by rw [← hr]; exact Nat.mod_lt _ hm0
    have hT : ((j : Int) * (j : Int)).tmod (m : Int) = (r : Int) := by rw [hjj, Int.tmod_eq_emod_of_nonneg (by omega), ← hr]; rfl
    have hidx : 0 ≤ (r : Int) ∧ (r : Int) < (m : Int) := by omega
    have hcell := (ht r hrm).1
    have hfro := (ht r hrm).2
    have HT := Lib.hid ht
    have HB := Lib.hid hB
    have HR := Lib.hid hr
    clear ht hB hr hjj hb HL hm0
    by_cases hlt : j < m / 2 + 1
    · have hlti : (j : Int) ≤ ((m / 2 : Nat) : Int) := by omega
      go_wp2
      go_roundw
      case rel => exact ⟨j + 1, by omega, by omega, congrArg (Value.int .i64) (by omega), HT.out.set j1 HR.out hrm, by simpa [World.setCell] using hsz, HB.out.setCell (by show w.heap.size ≤ w.heap.size; omega) _⟩
      case measure => simp [intOf]; omega
    · obtain rfl : j = m / 2 + 1 := by omega
      have hlti : ¬ ((m / 2 + 1 : Nat) : Int) ≤ ((m / 2 : Nat) : Int) := by omega
      go_wp2
      go_ret
      exact ⟨rfl, fun r a b => by rw [← tabB_all a]; exact (HT.out r b).1, hsz, HB.out⟩
/-- What the closure holds: the box of the prime, the Once, the box of the table. -/
def Signs (m P O S : Nat) (W : World) : Prop :=
  (W.cell? ⟨P, 0, none⟩ = some (.int .i64 m) ∧ W.cell? ⟨O, 1, none⟩ = some (.int .i32 0)) ∧
  (W.frozen? ⟨O, 0, none⟩ = false ∧ W.frozen? ⟨O, 1, none⟩ = false ∧ W.frozen? ⟨S, 0, none⟩ = false) ∧
  ((W.cell? ⟨O, 0, none⟩ = some (.int .u32 0) ∧ ∃ x, W.cell? ⟨S, 0, none⟩ = some x) ∨
   (W.cell? ⟨O, 0, none⟩ = some (.int .u32 1) ∧ ∃ G, W.cell? ⟨S, 0, none⟩ = some (.slice (some ⟨G, 0, none⟩) m m) ∧ SqTab G m W))
theorem Signs.sound {m P O S : Nat} {W : World} (h : Signs m P O S W) : (∃ x, W.cell? ⟨O, 0, none⟩ = some x) ∧ ∃ x, W.cell? ⟨S, 0, none⟩ = some x := by
  obtain ⟨_, _, ⟨h1, h2⟩ | ⟨h1, G, h2, _⟩⟩ := h
  · exact ⟨⟨_, h1⟩, h2⟩
  · exact ⟨⟨_, h1⟩, _, h2⟩
theorem Signs.below {m P O S : Nat} {W W' : World} (h : Signs m P O S W) (hb : Below W.heap.size W W') : Signs m P O S W' := by
  obtain ⟨⟨x0, hx0⟩, x1, hx1⟩ := h.sound
  obtain ⟨⟨a1, a2⟩, ⟨b1, b2, b3⟩, ⟨c1, x, c2⟩ | ⟨c1, G, c2, c3⟩⟩ := h
  · exact ⟨⟨cell_below hb a1, cell_below hb a2⟩, ⟨frozen_below hb hx0 b1, frozen_below hb a2 b2, frozen_below hb hx1 b3⟩, .inl ⟨cell_below hb c1, x, cell_below hb c2⟩⟩
  · exact ⟨⟨cell_below hb a1, cell_below hb a2⟩, ⟨frozen_below hb hx0 b1, frozen_below hb a2 b2, frozen_below hb hx1 b3⟩, .inr ⟨cell_below hb c1, G, cell_below hb c2, c3.below hb⟩⟩
/-- What the table's maker leaves: a new table, of which the box holds the slice. -/
def Filled (m S : Nat) (w w' : World) : Prop := ∃ (v : World) (G : Nat), Below w.heap.size w v ∧ w.heap.size ≤ G ∧ SqTab G m v ∧ w' = v.setCell ⟨S, 0, none⟩ (.slice (some ⟨G, 0, none⟩) m m)
set_option maxHeartbeats 1000000 in
theorem fill_at (m P S : Nat) (x : Value) (w : World) (m2 : 2 ≤ m) (m4 : m ≤ 400) (h0 : w.cell? ⟨P, 0, none⟩ = some (.int .i64 m)) (h1 : w.cell? ⟨S, 0, none⟩ = some x) (f1 : w.frozen? ⟨S, 0, none⟩ = false) :
    Calls Try.prog 69 #[.pointer (some ⟨P, 0, none⟩), .pointer (some ⟨S, 0, none⟩)] w fun e w' => e = .returned (.tuple #[]) ∧ Filled m S w w' := by
  go_enter Try.func69, Try.ntmps69
  go_wp2_with fail
  refine (squaresLeft_at m _ m2 m4).mono ?_
  rintro e v ⟨rfl, ht, _, hb⟩
  have k1 := cell_below hb h1
  have k2 := frozen_below hb h1 f1
  have HT := Lib.hid ht
  have HB := Lib.hid hb
  clear ht hb
  go_wp2
  go_end0
  exact ⟨rfl, v, _, HB.out, Nat.le_refl _, HT.out, rfl⟩
set_option maxRecDepth 100000 in
set_option maxHeartbeats 1600000 in
theorem onceSlow_at (m P O S : Nat) (x : Value) (w : World) (hPO : P ≠ O) (hSO : S ≠ O) (m2 : 2 ≤ m) (m4 : m ≤ 400)
    (h0 : w.cell? ⟨O, 0, none⟩ = some (.int .u32 0)) (h1 : w.cell? ⟨O, 1, none⟩ = some (.int .i32 0)) (hp : w.cell? ⟨P, 0, none⟩ = some (.int .i64 m)) (hs : w.cell? ⟨S, 0, none⟩ = some x)
    (f0 : w.frozen? ⟨O, 0, none⟩ = false) (f1 : w.frozen? ⟨O, 1, none⟩ = false) (fs : w.frozen? ⟨S, 0, none⟩ = false) :
    Calls Try.prog 87 #[.pointer (some ⟨O, 0, none⟩), .func (.func 69) #[] #[.pointer (some ⟨P, 0, none⟩), .pointer (some ⟨S, 0, none⟩)]] w fun e w' => e = .returned (.tuple #[]) ∧
      ∃ v, Filled m S (w.setCell ⟨O, 1, none⟩ (.int .i32 1)) v ∧ w' = (v.drew.setCell ⟨O, 0, none⟩ (.int .u32 1)).setCell ⟨O, 1, none⟩ (.int .i32 0) := by
  have hnot : ∀ (x : Bool) (w : World), (Op.unary .not (.bool x)).run Try.prog w = .ok (.bool (!x)) w := fun _ _ => rfl
  have e0 : (w.setCell ⟨O, 1, none⟩ (.int .i32 1)).cell? ⟨O, 0, none⟩ = some (.int .u32 0) := (World.cell?_setCell_other _ ⟨O, 1, none⟩ ⟨O, 0, none⟩ _ (by simp)).trans h0
  have e1 : (w.setCell ⟨O, 1, none⟩ (.int .i32 1)).cell? ⟨O, 1, none⟩ = some (.int .i32 1) := World.cell?_setCell_same w _ _ h1
  have ep : (w.setCell ⟨O, 1, none⟩ (.int .i32 1)).cell? ⟨P, 0, none⟩ = some (.int .i64 m) := (set_other hPO).trans hp
  have es : (w.setCell ⟨O, 1, none⟩ (.int .i32 1)).cell? ⟨S, 0, none⟩ = some x := (set_other hSO).trans hs
  have g0 : (w.setCell ⟨O, 1, none⟩ (.int .i32 1)).frozen? ⟨O, 0, none⟩ = false := set_frozen f0
  have g1 : (w.setCell ⟨O, 1, none⟩ (.int .i32 1)).frozen? ⟨O, 1, none⟩ = false := set_frozen f1
  have gs : (w.setCell ⟨O, 1, none⟩ (.int .i32 1)).frozen? ⟨S, 0, none⟩ = false := set_frozen fs
  go_enter_defers Try.func87, Try.ntmps87
  go_wp2_with fail
  refine (onceLock_at ⟨O, 1, none⟩ _ h1 f1).mono ?_
  rintro e w' ⟨rfl, rfl⟩
  go_wp2_with fail
  refine (onceLoad_at ⟨O, 0, none⟩ 0 false _ e0 rfl).mono ?_
  rintro e w' ⟨rfl, rfl⟩
  go_wp2_with fail
  refine (fill_at m P S x _ m2 m4 ep es gs).mono ?_
  rintro e v ⟨rfl, hv⟩
  have HV := Lib.hid hv
  have k : (v.cell? ⟨O, 0, none⟩ = some (.int .u32 0) ∧ v.frozen? ⟨O, 0, none⟩ = false) ∧ v.cell? ⟨O, 1, none⟩ = some (.int .i32 1) ∧ v.frozen? ⟨O, 1, none⟩ = false := by
    obtain ⟨u, G, hb, hG, _, rfl⟩ := hv
    exact ⟨⟨(set_other (Ne.symm hSO)).trans (cell_below hb e0), set_frozen (frozen_below hb e0 g0)⟩, (set_other (Ne.symm hSO)).trans (cell_below hb e1), set_frozen (frozen_below hb e1 g1)⟩
  obtain ⟨⟨k0, kf0⟩, k1, kf1⟩ := k
  clear hv
  go_wp2
  refine leaves_cons (f := 98) (args := #[.pointer (some ⟨O, 0, none⟩), .bool true]) (by simp) (by simp [go_sem]) ?_
  refine (onceStore_d ⟨O, 0, none⟩ (.int .u32 0) .returning _ k0 kf0).mono ?_
  rintro e u' w'' ⟨rfl, rfl, rfl⟩
  refine leaves_cons (f := 97) (args := #[.pointer (some ⟨O, 1, none⟩)]) (by simp [settle]) (by simp [go_sem]) ?_
  refine (onceUnlock_d ⟨O, 1, none⟩ _ _ ?_ ?_).mono ?_
  · refine (World.cell?_setCell_other _ ⟨O, 0, none⟩ ⟨O, 1, none⟩ _ (by simp)).trans ?_
    rw [World.cell?_drew]
    exact k1
  · refine set_frozen ?_
    rw [World.frozen?_drew]
    exact kf1
  rintro e u' w'' ⟨rfl, rfl, rfl⟩
  have hfin : ∃ v', Filled m S (w.setCell ⟨O, 1, none⟩ (.int .i32 1)) v' ∧ (v.drew.setCell ⟨O, 0, none⟩ (.int .u32 1)).setCell ⟨O, 1, none⟩ (.int .i32 0) = (v'.drew.setCell ⟨O, 0, none⟩ (.int .u32 1)).setCell ⟨O, 1, none⟩ (.int .i32 0) := ⟨v, HV.out, rfl⟩
  exact ⟨.tuple #[], by simp [results, Try.results87, go_sem], rfl, hfin⟩
end Go.Proofs.Ytmliglakfbeedaa
namespace Go.Proofs.Ytmliglakfbeedaa
open Go.RowKit Go.Shelf
/-- What is left once the table stands. -/
theorem Signs.signs_of {m P O S B : Nat} {w v w' : World} (h : Signs m P O S w) (hPO : P ≠ O) (hSO : S ≠ O) (hPS : P ≠ S) (bO : B ≤ O) (bS : B ≤ S) (bw : B ≤ w.heap.size)
    (hv : Filled m S (w.setCell ⟨O, 1, none⟩ (.int .i32 1)) v) (hw : w' = (v.drew.setCell ⟨O, 0, none⟩ (.int .u32 1)).setCell ⟨O, 1, none⟩ (.int .i32 0)) :
    Signs m P O S w' ∧ (∃ G, w'.cell? ⟨S, 0, none⟩ = some (.slice (some ⟨G, 0, none⟩) m m) ∧ SqTab G m w') ∧ Below B w w' := by
  obtain ⟨⟨y0, hy0⟩, y1, hy1⟩ := h.sound
  obtain ⟨⟨a1, a2⟩, ⟨b1, b2, b3⟩, _⟩ := h
  obtain ⟨u, G, hb, hG, ht, rfl⟩ := hv
  have hsO := World.block_lt_of_cell? _ _ a2
  have hsS := World.block_lt_of_cell? _ _ hy1
  have hG' : w.heap.size ≤ G := by simpa [World.setCell] using hG
  have hGO : G ≠ O := by have : O < w.heap.size := hsO; omega
  have hGS : G ≠ S := by have : S < w.heap.size := hsS; omega
  have p0 : (w.setCell ⟨O, 1, none⟩ (.int .i32 1)).cell? ⟨P, 0, none⟩ = some (.int .i64 m) := (set_other hPO).trans a1
  have o0 : (w.setCell ⟨O, 1, none⟩ (.int .i32 1)).cell? ⟨O, 0, none⟩ = some y0 := (World.cell?_setCell_other _ ⟨O, 1, none⟩ ⟨O, 0, none⟩ _ (by simp)).trans hy0
  have o1 : (w.setCell ⟨O, 1, none⟩ (.int .i32 1)).cell? ⟨O, 1, none⟩ = some (.int .i32 1) := set_same a2
  have s0 : (w.setCell ⟨O, 1, none⟩ (.int .i32 1)).cell? ⟨S, 0, none⟩ = some y1 := (set_other hSO).trans hy1
  have g0 : (w.setCell ⟨O, 1, none⟩ (.int .i32 1)).frozen? ⟨O, 0, none⟩ = false := set_frozen b1
  have g1 : (w.setCell ⟨O, 1, none⟩ (.int .i32 1)).frozen? ⟨O, 1, none⟩ = false := set_frozen b2
  have g2 : (w.setCell ⟨O, 1, none⟩ (.int .i32 1)).frozen? ⟨S, 0, none⟩ = false := set_frozen b3
  have p1 := cell_below hb p0
  have q0 := cell_below hb o0
  have q1 := cell_below hb o1
  have q2 := cell_below hb s0
  have r0 := frozen_below hb o0 g0
  have r1 := frozen_below hb o1 g1
  have r2 := frozen_below hb s0 g2
  clear p0 o0 o1 s0 g0 g1 g2
  have hbw : Below B w u := ((Below.refl B w).setCell (p := ⟨O, 1, none⟩) bO _).trans (hb.mono (by simpa [World.setCell] using bw))
  clear hb
  obtain ⟨V, hV⟩ : ∃ V, u.setCell ⟨S, 0, none⟩ (.slice (some ⟨G, 0, none⟩) m m) = V := ⟨_, rfl⟩
  have v0 : V.cell? ⟨P, 0, none⟩ = some (.int .i64 m) := by rw [← hV]; exact (set_other hPS).trans p1
  have v1 : V.cell? ⟨O, 0, none⟩ = some y0 := by rw [← hV]; exact (set_other (Ne.symm hSO)).trans q0
  have v2 : V.cell? ⟨O, 1, none⟩ = some (.int .i32 1) := by rw [← hV]; exact (set_other (Ne.symm hSO)).trans q1
  have v3 : V.cell? ⟨S, 0, none⟩ = some (.slice (some ⟨G, 0, none⟩) m m) := by rw [← hV]; exact set_same q2
  have f0 : V.frozen? ⟨O, 0, none⟩ = false := by rw [← hV]; exact set_frozen r0
  have f1 : V.frozen? ⟨O, 1, none⟩ = false := by rw [← hV]; exact set_frozen r1
  have f2 : V.frozen? ⟨S, 0, none⟩ = false := by rw [← hV]; exact set_frozen r2
  have ht' : SqTab G m V := by rw [← hV]; exact ht.set hGS
  have hbV : Below B w V := by rw [← hV]; exact hbw.setCell (p := ⟨S, 0, none⟩) bS _
  rw [hV] at hw
  clear hV p1 q0 q1 q2 r0 r1 r2 hbw ht
  obtain ⟨D, hD⟩ : ∃ D, V.drew = D := ⟨_, rfl⟩
  rw [hD] at hw
  have d0 : D.cell? ⟨P, 0, none⟩ = some (.int .i64 m) := by rw [← hD, World.cell?_drew]; exact v0
  have d1 : D.cell? ⟨O, 0, none⟩ = some y0 := by rw [← hD, World.cell?_drew]; exact v1
  have d2 : D.cell? ⟨O, 1, none⟩ = some (.int .i32 1) := by rw [← hD, World.cell?_drew]; exact v2
  have d3 : D.cell? ⟨S, 0, none⟩ = some (.slice (some ⟨G, 0, none⟩) m m) := by rw [← hD, World.cell?_drew]; exact v3
  have e0 : D.frozen? ⟨O, 0, none⟩ = false := by rw [← hD, World.frozen?_drew]; exact f0
  have e1 : D.frozen? ⟨O, 1, none⟩ = false := by rw [← hD, World.frozen?_drew]; exact f1
  have e2 : D.frozen? ⟨S, 0, none⟩ = false := by rw [← hD, World.frozen?_drew]; exact f2
  have hbD : Below B w D := by rw [← hD]; exact hbV.drew
  have htD : SqTab G m D := by rw [← hD]; intro r a b; rw [World.cell?_drew]; exact ht' r a b
  clear hD v0 v1 v2 v3 f0 f1 f2 hbV ht'
  subst hw
  have x2 : (D.setCell ⟨O, 0, none⟩ (.int .u32 1)).cell? ⟨O, 1, none⟩ = some (.int .i32 1) := (World.cell?_setCell_other _ ⟨O, 0, none⟩ ⟨O, 1, none⟩ _ (by simp)).trans d2
  have x1 : (D.setCell ⟨O, 0, none⟩ (.int .u32 1)).cell? ⟨O, 0, none⟩ = some (.int .u32 1) := set_same d1
  have hS2 : ((D.setCell ⟨O, 0, none⟩ (.int .u32 1)).setCell ⟨O, 1, none⟩ (.int .i32 0)).cell? ⟨S, 0, none⟩ = some (.slice (some ⟨G, 0, none⟩) m m) := (set_other hSO).trans ((set_other hSO).trans d3)
  have hT2 : SqTab G m ((D.setCell ⟨O, 0, none⟩ (.int .u32 1)).setCell ⟨O, 1, none⟩ (.int .i32 0)) := (htD.set hGO).set hGO
  refine ⟨⟨⟨(set_other hPO).trans ((set_other hPO).trans d0), set_same x2⟩, ⟨set_frozen (set_frozen e0), set_frozen (set_frozen e1), set_frozen (set_frozen e2)⟩, .inr ⟨(World.cell?_setCell_other _ ⟨O, 1, none⟩ ⟨O, 0, none⟩ _ (by simp)).trans x1, G, hS2, hT2⟩⟩, ⟨G, hS2, hT2⟩, ?_⟩
  exact (hbD.setCell (p := ⟨O, 0, none⟩) bO _).setCell (p := ⟨O, 1, none⟩) bO _
set_option maxHeartbeats 1000000 in
theorem onceDo_at (m P O S B : Nat) (w : World) (hPO : P ≠ O) (hSO : S ≠ O) (hPS : P ≠ S) (m2 : 2 ≤ m) (m4 : m ≤ 400) (h : Signs m P O S w) (bO : B ≤ O) (bS : B ≤ S) (bw : B ≤ w.heap.size) :
    Calls Try.prog 68 #[.pointer (some ⟨O, 0, none⟩), .func (.func 69) #[] #[.pointer (some ⟨P, 0, none⟩), .pointer (some ⟨S, 0, none⟩)]] w fun e w' => e = .returned (.tuple #[]) ∧ Signs m P O S w' ∧ (∃ G, w'.cell? ⟨S, 0, none⟩ = some (.slice (some ⟨G, 0, none⟩) m m) ∧ SqTab G m w') ∧ Below B w w' := by
  have HH := Lib.hid h
  obtain ⟨⟨a1, a2⟩, ⟨b1, b2, b3⟩, ⟨c1, x, c2⟩ | ⟨c1, G, c2, c3⟩⟩ := h
  · have hnot : ∀ (x : Bool) (w : World), (Op.unary .not (.bool x)).run Try.prog w = .ok (.bool (!x)) w := fun _ _ => rfl
    go_enter Try.func68, Try.ntmps68
    go_wp2_with fail
    refine (onceLoad_at ⟨O, 0, none⟩ 0 false _ c1 rfl).mono ?_
    rintro e w' ⟨rfl, rfl⟩
    go_wp2_with fail
    refine (onceSlow_at m P O S x _ hPO hSO m2 m4 c1 a2 a1 c2 b1 b2 b3).mono ?_
    rintro e w' ⟨rfl, v, hv, hw⟩
    have HF := Lib.hid (HH.out.signs_of hPO hSO hPS bO bS bw hv hw)
    clear hv hw
    go_wp2
    go_end0
    exact ⟨rfl, HF.out⟩
  · have HT := Lib.hid c3
    clear c3
    go_enter Try.func68, Try.ntmps68
    go_wp2_with fail
    refine (onceLoad_at ⟨O, 0, none⟩ 1 true _ c1 rfl).mono ?_
    rintro e w' ⟨rfl, rfl⟩
    go_wp2
    go_end0
    exact ⟨rfl, HH.out, ⟨G, c2, HT.out⟩, Below.refl _ _⟩
theorem signN_zero (n : Int) (m : Nat) : (signN n m == 0) = decide ((m : Int) ∣ n) := by
  rw [Bool.eq_iff_iff, beq_iff_eq, decide_eq_true_iff]
  constructor
  · intro h
    rw [signN] at h
    split at h
    · exact Int.dvd_of_emod_eq_zero (by assumption)
    · split at h <;> cases h
  · intro h
    rw [signN, if_pos (Int.emod_eq_zero_of_dvd h)]
set_option maxRecDepth 100000 in
set_option maxHeartbeats 4000000 in
theorem signsFn_at (n : Int) (m P O S B : Nat) (v : Int) (w : World) (hv : signN n m = v) (hPO : P ≠ O) (hSO : S ≠ O) (hPS : P ≠ S) (m2 : 2 ≤ m) (m4 : m ≤ 400) (h : Signs m P O S w) (bO : B ≤ O) (bS : B ≤ S) (bw : B ≤ w.heap.size) :
    Calls Try.prog 67 (#[.int .i64 n, .pointer (some ⟨P, 0, none⟩), .pointer (some ⟨O, 0, none⟩), .pointer (some ⟨S, 0, none⟩)]) w fun e w' => e = .returned (.int .i64 v) ∧ Signs m P O S w' ∧ Below B w w' := by
  have hmf : ∀ (fn : Fn) (first cap : Array Value) (w : World), (Instr.makeFunc fn first cap).run Try.prog w = .ok (.func fn first cap) w := fun _ _ _ _ => rfl
  have HH := Lib.hid h
  have a1 := h.1.1
  clear h
  obtain ⟨l0, l1⟩ := left_bd n m (show (1 : Int) ≤ (m : Int) by omega)
  obtain ⟨r, hr⟩ := Int.eq_ofNat_of_zero_le l0
  have HR := Lib.hid hr
  have hrm : r < m := by omega
  clear l0 l1 hr
  by_cases hr0 : r = 0
  · subst hr0
    have HV := Lib.hid (show (0 : Int) = v by rw [← hv, signN, if_pos (by simpa using HR.out)])
    clear hv
    go_enter Try.func67, Try.ntmps67
    go_wp2_with fail
    refine (leftOf_at n m 0 _ (by omega) (by omega) (by simpa using HR.out)).mono ?_
    rintro e wx ⟨rfl, rfl⟩
    go_wp2
    go_ret
    exact ⟨ret_int HV.out, HH.out, Below.refl _ _⟩
  · have hrz : ((r : Int) == 0) = false := by simp; omega
    have HS0 : signN n m = if sqN m r = true then (1 : Int) else -1 := by rw [signN, if_neg (by rw [HR.out]; omega), HR.out]; rfl
    have HS : Hid ((if sqN m r = true then (1 : Int) else -1) = v) := Lib.hid (HS0.symm.trans hv)
    clear HS0
    clear hv
    go_enter Try.func67, Try.ntmps67
    go_wp2_with fail
    refine (leftOf_at n m r _ (by omega) (by omega) HR.out).mono ?_
    rintro e wx ⟨rfl, rfl⟩
    go_wp2_with fail
    refine (onceDo_at m P O S B _ hPO hSO hPS m2 m4 HH.out bO bS bw).mono ?_
    rintro e w2 ⟨rfl, hs2, ⟨G, g1, g2⟩, hb2⟩
    have hcell := g2 r (by omega) hrm
    have HS2 := Lib.hid hs2
    have HB2 := Lib.hid hb2
    have hidx : 0 ≤ (r : Int) ∧ (r : Int) < (m : Int) := by omega
    clear hs2 hb2 g2 HH
    cases hq : sqN m r with
    | true =>
      rw [hq] at hcell HS
      have HS' := Lib.hid (show (1 : Int) = v from HS.out)
      clear HS
      go_wp2
      go_ret
      exact ⟨ret_int HS'.out, HS2.out, HB2.out⟩
    | false =>
      rw [hq] at hcell HS
      have HS' := Lib.hid (show (-1 : Int) = v from HS.out)
      clear HS
      go_wp2
      go_ret
      exact ⟨ret_int HS'.out, HS2.out, HB2.out⟩
set_option maxHeartbeats 1000000 in
theorem signsBy_at (m : Nat) (w : World) :
    Calls Try.prog 45 #[.int .i64 m] w fun e w' => ∃ P O S, e = .returned (.func (.func 67) #[] #[.pointer (some ⟨P, 0, none⟩), .pointer (some ⟨O, 0, none⟩), .pointer (some ⟨S, 0, none⟩)]) ∧ (P ≠ O ∧ S ≠ O ∧ P ≠ S ∧ w.heap.size ≤ O ∧ w.heap.size ≤ S) ∧ Signs m P O S w' ∧ Below w.heap.size w w' := by
  have hmf : ∀ (fn : Fn) (first cap : Array Value) (w : World), (Instr.makeFunc fn first cap).run Try.prog w = .ok (.func fn first cap) w := fun _ _ _ _ => rfl
  go_enter Try.func45, Try.ntmps45
  go_wp2
  go_ret
  refine ⟨w.heap.size, w.heap.size + 1, w.heap.size + 1 + 1, rfl, ⟨by omega, by omega, by omega, by omega, by omega⟩, ⟨⟨by go_simp, by go_simp⟩, ⟨by go_simp, by go_simp, by go_simp⟩, .inl ⟨by go_simp, .slice none 0 0, by go_simp⟩⟩, by (repeat (first | exact Below.refl _ _ | refine Below.setCell ?_ (by first | omega | (simp <;> omega)) _ | refine Below.alloc ?_ (by first | omega | (simp <;> omega)) _ | refine Below.drew ?_ | refine Below.trans ?_ (Below.mono (by assumption) (by first | omega | (simp <;> omega))) | refine Below.grown ?_ (by assumption) (by first | omega | (simp <;> omega)) (fun k e => by cases e; first | omega | (simp <;> omega))))⟩
end Go.Proofs.Ytmliglakfbeedaa
namespace Go.Proofs.Ytmliglakfbeedaa
open Go.RowKit
theorem implPrime_any (n : Int) (w : World) : Calls Try.prog 20 #[.int .i64 n] w fun e w' => e = .returned (.bool (primeB n)) ∧ Below w.heap.size w w' := (primeOk_at n w).mono (by rintro e w' ⟨rfl, rfl⟩; exact ⟨rfl, Below.refl _ _⟩)
theorem squareB_odd (n p : Int) : squareB n p = (inB n (-10000) 10000 && oddB p) := by
  rw [squareB, oddB]
  cases primeB p <;> cases inB n (-10000) 10000 <;> simp
set_option maxHeartbeats 4000000 in
theorem implSquare_any (n p : Int) (w : World) : Calls Try.prog 15 #[.int .i64 n, .int .i64 p] w fun e w' => e = .returned (.tuple #[.int .i64 (squareV n p), .bool (squareB n p)]) ∧ Below w.heap.size w w' := by
  have hB := squareB_odd n p
  cases hn : inB n (-10000) 10000 with
  | false =>
    rw [hn] at hB
    have HB := Lib.hid (show squareB n p = false from hB)
    have HV := Lib.hid (squareV_no HB.out)
    have HN := Lib.hid hn
    clear hn hB
    go_enter Try.func15, Try.ntmps15
    go_wp2_with fail
    refine (dividedOk_is n false _ HN.out).mono ?_
    rintro e wx ⟨rfl, rfl⟩
    go_wp2
    go_ret2
    exact ⟨ret_int_bool HV.out.symm HB.out.symm, by (repeat (first | exact Below.refl _ _ | refine Below.setCell ?_ (by first | omega | (simp <;> omega)) _ | refine Below.alloc ?_ (by first | omega | (simp <;> omega)) _ | refine Below.drew ?_ | refine Below.trans ?_ (Below.mono (by assumption) (by first | omega | (simp <;> omega))) | refine Below.grown ?_ (by assumption) (by first | omega | (simp <;> omega)) (fun k e => by cases e; first | omega | (simp <;> omega))))⟩
  | true =>
    cases ho : oddB p with
    | false =>
      rw [hn, ho] at hB
      have HB := Lib.hid (show squareB n p = false from hB)
      have HV := Lib.hid (squareV_no HB.out)
      have HN := Lib.hid hn
      have HO := Lib.hid ho
      clear hn hB ho
      go_enter Try.func15, Try.ntmps15
      go_wp2_with fail
      refine (dividedOk_is n true _ HN.out).mono ?_
      rintro e wx ⟨rfl, rfl⟩
      go_wp2_with fail
      refine (oddPrimeOk_is p false _ HO.out).mono ?_
      rintro e wx ⟨rfl, rfl⟩
      go_wp2
      go_ret2
      exact ⟨ret_int_bool HV.out.symm HB.out.symm, by (repeat (first | exact Below.refl _ _ | refine Below.setCell ?_ (by first | omega | (simp <;> omega)) _ | refine Below.alloc ?_ (by first | omega | (simp <;> omega)) _ | refine Below.drew ?_ | refine Below.trans ?_ (Below.mono (by assumption) (by first | omega | (simp <;> omega))) | refine Below.grown ?_ (by assumption) (by first | omega | (simp <;> omega)) (fun k e => by cases e; first | omega | (simp <;> omega))))⟩
    | true =>
      rw [hn, ho] at hB
      obtain ⟨m, rfl, hm, m2, m4, m3⟩ := oddB_true ho
      have HB := Lib.hid (show squareB n m = true from hB)
      have HV := Lib.hid (show signN n m = squareV n m from (squareV_is HB.out).symm)
      have HN := Lib.hid hn
      have HO := Lib.hid ho
      clear hn hB ho hm
      go_enter Try.func15, Try.ntmps15
      go_wp2_with fail
      refine (dividedOk_is n true _ HN.out).mono ?_
      rintro e wx ⟨rfl, rfl⟩
      go_wp2_with fail
      refine (oddPrimeOk_is _ true _ HO.out).mono ?_
      rintro e wx ⟨rfl, rfl⟩
      go_wp2_with fail
      refine (signsBy_at m _).mono ?_
      rintro e w1 ⟨P, O, S, rfl, ⟨h1, h2, h3, h4, h5⟩, hs1, hh1⟩
      have HS := Lib.hid hs1
      clear hs1
      go_wp2_with fail
      refine (signsFn_at n m P O S w.heap.size _ _ HV.out h1 h2 h3 m2 m4 HS.out h4 h5 hh1.size).mono ?_
      rintro e w2 ⟨rfl, _, hh2⟩
      go_wp2
      go_ret2
      exact ⟨ret_int_bool rfl HB.out.symm, hh1.trans hh2⟩
theorem implWeight_is (p q v : Int) (c : Bool) (w : World) (hv : weightV p q = v) (hc : pairB p q = c) : Calls Try.prog 26 #[pr p q] w fun e w' => e = .returned (.tuple #[.int .i64 v, .bool c]) ∧ Below w.heap.size w w' := by rw [← hv, ← hc]; exact implWeight_any p q w
theorem fittingB_odd {p q : Int} {m : Nat} (hp : pairB p q = true) (ho : oddB m = true) (m2 : 2 ≤ m) (m3 : m ≠ 2) : fittingB p q m = (!(signN (p * p - 4 * q) m == 0) && !(signN q m == 0)) := by
  rw [signN_zero, signN_zero]
  have hl : primeB (m : Int) = true := by
    have h' : (m : Int) ≠ 2 ∧ primeB m = true := by simpa [oddB] using ho
    exact h'.2
  have h2 : (2 : Int) < (m : Int) := by omega
  by_cases hq : (m : Int) ∣ q
  · by_cases hw : (m : Int) ∣ p * p - 4 * q <;> simp [fittingB, hp, hl, h2, hq, hw]
  · have hq0 : q ≠ 0 := fun e => hq (by rw [e]; exact Int.dvd_zero _)
    by_cases hw : (m : Int) ∣ p * p - 4 * q <;> simp [fittingB, hp, hl, h2, hq, hw, hq0]
theorem fittingB_even {p q l : Int} (ho : oddB l = false) : fittingB p q l = false := by
  cases h : fittingB p q l with
  | false => rfl
  | true =>
    obtain ⟨_, _, ⟨m, rfl, hm, m1, m2⟩, _, _⟩ := fittingB_true h
    have : oddB (m : Int) = true := by simp [oddB, primeB_nat, hm]; omega
    rw [this] at ho
    cases ho
set_option maxHeartbeats 8000000 in
theorem implPlaceBy_any (p q l : Int) (w : World) : Calls Try.prog 60 #[pr p q, .int .i64 l] w fun e w' => e = .returned (.tuple #[.int .i64 (placeByV p q l), .bool (fittingB p q l)]) ∧ Below w.heap.size w w' := by
  cases hp : pairB p q with
  | false =>
    have HB := Lib.hid (show fittingB p q l = false by simp [fittingB, hp])
    have HV := Lib.hid (placeByV_no HB.out)
    have HP := Lib.hid hp
    clear hp
    go_enter Try.func60, Try.ntmps60
    go_wp2_with fail
    refine (implWeight_is p q _ false _ rfl HP.out).mono ?_
    rintro e w1 ⟨rfl, hh1⟩
    obtain ⟨hc1, hf1⟩ := bcell hh1
    have hz1 := hh1.size
    try simp only [World.size_alloc] at hz1
    have hz1_0 : w.heap.size < w1.heap.size := by omega
    have kb1_0_0 : w1.cell? ⟨w.heap.size, 0, none⟩ = some (.int .i64 p) := by go_simp
    have kf1_0_0 : w1.frozen? ⟨w.heap.size, 0, none⟩ = false := by go_simp
    have kb1_0_1 : w1.cell? ⟨w.heap.size, 1, none⟩ = some (.int .i64 q) := by go_simp
    have kf1_0_1 : w1.frozen? ⟨w.heap.size, 1, none⟩ = false := by go_simp
    clear hc1 hf1
    go_wp2
    go_ret2
    exact ⟨ret_int_bool HV.out.symm HB.out.symm, by (repeat (first | exact Below.refl _ _ | refine Below.setCell ?_ (by first | omega | (simp <;> omega)) _ | refine Below.alloc ?_ (by first | omega | (simp <;> omega)) _ | refine Below.drew ?_ | refine Below.trans ?_ (Below.mono (by assumption) (by first | omega | (simp <;> omega))) | refine Below.grown ?_ (by assumption) (by first | omega | (simp <;> omega)) (fun k e => by cases e; first | omega | (simp <;> omega))))⟩
  | true =>
    cases ho : oddB l with
    | false =>
      have HB := Lib.hid (show fittingB p q l = false from fittingB_even ho)
      have HV := Lib.hid (placeByV_no HB.out)
      have HP := Lib.hid hp
      have HO := Lib.hid ho
      clear hp ho
      go_enter Try.func60, Try.ntmps60
      go_wp2_with fail
      refine (implWeight_is p q _ true _ rfl HP.out).mono ?_
      rintro e w1 ⟨rfl, hh1⟩
      obtain ⟨hc1, hf1⟩ := bcell hh1
      have hz1 := hh1.size
      try simp only [World.size_alloc] at hz1
      have hz1_0 : w.heap.size < w1.heap.size := by omega
      have kb1_0_0 : w1.cell? ⟨w.heap.size, 0, none⟩ = some (.int .i64 p) := by go_simp
      have kf1_0_0 : w1.frozen? ⟨w.heap.size, 0, none⟩ = false := by go_simp
      have kb1_0_1 : w1.cell? ⟨w.heap.size, 1, none⟩ = some (.int .i64 q) := by go_simp
      have kf1_0_1 : w1.frozen? ⟨w.heap.size, 1, none⟩ = false := by go_simp
      clear hc1 hf1
      go_wp2_with fail
      refine (oddPrimeOk_is l false _ HO.out).mono ?_
      rintro e wx ⟨rfl, rfl⟩
      go_wp2
      go_ret2
      exact ⟨ret_int_bool HV.out.symm HB.out.symm, by (repeat (first | exact Below.refl _ _ | refine Below.setCell ?_ (by first | omega | (simp <;> omega)) _ | refine Below.alloc ?_ (by first | omega | (simp <;> omega)) _ | refine Below.drew ?_ | refine Below.trans ?_ (Below.mono (by assumption) (by first | omega | (simp <;> omega))) | refine Below.grown ?_ (by assumption) (by first | omega | (simp <;> omega)) (fun k e => by cases e; first | omega | (simp <;> omega))))⟩
    | true =>
      obtain ⟨m, rfl, hm, m2, m4, m3⟩ := oddB_true ho
      obtain ⟨x1, x2⟩ := weight_bd hp
      have hF := fittingB_odd hp ho m2 m3
      have HX := Lib.hid (weightV_is hp)
      have HPV := Lib.hid (fun h : fittingB p q m = true => placeByV_is h)
      obtain ⟨x, hx⟩ : ∃ x, p * p - 4 * q = x := ⟨_, rfl⟩
      rw [hx] at hF HX x1 x2 HPV
      obtain ⟨s, hs⟩ : ∃ s, signN x m = s := ⟨_, rfl⟩
      obtain ⟨s1, s2⟩ := signN_bd x m
      rw [hs] at hF HPV s1 s2
      obtain ⟨t, ht⟩ : ∃ t, signN q m = t := ⟨_, rfl⟩
      rw [ht] at hF
      have HP := Lib.hid hp
      have HO := Lib.hid ho
      have HS1 := Lib.hid hs
      have HT1 := Lib.hid ht
      clear hp ho hm hx hs ht
      cases hz : (s == 0) with
      | true =>
        have HB := Lib.hid (show fittingB p q m = false by rw [hF, hz]; rfl)
        have HV := Lib.hid (placeByV_no HB.out)
        obtain rfl : s = 0 := by simpa using hz
        clear hF hz HPV
        go_enter Try.func60, Try.ntmps60
        go_wp2_with fail
        refine (implWeight_is p q x true _ HX.out HP.out).mono ?_
        rintro e w1 ⟨rfl, hh1⟩
        obtain ⟨hc1, hf1⟩ := bcell hh1
        have hz1 := hh1.size
        try simp only [World.size_alloc] at hz1
        have hz1_0 : w.heap.size < w1.heap.size := by omega
        have kb1_0_0 : w1.cell? ⟨w.heap.size, 0, none⟩ = some (.int .i64 p) := by go_simp
        have kf1_0_0 : w1.frozen? ⟨w.heap.size, 0, none⟩ = false := by go_simp
        have kb1_0_1 : w1.cell? ⟨w.heap.size, 1, none⟩ = some (.int .i64 q) := by go_simp
        have kf1_0_1 : w1.frozen? ⟨w.heap.size, 1, none⟩ = false := by go_simp
        clear hc1 hf1
        go_wp2_with fail
        refine (oddPrimeOk_is _ true _ HO.out).mono ?_
        rintro e wx ⟨rfl, rfl⟩
        go_wp2_with fail
        refine (signsBy_at m _).mono ?_
        rintro e w2 ⟨P, O, S, rfl, ⟨h1, h2, h3, h4, h5⟩, hs1, hh2⟩
        obtain ⟨hc2, hf2⟩ := bcell hh2
        have hz2 := hh2.size
        try simp only [World.size_alloc] at hz2
        have hz2_0 : w.heap.size < w2.heap.size := by omega
        have kb2_0_0 : w2.cell? ⟨w.heap.size, 0, none⟩ = some (.int .i64 p) := by go_simp
        have kf2_0_0 : w2.frozen? ⟨w.heap.size, 0, none⟩ = false := by go_simp
        have kb2_0_1 : w2.cell? ⟨w.heap.size, 1, none⟩ = some (.int .i64 q) := by go_simp
        have kf2_0_1 : w2.frozen? ⟨w.heap.size, 1, none⟩ = false := by go_simp
        clear hc2 hf2
        have HS := Lib.hid hs1
        clear hs1
        go_wp2_with fail
        refine (signsFn_at x m P O S w1.heap.size _ _ HS1.out h1 h2 h3 m2 m4 HS.out h4 h5 (by omega)).mono ?_
        rintro e w3 ⟨rfl, hs3, hh3⟩
        have hz3 := hh3.size
        try simp only [World.size_alloc] at hz3
        have hz3_0 : w.heap.size < w3.heap.size := by omega
        have kb3_0_0 : w3.cell? ⟨w.heap.size, 0, none⟩ = some (.int .i64 p) := (hh3.cell (p := ⟨w.heap.size, 0, none⟩) (by show w.heap.size < w1.heap.size; omega)).trans kb2_0_0
        have kf3_0_0 : w3.frozen? ⟨w.heap.size, 0, none⟩ = false := (hh3.frozen (p := ⟨w.heap.size, 0, none⟩) (by show w.heap.size < w1.heap.size; omega)).trans kf2_0_0
        have kb3_0_1 : w3.cell? ⟨w.heap.size, 1, none⟩ = some (.int .i64 q) := (hh3.cell (p := ⟨w.heap.size, 1, none⟩) (by show w.heap.size < w1.heap.size; omega)).trans kb2_0_1
        have kf3_0_1 : w3.frozen? ⟨w.heap.size, 1, none⟩ = false := (hh3.frozen (p := ⟨w.heap.size, 1, none⟩) (by show w.heap.size < w1.heap.size; omega)).trans kf2_0_1
        have HS3 := Lib.hid hs3
        clear hs3
        go_wp2
        go_ret2
        exact ⟨ret_int_bool HV.out.symm HB.out.symm, by (repeat (first | exact Below.refl _ _ | refine Below.setCell ?_ (by first | omega | (simp <;> omega)) _ | refine Below.alloc ?_ (by first | omega | (simp <;> omega)) _ | refine Below.drew ?_ | refine Below.trans ?_ (Below.mono (by assumption) (by first | omega | (simp <;> omega))) | refine Below.grown ?_ (by assumption) (by first | omega | (simp <;> omega)) (fun k e => by cases e; first | omega | (simp <;> omega))))⟩
      | false =>
        cases hz2 : (t == 0) with
        | true =>
          have HB := Lib.hid (show fittingB p q m = false by rw [hF, hz, hz2]; rfl)
          have HV := Lib.hid (placeByV_no HB.out)
          obtain rfl : t = 0 := by simpa using hz2
          clear hF hz2 HPV
          go_enter Try.func60, Try.ntmps60
          go_wp2_with fail
          refine (implWeight_is p q x true _ HX.out HP.out).mono ?_
          rintro e w1 ⟨rfl, hh1⟩
          obtain ⟨hc1, hf1⟩ := bcell hh1
          have hz1 := hh1.size
          try simp only [World.size_alloc] at hz1
          have hz1_0 : w.heap.size < w1.heap.size := by omega
          have kb1_0_0 : w1.cell? ⟨w.heap.size, 0, none⟩ = some (.int .i64 p) := by go_simp
          have kf1_0_0 : w1.frozen? ⟨w.heap.size, 0, none⟩ = false := by go_simp
          have kb1_0_1 : w1.cell? ⟨w.heap.size, 1, none⟩ = some (.int .i64 q) := by go_simp
          have kf1_0_1 : w1.frozen? ⟨w.heap.size, 1, none⟩ = false := by go_simp
          clear hc1 hf1
          go_wp2_with fail
          refine (oddPrimeOk_is _ true _ HO.out).mono ?_
          rintro e wx ⟨rfl, rfl⟩
          go_wp2_with fail
          refine (signsBy_at m _).mono ?_
          rintro e w2 ⟨P, O, S, rfl, ⟨h1, h2, h3, h4, h5⟩, hs1, hh2⟩
          obtain ⟨hc2, hf2⟩ := bcell hh2
          have hz2 := hh2.size
          try simp only [World.size_alloc] at hz2
          have hz2_0 : w.heap.size < w2.heap.size := by omega
          have kb2_0_0 : w2.cell? ⟨w.heap.size, 0, none⟩ = some (.int .i64 p) := by go_simp
          have kf2_0_0 : w2.frozen? ⟨w.heap.size, 0, none⟩ = false := by go_simp
          have kb2_0_1 : w2.cell? ⟨w.heap.size, 1, none⟩ = some (.int .i64 q) := by go_simp
          have kf2_0_1 : w2.frozen? ⟨w.heap.size, 1, none⟩ = false := by go_simp
          clear hc2 hf2
          have HS := Lib.hid hs1
          clear hs1
          go_wp2_with fail
          refine (signsFn_at x m P O S w1.heap.size _ _ HS1.out h1 h2 h3 m2 m4 HS.out h4 h5 (by omega)).mono ?_
          rintro e w3 ⟨rfl, hs3, hh3⟩
          have hz3 := hh3.size
          try simp only [World.size_alloc] at hz3
          have hz3_0 : w.heap.size < w3.heap.size := by omega
          have kb3_0_0 : w3.cell? ⟨w.heap.size, 0, none⟩ = some (.int .i64 p) := (hh3.cell (p := ⟨w.heap.size, 0, none⟩) (by show w.heap.size < w1.heap.size; omega)).trans kb2_0_0
          have kf3_0_0 : w3.frozen? ⟨w.heap.size, 0, none⟩ = false := (hh3.frozen (p := ⟨w.heap.size, 0, none⟩) (by show w.heap.size < w1.heap.size; omega)).trans kf2_0_0
          have kb3_0_1 : w3.cell? ⟨w.heap.size, 1, none⟩ = some (.int .i64 q) := (hh3.cell (p := ⟨w.heap.size, 1, none⟩) (by show w.heap.size < w1.heap.size; omega)).trans kb2_0_1
          have kf3_0_1 : w3.frozen? ⟨w.heap.size, 1, none⟩ = false := (hh3.frozen (p := ⟨w.heap.size, 1, none⟩) (by show w.heap.size < w1.heap.size; omega)).trans kf2_0_1
          have HS3 := Lib.hid hs3
          clear hs3
          go_wp2_with fail
          refine (signsFn_at q m P O S w1.heap.size _ _ HT1.out h1 h2 h3 m2 m4 HS3.out h4 h5 (by omega)).mono ?_
          rintro e w4 ⟨rfl, hs4, hh4⟩
          have hz4 := hh4.size
          try simp only [World.size_alloc] at hz4
          have hz4_0 : w.heap.size < w4.heap.size := by omega
          have kb4_0_0 : w4.cell? ⟨w.heap.size, 0, none⟩ = some (.int .i64 p) := (hh4.cell (p := ⟨w.heap.size, 0, none⟩) (by show w.heap.size < w1.heap.size; omega)).trans kb3_0_0
          have kf4_0_0 : w4.frozen? ⟨w.heap.size, 0, none⟩ = false := (hh4.frozen (p := ⟨w.heap.size, 0, none⟩) (by show w.heap.size < w1.heap.size; omega)).trans kf3_0_0
          have kb4_0_1 : w4.cell? ⟨w.heap.size, 1, none⟩ = some (.int .i64 q) := (hh4.cell (p := ⟨w.heap.size, 1, none⟩) (by show w.heap.size < w1.heap.size; omega)).trans kb3_0_1
          have kf4_0_1 : w4.frozen? ⟨w.heap.size, 1, none⟩ = false := (hh4.frozen (p := ⟨w.heap.size, 1, none⟩) (by show w.heap.size < w1.heap.size; omega)).trans kf3_0_1
          clear hs4
          go_wp2
          go_ret2
          exact ⟨ret_int_bool HV.out.symm HB.out.symm, by (repeat (first | exact Below.refl _ _ | refine Below.setCell ?_ (by first | omega | (simp <;> omega)) _ | refine Below.alloc ?_ (by first | omega | (simp <;> omega)) _ | refine Below.drew ?_ | refine Below.trans ?_ (Below.mono (by assumption) (by first | omega | (simp <;> omega))) | refine Below.grown ?_ (by assumption) (by first | omega | (simp <;> omega)) (fun k e => by cases e; first | omega | (simp <;> omega))))⟩
        | false =>
          have HB := Lib.hid (show fittingB p q m = true by rw [hF, hz, hz2]; rfl)
          have HV := Lib.hid (HPV.out HB.out)
          clear hF HPV
          go_enter Try.func60, Try.ntmps60
          go_wp2_with fail
          refine (implWeight_is p q x true _ HX.out HP.out).mono ?_
          rintro e w1 ⟨rfl, hh1⟩
          obtain ⟨hc1, hf1⟩ := bcell hh1
          have hz1 := hh1.size
          try simp only [World.size_alloc] at hz1
          have hz1_0 : w.heap.size < w1.heap.size := by omega
          have kb1_0_0 : w1.cell? ⟨w.heap.size, 0, none⟩ = some (.int .i64 p) := by go_simp
          have kf1_0_0 : w1.frozen? ⟨w.heap.size, 0, none⟩ = false := by go_simp
          have kb1_0_1 : w1.cell? ⟨w.heap.size, 1, none⟩ = some (.int .i64 q) := by go_simp
          have kf1_0_1 : w1.frozen? ⟨w.heap.size, 1, none⟩ = false := by go_simp
          clear hc1 hf1
          go_wp2_with fail
          refine (oddPrimeOk_is _ true _ HO.out).mono ?_
          rintro e wx ⟨rfl, rfl⟩
          go_wp2_with fail
          refine (signsBy_at m _).mono ?_
          rintro e w2 ⟨P, O, S, rfl, ⟨h1, h2, h3, h4, h5⟩, hs1, hh2⟩
          obtain ⟨hc2, hf2⟩ := bcell hh2
          have hz2 := hh2.size
          try simp only [World.size_alloc] at hz2
          have hz2_0 : w.heap.size < w2.heap.size := by omega
          have kb2_0_0 : w2.cell? ⟨w.heap.size, 0, none⟩ = some (.int .i64 p) := by go_simp
          have kf2_0_0 : w2.frozen? ⟨w.heap.size, 0, none⟩ = false := by go_simp
          have kb2_0_1 : w2.cell? ⟨w.heap.size, 1, none⟩ = some (.int .i64 q) := by go_simp
          have kf2_0_1 : w2.frozen? ⟨w.heap.size, 1, none⟩ = false := by go_simp
          clear hc2 hf2
          have HS := Lib.hid hs1
          clear hs1
          go_wp2_with fail
          refine (signsFn_at x m P O S w1.heap.size _ _ HS1.out h1 h2 h3 m2 m4 HS.out h4 h5 (by omega)).mono ?_
          rintro e w3 ⟨rfl, hs3, hh3⟩
          have hz3 := hh3.size
          try simp only [World.size_alloc] at hz3
          have hz3_0 : w.heap.size < w3.heap.size := by omega
          have kb3_0_0 : w3.cell? ⟨w.heap.size, 0, none⟩ = some (.int .i64 p) := (hh3.cell (p := ⟨w.heap.size, 0, none⟩) (by show w.heap.size < w1.heap.size; omega)).trans kb2_0_0
          have kf3_0_0 : w3.frozen? ⟨w.heap.size, 0, none⟩ = false := (hh3.frozen (p := ⟨w.heap.size, 0, none⟩) (by show w.heap.size < w1.heap.size; omega)).trans kf2_0_0
          have kb3_0_1 : w3.cell? ⟨w.heap.size, 1, none⟩ = some (.int .i64 q) := (hh3.cell (p := ⟨w.heap.size, 1, none⟩) (by show w.heap.size < w1.heap.size; omega)).trans kb2_0_1
          have kf3_0_1 : w3.frozen? ⟨w.heap.size, 1, none⟩ = false := (hh3.frozen (p := ⟨w.heap.size, 1, none⟩) (by show w.heap.size < w1.heap.size; omega)).trans kf2_0_1
          have HS3 := Lib.hid hs3
          clear hs3
          go_wp2_with fail
          refine (signsFn_at q m P O S w1.heap.size _ _ HT1.out h1 h2 h3 m2 m4 HS3.out h4 h5 (by omega)).mono ?_
          rintro e w4 ⟨rfl, hs4, hh4⟩
          have hz4 := hh4.size
          try simp only [World.size_alloc] at hz4
          have hz4_0 : w.heap.size < w4.heap.size := by omega
          have kb4_0_0 : w4.cell? ⟨w.heap.size, 0, none⟩ = some (.int .i64 p) := (hh4.cell (p := ⟨w.heap.size, 0, none⟩) (by show w.heap.size < w1.heap.size; omega)).trans kb3_0_0
          have kf4_0_0 : w4.frozen? ⟨w.heap.size, 0, none⟩ = false := (hh4.frozen (p := ⟨w.heap.size, 0, none⟩) (by show w.heap.size < w1.heap.size; omega)).trans kf3_0_0
          have kb4_0_1 : w4.cell? ⟨w.heap.size, 1, none⟩ = some (.int .i64 q) := (hh4.cell (p := ⟨w.heap.size, 1, none⟩) (by show w.heap.size < w1.heap.size; omega)).trans kb3_0_1
          have kf4_0_1 : w4.frozen? ⟨w.heap.size, 1, none⟩ = false := (hh4.frozen (p := ⟨w.heap.size, 1, none⟩) (by show w.heap.size < w1.heap.size; omega)).trans kf3_0_1
          clear hs4
          go_wp2
          go_ret2
          exact ⟨ret_int_bool HV.out.symm HB.out.symm, by (repeat (first | exact Below.refl _ _ | refine Below.setCell ?_ (by first | omega | (simp <;> omega)) _ | refine Below.alloc ?_ (by first | omega | (simp <;> omega)) _ | refine Below.drew ?_ | refine Below.trans ?_ (Below.mono (by assumption) (by first | omega | (simp <;> omega))) | refine Below.grown ?_ (by assumption) (by first | omega | (simp <;> omega)) (fun k e => by cases e; first | omega | (simp <;> omega))))⟩
theorem implPlaceBy_val (p q m v : Int) (c : Bool) (w : World) (hv : placeByV p q m = v) (hc : fittingB p q m = c) : Calls Try.prog 60 #[pr p q, .int .i64 m] w fun e w' => e = .returned (.tuple #[.int .i64 v, .bool c]) ∧ Below w.heap.size w w' := by rw [← hv, ← hc]; exact implPlaceBy_any p q m w
set_option maxHeartbeats 1000000 in
theorem implFitting_any (p q l : Int) (w : World) : Calls Try.prog 24 #[pr p q, .int .i64 l] w fun e w' => e = .returned (.bool (fittingB p q l)) ∧ Below w.heap.size w w' := by
  go_enter Try.func24, Try.ntmps24
  go_wp2_with fail
  refine (implPlaceBy_any p q l _).mono ?_
  rintro e w1 ⟨rfl, hh1⟩
  obtain ⟨hc1, hf1⟩ := bcell hh1
  have hz1 := hh1.size
  try simp only [World.size_alloc] at hz1
  go_wp2
  go_ret
  exact ⟨rfl, by (repeat (first | exact Below.refl _ _ | refine Below.setCell ?_ (by first | omega | (simp <;> omega)) _ | refine Below.alloc ?_ (by first | omega | (simp <;> omega)) _ | refine Below.drew ?_ | refine Below.trans ?_ (Below.mono (by assumption) (by first | omega | (simp <;> omega))) | refine Below.grown ?_ (by assumption) (by first | omega | (simp <;> omega)) (fun k e => by cases e; first | omega | (simp <;> omega))))⟩
theorem region_named {P : Program} {Q : Exit → Act → World → Prop} {c : Code} {a : Act} {w : World} (h : ∀ W, W = w → c.wp P Q a W) : c.wp P Q a w := h w rfl
end Go.Proofs.Ytmliglakfbeedaa
namespace Go.Proofs.Ytmliglakfbeedaa
open Go.RowKit
set_option maxRecDepth 100000 in
set_option maxHeartbeats 16000000 in
theorem l20Tested_any (R k : Nat) (w : World) (h : Rd w R k) (hk : k ≤ 900000) :
    Calls Try.prog 47 #[.pointer (some ⟨R, 0, none⟩)] w (NumberDrawn w R k 9) := by
  have hRlt := h.lt
  have hsel := six_at
  go_enter Try.func47, Try.ntmps47
  go_wp2_with fail
  go_region_with ((first | (go_at_call 37; refine (pick_any R _ _ _ (by first | assumption | exact Rd.alloc (by assumption) _ | exact Rd.below (by assumption) (by assumption) (Nat.le_refl _)) (by omega) (by omega)).mono ?_; rintro e wz ⟨v, rfl, va, vb, hRz, hhz⟩; (try (have vq : v ≤ 11 := (by omega); have vq0 : 0 ≤ v / 2 := (by omega); have vq1 : v / 2 < 6 := (by omega); have vt : v.tdiv 2 = v / 2 := Int.tdiv_eq_ediv_of_nonneg va; have vw : IntKind.i64.wrap (v / 2) = v / 2 := (by rw [IntKind.wrap_i64]; omega))); clear vb; obtain ⟨hcz, hfz⟩ := gcell hhz; have hst := fun b (h : b < _) => Nat.lt_of_lt_of_le h hhz.size; have hzz := hhz.size; (try simp at hzz); (try have hzs := Nat.lt_of_succ_le hzz); have hne : ¬ wz.heap.size = R := (by have := hRz.lt; omega)) | (go_at_call 72; refine (l20Prime_any R _ _ (by first | assumption | exact Rd.alloc (by assumption) _ | exact Rd.below (by assumption) (by assumption) (Nat.le_refl _)) (by omega)).mono ?_; rintro e wz ⟨v, rfl, hRz, hhz⟩; obtain ⟨hcz, hfz⟩ := gcell hhz; have hst := fun b (h : b < _) => Nat.lt_of_lt_of_le h hhz.size; have hzz := hhz.size; (try simp at hzz); (try have hzs := Nat.lt_of_succ_le hzz); have hne : ¬ wz.heap.size = R := (by have := hRz.lt; omega)) | fail))
  all_goals go_wp2
  all_goals go_ret
  all_goals exact ⟨_, rfl, Rd.mono (by first | assumption | exact Rd.alloc (by assumption) _ | exact Rd.below (by assumption) (by assumption) (Nat.le_refl _)) (by omega), by (repeat (first | exact gr_refl _ _ | refine gr_drew ?_ | refine gr_alloc ?_ _ | refine gr_trans ?_ (by assumption)))⟩
end Go.Proofs.Ytmliglakfbeedaa
namespace Go.Proofs.Ytmliglakfbeedaa
open Go.RowKit Go.Shelf
attribute [local go_sem] Oper.semAt_some
set_option maxHeartbeats 400000 in
theorem primePowers_any (k : Int) (w : World) :
    Calls Try.prog 82 #[.int .i64 k] w fun e w' => e = .returned (.func (.func 92) #[] #[.pointer (some ⟨w.heap.size, 0, none⟩)]) ∧ w' = w.alloc (.cells #[.int .i64 k] 3) := by
  have hmf : ∀ (fn : Fn) (first cap : Array Value) (w : World), (Instr.makeFunc fn first cap).run Try.prog w = .ok (.func fn first cap) w := fun _ _ _ _ => rfl
  go_enter Try.func82, Try.ntmps82
  go_wp2
  go_ret
  exact ⟨rfl, rfl⟩
set_option maxHeartbeats 4000000 in
theorem primePowers_counted (n : Nat) (hn : 1 ≤ n) (m B : Nat) (w : World) (m1 : 1 ≤ m) (m2 : m ≤ 10000) :
    Counted Fence.wide n Try.prog 92 #[.pointer (some ⟨B, 0, none⟩)] (fun k => #[.int .i64 ((ppL m).getD k 0 : Nat)]) (fun V => V.cell? ⟨B, 0, none⟩ = some (.int .i64 m)) (ppL m).length w := by
  intro l J X W hW hJ hX hKp hY h0
  have c0 := hKp 0 W h0
  refine callsIn_of_wp Try.func92 rfl trivial ?_ rfl
  simp only [Try.ntmps92, List.size_toArray, List.length_cons, List.length_nil, Nat.reduceAdd, Nat.reduceSub, Array.replicate_succ, Array.replicate_zero, List.push_toArray, List.append_toArray, List.nil_append, List.cons_append]
  gi_wp2
  clear c0
  gi_loopg [3, 4, 5] m (fun r x y _ wr => ∃ p s k : Nat, p + r = m + 2 ∧ x = .int .i64 s ∧ y = .int .i64 p ∧ PPState m k p s ∧ J k wr)
  case atStart => exact ⟨2, m, 0, by omega, rfl, rfl, PPState.start m1, h0⟩
  case round =>
    obtain ⟨p, s, k, hpr, rfl, rfl, hst, hj⟩ := hrel
    obtain ⟨g0, hg0⟩ : ∃ g0, gk = g0 := ⟨_, rfl⟩
    have p2 := hst.1
    have s1 := hst.2.1
    have s2 := hst.2.2.1
    by_cases hs : 1 < s
    · have hps := hst.big hs
      have hd : decide ((1 : Int) < (s : Int)) = true := by simp; omega
      have hz : ((p : Int) == 0) = false := by simp; omega
      have HST := Lib.hid hst
      clear hst
      gi_wp2
      gi_loopg [3, 5] s (fun r x y wr => ∃ t u : Nat, t = r ∧ x = .int .i64 t ∧ y = .int .i64 u ∧ PowState p s t u ∧ J k wr)
      case atStart => exact ⟨s, 1, rfl, rfl, rfl, PowState.start s1, hj⟩
      case round =>
        obtain ⟨t, u, rfl, rfl, rfl, hpw, hj'⟩ := hrel
        obtain ⟨t2, u2⟩ := hpw.bd
        have t1 := hpw.1.1
        have HPW := Lib.hid hpw
        clear hpw
        by_cases hdv : p ∣ t
        · have hT : ((t : Int) % (p : Int) == 0) = true := by rw [div_test]; simpa using hdv
          have hlt : t / p < t := Nat.div_lt_self t1 p2
          have HN := Lib.hid (HPW.out.next p2 (Nat.mod_eq_zero_of_dvd hdv))
          obtain ⟨c, hc⟩ : ∃ c, t / p = c := ⟨_, rfl⟩
          have EC := Lib.hid (show (t : Int) / (p : Int) = (c : Int) by rw [← hc]; simp)
          rw [hc] at HN hlt
          obtain ⟨hb1, hb2⟩ := HN.out.bd
          have EM := Lib.hid (show (u : Int) * (p : Int) = ((u * p : Nat) : Int) by simp)
          have U1 : IntKind.i64.wrap ((u : Int) * (p : Int)) = (u : Int) * (p : Int) := by rw [EM.out, IntKind.wrap_i64]; omega
          have U2 : IntKind.i64.wrap ((t : Int) / (p : Int)) = (t : Int) / (p : Int) := by rw [EC.out, IntKind.wrap_i64]; omega
          clear hdv hb1 hb2 hc
          gi_wp2
          gi_roundg c
          case measure => omega
          case rel => exact ⟨c, u * p, rfl, congrArg (Value.int .i64) EC.out, congrArg (Value.int .i64) EM.out, HN.out, hj'⟩
        · have hT : ((t : Int) % (p : Int) == 0) = false := by rw [div_test]; simpa using hdv
          obtain ⟨e1, e2⟩ := HPW.out.done (fun h => hdv (Nat.dvd_of_mod_eq_zero h))
          by_cases hw : 1 < u
          · obtain ⟨hk, hg, hst'⟩ := HST.out.yes hs (by rw [← e1]; exact hw)
            rw [← e1] at hg
            rw [← e2] at hst'
            obtain ⟨fn, tmps, assign, body, hy, hR⟩ := hY k _ hk hj'
            simp only [hg] at hy
            have HS := Lib.hid hst'
            clear hg hst' e1 e2 hdv HPW HST
            gi_wp2
            refine hR.mono ?_
            rintro e W3 (⟨rfl, hj3⟩ | ⟨rfl, hx3⟩)
            · gi_wp2
              gi_roundg (g0 - 1)
              case measure => omega
              case rel => exact ⟨p + 1, t, k + 1, by omega, rfl, congrArg (Value.int .i64) (by omega), HS.out, hj3⟩
            · gi_wp2
              refine bodyPost_ret (results_none rfl _ _ _) rfl ?_
              exact ⟨⟨_, rfl⟩, .inr ⟨k, hk, hx3⟩⟩
          · have hst' := HST.out.no hs (by rw [← e1]; exact hw)
            rw [← e2] at hst'
            have HS := Lib.hid hst'
            have hw' : u ≤ 1 := by omega
            clear hst' e1 e2 hdv HPW HST hw
            gi_wp2
            refine ⟨fun f e => (by cases e), ?_⟩
            gi_wp2
            gi_roundg (g0 - 1)
            case measure => omega
            case rel => exact ⟨p + 1, t, k, by omega, rfl, congrArg (Value.int .i64) (by omega), HS.out, hj'⟩
    · have he := hst.done hs
      rw [he] at hj
      have hs' : s ≤ 1 := by omega
      clear hst he hs
      gi_wp2
      go_end0
      exact ⟨⟨_, rfl⟩, .inl hj⟩
end Go.Proofs.Ytmliglakfbeedaa
namespace Go.Proofs.Ytmliglakfbeedaa
open Go.RowKit
theorem hold_at (B : Nat → Bool) (n i : Nat) (h : i < (holdL B n).length) : (holdL B n).getD i 0 < n ∧ B ((holdL B n).getD i 0) = true := by
  have hm : (holdL B n).getD i 0 ∈ holdL B n := by
    simp only [List.getD_eq_getElem?_getD, List.getElem?_eq_getElem h, Option.getD_some]
    exact List.getElem_mem h
  simpa [holdL] using hm
theorem hold_has {B : Nat → Bool} {n x : Nat} (hx : x < n) (hb : B x = true) : ∃ i, i < (holdL B n).length ∧ (holdL B n).getD i 0 = x := by
  have hm : x ∈ holdL B n := by simp [holdL, hx, hb]
  obtain ⟨i, hi, he⟩ := List.getElem_of_mem hm
  exact ⟨i, hi, by simp only [List.getD_eq_getElem?_getD, List.getElem?_eq_getElem hi, Option.getD_some]; exact he⟩
theorem hold_lt (B : Nat → Bool) (n i j : Nat) (hij : i < j) (h : j < (holdL B n).length) : (holdL B n).getD i 0 < (holdL B n).getD j 0 := by
  have hp : (holdL B n).Pairwise (· < ·) := List.Pairwise.filter _ List.pairwise_lt_range
  have := List.pairwise_iff_getElem.1 hp i j (by omega) h hij
  simpa only [List.getD_eq_getElem?_getD, List.getElem?_eq_getElem h, List.getElem?_eq_getElem (show i < (holdL B n).length by omega), Option.getD_some] using this
/-- What a list of places keeps: they are from 1 to 20 and ascend; multiples are told; of a pair that is apart all are multiples of the first one. -/
def PlacesOk (p q : Int) (L : List Nat) : Prop :=
  L.length ≤ 21 ∧ (∀ i, i < L.length → 1 ≤ L.getD i 0 ∧ L.getD i 0 ≤ 20) ∧ (∀ i, i + 1 < L.length → L.getD i 0 < L.getD (i + 1) 0) ∧
  (∀ i t, i < L.length → 1 ≤ t → t * L.getD i 0 ≤ 20 → ∃ j, j < L.length ∧ L.getD j 0 = t * L.getD i 0) ∧
  (apartB p q = true → ∀ i, i < L.length → L.getD i 0 % L.getD 0 0 = 0)
theorem placesOk_nil (p q : Int) : PlacesOk p q [] := ⟨by simp, fun i h => by simp at h, fun i h => by simp at h, fun i t h => by simp at h, fun _ i h => by simp at h⟩
theorem placesOk_div (p q d : Int) : PlacesOk p q (holdL (divB p q d) 21) := by
  have at_ := fun i h => hold_at (divB p q d) 21 i h
  have one : ∀ j, divB p q d j = true → 1 ≤ j ∧ d ∣ row p q 0 1 j := fun j h => by simpa [divB] using h
  refine ⟨holdL_len _ _, fun i h => ?_, fun i h => hold_lt _ _ _ _ (by omega) h, fun i t h ht hm => ?_, fun ha i h => ?_⟩
  · obtain ⟨h1, h2⟩ := at_ i h
    exact ⟨(one _ h2).1, by omega⟩
  · obtain ⟨h1, h2⟩ := at_ i h
    obtain ⟨h3, h4⟩ := one _ h2
    refine hold_has (by omega) ?_
    have h5 : 1 ≤ t * (holdL (divB p q d) 21).getD i 0 := Nat.mul_pos ht h3
    have h6 : d ∣ row p q 0 1 (t * (holdL (divB p q d) 21).getD i 0) := by rw [Nat.mul_comm]; exact Int.dvd_trans h4 (row_dvd p q _ t)
    simp only [divB, Bool.and_eq_true, decide_eq_true_iff]
    exact ⟨h5, h6⟩
  · obtain ⟨a1, a2⟩ := at_ 0 (by omega)
    obtain ⟨a3, a4⟩ := one _ a2
    obtain ⟨b1, b2⟩ := at_ i h
    obtain ⟨b3, b4⟩ := one _ b2
    have hap : Apart d q := by
      obtain ⟨r, hr⟩ : ∃ r, (holdL (divB p q d) 21).getD 0 0 = r + 1 := ⟨(holdL (divB p q d) 21).getD 0 0 - 1, by omega⟩
      rw [hr] at a4
      exact (row_apart (apartB_apart ha).2 r).of_dvd a4
    refine Nat.mod_eq_zero_of_dvd ((rank_dvd hap a3 a4 (fun s s1 s2 hd => ?_) _ _ (Nat.le_refl _)).1 b4)
    obtain ⟨j, hj, he⟩ := hold_has (B := divB p q d) (n := 21) (x := s) (by omega) (by simp [divB, s1, hd])
    by_cases h0 : j = 0
    · subst h0; omega
    · have := hold_lt (divB p q d) 21 0 j (by omega) hj
      omega
theorem zerosL_ok (p q : Int) : PlacesOk p q (zerosL p q) := by
  rw [zerosL]; split
  · exact placesOk_div p q 0
  · exact placesOk_nil p q
theorem dividedL_ok (p q m : Int) : PlacesOk p q (dividedL p q m) := by
  rw [dividedL]; split
  · exact placesOk_div p q m
  · exact placesOk_nil p q
end Go.Proofs.Ytmliglakfbeedaa
