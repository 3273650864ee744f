/- Contracts and laws that the statement's proof stands on, one text behind the other. -/
import Derived.Test.YtpogmnkedohdcaaAll0a
import Derived.Sort.QuietIn
import Derived.KernelRfl
import Derived.BigQuiet

namespace Go.Proofs.Ytpogmnkedohdcaa
open Go.RowKit
theorem l1In_yes (n a b : Int) (w : World) (h : inB n a b = true) : Calls Try.prog 38 #[.int .i64 n, .int .i64 a, .int .i64 b] w fun e w' => e = .returned (.bool true) ∧ w = w' := by have := l1In_any n a b w; rw [h] at this; exact this
theorem l1In_no (n a b : Int) (w : World) (h : inB n a b = false) : Calls Try.prog 38 #[.int .i64 n, .int .i64 a, .int .i64 b] w fun e w' => e = .returned (.bool false) ∧ w = w' := by have := l1In_any n a b w; rw [h] at this; exact this
/-- Whether AtSum tells a number; and which, 0 where it tells none. -/
def atSumB (p q : Int) (a b : Int) : Bool := pairB p q && (inB a 1 10 && inB b 0 9)
def atSumV (p q : Int) (a b : Int) : Int := if atSumB p q a b = true then row p q 0 1 (a.toNat + b.toNat) else 0
/-- Whether AtTwice tells a number; and which, 0 where it tells none. -/
def atTwiceB (p q : Int) (n : Int) : Bool := pairB p q && inB n 0 10
def atTwiceV (p q : Int) (n : Int) : Int := if atTwiceB p q n = true then row p q 0 1 (2 * n.toNat) else 0
/-- Whether AboutOf tells a number; and which, 0 where it tells none. -/
def aboutOfB (p q : Int) (n r : Int) : Bool := pairB p q && (inB n 0 10 && inB r 0 n)
def aboutOfV (p q : Int) (n r : Int) : Int := if aboutOfB p q n r = true then q ^ (n - r).toNat * row p q 0 1 r.toNat * row p q 0 1 r.toNat else 0
/-- Whether SumTo tells a number; and which, 0 where it tells none. -/
def sumToB (p q : Int) (n : Int) : Bool := pairB p q && inB n 0 19
def sumToV (p q : Int) (n : Int) : Int := if sumToB p q n = true then rowSum p q (n.toNat + 1) else 0
theorem atSumB_true {p q a b : Int} (h : atSumB p q a b = true) : pairB p q = true ∧ ∃ i j : Nat, a = (i : Int) + 1 ∧ b = j ∧ i ≤ 9 ∧ j ≤ 9 := by
  have h' : pairB p q = true ∧ inB a 1 10 = true ∧ inB b 0 9 = true := by simpa [atSumB] using h
  obtain ⟨hp, ha, hb⟩ := h'
  obtain ⟨a1, a2⟩ := inB_true ha
  obtain ⟨b1, b2⟩ := inB_true hb
  exact ⟨hp, (a - 1).toNat, b.toNat, by omega, by omega, by omega, by omega⟩
theorem atTwiceB_true {p q n : Int} (h : atTwiceB p q n = true) : pairB p q = true ∧ ∃ i : Nat, n = i ∧ i ≤ 10 := by
  have h' : pairB p q = true ∧ inB n 0 10 = true := by simpa [atTwiceB] using h
  obtain ⟨hp, ha⟩ := h'
  obtain ⟨a1, a2⟩ := inB_true ha
  exact ⟨hp, n.toNat, by omega, by omega⟩
theorem aboutOfB_true {p q n r : Int} (h : aboutOfB p q n r = true) : pairB p q = true ∧ ∃ d k : Nat, n = (d : Int) + k ∧ r = k ∧ d + k ≤ 10 := by
  have h' : pairB p q = true ∧ inB n 0 10 = true ∧ inB r 0 n = true := by simpa [aboutOfB] using h
  obtain ⟨hp, ha, hb⟩ := h'
  obtain ⟨a1, a2⟩ := inB_true ha
  obtain ⟨b1, b2⟩ := inB_true hb
  exact ⟨hp, (n - r).toNat, r.toNat, by omega, by omega, by omega⟩
theorem sumToB_true {p q n : Int} (h : sumToB p q n = true) : pairB p q = true ∧ ∃ i : Nat, n = i ∧ i ≤ 19 := by
  have h' : pairB p q = true ∧ inB n 0 19 = true := by simpa [sumToB] using h
  obtain ⟨hp, ha⟩ := h'
  obtain ⟨a1, a2⟩ := inB_true ha
  exact ⟨hp, n.toNat, by omega, by omega⟩
theorem atSumV_is (p q : Int) (i j : Nat) (h : atSumB p q ((i : Int) + 1) j = true) : atSumV p q ((i : Int) + 1) j = row p q 0 1 (i + 1 + j) := by
  rw [atSumV, if_pos h, show ((i : Int) + 1).toNat = i + 1 by omega, show ((j : Int)).toNat = j by omega]
theorem atTwiceV_is (p q : Int) (i : Nat) (h : atTwiceB p q i = true) : atTwiceV p q i = row p q 0 1 (2 * i) := by
  rw [atTwiceV, if_pos h, show ((i : Int)).toNat = i by omega]
theorem aboutOfV_is (p q : Int) (d k : Nat) (h : aboutOfB p q ((d : Int) + k) k = true) : aboutOfV p q ((d : Int) + k) k = q ^ d * row p q 0 1 k * row p q 0 1 k := by
  rw [aboutOfV, if_pos h, show ((d : Int) + k - k).toNat = d by omega, show ((k : Int)).toNat = k by omega]
theorem sumToV_is (p q : Int) (i : Nat) (h : sumToB p q i = true) : sumToV p q i = rowSum p q (i + 1) := by
  rw [sumToV, if_pos h, show ((i : Int)).toNat = i by omega]
end Go.Proofs.Ytpogmnkedohdcaa
namespace Go.Proofs.Ytpogmnkedohdcaa
open Go.RowKit
/-- Whether a pair is apart; what two places share; the quotient at a multiple of a place. -/
def apartB (p q : Int) : Bool := pairB p q && decide (Int.gcd p q = 1)
def sharedB (p q a b : Int) : Bool := pairB p q && (inB a 1 20 && inB b 1 20)
def sharedV (p q a b : Int) : Int := if sharedB p q a b = true then (Int.gcd (row p q 0 1 a.toNat) (row p q 0 1 b.toNat) : Int) else -1
def quotB (p q n t : Int) : Bool := pairB p q && (inB n 1 20 && (decide (1 ≤ t) && (decide (n * t ≤ 20) && (row p q 0 1 n.toNat != 0))))
def quotV (p q n t : Int) : Int := if quotB p q n t = true then (row p q 0 1 (n * t).toNat).tdiv (row p q 0 1 n.toNat) else 0
theorem sharedB_true {p q a b : Int} (h : sharedB p q a b = true) : pairB p q = true ∧ ∃ i j : Nat, a = (i : Int) + 1 ∧ b = (j : Int) + 1 ∧ i ≤ 19 ∧ j ≤ 19 := by
  have h' : pairB p q = true ∧ inB a 1 20 = true ∧ inB b 1 20 = true := by simpa [sharedB] using h
  obtain ⟨hp, ha, hb⟩ := h'
  obtain ⟨a1, a2⟩ := inB_true ha
  obtain ⟨b1, b2⟩ := inB_true hb
  exact ⟨hp, (a - 1).toNat, (b - 1).toNat, by omega, by omega, by omega, by omega⟩
theorem sharedB_ways {p q a b : Int} (h : sharedB p q a b = false) : pairB p q = false ∨ (pairB p q = true ∧ inB a 1 20 = false) ∨ (pairB p q = true ∧ inB a 1 20 = true ∧ inB b 1 20 = false) := by
  cases hp : pairB p q with
  | false => exact .inl rfl
  | true =>
    cases ha : inB a 1 20 with
    | false => exact .inr (.inl ⟨rfl, rfl⟩)
    | true => exact .inr (.inr ⟨rfl, rfl, by simpa [sharedB, hp, ha] using h⟩)
theorem times_bd {n t : Nat} (h : (n + 1) * (t + 1) ≤ 20) : n ≤ 19 ∧ t ≤ 19 := by
  constructor
  · have := Nat.le_mul_of_pos_right (n + 1) (show 0 < t + 1 by omega); omega
  · have := Nat.le_mul_of_pos_left (t + 1) (show 0 < n + 1 by omega); omega
theorem quotB_true {p q n t : Int} (h : quotB p q n t = true) : pairB p q = true ∧ ∃ i j : Nat, n = (i : Int) + 1 ∧ t = (j : Int) + 1 ∧ (i + 1) * (j + 1) ≤ 20 ∧ row p q 0 1 (i + 1) ≠ 0 := by
  have h' : pairB p q = true ∧ inB n 1 20 = true ∧ 1 ≤ t ∧ n * t ≤ 20 ∧ ¬ row p q 0 1 n.toNat = 0 := by simpa [quotB] using h
  obtain ⟨hp, ha, ht, hm, hr⟩ := h'
  obtain ⟨a1, a2⟩ := inB_true ha
  obtain ⟨i, rfl⟩ : ∃ i : Nat, n = (i : Int) + 1 := ⟨(n - 1).toNat, by omega⟩
  obtain ⟨j, rfl⟩ : ∃ j : Nat, t = (j : Int) + 1 := ⟨(t - 1).toNat, by omega⟩
  refine ⟨hp, i, j, rfl, rfl, ?_, hr⟩
  have : (((i + 1) * (j + 1) : Nat) : Int) ≤ 20 := by simpa using hm
  omega
theorem quotV_is {p q : Int} {i j : Nat} (h : quotB p q ((i : Int) + 1) ((j : Int) + 1) = true) : quotV p q ((i : Int) + 1) ((j : Int) + 1) = (row p q 0 1 ((i + 1) * (j + 1))).tdiv (row p q 0 1 (i + 1)) := by
  rw [quotV, if_pos h]
  have e : (((i : Int) + 1) * ((j : Int) + 1)).toNat = (i + 1) * (j + 1) := by
    have : ((i : Int) + 1) * ((j : Int) + 1) = (((i + 1) * (j + 1) : Nat) : Int) := by simp
    omega
  rw [e]; rfl
theorem tdiv_bd {a b : Int} (h1 : -95367431640625 ≤ a) (h2 : a ≤ 95367431640625) : -95367431640625 ≤ a.tdiv b ∧ a.tdiv b ≤ 95367431640625 := by
  have h := Int.natAbs_tdiv_le_natAbs a b
  generalize a.tdiv b = r at h ⊢
  omega
/-- How often a place goes into 20. -/
theorem times_in (i : Nat) (t : Int) (hi : i ≤ 19) : (0 ≤ (20 : Int).tdiv ((i : Int) + 1) ∧ (20 : Int).tdiv ((i : Int) + 1) ≤ 20) ∧ ((20 : Int).tdiv ((i : Int) + 1) < t ↔ 20 < ((i : Int) + 1) * t) := by
  rw [Int.tdiv_eq_ediv_of_nonneg (by omega)]
  refine ⟨⟨Int.ediv_nonneg (by omega) (by omega), Int.ediv_le_self _ (by omega)⟩, ?_⟩
  rw [Int.ediv_lt_iff_lt_mul (by omega), Int.mul_comm]
theorem sharedB_told {p q a b : Int} (h : sharedB p q a b = false) : atB p q a = false ∨ (atB p q a = true ∧ atB p q b = false) ∨ (atB p q a = true ∧ atB p q b = true ∧ a < 1) ∨ (atB p q a = true ∧ atB p q b = true ∧ 1 ≤ a ∧ b < 1) := by
  cases ha : atB p q a with
  | false => exact .inl rfl
  | true =>
    cases hb : atB p q b with
    | false => exact .inr (.inl ⟨rfl, rfl⟩)
    | true =>
      have ha' : pairB p q = true ∧ placeB a = true := by simpa [atB] using ha
      have hb' : pairB p q = true ∧ placeB b = true := by simpa [atB] using hb
      obtain ⟨a1, a2⟩ := placeB_true ha'.2
      obtain ⟨b1, b2⟩ := placeB_true hb'.2
      by_cases h1 : a < 1
      · exact .inr (.inr (.inl ⟨rfl, rfl, h1⟩))
      · by_cases h2 : b < 1
        · exact .inr (.inr (.inr ⟨rfl, rfl, by omega, h2⟩))
        · have e : sharedB p q a b = true := by simp [sharedB, ha'.1, inB_mk (n := a) (a := 1) (b := 20) (by omega) (by omega), inB_mk (n := b) (a := 1) (b := 20) (by omega) (by omega)]
          rw [e] at h; cases h
theorem quotB_ways {p q n t : Int} (h : quotB p q n t = false) : pairB p q = false ∨ (pairB p q = true ∧ inB n 1 20 = false) ∨ (pairB p q = true ∧ inB n 1 20 = true ∧ t < 1) ∨ (pairB p q = true ∧ inB n 1 20 = true ∧ 1 ≤ t ∧ 20 < n * t) ∨
    (pairB p q = true ∧ inB n 1 20 = true ∧ 1 ≤ t ∧ n * t ≤ 20 ∧ row p q 0 1 n.toNat = 0) := by
  cases hp : pairB p q with
  | false => exact .inl rfl
  | true =>
    cases ha : inB n 1 20 with
    | false => exact .inr (.inl ⟨rfl, rfl⟩)
    | true =>
      by_cases h1 : t < 1
      · exact .inr (.inr (.inl ⟨rfl, rfl, h1⟩))
      · by_cases h2 : 20 < n * t
        · exact .inr (.inr (.inr (.inl ⟨rfl, rfl, by omega, h2⟩)))
        · refine .inr (.inr (.inr (.inr ⟨rfl, rfl, by omega, by omega, ?_⟩)))
          have : 1 ≤ t → n * t ≤ 20 → row p q 0 1 n.toNat = 0 := by simpa [quotB, hp, ha] using h
          exact this (by omega) (by omega)
theorem further_nat {n : Int} (h : inB n 1 20 = true) : ∃ i : Nat, n = (i : Int) + 1 ∧ i ≤ 19 := by
  obtain ⟨a1, a2⟩ := inB_true h
  exact ⟨(n - 1).toNat, by omega, by omega⟩
end Go.Proofs.Ytpogmnkedohdcaa
namespace Go.Proofs.Ytpogmnkedohdcaa
open Go.RowKit Go.Shelf
attribute [local go_sem] Oper.semAt_some
/-- The next place with a multiple of it. -/
def nextPM (x : Nat × Nat) : Nat × Nat := if x.2 + x.1 ≤ 20 then (x.1, x.2 + x.1) else (x.1 + 1, x.1 + 1)
/-- The k-th place, with the multiple of it. -/
def stPM : Nat → Nat × Nat
  | 0 => (1, 1)
  | k + 1 => nextPM (stPM k)
theorem stPM_last : stPM 66 = (21, 21) := by decide +kernel
theorem stPM_all : ∀ k, k < 66 → 1 ≤ (stPM k).1 ∧ (stPM k).1 ≤ (stPM k).2 ∧ (stPM k).2 ≤ 20 ∧ (stPM k).2 % (stPM k).1 = 0 := by decide +kernel
theorem stPM_self : ∀ j, j < 21 → 1 ≤ j → ∃ k, k < 66 ∧ stPM k = (j, j) := by decide +kernel
theorem stPM_lt {k a m : Nat} (hk : k ≤ 66) (h : stPM k = (a, m)) (ha : a ≤ 20) : k < 66 := by
  rcases Nat.lt_or_ge k 66 with h1 | h1
  · exact h1
  · obtain rfl : k = 66 := by omega
    rw [stPM_last] at h
    injection h with h _
    omega
theorem stPM_end {k a m : Nat} (hk : k ≤ 66) (h : stPM k = (a, m)) (ha : 20 < a) : k = 66 := by
  rcases Nat.lt_or_ge k 66 with h1 | h1
  · have h2 := stPM_all k h1
    rw [h] at h2
    obtain ⟨h3, h4, h5, _⟩ := h2
    simp only at h3 h4 h5
    omega
  · omega
/-- A bit of a table. -/
theorem bit_of (t k : Nat) (ht : t < 2097152) : (bits BinOp.and IntKind.u32 ((t : Int) / 2 ^ k) 1 == 1) = t.testBit k := by
  have hle : t / 2 ^ k ≤ t := Nat.div_le_self _ _
  have e2 : ((t / 2 ^ k : Nat) : Int) = (t : Int) / 2 ^ k := by simp
  rw [← e2]
  have h1 : (BitVec.ofInt 32 ((t / 2 ^ k : Nat) : Int)).toNat = t / 2 ^ k := by rw [BitVec.ofInt_natCast, BitVec.toNat_ofNat]; exact Nat.mod_eq_of_lt (by omega)
  have h2 : (BitVec.ofInt 32 1).toNat = 1 := by decide
  have h3 : bits BinOp.and IntKind.u32 ((t / 2 ^ k : Nat) : Int) 1 = ((t / 2 ^ k % 2 : Nat) : Int) := by
    show IntKind.u32.wrap ((BitVec.ofInt 32 ((t / 2 ^ k : Nat) : Int) &&& BitVec.ofInt 32 1).toNat : Int) = _
    rw [BitVec.toNat_and, h1, h2, Nat.and_one_is_mod, IntKind.wrap_u32]
    omega
  rw [h3, Nat.testBit_eq_decide_div_mod_eq, Bool.eq_iff_iff, beq_iff_eq, decide_eq_true_iff]
  omega
theorem put_bit (t k : Nat) (ht : t < 2097152) (hk : k ≤ 20) : bits BinOp.or IntKind.u32 (t : Int) (2 ^ k % 4294967296) = ((t ||| 1 <<< k : Nat) : Int) ∧ t ||| 1 <<< k < 2097152 := by
  have hp : 2 ^ k ≤ 2 ^ 20 := Nat.pow_le_pow_right (by omega) hk
  have hx : t ||| 1 <<< k < 2 ^ 21 := Nat.or_lt_two_pow (by omega) (by rw [Nat.one_shiftLeft]; omega)
  have e2 : (2 : Int) ^ k % 4294967296 = ((2 ^ k : Nat) : Int) := by
    have : (2 : Int) ^ k = ((2 ^ k : Nat) : Int) := by simp
    rw [this]
    generalize 2 ^ k = z at hp ⊢
    omega
  rw [e2]
  have h1 : (BitVec.ofInt 32 (t : Int)).toNat = t := by rw [BitVec.ofInt_natCast, BitVec.toNat_ofNat]; exact Nat.mod_eq_of_lt (by omega)
  have h2 : (BitVec.ofInt 32 ((2 ^ k : Nat) : Int)).toNat = 2 ^ k := by rw [BitVec.ofInt_natCast, BitVec.toNat_ofNat]; exact Nat.mod_eq_of_lt (by omega)
  refine ⟨?_, by omega⟩
  show IntKind.u32.wrap ((BitVec.ofInt 32 (t : Int) ||| BitVec.ofInt 32 ((2 ^ k : Nat) : Int)).toNat : Int) = _
  rw [BitVec.toNat_or, h1, h2, Nat.one_shiftLeft, IntKind.wrap_u32]
  rw [Nat.one_shiftLeft] at hx
  omega
end Go.Proofs.Ytpogmnkedohdcaa
namespace Go.Proofs.Ytpogmnkedohdcaa
open Go.RowKit
variable {F : Fence} {n : Nat} {P : Program} {ops : Array Oper} {md : Region.Mode} {Q : Exit → Act → World → Prop}
/-- No operation defers a call. -/
def noDefer (ops : Array Oper) : Bool := ops.all fun o => match o.op with | .defer _ => false | _ => true
theorem noDefer_at {i : Nat} {o : Oper} (h : noDefer ops = true) (hi : ops[i]? = some o) : ∀ c, o.op ≠ .defer c := by
  intro c hc
  obtain ⟨hlt, rfl⟩ := Array.getElem?_eq_some_iff.1 hi
  have := Array.all_eq_true.1 h i hlt
  simp only [hc] at this
  cases this
theorem wpOpIn_round {l i : Nat} {K : Act → World → Prop} {a : Act} {w : World} (hro : F.round = none) (hnd : noDefer ops = true) (h : wpOpIn F n P ops Q i K a w) : wpOpIn (F.inRound l) n P ops Q i K a w := by
  unfold wpOpIn at *
  split
  · rename_i ho; simp only [ho] at h; exact h
  · rename_i o ho
    simp only [ho] at h
    split
    · rename_i hw
      simp only [hw, if_true] at h
      unfold Oper.wpIn at *
      refine ⟨h.1, ?_⟩
      have h2 := h.2
      rw [hro, Oper.semAt_none] at h2
      rw [Fence.inRound_round, Oper.semAt_some l _ _ (noDefer_at hnd ho)]
      exact h2
    · rename_i hw; simp only [hw] at h; exact h
theorem wpAnyIn_round {l : Nat} (hro : F.round = none) (hnd : noDefer ops = true) : ∀ (fuel : Nat) (listed : Array Bool) (a : Act) (w : World), wpAnyIn F n P md ops Q fuel listed a w → wpAnyIn (F.inRound l) n P md ops Q fuel listed a w
  | 0, _, _, _, h => h
  | fuel + 1, _, _, _, h => ⟨h.1, fun i hi => wpOpIn_round hro hnd (wpOpIn_mono (fun a' w' => wpAnyIn_round hro hnd fuel _ a' w') (h.2 i hi))⟩
theorem wpIn_region_quiet_round {C : World → Prop} {id l : Nat} {a : Act} {w : World} (hro : F.round = none) (hnd : noDefer ops = true) (hm : P.follows .mixedOrders = true) (hB : Region.lexB .any ops = true) (hC : C { w with drawn := w.drawn + 1 })
    (h : wpQuietIn F n P ops C (fun a' => ∀ w', C w' → Q .normal a' w') ops.toList a) : (Code.region id ops true).wpIn (F.inRound l) n P Q a w := by
  simp only [Region.lexB, Bool.and_eq_true] at hB
  refine wpIn_region_any hm (wpAnyIn_round hro hnd _ _ _ _ (wpAnyIn_of_quiet (Q := fun a' => ∀ w', C w' → Q .normal a' w') hro (fun _ w' hw' h => h w' hw') _ _ _ _ hC ?_))
  have := wpAnyQIn_lex (F := F) (n := n) (C := C) (md := .any) hB.1 ops.toList 0 (Array.replicate ops.size false) a (by simp) (by simpa using hB.2) h
  simpa using this
/-- The worlds in which something holds. -/
structure KeptBy (S : World → Prop) where
  world : World
  ok : S world
theorem wpIn_region_kept {S : World → Prop} {id l : Nat} {a : Act} {w : World} {os : List Oper} (hS : S w.drew) (hro : F.round = none) (hnd : noDefer os.toArray = true) (hm : P.follows .mixedOrders = true) (hB : Region.lexB .any os.toArray = true)
    (h : wpQuietIn F n P os.toArray (fun w' => ∃ i : KeptBy S, w' = i.world) (fun a' => ∀ w', (∃ i : KeptBy S, w' = i.world) → Q .normal a' w') os a) : (Code.region id os.toArray true).wpIn (F.inRound l) n P Q a w :=
  wpIn_region_quiet_round (C := fun w' => ∃ i : KeptBy S, w' = i.world) hro hnd hm hB ⟨⟨w.drew, hS⟩, rfl⟩ (by simpa using h)
end Go.Proofs.Ytpogmnkedohdcaa
namespace Go.Proofs.Ytpogmnkedohdcaa
/-- The greatest power of p that divides r. -/
def powGo (p : Nat) : Nat → Nat → Nat
  | 0, _ => 1
  | f + 1, r => if r % p = 0 then p * powGo p f (r / p) else 1
theorem powGo_dvd (p : Nat) : ∀ f r, powGo p f r ∣ r
  | 0, r => Nat.one_dvd r
  | f + 1, r => by
    rw [powGo]
    split
    · rename_i h
      have := Nat.mul_dvd_mul_left p (powGo_dvd p f (r / p))
      rwa [Nat.mul_div_cancel' (Nat.dvd_of_mod_eq_zero h)] at this
    · exact Nat.one_dvd r
theorem powGo_form (p : Nat) : ∀ f r, ∃ e, powGo p f r = p ^ e
  | 0, r => ⟨0, rfl⟩
  | f + 1, r => by
    rw [powGo]
    split
    · obtain ⟨e, he⟩ := powGo_form p f (r / p)
      exact ⟨e + 1, by rw [he, Nat.pow_succ, Nat.mul_comm]⟩
    · exact ⟨0, rfl⟩
theorem powGo_left {p : Nat} (hp : 2 ≤ p) : ∀ f r, 1 ≤ r → r ≤ f → ¬ p ∣ r / powGo p f r
  | 0, r, h1, h2 => by omega
  | f + 1, r, h1, h2 => by
    rw [powGo]
    split
    · rename_i h
      have hd := Nat.dvd_of_mod_eq_zero h
      have h3 : 1 ≤ r / p := Nat.div_pos (Nat.le_of_dvd h1 hd) (by omega)
      have h4 : r / p < r := Nat.div_lt_self h1 hp
      rw [← Nat.div_div_eq_div_mul]
      exact powGo_left hp f (r / p) h3 (by omega)
    · rename_i h
      rw [Nat.div_one]
      exact fun hd => h (Nat.mod_eq_zero_of_dvd hd)
theorem powGo_pos {p r : Nat} (f : Nat) (h : 1 ≤ r) : 1 ≤ powGo p f r := Nat.pos_of_dvd_of_pos (powGo_dvd p f r) h
theorem powGo_rest {p r : Nat} (f : Nat) (h : 1 ≤ r) : 1 ≤ r / powGo p f r := Nat.div_pos (Nat.le_of_dvd h (powGo_dvd p f r)) (powGo_pos f h)
/-- The powers of p and of greater primes that r is made of. -/
def ppGo : Nat → Nat → Nat → List Nat
  | 0, _, _ => []
  | f + 1, p, r => if r ≤ 1 then [] else if 1 < powGo p r r then powGo p r r :: ppGo f (p + 1) (r / powGo p r r) else ppGo f (p + 1) (r / powGo p r r)
def prodL : List Nat → Nat
  | [] => 1
  | x :: L => x * prodL L
theorem prodL_split (L : List Nat) : ∀ k, prodL (L.take k) * prodL (L.drop k) = prodL L := by
  induction L with
  | nil => intro k; simp [prodL]
  | cons x L ih =>
    intro k
    cases k with
    | zero => simp [prodL]
    | succ k => simp only [List.take_succ_cons, List.drop_succ_cons, prodL]; rw [Nat.mul_assoc, ih]
/-- What no number below p divides, but p does not divide, has nothing in common with powers of p. -/
theorem apart_pow {p e r : Nat} (hp : 2 ≤ p) (h : ∀ d, 2 ≤ d → d < p → ¬ d ∣ r) (hn : ¬ p ∣ r) : Nat.Coprime (p ^ e) r := by
  refine Nat.Coprime.pow_left e ?_
  rcases Nat.lt_or_ge (Nat.gcd p r) 2 with h1 | h1
  · have : 1 ≤ Nat.gcd p r := Nat.gcd_pos_of_pos_left r (by omega)
    show Nat.gcd p r = 1
    omega
  · have h2 : Nat.gcd p r ≤ p := Nat.le_of_dvd (by omega) (Nat.gcd_dvd_left p r)
    rcases Nat.eq_or_lt_of_le h2 with h3 | h3
    · exact absurd (by rw [← h3]; exact Nat.gcd_dvd_right p r) hn
    · exact absurd (Nat.gcd_dvd_right p r) (h _ h1 h3)
theorem none_next {p r f : Nat} (hp : 2 ≤ p) (hr : 1 ≤ r) (hf : r ≤ f) (h : ∀ d, 2 ≤ d → d < p → ¬ d ∣ r) : ∀ d, 2 ≤ d → d < p + 1 → ¬ d ∣ r / powGo p f r := by
  intro d h1 h2 hd
  rcases Nat.eq_or_lt_of_le (Nat.le_of_lt_succ h2) with h3 | h3
  · subst h3; exact powGo_left hp f r hr hf hd
  · exact h d h1 h3 (Nat.dvd_trans hd (Nat.div_dvd_of_dvd (powGo_dvd p f r)))
theorem small_one {p r : Nat} (hr : 1 ≤ r) (h : ∀ d, 2 ≤ d → d < p → ¬ d ∣ r) (hlt : r < p) : r = 1 := by
  rcases Nat.lt_or_ge r 2 with h1 | h1
  · omega
  · exact absurd (Nat.dvd_refl r) (h r h1 hlt)
theorem ppGo_spec : ∀ f p r, 2 ≤ p → 1 ≤ r → r < p + f → (∀ d, 2 ≤ d → d < p → ¬ d ∣ r) →
    prodL (ppGo f p r) = r ∧ (∀ x ∈ ppGo f p r, 2 ≤ x) ∧ ∀ k, Nat.Coprime (prodL ((ppGo f p r).take k)) (prodL ((ppGo f p r).drop k))
  | 0, p, r, hp, hr, hf, h => by
    obtain rfl := small_one hr h (by omega)
    exact ⟨rfl, (by intro x hx; cases hx), fun k => by simp [ppGo, prodL, Nat.Coprime]⟩
  | f + 1, p, r, hp, hr, hf, h => by
    rw [ppGo]
    split
    · obtain rfl : r = 1 := by omega
      exact ⟨rfl, (by intro x hx; cases hx), fun k => by simp [prodL, Nat.Coprime]⟩
    · have hd := powGo_dvd p r r
      have hr' := powGo_rest (p := p) r hr
      have hle : r / powGo p r r ≤ r := Nat.div_le_self _ _
      obtain ⟨i1, i2, i3⟩ := ppGo_spec f (p + 1) (r / powGo p r r) (by omega) hr' (by omega) (none_next hp hr (Nat.le_refl r) h)
      have hmul : powGo p r r * (r / powGo p r r) = r := Nat.mul_div_cancel' hd
      have hcop : Nat.Coprime (powGo p r r) (r / powGo p r r) := by
        obtain ⟨e, he⟩ := powGo_form p r r
        have h5 := none_next hp hr (Nat.le_refl r) h
        generalize r / powGo p r r = s at h5
        rw [he]
        exact apart_pow hp (fun d a b => h5 d a (by omega)) (h5 p hp (by omega))
      split
      · rename_i hw
        refine ⟨by rw [prodL, i1, hmul], ?_, fun k => ?_⟩
        · intro x hx
          rcases List.mem_cons.1 hx with rfl | hx
          · omega
          · exact i2 x hx
        · cases k with
          | zero => simp [prodL, Nat.Coprime]
          | succ k =>
            simp only [List.take_succ_cons, List.drop_succ_cons, prodL]
            refine Nat.Coprime.mul_left ?_ (i3 k)
            refine Nat.Coprime.coprime_dvd_right ?_ hcop
            exact Nat.dvd_trans (Nat.dvd_mul_left _ _) (by rw [prodL_split, i1]; exact Nat.dvd_refl _)
      · rename_i hw
        have hw1 : powGo p r r = 1 := by have := powGo_pos (p := p) r hr; omega
        rw [hw1, Nat.div_one] at i1 i2 i3 ⊢
        exact ⟨i1, i2, i3⟩
/-- All powers of primes that a number is made of; the first k of them multiplied. -/
def ppL (n : Nat) : List Nat := ppGo n 2 n
def ppK (n k : Nat) : Nat := prodL ((ppL n).take k)
theorem none_two {n : Nat} : ∀ d, 2 ≤ d → d < 2 → ¬ d ∣ n := fun d h1 h2 => by omega
theorem ppL_spec {n : Nat} (hn : 1 ≤ n) : prodL (ppL n) = n ∧ (∀ x ∈ ppL n, 2 ≤ x) ∧ ∀ k, Nat.Coprime (prodL ((ppL n).take k)) (prodL ((ppL n).drop k)) := ppGo_spec n 2 n (by omega) hn (by omega) none_two
theorem ppK_zero (n : Nat) : ppK n 0 = 1 := rfl
theorem ppK_all {n : Nat} (hn : 1 ≤ n) : ppK n (ppL n).length = n := by rw [ppK, List.take_length]; exact (ppL_spec hn).1
theorem prodL_snoc (L : List Nat) (x : Nat) : prodL (L ++ [x]) = prodL L * x := by
  induction L with
  | nil => simp [prodL]
  | cons y L ih => simp only [List.cons_append, prodL, ih, Nat.mul_assoc]
theorem pp_step {n k : Nat} (hn : 1 ≤ n) (hk : k < (ppL n).length) :
    ppK n (k + 1) = ppK n k * (ppL n).getD k 0 ∧ Nat.gcd (ppK n k) ((ppL n).getD k 0) = 1 ∧ 2 ≤ (ppL n).getD k 0 ∧ (ppL n).getD k 0 ∣ n ∧ ppK n (k + 1) ∣ n ∧ ppK n k ∣ n := by
  obtain ⟨a, b, c⟩ := ppL_spec hn
  have hx : (ppL n).getD k 0 = (ppL n)[k] := by simp [List.getD, List.getElem?_eq_getElem hk]
  have hs : ppK n (k + 1) = ppK n k * (ppL n)[k] := by rw [ppK, List.take_add_one, List.getElem?_eq_getElem hk]; exact prodL_snoc _ _
  have hdx : (ppL n)[k] ∣ prodL ((ppL n).drop k) := by rw [List.drop_eq_getElem_cons hk]; exact Nat.dvd_mul_right _ _
  have hall : ∀ j, ppK n j ∣ n := fun j => by
    have := prodL_split (ppL n) j
    rw [a] at this
    exact ⟨_, this.symm⟩
  rw [hx]
  refine ⟨hs, Nat.Coprime.coprime_dvd_right hdx (c k), b _ (List.getElem_mem hk), ?_, hall _, hall _⟩
  have := hall (k + 1)
  rw [hs] at this
  exact Nat.dvd_trans (Nat.dvd_mul_left _ _) this
theorem rankN_one (p q : Int) : rankN p q 1 = 1 := rankN_eq (Nat.le_refl 1) (fun c h _ => h) (fun n => ⟨fun _ => Nat.one_dvd n, fun _ => by simp⟩)
theorem rank_pp {p q : Int} {n k : Nat} (hn : 1 ≤ n) (h : Apart (n : Int) q) (hk : k < (ppL n).length) : rankN p q (ppK n (k + 1)) = Nat.lcm (rankN p q (ppK n k)) (rankN p q ((ppL n).getD k 0)) := by
  obtain ⟨a, b, c, d, e, g⟩ := pp_step hn hk
  rw [a] at e ⊢
  exact rankN_mul (Nat.pos_of_dvd_of_pos g hn) (by omega) b (h.of_nat_dvd e)
/-- Where the search for them stands: k are found, the next number is p, the rest is r. -/
def PPState (n k p r : Nat) : Prop :=
  2 ≤ p ∧ 1 ≤ r ∧ r ≤ n ∧ k ≤ (ppL n).length ∧ (∃ f, p + f = n + 2 ∧ (ppL n).drop k = ppGo f p r) ∧ ∀ d, 2 ≤ d → d < p → ¬ d ∣ r
theorem PPState.start {n : Nat} (hn : 1 ≤ n) : PPState n 0 2 n := ⟨by omega, hn, Nat.le_refl n, by omega, ⟨n, by omega, rfl⟩, none_two⟩
theorem PPState.big {n k p r : Nat} (h : PPState n k p r) (hr : 1 < r) : p ≤ r := by
  obtain ⟨a, b, c, d, e, g⟩ := h
  rcases Nat.lt_or_ge r p with h1 | h1
  · have := small_one b g h1; omega
  · exact h1
theorem PPState.opened {n k p r : Nat} (h : PPState n k p r) (hr : 1 < r) : ∃ f, p + 1 + f = n + 2 ∧ (ppL n).drop k = if 1 < powGo p r r then powGo p r r :: ppGo f (p + 1) (r / powGo p r r) else ppGo f (p + 1) (r / powGo p r r) := by
  have hb := h.big hr
  obtain ⟨a, b, c, d, ⟨f, e1, e2⟩, g⟩ := h
  obtain ⟨f, rfl⟩ : ∃ g, f = g + 1 := ⟨f - 1, by omega⟩
  refine ⟨f, by omega, ?_⟩
  rw [e2, ppGo, if_neg (by omega)]
theorem PPState.yes {n k p r : Nat} (h : PPState n k p r) (hr : 1 < r) (hw : 1 < powGo p r r) : k < (ppL n).length ∧ (ppL n).getD k 0 = powGo p r r ∧ PPState n (k + 1) (p + 1) (r / powGo p r r) := by
  obtain ⟨f, f1, f2⟩ := h.opened hr
  obtain ⟨a, b, c, d, _, g⟩ := h
  rw [if_pos hw] at f2
  have hk : k < (ppL n).length := by
    rcases Nat.lt_or_ge k (ppL n).length with h1 | h1
    · exact h1
    · rw [List.drop_eq_nil_of_le h1] at f2; cases f2
  rw [List.drop_eq_getElem_cons hk] at f2
  injection f2 with f3 f4
  refine ⟨hk, by simp [List.getD, List.getElem?_eq_getElem hk, f3], by omega, powGo_rest r b, Nat.le_trans (Nat.div_le_self _ _) c, hk, ⟨f, f1, f4⟩, none_next a b (Nat.le_refl r) g⟩
theorem PPState.no {n k p r : Nat} (h : PPState n k p r) (hr : 1 < r) (hw : ¬ 1 < powGo p r r) : PPState n k (p + 1) (r / powGo p r r) := by
  obtain ⟨f, f1, f2⟩ := h.opened hr
  obtain ⟨a, b, c, d, _, g⟩ := h
  rw [if_neg hw] at f2
  exact ⟨by omega, powGo_rest r b, Nat.le_trans (Nat.div_le_self _ _) c, d, ⟨f, f1, f2⟩, none_next a b (Nat.le_refl r) g⟩
theorem PPState.done {n k p r : Nat} (h : PPState n k p r) (hr : ¬ 1 < r) : k = (ppL n).length := by
  obtain ⟨a, b, c, d, ⟨f, e1, e2⟩, g⟩ := h
  have e3 : ppGo f p r = [] := by
    cases f with
    | zero => rfl
    | succ f => rw [ppGo, if_pos (by omega)]
  rw [e3] at e2
  have := List.drop_eq_nil_iff.1 e2
  omega
/-- Where the search for the power of p stands: the power so far is w, the rest s. -/
def PowState (p r s w : Nat) : Prop := (1 ≤ s ∧ 1 ≤ w) ∧ w * s = r ∧ ∃ f, s ≤ f ∧ w * powGo p f s = powGo p r r
theorem PowState.start {p r : Nat} (hr : 1 ≤ r) : PowState p r r 1 := ⟨⟨hr, Nat.le_refl 1⟩, by omega, r, Nat.le_refl r, by omega⟩
theorem PowState.next {p r s w : Nat} (hp : 2 ≤ p) (h : PowState p r s w) (hs : s % p = 0) : PowState p r (s / p) (w * p) := by
  obtain ⟨⟨a, a2⟩, b, f, c, d⟩ := h
  have hd := Nat.dvd_of_mod_eq_zero hs
  obtain ⟨f, rfl⟩ : ∃ g, f = g + 1 := ⟨f - 1, by omega⟩
  rw [powGo, if_pos hs] at d
  have h4 : s / p < s := Nat.div_lt_self a hp
  exact ⟨⟨Nat.div_pos (Nat.le_of_dvd a hd) (by omega), Nat.mul_pos a2 (by omega)⟩, by rw [Nat.mul_assoc, Nat.mul_div_cancel' hd, b], f, by omega, by rw [Nat.mul_assoc, d]⟩
theorem PowState.done {p r s w : Nat} (h : PowState p r s w) (hs : ¬ s % p = 0) : w = powGo p r r ∧ s = r / powGo p r r := by
  obtain ⟨⟨a, a2⟩, b, f, c, d⟩ := h
  obtain ⟨f, rfl⟩ : ∃ g, f = g + 1 := ⟨f - 1, by omega⟩
  rw [powGo, if_neg hs, Nat.mul_one] at d
  refine ⟨d, ?_⟩
  rw [← d, ← b]
  exact (Nat.mul_div_cancel_left s a2).symm
theorem PowState.bd {p r s w : Nat} (h : PowState p r s w) : s ≤ r ∧ w ≤ r := by
  obtain ⟨⟨a, a2⟩, b, _⟩ := h
  exact ⟨by have := Nat.le_mul_of_pos_left s a2; omega, by have := Nat.le_mul_of_pos_right w a; omega⟩
end Go.Proofs.Ytpogmnkedohdcaa
namespace Go.Proofs.Ytpogmnkedohdcaa
/-- Going on from a place where a number divides: what stands behind it is multiplied. -/
theorem step_on {p q m : Int} {r : Nat} (hr : m ∣ row p q 0 1 r) (n : Nat) : Eqm m (row p q 0 1 (r + n)) (row p q 0 1 (r + 1) * row p q 0 1 n) := by
  cases n with
  | zero =>
    rw [Nat.add_zero]
    have h0 : row p q 0 1 0 = 0 := rfl
    rw [h0, Int.mul_zero]
    show m ∣ row p q 0 1 r - 0
    rw [Int.sub_zero]; exact hr
  | succ n =>
    have e : row p q 0 1 (r + (n + 1)) = row p q 0 1 (n + 1) * row p q 0 1 (r + 1) - q * row p q 0 1 n * row p q 0 1 r := by
      rw [row_add, Nat.add_comm r]
    have hd : m ∣ q * row p q 0 1 n * row p q 0 1 r := Int.dvd_mul_of_dvd_right hr
    rw [e, Int.mul_comm (row p q 0 1 (r + 1))]
    show m ∣ _
    rw [show row p q 0 1 (n + 1) * row p q 0 1 (r + 1) - q * row p q 0 1 n * row p q 0 1 r - row p q 0 1 (n + 1) * row p q 0 1 (r + 1) = -(q * row p q 0 1 n * row p q 0 1 r) by omega]
    exact Int.dvd_neg.2 hd
theorem dvd_mult {p q m : Int} {r : Nat} (hr : m ∣ row p q 0 1 r) (k : Nat) : m ∣ row p q 0 1 (k * r) := by
  rw [Nat.mul_comm]; exact Int.dvd_trans hr (row_dvd p q r k)
/-- So often by the rank: a power of the step. -/
theorem step_pow {p q m : Int} {r : Nat} (hr : m ∣ row p q 0 1 r) (n : Nat) : ∀ k : Nat, Eqm m (row p q 0 1 (k * r + n)) (row p q 0 1 (r + 1) ^ k * row p q 0 1 n)
  | 0 => by rw [Nat.zero_mul, Nat.zero_add, Int.pow_zero, Int.one_mul]; exact Eqm.refl _ _
  | k + 1 => by
    rw [show (k + 1) * r + n = r + (k * r + n) by rw [Nat.add_mul, Nat.one_mul]; omega, Int.pow_succ, Int.mul_comm (row p q 0 1 (r + 1) ^ k), Int.mul_assoc]
    exact (step_on hr _).trans ((Eqm.refl _ _).mul (step_pow hr n k))
/-- The square of a step is a power of Q. -/
theorem step_square {p q m : Int} {r : Nat} (hr : m ∣ row p q 0 1 r) : Eqm m (row p q 0 1 (r + 1) * row p q 0 1 (r + 1)) (q ^ r) := by
  have e := row_norm p q r
  show m ∣ _
  rw [← e]
  have h1 : m ∣ p * row p q 0 1 r * row p q 0 1 (r + 1) := Int.dvd_mul_of_dvd_left (Int.dvd_mul_of_dvd_right hr)
  have h2 : m ∣ q * row p q 0 1 r * row p q 0 1 r := Int.dvd_mul_of_dvd_right hr
  rw [show row p q 0 1 (r + 1) * row p q 0 1 (r + 1) - (row p q 0 1 (r + 1) * row p q 0 1 (r + 1) - p * row p q 0 1 r * row p q 0 1 (r + 1) + q * row p q 0 1 r * row p q 0 1 r) = p * row p q 0 1 r * row p q 0 1 (r + 1) - q * row p q 0 1 r * row p q 0 1 r by omega]
  exact Int.dvd_sub h1 h2
/-- A place from which on all is as from the beginning. -/
def Again (p q m : Int) (d : Nat) : Prop := m ∣ row p q 0 1 d ∧ Eqm m (row p q 0 1 (d + 1)) 1
theorem again_shift {p q m : Int} {d : Nat} (h : Again p q m d) (n : Nat) : Eqm m (row p q 0 1 (d + n)) (row p q 0 1 n) := by
  refine (step_on h.1 n).trans ?_
  have := h.2.mul (Eqm.refl m (row p q 0 1 n))
  rwa [Int.one_mul] at this
theorem again_zero (p q m : Int) : Again p q m 0 := ⟨⟨0, by simp [row]⟩, Eqm.refl _ _⟩
theorem again_add {p q m : Int} {d : Nat} (h : Again p q m d) (n : Nat) : Again p q m (d + n) ↔ Again p q m n := by
  have h0 := again_shift h n
  have h1 := again_shift h (n + 1)
  constructor
  · rintro ⟨a, b⟩
    refine ⟨?_, h1.symm.trans b⟩
    have := Int.dvd_sub a h0
    rwa [show row p q 0 1 (d + n) - (row p q 0 1 (d + n) - row p q 0 1 n) = row p q 0 1 n by omega] at this
  · rintro ⟨a, b⟩
    refine ⟨?_, h1.trans b⟩
    have := Int.dvd_add h0 a
    rwa [show row p q 0 1 (d + n) - row p q 0 1 n + row p q 0 1 n = row p q 0 1 (d + n) by omega] at this
theorem again_dvd {p q m : Int} {d : Nat} (h1 : 1 ≤ d) (hd : Again p q m d) (hl : ∀ s, 1 ≤ s → s < d → ¬ Again p q m s) : ∀ N n : Nat, n ≤ N → (Again p q m n ↔ d ∣ n)
  | 0, n, hn => by
    obtain rfl : n = 0 := by omega
    exact ⟨fun _ => Nat.dvd_zero d, fun _ => again_zero p q m⟩
  | N + 1, n, hn => by
    by_cases h0 : n = 0
    · subst h0
      exact ⟨fun _ => Nat.dvd_zero d, fun _ => again_zero p q m⟩
    by_cases hlt : n < d
    · exact ⟨fun h => absurd h (hl n (by omega) hlt), fun h => by have := Nat.le_of_dvd (by omega) h; omega⟩
    · obtain ⟨s, rfl⟩ := Nat.exists_eq_add_of_le (show d ≤ n by omega)
      rw [again_add hd s, again_dvd h1 hd hl N s (by omega)]
      exact ⟨fun h => Nat.dvd_add (Nat.dvd_refl d) h, fun h => (Nat.dvd_add_right (Nat.dvd_refl d)).1 h⟩
theorem again_iff {p q : Int} {m : Nat} {d : Nat} : (row p q 0 1 d % (m : Int) == 0 && row p q 0 1 (d + 1) % (m : Int) == 1 % (m : Int)) = true ↔ Again p q m d := by
  rw [Bool.and_eq_true, left_zero_iff, beq_iff_eq]
  exact ⟨fun h => ⟨h.1, eqm_left_eq h.2⟩, fun h => ⟨h.1, h.2.left⟩⟩
theorem periodN_spec {p q : Int} (m : Nat) (hm : 1 ≤ m) (h : Apart (m : Int) q) : Again p q m (periodN p q m) ∧ 1 ≤ periodN p q m ∧ periodN p q m ≤ m * m ∧ ∀ s, 1 ≤ s → s < periodN p q m → ¬ Again p q m s := by
  obtain ⟨d, h1, h2, h3, h4⟩ := comes_again (p := p) m hm h
  have hB : (fun r => row p q 0 1 r % (m : Int) == 0 && row p q 0 1 (r + 1) % (m : Int) == 1 % (m : Int)) d = true := again_iff.2 ⟨eqm_zero h3, h4⟩
  obtain ⟨a, b, c, e⟩ := findFrom_spec (fun r => row p q 0 1 r % (m : Int) == 0 && row p q 0 1 (r + 1) % (m : Int) == 1 % (m : Int)) (m * m) 1 d h1 (by omega) hB
  refine ⟨again_iff.1 a, b, Nat.le_trans c h2, fun s s1 s2 hd => ?_⟩
  have := e s s1 s2
  simp only [again_iff.2 hd] at this
  cases this
theorem periodN_dvd {p q : Int} (m : Nat) (hm : 1 ≤ m) (h : Apart (m : Int) q) (n : Nat) : Again p q m n ↔ periodN p q m ∣ n := by
  obtain ⟨a, b, _, d⟩ := periodN_spec (p := p) m hm h
  exact again_dvd b a d n n (Nat.le_refl n)
theorem rank_of_period {p q : Int} (m : Nat) (hm : 1 ≤ m) (h : Apart (m : Int) q) : rankN p q m ∣ periodN p q m := (rankN_dvd m hm h _).1 (periodN_spec (p := p) m hm h).1.1
theorem again_mul {p q : Int} {a b n : Nat} (hab : Nat.gcd a b = 1) : Again p q ((a * b : Nat) : Int) n ↔ Again p q a n ∧ Again p q b n := by
  have key : ∀ x : Int, ((a * b : Nat) : Int) ∣ x ↔ (a : Int) ∣ x ∧ (b : Int) ∣ x := fun x => by
    simp only [Int.ofNat_dvd_left]
    exact ⟨fun hd => ⟨Nat.dvd_trans (Nat.dvd_mul_right a b) hd, Nat.dvd_trans (Nat.dvd_mul_left b a) hd⟩, fun ⟨x, y⟩ => Nat.Coprime.mul_dvd_of_dvd_of_dvd hab x y⟩
  simp only [Again, Eqm, key]
  exact ⟨fun ⟨⟨x, y⟩, z, t⟩ => ⟨⟨x, z⟩, y, t⟩, fun ⟨⟨x, z⟩, y, t⟩ => ⟨⟨x, y⟩, z, t⟩⟩
theorem periodN_eq {p q : Int} {m r : Nat} (hm : 1 ≤ m) (h : Apart (m : Int) q) (hr : ∀ n, Again p q m n ↔ r ∣ n) : periodN p q m = r :=
  Nat.dvd_antisymm ((periodN_dvd m hm h r).1 ((hr r).2 (Nat.dvd_refl r))) ((hr _).1 ((periodN_dvd m hm h _).2 (Nat.dvd_refl _)))
theorem periodN_mul {p q : Int} {a b : Nat} (ha : 1 ≤ a) (hb : 1 ≤ b) (hab : Nat.gcd a b = 1) (h : Apart ((a * b : Nat) : Int) q) : periodN p q (a * b) = Nat.lcm (periodN p q a) (periodN p q b) := by
  refine periodN_eq (Nat.mul_pos ha hb) h (fun n => ?_)
  rw [Nat.lcm_dvd_iff, again_mul hab, periodN_dvd a ha (h.of_nat_dvd (Nat.dvd_mul_right a b)), periodN_dvd b hb (h.of_nat_dvd (Nat.dvd_mul_left b a))]
/-- How often the rank goes into the period; the step. -/
def loopsN (p q : Int) (m : Nat) : Nat := periodN p q m / rankN p q m
def stepV (p q : Int) (m : Nat) : Int := row p q 0 1 (rankN p q m + 1) % (m : Int)
theorem loops_mul {p q : Int} (m : Nat) (hm : 1 ≤ m) (h : Apart (m : Int) q) : loopsN p q m * rankN p q m = periodN p q m := Nat.div_mul_cancel (rank_of_period m hm h)
theorem step_again {p q : Int} (m : Nat) (hm : 1 ≤ m) (h : Apart (m : Int) q) (k : Nat) : Eqm m (stepV p q m ^ k) 1 ↔ loopsN p q m ∣ k := by
  obtain ⟨a, b, _, _⟩ := rankN_spec (p := p) m hm h
  have hs : Eqm m (stepV p q m ^ k) (row p q 0 1 (k * rankN p q m + 1)) := by
    refine ((eqm_left _ _).pow k).trans ?_
    have := step_pow a 1 k
    have h1 : row p q 0 1 1 = 1 := rfl
    rw [h1, Int.mul_one] at this
    exact this.symm
  have e : Eqm m (stepV p q m ^ k) 1 ↔ Again p q m (k * rankN p q m) := ⟨fun hk => ⟨dvd_mult a k, hs.symm.trans hk⟩, fun hk => hs.trans hk.2⟩
  rw [e, periodN_dvd m hm h, ← loops_mul m hm h]
  exact Nat.mul_dvd_mul_iff_right b
theorem loops_pos {p q : Int} (m : Nat) (hm : 1 ≤ m) (h : Apart (m : Int) q) : 1 ≤ loopsN p q m := by
  obtain ⟨_, b, _, _⟩ := periodN_spec (p := p) m hm h
  have e := loops_mul (p := p) m hm h
  rcases Nat.eq_zero_or_pos (loopsN p q m) with h0 | h0
  · rw [h0, Nat.zero_mul] at e; omega
  · exact h0
/-- For Q 1 or -1 the loops are 1, 2 or 4. -/
theorem loops_few {p q : Int} (m : Nat) (hm : 1 ≤ m) (h : Apart (m : Int) q) (hq : q * q = 1) : loopsN p q m = 1 ∨ loopsN p q m = 2 ∨ loopsN p q m = 4 := by
  obtain ⟨a, _, _, _⟩ := rankN_spec (p := p) m hm h
  have h2 : Eqm m (stepV p q m ^ 2) (q ^ rankN p q m) := by
    rw [show stepV p q m ^ 2 = stepV p q m * stepV p q m by rw [Int.pow_succ, Int.pow_succ, Int.pow_zero, Int.one_mul]]
    exact ((eqm_left _ _).mul (eqm_left _ _)).trans (step_square a)
  have h4 : Eqm m (stepV p q m ^ 4) 1 := by
    have e4 : stepV p q m ^ 4 = stepV p q m ^ 2 * stepV p q m ^ 2 := by rw [← Int.pow_add]
    have eq1 : ∀ n : Nat, q ^ n * q ^ n = 1 := fun n => by rw [← Int.mul_pow, hq, Int.one_pow]
    rw [e4]
    have := h2.mul h2
    rwa [eq1] at this
  have hd := (step_again m hm h 4).1 h4
  have hle := Nat.le_of_dvd (by omega) hd
  have := loops_pos (p := p) m hm h
  generalize loopsN p q m = l at *
  rcases (show l = 1 ∨ l = 2 ∨ l = 3 ∨ l = 4 by omega) with rfl | rfl | rfl | rfl
  · exact .inl rfl
  · exact .inr (.inl rfl)
  · exact absurd hd (by decide)
  · exact .inr (.inr rfl)
/-- The step has nothing in common with the number. -/
theorem step_apart {p q : Int} (m : Nat) (hm : 1 ≤ m) (h : Apart (m : Int) q) : Apart (m : Int) (stepV p q m) := by
  obtain ⟨a, _, _, _⟩ := rankN_spec (p := p) m hm h
  intro c h1 h2
  refine next_apart h a c h1 ?_
  have e := Int.emod_add_mul_ediv (row p q 0 1 (rankN p q m + 1)) (m : Int)
  rw [← e]
  exact Int.dvd_add h2 (Int.dvd_mul_of_dvd_left h1)
end Go.Proofs.Ytpogmnkedohdcaa
namespace Go.Proofs.Ytpogmnkedohdcaa
open Go.RowKit
variable {P : Program} {Q : Exit → Act → World → Prop}
theorem wp_region_kept {S : World → Prop} {id : Nat} {a : Act} {w : World} {os : List Oper} (hS : S w.drew) (hm : P.follows .mixedOrders = true) (hB : Region.lexB .any os.toArray = true)
    (h : wpQuiet P os.toArray (fun w' => ∃ i : KeptBy S, w' = i.world) (fun a' => ∀ w', (∃ i : KeptBy S, w' = i.world) → Q .normal a' w') os a) : (Code.region id os.toArray true).wp P Q a w :=
  wp_region_quiet (C := fun w' => ∃ i : KeptBy S, w' = i.world) hm hB ⟨⟨w.drew, hS⟩, rfl⟩ (by simpa using h)
end Go.Proofs.Ytpogmnkedohdcaa
namespace Go.Proofs.Ytpogmnkedohdcaa
open Go.RowKit
variable {F : Fence} {n : Nat} {P : Program} {md : Region.Mode} {l : List Oper} {o : Oper}
/-- What stands for the operation that comes last. -/
def idle (o : Oper) : Oper := { o with op := .move (.const undef) }
/-- However the operations are drawn, the one at place m comes last. -/
def comesLast (md : Region.Mode) (ops : Array Oper) (m : Nat) : Nat → Array Bool → Bool
  | 0, _ => false
  | f + 1, listed => !(Region.ready md ops listed).isEmpty && (Region.ready md ops listed).all fun i => if i = m then (Region.ready md ops (listed.setIfInBounds m true)).isEmpty else comesLast md ops m f (listed.setIfInBounds i true)
theorem idle_other (i : Nat) (h : i ≠ l.length) : (l ++ [idle o]).toArray[i]? = (l ++ [o]).toArray[i]? := by
  simp only [List.getElem?_toArray]
  rcases Nat.lt_or_ge i l.length with h1 | h1
  · rw [List.getElem?_append_left h1, List.getElem?_append_left h1]
  · rw [List.getElem?_append_right h1, List.getElem?_append_right h1]
    obtain ⟨j, hj⟩ : ∃ j, i - l.length = j + 1 := ⟨i - l.length - 1, by omega⟩
    rw [hj]; rfl
theorem last_at (x : Oper) : (l ++ [x]).toArray[l.length]? = some x := by simp
theorem idle_after (i : Nat) (g : Array Edge → Bool) : ((l ++ [idle o]).toArray[i]?).map (fun x => g x.after) = ((l ++ [o]).toArray[i]?).map (fun x => g x.after) := by
  by_cases h : i = l.length
  · subst h; rw [last_at, last_at]; rfl
  · rw [idle_other i h]
theorem idle_ready (listed : Array Bool) : Region.ready md (l ++ [idle o]).toArray listed = Region.ready md (l ++ [o]).toArray listed := by
  unfold Region.ready
  have hs : (l ++ [idle o]).toArray.size = (l ++ [o]).toArray.size := by simp
  rw [hs]
  refine List.filter_congr fun i _ => ?_
  rw [idle_after i (fun e => e.all fun e => !Region.binds md e || listed.getD e.on false)]
theorem idle_yielded (tmps : Array Value) : yielded (l ++ [idle o]).toArray tmps = yielded (l ++ [o]).toArray tmps := by
  funext j
  have : ((l ++ [idle o]).toArray[j]?).bind (·.dst) = ((l ++ [o]).toArray[j]?).bind (·.dst) := by
    by_cases h : j = l.length
    · subst h; rw [last_at, last_at]; rfl
    · rw [idle_other j h]
  unfold yielded
  rw [this]
theorem wpAnyIn_last {C : World → Prop} {r : Nat} {Q : Act → Prop} {Q' : Exit → Act → World → Prop} (hro : F.round = none) (hdst : o.dst = none) (hnd : noDefer (l ++ [o]).toArray = true)
    (h : ∀ a w, C w → Q a → wpListIn (F.inRound r) n P (l ++ [o]).toArray Q' [o] a w) :
    ∀ (f : Nat) (listed : Array Bool) (a : Act) (w : World), C w → comesLast md (l ++ [o]).toArray l.length f listed = true → wpAnyQIn F n P md (l ++ [idle o]).toArray C Q f listed a → wpAnyIn (F.inRound r) n P md (l ++ [o]).toArray Q' f listed a w
  | 0, _, _, _, _, hT, _ => by cases hT
  | f + 1, listed, a, w, hC, hT, hq => by
    simp only [comesLast, Bool.and_eq_true, Bool.not_eq_true'] at hT
    obtain ⟨hne, hall⟩ := hT
    refine ⟨fun h0 => (by rw [h0] at hne; cases hne), fun i hi => ?_⟩
    have hT := List.all_eq_true.1 hall i hi
    have hqi := hq.2 i (by rw [idle_ready]; exact hi)
    by_cases him : i = l.length
    · subst him
      rw [if_pos rfl, List.isEmpty_iff] at hT
      have hput : ∀ v, a.put (idle o).dst v = a := fun v => by
        have : (idle o).dst = none := hdst
        rw [this]; rfl
      have hQa : Q a := by
        have fin : ∀ a', wpAnyQIn F n P md (l ++ [idle o]).toArray C Q f (listed.setIfInBounds l.length true) a' → Q a' := fun a' ha' => by
          cases f with
          | zero => exact ha'.2
          | succ f => exact ha'.1 (by rw [idle_ready]; exact hT)
        unfold qOpIn at hqi
        rw [last_at] at hqi
        simp only at hqi
        obtain ⟨_, hqi⟩ := hqi
        split at hqi
        · obtain ⟨v, _, hv⟩ := hqi
          rw [hput] at hv
          exact fin _ hv
        · rw [hput] at hqi
          exact fin _ hqi
      have hL := h a w hC hQa
      have back : ∀ a' w', Q' .normal a' w' → wpAnyIn (F.inRound r) n P md (l ++ [o]).toArray Q' f (listed.setIfInBounds l.length true) a' w' := fun a' w' hw' => by
        cases f with
        | zero => exact ⟨hT, hw'⟩
        | succ f => exact ⟨fun _ => hw', fun j hj => by rw [hT] at hj; cases hj⟩
      unfold wpOpIn
      rw [last_at]
      simp only [wpListIn] at hL ⊢
      split
      · rename_i hw
        simp only [hw, if_true] at hL
        exact Oper.wpIn_mono back hL
      · rename_i hw
        simp only [hw] at hL
        exact ⟨hL.1, back _ _ hL.2⟩
    · rw [if_neg him] at hT
      refine wpOpIn_round hro hnd (wpOpIn_mono (K := fun a' w' => C w' ∧ wpAnyQIn F n P md (l ++ [idle o]).toArray C Q f (listed.setIfInBounds i true) a') (fun a' w' hk => wpAnyIn_last hro hdst hnd h f _ a' w' hk.1 hT hk.2) ?_)
      refine wpOpIn_of_qOpIn hro hC (fun a' w' hw' hk => ⟨hw', hk⟩) (K := wpAnyQIn F n P md (l ++ [idle o]).toArray C Q f (listed.setIfInBounds i true)) ?_
      unfold qOpIn at hqi ⊢
      rw [idle_other i him, idle_yielded] at hqi
      exact hqi
theorem wpQuietIn_snoc {ops : Array Oper} {C : World → Prop} {Q : Act → Prop} : ∀ (l : List Oper) (a : Act), wpQuietIn F n P ops C (wpQuietIn F n P ops C Q [o]) l a → wpQuietIn F n P ops C Q (l ++ [o]) a
  | [], _, h => h
  | x :: l, a, h => by
    refine ⟨h.1, ?_⟩
    have h2 := h.2
    split at h2
    · rename_i hw
      rw [if_pos hw]
      exact Oper.quietIn_mono (fun a' h' => wpQuietIn_snoc l a' h') h2
    · rename_i hw
      rw [if_neg hw]
      exact wpQuietIn_snoc l _ h2
theorem wpQuietIn_mono' {ops : Array Oper} {C : World → Prop} {Q Q' : Act → Prop} (hh : ∀ a, Q a → Q' a) : ∀ (l : List Oper) (a : Act), wpQuietIn F n P ops C Q l a → wpQuietIn F n P ops C Q' l a
  | [], a, h => hh a h
  | x :: l, a, h => by
    refine ⟨h.1, ?_⟩
    have h2 := h.2
    split at h2
    · rename_i hw
      rw [if_pos hw]
      exact Oper.quietIn_mono (fun a' h' => wpQuietIn_mono' hh l a' h') h2
    · rename_i hw
      rw [if_neg hw]
      exact wpQuietIn_mono' hh l _ h2
theorem idle_quiet {ops : Array Oper} {C : World → Prop} {Q : Act → Prop} (hdst : o.dst = none) (a : Act) (h : Q a) : wpQuietIn F n P ops C Q [idle o] a := by
  have hput : ∀ v, a.put (idle o).dst v = a := fun v => by
    have : (idle o).dst = none := hdst
    rw [this]; rfl
  refine ⟨fun w _ f hf => (by cases hf), ?_⟩
  split
  · refine ⟨_, fun w _ => ⟨rfl, rfl⟩, ?_⟩
    rw [hput]; exact h
  · rw [hput]; exact h
/-- **A region whose operation at place m comes last.** -/
theorem wpIn_region_last {S : World → Prop} {id r : Nat} {Q : Exit → Act → World → Prop} {a : Act} {w : World} {os L : List Oper} {o : Oper} (hos : os = L ++ [o]) (hS : S w.drew) (hro : F.round = none) (hnd : noDefer os.toArray = true) (hm : P.follows .mixedOrders = true)
    (hB : Region.lexB .any (L ++ [idle o]).toArray = true) (hT : comesLast .any os.toArray L.length os.length (Array.replicate os.length false) = true) (hdst : o.dst = none)
    (h : wpQuietIn F n P (L ++ [idle o]).toArray (fun w' => ∃ i : KeptBy S, w' = i.world) (fun a' => ∀ w', S w' → wpListIn (F.inRound r) n P os.toArray Q [o] a' w') L a) : (Code.region id os.toArray true).wpIn (F.inRound r) n P Q a w := by
  subst hos
  refine wpIn_region_any hm ?_
  simp only [Region.lexB, Bool.and_eq_true] at hB
  have hq := wpAnyQIn_lex (F := F) (n := n) (C := fun w' => ∃ i : KeptBy S, w' = i.world) (md := .any) hB.1 (L ++ [idle o]) 0 (Array.replicate (L ++ [idle o]).toArray.size false) a (by simp) (by simpa using hB.2) (wpQuietIn_snoc L a (by
    refine wpQuietIn_mono' (fun a' h' => idle_quiet hdst a' h') L a h))
  have hsz : (L ++ [idle o]).length = (L ++ [o]).length := by simp
  rw [hsz] at hq
  have := wpAnyIn_last (C := fun w' => ∃ i : KeptBy S, w' = i.world) (r := r) (Q := fun a' => ∀ w', S w' → wpListIn (F.inRound r) n P (L ++ [o]).toArray Q [o] a' w') (Q' := Q) hro hdst hnd (fun a' w' hC hQ => hQ w' (by obtain ⟨i, hi⟩ := hC; rw [hi]; exact i.ok)) _ _ a w.drew (⟨⟨w.drew, hS⟩, rfl⟩ : ∃ i : KeptBy S, w.drew = i.world) hT (by simpa using hq)
  simpa using this
theorem wpIn_region_last_at {S : World → Prop} {id r : Nat} (m : Nat) {Q : Exit → Act → World → Prop} {a : Act} {w : World} {os : List Oper} {o : Oper} (hd : os.drop m = [o]) (hS : S w.drew) (hro : F.round = none) (hnd : noDefer os.toArray = true) (hm : P.follows .mixedOrders = true)
    (hB : Region.lexB .any (os.take m ++ [idle o]).toArray = true) (hT : comesLast .any os.toArray (os.take m).length os.length (Array.replicate os.length false) = true) (hdst : o.dst = none)
    (h : wpQuietIn F n P (os.take m ++ [idle o]).toArray (fun w' => ∃ i : KeptBy S, w' = i.world) (fun a' => ∀ w', S w' → wpListIn (F.inRound r) n P os.toArray Q [o] a' w') (os.take m) a) : (Code.region id os.toArray true).wpIn (F.inRound r) n P Q a w :=
  wpIn_region_last (by rw [← hd, List.take_append_drop]) hS hro hnd hm hB hT hdst h
end Go.Proofs.Ytpogmnkedohdcaa
namespace Go.Proofs.Ytpogmnkedohdcaa
open Go.RowKit
/-- Whatever is neither cells nor a map or what goes through one lies as it lay. -/
structure KeepsRecs (W W' : World) : Prop where
  size : W.heap.size ≤ W'.heap.size
  same : ∀ (j : Nat) (o : Obj), W.heap[j]? = some o → o.isCells = false → o.isWalk = false → W'.heap[j]? = some o
theorem keepsOthers_recs {W W' : World} (h : KeepsOthers W W') : KeepsRecs W W' := ⟨h.size, fun j o h1 h2 _ => h.same j o h1 h2⟩
theorem KeepsRecs.trans {A B C : World} (h : KeepsRecs A B) (k : KeepsRecs B C) : KeepsRecs A C := ⟨Nat.le_trans h.size k.size, fun j o h1 h2 h3 => k.same j o (h.same j o h1 h2 h3) h2 h3⟩
theorem KeepsRecs.map {W W' : World} {b : Nat} (hg : W.grownBy W' (some b)) (hb : ∃ es c, W.heap[b]? = some (.map es c)) : KeepsRecs W W' := by
  refine ⟨hg.size, fun j o h1 h2 h3 => ?_⟩
  obtain ⟨es, c, hb⟩ := hb
  have hne : j ≠ b := fun e => by subst e; rw [hb] at h1; injection h1 with h1; subst h1; cases h3
  exact (hg.block j (Array.getElem?_eq_some_iff.1 h1).1 (fun e => hne (by injection e))).trans h1
theorem Held.recs {w A B : World} {o : Obj} (h : Held w A o) (ho : o.isCells = false) (hw : o.isWalk = false) (hk : KeepsRecs A B) : Held w B o := ⟨hk.same _ _ h.1 ho hw, hk.same _ _ h.2 rfl rfl⟩
/-- How the body of round k may end. -/
def countEndM (I : Nat → World → Prop) (X : Code → Nat → World → Prop) (k : Nat) (W : World) : Exit → Act → World → Prop
  | .normal, _, V => KeepsRecs W V ∧ I (k + 1) V
  | .ret, _, V => KeepsRecs W V ∧ X .ret k V
  | .exit id, _, V => KeepsRecs W V ∧ X (.exit id) k V
  | .goto t, _, V => KeepsRecs W V ∧ X (.goto t) k V
  | .panic _, _, _ => False
  | .outgrown, _, _ => False
variable {F : Fence} {n : Nat} {P : Program}
/-- **The statement 'for x := range f', f an iterator of N rounds.** -/
theorem wpIn_rangeFunc_counted_map {g : Operand} {ps : Array Tmp} {assign body : Code} {Q : Exit → Act → World → Prop} {a : Act} {w : World}
    (hro : F.round = none) (h1 : 1 ≤ n) {gf : Nat} {lb : Array Value} (hg : a.eval g = .func (.func gf) #[] lb) (hFg : F.fn gf) (eg : ∀ args V, (callFunc gf args).run P V = .ok (.enter gf args) V)
    {at_ : Nat → Array Value} {Kp : World → Prop} {N : Nat} {w0 : World} (hseq : Counted F (n - 1) P gf lb at_ Kp N w0) (hb0 : Below w0.heap.size w0 w) (hps : ∀ k, (at_ k).size = ps.size)
    (I : Nat → World → Prop) (X : Code → Nat → World → Prop) (hI : OwnFrom w.heap.size I) (hX : ∀ c, OwnFrom w.heap.size (X c)) (hKp : ∀ k V, I k V → Kp V) (h0 : I 0 w) (a₁ : Nat → Act)
    (hassign : ∀ (l k : Nat) (W : World) (K : Act → World → Prop), K (a₁ k) W →
      assign.wpIn (F.inRound l) (n - 1 - 1) P (Exit.then K (fun _ _ _ => False)) { tmps := (ps.zip (at_ k)).foldl (fun t (p, v) => t.setIfInBounds p v) a.tmps, defers := [] } W)
    (hbody : ∀ (l k : Nat) (W : World), k < N → I k W → body.wpIn (F.inRound l) (n - 1 - 1) P (countEndM I X k W) (a₁ k) W)
    (hdone : ∀ (D : Nat) (W : World), w.heap.size ≤ D → I N W → W.heap[D]? = some (.deferred (some [])) → Q .normal { a with defers := { target := .collected D, args := #[] } :: a.defers } W)
    (hstop : ∀ (D k : Nat) (c : Code) (W : World), w.heap.size ≤ D → k < N → X c k W → W.heap[D]? = some (.deferred (some [])) → c.wpIn F n P Q { a with defers := { target := .collected D, args := #[] } :: a.defers } W) :
    (Code.rangeFunc g ps assign body).wpIn F n P Q a w := by
  refine wpIn_rangeFunc fun fn hfn => ?_
  rw [hro]
  obtain ⟨rec, hrec⟩ : ∃ rec : LoopState → Option Code → Obj, rec = recordOf w fn a ps assign body := ⟨_, rfl⟩
  have held : Held w ((w.alloc (.deferred (some []))).alloc (rec .ready none)) (rec .ready none) := by
    refine ⟨?_, (Below.heap_alloc _ _ _ (by simp)).trans (World.alloc_heap_new w _)⟩
    have := World.alloc_heap_new (w.alloc (.deferred (some []))) (rec .ready none)
    rwa [World.size_alloc] at this
  have hI1 : I 0 ((w.alloc (.deferred (some []))).alloc (rec .ready none)) := hI.alloc _ (hI.alloc _ h0)
  have hb1 : Below w0.heap.size w0 ((w.alloc (.deferred (some []))).alloc (rec .ready none)) := hb0.trans ((((Below.refl _ w).alloc (Nat.le_refl _) _).alloc (by simp) _).mono hb0.size)
  have hsz : w.heap.size ≤ ((w.alloc (.deferred (some []))).alloc (rec .ready none)).heap.size := by simp; omega
  obtain ⟨W1, hW1⟩ : ∃ W1, (w.alloc (.deferred (some []))).alloc (rec .ready none) = W1 := ⟨_, rfl⟩
  rw [hW1] at held hI1 hb1 hsz
  refine ⟨w.heap.size + 1, [{ target := .collected w.heap.size, args := #[] }], W1, { target := .fn (.func gf) lb, args := #[.func (.yield (w.heap.size + 1)) #[] #[]] }, W1, gf, #[.func (.yield (w.heap.size + 1)) #[] #[]] ++ lb, W1,
    by rw [← hW1, hrec]; exact run_enterLoop_outer _ _ _ _ _, by simp only [resolve, hg]; simp [go_sem], fun f' hf' => by simp [Target.leads] at hf'; subst hf'; exact hFg, by simp [invoke, go_sem, eg], fun _ => h1, ?_⟩
  have nowalk : ∀ {A : World} {row : Option Nat}, (∀ r, row = some r → W1.heap.size ≤ r ∧ ∃ o : Obj, A.heap[r]? = some o ∧ o.isWalk = true) → (∀ r, row = some r → w.heap.size ≤ r ∧ ∃ o : Obj, A.heap[r]? = some o ∧ o.isCells = false) :=
    fun hr r e => by obtain ⟨hB, o, ho, hw⟩ := hr r e; exact ⟨by omega, o, ho, Obj.not_cells_of_walk hw⟩
  have recW : ∀ st pe, (rec st pe).isWalk = false := fun _ _ => by rw [hrec]; rfl
  have recC : ∀ st pe, (rec st pe).isCells = false := fun _ _ => by rw [hrec]; rfl
  refine (hseq (w.heap.size + 1) (fun k W => I k W ∧ Held w W (rec .ready none)) (fun k W => ∃ c, X c k W ∧ Held w W (rec .done (some c))) W1 hb1
    (fun s A B row hs hg' hr => ⟨hI s A B row hs.1 hg' (nowalk hr), hs.2.kept (recW _ _) hg' (fun r e => (hr r e).2)⟩)
    (fun s A B row hs hg' hr => by obtain ⟨c, hc, hh⟩ := hs; exact ⟨c, hX c s A B row hc hg' (nowalk hr), hh.kept (recW _ _) hg' (fun r e => (hr r e).2)⟩)
    (fun k V hj => hKp k V hj.1) ?round ⟨hI1, held⟩).mono ?behind
  case round =>
    rintro k W hk ⟨hi, hh⟩
    have hl : W.heap[w.heap.size + 1]? = some (.loop { state := .ready, pending := none, fn := fn, tmps := a.tmps, params := ps, assign := assign, body := body, defers := w.heap.size }) := by have := hh.1; rw [hrec] at this; exact this
    refine ⟨fn, _, assign, body, run_yield (P := P) (args := at_ k) hl (hps k), roundIn_of_wpIn hfn (hassign _ k W _ ⟨_, run_beginRound hl rfl, ?_⟩)⟩
    have busy : Held w (W.putObj (w.heap.size + 1) (rec .busy none)) (rec .busy none) := hh.turned _
    have hi2 : I k (W.putObj (w.heap.size + 1) (rec .busy none)) := hI.putObj _ hi (by omega) hl rfl
    have fin : ∀ (jump : Option Code) (V : World), KeepsRecs (W.putObj (w.heap.size + 1) (rec .busy none)) V → ∃ r : Loop, V.heap[w.heap.size + 1]? = some (.loop r) ∧
        (Instr.endRound (w.heap.size + 1) jump).run P V = .ok (.bool jump.isNone) (V.putObj (w.heap.size + 1) (rec (if jump.isNone then .ready else .done) jump)) ∧ Held w (V.putObj (w.heap.size + 1) (rec (if jump.isNone then .ready else .done) jump)) (rec (if jump.isNone then .ready else .done) jump) := fun jump V hkV => by
      have hv := busy.recs (recC _ _) (recW _ _) hkV
      have hv1 := hv.1
      rw [hrec] at hv1
      have hr := run_endRound (P := P) jump hv1
      refine ⟨_, hv1, ?_, hv.turned _⟩
      rw [hrec]; exact hr
    rw [hrec] at hi2 busy
    refine wpIn_mono (hbody _ k _ hk hi2) ?_
    rintro e a3 V hp
    have stop : ∀ c : Code, KeepsRecs (W.putObj (w.heap.size + 1) (recordOf w fn a ps assign body .busy none)) V ∧ X c k V →
        ∃ v V', (Instr.endRound (w.heap.size + 1) (some c)).run P V = .ok v V' ∧ ((Ending.returned v = .returned (.bool true) ∧ (I (k + 1) V' ∧ Held w V' (rec .ready none))) ∨ (Ending.returned v = .returned (.bool false) ∧ ∃ c, X c k V' ∧ Held w V' (rec .done (some c)))) := fun c hc => by
      obtain ⟨r, hl3, hr, hh3⟩ := fin (some c) V (by rw [hrec]; exact hc.1)
      exact ⟨_, _, hr, .inr ⟨rfl, c, (hX c).putObj _ hc.2 (by omega) hl3 rfl, hh3⟩⟩
    cases e with
    | normal =>
      obtain ⟨hk3, hi3⟩ := hp
      obtain ⟨r, hl3, hr, hh3⟩ := fin none V (by rw [hrec]; exact hk3)
      exact ⟨_, _, hr, .inl ⟨rfl, hI.putObj _ hi3 (by omega) hl3 rfl, hh3⟩⟩
    | ret => exact stop _ hp
    | exit id => exact stop _ hp
    | goto t => exact stop _ hp
    | panic ch => exact hp.elim
    | outgrown => exact hp.elim
  case behind =>
    rintro e V ⟨⟨v, rfl⟩, (⟨hi, hh⟩ | ⟨k, hk, c, hc, hh⟩)⟩
    · have hl := hh.1
      rw [hrec] at hl
      refine ⟨none, _, run_endLoop (P := P) hl (by simp), hdone _ _ (Nat.le_refl _) (hI.putObj _ hi (by omega) hl rfl) ?_⟩
      exact (World.putObj_heap_other (by omega)).trans hh.2
    · have hl := hh.1
      rw [hrec] at hl
      refine ⟨some c, _, run_endLoop (P := P) hl (by simp), hstop _ k c _ (Nat.le_refl _) hk ((hX c).putObj _ hc (by omega) hl rfl) ?_⟩
      exact (World.putObj_heap_other (by omega)).trans hh.2
end Go.Proofs.Ytpogmnkedohdcaa
namespace Go.Proofs.Ytpogmnkedohdcaa
open Go.RowKit
/-- What a draw of a pair and a number returns. -/
def DrawnOne (w : World) (e : Ending) (w' : World) : Prop :=
  ∃ p q a : Int, e = .returned (.tuple #[pr p q, .int .i64 a]) ∧ -6 ≤ p ∧ p ≤ 100 ∧ -6 ≤ q ∧ q ≤ 100 ∧ -60 ≤ a ∧ a ≤ 60 ∧ Below w.heap.size w w'
/-- What a draw of a pair and two numbers returns. -/
def DrawnBoth (w : World) (e : Ending) (w' : World) : Prop :=
  ∃ p q a b : Int, e = .returned (.tuple #[pr p q, .int .i64 a, .int .i64 b]) ∧ -6 ≤ p ∧ p ≤ 100 ∧ -6 ≤ q ∧ q ≤ 100 ∧ -60 ≤ a ∧ a ≤ 60 ∧ -60 ≤ b ∧ b ≤ 60 ∧ Below w.heap.size w w'
end Go.Proofs.Ytpogmnkedohdcaa
namespace Go.Proofs.Ytpogmnkedohdcaa
open Go.RowKit
theorem six {v : Int} (h0 : 0 ≤ v) (h1 : v ≤ 5) : v = 0 ∨ v = 1 ∨ v = 2 ∨ v = 3 ∨ v = 4 ∨ v = 5 := by omega
end Go.Proofs.Ytpogmnkedohdcaa
namespace Go.Proofs.Ytpogmnkedohdcaa
open Go.RowKit
theorem apartB_neg (p q : Int) : apartB (-p) q = apartB p q := by
  have h : pairB (-p) q = pairB p q := by
    have h2 := pairB_neg p q
    simp only [pairB, numB] at *
    have : decide (-4 ≤ -p ∧ -p ≤ 4) = decide (-4 ≤ p ∧ p ≤ 4) := decide_eq_decide.2 (by omega)
    rw [this]
  rw [apartB, apartB, h, Int.neg_gcd]
theorem apartB_neg2 (p q : Int) : apartB p (-q) = apartB p q := by
  have h : pairB p (-q) = pairB p q := by
    simp only [pairB, numB]
    have : decide (-4 ≤ -q ∧ -q ≤ 4) = decide (-4 ≤ q ∧ q ≤ 4) := decide_eq_decide.2 (by omega)
    rw [this]
  rw [apartB, apartB, h, Int.gcd_neg]
theorem apartB_apart {p q : Int} (h : apartB p q = true) : pairB p q = true ∧ Apart p q := by
  have h' : pairB p q = true ∧ Int.gcd p q = 1 := by simpa [apartB] using h
  exact ⟨h'.1, apart_gcd.1 h'.2⟩
end Go.Proofs.Ytpogmnkedohdcaa
namespace Go.Proofs.Ytpogmnkedohdcaa
open Go.RowKit
end Go.Proofs.Ytpogmnkedohdcaa
