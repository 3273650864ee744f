/- Contracts and laws that the statement's proof stands on, one text behind the other. -/
import Derived.KernelRfl
import GoSem.Op.String
import Derived.Test.YtlmlcbhllodncaaProg
import Derived.WalkKit
import Derived.Lib.Hide
import Derived.WalkSpells
import Derived.WalkLawsBesides
import Derived.Deep.AppendLies
import Derived.Deep.RegionLawGrows
import Derived.Deep.QuietTactic
import Derived.BigQuiet
import Derived.IntWalk
import Derived.Deep.RegionHeld3
import Derived.RangeFuncNested
import Derived.RangeFuncBound
import Derived.RangeFuncCalls
import Derived.RangeFuncLeaves
import Derived.Shelf.Abstract
import Derived.Shelf.RegionOpen
import Derived.OwnWalkIn
import Derived.TacticsInMore
import Derived.LoopNIn
import Derived.LoopIn
import Derived.Sort.LoopGhostIn
import Derived.Sort.QuietIn
import Derived.Test.YtlmlcbhllodncaaBitLen
import Derived.Lib.RabinKarpLaws
import Derived.Laws.IdiomStrings
import Derived.RangeFuncBox

namespace Go.Proofs.Ytlmlcbhllodncaa
/-- A number of a pair. -/
def numB (n : Int) : Bool := decide (-4 ≤ n ∧ n ≤ 4)
/-- Both numbers of a pair. -/
def pairB (p q : Int) : Bool := numB p && numB q
/-- A place of a row. -/
def placeB (k : Int) : Bool := decide (0 ≤ k ∧ k ≤ 20)
theorem numB_true {n : Int} (h : numB n = true) : -4 ≤ n ∧ n ≤ 4 := by simpa [numB] using h
theorem numB_false {n : Int} (h : numB n = false) : n < -4 ∨ 4 < n := by
  have h' : ¬ (-4 ≤ n ∧ n ≤ 4) := by simpa [numB] using h
  omega
theorem numB_mk {n : Int} (h1 : -4 ≤ n) (h2 : n ≤ 4) : numB n = true := by simp [numB, h1, h2]
theorem numB_no {n : Int} (h : n < -4 ∨ 4 < n) : numB n = false := by
  have h' : ¬ (-4 ≤ n ∧ n ≤ 4) := by omega
  simp only [numB, h', decide_false]
theorem placeB_true {n : Int} (h : placeB n = true) : 0 ≤ n ∧ n ≤ 20 := by simpa [placeB] using h
theorem placeB_false {n : Int} (h : placeB n = false) : n < 0 ∨ 20 < n := by
  have h' : ¬ (0 ≤ n ∧ n ≤ 20) := by simpa [placeB] using h
  omega
theorem placeB_mk {n : Int} (h1 : 0 ≤ n) (h2 : n ≤ 20) : placeB n = true := by simp [placeB, h1, h2]
theorem placeB_no {n : Int} (h : n < 0 ∨ 20 < n) : placeB n = false := by
  have h' : ¬ (0 ≤ n ∧ n ≤ 20) := by omega
  simp only [placeB, h', decide_false]
theorem pairB_true {p q : Int} (h : pairB p q = true) : (-4 ≤ p ∧ p ≤ 4) ∧ (-4 ≤ q ∧ q ≤ 4) := by
  have h' : numB p = true ∧ numB q = true := by simpa [pairB] using h
  exact ⟨numB_true h'.1, numB_true h'.2⟩
theorem pairB_mk {p q : Int} (h1 : -4 ≤ p) (h2 : p ≤ 4) (h3 : -4 ≤ q) (h4 : q ≤ 4) : pairB p q = true := by simp [pairB, numB_mk, h1, h2, h3, h4]
/-- The numbers of a row that begins with a and b. -/
def row (p q a b : Int) : Nat → Int
  | 0 => a
  | 1 => b
  | n + 2 => p * row p q a b (n + 1) - q * row p q a b n
theorem row_step (p q a b : Int) (n : Nat) : row p q a b (n + 2) = p * row p q a b (n + 1) - q * row p q a b n := rfl
/-- The product of two bounded numbers. -/
theorem mul_bd {a b x y : Int} (h1 : -a ≤ x) (h2 : x ≤ a) (h3 : -b ≤ y) (h4 : y ≤ b) : -(a * b) ≤ x * y ∧ x * y ≤ a * b := by
  have ha : 0 ≤ a := by omega
  have hb : 0 ≤ b := by omega
  have hx : x.natAbs ≤ a.natAbs := by omega
  have hy : y.natAbs ≤ b.natAbs := by omega
  have h : (x * y).natAbs ≤ (a * b).natAbs := by rw [Int.natAbs_mul, Int.natAbs_mul]; exact Nat.mul_le_mul hx hy
  have hab : 0 ≤ a * b := Int.mul_nonneg ha hb
  omega
/-- How great the numbers of a row may be. -/
def cap (c : Int) : Nat → Int
  | 0 => c
  | n + 1 => 5 * cap c n
theorem cap_nonneg {c : Int} (h : 0 ≤ c) : ∀ n, 0 ≤ cap c n
  | 0 => h
  | n + 1 => by have := cap_nonneg h n; simp only [cap]; omega
theorem row_bd {p q a b : Int} (hp : -4 ≤ p) (hp' : p ≤ 4) (hq : -4 ≤ q) (hq' : q ≤ 4) {c : Int} (hc : 0 ≤ c) (ha : -c ≤ a) (ha' : a ≤ c) (hb : -(5 * c) ≤ b) (hb' : b ≤ 5 * c) :
    ∀ n, (-(cap c n) ≤ row p q a b n ∧ row p q a b n ≤ cap c n) ∧ (-(cap c (n + 1)) ≤ row p q a b (n + 1) ∧ row p q a b (n + 1) ≤ cap c (n + 1))
  | 0 => ⟨⟨ha, ha'⟩, hb, hb'⟩
  | n + 1 => by
    obtain ⟨⟨h1, h2⟩, h3, h4⟩ := row_bd hp hp' hq hq' hc ha ha' hb hb' n
    refine ⟨⟨h3, h4⟩, ?_⟩
    have e := row_step p q a b n
    have m1 := mul_bd (a := 4) hp hp' h3 h4
    have m2 := mul_bd (a := 4) hq hq' h1 h2
    have hn := cap_nonneg hc n
    have e2 : cap c (n + 1 + 1) = 5 * cap c (n + 1) := rfl
    have e1 : cap c (n + 1) = 5 * cap c n := rfl
    rw [e]
    omega
end Go.Proofs.Ytlmlcbhllodncaa
namespace Go.Proofs.Ytlmlcbhllodncaa
theorem two_steps {P : Nat → Prop} (h0 : P 0) (h1 : P 1) (hs : ∀ n, P n → P (n + 1) → P (n + 2)) : ∀ n, P n := by
  have : ∀ n, P n ∧ P (n + 1) := fun n => by
    induction n with
    | zero => exact ⟨h0, h1⟩
    | succ n ih => exact ⟨ih.2, hs n ih.1 ih.2⟩
  exact fun n => (this n).1
/-- The second row is told by the first one. -/
theorem second_of_first (p q : Int) : ∀ n, row p q 2 p n = 2 * row p q 0 1 (n + 1) - p * row p q 0 1 n := by
  refine two_steps ?_ ?_ ?_
  · simp [row]
  · simp only [row]; grind
  · intro n h1 h2
    have e1 : row p q 2 p (n + 2) = p * row p q 2 p (n + 1) - q * row p q 2 p n := rfl
    have e2 : row p q 0 1 (n + 1 + 1) = p * row p q 0 1 (n + 1) - q * row p q 0 1 n := rfl
    have e3 : row p q 0 1 (n + 2 + 1) = p * row p q 0 1 (n + 1 + 1) - q * row p q 0 1 (n + 1) := rfl
    rw [e1, h1, h2, e3]
    have e4 : row p q 0 1 (n + 2) = row p q 0 1 (n + 1 + 1) := rfl
    rw [e4, e2]
    grind
/-- The norm of two neighbours is a power. -/
theorem row_norm (p q : Int) : ∀ n, row p q 0 1 (n + 1) * row p q 0 1 (n + 1) - p * row p q 0 1 n * row p q 0 1 (n + 1) + q * row p q 0 1 n * row p q 0 1 n = q ^ n := by
  intro n
  induction n with
  | zero => simp [row]
  | succ n ih =>
    have e : row p q 0 1 (n + 1 + 1) = p * row p q 0 1 (n + 1) - q * row p q 0 1 n := rfl
    rw [e, Int.pow_succ, ← ih]
    grind
/-- Both rows belong together. -/
theorem row_square (p q : Int) (n : Nat) : row p q 2 p n * row p q 2 p n - (p * p - 4 * q) * row p q 0 1 n * row p q 0 1 n = 4 * q ^ n := by
  rw [second_of_first, ← row_norm p q n]
  grind
/-- A power of a number of a pair. -/
theorem pow_bd {a : Int} (h1 : -4 ≤ a) (h2 : a ≤ 4) : ∀ n : Nat, -(4 ^ n) ≤ a ^ n ∧ a ^ n ≤ 4 ^ n
  | 0 => by simp
  | n + 1 => by
    obtain ⟨m1, m2⟩ := pow_bd h1 h2 n
    have := mul_bd m1 m2 h1 h2
    rw [Int.pow_succ, Int.pow_succ]
    exact this
theorem pow_small {a : Int} (h1 : -4 ≤ a) (h2 : a ≤ 4) (n : Nat) (hn : n ≤ 25) : -1125899906842624 ≤ a ^ n ∧ a ^ n ≤ 1125899906842624 := by
  obtain ⟨m1, m2⟩ := pow_bd h1 h2 n
  have e : (4 : Int) ^ n ≤ 4 ^ 25 := by
    have := Nat.pow_le_pow_right (n := 4) (by omega) hn
    exact_mod_cast this
  have e2 : (4 : Int) ^ 25 = 1125899906842624 := by decide +kernel
  omega
/-- The sign at a place of a turned first row. -/
def sgn : Nat → Int
  | 0 => -1
  | n + 1 => -sgn n
theorem sgn_mod : ∀ n : Nat, sgn n = -(1 - (n : Int) % 2 * 2)
  | 0 => rfl
  | n + 1 => by simp only [sgn, sgn_mod n]; omega
/-- Turned pairs change every second sign. -/
theorem row_turn (p q : Int) : ∀ n, row (-p) q 0 1 n = sgn n * row p q 0 1 n ∧ row (-p) q 2 (-p) n = -sgn n * row p q 2 p n := by
  refine two_steps ?_ ?_ ?_
  · simp [row, sgn]
  · simp [row, sgn]
  · rintro n ⟨h1, h2⟩ ⟨h3, h4⟩
    have a1 : row (-p) q 0 1 (n + 2) = (-p) * row (-p) q 0 1 (n + 1) - q * row (-p) q 0 1 n := rfl
    have a2 : row (-p) q 2 (-p) (n + 2) = (-p) * row (-p) q 2 (-p) (n + 1) - q * row (-p) q 2 (-p) n := rfl
    have b1 : row p q 0 1 (n + 2) = p * row p q 0 1 (n + 1) - q * row p q 0 1 n := rfl
    have b2 : row p q 2 p (n + 2) = p * row p q 2 p (n + 1) - q * row p q 2 p n := rfl
    have s1 : sgn (n + 1) = -sgn n := rfl
    have s2 : sgn (n + 2) = sgn n := by show - - sgn n = sgn n; omega
    rw [a1, a2, b1, b2, h1, h2, h3, h4, s1, s2]
    clear h1 h2 h3 h4 a1 a2 b1 b2 s1 s2
    constructor <;> grind
end Go.Proofs.Ytlmlcbhllodncaa
namespace Go.Proofs.Ytlmlcbhllodncaa
def cntN (s d : Nat) : Nat → Nat
  | 0 => 1
  | 1 => s
  | k + 2 => s * cntN s d (k + 1) + d * cntN s d k
theorem cntN_row (s d : Nat) : ∀ n, (cntN s d n : Int) = row s (-(d : Int)) 0 1 (n + 1)
  | 0 => rfl
  | 1 => by rw [cntN]; show (s : Int) = (s : Int) * 1 - (-(d : Int)) * 0; omega
  | n + 2 => by
    have h1 := cntN_row s d (n + 1)
    have h0 := cntN_row s d n
    rw [cntN, row_step, ← h1, ← h0, Int.natCast_add, Int.natCast_mul, Int.natCast_mul]
    rw [Int.neg_mul, Int.sub_neg]
theorem cntN_ring (s d : Nat) : ∀ n, (cntN s d (n + 2) : Int) + d * cntN s d n = row s (-(d : Int)) 2 s (n + 2)
  | 0 => by
    show ((s * s + d * 1 : Nat) : Int) + (d : Int) * 1 = (s : Int) * s - (-(d : Int)) * 2
    rw [Int.natCast_add, Int.natCast_mul]
    grind
  | 1 => by
    show ((s * (s * s + d * 1) + d * s : Nat) : Int) + (d : Int) * s = (s : Int) * ((s : Int) * s - (-(d : Int)) * 2) - (-(d : Int)) * s
    rw [Int.natCast_add, Int.natCast_mul, Int.natCast_add, Int.natCast_mul]
    grind
  | n + 2 => by
    have h1 := cntN_ring s d (n + 1)
    have h0 := cntN_ring s d n
    rw [row_step, ← h1, ← h0]
    have e1 : cntN s d (n + 2 + 2) = s * cntN s d (n + 1 + 2) + d * cntN s d (n + 2) := rfl
    have e2 : cntN s d (n + 2) = s * cntN s d (n + 1) + d * cntN s d n := rfl
    rw [e1, Int.natCast_add, Int.natCast_mul, Int.natCast_mul]
    have e3 : (cntN s d (n + 2) : Int) = s * cntN s d (n + 1) + d * cntN s d n := by rw [e2, Int.natCast_add, Int.natCast_mul, Int.natCast_mul]
    generalize (cntN s d (n + 1 + 2) : Int) = x at *
    generalize (cntN s d (n + 2) : Int) = y at *
    generalize (cntN s d (n + 1) : Int) = u at *
    generalize (cntN s d n : Int) = v at *
    clear e1 e2 h1 h0
    subst e3
    grind
theorem cntN_bd : ∀ s, s < 4 → ∀ d, d < 4 → ∀ n, n < 10 → cntN s d n ≤ 200000 := by decide +kernel
theorem cntN_cut : ∀ s, s < 4 → ∀ d, d < 4 → ∀ n, n < 9 → ∀ b, b < n → 0 < b → cntN s d n = cntN s d b * cntN s d (n - b) + d * cntN s d (b - 1) * cntN s d (n - b - 1) := by decide +kernel
theorem cntN_two (s d b c : Nat) (h : 2 ≤ b) : s * (cntN s d (b - 1) * c) + d * (cntN s d (b - 2) * c) = cntN s d b * c := by
  obtain ⟨b, rfl⟩ : ∃ t, b = t + 2 := ⟨b - 2, by omega⟩
  show s * (cntN s d (b + 1) * c) + d * (cntN s d b * c) = (s * cntN s d (b + 1) + d * cntN s d b) * c
  rw [Nat.add_mul, Nat.mul_assoc, Nat.mul_assoc]
/-- A domino's, a square's letter. -/
def domB (k : Nat) : UInt8 := UInt8.ofNat (65 + k)
def sqB (k : Nat) : UInt8 := UInt8.ofNat (97 + k)
/-- All ways, as lists of bytes, in order. -/
def wayN (s d : Nat) : Nat → List (List UInt8)
  | 0 => [[]]
  | 1 => (List.range s).flatMap fun k => (wayN s d 0).map (sqB k :: ·)
  | n + 2 => ((List.range d).flatMap fun k => (wayN s d n).map (domB k :: ·)) ++ ((List.range s).flatMap fun k => (wayN s d (n + 1)).map (sqB k :: ·))
theorem sum_const {α : Type} (L : List α) (c : Nat) : (L.map fun _ => c).sum = L.length * c := by
  induction L with
  | nil => simp
  | cons x L ih => simp [ih, Nat.add_mul]; omega
theorem wayN_len (s d : Nat) : ∀ n, (wayN s d n).length = cntN s d n
  | 0 => rfl
  | 1 => by
    rw [wayN, List.length_flatMap]
    simp only [List.length_map]
    rw [sum_const, List.length_range, wayN_len s d 0]; simp [cntN]
  | n + 2 => by
    rw [wayN, List.length_append, List.length_flatMap, List.length_flatMap]
    simp only [List.length_map]
    rw [sum_const, sum_const, List.length_range, List.length_range, wayN_len s d n, wayN_len s d (n + 1), cntN]; omega
/-- How many cells a letter lays; whether it is one. -/
def isUp (x : UInt8) : Bool := decide (65 ≤ x.toNat) && decide (x.toNat ≤ 67)
def isLow (x : UInt8) : Bool := decide (97 ≤ x.toNat) && decide (x.toNat ≤ 99)
def cellsL : List UInt8 → Nat
  | [] => 0
  | x :: l => (if isUp x = true then 2 else 1) + cellsL l
def goodL (l : List UInt8) : Bool := l.all fun x => isUp x || isLow x
/-- Whether no domino lies on cell c and the next one. -/
def cutL : List UInt8 → Nat → Bool
  | _, 0 => true
  | [], _ + 1 => false
  | x :: l, c + 1 => if isUp x = true then (match c with | 0 => false | c + 1 => cutL l c) else cutL l c
theorem domB_up : ∀ k, k < 3 → isUp (domB k) = true ∧ isLow (domB k) = false := by decide
theorem sqB_low : ∀ k, k < 3 → isUp (sqB k) = false ∧ isLow (sqB k) = true := by decide
theorem wayN_mem {s d : Nat} (hs : s ≤ 3) (hd : d ≤ 3) : ∀ n, ∀ w ∈ wayN s d n, goodL w = true ∧ cellsL w = n ∧ w.length ≤ n
  | 0, w, h => by
    simp [wayN] at h
    subst h
    exact ⟨rfl, rfl, Nat.le_refl _⟩
  | 1, w, h => by
    simp only [wayN, List.mem_flatMap, List.mem_range, List.mem_map, List.mem_singleton] at h
    obtain ⟨k, hk, v, rfl, rfl⟩ := h
    obtain ⟨h1, h2⟩ := sqB_low k (by omega)
    exact ⟨by simp [goodL, h1, h2], by simp [cellsL, h1], by simp⟩
  | n + 2, w, h => by
    simp only [wayN, List.mem_append, List.mem_flatMap, List.mem_range, List.mem_map] at h
    rcases h with ⟨k, hk, v, hv, rfl⟩ | ⟨k, hk, v, hv, rfl⟩
    · obtain ⟨h1, h2⟩ := domB_up k (by omega)
      obtain ⟨g1, g2, g3⟩ := wayN_mem hs hd n v hv
      rw [goodL] at g1
      exact ⟨by rw [goodL, List.all_cons, h1, g1]; rfl, by simp [cellsL, h1, g2]; omega, by simp; omega⟩
    · obtain ⟨h1, h2⟩ := sqB_low k (by omega)
      obtain ⟨g1, g2, g3⟩ := wayN_mem hs hd (n + 1) v hv
      rw [goodL] at g1
      exact ⟨by rw [goodL, List.all_cons, h2, g1]; simp, by simp [cellsL, h1, g2]; omega, by simp; omega⟩
theorem cutL_up2 {x : UInt8} {l : List UInt8} {c : Nat} (h : isUp x = true) : cutL (x :: l) (c + 2) = cutL l c := by simp [cutL, h]
theorem cutL_up1 {x : UInt8} {l : List UInt8} (h : isUp x = true) : cutL (x :: l) 1 = false := by simp [cutL, h]
theorem cutL_low {x : UInt8} {l : List UInt8} {c : Nat} (h : isUp x = false) : cutL (x :: l) (c + 1) = cutL l c := by cases c <;> simp [cutL, h]
theorem cutL_zero (l : List UInt8) : cutL l 0 = true := by cases l <;> rfl
theorem cutL_all : ∀ l, cutL l (cellsL l) = true
  | [] => rfl
  | x :: l => by
    rw [cellsL]
    by_cases h : isUp x = true
    · rw [if_pos h, show 2 + cellsL l = cellsL l + 2 by omega, cutL_up2 h]; exact cutL_all l
    · rw [if_neg h, show 1 + cellsL l = cellsL l + 1 by omega, cutL_low (by simpa using h)]; exact cutL_all l
/-- How many of the ways may be cut behind b cells. -/
def cutsN (L : List (List UInt8)) (b : Nat) : Nat := (L.filter fun w => cutL w b).length
theorem cutsN_append (A B : List (List UInt8)) (b : Nat) : cutsN (A ++ B) b = cutsN A b + cutsN B b := by simp [cutsN]
theorem cutsN_flat (f : Nat → List (List UInt8)) (b c : Nat) : ∀ (L : List Nat), (∀ k ∈ L, cutsN (f k) b = c) → cutsN (L.flatMap f) b = L.length * c
  | [], _ => by simp [cutsN]
  | k :: L, h => by
    rw [List.flatMap_cons, cutsN_append, h k (by simp), cutsN_flat f b c L (fun j hj => h j (by simp [hj])), List.length_cons, Nat.add_mul]; omega
theorem cutsN_map (L : List (List UInt8)) (x : UInt8) (b c : Nat) (h : ∀ w, cutL (x :: w) b = cutL w c) : cutsN (L.map (x :: ·)) b = cutsN L c := by
  rw [cutsN, cutsN, List.filter_map, List.length_map]
  congr 2
  funext w
  exact h w
theorem cutsN_none (L : List (List UInt8)) (x : UInt8) (b : Nat) (h : ∀ w, cutL (x :: w) b = false) : cutsN (L.map (x :: ·)) b = 0 := by
  rw [cutsN, List.filter_map, List.length_map, List.length_eq_zero_iff, List.filter_eq_nil_iff]
  intro w _
  simp [h w]
theorem cutsN_all (L : List (List UInt8)) : cutsN L 0 = L.length := by
  rw [cutsN]
  congr 1
  rw [List.filter_eq_self]
  intro w _
  exact cutL_zero w
theorem cutsN_way {s d : Nat} (hs : s ≤ 3) (hd : d ≤ 3) : ∀ n b, b ≤ n → cutsN (wayN s d n) b = cntN s d b * cntN s d (n - b)
  | n, 0, _ => by rw [cutsN_all, wayN_len]; simp [cntN]
  | 0, b + 1, h => by omega
  | 1, b + 1, h => by
    obtain rfl : b = 0 := by omega
    rw [wayN, cutsN_flat _ _ 1 _ (fun k hk => by
      have hk' := List.mem_range.1 hk
      rw [cutsN_map _ _ 1 0 (fun w => cutL_low (sqB_low k (by omega)).1)]; rfl)]
    simp [cntN]
  | n + 2, 1, h => by
    rw [wayN, cutsN_append, cutsN_flat _ _ 0 _ (fun k hk => by
      have hk' := List.mem_range.1 hk
      exact cutsN_none _ _ _ (fun w => cutL_up1 (domB_up k (by omega)).1)),
      cutsN_flat _ _ (cntN s d (n + 1)) _ (fun k hk => by
      have hk' := List.mem_range.1 hk
      rw [cutsN_map _ _ 1 0 (fun w => cutL_low (sqB_low k (by omega)).1), cutsN_all, wayN_len])]
    simp [cntN]
  | n + 2, b + 2, h => by
    rw [wayN, cutsN_append, cutsN_flat _ _ (cntN s d b * cntN s d (n - b)) _ (fun k hk => by
      have hk' := List.mem_range.1 hk
      rw [cutsN_map _ _ (b + 2) b (fun w => cutL_up2 (domB_up k (by omega)).1)]
      exact cutsN_way hs hd n b (by omega)),
      cutsN_flat _ _ (cntN s d (b + 1) * cntN s d (n - b)) _ (fun k hk => by
      have hk' := List.mem_range.1 hk
      rw [cutsN_map _ _ (b + 2) (b + 1) (fun w => cutL_low (sqB_low k (by omega)).1)]
      rw [cutsN_way hs hd (n + 1) (b + 1) (by omega), show n + 1 - (b + 1) = n - b by omega])]
    rw [List.length_range, List.length_range, show n + 2 - (b + 2) = n - b by omega, cntN, Nat.add_mul, Nat.mul_assoc, Nat.mul_assoc]; omega
/-- The ways ascend. -/
theorem less_cons (x : UInt8) (u v : List UInt8) (h : Op.bytesLess u v = true) : Op.bytesLess (x :: u) (x :: v) = true := by
  rw [Op.bytesLess, h]; simp
theorem less_head (x y : UInt8) (u v : List UInt8) (h : x < y) : Op.bytesLess (x :: u) (y :: v) = true := by
  rw [Op.bytesLess]; simp [h]
def Asc (L : List (List UInt8)) : Prop := L.Pairwise fun u v => Op.bytesLess u v = true
theorem asc_map {L : List (List UInt8)} (x : UInt8) (h : Asc L) : Asc (L.map (x :: ·)) := by
  rw [Asc, List.pairwise_map]
  exact List.Pairwise.imp (fun {u v} huv => less_cons x u v huv) h
theorem asc_flat (g : Nat → UInt8) (W : List (List UInt8)) (hW : Asc W) : ∀ n, (∀ i j, i < j → j < n → g i < g j) → Asc ((List.range n).flatMap fun k => W.map (g k :: ·))
  | 0, _ => by simp [Asc]
  | n + 1, h => by
    rw [List.range_succ, List.flatMap_append, Asc, List.pairwise_append]
    refine ⟨asc_flat g W hW n (fun i j hij hj => h i j hij (by omega)), ?_, ?_⟩
    · have h2 := asc_map (g n) hW
      rw [List.flatMap_cons, List.flatMap_nil, List.append_nil]; exact h2
    · intro u hu v hv
      simp only [List.mem_flatMap, List.mem_range, List.mem_map, List.flatMap_cons, List.flatMap_nil, List.append_nil] at hu hv
      obtain ⟨k, hk, u', _, rfl⟩ := hu
      obtain ⟨v', _, rfl⟩ := hv
      exact less_head _ _ _ _ (h k n hk (by omega))
theorem domB_asc : ∀ i, i < 3 → ∀ j, j < 3 → i < j → domB i < domB j := by decide
theorem sqB_asc : ∀ i, i < 3 → ∀ j, j < 3 → i < j → sqB i < sqB j := by decide
theorem dom_sq : ∀ i, i < 3 → ∀ j, j < 3 → domB i < sqB j := by decide
theorem wayN_asc {s d : Nat} (hs : s ≤ 3) (hd : d ≤ 3) : ∀ n, Asc (wayN s d n)
  | 0 => by simp [wayN, Asc]
  | 1 => by rw [wayN]; exact asc_flat sqB _ (wayN_asc hs hd 0) s (fun i j hij hj => sqB_asc i (by omega) j (by omega) hij)
  | n + 2 => by
    rw [wayN, Asc, List.pairwise_append]
    refine ⟨asc_flat domB _ (wayN_asc hs hd n) d (fun i j hij hj => domB_asc i (by omega) j (by omega) hij), asc_flat sqB _ (wayN_asc hs hd (n + 1)) s (fun i j hij hj => sqB_asc i (by omega) j (by omega) hij), ?_⟩
    intro u hu v hv
    simp only [List.mem_flatMap, List.mem_range, List.mem_map] at hu hv
    obtain ⟨i, hi, u', _, rfl⟩ := hu
    obtain ⟨j, hj, v', _, rfl⟩ := hv
    exact less_head _ _ _ _ (dom_sq i (by omega) j (by omega))
end Go.Proofs.Ytlmlcbhllodncaa
namespace Go.Proofs.Ytlmlcbhllodncaa
/-- Rows go on from anywhere. -/
theorem row_add (p q : Int) (a : Nat) : ∀ b : Nat, row p q 0 1 (a + 1) * row p q 0 1 (b + 1) - q * row p q 0 1 a * row p q 0 1 b = row p q 0 1 (a + 1 + b) := by
  refine two_steps ?_ ?_ ?_
  · simp [row]
  · have e : row p q 0 1 (a + 1 + 1) = p * row p q 0 1 (a + 1) - q * row p q 0 1 a := rfl
    have e2 : row p q 0 1 (1 + 1) = p := by simp [row]
    have e3 : row p q 0 1 1 = 1 := rfl
    rw [e, e2, e3]
    grind
  · intro b h1 h2
    have e : row p q 0 1 (a + 1 + (b + 2)) = p * row p q 0 1 (a + 1 + (b + 1)) - q * row p q 0 1 (a + 1 + b) := rfl
    have e2 : row p q 0 1 (b + 2 + 1) = p * row p q 0 1 (b + 1 + 1) - q * row p q 0 1 (b + 1) := rfl
    have e3 : row p q 0 1 (b + 2) = p * row p q 0 1 (b + 1) - q * row p q 0 1 b := rfl
    rw [e, ← h1, ← h2, e2, e3]
    clear h1 h2 e e2 e3
    grind
/-- Both rows multiplied are the row at twice the place. -/
theorem row_twice (p q : Int) (n : Nat) : row p q 0 1 n * row p q 2 p n = row p q 0 1 (2 * n) := by
  cases n with
  | zero => simp [row]
  | succ n =>
    have e : row p q 0 1 (n + 1 + 1) = p * row p q 0 1 (n + 1) - q * row p q 0 1 n := rfl
    rw [show 2 * (n + 1) = n + 1 + (n + 1) by omega, ← row_add p q n (n + 1), second_of_first, e]
    clear e
    grind
/-- Middles are powers times squares. -/
theorem row_about (p q : Int) (d r : Nat) : row p q 0 1 (d + r) * row p q 0 1 (d + r) - row p q 0 1 d * row p q 0 1 (d + r + r) = q ^ d * row p q 0 1 r * row p q 0 1 r := by
  cases r with
  | zero => simp [row]
  | succ r =>
    have e0 : row p q 0 1 (r + 1 + 1) = p * row p q 0 1 (r + 1) - q * row p q 0 1 r := rfl
    have e1 : row p q 0 1 (d + (r + 1)) = row p q 0 1 (d + 1) * row p q 0 1 (r + 1) - q * row p q 0 1 d * row p q 0 1 r := by rw [row_add, show d + 1 + r = d + (r + 1) by omega]
    have e2 : row p q 0 1 (r + 1 + r) = row p q 0 1 (r + 1) * row p q 0 1 (r + 1) - q * row p q 0 1 r * row p q 0 1 r := (row_add p q r r).symm
    have e3 : row p q 0 1 (r + 1 + r + 1) = row p q 0 1 (r + 1) * row p q 0 1 (r + 1 + 1) - q * row p q 0 1 r * row p q 0 1 (r + 1) := by rw [row_add, show r + 1 + (r + 1) = r + 1 + r + 1 by omega]
    have e4 : row p q 0 1 (d + (r + 1) + (r + 1)) = row p q 0 1 (d + 1) * row p q 0 1 (r + 1 + r + 1) - q * row p q 0 1 d * row p q 0 1 (r + 1 + r) := by rw [row_add, show d + 1 + (r + 1 + r) = d + (r + 1) + (r + 1) by omega]
    rw [e4, e3, e2, e1, e0, ← row_norm p q d]
    clear e0 e1 e2 e3 e4
    grind
/-- The sum of the numbers of the first row up to a place. -/
def rowSum (p q : Int) : Nat → Int
  | 0 => 0
  | n + 1 => rowSum p q n + row p q 0 1 n
/-- Sums are told by two numbers. -/
theorem row_sum (p q : Int) : ∀ n : Nat, rowSum p q (n + 1) * (p - q - 1) = row p q 0 1 (n + 1) - q * row p q 0 1 n - 1
  | 0 => by simp [rowSum, row]
  | n + 1 => by
    have ih := row_sum p q n
    have e : row p q 0 1 (n + 1 + 1) = p * row p q 0 1 (n + 1) - q * row p q 0 1 n := rfl
    have e2 : rowSum p q (n + 1 + 1) = rowSum p q (n + 1) + row p q 0 1 (n + 1) := rfl
    rw [e2, e, Int.add_mul, ih]
    clear ih e e2
    grind
/-- .. and so by a quotient, where P less Q is not 1. -/
theorem row_sum_quo (p q : Int) (n : Nat) (h : p - q - 1 ≠ 0) : (row p q 0 1 (n + 1) - q * row p q 0 1 n - 1).tdiv (p - q - 1) = rowSum p q (n + 1) := by
  rw [← row_sum]
  exact Int.mul_tdiv_cancel _ h
/-- The numbers of the first row, by powers of 5. -/
theorem first_bd {p q : Int} (hp : -4 ≤ p) (hp' : p ≤ 4) (hq : -4 ≤ q) (hq' : q ≤ 4) (n : Nat) : -(cap 1 n) ≤ row p q 0 1 n ∧ row p q 0 1 n ≤ cap 1 n :=
  (row_bd hp hp' hq hq' (c := 1) (by omega) (by omega) (by omega) (by omega) (by omega) n).1
theorem cap_mono {c : Int} (h : 0 ≤ c) (n m : Nat) (hm : n ≤ m) : cap c n ≤ cap c m := by
  obtain ⟨d, rfl⟩ := Nat.exists_eq_add_of_le hm
  induction d with
  | zero => exact Int.le_refl _
  | succ d ih =>
    have := ih (by omega)
    have h2 := cap_nonneg h (n + d)
    have e : cap c (n + (d + 1)) = 5 * cap c (n + d) := rfl
    omega
theorem first_half {p q : Int} (hp : -4 ≤ p) (hp' : p ≤ 4) (hq : -4 ≤ q) (hq' : q ≤ 4) (n : Nat) (hn : n ≤ 10) : -9765625 ≤ row p q 0 1 n ∧ row p q 0 1 n ≤ 9765625 := by
  have h := first_bd hp hp' hq hq' n
  have m := cap_mono (c := 1) (by omega) n 10 hn
  have e : cap 1 10 = 9765625 := by decide +kernel
  omega
theorem second_half {p q : Int} (hp : -4 ≤ p) (hp' : p ≤ 4) (hq : -4 ≤ q) (hq' : q ≤ 4) (n : Nat) (hn : n ≤ 10) : -39062500 ≤ row p q 2 p n ∧ row p q 2 p n ≤ 39062500 := by
  have h := (row_bd (a := 2) (b := p) hp hp' hq hq' (c := 4) (by omega) (by omega) (by omega) (by omega) (by omega) n).1
  have m := cap_mono (c := 4) (by omega) n 10 hn
  have e : cap 4 10 = 39062500 := by decide +kernel
  omega
theorem first_far {p q : Int} (hp : -4 ≤ p) (hp' : p ≤ 4) (hq : -4 ≤ q) (hq' : q ≤ 4) (n : Nat) (hn : n ≤ 20) : -95367431640625 ≤ row p q 0 1 n ∧ row p q 0 1 n ≤ 95367431640625 := by
  have h := first_bd hp hp' hq hq' n
  have m := cap_mono (c := 1) (by omega) n 20 hn
  have e : cap 1 20 = 95367431640625 := by decide +kernel
  omega
/-- The product of a number of the row and the one as far behind the middle as it is before it. -/
theorem about_bd {p q : Int} (hp : -4 ≤ p) (hp' : p ≤ 4) (hq : -4 ≤ q) (hq' : q ≤ 4) (d r : Nat) (h : d + r ≤ 10) : -95367431640625 ≤ row p q 0 1 d * row p q 0 1 (d + r + r) ∧ row p q 0 1 d * row p q 0 1 (d + r + r) ≤ 95367431640625 := by
  have h1 := first_bd hp hp' hq hq' d
  have h2 := first_bd hp hp' hq hq' (d + r + r)
  have m := mul_bd h1.1 h1.2 h2.1 h2.2
  have cm : ∀ n m : Nat, cap 1 n * cap 1 m = cap 1 (n + m) := fun n m => by
    induction m with
    | zero => simp [cap]
    | succ m ih =>
      have e : cap 1 (m + 1) = 5 * cap 1 m := rfl
      have e2 : cap 1 (n + (m + 1)) = 5 * cap 1 (n + m) := rfl
      rw [e, e2, ← ih]
      clear ih e e2
      grind
  rw [cm] at m
  have m2 := cap_mono (c := 1) (by omega) (d + (d + r + r)) 20 (by omega)
  have e : cap 1 20 = 95367431640625 := by decide +kernel
  omega
theorem pow_row_bd {p q : Int} (hp : -4 ≤ p) (hp' : p ≤ 4) (hq : -4 ≤ q) (hq' : q ≤ 4) (d r : Nat) (h : d + r ≤ 10) : (-9765625 ≤ q ^ d * row p q 0 1 r ∧ q ^ d * row p q 0 1 r ≤ 9765625) ∧ -95367431640625 ≤ q ^ d * row p q 0 1 r * row p q 0 1 r ∧ q ^ d * row p q 0 1 r * row p q 0 1 r ≤ 95367431640625 := by
  have h1 := first_bd hp hp' hq hq' r
  have pc : ∀ d : Nat, -(cap 1 d) ≤ q ^ d ∧ q ^ d ≤ cap 1 d := fun d => by
    induction d with
    | zero => simp [cap]
    | succ d ih =>
      have n := cap_nonneg (c := 1) (by omega) d
      have m := mul_bd ih.1 ih.2 hq hq'
      have e : cap 1 (d + 1) = 5 * cap 1 d := rfl
      rw [Int.pow_succ]
      omega
  have h2 := pc d
  have m := mul_bd h2.1 h2.2 h1.1 h1.2
  have cm : ∀ n m : Nat, cap 1 n * cap 1 m = cap 1 (n + m) := fun n m => by
    induction m with
    | zero => simp [cap]
    | succ m ih =>
      have e : cap 1 (m + 1) = 5 * cap 1 m := rfl
      have e2 : cap 1 (n + (m + 1)) = 5 * cap 1 (n + m) := rfl
      rw [e, e2, ← ih]
      clear ih e e2
      grind
  rw [cm] at m
  have m2 := mul_bd m.1 m.2 h1.1 h1.2
  rw [cm] at m2
  have c1 := cap_mono (c := 1) (by omega) (d + r) 10 h
  have c2 := cap_mono (c := 1) (by omega) (d + r + r) 20 (by omega)
  have e1 : cap 1 10 = 9765625 := by decide +kernel
  have e2 : cap 1 20 = 95367431640625 := by decide +kernel
  omega
/-- The sums, by powers of 5. -/
theorem sum_bd {p q : Int} (hp : -4 ≤ p) (hp' : p ≤ 4) (hq : -4 ≤ q) (hq' : q ≤ 4) : ∀ n : Nat, -(cap 1 n) ≤ rowSum p q n ∧ rowSum p q n ≤ cap 1 n
  | 0 => by simp [rowSum, cap]
  | n + 1 => by
    have ih := sum_bd hp hp' hq hq' n
    have h := first_bd hp hp' hq hq' n
    have n0 := cap_nonneg (c := 1) (by omega) n
    have e : cap 1 (n + 1) = 5 * cap 1 n := rfl
    have e2 : rowSum p q (n + 1) = rowSum p q n + row p q 0 1 n := rfl
    omega
theorem sum_far {p q : Int} (hp : -4 ≤ p) (hp' : p ≤ 4) (hq : -4 ≤ q) (hq' : q ≤ 4) (n : Nat) (hn : n ≤ 20) : -95367431640625 ≤ rowSum p q n ∧ rowSum p q n ≤ 95367431640625 := by
  have h := sum_bd hp hp' hq hq' n
  have m := cap_mono (c := 1) (by omega) n 20 hn
  have e : cap 1 20 = 95367431640625 := by decide +kernel
  omega
end Go.Proofs.Ytlmlcbhllodncaa
namespace Go.Proofs.Ytlmlcbhllodncaa
open Go.RowKit
theorem ret_bool {a b : Bool} (h : a = b) : Ending.returned (.bool a) = .returned (.bool b) := by rw [h]
theorem ret_int {k : IntKind} {a b : Int} (h : a = b) : Ending.returned (.int k a) = .returned (.int k b) := by rw [h]
/-- A pair as a value. -/
abbrev pr (p q : Int) : Value := .agg #[.int .i64 p, .int .i64 q]
set_option maxHeartbeats 400000 in
theorem numberOk_any (n : Int) (w : World) :
    Calls Try.prog 60 #[.int .i64 n] w fun e w' => e = .returned (.bool (numB n)) ∧ w = w' := by
  by_cases h1 : -4 ≤ n
  · by_cases h2 : n ≤ 4
    · have H := Lib.hid (numB_mk h1 h2)
      go_enter Try.func60, Try.ntmps60
      go_wp2
      go_ret
      exact ⟨ret_bool H.out.symm, rfl⟩
    · have H := Lib.hid (numB_no (n := n) (by omega))
      have h2' : 4 < n := by omega
      go_enter Try.func60, Try.ntmps60
      go_wp2
      go_ret
      exact ⟨ret_bool H.out.symm, rfl⟩
  · have H := Lib.hid (numB_no (n := n) (by omega))
    have h1' : n < -4 := by omega
    go_enter Try.func60, Try.ntmps60
    go_wp2
    go_ret
    exact ⟨ret_bool H.out.symm, rfl⟩
set_option maxHeartbeats 400000 in
theorem placeOk_any (n : Int) (w : World) :
    Calls Try.prog 64 #[.int .i64 n] w fun e w' => e = .returned (.bool (placeB n)) ∧ w = w' := by
  by_cases h1 : 0 ≤ n
  · by_cases h2 : n ≤ 20
    · have H := Lib.hid (placeB_mk h1 h2)
      go_enter Try.func64, Try.ntmps64
      go_wp2
      go_ret
      exact ⟨ret_bool H.out.symm, rfl⟩
    · have H := Lib.hid (placeB_no (n := n) (by omega))
      have h2' : 20 < n := by omega
      go_enter Try.func64, Try.ntmps64
      go_wp2
      go_ret
      exact ⟨ret_bool H.out.symm, rfl⟩
  · have H := Lib.hid (placeB_no (n := n) (by omega))
    have h1' : n < 0 := by omega
    go_enter Try.func64, Try.ntmps64
    go_wp2
    go_ret
    exact ⟨ret_bool H.out.symm, rfl⟩
/-- Whether a number is within two others. -/
def inB (n a b : Int) : Bool := decide (a ≤ n ∧ n ≤ b)
theorem inB_mk {n a b : Int} (h1 : a ≤ n) (h2 : n ≤ b) : inB n a b = true := by simp [inB, h1, h2]
theorem inB_no {n a b : Int} (h : n < a ∨ b < n) : inB n a b = false := by
  have h' : ¬ (a ≤ n ∧ n ≤ b) := by omega
  simp only [inB, h', decide_false]
theorem inB_true {n a b : Int} (h : inB n a b = true) : a ≤ n ∧ n ≤ b := by simpa [inB] using h
theorem inB_false {n a b : Int} (h : inB n a b = false) : n < a ∨ b < n := by
  have h' : ¬ (a ≤ n ∧ n ≤ b) := by simpa [inB] using h
  omega
theorem inB_num (n : Int) : inB n (-4) 4 = numB n := rfl
theorem inB_place (n : Int) : inB n 0 20 = placeB n := rfl
set_option maxHeartbeats 400000 in
theorem l1In_any (n a b : Int) (w : World) :
    Calls Try.prog 47 #[.int .i64 n, .int .i64 a, .int .i64 b] w fun e w' => e = .returned (.bool (inB n a b)) ∧ w = w' := by
  by_cases h1 : a ≤ n
  · by_cases h2 : n ≤ b
    · have H := Lib.hid (inB_mk h1 h2)
      go_enter Try.func47, Try.ntmps47
      go_wp2
      go_ret
      exact ⟨ret_bool H.out.symm, rfl⟩
    · have H := Lib.hid (inB_no (n := n) (a := a) (b := b) (by omega))
      have h2' : b < n := by omega
      go_enter Try.func47, Try.ntmps47
      go_wp2
      go_ret
      exact ⟨ret_bool H.out.symm, rfl⟩
  · have H := Lib.hid (inB_no (n := n) (a := a) (b := b) (by omega))
    have h1' : n < a := by omega
    go_enter Try.func47, Try.ntmps47
    go_wp2
    go_ret
    exact ⟨ret_bool H.out.symm, rfl⟩
set_option maxHeartbeats 400000 in
theorem implPairOk_any (p q : Int) (w : World) :
    Calls Try.prog 48 #[pr p q] w fun e w' => e = .returned (.bool (pairB p q)) ∧ Below w.heap.size w w' := by
  by_cases h1 : numB p = true
  · by_cases h2 : numB q = true
    · have H := Lib.hid (show pairB p q = true by simp [pairB, h1, h2])
      go_enter Try.func48, Try.ntmps48
      go_wp2_with (go_at_call 60; refine (numberOk_any _ _).mono ?_; rintro e w' ⟨rfl, rfl⟩)
      go_ret
      exact ⟨ret_bool H.out.symm, (Below.refl _ _).alloc (Nat.le_refl _) _⟩
    · have h2' : numB q = false := by simpa using h2
      have H := Lib.hid (show pairB p q = false by simp [pairB, h2'])
      clear h2
      go_enter Try.func48, Try.ntmps48
      go_wp2_with (go_at_call 60; refine (numberOk_any _ _).mono ?_; rintro e w' ⟨rfl, rfl⟩)
      go_ret
      exact ⟨ret_bool H.out.symm, (Below.refl _ _).alloc (Nat.le_refl _) _⟩
  · have h1' : numB p = false := by simpa using h1
    have H := Lib.hid (show pairB p q = false by simp [pairB, h1'])
    clear h1
    go_enter Try.func48, Try.ntmps48
    go_wp2_with (go_at_call 60; refine (numberOk_any _ _).mono ?_; rintro e w' ⟨rfl, rfl⟩)
    go_ret
    exact ⟨ret_bool H.out.symm, (Below.refl _ _).alloc (Nat.le_refl _) _⟩
set_option maxHeartbeats 400000 in
theorem l1In_num (n : Int) (w : World) : Calls Try.prog 47 #[.int .i64 n, .int .i64 (-4), .int .i64 4] w fun e w' => e = .returned (.bool (numB n)) ∧ w = w' := l1In_any n (-4) 4 w
set_option maxHeartbeats 400000 in
theorem l1In_place (n : Int) (w : World) : Calls Try.prog 47 #[.int .i64 n, .int .i64 0, .int .i64 20] w fun e w' => e = .returned (.bool (placeB n)) ∧ w = w' := l1In_any n 0 20 w
end Go.Proofs.Ytlmlcbhllodncaa
namespace Go.Proofs.Ytlmlcbhllodncaa
open Go.RowKit
theorem bcell {W w1 : World} (hb : Below W.heap.size W w1) : (∀ b o, b < W.heap.size → w1.cell? ⟨b, o, none⟩ = W.cell? ⟨b, o, none⟩) ∧ (∀ b o, b < W.heap.size → w1.frozen? ⟨b, o, none⟩ = W.frozen? ⟨b, o, none⟩) :=
  ⟨fun b o h => hb.cell (p := ⟨b, o, none⟩) h, fun b o h => hb.frozen (p := ⟨b, o, none⟩) h⟩
theorem implPairOk_yes (p q : Int) (w : World) (h : pairB p q = true) : Calls Try.prog 48 #[pr p q] w fun e w' => e = .returned (.bool true) ∧ Below w.heap.size w w' := by rw [← h]; exact implPairOk_any p q w
theorem implPairOk_no (p q : Int) (w : World) (h : pairB p q = false) : Calls Try.prog 48 #[pr p q] w fun e w' => e = .returned (.bool false) ∧ Below w.heap.size w w' := by rw [← h]; exact implPairOk_any p q w
/-- The weight of a pair, 0 for others. -/
def weightV (p q : Int) : Int := if pairB p q = true then p * p - 4 * q else 0
/-- P of the turned pair, 0 for others; and Q. -/
def turnP (p q : Int) : Int := if pairB p q = true then -p else 0
def turnQ (p q : Int) : Int := if pairB p q = true then q else 0
theorem ret_int_bool {k : IntKind} {a b : Int} {c d : Bool} (h : a = b) (h' : c = d) : Ending.returned (.tuple #[.int k a, .bool c]) = .returned (.tuple #[.int k b, .bool d]) := by rw [h, h']
theorem ret_pr {a b c d : Int} (h : a = c) (h' : b = d) : Ending.returned (pr a b) = .returned (pr c d) := by rw [h, h']
end Go.Proofs.Ytlmlcbhllodncaa
namespace Go.Proofs.Ytlmlcbhllodncaa
open Go.RowKit
section
variable {P : Program} (w : World)
theorem run_append_keeps (t ty : TypeId) (base : Nat) (e : TypeId) (i : TypeInfo) (z : Value) (size bytes : Nat) (ht : P.underlying t = some (.slice e)) (hi : P.info? e = some i) (hz : i.zero = some z)
    (hsize : i.size = size) (hby : i.bytes = bytes) (hzs : z.cells.size = size) (hsz : 0 < size)
    (g0 n c0 : Nat) (xs : List Value) (hown : w.ownsRow base e size (.slice (some ⟨g0, 0, none⟩) n c0) n xs)
    (ad : Addr) (m c : Nat) (news : List Value) (hl : news.length = m * size) (hnews : ∀ j u, news[j]? = some u → w.cell? (ad.add j) = some u) (h1 : ∀ u ∈ news, u.oneCell' = true)
    (hm : 0 < m) (h63 : n + m ≤ maxLen) (hbytes : (n + m) * bytes ≤ 140737488355328) (hbase : base ≤ w.heap.size) (H : Nat) (hH : w.heap.size = H) :
    ∃ g cap w', (Builtin.append_ #[t, t] ty #[.slice (some ⟨g0, 0, none⟩) n c0, .slice (some ad) m c]).run P w = .ok (.slice (some ⟨g, 0, none⟩) (n + m) cap) w' ∧
      w'.ownsRow base e size (.slice (some ⟨g, 0, none⟩) (n + m) cap) (n + m) (xs ++ news) ∧ w.grownBy w' (some g0) ∧ (g = g0 ∨ g = H) ∧ g < w'.heap.size ∧
      ∀ j u, xs[j]? = some u → w'.cell? ((⟨g0, 0, none⟩ : Addr).add j) = some u := by
  obtain ⟨g, cap, w', hr, h2, h3, h4, h5⟩ := run_append_lies (P := P) w t ty base e i z size bytes ht hi hz hsize hby hzs hsz _ n xs hown ad m c news hl hnews h1 hm h63 hbytes hbase H hH
  have h4' : g = g0 ∨ g = H := by
    rcases h4 with h4 | h4
    · left; simpa [Value.ownBlock] using h4.symm
    · exact .inr h4
  refine ⟨g, cap, w', hr, h2, h3, h4', h5, ?_⟩
  have holds := hown.cells (g := g0) rfl
  by_cases hroom : n + m ≤ c0
  · rcases hown.2 with ⟨hbad, _⟩ | ⟨g1, cap1, cur, he, hbg, hg, hnc, hcm, hcs, htake⟩
    · cases hbad
    · injection he with ha _ hc
      injection ha with ha
      injection ha with ha
      subst ha; subst hc
      have hl' : news.length = m * i.size := by rw [hl, hsize]
      have hfit : n * i.size + news.length ≤ cur.size := by rw [hl', hcs, hsize, ← Nat.add_mul]; exact Nat.mul_le_mul_right _ hroom
      have hr2 := run_append_room (P := P) w t ty e i ht hi g0 n c0 cur hg ad m c news hl' hnews h1 hroom hfit
      rw [hr] at hr2
      injection hr2 with hv _
      injection hv with hv _ _
      injection hv with hv
      injection hv with hv
      subst hv
      intro j u hu
      exact h2.cells (g := g) rfl j u (by
        have hj : j < xs.length := (List.getElem?_eq_some_iff.1 hu).1
        rw [List.getElem?_append_left hj]; exact hu)
  · subst hsize; subst hby
    obtain ⟨v', w'', hrun, _, r2⟩ := run_append_arg_grows (P := P) w t ty e i z i.size i.bytes ht hi hz rfl rfl hzs hsz ⟨g0, 0, none⟩ n c0 xs hown.1 holds ad m c news hl hnews (by omega) h63 hbytes
    rw [hr] at hrun
    injection hrun with _ hw
    subst hw
    intro j u hu
    have hc := holds j u hu
    have hlt := World.block_lt_of_cell? w _ hc
    exact (World.cell?_of_block (r2.block _ hlt (by simp))).trans hc
/-- At a step of a region that draws its order. -/
theorem step_append_keeps {ops : Array Oper} {o : Oper} {a : Act} {K : Act → World → Prop} {Q : Exit → Act → World → Prop} {E : Prop} (hgd : o.guard = none) (s x : Operand) (t : TypeId)
    (ho : o.op = .call { callee := .builtin .append, args := #[s, x], argTypes := #[t, t] })
    (base : Nat) (e : TypeId) (i : TypeInfo) (z : Value) (size bytes : Nat) (ht : P.underlying t = some (.slice e)) (hi : P.info? e = some i) (hz : i.zero = some z)
    (hsize : i.size = size) (hby : i.bytes = bytes) (hzs : z.cells.size = size) (hsz : 0 < size)
    (g0 n c0 : Nat) (xs : List Value) (hs : a.eval s = .slice (some ⟨g0, 0, none⟩) n c0) (hown : w.ownsRow base e size (.slice (some ⟨g0, 0, none⟩) n c0) n xs)
    (ad : Addr) (m c : Nat) (news : List Value) (hx : a.eval x = .slice (some ad) m c) (hl : news.length = m * size) (hnews : ∀ j u, news[j]? = some u → w.cell? (ad.add j) = some u) (h1 : ∀ u ∈ news, u.oneCell' = true)
    (hm : 0 < m) (h63 : n + m ≤ maxLen) (hbytes : (n + m) * bytes ≤ 140737488355328) (hbase : base ≤ w.heap.size) (H : Nat) (hH : w.heap.size = H)
    (h : ∀ g cap w', w'.ownsRow base e size (.slice (some ⟨g, 0, none⟩) (n + m) cap) (n + m) (xs ++ news) → w.grownBy w' (some g0) → (g = g0 ∨ g = H) → g < w'.heap.size →
      (∀ j u, xs[j]? = some u → w'.cell? ((⟨g0, 0, none⟩ : Addr).add j) = some u) → K (a.put o.dst (.slice (some ⟨g, 0, none⟩) (n + m) cap)) w') :
    if Region.wanted o (yielded ops a.tmps) = true then Oper.wp P o a w K Q else E := by
  have hw : Region.wanted o (yielded ops a.tmps) = true := by simp [Region.wanted, hgd]
  rw [if_pos hw]
  obtain ⟨g, cap, w', hr, h2, h3, h4, h5, h6⟩ := run_append_keeps (P := P) w t o.type base e i z size bytes ht hi hz hsize hby hzs hsz g0 n c0 xs hown ad m c news hl hnews h1 hm h63 hbytes hbase H hH
  unfold Oper.wp execOp
  simp only [ho, resolve, invoke, builtin, Sem.run_bind, Sem.run_pure, Result.andThen_ok, List.map_toArray, List.map_cons, List.map_nil, hs, hx, hr]
  exact h g cap w' h2 h3 h4 h5 h6
end
end Go.Proofs.Ytlmlcbhllodncaa
namespace Go.Proofs.Ytlmlcbhllodncaa
open Go.RowKit
theorem info_int : (Try.prog.info? 3).map (fun i => (i.zero, i.size, i.bytes)) = some (some (.int .i64 0), 1, 8) := by kernel_rfl
/-- The first n numbers of a row, as cells. -/
def rowCells (p q a b : Int) (n : Nat) : List Value := (List.range n).map fun i => .int .i64 (row p q a b i)
theorem rowCells_length (p q a b : Int) (n : Nat) : (rowCells p q a b n).length = n := by simp [rowCells]
theorem rowCells_snoc (p q a b : Int) (n : Nat) : rowCells p q a b n ++ [.int .i64 (row p q a b n)] = rowCells p q a b (n + 1) := by simp [rowCells, List.range_succ]
theorem rowCells_get (p q a b : Int) (n i : Nat) (h : i < n) : (rowCells p q a b n)[i]? = some (.int .i64 (row p q a b i)) := by simp [rowCells, h]
theorem row_small {p q a b : Int} (hp : -4 ≤ p) (hp' : p ≤ 4) (hq : -4 ≤ q) (hq' : q ≤ 4) (ha : -4 ≤ a) (ha' : a ≤ 4) (hb : -4 ≤ b) (hb' : b ≤ 4) (n : Nat) (hn : n ≤ 22) : -10000000000000000 ≤ row p q a b n ∧ row p q a b n ≤ 10000000000000000 := by
  have h := (row_bd (a := a) (b := b) hp hp' hq hq' (c := 4) (by omega) ha ha' (by omega) (by omega) n).1
  have mono : ∀ n, n ≤ 22 → cap 4 n ≤ cap 4 22 := by
    have step : ∀ n, cap 4 n ≤ cap 4 (n + 1) := fun n => by have := cap_nonneg (c := 4) (by omega) n; simp only [cap]; omega
    intro n hn
    have : ∀ d, cap 4 n ≤ cap 4 (n + d) := fun d => by
      induction d with
      | zero => exact Int.le_refl _
      | succ d ih => exact Int.le_trans ih (step _)
    have := this (22 - n)
    rwa [show n + (22 - n) = 22 by omega] at this
  have m := mono n hn
  have e : cap 4 22 = 9536743164062500 := by decide +kernel
  omega
/-- The products and the next number of a row, within int's bounds. -/
theorem row_next {p q a b : Int} (hp : -4 ≤ p) (hp' : p ≤ 4) (hq : -4 ≤ q) (hq' : q ≤ 4) (ha : -4 ≤ a) (ha' : a ≤ 4) (hb : -4 ≤ b) (hb' : b ≤ 4) (n : Nat) (hn : n ≤ 21) :
    (-40000000000000000 ≤ p * row p q a b (n + 1) ∧ p * row p q a b (n + 1) ≤ 40000000000000000) ∧ (-40000000000000000 ≤ q * row p q a b n ∧ q * row p q a b n ≤ 40000000000000000) := by
  obtain ⟨h1, h2⟩ := row_small hp hp' hq hq' ha ha' hb hb' (n + 1) (by omega)
  obtain ⟨h3, h4⟩ := row_small hp hp' hq hq' ha ha' hb hb' n (by omega)
  obtain ⟨m1, m2⟩ := mul_bd (a := 4) hp hp' h1 h2
  obtain ⟨m3, m4⟩ := mul_bd (a := 4) hq hq' h3 h4
  omega
theorem own2 {w : World} {base g : Nat} {x y : Value} (hb : base ≤ g) (h : w.heap[g]? = some (.cells #[x, y] 3 (0, 0))) : w.ownsRow base 3 1 (.slice (some ⟨g, 0, none⟩) 2 2) 2 [x, y] :=
  ⟨rfl, .inr ⟨g, 2, #[x, y], rfl, hb, h, Nat.le_refl _, by unfold maxLen; omega, rfl, rfl⟩⟩
theorem own_get {w : World} {base g c n : Nat} {p q a b : Int} {v : Value} (h : w.ownsRow base 3 1 v n (rowCells p q a b n)) (hv : v = .slice (some ⟨g, 0, none⟩) n c) {i : Nat} (hi : i < n) : w.cell? ⟨g, i, none⟩ = some (.int .i64 (row p q a b i)) := by
  subst hv
  have := h.cells rfl i _ (rowCells_get p q a b n i hi)
  by_cases h0 : i = 0
  · subst h0; simpa [Addr.add] using this
  · simpa [Addr.add, h0] using this
theorem own_cell {w : World} {g i : Nat} {xs : List Value} {u : Value} (h : ∀ j u, xs[j]? = some u → w.cell? ((⟨g, 0, none⟩ : Addr).add j) = some u) (hi : xs[i]? = some u) : w.cell? ⟨g, i, none⟩ = some u := by
  have := h i u hi
  by_cases h0 : i = 0
  · subst h0; simpa [Addr.add] using this
  · simpa [Addr.add, h0] using this
/-- What l1Rows returns for a place. -/
def Rows2 (p q : Int) (m : Nat) (w : World) (e : Ending) (w' : World) : Prop :=
  ∃ gu cu gv cv : Nat, e = .returned (.tuple #[.slice (some ⟨gu, 0, none⟩) (m + 1) cu, .slice (some ⟨gv, 0, none⟩) (m + 1) cv]) ∧ w.heap.size ≤ gu ∧ w.heap.size ≤ gv ∧
    (∀ i, i ≤ m → w'.cell? ⟨gu, i, none⟩ = some (.int .i64 (row p q 0 1 i))) ∧ (∀ i, i ≤ m → w'.cell? ⟨gv, i, none⟩ = some (.int .i64 (row p q 2 p i))) ∧ Below w.heap.size w w'
end Go.Proofs.Ytlmlcbhllodncaa
namespace Go.Proofs.Ytlmlcbhllodncaa
open Go.RowKit
/-- Whether there is a number of a row: a pair, and a place of a row. -/
def atB (p q n : Int) : Bool := pairB p q && placeB n
/-- The number of the first row, and of the second one, at a place; 0 where there is none. -/
def firstV (p q n : Int) : Int := if atB p q n = true then row p q 0 1 n.toNat else 0
def secondV (p q n : Int) : Int := if atB p q n = true then row p q 2 p n.toNat else 0
theorem l1In_place_yes (n : Int) (w : World) (h : placeB n = true) : Calls Try.prog 47 #[.int .i64 n, .int .i64 0, .int .i64 20] w fun e w' => e = .returned (.bool true) ∧ w = w' := by have := l1In_place n w; rw [h] at this; exact this
theorem l1In_place_no (n : Int) (w : World) (h : placeB n = false) : Calls Try.prog 47 #[.int .i64 n, .int .i64 0, .int .i64 20] w fun e w' => e = .returned (.bool false) ∧ w = w' := by have := l1In_place n w; rw [h] at this; exact this
end Go.Proofs.Ytlmlcbhllodncaa
namespace Go.Proofs.Ytlmlcbhllodncaa
open Go.RowKit
theorem l1In_yes (n a b : Int) (w : World) (h : inB n a b = true) : Calls Try.prog 47 #[.int .i64 n, .int .i64 a, .int .i64 b] w fun e w' => e = .returned (.bool true) ∧ w = w' := by have := l1In_any n a b w; rw [h] at this; exact this
theorem l1In_no (n a b : Int) (w : World) (h : inB n a b = false) : Calls Try.prog 47 #[.int .i64 n, .int .i64 a, .int .i64 b] w fun e w' => e = .returned (.bool false) ∧ w = w' := by have := l1In_any n a b w; rw [h] at this; exact this
/-- Whether AtSum tells a number; and which, 0 where it tells none. -/
def atSumB (p q : Int) (a b : Int) : Bool := pairB p q && (inB a 1 10 && inB b 0 9)
def atSumV (p q : Int) (a b : Int) : Int := if atSumB p q a b = true then row p q 0 1 (a.toNat + b.toNat) else 0
/-- Whether AtTwice tells a number; and which, 0 where it tells none. -/
def atTwiceB (p q : Int) (n : Int) : Bool := pairB p q && inB n 0 10
def atTwiceV (p q : Int) (n : Int) : Int := if atTwiceB p q n = true then row p q 0 1 (2 * n.toNat) else 0
/-- Whether AboutOf tells a number; and which, 0 where it tells none. -/
def aboutOfB (p q : Int) (n r : Int) : Bool := pairB p q && (inB n 0 10 && inB r 0 n)
def aboutOfV (p q : Int) (n r : Int) : Int := if aboutOfB p q n r = true then q ^ (n - r).toNat * row p q 0 1 r.toNat * row p q 0 1 r.toNat else 0
/-- Whether SumTo tells a number; and which, 0 where it tells none. -/
def sumToB (p q : Int) (n : Int) : Bool := pairB p q && inB n 0 19
def sumToV (p q : Int) (n : Int) : Int := if sumToB p q n = true then rowSum p q (n.toNat + 1) else 0
theorem atSumB_true {p q a b : Int} (h : atSumB p q a b = true) : pairB p q = true ∧ ∃ i j : Nat, a = (i : Int) + 1 ∧ b = j ∧ i ≤ 9 ∧ j ≤ 9 := by
  have h' : pairB p q = true ∧ inB a 1 10 = true ∧ inB b 0 9 = true := by simpa [atSumB] using h
  obtain ⟨hp, ha, hb⟩ := h'
  obtain ⟨a1, a2⟩ := inB_true ha
  obtain ⟨b1, b2⟩ := inB_true hb
  exact ⟨hp, (a - 1).toNat, b.toNat, by omega, by omega, by omega, by omega⟩
theorem atTwiceB_true {p q n : Int} (h : atTwiceB p q n = true) : pairB p q = true ∧ ∃ i : Nat, n = i ∧ i ≤ 10 := by
  have h' : pairB p q = true ∧ inB n 0 10 = true := by simpa [atTwiceB] using h
  obtain ⟨hp, ha⟩ := h'
  obtain ⟨a1, a2⟩ := inB_true ha
  exact ⟨hp, n.toNat, by omega, by omega⟩
theorem aboutOfB_true {p q n r : Int} (h : aboutOfB p q n r = true) : pairB p q = true ∧ ∃ d k : Nat, n = (d : Int) + k ∧ r = k ∧ d + k ≤ 10 := by
  have h' : pairB p q = true ∧ inB n 0 10 = true ∧ inB r 0 n = true := by simpa [aboutOfB] using h
  obtain ⟨hp, ha, hb⟩ := h'
  obtain ⟨a1, a2⟩ := inB_true ha
  obtain ⟨b1, b2⟩ := inB_true hb
  exact ⟨hp, (n - r).toNat, r.toNat, by omega, by omega, by omega⟩
theorem sumToB_true {p q n : Int} (h : sumToB p q n = true) : pairB p q = true ∧ ∃ i : Nat, n = i ∧ i ≤ 19 := by
  have h' : pairB p q = true ∧ inB n 0 19 = true := by simpa [sumToB] using h
  obtain ⟨hp, ha⟩ := h'
  obtain ⟨a1, a2⟩ := inB_true ha
  exact ⟨hp, n.toNat, by omega, by omega⟩
theorem atSumV_is (p q : Int) (i j : Nat) (h : atSumB p q ((i : Int) + 1) j = true) : atSumV p q ((i : Int) + 1) j = row p q 0 1 (i + 1 + j) := by
  rw [atSumV, if_pos h, show ((i : Int) + 1).toNat = i + 1 by omega, show ((j : Int)).toNat = j by omega]
theorem atTwiceV_is (p q : Int) (i : Nat) (h : atTwiceB p q i = true) : atTwiceV p q i = row p q 0 1 (2 * i) := by
  rw [atTwiceV, if_pos h, show ((i : Int)).toNat = i by omega]
theorem aboutOfV_is (p q : Int) (d k : Nat) (h : aboutOfB p q ((d : Int) + k) k = true) : aboutOfV p q ((d : Int) + k) k = q ^ d * row p q 0 1 k * row p q 0 1 k := by
  rw [aboutOfV, if_pos h, show ((d : Int) + k - k).toNat = d by omega, show ((k : Int)).toNat = k by omega]
theorem sumToV_is (p q : Int) (i : Nat) (h : sumToB p q i = true) : sumToV p q i = rowSum p q (i + 1) := by
  rw [sumToV, if_pos h, show ((i : Int)).toNat = i by omega]
end Go.Proofs.Ytlmlcbhllodncaa
namespace Go.Proofs.Ytlmlcbhllodncaa
open Go.RowKit
def colB (s d : Int) : Bool := inB s 0 3 && inB d 0 3
def tileB (c s d : Int) : Bool := colB s d && inB c 0 8
def countV (c s d : Int) : Int := if tileB c s d = true then (cntN s.toNat d.toNat c.toNat : Int) else -1
theorem countV_no {c s d : Int} (h : tileB c s d = false) : countV c s d = -1 := by rw [countV, if_neg (by simp [h])]
theorem countV_is {c s d : Nat} (h : tileB c s d = true) : countV c s d = (cntN s d c : Int) := by rw [countV, if_pos h]; rfl
theorem colB_true {s d : Int} (h : colB s d = true) : ∃ a b : Nat, s = a ∧ d = b ∧ a ≤ 3 ∧ b ≤ 3 := by
  simp only [colB, Bool.and_eq_true] at h
  obtain ⟨h1, h2⟩ := inB_true h.1
  obtain ⟨h3, h4⟩ := inB_true h.2
  obtain ⟨a, rfl⟩ := Int.eq_ofNat_of_zero_le h1
  obtain ⟨b, rfl⟩ := Int.eq_ofNat_of_zero_le h3
  exact ⟨a, b, rfl, rfl, by omega, by omega⟩
theorem colB_mk {s d : Nat} (h1 : s ≤ 3) (h2 : d ≤ 3) : colB s d = true := by rw [colB, inB_mk (by omega) (by omega), inB_mk (by omega) (by omega)]; rfl
theorem tileB_true {c s d : Int} (h : tileB c s d = true) : ∃ n a b : Nat, c = n ∧ s = a ∧ d = b ∧ n ≤ 8 ∧ a ≤ 3 ∧ b ≤ 3 := by
  simp only [tileB, Bool.and_eq_true] at h
  obtain ⟨a, b, rfl, rfl, h1, h2⟩ := colB_true h.1
  obtain ⟨h3, h4⟩ := inB_true h.2
  obtain ⟨n, rfl⟩ := Int.eq_ofNat_of_zero_le h3
  exact ⟨n, a, b, rfl, rfl, rfl, by omega, h1, h2⟩
theorem tileB_mk {c s d : Nat} (h0 : c ≤ 8) (h1 : s ≤ 3) (h2 : d ≤ 3) : tileB c s d = true := by rw [tileB, colB_mk h1 h2, inB_mk (by omega) (by omega)]; rfl
/-- The count ahead of a count. -/
def prevN (s d : Nat) : Nat → Nat
  | 0 => 0
  | k + 1 => cntN s d k
theorem cntN_step (s d : Nat) : ∀ k, cntN s d (k + 1) = s * cntN s d k + d * prevN s d k
  | 0 => by simp [cntN, prevN]
  | k + 1 => rfl
theorem prevN_bd {s d : Nat} (hs : s ≤ 3) (hd : d ≤ 3) : ∀ k, k ≤ 9 → prevN s d k ≤ 200000
  | 0, _ => Nat.zero_le _
  | k + 1, h => cntN_bd s (by omega) d (by omega) k (by omega)
theorem mul_low {x y b : Nat} (hx : x ≤ 3) (hy : y ≤ b) : (0 : Int) ≤ (x : Int) * (y : Int) ∧ (x : Int) * (y : Int) ≤ 3 * b := by
  have h := Nat.mul_le_mul hx hy
  have e : (x : Int) * (y : Int) = ((x * y : Nat) : Int) := by simp
  rw [e]
  exact ⟨by omega, by omega⟩
set_option maxHeartbeats 1000000 in
theorem specColours_any (s d : Int) (w : World) : Calls Try.prog 19 #[.int .i64 s, .int .i64 d] w fun e w' => e = .returned (.bool (colB s d)) ∧ w = w' := by
  cases hs : inB s 0 3 with
  | false =>
    have HV := Lib.hid (show colB s d = false by simp [colB, hs])
    have HS := Lib.hid hs
    clear hs
    go_enter Try.func19, Try.ntmps19
    go_wp2_with fail
    refine (l1In_no s 0 3 _ HS.out).mono ?_
    rintro e wx ⟨rfl, rfl⟩
    go_wp2
    go_ret
    exact ⟨ret_bool HV.out.symm, rfl⟩
  | true =>
    have HS := Lib.hid hs
    cases hd : inB d 0 3 with
    | false =>
      have HV := Lib.hid (show colB s d = false by simp [colB, hd])
      have HD := Lib.hid hd
      clear hs hd
      go_enter Try.func19, Try.ntmps19
      go_wp2_with fail
      refine (l1In_yes s 0 3 _ HS.out).mono ?_
      rintro e wx ⟨rfl, rfl⟩
      go_wp2_with fail
      refine (l1In_no d 0 3 _ HD.out).mono ?_
      rintro e wx ⟨rfl, rfl⟩
      go_wp2
      go_ret
      exact ⟨ret_bool HV.out.symm, rfl⟩
    | true =>
      have HV := Lib.hid (show colB s d = true by simp [colB, hd, hs])
      have HD := Lib.hid hd
      clear hs hd
      go_enter Try.func19, Try.ntmps19
      go_wp2_with fail
      refine (l1In_yes s 0 3 _ HS.out).mono ?_
      rintro e wx ⟨rfl, rfl⟩
      go_wp2_with fail
      refine (l1In_yes d 0 3 _ HD.out).mono ?_
      rintro e wx ⟨rfl, rfl⟩
      go_wp2
      go_ret
      exact ⟨ret_bool HV.out.symm, rfl⟩
theorem specColours_is (s d : Int) (c : Bool) (w : World) (h : colB s d = c) : Calls Try.prog 19 #[.int .i64 s, .int .i64 d] w fun e w' => e = .returned (.bool c) ∧ w = w' := by rw [← h]; exact specColours_any s d w
set_option maxHeartbeats 4000000 in
theorem specCount_any (c s d : Int) (w : World) : Calls Try.prog 28 #[.int .i64 c, .int .i64 s, .int .i64 d] w fun e w' => e = .returned (.int .i64 (countV c s d)) ∧ w = w' := by
  cases hc : colB s d with
  | false =>
    have HV := Lib.hid (countV_no (c := c) (s := s) (d := d) (by simp [tileB, hc]))
    have HC := Lib.hid hc
    clear hc
    go_enter Try.func28, Try.ntmps28
    go_wp2_with fail
    refine (specColours_is s d false _ HC.out).mono ?_
    rintro e wx ⟨rfl, rfl⟩
    go_wp2
    go_ret
    exact ⟨ret_int HV.out.symm, rfl⟩
  | true =>
    have HC := Lib.hid hc
    cases hn : inB c 0 8 with
    | false =>
      have HV := Lib.hid (countV_no (c := c) (s := s) (d := d) (by simp [tileB, hn]))
      have HN := Lib.hid hn
      clear hc hn
      go_enter Try.func28, Try.ntmps28
      go_wp2_with fail
      refine (specColours_is _ _ true _ HC.out).mono ?_
      rintro e wx ⟨rfl, rfl⟩
      go_wp2_with fail
      refine (l1In_no c 0 8 _ HN.out).mono ?_
      rintro e wx ⟨rfl, rfl⟩
      go_wp2
      go_ret
      exact ⟨ret_int HV.out.symm, rfl⟩
    | true =>
      have ht : tileB c s d = true := by simp [tileB, hc, hn]
      obtain ⟨n, a, b, rfl, rfl, rfl, n8, a3, b3⟩ := tileB_true ht
      have HV := Lib.hid (countV_is ht)
      have HN := Lib.hid hn
      clear hc hn ht
      go_enter Try.func28, Try.ntmps28
      go_wp2_with fail
      refine (specColours_is _ _ true _ HC.out).mono ?_
      rintro e wx ⟨rfl, rfl⟩
      go_wp2_with fail
      refine (l1In_yes _ 0 8 _ HN.out).mono ?_
      rintro e wx ⟨rfl, rfl⟩
      go_wp2_with fail
      go_loop [7, 8, 9, 10] (fun x y k _ => ∃ i : Nat, i ≤ n ∧ k = .int .i64 i ∧ x = .int .i64 ((prevN a b i : Nat) : Int) ∧ y = .int .i64 ((cntN a b i : Nat) : Int)) (fun _ _ k _ => 20 - (intOf k).toNat)
      case atStart => exact ⟨0, by omega, rfl, rfl, rfl⟩
      case round =>
        obtain ⟨i, hi, rfl, rfl, rfl⟩ := hrel
        by_cases hlt : i < n
        · have hin : (i : Int) < (n : Int) := by omega
          have hst : ((cntN a b (i + 1) : Nat) : Int) = (a : Int) * ((cntN a b i : Nat) : Int) + (b : Int) * ((prevN a b i : Nat) : Int) := by rw [cntN_step]; simp
          have m1 := mul_low a3 (cntN_bd a (by omega) b (by omega) i (by omega))
          have m2 := mul_low b3 (prevN_bd a3 b3 i (by omega))
          have HP := Lib.hid (show ((prevN a b (i + 1) : Nat) : Int) = ((cntN a b i : Nat) : Int) from rfl)
          obtain ⟨x, hx⟩ : ∃ x, cntN a b i = x := ⟨_, rfl⟩
          obtain ⟨y, hy⟩ : ∃ y, prevN a b i = y := ⟨_, rfl⟩
          rw [hx] at hst m1 HP
          rw [hy] at hst m2
          rw [hx, hy]
          obtain ⟨p, hp⟩ : ∃ p, (a : Int) * (x : Int) = p := ⟨_, rfl⟩
          obtain ⟨q, hq⟩ : ∃ q, (b : Int) * (y : Int) = q := ⟨_, rfl⟩
          have HST := Lib.hid hst
          have m3 := m1
          have m4 := m2
          rw [hp] at m3
          rw [hq] at m4
          have HPP := Lib.hid hp
          have HQQ := Lib.hid hq
          clear hst hx hy hp hq
          go_wp2
          go_round
          case rel => exact ⟨i + 1, by omega, congrArg (Value.int .i64) (by omega), congrArg (Value.int .i64) HP.out.symm, congrArg (Value.int .i64) HST.out.symm⟩
          case measure => simp [intOf]; omega
        · obtain rfl : i = n := by omega
          go_wp2
          go_ret
          exact ⟨ret_int HV.out.symm, rfl⟩
theorem specCount_is (c s d v : Int) (w : World) (h : countV c s d = v) : Calls Try.prog 28 #[.int .i64 c, .int .i64 s, .int .i64 d] w fun e w' => e = .returned (.int .i64 v) ∧ w = w' := by rw [← h]; exact specCount_any c s d w
def ringB (c s d : Int) : Bool := colB s d && inB c 2 8
def ringV (c s d : Int) : Int := if ringB c s d = true then (cntN s.toNat d.toNat c.toNat : Int) + d * (cntN s.toNat d.toNat (c.toNat - 2) : Int) else -1
theorem ringV_no {c s d : Int} (h : ringB c s d = false) : ringV c s d = -1 := by rw [ringV, if_neg (by simp [h])]
theorem ringV_is {c s d : Nat} (h : ringB c s d = true) : ringV c s d = (cntN s d c : Int) + (d : Int) * (cntN s d (c - 2) : Int) := by rw [ringV, if_pos h]; rfl
theorem ringB_true {c s d : Int} (h : ringB c s d = true) : ∃ n a b : Nat, c = n ∧ s = a ∧ d = b ∧ 2 ≤ n ∧ n ≤ 8 ∧ a ≤ 3 ∧ b ≤ 3 := by
  simp only [ringB, Bool.and_eq_true] at h
  obtain ⟨a, b, rfl, rfl, h1, h2⟩ := colB_true h.1
  obtain ⟨h3, h4⟩ := inB_true h.2
  obtain ⟨n, rfl⟩ := Int.eq_ofNat_of_zero_le (show 0 ≤ c by omega)
  exact ⟨n, a, b, rfl, rfl, rfl, by omega, by omega, h1, h2⟩
set_option maxHeartbeats 2000000 in
theorem specRings_any (c s d : Int) (w : World) : Calls Try.prog 32 #[.int .i64 c, .int .i64 s, .int .i64 d] w fun e w' => e = .returned (.int .i64 (ringV c s d)) ∧ w = w' := by
  cases hc : colB s d with
  | false =>
    have HV := Lib.hid (ringV_no (c := c) (s := s) (d := d) (by simp [ringB, hc]))
    have HC := Lib.hid hc
    clear hc
    go_enter Try.func32, Try.ntmps32
    go_wp2_with fail
    refine (specColours_is s d false _ HC.out).mono ?_
    rintro e wx ⟨rfl, rfl⟩
    go_wp2
    go_ret
    exact ⟨ret_int HV.out.symm, rfl⟩
  | true =>
    have HC := Lib.hid hc
    cases hn : inB c 2 8 with
    | false =>
      have HV := Lib.hid (ringV_no (c := c) (s := s) (d := d) (by simp [ringB, hn]))
      have HN := Lib.hid hn
      clear hc hn
      go_enter Try.func32, Try.ntmps32
      go_wp2_with fail
      refine (specColours_is _ _ true _ HC.out).mono ?_
      rintro e wx ⟨rfl, rfl⟩
      go_wp2_with fail
      refine (l1In_no c 2 8 _ HN.out).mono ?_
      rintro e wx ⟨rfl, rfl⟩
      go_wp2
      go_ret
      exact ⟨ret_int HV.out.symm, rfl⟩
    | true =>
      have ht : ringB c s d = true := by simp [ringB, hc, hn]
      obtain ⟨n, a, b, rfl, rfl, rfl, n2, n8, a3, b3⟩ := ringB_true ht
      have hV := ringV_is ht
      have hA := countV_is (tileB_mk (c := n) n8 a3 b3)
      have hB := countV_is (tileB_mk (c := n - 2) (by omega) a3 b3)
      have m0 := cntN_bd a (by omega) b (by omega) n (by omega)
      have m1 := mul_low b3 (cntN_bd a (by omega) b (by omega) (n - 2) (by omega))
      obtain ⟨x, hx⟩ : ∃ x, cntN a b n = x := ⟨_, rfl⟩
      obtain ⟨y, hy⟩ : ∃ y, cntN a b (n - 2) = y := ⟨_, rfl⟩
      rw [hx] at hV hA m0
      rw [hy] at hV hB m1
      have HV := Lib.hid hV
      have HA := Lib.hid hA
      have HB := Lib.hid hB
      have HN := Lib.hid hn
      have U : IntKind.i64.wrap ((n : Int) - 2) = ((n - 2 : Nat) : Int) := by rw [IntKind.wrap_i64]; omega
      have E : (n : Int) - 2 = ((n - 2 : Nat) : Int) := by omega
      clear hc hn ht hV hA hB hx hy
      go_enter Try.func32, Try.ntmps32
      go_wp2_with fail
      refine (specColours_is _ _ true _ HC.out).mono ?_
      rintro e wx ⟨rfl, rfl⟩
      go_wp2_with fail
      refine (l1In_yes _ 2 8 _ HN.out).mono ?_
      rintro e wx ⟨rfl, rfl⟩
      go_wp2_with fail
      refine (specCount_is n a b x _ HA.out).mono ?_
      rintro e wx ⟨rfl, rfl⟩
      go_wp2_with fail
      refine (specCount_is ((n - 2 : Nat) : Int) a b y _ HB.out).mono ?_
      rintro e wx ⟨rfl, rfl⟩
      go_wp2
      go_ret
      exact ⟨ret_int HV.out.symm, rfl⟩
theorem specRings_is (c s d v : Int) (w : World) (h : ringV c s d = v) : Calls Try.prog 32 #[.int .i64 c, .int .i64 s, .int .i64 d] w fun e w' => e = .returned (.int .i64 v) ∧ w = w' := by rw [← h]; exact specRings_any c s d w
end Go.Proofs.Ytlmlcbhllodncaa
namespace Go.Proofs.Ytlmlcbhllodncaa
open Go.RowKit
def cutsB (c b s d : Int) : Bool := tileB c s d && inB b 0 c
def cutsV (c b s d : Int) : Int := if cutsB c b s d = true then (cntN s.toNat d.toNat b.toNat : Int) * (cntN s.toNat d.toNat (c.toNat - b.toNat) : Int) else -1
theorem cutsV_no {c b s d : Int} (h : cutsB c b s d = false) : cutsV c b s d = -1 := by rw [cutsV, if_neg (by simp [h])]
theorem cutsV_is {c b s d : Nat} (h : cutsB c b s d = true) : cutsV c b s d = (cntN s d b : Int) * (cntN s d (c - b) : Int) := by rw [cutsV, if_pos h]; rfl
theorem cutsB_true {c b s d : Int} (h : cutsB c b s d = true) : ∃ n m x y : Nat, c = n ∧ b = m ∧ s = x ∧ d = y ∧ n ≤ 8 ∧ m ≤ n ∧ x ≤ 3 ∧ y ≤ 3 := by
  simp only [cutsB, Bool.and_eq_true] at h
  obtain ⟨n, x, y, rfl, rfl, rfl, h0, h1, h2⟩ := tileB_true h.1
  obtain ⟨h3, h4⟩ := inB_true h.2
  obtain ⟨m, rfl⟩ := Int.eq_ofNat_of_zero_le h3
  exact ⟨n, m, x, y, rfl, rfl, rfl, rfl, h0, by omega, h1, h2⟩
theorem cutsB_mk {c b s d : Nat} (h0 : c ≤ 8) (h1 : b ≤ c) (h2 : s ≤ 3) (h3 : d ≤ 3) : cutsB c b s d = true := by rw [cutsB, tileB_mk h0 h2 h3, inB_mk (by omega) (by omega)]; rfl
theorem mul_wide {x y a b : Nat} (hx : x ≤ a) (hy : y ≤ b) : (0 : Int) ≤ (x : Int) * (y : Int) ∧ (x : Int) * (y : Int) ≤ ((a * b : Nat) : Int) := by
  have h := Nat.mul_le_mul hx hy
  have e : (x : Int) * (y : Int) = ((x * y : Nat) : Int) := by simp
  rw [e]
  exact ⟨by omega, by omega⟩
/-- How many cells the letters lay; -1 for others. -/
def bytesL (s : ByteArray) : List UInt8 := s.data.toList
def cellsB (s : ByteArray) : Bool := goodL (bytesL s) && decide (s.size ≤ 8)
def cellsV (s : ByteArray) : Int := if cellsB s = true then (cellsL (bytesL s) : Int) else -1
theorem cellsV_no {s : ByteArray} (h : cellsB s = false) : cellsV s = -1 := by rw [cellsV, if_neg (by simp [h])]
theorem cellsV_is {s : ByteArray} (h : cellsB s = true) : cellsV s = (cellsL (bytesL s) : Int) := by rw [cellsV, if_pos h]
theorem bytesL_len (s : ByteArray) : (bytesL s).length = s.size := by rw [bytesL, Array.length_toList]; rfl
theorem bytesL_at {s : ByteArray} {k : Nat} (h : k < s.size) : (bytesL s)[k]'(by rw [bytesL_len]; exact h) = s[k]'h := by simp [bytesL]; rfl
theorem cellsL_append : ∀ (A B : List UInt8), cellsL (A ++ B) = cellsL A + cellsL B
  | [], B => by simp [cellsL]
  | x :: A, B => by rw [List.cons_append, cellsL, cellsL, cellsL_append A B]; omega
theorem cellsL_next {s : ByteArray} {k : Nat} (h : k < s.size) : cellsL ((bytesL s).take (k + 1)) = cellsL ((bytesL s).take k) + (if isUp (s[k]'h) = true then 2 else 1) := by
  rw [List.take_succ_eq_append_getElem (by rw [bytesL_len]; exact h), cellsL_append, bytesL_at h]
  simp [cellsL]
theorem goodL_next {s : ByteArray} {k : Nat} (h : k < s.size) (hg : goodL ((bytesL s).take k) = true) (hx : (isUp (s[k]'h) || isLow (s[k]'h)) = true) : goodL ((bytesL s).take (k + 1)) = true := by
  rw [List.take_succ_eq_append_getElem (by rw [bytesL_len]; exact h), bytesL_at h]
  rw [goodL] at hg ⊢
  rw [List.all_append, hg]
  simp [hx]
theorem goodL_bad {s : ByteArray} {k : Nat} (h : k < s.size) (hx : (isUp (s[k]'h) || isLow (s[k]'h)) = false) : cellsB s = false := by
  have hm : s[k]'h ∈ bytesL s := by rw [← bytesL_at h]; exact List.getElem_mem _
  rw [cellsB, Bool.and_eq_false_iff]
  left
  rw [goodL, List.all_eq_false]
  exact ⟨_, hm, by simp [hx]⟩
theorem cellsL_bd : ∀ (A : List UInt8), cellsL A ≤ 2 * A.length
  | [] => Nat.le_refl _
  | x :: A => by
    have := cellsL_bd A
    rw [cellsL, List.length_cons]
    split <;> omega
theorem cellsV_bd (s : ByteArray) : cellsV s ≤ 16 := by
  by_cases h : cellsB s = true
  · rw [cellsV_is h]
    simp only [cellsB, Bool.and_eq_true, decide_eq_true_iff] at h
    have := cellsL_bd (bytesL s)
    rw [bytesL_len] at this
    omega
  · rw [cellsV_no (by simpa using h)]; omega
theorem isLow_iff (x : UInt8) : isLow x = inB (x.toNat : Int) 97 99 := by
  rw [isLow, inB, Bool.eq_iff_iff]
  simp only [Bool.and_eq_true, decide_eq_true_iff]
  omega
theorem isUp_iff (x : UInt8) : isUp x = inB (x.toNat : Int) 65 67 := by
  rw [isUp, inB, Bool.eq_iff_iff]
  simp only [Bool.and_eq_true, decide_eq_true_iff]
  omega
theorem low_not_up (x : UInt8) (h : isLow x = true) : isUp x = false := by
  simp only [isLow, Bool.and_eq_true, decide_eq_true_iff] at h
  rw [isUp, Bool.and_eq_false_iff]
  right
  simp only [decide_eq_false_iff_not]
  omega
set_option maxHeartbeats 2000000 in
theorem specCuts_any (c b s d : Int) (w : World) : Calls Try.prog 41 #[.int .i64 c, .int .i64 b, .int .i64 s, .int .i64 d] w fun e w' => e = .returned (.int .i64 (cutsV c b s d)) ∧ w = w' := by
  cases hc : tileB c s d with
  | false =>
    have HV := Lib.hid (cutsV_no (c := c) (b := b) (s := s) (d := d) (by simp [cutsB, hc]))
    have HC := Lib.hid (countV_no hc)
    clear hc
    go_enter Try.func41, Try.ntmps41
    go_wp2_with fail
    refine (specCount_is c s d (-1) _ HC.out).mono ?_
    rintro e wx ⟨rfl, rfl⟩
    go_wp2
    go_ret
    exact ⟨ret_int HV.out.symm, rfl⟩
  | true =>
    obtain ⟨n, x, y, rfl, rfl, rfl, n8, x3, y3⟩ := tileB_true hc
    have hC := countV_is hc
    obtain ⟨t, ht⟩ : ∃ t, cntN x y n = t := ⟨_, rfl⟩
    rw [ht] at hC
    have HC := Lib.hid hC
    have t0 : (0 : Int) ≤ (t : Int) := by omega
    cases hb : inB b 0 n with
    | false =>
      have HV := Lib.hid (cutsV_no (c := n) (b := b) (s := x) (d := y) (by simp [cutsB, hb]))
      have HB := Lib.hid hb
      clear hc hb hC ht
      go_enter Try.func41, Try.ntmps41
      go_wp2_with fail
      refine (specCount_is _ _ _ t _ HC.out).mono ?_
      rintro e wx ⟨rfl, rfl⟩
      go_wp2_with fail
      refine (l1In_no b 0 n _ HB.out).mono ?_
      rintro e wx ⟨rfl, rfl⟩
      go_wp2
      go_ret
      exact ⟨ret_int HV.out.symm, rfl⟩
    | true =>
      have ht2 : cutsB n b x y = true := by simp [cutsB, hc, hb]
      obtain ⟨_, m, _, _, hn, rfl, hx, hy, _, mn, _, _⟩ := cutsB_true ht2
      have mn' : m ≤ n := by omega
      have hV := cutsV_is ht2
      have hA := countV_is (tileB_mk (c := m) (by omega) x3 y3)
      have hB := countV_is (tileB_mk (c := n - m) (by omega) x3 y3)
      have m1 := mul_wide (cntN_bd x (by omega) y (by omega) m (by omega)) (cntN_bd x (by omega) y (by omega) (n - m) (by omega))
      obtain ⟨p, hp⟩ : ∃ p, cntN x y m = p := ⟨_, rfl⟩
      obtain ⟨q, hq⟩ : ∃ q, cntN x y (n - m) = q := ⟨_, rfl⟩
      rw [hp] at hV hA m1
      rw [hq] at hV hB m1
      have HV := Lib.hid hV
      have HA := Lib.hid hA
      have HQ := Lib.hid hB
      have HB := Lib.hid hb
      have E : (n : Int) - (m : Int) = ((n - m : Nat) : Int) := by omega
      have U : IntKind.i64.wrap ((n : Int) - (m : Int)) = ((n - m : Nat) : Int) := by rw [IntKind.wrap_i64]; omega
      clear hc hb ht2 hV hA hB hp hq hC ht hn hx hy mn
      go_enter Try.func41, Try.ntmps41
      go_wp2_with fail
      refine (specCount_is _ _ _ t _ HC.out).mono ?_
      rintro e wx ⟨rfl, rfl⟩
      go_wp2_with fail
      refine (l1In_yes _ 0 n _ HB.out).mono ?_
      rintro e wx ⟨rfl, rfl⟩
      go_wp2_with fail
      refine (specCount_is m x y p _ HA.out).mono ?_
      rintro e wx ⟨rfl, rfl⟩
      go_wp2_with fail
      refine (specCount_is ((n - m : Nat) : Int) x y q _ HQ.out).mono ?_
      rintro e wx ⟨rfl, rfl⟩
      go_wp2
      go_ret
      exact ⟨ret_int HV.out.symm, rfl⟩
theorem specCuts_is (c b s d v : Int) (w : World) (h : cutsV c b s d = v) : Calls Try.prog 41 #[.int .i64 c, .int .i64 b, .int .i64 s, .int .i64 d] w fun e w' => e = .returned (.int .i64 v) ∧ w = w' := by rw [← h]; exact specCuts_any c b s d w
set_option maxHeartbeats 4000000 in
theorem specCells_any (s : ByteArray) (w : World) (hsz : s.size ≤ 1048600) : Calls Try.prog 35 #[.string s] w fun e w' => e = .returned (.int .i64 (cellsV s)) ∧ w = w' := by
  go_enter Try.func35, Try.ntmps35
  go_wp2_with fail
  go_loop [3, 4, 11, 19] (fun x y _ _ => ∃ k : Nat, k ≤ s.size ∧ y = .int .i64 k ∧ x = .int .i64 ((cellsL ((bytesL s).take k) : Nat) : Int) ∧ goodL ((bytesL s).take k) = true) (fun _ y _ _ => 1048700 - (intOf y).toNat)
  case atStart => exact ⟨0, by omega, rfl, rfl, rfl⟩
  case round =>
    obtain ⟨k, hk, rfl, rfl, hg⟩ := hrel
    by_cases hlt : k < s.size
    · have hki : (k : Int) < (s.size : Int) := by omega
      have k0 : (0 : Int) ≤ (k : Int) := by omega
      have hnx := cellsL_next hlt
      have hgn := goodL_next hlt hg
      have hbd := cellsL_bd ((bytesL s).take k)
      have hbl : ((bytesL s).take k).length ≤ k := by rw [List.length_take]; omega
      have hbad := goodL_bad hlt
      have hxb := (s[k]'hlt).toNat_lt
      obtain ⟨u, hu⟩ : ∃ u, cellsL ((bytesL s).take k) = u := ⟨_, rfl⟩
      rw [hu] at hnx hbd ⊢
      have hul := low_not_up (s[k]'hlt)
      have hil := isLow_iff (s[k]'hlt)
      have hiu := isUp_iff (s[k]'hlt)
      cases hl : isLow (s[k]'hlt) with
      | true =>
        rw [hul hl, if_neg (by simp)] at hnx
        have HN := Lib.hid hnx
        have HG := Lib.hid (hgn (by rw [hl]; simp))
        have HL := Lib.hid (hil.symm.trans hl)
        clear hnx hgn hbad hul hil hiu hl hu hg
        go_wp2_with fail
        refine (l1In_yes _ 97 99 _ HL.out).mono ?_
        rintro e wx ⟨rfl, rfl⟩
        go_wp2
        go_round
        case rel => exact ⟨k + 1, by omega, congrArg (Value.int .i64) (by omega), congrArg (Value.int .i64) (by rw [HN.out]; omega), HG.out⟩
        case measure => simp [intOf]; omega
      | false =>
        cases hx : isUp (s[k]'hlt) with
        | true =>
          rw [hx, if_pos rfl] at hnx
          have HN := Lib.hid hnx
          have HG := Lib.hid (hgn (by rw [hx]; simp))
          have HL := Lib.hid (hil.symm.trans hl)
          have HU := Lib.hid (hiu.symm.trans hx)
          clear hnx hgn hbad hul hil hiu hl hu hg hx
          go_wp2_with fail
          refine (l1In_no _ 97 99 _ HL.out).mono ?_
          rintro e wx ⟨rfl, rfl⟩
          go_wp2_with fail
          refine (l1In_yes _ 65 67 _ HU.out).mono ?_
          rintro e wx ⟨rfl, rfl⟩
          go_wp2
          go_round
          case rel => exact ⟨k + 1, by omega, congrArg (Value.int .i64) (by omega), congrArg (Value.int .i64) (by rw [HN.out]; omega), HG.out⟩
          case measure => simp [intOf]; omega
        | false =>
          have HV := Lib.hid (cellsV_no (hbad (by rw [hl, hx]; rfl)))
          have HL := Lib.hid (hil.symm.trans hl)
          have HU := Lib.hid (hiu.symm.trans hx)
          clear hnx hgn hbad hul hil hiu hl hu hg hx
          go_wp2_with fail
          refine (l1In_no _ 97 99 _ HL.out).mono ?_
          rintro e wx ⟨rfl, rfl⟩
          go_wp2_with fail
          refine (l1In_no _ 65 67 _ HU.out).mono ?_
          rintro e wx ⟨rfl, rfl⟩
          go_wp2
          go_ret
          exact ⟨ret_int HV.out.symm, rfl⟩
    · obtain rfl : k = s.size := by omega
      have hta : (bytesL s).take s.size = bytesL s := by rw [List.take_of_length_le (by rw [bytesL_len]; omega)]
      rw [hta] at hg ⊢
      by_cases h8 : s.size ≤ 8
      · have h8i : (s.size : Int) ≤ 8 := by omega
        have HV := Lib.hid (cellsV_is (s := s) (by rw [cellsB, hg]; simp [h8]))
        clear hg hta
        go_wp2
        go_ret
        exact ⟨ret_int HV.out.symm, rfl⟩
      · have h8i : (8 : Int) < (s.size : Int) := by omega
        have HV := Lib.hid (cellsV_no (s := s) (by rw [cellsB]; simp [h8]))
        clear hg hta
        go_wp2
        go_ret
        exact ⟨ret_int HV.out.symm, rfl⟩
theorem specCells_is (s : ByteArray) (v : Int) (w : World) (hsz : s.size ≤ 1048600) (h : cellsV s = v) : Calls Try.prog 35 #[.string s] w fun e w' => e = .returned (.int .i64 v) ∧ w = w' := by rw [← h]; exact specCells_any s w hsz
def cutB (s : ByteArray) (c : Int) : Bool := inB c 0 (cellsV s) && cutL (bytesL s) c.toNat
theorem cutL_nil (c : Nat) : cutL [] c = decide (c = 0) := by cases c <;> simp [cutL]
theorem drop_at {s : ByteArray} {k : Nat} (h : k < s.size) : (bytesL s).drop k = s[k]'h :: (bytesL s).drop (k + 1) := by
  rw [List.drop_eq_getElem_cons (by rw [bytesL_len]; exact h), bytesL_at h]
set_option maxHeartbeats 4000000 in
theorem specCut_any (s : ByteArray) (c : Int) (w : World) (hsz : s.size ≤ 1048600) : Calls Try.prog 38 #[.string s, .int .i64 c] w fun e w' => e = .returned (.bool (cutB s c)) ∧ w = w' := by
  by_cases hc : c < 0
  · have HI := Lib.hid (inB_no (n := c) (a := 0) (b := cellsV s) (.inl hc))
    have HV := Lib.hid (show cutB s c = false by rw [cutB, HI.out]; rfl)
    go_enter Try.func38, Try.ntmps38
    go_wp2_with fail
    go_loop [5, 6] (fun x y => x = .int .i64 0 ∧ y = .int .i64 0) (fun _ _ => 0)
    case atStart => exact ⟨rfl, rfl⟩
    case round =>
      obtain ⟨rfl, rfl⟩ := hrel
      have hc0 : ¬ (0 < c) := by omega
      have hc1 : c ≤ 0 := by omega
      by_cases h0 : 0 < s.size
      · have h0i : (0 : Int) < (s.size : Int) := by omega
        go_wp2_with fail
        refine (specCells_any s _ hsz).mono ?_
        rintro e wx ⟨rfl, rfl⟩
        go_wp2_with fail
        refine (l1In_no c 0 (cellsV s) _ HI.out).mono ?_
        rintro e wx ⟨rfl, rfl⟩
        go_wp2
        go_ret
        exact ⟨ret_bool HV.out.symm, rfl⟩
      · have h0i : (s.size : Int) ≤ 0 := by omega
        go_wp2_with fail
        refine (specCells_any s _ hsz).mono ?_
        rintro e wx ⟨rfl, rfl⟩
        go_wp2_with fail
        refine (l1In_no c 0 (cellsV s) _ HI.out).mono ?_
        rintro e wx ⟨rfl, rfl⟩
        go_wp2
        go_ret
        exact ⟨ret_bool HV.out.symm, rfl⟩
  · obtain ⟨m, rfl⟩ := Int.eq_ofNat_of_zero_le (show 0 ≤ c by omega)
    clear hc
    obtain ⟨T, hT⟩ : ∃ T, cutL (bytesL s) m = T := ⟨_, rfl⟩
    have HB := Lib.hid (show cutB s m = (inB m 0 (cellsV s) && T) by rw [← hT]; rfl)
    have hT' := hT
    have HT := Lib.hid hT
    clear hT hT'
    go_enter Try.func38, Try.ntmps38
    go_wp2_with fail
    go_loop [5, 6] (fun x y => ∃ k n : Nat, k ≤ s.size ∧ n ≤ 2 * k ∧ y = .int .i64 k ∧ x = .int .i64 n ∧ ((n ≤ m ∧ cutL ((bytesL s).drop k) (m - n) = T) ∨ (n = m + 1 ∧ T = false))) (fun _ y => 1048700 - (intOf y).toNat)
    case atStart => exact ⟨0, 0, by omega, by omega, rfl, rfl, .inl ⟨by omega, HT.out⟩⟩
    case round =>
      obtain ⟨k, n, hk, hn2, rfl, rfl, hrel⟩ := hrel
      by_cases hgo : k < s.size ∧ n < m
      · obtain ⟨hlt, hnm⟩ := hgo
        have hki : (k : Int) < (s.size : Int) := by omega
        have k0 : (0 : Int) ≤ (k : Int) := by omega
        have hni : (n : Int) < (m : Int) := by omega
        have hcu : cutL ((bytesL s).drop k) (m - n) = T := by
          rcases hrel with h | h
          · exact h.2
          · omega
        rw [drop_at hlt] at hcu
        have hiu := isUp_iff (s[k]'hlt)
        have hxb := (s[k]'hlt).toNat_lt
        cases hx : isUp (s[k]'hlt) with
        | true =>
          have HU := Lib.hid (hiu.symm.trans hx)
          have HR := Lib.hid (show (n + 2 ≤ m ∧ cutL ((bytesL s).drop (k + 1)) (m - (n + 2)) = T) ∨ (n + 2 = m + 1 ∧ T = false) by
            by_cases h2 : n + 2 ≤ m
            · left
              rw [show m - n = m - (n + 2) + 2 by omega, cutL_up2 hx] at hcu
              exact ⟨h2, hcu⟩
            · right
              rw [show m - n = 1 by omega, cutL_up1 hx] at hcu
              exact ⟨by omega, hcu.symm⟩)
          clear hiu hx hcu hrel
          go_wp2_with fail
          refine (l1In_yes _ 65 67 _ HU.out).mono ?_
          rintro e wx ⟨rfl, rfl⟩
          go_wp2
          go_round
          case rel => exact ⟨k + 1, n + 2, by omega, by omega, congrArg (Value.int .i64) (by omega), congrArg (Value.int .i64) (by omega), HR.out⟩
          case measure => simp [intOf]; omega
        | false =>
          have HU := Lib.hid (hiu.symm.trans hx)
          have HR := Lib.hid (show (n + 1 ≤ m ∧ cutL ((bytesL s).drop (k + 1)) (m - (n + 1)) = T) ∨ (n + 1 = m + 1 ∧ T = false) by
            left
            rw [show m - n = m - (n + 1) + 1 by omega, cutL_low hx] at hcu
            exact ⟨by omega, hcu⟩)
          clear hiu hx hcu hrel
          go_wp2_with fail
          refine (l1In_no _ 65 67 _ HU.out).mono ?_
          rintro e wx ⟨rfl, rfl⟩
          go_wp2
          go_round
          case rel => exact ⟨k + 1, n + 1, by omega, by omega, congrArg (Value.int .i64) (by omega), congrArg (Value.int .i64) (by omega), HR.out⟩
          case measure => simp [intOf]; omega
      · have hTn : T = ((n : Int) == (m : Int)) := by
          rw [Bool.eq_iff_iff, beq_iff_eq]
          rcases hrel with ⟨h1, h2⟩ | ⟨h1, h2⟩
          · rw [← h2]
            by_cases hkm : k < s.size
            · have : n = m := by omega
              rw [this, Nat.sub_self, cutL_zero]; simp
            · rw [List.drop_of_length_le (by rw [bytesL_len]; omega), cutL_nil]
              simp; omega
          · rw [h2]; simp; omega
        have HTN := Lib.hid hTn
        clear hrel hTn
        cases hi : inB (m : Int) 0 (cellsV s) with
        | false =>
          have HI := Lib.hid hi
          have HV := Lib.hid (show cutB s m = false by rw [HB.out, hi]; rfl)
          clear hi
          by_cases hlt : k < s.size
          · have hki : (k : Int) < (s.size : Int) := by omega
            have hmn : (m : Int) ≤ (n : Int) := by omega
            clear hgo
            go_wp2_with fail
            refine (specCells_any s _ hsz).mono ?_
            rintro e wx ⟨rfl, rfl⟩
            go_wp2_with fail
            refine (l1In_no _ 0 (cellsV s) _ HI.out).mono ?_
            rintro e wx ⟨rfl, rfl⟩
            go_wp2
            go_ret
            exact ⟨ret_bool HV.out.symm, rfl⟩
          · have hki : (s.size : Int) ≤ (k : Int) := by omega
            clear hgo
            go_wp2_with fail
            refine (specCells_any s _ hsz).mono ?_
            rintro e wx ⟨rfl, rfl⟩
            go_wp2_with fail
            refine (l1In_no _ 0 (cellsV s) _ HI.out).mono ?_
            rintro e wx ⟨rfl, rfl⟩
            go_wp2
            go_ret
            exact ⟨ret_bool HV.out.symm, rfl⟩
        | true =>
          have HI := Lib.hid hi
          have HV := Lib.hid (show cutB s m = ((n : Int) == (m : Int)) by rw [HB.out, hi, ← HTN.out]; rfl)
          clear hi
          by_cases hlt : k < s.size
          · have hki : (k : Int) < (s.size : Int) := by omega
            have hmn : (m : Int) ≤ (n : Int) := by omega
            clear hgo
            go_wp2_with fail
            refine (specCells_any s _ hsz).mono ?_
            rintro e wx ⟨rfl, rfl⟩
            go_wp2_with fail
            refine (l1In_yes _ 0 (cellsV s) _ HI.out).mono ?_
            rintro e wx ⟨rfl, rfl⟩
            go_wp2
            go_ret
            exact ⟨ret_bool (by rw [HV.out]), rfl⟩
          · have hki : (s.size : Int) ≤ (k : Int) := by omega
            clear hgo
            go_wp2_with fail
            refine (specCells_any s _ hsz).mono ?_
            rintro e wx ⟨rfl, rfl⟩
            go_wp2_with fail
            refine (l1In_yes _ 0 (cellsV s) _ HI.out).mono ?_
            rintro e wx ⟨rfl, rfl⟩
            go_wp2
            go_ret
            exact ⟨ret_bool (by rw [HV.out]), rfl⟩
theorem specCut_is (s : ByteArray) (c : Int) (v : Bool) (w : World) (hsz : s.size ≤ 1048600) (h : cutB s c = v) : Calls Try.prog 38 #[.string s, .int .i64 c] w fun e w' => e = .returned (.bool v) ∧ w = w' := by rw [← h]; exact specCut_any s c w hsz
end Go.Proofs.Ytlmlcbhllodncaa
namespace Go.Proofs.Ytlmlcbhllodncaa
open Go.RowKit
theorem cells_of_cell' {W : World} {a : Addr} {v : Value} (h : W.cell? a = some v) : ∃ o : Obj, W.heap[a.block]? = some o ∧ True := by
  unfold World.cell? at h
  cases ho : W.heap[a.block]? with
  | none => simp [ho] at h
  | some o => exact ⟨o, rfl, trivial⟩
/-- Block R is a reader that has been asked at most k times. -/
def Rd (w : World) (R : Nat) (k : Nat) : Prop :=
  ∃ (a : Option Addr) (len cap p : Nat), w.cell? ⟨R, 0, none⟩ = some (.slice a len cap) ∧ w.cell? ⟨R, 1, none⟩ = some (.int .i64 p) ∧ w.frozen? ⟨R, 1, none⟩ = false ∧ p ≤ k ∧ len ≤ 2000 ∧
    (len = 0 ∨ ∃ b off, a = some ⟨b, off, none⟩ ∧ b < R ∧ ∀ i, i < len → ∃ x : Int, 0 ≤ x ∧ x ≤ 255 ∧ w.cell? ⟨b, off + i, none⟩ = some (.int .u8 x))
theorem Rd.mono {w : World} {R k k' : Nat} (h : Rd w R k) (hk : k ≤ k') : Rd w R k' := by
  obtain ⟨a, len, cap, p, h0, h1, hf, hp, hl, hs⟩ := h
  exact ⟨a, len, cap, p, h0, h1, hf, by omega, hl, hs⟩
theorem Rd.lt {w : World} {R k : Nat} (h : Rd w R k) : R < w.heap.size := by
  obtain ⟨a, len, cap, p, h0, _⟩ := h
  obtain ⟨o, ho, _⟩ := cells_of_cell' h0
  exact (Array.getElem?_eq_some_iff.1 ho).1
/-- A reader lies on where its block and the code's block do. -/
theorem Rd.below {w w' : World} {R k B : Nat} (h : Rd w R k) (hb : Below B w w') (hB : w.heap.size ≤ B) : Rd w' R k := by
  have hlt := h.lt
  obtain ⟨a, len, cap, p, h0, h1, hf, hp, hl, hs⟩ := h
  refine ⟨a, len, cap, p, (hb.cell (p := ⟨R, 0, none⟩) (by show R < B; omega)).trans h0, (hb.cell (p := ⟨R, 1, none⟩) (by show R < B; omega)).trans h1, (hb.frozen (p := ⟨R, 1, none⟩) (by show R < B; omega)).trans hf, hp, hl, ?_⟩
  rcases hs with hs | ⟨b, off, ha, hne, hc⟩
  · exact .inl hs
  · refine .inr ⟨b, off, ha, hne, fun i hi => ?_⟩
    obtain ⟨x, hx0, hx1, hx⟩ := hc i hi
    obtain ⟨o, ho, _⟩ := cells_of_cell' hx
    have hbl : b < w.heap.size := (Array.getElem?_eq_some_iff.1 ho).1
    exact ⟨x, hx0, hx1, (hb.cell (p := ⟨b, off + i, none⟩) (by show b < B; omega)).trans hx⟩
/-- A store into a block that lies behind the reader. -/
theorem Rd.set {w : World} {R k : Nat} (h : Rd w R k) {q : Addr} (hq : R < q.block) (u : Value) : Rd (w.setCell q u) R k := by
  obtain ⟨a, len, cap, p, h0, h1, hf, hp, hl, hs⟩ := h
  have other : ∀ b o, b ≤ R → (w.setCell q u).cell? ⟨b, o, none⟩ = w.cell? ⟨b, o, none⟩ := fun b o hb => World.cell?_setCell_other w q ⟨b, o, none⟩ u (fun e => by rw [e] at hq; exact absurd hq (by show ¬ R < b; omega))
  refine ⟨a, len, cap, p, (other R 0 (Nat.le_refl _)).trans h0, (other R 1 (Nat.le_refl _)).trans h1, by rw [World.frozen?_setCell]; exact hf, hp, hl, ?_⟩
  rcases hs with hs | ⟨b, off, ha, hne, hc⟩
  · exact .inl hs
  · refine .inr ⟨b, off, ha, hne, fun i hi => ?_⟩
    obtain ⟨x, hx0, hx1, hx⟩ := hc i hi
    exact ⟨x, hx0, hx1, (other b (off + i) (by omega)).trans hx⟩
theorem Rd.alloc {w : World} {R k : Nat} (h : Rd w R k) (o : Obj) : Rd (w.alloc o) R k := h.below ((Below.refl _ _).alloc (Nat.le_refl _) o) (Nat.le_refl _)
/-- The world behind a pick. -/
theorem Rd.asked {w : World} {R k : Nat} {a : Option Addr} {len cap p : Nat} (nq : Nat) (h0 : w.cell? ⟨R, 0, none⟩ = some (.slice a len cap)) (h1 : w.cell? ⟨R, 1, none⟩ = some (.int .i64 p)) (hf : w.frozen? ⟨R, 1, none⟩ = false) (hp : p ≤ k) (hl : len ≤ 2000)
    (hs : len = 0 ∨ ∃ b off, a = some ⟨b, off, none⟩ ∧ b < R ∧ ∀ i, i < len → ∃ x : Int, 0 ≤ x ∧ x ≤ 255 ∧ w.cell? ⟨b, off + i, none⟩ = some (.int .u8 x)) :
    Rd ((w.setCell ⟨R, 1, none⟩ (.int .i64 (p + 1))).drewN nq) R (k + 1) ∧ w.grownBy ((w.setCell ⟨R, 1, none⟩ (.int .i64 (p + 1))).drewN nq) (some R) := by
  refine ⟨⟨a, len, cap, p + 1, ?_, ?_, ?_, by omega, hl, ?_⟩, ⟨rfl, rfl, rfl, by simp [World.setCell], ?_⟩⟩
  · rw [World.cell?_drewN]; exact (World.cell?_setCell_other w ⟨R, 1, none⟩ ⟨R, 0, none⟩ _ (by simp)).trans h0
  · rw [World.cell?_drewN]; exact World.cell?_setCell_same' _ _ _ (by rw [h1]; rfl)
  · rw [World.frozen?_drewN, World.frozen?_setCell]; exact hf
  · rcases hs with hs | ⟨b, off, ha, hne, hc⟩
    · exact .inl hs
    · refine .inr ⟨b, off, ha, hne, fun i hi => ?_⟩
      obtain ⟨x, hx0, hx1, hx⟩ := hc i hi
      exact ⟨x, hx0, hx1, by rw [World.cell?_drewN]; exact (World.cell?_setCell_other w ⟨R, 1, none⟩ ⟨b, off + i, none⟩ _ (fun e => by injection e; omega)).trans hx⟩
  · intro j _ hj
    rw [World.heap_drewN]
    exact Below.heap_setCell _ _ _ _ (fun e => hj (by rw [e]))
/-- What is known behind a pick of n. -/
def Picked (w : World) (R k : Nat) (n : Int) (e : Ending) (w' : World) : Prop :=
  ∃ v : Int, e = .returned (.int .i64 v) ∧ 0 ≤ v ∧ (v < n ∨ v = 0) ∧ Rd w' R (k + 1) ∧ w.grownBy w' (some R)
theorem xor_i64 (a b : Nat) (ha : a < 4611686018427387904) (hb : b < 4611686018427387904) : bits .xor .i64 (a : Int) (b : Int) = ((a ^^^ b : Nat) : Int) ∧ a ^^^ b < 4611686018427387904 := by
  have hx : a ^^^ b < 2 ^ 62 := Nat.xor_lt_two_pow (by omega) (by omega)
  have h1 : (BitVec.ofInt 64 (a : Int)).toNat = a := by rw [BitVec.ofInt_natCast, BitVec.toNat_ofNat]; exact Nat.mod_eq_of_lt (by omega)
  have h2 : (BitVec.ofInt 64 (b : Int)).toNat = b := by rw [BitVec.ofInt_natCast, BitVec.toNat_ofNat]; exact Nat.mod_eq_of_lt (by omega)
  refine ⟨?_, by omega⟩
  show IntKind.i64.wrap ((BitVec.ofInt 64 (a : Int) ^^^ BitVec.ofInt 64 (b : Int)).toNat : Int) = _
  rw [BitVec.toNat_xor, h1, h2, IntKind.wrap_i64]
  omega
theorem mix_i64 (X : Nat) (hX : X ≤ 10000000000000) : ∃ Z : Nat, Z < 4611686018427387904 ∧ bits .xor .i64 (X : Int) ((X : Int) / 64) = (Z : Int) := by
  have h := xor_i64 X (X / 64) (by omega) (by omega)
  exact ⟨_, h.2, h.1⟩
set_option maxHeartbeats 1000000 in
theorem pick_far (R : Nat) (n : Int) (w : World) (len cap p b off : Nat) (x y : Int) (hn : 1 ≤ n) (hn2 : n ≤ 1000000000)
   (h0 : w.cell? ⟨R, 0, none⟩ = some (.slice (some ⟨b, off, none⟩) len cap)) (h1 : w.cell? ⟨R, 1, none⟩ = some (.int .i64 p)) (hf : w.frozen? ⟨R, 1, none⟩ = false) (hp : p ≤ 1000000000)
   (hlen : 0 < len) (hlen2 : len ≤ 2000) (hge : len ≤ p) (hb : b ≠ R)
   (hx0 : 0 ≤ x) (hx1 : x ≤ 255) (hx : w.cell? ⟨b, off + p % len, none⟩ = some (.int .u8 x))
   (hy0 : 0 ≤ y) (hy1 : y ≤ 255) (hy : w.cell? ⟨b, off + (p * 7 + 3) % len, none⟩ = some (.int .u8 y)) :
    Calls Try.prog 46 #[.pointer (some ⟨R, 0, none⟩), .int .i64 n] w fun e w' => ∃ v : Int, e = .returned (.int .i64 v) ∧ 0 ≤ v ∧ (v < n ∨ v = 0) ∧ ∃ nq, w' = (w.setCell ⟨R, 1, none⟩ (.int .i64 (p + 1))).drewN nq := by
  have hlz : ((len : Int) == 0) = false := by simp; omega
  have k0 : (0 : Int) ≤ (p : Int) % (len : Int) := Int.emod_nonneg _ (by omega)
  have k1 : (p : Int) % (len : Int) < (len : Int) := Int.emod_lt_of_pos _ (by omega)
  have k2 : ((p : Int) % (len : Int)).toNat = p % len := by rw [← Int.natCast_emod]; rfl
  have j0 : (0 : Int) ≤ ((p : Int) * 7 + 3) % (len : Int) := Int.emod_nonneg _ (by omega)
  have j1 : ((p : Int) * 7 + 3) % (len : Int) < (len : Int) := Int.emod_lt_of_pos _ (by omega)
  have j2 : (((p : Int) * 7 + 3) % (len : Int)).toNat = (p * 7 + 3) % len := by
    have e : ((p : Int) * 7 + 3) % (len : Int) = (((p * 7 + 3) % len : Nat) : Int) := by rw [Int.natCast_emod]; rfl
    rw [e]; rfl
  have q0 : (0 : Int) ≤ (p : Int) / (len : Int) := Int.ediv_nonneg (by omega) (by omega)
  have q1 : (p : Int) / (len : Int) ≤ 1000000000 := Int.le_trans (Int.ediv_le_self _ (by omega)) (by omega)
  obtain ⟨X, hX⟩ : ∃ X : Nat, x * 131 + y * 1117 + (p : Int) * 29 + (p : Int) / (len : Int) * 53 = (X : Int) := ⟨_, (Int.toNat_of_nonneg (by omega)).symm⟩
  have hX2 : X ≤ 10000000000000 := by omega
  obtain ⟨Z, hZ1, hZ⟩ := mix_i64 X hX2
  have r0 : (0 : Int) ≤ (Z : Int) % n := Int.emod_nonneg _ (by omega)
  have r1 : (Z : Int) % n < n := Int.emod_lt_of_pos _ (by omega)
  have HX := Lib.hid hX
  clear hX
  go_enter Try.func46, Try.ntmps46
  go_wp2
  go_quiet (fail)
  rw [HX.out]
  go_wp2
  go_ret
  exact ⟨_, rfl, r0, .inl r1, _, rfl⟩
set_option maxHeartbeats 1000000 in
theorem pick_near (R : Nat) (n : Int) (w : World) (len cap p b off : Nat) (x : Int) (hn : 1 ≤ n) (hn2 : n ≤ 1000000000)
   (h0 : w.cell? ⟨R, 0, none⟩ = some (.slice (some ⟨b, off, none⟩) len cap)) (h1 : w.cell? ⟨R, 1, none⟩ = some (.int .i64 p)) (hf : w.frozen? ⟨R, 1, none⟩ = false) (hp : p ≤ 1000000000)
   (hlen : 0 < len) (hlen2 : len ≤ 2000) (hge : p < len) (hb : b ≠ R)
   (hx0 : 0 ≤ x) (hx1 : x ≤ 255) (hx : w.cell? ⟨b, off + p, none⟩ = some (.int .u8 x)) :
    Calls Try.prog 46 #[.pointer (some ⟨R, 0, none⟩), .int .i64 n] w fun e w' => ∃ v : Int, e = .returned (.int .i64 v) ∧ 0 ≤ v ∧ (v < n ∨ v = 0) ∧ ∃ nq, w' = (w.setCell ⟨R, 1, none⟩ (.int .i64 (p + 1))).drewN nq := by
  have hlz : ((len : Int) == 0) = false := by simp; omega
  have r0 : (0 : Int) ≤ x % n := Int.emod_nonneg _ (by omega)
  have r1 : x % n < n := Int.emod_lt_of_pos _ (by omega)
  go_enter Try.func46, Try.ntmps46
  go_wp2
  go_ret
  exact ⟨_, rfl, r0, .inl r1, 0, rfl⟩
set_option maxHeartbeats 1000000 in
theorem pick_none (R : Nat) (n : Int) (w : World) (a : Option Addr) (cap p : Nat) (hn : 1 ≤ n)
   (h0 : w.cell? ⟨R, 0, none⟩ = some (.slice a 0 cap)) (h1 : w.cell? ⟨R, 1, none⟩ = some (.int .i64 p)) (hf : w.frozen? ⟨R, 1, none⟩ = false) (hp : p ≤ 1000000000) :
    Calls Try.prog 46 #[.pointer (some ⟨R, 0, none⟩), .int .i64 n] w fun e w' => ∃ v : Int, e = .returned (.int .i64 v) ∧ 0 ≤ v ∧ (v < n ∨ v = 0) ∧ ∃ nq, w' = (w.setCell ⟨R, 1, none⟩ (.int .i64 (p + 1))).drewN nq := by
  go_enter Try.func46, Try.ntmps46
  go_wp2
  go_ret
  exact ⟨_, rfl, by omega, .inr rfl, 0, rfl⟩
set_option maxHeartbeats 1000000 in
theorem pick_neg (R : Nat) (n : Int) (w : World) (p : Nat) (hn : n < 1) (h1 : w.cell? ⟨R, 1, none⟩ = some (.int .i64 p)) (hf : w.frozen? ⟨R, 1, none⟩ = false) (hp : p ≤ 1000000000) :
    Calls Try.prog 46 #[.pointer (some ⟨R, 0, none⟩), .int .i64 n] w fun e w' => ∃ v : Int, e = .returned (.int .i64 v) ∧ 0 ≤ v ∧ (v < n ∨ v = 0) ∧ ∃ nq, w' = (w.setCell ⟨R, 1, none⟩ (.int .i64 (p + 1))).drewN nq := by
  go_enter Try.func46, Try.ntmps46
  go_wp2
  go_ret
  exact ⟨_, rfl, by omega, .inr rfl, 0, rfl⟩
/-- **A pick, whatever the code is.** -/
theorem pick_any (R k : Nat) (n : Int) (w : World) (h : Rd w R k) (hk : k ≤ 1000000000) (hn : n ≤ 1000000000) :
    Calls Try.prog 46 #[.pointer (some ⟨R, 0, none⟩), .int .i64 n] w (Picked w R k n) := by
  obtain ⟨a, len, cap, p, h0, h1, hf, hp, hl, hs⟩ := h
  have fin : ∀ e w', (∃ v : Int, e = .returned (.int .i64 v) ∧ 0 ≤ v ∧ (v < n ∨ v = 0) ∧ ∃ nq, w' = (w.setCell ⟨R, 1, none⟩ (.int .i64 (p + 1))).drewN nq) → Picked w R k n e w' := by
    rintro e w' ⟨v, rfl, hv0, hv1, nq, rfl⟩
    exact ⟨v, rfl, hv0, hv1, Rd.asked nq h0 h1 hf hp hl hs⟩
  by_cases hn1 : n < 1
  · exact (pick_neg R n w p hn1 h1 hf (by omega)).mono fin
  · have hn' : 1 ≤ n := by omega
    rcases hs with rfl | ⟨b, off, rfl, hne, hc⟩
    · exact (pick_none R n w a cap p hn' h0 h1 hf (by omega)).mono fin
    · by_cases hl0 : len = 0
      · subst hl0
        exact (pick_none R n w _ cap p hn' h0 h1 hf (by omega)).mono fin
      · by_cases hlt : p < len
        · obtain ⟨x, hx0, hx1, hx⟩ := hc p hlt
          exact (pick_near R n w len cap p b off x hn' hn h0 h1 hf (by omega) (by omega) hl hlt (by omega) hx0 hx1 hx).mono fin
        · obtain ⟨x, hx0, hx1, hx⟩ := hc (p % len) (Nat.mod_lt _ (by omega))
          obtain ⟨y, hy0, hy1, hy⟩ := hc ((p * 7 + 3) % len) (Nat.mod_lt _ (by omega))
          exact (pick_far R n w len cap p b off x y hn' hn h0 h1 hf (by omega) (by omega) hl (by omega) (by omega) hx0 hx1 hx hy0 hy1 hy).mono fin
end Go.Proofs.Ytlmlcbhllodncaa
namespace Go.Proofs.Ytlmlcbhllodncaa
open Go.RowKit
theorem gcell {W w1 : World} {R : Nat} (hg : W.grownBy w1 (some R)) : (∀ b o, b < W.heap.size → b ≠ R → w1.cell? ⟨b, o, none⟩ = W.cell? ⟨b, o, none⟩) ∧ (∀ b o, b < W.heap.size → b ≠ R → w1.frozen? ⟨b, o, none⟩ = W.frozen? ⟨b, o, none⟩) :=
  ⟨fun b o h hne => World.cell?_of_block (a := ⟨b, o, none⟩) (hg.block b h (by simpa using hne)), fun b o h hne => World.frozen?_of_block (a := ⟨b, o, none⟩) (hg.block b h (by simpa using hne))⟩
/-- A code: it is nil, or it leads to a row of cells that hold bytes. -/
def IsRow (w : World) (a : Option Addr) (len cap : Nat) (zs : List Int) : Prop :=
  (a = none ∧ len = 0 ∧ cap = 0 ∧ zs = []) ∨
  ∃ x, a = some x ∧ len ≤ cap ∧ cap ≤ maxLen ∧ zs.length = cap ∧ (∀ i, i < zs.length → w.cell? (x.add i) = some (.int .u8 (zs.getD i 0))) ∧ ∀ n ∈ zs, (Lit.int .u8 n).wf = true
theorem byte_wf {n : Int} (h : (Lit.int .u8 n).wf = true) : 0 ≤ n ∧ n ≤ 255 := by
  have := h
  simp [Lit.wf, IntKind.min, IntKind.max, IntKind.signed, IntKind.bits] at this
  omega
/-- A code's cells, within its length. -/
theorem IsRow.cells {w : World} {a : Option Addr} {len cap : Nat} {zs : List Int} (h : IsRow w a len cap zs) : len = 0 ∨ ∃ b off, a = some ⟨b, off, none⟩ ∧ b < w.heap.size ∧ len ≤ cap ∧ cap ≤ maxLen ∧ ∀ i, i < len → ∃ x : Int, 0 ≤ x ∧ x ≤ 255 ∧ w.cell? ⟨b, off + i, none⟩ = some (.int .u8 x) := by
  rcases h with ⟨_, h, _, _⟩ | ⟨⟨b, off, spot⟩, rfl, hl, hm, hz, hc, hw⟩
  · exact .inl h
  · by_cases h0 : len = 0
    · exact .inl h0
    · have hc0 := hc 0 (by omega)
      have hs : spot = none := by simpa [Addr.add] using World.cell?_spot hc0
      subst hs
      refine .inr ⟨b, off, rfl, ?_, hl, hm, fun i hi => ?_⟩
      · obtain ⟨o, ho, _⟩ := cells_of_cell' hc0
        exact (Array.getElem?_eq_some_iff.1 ho).1
      · have hz' : zs.getD i 0 ∈ zs := by
          rw [List.getD_eq_getElem?_getD, List.getElem?_eq_getElem (by omega)]; simp
        have := byte_wf (hw _ hz')
        have hci := hc i (by omega)
        refine ⟨_, this.1, this.2, ?_⟩
        by_cases hi0 : i = 0
        · subst hi0; simpa [Addr.add] using hci
        · simpa [Addr.add, hi0] using hci
/-- Behind l20Open: the reader is the one new block. -/
def Opened (w : World) (e : Ending) (w' : World) : Prop :=
  e = .returned (.pointer (some ⟨w.heap.size, 0, none⟩)) ∧ Rd w' w.heap.size 0 ∧ Below w.heap.size w w' ∧ w.heap.size < w'.heap.size
theorem opened (w : World) (a : Option Addr) (len cap : Nat) (hl : len ≤ 2000)
    (hs : len = 0 ∨ ∃ b off, a = some ⟨b, off, none⟩ ∧ b < w.heap.size ∧ ∀ i, i < len → ∃ x : Int, 0 ≤ x ∧ x ≤ 255 ∧ w.cell? ⟨b, off + i, none⟩ = some (.int .u8 x)) :
    Opened w (.returned (.pointer (some ⟨w.heap.size, 0, none⟩))) (w.alloc (.cells #[.slice a len cap, .int .i64 0] 66)) := by
  have hb : Below w.heap.size w (w.alloc (.cells #[.slice a len cap, .int .i64 0] 66)) := (Below.refl _ _).alloc (Nat.le_refl _) _
  refine ⟨rfl, ⟨a, len, cap, 0, by simp [go_sem], by simp [go_sem], by simp [go_sem], Nat.le_refl _, hl, ?_⟩, hb, by simp⟩
  rcases hs with hs | ⟨b, off, ha, hlt, hc⟩
  · exact .inl hs
  · refine .inr ⟨b, off, ha, by omega, fun i hi => ?_⟩
    obtain ⟨x, hx0, hx1, hx⟩ := hc i hi
    exact ⟨x, hx0, hx1, (hb.cell (p := ⟨b, off + i, none⟩) hlt).trans hx⟩
set_option maxHeartbeats 400000 in
theorem open_any (w : World) (a : Option Addr) (len cap : Nat) (zs : List Int) (h : IsRow w a len cap zs) :
    Calls Try.prog 45 #[.slice a len cap] w (Opened w) := by
  rcases h.cells with rfl | ⟨b, off, rfl, hlt, hlc, hm, hc⟩
  · have H := Lib.hid (opened w a 0 cap (by omega) (.inl rfl))
    go_enter Try.func45, Try.ntmps45
    go_wp2
    go_ret
    exact H.out
  · unfold maxLen at hm
    by_cases hbig : 2000 < len
    · have H := Lib.hid (opened w (some ⟨b, off, none⟩) 2000 cap (by omega) (.inr ⟨b, off, rfl, hlt, fun i hi => hc i (by omega)⟩))
      clear hc
      go_enter Try.func45, Try.ntmps45
      go_wp2
      go_ret
      exact H.out
    · have H := Lib.hid (opened w (some ⟨b, off, none⟩) len cap (by omega) (.inr ⟨b, off, rfl, hlt, hc⟩))
      have hs : len ≤ 2000 := by omega
      clear hc
      go_enter Try.func45, Try.ntmps45
      go_wp2
      go_ret
      exact H.out
/-- What is known behind a draw of a pair. -/
def PairDrawn (w : World) (R k m : Nat) (e : Ending) (w' : World) : Prop :=
  ∃ p q : Int, e = .returned (pr p q) ∧ -5 ≤ p ∧ p ≤ 100 ∧ -5 ≤ q ∧ q ≤ 100 ∧ Rd w' R (k + m) ∧ w.grownBy w' (some R)
def BoolDrawn (w : World) (R k : Nat) (e : Ending) (w' : World) : Prop :=
  ∃ b : Bool, e = .returned (.bool b) ∧ Rd w' R (k + 1) ∧ w.grownBy w' (some R)
set_option maxHeartbeats 400000 in
theorem odd_any (R k : Nat) (n : Int) (w : World) (h : Rd w R k) (hk : k ≤ 500000000) (hn : n ≤ 1000000) :
    Calls Try.prog 66 #[.pointer (some ⟨R, 0, none⟩), .int .i64 n] w (BoolDrawn w R k) := by
  by_cases hn0 : 0 < n
  · go_enter Try.func66, Try.ntmps66
    go_wp2_with fail
    refine (pick_any R k n _ h (by omega) (by omega)).mono ?_
    rintro e w1 ⟨v1, rfl, va1, vb1, hR1, hh1⟩
    have vc1 : v1 ≤ max (n - 1) 0 := by omega
    clear vb1
    obtain ⟨hc1, hf1⟩ := gcell hh1
    have hz1 := hh1.size
    try simp only [World.size_alloc] at hz1
    go_wp2
    go_ret
    exact ⟨_, rfl, hR1, hh1⟩
  · have hn1 : n ≤ 0 := by omega
    go_enter Try.func66, Try.ntmps66
    go_wp2
    go_ret
    exact ⟨_, rfl, h.mono (by omega), ⟨rfl, rfl, rfl, Nat.le_refl _, fun _ _ _ => rfl⟩⟩
end Go.Proofs.Ytlmlcbhllodncaa
namespace Go.Proofs.Ytlmlcbhllodncaa
open Go.RowKit
theorem gr_refl (w : World) (R : Nat) : w.grownBy w (some R) := ⟨rfl, rfl, rfl, Nat.le_refl _, fun _ _ _ => rfl⟩
theorem gr_trans {w w1 w2 : World} {R : Nat} (h : w.grownBy w1 (some R)) (k : w1.grownBy w2 (some R)) : w.grownBy w2 (some R) :=
  ⟨k.os.trans h.os, k.tape.trans h.tape, k.output.trans h.output, Nat.le_trans h.size k.size, fun j hj hne => (k.block j (Nat.lt_of_lt_of_le hj h.size) hne).trans (h.block j hj hne)⟩
theorem gr_below {w w1 w2 : World} {R : Nat} (h : w.grownBy w1 (some R)) (k : Below w1.heap.size w1 w2) : w.grownBy w2 (some R) :=
  ⟨k.os.trans h.os, k.tape.trans h.tape, k.output.trans h.output, Nat.le_trans h.size k.size, fun j hj hne => (k.block j (Nat.lt_of_lt_of_le hj h.size)).trans (h.block j hj hne)⟩
theorem gr_alloc {w w1 : World} {R : Nat} (h : w.grownBy w1 (some R)) (o : Obj) : w.grownBy (w1.alloc o) (some R) := gr_below h ((Below.refl _ _).alloc (Nat.le_refl _) o)
theorem gr_set {w w1 : World} {R : Nat} (h : w.grownBy w1 (some R)) {p : Addr} (hp : w.heap.size ≤ p.block) (v : Value) : w.grownBy (w1.setCell p v) (some R) :=
  ⟨h.os, h.tape, h.output, by simpa [World.setCell] using h.size, fun j hj hne => (Below.heap_setCell _ _ _ _ (by omega)).trans (h.block j hj hne)⟩
theorem gr_drew {w w1 : World} {R : Nat} (h : w.grownBy w1 (some R)) : w.grownBy w1.drew (some R) := ⟨h.os, h.tape, h.output, h.size, h.block⟩
theorem seven {v : Int} (h0 : 0 ≤ v) (h1 : v ≤ 6) : v = 0 ∨ v = 1 ∨ v = 2 ∨ v = 3 ∨ v = 4 ∨ v = 5 ∨ v = 6 := by omega
theorem three {v : Int} (h0 : 0 ≤ v) (h1 : v ≤ 2) : v = 0 ∨ v = 1 ∨ v = 2 := by omega
end Go.Proofs.Ytlmlcbhllodncaa
namespace Go.Proofs.Ytlmlcbhllodncaa
open Go.RowKit
/-- What a draw of a pair returns. -/
def DrawnPair (w : World) (e : Ending) (w' : World) : Prop :=
  ∃ p q : Int, e = .returned (pr p q) ∧ -6 ≤ p ∧ p ≤ 100 ∧ -6 ≤ q ∧ q ≤ 100 ∧ Below w.heap.size w w'
/-- What a draw of a pair and a place returns. -/
def DrawnPlace (w : World) (e : Ending) (w' : World) : Prop :=
  ∃ p q n : Int, e = .returned (.tuple #[pr p q, .int .i64 n]) ∧ -6 ≤ p ∧ p ≤ 100 ∧ -6 ≤ q ∧ q ≤ 100 ∧ -60 ≤ n ∧ n ≤ 60 ∧ Below w.heap.size w w'
def PlaceDrawn (w : World) (R k : Nat) (e : Ending) (w' : World) : Prop :=
  ∃ p q n : Int, e = .returned (.tuple #[pr p q, .int .i64 n]) ∧ -5 ≤ p ∧ p ≤ 100 ∧ -5 ≤ q ∧ q ≤ 100 ∧ -60 ≤ n ∧ n ≤ 60 ∧ Rd w' R (k + 8) ∧ w.grownBy w' (some R)
/-- A code lies on. -/
theorem IsRow.below {w w' : World} {a : Option Addr} {len cap : Nat} {zs : List Int} (h : IsRow w a len cap zs) (hb : Below w.heap.size w w') : IsRow w' a len cap zs := by
  rcases h with h | ⟨x, rfl, hl, hm, hz, hc, hw⟩
  · exact .inl h
  · refine .inr ⟨x, rfl, hl, hm, hz, fun i hi => ?_, hw⟩
    have hci := hc i hi
    obtain ⟨o, ho, _⟩ := cells_of_cell' hci
    exact (hb.cell (Array.getElem?_eq_some_iff.1 ho).1).trans hci
/-- What is known of a pair's draw, as a fact behind a call. -/
theorem DrawnPair.of {w : World} {R k m : Nat} {e : Ending} {w1 w' : World} (h : PairDrawn w1 R k m e w') (hb : Below w.heap.size w w1) (hR : w.heap.size ≤ R) : DrawnPair w e w' := by
  obtain ⟨p, q, rfl, h1, h2, h3, h4, _, hg⟩ := h
  exact ⟨p, q, rfl, by omega, h2, by omega, h4, hb.grown hg hb.size (fun k e => by cases e; exact hR)⟩
end Go.Proofs.Ytlmlcbhllodncaa
namespace Go.Proofs.Ytlmlcbhllodncaa
open Go.RowKit
theorem pairB_neg (p q : Int) : pairB (-p) (-q) = pairB p q := by
  have h : ∀ n, numB (-n) = numB n := fun n => by
    simp only [numB]
    exact decide_eq_decide.2 (by omega)
  simp [pairB, h]
theorem implPairOk_neg (p q : Int) (w : World) : Calls Try.prog 48 #[pr (-p) (-q)] w fun e w' => e = .returned (.bool (pairB p q)) ∧ Below w.heap.size w w' := by rw [← pairB_neg]; exact implPairOk_any _ _ _
set_option maxHeartbeats 400000 in
theorem alive_any (w : World) : Calls Try.prog 20 #[] w fun e w' => e = .returned (.bool true) ∧ Below w.heap.size w w' := by
  go_enter Try.func20, Try.ntmps20
  go_wp2_with fail
  refine (implPairOk_yes 1 (-1) _ (by decide)).mono ?_
  rintro e w1 ⟨rfl, hh1⟩
  obtain ⟨hc1, hf1⟩ := bcell hh1
  have hz1 := hh1.size
  try simp only [World.size_alloc] at hz1
  go_wp2_with fail
  refine (implPairOk_no 5 0 _ (by decide)).mono ?_
  rintro e w2 ⟨rfl, hh2⟩
  obtain ⟨hc2, hf2⟩ := bcell hh2
  have hz2 := hh2.size
  try simp only [World.size_alloc] at hz2
  go_wp2
  go_ret
  exact ⟨rfl, by (repeat (first | exact Below.refl _ _ | refine Below.setCell ?_ (by first | omega | (simp <;> omega)) _ | refine Below.alloc ?_ (by first | omega | (simp <;> omega)) _ | refine Below.drew ?_ | refine Below.trans ?_ (Below.mono (by assumption) (by first | omega | (simp <;> omega))) | refine Below.grown ?_ (by assumption) (by first | omega | (simp <;> omega)) (fun k e => by cases e; first | omega | (simp <;> omega))))⟩
theorem nine {p : Int} (h1 : -4 ≤ p) (h2 : p ≤ 4) : p = -4 ∨ p = -3 ∨ p = -2 ∨ p = -1 ∨ p = 0 ∨ p = 1 ∨ p = 2 ∨ p = 3 ∨ p = 4 := by omega
theorem weight_mod (p q : Int) (h : pairB p q = true) : ((wrap64 ((weightV p q).tmod 4 + 4)).tmod 4 == (p * p).tmod 2) = true := by
  obtain ⟨⟨h1, h2⟩, h3, h4⟩ := pairB_true h
  rw [weightV, if_pos h]
  clear h
  rcases nine h1 h2 with rfl | rfl | rfl | rfl | rfl | rfl | rfl | rfl | rfl <;> rcases nine h3 h4 with rfl | rfl | rfl | rfl | rfl | rfl | rfl | rfl | rfl <;> decide +kernel
theorem pairB_turn (p q : Int) (h : pairB p q = true) : pairB (-p) q = true := by
  obtain ⟨⟨h1, h2⟩, h3, h4⟩ := pairB_true h
  exact pairB_mk (by omega) (by omega) h3 h4
end Go.Proofs.Ytlmlcbhllodncaa
namespace Go.Proofs.Ytlmlcbhllodncaa
open Go.RowKit
/-- What an endless iterator promises: whoever keeps what it needs (Kp) between two rounds, and leaves before round N, is handed place after place; and it returns once a round has said 'no more'. -/
def Endless (F : Fence) (n : Nat) (P : Program) (g : Nat) (lb : Array Value) (at_ : Nat → Array Value) (Kp : World → Prop) (N : Nat) (w : World) : Prop :=
  ∀ (l : Nat) (J X : Nat → World → Prop) (W : World), Below w.heap.size w W → AbidesFrom W.heap.size J → AbidesFrom W.heap.size X → (∀ k V, J k V → Kp V) →
    (∀ k V, k < N → J k V → YieldAt F (n - 1) P l (at_ k) V fun e V' => (e = .returned (.bool true) ∧ k + 1 < N ∧ J (k + 1) V') ∨ (e = .returned (.bool false) ∧ X k V')) →
    0 < N → J 0 W → CallsIn F n P g (#[.func (.yield l) #[] #[]] ++ lb) W fun e V => (∃ v, e = .returned v) ∧ ∃ k, k < N ∧ X k V
/-- How the body of round k may end. -/
def roundEnd (N : Nat) (I : Nat → World → Prop) (X : Code → Nat → World → Prop) (k : Nat) (W : World) : Exit → Act → World → Prop
  | .normal, _, V => KeepsOthers W V ∧ k + 1 < N ∧ I (k + 1) V
  | .ret, _, V => KeepsOthers W V ∧ X .ret k V
  | .exit id, _, V => KeepsOthers W V ∧ X (.exit id) k V
  | .goto t, _, V => KeepsOthers W V ∧ X (.goto t) k V
  | .panic _, _, _ => False
  | .outgrown, _, _ => False
/-- The record of the loop in one of its states. -/
def recordOf (w : World) (fn : FuncId) (a : Act) (ps : Array Tmp) (assign body : Code) (st : LoopState) (pe : Option Code) : Obj :=
  .loop { state := st, pending := pe, fn := fn, tmps := a.tmps, params := ps, assign := assign, body := body, defers := w.heap.size }
/-- The record and the block for what the rounds defer, as they lie between two rounds, or behind the last one. -/
def Held (w W : World) (o : Obj) : Prop := W.heap[w.heap.size + 1]? = some o ∧ W.heap[w.heap.size]? = some (.deferred (some []))
theorem Held.kept {w A B : World} {o : Obj} {row : Option Nat} (h : Held w A o) (ho : o.isWalk = false) (hg : A.grownBy B row) (hr : ∀ r, row = some r → ∃ x : Obj, A.heap[r]? = some x ∧ x.isWalk = true) : Held w B o :=
  ⟨(grownBy_keeps hg hr h.1 ho).trans h.1, (grownBy_keeps hg hr h.2 rfl).trans h.2⟩
theorem Held.turned {w A : World} {o : Obj} (h : Held w A o) (o' : Obj) : Held w (A.putObj (w.heap.size + 1) o') o' :=
  ⟨World.putObj_heap_same (Array.getElem?_eq_some_iff.1 h.1).1, (World.putObj_heap_other (by omega)).trans h.2⟩
theorem Held.others {w A B : World} {o : Obj} (h : Held w A o) (ho : o.isCells = false) (hk : KeepsOthers A B) : Held w B o := ⟨hk.same _ _ h.1 ho, hk.same _ _ h.2 rfl⟩
variable {F : Fence} {n : Nat} {P : Program}
/-- **The statement 'for x := range f', f an iterator without end.** -/
theorem wpIn_rangeFunc_endless {g : Operand} {ps : Array Tmp} {assign body : Code} {Q : Exit → Act → World → Prop} {a : Act} {w : World}
    (hro : F.round = none) (h1 : 1 ≤ n) {gf : Nat} {lb : Array Value} (hg : a.eval g = .func (.func gf) #[] lb) (hFg : F.fn gf) (eg : ∀ args V, (callFunc gf args).run P V = .ok (.enter gf args) V)
    {at_ : Nat → Array Value} {Kp : World → Prop} {N : Nat} {w0 : World} (hseq : Endless F (n - 1) P gf lb at_ Kp N w0) (hb0 : Below w0.heap.size w0 w) (hps : ∀ k, (at_ k).size = ps.size) (hN : 0 < N)
    (I : Nat → World → Prop) (X : Code → Nat → World → Prop) (hI : OwnFrom w.heap.size I) (hX : ∀ c, OwnFrom w.heap.size (X c)) (hKp : ∀ k V, I k V → Kp V) (h0 : I 0 w) (a₁ : Nat → Act)
    (hassign : ∀ (l k : Nat) (W : World) (K : Act → World → Prop), K (a₁ k) W →
      assign.wpIn (F.inRound l) (n - 1 - 1) P (Exit.then K (fun _ _ _ => False)) { tmps := (ps.zip (at_ k)).foldl (fun t (p, v) => t.setIfInBounds p v) a.tmps, defers := [] } W)
    (hbody : ∀ (l k : Nat) (W : World), k < N → I k W → body.wpIn (F.inRound l) (n - 1 - 1) P (roundEnd N I X k W) (a₁ k) W)
    (hstop : ∀ (D k : Nat) (c : Code) (W : World), w.heap.size ≤ D → k < N → X c k W → W.heap[D]? = some (.deferred (some [])) → c.wpIn F n P Q { a with defers := { target := .collected D, args := #[] } :: a.defers } W) :
    (Code.rangeFunc g ps assign body).wpIn F n P Q a w := by
  refine wpIn_rangeFunc fun fn hfn => ?_
  rw [hro]
  obtain ⟨rec, hrec⟩ : ∃ rec : LoopState → Option Code → Obj, rec = recordOf w fn a ps assign body := ⟨_, rfl⟩
  have held : Held w ((w.alloc (.deferred (some []))).alloc (rec .ready none)) (rec .ready none) := by
    refine ⟨?_, (Below.heap_alloc _ _ _ (by simp)).trans (World.alloc_heap_new w _)⟩
    have := World.alloc_heap_new (w.alloc (.deferred (some []))) (rec .ready none)
    rwa [World.size_alloc] at this
  have hI1 : I 0 ((w.alloc (.deferred (some []))).alloc (rec .ready none)) := hI.alloc _ (hI.alloc _ h0)
  have hb1 : Below w0.heap.size w0 ((w.alloc (.deferred (some []))).alloc (rec .ready none)) := hb0.trans ((((Below.refl _ w).alloc (Nat.le_refl _) _).alloc (by simp) _).mono hb0.size)
  have hsz : w.heap.size ≤ ((w.alloc (.deferred (some []))).alloc (rec .ready none)).heap.size := by simp; omega
  obtain ⟨W1, hW1⟩ : ∃ W1, (w.alloc (.deferred (some []))).alloc (rec .ready none) = W1 := ⟨_, rfl⟩
  rw [hW1] at held hI1 hb1 hsz
  refine ⟨w.heap.size + 1, [{ target := .collected w.heap.size, args := #[] }], W1, { target := .fn (.func gf) lb, args := #[.func (.yield (w.heap.size + 1)) #[] #[]] }, W1, gf, #[.func (.yield (w.heap.size + 1)) #[] #[]] ++ lb, W1,
    by rw [← hW1, hrec]; exact run_enterLoop_outer _ _ _ _ _, by simp only [resolve, hg]; simp [go_sem], fun f' hf' => by simp [Target.leads] at hf'; subst hf'; exact hFg, by simp [invoke, go_sem, eg], fun _ => h1, ?_⟩
  have nowalk : ∀ {A : World} {row : Option Nat}, (∀ r, row = some r → W1.heap.size ≤ r ∧ ∃ o : Obj, A.heap[r]? = some o ∧ o.isWalk = true) → (∀ r, row = some r → w.heap.size ≤ r ∧ ∃ o : Obj, A.heap[r]? = some o ∧ o.isCells = false) :=
    fun hr r e => by obtain ⟨hB, o, ho, hw⟩ := hr r e; exact ⟨by omega, o, ho, Obj.not_cells_of_walk hw⟩
  have recW : ∀ st pe, (rec st pe).isWalk = false := fun _ _ => by rw [hrec]; rfl
  have recC : ∀ st pe, (rec st pe).isCells = false := fun _ _ => by rw [hrec]; rfl
  refine (hseq (w.heap.size + 1) (fun k W => I k W ∧ Held w W (rec .ready none)) (fun k W => ∃ c, X c k W ∧ Held w W (rec .done (some c))) W1 hb1
    (fun s A B row hs hg' hr => ⟨hI s A B row hs.1 hg' (nowalk hr), hs.2.kept (recW _ _) hg' (fun r e => (hr r e).2)⟩)
    (fun s A B row hs hg' hr => by obtain ⟨c, hc, hh⟩ := hs; exact ⟨c, hX c s A B row hc hg' (nowalk hr), hh.kept (recW _ _) hg' (fun r e => (hr r e).2)⟩)
    (fun k V hj => hKp k V hj.1) ?round hN ⟨hI1, held⟩).mono ?behind
  case round =>
    rintro k W hk ⟨hi, hh⟩
    have hl : W.heap[w.heap.size + 1]? = some (.loop { state := .ready, pending := none, fn := fn, tmps := a.tmps, params := ps, assign := assign, body := body, defers := w.heap.size }) := by have := hh.1; rw [hrec] at this; exact this
    refine ⟨fn, _, assign, body, run_yield (P := P) (args := at_ k) hl (hps k), roundIn_of_wpIn hfn (hassign _ k W _ ⟨_, run_beginRound hl rfl, ?_⟩)⟩
    have busy : Held w (W.putObj (w.heap.size + 1) (rec .busy none)) (rec .busy none) := hh.turned _
    have hi2 : I k (W.putObj (w.heap.size + 1) (rec .busy none)) := hI.putObj _ hi (by omega) hl rfl
    have fin : ∀ (jump : Option Code) (V : World), KeepsOthers (W.putObj (w.heap.size + 1) (rec .busy none)) V → ∃ r : Loop, V.heap[w.heap.size + 1]? = some (.loop r) ∧
        (Instr.endRound (w.heap.size + 1) jump).run P V = .ok (.bool jump.isNone) (V.putObj (w.heap.size + 1) (rec (if jump.isNone then .ready else .done) jump)) ∧ Held w (V.putObj (w.heap.size + 1) (rec (if jump.isNone then .ready else .done) jump)) (rec (if jump.isNone then .ready else .done) jump) := fun jump V hkV => by
      have hv := busy.others (recC _ _) hkV
      have hv1 := hv.1
      rw [hrec] at hv1
      have hr := run_endRound (P := P) jump hv1
      refine ⟨_, hv1, ?_, hv.turned _⟩
      rw [hrec]; exact hr
    rw [hrec] at hi2 busy
    refine wpIn_mono (hbody _ k _ hk hi2) ?_
    rintro e a3 V hp
    have stop : ∀ c : Code, KeepsOthers (W.putObj (w.heap.size + 1) (recordOf w fn a ps assign body .busy none)) V ∧ X c k V →
        ∃ v V', (Instr.endRound (w.heap.size + 1) (some c)).run P V = .ok v V' ∧ ((Ending.returned v = .returned (.bool true) ∧ k + 1 < N ∧ (I (k + 1) V' ∧ Held w V' (rec .ready none))) ∨ (Ending.returned v = .returned (.bool false) ∧ ∃ c, X c k V' ∧ Held w V' (rec .done (some c)))) := fun c hc => by
      obtain ⟨r, hl3, hr, hh3⟩ := fin (some c) V (by rw [hrec]; exact hc.1)
      exact ⟨_, _, hr, .inr ⟨rfl, c, (hX c).putObj _ hc.2 (by omega) hl3 rfl, hh3⟩⟩
    cases e with
    | normal =>
      obtain ⟨hk3, hlt, hi3⟩ := hp
      obtain ⟨r, hl3, hr, hh3⟩ := fin none V (by rw [hrec]; exact hk3)
      exact ⟨_, _, hr, .inl ⟨rfl, hlt, hI.putObj _ hi3 (by omega) hl3 rfl, hh3⟩⟩
    | ret => exact stop _ hp
    | exit id => exact stop _ hp
    | goto t => exact stop _ hp
    | panic ch => exact hp.elim
    | outgrown => exact hp.elim
  case behind =>
    rintro e V ⟨⟨v, rfl⟩, k, hk, c, hc, hh⟩
    have hl := hh.1
    rw [hrec] at hl
    refine ⟨some c, _, run_endLoop (P := P) hl (by simp), hstop _ k c _ (Nat.le_refl _) hk ((hX c).putObj _ hc (by omega) hl rfl) ?_⟩
    exact (World.putObj_heap_other (by omega)).trans hh.2
end Go.Proofs.Ytlmlcbhllodncaa
namespace Go.Proofs.Ytlmlcbhllodncaa
open Go.RowKit Go.Shelf
attribute [local go_sem] Oper.semAt_some
/-- What the iterator reads: the boxes of p, of the first and of the second number. -/
def RowBoxes (B : Nat) (p q a b : Int) (W : World) : Prop :=
  W.cell? ⟨B, 0, none⟩ = some (.int .i64 p) ∧ W.cell? ⟨B, 1, none⟩ = some (.int .i64 q) ∧ W.cell? ⟨B + 1, 0, none⟩ = some (.int .i64 a) ∧ W.cell? ⟨B + 1 + 1, 0, none⟩ = some (.int .i64 b)
theorem abides_drew {J : Nat → World → Prop} {B : Nat} (hJ : AbidesFrom B J) {k : Nat} {W : World} (h : J k W) (n : Nat) : J k (W.drewN n) :=
  hJ k W _ none h ⟨rfl, rfl, rfl, Nat.le_refl _, fun _ _ _ => rfl⟩ (fun _ e => by cases e)
set_option maxHeartbeats 4000000 in
theorem rowFrom_endless (n : Nat) (hn : 1 ≤ n) (p q a b : Int) (B N : Nat) (w : World) (h1 : -4 ≤ p) (h2 : p ≤ 4) (h3 : -4 ≤ q) (h4 : q ≤ 4) (h5 : -4 ≤ a) (h6 : a ≤ 4) (h7 : -4 ≤ b) (h8 : b ≤ 4) (hN : N ≤ 21) :
    Endless Fence.wide n Try.prog 68 #[.pointer (some ⟨B + 1, 0, none⟩), .pointer (some ⟨B + 1 + 1, 0, none⟩), .pointer (some ⟨B, 0, none⟩)] (fun k => #[.int .i64 (row p q a b k)]) (RowBoxes B p q a b) N w := by
  intro l J X W hW hJ hX hKp hY hN0 h0
  obtain ⟨c1, c2, c3, c4⟩ := hKp 0 W h0
  refine callsIn_of_wp Try.func68 rfl trivial ?_ rfl
  simp only [Try.ntmps68, List.size_toArray, List.length_cons, List.length_nil, Nat.reduceAdd, Nat.reduceSub, Array.replicate_succ, Array.replicate_zero, List.push_toArray, List.append_toArray, List.nil_append, List.cons_append]
  gi_wp2
  gi_quiet (fail)
  rename_i nq
  have h0' := abides_drew hJ h0 nq
  clear h0 c1 c2 c3 c4
  gi_wp2
  gi_loopg [5, 6] N (fun r x y wr => ∃ k, k + r = N ∧ k < N ∧ x = .int .i64 (row p q a b k) ∧ y = .int .i64 (row p q a b (k + 1)) ∧ J k wr)
  case atStart => exact ⟨0, by omega, hN0, rfl, rfl, h0'⟩
  case round =>
    obtain ⟨k, hkr, hk, rfl, rfl, hj⟩ := hrel
    obtain ⟨c1, c2, _, _⟩ := hKp k wr hj
    obtain ⟨fn, tmps, assign, body, hy, hR⟩ := hY k wr hk hj
    gi_wp2
    refine hR.mono ?_
    rintro e W3 (⟨rfl, hlt, hj3⟩ | ⟨rfl, hx3⟩)
    · obtain ⟨d1, d2, _, _⟩ := hKp (k + 1) W3 hj3
      obtain ⟨⟨x1, x2⟩, x3, x4⟩ := row_next (a := a) (b := b) h1 h2 h3 h4 h5 h6 h7 h8 k (by omega)
      have U3 := Lib.hid (row_step p q a b k)
      gi_wp2
      gi_quiet (fail)
      rename_i nq
      have hj4 := abides_drew hJ hj3 nq
      gi_wp2
      gi_roundg (gk - 1)
      case measure => omega
      case rel => exact ⟨k + 1, by omega, hlt, rfl, by rw [← U3.out], hj4⟩
    · gi_wp2
      go_end0
      exact ⟨⟨_, rfl⟩, k, hk, hx3⟩
end Go.Proofs.Ytlmlcbhllodncaa
namespace Go.Proofs.Ytlmlcbhllodncaa
open Go.RowKit Go.Shelf
attribute [local go_sem] Oper.semAt_some
theorem set_other {W : World} {B o b i : Nat} {v : Value} (h : b ≠ B) : (W.setCell ⟨B, o, none⟩ v).cell? ⟨b, i, none⟩ = W.cell? ⟨b, i, none⟩ :=
  World.cell?_setCell_other W ⟨B, o, none⟩ ⟨b, i, none⟩ v (fun e => h (by injection e with e _ _; exact e.symm))
theorem set_same {W : World} {B o : Nat} {u v : Value} (h : W.cell? ⟨B, o, none⟩ = some u) : (W.setCell ⟨B, o, none⟩ v).cell? ⟨B, o, none⟩ = some v := World.cell?_setCell_same' _ _ _ (by rw [h]; rfl)
theorem set_frozen {W : World} {a b : Addr} {v : Value} (h : W.frozen? b = false) : (W.setCell a v).frozen? b = false := by rw [World.frozen?_setCell]; exact h
theorem placeOk_yes (n : Int) (w : World) (h : placeB n = true) : Calls Try.prog 64 #[.int .i64 n] w fun e w' => e = .returned (.bool true) ∧ w = w' := by have := placeOk_any n w; rw [h] at this; exact this
theorem placeOk_no (n : Int) (w : World) (h : placeB n = false) : Calls Try.prog 64 #[.int .i64 n] w fun e w' => e = .returned (.bool false) ∧ w = w' := by have := placeOk_any n w; rw [h] at this; exact this
set_option maxHeartbeats 400000 in
theorem rowFrom_any (p q a b : Int) (w : World) :
    Calls Try.prog 65 #[pr p q, .int .i64 a, .int .i64 b] w fun e w' =>
      e = .returned (.func (.func 68) #[] #[.pointer (some ⟨w.heap.size + 1, 0, none⟩), .pointer (some ⟨w.heap.size + 1 + 1, 0, none⟩), .pointer (some ⟨w.heap.size, 0, none⟩)]) ∧
      w' = ((w.alloc (.cells #[.int .i64 p, .int .i64 q] 38)).alloc (.cells #[.int .i64 a] 3)).alloc (.cells #[.int .i64 b] 3) := by
  have hmf : ∀ (fn : Fn) (first cap : Array Value) (w : World), (Instr.makeFunc fn first cap).run Try.prog w = .ok (.func fn first cap) w := fun _ _ _ _ => rfl
  go_enter Try.func65, Try.ntmps65
  go_wp2
  go_ret
  exact ⟨rfl, rfl⟩
set_option maxHeartbeats 4000000 in
theorem numberAt_yes (p q a b : Int) (m : Nat) (w : World) (hp : pairB p q = true) (hm : m ≤ 20) (h5 : -4 ≤ a) (h6 : a ≤ 4) (h7 : -4 ≤ b) (h8 : b ≤ 4) :
    Calls Try.prog 56 #[pr p q, .int .i64 a, .int .i64 b, .int .i64 m] w fun e w' => e = .returned (.tuple #[.int .i64 (row p q a b m), .bool true]) ∧ Below w.heap.size w w' := by
  obtain ⟨⟨h1, h2⟩, h3, h4⟩ := pairB_true hp
  have HP := Lib.hid hp
  have HN := Lib.hid (placeB_mk (n := m) (by omega) (by omega))
  clear hp
  refine (callsIn_wide (n := 9)).1 ?_
  refine callsIn_of_wp_marks Try.func56 rfl trivial ?_ rfl
  simp only [Try.ntmps56, List.size_toArray, List.length_cons, List.length_nil, Nat.reduceAdd, Nat.reduceSub, Array.replicate_succ, Array.replicate_zero, List.push_toArray, List.append_toArray, List.nil_append, List.cons_append]
  gi_wp2_with fail
  refine ⟨trivial, (callsIn_wide.2 (implPairOk_yes p q _ HP.out)).mono ?_⟩
  rintro e w1 ⟨rfl, hh1⟩
  obtain ⟨hc1, hf1⟩ := bcell hh1
  have hz1 := hh1.size
  try simp only [World.size_alloc] at hz1
  have hz1_0 : w.heap.size < w1.heap.size := by omega
  have hz1_1 : w.heap.size + 1 < w1.heap.size := by omega
  have hz1_2 : w.heap.size + 2 < w1.heap.size := by omega
  have hz1_3 : w.heap.size + 3 < w1.heap.size := by omega
  have kb1_0_0 : w1.cell? ⟨w.heap.size, 0, none⟩ = some (.int .i64 p) := by go_simp
  have kf1_0_0 : w1.frozen? ⟨w.heap.size, 0, none⟩ = false := by go_simp
  have kb1_0_1 : w1.cell? ⟨w.heap.size, 1, none⟩ = some (.int .i64 q) := by go_simp
  have kf1_0_1 : w1.frozen? ⟨w.heap.size, 1, none⟩ = false := by go_simp
  have kb1_1_0 : w1.cell? ⟨w.heap.size + 1, 0, none⟩ = some (.int .i64 m) := by go_simp
  have kf1_1_0 : w1.frozen? ⟨w.heap.size + 1, 0, none⟩ = false := by go_simp
  have kb1_2_0 : w1.cell? ⟨w.heap.size + 1 + 1, 0, none⟩ = some (.int .i64 0) := by go_simp
  have kf1_2_0 : w1.frozen? ⟨w.heap.size + 1 + 1, 0, none⟩ = false := by go_simp
  have kb1_3_0 : w1.cell? ⟨w.heap.size + 1 + 1 + 1, 0, none⟩ = some (.bool false) := by go_simp
  have kf1_3_0 : w1.frozen? ⟨w.heap.size + 1 + 1 + 1, 0, none⟩ = false := by go_simp
  clear hc1 hf1
  gi_wp2_with fail
  refine ⟨trivial, (callsIn_wide.2 (placeOk_yes _ _ HN.out)).mono ?_⟩
  rintro e w2 ⟨rfl, rfl⟩
  gi_wp2_with fail
  refine ⟨trivial, (callsIn_wide.2 (rowFrom_any p q a b _)).mono ?_⟩
  rintro e w3 ⟨rfl, rfl⟩
  gi_wp2_with fail
  refine wpIn_rangeFunc_endless (P := Try.prog) rfl (by omega) (gf := 68) (lb := #[.pointer (some ⟨w1.heap.size + 1 + 1, 0, none⟩), .pointer (some ⟨w1.heap.size + 1 + 1 + 1, 0, none⟩), .pointer (some ⟨w1.heap.size + 1, 0, none⟩)]) rfl trivial (enters_of Try.func68 (by kernel_rfl) rfl)
    (rowFrom_endless 8 (by omega) p q a b (w1.heap.size + 1) (m + 1) _ h1 h2 h3 h4 h5 h6 h7 h8 (by omega)) (Below.refl _ _) (fun _ => rfl) (by omega)
    (fun k W => k ≤ m ∧ W.cell? ⟨w.heap.size + 1, 0, none⟩ = some (.int .i64 m) ∧ W.cell? ⟨w1.heap.size, 0, none⟩ = some (.int .i64 k) ∧ W.frozen? ⟨w1.heap.size, 0, none⟩ = false ∧
      W.cell? ⟨w.heap.size + 1 + 1, 0, none⟩ = some (.int .i64 0) ∧ W.frozen? ⟨w.heap.size + 1 + 1, 0, none⟩ = false ∧ W.cell? ⟨w.heap.size + 1 + 1 + 1, 0, none⟩ = some (.bool false) ∧ W.frozen? ⟨w.heap.size + 1 + 1 + 1, 0, none⟩ = false ∧
      RowBoxes (w1.heap.size + 1) p q a b W ∧ Below w.heap.size w W)
    (fun c k W => c = .ret ∧ W.cell? ⟨w.heap.size + 1 + 1, 0, none⟩ = some (.int .i64 (row p q a b m)) ∧ W.cell? ⟨w.heap.size + 1 + 1 + 1, 0, none⟩ = some (.bool true) ∧ Below w.heap.size w W)
    ?own ?ownX (fun k V h => h.2.2.2.2.2.2.2.2.1) ?start (fun k => { tmps := #[pr p q, .int .i64 a, .int .i64 b, .int .i64 m, .pointer (some ⟨w.heap.size, 0, none⟩), undef, undef, .pointer (some ⟨w.heap.size + 1, 0, none⟩), .pointer (some ⟨w.heap.size + 1 + 1, 0, none⟩), .pointer (some ⟨w.heap.size + 1 + 1 + 1, 0, none⟩), .pointer (some ⟨w1.heap.size, 0, none⟩), .int .i64 (row p q a b k), .agg #[.int .i64 p, .int .i64 q], .bool true, .bool false, .bool false, .int .i64 m, .bool true, .bool false, .bool false, .agg #[.int .i64 p, .int .i64 q], .int .i64 a, .int .i64 b, .func (.func 68) #[] #[.pointer (some ⟨w1.heap.size + 1 + 1, 0, none⟩), .pointer (some ⟨w1.heap.size + 1 + 1 + 1, 0, none⟩), .pointer (some ⟨w1.heap.size + 1, 0, none⟩)], .int .i64 (row p q a b k), undef, undef, undef, undef, undef, undef], defers := [] }) ?assign ?body ?stop
  case own =>
    rintro k A V row ⟨x0, x1, x2, x3, x4, x5, x6, x7, ⟨y1, y2, y3, y4⟩, x8⟩ hg hr
    have hr' := fun r e => (hr r e).2
    exact ⟨x0, cell_kept x1 hg hr', cell_kept x2 hg hr', (frozen_kept x2 hg hr').trans x3, cell_kept x4 hg hr', (frozen_kept x4 hg hr').trans x5, cell_kept x6 hg hr', (frozen_kept x6 hg hr').trans x7,
      ⟨cell_kept y1 hg hr', cell_kept y2 hg hr', cell_kept y3 hg hr', cell_kept y4 hg hr'⟩, x8.grown hg x8.size (fun k e => by have := (hr k e).1; simp at this; omega)⟩
  case ownX =>
    rintro c k A V row ⟨x0, x1, x2, x3⟩ hg hr
    have hr' := fun r e => (hr r e).2
    exact ⟨x0, cell_kept x1 hg hr', cell_kept x2 hg hr', x3.grown hg x3.size (fun k e => by have := (hr k e).1; simp at this; omega)⟩
  case start =>
    have hB : Below w.heap.size w w1 := by
      (repeat (first | exact Below.refl _ _ | refine Below.setCell ?_ (by first | omega | (simp <;> omega)) _ | refine Below.alloc ?_ (by first | omega | (simp <;> omega)) _ | refine Below.drew ?_ | refine Below.trans ?_ (Below.mono (by assumption) (by first | omega | (simp <;> omega))) | refine Below.grown ?_ (by assumption) (by first | omega | (simp <;> omega)) (fun k e => by cases e; first | omega | (simp <;> omega))))
    have hL : Below w1.heap.size w1 ((((w1.alloc (.cells #[.int .i64 0] 3)).alloc (.cells #[.int .i64 p, .int .i64 q] 38)).alloc (.cells #[.int .i64 a] 3)).alloc (.cells #[.int .i64 b] 3)) := by
      (repeat (first | exact Below.refl _ _ | refine Below.setCell ?_ (by first | omega | (simp <;> omega)) _ | refine Below.alloc ?_ (by first | omega | (simp <;> omega)) _ | refine Below.drew ?_ | refine Below.trans ?_ (Below.mono (by assumption) (by first | omega | (simp <;> omega))) | refine Below.grown ?_ (by assumption) (by first | omega | (simp <;> omega)) (fun k e => by cases e; first | omega | (simp <;> omega))))
    refine ⟨Nat.zero_le _, (hL.cell (p := ⟨w.heap.size + 1, 0, none⟩) hz1_1).trans kb1_1_0, by go_simp, by go_simp, (hL.cell (p := ⟨w.heap.size + 1 + 1, 0, none⟩) hz1_2).trans kb1_2_0, (hL.frozen (p := ⟨w.heap.size + 1 + 1, 0, none⟩) hz1_2).trans kf1_2_0,
      (hL.cell (p := ⟨w.heap.size + 1 + 1 + 1, 0, none⟩) hz1_3).trans kb1_3_0, (hL.frozen (p := ⟨w.heap.size + 1 + 1 + 1, 0, none⟩) hz1_3).trans kf1_3_0, ⟨by go_simp, by go_simp, by go_simp, by go_simp⟩, ?_⟩
    exact hB.trans (hL.mono (by omega))
  case assign =>
    intro l k W K hK
    gi_wp2
    exact hK
  case body =>
    rintro l k W hk ⟨x0, x1, x2, x3, x4, x5, x6, x7, ⟨y1, y2, y3, y4⟩, x8⟩
    by_cases hkm : k = m
    · subst hkm
      gi_wp2
      refine ⟨(KeepsOthers.setCell _ _ _).trans (KeepsOthers.setCell _ _ _), rfl, (set_other (by omega)).trans (set_same x4), set_same ((set_other (by omega)).trans x6), (x8.setCell (by show w.heap.size ≤ w.heap.size + 1 + 1; omega) _).setCell (by show w.heap.size ≤ w.heap.size + 1 + 1 + 1; omega) _⟩
    · have hne : ((k : Int) == (m : Int)) = false := by simp; omega
      gi_wp2
      refine ⟨KeepsOthers.setCell _ _ _, by omega, by omega, (set_other (by omega)).trans x1, (set_same x2).trans (congrArg (fun i => some (Value.int .i64 i)) (by omega)), set_frozen x3, (set_other (by omega)).trans x4, set_frozen x5, (set_other (by omega)).trans x6, set_frozen x7,
        ⟨(set_other (by omega)).trans y1, (set_other (by omega)).trans y2, (set_other (by omega)).trans y3, (set_other (by omega)).trans y4⟩, x8.setCell (by show w.heap.size ≤ w1.heap.size; omega) _⟩
  case stop =>
    rintro D k c W hD hk ⟨rfl, x1, x2, x3⟩ hK
    gi_wp2
    refine ⟨by simp, .inl ⟨_, _, rfl, run_takeDeferred hK, ?_⟩⟩
    have z1 := cell_kept x1 (grownBy_putObj' W D (.deferred none)) (fun r e => by cases e; exact ⟨_, hK, rfl⟩)
    have z2 := cell_kept x2 (grownBy_putObj' W D (.deferred none)) (fun r e => by cases e; exact ⟨_, hK, rfl⟩)
    have hD' : w.heap.size ≤ D := by simp at hD; omega
    exact ⟨_, by simp [results, Try.results56, go_sem, z1, z2], rfl, x3.grown (grownBy_putObj' W D (.deferred none)) x3.size (fun k e => by cases e; exact hD')⟩
end Go.Proofs.Ytlmlcbhllodncaa
namespace Go.Proofs.Ytlmlcbhllodncaa
open Go.RowKit
set_option maxHeartbeats 2000000 in
theorem numberAt_no (p q a b n : Int) (w : World) (h : pairB p q = false ∨ placeB n = false) :
    Calls Try.prog 56 #[pr p q, .int .i64 a, .int .i64 b, .int .i64 n] w fun e w' => e = .returned (.tuple #[.int .i64 0, .bool false]) ∧ Below w.heap.size w w' := by
  by_cases hp : pairB p q = true
  · have HP := Lib.hid hp
    have HN := Lib.hid (show placeB n = false by rcases h with h | h; · rw [hp] at h; cases h
                                                 · exact h)
    clear hp h
    go_enter Try.func56, Try.ntmps56
    go_wp2_with fail
    refine (implPairOk_yes p q _ HP.out).mono ?_
    rintro e w1 ⟨rfl, hh1⟩
    obtain ⟨hc1, hf1⟩ := bcell hh1
    have hz1 := hh1.size
    try simp only [World.size_alloc] at hz1
    have hz1_0 : w.heap.size < w1.heap.size := by omega
    have hz1_1 : w.heap.size + 1 < w1.heap.size := by omega
    have hz1_2 : w.heap.size + 1 + 1 < w1.heap.size := by omega
    have hz1_3 : w.heap.size + 1 + 1 + 1 < w1.heap.size := by omega
    have kb1_0_0 : w1.cell? ⟨w.heap.size, 0, none⟩ = some (.int .i64 p) := by go_simp
    have kf1_0_0 : w1.frozen? ⟨w.heap.size, 0, none⟩ = false := by go_simp
    have kb1_0_1 : w1.cell? ⟨w.heap.size, 1, none⟩ = some (.int .i64 q) := by go_simp
    have kf1_0_1 : w1.frozen? ⟨w.heap.size, 1, none⟩ = false := by go_simp
    have kb1_1_0 : w1.cell? ⟨w.heap.size + 1, 0, none⟩ = some (.int .i64 n) := by go_simp
    have kf1_1_0 : w1.frozen? ⟨w.heap.size + 1, 0, none⟩ = false := by go_simp
    have kb1_2_0 : w1.cell? ⟨w.heap.size + 1 + 1, 0, none⟩ = some (.int .i64 0) := by go_simp
    have kf1_2_0 : w1.frozen? ⟨w.heap.size + 1 + 1, 0, none⟩ = false := by go_simp
    have kb1_3_0 : w1.cell? ⟨w.heap.size + 1 + 1 + 1, 0, none⟩ = some (.bool false) := by go_simp
    have kf1_3_0 : w1.frozen? ⟨w.heap.size + 1 + 1 + 1, 0, none⟩ = false := by go_simp
    clear hc1 hf1
    go_wp2_with fail
    refine (placeOk_no _ _ HN.out).mono ?_
    rintro e w2 ⟨rfl, rfl⟩
    go_wp2
    refine bodyPost_ret (v := .tuple #[.int .i64 0, .bool false]) (by simp [results, Try.results56, go_sem, kb1_2_0, kb1_3_0]) rfl ⟨rfl, ?_⟩
    (repeat (first | exact Below.refl _ _ | refine Below.setCell ?_ (by first | omega | (simp <;> omega)) _ | refine Below.alloc ?_ (by first | omega | (simp <;> omega)) _ | refine Below.drew ?_ | refine Below.trans ?_ (Below.mono (by assumption) (by first | omega | (simp <;> omega))) | refine Below.grown ?_ (by assumption) (by first | omega | (simp <;> omega)) (fun k e => by cases e; first | omega | (simp <;> omega))))
  · have HP := Lib.hid (show pairB p q = false by simpa using hp)
    clear hp h
    go_enter Try.func56, Try.ntmps56
    go_wp2_with fail
    refine (implPairOk_no p q _ HP.out).mono ?_
    rintro e w1 ⟨rfl, hh1⟩
    obtain ⟨hc1, hf1⟩ := bcell hh1
    have hz1 := hh1.size
    try simp only [World.size_alloc] at hz1
    have hz1_0 : w.heap.size < w1.heap.size := by omega
    have hz1_1 : w.heap.size + 1 < w1.heap.size := by omega
    have hz1_2 : w.heap.size + 1 + 1 < w1.heap.size := by omega
    have hz1_3 : w.heap.size + 1 + 1 + 1 < w1.heap.size := by omega
    have kb1_0_0 : w1.cell? ⟨w.heap.size, 0, none⟩ = some (.int .i64 p) := by go_simp
    have kf1_0_0 : w1.frozen? ⟨w.heap.size, 0, none⟩ = false := by go_simp
    have kb1_0_1 : w1.cell? ⟨w.heap.size, 1, none⟩ = some (.int .i64 q) := by go_simp
    have kf1_0_1 : w1.frozen? ⟨w.heap.size, 1, none⟩ = false := by go_simp
    have kb1_1_0 : w1.cell? ⟨w.heap.size + 1, 0, none⟩ = some (.int .i64 n) := by go_simp
    have kf1_1_0 : w1.frozen? ⟨w.heap.size + 1, 0, none⟩ = false := by go_simp
    have kb1_2_0 : w1.cell? ⟨w.heap.size + 1 + 1, 0, none⟩ = some (.int .i64 0) := by go_simp
    have kf1_2_0 : w1.frozen? ⟨w.heap.size + 1 + 1, 0, none⟩ = false := by go_simp
    have kb1_3_0 : w1.cell? ⟨w.heap.size + 1 + 1 + 1, 0, none⟩ = some (.bool false) := by go_simp
    have kf1_3_0 : w1.frozen? ⟨w.heap.size + 1 + 1 + 1, 0, none⟩ = false := by go_simp
    clear hc1 hf1
    go_wp2
    refine bodyPost_ret (v := .tuple #[.int .i64 0, .bool false]) (by simp [results, Try.results56, go_sem, kb1_2_0, kb1_3_0]) rfl ⟨rfl, ?_⟩
    (repeat (first | exact Below.refl _ _ | refine Below.setCell ?_ (by first | omega | (simp <;> omega)) _ | refine Below.alloc ?_ (by first | omega | (simp <;> omega)) _ | refine Below.drew ?_ | refine Below.trans ?_ (Below.mono (by assumption) (by first | omega | (simp <;> omega))) | refine Below.grown ?_ (by assumption) (by first | omega | (simp <;> omega)) (fun k e => by cases e; first | omega | (simp <;> omega))))
set_option maxHeartbeats 2000000 in
theorem implFirst_any (p q n : Int) (w : World) :
    Calls Try.prog 29 #[pr p q, .int .i64 n] w fun e w' => e = .returned (.tuple #[.int .i64 (firstV p q n), .bool (atB p q n)]) ∧ Below w.heap.size w w' := by
  by_cases h : atB p q n = true
  · have hpn : pairB p q = true ∧ placeB n = true := by simpa [atB] using h
    obtain ⟨hp, hn⟩ := hpn
    obtain ⟨⟨h1, h2⟩, h3, h4⟩ := pairB_true hp
    obtain ⟨n0, n1⟩ := placeB_true hn
    obtain ⟨m, rfl⟩ := Int.eq_ofNat_of_zero_le n0
    have HV := Lib.hid (show firstV p q m = row p q 0 1 m by rw [firstV, if_pos h]; rfl)
    have HB := Lib.hid h
    have HP := Lib.hid hp
    clear hp hn h
    go_enter Try.func29, Try.ntmps29
    go_wp2_with fail
    refine (numberAt_yes p q 0 1 m _ HP.out (by omega) (by omega) (by omega) (by omega) (by omega)).mono ?_
    rintro e w1 ⟨rfl, hh1⟩
    go_wp2
    go_ret2
    exact ⟨ret_int_bool HV.out.symm HB.out.symm, by (repeat (first | exact Below.refl _ _ | refine Below.setCell ?_ (by first | omega | (simp <;> omega)) _ | refine Below.alloc ?_ (by first | omega | (simp <;> omega)) _ | refine Below.drew ?_ | refine Below.trans ?_ (Below.mono (by assumption) (by first | omega | (simp <;> omega))) | refine Below.grown ?_ (by assumption) (by first | omega | (simp <;> omega)) (fun k e => by cases e; first | omega | (simp <;> omega))))⟩
  · have h' : atB p q n = false := by simpa using h
    have HV := Lib.hid (show firstV p q n = 0 by rw [firstV, if_neg h])
    have HB := Lib.hid h'
    have hno : pairB p q = false ∨ placeB n = false := by
      cases hp : pairB p q with
      | false => exact .inl rfl
      | true => right; simpa [atB, hp] using h'
    have HN := Lib.hid hno
    clear h h' hno
    go_enter Try.func29, Try.ntmps29
    go_wp2_with fail
    refine (numberAt_no p q 0 1 n _ HN.out).mono ?_
    rintro e w1 ⟨rfl, hh1⟩
    go_wp2
    go_ret2
    exact ⟨ret_int_bool HV.out.symm HB.out.symm, by (repeat (first | exact Below.refl _ _ | refine Below.setCell ?_ (by first | omega | (simp <;> omega)) _ | refine Below.alloc ?_ (by first | omega | (simp <;> omega)) _ | refine Below.drew ?_ | refine Below.trans ?_ (Below.mono (by assumption) (by first | omega | (simp <;> omega))) | refine Below.grown ?_ (by assumption) (by first | omega | (simp <;> omega)) (fun k e => by cases e; first | omega | (simp <;> omega))))⟩
set_option maxHeartbeats 2000000 in
theorem implSecond_any (p q n : Int) (w : World) :
    Calls Try.prog 33 #[pr p q, .int .i64 n] w fun e w' => e = .returned (.tuple #[.int .i64 (secondV p q n), .bool (atB p q n)]) ∧ Below w.heap.size w w' := by
  by_cases h : atB p q n = true
  · have hpn : pairB p q = true ∧ placeB n = true := by simpa [atB] using h
    obtain ⟨hp, hn⟩ := hpn
    obtain ⟨⟨h1, h2⟩, h3, h4⟩ := pairB_true hp
    obtain ⟨n0, n1⟩ := placeB_true hn
    obtain ⟨m, rfl⟩ := Int.eq_ofNat_of_zero_le n0
    have HV := Lib.hid (show secondV p q m = row p q 2 p m by rw [secondV, if_pos h]; rfl)
    have HB := Lib.hid h
    have HP := Lib.hid hp
    clear hp hn h
    go_enter Try.func33, Try.ntmps33
    go_wp2_with fail
    refine (numberAt_yes p q 2 p m _ HP.out (by omega) (by omega) (by omega) (by omega) (by omega)).mono ?_
    rintro e w1 ⟨rfl, hh1⟩
    go_wp2
    go_ret2
    exact ⟨ret_int_bool HV.out.symm HB.out.symm, by (repeat (first | exact Below.refl _ _ | refine Below.setCell ?_ (by first | omega | (simp <;> omega)) _ | refine Below.alloc ?_ (by first | omega | (simp <;> omega)) _ | refine Below.drew ?_ | refine Below.trans ?_ (Below.mono (by assumption) (by first | omega | (simp <;> omega))) | refine Below.grown ?_ (by assumption) (by first | omega | (simp <;> omega)) (fun k e => by cases e; first | omega | (simp <;> omega))))⟩
  · have h' : atB p q n = false := by simpa using h
    have HV := Lib.hid (show secondV p q n = 0 by rw [secondV, if_neg h])
    have HB := Lib.hid h'
    have hno : pairB p q = false ∨ placeB n = false := by
      cases hp : pairB p q with
      | false => exact .inl rfl
      | true => right; simpa [atB, hp] using h'
    have HN := Lib.hid hno
    clear h h' hno
    go_enter Try.func33, Try.ntmps33
    go_wp2_with fail
    refine (numberAt_no p q 2 p n _ HN.out).mono ?_
    rintro e w1 ⟨rfl, hh1⟩
    go_wp2
    go_ret2
    exact ⟨ret_int_bool HV.out.symm HB.out.symm, by (repeat (first | exact Below.refl _ _ | refine Below.setCell ?_ (by first | omega | (simp <;> omega)) _ | refine Below.alloc ?_ (by first | omega | (simp <;> omega)) _ | refine Below.drew ?_ | refine Below.trans ?_ (Below.mono (by assumption) (by first | omega | (simp <;> omega))) | refine Below.grown ?_ (by assumption) (by first | omega | (simp <;> omega)) (fun k e => by cases e; first | omega | (simp <;> omega))))⟩
end Go.Proofs.Ytlmlcbhllodncaa
namespace Go.Proofs.Ytlmlcbhllodncaa
open Go.RowKit
theorem implFirst_at (p q : Int) (k : Nat) (v n : Int) (w : World) (hn : n = k) (hp : pairB p q = true) (hk : k ≤ 20) (hv : row p q 0 1 k = v) :
    Calls Try.prog 29 #[pr p q, .int .i64 n] w fun e w' => e = .returned (.tuple #[.int .i64 v, .bool true]) ∧ Below w.heap.size w w' := by
  have h : atB p q n = true := by simp [atB, hp, placeB_mk (n := n) (by omega) (by omega)]
  have := implFirst_any p q n w
  rw [firstV, if_pos h, h, hn] at this
  subst hv
  subst hn
  exact this
theorem implFirst_no (p q n : Int) (w : World) (h : atB p q n = false) :
    Calls Try.prog 29 #[pr p q, .int .i64 n] w fun e w' => e = .returned (.tuple #[.int .i64 0, .bool false]) ∧ Below w.heap.size w w' := by
  have := implFirst_any p q n w
  rw [firstV, if_neg (by simp [h]), h] at this
  exact this
theorem implSecond_at (p q : Int) (k : Nat) (v n : Int) (w : World) (hn : n = k) (hp : pairB p q = true) (hk : k ≤ 20) (hv : row p q 2 p k = v) :
    Calls Try.prog 33 #[pr p q, .int .i64 n] w fun e w' => e = .returned (.tuple #[.int .i64 v, .bool true]) ∧ Below w.heap.size w w' := by
  have h : atB p q n = true := by simp [atB, hp, placeB_mk (n := n) (by omega) (by omega)]
  have := implSecond_any p q n w
  rw [secondV, if_pos h, h, hn] at this
  subst hv
  subst hn
  exact this
theorem implSecond_no (p q n : Int) (w : World) (h : atB p q n = false) :
    Calls Try.prog 33 #[pr p q, .int .i64 n] w fun e w' => e = .returned (.tuple #[.int .i64 0, .bool false]) ∧ Below w.heap.size w w' := by
  have := implSecond_any p q n w
  rw [secondV, if_neg (by simp [h]), h] at this
  exact this
end Go.Proofs.Ytlmlcbhllodncaa
namespace Go.Proofs.Ytlmlcbhllodncaa
open Go.RowKit
theorem row_eight {p q a b : Int} (hp : -4 ≤ p) (hp' : p ≤ 4) (hq : -4 ≤ q) (hq' : q ≤ 4) (ha : -4 ≤ a) (ha' : a ≤ 4) (hb : -4 ≤ b) (hb' : b ≤ 4) (n : Nat) (hn : n ≤ 8) : -1562500 ≤ row p q a b n ∧ row p q a b n ≤ 1562500 := by
  have h := (row_bd (a := a) (b := b) hp hp' hq hq' (c := 4) (by omega) ha ha' (by omega) (by omega) n).1
  have e : cap 4 n ≤ 1562500 := by
    rcases (show n = 0 ∨ n = 1 ∨ n = 2 ∨ n = 3 ∨ n = 4 ∨ n = 5 ∨ n = 6 ∨ n = 7 ∨ n = 8 by omega) with rfl | rfl | rfl | rfl | rfl | rfl | rfl | rfl | rfl <;> decide +kernel
  omega
end Go.Proofs.Ytlmlcbhllodncaa
namespace Go.Proofs.Ytlmlcbhllodncaa
open Go.RowKit
set_option maxHeartbeats 1000000 in
theorem firstOf_at (p q : Int) (k : Nat) (v n : Int) (w : World) (hn : n = k) (hp : pairB p q = true) (hk : k ≤ 20) (hv : row p q 0 1 k = v) :
    Calls Try.prog 55 #[pr p q, .int .i64 n] w fun e w' => e = .returned (.int .i64 v) ∧ Below w.heap.size w w' := by
  have HP := Lib.hid hp
  have HN := Lib.hid hn
  have HV := Lib.hid hv
  clear hp hn hv
  go_enter Try.func55, Try.ntmps55
  go_wp2_with fail
  refine (implFirst_at p q k v n _ HN.out HP.out hk HV.out).mono ?_
  rintro e w1 ⟨rfl, hh1⟩
  obtain ⟨hc1, hf1⟩ := bcell hh1
  have hz1 := hh1.size
  try simp only [World.size_alloc] at hz1
  go_wp2
  go_ret
  exact ⟨rfl, by (repeat (first | exact Below.refl _ _ | refine Below.setCell ?_ (by first | omega | (simp <;> omega)) _ | refine Below.alloc ?_ (by first | omega | (simp <;> omega)) _ | refine Below.drew ?_ | refine Below.trans ?_ (Below.mono (by assumption) (by first | omega | (simp <;> omega))) | refine Below.grown ?_ (by assumption) (by first | omega | (simp <;> omega)) (fun k e => by cases e; first | omega | (simp <;> omega))))⟩
end Go.Proofs.Ytlmlcbhllodncaa
namespace Go.Proofs.Ytlmlcbhllodncaa
open Go.RowKit
/-- What an iterator of N rounds promises: whoever keeps what it needs (Kp) between two rounds is handed place after place, till all N have come or a round has said 'no more'. -/
def Counted (F : Fence) (n : Nat) (P : Program) (g : Nat) (lb : Array Value) (at_ : Nat → Array Value) (Kp : World → Prop) (N : Nat) (w : World) : Prop :=
  ∀ (l : Nat) (J X : Nat → World → Prop) (W : World), Below w.heap.size w W → AbidesFrom W.heap.size J → AbidesFrom W.heap.size X → (∀ k V, J k V → Kp V) →
    (∀ k V, k < N → J k V → YieldAt F (n - 1) P l (at_ k) V fun e V' => (e = .returned (.bool true) ∧ J (k + 1) V') ∨ (e = .returned (.bool false) ∧ X k V')) →
    J 0 W → CallsIn F n P g (#[.func (.yield l) #[] #[]] ++ lb) W fun e V => (∃ v, e = .returned v) ∧ (J N V ∨ ∃ k, k < N ∧ X k V)
/-- How the body of round k may end. -/
def countEnd (I : Nat → World → Prop) (X : Code → Nat → World → Prop) (k : Nat) (W : World) : Exit → Act → World → Prop
  | .normal, _, V => KeepsOthers W V ∧ I (k + 1) V
  | .ret, _, V => KeepsOthers W V ∧ X .ret k V
  | .exit id, _, V => KeepsOthers W V ∧ X (.exit id) k V
  | .goto t, _, V => KeepsOthers W V ∧ X (.goto t) k V
  | .panic _, _, _ => False
  | .outgrown, _, _ => False
variable {F : Fence} {n : Nat} {P : Program}
/-- **The statement 'for x := range f', f an iterator of N rounds.** -/
theorem wpIn_rangeFunc_counted {g : Operand} {ps : Array Tmp} {assign body : Code} {Q : Exit → Act → World → Prop} {a : Act} {w : World}
    (hro : F.round = none) (h1 : 1 ≤ n) {gf : Nat} {lb : Array Value} (hg : a.eval g = .func (.func gf) #[] lb) (hFg : F.fn gf) (eg : ∀ args V, (callFunc gf args).run P V = .ok (.enter gf args) V)
    {at_ : Nat → Array Value} {Kp : World → Prop} {N : Nat} {w0 : World} (hseq : Counted F (n - 1) P gf lb at_ Kp N w0) (hb0 : Below w0.heap.size w0 w) (hps : ∀ k, (at_ k).size = ps.size)
    (I : Nat → World → Prop) (X : Code → Nat → World → Prop) (hI : OwnFrom w.heap.size I) (hX : ∀ c, OwnFrom w.heap.size (X c)) (hKp : ∀ k V, I k V → Kp V) (h0 : I 0 w) (a₁ : Nat → Act)
    (hassign : ∀ (l k : Nat) (W : World) (K : Act → World → Prop), K (a₁ k) W →
      assign.wpIn (F.inRound l) (n - 1 - 1) P (Exit.then K (fun _ _ _ => False)) { tmps := (ps.zip (at_ k)).foldl (fun t (p, v) => t.setIfInBounds p v) a.tmps, defers := [] } W)
    (hbody : ∀ (l k : Nat) (W : World), k < N → I k W → body.wpIn (F.inRound l) (n - 1 - 1) P (countEnd I X k W) (a₁ k) W)
    (hdone : ∀ (D : Nat) (W : World), w.heap.size ≤ D → I N W → W.heap[D]? = some (.deferred (some [])) → Q .normal { a with defers := { target := .collected D, args := #[] } :: a.defers } W)
    (hstop : ∀ (D k : Nat) (c : Code) (W : World), w.heap.size ≤ D → k < N → X c k W → W.heap[D]? = some (.deferred (some [])) → c.wpIn F n P Q { a with defers := { target := .collected D, args := #[] } :: a.defers } W) :
    (Code.rangeFunc g ps assign body).wpIn F n P Q a w := by
  refine wpIn_rangeFunc fun fn hfn => ?_
  rw [hro]
  obtain ⟨rec, hrec⟩ : ∃ rec : LoopState → Option Code → Obj, rec = recordOf w fn a ps assign body := ⟨_, rfl⟩
  have held : Held w ((w.alloc (.deferred (some []))).alloc (rec .ready none)) (rec .ready none) := by
    refine ⟨?_, (Below.heap_alloc _ _ _ (by simp)).trans (World.alloc_heap_new w _)⟩
    have := World.alloc_heap_new (w.alloc (.deferred (some []))) (rec .ready none)
    rwa [World.size_alloc] at this
  have hI1 : I 0 ((w.alloc (.deferred (some []))).alloc (rec .ready none)) := hI.alloc _ (hI.alloc _ h0)
  have hb1 : Below w0.heap.size w0 ((w.alloc (.deferred (some []))).alloc (rec .ready none)) := hb0.trans ((((Below.refl _ w).alloc (Nat.le_refl _) _).alloc (by simp) _).mono hb0.size)
  have hsz : w.heap.size ≤ ((w.alloc (.deferred (some []))).alloc (rec .ready none)).heap.size := by simp; omega
  obtain ⟨W1, hW1⟩ : ∃ W1, (w.alloc (.deferred (some []))).alloc (rec .ready none) = W1 := ⟨_, rfl⟩
  rw [hW1] at held hI1 hb1 hsz
  refine ⟨w.heap.size + 1, [{ target := .collected w.heap.size, args := #[] }], W1, { target := .fn (.func gf) lb, args := #[.func (.yield (w.heap.size + 1)) #[] #[]] }, W1, gf, #[.func (.yield (w.heap.size + 1)) #[] #[]] ++ lb, W1,
    by rw [← hW1, hrec]; exact run_enterLoop_outer _ _ _ _ _, by simp only [resolve, hg]; simp [go_sem], fun f' hf' => by simp [Target.leads] at hf'; subst hf'; exact hFg, by simp [invoke, go_sem, eg], fun _ => h1, ?_⟩
  have nowalk : ∀ {A : World} {row : Option Nat}, (∀ r, row = some r → W1.heap.size ≤ r ∧ ∃ o : Obj, A.heap[r]? = some o ∧ o.isWalk = true) → (∀ r, row = some r → w.heap.size ≤ r ∧ ∃ o : Obj, A.heap[r]? = some o ∧ o.isCells = false) :=
    fun hr r e => by obtain ⟨hB, o, ho, hw⟩ := hr r e; exact ⟨by omega, o, ho, Obj.not_cells_of_walk hw⟩
  have recW : ∀ st pe, (rec st pe).isWalk = false := fun _ _ => by rw [hrec]; rfl
  have recC : ∀ st pe, (rec st pe).isCells = false := fun _ _ => by rw [hrec]; rfl
  refine (hseq (w.heap.size + 1) (fun k W => I k W ∧ Held w W (rec .ready none)) (fun k W => ∃ c, X c k W ∧ Held w W (rec .done (some c))) W1 hb1
    (fun s A B row hs hg' hr => ⟨hI s A B row hs.1 hg' (nowalk hr), hs.2.kept (recW _ _) hg' (fun r e => (hr r e).2)⟩)
    (fun s A B row hs hg' hr => by obtain ⟨c, hc, hh⟩ := hs; exact ⟨c, hX c s A B row hc hg' (nowalk hr), hh.kept (recW _ _) hg' (fun r e => (hr r e).2)⟩)
    (fun k V hj => hKp k V hj.1) ?round ⟨hI1, held⟩).mono ?behind
  case round =>
    rintro k W hk ⟨hi, hh⟩
    have hl : W.heap[w.heap.size + 1]? = some (.loop { state := .ready, pending := none, fn := fn, tmps := a.tmps, params := ps, assign := assign, body := body, defers := w.heap.size }) := by have := hh.1; rw [hrec] at this; exact this
    refine ⟨fn, _, assign, body, run_yield (P := P) (args := at_ k) hl (hps k), roundIn_of_wpIn hfn (hassign _ k W _ ⟨_, run_beginRound hl rfl, ?_⟩)⟩
    have busy : Held w (W.putObj (w.heap.size + 1) (rec .busy none)) (rec .busy none) := hh.turned _
    have hi2 : I k (W.putObj (w.heap.size + 1) (rec .busy none)) := hI.putObj _ hi (by omega) hl rfl
    have fin : ∀ (jump : Option Code) (V : World), KeepsOthers (W.putObj (w.heap.size + 1) (rec .busy none)) V → ∃ r : Loop, V.heap[w.heap.size + 1]? = some (.loop r) ∧
        (Instr.endRound (w.heap.size + 1) jump).run P V = .ok (.bool jump.isNone) (V.putObj (w.heap.size + 1) (rec (if jump.isNone then .ready else .done) jump)) ∧ Held w (V.putObj (w.heap.size + 1) (rec (if jump.isNone then .ready else .done) jump)) (rec (if jump.isNone then .ready else .done) jump) := fun jump V hkV => by
      have hv := busy.others (recC _ _) hkV
      have hv1 := hv.1
      rw [hrec] at hv1
      have hr := run_endRound (P := P) jump hv1
      refine ⟨_, hv1, ?_, hv.turned _⟩
      rw [hrec]; exact hr
    rw [hrec] at hi2 busy
    refine wpIn_mono (hbody _ k _ hk hi2) ?_
    rintro e a3 V hp
    have stop : ∀ c : Code, KeepsOthers (W.putObj (w.heap.size + 1) (recordOf w fn a ps assign body .busy none)) V ∧ X c k V →
        ∃ v V', (Instr.endRound (w.heap.size + 1) (some c)).run P V = .ok v V' ∧ ((Ending.returned v = .returned (.bool true) ∧ (I (k + 1) V' ∧ Held w V' (rec .ready none))) ∨ (Ending.returned v = .returned (.bool false) ∧ ∃ c, X c k V' ∧ Held w V' (rec .done (some c)))) := fun c hc => by
      obtain ⟨r, hl3, hr, hh3⟩ := fin (some c) V (by rw [hrec]; exact hc.1)
      exact ⟨_, _, hr, .inr ⟨rfl, c, (hX c).putObj _ hc.2 (by omega) hl3 rfl, hh3⟩⟩
    cases e with
    | normal =>
      obtain ⟨hk3, hi3⟩ := hp
      obtain ⟨r, hl3, hr, hh3⟩ := fin none V (by rw [hrec]; exact hk3)
      exact ⟨_, _, hr, .inl ⟨rfl, hI.putObj _ hi3 (by omega) hl3 rfl, hh3⟩⟩
    | ret => exact stop _ hp
    | exit id => exact stop _ hp
    | goto t => exact stop _ hp
    | panic ch => exact hp.elim
    | outgrown => exact hp.elim
  case behind =>
    rintro e V ⟨⟨v, rfl⟩, (⟨hi, hh⟩ | ⟨k, hk, c, hc, hh⟩)⟩
    · have hl := hh.1
      rw [hrec] at hl
      refine ⟨none, _, run_endLoop (P := P) hl (by simp), hdone _ _ (Nat.le_refl _) (hI.putObj _ hi (by omega) hl rfl) ?_⟩
      exact (World.putObj_heap_other (by omega)).trans hh.2
    · have hl := hh.1
      rw [hrec] at hl
      refine ⟨some c, _, run_endLoop (P := P) hl (by simp), hstop _ k c _ (Nat.le_refl _) hk ((hX c).putObj _ hc (by omega) hl rfl) ?_⟩
      exact (World.putObj_heap_other (by omega)).trans hh.2
end Go.Proofs.Ytlmlcbhllodncaa
namespace Go.Proofs.Ytlmlcbhllodncaa
open Go.RowKit Go.Shelf
attribute [local go_sem] Oper.semAt_some
/-- The bit that round i yields. -/
def bitB (k i : Nat) : Bool := decide (k / 2 ^ (Lib.bitLen k - 1 - i) % 2 = 1)
theorem bit_is (k g i : Nat) (hk : k ≤ 1000000000) (h : i + (g + 1) = Lib.bitLen k) : (bits BinOp.and IntKind.i64 ((k : Int) / 2 ^ g) 1 == 1) = bitB k i := by
  have hle : k / 2 ^ g ≤ k := Nat.div_le_self _ _
  have e := and_one (k / 2 ^ g) (by omega)
  have e2 : ((k / 2 ^ g : Nat) : Int) = (k : Int) / 2 ^ g := by simp
  rw [e2] at e
  rw [e, bitB, show Lib.bitLen k - 1 - i = g by omega, Bool.eq_iff_iff, beq_iff_eq, decide_eq_true_iff]
  omega
end Go.Proofs.Ytlmlcbhllodncaa
namespace Go.Proofs.Ytlmlcbhllodncaa
/-- Two numbers leave the same, divided by m. -/
def Eqm (m x y : Int) : Prop := m ∣ x - y
theorem Eqm.refl (m x : Int) : Eqm m x x := ⟨0, by omega⟩
theorem Eqm.of_eq {m x y : Int} (h : x = y) : Eqm m x y := by subst h; exact Eqm.refl m x
theorem Eqm.symm {m x y : Int} (h : Eqm m x y) : Eqm m y x := by
  obtain ⟨k, hk⟩ := h
  exact ⟨-k, by rw [Int.mul_neg]; omega⟩
theorem Eqm.trans {m x y z : Int} (h : Eqm m x y) (g : Eqm m y z) : Eqm m x z := by
  obtain ⟨k, hk⟩ := h
  obtain ⟨l, hl⟩ := g
  exact ⟨k + l, by rw [Int.mul_add]; omega⟩
theorem Eqm.add {m x y u v : Int} (h : Eqm m x y) (g : Eqm m u v) : Eqm m (x + u) (y + v) := by
  obtain ⟨k, hk⟩ := h
  obtain ⟨l, hl⟩ := g
  exact ⟨k + l, by rw [Int.mul_add]; omega⟩
theorem Eqm.sub {m x y u v : Int} (h : Eqm m x y) (g : Eqm m u v) : Eqm m (x - u) (y - v) := by
  obtain ⟨k, hk⟩ := h
  obtain ⟨l, hl⟩ := g
  exact ⟨k - l, by rw [Int.mul_sub]; omega⟩
theorem Eqm.mul {m x y u v : Int} (h : Eqm m x y) (g : Eqm m u v) : Eqm m (x * u) (y * v) := by
  obtain ⟨k, hk⟩ := h
  obtain ⟨l, hl⟩ := g
  have e : x = y + m * k := by omega
  have e2 : u = v + m * l := by omega
  subst e e2
  clear hk hl
  exact ⟨y * l + k * v + k * (m * l), by grind⟩
theorem Eqm.pow {m x y : Int} (h : Eqm m x y) : ∀ n : Nat, Eqm m (x ^ n) (y ^ n)
  | 0 => by rw [Int.pow_zero, Int.pow_zero]; exact Eqm.refl _ _
  | n + 1 => by rw [Int.pow_succ, Int.pow_succ]; exact (h.pow n).mul h
theorem eqm_left (m x : Int) : Eqm m (x % m) x := ⟨-(x / m), by have := Int.emod_add_mul_ediv x m; rw [Int.mul_neg]; omega⟩
theorem Eqm.left {m x y : Int} (h : Eqm m x y) : x % m = y % m := by
  exact Int.emod_eq_emod_iff_emod_sub_eq_zero.2 (Int.emod_eq_zero_of_dvd h)
theorem eqm_of_left {m x y : Int} (h : x % m = y % m) : Eqm m x y := ((eqm_left m x).symm.trans (Eqm.of_eq h)).trans (eqm_left m y)
/-- What is left, as Go's quotients tell it. -/
theorem go_left2 (n m : Int) : (n.tmod m + m) % m = n % m := by
  refine Eqm.left ⟨1 - n.tdiv m, ?_⟩
  have := Int.mul_tdiv_add_tmod n m
  rw [Int.mul_sub]
  omega
theorem go_left (n m : Int) (hm : 1 ≤ m) : (n.tmod m + m).tmod m = n % m := by
  have h1 := Int.tmod_lt_of_pos n (b := m) (by omega)
  have h2 : -m < n.tmod m := by
    have := Int.tmod_lt_of_pos (-n) (b := m) (by omega)
    rw [Int.neg_tmod] at this
    omega
  rw [Int.tmod_eq_emod_of_nonneg (by omega)]
  exact go_left2 n m
theorem left_bd (n m : Int) (hm : 1 ≤ m) : 0 ≤ n % m ∧ n % m < m := ⟨Int.emod_nonneg _ (by omega), Int.emod_lt_of_pos _ (by omega)⟩
theorem left_again (n m : Int) : n % m % m = n % m := Int.emod_emod_of_dvd n (Int.dvd_refl m)
/-- A remainder of Go's is 0 exactly where a number divides. -/
theorem tmod_zero {n m : Int} (h : m ∣ n) : n.tmod m = 0 := Int.tmod_eq_zero_of_dvd h
/-- At twice a place, at the next place, one behind. -/
theorem far_even (p q m : Int) (k : Nat) : row p q 0 1 k % m * ((2 * (row p q 0 1 (k + 1) % m) - p * (row p q 0 1 k % m)) % m) % m = row p q 0 1 (2 * k) % m := by
  refine Eqm.left ?_
  rw [← row_twice, second_of_first]
  exact (eqm_left m _).mul ((eqm_left m _).trans (((Eqm.refl m 2).mul (eqm_left m _)).sub ((Eqm.refl m p).mul (eqm_left m _))))
theorem far_odd (p q m : Int) (k : Nat) : (row p q 0 1 (k + 1) % m * (row p q 0 1 (k + 1) % m) - q * (row p q 0 1 k % m) % m * (row p q 0 1 k % m)) % m = row p q 0 1 (2 * k + 1) % m := by
  refine Eqm.left ?_
  rw [show 2 * k + 1 = k + 1 + k by omega, ← row_add]
  exact ((eqm_left m _).mul (eqm_left m _)).sub (((eqm_left m _).trans ((Eqm.refl m q).mul (eqm_left m _))).mul (eqm_left m _))
theorem far_next (p q m : Int) (k : Nat) : (p * (row p q 0 1 (k + 1) % m) - q * (row p q 0 1 k % m)) % m = row p q 0 1 (k + 2) % m := by
  refine Eqm.left ?_
  rw [row_step]
  exact ((Eqm.refl m p).mul (eqm_left m _)).sub ((Eqm.refl m q).mul (eqm_left m _))
theorem far_second (p q m : Int) (k : Nat) : (2 * (row p q 0 1 (k + 1) % m) - p * (row p q 0 1 k % m)) % m = row p q 2 p k % m := by
  refine Eqm.left ?_
  rw [second_of_first]
  exact ((Eqm.refl m 2).mul (eqm_left m _)).sub ((Eqm.refl m p).mul (eqm_left m _))
/-- A power by its square: the exponent even, odd. -/
theorem pow_even (a : Int) (k : Nat) : (a * a) ^ k = a ^ (2 * k) := by rw [Int.pow_mul, show a ^ 2 = a * a by rw [Int.pow_succ, Int.pow_succ, Int.pow_zero, Int.one_mul]]
theorem pow_step_even {m o s t : Int} {k : Nat} (h : Eqm m (o * s ^ (2 * k)) t) : Eqm m (o * (s * s % m) ^ k) t := by
  rw [← pow_even] at h
  exact ((Eqm.refl m o).mul ((eqm_left m (s * s)).pow k)).trans h
theorem pow_step_odd {m o s t : Int} {k : Nat} (h : Eqm m (o * s ^ (2 * k + 1)) t) : Eqm m (o * s % m * (s * s % m) ^ k) t := by
  rw [Int.pow_succ, ← pow_even] at h
  refine (((eqm_left m (o * s)).mul ((eqm_left m (s * s)).pow k)).trans (Eqm.of_eq ?_)).trans h
  clear h
  grind
/-- Addition far on. -/
theorem far_add (p q m : Int) (k j : Nat) : Eqm m (row p q 0 1 (k + 1) % m * row p q 0 1 (j + 1) - q * (row p q 0 1 k % m * row p q 0 1 j)) (row p q 0 1 (k + 1 + j)) := by
  rw [← row_add, Int.mul_assoc q]
  exact ((eqm_left m _).mul (Eqm.refl m _)).sub ((Eqm.refl m q).mul ((eqm_left m _).mul (Eqm.refl m _)))
/-- Both rows far on. -/
theorem far_square (p q m : Int) (k : Nat) : m ∣ row p q 2 p k % m * (row p q 2 p k % m) - (p * p - 4 * q) * (row p q 0 1 k % m) * (row p q 0 1 k % m) - 4 * (q ^ k % m) := by
  have h : Eqm m (row p q 2 p k % m * (row p q 2 p k % m) - (p * p - 4 * q) * (row p q 0 1 k % m) * (row p q 0 1 k % m) - 4 * (q ^ k % m)) (row p q 2 p k * row p q 2 p k - (p * p - 4 * q) * row p q 0 1 k * row p q 0 1 k - 4 * q ^ k) :=
    (((eqm_left m _).mul (eqm_left m _)).sub (((Eqm.refl m _).mul (eqm_left m _)).mul (eqm_left m _))).sub ((Eqm.refl m 4).mul (eqm_left m _))
  rw [row_square, Int.sub_self] at h
  simpa [Eqm] using h
theorem far_twice (p q m : Int) (k : Nat) : row p q 2 p k % m * (row p q 0 1 k % m) % m = row p q 0 1 (2 * k) % m := by
  refine Eqm.left ?_
  rw [← row_twice, Int.mul_comm (row p q 0 1 k)]
  exact (eqm_left m _).mul (eqm_left m _)
end Go.Proofs.Ytlmlcbhllodncaa
namespace Go.Proofs.Ytlmlcbhllodncaa
open Go.RowKit
end Go.Proofs.Ytlmlcbhllodncaa
namespace Go.Proofs.Ytlmlcbhllodncaa
open Go.RowKit
/-- v is a slice of n numbers f 0, f 1 ..; they lie in one block from B on, below C, and may be written. -/
def IsInts (B C : Nat) (w : World) (v : Value) (n : Nat) (f : Nat → Int) : Prop :=
  ∃ (a : Option Addr) (cap : Nat), v = .slice a n cap ∧ C ≤ w.heap.size ∧
    (n = 0 ∨ ∃ g off, a = some ⟨g, off, none⟩ ∧ B ≤ g ∧ g < C ∧ (∀ i, i < n → w.cell? ⟨g, off + i, none⟩ = some (.int .i64 (f i))) ∧ (∀ i, i < n → w.frozen? ⟨g, off + i, none⟩ = false))
theorem IsInts.below {B C D : Nat} {w w' : World} {v : Value} {n : Nat} {f : Nat → Int} (h : IsInts B C w v n f) (hb : Below D w w') (hD : C ≤ D) : IsInts B C w' v n f := by
  obtain ⟨a, cap, rfl, hC, hs⟩ := h
  refine ⟨a, cap, rfl, Nat.le_trans hC hb.size, ?_⟩
  rcases hs with hs | ⟨g, off, ha, h1, h2, hc, hf⟩
  · exact .inl hs
  · exact .inr ⟨g, off, ha, h1, h2, fun i hi => (hb.cell (p := ⟨g, off + i, none⟩) (by show g < D; omega)).trans (hc i hi), fun i hi => (hb.frozen (p := ⟨g, off + i, none⟩) (by show g < D; omega)).trans (hf i hi)⟩
theorem IsInts.mono {B B' C C' : Nat} {w : World} {v : Value} {n : Nat} {f : Nat → Int} (h : IsInts B C w v n f) (h1 : B' ≤ B) (h2 : C ≤ C') (h3 : C' ≤ w.heap.size) : IsInts B' C' w v n f := by
  obtain ⟨a, cap, rfl, hC, hs⟩ := h
  refine ⟨a, cap, rfl, h3, ?_⟩
  rcases hs with hs | ⟨g, off, ha, k1, k2, hc, hf⟩
  · exact .inl hs
  · exact .inr ⟨g, off, ha, by omega, by omega, hc, hf⟩
theorem IsInts.congr {B C : Nat} {w : World} {v : Value} {n : Nat} {f g : Nat → Int} (h : IsInts B C w v n f) (he : ∀ i, i < n → f i = g i) : IsInts B C w v n g := by
  obtain ⟨a, cap, rfl, hC, hs⟩ := h
  refine ⟨a, cap, rfl, hC, ?_⟩
  rcases hs with hs | ⟨g, off, ha, k1, k2, hc, hf⟩
  · exact .inl hs
  · exact .inr ⟨g, off, ha, k1, k2, fun i hi => by rw [hc i hi, he i hi], hf⟩
theorem IsInts.nil (B : Nat) (w : World) (f : Nat → Int) : IsInts B w.heap.size w (.slice none 0 0) 0 f := ⟨none, 0, rfl, Nat.le_refl _, .inl rfl⟩
theorem IsInts.empty (B : Nat) (w : World) (a : Option Addr) (c : Nat) (f : Nat → Int) : IsInts B w.heap.size w (.slice a 0 c) 0 f := ⟨a, c, rfl, Nat.le_refl _, .inl rfl⟩
/-- A row of one's own, as append leaves it. -/
theorem IsInts.of_owns {B n : Nat} {w : World} {e : TypeId} {v : Value} {f : Nat → Int} (h : w.ownsRow B e 1 v n ((List.range n).map fun i => .int .i64 (f i))) : IsInts B w.heap.size w v n f := by
  have hc := fun g (hg : v.ownBlock = some g) => h.cells hg
  obtain ⟨hl, h⟩ := h
  rcases h with ⟨rfl, rfl⟩ | ⟨g, cap, cur, rfl, hb, hg, hnc, hm, hcs, htk⟩
  · exact IsInts.nil B w f
  · have hlt : g < w.heap.size := (Array.getElem?_eq_some_iff.1 hg).1
    refine ⟨_, cap, rfl, Nat.le_refl _, .inr ⟨g, 0, rfl, hb, hlt, fun i hi => ?_, fun i hi => ?_⟩⟩
    · have := hc g rfl i (.int .i64 (f i)) (by simp [hi])
      rw [Nat.zero_add]
      by_cases h0 : i = 0
      · subst h0; simpa [Addr.add] using this
      · simpa [Addr.add, h0] using this
    · simp [World.frozen?, hg]
/-- What was marked: one block from B on, below C. -/
def Marked (B C : Nat) (w w' : World) : Prop := w'.heap.size = w.heap.size ∧ ∃ row, w.grownBy w' row ∧ ∀ k, row = some k → B ≤ k ∧ k < C
theorem IsInts.marked {B C B0 C0 : Nat} {w w' : World} {v : Value} {n : Nat} {f : Nat → Int} (h : IsInts B0 C0 w v n f) (hm : Marked B C w w') (hd : C0 ≤ B) : IsInts B0 C0 w' v n f := by
  obtain ⟨a, cap, rfl, hC, hs⟩ := h
  obtain ⟨hz, row, hg, hr⟩ := hm
  refine ⟨a, cap, rfl, by omega, ?_⟩
  rcases hs with hs | ⟨g, off, ha, h1, h2, hc, hf⟩
  · exact .inl hs
  · have hne : some g ≠ row := fun e => by have := hr g e.symm; omega
    exact .inr ⟨g, off, ha, h1, h2, fun i hi => (hg.cell_far ⟨g, off + i, none⟩ (by show g < w.heap.size; omega) hne).trans (hc i hi), fun i hi => (hg.frozen_far ⟨g, off + i, none⟩ (by show g < w.heap.size; omega) hne).trans (hf i hi)⟩
theorem below_marked {B C D : Nat} {w0 w w' : World} (h : Below D w0 w) (hm : Marked B C w w') (h1 : D ≤ B) (h2 : D ≤ w.heap.size) : Below D w0 w' := by
  obtain ⟨hz, row, hg, hr⟩ := hm
  exact h.grown hg h2 (fun k e => by have := hr k e; omega)
theorem grown_set {w w1 : World} {g : Nat} (h : w.grownBy w1 (some g)) (o : Nat) (v : Value) : w.grownBy (w1.setCell ⟨g, o, none⟩ v) (some g) :=
  ⟨h.os, h.tape, h.output, by simpa [World.setCell] using h.size, fun j hj hne => (Below.heap_setCell _ _ _ _ (fun e => hne (by rw [e]))).trans (h.block j hj hne)⟩
end Go.Proofs.Ytlmlcbhllodncaa
namespace Go.Proofs.Ytlmlcbhllodncaa
open Go.RowKit
/-- Whether there is something left: a pair, a place far on, a number by which is divided; and how much, -1 for others. -/
def farB (p q n m : Int) : Bool := pairB p q && (inB n 0 1000000000 && inB m 1 10000)
def farFirstV (p q n m : Int) : Int := if farB p q n m = true then row p q 0 1 n.toNat % m else -1
def farSecondV (p q n m : Int) : Int := if farB p q n m = true then row p q 2 p n.toNat % m else -1
def powB (a t m : Int) : Bool := inB a (-10000) 10000 && (inB t 0 1000000000 && inB m 1 10000)
def powLeftV (a t m : Int) : Int := if powB a t m = true then a ^ t.toNat % m else -1
def rowLeftB (p q n m : Int) : Bool := pairB p q && (inB n 0 200 && inB m 1 10000)
/-- How many numbers RowLeft returns. -/
def rowLeftN (p q n m : Int) : Nat := if rowLeftB p q n m = true then n.toNat + 1 else 0
theorem farB_true {p q n m : Int} (h : farB p q n m = true) : pairB p q = true ∧ (∃ k : Nat, n = k ∧ k ≤ 1000000000) ∧ 1 ≤ m ∧ m ≤ 10000 := by
  have h' : pairB p q = true ∧ inB n 0 1000000000 = true ∧ inB m 1 10000 = true := by simpa [farB] using h
  obtain ⟨hp, ha, hb⟩ := h'
  obtain ⟨a1, a2⟩ := inB_true ha
  obtain ⟨b1, b2⟩ := inB_true hb
  exact ⟨hp, ⟨n.toNat, by omega, by omega⟩, b1, b2⟩
theorem powB_true {a t m : Int} (h : powB a t m = true) : (-10000 ≤ a ∧ a ≤ 10000) ∧ (∃ k : Nat, t = k ∧ k ≤ 1000000000) ∧ 1 ≤ m ∧ m ≤ 10000 := by
  have h' : inB a (-10000) 10000 = true ∧ inB t 0 1000000000 = true ∧ inB m 1 10000 = true := by simpa [powB] using h
  obtain ⟨ht, ha, hb⟩ := h'
  obtain ⟨a1, a2⟩ := inB_true ha
  obtain ⟨b1, b2⟩ := inB_true hb
  exact ⟨inB_true ht, ⟨t.toNat, by omega, by omega⟩, b1, b2⟩
theorem rowLeftB_true {p q n m : Int} (h : rowLeftB p q n m = true) : pairB p q = true ∧ (∃ k : Nat, n = k ∧ k ≤ 200) ∧ 1 ≤ m ∧ m ≤ 10000 := by
  have h' : pairB p q = true ∧ inB n 0 200 = true ∧ inB m 1 10000 = true := by simpa [rowLeftB] using h
  obtain ⟨hp, ha, hb⟩ := h'
  obtain ⟨a1, a2⟩ := inB_true ha
  obtain ⟨b1, b2⟩ := inB_true hb
  exact ⟨hp, ⟨n.toNat, by omega, by omega⟩, b1, b2⟩
theorem l1In_is (n a b : Int) (c : Bool) (w : World) (h : inB n a b = c) : Calls Try.prog 47 #[.int .i64 n, .int .i64 a, .int .i64 b] w fun e w' => e = .returned (.bool c) ∧ w = w' := by have := l1In_any n a b w; rw [h] at this; exact this
theorem farB_ways {p q n m : Int} (h : farB p q n m = false) : pairB p q = false ∨ (pairB p q = true ∧ inB n 0 1000000000 = false) ∨ (pairB p q = true ∧ inB n 0 1000000000 = true ∧ inB m 1 10000 = false) := by
  cases hp : pairB p q with
  | false => exact .inl rfl
  | true =>
    cases ha : inB n 0 1000000000 with
    | false => exact .inr (.inl ⟨rfl, rfl⟩)
    | true => exact .inr (.inr ⟨rfl, rfl, by simpa [farB, hp, ha] using h⟩)
theorem rowLeftB_ways {p q n m : Int} (h : rowLeftB p q n m = false) : pairB p q = false ∨ (pairB p q = true ∧ inB n 0 200 = false) ∨ (pairB p q = true ∧ inB n 0 200 = true ∧ inB m 1 10000 = false) := by
  cases hp : pairB p q with
  | false => exact .inl rfl
  | true =>
    cases ha : inB n 0 200 with
    | false => exact .inr (.inl ⟨rfl, rfl⟩)
    | true => exact .inr (.inr ⟨rfl, rfl, by simpa [rowLeftB, hp, ha] using h⟩)
theorem powB_ways {a t m : Int} (h : powB a t m = false) : inB a (-10000) 10000 = false ∨ (inB a (-10000) 10000 = true ∧ inB t 0 1000000000 = false) ∨ (inB a (-10000) 10000 = true ∧ inB t 0 1000000000 = true ∧ inB m 1 10000 = false) := by
  cases hp : inB a (-10000) 10000 with
  | false => exact .inl rfl
  | true =>
    cases ha : inB t 0 1000000000 with
    | false => exact .inr (.inl ⟨rfl, rfl⟩)
    | true => exact .inr (.inr ⟨rfl, rfl, by simpa [powB, hp, ha] using h⟩)
theorem mul_pos_bd {x y m : Int} (h1 : 0 ≤ x) (h2 : x < m) (h3 : 0 ≤ y) (h4 : y < m) (hm : m ≤ 10000) : 0 ≤ x * y ∧ x * y ≤ 100000000 := by
  have := mul_bd (a := 10000) (b := 10000) (show -10000 ≤ x by omega) (by omega) (show -10000 ≤ y by omega) (by omega)
  exact ⟨Int.mul_nonneg h1 h3, this.2⟩
end Go.Proofs.Ytlmlcbhllodncaa
namespace Go.Proofs.Ytlmlcbhllodncaa
open Go.RowKit
/-- The numbers that are left, as cells. -/
def leftCells (p q m : Int) (n : Nat) : List Value := (List.range n).map fun i => .int .i64 (row p q 0 1 i % m)
theorem leftCells_length (p q m : Int) (n : Nat) : (leftCells p q m n).length = n := by simp [leftCells]
theorem leftCells_snoc (p q m : Int) (n : Nat) : leftCells p q m n ++ [.int .i64 (row p q 0 1 n % m)] = leftCells p q m (n + 1) := by simp [leftCells, List.range_succ]
theorem own0 {w : World} {base g : Nat} (hb : base ≤ g) (h : w.heap[g]? = some (.cells #[] 3 (0, 0))) : w.ownsRow base 3 1 (.slice (some ⟨g, 0, none⟩) 0 0) 0 [] :=
  ⟨rfl, .inr ⟨g, 0, #[], rfl, hb, h, Nat.le_refl _, by unfold maxLen; omega, rfl, rfl⟩⟩
/-- What RowLeft returns. -/
def RowLeftOf (p q n m : Int) (w : World) (e : Ending) (w' : World) : Prop :=
  ∃ v, e = .returned v ∧ IsInts w.heap.size w'.heap.size w' v (rowLeftN p q n m) (fun i => row p q 0 1 i % m) ∧ Below w.heap.size w w'
end Go.Proofs.Ytlmlcbhllodncaa
namespace Go.Proofs.Ytlmlcbhllodncaa
open Go.RowKit
end Go.Proofs.Ytlmlcbhllodncaa
namespace Go.Proofs.Ytlmlcbhllodncaa
open Go.RowKit Go.Shelf
attribute [local go_sem] Oper.semAt_some
theorem keepsOthers_below {W W' : World} (h : Below W.heap.size W W') : KeepsOthers W W' := ⟨h.size, fun j _ hj _ => (h.block j (Array.getElem?_eq_some_iff.1 hj).1).trans hj⟩
theorem cell_below {W W' : World} {a : Addr} {v : Value} (hb : Below W.heap.size W W') (h : W.cell? a = some v) : W'.cell? a = some v := (hb.cell (p := a) (World.block_lt_of_cell? W a h)).trans h
theorem frozen_below {W W' : World} {a : Addr} {v : Value} (hb : Below W.heap.size W W') (h : W.cell? a = some v) (hf : W.frozen? a = false) : W'.frozen? a = false := (hb.frozen (p := a) (World.block_lt_of_cell? W a h)).trans hf
/-- The place that the bits tell when j of them have come. -/
def placeBy (k j : Nat) : Nat := k / 2 ^ (Lib.bitLen k - j)
theorem placeBy_zero (k : Nat) (hk : k ≤ 1000000000) : placeBy k 0 = 0 := Nat.div_eq_of_lt (bitLen_lt k hk)
theorem placeBy_all (k : Nat) : placeBy k (Lib.bitLen k) = k := by simp [placeBy]
theorem placeBy_succ (k j : Nat) (hj : j < Lib.bitLen k) : placeBy k (j + 1) = 2 * placeBy k j + (if bitB k j = true then 1 else 0) := by
  obtain ⟨g, hg⟩ : ∃ g, Lib.bitLen k = j + (g + 1) := ⟨Lib.bitLen k - j - 1, by omega⟩
  simp only [placeBy, bitB, hg, show j + (g + 1) - (j + 1) = g by omega, show j + (g + 1) - j = g + 1 by omega, show j + (g + 1) - 1 - j = g by omega, decide_eq_true_iff]
  rw [Nat.pow_succ, ← Nat.div_div_eq_div_mul]
  generalize k / 2 ^ g = z
  split <;> omega
theorem far_even' (p q m : Int) (k : Nat) : (row p q 0 1 (k + 1) % m * (row p q 0 1 (k + 1) % m) - q * (row p q 0 1 k % m) * (row p q 0 1 k % m)) % m = row p q 0 1 (2 * k + 1) % m := by
  refine Eqm.left ?_
  rw [show 2 * k + 1 = k + 1 + k by omega, ← row_add]
  exact ((eqm_left m _).mul (eqm_left m _)).sub (((Eqm.refl m q).mul (eqm_left m _)).mul (eqm_left m _))
/-- What lies in the function's boxes: the pair, the number, what it will return, the place. -/
def LeftBoxes (B S : Nat) (p q m : Int) (k : Nat) (W : World) : Prop :=
  (W.cell? ⟨B, 0, none⟩ = some (.int .i64 p) ∧ W.cell? ⟨B, 1, none⟩ = some (.int .i64 q) ∧ W.cell? ⟨B + 1, 0, none⟩ = some (.int .i64 m)) ∧
  (W.cell? ⟨B + 1 + 1, 0, none⟩ = some (.int .i64 0) ∧ W.cell? ⟨B + 1 + 1, 1, none⟩ = some (.int .i64 0) ∧ W.frozen? ⟨B + 1 + 1, 0, none⟩ = false ∧ W.frozen? ⟨B + 1 + 1, 1, none⟩ = false) ∧
  W.cell? ⟨S + 1, 0, none⟩ = some (.int .i64 k)
/-- The state of two numbers. -/
def StateIs (S : Nat) (x y : Int) (W : World) : Prop :=
  W.cell? ⟨S, 0, none⟩ = some (.int .i64 x) ∧ W.cell? ⟨S, 1, none⟩ = some (.int .i64 y) ∧ W.frozen? ⟨S, 0, none⟩ = false ∧ W.frozen? ⟨S, 1, none⟩ = false
theorem LeftBoxes.below {B S : Nat} {p q m : Int} {k : Nat} {W W' : World} (h : LeftBoxes B S p q m k W) (hb : Below W.heap.size W W') : LeftBoxes B S p q m k W' := by
  obtain ⟨⟨x1, x2, x3⟩, ⟨x4, x5, x6, x7⟩, x8⟩ := h
  exact ⟨⟨cell_below hb x1, cell_below hb x2, cell_below hb x3⟩, ⟨cell_below hb x4, cell_below hb x5, frozen_below hb x4 x6, frozen_below hb x5 x7⟩, cell_below hb x8⟩
theorem LeftBoxes.set {B S : Nat} {p q m : Int} {k : Nat} {W : World} (h : LeftBoxes B S p q m k W) (hS : B + 1 + 1 < S) (o : Nat) (v : Value) : LeftBoxes B S p q m k (W.setCell ⟨S, o, none⟩ v) := by
  obtain ⟨⟨x1, x2, x3⟩, ⟨x4, x5, x6, x7⟩, x8⟩ := h
  exact ⟨⟨(set_other (by omega)).trans x1, (set_other (by omega)).trans x2, (set_other (by omega)).trans x3⟩, ⟨(set_other (by omega)).trans x4, (set_other (by omega)).trans x5, set_frozen x6, set_frozen x7⟩, (set_other (by omega)).trans x8⟩
theorem LeftBoxes.kept {B S : Nat} {p q m : Int} {k : Nat} {A V : World} {row : Option Nat} (h : LeftBoxes B S p q m k A) (hg : A.grownBy V row) (hr : ∀ r, row = some r → ∃ o : Obj, A.heap[r]? = some o ∧ o.isCells = false) : LeftBoxes B S p q m k V := by
  obtain ⟨⟨x1, x2, x3⟩, ⟨x4, x5, x6, x7⟩, x8⟩ := h
  exact ⟨⟨cell_kept x1 hg hr, cell_kept x2 hg hr, cell_kept x3 hg hr⟩, ⟨cell_kept x4 hg hr, cell_kept x5 hg hr, (frozen_kept x4 hg hr).trans x6, (frozen_kept x5 hg hr).trans x7⟩, cell_kept x8 hg hr⟩
theorem StateIs.below {S : Nat} {x y : Int} {W W' : World} (h : StateIs S x y W) (hb : Below W.heap.size W W') : StateIs S x y W' :=
  ⟨cell_below hb h.1, cell_below hb h.2.1, frozen_below hb h.1 h.2.2.1, frozen_below hb h.2.1 h.2.2.2⟩
theorem StateIs.set {S : Nat} {x y : Int} {W : World} (h : StateIs S x y W) (x' y' : Int) : StateIs S x' y' ((W.setCell ⟨S, 0, none⟩ (.int .i64 x')).setCell ⟨S, 1, none⟩ (.int .i64 y')) :=
  ⟨(World.cell?_setCell_other _ ⟨S, 1, none⟩ ⟨S, 0, none⟩ _ (fun e => by injection e; omega)).trans (set_same h.1), set_same ((World.cell?_setCell_other _ ⟨S, 0, none⟩ ⟨S, 1, none⟩ _ (fun e => by injection e; omega)).trans h.2.1), set_frozen (set_frozen h.2.2.1), set_frozen (set_frozen h.2.2.2)⟩
theorem StateIs.kept {S : Nat} {x y : Int} {A V : World} {row : Option Nat} (h : StateIs S x y A) (hg : A.grownBy V row) (hr : ∀ r, row = some r → ∃ o : Obj, A.heap[r]? = some o ∧ o.isCells = false) : StateIs S x y V :=
  ⟨cell_kept h.1 hg hr, cell_kept h.2.1 hg hr, (frozen_kept h.1 hg hr).trans h.2.2.1, (frozen_kept h.2.1 hg hr).trans h.2.2.2⟩
end Go.Proofs.Ytlmlcbhllodncaa
namespace Go.Proofs.Ytlmlcbhllodncaa
open Go.RowKit
variable {F : Fence} {n : Nat} {P : Program} {ops : Array Oper} {md : Region.Mode} {Q : Exit → Act → World → Prop}
/-- No operation defers a call. -/
def noDefer (ops : Array Oper) : Bool := ops.all fun o => match o.op with | .defer _ => false | _ => true
theorem noDefer_at {i : Nat} {o : Oper} (h : noDefer ops = true) (hi : ops[i]? = some o) : ∀ c, o.op ≠ .defer c := by
  intro c hc
  obtain ⟨hlt, rfl⟩ := Array.getElem?_eq_some_iff.1 hi
  have := Array.all_eq_true.1 h i hlt
  simp only [hc] at this
  cases this
theorem wpOpIn_round {l i : Nat} {K : Act → World → Prop} {a : Act} {w : World} (hro : F.round = none) (hnd : noDefer ops = true) (h : wpOpIn F n P ops Q i K a w) : wpOpIn (F.inRound l) n P ops Q i K a w := by
  unfold wpOpIn at *
  split
  · rename_i ho; simp only [ho] at h; exact h
  · rename_i o ho
    simp only [ho] at h
    split
    · rename_i hw
      simp only [hw, if_true] at h
      unfold Oper.wpIn at *
      refine ⟨h.1, ?_⟩
      have h2 := h.2
      rw [hro, Oper.semAt_none] at h2
      rw [Fence.inRound_round, Oper.semAt_some l _ _ (noDefer_at hnd ho)]
      exact h2
    · rename_i hw; simp only [hw] at h; exact h
theorem wpAnyIn_round {l : Nat} (hro : F.round = none) (hnd : noDefer ops = true) : ∀ (fuel : Nat) (listed : Array Bool) (a : Act) (w : World), wpAnyIn F n P md ops Q fuel listed a w → wpAnyIn (F.inRound l) n P md ops Q fuel listed a w
  | 0, _, _, _, h => h
  | fuel + 1, _, _, _, h => ⟨h.1, fun i hi => wpOpIn_round hro hnd (wpOpIn_mono (fun a' w' => wpAnyIn_round hro hnd fuel _ a' w') (h.2 i hi))⟩
theorem wpIn_region_quiet_round {C : World → Prop} {id l : Nat} {a : Act} {w : World} (hro : F.round = none) (hnd : noDefer ops = true) (hm : P.follows .mixedOrders = true) (hB : Region.lexB .any ops = true) (hC : C { w with drawn := w.drawn + 1 })
    (h : wpQuietIn F n P ops C (fun a' => ∀ w', C w' → Q .normal a' w') ops.toList a) : (Code.region id ops true).wpIn (F.inRound l) n P Q a w := by
  simp only [Region.lexB, Bool.and_eq_true] at hB
  refine wpIn_region_any hm (wpAnyIn_round hro hnd _ _ _ _ (wpAnyIn_of_quiet (Q := fun a' => ∀ w', C w' → Q .normal a' w') hro (fun _ w' hw' h => h w' hw') _ _ _ _ hC ?_))
  have := wpAnyQIn_lex (F := F) (n := n) (C := C) (md := .any) hB.1 ops.toList 0 (Array.replicate ops.size false) a (by simp) (by simpa using hB.2) h
  simpa using this
/-- The worlds in which something holds. -/
structure KeptBy (S : World → Prop) where
  world : World
  ok : S world
theorem wpIn_region_kept {S : World → Prop} {id l : Nat} {a : Act} {w : World} {os : List Oper} (hS : S w.drew) (hro : F.round = none) (hnd : noDefer os.toArray = true) (hm : P.follows .mixedOrders = true) (hB : Region.lexB .any os.toArray = true)
    (h : wpQuietIn F n P os.toArray (fun w' => ∃ i : KeptBy S, w' = i.world) (fun a' => ∀ w', (∃ i : KeptBy S, w' = i.world) → Q .normal a' w') os a) : (Code.region id os.toArray true).wpIn (F.inRound l) n P Q a w :=
  wpIn_region_quiet_round (C := fun w' => ∃ i : KeptBy S, w' = i.world) hro hnd hm hB ⟨⟨w.drew, hS⟩, rfl⟩ (by simpa using h)
end Go.Proofs.Ytlmlcbhllodncaa
namespace Go.Proofs.Ytlmlcbhllodncaa
open Go.RowKit
variable {P : Program} {Q : Exit → Act → World → Prop}
theorem wp_region_kept {S : World → Prop} {id : Nat} {a : Act} {w : World} {os : List Oper} (hS : S w.drew) (hm : P.follows .mixedOrders = true) (hB : Region.lexB .any os.toArray = true)
    (h : wpQuiet P os.toArray (fun w' => ∃ i : KeptBy S, w' = i.world) (fun a' => ∀ w', (∃ i : KeptBy S, w' = i.world) → Q .normal a' w') os a) : (Code.region id os.toArray true).wp P Q a w :=
  wp_region_quiet (C := fun w' => ∃ i : KeptBy S, w' = i.world) hm hB ⟨⟨w.drew, hS⟩, rfl⟩ (by simpa using h)
end Go.Proofs.Ytlmlcbhllodncaa
namespace Go.Proofs.Ytlmlcbhllodncaa
open Go.RowKit
theorem cell_belowS {W W' : World} {a : Addr} {v : Value} (hb : Below W.heap.size W W') (h : W.cell? a = some v) : W'.cell? a = some v := (hb.cell (p := a) (World.block_lt_of_cell? W a h)).trans h
/-- v is a slice of n texts f 0, f 1 ..; they lie in one block from B on, below C, and may be written. -/
def IsStrs (B C : Nat) (w : World) (v : Value) (n : Nat) (f : Nat → ByteArray) : Prop :=
  ∃ (a : Option Addr) (cap : Nat), v = .slice a n cap ∧ C ≤ w.heap.size ∧
    (n = 0 ∨ ∃ g off, a = some ⟨g, off, none⟩ ∧ B ≤ g ∧ g < C ∧ (∀ i, i < n → w.cell? ⟨g, off + i, none⟩ = some (.string (f i))) ∧ (∀ i, i < n → w.frozen? ⟨g, off + i, none⟩ = false))
theorem IsStrs.below {B C D : Nat} {w w' : World} {v : Value} {n : Nat} {f : Nat → ByteArray} (h : IsStrs B C w v n f) (hb : Below D w w') (hD : C ≤ D) : IsStrs B C w' v n f := by
  obtain ⟨a, cap, rfl, hC, hs⟩ := h
  refine ⟨a, cap, rfl, Nat.le_trans hC hb.size, ?_⟩
  rcases hs with hs | ⟨g, off, ha, h1, h2, hc, hf⟩
  · exact .inl hs
  · exact .inr ⟨g, off, ha, h1, h2, fun i hi => (hb.cell (p := ⟨g, off + i, none⟩) (by show g < D; omega)).trans (hc i hi), fun i hi => (hb.frozen (p := ⟨g, off + i, none⟩) (by show g < D; omega)).trans (hf i hi)⟩
theorem IsStrs.mono {B B' C C' : Nat} {w : World} {v : Value} {n : Nat} {f : Nat → ByteArray} (h : IsStrs B C w v n f) (h1 : B' ≤ B) (h2 : C ≤ C') (h3 : C' ≤ w.heap.size) : IsStrs B' C' w v n f := by
  obtain ⟨a, cap, rfl, hC, hs⟩ := h
  refine ⟨a, cap, rfl, h3, ?_⟩
  rcases hs with hs | ⟨g, off, ha, k1, k2, hc, hf⟩
  · exact .inl hs
  · exact .inr ⟨g, off, ha, by omega, by omega, hc, hf⟩
theorem IsStrs.congr {B C : Nat} {w : World} {v : Value} {n : Nat} {f g : Nat → ByteArray} (h : IsStrs B C w v n f) (he : ∀ i, i < n → f i = g i) : IsStrs B C w v n g := by
  obtain ⟨a, cap, rfl, hC, hs⟩ := h
  refine ⟨a, cap, rfl, hC, ?_⟩
  rcases hs with hs | ⟨g, off, ha, k1, k2, hc, hf⟩
  · exact .inl hs
  · exact .inr ⟨g, off, ha, k1, k2, fun i hi => by rw [hc i hi, he i hi], hf⟩
theorem IsStrs.nil (B : Nat) (w : World) (f : Nat → ByteArray) : IsStrs B w.heap.size w (.slice none 0 0) 0 f := ⟨none, 0, rfl, Nat.le_refl _, .inl rfl⟩
theorem IsStrs.empty (B : Nat) (w : World) (a : Option Addr) (c : Nat) (f : Nat → ByteArray) : IsStrs B w.heap.size w (.slice a 0 c) 0 f := ⟨a, c, rfl, Nat.le_refl _, .inl rfl⟩
/-- A row of one's own, as append leaves it. -/
theorem IsStrs.of_owns {B n : Nat} {w : World} {e : TypeId} {v : Value} {f : Nat → ByteArray} (h : w.ownsRow B e 1 v n ((List.range n).map fun i => .string (f i))) : IsStrs B w.heap.size w v n f := by
  have hc := fun g (hg : v.ownBlock = some g) => h.cells hg
  obtain ⟨hl, h⟩ := h
  rcases h with ⟨rfl, rfl⟩ | ⟨g, cap, cur, rfl, hb, hg, hnc, hm, hcs, htk⟩
  · exact IsStrs.nil B w f
  · have hlt : g < w.heap.size := (Array.getElem?_eq_some_iff.1 hg).1
    refine ⟨_, cap, rfl, Nat.le_refl _, .inr ⟨g, 0, rfl, hb, hlt, fun i hi => ?_, fun i hi => ?_⟩⟩
    · have := hc g rfl i (.string (f i)) (by simp [hi])
      rw [Nat.zero_add]
      by_cases h0 : i = 0
      · subst h0; simpa [Addr.add] using this
      · simpa [Addr.add, h0] using this
    · simp [World.frozen?, hg]
theorem IsStrs.marked {B C B0 C0 : Nat} {w w' : World} {v : Value} {n : Nat} {f : Nat → ByteArray} (h : IsStrs B0 C0 w v n f) (hm : Marked B C w w') (hd : C0 ≤ B) : IsStrs B0 C0 w' v n f := by
  obtain ⟨a, cap, rfl, hC, hs⟩ := h
  obtain ⟨hz, row, hg, hr⟩ := hm
  refine ⟨a, cap, rfl, by omega, ?_⟩
  rcases hs with hs | ⟨g, off, ha, h1, h2, hc, hf⟩
  · exact .inl hs
  · have hne : some g ≠ row := fun e => by have := hr g e.symm; omega
    exact .inr ⟨g, off, ha, h1, h2, fun i hi => (hg.cell_far ⟨g, off + i, none⟩ (by show g < w.heap.size; omega) hne).trans (hc i hi), fun i hi => (hg.frozen_far ⟨g, off + i, none⟩ (by show g < w.heap.size; omega) hne).trans (hf i hi)⟩
set_option maxHeartbeats 2000000 in
theorem eqStringS_same (B C B' C' n : Nat) (v u : Value) (f : Nat → ByteArray) (w : World) (h : IsStrs B C w v n f) (k : IsStrs B' C' w u n f) (hn : n ≤ 1000000) :
    Calls Try.prog 42 #[v, u] w fun e w' => e = .returned (.bool true) ∧ Below w.heap.size w w' := by
  obtain ⟨a, ca, rfl, hC, hs⟩ := h
  obtain ⟨b, cb, rfl, hC', ks⟩ := k
  go_enter Try.func42, Try.ntmps42
  go_wp2_with fail
  go_loopw [5] (fun k wr => ∃ i : Nat, i ≤ n ∧ k = .int .i64 i ∧ Below w.heap.size w wr) (fun k _ => n - (intOf k).toNat)
  case atStart => exact ⟨0, Nat.zero_le _, rfl, Below.refl _ _⟩
  case round =>
    obtain ⟨i, hi, rfl, hB⟩ := hrel
    by_cases hlt : i < n
    · rcases hs with rfl | ⟨g, off, rfl, h1, h2, hc, hf⟩
      · omega
      rcases ks with rfl | ⟨g', off', rfl, h1', h2', hc', hf'⟩
      · omega
      have c1 : wr.cell? ⟨g, off + i, none⟩ = some (.string (f i)) := (hB.cell (p := ⟨g, off + i, none⟩) (by show g < _; omega)).trans (hc i hlt)
      have c2 : wr.cell? ⟨g', off' + i, none⟩ = some (.string (f i)) := (hB.cell (p := ⟨g', off' + i, none⟩) (by show g' < _; omega)).trans (hc' i hlt)
      have hz := hB.size
      clear hc hc' hf hf'
      go_wp2
      go_quiet (fail)
      go_wp2
      go_roundw
      case rel => exact ⟨i + 1, by omega, congrArg (Value.int .i64) (by omega), below_drewN hB _⟩
      case measure => simp [intOf]; omega
    · obtain rfl : i = n := by omega
      clear hs ks
      go_wp2
      go_ret
      exact ⟨rfl, hB⟩
set_option maxHeartbeats 2000000 in
theorem sameTexts_same (B C B' C' n : Nat) (v u : Value) (f : Nat → ByteArray) (w : World) (h : IsStrs B C w v n f) (k : IsStrs B' C' w u n f) (hn : n ≤ 1000000) :
    Calls Try.prog 23 #[v, u] w fun e w' => e = .returned (.bool true) ∧ Below w.heap.size w w' := by
  obtain ⟨a, ca, rfl, hC, hs⟩ := h
  obtain ⟨b, cb, rfl, hC', ks⟩ := k
  go_enter Try.func23, Try.ntmps23
  go_wp2_with fail
  go_loopw [5] (fun k wr => ∃ i : Nat, i ≤ n ∧ k = .int .i64 i ∧ Below w.heap.size w wr) (fun k _ => n - (intOf k).toNat)
  case atStart => exact ⟨0, Nat.zero_le _, rfl, Below.refl _ _⟩
  case round =>
    obtain ⟨i, hi, rfl, hB⟩ := hrel
    by_cases hlt : i < n
    · rcases hs with rfl | ⟨g, off, rfl, h1, h2, hc, hf⟩
      · omega
      rcases ks with rfl | ⟨g', off', rfl, h1', h2', hc', hf'⟩
      · omega
      have c1 : wr.cell? ⟨g, off + i, none⟩ = some (.string (f i)) := (hB.cell (p := ⟨g, off + i, none⟩) (by show g < _; omega)).trans (hc i hlt)
      have c2 : wr.cell? ⟨g', off' + i, none⟩ = some (.string (f i)) := (hB.cell (p := ⟨g', off' + i, none⟩) (by show g' < _; omega)).trans (hc' i hlt)
      have hz := hB.size
      clear hc hc' hf hf'
      go_wp2
      go_quiet (fail)
      go_wp2
      go_roundw
      case rel => exact ⟨i + 1, by omega, congrArg (Value.int .i64) (by omega), below_drewN hB _⟩
      case measure => simp [intOf]; omega
    · obtain rfl : i = n := by omega
      clear hs ks
      go_wp2
      go_ret
      exact ⟨rfl, hB⟩
/-- A digit; the digits of a number ahead of a text; the mark of a number. -/
def digS (d : Nat) : ByteArray := ⟨#[UInt8.ofNat (48 + d)]⟩
def decF : Nat → Nat → ByteArray → ByteArray
  | 0, _, o => o
  | f + 1, k, o => if k = 0 then o else decF f (k / 10) (digS (k % 10) ++ o)
def markT (k : Nat) : ByteArray := ⟨#[109]⟩ ++ decF 10 k ⟨#[]⟩
theorem decF_zero (f : Nat) (o : ByteArray) : decF f 0 o = o := by cases f <;> simp [decF]
theorem decF_next {f k : Nat} (h : 0 < k) (o : ByteArray) : decF (f + 1) k o = decF f (k / 10) (digS (k % 10) ++ o) := by rw [decF, if_neg (by omega)]
theorem run_digit (w : World) (d : Nat) (hd : d < 10) : (convert 22 9 (.slice (some ⟨w.heap.size, 0, none⟩) 1 1)).run Try.prog (w.alloc (.cells #[.int .u8 (48 + (d : Int))] 5)) = .ok (.string (digS d)) (w.alloc (.cells #[.int .u8 (48 + (d : Int))] 5)) := by
  have h := run_convert_bytes_back (P := Try.prog) (w.alloc (.cells #[.int .u8 (48 + (d : Int))] 5)) 22 9 5 ⟨w.heap.size, 0, none⟩ 1 [UInt8.ofNat (48 + d)] Try.underlying22 Try.underlying5 Try.underlying9 ?_
  · exact h
  · intro j hj
    obtain rfl : j = 0 := by simpa using hj
    have e : ((UInt8.ofNat (48 + d)).toNat : Int) = 48 + (d : Int) := by
      rw [UInt8.toNat_ofNat_of_lt' (by show 48 + d < 256; omega)]; omega
    have h1 := cell_one_new w (.int .u8 (48 + (d : Int))) 5
    rw [← e] at h1
    rw [← e]
    exact h1 0 _ rfl
set_option maxHeartbeats 2000000 in
theorem markText_any (k : Nat) (w : World) (h1 : 1 ≤ k) (h2 : k < 10000000000) :
    Calls Try.prog 59 #[.int .i64 k] w fun e w' => e = .returned (.string (markT k)) ∧ Below w.heap.size w w' := by
  have HM := Lib.hid (show markT k = ⟨#[109]⟩ ++ decF 10 k ⟨#[]⟩ from rfl)
  obtain ⟨D, hD⟩ : ∃ D, decF 10 k ⟨#[]⟩ = D := ⟨_, rfl⟩
  rw [hD] at HM
  have HD := Lib.hid hD
  have k0 : ¬ ((k : Int) ≤ 0) := by omega
  clear hD
  go_enter Try.func59, Try.ntmps59
  go_wp2_with fail
  go_loopw [0, 3] (fun x y wr => ∃ (f j : Nat) (o : ByteArray), x = .int .i64 j ∧ y = .string o ∧ decF f j o = D ∧ j < 10 ^ f ∧ j ≤ 9999999999 ∧ o.size + f = 10 ∧ Below w.heap.size w wr) (fun x _ _ => (intOf x).toNat)
  case atStart => exact ⟨10, k, ⟨#[]⟩, rfl, rfl, HD.out, by omega, by omega, rfl, Below.refl _ _⟩
  case round =>
    obtain ⟨f, j, o, rfl, rfl, hdec, hj, hj9, hos, hB⟩ := hrel
    by_cases hj0 : 0 < j
    · obtain ⟨f, rfl⟩ : ∃ t, f = t + 1 := by
        cases f with
        | zero => simp at hj; omega
        | succ t => exact ⟨t, rfl⟩
      rw [decF_next hj0] at hdec
      rw [Nat.pow_succ] at hj
      have hq : j / 10 < 10 ^ f := by omega
      have hji : (0 : Int) < (j : Int) := by omega
      have hd9 : j % 10 < 10 := by omega
      obtain ⟨d, hd⟩ : ∃ d, j % 10 = d := ⟨_, rfl⟩
      obtain ⟨q, hqq⟩ : ∃ q, j / 10 = q := ⟨_, rfl⟩
      rw [hd] at hdec hd9
      rw [hqq] at hdec hq
      have hm1 : (j : Int) % 10 = (d : Int) := by omega
      have hm2 : Int.tmod (j : Int) 10 = (d : Int) := by rw [Int.tmod_eq_emod_of_nonneg (by omega)]; omega
      have hq1 : (j : Int) / 10 = (q : Int) := by omega
      have hq2 : Int.tdiv (j : Int) 10 = (q : Int) := by rw [Int.tdiv_eq_ediv_of_nonneg (by omega)]; omega
      have hw8 : IntKind.u8.wrap (48 + (d : Int)) = 48 + (d : Int) := IntWalk.u8_in _ ⟨by omega, by omega⟩
      have hcv := run_digit wr d hd9
      have hcat : ¬ 9223372036854775807 < 1 + o.size := by omega
      have hds : (digS d).size = 1 := rfl
      have HDEC := Lib.hid hdec
      have HQ := Lib.hid hq
      have hqj : q < j := by omega
      have HB2 := Lib.hid (show Below w.heap.size w (wr.alloc (.cells #[.int .u8 (48 + (d : Int))] 5)) from hB.alloc hB.size _)
      clear hdec hq hd hqq hj hB
      go_wp2
      go_roundw
      case rel => exact ⟨f, q, digS d ++ o, rfl, rfl, HDEC.out, HQ.out, by omega, by rw [ByteArray.size_append, hds]; omega, HB2.out⟩
      case measure => simp [intOf]; omega
    · obtain rfl : j = 0 := by omega
      rw [decF_zero] at hdec
      have hcat : ¬ 9223372036854775807 < 1 + o.size := by omega
      have HDEC := Lib.hid hdec
      clear hdec
      go_wp2
      go_ret
      refine ⟨?_, hB⟩
      show Ending.returned (.string (⟨#[109]⟩ ++ o)) = _
      rw [HM.out, HDEC.out]
/-- What was marked: one block from B on, below C; other memory may be new. -/
def MarkedS (B C : Nat) (w w' : World) : Prop := ∃ row, w.grownBy w' row ∧ ∀ k, row = some k → B ≤ k ∧ k < C
theorem IsStrs.markedS {B C B0 C0 : Nat} {w w' : World} {v : Value} {n : Nat} {f : Nat → ByteArray} (h : IsStrs B0 C0 w v n f) (hm : MarkedS B C w w') (hd : C0 ≤ B) : IsStrs B0 C0 w' v n f := by
  obtain ⟨a, cap, rfl, hC, hs⟩ := h
  obtain ⟨row, hg, hr⟩ := hm
  refine ⟨a, cap, rfl, Nat.le_trans hC hg.size, ?_⟩
  rcases hs with hs | ⟨g, off, ha, h1, h2, hc, hf⟩
  · exact .inl hs
  · have hne : some g ≠ row := fun e => by have := hr g e.symm; omega
    exact .inr ⟨g, off, ha, h1, h2, fun i hi => (hg.cell_far ⟨g, off + i, none⟩ (by show g < w.heap.size; omega) hne).trans (hc i hi), fun i hi => (hg.frozen_far ⟨g, off + i, none⟩ (by show g < w.heap.size; omega) hne).trans (hf i hi)⟩
theorem below_markedS {B C D : Nat} {w0 w w' : World} (h : Below D w0 w) (hm : MarkedS B C w w') (h1 : D ≤ B) (h2 : D ≤ w.heap.size) : Below D w0 w' := by
  obtain ⟨row, hg, hr⟩ := hm
  exact h.grown hg h2 (fun k e => by have := hr k e; omega)
set_option maxHeartbeats 4000000 in
theorem markStringS_any (B C n : Nat) (v : Value) (f : Nat → ByteArray) (k0 : Nat) (w : World) (h : IsStrs B C w v n f) (hn : n ≤ 1000000) (hk : 1 ≤ k0) (hk1 : k0 ≤ 1000000) :
    Calls Try.prog 43 #[v, .int .i64 k0] w fun e w' => e = .returned (.int .i64 ((k0 + n : Nat) : Int)) ∧ IsStrs B C w' v n (fun i => markT (k0 + i)) ∧ MarkedS B C w w' := by
  obtain ⟨a, ca, rfl, hC, hs⟩ := h
  rcases hs with rfl | ⟨g, off, rfl, h1, h2, hc, hf⟩
  · go_enter Try.func43, Try.ntmps43
    go_wp2_with fail
    go_loop [1, 5] (fun x y => x = .int .i64 k0 ∧ y = .int .i64 0) (fun _ _ => 0)
    case atStart => exact ⟨rfl, rfl⟩
    case round =>
      obtain ⟨rfl, rfl⟩ := hrel
      go_wp2
      go_ret
      exact ⟨by simp, ⟨a, ca, rfl, hC, .inl rfl⟩, none, World.grownBy.refl _ _, fun k e => by cases e⟩
  · go_enter Try.func43, Try.ntmps43
    go_wp2_with fail
    go_loopw [1, 5] (fun x y wr => ∃ i : Nat, i ≤ n ∧ x = .int .i64 ((k0 + i : Nat) : Int) ∧ y = .int .i64 i ∧ (∀ j, j < i → wr.cell? ⟨g, off + j, none⟩ = some (.string (markT (k0 + j)))) ∧ (∀ j, i ≤ j → j < n → wr.cell? ⟨g, off + j, none⟩ = some (.string (f j))) ∧ (∀ j, j < n → wr.frozen? ⟨g, off + j, none⟩ = false) ∧ w.grownBy wr (some g)) (fun _ y _ => n - (intOf y).toNat)
    case atStart => exact ⟨0, Nat.zero_le _, by simp, rfl, fun j hj => absurd hj (by omega), fun j _ hj => hc j hj, hf, World.grownBy.refl _ _⟩
    case round =>
      obtain ⟨i, hi, rfl, rfl, hm, hr, hfr, hg⟩ := hrel
      by_cases hlt : i < n
      · have hzg := hg.size
        have hii : (i : Int) < (n : Int) := by omega
        have i0 : (0 : Int) ≤ (i : Int) := by omega
        obtain ⟨K, hK⟩ : ∃ K, k0 + i = K := ⟨_, rfl⟩
        have HM := Lib.hid hm
        have HR := Lib.hid hr
        have HF := Lib.hid hfr
        have HG := Lib.hid hg
        have HK := Lib.hid hK
        have hK1 : 1 ≤ K := by omega
        have hK2 : K ≤ 2000000 := by omega
        rw [hK]
        clear hm hr hfr hc hf hg hK
        go_wp2_with fail
        refine (markText_any K _ hK1 (by omega)).mono ?_
        rintro e w3 ⟨rfl, hh3⟩
        have hgw : g < wr.heap.size := by omega
        have c1 : w3.cell? ⟨g, off + i, none⟩ = some (.string (f i)) := cell_belowS hh3 (HR.out i (Nat.le_refl _) hlt)
        have f1 : w3.frozen? ⟨g, off + i, none⟩ = false := (hh3.frozen (p := ⟨g, off + i, none⟩) hgw).trans (HF.out i hlt)
        have HH3 := Lib.hid hh3
        clear hh3
        go_wp2
        go_roundw
        case rel =>
          refine ⟨i + 1, by omega, congrArg (Value.int .i64) (by have := HK.out; omega), congrArg (Value.int .i64) (by omega), fun j hj => ?_, fun j hij hj => ?_, fun j hj => ?_, grown_set (HG.out.trans ⟨HH3.out.os, HH3.out.tape, HH3.out.output, HH3.out.size, fun q hq _ => HH3.out.block q hq⟩) _ _⟩
          · by_cases e : j = i
            · subst e; rw [HK.out]; exact World.cell?_setCell_same' _ _ _ (by rw [c1]; rfl)
            · exact (World.cell?_setCell_other _ ⟨g, off + i, none⟩ ⟨g, off + j, none⟩ _ (fun e' => by injection e'; omega)).trans (cell_belowS HH3.out (HM.out j (by omega)))
          · exact (World.cell?_setCell_other _ ⟨g, off + i, none⟩ ⟨g, off + j, none⟩ _ (fun e' => by injection e'; omega)).trans (cell_belowS HH3.out (HR.out j (by omega) hj))
          · rw [World.frozen?_setCell]; exact (HH3.out.frozen (p := ⟨g, off + j, none⟩) hgw).trans (HF.out j hj)
        case measure => simp [intOf]; omega
      · obtain rfl : i = n := by omega
        have HM := Lib.hid hm
        have HF := Lib.hid hfr
        have HG := Lib.hid hg
        clear hm hr hfr hc hf hg
        go_wp2
        go_ret
        exact ⟨rfl, ⟨_, ca, rfl, Nat.le_trans hC HG.out.size, .inr ⟨g, off, rfl, h1, h2, HM.out, HF.out⟩⟩, some g, HG.out, fun k e => by cases e; exact ⟨h1, h2⟩⟩
end Go.Proofs.Ytlmlcbhllodncaa
namespace Go.Proofs.Ytlmlcbhllodncaa
open Go.RowKit
/-- Block b holds o, and is neither the caller's box Bs nor the row that lies in it. -/
def Apart (Bs b : Nat) (o : Obj) (V : World) : Prop := V.heap[b]? = some o ∧ b ≠ Bs ∧ ∀ v, V.cell? ⟨Bs, 0, none⟩ = some v → v.ownBlock ≠ some b
/-- The caller's box holds a value whose row lies in the heap. -/
def Ground (Bs : Nat) (V : World) : Prop := ∃ v, V.cell? ⟨Bs, 0, none⟩ = some v ∧ ∀ b, v.ownBlock = some b → b < V.heap.size
/-- What lies from B on and is apart lies on, and is apart. -/
def Spares (Bs B : Nat) (V V' : World) : Prop := V.heap.size ≤ V'.heap.size ∧ ∀ b o, B ≤ b → Apart Bs b o V → Apart Bs b o V'
theorem Spares.refl (Bs B : Nat) (V : World) : Spares Bs B V V := ⟨Nat.le_refl _, fun _ _ _ h => h⟩
theorem Spares.trans {Bs B : Nat} {A V W : World} (h : Spares Bs B A V) (k : Spares Bs B V W) : Spares Bs B A W := ⟨Nat.le_trans h.1 k.1, fun b o hb ha => k.2 b o hb (h.2 b o hb ha)⟩
theorem Spares.mono {Bs B B' : Nat} {V V' : World} (h : Spares Bs B V V') (hB : B ≤ B') : Spares Bs B' V V' := ⟨h.1, fun b o hb ha => h.2 b o (Nat.le_trans hB hb) ha⟩
theorem Apart.lt {Bs b : Nat} {o : Obj} {V : World} (h : Apart Bs b o V) : b < V.heap.size := (Array.getElem?_eq_some_iff.1 h.1).1
theorem Ground.lt {Bs : Nat} {V : World} (h : Ground Bs V) : Bs < V.heap.size := by
  obtain ⟨v, hv, _⟩ := h
  obtain ⟨o, ho, _⟩ := cells_of_cell hv
  exact (Array.getElem?_eq_some_iff.1 ho).1
theorem Ground.grown {Bs : Nat} {V V' : World} {row : Option Nat} (h : Ground Bs V) (hg : V.grownBy V' row) (hr : ∀ r, row = some r → ∃ o : Obj, V.heap[r]? = some o ∧ o.isCells = false) : Ground Bs V' := by
  obtain ⟨v, hv, hb⟩ := h
  exact ⟨v, cell_kept hv hg hr, fun b e => Nat.lt_of_lt_of_le (hb b e) hg.size⟩
theorem Apart.grown {Bs b : Nat} {o : Obj} {V V' : World} {row : Option Nat} (h : Apart Bs b o V) (hG : Ground Bs V) (hg : V.grownBy V' row) (hr : ∀ r, row = some r → ∃ o : Obj, V.heap[r]? = some o ∧ o.isCells = false) (hne : some b ≠ row) : Apart Bs b o V' := by
  obtain ⟨v, hv, _⟩ := hG
  refine ⟨(hg.block b h.lt hne).trans h.1, h.2.1, fun u hu => h.2.2 u ?_⟩
  rw [cell_kept hv hg hr] at hu
  rw [hv, hu]
theorem Apart.new {Bs : Nat} {V : World} (hG : Ground Bs V) (o : Obj) : Apart Bs V.heap.size o (V.alloc o) := by
  have hlt := hG.lt
  obtain ⟨v, hv, hb⟩ := hG
  refine ⟨World.alloc_heap_new V o, by omega, fun u hu e => ?_⟩
  rw [cell_kept hv (World.grownBy_alloc V o none) (fun r e => by cases e)] at hu
  cases hu
  have := hb _ e
  omega
theorem Ground.alloc {Bs : Nat} {V : World} (h : Ground Bs V) (o : Obj) : Ground Bs (V.alloc o) := h.grown (World.grownBy_alloc V o none) (fun r e => by cases e)
theorem Apart.alloc {Bs b : Nat} {o : Obj} {V : World} (h : Apart Bs b o V) (hG : Ground Bs V) (o' : Obj) : Apart Bs b o (V.alloc o') := h.grown hG (World.grownBy_alloc V o' none) (fun r e => by cases e) (by simp)
theorem Ground.putObj {Bs l : Nat} {x o' : Obj} {V : World} (h : Ground Bs V) (hl : V.heap[l]? = some x) (hx : x.isCells = false) : Ground Bs (V.putObj l o') := h.grown (grownBy_putObj' V l o') (fun r e => by cases e; exact ⟨x, hl, hx⟩)
theorem Apart.putObj {Bs b l : Nat} {o x o' : Obj} {V : World} (h : Apart Bs b o V) (hG : Ground Bs V) (hl : V.heap[l]? = some x) (hx : x.isCells = false) (hne : b ≠ l) : Apart Bs b o (V.putObj l o') :=
  h.grown hG (grownBy_putObj' V l o') (fun r e => by cases e; exact ⟨x, hl, hx⟩) (fun e => hne (by cases e; rfl))
theorem Apart.turned {Bs l : Nat} {x o' : Obj} {V : World} (h : Apart Bs l x V) (hG : Ground Bs V) (hx : x.isCells = false) : Apart Bs l o' (V.putObj l o') := by
  obtain ⟨v, hv, _⟩ := hG
  refine ⟨World.putObj_heap_same h.lt, h.2.1, fun u hu => h.2.2 u ?_⟩
  rw [cell_kept hv (grownBy_putObj' V l o') (fun r e => by cases e; exact ⟨x, h.1, hx⟩)] at hu
  rw [hv, hu]
theorem Apart.cell {Bs b : Nat} {v : Value} {t : TypeId} {V : World} (h : Apart Bs b (.cells #[v] t (0, 0)) V) : V.cell? ⟨b, 0, none⟩ = some v := by simp [World.cell?, h.1]
theorem Spares.putObj {Bs B l : Nat} {x o' : Obj} {V : World} (hG : Ground Bs V) (hl : V.heap[l]? = some x) (hx : x.isCells = false) (hB : l < B) : Spares Bs B V (V.putObj l o') :=
  ⟨by simp, fun b o hb h => h.putObj hG hl hx (by omega)⟩
theorem Spares.grown {Bs B : Nat} {V V' : World} (hG : Ground Bs V) (hg : V.grownBy V' none) : Spares Bs B V V' := ⟨hg.size, fun b o _ h => h.grown hG hg (fun r e => by cases e) (by simp)⟩
/-- The depth of a fence without bound, and its round, ask for nothing. -/
theorem roundIn_any {n m l l' : Nat} {P : Program} {f : FuncId} {tmps : Array Value} {assign body : Code} {w : World} {R : Ending → World → Prop} (h : RoundIn Fence.wide n P l f tmps assign body w R) : RoundIn (Fence.wide.inRound l') m P l f tmps assign body w R :=
  ⟨trivial, fun c cs _ => h.2 c cs (room_wide _)⟩
theorem roundIn_deep {n m l : Nat} {P : Program} {f : FuncId} {tmps : Array Value} {assign body : Code} {w : World} {R : Ending → World → Prop} (h : RoundIn Fence.wide n P l f tmps assign body w R) : RoundIn Fence.wide m P l f tmps assign body w R :=
  ⟨trivial, fun c cs _ => h.2 c cs (room_wide _)⟩
/-- What an iterator of N rounds promises to a caller whose box is Bs: place after place comes, till all N have come or a round has said 'no more'. The rounds spare what is apart. -/
def Rounds (P : Program) (g : Nat) (lb : Array Value) (at_ : Nat → Array Value) (Kp : World → Prop) (N : Nat) (w : World) : Prop :=
  ∀ (l Bs : Nat) (J X : Nat → World → Prop) (W : World), Below w.heap.size w W → OwnFrom W.heap.size J → OwnFrom W.heap.size X → (∀ k V, J k V → Kp V ∧ Ground Bs V) → (∀ k V, X k V → Ground Bs V) →
    (∀ k V, k < N → J k V → YieldAt Fence.wide 5 P l (at_ k) V fun e V' => ((e = .returned (.bool true) ∧ J (k + 1) V') ∨ (e = .returned (.bool false) ∧ X k V')) ∧ Spares Bs W.heap.size V V') →
    J 0 W → Calls P g (#[.func (.yield l) #[] #[]] ++ lb) W fun e V => (∃ v, e = .returned v) ∧ (J N V ∨ ∃ k, k < N ∧ X k V)
/-- How the body of round k may end. -/
def roundsEnd (Bs B : Nat) (I : Nat → World → Prop) (X : Code → Nat → World → Prop) (k : Nat) (W : World) : Exit → Act → World → Prop
  | .normal, _, V => Spares Bs B W V ∧ I (k + 1) V
  | .ret, _, V => Spares Bs B W V ∧ X .ret k V
  | .exit id, _, V => Spares Bs B W V ∧ X (.exit id) k V
  | .goto t, _, V => Spares Bs B W V ∧ X (.goto t) k V
  | .panic _, _, _ => False
  | .outgrown, _, _ => False
variable {n : Nat} {P : Program}
/-- **The statement 'for x := range f', f an iterator of N rounds, for a caller whose box is Bs.** -/
theorem wpIn_rangeFunc_rounds {g : Operand} {ps : Array Tmp} {assign body : Code} {Q : Exit → Act → World → Prop} {a : Act} {w : World}
    {gf : Nat} {lb : Array Value} (hg : a.eval g = .func (.func gf) #[] lb) (eg : ∀ args V, (callFunc gf args).run P V = .ok (.enter gf args) V)
    {at_ : Nat → Array Value} {Kp : World → Prop} {N : Nat} {w0 : World} (hseq : Rounds P gf lb at_ Kp N w0) (hb0 : Below w0.heap.size w0 w) (hps : ∀ k, (at_ k).size = ps.size)
    (Bs : Nat) (I : Nat → World → Prop) (X : Code → Nat → World → Prop) (hI : OwnFrom w.heap.size I) (hX : ∀ c, OwnFrom w.heap.size (X c)) (hKp : ∀ k V, I k V → Kp V ∧ Ground Bs V) (hXg : ∀ c k V, X c k V → Ground Bs V) (h0 : I 0 w) (a₁ : Nat → Act)
    (hassign : ∀ (l k : Nat) (W : World) (K : Act → World → Prop), K (a₁ k) W →
      assign.wpIn (Fence.wide.inRound l) 5 P (Exit.then K (fun _ _ _ => False)) { tmps := (ps.zip (at_ k)).foldl (fun t (p, v) => t.setIfInBounds p v) a.tmps, defers := [] } W)
    (hbody : ∀ (l k : Nat) (W : World), k < N → I k W → body.wpIn (Fence.wide.inRound l) 5 P (roundsEnd Bs w.heap.size I X k W) (a₁ k) W)
    (hdone : ∀ (D : Nat) (W : World), w.heap.size ≤ D → I N W → Apart Bs D (.deferred (some [])) W → Q .normal { a with defers := { target := .collected D, args := #[] } :: a.defers } W)
    (hstop : ∀ (D k : Nat) (c : Code) (W : World), w.heap.size ≤ D → k < N → X c k W → Apart Bs D (.deferred (some [])) W → c.wpIn Fence.wide n P Q { a with defers := { target := .collected D, args := #[] } :: a.defers } W) :
    (Code.rangeFunc g ps assign body).wpIn Fence.wide n P Q a w := by
  refine wpIn_rangeFunc fun fn hfn => ?_
  rw [show Fence.wide.round = none from rfl]
  obtain ⟨rec, hrec⟩ : ∃ rec : LoopState → Option Code → Obj, rec = recordOf w fn a ps assign body := ⟨_, rfl⟩
  have recC : ∀ st pe, (rec st pe).isCells = false := fun _ _ => by rw [hrec]; rfl
  have hG0 := (hKp 0 w h0).2
  have held : Apart Bs (w.heap.size + 1) (rec .ready none) ((w.alloc (.deferred (some []))).alloc (rec .ready none)) := by
    have := Apart.new (hG0.alloc (.deferred (some []))) (rec .ready none)
    rwa [World.size_alloc] at this
  have heldD : Apart Bs w.heap.size (.deferred (some [])) ((w.alloc (.deferred (some []))).alloc (rec .ready none)) := (Apart.new hG0 _).alloc (hG0.alloc _) _
  have hI1 : I 0 ((w.alloc (.deferred (some []))).alloc (rec .ready none)) := hI.alloc _ (hI.alloc _ h0)
  have hb1 : Below w0.heap.size w0 ((w.alloc (.deferred (some []))).alloc (rec .ready none)) := hb0.trans ((((Below.refl _ w).alloc (Nat.le_refl _) _).alloc (by simp) _).mono hb0.size)
  have hsz : ((w.alloc (.deferred (some []))).alloc (rec .ready none)).heap.size = w.heap.size + 2 := by simp
  obtain ⟨W1, hW1⟩ : ∃ W1, (w.alloc (.deferred (some []))).alloc (rec .ready none) = W1 := ⟨_, rfl⟩
  rw [hW1] at held heldD hI1 hb1 hsz
  refine ⟨w.heap.size + 1, [{ target := .collected w.heap.size, args := #[] }], W1, { target := .fn (.func gf) lb, args := #[.func (.yield (w.heap.size + 1)) #[] #[]] }, W1, gf, #[.func (.yield (w.heap.size + 1)) #[] #[]] ++ lb, W1,
    by rw [← hW1, hrec]; exact run_enterLoop_outer _ _ _ _ _, by simp only [resolve, hg]; simp [go_sem], fun f' hf' => trivial, by simp [invoke, go_sem, eg], (fun h => by cases h), ?_⟩
  have low : ∀ {A : World} {row : Option Nat}, (∀ r, row = some r → W1.heap.size ≤ r ∧ ∃ o : Obj, A.heap[r]? = some o ∧ o.isCells = false) → (∀ r, row = some r → w.heap.size ≤ r ∧ ∃ o : Obj, A.heap[r]? = some o ∧ o.isCells = false) :=
    fun hr r e => by obtain ⟨hB, o, ho, hw⟩ := hr r e; exact ⟨by omega, o, ho, hw⟩
  refine callsIn_wide.2 ((hseq (w.heap.size + 1) Bs (fun k W => I k W ∧ Apart Bs (w.heap.size + 1) (rec .ready none) W ∧ Apart Bs w.heap.size (.deferred (some [])) W) (fun k W => ∃ c, X c k W ∧ Apart Bs (w.heap.size + 1) (rec .done (some c)) W ∧ Apart Bs w.heap.size (.deferred (some [])) W) W1 hb1
    (fun s A B row hs hg' hr => ⟨hI s A B row hs.1 hg' (low hr), hs.2.1.grown (hKp s A hs.1).2 hg' (fun r e => (hr r e).2) (fun e => by have := (hr _ e.symm).1; omega), hs.2.2.grown (hKp s A hs.1).2 hg' (fun r e => (hr r e).2) (fun e => by have := (hr _ e.symm).1; omega)⟩)
    (fun s A B row hs hg' hr => by obtain ⟨c, hc, h1, h2⟩ := hs; exact ⟨c, hX c s A B row hc hg' (low hr), h1.grown (hXg c s A hc) hg' (fun r e => (hr r e).2) (fun e => by have := (hr _ e.symm).1; omega), h2.grown (hXg c s A hc) hg' (fun r e => (hr r e).2) (fun e => by have := (hr _ e.symm).1; omega)⟩)
    (fun k V hj => hKp k V hj.1) (fun k V hj => by obtain ⟨c, hc, _⟩ := hj; exact hXg c k V hc) ?round ⟨hI1, held, heldD⟩).mono ?behind)
  case round =>
    rintro k W hk ⟨hi, hh, hhD⟩
    have hG := (hKp k W hi).2
    have hl : W.heap[w.heap.size + 1]? = some (.loop { state := .ready, pending := none, fn := fn, tmps := a.tmps, params := ps, assign := assign, body := body, defers := w.heap.size }) := by have := hh.1; rw [hrec] at this; exact this
    refine ⟨fn, _, assign, body, run_yield (P := P) (args := at_ k) hl (hps k), roundIn_of_wpIn hfn (hassign _ k W _ ⟨_, run_beginRound hl rfl, ?_⟩)⟩
    have busy : Apart Bs (w.heap.size + 1) (rec .busy none) (W.putObj (w.heap.size + 1) (rec .busy none)) := hh.turned hG (recC _ _)
    have busyD : Apart Bs w.heap.size (.deferred (some [])) (W.putObj (w.heap.size + 1) (rec .busy none)) := hhD.putObj hG hh.1 (recC _ _) (by omega)
    have hi2 : I k (W.putObj (w.heap.size + 1) (rec .busy none)) := hI.putObj _ hi (by omega) hl rfl
    have hS1 : Spares Bs W1.heap.size W (W.putObj (w.heap.size + 1) (rec .busy none)) := Spares.putObj hG hl rfl (by omega)
    have fin : ∀ (jump : Option Code) (V : World), Spares Bs w.heap.size (W.putObj (w.heap.size + 1) (rec .busy none)) V → Ground Bs V → ∃ r : Loop, V.heap[w.heap.size + 1]? = some (.loop r) ∧
        (Instr.endRound (w.heap.size + 1) jump).run P V = .ok (.bool jump.isNone) (V.putObj (w.heap.size + 1) (rec (if jump.isNone then .ready else .done) jump)) ∧
        Apart Bs (w.heap.size + 1) (rec (if jump.isNone then .ready else .done) jump) (V.putObj (w.heap.size + 1) (rec (if jump.isNone then .ready else .done) jump)) ∧
        Apart Bs w.heap.size (.deferred (some [])) (V.putObj (w.heap.size + 1) (rec (if jump.isNone then .ready else .done) jump)) ∧ Spares Bs W1.heap.size W (V.putObj (w.heap.size + 1) (rec (if jump.isNone then .ready else .done) jump)) := fun jump V hkV hGV => by
      have hv := hkV.2 _ _ (by omega) busy
      have hvD := hkV.2 _ _ (Nat.le_refl _) busyD
      have hv1 := hv.1
      have t1 := hv.turned (o' := rec (if jump.isNone then .ready else .done) jump) hGV (recC _ _)
      have t2 := hvD.putObj (o' := rec (if jump.isNone then .ready else .done) jump) hGV hv1 (recC _ _) (by omega)
      have t3 : Spares Bs W1.heap.size W (V.putObj (w.heap.size + 1) (rec (if jump.isNone then .ready else .done) jump)) := (hS1.trans (hkV.mono (by omega))).trans (Spares.putObj hGV hv1 (recC _ _) (by omega))
      rw [hrec] at hv1
      have hr := run_endRound (P := P) jump hv1
      refine ⟨_, hv1, ?_, t1, t2, t3⟩
      rw [hrec]; exact hr
    rw [hrec] at hi2
    refine wpIn_mono (hbody _ k _ hk hi2) ?_
    rintro e a3 V hp
    replace hp : roundsEnd Bs w.heap.size I X k (W.putObj (w.heap.size + 1) (rec .busy none)) e a3 V := by rw [hrec]; exact hp
    have stop : ∀ c : Code, Spares Bs w.heap.size (W.putObj (w.heap.size + 1) (rec .busy none)) V ∧ X c k V →
        ∃ v V', (Instr.endRound (w.heap.size + 1) (some c)).run P V = .ok v V' ∧ (((Ending.returned v = .returned (.bool true) ∧ (I (k + 1) V' ∧ Apart Bs (w.heap.size + 1) (rec .ready none) V' ∧ Apart Bs w.heap.size (.deferred (some [])) V')) ∨ (Ending.returned v = .returned (.bool false) ∧ ∃ c, X c k V' ∧ Apart Bs (w.heap.size + 1) (rec .done (some c)) V' ∧ Apart Bs w.heap.size (.deferred (some [])) V')) ∧ Spares Bs W1.heap.size W V') := fun c hc => by
      obtain ⟨r, hl3, hr, t1, t2, t3⟩ := fin (some c) V hc.1 (hXg c k V hc.2)
      exact ⟨_, _, hr, .inr ⟨rfl, c, (hX c).putObj _ hc.2 (by omega) hl3 rfl, t1, t2⟩, t3⟩
    cases e with
    | normal =>
      obtain ⟨hk3, hi3⟩ := hp
      obtain ⟨r, hl3, hr, t1, t2, t3⟩ := fin none V hk3 (hKp _ V hi3).2
      exact ⟨_, _, hr, .inl ⟨rfl, hI.putObj _ hi3 (by omega) hl3 rfl, t1, t2⟩, t3⟩
    | ret => exact stop _ hp
    | exit id => exact stop _ hp
    | goto t => exact stop _ hp
    | panic ch => exact hp.elim
    | outgrown => exact hp.elim
  case behind =>
    rintro e V ⟨⟨v, rfl⟩, (⟨hi, hh, hhD⟩ | ⟨k, hk, c, hc, hh, hhD⟩)⟩
    · have hl := hh.1
      rw [hrec] at hl
      exact ⟨none, _, run_endLoop (P := P) hl (by simp), hdone _ _ (Nat.le_refl _) (hI.putObj _ hi (by omega) hl rfl) (hhD.putObj (hKp _ V hi).2 hl rfl (by omega))⟩
    · have hl := hh.1
      rw [hrec] at hl
      exact ⟨some c, _, run_endLoop (P := P) hl (by simp), hstop _ k c _ (Nat.le_refl _) hk ((hX c).putObj _ hc (by omega) hl rfl) (hhD.putObj (hXg c k V hc) hl rfl (by omega))⟩
/-- A function leaves over marks: each block of theirs is shut. -/
theorem leaves_marks {fn : Func} {tmps : Array Value} {R : Ending → World → Prop} (T : World → Prop) (hT : ∀ V, T V → ∃ v, (results fn tmps).run P V = .ok v V ∧ R (.returned v) V) :
    ∀ (ds : List Nat) (V : World), (∀ D ∈ ds, ∀ V, T V → V.heap[D]? = some (.deferred (some [])) → T (V.putObj D (.deferred none))) → ds.Nodup → (∀ D ∈ ds, V.heap[D]? = some (.deferred (some []))) → T V →
      LeavesInM Fence.wide n P fn tmps R (ds.map fun D => { target := .collected D, args := #[] }) .returning V
  | [], V, _, _, _, h => hT V h
  | D :: ds, V, hp, hn, hd, h => by
    have hD := hd D (List.mem_cons_self ..)
    refine ⟨by simp, .inl ⟨_, _, rfl, run_takeDeferred hD, ?_⟩⟩
    refine leaves_marks T hT ds _ (fun D' h' => hp D' (List.mem_cons_of_mem _ h')) (List.nodup_cons.1 hn).2 (fun D' h' => ?_) (hp D (List.mem_cons_self ..) V h hD)
    have hne : D' ≠ D := fun e => (List.nodup_cons.1 hn).1 (e ▸ h')
    exact (World.putObj_heap_other hne).trans (hd D' (List.mem_cons_of_mem _ h'))
/-- Blocks that lie apart. -/
def Lies (Bs : Nat) (L : List (Nat × Obj)) (V : World) : Prop := ∀ x ∈ L, Apart Bs x.1 x.2 V
theorem Lies.grown {Bs : Nat} {L : List (Nat × Obj)} {V V' : World} {row : Option Nat} (h : Lies Bs L V) (hG : Ground Bs V) (hg : V.grownBy V' row) (hr : ∀ r, row = some r → ∃ o : Obj, V.heap[r]? = some o ∧ o.isCells = false) (hne : ∀ x ∈ L, some x.1 ≠ row) : Lies Bs L V' :=
  fun x hx => (h x hx).grown hG hg hr (hne x hx)
theorem Lies.still {Bs : Nat} {L : List (Nat × Obj)} {V V' : World} (h : Lies Bs L V) (hG : Ground Bs V) (hg : V.grownBy V' none) : Lies Bs L V' := h.grown hG hg (fun r e => by cases e) (fun x _ => by simp)
theorem Lies.spared {Bs B : Nat} {L : List (Nat × Obj)} {V V' : World} (h : Lies Bs L V) (hs : Spares Bs B V V') (hB : ∀ x ∈ L, B ≤ x.1) : Lies Bs L V' := fun x hx => hs.2 _ _ (hB x hx) (h x hx)
theorem Lies.cons {Bs b : Nat} {o : Obj} {L : List (Nat × Obj)} {V : World} (h : Lies Bs L V) (ha : Apart Bs b o V) : Lies Bs ((b, o) :: L) V := fun x hx => by
  rcases List.mem_cons.1 hx with rfl | hx
  · exact ha
  · exact h x hx
theorem own_still {B : Nat} {J : Nat → World → Prop} (h : OwnFrom B J) {k : Nat} {V V' : World} (hj : J k V) (hg : V.grownBy V' none) : J k V' := h k V V' none hj hg (fun r e => by cases e)
theorem own_later {B B' : Nat} {J : Nat → World → Prop} (h : OwnFrom B J) (hB : B ≤ B') : OwnFrom B' J := fun s A V row hs hg hr => h s A V row hs hg (fun r e => ⟨Nat.le_trans hB (hr r e).1, (hr r e).2⟩)
/-- A box that has just been laid and written. -/
theorem boxed_grown (V : World) (t : TypeId) (u v : Value) : V.grownBy ((V.alloc (.cells #[u] t)).setCell ⟨V.heap.size, 0, none⟩ v) none := by
  have h1 := World.grownBy_alloc V (.cells #[u] t) none
  have h2 := grownBy_setCell' (V.alloc (.cells #[u] t)) V.heap.size v
  refine ⟨h2.os.trans h1.os, h2.tape.trans h1.tape, h2.output.trans h1.output, Nat.le_trans h1.size h2.size, fun k hk _ => (h2.block k (by simp; omega) (fun e => ?_)).trans (h1.block k hk (by simp))⟩
  injection e with e
  omega
theorem Apart.boxed {Bs : Nat} {V : World} (hG : Ground Bs V) (t : TypeId) (u v : Value) : Apart Bs V.heap.size (.cells #[v] t (0, 0)) ((V.alloc (.cells #[u] t)).setCell ⟨V.heap.size, 0, none⟩ v) := by
  obtain ⟨w, hw, hb⟩ := hG
  have hlt := (Ground.lt ⟨w, hw, hb⟩ : Bs < V.heap.size)
  refine ⟨(Boxed.new V t u).set v, by omega, fun x hx e => ?_⟩
  rw [cell_kept hw (boxed_grown V t u v) (fun r e => by cases e)] at hx
  cases hx
  have := hb _ e
  omega
theorem grown_drewN (V : World) (n : Nat) : V.grownBy (V.drewN n) none := ⟨rfl, rfl, rfl, Nat.le_refl _, fun _ _ _ => rfl⟩
theorem grown_drew (V : World) : V.grownBy V.drew none := ⟨rfl, rfl, rfl, Nat.le_refl _, fun _ _ _ => rfl⟩
end Go.Proofs.Ytlmlcbhllodncaa
