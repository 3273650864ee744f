/- Contracts and laws that the statement's proof stands on, one text behind the other. -/
import Derived.KernelRfl
import Derived.Test.YtigcomhhgfgmgaaProg
import Derived.WalkKit
import Derived.Lib.Hide
import Derived.WalkSpells
import Derived.WalkLawsBesides
import Derived.Deep.QuietTactic
import Derived.BigQuiet
import Derived.IntWalk
import Derived.Orders
import Derived.Great.Frames
import Derived.Laws.IdiomStrings
import Derived.Shelf.Abstract
import Derived.Deep.Cut
import Derived.Deep.DeepCutAuto
import Derived.Deep.AppendLies
import Derived.Deep.RegionLawGrows
import Derived.Maps.AppendAt
import Derived.Laws.OwnMore
import Derived.OneCell
import Derived.RangeFuncNested
import Derived.RangeFuncBound
import Derived.RangeFuncCalls
import Derived.RangeFuncLeaves
import Derived.Sort.QuietIn
import Derived.Deep.RegionHeld3
import Derived.Laws.MakeOwn
import Derived.ProofKit
import Derived.OpenShut
import Derived.Below
import Derived.Lib.SmallJoins
import Derived.Deep.Slices
import Derived.Deep.Fields
import Derived.Deep.Strs

namespace Go.Proofs.Ytigcomhhgfgmgaa
/-- A number of a pair. -/
def numB (n : Int) : Bool := decide (-4 ≤ n ∧ n ≤ 4)
/-- Both numbers of a pair. -/
def pairB (p q : Int) : Bool := numB p && numB q
/-- A place of a row. -/
def placeB (k : Int) : Bool := decide (0 ≤ k ∧ k ≤ 20)
theorem numB_true {n : Int} (h : numB n = true) : -4 ≤ n ∧ n ≤ 4 := by simpa [numB] using h
theorem numB_false {n : Int} (h : numB n = false) : n < -4 ∨ 4 < n := by
  have h' : ¬ (-4 ≤ n ∧ n ≤ 4) := by simpa [numB] using h
  omega
theorem numB_mk {n : Int} (h1 : -4 ≤ n) (h2 : n ≤ 4) : numB n = true := by simp [numB, h1, h2]
theorem numB_no {n : Int} (h : n < -4 ∨ 4 < n) : numB n = false := by
  have h' : ¬ (-4 ≤ n ∧ n ≤ 4) := by omega
  simp only [numB, h', decide_false]
theorem placeB_true {n : Int} (h : placeB n = true) : 0 ≤ n ∧ n ≤ 20 := by simpa [placeB] using h
theorem placeB_false {n : Int} (h : placeB n = false) : n < 0 ∨ 20 < n := by
  have h' : ¬ (0 ≤ n ∧ n ≤ 20) := by simpa [placeB] using h
  omega
theorem placeB_mk {n : Int} (h1 : 0 ≤ n) (h2 : n ≤ 20) : placeB n = true := by simp [placeB, h1, h2]
theorem placeB_no {n : Int} (h : n < 0 ∨ 20 < n) : placeB n = false := by
  have h' : ¬ (0 ≤ n ∧ n ≤ 20) := by omega
  simp only [placeB, h', decide_false]
theorem pairB_true {p q : Int} (h : pairB p q = true) : (-4 ≤ p ∧ p ≤ 4) ∧ (-4 ≤ q ∧ q ≤ 4) := by
  have h' : numB p = true ∧ numB q = true := by simpa [pairB] using h
  exact ⟨numB_true h'.1, numB_true h'.2⟩
theorem pairB_mk {p q : Int} (h1 : -4 ≤ p) (h2 : p ≤ 4) (h3 : -4 ≤ q) (h4 : q ≤ 4) : pairB p q = true := by simp [pairB, numB_mk, h1, h2, h3, h4]
/-- The numbers of a row that begins with a and b. -/
def row (p q a b : Int) : Nat → Int
  | 0 => a
  | 1 => b
  | n + 2 => p * row p q a b (n + 1) - q * row p q a b n
theorem row_step (p q a b : Int) (n : Nat) : row p q a b (n + 2) = p * row p q a b (n + 1) - q * row p q a b n := rfl
/-- The product of two bounded numbers. -/
theorem mul_bd {a b x y : Int} (h1 : -a ≤ x) (h2 : x ≤ a) (h3 : -b ≤ y) (h4 : y ≤ b) : -(a * b) ≤ x * y ∧ x * y ≤ a * b := by
  have ha : 0 ≤ a := by omega
  have hb : 0 ≤ b := by omega
  have hx : x.natAbs ≤ a.natAbs := by omega
  have hy : y.natAbs ≤ b.natAbs := by omega
  have h : (x * y).natAbs ≤ (a * b).natAbs := by rw [Int.natAbs_mul, Int.natAbs_mul]; exact Nat.mul_le_mul hx hy
  have hab : 0 ≤ a * b := Int.mul_nonneg ha hb
  omega
/-- How great the numbers of a row may be. -/
def cap (c : Int) : Nat → Int
  | 0 => c
  | n + 1 => 5 * cap c n
theorem cap_nonneg {c : Int} (h : 0 ≤ c) : ∀ n, 0 ≤ cap c n
  | 0 => h
  | n + 1 => by have := cap_nonneg h n; simp only [cap]; omega
theorem row_bd {p q a b : Int} (hp : -4 ≤ p) (hp' : p ≤ 4) (hq : -4 ≤ q) (hq' : q ≤ 4) {c : Int} (hc : 0 ≤ c) (ha : -c ≤ a) (ha' : a ≤ c) (hb : -(5 * c) ≤ b) (hb' : b ≤ 5 * c) :
    ∀ n, (-(cap c n) ≤ row p q a b n ∧ row p q a b n ≤ cap c n) ∧ (-(cap c (n + 1)) ≤ row p q a b (n + 1) ∧ row p q a b (n + 1) ≤ cap c (n + 1))
  | 0 => ⟨⟨ha, ha'⟩, hb, hb'⟩
  | n + 1 => by
    obtain ⟨⟨h1, h2⟩, h3, h4⟩ := row_bd hp hp' hq hq' hc ha ha' hb hb' n
    refine ⟨⟨h3, h4⟩, ?_⟩
    have e := row_step p q a b n
    have m1 := mul_bd (a := 4) hp hp' h3 h4
    have m2 := mul_bd (a := 4) hq hq' h1 h2
    have hn := cap_nonneg hc n
    have e2 : cap c (n + 1 + 1) = 5 * cap c (n + 1) := rfl
    have e1 : cap c (n + 1) = 5 * cap c n := rfl
    rw [e]
    omega
end Go.Proofs.Ytigcomhhgfgmgaa
namespace Go.Proofs.Ytigcomhhgfgmgaa
open Go.RowKit
theorem ret_bool {a b : Bool} (h : a = b) : Ending.returned (.bool a) = .returned (.bool b) := by rw [h]
theorem ret_int {k : IntKind} {a b : Int} (h : a = b) : Ending.returned (.int k a) = .returned (.int k b) := by rw [h]
/-- A pair as a value. -/
abbrev pr (p q : Int) : Value := .agg #[.int .i64 p, .int .i64 q]
set_option maxHeartbeats 400000 in
theorem numberOk_any (n : Int) (w : World) :
    Calls Try.prog 43 #[.int .i64 n] w fun e w' => e = .returned (.bool (numB n)) ∧ w = w' := by
  by_cases h1 : -4 ≤ n
  · by_cases h2 : n ≤ 4
    · have H := Lib.hid (numB_mk h1 h2)
      go_enter Try.func43, Try.ntmps43
      go_wp2
      go_ret
      exact ⟨ret_bool H.out.symm, rfl⟩
    · have H := Lib.hid (numB_no (n := n) (by omega))
      have h2' : 4 < n := by omega
      go_enter Try.func43, Try.ntmps43
      go_wp2
      go_ret
      exact ⟨ret_bool H.out.symm, rfl⟩
  · have H := Lib.hid (numB_no (n := n) (by omega))
    have h1' : n < -4 := by omega
    go_enter Try.func43, Try.ntmps43
    go_wp2
    go_ret
    exact ⟨ret_bool H.out.symm, rfl⟩
/-- Whether a number is within two others. -/
def inB (n a b : Int) : Bool := decide (a ≤ n ∧ n ≤ b)
theorem inB_mk {n a b : Int} (h1 : a ≤ n) (h2 : n ≤ b) : inB n a b = true := by simp [inB, h1, h2]
theorem inB_no {n a b : Int} (h : n < a ∨ b < n) : inB n a b = false := by
  have h' : ¬ (a ≤ n ∧ n ≤ b) := by omega
  simp only [inB, h', decide_false]
theorem inB_true {n a b : Int} (h : inB n a b = true) : a ≤ n ∧ n ≤ b := by simpa [inB] using h
theorem inB_false {n a b : Int} (h : inB n a b = false) : n < a ∨ b < n := by
  have h' : ¬ (a ≤ n ∧ n ≤ b) := by simpa [inB] using h
  omega
theorem inB_num (n : Int) : inB n (-4) 4 = numB n := rfl
theorem inB_place (n : Int) : inB n 0 20 = placeB n := rfl
set_option maxHeartbeats 400000 in
theorem l1In_any (n a b : Int) (w : World) :
    Calls Try.prog 62 #[.int .i64 n, .int .i64 a, .int .i64 b] w fun e w' => e = .returned (.bool (inB n a b)) ∧ w = w' := by
  by_cases h1 : a ≤ n
  · by_cases h2 : n ≤ b
    · have H := Lib.hid (inB_mk h1 h2)
      go_enter Try.func62, Try.ntmps62
      go_wp2
      go_ret
      exact ⟨ret_bool H.out.symm, rfl⟩
    · have H := Lib.hid (inB_no (n := n) (a := a) (b := b) (by omega))
      have h2' : b < n := by omega
      go_enter Try.func62, Try.ntmps62
      go_wp2
      go_ret
      exact ⟨ret_bool H.out.symm, rfl⟩
  · have H := Lib.hid (inB_no (n := n) (a := a) (b := b) (by omega))
    have h1' : n < a := by omega
    go_enter Try.func62, Try.ntmps62
    go_wp2
    go_ret
    exact ⟨ret_bool H.out.symm, rfl⟩
set_option maxHeartbeats 400000 in
theorem implPairOk_any (p q : Int) (w : World) :
    Calls Try.prog 20 #[pr p q] w fun e w' => e = .returned (.bool (pairB p q)) ∧ Below w.heap.size w w' := by
  by_cases h1 : numB p = true
  · by_cases h2 : numB q = true
    · have H := Lib.hid (show pairB p q = true by simp [pairB, h1, h2])
      go_enter Try.func20, Try.ntmps20
      go_wp2_with (go_at_call 43; refine (numberOk_any _ _).mono ?_; rintro e w' ⟨rfl, rfl⟩)
      go_ret
      exact ⟨ret_bool H.out.symm, (Below.refl _ _).alloc (Nat.le_refl _) _⟩
    · have h2' : numB q = false := by simpa using h2
      have H := Lib.hid (show pairB p q = false by simp [pairB, h2'])
      clear h2
      go_enter Try.func20, Try.ntmps20
      go_wp2_with (go_at_call 43; refine (numberOk_any _ _).mono ?_; rintro e w' ⟨rfl, rfl⟩)
      go_ret
      exact ⟨ret_bool H.out.symm, (Below.refl _ _).alloc (Nat.le_refl _) _⟩
  · have h1' : numB p = false := by simpa using h1
    have H := Lib.hid (show pairB p q = false by simp [pairB, h1'])
    clear h1
    go_enter Try.func20, Try.ntmps20
    go_wp2_with (go_at_call 43; refine (numberOk_any _ _).mono ?_; rintro e w' ⟨rfl, rfl⟩)
    go_ret
    exact ⟨ret_bool H.out.symm, (Below.refl _ _).alloc (Nat.le_refl _) _⟩
set_option maxHeartbeats 400000 in
theorem l1In_num (n : Int) (w : World) : Calls Try.prog 62 #[.int .i64 n, .int .i64 (-4), .int .i64 4] w fun e w' => e = .returned (.bool (numB n)) ∧ w = w' := l1In_any n (-4) 4 w
set_option maxHeartbeats 400000 in
theorem l1In_place (n : Int) (w : World) : Calls Try.prog 62 #[.int .i64 n, .int .i64 0, .int .i64 20] w fun e w' => e = .returned (.bool (placeB n)) ∧ w = w' := l1In_any n 0 20 w
set_option maxHeartbeats 400000 in
theorem specPairOk_any (p q : Int) (w : World) :
    Calls Try.prog 41 #[pr p q] w fun e w' => e = .returned (.bool (pairB p q)) ∧ Below w.heap.size w w' := by
  by_cases h1 : numB p = true
  · by_cases h2 : numB q = true
    · have H := Lib.hid (show pairB p q = true by simp [pairB, h1, h2])
      go_enter Try.func41, Try.ntmps41
      go_wp2_with (go_at_call 62; refine (l1In_num _ _).mono ?_; rintro e w' ⟨rfl, rfl⟩)
      go_ret
      exact ⟨ret_bool H.out.symm, (Below.refl _ _).alloc (Nat.le_refl _) _⟩
    · have h2' : numB q = false := by simpa using h2
      have H := Lib.hid (show pairB p q = false by simp [pairB, h2'])
      clear h2
      go_enter Try.func41, Try.ntmps41
      go_wp2_with (go_at_call 62; refine (l1In_num _ _).mono ?_; rintro e w' ⟨rfl, rfl⟩)
      go_ret
      exact ⟨ret_bool H.out.symm, (Below.refl _ _).alloc (Nat.le_refl _) _⟩
  · have h1' : numB p = false := by simpa using h1
    have H := Lib.hid (show pairB p q = false by simp [pairB, h1'])
    clear h1
    go_enter Try.func41, Try.ntmps41
    go_wp2_with (go_at_call 62; refine (l1In_num _ _).mono ?_; rintro e w' ⟨rfl, rfl⟩)
    go_ret
    exact ⟨ret_bool H.out.symm, (Below.refl _ _).alloc (Nat.le_refl _) _⟩
end Go.Proofs.Ytigcomhhgfgmgaa
namespace Go.Proofs.Ytigcomhhgfgmgaa
open Go.RowKit
theorem bcell {W w1 : World} (hb : Below W.heap.size W w1) : (∀ b o, b < W.heap.size → w1.cell? ⟨b, o, none⟩ = W.cell? ⟨b, o, none⟩) ∧ (∀ b o, b < W.heap.size → w1.frozen? ⟨b, o, none⟩ = W.frozen? ⟨b, o, none⟩) :=
  ⟨fun b o h => hb.cell (p := ⟨b, o, none⟩) h, fun b o h => hb.frozen (p := ⟨b, o, none⟩) h⟩
theorem implPairOk_yes (p q : Int) (w : World) (h : pairB p q = true) : Calls Try.prog 20 #[pr p q] w fun e w' => e = .returned (.bool true) ∧ Below w.heap.size w w' := by rw [← h]; exact implPairOk_any p q w
theorem implPairOk_no (p q : Int) (w : World) (h : pairB p q = false) : Calls Try.prog 20 #[pr p q] w fun e w' => e = .returned (.bool false) ∧ Below w.heap.size w w' := by rw [← h]; exact implPairOk_any p q w
theorem specPairOk_yes (p q : Int) (w : World) (h : pairB p q = true) : Calls Try.prog 41 #[pr p q] w fun e w' => e = .returned (.bool true) ∧ Below w.heap.size w w' := by rw [← h]; exact specPairOk_any p q w
theorem specPairOk_no (p q : Int) (w : World) (h : pairB p q = false) : Calls Try.prog 41 #[pr p q] w fun e w' => e = .returned (.bool false) ∧ Below w.heap.size w w' := by rw [← h]; exact specPairOk_any p q w
/-- The weight of a pair, 0 for others. -/
def weightV (p q : Int) : Int := if pairB p q = true then p * p - 4 * q else 0
/-- P of the turned pair, 0 for others; and Q. -/
def turnP (p q : Int) : Int := if pairB p q = true then -p else 0
def turnQ (p q : Int) : Int := if pairB p q = true then q else 0
theorem ret_int_bool {k : IntKind} {a b : Int} {c d : Bool} (h : a = b) (h' : c = d) : Ending.returned (.tuple #[.int k a, .bool c]) = .returned (.tuple #[.int k b, .bool d]) := by rw [h, h']
theorem ret_pr {a b c d : Int} (h : a = c) (h' : b = d) : Ending.returned (pr a b) = .returned (pr c d) := by rw [h, h']
set_option maxHeartbeats 400000 in
theorem implWeight_any (p q : Int) (w : World) :
    Calls Try.prog 24 #[pr p q] w fun e w' => e = .returned (.tuple #[.int .i64 (weightV p q), .bool (pairB p q)]) ∧ Below w.heap.size w w' := by
  by_cases h : pairB p q = true
  · obtain ⟨⟨h1, h2⟩, h3, h4⟩ := pairB_true h
    obtain ⟨m1, m2⟩ := mul_bd h1 h2 h1 h2
    have H := Lib.hid h
    have HV := Lib.hid (show weightV p q = p * p - 4 * q by rw [weightV, if_pos h])
    clear h
    go_enter Try.func24, Try.ntmps24
    go_wp2_with (go_at_call 20; refine (implPairOk_yes _ _ _ H.out).mono ?_; rintro e w1 ⟨rfl, hb1⟩; obtain ⟨hc1, hf1⟩ := bcell hb1; have hz1 := hb1.size; try simp only [World.size_alloc] at hz1)
    go_ret2
    exact ⟨ret_int_bool HV.out.symm H.out.symm, ((Below.refl _ _).alloc (Nat.le_refl _) _).trans (hb1.mono (by simp))⟩
  · have h' : pairB p q = false := by simpa using h
    have H := Lib.hid h'
    have HV := Lib.hid (show weightV p q = 0 by rw [weightV, if_neg h])
    clear h h'
    go_enter Try.func24, Try.ntmps24
    go_wp2_with (go_at_call 20; refine (implPairOk_no _ _ _ H.out).mono ?_; rintro e w1 ⟨rfl, hb1⟩; obtain ⟨hc1, hf1⟩ := bcell hb1; have hz1 := hb1.size; try simp only [World.size_alloc] at hz1)
    go_ret2
    exact ⟨ret_int_bool HV.out.symm H.out.symm, ((Below.refl _ _).alloc (Nat.le_refl _) _).trans (hb1.mono (by simp))⟩
set_option maxHeartbeats 400000 in
theorem implTurned_any (p q : Int) (w : World) :
    Calls Try.prog 64 #[pr p q] w fun e w' => e = .returned (pr (turnP p q) (turnQ p q)) ∧ Below w.heap.size w w' := by
  by_cases h : pairB p q = true
  · obtain ⟨⟨h1, h2⟩, h3, h4⟩ := pairB_true h
    have H := Lib.hid h
    have HP := Lib.hid (show turnP p q = -p by rw [turnP, if_pos h])
    have HQ := Lib.hid (show turnQ p q = q by rw [turnQ, if_pos h])
    clear h
    go_enter Try.func64, Try.ntmps64
    go_wp2_with (go_at_call 20; refine (implPairOk_yes _ _ _ H.out).mono ?_; rintro e w1 ⟨rfl, hb1⟩; obtain ⟨hc1, hf1⟩ := bcell hb1; have hz1 := hb1.size; try simp only [World.size_alloc] at hz1)
    refine bodyPost_ret (v := pr (-p) q) (by simp [results, Try.results64, go_sem, hc1]) rfl ⟨ret_pr HP.out.symm HQ.out.symm, ?_⟩
    (repeat (first | exact Below.refl _ _ | refine Below.setCell ?_ (by first | omega | (simp <;> omega)) _ | refine Below.alloc ?_ (by first | omega | (simp <;> omega)) _ | refine Below.drew ?_ | refine Below.trans ?_ (Below.mono (by assumption) (by first | omega | (simp <;> omega))) | refine Below.grown ?_ (by assumption) (by first | omega | (simp <;> omega)) (fun k e => by cases e; first | omega | (simp <;> omega))))
  · have h' : pairB p q = false := by simpa using h
    have H := Lib.hid h'
    have HP := Lib.hid (show turnP p q = 0 by rw [turnP, if_neg h])
    have HQ := Lib.hid (show turnQ p q = 0 by rw [turnQ, if_neg h])
    clear h h'
    go_enter Try.func64, Try.ntmps64
    go_wp2_with (go_at_call 20; refine (implPairOk_no _ _ _ H.out).mono ?_; rintro e w1 ⟨rfl, hb1⟩; obtain ⟨hc1, hf1⟩ := bcell hb1; have hz1 := hb1.size; try simp only [World.size_alloc] at hz1)
    refine bodyPost_ret (v := pr 0 0) (by simp [results, Try.results64, go_sem, hc1]) rfl ⟨ret_pr HP.out.symm HQ.out.symm, ?_⟩
    (repeat (first | exact Below.refl _ _ | refine Below.setCell ?_ (by first | omega | (simp <;> omega)) _ | refine Below.alloc ?_ (by first | omega | (simp <;> omega)) _ | refine Below.drew ?_ | refine Below.trans ?_ (Below.mono (by assumption) (by first | omega | (simp <;> omega))) | refine Below.grown ?_ (by assumption) (by first | omega | (simp <;> omega)) (fun k e => by cases e; first | omega | (simp <;> omega))))
set_option maxHeartbeats 400000 in
theorem specTurned_any (p q : Int) (w : World) :
    Calls Try.prog 65 #[pr p q] w fun e w' => e = .returned (pr (turnP p q) (turnQ p q)) ∧ Below w.heap.size w w' := by
  by_cases h : pairB p q = true
  · obtain ⟨⟨h1, h2⟩, h3, h4⟩ := pairB_true h
    have H := Lib.hid h
    have HP := Lib.hid (show turnP p q = -p by rw [turnP, if_pos h])
    have HQ := Lib.hid (show turnQ p q = q by rw [turnQ, if_pos h])
    clear h
    go_enter Try.func65, Try.ntmps65
    go_wp2_with (go_at_call 41; refine (specPairOk_yes _ _ _ H.out).mono ?_; rintro e w1 ⟨rfl, hb1⟩; obtain ⟨hc1, hf1⟩ := bcell hb1; have hz1 := hb1.size; try simp only [World.size_alloc] at hz1)
    refine bodyPost_ret (v := pr (-p) q) (by simp [results, Try.results65, go_sem, hc1]) rfl ⟨ret_pr HP.out.symm HQ.out.symm, ?_⟩
    (repeat (first | exact Below.refl _ _ | refine Below.setCell ?_ (by first | omega | (simp <;> omega)) _ | refine Below.alloc ?_ (by first | omega | (simp <;> omega)) _ | refine Below.drew ?_ | refine Below.trans ?_ (Below.mono (by assumption) (by first | omega | (simp <;> omega))) | refine Below.grown ?_ (by assumption) (by first | omega | (simp <;> omega)) (fun k e => by cases e; first | omega | (simp <;> omega))))
  · have h' : pairB p q = false := by simpa using h
    have H := Lib.hid h'
    have HP := Lib.hid (show turnP p q = 0 by rw [turnP, if_neg h])
    have HQ := Lib.hid (show turnQ p q = 0 by rw [turnQ, if_neg h])
    clear h h'
    go_enter Try.func65, Try.ntmps65
    go_wp2_with (go_at_call 41; refine (specPairOk_no _ _ _ H.out).mono ?_; rintro e w1 ⟨rfl, hb1⟩; obtain ⟨hc1, hf1⟩ := bcell hb1; have hz1 := hb1.size; try simp only [World.size_alloc] at hz1)
    refine bodyPost_ret (v := pr 0 0) (by simp [results, Try.results65, go_sem, hc1]) rfl ⟨ret_pr HP.out.symm HQ.out.symm, ?_⟩
    (repeat (first | exact Below.refl _ _ | refine Below.setCell ?_ (by first | omega | (simp <;> omega)) _ | refine Below.alloc ?_ (by first | omega | (simp <;> omega)) _ | refine Below.drew ?_ | refine Below.trans ?_ (Below.mono (by assumption) (by first | omega | (simp <;> omega))) | refine Below.grown ?_ (by assumption) (by first | omega | (simp <;> omega)) (fun k e => by cases e; first | omega | (simp <;> omega))))
set_option maxHeartbeats 400000 in
theorem toPair_any (p q : Int) (w : World) :
    Calls Try.prog 31 #[pr p q] w fun e w' => e = .returned (pr p q) ∧ Below w.heap.size w w' := by
  go_enter Try.func31, Try.ntmps31
  go_wp2
  refine bodyPost_ret (v := pr p q) (by simp [results, Try.results31, go_sem]) rfl ⟨rfl, ?_⟩
  (repeat (first | exact Below.refl _ _ | refine Below.setCell ?_ (by first | omega | (simp <;> omega)) _ | refine Below.alloc ?_ (by first | omega | (simp <;> omega)) _ | refine Below.drew ?_ | refine Below.trans ?_ (Below.mono (by assumption) (by first | omega | (simp <;> omega))) | refine Below.grown ?_ (by assumption) (by first | omega | (simp <;> omega)) (fun k e => by cases e; first | omega | (simp <;> omega))))
end Go.Proofs.Ytigcomhhgfgmgaa
namespace Go.Proofs.Ytigcomhhgfgmgaa
open Go.RowKit
theorem cells_of_cell' {W : World} {a : Addr} {v : Value} (h : W.cell? a = some v) : ∃ o : Obj, W.heap[a.block]? = some o ∧ True := by
  unfold World.cell? at h
  cases ho : W.heap[a.block]? with
  | none => simp [ho] at h
  | some o => exact ⟨o, rfl, trivial⟩
/-- Block R is a reader that has been asked at most k times. -/
def Rd (w : World) (R : Nat) (k : Nat) : Prop :=
  ∃ (a : Option Addr) (len cap p : Nat), w.cell? ⟨R, 0, none⟩ = some (.slice a len cap) ∧ w.cell? ⟨R, 1, none⟩ = some (.int .i64 p) ∧ w.frozen? ⟨R, 1, none⟩ = false ∧ p ≤ k ∧ len ≤ 2000 ∧
    (len = 0 ∨ ∃ b off, a = some ⟨b, off, none⟩ ∧ b < R ∧ ∀ i, i < len → ∃ x : Int, 0 ≤ x ∧ x ≤ 255 ∧ w.cell? ⟨b, off + i, none⟩ = some (.int .u8 x))
theorem Rd.mono {w : World} {R k k' : Nat} (h : Rd w R k) (hk : k ≤ k') : Rd w R k' := by
  obtain ⟨a, len, cap, p, h0, h1, hf, hp, hl, hs⟩ := h
  exact ⟨a, len, cap, p, h0, h1, hf, by omega, hl, hs⟩
theorem Rd.lt {w : World} {R k : Nat} (h : Rd w R k) : R < w.heap.size := by
  obtain ⟨a, len, cap, p, h0, _⟩ := h
  obtain ⟨o, ho, _⟩ := cells_of_cell' h0
  exact (Array.getElem?_eq_some_iff.1 ho).1
/-- A reader lies on where its block and the code's block do. -/
theorem Rd.below {w w' : World} {R k B : Nat} (h : Rd w R k) (hb : Below B w w') (hB : w.heap.size ≤ B) : Rd w' R k := by
  have hlt := h.lt
  obtain ⟨a, len, cap, p, h0, h1, hf, hp, hl, hs⟩ := h
  refine ⟨a, len, cap, p, (hb.cell (p := ⟨R, 0, none⟩) (by show R < B; omega)).trans h0, (hb.cell (p := ⟨R, 1, none⟩) (by show R < B; omega)).trans h1, (hb.frozen (p := ⟨R, 1, none⟩) (by show R < B; omega)).trans hf, hp, hl, ?_⟩
  rcases hs with hs | ⟨b, off, ha, hne, hc⟩
  · exact .inl hs
  · refine .inr ⟨b, off, ha, hne, fun i hi => ?_⟩
    obtain ⟨x, hx0, hx1, hx⟩ := hc i hi
    obtain ⟨o, ho, _⟩ := cells_of_cell' hx
    have hbl : b < w.heap.size := (Array.getElem?_eq_some_iff.1 ho).1
    exact ⟨x, hx0, hx1, (hb.cell (p := ⟨b, off + i, none⟩) (by show b < B; omega)).trans hx⟩
/-- A store into a block that lies behind the reader. -/
theorem Rd.set {w : World} {R k : Nat} (h : Rd w R k) {q : Addr} (hq : R < q.block) (u : Value) : Rd (w.setCell q u) R k := by
  obtain ⟨a, len, cap, p, h0, h1, hf, hp, hl, hs⟩ := h
  have other : ∀ b o, b ≤ R → (w.setCell q u).cell? ⟨b, o, none⟩ = w.cell? ⟨b, o, none⟩ := fun b o hb => World.cell?_setCell_other w q ⟨b, o, none⟩ u (fun e => by rw [e] at hq; exact absurd hq (by show ¬ R < b; omega))
  refine ⟨a, len, cap, p, (other R 0 (Nat.le_refl _)).trans h0, (other R 1 (Nat.le_refl _)).trans h1, by rw [World.frozen?_setCell]; exact hf, hp, hl, ?_⟩
  rcases hs with hs | ⟨b, off, ha, hne, hc⟩
  · exact .inl hs
  · refine .inr ⟨b, off, ha, hne, fun i hi => ?_⟩
    obtain ⟨x, hx0, hx1, hx⟩ := hc i hi
    exact ⟨x, hx0, hx1, (other b (off + i) (by omega)).trans hx⟩
theorem Rd.alloc {w : World} {R k : Nat} (h : Rd w R k) (o : Obj) : Rd (w.alloc o) R k := h.below ((Below.refl _ _).alloc (Nat.le_refl _) o) (Nat.le_refl _)
/-- The world behind a pick. -/
theorem Rd.asked {w : World} {R k : Nat} {a : Option Addr} {len cap p : Nat} (nq : Nat) (h0 : w.cell? ⟨R, 0, none⟩ = some (.slice a len cap)) (h1 : w.cell? ⟨R, 1, none⟩ = some (.int .i64 p)) (hf : w.frozen? ⟨R, 1, none⟩ = false) (hp : p ≤ k) (hl : len ≤ 2000)
    (hs : len = 0 ∨ ∃ b off, a = some ⟨b, off, none⟩ ∧ b < R ∧ ∀ i, i < len → ∃ x : Int, 0 ≤ x ∧ x ≤ 255 ∧ w.cell? ⟨b, off + i, none⟩ = some (.int .u8 x)) :
    Rd ((w.setCell ⟨R, 1, none⟩ (.int .i64 (p + 1))).drewN nq) R (k + 1) ∧ w.grownBy ((w.setCell ⟨R, 1, none⟩ (.int .i64 (p + 1))).drewN nq) (some R) := by
  refine ⟨⟨a, len, cap, p + 1, ?_, ?_, ?_, by omega, hl, ?_⟩, ⟨rfl, rfl, rfl, by simp [World.setCell], ?_⟩⟩
  · rw [World.cell?_drewN]; exact (World.cell?_setCell_other w ⟨R, 1, none⟩ ⟨R, 0, none⟩ _ (by simp)).trans h0
  · rw [World.cell?_drewN]; exact World.cell?_setCell_same' _ _ _ (by rw [h1]; rfl)
  · rw [World.frozen?_drewN, World.frozen?_setCell]; exact hf
  · rcases hs with hs | ⟨b, off, ha, hne, hc⟩
    · exact .inl hs
    · refine .inr ⟨b, off, ha, hne, fun i hi => ?_⟩
      obtain ⟨x, hx0, hx1, hx⟩ := hc i hi
      exact ⟨x, hx0, hx1, by rw [World.cell?_drewN]; exact (World.cell?_setCell_other w ⟨R, 1, none⟩ ⟨b, off + i, none⟩ _ (fun e => by injection e; omega)).trans hx⟩
  · intro j _ hj
    rw [World.heap_drewN]
    exact Below.heap_setCell _ _ _ _ (fun e => hj (by rw [e]))
/-- What is known behind a pick of n. -/
def Picked (w : World) (R k : Nat) (n : Int) (e : Ending) (w' : World) : Prop :=
  ∃ v : Int, e = .returned (.int .i64 v) ∧ 0 ≤ v ∧ (v < n ∨ v = 0) ∧ Rd w' R (k + 1) ∧ w.grownBy w' (some R)
theorem xor_i64 (a b : Nat) (ha : a < 4611686018427387904) (hb : b < 4611686018427387904) : bits .xor .i64 (a : Int) (b : Int) = ((a ^^^ b : Nat) : Int) ∧ a ^^^ b < 4611686018427387904 := by
  have hx : a ^^^ b < 2 ^ 62 := Nat.xor_lt_two_pow (by omega) (by omega)
  have h1 : (BitVec.ofInt 64 (a : Int)).toNat = a := by rw [BitVec.ofInt_natCast, BitVec.toNat_ofNat]; exact Nat.mod_eq_of_lt (by omega)
  have h2 : (BitVec.ofInt 64 (b : Int)).toNat = b := by rw [BitVec.ofInt_natCast, BitVec.toNat_ofNat]; exact Nat.mod_eq_of_lt (by omega)
  refine ⟨?_, by omega⟩
  show IntKind.i64.wrap ((BitVec.ofInt 64 (a : Int) ^^^ BitVec.ofInt 64 (b : Int)).toNat : Int) = _
  rw [BitVec.toNat_xor, h1, h2, IntKind.wrap_i64]
  omega
theorem mix_i64 (X : Nat) (hX : X ≤ 10000000000000) : ∃ Z : Nat, Z < 4611686018427387904 ∧ bits .xor .i64 (X : Int) ((X : Int) / 64) = (Z : Int) := by
  have h := xor_i64 X (X / 64) (by omega) (by omega)
  exact ⟨_, h.2, h.1⟩
set_option maxHeartbeats 1000000 in
theorem pick_far (R : Nat) (n : Int) (w : World) (len cap p b off : Nat) (x y : Int) (hn : 1 ≤ n) (hn2 : n ≤ 1000000000)
   (h0 : w.cell? ⟨R, 0, none⟩ = some (.slice (some ⟨b, off, none⟩) len cap)) (h1 : w.cell? ⟨R, 1, none⟩ = some (.int .i64 p)) (hf : w.frozen? ⟨R, 1, none⟩ = false) (hp : p ≤ 1000000000)
   (hlen : 0 < len) (hlen2 : len ≤ 2000) (hge : len ≤ p) (hb : b ≠ R)
   (hx0 : 0 ≤ x) (hx1 : x ≤ 255) (hx : w.cell? ⟨b, off + p % len, none⟩ = some (.int .u8 x))
   (hy0 : 0 ≤ y) (hy1 : y ≤ 255) (hy : w.cell? ⟨b, off + (p * 7 + 3) % len, none⟩ = some (.int .u8 y)) :
    Calls Try.prog 61 #[.pointer (some ⟨R, 0, none⟩), .int .i64 n] w fun e w' => ∃ v : Int, e = .returned (.int .i64 v) ∧ 0 ≤ v ∧ (v < n ∨ v = 0) ∧ ∃ nq, w' = (w.setCell ⟨R, 1, none⟩ (.int .i64 (p + 1))).drewN nq := by
  have hlz : ((len : Int) == 0) = false := by simp; omega
  have k0 : (0 : Int) ≤ (p : Int) % (len : Int) := Int.emod_nonneg _ (by omega)
  have k1 : (p : Int) % (len : Int) < (len : Int) := Int.emod_lt_of_pos _ (by omega)
  have k2 : ((p : Int) % (len : Int)).toNat = p % len := by rw [← Int.natCast_emod]; rfl
  have j0 : (0 : Int) ≤ ((p : Int) * 7 + 3) % (len : Int) := Int.emod_nonneg _ (by omega)
  have j1 : ((p : Int) * 7 + 3) % (len : Int) < (len : Int) := Int.emod_lt_of_pos _ (by omega)
  have j2 : (((p : Int) * 7 + 3) % (len : Int)).toNat = (p * 7 + 3) % len := by
    have e : ((p : Int) * 7 + 3) % (len : Int) = (((p * 7 + 3) % len : Nat) : Int) := by rw [Int.natCast_emod]; rfl
    rw [e]; rfl
  have q0 : (0 : Int) ≤ (p : Int) / (len : Int) := Int.ediv_nonneg (by omega) (by omega)
  have q1 : (p : Int) / (len : Int) ≤ 1000000000 := Int.le_trans (Int.ediv_le_self _ (by omega)) (by omega)
  obtain ⟨X, hX⟩ : ∃ X : Nat, x * 131 + y * 1117 + (p : Int) * 29 + (p : Int) / (len : Int) * 53 = (X : Int) := ⟨_, (Int.toNat_of_nonneg (by omega)).symm⟩
  have hX2 : X ≤ 10000000000000 := by omega
  obtain ⟨Z, hZ1, hZ⟩ := mix_i64 X hX2
  have r0 : (0 : Int) ≤ (Z : Int) % n := Int.emod_nonneg _ (by omega)
  have r1 : (Z : Int) % n < n := Int.emod_lt_of_pos _ (by omega)
  have HX := Lib.hid hX
  clear hX
  go_enter Try.func61, Try.ntmps61
  go_wp2
  go_quiet (fail)
  rw [HX.out]
  go_wp2
  go_ret
  exact ⟨_, rfl, r0, .inl r1, _, rfl⟩
set_option maxHeartbeats 1000000 in
theorem pick_near (R : Nat) (n : Int) (w : World) (len cap p b off : Nat) (x : Int) (hn : 1 ≤ n) (hn2 : n ≤ 1000000000)
   (h0 : w.cell? ⟨R, 0, none⟩ = some (.slice (some ⟨b, off, none⟩) len cap)) (h1 : w.cell? ⟨R, 1, none⟩ = some (.int .i64 p)) (hf : w.frozen? ⟨R, 1, none⟩ = false) (hp : p ≤ 1000000000)
   (hlen : 0 < len) (hlen2 : len ≤ 2000) (hge : p < len) (hb : b ≠ R)
   (hx0 : 0 ≤ x) (hx1 : x ≤ 255) (hx : w.cell? ⟨b, off + p, none⟩ = some (.int .u8 x)) :
    Calls Try.prog 61 #[.pointer (some ⟨R, 0, none⟩), .int .i64 n] w fun e w' => ∃ v : Int, e = .returned (.int .i64 v) ∧ 0 ≤ v ∧ (v < n ∨ v = 0) ∧ ∃ nq, w' = (w.setCell ⟨R, 1, none⟩ (.int .i64 (p + 1))).drewN nq := by
  have hlz : ((len : Int) == 0) = false := by simp; omega
  have r0 : (0 : Int) ≤ x % n := Int.emod_nonneg _ (by omega)
  have r1 : x % n < n := Int.emod_lt_of_pos _ (by omega)
  go_enter Try.func61, Try.ntmps61
  go_wp2
  go_ret
  exact ⟨_, rfl, r0, .inl r1, 0, rfl⟩
set_option maxHeartbeats 1000000 in
theorem pick_none (R : Nat) (n : Int) (w : World) (a : Option Addr) (cap p : Nat) (hn : 1 ≤ n)
   (h0 : w.cell? ⟨R, 0, none⟩ = some (.slice a 0 cap)) (h1 : w.cell? ⟨R, 1, none⟩ = some (.int .i64 p)) (hf : w.frozen? ⟨R, 1, none⟩ = false) (hp : p ≤ 1000000000) :
    Calls Try.prog 61 #[.pointer (some ⟨R, 0, none⟩), .int .i64 n] w fun e w' => ∃ v : Int, e = .returned (.int .i64 v) ∧ 0 ≤ v ∧ (v < n ∨ v = 0) ∧ ∃ nq, w' = (w.setCell ⟨R, 1, none⟩ (.int .i64 (p + 1))).drewN nq := by
  go_enter Try.func61, Try.ntmps61
  go_wp2
  go_ret
  exact ⟨_, rfl, by omega, .inr rfl, 0, rfl⟩
set_option maxHeartbeats 1000000 in
theorem pick_neg (R : Nat) (n : Int) (w : World) (p : Nat) (hn : n < 1) (h1 : w.cell? ⟨R, 1, none⟩ = some (.int .i64 p)) (hf : w.frozen? ⟨R, 1, none⟩ = false) (hp : p ≤ 1000000000) :
    Calls Try.prog 61 #[.pointer (some ⟨R, 0, none⟩), .int .i64 n] w fun e w' => ∃ v : Int, e = .returned (.int .i64 v) ∧ 0 ≤ v ∧ (v < n ∨ v = 0) ∧ ∃ nq, w' = (w.setCell ⟨R, 1, none⟩ (.int .i64 (p + 1))).drewN nq := by
  go_enter Try.func61, Try.ntmps61
  go_wp2
  go_ret
  exact ⟨_, rfl, by omega, .inr rfl, 0, rfl⟩
/-- **A pick, whatever the code is.** -/
theorem pick_any (R k : Nat) (n : Int) (w : World) (h : Rd w R k) (hk : k ≤ 1000000000) (hn : n ≤ 1000000000) :
    Calls Try.prog 61 #[.pointer (some ⟨R, 0, none⟩), .int .i64 n] w (Picked w R k n) := by
  obtain ⟨a, len, cap, p, h0, h1, hf, hp, hl, hs⟩ := h
  have fin : ∀ e w', (∃ v : Int, e = .returned (.int .i64 v) ∧ 0 ≤ v ∧ (v < n ∨ v = 0) ∧ ∃ nq, w' = (w.setCell ⟨R, 1, none⟩ (.int .i64 (p + 1))).drewN nq) → Picked w R k n e w' := by
    rintro e w' ⟨v, rfl, hv0, hv1, nq, rfl⟩
    exact ⟨v, rfl, hv0, hv1, Rd.asked nq h0 h1 hf hp hl hs⟩
  by_cases hn1 : n < 1
  · exact (pick_neg R n w p hn1 h1 hf (by omega)).mono fin
  · have hn' : 1 ≤ n := by omega
    rcases hs with rfl | ⟨b, off, rfl, hne, hc⟩
    · exact (pick_none R n w a cap p hn' h0 h1 hf (by omega)).mono fin
    · by_cases hl0 : len = 0
      · subst hl0
        exact (pick_none R n w _ cap p hn' h0 h1 hf (by omega)).mono fin
      · by_cases hlt : p < len
        · obtain ⟨x, hx0, hx1, hx⟩ := hc p hlt
          exact (pick_near R n w len cap p b off x hn' hn h0 h1 hf (by omega) (by omega) hl hlt (by omega) hx0 hx1 hx).mono fin
        · obtain ⟨x, hx0, hx1, hx⟩ := hc (p % len) (Nat.mod_lt _ (by omega))
          obtain ⟨y, hy0, hy1, hy⟩ := hc ((p * 7 + 3) % len) (Nat.mod_lt _ (by omega))
          exact (pick_far R n w len cap p b off x y hn' hn h0 h1 hf (by omega) (by omega) hl (by omega) (by omega) hx0 hx1 hx hy0 hy1 hy).mono fin
end Go.Proofs.Ytigcomhhgfgmgaa
namespace Go.Proofs.Ytigcomhhgfgmgaa
open Go.RowKit
theorem gcell {W w1 : World} {R : Nat} (hg : W.grownBy w1 (some R)) : (∀ b o, b < W.heap.size → b ≠ R → w1.cell? ⟨b, o, none⟩ = W.cell? ⟨b, o, none⟩) ∧ (∀ b o, b < W.heap.size → b ≠ R → w1.frozen? ⟨b, o, none⟩ = W.frozen? ⟨b, o, none⟩) :=
  ⟨fun b o h hne => World.cell?_of_block (a := ⟨b, o, none⟩) (hg.block b h (by simpa using hne)), fun b o h hne => World.frozen?_of_block (a := ⟨b, o, none⟩) (hg.block b h (by simpa using hne))⟩
/-- A code: it is nil, or it leads to a row of cells that hold bytes. -/
def IsRow (w : World) (a : Option Addr) (len cap : Nat) (zs : List Int) : Prop :=
  (a = none ∧ len = 0 ∧ cap = 0 ∧ zs = []) ∨
  ∃ x, a = some x ∧ len ≤ cap ∧ cap ≤ maxLen ∧ zs.length = cap ∧ (∀ i, i < zs.length → w.cell? (x.add i) = some (.int .u8 (zs.getD i 0))) ∧ ∀ n ∈ zs, (Lit.int .u8 n).wf = true
theorem byte_wf {n : Int} (h : (Lit.int .u8 n).wf = true) : 0 ≤ n ∧ n ≤ 255 := by
  have := h
  simp [Lit.wf, IntKind.min, IntKind.max, IntKind.signed, IntKind.bits] at this
  omega
/-- A code's cells, within its length. -/
theorem IsRow.cells {w : World} {a : Option Addr} {len cap : Nat} {zs : List Int} (h : IsRow w a len cap zs) : len = 0 ∨ ∃ b off, a = some ⟨b, off, none⟩ ∧ b < w.heap.size ∧ len ≤ cap ∧ cap ≤ maxLen ∧ ∀ i, i < len → ∃ x : Int, 0 ≤ x ∧ x ≤ 255 ∧ w.cell? ⟨b, off + i, none⟩ = some (.int .u8 x) := by
  rcases h with ⟨_, h, _, _⟩ | ⟨⟨b, off, spot⟩, rfl, hl, hm, hz, hc, hw⟩
  · exact .inl h
  · by_cases h0 : len = 0
    · exact .inl h0
    · have hc0 := hc 0 (by omega)
      have hs : spot = none := by simpa [Addr.add] using World.cell?_spot hc0
      subst hs
      refine .inr ⟨b, off, rfl, ?_, hl, hm, fun i hi => ?_⟩
      · obtain ⟨o, ho, _⟩ := cells_of_cell' hc0
        exact (Array.getElem?_eq_some_iff.1 ho).1
      · have hz' : zs.getD i 0 ∈ zs := by
          rw [List.getD_eq_getElem?_getD, List.getElem?_eq_getElem (by omega)]; simp
        have := byte_wf (hw _ hz')
        have hci := hc i (by omega)
        refine ⟨_, this.1, this.2, ?_⟩
        by_cases hi0 : i = 0
        · subst hi0; simpa [Addr.add] using hci
        · simpa [Addr.add, hi0] using hci
/-- Behind l20Open: the reader is the one new block. -/
def Opened (w : World) (e : Ending) (w' : World) : Prop :=
  e = .returned (.pointer (some ⟨w.heap.size, 0, none⟩)) ∧ Rd w' w.heap.size 0 ∧ Below w.heap.size w w' ∧ w.heap.size < w'.heap.size
theorem opened (w : World) (a : Option Addr) (len cap : Nat) (hl : len ≤ 2000)
    (hs : len = 0 ∨ ∃ b off, a = some ⟨b, off, none⟩ ∧ b < w.heap.size ∧ ∀ i, i < len → ∃ x : Int, 0 ≤ x ∧ x ≤ 255 ∧ w.cell? ⟨b, off + i, none⟩ = some (.int .u8 x)) :
    Opened w (.returned (.pointer (some ⟨w.heap.size, 0, none⟩))) (w.alloc (.cells #[.slice a len cap, .int .i64 0] 91)) := by
  have hb : Below w.heap.size w (w.alloc (.cells #[.slice a len cap, .int .i64 0] 91)) := (Below.refl _ _).alloc (Nat.le_refl _) _
  refine ⟨rfl, ⟨a, len, cap, 0, by simp [go_sem], by simp [go_sem], by simp [go_sem], Nat.le_refl _, hl, ?_⟩, hb, by simp⟩
  rcases hs with hs | ⟨b, off, ha, hlt, hc⟩
  · exact .inl hs
  · refine .inr ⟨b, off, ha, by omega, fun i hi => ?_⟩
    obtain ⟨x, hx0, hx1, hx⟩ := hc i hi
    exact ⟨x, hx0, hx1, (hb.cell (p := ⟨b, off + i, none⟩) hlt).trans hx⟩
set_option maxHeartbeats 400000 in
theorem open_any (w : World) (a : Option Addr) (len cap : Nat) (zs : List Int) (h : IsRow w a len cap zs) :
    Calls Try.prog 40 #[.slice a len cap] w (Opened w) := by
  rcases h.cells with rfl | ⟨b, off, rfl, hlt, hlc, hm, hc⟩
  · have H := Lib.hid (opened w a 0 cap (by omega) (.inl rfl))
    go_enter Try.func40, Try.ntmps40
    go_wp2
    go_ret
    exact H.out
  · unfold maxLen at hm
    by_cases hbig : 2000 < len
    · have H := Lib.hid (opened w (some ⟨b, off, none⟩) 2000 cap (by omega) (.inr ⟨b, off, rfl, hlt, fun i hi => hc i (by omega)⟩))
      clear hc
      go_enter Try.func40, Try.ntmps40
      go_wp2
      go_ret
      exact H.out
    · have H := Lib.hid (opened w (some ⟨b, off, none⟩) len cap (by omega) (.inr ⟨b, off, rfl, hlt, hc⟩))
      have hs : len ≤ 2000 := by omega
      clear hc
      go_enter Try.func40, Try.ntmps40
      go_wp2
      go_ret
      exact H.out
/-- What is known behind a draw of a pair. -/
def PairDrawn (w : World) (R k m : Nat) (e : Ending) (w' : World) : Prop :=
  ∃ p q : Int, e = .returned (pr p q) ∧ -5 ≤ p ∧ p ≤ 100 ∧ -5 ≤ q ∧ q ≤ 100 ∧ Rd w' R (k + m) ∧ w.grownBy w' (some R)
def BoolDrawn (w : World) (R k : Nat) (e : Ending) (w' : World) : Prop :=
  ∃ b : Bool, e = .returned (.bool b) ∧ Rd w' R (k + 1) ∧ w.grownBy w' (some R)
set_option maxHeartbeats 400000 in
theorem odd_any (R k : Nat) (n : Int) (w : World) (h : Rd w R k) (hk : k ≤ 500000000) (hn : n ≤ 1000000) :
    Calls Try.prog 52 #[.pointer (some ⟨R, 0, none⟩), .int .i64 n] w (BoolDrawn w R k) := by
  by_cases hn0 : 0 < n
  · go_enter Try.func52, Try.ntmps52
    go_wp2_with fail
    refine (pick_any R k n _ h (by omega) (by omega)).mono ?_
    rintro e w1 ⟨v1, rfl, va1, vb1, hR1, hh1⟩
    have vc1 : v1 ≤ max (n - 1) 0 := by omega
    clear vb1
    obtain ⟨hc1, hf1⟩ := gcell hh1
    have hz1 := hh1.size
    try simp only [World.size_alloc] at hz1
    go_wp2
    go_ret
    exact ⟨_, rfl, hR1, hh1⟩
  · have hn1 : n ≤ 0 := by omega
    go_enter Try.func52, Try.ntmps52
    go_wp2
    go_ret
    exact ⟨_, rfl, h.mono (by omega), ⟨rfl, rfl, rfl, Nat.le_refl _, fun _ _ _ => rfl⟩⟩
end Go.Proofs.Ytigcomhhgfgmgaa
namespace Go.Proofs.Ytigcomhhgfgmgaa
open Go.RowKit
theorem gr_refl (w : World) (R : Nat) : w.grownBy w (some R) := ⟨rfl, rfl, rfl, Nat.le_refl _, fun _ _ _ => rfl⟩
theorem gr_trans {w w1 w2 : World} {R : Nat} (h : w.grownBy w1 (some R)) (k : w1.grownBy w2 (some R)) : w.grownBy w2 (some R) :=
  ⟨k.os.trans h.os, k.tape.trans h.tape, k.output.trans h.output, Nat.le_trans h.size k.size, fun j hj hne => (k.block j (Nat.lt_of_lt_of_le hj h.size) hne).trans (h.block j hj hne)⟩
theorem gr_below {w w1 w2 : World} {R : Nat} (h : w.grownBy w1 (some R)) (k : Below w1.heap.size w1 w2) : w.grownBy w2 (some R) :=
  ⟨k.os.trans h.os, k.tape.trans h.tape, k.output.trans h.output, Nat.le_trans h.size k.size, fun j hj hne => (k.block j (Nat.lt_of_lt_of_le hj h.size)).trans (h.block j hj hne)⟩
theorem gr_alloc {w w1 : World} {R : Nat} (h : w.grownBy w1 (some R)) (o : Obj) : w.grownBy (w1.alloc o) (some R) := gr_below h ((Below.refl _ _).alloc (Nat.le_refl _) o)
theorem gr_set {w w1 : World} {R : Nat} (h : w.grownBy w1 (some R)) {p : Addr} (hp : w.heap.size ≤ p.block) (v : Value) : w.grownBy (w1.setCell p v) (some R) :=
  ⟨h.os, h.tape, h.output, by simpa [World.setCell] using h.size, fun j hj hne => (Below.heap_setCell _ _ _ _ (by omega)).trans (h.block j hj hne)⟩
theorem gr_drew {w w1 : World} {R : Nat} (h : w.grownBy w1 (some R)) : w.grownBy w1.drew (some R) := ⟨h.os, h.tape, h.output, h.size, h.block⟩
theorem seven {v : Int} (h0 : 0 ≤ v) (h1 : v ≤ 6) : v = 0 ∨ v = 1 ∨ v = 2 ∨ v = 3 ∨ v = 4 ∨ v = 5 ∨ v = 6 := by omega
theorem three {v : Int} (h0 : 0 ≤ v) (h1 : v ≤ 2) : v = 0 ∨ v = 1 ∨ v = 2 := by omega
set_option maxHeartbeats 4000000 in
theorem l20Pair_any (R k : Nat) (n : Int) (w : World) (h : Rd w R k) (hk : k ≤ 100000000) (hn : n ≤ 1000000) :
    Calls Try.prog 42 #[.pointer (some ⟨R, 0, none⟩), .int .i64 n] w (PairDrawn w R k 5) := by
  have hRlt := h.lt
  have hR0 : Rd (w.alloc (.cells #[.int .i64 0, .int .i64 0] 24)) R k := h.below ((Below.refl _ _).alloc (Nat.le_refl _) _) (Nat.le_refl _)
  go_enter Try.func42, Try.ntmps42
  go_wp2_with fail
  refine (pick_any R k 9 _ hR0 (by omega) (by omega)).mono ?_
  rintro e w1 ⟨v1, rfl, va1, vb1, hR1, hh1⟩
  have vc1 : v1 ≤ max (9 - 1) 0 := by omega
  clear vb1
  obtain ⟨hc1, hf1⟩ := gcell hh1
  have hz1 := hh1.size
  try simp only [World.size_alloc] at hz1
  have hz1_0 : w.heap.size < w1.heap.size := by omega
  have hn1_0 : ¬ w.heap.size = R := by omega
  have kb1_0_0 : w1.cell? ⟨w.heap.size, 0, none⟩ = some (.int .i64 0) := by go_simp
  have kf1_0_0 : w1.frozen? ⟨w.heap.size, 0, none⟩ = false := by go_simp
  have kb1_0_1 : w1.cell? ⟨w.heap.size, 1, none⟩ = some (.int .i64 0) := by go_simp
  have kf1_0_1 : w1.frozen? ⟨w.heap.size, 1, none⟩ = false := by go_simp
  clear hc1 hf1
  go_wp2_with fail
  refine (pick_any R (k + 1) 9 _ hR1 (by omega) (by omega)).mono ?_
  rintro e w2 ⟨v2, rfl, va2, vb2, hR2, hh2⟩
  have vc2 : v2 ≤ max (9 - 1) 0 := by omega
  clear vb2
  obtain ⟨hc2, hf2⟩ := gcell hh2
  have hz2 := hh2.size
  try simp only [World.size_alloc] at hz2
  have hz2_0 : w.heap.size < w2.heap.size := by omega
  have hn2_0 : ¬ w.heap.size = R := by omega
  have kb2_0_0 : w2.cell? ⟨w.heap.size, 0, none⟩ = some (.int .i64 0) := by go_simp
  have kf2_0_0 : w2.frozen? ⟨w.heap.size, 0, none⟩ = false := by go_simp
  have kb2_0_1 : w2.cell? ⟨w.heap.size, 1, none⟩ = some (.int .i64 0) := by go_simp
  have kf2_0_1 : w2.frozen? ⟨w.heap.size, 1, none⟩ = false := by go_simp
  clear hc2 hf2
  go_wp2_with fail
  refine (pick_any R (k + 1 + 1) 7 _ (hR2.below ((Below.refl _ _).alloc (Nat.le_refl _) _) (Nat.le_refl _)) (by omega) (by omega)).mono ?_
  rintro e w3 ⟨v3, rfl, va3, vb3, hR3, hh3⟩
  have vc3 : v3 ≤ max (7 - 1) 0 := by omega
  clear vb3
  obtain ⟨hc3, hf3⟩ := gcell hh3
  have hz3 := hh3.size
  try simp only [World.size_alloc] at hz3
  have hz3_0 : w.heap.size < w3.heap.size := by omega
  have hz3_1 : w2.heap.size < w3.heap.size := by omega
  have hn3_0 : ¬ w.heap.size = R := by omega
  have hn3_1 : ¬ w2.heap.size = R := by omega
  obtain ⟨a, b, ha0, ha1, hb0, hb1, cA, cB⟩ : ∃ a b : Int, -5 ≤ a ∧ a ≤ 100 ∧ -5 ≤ b ∧ b ≤ 100 ∧ w3.cell? ⟨w2.heap.size, (v3 / 2).toNat * 2, none⟩ = some (.int .i64 a) ∧ w3.cell? ⟨w2.heap.size, (v3 / 2).toNat * 2 + 1, none⟩ = some (.int .i64 b) := by
    rcases (show v3 / 2 = 0 ∨ v3 / 2 = 1 ∨ v3 / 2 = 2 ∨ v3 / 2 = 3 by omega) with e | e | e | e
    · rw [e]; exact ⟨1, -1, by omega, by omega, by omega, by omega, by go_simp, by go_simp⟩
    · rw [e]; exact ⟨2, -1, by omega, by omega, by omega, by omega, by go_simp, by go_simp⟩
    · rw [e]; exact ⟨3, 2, by omega, by omega, by omega, by omega, by go_simp, by go_simp⟩
    · rw [e]; exact ⟨v1 - 4, v2 - 4, by omega, by omega, by omega, by omega, by go_simp, by go_simp⟩
  have q0 : (0 : Int) ≤ v3 / 2 := by omega
  have q1 : v3 / 2 < 4 := by omega
  have kb3_0_0 : w3.cell? ⟨w.heap.size, 0, none⟩ = some (.int .i64 0) := by go_simp
  have kf3_0_0 : w3.frozen? ⟨w.heap.size, 0, none⟩ = false := by go_simp
  have kb3_0_1 : w3.cell? ⟨w.heap.size, 1, none⟩ = some (.int .i64 0) := by go_simp
  have kf3_0_1 : w3.frozen? ⟨w.heap.size, 1, none⟩ = false := by go_simp
  clear hc3 hf3
  go_wp2_with fail
  refine (odd_any R (k + 1 + 1 + 1) n _ (hR3.below ((Below.refl _ _).alloc (Nat.le_refl _) _) (Nat.le_refl _)) (by omega) hn).mono ?_
  rintro e w4 ⟨bb, rfl, hR4, hh4⟩
  obtain ⟨hc4, hf4⟩ := gcell hh4
  have hz4 := hh4.size
  try simp only [World.size_alloc] at hz4
  have hz4_0 : w.heap.size < w4.heap.size := by omega
  have hz4_1 : w3.heap.size < w4.heap.size := by omega
  have hn4_0 : ¬ w.heap.size = R := by omega
  have hn4_1 : ¬ w3.heap.size = R := by omega
  have kb4_0_0 : w4.cell? ⟨w.heap.size, 0, none⟩ = some (.int .i64 0) := by go_simp
  have kf4_0_0 : w4.frozen? ⟨w.heap.size, 0, none⟩ = false := by go_simp
  have kb4_0_1 : w4.cell? ⟨w.heap.size, 1, none⟩ = some (.int .i64 0) := by go_simp
  have kf4_0_1 : w4.frozen? ⟨w.heap.size, 1, none⟩ = false := by go_simp
  have kb4_1_0 : w4.cell? ⟨w3.heap.size, 0, none⟩ = some (.int .i64 a) := by go_simp
  have kf4_1_0 : w4.frozen? ⟨w3.heap.size, 0, none⟩ = false := by go_simp
  have kb4_1_1 : w4.cell? ⟨w3.heap.size, 1, none⟩ = some (.int .i64 b) := by go_simp
  have kf4_1_1 : w4.frozen? ⟨w3.heap.size, 1, none⟩ = false := by go_simp
  clear hc4 hf4
  cases bb with
  | false =>
    go_wp2
    refine bodyPost_ret (v := pr (a) (b)) (by simp [results, Try.results42, go_sem, kb4_0_0, kb4_0_1]) rfl ⟨_, _, rfl, by omega, by omega, by omega, by omega, ?_, ?_⟩
    · refine Rd.mono (k := k + 1 + 1 + 1 + 1) ?_ (show k + 1 + 1 + 1 + 1 ≤ k + 5 by omega)
      (repeat (first | assumption | refine Rd.set ?_ (by first | omega | (simp <;> omega)) _ | refine Rd.alloc ?_ _ | refine Rd.below ?_ (by assumption) (Nat.le_refl _)))
    · (repeat (first | exact gr_refl _ _ | refine gr_set ?_ (by first | omega | (simp <;> omega)) _ | refine gr_alloc ?_ _ | refine gr_trans ?_ (by assumption) | refine gr_below ?_ (by assumption)))
  | true =>
    go_wp2_with fail
    refine (pick_any R (k + 1 + 1 + 1 + 1) 3 _ (hR4.below ((Below.refl _ _).alloc (Nat.le_refl _) _) (Nat.le_refl _)) (by omega) (by omega)).mono ?_
    rintro e w5 ⟨v5, rfl, va5, vb5, hR5, hh5⟩
    have vc5 : v5 ≤ max (3 - 1) 0 := by omega
    clear vb5
    obtain ⟨hc5, hf5⟩ := gcell hh5
    have hz5 := hh5.size
    try simp only [World.size_alloc] at hz5
    have hz5_0 : w.heap.size < w5.heap.size := by omega
    have hz5_1 : w4.heap.size < w5.heap.size := by omega
    have hn5_0 : ¬ w.heap.size = R := by omega
    have hn5_1 : ¬ w4.heap.size = R := by omega
    have kb5_0_0 : w5.cell? ⟨w.heap.size, 0, none⟩ = some (.int .i64 0) := by go_simp
    have kf5_0_0 : w5.frozen? ⟨w.heap.size, 0, none⟩ = false := by go_simp
    have kb5_0_1 : w5.cell? ⟨w.heap.size, 1, none⟩ = some (.int .i64 0) := by go_simp
    have kf5_0_1 : w5.frozen? ⟨w.heap.size, 1, none⟩ = false := by go_simp
    have kb5_1_0 : w5.cell? ⟨w4.heap.size, 0, none⟩ = some (.int .i64 5) := by go_simp
    have kf5_1_0 : w5.frozen? ⟨w4.heap.size, 0, none⟩ = false := by go_simp
    have kb5_1_1 : w5.cell? ⟨w4.heap.size, 1, none⟩ = some (.int .i64 0) := by go_simp
    have kf5_1_1 : w5.frozen? ⟨w4.heap.size, 1, none⟩ = false := by go_simp
    have kb5_1_2 : w5.cell? ⟨w4.heap.size, 2, none⟩ = some (.int .i64 0) := by go_simp
    have kf5_1_2 : w5.frozen? ⟨w4.heap.size, 2, none⟩ = false := by go_simp
    have kb5_1_3 : w5.cell? ⟨w4.heap.size, 3, none⟩ = some (.int .i64 (-5)) := by go_simp
    have kf5_1_3 : w5.frozen? ⟨w4.heap.size, 3, none⟩ = false := by go_simp
    have kb5_1_4 : w5.cell? ⟨w4.heap.size, 4, none⟩ = some (.int .i64 100) := by go_simp
    have kf5_1_4 : w5.frozen? ⟨w4.heap.size, 4, none⟩ = false := by go_simp
    have kb5_1_5 : w5.cell? ⟨w4.heap.size, 5, none⟩ = some (.int .i64 100) := by go_simp
    have kf5_1_5 : w5.frozen? ⟨w4.heap.size, 5, none⟩ = false := by go_simp
    clear hc5 hf5
    rcases three va5 (by omega) with rfl | rfl | rfl
    · go_wp2
      refine bodyPost_ret (v := pr (5) (0)) (by simp [results, Try.results42, go_sem, kb5_0_0, kb5_0_1]) rfl ⟨_, _, rfl, by omega, by omega, by omega, by omega, ?_, ?_⟩
      · refine Rd.mono (k := k + 1 + 1 + 1 + 1 + 1) ?_ (show k + 1 + 1 + 1 + 1 + 1 ≤ k + 5 by omega)
        (repeat (first | assumption | refine Rd.set ?_ (by first | omega | (simp <;> omega)) _ | refine Rd.alloc ?_ _ | refine Rd.below ?_ (by assumption) (Nat.le_refl _)))
      · (repeat (first | exact gr_refl _ _ | refine gr_set ?_ (by first | omega | (simp <;> omega)) _ | refine gr_alloc ?_ _ | refine gr_trans ?_ (by assumption) | refine gr_below ?_ (by assumption)))
    · go_wp2
      refine bodyPost_ret (v := pr (0) (-5)) (by simp [results, Try.results42, go_sem, kb5_0_0, kb5_0_1]) rfl ⟨_, _, rfl, by omega, by omega, by omega, by omega, ?_, ?_⟩
      · refine Rd.mono (k := k + 1 + 1 + 1 + 1 + 1) ?_ (show k + 1 + 1 + 1 + 1 + 1 ≤ k + 5 by omega)
        (repeat (first | assumption | refine Rd.set ?_ (by first | omega | (simp <;> omega)) _ | refine Rd.alloc ?_ _ | refine Rd.below ?_ (by assumption) (Nat.le_refl _)))
      · (repeat (first | exact gr_refl _ _ | refine gr_set ?_ (by first | omega | (simp <;> omega)) _ | refine gr_alloc ?_ _ | refine gr_trans ?_ (by assumption) | refine gr_below ?_ (by assumption)))
    · go_wp2
      refine bodyPost_ret (v := pr (100) (100)) (by simp [results, Try.results42, go_sem, kb5_0_0, kb5_0_1]) rfl ⟨_, _, rfl, by omega, by omega, by omega, by omega, ?_, ?_⟩
      · refine Rd.mono (k := k + 1 + 1 + 1 + 1 + 1) ?_ (show k + 1 + 1 + 1 + 1 + 1 ≤ k + 5 by omega)
        (repeat (first | assumption | refine Rd.set ?_ (by first | omega | (simp <;> omega)) _ | refine Rd.alloc ?_ _ | refine Rd.below ?_ (by assumption) (Nat.le_refl _)))
      · (repeat (first | exact gr_refl _ _ | refine gr_set ?_ (by first | omega | (simp <;> omega)) _ | refine gr_alloc ?_ _ | refine gr_trans ?_ (by assumption) | refine gr_below ?_ (by assumption)))
end Go.Proofs.Ytigcomhhgfgmgaa
namespace Go.Proofs.Ytigcomhhgfgmgaa
open Go.RowKit
variable {P : Program} {ops : Array Oper} {Q : Exit → Act → World → Prop} {md : Region.Mode}
/-- What the slots hold: those that no operation writes are as they were; that of each operation that has come up is as it promises. -/
def Slots (ops : Array Oper) (a0 : Act) (PP : Nat → Value → World → Prop) (listed : Array Bool) (a : Act) (w : World) : Prop :=
  a.defers = a0.defers ∧ a.tmps.size = a0.tmps.size ∧ (∀ t, (∀ (i : Nat) (o : Oper), ops[i]? = some o → o.dst ≠ some t) → a.eval (.tmp t) = a0.eval (.tmp t)) ∧
  (∀ (i : Nat) (o : Oper) (d : Nat), ops[i]? = some o → o.dst = some d → listed.getD i false = true → PP i (a.eval (.tmp d)) w)
theorem getD_set_self {l : Array Bool} {i : Nat} (h : l.getD i true = false) : (l.setIfInBounds i true).getD i false = true := by
  rcases Nat.lt_or_ge i l.size with h1 | h1
  · simp [Array.getD_eq_getD_getElem?, h1]
  · simp [Array.getD_eq_getD_getElem?, Array.getElem?_eq_none h1] at h
theorem getD_set_other {l : Array Bool} {i j : Nat} (x : Bool) (h : i ≠ j) : (l.setIfInBounds i true).getD j x = l.getD j x := by
  simp [Array.getD_eq_getD_getElem?, Array.getElem?_setIfInBounds_ne h]
theorem Slots.put {a0 a : Act} {PP : Nat → Value → World → Prop} {listed : Array Bool} {w w' : World} {i : Nat} {o : Oper} {d : Nat} {v : Value}
    (h : Slots ops a0 PP listed a w) (hi : ops[i]? = some o) (hd : o.dst = some d) (hl : listed.getD i true = false) (hb : d < a0.tmps.size)
    (hdis : ∀ (i j : Nat) (oi oj : Oper) (d : Nat), ops[i]? = some oi → ops[j]? = some oj → oi.dst = some d → oj.dst = some d → i = j)
    (hmono : ∀ j u, PP j u w → PP j u w') (hv : PP i v w') : Slots ops a0 PP (listed.setIfInBounds i true) (a.put (some d) v) w' := by
  obtain ⟨h1, h2, h3, h4⟩ := h
  refine ⟨h1, by simpa [Act.put] using h2, fun t ht => ?_, fun j oj dj hj hdj hlj => ?_⟩
  · rw [Act.eval_put_ne _ _ _ _ (fun e => ht i o hi (by rw [hd, e]))]; exact h3 t ht
  · by_cases hij : j = i
    · subst hij
      rw [hi] at hj
      cases hj
      rw [hd] at hdj
      cases hdj
      rw [Act.eval_put_same _ _ _ (by rw [h2]; exact hb)]
      exact hv
    · rw [Act.eval_put_ne _ _ _ _ (fun e => hij (hdis j i oj o dj hj hi hdj (by rw [hd, e])))]
      rw [getD_set_other _ (fun e => hij e.symm)] at hlj
      exact hmono _ _ (h4 j oj dj hj hdj hlj)
theorem wpAny_slots {a0 : Act} {PP : Nat → Value → World → Prop} {Grow : World → World → Prop} {G : Array Bool → World → Prop}
    (hdis : ∀ (i j : Nat) (oi oj : Oper) (d : Nat), ops[i]? = some oi → ops[j]? = some oj → oi.dst = some d → oj.dst = some d → i = j)
    (hb : ∀ (i : Nat) (o : Oper) (d : Nat), ops[i]? = some o → o.dst = some d → d < a0.tmps.size)
    (hmono : ∀ j u w w', Grow w w' → PP j u w → PP j u w')
    (hstep : ∀ (i : Nat) (o : Oper), ops[i]? = some o → ∀ listed a w, Slots ops a0 PP listed a w → G listed w → (∀ e ∈ o.after, Region.binds md e = true → listed.getD e.on false = true) → listed.getD i true = false →
      wpOp P ops Q i (fun a' w' => ∃ v d, o.dst = some d ∧ a' = a.put (some d) v ∧ PP i v w' ∧ Grow w w' ∧ G (listed.setIfInBounds i true) w') a w)
    (hend : ∀ listed a w, (∀ i, i < ops.size → listed.getD i false = true) → Slots ops a0 PP listed a w → G listed w → Q .normal a w) :
    ∀ fuel listed a w, listed.size = ops.size → listed.toList.count false ≤ fuel → (Region.ready md ops listed = [] → ∀ i, i < ops.size → listed.getD i false = true) →
      (∀ l : Array Bool, l.size = ops.size → Region.ready md ops l = [] → ∀ i, i < ops.size → l.getD i false = true) →
      Slots ops a0 PP listed a w → G listed w → wpAny P md ops Q fuel listed a w
  | 0, listed, a, w, hs, hc, hr0, hr, hS, hG => by
    have hall : ∀ i, i < ops.size → listed.getD i false = true := fun i hi => by
      have h0 : listed.toList.count false = 0 := by omega
      rw [List.count_eq_zero] at h0
      have hi' : i < listed.size := by omega
      have e : listed.getD i false = listed[i] := by simp [Array.getD_eq_getD_getElem?, hi']
      rw [e]
      cases hx : listed[i] with
      | true => rfl
      | false => exact absurd (by rw [← hx]; simp) h0
    refine ⟨?_, hend _ _ _ hall hS hG⟩
    rw [List.eq_nil_iff_forall_not_mem]
    intro i hi
    obtain ⟨h1, o, ho, _⟩ := mem_ready.1 hi
    have hi' : i < ops.size := (Array.getElem?_eq_some_iff.1 ho).1
    have h2 := hall i hi'
    have hil : i < listed.size := by omega
    simp [Array.getD_eq_getD_getElem?, hil] at h1 h2
    rw [h1] at h2; cases h2
  | fuel + 1, listed, a, w, hs, hc, hr0, hr, hS, hG => by
    refine ⟨fun h => hend _ _ _ (hr0 h) hS hG, fun i hi => ?_⟩
    obtain ⟨h1, o, ho, hall⟩ := mem_ready.1 hi
    refine wpOp_mono ?_ (hstep i o ho listed a w hS hG hall h1)
    rintro a' w' ⟨v, d, hd, rfl, hv, hg, hG'⟩
    have hil : i < listed.size := by rw [hs]; exact (Array.getElem?_eq_some_iff.1 ho).1
    refine wpAny_slots hdis hb hmono hstep hend fuel _ _ _ (by simpa using hs) ?_ (hr _ (by simpa using hs)) hr (hS.put ho hd h1 (hb i o d ho hd) hdis (fun j u => hmono j u w w' hg) hv) hG'
    have e : listed[i] = false := by simpa [Array.getD_eq_getD_getElem?, hil] using h1
    rw [Array.toList_setIfInBounds, List.count_set (by simpa using hil)]
    have : 0 < listed.toList.count false := List.count_pos_iff.2 (by rw [← e]; simp)
    rw [if_pos (by simp [e]), if_neg (by simp)]
    omega
theorem op_value {i : Nat} {o : Oper} {v : Value} {a : Act} {w w' : World} {K : Act → World → Prop} (hi : ops[i]? = some o) (hg : o.guard = none) (hv : ∀ ev : Operand → Value, (∀ t, ev (.tmp t) = a.eval (.tmp t)) → (∀ c, ev (.const c) = c) → (∀ f, ev (.func f) = .func (.func f) #[] #[]) → (execOp ev o).run P w = .ok (.value v) w') (hk : K (a.put o.dst v) w') : wpOp P ops Q i K a w := by
  unfold wpOp
  simp only [hi]
  rw [if_pos (by simp [Region.wanted, hg])]
  left
  unfold Oper.wp
  rw [hv a.eval (fun _ => rfl) (fun _ => rfl) (fun _ => rfl)]; exact hk
theorem op_enter {i : Nat} {o : Oper} {f : FuncId} {args : Array Value} {a : Act} {w w' : World} {K : Act → World → Prop} (hi : ops[i]? = some o) (hg : o.guard = none) (hv : ∀ ev : Operand → Value, (∀ t, ev (.tmp t) = a.eval (.tmp t)) → (∀ c, ev (.const c) = c) → (∀ f, ev (.func f) = .func (.func f) #[] #[]) → (execOp ev o).run P w = .ok (.enter f args) w')
    (hk : Calls P f args w' fun e w'' => ∃ v, e = .returned v ∧ K (a.put o.dst v) w'') : wpOp P ops Q i K a w := by
  unfold wpOp
  simp only [hi]
  rw [if_pos (by simp [Region.wanted, hg])]
  left
  unfold Oper.wp
  rw [hv a.eval (fun _ => rfl) (fun _ => rfl) (fun _ => rfl)]
  refine Calls.mono hk ?_
  rintro e w'' ⟨v, rfl, h⟩
  exact h
/-- Does any order end with all listed? (an edge leads back, never forward) -/
theorem ready_all (h : ∀ (i : Nat) (o : Oper), ops[i]? = some o → ∀ e ∈ o.after, Region.binds md e = true → e.on < i) (l : Array Bool) (hl : l.size = ops.size) (hr : Region.ready md ops l = []) : ∀ i, i < ops.size → l.getD i false = true := by
  intro i
  induction i using Nat.strongRecOn with
  | ind i ih =>
    intro hi
    cases hx : l.getD i false with
    | true => rfl
    | false =>
      exfalso
      have hil : i < l.size := by omega
      have ho : ops[i]? = some ops[i] := by simp [hi]
      have hm : i ∈ Region.ready md ops l := mem_ready.2 ⟨by simpa [Array.getD_eq_getD_getElem?, hil] using hx, ops[i], ho, fun e he hbd => ih e.on (h i _ ho e he hbd) (by have := h i _ ho e he hbd; omega)⟩
      rw [hr] at hm; cases hm
/-- **The region by its slots.** -/
theorem wp_region_slots {id : Nat} {a0 : Act} {w : World} {PP : Nat → Value → World → Prop} {Grow : World → World → Prop} {G : Array Bool → World → Prop} (hm : P.follows .mixedOrders = true)
    (hdis : ∀ (i j : Nat) (oi oj : Oper) (d : Nat), ops[i]? = some oi → ops[j]? = some oj → oi.dst = some d → oj.dst = some d → i = j)
    (hb : ∀ (i : Nat) (o : Oper) (d : Nat), ops[i]? = some o → o.dst = some d → d < a0.tmps.size) (hback : ∀ (i : Nat) (o : Oper), ops[i]? = some o → ∀ e ∈ o.after, Region.binds .any e = true → e.on < i)
    (hmono : ∀ j u w w', Grow w w' → PP j u w → PP j u w') (hG0 : G (Array.replicate ops.size false) { w with drawn := w.drawn + 1 })
    (hstep : ∀ (i : Nat) (o : Oper), ops[i]? = some o → ∀ listed a w, Slots ops a0 PP listed a w → G listed w → (∀ e ∈ o.after, Region.binds .any e = true → listed.getD e.on false = true) → listed.getD i true = false →
      wpOp P ops Q i (fun a' w' => ∃ v d, o.dst = some d ∧ a' = a.put (some d) v ∧ PP i v w' ∧ Grow w w' ∧ G (listed.setIfInBounds i true) w') a w)
    (hend : ∀ listed a w, (∀ i, i < ops.size → listed.getD i false = true) → Slots ops a0 PP listed a w → G listed w → Q .normal a w) : (Code.region id ops true).wp P Q a0 w := by
  have hr := fun l hl => ready_all (md := .any) hback l hl
  refine wp_region_any hm (wpAny_slots (md := .any) hdis hb hmono hstep hend _ _ _ _ (by simp) (by simp) (hr _ (by simp)) hr ⟨rfl, rfl, fun _ _ => rfl, fun i o d _ _ h => ?_⟩ hG0)
  simp [Array.getD_eq_getD_getElem?, Array.getElem?_replicate] at h
  split at h <;> simp at h
def okDis (ops : Array Oper) : Bool := decide ((ops.toList.map fun o => o.dst).Nodup)
def okB (ops : Array Oper) (n : Nat) : Bool := ops.toList.all fun o => match o.dst with | some d => decide (d < n) | none => true
def okBack (ops : Array Oper) : Bool := (List.range ops.size).all fun i => match ops[i]? with | some o => o.after.toList.all fun e => !Region.binds .any e || decide (e.on < i) | none => true
def noDst (ops : Array Oper) (t : Nat) : Bool := ops.toList.all fun o => o.dst != some t
theorem dis_of (h : okDis ops = true) : ∀ (i j : Nat) (oi oj : Oper) (d : Nat), ops[i]? = some oi → ops[j]? = some oj → oi.dst = some d → oj.dst = some d → i = j := by
  intro i j oi oj d hi hj hd hdj
  have hn : (ops.toList.map fun o => o.dst).Nodup := by simpa [okDis] using h
  have e1 : (ops.toList.map fun o => o.dst)[i]? = some (some d) := by simp [hi, hd]
  have e2 : (ops.toList.map fun o => o.dst)[j]? = some (some d) := by simp [hj, hdj]
  obtain ⟨h1, e1⟩ := List.getElem?_eq_some_iff.1 e1
  obtain ⟨h2, e2⟩ := List.getElem?_eq_some_iff.1 e2
  rcases Nat.lt_trichotomy i j with h3 | h3 | h3
  · exact absurd (e1.trans e2.symm) (List.pairwise_iff_getElem.1 hn i j h1 h2 h3)
  · exact h3
  · exact absurd (e2.trans e1.symm) (List.pairwise_iff_getElem.1 hn j i h2 h1 h3)
theorem b_of {n : Nat} (h : okB ops n = true) : ∀ (i : Nat) (o : Oper) (d : Nat), ops[i]? = some o → o.dst = some d → d < n := by
  intro i o d hi hd
  rw [okB, List.all_eq_true] at h
  have := h o (by obtain ⟨h1, e⟩ := Array.getElem?_eq_some_iff.1 hi; rw [← e]; simp)
  rw [hd] at this
  simpa using this
theorem back_of (h : okBack ops = true) : ∀ (i : Nat) (o : Oper), ops[i]? = some o → ∀ e ∈ o.after, Region.binds .any e = true → e.on < i := by
  intro i o hi e he hbd
  rw [okBack, List.all_eq_true] at h
  have h2 := h i (List.mem_range.2 (Array.getElem?_eq_some_iff.1 hi).1)
  rw [hi] at h2
  simp only [List.all_eq_true] at h2
  simpa [hbd] using h2 e (by simpa using he)
theorem noDst_of {t : Nat} (h : noDst ops t = true) : ∀ (i : Nat) (o : Oper), ops[i]? = some o → o.dst ≠ some t := by
  intro i o hi e
  rw [noDst, List.all_eq_true] at h
  have := h o (by obtain ⟨h1, e⟩ := Array.getElem?_eq_some_iff.1 hi; rw [← e]; simp)
  rw [e] at this
  simp at this
end Go.Proofs.Ytigcomhhgfgmgaa
namespace Go.Proofs.Ytigcomhhgfgmgaa
open Go.RowKit
variable {P : Program} {ops : Array Oper} {Q : Exit → Act → World → Prop} {md : Region.Mode}
theorem Slots.none {a0 a : Act} {PP : Nat → Value → World → Prop} {listed : Array Bool} {w w' : World} {i : Nat} {o : Oper}
    (h : Slots ops a0 PP listed a w) (hi : ops[i]? = some o) (hd : o.dst = none) (hmono : ∀ j u, PP j u w → PP j u w') : Slots ops a0 PP (listed.setIfInBounds i true) a w' := by
  obtain ⟨h1, h2, h3, h4⟩ := h
  refine ⟨h1, h2, h3, fun j oj dj hj hdj hlj => ?_⟩
  by_cases hij : j = i
  · subst hij
    rw [hi] at hj
    cases hj
    rw [hd] at hdj
    cases hdj
  · rw [getD_set_other _ (fun e => hij e.symm)] at hlj
    exact hmono _ _ (h4 j oj dj hj hdj hlj)
theorem wpAny_stores {a0 : Act} {PP : Nat → Value → World → Prop} {Grow : World → World → Prop} {G : Array Bool → World → Prop}
    (hdis : ∀ (i j : Nat) (oi oj : Oper) (d : Nat), ops[i]? = some oi → ops[j]? = some oj → oi.dst = some d → oj.dst = some d → i = j)
    (hb : ∀ (i : Nat) (o : Oper) (d : Nat), ops[i]? = some o → o.dst = some d → d < a0.tmps.size)
    (hmono : ∀ j u w w', Grow w w' → PP j u w → PP j u w')
    (hstep : ∀ (i : Nat) (o : Oper), ops[i]? = some o → ∀ listed a w, Slots ops a0 PP listed a w → G listed w → (∀ e ∈ o.after, Region.binds md e = true → listed.getD e.on false = true) → listed.getD i true = false →
      wpOp P ops Q i (fun a' w' => ((∃ v d, o.dst = some d ∧ a' = a.put (some d) v ∧ PP i v w') ∨ (o.dst = none ∧ a' = a)) ∧ Grow w w' ∧ G (listed.setIfInBounds i true) w') a w)
    (hend : ∀ listed a w, (∀ i, i < ops.size → listed.getD i false = true) → Slots ops a0 PP listed a w → G listed w → Q .normal a w) :
    ∀ fuel listed a w, listed.size = ops.size → listed.toList.count false ≤ fuel → (Region.ready md ops listed = [] → ∀ i, i < ops.size → listed.getD i false = true) →
      (∀ l : Array Bool, l.size = ops.size → Region.ready md ops l = [] → ∀ i, i < ops.size → l.getD i false = true) →
      Slots ops a0 PP listed a w → G listed w → wpAny P md ops Q fuel listed a w
  | 0, listed, a, w, hs, hc, hr0, hr, hS, hG => by
    have hall : ∀ i, i < ops.size → listed.getD i false = true := fun i hi => by
      have h0 : listed.toList.count false = 0 := by omega
      rw [List.count_eq_zero] at h0
      have hi' : i < listed.size := by omega
      have e : listed.getD i false = listed[i] := by simp [Array.getD_eq_getD_getElem?, hi']
      rw [e]
      cases hx : listed[i] with
      | true => rfl
      | false => exact absurd (by rw [← hx]; simp) h0
    refine ⟨?_, hend _ _ _ hall hS hG⟩
    rw [List.eq_nil_iff_forall_not_mem]
    intro i hi
    obtain ⟨h1, o, ho, _⟩ := mem_ready.1 hi
    have hi' : i < ops.size := (Array.getElem?_eq_some_iff.1 ho).1
    have h2 := hall i hi'
    have hil : i < listed.size := by omega
    simp [Array.getD_eq_getD_getElem?, hil] at h1 h2
    rw [h1] at h2; cases h2
  | fuel + 1, listed, a, w, hs, hc, hr0, hr, hS, hG => by
    refine ⟨fun h => hend _ _ _ (hr0 h) hS hG, fun i hi => ?_⟩
    obtain ⟨h1, o, ho, hall⟩ := mem_ready.1 hi
    refine wpOp_mono ?_ (hstep i o ho listed a w hS hG hall h1)
    rintro a' w' ⟨hpu, hg, hG'⟩
    have hS' : Slots ops a0 PP (listed.setIfInBounds i true) a' w' := by
      rcases hpu with ⟨v, d, hd, rfl, hv⟩ | ⟨hd, rfl⟩
      · exact hS.put ho hd h1 (hb i o d ho hd) hdis (fun j u => hmono j u w w' hg) hv
      · exact hS.none ho hd (fun j u => hmono j u w w' hg)
    have hil : i < listed.size := by rw [hs]; exact (Array.getElem?_eq_some_iff.1 ho).1
    refine wpAny_stores hdis hb hmono hstep hend fuel _ _ _ (by simpa using hs) ?_ (hr _ (by simpa using hs)) hr hS' hG'
    have e : listed[i] = false := by simpa [Array.getD_eq_getD_getElem?, hil] using h1
    rw [Array.toList_setIfInBounds, List.count_set (by simpa using hil)]
    have : 0 < listed.toList.count false := List.count_pos_iff.2 (by rw [← e]; simp)
    rw [if_pos (by simp [e]), if_neg (by simp)]
    omega
/-- **The region by its slots.** -/
theorem wp_region_stores {id : Nat} {a0 : Act} {w : World} {PP : Nat → Value → World → Prop} {Grow : World → World → Prop} {G : Array Bool → World → Prop} (hm : P.follows .mixedOrders = true)
    (hdis : ∀ (i j : Nat) (oi oj : Oper) (d : Nat), ops[i]? = some oi → ops[j]? = some oj → oi.dst = some d → oj.dst = some d → i = j)
    (hb : ∀ (i : Nat) (o : Oper) (d : Nat), ops[i]? = some o → o.dst = some d → d < a0.tmps.size) (hback : ∀ (i : Nat) (o : Oper), ops[i]? = some o → ∀ e ∈ o.after, Region.binds .any e = true → e.on < i)
    (hmono : ∀ j u w w', Grow w w' → PP j u w → PP j u w') (hG0 : G (Array.replicate ops.size false) { w with drawn := w.drawn + 1 })
    (hstep : ∀ (i : Nat) (o : Oper), ops[i]? = some o → ∀ listed a w, Slots ops a0 PP listed a w → G listed w → (∀ e ∈ o.after, Region.binds .any e = true → listed.getD e.on false = true) → listed.getD i true = false →
      wpOp P ops Q i (fun a' w' => ((∃ v d, o.dst = some d ∧ a' = a.put (some d) v ∧ PP i v w') ∨ (o.dst = none ∧ a' = a)) ∧ Grow w w' ∧ G (listed.setIfInBounds i true) w') a w)
    (hend : ∀ listed a w, (∀ i, i < ops.size → listed.getD i false = true) → Slots ops a0 PP listed a w → G listed w → Q .normal a w) : (Code.region id ops true).wp P Q a0 w := by
  have hr := fun l hl => ready_all (md := .any) hback l hl
  refine wp_region_any hm (wpAny_stores (md := .any) hdis hb hmono hstep hend _ _ _ _ (by simp) (by simp) (hr _ (by simp)) hr ⟨rfl, rfl, fun _ _ => rfl, fun i o d _ _ h => ?_⟩ hG0)
  simp [Array.getD_eq_getD_getElem?, Array.getElem?_replicate] at h
  split at h <;> simp at h
theorem op_store {i : Nat} {o : Oper} {a : Act} {w w' : World} {K : Act → World → Prop} (hi : ops[i]? = some o) (hg : o.guard = none) (hd : o.dst = none) (hv : ∀ ev : Operand → Value, (∀ t, ev (.tmp t) = a.eval (.tmp t)) → (∀ c, ev (.const c) = c) → (∀ f, ev (.func f) = .func (.func f) #[] #[]) → (execOp ev o).run P w = .ok .skip w') (hk : K a w') : wpOp P ops Q i K a w := by
  unfold wpOp
  simp only [hi]
  rw [if_pos (by simp [Region.wanted, hg])]
  left
  unfold Oper.wp
  rw [hv a.eval (fun _ => rfl) (fun _ => rfl) (fun _ => rfl)]
  show K (a.put o.dst undef) w'
  rw [hd]
  exact hk
/-- No slot twice, stores left out. -/
def okDis2 (ops : Array Oper) : Bool := decide ((ops.toList.filterMap fun o => o.dst).Nodup)
theorem dis_of2 (h : okDis2 ops = true) : ∀ (i j : Nat) (oi oj : Oper) (d : Nat), ops[i]? = some oi → ops[j]? = some oj → oi.dst = some d → oj.dst = some d → i = j := by
  intro i j oi oj d hi hj hd hdj
  have hn : (ops.toList.filterMap fun o => o.dst).Nodup := by simpa [okDis2] using h
  have key : ∀ (l : List Oper) (i j : Nat), (l.filterMap fun o => o.dst).Nodup → l[i]? = some oi → l[j]? = some oj → i = j := by
    intro l
    induction l with
    | nil => intro i j _ h1; simp at h1
    | cons o l ih =>
      intro i j hnd h1 h2
      have mem : ∀ (k : Nat) (ok : Oper), l[k]? = some ok → ok.dst = some d → d ∈ l.filterMap fun o => o.dst := fun k ok hk hk2 => List.mem_filterMap.2 ⟨ok, List.mem_of_getElem? hk, hk2⟩
      cases i with
      | zero =>
        cases j with
        | zero => rfl
        | succ j =>
          simp at h1 h2
          subst h1
          rw [List.filterMap_cons, hd] at hnd
          exact absurd (mem j oj h2 hdj) (List.nodup_cons.1 hnd).1
      | succ i =>
        cases j with
        | zero =>
          simp at h1 h2
          subst h2
          rw [List.filterMap_cons, hdj] at hnd
          exact absurd (mem i oi h1 hd) (List.nodup_cons.1 hnd).1
        | succ j =>
          simp at h1 h2
          have hnd' : (l.filterMap fun o => o.dst).Nodup := by
            rw [List.filterMap_cons] at hnd
            split at hnd
            · exact hnd
            · exact (List.nodup_cons.1 hnd).2
          rw [ih i j hnd' h1 h2]
  exact key ops.toList i j hn (by simpa using hi) (by simpa using hj)
end Go.Proofs.Ytigcomhhgfgmgaa
namespace Go.Proofs.Ytigcomhhgfgmgaa
open Go.RowKit Go.Shelf
/-- What a draw of a deed returns. -/
def DeedDrawn (w : World) (R k : Nat) (e : Ending) (w' : World) : Prop :=
  ∃ x y z : Int, e = .returned (.agg #[.int .i64 x, .int .i64 y, .int .i64 z]) ∧ Rd w' R (k + 6) ∧ w.grownBy w' (some R)
/-- Numbers in the first cells of a block, which may be written. -/
def NumsIn (w : World) (b : Nat) : Prop :=
  (∃ x y z : Int, w.cell? ⟨b, 0, none⟩ = some (.int .i64 x) ∧ w.cell? ⟨b, 1, none⟩ = some (.int .i64 y) ∧ w.cell? ⟨b, 2, none⟩ = some (.int .i64 z)) ∧ w.frozen? ⟨b, 0, none⟩ = false ∧ w.frozen? ⟨b, 1, none⟩ = false ∧ w.frozen? ⟨b, 2, none⟩ = false
/-- Numbers stay numbers. -/
def GrowI (R : Nat) (w w' : World) : Prop := w.heap.size ≤ w'.heap.size ∧ ∀ b i, b < w.heap.size → b ≠ R → (∀ x : Int, w.cell? ⟨b, i, none⟩ = some (.int .i64 x) → ∃ y : Int, w'.cell? ⟨b, i, none⟩ = some (.int .i64 y)) ∧ w'.frozen? ⟨b, i, none⟩ = w.frozen? ⟨b, i, none⟩
theorem growI_refl (R : Nat) (w : World) : GrowI R w w := ⟨Nat.le_refl _, fun _ _ _ _ => ⟨fun x h => ⟨x, h⟩, rfl⟩⟩
theorem growI_of {R : Nat} {w w' : World} (hg : w.grownBy w' (some R)) : GrowI R w w' :=
  ⟨hg.size, fun b i hb hne => ⟨fun x h => ⟨x, ((gcell hg).1 b i hb hne).trans h⟩, (gcell hg).2 b i hb hne⟩⟩
theorem growI_alloc (R : Nat) (w : World) (o : Obj) : GrowI R w (w.alloc o) := growI_of (gr_alloc (gr_refl w R) o)
theorem growI_store {R b : Nat} {w : World} {x y z n m l : Int} (c0 : w.cell? ⟨b, 0, none⟩ = some (.int .i64 x)) (c1 : w.cell? ⟨b, 1, none⟩ = some (.int .i64 y)) (c2 : w.cell? ⟨b, 2, none⟩ = some (.int .i64 z)) :
    GrowI R w (((w.setCell ⟨b, 0, none⟩ (.int .i64 n)).setCell ⟨b, 1, none⟩ (.int .i64 m)).setCell ⟨b, 2, none⟩ (.int .i64 l)) := by
  have one : ∀ (w : World) (o : Nat) (x n : Int), w.cell? ⟨b, o, none⟩ = some (.int .i64 x) → ∀ (b' i : Nat) (y : Int), w.cell? ⟨b', i, none⟩ = some (.int .i64 y) → ∃ z : Int, (w.setCell ⟨b, o, none⟩ (.int .i64 n)).cell? ⟨b', i, none⟩ = some (.int .i64 z) := fun w o x n hx b' i y hy => by
    by_cases e : b = b' ∧ o = i
    · obtain ⟨rfl, rfl⟩ := e
      exact ⟨n, World.cell?_setCell_same' _ _ _ (by rw [hx]; rfl)⟩
    · exact ⟨y, (World.cell?_setCell_other _ _ _ _ (fun h => e (by injection h with h1 h2; exact ⟨h1, h2⟩))).trans hy⟩
  refine ⟨by simp [World.setCell], fun b' i _ _ => ⟨fun u hu => ?_, by rw [World.frozen?_setCell, World.frozen?_setCell, World.frozen?_setCell]⟩⟩
  obtain ⟨u1, h1⟩ := one w 0 x n c0 b' i u hu
  obtain ⟨d1, g1⟩ := one w 0 x n c0 b 1 y c1
  obtain ⟨d2, g2⟩ := one w 0 x n c0 b 2 z c2
  obtain ⟨u2, h2⟩ := one _ 1 d1 m g1 b' i u1 h1
  obtain ⟨d3, g3⟩ := one _ 1 d1 m g1 b 2 d2 g2
  exact one _ 2 d3 l g3 b' i u2 h2
theorem growI_set {R b o : Nat} {w : World} {x : Int} (n : Int) (c : w.cell? ⟨b, o, none⟩ = some (.int .i64 x)) : GrowI R w (w.setCell ⟨b, o, none⟩ (.int .i64 n)) := by
  refine ⟨by simp [World.setCell], fun b' i _ _ => ⟨fun u hu => ?_, by rw [World.frozen?_setCell]⟩⟩
  by_cases e : b = b' ∧ o = i
  · obtain ⟨rfl, rfl⟩ := e
    exact ⟨n, World.cell?_setCell_same' _ _ _ (by rw [c]; rfl)⟩
  · exact ⟨u, (World.cell?_setCell_other _ _ _ _ (fun h => e (by injection h with h1 h2; exact ⟨h1, h2⟩))).trans hu⟩
theorem NumsIn.grow {R b : Nat} {w w' : World} (h : w.heap.size > b ∧ NumsIn w b) (hg : GrowI R w w') (hb : b ≠ R) : w'.heap.size > b ∧ NumsIn w' b := by
  obtain ⟨hl, ⟨x, y, z, c0, c1, c2⟩, f0, f1, f2⟩ := h
  obtain ⟨hs, hg⟩ := hg
  obtain ⟨x', d0⟩ := (hg b 0 hl hb).1 x c0
  obtain ⟨y', d1⟩ := (hg b 1 hl hb).1 y c1
  obtain ⟨z', d2⟩ := (hg b 2 hl hb).1 z c2
  exact ⟨Nat.lt_of_lt_of_le hl hs, ⟨x', y', z', d0, d1, d2⟩, (hg b 0 hl hb).2.trans f0, (hg b 1 hl hb).2.trans f1, (hg b 2 hl hb).2.trans f2⟩
theorem numsIn_new (w : World) (t : TypeId) : NumsIn (w.alloc (.cells #[.int .i64 0, .int .i64 0, .int .i64 0] t)) w.heap.size := by
  refine ⟨⟨0, 0, 0, ?_, ?_, ?_⟩, ?_, ?_, ?_⟩
  · exact World.cell?_alloc_mark _ _ _ _ _
  · exact World.cell?_alloc_mark _ _ _ _ _
  · exact World.cell?_alloc_mark _ _ _ _ _
  all_goals (unfold World.frozen?; rw [heap_alloc_new]; simp)
theorem seven_is {j : Nat} (h : j < 7) : ∃ x : Int, (#[.int .i64 0, .int .i64 0, .int .i64 0, .int .i64 1, .int .i64 2, .int .i64 3, .int .i64 4] : Array Value)[j]? = some (.int .i64 x) := by
  rcases (show j = 0 ∨ j = 1 ∨ j = 2 ∨ j = 3 ∨ j = 4 ∨ j = 5 ∨ j = 6 by omega) with rfl | rfl | rfl | rfl | rfl | rfl | rfl <;> exact ⟨_, rfl⟩
/-- What each of the operations leaves. -/
def deedP (w0 R j : Nat) (v : Value) (w : World) : Prop :=
  match j with
  | 0 => ∃ b, v = .slice (some ⟨b, 0, none⟩) 7 7 ∧ b ≠ R ∧ b < w.heap.size ∧ ∀ i, i < 7 → ∃ x : Int, w.cell? ⟨b, i, none⟩ = some (.int .i64 x)
  | 1 => v = .pointer (some ⟨R, 0, none⟩)
  | 2 => ∃ n : Int, v = .int .i64 n ∧ 0 ≤ n ∧ n ≤ 6
  | 3 => ∃ b i x, v = .pointer (some ⟨b, i, none⟩) ∧ b ≠ R ∧ b < w.heap.size ∧ w.cell? ⟨b, i, none⟩ = some (.int .i64 x)
  | 5 => v = .pointer (some ⟨R, 0, none⟩)
  | 6 => ∃ n : Int, v = .int .i64 n ∧ 0 ≤ n ∧ n ≤ 59
  | 7 => ∃ n : Int, v = .int .i64 n ∧ 0 ≤ n ∧ n ≤ 1
  | 8 => ∃ n : Int, v = .int .i64 n ∧ 0 ≤ n ∧ n ≤ 5
  | 10 => ∃ n : Int, v = .agg #[.int .i64 n, .int .i64 0, .int .i64 0]
  | 11 => ∃ b, v = .pointer (some ⟨b, 0, none⟩) ∧ b ≠ R ∧ (w0 < b ∧ b < w.heap.size) ∧ NumsIn w b
  | _ => ∃ n : Int, v = .int .i64 n
theorem deedP_mono (w0 R j : Nat) (v : Value) (w w' : World) (hg : GrowI R w w') (h : deedP w0 R j v w) : deedP w0 R j v w' := by
  unfold deedP at *
  split at h
  · obtain ⟨b, e, h1, h2, h3⟩ := h
    refine ⟨b, e, h1, Nat.lt_of_lt_of_le h2 hg.1, fun i hi => ?_⟩
    obtain ⟨x, hx⟩ := h3 i hi
    exact (hg.2 b i h2 h1).1 x hx
  · exact h
  · exact h
  · obtain ⟨b, i, x, e, h1, h2, h3⟩ := h
    obtain ⟨y, hy⟩ := (hg.2 b i h2 h1).1 x h3
    exact ⟨b, i, y, e, h1, Nat.lt_of_lt_of_le h2 hg.1, hy⟩
  · exact h
  · exact h
  · exact h
  · exact h
  · exact h
  · obtain ⟨b, e, h1, h2, h3⟩ := h
    obtain ⟨h4, h5⟩ := NumsIn.grow ⟨h2.2, h3⟩ hg h1
    exact ⟨b, e, h1, ⟨h2.1, h4⟩, h5⟩
  · exact h
def indD (l : Array Bool) (j : Nat) : Nat := if l.getD j false = true then 1 else 0
/-- How many picks have come up. -/
def deedC (l : Array Bool) : Nat := indD l 2 + indD l 6
theorem indD_le (l : Array Bool) (j : Nat) : indD l j ≤ 1 := by unfold indD; split <;> omega
theorem indD_other {l : Array Bool} {i j : Nat} (h : i ≠ j) : indD (l.setIfInBounds i true) j = indD l j := by unfold indD; rw [getD_set_other _ h]
theorem indD_self {l : Array Bool} {i : Nat} (h : l.getD i true = false) : indD (l.setIfInBounds i true) i = indD l i + 1 := by
  have h1 := getD_set_self h
  have h2 : l.getD i false = false := by
    rcases Nat.lt_or_ge i l.size with hx | hx
    · simp [Array.getD_eq_getD_getElem?, hx] at h ⊢; exact h
    · simp [Array.getD_eq_getD_getElem?, Array.getElem?_eq_none hx]
  unfold indD; rw [if_pos h1, if_neg (by rw [h2]; simp)]
theorem deedC_le (l : Array Bool) : deedC l ≤ 2 := by
  have := indD_le l 2; have := indD_le l 6
  unfold deedC; omega
theorem deedC_other {l : Array Bool} {i : Nat} (h1 : i ≠ 2) (h3 : i ≠ 6) : deedC (l.setIfInBounds i true) = deedC l := by
  unfold deedC; rw [indD_other h1, indD_other h3]
theorem deedC_2 {l : Array Bool} (h : l.getD 2 true = false) : deedC (l.setIfInBounds 2 true) = deedC l + 1 := by
  unfold deedC; rw [indD_self h, indD_other (i := 2) (j := 6) (by decide)]; omega
theorem deedC_6 {l : Array Bool} (h : l.getD 6 true = false) : deedC (l.setIfInBounds 6 true) = deedC l + 1 := by
  unfold deedC; rw [indD_self h, indD_other (i := 6) (j := 2) (by decide)]; omega
theorem arr35 (t : Array Value) (h : t.size = 35) : t = #[t.getD 0 undef, t.getD 1 undef, t.getD 2 undef, t.getD 3 undef, t.getD 4 undef, t.getD 5 undef, t.getD 6 undef, t.getD 7 undef, t.getD 8 undef, t.getD 9 undef, t.getD 10 undef, t.getD 11 undef, t.getD 12 undef, t.getD 13 undef, t.getD 14 undef, t.getD 15 undef, t.getD 16 undef, t.getD 17 undef, t.getD 18 undef, t.getD 19 undef, t.getD 20 undef, t.getD 21 undef, t.getD 22 undef, t.getD 23 undef, t.getD 24 undef, t.getD 25 undef, t.getD 26 undef, t.getD 27 undef, t.getD 28 undef, t.getD 29 undef, t.getD 30 undef, t.getD 31 undef, t.getD 32 undef, t.getD 33 undef, t.getD 34 undef] := by
  apply Array.ext
  · simpa using h
  · intro i h1 h2
    have h3 : i < 35 := by omega
    rcases (show i = 0 ∨ i = 1 ∨ i = 2 ∨ i = 3 ∨ i = 4 ∨ i = 5 ∨ i = 6 ∨ i = 7 ∨ i = 8 ∨ i = 9 ∨ i = 10 ∨ i = 11 ∨ i = 12 ∨ i = 13 ∨ i = 14 ∨ i = 15 ∨ i = 16 ∨ i = 17 ∨ i = 18 ∨ i = 19 ∨ i = 20 ∨ i = 21 ∨ i = 22 ∨ i = 23 ∨ i = 24 ∨ i = 25 ∨ i = 26 ∨ i = 27 ∨ i = 28 ∨ i = 29 ∨ i = 30 ∨ i = 31 ∨ i = 32 ∨ i = 33 ∨ i = 34 by omega) with rfl | rfl | rfl | rfl | rfl | rfl | rfl | rfl | rfl | rfl | rfl | rfl | rfl | rfl | rfl | rfl | rfl | rfl | rfl | rfl | rfl | rfl | rfl | rfl | rfl | rfl | rfl | rfl | rfl | rfl | rfl | rfl | rfl | rfl | rfl <;> simp [Array.getD, h]
theorem act35 (t : Array Value) (h : t.size = 35) (v0 v2 v3 : Value) (h0 : t.getD 0 undef = v0) (h2 : t.getD 2 undef = v2) (h3 : t.getD 3 undef = v3) : ∃ u1 u4 u5 u6 u7 u8 u9 u10 u11 u12 u13 u14 u15 u16 u17 u18 u19 u20 u21 u22 u23 u24 u25 u26 u27 u28 u29 u30 u31 u32 u33 u34 : Value, t = #[v0, u1, v2, v3, u4, u5, u6, u7, u8, u9, u10, u11, u12, u13, u14, u15, u16, u17, u18, u19, u20, u21, u22, u23, u24, u25, u26, u27, u28, u29, u30, u31, u32, u33, u34] :=
  ⟨_, _, _, _, _, _, _, _, _, _, _, _, _, _, _, _, _, _, _, _, _, _, _, _, _, _, _, _, _, _, _, _, by rw [← h0, ← h2, ← h3]; exact arr35 t h⟩
/-- A deed under way, in a variable of its own. -/
def Half (w : World) (R k : Nat) (s : Value) (wx : World) : Prop :=
  ∃ b, s = .pointer (some ⟨b, 0, none⟩) ∧ b ≠ R ∧ w.heap.size < b ∧ (wx.heap.size > b ∧ NumsIn wx b) ∧ (wx.heap.size > w.heap.size ∧ NumsIn wx w.heap.size) ∧ Rd wx R k ∧ w.grownBy wx (some R)
set_option linter.unusedSimpArgs false in
set_option maxRecDepth 100000 in
set_option maxHeartbeats 16000000 in
theorem l20Deed_any (R k : Nat) (w : World) (h : Rd w R k) (hk : k ≤ 1000000) :
    Calls Try.prog 44 #[.pointer (some ⟨R, 0, none⟩)] w (DeedDrawn w R k) := by
  have hen : ∀ (args : Array Value) (w : World), (callFunc 61 args).run Try.prog w = .ok (.enter 61 args) w := enters_of Try.func61 (by kernel_rfl) rfl
  have hRlt := h.lt
  have hR0 : w.heap.size ≠ R := by omega
  go_enter Try.func44, Try.ntmps44
  go_wp2_with fail
  rename_i K hK
  refine wp_region_stores (PP := deedP w.heap.size R) (Grow := GrowI R) (G := fun l w' => w.grownBy w' (some R) ∧ Rd w' R (k + deedC l) ∧ w'.heap.size > w.heap.size ∧ NumsIn w' w.heap.size) (by kernel_rfl) (dis_of2 (by kernel_rfl)) (b_of (by kernel_rfl)) (back_of (by kernel_rfl)) (fun j u w1 w2 hg hp => deedP_mono _ R j u w1 w2 hg hp) ⟨gr_drew (gr_alloc (gr_refl _ _) _), h.alloc _, (show w.heap.size < (w.alloc (.cells #[.int .i64 0, .int .i64 0, .int .i64 0] 38)).heap.size by simp), numsIn_new w _⟩ ?step ?fin
  case step =>
    intro i o hi listed a w1 hS hG hall hl
    have hi25 : i < 13 := (Array.getElem?_eq_some_iff.1 hi).1
    rcases (show i = 0 ∨ i = 1 ∨ i = 2 ∨ i = 3 ∨ i = 4 ∨ i = 5 ∨ i = 6 ∨ i = 7 ∨ i = 8 ∨ i = 9 ∨ i = 10 ∨ i = 11 ∨ i = 12 by omega) with rfl | rfl | rfl | rfl | rfl | rfl | rfl | rfl | rfl | rfl | rfl | rfl | rfl
    · obtain rfl := Option.some.inj hi
      refine op_value (v := .slice (some ⟨w1.heap.size, 0, none⟩) 7 7) (w' := w1.alloc (.cells #[.int .i64 0, .int .i64 0, .int .i64 0, .int .i64 1, .int .i64 2, .int .i64 3, .int .i64 4] 3)) rfl rfl (by intro ev ht hc hf; simp [execOp, ht, hc, hf, go_sem]) ⟨.inl ⟨_, 4, rfl, rfl, ⟨w1.heap.size, rfl, by have := hG.2.1.lt; omega, by simp, fun j hj => by rw [World.cell?_alloc_mark]; exact seven_is hj⟩⟩, growI_alloc _ _ _, gr_alloc hG.1 _, by rw [deedC_other (by decide) (by decide)]; exact hG.2.1.alloc _, NumsIn.grow hG.2.2 (growI_alloc _ _ _) hR0⟩
    · obtain rfl := Option.some.inj hi
      have e0 : a.eval (.tmp 0) = .pointer (some ⟨R, 0, none⟩) := hS.2.2.1 0 (noDst_of (by kernel_rfl))
      refine op_value (v := .pointer (some ⟨R, 0, none⟩)) (w' := w1) rfl rfl (by intro ev ht hc hf; rw [← ht] at e0; simp [execOp, hc, hf, e0, go_sem]) ⟨.inl ⟨_, 5, rfl, rfl, rfl⟩, growI_refl _ _, ⟨hG.1, by rw [deedC_other (by decide) (by decide)]; exact hG.2.1, hG.2.2⟩⟩
    · obtain rfl := Option.some.inj hi
      have P1 := hS.2.2.2 1 _ 5 rfl rfl (hall { on := 1, ground := .data } (by simp) rfl)
      replace P1 : a.eval (.tmp 5) = .pointer (some ⟨R, 0, none⟩) := P1
      refine op_enter rfl rfl (f := 61) (args := #[.pointer (some ⟨R, 0, none⟩), .int .i64 7]) (w' := w1) (by intro ev ht hc hf; rw [← ht] at P1; simp [execOp, hc, hf, P1, go_sem, hen]) ?_
      refine (pick_any R (k + deedC listed) 7 w1 hG.2.1 (by have := deedC_le listed; omega) (by omega)).mono ?_
      rintro e w2 ⟨v, rfl, va, vb, hR, hg⟩
      exact ⟨_, rfl, .inl ⟨_, 6, rfl, rfl, ⟨v, rfl, va, by show v ≤ (6 : Int); omega⟩⟩, growI_of hg, gr_trans hG.1 hg, by rw [deedC_2 hl]; exact hR, NumsIn.grow hG.2.2 (growI_of hg) hR0⟩
    · obtain rfl := Option.some.inj hi
      have P0 := hS.2.2.2 0 _ 4 rfl rfl (hall { on := 0, ground := .data } (by simp) rfl)
      obtain ⟨b, eb, hbR, hbl, hbc⟩ := P0
      have P2 := hS.2.2.2 2 _ 6 rfl rfl (hall { on := 2, ground := .data } (by simp) rfl)
      obtain ⟨n2, e2, l2, h2⟩ := P2
      have hb4 : n2 < 7 := by omega
      obtain ⟨x, hx⟩ := hbc n2.toNat (by omega)
      refine op_value (v := .pointer (some ⟨b, n2.toNat, none⟩)) (w' := w1) rfl rfl (by intro ev ht hc hf; rw [← ht] at eb e2; simp [execOp, hc, hf, eb, e2, go_sem, l2, hb4]) ⟨.inl ⟨_, 7, rfl, rfl, ⟨b, n2.toNat, x, rfl, hbR, hbl, hx⟩⟩, growI_refl _ _, ⟨hG.1, by rw [deedC_other (by decide) (by decide)]; exact hG.2.1, hG.2.2⟩⟩
    · obtain rfl := Option.some.inj hi
      have P3 := hS.2.2.2 3 _ 7 rfl rfl (hall { on := 3, ground := .data } (by simp) rfl)
      obtain ⟨b, j, x, ep, hbR, hbl, hx⟩ := P3
      refine op_value (v := .int .i64 x) (w' := w1) rfl rfl (by intro ev ht hc hf; rw [← ht] at ep; simp [execOp, hc, hf, ep, go_sem, hx]) ⟨.inl ⟨_, 8, rfl, rfl, ⟨x, rfl⟩⟩, growI_refl _ _, ⟨hG.1, by rw [deedC_other (by decide) (by decide)]; exact hG.2.1, hG.2.2⟩⟩
    · obtain rfl := Option.some.inj hi
      have e0 : a.eval (.tmp 0) = .pointer (some ⟨R, 0, none⟩) := hS.2.2.1 0 (noDst_of (by kernel_rfl))
      refine op_value (v := .pointer (some ⟨R, 0, none⟩)) (w' := w1) rfl rfl (by intro ev ht hc hf; rw [← ht] at e0; simp [execOp, hc, hf, e0, go_sem]) ⟨.inl ⟨_, 9, rfl, rfl, rfl⟩, growI_refl _ _, ⟨hG.1, by rw [deedC_other (by decide) (by decide)]; exact hG.2.1, hG.2.2⟩⟩
    · obtain rfl := Option.some.inj hi
      have P5 := hS.2.2.2 5 _ 9 rfl rfl (hall { on := 5, ground := .data } (by simp) rfl)
      replace P5 : a.eval (.tmp 9) = .pointer (some ⟨R, 0, none⟩) := P5
      refine op_enter rfl rfl (f := 61) (args := #[.pointer (some ⟨R, 0, none⟩), .int .i64 60]) (w' := w1) (by intro ev ht hc hf; rw [← ht] at P5; simp [execOp, hc, hf, P5, go_sem, hen]) ?_
      refine (pick_any R (k + deedC listed) 60 w1 hG.2.1 (by have := deedC_le listed; omega) (by omega)).mono ?_
      rintro e w2 ⟨v, rfl, va, vb, hR, hg⟩
      exact ⟨_, rfl, .inl ⟨_, 10, rfl, rfl, ⟨v, rfl, va, by show v ≤ (59 : Int); omega⟩⟩, growI_of hg, gr_trans hG.1 hg, by rw [deedC_6 hl]; exact hR, NumsIn.grow hG.2.2 (growI_of hg) hR0⟩
    · obtain rfl := Option.some.inj hi
      have P6 := hS.2.2.2 6 _ 10 rfl rfl (hall { on := 6, ground := .data } (by simp) rfl)
      obtain ⟨n6, e6, l6, h6⟩ := P6
      have vt : n6.tdiv 59 = n6 / 59 := Int.tdiv_eq_ediv_of_nonneg l6
      have vw : IntKind.i64.wrap (n6 / 59) = n6 / 59 := by rw [IntKind.wrap_i64]; omega
      refine op_value (v := .int .i64 (n6 / 59)) (w' := w1) rfl rfl (by intro ev ht hc hf; rw [← ht] at e6; simp [execOp, hc, hf, e6, vt, vw, go_sem]) ⟨.inl ⟨_, 11, rfl, rfl, ⟨n6 / 59, rfl, by omega, by omega⟩⟩, growI_refl _ _, ⟨hG.1, by rw [deedC_other (by decide) (by decide)]; exact hG.2.1, hG.2.2⟩⟩
    · obtain rfl := Option.some.inj hi
      have P7 := hS.2.2.2 7 _ 11 rfl rfl (hall { on := 7, ground := .data } (by simp) rfl)
      obtain ⟨n7, e7, l7, h7⟩ := P7
      have vw : IntKind.i64.wrap (n7 * 5) = n7 * 5 := by rw [IntKind.wrap_i64]; omega
      refine op_value (v := .int .i64 (n7 * 5)) (w' := w1) rfl rfl (by intro ev ht hc hf; rw [← ht] at e7; simp [execOp, hc, hf, e7, vw, go_sem]) ⟨.inl ⟨_, 12, rfl, rfl, ⟨n7 * 5, rfl, by omega, by omega⟩⟩, growI_refl _ _, ⟨hG.1, by rw [deedC_other (by decide) (by decide)]; exact hG.2.1, hG.2.2⟩⟩
    · obtain rfl := Option.some.inj hi
      have P4 := hS.2.2.2 4 _ 8 rfl rfl (hall { on := 4, ground := .data } (by simp) rfl)
      obtain ⟨n4, e4⟩ := P4
      have P8 := hS.2.2.2 8 _ 12 rfl rfl (hall { on := 8, ground := .data } (by simp) rfl)
      obtain ⟨n8, e8, l8, h8⟩ := P8
      refine op_value (v := .int .i64 (IntKind.i64.wrap (n4 + n8))) (w' := w1) rfl rfl (by intro ev ht hc hf; rw [← ht] at e4 e8; simp [execOp, hc, hf, e4, e8, go_sem]) ⟨.inl ⟨_, 13, rfl, rfl, ⟨_, rfl⟩⟩, growI_refl _ _, ⟨hG.1, by rw [deedC_other (by decide) (by decide)]; exact hG.2.1, hG.2.2⟩⟩
    · obtain rfl := Option.some.inj hi
      have P9 := hS.2.2.2 9 _ 13 rfl rfl (hall { on := 9, ground := .data } (by simp) rfl)
      obtain ⟨n9, e9⟩ := P9
      refine op_value (v := .agg #[.int .i64 n9, .int .i64 0, .int .i64 0]) (w' := w1) rfl rfl (by intro ev ht hc hf; rw [← ht] at e9; simp [execOp, hc, hf, e9, go_sem]; try go_simp) ⟨.inl ⟨_, 14, rfl, rfl, ⟨n9, rfl⟩⟩, growI_refl _ _, ⟨hG.1, by rw [deedC_other (by decide) (by decide)]; exact hG.2.1, hG.2.2⟩⟩
    · obtain rfl := Option.some.inj hi
      refine op_value (v := .pointer (some ⟨w1.heap.size, 0, none⟩)) (w' := w1.alloc (.cells #[.int .i64 0, .int .i64 0, .int .i64 0] 38)) rfl rfl (by intro ev ht hc hf; simp [execOp, ht, hc, hf, go_sem]; try go_simp) ⟨.inl ⟨_, 3, rfl, rfl, ⟨w1.heap.size, rfl, by have := hG.2.1.lt; omega, ⟨hG.2.2.1, by simp⟩, numsIn_new _ _⟩⟩, growI_alloc _ _ _, gr_alloc hG.1 _, by rw [deedC_other (by decide) (by decide)]; exact hG.2.1.alloc _, NumsIn.grow hG.2.2 (growI_alloc _ _ _) hR0⟩
    · obtain rfl := Option.some.inj hi
      have P11 := hS.2.2.2 11 _ 3 rfl rfl (hall { on := 11, ground := .data } (by simp) rfl)
      obtain ⟨b, eb, hbR, ⟨hb1, hb2⟩, ⟨x, y, z, c0, c1, c2⟩, f0, f1, f2⟩ := P11
      have P10 := hS.2.2.2 10 _ 14 rfl rfl (hall { on := 10, ground := .data } (by simp) rfl)
      obtain ⟨n, en⟩ := P10
      have hbR' : R < b := by omega
      refine op_store (w' := ((w1.setCell ⟨b, 0, none⟩ (.int .i64 n)).setCell ⟨b, 1, none⟩ (.int .i64 0)).setCell ⟨b, 2, none⟩ (.int .i64 0)) rfl rfl rfl (by intro ev ht hc hf; rw [← ht] at eb en; simp [execOp, hc, hf, eb, en, go_sem, c0, c1, c2, f0, f1, f2]; try go_simp) ⟨.inr ⟨rfl, rfl⟩, growI_store c0 c1 c2, gr_set (gr_set (gr_set hG.1 (by show _ ≤ b; omega) _) (by show _ ≤ b; omega) _) (by show _ ≤ b; omega) _, by rw [deedC_other (by decide) (by decide)]; exact ((hG.2.1.set (q := ⟨b, 0, none⟩) hbR' _).set (q := ⟨b, 1, none⟩) hbR' _).set (q := ⟨b, 2, none⟩) hbR' _, NumsIn.grow hG.2.2 (growI_store c0 c1 c2) hR0⟩
  case fin =>
    intro listed a w1 hall hS hG
    obtain ⟨b, e3, hbR, ⟨hb1, hb2⟩, hbN⟩ := hS.2.2.2 11 _ 3 rfl rfl (hall 11 (by decide))
    have e0 : a.eval (.tmp 0) = .pointer (some ⟨R, 0, none⟩) := hS.2.2.1 0 (noDst_of (by kernel_rfl))
    have e2 : a.eval (.tmp 2) = .pointer (some ⟨w.heap.size, 0, none⟩) := hS.2.2.1 2 (noDst_of (by kernel_rfl))
    have hd : a.defers = [] := hS.1
    have hsz : a.tmps.size = 35 := hS.2.1
    have hR1 : Rd w1 R (k + 2) := hG.2.1.mono (by have := deedC_le listed; omega)
    have hg1 := hG.1
    have hN1 : w1.heap.size > b ∧ NumsIn w1 b := ⟨hb2, hbN⟩
    have hM1 := hG.2.2
    obtain ⟨t, d⟩ := a
    clear hS hG hall
    dsimp only at hd hsz
    subst hd
    obtain ⟨u1, u4, u5, u6, u7, u8, u9, u10, u11, u12, u13, u14, u15, u16, u17, u18, u19, u20, u21, u22, u23, u24, u25, u26, u27, u28, u29, u30, u31, u32, u33, u34, rfl⟩ := act35 t hsz _ _ _ e0 e2 e3
    clear e0 e2 e3 hsz hen
    refine hK _ _ ?_
    clear hK K
    obtain ⟨_, ⟨x, y, z, c0, c1, c2⟩, f0, f1, f2⟩ := id hN1
    obtain ⟨_, ⟨rx, ry, rz, r0, r1, r2⟩, t0, t1, t2⟩ := id hM1
    go_upto_if 17 with fail
    go_cut [3] from 4 (fun s3 wx => Half w R (k + 4) s3 wx)
    case first =>
      by_cases hx0 : x = 0
      · subst hx0
        go_wp2_with fail
        refine (pick_any R (k + 2) 11 _ hR1 (by omega) (by omega)).mono ?_
        rintro e w2 ⟨v2, rfl, va2, vb2, hR2, hh2⟩
        have hN2 := NumsIn.grow hN1 (growI_of hh2) hbR
        have hM2 := NumsIn.grow hM1 (growI_of hh2) hR0
        clear c0 c1 c2 f0 f1 f2 r0 r1 r2 t0 t1 t2
        obtain ⟨_, ⟨x2, y2, z2, c0, c1, c2⟩, f0, f1, f2⟩ := id hN2
        have hN3 := NumsIn.grow hN2 (growI_set (IntKind.i64.wrap (v2 - 5)) c1) hbR
        have hM3 := NumsIn.grow hM2 (growI_set (R := R) (IntKind.i64.wrap (v2 - 5)) c1) hR0
        have hRb : R < b := by omega
        have hR3 := hR2.set (q := ⟨b, 1, none⟩) hRb (.int .i64 (IntKind.i64.wrap (v2 - 5)))
        have w25 : IntKind.i64.wrap (v2 - 5) = v2 - 5 := by rw [IntKind.wrap_i64]; omega
        rw [w25] at hN3 hM3 hR3
        have hg3 : w.grownBy (w2.setCell ⟨b, 1, none⟩ (.int .i64 (v2 - 5))) (some R) := gr_set (gr_trans hg1 hh2) (by show _ ≤ b; omega) _
        go_wp2_with fail
        refine (pick_any R (k + 3) 11 _ hR3 (by omega) (by omega)).mono ?_
        rintro e w4 ⟨v4, rfl, va4, vb4, hR4, hh4⟩
        have hN4 := NumsIn.grow hN3 (growI_of hh4) hbR
        have hM4 := NumsIn.grow hM3 (growI_of hh4) hR0
        clear c0 c1 c2 f0 f1 f2
        obtain ⟨_, ⟨x4, y4, z4, c0, c1, c2⟩, f0, f1, f2⟩ := id hN4
        have w45 : IntKind.i64.wrap (v4 - 5) = v4 - 5 := by rw [IntKind.wrap_i64]; omega
        go_wp2_with fail
        go_meet
        case rel => exact ⟨b, rfl, hbR, hb1, NumsIn.grow hN4 (growI_set _ c2) hbR, NumsIn.grow hM4 (growI_set (R := R) _ c2) hR0, hR4.set (q := ⟨b, 2, none⟩) hRb _, gr_set (gr_trans hg3 hh4) (by show _ ≤ b; omega) _⟩
      · go_wp2_with fail
        go_meet
        case rel => exact ⟨b, rfl, hbR, hb1, hN1, hM1, hR1.mono (by omega), hg1⟩
    clear c0 c1 c2 f0 f1 f2 r0 r1 r2 t0 t1 t2
    obtain ⟨b', rfl, hbR', hb1', hN2, hM2, hR2, hg2⟩ := hcut
    rename World => w2
    go_wp2_with fail
    refine (odd_any R (k + 4) 40 _ hR2 (by omega) (by omega)).mono ?_
    rintro e w3 ⟨bb, rfl, hR3, hh3⟩
    have hN3 := NumsIn.grow hN2 (growI_of hh3) hbR'
    have hM3 := NumsIn.grow hM2 (growI_of hh3) hR0
    have hg3 := gr_trans hg2 hh3
    have hRb : R < b' := by omega
    clear hN2 hM2 hg2 hh3 hR2
    go_upto_if 27 with fail
    go_cut [3] from 4 (fun s3 wx => Half w R (k + 6) s3 wx)
    case first =>
      cases bb with
      | true =>
        go_wp2_with fail
        refine (pick_any R (k + 5) 3 _ (hR3.alloc _) (by omega) (by omega)).mono ?_
        rintro e w4 ⟨v4, rfl, va4, vb4, hR4, hh4⟩
        have hN4 := NumsIn.grow (NumsIn.grow hN3 (growI_alloc R _ _) hbR') (growI_of hh4) hbR'
        have hM4 := NumsIn.grow (NumsIn.grow hM3 (growI_alloc R _ _) hR0) (growI_of hh4) hR0
        obtain ⟨_, ⟨x4, y4, z4, c0, c1, c2⟩, f0, f1, f2⟩ := id hN4
        have hz3 := hR3.lt
        have hz4 := hh4.size
        simp at hz4
        have hg4 := gr_trans (gr_alloc hg3 (.cells #[.int .i64 (-10), .int .i64 10, .int .i64 1] 3)) hh4
        have hcv : ∃ x : Int, w4.cell? ⟨w3.heap.size, v4.toNat, none⟩ = some (.int .i64 x) := by
          rcases (show v4 = 0 ∨ v4 = 1 ∨ v4 = 2 by omega) with rfl | rfl | rfl
          · exact ⟨-10, ((gcell hh4).1 w3.heap.size 0 (by simp) (by omega)).trans (by go_simp)⟩
          · exact ⟨10, ((gcell hh4).1 w3.heap.size 1 (by simp) (by omega)).trans (by go_simp)⟩
          · exact ⟨1, ((gcell hh4).1 w3.heap.size 2 (by simp) (by omega)).trans (by go_simp)⟩
        obtain ⟨u, hu⟩ := hcv
        have v43 : v4 < 3 := by omega
        go_wp2_with fail
        go_meet
        case rel => exact ⟨b', rfl, hbR', hb1', NumsIn.grow hN4 (growI_set _ c2) hbR', NumsIn.grow hM4 (growI_set (R := R) _ c2) hR0, hR4.set (q := ⟨b', 2, none⟩) hRb _, gr_set hg4 (by show _ ≤ b'; omega) _⟩
      | false =>
        go_wp2_with fail
        go_meet
        case rel => exact ⟨b', rfl, hbR', hb1', hN3, hM3, hR3.mono (by omega), hg3⟩
    clear hN3 hM3 hR3 hg3
    obtain ⟨b4, rfl, hbR4, hb4, hN4, hM4, hR4, hg4⟩ := hcut
    rename World => w4
    obtain ⟨_, ⟨x, y, z, c0, c1, c2⟩, f0, f1, f2⟩ := id hN4
    obtain ⟨_, ⟨rx, ry, rz, r0, r1, r2⟩, t0, t1, t2⟩ := id hM4
    have hRw : R < w.heap.size := hRlt
    go_wp2_with fail
    refine bodyPost_ret (v := .agg #[.int .i64 x, .int .i64 y, .int .i64 z]) (by simp [results, Try.results44, go_sem]; go_simp) rfl ⟨x, y, z, rfl, ?_, ?_⟩
    · exact ((hR4.set (q := ⟨w.heap.size, 0, none⟩) hRw _).set (q := ⟨w.heap.size, 1, none⟩) hRw _).set (q := ⟨w.heap.size, 2, none⟩) hRw _
    · exact gr_set (gr_set (gr_set hg4 (Nat.le_refl _) _) (Nat.le_refl _) _) (Nat.le_refl _) _
end Go.Proofs.Ytigcomhhgfgmgaa
namespace Go.Proofs.Ytigcomhhgfgmgaa
open Go.RowKit
section
variable {P : Program} (w : World)
theorem run_append_keeps (t ty : TypeId) (base : Nat) (e : TypeId) (i : TypeInfo) (z : Value) (size bytes : Nat) (ht : P.underlying t = some (.slice e)) (hi : P.info? e = some i) (hz : i.zero = some z)
    (hsize : i.size = size) (hby : i.bytes = bytes) (hzs : z.cells.size = size) (hsz : 0 < size)
    (g0 n c0 : Nat) (xs : List Value) (hown : w.ownsRow base e size (.slice (some ⟨g0, 0, none⟩) n c0) n xs)
    (ad : Addr) (m c : Nat) (news : List Value) (hl : news.length = m * size) (hnews : ∀ j u, news[j]? = some u → w.cell? (ad.add j) = some u) (h1 : ∀ u ∈ news, u.oneCell' = true)
    (hm : 0 < m) (h63 : n + m ≤ maxLen) (hbytes : (n + m) * bytes ≤ 140737488355328) (hbase : base ≤ w.heap.size) (H : Nat) (hH : w.heap.size = H) :
    ∃ g cap w', (Builtin.append_ #[t, t] ty #[.slice (some ⟨g0, 0, none⟩) n c0, .slice (some ad) m c]).run P w = .ok (.slice (some ⟨g, 0, none⟩) (n + m) cap) w' ∧
      w'.ownsRow base e size (.slice (some ⟨g, 0, none⟩) (n + m) cap) (n + m) (xs ++ news) ∧ w.grownBy w' (some g0) ∧ (g = g0 ∨ g = H) ∧ g < w'.heap.size ∧
      ∀ j u, xs[j]? = some u → w'.cell? ((⟨g0, 0, none⟩ : Addr).add j) = some u := by
  obtain ⟨g, cap, w', hr, h2, h3, h4, h5⟩ := run_append_lies (P := P) w t ty base e i z size bytes ht hi hz hsize hby hzs hsz _ n xs hown ad m c news hl hnews h1 hm h63 hbytes hbase H hH
  have h4' : g = g0 ∨ g = H := by
    rcases h4 with h4 | h4
    · left; simpa [Value.ownBlock] using h4.symm
    · exact .inr h4
  refine ⟨g, cap, w', hr, h2, h3, h4', h5, ?_⟩
  have holds := hown.cells (g := g0) rfl
  by_cases hroom : n + m ≤ c0
  · rcases hown.2 with ⟨hbad, _⟩ | ⟨g1, cap1, cur, he, hbg, hg, hnc, hcm, hcs, htake⟩
    · cases hbad
    · injection he with ha _ hc
      injection ha with ha
      injection ha with ha
      subst ha; subst hc
      have hl' : news.length = m * i.size := by rw [hl, hsize]
      have hfit : n * i.size + news.length ≤ cur.size := by rw [hl', hcs, hsize, ← Nat.add_mul]; exact Nat.mul_le_mul_right _ hroom
      have hr2 := run_append_room (P := P) w t ty e i ht hi g0 n c0 cur hg ad m c news hl' hnews h1 hroom hfit
      rw [hr] at hr2
      injection hr2 with hv _
      injection hv with hv _ _
      injection hv with hv
      injection hv with hv
      subst hv
      intro j u hu
      exact h2.cells (g := g) rfl j u (by
        have hj : j < xs.length := (List.getElem?_eq_some_iff.1 hu).1
        rw [List.getElem?_append_left hj]; exact hu)
  · subst hsize; subst hby
    obtain ⟨v', w'', hrun, _, r2⟩ := run_append_arg_grows (P := P) w t ty e i z i.size i.bytes ht hi hz rfl rfl hzs hsz ⟨g0, 0, none⟩ n c0 xs hown.1 holds ad m c news hl hnews (by omega) h63 hbytes
    rw [hr] at hrun
    injection hrun with _ hw
    subst hw
    intro j u hu
    have hc := holds j u hu
    have hlt := World.block_lt_of_cell? w _ hc
    exact (World.cell?_of_block (r2.block _ hlt (by simp))).trans hc
/-- At a step of a region that draws its order. -/
theorem step_append_keeps {ops : Array Oper} {o : Oper} {a : Act} {K : Act → World → Prop} {Q : Exit → Act → World → Prop} {E : Prop} (hgd : o.guard = none) (s x : Operand) (t : TypeId)
    (ho : o.op = .call { callee := .builtin .append, args := #[s, x], argTypes := #[t, t] })
    (base : Nat) (e : TypeId) (i : TypeInfo) (z : Value) (size bytes : Nat) (ht : P.underlying t = some (.slice e)) (hi : P.info? e = some i) (hz : i.zero = some z)
    (hsize : i.size = size) (hby : i.bytes = bytes) (hzs : z.cells.size = size) (hsz : 0 < size)
    (g0 n c0 : Nat) (xs : List Value) (hs : a.eval s = .slice (some ⟨g0, 0, none⟩) n c0) (hown : w.ownsRow base e size (.slice (some ⟨g0, 0, none⟩) n c0) n xs)
    (ad : Addr) (m c : Nat) (news : List Value) (hx : a.eval x = .slice (some ad) m c) (hl : news.length = m * size) (hnews : ∀ j u, news[j]? = some u → w.cell? (ad.add j) = some u) (h1 : ∀ u ∈ news, u.oneCell' = true)
    (hm : 0 < m) (h63 : n + m ≤ maxLen) (hbytes : (n + m) * bytes ≤ 140737488355328) (hbase : base ≤ w.heap.size) (H : Nat) (hH : w.heap.size = H)
    (h : ∀ g cap w', w'.ownsRow base e size (.slice (some ⟨g, 0, none⟩) (n + m) cap) (n + m) (xs ++ news) → w.grownBy w' (some g0) → (g = g0 ∨ g = H) → g < w'.heap.size →
      (∀ j u, xs[j]? = some u → w'.cell? ((⟨g0, 0, none⟩ : Addr).add j) = some u) → K (a.put o.dst (.slice (some ⟨g, 0, none⟩) (n + m) cap)) w') :
    if Region.wanted o (yielded ops a.tmps) = true then Oper.wp P o a w K Q else E := by
  have hw : Region.wanted o (yielded ops a.tmps) = true := by simp [Region.wanted, hgd]
  rw [if_pos hw]
  obtain ⟨g, cap, w', hr, h2, h3, h4, h5, h6⟩ := run_append_keeps (P := P) w t o.type base e i z size bytes ht hi hz hsize hby hzs hsz g0 n c0 xs hown ad m c news hl hnews h1 hm h63 hbytes hbase H hH
  unfold Oper.wp execOp
  simp only [ho, resolve, invoke, builtin, Sem.run_bind, Sem.run_pure, Result.andThen_ok, List.map_toArray, List.map_cons, List.map_nil, hs, hx, hr]
  exact h g cap w' h2 h3 h4 h5 h6
end
end Go.Proofs.Ytigcomhhgfgmgaa
namespace Go.Proofs.Ytigcomhhgfgmgaa
open Go.RowKit
/-- v is a slice of n numbers f 0, f 1 ..; they lie in one block from B on, below C, and may be written. -/
def IsInts (B C : Nat) (w : World) (v : Value) (n : Nat) (f : Nat → Int) : Prop :=
  ∃ (a : Option Addr) (cap : Nat), v = .slice a n cap ∧ C ≤ w.heap.size ∧
    (n = 0 ∨ ∃ g off, a = some ⟨g, off, none⟩ ∧ B ≤ g ∧ g < C ∧ (∀ i, i < n → w.cell? ⟨g, off + i, none⟩ = some (.int .i64 (f i))) ∧ (∀ i, i < n → w.frozen? ⟨g, off + i, none⟩ = false))
theorem IsInts.below {B C D : Nat} {w w' : World} {v : Value} {n : Nat} {f : Nat → Int} (h : IsInts B C w v n f) (hb : Below D w w') (hD : C ≤ D) : IsInts B C w' v n f := by
  obtain ⟨a, cap, rfl, hC, hs⟩ := h
  refine ⟨a, cap, rfl, Nat.le_trans hC hb.size, ?_⟩
  rcases hs with hs | ⟨g, off, ha, h1, h2, hc, hf⟩
  · exact .inl hs
  · exact .inr ⟨g, off, ha, h1, h2, fun i hi => (hb.cell (p := ⟨g, off + i, none⟩) (by show g < D; omega)).trans (hc i hi), fun i hi => (hb.frozen (p := ⟨g, off + i, none⟩) (by show g < D; omega)).trans (hf i hi)⟩
theorem IsInts.mono {B B' C C' : Nat} {w : World} {v : Value} {n : Nat} {f : Nat → Int} (h : IsInts B C w v n f) (h1 : B' ≤ B) (h2 : C ≤ C') (h3 : C' ≤ w.heap.size) : IsInts B' C' w v n f := by
  obtain ⟨a, cap, rfl, hC, hs⟩ := h
  refine ⟨a, cap, rfl, h3, ?_⟩
  rcases hs with hs | ⟨g, off, ha, k1, k2, hc, hf⟩
  · exact .inl hs
  · exact .inr ⟨g, off, ha, by omega, by omega, hc, hf⟩
theorem IsInts.congr {B C : Nat} {w : World} {v : Value} {n : Nat} {f g : Nat → Int} (h : IsInts B C w v n f) (he : ∀ i, i < n → f i = g i) : IsInts B C w v n g := by
  obtain ⟨a, cap, rfl, hC, hs⟩ := h
  refine ⟨a, cap, rfl, hC, ?_⟩
  rcases hs with hs | ⟨g, off, ha, k1, k2, hc, hf⟩
  · exact .inl hs
  · exact .inr ⟨g, off, ha, k1, k2, fun i hi => by rw [hc i hi, he i hi], hf⟩
theorem IsInts.nil (B : Nat) (w : World) (f : Nat → Int) : IsInts B w.heap.size w (.slice none 0 0) 0 f := ⟨none, 0, rfl, Nat.le_refl _, .inl rfl⟩
theorem IsInts.empty (B : Nat) (w : World) (a : Option Addr) (c : Nat) (f : Nat → Int) : IsInts B w.heap.size w (.slice a 0 c) 0 f := ⟨a, c, rfl, Nat.le_refl _, .inl rfl⟩
/-- A row of one's own, as append leaves it. -/
theorem IsInts.of_owns {B n : Nat} {w : World} {e : TypeId} {v : Value} {f : Nat → Int} (h : w.ownsRow B e 1 v n ((List.range n).map fun i => .int .i64 (f i))) : IsInts B w.heap.size w v n f := by
  have hc := fun g (hg : v.ownBlock = some g) => h.cells hg
  obtain ⟨hl, h⟩ := h
  rcases h with ⟨rfl, rfl⟩ | ⟨g, cap, cur, rfl, hb, hg, hnc, hm, hcs, htk⟩
  · exact IsInts.nil B w f
  · have hlt : g < w.heap.size := (Array.getElem?_eq_some_iff.1 hg).1
    refine ⟨_, cap, rfl, Nat.le_refl _, .inr ⟨g, 0, rfl, hb, hlt, fun i hi => ?_, fun i hi => ?_⟩⟩
    · have := hc g rfl i (.int .i64 (f i)) (by simp [hi])
      rw [Nat.zero_add]
      by_cases h0 : i = 0
      · subst h0; simpa [Addr.add] using this
      · simpa [Addr.add, h0] using this
    · simp [World.frozen?, hg]
/-- What was marked: one block from B on, below C. -/
def Marked (B C : Nat) (w w' : World) : Prop := w'.heap.size = w.heap.size ∧ ∃ row, w.grownBy w' row ∧ ∀ k, row = some k → B ≤ k ∧ k < C
theorem IsInts.marked {B C B0 C0 : Nat} {w w' : World} {v : Value} {n : Nat} {f : Nat → Int} (h : IsInts B0 C0 w v n f) (hm : Marked B C w w') (hd : C0 ≤ B) : IsInts B0 C0 w' v n f := by
  obtain ⟨a, cap, rfl, hC, hs⟩ := h
  obtain ⟨hz, row, hg, hr⟩ := hm
  refine ⟨a, cap, rfl, by omega, ?_⟩
  rcases hs with hs | ⟨g, off, ha, h1, h2, hc, hf⟩
  · exact .inl hs
  · have hne : some g ≠ row := fun e => by have := hr g e.symm; omega
    exact .inr ⟨g, off, ha, h1, h2, fun i hi => (hg.cell_far ⟨g, off + i, none⟩ (by show g < w.heap.size; omega) hne).trans (hc i hi), fun i hi => (hg.frozen_far ⟨g, off + i, none⟩ (by show g < w.heap.size; omega) hne).trans (hf i hi)⟩
theorem below_marked {B C D : Nat} {w0 w w' : World} (h : Below D w0 w) (hm : Marked B C w w') (h1 : D ≤ B) (h2 : D ≤ w.heap.size) : Below D w0 w' := by
  obtain ⟨hz, row, hg, hr⟩ := hm
  exact h.grown hg h2 (fun k e => by have := hr k e; omega)
theorem grown_set {w w1 : World} {g : Nat} (h : w.grownBy w1 (some g)) (o : Nat) (v : Value) : w.grownBy (w1.setCell ⟨g, o, none⟩ v) (some g) :=
  ⟨h.os, h.tape, h.output, by simpa [World.setCell] using h.size, fun j hj hne => (Below.heap_setCell _ _ _ _ (fun e => hne (by rw [e]))).trans (h.block j hj hne)⟩
end Go.Proofs.Ytigcomhhgfgmgaa
namespace Go.Proofs.Ytigcomhhgfgmgaa
open Go.RowKit
/-- v is a slice of the pairs of L; they lie in one block from B on, below C, and may be written. -/
def IsPairs (B C : Nat) (w : World) (v : Value) (L : List (Int × Int)) : Prop :=
  ∃ (a : Option Addr) (cap : Nat), v = .slice a L.length cap ∧ C ≤ w.heap.size ∧
    (L = [] ∨ ∃ g off, a = some ⟨g, off, none⟩ ∧ B ≤ g ∧ (g < C ∧ L.length ≤ cap) ∧
      (∀ (i : Nat) (p : Int × Int), L[i]? = some p → w.cell? ⟨g, off + i * 2, none⟩ = some (.int .i64 p.1) ∧ w.cell? ⟨g, off + i * 2 + 1, none⟩ = some (.int .i64 p.2)) ∧ (∀ i, i < 2 * L.length → w.frozen? ⟨g, off + i, none⟩ = false))
theorem IsPairs.below {B C D : Nat} {w w' : World} {v : Value} {L : List (Int × Int)} (h : IsPairs B C w v L) (hb : Below D w w') (hD : C ≤ D) : IsPairs B C w' v L := by
  obtain ⟨a, cap, rfl, hC, hs⟩ := h
  refine ⟨a, cap, rfl, Nat.le_trans hC hb.size, ?_⟩
  rcases hs with hs | ⟨g, off, ha, h1, h2, hc, hf⟩
  · exact .inl hs
  · exact .inr ⟨g, off, ha, h1, h2, fun i p hi => ⟨(hb.cell (p := ⟨g, off + i * 2, none⟩) (by show g < D; omega)).trans (hc i p hi).1, (hb.cell (p := ⟨g, off + i * 2 + 1, none⟩) (by show g < D; omega)).trans (hc i p hi).2⟩, fun i hi => (hb.frozen (p := ⟨g, off + i, none⟩) (by show g < D; omega)).trans (hf i hi)⟩
theorem IsPairs.mono {B B' C C' : Nat} {w : World} {v : Value} {L : List (Int × Int)} (h : IsPairs B C w v L) (h1 : B' ≤ B) (h2 : C ≤ C') (h3 : C' ≤ w.heap.size) : IsPairs B' C' w v L := by
  obtain ⟨a, cap, rfl, hC, hs⟩ := h
  refine ⟨a, cap, rfl, h3, ?_⟩
  rcases hs with hs | ⟨g, off, ha, k1, k2, hc, hf⟩
  · exact .inl hs
  · exact .inr ⟨g, off, ha, by omega, by omega, hc, hf⟩
theorem IsPairs.empty (B : Nat) (w : World) (a : Option Addr) (c : Nat) : IsPairs B w.heap.size w (.slice a 0 c) [] := ⟨a, c, rfl, Nat.le_refl _, .inl rfl⟩
theorem IsPairs.marked {B C B0 C0 : Nat} {w w' : World} {v : Value} {L : List (Int × Int)} (h : IsPairs B0 C0 w v L) (hm : Marked B C w w') (hd : C0 ≤ B) : IsPairs B0 C0 w' v L := by
  obtain ⟨a, cap, rfl, hC, hs⟩ := h
  obtain ⟨hz, row, hg, hr⟩ := hm
  refine ⟨a, cap, rfl, by omega, ?_⟩
  rcases hs with hs | ⟨g, off, ha, h1, h2, hc, hf⟩
  · exact .inl hs
  · have hne : some g ≠ row := fun e => by have := hr g e.symm; omega
    exact .inr ⟨g, off, ha, h1, h2, fun i p hi => ⟨(hg.cell_far ⟨g, off + i * 2, none⟩ (by show g < w.heap.size; omega) hne).trans (hc i p hi).1, (hg.cell_far ⟨g, off + i * 2 + 1, none⟩ (by show g < w.heap.size; omega) hne).trans (hc i p hi).2⟩, fun i hi => (hg.frozen_far ⟨g, off + i, none⟩ (by show g < w.heap.size; omega) hne).trans (hf i hi)⟩
/-- Without its first k pairs. -/
theorem IsPairs.drop {B C : Nat} {w : World} {a : Addr} {n cap : Nat} {L : List (Int × Int)} (h : IsPairs B C w (.slice (some a) n cap) L) (k c : Nat) (hk : k < n) (hkc : n - k ≤ c) : IsPairs B C w (.slice (some ⟨a.block, a.off + k * 2, none⟩) (n - k) c) (L.drop k) := by
  obtain ⟨a', cap', e, hC, hs⟩ := h
  obtain ⟨rfl, rfl, rfl⟩ : some a = a' ∧ n = L.length ∧ cap = cap' := by simpa using e
  refine ⟨_, c, by rw [List.length_drop], hC, ?_⟩
  rcases hs with hs | ⟨g, off, ha, h1, h2, hc, hf⟩
  · subst hs; simp at hk
  · cases ha
    refine .inr ⟨g, off + k * 2, rfl, h1, ⟨h2.1, by rw [List.length_drop]; exact hkc⟩, fun i p hi => ?_, fun i hi => ?_⟩
    · rw [List.getElem?_drop] at hi
      have := hc _ _ hi
      rw [show off + k * 2 + i * 2 = off + (k + i) * 2 by omega]
      exact this
    · rw [List.length_drop] at hi
      rw [show off + k * 2 + i = off + (k * 2 + i) by omega]
      exact hf _ (by omega)
/-- The first k pairs. -/
theorem IsPairs.take {B C : Nat} {w : World} {a : Option Addr} {n cap : Nat} {L : List (Int × Int)} (h : IsPairs B C w (.slice a n cap) L) (k c : Nat) (hk : k ≤ n) (hkc : k ≤ c) : IsPairs B C w (.slice a k c) (L.take k) := by
  obtain ⟨a', cap', e, hC, hs⟩ := h
  obtain ⟨rfl, rfl, rfl⟩ : a = a' ∧ n = L.length ∧ cap = cap' := by simpa using e
  refine ⟨a, c, by rw [List.length_take, Nat.min_eq_left hk], hC, ?_⟩
  rcases hs with hs | ⟨g, off, ha, h1, h2, hc, hf⟩
  · subst hs; exact .inl (by simp)
  · refine .inr ⟨g, off, ha, h1, ⟨h2.1, by rw [List.length_take]; omega⟩, fun i p hi => hc i p ?_, fun i hi => hf i (by rw [List.length_take] at hi; omega)⟩
    rw [List.getElem?_take] at hi
    split at hi
    · exact hi
    · cases hi
/-- The cells of pairs. -/
def pairCells (L : List (Int × Int)) : List Value := L.flatMap fun p => [.int .i64 p.1, .int .i64 p.2]
theorem pairCells_len (L : List (Int × Int)) : (pairCells L).length = L.length * 2 := by
  induction L with
  | nil => rfl
  | cons p L ih => simp only [pairCells, List.flatMap_cons, List.length_append, List.length_cons, List.length_nil] at ih ⊢; rw [ih]; omega
theorem pairCells_snoc (L : List (Int × Int)) (p : Int × Int) : pairCells L ++ [.int .i64 p.1, .int .i64 p.2] = pairCells (L ++ [p]) := by simp [pairCells]
theorem pairCells_append (L M : List (Int × Int)) : pairCells L ++ pairCells M = pairCells (L ++ M) := by simp [pairCells]
theorem pairCells_get : ∀ (L : List (Int × Int)) (i : Nat) (p : Int × Int), L[i]? = some p → (pairCells L)[i * 2]? = some (.int .i64 p.1) ∧ (pairCells L)[i * 2 + 1]? = some (.int .i64 p.2)
  | [], i, p, h => by simp at h
  | q :: L, 0, p, h => by simp at h; subst h; exact ⟨rfl, rfl⟩
  | q :: L, i + 1, p, h => by
    have := pairCells_get L i p (by simpa using h)
    rw [show (i + 1) * 2 = i * 2 + 1 + 1 by omega]
    exact this
/-- A row of one's own, as append leaves it. -/
theorem IsPairs.of_owns {B : Nat} {w : World} {e : TypeId} {v : Value} {L : List (Int × Int)} {n : Nat} (h : w.ownsRow B e 2 v n (pairCells L)) : IsPairs B w.heap.size w v L := by
  have hc := fun g (hg : v.ownBlock = some g) => h.cells hg
  obtain ⟨hl, h⟩ := h
  rw [pairCells_len] at hl
  have hn : L.length = n := by omega
  rcases h with ⟨rfl, rfl⟩ | ⟨g, cap, cur, rfl, hb, hg, hnc, hm, hcs, htk⟩
  · obtain rfl : L = [] := List.length_eq_zero_iff.1 hn
    exact IsPairs.empty B w none 0
  · have hlt : g < w.heap.size := (Array.getElem?_eq_some_iff.1 hg).1
    have hcell : ∀ (k : Nat) (x : Value), (pairCells L)[k]? = some x → w.cell? ⟨g, 0 + k, none⟩ = some x := fun k x hk => by
      have := hc g rfl k x hk
      rw [Nat.zero_add]
      by_cases h0 : k = 0
      · subst h0; simpa [Addr.add] using this
      · simpa [Addr.add, h0] using this
    refine ⟨_, cap, by rw [hn], Nat.le_refl _, .inr ⟨g, 0, rfl, hb, ⟨hlt, by omega⟩, fun i p hi => ?_, fun i hi => ?_⟩⟩
    · obtain ⟨k1, k2⟩ := pairCells_get L i p hi
      exact ⟨hcell _ _ k1, hcell _ _ k2⟩
    · simp [World.frozen?, hg]
end Go.Proofs.Ytigcomhhgfgmgaa
namespace Go.Proofs.Ytigcomhhgfgmgaa
open Go.RowKit
theorem own_keeps {w w' : World} {base : Nat} {e : TypeId} {size : Nat} {v : Value} {n : Nat} {xs : List Value} (h : w.ownsRow base e size v n xs) (hb : Below w.heap.size w w') : w'.ownsRow base e size v n xs :=
  h.kept (row := none) ⟨hb.os, hb.tape, hb.output, hb.size, fun j hj _ => hb.block j hj⟩ (by cases v.ownBlock <;> simp)
theorem own_le {w : World} {base base' : Nat} {e : TypeId} {size : Nat} {v : Value} {n : Nat} {xs : List Value} (h : w.ownsRow base e size v n xs) (hb : base' ≤ base) : w.ownsRow base' e size v n xs := by
  refine ⟨h.1, ?_⟩
  rcases h.2 with h2 | ⟨g, cap, cur, hv, hg, r⟩
  · exact .inl h2
  · exact .inr ⟨g, cap, cur, hv, Nat.le_trans hb hg, r⟩
theorem cell_belowP {W W' : World} {a : Addr} {v : Value} (hb : Below W.heap.size W W') (h : W.cell? a = some v) : W'.cell? a = some v := (hb.cell (p := a) (World.block_lt_of_cell? W a h)).trans h
theorem add_row (b o j : Nat) : (⟨b, o, none⟩ : Addr).add j = ⟨b, o + j, none⟩ := by unfold Addr.add; split <;> simp_all
theorem pairCells_at : ∀ (L : List (Int × Int)) (j : Nat) (u : Value), (pairCells L)[j]? = some u → ∃ i p, L[i]? = some p ∧ ((j = i * 2 ∧ u = .int .i64 p.1) ∨ (j = i * 2 + 1 ∧ u = .int .i64 p.2))
  | [], j, u, h => by simp [pairCells] at h
  | q :: L, 0, u, h => by
    have h' : (Value.int .i64 q.1) = u := by simpa [pairCells] using h
    exact ⟨0, q, rfl, .inl ⟨rfl, h'.symm⟩⟩
  | q :: L, 1, u, h => by
    have h' : (Value.int .i64 q.2) = u := by simpa [pairCells] using h
    exact ⟨0, q, rfl, .inr ⟨rfl, h'.symm⟩⟩
  | q :: L, j + 2, u, h => by
    have h' : (pairCells L)[j]? = some u := by simpa [pairCells] using h
    obtain ⟨i, p, hp, hj⟩ := pairCells_at L j u h'
    refine ⟨i + 1, p, by simpa using hp, ?_⟩
    rcases hj with ⟨h1, h2⟩ | ⟨h1, h2⟩
    · exact .inl ⟨by omega, h2⟩
    · exact .inr ⟨by omega, h2⟩
theorem pairCells_one (L : List (Int × Int)) : ∀ u ∈ pairCells L, u.oneCell' = true := by
  intro u hu
  obtain ⟨j, hj⟩ := List.getElem?_of_mem hu
  obtain ⟨i, p, _, h | h⟩ := pairCells_at L j u hj
  · rw [h.2]; rfl
  · rw [h.2]; rfl
/-- A row of one's own is a slice. -/
theorem own_shape {w : World} {base size n : Nat} {e : TypeId} {v : Value} {xs : List Value} (h : w.ownsRow base e size v n xs) : ∃ a c, v = .slice a n c := by
  rcases h.2 with ⟨rfl, rfl⟩ | ⟨g, cap, cur, rfl, _⟩
  · exact ⟨none, 0, rfl⟩
  · exact ⟨some ⟨g, 0, none⟩, cap, rfl⟩
/-- Pairs stay where no block of theirs is written. -/
theorem IsPairs.far {B C : Nat} {w w' : World} {v : Value} {L : List (Int × Int)} (h : IsPairs B C w v L) (hz : w.heap.size ≤ w'.heap.size) (hb : ∀ g, B ≤ g → g < C → w'.heap[g]? = w.heap[g]?) : IsPairs B C w' v L := by
  obtain ⟨a, cap, rfl, hC, hs⟩ := h
  refine ⟨a, cap, rfl, Nat.le_trans hC hz, ?_⟩
  rcases hs with hs | ⟨g, off, ha, h1, h2, hc, hf⟩
  · exact .inl hs
  · exact .inr ⟨g, off, ha, h1, h2, fun i p hi => ⟨(World.cell?_of_block (a := ⟨g, off + i * 2, none⟩) (hb g h1 h2.1)).trans (hc i p hi).1, (World.cell?_of_block (a := ⟨g, off + i * 2 + 1, none⟩) (hb g h1 h2.1)).trans (hc i p hi).2⟩, fun i hi => (World.frozen?_of_block (a := ⟨g, off + i, none⟩) (hb g h1 h2.1)).trans (hf i hi)⟩
theorem IsPairs.set {B C : Nat} {w : World} {v : Value} {L : List (Int × Int)} (h : IsPairs B C w v L) {p : Addr} (hp : p.block < B) (x : Value) : IsPairs B C (w.setCell p x) v L :=
  h.far (by simp [World.setCell]) fun g h1 _ => Below.heap_setCell _ _ _ _ (by omega)
theorem IsPairs.set2 {B C : Nat} {w : World} {v : Value} {L : List (Int × Int)} (h : IsPairs B C w v L) {p : Addr} (hp : p.block < B ∨ C ≤ p.block) (x : Value) : IsPairs B C (w.setCell p x) v L :=
  h.far (by simp [World.setCell]) fun g h1 h2 => Below.heap_setCell _ _ _ _ (by omega)
theorem IsPairs.drew {B C : Nat} {w : World} {v : Value} {L : List (Int × Int)} (h : IsPairs B C w v L) : IsPairs B C w.drew v L := h
theorem IsPairs.allocd {B C : Nat} {w : World} {v : Value} {L : List (Int × Int)} (h : IsPairs B C w v L) (o : Obj) : IsPairs B C (w.alloc o) v L := by
  obtain ⟨a, cap, hv, hC, hs⟩ := id h
  exact h.below ((Below.refl _ _).alloc (Nat.le_refl _) _) hC
/-- One pair in a block of its own. -/
theorem IsPairs.lit {w : World} {g : Nat} {p q : Int} {t : TypeId} (h : w.heap[g]? = some (.cells #[.int .i64 p, .int .i64 q] t (0, 0))) : IsPairs g w.heap.size w (.slice (some ⟨g, 0, none⟩) 1 1) [(p, q)] := by
  have hlt : g < w.heap.size := (Array.getElem?_eq_some_iff.1 h).1
  refine ⟨_, 1, rfl, Nat.le_refl _, .inr ⟨g, 0, rfl, Nat.le_refl _, ⟨hlt, by simp⟩, fun i x hi => ?_, fun i hi => ?_⟩⟩
  · cases i with
    | zero =>
      have e : x = (p, q) := by simpa using hi.symm
      subst e
      exact ⟨by simp [World.cell?, h], by simp [World.cell?, h]⟩
    | succ i => simp at hi
  · simp [World.frozen?, h]
theorem IsPairs.new (W : World) (p q : Int) (t : TypeId) (g : Nat) (hg : W.heap.size = g) : IsPairs g (g + 1) (W.alloc (.cells #[.int .i64 p, .int .i64 q] t)) (.slice (some ⟨g, 0, none⟩) 1 1) [(p, q)] := by
  subst hg
  have h := IsPairs.lit (w := W.alloc (.cells #[.int .i64 p, .int .i64 q] t)) (g := W.heap.size) (p := p) (q := q) (t := t) (heap_alloc_new _ _)
  rwa [World.size_alloc] at h
section
variable {P : Program} (w : World)
theorem run_append_pairs (base : Nat) (t ty e : TypeId) (i : TypeInfo) (z : Value) (bytes : Nat) (ht : P.underlying t = some (.slice e)) (hi : P.info? e = some i) (hz : i.zero = some z)
    (hsize : i.size = 2) (hby : i.bytes = bytes) (hzs : z.cells.size = 2) (v : Value) (n : Nat) (xs : List Value) (hown : w.ownsRow base e 2 v n xs)
    (B C : Nat) (x : Value) (L : List (Int × Int)) (hx : IsPairs B C w x L) (h63 : n + L.length ≤ maxLen) (hbytes : (n + L.length) * bytes ≤ 140737488355328) (hbase : base ≤ w.heap.size) :
    ∃ a c w', (Builtin.append_ #[t, t] ty #[v, x]).run P w = .ok (.slice a (n + L.length) c) w' ∧ w'.ownsRow base e 2 (.slice a (n + L.length) c) (n + L.length) (xs ++ pairCells L) ∧ w.grownBy w' v.ownBlock ∧
      ((Value.slice a (n + L.length) c).ownBlock = v.ownBlock ∨ (Value.slice a (n + L.length) c).ownBlock = some w.heap.size) := by
  obtain ⟨a, cap, rfl, hC, hs⟩ := hx
  cases a with
  | none =>
    obtain rfl : L = [] := by
      rcases hs with hs | ⟨g, off, ha, _⟩
      · exact hs
      · cases ha
    obtain ⟨a0, c0, rfl⟩ := own_shape hown
    refine ⟨a0, c0, w, ?_, by simpa [pairCells] using hown, ⟨rfl, rfl, rfl, Nat.le_refl _, fun _ _ _ => rfl⟩, .inl rfl⟩
    rcases hown.2 with ⟨hv, rfl⟩ | ⟨g, cap, cur, hv, _, _, hnc, _⟩
    · cases hv
      simp [Builtin.append_, run_underlying ht, sizeOf, typeInfo, hi, Builtin.lenOf, Builtin.firstCells]
    · cases hv
      simp [Builtin.append_, run_underlying ht, sizeOf, typeInfo, hi, Builtin.lenOf, Builtin.firstCells, hnc, storeCells]
  | some ad =>
    obtain ⟨v', w', h1, h2, h3, _, h5⟩ := run_append_own_at (P := P) w base t ty e i z 2 bytes ht hi hz hsize hby hzs (by omega) v n xs hown ad L.length cap (pairCells L) (pairCells_len L)
      (fun j u hu => by
        rcases hs with rfl | ⟨g, off, ha, _, _, hc, _⟩
        · simp [pairCells] at hu
        · cases ha
          rw [add_row]
          obtain ⟨k, p, hp, h | h⟩ := pairCells_at L j u hu
          · rw [h.1, h.2]; exact (hc k p hp).1
          · rw [h.1, h.2]; exact (hc k p hp).2) (pairCells_one L) h63 hbytes hbase
    obtain ⟨a0, c0, rfl⟩ := own_shape h2
    exact ⟨a0, c0, w', h1, h2, h3, h5⟩
/-- At the list of a plain region's operations. -/
theorem wpList_append_pairs {ops : Array Oper} {rest : List Oper} {o : Oper} {a : Act} {Q : Exit → Act → World → Prop} (hgd : o.guard = none) (s x : Operand) (t : TypeId)
    (ho : o.op = .call { callee := .builtin .append, args := #[s, x], argTypes := #[t, t] })
    (base : Nat) (e : TypeId) (i : TypeInfo) (z : Value) (bytes : Nat) (ht : P.underlying t = some (.slice e)) (hi : P.info? e = some i) (hz : i.zero = some z)
    (hsize : i.size = 2) (hby : i.bytes = bytes) (hzs : z.cells.size = 2) (v : Value) (n : Nat) (xs : List Value) (hs : a.eval s = v) (hown : w.ownsRow base e 2 v n xs)
    (B C : Nat) (y : Value) (L : List (Int × Int)) (hx : a.eval x = y) (hy : IsPairs B C w y L) (N : Nat) (hN : n + L.length = N) (X : List Value) (hX : xs ++ pairCells L = X) (h63 : N ≤ maxLen) (hbytes : N * bytes ≤ 140737488355328) (hbase : base ≤ w.heap.size)
    (h : ∀ a' c' w', w'.ownsRow base e 2 (.slice a' N c') N X → w.grownBy w' v.ownBlock → ((Value.slice a' N c').ownBlock = v.ownBlock ∨ (Value.slice a' N c').ownBlock = some w.heap.size) → wpList P ops Q rest (a.put o.dst (.slice a' N c')) w') : wpList P ops Q (o :: rest) a w := by
  subst hN hX
  refine wpList_plain hgd fun K hK => ?_
  obtain ⟨a', c', w', hr, h2, h3, h4⟩ := run_append_pairs (P := P) w base t o.type e i z bytes ht hi hz hsize hby hzs v n xs hown B C y L hy h63 hbytes hbase
  unfold Oper.wp execOp
  simp only [ho, resolve, invoke, builtin, Sem.run_bind, Sem.run_pure, Result.andThen_ok, List.map_toArray, List.map_cons, List.map_nil, hs, hx, hr]
  exact hK _ _ (h a' c' w' h2 h3 h4)
/-- At a step of a region that draws its order. -/
theorem step_append_pairs {ops : Array Oper} {o : Oper} {a : Act} {K : Act → World → Prop} {Q : Exit → Act → World → Prop} {E : Prop} (hgd : o.guard = none) (s x : Operand) (t : TypeId)
    (ho : o.op = .call { callee := .builtin .append, args := #[s, x], argTypes := #[t, t] })
    (base : Nat) (e : TypeId) (i : TypeInfo) (z : Value) (bytes : Nat) (ht : P.underlying t = some (.slice e)) (hi : P.info? e = some i) (hz : i.zero = some z)
    (hsize : i.size = 2) (hby : i.bytes = bytes) (hzs : z.cells.size = 2) (v : Value) (n : Nat) (xs : List Value) (hs : a.eval s = v) (hown : w.ownsRow base e 2 v n xs)
    (B C : Nat) (y : Value) (L : List (Int × Int)) (hx : a.eval x = y) (hy : IsPairs B C w y L) (N : Nat) (hN : n + L.length = N) (X : List Value) (hX : xs ++ pairCells L = X) (h63 : N ≤ maxLen) (hbytes : N * bytes ≤ 140737488355328) (hbase : base ≤ w.heap.size)
    (h : ∀ a' c' w', w'.ownsRow base e 2 (.slice a' N c') N X → w.grownBy w' v.ownBlock → ((Value.slice a' N c').ownBlock = v.ownBlock ∨ (Value.slice a' N c').ownBlock = some w.heap.size) → K (a.put o.dst (.slice a' N c')) w') :
    if Region.wanted o (yielded ops a.tmps) = true then Oper.wp P o a w K Q else E := by
  have hw : Region.wanted o (yielded ops a.tmps) = true := by simp [Region.wanted, hgd]
  rw [if_pos hw]
  subst hN hX
  obtain ⟨a', c', w', hr, h2, h3, h4⟩ := run_append_pairs (P := P) w base t o.type e i z bytes ht hi hz hsize hby hzs v n xs hown B C y L hy h63 hbytes hbase
  unfold Oper.wp execOp
  simp only [ho, resolve, invoke, builtin, Sem.run_bind, Sem.run_pure, Result.andThen_ok, List.map_toArray, List.map_cons, List.map_nil, hs, hx, hr]
  exact h a' c' w' h2 h3 h4
end
end Go.Proofs.Ytigcomhhgfgmgaa
namespace Go.Proofs.Ytigcomhhgfgmgaa
/-- A deed; a desk: its pair, and those of before. -/
structure DeedN where
  kind : Int
  a : Int
  b : Int
  deriving DecidableEq
structure DeskN where
  now : Int × Int
  past : List (Int × Int)
  deriving DecidableEq
def pairN (p : Int × Int) : Bool := pairB p.1 p.2
def deskN (d : DeskN) : Bool := pairN d.now && decide (d.past.length ≤ 8) && d.past.all pairN
/-- What a deed makes of a pair. -/
def madeN (p : Int × Int) (x : DeedN) : Option (Int × Int) :=
  if x.kind = 0 then some (x.a, x.b) else
  if x.a = 0 ∧ x.b = 0 then
    if x.kind = 1 then some (-p.1, p.2) else
    if x.kind = 2 then some (p.1 + 1, p.2 + 1) else
    if x.kind = 3 then some (p.1 - 1, p.2 - 1) else none
  else none
def takenN (p : Int × Int) (x : DeedN) : Option (Int × Int) := (madeN p x).filter fun q => pairN q && decide (q ≠ p)
def backN : DeedN := ⟨4, 0, 0⟩
/-- A desk after a deed. -/
def doN (d : DeskN) (x : DeedN) : DeskN × Bool :=
  if x = backN then (if d.past = [] then (d, false) else (⟨d.past.getLastD d.now, d.past.dropLast⟩, true)) else
  match takenN d.now x with
  | some q => (⟨q, (d.past ++ [d.now]).drop (d.past.length + 1 - 8)⟩, true)
  | none => (d, false)
theorem deskN_of {d : DeskN} (h : deskN d = true) : pairN d.now = true ∧ d.past.length ≤ 8 ∧ ∀ p ∈ d.past, pairN p = true := by
  simp only [deskN, Bool.and_eq_true, decide_eq_true_eq, List.all_eq_true] at h
  exact ⟨h.1.1, h.1.2, h.2⟩
theorem deskN_mk {d : DeskN} (h1 : pairN d.now = true) (h2 : d.past.length ≤ 8) (h3 : ∀ p ∈ d.past, pairN p = true) : deskN d = true := by
  simp only [deskN, Bool.and_eq_true, decide_eq_true_eq, List.all_eq_true]
  exact ⟨⟨h1, h2⟩, h3⟩
theorem takenN_some {p q : Int × Int} {x : DeedN} (h : takenN p x = some q) : madeN p x = some q ∧ pairN q = true ∧ q ≠ p := by
  unfold takenN at h
  rw [Option.filter_eq_some_iff] at h
  simp only [Bool.and_eq_true, decide_eq_true_eq] at h
  exact ⟨h.1, h.2.1, h.2.2⟩
theorem backN_made (p : Int × Int) : madeN p backN = none := by simp [madeN, backN]
/-- Whatever is done, it is a desk. -/
theorem doN_desk {d : DeskN} (x : DeedN) (h : deskN d = true) : deskN (doN d x).1 = true := by
  obtain ⟨h1, h2, h3⟩ := deskN_of h
  unfold doN
  split
  · split
    · exact h
    · rename_i hne
      refine deskN_mk ?_ (by simp; omega) (fun p hp => h3 p (List.dropLast_subset _ hp))
      show pairN (d.past.getLastD d.now) = true
      rw [List.getLastD_eq_getLast?, List.getLast?_eq_some_getLast hne]
      exact h3 _ (List.getLast_mem hne)
  · split
    · rename_i q hq
      obtain ⟨-, hp, -⟩ := takenN_some hq
      refine deskN_mk hp (by simp; omega) (fun p hp => ?_)
      rcases List.mem_append.1 (List.mem_of_mem_drop hp) with hp | hp
      · exact h3 p hp
      · rw [List.mem_singleton.1 hp]; exact h1
    · exact h
theorem doN_no {d : DeskN} {x : DeedN} (h : (doN d x).2 = false) : (doN d x).1 = d := by
  revert h
  unfold doN
  split
  · split <;> simp
  · split <;> simp
/-- What was done can be undone. -/
theorem doN_back {d : DeskN} {x : DeedN} (hx : x ≠ backN) (hd : (doN d x).2 = true) (hl : d.past.length < 8) : doN (doN d x).1 backN = (d, true) := by
  revert hd
  unfold doN
  rw [if_neg hx, if_pos rfl]
  cases hq : takenN d.now x with
  | none => simp
  | some q =>
    intro _
    have h0 : d.past.length + 1 - 8 = 0 := by omega
    simp [h0]
theorem doN_turn {d : DeskN} (hd : (doN d ⟨1, 0, 0⟩).2 = true) : (doN d ⟨1, 0, 0⟩).1.now = (-d.now.1, d.now.2) := by
  revert hd
  unfold doN
  rw [if_neg (by decide)]
  cases hq : takenN d.now ⟨1, 0, 0⟩ with
  | none => simp
  | some q =>
    intro _
    obtain ⟨h, -, -⟩ := takenN_some hq
    have h' : some (-d.now.1, d.now.2) = some q := h
    rw [← Option.some.inj h']
/-- Only a turn has the kind 1: what is done with another A or B is nothing. -/
theorem doN_turn_is {d : DeskN} {x : DeedN} (hk : x.kind = 1) (hd : (doN d x).2 = true) : x = ⟨1, 0, 0⟩ := by
  obtain ⟨k, a, b⟩ := x
  replace hk : k = 1 := hk
  subst hk
  revert hd
  unfold doN takenN madeN
  rw [if_neg (by simp [backN])]
  by_cases h : a = 0 ∧ b = 0
  · obtain ⟨rfl, rfl⟩ := h
    intro _; rfl
  · simp [h]
/-- Deeds, one after the other, and how many were done. -/
def runN (d : DeskN) : List DeedN → DeskN × Nat
  | [] => (d, 0)
  | x :: xs => let r := doN d x; let s := runN r.1 xs; (s.1, s.2 + if r.2 then 1 else 0)
theorem runN_append (d : DeskN) (xs ys : List DeedN) : runN d (xs ++ ys) = ((runN (runN d xs).1 ys).1, (runN d xs).2 + (runN (runN d xs).1 ys).2) := by
  induction xs generalizing d with
  | nil => simp [runN]
  | cons x xs ih => simp only [List.cons_append, runN, ih]; congr 1; omega
theorem runN_desk {d : DeskN} (xs : List DeedN) (h : deskN d = true) : deskN (runN d xs).1 = true := by
  induction xs generalizing d with
  | nil => exact h
  | cons x xs ih => exact ih (doN_desk x h)
theorem runN_count (d : DeskN) (xs : List DeedN) : (runN d xs).2 ≤ xs.length := by
  induction xs generalizing d with
  | nil => simp [runN]
  | cons x xs ih => simp only [runN, List.length_cons]; have := ih (doN d x).1; split <;> omega
/-- The text of a number in -9..9, and of a deed. -/
def digN (n : Int) : List UInt8 := if n < 0 then [45, UInt8.ofNat (48 + (-n).toNat)] else [UInt8.ofNat (48 + n.toNat)]
def deedT (x : DeedN) : List UInt8 :=
  if x.kind = 0 then (if -9 ≤ x.a ∧ x.a ≤ 9 ∧ -9 ≤ x.b ∧ x.b ≤ 9 then [116, 97, 107, 101, 32] ++ digN x.a ++ [32] ++ digN x.b else []) else
  if x.a = 0 ∧ x.b = 0 then
    if x.kind = 1 then [116, 117, 114, 110] else
    if x.kind = 2 then [117, 112] else
    if x.kind = 3 then [100, 111, 119, 110] else
    if x.kind = 4 then [98, 97, 99, 107] else []
  else []
def nines : List Int := (List.range 19).map fun (i : Nat) => (i : Int) - 9
def allDeeds : List DeedN := [⟨1, 0, 0⟩, ⟨2, 0, 0⟩, ⟨3, 0, 0⟩, ⟨4, 0, 0⟩] ++ nines.flatMap fun a => nines.map fun b => ⟨0, a, b⟩
theorem mem_nines {a : Int} (h1 : -9 ≤ a) (h2 : a ≤ 9) : a ∈ nines := by
  refine List.mem_map.2 ⟨(a + 9).toNat, List.mem_range.2 (by omega), by omega⟩
theorem mem_deeds {x : DeedN} (h : deedT x ≠ []) : x ∈ allDeeds := by
  obtain ⟨k, a, b⟩ := x
  unfold deedT at h
  simp only at h
  by_cases h0 : k = 0
  · subst h0
    rw [if_pos rfl] at h
    by_cases hr : -9 ≤ a ∧ a ≤ 9 ∧ -9 ≤ b ∧ b ≤ 9
    · refine List.mem_append.2 (.inr (List.mem_flatMap.2 ⟨a, mem_nines hr.1 hr.2.1, List.mem_map.2 ⟨b, mem_nines hr.2.2.1 hr.2.2.2, rfl⟩⟩))
    · rw [if_neg hr] at h; exact absurd rfl h
  · rw [if_neg h0] at h
    by_cases hr : a = 0 ∧ b = 0
    · obtain ⟨rfl, rfl⟩ := hr
      rw [if_pos ⟨rfl, rfl⟩] at h
      by_cases h1 : k = 1
      · subst h1; simp [allDeeds]
      · rw [if_neg h1] at h
        by_cases h2 : k = 2
        · subst h2; simp [allDeeds]
        · rw [if_neg h2] at h
          by_cases h3 : k = 3
          · subst h3; simp [allDeeds]
          · rw [if_neg h3] at h
            by_cases h4 : k = 4
            · subst h4; simp [allDeeds]
            · rw [if_neg h4] at h; exact absurd rfl h
    · rw [if_neg hr] at h; exact absurd rfl h
/-- A number of a text of a sign, perhaps, and a digit; a deed of a text: what can be told of its bytes. -/
def numT (s : List UInt8) : Int := match s with
  | [45, d] => -((d.toNat : Int) - 48)
  | [d] => (d.toNat : Int) - 48
  | _ => 0
def candT (s : List UInt8) : DeedN := match s with
  | 116 :: 117 :: _ => ⟨1, 0, 0⟩
  | 117 :: _ => ⟨2, 0, 0⟩
  | 100 :: _ => ⟨3, 0, 0⟩
  | 98 :: _ => ⟨4, 0, 0⟩
  | 116 :: 97 :: _ :: _ :: _ :: r => ⟨0, numT (r.takeWhile (· != 32)), numT ((r.dropWhile (· != 32)).tail)⟩
  | _ => ⟨9, 0, 0⟩
theorem deeds_told : allDeeds.all (fun x => decide (candT (deedT x) = x ∧ deedT x ≠ [] ∧ (10 : UInt8) ∉ deedT x ∧ (deedT x).getLast? ≠ some 32)) = true := by decide +kernel
theorem deed_told {x : DeedN} (h : deedT x ≠ []) : candT (deedT x) = x ∧ (10 : UInt8) ∉ deedT x ∧ (deedT x).getLast? ≠ some 32 := by
  have := of_decide_eq_true (List.all_eq_true.1 deeds_told x (mem_deeds h))
  exact ⟨this.1, this.2.2.1, this.2.2.2⟩
theorem deedT_inj {x y : DeedN} (h : deedT x = deedT y) (hx : deedT x ≠ []) : x = y := by
  rw [← (deed_told hx).1, h, (deed_told (h ▸ hx)).1]
/-- The deed whose text a text is. -/
def readN (s : List UInt8) : Option DeedN := if s ≠ [] ∧ deedT (candT s) = s then some (candT s) else none
theorem readN_text {x : DeedN} (h : deedT x ≠ []) : readN (deedT x) = some x := by
  have e := (deed_told h).1
  rw [readN, e, if_pos ⟨h, rfl⟩]
theorem readN_some {s : List UInt8} {x : DeedN} (h : readN s = some x) : deedT x = s ∧ s ≠ [] := by
  unfold readN at h
  split at h
  · rename_i hs; cases h; exact ⟨hs.2, hs.1⟩
  · cases h
theorem readN_none {s : List UInt8} (h : readN s = none) (x : DeedN) (hx : deedT x = s) : s = [] := by
  by_cases h0 : s = []
  · exact h0
  · subst hx
    rw [readN_text h0] at h; cases h
theorem readN_space (s : List UInt8) : readN (s ++ [32]) = none := by
  cases h : readN (s ++ [32]) with
  | none => rfl
  | some x =>
    obtain ⟨h1, h2⟩ := readN_some h
    exact absurd (by rw [h1]; simp) (deed_told (h1 ▸ h2)).2.2
theorem readN_line {s : List UInt8} (h : (10 : UInt8) ∈ s) : readN s = none := by
  cases h' : readN s with
  | none => rfl
  | some x =>
    obtain ⟨h1, h2⟩ := readN_some h'
    exact absurd (h1 ▸ h) (deed_told (h1 ▸ h2)).2.1
/-- The text of a journal. -/
def journalN : List DeedN → List UInt8
  | [] => []
  | x :: xs => deedT x ++ [10] ++ journalN xs
def notedN (l : List DeedN) : Bool := l.all fun x => decide (deedT x ≠ [])
/-- What is read of a text: its lines so far stand in front, one begun is kept. -/
def readJ (line : List UInt8) : List UInt8 → List DeedN × Nat
  | [] => ([], 0)
  | c :: cs => if c = 10 then (match readN line with
      | some x => ((x :: (readJ [] cs).1), (readJ [] cs).2 + line.length + 1)
      | none => ([], 0)) else readJ (line ++ [c]) cs
/-- The journal of the deeds that are read is what was read. -/
theorem readJ_text (line s : List UInt8) : journalN (readJ line s).1 = (line ++ s).take (readJ line s).2 := by
  induction s generalizing line with
  | nil => simp [readJ, journalN]
  | cons c cs ih =>
    unfold readJ
    split
    · rename_i hc
      subst hc
      cases h : readN line with
      | none => simp [journalN]
      | some x =>
        obtain ⟨h1, -⟩ := readN_some h
        simp only [journalN, h1, ih []]
        rw [show (readJ [] cs).2 + line.length + 1 = line.length + ((readJ [] cs).2 + 1) by omega, List.take_length_add_append]
        simp
    · rw [ih]; simp
theorem readJ_le (line s : List UInt8) : (readJ line s).2 ≤ line.length + s.length := by
  induction s generalizing line with
  | nil => simp [readJ]
  | cons c cs ih =>
    unfold readJ
    split
    · cases h : readN line with
      | none => simp
      | some x => have := ih []; simp at this ⊢; omega
    · have := ih (line ++ [c]); simp at this ⊢; omega
theorem readJ_noted (line s : List UInt8) : ∀ x ∈ (readJ line s).1, deedT x ≠ [] := by
  induction s generalizing line with
  | nil => simp [readJ]
  | cons c cs ih =>
    unfold readJ
    split
    · cases h : readN line with
      | none => simp
      | some x =>
        obtain ⟨h1, h2⟩ := readN_some h
        intro y hy
        rcases List.mem_cons.1 hy with rfl | hy
        · rw [h1]; exact h2
        · exact ih [] y hy
    · exact ih _
/-- Of a beginning of a text the first ones of the deeds are read. -/
theorem readJ_prefix (line s : List UInt8) (k : Nat) : (readJ line (s.take k)).1 <+: (readJ line s).1 ∧ (readJ line (s.take k)).2 ≤ (readJ line s).2 := by
  induction s generalizing line k with
  | nil => simp
  | cons c cs ih =>
    cases k with
    | zero => simp [readJ]
    | succ k =>
      rw [List.take_succ_cons]
      unfold readJ
      split
      · cases h : readN line with
        | none => simp
        | some x => obtain ⟨h1, h2⟩ := ih [] k; exact ⟨List.cons_prefix_cons.2 ⟨rfl, h1⟩, by show _ + _ + 1 ≤ _ + _ + 1; omega⟩
      · exact ih _ k
theorem readJ_skip (line t s : List UInt8) (h : (10 : UInt8) ∉ t) : readJ line (t ++ s) = readJ (line ++ t) s := by
  induction t generalizing line with
  | nil => simp
  | cons c cs ih =>
    have hc : c ≠ 10 := fun e => h (by simp [e])
    rw [List.cons_append, readJ, if_neg hc, ih _ (fun e => h (List.mem_cons_of_mem _ e))]
    simp
/-- Journals are read. -/
theorem readJ_journal (l : List DeedN) (h : ∀ x ∈ l, deedT x ≠ []) : readJ [] (journalN l) = (l, (journalN l).length) := by
  induction l with
  | nil => simp [journalN, readJ]
  | cons x xs ih =>
    have hx := h x List.mem_cons_self
    have hy := ih fun y hy => h y (List.mem_cons_of_mem _ hy)
    rw [journalN, List.append_assoc, readJ_skip _ _ _ (deed_told hx).2.1]
    simp only [List.nil_append, List.singleton_append]
    rw [readJ, if_pos rfl, readN_text hx]
    simp only [hy, Prod.mk.injEq, List.length_append, List.length_cons, true_and]
    omega
end Go.Proofs.Ytigcomhhgfgmgaa
namespace Go.Proofs.Ytigcomhhgfgmgaa
open Go.RowKit
/-- v is a slice of the deeds of L; they lie in one block from B on, below C, and may be written. -/
def IsDeeds (B C : Nat) (w : World) (v : Value) (L : List DeedN) : Prop :=
  ∃ (a : Option Addr) (cap : Nat), v = .slice a L.length cap ∧ C ≤ w.heap.size ∧
    (L = [] ∨ ∃ g off, a = some ⟨g, off, none⟩ ∧ B ≤ g ∧ (g < C ∧ L.length ≤ cap) ∧
      (∀ (i : Nat) (p : DeedN), L[i]? = some p → w.cell? ⟨g, off + i * 3, none⟩ = some (.int .i64 p.kind) ∧ w.cell? ⟨g, off + i * 3 + 1, none⟩ = some (.int .i64 p.a) ∧ w.cell? ⟨g, off + i * 3 + 2, none⟩ = some (.int .i64 p.b)) ∧ (∀ i, i < 3 * L.length → w.frozen? ⟨g, off + i, none⟩ = false))
theorem IsDeeds.below {B C D : Nat} {w w' : World} {v : Value} {L : List DeedN} (h : IsDeeds B C w v L) (hb : Below D w w') (hD : C ≤ D) : IsDeeds B C w' v L := by
  obtain ⟨a, cap, rfl, hC, hs⟩ := h
  refine ⟨a, cap, rfl, Nat.le_trans hC hb.size, ?_⟩
  rcases hs with hs | ⟨g, off, ha, h1, h2, hc, hf⟩
  · exact .inl hs
  · exact .inr ⟨g, off, ha, h1, h2, fun i p hi => ⟨(hb.cell (p := ⟨g, off + i * 3, none⟩) (by show g < D; omega)).trans (hc i p hi).1, (hb.cell (p := ⟨g, off + i * 3 + 1, none⟩) (by show g < D; omega)).trans (hc i p hi).2.1, (hb.cell (p := ⟨g, off + i * 3 + 2, none⟩) (by show g < D; omega)).trans (hc i p hi).2.2⟩, fun i hi => (hb.frozen (p := ⟨g, off + i, none⟩) (by show g < D; omega)).trans (hf i hi)⟩
theorem IsDeeds.mono {B B' C C' : Nat} {w : World} {v : Value} {L : List DeedN} (h : IsDeeds B C w v L) (h1 : B' ≤ B) (h2 : C ≤ C') (h3 : C' ≤ w.heap.size) : IsDeeds B' C' w v L := by
  obtain ⟨a, cap, rfl, hC, hs⟩ := h
  refine ⟨a, cap, rfl, h3, ?_⟩
  rcases hs with hs | ⟨g, off, ha, k1, k2, hc, hf⟩
  · exact .inl hs
  · exact .inr ⟨g, off, ha, by omega, by omega, hc, hf⟩
theorem IsDeeds.empty (B : Nat) (w : World) (a : Option Addr) (c : Nat) : IsDeeds B w.heap.size w (.slice a 0 c) [] := ⟨a, c, rfl, Nat.le_refl _, .inl rfl⟩
theorem IsDeeds.marked {B C B0 C0 : Nat} {w w' : World} {v : Value} {L : List DeedN} (h : IsDeeds B0 C0 w v L) (hm : Marked B C w w') (hd : C0 ≤ B) : IsDeeds B0 C0 w' v L := by
  obtain ⟨a, cap, rfl, hC, hs⟩ := h
  obtain ⟨hz, row, hg, hr⟩ := hm
  refine ⟨a, cap, rfl, by omega, ?_⟩
  rcases hs with hs | ⟨g, off, ha, h1, h2, hc, hf⟩
  · exact .inl hs
  · have hne : some g ≠ row := fun e => by have := hr g e.symm; omega
    exact .inr ⟨g, off, ha, h1, h2, fun i p hi => ⟨(hg.cell_far ⟨g, off + i * 3, none⟩ (by show g < w.heap.size; omega) hne).trans (hc i p hi).1, (hg.cell_far ⟨g, off + i * 3 + 1, none⟩ (by show g < w.heap.size; omega) hne).trans (hc i p hi).2.1, (hg.cell_far ⟨g, off + i * 3 + 2, none⟩ (by show g < w.heap.size; omega) hne).trans (hc i p hi).2.2⟩, fun i hi => (hg.frozen_far ⟨g, off + i, none⟩ (by show g < w.heap.size; omega) hne).trans (hf i hi)⟩
/-- Without its first k deeds. -/
theorem IsDeeds.drop {B C : Nat} {w : World} {a : Addr} {n cap : Nat} {L : List DeedN} (h : IsDeeds B C w (.slice (some a) n cap) L) (k c : Nat) (hk : k < n) (hkc : n - k ≤ c) : IsDeeds B C w (.slice (some ⟨a.block, a.off + k * 3, none⟩) (n - k) c) (L.drop k) := by
  obtain ⟨a', cap', e, hC, hs⟩ := h
  obtain ⟨rfl, rfl, rfl⟩ : some a = a' ∧ n = L.length ∧ cap = cap' := by simpa using e
  refine ⟨_, c, by rw [List.length_drop], hC, ?_⟩
  rcases hs with hs | ⟨g, off, ha, h1, h2, hc, hf⟩
  · subst hs; simp at hk
  · cases ha
    refine .inr ⟨g, off + k * 3, rfl, h1, ⟨h2.1, by rw [List.length_drop]; exact hkc⟩, fun i p hi => ?_, fun i hi => ?_⟩
    · rw [List.getElem?_drop] at hi
      have := hc _ _ hi
      rw [show off + k * 3 + i * 3 = off + (k + i) * 3 by omega]
      exact this
    · rw [List.length_drop] at hi
      rw [show off + k * 3 + i = off + (k * 3 + i) by omega]
      exact hf _ (by omega)
/-- The first k deeds. -/
theorem IsDeeds.take {B C : Nat} {w : World} {a : Option Addr} {n cap : Nat} {L : List DeedN} (h : IsDeeds B C w (.slice a n cap) L) (k c : Nat) (hk : k ≤ n) (hkc : k ≤ c) : IsDeeds B C w (.slice a k c) (L.take k) := by
  obtain ⟨a', cap', e, hC, hs⟩ := h
  obtain ⟨rfl, rfl, rfl⟩ : a = a' ∧ n = L.length ∧ cap = cap' := by simpa using e
  refine ⟨a, c, by rw [List.length_take, Nat.min_eq_left hk], hC, ?_⟩
  rcases hs with hs | ⟨g, off, ha, h1, h2, hc, hf⟩
  · subst hs; exact .inl (by simp)
  · refine .inr ⟨g, off, ha, h1, ⟨h2.1, by rw [List.length_take]; omega⟩, fun i p hi => hc i p ?_, fun i hi => hf i (by rw [List.length_take] at hi; omega)⟩
    rw [List.getElem?_take] at hi
    split at hi
    · exact hi
    · cases hi
/-- The cells of deeds. -/
def deedCells (L : List DeedN) : List Value := L.flatMap fun p => [.int .i64 p.kind, .int .i64 p.a, .int .i64 p.b]
theorem deedCells_len (L : List DeedN) : (deedCells L).length = L.length * 3 := by
  induction L with
  | nil => rfl
  | cons p L ih => simp only [deedCells, List.flatMap_cons, List.length_append, List.length_cons, List.length_nil] at ih ⊢; rw [ih]; omega
theorem deedCells_snoc (L : List DeedN) (p : DeedN) : deedCells L ++ [.int .i64 p.kind, .int .i64 p.a, .int .i64 p.b] = deedCells (L ++ [p]) := by simp [deedCells]
theorem deedCells_append (L M : List DeedN) : deedCells L ++ deedCells M = deedCells (L ++ M) := by simp [deedCells]
theorem deedCells_get : ∀ (L : List DeedN) (i : Nat) (p : DeedN), L[i]? = some p → (deedCells L)[i * 3]? = some (.int .i64 p.kind) ∧ (deedCells L)[i * 3 + 1]? = some (.int .i64 p.a) ∧ (deedCells L)[i * 3 + 2]? = some (.int .i64 p.b)
  | [], i, p, h => by simp at h
  | q :: L, 0, p, h => by simp at h; subst h; exact ⟨rfl, rfl, rfl⟩
  | q :: L, i + 1, p, h => by
    have := deedCells_get L i p (by simpa using h)
    rw [show (i + 1) * 3 = i * 3 + 1 + 1 + 1 by omega]
    exact this
/-- A row of one's own, as append leaves it. -/
theorem IsDeeds.of_owns {B : Nat} {w : World} {e : TypeId} {v : Value} {L : List DeedN} {n : Nat} (h : w.ownsRow B e 3 v n (deedCells L)) : IsDeeds B w.heap.size w v L := by
  have hc := fun g (hg : v.ownBlock = some g) => h.cells hg
  obtain ⟨hl, h⟩ := h
  rw [deedCells_len] at hl
  have hn : L.length = n := by omega
  rcases h with ⟨rfl, rfl⟩ | ⟨g, cap, cur, rfl, hb, hg, hnc, hm, hcs, htk⟩
  · obtain rfl : L = [] := List.length_eq_zero_iff.1 hn
    exact IsDeeds.empty B w none 0
  · have hlt : g < w.heap.size := (Array.getElem?_eq_some_iff.1 hg).1
    have hcell : ∀ (k : Nat) (x : Value), (deedCells L)[k]? = some x → w.cell? ⟨g, 0 + k, none⟩ = some x := fun k x hk => by
      have := hc g rfl k x hk
      rw [Nat.zero_add]
      by_cases h0 : k = 0
      · subst h0; simpa [Addr.add] using this
      · simpa [Addr.add, h0] using this
    refine ⟨_, cap, by rw [hn], Nat.le_refl _, .inr ⟨g, 0, rfl, hb, ⟨hlt, by omega⟩, fun i p hi => ?_, fun i hi => ?_⟩⟩
    · obtain ⟨k1, k2, k3⟩ := deedCells_get L i p hi
      exact ⟨hcell _ _ k1, hcell _ _ k2, hcell _ _ k3⟩
    · simp [World.frozen?, hg]
end Go.Proofs.Ytigcomhhgfgmgaa
namespace Go.Proofs.Ytigcomhhgfgmgaa
open Go.RowKit
theorem deedCells_at : ∀ (L : List DeedN) (j : Nat) (u : Value), (deedCells L)[j]? = some u → ∃ i p, L[i]? = some p ∧ ((j = i * 3 ∧ u = .int .i64 p.kind) ∨ (j = i * 3 + 1 ∧ u = .int .i64 p.a) ∨ (j = i * 3 + 2 ∧ u = .int .i64 p.b))
  | [], j, u, h => by simp [deedCells] at h
  | q :: L, 0, u, h => by
    have h' : (Value.int .i64 q.kind) = u := by simpa [deedCells] using h
    exact ⟨0, q, rfl, .inl ⟨rfl, h'.symm⟩⟩
  | q :: L, 1, u, h => by
    have h' : (Value.int .i64 q.a) = u := by simpa [deedCells] using h
    exact ⟨0, q, rfl, .inr (.inl ⟨rfl, h'.symm⟩)⟩
  | q :: L, 2, u, h => by
    have h' : (Value.int .i64 q.b) = u := by simpa [deedCells] using h
    exact ⟨0, q, rfl, .inr (.inr ⟨rfl, h'.symm⟩)⟩
  | q :: L, j + 3, u, h => by
    have h' : (deedCells L)[j]? = some u := by simpa [deedCells] using h
    obtain ⟨i, p, hp, hj⟩ := deedCells_at L j u h'
    refine ⟨i + 1, p, by simpa using hp, ?_⟩
    rcases hj with ⟨h1, h2⟩ | ⟨h1, h2⟩ | ⟨h1, h2⟩
    · exact .inl ⟨by omega, h2⟩
    · exact .inr (.inl ⟨by omega, h2⟩)
    · exact .inr (.inr ⟨by omega, h2⟩)
theorem deedCells_one (L : List DeedN) : ∀ u ∈ deedCells L, u.oneCell' = true := by
  intro u hu
  obtain ⟨j, hj⟩ := List.getElem?_of_mem hu
  obtain ⟨i, p, _, h | h | h⟩ := deedCells_at L j u hj
  · rw [h.2]; rfl
  · rw [h.2]; rfl
  · rw [h.2]; rfl
theorem IsDeeds.lit {w : World} {g : Nat} {k p q : Int} {t : TypeId} (h : w.heap[g]? = some (.cells #[.int .i64 k, .int .i64 p, .int .i64 q] t (0, 0))) : IsDeeds g w.heap.size w (.slice (some ⟨g, 0, none⟩) 1 1) [⟨k, p, q⟩] := by
  have hlt : g < w.heap.size := (Array.getElem?_eq_some_iff.1 h).1
  refine ⟨_, 1, rfl, Nat.le_refl _, .inr ⟨g, 0, rfl, Nat.le_refl _, ⟨hlt, by simp⟩, fun i x hi => ?_, fun i hi => ?_⟩⟩
  · cases i with
    | zero =>
      have e : x = ⟨k, p, q⟩ := by simpa using hi.symm
      subst e
      exact ⟨by simp [World.cell?, h], by simp [World.cell?, h], by simp [World.cell?, h]⟩
    | succ i => simp at hi
  · simp [World.frozen?, h]
theorem IsDeeds.new (W : World) (k p q : Int) (t : TypeId) (g : Nat) (hg : W.heap.size = g) : IsDeeds g (g + 1) (W.alloc (.cells #[.int .i64 k, .int .i64 p, .int .i64 q] t)) (.slice (some ⟨g, 0, none⟩) 1 1) [⟨k, p, q⟩] := by
  subst hg
  have h := IsDeeds.lit (w := W.alloc (.cells #[.int .i64 k, .int .i64 p, .int .i64 q] t)) (g := W.heap.size) (k := k) (p := p) (q := q) (t := t) (heap_alloc_new _ _)
  rwa [World.size_alloc] at h
section
variable {P : Program} (w : World)
theorem run_append_deeds (base : Nat) (t ty e : TypeId) (i : TypeInfo) (z : Value) (bytes : Nat) (ht : P.underlying t = some (.slice e)) (hi : P.info? e = some i) (hz : i.zero = some z)
    (hsize : i.size = 3) (hby : i.bytes = bytes) (hzs : z.cells.size = 3) (v : Value) (n : Nat) (xs : List Value) (hown : w.ownsRow base e 3 v n xs)
    (B C : Nat) (x : Value) (L : List DeedN) (hx : IsDeeds B C w x L) (h63 : n + L.length ≤ maxLen) (hbytes : (n + L.length) * bytes ≤ 140737488355328) (hbase : base ≤ w.heap.size) :
    ∃ a c w', (Builtin.append_ #[t, t] ty #[v, x]).run P w = .ok (.slice a (n + L.length) c) w' ∧ w'.ownsRow base e 3 (.slice a (n + L.length) c) (n + L.length) (xs ++ deedCells L) ∧ w.grownBy w' v.ownBlock ∧
      ((Value.slice a (n + L.length) c).ownBlock = v.ownBlock ∨ (Value.slice a (n + L.length) c).ownBlock = some w.heap.size) := by
  obtain ⟨a, cap, rfl, hC, hs⟩ := hx
  cases a with
  | none =>
    obtain rfl : L = [] := by
      rcases hs with hs | ⟨g, off, ha, _⟩
      · exact hs
      · cases ha
    obtain ⟨a0, c0, rfl⟩ := own_shape hown
    refine ⟨a0, c0, w, ?_, by simpa [deedCells] using hown, ⟨rfl, rfl, rfl, Nat.le_refl _, fun _ _ _ => rfl⟩, .inl rfl⟩
    rcases hown.2 with ⟨hv, rfl⟩ | ⟨g, cap, cur, hv, _, _, hnc, _⟩
    · cases hv
      simp [Builtin.append_, run_underlying ht, sizeOf, typeInfo, hi, Builtin.lenOf, Builtin.firstCells]
    · cases hv
      simp [Builtin.append_, run_underlying ht, sizeOf, typeInfo, hi, Builtin.lenOf, Builtin.firstCells, hnc, storeCells]
  | some ad =>
    obtain ⟨v', w', h1, h2, h3, _, h5⟩ := run_append_own_at (P := P) w base t ty e i z 3 bytes ht hi hz hsize hby hzs (by omega) v n xs hown ad L.length cap (deedCells L) (deedCells_len L)
      (fun j u hu => by
        rcases hs with rfl | ⟨g, off, ha, _, _, hc, _⟩
        · simp [deedCells] at hu
        · cases ha
          rw [add_row]
          obtain ⟨k, p, hp, h | h | h⟩ := deedCells_at L j u hu
          · rw [h.1, h.2]; exact (hc k p hp).1
          · rw [h.1, h.2]; exact (hc k p hp).2.1
          · rw [h.1, h.2]; exact (hc k p hp).2.2) (deedCells_one L) h63 hbytes hbase
    obtain ⟨a0, c0, rfl⟩ := own_shape h2
    exact ⟨a0, c0, w', h1, h2, h3, h5⟩
/-- At the list of a plain region's operations. -/
theorem wpList_append_deeds {ops : Array Oper} {rest : List Oper} {o : Oper} {a : Act} {Q : Exit → Act → World → Prop} (hgd : o.guard = none) (s x : Operand) (t : TypeId)
    (ho : o.op = .call { callee := .builtin .append, args := #[s, x], argTypes := #[t, t] })
    (base : Nat) (e : TypeId) (i : TypeInfo) (z : Value) (bytes : Nat) (ht : P.underlying t = some (.slice e)) (hi : P.info? e = some i) (hz : i.zero = some z)
    (hsize : i.size = 3) (hby : i.bytes = bytes) (hzs : z.cells.size = 3) (v : Value) (n : Nat) (xs : List Value) (hs : a.eval s = v) (hown : w.ownsRow base e 3 v n xs)
    (B C : Nat) (y : Value) (L : List DeedN) (hx : a.eval x = y) (hy : IsDeeds B C w y L) (N : Nat) (hN : n + L.length = N) (X : List Value) (hX : xs ++ deedCells L = X) (h63 : N ≤ maxLen) (hbytes : N * bytes ≤ 140737488355328) (hbase : base ≤ w.heap.size)
    (h : ∀ a' c' w', w'.ownsRow base e 3 (.slice a' N c') N X → w.grownBy w' v.ownBlock → ((Value.slice a' N c').ownBlock = v.ownBlock ∨ (Value.slice a' N c').ownBlock = some w.heap.size) → wpList P ops Q rest (a.put o.dst (.slice a' N c')) w') : wpList P ops Q (o :: rest) a w := by
  subst hN hX
  refine wpList_plain hgd fun K hK => ?_
  obtain ⟨a', c', w', hr, h2, h3, h4⟩ := run_append_deeds (P := P) w base t o.type e i z bytes ht hi hz hsize hby hzs v n xs hown B C y L hy h63 hbytes hbase
  unfold Oper.wp execOp
  simp only [ho, resolve, invoke, builtin, Sem.run_bind, Sem.run_pure, Result.andThen_ok, List.map_toArray, List.map_cons, List.map_nil, hs, hx, hr]
  exact hK _ _ (h a' c' w' h2 h3 h4)
/-- At a step of a region that draws its order. -/
theorem step_append_deeds {ops : Array Oper} {o : Oper} {a : Act} {K : Act → World → Prop} {Q : Exit → Act → World → Prop} {E : Prop} (hgd : o.guard = none) (s x : Operand) (t : TypeId)
    (ho : o.op = .call { callee := .builtin .append, args := #[s, x], argTypes := #[t, t] })
    (base : Nat) (e : TypeId) (i : TypeInfo) (z : Value) (bytes : Nat) (ht : P.underlying t = some (.slice e)) (hi : P.info? e = some i) (hz : i.zero = some z)
    (hsize : i.size = 3) (hby : i.bytes = bytes) (hzs : z.cells.size = 3) (v : Value) (n : Nat) (xs : List Value) (hs : a.eval s = v) (hown : w.ownsRow base e 3 v n xs)
    (B C : Nat) (y : Value) (L : List DeedN) (hx : a.eval x = y) (hy : IsDeeds B C w y L) (N : Nat) (hN : n + L.length = N) (X : List Value) (hX : xs ++ deedCells L = X) (h63 : N ≤ maxLen) (hbytes : N * bytes ≤ 140737488355328) (hbase : base ≤ w.heap.size)
    (h : ∀ a' c' w', w'.ownsRow base e 3 (.slice a' N c') N X → w.grownBy w' v.ownBlock → ((Value.slice a' N c').ownBlock = v.ownBlock ∨ (Value.slice a' N c').ownBlock = some w.heap.size) → K (a.put o.dst (.slice a' N c')) w') :
    if Region.wanted o (yielded ops a.tmps) = true then Oper.wp P o a w K Q else E := by
  have hw : Region.wanted o (yielded ops a.tmps) = true := by simp [Region.wanted, hgd]
  rw [if_pos hw]
  subst hN hX
  obtain ⟨a', c', w', hr, h2, h3, h4⟩ := run_append_deeds (P := P) w base t o.type e i z bytes ht hi hz hsize hby hzs v n xs hown B C y L hy h63 hbytes hbase
  unfold Oper.wp execOp
  simp only [ho, resolve, invoke, builtin, Sem.run_bind, Sem.run_pure, Result.andThen_ok, List.map_toArray, List.map_cons, List.map_nil, hs, hx, hr]
  exact h a' c' w' h2 h3 h4
end
end Go.Proofs.Ytigcomhhgfgmgaa
namespace Go.Proofs.Ytigcomhhgfgmgaa
open Go.RowKit
theorem cell_belowS {W W' : World} {a : Addr} {v : Value} (hb : Below W.heap.size W W') (h : W.cell? a = some v) : W'.cell? a = some v := (hb.cell (p := a) (World.block_lt_of_cell? W a h)).trans h
/-- v is a slice of n texts f 0, f 1 ..; they lie in one block from B on, below C, and may be written. -/
def IsStrs (B C : Nat) (w : World) (v : Value) (n : Nat) (f : Nat → ByteArray) : Prop :=
  ∃ (a : Option Addr) (cap : Nat), v = .slice a n cap ∧ C ≤ w.heap.size ∧
    (n = 0 ∨ ∃ g off, a = some ⟨g, off, none⟩ ∧ B ≤ g ∧ g < C ∧ (∀ i, i < n → w.cell? ⟨g, off + i, none⟩ = some (.string (f i))) ∧ (∀ i, i < n → w.frozen? ⟨g, off + i, none⟩ = false))
theorem IsStrs.below {B C D : Nat} {w w' : World} {v : Value} {n : Nat} {f : Nat → ByteArray} (h : IsStrs B C w v n f) (hb : Below D w w') (hD : C ≤ D) : IsStrs B C w' v n f := by
  obtain ⟨a, cap, rfl, hC, hs⟩ := h
  refine ⟨a, cap, rfl, Nat.le_trans hC hb.size, ?_⟩
  rcases hs with hs | ⟨g, off, ha, h1, h2, hc, hf⟩
  · exact .inl hs
  · exact .inr ⟨g, off, ha, h1, h2, fun i hi => (hb.cell (p := ⟨g, off + i, none⟩) (by show g < D; omega)).trans (hc i hi), fun i hi => (hb.frozen (p := ⟨g, off + i, none⟩) (by show g < D; omega)).trans (hf i hi)⟩
theorem IsStrs.mono {B B' C C' : Nat} {w : World} {v : Value} {n : Nat} {f : Nat → ByteArray} (h : IsStrs B C w v n f) (h1 : B' ≤ B) (h2 : C ≤ C') (h3 : C' ≤ w.heap.size) : IsStrs B' C' w v n f := by
  obtain ⟨a, cap, rfl, hC, hs⟩ := h
  refine ⟨a, cap, rfl, h3, ?_⟩
  rcases hs with hs | ⟨g, off, ha, k1, k2, hc, hf⟩
  · exact .inl hs
  · exact .inr ⟨g, off, ha, by omega, by omega, hc, hf⟩
theorem IsStrs.congr {B C : Nat} {w : World} {v : Value} {n : Nat} {f g : Nat → ByteArray} (h : IsStrs B C w v n f) (he : ∀ i, i < n → f i = g i) : IsStrs B C w v n g := by
  obtain ⟨a, cap, rfl, hC, hs⟩ := h
  refine ⟨a, cap, rfl, hC, ?_⟩
  rcases hs with hs | ⟨g, off, ha, k1, k2, hc, hf⟩
  · exact .inl hs
  · exact .inr ⟨g, off, ha, k1, k2, fun i hi => by rw [hc i hi, he i hi], hf⟩
theorem IsStrs.nil (B : Nat) (w : World) (f : Nat → ByteArray) : IsStrs B w.heap.size w (.slice none 0 0) 0 f := ⟨none, 0, rfl, Nat.le_refl _, .inl rfl⟩
theorem IsStrs.empty (B : Nat) (w : World) (a : Option Addr) (c : Nat) (f : Nat → ByteArray) : IsStrs B w.heap.size w (.slice a 0 c) 0 f := ⟨a, c, rfl, Nat.le_refl _, .inl rfl⟩
/-- A row of one's own, as append leaves it. -/
theorem IsStrs.of_owns {B n : Nat} {w : World} {e : TypeId} {v : Value} {f : Nat → ByteArray} (h : w.ownsRow B e 1 v n ((List.range n).map fun i => .string (f i))) : IsStrs B w.heap.size w v n f := by
  have hc := fun g (hg : v.ownBlock = some g) => h.cells hg
  obtain ⟨hl, h⟩ := h
  rcases h with ⟨rfl, rfl⟩ | ⟨g, cap, cur, rfl, hb, hg, hnc, hm, hcs, htk⟩
  · exact IsStrs.nil B w f
  · have hlt : g < w.heap.size := (Array.getElem?_eq_some_iff.1 hg).1
    refine ⟨_, cap, rfl, Nat.le_refl _, .inr ⟨g, 0, rfl, hb, hlt, fun i hi => ?_, fun i hi => ?_⟩⟩
    · have := hc g rfl i (.string (f i)) (by simp [hi])
      rw [Nat.zero_add]
      by_cases h0 : i = 0
      · subst h0; simpa [Addr.add] using this
      · simpa [Addr.add, h0] using this
    · simp [World.frozen?, hg]
theorem IsStrs.marked {B C B0 C0 : Nat} {w w' : World} {v : Value} {n : Nat} {f : Nat → ByteArray} (h : IsStrs B0 C0 w v n f) (hm : Marked B C w w') (hd : C0 ≤ B) : IsStrs B0 C0 w' v n f := by
  obtain ⟨a, cap, rfl, hC, hs⟩ := h
  obtain ⟨hz, row, hg, hr⟩ := hm
  refine ⟨a, cap, rfl, by omega, ?_⟩
  rcases hs with hs | ⟨g, off, ha, h1, h2, hc, hf⟩
  · exact .inl hs
  · have hne : some g ≠ row := fun e => by have := hr g e.symm; omega
    exact .inr ⟨g, off, ha, h1, h2, fun i hi => (hg.cell_far ⟨g, off + i, none⟩ (by show g < w.heap.size; omega) hne).trans (hc i hi), fun i hi => (hg.frozen_far ⟨g, off + i, none⟩ (by show g < w.heap.size; omega) hne).trans (hf i hi)⟩
/-- A digit; the digits of a number ahead of a text; the mark of a number. -/
def digS (d : Nat) : ByteArray := ⟨#[UInt8.ofNat (48 + d)]⟩
def decF : Nat → Nat → ByteArray → ByteArray
  | 0, _, o => o
  | f + 1, k, o => if k = 0 then o else decF f (k / 10) (digS (k % 10) ++ o)
def markT (k : Nat) : ByteArray := ⟨#[109]⟩ ++ decF 10 k ⟨#[]⟩
theorem decF_zero (f : Nat) (o : ByteArray) : decF f 0 o = o := by cases f <;> simp [decF]
theorem decF_next {f k : Nat} (h : 0 < k) (o : ByteArray) : decF (f + 1) k o = decF f (k / 10) (digS (k % 10) ++ o) := by rw [decF, if_neg (by omega)]
theorem run_digit (w : World) (d : Nat) (hd : d < 10) : (convert 22 9 (.slice (some ⟨w.heap.size, 0, none⟩) 1 1)).run Try.prog (w.alloc (.cells #[.int .u8 (48 + (d : Int))] 5)) = .ok (.string (digS d)) (w.alloc (.cells #[.int .u8 (48 + (d : Int))] 5)) := by
  have h := run_convert_bytes_back (P := Try.prog) (w.alloc (.cells #[.int .u8 (48 + (d : Int))] 5)) 22 9 5 ⟨w.heap.size, 0, none⟩ 1 [UInt8.ofNat (48 + d)] Try.underlying22 Try.underlying5 Try.underlying9 ?_
  · exact h
  · intro j hj
    obtain rfl : j = 0 := by simpa using hj
    have e : ((UInt8.ofNat (48 + d)).toNat : Int) = 48 + (d : Int) := by
      rw [UInt8.toNat_ofNat_of_lt' (by show 48 + d < 256; omega)]; omega
    have h1 := cell_one_new w (.int .u8 (48 + (d : Int))) 5
    rw [← e] at h1
    rw [← e]
    exact h1 0 _ rfl
/-- What was marked: one block from B on, below C; other memory may be new. -/
def MarkedS (B C : Nat) (w w' : World) : Prop := ∃ row, w.grownBy w' row ∧ ∀ k, row = some k → B ≤ k ∧ k < C
theorem IsStrs.markedS {B C B0 C0 : Nat} {w w' : World} {v : Value} {n : Nat} {f : Nat → ByteArray} (h : IsStrs B0 C0 w v n f) (hm : MarkedS B C w w') (hd : C0 ≤ B) : IsStrs B0 C0 w' v n f := by
  obtain ⟨a, cap, rfl, hC, hs⟩ := h
  obtain ⟨row, hg, hr⟩ := hm
  refine ⟨a, cap, rfl, Nat.le_trans hC hg.size, ?_⟩
  rcases hs with hs | ⟨g, off, ha, h1, h2, hc, hf⟩
  · exact .inl hs
  · have hne : some g ≠ row := fun e => by have := hr g e.symm; omega
    exact .inr ⟨g, off, ha, h1, h2, fun i hi => (hg.cell_far ⟨g, off + i, none⟩ (by show g < w.heap.size; omega) hne).trans (hc i hi), fun i hi => (hg.frozen_far ⟨g, off + i, none⟩ (by show g < w.heap.size; omega) hne).trans (hf i hi)⟩
theorem below_markedS {B C D : Nat} {w0 w w' : World} (h : Below D w0 w) (hm : MarkedS B C w w') (h1 : D ≤ B) (h2 : D ≤ w.heap.size) : Below D w0 w' := by
  obtain ⟨row, hg, hr⟩ := hm
  exact h.grown hg h2 (fun k e => by have := hr k e; omega)
end Go.Proofs.Ytigcomhhgfgmgaa
namespace Go.Proofs.Ytigcomhhgfgmgaa
open Go.RowKit
/-- What an endless iterator promises: whoever keeps what it needs (Kp) between two rounds, and leaves before round N, is handed place after place; and it returns once a round has said 'no more'. -/
def Endless (F : Fence) (n : Nat) (P : Program) (g : Nat) (lb : Array Value) (at_ : Nat → Array Value) (Kp : World → Prop) (N : Nat) (w : World) : Prop :=
  ∀ (l : Nat) (J X : Nat → World → Prop) (W : World), Below w.heap.size w W → AbidesFrom W.heap.size J → AbidesFrom W.heap.size X → (∀ k V, J k V → Kp V) →
    (∀ k V, k < N → J k V → YieldAt F (n - 1) P l (at_ k) V fun e V' => (e = .returned (.bool true) ∧ k + 1 < N ∧ J (k + 1) V') ∨ (e = .returned (.bool false) ∧ X k V')) →
    0 < N → J 0 W → CallsIn F n P g (#[.func (.yield l) #[] #[]] ++ lb) W fun e V => (∃ v, e = .returned v) ∧ ∃ k, k < N ∧ X k V
/-- How the body of round k may end. -/
def roundEnd (N : Nat) (I : Nat → World → Prop) (X : Code → Nat → World → Prop) (k : Nat) (W : World) : Exit → Act → World → Prop
  | .normal, _, V => KeepsOthers W V ∧ k + 1 < N ∧ I (k + 1) V
  | .ret, _, V => KeepsOthers W V ∧ X .ret k V
  | .exit id, _, V => KeepsOthers W V ∧ X (.exit id) k V
  | .goto t, _, V => KeepsOthers W V ∧ X (.goto t) k V
  | .panic _, _, _ => False
  | .outgrown, _, _ => False
/-- The record of the loop in one of its states. -/
def recordOf (w : World) (fn : FuncId) (a : Act) (ps : Array Tmp) (assign body : Code) (st : LoopState) (pe : Option Code) : Obj :=
  .loop { state := st, pending := pe, fn := fn, tmps := a.tmps, params := ps, assign := assign, body := body, defers := w.heap.size }
/-- The record and the block for what the rounds defer, as they lie between two rounds, or behind the last one. -/
def Held (w W : World) (o : Obj) : Prop := W.heap[w.heap.size + 1]? = some o ∧ W.heap[w.heap.size]? = some (.deferred (some []))
theorem Held.kept {w A B : World} {o : Obj} {row : Option Nat} (h : Held w A o) (ho : o.isWalk = false) (hg : A.grownBy B row) (hr : ∀ r, row = some r → ∃ x : Obj, A.heap[r]? = some x ∧ x.isWalk = true) : Held w B o :=
  ⟨(grownBy_keeps hg hr h.1 ho).trans h.1, (grownBy_keeps hg hr h.2 rfl).trans h.2⟩
theorem Held.turned {w A : World} {o : Obj} (h : Held w A o) (o' : Obj) : Held w (A.putObj (w.heap.size + 1) o') o' :=
  ⟨World.putObj_heap_same (Array.getElem?_eq_some_iff.1 h.1).1, (World.putObj_heap_other (by omega)).trans h.2⟩
theorem Held.others {w A B : World} {o : Obj} (h : Held w A o) (ho : o.isCells = false) (hk : KeepsOthers A B) : Held w B o := ⟨hk.same _ _ h.1 ho, hk.same _ _ h.2 rfl⟩
variable {F : Fence} {n : Nat} {P : Program}
/-- **The statement 'for x := range f', f an iterator without end.** -/
theorem wpIn_rangeFunc_endless {g : Operand} {ps : Array Tmp} {assign body : Code} {Q : Exit → Act → World → Prop} {a : Act} {w : World}
    (hro : F.round = none) (h1 : 1 ≤ n) {gf : Nat} {lb : Array Value} (hg : a.eval g = .func (.func gf) #[] lb) (hFg : F.fn gf) (eg : ∀ args V, (callFunc gf args).run P V = .ok (.enter gf args) V)
    {at_ : Nat → Array Value} {Kp : World → Prop} {N : Nat} {w0 : World} (hseq : Endless F (n - 1) P gf lb at_ Kp N w0) (hb0 : Below w0.heap.size w0 w) (hps : ∀ k, (at_ k).size = ps.size) (hN : 0 < N)
    (I : Nat → World → Prop) (X : Code → Nat → World → Prop) (hI : OwnFrom w.heap.size I) (hX : ∀ c, OwnFrom w.heap.size (X c)) (hKp : ∀ k V, I k V → Kp V) (h0 : I 0 w) (a₁ : Nat → Act)
    (hassign : ∀ (l k : Nat) (W : World) (K : Act → World → Prop), K (a₁ k) W →
      assign.wpIn (F.inRound l) (n - 1 - 1) P (Exit.then K (fun _ _ _ => False)) { tmps := (ps.zip (at_ k)).foldl (fun t (p, v) => t.setIfInBounds p v) a.tmps, defers := [] } W)
    (hbody : ∀ (l k : Nat) (W : World), k < N → I k W → body.wpIn (F.inRound l) (n - 1 - 1) P (roundEnd N I X k W) (a₁ k) W)
    (hstop : ∀ (D k : Nat) (c : Code) (W : World), w.heap.size ≤ D → k < N → X c k W → W.heap[D]? = some (.deferred (some [])) → c.wpIn F n P Q { a with defers := { target := .collected D, args := #[] } :: a.defers } W) :
    (Code.rangeFunc g ps assign body).wpIn F n P Q a w := by
  refine wpIn_rangeFunc fun fn hfn => ?_
  rw [hro]
  obtain ⟨rec, hrec⟩ : ∃ rec : LoopState → Option Code → Obj, rec = recordOf w fn a ps assign body := ⟨_, rfl⟩
  have held : Held w ((w.alloc (.deferred (some []))).alloc (rec .ready none)) (rec .ready none) := by
    refine ⟨?_, (Below.heap_alloc _ _ _ (by simp)).trans (World.alloc_heap_new w _)⟩
    have := World.alloc_heap_new (w.alloc (.deferred (some []))) (rec .ready none)
    rwa [World.size_alloc] at this
  have hI1 : I 0 ((w.alloc (.deferred (some []))).alloc (rec .ready none)) := hI.alloc _ (hI.alloc _ h0)
  have hb1 : Below w0.heap.size w0 ((w.alloc (.deferred (some []))).alloc (rec .ready none)) := hb0.trans ((((Below.refl _ w).alloc (Nat.le_refl _) _).alloc (by simp) _).mono hb0.size)
  have hsz : w.heap.size ≤ ((w.alloc (.deferred (some []))).alloc (rec .ready none)).heap.size := by simp; omega
  obtain ⟨W1, hW1⟩ : ∃ W1, (w.alloc (.deferred (some []))).alloc (rec .ready none) = W1 := ⟨_, rfl⟩
  rw [hW1] at held hI1 hb1 hsz
  refine ⟨w.heap.size + 1, [{ target := .collected w.heap.size, args := #[] }], W1, { target := .fn (.func gf) lb, args := #[.func (.yield (w.heap.size + 1)) #[] #[]] }, W1, gf, #[.func (.yield (w.heap.size + 1)) #[] #[]] ++ lb, W1,
    by rw [← hW1, hrec]; exact run_enterLoop_outer _ _ _ _ _, by simp only [resolve, hg]; simp [go_sem], fun f' hf' => by simp [Target.leads] at hf'; subst hf'; exact hFg, by simp [invoke, go_sem, eg], fun _ => h1, ?_⟩
  have nowalk : ∀ {A : World} {row : Option Nat}, (∀ r, row = some r → W1.heap.size ≤ r ∧ ∃ o : Obj, A.heap[r]? = some o ∧ o.isWalk = true) → (∀ r, row = some r → w.heap.size ≤ r ∧ ∃ o : Obj, A.heap[r]? = some o ∧ o.isCells = false) :=
    fun hr r e => by obtain ⟨hB, o, ho, hw⟩ := hr r e; exact ⟨by omega, o, ho, Obj.not_cells_of_walk hw⟩
  have recW : ∀ st pe, (rec st pe).isWalk = false := fun _ _ => by rw [hrec]; rfl
  have recC : ∀ st pe, (rec st pe).isCells = false := fun _ _ => by rw [hrec]; rfl
  refine (hseq (w.heap.size + 1) (fun k W => I k W ∧ Held w W (rec .ready none)) (fun k W => ∃ c, X c k W ∧ Held w W (rec .done (some c))) W1 hb1
    (fun s A B row hs hg' hr => ⟨hI s A B row hs.1 hg' (nowalk hr), hs.2.kept (recW _ _) hg' (fun r e => (hr r e).2)⟩)
    (fun s A B row hs hg' hr => by obtain ⟨c, hc, hh⟩ := hs; exact ⟨c, hX c s A B row hc hg' (nowalk hr), hh.kept (recW _ _) hg' (fun r e => (hr r e).2)⟩)
    (fun k V hj => hKp k V hj.1) ?round hN ⟨hI1, held⟩).mono ?behind
  case round =>
    rintro k W hk ⟨hi, hh⟩
    have hl : W.heap[w.heap.size + 1]? = some (.loop { state := .ready, pending := none, fn := fn, tmps := a.tmps, params := ps, assign := assign, body := body, defers := w.heap.size }) := by have := hh.1; rw [hrec] at this; exact this
    refine ⟨fn, _, assign, body, run_yield (P := P) (args := at_ k) hl (hps k), roundIn_of_wpIn hfn (hassign _ k W _ ⟨_, run_beginRound hl rfl, ?_⟩)⟩
    have busy : Held w (W.putObj (w.heap.size + 1) (rec .busy none)) (rec .busy none) := hh.turned _
    have hi2 : I k (W.putObj (w.heap.size + 1) (rec .busy none)) := hI.putObj _ hi (by omega) hl rfl
    have fin : ∀ (jump : Option Code) (V : World), KeepsOthers (W.putObj (w.heap.size + 1) (rec .busy none)) V → ∃ r : Loop, V.heap[w.heap.size + 1]? = some (.loop r) ∧
        (Instr.endRound (w.heap.size + 1) jump).run P V = .ok (.bool jump.isNone) (V.putObj (w.heap.size + 1) (rec (if jump.isNone then .ready else .done) jump)) ∧ Held w (V.putObj (w.heap.size + 1) (rec (if jump.isNone then .ready else .done) jump)) (rec (if jump.isNone then .ready else .done) jump) := fun jump V hkV => by
      have hv := busy.others (recC _ _) hkV
      have hv1 := hv.1
      rw [hrec] at hv1
      have hr := run_endRound (P := P) jump hv1
      refine ⟨_, hv1, ?_, hv.turned _⟩
      rw [hrec]; exact hr
    rw [hrec] at hi2 busy
    refine wpIn_mono (hbody _ k _ hk hi2) ?_
    rintro e a3 V hp
    have stop : ∀ c : Code, KeepsOthers (W.putObj (w.heap.size + 1) (recordOf w fn a ps assign body .busy none)) V ∧ X c k V →
        ∃ v V', (Instr.endRound (w.heap.size + 1) (some c)).run P V = .ok v V' ∧ ((Ending.returned v = .returned (.bool true) ∧ k + 1 < N ∧ (I (k + 1) V' ∧ Held w V' (rec .ready none))) ∨ (Ending.returned v = .returned (.bool false) ∧ ∃ c, X c k V' ∧ Held w V' (rec .done (some c)))) := fun c hc => by
      obtain ⟨r, hl3, hr, hh3⟩ := fin (some c) V (by rw [hrec]; exact hc.1)
      exact ⟨_, _, hr, .inr ⟨rfl, c, (hX c).putObj _ hc.2 (by omega) hl3 rfl, hh3⟩⟩
    cases e with
    | normal =>
      obtain ⟨hk3, hlt, hi3⟩ := hp
      obtain ⟨r, hl3, hr, hh3⟩ := fin none V (by rw [hrec]; exact hk3)
      exact ⟨_, _, hr, .inl ⟨rfl, hlt, hI.putObj _ hi3 (by omega) hl3 rfl, hh3⟩⟩
    | ret => exact stop _ hp
    | exit id => exact stop _ hp
    | goto t => exact stop _ hp
    | panic ch => exact hp.elim
    | outgrown => exact hp.elim
  case behind =>
    rintro e V ⟨⟨v, rfl⟩, k, hk, c, hc, hh⟩
    have hl := hh.1
    rw [hrec] at hl
    refine ⟨some c, _, run_endLoop (P := P) hl (by simp), hstop _ k c _ (Nat.le_refl _) hk ((hX c).putObj _ hc (by omega) hl rfl) ?_⟩
    exact (World.putObj_heap_other (by omega)).trans hh.2
end Go.Proofs.Ytigcomhhgfgmgaa
namespace Go.Proofs.Ytigcomhhgfgmgaa
open Go.RowKit
variable {F : Fence} {n : Nat} {P : Program} {ops : Array Oper} {md : Region.Mode} {Q : Exit → Act → World → Prop}
/-- No operation defers a call. -/
def noDefer (ops : Array Oper) : Bool := ops.all fun o => match o.op with | .defer _ => false | _ => true
theorem noDefer_at {i : Nat} {o : Oper} (h : noDefer ops = true) (hi : ops[i]? = some o) : ∀ c, o.op ≠ .defer c := by
  intro c hc
  obtain ⟨hlt, rfl⟩ := Array.getElem?_eq_some_iff.1 hi
  have := Array.all_eq_true.1 h i hlt
  simp only [hc] at this
  cases this
theorem wpOpIn_round {l i : Nat} {K : Act → World → Prop} {a : Act} {w : World} (hro : F.round = none) (hnd : noDefer ops = true) (h : wpOpIn F n P ops Q i K a w) : wpOpIn (F.inRound l) n P ops Q i K a w := by
  unfold wpOpIn at *
  split
  · rename_i ho; simp only [ho] at h; exact h
  · rename_i o ho
    simp only [ho] at h
    split
    · rename_i hw
      simp only [hw, if_true] at h
      unfold Oper.wpIn at *
      refine ⟨h.1, ?_⟩
      have h2 := h.2
      rw [hro, Oper.semAt_none] at h2
      rw [Fence.inRound_round, Oper.semAt_some l _ _ (noDefer_at hnd ho)]
      exact h2
    · rename_i hw; simp only [hw] at h; exact h
theorem wpAnyIn_round {l : Nat} (hro : F.round = none) (hnd : noDefer ops = true) : ∀ (fuel : Nat) (listed : Array Bool) (a : Act) (w : World), wpAnyIn F n P md ops Q fuel listed a w → wpAnyIn (F.inRound l) n P md ops Q fuel listed a w
  | 0, _, _, _, h => h
  | fuel + 1, _, _, _, h => ⟨h.1, fun i hi => wpOpIn_round hro hnd (wpOpIn_mono (fun a' w' => wpAnyIn_round hro hnd fuel _ a' w') (h.2 i hi))⟩
theorem wpIn_region_quiet_round {C : World → Prop} {id l : Nat} {a : Act} {w : World} (hro : F.round = none) (hnd : noDefer ops = true) (hm : P.follows .mixedOrders = true) (hB : Region.lexB .any ops = true) (hC : C { w with drawn := w.drawn + 1 })
    (h : wpQuietIn F n P ops C (fun a' => ∀ w', C w' → Q .normal a' w') ops.toList a) : (Code.region id ops true).wpIn (F.inRound l) n P Q a w := by
  simp only [Region.lexB, Bool.and_eq_true] at hB
  refine wpIn_region_any hm (wpAnyIn_round hro hnd _ _ _ _ (wpAnyIn_of_quiet (Q := fun a' => ∀ w', C w' → Q .normal a' w') hro (fun _ w' hw' h => h w' hw') _ _ _ _ hC ?_))
  have := wpAnyQIn_lex (F := F) (n := n) (C := C) (md := .any) hB.1 ops.toList 0 (Array.replicate ops.size false) a (by simp) (by simpa using hB.2) h
  simpa using this
/-- The worlds in which something holds. -/
structure KeptBy (S : World → Prop) where
  world : World
  ok : S world
theorem wpIn_region_kept {S : World → Prop} {id l : Nat} {a : Act} {w : World} {os : List Oper} (hS : S w.drew) (hro : F.round = none) (hnd : noDefer os.toArray = true) (hm : P.follows .mixedOrders = true) (hB : Region.lexB .any os.toArray = true)
    (h : wpQuietIn F n P os.toArray (fun w' => ∃ i : KeptBy S, w' = i.world) (fun a' => ∀ w', (∃ i : KeptBy S, w' = i.world) → Q .normal a' w') os a) : (Code.region id os.toArray true).wpIn (F.inRound l) n P Q a w :=
  wpIn_region_quiet_round (C := fun w' => ∃ i : KeptBy S, w' = i.world) hro hnd hm hB ⟨⟨w.drew, hS⟩, rfl⟩ (by simpa using h)
end Go.Proofs.Ytigcomhhgfgmgaa
namespace Go.Proofs.Ytigcomhhgfgmgaa
open Go.RowKit
variable {P : Program} {Q : Exit → Act → World → Prop}
theorem wp_region_kept {S : World → Prop} {id : Nat} {a : Act} {w : World} {os : List Oper} (hS : S w.drew) (hm : P.follows .mixedOrders = true) (hB : Region.lexB .any os.toArray = true)
    (h : wpQuiet P os.toArray (fun w' => ∃ i : KeptBy S, w' = i.world) (fun a' => ∀ w', (∃ i : KeptBy S, w' = i.world) → Q .normal a' w') os a) : (Code.region id os.toArray true).wp P Q a w :=
  wp_region_quiet (C := fun w' => ∃ i : KeptBy S, w' = i.world) hm hB ⟨⟨w.drew, hS⟩, rfl⟩ (by simpa using h)
end Go.Proofs.Ytigcomhhgfgmgaa
namespace Go.Proofs.Ytigcomhhgfgmgaa
open Go.RowKit
set_option maxHeartbeats 400000 in
theorem eqPair_any (p q : Int) (w : World) :
    Calls Try.prog 56 #[pr p q, pr p q] w fun e w' => e = .returned (.bool true) ∧ Below w.heap.size w w' := by
  go_enter Try.func56, Try.ntmps56
  go_wp2
  go_ret
  exact ⟨rfl, by (repeat (first | exact Below.refl _ _ | refine Below.setCell ?_ (by first | omega | (simp <;> omega)) _ | refine Below.alloc ?_ (by first | omega | (simp <;> omega)) _ | refine Below.drew ?_ | refine Below.trans ?_ (Below.mono (by assumption) (by first | omega | (simp <;> omega))) | refine Below.grown ?_ (by assumption) (by first | omega | (simp <;> omega)) (fun k e => by cases e; first | omega | (simp <;> omega))))⟩
end Go.Proofs.Ytigcomhhgfgmgaa
namespace Go.Proofs.Ytigcomhhgfgmgaa
open Go.RowKit
set_option maxHeartbeats 2000000 in
theorem specDeskOk_any (B C : Nat) (p0 q0 : Int) (L : List (Int × Int)) (v : Value) (w : World) (h : IsPairs B C w v L) (hn : L.length ≤ 1048600) :
    Calls Try.prog 13 #[.agg #[.int .i64 p0, .int .i64 q0, v]] w fun e w' => e = .returned (.bool (deskN ⟨(p0, q0), L⟩)) ∧ Below w.heap.size w w' := by
  obtain ⟨a, cap, rfl, hC, hs⟩ := h
  have hmk : ∀ b : Bool, deskN ⟨(p0, q0), L⟩ = b → Ending.returned (.bool b) = .returned (.bool (deskN ⟨(p0, q0), L⟩)) := fun b e => by rw [e]
  replace hmk := Lib.hid hmk
  go_enter Try.func13, Try.ntmps13
  go_wp2_with fail
  go_loopw [3] (fun k wr => ∃ i : Nat, i ≤ L.length ∧ k = .int .i64 i ∧ (∀ (j : Nat) (p : Int × Int), j < i → L[j]? = some p → pairN p = true) ∧ wr.cell? ⟨w.heap.size, 0, none⟩ = some (.int .i64 p0) ∧ wr.cell? ⟨w.heap.size, 1, none⟩ = some (.int .i64 q0) ∧ wr.cell? ⟨w.heap.size, 2, none⟩ = some (.slice a L.length cap) ∧ w.heap.size < wr.heap.size ∧ Below w.heap.size w wr) (fun k _ => L.length - (intOf k).toNat)
  case atStart => exact ⟨0, Nat.zero_le _, rfl, fun j p hj => absurd hj (by omega), by go_simp, by go_simp, by go_simp, by simp, (Below.refl _ _).alloc (Nat.le_refl _) _⟩
  case round =>
    obtain ⟨i, hi, rfl, hall, k0, k1, k2, hz, hB⟩ := hrel
    by_cases hlt : i < L.length
    · rcases hs with rfl | ⟨g, off, rfl, h1, h2, hc, hf⟩
      · simp at hlt
      obtain ⟨⟨x, y⟩, hp⟩ : ∃ p, L[i]? = some p := ⟨L[i], by simp [hlt]⟩
      have c1 : wr.cell? ⟨g, off + i * 2, none⟩ = some (.int .i64 x) := (hB.cell (p := ⟨g, off + i * 2, none⟩) (by show g < _; omega)).trans (hc i _ hp).1
      have c2 : wr.cell? ⟨g, off + i * 2 + 1, none⟩ = some (.int .i64 y) := (hB.cell (p := ⟨g, off + i * 2 + 1, none⟩) (by show g < _; omega)).trans (hc i _ hp).2
      clear hc hf
      cases hb : pairB x y with
      | true =>
        go_wp2_with (go_at_call 41; refine (specPairOk_yes x y _ hb).mono ?_; rintro e w1 ⟨rfl, hb1⟩; obtain ⟨hc1, hf1⟩ := bcell hb1; have hz1 := hb1.size)
        go_roundw
        case rel =>
          refine ⟨i + 1, by omega, congrArg (Value.int .i64) (by omega), fun j p hj hp' => ?_, (hc1 _ _ hz).trans k0, (hc1 _ _ hz).trans k1, (hc1 _ _ hz).trans k2, by omega, hB.trans (hb1.mono (by omega))⟩
          rcases Nat.lt_or_ge j i with hj' | hj'
          · exact hall j p hj' hp'
          · have hji : j = i := by omega
            rw [hji, hp] at hp'
            cases hp'
            exact hb
        case measure => simp [intOf]; omega
      | false =>
        go_wp2_with (go_at_call 41; refine (specPairOk_no x y _ hb).mono ?_; rintro e w1 ⟨rfl, hb1⟩; obtain ⟨hc1, hf1⟩ := bcell hb1; have hz1 := hb1.size)
        go_ret
        refine ⟨hmk.out _ ?_, hB.trans (hb1.mono (by omega))⟩
        cases hd : deskN ⟨(p0, q0), L⟩ with
        | false => rfl
        | true =>
          have := (deskN_of hd).2.2 _ (List.mem_of_getElem? hp)
          exact absurd (this.symm.trans hb) (by decide)
    · have hall' : ∀ p ∈ L, pairN p = true := fun p hp => by
        obtain ⟨j, hj, rfl⟩ := List.mem_iff_getElem.1 hp
        exact hall j _ (by omega) (by simp [hj])
      replace hall' := Lib.hid hall'
      clear hall hs
      cases hb : pairB p0 q0 with
      | true =>
        have hb8 : decide ((L.length : Int) ≤ 8) = decide (L.length ≤ 8) := by rw [decide_eq_decide]; omega
        go_wp2_with (go_at_call 41; refine (specPairOk_yes p0 q0 _ hb).mono ?_; rintro e w1 ⟨rfl, hb1⟩; obtain ⟨hc1, hf1⟩ := bcell hb1; have hz1 := hb1.size; have k2' := (hc1 _ 2 hz).trans k2)
        go_ret
        refine ⟨hmk.out _ ?_, hB.trans (hb1.mono (by omega))⟩
        show (pairN (p0, q0) && decide (L.length ≤ 8) && L.all pairN) = _
        rw [List.all_eq_true.2 hall'.out, show pairN (p0, q0) = true from hb]
        simp
      | false =>
        go_wp2_with (go_at_call 41; refine (specPairOk_no p0 q0 _ hb).mono ?_; rintro e w1 ⟨rfl, hb1⟩; obtain ⟨hc1, hf1⟩ := bcell hb1; have hz1 := hb1.size)
        go_ret
        refine ⟨hmk.out _ ?_, hB.trans (hb1.mono (by omega))⟩
        simp [deskN, pairN, hb]
theorem specDeskNew_any (p q : Int) (w : World) : Calls Try.prog 17 #[pr p q] w fun e w' =>
    e = .returned (if pairB p q = true then .tuple #[.agg #[.int .i64 p, .int .i64 q, .slice none 0 0], .bool true] else .tuple #[.agg #[.int .i64 0, .int .i64 0, .slice none 0 0], .bool false]) ∧ Below w.heap.size w w' := by
  cases hb : pairB p q with
  | true =>
    go_enter Try.func17, Try.ntmps17
    go_wp2_with (go_at_call 41; refine (specPairOk_yes p q _ hb).mono ?_; rintro e w1 ⟨rfl, hb1⟩; obtain ⟨hc1, hf1⟩ := bcell hb1; have hz1 := hb1.size; simp only [World.size_alloc] at hz1)
    refine bodyPost_ret (v := .tuple #[.agg #[.int .i64 p, .int .i64 q, .slice none 0 0], .bool true]) (by simp [results, Try.results17, go_sem]; go_simp) rfl ⟨by simp, ?_⟩
    (repeat (first | exact Below.refl _ _ | refine Below.setCell ?_ (by first | omega | (simp <;> omega)) _ | refine Below.alloc ?_ (by first | omega | (simp <;> omega)) _ | refine Below.trans ?_ (Below.mono (by assumption) (by first | omega | (simp <;> omega)))))
  | false =>
    go_enter Try.func17, Try.ntmps17
    go_wp2_with (go_at_call 41; refine (specPairOk_no p q _ hb).mono ?_; rintro e w1 ⟨rfl, hb1⟩; obtain ⟨hc1, hf1⟩ := bcell hb1; have hz1 := hb1.size; simp only [World.size_alloc] at hz1)
    refine bodyPost_ret (v := .tuple #[.agg #[.int .i64 0, .int .i64 0, .slice none 0 0], .bool false]) (by simp [results, Try.results17, go_sem]; go_simp) rfl ⟨by simp, ?_⟩
    (repeat (first | exact Below.refl _ _ | refine Below.setCell ?_ (by first | omega | (simp <;> omega)) _ | refine Below.alloc ?_ (by first | omega | (simp <;> omega)) _ | refine Below.trans ?_ (Below.mono (by assumption) (by first | omega | (simp <;> omega)))))
end Go.Proofs.Ytigcomhhgfgmgaa
namespace Go.Proofs.Ytigcomhhgfgmgaa
open Go.RowKit
theorem IsPairs.markedS {B C B0 C0 : Nat} {w w' : World} {v : Value} {L : List (Int × Int)} (h : IsPairs B0 C0 w v L) (hm : MarkedS B C w w') (hd : C0 ≤ B) : IsPairs B0 C0 w' v L := by
  obtain ⟨a, cap, rfl, hC, hs⟩ := h
  obtain ⟨row, hg, hr⟩ := hm
  refine ⟨a, cap, rfl, Nat.le_trans hC hg.size, ?_⟩
  rcases hs with hs | ⟨g, off, ha, h1, h2, hc, hf⟩
  · exact .inl hs
  · have hne : some g ≠ row := fun e => by have := hr g e.symm; omega
    exact .inr ⟨g, off, ha, h1, h2, fun i p hi => ⟨(hg.cell_far ⟨g, off + i * 2, none⟩ (by show g < w.heap.size; omega) hne).trans (hc i p hi).1, (hg.cell_far ⟨g, off + i * 2 + 1, none⟩ (by show g < w.heap.size; omega) hne).trans (hc i p hi).2⟩, fun i hi => (hg.frozen_far ⟨g, off + i, none⟩ (by show g < w.heap.size; omega) hne).trans (hf i hi)⟩
/-- The marks. -/
def markL (k0 : Int) (n : Nat) : List (Int × Int) := (List.range n).map fun (i : Nat) => (k0 + 2 * (i : Int), k0 + 2 * (i : Int) + 1)
theorem markL_len (k0 : Int) (n : Nat) : (markL k0 n).length = n := by simp [markL]
theorem markL_at {k0 : Int} {n i : Nat} (h : i < n) : (markL k0 n)[i]? = some (k0 + 2 * (i : Int), k0 + 2 * (i : Int) + 1) := by simp [markL, h]
theorem markL_is {k0 : Int} {n i : Nat} {p : Int × Int} (h : (markL k0 n)[i]? = some p) : i < n ∧ p = (k0 + 2 * (i : Int), k0 + 2 * (i : Int) + 1) := by
  have hi : i < n := by
    have := (List.getElem?_eq_some_iff.1 h).1
    rwa [markL_len] at this
  rw [markL_at hi] at h
  exact ⟨hi, (Option.some.inj h).symm⟩
theorem list_at {L : List (Int × Int)} {i : Nat} (h : i < L.length) : ∃ x y, L[i]? = some (x, y) := ⟨L[i].1, L[i].2, by simp [h]⟩
set_option maxHeartbeats 4000000 in
theorem eqPairS_same (B C B' C' : Nat) (v u : Value) (L : List (Int × Int)) (w : World) (h : IsPairs B C w v L) (k : IsPairs B' C' w u L) (hn : L.length ≤ 1048600) :
    Calls Try.prog 57 #[v, u] w fun e w' => e = .returned (.bool true) ∧ Below w.heap.size w w' := by
  obtain ⟨a, ca, rfl, hC, hs⟩ := h
  obtain ⟨b, cb, rfl, hC', ks⟩ := k
  go_enter Try.func57, Try.ntmps57
  go_wp2_with fail
  go_loopw [5] (fun k wr => ∃ i : Nat, i ≤ L.length ∧ k = .int .i64 i ∧ Below w.heap.size w wr) (fun k _ => L.length - (intOf k).toNat)
  case atStart => exact ⟨0, Nat.zero_le _, rfl, Below.refl _ _⟩
  case round =>
    obtain ⟨i, hi, rfl, hB⟩ := hrel
    by_cases hlt : i < L.length
    · rcases hs with rfl | ⟨g, off, rfl, h1, h2, hc, hf⟩
      · simp at hlt
      rcases ks with rfl | ⟨g', off', rfl, h1', h2', hc', hf'⟩
      · simp at hlt
      obtain ⟨x, y, hp⟩ := list_at hlt
      have c1 : wr.cell? ⟨g, off + i * 2, none⟩ = some (.int .i64 x) := (hB.cell (p := ⟨g, off + i * 2, none⟩) (by show g < _; omega)).trans (hc i _ hp).1
      have c2 : wr.cell? ⟨g, off + i * 2 + 1, none⟩ = some (.int .i64 y) := (hB.cell (p := ⟨g, off + i * 2 + 1, none⟩) (by show g < _; omega)).trans (hc i _ hp).2
      have c3 : wr.cell? ⟨g', off' + i * 2, none⟩ = some (.int .i64 x) := (hB.cell (p := ⟨g', off' + i * 2, none⟩) (by show g' < _; omega)).trans (hc' i _ hp).1
      have c4 : wr.cell? ⟨g', off' + i * 2 + 1, none⟩ = some (.int .i64 y) := (hB.cell (p := ⟨g', off' + i * 2 + 1, none⟩) (by show g' < _; omega)).trans (hc' i _ hp).2
      have hii : (i : Int) < (L.length : Int) := by omega
      have i0 : (0 : Int) ≤ (i : Int) := by omega
      have HB := Lib.hid hB
      have hbz := hB.size
      clear hc hc' hf hf' hB hp
      obtain ⟨S, hSd⟩ : ∃ S : World → Prop, (fun V => Below wr.heap.size wr V) = S := ⟨_, rfl⟩
      have hkeep : ∀ V V' : World, S V → Below V.heap.size V V' → S V' := by rw [← hSd]; exact fun V V' h hb => h.trans (hb.mono h.size)
      have gk1 : ∀ iq : KeptBy S, iq.world.cell? ⟨g, off + i * 2, none⟩ = some (.int .i64 x) := by rw [← hSd]; exact fun iq => cell_belowP iq.ok c1
      have gk2 : ∀ iq : KeptBy S, iq.world.cell? ⟨g, off + i * 2 + 1, none⟩ = some (.int .i64 y) := by rw [← hSd]; exact fun iq => cell_belowP iq.ok c2
      have gk3 : ∀ iq : KeptBy S, iq.world.cell? ⟨g', off' + i * 2, none⟩ = some (.int .i64 x) := by rw [← hSd]; exact fun iq => cell_belowP iq.ok c3
      have gk4 : ∀ iq : KeptBy S, iq.world.cell? ⟨g', off' + i * 2 + 1, none⟩ = some (.int .i64 y) := by rw [← hSd]; exact fun iq => cell_belowP iq.ok c4
      have gkn : Nonempty (KeptBy S) := ⟨⟨wr.drew, by rw [← hSd]; exact (Below.refl _ _).drew⟩⟩
      go_wp2_with fail
      refine wp_region_kept (S := S) (by rw [← hSd]; exact (Below.refl _ _).drew) (by kernel_rfl) (by kernel_rfl) ?_
      repeat (go_big_quiet_step ((first | (go_at_call 56; refine (eqPair_any x y _).mono ?_; rintro e w' ⟨rfl, hhw⟩; exact ⟨rfl, ⟨w', hkeep _ _ (KeptBy.ok _) hhw⟩, rfl⟩) | fail)))
      refine wpQuiet_nil ?_
      rintro z3 ⟨iz, hwz⟩
      have bz3 : Below wr.heap.size wr z3 := by
        have this : S z3 := by rw [hwz]; exact iz.ok
        rw [← hSd] at this
        exact this
      clear hwz iz gkn hkeep hSd gk1 gk2 gk3 gk4
      have HBz := Lib.hid (HB.out.trans (bz3.mono hbz))
      clear bz3
      go_wp2
      go_roundw
      case rel => exact ⟨i + 1, by omega, congrArg (Value.int .i64) (by omega), HBz.out⟩
      case measure => simp [intOf]; omega
    · obtain rfl : i = L.length := by omega
      clear hs ks
      go_wp2
      go_ret
      exact ⟨rfl, hB⟩
set_option maxHeartbeats 4000000 in
theorem markPairS_any (B C : Nat) (v : Value) (L : List (Int × Int)) (k0 : Int) (w : World) (h : IsPairs B C w v L) (hn : L.length ≤ 1048600) (hk : 0 ≤ k0) (hk1 : k0 ≤ 100000000) :
    Calls Try.prog 58 #[v, .int .i64 k0] w fun e w' => e = .returned (.int .i64 (k0 + 2 * (L.length : Int))) ∧ IsPairs B C w' v (markL k0 L.length) ∧ MarkedS B C w w' := by
  obtain ⟨a, ca, rfl, hC, hs⟩ := h
  rcases hs with rfl | ⟨g, off, rfl, h1, h2, hc, hf⟩
  · go_enter Try.func58, Try.ntmps58
    go_wp2_with fail
    go_loop [1, 5] (fun x y => x = .int .i64 k0 ∧ y = .int .i64 0) (fun _ _ => 0)
    case atStart => exact ⟨rfl, rfl⟩
    case round =>
      obtain ⟨rfl, rfl⟩ := hrel
      go_wp2
      go_ret
      exact ⟨by simp, ⟨a, ca, rfl, hC, .inl rfl⟩, none, World.grownBy.refl _ _, fun k e => by cases e⟩
  · have hc2 : ∀ j, j < L.length → ∃ x y : Int, w.cell? ⟨g, off + j * 2, none⟩ = some (.int .i64 x) ∧ w.cell? ⟨g, off + j * 2 + 1, none⟩ = some (.int .i64 y) := fun j hj => by
      obtain ⟨x, y, hp⟩ := list_at hj
      exact ⟨x, y, hc j _ hp⟩
    obtain ⟨n, hnl⟩ : ∃ n, L.length = n := ⟨_, rfl⟩
    rw [hnl] at hn hf hc2 h2 ⊢
    clear hc hnl
    go_enter Try.func58, Try.ntmps58
    go_wp2_with fail
    go_loopw [1, 5] (fun x y wr => ∃ i : Nat, i ≤ n ∧ x = .int .i64 (k0 + 2 * (i : Int)) ∧ y = .int .i64 i ∧ (∀ j, j < i → wr.cell? ⟨g, off + j * 2, none⟩ = some (.int .i64 (k0 + 2 * (j : Int))) ∧ wr.cell? ⟨g, off + j * 2 + 1, none⟩ = some (.int .i64 (k0 + 2 * (j : Int) + 1))) ∧ (∀ j, i ≤ j → j < n → ∃ x y : Int, wr.cell? ⟨g, off + j * 2, none⟩ = some (.int .i64 x) ∧ wr.cell? ⟨g, off + j * 2 + 1, none⟩ = some (.int .i64 y)) ∧ (∀ j, j < 2 * n → wr.frozen? ⟨g, off + j, none⟩ = false) ∧ wr.heap.size = w.heap.size ∧ w.grownBy wr (some g)) (fun _ y _ => n - (intOf y).toNat)
    case atStart => exact ⟨0, Nat.zero_le _, by simp, rfl, fun j hj => absurd hj (by omega), fun j _ hj => hc2 j hj, hf, rfl, World.grownBy.refl _ _⟩
    case round =>
      obtain ⟨i, hi, rfl, rfl, hm, hr, hfr, hsz, hg⟩ := hrel
      by_cases hlt : i < n
      · obtain ⟨x, y, c1, c2⟩ := hr i (Nat.le_refl _) hlt
        have f1 : wr.frozen? ⟨g, off + i * 2, none⟩ = false := hfr (i * 2) (by omega)
        have f2 : wr.frozen? ⟨g, off + i * 2 + 1, none⟩ = false := hfr (i * 2 + 1) (by omega)
        have hii : (i : Int) < (n : Int) := by omega
        have i0 : (0 : Int) ≤ (i : Int) := by omega
        have HM := Lib.hid hm
        have HR := Lib.hid hr
        have HF := Lib.hid hfr
        have HS := Lib.hid hsz
        have HG := Lib.hid hg
        clear hm hr hfr hc2 hf hsz hg
        go_wp2
        go_roundw
        case rel =>
          refine ⟨i + 1, by omega, congrArg (Value.int .i64) (by omega), congrArg (Value.int .i64) (by omega), fun j hj => ?_, fun j hij hj => ?_, fun j hj => ?_, ?_, grown_set (grown_set HG.out _ _) _ _⟩
          · by_cases e : j = i
            · subst e
              refine ⟨(World.cell?_setCell_other _ ⟨g, off + j * 2 + 1, none⟩ ⟨g, off + j * 2, none⟩ _ (fun e' => by injection e'; omega)).trans (World.cell?_setCell_same' _ _ _ (by rw [c1]; rfl)), World.cell?_setCell_same' _ _ _ ?_⟩
              rw [World.cell?_setCell_other _ ⟨g, off + j * 2, none⟩ ⟨g, off + j * 2 + 1, none⟩ _ (fun e' => by injection e'; omega), c2]
              rfl
            · obtain ⟨m1, m2⟩ := HM.out j (by omega)
              exact ⟨(World.cell?_setCell_other _ ⟨g, off + i * 2 + 1, none⟩ ⟨g, off + j * 2, none⟩ _ (fun e' => by injection e'; omega)).trans ((World.cell?_setCell_other _ ⟨g, off + i * 2, none⟩ ⟨g, off + j * 2, none⟩ _ (fun e' => by injection e'; omega)).trans m1),
                (World.cell?_setCell_other _ ⟨g, off + i * 2 + 1, none⟩ ⟨g, off + j * 2 + 1, none⟩ _ (fun e' => by injection e'; omega)).trans ((World.cell?_setCell_other _ ⟨g, off + i * 2, none⟩ ⟨g, off + j * 2 + 1, none⟩ _ (fun e' => by injection e'; omega)).trans m2)⟩
          · obtain ⟨x', y', m1, m2⟩ := HR.out j (by omega) hj
            exact ⟨x', y', (World.cell?_setCell_other _ ⟨g, off + i * 2 + 1, none⟩ ⟨g, off + j * 2, none⟩ _ (fun e' => by injection e'; omega)).trans ((World.cell?_setCell_other _ ⟨g, off + i * 2, none⟩ ⟨g, off + j * 2, none⟩ _ (fun e' => by injection e'; omega)).trans m1),
                (World.cell?_setCell_other _ ⟨g, off + i * 2 + 1, none⟩ ⟨g, off + j * 2 + 1, none⟩ _ (fun e' => by injection e'; omega)).trans ((World.cell?_setCell_other _ ⟨g, off + i * 2, none⟩ ⟨g, off + j * 2 + 1, none⟩ _ (fun e' => by injection e'; omega)).trans m2)⟩
          · rw [World.frozen?_setCell, World.frozen?_setCell]; exact HF.out j hj
          · rw [← HS.out]; simp [World.setCell]
        case measure => simp [intOf]; omega
      · obtain rfl : i = n := by omega
        have HM := Lib.hid hm
        have HF := Lib.hid hfr
        have HS := Lib.hid hsz
        have HG := Lib.hid hg
        clear hm hr hfr hc2 hf hsz hg
        go_wp2
        go_ret
        refine ⟨rfl, ⟨_, ca, by rw [markL_len], by rw [HS.out]; exact hC, .inr ⟨g, off, rfl, h1, ⟨h2.1, by rw [markL_len]; exact h2.2⟩, fun j p hj => ?_, by rw [markL_len]; exact HF.out⟩⟩, some g, HG.out, fun k e => by cases e; exact ⟨h1, h2.1⟩⟩
        obtain ⟨hj', rfl⟩ := markL_is hj
        exact HM.out j hj'
set_option maxHeartbeats 4000000 in
theorem heldPairS_any (B C n : Nat) (v : Value) (k0 : Int) (w : World) (h : IsPairs B C w v (markL k0 n)) (hn : n ≤ 1048600) (hk : 0 ≤ k0) (hk1 : k0 ≤ 100000000) :
    Calls Try.prog 59 #[v, .int .i64 k0] w fun e w' => e = .returned (.int .i64 (k0 + 2 * (n : Int))) ∧ w = w' := by
  obtain ⟨a, ca, rfl, hC, hs⟩ := h
  rw [markL_len]
  replace hs : n = 0 ∨ ∃ g off, a = some ⟨g, off, none⟩ ∧ ∀ j, j < n → w.cell? ⟨g, off + j * 2, none⟩ = some (.int .i64 (k0 + 2 * (j : Int))) ∧ w.cell? ⟨g, off + j * 2 + 1, none⟩ = some (.int .i64 (k0 + 2 * (j : Int) + 1)) := by
    rcases hs with hs | ⟨g, off, ha, _, _, hc, _⟩
    · left; have := markL_len k0 n; rw [hs] at this; simpa using this.symm
    · exact .inr ⟨g, off, ha, fun j hj => hc j _ (markL_at hj)⟩
  go_enter Try.func59, Try.ntmps59
  go_wp2_with fail
  go_loop [1, 5] (fun x y => ∃ i : Nat, i ≤ n ∧ x = .int .i64 (k0 + 2 * (i : Int)) ∧ y = .int .i64 i) (fun _ y => n - (intOf y).toNat)
  case atStart => exact ⟨0, Nat.zero_le _, by simp, rfl⟩
  case round =>
    obtain ⟨i, hi, rfl, rfl⟩ := hrel
    by_cases hlt : i < n
    · rcases hs with rfl | ⟨g, off, rfl, hc⟩
      · omega
      obtain ⟨c1, c2⟩ := hc i hlt
      have hii : (i : Int) < (n : Int) := by omega
      have i0 : (0 : Int) ≤ (i : Int) := by omega
      clear hc
      go_wp2
      go_round
      case rel => exact ⟨i + 1, by omega, congrArg (Value.int .i64) (by omega), congrArg (Value.int .i64) (by omega)⟩
      case measure => simp [intOf]; omega
    · obtain rfl : i = n := by omega
      clear hs
      go_wp2
      go_ret
      exact ⟨rfl, rfl⟩
end Go.Proofs.Ytigcomhhgfgmgaa
namespace Go.Proofs.Ytigcomhhgfgmgaa
open Go.RowKit
theorem info_pair : (Try.prog.info? 24).map (fun i => (i.zero, i.size, i.bytes)) = some (some (.agg #[.int .i64 0, .int .i64 0]), 2, 16) := by kernel_rfl
/-- A desk in memory of its own. -/
def DeskOwn (w : World) (d : DeskN) (e : Ending) (w' : World) : Prop :=
  ∃ a c, e = .returned (.agg #[.int .i64 d.now.1, .int .i64 d.now.2, .slice a d.past.length c]) ∧ w'.ownsRow w.heap.size 24 2 (.slice a d.past.length c) d.past.length (pairCells d.past) ∧ Below w.heap.size w w'
set_option maxRecDepth 100000 in
set_option maxHeartbeats 2000000 in
theorem deskWith_any (B C : Nat) (p q : Int) (L : List (Int × Int)) (v : Value) (w : World) (h : IsPairs B C w v L) (hn : L.length ≤ 1048600) :
    Calls Try.prog 46 #[pr p q, v] w (DeskOwn w ⟨(p, q), L⟩) := by
  obtain ⟨i0, hi0, hz0, hzs1, hz2⟩ := info_parts info_pair
  obtain ⟨a, cap, rfl, hC, hs⟩ := id h
  have H := Lib.hid h
  clear h hs
  go_enter Try.func46, Try.ntmps46
  go_wp2_with fail
  go_region_held3 (fun w' => w'.cell? ⟨w.heap.size, 0, none⟩ = some (.int .i64 p) ∧ w'.cell? ⟨w.heap.size, 1, none⟩ = some (.int .i64 q))
    (first | go_keep)
    ((refine step_append_pairs _ (by rfl) _ _ _ (by rfl) w.heap.size 24 i0 _ 16 Try.underlying25 hi0 hz0 hzs1 hz2 rfl (.slice none 0 0) 0 [] (by rfl) (World.ownsRow_nil _ _ _ _) B C _ L (by rfl) (H.out.below (show Below w.heap.size w _ by (repeat (first | exact Below.refl _ _ | refine Below.alloc ?_ (by first | omega | (simp <;> omega)) _ | refine Below.drew ?_))) hC) L.length (by omega) (pairCells L) (by rfl) (by unfold maxLen; omega) (by omega) (by simp; omega) ?_; intro a1 c1 w1 hown1 hgrow1 hat1; have hz1 := hgrow1.size; simp at hz1; have hza : w.heap.size < w1.heap.size := (by omega); have hzb : w.heap.size + 1 < w1.heap.size := (by omega); have kc0_0 := (hgrow1.cell_far (a := ⟨w.heap.size, 0, none⟩) (by simp <;> omega) (by simp [Value.ownBlock] <;> omega)); have kf0_0 := (hgrow1.frozen_far (a := ⟨w.heap.size, 0, none⟩) (by simp <;> omega) (by simp [Value.ownBlock] <;> omega)); have kc0_1 := (hgrow1.cell_far (a := ⟨w.heap.size, 1, none⟩) (by simp <;> omega) (by simp [Value.ownBlock] <;> omega)); have kf0_1 := (hgrow1.frozen_far (a := ⟨w.heap.size, 1, none⟩) (by simp <;> omega) (by simp [Value.ownBlock] <;> omega)); have kc1_0 := (hgrow1.cell_far (a := ⟨w.heap.size + 1, 0, none⟩) (by simp <;> omega) (by simp [Value.ownBlock] <;> omega)); have kf1_0 := (hgrow1.frozen_far (a := ⟨w.heap.size + 1, 0, none⟩) (by simp <;> omega) (by simp [Value.ownBlock] <;> omega)); have kc1_1 := (hgrow1.cell_far (a := ⟨w.heap.size + 1, 1, none⟩) (by simp <;> omega) (by simp [Value.ownBlock] <;> omega)); have kf1_1 := (hgrow1.frozen_far (a := ⟨w.heap.size + 1, 1, none⟩) (by simp <;> omega) (by simp [Value.ownBlock] <;> omega)); have kc1_2 := (hgrow1.cell_far (a := ⟨w.heap.size + 1, 2, none⟩) (by simp <;> omega) (by simp [Value.ownBlock] <;> omega)); have kf1_2 := (hgrow1.frozen_far (a := ⟨w.heap.size + 1, 2, none⟩) (by simp <;> omega) (by simp [Value.ownBlock] <;> omega))))
  have hgr : World.grownBy _ w1 none := hgrow1
  simp [Value.ownBlock] at hat1
  clear hgrow1
  go_wp2_with fail
  refine bodyPost_ret (v := .agg #[.int .i64 p, .int .i64 q, .slice a1 L.length c1]) (by simp [results, Try.results46, go_sem]; go_simp) rfl ⟨a1, c1, rfl, ?_, ?_⟩
  · have hne : (Value.slice a1 L.length c1).ownBlock ≠ some (w.heap.size + 1) := by rcases hat1 with h | h <;> simp [Value.ownBlock, h] <;> omega
    exact ownsRow_setCell_other (ownsRow_setCell_other (ownsRow_setCell_other hown1 hne _) hne _) hne _
  · refine Below.setCell (Below.setCell (Below.setCell (Below.grown ?_ hgr ?_ (fun k e => by cases e)) ?_ _) ?_ _) ?_ _
    all_goals (first | (simp <;> omega) | (refine Below.drew (Below.alloc (Below.alloc (Below.refl _ _) ?_ _) ?_ _) <;> (simp <;> omega)))
set_option maxRecDepth 100000 in
set_option maxHeartbeats 2000000 in
theorem specCopy_any (B C : Nat) (p q : Int) (L : List (Int × Int)) (v : Value) (w : World) (h : IsPairs B C w v L) (hn : L.length ≤ 1048600) :
    Calls Try.prog 50 #[.agg #[.int .i64 p, .int .i64 q, v]] w (DeskOwn w ⟨(p, q), L⟩) := by
  obtain ⟨i0, hi0, hz0, hzs1, hz2⟩ := info_parts info_pair
  obtain ⟨a, cap, rfl, hC, hs⟩ := id h
  have H := Lib.hid h
  clear h hs
  have HMD := Lib.hid (show ∀ W : World, W.heap.size = w.heap.size + 1 + 1 → (W.alloc (.cells #[] 24)).drew.ownsRow w.heap.size 24 2 (.slice (some ⟨w.heap.size + 1 + 1, 0, none⟩) 0 0) 0 [] from fun W hW => by
    rw [← hW]
    exact (World.ownsRow_made W #[] 0 (by omega) (by unfold maxLen; omega) rfl).drew)
  go_enter Try.func50, Try.ntmps50
  go_wp2_with fail
  go_region_held3 (fun w' => w'.cell? ⟨w.heap.size, 0, none⟩ = some (.int .i64 p) ∧ w'.cell? ⟨w.heap.size, 1, none⟩ = some (.int .i64 q) ∧ w'.cell? ⟨w.heap.size, 2, none⟩ = some (.slice a L.length cap))
    (first | go_keep)
    ((refine step_append_pairs _ (by rfl) _ _ _ (by rfl) w.heap.size 24 i0 _ 16 Try.underlying25 hi0 hz0 hzs1 hz2 rfl (.slice (some ⟨w.heap.size + 1 + 1, 0, none⟩) 0 0) 0 [] (by rfl) (HMD.out _ (by simp)) B C _ L (by rfl) (H.out.below (show Below w.heap.size w _ by (repeat (first | exact Below.refl _ _ | refine Below.alloc ?_ (by first | omega | (simp <;> omega)) _ | refine Below.drew ?_))) hC) L.length (by omega) (pairCells L) (by rfl) (by unfold maxLen; omega) (by omega) (by simp; omega) ?_; intro a1 c1 w1 hown1 hgrow1 hat1; have hz1 := hgrow1.size; simp at hz1; have hza : w.heap.size < w1.heap.size := (by omega); have hzb : w.heap.size + 1 < w1.heap.size := (by omega); have kc0_0 := (hgrow1.cell_far (a := ⟨w.heap.size, 0, none⟩) (by simp <;> omega) (by simp [Value.ownBlock] <;> omega)); have kf0_0 := (hgrow1.frozen_far (a := ⟨w.heap.size, 0, none⟩) (by simp <;> omega) (by simp [Value.ownBlock] <;> omega)); have kc0_1 := (hgrow1.cell_far (a := ⟨w.heap.size, 1, none⟩) (by simp <;> omega) (by simp [Value.ownBlock] <;> omega)); have kf0_1 := (hgrow1.frozen_far (a := ⟨w.heap.size, 1, none⟩) (by simp <;> omega) (by simp [Value.ownBlock] <;> omega)); have kc0_2 := (hgrow1.cell_far (a := ⟨w.heap.size, 2, none⟩) (by simp <;> omega) (by simp [Value.ownBlock] <;> omega)); have kf0_2 := (hgrow1.frozen_far (a := ⟨w.heap.size, 2, none⟩) (by simp <;> omega) (by simp [Value.ownBlock] <;> omega)); have kc1_0 := (hgrow1.cell_far (a := ⟨w.heap.size + 1, 0, none⟩) (by simp <;> omega) (by simp [Value.ownBlock] <;> omega)); have kf1_0 := (hgrow1.frozen_far (a := ⟨w.heap.size + 1, 0, none⟩) (by simp <;> omega) (by simp [Value.ownBlock] <;> omega)); have kc1_1 := (hgrow1.cell_far (a := ⟨w.heap.size + 1, 1, none⟩) (by simp <;> omega) (by simp [Value.ownBlock] <;> omega)); have kf1_1 := (hgrow1.frozen_far (a := ⟨w.heap.size + 1, 1, none⟩) (by simp <;> omega) (by simp [Value.ownBlock] <;> omega)); have kc1_2 := (hgrow1.cell_far (a := ⟨w.heap.size + 1, 2, none⟩) (by simp <;> omega) (by simp [Value.ownBlock] <;> omega)); have kf1_2 := (hgrow1.frozen_far (a := ⟨w.heap.size + 1, 2, none⟩) (by simp <;> omega) (by simp [Value.ownBlock] <;> omega))))
  have hgr : World.grownBy _ w1 (some (w.heap.size + 2)) := hgrow1
  simp [Value.ownBlock] at hat1
  clear hgrow1
  go_wp2_with fail
  refine bodyPost_ret (v := .agg #[.int .i64 p, .int .i64 q, .slice a1 L.length c1]) (by simp [results, Try.results50, go_sem]; go_simp) rfl ⟨a1, c1, rfl, ?_, ?_⟩
  · have hne : (Value.slice a1 L.length c1).ownBlock ≠ some (w.heap.size + 1) := by rcases hat1 with h | h <;> simp [Value.ownBlock, h] <;> omega
    exact ownsRow_setCell_other (ownsRow_setCell_other (ownsRow_setCell_other hown1 hne _) hne _) hne _
  · refine Below.setCell (Below.setCell (Below.setCell (Below.grown ?_ hgr ?_ (fun k e => by cases e; omega)) ?_ _) ?_ _) ?_ _
    all_goals (first | (simp <;> omega) | (refine Below.drew (Below.alloc (Below.alloc (Below.alloc (Below.refl _ _) ?_ _) ?_ _) ?_ _) <;> (simp <;> omega)))
end Go.Proofs.Ytigcomhhgfgmgaa
namespace Go.Proofs.Ytigcomhhgfgmgaa
open Go.RowKit
/-- v is a slice of the pairs of L, wherever they lie. -/
def SeesPairs (w : World) (v : Value) (L : List (Int × Int)) : Prop :=
  ∃ (a : Option Addr) (cap : Nat), v = .slice a L.length cap ∧
    (L = [] ∨ ∃ g off, a = some ⟨g, off, none⟩ ∧ g < w.heap.size ∧ ∀ (i : Nat) (p : Int × Int), L[i]? = some p → w.cell? ⟨g, off + i * 2, none⟩ = some (.int .i64 p.1) ∧ w.cell? ⟨g, off + i * 2 + 1, none⟩ = some (.int .i64 p.2))
theorem SeesPairs.below {w w' : World} {v : Value} {L : List (Int × Int)} (h : SeesPairs w v L) (hb : Below w.heap.size w w') : SeesPairs w' v L := by
  obtain ⟨a, cap, rfl, hs⟩ := h
  refine ⟨a, cap, rfl, ?_⟩
  rcases hs with hs | ⟨g, off, ha, hg, hc⟩
  · exact .inl hs
  · exact .inr ⟨g, off, ha, Nat.lt_of_lt_of_le hg hb.size, fun i p hi => ⟨(hb.cell (p := ⟨g, off + i * 2, none⟩) hg).trans (hc i p hi).1, (hb.cell (p := ⟨g, off + i * 2 + 1, none⟩) hg).trans (hc i p hi).2⟩⟩
theorem run_make_two {P : Program} (t e : TypeId) (i : TypeInfo) (ht : P.underlying t = some (.slice e)) (hi : P.info? e = some i) (hz : i.zero = some (.agg #[.int .i64 0, .int .i64 0])) (hs : i.size = 2) (hb : i.bytes = 16) (n : Nat) (hn : n ≤ 1048600) (w : World) :
    (Instr.makeSlice t (.int .i64 (n : Int)) (.int .i64 (n : Int))).run P w = .ok (.slice (some ⟨w.heap.size, 0, none⟩) n n) (w.alloc (.cells (madeCells #[.int .i64 0, .int .i64 0] (n * 2)) e)) := by
  have hr := run_make (P := P) w t e i _ ht hi hz .i64 .i64 n n (by omega) (by omega) (by rw [hb]; omega) (by omega)
  simp only [Int.toNat_natCast, hs] at hr
  exact hr
theorem made_at (n j : Nat) (h : j < n) : (madeCells #[.int .i64 0, .int .i64 0] n)[j]? = some (.int .i64 0) := by
  have h2 : j % 2 = 0 ∨ j % 2 = 1 := by omega
  rcases h2 with h2 | h2 <;> simp [madeCells, h, h2]
set_option maxHeartbeats 4000000 in
theorem toPairS_any (L : List (Int × Int)) (v : Value) (w : World) (h : SeesPairs w v L) (hn : L.length ≤ 1048600) :
    Calls Try.prog 55 #[v] w fun e w' => ∃ u, e = .returned u ∧ IsPairs w.heap.size w'.heap.size w' u L ∧ Below w.heap.size w w' := by
  obtain ⟨a, cap, rfl, hs⟩ := h
  obtain ⟨i0, hi0, hz0, hzs1, hz2⟩ := info_parts info_pair
  have hmk := fun W => run_make_two (P := Try.prog) 25 24 i0 Try.underlying25 hi0 hz0 hzs1 hz2 L.length hn W
  go_enter Try.func55, Try.ntmps55
  go_wp2_with fail
  go_loopw [4] (fun y wr => ∃ i : Nat, i ≤ L.length ∧ y = .int .i64 i ∧ (∀ (j : Nat) (p : Int × Int), j < i → L[j]? = some p → wr.cell? ⟨w.heap.size, j * 2, none⟩ = some (.int .i64 p.1) ∧ wr.cell? ⟨w.heap.size, j * 2 + 1, none⟩ = some (.int .i64 p.2)) ∧ (∀ j, i * 2 ≤ j → j < L.length * 2 → wr.cell? ⟨w.heap.size, j, none⟩ = some (.int .i64 0)) ∧ (∀ j, wr.frozen? ⟨w.heap.size, j, none⟩ = false) ∧ w.heap.size < wr.heap.size ∧ Below w.heap.size w wr) (fun y _ => L.length - (intOf y).toNat)
  case atStart => exact ⟨0, Nat.zero_le _, rfl, fun j p hj => absurd hj (by omega), fun j _ hj => (World.cell?_alloc_mark _ _ _ _ _).trans (made_at _ _ hj), fun j => by (unfold World.frozen?; rw [heap_alloc_new]; simp), by simp, (Below.refl _ _).alloc (Nat.le_refl _) _⟩
  case round =>
    obtain ⟨i, hi, rfl, hm, hr, hfr, hsz, hB⟩ := hrel
    by_cases hlt : i < L.length
    · rcases hs with rfl | ⟨g, off, rfl, hg, hc⟩
      · simp at hlt
      obtain ⟨x, y, hp⟩ := list_at hlt
      have c1 : wr.cell? ⟨g, off + i * 2, none⟩ = some (.int .i64 x) := (hB.cell (p := ⟨g, off + i * 2, none⟩) hg).trans (hc i _ hp).1
      have c2 : wr.cell? ⟨g, off + i * 2 + 1, none⟩ = some (.int .i64 y) := (hB.cell (p := ⟨g, off + i * 2 + 1, none⟩) hg).trans (hc i _ hp).2
      have d1 := hr (i * 2) (by omega) (by omega)
      have d2 := hr (i * 2 + 1) (by omega) (by omega)
      have f1 := hfr (i * 2)
      have f2 := hfr (i * 2 + 1)
      have hii : (i : Int) < (L.length : Int) := by omega
      have i0 : (0 : Int) ≤ (i : Int) := by omega
      have HM := Lib.hid hm
      have HR := Lib.hid hr
      have HF := Lib.hid hfr
      have HB := Lib.hid hB
      have HP := Lib.hid hp
      clear hm hr hfr hc hB hmk hp
      go_wp2_with fail
      refine (toPair_any x y _).mono ?_
      rintro e w1 ⟨rfl, hb1⟩
      have hz1 := hb1.size
      have e1 : w1.cell? ⟨w.heap.size, i * 2, none⟩ = some (.int .i64 0) := cell_belowP hb1 d1
      have e2 : w1.cell? ⟨w.heap.size, i * 2 + 1, none⟩ = some (.int .i64 0) := cell_belowP hb1 d2
      have k1 : w1.frozen? ⟨w.heap.size, i * 2, none⟩ = false := (hb1.frozen (p := ⟨w.heap.size, i * 2, none⟩) hsz).trans f1
      have k2 : w1.frozen? ⟨w.heap.size, i * 2 + 1, none⟩ = false := (hb1.frozen (p := ⟨w.heap.size, i * 2 + 1, none⟩) hsz).trans f2
      have HB1 := Lib.hid hb1
      clear hb1 c1 c2 d1 d2 f1 f2
      go_wp2
      go_roundw
      case rel =>
        refine ⟨i + 1, by omega, congrArg (Value.int .i64) (by omega), fun j p hj hjp => ?_, fun j hj1 hj2 => ?_, fun j => ?_, by simp [World.setCell]; omega, ((HB.out.trans (HB1.out.mono (by omega))).setCell (by simp) _).setCell (by simp) _⟩
        · by_cases e : j = i
          · subst e
            rw [HP.out] at hjp
            cases hjp
            exact ⟨(World.cell?_setCell_other _ ⟨w.heap.size, j * 2 + 1, none⟩ ⟨w.heap.size, j * 2, none⟩ _ (fun e' => by injection e'; omega)).trans (World.cell?_setCell_same' _ _ _ (by rw [e1]; rfl)), World.cell?_setCell_same' _ _ _ (by rw [World.cell?_setCell_other _ ⟨w.heap.size, j * 2, none⟩ ⟨w.heap.size, j * 2 + 1, none⟩ _ (fun e' => by injection e'; omega), e2]; rfl)⟩
          · obtain ⟨m1, m2⟩ := HM.out j p (by omega) hjp
            exact ⟨(World.cell?_setCell_other _ ⟨w.heap.size, i * 2 + 1, none⟩ ⟨w.heap.size, j * 2, none⟩ _ (fun e' => by injection e'; omega)).trans ((World.cell?_setCell_other _ ⟨w.heap.size, i * 2, none⟩ ⟨w.heap.size, j * 2, none⟩ _ (fun e' => by injection e'; omega)).trans (cell_belowP HB1.out m1)),
              (World.cell?_setCell_other _ ⟨w.heap.size, i * 2 + 1, none⟩ ⟨w.heap.size, j * 2 + 1, none⟩ _ (fun e' => by injection e'; omega)).trans ((World.cell?_setCell_other _ ⟨w.heap.size, i * 2, none⟩ ⟨w.heap.size, j * 2 + 1, none⟩ _ (fun e' => by injection e'; omega)).trans (cell_belowP HB1.out m2))⟩
        · exact (World.cell?_setCell_other _ ⟨w.heap.size, i * 2 + 1, none⟩ ⟨w.heap.size, j, none⟩ _ (fun e' => by injection e'; omega)).trans ((World.cell?_setCell_other _ ⟨w.heap.size, i * 2, none⟩ ⟨w.heap.size, j, none⟩ _ (fun e' => by injection e'; omega)).trans (cell_belowP HB1.out (HR.out j (by omega) hj2)))
        · rw [World.frozen?_setCell, World.frozen?_setCell]; exact (HB1.out.frozen (p := ⟨w.heap.size, j, none⟩) hsz).trans (HF.out j)
      case measure => simp [intOf]; omega
    · obtain rfl : i = L.length := by omega
      have HM := Lib.hid hm
      have HF := Lib.hid hfr
      clear hm hr hfr hs hmk
      go_wp2
      go_ret
      exact ⟨_, rfl, ⟨_, L.length, rfl, Nat.le_refl _, .inr ⟨w.heap.size, 0, rfl, Nat.le_refl _, ⟨hsz, Nat.le_refl _⟩, fun j p hj => by rw [Nat.zero_add]; exact HM.out j p (List.getElem?_eq_some_iff.1 hj).1 hj, fun j _ => by rw [Nat.zero_add]; exact HF.out j⟩⟩, hB⟩
/-- The desk that is made. -/
def DeskMade (w : World) (d : DeskN) (e : Ending) (w' : World) : Prop :=
  ∃ a c, e = .returned (.agg #[.int .i64 d.now.1, .int .i64 d.now.2, .slice a d.past.length c]) ∧ IsPairs w.heap.size w'.heap.size w' (.slice a d.past.length c) d.past ∧ Below w.heap.size w w'
set_option maxHeartbeats 2000000 in
theorem toDesk_any (p q : Int) (L : List (Int × Int)) (v : Value) (w : World) (h : SeesPairs w v L) (hn : L.length ≤ 1048600) :
    Calls Try.prog 29 #[.agg #[.int .i64 p, .int .i64 q, v]] w (DeskMade w ⟨(p, q), L⟩) := by
  obtain ⟨a, cap, rfl, hs⟩ := id h
  have H := Lib.hid h
  clear h hs
  go_enter Try.func29, Try.ntmps29
  go_wp2_with fail
  refine (toPair_any p q _).mono ?_
  rintro e w1 ⟨rfl, hb1⟩
  obtain ⟨hc1, hf1⟩ := bcell hb1
  have hz1 := hb1.size
  simp at hz1
  have hz2 : w.heap.size < w1.heap.size := by omega
  have hz3 : w.heap.size + 1 < w1.heap.size := by omega
  have hz4 : w.heap.size + 2 < w1.heap.size := by omega
  have hz5 : w.heap.size + 1 + 1 < w1.heap.size := by omega
  have HB1 := Lib.hid (show Below w.heap.size w w1 by (repeat (first | exact Below.refl _ _ | refine Below.alloc ?_ (by first | omega | (simp <;> omega)) _ | refine Below.trans ?_ (Below.mono (by assumption) (by first | omega | (simp <;> omega))))))
  go_wp2_with fail
  refine (toPairS_any L _ _ (H.out.below ((HB1.out.setCell (p := ⟨w.heap.size + 1 + 1, 0, none⟩) (by show w.heap.size ≤ w.heap.size + 1 + 1; omega) _).setCell (p := ⟨w.heap.size + 1 + 1, 1, none⟩) (by show w.heap.size ≤ w.heap.size + 1 + 1; omega) _)) hn).mono ?_
  rintro e w2 ⟨u, rfl, hI, hb2⟩
  obtain ⟨a2, c2, rfl, _, _⟩ := id hI
  obtain ⟨hc2, hf2⟩ := bcell hb2
  have hz6 := hb2.size
  simp at hz6
  have hz7 : w.heap.size + 1 + 1 < w2.heap.size := by omega
  have hz8 : w.heap.size + 1 < w2.heap.size := by omega
  have hz9 : w.heap.size < w2.heap.size := by omega
  have HI := Lib.hid hI
  have HB2 := Lib.hid (show Below w.heap.size w w2 from ((HB1.out.setCell (p := ⟨w.heap.size + 1 + 1, 0, none⟩) (by show w.heap.size ≤ w.heap.size + 1 + 1; omega) (.int .i64 p)).setCell (p := ⟨w.heap.size + 1 + 1, 1, none⟩) (by show w.heap.size ≤ w.heap.size + 1 + 1; omega) (.int .i64 q)).trans (hb2.mono (by simp; omega)))
  clear hI hb1 hb2
  go_wp2_with fail
  refine bodyPost_ret (v := .agg #[.int .i64 p, .int .i64 q, .slice a2 L.length c2]) (by simp [results, Try.results29, go_sem]; go_simp) rfl ⟨a2, c2, rfl, ?_, ?_⟩
  · refine IsPairs.mono (B := w1.heap.size) (C := w2.heap.size) ?_ (by omega) (by simp) (by simp)
    refine (((HI.out.mono (B' := w1.heap.size) (C' := w2.heap.size) (by simp) (Nat.le_refl _) (Nat.le_refl _)).set ?_ _).set ?_ _).set ?_ _ |>.set ?_ _
    all_goals (show _ < w1.heap.size; omega)
  · exact (((HB2.out.setCell (by simp <;> omega) _).setCell (by simp <;> omega) _).setCell (by simp <;> omega) _).setCell (by simp <;> omega) _
end Go.Proofs.Ytigcomhhgfgmgaa
namespace Go.Proofs.Ytigcomhhgfgmgaa
open Go.ChangeShapes Go.WideShapes Go.ChangeAt Go.RowKit Go.Joins Go.Deep
theorem list_2 {cs : List Value} (h : cs.length = 2) : ∃ a b, cs = [a, b] := by
  match cs, h with
  | [a, b], _ => exact ⟨a, b, rfl⟩
theorem list_3 {cs : List Value} (h : cs.length = 3) : ∃ a b c, cs = [a, b, c] := by
  match cs, h with
  | [a, b, c], _ => exact ⟨a, b, c, rfl⟩
/-- v is a slice of the deeds of L, wherever they lie. -/
def SeesDeeds (w : World) (v : Value) (L : List DeedN) : Prop :=
  ∃ (a : Option Addr) (cap : Nat), v = .slice a L.length cap ∧
    (L = [] ∨ ∃ g off, a = some ⟨g, off, none⟩ ∧ g < w.heap.size ∧ ∀ (i : Nat) (p : DeedN), L[i]? = some p → w.cell? ⟨g, off + i * 3, none⟩ = some (.int .i64 p.kind) ∧ w.cell? ⟨g, off + i * 3 + 1, none⟩ = some (.int .i64 p.a) ∧ w.cell? ⟨g, off + i * 3 + 2, none⟩ = some (.int .i64 p.b))
theorem SeesDeeds.below {w w' : World} {v : Value} {L : List DeedN} (h : SeesDeeds w v L) (hb : Below w.heap.size w w') : SeesDeeds w' v L := by
  obtain ⟨a, cap, rfl, hs⟩ := h
  refine ⟨a, cap, rfl, ?_⟩
  rcases hs with hs | ⟨g, off, ha, hg, hc⟩
  · exact .inl hs
  · exact .inr ⟨g, off, ha, Nat.lt_of_lt_of_le hg hb.size, fun i p hi => ⟨(hb.cell (p := ⟨g, off + i * 3, none⟩) hg).trans (hc i p hi).1, (hb.cell (p := ⟨g, off + i * 3 + 1, none⟩) hg).trans (hc i p hi).2.1, (hb.cell (p := ⟨g, off + i * 3 + 2, none⟩) hg).trans (hc i p hi).2.2⟩⟩
theorem sees_pairs {H : Type} {enc : TypeId × Value → H} {w : World} {base : Nat} {spare : Nat → Bool} {held : Bool} {fuel : Nat} {cs : List Value} {x : DataW H × List MemPlace} (h : DataW.trod enc Try.prog w base spare held fuel 50 cs = some x) :
    ∃ (u : Value) (L : List (Int × Int)), cs = [u] ∧ SeesPairs w u L ∧ L.length ≤ maxLen := by
  rcases Go.Deep.open_slice Try.underlying50 h with ⟨rfl, _⟩ | ⟨a, len, cap, m, n, D, Pl, rfl, _, hl, hm, hmm, _, hi⟩
  · exact ⟨_, [], rfl, ⟨none, 0, rfl, .inl rfl⟩, by simp⟩
  · have hC : Try.prog.cellsOf 49 = 2 := by kernel_rfl
    have hI : Try.prog.cellsOf 3 = 1 := by kernel_rfl
    rw [hC] at hi
    have key : ∀ i, i < len → ∃ p : (Int × Int), w.cell? (a.add (i * 2)) = some (.int .i64 p.1) ∧ w.cell? (a.add (i * 2 + 1)) = some (.int .i64 p.2) := fun i hil => by
      obtain ⟨cs', hc, ht'⟩ := hi i (by rw [hmm]; split <;> omega)
      obtain ⟨_, hcl, hat⟩ := World.cells?_some hc
      obtain ⟨y0, y1, n', _, _, h0, h1⟩ := trod_struct2 Try.underlying49 ht'
      obtain ⟨c0, c1, rfl⟩ := list_2 hcl
      simp [hI] at h0 h1
      obtain ⟨a0, e0, _, _⟩ := DataW.trod_int Try.underlying3 h0
      simp at e0
      subst e0
      obtain ⟨a1, e1, _, _⟩ := DataW.trod_int Try.underlying3 h1
      simp at e1
      subst e1
      have k0 := hat 0 (by omega)
      have k1 := hat 1 (by omega)
      simp only [Go.Deep.add_add, List.getElem?_cons_zero, List.getElem?_cons_succ, Nat.add_zero] at k0 k1
      exact ⟨⟨a0, a1⟩, by simpa using k0, by simpa using k1⟩
    obtain ⟨f, hf⟩ : ∃ f : Nat → (Int × Int), ∀ i, i < len → w.cell? (a.add (i * 2)) = some (.int .i64 (f i).1) ∧ w.cell? (a.add (i * 2 + 1)) = some (.int .i64 (f i).2) :=
      ⟨fun i => if h : i < len then (key i h).choose else ⟨0, 0⟩, fun i h => by simp only [h, dif_pos]; exact (key i h).choose_spec⟩
    refine ⟨_, (List.range len).map f, rfl, ⟨some a, cap, by simp, ?_⟩, by simp; omega⟩
    rcases Nat.eq_zero_or_pos len with rfl | hp
    · exact .inl rfl
    · have h0 := (hf 0 hp).1
      rw [Nat.zero_mul, show a.add 0 = a from rfl] at h0
      have hsp := World.cell?_spot h0
      have hlt := World.block_lt_of_cell? w a h0
      obtain ⟨g, off, sp⟩ := a
      simp at hsp
      subst hsp
      refine .inr ⟨g, off, rfl, hlt, fun i p hi => ?_⟩
      have hil : i < len := by
        have := (List.getElem?_eq_some_iff.1 hi).1
        simpa using this
      have hpf : f i = p := by simpa [hil] using hi
      subst hpf
      have := hf i hil
      simp only [add_row] at this
      exact this
theorem sees_deeds {H : Type} {enc : TypeId × Value → H} {w : World} {base : Nat} {spare : Nat → Bool} {held : Bool} {fuel : Nat} {cs : List Value} {x : DataW H × List MemPlace} (h : DataW.trod enc Try.prog w base spare held fuel 62 cs = some x) :
    ∃ (u : Value) (L : List DeedN), cs = [u] ∧ SeesDeeds w u L ∧ L.length ≤ maxLen := by
  rcases Go.Deep.open_slice Try.underlying62 h with ⟨rfl, _⟩ | ⟨a, len, cap, m, n, D, Pl, rfl, _, hl, hm, hmm, _, hi⟩
  · exact ⟨_, [], rfl, ⟨none, 0, rfl, .inl rfl⟩, by simp⟩
  · have hC : Try.prog.cellsOf 59 = 3 := by kernel_rfl
    have hI : Try.prog.cellsOf 3 = 1 := by kernel_rfl
    rw [hC] at hi
    have key : ∀ i, i < len → ∃ p : DeedN, w.cell? (a.add (i * 3)) = some (.int .i64 p.kind) ∧ w.cell? (a.add (i * 3 + 1)) = some (.int .i64 p.a) ∧ w.cell? (a.add (i * 3 + 2)) = some (.int .i64 p.b) := fun i hil => by
      obtain ⟨cs', hc, ht'⟩ := hi i (by rw [hmm]; split <;> omega)
      obtain ⟨_, hcl, hat⟩ := World.cells?_some hc
      obtain ⟨y0, y1, y2, n', _, _, h0, h1, h2⟩ := trod_struct3 Try.underlying59 ht'
      obtain ⟨c0, c1, c2, rfl⟩ := list_3 hcl
      simp [hI] at h0 h1 h2
      obtain ⟨a0, e0, _, _⟩ := DataW.trod_int Try.underlying3 h0
      simp at e0
      subst e0
      obtain ⟨a1, e1, _, _⟩ := DataW.trod_int Try.underlying3 h1
      simp at e1
      subst e1
      obtain ⟨a2, e2, _, _⟩ := DataW.trod_int Try.underlying3 h2
      simp at e2
      subst e2
      have k0 := hat 0 (by omega)
      have k1 := hat 1 (by omega)
      have k2 := hat 2 (by omega)
      simp only [Go.Deep.add_add, List.getElem?_cons_zero, List.getElem?_cons_succ, Nat.add_zero] at k0 k1 k2
      exact ⟨⟨a0, a1, a2⟩, by simpa using k0, by simpa using k1, by simpa using k2⟩
    obtain ⟨f, hf⟩ : ∃ f : Nat → DeedN, ∀ i, i < len → w.cell? (a.add (i * 3)) = some (.int .i64 (f i).kind) ∧ w.cell? (a.add (i * 3 + 1)) = some (.int .i64 (f i).a) ∧ w.cell? (a.add (i * 3 + 2)) = some (.int .i64 (f i).b) :=
      ⟨fun i => if h : i < len then (key i h).choose else ⟨0, 0, 0⟩, fun i h => by simp only [h, dif_pos]; exact (key i h).choose_spec⟩
    refine ⟨_, (List.range len).map f, rfl, ⟨some a, cap, by simp, ?_⟩, by simp; omega⟩
    rcases Nat.eq_zero_or_pos len with rfl | hp
    · exact .inl rfl
    · have h0 := (hf 0 hp).1
      rw [Nat.zero_mul, show a.add 0 = a from rfl] at h0
      have hsp := World.cell?_spot h0
      have hlt := World.block_lt_of_cell? w a h0
      obtain ⟨g, off, sp⟩ := a
      simp at hsp
      subst hsp
      refine .inr ⟨g, off, rfl, hlt, fun i p hi => ?_⟩
      have hil : i < len := by
        have := (List.getElem?_eq_some_iff.1 hi).1
        simpa using this
      have hpf : f i = p := by simpa [hil] using hi
      subst hpf
      have := hf i hil
      simp only [add_row] at this
      exact this
theorem open_desk {H : Type} {enc : TypeId × Value → H} {w : World} {base : Nat} {spare : Nat → Bool} {held : Bool} {r : Reach} {b0 : Nat} {v : Value} {d : DataW H} {p : List MemPlace} (hv : Value.okWide Try.prog w r b0 52 v) (h : DataW.Trod enc Try.prog w base spare held 52 v d p) :
    ∃ (x y : Int) (u : Value) (L : List (Int × Int)), v = .agg #[.int .i64 x, .int .i64 y, u] ∧ SeesPairs w u L ∧ L.length ≤ maxLen := by
  have hC : Try.prog.cellsOf 52 = 3 := by kernel_rfl
  have hP : Try.prog.cellsOf 49 = 2 := by kernel_rfl
  have hS : Try.prog.cellsOf 50 = 1 := by kernel_rfl
  have hI : Try.prog.cellsOf 3 = 1 := by kernel_rfl
  obtain ⟨cs, rfl, hsz⟩ := okWide_struct Try.underlying52 hv
  obtain ⟨c0, c1, c2, rfl⟩ := array3 (hsz.trans hC)
  obtain ⟨fuel, hf⟩ := h
  obtain ⟨y0, y1, n, hx, _, h0, h1⟩ := trod_struct2 Try.underlying52 hf
  simp [hP, hS, Value.cells] at h0 h1
  obtain ⟨y2, y3, n', _, _, h2, h3⟩ := trod_struct2 Try.underlying49 h0
  simp [hI] at h2 h3
  obtain ⟨a2, e2, _, _⟩ := DataW.trod_int Try.underlying3 h2
  obtain ⟨a3, e3, _, _⟩ := DataW.trod_int Try.underlying3 h3
  simp at e2 e3
  subst e2 e3
  obtain ⟨u, L, e4, hL, hm⟩ := sees_pairs h1
  simp at e4
  subst e4
  exact ⟨_, _, _, L, rfl, hL, hm⟩
theorem open_deed {H : Type} {enc : TypeId × Value → H} {w : World} {base : Nat} {spare : Nat → Bool} {held : Bool} {r : Reach} {b0 : Nat} {v : Value} {d : DataW H} {p : List MemPlace} (hv : Value.okWide Try.prog w r b0 59 v) (h : DataW.Trod enc Try.prog w base spare held 59 v d p) :
    ∃ (k x y : Int), v = .agg #[.int .i64 k, .int .i64 x, .int .i64 y] := by
  obtain ⟨v0, v1, v2, y0, y1, y2, n, rfl, _, _, h0, h1, h2⟩ := open_agg3 Try.underlying59 (by kernel_rfl) (by kernel_rfl) hv h
  obtain ⟨a0, e0, _, _⟩ := DataW.trod_int Try.underlying3 h0
  obtain ⟨a1, e1, _, _⟩ := DataW.trod_int Try.underlying3 h1
  obtain ⟨a2, e2, _, _⟩ := DataW.trod_int Try.underlying3 h2
  simp at e0 e1 e2
  subst e0 e1 e2
  exact ⟨_, _, _, rfl⟩
theorem open_deeds {H : Type} {enc : TypeId × Value → H} {w : World} {base : Nat} {spare : Nat → Bool} {held : Bool} {r : Reach} {b0 : Nat} {v : Value} {d : DataW H} {p : List MemPlace} (hv : Value.okWide Try.prog w r b0 62 v) (h : DataW.Trod enc Try.prog w base spare held 62 v d p) :
    ∃ (L : List DeedN), SeesDeeds w v L ∧ L.length ≤ maxLen := by
  obtain ⟨a, len, cap, rfl⟩ := okWide_slice Try.underlying62 hv
  obtain ⟨fuel, hf⟩ := h
  obtain ⟨u, L, e, hL, hm⟩ := sees_deeds hf
  simp [Value.cells] at e
  subst e
  exact ⟨L, hL, hm⟩
end Go.Proofs.Ytigcomhhgfgmgaa
