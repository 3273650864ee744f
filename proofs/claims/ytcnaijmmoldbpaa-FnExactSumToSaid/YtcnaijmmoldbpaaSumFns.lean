/- What the functions behind sums of places return: numbers at places, powers, the two sides of each rule. -/
import Derived.Test.YtcnaijmmoldbpaaSumMath
import Derived.Test.YtcnaijmmoldbpaaLawsThree
import Derived.Deep.RegionHeld3
namespace Go.Proofs.Ytcnaijmmoldbpaa
open Go.RowKit
set_option maxHeartbeats 1000000 in
theorem firstOf_at (p q : Int) (k : Nat) (v n : Int) (w : World) (hn : n = k) (hp : pairB p q = true) (hk : k ≤ 20) (hv : row p q 0 1 k = v) :
    Calls Try.prog 51 #[pr p q, .int .i64 n] w fun e w' => e = .returned (.int .i64 v) ∧ Below w.heap.size w w' := by
  have HP := Lib.hid hp
  have HN := Lib.hid hn
  have HV := Lib.hid hv
  clear hp hn hv
  go_enter Try.func51, Try.ntmps51
  go_wp2_with fail
  refine (implFirst_at p q k v n _ HN.out HP.out hk HV.out).mono ?_
  rintro e w1 ⟨rfl, hh1⟩
  obtain ⟨hc1, hf1⟩ := bcell hh1
  have hz1 := hh1.size
  try simp only [World.size_alloc] at hz1
  go_wp2
  go_ret
  exact ⟨rfl, by (repeat (first | exact Below.refl _ _ | refine Below.setCell ?_ (by first | omega | (simp <;> omega)) _ | refine Below.alloc ?_ (by first | omega | (simp <;> omega)) _ | refine Below.drew ?_ | refine Below.trans ?_ (Below.mono (by assumption) (by first | omega | (simp <;> omega))) | refine Below.grown ?_ (by assumption) (by first | omega | (simp <;> omega)) (fun k e => by cases e; first | omega | (simp <;> omega))))⟩
set_option maxHeartbeats 1000000 in
theorem secondOf_at (p q : Int) (k : Nat) (v n : Int) (w : World) (hn : n = k) (hp : pairB p q = true) (hk : k ≤ 20) (hv : row p q 2 p k = v) :
    Calls Try.prog 52 #[pr p q, .int .i64 n] w fun e w' => e = .returned (.int .i64 v) ∧ Below w.heap.size w w' := by
  have HP := Lib.hid hp
  have HN := Lib.hid hn
  have HV := Lib.hid hv
  clear hp hn hv
  go_enter Try.func52, Try.ntmps52
  go_wp2_with fail
  refine (implSecond_at p q k v n _ HN.out HP.out hk HV.out).mono ?_
  rintro e w1 ⟨rfl, hh1⟩
  obtain ⟨hc1, hf1⟩ := bcell hh1
  have hz1 := hh1.size
  try simp only [World.size_alloc] at hz1
  go_wp2
  go_ret
  exact ⟨rfl, by (repeat (first | exact Below.refl _ _ | refine Below.setCell ?_ (by first | omega | (simp <;> omega)) _ | refine Below.alloc ?_ (by first | omega | (simp <;> omega)) _ | refine Below.drew ?_ | refine Below.trans ?_ (Below.mono (by assumption) (by first | omega | (simp <;> omega))) | refine Below.grown ?_ (by assumption) (by first | omega | (simp <;> omega)) (fun k e => by cases e; first | omega | (simp <;> omega))))⟩
set_option maxHeartbeats 1000000 in
theorem implPower_any (a : Int) (m : Nat) (n : Int) (w : World) (hn : n = m) (h1 : -4 ≤ a) (h2 : a ≤ 4) (hm : m ≤ 24) :
    Calls Try.prog 53 #[.int .i64 a, .int .i64 n] w fun e w' => e = .returned (.int .i64 (a ^ m)) ∧ w = w' := by
  subst hn
  go_enter Try.func53, Try.ntmps53
  go_wp2
  go_loop [5, 7] (fun n k => ∃ i : Nat, i ≤ m ∧ k = .int .i64 i ∧ n = .int .i64 (a ^ i)) (fun _ k => m - (intOf k).toNat)
  case atStart => exact ⟨0, Nat.zero_le _, rfl, by simp⟩
  case round =>
    obtain ⟨i, hi, rfl, rfl⟩ := hrel
    by_cases hlt : i < m
    · obtain ⟨b1, b2⟩ := pow_small h1 h2 (i + 1) (by omega)
      rw [Int.pow_succ] at b1 b2
      go_wp2
      go_round
      case rel => exact ⟨i + 1, by omega, congrArg (Value.int .i64) (by omega), congrArg (Value.int .i64) (by rw [Int.pow_succ])⟩
      case measure => simp [intOf]; omega
    · obtain rfl : i = m := by omega
      go_wp2
      go_ret
      exact ⟨rfl, rfl⟩
set_option maxRecDepth 100000 in
set_option maxHeartbeats 4000000 in
theorem sumMade_at (p q : Int) (a b : Nat) (ha : a ≤ 9) (hb : b ≤ 9) (w : World) (hp : pairB p q = true) :
    Calls Try.prog 42 #[pr p q, .int .i64 ((a : Int) + 1), .int .i64 (b : Int)] w fun e w' => e = .returned (.int .i64 (row p q 0 1 (a + 1 + b))) ∧ Below w.heap.size w w' := by
  obtain ⟨⟨r1, r2⟩, r3, r4⟩ := pairB_true hp
  have HP := Lib.hid hp
  clear hp
  obtain ⟨x1, x2⟩ := first_half r1 r2 r3 r4 (a + 1) (by omega)
  obtain ⟨y1, y2⟩ := first_half r1 r2 r3 r4 (b + 1) (by omega)
  obtain ⟨u1, u2⟩ := first_half r1 r2 r3 r4 a (by omega)
  obtain ⟨v1, v2⟩ := first_half r1 r2 r3 r4 b (by omega)
  obtain ⟨m1, m2⟩ := mul_bd x1 x2 y1 y2
  obtain ⟨m3, m4⟩ := mul_bd r3 r4 u1 u2
  obtain ⟨m5, m6⟩ := mul_bd m3 m4 v1 v2
  have E := row_add p q a b
  have wa : IntKind.i64.wrap (a : Int) = (a : Int) := by rw [IntKind.wrap_i64]; omega
  have wb : IntKind.i64.wrap ((b : Int) + 1) = (b : Int) + 1 := by rw [IntKind.wrap_i64]; omega
  have U1 : IntKind.i64.wrap (row p q 0 1 (a + 1) * row p q 0 1 (b + 1)) = row p q 0 1 (a + 1) * row p q 0 1 (b + 1) := by rw [IntKind.wrap_i64]; omega
  have U2 : IntKind.i64.wrap (q * row p q 0 1 a) = q * row p q 0 1 a := by rw [IntKind.wrap_i64]; omega
  have U3 : IntKind.i64.wrap (q * row p q 0 1 a * row p q 0 1 b) = q * row p q 0 1 a * row p q 0 1 b := by rw [IntKind.wrap_i64]; omega
  have U4 : IntKind.i64.wrap (row p q 0 1 (a + 1) * row p q 0 1 (b + 1) - q * row p q 0 1 a * row p q 0 1 b) = row p q 0 1 (a + 1 + b) := by rw [← E, IntKind.wrap_i64]; omega
  clear x1 x2 y1 y2 u1 u2 v1 v2 m1 m2 m3 m4 m5 m6 E
  go_enter Try.func42, Try.ntmps42
  go_wp2_with fail
  go_region_held3 (fun w' => w'.cell? ⟨w.heap.size, 0, none⟩ = some (.int .i64 p) ∧ w'.cell? ⟨w.heap.size, 1, none⟩ = some (.int .i64 q))
    (first | go_keep | (go_split_ands; exact ⟨kx0, kx1⟩))
    ((first | (go_at_call 51; refine (firstOf_at p q (a + 1) _ _ _ (by first | omega | (simp only [wa, wb] <;> omega)) HP.out (by omega) rfl).mono ?_; rintro e w2 ⟨rfl, hh2⟩; have hz2 := hh2.size; (try simp at hz2); have kx0 := (hh2.cell (p := ⟨w.heap.size, 0, none⟩) (by first | omega | (simp <;> omega))); have kx1 := (hh2.cell (p := ⟨w.heap.size, 1, none⟩) (by first | omega | (simp <;> omega)))) | (go_at_call 51; refine (firstOf_at p q (b + 1) _ _ _ (by first | omega | (simp only [wa, wb] <;> omega)) HP.out (by omega) rfl).mono ?_; rintro e w2 ⟨rfl, hh2⟩; have hz2 := hh2.size; (try simp at hz2); have kx0 := (hh2.cell (p := ⟨w.heap.size, 0, none⟩) (by first | omega | (simp <;> omega))); have kx1 := (hh2.cell (p := ⟨w.heap.size, 1, none⟩) (by first | omega | (simp <;> omega)))) | (go_at_call 51; refine (firstOf_at p q (a) _ _ _ (by first | omega | (simp only [wa, wb] <;> omega)) HP.out (by omega) rfl).mono ?_; rintro e w2 ⟨rfl, hh2⟩; have hz2 := hh2.size; (try simp at hz2); have kx0 := (hh2.cell (p := ⟨w.heap.size, 0, none⟩) (by first | omega | (simp <;> omega))); have kx1 := (hh2.cell (p := ⟨w.heap.size, 1, none⟩) (by first | omega | (simp <;> omega)))) | (go_at_call 51; refine (firstOf_at p q (b) _ _ _ (by first | omega | (simp only [wa, wb] <;> omega)) HP.out (by omega) rfl).mono ?_; rintro e w2 ⟨rfl, hh2⟩; have hz2 := hh2.size; (try simp at hz2); have kx0 := (hh2.cell (p := ⟨w.heap.size, 0, none⟩) (by first | omega | (simp <;> omega))); have kx1 := (hh2.cell (p := ⟨w.heap.size, 1, none⟩) (by first | omega | (simp <;> omega)))) | fail))
  go_wp2
  go_ret
  exact ⟨rfl, by (repeat (first | exact Below.refl _ _ | refine Below.setCell ?_ (by first | omega | (simp <;> omega)) _ | refine Below.alloc ?_ (by first | omega | (simp <;> omega)) _ | refine Below.drew ?_ | refine Below.trans ?_ (Below.mono (by assumption) (by first | omega | (simp <;> omega))) | refine Below.grown ?_ (by assumption) (by first | omega | (simp <;> omega)) (fun k e => by cases e; first | omega | (simp <;> omega))))⟩
end Go.Proofs.Ytcnaijmmoldbpaa
