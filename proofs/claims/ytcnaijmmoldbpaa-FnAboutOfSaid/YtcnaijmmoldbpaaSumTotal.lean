/- What the sides of the rule on sums return. -/
import Derived.Test.YtcnaijmmoldbpaaSumFns
namespace Go.Proofs.Ytcnaijmmoldbpaa
open Go.RowKit
set_option maxRecDepth 100000 in
set_option maxHeartbeats 4000000 in
theorem totalMade_at (p q : Int) (n : Nat) (z : Int) (hn : n ≤ 19) (w : World) (hp : pairB p q = true) :
    Calls Try.prog 48 #[pr p q, .int .i64 (n : Int), .int .i64 z] w fun e w' => e = .returned (.int .i64 (rowSum p q (n + 1))) ∧ Below w.heap.size w w' := by
  obtain ⟨⟨r1, r2⟩, r3, r4⟩ := pairB_true hp
  have HP := Lib.hid hp
  clear hp
  skip
  go_enter Try.func48, Try.ntmps48
  go_wp2_with fail
  go_loopw [7, 11] (fun s k wr => ∃ i : Nat, i ≤ n + 1 ∧ s = .int .i64 (rowSum p q i) ∧ k = .int .i64 i ∧ wr.cell? ⟨w.heap.size, 0, none⟩ = some (.int .i64 p) ∧ wr.cell? ⟨w.heap.size, 1, none⟩ = some (.int .i64 q) ∧ w.heap.size < wr.heap.size ∧ Below w.heap.size w wr) (fun _ k _ => 30 - (intOf k).toNat)
  case atStart => exact ⟨0, by omega, rfl, rfl, by go_simp, by go_simp, by simp, by (repeat (first | exact Below.refl _ _ | refine Below.setCell ?_ (by first | omega | (simp <;> omega)) _ | refine Below.alloc ?_ (by first | omega | (simp <;> omega)) _ | refine Below.drew ?_ | refine Below.trans ?_ (Below.mono (by assumption) (by first | omega | (simp <;> omega))) | refine Below.grown ?_ (by assumption) (by first | omega | (simp <;> omega)) (fun k e => by cases e; first | omega | (simp <;> omega))))⟩
  case round =>
    obtain ⟨i, hi, rfl, rfl, hc0, hc1, hsz, hB⟩ := hrel
    obtain ⟨s1, s2⟩ := sum_far r1 r2 r3 r4 i (by omega)
    by_cases hlt : i < n + 1
    · obtain ⟨x1, x2⟩ := first_far r1 r2 r3 r4 i (by omega)
      go_wp2_with fail
      refine (firstOf_at p q i _ _ _ rfl HP.out (by omega) rfl).mono ?_
      rintro e w2 ⟨rfl, hh2⟩
      have k0 := hh2.cell (p := ⟨w.heap.size, 0, none⟩) hsz
      have k1 := hh2.cell (p := ⟨w.heap.size, 1, none⟩) hsz
      rw [hc0] at k0
      rw [hc1] at k1
      have hz2 := hh2.size
      have hB2 := hB.trans (hh2.mono (Nat.le_of_lt hsz))
      go_wp2
      go_roundw
      case rel => exact ⟨i + 1, by omega, rfl, congrArg (Value.int .i64) (by omega), k0, k1, by omega, hB2⟩
      case measure => simp [intOf]; omega
    · obtain rfl : i = n + 1 := by omega
      go_wp2
      go_ret
      exact ⟨rfl, hB⟩
set_option maxRecDepth 100000 in
set_option maxHeartbeats 4000000 in
theorem totalKnown_at (p q : Int) (n : Nat) (z : Int) (hn : n ≤ 19) (w : World) (hp : pairB p q = true) :
    Calls Try.prog 49 #[pr p q, .int .i64 (n : Int), .int .i64 z] w fun e w' => e = .returned (.int .i64 (rowSum p q (n + 1))) ∧ Below w.heap.size w w' := by
  obtain ⟨⟨r1, r2⟩, r3, r4⟩ := pairB_true hp
  have HP := Lib.hid hp
  clear hp
  skip
  go_enter Try.func49, Try.ntmps49
  by_cases ht : p - q - 1 = 0
  · have T : (p - q - 1 == 0) = true := by simp [ht]
    clear ht
    go_wp2_with fail
    refine (totalMade_at p q n 0 hn _ HP.out).mono ?_
    rintro e w2 ⟨rfl, hh2⟩
    go_wp2
    go_ret
    exact ⟨rfl, by (repeat (first | exact Below.refl _ _ | refine Below.setCell ?_ (by first | omega | (simp <;> omega)) _ | refine Below.alloc ?_ (by first | omega | (simp <;> omega)) _ | refine Below.drew ?_ | refine Below.trans ?_ (Below.mono (by assumption) (by first | omega | (simp <;> omega))) | refine Below.grown ?_ (by assumption) (by first | omega | (simp <;> omega)) (fun k e => by cases e; first | omega | (simp <;> omega))))⟩
  · have T : (p - q - 1 == 0) = false := by simp [ht]
    have E := row_sum_quo p q n ht
    obtain ⟨x1, x2⟩ := first_far r1 r2 r3 r4 (n + 1) (by omega)
    obtain ⟨y1, y2⟩ := first_far r1 r2 r3 r4 n (by omega)
    obtain ⟨s1, s2⟩ := sum_far r1 r2 r3 r4 (n + 1) (by omega)
    obtain ⟨m1, m2⟩ := mul_bd r3 r4 y1 y2
    have wa : IntKind.i64.wrap ((n : Int) + 1) = (n : Int) + 1 := by rw [IntKind.wrap_i64]; omega
    have wb := wa
    have U1 : IntKind.i64.wrap (q * row p q 0 1 n) = q * row p q 0 1 n := by rw [IntKind.wrap_i64]; omega
    have U2 : IntKind.i64.wrap (row p q 0 1 (n + 1) - q * row p q 0 1 n) = row p q 0 1 (n + 1) - q * row p q 0 1 n := by rw [IntKind.wrap_i64]; omega
    have U3 : IntKind.i64.wrap (row p q 0 1 (n + 1) - q * row p q 0 1 n - 1) = row p q 0 1 (n + 1) - q * row p q 0 1 n - 1 := by rw [IntKind.wrap_i64]; omega
    have U4 : IntKind.i64.wrap ((row p q 0 1 (n + 1) - q * row p q 0 1 n - 1).tdiv (p - q - 1)) = rowSum p q (n + 1) := by rw [E, IntKind.wrap_i64]; omega
    clear x1 x2 y1 y2 s1 s2 m1 m2 E
    go_wp2_with fail
    go_region_held3 (fun w' => w'.cell? ⟨w.heap.size, 0, none⟩ = some (.int .i64 p) ∧ w'.cell? ⟨w.heap.size, 1, none⟩ = some (.int .i64 q))
      (first | go_keep | (go_split_ands; exact ⟨kx0, kx1⟩))
      ((first | (go_at_call 51; refine (firstOf_at p q (n + 1) _ _ _ (by first | omega | (simp only [wa, wb] <;> omega)) HP.out (by omega) rfl).mono ?_; rintro e w2 ⟨rfl, hh2⟩; have hz2 := hh2.size; (try simp at hz2); have kx0 := (hh2.cell (p := ⟨w.heap.size, 0, none⟩) (by first | omega | (simp <;> omega))); have kx1 := (hh2.cell (p := ⟨w.heap.size, 1, none⟩) (by first | omega | (simp <;> omega)))) | (go_at_call 51; refine (firstOf_at p q (n) _ _ _ (by first | omega | (simp only [wa, wb] <;> omega)) HP.out (by omega) rfl).mono ?_; rintro e w2 ⟨rfl, hh2⟩; have hz2 := hh2.size; (try simp at hz2); have kx0 := (hh2.cell (p := ⟨w.heap.size, 0, none⟩) (by first | omega | (simp <;> omega))); have kx1 := (hh2.cell (p := ⟨w.heap.size, 1, none⟩) (by first | omega | (simp <;> omega)))) | fail))
    go_wp2
    go_ret
    exact ⟨rfl, by (repeat (first | exact Below.refl _ _ | refine Below.setCell ?_ (by first | omega | (simp <;> omega)) _ | refine Below.alloc ?_ (by first | omega | (simp <;> omega)) _ | refine Below.drew ?_ | refine Below.trans ?_ (Below.mono (by assumption) (by first | omega | (simp <;> omega))) | refine Below.grown ?_ (by assumption) (by first | omega | (simp <;> omega)) (fun k e => by cases e; first | omega | (simp <;> omega))))⟩
end Go.Proofs.Ytcnaijmmoldbpaa
