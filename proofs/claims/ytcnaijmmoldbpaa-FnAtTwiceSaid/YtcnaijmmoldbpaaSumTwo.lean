/- What the sides of the rules on doubles, middles and sums return. -/
import Derived.Test.YtcnaijmmoldbpaaSumFns
namespace Go.Proofs.Ytcnaijmmoldbpaa
open Go.RowKit
set_option maxRecDepth 100000 in
set_option maxHeartbeats 4000000 in
theorem sumKnown_at (p q : Int) (a b : Nat) (ha : a ≤ 9) (hb : b ≤ 9) (w : World) (hp : pairB p q = true) :
    Calls Try.prog 43 #[pr p q, .int .i64 ((a : Int) + 1), .int .i64 (b : Int)] w fun e w' => e = .returned (.int .i64 (row p q 0 1 (a + 1 + b))) ∧ Below w.heap.size w w' := by
  obtain ⟨⟨r1, r2⟩, r3, r4⟩ := pairB_true hp
  have HP := Lib.hid hp
  clear hp
  skip
  go_enter Try.func43, Try.ntmps43
  go_wp2_with fail
  refine (firstOf_at p q (a + 1 + b) _ _ _ (by omega) HP.out (by omega) rfl).mono ?_
  rintro e w1 ⟨rfl, hh1⟩
  obtain ⟨hc1, hf1⟩ := bcell hh1
  have hz1 := hh1.size
  try simp only [World.size_alloc] at hz1
  go_wp2
  go_ret
  exact ⟨rfl, by (repeat (first | exact Below.refl _ _ | refine Below.setCell ?_ (by first | omega | (simp <;> omega)) _ | refine Below.alloc ?_ (by first | omega | (simp <;> omega)) _ | refine Below.drew ?_ | refine Below.trans ?_ (Below.mono (by assumption) (by first | omega | (simp <;> omega))) | refine Below.grown ?_ (by assumption) (by first | omega | (simp <;> omega)) (fun k e => by cases e; first | omega | (simp <;> omega))))⟩
set_option maxRecDepth 100000 in
set_option maxHeartbeats 4000000 in
theorem twiceMade_at (p q : Int) (n : Nat) (z : Int) (hn : n ≤ 10) (w : World) (hp : pairB p q = true) :
    Calls Try.prog 44 #[pr p q, .int .i64 (n : Int), .int .i64 z] w fun e w' => e = .returned (.int .i64 (row p q 0 1 (2 * n))) ∧ Below w.heap.size w w' := by
  obtain ⟨⟨r1, r2⟩, r3, r4⟩ := pairB_true hp
  have HP := Lib.hid hp
  clear hp
  obtain ⟨x1, x2⟩ := first_half r1 r2 r3 r4 n hn
  obtain ⟨y1, y2⟩ := second_half r1 r2 r3 r4 n hn
  obtain ⟨m1, m2⟩ := mul_bd x1 x2 y1 y2
  have E := row_twice p q n
  have U1 : IntKind.i64.wrap (row p q 0 1 n * row p q 2 p n) = row p q 0 1 (2 * n) := by rw [← E, IntKind.wrap_i64]; omega
  clear x1 x2 y1 y2 m1 m2 E
  go_enter Try.func44, Try.ntmps44
  go_wp2_with fail
  go_region_held3 (fun w' => w'.cell? ⟨w.heap.size, 0, none⟩ = some (.int .i64 p) ∧ w'.cell? ⟨w.heap.size, 1, none⟩ = some (.int .i64 q))
    (first | go_keep | (go_split_ands; exact ⟨kx0, kx1⟩))
    ((first | (go_at_call 51; refine (firstOf_at p q (n) _ _ _ rfl HP.out (by omega) rfl).mono ?_; rintro e w2 ⟨rfl, hh2⟩; have hz2 := hh2.size; (try simp at hz2); have kx0 := (hh2.cell (p := ⟨w.heap.size, 0, none⟩) (by first | omega | (simp <;> omega))); have kx1 := (hh2.cell (p := ⟨w.heap.size, 1, none⟩) (by first | omega | (simp <;> omega)))) | (go_at_call 52; refine (secondOf_at p q (n) _ _ _ rfl HP.out (by omega) rfl).mono ?_; rintro e w2 ⟨rfl, hh2⟩; have hz2 := hh2.size; (try simp at hz2); have kx0 := (hh2.cell (p := ⟨w.heap.size, 0, none⟩) (by first | omega | (simp <;> omega))); have kx1 := (hh2.cell (p := ⟨w.heap.size, 1, none⟩) (by first | omega | (simp <;> omega)))) | fail))
  go_wp2
  go_ret
  exact ⟨rfl, by (repeat (first | exact Below.refl _ _ | refine Below.setCell ?_ (by first | omega | (simp <;> omega)) _ | refine Below.alloc ?_ (by first | omega | (simp <;> omega)) _ | refine Below.drew ?_ | refine Below.trans ?_ (Below.mono (by assumption) (by first | omega | (simp <;> omega))) | refine Below.grown ?_ (by assumption) (by first | omega | (simp <;> omega)) (fun k e => by cases e; first | omega | (simp <;> omega))))⟩
set_option maxRecDepth 100000 in
set_option maxHeartbeats 4000000 in
theorem twiceKnown_at (p q : Int) (n : Nat) (z : Int) (hn : n ≤ 10) (w : World) (hp : pairB p q = true) :
    Calls Try.prog 45 #[pr p q, .int .i64 (n : Int), .int .i64 z] w fun e w' => e = .returned (.int .i64 (row p q 0 1 (2 * n))) ∧ Below w.heap.size w w' := by
  obtain ⟨⟨r1, r2⟩, r3, r4⟩ := pairB_true hp
  have HP := Lib.hid hp
  clear hp
  skip
  go_enter Try.func45, Try.ntmps45
  go_wp2_with fail
  refine (firstOf_at p q (2 * n) _ _ _ (by omega) HP.out (by omega) rfl).mono ?_
  rintro e w1 ⟨rfl, hh1⟩
  obtain ⟨hc1, hf1⟩ := bcell hh1
  have hz1 := hh1.size
  try simp only [World.size_alloc] at hz1
  go_wp2
  go_ret
  exact ⟨rfl, by (repeat (first | exact Below.refl _ _ | refine Below.setCell ?_ (by first | omega | (simp <;> omega)) _ | refine Below.alloc ?_ (by first | omega | (simp <;> omega)) _ | refine Below.drew ?_ | refine Below.trans ?_ (Below.mono (by assumption) (by first | omega | (simp <;> omega))) | refine Below.grown ?_ (by assumption) (by first | omega | (simp <;> omega)) (fun k e => by cases e; first | omega | (simp <;> omega))))⟩
set_option maxRecDepth 100000 in
set_option maxHeartbeats 4000000 in
theorem aboutMade_at (p q : Int) (d r : Nat) (h : d + r ≤ 10) (w : World) (hp : pairB p q = true) :
    Calls Try.prog 46 #[pr p q, .int .i64 ((d : Int) + r), .int .i64 (r : Int)] w fun e w' => e = .returned (.int .i64 (q ^ d * row p q 0 1 r * row p q 0 1 r)) ∧ Below w.heap.size w w' := by
  obtain ⟨⟨r1, r2⟩, r3, r4⟩ := pairB_true hp
  have HP := Lib.hid hp
  clear hp
  obtain ⟨x1, x2⟩ := first_half r1 r2 r3 r4 (d + r) h
  obtain ⟨m1, m2⟩ := mul_bd x1 x2 x1 x2
  obtain ⟨m3, m4⟩ := about_bd r1 r2 r3 r4 d r h
  have E := row_about p q d r
  have wa : IntKind.i64.wrap (d : Int) = (d : Int) := by rw [IntKind.wrap_i64]; omega
  have wb : IntKind.i64.wrap ((d : Int) + r + r) = (d : Int) + r + r := by rw [IntKind.wrap_i64]; omega
  have U1 : IntKind.i64.wrap (row p q 0 1 (d + r) * row p q 0 1 (d + r)) = row p q 0 1 (d + r) * row p q 0 1 (d + r) := by rw [IntKind.wrap_i64]; omega
  have U2 : IntKind.i64.wrap (row p q 0 1 d * row p q 0 1 (d + r + r)) = row p q 0 1 d * row p q 0 1 (d + r + r) := by rw [IntKind.wrap_i64]; omega
  have U3 : IntKind.i64.wrap (row p q 0 1 (d + r) * row p q 0 1 (d + r) - row p q 0 1 d * row p q 0 1 (d + r + r)) = q ^ d * row p q 0 1 r * row p q 0 1 r := by rw [← E, IntKind.wrap_i64]; omega
  clear x1 x2 m1 m2 m3 m4 E
  go_enter Try.func46, Try.ntmps46
  go_wp2_with fail
  refine (firstOf_at p q (d + r) _ _ _ (by omega) HP.out (by omega) rfl).mono ?_
  rintro e w1 ⟨rfl, hh1⟩
  obtain ⟨hc1, hf1⟩ := bcell hh1
  have hz1 := hh1.size
  try simp only [World.size_alloc] at hz1
  have hz1_0 : w.heap.size < w1.heap.size := by omega
  have kb1_0_0 : w1.cell? ⟨w.heap.size, 0, none⟩ = some (.int .i64 p) := by go_simp
  have kf1_0_0 : w1.frozen? ⟨w.heap.size, 0, none⟩ = false := by go_simp
  have kb1_0_1 : w1.cell? ⟨w.heap.size, 1, none⟩ = some (.int .i64 q) := by go_simp
  have kf1_0_1 : w1.frozen? ⟨w.heap.size, 1, none⟩ = false := by go_simp
  clear hc1 hf1
  go_wp2_with fail
  go_region_held3 (fun w' => w'.cell? ⟨w.heap.size, 0, none⟩ = some (.int .i64 p) ∧ w'.cell? ⟨w.heap.size, 1, none⟩ = some (.int .i64 q))
    (first | go_keep | (go_split_ands; exact ⟨kx0, kx1⟩))
    ((first | (go_at_call 51; refine (firstOf_at p q (d) _ _ _ (by first | omega | (simp only [wa, wb] <;> omega)) HP.out (by omega) rfl).mono ?_; rintro e w2 ⟨rfl, hh2⟩; have hz2 := hh2.size; (try simp at hz2); have kx0 := (hh2.cell (p := ⟨w.heap.size, 0, none⟩) (by first | omega | (simp <;> omega))); have kx1 := (hh2.cell (p := ⟨w.heap.size, 1, none⟩) (by first | omega | (simp <;> omega)))) | (go_at_call 51; refine (firstOf_at p q (d + r + r) _ _ _ (by first | omega | (simp only [wa, wb] <;> omega)) HP.out (by omega) rfl).mono ?_; rintro e w2 ⟨rfl, hh2⟩; have hz2 := hh2.size; (try simp at hz2); have kx0 := (hh2.cell (p := ⟨w.heap.size, 0, none⟩) (by first | omega | (simp <;> omega))); have kx1 := (hh2.cell (p := ⟨w.heap.size, 1, none⟩) (by first | omega | (simp <;> omega)))) | fail))
  go_wp2
  go_ret
  exact ⟨rfl, by (repeat (first | exact Below.refl _ _ | refine Below.setCell ?_ (by first | omega | (simp <;> omega)) _ | refine Below.alloc ?_ (by first | omega | (simp <;> omega)) _ | refine Below.drew ?_ | refine Below.trans ?_ (Below.mono (by assumption) (by first | omega | (simp <;> omega))) | refine Below.grown ?_ (by assumption) (by first | omega | (simp <;> omega)) (fun k e => by cases e; first | omega | (simp <;> omega))))⟩
set_option maxRecDepth 100000 in
set_option maxHeartbeats 4000000 in
theorem aboutKnown_at (p q : Int) (d r : Nat) (h : d + r ≤ 10) (w : World) (hp : pairB p q = true) :
    Calls Try.prog 47 #[pr p q, .int .i64 ((d : Int) + r), .int .i64 (r : Int)] w fun e w' => e = .returned (.int .i64 (q ^ d * row p q 0 1 r * row p q 0 1 r)) ∧ Below w.heap.size w w' := by
  obtain ⟨⟨r1, r2⟩, r3, r4⟩ := pairB_true hp
  have HP := Lib.hid hp
  clear hp
  obtain ⟨⟨x1, x2⟩, x3, x4⟩ := pow_row_bd r1 r2 r3 r4 d r h
  go_enter Try.func47, Try.ntmps47
  go_wp2_with fail
  refine (firstOf_at p q r _ _ _ (by omega) HP.out (by omega) rfl).mono ?_
  rintro e w1 ⟨rfl, hh1⟩
  obtain ⟨hc1, hf1⟩ := bcell hh1
  have hz1 := hh1.size
  try simp only [World.size_alloc] at hz1
  have hz1_0 : w.heap.size < w1.heap.size := by omega
  have kb1_0_0 : w1.cell? ⟨w.heap.size, 0, none⟩ = some (.int .i64 p) := by go_simp
  have kf1_0_0 : w1.frozen? ⟨w.heap.size, 0, none⟩ = false := by go_simp
  have kb1_0_1 : w1.cell? ⟨w.heap.size, 1, none⟩ = some (.int .i64 q) := by go_simp
  have kf1_0_1 : w1.frozen? ⟨w.heap.size, 1, none⟩ = false := by go_simp
  clear hc1 hf1
  go_wp2_with fail
  refine (implPower_any q d _ _ (by omega) r3 r4 (by omega)).mono ?_
  rintro e w2 ⟨rfl, rfl⟩
  go_wp2
  go_ret
  exact ⟨rfl, by (repeat (first | exact Below.refl _ _ | refine Below.setCell ?_ (by first | omega | (simp <;> omega)) _ | refine Below.alloc ?_ (by first | omega | (simp <;> omega)) _ | refine Below.drew ?_ | refine Below.trans ?_ (Below.mono (by assumption) (by first | omega | (simp <;> omega))) | refine Below.grown ?_ (by assumption) (by first | omega | (simp <;> omega)) (fun k e => by cases e; first | omega | (simp <;> omega))))⟩
end Go.Proofs.Ytcnaijmmoldbpaa
