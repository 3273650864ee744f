/- The draws of the third stage: nothing that was there is written. -/
import Derived.Test.YtgcpmgddlaeccaaDrawFar
import Derived.Test.YtgcpmgddlaeccaaDrawBy
namespace Go.Proofs.Ytgcpmgddlaeccaa
open Go.RowKit
/-- What a draw of a pair and two numbers returns. -/
def DrawnAny (w : World) (e : Ending) (w' : World) : Prop :=
  ∃ p q a b : Int, e = .returned (.tuple #[pr p q, .int .i64 a, .int .i64 b]) ∧ Below w.heap.size w w'
/-- What a draw of three numbers returns. -/
def DrawnThree (w : World) (e : Ending) (w' : World) : Prop :=
  ∃ a b c : Int, e = .returned (.tuple #[.int .i64 a, .int .i64 b, .int .i64 c]) ∧ Below w.heap.size w w'
set_option maxHeartbeats 2000000 in
theorem drawFarFirst_any (w : World) (a : Option Addr) (len cap : Nat) (zs : List Int) (h : IsRow w a len cap zs) :
    Calls Try.prog 11 #[.slice a len cap] w (DrawnAny w) := by
  go_enter Try.func11, Try.ntmps11
  go_wp2_with fail
  refine (open_any _ _ _ _ zs (h.below ((Below.refl _ _).alloc (Nat.le_refl _) _))).mono ?_
  rintro e w1 ⟨rfl, hR1, hh1, hzR1⟩
  try simp only [World.size_alloc] at hzR1
  try simp only [World.size_alloc] at hR1
  obtain ⟨hc1, hf1⟩ := bcell hh1
  have hz1 := hh1.size
  try simp only [World.size_alloc] at hz1
  have hz1_0 : w.heap.size < w1.heap.size := by omega
  have kb1_0_0 : w1.cell? ⟨w.heap.size, 0, none⟩ = some (.int .i64 0) := by go_simp
  have kf1_0_0 : w1.frozen? ⟨w.heap.size, 0, none⟩ = false := by go_simp
  have kb1_0_1 : w1.cell? ⟨w.heap.size, 1, none⟩ = some (.int .i64 0) := by go_simp
  have kf1_0_1 : w1.frozen? ⟨w.heap.size, 1, none⟩ = false := by go_simp
  clear hc1 hf1
  go_wp2_with fail
  refine (l20Pair_any (w.heap.size + 1) 0 14 _ hR1 (by omega) (by omega)).mono ?_
  rintro e w2 ⟨p2, q2, rfl, pa2, pb2, qa2, qb2, hR2, hh2⟩
  obtain ⟨hc2, hf2⟩ := gcell hh2
  have hz2 := hh2.size
  try simp only [World.size_alloc] at hz2
  have hz2_0 : w.heap.size < w2.heap.size := by omega
  have hn2_0 : ¬ w.heap.size = (w.heap.size + 1) := by omega
  have kb2_0_0 : w2.cell? ⟨w.heap.size, 0, none⟩ = some (.int .i64 0) := by go_simp
  have kf2_0_0 : w2.frozen? ⟨w.heap.size, 0, none⟩ = false := by go_simp
  have kb2_0_1 : w2.cell? ⟨w.heap.size, 1, none⟩ = some (.int .i64 0) := by go_simp
  have kf2_0_1 : w2.frozen? ⟨w.heap.size, 1, none⟩ = false := by go_simp
  clear hc2 hf2
  go_wp2_with fail
  refine (l20Far_any (w.heap.size + 1) (0 + 5) _ hR2 (by omega)).mono ?_
  rintro e w3 ⟨v3, rfl, hR3, hh3⟩
  obtain ⟨hc3, hf3⟩ := gcell hh3
  have hz3 := hh3.size
  try simp only [World.size_alloc] at hz3
  have hz3_0 : w.heap.size < w3.heap.size := by omega
  have hn3_0 : ¬ w.heap.size = (w.heap.size + 1) := by omega
  have kb3_0_0 : w3.cell? ⟨w.heap.size, 0, none⟩ = some (.int .i64 0) := by go_simp
  have kf3_0_0 : w3.frozen? ⟨w.heap.size, 0, none⟩ = false := by go_simp
  have kb3_0_1 : w3.cell? ⟨w.heap.size, 1, none⟩ = some (.int .i64 0) := by go_simp
  have kf3_0_1 : w3.frozen? ⟨w.heap.size, 1, none⟩ = false := by go_simp
  clear hc3 hf3
  go_wp2_with fail
  refine (l20By_any (w.heap.size + 1) (0 + 5 + 7) _ hR3 (by omega)).mono ?_
  rintro e w4 ⟨v4, rfl, hR4, hh4⟩
  obtain ⟨hc4, hf4⟩ := gcell hh4
  have hz4 := hh4.size
  try simp only [World.size_alloc] at hz4
  have hz4_0 : w.heap.size < w4.heap.size := by omega
  have hn4_0 : ¬ w.heap.size = (w.heap.size + 1) := by omega
  have kb4_0_0 : w4.cell? ⟨w.heap.size, 0, none⟩ = some (.int .i64 0) := by go_simp
  have kf4_0_0 : w4.frozen? ⟨w.heap.size, 0, none⟩ = false := by go_simp
  have kb4_0_1 : w4.cell? ⟨w.heap.size, 1, none⟩ = some (.int .i64 0) := by go_simp
  have kf4_0_1 : w4.frozen? ⟨w.heap.size, 1, none⟩ = false := by go_simp
  clear hc4 hf4
  go_wp2
  refine bodyPost_ret (v := .tuple #[pr p2 q2, .int .i64 v3, .int .i64 v4]) (by simp [results, Try.results11, go_sem, kb4_0_0, kb4_0_1]) rfl ⟨_, _, _, _, rfl, ?_⟩
  (repeat (first | exact Below.refl _ _ | refine Below.setCell ?_ (by first | omega | (simp <;> omega)) _ | refine Below.alloc ?_ (by first | omega | (simp <;> omega)) _ | refine Below.drew ?_ | refine Below.trans ?_ (Below.mono (by assumption) (by first | omega | (simp <;> omega))) | refine Below.grown ?_ (by assumption) (by first | omega | (simp <;> omega)) (fun k e => by cases e; first | omega | (simp <;> omega))))
set_option maxHeartbeats 2000000 in
theorem drawFarSecond_any (w : World) (a : Option Addr) (len cap : Nat) (zs : List Int) (h : IsRow w a len cap zs) :
    Calls Try.prog 17 #[.slice a len cap] w (DrawnAny w) := by
  go_enter Try.func17, Try.ntmps17
  go_wp2_with fail
  refine (drawFarFirst_any _ _ _ _ zs (h.below ((Below.refl _ _).alloc (Nat.le_refl _) _))).mono ?_
  rintro e w1 ⟨p1, q1, n1, m1, rfl, hh1⟩
  obtain ⟨hc1, hf1⟩ := bcell hh1
  have hz1 := hh1.size
  try simp only [World.size_alloc] at hz1
  have hz1_0 : w.heap.size < w1.heap.size := by omega
  have kb1_0_0 : w1.cell? ⟨w.heap.size, 0, none⟩ = some (.int .i64 0) := by go_simp
  have kf1_0_0 : w1.frozen? ⟨w.heap.size, 0, none⟩ = false := by go_simp
  have kb1_0_1 : w1.cell? ⟨w.heap.size, 1, none⟩ = some (.int .i64 0) := by go_simp
  have kf1_0_1 : w1.frozen? ⟨w.heap.size, 1, none⟩ = false := by go_simp
  clear hc1 hf1
  go_wp2
  refine bodyPost_ret (v := .tuple #[pr p1 q1, .int .i64 n1, .int .i64 m1]) (by simp [results, Try.results17, go_sem, kb1_0_0, kb1_0_1]) rfl ⟨_, _, _, _, rfl, ?_⟩
  (repeat (first | exact Below.refl _ _ | refine Below.setCell ?_ (by first | omega | (simp <;> omega)) _ | refine Below.alloc ?_ (by first | omega | (simp <;> omega)) _ | refine Below.drew ?_ | refine Below.trans ?_ (Below.mono (by assumption) (by first | omega | (simp <;> omega))) | refine Below.grown ?_ (by assumption) (by first | omega | (simp <;> omega)) (fun k e => by cases e; first | omega | (simp <;> omega))))
set_option maxHeartbeats 2000000 in
theorem drawPowerLeft_any (w : World) (a : Option Addr) (len cap : Nat) (zs : List Int) (h : IsRow w a len cap zs) :
    Calls Try.prog 22 #[.slice a len cap] w (DrawnThree w) := by
  go_enter Try.func22, Try.ntmps22
  go_wp2_with fail
  refine (open_any _ _ _ _ zs h).mono ?_
  rintro e w1 ⟨rfl, hR1, hh1, hzR1⟩
  try simp only [World.size_alloc] at hzR1
  try simp only [World.size_alloc] at hR1
  obtain ⟨hc1, hf1⟩ := bcell hh1
  have hz1 := hh1.size
  try simp only [World.size_alloc] at hz1
  go_wp2_with fail
  refine (pick_any w.heap.size 0 200 _ hR1 (by omega) (by omega)).mono ?_
  rintro e w2 ⟨v2, rfl, va2, vb2, hR2, hh2⟩
  have vc2 : v2 ≤ max (200 - 1) 0 := by omega
  clear vb2
  obtain ⟨hc2, hf2⟩ := gcell hh2
  have hz2 := hh2.size
  try simp only [World.size_alloc] at hz2
  clear hc2 hf2
  go_wp2_with fail
  refine (pick_any w.heap.size (0 + 1) 200 _ hR2 (by omega) (by omega)).mono ?_
  rintro e w3 ⟨v3, rfl, va3, vb3, hR3, hh3⟩
  have vc3 : v3 ≤ max (200 - 1) 0 := by omega
  clear vb3
  obtain ⟨hc3, hf3⟩ := gcell hh3
  have hz3 := hh3.size
  try simp only [World.size_alloc] at hz3
  clear hc3 hf3
  go_wp2_with fail
  refine (pick_any w.heap.size (0 + 1 + 1) 30 _ hR3 (by omega) (by omega)).mono ?_
  rintro e w4 ⟨v4, rfl, va4, vb4, hR4, hh4⟩
  have vc4 : v4 ≤ max (30 - 1) 0 := by omega
  clear vb4
  obtain ⟨hc4, hf4⟩ := gcell hh4
  have hz4 := hh4.size
  try simp only [World.size_alloc] at hz4
  clear hc4 hf4
  go_wp2_with fail
  refine (l20Far_any w.heap.size (0 + 1 + 1 + 1) _ hR4 (by omega)).mono ?_
  rintro e w5 ⟨v5, rfl, hR5, hh5⟩
  obtain ⟨hc5, hf5⟩ := gcell hh5
  have hz5 := hh5.size
  try simp only [World.size_alloc] at hz5
  clear hc5 hf5
  go_wp2_with fail
  refine (l20By_any w.heap.size (0 + 1 + 1 + 1 + 7) _ hR5 (by omega)).mono ?_
  rintro e w6 ⟨v6, rfl, hR6, hh6⟩
  obtain ⟨hc6, hf6⟩ := gcell hh6
  have hz6 := hh6.size
  try simp only [World.size_alloc] at hz6
  clear hc6 hf6
  go_wp2
  refine bodyPost_ret (v := .tuple #[.int .i64 (v2 - v3 + v4 / 29 * 20000), .int .i64 v5, .int .i64 v6]) (by simp [results, Try.results22, go_sem]) rfl ⟨_, _, _, rfl, ?_⟩
  (repeat (first | exact Below.refl _ _ | refine Below.setCell ?_ (by first | omega | (simp <;> omega)) _ | refine Below.alloc ?_ (by first | omega | (simp <;> omega)) _ | refine Below.drew ?_ | refine Below.trans ?_ (Below.mono (by assumption) (by first | omega | (simp <;> omega))) | refine Below.grown ?_ (by assumption) (by first | omega | (simp <;> omega)) (fun k e => by cases e; first | omega | (simp <;> omega))))
set_option maxHeartbeats 2000000 in
theorem drawRowLeft_any (w : World) (a : Option Addr) (len cap : Nat) (zs : List Int) (h : IsRow w a len cap zs) :
    Calls Try.prog 25 #[.slice a len cap] w (DrawnAny w) := by
  go_enter Try.func25, Try.ntmps25
  go_wp2_with fail
  refine (open_any _ _ _ _ zs (h.below ((Below.refl _ _).alloc (Nat.le_refl _) _))).mono ?_
  rintro e w1 ⟨rfl, hR1, hh1, hzR1⟩
  try simp only [World.size_alloc] at hzR1
  try simp only [World.size_alloc] at hR1
  obtain ⟨hc1, hf1⟩ := bcell hh1
  have hz1 := hh1.size
  try simp only [World.size_alloc] at hz1
  have hz1_0 : w.heap.size < w1.heap.size := by omega
  have kb1_0_0 : w1.cell? ⟨w.heap.size, 0, none⟩ = some (.int .i64 0) := by go_simp
  have kf1_0_0 : w1.frozen? ⟨w.heap.size, 0, none⟩ = false := by go_simp
  have kb1_0_1 : w1.cell? ⟨w.heap.size, 1, none⟩ = some (.int .i64 0) := by go_simp
  have kf1_0_1 : w1.frozen? ⟨w.heap.size, 1, none⟩ = false := by go_simp
  clear hc1 hf1
  go_wp2_with fail
  refine (l20Pair_any (w.heap.size + 1) 0 12 _ hR1 (by omega) (by omega)).mono ?_
  rintro e w2 ⟨p2, q2, rfl, pa2, pb2, qa2, qb2, hR2, hh2⟩
  obtain ⟨hc2, hf2⟩ := gcell hh2
  have hz2 := hh2.size
  try simp only [World.size_alloc] at hz2
  have hz2_0 : w.heap.size < w2.heap.size := by omega
  have hn2_0 : ¬ w.heap.size = (w.heap.size + 1) := by omega
  have kb2_0_0 : w2.cell? ⟨w.heap.size, 0, none⟩ = some (.int .i64 0) := by go_simp
  have kf2_0_0 : w2.frozen? ⟨w.heap.size, 0, none⟩ = false := by go_simp
  have kb2_0_1 : w2.cell? ⟨w.heap.size, 1, none⟩ = some (.int .i64 0) := by go_simp
  have kf2_0_1 : w2.frozen? ⟨w.heap.size, 1, none⟩ = false := by go_simp
  clear hc2 hf2
  go_wp2_with fail
  refine (pick_any (w.heap.size + 1) (0 + 5) 40 _ hR2 (by omega) (by omega)).mono ?_
  rintro e w3 ⟨v3, rfl, va3, vb3, hR3, hh3⟩
  have vc3 : v3 ≤ max (40 - 1) 0 := by omega
  clear vb3
  obtain ⟨hc3, hf3⟩ := gcell hh3
  have hz3 := hh3.size
  try simp only [World.size_alloc] at hz3
  have hz3_0 : w.heap.size < w3.heap.size := by omega
  have hn3_0 : ¬ w.heap.size = (w.heap.size + 1) := by omega
  have kb3_0_0 : w3.cell? ⟨w.heap.size, 0, none⟩ = some (.int .i64 0) := by go_simp
  have kf3_0_0 : w3.frozen? ⟨w.heap.size, 0, none⟩ = false := by go_simp
  have kb3_0_1 : w3.cell? ⟨w.heap.size, 1, none⟩ = some (.int .i64 0) := by go_simp
  have kf3_0_1 : w3.frozen? ⟨w.heap.size, 1, none⟩ = false := by go_simp
  clear hc3 hf3
  go_wp2_with fail
  refine (pick_any (w.heap.size + 1) (0 + 5 + 1) 10 _ hR3 (by omega) (by omega)).mono ?_
  rintro e w4 ⟨v4, rfl, va4, vb4, hR4, hh4⟩
  have vc4 : v4 ≤ max (10 - 1) 0 := by omega
  clear vb4
  obtain ⟨hc4, hf4⟩ := gcell hh4
  have hz4 := hh4.size
  try simp only [World.size_alloc] at hz4
  have hz4_0 : w.heap.size < w4.heap.size := by omega
  have hn4_0 : ¬ w.heap.size = (w.heap.size + 1) := by omega
  have kb4_0_0 : w4.cell? ⟨w.heap.size, 0, none⟩ = some (.int .i64 0) := by go_simp
  have kf4_0_0 : w4.frozen? ⟨w.heap.size, 0, none⟩ = false := by go_simp
  have kb4_0_1 : w4.cell? ⟨w.heap.size, 1, none⟩ = some (.int .i64 0) := by go_simp
  have kf4_0_1 : w4.frozen? ⟨w.heap.size, 1, none⟩ = false := by go_simp
  clear hc4 hf4
  go_wp2_with fail
  refine (l20By_any (w.heap.size + 1) (0 + 5 + 1 + 1) _ hR4 (by omega)).mono ?_
  rintro e w5 ⟨v5, rfl, hR5, hh5⟩
  obtain ⟨hc5, hf5⟩ := gcell hh5
  have hz5 := hh5.size
  try simp only [World.size_alloc] at hz5
  have hz5_0 : w.heap.size < w5.heap.size := by omega
  have hn5_0 : ¬ w.heap.size = (w.heap.size + 1) := by omega
  have kb5_0_0 : w5.cell? ⟨w.heap.size, 0, none⟩ = some (.int .i64 0) := by go_simp
  have kf5_0_0 : w5.frozen? ⟨w.heap.size, 0, none⟩ = false := by go_simp
  have kb5_0_1 : w5.cell? ⟨w.heap.size, 1, none⟩ = some (.int .i64 0) := by go_simp
  have kf5_0_1 : w5.frozen? ⟨w.heap.size, 1, none⟩ = false := by go_simp
  clear hc5 hf5
  go_wp2
  refine bodyPost_ret (v := .tuple #[pr p2 q2, .int .i64 (v3 + v4 / 9 * 170), .int .i64 v5]) (by simp [results, Try.results25, go_sem, kb5_0_0, kb5_0_1]) rfl ⟨_, _, _, _, rfl, ?_⟩
  (repeat (first | exact Below.refl _ _ | refine Below.setCell ?_ (by first | omega | (simp <;> omega)) _ | refine Below.alloc ?_ (by first | omega | (simp <;> omega)) _ | refine Below.drew ?_ | refine Below.trans ?_ (Below.mono (by assumption) (by first | omega | (simp <;> omega))) | refine Below.grown ?_ (by assumption) (by first | omega | (simp <;> omega)) (fun k e => by cases e; first | omega | (simp <;> omega))))
end Go.Proofs.Ytgcpmgddlaeccaa
