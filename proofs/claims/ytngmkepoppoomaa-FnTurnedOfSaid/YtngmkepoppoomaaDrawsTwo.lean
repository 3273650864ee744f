/- The draws of the first stage, from the code on: nothing that was there is written. -/
import Derived.Test.YtngmkepoppoomaaDrawsPair
namespace Go.Proofs.Ytngmkepoppoomaa
open Go.RowKit
/-- What a draw of a pair returns. -/
def DrawnPair (w : World) (e : Ending) (w' : World) : Prop :=
  ∃ p q : Int, e = .returned (pr p q) ∧ -6 ≤ p ∧ p ≤ 100 ∧ -6 ≤ q ∧ q ≤ 100 ∧ Below w.heap.size w w'
/-- What a draw of a pair and a place returns. -/
def DrawnPlace (w : World) (e : Ending) (w' : World) : Prop :=
  ∃ p q n : Int, e = .returned (.tuple #[pr p q, .int .i64 n]) ∧ -6 ≤ p ∧ p ≤ 100 ∧ -6 ≤ q ∧ q ≤ 100 ∧ -60 ≤ n ∧ n ≤ 60 ∧ Below w.heap.size w w'
def PlaceDrawn (w : World) (R k : Nat) (e : Ending) (w' : World) : Prop :=
  ∃ p q n : Int, e = .returned (.tuple #[pr p q, .int .i64 n]) ∧ -5 ≤ p ∧ p ≤ 100 ∧ -5 ≤ q ∧ q ≤ 100 ∧ -60 ≤ n ∧ n ≤ 60 ∧ Rd w' R (k + 8) ∧ w.grownBy w' (some R)
/-- A code lies on. -/
theorem IsRow.below {w w' : World} {a : Option Addr} {len cap : Nat} {zs : List Int} (h : IsRow w a len cap zs) (hb : Below w.heap.size w w') : IsRow w' a len cap zs := by
  rcases h with h | ⟨x, rfl, hl, hm, hz, hc, hw⟩
  · exact .inl h
  · refine .inr ⟨x, rfl, hl, hm, hz, fun i hi => ?_, hw⟩
    have hci := hc i hi
    obtain ⟨o, ho, _⟩ := cells_of_cell' hci
    exact (hb.cell (Array.getElem?_eq_some_iff.1 ho).1).trans hci
/-- What is known of a pair's draw, as a fact behind a call. -/
theorem DrawnPair.of {w : World} {R k m : Nat} {e : Ending} {w1 w' : World} (h : PairDrawn w1 R k m e w') (hb : Below w.heap.size w w1) (hR : w.heap.size ≤ R) : DrawnPair w e w' := by
  obtain ⟨p, q, rfl, h1, h2, h3, h4, _, hg⟩ := h
  exact ⟨p, q, rfl, by omega, h2, by omega, h4, hb.grown hg hb.size (fun k e => by cases e; exact hR)⟩
set_option maxHeartbeats 2000000 in
theorem l20Place_any (R k : Nat) (w : World) (h : Rd w R k) (hk : k ≤ 1000000) :
    Calls Try.prog 36 #[.pointer (some ⟨R, 0, none⟩)] w (PlaceDrawn w R k) := by
  have hRlt := h.lt
  go_enter Try.func36, Try.ntmps36
  go_wp2_with fail
  refine (l20Pair_any R k 12 _ (h.alloc _) (by omega) (by omega)).mono ?_
  rintro e w1 ⟨p1, q1, rfl, pa1, pb1, qa1, qb1, hR1, hh1⟩
  obtain ⟨hc1, hf1⟩ := gcell hh1
  have hz1 := hh1.size
  try simp only [World.size_alloc] at hz1
  have hz1_0 : w.heap.size < w1.heap.size := by omega
  have hn1_0 : ¬ w.heap.size = R := by omega
  have kb1_0_0 : w1.cell? ⟨w.heap.size, 0, none⟩ = some (.int .i64 0) := by go_simp
  have kf1_0_0 : w1.frozen? ⟨w.heap.size, 0, none⟩ = false := by go_simp
  have kb1_0_1 : w1.cell? ⟨w.heap.size, 1, none⟩ = some (.int .i64 0) := by go_simp
  have kf1_0_1 : w1.frozen? ⟨w.heap.size, 1, none⟩ = false := by go_simp
  clear hc1 hf1
  go_wp2_with fail
  refine (pick_any R (k + 5) 21 _ hR1 (by omega) (by omega)).mono ?_
  rintro e w2 ⟨v2, rfl, va2, vb2, hR2, hh2⟩
  have vc2 : v2 ≤ max (21 - 1) 0 := by omega
  clear vb2
  obtain ⟨hc2, hf2⟩ := gcell hh2
  have hz2 := hh2.size
  try simp only [World.size_alloc] at hz2
  have hz2_0 : w.heap.size < w2.heap.size := by omega
  have hn2_0 : ¬ w.heap.size = R := by omega
  have kb2_0_0 : w2.cell? ⟨w.heap.size, 0, none⟩ = some (.int .i64 0) := by go_simp
  have kf2_0_0 : w2.frozen? ⟨w.heap.size, 0, none⟩ = false := by go_simp
  have kb2_0_1 : w2.cell? ⟨w.heap.size, 1, none⟩ = some (.int .i64 0) := by go_simp
  have kf2_0_1 : w2.frozen? ⟨w.heap.size, 1, none⟩ = false := by go_simp
  clear hc2 hf2
  go_wp2_with fail
  refine (pick_any R (k + 5 + 1) 30 _ hR2 (by omega) (by omega)).mono ?_
  rintro e w3 ⟨v3, rfl, va3, vb3, hR3, hh3⟩
  have vc3 : v3 ≤ max (30 - 1) 0 := by omega
  clear vb3
  obtain ⟨hc3, hf3⟩ := gcell hh3
  have hz3 := hh3.size
  try simp only [World.size_alloc] at hz3
  have hz3_0 : w.heap.size < w3.heap.size := by omega
  have hn3_0 : ¬ w.heap.size = R := by omega
  have kb3_0_0 : w3.cell? ⟨w.heap.size, 0, none⟩ = some (.int .i64 0) := by go_simp
  have kf3_0_0 : w3.frozen? ⟨w.heap.size, 0, none⟩ = false := by go_simp
  have kb3_0_1 : w3.cell? ⟨w.heap.size, 1, none⟩ = some (.int .i64 0) := by go_simp
  have kf3_0_1 : w3.frozen? ⟨w.heap.size, 1, none⟩ = false := by go_simp
  clear hc3 hf3
  go_wp2_with fail
  refine (pick_any R (k + 5 + 1 + 1) 40 _ hR3 (by omega) (by omega)).mono ?_
  rintro e w4 ⟨v4, rfl, va4, vb4, hR4, hh4⟩
  have vc4 : v4 ≤ max (40 - 1) 0 := by omega
  clear vb4
  obtain ⟨hc4, hf4⟩ := gcell hh4
  have hz4 := hh4.size
  try simp only [World.size_alloc] at hz4
  have hz4_0 : w.heap.size < w4.heap.size := by omega
  have hn4_0 : ¬ w.heap.size = R := by omega
  have kb4_0_0 : w4.cell? ⟨w.heap.size, 0, none⟩ = some (.int .i64 0) := by go_simp
  have kf4_0_0 : w4.frozen? ⟨w.heap.size, 0, none⟩ = false := by go_simp
  have kb4_0_1 : w4.cell? ⟨w.heap.size, 1, none⟩ = some (.int .i64 0) := by go_simp
  have kf4_0_1 : w4.frozen? ⟨w.heap.size, 1, none⟩ = false := by go_simp
  clear hc4 hf4
  have q3a : 0 ≤ v3 / 29 := by omega
  have q3b : v3 / 29 ≤ 1 := by omega
  have q4a : 0 ≤ v4 / 39 := by omega
  have q4b : v4 / 39 ≤ 1 := by omega
  go_wp2
  refine bodyPost_ret (v := .tuple #[pr p1 q1, .int .i64 (v2 + v3 / 29 * 21 - v4 / 39 * 50)]) (by simp [results, Try.results36, go_sem, kb4_0_0, kb4_0_1]) rfl ⟨_, _, _, rfl, pa1, pb1, qa1, qb1, by omega, by omega, ?_, ?_⟩
  · refine Rd.mono (k := k + 5 + 1 + 1 + 1) ?_ (show k + 5 + 1 + 1 + 1 ≤ k + 8 by omega)
    (repeat (first | assumption | refine Rd.set ?_ (by first | omega | (simp <;> omega)) _ | refine Rd.alloc ?_ _ | refine Rd.below ?_ (by assumption) (Nat.le_refl _)))
  · (repeat (first | exact gr_refl _ _ | refine gr_set ?_ (by first | omega | (simp <;> omega)) _ | refine gr_alloc ?_ _ | refine gr_trans ?_ (by assumption) | refine gr_below ?_ (by assumption)))
set_option maxHeartbeats 2000000 in
theorem drawPairOk_any (w : World) (a : Option Addr) (len cap : Nat) (zs : List Int) (h : IsRow w a len cap zs) :
    Calls Try.prog 13 #[.slice a len cap] w (DrawnPair w) := by
  go_enter Try.func13, Try.ntmps13
  go_wp2_with fail
  refine (open_any _ _ _ _ zs (h.below ((Below.refl _ _).alloc (Nat.le_refl _) _))).mono ?_
  rintro e w1 ⟨rfl, hR1, hh1, hzR1⟩
  try simp only [World.size_alloc] at hzR1
  try simp only [World.size_alloc] at hR1
  obtain ⟨hc1, hf1⟩ := bcell hh1
  have hz1 := hh1.size
  try simp only [World.size_alloc] at hz1
  have hz1_0 : w.heap.size < w1.heap.size := by omega
  have kb1_0_0 : w1.cell? ⟨w.heap.size, 0, none⟩ = some (.int .i64 0) := by go_simp
  have kf1_0_0 : w1.frozen? ⟨w.heap.size, 0, none⟩ = false := by go_simp
  have kb1_0_1 : w1.cell? ⟨w.heap.size, 1, none⟩ = some (.int .i64 0) := by go_simp
  have kf1_0_1 : w1.frozen? ⟨w.heap.size, 1, none⟩ = false := by go_simp
  clear hc1 hf1
  go_wp2_with fail
  refine (pick_any (w.heap.size + 1) 0 13 _ hR1 (by omega) (by omega)).mono ?_
  rintro e w2 ⟨v2, rfl, va2, vb2, hR2, hh2⟩
  have vc2 : v2 ≤ max (13 - 1) 0 := by omega
  clear vb2
  obtain ⟨hc2, hf2⟩ := gcell hh2
  have hz2 := hh2.size
  try simp only [World.size_alloc] at hz2
  have hz2_0 : w.heap.size < w2.heap.size := by omega
  have hn2_0 : ¬ w.heap.size = (w.heap.size + 1) := by omega
  have kb2_0_0 : w2.cell? ⟨w.heap.size, 0, none⟩ = some (.int .i64 0) := by go_simp
  have kf2_0_0 : w2.frozen? ⟨w.heap.size, 0, none⟩ = false := by go_simp
  have kb2_0_1 : w2.cell? ⟨w.heap.size, 1, none⟩ = some (.int .i64 0) := by go_simp
  have kf2_0_1 : w2.frozen? ⟨w.heap.size, 1, none⟩ = false := by go_simp
  clear hc2 hf2
  go_wp2_with fail
  refine (pick_any (w.heap.size + 1) (0 + 1) 13 _ hR2 (by omega) (by omega)).mono ?_
  rintro e w3 ⟨v3, rfl, va3, vb3, hR3, hh3⟩
  have vc3 : v3 ≤ max (13 - 1) 0 := by omega
  clear vb3
  obtain ⟨hc3, hf3⟩ := gcell hh3
  have hz3 := hh3.size
  try simp only [World.size_alloc] at hz3
  have hz3_0 : w.heap.size < w3.heap.size := by omega
  have hn3_0 : ¬ w.heap.size = (w.heap.size + 1) := by omega
  have kb3_0_0 : w3.cell? ⟨w.heap.size, 0, none⟩ = some (.int .i64 0) := by go_simp
  have kf3_0_0 : w3.frozen? ⟨w.heap.size, 0, none⟩ = false := by go_simp
  have kb3_0_1 : w3.cell? ⟨w.heap.size, 1, none⟩ = some (.int .i64 0) := by go_simp
  have kf3_0_1 : w3.frozen? ⟨w.heap.size, 1, none⟩ = false := by go_simp
  clear hc3 hf3
  go_wp2
  refine bodyPost_ret (v := pr (v2 - 6) (v3 - 6)) (by simp [results, Try.results13, go_sem, kb3_0_0, kb3_0_1]) rfl ⟨_, _, rfl, by omega, by omega, by omega, by omega, ?_⟩
  (repeat (first | exact Below.refl _ _ | refine Below.setCell ?_ (by first | omega | (simp <;> omega)) _ | refine Below.alloc ?_ (by first | omega | (simp <;> omega)) _ | refine Below.drew ?_ | refine Below.trans ?_ (Below.mono (by assumption) (by first | omega | (simp <;> omega))) | refine Below.grown ?_ (by assumption) (by first | omega | (simp <;> omega)) (fun k e => by cases e; first | omega | (simp <;> omega))))
set_option maxHeartbeats 2000000 in
theorem drawWeightOf_any (w : World) (a : Option Addr) (len cap : Nat) (zs : List Int) (h : IsRow w a len cap zs) :
    Calls Try.prog 25 #[.slice a len cap] w (DrawnPair w) := by
  go_enter Try.func25, Try.ntmps25
  go_wp2_with fail
  refine (open_any _ _ _ _ zs (h.below ((Below.refl _ _).alloc (Nat.le_refl _) _))).mono ?_
  rintro e w1 ⟨rfl, hR1, hh1, hzR1⟩
  try simp only [World.size_alloc] at hzR1
  try simp only [World.size_alloc] at hR1
  obtain ⟨hc1, hf1⟩ := bcell hh1
  have hz1 := hh1.size
  try simp only [World.size_alloc] at hz1
  have hz1_0 : w.heap.size < w1.heap.size := by omega
  have kb1_0_0 : w1.cell? ⟨w.heap.size, 0, none⟩ = some (.int .i64 0) := by go_simp
  have kf1_0_0 : w1.frozen? ⟨w.heap.size, 0, none⟩ = false := by go_simp
  have kb1_0_1 : w1.cell? ⟨w.heap.size, 1, none⟩ = some (.int .i64 0) := by go_simp
  have kf1_0_1 : w1.frozen? ⟨w.heap.size, 1, none⟩ = false := by go_simp
  clear hc1 hf1
  go_wp2_with fail
  refine (l20Pair_any (w.heap.size + 1) 0 9 _ hR1 (by omega) (by omega)).mono ?_
  rintro e w2 ⟨p2, q2, rfl, pa2, pb2, qa2, qb2, hR2, hh2⟩
  obtain ⟨hc2, hf2⟩ := gcell hh2
  have hz2 := hh2.size
  try simp only [World.size_alloc] at hz2
  have hz2_0 : w.heap.size < w2.heap.size := by omega
  have hn2_0 : ¬ w.heap.size = (w.heap.size + 1) := by omega
  have kb2_0_0 : w2.cell? ⟨w.heap.size, 0, none⟩ = some (.int .i64 0) := by go_simp
  have kf2_0_0 : w2.frozen? ⟨w.heap.size, 0, none⟩ = false := by go_simp
  have kb2_0_1 : w2.cell? ⟨w.heap.size, 1, none⟩ = some (.int .i64 0) := by go_simp
  have kf2_0_1 : w2.frozen? ⟨w.heap.size, 1, none⟩ = false := by go_simp
  clear hc2 hf2
  go_wp2
  refine bodyPost_ret (v := pr p2 q2) (by simp [results, Try.results25, go_sem, kb2_0_0, kb2_0_1]) rfl ⟨_, _, rfl, by omega, by omega, by omega, by omega, ?_⟩
  (repeat (first | exact Below.refl _ _ | refine Below.setCell ?_ (by first | omega | (simp <;> omega)) _ | refine Below.alloc ?_ (by first | omega | (simp <;> omega)) _ | refine Below.drew ?_ | refine Below.trans ?_ (Below.mono (by assumption) (by first | omega | (simp <;> omega))) | refine Below.grown ?_ (by assumption) (by first | omega | (simp <;> omega)) (fun k e => by cases e; first | omega | (simp <;> omega))))
set_option maxHeartbeats 2000000 in
theorem drawTurnedOf_any (w : World) (a : Option Addr) (len cap : Nat) (zs : List Int) (h : IsRow w a len cap zs) :
    Calls Try.prog 28 #[.slice a len cap] w (DrawnPair w) := by
  go_enter Try.func28, Try.ntmps28
  go_wp2_with fail
  refine (open_any _ _ _ _ zs (h.below ((Below.refl _ _).alloc (Nat.le_refl _) _))).mono ?_
  rintro e w1 ⟨rfl, hR1, hh1, hzR1⟩
  try simp only [World.size_alloc] at hzR1
  try simp only [World.size_alloc] at hR1
  obtain ⟨hc1, hf1⟩ := bcell hh1
  have hz1 := hh1.size
  try simp only [World.size_alloc] at hz1
  have hz1_0 : w.heap.size < w1.heap.size := by omega
  have kb1_0_0 : w1.cell? ⟨w.heap.size, 0, none⟩ = some (.int .i64 0) := by go_simp
  have kf1_0_0 : w1.frozen? ⟨w.heap.size, 0, none⟩ = false := by go_simp
  have kb1_0_1 : w1.cell? ⟨w.heap.size, 1, none⟩ = some (.int .i64 0) := by go_simp
  have kf1_0_1 : w1.frozen? ⟨w.heap.size, 1, none⟩ = false := by go_simp
  clear hc1 hf1
  go_wp2_with fail
  refine (l20Pair_any (w.heap.size + 1) 0 9 _ hR1 (by omega) (by omega)).mono ?_
  rintro e w2 ⟨p2, q2, rfl, pa2, pb2, qa2, qb2, hR2, hh2⟩
  obtain ⟨hc2, hf2⟩ := gcell hh2
  have hz2 := hh2.size
  try simp only [World.size_alloc] at hz2
  have hz2_0 : w.heap.size < w2.heap.size := by omega
  have hn2_0 : ¬ w.heap.size = (w.heap.size + 1) := by omega
  have kb2_0_0 : w2.cell? ⟨w.heap.size, 0, none⟩ = some (.int .i64 0) := by go_simp
  have kf2_0_0 : w2.frozen? ⟨w.heap.size, 0, none⟩ = false := by go_simp
  have kb2_0_1 : w2.cell? ⟨w.heap.size, 1, none⟩ = some (.int .i64 0) := by go_simp
  have kf2_0_1 : w2.frozen? ⟨w.heap.size, 1, none⟩ = false := by go_simp
  clear hc2 hf2
  go_wp2
  refine bodyPost_ret (v := pr p2 q2) (by simp [results, Try.results28, go_sem, kb2_0_0, kb2_0_1]) rfl ⟨_, _, rfl, by omega, by omega, by omega, by omega, ?_⟩
  (repeat (first | exact Below.refl _ _ | refine Below.setCell ?_ (by first | omega | (simp <;> omega)) _ | refine Below.alloc ?_ (by first | omega | (simp <;> omega)) _ | refine Below.drew ?_ | refine Below.trans ?_ (Below.mono (by assumption) (by first | omega | (simp <;> omega))) | refine Below.grown ?_ (by assumption) (by first | omega | (simp <;> omega)) (fun k e => by cases e; first | omega | (simp <;> omega))))
set_option maxHeartbeats 2000000 in
theorem drawFirstAt_any (w : World) (a : Option Addr) (len cap : Nat) (zs : List Int) (h : IsRow w a len cap zs) :
    Calls Try.prog 17 #[.slice a len cap] w (DrawnPlace w) := by
  go_enter Try.func17, Try.ntmps17
  go_wp2_with fail
  refine (open_any _ _ _ _ zs (h.below ((Below.refl _ _).alloc (Nat.le_refl _) _))).mono ?_
  rintro e w1 ⟨rfl, hR1, hh1, hzR1⟩
  try simp only [World.size_alloc] at hzR1
  try simp only [World.size_alloc] at hR1
  obtain ⟨hc1, hf1⟩ := bcell hh1
  have hz1 := hh1.size
  try simp only [World.size_alloc] at hz1
  have hz1_0 : w.heap.size < w1.heap.size := by omega
  have kb1_0_0 : w1.cell? ⟨w.heap.size, 0, none⟩ = some (.int .i64 0) := by go_simp
  have kf1_0_0 : w1.frozen? ⟨w.heap.size, 0, none⟩ = false := by go_simp
  have kb1_0_1 : w1.cell? ⟨w.heap.size, 1, none⟩ = some (.int .i64 0) := by go_simp
  have kf1_0_1 : w1.frozen? ⟨w.heap.size, 1, none⟩ = false := by go_simp
  clear hc1 hf1
  go_wp2_with fail
  refine (l20Place_any (w.heap.size + 1) 0 _ hR1 (by omega)).mono ?_
  rintro e w2 ⟨p2, q2, n2, rfl, pa2, pb2, qa2, qb2, na2, nb2, hR2, hh2⟩
  obtain ⟨hc2, hf2⟩ := gcell hh2
  have hz2 := hh2.size
  try simp only [World.size_alloc] at hz2
  have hz2_0 : w.heap.size < w2.heap.size := by omega
  have hn2_0 : ¬ w.heap.size = w.heap.size + 1 := by omega
  have kb2_0_0 : w2.cell? ⟨w.heap.size, 0, none⟩ = some (.int .i64 0) := by go_simp
  have kf2_0_0 : w2.frozen? ⟨w.heap.size, 0, none⟩ = false := by go_simp
  have kb2_0_1 : w2.cell? ⟨w.heap.size, 1, none⟩ = some (.int .i64 0) := by go_simp
  have kf2_0_1 : w2.frozen? ⟨w.heap.size, 1, none⟩ = false := by go_simp
  clear hc2 hf2
  go_wp2
  refine bodyPost_ret (v := .tuple #[pr p2 q2, .int .i64 n2]) (by simp [results, Try.results17, go_sem, kb2_0_0, kb2_0_1]) rfl ⟨_, _, _, rfl, by omega, by omega, by omega, by omega, by omega, by omega, ?_⟩
  (repeat (first | exact Below.refl _ _ | refine Below.setCell ?_ (by first | omega | (simp <;> omega)) _ | refine Below.alloc ?_ (by first | omega | (simp <;> omega)) _ | refine Below.drew ?_ | refine Below.trans ?_ (Below.mono (by assumption) (by first | omega | (simp <;> omega))) | refine Below.grown ?_ (by assumption) (by first | omega | (simp <;> omega)) (fun k e => by cases e; first | omega | (simp <;> omega))))
set_option maxHeartbeats 2000000 in
theorem drawSecondAt_any (w : World) (a : Option Addr) (len cap : Nat) (zs : List Int) (h : IsRow w a len cap zs) :
    Calls Try.prog 20 #[.slice a len cap] w (DrawnPlace w) := by
  go_enter Try.func20, Try.ntmps20
  go_wp2_with fail
  refine (open_any _ _ _ _ zs (h.below ((Below.refl _ _).alloc (Nat.le_refl _) _))).mono ?_
  rintro e w1 ⟨rfl, hR1, hh1, hzR1⟩
  try simp only [World.size_alloc] at hzR1
  try simp only [World.size_alloc] at hR1
  obtain ⟨hc1, hf1⟩ := bcell hh1
  have hz1 := hh1.size
  try simp only [World.size_alloc] at hz1
  have hz1_0 : w.heap.size < w1.heap.size := by omega
  have kb1_0_0 : w1.cell? ⟨w.heap.size, 0, none⟩ = some (.int .i64 0) := by go_simp
  have kf1_0_0 : w1.frozen? ⟨w.heap.size, 0, none⟩ = false := by go_simp
  have kb1_0_1 : w1.cell? ⟨w.heap.size, 1, none⟩ = some (.int .i64 0) := by go_simp
  have kf1_0_1 : w1.frozen? ⟨w.heap.size, 1, none⟩ = false := by go_simp
  clear hc1 hf1
  go_wp2_with fail
  refine (l20Place_any (w.heap.size + 1) 0 _ hR1 (by omega)).mono ?_
  rintro e w2 ⟨p2, q2, n2, rfl, pa2, pb2, qa2, qb2, na2, nb2, hR2, hh2⟩
  obtain ⟨hc2, hf2⟩ := gcell hh2
  have hz2 := hh2.size
  try simp only [World.size_alloc] at hz2
  have hz2_0 : w.heap.size < w2.heap.size := by omega
  have hn2_0 : ¬ w.heap.size = w.heap.size + 1 := by omega
  have kb2_0_0 : w2.cell? ⟨w.heap.size, 0, none⟩ = some (.int .i64 0) := by go_simp
  have kf2_0_0 : w2.frozen? ⟨w.heap.size, 0, none⟩ = false := by go_simp
  have kb2_0_1 : w2.cell? ⟨w.heap.size, 1, none⟩ = some (.int .i64 0) := by go_simp
  have kf2_0_1 : w2.frozen? ⟨w.heap.size, 1, none⟩ = false := by go_simp
  clear hc2 hf2
  go_wp2
  refine bodyPost_ret (v := .tuple #[pr p2 q2, .int .i64 n2]) (by simp [results, Try.results20, go_sem, kb2_0_0, kb2_0_1]) rfl ⟨_, _, _, rfl, by omega, by omega, by omega, by omega, by omega, by omega, ?_⟩
  (repeat (first | exact Below.refl _ _ | refine Below.setCell ?_ (by first | omega | (simp <;> omega)) _ | refine Below.alloc ?_ (by first | omega | (simp <;> omega)) _ | refine Below.drew ?_ | refine Below.trans ?_ (Below.mono (by assumption) (by first | omega | (simp <;> omega))) | refine Below.grown ?_ (by assumption) (by first | omega | (simp <;> omega)) (fun k e => by cases e; first | omega | (simp <;> omega))))
end Go.Proofs.Ytngmkepoppoomaa
