/- The draw of a pair: one of three fixed ones, or one with both numbers in -4..4, or one of three that are none. -/
import Derived.Test.YtennicmmjbfljaaDrawsOne
namespace Go.Proofs.Ytennicmmjbfljaa
open Go.RowKit
theorem gr_refl (w : World) (R : Nat) : w.grownBy w (some R) := ⟨rfl, rfl, rfl, Nat.le_refl _, fun _ _ _ => rfl⟩
theorem gr_trans {w w1 w2 : World} {R : Nat} (h : w.grownBy w1 (some R)) (k : w1.grownBy w2 (some R)) : w.grownBy w2 (some R) :=
  ⟨k.os.trans h.os, k.tape.trans h.tape, k.output.trans h.output, Nat.le_trans h.size k.size, fun j hj hne => (k.block j (Nat.lt_of_lt_of_le hj h.size) hne).trans (h.block j hj hne)⟩
theorem gr_below {w w1 w2 : World} {R : Nat} (h : w.grownBy w1 (some R)) (k : Below w1.heap.size w1 w2) : w.grownBy w2 (some R) :=
  ⟨k.os.trans h.os, k.tape.trans h.tape, k.output.trans h.output, Nat.le_trans h.size k.size, fun j hj hne => (k.block j (Nat.lt_of_lt_of_le hj h.size)).trans (h.block j hj hne)⟩
theorem gr_alloc {w w1 : World} {R : Nat} (h : w.grownBy w1 (some R)) (o : Obj) : w.grownBy (w1.alloc o) (some R) := gr_below h ((Below.refl _ _).alloc (Nat.le_refl _) o)
theorem gr_set {w w1 : World} {R : Nat} (h : w.grownBy w1 (some R)) {p : Addr} (hp : w.heap.size ≤ p.block) (v : Value) : w.grownBy (w1.setCell p v) (some R) :=
  ⟨h.os, h.tape, h.output, by simpa [World.setCell] using h.size, fun j hj hne => (Below.heap_setCell _ _ _ _ (by omega)).trans (h.block j hj hne)⟩
theorem gr_drew {w w1 : World} {R : Nat} (h : w.grownBy w1 (some R)) : w.grownBy w1.drew (some R) := ⟨h.os, h.tape, h.output, h.size, h.block⟩
theorem seven {v : Int} (h0 : 0 ≤ v) (h1 : v ≤ 6) : v = 0 ∨ v = 1 ∨ v = 2 ∨ v = 3 ∨ v = 4 ∨ v = 5 ∨ v = 6 := by omega
theorem three {v : Int} (h0 : 0 ≤ v) (h1 : v ≤ 2) : v = 0 ∨ v = 1 ∨ v = 2 := by omega
set_option maxHeartbeats 4000000 in
theorem l20Pair_any (R k : Nat) (n : Int) (w : World) (h : Rd w R k) (hk : k ≤ 100000000) (hn : n ≤ 1000000) :
    Calls Try.prog 38 #[.pointer (some ⟨R, 0, none⟩), .int .i64 n] w (PairDrawn w R k 5) := by
  have hRlt := h.lt
  have hR0 : Rd (w.alloc (.cells #[.int .i64 0, .int .i64 0] 24)) R k := h.below ((Below.refl _ _).alloc (Nat.le_refl _) _) (Nat.le_refl _)
  go_enter Try.func38, Try.ntmps38
  go_wp2_with fail
  refine (pick_any R k 9 _ hR0 (by omega) (by omega)).mono ?_
  rintro e w1 ⟨v1, rfl, va1, vb1, hR1, hh1⟩
  have vc1 : v1 ≤ max (9 - 1) 0 := by omega
  clear vb1
  obtain ⟨hc1, hf1⟩ := gcell hh1
  have hz1 := hh1.size
  try simp only [World.size_alloc] at hz1
  have hz1_0 : w.heap.size < w1.heap.size := by omega
  have hn1_0 : ¬ w.heap.size = R := by omega
  have kb1_0_0 : w1.cell? ⟨w.heap.size, 0, none⟩ = some (.int .i64 0) := by go_simp
  have kf1_0_0 : w1.frozen? ⟨w.heap.size, 0, none⟩ = false := by go_simp
  have kb1_0_1 : w1.cell? ⟨w.heap.size, 1, none⟩ = some (.int .i64 0) := by go_simp
  have kf1_0_1 : w1.frozen? ⟨w.heap.size, 1, none⟩ = false := by go_simp
  clear hc1 hf1
  go_wp2_with fail
  refine (pick_any R (k + 1) 9 _ hR1 (by omega) (by omega)).mono ?_
  rintro e w2 ⟨v2, rfl, va2, vb2, hR2, hh2⟩
  have vc2 : v2 ≤ max (9 - 1) 0 := by omega
  clear vb2
  obtain ⟨hc2, hf2⟩ := gcell hh2
  have hz2 := hh2.size
  try simp only [World.size_alloc] at hz2
  have hz2_0 : w.heap.size < w2.heap.size := by omega
  have hn2_0 : ¬ w.heap.size = R := by omega
  have kb2_0_0 : w2.cell? ⟨w.heap.size, 0, none⟩ = some (.int .i64 0) := by go_simp
  have kf2_0_0 : w2.frozen? ⟨w.heap.size, 0, none⟩ = false := by go_simp
  have kb2_0_1 : w2.cell? ⟨w.heap.size, 1, none⟩ = some (.int .i64 0) := by go_simp
  have kf2_0_1 : w2.frozen? ⟨w.heap.size, 1, none⟩ = false := by go_simp
  clear hc2 hf2
  go_wp2_with fail
  refine (pick_any R (k + 1 + 1) 7 _ (hR2.below ((Below.refl _ _).alloc (Nat.le_refl _) _) (Nat.le_refl _)) (by omega) (by omega)).mono ?_
  rintro e w3 ⟨v3, rfl, va3, vb3, hR3, hh3⟩
  have vc3 : v3 ≤ max (7 - 1) 0 := by omega
  clear vb3
  obtain ⟨hc3, hf3⟩ := gcell hh3
  have hz3 := hh3.size
  try simp only [World.size_alloc] at hz3
  have hz3_0 : w.heap.size < w3.heap.size := by omega
  have hz3_1 : w2.heap.size < w3.heap.size := by omega
  have hn3_0 : ¬ w.heap.size = R := by omega
  have hn3_1 : ¬ w2.heap.size = R := by omega
  obtain ⟨a, b, ha0, ha1, hb0, hb1, cA, cB⟩ : ∃ a b : Int, -5 ≤ a ∧ a ≤ 100 ∧ -5 ≤ b ∧ b ≤ 100 ∧ w3.cell? ⟨w2.heap.size, (v3 / 2).toNat * 2, none⟩ = some (.int .i64 a) ∧ w3.cell? ⟨w2.heap.size, (v3 / 2).toNat * 2 + 1, none⟩ = some (.int .i64 b) := by
    rcases (show v3 / 2 = 0 ∨ v3 / 2 = 1 ∨ v3 / 2 = 2 ∨ v3 / 2 = 3 by omega) with e | e | e | e
    · rw [e]; exact ⟨1, -1, by omega, by omega, by omega, by omega, by go_simp, by go_simp⟩
    · rw [e]; exact ⟨2, -1, by omega, by omega, by omega, by omega, by go_simp, by go_simp⟩
    · rw [e]; exact ⟨3, 2, by omega, by omega, by omega, by omega, by go_simp, by go_simp⟩
    · rw [e]; exact ⟨v1 - 4, v2 - 4, by omega, by omega, by omega, by omega, by go_simp, by go_simp⟩
  have q0 : (0 : Int) ≤ v3 / 2 := by omega
  have q1 : v3 / 2 < 4 := by omega
  have kb3_0_0 : w3.cell? ⟨w.heap.size, 0, none⟩ = some (.int .i64 0) := by go_simp
  have kf3_0_0 : w3.frozen? ⟨w.heap.size, 0, none⟩ = false := by go_simp
  have kb3_0_1 : w3.cell? ⟨w.heap.size, 1, none⟩ = some (.int .i64 0) := by go_simp
  have kf3_0_1 : w3.frozen? ⟨w.heap.size, 1, none⟩ = false := by go_simp
  clear hc3 hf3
  go_wp2_with fail
  refine (odd_any R (k + 1 + 1 + 1) n _ (hR3.below ((Below.refl _ _).alloc (Nat.le_refl _) _) (Nat.le_refl _)) (by omega) hn).mono ?_
  rintro e w4 ⟨bb, rfl, hR4, hh4⟩
  obtain ⟨hc4, hf4⟩ := gcell hh4
  have hz4 := hh4.size
  try simp only [World.size_alloc] at hz4
  have hz4_0 : w.heap.size < w4.heap.size := by omega
  have hz4_1 : w3.heap.size < w4.heap.size := by omega
  have hn4_0 : ¬ w.heap.size = R := by omega
  have hn4_1 : ¬ w3.heap.size = R := by omega
  have kb4_0_0 : w4.cell? ⟨w.heap.size, 0, none⟩ = some (.int .i64 0) := by go_simp
  have kf4_0_0 : w4.frozen? ⟨w.heap.size, 0, none⟩ = false := by go_simp
  have kb4_0_1 : w4.cell? ⟨w.heap.size, 1, none⟩ = some (.int .i64 0) := by go_simp
  have kf4_0_1 : w4.frozen? ⟨w.heap.size, 1, none⟩ = false := by go_simp
  have kb4_1_0 : w4.cell? ⟨w3.heap.size, 0, none⟩ = some (.int .i64 a) := by go_simp
  have kf4_1_0 : w4.frozen? ⟨w3.heap.size, 0, none⟩ = false := by go_simp
  have kb4_1_1 : w4.cell? ⟨w3.heap.size, 1, none⟩ = some (.int .i64 b) := by go_simp
  have kf4_1_1 : w4.frozen? ⟨w3.heap.size, 1, none⟩ = false := by go_simp
  clear hc4 hf4
  cases bb with
  | false =>
    go_wp2
    refine bodyPost_ret (v := pr (a) (b)) (by simp [results, Try.results38, go_sem, kb4_0_0, kb4_0_1]) rfl ⟨_, _, rfl, by omega, by omega, by omega, by omega, ?_, ?_⟩
    · refine Rd.mono (k := k + 1 + 1 + 1 + 1) ?_ (show k + 1 + 1 + 1 + 1 ≤ k + 5 by omega)
      (repeat (first | assumption | refine Rd.set ?_ (by first | omega | (simp <;> omega)) _ | refine Rd.alloc ?_ _ | refine Rd.below ?_ (by assumption) (Nat.le_refl _)))
    · (repeat (first | exact gr_refl _ _ | refine gr_set ?_ (by first | omega | (simp <;> omega)) _ | refine gr_alloc ?_ _ | refine gr_trans ?_ (by assumption) | refine gr_below ?_ (by assumption)))
  | true =>
    go_wp2_with fail
    refine (pick_any R (k + 1 + 1 + 1 + 1) 3 _ (hR4.below ((Below.refl _ _).alloc (Nat.le_refl _) _) (Nat.le_refl _)) (by omega) (by omega)).mono ?_
    rintro e w5 ⟨v5, rfl, va5, vb5, hR5, hh5⟩
    have vc5 : v5 ≤ max (3 - 1) 0 := by omega
    clear vb5
    obtain ⟨hc5, hf5⟩ := gcell hh5
    have hz5 := hh5.size
    try simp only [World.size_alloc] at hz5
    have hz5_0 : w.heap.size < w5.heap.size := by omega
    have hz5_1 : w4.heap.size < w5.heap.size := by omega
    have hn5_0 : ¬ w.heap.size = R := by omega
    have hn5_1 : ¬ w4.heap.size = R := by omega
    have kb5_0_0 : w5.cell? ⟨w.heap.size, 0, none⟩ = some (.int .i64 0) := by go_simp
    have kf5_0_0 : w5.frozen? ⟨w.heap.size, 0, none⟩ = false := by go_simp
    have kb5_0_1 : w5.cell? ⟨w.heap.size, 1, none⟩ = some (.int .i64 0) := by go_simp
    have kf5_0_1 : w5.frozen? ⟨w.heap.size, 1, none⟩ = false := by go_simp
    have kb5_1_0 : w5.cell? ⟨w4.heap.size, 0, none⟩ = some (.int .i64 5) := by go_simp
    have kf5_1_0 : w5.frozen? ⟨w4.heap.size, 0, none⟩ = false := by go_simp
    have kb5_1_1 : w5.cell? ⟨w4.heap.size, 1, none⟩ = some (.int .i64 0) := by go_simp
    have kf5_1_1 : w5.frozen? ⟨w4.heap.size, 1, none⟩ = false := by go_simp
    have kb5_1_2 : w5.cell? ⟨w4.heap.size, 2, none⟩ = some (.int .i64 0) := by go_simp
    have kf5_1_2 : w5.frozen? ⟨w4.heap.size, 2, none⟩ = false := by go_simp
    have kb5_1_3 : w5.cell? ⟨w4.heap.size, 3, none⟩ = some (.int .i64 (-5)) := by go_simp
    have kf5_1_3 : w5.frozen? ⟨w4.heap.size, 3, none⟩ = false := by go_simp
    have kb5_1_4 : w5.cell? ⟨w4.heap.size, 4, none⟩ = some (.int .i64 100) := by go_simp
    have kf5_1_4 : w5.frozen? ⟨w4.heap.size, 4, none⟩ = false := by go_simp
    have kb5_1_5 : w5.cell? ⟨w4.heap.size, 5, none⟩ = some (.int .i64 100) := by go_simp
    have kf5_1_5 : w5.frozen? ⟨w4.heap.size, 5, none⟩ = false := by go_simp
    clear hc5 hf5
    rcases three va5 (by omega) with rfl | rfl | rfl
    · go_wp2
      refine bodyPost_ret (v := pr (5) (0)) (by simp [results, Try.results38, go_sem, kb5_0_0, kb5_0_1]) rfl ⟨_, _, rfl, by omega, by omega, by omega, by omega, ?_, ?_⟩
      · refine Rd.mono (k := k + 1 + 1 + 1 + 1 + 1) ?_ (show k + 1 + 1 + 1 + 1 + 1 ≤ k + 5 by omega)
        (repeat (first | assumption | refine Rd.set ?_ (by first | omega | (simp <;> omega)) _ | refine Rd.alloc ?_ _ | refine Rd.below ?_ (by assumption) (Nat.le_refl _)))
      · (repeat (first | exact gr_refl _ _ | refine gr_set ?_ (by first | omega | (simp <;> omega)) _ | refine gr_alloc ?_ _ | refine gr_trans ?_ (by assumption) | refine gr_below ?_ (by assumption)))
    · go_wp2
      refine bodyPost_ret (v := pr (0) (-5)) (by simp [results, Try.results38, go_sem, kb5_0_0, kb5_0_1]) rfl ⟨_, _, rfl, by omega, by omega, by omega, by omega, ?_, ?_⟩
      · refine Rd.mono (k := k + 1 + 1 + 1 + 1 + 1) ?_ (show k + 1 + 1 + 1 + 1 + 1 ≤ k + 5 by omega)
        (repeat (first | assumption | refine Rd.set ?_ (by first | omega | (simp <;> omega)) _ | refine Rd.alloc ?_ _ | refine Rd.below ?_ (by assumption) (Nat.le_refl _)))
      · (repeat (first | exact gr_refl _ _ | refine gr_set ?_ (by first | omega | (simp <;> omega)) _ | refine gr_alloc ?_ _ | refine gr_trans ?_ (by assumption) | refine gr_below ?_ (by assumption)))
    · go_wp2
      refine bodyPost_ret (v := pr (100) (100)) (by simp [results, Try.results38, go_sem, kb5_0_0, kb5_0_1]) rfl ⟨_, _, rfl, by omega, by omega, by omega, by omega, ?_, ?_⟩
      · refine Rd.mono (k := k + 1 + 1 + 1 + 1 + 1) ?_ (show k + 1 + 1 + 1 + 1 + 1 ≤ k + 5 by omega)
        (repeat (first | assumption | refine Rd.set ?_ (by first | omega | (simp <;> omega)) _ | refine Rd.alloc ?_ _ | refine Rd.below ?_ (by assumption) (Nat.le_refl _)))
      · (repeat (first | exact gr_refl _ _ | refine gr_set ?_ (by first | omega | (simp <;> omega)) _ | refine gr_alloc ?_ _ | refine gr_trans ?_ (by assumption) | refine gr_below ?_ (by assumption)))
end Go.Proofs.Ytennicmmjbfljaa
