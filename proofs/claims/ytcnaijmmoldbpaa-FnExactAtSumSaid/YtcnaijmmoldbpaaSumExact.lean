/- The walks of the exact laws on AtSum, AtTwice, AboutOf, SumTo: both sides return the same. -/
import Derived.Test.YtcnaijmmoldbpaaSumImpl
import Derived.Test.YtcnaijmmoldbpaaSumSpec
namespace Go.Proofs.Ytcnaijmmoldbpaa
open Go.RowKit
set_option maxHeartbeats 1000000 in
theorem fnExactAtSum_walk (a b n m : Int) (w : World) (_ : (Lit.int .i64 a).wf = true) (_ : (Lit.int .i64 b).wf = true) (_ : (Lit.int .i64 n).wf = true) (_ : (Lit.int .i64 m).wf = true) :
    Calls Try.prog 7 #[pr a b, .int .i64 n, .int .i64 m] w fun e w' => e = .returned (.bool true) ∧ Below w.heap.size w w' := by
  go_enter Try.func7, Try.ntmps7
  go_wp2_with fail
  refine (toPair_any _ _ _).mono ?_
  rintro e w1 ⟨rfl, hh1⟩
  obtain ⟨hc1, hf1⟩ := bcell hh1
  have hz1 := hh1.size
  try simp only [World.size_alloc] at hz1
  have hz1_0 : w.heap.size < w1.heap.size := by omega
  have kb1_0_0 : w1.cell? ⟨w.heap.size, 0, none⟩ = some (.int .i64 a) := by go_simp
  have kf1_0_0 : w1.frozen? ⟨w.heap.size, 0, none⟩ = false := by go_simp
  have kb1_0_1 : w1.cell? ⟨w.heap.size, 1, none⟩ = some (.int .i64 b) := by go_simp
  have kf1_0_1 : w1.frozen? ⟨w.heap.size, 1, none⟩ = false := by go_simp
  clear hc1 hf1
  go_wp2_with fail
  refine (specAtSum_any _ _ _ _ _).mono ?_
  rintro e w2 ⟨rfl, hh2⟩
  obtain ⟨hc2, hf2⟩ := bcell hh2
  have hz2 := hh2.size
  try simp only [World.size_alloc] at hz2
  have hz2_0 : w.heap.size < w2.heap.size := by omega
  have kb2_0_0 : w2.cell? ⟨w.heap.size, 0, none⟩ = some (.int .i64 a) := by go_simp
  have kf2_0_0 : w2.frozen? ⟨w.heap.size, 0, none⟩ = false := by go_simp
  have kb2_0_1 : w2.cell? ⟨w.heap.size, 1, none⟩ = some (.int .i64 b) := by go_simp
  have kf2_0_1 : w2.frozen? ⟨w.heap.size, 1, none⟩ = false := by go_simp
  clear hc2 hf2
  go_wp2_with fail
  refine (toPair_any _ _ _).mono ?_
  rintro e w3 ⟨rfl, hh3⟩
  obtain ⟨hc3, hf3⟩ := bcell hh3
  have hz3 := hh3.size
  try simp only [World.size_alloc] at hz3
  have hz3_0 : w.heap.size < w3.heap.size := by omega
  have kb3_0_0 : w3.cell? ⟨w.heap.size, 0, none⟩ = some (.int .i64 a) := by go_simp
  have kf3_0_0 : w3.frozen? ⟨w.heap.size, 0, none⟩ = false := by go_simp
  have kb3_0_1 : w3.cell? ⟨w.heap.size, 1, none⟩ = some (.int .i64 b) := by go_simp
  have kf3_0_1 : w3.frozen? ⟨w.heap.size, 1, none⟩ = false := by go_simp
  clear hc3 hf3
  go_wp2_with fail
  refine (implAtSum_any _ _ _ _ _).mono ?_
  rintro e w4 ⟨rfl, hh4⟩
  obtain ⟨hc4, hf4⟩ := bcell hh4
  have hz4 := hh4.size
  try simp only [World.size_alloc] at hz4
  have hz4_0 : w.heap.size < w4.heap.size := by omega
  have kb4_0_0 : w4.cell? ⟨w.heap.size, 0, none⟩ = some (.int .i64 a) := by go_simp
  have kf4_0_0 : w4.frozen? ⟨w.heap.size, 0, none⟩ = false := by go_simp
  have kb4_0_1 : w4.cell? ⟨w.heap.size, 1, none⟩ = some (.int .i64 b) := by go_simp
  have kf4_0_1 : w4.frozen? ⟨w.heap.size, 1, none⟩ = false := by go_simp
  clear hc4 hf4
  go_wp2
  go_ret
  exact ⟨rfl, by (repeat (first | exact Below.refl _ _ | refine Below.setCell ?_ (by first | omega | (simp <;> omega)) _ | refine Below.alloc ?_ (by first | omega | (simp <;> omega)) _ | refine Below.drew ?_ | refine Below.trans ?_ (Below.mono (by assumption) (by first | omega | (simp <;> omega))) | refine Below.grown ?_ (by assumption) (by first | omega | (simp <;> omega)) (fun k e => by cases e; first | omega | (simp <;> omega))))⟩
set_option maxHeartbeats 1000000 in
theorem fnExactAtTwice_walk (a b n : Int) (w : World) (_ : (Lit.int .i64 a).wf = true) (_ : (Lit.int .i64 b).wf = true) (_ : (Lit.int .i64 n).wf = true) :
    Calls Try.prog 8 #[pr a b, .int .i64 n] w fun e w' => e = .returned (.bool true) ∧ Below w.heap.size w w' := by
  go_enter Try.func8, Try.ntmps8
  go_wp2_with fail
  refine (toPair_any _ _ _).mono ?_
  rintro e w1 ⟨rfl, hh1⟩
  obtain ⟨hc1, hf1⟩ := bcell hh1
  have hz1 := hh1.size
  try simp only [World.size_alloc] at hz1
  have hz1_0 : w.heap.size < w1.heap.size := by omega
  have kb1_0_0 : w1.cell? ⟨w.heap.size, 0, none⟩ = some (.int .i64 a) := by go_simp
  have kf1_0_0 : w1.frozen? ⟨w.heap.size, 0, none⟩ = false := by go_simp
  have kb1_0_1 : w1.cell? ⟨w.heap.size, 1, none⟩ = some (.int .i64 b) := by go_simp
  have kf1_0_1 : w1.frozen? ⟨w.heap.size, 1, none⟩ = false := by go_simp
  clear hc1 hf1
  go_wp2_with fail
  refine (specAtTwice_any _ _ _ _).mono ?_
  rintro e w2 ⟨rfl, hh2⟩
  obtain ⟨hc2, hf2⟩ := bcell hh2
  have hz2 := hh2.size
  try simp only [World.size_alloc] at hz2
  have hz2_0 : w.heap.size < w2.heap.size := by omega
  have kb2_0_0 : w2.cell? ⟨w.heap.size, 0, none⟩ = some (.int .i64 a) := by go_simp
  have kf2_0_0 : w2.frozen? ⟨w.heap.size, 0, none⟩ = false := by go_simp
  have kb2_0_1 : w2.cell? ⟨w.heap.size, 1, none⟩ = some (.int .i64 b) := by go_simp
  have kf2_0_1 : w2.frozen? ⟨w.heap.size, 1, none⟩ = false := by go_simp
  clear hc2 hf2
  go_wp2_with fail
  refine (toPair_any _ _ _).mono ?_
  rintro e w3 ⟨rfl, hh3⟩
  obtain ⟨hc3, hf3⟩ := bcell hh3
  have hz3 := hh3.size
  try simp only [World.size_alloc] at hz3
  have hz3_0 : w.heap.size < w3.heap.size := by omega
  have kb3_0_0 : w3.cell? ⟨w.heap.size, 0, none⟩ = some (.int .i64 a) := by go_simp
  have kf3_0_0 : w3.frozen? ⟨w.heap.size, 0, none⟩ = false := by go_simp
  have kb3_0_1 : w3.cell? ⟨w.heap.size, 1, none⟩ = some (.int .i64 b) := by go_simp
  have kf3_0_1 : w3.frozen? ⟨w.heap.size, 1, none⟩ = false := by go_simp
  clear hc3 hf3
  go_wp2_with fail
  refine (implAtTwice_any _ _ _ _).mono ?_
  rintro e w4 ⟨rfl, hh4⟩
  obtain ⟨hc4, hf4⟩ := bcell hh4
  have hz4 := hh4.size
  try simp only [World.size_alloc] at hz4
  have hz4_0 : w.heap.size < w4.heap.size := by omega
  have kb4_0_0 : w4.cell? ⟨w.heap.size, 0, none⟩ = some (.int .i64 a) := by go_simp
  have kf4_0_0 : w4.frozen? ⟨w.heap.size, 0, none⟩ = false := by go_simp
  have kb4_0_1 : w4.cell? ⟨w.heap.size, 1, none⟩ = some (.int .i64 b) := by go_simp
  have kf4_0_1 : w4.frozen? ⟨w.heap.size, 1, none⟩ = false := by go_simp
  clear hc4 hf4
  go_wp2
  go_ret
  exact ⟨rfl, by (repeat (first | exact Below.refl _ _ | refine Below.setCell ?_ (by first | omega | (simp <;> omega)) _ | refine Below.alloc ?_ (by first | omega | (simp <;> omega)) _ | refine Below.drew ?_ | refine Below.trans ?_ (Below.mono (by assumption) (by first | omega | (simp <;> omega))) | refine Below.grown ?_ (by assumption) (by first | omega | (simp <;> omega)) (fun k e => by cases e; first | omega | (simp <;> omega))))⟩
set_option maxHeartbeats 1000000 in
theorem fnExactAboutOf_walk (a b n m : Int) (w : World) (_ : (Lit.int .i64 a).wf = true) (_ : (Lit.int .i64 b).wf = true) (_ : (Lit.int .i64 n).wf = true) (_ : (Lit.int .i64 m).wf = true) :
    Calls Try.prog 9 #[pr a b, .int .i64 n, .int .i64 m] w fun e w' => e = .returned (.bool true) ∧ Below w.heap.size w w' := by
  go_enter Try.func9, Try.ntmps9
  go_wp2_with fail
  refine (toPair_any _ _ _).mono ?_
  rintro e w1 ⟨rfl, hh1⟩
  obtain ⟨hc1, hf1⟩ := bcell hh1
  have hz1 := hh1.size
  try simp only [World.size_alloc] at hz1
  have hz1_0 : w.heap.size < w1.heap.size := by omega
  have kb1_0_0 : w1.cell? ⟨w.heap.size, 0, none⟩ = some (.int .i64 a) := by go_simp
  have kf1_0_0 : w1.frozen? ⟨w.heap.size, 0, none⟩ = false := by go_simp
  have kb1_0_1 : w1.cell? ⟨w.heap.size, 1, none⟩ = some (.int .i64 b) := by go_simp
  have kf1_0_1 : w1.frozen? ⟨w.heap.size, 1, none⟩ = false := by go_simp
  clear hc1 hf1
  go_wp2_with fail
  refine (specAboutOf_any _ _ _ _ _).mono ?_
  rintro e w2 ⟨rfl, hh2⟩
  obtain ⟨hc2, hf2⟩ := bcell hh2
  have hz2 := hh2.size
  try simp only [World.size_alloc] at hz2
  have hz2_0 : w.heap.size < w2.heap.size := by omega
  have kb2_0_0 : w2.cell? ⟨w.heap.size, 0, none⟩ = some (.int .i64 a) := by go_simp
  have kf2_0_0 : w2.frozen? ⟨w.heap.size, 0, none⟩ = false := by go_simp
  have kb2_0_1 : w2.cell? ⟨w.heap.size, 1, none⟩ = some (.int .i64 b) := by go_simp
  have kf2_0_1 : w2.frozen? ⟨w.heap.size, 1, none⟩ = false := by go_simp
  clear hc2 hf2
  go_wp2_with fail
  refine (toPair_any _ _ _).mono ?_
  rintro e w3 ⟨rfl, hh3⟩
  obtain ⟨hc3, hf3⟩ := bcell hh3
  have hz3 := hh3.size
  try simp only [World.size_alloc] at hz3
  have hz3_0 : w.heap.size < w3.heap.size := by omega
  have kb3_0_0 : w3.cell? ⟨w.heap.size, 0, none⟩ = some (.int .i64 a) := by go_simp
  have kf3_0_0 : w3.frozen? ⟨w.heap.size, 0, none⟩ = false := by go_simp
  have kb3_0_1 : w3.cell? ⟨w.heap.size, 1, none⟩ = some (.int .i64 b) := by go_simp
  have kf3_0_1 : w3.frozen? ⟨w.heap.size, 1, none⟩ = false := by go_simp
  clear hc3 hf3
  go_wp2_with fail
  refine (implAboutOf_any _ _ _ _ _).mono ?_
  rintro e w4 ⟨rfl, hh4⟩
  obtain ⟨hc4, hf4⟩ := bcell hh4
  have hz4 := hh4.size
  try simp only [World.size_alloc] at hz4
  have hz4_0 : w.heap.size < w4.heap.size := by omega
  have kb4_0_0 : w4.cell? ⟨w.heap.size, 0, none⟩ = some (.int .i64 a) := by go_simp
  have kf4_0_0 : w4.frozen? ⟨w.heap.size, 0, none⟩ = false := by go_simp
  have kb4_0_1 : w4.cell? ⟨w.heap.size, 1, none⟩ = some (.int .i64 b) := by go_simp
  have kf4_0_1 : w4.frozen? ⟨w.heap.size, 1, none⟩ = false := by go_simp
  clear hc4 hf4
  go_wp2
  go_ret
  exact ⟨rfl, by (repeat (first | exact Below.refl _ _ | refine Below.setCell ?_ (by first | omega | (simp <;> omega)) _ | refine Below.alloc ?_ (by first | omega | (simp <;> omega)) _ | refine Below.drew ?_ | refine Below.trans ?_ (Below.mono (by assumption) (by first | omega | (simp <;> omega))) | refine Below.grown ?_ (by assumption) (by first | omega | (simp <;> omega)) (fun k e => by cases e; first | omega | (simp <;> omega))))⟩
set_option maxHeartbeats 1000000 in
theorem fnExactSumTo_walk (a b n : Int) (w : World) (_ : (Lit.int .i64 a).wf = true) (_ : (Lit.int .i64 b).wf = true) (_ : (Lit.int .i64 n).wf = true) :
    Calls Try.prog 10 #[pr a b, .int .i64 n] w fun e w' => e = .returned (.bool true) ∧ Below w.heap.size w w' := by
  go_enter Try.func10, Try.ntmps10
  go_wp2_with fail
  refine (toPair_any _ _ _).mono ?_
  rintro e w1 ⟨rfl, hh1⟩
  obtain ⟨hc1, hf1⟩ := bcell hh1
  have hz1 := hh1.size
  try simp only [World.size_alloc] at hz1
  have hz1_0 : w.heap.size < w1.heap.size := by omega
  have kb1_0_0 : w1.cell? ⟨w.heap.size, 0, none⟩ = some (.int .i64 a) := by go_simp
  have kf1_0_0 : w1.frozen? ⟨w.heap.size, 0, none⟩ = false := by go_simp
  have kb1_0_1 : w1.cell? ⟨w.heap.size, 1, none⟩ = some (.int .i64 b) := by go_simp
  have kf1_0_1 : w1.frozen? ⟨w.heap.size, 1, none⟩ = false := by go_simp
  clear hc1 hf1
  go_wp2_with fail
  refine (specSumTo_any _ _ _ _).mono ?_
  rintro e w2 ⟨rfl, hh2⟩
  obtain ⟨hc2, hf2⟩ := bcell hh2
  have hz2 := hh2.size
  try simp only [World.size_alloc] at hz2
  have hz2_0 : w.heap.size < w2.heap.size := by omega
  have kb2_0_0 : w2.cell? ⟨w.heap.size, 0, none⟩ = some (.int .i64 a) := by go_simp
  have kf2_0_0 : w2.frozen? ⟨w.heap.size, 0, none⟩ = false := by go_simp
  have kb2_0_1 : w2.cell? ⟨w.heap.size, 1, none⟩ = some (.int .i64 b) := by go_simp
  have kf2_0_1 : w2.frozen? ⟨w.heap.size, 1, none⟩ = false := by go_simp
  clear hc2 hf2
  go_wp2_with fail
  refine (toPair_any _ _ _).mono ?_
  rintro e w3 ⟨rfl, hh3⟩
  obtain ⟨hc3, hf3⟩ := bcell hh3
  have hz3 := hh3.size
  try simp only [World.size_alloc] at hz3
  have hz3_0 : w.heap.size < w3.heap.size := by omega
  have kb3_0_0 : w3.cell? ⟨w.heap.size, 0, none⟩ = some (.int .i64 a) := by go_simp
  have kf3_0_0 : w3.frozen? ⟨w.heap.size, 0, none⟩ = false := by go_simp
  have kb3_0_1 : w3.cell? ⟨w.heap.size, 1, none⟩ = some (.int .i64 b) := by go_simp
  have kf3_0_1 : w3.frozen? ⟨w.heap.size, 1, none⟩ = false := by go_simp
  clear hc3 hf3
  go_wp2_with fail
  refine (implSumTo_any _ _ _ _).mono ?_
  rintro e w4 ⟨rfl, hh4⟩
  obtain ⟨hc4, hf4⟩ := bcell hh4
  have hz4 := hh4.size
  try simp only [World.size_alloc] at hz4
  have hz4_0 : w.heap.size < w4.heap.size := by omega
  have kb4_0_0 : w4.cell? ⟨w.heap.size, 0, none⟩ = some (.int .i64 a) := by go_simp
  have kf4_0_0 : w4.frozen? ⟨w.heap.size, 0, none⟩ = false := by go_simp
  have kb4_0_1 : w4.cell? ⟨w.heap.size, 1, none⟩ = some (.int .i64 b) := by go_simp
  have kf4_0_1 : w4.frozen? ⟨w.heap.size, 1, none⟩ = false := by go_simp
  clear hc4 hf4
  go_wp2
  go_ret
  exact ⟨rfl, by (repeat (first | exact Below.refl _ _ | refine Below.setCell ?_ (by first | omega | (simp <;> omega)) _ | refine Below.alloc ?_ (by first | omega | (simp <;> omega)) _ | refine Below.drew ?_ | refine Below.trans ?_ (Below.mono (by assumption) (by first | omega | (simp <;> omega))) | refine Below.grown ?_ (by assumption) (by first | omega | (simp <;> omega)) (fun k e => by cases e; first | omega | (simp <;> omega))))⟩
end Go.Proofs.Ytcnaijmmoldbpaa
