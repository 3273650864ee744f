/- Contracts that the statement's proof stands on. -/
import Derived.Test.YtpogmnkedohdcaaAll1
import Derived.Test.YtpogmnkedohdcaaHvDrawRanked

namespace Go.Proofs.Ytpogmnkedohdcaa
open Go.RowKit
/-- What a draw of a pair and a number returns. -/
def DrawnPairNum (w : World) (e : Ending) (w' : World) : Prop :=
  ∃ p q a : Int, e = .returned (.tuple #[pr p q, .int .i64 a]) ∧ Below w.heap.size w w'
/-- What a draw of two numbers returns. -/
def DrawnNums (w : World) (e : Ending) (w' : World) : Prop :=
  ∃ a b : Int, e = .returned (.tuple #[.int .i64 a, .int .i64 b]) ∧ Below w.heap.size w w'
theorem two_get (v a b : Int) (h0 : 0 ≤ v) (h1 : v ≤ 1) : (#[.int .i64 a, .int .i64 b] : Array Value)[v.toNat]? = some (.int .i64 (if v = 0 then a else b)) := by
  rcases (show v = 0 ∨ v = 1 by omega) with e | e <;> simp [e]
theorem two_at (v a b : Int) (h : v.toNat < [Value.int .i64 a, Value.int .i64 b].length) (h0 : 0 ≤ v) (h1 : v ≤ 1) : [Value.int .i64 a, Value.int .i64 b][v.toNat]'h = .int .i64 (if v = 0 then a else b) := by
  have e := two_get v a b h0 h1
  rw [Array.getElem?_eq_some_iff] at e
  obtain ⟨_, e⟩ := e
  simpa using e
set_option maxHeartbeats 2000000 in
theorem drawRankOf_any (w : World) (a : Option Addr) (len cap : Nat) (zs : List Int) (h : IsRow w a len cap zs) :
    Calls Try.prog 48 #[.slice a len cap] w (DrawnPairNum w) := by
  go_enter Try.func48, Try.ntmps48
  go_wp2_with fail
  refine (open_any _ _ _ _ zs (h.below ((Below.refl _ _).alloc (Nat.le_refl _) _))).mono ?_
  rintro e w1 ⟨rfl, hR1, hh1, hzR1⟩
  try simp only [World.size_alloc] at hzR1
  try simp only [World.size_alloc] at hR1
  obtain ⟨hc1, hf1⟩ := bcell hh1
  have hz1 := hh1.size
  try simp only [World.size_alloc] at hz1
  have hz1_0 : w.heap.size < w1.heap.size := by omega
  have kb1_0_0 : w1.cell? ⟨w.heap.size, 0, none⟩ = some (.int .i64 0) := by go_simp
  have kf1_0_0 : w1.frozen? ⟨w.heap.size, 0, none⟩ = false := by go_simp
  have kb1_0_1 : w1.cell? ⟨w.heap.size, 1, none⟩ = some (.int .i64 0) := by go_simp
  have kf1_0_1 : w1.frozen? ⟨w.heap.size, 1, none⟩ = false := by go_simp
  clear hc1 hf1
  go_wp2_with fail
  refine (l20Pair_any (w.heap.size + 1) 0 14 _ hR1 (by omega) (by omega)).mono ?_
  rintro e w2 ⟨p2, q2, rfl, pa2, pb2, qa2, qb2, hR2, hh2⟩
  obtain ⟨hc2, hf2⟩ := gcell hh2
  have hz2 := hh2.size
  try simp only [World.size_alloc] at hz2
  have hz2_0 : w.heap.size < w2.heap.size := by omega
  have hn2_0 : ¬ w.heap.size = (w.heap.size + 1) := by omega
  have kb2_0_0 : w2.cell? ⟨w.heap.size, 0, none⟩ = some (.int .i64 0) := by go_simp
  have kf2_0_0 : w2.frozen? ⟨w.heap.size, 0, none⟩ = false := by go_simp
  have kb2_0_1 : w2.cell? ⟨w.heap.size, 1, none⟩ = some (.int .i64 0) := by go_simp
  have kf2_0_1 : w2.frozen? ⟨w.heap.size, 1, none⟩ = false := by go_simp
  clear hc2 hf2
  go_wp2_with fail
  refine (l20Ranked_any (w.heap.size + 1) (0 + 5) _ hR2 (by omega)).mono ?_
  rintro e w3 ⟨v3, rfl, hR3, hh3⟩
  obtain ⟨hc3, hf3⟩ := gcell hh3
  have hz3 := hh3.size
  try simp only [World.size_alloc] at hz3
  have hz3_0 : w.heap.size < w3.heap.size := by omega
  have hn3_0 : ¬ w.heap.size = (w.heap.size + 1) := by omega
  have kb3_0_0 : w3.cell? ⟨w.heap.size, 0, none⟩ = some (.int .i64 0) := by go_simp
  have kf3_0_0 : w3.frozen? ⟨w.heap.size, 0, none⟩ = false := by go_simp
  have kb3_0_1 : w3.cell? ⟨w.heap.size, 1, none⟩ = some (.int .i64 0) := by go_simp
  have kf3_0_1 : w3.frozen? ⟨w.heap.size, 1, none⟩ = false := by go_simp
  clear hc3 hf3
  go_wp2
  refine bodyPost_ret (v := .tuple #[pr p2 q2, .int .i64 v3]) (by simp [results, Try.results48, go_sem, kb3_0_0, kb3_0_1]) rfl ⟨_, _, _, rfl, ?_⟩
  (repeat (first | exact Below.refl _ _ | refine Below.setCell ?_ (by first | omega | (simp <;> omega)) _ | refine Below.alloc ?_ (by first | omega | (simp <;> omega)) _ | refine Below.drew ?_ | refine Below.trans ?_ (Below.mono (by assumption) (by first | omega | (simp <;> omega))) | refine Below.grown ?_ (by assumption) (by first | omega | (simp <;> omega)) (fun k e => by cases e; first | omega | (simp <;> omega))))
end Go.Proofs.Ytpogmnkedohdcaa
