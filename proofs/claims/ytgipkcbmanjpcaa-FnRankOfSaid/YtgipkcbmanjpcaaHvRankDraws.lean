/- Contracts that the statement's proof stands on. -/
import Derived.Test.YtgipkcbmanjpcaaAll1
import Derived.Test.YtgipkcbmanjpcaaHvDrawRanked

namespace Go.Proofs.Ytgipkcbmanjpcaa
open Go.RowKit
/-- What a draw of a pair and a number returns. -/
def DrawnPairNum (w : World) (e : Ending) (w' : World) : Prop :=
  ∃ p q a : Int, e = .returned (.tuple #[pr p q, .int .i64 a]) ∧ Below w.heap.size w w'
/-- What a draw of two numbers returns. -/
def DrawnNums (w : World) (e : Ending) (w' : World) : Prop :=
  ∃ a b : Int, e = .returned (.tuple #[.int .i64 a, .int .i64 b]) ∧ Below w.heap.size w w'
theorem two_get (v a b : Int) (h0 : 0 ≤ v) (h1 : v ≤ 1) : (#[.int .i64 a, .int .i64 b] : Array Value)[v.toNat]? = some (.int .i64 (if v = 0 then a else b)) := by
  rcases (show v = 0 ∨ v = 1 by omega) with e | e <;> simp [e]
theorem two_at (v a b : Int) (h : v.toNat < [Value.int .i64 a, Value.int .i64 b].length) (h0 : 0 ≤ v) (h1 : v ≤ 1) : [Value.int .i64 a, Value.int .i64 b][v.toNat]'h = .int .i64 (if v = 0 then a else b) := by
  have e := two_get v a b h0 h1
  rw [Array.getElem?_eq_some_iff] at e
  obtain ⟨_, e⟩ := e
  simpa using e
set_option maxHeartbeats 2000000 in
theorem drawRankOf_any (w : World) (a : Option Addr) (len cap : Nat) (zs : List Int) (h : IsRow w a len cap zs) :
    Calls Try.prog 11 #[.slice a len cap] w (DrawnPairNum w) := by
  go_enter Try.func11, Try.ntmps11
  go_wp2_with fail
  refine (open_any _ _ _ _ zs (h.below ((Below.refl _ _).alloc (Nat.le_refl _) _))).mono ?_
  rintro e w1 ⟨rfl, hR1, hh1, hzR1⟩
  try simp only [World.size_alloc] at hzR1
  try simp only [World.size_alloc] at hR1
  obtain ⟨hc1, hf1⟩ := bcell hh1
  have hz1 := hh1.size
  try simp only [World.size_alloc] at hz1
  have hz1_0 : w.heap.size < w1.heap.size := by omega
  have kb1_0_0 : w1.cell? ⟨w.heap.size, 0, none⟩ = some (.int .i64 0) := by go_simp
  have kf1_0_0 : w1.frozen? ⟨w.heap.size, 0, none⟩ = false := by go_simp
  have kb1_0_1 : w1.cell? ⟨w.heap.size, 1, none⟩ = some (.int .i64 0) := by go_simp
  have kf1_0_1 : w1.frozen? ⟨w.heap.size, 1, none⟩ = false := by go_simp
  clear hc1 hf1
  go_wp2_with fail
  refine (l20Pair_any (w.heap.size + 1) 0 14 _ hR1 (by omega) (by omega)).mono ?_
  rintro e w2 ⟨p2, q2, rfl, pa2, pb2, qa2, qb2, hR2, hh2⟩
  obtain ⟨hc2, hf2⟩ := gcell hh2
  have hz2 := hh2.size
  try simp only [World.size_alloc] at hz2
  have hz2_0 : w.heap.size < w2.heap.size := by omega
  have hn2_0 : ¬ w.heap.size = (w.heap.size + 1) := by omega
  have kb2_0_0 : w2.cell? ⟨w.heap.size, 0, none⟩ = some (.int .i64 0) := by go_simp
  have kf2_0_0 : w2.frozen? ⟨w.heap.size, 0, none⟩ = false := by go_simp
  have kb2_0_1 : w2.cell? ⟨w.heap.size, 1, none⟩ = some (.int .i64 0) := by go_simp
  have kf2_0_1 : w2.frozen? ⟨w.heap.size, 1, none⟩ = false := by go_simp
  clear hc2 hf2
  go_wp2_with fail
  refine (l20Ranked_any (w.heap.size + 1) (0 + 5) _ hR2 (by omega)).mono ?_
  rintro e w3 ⟨v3, rfl, hR3, hh3⟩
  obtain ⟨hc3, hf3⟩ := gcell hh3
  have hz3 := hh3.size
  try simp only [World.size_alloc] at hz3
  have hz3_0 : w.heap.size < w3.heap.size := by omega
  have hn3_0 : ¬ w.heap.size = (w.heap.size + 1) := by omega
  have kb3_0_0 : w3.cell? ⟨w.heap.size, 0, none⟩ = some (.int .i64 0) := by go_simp
  have kf3_0_0 : w3.frozen? ⟨w.heap.size, 0, none⟩ = false := by go_simp
  have kb3_0_1 : w3.cell? ⟨w.heap.size, 1, none⟩ = some (.int .i64 0) := by go_simp
  have kf3_0_1 : w3.frozen? ⟨w.heap.size, 1, none⟩ = false := by go_simp
  clear hc3 hf3
  go_wp2
  refine bodyPost_ret (v := .tuple #[pr p2 q2, .int .i64 v3]) (by simp [results, Try.results11, go_sem, kb3_0_0, kb3_0_1]) rfl ⟨_, _, _, rfl, ?_⟩
  (repeat (first | exact Below.refl _ _ | refine Below.setCell ?_ (by first | omega | (simp <;> omega)) _ | refine Below.alloc ?_ (by first | omega | (simp <;> omega)) _ | refine Below.drew ?_ | refine Below.trans ?_ (Below.mono (by assumption) (by first | omega | (simp <;> omega))) | refine Below.grown ?_ (by assumption) (by first | omega | (simp <;> omega)) (fun k e => by cases e; first | omega | (simp <;> omega))))
set_option maxHeartbeats 2000000 in
theorem drawLeastOver_any (w : World) (a : Option Addr) (len cap : Nat) (zs : List Int) (h : IsRow w a len cap zs) :
    Calls Try.prog 26 #[.slice a len cap] w (DrawnNums w) := by
  go_enter Try.func26, Try.ntmps26
  go_wp2_with fail
  refine (open_any _ _ _ _ zs h).mono ?_
  rintro e w1 ⟨rfl, hR1, hh1, hzR1⟩
  try simp only [World.size_alloc] at hzR1
  try simp only [World.size_alloc] at hR1
  obtain ⟨hc1, hf1⟩ := bcell hh1
  have hz1 := hh1.size
  try simp only [World.size_alloc] at hz1
  go_wp2_with fail
  refine (pick_any w.heap.size 0 200 _ hR1 (by omega) (by omega)).mono ?_
  rintro e w2 ⟨v2, rfl, va2, vb2, hR2, hh2⟩
  have vc2 : v2 ≤ max (200 - 1) 0 := by omega
  clear vb2
  obtain ⟨hc2, hf2⟩ := gcell hh2
  have hz2 := hh2.size
  try simp only [World.size_alloc] at hz2
  clear hc2 hf2
  go_wp2_with fail
  refine (pick_any w.heap.size (0 + 1) 60 _ hR2 (by omega) (by omega)).mono ?_
  rintro e w3 ⟨v3, rfl, va3, vb3, hR3, hh3⟩
  have vc3 : v3 ≤ max (60 - 1) 0 := by omega
  clear vb3
  obtain ⟨hc3, hf3⟩ := gcell hh3
  have hz3 := hh3.size
  try simp only [World.size_alloc] at hz3
  clear hc3 hf3
  go_wp2_with fail
  refine (pick_any w.heap.size (0 + 1 + 1) 60 _ hR3 (by omega) (by omega)).mono ?_
  rintro e w4 ⟨v4, rfl, va4, vb4, hR4, hh4⟩
  have vc4 : v4 ≤ max (60 - 1) 0 := by omega
  clear vb4
  obtain ⟨hc4, hf4⟩ := gcell hh4
  have hz4 := hh4.size
  try simp only [World.size_alloc] at hz4
  clear hc4 hf4
  obtain ⟨y1, y2⟩ := mul_bd (a := 100) (b := 100) (show -100 ≤ v3 by omega) (by omega) (show -100 ≤ v4 by omega) (by omega)
  have y3 : -10000 ≤ v3 * v4 := by omega
  have y4 : v3 * v4 ≤ 10000 := by omega
  clear y1 y2
  have U1 : IntKind.i64.wrap (v3 * v4) = v3 * v4 := by rw [IntKind.wrap_i64]; omega
  go_wp2_with fail
  refine (pick_any w.heap.size (0 + 1 + 1 + 1) 30 _ hR4 (by omega) (by omega)).mono ?_
  rintro e w5 ⟨v5, rfl, va5, vb5, hR5, hh5⟩
  have vc5 : v5 ≤ max (30 - 1) 0 := by omega
  clear vb5
  obtain ⟨hc5, hf5⟩ := gcell hh5
  have hz5 := hh5.size
  try simp only [World.size_alloc] at hz5
  clear hc5 hf5
  have q5a : 0 ≤ v5 / 29 := by omega
  have q5b : v5 / 29 ≤ 1 := by omega
  go_wp2
  refine bodyPost_ret (v := .tuple #[.int .i64 v2, .int .i64 (v3 * v4 + v5 / 29 * 200001)]) (by simp [results, Try.results26, go_sem]) rfl ⟨_, _, rfl, ?_⟩
  (repeat (first | exact Below.refl _ _ | refine Below.setCell ?_ (by first | omega | (simp <;> omega)) _ | refine Below.alloc ?_ (by first | omega | (simp <;> omega)) _ | refine Below.drew ?_ | refine Below.trans ?_ (Below.mono (by assumption) (by first | omega | (simp <;> omega))) | refine Below.grown ?_ (by assumption) (by first | omega | (simp <;> omega)) (fun k e => by cases e; first | omega | (simp <;> omega))))
set_option maxRecDepth 100000 in
set_option maxHeartbeats 8000000 in
theorem drawSameRanks_any (w : World) (a : Option Addr) (len cap : Nat) (zs : List Int) (h : IsRow w a len cap zs) :
    Calls Try.prog 20 #[.slice a len cap] w (DrawnPairNum w) := by
  go_enter Try.func20, Try.ntmps20
  go_wp2_with fail
  refine (open_any _ _ _ _ zs (h.below ((Below.refl _ _).alloc (Nat.le_refl _) _))).mono ?_
  rintro e w1 ⟨rfl, hR1, hh1, hzR1⟩
  try simp only [World.size_alloc] at hzR1
  try simp only [World.size_alloc] at hR1
  obtain ⟨hc1, hf1⟩ := bcell hh1
  have hz1 := hh1.size
  try simp only [World.size_alloc] at hz1
  have hz1_0 : w.heap.size < w1.heap.size := by omega
  have kb1_0_0 : w1.cell? ⟨w.heap.size, 0, none⟩ = some (.int .i64 0) := by go_simp
  have kf1_0_0 : w1.frozen? ⟨w.heap.size, 0, none⟩ = false := by go_simp
  have kb1_0_1 : w1.cell? ⟨w.heap.size, 1, none⟩ = some (.int .i64 0) := by go_simp
  have kf1_0_1 : w1.frozen? ⟨w.heap.size, 1, none⟩ = false := by go_simp
  clear hc1 hf1
  have hRlt := hR1.lt
  have hB1 : Below w.heap.size w w1 := by (repeat (first | exact Below.refl _ _ | refine Below.setCell ?_ (by first | omega | (simp <;> omega)) _ | refine Below.alloc ?_ (by first | omega | (simp <;> omega)) _ | refine Below.drew ?_ | refine Below.trans ?_ (Below.mono (by assumption) (by first | omega | (simp <;> omega))) | refine Below.grown ?_ (by assumption) (by first | omega | (simp <;> omega)) (fun k e => by cases e; first | omega | (simp <;> omega))))
  have hBR : ¬ w.heap.size = w.heap.size + 1 := by omega
  have hBl : w.heap.size < w1.heap.size := by omega
  have hsel := two_at
  go_wp2_with fail
  go_region_with ((first | (go_at_call 33; refine (l20Pair_any (w.heap.size + 1) _ _ _ (by first | assumption | exact Rd.alloc (by assumption) _ | exact Rd.below (by assumption) (by assumption) (Nat.le_refl _)) (by omega) (by omega)).mono ?_; rintro e wy ⟨p2, q2, rfl, pa, pb, qa, qb, hRy, hhy⟩; obtain ⟨hcy, hfy⟩ := gcell hhy; have hzy : w1.heap.size ≤ wy.heap.size := hhy.size; have hzyl : w.heap.size < wy.heap.size := (by omega); have kfy0 : wy.frozen? ⟨w.heap.size, 0, none⟩ = false := ((hfy w.heap.size 0 hBl hBR).trans kf1_0_0); have kfy1 : wy.frozen? ⟨w.heap.size, 1, none⟩ = false := ((hfy w.heap.size 1 hBl hBR).trans kf1_0_1); have ky0 : wy.cell? ⟨w.heap.size, 0, none⟩ = some (.int .i64 0) := ((hcy w.heap.size 0 hBl hBR).trans kb1_0_0); have ky1 : wy.cell? ⟨w.heap.size, 1, none⟩ = some (.int .i64 0) := ((hcy w.heap.size 1 hBl hBR).trans kb1_0_1)) | (go_at_call 47; refine (pick_any (w.heap.size + 1) _ _ _ (by first | assumption | exact Rd.alloc (by assumption) _ | exact Rd.below (by assumption) (by assumption) (Nat.le_refl _)) (by omega) (by omega)).mono ?_; rintro e wz ⟨v, rfl, va, vb, hRz, hhz⟩; have vq : v ≤ 201 := (by omega); (try (have vq1 : v ≤ 1 := (by omega))); clear vb; obtain ⟨hcz, hfz⟩ := gcell hhz; have hst := fun b (h : b < _) => Nat.lt_of_lt_of_le h hhz.size; have hzz := hhz.size; (try simp at hzz); have hzzl : w.heap.size < wz.heap.size := (by omega); (try (have kz0 : wz.cell? ⟨w.heap.size, 0, none⟩ = some (.int .i64 0) := (by rw [hcz w.heap.size 0 (by simp; omega) (by omega)]; go_simp))); (try (have kz1 : wz.cell? ⟨w.heap.size, 1, none⟩ = some (.int .i64 0) := (by rw [hcz w.heap.size 1 (by simp; omega) (by omega)]; go_simp))); (try (have kfz0 : wz.frozen? ⟨w.heap.size, 0, none⟩ = false := (by rw [hfz w.heap.size 0 (by simp; omega) (by omega)]; go_simp))); (try (have kfz1 : wz.frozen? ⟨w.heap.size, 1, none⟩ = false := (by rw [hfz w.heap.size 1 (by simp; omega) (by omega)]; go_simp))); (try have hzs := Nat.lt_of_succ_le hzz); have hne : ¬ wz.heap.size = w.heap.size + 1 := (by have := hRz.lt; omega)) | fail))
  all_goals go_wp2
  all_goals refine bodyPost_ret (v := .tuple #[pr p2 q2, .int .i64 _]) (by simp [results, Try.results20, go_sem, *]; try rfl) rfl ⟨_, _, _, rfl, ?_⟩
  all_goals ((repeat (first | exact Below.refl _ _ | refine Below.setCell ?_ (by first | omega | (simp <;> omega)) _ | refine Below.alloc ?_ (by first | omega | (simp <;> omega)) _ | refine Below.drew ?_ | refine Below.trans ?_ (Below.mono (by assumption) (by first | omega | (simp <;> omega))) | refine Below.grown ?_ (by assumption) (by first | omega | (simp <;> omega)) (fun k e => by cases e; first | omega | (simp <;> omega)))))
set_option maxRecDepth 100000 in
set_option maxHeartbeats 8000000 in
theorem drawDividesAt_any (w : World) (a : Option Addr) (len cap : Nat) (zs : List Int) (h : IsRow w a len cap zs) :
    Calls Try.prog 17 #[.slice a len cap] w (DrawnAny w) := by
  go_enter Try.func17, Try.ntmps17
  go_wp2_with fail
  refine (open_any _ _ _ _ zs (h.below ((Below.refl _ _).alloc (Nat.le_refl _) _))).mono ?_
  rintro e w1 ⟨rfl, hR1, hh1, hzR1⟩
  try simp only [World.size_alloc] at hzR1
  try simp only [World.size_alloc] at hR1
  obtain ⟨hc1, hf1⟩ := bcell hh1
  have hz1 := hh1.size
  try simp only [World.size_alloc] at hz1
  have hz1_0 : w.heap.size < w1.heap.size := by omega
  have kb1_0_0 : w1.cell? ⟨w.heap.size, 0, none⟩ = some (.int .i64 0) := by go_simp
  have kf1_0_0 : w1.frozen? ⟨w.heap.size, 0, none⟩ = false := by go_simp
  have kb1_0_1 : w1.cell? ⟨w.heap.size, 1, none⟩ = some (.int .i64 0) := by go_simp
  have kf1_0_1 : w1.frozen? ⟨w.heap.size, 1, none⟩ = false := by go_simp
  clear hc1 hf1
  go_wp2_with fail
  refine (l20Pair_any (w.heap.size + 1) 0 14 _ hR1 (by omega) (by omega)).mono ?_
  rintro e w2 ⟨p2, q2, rfl, pa2, pb2, qa2, qb2, hR2, hh2⟩
  obtain ⟨hc2, hf2⟩ := gcell hh2
  have hz2 := hh2.size
  try simp only [World.size_alloc] at hz2
  have hz2_0 : w.heap.size < w2.heap.size := by omega
  have hn2_0 : ¬ w.heap.size = (w.heap.size + 1) := by omega
  have kb2_0_0 : w2.cell? ⟨w.heap.size, 0, none⟩ = some (.int .i64 0) := by go_simp
  have kf2_0_0 : w2.frozen? ⟨w.heap.size, 0, none⟩ = false := by go_simp
  have kb2_0_1 : w2.cell? ⟨w.heap.size, 1, none⟩ = some (.int .i64 0) := by go_simp
  have kf2_0_1 : w2.frozen? ⟨w.heap.size, 1, none⟩ = false := by go_simp
  clear hc2 hf2
  go_wp2_with fail
  refine (l20Ranked_any (w.heap.size + 1) (0 + 5) _ (hR2.below ((Below.refl _ _).alloc (Nat.le_refl _) _) (Nat.le_refl _)) (by omega)).mono ?_
  rintro e w3 ⟨v3, rfl, hR3, hh3⟩
  obtain ⟨hc3, hf3⟩ := gcell hh3
  have hz3 := hh3.size
  try simp only [World.size_alloc] at hz3
  have hz3_0 : w.heap.size < w3.heap.size := by omega
  have hz3_1 : w2.heap.size < w3.heap.size := by omega
  have hn3_0 : ¬ w.heap.size = (w.heap.size + 1) := by omega
  have hn3_1 : ¬ w2.heap.size = (w.heap.size + 1) := by omega
  have kb3_0_0 : w3.cell? ⟨w.heap.size, 0, none⟩ = some (.int .i64 0) := by go_simp
  have kf3_0_0 : w3.frozen? ⟨w.heap.size, 0, none⟩ = false := by go_simp
  have kb3_0_1 : w3.cell? ⟨w.heap.size, 1, none⟩ = some (.int .i64 0) := by go_simp
  have kf3_0_1 : w3.frozen? ⟨w.heap.size, 1, none⟩ = false := by go_simp
  have kb3_1_0 : w3.cell? ⟨w2.heap.size, 0, none⟩ = some (.int .i64 p2) := by go_simp
  have kf3_1_0 : w3.frozen? ⟨w2.heap.size, 0, none⟩ = false := by go_simp
  have kb3_1_1 : w3.cell? ⟨w2.heap.size, 1, none⟩ = some (.int .i64 q2) := by go_simp
  have kf3_1_1 : w3.frozen? ⟨w2.heap.size, 1, none⟩ = false := by go_simp
  clear hc3 hf3
  go_wp2_with fail
  refine (specRank_any p2 q2 v3 _).mono ?_
  rintro e w4 ⟨rfl, hh4⟩
  obtain ⟨hc4, hf4⟩ := bcell hh4
  have hz4 := hh4.size
  try simp only [World.size_alloc] at hz4
  have hz4_0 : w.heap.size < w4.heap.size := by omega
  have hz4_1 : w2.heap.size < w4.heap.size := by omega
  have kb4_0_0 : w4.cell? ⟨w.heap.size, 0, none⟩ = some (.int .i64 0) := by go_simp
  have kf4_0_0 : w4.frozen? ⟨w.heap.size, 0, none⟩ = false := by go_simp
  have kb4_0_1 : w4.cell? ⟨w.heap.size, 1, none⟩ = some (.int .i64 0) := by go_simp
  have kf4_0_1 : w4.frozen? ⟨w.heap.size, 1, none⟩ = false := by go_simp
  have kb4_1_0 : w4.cell? ⟨w2.heap.size, 0, none⟩ = some (.int .i64 p2) := by go_simp
  have kf4_1_0 : w4.frozen? ⟨w2.heap.size, 0, none⟩ = false := by go_simp
  have kb4_1_1 : w4.cell? ⟨w2.heap.size, 1, none⟩ = some (.int .i64 q2) := by go_simp
  have kf4_1_1 : w4.frozen? ⟨w2.heap.size, 1, none⟩ = false := by go_simp
  clear hc4 hf4
  have hR4 := hR3.below hh4 (Nat.le_refl _)
  cases hb : rankB p2 q2 v3 with
  | true =>
    go_wp2_with fail
    refine (pick_any (w.heap.size + 1) (0 + 5 + 6) 2 _ hR4 (by omega) (by omega)).mono ?_
    rintro e w5 ⟨v5, rfl, va5, vb5, hR5, hh5⟩
    have vc5 : v5 ≤ max (2 - 1) 0 := by omega
    clear vb5
    obtain ⟨hc5, hf5⟩ := gcell hh5
    have hz5 := hh5.size
    try simp only [World.size_alloc] at hz5
    have hz5_0 : w.heap.size < w5.heap.size := by omega
    have hz5_1 : w2.heap.size < w5.heap.size := by omega
    have hn5_0 : ¬ w.heap.size = (w.heap.size + 1) := by omega
    have hn5_1 : ¬ w2.heap.size = (w.heap.size + 1) := by omega
    have kb5_0_0 : w5.cell? ⟨w.heap.size, 0, none⟩ = some (.int .i64 0) := by go_simp
    have kf5_0_0 : w5.frozen? ⟨w.heap.size, 0, none⟩ = false := by go_simp
    have kb5_0_1 : w5.cell? ⟨w.heap.size, 1, none⟩ = some (.int .i64 0) := by go_simp
    have kf5_0_1 : w5.frozen? ⟨w.heap.size, 1, none⟩ = false := by go_simp
    have kb5_1_0 : w5.cell? ⟨w2.heap.size, 0, none⟩ = some (.int .i64 p2) := by go_simp
    have kf5_1_0 : w5.frozen? ⟨w2.heap.size, 0, none⟩ = false := by go_simp
    have kb5_1_1 : w5.cell? ⟨w2.heap.size, 1, none⟩ = some (.int .i64 q2) := by go_simp
    have kf5_1_1 : w5.frozen? ⟨w2.heap.size, 1, none⟩ = false := by go_simp
    clear hc5 hf5
    by_cases hv : v5 = 0
    · subst hv
      have hl0 : w.heap.size < w5.heap.size := by omega
      have hl1 : w2.heap.size < w5.heap.size := by omega
      have hn0 : ¬ w.heap.size = w.heap.size + 1 := by omega
      have hn1 : ¬ w2.heap.size = w.heap.size + 1 := by omega
      go_wp2_with fail
      go_region_with (go_at_call 47; refine (pick_any (w.heap.size + 1) _ _ _ (by first | assumption | exact (show Rd w5 (w.heap.size + 1) _ from (by assumption)) | exact Rd.alloc (by assumption) _) (by omega) (by omega)).mono ?_; rintro e wz ⟨v, rfl, va, vb, hRz, hhz⟩; clear vb; have hzz : w5.heap.size ≤ wz.heap.size := hhz.size; obtain ⟨hcz, hfz⟩ := gcell hhz; have kz0_0 : wz.cell? ⟨w.heap.size, 0, none⟩ = some (.int .i64 0) := ((hcz (w.heap.size) 0 hl0 hn0).trans kb5_0_0); have kfz0_0 : wz.frozen? ⟨w.heap.size, 0, none⟩ = false := ((hfz (w.heap.size) 0 hl0 hn0).trans kf5_0_0); have kz0_1 : wz.cell? ⟨w.heap.size, 1, none⟩ = some (.int .i64 0) := ((hcz (w.heap.size) 1 hl0 hn0).trans kb5_0_1); have kfz0_1 : wz.frozen? ⟨w.heap.size, 1, none⟩ = false := ((hfz (w.heap.size) 1 hl0 hn0).trans kf5_0_1); have kz1_0 : wz.cell? ⟨w2.heap.size, 0, none⟩ = some (.int .i64 p2) := ((hcz (w2.heap.size) 0 hl1 hn1).trans kb5_1_0); have kfz1_0 : wz.frozen? ⟨w2.heap.size, 0, none⟩ = false := ((hfz (w2.heap.size) 0 hl1 hn1).trans kf5_1_0); have kz1_1 : wz.cell? ⟨w2.heap.size, 1, none⟩ = some (.int .i64 q2) := ((hcz (w2.heap.size) 1 hl1 hn1).trans kb5_1_1); have kfz1_1 : wz.frozen? ⟨w2.heap.size, 1, none⟩ = false := ((hfz (w2.heap.size) 1 hl1 hn1).trans kf5_1_1); clear hcz hfz)
      all_goals go_wp2
      all_goals refine bodyPost_ret (v := .tuple #[pr p2 q2, .int .i64 _, .int .i64 _]) (by simp [results, Try.results17, go_sem, *]; exact ⟨rfl, rfl⟩) rfl ⟨_, _, _, _, rfl, ?_⟩
      all_goals ((repeat (first | exact Below.refl _ _ | refine Below.setCell ?_ (by first | omega | (simp <;> omega)) _ | refine Below.alloc ?_ (by first | omega | (simp <;> omega)) _ | refine Below.drew ?_ | refine Below.trans ?_ (Below.mono (by assumption) (by first | omega | (simp <;> omega))) | refine Below.grown ?_ (by assumption) (by first | omega | (simp <;> omega)) (fun k e => by cases e; first | omega | (simp <;> omega)))))
    · have hv0 : (v5 == 0) = false := by simpa using hv
      have hl0 : w.heap.size < w5.heap.size := by omega
      have hl1 : w2.heap.size < w5.heap.size := by omega
      have hn0 : ¬ w.heap.size = w.heap.size + 1 := by omega
      have hn1 : ¬ w2.heap.size = w.heap.size + 1 := by omega
      go_wp2_with fail
      go_region_with (go_at_call 48; refine (l20Far_any (w.heap.size + 1) _ _ (by first | assumption | exact (show Rd w5 (w.heap.size + 1) _ from (by assumption)) | exact Rd.alloc (by assumption) _) (by omega)).mono ?_; rintro e wz ⟨v, rfl, hRz, hhz⟩; have hzz : w5.heap.size ≤ wz.heap.size := hhz.size; obtain ⟨hcz, hfz⟩ := gcell hhz; have kz0_0 : wz.cell? ⟨w.heap.size, 0, none⟩ = some (.int .i64 0) := ((hcz (w.heap.size) 0 hl0 hn0).trans kb5_0_0); have kfz0_0 : wz.frozen? ⟨w.heap.size, 0, none⟩ = false := ((hfz (w.heap.size) 0 hl0 hn0).trans kf5_0_0); have kz0_1 : wz.cell? ⟨w.heap.size, 1, none⟩ = some (.int .i64 0) := ((hcz (w.heap.size) 1 hl0 hn0).trans kb5_0_1); have kfz0_1 : wz.frozen? ⟨w.heap.size, 1, none⟩ = false := ((hfz (w.heap.size) 1 hl0 hn0).trans kf5_0_1); have kz1_0 : wz.cell? ⟨w2.heap.size, 0, none⟩ = some (.int .i64 p2) := ((hcz (w2.heap.size) 0 hl1 hn1).trans kb5_1_0); have kfz1_0 : wz.frozen? ⟨w2.heap.size, 0, none⟩ = false := ((hfz (w2.heap.size) 0 hl1 hn1).trans kf5_1_0); have kz1_1 : wz.cell? ⟨w2.heap.size, 1, none⟩ = some (.int .i64 q2) := ((hcz (w2.heap.size) 1 hl1 hn1).trans kb5_1_1); have kfz1_1 : wz.frozen? ⟨w2.heap.size, 1, none⟩ = false := ((hfz (w2.heap.size) 1 hl1 hn1).trans kf5_1_1); clear hcz hfz)
      all_goals go_wp2
      all_goals refine bodyPost_ret (v := .tuple #[pr p2 q2, .int .i64 _, .int .i64 _]) (by simp [results, Try.results17, go_sem, *]; exact ⟨rfl, rfl⟩) rfl ⟨_, _, _, _, rfl, ?_⟩
      all_goals ((repeat (first | exact Below.refl _ _ | refine Below.setCell ?_ (by first | omega | (simp <;> omega)) _ | refine Below.alloc ?_ (by first | omega | (simp <;> omega)) _ | refine Below.drew ?_ | refine Below.trans ?_ (Below.mono (by assumption) (by first | omega | (simp <;> omega))) | refine Below.grown ?_ (by assumption) (by first | omega | (simp <;> omega)) (fun k e => by cases e; first | omega | (simp <;> omega)))))
  | false =>
    have hl0 : w.heap.size < w4.heap.size := by omega
    have hl1 : w2.heap.size < w4.heap.size := by omega
    have hn0 : ¬ w.heap.size = w.heap.size + 1 := by omega
    have hn1 : ¬ w2.heap.size = w.heap.size + 1 := by omega
    go_wp2_with fail
    go_region_with (go_at_call 48; refine (l20Far_any (w.heap.size + 1) _ _ (by first | assumption | exact (show Rd w4 (w.heap.size + 1) _ from (by assumption)) | exact Rd.alloc (by assumption) _) (by omega)).mono ?_; rintro e wz ⟨v, rfl, hRz, hhz⟩; have hzz : w4.heap.size ≤ wz.heap.size := hhz.size; obtain ⟨hcz, hfz⟩ := gcell hhz; have kz0_0 : wz.cell? ⟨w.heap.size, 0, none⟩ = some (.int .i64 0) := ((hcz (w.heap.size) 0 hl0 hn0).trans kb4_0_0); have kfz0_0 : wz.frozen? ⟨w.heap.size, 0, none⟩ = false := ((hfz (w.heap.size) 0 hl0 hn0).trans kf4_0_0); have kz0_1 : wz.cell? ⟨w.heap.size, 1, none⟩ = some (.int .i64 0) := ((hcz (w.heap.size) 1 hl0 hn0).trans kb4_0_1); have kfz0_1 : wz.frozen? ⟨w.heap.size, 1, none⟩ = false := ((hfz (w.heap.size) 1 hl0 hn0).trans kf4_0_1); have kz1_0 : wz.cell? ⟨w2.heap.size, 0, none⟩ = some (.int .i64 p2) := ((hcz (w2.heap.size) 0 hl1 hn1).trans kb4_1_0); have kfz1_0 : wz.frozen? ⟨w2.heap.size, 0, none⟩ = false := ((hfz (w2.heap.size) 0 hl1 hn1).trans kf4_1_0); have kz1_1 : wz.cell? ⟨w2.heap.size, 1, none⟩ = some (.int .i64 q2) := ((hcz (w2.heap.size) 1 hl1 hn1).trans kb4_1_1); have kfz1_1 : wz.frozen? ⟨w2.heap.size, 1, none⟩ = false := ((hfz (w2.heap.size) 1 hl1 hn1).trans kf4_1_1); clear hcz hfz)
    all_goals go_wp2
    all_goals refine bodyPost_ret (v := .tuple #[pr p2 q2, .int .i64 _, .int .i64 _]) (by simp [results, Try.results17, go_sem, *]; exact ⟨rfl, rfl⟩) rfl ⟨_, _, _, _, rfl, ?_⟩
    all_goals ((repeat (first | exact Below.refl _ _ | refine Below.setCell ?_ (by first | omega | (simp <;> omega)) _ | refine Below.alloc ?_ (by first | omega | (simp <;> omega)) _ | refine Below.drew ?_ | refine Below.trans ?_ (Below.mono (by assumption) (by first | omega | (simp <;> omega))) | refine Below.grown ?_ (by assumption) (by first | omega | (simp <;> omega)) (fun k e => by cases e; first | omega | (simp <;> omega)))))
end Go.Proofs.Ytgipkcbmanjpcaa
