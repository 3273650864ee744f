/- FarFirst and FarSecond of the program: what they return. -/
import Derived.Test.YtgcpmgddlaeccaaLeftAt
namespace Go.Proofs.Ytgcpmgddlaeccaa
open Go.RowKit
theorem leftAt_agg (p q m : Int) (k : Nat) (w : World) (hp : pairB p q = true) (h1 : 1 ≤ m) (h2 : m ≤ 10000) (hk : k ≤ 1000000000) :
    Calls Try.prog 39 #[pr p q, .int .i64 k, .int .i64 m] w fun e w' => e = .returned (.agg #[.int .i64 (row p q 0 1 k % m), .int .i64 (row p q 0 1 (k + 1) % m)]) ∧ Below w.heap.size w w' := leftAt_at p q m k w hp h1 h2 hk
set_option maxHeartbeats 4000000 in
theorem implFarFirst_any (p q n m : Int) (w : World) :
    Calls Try.prog 12 #[pr p q, .int .i64 n, .int .i64 m] w fun e w' => e = .returned (.int .i64 (farFirstV p q n m)) ∧ Below w.heap.size w w' := by
  cases h : farB p q n m with
  | true =>
    obtain ⟨hp, ⟨k, rfl, hk⟩, m1, m2⟩ := farB_true h
    obtain ⟨⟨r1, r2⟩, r3, r4⟩ := pairB_true hp
    have HV := Lib.hid (show farFirstV p q k m = row p q 0 1 k % m by rw [farFirstV, if_pos h]; rfl)
    have HA := Lib.hid (inB_mk (n := (k : Int)) (a := 0) (b := 1000000000) (by omega) (by omega))
    have HB := Lib.hid (inB_mk (n := m) (a := 1) (b := 10000) m1 m2)
    have HP := Lib.hid hp
    obtain ⟨a0, a1⟩ := left_bd (row p q 0 1 k) m m1
    obtain ⟨b0, b1⟩ := left_bd (row p q 0 1 (k + 1)) m m1
    have E := Lib.hid (far_second p q m k)
    have hfd : ∀ (x y : Int) (w : World), (Instr.field 52 (.agg #[.int .i64 x, .int .i64 y]) 0).run Try.prog w = .ok (.int .i64 x) w := fun _ _ _ => by kernel_rfl
    rw [HV.out]
    clear hp h
    go_enter Try.func12, Try.ntmps12
    go_wp2_with fail
    refine (implPairOk_yes p q _ HP.out).mono ?_
    rintro e w1 ⟨rfl, hh1⟩
    obtain ⟨hc1, hf1⟩ := bcell hh1
    have hz1 := hh1.size
    try simp only [World.size_alloc] at hz1
    have hz1_0 : w.heap.size < w1.heap.size := by omega
    have kb1_0_0 : w1.cell? ⟨w.heap.size, 0, none⟩ = some (.int .i64 p) := by go_simp
    have kf1_0_0 : w1.frozen? ⟨w.heap.size, 0, none⟩ = false := by go_simp
    have kb1_0_1 : w1.cell? ⟨w.heap.size, 1, none⟩ = some (.int .i64 q) := by go_simp
    have kf1_0_1 : w1.frozen? ⟨w.heap.size, 1, none⟩ = false := by go_simp
    clear hc1 hf1
    go_wp2_with fail
    refine (farOk_is _ true _ HA.out).mono ?_
    rintro e wx ⟨rfl, rfl⟩
    go_wp2_with fail
    refine (byOk_is _ true _ HB.out).mono ?_
    rintro e wx ⟨rfl, rfl⟩
    go_wp2_with fail
    refine (leftAt_agg p q m k _ HP.out m1 m2 hk).mono ?_
    rintro e w2 ⟨rfl, hh2⟩
    obtain ⟨hc2, hf2⟩ := bcell hh2
    have hz2 := hh2.size
    try simp only [World.size_alloc] at hz2
    go_wp2
    go_ret
    exact ⟨rfl, by (repeat (first | exact Below.refl _ _ | refine Below.setCell ?_ (by first | omega | (simp <;> omega)) _ | refine Below.alloc ?_ (by first | omega | (simp <;> omega)) _ | refine Below.drew ?_ | refine Below.trans ?_ (Below.mono (by assumption) (by first | omega | (simp <;> omega))) | refine Below.grown ?_ (by assumption) (by first | omega | (simp <;> omega)) (fun k e => by cases e; first | omega | (simp <;> omega))))⟩
  | false =>
    have HV := Lib.hid (show farFirstV p q n m = -1 by rw [farFirstV, if_neg (by simp [h])])
    rw [HV.out]
    rcases farB_ways h with hp | ⟨hp, ha⟩ | ⟨hp, ha, hb⟩
    · have HP := Lib.hid hp
      clear hp h
      go_enter Try.func12, Try.ntmps12
      go_wp2_with fail
      refine (implPairOk_no p q _ HP.out).mono ?_
      rintro e w1 ⟨rfl, hh1⟩
      obtain ⟨hc1, hf1⟩ := bcell hh1
      have hz1 := hh1.size
      try simp only [World.size_alloc] at hz1
      have hz1_0 : w.heap.size < w1.heap.size := by omega
      have kb1_0_0 : w1.cell? ⟨w.heap.size, 0, none⟩ = some (.int .i64 p) := by go_simp
      have kf1_0_0 : w1.frozen? ⟨w.heap.size, 0, none⟩ = false := by go_simp
      have kb1_0_1 : w1.cell? ⟨w.heap.size, 1, none⟩ = some (.int .i64 q) := by go_simp
      have kf1_0_1 : w1.frozen? ⟨w.heap.size, 1, none⟩ = false := by go_simp
      clear hc1 hf1
      go_wp2
      go_ret
      exact ⟨rfl, by (repeat (first | exact Below.refl _ _ | refine Below.setCell ?_ (by first | omega | (simp <;> omega)) _ | refine Below.alloc ?_ (by first | omega | (simp <;> omega)) _ | refine Below.drew ?_ | refine Below.trans ?_ (Below.mono (by assumption) (by first | omega | (simp <;> omega))) | refine Below.grown ?_ (by assumption) (by first | omega | (simp <;> omega)) (fun k e => by cases e; first | omega | (simp <;> omega))))⟩
    · have HP := Lib.hid hp
      have HA := Lib.hid ha
      clear hp ha h
      go_enter Try.func12, Try.ntmps12
      go_wp2_with fail
      refine (implPairOk_yes p q _ HP.out).mono ?_
      rintro e w1 ⟨rfl, hh1⟩
      obtain ⟨hc1, hf1⟩ := bcell hh1
      have hz1 := hh1.size
      try simp only [World.size_alloc] at hz1
      have hz1_0 : w.heap.size < w1.heap.size := by omega
      have kb1_0_0 : w1.cell? ⟨w.heap.size, 0, none⟩ = some (.int .i64 p) := by go_simp
      have kf1_0_0 : w1.frozen? ⟨w.heap.size, 0, none⟩ = false := by go_simp
      have kb1_0_1 : w1.cell? ⟨w.heap.size, 1, none⟩ = some (.int .i64 q) := by go_simp
      have kf1_0_1 : w1.frozen? ⟨w.heap.size, 1, none⟩ = false := by go_simp
      clear hc1 hf1
      go_wp2_with fail
      refine (farOk_is n false _ HA.out).mono ?_
      rintro e wx ⟨rfl, rfl⟩
      go_wp2
      go_ret
      exact ⟨rfl, by (repeat (first | exact Below.refl _ _ | refine Below.setCell ?_ (by first | omega | (simp <;> omega)) _ | refine Below.alloc ?_ (by first | omega | (simp <;> omega)) _ | refine Below.drew ?_ | refine Below.trans ?_ (Below.mono (by assumption) (by first | omega | (simp <;> omega))) | refine Below.grown ?_ (by assumption) (by first | omega | (simp <;> omega)) (fun k e => by cases e; first | omega | (simp <;> omega))))⟩
    · have HP := Lib.hid hp
      have HA := Lib.hid ha
      have HB := Lib.hid hb
      clear hp ha hb h
      go_enter Try.func12, Try.ntmps12
      go_wp2_with fail
      refine (implPairOk_yes p q _ HP.out).mono ?_
      rintro e w1 ⟨rfl, hh1⟩
      obtain ⟨hc1, hf1⟩ := bcell hh1
      have hz1 := hh1.size
      try simp only [World.size_alloc] at hz1
      have hz1_0 : w.heap.size < w1.heap.size := by omega
      have kb1_0_0 : w1.cell? ⟨w.heap.size, 0, none⟩ = some (.int .i64 p) := by go_simp
      have kf1_0_0 : w1.frozen? ⟨w.heap.size, 0, none⟩ = false := by go_simp
      have kb1_0_1 : w1.cell? ⟨w.heap.size, 1, none⟩ = some (.int .i64 q) := by go_simp
      have kf1_0_1 : w1.frozen? ⟨w.heap.size, 1, none⟩ = false := by go_simp
      clear hc1 hf1
      go_wp2_with fail
      refine (farOk_is n true _ HA.out).mono ?_
      rintro e wx ⟨rfl, rfl⟩
      go_wp2_with fail
      refine (byOk_is m false _ HB.out).mono ?_
      rintro e wx ⟨rfl, rfl⟩
      go_wp2
      go_ret
      exact ⟨rfl, by (repeat (first | exact Below.refl _ _ | refine Below.setCell ?_ (by first | omega | (simp <;> omega)) _ | refine Below.alloc ?_ (by first | omega | (simp <;> omega)) _ | refine Below.drew ?_ | refine Below.trans ?_ (Below.mono (by assumption) (by first | omega | (simp <;> omega))) | refine Below.grown ?_ (by assumption) (by first | omega | (simp <;> omega)) (fun k e => by cases e; first | omega | (simp <;> omega))))⟩
set_option maxHeartbeats 4000000 in
theorem implFarSecond_any (p q n m : Int) (w : World) :
    Calls Try.prog 18 #[pr p q, .int .i64 n, .int .i64 m] w fun e w' => e = .returned (.int .i64 (farSecondV p q n m)) ∧ Below w.heap.size w w' := by
  cases h : farB p q n m with
  | true =>
    obtain ⟨hp, ⟨k, rfl, hk⟩, m1, m2⟩ := farB_true h
    obtain ⟨⟨r1, r2⟩, r3, r4⟩ := pairB_true hp
    have HV := Lib.hid (show farSecondV p q k m = row p q 2 p k % m by rw [farSecondV, if_pos h]; rfl)
    have HA := Lib.hid (inB_mk (n := (k : Int)) (a := 0) (b := 1000000000) (by omega) (by omega))
    have HB := Lib.hid (inB_mk (n := m) (a := 1) (b := 10000) m1 m2)
    have HP := Lib.hid hp
    obtain ⟨a0, a1⟩ := left_bd (row p q 0 1 k) m m1
    obtain ⟨b0, b1⟩ := left_bd (row p q 0 1 (k + 1)) m m1
    have E := Lib.hid (far_second p q m k)
    have hfd : ∀ (x y : Int) (w : World), (Instr.field 52 (.agg #[.int .i64 x, .int .i64 y]) 0).run Try.prog w = .ok (.int .i64 x) w := fun _ _ _ => by kernel_rfl
    rw [HV.out]
    clear hp h
    go_enter Try.func18, Try.ntmps18
    go_wp2_with fail
    refine (implPairOk_yes p q _ HP.out).mono ?_
    rintro e w1 ⟨rfl, hh1⟩
    obtain ⟨hc1, hf1⟩ := bcell hh1
    have hz1 := hh1.size
    try simp only [World.size_alloc] at hz1
    have hz1_0 : w.heap.size < w1.heap.size := by omega
    have kb1_0_0 : w1.cell? ⟨w.heap.size, 0, none⟩ = some (.int .i64 p) := by go_simp
    have kf1_0_0 : w1.frozen? ⟨w.heap.size, 0, none⟩ = false := by go_simp
    have kb1_0_1 : w1.cell? ⟨w.heap.size, 1, none⟩ = some (.int .i64 q) := by go_simp
    have kf1_0_1 : w1.frozen? ⟨w.heap.size, 1, none⟩ = false := by go_simp
    clear hc1 hf1
    go_wp2_with fail
    refine (farOk_is _ true _ HA.out).mono ?_
    rintro e wx ⟨rfl, rfl⟩
    go_wp2_with fail
    refine (byOk_is _ true _ HB.out).mono ?_
    rintro e wx ⟨rfl, rfl⟩
    go_wp2_with fail
    go_region_held3 (fun w' => w'.cell? ⟨w.heap.size, 0, none⟩ = some (.int .i64 p) ∧ w'.cell? ⟨w.heap.size, 1, none⟩ = some (.int .i64 q))
      (first | go_keep | (go_split_ands; exact ⟨kx0, kx1⟩))
      ((first | (go_at_call 39; refine (leftAt_agg p q m k _ HP.out m1 m2 hk).mono ?_; rintro e w2 ⟨rfl, hh2⟩; have hz2 := hh2.size; (try simp at hz2); have kx0 := (hh2.cell (p := ⟨w.heap.size, 0, none⟩) (by first | omega | (simp <;> omega))); have kx1 := (hh2.cell (p := ⟨w.heap.size, 1, none⟩) (by first | omega | (simp <;> omega)))) | (go_at_call 45; refine (second_at _ _ p q m r1 r2 m1 m2 a0 a1 b0 b1 _ _ E.out).mono ?_; rintro e w2 ⟨rfl, hh2⟩; have hz2 := hh2.size; (try simp at hz2); have kx0 := (hh2.cell (p := ⟨w.heap.size, 0, none⟩) (by first | omega | (simp <;> omega))); have kx1 := (hh2.cell (p := ⟨w.heap.size, 1, none⟩) (by first | omega | (simp <;> omega)))) | fail))
    go_wp2
    go_ret
    exact ⟨rfl, by (repeat (first | exact Below.refl _ _ | refine Below.setCell ?_ (by first | omega | (simp <;> omega)) _ | refine Below.alloc ?_ (by first | omega | (simp <;> omega)) _ | refine Below.drew ?_ | refine Below.trans ?_ (Below.mono (by assumption) (by first | omega | (simp <;> omega))) | refine Below.grown ?_ (by assumption) (by first | omega | (simp <;> omega)) (fun k e => by cases e; first | omega | (simp <;> omega))))⟩
  | false =>
    have HV := Lib.hid (show farSecondV p q n m = -1 by rw [farSecondV, if_neg (by simp [h])])
    rw [HV.out]
    rcases farB_ways h with hp | ⟨hp, ha⟩ | ⟨hp, ha, hb⟩
    · have HP := Lib.hid hp
      clear hp h
      go_enter Try.func18, Try.ntmps18
      go_wp2_with fail
      refine (implPairOk_no p q _ HP.out).mono ?_
      rintro e w1 ⟨rfl, hh1⟩
      obtain ⟨hc1, hf1⟩ := bcell hh1
      have hz1 := hh1.size
      try simp only [World.size_alloc] at hz1
      have hz1_0 : w.heap.size < w1.heap.size := by omega
      have kb1_0_0 : w1.cell? ⟨w.heap.size, 0, none⟩ = some (.int .i64 p) := by go_simp
      have kf1_0_0 : w1.frozen? ⟨w.heap.size, 0, none⟩ = false := by go_simp
      have kb1_0_1 : w1.cell? ⟨w.heap.size, 1, none⟩ = some (.int .i64 q) := by go_simp
      have kf1_0_1 : w1.frozen? ⟨w.heap.size, 1, none⟩ = false := by go_simp
      clear hc1 hf1
      go_wp2
      go_ret
      exact ⟨rfl, by (repeat (first | exact Below.refl _ _ | refine Below.setCell ?_ (by first | omega | (simp <;> omega)) _ | refine Below.alloc ?_ (by first | omega | (simp <;> omega)) _ | refine Below.drew ?_ | refine Below.trans ?_ (Below.mono (by assumption) (by first | omega | (simp <;> omega))) | refine Below.grown ?_ (by assumption) (by first | omega | (simp <;> omega)) (fun k e => by cases e; first | omega | (simp <;> omega))))⟩
    · have HP := Lib.hid hp
      have HA := Lib.hid ha
      clear hp ha h
      go_enter Try.func18, Try.ntmps18
      go_wp2_with fail
      refine (implPairOk_yes p q _ HP.out).mono ?_
      rintro e w1 ⟨rfl, hh1⟩
      obtain ⟨hc1, hf1⟩ := bcell hh1
      have hz1 := hh1.size
      try simp only [World.size_alloc] at hz1
      have hz1_0 : w.heap.size < w1.heap.size := by omega
      have kb1_0_0 : w1.cell? ⟨w.heap.size, 0, none⟩ = some (.int .i64 p) := by go_simp
      have kf1_0_0 : w1.frozen? ⟨w.heap.size, 0, none⟩ = false := by go_simp
      have kb1_0_1 : w1.cell? ⟨w.heap.size, 1, none⟩ = some (.int .i64 q) := by go_simp
      have kf1_0_1 : w1.frozen? ⟨w.heap.size, 1, none⟩ = false := by go_simp
      clear hc1 hf1
      go_wp2_with fail
      refine (farOk_is n false _ HA.out).mono ?_
      rintro e wx ⟨rfl, rfl⟩
      go_wp2
      go_ret
      exact ⟨rfl, by (repeat (first | exact Below.refl _ _ | refine Below.setCell ?_ (by first | omega | (simp <;> omega)) _ | refine Below.alloc ?_ (by first | omega | (simp <;> omega)) _ | refine Below.drew ?_ | refine Below.trans ?_ (Below.mono (by assumption) (by first | omega | (simp <;> omega))) | refine Below.grown ?_ (by assumption) (by first | omega | (simp <;> omega)) (fun k e => by cases e; first | omega | (simp <;> omega))))⟩
    · have HP := Lib.hid hp
      have HA := Lib.hid ha
      have HB := Lib.hid hb
      clear hp ha hb h
      go_enter Try.func18, Try.ntmps18
      go_wp2_with fail
      refine (implPairOk_yes p q _ HP.out).mono ?_
      rintro e w1 ⟨rfl, hh1⟩
      obtain ⟨hc1, hf1⟩ := bcell hh1
      have hz1 := hh1.size
      try simp only [World.size_alloc] at hz1
      have hz1_0 : w.heap.size < w1.heap.size := by omega
      have kb1_0_0 : w1.cell? ⟨w.heap.size, 0, none⟩ = some (.int .i64 p) := by go_simp
      have kf1_0_0 : w1.frozen? ⟨w.heap.size, 0, none⟩ = false := by go_simp
      have kb1_0_1 : w1.cell? ⟨w.heap.size, 1, none⟩ = some (.int .i64 q) := by go_simp
      have kf1_0_1 : w1.frozen? ⟨w.heap.size, 1, none⟩ = false := by go_simp
      clear hc1 hf1
      go_wp2_with fail
      refine (farOk_is n true _ HA.out).mono ?_
      rintro e wx ⟨rfl, rfl⟩
      go_wp2_with fail
      refine (byOk_is m false _ HB.out).mono ?_
      rintro e wx ⟨rfl, rfl⟩
      go_wp2
      go_ret
      exact ⟨rfl, by (repeat (first | exact Below.refl _ _ | refine Below.setCell ?_ (by first | omega | (simp <;> omega)) _ | refine Below.alloc ?_ (by first | omega | (simp <;> omega)) _ | refine Below.drew ?_ | refine Below.trans ?_ (Below.mono (by assumption) (by first | omega | (simp <;> omega))) | refine Below.grown ?_ (by assumption) (by first | omega | (simp <;> omega)) (fun k e => by cases e; first | omega | (simp <;> omega))))⟩
end Go.Proofs.Ytgcpmgddlaeccaa
