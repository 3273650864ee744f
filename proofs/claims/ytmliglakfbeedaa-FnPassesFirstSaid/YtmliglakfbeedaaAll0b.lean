/- Contracts and laws that the statement's proof stands on, one text behind the other. -/
import Derived.Test.YtmliglakfbeedaaAll0a
import Derived.Deep.DeepCutAuto
import Derived.Deep.RegionWith
import Derived.BigQuiet
import Derived.Defers
import Derived.Laws.Pointers
import Derived.Laws.LoneSync
import Derived.Laws.NewBlocks
import Derived.RegionTactic
import Derived.RegionCalls
import Derived.Deep.RegionHeld3

namespace Go.Proofs.Ytmliglakfbeedaa
open Go.RowKit
theorem leftAt_agg (p q m : Int) (k : Nat) (w : World) (hp : pairB p q = true) (h1 : 1 ≤ m) (h2 : m ≤ 10000) (hk : k ≤ 1000000000) :
    Calls Try.prog 75 #[pr p q, .int .i64 k, .int .i64 m] w fun e w' => e = .returned (.agg #[.int .i64 (row p q 0 1 k % m), .int .i64 (row p q 0 1 (k + 1) % m)]) ∧ Below w.heap.size w w' := leftAt_at p q m k w hp h1 h2 hk
set_option maxHeartbeats 4000000 in
theorem implFarFirst_any (p q n m : Int) (w : World) :
    Calls Try.prog 79 #[pr p q, .int .i64 n, .int .i64 m] w fun e w' => e = .returned (.int .i64 (farFirstV p q n m)) ∧ Below w.heap.size w w' := by
  cases h : farB p q n m with
  | true =>
    obtain ⟨hp, ⟨k, rfl, hk⟩, m1, m2⟩ := farB_true h
    obtain ⟨⟨r1, r2⟩, r3, r4⟩ := pairB_true hp
    have HV := Lib.hid (show farFirstV p q k m = row p q 0 1 k % m by rw [farFirstV, if_pos h]; rfl)
    have HA := Lib.hid (inB_mk (n := (k : Int)) (a := 0) (b := 1000000000) (by omega) (by omega))
    have HB := Lib.hid (inB_mk (n := m) (a := 1) (b := 10000) m1 m2)
    have HP := Lib.hid hp
    obtain ⟨a0, a1⟩ := left_bd (row p q 0 1 k) m m1
    obtain ⟨b0, b1⟩ := left_bd (row p q 0 1 (k + 1)) m m1
    have E := Lib.hid (far_second p q m k)
    have hfd : ∀ (x y : Int) (w : World), (Instr.field 81 (.agg #[.int .i64 x, .int .i64 y]) 0).run Try.prog w = .ok (.int .i64 x) w := fun _ _ _ => by kernel_rfl
    rw [HV.out]
    clear hp h
    go_enter Try.func79, Try.ntmps79
    go_wp2_with fail
    refine (implPairOk_yes p q _ HP.out).mono ?_
    rintro e w1 ⟨rfl, hh1⟩
    obtain ⟨hc1, hf1⟩ := bcell hh1
    have hz1 := hh1.size
    try simp only [World.size_alloc] at hz1
    have hz1_0 : w.heap.size < w1.heap.size := by omega
    have kb1_0_0 : w1.cell? ⟨w.heap.size, 0, none⟩ = some (.int .i64 p) := by go_simp
    have kf1_0_0 : w1.frozen? ⟨w.heap.size, 0, none⟩ = false := by go_simp
    have kb1_0_1 : w1.cell? ⟨w.heap.size, 1, none⟩ = some (.int .i64 q) := by go_simp
    have kf1_0_1 : w1.frozen? ⟨w.heap.size, 1, none⟩ = false := by go_simp
    clear hc1 hf1
    go_wp2_with fail
    refine (farOk_is _ true _ HA.out).mono ?_
    rintro e wx ⟨rfl, rfl⟩
    go_wp2_with fail
    refine (byOk_is _ true _ HB.out).mono ?_
    rintro e wx ⟨rfl, rfl⟩
    go_wp2_with fail
    refine (leftAt_agg p q m k _ HP.out m1 m2 hk).mono ?_
    rintro e w2 ⟨rfl, hh2⟩
    obtain ⟨hc2, hf2⟩ := bcell hh2
    have hz2 := hh2.size
    try simp only [World.size_alloc] at hz2
    go_wp2
    go_ret
    exact ⟨rfl, by (repeat (first | exact Below.refl _ _ | refine Below.setCell ?_ (by first | omega | (simp <;> omega)) _ | refine Below.alloc ?_ (by first | omega | (simp <;> omega)) _ | refine Below.drew ?_ | refine Below.trans ?_ (Below.mono (by assumption) (by first | omega | (simp <;> omega))) | refine Below.grown ?_ (by assumption) (by first | omega | (simp <;> omega)) (fun k e => by cases e; first | omega | (simp <;> omega))))⟩
  | false =>
    have HV := Lib.hid (show farFirstV p q n m = -1 by rw [farFirstV, if_neg (by simp [h])])
    rw [HV.out]
    rcases farB_ways h with hp | ⟨hp, ha⟩ | ⟨hp, ha, hb⟩
    · have HP := Lib.hid hp
      clear hp h
      go_enter Try.func79, Try.ntmps79
      go_wp2_with fail
      refine (implPairOk_no p q _ HP.out).mono ?_
      rintro e w1 ⟨rfl, hh1⟩
      obtain ⟨hc1, hf1⟩ := bcell hh1
      have hz1 := hh1.size
      try simp only [World.size_alloc] at hz1
      have hz1_0 : w.heap.size < w1.heap.size := by omega
      have kb1_0_0 : w1.cell? ⟨w.heap.size, 0, none⟩ = some (.int .i64 p) := by go_simp
      have kf1_0_0 : w1.frozen? ⟨w.heap.size, 0, none⟩ = false := by go_simp
      have kb1_0_1 : w1.cell? ⟨w.heap.size, 1, none⟩ = some (.int .i64 q) := by go_simp
      have kf1_0_1 : w1.frozen? ⟨w.heap.size, 1, none⟩ = false := by go_simp
      clear hc1 hf1
      go_wp2
      go_ret
      exact ⟨rfl, by (repeat (first | exact Below.refl _ _ | refine Below.setCell ?_ (by first | omega | (simp <;> omega)) _ | refine Below.alloc ?_ (by first | omega | (simp <;> omega)) _ | refine Below.drew ?_ | refine Below.trans ?_ (Below.mono (by assumption) (by first | omega | (simp <;> omega))) | refine Below.grown ?_ (by assumption) (by first | omega | (simp <;> omega)) (fun k e => by cases e; first | omega | (simp <;> omega))))⟩
    · have HP := Lib.hid hp
      have HA := Lib.hid ha
      clear hp ha h
      go_enter Try.func79, Try.ntmps79
      go_wp2_with fail
      refine (implPairOk_yes p q _ HP.out).mono ?_
      rintro e w1 ⟨rfl, hh1⟩
      obtain ⟨hc1, hf1⟩ := bcell hh1
      have hz1 := hh1.size
      try simp only [World.size_alloc] at hz1
      have hz1_0 : w.heap.size < w1.heap.size := by omega
      have kb1_0_0 : w1.cell? ⟨w.heap.size, 0, none⟩ = some (.int .i64 p) := by go_simp
      have kf1_0_0 : w1.frozen? ⟨w.heap.size, 0, none⟩ = false := by go_simp
      have kb1_0_1 : w1.cell? ⟨w.heap.size, 1, none⟩ = some (.int .i64 q) := by go_simp
      have kf1_0_1 : w1.frozen? ⟨w.heap.size, 1, none⟩ = false := by go_simp
      clear hc1 hf1
      go_wp2_with fail
      refine (farOk_is n false _ HA.out).mono ?_
      rintro e wx ⟨rfl, rfl⟩
      go_wp2
      go_ret
      exact ⟨rfl, by (repeat (first | exact Below.refl _ _ | refine Below.setCell ?_ (by first | omega | (simp <;> omega)) _ | refine Below.alloc ?_ (by first | omega | (simp <;> omega)) _ | refine Below.drew ?_ | refine Below.trans ?_ (Below.mono (by assumption) (by first | omega | (simp <;> omega))) | refine Below.grown ?_ (by assumption) (by first | omega | (simp <;> omega)) (fun k e => by cases e; first | omega | (simp <;> omega))))⟩
    · have HP := Lib.hid hp
      have HA := Lib.hid ha
      have HB := Lib.hid hb
      clear hp ha hb h
      go_enter Try.func79, Try.ntmps79
      go_wp2_with fail
      refine (implPairOk_yes p q _ HP.out).mono ?_
      rintro e w1 ⟨rfl, hh1⟩
      obtain ⟨hc1, hf1⟩ := bcell hh1
      have hz1 := hh1.size
      try simp only [World.size_alloc] at hz1
      have hz1_0 : w.heap.size < w1.heap.size := by omega
      have kb1_0_0 : w1.cell? ⟨w.heap.size, 0, none⟩ = some (.int .i64 p) := by go_simp
      have kf1_0_0 : w1.frozen? ⟨w.heap.size, 0, none⟩ = false := by go_simp
      have kb1_0_1 : w1.cell? ⟨w.heap.size, 1, none⟩ = some (.int .i64 q) := by go_simp
      have kf1_0_1 : w1.frozen? ⟨w.heap.size, 1, none⟩ = false := by go_simp
      clear hc1 hf1
      go_wp2_with fail
      refine (farOk_is n true _ HA.out).mono ?_
      rintro e wx ⟨rfl, rfl⟩
      go_wp2_with fail
      refine (byOk_is m false _ HB.out).mono ?_
      rintro e wx ⟨rfl, rfl⟩
      go_wp2
      go_ret
      exact ⟨rfl, by (repeat (first | exact Below.refl _ _ | refine Below.setCell ?_ (by first | omega | (simp <;> omega)) _ | refine Below.alloc ?_ (by first | omega | (simp <;> omega)) _ | refine Below.drew ?_ | refine Below.trans ?_ (Below.mono (by assumption) (by first | omega | (simp <;> omega))) | refine Below.grown ?_ (by assumption) (by first | omega | (simp <;> omega)) (fun k e => by cases e; first | omega | (simp <;> omega))))⟩
set_option maxHeartbeats 4000000 in
theorem implFarSecond_any (p q n m : Int) (w : World) :
    Calls Try.prog 49 #[pr p q, .int .i64 n, .int .i64 m] w fun e w' => e = .returned (.int .i64 (farSecondV p q n m)) ∧ Below w.heap.size w w' := by
  cases h : farB p q n m with
  | true =>
    obtain ⟨hp, ⟨k, rfl, hk⟩, m1, m2⟩ := farB_true h
    obtain ⟨⟨r1, r2⟩, r3, r4⟩ := pairB_true hp
    have HV := Lib.hid (show farSecondV p q k m = row p q 2 p k % m by rw [farSecondV, if_pos h]; rfl)
    have HA := Lib.hid (inB_mk (n := (k : Int)) (a := 0) (b := 1000000000) (by omega) (by omega))
    have HB := Lib.hid (inB_mk (n := m) (a := 1) (b := 10000) m1 m2)
    have HP := Lib.hid hp
    obtain ⟨a0, a1⟩ := left_bd (row p q 0 1 k) m m1
    obtain ⟨b0, b1⟩ := left_bd (row p q 0 1 (k + 1)) m m1
    have E := Lib.hid (far_second p q m k)
    have hfd : ∀ (x y : Int) (w : World), (Instr.field 81 (.agg #[.int .i64 x, .int .i64 y]) 0).run Try.prog w = .ok (.int .i64 x) w := fun _ _ _ => by kernel_rfl
    rw [HV.out]
    clear hp h
    go_enter Try.func49, Try.ntmps49
    go_wp2_with fail
    refine (implPairOk_yes p q _ HP.out).mono ?_
    rintro e w1 ⟨rfl, hh1⟩
    obtain ⟨hc1, hf1⟩ := bcell hh1
    have hz1 := hh1.size
    try simp only [World.size_alloc] at hz1
    have hz1_0 : w.heap.size < w1.heap.size := by omega
    have kb1_0_0 : w1.cell? ⟨w.heap.size, 0, none⟩ = some (.int .i64 p) := by go_simp
    have kf1_0_0 : w1.frozen? ⟨w.heap.size, 0, none⟩ = false := by go_simp
    have kb1_0_1 : w1.cell? ⟨w.heap.size, 1, none⟩ = some (.int .i64 q) := by go_simp
    have kf1_0_1 : w1.frozen? ⟨w.heap.size, 1, none⟩ = false := by go_simp
    clear hc1 hf1
    go_wp2_with fail
    refine (farOk_is _ true _ HA.out).mono ?_
    rintro e wx ⟨rfl, rfl⟩
    go_wp2_with fail
    refine (byOk_is _ true _ HB.out).mono ?_
    rintro e wx ⟨rfl, rfl⟩
    go_wp2_with fail
    go_region_held3 (fun w' => w'.cell? ⟨w.heap.size, 0, none⟩ = some (.int .i64 p) ∧ w'.cell? ⟨w.heap.size, 1, none⟩ = some (.int .i64 q))
      (first | go_keep | (go_split_ands; exact ⟨kx0, kx1⟩))
      ((first | (go_at_call 75; refine (leftAt_agg p q m k _ HP.out m1 m2 hk).mono ?_; rintro e w2 ⟨rfl, hh2⟩; have hz2 := hh2.size; (try simp at hz2); have kx0 := (hh2.cell (p := ⟨w.heap.size, 0, none⟩) (by first | omega | (simp <;> omega))); have kx1 := (hh2.cell (p := ⟨w.heap.size, 1, none⟩) (by first | omega | (simp <;> omega)))) | (go_at_call 76; refine (second_at _ _ p q m r1 r2 m1 m2 a0 a1 b0 b1 _ _ E.out).mono ?_; rintro e w2 ⟨rfl, hh2⟩; have hz2 := hh2.size; (try simp at hz2); have kx0 := (hh2.cell (p := ⟨w.heap.size, 0, none⟩) (by first | omega | (simp <;> omega))); have kx1 := (hh2.cell (p := ⟨w.heap.size, 1, none⟩) (by first | omega | (simp <;> omega)))) | fail))
    go_wp2
    go_ret
    exact ⟨rfl, by (repeat (first | exact Below.refl _ _ | refine Below.setCell ?_ (by first | omega | (simp <;> omega)) _ | refine Below.alloc ?_ (by first | omega | (simp <;> omega)) _ | refine Below.drew ?_ | refine Below.trans ?_ (Below.mono (by assumption) (by first | omega | (simp <;> omega))) | refine Below.grown ?_ (by assumption) (by first | omega | (simp <;> omega)) (fun k e => by cases e; first | omega | (simp <;> omega))))⟩
  | false =>
    have HV := Lib.hid (show farSecondV p q n m = -1 by rw [farSecondV, if_neg (by simp [h])])
    rw [HV.out]
    rcases farB_ways h with hp | ⟨hp, ha⟩ | ⟨hp, ha, hb⟩
    · have HP := Lib.hid hp
      clear hp h
      go_enter Try.func49, Try.ntmps49
      go_wp2_with fail
      refine (implPairOk_no p q _ HP.out).mono ?_
      rintro e w1 ⟨rfl, hh1⟩
      obtain ⟨hc1, hf1⟩ := bcell hh1
      have hz1 := hh1.size
      try simp only [World.size_alloc] at hz1
      have hz1_0 : w.heap.size < w1.heap.size := by omega
      have kb1_0_0 : w1.cell? ⟨w.heap.size, 0, none⟩ = some (.int .i64 p) := by go_simp
      have kf1_0_0 : w1.frozen? ⟨w.heap.size, 0, none⟩ = false := by go_simp
      have kb1_0_1 : w1.cell? ⟨w.heap.size, 1, none⟩ = some (.int .i64 q) := by go_simp
      have kf1_0_1 : w1.frozen? ⟨w.heap.size, 1, none⟩ = false := by go_simp
      clear hc1 hf1
      go_wp2
      go_ret
      exact ⟨rfl, by (repeat (first | exact Below.refl _ _ | refine Below.setCell ?_ (by first | omega | (simp <;> omega)) _ | refine Below.alloc ?_ (by first | omega | (simp <;> omega)) _ | refine Below.drew ?_ | refine Below.trans ?_ (Below.mono (by assumption) (by first | omega | (simp <;> omega))) | refine Below.grown ?_ (by assumption) (by first | omega | (simp <;> omega)) (fun k e => by cases e; first | omega | (simp <;> omega))))⟩
    · have HP := Lib.hid hp
      have HA := Lib.hid ha
      clear hp ha h
      go_enter Try.func49, Try.ntmps49
      go_wp2_with fail
      refine (implPairOk_yes p q _ HP.out).mono ?_
      rintro e w1 ⟨rfl, hh1⟩
      obtain ⟨hc1, hf1⟩ := bcell hh1
      have hz1 := hh1.size
      try simp only [World.size_alloc] at hz1
      have hz1_0 : w.heap.size < w1.heap.size := by omega
      have kb1_0_0 : w1.cell? ⟨w.heap.size, 0, none⟩ = some (.int .i64 p) := by go_simp
      have kf1_0_0 : w1.frozen? ⟨w.heap.size, 0, none⟩ = false := by go_simp
      have kb1_0_1 : w1.cell? ⟨w.heap.size, 1, none⟩ = some (.int .i64 q) := by go_simp
      have kf1_0_1 : w1.frozen? ⟨w.heap.size, 1, none⟩ = false := by go_simp
      clear hc1 hf1
      go_wp2_with fail
      refine (farOk_is n false _ HA.out).mono ?_
      rintro e wx ⟨rfl, rfl⟩
      go_wp2
      go_ret
      exact ⟨rfl, by (repeat (first | exact Below.refl _ _ | refine Below.setCell ?_ (by first | omega | (simp <;> omega)) _ | refine Below.alloc ?_ (by first | omega | (simp <;> omega)) _ | refine Below.drew ?_ | refine Below.trans ?_ (Below.mono (by assumption) (by first | omega | (simp <;> omega))) | refine Below.grown ?_ (by assumption) (by first | omega | (simp <;> omega)) (fun k e => by cases e; first | omega | (simp <;> omega))))⟩
    · have HP := Lib.hid hp
      have HA := Lib.hid ha
      have HB := Lib.hid hb
      clear hp ha hb h
      go_enter Try.func49, Try.ntmps49
      go_wp2_with fail
      refine (implPairOk_yes p q _ HP.out).mono ?_
      rintro e w1 ⟨rfl, hh1⟩
      obtain ⟨hc1, hf1⟩ := bcell hh1
      have hz1 := hh1.size
      try simp only [World.size_alloc] at hz1
      have hz1_0 : w.heap.size < w1.heap.size := by omega
      have kb1_0_0 : w1.cell? ⟨w.heap.size, 0, none⟩ = some (.int .i64 p) := by go_simp
      have kf1_0_0 : w1.frozen? ⟨w.heap.size, 0, none⟩ = false := by go_simp
      have kb1_0_1 : w1.cell? ⟨w.heap.size, 1, none⟩ = some (.int .i64 q) := by go_simp
      have kf1_0_1 : w1.frozen? ⟨w.heap.size, 1, none⟩ = false := by go_simp
      clear hc1 hf1
      go_wp2_with fail
      refine (farOk_is n true _ HA.out).mono ?_
      rintro e wx ⟨rfl, rfl⟩
      go_wp2_with fail
      refine (byOk_is m false _ HB.out).mono ?_
      rintro e wx ⟨rfl, rfl⟩
      go_wp2
      go_ret
      exact ⟨rfl, by (repeat (first | exact Below.refl _ _ | refine Below.setCell ?_ (by first | omega | (simp <;> omega)) _ | refine Below.alloc ?_ (by first | omega | (simp <;> omega)) _ | refine Below.drew ?_ | refine Below.trans ?_ (Below.mono (by assumption) (by first | omega | (simp <;> omega))) | refine Below.grown ?_ (by assumption) (by first | omega | (simp <;> omega)) (fun k e => by cases e; first | omega | (simp <;> omega))))⟩
end Go.Proofs.Ytmliglakfbeedaa
namespace Go.Proofs.Ytmliglakfbeedaa
open Go.RowKit Go.Shelf
attribute [local go_sem] Oper.semAt_some
theorem pow_twice (a m : Int) (g : Nat) : a ^ g % m * (a ^ g % m) % m = a ^ (2 * g) % m := by
  refine Eqm.left ?_
  rw [Nat.two_mul, Int.pow_add]
  exact (eqm_left m _).mul (eqm_left m _)
theorem pow_next (a m : Int) (g : Nat) : a ^ g % m * (a % m) % m = a ^ (g + 1) % m := by
  refine Eqm.left ?_
  rw [Int.pow_succ]
  exact (eqm_left m _).mul (eqm_left m _)
/-- What lies in the function's boxes between two bits. -/
def PowBoxes (B b c H : Nat) (a m x : Int) (k : Nat) (W : World) : Prop :=
  W.cell? ⟨B, 0, none⟩ = some (.int .i64 m) ∧ W.cell? ⟨b, 0, none⟩ = some (.int .i64 (a % m)) ∧ (W.cell? ⟨c, 0, none⟩ = some (.int .i64 x) ∧ W.frozen? ⟨c, 0, none⟩ = false) ∧ W.cell? ⟨H, 0, none⟩ = some (.int .i64 k)
theorem PowBoxes.set {B b c H : Nat} {a m x : Int} {k : Nat} {W : World} (h : PowBoxes B b c H a m x k W) (h1 : B ≠ c) (h2 : b ≠ c) (h3 : H ≠ c) (y : Int) : PowBoxes B b c H a m y k (W.setCell ⟨c, 0, none⟩ (.int .i64 y)) :=
  ⟨(set_other h1).trans h.1, (set_other h2).trans h.2.1, ⟨set_same h.2.2.1.1, set_frozen h.2.2.1.2⟩, (set_other h3).trans h.2.2.2⟩
theorem PowBoxes.kept {B b c H : Nat} {a m x : Int} {k : Nat} {A V : World} {row : Option Nat} (h : PowBoxes B b c H a m x k A) (hg : A.grownBy V row) (hr : ∀ r, row = some r → ∃ o : Obj, A.heap[r]? = some o ∧ o.isCells = false) : PowBoxes B b c H a m x k V :=
  ⟨cell_kept h.1 hg hr, cell_kept h.2.1 hg hr, ⟨cell_kept h.2.2.1.1 hg hr, (frozen_kept h.2.2.1.1 hg hr).trans h.2.2.1.2⟩, cell_kept h.2.2.2 hg hr⟩
end Go.Proofs.Ytmliglakfbeedaa
namespace Go.Proofs.Ytmliglakfbeedaa
open Go.RowKit Go.Shelf
/-- The list when j of its n numbers have been set. -/
def ListIs (G n j : Nat) (f : Nat → Int) (W : World) : Prop :=
  (∀ x, x < j → W.cell? ⟨G, x, none⟩ = some (.int .i64 (f x))) ∧ (∀ x, j ≤ x → x < n → W.cell? ⟨G, x, none⟩ = some (.int .i64 0)) ∧ (∀ x, x < n → W.frozen? ⟨G, x, none⟩ = false)
theorem ListIs.at {G n j : Nat} {f : Nat → Int} {W : World} (h : ListIs G n j f W) (hj : j < n) : W.cell? ⟨G, j, none⟩ = some (.int .i64 0) ∧ W.frozen? ⟨G, j, none⟩ = false := ⟨h.2.1 j (Nat.le_refl _) hj, h.2.2 j hj⟩
theorem ListIs.set {G n j : Nat} {f : Nat → Int} {W : World} (h : ListIs G n j f W) (hj : j < n) (v : Int) (hv : v = f j) : ListIs G n (j + 1) f (W.setCell ⟨G, j, none⟩ (.int .i64 v)) := by
  subst hv
  refine ⟨fun x hx => ?_, fun x h1 h2 => ?_, fun x hx => ?_⟩
  · by_cases e : x = j
    · subst e; exact set_same (h.at hj).1
    · exact (World.cell?_setCell_other _ ⟨G, j, none⟩ ⟨G, x, none⟩ _ (fun e' => by injection e'; omega)).trans (h.1 x (by omega))
  · exact (World.cell?_setCell_other _ ⟨G, j, none⟩ ⟨G, x, none⟩ _ (fun e' => by injection e'; omega)).trans (h.2.1 x (by omega) h2)
  · exact set_frozen (h.2.2 x hx)
theorem ListIs.other {G n j S o : Nat} {f : Nat → Int} {W : World} {v : Value} (h : ListIs G n j f W) (hS : G ≠ S) : ListIs G n j f (W.setCell ⟨S, o, none⟩ v) :=
  ⟨fun x hx => (set_other hS).trans (h.1 x hx), fun x h1 h2 => (set_other hS).trans (h.2.1 x h1 h2), fun x hx => set_frozen (h.2.2 x hx)⟩
theorem ListIs.below {G n j : Nat} {f : Nat → Int} {W W' : World} (h : ListIs G n j f W) (hb : Below W.heap.size W W') (hG : G < W.heap.size) : ListIs G n j f W' :=
  ⟨fun x hx => (hb.cell (p := ⟨G, x, none⟩) hG).trans (h.1 x hx), fun x h1 h2 => (hb.cell (p := ⟨G, x, none⟩) hG).trans (h.2.1 x h1 h2), fun x hx => (hb.frozen (p := ⟨G, x, none⟩) hG).trans (h.2.2 x hx)⟩
theorem ListIs.ints {G n B : Nat} {f : Nat → Int} {W : World} (h : ListIs G n n f W) (hB : B ≤ G) (hG : G < W.heap.size) (c : Nat) : IsInts B W.heap.size W (.slice (some ⟨G, 0, none⟩) n c) n f :=
  ⟨_, c, rfl, Nat.le_refl _, .inr ⟨G, 0, rfl, hB, hG, fun i hi => by rw [Nat.zero_add]; exact h.1 i hi, fun i hi => by rw [Nat.zero_add]; exact h.2.2 i hi⟩⟩
theorem madeCells_at (n x : Nat) (h : x < n) : (madeCells #[.int .i64 0] n)[x]? = some (.int .i64 0) := by
  rw [← Array.getElem?_toList, toList_madeCells_one]
  simp [h]
theorem ListIs.made {n : Nat} {f : Nat → Int} (W : World) (t : TypeId) : ListIs W.heap.size n 0 f (W.alloc (.cells (madeCells #[.int .i64 0] n) t)) := by
  refine ⟨fun x hx => absurd hx (by omega), fun x _ hx => ?_, fun x hx => ?_⟩
  · have := heap_alloc_new W (.cells (madeCells #[.int .i64 0] n) t)
    simp only [World.cell?, this]
    simp [madeCells_at n x hx]
  · have := heap_alloc_new W (.cells (madeCells #[.int .i64 0] n) t)
    simp only [World.frozen?, this]
    simp
end Go.Proofs.Ytmliglakfbeedaa
namespace Go.Proofs.Ytmliglakfbeedaa
open Go.RowKit
/-- One of four numbers, by half of another one. -/
def four (v a b c d : Int) : Int := if v / 2 = 0 then a else if v / 2 = 1 then b else if v / 2 = 2 then c else d
theorem four_get (v a b c d : Int) (h0 : 0 ≤ v) (h1 : v ≤ 7) : (#[.int .i64 a, .int .i64 b, .int .i64 c, .int .i64 d] : Array Value)[(v / 2).toNat]? = some (.int .i64 (four v a b c d)) := by
  rcases (show v / 2 = 0 ∨ v / 2 = 1 ∨ v / 2 = 2 ∨ v / 2 = 3 by omega) with e | e | e | e <;> simp [four, e]
theorem four_at (v a b c d : Int) (h : (v / 2).toNat < [Value.int .i64 a, Value.int .i64 b, Value.int .i64 c, Value.int .i64 d].length) (h0 : 0 ≤ v) (h1 : v ≤ 7) : [Value.int .i64 a, Value.int .i64 b, Value.int .i64 c, Value.int .i64 d][(v / 2).toNat]'h = .int .i64 (four v a b c d) := by
  have e := four_get v a b c d h0 h1
  rw [Array.getElem?_eq_some_iff] at e
  obtain ⟨_, e⟩ := e
  simpa using e
/-- What a draw of a number returns. -/
def NumberDrawn (w : World) (R k m : Nat) (e : Ending) (w' : World) : Prop :=
  ∃ v : Int, e = .returned (.int .i64 v) ∧ Rd w' R (k + m) ∧ w.grownBy w' (some R)
end Go.Proofs.Ytmliglakfbeedaa
namespace Go.Proofs.Ytmliglakfbeedaa
open Go.RowKit
variable {P : Program} {Q : Exit → Act → World → Prop}
theorem wp_region_kept {S : World → Prop} {id : Nat} {a : Act} {w : World} {os : List Oper} (hS : S w.drew) (hm : P.follows .mixedOrders = true) (hB : Region.lexB .any os.toArray = true)
    (h : wpQuiet P os.toArray (fun w' => ∃ i : KeptBy S, w' = i.world) (fun a' => ∀ w', (∃ i : KeptBy S, w' = i.world) → Q .normal a' w') os a) : (Code.region id os.toArray true).wp P Q a w :=
  wp_region_quiet (C := fun w' => ∃ i : KeptBy S, w' = i.world) hm hB ⟨⟨w.drew, hS⟩, rfl⟩ (by simpa using h)
end Go.Proofs.Ytmliglakfbeedaa
namespace Go.Proofs.Ytmliglakfbeedaa
open Go.RowKit
theorem raceDisable (w : World) : (callFunc 107 #[]).run Try.prog w = .ok (.value (.tuple #[])) w := run_call_mark0 Try.func107 (by kernel_rfl) (by kernel_rfl) (by kernel_rfl) .disable (by kernel_rfl) w
theorem raceEnable (w : World) : (callFunc 109 #[]).run Try.prog w = .ok (.value (.tuple #[])) w := run_call_mark0 Try.func109 (by kernel_rfl) (by kernel_rfl) (by kernel_rfl) .enable (by kernel_rfl) w
theorem raceAcquire (a : Addr) (w : World) : (callFunc 110 #[.pointer (some a)]).run Try.prog w = .ok (.value (.tuple #[])) w := run_call_marked Try.func110 (by kernel_rfl) (by kernel_rfl) (by kernel_rfl) .acquire (by kernel_rfl) a w
theorem raceRelease (a : Addr) (w : World) : (callFunc 112 #[.pointer (some a)]).run Try.prog w = .ok (.value (.tuple #[])) w := run_call_marked Try.func112 (by kernel_rfl) (by kernel_rfl) (by kernel_rfl) .releaseMerge (by kernel_rfl) a w
/-- The word 'done' is asked. -/
theorem onceLoad_at (a : Addr) (d : Int) (c : Bool) (w : World) (hc : w.cell? a = some (.int .u32 d)) (hd : (d != 0) = c) :
    Calls Try.prog 86 #[.pointer (some a)] w fun e w' => e = .returned (.bool c) ∧ w = w' := by
  have hl := run_call_load (P := Try.prog) Try.func95 (by kernel_rfl) (by kernel_rfl) (by kernel_rfl) .u32 (by kernel_rfl) hc
  have HD := Lib.hid hd
  clear hd
  go_enter Try.func86, Try.ntmps86
  go_wp2
  go_ret
  exact ⟨ret_bool HD.out, rfl⟩
/-- The word 'done' is stored, as a deferred call. -/
theorem onceStore_d (a : Addr) (x : Value) (u : FrameMode) (w : World) (hc : w.cell? a = some x) (hz : w.frozen? a = false) :
    CallsD Try.prog 98 #[.pointer (some a), .bool true] u w fun e u' w' => u' = u ∧ (e = .returned (.tuple #[]) ∧ w' = w.drew.setCell a (.int .u32 1)) := by
  have hc' : w.drew.cell? a = some x := by go_simp
  have hz' : w.drew.frozen? a = false := by go_simp
  have hst := run_call_store (P := Try.prog) Try.func103 (by kernel_rfl) (by kernel_rfl) (by kernel_rfl) (by kernel_rfl) (k := .u32) (y := 1) hc' hz'
  go_enter_d Try.func98, Try.ntmps98
  go_wp2
  go_region_calls
  all_goals (go_end0; exact ⟨rfl, rfl⟩)
set_option maxRecDepth 100000 in
set_option maxHeartbeats 1600000 in
/-- The lock is let go, as a deferred call. -/
theorem onceUnlock_d (a : Addr) (u : FrameMode) (w : World) (hc : w.cell? a = some (.int .i32 1)) (hz : w.frozen? a = false) :
    CallsD Try.prog 97 #[.pointer (some a)] u w fun e u' w' => u' = u ∧ (e = .returned (.tuple #[]) ∧ w' = w.setCell a (.int .i32 0)) := by
  have hd := raceDisable
  have he := raceEnable
  have hr := raceRelease
  have hadd := run_call_add (P := Try.prog) Try.func113 (by kernel_rfl) (by kernel_rfl) (by kernel_rfl) .i32 (by kernel_rfl) (y := -1) (s := 0) hc hz (by simp [go_sem]; rfl)
  have hcv := run_convert_to_unsafe (P := Try.prog) (src := 109) (dst := 113) Try.underlying109 Try.underlying113 (by kernel_rfl) hc
  go_enter_d Try.func97, Try.ntmps97
  go_wp2
  go_end0
  go_wp2
  go_end0
  exact ⟨rfl, rfl⟩
set_option maxRecDepth 100000 in
set_option maxHeartbeats 1600000 in
/-- The lock is taken: it was free. -/
theorem onceLock_at (a : Addr) (w : World) (hc : w.cell? a = some (.int .i32 0)) (hz : w.frozen? a = false) :
    Calls Try.prog 96 #[.pointer (some a)] w fun e w' => e = .returned (.tuple #[]) ∧ w' = w.setCell a (.int .i32 1) := by
  have hd := raceDisable
  have he := raceEnable
  have ha := raceAcquire
  have hcas := run_call_cas_hit (P := Try.prog) Try.func108 (by kernel_rfl) (by kernel_rfl) (by kernel_rfl) .i32 (by kernel_rfl) (y := 1) hc hz
  have hc' : (w.setCell a (.int .i32 1)).cell? a = some (.int .i32 1) := World.cell?_setCell_same w a _ hc
  have hcv := run_convert_to_unsafe (P := Try.prog) (src := 109) (dst := 113) Try.underlying109 Try.underlying113 (by kernel_rfl) hc'
  go_enter Try.func96, Try.ntmps96
  go_wp2
  first | go_end0 | (simp only [Exit.inBlock, Exit.then]; refine bodyPost_ret (results_none rfl _ _ _) rfl ?_) | refine bodyPost_ret (results_none rfl _ _ _) rfl ?_
  go_wp2
  go_end0
  exact ⟨rfl, rfl⟩
end Go.Proofs.Ytmliglakfbeedaa
namespace Go.Proofs.Ytmliglakfbeedaa
/-- The greatest power of p that divides r. -/
def powGo (p : Nat) : Nat → Nat → Nat
  | 0, _ => 1
  | f + 1, r => if r % p = 0 then p * powGo p f (r / p) else 1
theorem powGo_dvd (p : Nat) : ∀ f r, powGo p f r ∣ r
  | 0, r => Nat.one_dvd r
  | f + 1, r => by
    rw [powGo]
    split
    · rename_i h
      have := Nat.mul_dvd_mul_left p (powGo_dvd p f (r / p))
      rwa [Nat.mul_div_cancel' (Nat.dvd_of_mod_eq_zero h)] at this
    · exact Nat.one_dvd r
theorem powGo_form (p : Nat) : ∀ f r, ∃ e, powGo p f r = p ^ e
  | 0, r => ⟨0, rfl⟩
  | f + 1, r => by
    rw [powGo]
    split
    · obtain ⟨e, he⟩ := powGo_form p f (r / p)
      exact ⟨e + 1, by rw [he, Nat.pow_succ, Nat.mul_comm]⟩
    · exact ⟨0, rfl⟩
theorem powGo_left {p : Nat} (hp : 2 ≤ p) : ∀ f r, 1 ≤ r → r ≤ f → ¬ p ∣ r / powGo p f r
  | 0, r, h1, h2 => by omega
  | f + 1, r, h1, h2 => by
    rw [powGo]
    split
    · rename_i h
      have hd := Nat.dvd_of_mod_eq_zero h
      have h3 : 1 ≤ r / p := Nat.div_pos (Nat.le_of_dvd h1 hd) (by omega)
      have h4 : r / p < r := Nat.div_lt_self h1 hp
      rw [← Nat.div_div_eq_div_mul]
      exact powGo_left hp f (r / p) h3 (by omega)
    · rename_i h
      rw [Nat.div_one]
      exact fun hd => h (Nat.mod_eq_zero_of_dvd hd)
theorem powGo_pos {p r : Nat} (f : Nat) (h : 1 ≤ r) : 1 ≤ powGo p f r := Nat.pos_of_dvd_of_pos (powGo_dvd p f r) h
theorem powGo_rest {p r : Nat} (f : Nat) (h : 1 ≤ r) : 1 ≤ r / powGo p f r := Nat.div_pos (Nat.le_of_dvd h (powGo_dvd p f r)) (powGo_pos f h)
/-- The powers of p and of greater primes that r is made of. -/
def ppGo : Nat → Nat → Nat → List Nat
  | 0, _, _ => []
  | f + 1, p, r => if r ≤ 1 then [] else if 1 < powGo p r r then powGo p r r :: ppGo f (p + 1) (r / powGo p r r) else ppGo f (p + 1) (r / powGo p r r)
def prodL : List Nat → Nat
  | [] => 1
  | x :: L => x * prodL L
theorem prodL_split (L : List Nat) : ∀ k, prodL (L.take k) * prodL (L.drop k) = prodL L := by
  induction L with
  | nil => intro k; simp [prodL]
  | cons x L ih =>
    intro k
    cases k with
    | zero => simp [prodL]
    | succ k => simp only [List.take_succ_cons, List.drop_succ_cons, prodL]; rw [Nat.mul_assoc, ih]
/-- What no number below p divides, but p does not divide, has nothing in common with powers of p. -/
theorem apart_pow {p e r : Nat} (hp : 2 ≤ p) (h : ∀ d, 2 ≤ d → d < p → ¬ d ∣ r) (hn : ¬ p ∣ r) : Nat.Coprime (p ^ e) r := by
  refine Nat.Coprime.pow_left e ?_
  rcases Nat.lt_or_ge (Nat.gcd p r) 2 with h1 | h1
  · have : 1 ≤ Nat.gcd p r := Nat.gcd_pos_of_pos_left r (by omega)
    show Nat.gcd p r = 1
    omega
  · have h2 : Nat.gcd p r ≤ p := Nat.le_of_dvd (by omega) (Nat.gcd_dvd_left p r)
    rcases Nat.eq_or_lt_of_le h2 with h3 | h3
    · exact absurd (by rw [← h3]; exact Nat.gcd_dvd_right p r) hn
    · exact absurd (Nat.gcd_dvd_right p r) (h _ h1 h3)
theorem none_next {p r f : Nat} (hp : 2 ≤ p) (hr : 1 ≤ r) (hf : r ≤ f) (h : ∀ d, 2 ≤ d → d < p → ¬ d ∣ r) : ∀ d, 2 ≤ d → d < p + 1 → ¬ d ∣ r / powGo p f r := by
  intro d h1 h2 hd
  rcases Nat.eq_or_lt_of_le (Nat.le_of_lt_succ h2) with h3 | h3
  · subst h3; exact powGo_left hp f r hr hf hd
  · exact h d h1 h3 (Nat.dvd_trans hd (Nat.div_dvd_of_dvd (powGo_dvd p f r)))
theorem small_one {p r : Nat} (hr : 1 ≤ r) (h : ∀ d, 2 ≤ d → d < p → ¬ d ∣ r) (hlt : r < p) : r = 1 := by
  rcases Nat.lt_or_ge r 2 with h1 | h1
  · omega
  · exact absurd (Nat.dvd_refl r) (h r h1 hlt)
theorem ppGo_spec : ∀ f p r, 2 ≤ p → 1 ≤ r → r < p + f → (∀ d, 2 ≤ d → d < p → ¬ d ∣ r) →
    prodL (ppGo f p r) = r ∧ (∀ x ∈ ppGo f p r, 2 ≤ x) ∧ ∀ k, Nat.Coprime (prodL ((ppGo f p r).take k)) (prodL ((ppGo f p r).drop k))
  | 0, p, r, hp, hr, hf, h => by
    obtain rfl := small_one hr h (by omega)
    exact ⟨rfl, (by intro x hx; cases hx), fun k => by simp [ppGo, prodL, Nat.Coprime]⟩
  | f + 1, p, r, hp, hr, hf, h => by
    rw [ppGo]
    split
    · obtain rfl : r = 1 := by omega
      exact ⟨rfl, (by intro x hx; cases hx), fun k => by simp [prodL, Nat.Coprime]⟩
    · have hd := powGo_dvd p r r
      have hr' := powGo_rest (p := p) r hr
      have hle : r / powGo p r r ≤ r := Nat.div_le_self _ _
      obtain ⟨i1, i2, i3⟩ := ppGo_spec f (p + 1) (r / powGo p r r) (by omega) hr' (by omega) (none_next hp hr (Nat.le_refl r) h)
      have hmul : powGo p r r * (r / powGo p r r) = r := Nat.mul_div_cancel' hd
      have hcop : Nat.Coprime (powGo p r r) (r / powGo p r r) := by
        obtain ⟨e, he⟩ := powGo_form p r r
        have h5 := none_next hp hr (Nat.le_refl r) h
        generalize r / powGo p r r = s at h5
        rw [he]
        exact apart_pow hp (fun d a b => h5 d a (by omega)) (h5 p hp (by omega))
      split
      · rename_i hw
        refine ⟨by rw [prodL, i1, hmul], ?_, fun k => ?_⟩
        · intro x hx
          rcases List.mem_cons.1 hx with rfl | hx
          · omega
          · exact i2 x hx
        · cases k with
          | zero => simp [prodL, Nat.Coprime]
          | succ k =>
            simp only [List.take_succ_cons, List.drop_succ_cons, prodL]
            refine Nat.Coprime.mul_left ?_ (i3 k)
            refine Nat.Coprime.coprime_dvd_right ?_ hcop
            exact Nat.dvd_trans (Nat.dvd_mul_left _ _) (by rw [prodL_split, i1]; exact Nat.dvd_refl _)
      · rename_i hw
        have hw1 : powGo p r r = 1 := by have := powGo_pos (p := p) r hr; omega
        rw [hw1, Nat.div_one] at i1 i2 i3 ⊢
        exact ⟨i1, i2, i3⟩
/-- All powers of primes that a number is made of; the first k of them multiplied. -/
def ppL (n : Nat) : List Nat := ppGo n 2 n
def ppK (n k : Nat) : Nat := prodL ((ppL n).take k)
theorem none_two {n : Nat} : ∀ d, 2 ≤ d → d < 2 → ¬ d ∣ n := fun d h1 h2 => by omega
theorem ppL_spec {n : Nat} (hn : 1 ≤ n) : prodL (ppL n) = n ∧ (∀ x ∈ ppL n, 2 ≤ x) ∧ ∀ k, Nat.Coprime (prodL ((ppL n).take k)) (prodL ((ppL n).drop k)) := ppGo_spec n 2 n (by omega) hn (by omega) none_two
theorem ppK_zero (n : Nat) : ppK n 0 = 1 := rfl
theorem ppK_all {n : Nat} (hn : 1 ≤ n) : ppK n (ppL n).length = n := by rw [ppK, List.take_length]; exact (ppL_spec hn).1
theorem prodL_snoc (L : List Nat) (x : Nat) : prodL (L ++ [x]) = prodL L * x := by
  induction L with
  | nil => simp [prodL]
  | cons y L ih => simp only [List.cons_append, prodL, ih, Nat.mul_assoc]
theorem pp_step {n k : Nat} (hn : 1 ≤ n) (hk : k < (ppL n).length) :
    ppK n (k + 1) = ppK n k * (ppL n).getD k 0 ∧ Nat.gcd (ppK n k) ((ppL n).getD k 0) = 1 ∧ 2 ≤ (ppL n).getD k 0 ∧ (ppL n).getD k 0 ∣ n ∧ ppK n (k + 1) ∣ n ∧ ppK n k ∣ n := by
  obtain ⟨a, b, c⟩ := ppL_spec hn
  have hx : (ppL n).getD k 0 = (ppL n)[k] := by simp [List.getD, List.getElem?_eq_getElem hk]
  have hs : ppK n (k + 1) = ppK n k * (ppL n)[k] := by rw [ppK, List.take_add_one, List.getElem?_eq_getElem hk]; exact prodL_snoc _ _
  have hdx : (ppL n)[k] ∣ prodL ((ppL n).drop k) := by rw [List.drop_eq_getElem_cons hk]; exact Nat.dvd_mul_right _ _
  have hall : ∀ j, ppK n j ∣ n := fun j => by
    have := prodL_split (ppL n) j
    rw [a] at this
    exact ⟨_, this.symm⟩
  rw [hx]
  refine ⟨hs, Nat.Coprime.coprime_dvd_right hdx (c k), b _ (List.getElem_mem hk), ?_, hall _, hall _⟩
  have := hall (k + 1)
  rw [hs] at this
  exact Nat.dvd_trans (Nat.dvd_mul_left _ _) this
theorem rankN_one (p q : Int) : rankN p q 1 = 1 := rankN_eq (Nat.le_refl 1) (fun c h _ => h) (fun n => ⟨fun _ => Nat.one_dvd n, fun _ => by simp⟩)
theorem rank_pp {p q : Int} {n k : Nat} (hn : 1 ≤ n) (h : Apart (n : Int) q) (hk : k < (ppL n).length) : rankN p q (ppK n (k + 1)) = Nat.lcm (rankN p q (ppK n k)) (rankN p q ((ppL n).getD k 0)) := by
  obtain ⟨a, b, c, d, e, g⟩ := pp_step hn hk
  rw [a] at e ⊢
  exact rankN_mul (Nat.pos_of_dvd_of_pos g hn) (by omega) b (h.of_nat_dvd e)
/-- Where the search for them stands: k are found, the next number is p, the rest is r. -/
def PPState (n k p r : Nat) : Prop :=
  2 ≤ p ∧ 1 ≤ r ∧ r ≤ n ∧ k ≤ (ppL n).length ∧ (∃ f, p + f = n + 2 ∧ (ppL n).drop k = ppGo f p r) ∧ ∀ d, 2 ≤ d → d < p → ¬ d ∣ r
theorem PPState.start {n : Nat} (hn : 1 ≤ n) : PPState n 0 2 n := ⟨by omega, hn, Nat.le_refl n, by omega, ⟨n, by omega, rfl⟩, none_two⟩
theorem PPState.big {n k p r : Nat} (h : PPState n k p r) (hr : 1 < r) : p ≤ r := by
  obtain ⟨a, b, c, d, e, g⟩ := h
  rcases Nat.lt_or_ge r p with h1 | h1
  · have := small_one b g h1; omega
  · exact h1
theorem PPState.opened {n k p r : Nat} (h : PPState n k p r) (hr : 1 < r) : ∃ f, p + 1 + f = n + 2 ∧ (ppL n).drop k = if 1 < powGo p r r then powGo p r r :: ppGo f (p + 1) (r / powGo p r r) else ppGo f (p + 1) (r / powGo p r r) := by
  have hb := h.big hr
  obtain ⟨a, b, c, d, ⟨f, e1, e2⟩, g⟩ := h
  obtain ⟨f, rfl⟩ : ∃ g, f = g + 1 := ⟨f - 1, by omega⟩
  refine ⟨f, by omega, ?_⟩
  rw [e2, ppGo, if_neg (by omega)]
theorem PPState.yes {n k p r : Nat} (h : PPState n k p r) (hr : 1 < r) (hw : 1 < powGo p r r) : k < (ppL n).length ∧ (ppL n).getD k 0 = powGo p r r ∧ PPState n (k + 1) (p + 1) (r / powGo p r r) := by
  obtain ⟨f, f1, f2⟩ := h.opened hr
  obtain ⟨a, b, c, d, _, g⟩ := h
  rw [if_pos hw] at f2
  have hk : k < (ppL n).length := by
    rcases Nat.lt_or_ge k (ppL n).length with h1 | h1
    · exact h1
    · rw [List.drop_eq_nil_of_le h1] at f2; cases f2
  rw [List.drop_eq_getElem_cons hk] at f2
  injection f2 with f3 f4
  refine ⟨hk, by simp [List.getD, List.getElem?_eq_getElem hk, f3], by omega, powGo_rest r b, Nat.le_trans (Nat.div_le_self _ _) c, hk, ⟨f, f1, f4⟩, none_next a b (Nat.le_refl r) g⟩
theorem PPState.no {n k p r : Nat} (h : PPState n k p r) (hr : 1 < r) (hw : ¬ 1 < powGo p r r) : PPState n k (p + 1) (r / powGo p r r) := by
  obtain ⟨f, f1, f2⟩ := h.opened hr
  obtain ⟨a, b, c, d, _, g⟩ := h
  rw [if_neg hw] at f2
  exact ⟨by omega, powGo_rest r b, Nat.le_trans (Nat.div_le_self _ _) c, d, ⟨f, f1, f2⟩, none_next a b (Nat.le_refl r) g⟩
theorem PPState.done {n k p r : Nat} (h : PPState n k p r) (hr : ¬ 1 < r) : k = (ppL n).length := by
  obtain ⟨a, b, c, d, ⟨f, e1, e2⟩, g⟩ := h
  have e3 : ppGo f p r = [] := by
    cases f with
    | zero => rfl
    | succ f => rw [ppGo, if_pos (by omega)]
  rw [e3] at e2
  have := List.drop_eq_nil_iff.1 e2
  omega
/-- Where the search for the power of p stands: the power so far is w, the rest s. -/
def PowState (p r s w : Nat) : Prop := (1 ≤ s ∧ 1 ≤ w) ∧ w * s = r ∧ ∃ f, s ≤ f ∧ w * powGo p f s = powGo p r r
theorem PowState.start {p r : Nat} (hr : 1 ≤ r) : PowState p r r 1 := ⟨⟨hr, Nat.le_refl 1⟩, by omega, r, Nat.le_refl r, by omega⟩
theorem PowState.next {p r s w : Nat} (hp : 2 ≤ p) (h : PowState p r s w) (hs : s % p = 0) : PowState p r (s / p) (w * p) := by
  obtain ⟨⟨a, a2⟩, b, f, c, d⟩ := h
  have hd := Nat.dvd_of_mod_eq_zero hs
  obtain ⟨f, rfl⟩ : ∃ g, f = g + 1 := ⟨f - 1, by omega⟩
  rw [powGo, if_pos hs] at d
  have h4 : s / p < s := Nat.div_lt_self a hp
  exact ⟨⟨Nat.div_pos (Nat.le_of_dvd a hd) (by omega), Nat.mul_pos a2 (by omega)⟩, by rw [Nat.mul_assoc, Nat.mul_div_cancel' hd, b], f, by omega, by rw [Nat.mul_assoc, d]⟩
theorem PowState.done {p r s w : Nat} (h : PowState p r s w) (hs : ¬ s % p = 0) : w = powGo p r r ∧ s = r / powGo p r r := by
  obtain ⟨⟨a, a2⟩, b, f, c, d⟩ := h
  obtain ⟨f, rfl⟩ : ∃ g, f = g + 1 := ⟨f - 1, by omega⟩
  rw [powGo, if_neg hs, Nat.mul_one] at d
  refine ⟨d, ?_⟩
  rw [← d, ← b]
  exact (Nat.mul_div_cancel_left s a2).symm
theorem PowState.bd {p r s w : Nat} (h : PowState p r s w) : s ≤ r ∧ w ≤ r := by
  obtain ⟨⟨a, a2⟩, b, _⟩ := h
  exact ⟨by have := Nat.le_mul_of_pos_left s a2; omega, by have := Nat.le_mul_of_pos_right w a; omega⟩
end Go.Proofs.Ytmliglakfbeedaa
namespace Go.Proofs.Ytmliglakfbeedaa
open Go.RowKit
variable {F : Fence} {n : Nat} {P : Program} {md : Region.Mode} {l : List Oper} {o : Oper}
/-- What stands for the operation that comes last. -/
def idle (o : Oper) : Oper := { o with op := .move (.const undef) }
/-- However the operations are drawn, the one at place m comes last. -/
def comesLast (md : Region.Mode) (ops : Array Oper) (m : Nat) : Nat → Array Bool → Bool
  | 0, _ => false
  | f + 1, listed => !(Region.ready md ops listed).isEmpty && (Region.ready md ops listed).all fun i => if i = m then (Region.ready md ops (listed.setIfInBounds m true)).isEmpty else comesLast md ops m f (listed.setIfInBounds i true)
theorem idle_other (i : Nat) (h : i ≠ l.length) : (l ++ [idle o]).toArray[i]? = (l ++ [o]).toArray[i]? := by
  simp only [List.getElem?_toArray]
  rcases Nat.lt_or_ge i l.length with h1 | h1
  · rw [List.getElem?_append_left h1, List.getElem?_append_left h1]
  · rw [List.getElem?_append_right h1, List.getElem?_append_right h1]
    obtain ⟨j, hj⟩ : ∃ j, i - l.length = j + 1 := ⟨i - l.length - 1, by omega⟩
    rw [hj]; rfl
theorem last_at (x : Oper) : (l ++ [x]).toArray[l.length]? = some x := by simp
theorem idle_after (i : Nat) (g : Array Edge → Bool) : ((l ++ [idle o]).toArray[i]?).map (fun x => g x.after) = ((l ++ [o]).toArray[i]?).map (fun x => g x.after) := by
  by_cases h : i = l.length
  · subst h; rw [last_at, last_at]; rfl
  · rw [idle_other i h]
theorem idle_ready (listed : Array Bool) : Region.ready md (l ++ [idle o]).toArray listed = Region.ready md (l ++ [o]).toArray listed := by
  unfold Region.ready
  have hs : (l ++ [idle o]).toArray.size = (l ++ [o]).toArray.size := by simp
  rw [hs]
  refine List.filter_congr fun i _ => ?_
  rw [idle_after i (fun e => e.all fun e => !Region.binds md e || listed.getD e.on false)]
theorem idle_yielded (tmps : Array Value) : yielded (l ++ [idle o]).toArray tmps = yielded (l ++ [o]).toArray tmps := by
  funext j
  have : ((l ++ [idle o]).toArray[j]?).bind (·.dst) = ((l ++ [o]).toArray[j]?).bind (·.dst) := by
    by_cases h : j = l.length
    · subst h; rw [last_at, last_at]; rfl
    · rw [idle_other j h]
  unfold yielded
  rw [this]
theorem wpAnyIn_last {C : World → Prop} {r : Nat} {Q : Act → Prop} {Q' : Exit → Act → World → Prop} (hro : F.round = none) (hdst : o.dst = none) (hnd : noDefer (l ++ [o]).toArray = true)
    (h : ∀ a w, C w → Q a → wpListIn (F.inRound r) n P (l ++ [o]).toArray Q' [o] a w) :
    ∀ (f : Nat) (listed : Array Bool) (a : Act) (w : World), C w → comesLast md (l ++ [o]).toArray l.length f listed = true → wpAnyQIn F n P md (l ++ [idle o]).toArray C Q f listed a → wpAnyIn (F.inRound r) n P md (l ++ [o]).toArray Q' f listed a w
  | 0, _, _, _, _, hT, _ => by cases hT
  | f + 1, listed, a, w, hC, hT, hq => by
    simp only [comesLast, Bool.and_eq_true, Bool.not_eq_true'] at hT
    obtain ⟨hne, hall⟩ := hT
    refine ⟨fun h0 => (by rw [h0] at hne; cases hne), fun i hi => ?_⟩
    have hT := List.all_eq_true.1 hall i hi
    have hqi := hq.2 i (by rw [idle_ready]; exact hi)
    by_cases him : i = l.length
    · subst him
      rw [if_pos rfl, List.isEmpty_iff] at hT
      have hput : ∀ v, a.put (idle o).dst v = a := fun v => by
        have : (idle o).dst = none := hdst
        rw [this]; rfl
      have hQa : Q a := by
        have fin : ∀ a', wpAnyQIn F n P md (l ++ [idle o]).toArray C Q f (listed.setIfInBounds l.length true) a' → Q a' := fun a' ha' => by
          cases f with
          | zero => exact ha'.2
          | succ f => exact ha'.1 (by rw [idle_ready]; exact hT)
        unfold qOpIn at hqi
        rw [last_at] at hqi
        simp only at hqi
        obtain ⟨_, hqi⟩ := hqi
        split at hqi
        · obtain ⟨v, _, hv⟩ := hqi
          rw [hput] at hv
          exact fin _ hv
        · rw [hput] at hqi
          exact fin _ hqi
      have hL := h a w hC hQa
      have back : ∀ a' w', Q' .normal a' w' → wpAnyIn (F.inRound r) n P md (l ++ [o]).toArray Q' f (listed.setIfInBounds l.length true) a' w' := fun a' w' hw' => by
        cases f with
        | zero => exact ⟨hT, hw'⟩
        | succ f => exact ⟨fun _ => hw', fun j hj => by rw [hT] at hj; cases hj⟩
      unfold wpOpIn
      rw [last_at]
      simp only [wpListIn] at hL ⊢
      split
      · rename_i hw
        simp only [hw, if_true] at hL
        exact Oper.wpIn_mono back hL
      · rename_i hw
        simp only [hw] at hL
        exact ⟨hL.1, back _ _ hL.2⟩
    · rw [if_neg him] at hT
      refine wpOpIn_round hro hnd (wpOpIn_mono (K := fun a' w' => C w' ∧ wpAnyQIn F n P md (l ++ [idle o]).toArray C Q f (listed.setIfInBounds i true) a') (fun a' w' hk => wpAnyIn_last hro hdst hnd h f _ a' w' hk.1 hT hk.2) ?_)
      refine wpOpIn_of_qOpIn hro hC (fun a' w' hw' hk => ⟨hw', hk⟩) (K := wpAnyQIn F n P md (l ++ [idle o]).toArray C Q f (listed.setIfInBounds i true)) ?_
      unfold qOpIn at hqi ⊢
      rw [idle_other i him, idle_yielded] at hqi
      exact hqi
theorem wpQuietIn_snoc {ops : Array Oper} {C : World → Prop} {Q : Act → Prop} : ∀ (l : List Oper) (a : Act), wpQuietIn F n P ops C (wpQuietIn F n P ops C Q [o]) l a → wpQuietIn F n P ops C Q (l ++ [o]) a
  | [], _, h => h
  | x :: l, a, h => by
    refine ⟨h.1, ?_⟩
    have h2 := h.2
    split at h2
    · rename_i hw
      rw [if_pos hw]
      exact Oper.quietIn_mono (fun a' h' => wpQuietIn_snoc l a' h') h2
    · rename_i hw
      rw [if_neg hw]
      exact wpQuietIn_snoc l _ h2
theorem wpQuietIn_mono' {ops : Array Oper} {C : World → Prop} {Q Q' : Act → Prop} (hh : ∀ a, Q a → Q' a) : ∀ (l : List Oper) (a : Act), wpQuietIn F n P ops C Q l a → wpQuietIn F n P ops C Q' l a
  | [], a, h => hh a h
  | x :: l, a, h => by
    refine ⟨h.1, ?_⟩
    have h2 := h.2
    split at h2
    · rename_i hw
      rw [if_pos hw]
      exact Oper.quietIn_mono (fun a' h' => wpQuietIn_mono' hh l a' h') h2
    · rename_i hw
      rw [if_neg hw]
      exact wpQuietIn_mono' hh l _ h2
theorem idle_quiet {ops : Array Oper} {C : World → Prop} {Q : Act → Prop} (hdst : o.dst = none) (a : Act) (h : Q a) : wpQuietIn F n P ops C Q [idle o] a := by
  have hput : ∀ v, a.put (idle o).dst v = a := fun v => by
    have : (idle o).dst = none := hdst
    rw [this]; rfl
  refine ⟨fun w _ f hf => (by cases hf), ?_⟩
  split
  · refine ⟨_, fun w _ => ⟨rfl, rfl⟩, ?_⟩
    rw [hput]; exact h
  · rw [hput]; exact h
/-- **A region whose operation at place m comes last.** -/
theorem wpIn_region_last {S : World → Prop} {id r : Nat} {Q : Exit → Act → World → Prop} {a : Act} {w : World} {os L : List Oper} {o : Oper} (hos : os = L ++ [o]) (hS : S w.drew) (hro : F.round = none) (hnd : noDefer os.toArray = true) (hm : P.follows .mixedOrders = true)
    (hB : Region.lexB .any (L ++ [idle o]).toArray = true) (hT : comesLast .any os.toArray L.length os.length (Array.replicate os.length false) = true) (hdst : o.dst = none)
    (h : wpQuietIn F n P (L ++ [idle o]).toArray (fun w' => ∃ i : KeptBy S, w' = i.world) (fun a' => ∀ w', S w' → wpListIn (F.inRound r) n P os.toArray Q [o] a' w') L a) : (Code.region id os.toArray true).wpIn (F.inRound r) n P Q a w := by
  subst hos
  refine wpIn_region_any hm ?_
  simp only [Region.lexB, Bool.and_eq_true] at hB
  have hq := wpAnyQIn_lex (F := F) (n := n) (C := fun w' => ∃ i : KeptBy S, w' = i.world) (md := .any) hB.1 (L ++ [idle o]) 0 (Array.replicate (L ++ [idle o]).toArray.size false) a (by simp) (by simpa using hB.2) (wpQuietIn_snoc L a (by
    refine wpQuietIn_mono' (fun a' h' => idle_quiet hdst a' h') L a h))
  have hsz : (L ++ [idle o]).length = (L ++ [o]).length := by simp
  rw [hsz] at hq
  have := wpAnyIn_last (C := fun w' => ∃ i : KeptBy S, w' = i.world) (r := r) (Q := fun a' => ∀ w', S w' → wpListIn (F.inRound r) n P (L ++ [o]).toArray Q [o] a' w') (Q' := Q) hro hdst hnd (fun a' w' hC hQ => hQ w' (by obtain ⟨i, hi⟩ := hC; rw [hi]; exact i.ok)) _ _ a w.drew (⟨⟨w.drew, hS⟩, rfl⟩ : ∃ i : KeptBy S, w.drew = i.world) hT (by simpa using hq)
  simpa using this
theorem wpIn_region_last_at {S : World → Prop} {id r : Nat} (m : Nat) {Q : Exit → Act → World → Prop} {a : Act} {w : World} {os : List Oper} {o : Oper} (hd : os.drop m = [o]) (hS : S w.drew) (hro : F.round = none) (hnd : noDefer os.toArray = true) (hm : P.follows .mixedOrders = true)
    (hB : Region.lexB .any (os.take m ++ [idle o]).toArray = true) (hT : comesLast .any os.toArray (os.take m).length os.length (Array.replicate os.length false) = true) (hdst : o.dst = none)
    (h : wpQuietIn F n P (os.take m ++ [idle o]).toArray (fun w' => ∃ i : KeptBy S, w' = i.world) (fun a' => ∀ w', S w' → wpListIn (F.inRound r) n P os.toArray Q [o] a' w') (os.take m) a) : (Code.region id os.toArray true).wpIn (F.inRound r) n P Q a w :=
  wpIn_region_last (by rw [← hd, List.take_append_drop]) hS hro hnd hm hB hT hdst h
end Go.Proofs.Ytmliglakfbeedaa
namespace Go.Proofs.Ytmliglakfbeedaa
open Go.RowKit
/-- Whatever is neither cells nor a map or what goes through one lies as it lay. -/
structure KeepsRecs (W W' : World) : Prop where
  size : W.heap.size ≤ W'.heap.size
  same : ∀ (j : Nat) (o : Obj), W.heap[j]? = some o → o.isCells = false → o.isWalk = false → W'.heap[j]? = some o
theorem keepsOthers_recs {W W' : World} (h : KeepsOthers W W') : KeepsRecs W W' := ⟨h.size, fun j o h1 h2 _ => h.same j o h1 h2⟩
theorem KeepsRecs.trans {A B C : World} (h : KeepsRecs A B) (k : KeepsRecs B C) : KeepsRecs A C := ⟨Nat.le_trans h.size k.size, fun j o h1 h2 h3 => k.same j o (h.same j o h1 h2 h3) h2 h3⟩
theorem KeepsRecs.map {W W' : World} {b : Nat} (hg : W.grownBy W' (some b)) (hb : ∃ es c, W.heap[b]? = some (.map es c)) : KeepsRecs W W' := by
  refine ⟨hg.size, fun j o h1 h2 h3 => ?_⟩
  obtain ⟨es, c, hb⟩ := hb
  have hne : j ≠ b := fun e => by subst e; rw [hb] at h1; injection h1 with h1; subst h1; cases h3
  exact (hg.block j (Array.getElem?_eq_some_iff.1 h1).1 (fun e => hne (by injection e))).trans h1
theorem Held.recs {w A B : World} {o : Obj} (h : Held w A o) (ho : o.isCells = false) (hw : o.isWalk = false) (hk : KeepsRecs A B) : Held w B o := ⟨hk.same _ _ h.1 ho hw, hk.same _ _ h.2 rfl rfl⟩
/-- How the body of round k may end. -/
def countEndM (I : Nat → World → Prop) (X : Code → Nat → World → Prop) (k : Nat) (W : World) : Exit → Act → World → Prop
  | .normal, _, V => KeepsRecs W V ∧ I (k + 1) V
  | .ret, _, V => KeepsRecs W V ∧ X .ret k V
  | .exit id, _, V => KeepsRecs W V ∧ X (.exit id) k V
  | .goto t, _, V => KeepsRecs W V ∧ X (.goto t) k V
  | .panic _, _, _ => False
  | .outgrown, _, _ => False
variable {F : Fence} {n : Nat} {P : Program}
/-- **The statement 'for x := range f', f an iterator of N rounds.** -/
theorem wpIn_rangeFunc_counted_map {g : Operand} {ps : Array Tmp} {assign body : Code} {Q : Exit → Act → World → Prop} {a : Act} {w : World}
    (hro : F.round = none) (h1 : 1 ≤ n) {gf : Nat} {lb : Array Value} (hg : a.eval g = .func (.func gf) #[] lb) (hFg : F.fn gf) (eg : ∀ args V, (callFunc gf args).run P V = .ok (.enter gf args) V)
    {at_ : Nat → Array Value} {Kp : World → Prop} {N : Nat} {w0 : World} (hseq : Counted F (n - 1) P gf lb at_ Kp N w0) (hb0 : Below w0.heap.size w0 w) (hps : ∀ k, (at_ k).size = ps.size)
    (I : Nat → World → Prop) (X : Code → Nat → World → Prop) (hI : OwnFrom w.heap.size I) (hX : ∀ c, OwnFrom w.heap.size (X c)) (hKp : ∀ k V, I k V → Kp V) (h0 : I 0 w) (a₁ : Nat → Act)
    (hassign : ∀ (l k : Nat) (W : World) (K : Act → World → Prop), K (a₁ k) W →
      assign.wpIn (F.inRound l) (n - 1 - 1) P (Exit.then K (fun _ _ _ => False)) { tmps := (ps.zip (at_ k)).foldl (fun t (p, v) => t.setIfInBounds p v) a.tmps, defers := [] } W)
    (hbody : ∀ (l k : Nat) (W : World), k < N → I k W → body.wpIn (F.inRound l) (n - 1 - 1) P (countEndM I X k W) (a₁ k) W)
    (hdone : ∀ (D : Nat) (W : World), w.heap.size ≤ D → I N W → W.heap[D]? = some (.deferred (some [])) → Q .normal { a with defers := { target := .collected D, args := #[] } :: a.defers } W)
    (hstop : ∀ (D k : Nat) (c : Code) (W : World), w.heap.size ≤ D → k < N → X c k W → W.heap[D]? = some (.deferred (some [])) → c.wpIn F n P Q { a with defers := { target := .collected D, args := #[] } :: a.defers } W) :
    (Code.rangeFunc g ps assign body).wpIn F n P Q a w := by
  refine wpIn_rangeFunc fun fn hfn => ?_
  rw [hro]
  obtain ⟨rec, hrec⟩ : ∃ rec : LoopState → Option Code → Obj, rec = recordOf w fn a ps assign body := ⟨_, rfl⟩
  have held : Held w ((w.alloc (.deferred (some []))).alloc (rec .ready none)) (rec .ready none) := by
    refine ⟨?_, (Below.heap_alloc _ _ _ (by simp)).trans (World.alloc_heap_new w _)⟩
    have := World.alloc_heap_new (w.alloc (.deferred (some []))) (rec .ready none)
    rwa [World.size_alloc] at this
  have hI1 : I 0 ((w.alloc (.deferred (some []))).alloc (rec .ready none)) := hI.alloc _ (hI.alloc _ h0)
  have hb1 : Below w0.heap.size w0 ((w.alloc (.deferred (some []))).alloc (rec .ready none)) := hb0.trans ((((Below.refl _ w).alloc (Nat.le_refl _) _).alloc (by simp) _).mono hb0.size)
  have hsz : w.heap.size ≤ ((w.alloc (.deferred (some []))).alloc (rec .ready none)).heap.size := by simp; omega
  obtain ⟨W1, hW1⟩ : ∃ W1, (w.alloc (.deferred (some []))).alloc (rec .ready none) = W1 := ⟨_, rfl⟩
  rw [hW1] at held hI1 hb1 hsz
  refine ⟨w.heap.size + 1, [{ target := .collected w.heap.size, args := #[] }], W1, { target := .fn (.func gf) lb, args := #[.func (.yield (w.heap.size + 1)) #[] #[]] }, W1, gf, #[.func (.yield (w.heap.size + 1)) #[] #[]] ++ lb, W1,
    by rw [← hW1, hrec]; exact run_enterLoop_outer _ _ _ _ _, by simp only [resolve, hg]; simp [go_sem], fun f' hf' => by simp [Target.leads] at hf'; subst hf'; exact hFg, by simp [invoke, go_sem, eg], fun _ => h1, ?_⟩
  have nowalk : ∀ {A : World} {row : Option Nat}, (∀ r, row = some r → W1.heap.size ≤ r ∧ ∃ o : Obj, A.heap[r]? = some o ∧ o.isWalk = true) → (∀ r, row = some r → w.heap.size ≤ r ∧ ∃ o : Obj, A.heap[r]? = some o ∧ o.isCells = false) :=
    fun hr r e => by obtain ⟨hB, o, ho, hw⟩ := hr r e; exact ⟨by omega, o, ho, Obj.not_cells_of_walk hw⟩
  have recW : ∀ st pe, (rec st pe).isWalk = false := fun _ _ => by rw [hrec]; rfl
  have recC : ∀ st pe, (rec st pe).isCells = false := fun _ _ => by rw [hrec]; rfl
  refine (hseq (w.heap.size + 1) (fun k W => I k W ∧ Held w W (rec .ready none)) (fun k W => ∃ c, X c k W ∧ Held w W (rec .done (some c))) W1 hb1
    (fun s A B row hs hg' hr => ⟨hI s A B row hs.1 hg' (nowalk hr), hs.2.kept (recW _ _) hg' (fun r e => (hr r e).2)⟩)
    (fun s A B row hs hg' hr => by obtain ⟨c, hc, hh⟩ := hs; exact ⟨c, hX c s A B row hc hg' (nowalk hr), hh.kept (recW _ _) hg' (fun r e => (hr r e).2)⟩)
    (fun k V hj => hKp k V hj.1) ?round ⟨hI1, held⟩).mono ?behind
  case round =>
    rintro k W hk ⟨hi, hh⟩
    have hl : W.heap[w.heap.size + 1]? = some (.loop { state := .ready, pending := none, fn := fn, tmps := a.tmps, params := ps, assign := assign, body := body, defers := w.heap.size }) := by have := hh.1; rw [hrec] at this; exact this
    refine ⟨fn, _, assign, body, run_yield (P := P) (args := at_ k) hl (hps k), roundIn_of_wpIn hfn (hassign _ k W _ ⟨_, run_beginRound hl rfl, ?_⟩)⟩
    have busy : Held w (W.putObj (w.heap.size + 1) (rec .busy none)) (rec .busy none) := hh.turned _
    have hi2 : I k (W.putObj (w.heap.size + 1) (rec .busy none)) := hI.putObj _ hi (by omega) hl rfl
    have fin : ∀ (jump : Option Code) (V : World), KeepsRecs (W.putObj (w.heap.size + 1) (rec .busy none)) V → ∃ r : Loop, V.heap[w.heap.size + 1]? = some (.loop r) ∧
        (Instr.endRound (w.heap.size + 1) jump).run P V = .ok (.bool jump.isNone) (V.putObj (w.heap.size + 1) (rec (if jump.isNone then .ready else .done) jump)) ∧ Held w (V.putObj (w.heap.size + 1) (rec (if jump.isNone then .ready else .done) jump)) (rec (if jump.isNone then .ready else .done) jump) := fun jump V hkV => by
      have hv := busy.recs (recC _ _) (recW _ _) hkV
      have hv1 := hv.1
      rw [hrec] at hv1
      have hr := run_endRound (P := P) jump hv1
      refine ⟨_, hv1, ?_, hv.turned _⟩
      rw [hrec]; exact hr
    rw [hrec] at hi2 busy
    refine wpIn_mono (hbody _ k _ hk hi2) ?_
    rintro e a3 V hp
    have stop : ∀ c : Code, KeepsRecs (W.putObj (w.heap.size + 1) (recordOf w fn a ps assign body .busy none)) V ∧ X c k V →
        ∃ v V', (Instr.endRound (w.heap.size + 1) (some c)).run P V = .ok v V' ∧ ((Ending.returned v = .returned (.bool true) ∧ (I (k + 1) V' ∧ Held w V' (rec .ready none))) ∨ (Ending.returned v = .returned (.bool false) ∧ ∃ c, X c k V' ∧ Held w V' (rec .done (some c)))) := fun c hc => by
      obtain ⟨r, hl3, hr, hh3⟩ := fin (some c) V (by rw [hrec]; exact hc.1)
      exact ⟨_, _, hr, .inr ⟨rfl, c, (hX c).putObj _ hc.2 (by omega) hl3 rfl, hh3⟩⟩
    cases e with
    | normal =>
      obtain ⟨hk3, hi3⟩ := hp
      obtain ⟨r, hl3, hr, hh3⟩ := fin none V (by rw [hrec]; exact hk3)
      exact ⟨_, _, hr, .inl ⟨rfl, hI.putObj _ hi3 (by omega) hl3 rfl, hh3⟩⟩
    | ret => exact stop _ hp
    | exit id => exact stop _ hp
    | goto t => exact stop _ hp
    | panic ch => exact hp.elim
    | outgrown => exact hp.elim
  case behind =>
    rintro e V ⟨⟨v, rfl⟩, (⟨hi, hh⟩ | ⟨k, hk, c, hc, hh⟩)⟩
    · have hl := hh.1
      rw [hrec] at hl
      refine ⟨none, _, run_endLoop (P := P) hl (by simp), hdone _ _ (Nat.le_refl _) (hI.putObj _ hi (by omega) hl rfl) ?_⟩
      exact (World.putObj_heap_other (by omega)).trans hh.2
    · have hl := hh.1
      rw [hrec] at hl
      refine ⟨some c, _, run_endLoop (P := P) hl (by simp), hstop _ k c _ (Nat.le_refl _) hk ((hX c).putObj _ hc (by omega) hl rfl) ?_⟩
      exact (World.putObj_heap_other (by omega)).trans hh.2
end Go.Proofs.Ytmliglakfbeedaa
namespace Go.Proofs.Ytmliglakfbeedaa
open Go.RowKit
/-- What a draw of a pair and a number returns. -/
def DrawnOne (w : World) (e : Ending) (w' : World) : Prop :=
  ∃ p q a : Int, e = .returned (.tuple #[pr p q, .int .i64 a]) ∧ -6 ≤ p ∧ p ≤ 100 ∧ -6 ≤ q ∧ q ≤ 100 ∧ -60 ≤ a ∧ a ≤ 60 ∧ Below w.heap.size w w'
/-- What a draw of a pair and two numbers returns. -/
def DrawnBoth (w : World) (e : Ending) (w' : World) : Prop :=
  ∃ p q a b : Int, e = .returned (.tuple #[pr p q, .int .i64 a, .int .i64 b]) ∧ -6 ≤ p ∧ p ≤ 100 ∧ -6 ≤ q ∧ q ≤ 100 ∧ -60 ≤ a ∧ a ≤ 60 ∧ -60 ≤ b ∧ b ≤ 60 ∧ Below w.heap.size w w'
end Go.Proofs.Ytmliglakfbeedaa
namespace Go.Proofs.Ytmliglakfbeedaa
open Go.RowKit
theorem six {v : Int} (h0 : 0 ≤ v) (h1 : v ≤ 5) : v = 0 ∨ v = 1 ∨ v = 2 ∨ v = 3 ∨ v = 4 ∨ v = 5 := by omega
end Go.Proofs.Ytmliglakfbeedaa
namespace Go.Proofs.Ytmliglakfbeedaa
open Go.RowKit
theorem apartB_neg (p q : Int) : apartB (-p) q = apartB p q := by
  have h : pairB (-p) q = pairB p q := by
    have h2 := pairB_neg p q
    simp only [pairB, numB] at *
    have : decide (-4 ≤ -p ∧ -p ≤ 4) = decide (-4 ≤ p ∧ p ≤ 4) := decide_eq_decide.2 (by omega)
    rw [this]
  rw [apartB, apartB, h, Int.neg_gcd]
theorem apartB_neg2 (p q : Int) : apartB p (-q) = apartB p q := by
  have h : pairB p (-q) = pairB p q := by
    simp only [pairB, numB]
    have : decide (-4 ≤ -q ∧ -q ≤ 4) = decide (-4 ≤ q ∧ q ≤ 4) := decide_eq_decide.2 (by omega)
    rw [this]
  rw [apartB, apartB, h, Int.gcd_neg]
theorem apartB_apart {p q : Int} (h : apartB p q = true) : pairB p q = true ∧ Apart p q := by
  have h' : pairB p q = true ∧ Int.gcd p q = 1 := by simpa [apartB] using h
  exact ⟨h'.1, apart_gcd.1 h'.2⟩
end Go.Proofs.Ytmliglakfbeedaa
namespace Go.Proofs.Ytmliglakfbeedaa
open Go.RowKit
set_option maxHeartbeats 2000000 in
theorem ascend_yes (B C n : Nat) (v : Value) (f : Nat → Int) (w : World) (h : IsInts B C w v n f) (hn : n ≤ 1000000) (hasc : ∀ i, i + 1 < n → f i < f (i + 1)) :
    Calls Try.prog 31 #[v] w fun e w' => e = .returned (.bool true) ∧ Below w.heap.size w w' := by
  obtain ⟨a, ca, rfl, hC, hs⟩ := h
  go_enter Try.func31, Try.ntmps31
  go_wp2_with fail
  go_loopw [3] (fun c wr => ∃ i : Nat, (i < n ∨ i = 0) ∧ c = .int .i64 ((i : Int) + 1) ∧ Below w.heap.size w wr) (fun c _ => n + 1 - (intOf c).toNat)
  case atStart => exact ⟨0, .inr rfl, rfl, Below.refl _ _⟩
  case round =>
    obtain ⟨i, hi, rfl, hB⟩ := hrel
    by_cases hlt : i + 1 < n
    · rcases hs with rfl | ⟨g, off, rfl, h1, h2, hc, hf⟩
      · omega
      have c1 : wr.cell? ⟨g, off + i, none⟩ = some (.int .i64 (f i)) := (hB.cell (p := ⟨g, off + i, none⟩) (by show g < _; omega)).trans (hc i (by omega))
      have c2 : wr.cell? ⟨g, off + (i + 1), none⟩ = some (.int .i64 (f (i + 1))) := (hB.cell (p := ⟨g, off + (i + 1), none⟩) (by show g < _; omega)).trans (hc (i + 1) hlt)
      have hz := hB.size
      have hd : decide (f (i + 1) ≤ f i) = false := by have := hasc i hlt; simp; omega
      have iy0 : (0 : Int) ≤ (i : Int) + 1 := by omega
      have iy1 : (i : Int) + 1 < (n : Int) := by omega
      have iy2 : ((i : Int) + 1).toNat = i + 1 := by omega
      have iz0 : (0 : Int) ≤ (i : Int) := by omega
      have iz1 : (i : Int) < (n : Int) := by omega
      have V1 : IntKind.i64.wrap ((i : Int) + 1 - 1) = (i : Int) := by rw [IntKind.wrap_i64]; omega
      have V2 : IntKind.i64.wrap (i : Int) = (i : Int) := by rw [IntKind.wrap_i64]; omega
      clear hc hf hasc
      go_wp2
      go_quiet (fail)
      go_wp2
      go_roundw
      case rel => exact ⟨i + 1, by omega, congrArg (Value.int .i64) (by omega), below_drewN hB _⟩
      case measure => simp [intOf]; omega
    · have hge : (n : Int) ≤ (i : Int) + 1 := by omega
      clear hs hasc
      go_wp2
      go_ret
      exact ⟨rfl, hB⟩
end Go.Proofs.Ytmliglakfbeedaa
namespace Go.Proofs.Ytmliglakfbeedaa
open Go.RowKit
end Go.Proofs.Ytmliglakfbeedaa
