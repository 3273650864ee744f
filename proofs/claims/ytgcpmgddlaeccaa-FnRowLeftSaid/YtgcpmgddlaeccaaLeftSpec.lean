/- FarFirst, FarSecond, PowerLeft and RowLeft of the model: what they return. -/
import Derived.Test.YtgcpmgddlaeccaaLeftModel
import Derived.Test.YtgcpmgddlaeccaaLists
import Derived.Test.YtgcpmgddlaeccaaRowsModel
namespace Go.Proofs.Ytgcpmgddlaeccaa
open Go.RowKit
/-- Whether there is something left: a pair, a place far on, a number by which is divided; and how much, -1 for others. -/
def farB (p q n m : Int) : Bool := pairB p q && (inB n 0 1000000000 && inB m 1 10000)
def farFirstV (p q n m : Int) : Int := if farB p q n m = true then row p q 0 1 n.toNat % m else -1
def farSecondV (p q n m : Int) : Int := if farB p q n m = true then row p q 2 p n.toNat % m else -1
def powB (a t m : Int) : Bool := inB a (-10000) 10000 && (inB t 0 1000000000 && inB m 1 10000)
def powLeftV (a t m : Int) : Int := if powB a t m = true then a ^ t.toNat % m else -1
def rowLeftB (p q n m : Int) : Bool := pairB p q && (inB n 0 200 && inB m 1 10000)
/-- How many numbers RowLeft returns. -/
def rowLeftN (p q n m : Int) : Nat := if rowLeftB p q n m = true then n.toNat + 1 else 0
theorem farB_true {p q n m : Int} (h : farB p q n m = true) : pairB p q = true ∧ (∃ k : Nat, n = k ∧ k ≤ 1000000000) ∧ 1 ≤ m ∧ m ≤ 10000 := by
  have h' : pairB p q = true ∧ inB n 0 1000000000 = true ∧ inB m 1 10000 = true := by simpa [farB] using h
  obtain ⟨hp, ha, hb⟩ := h'
  obtain ⟨a1, a2⟩ := inB_true ha
  obtain ⟨b1, b2⟩ := inB_true hb
  exact ⟨hp, ⟨n.toNat, by omega, by omega⟩, b1, b2⟩
theorem powB_true {a t m : Int} (h : powB a t m = true) : (-10000 ≤ a ∧ a ≤ 10000) ∧ (∃ k : Nat, t = k ∧ k ≤ 1000000000) ∧ 1 ≤ m ∧ m ≤ 10000 := by
  have h' : inB a (-10000) 10000 = true ∧ inB t 0 1000000000 = true ∧ inB m 1 10000 = true := by simpa [powB] using h
  obtain ⟨ht, ha, hb⟩ := h'
  obtain ⟨a1, a2⟩ := inB_true ha
  obtain ⟨b1, b2⟩ := inB_true hb
  exact ⟨inB_true ht, ⟨t.toNat, by omega, by omega⟩, b1, b2⟩
theorem rowLeftB_true {p q n m : Int} (h : rowLeftB p q n m = true) : pairB p q = true ∧ (∃ k : Nat, n = k ∧ k ≤ 200) ∧ 1 ≤ m ∧ m ≤ 10000 := by
  have h' : pairB p q = true ∧ inB n 0 200 = true ∧ inB m 1 10000 = true := by simpa [rowLeftB] using h
  obtain ⟨hp, ha, hb⟩ := h'
  obtain ⟨a1, a2⟩ := inB_true ha
  obtain ⟨b1, b2⟩ := inB_true hb
  exact ⟨hp, ⟨n.toNat, by omega, by omega⟩, b1, b2⟩
theorem l1In_is (n a b : Int) (c : Bool) (w : World) (h : inB n a b = c) : Calls Try.prog 41 #[.int .i64 n, .int .i64 a, .int .i64 b] w fun e w' => e = .returned (.bool c) ∧ w = w' := by have := l1In_any n a b w; rw [h] at this; exact this
theorem farB_ways {p q n m : Int} (h : farB p q n m = false) : pairB p q = false ∨ (pairB p q = true ∧ inB n 0 1000000000 = false) ∨ (pairB p q = true ∧ inB n 0 1000000000 = true ∧ inB m 1 10000 = false) := by
  cases hp : pairB p q with
  | false => exact .inl rfl
  | true =>
    cases ha : inB n 0 1000000000 with
    | false => exact .inr (.inl ⟨rfl, rfl⟩)
    | true => exact .inr (.inr ⟨rfl, rfl, by simpa [farB, hp, ha] using h⟩)
theorem rowLeftB_ways {p q n m : Int} (h : rowLeftB p q n m = false) : pairB p q = false ∨ (pairB p q = true ∧ inB n 0 200 = false) ∨ (pairB p q = true ∧ inB n 0 200 = true ∧ inB m 1 10000 = false) := by
  cases hp : pairB p q with
  | false => exact .inl rfl
  | true =>
    cases ha : inB n 0 200 with
    | false => exact .inr (.inl ⟨rfl, rfl⟩)
    | true => exact .inr (.inr ⟨rfl, rfl, by simpa [rowLeftB, hp, ha] using h⟩)
set_option maxHeartbeats 4000000 in
theorem specFarFirst_any (p q n m : Int) (w : World) :
    Calls Try.prog 13 #[pr p q, .int .i64 n, .int .i64 m] w fun e w' => e = .returned (.int .i64 (farFirstV p q n m)) ∧ Below w.heap.size w w' := by
  cases h : farB p q n m with
  | true =>
    obtain ⟨hp, ⟨k, rfl, hk⟩, m1, m2⟩ := farB_true h
    obtain ⟨⟨r1, r2⟩, r3, r4⟩ := pairB_true hp
    have HV := Lib.hid (show farFirstV p q k m = row p q 0 1 k % m by rw [farFirstV, if_pos h]; rfl)
    have HA := Lib.hid (inB_mk (n := (k : Int)) (a := 0) (b := 1000000000) (by omega) (by omega))
    have HB := Lib.hid (inB_mk (n := m) (a := 1) (b := 10000) m1 m2)
    have m3 : m ≤ 1000000000000 := by omega
    have HP := Lib.hid hp
    rw [HV.out]
    clear hp h
    go_enter Try.func13, Try.ntmps13
    go_wp2_with fail
    refine (specPairOk_yes p q _ HP.out).mono ?_
    rintro e w1 ⟨rfl, hh1⟩
    obtain ⟨hc1, hf1⟩ := bcell hh1
    have hz1 := hh1.size
    try simp only [World.size_alloc] at hz1
    have hz1_0 : w.heap.size < w1.heap.size := by omega
    have kb1_0_0 : w1.cell? ⟨w.heap.size, 0, none⟩ = some (.int .i64 p) := by go_simp
    have kf1_0_0 : w1.frozen? ⟨w.heap.size, 0, none⟩ = false := by go_simp
    have kb1_0_1 : w1.cell? ⟨w.heap.size, 1, none⟩ = some (.int .i64 q) := by go_simp
    have kf1_0_1 : w1.frozen? ⟨w.heap.size, 1, none⟩ = false := by go_simp
    clear hc1 hf1
    go_wp2_with fail
    refine (l1In_is _ 0 1000000000 true _ HA.out).mono ?_
    rintro e wx ⟨rfl, rfl⟩
    go_wp2_with fail
    refine (l1In_is m 1 10000 true _ HB.out).mono ?_
    rintro e wx ⟨rfl, rfl⟩
    go_wp2_with fail
    refine (l3Both_any p q m r1 r2 r3 r4 m1 m2 k k _ _ (Nat.le_refl _) (by omega) rfl).mono ?_
    rintro e w2 ⟨rfl, hh2⟩
    obtain ⟨hc2, hf2⟩ := bcell hh2
    have hz2 := hh2.size
    try simp only [World.size_alloc] at hz2
    have kb2_0_0 : w2.cell? ⟨w.heap.size, 0, none⟩ = some (.int .i64 p) := by go_simp
    have kf2_0_0 : w2.frozen? ⟨w.heap.size, 0, none⟩ = false := by go_simp
    have kb2_0_1 : w2.cell? ⟨w.heap.size, 1, none⟩ = some (.int .i64 q) := by go_simp
    have kf2_0_1 : w2.frozen? ⟨w.heap.size, 1, none⟩ = false := by go_simp
    clear hc2 hf2
    skip
    go_wp2_with fail
    go_wp2
    go_ret
    exact ⟨rfl, by (repeat (first | exact Below.refl _ _ | refine Below.setCell ?_ (by first | omega | (simp <;> omega)) _ | refine Below.alloc ?_ (by first | omega | (simp <;> omega)) _ | refine Below.drew ?_ | refine Below.trans ?_ (Below.mono (by assumption) (by first | omega | (simp <;> omega))) | refine Below.grown ?_ (by assumption) (by first | omega | (simp <;> omega)) (fun k e => by cases e; first | omega | (simp <;> omega))))⟩
  | false =>
    have HV := Lib.hid (show farFirstV p q n m = -1 by rw [farFirstV, if_neg (by simp [h])])
    rw [HV.out]
    rcases farB_ways h with hp | ⟨hp, ha⟩ | ⟨hp, ha, hb⟩
    · have HP := Lib.hid hp
      clear hp h
      go_enter Try.func13, Try.ntmps13
      go_wp2_with fail
      refine (specPairOk_no p q _ HP.out).mono ?_
      rintro e w1 ⟨rfl, hh1⟩
      obtain ⟨hc1, hf1⟩ := bcell hh1
      have hz1 := hh1.size
      try simp only [World.size_alloc] at hz1
      have hz1_0 : w.heap.size < w1.heap.size := by omega
      have kb1_0_0 : w1.cell? ⟨w.heap.size, 0, none⟩ = some (.int .i64 p) := by go_simp
      have kf1_0_0 : w1.frozen? ⟨w.heap.size, 0, none⟩ = false := by go_simp
      have kb1_0_1 : w1.cell? ⟨w.heap.size, 1, none⟩ = some (.int .i64 q) := by go_simp
      have kf1_0_1 : w1.frozen? ⟨w.heap.size, 1, none⟩ = false := by go_simp
      clear hc1 hf1
      go_wp2
      go_ret
      exact ⟨rfl, by (repeat (first | exact Below.refl _ _ | refine Below.setCell ?_ (by first | omega | (simp <;> omega)) _ | refine Below.alloc ?_ (by first | omega | (simp <;> omega)) _ | refine Below.drew ?_ | refine Below.trans ?_ (Below.mono (by assumption) (by first | omega | (simp <;> omega))) | refine Below.grown ?_ (by assumption) (by first | omega | (simp <;> omega)) (fun k e => by cases e; first | omega | (simp <;> omega))))⟩
    · have HP := Lib.hid hp
      have HA := Lib.hid ha
      clear hp ha h
      go_enter Try.func13, Try.ntmps13
      go_wp2_with fail
      refine (specPairOk_yes p q _ HP.out).mono ?_
      rintro e w1 ⟨rfl, hh1⟩
      obtain ⟨hc1, hf1⟩ := bcell hh1
      have hz1 := hh1.size
      try simp only [World.size_alloc] at hz1
      have hz1_0 : w.heap.size < w1.heap.size := by omega
      have kb1_0_0 : w1.cell? ⟨w.heap.size, 0, none⟩ = some (.int .i64 p) := by go_simp
      have kf1_0_0 : w1.frozen? ⟨w.heap.size, 0, none⟩ = false := by go_simp
      have kb1_0_1 : w1.cell? ⟨w.heap.size, 1, none⟩ = some (.int .i64 q) := by go_simp
      have kf1_0_1 : w1.frozen? ⟨w.heap.size, 1, none⟩ = false := by go_simp
      clear hc1 hf1
      go_wp2_with fail
      refine (l1In_is n 0 1000000000 false _ HA.out).mono ?_
      rintro e wx ⟨rfl, rfl⟩
      go_wp2
      go_ret
      exact ⟨rfl, by (repeat (first | exact Below.refl _ _ | refine Below.setCell ?_ (by first | omega | (simp <;> omega)) _ | refine Below.alloc ?_ (by first | omega | (simp <;> omega)) _ | refine Below.drew ?_ | refine Below.trans ?_ (Below.mono (by assumption) (by first | omega | (simp <;> omega))) | refine Below.grown ?_ (by assumption) (by first | omega | (simp <;> omega)) (fun k e => by cases e; first | omega | (simp <;> omega))))⟩
    · have HP := Lib.hid hp
      have HA := Lib.hid ha
      have HB := Lib.hid hb
      clear hp ha hb h
      go_enter Try.func13, Try.ntmps13
      go_wp2_with fail
      refine (specPairOk_yes p q _ HP.out).mono ?_
      rintro e w1 ⟨rfl, hh1⟩
      obtain ⟨hc1, hf1⟩ := bcell hh1
      have hz1 := hh1.size
      try simp only [World.size_alloc] at hz1
      have hz1_0 : w.heap.size < w1.heap.size := by omega
      have kb1_0_0 : w1.cell? ⟨w.heap.size, 0, none⟩ = some (.int .i64 p) := by go_simp
      have kf1_0_0 : w1.frozen? ⟨w.heap.size, 0, none⟩ = false := by go_simp
      have kb1_0_1 : w1.cell? ⟨w.heap.size, 1, none⟩ = some (.int .i64 q) := by go_simp
      have kf1_0_1 : w1.frozen? ⟨w.heap.size, 1, none⟩ = false := by go_simp
      clear hc1 hf1
      go_wp2_with fail
      refine (l1In_is n 0 1000000000 true _ HA.out).mono ?_
      rintro e wx ⟨rfl, rfl⟩
      go_wp2_with fail
      refine (l1In_is m 1 10000 false _ HB.out).mono ?_
      rintro e wx ⟨rfl, rfl⟩
      go_wp2
      go_ret
      exact ⟨rfl, by (repeat (first | exact Below.refl _ _ | refine Below.setCell ?_ (by first | omega | (simp <;> omega)) _ | refine Below.alloc ?_ (by first | omega | (simp <;> omega)) _ | refine Below.drew ?_ | refine Below.trans ?_ (Below.mono (by assumption) (by first | omega | (simp <;> omega))) | refine Below.grown ?_ (by assumption) (by first | omega | (simp <;> omega)) (fun k e => by cases e; first | omega | (simp <;> omega))))⟩
set_option maxHeartbeats 4000000 in
theorem specFarSecond_any (p q n m : Int) (w : World) :
    Calls Try.prog 19 #[pr p q, .int .i64 n, .int .i64 m] w fun e w' => e = .returned (.int .i64 (farSecondV p q n m)) ∧ Below w.heap.size w w' := by
  cases h : farB p q n m with
  | true =>
    obtain ⟨hp, ⟨k, rfl, hk⟩, m1, m2⟩ := farB_true h
    obtain ⟨⟨r1, r2⟩, r3, r4⟩ := pairB_true hp
    have HV := Lib.hid (show farSecondV p q k m = row p q 2 p k % m by rw [farSecondV, if_pos h]; rfl)
    have HA := Lib.hid (inB_mk (n := (k : Int)) (a := 0) (b := 1000000000) (by omega) (by omega))
    have HB := Lib.hid (inB_mk (n := m) (a := 1) (b := 10000) m1 m2)
    have m3 : m ≤ 1000000000000 := by omega
    have HP := Lib.hid hp
    rw [HV.out]
    clear hp h
    go_enter Try.func19, Try.ntmps19
    go_wp2_with fail
    refine (specPairOk_yes p q _ HP.out).mono ?_
    rintro e w1 ⟨rfl, hh1⟩
    obtain ⟨hc1, hf1⟩ := bcell hh1
    have hz1 := hh1.size
    try simp only [World.size_alloc] at hz1
    have hz1_0 : w.heap.size < w1.heap.size := by omega
    have kb1_0_0 : w1.cell? ⟨w.heap.size, 0, none⟩ = some (.int .i64 p) := by go_simp
    have kf1_0_0 : w1.frozen? ⟨w.heap.size, 0, none⟩ = false := by go_simp
    have kb1_0_1 : w1.cell? ⟨w.heap.size, 1, none⟩ = some (.int .i64 q) := by go_simp
    have kf1_0_1 : w1.frozen? ⟨w.heap.size, 1, none⟩ = false := by go_simp
    clear hc1 hf1
    go_wp2_with fail
    refine (l1In_is _ 0 1000000000 true _ HA.out).mono ?_
    rintro e wx ⟨rfl, rfl⟩
    go_wp2_with fail
    refine (l1In_is m 1 10000 true _ HB.out).mono ?_
    rintro e wx ⟨rfl, rfl⟩
    go_wp2_with fail
    refine (l3Both_any p q m r1 r2 r3 r4 m1 m2 k k _ _ (Nat.le_refl _) (by omega) rfl).mono ?_
    rintro e w2 ⟨rfl, hh2⟩
    obtain ⟨hc2, hf2⟩ := bcell hh2
    have hz2 := hh2.size
    try simp only [World.size_alloc] at hz2
    have kb2_0_0 : w2.cell? ⟨w.heap.size, 0, none⟩ = some (.int .i64 p) := by go_simp
    have kf2_0_0 : w2.frozen? ⟨w.heap.size, 0, none⟩ = false := by go_simp
    have kb2_0_1 : w2.cell? ⟨w.heap.size, 1, none⟩ = some (.int .i64 q) := by go_simp
    have kf2_0_1 : w2.frozen? ⟨w.heap.size, 1, none⟩ = false := by go_simp
    clear hc2 hf2
    obtain ⟨a0, a1⟩ := left_bd (row p q 0 1 k) m m1
    obtain ⟨b0, b1⟩ := left_bd (row p q 0 1 (k + 1)) m m1
    obtain ⟨x1, x2⟩ := mul_bd (b := 10000) r1 r2 (show -10000 ≤ row p q 0 1 k % m by omega) (by omega)
    have E := Lib.hid (far_second p q m k)
    go_wp2_with fail
    refine (l3Left_at _ _ _ _ m1 m3 E.out).mono ?_
    rintro e wx ⟨rfl, rfl⟩
    go_wp2
    go_ret
    exact ⟨rfl, by (repeat (first | exact Below.refl _ _ | refine Below.setCell ?_ (by first | omega | (simp <;> omega)) _ | refine Below.alloc ?_ (by first | omega | (simp <;> omega)) _ | refine Below.drew ?_ | refine Below.trans ?_ (Below.mono (by assumption) (by first | omega | (simp <;> omega))) | refine Below.grown ?_ (by assumption) (by first | omega | (simp <;> omega)) (fun k e => by cases e; first | omega | (simp <;> omega))))⟩
  | false =>
    have HV := Lib.hid (show farSecondV p q n m = -1 by rw [farSecondV, if_neg (by simp [h])])
    rw [HV.out]
    rcases farB_ways h with hp | ⟨hp, ha⟩ | ⟨hp, ha, hb⟩
    · have HP := Lib.hid hp
      clear hp h
      go_enter Try.func19, Try.ntmps19
      go_wp2_with fail
      refine (specPairOk_no p q _ HP.out).mono ?_
      rintro e w1 ⟨rfl, hh1⟩
      obtain ⟨hc1, hf1⟩ := bcell hh1
      have hz1 := hh1.size
      try simp only [World.size_alloc] at hz1
      have hz1_0 : w.heap.size < w1.heap.size := by omega
      have kb1_0_0 : w1.cell? ⟨w.heap.size, 0, none⟩ = some (.int .i64 p) := by go_simp
      have kf1_0_0 : w1.frozen? ⟨w.heap.size, 0, none⟩ = false := by go_simp
      have kb1_0_1 : w1.cell? ⟨w.heap.size, 1, none⟩ = some (.int .i64 q) := by go_simp
      have kf1_0_1 : w1.frozen? ⟨w.heap.size, 1, none⟩ = false := by go_simp
      clear hc1 hf1
      go_wp2
      go_ret
      exact ⟨rfl, by (repeat (first | exact Below.refl _ _ | refine Below.setCell ?_ (by first | omega | (simp <;> omega)) _ | refine Below.alloc ?_ (by first | omega | (simp <;> omega)) _ | refine Below.drew ?_ | refine Below.trans ?_ (Below.mono (by assumption) (by first | omega | (simp <;> omega))) | refine Below.grown ?_ (by assumption) (by first | omega | (simp <;> omega)) (fun k e => by cases e; first | omega | (simp <;> omega))))⟩
    · have HP := Lib.hid hp
      have HA := Lib.hid ha
      clear hp ha h
      go_enter Try.func19, Try.ntmps19
      go_wp2_with fail
      refine (specPairOk_yes p q _ HP.out).mono ?_
      rintro e w1 ⟨rfl, hh1⟩
      obtain ⟨hc1, hf1⟩ := bcell hh1
      have hz1 := hh1.size
      try simp only [World.size_alloc] at hz1
      have hz1_0 : w.heap.size < w1.heap.size := by omega
      have kb1_0_0 : w1.cell? ⟨w.heap.size, 0, none⟩ = some (.int .i64 p) := by go_simp
      have kf1_0_0 : w1.frozen? ⟨w.heap.size, 0, none⟩ = false := by go_simp
      have kb1_0_1 : w1.cell? ⟨w.heap.size, 1, none⟩ = some (.int .i64 q) := by go_simp
      have kf1_0_1 : w1.frozen? ⟨w.heap.size, 1, none⟩ = false := by go_simp
      clear hc1 hf1
      go_wp2_with fail
      refine (l1In_is n 0 1000000000 false _ HA.out).mono ?_
      rintro e wx ⟨rfl, rfl⟩
      go_wp2
      go_ret
      exact ⟨rfl, by (repeat (first | exact Below.refl _ _ | refine Below.setCell ?_ (by first | omega | (simp <;> omega)) _ | refine Below.alloc ?_ (by first | omega | (simp <;> omega)) _ | refine Below.drew ?_ | refine Below.trans ?_ (Below.mono (by assumption) (by first | omega | (simp <;> omega))) | refine Below.grown ?_ (by assumption) (by first | omega | (simp <;> omega)) (fun k e => by cases e; first | omega | (simp <;> omega))))⟩
    · have HP := Lib.hid hp
      have HA := Lib.hid ha
      have HB := Lib.hid hb
      clear hp ha hb h
      go_enter Try.func19, Try.ntmps19
      go_wp2_with fail
      refine (specPairOk_yes p q _ HP.out).mono ?_
      rintro e w1 ⟨rfl, hh1⟩
      obtain ⟨hc1, hf1⟩ := bcell hh1
      have hz1 := hh1.size
      try simp only [World.size_alloc] at hz1
      have hz1_0 : w.heap.size < w1.heap.size := by omega
      have kb1_0_0 : w1.cell? ⟨w.heap.size, 0, none⟩ = some (.int .i64 p) := by go_simp
      have kf1_0_0 : w1.frozen? ⟨w.heap.size, 0, none⟩ = false := by go_simp
      have kb1_0_1 : w1.cell? ⟨w.heap.size, 1, none⟩ = some (.int .i64 q) := by go_simp
      have kf1_0_1 : w1.frozen? ⟨w.heap.size, 1, none⟩ = false := by go_simp
      clear hc1 hf1
      go_wp2_with fail
      refine (l1In_is n 0 1000000000 true _ HA.out).mono ?_
      rintro e wx ⟨rfl, rfl⟩
      go_wp2_with fail
      refine (l1In_is m 1 10000 false _ HB.out).mono ?_
      rintro e wx ⟨rfl, rfl⟩
      go_wp2
      go_ret
      exact ⟨rfl, by (repeat (first | exact Below.refl _ _ | refine Below.setCell ?_ (by first | omega | (simp <;> omega)) _ | refine Below.alloc ?_ (by first | omega | (simp <;> omega)) _ | refine Below.drew ?_ | refine Below.trans ?_ (Below.mono (by assumption) (by first | omega | (simp <;> omega))) | refine Below.grown ?_ (by assumption) (by first | omega | (simp <;> omega)) (fun k e => by cases e; first | omega | (simp <;> omega))))⟩
theorem powB_ways {a t m : Int} (h : powB a t m = false) : inB a (-10000) 10000 = false ∨ (inB a (-10000) 10000 = true ∧ inB t 0 1000000000 = false) ∨ (inB a (-10000) 10000 = true ∧ inB t 0 1000000000 = true ∧ inB m 1 10000 = false) := by
  cases hp : inB a (-10000) 10000 with
  | false => exact .inl rfl
  | true =>
    cases ha : inB t 0 1000000000 with
    | false => exact .inr (.inl ⟨rfl, rfl⟩)
    | true => exact .inr (.inr ⟨rfl, rfl, by simpa [powB, hp, ha] using h⟩)
theorem mul_pos_bd {x y m : Int} (h1 : 0 ≤ x) (h2 : x < m) (h3 : 0 ≤ y) (h4 : y < m) (hm : m ≤ 10000) : 0 ≤ x * y ∧ x * y ≤ 100000000 := by
  have := mul_bd (a := 10000) (b := 10000) (show -10000 ≤ x by omega) (by omega) (show -10000 ≤ y by omega) (by omega)
  exact ⟨Int.mul_nonneg h1 h3, this.2⟩
set_option maxHeartbeats 4000000 in
theorem specPowerLeft_any (a t m : Int) (w : World) :
    Calls Try.prog 23 #[.int .i64 a, .int .i64 t, .int .i64 m] w fun e w' => e = .returned (.int .i64 (powLeftV a t m)) ∧ w = w' := by
  cases h : powB a t m with
  | true =>
    obtain ⟨⟨a1, a2⟩, ⟨k, rfl, hk⟩, m1, m2⟩ := powB_true h
    have HV := Lib.hid (show powLeftV a k m = a ^ k % m by rw [powLeftV, if_pos h]; rfl)
    have HT := Lib.hid (inB_mk (n := a) (a := -10000) (b := 10000) a1 a2)
    have HA := Lib.hid (inB_mk (n := (k : Int)) (a := 0) (b := 1000000000) (by omega) (by omega))
    have HB := Lib.hid (inB_mk (n := m) (a := 1) (b := 10000) m1 m2)
    have m3 : m ≤ 1000000000000 := by omega
    have hz : (m == 0) = false := by simp; omega
    rw [HV.out]
    clear h
    go_enter Try.func23, Try.ntmps23
    go_wp2_with fail
    refine (l1In_is a (-10000) 10000 true _ HT.out).mono ?_
    rintro e wx ⟨rfl, rfl⟩
    go_wp2_with fail
    refine (l1In_is _ 0 1000000000 true _ HA.out).mono ?_
    rintro e wx ⟨rfl, rfl⟩
    go_wp2_with fail
    refine (l1In_is m 1 10000 true _ HB.out).mono ?_
    rintro e wx ⟨rfl, rfl⟩
    go_wp2_with fail
    refine (l3Left_at a m _ _ m1 m3 rfl).mono ?_
    rintro e wx ⟨rfl, rfl⟩
    go_wp2_with fail
    go_loop [7, 8, 9] (fun o s c => ∃ (i : Nat) (x y : Int), i ≤ 1000000000 ∧ o = .int .i64 x ∧ s = .int .i64 y ∧ c = .int .i64 i ∧ (0 ≤ x ∧ x < m) ∧ (0 ≤ y ∧ y < m) ∧ Eqm m (x * y ^ i) (a ^ k)) (fun _ _ c => (intOf c).toNat)
    case atStart =>
      refine ⟨k, 1 % m, a % m, hk, rfl, rfl, rfl, left_bd 1 m m1, left_bd a m m1, ?_⟩
      have := (eqm_left m 1).mul ((eqm_left m a).pow k)
      rwa [Int.one_mul] at this
    case round =>
      obtain ⟨i, x, y, hi, rfl, rfl, rfl, ⟨x0, x1⟩, ⟨y0, y1⟩, hE⟩ := hrel
      have HE := Lib.hid hE
      clear hE
      by_cases h0 : i = 0
      · subst h0
        have HR := Lib.hid (show x = a ^ k % m by
          have := HE.out.left
          rw [Int.pow_zero, Int.mul_one, Int.emod_eq_of_lt x0 x1] at this
          exact this)
        go_wp2
        go_ret
        exact ⟨ret_int HR.out, rfl⟩
      · obtain ⟨z0, z1⟩ := mul_pos_bd y0 y1 y0 y1 m2
        obtain ⟨u0, u1⟩ := mul_pos_bd x0 x1 y0 y1 m2
        have HL := Lib.hid (left_bd (y * y) m m1)
        have HM := Lib.hid (left_bd (x * y) m m1)
        rcases Nat.mod_two_eq_zero_or_one i with hp | hp
        · obtain ⟨j, rfl⟩ : ∃ j, i = 2 * j := ⟨i / 2, by omega⟩
          have hj : 1 ≤ j := by omega
          clear hp
          go_wp2
          go_round
          case rel => exact ⟨j, x, y * y % m, by omega, rfl, rfl, congrArg (Value.int .i64) (by omega), ⟨x0, x1⟩, HL.out, pow_step_even HE.out⟩
          case measure => simp [intOf]; omega
        · obtain ⟨j, rfl⟩ : ∃ j, i = 2 * j + 1 := ⟨i / 2, by omega⟩
          clear hp
          go_wp2
          go_round
          case rel => exact ⟨j, x * y % m, y * y % m, by omega, rfl, rfl, congrArg (Value.int .i64) (by omega), HM.out, HL.out, pow_step_odd HE.out⟩
          case measure => simp [intOf]; omega
  | false =>
    have HV := Lib.hid (show powLeftV a t m = -1 by rw [powLeftV, if_neg (by simp [h])])
    rw [HV.out]
    rcases powB_ways h with hp | ⟨hp, ha⟩ | ⟨hp, ha, hb⟩
    · have HT := Lib.hid hp
      clear hp h
      go_enter Try.func23, Try.ntmps23
      go_wp2_with fail
      refine (l1In_is a (-10000) 10000 false _ HT.out).mono ?_
      rintro e wx ⟨rfl, rfl⟩
      go_wp2
      go_ret
      exact ⟨rfl, rfl⟩
    · have HT := Lib.hid hp
      have HA := Lib.hid ha
      clear hp ha h
      go_enter Try.func23, Try.ntmps23
      go_wp2_with fail
      refine (l1In_is a (-10000) 10000 true _ HT.out).mono ?_
      rintro e wx ⟨rfl, rfl⟩
      go_wp2_with fail
      refine (l1In_is _ 0 1000000000 false _ HA.out).mono ?_
      rintro e wx ⟨rfl, rfl⟩
      go_wp2
      go_ret
      exact ⟨rfl, rfl⟩
    · have HT := Lib.hid hp
      have HA := Lib.hid ha
      have HB := Lib.hid hb
      clear hp ha hb h
      go_enter Try.func23, Try.ntmps23
      go_wp2_with fail
      refine (l1In_is a (-10000) 10000 true _ HT.out).mono ?_
      rintro e wx ⟨rfl, rfl⟩
      go_wp2_with fail
      refine (l1In_is _ 0 1000000000 true _ HA.out).mono ?_
      rintro e wx ⟨rfl, rfl⟩
      go_wp2_with fail
      refine (l1In_is m 1 10000 false _ HB.out).mono ?_
      rintro e wx ⟨rfl, rfl⟩
      go_wp2
      go_ret
      exact ⟨rfl, rfl⟩
end Go.Proofs.Ytgcpmgddlaeccaa
