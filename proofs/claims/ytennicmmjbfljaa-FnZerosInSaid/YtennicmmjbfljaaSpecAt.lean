/- What FirstAt and SecondAt of the model return. -/
import Derived.Test.YtennicmmjbfljaaRowsModel
namespace Go.Proofs.Ytennicmmjbfljaa
open Go.RowKit
/-- Whether there is a number of a row: a pair, and a place of a row. -/
def atB (p q n : Int) : Bool := pairB p q && placeB n
/-- The number of the first row, and of the second one, at a place; 0 where there is none. -/
def firstV (p q n : Int) : Int := if atB p q n = true then row p q 0 1 n.toNat else 0
def secondV (p q n : Int) : Int := if atB p q n = true then row p q 2 p n.toNat else 0
theorem l1In_place_yes (n : Int) (w : World) (h : placeB n = true) : Calls Try.prog 49 #[.int .i64 n, .int .i64 0, .int .i64 20] w fun e w' => e = .returned (.bool true) ∧ w = w' := by have := l1In_place n w; rw [h] at this; exact this
theorem l1In_place_no (n : Int) (w : World) (h : placeB n = false) : Calls Try.prog 49 #[.int .i64 n, .int .i64 0, .int .i64 20] w fun e w' => e = .returned (.bool false) ∧ w = w' := by have := l1In_place n w; rw [h] at this; exact this
set_option maxHeartbeats 2000000 in
theorem specFirst_any (p q n : Int) (w : World) :
    Calls Try.prog 47 #[pr p q, .int .i64 n] w fun e w' => e = .returned (.tuple #[.int .i64 (firstV p q n), .bool (atB p q n)]) ∧ Below w.heap.size w w' := by
  by_cases hp : pairB p q = true
  · by_cases hn : placeB n = true
    · obtain ⟨⟨h1, h2⟩, h3, h4⟩ := pairB_true hp
      obtain ⟨n0, n1⟩ := placeB_true hn
      obtain ⟨m, rfl⟩ := Int.eq_ofNat_of_zero_le n0
      have HV := Lib.hid (show firstV p q m = row p q 0 1 m by rw [firstV, if_pos (by simp [atB, hp, hn])]; rfl)
      have HB := Lib.hid (show atB p q m = true by simp [atB, hp, hn])
      have HP := Lib.hid hp
      have HN := Lib.hid hn
      clear hp hn
      go_enter Try.func47, Try.ntmps47
      go_wp2_with fail
      refine (specPairOk_yes p q _ HP.out).mono ?_
      rintro e w1 ⟨rfl, hh1⟩
      obtain ⟨hc1, hf1⟩ := bcell hh1
      have hz1 := hh1.size
      try simp only [World.size_alloc] at hz1
      have hz1_0 : w.heap.size < w1.heap.size := by omega
      have kb1_0_0 : w1.cell? ⟨w.heap.size, 0, none⟩ = some (.int .i64 p) := by go_simp
      have kf1_0_0 : w1.frozen? ⟨w.heap.size, 0, none⟩ = false := by go_simp
      have kb1_0_1 : w1.cell? ⟨w.heap.size, 1, none⟩ = some (.int .i64 q) := by go_simp
      have kf1_0_1 : w1.frozen? ⟨w.heap.size, 1, none⟩ = false := by go_simp
      clear hc1 hf1
      go_wp2_with fail
      refine (l1In_place_yes _ _ HN.out).mono ?_
      rintro e w2 ⟨rfl, rfl⟩
      go_wp2_with fail
      refine (l1Rows_any p q m _ h1 h2 h3 h4 (by omega)).mono ?_
      rintro e w3 ⟨gu, cu, gv, cv, rfl, hgu, hgv, hcu, hcv, hh3⟩
      have kc : w3.cell? ⟨gu, m, none⟩ = some (.int .i64 (row p q 0 1 m)) := hcu m (Nat.le_refl _)
      have j0 : (0 : Int) ≤ (m : Int) := Int.natCast_nonneg _
      have j1 : (m : Int) < (m : Int) + 1 := by omega
      clear hcu hcv
      go_wp2
      go_ret2
      exact ⟨ret_int_bool HV.out.symm HB.out.symm, by (repeat (first | exact Below.refl _ _ | refine Below.setCell ?_ (by first | omega | (simp <;> omega)) _ | refine Below.alloc ?_ (by first | omega | (simp <;> omega)) _ | refine Below.drew ?_ | refine Below.trans ?_ (Below.mono (by assumption) (by first | omega | (simp <;> omega))) | refine Below.grown ?_ (by assumption) (by first | omega | (simp <;> omega)) (fun k e => by cases e; first | omega | (simp <;> omega))))⟩
    · have hn' : placeB n = false := by simpa using hn
      have HV := Lib.hid (show firstV p q n = 0 by rw [firstV, if_neg (by simp [atB, hn'])])
      have HB := Lib.hid (show atB p q n = false by simp [atB, hn'])
      have HP := Lib.hid hp
      have HN := Lib.hid hn'
      clear hp hn hn'
      go_enter Try.func47, Try.ntmps47
      go_wp2_with fail
      refine (specPairOk_yes p q _ HP.out).mono ?_
      rintro e w1 ⟨rfl, hh1⟩
      obtain ⟨hc1, hf1⟩ := bcell hh1
      have hz1 := hh1.size
      try simp only [World.size_alloc] at hz1
      have hz1_0 : w.heap.size < w1.heap.size := by omega
      have kb1_0_0 : w1.cell? ⟨w.heap.size, 0, none⟩ = some (.int .i64 p) := by go_simp
      have kf1_0_0 : w1.frozen? ⟨w.heap.size, 0, none⟩ = false := by go_simp
      have kb1_0_1 : w1.cell? ⟨w.heap.size, 1, none⟩ = some (.int .i64 q) := by go_simp
      have kf1_0_1 : w1.frozen? ⟨w.heap.size, 1, none⟩ = false := by go_simp
      clear hc1 hf1
      go_wp2_with fail
      refine (l1In_place_no _ _ HN.out).mono ?_
      rintro e w2 ⟨rfl, rfl⟩
      go_wp2
      go_ret2
      exact ⟨ret_int_bool HV.out.symm HB.out.symm, by (repeat (first | exact Below.refl _ _ | refine Below.setCell ?_ (by first | omega | (simp <;> omega)) _ | refine Below.alloc ?_ (by first | omega | (simp <;> omega)) _ | refine Below.drew ?_ | refine Below.trans ?_ (Below.mono (by assumption) (by first | omega | (simp <;> omega))) | refine Below.grown ?_ (by assumption) (by first | omega | (simp <;> omega)) (fun k e => by cases e; first | omega | (simp <;> omega))))⟩
  · have hp' : pairB p q = false := by simpa using hp
    have HV := Lib.hid (show firstV p q n = 0 by rw [firstV, if_neg (by simp [atB, hp'])])
    have HB := Lib.hid (show atB p q n = false by simp [atB, hp'])
    have HP := Lib.hid hp'
    clear hp hp'
    go_enter Try.func47, Try.ntmps47
    go_wp2_with fail
    refine (specPairOk_no p q _ HP.out).mono ?_
    rintro e w1 ⟨rfl, hh1⟩
    obtain ⟨hc1, hf1⟩ := bcell hh1
    have hz1 := hh1.size
    try simp only [World.size_alloc] at hz1
    have hz1_0 : w.heap.size < w1.heap.size := by omega
    have kb1_0_0 : w1.cell? ⟨w.heap.size, 0, none⟩ = some (.int .i64 p) := by go_simp
    have kf1_0_0 : w1.frozen? ⟨w.heap.size, 0, none⟩ = false := by go_simp
    have kb1_0_1 : w1.cell? ⟨w.heap.size, 1, none⟩ = some (.int .i64 q) := by go_simp
    have kf1_0_1 : w1.frozen? ⟨w.heap.size, 1, none⟩ = false := by go_simp
    clear hc1 hf1
    go_wp2
    go_ret2
    exact ⟨ret_int_bool HV.out.symm HB.out.symm, by (repeat (first | exact Below.refl _ _ | refine Below.setCell ?_ (by first | omega | (simp <;> omega)) _ | refine Below.alloc ?_ (by first | omega | (simp <;> omega)) _ | refine Below.drew ?_ | refine Below.trans ?_ (Below.mono (by assumption) (by first | omega | (simp <;> omega))) | refine Below.grown ?_ (by assumption) (by first | omega | (simp <;> omega)) (fun k e => by cases e; first | omega | (simp <;> omega))))⟩
end Go.Proofs.Ytennicmmjbfljaa
