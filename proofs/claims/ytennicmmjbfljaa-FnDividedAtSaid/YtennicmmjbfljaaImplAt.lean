/- What FirstAt and SecondAt of the program return: the same as the model's. -/
import Derived.Test.YtennicmmjbfljaaNumberAt
namespace Go.Proofs.Ytennicmmjbfljaa
open Go.RowKit
set_option maxHeartbeats 2000000 in
theorem numberAt_no (p q a b n : Int) (w : World) (h : pairB p q = false ∨ placeB n = false) :
    Calls Try.prog 48 #[pr p q, .int .i64 a, .int .i64 b, .int .i64 n] w fun e w' => e = .returned (.tuple #[.int .i64 0, .bool false]) ∧ Below w.heap.size w w' := by
  by_cases hp : pairB p q = true
  · have HP := Lib.hid hp
    have HN := Lib.hid (show placeB n = false by rcases h with h | h; · rw [hp] at h; cases h
                                                 · exact h)
    clear hp h
    go_enter Try.func48, Try.ntmps48
    go_wp2_with fail
    refine (implPairOk_yes p q _ HP.out).mono ?_
    rintro e w1 ⟨rfl, hh1⟩
    obtain ⟨hc1, hf1⟩ := bcell hh1
    have hz1 := hh1.size
    try simp only [World.size_alloc] at hz1
    have hz1_0 : w.heap.size < w1.heap.size := by omega
    have hz1_1 : w.heap.size + 1 < w1.heap.size := by omega
    have hz1_2 : w.heap.size + 1 + 1 < w1.heap.size := by omega
    have hz1_3 : w.heap.size + 1 + 1 + 1 < w1.heap.size := by omega
    have kb1_0_0 : w1.cell? ⟨w.heap.size, 0, none⟩ = some (.int .i64 p) := by go_simp
    have kf1_0_0 : w1.frozen? ⟨w.heap.size, 0, none⟩ = false := by go_simp
    have kb1_0_1 : w1.cell? ⟨w.heap.size, 1, none⟩ = some (.int .i64 q) := by go_simp
    have kf1_0_1 : w1.frozen? ⟨w.heap.size, 1, none⟩ = false := by go_simp
    have kb1_1_0 : w1.cell? ⟨w.heap.size + 1, 0, none⟩ = some (.int .i64 n) := by go_simp
    have kf1_1_0 : w1.frozen? ⟨w.heap.size + 1, 0, none⟩ = false := by go_simp
    have kb1_2_0 : w1.cell? ⟨w.heap.size + 1 + 1, 0, none⟩ = some (.int .i64 0) := by go_simp
    have kf1_2_0 : w1.frozen? ⟨w.heap.size + 1 + 1, 0, none⟩ = false := by go_simp
    have kb1_3_0 : w1.cell? ⟨w.heap.size + 1 + 1 + 1, 0, none⟩ = some (.bool false) := by go_simp
    have kf1_3_0 : w1.frozen? ⟨w.heap.size + 1 + 1 + 1, 0, none⟩ = false := by go_simp
    clear hc1 hf1
    go_wp2_with fail
    refine (placeOk_no _ _ HN.out).mono ?_
    rintro e w2 ⟨rfl, rfl⟩
    go_wp2
    refine bodyPost_ret (v := .tuple #[.int .i64 0, .bool false]) (by simp [results, Try.results48, go_sem, kb1_2_0, kb1_3_0]) rfl ⟨rfl, ?_⟩
    (repeat (first | exact Below.refl _ _ | refine Below.setCell ?_ (by first | omega | (simp <;> omega)) _ | refine Below.alloc ?_ (by first | omega | (simp <;> omega)) _ | refine Below.drew ?_ | refine Below.trans ?_ (Below.mono (by assumption) (by first | omega | (simp <;> omega))) | refine Below.grown ?_ (by assumption) (by first | omega | (simp <;> omega)) (fun k e => by cases e; first | omega | (simp <;> omega))))
  · have HP := Lib.hid (show pairB p q = false by simpa using hp)
    clear hp h
    go_enter Try.func48, Try.ntmps48
    go_wp2_with fail
    refine (implPairOk_no p q _ HP.out).mono ?_
    rintro e w1 ⟨rfl, hh1⟩
    obtain ⟨hc1, hf1⟩ := bcell hh1
    have hz1 := hh1.size
    try simp only [World.size_alloc] at hz1
    have hz1_0 : w.heap.size < w1.heap.size := by omega
    have hz1_1 : w.heap.size + 1 < w1.heap.size := by omega
    have hz1_2 : w.heap.size + 1 + 1 < w1.heap.size := by omega
    have hz1_3 : w.heap.size + 1 + 1 + 1 < w1.heap.size := by omega
    have kb1_0_0 : w1.cell? ⟨w.heap.size, 0, none⟩ = some (.int .i64 p) := by go_simp
    have kf1_0_0 : w1.frozen? ⟨w.heap.size, 0, none⟩ = false := by go_simp
    have kb1_0_1 : w1.cell? ⟨w.heap.size, 1, none⟩ = some (.int .i64 q) := by go_simp
    have kf1_0_1 : w1.frozen? ⟨w.heap.size, 1, none⟩ = false := by go_simp
    have kb1_1_0 : w1.cell? ⟨w.heap.size + 1, 0, none⟩ = some (.int .i64 n) := by go_simp
    have kf1_1_0 : w1.frozen? ⟨w.heap.size + 1, 0, none⟩ = false := by go_simp
    have kb1_2_0 : w1.cell? ⟨w.heap.size + 1 + 1, 0, none⟩ = some (.int .i64 0) := by go_simp
    have kf1_2_0 : w1.frozen? ⟨w.heap.size + 1 + 1, 0, none⟩ = false := by go_simp
    have kb1_3_0 : w1.cell? ⟨w.heap.size + 1 + 1 + 1, 0, none⟩ = some (.bool false) := by go_simp
    have kf1_3_0 : w1.frozen? ⟨w.heap.size + 1 + 1 + 1, 0, none⟩ = false := by go_simp
    clear hc1 hf1
    go_wp2
    refine bodyPost_ret (v := .tuple #[.int .i64 0, .bool false]) (by simp [results, Try.results48, go_sem, kb1_2_0, kb1_3_0]) rfl ⟨rfl, ?_⟩
    (repeat (first | exact Below.refl _ _ | refine Below.setCell ?_ (by first | omega | (simp <;> omega)) _ | refine Below.alloc ?_ (by first | omega | (simp <;> omega)) _ | refine Below.drew ?_ | refine Below.trans ?_ (Below.mono (by assumption) (by first | omega | (simp <;> omega))) | refine Below.grown ?_ (by assumption) (by first | omega | (simp <;> omega)) (fun k e => by cases e; first | omega | (simp <;> omega))))
set_option maxHeartbeats 2000000 in
theorem implFirst_any (p q n : Int) (w : World) :
    Calls Try.prog 20 #[pr p q, .int .i64 n] w fun e w' => e = .returned (.tuple #[.int .i64 (firstV p q n), .bool (atB p q n)]) ∧ Below w.heap.size w w' := by
  by_cases h : atB p q n = true
  · have hpn : pairB p q = true ∧ placeB n = true := by simpa [atB] using h
    obtain ⟨hp, hn⟩ := hpn
    obtain ⟨⟨h1, h2⟩, h3, h4⟩ := pairB_true hp
    obtain ⟨n0, n1⟩ := placeB_true hn
    obtain ⟨m, rfl⟩ := Int.eq_ofNat_of_zero_le n0
    have HV := Lib.hid (show firstV p q m = row p q 0 1 m by rw [firstV, if_pos h]; rfl)
    have HB := Lib.hid h
    have HP := Lib.hid hp
    clear hp hn h
    go_enter Try.func20, Try.ntmps20
    go_wp2_with fail
    refine (numberAt_yes p q 0 1 m _ HP.out (by omega) (by omega) (by omega) (by omega) (by omega)).mono ?_
    rintro e w1 ⟨rfl, hh1⟩
    go_wp2
    go_ret2
    exact ⟨ret_int_bool HV.out.symm HB.out.symm, by (repeat (first | exact Below.refl _ _ | refine Below.setCell ?_ (by first | omega | (simp <;> omega)) _ | refine Below.alloc ?_ (by first | omega | (simp <;> omega)) _ | refine Below.drew ?_ | refine Below.trans ?_ (Below.mono (by assumption) (by first | omega | (simp <;> omega))) | refine Below.grown ?_ (by assumption) (by first | omega | (simp <;> omega)) (fun k e => by cases e; first | omega | (simp <;> omega))))⟩
  · have h' : atB p q n = false := by simpa using h
    have HV := Lib.hid (show firstV p q n = 0 by rw [firstV, if_neg h])
    have HB := Lib.hid h'
    have hno : pairB p q = false ∨ placeB n = false := by
      cases hp : pairB p q with
      | false => exact .inl rfl
      | true => right; simpa [atB, hp] using h'
    have HN := Lib.hid hno
    clear h h' hno
    go_enter Try.func20, Try.ntmps20
    go_wp2_with fail
    refine (numberAt_no p q 0 1 n _ HN.out).mono ?_
    rintro e w1 ⟨rfl, hh1⟩
    go_wp2
    go_ret2
    exact ⟨ret_int_bool HV.out.symm HB.out.symm, by (repeat (first | exact Below.refl _ _ | refine Below.setCell ?_ (by first | omega | (simp <;> omega)) _ | refine Below.alloc ?_ (by first | omega | (simp <;> omega)) _ | refine Below.drew ?_ | refine Below.trans ?_ (Below.mono (by assumption) (by first | omega | (simp <;> omega))) | refine Below.grown ?_ (by assumption) (by first | omega | (simp <;> omega)) (fun k e => by cases e; first | omega | (simp <;> omega))))⟩
set_option maxHeartbeats 2000000 in
theorem implSecond_any (p q n : Int) (w : World) :
    Calls Try.prog 24 #[pr p q, .int .i64 n] w fun e w' => e = .returned (.tuple #[.int .i64 (secondV p q n), .bool (atB p q n)]) ∧ Below w.heap.size w w' := by
  by_cases h : atB p q n = true
  · have hpn : pairB p q = true ∧ placeB n = true := by simpa [atB] using h
    obtain ⟨hp, hn⟩ := hpn
    obtain ⟨⟨h1, h2⟩, h3, h4⟩ := pairB_true hp
    obtain ⟨n0, n1⟩ := placeB_true hn
    obtain ⟨m, rfl⟩ := Int.eq_ofNat_of_zero_le n0
    have HV := Lib.hid (show secondV p q m = row p q 2 p m by rw [secondV, if_pos h]; rfl)
    have HB := Lib.hid h
    have HP := Lib.hid hp
    clear hp hn h
    go_enter Try.func24, Try.ntmps24
    go_wp2_with fail
    refine (numberAt_yes p q 2 p m _ HP.out (by omega) (by omega) (by omega) (by omega) (by omega)).mono ?_
    rintro e w1 ⟨rfl, hh1⟩
    go_wp2
    go_ret2
    exact ⟨ret_int_bool HV.out.symm HB.out.symm, by (repeat (first | exact Below.refl _ _ | refine Below.setCell ?_ (by first | omega | (simp <;> omega)) _ | refine Below.alloc ?_ (by first | omega | (simp <;> omega)) _ | refine Below.drew ?_ | refine Below.trans ?_ (Below.mono (by assumption) (by first | omega | (simp <;> omega))) | refine Below.grown ?_ (by assumption) (by first | omega | (simp <;> omega)) (fun k e => by cases e; first | omega | (simp <;> omega))))⟩
  · have h' : atB p q n = false := by simpa using h
    have HV := Lib.hid (show secondV p q n = 0 by rw [secondV, if_neg h])
    have HB := Lib.hid h'
    have hno : pairB p q = false ∨ placeB n = false := by
      cases hp : pairB p q with
      | false => exact .inl rfl
      | true => right; simpa [atB, hp] using h'
    have HN := Lib.hid hno
    clear h h' hno
    go_enter Try.func24, Try.ntmps24
    go_wp2_with fail
    refine (numberAt_no p q 2 p n _ HN.out).mono ?_
    rintro e w1 ⟨rfl, hh1⟩
    go_wp2
    go_ret2
    exact ⟨ret_int_bool HV.out.symm HB.out.symm, by (repeat (first | exact Below.refl _ _ | refine Below.setCell ?_ (by first | omega | (simp <;> omega)) _ | refine Below.alloc ?_ (by first | omega | (simp <;> omega)) _ | refine Below.drew ?_ | refine Below.trans ?_ (Below.mono (by assumption) (by first | omega | (simp <;> omega))) | refine Below.grown ?_ (by assumption) (by first | omega | (simp <;> omega)) (fun k e => by cases e; first | omega | (simp <;> omega))))⟩
end Go.Proofs.Ytennicmmjbfljaa
