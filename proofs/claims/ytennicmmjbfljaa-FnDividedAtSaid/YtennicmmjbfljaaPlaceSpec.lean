/- ZerosIn and DividedAt of the model. -/
import Derived.Test.YtennicmmjbfljaaPlaceList
namespace Go.Proofs.Ytennicmmjbfljaa
open Go.RowKit
theorem own_below {w w' : World} {base : Nat} {e : TypeId} {size : Nat} {v : Value} {n : Nat} {xs : List Value} (h : w.ownsRow base e size v n xs) (hb : Below w.heap.size w w') : w'.ownsRow base e size v n xs :=
  h.kept (row := none) ⟨hb.os, hb.tape, hb.output, hb.size, fun j hj _ => hb.block j hj⟩ (by cases v.ownBlock <;> simp)
theorem divB_zero (p q : Int) (j : Nat) (h : 1 ≤ j) : divB p q 0 j = (row p q 0 1 j == 0) := by
  rw [zero_bool]; simp [divB, h]
theorem divB_by (p q m : Int) (j : Nat) (h : 1 ≤ j) : divB p q m j = ((row p q 0 1 j).tmod m == 0) := by
  rw [dvd_bool]; simp [divB, h]
set_option maxRecDepth 100000 in
set_option maxHeartbeats 4000000 in
theorem specZeros_yes (p q : Int) (w : World) (hp : pairB p q = true) : Calls Try.prog 28 #[pr p q] w (ListOf (holdL (divB p q 0) 21) w) := by
  obtain ⟨i0, hi0, hz0, hzs1, hz2⟩ := info_parts info_int
  obtain ⟨⟨r1, r2⟩, r3, r4⟩ := pairB_true hp
  have HP := Lib.hid hp
  clear hp
  skip
  go_enter Try.func28, Try.ntmps28
  have e1 : ((w.alloc (.cells #[.int .i64 p, .int .i64 q] 24)).alloc (.cells #[] 3 (0, 0))).heap[w.heap.size + 1]? = some (.cells #[] 3 (0, 0)) := by
    have := heap_alloc_new (w.alloc (.cells #[.int .i64 p, .int .i64 q] 24)) (.cells #[] 3 (0, 0))
    rwa [World.size_alloc] at this
  have hO := own0 (base := w.heap.size + 1) (Nat.le_refl _) e1
  clear e1
  have hB0 : Below w.heap.size w ((w.alloc (.cells #[.int .i64 p, .int .i64 q] 24)).alloc (.cells #[] 3 (0, 0))) := by
    (repeat (first | exact Below.refl _ _ | refine Below.setCell ?_ (by first | omega | (simp <;> omega)) _ | refine Below.alloc ?_ (by first | omega | (simp <;> omega)) _ | refine Below.drew ?_ | refine Below.trans ?_ (Below.mono (by assumption) (by first | omega | (simp <;> omega))) | refine Below.grown ?_ (by assumption) (by first | omega | (simp <;> omega)) (fun k e => by cases e; first | omega | (simp <;> omega))))
  go_wp2_with fail
  go_loopw [3, 4, 5, 6] (fun v c _ _ wr => ∃ j : Nat, 1 ≤ j ∧ j ≤ 21 ∧ c = .int .i64 j ∧ wr.ownsRow (w.heap.size + 1) 3 1 v (holdL (divB p q 0) j).length (natCells (holdL (divB p q 0) j)) ∧
      wr.cell? ⟨w.heap.size, 0, none⟩ = some (.int .i64 p) ∧ wr.cell? ⟨w.heap.size, 1, none⟩ = some (.int .i64 q) ∧ w.heap.size < wr.heap.size ∧ Below w.heap.size w wr) (fun _ c _ _ _ => 30 - (intOf c).toNat)
  case atStart => exact ⟨1, by omega, by omega, rfl, by simpa [holdL, divB, natCells] using hO, by go_simp, by go_simp, by simp; omega, hB0⟩
  case round =>
    obtain ⟨j, j1, hj, rfl, hown, kp, kq, hsz, hB⟩ := hrel
    have hlen := holdL_len (divB p q 0) j
    by_cases hlt : j ≤ 20
    · have HB := Lib.hid hB
      have HO := Lib.hid hown
      clear hB hown
      go_wp2_with fail
      refine (specPairOk_yes p q _ HP.out).mono ?_
      rintro e w2 ⟨rfl, hh2⟩
      have kp2 : w2.cell? ⟨w.heap.size, 0, none⟩ = some (.int .i64 p) := cell_below hh2 kp
      have kq2 : w2.cell? ⟨w.heap.size, 1, none⟩ = some (.int .i64 q) := cell_below hh2 kq
      have hz2' := hh2.size
      clear kp kq
      skip
      go_wp2_with fail
      refine (specFirst_at p q j _ _ _ rfl HP.out (by omega) rfl).mono ?_
      rintro e w3 ⟨rfl, hh3⟩
      have kp3 : w3.cell? ⟨w.heap.size, 0, none⟩ = some (.int .i64 p) := cell_below hh3 kp2
      have kq3 : w3.cell? ⟨w.heap.size, 1, none⟩ = some (.int .i64 q) := cell_below hh3 kq2
      have hz3 := hh3.size
      have hown3 := own_below (own_below HO.out hh2) hh3
      have HB3 := Lib.hid ((HB.out.trans (hh2.mono HB.out.size)).trans (hh3.mono (by omega)))
      clear kp2 kq2 hh2 hh3 HO HB
      have hsz3 : w.heap.size < w3.heap.size := by omega
      cases hbit : divB p q 0 j with
      | true =>
        have hb : ((row p q 0 1 j == 0)) = true := by rw [← divB_zero p q j j1]; exact hbit
        have E1 := Lib.hid (natCells_yes hbit)
        have E2 := Lib.hid (holdL_yes_len hbit)
        have hlk := hown3.lt
        go_wp2_with (first | (at_builtin; refine wpList_append_own _ rfl _ _ 35 rfl (w.heap.size + 1) 3 i0 (.int .i64 0) 1 8 Try.underlying35 hi0 hz0 hzs1 hz2 rfl (by decide) _ _ _ rfl (hown3.alloc _) ⟨w3.heap.size, 0, none⟩ 1 1 [.int .i64 (j : Int)] rfl rfl (World.news_of_block (cs := #[.int .i64 (j : Int)]) (t := 3) (fr := (0, 0)) (heap_alloc_new w3 _)) (by simp [Value.oneCell']) (by unfold maxLen; omega) (by omega) (by simp; omega) ?_))
        intro v' w4 hown4 hgrow4 _
        rw [E1.out, E2.out] at hown4
        have kP : w4.cell? ⟨w.heap.size, 0, none⟩ = some (.int .i64 p) := (hgrow4.cell_far ⟨w.heap.size, 0, none⟩ (by simp; omega) (fun e => by have := hlk w.heap.size e.symm; omega)).trans ((World.cell?_alloc_past _ _ _ hsz3).trans kp3)
        have kQ : w4.cell? ⟨w.heap.size, 1, none⟩ = some (.int .i64 q) := (hgrow4.cell_far ⟨w.heap.size, 1, none⟩ (by simp; omega) (fun e => by have := hlk w.heap.size e.symm; omega)).trans ((World.cell?_alloc_past _ _ _ hsz3).trans kq3)
        have hz4 : w3.heap.size + 1 ≤ w4.heap.size := by have := hgrow4.size; simpa using this
        have hB4 : Below w.heap.size w w4 := (HB3.out.alloc (by omega) _).grown hgrow4 (by simp; omega) (fun k e => by have := hlk _ e; omega)
        clear hown3 hgrow4 kp3 kq3 hlk
        go_wp2
        go_roundw
        case rel => exact ⟨j + 1, by omega, by omega, congrArg (Value.int .i64) (by omega), hown4, kP, kQ, by omega, hB4⟩
        case measure => simp [intOf]; omega
      | false =>
        have hb : ((row p q 0 1 j == 0)) = false := by rw [← divB_zero p q j j1]; exact hbit
        have E1 := Lib.hid (holdL_no hbit)
        have HO := Lib.hid hown3
        clear hown3
        go_wp2
        go_roundw
        case rel => exact ⟨j + 1, by omega, by omega, congrArg (Value.int .i64) (by omega), by rw [E1.out]; exact HO.out, kp3, kq3, hsz3, HB3.out⟩
        case measure => simp [intOf]; omega
    · obtain rfl : j = 21 := by omega
      have HO := Lib.hid hown
      clear hown
      go_wp2
      go_ret
      exact ⟨_, rfl, (IsInts.of_owns (by rw [← natCells_range]; exact HO.out)).mono (by omega) (Nat.le_refl _) (Nat.le_refl _), hB⟩
set_option maxRecDepth 100000 in
set_option maxHeartbeats 4000000 in
theorem specDivided_yes (p q m : Int) (w : World) (hp : pairB p q = true) (hm : inB m 1 10000 = true) : Calls Try.prog 33 #[pr p q, .int .i64 m] w (ListOf (holdL (divB p q m) 21) w) := by
  obtain ⟨i0, hi0, hz0, hzs1, hz2⟩ := info_parts info_int
  obtain ⟨⟨r1, r2⟩, r3, r4⟩ := pairB_true hp
  have HP := Lib.hid hp
  clear hp
  obtain ⟨m1, m2⟩ := inB_true hm
  have hz : (m == 0) = false := by simp; omega
  have HM := Lib.hid hm
  clear hm
  go_enter Try.func33, Try.ntmps33
  have e1 : ((w.alloc (.cells #[.int .i64 p, .int .i64 q] 24)).alloc (.cells #[] 3 (0, 0))).heap[w.heap.size + 1]? = some (.cells #[] 3 (0, 0)) := by
    have := heap_alloc_new (w.alloc (.cells #[.int .i64 p, .int .i64 q] 24)) (.cells #[] 3 (0, 0))
    rwa [World.size_alloc] at this
  have hO := own0 (base := w.heap.size + 1) (Nat.le_refl _) e1
  clear e1
  have hB0 : Below w.heap.size w ((w.alloc (.cells #[.int .i64 p, .int .i64 q] 24)).alloc (.cells #[] 3 (0, 0))) := by
    (repeat (first | exact Below.refl _ _ | refine Below.setCell ?_ (by first | omega | (simp <;> omega)) _ | refine Below.alloc ?_ (by first | omega | (simp <;> omega)) _ | refine Below.drew ?_ | refine Below.trans ?_ (Below.mono (by assumption) (by first | omega | (simp <;> omega))) | refine Below.grown ?_ (by assumption) (by first | omega | (simp <;> omega)) (fun k e => by cases e; first | omega | (simp <;> omega))))
  go_wp2_with fail
  go_loopw [5, 6, 7, 8] (fun v c _ _ wr => ∃ j : Nat, 1 ≤ j ∧ j ≤ 21 ∧ c = .int .i64 j ∧ wr.ownsRow (w.heap.size + 1) 3 1 v (holdL (divB p q m) j).length (natCells (holdL (divB p q m) j)) ∧
      wr.cell? ⟨w.heap.size, 0, none⟩ = some (.int .i64 p) ∧ wr.cell? ⟨w.heap.size, 1, none⟩ = some (.int .i64 q) ∧ w.heap.size < wr.heap.size ∧ Below w.heap.size w wr) (fun _ c _ _ _ => 30 - (intOf c).toNat)
  case atStart => exact ⟨1, by omega, by omega, rfl, by simpa [holdL, divB, natCells] using hO, by go_simp, by go_simp, by simp; omega, hB0⟩
  case round =>
    obtain ⟨j, j1, hj, rfl, hown, kp, kq, hsz, hB⟩ := hrel
    have hlen := holdL_len (divB p q m) j
    by_cases hlt : j ≤ 20
    · have HB := Lib.hid hB
      have HO := Lib.hid hown
      clear hB hown
      go_wp2_with fail
      refine (specPairOk_yes p q _ HP.out).mono ?_
      rintro e w2 ⟨rfl, hh2⟩
      have kp2 : w2.cell? ⟨w.heap.size, 0, none⟩ = some (.int .i64 p) := cell_below hh2 kp
      have kq2 : w2.cell? ⟨w.heap.size, 1, none⟩ = some (.int .i64 q) := cell_below hh2 kq
      have hz2' := hh2.size
      clear kp kq
      go_wp2_with fail
      refine (l1In_yes m 1 10000 _ HM.out).mono ?_
      rintro e wx ⟨rfl, rfl⟩
      go_wp2_with fail
      refine (specFirst_at p q j _ _ _ rfl HP.out (by omega) rfl).mono ?_
      rintro e w3 ⟨rfl, hh3⟩
      have kp3 : w3.cell? ⟨w.heap.size, 0, none⟩ = some (.int .i64 p) := cell_below hh3 kp2
      have kq3 : w3.cell? ⟨w.heap.size, 1, none⟩ = some (.int .i64 q) := cell_below hh3 kq2
      have hz3 := hh3.size
      have hown3 := own_below (own_below HO.out hh2) hh3
      have HB3 := Lib.hid ((HB.out.trans (hh2.mono HB.out.size)).trans (hh3.mono (by omega)))
      clear kp2 kq2 hh2 hh3 HO HB
      have hsz3 : w.heap.size < w3.heap.size := by omega
      cases hbit : divB p q m j with
      | true =>
        have hb : ((row p q 0 1 j).tmod m == 0) = true := by rw [← divB_by p q m j j1]; exact hbit
        have E1 := Lib.hid (natCells_yes hbit)
        have E2 := Lib.hid (holdL_yes_len hbit)
        have hlk := hown3.lt
        go_wp2_with (first | (at_builtin; refine wpList_append_own _ rfl _ _ 35 rfl (w.heap.size + 1) 3 i0 (.int .i64 0) 1 8 Try.underlying35 hi0 hz0 hzs1 hz2 rfl (by decide) _ _ _ rfl (hown3.alloc _) ⟨w3.heap.size, 0, none⟩ 1 1 [.int .i64 (j : Int)] rfl rfl (World.news_of_block (cs := #[.int .i64 (j : Int)]) (t := 3) (fr := (0, 0)) (heap_alloc_new w3 _)) (by simp [Value.oneCell']) (by unfold maxLen; omega) (by omega) (by simp; omega) ?_))
        intro v' w4 hown4 hgrow4 _
        rw [E1.out, E2.out] at hown4
        have kP : w4.cell? ⟨w.heap.size, 0, none⟩ = some (.int .i64 p) := (hgrow4.cell_far ⟨w.heap.size, 0, none⟩ (by simp; omega) (fun e => by have := hlk w.heap.size e.symm; omega)).trans ((World.cell?_alloc_past _ _ _ hsz3).trans kp3)
        have kQ : w4.cell? ⟨w.heap.size, 1, none⟩ = some (.int .i64 q) := (hgrow4.cell_far ⟨w.heap.size, 1, none⟩ (by simp; omega) (fun e => by have := hlk w.heap.size e.symm; omega)).trans ((World.cell?_alloc_past _ _ _ hsz3).trans kq3)
        have hz4 : w3.heap.size + 1 ≤ w4.heap.size := by have := hgrow4.size; simpa using this
        have hB4 : Below w.heap.size w w4 := (HB3.out.alloc (by omega) _).grown hgrow4 (by simp; omega) (fun k e => by have := hlk _ e; omega)
        clear hown3 hgrow4 kp3 kq3 hlk
        go_wp2
        go_roundw
        case rel => exact ⟨j + 1, by omega, by omega, congrArg (Value.int .i64) (by omega), hown4, kP, kQ, by omega, hB4⟩
        case measure => simp [intOf]; omega
      | false =>
        have hb : ((row p q 0 1 j).tmod m == 0) = false := by rw [← divB_by p q m j j1]; exact hbit
        have E1 := Lib.hid (holdL_no hbit)
        have HO := Lib.hid hown3
        clear hown3
        go_wp2
        go_roundw
        case rel => exact ⟨j + 1, by omega, by omega, congrArg (Value.int .i64) (by omega), by rw [E1.out]; exact HO.out, kp3, kq3, hsz3, HB3.out⟩
        case measure => simp [intOf]; omega
    · obtain rfl : j = 21 := by omega
      have HO := Lib.hid hown
      clear hown
      go_wp2
      go_ret
      exact ⟨_, rfl, (IsInts.of_owns (by rw [← natCells_range]; exact HO.out)).mono (by omega) (Nat.le_refl _) (Nat.le_refl _), hB⟩
set_option maxHeartbeats 4000000 in
theorem specZeros_any (p q : Int) (w : World) : Calls Try.prog 28 #[pr p q] w (ListOf (zerosL p q) w) := by
  cases hp : pairB p q with
  | true => rw [zerosL, if_pos hp]; exact specZeros_yes p q w hp
  | false =>
    have HL := Lib.hid (show zerosL p q = [] by rw [zerosL, if_neg (by simp [hp])])
    have HP := Lib.hid hp
    clear hp
    go_enter Try.func28, Try.ntmps28
    go_wp2_with fail
    go_loopw [3, 4, 5, 6] (fun v c _ _ wr => c = .int .i64 1 ∧ v = .slice (some ⟨w.heap.size + 1, 0, none⟩) 0 0 ∧ wr = (w.alloc (.cells #[.int .i64 p, .int .i64 q] 24)).alloc (.cells #[] 3 (0, 0))) (fun _ _ _ _ _ => 0)
    case atStart => exact ⟨rfl, rfl, rfl⟩
    case round =>
      obtain ⟨rfl, rfl, rfl⟩ := hrel
      go_wp2_with fail
      refine (specPairOk_no p q _ HP.out).mono ?_
      rintro e w2 ⟨rfl, hh2⟩
      skip
      go_wp2
      go_ret
      exact ⟨_, rfl, by rw [HL.out]; exact IsInts.empty _ _ _ _ _, by (repeat (first | exact Below.refl _ _ | refine Below.setCell ?_ (by first | omega | (simp <;> omega)) _ | refine Below.alloc ?_ (by first | omega | (simp <;> omega)) _ | refine Below.drew ?_ | refine Below.trans ?_ (Below.mono (by assumption) (by first | omega | (simp <;> omega))) | refine Below.grown ?_ (by assumption) (by first | omega | (simp <;> omega)) (fun k e => by cases e; first | omega | (simp <;> omega))))⟩
set_option maxHeartbeats 4000000 in
theorem specDivided_any (p q m : Int) (w : World) : Calls Try.prog 33 #[pr p q, .int .i64 m] w (ListOf (dividedL p q m) w) := by
  cases h : dividedB p q m with
  | true => obtain ⟨hp, hm⟩ := dividedB_true h; rw [dividedL, if_pos h]; exact specDivided_yes p q m w hp hm
  | false =>
    have HL := Lib.hid (show dividedL p q m = [] by rw [dividedL, if_neg (by simp [h])])
    rcases dividedB_ways h with hp | ⟨hp, hm⟩
    · have HP := Lib.hid hp
      clear hp h
      go_enter Try.func33, Try.ntmps33
      go_wp2_with fail
      go_loopw [5, 6, 7, 8] (fun v c _ _ wr => c = .int .i64 1 ∧ v = .slice (some ⟨w.heap.size + 1, 0, none⟩) 0 0 ∧ wr = (w.alloc (.cells #[.int .i64 p, .int .i64 q] 24)).alloc (.cells #[] 3 (0, 0))) (fun _ _ _ _ _ => 0)
      case atStart => exact ⟨rfl, rfl, rfl⟩
      case round =>
        obtain ⟨rfl, rfl, rfl⟩ := hrel
        go_wp2_with fail
        refine (specPairOk_no p q _ HP.out).mono ?_
        rintro e w2 ⟨rfl, hh2⟩
        skip
        go_wp2
        go_ret
        exact ⟨_, rfl, by rw [HL.out]; exact IsInts.empty _ _ _ _ _, by (repeat (first | exact Below.refl _ _ | refine Below.setCell ?_ (by first | omega | (simp <;> omega)) _ | refine Below.alloc ?_ (by first | omega | (simp <;> omega)) _ | refine Below.drew ?_ | refine Below.trans ?_ (Below.mono (by assumption) (by first | omega | (simp <;> omega))) | refine Below.grown ?_ (by assumption) (by first | omega | (simp <;> omega)) (fun k e => by cases e; first | omega | (simp <;> omega))))⟩
    · have HP := Lib.hid hp
      have HM := Lib.hid hm
      clear hp hm h
      go_enter Try.func33, Try.ntmps33
      go_wp2_with fail
      go_loopw [5, 6, 7, 8] (fun v c _ _ wr => c = .int .i64 1 ∧ v = .slice (some ⟨w.heap.size + 1, 0, none⟩) 0 0 ∧ wr = (w.alloc (.cells #[.int .i64 p, .int .i64 q] 24)).alloc (.cells #[] 3 (0, 0))) (fun _ _ _ _ _ => 0)
      case atStart => exact ⟨rfl, rfl, rfl⟩
      case round =>
        obtain ⟨rfl, rfl, rfl⟩ := hrel
        go_wp2_with fail
        refine (specPairOk_yes p q _ HP.out).mono ?_
        rintro e w2 ⟨rfl, hh2⟩
        go_wp2_with fail
        refine (l1In_no m 1 10000 _ HM.out).mono ?_
        rintro e wx ⟨rfl, rfl⟩
        go_wp2
        go_ret
        exact ⟨_, rfl, by rw [HL.out]; exact IsInts.empty _ _ _ _ _, by (repeat (first | exact Below.refl _ _ | refine Below.setCell ?_ (by first | omega | (simp <;> omega)) _ | refine Below.alloc ?_ (by first | omega | (simp <;> omega)) _ | refine Below.drew ?_ | refine Below.trans ?_ (Below.mono (by assumption) (by first | omega | (simp <;> omega))) | refine Below.grown ?_ (by assumption) (by first | omega | (simp <;> omega)) (fun k e => by cases e; first | omega | (simp <;> omega))))⟩
end Go.Proofs.Ytennicmmjbfljaa
