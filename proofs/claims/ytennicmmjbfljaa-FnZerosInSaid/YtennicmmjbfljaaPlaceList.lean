/- The places that a table lists; ZerosIn and DividedAt of the program and of the model. -/
import Derived.Test.YtennicmmjbfljaaPlaceWhere
import Derived.Test.YtennicmmjbfljaaLeftRow
namespace Go.Proofs.Ytennicmmjbfljaa
open Go.RowKit
/-- Places, as cells; those up to one at which something holds. -/
def natCells (L : List Nat) : List Value := L.map fun (i : Nat) => .int .i64 (i : Int)
def holdL (B : Nat → Bool) (n : Nat) : List Nat := (List.range n).filter B
theorem holdL_len (B : Nat → Bool) (n : Nat) : (holdL B n).length ≤ n := Nat.le_trans (List.length_filter_le _ _) (by simp)
theorem holdL_yes {B : Nat → Bool} {n : Nat} (h : B n = true) : holdL B n ++ [n] = holdL B (n + 1) := by simp [holdL, List.range_succ, h]
theorem holdL_no {B : Nat → Bool} {n : Nat} (h : B n = false) : holdL B (n + 1) = holdL B n := by simp [holdL, List.range_succ, h]
theorem natCells_yes {B : Nat → Bool} {n : Nat} (h : B n = true) : natCells (holdL B n) ++ [.int .i64 (n : Int)] = natCells (holdL B (n + 1)) := by
  rw [← holdL_yes h]; simp [natCells]
theorem holdL_yes_len {B : Nat → Bool} {n : Nat} (h : B n = true) : (holdL B n).length + 1 = (holdL B (n + 1)).length := by
  rw [← holdL_yes h]; simp
theorem natCells_range (L : List Nat) : natCells L = (List.range L.length).map fun i => .int .i64 ((L.getD i 0 : Nat) : Int) := by
  refine List.ext_getElem (by simp [natCells]) fun i h1 h2 => ?_
  simp only [natCells, List.getElem_map, List.getElem_range]
  have h3 : i < L.length := by simpa [natCells] using h1
  simp [h3]
/-- A list of places, in new memory. -/
def ListOf (L : List Nat) (w : World) (e : Ending) (w' : World) : Prop :=
  ∃ v, e = .returned v ∧ IsInts w.heap.size w'.heap.size w' v L.length (fun i => ((L.getD i 0 : Nat) : Int)) ∧ Below w.heap.size w w'
/-- The places from 1 on at which d divides the row. -/
def divB (p q d : Int) (j : Nat) : Bool := decide (1 ≤ j) && decide (d ∣ row p q 0 1 j)
def zerosL (p q : Int) : List Nat := if pairB p q = true then holdL (divB p q 0) 21 else []
def dividedB (p q m : Int) : Bool := pairB p q && inB m 1 10000
def dividedL (p q m : Int) : List Nat := if dividedB p q m = true then holdL (divB p q m) 21 else []
theorem table_list {p q d : Int} {t : Nat} (h : Table p q d t) : holdL (fun j => t.testBit j) 21 = holdL (divB p q d) 21 := by
  refine List.filter_congr fun j hj => ?_
  have hj' : j < 21 := by simpa using hj
  rw [Bool.eq_iff_iff, h.2 j]
  simp only [divB, Bool.and_eq_true, decide_eq_true_iff]
  exact ⟨fun h => ⟨h.1, h.2.2⟩, fun h => ⟨h.1, by omega, h.2⟩⟩
set_option maxHeartbeats 4000000 in
theorem listed_at (t : Nat) (w : World) (ht : t < 2097152) : Calls Try.prog 52 #[.int .u32 t] w (ListOf (holdL (fun j => t.testBit j) 21) w) := by
  obtain ⟨i0, hi0, hz0, hzs1, hz2⟩ := info_parts info_int
  have hO : w.ownsRow w.heap.size 3 1 (.slice none 0 0) 0 [] := ⟨rfl, .inl ⟨rfl, rfl⟩⟩
  go_enter Try.func52, Try.ntmps52
  go_wp2_with fail
  go_loopw [3, 5] (fun v c wr => ∃ j : Nat, j ≤ 21 ∧ c = .int .i64 j ∧ wr.ownsRow w.heap.size 3 1 v (holdL (fun j => t.testBit j) j).length (natCells (holdL (fun j => t.testBit j) j)) ∧ Below w.heap.size w wr) (fun _ c _ => 30 - (intOf c).toNat)
  case atStart => exact ⟨0, by omega, rfl, hO, Below.refl _ _⟩
  case round =>
    obtain ⟨j, hj, rfl, hown, hB⟩ := hrel
    have hlen := holdL_len (fun j => t.testBit j) j
    by_cases hlt : j < 21
    · cases hbit : t.testBit j with
      | true =>
        have E1 := Lib.hid (natCells_yes (B := fun j => t.testBit j) hbit)
        have E2 := Lib.hid (holdL_yes_len (B := fun j => t.testBit j) hbit)
        have hlk := hown.lt
        have hsz := hB.size
        go_wp2_with fail
        refine (has_at t j _ _ ht (by omega) hbit).mono ?_
        rintro e wx ⟨rfl, rfl⟩
        go_wp2_with (first | (at_builtin; refine wpList_append_own _ rfl _ _ 35 rfl w.heap.size 3 i0 (.int .i64 0) 1 8 Try.underlying35 hi0 hz0 hzs1 hz2 rfl (by decide) _ _ _ rfl (hown.alloc _) ⟨wr.heap.size, 0, none⟩ 1 1 [.int .i64 (j : Int)] rfl rfl (World.news_of_block (cs := #[.int .i64 (j : Int)]) (t := 3) (fr := (0, 0)) (heap_alloc_new wr _)) (by simp [Value.oneCell']) (by unfold maxLen; omega) (by omega) (by simp; omega) ?_))
        intro v' w2 hown2 hgrow2 _
        rw [E1.out, E2.out] at hown2
        have hB2 : Below w.heap.size w w2 := (hB.alloc (by omega) _).grown hgrow2 (by simp; omega) (fun k e => by have := hlk _ e; omega)
        clear hown hgrow2 hlk
        go_wp2
        go_roundw
        case rel => exact ⟨j + 1, by omega, congrArg (Value.int .i64) (by omega), hown2, hB2⟩
        case measure => simp [intOf]; omega
      | false =>
        have E1 := Lib.hid (holdL_no (B := fun j => t.testBit j) hbit)
        have HO := Lib.hid hown
        clear hown
        go_wp2_with fail
        refine (has_at t j _ _ ht (by omega) hbit).mono ?_
        rintro e wx ⟨rfl, rfl⟩
        go_wp2
        go_roundw
        case rel => exact ⟨j + 1, by omega, congrArg (Value.int .i64) (by omega), by rw [E1.out]; exact HO.out, hB⟩
        case measure => simp [intOf]; omega
    · obtain rfl : j = 21 := by omega
      have HO := Lib.hid hown
      clear hown
      go_wp2
      go_ret
      exact ⟨_, rfl, IsInts.of_owns (by rw [← natCells_range]; exact HO.out), hB⟩
set_option maxHeartbeats 4000000 in
theorem implZeros_any (p q : Int) (w : World) : Calls Try.prog 26 #[pr p q] w (ListOf (zerosL p q) w) := by
  cases hp : pairB p q with
  | true =>
    have HL := Lib.hid (show zerosL p q = holdL (divB p q 0) 21 by rw [zerosL, if_pos hp])
    have HP := Lib.hid hp
    clear hp
    go_enter Try.func26, Try.ntmps26
    go_wp2_with fail
    refine (implPairOk_yes p q _ HP.out).mono ?_
    rintro e w1 ⟨rfl, hh1⟩
    obtain ⟨hc1, hf1⟩ := bcell hh1
    have hz1 := hh1.size
    try simp only [World.size_alloc] at hz1
    have hz1_0 : w.heap.size < w1.heap.size := by omega
    have kb1_0_0 : w1.cell? ⟨w.heap.size, 0, none⟩ = some (.int .i64 p) := by go_simp
    have kf1_0_0 : w1.frozen? ⟨w.heap.size, 0, none⟩ = false := by go_simp
    have kb1_0_1 : w1.cell? ⟨w.heap.size, 1, none⟩ = some (.int .i64 q) := by go_simp
    have kf1_0_1 : w1.frozen? ⟨w.heap.size, 1, none⟩ = false := by go_simp
    clear hc1 hf1
    go_wp2_with fail
    refine (placesWhere_zero p q _ HP.out).mono ?_
    rintro e w2 ⟨t, rfl, HT, hh2⟩
    have HT2 := Lib.hid HT
    clear HT
    obtain ⟨hc2, hf2⟩ := bcell hh2
    have hz2 := hh2.size
    try simp only [World.size_alloc] at hz2
    have hz2_0 : w.heap.size < w2.heap.size := by omega
    have kb2_0_0 : w2.cell? ⟨w.heap.size, 0, none⟩ = some (.int .i64 p) := by go_simp
    have kf2_0_0 : w2.frozen? ⟨w.heap.size, 0, none⟩ = false := by go_simp
    have kb2_0_1 : w2.cell? ⟨w.heap.size, 1, none⟩ = some (.int .i64 q) := by go_simp
    have kf2_0_1 : w2.frozen? ⟨w.heap.size, 1, none⟩ = false := by go_simp
    clear hc2 hf2
    go_wp2_with fail
    refine (listed_at t _ HT2.out.1).mono ?_
    rintro e w3 ⟨v, rfl, hI, hh3⟩
    have hz3 := hh3.size
    go_wp2
    go_ret
    refine ⟨_, rfl, ?_, by (repeat (first | exact Below.refl _ _ | refine Below.setCell ?_ (by first | omega | (simp <;> omega)) _ | refine Below.alloc ?_ (by first | omega | (simp <;> omega)) _ | refine Below.drew ?_ | refine Below.trans ?_ (Below.mono (by assumption) (by first | omega | (simp <;> omega))) | refine Below.grown ?_ (by assumption) (by first | omega | (simp <;> omega)) (fun k e => by cases e; first | omega | (simp <;> omega))))⟩
    rw [HL.out, ← table_list HT2.out]
    exact hI.mono (by omega) (Nat.le_refl _) (Nat.le_refl _)
  | false =>
    have HL := Lib.hid (show zerosL p q = [] by rw [zerosL, if_neg (by simp [hp])])
    have HP := Lib.hid hp
    clear hp
    go_enter Try.func26, Try.ntmps26
    go_wp2_with fail
    refine (implPairOk_no p q _ HP.out).mono ?_
    rintro e w1 ⟨rfl, hh1⟩
    obtain ⟨hc1, hf1⟩ := bcell hh1
    have hz1 := hh1.size
    try simp only [World.size_alloc] at hz1
    have hz1_0 : w.heap.size < w1.heap.size := by omega
    have kb1_0_0 : w1.cell? ⟨w.heap.size, 0, none⟩ = some (.int .i64 p) := by go_simp
    have kf1_0_0 : w1.frozen? ⟨w.heap.size, 0, none⟩ = false := by go_simp
    have kb1_0_1 : w1.cell? ⟨w.heap.size, 1, none⟩ = some (.int .i64 q) := by go_simp
    have kf1_0_1 : w1.frozen? ⟨w.heap.size, 1, none⟩ = false := by go_simp
    clear hc1 hf1
    go_wp2
    go_ret
    exact ⟨_, rfl, by rw [HL.out]; exact IsInts.empty _ _ _ _ _, by (repeat (first | exact Below.refl _ _ | refine Below.setCell ?_ (by first | omega | (simp <;> omega)) _ | refine Below.alloc ?_ (by first | omega | (simp <;> omega)) _ | refine Below.drew ?_ | refine Below.trans ?_ (Below.mono (by assumption) (by first | omega | (simp <;> omega))) | refine Below.grown ?_ (by assumption) (by first | omega | (simp <;> omega)) (fun k e => by cases e; first | omega | (simp <;> omega))))⟩
theorem dividedB_ways {p q m : Int} (h : dividedB p q m = false) : pairB p q = false ∨ (pairB p q = true ∧ inB m 1 10000 = false) := by
  cases hp : pairB p q with
  | false => exact .inl rfl
  | true => exact .inr ⟨rfl, by simpa [dividedB, hp] using h⟩
theorem dividedB_true {p q m : Int} (h : dividedB p q m = true) : pairB p q = true ∧ inB m 1 10000 = true := by simpa [dividedB] using h
set_option maxHeartbeats 4000000 in
theorem implDivided_any (p q m : Int) (w : World) : Calls Try.prog 32 #[pr p q, .int .i64 m] w (ListOf (dividedL p q m) w) := by
  have hmf : ∀ (fn : Fn) (first cap : Array Value) (w : World), (Instr.makeFunc fn first cap).run Try.prog w = .ok (.func fn first cap) w := fun _ _ _ _ => rfl
  cases h : dividedB p q m with
  | true =>
    have HL := Lib.hid (show dividedL p q m = holdL (divB p q m) 21 by rw [dividedL, if_pos h])
    obtain ⟨hp, hm⟩ := dividedB_true h
    obtain ⟨m1, m2⟩ := inB_true hm
    have HP := Lib.hid hp
    have HM := Lib.hid hm
    clear hp hm h
    go_enter Try.func32, Try.ntmps32
    go_wp2_with fail
    refine (implPairOk_yes p q _ HP.out).mono ?_
    rintro e w1 ⟨rfl, hh1⟩
    obtain ⟨hc1, hf1⟩ := bcell hh1
    have hz1 := hh1.size
    try simp only [World.size_alloc] at hz1
    have hz1_0 : w.heap.size < w1.heap.size := by omega
    have hz1_1 : w.heap.size + 1 < w1.heap.size := by omega
    have kb1_0_0 : w1.cell? ⟨w.heap.size, 0, none⟩ = some (.int .i64 p) := by go_simp
    have kf1_0_0 : w1.frozen? ⟨w.heap.size, 0, none⟩ = false := by go_simp
    have kb1_0_1 : w1.cell? ⟨w.heap.size, 1, none⟩ = some (.int .i64 q) := by go_simp
    have kf1_0_1 : w1.frozen? ⟨w.heap.size, 1, none⟩ = false := by go_simp
    have kb1_1_0 : w1.cell? ⟨w.heap.size + 1, 0, none⟩ = some (.int .i64 m) := by go_simp
    have kf1_1_0 : w1.frozen? ⟨w.heap.size + 1, 0, none⟩ = false := by go_simp
    clear hc1 hf1
    go_wp2_with fail
    refine (byOk_is m true _ HM.out).mono ?_
    rintro e wx ⟨rfl, rfl⟩
    go_wp2_with fail
    refine (placesWhere_by p q m (w.heap.size + 1) _ HP.out m1 m2 kb1_1_0).mono ?_
    rintro e w2 ⟨t, rfl, HT, hh2⟩
    have HT2 := Lib.hid HT
    clear HT
    obtain ⟨hc2, hf2⟩ := bcell hh2
    have hz2 := hh2.size
    try simp only [World.size_alloc] at hz2
    have hz2_0 : w.heap.size < w2.heap.size := by omega
    have hz2_1 : w.heap.size + 1 < w2.heap.size := by omega
    have kb2_0_0 : w2.cell? ⟨w.heap.size, 0, none⟩ = some (.int .i64 p) := by go_simp
    have kf2_0_0 : w2.frozen? ⟨w.heap.size, 0, none⟩ = false := by go_simp
    have kb2_0_1 : w2.cell? ⟨w.heap.size, 1, none⟩ = some (.int .i64 q) := by go_simp
    have kf2_0_1 : w2.frozen? ⟨w.heap.size, 1, none⟩ = false := by go_simp
    have kb2_1_0 : w2.cell? ⟨w.heap.size + 1, 0, none⟩ = some (.int .i64 m) := by go_simp
    have kf2_1_0 : w2.frozen? ⟨w.heap.size + 1, 0, none⟩ = false := by go_simp
    clear hc2 hf2
    go_wp2_with fail
    refine (listed_at t _ HT2.out.1).mono ?_
    rintro e w3 ⟨v, rfl, hI, hh3⟩
    have hz3 := hh3.size
    go_wp2
    go_ret
    refine ⟨_, rfl, ?_, by (repeat (first | exact Below.refl _ _ | refine Below.setCell ?_ (by first | omega | (simp <;> omega)) _ | refine Below.alloc ?_ (by first | omega | (simp <;> omega)) _ | refine Below.drew ?_ | refine Below.trans ?_ (Below.mono (by assumption) (by first | omega | (simp <;> omega))) | refine Below.grown ?_ (by assumption) (by first | omega | (simp <;> omega)) (fun k e => by cases e; first | omega | (simp <;> omega))))⟩
    rw [HL.out, ← table_list HT2.out]
    exact hI.mono (by omega) (Nat.le_refl _) (Nat.le_refl _)
  | false =>
    have HL := Lib.hid (show dividedL p q m = [] by rw [dividedL, if_neg (by simp [h])])
    rcases dividedB_ways h with hp | ⟨hp, hm⟩
    · have HP := Lib.hid hp
      clear hp h
      go_enter Try.func32, Try.ntmps32
      go_wp2_with fail
      refine (implPairOk_no p q _ HP.out).mono ?_
      rintro e w1 ⟨rfl, hh1⟩
      obtain ⟨hc1, hf1⟩ := bcell hh1
      have hz1 := hh1.size
      try simp only [World.size_alloc] at hz1
      have hz1_0 : w.heap.size < w1.heap.size := by omega
      have hz1_1 : w.heap.size + 1 < w1.heap.size := by omega
      have kb1_0_0 : w1.cell? ⟨w.heap.size, 0, none⟩ = some (.int .i64 p) := by go_simp
      have kf1_0_0 : w1.frozen? ⟨w.heap.size, 0, none⟩ = false := by go_simp
      have kb1_0_1 : w1.cell? ⟨w.heap.size, 1, none⟩ = some (.int .i64 q) := by go_simp
      have kf1_0_1 : w1.frozen? ⟨w.heap.size, 1, none⟩ = false := by go_simp
      have kb1_1_0 : w1.cell? ⟨w.heap.size + 1, 0, none⟩ = some (.int .i64 m) := by go_simp
      have kf1_1_0 : w1.frozen? ⟨w.heap.size + 1, 0, none⟩ = false := by go_simp
      clear hc1 hf1
      go_wp2
      go_ret
      exact ⟨_, rfl, by rw [HL.out]; exact IsInts.empty _ _ _ _ _, by (repeat (first | exact Below.refl _ _ | refine Below.setCell ?_ (by first | omega | (simp <;> omega)) _ | refine Below.alloc ?_ (by first | omega | (simp <;> omega)) _ | refine Below.drew ?_ | refine Below.trans ?_ (Below.mono (by assumption) (by first | omega | (simp <;> omega))) | refine Below.grown ?_ (by assumption) (by first | omega | (simp <;> omega)) (fun k e => by cases e; first | omega | (simp <;> omega))))⟩
    · have HP := Lib.hid hp
      have HM := Lib.hid hm
      clear hp hm h
      go_enter Try.func32, Try.ntmps32
      go_wp2_with fail
      refine (implPairOk_yes p q _ HP.out).mono ?_
      rintro e w1 ⟨rfl, hh1⟩
      obtain ⟨hc1, hf1⟩ := bcell hh1
      have hz1 := hh1.size
      try simp only [World.size_alloc] at hz1
      have hz1_0 : w.heap.size < w1.heap.size := by omega
      have hz1_1 : w.heap.size + 1 < w1.heap.size := by omega
      have kb1_0_0 : w1.cell? ⟨w.heap.size, 0, none⟩ = some (.int .i64 p) := by go_simp
      have kf1_0_0 : w1.frozen? ⟨w.heap.size, 0, none⟩ = false := by go_simp
      have kb1_0_1 : w1.cell? ⟨w.heap.size, 1, none⟩ = some (.int .i64 q) := by go_simp
      have kf1_0_1 : w1.frozen? ⟨w.heap.size, 1, none⟩ = false := by go_simp
      have kb1_1_0 : w1.cell? ⟨w.heap.size + 1, 0, none⟩ = some (.int .i64 m) := by go_simp
      have kf1_1_0 : w1.frozen? ⟨w.heap.size + 1, 0, none⟩ = false := by go_simp
      clear hc1 hf1
      go_wp2_with fail
      refine (byOk_is m false _ HM.out).mono ?_
      rintro e wx ⟨rfl, rfl⟩
      go_wp2
      go_ret
      exact ⟨_, rfl, by rw [HL.out]; exact IsInts.empty _ _ _ _ _, by (repeat (first | exact Below.refl _ _ | refine Below.setCell ?_ (by first | omega | (simp <;> omega)) _ | refine Below.alloc ?_ (by first | omega | (simp <;> omega)) _ | refine Below.drew ?_ | refine Below.trans ?_ (Below.mono (by assumption) (by first | omega | (simp <;> omega))) | refine Below.grown ?_ (by assumption) (by first | omega | (simp <;> omega)) (fun k e => by cases e; first | omega | (simp <;> omega))))⟩
end Go.Proofs.Ytennicmmjbfljaa
