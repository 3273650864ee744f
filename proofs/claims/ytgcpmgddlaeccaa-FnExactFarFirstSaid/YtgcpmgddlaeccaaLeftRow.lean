/- RowLeft of the model: a row of its own, appended to number by number. -/
import Derived.Test.YtgcpmgddlaeccaaLeftSpec
namespace Go.Proofs.Ytgcpmgddlaeccaa
open Go.RowKit
/-- The numbers that are left, as cells. -/
def leftCells (p q m : Int) (n : Nat) : List Value := (List.range n).map fun i => .int .i64 (row p q 0 1 i % m)
theorem leftCells_length (p q m : Int) (n : Nat) : (leftCells p q m n).length = n := by simp [leftCells]
theorem leftCells_snoc (p q m : Int) (n : Nat) : leftCells p q m n ++ [.int .i64 (row p q 0 1 n % m)] = leftCells p q m (n + 1) := by simp [leftCells, List.range_succ]
theorem own0 {w : World} {base g : Nat} (hb : base ≤ g) (h : w.heap[g]? = some (.cells #[] 3 (0, 0))) : w.ownsRow base 3 1 (.slice (some ⟨g, 0, none⟩) 0 0) 0 [] :=
  ⟨rfl, .inr ⟨g, 0, #[], rfl, hb, h, Nat.le_refl _, by unfold maxLen; omega, rfl, rfl⟩⟩
/-- What RowLeft returns. -/
def RowLeftOf (p q n m : Int) (w : World) (e : Ending) (w' : World) : Prop :=
  ∃ v, e = .returned v ∧ IsInts w.heap.size w'.heap.size w' v (rowLeftN p q n m) (fun i => row p q 0 1 i % m) ∧ Below w.heap.size w w'
set_option maxRecDepth 100000 in
set_option maxHeartbeats 4000000 in
theorem specRowLeft_yes (p q m : Int) (n : Nat) (w : World) (h : rowLeftB p q n m = true) :
    Calls Try.prog 15 #[pr p q, .int .i64 n, .int .i64 m] w (RowLeftOf p q n m w) := by
  obtain ⟨i0, hi0, hz0, hzs1, hz2⟩ := info_parts info_int
  obtain ⟨hp, ⟨k, hk, hk2⟩, m1, m2⟩ := rowLeftB_true h
  obtain rfl : n = k := by omega
  obtain ⟨⟨r1, r2⟩, r3, r4⟩ := pairB_true hp
  have HN := Lib.hid (show rowLeftN p q n m = n + 1 by rw [rowLeftN, if_pos h]; rfl)
  have HA := Lib.hid (inB_mk (n := (n : Int)) (a := 0) (b := 200) (by omega) (by omega))
  have HB := Lib.hid (inB_mk (n := m) (a := 1) (b := 10000) m1 m2)
  have m3 : m ≤ 1000000000000 := by omega
  have hz : (m == 0) = false := by simp; omega
  have HP := Lib.hid hp
  clear hp h hk
  go_enter Try.func15, Try.ntmps15
  go_wp2_with fail
  refine (specPairOk_yes p q _ HP.out).mono ?_
  rintro e w1 ⟨rfl, hh1⟩
  have hz1 := hh1.size
  simp only [World.size_alloc] at hz1
  have hz1_0 : w.heap.size < w1.heap.size := by omega
  have kp : w1.cell? ⟨w.heap.size, 0, none⟩ = some (.int .i64 p) := by rw [hh1.cell (p := ⟨w.heap.size, 0, none⟩) (by simp; omega)]; go_simp
  have kq : w1.cell? ⟨w.heap.size, 1, none⟩ = some (.int .i64 q) := by rw [hh1.cell (p := ⟨w.heap.size, 1, none⟩) (by simp; omega)]; go_simp
  have e1 : w1.heap[w.heap.size + 1]? = some (.cells #[] 3 (0, 0)) := by
    rw [hh1.block (w.heap.size + 1) (by simp)]
    have := heap_alloc_new (w.alloc (.cells #[.int .i64 p, .int .i64 q] 24)) (.cells #[] 3 (0, 0))
    rwa [World.size_alloc] at this
  have hB1 : Below w.heap.size w w1 := by (repeat (first | exact Below.refl _ _ | refine Below.setCell ?_ (by first | omega | (simp <;> omega)) _ | refine Below.alloc ?_ (by first | omega | (simp <;> omega)) _ | refine Below.drew ?_ | refine Below.trans ?_ (Below.mono (by assumption) (by first | omega | (simp <;> omega))) | refine Below.grown ?_ (by assumption) (by first | omega | (simp <;> omega)) (fun k e => by cases e; first | omega | (simp <;> omega))))
  have hO := own0 (base := w.heap.size + 1) (Nat.le_refl _) e1
  clear e1
  go_wp2_with fail
  refine (l1In_is _ 0 200 true _ HA.out).mono ?_
  rintro e wx ⟨rfl, rfl⟩
  go_wp2_with fail
  refine (l1In_is m 1 10000 true _ HB.out).mono ?_
  rintro e wx ⟨rfl, rfl⟩
  go_wp2_with fail
  go_loopw [7, 8, 9, 10] (fun o x y c wr => ∃ j : Nat, j ≤ n + 1 ∧ c = .int .i64 j ∧ x = .int .i64 (row p q 0 1 j % m) ∧ y = .int .i64 (row p q 0 1 (j + 1) % m) ∧ wr.ownsRow (w.heap.size + 1) 3 1 o j (leftCells p q m j) ∧
      wr.cell? ⟨w.heap.size, 0, none⟩ = some (.int .i64 p) ∧ wr.cell? ⟨w.heap.size, 1, none⟩ = some (.int .i64 q) ∧ w.heap.size < wr.heap.size ∧ Below w.heap.size w wr) (fun _ _ _ c _ => 300 - (intOf c).toNat)
  case atStart => exact ⟨0, by omega, rfl, congrArg (Value.int .i64) (by simp [row]), congrArg (Value.int .i64) (by simp [row]), hO, kp, kq, hz1_0, hB1⟩
  case round =>
    obtain ⟨j, hj, rfl, rfl, rfl, hown, hcP, hcQ, hsz, hB⟩ := hrel
    by_cases hlt : j ≤ n
    · obtain ⟨a0, a1⟩ := left_bd (row p q 0 1 j) m m1
      obtain ⟨b0, b1⟩ := left_bd (row p q 0 1 (j + 1)) m m1
      obtain ⟨x1, x2⟩ := mul_bd (b := 10000) r1 r2 (show -10000 ≤ row p q 0 1 (j + 1) % m by omega) (by omega)
      obtain ⟨x3, x4⟩ := mul_bd (b := 10000) r3 r4 (show -10000 ≤ row p q 0 1 j % m by omega) (by omega)
      have E := Lib.hid (far_next p q m j)
      have hlk := hown.lt
      go_wp2_with (first | (at_builtin; refine wpList_append_own _ rfl _ _ 29 rfl (w.heap.size + 1) 3 i0 (.int .i64 0) 1 8 Try.underlying29 hi0 hz0 hzs1 hz2 rfl (by decide) _ _ _ rfl (hown.alloc _) ⟨wr.heap.size, 0, none⟩ 1 1 [.int .i64 (row p q 0 1 j % m)] rfl rfl (World.news_of_block (cs := #[.int .i64 (row p q 0 1 j % m)]) (t := 3) (fr := (0, 0)) (heap_alloc_new wr _)) (by simp [Value.oneCell']) (by unfold maxLen; omega) (by omega) (by simp; omega) ?_))
      intro v' w2 hown2 hgrow2 _
      rw [leftCells_snoc] at hown2
      have kP : w2.cell? ⟨w.heap.size, 0, none⟩ = some (.int .i64 p) := (hgrow2.cell_far ⟨w.heap.size, 0, none⟩ (by simp; omega) (fun e => by have := hlk w.heap.size e.symm; omega)).trans ((World.cell?_alloc_past _ _ _ hsz).trans hcP)
      have kQ : w2.cell? ⟨w.heap.size, 1, none⟩ = some (.int .i64 q) := (hgrow2.cell_far ⟨w.heap.size, 1, none⟩ (by simp; omega) (fun e => by have := hlk w.heap.size e.symm; omega)).trans ((World.cell?_alloc_past _ _ _ hsz).trans hcQ)
      have hz2' : wr.heap.size + 1 ≤ w2.heap.size := by have := hgrow2.size; simpa using this
      have hB2 : Below w.heap.size w w2 := (hB.alloc (by omega) _).grown hgrow2 (by simp; omega) (fun k e => by have := hlk _ e; omega)
      clear hown hgrow2 hcP hcQ hlk
      go_wp2_with fail
      refine (l3Left_at _ _ _ _ m1 m3 E.out).mono ?_
      rintro e wx ⟨rfl, rfl⟩
      go_wp2
      go_roundw
      case rel => exact ⟨j + 1, by omega, congrArg (Value.int .i64) (by omega), rfl, rfl, hown2, kP, kQ, by omega, hB2⟩
      case measure => simp [intOf]; omega
    · obtain rfl : j = n + 1 := by omega
      go_wp2
      go_ret
      exact ⟨_, rfl, by rw [HN.out]; exact (IsInts.of_owns hown).mono (by omega) (Nat.le_refl _) (Nat.le_refl _), hB⟩
set_option maxHeartbeats 4000000 in
theorem specRowLeft_no (p q n m : Int) (w : World) (h : rowLeftB p q n m = false) :
    Calls Try.prog 15 #[pr p q, .int .i64 n, .int .i64 m] w (RowLeftOf p q n m w) := by
  have HV := Lib.hid (show rowLeftN p q n m = 0 by rw [rowLeftN, if_neg (by simp [h])])
  rcases rowLeftB_ways h with hp | ⟨hp, ha⟩ | ⟨hp, ha, hb⟩
  · have HP := Lib.hid hp
    clear hp h
    go_enter Try.func15, Try.ntmps15
    go_wp2_with fail
    refine (specPairOk_no p q _ HP.out).mono ?_
    rintro e w1 ⟨rfl, hh1⟩
    obtain ⟨hc1, hf1⟩ := bcell hh1
    have hz1 := hh1.size
    try simp only [World.size_alloc] at hz1
    have hz1_0 : w.heap.size < w1.heap.size := by omega
    go_wp2
    go_ret
    exact ⟨_, rfl, by rw [HV.out]; exact IsInts.empty _ _ _ _ _, by (repeat (first | exact Below.refl _ _ | refine Below.setCell ?_ (by first | omega | (simp <;> omega)) _ | refine Below.alloc ?_ (by first | omega | (simp <;> omega)) _ | refine Below.drew ?_ | refine Below.trans ?_ (Below.mono (by assumption) (by first | omega | (simp <;> omega))) | refine Below.grown ?_ (by assumption) (by first | omega | (simp <;> omega)) (fun k e => by cases e; first | omega | (simp <;> omega))))⟩
  · have HP := Lib.hid hp
    have HA := Lib.hid ha
    clear hp ha h
    go_enter Try.func15, Try.ntmps15
    go_wp2_with fail
    refine (specPairOk_yes p q _ HP.out).mono ?_
    rintro e w1 ⟨rfl, hh1⟩
    obtain ⟨hc1, hf1⟩ := bcell hh1
    have hz1 := hh1.size
    try simp only [World.size_alloc] at hz1
    have hz1_0 : w.heap.size < w1.heap.size := by omega
    go_wp2_with fail
    refine (l1In_is n 0 200 false _ HA.out).mono ?_
    rintro e wx ⟨rfl, rfl⟩
    go_wp2
    go_ret
    exact ⟨_, rfl, by rw [HV.out]; exact IsInts.empty _ _ _ _ _, by (repeat (first | exact Below.refl _ _ | refine Below.setCell ?_ (by first | omega | (simp <;> omega)) _ | refine Below.alloc ?_ (by first | omega | (simp <;> omega)) _ | refine Below.drew ?_ | refine Below.trans ?_ (Below.mono (by assumption) (by first | omega | (simp <;> omega))) | refine Below.grown ?_ (by assumption) (by first | omega | (simp <;> omega)) (fun k e => by cases e; first | omega | (simp <;> omega))))⟩
  · have HP := Lib.hid hp
    have HA := Lib.hid ha
    have HB := Lib.hid hb
    clear hp ha hb h
    go_enter Try.func15, Try.ntmps15
    go_wp2_with fail
    refine (specPairOk_yes p q _ HP.out).mono ?_
    rintro e w1 ⟨rfl, hh1⟩
    obtain ⟨hc1, hf1⟩ := bcell hh1
    have hz1 := hh1.size
    try simp only [World.size_alloc] at hz1
    have hz1_0 : w.heap.size < w1.heap.size := by omega
    go_wp2_with fail
    refine (l1In_is n 0 200 true _ HA.out).mono ?_
    rintro e wx ⟨rfl, rfl⟩
    go_wp2_with fail
    refine (l1In_is m 1 10000 false _ HB.out).mono ?_
    rintro e wx ⟨rfl, rfl⟩
    go_wp2
    go_ret
    exact ⟨_, rfl, by rw [HV.out]; exact IsInts.empty _ _ _ _ _, by (repeat (first | exact Below.refl _ _ | refine Below.setCell ?_ (by first | omega | (simp <;> omega)) _ | refine Below.alloc ?_ (by first | omega | (simp <;> omega)) _ | refine Below.drew ?_ | refine Below.trans ?_ (Below.mono (by assumption) (by first | omega | (simp <;> omega))) | refine Below.grown ?_ (by assumption) (by first | omega | (simp <;> omega)) (fun k e => by cases e; first | omega | (simp <;> omega))))⟩
theorem specRowLeft_any (p q n m : Int) (w : World) : Calls Try.prog 15 #[pr p q, .int .i64 n, .int .i64 m] w (RowLeftOf p q n m w) := by
  cases h : rowLeftB p q n m with
  | true =>
    obtain ⟨_, ⟨k, rfl, _⟩, _, _⟩ := rowLeftB_true h
    exact specRowLeft_yes p q m k w h
  | false => exact specRowLeft_no p q n m w h
end Go.Proofs.Ytgcpmgddlaeccaa
