/- Contracts and laws that the statement's proof stands on, one text behind the other. -/
import Derived.Test.YtigcomhhgfgmgaaDoorAll0a
import Derived.Maps.AppendAt
import Derived.Laws.OwnMore
import Derived.OneCell
import Derived.WalkKit
import Derived.Lib.Split
import Derived.RangeFuncNested
import Derived.RangeFuncBound
import Derived.RangeFuncCalls
import Derived.RangeFuncLeaves
import Derived.Sort.QuietIn
import Derived.KernelRfl
import Derived.BigQuiet
import Derived.Deep.RegionHeld3
import Derived.Laws.MakeOwn
import Derived.ProofKit
import Derived.OpenShut
import Derived.Below
import Derived.Lib.SmallJoins
import Derived.Deep.Slices
import Derived.Deep.Fields
import Derived.Deep.Strs
import Derived.Deep.Cut
import Derived.Deep.DeepCutAuto

namespace Go.Proofs.YtigcomhhgfgmgaaDoor
open Go.RowKit
theorem number_is (n : Int) (X : ByteArray) (w : World) (h0 : -9223372036854775807 ≤ n) (h1 : n ≤ 9223372036854775807) (hX : txt (numberT n) = X) : Calls Tryd.prog 37 #[.int .i64 n] w fun e w' => e = .returned (.string X) ∧ Below w.heap.size w w' := by rw [← hX]; exact number_any n w h0 h1
set_option maxRecDepth 100000 in
set_option maxHeartbeats 2000000 in
theorem specText_take (a b : Int) (w : World) (ha1 : -9 ≤ a) (ha2 : a ≤ 9) (hb1 : -9 ≤ b) (hb2 : b ≤ 9) : Calls Tryd.prog 12 #[.agg #[.int .i64 0, .int .i64 a, .int .i64 b]] w fun e w' => e = .returned (.string (txt (deedT ⟨0, a, b⟩))) ∧ Below w.heap.size w w' := by
  have hA0 := (decide_eq_true (show -9 ≤ a ∧ a ≤ 9 from ⟨ha1, ha2⟩) : inB a (-9) 9 = true)
  have hB0 := (decide_eq_true (show -9 ≤ b ∧ b ≤ 9 from ⟨hb1, hb2⟩) : inB b (-9) 9 = true)
  obtain ⟨A, hA, hAs, hAl⟩ := small_text ha1 ha2
  obtain ⟨B, hB, hBs, hBl⟩ := small_text hb1 hb2
  have HE := Lib.hid (take_text2 ⟨ha1, ha2, hb1, hb2⟩ hAl hBl)
  have HIA := Lib.hid (fun W => number_is a A W (by omega) (by omega) hA)
  have HIB := Lib.hid (fun W => number_is b B W (by omega) (by omega) hB)
  clear hA hB hAl hBl
  have s1 : ¬ 9223372036854775807 < 5 + A.size := by omega
  have s2 : ¬ 9223372036854775807 < 5 + A.size + 1 := by omega
  have s3 : ¬ 9223372036854775807 < 5 + A.size + 1 + B.size := by omega
  go_enter Tryd.func12, Tryd.ntmps12
  go_wp2_with fail
  refine (l1In_is a (-9) 9 true _ hA0).mono ?_
  rintro e wa ⟨rfl, hwa⟩
  subst hwa
  go_wp2_with fail
  refine (l1In_is b (-9) 9 true _ hB0).mono ?_
  rintro e wb ⟨rfl, hwb⟩
  subst hwb
  go_wp2_with fail
  refine region_namedD ?_
  intro w1 hw1
  have hz1 : w1.heap.size = w.heap.size + 1 := by rw [hw1]; simp
  have hb1' : Below w.heap.size w w1 := by rw [hw1]; (repeat (first | exact Below.refl _ _ | refine Below.setCell ?_ (by first | omega | (simp <;> omega)) _ | refine Below.alloc ?_ (by first | omega | (simp <;> omega)) _ | refine Below.drew ?_ | refine Below.trans ?_ (Below.mono (by assumption) (by first | omega | (simp <;> omega))) | refine Below.grown ?_ (by assumption) (by first | omega | (simp <;> omega)) (fun k e => by cases e; first | omega | (simp <;> omega))))
  have cb0 : w1.cell? ⟨w.heap.size, 0, none⟩ = some (.int .i64 0) := by rw [hw1]; go_simp
  have cb1 : w1.cell? ⟨w.heap.size, 1, none⟩ = some (.int .i64 a) := by rw [hw1]; go_simp
  have cb2 : w1.cell? ⟨w.heap.size, 2, none⟩ = some (.int .i64 b) := by rw [hw1]; go_simp
  have hs1 : w.heap.size < w1.heap.size := by omega
  clear hw1
  go_wp2_with fail
  go_region_held3 (fun W_ => W_.cell? ⟨w.heap.size, 0, none⟩ = some (.int .i64 0) ∧ W_.cell? ⟨w.heap.size, 1, none⟩ = some (.int .i64 a) ∧ W_.cell? ⟨w.heap.size, 2, none⟩ = some (.int .i64 b))
    ((go_split_ands; refine ⟨?_, ?_, ?_⟩ <;> (repeat (first | with_reducible assumption | with_reducible refine cell_alloc_is _ ?_ | with_reducible refine cell_drew_is ?_ | with_reducible refine cell_set_is ?_ ?_ | omega)); done))
    ((first | (go_at_call 37; with_reducible refine (HIA.out _).mono ?_; rintro e w_2 ⟨rfl, hb_2⟩; obtain ⟨hc_2, hf_2⟩ := bcell hb_2; have hz_2 := hb_2.size; (try simp at hz_2); (try have hq_2 : w.heap.size < w_2.heap.size := by omega); have kx0 := (hb_2.cell (p := ⟨w.heap.size, 0, none⟩) (by first | omega | (simp <;> omega))).trans (show _ = some (.int .i64 0) by (repeat (first | with_reducible assumption | with_reducible refine cell_alloc_is _ ?_ | with_reducible refine cell_drew_is ?_ | with_reducible refine cell_set_is ?_ ?_ | omega))); have kx1 := (hb_2.cell (p := ⟨w.heap.size, 1, none⟩) (by first | omega | (simp <;> omega))).trans (show _ = some (.int .i64 a) by (repeat (first | with_reducible assumption | with_reducible refine cell_alloc_is _ ?_ | with_reducible refine cell_drew_is ?_ | with_reducible refine cell_set_is ?_ ?_ | omega))); have kx2 := (hb_2.cell (p := ⟨w.heap.size, 2, none⟩) (by first | omega | (simp <;> omega))).trans (show _ = some (.int .i64 b) by (repeat (first | with_reducible assumption | with_reducible refine cell_alloc_is _ ?_ | with_reducible refine cell_drew_is ?_ | with_reducible refine cell_set_is ?_ ?_ | omega)))) | (go_at_call 37; with_reducible refine (HIB.out _).mono ?_; rintro e w_2 ⟨rfl, hb_2⟩; obtain ⟨hc_2, hf_2⟩ := bcell hb_2; have hz_2 := hb_2.size; (try simp at hz_2); (try have hq_2 : w.heap.size < w_2.heap.size := by omega); have kx0 := (hb_2.cell (p := ⟨w.heap.size, 0, none⟩) (by first | omega | (simp <;> omega))).trans (show _ = some (.int .i64 0) by (repeat (first | with_reducible assumption | with_reducible refine cell_alloc_is _ ?_ | with_reducible refine cell_drew_is ?_ | with_reducible refine cell_set_is ?_ ?_ | omega))); have kx1 := (hb_2.cell (p := ⟨w.heap.size, 1, none⟩) (by first | omega | (simp <;> omega))).trans (show _ = some (.int .i64 a) by (repeat (first | with_reducible assumption | with_reducible refine cell_alloc_is _ ?_ | with_reducible refine cell_drew_is ?_ | with_reducible refine cell_set_is ?_ ?_ | omega))); have kx2 := (hb_2.cell (p := ⟨w.heap.size, 2, none⟩) (by first | omega | (simp <;> omega))).trans (show _ = some (.int .i64 b) by (repeat (first | with_reducible assumption | with_reducible refine cell_alloc_is _ ?_ | with_reducible refine cell_drew_is ?_ | with_reducible refine cell_set_is ?_ ?_ | omega)))) | fail))
  all_goals
    go_wp2_with fail
    go_ret
    exact ⟨by rw [HE.out]; rfl, by (repeat (first | exact hb1' | exact Below.refl _ _ | refine Below.setCell ?_ (by first | omega | (simp <;> omega)) _ | refine Below.alloc ?_ (by first | omega | (simp <;> omega)) _ | refine Below.drew ?_ | refine Below.trans ?_ (Below.mono (by assumption) (by first | omega | (simp <;> omega)))))⟩
set_option maxRecDepth 100000 in
set_option maxHeartbeats 2000000 in
theorem specText_notA (a b : Int) (w : World) (h : ¬ (-9 ≤ a ∧ a ≤ 9)) : Calls Tryd.prog 12 #[.agg #[.int .i64 0, .int .i64 a, .int .i64 b]] w fun e w' => e = .returned (.string (txt (deedT ⟨0, a, b⟩))) ∧ Below w.heap.size w w' := by
  have HE := Lib.hid (deedT_not (a := a) (b := b) (by omega))
  have hA0 := (decide_eq_false h : inB a (-9) 9 = false)
  go_enter Tryd.func12, Tryd.ntmps12
  go_wp2_with fail
  refine (l1In_is a (-9) 9 false _ hA0).mono ?_
  rintro e wa ⟨rfl, hwa⟩
  subst hwa
  go_wp2
  go_ret
  exact ⟨by rw [HE.out]; rfl, by (repeat (first | exact Below.refl _ _ | refine Below.setCell ?_ (by first | omega | (simp <;> omega)) _ | refine Below.alloc ?_ (by first | omega | (simp <;> omega)) _ | refine Below.drew ?_ | refine Below.trans ?_ (Below.mono (by assumption) (by first | omega | (simp <;> omega))) | refine Below.grown ?_ (by assumption) (by first | omega | (simp <;> omega)) (fun k e => by cases e; first | omega | (simp <;> omega))))⟩
set_option maxRecDepth 100000 in
set_option maxHeartbeats 2000000 in
theorem specText_notB (a b : Int) (w : World) (h1 : -9 ≤ a ∧ a ≤ 9) (h : ¬ (-9 ≤ b ∧ b ≤ 9)) : Calls Tryd.prog 12 #[.agg #[.int .i64 0, .int .i64 a, .int .i64 b]] w fun e w' => e = .returned (.string (txt (deedT ⟨0, a, b⟩))) ∧ Below w.heap.size w w' := by
  have HE := Lib.hid (deedT_not (a := a) (b := b) (by omega))
  have hA0 := (decide_eq_true h1 : inB a (-9) 9 = true)
  have hB0 := (decide_eq_false h : inB b (-9) 9 = false)
  go_enter Tryd.func12, Tryd.ntmps12
  go_wp2_with fail
  refine (l1In_is a (-9) 9 true _ hA0).mono ?_
  rintro e wa ⟨rfl, hwa⟩
  subst hwa
  go_wp2_with fail
  refine (l1In_is b (-9) 9 false _ hB0).mono ?_
  rintro e wb ⟨rfl, hwb⟩
  subst hwb
  go_wp2
  go_ret
  exact ⟨by rw [HE.out]; rfl, by (repeat (first | exact Below.refl _ _ | refine Below.setCell ?_ (by first | omega | (simp <;> omega)) _ | refine Below.alloc ?_ (by first | omega | (simp <;> omega)) _ | refine Below.drew ?_ | refine Below.trans ?_ (Below.mono (by assumption) (by first | omega | (simp <;> omega))) | refine Below.grown ?_ (by assumption) (by first | omega | (simp <;> omega)) (fun k e => by cases e; first | omega | (simp <;> omega))))⟩
set_option maxRecDepth 100000 in
set_option maxHeartbeats 2000000 in
theorem specText_word1 (w : World) : Calls Tryd.prog 12 #[.agg #[.int .i64 1, .int .i64 0, .int .i64 0]] w fun e w' => e = .returned (.string (txt (deedT ⟨1, 0, 0⟩))) ∧ Below w.heap.size w w' := by
  have HE := Lib.hid (show deedT ⟨1, 0, 0⟩ = [116, 117, 114, 110] by decide)
  go_enter Tryd.func12, Tryd.ntmps12
  go_wp2
  go_ret
  exact ⟨by rw [HE.out]; rfl, by (repeat (first | exact Below.refl _ _ | refine Below.setCell ?_ (by first | omega | (simp <;> omega)) _ | refine Below.alloc ?_ (by first | omega | (simp <;> omega)) _ | refine Below.drew ?_ | refine Below.trans ?_ (Below.mono (by assumption) (by first | omega | (simp <;> omega))) | refine Below.grown ?_ (by assumption) (by first | omega | (simp <;> omega)) (fun k e => by cases e; first | omega | (simp <;> omega))))⟩
set_option maxRecDepth 100000 in
set_option maxHeartbeats 2000000 in
theorem specText_named1 (a b : Int) (w : World) (h : ¬ (a = 0 ∧ b = 0)) : Calls Tryd.prog 12 #[.agg #[.int .i64 1, .int .i64 a, .int .i64 b]] w fun e w' => e = .returned (.string (txt (deedT ⟨1, a, b⟩))) ∧ Below w.heap.size w w' := by
  have HE := Lib.hid (deedT_named (k := 1) (by decide) h)
  by_cases ha : a = 0
  · have hb : ¬ b = 0 := fun e => h ⟨ha, e⟩
    subst ha
    have hbf : (b == 0) = false := by simp [hb]
    clear h
    go_enter Tryd.func12, Tryd.ntmps12
    go_wp2
    go_ret
    exact ⟨by rw [HE.out]; rfl, by (repeat (first | exact Below.refl _ _ | refine Below.setCell ?_ (by first | omega | (simp <;> omega)) _ | refine Below.alloc ?_ (by first | omega | (simp <;> omega)) _ | refine Below.drew ?_ | refine Below.trans ?_ (Below.mono (by assumption) (by first | omega | (simp <;> omega))) | refine Below.grown ?_ (by assumption) (by first | omega | (simp <;> omega)) (fun k e => by cases e; first | omega | (simp <;> omega))))⟩
  · have haf : (a == 0) = false := by simp [ha]
    clear h
    go_enter Tryd.func12, Tryd.ntmps12
    go_wp2
    go_ret
    exact ⟨by rw [HE.out]; rfl, by (repeat (first | exact Below.refl _ _ | refine Below.setCell ?_ (by first | omega | (simp <;> omega)) _ | refine Below.alloc ?_ (by first | omega | (simp <;> omega)) _ | refine Below.drew ?_ | refine Below.trans ?_ (Below.mono (by assumption) (by first | omega | (simp <;> omega))) | refine Below.grown ?_ (by assumption) (by first | omega | (simp <;> omega)) (fun k e => by cases e; first | omega | (simp <;> omega))))⟩
set_option maxRecDepth 100000 in
set_option maxHeartbeats 2000000 in
theorem specText_word2 (w : World) : Calls Tryd.prog 12 #[.agg #[.int .i64 2, .int .i64 0, .int .i64 0]] w fun e w' => e = .returned (.string (txt (deedT ⟨2, 0, 0⟩))) ∧ Below w.heap.size w w' := by
  have HE := Lib.hid (show deedT ⟨2, 0, 0⟩ = [117, 112] by decide)
  go_enter Tryd.func12, Tryd.ntmps12
  go_wp2
  go_ret
  exact ⟨by rw [HE.out]; rfl, by (repeat (first | exact Below.refl _ _ | refine Below.setCell ?_ (by first | omega | (simp <;> omega)) _ | refine Below.alloc ?_ (by first | omega | (simp <;> omega)) _ | refine Below.drew ?_ | refine Below.trans ?_ (Below.mono (by assumption) (by first | omega | (simp <;> omega))) | refine Below.grown ?_ (by assumption) (by first | omega | (simp <;> omega)) (fun k e => by cases e; first | omega | (simp <;> omega))))⟩
set_option maxRecDepth 100000 in
set_option maxHeartbeats 2000000 in
theorem specText_named2 (a b : Int) (w : World) (h : ¬ (a = 0 ∧ b = 0)) : Calls Tryd.prog 12 #[.agg #[.int .i64 2, .int .i64 a, .int .i64 b]] w fun e w' => e = .returned (.string (txt (deedT ⟨2, a, b⟩))) ∧ Below w.heap.size w w' := by
  have HE := Lib.hid (deedT_named (k := 2) (by decide) h)
  by_cases ha : a = 0
  · have hb : ¬ b = 0 := fun e => h ⟨ha, e⟩
    subst ha
    have hbf : (b == 0) = false := by simp [hb]
    clear h
    go_enter Tryd.func12, Tryd.ntmps12
    go_wp2
    go_ret
    exact ⟨by rw [HE.out]; rfl, by (repeat (first | exact Below.refl _ _ | refine Below.setCell ?_ (by first | omega | (simp <;> omega)) _ | refine Below.alloc ?_ (by first | omega | (simp <;> omega)) _ | refine Below.drew ?_ | refine Below.trans ?_ (Below.mono (by assumption) (by first | omega | (simp <;> omega))) | refine Below.grown ?_ (by assumption) (by first | omega | (simp <;> omega)) (fun k e => by cases e; first | omega | (simp <;> omega))))⟩
  · have haf : (a == 0) = false := by simp [ha]
    clear h
    go_enter Tryd.func12, Tryd.ntmps12
    go_wp2
    go_ret
    exact ⟨by rw [HE.out]; rfl, by (repeat (first | exact Below.refl _ _ | refine Below.setCell ?_ (by first | omega | (simp <;> omega)) _ | refine Below.alloc ?_ (by first | omega | (simp <;> omega)) _ | refine Below.drew ?_ | refine Below.trans ?_ (Below.mono (by assumption) (by first | omega | (simp <;> omega))) | refine Below.grown ?_ (by assumption) (by first | omega | (simp <;> omega)) (fun k e => by cases e; first | omega | (simp <;> omega))))⟩
set_option maxRecDepth 100000 in
set_option maxHeartbeats 2000000 in
theorem specText_word3 (w : World) : Calls Tryd.prog 12 #[.agg #[.int .i64 3, .int .i64 0, .int .i64 0]] w fun e w' => e = .returned (.string (txt (deedT ⟨3, 0, 0⟩))) ∧ Below w.heap.size w w' := by
  have HE := Lib.hid (show deedT ⟨3, 0, 0⟩ = [100, 111, 119, 110] by decide)
  go_enter Tryd.func12, Tryd.ntmps12
  go_wp2
  go_ret
  exact ⟨by rw [HE.out]; rfl, by (repeat (first | exact Below.refl _ _ | refine Below.setCell ?_ (by first | omega | (simp <;> omega)) _ | refine Below.alloc ?_ (by first | omega | (simp <;> omega)) _ | refine Below.drew ?_ | refine Below.trans ?_ (Below.mono (by assumption) (by first | omega | (simp <;> omega))) | refine Below.grown ?_ (by assumption) (by first | omega | (simp <;> omega)) (fun k e => by cases e; first | omega | (simp <;> omega))))⟩
set_option maxRecDepth 100000 in
set_option maxHeartbeats 2000000 in
theorem specText_named3 (a b : Int) (w : World) (h : ¬ (a = 0 ∧ b = 0)) : Calls Tryd.prog 12 #[.agg #[.int .i64 3, .int .i64 a, .int .i64 b]] w fun e w' => e = .returned (.string (txt (deedT ⟨3, a, b⟩))) ∧ Below w.heap.size w w' := by
  have HE := Lib.hid (deedT_named (k := 3) (by decide) h)
  by_cases ha : a = 0
  · have hb : ¬ b = 0 := fun e => h ⟨ha, e⟩
    subst ha
    have hbf : (b == 0) = false := by simp [hb]
    clear h
    go_enter Tryd.func12, Tryd.ntmps12
    go_wp2
    go_ret
    exact ⟨by rw [HE.out]; rfl, by (repeat (first | exact Below.refl _ _ | refine Below.setCell ?_ (by first | omega | (simp <;> omega)) _ | refine Below.alloc ?_ (by first | omega | (simp <;> omega)) _ | refine Below.drew ?_ | refine Below.trans ?_ (Below.mono (by assumption) (by first | omega | (simp <;> omega))) | refine Below.grown ?_ (by assumption) (by first | omega | (simp <;> omega)) (fun k e => by cases e; first | omega | (simp <;> omega))))⟩
  · have haf : (a == 0) = false := by simp [ha]
    clear h
    go_enter Tryd.func12, Tryd.ntmps12
    go_wp2
    go_ret
    exact ⟨by rw [HE.out]; rfl, by (repeat (first | exact Below.refl _ _ | refine Below.setCell ?_ (by first | omega | (simp <;> omega)) _ | refine Below.alloc ?_ (by first | omega | (simp <;> omega)) _ | refine Below.drew ?_ | refine Below.trans ?_ (Below.mono (by assumption) (by first | omega | (simp <;> omega))) | refine Below.grown ?_ (by assumption) (by first | omega | (simp <;> omega)) (fun k e => by cases e; first | omega | (simp <;> omega))))⟩
set_option maxRecDepth 100000 in
set_option maxHeartbeats 2000000 in
theorem specText_word4 (w : World) : Calls Tryd.prog 12 #[.agg #[.int .i64 4, .int .i64 0, .int .i64 0]] w fun e w' => e = .returned (.string (txt (deedT ⟨4, 0, 0⟩))) ∧ Below w.heap.size w w' := by
  have HE := Lib.hid (show deedT ⟨4, 0, 0⟩ = [98, 97, 99, 107] by decide)
  go_enter Tryd.func12, Tryd.ntmps12
  go_wp2
  go_ret
  exact ⟨by rw [HE.out]; rfl, by (repeat (first | exact Below.refl _ _ | refine Below.setCell ?_ (by first | omega | (simp <;> omega)) _ | refine Below.alloc ?_ (by first | omega | (simp <;> omega)) _ | refine Below.drew ?_ | refine Below.trans ?_ (Below.mono (by assumption) (by first | omega | (simp <;> omega))) | refine Below.grown ?_ (by assumption) (by first | omega | (simp <;> omega)) (fun k e => by cases e; first | omega | (simp <;> omega))))⟩
set_option maxRecDepth 100000 in
set_option maxHeartbeats 2000000 in
theorem specText_named4 (a b : Int) (w : World) (h : ¬ (a = 0 ∧ b = 0)) : Calls Tryd.prog 12 #[.agg #[.int .i64 4, .int .i64 a, .int .i64 b]] w fun e w' => e = .returned (.string (txt (deedT ⟨4, a, b⟩))) ∧ Below w.heap.size w w' := by
  have HE := Lib.hid (deedT_named (k := 4) (by decide) h)
  by_cases ha : a = 0
  · have hb : ¬ b = 0 := fun e => h ⟨ha, e⟩
    subst ha
    have hbf : (b == 0) = false := by simp [hb]
    clear h
    go_enter Tryd.func12, Tryd.ntmps12
    go_wp2
    go_ret
    exact ⟨by rw [HE.out]; rfl, by (repeat (first | exact Below.refl _ _ | refine Below.setCell ?_ (by first | omega | (simp <;> omega)) _ | refine Below.alloc ?_ (by first | omega | (simp <;> omega)) _ | refine Below.drew ?_ | refine Below.trans ?_ (Below.mono (by assumption) (by first | omega | (simp <;> omega))) | refine Below.grown ?_ (by assumption) (by first | omega | (simp <;> omega)) (fun k e => by cases e; first | omega | (simp <;> omega))))⟩
  · have haf : (a == 0) = false := by simp [ha]
    clear h
    go_enter Tryd.func12, Tryd.ntmps12
    go_wp2
    go_ret
    exact ⟨by rw [HE.out]; rfl, by (repeat (first | exact Below.refl _ _ | refine Below.setCell ?_ (by first | omega | (simp <;> omega)) _ | refine Below.alloc ?_ (by first | omega | (simp <;> omega)) _ | refine Below.drew ?_ | refine Below.trans ?_ (Below.mono (by assumption) (by first | omega | (simp <;> omega))) | refine Below.grown ?_ (by assumption) (by first | omega | (simp <;> omega)) (fun k e => by cases e; first | omega | (simp <;> omega))))⟩
set_option maxRecDepth 100000 in
set_option maxHeartbeats 2000000 in
theorem specText_off (k a b : Int) (w : World) (h : k < 0 ∨ 4 < k) : Calls Tryd.prog 12 #[.agg #[.int .i64 k, .int .i64 a, .int .i64 b]] w fun e w' => e = .returned (.string (txt (deedT ⟨k, a, b⟩))) ∧ Below w.heap.size w w' := by
  have HE := Lib.hid (deedT_other (a := a) (b := b) h)
  have k1 : ¬ k = 1 := by omega
  have k2 : ¬ k = 2 := by omega
  have k3 : ¬ k = 3 := by omega
  have k4 : ¬ k = 4 := by omega
  have k0 : ¬ k = 0 := by omega
  have k0f : (k == 0) = false := by simp [k0]
  have k1f : (k == 1) = false := by simp [k1]
  have k2f : (k == 2) = false := by simp [k2]
  have k3f : (k == 3) = false := by simp [k3]
  have k4f : (k == 4) = false := by simp [k4]
  clear h
  go_enter Tryd.func12, Tryd.ntmps12
  go_wp2
  go_ret
  exact ⟨by rw [HE.out]; rfl, by (repeat (first | exact Below.refl _ _ | refine Below.setCell ?_ (by first | omega | (simp <;> omega)) _ | refine Below.alloc ?_ (by first | omega | (simp <;> omega)) _ | refine Below.drew ?_ | refine Below.trans ?_ (Below.mono (by assumption) (by first | omega | (simp <;> omega))) | refine Below.grown ?_ (by assumption) (by first | omega | (simp <;> omega)) (fun k e => by cases e; first | omega | (simp <;> omega))))⟩
/-- The text of a deed, as the model tells it. -/
theorem specText_any (k a b : Int) (w : World) : Calls Tryd.prog 12 #[.agg #[.int .i64 k, .int .i64 a, .int .i64 b]] w fun e w' => e = .returned (.string (txt (deedT ⟨k, a, b⟩))) ∧ Below w.heap.size w w' := by
  rcases (show k = 0 ∨ k = 1 ∨ k = 2 ∨ k = 3 ∨ k = 4 ∨ (k < 0 ∨ 4 < k) by omega) with rfl | rfl | rfl | rfl | rfl | h
  · by_cases ha : -9 ≤ a ∧ a ≤ 9
    · by_cases hb : -9 ≤ b ∧ b ≤ 9
      · exact specText_take a b w ha.1 ha.2 hb.1 hb.2
      · exact specText_notB a b w ha hb
    · exact specText_notA a b w ha
  · by_cases h : a = 0 ∧ b = 0
    · obtain ⟨rfl, rfl⟩ := h; exact specText_word1 w
    · exact specText_named1 a b w h
  · by_cases h : a = 0 ∧ b = 0
    · obtain ⟨rfl, rfl⟩ := h; exact specText_word2 w
    · exact specText_named2 a b w h
  · by_cases h : a = 0 ∧ b = 0
    · obtain ⟨rfl, rfl⟩ := h; exact specText_word3 w
    · exact specText_named3 a b w h
  · by_cases h : a = 0 ∧ b = 0
    · obtain ⟨rfl, rfl⟩ := h; exact specText_word4 w
    · exact specText_named4 a b w h
  · exact specText_off k a b w h
end Go.Proofs.YtigcomhhgfgmgaaDoor
namespace Go.Proofs.YtigcomhhgfgmgaaDoor
open Go.RowKit
/-- v is a slice of the pairs of L; they lie in one block from B on, below C, and may be written. -/
def IsPairs (B C : Nat) (w : World) (v : Value) (L : List (Int × Int)) : Prop :=
  ∃ (a : Option Addr) (cap : Nat), v = .slice a L.length cap ∧ C ≤ w.heap.size ∧
    (L = [] ∨ ∃ g off, a = some ⟨g, off, none⟩ ∧ B ≤ g ∧ (g < C ∧ L.length ≤ cap) ∧
      (∀ (i : Nat) (p : Int × Int), L[i]? = some p → w.cell? ⟨g, off + i * 2, none⟩ = some (.int .i64 p.1) ∧ w.cell? ⟨g, off + i * 2 + 1, none⟩ = some (.int .i64 p.2)) ∧ (∀ i, i < 2 * L.length → w.frozen? ⟨g, off + i, none⟩ = false))
theorem IsPairs.below {B C D : Nat} {w w' : World} {v : Value} {L : List (Int × Int)} (h : IsPairs B C w v L) (hb : Below D w w') (hD : C ≤ D) : IsPairs B C w' v L := by
  obtain ⟨a, cap, rfl, hC, hs⟩ := h
  refine ⟨a, cap, rfl, Nat.le_trans hC hb.size, ?_⟩
  rcases hs with hs | ⟨g, off, ha, h1, h2, hc, hf⟩
  · exact .inl hs
  · exact .inr ⟨g, off, ha, h1, h2, fun i p hi => ⟨(hb.cell (p := ⟨g, off + i * 2, none⟩) (by show g < D; omega)).trans (hc i p hi).1, (hb.cell (p := ⟨g, off + i * 2 + 1, none⟩) (by show g < D; omega)).trans (hc i p hi).2⟩, fun i hi => (hb.frozen (p := ⟨g, off + i, none⟩) (by show g < D; omega)).trans (hf i hi)⟩
theorem IsPairs.mono {B B' C C' : Nat} {w : World} {v : Value} {L : List (Int × Int)} (h : IsPairs B C w v L) (h1 : B' ≤ B) (h2 : C ≤ C') (h3 : C' ≤ w.heap.size) : IsPairs B' C' w v L := by
  obtain ⟨a, cap, rfl, hC, hs⟩ := h
  refine ⟨a, cap, rfl, h3, ?_⟩
  rcases hs with hs | ⟨g, off, ha, k1, k2, hc, hf⟩
  · exact .inl hs
  · exact .inr ⟨g, off, ha, by omega, by omega, hc, hf⟩
theorem IsPairs.empty (B : Nat) (w : World) (a : Option Addr) (c : Nat) : IsPairs B w.heap.size w (.slice a 0 c) [] := ⟨a, c, rfl, Nat.le_refl _, .inl rfl⟩
theorem IsPairs.marked {B C B0 C0 : Nat} {w w' : World} {v : Value} {L : List (Int × Int)} (h : IsPairs B0 C0 w v L) (hm : Marked B C w w') (hd : C0 ≤ B) : IsPairs B0 C0 w' v L := by
  obtain ⟨a, cap, rfl, hC, hs⟩ := h
  obtain ⟨hz, row, hg, hr⟩ := hm
  refine ⟨a, cap, rfl, by omega, ?_⟩
  rcases hs with hs | ⟨g, off, ha, h1, h2, hc, hf⟩
  · exact .inl hs
  · have hne : some g ≠ row := fun e => by have := hr g e.symm; omega
    exact .inr ⟨g, off, ha, h1, h2, fun i p hi => ⟨(hg.cell_far ⟨g, off + i * 2, none⟩ (by show g < w.heap.size; omega) hne).trans (hc i p hi).1, (hg.cell_far ⟨g, off + i * 2 + 1, none⟩ (by show g < w.heap.size; omega) hne).trans (hc i p hi).2⟩, fun i hi => (hg.frozen_far ⟨g, off + i, none⟩ (by show g < w.heap.size; omega) hne).trans (hf i hi)⟩
/-- Without its first k pairs. -/
theorem IsPairs.drop {B C : Nat} {w : World} {a : Addr} {n cap : Nat} {L : List (Int × Int)} (h : IsPairs B C w (.slice (some a) n cap) L) (k c : Nat) (hk : k < n) (hkc : n - k ≤ c) : IsPairs B C w (.slice (some ⟨a.block, a.off + k * 2, none⟩) (n - k) c) (L.drop k) := by
  obtain ⟨a', cap', e, hC, hs⟩ := h
  obtain ⟨rfl, rfl, rfl⟩ : some a = a' ∧ n = L.length ∧ cap = cap' := by simpa using e
  refine ⟨_, c, by rw [List.length_drop], hC, ?_⟩
  rcases hs with hs | ⟨g, off, ha, h1, h2, hc, hf⟩
  · subst hs; simp at hk
  · cases ha
    refine .inr ⟨g, off + k * 2, rfl, h1, ⟨h2.1, by rw [List.length_drop]; exact hkc⟩, fun i p hi => ?_, fun i hi => ?_⟩
    · rw [List.getElem?_drop] at hi
      have := hc _ _ hi
      rw [show off + k * 2 + i * 2 = off + (k + i) * 2 by omega]
      exact this
    · rw [List.length_drop] at hi
      rw [show off + k * 2 + i = off + (k * 2 + i) by omega]
      exact hf _ (by omega)
/-- The first k pairs. -/
theorem IsPairs.take {B C : Nat} {w : World} {a : Option Addr} {n cap : Nat} {L : List (Int × Int)} (h : IsPairs B C w (.slice a n cap) L) (k c : Nat) (hk : k ≤ n) (hkc : k ≤ c) : IsPairs B C w (.slice a k c) (L.take k) := by
  obtain ⟨a', cap', e, hC, hs⟩ := h
  obtain ⟨rfl, rfl, rfl⟩ : a = a' ∧ n = L.length ∧ cap = cap' := by simpa using e
  refine ⟨a, c, by rw [List.length_take, Nat.min_eq_left hk], hC, ?_⟩
  rcases hs with hs | ⟨g, off, ha, h1, h2, hc, hf⟩
  · subst hs; exact .inl (by simp)
  · refine .inr ⟨g, off, ha, h1, ⟨h2.1, by rw [List.length_take]; omega⟩, fun i p hi => hc i p ?_, fun i hi => hf i (by rw [List.length_take] at hi; omega)⟩
    rw [List.getElem?_take] at hi
    split at hi
    · exact hi
    · cases hi
/-- The cells of pairs. -/
def pairCells (L : List (Int × Int)) : List Value := L.flatMap fun p => [.int .i64 p.1, .int .i64 p.2]
theorem pairCells_len (L : List (Int × Int)) : (pairCells L).length = L.length * 2 := by
  induction L with
  | nil => rfl
  | cons p L ih => simp only [pairCells, List.flatMap_cons, List.length_append, List.length_cons, List.length_nil] at ih ⊢; rw [ih]; omega
theorem pairCells_snoc (L : List (Int × Int)) (p : Int × Int) : pairCells L ++ [.int .i64 p.1, .int .i64 p.2] = pairCells (L ++ [p]) := by simp [pairCells]
theorem pairCells_append (L M : List (Int × Int)) : pairCells L ++ pairCells M = pairCells (L ++ M) := by simp [pairCells]
theorem pairCells_get : ∀ (L : List (Int × Int)) (i : Nat) (p : Int × Int), L[i]? = some p → (pairCells L)[i * 2]? = some (.int .i64 p.1) ∧ (pairCells L)[i * 2 + 1]? = some (.int .i64 p.2)
  | [], i, p, h => by simp at h
  | q :: L, 0, p, h => by simp at h; subst h; exact ⟨rfl, rfl⟩
  | q :: L, i + 1, p, h => by
    have := pairCells_get L i p (by simpa using h)
    rw [show (i + 1) * 2 = i * 2 + 1 + 1 by omega]
    exact this
/-- A row of one's own, as append leaves it. -/
theorem IsPairs.of_owns {B : Nat} {w : World} {e : TypeId} {v : Value} {L : List (Int × Int)} {n : Nat} (h : w.ownsRow B e 2 v n (pairCells L)) : IsPairs B w.heap.size w v L := by
  have hc := fun g (hg : v.ownBlock = some g) => h.cells hg
  obtain ⟨hl, h⟩ := h
  rw [pairCells_len] at hl
  have hn : L.length = n := by omega
  rcases h with ⟨rfl, rfl⟩ | ⟨g, cap, cur, rfl, hb, hg, hnc, hm, hcs, htk⟩
  · obtain rfl : L = [] := List.length_eq_zero_iff.1 hn
    exact IsPairs.empty B w none 0
  · have hlt : g < w.heap.size := (Array.getElem?_eq_some_iff.1 hg).1
    have hcell : ∀ (k : Nat) (x : Value), (pairCells L)[k]? = some x → w.cell? ⟨g, 0 + k, none⟩ = some x := fun k x hk => by
      have := hc g rfl k x hk
      rw [Nat.zero_add]
      by_cases h0 : k = 0
      · subst h0; simpa [Addr.add] using this
      · simpa [Addr.add, h0] using this
    refine ⟨_, cap, by rw [hn], Nat.le_refl _, .inr ⟨g, 0, rfl, hb, ⟨hlt, by omega⟩, fun i p hi => ?_, fun i hi => ?_⟩⟩
    · obtain ⟨k1, k2⟩ := pairCells_get L i p hi
      exact ⟨hcell _ _ k1, hcell _ _ k2⟩
    · simp [World.frozen?, hg]
end Go.Proofs.YtigcomhhgfgmgaaDoor
namespace Go.Proofs.YtigcomhhgfgmgaaDoor
open Go.RowKit
theorem own_keeps {w w' : World} {base : Nat} {e : TypeId} {size : Nat} {v : Value} {n : Nat} {xs : List Value} (h : w.ownsRow base e size v n xs) (hb : Below w.heap.size w w') : w'.ownsRow base e size v n xs :=
  h.kept (row := none) ⟨hb.os, hb.tape, hb.output, hb.size, fun j hj _ => hb.block j hj⟩ (by cases v.ownBlock <;> simp)
theorem own_le {w : World} {base base' : Nat} {e : TypeId} {size : Nat} {v : Value} {n : Nat} {xs : List Value} (h : w.ownsRow base e size v n xs) (hb : base' ≤ base) : w.ownsRow base' e size v n xs := by
  refine ⟨h.1, ?_⟩
  rcases h.2 with h2 | ⟨g, cap, cur, hv, hg, r⟩
  · exact .inl h2
  · exact .inr ⟨g, cap, cur, hv, Nat.le_trans hb hg, r⟩
theorem cell_belowP {W W' : World} {a : Addr} {v : Value} (hb : Below W.heap.size W W') (h : W.cell? a = some v) : W'.cell? a = some v := (hb.cell (p := a) (World.block_lt_of_cell? W a h)).trans h
theorem add_row (b o j : Nat) : (⟨b, o, none⟩ : Addr).add j = ⟨b, o + j, none⟩ := by unfold Addr.add; split <;> simp_all
theorem pairCells_at : ∀ (L : List (Int × Int)) (j : Nat) (u : Value), (pairCells L)[j]? = some u → ∃ i p, L[i]? = some p ∧ ((j = i * 2 ∧ u = .int .i64 p.1) ∨ (j = i * 2 + 1 ∧ u = .int .i64 p.2))
  | [], j, u, h => by simp [pairCells] at h
  | q :: L, 0, u, h => by
    have h' : (Value.int .i64 q.1) = u := by simpa [pairCells] using h
    exact ⟨0, q, rfl, .inl ⟨rfl, h'.symm⟩⟩
  | q :: L, 1, u, h => by
    have h' : (Value.int .i64 q.2) = u := by simpa [pairCells] using h
    exact ⟨0, q, rfl, .inr ⟨rfl, h'.symm⟩⟩
  | q :: L, j + 2, u, h => by
    have h' : (pairCells L)[j]? = some u := by simpa [pairCells] using h
    obtain ⟨i, p, hp, hj⟩ := pairCells_at L j u h'
    refine ⟨i + 1, p, by simpa using hp, ?_⟩
    rcases hj with ⟨h1, h2⟩ | ⟨h1, h2⟩
    · exact .inl ⟨by omega, h2⟩
    · exact .inr ⟨by omega, h2⟩
theorem pairCells_one (L : List (Int × Int)) : ∀ u ∈ pairCells L, u.oneCell' = true := by
  intro u hu
  obtain ⟨j, hj⟩ := List.getElem?_of_mem hu
  obtain ⟨i, p, _, h | h⟩ := pairCells_at L j u hj
  · rw [h.2]; rfl
  · rw [h.2]; rfl
/-- A row of one's own is a slice. -/
theorem own_shape {w : World} {base size n : Nat} {e : TypeId} {v : Value} {xs : List Value} (h : w.ownsRow base e size v n xs) : ∃ a c, v = .slice a n c := by
  rcases h.2 with ⟨rfl, rfl⟩ | ⟨g, cap, cur, rfl, _⟩
  · exact ⟨none, 0, rfl⟩
  · exact ⟨some ⟨g, 0, none⟩, cap, rfl⟩
/-- Pairs stay where no block of theirs is written. -/
theorem IsPairs.far {B C : Nat} {w w' : World} {v : Value} {L : List (Int × Int)} (h : IsPairs B C w v L) (hz : w.heap.size ≤ w'.heap.size) (hb : ∀ g, B ≤ g → g < C → w'.heap[g]? = w.heap[g]?) : IsPairs B C w' v L := by
  obtain ⟨a, cap, rfl, hC, hs⟩ := h
  refine ⟨a, cap, rfl, Nat.le_trans hC hz, ?_⟩
  rcases hs with hs | ⟨g, off, ha, h1, h2, hc, hf⟩
  · exact .inl hs
  · exact .inr ⟨g, off, ha, h1, h2, fun i p hi => ⟨(World.cell?_of_block (a := ⟨g, off + i * 2, none⟩) (hb g h1 h2.1)).trans (hc i p hi).1, (World.cell?_of_block (a := ⟨g, off + i * 2 + 1, none⟩) (hb g h1 h2.1)).trans (hc i p hi).2⟩, fun i hi => (World.frozen?_of_block (a := ⟨g, off + i, none⟩) (hb g h1 h2.1)).trans (hf i hi)⟩
theorem IsPairs.set {B C : Nat} {w : World} {v : Value} {L : List (Int × Int)} (h : IsPairs B C w v L) {p : Addr} (hp : p.block < B) (x : Value) : IsPairs B C (w.setCell p x) v L :=
  h.far (by simp [World.setCell]) fun g h1 _ => Below.heap_setCell _ _ _ _ (by omega)
theorem IsPairs.set2 {B C : Nat} {w : World} {v : Value} {L : List (Int × Int)} (h : IsPairs B C w v L) {p : Addr} (hp : p.block < B ∨ C ≤ p.block) (x : Value) : IsPairs B C (w.setCell p x) v L :=
  h.far (by simp [World.setCell]) fun g h1 h2 => Below.heap_setCell _ _ _ _ (by omega)
theorem IsPairs.drew {B C : Nat} {w : World} {v : Value} {L : List (Int × Int)} (h : IsPairs B C w v L) : IsPairs B C w.drew v L := h
theorem IsPairs.allocd {B C : Nat} {w : World} {v : Value} {L : List (Int × Int)} (h : IsPairs B C w v L) (o : Obj) : IsPairs B C (w.alloc o) v L := by
  obtain ⟨a, cap, hv, hC, hs⟩ := id h
  exact h.below ((Below.refl _ _).alloc (Nat.le_refl _) _) hC
/-- One pair in a block of its own. -/
theorem IsPairs.lit {w : World} {g : Nat} {p q : Int} {t : TypeId} (h : w.heap[g]? = some (.cells #[.int .i64 p, .int .i64 q] t (0, 0))) : IsPairs g w.heap.size w (.slice (some ⟨g, 0, none⟩) 1 1) [(p, q)] := by
  have hlt : g < w.heap.size := (Array.getElem?_eq_some_iff.1 h).1
  refine ⟨_, 1, rfl, Nat.le_refl _, .inr ⟨g, 0, rfl, Nat.le_refl _, ⟨hlt, by simp⟩, fun i x hi => ?_, fun i hi => ?_⟩⟩
  · cases i with
    | zero =>
      have e : x = (p, q) := by simpa using hi.symm
      subst e
      exact ⟨by simp [World.cell?, h], by simp [World.cell?, h]⟩
    | succ i => simp at hi
  · simp [World.frozen?, h]
theorem IsPairs.new (W : World) (p q : Int) (t : TypeId) (g : Nat) (hg : W.heap.size = g) : IsPairs g (g + 1) (W.alloc (.cells #[.int .i64 p, .int .i64 q] t)) (.slice (some ⟨g, 0, none⟩) 1 1) [(p, q)] := by
  subst hg
  have h := IsPairs.lit (w := W.alloc (.cells #[.int .i64 p, .int .i64 q] t)) (g := W.heap.size) (p := p) (q := q) (t := t) (heap_alloc_new _ _)
  rwa [World.size_alloc] at h
section
variable {P : Program} (w : World)
theorem run_append_pairs (base : Nat) (t ty e : TypeId) (i : TypeInfo) (z : Value) (bytes : Nat) (ht : P.underlying t = some (.slice e)) (hi : P.info? e = some i) (hz : i.zero = some z)
    (hsize : i.size = 2) (hby : i.bytes = bytes) (hzs : z.cells.size = 2) (v : Value) (n : Nat) (xs : List Value) (hown : w.ownsRow base e 2 v n xs)
    (B C : Nat) (x : Value) (L : List (Int × Int)) (hx : IsPairs B C w x L) (h63 : n + L.length ≤ maxLen) (hbytes : (n + L.length) * bytes ≤ 140737488355328) (hbase : base ≤ w.heap.size) :
    ∃ a c w', (Builtin.append_ #[t, t] ty #[v, x]).run P w = .ok (.slice a (n + L.length) c) w' ∧ w'.ownsRow base e 2 (.slice a (n + L.length) c) (n + L.length) (xs ++ pairCells L) ∧ w.grownBy w' v.ownBlock ∧
      ((Value.slice a (n + L.length) c).ownBlock = v.ownBlock ∨ (Value.slice a (n + L.length) c).ownBlock = some w.heap.size) := by
  obtain ⟨a, cap, rfl, hC, hs⟩ := hx
  cases a with
  | none =>
    obtain rfl : L = [] := by
      rcases hs with hs | ⟨g, off, ha, _⟩
      · exact hs
      · cases ha
    obtain ⟨a0, c0, rfl⟩ := own_shape hown
    refine ⟨a0, c0, w, ?_, by simpa [pairCells] using hown, ⟨rfl, rfl, rfl, Nat.le_refl _, fun _ _ _ => rfl⟩, .inl rfl⟩
    rcases hown.2 with ⟨hv, rfl⟩ | ⟨g, cap, cur, hv, _, _, hnc, _⟩
    · cases hv
      simp [Builtin.append_, run_underlying ht, sizeOf, typeInfo, hi, Builtin.lenOf, Builtin.firstCells]
    · cases hv
      simp [Builtin.append_, run_underlying ht, sizeOf, typeInfo, hi, Builtin.lenOf, Builtin.firstCells, hnc, storeCells]
  | some ad =>
    obtain ⟨v', w', h1, h2, h3, _, h5⟩ := run_append_own_at (P := P) w base t ty e i z 2 bytes ht hi hz hsize hby hzs (by omega) v n xs hown ad L.length cap (pairCells L) (pairCells_len L)
      (fun j u hu => by
        rcases hs with rfl | ⟨g, off, ha, _, _, hc, _⟩
        · simp [pairCells] at hu
        · cases ha
          rw [add_row]
          obtain ⟨k, p, hp, h | h⟩ := pairCells_at L j u hu
          · rw [h.1, h.2]; exact (hc k p hp).1
          · rw [h.1, h.2]; exact (hc k p hp).2) (pairCells_one L) h63 hbytes hbase
    obtain ⟨a0, c0, rfl⟩ := own_shape h2
    exact ⟨a0, c0, w', h1, h2, h3, h5⟩
/-- At the list of a plain region's operations. -/
theorem wpList_append_pairs {ops : Array Oper} {rest : List Oper} {o : Oper} {a : Act} {Q : Exit → Act → World → Prop} (hgd : o.guard = none) (s x : Operand) (t : TypeId)
    (ho : o.op = .call { callee := .builtin .append, args := #[s, x], argTypes := #[t, t] })
    (base : Nat) (e : TypeId) (i : TypeInfo) (z : Value) (bytes : Nat) (ht : P.underlying t = some (.slice e)) (hi : P.info? e = some i) (hz : i.zero = some z)
    (hsize : i.size = 2) (hby : i.bytes = bytes) (hzs : z.cells.size = 2) (v : Value) (n : Nat) (xs : List Value) (hs : a.eval s = v) (hown : w.ownsRow base e 2 v n xs)
    (B C : Nat) (y : Value) (L : List (Int × Int)) (hx : a.eval x = y) (hy : IsPairs B C w y L) (N : Nat) (hN : n + L.length = N) (X : List Value) (hX : xs ++ pairCells L = X) (h63 : N ≤ maxLen) (hbytes : N * bytes ≤ 140737488355328) (hbase : base ≤ w.heap.size)
    (h : ∀ a' c' w', w'.ownsRow base e 2 (.slice a' N c') N X → w.grownBy w' v.ownBlock → ((Value.slice a' N c').ownBlock = v.ownBlock ∨ (Value.slice a' N c').ownBlock = some w.heap.size) → wpList P ops Q rest (a.put o.dst (.slice a' N c')) w') : wpList P ops Q (o :: rest) a w := by
  subst hN hX
  refine wpList_plain hgd fun K hK => ?_
  obtain ⟨a', c', w', hr, h2, h3, h4⟩ := run_append_pairs (P := P) w base t o.type e i z bytes ht hi hz hsize hby hzs v n xs hown B C y L hy h63 hbytes hbase
  unfold Oper.wp execOp
  simp only [ho, resolve, invoke, builtin, Sem.run_bind, Sem.run_pure, Result.andThen_ok, List.map_toArray, List.map_cons, List.map_nil, hs, hx, hr]
  exact hK _ _ (h a' c' w' h2 h3 h4)
/-- At a step of a region that draws its order. -/
theorem step_append_pairs {ops : Array Oper} {o : Oper} {a : Act} {K : Act → World → Prop} {Q : Exit → Act → World → Prop} {E : Prop} (hgd : o.guard = none) (s x : Operand) (t : TypeId)
    (ho : o.op = .call { callee := .builtin .append, args := #[s, x], argTypes := #[t, t] })
    (base : Nat) (e : TypeId) (i : TypeInfo) (z : Value) (bytes : Nat) (ht : P.underlying t = some (.slice e)) (hi : P.info? e = some i) (hz : i.zero = some z)
    (hsize : i.size = 2) (hby : i.bytes = bytes) (hzs : z.cells.size = 2) (v : Value) (n : Nat) (xs : List Value) (hs : a.eval s = v) (hown : w.ownsRow base e 2 v n xs)
    (B C : Nat) (y : Value) (L : List (Int × Int)) (hx : a.eval x = y) (hy : IsPairs B C w y L) (N : Nat) (hN : n + L.length = N) (X : List Value) (hX : xs ++ pairCells L = X) (h63 : N ≤ maxLen) (hbytes : N * bytes ≤ 140737488355328) (hbase : base ≤ w.heap.size)
    (h : ∀ a' c' w', w'.ownsRow base e 2 (.slice a' N c') N X → w.grownBy w' v.ownBlock → ((Value.slice a' N c').ownBlock = v.ownBlock ∨ (Value.slice a' N c').ownBlock = some w.heap.size) → K (a.put o.dst (.slice a' N c')) w') :
    if Region.wanted o (yielded ops a.tmps) = true then Oper.wp P o a w K Q else E := by
  have hw : Region.wanted o (yielded ops a.tmps) = true := by simp [Region.wanted, hgd]
  rw [if_pos hw]
  subst hN hX
  obtain ⟨a', c', w', hr, h2, h3, h4⟩ := run_append_pairs (P := P) w base t o.type e i z bytes ht hi hz hsize hby hzs v n xs hown B C y L hy h63 hbytes hbase
  unfold Oper.wp execOp
  simp only [ho, resolve, invoke, builtin, Sem.run_bind, Sem.run_pure, Result.andThen_ok, List.map_toArray, List.map_cons, List.map_nil, hs, hx, hr]
  exact h a' c' w' h2 h3 h4
end
end Go.Proofs.YtigcomhhgfgmgaaDoor
namespace Go.Proofs.YtigcomhhgfgmgaaDoor
open Go.RowKit
theorem extract_txt (s : ByteArray) (a b : Nat) : s.extract a b = txt ((s.data.toList.drop a).take (b - a)) := by
  refine txt_eq ?_
  rw [Lib.extract_eq]
  rfl
/-- Texts in a row. -/
def txtC (W : List (List UInt8)) : List Value := W.map fun l => .string (txt l)
theorem txtC_snoc (W : List (List UInt8)) (l : List UInt8) : txtC W ++ [.string (txt l)] = txtC (W ++ [l]) := by simp [txtC]
theorem txtC_get {W : List (List UInt8)} {i : Nat} (h : i < W.length) : (txtC W)[i]? = some (.string (txt (W.getD i []))) := by simp [txtC, h]
theorem word_sep {w cs : List UInt8} {c : UInt8} (h : c = 32) : wordsN w (c :: cs) = w :: wordsN [] cs := by rw [wordsN, if_pos h]
theorem word_on {w cs : List UInt8} {c : UInt8} (h : ¬ c = 32) : wordsN w (c :: cs) = wordsN (w ++ [c]) cs := by rw [wordsN, if_neg h]
theorem take_more {l : List UInt8} {fr i : Nat} (hf : fr ≤ i) (hi : i < l.length) : (l.drop fr).take (i + 1 - fr) = (l.drop fr).take (i - fr) ++ [l[i]] := by
  rw [show i + 1 - fr = (i - fr) + 1 by omega, List.take_succ_eq_append_getElem (by rw [List.length_drop]; omega), List.getElem_drop]
  congr 3
  omega
theorem words_len (s : List UInt8) : ∀ w, (wordsN w s).length ≤ s.length + 1 := by
  induction s with
  | nil => intro w; simp [wordsN]
  | cons c cs ih =>
    intro w
    unfold wordsN
    split
    · have := ih []; simp only [List.length_cons]; omega
    · have := ih (w ++ [c]); simp only [List.length_cons]; omega
theorem info_txt : (Tryd.prog.info? 9).map (fun i => (i.zero, i.size, i.bytes)) = some (some (.string ⟨#[]⟩), 1, 16) := by kernel_rfl
set_option maxRecDepth 100000 in
set_option maxHeartbeats 4000000 in
theorem cut_any (s : ByteArray) (w : World) (hs : s.size ≤ 2097152) : Calls Tryd.prog 44 #[.string s, .int .u8 32] w fun e w' => ∃ g c, e = .returned (.slice (some ⟨g, 0, none⟩) (wordsN [] s.data.toList).length c) ∧ (w.heap.size ≤ g ∧ g < w'.heap.size) ∧ (∀ i, i < (wordsN [] s.data.toList).length → w'.cell? ⟨g, i, none⟩ = some (.string (txt ((wordsN [] s.data.toList).getD i [])))) ∧ Below w.heap.size w w' := by
  obtain ⟨i0, hi0, hz0, hzs1, hz2⟩ := info_parts info_txt
  have hsl : s.data.toList.length = s.size := bl_size s
  have HSL := Lib.hid hsl
  obtain ⟨l, hl⟩ : ∃ l, s.data.toList = l := ⟨_, rfl⟩
  have HL := Lib.hid hl
  rw [hl] at hsl ⊢
  clear hl
  have HM := Lib.hid (show (w.alloc (.cells #[] 9)).ownsRow w.heap.size 9 1 (.slice (some ⟨w.heap.size, 0, none⟩) 0 0) 0 [] from World.ownsRow_made w #[] 0 (Nat.le_refl _) (by unfold maxLen; omega) rfl)
  go_enter Tryd.func44, Tryd.ntmps44
  go_wp2_with fail
  go_loopw [5, 6, 7] (fun x5 x6 x7 wr => ∃ (i fr : Nat) (W : List (List UInt8)) (a : Option Addr) (c : Nat), x5 = .slice a W.length c ∧ x6 = .int .i64 fr ∧ x7 = .int .i64 i ∧ fr ≤ i ∧ i ≤ s.size ∧ W.length ≤ i ∧ wordsN [] l = W ++ wordsN ((l.drop fr).take (i - fr)) (l.drop i) ∧ wr.ownsRow w.heap.size 9 1 (.slice a W.length c) W.length (txtC W) ∧ w.heap.size < wr.heap.size ∧ Below w.heap.size w wr) (fun _ _ x7 _ => 2097200 - (intOf x7).toNat)
  case atStart => exact ⟨0, 0, [], _, _, rfl, rfl, rfl, by omega, by omega, by simp, by simp, HM.out, by simp, (Below.refl _ _).alloc (Nat.le_refl _) _⟩
  case round =>
    obtain ⟨i, fr, W, a, c, rfl, rfl, rfl, hfr, hi, hWi, hw, hO, hz, hB⟩ := hrel
    have hfi : (fr : Int) ≤ (i : Int) := by omega
    have hi0' : (0 : Int) ≤ (i : Int) := by omega
    have hf0 : (0 : Int) ≤ (fr : Int) := by omega
    have hfs : fr ≤ s.size := by omega
    have hfs' : (fr : Int) ≤ (s.size : Int) := by omega
    have hO' := Lib.hid hO
    have hlk := hO.lt
    by_cases hlt : i < s.size
    · have hki : (i : Int) < (s.size : Int) := by omega
      have his : (i : Int) ≤ (s.size : Int) := by omega
      have hil : i < l.length := by omega
      have hxi : s[i]'hlt = l[i] := by
        have h1 : s.data.toList[i]? = l[i]? := by rw [HL.out]
        have h2 : i < s.data.toList.length := by rw [HSL.out]; exact hlt
        rw [List.getElem?_eq_getElem h2, List.getElem?_eq_getElem hil] at h1
        exact (Array.getElem_toList ..).symm.trans (Option.some.inj h1)
      have hdr : l.drop i = l[i] :: l.drop (i + 1) := List.drop_eq_getElem_cons hil
      have Wi : IntKind.i64.wrap ((i : Int) + 1) = (i : Int) + 1 := by rw [IntKind.wrap_i64]; omega
      have hx8 := (s[i]'hlt).toNat_lt
      by_cases h32 : l[i] = 32
      · have hbt : ((s[i]'hlt).toNat : Int) = 32 := by rw [hxi, h32]; rfl
        have HW := Lib.hid (show wordsN [] l = (W ++ [(l.drop fr).take (i - fr)]) ++ wordsN ((l.drop (i + 1)).take (i + 1 - (i + 1))) (l.drop (i + 1)) by
          rw [hw, hdr, word_sep h32]; simp)
        have hex : s.extract fr i = txt ((l.drop fr).take (i - fr)) := by rw [extract_txt, HL.out]
        clear hw hdr hxi hO HM
        go_wp2_with (at_builtin; refine wpList_append_own _ rfl _ _ 51 rfl w.heap.size 9 i0 (.string ⟨#[]⟩) 1 16 Tryd.underlying51 hi0 hz0 hzs1 hz2 rfl (by decide) _ _ _ rfl (hO'.out.alloc _) ⟨wr.heap.size, 0, none⟩ 1 1 [.string (txt ((l.drop fr).take (i - fr)))] rfl rfl (by exact World.news_of_block (cs := #[.string (txt ((l.drop fr).take (i - fr)))]) (t := 9) (fr := (0, 0)) (heap_alloc_new wr _)) (by simp [Value.oneCell']) (by unfold maxLen; omega) (by omega) (by simp; omega) ?_)
        intro v' w2 hown2 hgrow2 _
        rw [txtC_snoc] at hown2
        have hB2 : Below w.heap.size w w2 := (hB.alloc (by omega) _).grown hgrow2 (by simp; omega) (fun k e => by have := hlk _ e; omega)
        have hz2' := hgrow2.size
        simp at hz2'
        obtain ⟨a2, c2, rfl⟩ := own_shape hown2
        have HO2 := Lib.hid hown2
        clear hown2 hgrow2 hlk
        go_wp2
        go_roundw
        case rel => exact ⟨i + 1, i + 1, W ++ [(l.drop fr).take (i - fr)], a2, c2, by simp, congrArg (Value.int .i64) (by omega), congrArg (Value.int .i64) (by omega), by omega, by omega, by simp; omega, HW.out, by simpa using HO2.out, by omega, hB2⟩
        case measure => simp [intOf]; omega
      · have hbt : ¬ ((s[i]'hlt).toNat : Int) = 32 := by
          rw [hxi]
          intro e
          have e' : l[i].toNat = 32 := by omega
          exact h32 (by rw [← UInt8.toNat_inj]; exact e')
        have HW := Lib.hid (show wordsN [] l = W ++ wordsN ((l.drop fr).take (i + 1 - fr)) (l.drop (i + 1)) by
          rw [hw, hdr, word_on h32, take_more hfr hil])
        clear hw hdr hxi hO HM
        go_wp2
        go_roundw
        case rel => exact ⟨i + 1, fr, W, a, c, rfl, rfl, congrArg (Value.int .i64) (by omega), by omega, by omega, by omega, HW.out, hO'.out, hz, hB⟩
        case measure => simp [intOf]; omega
    · obtain rfl : i = s.size := by omega
      have HW := Lib.hid (show wordsN [] l = W ++ [l.drop fr] by
        rw [hw, List.drop_eq_nil_of_le (by omega : l.length ≤ s.size), List.take_of_length_le (by rw [List.length_drop]; omega)]; rfl)
      have hex : s.extract fr s.size = txt (l.drop fr) := by
        rw [extract_txt, HL.out, List.take_of_length_le (by rw [List.length_drop]; omega)]
      clear hw hO HM
      go_wp2_with (at_builtin; refine wpList_append_own _ rfl _ _ 51 rfl w.heap.size 9 i0 (.string ⟨#[]⟩) 1 16 Tryd.underlying51 hi0 hz0 hzs1 hz2 rfl (by decide) _ _ _ rfl (hO'.out.alloc _) ⟨wr.heap.size, 0, none⟩ 1 1 [.string (txt (l.drop fr))] rfl rfl (by exact World.news_of_block (cs := #[.string (txt (l.drop fr))]) (t := 9) (fr := (0, 0)) (heap_alloc_new wr _)) (by simp [Value.oneCell']) (by unfold maxLen; omega) (by omega) (by simp; omega) ?_)
      intro v' w2 hown2 hgrow2 _
      rw [txtC_snoc, ← HW.out] at hown2
      have hB2 : Below w.heap.size w w2 := (hB.alloc (by omega) _).grown hgrow2 (by simp; omega) (fun k e => by have := hlk _ e; omega)
      have hln : (wordsN [] l).length = W.length + 1 := by rw [HW.out]; simp
      obtain ⟨a2, c2, rfl⟩ := own_shape hown2
      obtain ⟨g, hg⟩ : ∃ g, a2 = some ⟨g, 0, none⟩ := by
        obtain ⟨g, cap', hv, _⟩ := hown2.form (by omega)
        injection hv with h1
        exact ⟨g, h1⟩
      subst hg
      have hg2 := hown2.lt g rfl
      have hcl := hown2.cells (g := g) rfl
      have HC := Lib.hid hcl
      have HB2 := Lib.hid hB2
      have HLN := Lib.hid hln
      clear hown2 hgrow2 hlk hcl hB2 hln hB
      go_wp2
      go_ret
      refine ⟨g, c2, by rw [HLN.out]; rfl, ⟨hg2.1, hg2.2⟩, fun j hj => ?_, HB2.out⟩
      have := HC.out j _ (txtC_get hj)
      rwa [add_row, Nat.zero_add] at this
end Go.Proofs.YtigcomhhgfgmgaaDoor
namespace Go.Proofs.YtigcomhhgfgmgaaDoor
open Go.RowKit
theorem digZ_bd : ∀ (l : List UInt8), -1000000000 < (digZ l).1 ∧ (digZ l).1 < 1000000000
  | [] => by simp [digZ]
  | c :: t => by
    unfold digZ
    split
    · have := digZ_bd t; constructor <;> (show _ < _; simp only; omega)
    · split
      · rename_i n hn
        have := digitsN_lt hn
        constructor <;> (simp only; omega)
      · simp
theorem digZ_minus {c : UInt8} {t : List UInt8} (hc : c = 45) (ht : t ≠ []) : digZ (c :: t) = (-(digZ t).1, (digZ t).2 && decide (0 < (digZ t).1)) := by
  rw [digZ, if_pos ⟨hc, ht⟩]
theorem digZ_yes {l : List UInt8} {n : Nat} (h : digitsN l = some n) (hm : ¬ (1 < l.length ∧ l.head? = some 45)) : digZ l = ((n : Int), true) := by
  cases l with
  | nil => simp [digitsN] at h
  | cons c t =>
    rw [digZ, if_neg (fun e => hm ⟨by have := List.length_pos_iff.2 e.2; simp only [List.length_cons]; omega, by rw [e.1]; rfl⟩), h]
theorem digZ_no {l : List UInt8} (h : digitsN l = none) (hm : ¬ (1 < l.length ∧ l.head? = some 45)) : digZ l = (0, false) := by
  cases l with
  | nil => rfl
  | cons c t =>
    rw [digZ, if_neg (fun e => hm ⟨by have := List.length_pos_iff.2 e.2; simp only [List.length_cons]; omega, by rw [e.1]; rfl⟩), h]
theorem digitsN_no {l : List UInt8} (h : ¬ (1 ≤ l.length ∧ l.length ≤ 9 ∧ (l.length = 1 ∨ l.head? ≠ some 48) ∧ l.all isDig = true)) : digitsN l = none := by unfold digitsN; rw [if_neg h]
theorem digitsN_yes {l : List UInt8} (h : 1 ≤ l.length ∧ l.length ≤ 9 ∧ (l.length = 1 ∨ l.head? ≠ some 48) ∧ l.all isDig = true) : digitsN l = some (valN l) := by unfold digitsN; rw [if_pos h]
theorem all_take {l : List UInt8} {k : Nat} (hk : k < l.length) (h : (l.take k).all isDig = true) (hd : isDig l[k] = true) : (l.take (k + 1)).all isDig = true := by
  rw [List.take_succ_eq_append_getElem hk, List.all_append, h]; simp [hd]
theorem valN_take {l : List UInt8} {k : Nat} (hk : k < l.length) : valN (l.take (k + 1)) = 10 * valN (l.take k) + (l[k].toNat - 48) := by
  rw [List.take_succ_eq_append_getElem hk, valN_snoc]
theorem not_all {l : List UInt8} {k : Nat} (hk : k < l.length) (hd : isDig l[k] = false) : ¬ l.all isDig = true := by
  intro h
  have := List.all_eq_true.1 h _ (List.getElem_mem hk)
  rw [hd] at this; cases this
theorem byte_of {s : ByteArray} {l : List UInt8} (hl : s.data.toList = l) {i : Nat} (hlt : i < s.size) (hil : i < l.length) : s[i]'hlt = l[i] := by
  have h1 : s.data.toList[i]? = l[i]? := by rw [hl]
  have h2 : i < s.data.toList.length := by rw [bl_size]; exact hlt
  rw [List.getElem?_eq_getElem h2, List.getElem?_eq_getElem hil] at h1
  exact (Array.getElem_toList ..).symm.trans (Option.some.inj h1)
set_option maxRecDepth 100000 in
set_option maxHeartbeats 4000000 in
/-- A text that has no sign ahead. -/
theorem digits_plain (s : ByteArray) (w : World) (hs : s.size ≤ 2097152) (hm : ¬ (1 < s.size ∧ s.data.toList.head? = some 45)) : Calls Tryd.prog 45 #[.string s] w fun e w' => e = .returned (.tuple #[.int .i64 (digZ s.data.toList).1, .bool (digZ s.data.toList).2]) ∧ Below w.heap.size w w' := by
  have hsl : s.data.toList.length = s.size := bl_size s
  obtain ⟨l, hl⟩ : ∃ l, s.data.toList = l := ⟨_, rfl⟩
  have HL := Lib.hid hl
  rw [hl] at hsl hm ⊢
  have hm' : ¬ (1 < l.length ∧ l.head? = some 45) := by rw [hsl]; exact hm
  have hno := fun h => digZ_no (l := l) (digitsN_no h) hm'
  have hyes := fun h => digZ_yes (l := l) (digitsN_yes h) hm'
  have hb0 : ∀ h0 : 0 < s.size, 1 < s.size → ¬ (((s[0]'h0).toNat : Int) = 45) := fun h0 h1 e => by
    have e1 := byte_of hl h0 (by omega)
    refine hm ⟨h1, ?_⟩
    rw [List.head?_eq_getElem?, List.getElem?_eq_getElem (by omega), ← e1]
    have e' : (s[0]'h0).toNat = 45 := by omega
    congr 1
    rw [← UInt8.toNat_inj]; exact e'
  rcases (show s.size = 0 ∨ 9 < s.size ∨ (1 ≤ s.size ∧ s.size ≤ 9) by omega) with h | h | ⟨h1, h9⟩
  · have HN := Lib.hid (hno (fun e => by omega))
    have hI : inB (s.size : Int) 1 9 = false := decide_eq_false (by omega)
    have h1 : ¬ (1 < (s.size : Int)) := by omega
    clear hno hyes hb0 hm hm' hl h hsl
    go_enter Tryd.func45, Tryd.ntmps45
    go_wp2_with fail
    refine (l1In_is _ 1 9 false _ hI).mono ?_
    rintro e w1 ⟨rfl, hw1⟩
    subst hw1
    go_wp2
    refine bodyPost_ret (v := .tuple #[.int .i64 0, .bool false]) (by simp [results, Tryd.results45, go_sem]) rfl ⟨by rw [HN.out], Below.refl _ _⟩
  · have HN := Lib.hid (hno (fun e => by omega))
    have hI : inB (s.size : Int) 1 9 = false := decide_eq_false (by omega)
    have h1 : (1 < (s.size : Int)) := by omega
    have h0s : 0 < s.size := by omega
    have hb := hb0 h0s (by omega)
    have hx8 := (s[0]'h0s).toNat_lt
    clear hno hyes hb0 hm hm' hl
    go_enter Tryd.func45, Tryd.ntmps45
    go_wp2_with fail
    refine (l1In_is _ 1 9 false _ hI).mono ?_
    rintro e w1 ⟨rfl, hw1⟩
    subst hw1
    go_wp2
    refine bodyPost_ret (v := .tuple #[.int .i64 0, .bool false]) (by simp [results, Tryd.results45, go_sem]) rfl ⟨by rw [HN.out], Below.refl _ _⟩
  · have hI : inB (s.size : Int) 1 9 = true := decide_eq_true (by omega)
    have h0s : 0 < s.size := by omega
    have hx8 := (s[0]'h0s).toNat_lt
    have hz0 := byte_of hl h0s (by omega)
    have hhead : l.head? = some (s[0]'h0s) := by rw [List.head?_eq_getElem?, List.getElem?_eq_getElem (by omega), hz0]
    by_cases hz : 1 < s.size ∧ ((s[0]'h0s).toNat : Int) = 48
    · have HN := Lib.hid (hno (fun e => by
        rcases e.2.2.1 with e1 | e1
        · omega
        · refine e1 ?_
          rw [hhead]
          have e' : (s[0]'h0s).toNat = 48 := by omega
          congr 1
          rw [← UInt8.toNat_inj]; exact e'))
      have hb := hb0 h0s hz.1
      have h1 : (1 < (s.size : Int)) := by omega
      have hz48 := hz.2
      clear hno hyes hb0 hm hm' hl hhead hz0 hz
      go_enter Tryd.func45, Tryd.ntmps45
      go_wp2_with fail
      refine (l1In_is _ 1 9 true _ hI).mono ?_
      rintro e w1 ⟨rfl, hw1⟩
      subst hw1
      go_wp2
      refine bodyPost_ret (v := .tuple #[.int .i64 0, .bool false]) (by simp [results, Tryd.results45, go_sem]) rfl ⟨by rw [HN.out], Below.refl _ _⟩
    · have hok : l.length = 1 ∨ l.head? ≠ some 48 := by
        rcases (show s.size = 1 ∨ 1 < s.size by omega) with h | h
        · exact .inl (by omega)
        · refine .inr (fun e => hz ⟨h, ?_⟩)
          rw [hhead] at e
          rw [Option.some.inj e]; rfl
      have HNO := Lib.hid (fun (h : ¬ l.all isDig = true) => hno (fun e => h e.2.2.2))
      have HYES := Lib.hid (fun (h : l.all isDig = true) => hyes ⟨by omega, by omega, hok, h⟩)
      have HBY := Lib.hid (fun (i : Nat) (hi : i < s.size) => byte_of hl hi (by omega))
      have hbd : s.size ≤ 1 ∨ (1 < (s.size : Int) ∧ ¬ (((s[0]'h0s).toNat : Int) = 45) ∧ ¬ (((s[0]'h0s).toNat : Int) = 48)) := by
        rcases (show s.size ≤ 1 ∨ 1 < s.size by omega) with h | h
        · exact .inl h
        · exact .inr ⟨by omega, hb0 h0s h, fun e => hz ⟨h, e⟩⟩
      clear hno hyes hb0 hm hm' hhead hz0 hz hok
      rcases hbd with hle | ⟨hgt, hb45, hb48⟩
      · have h1' : ¬ (1 < (s.size : Int)) := by omega
        go_enter Tryd.func45, Tryd.ntmps45
        go_wp2_with fail
        refine (l1In_is _ 1 9 true _ hI).mono ?_
        rintro e w1 ⟨rfl, hw1⟩
        subst hw1
        go_wp2_with fail
        go_loop [6, 7] (fun x6 x7 => ∃ k : Nat, k ≤ s.size ∧ x7 = .int .i64 k ∧ x6 = .int .i64 ((valN (l.take k) : Nat) : Int) ∧ (l.take k).all isDig = true) (fun _ x7 => 10 - (intOf x7).toNat)
        case atStart => exact ⟨0, by omega, rfl, rfl, rfl⟩
        case round =>
          obtain ⟨k, hk, rfl, rfl, hall⟩ := hrel
          have hvl := valN_lt _ hall
          have hlen : (l.take k).length ≤ k := by rw [List.length_take]; omega
          have hv9 : valN (l.take k) < 10 ^ 9 := Nat.lt_of_lt_of_le hvl (Nat.pow_le_pow_right (by omega) (by omega))
          by_cases hlt : k < s.size
          · have hki : (k : Int) < (s.size : Int) := by omega
            have k0 : (0 : Int) ≤ (k : Int) := by omega
            have hby := HBY.out k hlt
            have hx := (s[k]'hlt).toNat_lt
            have hkl : k < l.length := by omega
            have hvt := valN_take hkl
            have hat := fun h => all_take hkl hall h
            have hna := fun h => HNO.out (not_all hkl h)
            rw [← hby] at hvt hat hna
            obtain ⟨v, hv⟩ : ∃ v, valN (l.take k) = v := ⟨_, rfl⟩
            rw [hv] at hvt hv9 ⊢
            rcases (show (s[k]'hlt).toNat < 48 ∨ 57 < (s[k]'hlt).toNat ∨ (48 ≤ (s[k]'hlt).toNat ∧ (s[k]'hlt).toNat ≤ 57) by omega) with hd | hd | ⟨hd1, hd2⟩
            · have HN := Lib.hid (hna (decide_eq_false (by omega)))
              have hd' : ((s[k]'hlt).toNat : Int) < 48 := by omega
              clear hvt hat hna hall hvl hby hl hv
              go_wp2
              refine bodyPost_ret (v := .tuple #[.int .i64 0, .bool false]) (by simp [results, Tryd.results45, go_sem]) rfl ⟨by rw [HN.out], Below.refl _ _⟩
            · have HN := Lib.hid (hna (decide_eq_false (by omega)))
              have hd' : ¬ ((s[k]'hlt).toNat : Int) < 48 := by omega
              have hd'' : (57 : Int) < ((s[k]'hlt).toNat : Int) := by omega
              clear hvt hat hna hall hvl hby hl hv
              go_wp2
              refine bodyPost_ret (v := .tuple #[.int .i64 0, .bool false]) (by simp [results, Tryd.results45, go_sem]) rfl ⟨by rw [HN.out], Below.refl _ _⟩
            · have HA := Lib.hid (hat (decide_eq_true ⟨hd1, hd2⟩))
              have HV := Lib.hid hvt
              have hd' : ¬ ((s[k]'hlt).toNat : Int) < 48 := by omega
              have hd'' : ¬ (57 : Int) < ((s[k]'hlt).toNat : Int) := by omega
              have W8 : IntKind.u8.wrap (((s[k]'hlt).toNat : Int) - 48) = ((s[k]'hlt).toNat : Int) - 48 := IntWalk.u8_in _ ⟨by omega, by omega⟩
              have W6 : IntKind.i64.wrap (((s[k]'hlt).toNat : Int) - 48) = ((s[k]'hlt).toNat : Int) - 48 := by rw [IntKind.wrap_i64]; omega
              have WM : IntKind.i64.wrap (10 * (v : Int)) = 10 * (v : Int) := by rw [IntKind.wrap_i64]; omega
              have WA : IntKind.i64.wrap (10 * (v : Int) + (((s[k]'hlt).toNat : Int) - 48)) = 10 * (v : Int) + (((s[k]'hlt).toNat : Int) - 48) := by rw [IntKind.wrap_i64]; omega
              have WK : IntKind.i64.wrap ((k : Int) + 1) = (k : Int) + 1 := by rw [IntKind.wrap_i64]; omega
              clear hvt hat hna hall hvl hby hl hv
              go_wp2
              go_round
              case rel => exact ⟨k + 1, by omega, congrArg (Value.int .i64) (by omega), congrArg (Value.int .i64) (by rw [HV.out]; omega), HA.out⟩
              case measure => simp [intOf]; omega
          · obtain rfl : k = s.size := by omega
            have hta : l.take s.size = l := List.take_of_length_le (by omega)
            rw [hta] at hall hv9 ⊢
            have HY := Lib.hid (HYES.out hall)
            obtain ⟨v, hv⟩ : ∃ v, valN l = v := ⟨_, rfl⟩
            rw [hv] at HY hv9 ⊢
            clear hta hall hvl hl hv
            go_wp2
            refine bodyPost_ret (v := .tuple #[.int .i64 v, .bool true]) (by simp [results, Tryd.results45, go_sem]) rfl ⟨by rw [HY.out], Below.refl _ _⟩
      · have hgt' : 1 < s.size := by omega
        go_enter Tryd.func45, Tryd.ntmps45
        go_wp2_with fail
        refine (l1In_is _ 1 9 true _ hI).mono ?_
        rintro e w1 ⟨rfl, hw1⟩
        subst hw1
        go_wp2_with fail
        go_loop [6, 7] (fun x6 x7 => ∃ k : Nat, k ≤ s.size ∧ x7 = .int .i64 k ∧ x6 = .int .i64 ((valN (l.take k) : Nat) : Int) ∧ (l.take k).all isDig = true) (fun _ x7 => 10 - (intOf x7).toNat)
        case atStart => exact ⟨0, by omega, rfl, rfl, rfl⟩
        case round =>
          obtain ⟨k, hk, rfl, rfl, hall⟩ := hrel
          have hvl := valN_lt _ hall
          have hlen : (l.take k).length ≤ k := by rw [List.length_take]; omega
          have hv9 : valN (l.take k) < 10 ^ 9 := Nat.lt_of_lt_of_le hvl (Nat.pow_le_pow_right (by omega) (by omega))
          by_cases hlt : k < s.size
          · have hki : (k : Int) < (s.size : Int) := by omega
            have k0 : (0 : Int) ≤ (k : Int) := by omega
            have hby := HBY.out k hlt
            have hx := (s[k]'hlt).toNat_lt
            have hkl : k < l.length := by omega
            have hvt := valN_take hkl
            have hat := fun h => all_take hkl hall h
            have hna := fun h => HNO.out (not_all hkl h)
            rw [← hby] at hvt hat hna
            obtain ⟨v, hv⟩ : ∃ v, valN (l.take k) = v := ⟨_, rfl⟩
            rw [hv] at hvt hv9 ⊢
            rcases (show (s[k]'hlt).toNat < 48 ∨ 57 < (s[k]'hlt).toNat ∨ (48 ≤ (s[k]'hlt).toNat ∧ (s[k]'hlt).toNat ≤ 57) by omega) with hd | hd | ⟨hd1, hd2⟩
            · have HN := Lib.hid (hna (decide_eq_false (by omega)))
              have hd' : ((s[k]'hlt).toNat : Int) < 48 := by omega
              clear hvt hat hna hall hvl hby hl hv
              go_wp2
              refine bodyPost_ret (v := .tuple #[.int .i64 0, .bool false]) (by simp [results, Tryd.results45, go_sem]) rfl ⟨by rw [HN.out], Below.refl _ _⟩
            · have HN := Lib.hid (hna (decide_eq_false (by omega)))
              have hd' : ¬ ((s[k]'hlt).toNat : Int) < 48 := by omega
              have hd'' : (57 : Int) < ((s[k]'hlt).toNat : Int) := by omega
              clear hvt hat hna hall hvl hby hl hv
              go_wp2
              refine bodyPost_ret (v := .tuple #[.int .i64 0, .bool false]) (by simp [results, Tryd.results45, go_sem]) rfl ⟨by rw [HN.out], Below.refl _ _⟩
            · have HA := Lib.hid (hat (decide_eq_true ⟨hd1, hd2⟩))
              have HV := Lib.hid hvt
              have hd' : ¬ ((s[k]'hlt).toNat : Int) < 48 := by omega
              have hd'' : ¬ (57 : Int) < ((s[k]'hlt).toNat : Int) := by omega
              have W8 : IntKind.u8.wrap (((s[k]'hlt).toNat : Int) - 48) = ((s[k]'hlt).toNat : Int) - 48 := IntWalk.u8_in _ ⟨by omega, by omega⟩
              have W6 : IntKind.i64.wrap (((s[k]'hlt).toNat : Int) - 48) = ((s[k]'hlt).toNat : Int) - 48 := by rw [IntKind.wrap_i64]; omega
              have WM : IntKind.i64.wrap (10 * (v : Int)) = 10 * (v : Int) := by rw [IntKind.wrap_i64]; omega
              have WA : IntKind.i64.wrap (10 * (v : Int) + (((s[k]'hlt).toNat : Int) - 48)) = 10 * (v : Int) + (((s[k]'hlt).toNat : Int) - 48) := by rw [IntKind.wrap_i64]; omega
              have WK : IntKind.i64.wrap ((k : Int) + 1) = (k : Int) + 1 := by rw [IntKind.wrap_i64]; omega
              clear hvt hat hna hall hvl hby hl hv
              go_wp2
              go_round
              case rel => exact ⟨k + 1, by omega, congrArg (Value.int .i64) (by omega), congrArg (Value.int .i64) (by rw [HV.out]; omega), HA.out⟩
              case measure => simp [intOf]; omega
          · obtain rfl : k = s.size := by omega
            have hta : l.take s.size = l := List.take_of_length_le (by omega)
            rw [hta] at hall hv9 ⊢
            have HY := Lib.hid (HYES.out hall)
            obtain ⟨v, hv⟩ : ∃ v, valN l = v := ⟨_, rfl⟩
            rw [hv] at HY hv9 ⊢
            clear hta hall hvl hl hv
            go_wp2
            refine bodyPost_ret (v := .tuple #[.int .i64 v, .bool true]) (by simp [results, Tryd.results45, go_sem]) rfl ⟨by rw [HY.out], Below.refl _ _⟩
set_option maxRecDepth 100000 in
set_option maxHeartbeats 2000000 in
theorem digits_at : ∀ (k : Nat) (s : ByteArray), s.size ≤ k → s.size ≤ 2097152 → ∀ w, Calls Tryd.prog 45 #[.string s] w fun e w' => e = .returned (.tuple #[.int .i64 (digZ s.data.toList).1, .bool (digZ s.data.toList).2]) ∧ Below w.heap.size w w' := by
  intro k
  induction k with
  | zero => exact fun s h hs w => digits_plain s w hs (fun e => by omega)
  | succ k ih =>
    intro s h hs w
    by_cases hm : 1 < s.size ∧ s.data.toList.head? = some 45
    · obtain ⟨h1, hh⟩ := hm
      have hsl : s.data.toList.length = s.size := bl_size s
      obtain ⟨c, t, hl⟩ : ∃ c t, s.data.toList = c :: t := by
        cases hc : s.data.toList with
        | nil => rw [hc] at hsl; simp at hsl; omega
        | cons c t => exact ⟨c, t, rfl⟩
      have hc : c = 45 := by rw [hl] at hh; exact Option.some.inj hh
      have htl : t.length = s.size - 1 := by rw [hl] at hsl; simp at hsl; omega
      have hex : s.extract 1 s.size = txt t := by
        rw [extract_txt, hl]
        exact congrArg txt (List.take_of_length_le (by simp; omega))
      have hrec := ih (txt t) (by rw [txt_size]; omega) (by rw [txt_size]; omega)
      rw [txt_list] at hrec
      have hz := digZ_minus hc (fun e => by rw [e] at htl; simp at htl; omega : t ≠ [])
      obtain ⟨b1, b2⟩ := digZ_bd t
      rw [hl, hz]
      obtain ⟨m, hmz⟩ : ∃ m, (digZ t).1 = m := ⟨_, rfl⟩
      obtain ⟨ok, hokz⟩ : ∃ ok, (digZ t).2 = ok := ⟨_, rfl⟩
      rw [hmz] at b1 b2
      rw [hmz, hokz] at hrec ⊢
      have HR := Lib.hid hrec
      have h0s : 0 < s.size := by omega
      have hb45 : ((s[0]'h0s).toNat : Int) = 45 := by
        rw [byte_of hl h0s (by simp)]
        show ((c.toNat : Nat) : Int) = 45
        rw [hc]; rfl
      have h1i : (1 : Int) < (s.size : Int) := by omega
      have h1j : (1 : Int) ≤ (s.size : Int) := by omega
      have h1n : 1 ≤ s.size := by omega
      have hneg : IntKind.i64.wrap (-m) = -m := by rw [IntKind.wrap_i64]; omega
      clear hrec hz hmz hokz hl hsl hh htl ih
      cases ok with
      | false =>
        go_enter Tryd.func45, Tryd.ntmps45
        go_wp2_with fail
        refine (HR.out _).mono ?_
        rintro e w1 ⟨rfl, hb1⟩
        go_wp2
        refine bodyPost_ret (v := .tuple #[.int .i64 (-m), .bool false]) (by simp [results, Tryd.results45, go_sem] <;> omega) rfl ⟨by simp, hb1⟩
      | true =>
        by_cases hm0 : 0 < m
        · rw [decide_eq_true hm0]
          go_enter Tryd.func45, Tryd.ntmps45
          go_wp2_with fail
          refine (HR.out _).mono ?_
          rintro e w1 ⟨rfl, hb1⟩
          go_wp2
          refine bodyPost_ret (v := .tuple #[.int .i64 (-m), .bool true]) (by simp [results, Tryd.results45, go_sem]) rfl ⟨by simp, hb1⟩
        · rw [decide_eq_false hm0]
          go_enter Tryd.func45, Tryd.ntmps45
          go_wp2_with fail
          refine (HR.out _).mono ?_
          rintro e w1 ⟨rfl, hb1⟩
          go_wp2
          refine bodyPost_ret (v := .tuple #[.int .i64 (-m), .bool false]) (by simp [results, Tryd.results45, go_sem] <;> omega) rfl ⟨by simp, hb1⟩
    · exact digits_plain s w hs hm
/-- What the model reads of a text. -/
theorem digits_any (s : ByteArray) (w : World) (hs : s.size ≤ 2097152) : Calls Tryd.prog 45 #[.string s] w fun e w' => e = .returned (.tuple #[.int .i64 (digZ s.data.toList).1, .bool (digZ s.data.toList).2]) ∧ Below w.heap.size w w' := digits_at s.size s (Nat.le_refl _) hs w
end Go.Proofs.YtigcomhhgfgmgaaDoor
namespace Go.Proofs.YtigcomhhgfgmgaaDoor
open Go.RowKit
/-- v is a slice of the deeds of L; they lie in one block from B on, below C, and may be written. -/
def IsDeeds (B C : Nat) (w : World) (v : Value) (L : List DeedN) : Prop :=
  ∃ (a : Option Addr) (cap : Nat), v = .slice a L.length cap ∧ C ≤ w.heap.size ∧
    (L = [] ∨ ∃ g off, a = some ⟨g, off, none⟩ ∧ B ≤ g ∧ (g < C ∧ L.length ≤ cap) ∧
      (∀ (i : Nat) (p : DeedN), L[i]? = some p → w.cell? ⟨g, off + i * 3, none⟩ = some (.int .i64 p.kind) ∧ w.cell? ⟨g, off + i * 3 + 1, none⟩ = some (.int .i64 p.a) ∧ w.cell? ⟨g, off + i * 3 + 2, none⟩ = some (.int .i64 p.b)) ∧ (∀ i, i < 3 * L.length → w.frozen? ⟨g, off + i, none⟩ = false))
theorem IsDeeds.below {B C D : Nat} {w w' : World} {v : Value} {L : List DeedN} (h : IsDeeds B C w v L) (hb : Below D w w') (hD : C ≤ D) : IsDeeds B C w' v L := by
  obtain ⟨a, cap, rfl, hC, hs⟩ := h
  refine ⟨a, cap, rfl, Nat.le_trans hC hb.size, ?_⟩
  rcases hs with hs | ⟨g, off, ha, h1, h2, hc, hf⟩
  · exact .inl hs
  · exact .inr ⟨g, off, ha, h1, h2, fun i p hi => ⟨(hb.cell (p := ⟨g, off + i * 3, none⟩) (by show g < D; omega)).trans (hc i p hi).1, (hb.cell (p := ⟨g, off + i * 3 + 1, none⟩) (by show g < D; omega)).trans (hc i p hi).2.1, (hb.cell (p := ⟨g, off + i * 3 + 2, none⟩) (by show g < D; omega)).trans (hc i p hi).2.2⟩, fun i hi => (hb.frozen (p := ⟨g, off + i, none⟩) (by show g < D; omega)).trans (hf i hi)⟩
theorem IsDeeds.mono {B B' C C' : Nat} {w : World} {v : Value} {L : List DeedN} (h : IsDeeds B C w v L) (h1 : B' ≤ B) (h2 : C ≤ C') (h3 : C' ≤ w.heap.size) : IsDeeds B' C' w v L := by
  obtain ⟨a, cap, rfl, hC, hs⟩ := h
  refine ⟨a, cap, rfl, h3, ?_⟩
  rcases hs with hs | ⟨g, off, ha, k1, k2, hc, hf⟩
  · exact .inl hs
  · exact .inr ⟨g, off, ha, by omega, by omega, hc, hf⟩
theorem IsDeeds.empty (B : Nat) (w : World) (a : Option Addr) (c : Nat) : IsDeeds B w.heap.size w (.slice a 0 c) [] := ⟨a, c, rfl, Nat.le_refl _, .inl rfl⟩
theorem IsDeeds.marked {B C B0 C0 : Nat} {w w' : World} {v : Value} {L : List DeedN} (h : IsDeeds B0 C0 w v L) (hm : Marked B C w w') (hd : C0 ≤ B) : IsDeeds B0 C0 w' v L := by
  obtain ⟨a, cap, rfl, hC, hs⟩ := h
  obtain ⟨hz, row, hg, hr⟩ := hm
  refine ⟨a, cap, rfl, by omega, ?_⟩
  rcases hs with hs | ⟨g, off, ha, h1, h2, hc, hf⟩
  · exact .inl hs
  · have hne : some g ≠ row := fun e => by have := hr g e.symm; omega
    exact .inr ⟨g, off, ha, h1, h2, fun i p hi => ⟨(hg.cell_far ⟨g, off + i * 3, none⟩ (by show g < w.heap.size; omega) hne).trans (hc i p hi).1, (hg.cell_far ⟨g, off + i * 3 + 1, none⟩ (by show g < w.heap.size; omega) hne).trans (hc i p hi).2.1, (hg.cell_far ⟨g, off + i * 3 + 2, none⟩ (by show g < w.heap.size; omega) hne).trans (hc i p hi).2.2⟩, fun i hi => (hg.frozen_far ⟨g, off + i, none⟩ (by show g < w.heap.size; omega) hne).trans (hf i hi)⟩
/-- Without its first k deeds. -/
theorem IsDeeds.drop {B C : Nat} {w : World} {a : Addr} {n cap : Nat} {L : List DeedN} (h : IsDeeds B C w (.slice (some a) n cap) L) (k c : Nat) (hk : k < n) (hkc : n - k ≤ c) : IsDeeds B C w (.slice (some ⟨a.block, a.off + k * 3, none⟩) (n - k) c) (L.drop k) := by
  obtain ⟨a', cap', e, hC, hs⟩ := h
  obtain ⟨rfl, rfl, rfl⟩ : some a = a' ∧ n = L.length ∧ cap = cap' := by simpa using e
  refine ⟨_, c, by rw [List.length_drop], hC, ?_⟩
  rcases hs with hs | ⟨g, off, ha, h1, h2, hc, hf⟩
  · subst hs; simp at hk
  · cases ha
    refine .inr ⟨g, off + k * 3, rfl, h1, ⟨h2.1, by rw [List.length_drop]; exact hkc⟩, fun i p hi => ?_, fun i hi => ?_⟩
    · rw [List.getElem?_drop] at hi
      have := hc _ _ hi
      rw [show off + k * 3 + i * 3 = off + (k + i) * 3 by omega]
      exact this
    · rw [List.length_drop] at hi
      rw [show off + k * 3 + i = off + (k * 3 + i) by omega]
      exact hf _ (by omega)
/-- The first k deeds. -/
theorem IsDeeds.take {B C : Nat} {w : World} {a : Option Addr} {n cap : Nat} {L : List DeedN} (h : IsDeeds B C w (.slice a n cap) L) (k c : Nat) (hk : k ≤ n) (hkc : k ≤ c) : IsDeeds B C w (.slice a k c) (L.take k) := by
  obtain ⟨a', cap', e, hC, hs⟩ := h
  obtain ⟨rfl, rfl, rfl⟩ : a = a' ∧ n = L.length ∧ cap = cap' := by simpa using e
  refine ⟨a, c, by rw [List.length_take, Nat.min_eq_left hk], hC, ?_⟩
  rcases hs with hs | ⟨g, off, ha, h1, h2, hc, hf⟩
  · subst hs; exact .inl (by simp)
  · refine .inr ⟨g, off, ha, h1, ⟨h2.1, by rw [List.length_take]; omega⟩, fun i p hi => hc i p ?_, fun i hi => hf i (by rw [List.length_take] at hi; omega)⟩
    rw [List.getElem?_take] at hi
    split at hi
    · exact hi
    · cases hi
/-- The cells of deeds. -/
def deedCells (L : List DeedN) : List Value := L.flatMap fun p => [.int .i64 p.kind, .int .i64 p.a, .int .i64 p.b]
theorem deedCells_len (L : List DeedN) : (deedCells L).length = L.length * 3 := by
  induction L with
  | nil => rfl
  | cons p L ih => simp only [deedCells, List.flatMap_cons, List.length_append, List.length_cons, List.length_nil] at ih ⊢; rw [ih]; omega
theorem deedCells_snoc (L : List DeedN) (p : DeedN) : deedCells L ++ [.int .i64 p.kind, .int .i64 p.a, .int .i64 p.b] = deedCells (L ++ [p]) := by simp [deedCells]
theorem deedCells_append (L M : List DeedN) : deedCells L ++ deedCells M = deedCells (L ++ M) := by simp [deedCells]
theorem deedCells_get : ∀ (L : List DeedN) (i : Nat) (p : DeedN), L[i]? = some p → (deedCells L)[i * 3]? = some (.int .i64 p.kind) ∧ (deedCells L)[i * 3 + 1]? = some (.int .i64 p.a) ∧ (deedCells L)[i * 3 + 2]? = some (.int .i64 p.b)
  | [], i, p, h => by simp at h
  | q :: L, 0, p, h => by simp at h; subst h; exact ⟨rfl, rfl, rfl⟩
  | q :: L, i + 1, p, h => by
    have := deedCells_get L i p (by simpa using h)
    rw [show (i + 1) * 3 = i * 3 + 1 + 1 + 1 by omega]
    exact this
/-- A row of one's own, as append leaves it. -/
theorem IsDeeds.of_owns {B : Nat} {w : World} {e : TypeId} {v : Value} {L : List DeedN} {n : Nat} (h : w.ownsRow B e 3 v n (deedCells L)) : IsDeeds B w.heap.size w v L := by
  have hc := fun g (hg : v.ownBlock = some g) => h.cells hg
  obtain ⟨hl, h⟩ := h
  rw [deedCells_len] at hl
  have hn : L.length = n := by omega
  rcases h with ⟨rfl, rfl⟩ | ⟨g, cap, cur, rfl, hb, hg, hnc, hm, hcs, htk⟩
  · obtain rfl : L = [] := List.length_eq_zero_iff.1 hn
    exact IsDeeds.empty B w none 0
  · have hlt : g < w.heap.size := (Array.getElem?_eq_some_iff.1 hg).1
    have hcell : ∀ (k : Nat) (x : Value), (deedCells L)[k]? = some x → w.cell? ⟨g, 0 + k, none⟩ = some x := fun k x hk => by
      have := hc g rfl k x hk
      rw [Nat.zero_add]
      by_cases h0 : k = 0
      · subst h0; simpa [Addr.add] using this
      · simpa [Addr.add, h0] using this
    refine ⟨_, cap, by rw [hn], Nat.le_refl _, .inr ⟨g, 0, rfl, hb, ⟨hlt, by omega⟩, fun i p hi => ?_, fun i hi => ?_⟩⟩
    · obtain ⟨k1, k2, k3⟩ := deedCells_get L i p hi
      exact ⟨hcell _ _ k1, hcell _ _ k2, hcell _ _ k3⟩
    · simp [World.frozen?, hg]
end Go.Proofs.YtigcomhhgfgmgaaDoor
namespace Go.Proofs.YtigcomhhgfgmgaaDoor
open Go.RowKit
theorem deedCells_at : ∀ (L : List DeedN) (j : Nat) (u : Value), (deedCells L)[j]? = some u → ∃ i p, L[i]? = some p ∧ ((j = i * 3 ∧ u = .int .i64 p.kind) ∨ (j = i * 3 + 1 ∧ u = .int .i64 p.a) ∨ (j = i * 3 + 2 ∧ u = .int .i64 p.b))
  | [], j, u, h => by simp [deedCells] at h
  | q :: L, 0, u, h => by
    have h' : (Value.int .i64 q.kind) = u := by simpa [deedCells] using h
    exact ⟨0, q, rfl, .inl ⟨rfl, h'.symm⟩⟩
  | q :: L, 1, u, h => by
    have h' : (Value.int .i64 q.a) = u := by simpa [deedCells] using h
    exact ⟨0, q, rfl, .inr (.inl ⟨rfl, h'.symm⟩)⟩
  | q :: L, 2, u, h => by
    have h' : (Value.int .i64 q.b) = u := by simpa [deedCells] using h
    exact ⟨0, q, rfl, .inr (.inr ⟨rfl, h'.symm⟩)⟩
  | q :: L, j + 3, u, h => by
    have h' : (deedCells L)[j]? = some u := by simpa [deedCells] using h
    obtain ⟨i, p, hp, hj⟩ := deedCells_at L j u h'
    refine ⟨i + 1, p, by simpa using hp, ?_⟩
    rcases hj with ⟨h1, h2⟩ | ⟨h1, h2⟩ | ⟨h1, h2⟩
    · exact .inl ⟨by omega, h2⟩
    · exact .inr (.inl ⟨by omega, h2⟩)
    · exact .inr (.inr ⟨by omega, h2⟩)
theorem deedCells_one (L : List DeedN) : ∀ u ∈ deedCells L, u.oneCell' = true := by
  intro u hu
  obtain ⟨j, hj⟩ := List.getElem?_of_mem hu
  obtain ⟨i, p, _, h | h | h⟩ := deedCells_at L j u hj
  · rw [h.2]; rfl
  · rw [h.2]; rfl
  · rw [h.2]; rfl
theorem IsDeeds.lit {w : World} {g : Nat} {k p q : Int} {t : TypeId} (h : w.heap[g]? = some (.cells #[.int .i64 k, .int .i64 p, .int .i64 q] t (0, 0))) : IsDeeds g w.heap.size w (.slice (some ⟨g, 0, none⟩) 1 1) [⟨k, p, q⟩] := by
  have hlt : g < w.heap.size := (Array.getElem?_eq_some_iff.1 h).1
  refine ⟨_, 1, rfl, Nat.le_refl _, .inr ⟨g, 0, rfl, Nat.le_refl _, ⟨hlt, by simp⟩, fun i x hi => ?_, fun i hi => ?_⟩⟩
  · cases i with
    | zero =>
      have e : x = ⟨k, p, q⟩ := by simpa using hi.symm
      subst e
      exact ⟨by simp [World.cell?, h], by simp [World.cell?, h], by simp [World.cell?, h]⟩
    | succ i => simp at hi
  · simp [World.frozen?, h]
theorem IsDeeds.new (W : World) (k p q : Int) (t : TypeId) (g : Nat) (hg : W.heap.size = g) : IsDeeds g (g + 1) (W.alloc (.cells #[.int .i64 k, .int .i64 p, .int .i64 q] t)) (.slice (some ⟨g, 0, none⟩) 1 1) [⟨k, p, q⟩] := by
  subst hg
  have h := IsDeeds.lit (w := W.alloc (.cells #[.int .i64 k, .int .i64 p, .int .i64 q] t)) (g := W.heap.size) (k := k) (p := p) (q := q) (t := t) (heap_alloc_new _ _)
  rwa [World.size_alloc] at h
section
variable {P : Program} (w : World)
theorem run_append_deeds (base : Nat) (t ty e : TypeId) (i : TypeInfo) (z : Value) (bytes : Nat) (ht : P.underlying t = some (.slice e)) (hi : P.info? e = some i) (hz : i.zero = some z)
    (hsize : i.size = 3) (hby : i.bytes = bytes) (hzs : z.cells.size = 3) (v : Value) (n : Nat) (xs : List Value) (hown : w.ownsRow base e 3 v n xs)
    (B C : Nat) (x : Value) (L : List DeedN) (hx : IsDeeds B C w x L) (h63 : n + L.length ≤ maxLen) (hbytes : (n + L.length) * bytes ≤ 140737488355328) (hbase : base ≤ w.heap.size) :
    ∃ a c w', (Builtin.append_ #[t, t] ty #[v, x]).run P w = .ok (.slice a (n + L.length) c) w' ∧ w'.ownsRow base e 3 (.slice a (n + L.length) c) (n + L.length) (xs ++ deedCells L) ∧ w.grownBy w' v.ownBlock ∧
      ((Value.slice a (n + L.length) c).ownBlock = v.ownBlock ∨ (Value.slice a (n + L.length) c).ownBlock = some w.heap.size) := by
  obtain ⟨a, cap, rfl, hC, hs⟩ := hx
  cases a with
  | none =>
    obtain rfl : L = [] := by
      rcases hs with hs | ⟨g, off, ha, _⟩
      · exact hs
      · cases ha
    obtain ⟨a0, c0, rfl⟩ := own_shape hown
    refine ⟨a0, c0, w, ?_, by simpa [deedCells] using hown, ⟨rfl, rfl, rfl, Nat.le_refl _, fun _ _ _ => rfl⟩, .inl rfl⟩
    rcases hown.2 with ⟨hv, rfl⟩ | ⟨g, cap, cur, hv, _, _, hnc, _⟩
    · cases hv
      simp [Builtin.append_, run_underlying ht, sizeOf, typeInfo, hi, Builtin.lenOf, Builtin.firstCells]
    · cases hv
      simp [Builtin.append_, run_underlying ht, sizeOf, typeInfo, hi, Builtin.lenOf, Builtin.firstCells, hnc, storeCells]
  | some ad =>
    obtain ⟨v', w', h1, h2, h3, _, h5⟩ := run_append_own_at (P := P) w base t ty e i z 3 bytes ht hi hz hsize hby hzs (by omega) v n xs hown ad L.length cap (deedCells L) (deedCells_len L)
      (fun j u hu => by
        rcases hs with rfl | ⟨g, off, ha, _, _, hc, _⟩
        · simp [deedCells] at hu
        · cases ha
          rw [add_row]
          obtain ⟨k, p, hp, h | h | h⟩ := deedCells_at L j u hu
          · rw [h.1, h.2]; exact (hc k p hp).1
          · rw [h.1, h.2]; exact (hc k p hp).2.1
          · rw [h.1, h.2]; exact (hc k p hp).2.2) (deedCells_one L) h63 hbytes hbase
    obtain ⟨a0, c0, rfl⟩ := own_shape h2
    exact ⟨a0, c0, w', h1, h2, h3, h5⟩
/-- At the list of a plain region's operations. -/
theorem wpList_append_deeds {ops : Array Oper} {rest : List Oper} {o : Oper} {a : Act} {Q : Exit → Act → World → Prop} (hgd : o.guard = none) (s x : Operand) (t : TypeId)
    (ho : o.op = .call { callee := .builtin .append, args := #[s, x], argTypes := #[t, t] })
    (base : Nat) (e : TypeId) (i : TypeInfo) (z : Value) (bytes : Nat) (ht : P.underlying t = some (.slice e)) (hi : P.info? e = some i) (hz : i.zero = some z)
    (hsize : i.size = 3) (hby : i.bytes = bytes) (hzs : z.cells.size = 3) (v : Value) (n : Nat) (xs : List Value) (hs : a.eval s = v) (hown : w.ownsRow base e 3 v n xs)
    (B C : Nat) (y : Value) (L : List DeedN) (hx : a.eval x = y) (hy : IsDeeds B C w y L) (N : Nat) (hN : n + L.length = N) (X : List Value) (hX : xs ++ deedCells L = X) (h63 : N ≤ maxLen) (hbytes : N * bytes ≤ 140737488355328) (hbase : base ≤ w.heap.size)
    (h : ∀ a' c' w', w'.ownsRow base e 3 (.slice a' N c') N X → w.grownBy w' v.ownBlock → ((Value.slice a' N c').ownBlock = v.ownBlock ∨ (Value.slice a' N c').ownBlock = some w.heap.size) → wpList P ops Q rest (a.put o.dst (.slice a' N c')) w') : wpList P ops Q (o :: rest) a w := by
  subst hN hX
  refine wpList_plain hgd fun K hK => ?_
  obtain ⟨a', c', w', hr, h2, h3, h4⟩ := run_append_deeds (P := P) w base t o.type e i z bytes ht hi hz hsize hby hzs v n xs hown B C y L hy h63 hbytes hbase
  unfold Oper.wp execOp
  simp only [ho, resolve, invoke, builtin, Sem.run_bind, Sem.run_pure, Result.andThen_ok, List.map_toArray, List.map_cons, List.map_nil, hs, hx, hr]
  exact hK _ _ (h a' c' w' h2 h3 h4)
/-- At a step of a region that draws its order. -/
theorem step_append_deeds {ops : Array Oper} {o : Oper} {a : Act} {K : Act → World → Prop} {Q : Exit → Act → World → Prop} {E : Prop} (hgd : o.guard = none) (s x : Operand) (t : TypeId)
    (ho : o.op = .call { callee := .builtin .append, args := #[s, x], argTypes := #[t, t] })
    (base : Nat) (e : TypeId) (i : TypeInfo) (z : Value) (bytes : Nat) (ht : P.underlying t = some (.slice e)) (hi : P.info? e = some i) (hz : i.zero = some z)
    (hsize : i.size = 3) (hby : i.bytes = bytes) (hzs : z.cells.size = 3) (v : Value) (n : Nat) (xs : List Value) (hs : a.eval s = v) (hown : w.ownsRow base e 3 v n xs)
    (B C : Nat) (y : Value) (L : List DeedN) (hx : a.eval x = y) (hy : IsDeeds B C w y L) (N : Nat) (hN : n + L.length = N) (X : List Value) (hX : xs ++ deedCells L = X) (h63 : N ≤ maxLen) (hbytes : N * bytes ≤ 140737488355328) (hbase : base ≤ w.heap.size)
    (h : ∀ a' c' w', w'.ownsRow base e 3 (.slice a' N c') N X → w.grownBy w' v.ownBlock → ((Value.slice a' N c').ownBlock = v.ownBlock ∨ (Value.slice a' N c').ownBlock = some w.heap.size) → K (a.put o.dst (.slice a' N c')) w') :
    if Region.wanted o (yielded ops a.tmps) = true then Oper.wp P o a w K Q else E := by
  have hw : Region.wanted o (yielded ops a.tmps) = true := by simp [Region.wanted, hgd]
  rw [if_pos hw]
  subst hN hX
  obtain ⟨a', c', w', hr, h2, h3, h4⟩ := run_append_deeds (P := P) w base t o.type e i z bytes ht hi hz hsize hby hzs v n xs hown B C y L hy h63 hbytes hbase
  unfold Oper.wp execOp
  simp only [ho, resolve, invoke, builtin, Sem.run_bind, Sem.run_pure, Result.andThen_ok, List.map_toArray, List.map_cons, List.map_nil, hs, hx, hr]
  exact h a' c' w' h2 h3 h4
end
end Go.Proofs.YtigcomhhgfgmgaaDoor
namespace Go.Proofs.YtigcomhhgfgmgaaDoor
open Go.RowKit
/-- What an endless iterator promises: whoever keeps what it needs (Kp) between two rounds, and leaves before round N, is handed place after place; and it returns once a round has said 'no more'. -/
def Endless (F : Fence) (n : Nat) (P : Program) (g : Nat) (lb : Array Value) (at_ : Nat → Array Value) (Kp : World → Prop) (N : Nat) (w : World) : Prop :=
  ∀ (l : Nat) (J X : Nat → World → Prop) (W : World), Below w.heap.size w W → AbidesFrom W.heap.size J → AbidesFrom W.heap.size X → (∀ k V, J k V → Kp V) →
    (∀ k V, k < N → J k V → YieldAt F (n - 1) P l (at_ k) V fun e V' => (e = .returned (.bool true) ∧ k + 1 < N ∧ J (k + 1) V') ∨ (e = .returned (.bool false) ∧ X k V')) →
    0 < N → J 0 W → CallsIn F n P g (#[.func (.yield l) #[] #[]] ++ lb) W fun e V => (∃ v, e = .returned v) ∧ ∃ k, k < N ∧ X k V
/-- How the body of round k may end. -/
def roundEnd (N : Nat) (I : Nat → World → Prop) (X : Code → Nat → World → Prop) (k : Nat) (W : World) : Exit → Act → World → Prop
  | .normal, _, V => KeepsOthers W V ∧ k + 1 < N ∧ I (k + 1) V
  | .ret, _, V => KeepsOthers W V ∧ X .ret k V
  | .exit id, _, V => KeepsOthers W V ∧ X (.exit id) k V
  | .goto t, _, V => KeepsOthers W V ∧ X (.goto t) k V
  | .panic _, _, _ => False
  | .outgrown, _, _ => False
/-- The record of the loop in one of its states. -/
def recordOf (w : World) (fn : FuncId) (a : Act) (ps : Array Tmp) (assign body : Code) (st : LoopState) (pe : Option Code) : Obj :=
  .loop { state := st, pending := pe, fn := fn, tmps := a.tmps, params := ps, assign := assign, body := body, defers := w.heap.size }
/-- The record and the block for what the rounds defer, as they lie between two rounds, or behind the last one. -/
def Held (w W : World) (o : Obj) : Prop := W.heap[w.heap.size + 1]? = some o ∧ W.heap[w.heap.size]? = some (.deferred (some []))
theorem Held.kept {w A B : World} {o : Obj} {row : Option Nat} (h : Held w A o) (ho : o.isWalk = false) (hg : A.grownBy B row) (hr : ∀ r, row = some r → ∃ x : Obj, A.heap[r]? = some x ∧ x.isWalk = true) : Held w B o :=
  ⟨(grownBy_keeps hg hr h.1 ho).trans h.1, (grownBy_keeps hg hr h.2 rfl).trans h.2⟩
theorem Held.turned {w A : World} {o : Obj} (h : Held w A o) (o' : Obj) : Held w (A.putObj (w.heap.size + 1) o') o' :=
  ⟨World.putObj_heap_same (Array.getElem?_eq_some_iff.1 h.1).1, (World.putObj_heap_other (by omega)).trans h.2⟩
theorem Held.others {w A B : World} {o : Obj} (h : Held w A o) (ho : o.isCells = false) (hk : KeepsOthers A B) : Held w B o := ⟨hk.same _ _ h.1 ho, hk.same _ _ h.2 rfl⟩
variable {F : Fence} {n : Nat} {P : Program}
/-- **The statement 'for x := range f', f an iterator without end.** -/
theorem wpIn_rangeFunc_endless {g : Operand} {ps : Array Tmp} {assign body : Code} {Q : Exit → Act → World → Prop} {a : Act} {w : World}
    (hro : F.round = none) (h1 : 1 ≤ n) {gf : Nat} {lb : Array Value} (hg : a.eval g = .func (.func gf) #[] lb) (hFg : F.fn gf) (eg : ∀ args V, (callFunc gf args).run P V = .ok (.enter gf args) V)
    {at_ : Nat → Array Value} {Kp : World → Prop} {N : Nat} {w0 : World} (hseq : Endless F (n - 1) P gf lb at_ Kp N w0) (hb0 : Below w0.heap.size w0 w) (hps : ∀ k, (at_ k).size = ps.size) (hN : 0 < N)
    (I : Nat → World → Prop) (X : Code → Nat → World → Prop) (hI : OwnFrom w.heap.size I) (hX : ∀ c, OwnFrom w.heap.size (X c)) (hKp : ∀ k V, I k V → Kp V) (h0 : I 0 w) (a₁ : Nat → Act)
    (hassign : ∀ (l k : Nat) (W : World) (K : Act → World → Prop), K (a₁ k) W →
      assign.wpIn (F.inRound l) (n - 1 - 1) P (Exit.then K (fun _ _ _ => False)) { tmps := (ps.zip (at_ k)).foldl (fun t (p, v) => t.setIfInBounds p v) a.tmps, defers := [] } W)
    (hbody : ∀ (l k : Nat) (W : World), k < N → I k W → body.wpIn (F.inRound l) (n - 1 - 1) P (roundEnd N I X k W) (a₁ k) W)
    (hstop : ∀ (D k : Nat) (c : Code) (W : World), w.heap.size ≤ D → k < N → X c k W → W.heap[D]? = some (.deferred (some [])) → c.wpIn F n P Q { a with defers := { target := .collected D, args := #[] } :: a.defers } W) :
    (Code.rangeFunc g ps assign body).wpIn F n P Q a w := by
  refine wpIn_rangeFunc fun fn hfn => ?_
  rw [hro]
  obtain ⟨rec, hrec⟩ : ∃ rec : LoopState → Option Code → Obj, rec = recordOf w fn a ps assign body := ⟨_, rfl⟩
  have held : Held w ((w.alloc (.deferred (some []))).alloc (rec .ready none)) (rec .ready none) := by
    refine ⟨?_, (Below.heap_alloc _ _ _ (by simp)).trans (World.alloc_heap_new w _)⟩
    have := World.alloc_heap_new (w.alloc (.deferred (some []))) (rec .ready none)
    rwa [World.size_alloc] at this
  have hI1 : I 0 ((w.alloc (.deferred (some []))).alloc (rec .ready none)) := hI.alloc _ (hI.alloc _ h0)
  have hb1 : Below w0.heap.size w0 ((w.alloc (.deferred (some []))).alloc (rec .ready none)) := hb0.trans ((((Below.refl _ w).alloc (Nat.le_refl _) _).alloc (by simp) _).mono hb0.size)
  have hsz : w.heap.size ≤ ((w.alloc (.deferred (some []))).alloc (rec .ready none)).heap.size := by simp; omega
  obtain ⟨W1, hW1⟩ : ∃ W1, (w.alloc (.deferred (some []))).alloc (rec .ready none) = W1 := ⟨_, rfl⟩
  rw [hW1] at held hI1 hb1 hsz
  refine ⟨w.heap.size + 1, [{ target := .collected w.heap.size, args := #[] }], W1, { target := .fn (.func gf) lb, args := #[.func (.yield (w.heap.size + 1)) #[] #[]] }, W1, gf, #[.func (.yield (w.heap.size + 1)) #[] #[]] ++ lb, W1,
    by rw [← hW1, hrec]; exact run_enterLoop_outer _ _ _ _ _, by simp only [resolve, hg]; simp [go_sem], fun f' hf' => by simp [Target.leads] at hf'; subst hf'; exact hFg, by simp [invoke, go_sem, eg], fun _ => h1, ?_⟩
  have nowalk : ∀ {A : World} {row : Option Nat}, (∀ r, row = some r → W1.heap.size ≤ r ∧ ∃ o : Obj, A.heap[r]? = some o ∧ o.isWalk = true) → (∀ r, row = some r → w.heap.size ≤ r ∧ ∃ o : Obj, A.heap[r]? = some o ∧ o.isCells = false) :=
    fun hr r e => by obtain ⟨hB, o, ho, hw⟩ := hr r e; exact ⟨by omega, o, ho, Obj.not_cells_of_walk hw⟩
  have recW : ∀ st pe, (rec st pe).isWalk = false := fun _ _ => by rw [hrec]; rfl
  have recC : ∀ st pe, (rec st pe).isCells = false := fun _ _ => by rw [hrec]; rfl
  refine (hseq (w.heap.size + 1) (fun k W => I k W ∧ Held w W (rec .ready none)) (fun k W => ∃ c, X c k W ∧ Held w W (rec .done (some c))) W1 hb1
    (fun s A B row hs hg' hr => ⟨hI s A B row hs.1 hg' (nowalk hr), hs.2.kept (recW _ _) hg' (fun r e => (hr r e).2)⟩)
    (fun s A B row hs hg' hr => by obtain ⟨c, hc, hh⟩ := hs; exact ⟨c, hX c s A B row hc hg' (nowalk hr), hh.kept (recW _ _) hg' (fun r e => (hr r e).2)⟩)
    (fun k V hj => hKp k V hj.1) ?round hN ⟨hI1, held⟩).mono ?behind
  case round =>
    rintro k W hk ⟨hi, hh⟩
    have hl : W.heap[w.heap.size + 1]? = some (.loop { state := .ready, pending := none, fn := fn, tmps := a.tmps, params := ps, assign := assign, body := body, defers := w.heap.size }) := by have := hh.1; rw [hrec] at this; exact this
    refine ⟨fn, _, assign, body, run_yield (P := P) (args := at_ k) hl (hps k), roundIn_of_wpIn hfn (hassign _ k W _ ⟨_, run_beginRound hl rfl, ?_⟩)⟩
    have busy : Held w (W.putObj (w.heap.size + 1) (rec .busy none)) (rec .busy none) := hh.turned _
    have hi2 : I k (W.putObj (w.heap.size + 1) (rec .busy none)) := hI.putObj _ hi (by omega) hl rfl
    have fin : ∀ (jump : Option Code) (V : World), KeepsOthers (W.putObj (w.heap.size + 1) (rec .busy none)) V → ∃ r : Loop, V.heap[w.heap.size + 1]? = some (.loop r) ∧
        (Instr.endRound (w.heap.size + 1) jump).run P V = .ok (.bool jump.isNone) (V.putObj (w.heap.size + 1) (rec (if jump.isNone then .ready else .done) jump)) ∧ Held w (V.putObj (w.heap.size + 1) (rec (if jump.isNone then .ready else .done) jump)) (rec (if jump.isNone then .ready else .done) jump) := fun jump V hkV => by
      have hv := busy.others (recC _ _) hkV
      have hv1 := hv.1
      rw [hrec] at hv1
      have hr := run_endRound (P := P) jump hv1
      refine ⟨_, hv1, ?_, hv.turned _⟩
      rw [hrec]; exact hr
    rw [hrec] at hi2 busy
    refine wpIn_mono (hbody _ k _ hk hi2) ?_
    rintro e a3 V hp
    have stop : ∀ c : Code, KeepsOthers (W.putObj (w.heap.size + 1) (recordOf w fn a ps assign body .busy none)) V ∧ X c k V →
        ∃ v V', (Instr.endRound (w.heap.size + 1) (some c)).run P V = .ok v V' ∧ ((Ending.returned v = .returned (.bool true) ∧ k + 1 < N ∧ (I (k + 1) V' ∧ Held w V' (rec .ready none))) ∨ (Ending.returned v = .returned (.bool false) ∧ ∃ c, X c k V' ∧ Held w V' (rec .done (some c)))) := fun c hc => by
      obtain ⟨r, hl3, hr, hh3⟩ := fin (some c) V (by rw [hrec]; exact hc.1)
      exact ⟨_, _, hr, .inr ⟨rfl, c, (hX c).putObj _ hc.2 (by omega) hl3 rfl, hh3⟩⟩
    cases e with
    | normal =>
      obtain ⟨hk3, hlt, hi3⟩ := hp
      obtain ⟨r, hl3, hr, hh3⟩ := fin none V (by rw [hrec]; exact hk3)
      exact ⟨_, _, hr, .inl ⟨rfl, hlt, hI.putObj _ hi3 (by omega) hl3 rfl, hh3⟩⟩
    | ret => exact stop _ hp
    | exit id => exact stop _ hp
    | goto t => exact stop _ hp
    | panic ch => exact hp.elim
    | outgrown => exact hp.elim
  case behind =>
    rintro e V ⟨⟨v, rfl⟩, k, hk, c, hc, hh⟩
    have hl := hh.1
    rw [hrec] at hl
    refine ⟨some c, _, run_endLoop (P := P) hl (by simp), hstop _ k c _ (Nat.le_refl _) hk ((hX c).putObj _ hc (by omega) hl rfl) ?_⟩
    exact (World.putObj_heap_other (by omega)).trans hh.2
end Go.Proofs.YtigcomhhgfgmgaaDoor
namespace Go.Proofs.YtigcomhhgfgmgaaDoor
open Go.RowKit
variable {F : Fence} {n : Nat} {P : Program} {ops : Array Oper} {md : Region.Mode} {Q : Exit → Act → World → Prop}
/-- No operation defers a call. -/
def noDefer (ops : Array Oper) : Bool := ops.all fun o => match o.op with | .defer _ => false | _ => true
theorem noDefer_at {i : Nat} {o : Oper} (h : noDefer ops = true) (hi : ops[i]? = some o) : ∀ c, o.op ≠ .defer c := by
  intro c hc
  obtain ⟨hlt, rfl⟩ := Array.getElem?_eq_some_iff.1 hi
  have := Array.all_eq_true.1 h i hlt
  simp only [hc] at this
  cases this
theorem wpOpIn_round {l i : Nat} {K : Act → World → Prop} {a : Act} {w : World} (hro : F.round = none) (hnd : noDefer ops = true) (h : wpOpIn F n P ops Q i K a w) : wpOpIn (F.inRound l) n P ops Q i K a w := by
  unfold wpOpIn at *
  split
  · rename_i ho; simp only [ho] at h; exact h
  · rename_i o ho
    simp only [ho] at h
    split
    · rename_i hw
      simp only [hw, if_true] at h
      unfold Oper.wpIn at *
      refine ⟨h.1, ?_⟩
      have h2 := h.2
      rw [hro, Oper.semAt_none] at h2
      rw [Fence.inRound_round, Oper.semAt_some l _ _ (noDefer_at hnd ho)]
      exact h2
    · rename_i hw; simp only [hw] at h; exact h
theorem wpAnyIn_round {l : Nat} (hro : F.round = none) (hnd : noDefer ops = true) : ∀ (fuel : Nat) (listed : Array Bool) (a : Act) (w : World), wpAnyIn F n P md ops Q fuel listed a w → wpAnyIn (F.inRound l) n P md ops Q fuel listed a w
  | 0, _, _, _, h => h
  | fuel + 1, _, _, _, h => ⟨h.1, fun i hi => wpOpIn_round hro hnd (wpOpIn_mono (fun a' w' => wpAnyIn_round hro hnd fuel _ a' w') (h.2 i hi))⟩
theorem wpIn_region_quiet_round {C : World → Prop} {id l : Nat} {a : Act} {w : World} (hro : F.round = none) (hnd : noDefer ops = true) (hm : P.follows .mixedOrders = true) (hB : Region.lexB .any ops = true) (hC : C { w with drawn := w.drawn + 1 })
    (h : wpQuietIn F n P ops C (fun a' => ∀ w', C w' → Q .normal a' w') ops.toList a) : (Code.region id ops true).wpIn (F.inRound l) n P Q a w := by
  simp only [Region.lexB, Bool.and_eq_true] at hB
  refine wpIn_region_any hm (wpAnyIn_round hro hnd _ _ _ _ (wpAnyIn_of_quiet (Q := fun a' => ∀ w', C w' → Q .normal a' w') hro (fun _ w' hw' h => h w' hw') _ _ _ _ hC ?_))
  have := wpAnyQIn_lex (F := F) (n := n) (C := C) (md := .any) hB.1 ops.toList 0 (Array.replicate ops.size false) a (by simp) (by simpa using hB.2) h
  simpa using this
/-- The worlds in which something holds. -/
structure KeptBy (S : World → Prop) where
  world : World
  ok : S world
theorem wpIn_region_kept {S : World → Prop} {id l : Nat} {a : Act} {w : World} {os : List Oper} (hS : S w.drew) (hro : F.round = none) (hnd : noDefer os.toArray = true) (hm : P.follows .mixedOrders = true) (hB : Region.lexB .any os.toArray = true)
    (h : wpQuietIn F n P os.toArray (fun w' => ∃ i : KeptBy S, w' = i.world) (fun a' => ∀ w', (∃ i : KeptBy S, w' = i.world) → Q .normal a' w') os a) : (Code.region id os.toArray true).wpIn (F.inRound l) n P Q a w :=
  wpIn_region_quiet_round (C := fun w' => ∃ i : KeptBy S, w' = i.world) hro hnd hm hB ⟨⟨w.drew, hS⟩, rfl⟩ (by simpa using h)
end Go.Proofs.YtigcomhhgfgmgaaDoor
namespace Go.Proofs.YtigcomhhgfgmgaaDoor
open Go.RowKit
variable {P : Program} {Q : Exit → Act → World → Prop}
theorem wp_region_kept {S : World → Prop} {id : Nat} {a : Act} {w : World} {os : List Oper} (hS : S w.drew) (hm : P.follows .mixedOrders = true) (hB : Region.lexB .any os.toArray = true)
    (h : wpQuiet P os.toArray (fun w' => ∃ i : KeptBy S, w' = i.world) (fun a' => ∀ w', (∃ i : KeptBy S, w' = i.world) → Q .normal a' w') os a) : (Code.region id os.toArray true).wp P Q a w :=
  wp_region_quiet (C := fun w' => ∃ i : KeptBy S, w' = i.world) hm hB ⟨⟨w.drew, hS⟩, rfl⟩ (by simpa using h)
end Go.Proofs.YtigcomhhgfgmgaaDoor
namespace Go.Proofs.YtigcomhhgfgmgaaDoor
open Go.RowKit
end Go.Proofs.YtigcomhhgfgmgaaDoor
namespace Go.Proofs.YtigcomhhgfgmgaaDoor
open Go.RowKit
end Go.Proofs.YtigcomhhgfgmgaaDoor
namespace Go.Proofs.YtigcomhhgfgmgaaDoor
open Go.RowKit
theorem IsPairs.markedS {B C B0 C0 : Nat} {w w' : World} {v : Value} {L : List (Int × Int)} (h : IsPairs B0 C0 w v L) (hm : MarkedS B C w w') (hd : C0 ≤ B) : IsPairs B0 C0 w' v L := by
  obtain ⟨a, cap, rfl, hC, hs⟩ := h
  obtain ⟨row, hg, hr⟩ := hm
  refine ⟨a, cap, rfl, Nat.le_trans hC hg.size, ?_⟩
  rcases hs with hs | ⟨g, off, ha, h1, h2, hc, hf⟩
  · exact .inl hs
  · have hne : some g ≠ row := fun e => by have := hr g e.symm; omega
    exact .inr ⟨g, off, ha, h1, h2, fun i p hi => ⟨(hg.cell_far ⟨g, off + i * 2, none⟩ (by show g < w.heap.size; omega) hne).trans (hc i p hi).1, (hg.cell_far ⟨g, off + i * 2 + 1, none⟩ (by show g < w.heap.size; omega) hne).trans (hc i p hi).2⟩, fun i hi => (hg.frozen_far ⟨g, off + i, none⟩ (by show g < w.heap.size; omega) hne).trans (hf i hi)⟩
/-- The marks. -/
def markL (k0 : Int) (n : Nat) : List (Int × Int) := (List.range n).map fun (i : Nat) => (k0 + 2 * (i : Int), k0 + 2 * (i : Int) + 1)
theorem markL_len (k0 : Int) (n : Nat) : (markL k0 n).length = n := by simp [markL]
theorem markL_at {k0 : Int} {n i : Nat} (h : i < n) : (markL k0 n)[i]? = some (k0 + 2 * (i : Int), k0 + 2 * (i : Int) + 1) := by simp [markL, h]
theorem markL_is {k0 : Int} {n i : Nat} {p : Int × Int} (h : (markL k0 n)[i]? = some p) : i < n ∧ p = (k0 + 2 * (i : Int), k0 + 2 * (i : Int) + 1) := by
  have hi : i < n := by
    have := (List.getElem?_eq_some_iff.1 h).1
    rwa [markL_len] at this
  rw [markL_at hi] at h
  exact ⟨hi, (Option.some.inj h).symm⟩
theorem list_at {L : List (Int × Int)} {i : Nat} (h : i < L.length) : ∃ x y, L[i]? = some (x, y) := ⟨L[i].1, L[i].2, by simp [h]⟩
end Go.Proofs.YtigcomhhgfgmgaaDoor
namespace Go.Proofs.YtigcomhhgfgmgaaDoor
open Go.RowKit
theorem info_pair : (Tryd.prog.info? 59).map (fun i => (i.zero, i.size, i.bytes)) = some (some (.agg #[.int .i64 0, .int .i64 0]), 2, 16) := by kernel_rfl
/-- A desk in memory of its own. -/
def DeskOwn (w : World) (d : DeskN) (e : Ending) (w' : World) : Prop :=
  ∃ a c, e = .returned (.agg #[.int .i64 d.now.1, .int .i64 d.now.2, .slice a d.past.length c]) ∧ w'.ownsRow w.heap.size 59 2 (.slice a d.past.length c) d.past.length (pairCells d.past) ∧ Below w.heap.size w w'
end Go.Proofs.YtigcomhhgfgmgaaDoor
namespace Go.Proofs.YtigcomhhgfgmgaaDoor
open Go.RowKit
/-- v is a slice of the pairs of L, wherever they lie. -/
def SeesPairs (w : World) (v : Value) (L : List (Int × Int)) : Prop :=
  ∃ (a : Option Addr) (cap : Nat), v = .slice a L.length cap ∧
    (L = [] ∨ ∃ g off, a = some ⟨g, off, none⟩ ∧ g < w.heap.size ∧ ∀ (i : Nat) (p : Int × Int), L[i]? = some p → w.cell? ⟨g, off + i * 2, none⟩ = some (.int .i64 p.1) ∧ w.cell? ⟨g, off + i * 2 + 1, none⟩ = some (.int .i64 p.2))
theorem SeesPairs.below {w w' : World} {v : Value} {L : List (Int × Int)} (h : SeesPairs w v L) (hb : Below w.heap.size w w') : SeesPairs w' v L := by
  obtain ⟨a, cap, rfl, hs⟩ := h
  refine ⟨a, cap, rfl, ?_⟩
  rcases hs with hs | ⟨g, off, ha, hg, hc⟩
  · exact .inl hs
  · exact .inr ⟨g, off, ha, Nat.lt_of_lt_of_le hg hb.size, fun i p hi => ⟨(hb.cell (p := ⟨g, off + i * 2, none⟩) hg).trans (hc i p hi).1, (hb.cell (p := ⟨g, off + i * 2 + 1, none⟩) hg).trans (hc i p hi).2⟩⟩
theorem run_make_two {P : Program} (t e : TypeId) (i : TypeInfo) (ht : P.underlying t = some (.slice e)) (hi : P.info? e = some i) (hz : i.zero = some (.agg #[.int .i64 0, .int .i64 0])) (hs : i.size = 2) (hb : i.bytes = 16) (n : Nat) (hn : n ≤ 1048600) (w : World) :
    (Instr.makeSlice t (.int .i64 (n : Int)) (.int .i64 (n : Int))).run P w = .ok (.slice (some ⟨w.heap.size, 0, none⟩) n n) (w.alloc (.cells (madeCells #[.int .i64 0, .int .i64 0] (n * 2)) e)) := by
  have hr := run_make (P := P) w t e i _ ht hi hz .i64 .i64 n n (by omega) (by omega) (by rw [hb]; omega) (by omega)
  simp only [Int.toNat_natCast, hs] at hr
  exact hr
theorem made_at (n j : Nat) (h : j < n) : (madeCells #[.int .i64 0, .int .i64 0] n)[j]? = some (.int .i64 0) := by
  have h2 : j % 2 = 0 ∨ j % 2 = 1 := by omega
  rcases h2 with h2 | h2 <;> simp [madeCells, h, h2]
/-- The desk that is made. -/
def DeskMade (w : World) (d : DeskN) (e : Ending) (w' : World) : Prop :=
  ∃ a c, e = .returned (.agg #[.int .i64 d.now.1, .int .i64 d.now.2, .slice a d.past.length c]) ∧ IsPairs w.heap.size w'.heap.size w' (.slice a d.past.length c) d.past ∧ Below w.heap.size w w'
end Go.Proofs.YtigcomhhgfgmgaaDoor
namespace Go.Proofs.YtigcomhhgfgmgaaDoor
open Go.ChangeShapes Go.WideShapes Go.ChangeAt Go.RowKit Go.Joins Go.Deep
theorem list_2 {cs : List Value} (h : cs.length = 2) : ∃ a b, cs = [a, b] := by
  match cs, h with
  | [a, b], _ => exact ⟨a, b, rfl⟩
theorem list_3 {cs : List Value} (h : cs.length = 3) : ∃ a b c, cs = [a, b, c] := by
  match cs, h with
  | [a, b, c], _ => exact ⟨a, b, c, rfl⟩
/-- v is a slice of the deeds of L, wherever they lie. -/
def SeesDeeds (w : World) (v : Value) (L : List DeedN) : Prop :=
  ∃ (a : Option Addr) (cap : Nat), v = .slice a L.length cap ∧
    (L = [] ∨ ∃ g off, a = some ⟨g, off, none⟩ ∧ g < w.heap.size ∧ ∀ (i : Nat) (p : DeedN), L[i]? = some p → w.cell? ⟨g, off + i * 3, none⟩ = some (.int .i64 p.kind) ∧ w.cell? ⟨g, off + i * 3 + 1, none⟩ = some (.int .i64 p.a) ∧ w.cell? ⟨g, off + i * 3 + 2, none⟩ = some (.int .i64 p.b))
theorem SeesDeeds.below {w w' : World} {v : Value} {L : List DeedN} (h : SeesDeeds w v L) (hb : Below w.heap.size w w') : SeesDeeds w' v L := by
  obtain ⟨a, cap, rfl, hs⟩ := h
  refine ⟨a, cap, rfl, ?_⟩
  rcases hs with hs | ⟨g, off, ha, hg, hc⟩
  · exact .inl hs
  · exact .inr ⟨g, off, ha, Nat.lt_of_lt_of_le hg hb.size, fun i p hi => ⟨(hb.cell (p := ⟨g, off + i * 3, none⟩) hg).trans (hc i p hi).1, (hb.cell (p := ⟨g, off + i * 3 + 1, none⟩) hg).trans (hc i p hi).2.1, (hb.cell (p := ⟨g, off + i * 3 + 2, none⟩) hg).trans (hc i p hi).2.2⟩⟩
theorem sees_deeds {H : Type} {enc : TypeId × Value → H} {w : World} {base : Nat} {spare : Nat → Bool} {held : Bool} {fuel : Nat} {cs : List Value} {x : DataW H × List MemPlace} (h : DataW.trod enc Tryd.prog w base spare held fuel 43 cs = some x) :
    ∃ (u : Value) (L : List DeedN), cs = [u] ∧ SeesDeeds w u L ∧ L.length ≤ maxLen := by
  rcases Go.Deep.open_slice Tryd.underlying43 h with ⟨rfl, _⟩ | ⟨a, len, cap, m, n, D, Pl, rfl, _, hl, hm, hmm, _, hi⟩
  · exact ⟨_, [], rfl, ⟨none, 0, rfl, .inl rfl⟩, by simp⟩
  · have hC : Tryd.prog.cellsOf 38 = 3 := by kernel_rfl
    have hI : Tryd.prog.cellsOf 3 = 1 := by kernel_rfl
    rw [hC] at hi
    have key : ∀ i, i < len → ∃ p : DeedN, w.cell? (a.add (i * 3)) = some (.int .i64 p.kind) ∧ w.cell? (a.add (i * 3 + 1)) = some (.int .i64 p.a) ∧ w.cell? (a.add (i * 3 + 2)) = some (.int .i64 p.b) := fun i hil => by
      obtain ⟨cs', hc, ht'⟩ := hi i (by rw [hmm]; split <;> omega)
      obtain ⟨_, hcl, hat⟩ := World.cells?_some hc
      obtain ⟨y0, y1, y2, n', _, _, h0, h1, h2⟩ := trod_struct3 Tryd.underlying38 ht'
      obtain ⟨c0, c1, c2, rfl⟩ := list_3 hcl
      simp [hI] at h0 h1 h2
      obtain ⟨a0, e0, _, _⟩ := DataW.trod_int Tryd.underlying3 h0
      simp at e0
      subst e0
      obtain ⟨a1, e1, _, _⟩ := DataW.trod_int Tryd.underlying3 h1
      simp at e1
      subst e1
      obtain ⟨a2, e2, _, _⟩ := DataW.trod_int Tryd.underlying3 h2
      simp at e2
      subst e2
      have k0 := hat 0 (by omega)
      have k1 := hat 1 (by omega)
      have k2 := hat 2 (by omega)
      simp only [Go.Deep.add_add, List.getElem?_cons_zero, List.getElem?_cons_succ, Nat.add_zero] at k0 k1 k2
      exact ⟨⟨a0, a1, a2⟩, by simpa using k0, by simpa using k1, by simpa using k2⟩
    obtain ⟨f, hf⟩ : ∃ f : Nat → DeedN, ∀ i, i < len → w.cell? (a.add (i * 3)) = some (.int .i64 (f i).kind) ∧ w.cell? (a.add (i * 3 + 1)) = some (.int .i64 (f i).a) ∧ w.cell? (a.add (i * 3 + 2)) = some (.int .i64 (f i).b) :=
      ⟨fun i => if h : i < len then (key i h).choose else ⟨0, 0, 0⟩, fun i h => by simp only [h, dif_pos]; exact (key i h).choose_spec⟩
    refine ⟨_, (List.range len).map f, rfl, ⟨some a, cap, by simp, ?_⟩, by simp; omega⟩
    rcases Nat.eq_zero_or_pos len with rfl | hp
    · exact .inl rfl
    · have h0 := (hf 0 hp).1
      rw [Nat.zero_mul, show a.add 0 = a from rfl] at h0
      have hsp := World.cell?_spot h0
      have hlt := World.block_lt_of_cell? w a h0
      obtain ⟨g, off, sp⟩ := a
      simp at hsp
      subst hsp
      refine .inr ⟨g, off, rfl, hlt, fun i p hi => ?_⟩
      have hil : i < len := by
        have := (List.getElem?_eq_some_iff.1 hi).1
        simpa using this
      have hpf : f i = p := by simpa [hil] using hi
      subst hpf
      have := hf i hil
      simp only [add_row] at this
      exact this
set_option maxRecDepth 100000 in
theorem open_deed {H : Type} {enc : TypeId × Value → H} {w : World} {base : Nat} {spare : Nat → Bool} {held : Bool} {r : Reach} {b0 : Nat} {v : Value} {d : DataW H} {p : List MemPlace} (hv : Value.okWide Tryd.prog w r b0 38 v) (h : DataW.Trod enc Tryd.prog w base spare held 38 v d p) :
    ∃ (k x y : Int), v = .agg #[.int .i64 k, .int .i64 x, .int .i64 y] := by
  obtain ⟨v0, v1, v2, y0, y1, y2, n, rfl, _, _, h0, h1, h2⟩ := open_agg3 Tryd.underlying38 (by kernel_rfl) (by kernel_rfl) hv h
  obtain ⟨a0, e0, _, _⟩ := DataW.trod_int Tryd.underlying3 h0
  obtain ⟨a1, e1, _, _⟩ := DataW.trod_int Tryd.underlying3 h1
  obtain ⟨a2, e2, _, _⟩ := DataW.trod_int Tryd.underlying3 h2
  simp at e0 e1 e2
  subst e0 e1 e2
  exact ⟨_, _, _, rfl⟩
set_option maxRecDepth 100000 in
theorem open_deeds {H : Type} {enc : TypeId × Value → H} {w : World} {base : Nat} {spare : Nat → Bool} {held : Bool} {r : Reach} {b0 : Nat} {v : Value} {d : DataW H} {p : List MemPlace} (hv : Value.okWide Tryd.prog w r b0 43 v) (h : DataW.Trod enc Tryd.prog w base spare held 43 v d p) :
    ∃ (L : List DeedN), SeesDeeds w v L ∧ L.length ≤ maxLen := by
  obtain ⟨a, len, cap, rfl⟩ := okWide_slice Tryd.underlying43 hv
  obtain ⟨fuel, hf⟩ := h
  obtain ⟨u, L, e, hL, hm⟩ := sees_deeds hf
  simp [Value.cells] at e
  subst e
  exact ⟨L, hL, hm⟩
end Go.Proofs.YtigcomhhgfgmgaaDoor
namespace Go.Proofs.YtigcomhhgfgmgaaDoor
open Go.RowKit
theorem IsDeeds.markedS {B C B0 C0 : Nat} {w w' : World} {v : Value} {L : List DeedN} (h : IsDeeds B0 C0 w v L) (hm : MarkedS B C w w') (hd : C0 ≤ B ∨ C ≤ B0) : IsDeeds B0 C0 w' v L := by
  obtain ⟨a, cap, rfl, hC, hs⟩ := h
  obtain ⟨row, hg, hr⟩ := hm
  refine ⟨a, cap, rfl, Nat.le_trans hC hg.size, ?_⟩
  rcases hs with hs | ⟨g, off, ha, h1, h2, hc, hf⟩
  · exact .inl hs
  · have hne : some g ≠ row := fun e => by have := hr g e.symm; omega
    exact .inr ⟨g, off, ha, h1, h2, fun i p hi => ⟨(hg.cell_far ⟨g, off + i * 3, none⟩ (by show g < w.heap.size; omega) hne).trans (hc i p hi).1, (hg.cell_far ⟨g, off + i * 3 + 1, none⟩ (by show g < w.heap.size; omega) hne).trans (hc i p hi).2.1, (hg.cell_far ⟨g, off + i * 3 + 2, none⟩ (by show g < w.heap.size; omega) hne).trans (hc i p hi).2.2⟩, fun i hi => (hg.frozen_far ⟨g, off + i, none⟩ (by show g < w.heap.size; omega) hne).trans (hf i hi)⟩
theorem IsPairs.markedS2 {B C B0 C0 : Nat} {w w' : World} {v : Value} {L : List (Int × Int)} (h : IsPairs B0 C0 w v L) (hm : MarkedS B C w w') (hd : C0 ≤ B ∨ C ≤ B0) : IsPairs B0 C0 w' v L := by
  obtain ⟨a, cap, rfl, hC, hs⟩ := h
  obtain ⟨row, hg, hr⟩ := hm
  refine ⟨a, cap, rfl, Nat.le_trans hC hg.size, ?_⟩
  rcases hs with hs | ⟨g, off, ha, h1, h2, hc, hf⟩
  · exact .inl hs
  · have hne : some g ≠ row := fun e => by have := hr g e.symm; omega
    exact .inr ⟨g, off, ha, h1, h2, fun i p hi => ⟨(hg.cell_far ⟨g, off + i * 2, none⟩ (by show g < w.heap.size; omega) hne).trans (hc i p hi).1, (hg.cell_far ⟨g, off + i * 2 + 1, none⟩ (by show g < w.heap.size; omega) hne).trans (hc i p hi).2⟩, fun i hi => (hg.frozen_far ⟨g, off + i, none⟩ (by show g < w.heap.size; omega) hne).trans (hf i hi)⟩
theorem MarkedS.cell {B C : Nat} {w w' : World} (hm : MarkedS B C w w') {b : Nat} (hb : b < w.heap.size) (hd : b < B ∨ C ≤ b) (o : Nat) : w'.cell? ⟨b, o, none⟩ = w.cell? ⟨b, o, none⟩ := by
  obtain ⟨row, hg, hr⟩ := hm
  exact hg.cell_far ⟨b, o, none⟩ hb (fun e => by have := hr b e.symm; omega)
theorem MarkedS.size {B C : Nat} {w w' : World} (hm : MarkedS B C w w') : w.heap.size ≤ w'.heap.size := by obtain ⟨_, hg, _⟩ := hm; exact hg.size
theorem deed_at {L : List DeedN} {i : Nat} (h : i < L.length) : ∃ x y z, L[i]? = some ⟨x, y, z⟩ := ⟨L[i].kind, L[i].a, L[i].b, by simp [h]⟩
/-- The marks. -/
def markD (k0 : Int) (n : Nat) : List DeedN := (List.range n).map fun (i : Nat) => ⟨k0 + 3 * (i : Int), k0 + 3 * (i : Int) + 1, k0 + 3 * (i : Int) + 1 + 1⟩
theorem markD_len (k0 : Int) (n : Nat) : (markD k0 n).length = n := by simp [markD]
theorem markD_at {k0 : Int} {n i : Nat} (h : i < n) : (markD k0 n)[i]? = some ⟨k0 + 3 * (i : Int), k0 + 3 * (i : Int) + 1, k0 + 3 * (i : Int) + 1 + 1⟩ := by simp [markD, h]
theorem markD_is {k0 : Int} {n i : Nat} {p : DeedN} (h : (markD k0 n)[i]? = some p) : i < n ∧ p = ⟨k0 + 3 * (i : Int), k0 + 3 * (i : Int) + 1, k0 + 3 * (i : Int) + 1 + 1⟩ := by
  have hi : i < n := by
    have := (List.getElem?_eq_some_iff.1 h).1
    rwa [markD_len] at this
  rw [markD_at hi] at h
  exact ⟨hi, (Option.some.inj h).symm⟩
theorem three_far {w : World} {g o b p : Nat} (x y z : Value) (h : ¬ (g = b ∧ (p = o ∨ p = o + 1 ∨ p = o + 2))) : (((w.setCell ⟨g, o, none⟩ x).setCell ⟨g, o + 1, none⟩ y).setCell ⟨g, o + 2, none⟩ z).cell? ⟨b, p, none⟩ = w.cell? ⟨b, p, none⟩ := by
  rw [World.cell?_setCell_other _ _ _ _ (fun e => h (by injection e; omega)), World.cell?_setCell_other _ _ _ _ (fun e => h (by injection e; omega)), World.cell?_setCell_other _ _ _ _ (fun e => h (by injection e; omega))]
theorem three_same {w : World} {g o : Nat} {u v t : Value} (x y z : Value) (c1 : w.cell? ⟨g, o, none⟩ = some u) (c2 : w.cell? ⟨g, o + 1, none⟩ = some v) (c3 : w.cell? ⟨g, o + 2, none⟩ = some t) :
    (((w.setCell ⟨g, o, none⟩ x).setCell ⟨g, o + 1, none⟩ y).setCell ⟨g, o + 2, none⟩ z).cell? ⟨g, o, none⟩ = some x ∧ (((w.setCell ⟨g, o, none⟩ x).setCell ⟨g, o + 1, none⟩ y).setCell ⟨g, o + 2, none⟩ z).cell? ⟨g, o + 1, none⟩ = some y ∧ (((w.setCell ⟨g, o, none⟩ x).setCell ⟨g, o + 1, none⟩ y).setCell ⟨g, o + 2, none⟩ z).cell? ⟨g, o + 2, none⟩ = some z := by
  have d1 : (w.setCell ⟨g, o, none⟩ x).cell? ⟨g, o, none⟩ = some x := World.cell?_setCell_same' _ _ _ (by rw [c1]; rfl)
  have d2 : (w.setCell ⟨g, o, none⟩ x).cell? ⟨g, o + 1, none⟩ = some v := (World.cell?_setCell_other _ _ _ _ (fun e => by injection e; omega)).trans c2
  have d3 : (w.setCell ⟨g, o, none⟩ x).cell? ⟨g, o + 2, none⟩ = some t := (World.cell?_setCell_other _ _ _ _ (fun e => by injection e; omega)).trans c3
  generalize w.setCell ⟨g, o, none⟩ x = w1 at d1 d2 d3 ⊢
  have e1 : (w1.setCell ⟨g, o + 1, none⟩ y).cell? ⟨g, o, none⟩ = some x := (World.cell?_setCell_other _ _ _ _ (fun e => by injection e; omega)).trans d1
  have e2 : (w1.setCell ⟨g, o + 1, none⟩ y).cell? ⟨g, o + 1, none⟩ = some y := World.cell?_setCell_same' _ _ _ (by rw [d2]; rfl)
  have e3 : (w1.setCell ⟨g, o + 1, none⟩ y).cell? ⟨g, o + 2, none⟩ = some t := (World.cell?_setCell_other _ _ _ _ (fun e => by injection e; omega)).trans d3
  generalize w1.setCell ⟨g, o + 1, none⟩ y = w2 at e1 e2 e3 ⊢
  exact ⟨(World.cell?_setCell_other _ _ _ _ (fun e => by injection e; omega)).trans e1, (World.cell?_setCell_other _ _ _ _ (fun e => by injection e; omega)).trans e2, World.cell?_setCell_same' _ _ _ (by rw [e3]; rfl)⟩
theorem eqDeed_any (k a b : Int) (w : World) :
    Calls Tryd.prog 23 #[.agg #[.int .i64 k, .int .i64 a, .int .i64 b], .agg #[.int .i64 k, .int .i64 a, .int .i64 b]] w fun e w' => e = .returned (.bool true) ∧ Below w.heap.size w w' := by
  go_enter Tryd.func23, Tryd.ntmps23
  go_wp2
  go_ret
  exact ⟨rfl, by (repeat (first | exact Below.refl _ _ | refine Below.setCell ?_ (by first | omega | (simp <;> omega)) _ | refine Below.alloc ?_ (by first | omega | (simp <;> omega)) _ | refine Below.drew ?_ | refine Below.trans ?_ (Below.mono (by assumption) (by first | omega | (simp <;> omega))) | refine Below.grown ?_ (by assumption) (by first | omega | (simp <;> omega)) (fun k e => by cases e; first | omega | (simp <;> omega))))⟩
set_option maxHeartbeats 4000000 in
theorem eqDeedS_same (B C B' C' : Nat) (v u : Value) (L : List DeedN) (w : World) (h : IsDeeds B C w v L) (k : IsDeeds B' C' w u L) (hn : L.length ≤ 1048600) :
    Calls Tryd.prog 26 #[v, u] w fun e w' => e = .returned (.bool true) ∧ Below w.heap.size w w' := by
  obtain ⟨a, ca, rfl, hC, hs⟩ := h
  obtain ⟨b, cb, rfl, hC', ks⟩ := k
  go_enter Tryd.func26, Tryd.ntmps26
  go_wp2_with fail
  go_loopw [5] (fun k wr => ∃ i : Nat, i ≤ L.length ∧ k = .int .i64 i ∧ Below w.heap.size w wr) (fun k _ => L.length - (intOf k).toNat)
  case atStart => exact ⟨0, Nat.zero_le _, rfl, Below.refl _ _⟩
  case round =>
    obtain ⟨i, hi, rfl, hB⟩ := hrel
    by_cases hlt : i < L.length
    · rcases hs with rfl | ⟨g, off, rfl, h1, h2, hc, hf⟩
      · simp at hlt
      rcases ks with rfl | ⟨g', off', rfl, h1', h2', hc', hf'⟩
      · simp at hlt
      obtain ⟨x, y, z, hp⟩ := deed_at hlt
      have c1 : wr.cell? ⟨g, off + i * 3, none⟩ = some (.int .i64 x) := (hB.cell (p := ⟨g, off + i * 3, none⟩) (by show g < _; omega)).trans (hc i _ hp).1
      have c2 : wr.cell? ⟨g, off + i * 3 + 1, none⟩ = some (.int .i64 y) := (hB.cell (p := ⟨g, off + i * 3 + 1, none⟩) (by show g < _; omega)).trans (hc i _ hp).2.1
      have c3 : wr.cell? ⟨g, off + i * 3 + 2, none⟩ = some (.int .i64 z) := (hB.cell (p := ⟨g, off + i * 3 + 2, none⟩) (by show g < _; omega)).trans (hc i _ hp).2.2
      have c4 : wr.cell? ⟨g', off' + i * 3, none⟩ = some (.int .i64 x) := (hB.cell (p := ⟨g', off' + i * 3, none⟩) (by show g' < _; omega)).trans (hc' i _ hp).1
      have c5 : wr.cell? ⟨g', off' + i * 3 + 1, none⟩ = some (.int .i64 y) := (hB.cell (p := ⟨g', off' + i * 3 + 1, none⟩) (by show g' < _; omega)).trans (hc' i _ hp).2.1
      have c6 : wr.cell? ⟨g', off' + i * 3 + 2, none⟩ = some (.int .i64 z) := (hB.cell (p := ⟨g', off' + i * 3 + 2, none⟩) (by show g' < _; omega)).trans (hc' i _ hp).2.2
      have hii : (i : Int) < (L.length : Int) := by omega
      have i0 : (0 : Int) ≤ (i : Int) := by omega
      have HB := Lib.hid hB
      have hbz := hB.size
      clear hc hc' hf hf' hB hp
      obtain ⟨S, hSd⟩ : ∃ S : World → Prop, (fun V => Below wr.heap.size wr V) = S := ⟨_, rfl⟩
      have hkeep : ∀ V V' : World, S V → Below V.heap.size V V' → S V' := by rw [← hSd]; exact fun V V' h hb => h.trans (hb.mono h.size)
      have gk1 : ∀ iq : KeptBy S, iq.world.cell? ⟨g, off + i * 3, none⟩ = some (.int .i64 x) := by rw [← hSd]; exact fun iq => cell_belowP iq.ok c1
      have gk2 : ∀ iq : KeptBy S, iq.world.cell? ⟨g, off + i * 3 + 1, none⟩ = some (.int .i64 y) := by rw [← hSd]; exact fun iq => cell_belowP iq.ok c2
      have gk3 : ∀ iq : KeptBy S, iq.world.cell? ⟨g, off + i * 3 + 2, none⟩ = some (.int .i64 z) := by rw [← hSd]; exact fun iq => cell_belowP iq.ok c3
      have gk4 : ∀ iq : KeptBy S, iq.world.cell? ⟨g', off' + i * 3, none⟩ = some (.int .i64 x) := by rw [← hSd]; exact fun iq => cell_belowP iq.ok c4
      have gk5 : ∀ iq : KeptBy S, iq.world.cell? ⟨g', off' + i * 3 + 1, none⟩ = some (.int .i64 y) := by rw [← hSd]; exact fun iq => cell_belowP iq.ok c5
      have gk6 : ∀ iq : KeptBy S, iq.world.cell? ⟨g', off' + i * 3 + 2, none⟩ = some (.int .i64 z) := by rw [← hSd]; exact fun iq => cell_belowP iq.ok c6
      have gkn : Nonempty (KeptBy S) := ⟨⟨wr.drew, by rw [← hSd]; exact (Below.refl _ _).drew⟩⟩
      go_wp2_with fail
      refine wp_region_kept (S := S) (by rw [← hSd]; exact (Below.refl _ _).drew) (by kernel_rfl) (by kernel_rfl) ?_
      repeat (go_big_quiet_step ((first | (go_at_call 23; refine (eqDeed_any x y z _).mono ?_; rintro e w' ⟨rfl, hhw⟩; exact ⟨rfl, ⟨w', hkeep _ _ (KeptBy.ok _) hhw⟩, rfl⟩) | fail)))
      refine wpQuiet_nil ?_
      rintro z3 ⟨iz, hwz⟩
      have bz3 : Below wr.heap.size wr z3 := by
        have this : S z3 := by rw [hwz]; exact iz.ok
        rw [← hSd] at this
        exact this
      clear hwz iz gkn hkeep hSd gk1 gk2 gk3 gk4 gk5 gk6
      have HBz := Lib.hid (HB.out.trans (bz3.mono hbz))
      clear bz3
      go_wp2
      go_roundw
      case rel => exact ⟨i + 1, by omega, congrArg (Value.int .i64) (by omega), HBz.out⟩
      case measure => simp [intOf]; omega
    · obtain rfl : i = L.length := by omega
      clear hs ks
      go_wp2
      go_ret
      exact ⟨rfl, hB⟩
set_option maxHeartbeats 4000000 in
theorem markDeedS_any (B C : Nat) (v : Value) (L : List DeedN) (k0 : Int) (w : World) (h : IsDeeds B C w v L) (hn : L.length ≤ 1048600) (hk : 0 ≤ k0) (hk1 : k0 ≤ 100000000) :
    Calls Tryd.prog 28 #[v, .int .i64 k0] w fun e w' => e = .returned (.int .i64 (k0 + 3 * (L.length : Int))) ∧ IsDeeds B C w' v (markD k0 L.length) ∧ MarkedS B C w w' := by
  obtain ⟨a, ca, rfl, hC, hs⟩ := h
  rcases hs with rfl | ⟨g, off, rfl, h1, h2, hc, hf⟩
  · go_enter Tryd.func28, Tryd.ntmps28
    go_wp2_with fail
    go_loop [1, 5] (fun x y => x = .int .i64 k0 ∧ y = .int .i64 0) (fun _ _ => 0)
    case atStart => exact ⟨rfl, rfl⟩
    case round =>
      obtain ⟨rfl, rfl⟩ := hrel
      go_wp2
      go_ret
      exact ⟨by simp, ⟨a, ca, rfl, hC, .inl rfl⟩, none, World.grownBy.refl _ _, fun k e => by cases e⟩
  · have hc2 : ∀ j, j < L.length → ∃ x y z : Int, w.cell? ⟨g, off + j * 3, none⟩ = some (.int .i64 x) ∧ w.cell? ⟨g, off + j * 3 + 1, none⟩ = some (.int .i64 y) ∧ w.cell? ⟨g, off + j * 3 + 2, none⟩ = some (.int .i64 z) := fun j hj => by
      obtain ⟨x, y, z, hp⟩ := deed_at hj
      exact ⟨x, y, z, hc j _ hp⟩
    obtain ⟨n, hnl⟩ : ∃ n, L.length = n := ⟨_, rfl⟩
    rw [hnl] at hn hf hc2 h2 ⊢
    clear hc hnl
    go_enter Tryd.func28, Tryd.ntmps28
    go_wp2_with fail
    go_loopw [1, 5] (fun x y wr => ∃ i : Nat, i ≤ n ∧ x = .int .i64 (k0 + 3 * (i : Int)) ∧ y = .int .i64 i ∧ (∀ j, j < i → wr.cell? ⟨g, off + j * 3, none⟩ = some (.int .i64 (k0 + 3 * (j : Int))) ∧ wr.cell? ⟨g, off + j * 3 + 1, none⟩ = some (.int .i64 (k0 + 3 * (j : Int) + 1)) ∧ wr.cell? ⟨g, off + j * 3 + 2, none⟩ = some (.int .i64 (k0 + 3 * (j : Int) + 1 + 1))) ∧ (∀ j, i ≤ j → j < n → ∃ x y z : Int, wr.cell? ⟨g, off + j * 3, none⟩ = some (.int .i64 x) ∧ wr.cell? ⟨g, off + j * 3 + 1, none⟩ = some (.int .i64 y) ∧ wr.cell? ⟨g, off + j * 3 + 2, none⟩ = some (.int .i64 z)) ∧ (∀ j, j < 3 * n → wr.frozen? ⟨g, off + j, none⟩ = false) ∧ wr.heap.size = w.heap.size ∧ w.grownBy wr (some g)) (fun _ y _ => n - (intOf y).toNat)
    case atStart => exact ⟨0, Nat.zero_le _, by simp, rfl, fun j hj => absurd hj (by omega), fun j _ hj => hc2 j hj, hf, rfl, World.grownBy.refl _ _⟩
    case round =>
      obtain ⟨i, hi, rfl, rfl, hm, hr, hfr, hsz, hg⟩ := hrel
      by_cases hlt : i < n
      · obtain ⟨x, y, z, c1, c2, c3⟩ := hr i (Nat.le_refl _) hlt
        have f1 : wr.frozen? ⟨g, off + i * 3, none⟩ = false := hfr (i * 3) (by omega)
        have f2 : wr.frozen? ⟨g, off + i * 3 + 1, none⟩ = false := hfr (i * 3 + 1) (by omega)
        have f3 : wr.frozen? ⟨g, off + i * 3 + 2, none⟩ = false := hfr (i * 3 + 2) (by omega)
        have hii : (i : Int) < (n : Int) := by omega
        have i0 : (0 : Int) ≤ (i : Int) := by omega
        have HM := Lib.hid hm
        have HR := Lib.hid hr
        have HF := Lib.hid hfr
        have HS := Lib.hid hsz
        have HG := Lib.hid hg
        clear hm hr hfr hc2 hf hsz hg
        go_wp2
        go_roundw
        case rel =>
          refine ⟨i + 1, by omega, congrArg (Value.int .i64) (by omega), congrArg (Value.int .i64) (by omega), fun j hj => ?_, fun j hij hj => ?_, fun j hj => ?_, ?_, grown_set (grown_set (grown_set HG.out _ _) _ _) _ _⟩
          · by_cases e : j = i
            · subst e
              exact three_same _ _ _ c1 c2 c3
            · obtain ⟨m1, m2, m3⟩ := HM.out j (by omega)
              exact ⟨(three_far _ _ _ (by omega)).trans m1, (three_far _ _ _ (by omega)).trans m2, (three_far _ _ _ (by omega)).trans m3⟩
          · obtain ⟨x', y', z', m1, m2, m3⟩ := HR.out j (by omega) hj
            exact ⟨x', y', z', (three_far _ _ _ (by omega)).trans m1, (three_far _ _ _ (by omega)).trans m2, (three_far _ _ _ (by omega)).trans m3⟩
          · rw [World.frozen?_setCell, World.frozen?_setCell, World.frozen?_setCell]; exact HF.out j hj
          · rw [← HS.out]; simp [World.setCell]
        case measure => simp [intOf]; omega
      · obtain rfl : i = n := by omega
        have HM := Lib.hid hm
        have HF := Lib.hid hfr
        have HS := Lib.hid hsz
        have HG := Lib.hid hg
        clear hm hr hfr hc2 hf hsz hg
        go_wp2
        go_ret
        refine ⟨rfl, ⟨_, ca, by rw [markD_len], by rw [HS.out]; exact hC, .inr ⟨g, off, rfl, h1, ⟨h2.1, by rw [markD_len]; exact h2.2⟩, fun j p hj => ?_, by rw [markD_len]; exact HF.out⟩⟩, some g, HG.out, fun k e => by cases e; exact ⟨h1, h2.1⟩⟩
        obtain ⟨hj', rfl⟩ := markD_is hj
        exact HM.out j hj'
end Go.Proofs.YtigcomhhgfgmgaaDoor
namespace Go.Proofs.YtigcomhhgfgmgaaDoor
open Go.RowKit
theorem info_deed : (Tryd.prog.info? 24).map (fun i => (i.zero, i.size, i.bytes)) = some (some (.agg #[.int .i64 0, .int .i64 0, .int .i64 0]), 3, 24) := by kernel_rfl
theorem info_parts3 {P : Program} {t : TypeId} {z : Option Value} {s b : Nat} (h : (P.info? t).map (fun i => (i.zero, i.size, i.bytes)) = some (z, s, b)) : ∃ i, P.info? t = some i ∧ i.zero = z ∧ i.size = s ∧ i.bytes = b := by
  cases hi : P.info? t with
  | none => rw [hi] at h; cases h
  | some i => rw [hi] at h; simp at h; exact ⟨i, rfl, h⟩
theorem run_make_three {P : Program} (t e : TypeId) (i : TypeInfo) (ht : P.underlying t = some (.slice e)) (hi : P.info? e = some i) (hz : i.zero = some (.agg #[.int .i64 0, .int .i64 0, .int .i64 0])) (hs : i.size = 3) (hb : i.bytes = 24) (n : Nat) (hn : n ≤ 1048600) (w : World) :
    (Instr.makeSlice t (.int .i64 (n : Int)) (.int .i64 (n : Int))).run P w = .ok (.slice (some ⟨w.heap.size, 0, none⟩) n n) (w.alloc (.cells (madeCells #[.int .i64 0, .int .i64 0, .int .i64 0] (n * 3)) e)) := by
  have hr := run_make (P := P) w t e i _ ht hi hz .i64 .i64 n n (by omega) (by omega) (by rw [hb]; omega) (by omega)
  simp only [Int.toNat_natCast, hs] at hr
  exact hr
theorem made_at3 (n j : Nat) (h : j < n) : (madeCells #[.int .i64 0, .int .i64 0, .int .i64 0] n)[j]? = some (.int .i64 0) := by
  have h2 : j % 3 = 0 ∨ j % 3 = 1 ∨ j % 3 = 2 := by omega
  rcases h2 with h2 | h2 | h2 <;> simp [madeCells, h, h2]
set_option maxHeartbeats 400000 in
theorem toDeed_any (k p q : Int) (w : World) :
    Calls Tryd.prog 22 #[.agg #[.int .i64 k, .int .i64 p, .int .i64 q]] w fun e w' => e = .returned (.agg #[.int .i64 k, .int .i64 p, .int .i64 q]) ∧ Below w.heap.size w w' := by
  go_enter Tryd.func22, Tryd.ntmps22
  go_wp2
  refine bodyPost_ret (v := .agg #[.int .i64 k, .int .i64 p, .int .i64 q]) (by simp [results, Tryd.results22, go_sem]) rfl ⟨rfl, ?_⟩
  (repeat (first | exact Below.refl _ _ | refine Below.setCell ?_ (by first | omega | (simp <;> omega)) _ | refine Below.alloc ?_ (by first | omega | (simp <;> omega)) _ | refine Below.drew ?_ | refine Below.trans ?_ (Below.mono (by assumption) (by first | omega | (simp <;> omega))) | refine Below.grown ?_ (by assumption) (by first | omega | (simp <;> omega)) (fun k e => by cases e; first | omega | (simp <;> omega))))
set_option maxHeartbeats 4000000 in
theorem toDeedS_any (L : List DeedN) (v : Value) (w : World) (h : SeesDeeds w v L) (hn : L.length ≤ 1048600) :
    Calls Tryd.prog 25 #[v] w fun e w' => ∃ u, e = .returned u ∧ IsDeeds w.heap.size w'.heap.size w' u L ∧ Below w.heap.size w w' := by
  obtain ⟨a, cap, rfl, hs⟩ := h
  obtain ⟨i0, hi0, hz0, hzs1, hz2⟩ := info_parts3 info_deed
  have hmk := fun W => run_make_three (P := Tryd.prog) 32 24 i0 Tryd.underlying32 hi0 hz0 hzs1 hz2 L.length hn W
  go_enter Tryd.func25, Tryd.ntmps25
  go_wp2_with fail
  go_loopw [4] (fun y wr => ∃ i : Nat, i ≤ L.length ∧ y = .int .i64 i ∧ (∀ (j : Nat) (p : DeedN), j < i → L[j]? = some p → wr.cell? ⟨w.heap.size, j * 3, none⟩ = some (.int .i64 p.kind) ∧ wr.cell? ⟨w.heap.size, j * 3 + 1, none⟩ = some (.int .i64 p.a) ∧ wr.cell? ⟨w.heap.size, j * 3 + 2, none⟩ = some (.int .i64 p.b)) ∧ (∀ j, i * 3 ≤ j → j < L.length * 3 → wr.cell? ⟨w.heap.size, j, none⟩ = some (.int .i64 0)) ∧ (∀ j, wr.frozen? ⟨w.heap.size, j, none⟩ = false) ∧ w.heap.size < wr.heap.size ∧ Below w.heap.size w wr) (fun y _ => L.length - (intOf y).toNat)
  case atStart => exact ⟨0, Nat.zero_le _, rfl, fun j p hj => absurd hj (by omega), fun j _ hj => (World.cell?_alloc_mark _ _ _ _ _).trans (made_at3 _ _ hj), fun j => by (unfold World.frozen?; rw [heap_alloc_new]; simp), by simp, (Below.refl _ _).alloc (Nat.le_refl _) _⟩
  case round =>
    obtain ⟨i, hi, rfl, hm, hr, hfr, hsz, hB⟩ := hrel
    by_cases hlt : i < L.length
    · rcases hs with rfl | ⟨g, off, rfl, hg, hc⟩
      · simp at hlt
      obtain ⟨x, y, z, hp⟩ := deed_at hlt
      have c1 : wr.cell? ⟨g, off + i * 3, none⟩ = some (.int .i64 x) := (hB.cell (p := ⟨g, off + i * 3, none⟩) hg).trans (hc i _ hp).1
      have c2 : wr.cell? ⟨g, off + i * 3 + 1, none⟩ = some (.int .i64 y) := (hB.cell (p := ⟨g, off + i * 3 + 1, none⟩) hg).trans (hc i _ hp).2.1
      have c3 : wr.cell? ⟨g, off + i * 3 + 2, none⟩ = some (.int .i64 z) := (hB.cell (p := ⟨g, off + i * 3 + 2, none⟩) hg).trans (hc i _ hp).2.2
      have d1 := hr (i * 3) (by omega) (by omega)
      have f1 := hfr (i * 3)
      have d2 := hr (i * 3 + 1) (by omega) (by omega)
      have f2 := hfr (i * 3 + 1)
      have d3 := hr (i * 3 + 2) (by omega) (by omega)
      have f3 := hfr (i * 3 + 2)
      have hii : (i : Int) < (L.length : Int) := by omega
      have i0 : (0 : Int) ≤ (i : Int) := by omega
      have HM := Lib.hid hm
      have HR := Lib.hid hr
      have HF := Lib.hid hfr
      have HB := Lib.hid hB
      have HP := Lib.hid hp
      clear hm hr hfr hc hB hmk hp
      go_wp2_with fail
      refine (toDeed_any x y z _).mono ?_
      rintro e w1 ⟨rfl, hb1⟩
      have hz1 := hb1.size
      have e1 : w1.cell? ⟨w.heap.size, i * 3, none⟩ = some (.int .i64 0) := cell_belowP hb1 d1
      have k1 : w1.frozen? ⟨w.heap.size, i * 3, none⟩ = false := (hb1.frozen (p := ⟨w.heap.size, i * 3, none⟩) hsz).trans f1
      have e2 : w1.cell? ⟨w.heap.size, i * 3 + 1, none⟩ = some (.int .i64 0) := cell_belowP hb1 d2
      have k2 : w1.frozen? ⟨w.heap.size, i * 3 + 1, none⟩ = false := (hb1.frozen (p := ⟨w.heap.size, i * 3 + 1, none⟩) hsz).trans f2
      have e3 : w1.cell? ⟨w.heap.size, i * 3 + 2, none⟩ = some (.int .i64 0) := cell_belowP hb1 d3
      have k3 : w1.frozen? ⟨w.heap.size, i * 3 + 2, none⟩ = false := (hb1.frozen (p := ⟨w.heap.size, i * 3 + 2, none⟩) hsz).trans f3
      have HB1 := Lib.hid hb1
      clear hb1 c1 c2 c3 d1 d2 d3 f1 f2 f3
      go_wp2
      go_roundw
      case rel =>
        refine ⟨i + 1, by omega, congrArg (Value.int .i64) (by omega), fun j p hj hjp => ?_, fun j hj1 hj2 => ?_, fun j => ?_, by simp [World.setCell]; omega, (((HB.out.trans (HB1.out.mono (by omega))).setCell (by simp) _).setCell (by simp) _).setCell (by simp) _⟩
        · by_cases e : j = i
          · subst e
            rw [HP.out] at hjp
            cases hjp
            exact three_same _ _ _ e1 e2 e3
          · obtain ⟨m1, m2, m3⟩ := HM.out j p (by omega) hjp
            exact ⟨(three_far _ _ _ (by omega)).trans (cell_belowP HB1.out m1), (three_far _ _ _ (by omega)).trans (cell_belowP HB1.out m2), (three_far _ _ _ (by omega)).trans (cell_belowP HB1.out m3)⟩
        · exact (three_far _ _ _ (by omega)).trans (cell_belowP HB1.out (HR.out j (by omega) hj2))
        · rw [World.frozen?_setCell, World.frozen?_setCell, World.frozen?_setCell]; exact (HB1.out.frozen (p := ⟨w.heap.size, j, none⟩) hsz).trans (HF.out j)
      case measure => simp [intOf]; omega
    · obtain rfl : i = L.length := by omega
      have HM := Lib.hid hm
      have HF := Lib.hid hfr
      clear hm hr hfr hs hmk
      go_wp2
      go_ret
      exact ⟨_, rfl, ⟨_, L.length, rfl, Nat.le_refl _, .inr ⟨w.heap.size, 0, rfl, Nat.le_refl _, ⟨hsz, Nat.le_refl _⟩, fun j p hj => by rw [Nat.zero_add]; exact HM.out j p (List.getElem?_eq_some_iff.1 hj).1 hj, fun j _ => by rw [Nat.zero_add]; exact HF.out j⟩⟩, hB⟩
end Go.Proofs.YtigcomhhgfgmgaaDoor
namespace Go.Proofs.YtigcomhhgfgmgaaDoor
open Go.RowKit
theorem words_short (s : List UInt8) : ∀ w, ∀ x ∈ wordsN w s, x.length ≤ w.length + s.length := by
  induction s with
  | nil => intro w x hx; simp [wordsN] at hx; subst hx; simp
  | cons c cs ih =>
    intro w x hx
    unfold wordsN at hx
    split at hx
    · rcases List.mem_cons.1 hx with rfl | hx
      · simp
      · have := ih [] x hx; simp at this ⊢; omega
    · have := ih (w ++ [c]) x hx; simp at this ⊢; omega
theorem word_size (s : List UInt8) (i : Nat) : ((wordsN [] s).getD i []).length ≤ s.length := by
  rcases Nat.lt_or_ge i (wordsN [] s).length with h | h
  · have := words_short s [] ((wordsN [] s).getD i []) (by rw [List.getD_eq_getElem?_getD, List.getElem?_eq_getElem h]; exact List.getElem_mem h)
    simpa using this
  · simp [List.getD_eq_getElem?_getD, List.getElem?_eq_none h]
theorem deeds_row (w : World) (B : Nat) (t : TypeId) (hB : B ≤ w.heap.size) : (w.alloc (.cells #[.int .i64 1, .int .i64 0, .int .i64 0, .int .i64 2, .int .i64 0, .int .i64 0, .int .i64 3, .int .i64 0, .int .i64 0, .int .i64 4, .int .i64 0, .int .i64 0] t)).ownsRow B t 3 (.slice (some ⟨w.heap.size, 0, none⟩) 4 4) 4 (deedCells [⟨1, 0, 0⟩, ⟨2, 0, 0⟩, ⟨3, 0, 0⟩, ⟨4, 0, 0⟩]) :=
  ⟨by simp [deedCells], .inr ⟨w.heap.size, 4, _, rfl, hB, heap_alloc_new w _, Nat.le_refl _, by unfold maxLen; omega, rfl, rfl⟩⟩
theorem cands_no {s : List UInt8} (h : ¬ (wordsN [] s).length = 3) : candsS s = [⟨1, 0, 0⟩, ⟨2, 0, 0⟩, ⟨3, 0, 0⟩, ⟨4, 0, 0⟩] := by unfold candsS; rw [if_neg h]; rfl
theorem cands_yes {s : List UInt8} (h : (wordsN [] s).length = 3) : candsS s = [⟨1, 0, 0⟩, ⟨2, 0, 0⟩, ⟨3, 0, 0⟩, ⟨4, 0, 0⟩] ++ [⟨0, (digZ ((wordsN [] s).getD 1 [])).1, (digZ ((wordsN [] s).getD 2 [])).1⟩] := by unfold candsS; rw [if_pos h]
theorem digits_txt (t : List UInt8) (w : World) (ht : t.length ≤ 2097152) : Calls Tryd.prog 45 #[.string (txt t)] w fun e w' => e = .returned (.tuple #[.int .i64 (digZ t).1, .bool (digZ t).2]) ∧ Below w.heap.size w w' := digits_any (txt t) w (by rw [txt_size]; exact ht)
set_option maxRecDepth 100000 in
set_option maxHeartbeats 4000000 in
theorem specDeedRead_any (s : ByteArray) (w : World) (hs : s.size ≤ 2097152) : Calls Tryd.prog 16 #[.string s] w fun e w' => e = .returned (.tuple #[.agg #[.int .i64 (deedV s.data.toList).1.kind, .int .i64 (deedV s.data.toList).1.a, .int .i64 (deedV s.data.toList).1.b], .bool (deedV s.data.toList).2]) ∧ Below w.heap.size w w' := by
  obtain ⟨i0, hi0, hz0, hzs1, hz2⟩ := info_parts3 info_deed
  have hsl : s.data.toList.length = s.size := bl_size s
  have hcut := fun W => cut_any s W hs
  have hseq := fun t : ByteArray => bl_eq t s
  have hsem : s.toList.isEmpty = s.data.toList.isEmpty := by rw [bl_toList]
  obtain ⟨l, hl⟩ : ∃ l, s.data.toList = l := ⟨_, rfl⟩
  rw [hl] at hsl hseq hsem hcut ⊢
  have HCUT := Lib.hid hcut
  have HSEQ := Lib.hid hseq
  clear hcut hl hseq
  obtain ⟨n, hn⟩ : ∃ n, (wordsN [] l).length = n := ⟨_, rfl⟩
  have HN := Lib.hid hn
  go_enter Tryd.func16, Tryd.ntmps16
  go_wp2_with fail
  refine (HCUT.out _).mono ?_
  rintro e w1 ⟨g, c1, rfl, ⟨hg1, hg2⟩, hcell, hb1⟩
  rw [hn] at hcell ⊢
  obtain ⟨hc1, hf1⟩ := bcell hb1
  have hz1 := hb1.size
  simp at hz1 hg1
  have hw1 : w.heap.size < w1.heap.size := by omega
  have r0 : w1.cell? ⟨w.heap.size, 0, none⟩ = some (.int .i64 0) := by go_simp
  have fr0 : w1.frozen? ⟨w.heap.size, 0, none⟩ = false := by go_simp
  have r1 : w1.cell? ⟨w.heap.size, 1, none⟩ = some (.int .i64 0) := by go_simp
  have fr1 : w1.frozen? ⟨w.heap.size, 1, none⟩ = false := by go_simp
  have r2 : w1.cell? ⟨w.heap.size, 2, none⟩ = some (.int .i64 0) := by go_simp
  have fr2 : w1.frozen? ⟨w.heap.size, 2, none⟩ = false := by go_simp
  have hB1 : Below w.heap.size w w1 := by (repeat (first | exact Below.refl _ _ | refine Below.setCell ?_ (by first | omega | (simp <;> omega)) _ | refine Below.alloc ?_ (by first | omega | (simp <;> omega)) _ | refine Below.drew ?_ | refine Below.trans ?_ (Below.mono (by assumption) (by first | omega | (simp <;> omega))) | refine Below.grown ?_ (by assumption) (by first | omega | (simp <;> omega)) (fun k e => by cases e; first | omega | (simp <;> omega))))
  have HC := Lib.hid hcell
  clear hc1 hf1 hb1 hn hcell
  go_upto_if 20 with fail
  go_cut [5] from 6 (fun s5 wx => ∃ (a : Option Addr) (c : Nat), s5 = .slice a (candsS l).length c ∧ IsDeeds (w.heap.size + 1) wx.heap.size wx (.slice a (candsS l).length c) (candsS l) ∧ (wx.cell? ⟨w.heap.size, 0, none⟩ = some (.int .i64 0) ∧ wx.cell? ⟨w.heap.size, 1, none⟩ = some (.int .i64 0) ∧ wx.cell? ⟨w.heap.size, 2, none⟩ = some (.int .i64 0) ∧ wx.frozen? ⟨w.heap.size, 0, none⟩ = false ∧ wx.frozen? ⟨w.heap.size, 1, none⟩ = false ∧ wx.frozen? ⟨w.heap.size, 2, none⟩ = false) ∧ w.heap.size < wx.heap.size ∧ Below w.heap.size w wx)
  case first =>
    by_cases h3 : n = 3
    · subst h3
      have hq1 := HC.out 1 (by decide)
      have hq2 := HC.out 2 (by decide)
      have hl1 := word_size l 1
      have hl2 := word_size l 2
      have HCY := Lib.hid (cands_yes HN.out)
      obtain ⟨t1, ht1⟩ : ∃ t1, (wordsN [] l).getD 1 [] = t1 := ⟨_, rfl⟩
      obtain ⟨t2, ht2⟩ : ∃ t2, (wordsN [] l).getD 2 [] = t2 := ⟨_, rfl⟩
      rw [ht1] at hq1 hl1 HCY
      rw [ht2] at hq2 hl2 HCY
      have HO := Lib.hid (deeds_row w1 (w.heap.size + 1) 24 (by omega))
      have hgw : g < w1.heap.size := hg2
      clear ht1 ht2
      go_wp2_with fail
      refine (digits_txt t1 _ (by omega)).mono ?_
      rintro e w2 ⟨rfl, hb2⟩
      obtain ⟨hc2, hf2⟩ := bcell hb2
      have hz2' := hb2.size
      simp at hz2'
      have hq2' : w2.cell? ⟨g, 2, none⟩ = some (.string (txt t2)) := by go_simp
      have hw2 : w.heap.size < w2.heap.size := by omega
      have s0 : w2.cell? ⟨w.heap.size, 0, none⟩ = some (.int .i64 0) := by go_simp
      have fs0 : w2.frozen? ⟨w.heap.size, 0, none⟩ = false := by go_simp
      have s1 : w2.cell? ⟨w.heap.size, 1, none⟩ = some (.int .i64 0) := by go_simp
      have fs1 : w2.frozen? ⟨w.heap.size, 1, none⟩ = false := by go_simp
      have s2 : w2.cell? ⟨w.heap.size, 2, none⟩ = some (.int .i64 0) := by go_simp
      have fs2 : w2.frozen? ⟨w.heap.size, 2, none⟩ = false := by go_simp
      have HO2 := Lib.hid (own_keeps HO.out hb2)
      have hB2 : Below w.heap.size w w2 := by (repeat (first | exact Below.refl _ _ | refine Below.setCell ?_ (by first | omega | (simp <;> omega)) _ | refine Below.alloc ?_ (by first | omega | (simp <;> omega)) _ | refine Below.drew ?_ | refine Below.trans ?_ (Below.mono (by assumption) (by first | omega | (simp <;> omega))) | refine Below.grown ?_ (by assumption) (by first | omega | (simp <;> omega)) (fun k e => by cases e; first | omega | (simp <;> omega))))
      have hg2w : g < w2.heap.size := by omega
      have hw12 : w1.heap.size < w2.heap.size := by omega
      clear hc2 hf2 hb2 hq1 hq2 r0 r1 r2 fr0 fr1 fr2 HO
      go_wp2_with fail
      refine (digits_txt t2 _ (by omega)).mono ?_
      rintro e w3 ⟨rfl, hb3⟩
      obtain ⟨hc3, hf3⟩ := bcell hb3
      have hz3 := hb3.size
      have hw3 : w.heap.size < w3.heap.size := by omega
      have u0 : w3.cell? ⟨w.heap.size, 0, none⟩ = some (.int .i64 0) := by go_simp
      have fu0 : w3.frozen? ⟨w.heap.size, 0, none⟩ = false := by go_simp
      have u1 : w3.cell? ⟨w.heap.size, 1, none⟩ = some (.int .i64 0) := by go_simp
      have fu1 : w3.frozen? ⟨w.heap.size, 1, none⟩ = false := by go_simp
      have u2 : w3.cell? ⟨w.heap.size, 2, none⟩ = some (.int .i64 0) := by go_simp
      have fu2 : w3.frozen? ⟨w.heap.size, 2, none⟩ = false := by go_simp
      have HO3 := Lib.hid (own_keeps HO2.out hb3)
      have hB3 : Below w.heap.size w w3 := by (repeat (first | exact Below.refl _ _ | refine Below.setCell ?_ (by first | omega | (simp <;> omega)) _ | refine Below.alloc ?_ (by first | omega | (simp <;> omega)) _ | refine Below.drew ?_ | refine Below.trans ?_ (Below.mono (by assumption) (by first | omega | (simp <;> omega))) | refine Below.grown ?_ (by assumption) (by first | omega | (simp <;> omega)) (fun k e => by cases e; first | omega | (simp <;> omega))))
      have hlk := HO3.out.lt
      clear hc3 hf3 hb3 hq2' s0 s1 s2 fs0 fs1 fs2 HO2
      go_wp2_with (at_builtin; refine wpList_append_deeds _ rfl _ _ 32 rfl (w.heap.size + 1) 24 i0 _ 24 Tryd.underlying32 hi0 hz0 hzs1 hz2 rfl (.slice (some ⟨w1.heap.size, 0, none⟩) 4 4) 4 (deedCells ([⟨1, 0, 0⟩, ⟨2, 0, 0⟩, ⟨3, 0, 0⟩, ⟨4, 0, 0⟩] : List DeedN)) rfl (HO3.out.alloc _) w3.heap.size (w3.heap.size + 1) _ [⟨0, (digZ t1).1, (digZ t2).1⟩] rfl (IsDeeds.new _ 0 _ _ _ _ rfl) 5 rfl (deedCells (([⟨1, 0, 0⟩, ⟨2, 0, 0⟩, ⟨3, 0, 0⟩, ⟨4, 0, 0⟩] : List DeedN) ++ [⟨0, (digZ t1).1, (digZ t2).1⟩])) (deedCells_append _ _) (by unfold maxLen; omega) (by omega) (by simp; omega) ?_)
      intro a7 c7 w7 hown7 hgrow7 hat7
      have hb7 : Below (w.heap.size + 1) (w3.alloc (.cells #[.int .i64 0, .int .i64 (digZ t1).1, .int .i64 (digZ t2).1] 24)) w7 := (Below.refl _ _).grown hgrow7 (by simp; omega) (fun g e => (hlk g e).1)
      have hz7 := hb7.size
      simp at hz7
      have hw7 : w.heap.size < w7.heap.size := by omega
      have hw71 : w.heap.size < w.heap.size + 1 := by omega
      have v0 : w7.cell? ⟨w.heap.size, 0, none⟩ = some (.int .i64 0) := (hb7.cell (p := ⟨w.heap.size, 0, none⟩) (by show w.heap.size < _; omega)).trans (cell_alloc_is _ u0)
      have fv0 : w7.frozen? ⟨w.heap.size, 0, none⟩ = false := (hb7.frozen (p := ⟨w.heap.size, 0, none⟩) (by show w.heap.size < _; omega)).trans ((frozen?_alloc_cells _ _ _ _).trans fu0)
      have v1 : w7.cell? ⟨w.heap.size, 1, none⟩ = some (.int .i64 0) := (hb7.cell (p := ⟨w.heap.size, 1, none⟩) (by show w.heap.size < _; omega)).trans (cell_alloc_is _ u1)
      have fv1 : w7.frozen? ⟨w.heap.size, 1, none⟩ = false := (hb7.frozen (p := ⟨w.heap.size, 1, none⟩) (by show w.heap.size < _; omega)).trans ((frozen?_alloc_cells _ _ _ _).trans fu1)
      have v2 : w7.cell? ⟨w.heap.size, 2, none⟩ = some (.int .i64 0) := (hb7.cell (p := ⟨w.heap.size, 2, none⟩) (by show w.heap.size < _; omega)).trans (cell_alloc_is _ u2)
      have fv2 : w7.frozen? ⟨w.heap.size, 2, none⟩ = false := (hb7.frozen (p := ⟨w.heap.size, 2, none⟩) (by show w.heap.size < _; omega)).trans ((frozen?_alloc_cells _ _ _ _).trans fu2)
      have hI7 : IsDeeds (w.heap.size + 1) w7.heap.size w7 (.slice a7 5 c7) (candsS l) := by rw [HCY.out]; exact IsDeeds.of_owns hown7
      have hln : (candsS l).length = 5 := by rw [HCY.out]; rfl
      have hB7 : Below w.heap.size w w7 := (hB3.alloc (by omega) _).trans (hb7.mono (by omega))
      have HI7 := Lib.hid hI7
      have HLN := Lib.hid hln
      clear hb7 hgrow7 hat7 hown7 hI7 hln
      go_wp2_with fail
      go_meet
      case rel => exact ⟨a7, c7, by rw [HLN.out], by rw [HLN.out]; exact HI7.out, ⟨v0, v1, v2, fv0, fv1, fv2⟩, hw7, hB7⟩
    · have h3' : ¬ ((n : Int) = 3) := by omega
      have HCN := Lib.hid (cands_no (s := l) (by rw [HN.out]; exact h3))
      have HO := Lib.hid (deeds_row w1 (w.heap.size + 1) 24 (by omega))
      have hI := IsDeeds.of_owns HO.out
      rw [← HCN.out] at hI
      have hln : (candsS l).length = 4 := by rw [HCN.out]; rfl
      have HI := Lib.hid hI
      have HLN := Lib.hid hln
      clear hI hln h3
      go_wp2_with fail
      go_meet
      case rel =>
        refine ⟨_, _, by rw [HLN.out], by rw [HLN.out]; exact HI.out, ⟨by go_simp, by go_simp, by go_simp, by go_simp, by go_simp, by go_simp⟩, by simp; omega, hB1.alloc (by omega) _⟩
  obtain ⟨a5, c5, rfl, hI, ⟨r0', r1', r2', fr0', fr1', fr2'⟩, hwx, hBx⟩ := hcut
  rename World => w5
  clear r0 r1 r2 fr0 fr1 fr2 hB1 HC
  obtain ⟨N, hN⟩ : ∃ N, (candsS l).length = N := ⟨_, rfl⟩
  have HNL := Lib.hid hN
  have hN5 : N ≤ 5 := by rw [← hN]; unfold candsS; split <;> simp
  rw [hN] at hI ⊢
  obtain ⟨_, _, he5, hC5, hs5⟩ := hI
  obtain ⟨rfl, rfl⟩ : a5 = _ ∧ c5 = _ := by injection he5 with h1 h2 h3; exact ⟨h1, h3⟩
  rcases hs5 with hs5 | ⟨g5, o5, rfl, hg5, hg5', hcl5, _⟩
  · rw [hs5] at hN; simp at hN; unfold candsS at hs5; simp at hs5
  · have HC5 := Lib.hid hcl5
    clear he5 hcl5 hN
    go_wp2_with fail
    go_loopw [10] (fun x wr => ∃ i : Nat, i ≤ N ∧ x = .int .i64 i ∧ (∀ j y, j < i → (candsS l)[j]? = some y → ¬ (l ≠ [] ∧ deedT y = l)) ∧ Below w5.heap.size w5 wr) (fun x _ => 6 - (intOf x).toNat)
    case atStart => exact ⟨0, Nat.zero_le _, rfl, fun j y hj => absurd hj (by omega), Below.refl _ _⟩
    case round =>
      obtain ⟨i, hi, rfl, hmiss, hB⟩ := hrel
      have HM := Lib.hid hmiss
      clear hmiss
      obtain ⟨hcB, hfB⟩ := bcell hB
      have q0 : wr.cell? ⟨w.heap.size, 0, none⟩ = some (.int .i64 0) := (hB.cell (p := ⟨w.heap.size, 0, none⟩) (by show w.heap.size < _; omega)).trans r0'
      have fq0 : wr.frozen? ⟨w.heap.size, 0, none⟩ = false := (hB.frozen (p := ⟨w.heap.size, 0, none⟩) (by show w.heap.size < _; omega)).trans fr0'
      have q1 : wr.cell? ⟨w.heap.size, 1, none⟩ = some (.int .i64 0) := (hB.cell (p := ⟨w.heap.size, 1, none⟩) (by show w.heap.size < _; omega)).trans r1'
      have fq1 : wr.frozen? ⟨w.heap.size, 1, none⟩ = false := (hB.frozen (p := ⟨w.heap.size, 1, none⟩) (by show w.heap.size < _; omega)).trans fr1'
      have q2 : wr.cell? ⟨w.heap.size, 2, none⟩ = some (.int .i64 0) := (hB.cell (p := ⟨w.heap.size, 2, none⟩) (by show w.heap.size < _; omega)).trans r2'
      have fq2 : wr.frozen? ⟨w.heap.size, 2, none⟩ = false := (hB.frozen (p := ⟨w.heap.size, 2, none⟩) (by show w.heap.size < _; omega)).trans fr2'
      have hzB := hB.size
      have hwr : w.heap.size < wr.heap.size := by omega
      by_cases hlt : i < N
      · have hil : (i : Int) < (N : Int) := by omega
        have hi00 : (0 : Int) ≤ (i : Int) := by omega
        have Wi : IntKind.i64.wrap ((i : Int) + 1) = (i : Int) + 1 := by rw [IntKind.wrap_i64]; omega
        obtain ⟨x, y, z, hp⟩ : ∃ x y z, (candsS l)[i]? = some ⟨x, y, z⟩ := ⟨_, _, _, List.getElem?_eq_getElem (by rw [HNL.out]; exact hlt)⟩
        have k0 : wr.cell? ⟨g5, o5 + i * 3, none⟩ = some (.int .i64 x) := (hB.cell (p := ⟨g5, o5 + i * 3, none⟩) (by show g5 < _; omega)).trans (HC5.out i _ hp).1
        have k1 : wr.cell? ⟨g5, o5 + i * 3 + 1, none⟩ = some (.int .i64 y) := (hB.cell (p := ⟨g5, o5 + i * 3 + 1, none⟩) (by show g5 < _; omega)).trans (HC5.out i _ hp).2.1
        have k2 : wr.cell? ⟨g5, o5 + i * 3 + 2, none⟩ = some (.int .i64 z) := (hB.cell (p := ⟨g5, o5 + i * 3 + 2, none⟩) (by show g5 < _; omega)).trans (HC5.out i _ hp).2.2
        have hg5w : g5 < wr.heap.size := by omega
        have HP := Lib.hid hp
        have HB := Lib.hid hB
        have hmore : ¬ (l ≠ [] ∧ deedT ⟨x, y, z⟩ = l) → ∀ j u, j < i + 1 → (candsS l)[j]? = some u → ¬ (l ≠ [] ∧ deedT u = l) := fun hno j u hj hu => by
          rcases Nat.lt_or_ge j i with h | h
          · exact HM.out j u h hu
          · have e : j = i := by omega
            rw [e, HP.out] at hu
            cases hu
            exact hno
        have HMORE := Lib.hid hmore
        clear hp hB hcB hfB hmore
        by_cases hle : l = []
        · have hse : s.toList.isEmpty = true := by rw [hsem, hle]; rfl
          have HX := Lib.hid (HMORE.out (fun e => e.1 hle))
          clear hle hsem
          go_wp2
          go_roundw
          case rel => exact ⟨i + 1, by omega, congrArg (Value.int .i64) (by omega), HX.out, HB.out⟩
          case measure => simp [intOf]; omega
        · have hse : s.toList.isEmpty = false := by
            rw [hsem]
            cases l with
            | nil => exact absurd rfl hle
            | cons _ _ => rfl
          have hq := HSEQ.out (txt (deedT ⟨x, y, z⟩))
          rw [txt_list] at hq
          by_cases hd : deedT ⟨x, y, z⟩ = l
          · have hq' : ((txt (deedT ⟨x, y, z⟩)).toList == s.toList) = true := by rw [hq, hd]; simp
            have HV := Lib.hid (cands_hit hle hd)
            clear hq hd hle hsem
            obtain ⟨Tx, hTx⟩ : ∃ Tx, txt (deedT ⟨x, y, z⟩) = Tx := ⟨_, rfl⟩
            have hdt := fun W => specText_any x y z W
            rw [hTx] at hq' hdt
            have HDT := Lib.hid hdt
            clear hTx hdt
            go_wp2_with fail
            refine (HDT.out _).mono ?_
            rintro e w6 ⟨rfl, hb6⟩
            obtain ⟨hc6, hf6⟩ := bcell hb6
            go_wp2
            refine bodyPost_ret (v := .tuple #[.agg #[.int .i64 x, .int .i64 y, .int .i64 z], .bool true]) (by simp [results, Tryd.results16, go_sem]; go_simp) rfl ⟨by rw [HV.out], ?_⟩
            exact (((hBx.trans (HB.out.mono (by omega))).trans (hb6.mono (by omega))).setCell (p := ⟨w.heap.size, 0, none⟩) (Nat.le_refl _) _ |>.setCell (p := ⟨w.heap.size, 1, none⟩) (Nat.le_refl _) _).setCell (p := ⟨w.heap.size, 2, none⟩) (Nat.le_refl _) _
          · have hq' : ((txt (deedT ⟨x, y, z⟩)).toList == s.toList) = false := by rw [hq]; exact beq_eq_false_iff_ne.2 hd
            have HX := Lib.hid (HMORE.out (fun e => hd e.2))
            clear hq hd hle hsem
            obtain ⟨Tx, hTx⟩ : ∃ Tx, txt (deedT ⟨x, y, z⟩) = Tx := ⟨_, rfl⟩
            have hdt := fun W => specText_any x y z W
            rw [hTx] at hq' hdt
            have HDT := Lib.hid hdt
            clear hTx hdt
            go_wp2_with fail
            refine (HDT.out _).mono ?_
            rintro e w6 ⟨rfl, hb6⟩
            go_wp2
            go_roundw
            case rel => exact ⟨i + 1, by omega, congrArg (Value.int .i64) (by omega), HX.out, HB.out.trans (hb6.mono (by omega))⟩
            case measure => simp [intOf]; omega
      · obtain rfl : i = N := by omega
        have HV := Lib.hid (cands_miss (s := l) (fun y hy => by
          obtain ⟨j, hj, e⟩ := List.mem_iff_getElem.1 hy
          exact HM.out j y (by rw [← HNL.out]; exact hj) (by rw [List.getElem?_eq_getElem hj, e])))
        have HB := Lib.hid hB
        clear hB
        go_wp2
        refine bodyPost_ret (v := .tuple #[.agg #[.int .i64 0, .int .i64 0, .int .i64 0], .bool false]) (by simp [results, Tryd.results16, go_sem]; go_simp) rfl ⟨by rw [HV.out], ?_⟩
        exact (((hBx.trans (HB.out.mono (by omega))).setCell (p := ⟨w.heap.size, 0, none⟩) (Nat.le_refl _) _).setCell (p := ⟨w.heap.size, 1, none⟩) (Nat.le_refl _) _).setCell (p := ⟨w.heap.size, 2, none⟩) (Nat.le_refl _) _
end Go.Proofs.YtigcomhhgfgmgaaDoor
namespace Go.Proofs.YtigcomhhgfgmgaaDoor
open Go.RowKit
theorem deedWords_ex (w : World) : Calls Tryd.prog 32 #[] w fun e w' => ∃ g, e = .returned (.slice (some ⟨g, 0, none⟩) 5 5) ∧ (w.heap.size ≤ g ∧ g < w'.heap.size) ∧ (w'.cell? ⟨g, 0, none⟩ = some (.string ⟨#[116, 97, 107, 101]⟩) ∧ w'.cell? ⟨g, 1, none⟩ = some (.string ⟨#[116, 117, 114, 110]⟩) ∧ w'.cell? ⟨g, 2, none⟩ = some (.string ⟨#[117, 112]⟩) ∧ w'.cell? ⟨g, 3, none⟩ = some (.string ⟨#[100, 111, 119, 110]⟩) ∧ w'.cell? ⟨g, 4, none⟩ = some (.string ⟨#[98, 97, 99, 107]⟩)) ∧ Below w.heap.size w w' := by
  refine (deedWords_at w).mono ?_
  rintro e w' ⟨rfl, rfl⟩
  exact ⟨_, rfl, ⟨Nat.le_refl _, by simp⟩, ⟨World.cell?_alloc_mark _ _ _ _ _, World.cell?_alloc_mark _ _ _ _ _, World.cell?_alloc_mark _ _ _ _ _, World.cell?_alloc_mark _ _ _ _ _, World.cell?_alloc_mark _ _ _ _ _⟩, (Below.refl _ _).alloc (Nat.le_refl _) _⟩
theorem words_five {w : World} {g : Nat} (h0 : w.cell? ⟨g, 0, none⟩ = some (.string ⟨#[116, 97, 107, 101]⟩)) (h1 : w.cell? ⟨g, 1, none⟩ = some (.string ⟨#[116, 117, 114, 110]⟩)) (h2 : w.cell? ⟨g, 2, none⟩ = some (.string ⟨#[117, 112]⟩)) (h3 : w.cell? ⟨g, 3, none⟩ = some (.string ⟨#[100, 111, 119, 110]⟩)) (h4 : w.cell? ⟨g, 4, none⟩ = some (.string ⟨#[98, 97, 99, 107]⟩)) : ∀ j, j < 5 → w.cell? ⟨g, j, none⟩ = some (.string (deedWs.getD j ByteArray.empty)) := by
  intro j hj
  rcases (show j = 0 ∨ j = 1 ∨ j = 2 ∨ j = 3 ∨ j = 4 by omega) with rfl | rfl | rfl | rfl | rfl
  · exact h0
  · exact h1
  · exact h2
  · exact h3
  · exact h4
theorem kind_low (x : ByteArray) : -1 ≤ Lib.idxOfS deedWs x ∧ Lib.idxOfS deedWs x ≤ 4 := by
  have h : ∀ (L : List ByteArray) (i : Nat), -1 ≤ Lib.idxFromS L x i ∧ Lib.idxFromS L x i ≤ (i + L.length : Nat) - 1 ∨ Lib.idxFromS L x i = -1 := by
    intro L
    induction L with
    | nil => intro i; exact .inr rfl
    | cons z L ih =>
      intro i
      unfold Lib.idxFromS
      split
      · left; simp; omega
      · have := ih (i + 1); simp only [List.length_cons]; omega
  have := h deedWs 0
  have e : deedWs.length = 5 := rfl
  unfold Lib.idxOfS
  omega
/-- Whatever is held against the text: its text is it, or no deed is told. -/
theorem readOf_cand {s : ByteArray} {c : DeedN} (hc : candI s = c) : deedV s.data.toList = if deedT c ≠ [] ∧ deedT c = s.data.toList then (c, true) else (⟨0, 0, 0⟩, false) := by
  rw [deedV_cand, hc]
theorem extract_size (s : ByteArray) (a b : Nat) : (s.extract a b).size ≤ s.size := by simp [ByteArray.size_extract]; omega
theorem piece_sizes (s : ByteArray) : ∀ (k : Nat) (x : ByteArray), x.size ≤ s.size → ∀ y ∈ Lib.splitB (txt [32]) 0 k x, y.size ≤ s.size := by
  intro k
  induction k with
  | zero => intro x hx y hy; simp [Lib.splitB] at hy; subst hy; exact hx
  | succ k ih =>
    intro x hx y hy
    unfold Lib.splitB at hy
    split at hy
    · simp at hy; subst hy; exact hx
    · rcases List.mem_cons.1 hy with rfl | hy
      · exact Nat.le_trans (extract_size _ _ _) hx
      · exact ih _ (Nat.le_trans (extract_size _ _ _) hx) y hy
theorem piece_size (s : ByteArray) (n i : Nat) : ((piecesB n s).getD i ByteArray.empty).size ≤ s.size := by
  rcases Nat.lt_or_ge i (piecesB n s).length with h | h
  · have := piece_sizes s _ s (Nat.le_refl _) ((piecesB n s).getD i ByteArray.empty) (by rw [List.getD_eq_getElem?_getD, List.getElem?_eq_getElem h]; exact List.getElem_mem h)
    exact this
  · rw [List.getD_eq_getElem?_getD, List.getElem?_eq_none h]; exact Nat.zero_le _
set_option maxRecDepth 100000 in
set_option maxHeartbeats 4000000 in
theorem implDeedRead_any (s : ByteArray) (w : World) (hs : s.size ≤ 2097152) (ht : PowTab w) (he : Errs w) : Calls Tryd.prog 14 #[.string s] w fun e w' => e = .returned (.tuple #[.agg #[.int .i64 (deedV s.data.toList).1.kind, .int .i64 (deedV s.data.toList).1.a, .int .i64 (deedV s.data.toList).1.b], .bool (deedV s.data.toList).2]) ∧ Below w.heap.size w w' := by
  have HT := Lib.hid ht
  have HE := Lib.hid he
  have hsem : s.toList.isEmpty = s.data.toList.isEmpty := by rw [bl_toList]
  have HSEQ := Lib.hid (fun t : ByteArray => bl_eq t s)
  obtain ⟨hpl1, hpl2⟩ := pieces_len 3 s (by decide)
  have hps := fun i => piece_size s 3 i
  have hsp := fun W => splitN_at s 3 W hs (by decide) (by decide)
  have hcd : ∀ c, candI s = c → _ := fun c hc => readOf_cand hc
  obtain ⟨L, hL⟩ : ∃ L, piecesB 3 s = L := ⟨_, rfl⟩
  have HCI := Lib.hid (show candI s = if Lib.idxOfS deedWs (L.getD 0 ByteArray.empty) = 0 ∧ L.length = 3 then ⟨0, atoiV (L.getD 1 ByteArray.empty).data.toList, atoiV (L.getD 2 ByteArray.empty).data.toList⟩ else ⟨Lib.idxOfS deedWs (L.getD 0 ByteArray.empty), 0, 0⟩ by rw [candI, hL])
  rw [hL] at hpl1 hpl2 hps hsp
  obtain ⟨n, hn⟩ : ∃ n, L.length = n := ⟨_, rfl⟩
  obtain ⟨p0, hp0⟩ : ∃ p0, L.getD 0 ByteArray.empty = p0 := ⟨_, rfl⟩
  obtain ⟨p1, hp1⟩ : ∃ p1, L.getD 1 ByteArray.empty = p1 := ⟨_, rfl⟩
  obtain ⟨p2, hp2⟩ : ∃ p2, L.getD 2 ByteArray.empty = p2 := ⟨_, rfl⟩
  have hps1 := hps 1
  have hps2 := hps 2
  rw [hp1] at hps1
  rw [hp2] at hps2
  rw [hn] at hpl1 hpl2
  rw [hp0, hp1, hp2, hn] at HCI
  obtain ⟨kl, kh⟩ := kind_low p0
  obtain ⟨kd, hkd⟩ : ∃ kd, Lib.idxOfS deedWs p0 = kd := ⟨_, rfl⟩
  rw [hkd] at HCI kl kh
  have HKD := Lib.hid hkd
  have HSP := Lib.hid hsp
  have HCD := Lib.hid hcd
  clear hsp hcd hps hkd ht he hL
  go_enter Tryd.func14, Tryd.ntmps14
  go_wp2_with fail
  refine (HSP.out _).mono ?_
  rintro e w1 ⟨c1, rfl, ⟨hc1', hw1'⟩, hcell, hb1⟩
  rw [hn] at hcell hc1' ⊢
  obtain ⟨hc1, hf1⟩ := bcell hb1
  have r0 : w1.cell? ⟨w.heap.size, 0, none⟩ = some (.int .i64 0) := by go_simp
  have fr0 : w1.frozen? ⟨w.heap.size, 0, none⟩ = false := by go_simp
  have r1 : w1.cell? ⟨w.heap.size, 1, none⟩ = some (.int .i64 0) := by go_simp
  have fr1 : w1.frozen? ⟨w.heap.size, 1, none⟩ = false := by go_simp
  have r2 : w1.cell? ⟨w.heap.size, 2, none⟩ = some (.int .i64 0) := by go_simp
  have fr2 : w1.frozen? ⟨w.heap.size, 2, none⟩ = false := by go_simp
  simp only [World.size_alloc] at hcell hw1' hb1 ⊢
  have q0 : w1.cell? ⟨w.heap.size + 1, 0, none⟩ = some (.string p0) := by rw [← hp0]; exact hcell 0 (by omega)
  have q1 : 1 < n → w1.cell? ⟨w.heap.size + 1, 1, none⟩ = some (.string p1) := fun h => by rw [← hp1]; exact hcell 1 h
  have q2 : 2 < n → w1.cell? ⟨w.heap.size + 1, 2, none⟩ = some (.string p2) := fun h => by rw [← hp2]; exact hcell 2 h
  obtain ⟨pb, hpb⟩ : ∃ pb, w.heap.size + 1 = pb := ⟨_, rfl⟩
  rw [hpb] at q0 q1 q2 hw1' hb1 ⊢
  have hws : w.heap.size < w1.heap.size := by omega
  have hB1 : Below w.heap.size w w1 := ((Below.refl _ _).alloc (Nat.le_refl _) _).trans (hb1.mono (by omega))
  have HT1 := Lib.hid (HT.out.below hB1 (Nat.le_refl _))
  have HE1 := Lib.hid (HE.out.below hB1 (Nat.le_refl _))
  have hn0 : 0 < n := by omega
  have hn0' : (0 : Int) < (n : Int) := by omega
  have hnc : n ≤ 3 := by omega
  have HB1 := Lib.hid hB1
  have HQ1 := Lib.hid q1
  have HQ2 := Lib.hid q2
  clear hc1 hf1 hcell hb1 hp0 hp1 hp2 hn q1 q2 hB1 hpl1 hpl2 HT HE
  go_wp2_with fail
  go_cut [5] from 9 (fun s5 wx => ∃ b, s5 = .pointer (some ⟨b, 0, none⟩) ∧ (w1.heap.size ≤ b ∧ b < wx.heap.size) ∧ (wx.cell? ⟨b, 0, none⟩ = some (.int .i64 kd) ∧ wx.cell? ⟨b, 1, none⟩ = some (.int .i64 0) ∧ wx.cell? ⟨b, 2, none⟩ = some (.int .i64 0)) ∧ (wx.frozen? ⟨b, 0, none⟩ = false ∧ wx.frozen? ⟨b, 1, none⟩ = false ∧ wx.frozen? ⟨b, 2, none⟩ = false) ∧ Below w1.heap.size w1 wx)
  case first =>
    go_region_held3 (fun W_ => W_.cell? ⟨pb, 0, none⟩ = some (.string p0))
      ((go_split_ands; (repeat (first | with_reducible assumption | with_reducible refine cell_alloc_is _ ?_ | with_reducible refine cell_drew_is ?_ | with_reducible refine cell_set_is ?_ ?_ | omega)); done))
      ((first | (go_at_call 32; refine (deedWords_ex _).mono ?_; rintro e w_2 ⟨g2, rfl, ⟨hg2a, hg2b⟩, ⟨m0, m1, m2, m3, m4⟩, hb_2⟩; obtain ⟨hc_2, hf_2⟩ := bcell hb_2; have hz_2 := hb_2.size; (try simp at hz_2); (try simp at hg2a); (have hq_2 : w1.heap.size < w_2.heap.size := by omega); have kx0 := (hb_2.cell (p := ⟨pb, 0, none⟩) (by first | omega | (simp <;> omega))).trans (show _ = some (.string p0) by (repeat (first | with_reducible assumption | with_reducible refine cell_alloc_is _ ?_ | with_reducible refine cell_drew_is ?_ | with_reducible refine cell_set_is ?_ ?_ | omega)))) | (go_at_call 40; refine (kindOf_at g2 p0 _ (words_five (by (repeat (first | with_reducible assumption | with_reducible refine cell_alloc_is _ ?_ | with_reducible refine cell_drew_is ?_ | with_reducible refine cell_set_is ?_ ?_ | omega))) (by (repeat (first | with_reducible assumption | with_reducible refine cell_alloc_is _ ?_ | with_reducible refine cell_drew_is ?_ | with_reducible refine cell_set_is ?_ ?_ | omega))) (by (repeat (first | with_reducible assumption | with_reducible refine cell_alloc_is _ ?_ | with_reducible refine cell_drew_is ?_ | with_reducible refine cell_set_is ?_ ?_ | omega))) (by (repeat (first | with_reducible assumption | with_reducible refine cell_alloc_is _ ?_ | with_reducible refine cell_drew_is ?_ | with_reducible refine cell_set_is ?_ ?_ | omega))) (by (repeat (first | with_reducible assumption | with_reducible refine cell_alloc_is _ ?_ | with_reducible refine cell_drew_is ?_ | with_reducible refine cell_set_is ?_ ?_ | omega))))).mono ?_; rintro e w_4 ⟨rfl, hw_4⟩; subst hw_4) | fail))
    all_goals (go_wp2_with fail; go_meet)
    all_goals
      case rel =>
        rw [HKD.out]
        refine ⟨_, rfl, ⟨?_, ?_⟩, ⟨?_, ?_, ?_⟩, ⟨?_, ?_, ?_⟩, ?_⟩
        · first | omega | (simp <;> omega)
        · first | omega | (simp <;> omega)
        · go_simp
        · go_simp
        · go_simp
        · go_simp
        · go_simp
        · go_simp
        · (repeat (first | exact Below.refl _ _ | refine Below.setCell ?_ (by first | omega | (simp <;> omega)) _ | refine Below.alloc ?_ (by first | omega | (simp <;> omega)) _ | refine Below.drew ?_ | refine Below.trans ?_ (Below.mono (by assumption) (by first | omega | (simp <;> omega)))))
  obtain ⟨b, rfl, ⟨hb0, hb0'⟩, ⟨d0, d1, d2⟩, ⟨e0, e1, e2⟩, hB5⟩ := hcut
  rename World => w5
  have HB5 := Lib.hid hB5
  have hz5 := hB5.size
  have t0 : w5.cell? ⟨w.heap.size, 0, none⟩ = some (.int .i64 0) := (hB5.cell (p := ⟨w.heap.size, 0, none⟩) (by show w.heap.size < _; omega)).trans r0
  have ft0 : w5.frozen? ⟨w.heap.size, 0, none⟩ = false := (hB5.frozen (p := ⟨w.heap.size, 0, none⟩) (by show w.heap.size < _; omega)).trans fr0
  have t1 : w5.cell? ⟨w.heap.size, 1, none⟩ = some (.int .i64 0) := (hB5.cell (p := ⟨w.heap.size, 1, none⟩) (by show w.heap.size < _; omega)).trans r1
  have ft1 : w5.frozen? ⟨w.heap.size, 1, none⟩ = false := (hB5.frozen (p := ⟨w.heap.size, 1, none⟩) (by show w.heap.size < _; omega)).trans fr1
  have t2 : w5.cell? ⟨w.heap.size, 2, none⟩ = some (.int .i64 0) := (hB5.cell (p := ⟨w.heap.size, 2, none⟩) (by show w.heap.size < _; omega)).trans r2
  have ft2 : w5.frozen? ⟨w.heap.size, 2, none⟩ = false := (hB5.frozen (p := ⟨w.heap.size, 2, none⟩) (by show w.heap.size < _; omega)).trans fr2
  have hQ1 : 1 < n → w5.cell? ⟨pb, 1, none⟩ = some (.string p1) := fun h => (hB5.cell (p := ⟨pb, 1, none⟩) (by show pb < _; omega)).trans (HQ1.out h)
  have hQ2 : 2 < n → w5.cell? ⟨pb, 2, none⟩ = some (.string p2) := fun h => (hB5.cell (p := ⟨pb, 2, none⟩) (by show pb < _; omega)).trans (HQ2.out h)
  have HQ1' := Lib.hid hQ1
  have HQ2' := Lib.hid hQ2
  clear hB5 HQ1 HQ2 hQ1 hQ2 r0 r1 r2 fr0 fr1 fr2 q0
  have hB5r : Below w1.heap.size w1 w5 := HB5.out
  by_cases hyes : kd = 0 ∧ n = 3
  · obtain ⟨rfl, rfl⟩ := hyes
    rw [if_pos ⟨rfl, rfl⟩] at HCI
    have q1 := HQ1'.out (by decide)
    have q2 := HQ2'.out (by decide)
    go_wp2_with fail
    refine (atoi_any p1 (by omega) _ (HE1.out.below HB5.out (Nat.le_refl _))).mono ?_
    rintro e w6 ⟨x1, rfl, _, hb6⟩
    obtain ⟨hc6, hf6⟩ := bcell hb6
    have hz6 := hb6.size
    have k0 : w6.cell? ⟨b, 0, none⟩ = some (.int .i64 0) := by go_simp
    have k1 : w6.cell? ⟨b, 1, none⟩ = some (.int .i64 0) := by go_simp
    have k2 : w6.cell? ⟨b, 2, none⟩ = some (.int .i64 0) := by go_simp
    have g0 : w6.frozen? ⟨b, 0, none⟩ = false := by go_simp
    have g1 : w6.frozen? ⟨b, 1, none⟩ = false := by go_simp
    have g2 : w6.frozen? ⟨b, 2, none⟩ = false := by go_simp
    have hpb5 : pb < w5.heap.size := by omega
    have q2' : w6.cell? ⟨pb, 2, none⟩ = some (.string p2) := by go_simp
    have hw5 : w.heap.size < w5.heap.size := by omega
    have u0 : w6.cell? ⟨w.heap.size, 0, none⟩ = some (.int .i64 0) := by go_simp
    have fu0 : w6.frozen? ⟨w.heap.size, 0, none⟩ = false := by go_simp
    have u1 : w6.cell? ⟨w.heap.size, 1, none⟩ = some (.int .i64 0) := by go_simp
    have fu1 : w6.frozen? ⟨w.heap.size, 1, none⟩ = false := by go_simp
    have u2 : w6.cell? ⟨w.heap.size, 2, none⟩ = some (.int .i64 0) := by go_simp
    have fu2 : w6.frozen? ⟨w.heap.size, 2, none⟩ = false := by go_simp
    have HB6 := Lib.hid (HB5.out.trans (hb6.mono (by omega)))
    have hpb6 : ¬ pb = b := by omega
    have hpb6' : ¬ b = pb := by omega
    have hbw : ¬ b = w.heap.size := by omega
    have hbw' : ¬ w.heap.size = b := by omega
    have hb6b : b < w6.heap.size := by omega
    clear hc6 hf6 hb6 d0 d1 d2 e0 e1 e2 q1 q2 t0 t1 t2 ft0 ft1 ft2
    go_wp2_with fail
    refine calls_namedD ?_
    intro w7 hw7
    have hB7 : Below w1.heap.size w1 w7 := by rw [hw7]; exact HB6.out.setCell (p := ⟨b, 1, none⟩) hb0 _
    have hz7 : w7.heap.size = w6.heap.size := by rw [hw7]; simp [World.setCell]
    have m0 : w7.cell? ⟨b, 0, none⟩ = some (.int .i64 0) := by rw [hw7]; go_simp
    have m1 : w7.cell? ⟨b, 1, none⟩ = some (.int .i64 (atoiV p1.data.toList)) := by rw [hw7]; go_simp
    have m2 : w7.cell? ⟨b, 2, none⟩ = some (.int .i64 0) := by rw [hw7]; go_simp
    have o0 : w7.frozen? ⟨b, 0, none⟩ = false := by rw [hw7]; go_simp
    have o1 : w7.frozen? ⟨b, 1, none⟩ = false := by rw [hw7]; go_simp
    have o2 : w7.frozen? ⟨b, 2, none⟩ = false := by rw [hw7]; go_simp
    have v0 : w7.cell? ⟨w.heap.size, 0, none⟩ = some (.int .i64 0) := by rw [hw7]; go_simp
    have fv0 : w7.frozen? ⟨w.heap.size, 0, none⟩ = false := by rw [hw7]; go_simp
    have v1 : w7.cell? ⟨w.heap.size, 1, none⟩ = some (.int .i64 0) := by rw [hw7]; go_simp
    have fv1 : w7.frozen? ⟨w.heap.size, 1, none⟩ = false := by rw [hw7]; go_simp
    have v2 : w7.cell? ⟨w.heap.size, 2, none⟩ = some (.int .i64 0) := by rw [hw7]; go_simp
    have fv2 : w7.frozen? ⟨w.heap.size, 2, none⟩ = false := by rw [hw7]; go_simp
    have HB7 := Lib.hid hB7
    have hb7b : b < w7.heap.size := by omega
    have hw7w : w.heap.size < w7.heap.size := by omega
    have hz17 : w1.heap.size ≤ w7.heap.size := HB7.out.size
    clear hz7
    clear hw7 hB7 k0 k1 k2 g0 g1 g2 u0 u1 u2 fu0 fu1 fu2 q2'
    refine (atoi_any p2 (by omega) _ (HE1.out.below HB7.out (Nat.le_refl _))).mono ?_
    rintro e w8 ⟨x2, rfl, _, hb8⟩
    obtain ⟨hc8, hf8⟩ := bcell hb8
    have hz8 := hb8.size
    have k0 : w8.cell? ⟨b, 0, none⟩ = some (.int .i64 0) := by go_simp
    have k1 : w8.cell? ⟨b, 1, none⟩ = some (.int .i64 (atoiV p1.data.toList)) := by go_simp
    have k2 : w8.cell? ⟨b, 2, none⟩ = some (.int .i64 0) := by go_simp
    have g0 : w8.frozen? ⟨b, 0, none⟩ = false := by go_simp
    have g1 : w8.frozen? ⟨b, 1, none⟩ = false := by go_simp
    have g2 : w8.frozen? ⟨b, 2, none⟩ = false := by go_simp
    have y0 : w8.cell? ⟨w.heap.size, 0, none⟩ = some (.int .i64 0) := by go_simp
    have fy0 : w8.frozen? ⟨w.heap.size, 0, none⟩ = false := by go_simp
    have y1 : w8.cell? ⟨w.heap.size, 1, none⟩ = some (.int .i64 0) := by go_simp
    have fy1 : w8.frozen? ⟨w.heap.size, 1, none⟩ = false := by go_simp
    have y2 : w8.cell? ⟨w.heap.size, 2, none⟩ = some (.int .i64 0) := by go_simp
    have fy2 : w8.frozen? ⟨w.heap.size, 2, none⟩ = false := by go_simp
    have HB8 := Lib.hid (HB7.out.trans (hb8.mono (by omega)))
    have hb8b : b < w8.heap.size := by omega
    clear hc8 hf8 hb8 m0 m1 m2 o0 o1 o2 v0 v1 v2 fv0 fv1 fv2
    go_wp2_with fail
    refine calls_namedD ?_
    intro w10 hw10
    have hB10 : Below w1.heap.size w1 w10 := by rw [hw10]; exact HB8.out.setCell (p := ⟨b, 2, none⟩) hb0 _
    have hz10 := hB10.size
    have i0 : w10.cell? ⟨b, 0, none⟩ = some (.int .i64 (0)) := by rw [hw10]; go_simp
    have i1 : w10.cell? ⟨b, 1, none⟩ = some (.int .i64 (atoiV p1.data.toList)) := by rw [hw10]; go_simp
    have i2 : w10.cell? ⟨b, 2, none⟩ = some (.int .i64 (atoiV p2.data.toList)) := by rw [hw10]; go_simp
    have hb10 : b < w10.heap.size := by rw [hw10]; first | exact hb0' | (simp [World.setCell]; omega)
    have z0 : w10.cell? ⟨w.heap.size, 0, none⟩ = some (.int .i64 0) := by rw [hw10]; go_simp
    have fz0 : w10.frozen? ⟨w.heap.size, 0, none⟩ = false := by rw [hw10]; go_simp
    have z1 : w10.cell? ⟨w.heap.size, 1, none⟩ = some (.int .i64 0) := by rw [hw10]; go_simp
    have fz1 : w10.frozen? ⟨w.heap.size, 1, none⟩ = false := by rw [hw10]; go_simp
    have z2 : w10.cell? ⟨w.heap.size, 2, none⟩ = some (.int .i64 0) := by rw [hw10]; go_simp
    have fz2 : w10.frozen? ⟨w.heap.size, 2, none⟩ = false := by rw [hw10]; go_simp
    have HB10 := Lib.hid hB10
    clear hw10 hB10
    have hc : candI s = ⟨0, atoiV p1.data.toList, atoiV p2.data.toList⟩ := HCI.out
    have hV := readOf_cand hc
    have HV := Lib.hid hV
    have hq := HSEQ.out (txt (deedT ⟨0, atoiV p1.data.toList, atoiV p2.data.toList⟩))
    have hqe : (txt (deedT ⟨0, atoiV p1.data.toList, atoiV p2.data.toList⟩)).toList.isEmpty = (deedT ⟨0, atoiV p1.data.toList, atoiV p2.data.toList⟩).isEmpty := by rw [bl_toList]; rfl
    rw [txt_list] at hq
    obtain ⟨Tx, hTx⟩ : ∃ Tx, txt (deedT ⟨0, atoiV p1.data.toList, atoiV p2.data.toList⟩) = Tx := ⟨_, rfl⟩
    have hdt := fun W hW => implText_any (0) (atoiV p1.data.toList) (atoiV p2.data.toList) W hW
    rw [hTx] at hq hqe hdt
    have HDT := Lib.hid hdt
    have hww : w.heap.size < w10.heap.size := by omega
    clear hc hV hTx hdt HCI HCD
    refine (HDT.out _ (HT1.out.below HB10.out (Nat.le_refl _))).mono ?_
    rintro e w9 ⟨rfl, hb9⟩
    obtain ⟨hc9, hf9⟩ := bcell hb9
    have hz9 := hb9.size
    have l0 : w9.cell? ⟨b, 0, none⟩ = some (.int .i64 (0)) := by go_simp
    have l1 : w9.cell? ⟨b, 1, none⟩ = some (.int .i64 (atoiV p1.data.toList)) := by go_simp
    have l2 : w9.cell? ⟨b, 2, none⟩ = some (.int .i64 (atoiV p2.data.toList)) := by go_simp
    have j0 : w9.cell? ⟨w.heap.size, 0, none⟩ = some (.int .i64 0) := by go_simp
    have fj0 : w9.frozen? ⟨w.heap.size, 0, none⟩ = false := by go_simp
    have j1 : w9.cell? ⟨w.heap.size, 1, none⟩ = some (.int .i64 0) := by go_simp
    have fj1 : w9.frozen? ⟨w.heap.size, 1, none⟩ = false := by go_simp
    have j2 : w9.cell? ⟨w.heap.size, 2, none⟩ = some (.int .i64 0) := by go_simp
    have fj2 : w9.frozen? ⟨w.heap.size, 2, none⟩ = false := by go_simp
    have HB9 := Lib.hid (HB10.out.trans (hb9.mono (by omega)))
    have hbw9 : w.heap.size < w9.heap.size := by omega
    clear hc9 hf9 hb9 i0 i1 i2 z0 z1 z2 fz0 fz1 fz2
    have HBf := Lib.hid (show Below w.heap.size w w9 from HB1.out.trans (HB9.out.mono (by omega)))
    by_cases hem : deedT ⟨0, atoiV p1.data.toList, atoiV p2.data.toList⟩ = []
    · have hqe' : Tx.toList.isEmpty = true := by rw [hqe, hem]; rfl
      rw [if_neg (fun e => e.1 hem)] at HV
      clear hq hqe hem hsem
      go_wp2
      refine bodyPost_ret (v := .tuple #[.agg #[.int .i64 0, .int .i64 0, .int .i64 0], .bool false]) (by simp [results, Tryd.results14, go_sem]; go_simp) rfl ⟨by rw [HV.out], ?_⟩
      exact ((HBf.out.setCell (p := ⟨w.heap.size, 0, none⟩) (Nat.le_refl _) _).setCell (p := ⟨w.heap.size, 1, none⟩) (Nat.le_refl _) _).setCell (p := ⟨w.heap.size, 2, none⟩) (Nat.le_refl _) _
    · have hqe' : Tx.toList.isEmpty = false := by
        rw [hqe]
        cases hd : deedT ⟨0, atoiV p1.data.toList, atoiV p2.data.toList⟩ with
        | nil => exact absurd hd hem
        | cons _ _ => rfl
      by_cases hd : deedT ⟨0, atoiV p1.data.toList, atoiV p2.data.toList⟩ = s.data.toList
      · have hq' : (Tx.toList == s.toList) = true := by rw [hq, hd]; simp
        rw [if_pos ⟨hem, hd⟩] at HV
        clear hq hqe hem hd hsem
        go_wp2
        refine bodyPost_ret (v := .tuple #[.agg #[.int .i64 (0), .int .i64 (atoiV p1.data.toList), .int .i64 (atoiV p2.data.toList)], .bool true]) (by simp [results, Tryd.results14, go_sem]; go_simp) rfl ⟨by rw [HV.out], ?_⟩
        exact ((HBf.out.setCell (p := ⟨w.heap.size, 0, none⟩) (Nat.le_refl _) _).setCell (p := ⟨w.heap.size, 1, none⟩) (Nat.le_refl _) _).setCell (p := ⟨w.heap.size, 2, none⟩) (Nat.le_refl _) _
      · have hq' : (Tx.toList == s.toList) = false := by rw [hq]; exact beq_eq_false_iff_ne.2 hd
        rw [if_neg (fun e => hd e.2)] at HV
        clear hq hqe hem hd hsem
        go_wp2
        refine bodyPost_ret (v := .tuple #[.agg #[.int .i64 0, .int .i64 0, .int .i64 0], .bool false]) (by simp [results, Tryd.results14, go_sem]; go_simp) rfl ⟨by rw [HV.out], ?_⟩
        exact ((HBf.out.setCell (p := ⟨w.heap.size, 0, none⟩) (Nat.le_refl _) _).setCell (p := ⟨w.heap.size, 1, none⟩) (Nat.le_refl _) _).setCell (p := ⟨w.heap.size, 2, none⟩) (Nat.le_refl _) _
  · rw [if_neg hyes] at HCI
    by_cases hk : kd = 0
    · have hn3 : ¬ n = 3 := fun e => hyes ⟨hk, e⟩
      have hn3' : ¬ ((n : Int) = 3) := by omega
      subst hk
      clear hyes
      go_wp2_with fail
      refine calls_namedD ?_
      intro w10 hw10
      have hB10 : Below w1.heap.size w1 w10 := by rw [hw10]; exact hB5r
      have hz10 := hB10.size
      have i0 : w10.cell? ⟨b, 0, none⟩ = some (.int .i64 (0)) := by rw [hw10]; go_simp
      have i1 : w10.cell? ⟨b, 1, none⟩ = some (.int .i64 (0)) := by rw [hw10]; go_simp
      have i2 : w10.cell? ⟨b, 2, none⟩ = some (.int .i64 (0)) := by rw [hw10]; go_simp
      have hb10 : b < w10.heap.size := by rw [hw10]; first | exact hb0' | (simp [World.setCell]; omega)
      have z0 : w10.cell? ⟨w.heap.size, 0, none⟩ = some (.int .i64 0) := by rw [hw10]; go_simp
      have fz0 : w10.frozen? ⟨w.heap.size, 0, none⟩ = false := by rw [hw10]; go_simp
      have z1 : w10.cell? ⟨w.heap.size, 1, none⟩ = some (.int .i64 0) := by rw [hw10]; go_simp
      have fz1 : w10.frozen? ⟨w.heap.size, 1, none⟩ = false := by rw [hw10]; go_simp
      have z2 : w10.cell? ⟨w.heap.size, 2, none⟩ = some (.int .i64 0) := by rw [hw10]; go_simp
      have fz2 : w10.frozen? ⟨w.heap.size, 2, none⟩ = false := by rw [hw10]; go_simp
      have HB10 := Lib.hid hB10
      clear hw10 hB10
      have hc : candI s = ⟨0, 0, 0⟩ := HCI.out
      have hV := readOf_cand hc
      have HV := Lib.hid hV
      have hq := HSEQ.out (txt (deedT ⟨0, 0, 0⟩))
      have hqe : (txt (deedT ⟨0, 0, 0⟩)).toList.isEmpty = (deedT ⟨0, 0, 0⟩).isEmpty := by rw [bl_toList]; rfl
      rw [txt_list] at hq
      obtain ⟨Tx, hTx⟩ : ∃ Tx, txt (deedT ⟨0, 0, 0⟩) = Tx := ⟨_, rfl⟩
      have hdt := fun W hW => implText_any (0) (0) (0) W hW
      rw [hTx] at hq hqe hdt
      have HDT := Lib.hid hdt
      have hww : w.heap.size < w10.heap.size := by omega
      clear hc hV hTx hdt HCI HCD
      refine (HDT.out _ (HT1.out.below HB10.out (Nat.le_refl _))).mono ?_
      rintro e w9 ⟨rfl, hb9⟩
      obtain ⟨hc9, hf9⟩ := bcell hb9
      have hz9 := hb9.size
      have l0 : w9.cell? ⟨b, 0, none⟩ = some (.int .i64 (0)) := by go_simp
      have l1 : w9.cell? ⟨b, 1, none⟩ = some (.int .i64 (0)) := by go_simp
      have l2 : w9.cell? ⟨b, 2, none⟩ = some (.int .i64 (0)) := by go_simp
      have j0 : w9.cell? ⟨w.heap.size, 0, none⟩ = some (.int .i64 0) := by go_simp
      have fj0 : w9.frozen? ⟨w.heap.size, 0, none⟩ = false := by go_simp
      have j1 : w9.cell? ⟨w.heap.size, 1, none⟩ = some (.int .i64 0) := by go_simp
      have fj1 : w9.frozen? ⟨w.heap.size, 1, none⟩ = false := by go_simp
      have j2 : w9.cell? ⟨w.heap.size, 2, none⟩ = some (.int .i64 0) := by go_simp
      have fj2 : w9.frozen? ⟨w.heap.size, 2, none⟩ = false := by go_simp
      have HB9 := Lib.hid (HB10.out.trans (hb9.mono (by omega)))
      have hbw9 : w.heap.size < w9.heap.size := by omega
      clear hc9 hf9 hb9 i0 i1 i2 z0 z1 z2 fz0 fz1 fz2
      have HBf := Lib.hid (show Below w.heap.size w w9 from HB1.out.trans (HB9.out.mono (by omega)))
      by_cases hem : deedT ⟨0, 0, 0⟩ = []
      · have hqe' : Tx.toList.isEmpty = true := by rw [hqe, hem]; rfl
        rw [if_neg (fun e => e.1 hem)] at HV
        clear hq hqe hem hsem
        go_wp2
        refine bodyPost_ret (v := .tuple #[.agg #[.int .i64 0, .int .i64 0, .int .i64 0], .bool false]) (by simp [results, Tryd.results14, go_sem]; go_simp) rfl ⟨by rw [HV.out], ?_⟩
        exact ((HBf.out.setCell (p := ⟨w.heap.size, 0, none⟩) (Nat.le_refl _) _).setCell (p := ⟨w.heap.size, 1, none⟩) (Nat.le_refl _) _).setCell (p := ⟨w.heap.size, 2, none⟩) (Nat.le_refl _) _
      · have hqe' : Tx.toList.isEmpty = false := by
          rw [hqe]
          cases hd : deedT ⟨0, 0, 0⟩ with
          | nil => exact absurd hd hem
          | cons _ _ => rfl
        by_cases hd : deedT ⟨0, 0, 0⟩ = s.data.toList
        · have hq' : (Tx.toList == s.toList) = true := by rw [hq, hd]; simp
          rw [if_pos ⟨hem, hd⟩] at HV
          clear hq hqe hem hd hsem
          go_wp2
          refine bodyPost_ret (v := .tuple #[.agg #[.int .i64 (0), .int .i64 (0), .int .i64 (0)], .bool true]) (by simp [results, Tryd.results14, go_sem]; go_simp) rfl ⟨by rw [HV.out], ?_⟩
          exact ((HBf.out.setCell (p := ⟨w.heap.size, 0, none⟩) (Nat.le_refl _) _).setCell (p := ⟨w.heap.size, 1, none⟩) (Nat.le_refl _) _).setCell (p := ⟨w.heap.size, 2, none⟩) (Nat.le_refl _) _
        · have hq' : (Tx.toList == s.toList) = false := by rw [hq]; exact beq_eq_false_iff_ne.2 hd
          rw [if_neg (fun e => hd e.2)] at HV
          clear hq hqe hem hd hsem
          go_wp2
          refine bodyPost_ret (v := .tuple #[.agg #[.int .i64 0, .int .i64 0, .int .i64 0], .bool false]) (by simp [results, Tryd.results14, go_sem]; go_simp) rfl ⟨by rw [HV.out], ?_⟩
          exact ((HBf.out.setCell (p := ⟨w.heap.size, 0, none⟩) (Nat.le_refl _) _).setCell (p := ⟨w.heap.size, 1, none⟩) (Nat.le_refl _) _).setCell (p := ⟨w.heap.size, 2, none⟩) (Nat.le_refl _) _
    · clear hyes
      go_wp2_with fail
      refine calls_namedD ?_
      intro w10 hw10
      have hB10 : Below w1.heap.size w1 w10 := by rw [hw10]; exact hB5r
      have hz10 := hB10.size
      have i0 : w10.cell? ⟨b, 0, none⟩ = some (.int .i64 (kd)) := by rw [hw10]; go_simp
      have i1 : w10.cell? ⟨b, 1, none⟩ = some (.int .i64 (0)) := by rw [hw10]; go_simp
      have i2 : w10.cell? ⟨b, 2, none⟩ = some (.int .i64 (0)) := by rw [hw10]; go_simp
      have hb10 : b < w10.heap.size := by rw [hw10]; first | exact hb0' | (simp [World.setCell]; omega)
      have z0 : w10.cell? ⟨w.heap.size, 0, none⟩ = some (.int .i64 0) := by rw [hw10]; go_simp
      have fz0 : w10.frozen? ⟨w.heap.size, 0, none⟩ = false := by rw [hw10]; go_simp
      have z1 : w10.cell? ⟨w.heap.size, 1, none⟩ = some (.int .i64 0) := by rw [hw10]; go_simp
      have fz1 : w10.frozen? ⟨w.heap.size, 1, none⟩ = false := by rw [hw10]; go_simp
      have z2 : w10.cell? ⟨w.heap.size, 2, none⟩ = some (.int .i64 0) := by rw [hw10]; go_simp
      have fz2 : w10.frozen? ⟨w.heap.size, 2, none⟩ = false := by rw [hw10]; go_simp
      have HB10 := Lib.hid hB10
      clear hw10 hB10
      have hc : candI s = ⟨kd, 0, 0⟩ := HCI.out
      have hV := readOf_cand hc
      have HV := Lib.hid hV
      have hq := HSEQ.out (txt (deedT ⟨kd, 0, 0⟩))
      have hqe : (txt (deedT ⟨kd, 0, 0⟩)).toList.isEmpty = (deedT ⟨kd, 0, 0⟩).isEmpty := by rw [bl_toList]; rfl
      rw [txt_list] at hq
      obtain ⟨Tx, hTx⟩ : ∃ Tx, txt (deedT ⟨kd, 0, 0⟩) = Tx := ⟨_, rfl⟩
      have hdt := fun W hW => implText_any (kd) (0) (0) W hW
      rw [hTx] at hq hqe hdt
      have HDT := Lib.hid hdt
      have hww : w.heap.size < w10.heap.size := by omega
      clear hc hV hTx hdt HCI HCD
      refine (HDT.out _ (HT1.out.below HB10.out (Nat.le_refl _))).mono ?_
      rintro e w9 ⟨rfl, hb9⟩
      obtain ⟨hc9, hf9⟩ := bcell hb9
      have hz9 := hb9.size
      have l0 : w9.cell? ⟨b, 0, none⟩ = some (.int .i64 (kd)) := by go_simp
      have l1 : w9.cell? ⟨b, 1, none⟩ = some (.int .i64 (0)) := by go_simp
      have l2 : w9.cell? ⟨b, 2, none⟩ = some (.int .i64 (0)) := by go_simp
      have j0 : w9.cell? ⟨w.heap.size, 0, none⟩ = some (.int .i64 0) := by go_simp
      have fj0 : w9.frozen? ⟨w.heap.size, 0, none⟩ = false := by go_simp
      have j1 : w9.cell? ⟨w.heap.size, 1, none⟩ = some (.int .i64 0) := by go_simp
      have fj1 : w9.frozen? ⟨w.heap.size, 1, none⟩ = false := by go_simp
      have j2 : w9.cell? ⟨w.heap.size, 2, none⟩ = some (.int .i64 0) := by go_simp
      have fj2 : w9.frozen? ⟨w.heap.size, 2, none⟩ = false := by go_simp
      have HB9 := Lib.hid (HB10.out.trans (hb9.mono (by omega)))
      have hbw9 : w.heap.size < w9.heap.size := by omega
      clear hc9 hf9 hb9 i0 i1 i2 z0 z1 z2 fz0 fz1 fz2
      have HBf := Lib.hid (show Below w.heap.size w w9 from HB1.out.trans (HB9.out.mono (by omega)))
      by_cases hem : deedT ⟨kd, 0, 0⟩ = []
      · have hqe' : Tx.toList.isEmpty = true := by rw [hqe, hem]; rfl
        rw [if_neg (fun e => e.1 hem)] at HV
        clear hq hqe hem hsem
        go_wp2
        refine bodyPost_ret (v := .tuple #[.agg #[.int .i64 0, .int .i64 0, .int .i64 0], .bool false]) (by simp [results, Tryd.results14, go_sem]; go_simp) rfl ⟨by rw [HV.out], ?_⟩
        exact ((HBf.out.setCell (p := ⟨w.heap.size, 0, none⟩) (Nat.le_refl _) _).setCell (p := ⟨w.heap.size, 1, none⟩) (Nat.le_refl _) _).setCell (p := ⟨w.heap.size, 2, none⟩) (Nat.le_refl _) _
      · have hqe' : Tx.toList.isEmpty = false := by
          rw [hqe]
          cases hd : deedT ⟨kd, 0, 0⟩ with
          | nil => exact absurd hd hem
          | cons _ _ => rfl
        by_cases hd : deedT ⟨kd, 0, 0⟩ = s.data.toList
        · have hq' : (Tx.toList == s.toList) = true := by rw [hq, hd]; simp
          rw [if_pos ⟨hem, hd⟩] at HV
          clear hq hqe hem hd hsem
          go_wp2
          refine bodyPost_ret (v := .tuple #[.agg #[.int .i64 (kd), .int .i64 (0), .int .i64 (0)], .bool true]) (by simp [results, Tryd.results14, go_sem]; go_simp) rfl ⟨by rw [HV.out], ?_⟩
          exact ((HBf.out.setCell (p := ⟨w.heap.size, 0, none⟩) (Nat.le_refl _) _).setCell (p := ⟨w.heap.size, 1, none⟩) (Nat.le_refl _) _).setCell (p := ⟨w.heap.size, 2, none⟩) (Nat.le_refl _) _
        · have hq' : (Tx.toList == s.toList) = false := by rw [hq]; exact beq_eq_false_iff_ne.2 hd
          rw [if_neg (fun e => hd e.2)] at HV
          clear hq hqe hem hd hsem
          go_wp2
          refine bodyPost_ret (v := .tuple #[.agg #[.int .i64 0, .int .i64 0, .int .i64 0], .bool false]) (by simp [results, Tryd.results14, go_sem]; go_simp) rfl ⟨by rw [HV.out], ?_⟩
          exact ((HBf.out.setCell (p := ⟨w.heap.size, 0, none⟩) (Nat.le_refl _) _).setCell (p := ⟨w.heap.size, 1, none⟩) (Nat.le_refl _) _).setCell (p := ⟨w.heap.size, 2, none⟩) (Nat.le_refl _) _
end Go.Proofs.YtigcomhhgfgmgaaDoor
namespace Go.Proofs.YtigcomhhgfgmgaaDoor
open Go.RowKit
theorem szDeedS_fit (a : Option Addr) (n cap left : Nat) (hl : left ≤ 1048576) (h : n ≤ left) (w : World) : Calls Tryd.prog 24 #[.slice a n cap, .int .i64 left] w fun e w' => e = .returned (.int .i64 ((left - n : Nat) : Int)) ∧ Below w.heap.size w w' := by
  have h1 : (n : Int) ≤ (left : Int) := by omega
  have h2 : IntKind.i64.wrap ((left : Int) - (n : Int)) = ((left - n : Nat) : Int) := by rw [IntKind.wrap_i64]; omega
  have h3 : ¬ (((left - n : Nat) : Int) < 0) := by omega
  go_enter Tryd.func24, Tryd.ntmps24
  go_wp2
  go_ret
  exact ⟨rfl, Below.refl _ _⟩
theorem szDeedS_big (a : Option Addr) (n cap left : Nat) (hl : left ≤ 1048576) (h : left < n) (hn : n ≤ maxLen) (w : World) : Calls Tryd.prog 24 #[.slice a n cap, .int .i64 left] w fun e w' => e = .returned (.int .i64 (-1)) ∧ Below w.heap.size w w' := by
  have hm : maxLen = 9223372036854775807 := rfl
  have h2 : IntKind.i64.wrap ((left : Int) - (n : Int)) = (left : Int) - (n : Int) := by rw [IntKind.wrap_i64]; omega
  have h3 : (left : Int) - (n : Int) < 0 := by omega
  go_enter Tryd.func24, Tryd.ntmps24
  go_wp2
  go_ret
  exact ⟨rfl, Below.refl _ _⟩
end Go.Proofs.YtigcomhhgfgmgaaDoor
namespace Go.Proofs.YtigcomhhgfgmgaaDoor
open Go.RowKit
theorem txt_same (t : ByteArray) : (t.toList == t.toList) = true := by simp
set_option maxRecDepth 100000 in
set_option maxHeartbeats 2000000 in
theorem fnExactDeedText_walk (k x y : Int) (w : World) (ht : PowTab w) :
    Calls Tryd.prog 6 #[.agg #[.int .i64 k, .int .i64 x, .int .i64 y]] w fun e w' => e = .returned (.bool true) ∧ Below w.heap.size w w' := by
  have HT := Lib.hid ht
  have hsp := fun W => specText_any k x y W
  have him := fun W hW => implText_any k x y W hW
  have hsame := txt_same (txt (deedT ⟨k, x, y⟩))
  obtain ⟨t, ht⟩ : ∃ t, txt (deedT ⟨k, x, y⟩) = t := ⟨_, rfl⟩
  rw [ht] at hsp him hsame
  have HS := Lib.hid hsp
  have HI := Lib.hid him
  clear hsp him ht
  go_enter Tryd.func6, Tryd.ntmps6
  go_wp2_with fail
  refine (toDeed_any k x y _).mono ?_
  rintro e w1 ⟨rfl, hb1⟩
  obtain ⟨hc1, hf1⟩ := bcell hb1
  go_wp2_with fail
  refine (HS.out _).mono ?_
  rintro e w2 ⟨rfl, hb2⟩
  obtain ⟨hc2, hf2⟩ := bcell hb2
  have hz1 := hb1.size
  have hz2 := hb2.size
  try simp at hz1 hz2
  have hs1 : w.heap.size < w1.heap.size := by omega
  have hs2 : w.heap.size < w2.heap.size := by omega
  have c0 : w2.cell? ⟨w.heap.size, 0, none⟩ = some (.int .i64 k) := by go_simp
  have c1 : w2.cell? ⟨w.heap.size, 1, none⟩ = some (.int .i64 x) := by go_simp
  have c2 : w2.cell? ⟨w.heap.size, 2, none⟩ = some (.int .i64 y) := by go_simp
  clear hc1 hf1 hc2 hf2 ht
  go_wp2_with fail
  refine (toDeed_any k x y _).mono ?_
  rintro e w3 ⟨rfl, hb3⟩
  have hz3 := hb3.size
  go_wp2_with fail
  refine (HI.out _ (HT.out.below (show Below w.heap.size w _ by (repeat (first | exact Below.refl _ _ | refine Below.setCell ?_ (by first | omega | (simp <;> omega)) _ | refine Below.alloc ?_ (by first | omega | (simp <;> omega)) _ | refine Below.drew ?_ | refine Below.trans ?_ (Below.mono (by assumption) (by first | omega | (simp <;> omega))) | refine Below.grown ?_ (by assumption) (by first | omega | (simp <;> omega)) (fun k e => by cases e; first | omega | (simp <;> omega))))) (Nat.le_refl _))).mono ?_
  rintro e w4 ⟨rfl, hb4⟩
  go_wp2
  go_ret
  exact ⟨rfl, by (repeat (first | exact Below.refl _ _ | refine Below.setCell ?_ (by first | omega | (simp <;> omega)) _ | refine Below.alloc ?_ (by first | omega | (simp <;> omega)) _ | refine Below.drew ?_ | refine Below.trans ?_ (Below.mono (by assumption) (by first | omega | (simp <;> omega))) | refine Below.grown ?_ (by assumption) (by first | omega | (simp <;> omega)) (fun k e => by cases e; first | omega | (simp <;> omega))))⟩
end Go.Proofs.YtigcomhhgfgmgaaDoor
namespace Go.Proofs.YtigcomhhgfgmgaaDoor
open Go.RowKit
/-- What a draw of deeds returns: at most five, in a row of its own. -/
def DeedsDrawn (w : World) (R k : Nat) (e : Ending) (w' : World) : Prop :=
  ∃ (a : Option Addr) (c : Nat) (X : List DeedN), e = .returned (.slice a X.length c) ∧ IsDeeds w.heap.size w'.heap.size w' (.slice a X.length c) X ∧ X.length ≤ 5 ∧ Rd w' R (k + 31) ∧ w.grownBy w' (some R)
theorem own_grows {w w' : World} {base R : Nat} {e : TypeId} {size : Nat} {v : Value} {n : Nat} {xs : List Value} (h : w.ownsRow base e size v n xs) (hg : w.grownBy w' (some R)) (hR : R < base) : w'.ownsRow base e size v n xs :=
  h.kept hg (by
    cases hv : v.ownBlock with
    | none => exact .inl rfl
    | some g => exact .inr (fun e => by injection e with e; have := (h.lt g hv).1; omega))
theorem rd_under {w w' : World} {R k D : Nat} (h : Rd w R k) (hb : Below D w w') (hD : R < D) : Rd w' R k := by
  obtain ⟨a, len, cap, p, h0, h1, hf, hp, hl, hs⟩ := h
  refine ⟨a, len, cap, p, (hb.cell (p := ⟨R, 0, none⟩) (by show R < D; omega)).trans h0, (hb.cell (p := ⟨R, 1, none⟩) (by show R < D; omega)).trans h1, (hb.frozen (p := ⟨R, 1, none⟩) (by show R < D; omega)).trans hf, hp, hl, ?_⟩
  rcases hs with hs | ⟨b, off, ha, hbR, hc⟩
  · exact .inl hs
  · refine .inr ⟨b, off, ha, hbR, fun i hi => ?_⟩
    obtain ⟨x, x0, x1, hx⟩ := hc i hi
    exact ⟨x, x0, x1, (hb.cell (p := ⟨b, off + i, none⟩) (by show b < D; omega)).trans hx⟩
theorem gr_own {w w1 w2 : World} {R : Nat} {row : Option Nat} (h : w.grownBy w1 (some R)) (k : w1.grownBy w2 row) (hr : ∀ g, row = some g → w.heap.size ≤ g) : w.grownBy w2 (some R) :=
  ⟨k.os.trans h.os, k.tape.trans h.tape, k.output.trans h.output, Nat.le_trans h.size k.size, fun j hj hne => (k.block j (Nat.lt_of_lt_of_le hj h.size) (fun e => by have := hr j e.symm; omega)).trans (h.block j hj hne)⟩
set_option maxRecDepth 100000 in
set_option maxHeartbeats 4000000 in
theorem l20Deeds_any (R k : Nat) (w : World) (h : Rd w R k) (hk : k ≤ 900000) :
    Calls Tryd.prog 57 #[.pointer (some ⟨R, 0, none⟩)] w (DeedsDrawn w R k) := by
  obtain ⟨i0, hi0, hz0, hzs1, hz2⟩ := info_parts3 info_deed
  have hRlt := h.lt
  have HMD := Lib.hid (show (w.alloc (.cells #[] 24)).ownsRow w.heap.size 24 3 (.slice (some ⟨w.heap.size, 0, none⟩) 0 0) 0 [] from World.ownsRow_made w #[] 0 (Nat.le_refl _) (by unfold maxLen; omega) rfl)
  go_enter Tryd.func57, Tryd.ntmps57
  go_wp2_with fail
  refine (pick_any R k 6 _ (h.alloc _) (by omega) (by omega)).mono ?_
  rintro e w1 ⟨v, rfl, va, vb, hR1, hh1⟩
  have hO1 := own_grows HMD.out hh1 hRlt
  have hg1 := gr_trans (gr_alloc (gr_refl w R) _) hh1
  obtain ⟨n, rfl⟩ : ∃ n : Nat, v = (n : Int) := ⟨v.toNat, by omega⟩
  have hn5 : n ≤ 5 := by omega
  clear hh1 va vb HMD
  go_wp2_with fail
  go_loopw [3, 4] (fun x3 x4 wr => ∃ (j : Nat) (X : List DeedN) (a3 : Option Addr) (c3 : Nat), x3 = .slice a3 X.length c3 ∧ x4 = .int .i64 j ∧ X.length + j = n ∧ wr.ownsRow w.heap.size 24 3 (.slice a3 X.length c3) X.length (deedCells X) ∧ Rd wr R (k + 1 + 6 * X.length) ∧ w.grownBy wr (some R)) (fun _ x4 _ => (intOf x4).toNat)
  case atStart => exact ⟨n, [], _, _, rfl, rfl, by simp, hO1, hR1, hg1⟩
  case round =>
    obtain ⟨j, X, a3, c3, rfl, rfl, hj, hO, hR, hg⟩ := hrel
    rcases Nat.eq_zero_or_pos j with rfl | hjp
    · have HO := Lib.hid hO
      clear hO hO1
      go_wp2
      go_ret
      exact ⟨a3, c3, X, rfl, IsDeeds.of_owns HO.out, by omega, hR.mono (by omega), hg⟩
    · have hj0 : (0 : Int) < (j : Int) := by omega
      have wj : IntKind.i64.wrap ((j : Int) - 1) = ((j - 1 : Nat) : Int) := by rw [IntKind.wrap_i64]; omega
      have HO := Lib.hid hO
      clear hO hO1
      go_wp2_with fail
      refine (l20Deed_any R (k + 1 + 6 * X.length) _ hR (by omega)).mono ?_
      rintro e w2 ⟨x, y, z, rfl, hR2, hh2⟩
      have hO2 := own_grows HO.out hh2 hRlt
      have hg2 := gr_trans hg hh2
      have hz2' := hh2.size
      have hwz := hg.size
      clear hh2 HO
      go_wp2_with (at_builtin; refine wpList_append_deeds _ rfl _ _ 32 rfl w.heap.size 24 i0 _ 24 Tryd.underlying32 hi0 hz0 hzs1 hz2 rfl (.slice a3 X.length c3) X.length (deedCells X) rfl (hO2.alloc _) w2.heap.size (w2.heap.size + 1) _ [⟨x, y, z⟩] rfl (IsDeeds.new _ x y z _ _ rfl) (X.length + 1) rfl (deedCells (X ++ [⟨x, y, z⟩])) (deedCells_append _ _) (by unfold maxLen; omega) (by omega) (by simp; omega) ?_)
      intro a7 c7 w7 hown7 hgrow7 hat7
      have hR7 : Rd w7 R (k + 1 + 6 * (X ++ [(⟨x, y, z⟩ : DeedN)]).length) := by
        have hb7 : Below w.heap.size (w2.alloc (.cells #[.int .i64 x, .int .i64 y, .int .i64 z] 24)) w7 := (Below.refl _ _).grown hgrow7 (by simp; omega) (fun g e => (hO2.lt g e).1)
        exact (rd_under (hR2.alloc _) hb7 hRlt).mono (by simp; omega)
      have hg7 : w.grownBy w7 (some R) := gr_own (gr_alloc hg2 _) hgrow7 (fun g e => (hO2.lt g e).1)
      have HO7 := Lib.hid hown7
      clear hown7 hgrow7 hat7 hO2 hR2 hg2
      go_wp2_with fail
      go_roundw
      case rel => exact ⟨j - 1, X ++ [⟨x, y, z⟩], a7, c7, by simp, rfl, by simp; omega, by simpa using HO7.out, hR7, hg7⟩
      case measure => simp [intOf]; omega
end Go.Proofs.YtigcomhhgfgmgaaDoor
namespace Go.Proofs.YtigcomhhgfgmgaaDoor
open Go.RowKit
/-- What a draw of a pair returns. -/
def DrawnPair (w : World) (e : Ending) (w' : World) : Prop :=
  ∃ p q : Int, e = .returned (pr p q) ∧ -6 ≤ p ∧ p ≤ 100 ∧ -6 ≤ q ∧ q ≤ 100 ∧ Below w.heap.size w w'
/-- What a draw of a pair and a place returns. -/
def DrawnPlace (w : World) (e : Ending) (w' : World) : Prop :=
  ∃ p q n : Int, e = .returned (.tuple #[pr p q, .int .i64 n]) ∧ -6 ≤ p ∧ p ≤ 100 ∧ -6 ≤ q ∧ q ≤ 100 ∧ -60 ≤ n ∧ n ≤ 60 ∧ Below w.heap.size w w'
def PlaceDrawn (w : World) (R k : Nat) (e : Ending) (w' : World) : Prop :=
  ∃ p q n : Int, e = .returned (.tuple #[pr p q, .int .i64 n]) ∧ -5 ≤ p ∧ p ≤ 100 ∧ -5 ≤ q ∧ q ≤ 100 ∧ -60 ≤ n ∧ n ≤ 60 ∧ Rd w' R (k + 8) ∧ w.grownBy w' (some R)
/-- A code lies on. -/
theorem IsRow.below {w w' : World} {a : Option Addr} {len cap : Nat} {zs : List Int} (h : IsRow w a len cap zs) (hb : Below w.heap.size w w') : IsRow w' a len cap zs := by
  rcases h with h | ⟨x, rfl, hl, hm, hz, hc, hw⟩
  · exact .inl h
  · refine .inr ⟨x, rfl, hl, hm, hz, fun i hi => ?_, hw⟩
    have hci := hc i hi
    obtain ⟨o, ho, _⟩ := cells_of_cell' hci
    exact (hb.cell (Array.getElem?_eq_some_iff.1 ho).1).trans hci
/-- What is known of a pair's draw, as a fact behind a call. -/
theorem DrawnPair.of {w : World} {R k m : Nat} {e : Ending} {w1 w' : World} (h : PairDrawn w1 R k m e w') (hb : Below w.heap.size w w1) (hR : w.heap.size ≤ R) : DrawnPair w e w' := by
  obtain ⟨p, q, rfl, h1, h2, h3, h4, _, hg⟩ := h
  exact ⟨p, q, rfl, by omega, h2, by omega, h4, hb.grown hg hb.size (fun k e => by cases e; exact hR)⟩
end Go.Proofs.YtigcomhhgfgmgaaDoor
namespace Go.Proofs.YtigcomhhgfgmgaaDoor
open Go.RowKit
theorem extract_small (s : ByteArray) (a b : Nat) : (s.extract a b).size ≤ s.size := by simp [ByteArray.size_extract]; omega
theorem six_texts (w : World) (t : TypeId) : ∀ i, i < 6 → ∃ x : ByteArray, (w.alloc (.cells #[.string ⟨#[]⟩, .string ⟨#[48]⟩, .string ⟨#[32]⟩, .string ⟨#[10]⟩, .string ⟨#[45]⟩, .string ⟨#[98, 97, 99, 107]⟩] t)).cell? ⟨w.heap.size, i, none⟩ = some (.string x) ∧ x.size ≤ 4 := by
  intro i hi
  rcases (show i = 0 ∨ i = 1 ∨ i = 2 ∨ i = 3 ∨ i = 4 ∨ i = 5 by omega) with rfl | rfl | rfl | rfl | rfl | rfl <;> exact ⟨_, World.cell?_alloc_mark _ _ _ _ _, by decide⟩
def spoilP (R k : Nat) (s : ByteArray) (j : Nat) (v : Value) (w : World) : Prop :=
  match j with
  | 0 => v = .string s
  | 1 => v = .int .i64 k
  | 2 => ∃ x, v = .string x ∧ x.size ≤ s.size
  | 3 => ∃ b, v = .slice (some ⟨b, 0, none⟩) 6 6 ∧ b ≠ R ∧ b < w.heap.size ∧ ∀ i, i < 6 → ∃ x : ByteArray, w.cell? ⟨b, i, none⟩ = some (.string x) ∧ x.size ≤ 4
  | 4 => v = .pointer (some ⟨R, 0, none⟩)
  | 5 => ∃ n : Int, v = .int .i64 n ∧ 0 ≤ n ∧ n ≤ 5
  | 6 => ∃ (b i : Nat) (x : ByteArray), v = .pointer (some ⟨b, i, none⟩) ∧ b ≠ R ∧ b < w.heap.size ∧ w.cell? ⟨b, i, none⟩ = some (.string x) ∧ x.size ≤ 4
  | 7 => ∃ x, v = .string x ∧ x.size ≤ 4
  | 8 => ∃ x, v = .string x ∧ x.size ≤ s.size + 4
  | 9 => v = .string s
  | 10 => v = .int .i64 k
  | 11 => v = .int .i64 ((k : Int) + 1)
  | 12 => ∃ x, v = .string x ∧ x.size ≤ s.size
  | _ => ∃ x, v = .string x ∧ x.size ≤ 2 * s.size + 4
theorem rd_drewE {w : World} {R k : Nat} (h : Rd w R k) : Rd w.drew R k := h
theorem spoilP_mono (R k : Nat) (s : ByteArray) (j : Nat) (v : Value) (w w' : World) (hg : w.grownBy w' (some R)) (h : spoilP R k s j v w) : spoilP R k s j v w' := by
  unfold spoilP at *
  split at h
  · exact h
  · exact h
  · exact h
  · obtain ⟨b, e, h1, h2, h3⟩ := h
    refine ⟨b, e, h1, Nat.lt_of_lt_of_le h2 hg.size, fun i hi => ?_⟩
    obtain ⟨x, hx, hs⟩ := h3 i hi
    exact ⟨x, ((gcell hg).1 b i h2 h1).trans hx, hs⟩
  · exact h
  · exact h
  · obtain ⟨b, i, x, e, h1, h2, h3, h4⟩ := h
    exact ⟨b, i, x, e, h1, Nat.lt_of_lt_of_le h2 hg.size, ((gcell hg).1 b i h2 h1).trans h3, h4⟩
  · exact h
  · exact h
  · exact h
  · exact h
  · exact h
  · exact h
  · exact h
/-- What a draw of a text returns. -/
def TextDrawn (w : World) (R k n : Nat) (e : Ending) (w' : World) : Prop := ∃ t : ByteArray, e = .returned (.string t) ∧ t.size ≤ n ∧ Rd w' R k ∧ w.grownBy w' (some R)
set_option linter.unusedSimpArgs false in
set_option maxRecDepth 100000 in
set_option maxHeartbeats 4000000 in
theorem l20Spoil_any (R m : Nat) (s : ByteArray) (w : World) (h : Rd w R m) (hm : m ≤ 900000) (hs : s.size ≤ 100000) : Calls Tryd.prog 43 #[.pointer (some ⟨R, 0, none⟩), .string s] w (TextDrawn w R (m + 2) (2 * s.size + 4)) := by
  have hen : ∀ (args : Array Value) (w : World), (callFunc 42 args).run Tryd.prog w = .ok (.enter 42 args) w := enters_of Tryd.func42 (by kernel_rfl) rfl
  rcases (show s.size = 0 ∨ 0 < s.size by omega) with h0 | h0
  · have h0i : ((s.size : Int)) = 0 := by omega
    have HR := Lib.hid h
    have H0 := Lib.hid h0
    clear h h0
    go_enter Tryd.func43, Tryd.ntmps43
    go_wp2
    go_ret
    exact ⟨_, rfl, by show (1 : Nat) ≤ _; omega, HR.out.mono (by omega), gr_refl _ _⟩
  · have h0i : ¬ ((s.size : Int)) = 0 := by omega
    go_enter Tryd.func43, Tryd.ntmps43
    go_wp2_with fail
    refine (pick_any R m (s.size : Int) _ h (by omega) (by omega)).mono ?_
    rintro e w2 ⟨v, rfl, va, vb, hR2, hh2⟩
    obtain ⟨k, rfl⟩ : ∃ k : Nat, v = (k : Int) := ⟨v.toNat, by omega⟩
    have hks : k < s.size := by omega
    have hksN : k ≤ s.size := by omega
    have hks : (k : Int) ≤ (s.size : Int) := by omega
    have hk0 : (0 : Int) ≤ (k : Int) := by omega
    have wk : IntKind.i64.wrap ((k : Int) + 1) = (k : Int) + 1 := by rw [IntKind.wrap_i64]; omega
    have hk1 : (0 : Int) ≤ (k : Int) + 1 := by omega
    have hk1s : (k : Int) + 1 ≤ (s.size : Int) := by omega
    have hk1n : ((k : Int) + 1).toNat = k + 1 := by omega
    have hk1N : k + 1 ≤ s.size := by omega
    clear va vb h h0 h0i
    go_wp2_with fail
    rename_i K hK
    refine wp_region_stores (PP := spoilP R k s) (Grow := fun a b => a.grownBy b (some R)) (G := fun l w' => w.grownBy w' (some R) ∧ Rd w' R (m + 1 + indD l 5)) (by kernel_rfl) (dis_of2 (by kernel_rfl)) (b_of (by kernel_rfl)) (back_of (by kernel_rfl)) (fun j u w1 w2 hg hp => spoilP_mono R k s j u w1 w2 hg hp) ⟨gr_drew hh2, rd_drewE (hR2.mono (by omega))⟩ ?step ?fin
    case step =>
      intro i o hi listed a w1 hS hG hall hl
      have hi15 : i < 15 := (Array.getElem?_eq_some_iff.1 hi).1
      rcases (show i = 0 ∨ i = 1 ∨ i = 2 ∨ i = 3 ∨ i = 4 ∨ i = 5 ∨ i = 6 ∨ i = 7 ∨ i = 8 ∨ i = 9 ∨ i = 10 ∨ i = 11 ∨ i = 12 ∨ i = 13 ∨ i = 14 by omega) with rfl | rfl | rfl | rfl | rfl | rfl | rfl | rfl | rfl | rfl | rfl | rfl | rfl | rfl | rfl
      · obtain rfl := Option.some.inj hi
        have e1 : a.eval (.tmp 1) = .string s := hS.2.2.1 1 (noDst_of (by kernel_rfl))
        refine op_value (v := .string s) (w' := w1) rfl rfl (by intro ev ht hc hf; rw [← ht] at e1; simp [execOp, hc, hf, e1, go_sem]) ⟨.inl ⟨_, 13, rfl, rfl, rfl⟩, gr_refl _ _, ⟨hG.1, by rw [indD_other (by decide)]; exact hG.2⟩⟩
      · obtain rfl := Option.some.inj hi
        have e5 : a.eval (.tmp 5) = .int .i64 k := hS.2.2.1 5 (noDst_of (by kernel_rfl))
        refine op_value (v := .int .i64 k) (w' := w1) rfl rfl (by intro ev ht hc hf; rw [← ht] at e5; simp [execOp, hc, hf, e5, go_sem]) ⟨.inl ⟨_, 14, rfl, rfl, rfl⟩, gr_refl _ _, ⟨hG.1, by rw [indD_other (by decide)]; exact hG.2⟩⟩
      · obtain rfl := Option.some.inj hi
        have P0 := hS.2.2.2 0 _ 13 rfl rfl (hall { on := 0, ground := .data } (by simp) rfl)
        replace P0 : a.eval (.tmp 13) = .string s := P0
        have P1 := hS.2.2.2 1 _ 14 rfl rfl (hall { on := 1, ground := .data } (by simp) rfl)
        replace P1 : a.eval (.tmp 14) = .int .i64 k := P1
        refine op_value (v := .string (s.extract 0 k)) (w' := w1) rfl rfl (by intro ev ht hc hf; rw [← ht] at P0 P1; simp [execOp, hc, hf, P0, P1, go_sem, hk0, hks, hksN]) ⟨.inl ⟨_, 15, rfl, rfl, ⟨_, rfl, extract_small _ _ _⟩⟩, gr_refl _ _, ⟨hG.1, by rw [indD_other (by decide)]; exact hG.2⟩⟩
      · obtain rfl := Option.some.inj hi
        refine op_value (v := .slice (some ⟨w1.heap.size, 0, none⟩) 6 6) (w' := w1.alloc (.cells #[.string ⟨#[]⟩, .string ⟨#[48]⟩, .string ⟨#[32]⟩, .string ⟨#[10]⟩, .string ⟨#[45]⟩, .string ⟨#[98, 97, 99, 107]⟩] 9)) rfl rfl (by intro ev ht hc hf; simp [execOp, hc, hf, go_sem]; try go_simp) ⟨.inl ⟨_, 16, rfl, rfl, ⟨w1.heap.size, rfl, by have := hG.2.lt; omega, by simp, six_texts w1 _⟩⟩, gr_alloc (gr_refl _ _) _, gr_alloc hG.1 _, by rw [indD_other (by decide)]; exact hG.2.alloc _⟩
      · obtain rfl := Option.some.inj hi
        have e0 : a.eval (.tmp 0) = .pointer (some ⟨R, 0, none⟩) := hS.2.2.1 0 (noDst_of (by kernel_rfl))
        refine op_value (v := .pointer (some ⟨R, 0, none⟩)) (w' := w1) rfl rfl (by intro ev ht hc hf; rw [← ht] at e0; simp [execOp, hc, hf, e0, go_sem]) ⟨.inl ⟨_, 17, rfl, rfl, rfl⟩, gr_refl _ _, ⟨hG.1, by rw [indD_other (by decide)]; exact hG.2⟩⟩
      · obtain rfl := Option.some.inj hi
        have P4 := hS.2.2.2 4 _ 17 rfl rfl (hall { on := 4, ground := .data } (by simp) rfl)
        replace P4 : a.eval (.tmp 17) = .pointer (some ⟨R, 0, none⟩) := P4
        refine op_enter rfl rfl (f := 42) (args := #[.pointer (some ⟨R, 0, none⟩), .int .i64 6]) (w' := w1) (by intro ev ht hc hf; rw [← ht] at P4; simp [execOp, hc, hf, P4, go_sem, hen]) ?_
        refine (pick_any R (m + 1 + indD listed 5) 6 w1 hG.2 (by have := indD_le listed 5; omega) (by omega)).mono ?_
        rintro e w2 ⟨v, rfl, va, vb, hR, hg⟩
        exact ⟨_, rfl, .inl ⟨_, 18, rfl, rfl, ⟨v, rfl, va, by show v ≤ (5 : Int); omega⟩⟩, hg, gr_trans hG.1 hg, by rw [indD_self hl]; exact hR⟩
      · obtain rfl := Option.some.inj hi
        have P3 := hS.2.2.2 3 _ 16 rfl rfl (hall { on := 3, ground := .data } (by simp) rfl)
        obtain ⟨b, eb, hbR, hbl, hbc⟩ := P3
        have P5 := hS.2.2.2 5 _ 18 rfl rfl (hall { on := 5, ground := .data } (by simp) rfl)
        obtain ⟨n5, e5, l5, h5⟩ := P5
        have hb6 : n5 < 6 := by omega
        obtain ⟨t, ht6, hts⟩ := hbc n5.toNat (by omega)
        refine op_value (v := .pointer (some ⟨b, n5.toNat, none⟩)) (w' := w1) rfl rfl (by intro ev ht hc hf; rw [← ht] at eb e5; simp [execOp, hc, hf, eb, e5, go_sem, l5, hb6]) ⟨.inl ⟨_, 19, rfl, rfl, ⟨b, n5.toNat, t, rfl, hbR, hbl, ht6, hts⟩⟩, gr_refl _ _, ⟨hG.1, by rw [indD_other (by decide)]; exact hG.2⟩⟩
      · obtain rfl := Option.some.inj hi
        have P6 := hS.2.2.2 6 _ 19 rfl rfl (hall { on := 6, ground := .data } (by simp) rfl)
        obtain ⟨b, i, t, eb, hbR, hbl, hbc, hts⟩ := P6
        refine op_value (v := .string t) (w' := w1) rfl rfl (by intro ev ht hc hf; rw [← ht] at eb; simp [execOp, hc, hf, eb, hbc, go_sem]) ⟨.inl ⟨_, 20, rfl, rfl, ⟨t, rfl, hts⟩⟩, gr_refl _ _, ⟨hG.1, by rw [indD_other (by decide)]; exact hG.2⟩⟩
      · obtain rfl := Option.some.inj hi
        have P2 := hS.2.2.2 2 _ 15 rfl rfl (hall { on := 2, ground := .data } (by simp) rfl)
        obtain ⟨x, ex, hx⟩ := P2
        have P7 := hS.2.2.2 7 _ 20 rfl rfl (hall { on := 7, ground := .data } (by simp) rfl)
        obtain ⟨t, et, hts⟩ := P7
        have hcat : ¬ 9223372036854775807 < x.size + t.size := by omega
        refine op_value (v := .string (x ++ t)) (w' := w1) rfl rfl (by intro ev ht hc hf; rw [← ht] at ex et; simp [execOp, hc, hf, ex, et, go_sem, hcat]) ⟨.inl ⟨_, 21, rfl, rfl, ⟨_, rfl, by rw [ByteArray.size_append]; omega⟩⟩, gr_refl _ _, ⟨hG.1, by rw [indD_other (by decide)]; exact hG.2⟩⟩
      · obtain rfl := Option.some.inj hi
        have e1 : a.eval (.tmp 1) = .string s := hS.2.2.1 1 (noDst_of (by kernel_rfl))
        refine op_value (v := .string s) (w' := w1) rfl rfl (by intro ev ht hc hf; rw [← ht] at e1; simp [execOp, hc, hf, e1, go_sem]) ⟨.inl ⟨_, 22, rfl, rfl, rfl⟩, gr_refl _ _, ⟨hG.1, by rw [indD_other (by decide)]; exact hG.2⟩⟩
      · obtain rfl := Option.some.inj hi
        have e5 : a.eval (.tmp 5) = .int .i64 k := hS.2.2.1 5 (noDst_of (by kernel_rfl))
        refine op_value (v := .int .i64 k) (w' := w1) rfl rfl (by intro ev ht hc hf; rw [← ht] at e5; simp [execOp, hc, hf, e5, go_sem]) ⟨.inl ⟨_, 23, rfl, rfl, rfl⟩, gr_refl _ _, ⟨hG.1, by rw [indD_other (by decide)]; exact hG.2⟩⟩
      · obtain rfl := Option.some.inj hi
        have P10 := hS.2.2.2 10 _ 23 rfl rfl (hall { on := 10, ground := .data } (by simp) rfl)
        replace P10 : a.eval (.tmp 23) = .int .i64 k := P10
        refine op_value (v := .int .i64 ((k : Int) + 1)) (w' := w1) rfl rfl (by intro ev ht hc hf; rw [← ht] at P10; simp [execOp, hc, hf, P10, go_sem, wk]) ⟨.inl ⟨_, 24, rfl, rfl, rfl⟩, gr_refl _ _, ⟨hG.1, by rw [indD_other (by decide)]; exact hG.2⟩⟩
      · obtain rfl := Option.some.inj hi
        have P9 := hS.2.2.2 9 _ 22 rfl rfl (hall { on := 9, ground := .data } (by simp) rfl)
        replace P9 : a.eval (.tmp 22) = .string s := P9
        have P11 := hS.2.2.2 11 _ 24 rfl rfl (hall { on := 11, ground := .data } (by simp) rfl)
        replace P11 : a.eval (.tmp 24) = .int .i64 ((k : Int) + 1) := P11
        refine op_value (v := .string (s.extract (k + 1) s.size)) (w' := w1) rfl rfl (by intro ev ht hc hf; rw [← ht] at P9 P11; simp [execOp, hc, hf, P9, P11, go_sem, hk1, hk1s, hk1n, hk1N]) ⟨.inl ⟨_, 25, rfl, rfl, ⟨_, rfl, extract_small _ _ _⟩⟩, gr_refl _ _, ⟨hG.1, by rw [indD_other (by decide)]; exact hG.2⟩⟩
      · obtain rfl := Option.some.inj hi
        have P8 := hS.2.2.2 8 _ 21 rfl rfl (hall { on := 8, ground := .data } (by simp) rfl)
        obtain ⟨y, ey, hy⟩ := P8
        have P12 := hS.2.2.2 12 _ 25 rfl rfl (hall { on := 12, ground := .data } (by simp) rfl)
        obtain ⟨x, ex, hx⟩ := P12
        have hcat : ¬ 9223372036854775807 < y.size + x.size := by omega
        refine op_value (v := .string (y ++ x)) (w' := w1) rfl rfl (by intro ev ht hc hf; rw [← ht] at ey ex; simp [execOp, hc, hf, ey, ex, go_sem, hcat]) ⟨.inl ⟨_, 26, rfl, rfl, ⟨_, rfl, by rw [ByteArray.size_append]; omega⟩⟩, gr_refl _ _, ⟨hG.1, by rw [indD_other (by decide)]; exact hG.2⟩⟩
      · obtain rfl := Option.some.inj hi
        have P13 := hS.2.2.2 13 _ 26 rfl rfl (hall { on := 13, ground := .data } (by simp) rfl)
        obtain ⟨x, ex, hx⟩ := P13
        refine op_value (v := .string x) (w' := w1) rfl rfl (by intro ev ht hc hf; rw [← ht] at ex; simp [execOp, hc, hf, ex, go_sem]) ⟨.inl ⟨_, 4, rfl, rfl, ⟨x, rfl, hx⟩⟩, gr_refl _ _, ⟨hG.1, by rw [indD_other (by decide)]; exact hG.2⟩⟩
    case fin =>
      intro listed a w1 hall hS hG
      obtain ⟨x, e4, hx⟩ := hS.2.2.2 14 _ 4 rfl rfl (hall 14 (by decide))
      have e4' : a.tmps.getD 4 undef = .string x := e4
      have hd : a.defers = [] := hS.1
      refine hK _ _ ?_
      clear hK hS hall
      go_wp2_with fail
      refine bodyPost_ret (v := .string x) ((results_tmp Tryd.results43 _ _ _).trans (by rw [e4'])) hd ⟨x, rfl, hx, hG.2.mono (by have := indD_le listed 5; omega), hG.1⟩
/-- What a draw of a deed returns. -/
def DeedSeen (w : World) (e : Ending) (w' : World) : Prop := ∃ x y z : Int, e = .returned (.agg #[.int .i64 x, .int .i64 y, .int .i64 z]) ∧ Below w.heap.size w w'
set_option maxHeartbeats 2000000 in
theorem drawDeedText_any (w : World) (a : Option Addr) (len cap : Nat) (zs : List Int) (h : IsRow w a len cap zs) : Calls Tryd.prog 10 #[.slice a len cap] w (DeedSeen w) := by
  go_enter Tryd.func10, Tryd.ntmps10
  go_wp2_with fail
  refine (open_any _ _ _ _ zs (h.below ((Below.refl _ _).alloc (Nat.le_refl _) _))).mono ?_
  rintro e w1 ⟨rfl, hR1, hh1, hzR1⟩
  try simp only [World.size_alloc] at hzR1
  try simp only [World.size_alloc] at hR1
  obtain ⟨hc1, hf1⟩ := bcell hh1
  have hz1 := hh1.size
  try simp only [World.size_alloc] at hz1
  have hz1_0 : w.heap.size < w1.heap.size := by omega
  have kb1_0_0 : w1.cell? ⟨w.heap.size, 0, none⟩ = some (.int .i64 0) := by go_simp
  have kf1_0_0 : w1.frozen? ⟨w.heap.size, 0, none⟩ = false := by go_simp
  have kb1_0_1 : w1.cell? ⟨w.heap.size, 1, none⟩ = some (.int .i64 0) := by go_simp
  have kf1_0_1 : w1.frozen? ⟨w.heap.size, 1, none⟩ = false := by go_simp
  have kb1_0_2 : w1.cell? ⟨w.heap.size, 2, none⟩ = some (.int .i64 0) := by go_simp
  have kf1_0_2 : w1.frozen? ⟨w.heap.size, 2, none⟩ = false := by go_simp
  clear hc1 hf1
  go_wp2_with fail
  refine (l20Deed_any (w.heap.size + 1) 0 _ hR1 (by omega)).mono ?_
  rintro e w2 ⟨x, y, z, rfl, hR2, hh2⟩
  obtain ⟨hc2, hf2⟩ := gcell hh2
  have hz2 := hh2.size
  have hz2_0 : w.heap.size < w2.heap.size := by omega
  have hn2_0 : ¬ w.heap.size = (w.heap.size + 1) := by omega
  have kb2_0_0 : w2.cell? ⟨w.heap.size, 0, none⟩ = some (.int .i64 0) := by go_simp
  have kf2_0_0 : w2.frozen? ⟨w.heap.size, 0, none⟩ = false := by go_simp
  have kb2_0_1 : w2.cell? ⟨w.heap.size, 1, none⟩ = some (.int .i64 0) := by go_simp
  have kf2_0_1 : w2.frozen? ⟨w.heap.size, 1, none⟩ = false := by go_simp
  have kb2_0_2 : w2.cell? ⟨w.heap.size, 2, none⟩ = some (.int .i64 0) := by go_simp
  have kf2_0_2 : w2.frozen? ⟨w.heap.size, 2, none⟩ = false := by go_simp
  clear hc2 hf2
  go_wp2_with fail
  refine bodyPost_ret (v := .agg #[.int .i64 x, .int .i64 y, .int .i64 z]) (by simp [results, Tryd.results10, go_sem, kb2_0_0, kb2_0_1, kb2_0_2]) rfl ⟨x, y, z, rfl, ?_⟩
  (repeat (first | exact Below.refl _ _ | refine Below.setCell ?_ (by first | omega | (simp <;> omega)) _ | refine Below.alloc ?_ (by first | omega | (simp <;> omega)) _ | refine Below.drew ?_ | refine Below.trans ?_ (Below.mono (by assumption) (by first | omega | (simp <;> omega))) | refine Below.grown ?_ (by assumption) (by first | omega | (simp <;> omega)) (fun k e => by cases e; first | omega | (simp <;> omega))))
/-- What a draw of a text returns, nothing that was there being written. -/
def TextSeen (w : World) (e : Ending) (w' : World) : Prop := ∃ t : ByteArray, e = .returned (.string t) ∧ t.size ≤ 1000 ∧ Below w.heap.size w w'
theorem deedT_len (x : DeedN) : (deedT x).length ≤ 12 := by
  unfold deedT
  have h1 := digN_len x.a
  have h2 := digN_len x.b
  split
  · split
    · simp only [List.length_append, List.length_cons, List.length_nil]; omega
    · simp
  · split
    · split
      · simp
      · split
        · simp
        · split
          · simp
          · split <;> simp
    · simp
set_option maxHeartbeats 2000000 in
theorem drawReadDeed_any (w : World) (a : Option Addr) (len cap : Nat) (zs : List Int) (h : IsRow w a len cap zs) : Calls Tryd.prog 15 #[.slice a len cap] w (TextSeen w) := by
  go_enter Tryd.func15, Tryd.ntmps15
  go_wp2_with fail
  refine (open_any _ _ _ _ zs h).mono ?_
  rintro e w1 ⟨rfl, hR1, hh1, hzR1⟩
  go_wp2_with fail
  refine (l20Deed_any w.heap.size 0 _ hR1 (by omega)).mono ?_
  rintro e w2 ⟨x, y, z, rfl, hR2, hh2⟩
  have hg2 := hh2
  have hs := deedT_len ⟨x, y, z⟩
  have hdt := fun W => specText_any x y z W
  obtain ⟨t, ht⟩ : ∃ t, txt (deedT ⟨x, y, z⟩) = t := ⟨_, rfl⟩
  have hts : t.size ≤ 12 := by rw [← ht, txt_size]; exact hs
  rw [ht] at hdt
  have HDT := Lib.hid hdt
  clear hdt ht hs
  have hB2 : Below w.heap.size w w2 := hh1.grown hh2 hh1.size (fun k e => by cases e; exact Nat.le_refl _)
  go_wp2_with fail
  refine (HDT.out _).mono ?_
  rintro e w3 ⟨rfl, hb3⟩
  have hR3 := hR2.below hb3 (Nat.le_refl _)
  have hB3 := hB2.trans (hb3.mono hB2.size)
  clear hb3 hh2 hh1 hg2
  go_wp2_with fail
  refine (pick_any w.heap.size _ 3 _ hR3 (by omega) (by omega)).mono ?_
  rintro e w4 ⟨v, rfl, va, vb, hR4, hh4⟩
  have hB4 : Below w.heap.size w w4 := hB3.grown hh4 hB3.size (fun k e => by cases e; exact Nat.le_refl _)
  by_cases hv : v = 0
  · subst hv
    clear va vb
    go_wp2_with fail
    refine (l20Spoil_any w.heap.size _ t _ hR4 (by omega) (by omega)).mono ?_
    rintro e w5 ⟨u, rfl, hu, hR5, hh5⟩
    have hB5 : Below w.heap.size w w5 := hB4.grown hh5 hB4.size (fun k e => by cases e; exact Nat.le_refl _)
    go_wp2
    go_ret
    exact ⟨u, rfl, by omega, hB5⟩
  · clear va vb
    go_wp2
    go_ret
    exact ⟨t, rfl, by omega, hB4⟩
end Go.Proofs.YtigcomhhgfgmgaaDoor
namespace Go.Proofs.YtigcomhhgfgmgaaDoor
open Go.RowKit
theorem pairB_neg (p q : Int) : pairB (-p) (-q) = pairB p q := by
  have h : ∀ n, numB (-n) = numB n := fun n => by
    simp only [numB]
    exact decide_eq_decide.2 (by omega)
  simp [pairB, h]
theorem implPairOk_neg (p q : Int) (w : World) : Calls Tryd.prog 38 #[pr (-p) (-q)] w fun e w' => e = .returned (.bool (pairB p q)) ∧ Below w.heap.size w w' := by rw [← pairB_neg]; exact implPairOk_any _ _ _
set_option maxHeartbeats 400000 in
theorem alive_any (w : World) : Calls Tryd.prog 13 #[] w fun e w' => e = .returned (.bool true) ∧ Below w.heap.size w w' := by
  go_enter Tryd.func13, Tryd.ntmps13
  go_wp2_with fail
  refine (implPairOk_yes 1 (-1) _ (by decide)).mono ?_
  rintro e w1 ⟨rfl, hh1⟩
  obtain ⟨hc1, hf1⟩ := bcell hh1
  have hz1 := hh1.size
  try simp only [World.size_alloc] at hz1
  go_wp2_with fail
  refine (implPairOk_no 5 0 _ (by decide)).mono ?_
  rintro e w2 ⟨rfl, hh2⟩
  obtain ⟨hc2, hf2⟩ := bcell hh2
  have hz2 := hh2.size
  try simp only [World.size_alloc] at hz2
  go_wp2
  go_ret
  exact ⟨rfl, by (repeat (first | exact Below.refl _ _ | refine Below.setCell ?_ (by first | omega | (simp <;> omega)) _ | refine Below.alloc ?_ (by first | omega | (simp <;> omega)) _ | refine Below.drew ?_ | refine Below.trans ?_ (Below.mono (by assumption) (by first | omega | (simp <;> omega))) | refine Below.grown ?_ (by assumption) (by first | omega | (simp <;> omega)) (fun k e => by cases e; first | omega | (simp <;> omega))))⟩
theorem nine {p : Int} (h1 : -4 ≤ p) (h2 : p ≤ 4) : p = -4 ∨ p = -3 ∨ p = -2 ∨ p = -1 ∨ p = 0 ∨ p = 1 ∨ p = 2 ∨ p = 3 ∨ p = 4 := by omega
theorem weight_mod (p q : Int) (h : pairB p q = true) : ((wrap64 ((weightV p q).tmod 4 + 4)).tmod 4 == (p * p).tmod 2) = true := by
  obtain ⟨⟨h1, h2⟩, h3, h4⟩ := pairB_true h
  rw [weightV, if_pos h]
  clear h
  rcases nine h1 h2 with rfl | rfl | rfl | rfl | rfl | rfl | rfl | rfl | rfl <;> rcases nine h3 h4 with rfl | rfl | rfl | rfl | rfl | rfl | rfl | rfl | rfl <;> decide +kernel
theorem pairB_turn (p q : Int) (h : pairB p q = true) : pairB (-p) q = true := by
  obtain ⟨⟨h1, h2⟩, h3, h4⟩ := pairB_true h
  exact pairB_mk (by omega) (by omega) h3 h4
end Go.Proofs.YtigcomhhgfgmgaaDoor
