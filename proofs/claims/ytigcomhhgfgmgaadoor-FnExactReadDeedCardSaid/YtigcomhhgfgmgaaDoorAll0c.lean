/- Contracts and laws that the statement's proof stands on, one text behind the other. -/
import Derived.Test.YtigcomhhgfgmgaaDoorAll0b
import Derived.Shelf.Strings.Builder1
import Derived.Lib.Strings
import Derived.RangeFuncBox
import Derived.BigQuiet
import Derived.OwnWalk
import Derived.Lib.IndexLaws

namespace Go.Proofs.YtigcomhhgfgmgaaDoor
open Go.RowKit
theorem deedV_text {x : DeedN} (h : deedT x ≠ []) : deedV (deedT x) = (x, true) := by rw [deedV, readN_text h]
theorem deedV_yes {l : List UInt8} {x : DeedN} (h : deedV l = (x, true)) : deedT x = l ∧ l ≠ [] := by
  unfold deedV at h
  split at h
  · rename_i y hy
    injection h with h1 _
    subst h1
    exact readN_some hy
  · cases h
theorem deedV_no {l : List UInt8} {x : DeedN} (h : deedV l = (x, false)) : x = ⟨0, 0, 0⟩ := by
  unfold deedV at h
  split at h
  · cases h
  · injection h with h1 _; exact h1.symm
theorem deedV_space (l : List UInt8) : deedV (l ++ [32]) = (⟨0, 0, 0⟩, false) := by rw [deedV, readN_space]
set_option maxRecDepth 100000 in
set_option maxHeartbeats 2000000 in
theorem fnExactReadDeed_walk (s : ByteArray) (w : World) (ht : PowTab w) (he : Errs w) :
    Calls Tryd.prog 7 #[.string s] w fun e w' => e = .returned (.bool true) ∧ Below w.heap.size w w' := by
  by_cases hbig : 1048576 < s.size
  · have hbi : (1048576 : Int) < (s.size : Int) := by omega
    go_enter Tryd.func7, Tryd.ntmps7
    go_wp2
    go_ret
    exact ⟨rfl, Below.refl _ _⟩
  · have hbi : ¬ (1048576 : Int) < (s.size : Int) := by omega
    have hS := fun W => specDeedRead_any s W (by omega)
    have hI := fun W hT hE => implDeedRead_any s W (by omega) hT hE
    obtain ⟨⟨k, a, b⟩, ok, hv⟩ : ∃ x ok, deedV s.data.toList = (x, ok) := ⟨_, _, rfl⟩
    rw [hv] at hS hI
    dsimp only at hS hI
    have HS := Lib.hid hS
    have HI := Lib.hid hI
    clear hS hI hv
    go_enter Tryd.func7, Tryd.ntmps7
    have HR0_tab := Lib.hid ht
    have HR0_err := Lib.hid he
    clear ht he
    go_wp2_with fail
    refine (HS.out _).mono ?_
    rintro e w1 ⟨rfl, hb1⟩
    obtain ⟨hc1, hf1⟩ := bcell hb1
    have hz1 := hb1.size
    try simp at hz1
    have hN1 : Below w.heap.size w w1 := by
      refine Below.trans ?_ (hb1.mono (by first | omega | (simp <;> omega)))
      (repeat (first | exact Below.refl _ _ | refine Below.setCell ?_ (by first | omega | (simp <;> omega)) _ | refine Below.alloc ?_ (by first | omega | (simp <;> omega)) _ | refine Below.drew ?_))
    have hn1 := hN1.size
    have HB1 := Lib.hid ((Below.refl w.heap.size w).trans (hN1.mono (by first | exact Nat.le_refl _ | omega)))
    have HR1_tab := Lib.hid (HR0_tab.out.below hN1 (by first | exact Nat.le_refl _ | omega))
    have HR1_err := Lib.hid (HR0_err.out.below hN1 (by first | exact Nat.le_refl _ | omega))
    clear hc1 hf1 hb1 hN1 hz1
    go_wp2_with fail
    refine calls_namedD ?_
    intro w2 hw2
    have hN2 : Below w1.heap.size w1 w2 := by
      rw [hw2]
      (repeat (first | exact Below.refl _ _ | refine Below.setCell ?_ (by first | omega | (simp <;> omega)) _ | refine Below.alloc ?_ (by first | omega | (simp <;> omega)) _ | refine Below.drew ?_))
    have hz2 : w2.heap.size = _ := congrArg (fun W : World => W.heap.size) hw2
    try simp at hz2
    have hn2 := hN2.size
    have hs2_0 : w1.heap.size < w2.heap.size := by omega
    have kb2_0_0 : w2.cell? ⟨w1.heap.size, 0, none⟩ = some (.int .i64 k) := by rw [hw2]; go_simp
    have kb2_0_1 : w2.cell? ⟨w1.heap.size, 1, none⟩ = some (.int .i64 a) := by rw [hw2]; go_simp
    have kb2_0_2 : w2.cell? ⟨w1.heap.size, 2, none⟩ = some (.int .i64 b) := by rw [hw2]; go_simp
    have HB2 := Lib.hid (HB1.out.trans (hN2.mono (by first | exact Nat.le_refl _ | omega)))
    have HR2_tab := Lib.hid (HR1_tab.out.below hN2 (by first | exact Nat.le_refl _ | omega))
    have HR2_err := Lib.hid (HR1_err.out.below hN2 (by first | exact Nat.le_refl _ | omega))
    clear hw2 hN2 hz2
    refine (HI.out _ HR2_tab.out HR2_err.out).mono ?_
    rintro e w3 ⟨rfl, hb3⟩
    obtain ⟨hc3, hf3⟩ := bcell hb3
    have hz3 := hb3.size
    try simp at hz3
    have hN3 : Below w2.heap.size w2 w3 := by
      refine Below.trans ?_ (hb3.mono (by first | omega | (simp <;> omega)))
      (repeat (first | exact Below.refl _ _ | refine Below.setCell ?_ (by first | omega | (simp <;> omega)) _ | refine Below.alloc ?_ (by first | omega | (simp <;> omega)) _ | refine Below.drew ?_))
    have hn3 := hN3.size
    have hs3_0 : w1.heap.size < w3.heap.size := by omega
    have kb3_0_0 : w3.cell? ⟨w1.heap.size, 0, none⟩ = some (.int .i64 k) := by go_simp
    have kb3_0_1 : w3.cell? ⟨w1.heap.size, 1, none⟩ = some (.int .i64 a) := by go_simp
    have kb3_0_2 : w3.cell? ⟨w1.heap.size, 2, none⟩ = some (.int .i64 b) := by go_simp
    have HB3 := Lib.hid (HB2.out.trans (hN3.mono (by first | exact Nat.le_refl _ | omega)))
    have HR3_tab := Lib.hid (HR2_tab.out.below hN3 (by first | exact Nat.le_refl _ | omega))
    have HR3_err := Lib.hid (HR2_err.out.below hN3 (by first | exact Nat.le_refl _ | omega))
    clear hc3 hf3 hb3 hN3 hz3
    go_wp2_with fail
    refine calls_namedD ?_
    intro w4 hw4
    have hN4 : Below w3.heap.size w3 w4 := by
      rw [hw4]
      (repeat (first | exact Below.refl _ _ | refine Below.setCell ?_ (by first | omega | (simp <;> omega)) _ | refine Below.alloc ?_ (by first | omega | (simp <;> omega)) _ | refine Below.drew ?_))
    have hz4 : w4.heap.size = _ := congrArg (fun W : World => W.heap.size) hw4
    try simp at hz4
    have hn4 := hN4.size
    have hs4_0 : w1.heap.size < w4.heap.size := by omega
    have hs4_1 : w3.heap.size < w4.heap.size := by omega
    have kb4_0_0 : w4.cell? ⟨w1.heap.size, 0, none⟩ = some (.int .i64 k) := by rw [hw4]; go_simp
    have kb4_0_1 : w4.cell? ⟨w1.heap.size, 1, none⟩ = some (.int .i64 a) := by rw [hw4]; go_simp
    have kb4_0_2 : w4.cell? ⟨w1.heap.size, 2, none⟩ = some (.int .i64 b) := by rw [hw4]; go_simp
    have kb4_1_0 : w4.cell? ⟨w3.heap.size, 0, none⟩ = some (.int .i64 k) := by rw [hw4]; go_simp
    have kb4_1_1 : w4.cell? ⟨w3.heap.size, 1, none⟩ = some (.int .i64 a) := by rw [hw4]; go_simp
    have kb4_1_2 : w4.cell? ⟨w3.heap.size, 2, none⟩ = some (.int .i64 b) := by rw [hw4]; go_simp
    have HB4 := Lib.hid (HB3.out.trans (hN4.mono (by first | exact Nat.le_refl _ | omega)))
    have HR4_tab := Lib.hid (HR3_tab.out.below hN4 (by first | exact Nat.le_refl _ | omega))
    have HR4_err := Lib.hid (HR3_err.out.below hN4 (by first | exact Nat.le_refl _ | omega))
    clear hw4 hN4 hz4
    refine (eqDeed_any k a b _).mono ?_
    rintro e w5 ⟨rfl, hb5⟩
    obtain ⟨hc5, hf5⟩ := bcell hb5
    have hz5 := hb5.size
    try simp at hz5
    have hN5 : Below w4.heap.size w4 w5 := by
      refine Below.trans ?_ (hb5.mono (by first | omega | (simp <;> omega)))
      (repeat (first | exact Below.refl _ _ | refine Below.setCell ?_ (by first | omega | (simp <;> omega)) _ | refine Below.alloc ?_ (by first | omega | (simp <;> omega)) _ | refine Below.drew ?_))
    have hn5 := hN5.size
    have hs5_0 : w1.heap.size < w5.heap.size := by omega
    have hs5_1 : w3.heap.size < w5.heap.size := by omega
    have kb5_0_0 : w5.cell? ⟨w1.heap.size, 0, none⟩ = some (.int .i64 k) := by go_simp
    have kb5_0_1 : w5.cell? ⟨w1.heap.size, 1, none⟩ = some (.int .i64 a) := by go_simp
    have kb5_0_2 : w5.cell? ⟨w1.heap.size, 2, none⟩ = some (.int .i64 b) := by go_simp
    have kb5_1_0 : w5.cell? ⟨w3.heap.size, 0, none⟩ = some (.int .i64 k) := by go_simp
    have kb5_1_1 : w5.cell? ⟨w3.heap.size, 1, none⟩ = some (.int .i64 a) := by go_simp
    have kb5_1_2 : w5.cell? ⟨w3.heap.size, 2, none⟩ = some (.int .i64 b) := by go_simp
    have HB5 := Lib.hid (HB4.out.trans (hN5.mono (by first | exact Nat.le_refl _ | omega)))
    have HR5_tab := Lib.hid (HR4_tab.out.below hN5 (by first | exact Nat.le_refl _ | omega))
    have HR5_err := Lib.hid (HR4_err.out.below hN5 (by first | exact Nat.le_refl _ | omega))
    clear hc5 hf5 hb5 hN5 hz5
    go_wp2
    go_ret
    exact ⟨rfl, by first | exact HB5.out | exact (HB5.out).alloc (HB5.out).size _⟩
set_option maxRecDepth 100000 in
set_option maxHeartbeats 2000000 in
theorem fnDeedText_walk (a : Option Addr) (len cap : Nat) (z : List Int) (w : World) (w0 : IsRow w a len cap z) (ht : PowTab w) (he : Errs w) :
    Calls Tryd.prog 3 #[.slice a len cap] w fun e w' => e = .returned (.bool true) ∧ Below w.heap.size w w' := by
  by_cases hbig : 1048576 < len
  · go_enter Tryd.func3, Tryd.ntmps3
    go_wp2
    go_ret
    exact ⟨rfl, Below.refl _ _⟩
  · have hsm : len ≤ 1048576 := by omega
    go_enter Tryd.func3, Tryd.ntmps3
    go_wp2_with fail
    refine (drawDeedText_any _ _ _ _ z w0).mono ?_
    rintro e w1 ⟨k, x, y, rfl, hh1⟩
    have hz1 := hh1.size
    obtain ⟨hc1, hf1⟩ := bcell hh1
    have hS := fun W => specText_any k x y W
    have hI := fun W hT => implText_any k x y W hT
    have hsz := deedT_len ⟨k, x, y⟩
    have hR := fun (h : deedT ⟨k, x, y⟩ ≠ []) W hT hE => implDeedRead_any (txt (deedT ⟨k, x, y⟩)) W (by rw [txt_size]; omega) hT hE
    simp only [txt_list] at hR
    have hem : (txt (deedT ⟨k, x, y⟩)).toList.isEmpty = (deedT ⟨k, x, y⟩).isEmpty := by rw [bl_toList]; rfl
    obtain ⟨t, htx⟩ : ∃ t, txt (deedT ⟨k, x, y⟩) = t := ⟨_, rfl⟩
    rw [htx] at hS hI hR hem
    have hsame := txt_same t
    have HS := Lib.hid hS
    have HI := Lib.hid hI
    have HRR := Lib.hid hR
    have HEM := Lib.hid hem
    clear hS hI hR hem htx hsz
    have HB1 := Lib.hid hh1
    have HR1_tab := Lib.hid (ht.below hh1 (Nat.le_refl _))
    have HR1_err := Lib.hid (he.below hh1 (Nat.le_refl _))
    clear hc1 hf1 hh1 ht he
    go_wp2_with fail
    refine calls_namedD ?_
    intro w2 hw2
    have hN2 : Below w1.heap.size w1 w2 := by
      rw [hw2]
      (repeat (first | exact Below.refl _ _ | refine Below.setCell ?_ (by first | omega | (simp <;> omega)) _ | refine Below.alloc ?_ (by first | omega | (simp <;> omega)) _ | refine Below.drew ?_))
    have hz2 : w2.heap.size = _ := congrArg (fun W : World => W.heap.size) hw2
    try simp at hz2
    have hn2 := hN2.size
    have hs2_0 : w1.heap.size < w2.heap.size := by omega
    have kb2_0_0 : w2.cell? ⟨w1.heap.size, 0, none⟩ = some (.int .i64 k) := by rw [hw2]; go_simp
    have kb2_0_1 : w2.cell? ⟨w1.heap.size, 1, none⟩ = some (.int .i64 x) := by rw [hw2]; go_simp
    have kb2_0_2 : w2.cell? ⟨w1.heap.size, 2, none⟩ = some (.int .i64 y) := by rw [hw2]; go_simp
    have HB2 := Lib.hid (HB1.out.trans (hN2.mono (by first | exact Nat.le_refl _ | omega)))
    have HR2_tab := Lib.hid (HR1_tab.out.below hN2 (by first | exact Nat.le_refl _ | omega))
    have HR2_err := Lib.hid (HR1_err.out.below hN2 (by first | exact Nat.le_refl _ | omega))
    clear hw2 hN2 hz2
    refine (HI.out _ HR2_tab.out).mono ?_
    rintro e w3 ⟨rfl, hb3⟩
    obtain ⟨hc3, hf3⟩ := bcell hb3
    have hz3 := hb3.size
    try simp at hz3
    have hN3 : Below w2.heap.size w2 w3 := by
      refine Below.trans ?_ (hb3.mono (by first | omega | (simp <;> omega)))
      (repeat (first | exact Below.refl _ _ | refine Below.setCell ?_ (by first | omega | (simp <;> omega)) _ | refine Below.alloc ?_ (by first | omega | (simp <;> omega)) _ | refine Below.drew ?_))
    have hn3 := hN3.size
    have hs3_0 : w1.heap.size < w3.heap.size := by omega
    have kb3_0_0 : w3.cell? ⟨w1.heap.size, 0, none⟩ = some (.int .i64 k) := by go_simp
    have kb3_0_1 : w3.cell? ⟨w1.heap.size, 1, none⟩ = some (.int .i64 x) := by go_simp
    have kb3_0_2 : w3.cell? ⟨w1.heap.size, 2, none⟩ = some (.int .i64 y) := by go_simp
    have HB3 := Lib.hid (HB2.out.trans (hN3.mono (by first | exact Nat.le_refl _ | omega)))
    have HR3_tab := Lib.hid (HR2_tab.out.below hN3 (by first | exact Nat.le_refl _ | omega))
    have HR3_err := Lib.hid (HR2_err.out.below hN3 (by first | exact Nat.le_refl _ | omega))
    clear hc3 hf3 hb3 hN3 hz3
    go_wp2_with fail
    refine (HS.out _).mono ?_
    rintro e w4 ⟨rfl, hb4⟩
    obtain ⟨hc4, hf4⟩ := bcell hb4
    have hz4 := hb4.size
    try simp at hz4
    have hN4 : Below w3.heap.size w3 w4 := by
      refine Below.trans ?_ (hb4.mono (by first | omega | (simp <;> omega)))
      (repeat (first | exact Below.refl _ _ | refine Below.setCell ?_ (by first | omega | (simp <;> omega)) _ | refine Below.alloc ?_ (by first | omega | (simp <;> omega)) _ | refine Below.drew ?_))
    have hn4 := hN4.size
    have hs4_0 : w1.heap.size < w4.heap.size := by omega
    have kb4_0_0 : w4.cell? ⟨w1.heap.size, 0, none⟩ = some (.int .i64 k) := by go_simp
    have kb4_0_1 : w4.cell? ⟨w1.heap.size, 1, none⟩ = some (.int .i64 x) := by go_simp
    have kb4_0_2 : w4.cell? ⟨w1.heap.size, 2, none⟩ = some (.int .i64 y) := by go_simp
    have HB4 := Lib.hid (HB3.out.trans (hN4.mono (by first | exact Nat.le_refl _ | omega)))
    have HR4_tab := Lib.hid (HR3_tab.out.below hN4 (by first | exact Nat.le_refl _ | omega))
    have HR4_err := Lib.hid (HR3_err.out.below hN4 (by first | exact Nat.le_refl _ | omega))
    clear hc4 hf4 hb4 hN4 hz4
    by_cases hd : deedT ⟨k, x, y⟩ = []
    · have hemp : t.toList.isEmpty = true := by rw [HEM.out, hd]; rfl
      clear hd
      go_wp2_with fail
      refine (alive_any _).mono ?_
      rintro e w5 ⟨rfl, hb5⟩
      obtain ⟨hc5, hf5⟩ := bcell hb5
      have hz5 := hb5.size
      try simp at hz5
      have hN5 : Below w4.heap.size w4 w5 := by
        refine Below.trans ?_ (hb5.mono (by first | omega | (simp <;> omega)))
        (repeat (first | exact Below.refl _ _ | refine Below.setCell ?_ (by first | omega | (simp <;> omega)) _ | refine Below.alloc ?_ (by first | omega | (simp <;> omega)) _ | refine Below.drew ?_))
      have hn5 := hN5.size
      have hs5_0 : w1.heap.size < w5.heap.size := by omega
      have kb5_0_0 : w5.cell? ⟨w1.heap.size, 0, none⟩ = some (.int .i64 k) := by go_simp
      have kb5_0_1 : w5.cell? ⟨w1.heap.size, 1, none⟩ = some (.int .i64 x) := by go_simp
      have kb5_0_2 : w5.cell? ⟨w1.heap.size, 2, none⟩ = some (.int .i64 y) := by go_simp
      have HB5 := Lib.hid (HB4.out.trans (hN5.mono (by first | exact Nat.le_refl _ | omega)))
      have HR5_tab := Lib.hid (HR4_tab.out.below hN5 (by first | exact Nat.le_refl _ | omega))
      have HR5_err := Lib.hid (HR4_err.out.below hN5 (by first | exact Nat.le_refl _ | omega))
      clear hc5 hf5 hb5 hN5 hz5
      go_wp2
      go_ret
      exact ⟨rfl, by first | exact HB5.out | exact (HB5.out).alloc (HB5.out).size _⟩
    · have hemp : t.toList.isEmpty = false := by
        rw [HEM.out]
        cases hc : deedT ⟨k, x, y⟩ with
        | nil => exact absurd hc hd
        | cons _ _ => rfl
      have hr := HRR.out hd
      rw [deedV_text hd] at hr
      have HR := Lib.hid hr
      clear hd hr HRR
      go_wp2_with fail
      refine (HR.out _ HR4_tab.out HR4_err.out).mono ?_
      rintro e w5 ⟨rfl, hb5⟩
      obtain ⟨hc5, hf5⟩ := bcell hb5
      have hz5 := hb5.size
      try simp at hz5
      have hN5 : Below w4.heap.size w4 w5 := by
        refine Below.trans ?_ (hb5.mono (by first | omega | (simp <;> omega)))
        (repeat (first | exact Below.refl _ _ | refine Below.setCell ?_ (by first | omega | (simp <;> omega)) _ | refine Below.alloc ?_ (by first | omega | (simp <;> omega)) _ | refine Below.drew ?_))
      have hn5 := hN5.size
      have hs5_0 : w1.heap.size < w5.heap.size := by omega
      have kb5_0_0 : w5.cell? ⟨w1.heap.size, 0, none⟩ = some (.int .i64 k) := by go_simp
      have kb5_0_1 : w5.cell? ⟨w1.heap.size, 1, none⟩ = some (.int .i64 x) := by go_simp
      have kb5_0_2 : w5.cell? ⟨w1.heap.size, 2, none⟩ = some (.int .i64 y) := by go_simp
      have HB5 := Lib.hid (HB4.out.trans (hN5.mono (by first | exact Nat.le_refl _ | omega)))
      have HR5_tab := Lib.hid (HR4_tab.out.below hN5 (by first | exact Nat.le_refl _ | omega))
      have HR5_err := Lib.hid (HR4_err.out.below hN5 (by first | exact Nat.le_refl _ | omega))
      clear hc5 hf5 hb5 hN5 hz5
      go_wp2
      go_ret
      exact ⟨rfl, by first | exact HB5.out | exact (HB5.out).alloc (HB5.out).size _⟩
set_option maxRecDepth 100000 in
set_option maxHeartbeats 2000000 in
theorem fnReadDeed_walk (a : Option Addr) (len cap : Nat) (z : List Int) (w : World) (w0 : IsRow w a len cap z) (ht : PowTab w) (he : Errs w) :
    Calls Tryd.prog 4 #[.slice a len cap] w fun e w' => e = .returned (.bool true) ∧ Below w.heap.size w w' := by
  by_cases hbig : 1048576 < len
  · go_enter Tryd.func4, Tryd.ntmps4
    go_wp2
    go_ret
    exact ⟨rfl, Below.refl _ _⟩
  · have hsm : len ≤ 1048576 := by omega
    go_enter Tryd.func4, Tryd.ntmps4
    go_wp2_with fail
    refine (drawReadDeed_any _ _ _ _ z w0).mono ?_
    rintro e w1 ⟨t, rfl, hts, hh1⟩
    have hz1 := hh1.size
    obtain ⟨hc1, hf1⟩ := bcell hh1
    have hS := fun W => specDeedRead_any t W (by omega)
    have hI := fun W hT hE => implDeedRead_any t W (by omega) hT hE
    have hM := fun W hT hE => implDeedRead_any (t ++ ⟨#[32]⟩) W (by rw [ByteArray.size_append]; show t.size + 1 ≤ _; omega) hT hE
    have hml : (t ++ ⟨#[32]⟩ : ByteArray).data.toList = t.data.toList ++ [32] := by rw [ByteArray.data_append, Array.toList_append]
    rw [hml, deedV_space] at hM
    dsimp only at hM
    have hcat : ¬ 9223372036854775807 < t.size + 1 := by omega
    obtain ⟨⟨k, x, y⟩, ok, hv⟩ : ∃ x ok, deedV t.data.toList = (x, ok) := ⟨_, _, rfl⟩
    rw [hv] at hS hI
    dsimp only at hS hI
    have HS := Lib.hid hS
    have HI := Lib.hid hI
    have HM := Lib.hid hM
    clear hS hI hM hml
    cases ok with
    | false =>
      have hz := deedV_no hv
      injection hz with h1 h2 h3
      subst h1 h2 h3
      clear hv
      have HB1 := Lib.hid hh1
      have HR1_tab := Lib.hid (ht.below hh1 (Nat.le_refl _))
      have HR1_err := Lib.hid (he.below hh1 (Nat.le_refl _))
      clear hc1 hf1 hh1 ht he
      go_wp2_with fail
      refine (HI.out _ HR1_tab.out HR1_err.out).mono ?_
      rintro e w2 ⟨rfl, hb2⟩
      obtain ⟨hc2, hf2⟩ := bcell hb2
      have hz2 := hb2.size
      try simp at hz2
      have hN2 : Below w1.heap.size w1 w2 := by
        refine Below.trans ?_ (hb2.mono (by first | omega | (simp <;> omega)))
        (repeat (first | exact Below.refl _ _ | refine Below.setCell ?_ (by first | omega | (simp <;> omega)) _ | refine Below.alloc ?_ (by first | omega | (simp <;> omega)) _ | refine Below.drew ?_))
      have hn2 := hN2.size
      have HB2 := Lib.hid (HB1.out.trans (hN2.mono (by first | exact Nat.le_refl _ | omega)))
      have HR2_tab := Lib.hid (HR1_tab.out.below hN2 (by first | exact Nat.le_refl _ | omega))
      have HR2_err := Lib.hid (HR1_err.out.below hN2 (by first | exact Nat.le_refl _ | omega))
      clear hc2 hf2 hb2 hN2 hz2
      go_wp2_with fail
      refine calls_namedD ?_
      intro w3 hw3
      have hN3 : Below w2.heap.size w2 w3 := by
        rw [hw3]
        (repeat (first | exact Below.refl _ _ | refine Below.setCell ?_ (by first | omega | (simp <;> omega)) _ | refine Below.alloc ?_ (by first | omega | (simp <;> omega)) _ | refine Below.drew ?_))
      have hz3 : w3.heap.size = _ := congrArg (fun W : World => W.heap.size) hw3
      try simp at hz3
      have hn3 := hN3.size
      have hs3_0 : w2.heap.size < w3.heap.size := by omega
      have kb3_0_0 : w3.cell? ⟨w2.heap.size, 0, none⟩ = some (.int .i64 0) := by rw [hw3]; go_simp
      have kb3_0_1 : w3.cell? ⟨w2.heap.size, 1, none⟩ = some (.int .i64 0) := by rw [hw3]; go_simp
      have kb3_0_2 : w3.cell? ⟨w2.heap.size, 2, none⟩ = some (.int .i64 0) := by rw [hw3]; go_simp
      have HB3 := Lib.hid (HB2.out.trans (hN3.mono (by first | exact Nat.le_refl _ | omega)))
      have HR3_tab := Lib.hid (HR2_tab.out.below hN3 (by first | exact Nat.le_refl _ | omega))
      have HR3_err := Lib.hid (HR2_err.out.below hN3 (by first | exact Nat.le_refl _ | omega))
      clear hw3 hN3 hz3
      refine (HS.out _).mono ?_
      rintro e w4 ⟨rfl, hb4⟩
      obtain ⟨hc4, hf4⟩ := bcell hb4
      have hz4 := hb4.size
      try simp at hz4
      have hN4 : Below w3.heap.size w3 w4 := by
        refine Below.trans ?_ (hb4.mono (by first | omega | (simp <;> omega)))
        (repeat (first | exact Below.refl _ _ | refine Below.setCell ?_ (by first | omega | (simp <;> omega)) _ | refine Below.alloc ?_ (by first | omega | (simp <;> omega)) _ | refine Below.drew ?_))
      have hn4 := hN4.size
      have hs4_0 : w2.heap.size < w4.heap.size := by omega
      have kb4_0_0 : w4.cell? ⟨w2.heap.size, 0, none⟩ = some (.int .i64 0) := by go_simp
      have kb4_0_1 : w4.cell? ⟨w2.heap.size, 1, none⟩ = some (.int .i64 0) := by go_simp
      have kb4_0_2 : w4.cell? ⟨w2.heap.size, 2, none⟩ = some (.int .i64 0) := by go_simp
      have HB4 := Lib.hid (HB3.out.trans (hN4.mono (by first | exact Nat.le_refl _ | omega)))
      have HR4_tab := Lib.hid (HR3_tab.out.below hN4 (by first | exact Nat.le_refl _ | omega))
      have HR4_err := Lib.hid (HR3_err.out.below hN4 (by first | exact Nat.le_refl _ | omega))
      clear hc4 hf4 hb4 hN4 hz4
      go_wp2_with fail
      refine (alive_any _).mono ?_
      rintro e w5 ⟨rfl, hb5⟩
      obtain ⟨hc5, hf5⟩ := bcell hb5
      have hz5 := hb5.size
      try simp at hz5
      have hN5 : Below w4.heap.size w4 w5 := by
        refine Below.trans ?_ (hb5.mono (by first | omega | (simp <;> omega)))
        (repeat (first | exact Below.refl _ _ | refine Below.setCell ?_ (by first | omega | (simp <;> omega)) _ | refine Below.alloc ?_ (by first | omega | (simp <;> omega)) _ | refine Below.drew ?_))
      have hn5 := hN5.size
      have hs5_0 : w2.heap.size < w5.heap.size := by omega
      have hs5_1 : w4.heap.size < w5.heap.size := by omega
      have kb5_0_0 : w5.cell? ⟨w2.heap.size, 0, none⟩ = some (.int .i64 0) := by go_simp
      have kb5_0_1 : w5.cell? ⟨w2.heap.size, 1, none⟩ = some (.int .i64 0) := by go_simp
      have kb5_0_2 : w5.cell? ⟨w2.heap.size, 2, none⟩ = some (.int .i64 0) := by go_simp
      have kb5_1_0 : w5.cell? ⟨w4.heap.size, 0, none⟩ = some (.int .i64 0) := by go_simp
      have kb5_1_1 : w5.cell? ⟨w4.heap.size, 1, none⟩ = some (.int .i64 0) := by go_simp
      have kb5_1_2 : w5.cell? ⟨w4.heap.size, 2, none⟩ = some (.int .i64 0) := by go_simp
      have HB5 := Lib.hid (HB4.out.trans (hN5.mono (by first | exact Nat.le_refl _ | omega)))
      have HR5_tab := Lib.hid (HR4_tab.out.below hN5 (by first | exact Nat.le_refl _ | omega))
      have HR5_err := Lib.hid (HR4_err.out.below hN5 (by first | exact Nat.le_refl _ | omega))
      clear hc5 hf5 hb5 hN5 hz5
      go_wp2
      go_ret
      exact ⟨rfl, by first | exact HB5.out | exact (HB5.out).alloc (HB5.out).size _⟩
    | true =>
      obtain ⟨h1, _⟩ := deedV_yes hv
      have hD := fun W hT => implText_any k x y W hT
      rw [h1, txt_of] at hD
      have HD := Lib.hid hD
      have hsame := txt_same t
      clear hD h1 hv
      have HB1 := Lib.hid hh1
      have HR1_tab := Lib.hid (ht.below hh1 (Nat.le_refl _))
      have HR1_err := Lib.hid (he.below hh1 (Nat.le_refl _))
      clear hc1 hf1 hh1 ht he
      go_wp2_with fail
      refine (HI.out _ HR1_tab.out HR1_err.out).mono ?_
      rintro e w2 ⟨rfl, hb2⟩
      obtain ⟨hc2, hf2⟩ := bcell hb2
      have hz2 := hb2.size
      try simp at hz2
      have hN2 : Below w1.heap.size w1 w2 := by
        refine Below.trans ?_ (hb2.mono (by first | omega | (simp <;> omega)))
        (repeat (first | exact Below.refl _ _ | refine Below.setCell ?_ (by first | omega | (simp <;> omega)) _ | refine Below.alloc ?_ (by first | omega | (simp <;> omega)) _ | refine Below.drew ?_))
      have hn2 := hN2.size
      have HB2 := Lib.hid (HB1.out.trans (hN2.mono (by first | exact Nat.le_refl _ | omega)))
      have HR2_tab := Lib.hid (HR1_tab.out.below hN2 (by first | exact Nat.le_refl _ | omega))
      have HR2_err := Lib.hid (HR1_err.out.below hN2 (by first | exact Nat.le_refl _ | omega))
      clear hc2 hf2 hb2 hN2 hz2
      go_wp2_with fail
      refine calls_namedD ?_
      intro w3 hw3
      have hN3 : Below w2.heap.size w2 w3 := by
        rw [hw3]
        (repeat (first | exact Below.refl _ _ | refine Below.setCell ?_ (by first | omega | (simp <;> omega)) _ | refine Below.alloc ?_ (by first | omega | (simp <;> omega)) _ | refine Below.drew ?_))
      have hz3 : w3.heap.size = _ := congrArg (fun W : World => W.heap.size) hw3
      try simp at hz3
      have hn3 := hN3.size
      have hs3_0 : w2.heap.size < w3.heap.size := by omega
      have kb3_0_0 : w3.cell? ⟨w2.heap.size, 0, none⟩ = some (.int .i64 k) := by rw [hw3]; go_simp
      have kb3_0_1 : w3.cell? ⟨w2.heap.size, 1, none⟩ = some (.int .i64 x) := by rw [hw3]; go_simp
      have kb3_0_2 : w3.cell? ⟨w2.heap.size, 2, none⟩ = some (.int .i64 y) := by rw [hw3]; go_simp
      have HB3 := Lib.hid (HB2.out.trans (hN3.mono (by first | exact Nat.le_refl _ | omega)))
      have HR3_tab := Lib.hid (HR2_tab.out.below hN3 (by first | exact Nat.le_refl _ | omega))
      have HR3_err := Lib.hid (HR2_err.out.below hN3 (by first | exact Nat.le_refl _ | omega))
      clear hw3 hN3 hz3
      refine (HS.out _).mono ?_
      rintro e w4 ⟨rfl, hb4⟩
      obtain ⟨hc4, hf4⟩ := bcell hb4
      have hz4 := hb4.size
      try simp at hz4
      have hN4 : Below w3.heap.size w3 w4 := by
        refine Below.trans ?_ (hb4.mono (by first | omega | (simp <;> omega)))
        (repeat (first | exact Below.refl _ _ | refine Below.setCell ?_ (by first | omega | (simp <;> omega)) _ | refine Below.alloc ?_ (by first | omega | (simp <;> omega)) _ | refine Below.drew ?_))
      have hn4 := hN4.size
      have hs4_0 : w2.heap.size < w4.heap.size := by omega
      have kb4_0_0 : w4.cell? ⟨w2.heap.size, 0, none⟩ = some (.int .i64 k) := by go_simp
      have kb4_0_1 : w4.cell? ⟨w2.heap.size, 1, none⟩ = some (.int .i64 x) := by go_simp
      have kb4_0_2 : w4.cell? ⟨w2.heap.size, 2, none⟩ = some (.int .i64 y) := by go_simp
      have HB4 := Lib.hid (HB3.out.trans (hN4.mono (by first | exact Nat.le_refl _ | omega)))
      have HR4_tab := Lib.hid (HR3_tab.out.below hN4 (by first | exact Nat.le_refl _ | omega))
      have HR4_err := Lib.hid (HR3_err.out.below hN4 (by first | exact Nat.le_refl _ | omega))
      clear hc4 hf4 hb4 hN4 hz4
      go_wp2_with fail
      refine calls_namedD ?_
      intro w5 hw5
      have hN5 : Below w4.heap.size w4 w5 := by
        rw [hw5]
        (repeat (first | exact Below.refl _ _ | refine Below.setCell ?_ (by first | omega | (simp <;> omega)) _ | refine Below.alloc ?_ (by first | omega | (simp <;> omega)) _ | refine Below.drew ?_))
      have hz5 : w5.heap.size = _ := congrArg (fun W : World => W.heap.size) hw5
      try simp at hz5
      have hn5 := hN5.size
      have hs5_0 : w2.heap.size < w5.heap.size := by omega
      have hs5_1 : w4.heap.size < w5.heap.size := by omega
      have kb5_0_0 : w5.cell? ⟨w2.heap.size, 0, none⟩ = some (.int .i64 k) := by rw [hw5]; go_simp
      have kb5_0_1 : w5.cell? ⟨w2.heap.size, 1, none⟩ = some (.int .i64 x) := by rw [hw5]; go_simp
      have kb5_0_2 : w5.cell? ⟨w2.heap.size, 2, none⟩ = some (.int .i64 y) := by rw [hw5]; go_simp
      have kb5_1_0 : w5.cell? ⟨w4.heap.size, 0, none⟩ = some (.int .i64 k) := by rw [hw5]; go_simp
      have kb5_1_1 : w5.cell? ⟨w4.heap.size, 1, none⟩ = some (.int .i64 x) := by rw [hw5]; go_simp
      have kb5_1_2 : w5.cell? ⟨w4.heap.size, 2, none⟩ = some (.int .i64 y) := by rw [hw5]; go_simp
      have HB5 := Lib.hid (HB4.out.trans (hN5.mono (by first | exact Nat.le_refl _ | omega)))
      have HR5_tab := Lib.hid (HR4_tab.out.below hN5 (by first | exact Nat.le_refl _ | omega))
      have HR5_err := Lib.hid (HR4_err.out.below hN5 (by first | exact Nat.le_refl _ | omega))
      clear hw5 hN5 hz5
      refine (HM.out _ HR5_tab.out HR5_err.out).mono ?_
      rintro e w6 ⟨rfl, hb6⟩
      obtain ⟨hc6, hf6⟩ := bcell hb6
      have hz6 := hb6.size
      try simp at hz6
      have hN6 : Below w5.heap.size w5 w6 := by
        refine Below.trans ?_ (hb6.mono (by first | omega | (simp <;> omega)))
        (repeat (first | exact Below.refl _ _ | refine Below.setCell ?_ (by first | omega | (simp <;> omega)) _ | refine Below.alloc ?_ (by first | omega | (simp <;> omega)) _ | refine Below.drew ?_))
      have hn6 := hN6.size
      have hs6_0 : w2.heap.size < w6.heap.size := by omega
      have hs6_1 : w4.heap.size < w6.heap.size := by omega
      have kb6_0_0 : w6.cell? ⟨w2.heap.size, 0, none⟩ = some (.int .i64 k) := by go_simp
      have kb6_0_1 : w6.cell? ⟨w2.heap.size, 1, none⟩ = some (.int .i64 x) := by go_simp
      have kb6_0_2 : w6.cell? ⟨w2.heap.size, 2, none⟩ = some (.int .i64 y) := by go_simp
      have kb6_1_0 : w6.cell? ⟨w4.heap.size, 0, none⟩ = some (.int .i64 k) := by go_simp
      have kb6_1_1 : w6.cell? ⟨w4.heap.size, 1, none⟩ = some (.int .i64 x) := by go_simp
      have kb6_1_2 : w6.cell? ⟨w4.heap.size, 2, none⟩ = some (.int .i64 y) := by go_simp
      have HB6 := Lib.hid (HB5.out.trans (hN6.mono (by first | exact Nat.le_refl _ | omega)))
      have HR6_tab := Lib.hid (HR5_tab.out.below hN6 (by first | exact Nat.le_refl _ | omega))
      have HR6_err := Lib.hid (HR5_err.out.below hN6 (by first | exact Nat.le_refl _ | omega))
      clear hc6 hf6 hb6 hN6 hz6
      go_wp2_with fail
      refine calls_namedD ?_
      intro w7 hw7
      have hN7 : Below w6.heap.size w6 w7 := by
        rw [hw7]
        (repeat (first | exact Below.refl _ _ | refine Below.setCell ?_ (by first | omega | (simp <;> omega)) _ | refine Below.alloc ?_ (by first | omega | (simp <;> omega)) _ | refine Below.drew ?_))
      have hz7 : w7.heap.size = _ := congrArg (fun W : World => W.heap.size) hw7
      try simp at hz7
      have hn7 := hN7.size
      have hs7_0 : w2.heap.size < w7.heap.size := by omega
      have hs7_1 : w4.heap.size < w7.heap.size := by omega
      have hs7_2 : w6.heap.size < w7.heap.size := by omega
      have kb7_0_0 : w7.cell? ⟨w2.heap.size, 0, none⟩ = some (.int .i64 k) := by rw [hw7]; go_simp
      have kb7_0_1 : w7.cell? ⟨w2.heap.size, 1, none⟩ = some (.int .i64 x) := by rw [hw7]; go_simp
      have kb7_0_2 : w7.cell? ⟨w2.heap.size, 2, none⟩ = some (.int .i64 y) := by rw [hw7]; go_simp
      have kb7_1_0 : w7.cell? ⟨w4.heap.size, 0, none⟩ = some (.int .i64 k) := by rw [hw7]; go_simp
      have kb7_1_1 : w7.cell? ⟨w4.heap.size, 1, none⟩ = some (.int .i64 x) := by rw [hw7]; go_simp
      have kb7_1_2 : w7.cell? ⟨w4.heap.size, 2, none⟩ = some (.int .i64 y) := by rw [hw7]; go_simp
      have kb7_2_0 : w7.cell? ⟨w6.heap.size, 0, none⟩ = some (.int .i64 0) := by rw [hw7]; go_simp
      have kb7_2_1 : w7.cell? ⟨w6.heap.size, 1, none⟩ = some (.int .i64 0) := by rw [hw7]; go_simp
      have kb7_2_2 : w7.cell? ⟨w6.heap.size, 2, none⟩ = some (.int .i64 0) := by rw [hw7]; go_simp
      have HB7 := Lib.hid (HB6.out.trans (hN7.mono (by first | exact Nat.le_refl _ | omega)))
      have HR7_tab := Lib.hid (HR6_tab.out.below hN7 (by first | exact Nat.le_refl _ | omega))
      have HR7_err := Lib.hid (HR6_err.out.below hN7 (by first | exact Nat.le_refl _ | omega))
      clear hw7 hN7 hz7
      refine (HD.out _ HR7_tab.out).mono ?_
      rintro e w8 ⟨rfl, hb8⟩
      obtain ⟨hc8, hf8⟩ := bcell hb8
      have hz8 := hb8.size
      try simp at hz8
      have hN8 : Below w7.heap.size w7 w8 := by
        refine Below.trans ?_ (hb8.mono (by first | omega | (simp <;> omega)))
        (repeat (first | exact Below.refl _ _ | refine Below.setCell ?_ (by first | omega | (simp <;> omega)) _ | refine Below.alloc ?_ (by first | omega | (simp <;> omega)) _ | refine Below.drew ?_))
      have hn8 := hN8.size
      have hs8_0 : w2.heap.size < w8.heap.size := by omega
      have hs8_1 : w4.heap.size < w8.heap.size := by omega
      have hs8_2 : w6.heap.size < w8.heap.size := by omega
      have kb8_0_0 : w8.cell? ⟨w2.heap.size, 0, none⟩ = some (.int .i64 k) := by go_simp
      have kb8_0_1 : w8.cell? ⟨w2.heap.size, 1, none⟩ = some (.int .i64 x) := by go_simp
      have kb8_0_2 : w8.cell? ⟨w2.heap.size, 2, none⟩ = some (.int .i64 y) := by go_simp
      have kb8_1_0 : w8.cell? ⟨w4.heap.size, 0, none⟩ = some (.int .i64 k) := by go_simp
      have kb8_1_1 : w8.cell? ⟨w4.heap.size, 1, none⟩ = some (.int .i64 x) := by go_simp
      have kb8_1_2 : w8.cell? ⟨w4.heap.size, 2, none⟩ = some (.int .i64 y) := by go_simp
      have kb8_2_0 : w8.cell? ⟨w6.heap.size, 0, none⟩ = some (.int .i64 0) := by go_simp
      have kb8_2_1 : w8.cell? ⟨w6.heap.size, 1, none⟩ = some (.int .i64 0) := by go_simp
      have kb8_2_2 : w8.cell? ⟨w6.heap.size, 2, none⟩ = some (.int .i64 0) := by go_simp
      have HB8 := Lib.hid (HB7.out.trans (hN8.mono (by first | exact Nat.le_refl _ | omega)))
      have HR8_tab := Lib.hid (HR7_tab.out.below hN8 (by first | exact Nat.le_refl _ | omega))
      have HR8_err := Lib.hid (HR7_err.out.below hN8 (by first | exact Nat.le_refl _ | omega))
      clear hc8 hf8 hb8 hN8 hz8
      go_wp2
      go_ret
      exact ⟨rfl, by first | exact HB8.out | exact (HB8.out).alloc (HB8.out).size _⟩
end Go.Proofs.YtigcomhhgfgmgaaDoor
namespace Go.Proofs.YtigcomhhgfgmgaaDoor
open Go.RowKit
theorem deedT_lenJ (x : DeedN) : (deedT x).length ≤ 12 := by
  unfold deedT
  have h1 := digN_len x.a
  have h2 := digN_len x.b
  split
  · split
    · simp only [List.length_append, List.length_cons, List.length_nil]; omega
    · simp
  · split
    · split
      · simp
      · split
        · simp
        · split
          · simp
          · split <;> simp
    · simp
/-- The text of a journal, or none. -/
def journV (L : List DeedN) : List UInt8 := if notedN L = true then journalN L else []
theorem journalN_append (L M : List DeedN) : journalN (L ++ M) = journalN L ++ journalN M := by
  induction L with
  | nil => rfl
  | cons x L ih => simp only [List.cons_append, journalN, ih, List.append_assoc]
theorem journalN_next {L : List DeedN} {i : Nat} {x : DeedN} (h : L[i]? = some x) : journalN (L.take (i + 1)) = journalN (L.take i) ++ deedT x ++ [10] := by
  obtain ⟨hi, rfl⟩ := List.getElem?_eq_some_iff.1 h
  rw [List.take_succ_eq_append_getElem hi, journalN_append]
  simp [journalN]
theorem journalN_len : ∀ (L : List DeedN), (journalN L).length ≤ 13 * L.length
  | [] => by simp [journalN]
  | x :: L => by
    have h1 := journalN_len L
    have h2 := deedT_lenJ x
    simp only [journalN, List.length_append, List.length_cons, List.length_nil]
    omega
theorem noted_next {L : List DeedN} {i : Nat} {x : DeedN} (h : L[i]? = some x) (hn : notedN (L.take i) = true) (hx : deedT x ≠ []) : notedN (L.take (i + 1)) = true := by
  obtain ⟨hi, rfl⟩ := List.getElem?_eq_some_iff.1 h
  rw [List.take_succ_eq_append_getElem hi]
  unfold notedN at *
  rw [List.all_append, hn]
  simp [hx]
theorem noted_not {L : List DeedN} {i : Nat} {x : DeedN} (h : L[i]? = some x) (hx : deedT x = []) : journV L = [] := by
  unfold journV
  rw [if_neg]
  intro hn
  have := List.all_eq_true.1 hn x (List.mem_of_getElem? h)
  rw [hx] at this
  simp at this
theorem journV_yes {L : List DeedN} (h : notedN L = true) : journV L = journalN L := if_pos h
theorem deed_at_i {L : List DeedN} {i : Nat} (h : i < L.length) : ∃ x y z, L[i]? = some ⟨x, y, z⟩ := ⟨_, _, _, List.getElem?_eq_getElem h⟩
set_option maxRecDepth 100000 in
set_option maxHeartbeats 4000000 in
theorem specJournal_any (B C : Nat) (L : List DeedN) (v : Value) (w : World) (h : IsDeeds B C w v L) (hn : L.length ≤ 1048600) : Calls Tryd.prog 19 #[v] w fun e w' => e = .returned (.string (txt (journV L))) ∧ Below w.heap.size w w' := by
  obtain ⟨a, cap, rfl, hC, hs⟩ := h
  go_enter Tryd.func19, Tryd.ntmps19
  go_wp2_with fail
  go_loopw [3, 4] (fun x3 x4 wr => ∃ (i : Nat) (O : ByteArray), i ≤ L.length ∧ x4 = .int .i64 i ∧ x3 = .string O ∧ O.data.toList = journalN (L.take i) ∧ O.size ≤ 13 * i ∧ notedN (L.take i) = true ∧ Below w.heap.size w wr) (fun _ x4 _ => L.length - (intOf x4).toNat)
  case atStart => exact ⟨0, ⟨#[]⟩, Nat.zero_le _, rfl, rfl, rfl, Nat.le_refl _, rfl, Below.refl _ _⟩
  case round =>
    obtain ⟨i, O, hi, rfl, rfl, hO, hOs, hno, hB⟩ := hrel
    by_cases hlt : i < L.length
    · rcases hs with rfl | ⟨g, off, rfl, h1, h2, hc, hf⟩
      · simp at hlt
      have HC := Lib.hid hc
      obtain ⟨x, y, z, hp⟩ := deed_at_i hlt
      have hg := h2.1
      have k0 : wr.cell? ⟨g, off + i * 3, none⟩ = some (.int .i64 x) := (hB.cell (p := ⟨g, off + i * 3, none⟩) (by show g < _; omega)).trans (HC.out i _ hp).1
      have k1 : wr.cell? ⟨g, off + i * 3 + 1, none⟩ = some (.int .i64 y) := (hB.cell (p := ⟨g, off + i * 3 + 1, none⟩) (by show g < _; omega)).trans (HC.out i _ hp).2.1
      have k2 : wr.cell? ⟨g, off + i * 3 + 2, none⟩ = some (.int .i64 z) := (hB.cell (p := ⟨g, off + i * 3 + 2, none⟩) (by show g < _; omega)).trans (HC.out i _ hp).2.2
      have hil : (i : Int) < (L.length : Int) := by omega
      have hi0 : (0 : Int) ≤ (i : Int) := by omega
      have Wi : IntKind.i64.wrap ((i : Int) + 1) = (i : Int) + 1 := by rw [IntKind.wrap_i64]; omega
      have hgw : g < wr.heap.size := by have := hB.size; omega
      have HP := Lib.hid hp
      have HB := Lib.hid hB
      have HO := Lib.hid hO
      have HNO := Lib.hid hno
      have hdt := fun W => specText_any x y z W
      have hem : (txt (deedT ⟨x, y, z⟩)).toList.isEmpty = (deedT ⟨x, y, z⟩).isEmpty := by rw [bl_toList]; rfl
      have hln := deedT_lenJ ⟨x, y, z⟩
      obtain ⟨t, ht⟩ : ∃ t, txt (deedT ⟨x, y, z⟩) = t := ⟨_, rfl⟩
      have hts : t.size ≤ 12 := by rw [← ht, txt_size]; exact hln
      have HTL := Lib.hid (show t.data.toList = deedT ⟨x, y, z⟩ by rw [← ht]; rfl)
      rw [ht] at hdt hem
      have HDT := Lib.hid hdt
      have hz0 := hB.size
      clear hc hf hp hB hO hno hdt ht hln h2
      by_cases hd : deedT ⟨x, y, z⟩ = []
      · have hemp : t.toList.isEmpty = true := by rw [hem, hd]; rfl
        have HN := Lib.hid (noted_not HP.out hd)
        clear hem hd
        go_wp2_with fail
        refine (HDT.out _).mono ?_
        rintro e w1 ⟨rfl, hb1⟩
        go_wp2
        go_ret
        exact ⟨by rw [HN.out]; rfl, HB.out.trans (hb1.mono hz0)⟩
      · have hemp : t.toList.isEmpty = false := by
          rw [hem]
          cases hcc : deedT ⟨x, y, z⟩ with
          | nil => exact absurd hcc hd
          | cons _ _ => rfl
        have HNX := Lib.hid (noted_next HP.out HNO.out hd)
        have s1 : ¬ 9223372036854775807 < O.size + t.size := by omega
        have s2 : ¬ 9223372036854775807 < O.size + t.size + 1 := by omega
        clear hem hd
        go_wp2_with fail
        refine (HDT.out _).mono ?_
        rintro e w1 ⟨rfl, hb1⟩
        have hz1 := hb1.size
        have m0 : w1.cell? ⟨g, off + i * 3, none⟩ = some (.int .i64 x) := (hb1.cell (p := ⟨g, off + i * 3, none⟩) hgw).trans k0
        have m1 : w1.cell? ⟨g, off + i * 3 + 1, none⟩ = some (.int .i64 y) := (hb1.cell (p := ⟨g, off + i * 3 + 1, none⟩) hgw).trans k1
        have m2 : w1.cell? ⟨g, off + i * 3 + 2, none⟩ = some (.int .i64 z) := (hb1.cell (p := ⟨g, off + i * 3 + 2, none⟩) hgw).trans k2
        have HB1 := Lib.hid (HB.out.trans (hb1.mono hz0))
        clear hb1 k0 k1 k2
        go_wp2_with fail
        refine (HDT.out _).mono ?_
        rintro e w2 ⟨rfl, hb2⟩
        have HB2 := Lib.hid (HB1.out.trans (hb2.mono (by omega)))
        clear hb2 m0 m1 m2
        go_wp2
        go_roundw
        case rel =>
          refine ⟨i + 1, O ++ t ++ ⟨#[10]⟩, by omega, congrArg (Value.int .i64) (by omega), rfl, ?_, ?_, HNX.out, HB2.out⟩
          · rw [journalN_next HP.out, ByteArray.data_append, Array.toList_append, ByteArray.data_append, Array.toList_append, HO.out, HTL.out]
          · rw [ByteArray.size_append, ByteArray.size_append]; show O.size + t.size + 1 ≤ _; omega
        case measure => simp [intOf]; omega
    · obtain rfl : i = L.length := by omega
      rw [List.take_length] at hO hno
      have HE := Lib.hid (show O = txt (journV L) from txt_eq (by rw [hO, journV_yes hno]; rfl))
      clear hO hno hs
      go_wp2
      go_ret
      exact ⟨by rw [← HE.out]; rfl, hB⟩
end Go.Proofs.YtigcomhhgfgmgaaDoor
namespace Go.Proofs.YtigcomhhgfgmgaaDoor
open Go.RowKit Go.Shelf
theorem info_u8J : (Tryd.prog.info? 5).map (fun i => (i.zero, i.size, i.bytes)) = some (some (.int .u8 0), 1, 1) := by kernel_rfl
theorem builder_infoJ : ∃ j, Tryd.prog.info? 74 = some j ∧ j.size ≠ 0 := by
  obtain ⟨j, hj, hs⟩ := Option.map_eq_some_iff.1 (show (Tryd.prog.info? 74).map TypeInfo.size = some 2 by kernel_rfl)
  exact ⟨j, hj, by rw [hs]; decide⟩
set_option maxHeartbeats 1000000 in
set_option maxRecDepth 100000 in
theorem copyUsed_atJ (b : Nat) (w : World) (h0 : w.cell? ⟨b, 0, none⟩ = some (.pointer (some ⟨b, 0, none⟩))) : Calls Tryd.prog 58 #[.pointer (some ⟨b, 0, none⟩)] w fun e w' => e = .returned (.tuple #[]) ∧ w' = w := by
  obtain ⟨j, hj, _⟩ := builder_infoJ
  have hsame := fun w => Lib.run_neq_ptr_same w ⟨b, 0, none⟩ Tryd.underlying72 hj
  go_enter Tryd.func58, Tryd.ntmps58
  go_wp2
  go_end0
  exact ⟨rfl, rfl⟩
set_option maxHeartbeats 1000000 in
set_option maxRecDepth 100000 in
theorem copyFresh_atJ (b : Nat) (w : World) (h0 : w.cell? ⟨b, 0, none⟩ = some (.pointer none)) (hsh : w.shape? b = some (74, 2)) (hfz : w.frozen? ⟨b, 0, none⟩ = false) :
    Calls Tryd.prog 58 #[.pointer (some ⟨b, 0, none⟩)] w fun e w' => e = .returned (.tuple #[]) ∧ w' = w.setCell ⟨b, 0, none⟩ (.pointer (some ⟨b, 0, none⟩)) := by
  obtain ⟨j, hj, hjs⟩ := builder_infoJ
  have hto := Lib.run_to_unsafe w ⟨b, 0, none⟩ Tryd.underlying72 Tryd.underlying94 hj hjs hsh (Nat.zero_lt_succ 1)
  have hfrom := Lib.run_from_unsafe w ⟨b, 0, none⟩ Tryd.underlying94 Tryd.underlying72 hj hsh (by kernel_rfl)
  have hsame := fun w => Lib.run_neq_ptr_same w ⟨b, 0, none⟩ Tryd.underlying72 hj
  have hne : ∀ (x : Value) (w : World), (callFunc 69 #[x]).run Tryd.prog w = .ok (.value x) w := fun x w => by rw [run_callFunc_extern Tryd.func69 (by kernel_rfl) (by kernel_rfl) (by kernel_rfl) (e := Extern.AbiNoEscape.same) (by kernel_rfl)]; rfl
  go_enter Tryd.func58, Tryd.ntmps58
  go_wp2
  go_end0
  exact ⟨rfl, rfl⟩
theorem copy_anyJ (B b : Nat) (bs : List Value) (w : World) (h : Lib.IsBuilder 74 5 B b bs w) :
    Calls Tryd.prog 58 #[.pointer (some ⟨b, 0, none⟩)] w fun e w' => e = .returned (.tuple #[]) ∧ Lib.BuilderAt 74 5 B b (.pointer (some ⟨b, 0, none⟩)) bs w' ∧ Below B w w' := by
  rcases h with h | h
  · refine (copyFresh_atJ b w h.cell0 h.shape h.frozen0).mono ?_
    rintro e w' ⟨rfl, rfl⟩
    exact ⟨rfl, h.used _, (Below.refl B w).setCell (p := ⟨b, 0, none⟩) h.1 _⟩
  · refine (copyUsed_atJ b w h.cell0).mono ?_
    rintro e w' ⟨rfl, rfl⟩
    exact ⟨rfl, h, Below.refl B _⟩
set_option maxHeartbeats 2000000 in
set_option maxRecDepth 100000 in
theorem writeByte_anyJ (B b : Nat) (bs : List Value) (c : Int) (w : World) (h : Lib.IsBuilder 74 5 B b bs w) (hlen : bs.length ≤ 100000000) (hBw : B ≤ w.heap.size) :
    Calls Tryd.prog 49 #[.pointer (some ⟨b, 0, none⟩), .int .u8 c] w fun e w' => e = .returned .nilIface ∧ Lib.IsBuilder 74 5 B b (bs ++ [.int .u8 c]) w' ∧ Below B w w' := by
  obtain ⟨i0, hi0, hz0, hzs1, hz2⟩ := info_parts info_u8J
  go_enter Tryd.func49, Tryd.ntmps49
  go_wp2_with fail
  refine (copy_anyJ B b bs _ h).mono ?_
  rintro e w1 ⟨rfl, ⟨hB, v, hbk, hown, hne⟩, hb1⟩
  have c1 : w1.cell? ⟨b, 1, none⟩ = some v := by rw [Lib.cell_of_heap hbk]; rfl
  have hz1 := hb1.size
  go_wp2_with (at_builtin; refine wpList_append_own _ rfl _ _ 22 rfl B 5 i0 (.int .u8 0) 1 1 Tryd.underlying22 hi0 hz0 hzs1 hz2 rfl (by decide) _ _ _ rfl (hown.alloc _) ⟨w1.heap.size, 0, none⟩ 1 1 [.int .u8 c] rfl rfl (cell_one_new _ _ _) (by simp [Value.oneCell']) (by unfold maxLen; omega) (by omega) (by simp; omega) ?_)
  intro v' w2 hown' hgrow _
  have hlt : b < w1.heap.size := (Array.getElem?_eq_some_iff.1 hbk).1
  have hb2 : w2.heap[b]? = some (.cells #[.pointer (some ⟨b, 0, none⟩), v] 74 (0, 0)) := by
    rw [hgrow.block b (by simp; omega) (fun e => hne e.symm), Below.heap_alloc _ _ _ hlt]
    exact hbk
  have d1 : w2.cell? ⟨b, 1, none⟩ = some v := by rw [Lib.cell_of_heap hb2]; rfl
  have f1 : w2.frozen? ⟨b, 1, none⟩ = false := Lib.frozen_of_heap hb2 1
  obtain ⟨g, cap, rfl⟩ := ownsRow_succ hown'
  have hlk := hown.lt
  go_wp2
  go_ret
  refine ⟨rfl, .inr (Lib.BuilderAt.put hB hb2 (bs' := bs ++ [.int .u8 c]) (by simpa using hown') (by decide)), ?_⟩
  exact ((hb1.alloc (by omega) _).grown hgrow (by simp; omega) (fun k hk => (hlk k hk).1)).setCell (p := ⟨b, 1, none⟩) hB _
set_option maxHeartbeats 2000000 in
set_option maxRecDepth 100000 in
theorem writeStringJ_any (B b : Nat) (bs : List Value) (s : ByteArray) (w : World) (h : Lib.IsBuilder 74 5 B b bs w) (hlen : bs.length + s.size ≤ 100000000) (hBw : B ≤ w.heap.size) :
    Calls Tryd.prog 48 #[.pointer (some ⟨b, 0, none⟩), .string s] w fun e w' => e = .returned (.tuple #[.int .i64 s.size, .nilIface]) ∧ Lib.IsBuilder 74 5 B b (bs ++ Lib.strCells s) w' ∧ Below B w w' := by
  obtain ⟨i0, hi0, hz0, hzs1, hz2⟩ := info_parts info_u8J
  go_enter Tryd.func48, Tryd.ntmps48
  go_wp2_with fail
  refine (copy_anyJ B b bs _ h).mono ?_
  rintro e w1 ⟨rfl, ⟨hB, v, hbk, hown, hne⟩, hb1⟩
  have c0 : w1.cell? ⟨b, 0, none⟩ = some (.pointer (some ⟨b, 0, none⟩)) := by rw [Lib.cell_of_heap hbk]; rfl
  have c1 : w1.cell? ⟨b, 1, none⟩ = some v := by rw [Lib.cell_of_heap hbk]; rfl
  have hz1 := hb1.size
  go_wp2_with (at_builtin; refine Lib.wpList_append_own_string _ rfl _ _ 22 9 rfl B 5 i0 Tryd.underlying22 Tryd.underlying9 hi0 hz0 hzs1 hz2 _ _ _ rfl hown s rfl (by unfold maxLen; omega) (by omega) (by omega) ?_)
  intro v' w2 hown' hgrow _
  have hlt : b < w1.heap.size := (Array.getElem?_eq_some_iff.1 hbk).1
  have hb2 : w2.heap[b]? = some (.cells #[.pointer (some ⟨b, 0, none⟩), v] 74 (0, 0)) := by
    rw [hgrow.block b hlt (fun e => hne e.symm)]
    exact hbk
  have d0 : w2.cell? ⟨b, 0, none⟩ = some (.pointer (some ⟨b, 0, none⟩)) := by rw [Lib.cell_of_heap hb2]; rfl
  have d1 : w2.cell? ⟨b, 1, none⟩ = some v := by rw [Lib.cell_of_heap hb2]; rfl
  have f1 : w2.frozen? ⟨b, 1, none⟩ = false := Lib.frozen_of_heap hb2 1
  obtain ⟨ao, n', cap, rfl⟩ : ∃ ao n' cap, v' = .slice ao n' cap := by
    rcases hown'.2 with ⟨hv, _⟩ | ⟨g, cap, cur, hv, _⟩
    · exact ⟨_, _, _, hv⟩
    · exact ⟨_, _, _, hv⟩
  have hlk := hown.lt
  go_wp2
  go_ret2
  refine ⟨rfl, .inr (Lib.BuilderAt.put hB hb2 (bs' := bs ++ Lib.strCells s) (by simpa [Lib.strCells_length] using hown') (by decide)), ?_⟩
  exact (hb1.grown hgrow (by omega) (fun k hk => (hlk k hk).1)).setCell (p := ⟨b, 1, none⟩) hB _
end Go.Proofs.YtigcomhhgfgmgaaDoor
namespace Go.Proofs.YtigcomhhgfgmgaaDoor
open Go.RowKit Go.Shelf
theorem builder_below {B b : Nat} {bs : List Value} {w w' : World} (h : Lib.IsBuilder 74 5 B b bs w) (hb : Below w.heap.size w w') : Lib.IsBuilder 74 5 B b bs w' := by
  have one : ∀ p, Lib.BuilderAt 74 5 B b p bs w → Lib.BuilderAt 74 5 B b p bs w' := fun p h => by
    have hlt := h.lt
    obtain ⟨hB, v, hbk, hown, hne⟩ := h
    exact ⟨hB, v, (hb.block b hlt).trans hbk, own_keeps hown hb, hne⟩
  rcases h with h | h
  · exact .inl (one _ h)
  · exact .inr (one _ h)
theorem byteCells_txt (s : ByteArray) : Lib.strCells s = Lib.byteCells s.data.toList := rfl
theorem builder_next {O t : List UInt8} : Lib.byteCells O ++ Lib.byteCells t = Lib.byteCells (O ++ t) := by simp [Lib.byteCells]
set_option maxRecDepth 100000 in
set_option maxHeartbeats 4000000 in
theorem implJournal_any (B C : Nat) (L : List DeedN) (v : Value) (w : World) (h : IsDeeds B C w v L) (hn : L.length ≤ 1048600) (ht : PowTab w) : Calls Tryd.prog 18 #[v] w fun e w' => e = .returned (.string (txt (journV L))) ∧ Below w.heap.size w w' := by
  obtain ⟨a, cap, rfl, hC, hs⟩ := h
  have HT := Lib.hid ht
  clear ht
  go_enter Tryd.func18, Tryd.ntmps18
  go_wp2_with fail
  go_loopw [9] (fun x9 wr => ∃ (i : Nat) (O : List UInt8), i ≤ L.length ∧ x9 = .int .i64 i ∧ O = journalN (L.take i) ∧ Lib.IsBuilder 74 5 w.heap.size w.heap.size (Lib.byteCells O) wr ∧ notedN (L.take i) = true ∧ w.heap.size < wr.heap.size ∧ Below w.heap.size w wr) (fun x9 _ => L.length - (intOf x9).toNat)
  case atStart => exact ⟨0, [], Nat.zero_le _, rfl, rfl, Lib.fresh_isBuilder _ _ _, rfl, by simp, (Below.refl _ _).alloc (Nat.le_refl _) _⟩
  case round =>
    obtain ⟨i, O, hi, rfl, hO, hbd, hno, hwz, hB⟩ := hrel
    have HBD := Lib.hid hbd
    by_cases hlt : i < L.length
    · rcases hs with rfl | ⟨g, off, rfl, h1, h2, hc, hf⟩
      · simp at hlt
      have HC := Lib.hid hc
      obtain ⟨x, y, z, hp⟩ := deed_at_i hlt
      have hg := h2.1
      have k0 : wr.cell? ⟨g, off + i * 3, none⟩ = some (.int .i64 x) := (hB.cell (p := ⟨g, off + i * 3, none⟩) (by show g < _; omega)).trans (HC.out i _ hp).1
      have k1 : wr.cell? ⟨g, off + i * 3 + 1, none⟩ = some (.int .i64 y) := (hB.cell (p := ⟨g, off + i * 3 + 1, none⟩) (by show g < _; omega)).trans (HC.out i _ hp).2.1
      have k2 : wr.cell? ⟨g, off + i * 3 + 2, none⟩ = some (.int .i64 z) := (hB.cell (p := ⟨g, off + i * 3 + 2, none⟩) (by show g < _; omega)).trans (HC.out i _ hp).2.2
      have hil : (i : Int) < (L.length : Int) := by omega
      have hi0 : (0 : Int) ≤ (i : Int) := by omega
      have Wi : IntKind.i64.wrap ((i : Int) + 1) = (i : Int) + 1 := by rw [IntKind.wrap_i64]; omega
      have HP := Lib.hid hp
      have HB := Lib.hid hB
      have HNO := Lib.hid hno
      have hOl : O.length ≤ 13 * i := by
        have := journalN_len (L.take i)
        rw [← hO, List.length_take] at this
        omega
      have HO := Lib.hid hO
      have hdt := fun W hW => implText_any x y z W hW
      have hem : (txt (deedT ⟨x, y, z⟩)).toList.isEmpty = (deedT ⟨x, y, z⟩).isEmpty := by rw [bl_toList]; rfl
      have hln := deedT_lenJ ⟨x, y, z⟩
      obtain ⟨t, ht⟩ : ∃ t, txt (deedT ⟨x, y, z⟩) = t := ⟨_, rfl⟩
      have hts : t.size ≤ 12 := by rw [← ht, txt_size]; exact hln
      have HTL := Lib.hid (show t.data.toList = deedT ⟨x, y, z⟩ by rw [← ht]; rfl)
      rw [ht] at hdt hem
      have HDT := Lib.hid hdt
      have hz0 := hB.size
      clear hc hf hp hB hO hno hdt ht hln h2 hbd
      go_wp2_with fail
      refine (HDT.out _ (HT.out.below (HB.out.alloc hz0 _) (Nat.le_refl _))).mono ?_
      rintro e w1 ⟨rfl, hb1⟩
      have hz1 := hb1.size
      simp at hz1
      have hB1 : Below wr.heap.size wr w1 := ((Below.refl _ _).alloc (Nat.le_refl _) _).trans (hb1.mono (by simp))
      have HB1 := Lib.hid (HB.out.trans (hB1.mono hz0))
      have HBD1 := Lib.hid (builder_below HBD.out hB1)
      clear hb1 hB1 k0 k1 k2
      by_cases hd : deedT ⟨x, y, z⟩ = []
      · have hemp : t.toList.isEmpty = true := by rw [hem, hd]; rfl
        have HN := Lib.hid (noted_not HP.out hd)
        clear hem hd
        go_wp2
        go_ret
        exact ⟨by rw [HN.out]; rfl, HB1.out⟩
      · have hemp : t.toList.isEmpty = false := by
          rw [hem]
          cases hcc : deedT ⟨x, y, z⟩ with
          | nil => exact absurd hcc hd
          | cons _ _ => rfl
        have HNX := Lib.hid (noted_next HP.out HNO.out hd)
        clear hem hd
        go_wp2_with fail
        refine (writeStringJ_any w.heap.size w.heap.size _ t _ HBD1.out (by simp [Lib.byteCells]; omega) (by omega)).mono ?_
        rintro e w2 ⟨rfl, hbd2, hb2⟩
        have HB2 := Lib.hid (HB1.out.trans hb2)
        have hz2 := hb2.size
        rw [byteCells_txt, HTL.out, builder_next] at hbd2
        have HBD2 := Lib.hid hbd2
        have hdl := deedT_lenJ ⟨x, y, z⟩
        clear hb2 hbd2
        go_wp2_with fail
        refine (writeByte_anyJ w.heap.size w.heap.size _ 10 _ HBD2.out (by simp [Lib.byteCells]; omega) (by omega)).mono ?_
        rintro e w3 ⟨rfl, hbd3, hb3⟩
        have HB3 := Lib.hid (HB2.out.trans hb3)
        have hz3 := hb3.size
        have HBD3 := Lib.hid (show Lib.IsBuilder 74 5 w.heap.size w.heap.size (Lib.byteCells (O ++ deedT ⟨x, y, z⟩ ++ [10])) w3 by
          rw [← builder_next (t := [10])]; exact hbd3)
        clear hb3 hbd3 hdl
        go_wp2
        go_roundw
        case rel =>
          exact ⟨i + 1, O ++ deedT ⟨x, y, z⟩ ++ [10], by omega, congrArg (Value.int .i64) (by omega), by rw [journalN_next HP.out, HO.out], HBD3.out, HNX.out, by omega, HB3.out⟩
        case measure => simp [intOf]; omega
    · obtain rfl : i = L.length := by omega
      rw [List.take_length] at hO hno
      have HE := Lib.hid (show txt O = txt (journV L) by rw [hO, journV_yes hno])
      clear hO hno hs hbd
      go_wp2_with fail
      refine (Tryd.Builder_String_any w.heap.size w.heap.size O _ HBD.out (by omega)).mono ?_
      rintro e w1 ⟨rfl, hb1⟩
      go_wp2
      go_ret
      exact ⟨by rw [← HE.out]; rfl, hB.trans hb1⟩
end Go.Proofs.YtigcomhhgfgmgaaDoor
namespace Go.Proofs.YtigcomhhgfgmgaaDoor
open Go.RowKit
/-- What of a journal is read so far: X, up to fr; the line begun goes up to i. -/
def JAt (l : List UInt8) (X : List DeedN) (fr i : Nat) : Prop :=
  readJ [] l = (X ++ (readJ ((l.drop fr).take (i - fr)) (l.drop i)).1, fr + (readJ ((l.drop fr).take (i - fr)) (l.drop i)).2) ∧ X.length ≤ fr ∧ fr ≤ i ∧ i ≤ l.length
theorem jat_start (l : List UInt8) : JAt l [] 0 0 := ⟨by simp, by simp, by simp, by simp⟩
theorem jat_on {l : List UInt8} {X : List DeedN} {fr i : Nat} (h : JAt l X fr i) (hi : i < l.length) (hc : ¬ l[i] = 10) : JAt l X fr (i + 1) := by
  obtain ⟨h1, h2, h3, h4⟩ := h
  refine ⟨?_, h2, by omega, hi⟩
  rw [h1, List.drop_eq_getElem_cons hi, readJ, if_neg hc, take_more h3 hi]
theorem jat_more {l : List UInt8} {X : List DeedN} {fr i : Nat} {x : DeedN} (h : JAt l X fr i) (hi : i < l.length) (hc : l[i] = 10) (hr : readN ((l.drop fr).take (i - fr)) = some x) : JAt l (X ++ [x]) (i + 1) (i + 1) := by
  obtain ⟨h1, h2, h3, h4⟩ := h
  refine ⟨?_, by simp; omega, Nat.le_refl _, hi⟩
  have hl : ((l.drop fr).take (i - fr)).length = i - fr := by rw [List.length_take, List.length_drop]; omega
  rw [h1, List.drop_eq_getElem_cons hi, readJ, if_pos hc, hr]
  simp only [hl, Nat.sub_self, List.take_zero, List.append_assoc, List.singleton_append, Prod.mk.injEq, true_and]
  omega
theorem jat_stop {l : List UInt8} {X : List DeedN} {fr i : Nat} (h : JAt l X fr i) (hi : i < l.length) (hc : l[i] = 10) (hr : readN ((l.drop fr).take (i - fr)) = none) : readJ [] l = (X, fr) := by
  obtain ⟨h1, h2, h3, h4⟩ := h
  rw [h1, List.drop_eq_getElem_cons hi, readJ, if_pos hc, hr]
  simp
theorem jat_end {l : List UInt8} {X : List DeedN} {fr i : Nat} (h : JAt l X fr i) (hi : i = l.length) : readJ [] l = (X, fr) := by
  obtain ⟨h1, h2, h3, h4⟩ := h
  subst hi
  rw [h1, List.drop_length, readJ]
  simp
theorem jat_skip {l : List UInt8} {X : List DeedN} {fr : Nat} (h : JAt l X fr fr) : ∀ (o : Nat), fr + o ≤ l.length → (∀ k, k < o → (l.drop fr)[k]? ≠ some 10) → JAt l X fr (fr + o)
  | 0, _, _ => h
  | o + 1, ho, hk => by
    have hi : fr + o < l.length := by omega
    refine jat_on (jat_skip h o (by omega) fun k hk' => hk k (by omega)) hi fun e => hk o (by omega) ?_
    rw [List.getElem?_drop, List.getElem?_eq_getElem hi]
    exact congrArg some e
theorem deedV_some {s : List UInt8} {x : DeedN} (h : readN s = some x) : deedV s = (x, true) := by unfold deedV; rw [h]
theorem deedV_none {s : List UInt8} (h : readN s = none) : deedV s = (⟨0, 0, 0⟩, false) := by unfold deedV; rw [h]
/-- A journal read: its deeds in a row of their own, and up to where. -/
def JournS (w : World) (l : List UInt8) (e : Ending) (w' : World) : Prop :=
  ∃ (a : Option Addr) (c : Nat), e = .returned (.tuple #[.slice a (readJ [] l).1.length c, .int .i64 (readJ [] l).2]) ∧ IsDeeds w.heap.size w'.heap.size w' (.slice a (readJ [] l).1.length c) (readJ [] l).1 ∧ Below w.heap.size w w'
theorem journS_at {w w' : World} {l : List UInt8} {X : List DeedN} {fr : Nat} {a : Option Addr} {c : Nat} (h : readJ [] l = (X, fr)) (hO : w'.ownsRow w.heap.size 24 3 (.slice a X.length c) X.length (deedCells X)) (hB : Below w.heap.size w w') : JournS w l (.returned (.tuple #[.slice a X.length c, .int .i64 fr])) w' := by
  unfold JournS
  rw [h]
  exact ⟨a, c, rfl, IsDeeds.of_owns hO, hB⟩
set_option maxRecDepth 100000 in
set_option maxHeartbeats 4000000 in
theorem specReadJ_any (s : ByteArray) (w : World) (hs : s.size ≤ 1048600) : Calls Tryd.prog 27 #[.string s] w (JournS w s.data.toList) := by
  obtain ⟨i0, hi0, hz0, hzs1, hz2⟩ := info_parts3 info_deed
  have hsl : s.data.toList.length = s.size := bl_size s
  have HSL := Lib.hid hsl
  obtain ⟨l, hl⟩ : ∃ l, s.data.toList = l := ⟨_, rfl⟩
  have HL := Lib.hid hl
  rw [hl] at hsl ⊢
  clear hl
  have HM := Lib.hid (show (w.alloc (.cells #[] 24)).ownsRow w.heap.size 24 3 (.slice (some ⟨w.heap.size, 0, none⟩) 0 0) 0 [] from World.ownsRow_made w #[] 0 (Nat.le_refl _) (by unfold maxLen; omega) rfl)
  go_enter Tryd.func27, Tryd.ntmps27
  go_wp2_with fail
  go_loopw [4, 5, 6] (fun x4 x5 x6 wr => ∃ (i fr : Nat) (X : List DeedN) (a : Option Addr) (c : Nat), x4 = .slice a X.length c ∧ x5 = .int .i64 fr ∧ x6 = .int .i64 i ∧ JAt l X fr i ∧ wr.ownsRow w.heap.size 24 3 (.slice a X.length c) X.length (deedCells X) ∧ w.heap.size < wr.heap.size ∧ Below w.heap.size w wr) (fun _ _ x6 _ => 2097200 - (intOf x6).toNat)
  case atStart => exact ⟨0, 0, [], _, _, rfl, rfl, rfl, jat_start l, HM.out, by simp, (Below.refl _ _).alloc (Nat.le_refl _) _⟩
  case round =>
    obtain ⟨i, fr, X, a, c, rfl, rfl, rfl, hj, hO, hz, hB⟩ := hrel
    have hX := hj.2.1
    have hfr := hj.2.2.1
    have hi := hj.2.2.2
    have hfi : (fr : Int) ≤ (i : Int) := by omega
    have hi0' : (0 : Int) ≤ (i : Int) := by omega
    have hf0 : (0 : Int) ≤ (fr : Int) := by omega
    have hfs : fr ≤ s.size := by omega
    have hfs' : (fr : Int) ≤ (s.size : Int) := by omega
    have HO := Lib.hid hO
    have HB := Lib.hid hB
    have HJ := Lib.hid hj
    have hlk := hO.lt
    by_cases hlt : i < s.size
    · have hki : (i : Int) < (s.size : Int) := by omega
      have his : (i : Int) ≤ (s.size : Int) := by omega
      have hil : i < l.length := by omega
      have hxi : s[i]'hlt = l[i] := by
        have h1 : s.data.toList[i]? = l[i]? := by rw [HL.out]
        have h2 : i < s.data.toList.length := by rw [HSL.out]; exact hlt
        rw [List.getElem?_eq_getElem h2, List.getElem?_eq_getElem hil] at h1
        exact (Array.getElem_toList ..).symm.trans (Option.some.inj h1)
      have Wi : IntKind.i64.wrap ((i : Int) + 1) = (i : Int) + 1 := by rw [IntKind.wrap_i64]; omega
      have hx8 := (s[i]'hlt).toNat_lt
      by_cases h10 : l[i] = 10
      · have hbt : ((s[i]'hlt).toNat : Int) = 10 := by rw [hxi, h10]; rfl
        have hex : (s.extract fr i).data.toList = (l.drop fr).take (i - fr) := by rw [extract_txt, HL.out]; rfl
        have hes : (s.extract fr i).size ≤ 2097152 := by simp [ByteArray.size_extract]; omega
        have hrd := fun W => specDeedRead_any (s.extract fr i) W hes
        rw [hex] at hrd
        clear hO hB hj HM hxi hex
        cases hr : readN ((l.drop fr).take (i - fr)) with
        | none =>
          have HE := Lib.hid (jat_stop HJ.out hil h10 hr)
          rw [deedV_none hr] at hrd
          clear hr h10
          go_wp2_with fail
          refine (hrd _).mono ?_
          rintro e w1 ⟨rfl, hb1⟩
          have hz1 := hb1.size
          have HO1 := Lib.hid (own_keeps HO.out hb1)
          have HB1 := Lib.hid (HB.out.trans (hb1.mono (by omega)))
          clear hb1 HO HB
          go_wp2
          go_ret2
          exact journS_at HE.out (own_keeps HO1.out (by (repeat (first | exact Below.refl _ _ | refine Below.setCell ?_ (by first | omega | (simp <;> omega)) _ | refine Below.alloc ?_ (by first | omega | (simp <;> omega)) _)))) (by (repeat (first | exact HB1.out | refine Below.setCell ?_ (by first | omega | (simp <;> omega)) _ | refine Below.alloc ?_ (by first | omega | (simp <;> omega)) _)))
        | some x =>
          have HE := Lib.hid (jat_more HJ.out hil h10 hr)
          rw [deedV_some hr] at hrd
          clear hr h10
          obtain ⟨k, p, q⟩ := x
          go_wp2_with fail
          refine (hrd _).mono ?_
          rintro e w1 ⟨rfl, hb1⟩
          have hz1 := hb1.size
          have HO1 := Lib.hid (own_keeps HO.out hb1)
          have HB1 := Lib.hid (HB.out.trans (hb1.mono (by omega)))
          clear hb1 HO HB
          dsimp only
          go_wp2_with (at_builtin; refine wpList_append_deeds _ rfl _ _ 32 rfl w.heap.size 24 i0 _ 24 Tryd.underlying32 hi0 hz0 hzs1 hz2 rfl (.slice a X.length c) X.length (deedCells X) rfl ((HO1.out.alloc _).alloc _) (w1.heap.size + 1) (w1.heap.size + 2) _ [⟨k, p, q⟩] rfl (IsDeeds.new _ k p q _ _ (by simp)) (X.length + 1) rfl (deedCells (X ++ [⟨k, p, q⟩])) (deedCells_append _ _) (by unfold maxLen; omega) (by omega) (by simp; omega) ?_)
          intro a7 c7 w7 hown7 hgrow7 hat7
          have HB7 := Lib.hid (show Below w.heap.size w w7 from ((HB1.out.alloc (by omega) _).alloc (by simp; omega) _).grown hgrow7 (by simp; omega) (fun g e => (hlk g e).1))
          have hz7 := hgrow7.size
          simp at hz7
          have HO7 := Lib.hid hown7
          clear hown7 hgrow7 hat7 HO1
          go_wp2
          go_roundw
          case rel => exact ⟨i + 1, i + 1, X ++ [⟨k, p, q⟩], a7, c7, by simp, congrArg (Value.int .i64) (by omega), congrArg (Value.int .i64) (by omega), HE.out, by simpa using HO7.out, by omega, HB7.out⟩
          case measure => simp [intOf]; omega
      · have hbt : ¬ ((s[i]'hlt).toNat : Int) = 10 := by
          rw [hxi]
          intro e
          have e' : l[i].toNat = 10 := by omega
          exact h10 (by rw [← UInt8.toNat_inj]; exact e')
        have HE := Lib.hid (jat_on HJ.out hil h10)
        clear hO hB hj HM hxi
        go_wp2
        go_roundw
        case rel => exact ⟨i + 1, fr, X, a, c, rfl, rfl, congrArg (Value.int .i64) (by omega), HE.out, HO.out, hz, HB.out⟩
        case measure => simp [intOf]; omega
    · have HE := Lib.hid (jat_end HJ.out (show i = l.length by omega))
      clear hO hB hj HM
      go_wp2
      go_ret2
      exact journS_at HE.out HO.out HB.out
end Go.Proofs.YtigcomhhgfgmgaaDoor
namespace Go.Proofs.YtigcomhhgfgmgaaDoor
open Go.RowKit
theorem below_drewsD {B : Nat} {a w : World} (h : Below B a w) (n : Nat) : Below B a (w.drewN n) := ⟨h.os, h.tape, h.output, h.size, h.block⟩
set_option maxHeartbeats 1000000 in
theorem lcut_none (s : ByteArray) (w : World) (h : Lib.indexByte s.data.toList 10 = -1) : Calls Tryd.prog 59 #[.string s, .string ⟨#[10]⟩] w fun e w' => e = .returned (.tuple #[.string s, .string ⟨#[]⟩, .bool false]) ∧ Below w.heap.size w w' := by
  have hc := fun W => Tryd.stringslite_Index_one s 10 W
  rw [h] at hc
  go_enter Tryd.func59, Tryd.ntmps59
  go_wp2_with fail
  refine (hc _).mono ?_
  rintro e w1 ⟨rfl, rfl⟩
  go_wp2
  go_ret3
  exact ⟨rfl, Below.refl _ _⟩
set_option maxHeartbeats 1000000 in
theorem lcut_some (s : ByteArray) (o : Nat) (w : World) (h : Lib.indexByte s.data.toList 10 = o) (ho : o < s.size) (hs : s.size ≤ 2097152) : Calls Tryd.prog 59 #[.string s, .string ⟨#[10]⟩] w fun e w' => e = .returned (.tuple #[.string (s.extract 0 o), .string (s.extract (o + 1) s.size), .bool true]) ∧ Below w.heap.size w w' := by
  have hc := fun W => Tryd.stringslite_Index_one s 10 W
  rw [h] at hc
  have h0 : (0 : Int) ≤ (o : Int) := by omega
  have h1 : (o : Int) ≤ (s.size : Int) := by omega
  have h2 : (o : Int) + 1 ≤ (s.size : Int) := by omega
  have h3 : (0 : Int) ≤ (o : Int) + 1 := by omega
  have Wo : IntKind.i64.wrap ((o : Int) + 1) = (o : Int) + 1 := by rw [IntKind.wrap_i64]; omega
  have ht : ((o : Int) + 1).toNat = o + 1 := by omega
  go_enter Tryd.func59, Tryd.ntmps59
  go_wp2_with fail
  refine (hc _).mono ?_
  rintro e w1 ⟨rfl, rfl⟩
  go_wp2
  go_quiet (fail)
  go_wp2
  go_ret3
  exact ⟨rfl, below_drewsD (Below.refl _ _) _⟩
set_option maxHeartbeats 1000000 in
theorem scut_of (s a b : ByteArray) (v : Bool) (w : World) (h : ∀ W, Calls Tryd.prog 59 #[.string s, .string ⟨#[10]⟩] W fun e w' => e = .returned (.tuple #[.string a, .string b, .bool v]) ∧ Below W.heap.size W w') : Calls Tryd.prog 51 #[.string s, .string ⟨#[10]⟩] w fun e w' => e = .returned (.tuple #[.string a, .string b, .bool v]) ∧ Below w.heap.size w w' := by
  go_enter Tryd.func51, Tryd.ntmps51
  go_wp2_with fail
  refine (h _).mono ?_
  rintro e w1 ⟨rfl, hb⟩
  go_wp2
  go_ret3
  exact ⟨rfl, hb⟩
/-- A text's first line: it, and whether it is ended. -/
theorem line_at (s : ByteArray) (l : List UInt8) (fr : Nat) (X : List DeedN) (hl : s.data.toList = l) (hs : s.size ≤ 1048600) (hj : JAt l X fr fr) :
    ∃ (line rest : ByteArray) (ended : Bool), (∀ W, Calls Tryd.prog 51 #[.string (s.extract fr s.size), .string ⟨#[10]⟩] W fun e w' => e = .returned (.tuple #[.string line, .string rest, .bool ended]) ∧ Below W.heap.size W w') ∧ line.size ≤ s.size - fr ∧
      (ended = false → readJ [] l = (X, fr)) ∧
      (ended = true → readN line.data.toList = none → readJ [] l = (X, fr)) ∧
      (ended = true → fr + line.size + 1 ≤ s.size ∧ ∀ x, readN line.data.toList = some x → JAt l (X ++ [x]) (fr + line.size + 1) (fr + line.size + 1)) := by
  have hsl : l.length = s.size := by rw [← hl]; exact bl_size s
  have hfr := hj.2.2.2
  have htl : (s.extract fr s.size).data.toList = l.drop fr := by
    rw [extract_txt, hl]
    show (l.drop fr).take (s.size - fr) = _
    exact List.take_of_length_le (by rw [List.length_drop]; omega)
  have hts : (s.extract fr s.size).size = s.size - fr := by simp [ByteArray.size_extract]
  obtain ⟨t, ht⟩ : ∃ t, s.extract fr s.size = t := ⟨_, rfl⟩
  rw [ht] at htl hts ⊢
  have hge := Lib.indexByte_ge t.data.toList 10
  by_cases hn : Lib.indexByte t.data.toList 10 = -1
  · refine ⟨t, ⟨#[]⟩, false, fun W => scut_of _ _ _ _ W fun W' => lcut_none t W' hn, by omega, fun _ => ?_, fun h => absurd h (by decide), fun h => absurd h (by decide)⟩
    have hno := Lib.indexByte_none hn
    rw [htl] at hno
    exact jat_end (jat_skip hj (l.length - fr) (by omega) fun k _ => hno k) (by omega)
  · obtain ⟨o, ho⟩ : ∃ o : Nat, Lib.indexByte t.data.toList 10 = o := ⟨(Lib.indexByte t.data.toList 10).toNat, by omega⟩
    obtain ⟨h1, h2⟩ := Lib.indexByte_some ho
    have hol : o < t.data.toList.length := (List.getElem?_eq_some_iff.1 h1).1
    have hot : o < t.size := by rw [← bl_size t]; exact hol
    rw [htl] at h1 h2
    have hsk := jat_skip hj o (by omega) h2
    have hlen : fr + o < l.length := by omega
    have hc : l[fr + o] = 10 := by
      rw [List.getElem?_drop, List.getElem?_eq_getElem hlen] at h1
      exact Option.some.inj h1
    have hln : (t.extract 0 o).data.toList = (l.drop fr).take (fr + o - fr) := by
      rw [extract_txt, htl]
      show ((l.drop fr).drop 0).take (o - 0) = _
      rw [List.drop_zero, Nat.sub_zero, Nat.add_sub_cancel_left]
    have hlsz : (t.extract 0 o).size = o := by simp [ByteArray.size_extract]; omega
    refine ⟨t.extract 0 o, t.extract (o + 1) t.size, true, fun W => scut_of _ _ _ _ W fun W' => lcut_some t o W' ho hot (by omega), by omega, fun h => absurd h (by decide), fun _ hr => ?_, fun _ => ⟨by omega, fun x hr => ?_⟩⟩
    · rw [hln] at hr
      exact jat_stop hsk hlen hc hr
    · rw [hln] at hr
      rw [hlsz]
      exact jat_more hsk hlen hc hr
set_option maxRecDepth 100000 in
set_option maxHeartbeats 4000000 in
theorem implReadJ_any (s : ByteArray) (w : World) (hs : s.size ≤ 1048600) (ht : PowTab w) (he : Errs w) : Calls Tryd.prog 20 #[.string s] w (JournS w s.data.toList) := by
  obtain ⟨i0, hi0, hz0, hzs1, hz2⟩ := info_parts3 info_deed
  have hsl : s.data.toList.length = s.size := bl_size s
  obtain ⟨l, hl⟩ : ∃ l, s.data.toList = l := ⟨_, rfl⟩
  have HL := Lib.hid hl
  have HT := Lib.hid ht
  have HE := Lib.hid he
  rw [hl] at hsl ⊢
  clear hl ht he
  go_enter Tryd.func20, Tryd.ntmps20
  go_wp2_with fail
  go_loopw [4, 5] (fun x4 x5 wr => ∃ (fr : Nat) (X : List DeedN) (a : Option Addr) (c : Nat), x4 = .slice a X.length c ∧ x5 = .int .i64 fr ∧ JAt l X fr fr ∧ wr.ownsRow w.heap.size 24 3 (.slice a X.length c) X.length (deedCells X) ∧ Below w.heap.size w wr) (fun _ x5 _ => 2097200 - (intOf x5).toNat)
  case atStart => exact ⟨0, [], none, 0, rfl, rfl, jat_start l, World.ownsRow_nil _ _ _ _, Below.refl _ _⟩
  case round =>
    obtain ⟨fr, X, a, c, rfl, rfl, hj, hO, hB⟩ := hrel
    have hX := hj.2.1
    have hfs := hj.2.2.2
    have hf0 : (0 : Int) ≤ (fr : Int) := by omega
    have hfs' : (fr : Int) ≤ (s.size : Int) := by omega
    have HO := Lib.hid hO
    have HB := Lib.hid hB
    have hlk := hO.lt
    have hz0' := hB.size
    obtain ⟨line, rest, ended, hcut, hsz, hv1, hv2, hv3⟩ := line_at s l fr X HL.out hs hj
    have HCUT := Lib.hid hcut
    have HV1 := Lib.hid hv1
    have HV2 := Lib.hid hv2
    have HV3 := Lib.hid hv3
    clear hO hB hj hcut hv1 hv2 hv3
    have hrd := fun W hW hW' => implDeedRead_any line W (by omega) hW hW'
    go_wp2_with fail
    refine (HCUT.out _).mono ?_
    rintro e w1 ⟨rfl, hb1⟩
    have hz1 := hb1.size
    have HO1 := Lib.hid (own_keeps HO.out hb1)
    have HB1 := Lib.hid (HB.out.trans (hb1.mono hz0'))
    clear hb1 HO HB
    cases hr : readN line.data.toList with
    | none =>
      rw [deedV_none hr] at hrd
      have HR := Lib.hid hr
      have HRD := Lib.hid hrd
      clear hr hrd
      go_wp2_with fail
      refine (HRD.out _ (HT.out.below HB1.out (Nat.le_refl _)) (HE.out.below HB1.out (Nat.le_refl _))).mono ?_
      rintro e w2 ⟨rfl, hb2⟩
      have hz2' := hb2.size
      have HO2 := Lib.hid (own_keeps HO1.out hb2)
      have HB2 := Lib.hid (HB1.out.trans (hb2.mono (by omega)))
      have HQ := Lib.hid (show readJ [] l = (X, fr) by
        cases ended with
        | false => exact HV1.out rfl
        | true => exact HV2.out rfl HR.out)
      clear hb2 HO1 HB1 HR HV1 HV2 HV3 HRD HCUT
      cases ended with
      | false =>
        go_wp2
        go_ret2
        exact journS_at HQ.out (own_keeps HO2.out (by (repeat (first | exact Below.refl _ _ | refine Below.setCell ?_ (by first | omega | (simp <;> omega)) _ | refine Below.alloc ?_ (by first | omega | (simp <;> omega)) _)))) (by (repeat (first | exact HB2.out | refine Below.setCell ?_ (by first | omega | (simp <;> omega)) _ | refine Below.alloc ?_ (by first | omega | (simp <;> omega)) _)))
      | true =>
        go_wp2
        go_ret2
        exact journS_at HQ.out (own_keeps HO2.out (by (repeat (first | exact Below.refl _ _ | refine Below.setCell ?_ (by first | omega | (simp <;> omega)) _ | refine Below.alloc ?_ (by first | omega | (simp <;> omega)) _)))) (by (repeat (first | exact HB2.out | refine Below.setCell ?_ (by first | omega | (simp <;> omega)) _ | refine Below.alloc ?_ (by first | omega | (simp <;> omega)) _)))
    | some x =>
      obtain ⟨k, p, q⟩ := x
      rw [deedV_some hr] at hrd
      have HR := Lib.hid hr
      have HRD := Lib.hid hrd
      clear hr hrd
      go_wp2_with fail
      refine (HRD.out _ (HT.out.below HB1.out (Nat.le_refl _)) (HE.out.below HB1.out (Nat.le_refl _))).mono ?_
      rintro e w2 ⟨rfl, hb2⟩
      dsimp only
      have hz2' := hb2.size
      have HO2 := Lib.hid (own_keeps HO1.out hb2)
      have HB2 := Lib.hid (HB1.out.trans (hb2.mono (by omega)))
      clear hb2 HO1 HB1 HRD HCUT
      cases ended with
      | false =>
        have HQ := Lib.hid (HV1.out rfl)
        clear HR HV1 HV2 HV3
        go_wp2
        go_ret2
        exact journS_at HQ.out (own_keeps HO2.out (by (repeat (first | exact Below.refl _ _ | refine Below.setCell ?_ (by first | omega | (simp <;> omega)) _ | refine Below.alloc ?_ (by first | omega | (simp <;> omega)) _)))) (by (repeat (first | exact HB2.out | refine Below.setCell ?_ (by first | omega | (simp <;> omega)) _ | refine Below.alloc ?_ (by first | omega | (simp <;> omega)) _)))
      | true =>
        obtain ⟨hle, hnx⟩ := HV3.out rfl
        have HJ := Lib.hid (hnx _ HR.out)
        clear HR HV1 HV2 HV3 hnx
        have Wl : IntKind.i64.wrap ((line.size : Int) + 1) = (line.size : Int) + 1 := by rw [IntKind.wrap_i64]; omega
        have Wf : IntKind.i64.wrap ((fr : Int) + ((line.size : Int) + 1)) = ((fr + line.size + 1 : Nat) : Int) := by rw [IntKind.wrap_i64]; omega
        go_wp2_with (at_builtin; refine wpList_append_deeds _ rfl _ _ 32 rfl w.heap.size 24 i0 _ 24 Tryd.underlying32 hi0 hz0 hzs1 hz2 rfl (.slice a X.length c) X.length (deedCells X) rfl ((HO2.out.alloc _).alloc _) (w2.heap.size + 1) (w2.heap.size + 2) _ [⟨k, p, q⟩] rfl (IsDeeds.new _ k p q _ _ (by simp)) (X.length + 1) rfl (deedCells (X ++ [⟨k, p, q⟩])) (deedCells_append _ _) (by unfold maxLen; omega) (by omega) (by simp; omega) ?_)
        intro a7 c7 w7 hown7 hgrow7 hat7
        have HB7 := Lib.hid (show Below w.heap.size w w7 from ((HB2.out.alloc (by omega) _).alloc (by simp; omega) _).grown hgrow7 (by simp; omega) (fun g e => (hlk g e).1))
        have HO7 := Lib.hid hown7
        clear hown7 hgrow7 hat7 HO2
        go_wp2
        go_roundw
        case rel => exact ⟨fr + line.size + 1, X ++ [⟨k, p, q⟩], a7, c7, by simp, rfl, HJ.out, by simpa using HO7.out, HB7.out⟩
        case measure => simp [intOf]; omega
end Go.Proofs.YtigcomhhgfgmgaaDoor
namespace Go.Proofs.YtigcomhhgfgmgaaDoor
open Go.RowKit
theorem IsDeeds.grown {B C : Nat} {w w' : World} {row : Option Nat} {v : Value} {L : List DeedN} (h : IsDeeds B C w v L) (hg : w.grownBy w' row) (hr : ∀ g, row = some g → g < B ∨ C ≤ g) : IsDeeds B C w' v L := by
  obtain ⟨a, cap, rfl, hC, hs⟩ := h
  refine ⟨a, cap, rfl, Nat.le_trans hC hg.size, ?_⟩
  rcases hs with hs | ⟨g, off, ha, h1, h2, hc, hf⟩
  · exact .inl hs
  · have hne : some g ≠ row := fun e => by have := hr g e.symm; omega
    exact .inr ⟨g, off, ha, h1, h2, fun i p hi => ⟨(hg.cell_far ⟨g, off + i * 3, none⟩ (by show g < w.heap.size; omega) hne).trans (hc i p hi).1, (hg.cell_far ⟨g, off + i * 3 + 1, none⟩ (by show g < w.heap.size; omega) hne).trans (hc i p hi).2.1, (hg.cell_far ⟨g, off + i * 3 + 2, none⟩ (by show g < w.heap.size; omega) hne).trans (hc i p hi).2.2⟩, fun i hi => (hg.frozen_far ⟨g, off + i, none⟩ (by show g < w.heap.size; omega) hne).trans (hf i hi)⟩
/-- What a draw of noted deeds returns: at most five, in a row of its own. -/
def NotedDrawn (w : World) (R k : Nat) (e : Ending) (w' : World) : Prop :=
  ∃ (a : Option Addr) (c : Nat) (X : List DeedN), e = .returned (.slice a X.length c) ∧ w'.ownsRow w.heap.size 24 3 (.slice a X.length c) X.length (deedCells X) ∧ X.length ≤ 5 ∧ Rd w' R (k + 31) ∧ w.grownBy w' (some R)
set_option maxRecDepth 100000 in
set_option maxHeartbeats 4000000 in
theorem l20Noted_any (R k : Nat) (w : World) (h : Rd w R k) (hk : k ≤ 900000) :
    Calls Tryd.prog 46 #[.pointer (some ⟨R, 0, none⟩)] w (NotedDrawn w R k) := by
  obtain ⟨i0, hi0, hz0, hzs1, hz2⟩ := info_parts3 info_deed
  have hRlt := h.lt
  have HMD := Lib.hid (show (w.alloc (.cells #[] 24)).ownsRow w.heap.size 24 3 (.slice (some ⟨w.heap.size, 0, none⟩) 0 0) 0 [] from World.ownsRow_made w #[] 0 (Nat.le_refl _) (by unfold maxLen; omega) rfl)
  go_enter Tryd.func46, Tryd.ntmps46
  go_wp2_with fail
  refine (l20Deeds_any R k _ (h.alloc _) hk).mono ?_
  rintro e w1 ⟨b, cb, Y, rfl, hY, hY5, hR1, hh1⟩
  have hO1 := own_grows HMD.out hh1 hRlt
  have hg1 := gr_trans (gr_alloc (gr_refl w R) _) hh1
  have hz1 := hh1.size
  simp only [World.size_alloc] at hz1 hY
  clear hh1 HMD
  go_wp2_with fail
  go_loopw [3, 5] (fun x3 x5 wr => ∃ (i : Nat) (X : List DeedN) (a : Option Addr) (c : Nat), x3 = .slice a X.length c ∧ x5 = .int .i64 i ∧ i ≤ Y.length ∧ X.length ≤ i ∧ wr.ownsRow w.heap.size 24 3 (.slice a X.length c) X.length (deedCells X) ∧ (∀ g, (Value.slice a X.length c).ownBlock = some g → g < w.heap.size + 1 ∨ w1.heap.size ≤ g) ∧ IsDeeds (w.heap.size + 1) w1.heap.size wr (.slice b Y.length cb) Y ∧ Rd wr R (k + 31) ∧ w1.heap.size ≤ wr.heap.size ∧ w.grownBy wr (some R)) (fun _ x5 _ => Y.length - (intOf x5).toNat)
  case atStart => exact ⟨0, [], _, _, rfl, rfl, by omega, by simp, hO1, (fun g e => by simp [Value.ownBlock] at e; omega), hY, hR1, Nat.le_refl _, hg1⟩
  case round =>
    obtain ⟨i, X, a, c, rfl, rfl, hi, hX, hO, hob, hYr, hR, hzr, hg⟩ := hrel
    clear hO1 hY hR1 hg1
    have HO := Lib.hid hO
    have HYR := Lib.hid hYr
    have HOB := Lib.hid hob
    have HG := Lib.hid hg
    have HR := Lib.hid hR
    have hlk := Lib.hid hO.lt
    clear hO hob hg hR
    by_cases hlt : i < Y.length
    · obtain ⟨a', cap', hv, hC, hs⟩ := hYr
      injection hv with hv1 hv2 hv3
      subst hv1 hv3
      rcases hs with rfl | ⟨g, off, rfl, h1, h2, hc, hf⟩
      · simp at hlt
      have HC := Lib.hid hc
      obtain ⟨x, y, z, hp⟩ := deed_at_i hlt
      have hg' := h2.1
      have k0 : wr.cell? ⟨g, off + i * 3, none⟩ = some (.int .i64 x) := (HC.out i _ hp).1
      have k1 : wr.cell? ⟨g, off + i * 3 + 1, none⟩ = some (.int .i64 y) := (HC.out i _ hp).2.1
      have k2 : wr.cell? ⟨g, off + i * 3 + 2, none⟩ = some (.int .i64 z) := (HC.out i _ hp).2.2
      have hil : (i : Int) < (Y.length : Int) := by omega
      have hi0' : (0 : Int) ≤ (i : Int) := by omega
      have Wi : IntKind.i64.wrap ((i : Int) + 1) = (i : Int) + 1 := by rw [IntKind.wrap_i64]; omega
      have hgw : g < wr.heap.size := by omega
      have hdt := fun W => specText_any x y z W
      have hem : (txt (deedT ⟨x, y, z⟩)).toList.isEmpty = (deedT ⟨x, y, z⟩).isEmpty := by rw [bl_toList]; rfl
      have hln := deedT_lenJ ⟨x, y, z⟩
      obtain ⟨t, ht⟩ : ∃ t, txt (deedT ⟨x, y, z⟩) = t := ⟨_, rfl⟩
      have hts : t.size ≤ 12 := by rw [← ht, txt_size]; exact hln
      rw [ht] at hdt hem
      have HDT := Lib.hid hdt
      have HH := Lib.hid (show t.toList.isEmpty = true ∨ t.toList.isEmpty = false by cases t.toList.isEmpty <;> simp)
      clear hc hf hp hdt ht hln h2 hem HC
      go_wp2_with fail
      refine (HDT.out _).mono ?_
      rintro e w2 ⟨rfl, hb2⟩
      have hz2' := hb2.size
      obtain ⟨hc2, hf2⟩ := bcell hb2
      have l0 : w2.cell? ⟨g, off + i * 3, none⟩ = some (.int .i64 x) := (hc2 _ _ hgw).trans k0
      have l1 : w2.cell? ⟨g, off + i * 3 + 1, none⟩ = some (.int .i64 y) := (hc2 _ _ hgw).trans k1
      have l2 : w2.cell? ⟨g, off + i * 3 + 2, none⟩ = some (.int .i64 z) := (hc2 _ _ hgw).trans k2
      have HO2 := Lib.hid (own_keeps HO.out hb2)
      have HR2 := Lib.hid (HR.out.below hb2 (Nat.le_refl _))
      have HG2 := Lib.hid (gr_below HG.out hb2)
      have HY2 := Lib.hid (HYR.out.below hb2 hzr)
      have hgw2 : g < w2.heap.size := by omega
      have hwz := HG.out.size
      clear hc2 hf2 hb2 k0 k1 k2 HO HR HG HYR HDT
      rcases HH.out with hemp | hemp
      · clear HH
        go_wp2
        go_roundw
        case rel => exact ⟨i + 1, X, a, c, rfl, congrArg (Value.int .i64) (by omega), by omega, by omega, HO2.out, HOB.out, HY2.out, HR2.out, by omega, HG2.out⟩
        case measure => simp [intOf]; omega
      · clear HH
        go_wp2_with (at_builtin; refine wpList_append_deeds _ rfl _ _ 32 rfl w.heap.size 24 i0 _ 24 Tryd.underlying32 hi0 hz0 hzs1 hz2 rfl (.slice a X.length c) X.length (deedCells X) rfl (HO2.out.alloc _) w2.heap.size (w2.heap.size + 1) _ [⟨x, y, z⟩] rfl (IsDeeds.new _ x y z _ _ rfl) (X.length + 1) rfl (deedCells (X ++ [⟨x, y, z⟩])) (deedCells_append _ _) (by unfold maxLen; omega) (by omega) (by simp; omega) ?_)
        intro a7 c7 w7 hown7 hgrow7 hat7
        have hR7 : Rd w7 R (k + 31) := by
          have hb7 : Below w.heap.size (w2.alloc (.cells #[.int .i64 x, .int .i64 y, .int .i64 z] 24)) w7 := (Below.refl _ _).grown hgrow7 (by simp; omega) (fun g e => (HO2.out.lt g e).1)
          exact rd_under (HR2.out.alloc _) hb7 hRlt
        have hg7 : w.grownBy w7 (some R) := gr_own (gr_alloc HG2.out _) hgrow7 (fun g e => (HO2.out.lt g e).1)
        have hY7 := ((HY2.out.below ((Below.refl _ _).alloc (by omega) (.cells #[.int .i64 x, .int .i64 y, .int .i64 z] 24)) (Nat.le_refl _)).grown hgrow7 (fun g e => HOB.out g e))
        have hz7 := hgrow7.size
        simp at hz7
        have HO7 := Lib.hid hown7
        have HB7 := Lib.hid (show ∀ g, (Value.slice a7 (X.length + 1) c7).ownBlock = some g → g < w.heap.size + 1 ∨ w1.heap.size ≤ g by
          intro g e
          rcases hat7 with hat | hat
          · exact HOB.out g (hat ▸ e)
          · rw [hat] at e; injection e with e; omega)
        have HY7 := Lib.hid hY7
        clear hown7 hgrow7 hat7 hY7 HO2 HR2 HG2 HY2 HOB
        go_wp2
        go_roundw
        case rel => exact ⟨i + 1, X ++ [⟨x, y, z⟩], a7, c7, by simp, congrArg (Value.int .i64) (by omega), by omega, by simp; omega, by simpa using HO7.out, by simpa using HB7.out, HY7.out, hR7, by omega, hg7⟩
        case measure => simp [intOf]; omega
    · clear hYr
      go_wp2
      go_ret
      exact ⟨a, c, X, rfl, HO.out, by omega, HR.out, HG.out⟩
/-- What a draw of a journal returns, nothing that was there being written. -/
def DeedsSeen (w : World) (e : Ending) (w' : World) : Prop := ∃ (a : Option Addr) (c : Nat) (X : List DeedN), e = .returned (.slice a X.length c) ∧ IsDeeds w.heap.size w'.heap.size w' (.slice a X.length c) X ∧ X.length ≤ 6 ∧ Below w.heap.size w w'
set_option maxRecDepth 100000 in
set_option maxHeartbeats 2000000 in
theorem drawJournal_any (w : World) (a : Option Addr) (len cap : Nat) (zs : List Int) (h : IsRow w a len cap zs) : Calls Tryd.prog 17 #[.slice a len cap] w (DeedsSeen w) := by
  obtain ⟨i0, hi0, hz0, hzs1, hz2⟩ := info_parts3 info_deed
  go_enter Tryd.func17, Tryd.ntmps17
  go_wp2_with fail
  refine (open_any _ _ _ _ zs h).mono ?_
  rintro e w1 ⟨rfl, hR1, hh1, hzR1⟩
  go_wp2_with fail
  refine (l20Noted_any w.heap.size 0 _ hR1 (by omega)).mono ?_
  rintro e w2 ⟨b, c, X, rfl, hO2, hX5, hR2, hh2⟩
  have hB2 : Below w.heap.size w w2 := hh1.grown hh2 hh1.size (fun k e => by cases e; exact Nat.le_refl _)
  have HO2 := Lib.hid hO2
  have hw1 : w.heap.size < w1.heap.size := hR1.lt
  have hz12 := hh2.size
  clear hO2 hh1 hh2 hR1
  go_wp2_with fail
  refine (odd_any w.heap.size _ 12 _ hR2 (by omega) (by omega)).mono ?_
  rintro e w3 ⟨bb, rfl, hR3, hh3⟩
  have hB3 : Below w.heap.size w w3 := hB2.grown hh3 hB2.size (fun k e => by cases e; exact Nat.le_refl _)
  have HO3 := Lib.hid (own_grows HO2.out hh3 hw1)
  have hlk := HO3.out.lt
  have hz3 := hB3.size
  have hz23 := hh3.size
  clear hh3 hR2 hR3 HO2
  cases bb with
  | false =>
    go_wp2
    go_ret
    exact ⟨b, c, X, rfl, (IsDeeds.of_owns HO3.out).mono (by omega) (Nat.le_refl _) (Nat.le_refl _), by omega, hB3⟩
  | true =>
    have hzw := HO3.out.lt
    go_wp2_with (at_builtin; refine wpList_append_deeds _ rfl _ _ 32 rfl w1.heap.size 24 i0 _ 24 Tryd.underlying32 hi0 hz0 hzs1 hz2 rfl (.slice b X.length c) X.length (deedCells X) rfl (HO3.out.alloc _) w3.heap.size (w3.heap.size + 1) _ [⟨9, 0, 0⟩] rfl (IsDeeds.new _ 9 0 0 _ _ rfl) (X.length + 1) rfl (deedCells (X ++ [⟨9, 0, 0⟩])) (deedCells_append _ _) (by unfold maxLen; omega) (by omega) (by simp; omega) ?_)
    intro a7 c7 w7 hown7 hgrow7 hat7
    have hB7 : Below w.heap.size w w7 := (hB3.alloc (by omega) _).grown hgrow7 (by simp; omega) (fun g e => by have := hlk g e; omega)
    have HO7 := Lib.hid (show IsDeeds w.heap.size w7.heap.size w7 (.slice a7 (X ++ [(⟨9, 0, 0⟩ : DeedN)]).length c7) (X ++ [⟨9, 0, 0⟩]) by
      have h7 := (IsDeeds.of_owns hown7).mono (show w.heap.size ≤ w1.heap.size by omega) (Nat.le_refl _) (Nat.le_refl _)
      simpa using h7)
    clear hown7 hgrow7 hat7 HO3
    go_wp2
    go_ret
    exact ⟨a7, c7, X ++ [⟨9, 0, 0⟩], by simp, HO7.out, by simp; omega, hB7⟩
end Go.Proofs.YtigcomhhgfgmgaaDoor
namespace Go.Proofs.YtigcomhhgfgmgaaDoor
open Go.RowKit
theorem below_drewsH {B : Nat} {a w : World} (h : Below B a w) (n : Nat) : Below B a (w.drewN n) := ⟨h.os, h.tape, h.output, h.size, h.block⟩
set_option maxHeartbeats 2000000 in
theorem heldDeedS_any (B C n : Nat) (v : Value) (k0 : Int) (w : World) (h : IsDeeds B C w v (markD k0 n)) (hn : n ≤ 1048600) (hk : 0 ≤ k0) (hk1 : k0 ≤ 100000000) :
    Calls Tryd.prog 29 #[v, .int .i64 k0] w fun e w' => e = .returned (.int .i64 (k0 + 3 * (n : Int))) ∧ Below w.heap.size w w' := by
  obtain ⟨a, ca, rfl, hC, hs⟩ := h
  rw [markD_len]
  replace hs : n = 0 ∨ ∃ g off, a = some ⟨g, off, none⟩ ∧ ∀ j, j < n → w.cell? ⟨g, off + j * 3, none⟩ = some (.int .i64 (k0 + 3 * (j : Int))) ∧ w.cell? ⟨g, off + j * 3 + 1, none⟩ = some (.int .i64 (k0 + 3 * (j : Int) + 1)) ∧ w.cell? ⟨g, off + j * 3 + 2, none⟩ = some (.int .i64 (k0 + 3 * (j : Int) + 1 + 1)) := by
    rcases hs with hs | ⟨g, off, ha, _, _, hc, _⟩
    · left; have := markD_len k0 n; rw [hs] at this; simpa using this.symm
    · exact .inr ⟨g, off, ha, fun j hj => hc j _ (markD_at hj)⟩
  go_enter Tryd.func29, Tryd.ntmps29
  go_wp2_with fail
  go_loop [1, 5] (fun x y => ∃ i : Nat, i ≤ n ∧ x = .int .i64 (k0 + 3 * (i : Int)) ∧ y = .int .i64 i) (fun _ y => n - (intOf y).toNat)
  case atStart => exact ⟨0, Nat.zero_le _, by simp, rfl⟩
  case round =>
    obtain ⟨i, hi, rfl, rfl⟩ := hrel
    by_cases hlt : i < n
    · rcases hs with rfl | ⟨g, off, rfl, hc⟩
      · omega
      obtain ⟨c1, c2, c3⟩ := hc i hlt
      have hii : (i : Int) < (n : Int) := by omega
      have i0 : (0 : Int) ≤ (i : Int) := by omega
      clear hc
      go_wp2
      go_round
      case rel => exact ⟨i + 1, by omega, congrArg (Value.int .i64) (by omega), congrArg (Value.int .i64) (by omega)⟩
      case measure => simp [intOf]; omega
    · obtain rfl : i = n := by omega
      clear hs
      go_wp2
      go_ret
      exact ⟨rfl, Below.refl _ _⟩
set_option maxHeartbeats 4000000 in
theorem sameDeeds_same (B C B' C' : Nat) (v u : Value) (L : List DeedN) (w : World) (h : IsDeeds B C w v L) (k : IsDeeds B' C' w u L) (hn : L.length ≤ 1048600) :
    Calls Tryd.prog 21 #[v, u] w fun e w' => e = .returned (.bool true) ∧ Below w.heap.size w w' := by
  obtain ⟨a, ca, rfl, hC, hs⟩ := h
  obtain ⟨b, cb, rfl, hC', ks⟩ := k
  go_enter Tryd.func21, Tryd.ntmps21
  go_wp2_with fail
  go_loopw [5] (fun k wr => ∃ i : Nat, i ≤ L.length ∧ k = .int .i64 i ∧ Below w.heap.size w wr) (fun k _ => L.length - (intOf k).toNat)
  case atStart => exact ⟨0, Nat.zero_le _, rfl, Below.refl _ _⟩
  case round =>
    obtain ⟨i, hi, rfl, hB⟩ := hrel
    by_cases hlt : i < L.length
    · rcases hs with rfl | ⟨g, off, rfl, h1, h2, hc, hf⟩
      · simp at hlt
      rcases ks with rfl | ⟨g', off', rfl, h1', h2', hc', hf'⟩
      · simp at hlt
      obtain ⟨x, y, z, hp⟩ := deed_at hlt
      have c1 : wr.cell? ⟨g, off + i * 3, none⟩ = some (.int .i64 x) := (hB.cell (p := ⟨g, off + i * 3, none⟩) (by show g < _; omega)).trans (hc i _ hp).1
      have c2 : wr.cell? ⟨g, off + i * 3 + 1, none⟩ = some (.int .i64 y) := (hB.cell (p := ⟨g, off + i * 3 + 1, none⟩) (by show g < _; omega)).trans (hc i _ hp).2.1
      have c3 : wr.cell? ⟨g, off + i * 3 + 2, none⟩ = some (.int .i64 z) := (hB.cell (p := ⟨g, off + i * 3 + 2, none⟩) (by show g < _; omega)).trans (hc i _ hp).2.2
      have c4 : wr.cell? ⟨g', off' + i * 3, none⟩ = some (.int .i64 x) := (hB.cell (p := ⟨g', off' + i * 3, none⟩) (by show g' < _; omega)).trans (hc' i _ hp).1
      have c5 : wr.cell? ⟨g', off' + i * 3 + 1, none⟩ = some (.int .i64 y) := (hB.cell (p := ⟨g', off' + i * 3 + 1, none⟩) (by show g' < _; omega)).trans (hc' i _ hp).2.1
      have c6 : wr.cell? ⟨g', off' + i * 3 + 2, none⟩ = some (.int .i64 z) := (hB.cell (p := ⟨g', off' + i * 3 + 2, none⟩) (by show g' < _; omega)).trans (hc' i _ hp).2.2
      have hii : (i : Int) < (L.length : Int) := by omega
      have i0 : (0 : Int) ≤ (i : Int) := by omega
      clear hc hc' hf hf' hp
      go_wp2
      go_quiet (fail)
      go_wp2
      go_roundw
      case rel => exact ⟨i + 1, by omega, congrArg (Value.int .i64) (by omega), below_drewsH hB _⟩
      case measure => simp [intOf]; omega
    · obtain rfl : i = L.length := by omega
      clear hs ks
      go_wp2
      go_ret
      exact ⟨rfl, hB⟩
end Go.Proofs.YtigcomhhgfgmgaaDoor
namespace Go.Proofs.YtigcomhhgfgmgaaDoor
open Go.RowKit
theorem readJ_noteds {X : List DeedN} (h : journV X ≠ []) : readJ [] (journV X) = (X, (journV X).length) := by
  unfold journV at *
  split at h
  · rename_i hn
    rw [if_pos hn, readJ_journal X fun x hx => by simpa using List.all_eq_true.1 hn x hx]
  · exact absurd rfl h
theorem journV_len (X : List DeedN) : (journV X).length ≤ 13 * X.length := by
  unfold journV
  split
  · exact journalN_len X
  · simp
theorem readJ_count (s : List UInt8) : ∀ line, (readJ line s).1.length ≤ (readJ line s).2 := by
  induction s with
  | nil => intro line; simp [readJ]
  | cons c cs ih =>
    intro line
    unfold readJ
    split
    · cases h : readN line with
      | none => simp
      | some x => have := ih []; simp only [List.length_cons]; omega
    · exact ih _
set_option maxRecDepth 100000 in
set_option maxHeartbeats 2000000 in
theorem fnJournalText_walk (a : Option Addr) (len cap : Nat) (z : List Int) (w : World) (w0 : IsRow w a len cap z) (ht : PowTab w) (he : Errs w) :
    Calls Tryd.prog 5 #[.slice a len cap] w fun e w' => e = .returned (.bool true) ∧ Below w.heap.size w w' := by
  by_cases hbig : 1048576 < len
  · go_enter Tryd.func5, Tryd.ntmps5
    go_wp2
    go_ret
    exact ⟨rfl, Below.refl _ _⟩
  · have hsm : len ≤ 1048576 := by omega
    go_enter Tryd.func5, Tryd.ntmps5
    go_wp2_with fail
    refine (drawJournal_any _ _ _ _ z w0).mono ?_
    rintro e w1 ⟨ja, jc, X, rfl, hX, hX6, hh1⟩
    have hz1 := hh1.size
    obtain ⟨hc1, hf1⟩ := bcell hh1
    have hn : X.length ≤ 1048600 := by omega
    have hS := fun (W : World) B C h => specJournal_any B C X (.slice ja X.length jc) W h hn
    have hI := fun (W : World) B C h hT => implJournal_any B C X (.slice ja X.length jc) W h hn hT
    have hlen := journV_len X
    have hR := fun (W : World) hT hE => implReadJ_any (txt (journV X)) W (by rw [txt_size]; omega) hT hE
    simp only [txt_list] at hR
    unfold JournS at hR
    have hnj := fun h => @readJ_noteds X h
    have hsz : (txt (journV X)).size = (journV X).length := txt_size _
    have hem : (txt (journV X)).toList.isEmpty = (journV X).isEmpty := by rw [bl_toList]; rfl
    obtain ⟨J, hJ⟩ : ∃ J, journV X = J := ⟨_, rfl⟩
    rw [hJ] at hS hI hR hem hsz hnj hlen
    obtain ⟨t, htx⟩ : ∃ t, txt J = t := ⟨_, rfl⟩
    rw [htx] at hS hI hR hem hsz
    have hsame := txt_same t
    have HS := Lib.hid hS
    have HI := Lib.hid hI
    have HRR := Lib.hid hR
    have HEM := Lib.hid hem
    have HNJ := Lib.hid hnj
    have HSZ := Lib.hid hsz
    clear hS hI hR hem htx hJ hnj hsz
    have HB1 := Lib.hid hh1
    have HT := Lib.hid ht
    have HE := Lib.hid he
    have HR1_d0 := Lib.hid hX
    clear hc1 hf1 hh1 ht he hX
    go_wp2_with fail
    refine (HI.out _ _ _ HR1_d0.out (HT.out.below HB1.out (Nat.le_refl _))).mono ?_
    rintro e w2 ⟨rfl, hb2⟩
    obtain ⟨hc2, hf2⟩ := bcell hb2
    have hz2 := hb2.size
    try simp at hz2
    have hN2 : Below w1.heap.size w1 w2 := by
      refine Below.trans ?_ (hb2.mono (by first | omega | (simp <;> omega)))
      (repeat (first | exact Below.refl _ _ | refine Below.setCell ?_ (by first | omega | (simp <;> omega)) _ | refine Below.alloc ?_ (by first | omega | (simp <;> omega)) _ | refine Below.drew ?_))
    have hn2 := hN2.size
    have HB2 := Lib.hid (HB1.out.trans (hN2.mono (by first | exact Nat.le_refl _ | omega)))
    have HR2_d0 := Lib.hid (HR1_d0.out.below hN2 (by first | exact Nat.le_refl _ | omega))
    clear hc2 hf2 hb2 hN2 hz2
    go_wp2_with fail
    refine (HS.out _ _ _ HR2_d0.out).mono ?_
    rintro e w3 ⟨rfl, hb3⟩
    obtain ⟨hc3, hf3⟩ := bcell hb3
    have hz3 := hb3.size
    try simp at hz3
    have hN3 : Below w2.heap.size w2 w3 := by
      refine Below.trans ?_ (hb3.mono (by first | omega | (simp <;> omega)))
      (repeat (first | exact Below.refl _ _ | refine Below.setCell ?_ (by first | omega | (simp <;> omega)) _ | refine Below.alloc ?_ (by first | omega | (simp <;> omega)) _ | refine Below.drew ?_))
    have hn3 := hN3.size
    have HB3 := Lib.hid (HB2.out.trans (hN3.mono (by first | exact Nat.le_refl _ | omega)))
    have HR3_d0 := Lib.hid (HR2_d0.out.below hN3 (by first | exact Nat.le_refl _ | omega))
    clear hc3 hf3 hb3 hN3 hz3
    by_cases hd : J = []
    · have hemp : t.toList.isEmpty = true := by rw [HEM.out, hd]; rfl
      clear hd
      go_wp2_with fail
      refine (alive_any _).mono ?_
      rintro e w4 ⟨rfl, hb4⟩
      obtain ⟨hc4, hf4⟩ := bcell hb4
      have hz4 := hb4.size
      try simp at hz4
      have hN4 : Below w3.heap.size w3 w4 := by
        refine Below.trans ?_ (hb4.mono (by first | omega | (simp <;> omega)))
        (repeat (first | exact Below.refl _ _ | refine Below.setCell ?_ (by first | omega | (simp <;> omega)) _ | refine Below.alloc ?_ (by first | omega | (simp <;> omega)) _ | refine Below.drew ?_))
      have hn4 := hN4.size
      have HB4 := Lib.hid (HB3.out.trans (hN4.mono (by first | exact Nat.le_refl _ | omega)))
      have HR4_d0 := Lib.hid (HR3_d0.out.below hN4 (by first | exact Nat.le_refl _ | omega))
      clear hc4 hf4 hb4 hN4 hz4
      go_wp2
      go_ret
      exact ⟨rfl, HB4.out⟩
    · have hemp : t.toList.isEmpty = false := by
        rw [HEM.out]
        cases hc : J with
        | nil => exact absurd hc hd
        | cons _ _ => rfl
      have hr := HRR.out
      rw [HNJ.out hd, ← HSZ.out] at hr
      have HR := Lib.hid hr
      clear hd hr HRR
      go_wp2_with fail
      refine (HR.out _ (HT.out.below HB3.out (Nat.le_refl _)) (HE.out.below HB3.out (Nat.le_refl _))).mono ?_
      rintro e w4 ⟨ad5, cd5, rfl, hId5, hb4⟩
      obtain ⟨hc4, hf4⟩ := bcell hb4
      have hz4 := hb4.size
      try simp at hz4
      have hN4 : Below w3.heap.size w3 w4 := by
        refine Below.trans ?_ (hb4.mono (by first | omega | (simp <;> omega)))
        (repeat (first | exact Below.refl _ _ | refine Below.setCell ?_ (by first | omega | (simp <;> omega)) _ | refine Below.alloc ?_ (by first | omega | (simp <;> omega)) _ | refine Below.drew ?_))
      have hn4 := hN4.size
      have HB4 := Lib.hid (HB3.out.trans (hN4.mono (by first | exact Nat.le_refl _ | omega)))
      have HR4_d0 := Lib.hid (HR3_d0.out.below hN4 (by first | exact Nat.le_refl _ | omega))
      clear hc4 hf4 hb4 hN4 hz4
      try simp only [World.size_alloc] at hId5
      have HR4_d5 := Lib.hid (hId5)
      clear hId5
      go_wp2_with fail
      refine (sameDeeds_same _ _ _ _ _ _ X _ HR4_d5.out HR4_d0.out hn).mono ?_
      rintro e w5 ⟨rfl, hb5⟩
      obtain ⟨hc5, hf5⟩ := bcell hb5
      have hz5 := hb5.size
      try simp at hz5
      have hN5 : Below w4.heap.size w4 w5 := by
        refine Below.trans ?_ (hb5.mono (by first | omega | (simp <;> omega)))
        (repeat (first | exact Below.refl _ _ | refine Below.setCell ?_ (by first | omega | (simp <;> omega)) _ | refine Below.alloc ?_ (by first | omega | (simp <;> omega)) _ | refine Below.drew ?_))
      have hn5 := hN5.size
      have HB5 := Lib.hid (HB4.out.trans (hN5.mono (by first | exact Nat.le_refl _ | omega)))
      have HR5_d0 := Lib.hid (HR4_d0.out.below hN5 (by first | exact Nat.le_refl _ | omega))
      have HR5_d5 := Lib.hid (HR4_d5.out.below hN5 (by first | exact Nat.le_refl _ | omega))
      clear hc5 hf5 hb5 hN5 hz5
      go_wp2
      go_ret
      exact ⟨rfl, HB5.out⟩
set_option maxRecDepth 100000 in
set_option maxHeartbeats 2000000 in
theorem fnExactJournalText_walk (v : Value) (X : List DeedN) (w : World) (h : SeesDeeds w v X) (hl : X.length ≤ maxLen) (ht : PowTab w) :
    Calls Tryd.prog 8 #[v] w fun e w' => e = .returned (.bool true) ∧ Below w.heap.size w w' := by
  obtain ⟨b, cb, rfl, _⟩ := id h
  rcases Nat.lt_or_ge 1048576 X.length with hbig | hsm
  · go_enter Tryd.func8, Tryd.ntmps8
    go_wp2_with fail
    refine (szDeedS_big b X.length cb 1048576 (by omega) hbig hl _).mono ?_
    rintro e w1 ⟨rfl, hb1⟩
    go_wp2
    go_ret
    exact ⟨rfl, hb1⟩
  · have hm : X.length ≤ 1048600 := by omega
    have h3 : ¬ (((1048576 - X.length : Nat) : Int) < 0) := by omega
    have hS := fun (W : World) B C (u : Value) (h : IsDeeds B C W u X) => specJournal_any B C X u W h hm
    have hI := fun (W : World) B C (u : Value) (h : IsDeeds B C W u X) hT => implJournal_any B C X u W h hm hT
    obtain ⟨t, htx⟩ : ∃ t, txt (journV X) = t := ⟨_, rfl⟩
    rw [htx] at hS hI
    have hsame := txt_same t
    have H := Lib.hid h
    have HS := Lib.hid hS
    have HI := Lib.hid hI
    have HT := Lib.hid ht
    clear h hS hI ht htx
    go_enter Tryd.func8, Tryd.ntmps8
    go_wp2_with fail
    refine (szDeedS_fit b X.length cb 1048576 (by omega) hsm _).mono ?_
    rintro e w1 ⟨rfl, hb1⟩
    obtain ⟨hc1, hf1⟩ := bcell hb1
    have hz1 := hb1.size
    try simp at hz1
    have hN1 : Below w.heap.size w w1 := by
      refine Below.trans ?_ (hb1.mono (by first | omega | (simp <;> omega)))
      (repeat (first | exact Below.refl _ _ | refine Below.setCell ?_ (by first | omega | (simp <;> omega)) _ | refine Below.alloc ?_ (by first | omega | (simp <;> omega)) _ | refine Below.drew ?_))
    have hn1 := hN1.size
    have HB1 := Lib.hid ((Below.refl w.heap.size w).trans (hN1.mono (by first | exact Nat.le_refl _ | omega)))
    clear hc1 hf1 hb1 hN1 hz1
    go_wp2_with fail
    refine (toDeedS_any X _ _ (H.out.below HB1.out) hm).mono ?_
    rintro e w2 ⟨ud2, rfl, hId2, hb2⟩
    obtain ⟨hc2, hf2⟩ := bcell hb2
    have hz2 := hb2.size
    try simp at hz2
    have hN2 : Below w1.heap.size w1 w2 := by
      refine Below.trans ?_ (hb2.mono (by first | omega | (simp <;> omega)))
      (repeat (first | exact Below.refl _ _ | refine Below.setCell ?_ (by first | omega | (simp <;> omega)) _ | refine Below.alloc ?_ (by first | omega | (simp <;> omega)) _ | refine Below.drew ?_))
    have hn2 := hN2.size
    have HB2 := Lib.hid (HB1.out.trans (hN2.mono (by first | exact Nat.le_refl _ | omega)))
    clear hc2 hf2 hb2 hN2 hz2
    try simp only [World.size_alloc] at hId2
    have HR2_d2 := Lib.hid (hId2)
    clear hId2
    go_wp2_with fail
    refine (HS.out _ _ _ _ HR2_d2.out).mono ?_
    rintro e w3 ⟨rfl, hb3⟩
    obtain ⟨hc3, hf3⟩ := bcell hb3
    have hz3 := hb3.size
    try simp at hz3
    have hN3 : Below w2.heap.size w2 w3 := by
      refine Below.trans ?_ (hb3.mono (by first | omega | (simp <;> omega)))
      (repeat (first | exact Below.refl _ _ | refine Below.setCell ?_ (by first | omega | (simp <;> omega)) _ | refine Below.alloc ?_ (by first | omega | (simp <;> omega)) _ | refine Below.drew ?_))
    have hn3 := hN3.size
    have HB3 := Lib.hid (HB2.out.trans (hN3.mono (by first | exact Nat.le_refl _ | omega)))
    have HR3_d2 := Lib.hid (HR2_d2.out.below hN3 (by first | exact Nat.le_refl _ | omega))
    clear hc3 hf3 hb3 hN3 hz3
    go_wp2_with fail
    refine (toDeedS_any X _ _ (H.out.below HB3.out) hm).mono ?_
    rintro e w4 ⟨ud4, rfl, hId4, hb4⟩
    obtain ⟨hc4, hf4⟩ := bcell hb4
    have hz4 := hb4.size
    try simp at hz4
    have hN4 : Below w3.heap.size w3 w4 := by
      refine Below.trans ?_ (hb4.mono (by first | omega | (simp <;> omega)))
      (repeat (first | exact Below.refl _ _ | refine Below.setCell ?_ (by first | omega | (simp <;> omega)) _ | refine Below.alloc ?_ (by first | omega | (simp <;> omega)) _ | refine Below.drew ?_))
    have hn4 := hN4.size
    have HB4 := Lib.hid (HB3.out.trans (hN4.mono (by first | exact Nat.le_refl _ | omega)))
    clear hc4 hf4 hb4 hN4 hz4
    try simp only [World.size_alloc] at hId4
    have HR4_d4 := Lib.hid (hId4)
    clear hId4
    go_wp2_with fail
    refine (HI.out _ _ _ _ HR4_d4.out (HT.out.below HB4.out (Nat.le_refl _))).mono ?_
    rintro e w5 ⟨rfl, hb5⟩
    obtain ⟨hc5, hf5⟩ := bcell hb5
    have hz5 := hb5.size
    try simp at hz5
    have hN5 : Below w4.heap.size w4 w5 := by
      refine Below.trans ?_ (hb5.mono (by first | omega | (simp <;> omega)))
      (repeat (first | exact Below.refl _ _ | refine Below.setCell ?_ (by first | omega | (simp <;> omega)) _ | refine Below.alloc ?_ (by first | omega | (simp <;> omega)) _ | refine Below.drew ?_))
    have hn5 := hN5.size
    have HB5 := Lib.hid (HB4.out.trans (hN5.mono (by first | exact Nat.le_refl _ | omega)))
    have HR5_d4 := Lib.hid (HR4_d4.out.below hN5 (by first | exact Nat.le_refl _ | omega))
    clear hc5 hf5 hb5 hN5 hz5
    go_wp2_with fail
    refine (toDeedS_any X _ _ (H.out.below HB5.out) hm).mono ?_
    rintro e w6 ⟨ud6, rfl, hId6, hb6⟩
    obtain ⟨hc6, hf6⟩ := bcell hb6
    have hz6 := hb6.size
    try simp at hz6
    have hN6 : Below w5.heap.size w5 w6 := by
      refine Below.trans ?_ (hb6.mono (by first | omega | (simp <;> omega)))
      (repeat (first | exact Below.refl _ _ | refine Below.setCell ?_ (by first | omega | (simp <;> omega)) _ | refine Below.alloc ?_ (by first | omega | (simp <;> omega)) _ | refine Below.drew ?_))
    have hn6 := hN6.size
    have HB6 := Lib.hid (HB5.out.trans (hN6.mono (by first | exact Nat.le_refl _ | omega)))
    have HR6_d4 := Lib.hid (HR5_d4.out.below hN6 (by first | exact Nat.le_refl _ | omega))
    clear hc6 hf6 hb6 hN6 hz6
    try simp only [World.size_alloc] at hId6
    have HR6_d6 := Lib.hid (hId6)
    clear hId6
    go_wp2_with fail
    refine (eqDeedS_same _ _ _ _ _ _ X _ HR6_d4.out HR6_d6.out hm).mono ?_
    rintro e w7 ⟨rfl, hb7⟩
    obtain ⟨hc7, hf7⟩ := bcell hb7
    have hz7 := hb7.size
    try simp at hz7
    have hN7 : Below w6.heap.size w6 w7 := by
      refine Below.trans ?_ (hb7.mono (by first | omega | (simp <;> omega)))
      (repeat (first | exact Below.refl _ _ | refine Below.setCell ?_ (by first | omega | (simp <;> omega)) _ | refine Below.alloc ?_ (by first | omega | (simp <;> omega)) _ | refine Below.drew ?_))
    have hn7 := hN7.size
    have HB7 := Lib.hid (HB6.out.trans (hN7.mono (by first | exact Nat.le_refl _ | omega)))
    have HR7_d4 := Lib.hid (HR6_d4.out.below hN7 (by first | exact Nat.le_refl _ | omega))
    have HR7_d6 := Lib.hid (HR6_d6.out.below hN7 (by first | exact Nat.le_refl _ | omega))
    clear hc7 hf7 hb7 hN7 hz7
    go_wp2
    go_ret
    exact ⟨rfl, HB7.out⟩
set_option maxRecDepth 100000 in
set_option maxHeartbeats 4000000 in
theorem fnExactReadJournal_walk (s : ByteArray) (w : World) (ht : PowTab w) (he : Errs w) :
    Calls Tryd.prog 9 #[.string s] w fun e w' => e = .returned (.bool true) ∧ Below w.heap.size w w' := by
  by_cases hbig : 1048576 < s.size
  · have hbi : (1048576 : Int) < (s.size : Int) := by omega
    go_enter Tryd.func9, Tryd.ntmps9
    go_wp2
    go_ret
    exact ⟨rfl, Below.refl _ _⟩
  · have hbi : ¬ (1048576 : Int) < (s.size : Int) := by omega
    have hS := fun W => specReadJ_any s W (by omega)
    have hI := fun W hT hE => implReadJ_any s W (by omega) hT hE
    have hm := Nat.le_trans (readJ_count s.data.toList []) (readJ_le [] s.data.toList)
    rw [bl_size] at hm
    unfold JournS at hS hI
    obtain ⟨R, n, hres⟩ : ∃ R n, readJ [] s.data.toList = (R, n) := ⟨_, _, rfl⟩
    rw [hres] at hS hI hm
    dsimp only at hS hI hm
    replace hm : R.length ≤ 1048600 := by simp only [List.length_nil] at hm; omega
    have h5 : ¬ (1 + 3 * (R.length : Int) < 0) := by omega
    have HS := Lib.hid hS
    have HI := Lib.hid hI
    have HT := Lib.hid ht
    have HE := Lib.hid he
    clear hS hI hres ht he
    go_enter Tryd.func9, Tryd.ntmps9
    go_wp2_with fail
    refine (HS.out _).mono ?_
    rintro e w1 ⟨ad1, cd1, rfl, hId1, hb1⟩
    obtain ⟨hc1, hf1⟩ := bcell hb1
    have hz1 := hb1.size
    try simp at hz1
    have hN1 : Below w.heap.size w w1 := by
      refine Below.trans ?_ (hb1.mono (by first | omega | (simp <;> omega)))
      (repeat (first | exact Below.refl _ _ | refine Below.setCell ?_ (by first | omega | (simp <;> omega)) _ | refine Below.alloc ?_ (by first | omega | (simp <;> omega)) _ | refine Below.drew ?_))
    have hn1 := hN1.size
    have HB1 := Lib.hid ((Below.refl w.heap.size w).trans (hN1.mono (by first | exact Nat.le_refl _ | omega)))
    clear hc1 hf1 hb1 hN1 hz1
    try simp only [World.size_alloc] at hId1
    have HR1_d1 := Lib.hid (hId1)
    clear hId1
    go_wp2_with fail
    refine (HI.out _ (HT.out.below HB1.out (Nat.le_refl _)) (HE.out.below HB1.out (Nat.le_refl _))).mono ?_
    rintro e w2 ⟨ad2, cd2, rfl, hId2, hb2⟩
    obtain ⟨hc2, hf2⟩ := bcell hb2
    have hz2 := hb2.size
    try simp at hz2
    have hN2 : Below w1.heap.size w1 w2 := by
      refine Below.trans ?_ (hb2.mono (by first | omega | (simp <;> omega)))
      (repeat (first | exact Below.refl _ _ | refine Below.setCell ?_ (by first | omega | (simp <;> omega)) _ | refine Below.alloc ?_ (by first | omega | (simp <;> omega)) _ | refine Below.drew ?_))
    have hn2 := hN2.size
    have HB2 := Lib.hid (HB1.out.trans (hN2.mono (by first | exact Nat.le_refl _ | omega)))
    have HR2_d1 := Lib.hid (HR1_d1.out.below hN2 (by first | exact Nat.le_refl _ | omega))
    clear hc2 hf2 hb2 hN2 hz2
    try simp only [World.size_alloc] at hId2
    have HR2_d2 := Lib.hid (hId2)
    clear hId2
    go_wp2_with fail
    refine (eqDeedS_same _ _ _ _ _ _ R _ HR2_d2.out HR2_d1.out hm).mono ?_
    rintro e w3 ⟨rfl, hb3⟩
    obtain ⟨hc3, hf3⟩ := bcell hb3
    have hz3 := hb3.size
    try simp at hz3
    have hN3 : Below w2.heap.size w2 w3 := by
      refine Below.trans ?_ (hb3.mono (by first | omega | (simp <;> omega)))
      (repeat (first | exact Below.refl _ _ | refine Below.setCell ?_ (by first | omega | (simp <;> omega)) _ | refine Below.alloc ?_ (by first | omega | (simp <;> omega)) _ | refine Below.drew ?_))
    have hn3 := hN3.size
    have HB3 := Lib.hid (HB2.out.trans (hN3.mono (by first | exact Nat.le_refl _ | omega)))
    have HR3_d1 := Lib.hid (HR2_d1.out.below hN3 (by first | exact Nat.le_refl _ | omega))
    have HR3_d2 := Lib.hid (HR2_d2.out.below hN3 (by first | exact Nat.le_refl _ | omega))
    clear hc3 hf3 hb3 hN3 hz3
    go_wp2_with fail
    refine (markDeedS_any _ _ _ R 1 _ HR3_d2.out hm (by omega) (by omega)).mono ?_
    rintro e w4 ⟨rfl, hI4, hM4⟩
    have hn4 := hM4.size
    have HB4 := Lib.hid (below_markedS HB3.out hM4 (by omega) (by omega))
    have HR4_d1 := Lib.hid (HR3_d1.out.markedS hM4 (by omega))
    have HR4_d2 := Lib.hid hI4
    clear hI4 hM4
    go_wp2_with fail
    refine (heldDeedS_any _ _ R.length _ 1 _ HR4_d2.out hm (by omega) (by omega)).mono ?_
    rintro e w5 ⟨rfl, hb5⟩
    obtain ⟨hc5, hf5⟩ := bcell hb5
    have hz5 := hb5.size
    try simp at hz5
    have hN5 : Below w4.heap.size w4 w5 := by
      refine Below.trans ?_ (hb5.mono (by first | omega | (simp <;> omega)))
      (repeat (first | exact Below.refl _ _ | refine Below.setCell ?_ (by first | omega | (simp <;> omega)) _ | refine Below.alloc ?_ (by first | omega | (simp <;> omega)) _ | refine Below.drew ?_))
    have hn5 := hN5.size
    have HB5 := Lib.hid (HB4.out.trans (hN5.mono (by first | exact Nat.le_refl _ | omega)))
    have HR5_d1 := Lib.hid (HR4_d1.out.below hN5 (by first | exact Nat.le_refl _ | omega))
    have HR5_d2 := Lib.hid (HR4_d2.out.below hN5 (by first | exact Nat.le_refl _ | omega))
    clear hc5 hf5 hb5 hN5 hz5
    go_wp2_with fail
    refine (HI.out _ (HT.out.below HB5.out (Nat.le_refl _)) (HE.out.below HB5.out (Nat.le_refl _))).mono ?_
    rintro e w6 ⟨ad6, cd6, rfl, hId6, hb6⟩
    obtain ⟨hc6, hf6⟩ := bcell hb6
    have hz6 := hb6.size
    try simp at hz6
    have hN6 : Below w5.heap.size w5 w6 := by
      refine Below.trans ?_ (hb6.mono (by first | omega | (simp <;> omega)))
      (repeat (first | exact Below.refl _ _ | refine Below.setCell ?_ (by first | omega | (simp <;> omega)) _ | refine Below.alloc ?_ (by first | omega | (simp <;> omega)) _ | refine Below.drew ?_))
    have hn6 := hN6.size
    have HB6 := Lib.hid (HB5.out.trans (hN6.mono (by first | exact Nat.le_refl _ | omega)))
    have HR6_d1 := Lib.hid (HR5_d1.out.below hN6 (by first | exact Nat.le_refl _ | omega))
    have HR6_d2 := Lib.hid (HR5_d2.out.below hN6 (by first | exact Nat.le_refl _ | omega))
    clear hc6 hf6 hb6 hN6 hz6
    try simp only [World.size_alloc] at hId6
    have HR6_d6 := Lib.hid (hId6)
    clear hId6
    go_wp2_with fail
    refine (eqDeedS_same _ _ _ _ _ _ R _ HR6_d6.out HR6_d1.out hm).mono ?_
    rintro e w7 ⟨rfl, hb7⟩
    obtain ⟨hc7, hf7⟩ := bcell hb7
    have hz7 := hb7.size
    try simp at hz7
    have hN7 : Below w6.heap.size w6 w7 := by
      refine Below.trans ?_ (hb7.mono (by first | omega | (simp <;> omega)))
      (repeat (first | exact Below.refl _ _ | refine Below.setCell ?_ (by first | omega | (simp <;> omega)) _ | refine Below.alloc ?_ (by first | omega | (simp <;> omega)) _ | refine Below.drew ?_))
    have hn7 := hN7.size
    have HB7 := Lib.hid (HB6.out.trans (hN7.mono (by first | exact Nat.le_refl _ | omega)))
    have HR7_d1 := Lib.hid (HR6_d1.out.below hN7 (by first | exact Nat.le_refl _ | omega))
    have HR7_d2 := Lib.hid (HR6_d2.out.below hN7 (by first | exact Nat.le_refl _ | omega))
    have HR7_d6 := Lib.hid (HR6_d6.out.below hN7 (by first | exact Nat.le_refl _ | omega))
    clear hc7 hf7 hb7 hN7 hz7
    go_wp2_with fail
    refine (heldDeedS_any _ _ R.length _ 1 _ HR7_d2.out hm (by omega) (by omega)).mono ?_
    rintro e w8 ⟨rfl, hb8⟩
    obtain ⟨hc8, hf8⟩ := bcell hb8
    have hz8 := hb8.size
    try simp at hz8
    have hN8 : Below w7.heap.size w7 w8 := by
      refine Below.trans ?_ (hb8.mono (by first | omega | (simp <;> omega)))
      (repeat (first | exact Below.refl _ _ | refine Below.setCell ?_ (by first | omega | (simp <;> omega)) _ | refine Below.alloc ?_ (by first | omega | (simp <;> omega)) _ | refine Below.drew ?_))
    have hn8 := hN8.size
    have HB8 := Lib.hid (HB7.out.trans (hN8.mono (by first | exact Nat.le_refl _ | omega)))
    have HR8_d1 := Lib.hid (HR7_d1.out.below hN8 (by first | exact Nat.le_refl _ | omega))
    have HR8_d2 := Lib.hid (HR7_d2.out.below hN8 (by first | exact Nat.le_refl _ | omega))
    have HR8_d6 := Lib.hid (HR7_d6.out.below hN8 (by first | exact Nat.le_refl _ | omega))
    clear hc8 hf8 hb8 hN8 hz8
    go_wp2
    go_ret
    exact ⟨rfl, HB8.out⟩
end Go.Proofs.YtigcomhhgfgmgaaDoor
