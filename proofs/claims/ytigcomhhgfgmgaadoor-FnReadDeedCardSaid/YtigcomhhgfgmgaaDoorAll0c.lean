/- Contracts and laws that the statement's proof stands on, one text behind the other. -/
import Derived.Test.YtigcomhhgfgmgaaDoorAll0b

namespace Go.Proofs.YtigcomhhgfgmgaaDoor
open Go.RowKit
theorem deedV_text {x : DeedN} (h : deedT x ≠ []) : deedV (deedT x) = (x, true) := by rw [deedV, readN_text h]
theorem deedV_yes {l : List UInt8} {x : DeedN} (h : deedV l = (x, true)) : deedT x = l ∧ l ≠ [] := by
  unfold deedV at h
  split at h
  · rename_i y hy
    injection h with h1 _
    subst h1
    exact readN_some hy
  · cases h
theorem deedV_no {l : List UInt8} {x : DeedN} (h : deedV l = (x, false)) : x = ⟨0, 0, 0⟩ := by
  unfold deedV at h
  split at h
  · cases h
  · injection h with h1 _; exact h1.symm
theorem deedV_space (l : List UInt8) : deedV (l ++ [32]) = (⟨0, 0, 0⟩, false) := by rw [deedV, readN_space]
set_option maxRecDepth 100000 in
set_option maxHeartbeats 2000000 in
theorem fnExactReadDeed_walk (s : ByteArray) (w : World) (ht : PowTab w) (he : Errs w) :
    Calls Tryd.prog 7 #[.string s] w fun e w' => e = .returned (.bool true) ∧ Below w.heap.size w w' := by
  by_cases hbig : 1048576 < s.size
  · have hbi : (1048576 : Int) < (s.size : Int) := by omega
    go_enter Tryd.func7, Tryd.ntmps7
    go_wp2
    go_ret
    exact ⟨rfl, Below.refl _ _⟩
  · have hbi : ¬ (1048576 : Int) < (s.size : Int) := by omega
    have hS := fun W => specDeedRead_any s W (by omega)
    have hI := fun W hT hE => implDeedRead_any s W (by omega) hT hE
    obtain ⟨⟨k, a, b⟩, ok, hv⟩ : ∃ x ok, deedV s.data.toList = (x, ok) := ⟨_, _, rfl⟩
    rw [hv] at hS hI
    dsimp only at hS hI
    have HS := Lib.hid hS
    have HI := Lib.hid hI
    clear hS hI hv
    go_enter Tryd.func7, Tryd.ntmps7
    have HR0_tab := Lib.hid ht
    have HR0_err := Lib.hid he
    clear ht he
    go_wp2_with fail
    refine (HS.out _).mono ?_
    rintro e w1 ⟨rfl, hb1⟩
    obtain ⟨hc1, hf1⟩ := bcell hb1
    have hz1 := hb1.size
    try simp at hz1
    have hN1 : Below w.heap.size w w1 := by
      refine Below.trans ?_ (hb1.mono (by first | omega | (simp <;> omega)))
      (repeat (first | exact Below.refl _ _ | refine Below.setCell ?_ (by first | omega | (simp <;> omega)) _ | refine Below.alloc ?_ (by first | omega | (simp <;> omega)) _ | refine Below.drew ?_))
    have hn1 := hN1.size
    have HB1 := Lib.hid ((Below.refl w.heap.size w).trans (hN1.mono (by first | exact Nat.le_refl _ | omega)))
    have HR1_tab := Lib.hid (HR0_tab.out.below hN1 (by first | exact Nat.le_refl _ | omega))
    have HR1_err := Lib.hid (HR0_err.out.below hN1 (by first | exact Nat.le_refl _ | omega))
    clear hc1 hf1 hb1 hN1 hz1
    go_wp2_with fail
    refine calls_namedD ?_
    intro w2 hw2
    have hN2 : Below w1.heap.size w1 w2 := by
      rw [hw2]
      (repeat (first | exact Below.refl _ _ | refine Below.setCell ?_ (by first | omega | (simp <;> omega)) _ | refine Below.alloc ?_ (by first | omega | (simp <;> omega)) _ | refine Below.drew ?_))
    have hz2 : w2.heap.size = _ := congrArg (fun W : World => W.heap.size) hw2
    try simp at hz2
    have hn2 := hN2.size
    have hs2_0 : w1.heap.size < w2.heap.size := by omega
    have kb2_0_0 : w2.cell? ⟨w1.heap.size, 0, none⟩ = some (.int .i64 k) := by rw [hw2]; go_simp
    have kb2_0_1 : w2.cell? ⟨w1.heap.size, 1, none⟩ = some (.int .i64 a) := by rw [hw2]; go_simp
    have kb2_0_2 : w2.cell? ⟨w1.heap.size, 2, none⟩ = some (.int .i64 b) := by rw [hw2]; go_simp
    have HB2 := Lib.hid (HB1.out.trans (hN2.mono (by first | exact Nat.le_refl _ | omega)))
    have HR2_tab := Lib.hid (HR1_tab.out.below hN2 (by first | exact Nat.le_refl _ | omega))
    have HR2_err := Lib.hid (HR1_err.out.below hN2 (by first | exact Nat.le_refl _ | omega))
    clear hw2 hN2 hz2
    refine (HI.out _ HR2_tab.out HR2_err.out).mono ?_
    rintro e w3 ⟨rfl, hb3⟩
    obtain ⟨hc3, hf3⟩ := bcell hb3
    have hz3 := hb3.size
    try simp at hz3
    have hN3 : Below w2.heap.size w2 w3 := by
      refine Below.trans ?_ (hb3.mono (by first | omega | (simp <;> omega)))
      (repeat (first | exact Below.refl _ _ | refine Below.setCell ?_ (by first | omega | (simp <;> omega)) _ | refine Below.alloc ?_ (by first | omega | (simp <;> omega)) _ | refine Below.drew ?_))
    have hn3 := hN3.size
    have hs3_0 : w1.heap.size < w3.heap.size := by omega
    have kb3_0_0 : w3.cell? ⟨w1.heap.size, 0, none⟩ = some (.int .i64 k) := by go_simp
    have kb3_0_1 : w3.cell? ⟨w1.heap.size, 1, none⟩ = some (.int .i64 a) := by go_simp
    have kb3_0_2 : w3.cell? ⟨w1.heap.size, 2, none⟩ = some (.int .i64 b) := by go_simp
    have HB3 := Lib.hid (HB2.out.trans (hN3.mono (by first | exact Nat.le_refl _ | omega)))
    have HR3_tab := Lib.hid (HR2_tab.out.below hN3 (by first | exact Nat.le_refl _ | omega))
    have HR3_err := Lib.hid (HR2_err.out.below hN3 (by first | exact Nat.le_refl _ | omega))
    clear hc3 hf3 hb3 hN3 hz3
    go_wp2_with fail
    refine calls_namedD ?_
    intro w4 hw4
    have hN4 : Below w3.heap.size w3 w4 := by
      rw [hw4]
      (repeat (first | exact Below.refl _ _ | refine Below.setCell ?_ (by first | omega | (simp <;> omega)) _ | refine Below.alloc ?_ (by first | omega | (simp <;> omega)) _ | refine Below.drew ?_))
    have hz4 : w4.heap.size = _ := congrArg (fun W : World => W.heap.size) hw4
    try simp at hz4
    have hn4 := hN4.size
    have hs4_0 : w1.heap.size < w4.heap.size := by omega
    have hs4_1 : w3.heap.size < w4.heap.size := by omega
    have kb4_0_0 : w4.cell? ⟨w1.heap.size, 0, none⟩ = some (.int .i64 k) := by rw [hw4]; go_simp
    have kb4_0_1 : w4.cell? ⟨w1.heap.size, 1, none⟩ = some (.int .i64 a) := by rw [hw4]; go_simp
    have kb4_0_2 : w4.cell? ⟨w1.heap.size, 2, none⟩ = some (.int .i64 b) := by rw [hw4]; go_simp
    have kb4_1_0 : w4.cell? ⟨w3.heap.size, 0, none⟩ = some (.int .i64 k) := by rw [hw4]; go_simp
    have kb4_1_1 : w4.cell? ⟨w3.heap.size, 1, none⟩ = some (.int .i64 a) := by rw [hw4]; go_simp
    have kb4_1_2 : w4.cell? ⟨w3.heap.size, 2, none⟩ = some (.int .i64 b) := by rw [hw4]; go_simp
    have HB4 := Lib.hid (HB3.out.trans (hN4.mono (by first | exact Nat.le_refl _ | omega)))
    have HR4_tab := Lib.hid (HR3_tab.out.below hN4 (by first | exact Nat.le_refl _ | omega))
    have HR4_err := Lib.hid (HR3_err.out.below hN4 (by first | exact Nat.le_refl _ | omega))
    clear hw4 hN4 hz4
    refine (eqDeed_any k a b _).mono ?_
    rintro e w5 ⟨rfl, hb5⟩
    obtain ⟨hc5, hf5⟩ := bcell hb5
    have hz5 := hb5.size
    try simp at hz5
    have hN5 : Below w4.heap.size w4 w5 := by
      refine Below.trans ?_ (hb5.mono (by first | omega | (simp <;> omega)))
      (repeat (first | exact Below.refl _ _ | refine Below.setCell ?_ (by first | omega | (simp <;> omega)) _ | refine Below.alloc ?_ (by first | omega | (simp <;> omega)) _ | refine Below.drew ?_))
    have hn5 := hN5.size
    have hs5_0 : w1.heap.size < w5.heap.size := by omega
    have hs5_1 : w3.heap.size < w5.heap.size := by omega
    have kb5_0_0 : w5.cell? ⟨w1.heap.size, 0, none⟩ = some (.int .i64 k) := by go_simp
    have kb5_0_1 : w5.cell? ⟨w1.heap.size, 1, none⟩ = some (.int .i64 a) := by go_simp
    have kb5_0_2 : w5.cell? ⟨w1.heap.size, 2, none⟩ = some (.int .i64 b) := by go_simp
    have kb5_1_0 : w5.cell? ⟨w3.heap.size, 0, none⟩ = some (.int .i64 k) := by go_simp
    have kb5_1_1 : w5.cell? ⟨w3.heap.size, 1, none⟩ = some (.int .i64 a) := by go_simp
    have kb5_1_2 : w5.cell? ⟨w3.heap.size, 2, none⟩ = some (.int .i64 b) := by go_simp
    have HB5 := Lib.hid (HB4.out.trans (hN5.mono (by first | exact Nat.le_refl _ | omega)))
    have HR5_tab := Lib.hid (HR4_tab.out.below hN5 (by first | exact Nat.le_refl _ | omega))
    have HR5_err := Lib.hid (HR4_err.out.below hN5 (by first | exact Nat.le_refl _ | omega))
    clear hc5 hf5 hb5 hN5 hz5
    go_wp2
    go_ret
    exact ⟨rfl, by first | exact HB5.out | exact (HB5.out).alloc (HB5.out).size _⟩
set_option maxRecDepth 100000 in
set_option maxHeartbeats 2000000 in
theorem fnDeedText_walk (a : Option Addr) (len cap : Nat) (z : List Int) (w : World) (w0 : IsRow w a len cap z) (ht : PowTab w) (he : Errs w) :
    Calls Tryd.prog 3 #[.slice a len cap] w fun e w' => e = .returned (.bool true) ∧ Below w.heap.size w w' := by
  by_cases hbig : 1048576 < len
  · go_enter Tryd.func3, Tryd.ntmps3
    go_wp2
    go_ret
    exact ⟨rfl, Below.refl _ _⟩
  · have hsm : len ≤ 1048576 := by omega
    go_enter Tryd.func3, Tryd.ntmps3
    go_wp2_with fail
    refine (drawDeedText_any _ _ _ _ z w0).mono ?_
    rintro e w1 ⟨k, x, y, rfl, hh1⟩
    have hz1 := hh1.size
    obtain ⟨hc1, hf1⟩ := bcell hh1
    have hS := fun W => specText_any k x y W
    have hI := fun W hT => implText_any k x y W hT
    have hsz := deedT_len ⟨k, x, y⟩
    have hR := fun (h : deedT ⟨k, x, y⟩ ≠ []) W hT hE => implDeedRead_any (txt (deedT ⟨k, x, y⟩)) W (by rw [txt_size]; omega) hT hE
    simp only [txt_list] at hR
    have hem : (txt (deedT ⟨k, x, y⟩)).toList.isEmpty = (deedT ⟨k, x, y⟩).isEmpty := by rw [bl_toList]; rfl
    obtain ⟨t, htx⟩ : ∃ t, txt (deedT ⟨k, x, y⟩) = t := ⟨_, rfl⟩
    rw [htx] at hS hI hR hem
    have hsame := txt_same t
    have HS := Lib.hid hS
    have HI := Lib.hid hI
    have HRR := Lib.hid hR
    have HEM := Lib.hid hem
    clear hS hI hR hem htx hsz
    have HB1 := Lib.hid hh1
    have HR1_tab := Lib.hid (ht.below hh1 (Nat.le_refl _))
    have HR1_err := Lib.hid (he.below hh1 (Nat.le_refl _))
    clear hc1 hf1 hh1 ht he
    go_wp2_with fail
    refine calls_namedD ?_
    intro w2 hw2
    have hN2 : Below w1.heap.size w1 w2 := by
      rw [hw2]
      (repeat (first | exact Below.refl _ _ | refine Below.setCell ?_ (by first | omega | (simp <;> omega)) _ | refine Below.alloc ?_ (by first | omega | (simp <;> omega)) _ | refine Below.drew ?_))
    have hz2 : w2.heap.size = _ := congrArg (fun W : World => W.heap.size) hw2
    try simp at hz2
    have hn2 := hN2.size
    have hs2_0 : w1.heap.size < w2.heap.size := by omega
    have kb2_0_0 : w2.cell? ⟨w1.heap.size, 0, none⟩ = some (.int .i64 k) := by rw [hw2]; go_simp
    have kb2_0_1 : w2.cell? ⟨w1.heap.size, 1, none⟩ = some (.int .i64 x) := by rw [hw2]; go_simp
    have kb2_0_2 : w2.cell? ⟨w1.heap.size, 2, none⟩ = some (.int .i64 y) := by rw [hw2]; go_simp
    have HB2 := Lib.hid (HB1.out.trans (hN2.mono (by first | exact Nat.le_refl _ | omega)))
    have HR2_tab := Lib.hid (HR1_tab.out.below hN2 (by first | exact Nat.le_refl _ | omega))
    have HR2_err := Lib.hid (HR1_err.out.below hN2 (by first | exact Nat.le_refl _ | omega))
    clear hw2 hN2 hz2
    refine (HI.out _ HR2_tab.out).mono ?_
    rintro e w3 ⟨rfl, hb3⟩
    obtain ⟨hc3, hf3⟩ := bcell hb3
    have hz3 := hb3.size
    try simp at hz3
    have hN3 : Below w2.heap.size w2 w3 := by
      refine Below.trans ?_ (hb3.mono (by first | omega | (simp <;> omega)))
      (repeat (first | exact Below.refl _ _ | refine Below.setCell ?_ (by first | omega | (simp <;> omega)) _ | refine Below.alloc ?_ (by first | omega | (simp <;> omega)) _ | refine Below.drew ?_))
    have hn3 := hN3.size
    have hs3_0 : w1.heap.size < w3.heap.size := by omega
    have kb3_0_0 : w3.cell? ⟨w1.heap.size, 0, none⟩ = some (.int .i64 k) := by go_simp
    have kb3_0_1 : w3.cell? ⟨w1.heap.size, 1, none⟩ = some (.int .i64 x) := by go_simp
    have kb3_0_2 : w3.cell? ⟨w1.heap.size, 2, none⟩ = some (.int .i64 y) := by go_simp
    have HB3 := Lib.hid (HB2.out.trans (hN3.mono (by first | exact Nat.le_refl _ | omega)))
    have HR3_tab := Lib.hid (HR2_tab.out.below hN3 (by first | exact Nat.le_refl _ | omega))
    have HR3_err := Lib.hid (HR2_err.out.below hN3 (by first | exact Nat.le_refl _ | omega))
    clear hc3 hf3 hb3 hN3 hz3
    go_wp2_with fail
    refine (HS.out _).mono ?_
    rintro e w4 ⟨rfl, hb4⟩
    obtain ⟨hc4, hf4⟩ := bcell hb4
    have hz4 := hb4.size
    try simp at hz4
    have hN4 : Below w3.heap.size w3 w4 := by
      refine Below.trans ?_ (hb4.mono (by first | omega | (simp <;> omega)))
      (repeat (first | exact Below.refl _ _ | refine Below.setCell ?_ (by first | omega | (simp <;> omega)) _ | refine Below.alloc ?_ (by first | omega | (simp <;> omega)) _ | refine Below.drew ?_))
    have hn4 := hN4.size
    have hs4_0 : w1.heap.size < w4.heap.size := by omega
    have kb4_0_0 : w4.cell? ⟨w1.heap.size, 0, none⟩ = some (.int .i64 k) := by go_simp
    have kb4_0_1 : w4.cell? ⟨w1.heap.size, 1, none⟩ = some (.int .i64 x) := by go_simp
    have kb4_0_2 : w4.cell? ⟨w1.heap.size, 2, none⟩ = some (.int .i64 y) := by go_simp
    have HB4 := Lib.hid (HB3.out.trans (hN4.mono (by first | exact Nat.le_refl _ | omega)))
    have HR4_tab := Lib.hid (HR3_tab.out.below hN4 (by first | exact Nat.le_refl _ | omega))
    have HR4_err := Lib.hid (HR3_err.out.below hN4 (by first | exact Nat.le_refl _ | omega))
    clear hc4 hf4 hb4 hN4 hz4
    by_cases hd : deedT ⟨k, x, y⟩ = []
    · have hemp : t.toList.isEmpty = true := by rw [HEM.out, hd]; rfl
      clear hd
      go_wp2_with fail
      refine (alive_any _).mono ?_
      rintro e w5 ⟨rfl, hb5⟩
      obtain ⟨hc5, hf5⟩ := bcell hb5
      have hz5 := hb5.size
      try simp at hz5
      have hN5 : Below w4.heap.size w4 w5 := by
        refine Below.trans ?_ (hb5.mono (by first | omega | (simp <;> omega)))
        (repeat (first | exact Below.refl _ _ | refine Below.setCell ?_ (by first | omega | (simp <;> omega)) _ | refine Below.alloc ?_ (by first | omega | (simp <;> omega)) _ | refine Below.drew ?_))
      have hn5 := hN5.size
      have hs5_0 : w1.heap.size < w5.heap.size := by omega
      have kb5_0_0 : w5.cell? ⟨w1.heap.size, 0, none⟩ = some (.int .i64 k) := by go_simp
      have kb5_0_1 : w5.cell? ⟨w1.heap.size, 1, none⟩ = some (.int .i64 x) := by go_simp
      have kb5_0_2 : w5.cell? ⟨w1.heap.size, 2, none⟩ = some (.int .i64 y) := by go_simp
      have HB5 := Lib.hid (HB4.out.trans (hN5.mono (by first | exact Nat.le_refl _ | omega)))
      have HR5_tab := Lib.hid (HR4_tab.out.below hN5 (by first | exact Nat.le_refl _ | omega))
      have HR5_err := Lib.hid (HR4_err.out.below hN5 (by first | exact Nat.le_refl _ | omega))
      clear hc5 hf5 hb5 hN5 hz5
      go_wp2
      go_ret
      exact ⟨rfl, by first | exact HB5.out | exact (HB5.out).alloc (HB5.out).size _⟩
    · have hemp : t.toList.isEmpty = false := by
        rw [HEM.out]
        cases hc : deedT ⟨k, x, y⟩ with
        | nil => exact absurd hc hd
        | cons _ _ => rfl
      have hr := HRR.out hd
      rw [deedV_text hd] at hr
      have HR := Lib.hid hr
      clear hd hr HRR
      go_wp2_with fail
      refine (HR.out _ HR4_tab.out HR4_err.out).mono ?_
      rintro e w5 ⟨rfl, hb5⟩
      obtain ⟨hc5, hf5⟩ := bcell hb5
      have hz5 := hb5.size
      try simp at hz5
      have hN5 : Below w4.heap.size w4 w5 := by
        refine Below.trans ?_ (hb5.mono (by first | omega | (simp <;> omega)))
        (repeat (first | exact Below.refl _ _ | refine Below.setCell ?_ (by first | omega | (simp <;> omega)) _ | refine Below.alloc ?_ (by first | omega | (simp <;> omega)) _ | refine Below.drew ?_))
      have hn5 := hN5.size
      have hs5_0 : w1.heap.size < w5.heap.size := by omega
      have kb5_0_0 : w5.cell? ⟨w1.heap.size, 0, none⟩ = some (.int .i64 k) := by go_simp
      have kb5_0_1 : w5.cell? ⟨w1.heap.size, 1, none⟩ = some (.int .i64 x) := by go_simp
      have kb5_0_2 : w5.cell? ⟨w1.heap.size, 2, none⟩ = some (.int .i64 y) := by go_simp
      have HB5 := Lib.hid (HB4.out.trans (hN5.mono (by first | exact Nat.le_refl _ | omega)))
      have HR5_tab := Lib.hid (HR4_tab.out.below hN5 (by first | exact Nat.le_refl _ | omega))
      have HR5_err := Lib.hid (HR4_err.out.below hN5 (by first | exact Nat.le_refl _ | omega))
      clear hc5 hf5 hb5 hN5 hz5
      go_wp2
      go_ret
      exact ⟨rfl, by first | exact HB5.out | exact (HB5.out).alloc (HB5.out).size _⟩
set_option maxRecDepth 100000 in
set_option maxHeartbeats 2000000 in
theorem fnReadDeed_walk (a : Option Addr) (len cap : Nat) (z : List Int) (w : World) (w0 : IsRow w a len cap z) (ht : PowTab w) (he : Errs w) :
    Calls Tryd.prog 4 #[.slice a len cap] w fun e w' => e = .returned (.bool true) ∧ Below w.heap.size w w' := by
  by_cases hbig : 1048576 < len
  · go_enter Tryd.func4, Tryd.ntmps4
    go_wp2
    go_ret
    exact ⟨rfl, Below.refl _ _⟩
  · have hsm : len ≤ 1048576 := by omega
    go_enter Tryd.func4, Tryd.ntmps4
    go_wp2_with fail
    refine (drawReadDeed_any _ _ _ _ z w0).mono ?_
    rintro e w1 ⟨t, rfl, hts, hh1⟩
    have hz1 := hh1.size
    obtain ⟨hc1, hf1⟩ := bcell hh1
    have hS := fun W => specDeedRead_any t W (by omega)
    have hI := fun W hT hE => implDeedRead_any t W (by omega) hT hE
    have hM := fun W hT hE => implDeedRead_any (t ++ ⟨#[32]⟩) W (by rw [ByteArray.size_append]; show t.size + 1 ≤ _; omega) hT hE
    have hml : (t ++ ⟨#[32]⟩ : ByteArray).data.toList = t.data.toList ++ [32] := by rw [ByteArray.data_append, Array.toList_append]
    rw [hml, deedV_space] at hM
    dsimp only at hM
    have hcat : ¬ 9223372036854775807 < t.size + 1 := by omega
    obtain ⟨⟨k, x, y⟩, ok, hv⟩ : ∃ x ok, deedV t.data.toList = (x, ok) := ⟨_, _, rfl⟩
    rw [hv] at hS hI
    dsimp only at hS hI
    have HS := Lib.hid hS
    have HI := Lib.hid hI
    have HM := Lib.hid hM
    clear hS hI hM hml
    cases ok with
    | false =>
      have hz := deedV_no hv
      injection hz with h1 h2 h3
      subst h1 h2 h3
      clear hv
      have HB1 := Lib.hid hh1
      have HR1_tab := Lib.hid (ht.below hh1 (Nat.le_refl _))
      have HR1_err := Lib.hid (he.below hh1 (Nat.le_refl _))
      clear hc1 hf1 hh1 ht he
      go_wp2_with fail
      refine (HI.out _ HR1_tab.out HR1_err.out).mono ?_
      rintro e w2 ⟨rfl, hb2⟩
      obtain ⟨hc2, hf2⟩ := bcell hb2
      have hz2 := hb2.size
      try simp at hz2
      have hN2 : Below w1.heap.size w1 w2 := by
        refine Below.trans ?_ (hb2.mono (by first | omega | (simp <;> omega)))
        (repeat (first | exact Below.refl _ _ | refine Below.setCell ?_ (by first | omega | (simp <;> omega)) _ | refine Below.alloc ?_ (by first | omega | (simp <;> omega)) _ | refine Below.drew ?_))
      have hn2 := hN2.size
      have HB2 := Lib.hid (HB1.out.trans (hN2.mono (by first | exact Nat.le_refl _ | omega)))
      have HR2_tab := Lib.hid (HR1_tab.out.below hN2 (by first | exact Nat.le_refl _ | omega))
      have HR2_err := Lib.hid (HR1_err.out.below hN2 (by first | exact Nat.le_refl _ | omega))
      clear hc2 hf2 hb2 hN2 hz2
      go_wp2_with fail
      refine calls_namedD ?_
      intro w3 hw3
      have hN3 : Below w2.heap.size w2 w3 := by
        rw [hw3]
        (repeat (first | exact Below.refl _ _ | refine Below.setCell ?_ (by first | omega | (simp <;> omega)) _ | refine Below.alloc ?_ (by first | omega | (simp <;> omega)) _ | refine Below.drew ?_))
      have hz3 : w3.heap.size = _ := congrArg (fun W : World => W.heap.size) hw3
      try simp at hz3
      have hn3 := hN3.size
      have hs3_0 : w2.heap.size < w3.heap.size := by omega
      have kb3_0_0 : w3.cell? ⟨w2.heap.size, 0, none⟩ = some (.int .i64 0) := by rw [hw3]; go_simp
      have kb3_0_1 : w3.cell? ⟨w2.heap.size, 1, none⟩ = some (.int .i64 0) := by rw [hw3]; go_simp
      have kb3_0_2 : w3.cell? ⟨w2.heap.size, 2, none⟩ = some (.int .i64 0) := by rw [hw3]; go_simp
      have HB3 := Lib.hid (HB2.out.trans (hN3.mono (by first | exact Nat.le_refl _ | omega)))
      have HR3_tab := Lib.hid (HR2_tab.out.below hN3 (by first | exact Nat.le_refl _ | omega))
      have HR3_err := Lib.hid (HR2_err.out.below hN3 (by first | exact Nat.le_refl _ | omega))
      clear hw3 hN3 hz3
      refine (HS.out _).mono ?_
      rintro e w4 ⟨rfl, hb4⟩
      obtain ⟨hc4, hf4⟩ := bcell hb4
      have hz4 := hb4.size
      try simp at hz4
      have hN4 : Below w3.heap.size w3 w4 := by
        refine Below.trans ?_ (hb4.mono (by first | omega | (simp <;> omega)))
        (repeat (first | exact Below.refl _ _ | refine Below.setCell ?_ (by first | omega | (simp <;> omega)) _ | refine Below.alloc ?_ (by first | omega | (simp <;> omega)) _ | refine Below.drew ?_))
      have hn4 := hN4.size
      have hs4_0 : w2.heap.size < w4.heap.size := by omega
      have kb4_0_0 : w4.cell? ⟨w2.heap.size, 0, none⟩ = some (.int .i64 0) := by go_simp
      have kb4_0_1 : w4.cell? ⟨w2.heap.size, 1, none⟩ = some (.int .i64 0) := by go_simp
      have kb4_0_2 : w4.cell? ⟨w2.heap.size, 2, none⟩ = some (.int .i64 0) := by go_simp
      have HB4 := Lib.hid (HB3.out.trans (hN4.mono (by first | exact Nat.le_refl _ | omega)))
      have HR4_tab := Lib.hid (HR3_tab.out.below hN4 (by first | exact Nat.le_refl _ | omega))
      have HR4_err := Lib.hid (HR3_err.out.below hN4 (by first | exact Nat.le_refl _ | omega))
      clear hc4 hf4 hb4 hN4 hz4
      go_wp2_with fail
      refine (alive_any _).mono ?_
      rintro e w5 ⟨rfl, hb5⟩
      obtain ⟨hc5, hf5⟩ := bcell hb5
      have hz5 := hb5.size
      try simp at hz5
      have hN5 : Below w4.heap.size w4 w5 := by
        refine Below.trans ?_ (hb5.mono (by first | omega | (simp <;> omega)))
        (repeat (first | exact Below.refl _ _ | refine Below.setCell ?_ (by first | omega | (simp <;> omega)) _ | refine Below.alloc ?_ (by first | omega | (simp <;> omega)) _ | refine Below.drew ?_))
      have hn5 := hN5.size
      have hs5_0 : w2.heap.size < w5.heap.size := by omega
      have hs5_1 : w4.heap.size < w5.heap.size := by omega
      have kb5_0_0 : w5.cell? ⟨w2.heap.size, 0, none⟩ = some (.int .i64 0) := by go_simp
      have kb5_0_1 : w5.cell? ⟨w2.heap.size, 1, none⟩ = some (.int .i64 0) := by go_simp
      have kb5_0_2 : w5.cell? ⟨w2.heap.size, 2, none⟩ = some (.int .i64 0) := by go_simp
      have kb5_1_0 : w5.cell? ⟨w4.heap.size, 0, none⟩ = some (.int .i64 0) := by go_simp
      have kb5_1_1 : w5.cell? ⟨w4.heap.size, 1, none⟩ = some (.int .i64 0) := by go_simp
      have kb5_1_2 : w5.cell? ⟨w4.heap.size, 2, none⟩ = some (.int .i64 0) := by go_simp
      have HB5 := Lib.hid (HB4.out.trans (hN5.mono (by first | exact Nat.le_refl _ | omega)))
      have HR5_tab := Lib.hid (HR4_tab.out.below hN5 (by first | exact Nat.le_refl _ | omega))
      have HR5_err := Lib.hid (HR4_err.out.below hN5 (by first | exact Nat.le_refl _ | omega))
      clear hc5 hf5 hb5 hN5 hz5
      go_wp2
      go_ret
      exact ⟨rfl, by first | exact HB5.out | exact (HB5.out).alloc (HB5.out).size _⟩
    | true =>
      obtain ⟨h1, _⟩ := deedV_yes hv
      have hD := fun W hT => implText_any k x y W hT
      rw [h1, txt_of] at hD
      have HD := Lib.hid hD
      have hsame := txt_same t
      clear hD h1 hv
      have HB1 := Lib.hid hh1
      have HR1_tab := Lib.hid (ht.below hh1 (Nat.le_refl _))
      have HR1_err := Lib.hid (he.below hh1 (Nat.le_refl _))
      clear hc1 hf1 hh1 ht he
      go_wp2_with fail
      refine (HI.out _ HR1_tab.out HR1_err.out).mono ?_
      rintro e w2 ⟨rfl, hb2⟩
      obtain ⟨hc2, hf2⟩ := bcell hb2
      have hz2 := hb2.size
      try simp at hz2
      have hN2 : Below w1.heap.size w1 w2 := by
        refine Below.trans ?_ (hb2.mono (by first | omega | (simp <;> omega)))
        (repeat (first | exact Below.refl _ _ | refine Below.setCell ?_ (by first | omega | (simp <;> omega)) _ | refine Below.alloc ?_ (by first | omega | (simp <;> omega)) _ | refine Below.drew ?_))
      have hn2 := hN2.size
      have HB2 := Lib.hid (HB1.out.trans (hN2.mono (by first | exact Nat.le_refl _ | omega)))
      have HR2_tab := Lib.hid (HR1_tab.out.below hN2 (by first | exact Nat.le_refl _ | omega))
      have HR2_err := Lib.hid (HR1_err.out.below hN2 (by first | exact Nat.le_refl _ | omega))
      clear hc2 hf2 hb2 hN2 hz2
      go_wp2_with fail
      refine calls_namedD ?_
      intro w3 hw3
      have hN3 : Below w2.heap.size w2 w3 := by
        rw [hw3]
        (repeat (first | exact Below.refl _ _ | refine Below.setCell ?_ (by first | omega | (simp <;> omega)) _ | refine Below.alloc ?_ (by first | omega | (simp <;> omega)) _ | refine Below.drew ?_))
      have hz3 : w3.heap.size = _ := congrArg (fun W : World => W.heap.size) hw3
      try simp at hz3
      have hn3 := hN3.size
      have hs3_0 : w2.heap.size < w3.heap.size := by omega
      have kb3_0_0 : w3.cell? ⟨w2.heap.size, 0, none⟩ = some (.int .i64 k) := by rw [hw3]; go_simp
      have kb3_0_1 : w3.cell? ⟨w2.heap.size, 1, none⟩ = some (.int .i64 x) := by rw [hw3]; go_simp
      have kb3_0_2 : w3.cell? ⟨w2.heap.size, 2, none⟩ = some (.int .i64 y) := by rw [hw3]; go_simp
      have HB3 := Lib.hid (HB2.out.trans (hN3.mono (by first | exact Nat.le_refl _ | omega)))
      have HR3_tab := Lib.hid (HR2_tab.out.below hN3 (by first | exact Nat.le_refl _ | omega))
      have HR3_err := Lib.hid (HR2_err.out.below hN3 (by first | exact Nat.le_refl _ | omega))
      clear hw3 hN3 hz3
      refine (HS.out _).mono ?_
      rintro e w4 ⟨rfl, hb4⟩
      obtain ⟨hc4, hf4⟩ := bcell hb4
      have hz4 := hb4.size
      try simp at hz4
      have hN4 : Below w3.heap.size w3 w4 := by
        refine Below.trans ?_ (hb4.mono (by first | omega | (simp <;> omega)))
        (repeat (first | exact Below.refl _ _ | refine Below.setCell ?_ (by first | omega | (simp <;> omega)) _ | refine Below.alloc ?_ (by first | omega | (simp <;> omega)) _ | refine Below.drew ?_))
      have hn4 := hN4.size
      have hs4_0 : w2.heap.size < w4.heap.size := by omega
      have kb4_0_0 : w4.cell? ⟨w2.heap.size, 0, none⟩ = some (.int .i64 k) := by go_simp
      have kb4_0_1 : w4.cell? ⟨w2.heap.size, 1, none⟩ = some (.int .i64 x) := by go_simp
      have kb4_0_2 : w4.cell? ⟨w2.heap.size, 2, none⟩ = some (.int .i64 y) := by go_simp
      have HB4 := Lib.hid (HB3.out.trans (hN4.mono (by first | exact Nat.le_refl _ | omega)))
      have HR4_tab := Lib.hid (HR3_tab.out.below hN4 (by first | exact Nat.le_refl _ | omega))
      have HR4_err := Lib.hid (HR3_err.out.below hN4 (by first | exact Nat.le_refl _ | omega))
      clear hc4 hf4 hb4 hN4 hz4
      go_wp2_with fail
      refine calls_namedD ?_
      intro w5 hw5
      have hN5 : Below w4.heap.size w4 w5 := by
        rw [hw5]
        (repeat (first | exact Below.refl _ _ | refine Below.setCell ?_ (by first | omega | (simp <;> omega)) _ | refine Below.alloc ?_ (by first | omega | (simp <;> omega)) _ | refine Below.drew ?_))
      have hz5 : w5.heap.size = _ := congrArg (fun W : World => W.heap.size) hw5
      try simp at hz5
      have hn5 := hN5.size
      have hs5_0 : w2.heap.size < w5.heap.size := by omega
      have hs5_1 : w4.heap.size < w5.heap.size := by omega
      have kb5_0_0 : w5.cell? ⟨w2.heap.size, 0, none⟩ = some (.int .i64 k) := by rw [hw5]; go_simp
      have kb5_0_1 : w5.cell? ⟨w2.heap.size, 1, none⟩ = some (.int .i64 x) := by rw [hw5]; go_simp
      have kb5_0_2 : w5.cell? ⟨w2.heap.size, 2, none⟩ = some (.int .i64 y) := by rw [hw5]; go_simp
      have kb5_1_0 : w5.cell? ⟨w4.heap.size, 0, none⟩ = some (.int .i64 k) := by rw [hw5]; go_simp
      have kb5_1_1 : w5.cell? ⟨w4.heap.size, 1, none⟩ = some (.int .i64 x) := by rw [hw5]; go_simp
      have kb5_1_2 : w5.cell? ⟨w4.heap.size, 2, none⟩ = some (.int .i64 y) := by rw [hw5]; go_simp
      have HB5 := Lib.hid (HB4.out.trans (hN5.mono (by first | exact Nat.le_refl _ | omega)))
      have HR5_tab := Lib.hid (HR4_tab.out.below hN5 (by first | exact Nat.le_refl _ | omega))
      have HR5_err := Lib.hid (HR4_err.out.below hN5 (by first | exact Nat.le_refl _ | omega))
      clear hw5 hN5 hz5
      refine (HM.out _ HR5_tab.out HR5_err.out).mono ?_
      rintro e w6 ⟨rfl, hb6⟩
      obtain ⟨hc6, hf6⟩ := bcell hb6
      have hz6 := hb6.size
      try simp at hz6
      have hN6 : Below w5.heap.size w5 w6 := by
        refine Below.trans ?_ (hb6.mono (by first | omega | (simp <;> omega)))
        (repeat (first | exact Below.refl _ _ | refine Below.setCell ?_ (by first | omega | (simp <;> omega)) _ | refine Below.alloc ?_ (by first | omega | (simp <;> omega)) _ | refine Below.drew ?_))
      have hn6 := hN6.size
      have hs6_0 : w2.heap.size < w6.heap.size := by omega
      have hs6_1 : w4.heap.size < w6.heap.size := by omega
      have kb6_0_0 : w6.cell? ⟨w2.heap.size, 0, none⟩ = some (.int .i64 k) := by go_simp
      have kb6_0_1 : w6.cell? ⟨w2.heap.size, 1, none⟩ = some (.int .i64 x) := by go_simp
      have kb6_0_2 : w6.cell? ⟨w2.heap.size, 2, none⟩ = some (.int .i64 y) := by go_simp
      have kb6_1_0 : w6.cell? ⟨w4.heap.size, 0, none⟩ = some (.int .i64 k) := by go_simp
      have kb6_1_1 : w6.cell? ⟨w4.heap.size, 1, none⟩ = some (.int .i64 x) := by go_simp
      have kb6_1_2 : w6.cell? ⟨w4.heap.size, 2, none⟩ = some (.int .i64 y) := by go_simp
      have HB6 := Lib.hid (HB5.out.trans (hN6.mono (by first | exact Nat.le_refl _ | omega)))
      have HR6_tab := Lib.hid (HR5_tab.out.below hN6 (by first | exact Nat.le_refl _ | omega))
      have HR6_err := Lib.hid (HR5_err.out.below hN6 (by first | exact Nat.le_refl _ | omega))
      clear hc6 hf6 hb6 hN6 hz6
      go_wp2_with fail
      refine calls_namedD ?_
      intro w7 hw7
      have hN7 : Below w6.heap.size w6 w7 := by
        rw [hw7]
        (repeat (first | exact Below.refl _ _ | refine Below.setCell ?_ (by first | omega | (simp <;> omega)) _ | refine Below.alloc ?_ (by first | omega | (simp <;> omega)) _ | refine Below.drew ?_))
      have hz7 : w7.heap.size = _ := congrArg (fun W : World => W.heap.size) hw7
      try simp at hz7
      have hn7 := hN7.size
      have hs7_0 : w2.heap.size < w7.heap.size := by omega
      have hs7_1 : w4.heap.size < w7.heap.size := by omega
      have hs7_2 : w6.heap.size < w7.heap.size := by omega
      have kb7_0_0 : w7.cell? ⟨w2.heap.size, 0, none⟩ = some (.int .i64 k) := by rw [hw7]; go_simp
      have kb7_0_1 : w7.cell? ⟨w2.heap.size, 1, none⟩ = some (.int .i64 x) := by rw [hw7]; go_simp
      have kb7_0_2 : w7.cell? ⟨w2.heap.size, 2, none⟩ = some (.int .i64 y) := by rw [hw7]; go_simp
      have kb7_1_0 : w7.cell? ⟨w4.heap.size, 0, none⟩ = some (.int .i64 k) := by rw [hw7]; go_simp
      have kb7_1_1 : w7.cell? ⟨w4.heap.size, 1, none⟩ = some (.int .i64 x) := by rw [hw7]; go_simp
      have kb7_1_2 : w7.cell? ⟨w4.heap.size, 2, none⟩ = some (.int .i64 y) := by rw [hw7]; go_simp
      have kb7_2_0 : w7.cell? ⟨w6.heap.size, 0, none⟩ = some (.int .i64 0) := by rw [hw7]; go_simp
      have kb7_2_1 : w7.cell? ⟨w6.heap.size, 1, none⟩ = some (.int .i64 0) := by rw [hw7]; go_simp
      have kb7_2_2 : w7.cell? ⟨w6.heap.size, 2, none⟩ = some (.int .i64 0) := by rw [hw7]; go_simp
      have HB7 := Lib.hid (HB6.out.trans (hN7.mono (by first | exact Nat.le_refl _ | omega)))
      have HR7_tab := Lib.hid (HR6_tab.out.below hN7 (by first | exact Nat.le_refl _ | omega))
      have HR7_err := Lib.hid (HR6_err.out.below hN7 (by first | exact Nat.le_refl _ | omega))
      clear hw7 hN7 hz7
      refine (HD.out _ HR7_tab.out).mono ?_
      rintro e w8 ⟨rfl, hb8⟩
      obtain ⟨hc8, hf8⟩ := bcell hb8
      have hz8 := hb8.size
      try simp at hz8
      have hN8 : Below w7.heap.size w7 w8 := by
        refine Below.trans ?_ (hb8.mono (by first | omega | (simp <;> omega)))
        (repeat (first | exact Below.refl _ _ | refine Below.setCell ?_ (by first | omega | (simp <;> omega)) _ | refine Below.alloc ?_ (by first | omega | (simp <;> omega)) _ | refine Below.drew ?_))
      have hn8 := hN8.size
      have hs8_0 : w2.heap.size < w8.heap.size := by omega
      have hs8_1 : w4.heap.size < w8.heap.size := by omega
      have hs8_2 : w6.heap.size < w8.heap.size := by omega
      have kb8_0_0 : w8.cell? ⟨w2.heap.size, 0, none⟩ = some (.int .i64 k) := by go_simp
      have kb8_0_1 : w8.cell? ⟨w2.heap.size, 1, none⟩ = some (.int .i64 x) := by go_simp
      have kb8_0_2 : w8.cell? ⟨w2.heap.size, 2, none⟩ = some (.int .i64 y) := by go_simp
      have kb8_1_0 : w8.cell? ⟨w4.heap.size, 0, none⟩ = some (.int .i64 k) := by go_simp
      have kb8_1_1 : w8.cell? ⟨w4.heap.size, 1, none⟩ = some (.int .i64 x) := by go_simp
      have kb8_1_2 : w8.cell? ⟨w4.heap.size, 2, none⟩ = some (.int .i64 y) := by go_simp
      have kb8_2_0 : w8.cell? ⟨w6.heap.size, 0, none⟩ = some (.int .i64 0) := by go_simp
      have kb8_2_1 : w8.cell? ⟨w6.heap.size, 1, none⟩ = some (.int .i64 0) := by go_simp
      have kb8_2_2 : w8.cell? ⟨w6.heap.size, 2, none⟩ = some (.int .i64 0) := by go_simp
      have HB8 := Lib.hid (HB7.out.trans (hN8.mono (by first | exact Nat.le_refl _ | omega)))
      have HR8_tab := Lib.hid (HR7_tab.out.below hN8 (by first | exact Nat.le_refl _ | omega))
      have HR8_err := Lib.hid (HR7_err.out.below hN8 (by first | exact Nat.le_refl _ | omega))
      clear hc8 hf8 hb8 hN8 hz8
      go_wp2
      go_ret
      exact ⟨rfl, by first | exact HB8.out | exact (HB8.out).alloc (HB8.out).size _⟩
end Go.Proofs.YtigcomhhgfgmgaaDoor
