/- Contracts that the statement's proof stands on. -/
import Derived.Test.YtigcomhhgfgmgaaAll1
import Derived.Test.YtigcomhhgfgmgaaHvDeskExactC
import Derived.Test.YtigcomhhgfgmgaaHvDeskRunS
import Derived.Deep.RegionWith
import Derived.Deep.Cut
import Derived.Deep.RegionHeld3
import Derived.Deep.DeepCutAuto

namespace Go.Proofs.Ytigcomhhgfgmgaa
open Go.RowKit
theorem runR_len (d : DeskN) (xs : List DeedN) : (runR d xs).1.past.length ≤ 8 := by
  by_cases h : deskN d = true ∧ xs.length ≤ 40
  · rw [runR_yes h.1 h.2]; exact (deskN_of (runN_desk xs h.1)).2.1
  · rw [runR_no h]; simp
set_option maxRecDepth 100000 in
set_option maxHeartbeats 8000000 in
theorem fnExactDeskRun_walk (p q : Int) (u : Value) (L : List (Int × Int)) (v : Value) (X : List DeedN) (w : World) (h : SeesPairs w u L) (hl : L.length ≤ maxLen) (hx : SeesDeeds w v X) (hlx : X.length ≤ maxLen) :
    Calls Try.prog 10 #[.agg #[.int .i64 p, .int .i64 q, u], v] w fun e w' => e = .returned (.bool true) ∧ Below w.heap.size w w' := by
  obtain ⟨a, cap, rfl, _⟩ := id h
  obtain ⟨b, cb, rfl, _⟩ := id hx
  rcases Nat.lt_or_ge 1048576 L.length with hbig | hsm
  · go_enter Try.func10, Try.ntmps10
    go_wp2_with fail
    refine (szDesk_big p q a L.length cap 1048576 (by omega) hbig hl _).mono ?_
    rintro e w1 ⟨rfl, hb1⟩
    go_wp2
    go_ret
    exact ⟨rfl, by (repeat (first | exact Below.refl _ _ | refine Below.setCell ?_ (by first | omega | (simp <;> omega)) _ | refine Below.alloc ?_ (by first | omega | (simp <;> omega)) _ | refine Below.drew ?_ | refine Below.trans ?_ (Below.mono (by assumption) (by first | omega | (simp <;> omega))) | refine Below.grown ?_ (by assumption) (by first | omega | (simp <;> omega)) (fun k e => by cases e; first | omega | (simp <;> omega))))⟩
  have h3 : ¬ (((1048576 - L.length : Nat) : Int) < 0) := by omega
  rcases Nat.lt_or_ge (1048576 - L.length) X.length with hxb | hxm
  · go_enter Try.func10, Try.ntmps10
    go_wp2_with fail
    refine (szDesk_fit p q a L.length cap 1048576 (by omega) hsm _).mono ?_
    rintro e w1 ⟨rfl, hb1⟩
    have hz1 := hb1.size
    simp at hz1
    go_wp2_with fail
    refine (szDeedS_big b X.length cb (1048576 - L.length) (by omega) hxb hlx _).mono ?_
    rintro e w2 ⟨rfl, hb2⟩
    go_wp2
    go_ret
    exact ⟨rfl, by (repeat (first | exact Below.refl _ _ | refine Below.setCell ?_ (by first | omega | (simp <;> omega)) _ | refine Below.alloc ?_ (by first | omega | (simp <;> omega)) _ | refine Below.drew ?_ | refine Below.trans ?_ (Below.mono (by assumption) (by first | omega | (simp <;> omega))) | refine Below.grown ?_ (by assumption) (by first | omega | (simp <;> omega)) (fun k e => by cases e; first | omega | (simp <;> omega))))⟩
  · have hn : L.length ≤ 1048600 := by omega
    have hm : X.length ≤ 1048600 := by omega
    have h3b : ¬ (((1048576 - L.length - X.length : Nat) : Int) < 0) := by omega
    have h4 : ¬ (1 + 2 * (L.length : Int) + 3 * (X.length : Int) < 0) := by omega
    have hS := fun (W : World) (B C B' C' : Nat) (a : Option Addr) (c : Nat) (u : Value) (hI : IsPairs B C W (.slice a L.length c) L) (hK : IsDeeds B' C' W u X) => specRun_any B C B' C' p q L X _ u W hI hn hK hm
    have hI := fun (W : World) (B C B' C' : Nat) (a : Option Addr) (c : Nat) (u : Value) (hI : IsPairs B C W (.slice a L.length c) L) (hK : IsDeeds B' C' W u X) => implRun_any B C B' C' p q L X _ u W hI hn hK hm
    unfold RanS at hS hI
    obtain ⟨rp, rq, R, ok, hres⟩ : ∃ rp rq R ok, runR ⟨(p, q), L⟩ X = (⟨(rp, rq), R⟩, ok) := ⟨_, _, _, _, rfl⟩
    have hR8 : R.length ≤ 8 := by have := runR_len ⟨(p, q), L⟩ X; rwa [hres] at this
    rw [hres] at hS hI
    dsimp only at hS hI
    have hRn : R.length ≤ 1048600 := by omega
    have h5 : ¬ (1 + 2 * (R.length : Int) < 0) := by omega
    have H := Lib.hid h
    have HX := Lib.hid hx
    have HS := Lib.hid hS
    have HI := Lib.hid hI
    clear h hx hS hI hres
    go_enter Try.func10, Try.ntmps10
    go_wp2_with fail
    refine (szDesk_fit p q a L.length cap 1048576 (by omega) hsm _).mono ?_
    rintro e w1 ⟨rfl, hb1⟩
    obtain ⟨hc1, hf1⟩ := bcell hb1
    have hz1 := hb1.size
    try simp at hz1
    have hN1 : Below w.heap.size w w1 := by
      refine Below.trans ?_ (hb1.mono (by first | omega | (simp <;> omega)))
      (repeat (first | exact Below.refl _ _ | refine Below.setCell ?_ (by first | omega | (simp <;> omega)) _ | refine Below.alloc ?_ (by first | omega | (simp <;> omega)) _ | refine Below.drew ?_))
    have hn1 := hN1.size
    have hs1_0 : w.heap.size < w1.heap.size := by omega
    have kb1_0_0 : w1.cell? ⟨w.heap.size, 0, none⟩ = some (.int .i64 p) := by go_simp
    have kb1_0_1 : w1.cell? ⟨w.heap.size, 1, none⟩ = some (.int .i64 q) := by go_simp
    have kb1_0_2 : w1.cell? ⟨w.heap.size, 2, none⟩ = some (.slice a L.length cap) := by go_simp
    have HB1 := Lib.hid ((Below.refl w.heap.size w).trans (hN1.mono (by first | exact Nat.le_refl _ | omega)))
    clear hc1 hf1 hb1 hN1 hz1
    go_wp2_with fail
    refine (szDeedS_fit b X.length cb (1048576 - L.length) (by omega) hxm _).mono ?_
    rintro e w2 ⟨rfl, hb2⟩
    obtain ⟨hc2, hf2⟩ := bcell hb2
    have hz2 := hb2.size
    try simp at hz2
    have hN2 : Below w1.heap.size w1 w2 := by
      refine Below.trans ?_ (hb2.mono (by first | omega | (simp <;> omega)))
      (repeat (first | exact Below.refl _ _ | refine Below.setCell ?_ (by first | omega | (simp <;> omega)) _ | refine Below.alloc ?_ (by first | omega | (simp <;> omega)) _ | refine Below.drew ?_))
    have hn2 := hN2.size
    have hs2_0 : w.heap.size < w2.heap.size := by omega
    have kb2_0_0 : w2.cell? ⟨w.heap.size, 0, none⟩ = some (.int .i64 p) := by go_simp
    have kb2_0_1 : w2.cell? ⟨w.heap.size, 1, none⟩ = some (.int .i64 q) := by go_simp
    have kb2_0_2 : w2.cell? ⟨w.heap.size, 2, none⟩ = some (.slice a L.length cap) := by go_simp
    have HB2 := Lib.hid (HB1.out.trans (hN2.mono (by first | exact Nat.le_refl _ | omega)))
    clear hc2 hf2 hb2 hN2 hz2
    go_wp2_with fail
    refine (toDesk_any p q L _ _ ((H.out.below HB2.out).below (show Below w2.heap.size w2 _ by (repeat (first | exact Below.refl _ _ | refine Below.setCell ?_ (by first | omega | (simp <;> omega)) _ | refine Below.alloc ?_ (by first | omega | (simp <;> omega)) _ | refine Below.drew ?_ | refine Below.trans ?_ (Below.mono (by assumption) (by first | omega | (simp <;> omega))))))) hn).mono ?_
    rintro e w3 ⟨a3, c3, rfl, hI3, hb3⟩
    obtain ⟨hc3, hf3⟩ := bcell hb3
    have hz3 := hb3.size
    try simp at hz3
    have hN3 : Below w2.heap.size w2 w3 := by
      refine Below.trans ?_ (hb3.mono (by first | omega | (simp <;> omega)))
      (repeat (first | exact Below.refl _ _ | refine Below.setCell ?_ (by first | omega | (simp <;> omega)) _ | refine Below.alloc ?_ (by first | omega | (simp <;> omega)) _ | refine Below.drew ?_))
    have hn3 := hN3.size
    have hs3_0 : w.heap.size < w3.heap.size := by omega
    have kb3_0_0 : w3.cell? ⟨w.heap.size, 0, none⟩ = some (.int .i64 p) := by go_simp
    have kb3_0_1 : w3.cell? ⟨w.heap.size, 1, none⟩ = some (.int .i64 q) := by go_simp
    have kb3_0_2 : w3.cell? ⟨w.heap.size, 2, none⟩ = some (.slice a L.length cap) := by go_simp
    have HB3 := Lib.hid (HB2.out.trans (hN3.mono (by first | exact Nat.le_refl _ | omega)))
    try dsimp only at hI3
    try dsimp only
    clear hc3 hf3 hb3 hN3 hz3
    try simp only [World.size_alloc] at hI3
    have HR3_3 := Lib.hid (hI3)
    clear hI3
    go_wp2_with fail
    refine (toDeedS_any X _ _ ((HX.out.below HB3.out).below (show Below w3.heap.size w3 _ by (repeat (first | exact Below.refl _ _ | refine Below.setCell ?_ (by first | omega | (simp <;> omega)) _ | refine Below.alloc ?_ (by first | omega | (simp <;> omega)) _ | refine Below.drew ?_ | refine Below.trans ?_ (Below.mono (by assumption) (by first | omega | (simp <;> omega))))))) hm).mono ?_
    rintro e w4 ⟨ud4, rfl, hId4, hb4⟩
    obtain ⟨hc4, hf4⟩ := bcell hb4
    have hz4 := hb4.size
    try simp at hz4
    have hN4 : Below w3.heap.size w3 w4 := by
      refine Below.trans ?_ (hb4.mono (by first | omega | (simp <;> omega)))
      (repeat (first | exact Below.refl _ _ | refine Below.setCell ?_ (by first | omega | (simp <;> omega)) _ | refine Below.alloc ?_ (by first | omega | (simp <;> omega)) _ | refine Below.drew ?_))
    have hn4 := hN4.size
    have hs4_0 : w.heap.size < w4.heap.size := by omega
    have kb4_0_0 : w4.cell? ⟨w.heap.size, 0, none⟩ = some (.int .i64 p) := by go_simp
    have kb4_0_1 : w4.cell? ⟨w.heap.size, 1, none⟩ = some (.int .i64 q) := by go_simp
    have kb4_0_2 : w4.cell? ⟨w.heap.size, 2, none⟩ = some (.slice a L.length cap) := by go_simp
    have HB4 := Lib.hid (HB3.out.trans (hN4.mono (by first | exact Nat.le_refl _ | omega)))
    have HR4_3 := Lib.hid (HR3_3.out.below hN4 (by first | exact Nat.le_refl _ | omega))
    clear hc4 hf4 hb4 hN4 hz4
    try simp only [World.size_alloc] at hId4
    have HR4_d4 := Lib.hid (hId4)
    clear hId4
    go_wp2_with fail
    refine (HS.out _ _ _ _ _ _ _ _ (HR4_3.out.below (show Below w4.heap.size w4 _ by (repeat (first | exact Below.refl _ _ | refine Below.setCell ?_ (by first | omega | (simp <;> omega)) _ | refine Below.alloc ?_ (by first | omega | (simp <;> omega)) _ | refine Below.drew ?_ | refine Below.trans ?_ (Below.mono (by assumption) (by first | omega | (simp <;> omega)))))) (by first | exact Nat.le_refl _ | omega)) (HR4_d4.out.below (show Below w4.heap.size w4 _ by (repeat (first | exact Below.refl _ _ | refine Below.setCell ?_ (by first | omega | (simp <;> omega)) _ | refine Below.alloc ?_ (by first | omega | (simp <;> omega)) _ | refine Below.drew ?_ | refine Below.trans ?_ (Below.mono (by assumption) (by first | omega | (simp <;> omega)))))) (by first | exact Nat.le_refl _ | omega))).mono ?_
    rintro e w5 ⟨a6, c6, rfl, hI6, hb5⟩
    obtain ⟨hc5, hf5⟩ := bcell hb5
    have hz5 := hb5.size
    try simp at hz5
    have hN5 : Below w4.heap.size w4 w5 := by
      refine Below.trans ?_ (hb5.mono (by first | omega | (simp <;> omega)))
      (repeat (first | exact Below.refl _ _ | refine Below.setCell ?_ (by first | omega | (simp <;> omega)) _ | refine Below.alloc ?_ (by first | omega | (simp <;> omega)) _ | refine Below.drew ?_))
    have hn5 := hN5.size
    have hs5_0 : w.heap.size < w5.heap.size := by omega
    have kb5_0_0 : w5.cell? ⟨w.heap.size, 0, none⟩ = some (.int .i64 p) := by go_simp
    have kb5_0_1 : w5.cell? ⟨w.heap.size, 1, none⟩ = some (.int .i64 q) := by go_simp
    have kb5_0_2 : w5.cell? ⟨w.heap.size, 2, none⟩ = some (.slice a L.length cap) := by go_simp
    have HB5 := Lib.hid (HB4.out.trans (hN5.mono (by first | exact Nat.le_refl _ | omega)))
    have HR5_3 := Lib.hid (HR4_3.out.below hN5 (by first | exact Nat.le_refl _ | omega))
    have HR5_d4 := Lib.hid (HR4_d4.out.below hN5 (by first | exact Nat.le_refl _ | omega))
    clear hc5 hf5 hb5 hN5 hz5
    try simp only [World.size_alloc] at hI6
    have HR5_6 := Lib.hid (hI6)
    clear hI6
    go_wp2_with fail
    refine (toDesk_any p q L _ _ ((H.out.below HB5.out).below (show Below w5.heap.size w5 _ by (repeat (first | exact Below.refl _ _ | refine Below.setCell ?_ (by first | omega | (simp <;> omega)) _ | refine Below.alloc ?_ (by first | omega | (simp <;> omega)) _ | refine Below.drew ?_ | refine Below.trans ?_ (Below.mono (by assumption) (by first | omega | (simp <;> omega))))))) hn).mono ?_
    rintro e w6 ⟨a8, c8, rfl, hI8, hb6⟩
    obtain ⟨hc6, hf6⟩ := bcell hb6
    have hz6 := hb6.size
    try simp at hz6
    have hN6 : Below w5.heap.size w5 w6 := by
      refine Below.trans ?_ (hb6.mono (by first | omega | (simp <;> omega)))
      (repeat (first | exact Below.refl _ _ | refine Below.setCell ?_ (by first | omega | (simp <;> omega)) _ | refine Below.alloc ?_ (by first | omega | (simp <;> omega)) _ | refine Below.drew ?_))
    have hn6 := hN6.size
    have hs6_0 : w.heap.size < w6.heap.size := by omega
    have hs6_1 : w5.heap.size < w6.heap.size := by omega
    have kb6_0_0 : w6.cell? ⟨w.heap.size, 0, none⟩ = some (.int .i64 p) := by go_simp
    have kb6_0_1 : w6.cell? ⟨w.heap.size, 1, none⟩ = some (.int .i64 q) := by go_simp
    have kb6_0_2 : w6.cell? ⟨w.heap.size, 2, none⟩ = some (.slice a L.length cap) := by go_simp
    have kb6_1_0 : w6.cell? ⟨w5.heap.size, 0, none⟩ = some (.int .i64 rp) := by go_simp
    have kb6_1_1 : w6.cell? ⟨w5.heap.size, 1, none⟩ = some (.int .i64 rq) := by go_simp
    have kb6_1_2 : w6.cell? ⟨w5.heap.size, 2, none⟩ = some (.slice a6 R.length c6) := by go_simp
    have HB6 := Lib.hid (HB5.out.trans (hN6.mono (by first | exact Nat.le_refl _ | omega)))
    have HR6_6 := Lib.hid (HR5_6.out.below hN6 (by first | exact Nat.le_refl _ | omega))
    try dsimp only at hI8
    try dsimp only
    clear hc6 hf6 hb6 hN6 hz6
    try simp only [World.size_alloc] at hI8
    have HR6_8 := Lib.hid (hI8)
    clear hI8
    go_wp2_with fail
    refine (toDeedS_any X _ _ ((HX.out.below HB6.out).below (show Below w6.heap.size w6 _ by (repeat (first | exact Below.refl _ _ | refine Below.setCell ?_ (by first | omega | (simp <;> omega)) _ | refine Below.alloc ?_ (by first | omega | (simp <;> omega)) _ | refine Below.drew ?_ | refine Below.trans ?_ (Below.mono (by assumption) (by first | omega | (simp <;> omega))))))) hm).mono ?_
    rintro e w7 ⟨ud9, rfl, hId9, hb7⟩
    obtain ⟨hc7, hf7⟩ := bcell hb7
    have hz7 := hb7.size
    try simp at hz7
    have hN7 : Below w6.heap.size w6 w7 := by
      refine Below.trans ?_ (hb7.mono (by first | omega | (simp <;> omega)))
      (repeat (first | exact Below.refl _ _ | refine Below.setCell ?_ (by first | omega | (simp <;> omega)) _ | refine Below.alloc ?_ (by first | omega | (simp <;> omega)) _ | refine Below.drew ?_))
    have hn7 := hN7.size
    have hs7_0 : w.heap.size < w7.heap.size := by omega
    have hs7_1 : w5.heap.size < w7.heap.size := by omega
    have hs7_2 : w6.heap.size < w7.heap.size := by omega
    have kb7_0_0 : w7.cell? ⟨w.heap.size, 0, none⟩ = some (.int .i64 p) := by go_simp
    have kb7_0_1 : w7.cell? ⟨w.heap.size, 1, none⟩ = some (.int .i64 q) := by go_simp
    have kb7_0_2 : w7.cell? ⟨w.heap.size, 2, none⟩ = some (.slice a L.length cap) := by go_simp
    have kb7_1_0 : w7.cell? ⟨w5.heap.size, 0, none⟩ = some (.int .i64 rp) := by go_simp
    have kb7_1_1 : w7.cell? ⟨w5.heap.size, 1, none⟩ = some (.int .i64 rq) := by go_simp
    have kb7_1_2 : w7.cell? ⟨w5.heap.size, 2, none⟩ = some (.slice a6 R.length c6) := by go_simp
    have kb7_2_0 : w7.cell? ⟨w6.heap.size, 0, none⟩ = some (.int .i64 p) := by go_simp
    have kb7_2_1 : w7.cell? ⟨w6.heap.size, 1, none⟩ = some (.int .i64 q) := by go_simp
    have kb7_2_2 : w7.cell? ⟨w6.heap.size, 2, none⟩ = some (.slice a8 L.length c8) := by go_simp
    have HB7 := Lib.hid (HB6.out.trans (hN7.mono (by first | exact Nat.le_refl _ | omega)))
    have HR7_6 := Lib.hid (HR6_6.out.below hN7 (by first | exact Nat.le_refl _ | omega))
    have HR7_8 := Lib.hid (HR6_8.out.below hN7 (by first | exact Nat.le_refl _ | omega))
    clear hc7 hf7 hb7 hN7 hz7
    try simp only [World.size_alloc] at hId9
    have HR7_d9 := Lib.hid (hId9)
    clear hId9
    go_wp2_with fail
    refine (HI.out _ _ _ _ _ _ _ _ (HR7_8.out.below (show Below w7.heap.size w7 _ by (repeat (first | exact Below.refl _ _ | refine Below.setCell ?_ (by first | omega | (simp <;> omega)) _ | refine Below.alloc ?_ (by first | omega | (simp <;> omega)) _ | refine Below.drew ?_ | refine Below.trans ?_ (Below.mono (by assumption) (by first | omega | (simp <;> omega)))))) (by first | exact Nat.le_refl _ | omega)) (HR7_d9.out.below (show Below w7.heap.size w7 _ by (repeat (first | exact Below.refl _ _ | refine Below.setCell ?_ (by first | omega | (simp <;> omega)) _ | refine Below.alloc ?_ (by first | omega | (simp <;> omega)) _ | refine Below.drew ?_ | refine Below.trans ?_ (Below.mono (by assumption) (by first | omega | (simp <;> omega)))))) (by first | exact Nat.le_refl _ | omega))).mono ?_
    rintro e w8 ⟨a10, c10, rfl, hI10, hb8⟩
    obtain ⟨hc8, hf8⟩ := bcell hb8
    have hz8 := hb8.size
    try simp at hz8
    have hN8 : Below w7.heap.size w7 w8 := by
      refine Below.trans ?_ (hb8.mono (by first | omega | (simp <;> omega)))
      (repeat (first | exact Below.refl _ _ | refine Below.setCell ?_ (by first | omega | (simp <;> omega)) _ | refine Below.alloc ?_ (by first | omega | (simp <;> omega)) _ | refine Below.drew ?_))
    have hn8 := hN8.size
    have hs8_0 : w.heap.size < w8.heap.size := by omega
    have hs8_1 : w5.heap.size < w8.heap.size := by omega
    have hs8_2 : w6.heap.size < w8.heap.size := by omega
    have kb8_0_0 : w8.cell? ⟨w.heap.size, 0, none⟩ = some (.int .i64 p) := by go_simp
    have kb8_0_1 : w8.cell? ⟨w.heap.size, 1, none⟩ = some (.int .i64 q) := by go_simp
    have kb8_0_2 : w8.cell? ⟨w.heap.size, 2, none⟩ = some (.slice a L.length cap) := by go_simp
    have kb8_1_0 : w8.cell? ⟨w5.heap.size, 0, none⟩ = some (.int .i64 rp) := by go_simp
    have kb8_1_1 : w8.cell? ⟨w5.heap.size, 1, none⟩ = some (.int .i64 rq) := by go_simp
    have kb8_1_2 : w8.cell? ⟨w5.heap.size, 2, none⟩ = some (.slice a6 R.length c6) := by go_simp
    have kb8_2_0 : w8.cell? ⟨w6.heap.size, 0, none⟩ = some (.int .i64 p) := by go_simp
    have kb8_2_1 : w8.cell? ⟨w6.heap.size, 1, none⟩ = some (.int .i64 q) := by go_simp
    have kb8_2_2 : w8.cell? ⟨w6.heap.size, 2, none⟩ = some (.slice a8 L.length c8) := by go_simp
    have HB8 := Lib.hid (HB7.out.trans (hN8.mono (by first | exact Nat.le_refl _ | omega)))
    have HR8_6 := Lib.hid (HR7_6.out.below hN8 (by first | exact Nat.le_refl _ | omega))
    have HR8_8 := Lib.hid (HR7_8.out.below hN8 (by first | exact Nat.le_refl _ | omega))
    have HR8_d9 := Lib.hid (HR7_d9.out.below hN8 (by first | exact Nat.le_refl _ | omega))
    clear hc8 hf8 hb8 hN8 hz8
    try simp only [World.size_alloc] at hI10
    have HR8_10 := Lib.hid (hI10)
    clear hI10
    go_wp2_with fail
    refine (eqDesk_same _ _ _ _ rp rq _ _ R _ (HR8_10.out.below (show Below w8.heap.size w8 _ by (repeat (first | exact Below.refl _ _ | refine Below.setCell ?_ (by first | omega | (simp <;> omega)) _ | refine Below.alloc ?_ (by first | omega | (simp <;> omega)) _ | refine Below.drew ?_ | refine Below.trans ?_ (Below.mono (by assumption) (by first | omega | (simp <;> omega)))))) (by first | exact Nat.le_refl _ | omega)) (HR8_6.out.below (show Below w8.heap.size w8 _ by (repeat (first | exact Below.refl _ _ | refine Below.setCell ?_ (by first | omega | (simp <;> omega)) _ | refine Below.alloc ?_ (by first | omega | (simp <;> omega)) _ | refine Below.drew ?_ | refine Below.trans ?_ (Below.mono (by assumption) (by first | omega | (simp <;> omega)))))) (by first | exact Nat.le_refl _ | omega)) hRn).mono ?_
    rintro e w9 ⟨rfl, hb9⟩
    obtain ⟨hc9, hf9⟩ := bcell hb9
    have hz9 := hb9.size
    try simp at hz9
    have hN9 : Below w8.heap.size w8 w9 := by
      refine Below.trans ?_ (hb9.mono (by first | omega | (simp <;> omega)))
      (repeat (first | exact Below.refl _ _ | refine Below.setCell ?_ (by first | omega | (simp <;> omega)) _ | refine Below.alloc ?_ (by first | omega | (simp <;> omega)) _ | refine Below.drew ?_))
    have hn9 := hN9.size
    have hs9_0 : w.heap.size < w9.heap.size := by omega
    have hs9_1 : w5.heap.size < w9.heap.size := by omega
    have hs9_2 : w6.heap.size < w9.heap.size := by omega
    have hs9_3 : w8.heap.size < w9.heap.size := by omega
    have kb9_0_0 : w9.cell? ⟨w.heap.size, 0, none⟩ = some (.int .i64 p) := by go_simp
    have kb9_0_1 : w9.cell? ⟨w.heap.size, 1, none⟩ = some (.int .i64 q) := by go_simp
    have kb9_0_2 : w9.cell? ⟨w.heap.size, 2, none⟩ = some (.slice a L.length cap) := by go_simp
    have kb9_1_0 : w9.cell? ⟨w5.heap.size, 0, none⟩ = some (.int .i64 rp) := by go_simp
    have kb9_1_1 : w9.cell? ⟨w5.heap.size, 1, none⟩ = some (.int .i64 rq) := by go_simp
    have kb9_1_2 : w9.cell? ⟨w5.heap.size, 2, none⟩ = some (.slice a6 R.length c6) := by go_simp
    have kb9_2_0 : w9.cell? ⟨w6.heap.size, 0, none⟩ = some (.int .i64 p) := by go_simp
    have kb9_2_1 : w9.cell? ⟨w6.heap.size, 1, none⟩ = some (.int .i64 q) := by go_simp
    have kb9_2_2 : w9.cell? ⟨w6.heap.size, 2, none⟩ = some (.slice a8 L.length c8) := by go_simp
    have kb9_3_0 : w9.cell? ⟨w8.heap.size, 0, none⟩ = some (.int .i64 rp) := by go_simp
    have kb9_3_1 : w9.cell? ⟨w8.heap.size, 1, none⟩ = some (.int .i64 rq) := by go_simp
    have kb9_3_2 : w9.cell? ⟨w8.heap.size, 2, none⟩ = some (.slice a10 R.length c10) := by go_simp
    have HB9 := Lib.hid (HB8.out.trans (hN9.mono (by first | exact Nat.le_refl _ | omega)))
    have HR9_6 := Lib.hid (HR8_6.out.below hN9 (by first | exact Nat.le_refl _ | omega))
    have HR9_8 := Lib.hid (HR8_8.out.below hN9 (by first | exact Nat.le_refl _ | omega))
    have HR9_d9 := Lib.hid (HR8_d9.out.below hN9 (by first | exact Nat.le_refl _ | omega))
    have HR9_10 := Lib.hid (HR8_10.out.below hN9 (by first | exact Nat.le_refl _ | omega))
    clear hc9 hf9 hb9 hN9 hz9
    have HSe3 := Lib.hid (H.out.below HB9.out)
    go_wp2_with fail
    go_cut [58] from 17 (fun s_ wx => s_ = .bool false ∧ Below w9.heap.size w9 wx)
    case first =>
      go_region_held3 (fun W_ => W_.cell? ⟨w6.heap.size, 0, none⟩ = some (.int .i64 p) ∧ W_.cell? ⟨w6.heap.size, 1, none⟩ = some (.int .i64 q) ∧ W_.cell? ⟨w6.heap.size, 2, none⟩ = some (.slice a8 L.length c8) ∧ W_.cell? ⟨w.heap.size, 0, none⟩ = some (.int .i64 p) ∧ W_.cell? ⟨w.heap.size, 1, none⟩ = some (.int .i64 q) ∧ W_.cell? ⟨w.heap.size, 2, none⟩ = some (.slice a L.length cap))
        ((go_split_ands; refine ⟨?_, ?_, ?_, ?_, ?_, ?_⟩ <;> (repeat (first | with_reducible assumption | with_reducible refine cell_alloc_is _ ?_ | with_reducible refine cell_drew_is ?_ | with_reducible refine cell_set_is ?_ ?_ | omega)); done))
        ((first | (go_at_call 29; refine (toDesk_any p q L _ _ (HSe3.out.below (show Below w9.heap.size w9 _ by (repeat (first | exact Below.refl _ _ | refine Below.setCell ?_ (by first | omega | (simp <;> omega)) _ | refine Below.alloc ?_ (by first | omega | (simp <;> omega)) _ | refine Below.drew ?_ | refine Below.trans ?_ (Below.mono (by assumption) (by first | omega | (simp <;> omega))))))) hn).mono ?_; rintro e w_2 ⟨a2, c2, rfl, hI2, hb_2⟩; obtain ⟨hc_2, hf_2⟩ := bcell hb_2; have hz_2 := hb_2.size; (try simp at hz_2); have kx0 := (hb_2.cell (p := ⟨w6.heap.size, 0, none⟩) (by first | omega | (simp <;> omega))).trans (show _ = some (.int .i64 p) by (repeat (first | with_reducible assumption | with_reducible refine cell_alloc_is _ ?_ | with_reducible refine cell_drew_is ?_ | with_reducible refine cell_set_is ?_ ?_ | omega))); have kx1 := (hb_2.cell (p := ⟨w6.heap.size, 1, none⟩) (by first | omega | (simp <;> omega))).trans (show _ = some (.int .i64 q) by (repeat (first | with_reducible assumption | with_reducible refine cell_alloc_is _ ?_ | with_reducible refine cell_drew_is ?_ | with_reducible refine cell_set_is ?_ ?_ | omega))); have kx2 := (hb_2.cell (p := ⟨w6.heap.size, 2, none⟩) (by first | omega | (simp <;> omega))).trans (show _ = some (.slice a8 L.length c8) by (repeat (first | with_reducible assumption | with_reducible refine cell_alloc_is _ ?_ | with_reducible refine cell_drew_is ?_ | with_reducible refine cell_set_is ?_ ?_ | omega))); have kx3 := (hb_2.cell (p := ⟨w.heap.size, 0, none⟩) (by first | omega | (simp <;> omega))).trans (show _ = some (.int .i64 p) by (repeat (first | with_reducible assumption | with_reducible refine cell_alloc_is _ ?_ | with_reducible refine cell_drew_is ?_ | with_reducible refine cell_set_is ?_ ?_ | omega))); have kx4 := (hb_2.cell (p := ⟨w.heap.size, 1, none⟩) (by first | omega | (simp <;> omega))).trans (show _ = some (.int .i64 q) by (repeat (first | with_reducible assumption | with_reducible refine cell_alloc_is _ ?_ | with_reducible refine cell_drew_is ?_ | with_reducible refine cell_set_is ?_ ?_ | omega))); have kx5 := (hb_2.cell (p := ⟨w.heap.size, 2, none⟩) (by first | omega | (simp <;> omega))).trans (show _ = some (.slice a L.length cap) by (repeat (first | with_reducible assumption | with_reducible refine cell_alloc_is _ ?_ | with_reducible refine cell_drew_is ?_ | with_reducible refine cell_set_is ?_ ?_ | omega))); (dsimp only at hI2 ⊢); (try have hq_2_w9 : w9.heap.size < w_2.heap.size := by omega); (try have hq_2_w_5 : w_5.heap.size < w_2.heap.size := by omega)) | (go_at_call 30; refine (eqDesk_same _ _ _ _ p q _ _ L _ (HR9_8.out.below (show Below w9.heap.size w9 _ by (repeat (first | exact Below.refl _ _ | refine Below.setCell ?_ (by first | omega | (simp <;> omega)) _ | refine Below.alloc ?_ (by first | omega | (simp <;> omega)) _ | refine Below.drew ?_ | refine Below.trans ?_ (Below.mono (by assumption) (by first | omega | (simp <;> omega)))))) (by omega)) (hI2.below (show Below w_2.heap.size w_2 _ by (repeat (first | exact Below.refl _ _ | refine Below.setCell ?_ (by first | omega | (simp <;> omega)) _ | refine Below.alloc ?_ (by first | omega | (simp <;> omega)) _ | refine Below.drew ?_ | refine Below.trans ?_ (Below.mono (by assumption) (by first | omega | (simp <;> omega)))))) (Nat.le_refl _)) hn).mono ?_; rintro e w_5 ⟨rfl, hb_5⟩; obtain ⟨hc_5, hf_5⟩ := bcell hb_5; have hz_5 := hb_5.size; (try simp at hz_5); have kx0 := (hb_5.cell (p := ⟨w6.heap.size, 0, none⟩) (by first | omega | (simp <;> omega))).trans (show _ = some (.int .i64 p) by (repeat (first | with_reducible assumption | with_reducible refine cell_alloc_is _ ?_ | with_reducible refine cell_drew_is ?_ | with_reducible refine cell_set_is ?_ ?_ | omega))); have kx1 := (hb_5.cell (p := ⟨w6.heap.size, 1, none⟩) (by first | omega | (simp <;> omega))).trans (show _ = some (.int .i64 q) by (repeat (first | with_reducible assumption | with_reducible refine cell_alloc_is _ ?_ | with_reducible refine cell_drew_is ?_ | with_reducible refine cell_set_is ?_ ?_ | omega))); have kx2 := (hb_5.cell (p := ⟨w6.heap.size, 2, none⟩) (by first | omega | (simp <;> omega))).trans (show _ = some (.slice a8 L.length c8) by (repeat (first | with_reducible assumption | with_reducible refine cell_alloc_is _ ?_ | with_reducible refine cell_drew_is ?_ | with_reducible refine cell_set_is ?_ ?_ | omega))); have kx3 := (hb_5.cell (p := ⟨w.heap.size, 0, none⟩) (by first | omega | (simp <;> omega))).trans (show _ = some (.int .i64 p) by (repeat (first | with_reducible assumption | with_reducible refine cell_alloc_is _ ?_ | with_reducible refine cell_drew_is ?_ | with_reducible refine cell_set_is ?_ ?_ | omega))); have kx4 := (hb_5.cell (p := ⟨w.heap.size, 1, none⟩) (by first | omega | (simp <;> omega))).trans (show _ = some (.int .i64 q) by (repeat (first | with_reducible assumption | with_reducible refine cell_alloc_is _ ?_ | with_reducible refine cell_drew_is ?_ | with_reducible refine cell_set_is ?_ ?_ | omega))); have kx5 := (hb_5.cell (p := ⟨w.heap.size, 2, none⟩) (by first | omega | (simp <;> omega))).trans (show _ = some (.slice a L.length cap) by (repeat (first | with_reducible assumption | with_reducible refine cell_alloc_is _ ?_ | with_reducible refine cell_drew_is ?_ | with_reducible refine cell_set_is ?_ ?_ | omega))); (try have hq_5_w9 : w9.heap.size < w_5.heap.size := by omega); (try have hq_5_w_2 : w_2.heap.size < w_5.heap.size := by omega)) | fail))
      all_goals (go_wp2_with fail; go_meet)
      all_goals
        case rel => exact ⟨rfl, by (repeat (first | exact Below.refl _ _ | refine Below.setCell ?_ (by first | omega | (simp <;> omega)) _ | refine Below.alloc ?_ (by first | omega | (simp <;> omega)) _ | refine Below.drew ?_ | refine Below.trans ?_ (Below.mono (by assumption) (by first | omega | (simp <;> omega)))))⟩
    rename World => w10
    obtain ⟨rfl, hN10⟩ := hcut
    obtain ⟨hc10, hf10⟩ := bcell hN10
    have hn10 := hN10.size
    have hs10_0 : w.heap.size < w10.heap.size := by omega
    have hs10_1 : w5.heap.size < w10.heap.size := by omega
    have hs10_2 : w6.heap.size < w10.heap.size := by omega
    have hs10_3 : w8.heap.size < w10.heap.size := by omega
    have kb10_0_0 : w10.cell? ⟨w.heap.size, 0, none⟩ = some (.int .i64 p) := by go_simp
    have kb10_0_1 : w10.cell? ⟨w.heap.size, 1, none⟩ = some (.int .i64 q) := by go_simp
    have kb10_0_2 : w10.cell? ⟨w.heap.size, 2, none⟩ = some (.slice a L.length cap) := by go_simp
    have kb10_1_0 : w10.cell? ⟨w5.heap.size, 0, none⟩ = some (.int .i64 rp) := by go_simp
    have kb10_1_1 : w10.cell? ⟨w5.heap.size, 1, none⟩ = some (.int .i64 rq) := by go_simp
    have kb10_1_2 : w10.cell? ⟨w5.heap.size, 2, none⟩ = some (.slice a6 R.length c6) := by go_simp
    have kb10_2_0 : w10.cell? ⟨w6.heap.size, 0, none⟩ = some (.int .i64 p) := by go_simp
    have kb10_2_1 : w10.cell? ⟨w6.heap.size, 1, none⟩ = some (.int .i64 q) := by go_simp
    have kb10_2_2 : w10.cell? ⟨w6.heap.size, 2, none⟩ = some (.slice a8 L.length c8) := by go_simp
    have kb10_3_0 : w10.cell? ⟨w8.heap.size, 0, none⟩ = some (.int .i64 rp) := by go_simp
    have kb10_3_1 : w10.cell? ⟨w8.heap.size, 1, none⟩ = some (.int .i64 rq) := by go_simp
    have kb10_3_2 : w10.cell? ⟨w8.heap.size, 2, none⟩ = some (.slice a10 R.length c10) := by go_simp
    have HB10 := Lib.hid (HB9.out.trans (hN10.mono (by first | exact Nat.le_refl _ | omega)))
    have HR10_6 := Lib.hid (HR9_6.out.below hN10 (by first | exact Nat.le_refl _ | omega))
    have HR10_8 := Lib.hid (HR9_8.out.below hN10 (by first | exact Nat.le_refl _ | omega))
    have HR10_d9 := Lib.hid (HR9_d9.out.below hN10 (by first | exact Nat.le_refl _ | omega))
    have HR10_10 := Lib.hid (HR9_10.out.below hN10 (by first | exact Nat.le_refl _ | omega))
    clear hc10 hf10 hN10
    go_wp2_with fail
    refine (toDeedS_any X _ _ ((HX.out.below HB10.out).below (show Below w10.heap.size w10 _ by (repeat (first | exact Below.refl _ _ | refine Below.setCell ?_ (by first | omega | (simp <;> omega)) _ | refine Below.alloc ?_ (by first | omega | (simp <;> omega)) _ | refine Below.drew ?_ | refine Below.trans ?_ (Below.mono (by assumption) (by first | omega | (simp <;> omega))))))) hm).mono ?_
    rintro e w11 ⟨ud11, rfl, hId11, hb11⟩
    obtain ⟨hc11, hf11⟩ := bcell hb11
    have hz11 := hb11.size
    try simp at hz11
    have hN11 : Below w10.heap.size w10 w11 := by
      refine Below.trans ?_ (hb11.mono (by first | omega | (simp <;> omega)))
      (repeat (first | exact Below.refl _ _ | refine Below.setCell ?_ (by first | omega | (simp <;> omega)) _ | refine Below.alloc ?_ (by first | omega | (simp <;> omega)) _ | refine Below.drew ?_))
    have hn11 := hN11.size
    have hs11_0 : w.heap.size < w11.heap.size := by omega
    have hs11_1 : w5.heap.size < w11.heap.size := by omega
    have hs11_2 : w6.heap.size < w11.heap.size := by omega
    have hs11_3 : w8.heap.size < w11.heap.size := by omega
    have kb11_0_0 : w11.cell? ⟨w.heap.size, 0, none⟩ = some (.int .i64 p) := by go_simp
    have kb11_0_1 : w11.cell? ⟨w.heap.size, 1, none⟩ = some (.int .i64 q) := by go_simp
    have kb11_0_2 : w11.cell? ⟨w.heap.size, 2, none⟩ = some (.slice a L.length cap) := by go_simp
    have kb11_1_0 : w11.cell? ⟨w5.heap.size, 0, none⟩ = some (.int .i64 rp) := by go_simp
    have kb11_1_1 : w11.cell? ⟨w5.heap.size, 1, none⟩ = some (.int .i64 rq) := by go_simp
    have kb11_1_2 : w11.cell? ⟨w5.heap.size, 2, none⟩ = some (.slice a6 R.length c6) := by go_simp
    have kb11_2_0 : w11.cell? ⟨w6.heap.size, 0, none⟩ = some (.int .i64 p) := by go_simp
    have kb11_2_1 : w11.cell? ⟨w6.heap.size, 1, none⟩ = some (.int .i64 q) := by go_simp
    have kb11_2_2 : w11.cell? ⟨w6.heap.size, 2, none⟩ = some (.slice a8 L.length c8) := by go_simp
    have kb11_3_0 : w11.cell? ⟨w8.heap.size, 0, none⟩ = some (.int .i64 rp) := by go_simp
    have kb11_3_1 : w11.cell? ⟨w8.heap.size, 1, none⟩ = some (.int .i64 rq) := by go_simp
    have kb11_3_2 : w11.cell? ⟨w8.heap.size, 2, none⟩ = some (.slice a10 R.length c10) := by go_simp
    have HB11 := Lib.hid (HB10.out.trans (hN11.mono (by first | exact Nat.le_refl _ | omega)))
    have HR11_6 := Lib.hid (HR10_6.out.below hN11 (by first | exact Nat.le_refl _ | omega))
    have HR11_8 := Lib.hid (HR10_8.out.below hN11 (by first | exact Nat.le_refl _ | omega))
    have HR11_d9 := Lib.hid (HR10_d9.out.below hN11 (by first | exact Nat.le_refl _ | omega))
    have HR11_10 := Lib.hid (HR10_10.out.below hN11 (by first | exact Nat.le_refl _ | omega))
    clear hc11 hf11 hb11 hN11 hz11
    try simp only [World.size_alloc] at hId11
    have HR11_d11 := Lib.hid (hId11)
    clear hId11
    go_wp2_with fail
    refine (eqDeedS_same _ _ _ _ _ _ X _ (HR11_d9.out.below (show Below w11.heap.size w11 _ by (repeat (first | exact Below.refl _ _ | refine Below.setCell ?_ (by first | omega | (simp <;> omega)) _ | refine Below.alloc ?_ (by first | omega | (simp <;> omega)) _ | refine Below.drew ?_ | refine Below.trans ?_ (Below.mono (by assumption) (by first | omega | (simp <;> omega)))))) (by first | exact Nat.le_refl _ | omega)) (HR11_d11.out.below (show Below w11.heap.size w11 _ by (repeat (first | exact Below.refl _ _ | refine Below.setCell ?_ (by first | omega | (simp <;> omega)) _ | refine Below.alloc ?_ (by first | omega | (simp <;> omega)) _ | refine Below.drew ?_ | refine Below.trans ?_ (Below.mono (by assumption) (by first | omega | (simp <;> omega)))))) (by first | exact Nat.le_refl _ | omega)) hm).mono ?_
    rintro e w12 ⟨rfl, hb12⟩
    obtain ⟨hc12, hf12⟩ := bcell hb12
    have hz12 := hb12.size
    try simp at hz12
    have hN12 : Below w11.heap.size w11 w12 := by
      refine Below.trans ?_ (hb12.mono (by first | omega | (simp <;> omega)))
      (repeat (first | exact Below.refl _ _ | refine Below.setCell ?_ (by first | omega | (simp <;> omega)) _ | refine Below.alloc ?_ (by first | omega | (simp <;> omega)) _ | refine Below.drew ?_))
    have hn12 := hN12.size
    have hs12_0 : w.heap.size < w12.heap.size := by omega
    have hs12_1 : w5.heap.size < w12.heap.size := by omega
    have hs12_2 : w6.heap.size < w12.heap.size := by omega
    have hs12_3 : w8.heap.size < w12.heap.size := by omega
    have kb12_0_0 : w12.cell? ⟨w.heap.size, 0, none⟩ = some (.int .i64 p) := by go_simp
    have kb12_0_1 : w12.cell? ⟨w.heap.size, 1, none⟩ = some (.int .i64 q) := by go_simp
    have kb12_0_2 : w12.cell? ⟨w.heap.size, 2, none⟩ = some (.slice a L.length cap) := by go_simp
    have kb12_1_0 : w12.cell? ⟨w5.heap.size, 0, none⟩ = some (.int .i64 rp) := by go_simp
    have kb12_1_1 : w12.cell? ⟨w5.heap.size, 1, none⟩ = some (.int .i64 rq) := by go_simp
    have kb12_1_2 : w12.cell? ⟨w5.heap.size, 2, none⟩ = some (.slice a6 R.length c6) := by go_simp
    have kb12_2_0 : w12.cell? ⟨w6.heap.size, 0, none⟩ = some (.int .i64 p) := by go_simp
    have kb12_2_1 : w12.cell? ⟨w6.heap.size, 1, none⟩ = some (.int .i64 q) := by go_simp
    have kb12_2_2 : w12.cell? ⟨w6.heap.size, 2, none⟩ = some (.slice a8 L.length c8) := by go_simp
    have kb12_3_0 : w12.cell? ⟨w8.heap.size, 0, none⟩ = some (.int .i64 rp) := by go_simp
    have kb12_3_1 : w12.cell? ⟨w8.heap.size, 1, none⟩ = some (.int .i64 rq) := by go_simp
    have kb12_3_2 : w12.cell? ⟨w8.heap.size, 2, none⟩ = some (.slice a10 R.length c10) := by go_simp
    have HB12 := Lib.hid (HB11.out.trans (hN12.mono (by first | exact Nat.le_refl _ | omega)))
    have HR12_6 := Lib.hid (HR11_6.out.below hN12 (by first | exact Nat.le_refl _ | omega))
    have HR12_8 := Lib.hid (HR11_8.out.below hN12 (by first | exact Nat.le_refl _ | omega))
    have HR12_d9 := Lib.hid (HR11_d9.out.below hN12 (by first | exact Nat.le_refl _ | omega))
    have HR12_10 := Lib.hid (HR11_10.out.below hN12 (by first | exact Nat.le_refl _ | omega))
    have HR12_d11 := Lib.hid (HR11_d11.out.below hN12 (by first | exact Nat.le_refl _ | omega))
    clear hc12 hf12 hb12 hN12 hz12
    go_wp2_with fail
    refine (markDesk_any _ _ p q _ L 1 _ HR12_8.out hn (by omega) (by omega)).mono ?_
    rintro e w13 ⟨rfl, hI13, hM13⟩
    have hn13 := hM13.size
    have hs13_0 : w.heap.size < w13.heap.size := by omega
    have hs13_1 : w5.heap.size < w13.heap.size := by omega
    have hs13_2 : w6.heap.size < w13.heap.size := by omega
    have hs13_3 : w8.heap.size < w13.heap.size := by omega
    have kb13_0_0 : w13.cell? ⟨w.heap.size, 0, none⟩ = some (.int .i64 p) := (hM13.cell (by first | assumption | omega) (by omega) 0).trans (by with_reducible assumption)
    have kb13_0_1 : w13.cell? ⟨w.heap.size, 1, none⟩ = some (.int .i64 q) := (hM13.cell (by first | assumption | omega) (by omega) 1).trans (by with_reducible assumption)
    have kb13_0_2 : w13.cell? ⟨w.heap.size, 2, none⟩ = some (.slice a L.length cap) := (hM13.cell (by first | assumption | omega) (by omega) 2).trans (by with_reducible assumption)
    have kb13_1_0 : w13.cell? ⟨w5.heap.size, 0, none⟩ = some (.int .i64 rp) := (hM13.cell (by first | assumption | omega) (by omega) 0).trans (by with_reducible assumption)
    have kb13_1_1 : w13.cell? ⟨w5.heap.size, 1, none⟩ = some (.int .i64 rq) := (hM13.cell (by first | assumption | omega) (by omega) 1).trans (by with_reducible assumption)
    have kb13_1_2 : w13.cell? ⟨w5.heap.size, 2, none⟩ = some (.slice a6 R.length c6) := (hM13.cell (by first | assumption | omega) (by omega) 2).trans (by with_reducible assumption)
    have kb13_2_0 : w13.cell? ⟨w6.heap.size, 0, none⟩ = some (.int .i64 p) := (hM13.cell (by first | assumption | omega) (by omega) 0).trans (by with_reducible assumption)
    have kb13_2_1 : w13.cell? ⟨w6.heap.size, 1, none⟩ = some (.int .i64 q) := (hM13.cell (by first | assumption | omega) (by omega) 1).trans (by with_reducible assumption)
    have kb13_2_2 : w13.cell? ⟨w6.heap.size, 2, none⟩ = some (.slice a8 L.length c8) := (hM13.cell (by first | assumption | omega) (by omega) 2).trans (by with_reducible assumption)
    have kb13_3_0 : w13.cell? ⟨w8.heap.size, 0, none⟩ = some (.int .i64 rp) := (hM13.cell (by first | assumption | omega) (by omega) 0).trans (by with_reducible assumption)
    have kb13_3_1 : w13.cell? ⟨w8.heap.size, 1, none⟩ = some (.int .i64 rq) := (hM13.cell (by first | assumption | omega) (by omega) 1).trans (by with_reducible assumption)
    have kb13_3_2 : w13.cell? ⟨w8.heap.size, 2, none⟩ = some (.slice a10 R.length c10) := (hM13.cell (by first | assumption | omega) (by omega) 2).trans (by with_reducible assumption)
    have HB13 := Lib.hid (below_markedS HB12.out hM13 (by omega) (by omega))
    have HR13_6 := Lib.hid (HR12_6.out.markedS2 hM13 (by omega))
    have HR13_d9 := Lib.hid (HR12_d9.out.markedS hM13 (by omega))
    have HR13_10 := Lib.hid (HR12_10.out.markedS2 hM13 (by omega))
    clear hI13 hM13
    go_wp2_with fail
    refine (markDeedS_any _ _ _ X (1 + 2 * (L.length : Int)) _ HR13_d9.out hm (by omega) (by omega)).mono ?_
    rintro e w14 ⟨rfl, hI14, hM14⟩
    have hn14 := hM14.size
    have hs14_0 : w.heap.size < w14.heap.size := by omega
    have hs14_1 : w5.heap.size < w14.heap.size := by omega
    have hs14_2 : w6.heap.size < w14.heap.size := by omega
    have hs14_3 : w8.heap.size < w14.heap.size := by omega
    have kb14_0_0 : w14.cell? ⟨w.heap.size, 0, none⟩ = some (.int .i64 p) := (hM14.cell (by first | assumption | omega) (by omega) 0).trans (by with_reducible assumption)
    have kb14_0_1 : w14.cell? ⟨w.heap.size, 1, none⟩ = some (.int .i64 q) := (hM14.cell (by first | assumption | omega) (by omega) 1).trans (by with_reducible assumption)
    have kb14_0_2 : w14.cell? ⟨w.heap.size, 2, none⟩ = some (.slice a L.length cap) := (hM14.cell (by first | assumption | omega) (by omega) 2).trans (by with_reducible assumption)
    have kb14_1_0 : w14.cell? ⟨w5.heap.size, 0, none⟩ = some (.int .i64 rp) := (hM14.cell (by first | assumption | omega) (by omega) 0).trans (by with_reducible assumption)
    have kb14_1_1 : w14.cell? ⟨w5.heap.size, 1, none⟩ = some (.int .i64 rq) := (hM14.cell (by first | assumption | omega) (by omega) 1).trans (by with_reducible assumption)
    have kb14_1_2 : w14.cell? ⟨w5.heap.size, 2, none⟩ = some (.slice a6 R.length c6) := (hM14.cell (by first | assumption | omega) (by omega) 2).trans (by with_reducible assumption)
    have kb14_2_0 : w14.cell? ⟨w6.heap.size, 0, none⟩ = some (.int .i64 p) := (hM14.cell (by first | assumption | omega) (by omega) 0).trans (by with_reducible assumption)
    have kb14_2_1 : w14.cell? ⟨w6.heap.size, 1, none⟩ = some (.int .i64 q) := (hM14.cell (by first | assumption | omega) (by omega) 1).trans (by with_reducible assumption)
    have kb14_2_2 : w14.cell? ⟨w6.heap.size, 2, none⟩ = some (.slice a8 L.length c8) := (hM14.cell (by first | assumption | omega) (by omega) 2).trans (by with_reducible assumption)
    have kb14_3_0 : w14.cell? ⟨w8.heap.size, 0, none⟩ = some (.int .i64 rp) := (hM14.cell (by first | assumption | omega) (by omega) 0).trans (by with_reducible assumption)
    have kb14_3_1 : w14.cell? ⟨w8.heap.size, 1, none⟩ = some (.int .i64 rq) := (hM14.cell (by first | assumption | omega) (by omega) 1).trans (by with_reducible assumption)
    have kb14_3_2 : w14.cell? ⟨w8.heap.size, 2, none⟩ = some (.slice a10 R.length c10) := (hM14.cell (by first | assumption | omega) (by omega) 2).trans (by with_reducible assumption)
    have HB14 := Lib.hid (below_markedS HB13.out hM14 (by omega) (by omega))
    have HR14_6 := Lib.hid (HR13_6.out.markedS2 hM14 (by omega))
    have HR14_10 := Lib.hid (HR13_10.out.markedS2 hM14 (by omega))
    clear hI14 hM14
    go_wp2_with fail
    refine (eqDesk_same _ _ _ _ rp rq _ _ R _ (HR14_10.out.below (show Below w14.heap.size w14 _ by (repeat (first | exact Below.refl _ _ | refine Below.setCell ?_ (by first | omega | (simp <;> omega)) _ | refine Below.alloc ?_ (by first | omega | (simp <;> omega)) _ | refine Below.drew ?_ | refine Below.trans ?_ (Below.mono (by assumption) (by first | omega | (simp <;> omega)))))) (by first | exact Nat.le_refl _ | omega)) (HR14_6.out.below (show Below w14.heap.size w14 _ by (repeat (first | exact Below.refl _ _ | refine Below.setCell ?_ (by first | omega | (simp <;> omega)) _ | refine Below.alloc ?_ (by first | omega | (simp <;> omega)) _ | refine Below.drew ?_ | refine Below.trans ?_ (Below.mono (by assumption) (by first | omega | (simp <;> omega)))))) (by first | exact Nat.le_refl _ | omega)) hRn).mono ?_
    rintro e w15 ⟨rfl, hb15⟩
    obtain ⟨hc15, hf15⟩ := bcell hb15
    have hz15 := hb15.size
    try simp at hz15
    have hN15 : Below w14.heap.size w14 w15 := by
      refine Below.trans ?_ (hb15.mono (by first | omega | (simp <;> omega)))
      (repeat (first | exact Below.refl _ _ | refine Below.setCell ?_ (by first | omega | (simp <;> omega)) _ | refine Below.alloc ?_ (by first | omega | (simp <;> omega)) _ | refine Below.drew ?_))
    have hn15 := hN15.size
    have hs15_0 : w.heap.size < w15.heap.size := by omega
    have hs15_1 : w5.heap.size < w15.heap.size := by omega
    have hs15_2 : w6.heap.size < w15.heap.size := by omega
    have hs15_3 : w8.heap.size < w15.heap.size := by omega
    have kb15_0_0 : w15.cell? ⟨w.heap.size, 0, none⟩ = some (.int .i64 p) := by go_simp
    have kb15_0_1 : w15.cell? ⟨w.heap.size, 1, none⟩ = some (.int .i64 q) := by go_simp
    have kb15_0_2 : w15.cell? ⟨w.heap.size, 2, none⟩ = some (.slice a L.length cap) := by go_simp
    have kb15_1_0 : w15.cell? ⟨w5.heap.size, 0, none⟩ = some (.int .i64 rp) := by go_simp
    have kb15_1_1 : w15.cell? ⟨w5.heap.size, 1, none⟩ = some (.int .i64 rq) := by go_simp
    have kb15_1_2 : w15.cell? ⟨w5.heap.size, 2, none⟩ = some (.slice a6 R.length c6) := by go_simp
    have kb15_2_0 : w15.cell? ⟨w6.heap.size, 0, none⟩ = some (.int .i64 p) := by go_simp
    have kb15_2_1 : w15.cell? ⟨w6.heap.size, 1, none⟩ = some (.int .i64 q) := by go_simp
    have kb15_2_2 : w15.cell? ⟨w6.heap.size, 2, none⟩ = some (.slice a8 L.length c8) := by go_simp
    have kb15_3_0 : w15.cell? ⟨w8.heap.size, 0, none⟩ = some (.int .i64 rp) := by go_simp
    have kb15_3_1 : w15.cell? ⟨w8.heap.size, 1, none⟩ = some (.int .i64 rq) := by go_simp
    have kb15_3_2 : w15.cell? ⟨w8.heap.size, 2, none⟩ = some (.slice a10 R.length c10) := by go_simp
    have HB15 := Lib.hid (HB14.out.trans (hN15.mono (by first | exact Nat.le_refl _ | omega)))
    have HR15_6 := Lib.hid (HR14_6.out.below hN15 (by first | exact Nat.le_refl _ | omega))
    have HR15_10 := Lib.hid (HR14_10.out.below hN15 (by first | exact Nat.le_refl _ | omega))
    clear hc15 hf15 hb15 hN15 hz15
    go_wp2_with fail
    refine (markDesk_any _ _ rp rq _ R 1 _ HR15_10.out hRn (by omega) (by omega)).mono ?_
    rintro e w16 ⟨rfl, hI16, hM16⟩
    have hn16 := hM16.size
    have hs16_0 : w.heap.size < w16.heap.size := by omega
    have hs16_1 : w5.heap.size < w16.heap.size := by omega
    have hs16_2 : w6.heap.size < w16.heap.size := by omega
    have hs16_3 : w8.heap.size < w16.heap.size := by omega
    have kb16_0_0 : w16.cell? ⟨w.heap.size, 0, none⟩ = some (.int .i64 p) := (hM16.cell (by first | assumption | omega) (by omega) 0).trans (by with_reducible assumption)
    have kb16_0_1 : w16.cell? ⟨w.heap.size, 1, none⟩ = some (.int .i64 q) := (hM16.cell (by first | assumption | omega) (by omega) 1).trans (by with_reducible assumption)
    have kb16_0_2 : w16.cell? ⟨w.heap.size, 2, none⟩ = some (.slice a L.length cap) := (hM16.cell (by first | assumption | omega) (by omega) 2).trans (by with_reducible assumption)
    have kb16_1_0 : w16.cell? ⟨w5.heap.size, 0, none⟩ = some (.int .i64 rp) := (hM16.cell (by first | assumption | omega) (by omega) 0).trans (by with_reducible assumption)
    have kb16_1_1 : w16.cell? ⟨w5.heap.size, 1, none⟩ = some (.int .i64 rq) := (hM16.cell (by first | assumption | omega) (by omega) 1).trans (by with_reducible assumption)
    have kb16_1_2 : w16.cell? ⟨w5.heap.size, 2, none⟩ = some (.slice a6 R.length c6) := (hM16.cell (by first | assumption | omega) (by omega) 2).trans (by with_reducible assumption)
    have kb16_2_0 : w16.cell? ⟨w6.heap.size, 0, none⟩ = some (.int .i64 p) := (hM16.cell (by first | assumption | omega) (by omega) 0).trans (by with_reducible assumption)
    have kb16_2_1 : w16.cell? ⟨w6.heap.size, 1, none⟩ = some (.int .i64 q) := (hM16.cell (by first | assumption | omega) (by omega) 1).trans (by with_reducible assumption)
    have kb16_2_2 : w16.cell? ⟨w6.heap.size, 2, none⟩ = some (.slice a8 L.length c8) := (hM16.cell (by first | assumption | omega) (by omega) 2).trans (by with_reducible assumption)
    have kb16_3_0 : w16.cell? ⟨w8.heap.size, 0, none⟩ = some (.int .i64 rp) := (hM16.cell (by first | assumption | omega) (by omega) 0).trans (by with_reducible assumption)
    have kb16_3_1 : w16.cell? ⟨w8.heap.size, 1, none⟩ = some (.int .i64 rq) := (hM16.cell (by first | assumption | omega) (by omega) 1).trans (by with_reducible assumption)
    have kb16_3_2 : w16.cell? ⟨w8.heap.size, 2, none⟩ = some (.slice a10 R.length c10) := (hM16.cell (by first | assumption | omega) (by omega) 2).trans (by with_reducible assumption)
    have HB16 := Lib.hid (below_markedS HB15.out hM16 (by omega) (by omega))
    have HR16_6 := Lib.hid (HR15_6.out.markedS2 hM16 (by omega))
    have HR16_10 := Lib.hid hI16
    clear hI16 hM16
    go_wp2_with fail
    refine (heldDesk_any _ _ R.length rp rq _ 1 _ (HR16_10.out.below (show Below w16.heap.size w16 _ by (repeat (first | exact Below.refl _ _ | refine Below.setCell ?_ (by first | omega | (simp <;> omega)) _ | refine Below.alloc ?_ (by first | omega | (simp <;> omega)) _ | refine Below.drew ?_ | refine Below.trans ?_ (Below.mono (by assumption) (by first | omega | (simp <;> omega)))))) (by first | exact Nat.le_refl _ | omega)) hRn (by omega) (by omega)).mono ?_
    rintro e w17 ⟨rfl, hb17⟩
    obtain ⟨hc17, hf17⟩ := bcell hb17
    have hz17 := hb17.size
    try simp at hz17
    have hN17 : Below w16.heap.size w16 w17 := by
      refine Below.trans ?_ (hb17.mono (by first | omega | (simp <;> omega)))
      (repeat (first | exact Below.refl _ _ | refine Below.setCell ?_ (by first | omega | (simp <;> omega)) _ | refine Below.alloc ?_ (by first | omega | (simp <;> omega)) _ | refine Below.drew ?_))
    have hn17 := hN17.size
    have hs17_0 : w.heap.size < w17.heap.size := by omega
    have hs17_1 : w5.heap.size < w17.heap.size := by omega
    have hs17_2 : w6.heap.size < w17.heap.size := by omega
    have hs17_3 : w8.heap.size < w17.heap.size := by omega
    have kb17_0_0 : w17.cell? ⟨w.heap.size, 0, none⟩ = some (.int .i64 p) := by go_simp
    have kb17_0_1 : w17.cell? ⟨w.heap.size, 1, none⟩ = some (.int .i64 q) := by go_simp
    have kb17_0_2 : w17.cell? ⟨w.heap.size, 2, none⟩ = some (.slice a L.length cap) := by go_simp
    have kb17_1_0 : w17.cell? ⟨w5.heap.size, 0, none⟩ = some (.int .i64 rp) := by go_simp
    have kb17_1_1 : w17.cell? ⟨w5.heap.size, 1, none⟩ = some (.int .i64 rq) := by go_simp
    have kb17_1_2 : w17.cell? ⟨w5.heap.size, 2, none⟩ = some (.slice a6 R.length c6) := by go_simp
    have kb17_2_0 : w17.cell? ⟨w6.heap.size, 0, none⟩ = some (.int .i64 p) := by go_simp
    have kb17_2_1 : w17.cell? ⟨w6.heap.size, 1, none⟩ = some (.int .i64 q) := by go_simp
    have kb17_2_2 : w17.cell? ⟨w6.heap.size, 2, none⟩ = some (.slice a8 L.length c8) := by go_simp
    have kb17_3_0 : w17.cell? ⟨w8.heap.size, 0, none⟩ = some (.int .i64 rp) := by go_simp
    have kb17_3_1 : w17.cell? ⟨w8.heap.size, 1, none⟩ = some (.int .i64 rq) := by go_simp
    have kb17_3_2 : w17.cell? ⟨w8.heap.size, 2, none⟩ = some (.slice a10 R.length c10) := by go_simp
    have HB17 := Lib.hid (HB16.out.trans (hN17.mono (by first | exact Nat.le_refl _ | omega)))
    have HR17_6 := Lib.hid (HR16_6.out.below hN17 (by first | exact Nat.le_refl _ | omega))
    have HR17_10 := Lib.hid (HR16_10.out.below hN17 (by first | exact Nat.le_refl _ | omega))
    clear hc17 hf17 hb17 hN17 hz17
    go_wp2_with fail
    refine (toDesk_any p q L _ _ ((H.out.below HB17.out).below (show Below w17.heap.size w17 _ by (repeat (first | exact Below.refl _ _ | refine Below.setCell ?_ (by first | omega | (simp <;> omega)) _ | refine Below.alloc ?_ (by first | omega | (simp <;> omega)) _ | refine Below.drew ?_ | refine Below.trans ?_ (Below.mono (by assumption) (by first | omega | (simp <;> omega))))))) hn).mono ?_
    rintro e w18 ⟨a13, c13, rfl, hI13, hb18⟩
    obtain ⟨hc18, hf18⟩ := bcell hb18
    have hz18 := hb18.size
    try simp at hz18
    have hN18 : Below w17.heap.size w17 w18 := by
      refine Below.trans ?_ (hb18.mono (by first | omega | (simp <;> omega)))
      (repeat (first | exact Below.refl _ _ | refine Below.setCell ?_ (by first | omega | (simp <;> omega)) _ | refine Below.alloc ?_ (by first | omega | (simp <;> omega)) _ | refine Below.drew ?_))
    have hn18 := hN18.size
    have hs18_0 : w.heap.size < w18.heap.size := by omega
    have hs18_1 : w5.heap.size < w18.heap.size := by omega
    have hs18_2 : w6.heap.size < w18.heap.size := by omega
    have hs18_3 : w8.heap.size < w18.heap.size := by omega
    have kb18_0_0 : w18.cell? ⟨w.heap.size, 0, none⟩ = some (.int .i64 p) := by go_simp
    have kb18_0_1 : w18.cell? ⟨w.heap.size, 1, none⟩ = some (.int .i64 q) := by go_simp
    have kb18_0_2 : w18.cell? ⟨w.heap.size, 2, none⟩ = some (.slice a L.length cap) := by go_simp
    have kb18_1_0 : w18.cell? ⟨w5.heap.size, 0, none⟩ = some (.int .i64 rp) := by go_simp
    have kb18_1_1 : w18.cell? ⟨w5.heap.size, 1, none⟩ = some (.int .i64 rq) := by go_simp
    have kb18_1_2 : w18.cell? ⟨w5.heap.size, 2, none⟩ = some (.slice a6 R.length c6) := by go_simp
    have kb18_2_0 : w18.cell? ⟨w6.heap.size, 0, none⟩ = some (.int .i64 p) := by go_simp
    have kb18_2_1 : w18.cell? ⟨w6.heap.size, 1, none⟩ = some (.int .i64 q) := by go_simp
    have kb18_2_2 : w18.cell? ⟨w6.heap.size, 2, none⟩ = some (.slice a8 L.length c8) := by go_simp
    have kb18_3_0 : w18.cell? ⟨w8.heap.size, 0, none⟩ = some (.int .i64 rp) := by go_simp
    have kb18_3_1 : w18.cell? ⟨w8.heap.size, 1, none⟩ = some (.int .i64 rq) := by go_simp
    have kb18_3_2 : w18.cell? ⟨w8.heap.size, 2, none⟩ = some (.slice a10 R.length c10) := by go_simp
    have HB18 := Lib.hid (HB17.out.trans (hN18.mono (by first | exact Nat.le_refl _ | omega)))
    have HR18_6 := Lib.hid (HR17_6.out.below hN18 (by first | exact Nat.le_refl _ | omega))
    have HR18_10 := Lib.hid (HR17_10.out.below hN18 (by first | exact Nat.le_refl _ | omega))
    try dsimp only at hI13
    try dsimp only
    clear hc18 hf18 hb18 hN18 hz18
    try simp only [World.size_alloc] at hI13
    have HR18_13 := Lib.hid (hI13)
    clear hI13
    go_wp2_with fail
    refine (toDeedS_any X _ _ ((HX.out.below HB18.out).below (show Below w18.heap.size w18 _ by (repeat (first | exact Below.refl _ _ | refine Below.setCell ?_ (by first | omega | (simp <;> omega)) _ | refine Below.alloc ?_ (by first | omega | (simp <;> omega)) _ | refine Below.drew ?_ | refine Below.trans ?_ (Below.mono (by assumption) (by first | omega | (simp <;> omega))))))) hm).mono ?_
    rintro e w19 ⟨ud14, rfl, hId14, hb19⟩
    obtain ⟨hc19, hf19⟩ := bcell hb19
    have hz19 := hb19.size
    try simp at hz19
    have hN19 : Below w18.heap.size w18 w19 := by
      refine Below.trans ?_ (hb19.mono (by first | omega | (simp <;> omega)))
      (repeat (first | exact Below.refl _ _ | refine Below.setCell ?_ (by first | omega | (simp <;> omega)) _ | refine Below.alloc ?_ (by first | omega | (simp <;> omega)) _ | refine Below.drew ?_))
    have hn19 := hN19.size
    have hs19_0 : w.heap.size < w19.heap.size := by omega
    have hs19_1 : w5.heap.size < w19.heap.size := by omega
    have hs19_2 : w6.heap.size < w19.heap.size := by omega
    have hs19_3 : w8.heap.size < w19.heap.size := by omega
    have kb19_0_0 : w19.cell? ⟨w.heap.size, 0, none⟩ = some (.int .i64 p) := by go_simp
    have kb19_0_1 : w19.cell? ⟨w.heap.size, 1, none⟩ = some (.int .i64 q) := by go_simp
    have kb19_0_2 : w19.cell? ⟨w.heap.size, 2, none⟩ = some (.slice a L.length cap) := by go_simp
    have kb19_1_0 : w19.cell? ⟨w5.heap.size, 0, none⟩ = some (.int .i64 rp) := by go_simp
    have kb19_1_1 : w19.cell? ⟨w5.heap.size, 1, none⟩ = some (.int .i64 rq) := by go_simp
    have kb19_1_2 : w19.cell? ⟨w5.heap.size, 2, none⟩ = some (.slice a6 R.length c6) := by go_simp
    have kb19_2_0 : w19.cell? ⟨w6.heap.size, 0, none⟩ = some (.int .i64 p) := by go_simp
    have kb19_2_1 : w19.cell? ⟨w6.heap.size, 1, none⟩ = some (.int .i64 q) := by go_simp
    have kb19_2_2 : w19.cell? ⟨w6.heap.size, 2, none⟩ = some (.slice a8 L.length c8) := by go_simp
    have kb19_3_0 : w19.cell? ⟨w8.heap.size, 0, none⟩ = some (.int .i64 rp) := by go_simp
    have kb19_3_1 : w19.cell? ⟨w8.heap.size, 1, none⟩ = some (.int .i64 rq) := by go_simp
    have kb19_3_2 : w19.cell? ⟨w8.heap.size, 2, none⟩ = some (.slice a10 R.length c10) := by go_simp
    have HB19 := Lib.hid (HB18.out.trans (hN19.mono (by first | exact Nat.le_refl _ | omega)))
    have HR19_6 := Lib.hid (HR18_6.out.below hN19 (by first | exact Nat.le_refl _ | omega))
    have HR19_10 := Lib.hid (HR18_10.out.below hN19 (by first | exact Nat.le_refl _ | omega))
    have HR19_13 := Lib.hid (HR18_13.out.below hN19 (by first | exact Nat.le_refl _ | omega))
    clear hc19 hf19 hb19 hN19 hz19
    try simp only [World.size_alloc] at hId14
    have HR19_d14 := Lib.hid (hId14)
    clear hId14
    go_wp2_with fail
    refine (HI.out _ _ _ _ _ _ _ _ (HR19_13.out.below (show Below w19.heap.size w19 _ by (repeat (first | exact Below.refl _ _ | refine Below.setCell ?_ (by first | omega | (simp <;> omega)) _ | refine Below.alloc ?_ (by first | omega | (simp <;> omega)) _ | refine Below.drew ?_ | refine Below.trans ?_ (Below.mono (by assumption) (by first | omega | (simp <;> omega)))))) (by first | exact Nat.le_refl _ | omega)) (HR19_d14.out.below (show Below w19.heap.size w19 _ by (repeat (first | exact Below.refl _ _ | refine Below.setCell ?_ (by first | omega | (simp <;> omega)) _ | refine Below.alloc ?_ (by first | omega | (simp <;> omega)) _ | refine Below.drew ?_ | refine Below.trans ?_ (Below.mono (by assumption) (by first | omega | (simp <;> omega)))))) (by first | exact Nat.le_refl _ | omega))).mono ?_
    rintro e w20 ⟨a15, c15, rfl, hI15, hb20⟩
    obtain ⟨hc20, hf20⟩ := bcell hb20
    have hz20 := hb20.size
    try simp at hz20
    have hN20 : Below w19.heap.size w19 w20 := by
      refine Below.trans ?_ (hb20.mono (by first | omega | (simp <;> omega)))
      (repeat (first | exact Below.refl _ _ | refine Below.setCell ?_ (by first | omega | (simp <;> omega)) _ | refine Below.alloc ?_ (by first | omega | (simp <;> omega)) _ | refine Below.drew ?_))
    have hn20 := hN20.size
    have hs20_0 : w.heap.size < w20.heap.size := by omega
    have hs20_1 : w5.heap.size < w20.heap.size := by omega
    have hs20_2 : w6.heap.size < w20.heap.size := by omega
    have hs20_3 : w8.heap.size < w20.heap.size := by omega
    have kb20_0_0 : w20.cell? ⟨w.heap.size, 0, none⟩ = some (.int .i64 p) := by go_simp
    have kb20_0_1 : w20.cell? ⟨w.heap.size, 1, none⟩ = some (.int .i64 q) := by go_simp
    have kb20_0_2 : w20.cell? ⟨w.heap.size, 2, none⟩ = some (.slice a L.length cap) := by go_simp
    have kb20_1_0 : w20.cell? ⟨w5.heap.size, 0, none⟩ = some (.int .i64 rp) := by go_simp
    have kb20_1_1 : w20.cell? ⟨w5.heap.size, 1, none⟩ = some (.int .i64 rq) := by go_simp
    have kb20_1_2 : w20.cell? ⟨w5.heap.size, 2, none⟩ = some (.slice a6 R.length c6) := by go_simp
    have kb20_2_0 : w20.cell? ⟨w6.heap.size, 0, none⟩ = some (.int .i64 p) := by go_simp
    have kb20_2_1 : w20.cell? ⟨w6.heap.size, 1, none⟩ = some (.int .i64 q) := by go_simp
    have kb20_2_2 : w20.cell? ⟨w6.heap.size, 2, none⟩ = some (.slice a8 L.length c8) := by go_simp
    have kb20_3_0 : w20.cell? ⟨w8.heap.size, 0, none⟩ = some (.int .i64 rp) := by go_simp
    have kb20_3_1 : w20.cell? ⟨w8.heap.size, 1, none⟩ = some (.int .i64 rq) := by go_simp
    have kb20_3_2 : w20.cell? ⟨w8.heap.size, 2, none⟩ = some (.slice a10 R.length c10) := by go_simp
    have HB20 := Lib.hid (HB19.out.trans (hN20.mono (by first | exact Nat.le_refl _ | omega)))
    have HR20_6 := Lib.hid (HR19_6.out.below hN20 (by first | exact Nat.le_refl _ | omega))
    have HR20_10 := Lib.hid (HR19_10.out.below hN20 (by first | exact Nat.le_refl _ | omega))
    have HR20_13 := Lib.hid (HR19_13.out.below hN20 (by first | exact Nat.le_refl _ | omega))
    have HR20_d14 := Lib.hid (HR19_d14.out.below hN20 (by first | exact Nat.le_refl _ | omega))
    clear hc20 hf20 hb20 hN20 hz20
    try simp only [World.size_alloc] at hI15
    have HR20_15 := Lib.hid (hI15)
    clear hI15
    go_wp2_with fail
    refine (eqDesk_same _ _ _ _ rp rq _ _ R _ (HR20_15.out.below (show Below w20.heap.size w20 _ by (repeat (first | exact Below.refl _ _ | refine Below.setCell ?_ (by first | omega | (simp <;> omega)) _ | refine Below.alloc ?_ (by first | omega | (simp <;> omega)) _ | refine Below.drew ?_ | refine Below.trans ?_ (Below.mono (by assumption) (by first | omega | (simp <;> omega)))))) (by first | exact Nat.le_refl _ | omega)) (HR20_6.out.below (show Below w20.heap.size w20 _ by (repeat (first | exact Below.refl _ _ | refine Below.setCell ?_ (by first | omega | (simp <;> omega)) _ | refine Below.alloc ?_ (by first | omega | (simp <;> omega)) _ | refine Below.drew ?_ | refine Below.trans ?_ (Below.mono (by assumption) (by first | omega | (simp <;> omega)))))) (by first | exact Nat.le_refl _ | omega)) hRn).mono ?_
    rintro e w21 ⟨rfl, hb21⟩
    obtain ⟨hc21, hf21⟩ := bcell hb21
    have hz21 := hb21.size
    try simp at hz21
    have hN21 : Below w20.heap.size w20 w21 := by
      refine Below.trans ?_ (hb21.mono (by first | omega | (simp <;> omega)))
      (repeat (first | exact Below.refl _ _ | refine Below.setCell ?_ (by first | omega | (simp <;> omega)) _ | refine Below.alloc ?_ (by first | omega | (simp <;> omega)) _ | refine Below.drew ?_))
    have hn21 := hN21.size
    have hs21_0 : w.heap.size < w21.heap.size := by omega
    have hs21_1 : w5.heap.size < w21.heap.size := by omega
    have hs21_2 : w6.heap.size < w21.heap.size := by omega
    have hs21_3 : w8.heap.size < w21.heap.size := by omega
    have hs21_4 : w20.heap.size < w21.heap.size := by omega
    have kb21_0_0 : w21.cell? ⟨w.heap.size, 0, none⟩ = some (.int .i64 p) := by go_simp
    have kb21_0_1 : w21.cell? ⟨w.heap.size, 1, none⟩ = some (.int .i64 q) := by go_simp
    have kb21_0_2 : w21.cell? ⟨w.heap.size, 2, none⟩ = some (.slice a L.length cap) := by go_simp
    have kb21_1_0 : w21.cell? ⟨w5.heap.size, 0, none⟩ = some (.int .i64 rp) := by go_simp
    have kb21_1_1 : w21.cell? ⟨w5.heap.size, 1, none⟩ = some (.int .i64 rq) := by go_simp
    have kb21_1_2 : w21.cell? ⟨w5.heap.size, 2, none⟩ = some (.slice a6 R.length c6) := by go_simp
    have kb21_2_0 : w21.cell? ⟨w6.heap.size, 0, none⟩ = some (.int .i64 p) := by go_simp
    have kb21_2_1 : w21.cell? ⟨w6.heap.size, 1, none⟩ = some (.int .i64 q) := by go_simp
    have kb21_2_2 : w21.cell? ⟨w6.heap.size, 2, none⟩ = some (.slice a8 L.length c8) := by go_simp
    have kb21_3_0 : w21.cell? ⟨w8.heap.size, 0, none⟩ = some (.int .i64 rp) := by go_simp
    have kb21_3_1 : w21.cell? ⟨w8.heap.size, 1, none⟩ = some (.int .i64 rq) := by go_simp
    have kb21_3_2 : w21.cell? ⟨w8.heap.size, 2, none⟩ = some (.slice a10 R.length c10) := by go_simp
    have kb21_4_0 : w21.cell? ⟨w20.heap.size, 0, none⟩ = some (.int .i64 rp) := by go_simp
    have kb21_4_1 : w21.cell? ⟨w20.heap.size, 1, none⟩ = some (.int .i64 rq) := by go_simp
    have kb21_4_2 : w21.cell? ⟨w20.heap.size, 2, none⟩ = some (.slice a15 R.length c15) := by go_simp
    have HB21 := Lib.hid (HB20.out.trans (hN21.mono (by first | exact Nat.le_refl _ | omega)))
    have HR21_6 := Lib.hid (HR20_6.out.below hN21 (by first | exact Nat.le_refl _ | omega))
    have HR21_10 := Lib.hid (HR20_10.out.below hN21 (by first | exact Nat.le_refl _ | omega))
    have HR21_15 := Lib.hid (HR20_15.out.below hN21 (by first | exact Nat.le_refl _ | omega))
    clear hc21 hf21 hb21 hN21 hz21
    go_wp2_with fail
    refine (heldDesk_any _ _ R.length rp rq _ 1 _ (HR21_10.out.below (show Below w21.heap.size w21 _ by (repeat (first | exact Below.refl _ _ | refine Below.setCell ?_ (by first | omega | (simp <;> omega)) _ | refine Below.alloc ?_ (by first | omega | (simp <;> omega)) _ | refine Below.drew ?_ | refine Below.trans ?_ (Below.mono (by assumption) (by first | omega | (simp <;> omega)))))) (by first | exact Nat.le_refl _ | omega)) hRn (by omega) (by omega)).mono ?_
    rintro e w22 ⟨rfl, hb22⟩
    obtain ⟨hc22, hf22⟩ := bcell hb22
    have hz22 := hb22.size
    try simp at hz22
    have hN22 : Below w21.heap.size w21 w22 := by
      refine Below.trans ?_ (hb22.mono (by first | omega | (simp <;> omega)))
      (repeat (first | exact Below.refl _ _ | refine Below.setCell ?_ (by first | omega | (simp <;> omega)) _ | refine Below.alloc ?_ (by first | omega | (simp <;> omega)) _ | refine Below.drew ?_))
    have hn22 := hN22.size
    have hs22_0 : w.heap.size < w22.heap.size := by omega
    have hs22_1 : w5.heap.size < w22.heap.size := by omega
    have hs22_2 : w6.heap.size < w22.heap.size := by omega
    have hs22_3 : w8.heap.size < w22.heap.size := by omega
    have hs22_4 : w20.heap.size < w22.heap.size := by omega
    have kb22_0_0 : w22.cell? ⟨w.heap.size, 0, none⟩ = some (.int .i64 p) := by go_simp
    have kb22_0_1 : w22.cell? ⟨w.heap.size, 1, none⟩ = some (.int .i64 q) := by go_simp
    have kb22_0_2 : w22.cell? ⟨w.heap.size, 2, none⟩ = some (.slice a L.length cap) := by go_simp
    have kb22_1_0 : w22.cell? ⟨w5.heap.size, 0, none⟩ = some (.int .i64 rp) := by go_simp
    have kb22_1_1 : w22.cell? ⟨w5.heap.size, 1, none⟩ = some (.int .i64 rq) := by go_simp
    have kb22_1_2 : w22.cell? ⟨w5.heap.size, 2, none⟩ = some (.slice a6 R.length c6) := by go_simp
    have kb22_2_0 : w22.cell? ⟨w6.heap.size, 0, none⟩ = some (.int .i64 p) := by go_simp
    have kb22_2_1 : w22.cell? ⟨w6.heap.size, 1, none⟩ = some (.int .i64 q) := by go_simp
    have kb22_2_2 : w22.cell? ⟨w6.heap.size, 2, none⟩ = some (.slice a8 L.length c8) := by go_simp
    have kb22_3_0 : w22.cell? ⟨w8.heap.size, 0, none⟩ = some (.int .i64 rp) := by go_simp
    have kb22_3_1 : w22.cell? ⟨w8.heap.size, 1, none⟩ = some (.int .i64 rq) := by go_simp
    have kb22_3_2 : w22.cell? ⟨w8.heap.size, 2, none⟩ = some (.slice a10 R.length c10) := by go_simp
    have kb22_4_0 : w22.cell? ⟨w20.heap.size, 0, none⟩ = some (.int .i64 rp) := by go_simp
    have kb22_4_1 : w22.cell? ⟨w20.heap.size, 1, none⟩ = some (.int .i64 rq) := by go_simp
    have kb22_4_2 : w22.cell? ⟨w20.heap.size, 2, none⟩ = some (.slice a15 R.length c15) := by go_simp
    have HB22 := Lib.hid (HB21.out.trans (hN22.mono (by first | exact Nat.le_refl _ | omega)))
    have HR22_6 := Lib.hid (HR21_6.out.below hN22 (by first | exact Nat.le_refl _ | omega))
    have HR22_10 := Lib.hid (HR21_10.out.below hN22 (by first | exact Nat.le_refl _ | omega))
    have HR22_15 := Lib.hid (HR21_15.out.below hN22 (by first | exact Nat.le_refl _ | omega))
    clear hc22 hf22 hb22 hN22 hz22
    go_wp2
    go_ret
    exact ⟨rfl, HB22.out⟩
end Go.Proofs.Ytigcomhhgfgmgaa
