/- Contracts and laws that the statement's proof stands on, one text behind the other. -/
import Derived.Test.YtodeifciedjfgaaAll2
import Derived.Test.YtodeifciedjfgaaHvWritDrawT

namespace Go.Proofs.Ytodeifciedjfgaa
open Go.RowKit
theorem specRead_is (s : ByteArray) (v : Int) (c : Bool) (w : World) (hv : readV s = v) (hc : readB s = c) : Calls Try.prog 24 #[.string s] w fun e w' => e = .returned (.tuple #[.int .i64 v, .bool c]) ∧ Below w.heap.size w w' := by rw [← hv, ← hc]; exact specRead_any s w
set_option maxRecDepth 100000 in
set_option maxHeartbeats 8000000 in
theorem fnReadWritten_walk (a : Option Addr) (len cap : Nat) (z : List Int) (w : World) (w0 : IsRow w a len cap z) :
    Calls Try.prog 5 #[.slice a len cap] w fun e w' => e = .returned (.bool true) ∧ Below w.heap.size w w' := by
  by_cases hbig : 1048576 < len
  · go_enter Try.func5, Try.ntmps5
    go_wp2
    go_ret
    exact ⟨rfl, Below.refl _ _⟩
  · have hsm : len ≤ 1048576 := by omega
    go_enter Try.func5, Try.ntmps5
    go_wp2_with fail
    refine (drawReadWritten_any _ _ _ _ z w0).mono ?_
    rintro e w1 ⟨s, rfl, hsz, hh1⟩
    have hz1 := hh1.size
    obtain ⟨hc1, hf1⟩ := bcell hh1
    have hs1 : s.size ≤ 1048576 := by omega
    cases hb : readB s with
    | false =>
      have HV := Lib.hid (readV_no hb)
      have HB := Lib.hid hb
      clear hb
      go_wp2_with fail
      refine (implRead_is s (-1) false _ HV.out HB.out hs1).mono ?_
      rintro e w2 ⟨rfl, hh2⟩
      obtain ⟨hc2, hf2⟩ := bcell hh2
      have hz2 := hh2.size
      try simp only [World.size_alloc] at hz2
      clear hc2 hf2
      go_wp2_with fail
      refine (specRead_is s (-1) false _ HV.out HB.out).mono ?_
      rintro e w3 ⟨rfl, hh3⟩
      obtain ⟨hc3, hf3⟩ := bcell hh3
      have hz3 := hh3.size
      try simp only [World.size_alloc] at hz3
      clear hc3 hf3
      go_wp2_with fail
      refine (alive_any _).mono ?_
      rintro e w4 ⟨rfl, hh4⟩
      obtain ⟨hc4, hf4⟩ := bcell hh4
      have hz4 := hh4.size
      try simp only [World.size_alloc] at hz4
      clear hc4 hf4
      go_wp2
      go_ret
      exact ⟨rfl, by (repeat (first | exact Below.refl _ _ | refine Below.setCell ?_ (by first | omega | (simp <;> omega)) _ | refine Below.alloc ?_ (by first | omega | (simp <;> omega)) _ | refine Below.drew ?_ | refine Below.trans ?_ (Below.mono (by assumption) (by first | omega | (simp <;> omega))) | refine Below.grown ?_ (by assumption) (by first | omega | (simp <;> omega)) (fun k e => by cases e; first | omega | (simp <;> omega))))⟩
    | true =>
      obtain ⟨m, m9, hv, hs⟩ := read_is hb
      have hst : (s ++ ⟨#[48]⟩).size ≤ 1048576 := by rw [ByteArray.size_append]; have : (⟨#[48]⟩ : ByteArray).size = 1 := rfl; omega
      have hwv : writtenV m = s := by rw [writtenV_nat m9, ← hs]
      have hthird : 0 < m → m ≤ 1000 → ∃ G : Nat, readB (s ++ ⟨#[48]⟩) = true ∧ readV (s ++ ⟨#[48]⟩) = G ∧ shiftV m 1 = G := by
        intro h0 h1
        have hsh := zeck_shift h1 (show 1 ≤ 3 by omega)
        have hrw := read_written hsh.1
        rw [← written_longer h0 h1, ← hs] at hrw
        exact ⟨_, hrw.1, hrw.2, shiftV_is (n := m) (d := 1) (shiftB_mk h1 (by omega))⟩
      obtain ⟨x, hx⟩ : ∃ x, readV (s ++ ⟨#[48]⟩) = x := ⟨_, rfl⟩
      obtain ⟨y, hy⟩ : ∃ y, readB (s ++ ⟨#[48]⟩) = y := ⟨_, rfl⟩
      rw [hx, hy] at hthird
      have HV := Lib.hid hv
      have HB := Lib.hid hb
      have HX := Lib.hid hx
      have HY := Lib.hid hy
      have HT := Lib.hid hthird
      have HW := Lib.hid hwv
      have HS1 := Lib.hid hst
      have hte : (s.toList == s.toList) = true := by simp
      have hcat : s.size + 1 ≤ 9223372036854775807 := by omega
      clear hb hv hs hwv hthird hx hy hst
      go_wp2_with fail
      refine (implRead_is s m true _ HV.out HB.out hs1).mono ?_
      rintro e w2 ⟨rfl, hh2⟩
      obtain ⟨hc2, hf2⟩ := bcell hh2
      have hz2 := hh2.size
      try simp only [World.size_alloc] at hz2
      clear hc2 hf2
      go_wp2_with fail
      refine (specRead_is s m true _ HV.out HB.out).mono ?_
      rintro e w3 ⟨rfl, hh3⟩
      obtain ⟨hc3, hf3⟩ := bcell hh3
      have hz3 := hh3.size
      try simp only [World.size_alloc] at hz3
      clear hc3 hf3
      go_wp2_with fail
      refine (implRead_is _ x y _ HX.out HY.out HS1.out).mono ?_
      rintro e w4 ⟨rfl, hh4⟩
      obtain ⟨hc4, hf4⟩ := bcell hh4
      have hz4 := hh4.size
      try simp only [World.size_alloc] at hz4
      clear hc4 hf4
      go_wp2_with fail
      refine (implWritten_is m s _ HW.out).mono ?_
      rintro e w5 ⟨rfl, hh5⟩
      obtain ⟨hc5, hf5⟩ := bcell hh5
      have hz5 := hh5.size
      try simp only [World.size_alloc] at hz5
      clear hc5 hf5
      by_cases h0 : m = 0
      · have hm0 : ((m : Int) == 0) = true := by rw [h0]; rfl
        clear h0
        go_wp2
        go_ret
        exact ⟨rfl, by (repeat (first | exact Below.refl _ _ | refine Below.setCell ?_ (by first | omega | (simp <;> omega)) _ | refine Below.alloc ?_ (by first | omega | (simp <;> omega)) _ | refine Below.drew ?_ | refine Below.trans ?_ (Below.mono (by assumption) (by first | omega | (simp <;> omega))) | refine Below.grown ?_ (by assumption) (by first | omega | (simp <;> omega)) (fun k e => by cases e; first | omega | (simp <;> omega))))⟩
      · have hm0 : ((m : Int) == 0) = false := by rw [beq_eq_false_iff_ne]; omega
        by_cases h1 : 1000 < m
        · have hm1 : (1000 : Int) < (m : Int) := by omega
          clear h0 h1
          go_wp2
          go_ret
          exact ⟨rfl, by (repeat (first | exact Below.refl _ _ | refine Below.setCell ?_ (by first | omega | (simp <;> omega)) _ | refine Below.alloc ?_ (by first | omega | (simp <;> omega)) _ | refine Below.drew ?_ | refine Below.trans ?_ (Below.mono (by assumption) (by first | omega | (simp <;> omega))) | refine Below.grown ?_ (by assumption) (by first | omega | (simp <;> omega)) (fun k e => by cases e; first | omega | (simp <;> omega))))⟩
        · have hm1 : (m : Int) ≤ 1000 := by omega
          obtain ⟨G, rfl, rfl, hsh⟩ := HT.out (by omega) (by omega)
          have HSH := Lib.hid hsh
          clear h0 h1 hsh
          go_wp2_with fail
          refine (implShift_is m 1 G _ HSH.out).mono ?_
          rintro e w6 ⟨rfl, hh6⟩
          obtain ⟨hc6, hf6⟩ := bcell hh6
          have hz6 := hh6.size
          try simp only [World.size_alloc] at hz6
          clear hc6 hf6
          go_wp2
          go_ret
          exact ⟨rfl, by (repeat (first | exact Below.refl _ _ | refine Below.setCell ?_ (by first | omega | (simp <;> omega)) _ | refine Below.alloc ?_ (by first | omega | (simp <;> omega)) _ | refine Below.drew ?_ | refine Below.trans ?_ (Below.mono (by assumption) (by first | omega | (simp <;> omega))) | refine Below.grown ?_ (by assumption) (by first | omega | (simp <;> omega)) (fun k e => by cases e; first | omega | (simp <;> omega))))⟩
end Go.Proofs.Ytodeifciedjfgaa
