/- Contracts and laws that the statement's proof stands on, one text behind the other. -/
import Derived.Test.YtodeifciedjfgaaAll1
import Derived.Test.YtodeifciedjfgaaHvRankDraws

namespace Go.Proofs.Ytodeifciedjfgaa
open Go.RowKit
/-- What a draw of a number returns. -/
def DrawnInt (w : World) (e : Ending) (w' : World) : Prop := ∃ a : Int, e = .returned (.int .i64 a) ∧ Below w.heap.size w w'
end Go.Proofs.Ytodeifciedjfgaa
namespace Go.Proofs.Ytodeifciedjfgaa
open Go.RowKit
/-- What a draw of two numbers returns, the first one from 0 to 19. -/
def DrawnCircle (w : World) (e : Ending) (w' : World) : Prop :=
  ∃ a b : Int, e = .returned (.tuple #[.int .i64 a, .int .i64 b]) ∧ (0 ≤ a ∧ a ≤ 19) ∧ Below w.heap.size w w'
set_option maxHeartbeats 2000000 in
theorem drawPlacesOf_any (w : World) (a : Option Addr) (len cap : Nat) (zs : List Int) (h : IsRow w a len cap zs) :
    Calls Try.prog 13 #[.slice a len cap] w (DrawnInt w) := by
  go_enter Try.func13, Try.ntmps13
  go_wp2_with fail
  refine (open_any _ _ _ _ zs h).mono ?_
  rintro e w1 ⟨rfl, hR1, hh1, hzR1⟩
  try simp only [World.size_alloc] at hzR1
  try simp only [World.size_alloc] at hR1
  obtain ⟨hc1, hf1⟩ := bcell hh1
  have hz1 := hh1.size
  try simp only [World.size_alloc] at hz1
  go_wp2_with fail
  refine (l20Number_any w.heap.size 0 _ hR1 (by omega)).mono ?_
  rintro e w2 ⟨v2, rfl, hR2, hh2⟩
  obtain ⟨hc2, hf2⟩ := gcell hh2
  have hz2 := hh2.size
  try simp only [World.size_alloc] at hz2
  clear hc2 hf2
  go_wp2
  go_ret
  exact ⟨_, rfl, by (repeat (first | exact Below.refl _ _ | refine Below.setCell ?_ (by first | omega | (simp <;> omega)) _ | refine Below.alloc ?_ (by first | omega | (simp <;> omega)) _ | refine Below.drew ?_ | refine Below.trans ?_ (Below.mono (by assumption) (by first | omega | (simp <;> omega))) | refine Below.grown ?_ (by assumption) (by first | omega | (simp <;> omega)) (fun k e => by cases e; first | omega | (simp <;> omega))))⟩
set_option maxHeartbeats 2000000 in
theorem drawWrittenOf_any (w : World) (a : Option Addr) (len cap : Nat) (zs : List Int) (h : IsRow w a len cap zs) :
    Calls Try.prog 19 #[.slice a len cap] w (DrawnInt w) := by
  go_enter Try.func19, Try.ntmps19
  go_wp2_with fail
  refine (open_any _ _ _ _ zs h).mono ?_
  rintro e w1 ⟨rfl, hR1, hh1, hzR1⟩
  try simp only [World.size_alloc] at hzR1
  try simp only [World.size_alloc] at hR1
  obtain ⟨hc1, hf1⟩ := bcell hh1
  have hz1 := hh1.size
  try simp only [World.size_alloc] at hz1
  go_wp2_with fail
  refine (l20Number_any w.heap.size 0 _ hR1 (by omega)).mono ?_
  rintro e w2 ⟨v2, rfl, hR2, hh2⟩
  obtain ⟨hc2, hf2⟩ := gcell hh2
  have hz2 := hh2.size
  try simp only [World.size_alloc] at hz2
  clear hc2 hf2
  go_wp2
  go_ret
  exact ⟨_, rfl, by (repeat (first | exact Below.refl _ _ | refine Below.setCell ?_ (by first | omega | (simp <;> omega)) _ | refine Below.alloc ?_ (by first | omega | (simp <;> omega)) _ | refine Below.drew ?_ | refine Below.trans ?_ (Below.mono (by assumption) (by first | omega | (simp <;> omega))) | refine Below.grown ?_ (by assumption) (by first | omega | (simp <;> omega)) (fun k e => by cases e; first | omega | (simp <;> omega))))⟩
set_option maxHeartbeats 2000000 in
theorem drawCircleOf_any (w : World) (a : Option Addr) (len cap : Nat) (zs : List Int) (h : IsRow w a len cap zs) :
    Calls Try.prog 26 #[.slice a len cap] w (DrawnCircle w) := by
  go_enter Try.func26, Try.ntmps26
  go_wp2_with fail
  refine (open_any _ _ _ _ zs h).mono ?_
  rintro e w1 ⟨rfl, hR1, hh1, hzR1⟩
  try simp only [World.size_alloc] at hzR1
  try simp only [World.size_alloc] at hR1
  obtain ⟨hc1, hf1⟩ := bcell hh1
  have hz1 := hh1.size
  try simp only [World.size_alloc] at hz1
  go_wp2_with fail
  refine (pick_any w.heap.size 0 20 _ hR1 (by omega) (by omega)).mono ?_
  rintro e w2 ⟨v2, rfl, va2, vb2, hR2, hh2⟩
  have vc2 : v2 ≤ max (20 - 1) 0 := by omega
  clear vb2
  obtain ⟨hc2, hf2⟩ := gcell hh2
  have hz2 := hh2.size
  try simp only [World.size_alloc] at hz2
  clear hc2 hf2
  go_wp2_with fail
  refine (pick_any w.heap.size (0 + 1) 101 _ hR2 (by omega) (by omega)).mono ?_
  rintro e w3 ⟨v3, rfl, va3, vb3, hR3, hh3⟩
  have vc3 : v3 ≤ max (101 - 1) 0 := by omega
  clear vb3
  obtain ⟨hc3, hf3⟩ := gcell hh3
  have hz3 := hh3.size
  try simp only [World.size_alloc] at hz3
  clear hc3 hf3
  go_wp2_with fail
  refine (pick_any w.heap.size (0 + 1 + 1) 20 _ hR3 (by omega) (by omega)).mono ?_
  rintro e w4 ⟨v4, rfl, va4, vb4, hR4, hh4⟩
  have vc4 : v4 ≤ max (20 - 1) 0 := by omega
  clear vb4
  obtain ⟨hc4, hf4⟩ := gcell hh4
  have hz4 := hh4.size
  try simp only [World.size_alloc] at hz4
  clear hc4 hf4
  go_wp2_with fail
  refine (pick_any w.heap.size (0 + 1 + 1 + 1) 20 _ hR4 (by omega) (by omega)).mono ?_
  rintro e w5 ⟨v5, rfl, va5, vb5, hR5, hh5⟩
  have vc5 : v5 ≤ max (20 - 1) 0 := by omega
  clear vb5
  obtain ⟨hc5, hf5⟩ := gcell hh5
  have hz5 := hh5.size
  try simp only [World.size_alloc] at hz5
  clear hc5 hf5
  have q4a : 0 ≤ v4 / 19 := by omega
  have q4b : v4 / 19 ≤ 1 := by omega
  have q5a : 0 ≤ v5 / 19 := by omega
  have q5b : v5 / 19 ≤ 1 := by omega
  go_wp2
  refine bodyPost_ret (v := .tuple #[.int .i64 v2, .int .i64 (v3 + v4 / 19 * 9 - v5 / 19 * 200)]) (by simp [results, Try.results26, go_sem]) rfl ⟨_, _, rfl, by omega, ?_⟩
  (repeat (first | exact Below.refl _ _ | refine Below.setCell ?_ (by first | omega | (simp <;> omega)) _ | refine Below.alloc ?_ (by first | omega | (simp <;> omega)) _ | refine Below.drew ?_ | refine Below.trans ?_ (Below.mono (by assumption) (by first | omega | (simp <;> omega))) | refine Below.grown ?_ (by assumption) (by first | omega | (simp <;> omega)) (fun k e => by cases e; first | omega | (simp <;> omega))))
set_option maxHeartbeats 2000000 in
theorem drawShiftedBy_any (w : World) (a : Option Addr) (len cap : Nat) (zs : List Int) (h : IsRow w a len cap zs) :
    Calls Try.prog 29 #[.slice a len cap] w (DrawnNums w) := by
  go_enter Try.func29, Try.ntmps29
  go_wp2_with fail
  refine (open_any _ _ _ _ zs h).mono ?_
  rintro e w1 ⟨rfl, hR1, hh1, hzR1⟩
  try simp only [World.size_alloc] at hzR1
  try simp only [World.size_alloc] at hR1
  obtain ⟨hc1, hf1⟩ := bcell hh1
  have hz1 := hh1.size
  try simp only [World.size_alloc] at hz1
  go_wp2_with fail
  refine (pick_any w.heap.size 0 250 _ hR1 (by omega) (by omega)).mono ?_
  rintro e w2 ⟨v2, rfl, va2, vb2, hR2, hh2⟩
  have vc2 : v2 ≤ max (250 - 1) 0 := by omega
  clear vb2
  obtain ⟨hc2, hf2⟩ := gcell hh2
  have hz2 := hh2.size
  try simp only [World.size_alloc] at hz2
  clear hc2 hf2
  go_wp2_with fail
  refine (pick_any w.heap.size (0 + 1) 4 _ hR2 (by omega) (by omega)).mono ?_
  rintro e w3 ⟨v3, rfl, va3, vb3, hR3, hh3⟩
  have vc3 : v3 ≤ max (4 - 1) 0 := by omega
  clear vb3
  obtain ⟨hc3, hf3⟩ := gcell hh3
  have hz3 := hh3.size
  try simp only [World.size_alloc] at hz3
  clear hc3 hf3
  go_wp2_with fail
  refine (pick_any w.heap.size (0 + 1 + 1) 20 _ hR3 (by omega) (by omega)).mono ?_
  rintro e w4 ⟨v4, rfl, va4, vb4, hR4, hh4⟩
  have vc4 : v4 ≤ max (20 - 1) 0 := by omega
  clear vb4
  obtain ⟨hc4, hf4⟩ := gcell hh4
  have hz4 := hh4.size
  try simp only [World.size_alloc] at hz4
  clear hc4 hf4
  go_wp2_with fail
  refine (pick_any w.heap.size (0 + 1 + 1 + 1) 5 _ hR4 (by omega) (by omega)).mono ?_
  rintro e w5 ⟨v5, rfl, va5, vb5, hR5, hh5⟩
  have vc5 : v5 ≤ max (5 - 1) 0 := by omega
  clear vb5
  obtain ⟨hc5, hf5⟩ := gcell hh5
  have hz5 := hh5.size
  try simp only [World.size_alloc] at hz5
  clear hc5 hf5
  have q4a : 0 ≤ v4 / 19 := by omega
  have q4b : v4 / 19 ≤ 1 := by omega
  go_wp2
  refine bodyPost_ret (v := .tuple #[.int .i64 (v2 * 4 + v3 + v4 / 19 * 500), .int .i64 v5]) (by simp [results, Try.results29, go_sem]) rfl ⟨_, _, rfl, ?_⟩
  (repeat (first | exact Below.refl _ _ | refine Below.setCell ?_ (by first | omega | (simp <;> omega)) _ | refine Below.alloc ?_ (by first | omega | (simp <;> omega)) _ | refine Below.drew ?_ | refine Below.trans ?_ (Below.mono (by assumption) (by first | omega | (simp <;> omega))) | refine Below.grown ?_ (by assumption) (by first | omega | (simp <;> omega)) (fun k e => by cases e; first | omega | (simp <;> omega))))
end Go.Proofs.Ytodeifciedjfgaa
namespace Go.Proofs.Ytodeifciedjfgaa
open Go.RowKit
theorem implWritten_is (n : Int) (v : ByteArray) (w : World) (hv : writtenV n = v) : Calls Try.prog 20 #[.int .i64 n] w fun e w' => e = .returned (.string v) ∧ Below w.heap.size w w' := by rw [← hv]; exact implWritten_any n w
theorem specWritten_is (n : Int) (v : ByteArray) (w : World) (hv : writtenV n = v) : Calls Try.prog 21 #[.int .i64 n] w fun e w' => e = .returned (.string v) ∧ Below w.heap.size w w' := by rw [← hv]; exact specWritten_any n w
theorem implRead_is (s : ByteArray) (v : Int) (c : Bool) (w : World) (hv : readV s = v) (hc : readB s = c) (hs : s.size ≤ 1048576) : Calls Try.prog 22 #[.string s] w fun e w' => e = .returned (.tuple #[.int .i64 v, .bool c]) ∧ Below w.heap.size w w' := by rw [← hv, ← hc]; exact implRead_any s w hs
theorem implCircle_is (a b v : Int) (c : Bool) (w : World) (hv : circV a b = v) (hc : circB a b = c) : Calls Try.prog 27 #[.int .i64 a, .int .i64 b] w fun e w' => e = .returned (.tuple #[.int .i64 v, .bool c]) ∧ Below w.heap.size w w' := by rw [← hv, ← hc]; exact implCircle_any a b w
theorem specCircle_is (a b v : Int) (c : Bool) (w : World) (hv : circV a b = v) (hc : circB a b = c) : Calls Try.prog 28 #[.int .i64 a, .int .i64 b] w fun e w' => e = .returned (.tuple #[.int .i64 v, .bool c]) ∧ Below w.heap.size w w' := by rw [← hv, ← hc]; exact specCircle_any a b w
theorem implShift_is (n d v : Int) (w : World) (hv : shiftV n d = v) : Calls Try.prog 25 #[.int .i64 n, .int .i64 d] w fun e w' => e = .returned (.int .i64 v) ∧ Below w.heap.size w w' := by rw [← hv]; exact implShift_any n d w
theorem specShift_is (n d v : Int) (w : World) (hv : shiftV n d = v) : Calls Try.prog 30 #[.int .i64 n, .int .i64 d] w fun e w' => e = .returned (.int .i64 v) ∧ Below w.heap.size w w' := by rw [← hv]; exact specShift_any n d w
theorem implPlaces_is (n : Int) (L : List Nat) (w : World) (hv : placesL n = L) : Calls Try.prog 14 #[.int .i64 n] w (ListOf L w) := by rw [← hv]; exact implPlaces_any n w
theorem specPlaces_is (n : Int) (L : List Nat) (w : World) (hv : placesL n = L) : Calls Try.prog 16 #[.int .i64 n] w (ListOf L w) := by rw [← hv]; exact specPlaces_any n w
end Go.Proofs.Ytodeifciedjfgaa
namespace Go.Proofs.Ytodeifciedjfgaa
open Go.RowKit
set_option maxRecDepth 100000 in
set_option maxHeartbeats 8000000 in
theorem fnPlacesOf_walk (a : Option Addr) (len cap : Nat) (z : List Int) (w : World) (w0 : IsRow w a len cap z) :
    Calls Try.prog 3 #[.slice a len cap] w fun e w' => e = .returned (.bool true) ∧ Below w.heap.size w w' := by
  by_cases hbig : 1048576 < len
  · go_enter Try.func3, Try.ntmps3
    go_wp2
    go_ret
    exact ⟨rfl, Below.refl _ _⟩
  · have hsm : len ≤ 1048576 := by omega
    go_enter Try.func3, Try.ntmps3
    go_wp2_with fail
    refine (drawPlacesOf_any _ _ _ _ z w0).mono ?_
    rintro e w1 ⟨n, rfl, hh1⟩
    have hz1 := hh1.size
    obtain ⟨hc1, hf1⟩ := bcell hh1
    by_cases hn : 1 ≤ n ∧ n ≤ 10000
    · obtain ⟨n1, n2⟩ := hn
      obtain ⟨m, rfl⟩ := Int.eq_ofNat_of_zero_le (show 0 ≤ n by omega)
      have m9 : m ≤ 10000 := by omega
      have hL := placesL_is m9
      have hlen := zeck_len m
      have hpos : 0 < (zeck m).length := List.length_pos_iff.2 (zeckFrom_some 20 m (by omega) (by omega))
      have hbd := zeck_bd m
      have hst := zeck_step m9
      have hsum : sumAt ((zeck m).take (zeck m).length) 0 = m := by rw [List.take_length]; exact zeck_sum m9
      have hnx := zeck_next m9 hpos
      have hsn := fun k (hk : k < (zeck m).length) => sumAt_next (L := zeck m) 0 hk
      have hs0 : sumAt ((zeck m).take 0) 0 = 0 := rfl
      obtain ⟨L, hLL⟩ : ∃ L, zeck m = L := ⟨_, rfl⟩
      rw [hLL] at hL hlen hpos hbd hst hsum hnx hsn hs0
      have HL := Lib.hid hL
      have HBD := Lib.hid hbd
      have HST := Lib.hid hst
      have HSUM := Lib.hid hsum
      have HNX := Lib.hid hnx
      have HSNX := Lib.hid hsn
      have HS0 := Lib.hid hs0
      have HP := Lib.hid (show pairB 1 (-1) = true by decide)
      have hl0 : ((L.length : Int) == 0) = false := by rw [beq_eq_false_iff_ne]; omega
      clear hL hbd hst hsum hnx hsn hs0 hLL
      go_wp2_with fail
      refine (implPlaces_is m L _ HL.out).mono ?_
      rintro e w2 ⟨u2, rfl, hI2, hh2⟩
      obtain ⟨hc2, hf2⟩ := bcell hh2
      have hz2 := hh2.size
      try simp only [World.size_alloc] at hz2
      clear hc2 hf2
      go_wp2_with fail
      refine (specPlaces_is m L _ HL.out).mono ?_
      rintro e w3 ⟨u3, rfl, hI3, hh3⟩
      obtain ⟨hc3, hf3⟩ := bcell hh3
      have hz3 := hh3.size
      try simp only [World.size_alloc] at hz3
      clear hc3 hf3
      go_wp2_with fail
      refine (sameInts_same _ _ _ _ _ _ _ _ _ (hI2.below hh3 (Nat.le_refl _)) hI3 (by omega)).mono ?_
      rintro e w4 ⟨rfl, hh4⟩
      have hz4 := hh4.size
      try simp only [World.size_alloc] at hz4
      have hI2' := hI2.below (show Below w2.heap.size w2 w4 by (repeat (first | exact Below.refl _ _ | refine Below.setCell ?_ (by first | omega | (simp <;> omega)) _ | refine Below.alloc ?_ (by first | omega | (simp <;> omega)) _ | refine Below.drew ?_ | refine Below.trans ?_ (Below.mono (by assumption) (by first | omega | (simp <;> omega))) | refine Below.grown ?_ (by assumption) (by first | omega | (simp <;> omega)) (fun k e => by cases e; first | omega | (simp <;> omega))))) (Nat.le_refl _)
      have hB4 : Below w.heap.size w w4 := by (repeat (first | exact Below.refl _ _ | refine Below.setCell ?_ (by first | omega | (simp <;> omega)) _ | refine Below.alloc ?_ (by first | omega | (simp <;> omega)) _ | refine Below.drew ?_ | refine Below.trans ?_ (Below.mono (by assumption) (by first | omega | (simp <;> omega))) | refine Below.grown ?_ (by assumption) (by first | omega | (simp <;> omega)) (fun k e => by cases e; first | omega | (simp <;> omega))))
      obtain ⟨a2, c2, rfl, hC2, hs2⟩ := hI2'
      rcases hs2 with hs2 | ⟨g2, o2, rfl, hg1, hg2, hcl, hfl⟩
      · omega
      have hz42 : w2.heap.size ≤ w4.heap.size := by omega
      have HCL := Lib.hid hcl
      clear hI2 hI3 hcl hfl
      go_wp2_with fail
      go_loopw [6, 7, 8, 9] (fun s y _ _ wr => ∃ k : Nat, k ≤ L.length ∧ y = .int .i64 k ∧ s = .int .i64 ((sumAt (L.take k) 0 : Nat) : Int) ∧ sumAt (L.take k) 0 ≤ 50000 * k ∧ wr.cell? ⟨w4.heap.size, 0, none⟩ = some (.int .i64 1) ∧ wr.cell? ⟨w4.heap.size, 1, none⟩ = some (.int .i64 (-1)) ∧ w4.heap.size < wr.heap.size ∧ Below w4.heap.size w4 wr) (fun _ y _ _ _ => 30 - (intOf y).toNat)
      case atStart => exact ⟨0, by omega, rfl, congrArg (Value.int .i64) (by rw [HS0.out]; rfl), by rw [HS0.out]; omega, by go_simp, by go_simp, (by first | (simp; done) | (simp; omega)), by (repeat (first | exact Below.refl _ _ | refine Below.setCell ?_ (by first | omega | (simp <;> omega)) _ | refine Below.alloc ?_ (by first | omega | (simp <;> omega)) _ | refine Below.drew ?_ | refine Below.trans ?_ (Below.mono (by assumption) (by first | omega | (simp <;> omega))) | refine Below.grown ?_ (by assumption) (by first | omega | (simp <;> omega)) (fun k e => by cases e; first | omega | (simp <;> omega))))⟩
      case round =>
        obtain ⟨k, hk, rfl, rfl, hsb, hkp, hkq, hsz, hB⟩ := hrel
        have kp := hkp
        have kq := hkq
        by_cases hlt : k < L.length
        · obtain ⟨b1, b2⟩ := HBD.out k hlt
          have hsn := HSNX.out k hlt
          have c1 : wr.cell? ⟨g2, o2 + k, none⟩ = some (.int .i64 ((L.getD k 0 : Nat) : Int)) := (hB.cell (p := ⟨g2, o2 + k, none⟩) (by show g2 < _; omega)).trans (HCL.out k hlt)
          have hst := fun i (hi : i + 1 = k) => HST.out i (by omega)
          obtain ⟨x, hx⟩ : ∃ x, L.getD k 0 = x := ⟨_, rfl⟩
          rw [hx] at b1 b2 hsn c1
          simp only [Nat.add_zero] at hsn
          have hfb := fibN_bd x (by omega)
          have HFR := Lib.hid (fibN_row x (by omega))
          obtain ⟨F, hF⟩ : ∃ F, fibN x = F := ⟨_, rfl⟩
          rw [hF] at hsn hfb HFR
          obtain ⟨s, hs⟩ : ∃ s, sumAt (L.take k) 0 = s := ⟨_, rfl⟩
          rw [hs] at hsn hsb ⊢
          have HSN := Lib.hid hsn
          have hki : (k : Int) < (L.length : Int) := by omega
          have k0 : (0 : Int) ≤ (k : Int) := by omega
          have hx2 : decide ((x : Int) < 2) = false := by simp; omega
          have hx20 : (x : Int) ≤ 20 := by omega
          have US : IntKind.i64.wrap ((s : Int) + (F : Int)) = ((s + F : Nat) : Int) := by rw [IntKind.wrap_i64]; omega
          clear hF hs hsn
          by_cases hk0 : k = 0
          · have hk0i : decide ((0 : Int) < (k : Int)) = false := by simp; omega
            have hk0n : decide (0 < k) = false := by simp; omega
            clear hx hst hk0
            obtain ⟨S, hSd⟩ : ∃ S : World → Prop, (fun V => Below wr.heap.size wr V) = S := ⟨_, rfl⟩
            have hkeep : ∀ V V' : World, S V → Below V.heap.size V V' → S V' := by rw [← hSd]; exact fun V V' h hb => h.trans (hb.mono h.size)
            have gk0 : ∀ iq : KeptBy S, iq.world.cell? ⟨w4.heap.size, 0, none⟩ = some (.int .i64 1) := by rw [← hSd]; exact fun iq => cell_below iq.ok kp
            have gk1 : ∀ iq : KeptBy S, iq.world.cell? ⟨w4.heap.size, 1, none⟩ = some (.int .i64 (-1)) := by rw [← hSd]; exact fun iq => cell_below iq.ok kq
            have gk2 : ∀ iq : KeptBy S, iq.world.cell? ⟨g2, o2 + k, none⟩ = some (.int .i64 (x : Int)) := by rw [← hSd]; exact fun iq => cell_below iq.ok c1
            have gkn : Nonempty (KeptBy S) := ⟨⟨wr.drew, by rw [← hSd]; exact (Below.refl _ _).drew⟩⟩
            go_wp2_with fail
            refine wp_region_kept (S := S) (by rw [← hSd]; exact (Below.refl _ _).drew) (by kernel_rfl) (by kernel_rfl) ?_
            repeat (go_big_quiet_step ((first | (go_at_call 18; refine (implFirst_at 1 (-1) x F _ _ rfl HP.out (by omega) HFR.out).mono ?_; rintro e w' ⟨rfl, hhw⟩; exact ⟨rfl, ⟨w', hkeep _ _ (KeptBy.ok _) hhw⟩, rfl⟩) | fail)))
            refine wpQuiet_nil ?_
            rintro za ⟨iz, hwz⟩
            have bza : Below wr.heap.size wr za := by
              have this : S za := by rw [hwz]; exact iz.ok
              rw [← hSd] at this
              exact this
            clear hwz iz gkn hkeep hSd gk0 gk1 gk2
            have d1 := cell_below bza c1
            obtain ⟨S, hSd⟩ : ∃ S : World → Prop, (fun V => Below za.heap.size za V) = S := ⟨_, rfl⟩
            have hkeep : ∀ V V' : World, S V → Below V.heap.size V V' → S V' := by rw [← hSd]; exact fun V V' h hb => h.trans (hb.mono h.size)
            have gk0 : ∀ iq : KeptBy S, iq.world.cell? ⟨g2, o2 + k, none⟩ = some (.int .i64 (x : Int)) := by rw [← hSd]; exact fun iq => cell_below iq.ok d1
            have gkn : Nonempty (KeptBy S) := ⟨⟨za.drew, by rw [← hSd]; exact (Below.refl _ _).drew⟩⟩
            go_wp2_with fail
            refine wp_region_kept (S := S) (by rw [← hSd]; exact (Below.refl _ _).drew) (by kernel_rfl) (by kernel_rfl) ?_
            repeat (go_big_quiet_step (fail))
            refine wpQuiet_nil ?_
            rintro zb ⟨iz, hwz⟩
            have bzb : Below za.heap.size za zb := by
              have this : S zb := by rw [hwz]; exact iz.ok
              rw [← hSd] at this
              exact this
            clear hwz iz gkn hkeep hSd gk0
            clear kp kq c1
            go_wp2
            go_roundw
            case rel => exact ⟨k + 1, by omega, congrArg (Value.int .i64) (by omega), by rw [HSN.out]; rfl, by rw [HSN.out]; omega, cell_below bzb (cell_below bza hkp), cell_below bzb (cell_below bza hkq), by have := bza.size; have := bzb.size; omega, (hB.trans (bza.mono hB.size)).trans (bzb.mono (Nat.le_trans hB.size bza.size))⟩
            case measure => simp [intOf]; omega
          · have hk0i : decide ((0 : Int) < (k : Int)) = true := by simp; omega
            have hk0n : decide (0 < k) = true := by simp; omega
            have hk0p : 0 < k := by omega
            clear hk0
            obtain ⟨i, hi⟩ : ∃ i, i + 1 = k := ⟨k - 1, by omega⟩
            have hil : i < L.length := by omega
            have hxy := hst i hi
            rw [hi, hx] at hxy
            have c2' : wr.cell? ⟨g2, o2 + i, none⟩ = some (.int .i64 ((L.getD i 0 : Nat) : Int)) := (hB.cell (p := ⟨g2, o2 + i, none⟩) (by show g2 < _; omega)).trans (HCL.out i (by omega))
            have by20 := (HBD.out i (by omega)).2
            obtain ⟨y, hy⟩ : ∃ y, L.getD i 0 = y := ⟨_, rfl⟩
            rw [hy] at hxy c2' by20
            have hle : decide ((y : Int) - 2 < (x : Int)) = false := by simp; omega
            have UI : IntKind.i64.wrap ((k : Int) - 1) = (i : Int) := by rw [IntKind.wrap_i64]; omega
            have i0 : (0 : Int) ≤ (i : Int) := by omega
            have il : (i : Int) < (L.length : Int) := by omega
            have UY : IntKind.i64.wrap ((y : Int) - 2) = (y : Int) - 2 := by rw [IntKind.wrap_i64]; omega
            clear hx hst hi hy
            obtain ⟨S, hSd⟩ : ∃ S : World → Prop, (fun V => Below wr.heap.size wr V) = S := ⟨_, rfl⟩
            have hkeep : ∀ V V' : World, S V → Below V.heap.size V V' → S V' := by rw [← hSd]; exact fun V V' h hb => h.trans (hb.mono h.size)
            have gk0 : ∀ iq : KeptBy S, iq.world.cell? ⟨w4.heap.size, 0, none⟩ = some (.int .i64 1) := by rw [← hSd]; exact fun iq => cell_below iq.ok kp
            have gk1 : ∀ iq : KeptBy S, iq.world.cell? ⟨w4.heap.size, 1, none⟩ = some (.int .i64 (-1)) := by rw [← hSd]; exact fun iq => cell_below iq.ok kq
            have gk2 : ∀ iq : KeptBy S, iq.world.cell? ⟨g2, o2 + k, none⟩ = some (.int .i64 (x : Int)) := by rw [← hSd]; exact fun iq => cell_below iq.ok c1
            have gkn : Nonempty (KeptBy S) := ⟨⟨wr.drew, by rw [← hSd]; exact (Below.refl _ _).drew⟩⟩
            go_wp2_with fail
            refine wp_region_kept (S := S) (by rw [← hSd]; exact (Below.refl _ _).drew) (by kernel_rfl) (by kernel_rfl) ?_
            repeat (go_big_quiet_step ((first | (go_at_call 18; refine (implFirst_at 1 (-1) x F _ _ rfl HP.out (by omega) HFR.out).mono ?_; rintro e w' ⟨rfl, hhw⟩; exact ⟨rfl, ⟨w', hkeep _ _ (KeptBy.ok _) hhw⟩, rfl⟩) | fail)))
            refine wpQuiet_nil ?_
            rintro za ⟨iz, hwz⟩
            have bza : Below wr.heap.size wr za := by
              have this : S za := by rw [hwz]; exact iz.ok
              rw [← hSd] at this
              exact this
            clear hwz iz gkn hkeep hSd gk0 gk1 gk2
            have d1 := cell_below bza c1
            have d2 := cell_below bza c2'
            obtain ⟨S, hSd⟩ : ∃ S : World → Prop, (fun V => Below za.heap.size za V) = S := ⟨_, rfl⟩
            have hkeep : ∀ V V' : World, S V → Below V.heap.size V V' → S V' := by rw [← hSd]; exact fun V V' h hb => h.trans (hb.mono h.size)
            have gk0 : ∀ iq : KeptBy S, iq.world.cell? ⟨g2, o2 + k, none⟩ = some (.int .i64 (x : Int)) := by rw [← hSd]; exact fun iq => cell_below iq.ok d1
            have gk1 : ∀ iq : KeptBy S, iq.world.cell? ⟨g2, o2 + i, none⟩ = some (.int .i64 (y : Int)) := by rw [← hSd]; exact fun iq => cell_below iq.ok d2
            have gkn : Nonempty (KeptBy S) := ⟨⟨za.drew, by rw [← hSd]; exact (Below.refl _ _).drew⟩⟩
            go_wp2_with fail
            refine wp_region_kept (S := S) (by rw [← hSd]; exact (Below.refl _ _).drew) (by kernel_rfl) (by kernel_rfl) ?_
            repeat (go_big_quiet_step (fail))
            refine wpQuiet_nil ?_
            rintro zb ⟨iz, hwz⟩
            have bzb : Below za.heap.size za zb := by
              have this : S zb := by rw [hwz]; exact iz.ok
              rw [← hSd] at this
              exact this
            clear hwz iz gkn hkeep hSd gk0 gk1
            clear kp kq c1
            go_wp2
            go_roundw
            case rel => exact ⟨k + 1, by omega, congrArg (Value.int .i64) (by omega), by rw [HSN.out]; rfl, by rw [HSN.out]; omega, cell_below bzb (cell_below bza hkp), cell_below bzb (cell_below bza hkq), by have := bza.size; have := bzb.size; omega, (hB.trans (bza.mono hB.size)).trans (bzb.mono (Nat.le_trans hB.size bza.size))⟩
            case measure => simp [intOf]; omega
        · obtain rfl : k = L.length := by omega
          rw [HSUM.out] at hsb ⊢
          obtain ⟨b1, b2⟩ := HBD.out 0 hpos
          have c0 : wr.cell? ⟨g2, o2, none⟩ = some (.int .i64 ((L.getD 0 0 : Nat) : Int)) := by
            have := (hB.cell (p := ⟨g2, o2 + 0, none⟩) (by show g2 < _; omega)).trans (HCL.out 0 hpos)
            simpa using this
          have hnx := HNX.out
          obtain ⟨x0, hx⟩ : ∃ x, L.getD 0 0 = x := ⟨_, rfl⟩
          rw [hx] at b1 b2 c0 hnx
          have U1 : IntKind.i64.wrap ((x0 : Int) + 1) = (x0 : Int) + 1 := by rw [IntKind.wrap_i64]; omega
          have hlp : (0 : Int) < (L.length : Int) := by omega
          clear hx
          by_cases h20 : x0 ≤ 19
          · have HFR := Lib.hid (fibN_row (x0 + 1) (by omega))
            obtain ⟨F, hF⟩ : ∃ F, fibN (x0 + 1) = F := ⟨_, rfl⟩
            rw [hF] at hnx HFR
            have hgt : (m : Int) < (F : Int) := by omega
            clear hF
            obtain ⟨S, hSd⟩ : ∃ S : World → Prop, (fun V => Below wr.heap.size wr V) = S := ⟨_, rfl⟩
            have hkeep : ∀ V V' : World, S V → Below V.heap.size V V' → S V' := by rw [← hSd]; exact fun V V' h hb => h.trans (hb.mono h.size)
            have gk0 : ∀ iq : KeptBy S, iq.world.cell? ⟨w4.heap.size, 0, none⟩ = some (.int .i64 1) := by rw [← hSd]; exact fun iq => cell_below iq.ok kp
            have gk1 : ∀ iq : KeptBy S, iq.world.cell? ⟨w4.heap.size, 1, none⟩ = some (.int .i64 (-1)) := by rw [← hSd]; exact fun iq => cell_below iq.ok kq
            have gk2 : ∀ iq : KeptBy S, iq.world.cell? ⟨g2, o2, none⟩ = some (.int .i64 (x0 : Int)) := by rw [← hSd]; exact fun iq => cell_below iq.ok c0
            have gkn : Nonempty (KeptBy S) := ⟨⟨wr.drew, by rw [← hSd]; exact (Below.refl _ _).drew⟩⟩
            go_wp2_with fail
            refine wp_region_kept (S := S) (by rw [← hSd]; exact (Below.refl _ _).drew) (by kernel_rfl) (by kernel_rfl) ?_
            repeat (go_big_quiet_step ((first | (go_at_call 18; refine (implFirst_at 1 (-1) (x0 + 1) F _ _ (by omega) HP.out (by omega) HFR.out).mono ?_; rintro e w' ⟨rfl, hhw⟩; exact ⟨rfl, ⟨w', hkeep _ _ (KeptBy.ok _) hhw⟩, rfl⟩) | fail)))
            refine wpQuiet_nil ?_
            rintro za ⟨iz, hwz⟩
            have bza : Below wr.heap.size wr za := by
              have this : S za := by rw [hwz]; exact iz.ok
              rw [← hSd] at this
              exact this
            clear hwz iz gkn hkeep hSd gk0 gk1 gk2
            go_wp2_with fail
            refine (alive_any _).mono ?_
            rintro e w9 ⟨rfl, hh9⟩
            go_wp2
            go_ret
            exact ⟨rfl, ((hB4.trans (hB.mono hB4.size)).trans (bza.mono (Nat.le_trans hB4.size hB.size))).trans (hh9.mono (Nat.le_trans hB4.size (Nat.le_trans hB.size bza.size)))⟩
          · have HNO := Lib.hid (show atB 1 (-1) ((x0 : Int) + 1) = false by simp [atB, placeB]; omega)
            clear hnx
            obtain ⟨S, hSd⟩ : ∃ S : World → Prop, (fun V => Below wr.heap.size wr V) = S := ⟨_, rfl⟩
            have hkeep : ∀ V V' : World, S V → Below V.heap.size V V' → S V' := by rw [← hSd]; exact fun V V' h hb => h.trans (hb.mono h.size)
            have gk0 : ∀ iq : KeptBy S, iq.world.cell? ⟨w4.heap.size, 0, none⟩ = some (.int .i64 1) := by rw [← hSd]; exact fun iq => cell_below iq.ok kp
            have gk1 : ∀ iq : KeptBy S, iq.world.cell? ⟨w4.heap.size, 1, none⟩ = some (.int .i64 (-1)) := by rw [← hSd]; exact fun iq => cell_below iq.ok kq
            have gk2 : ∀ iq : KeptBy S, iq.world.cell? ⟨g2, o2, none⟩ = some (.int .i64 (x0 : Int)) := by rw [← hSd]; exact fun iq => cell_below iq.ok c0
            have gkn : Nonempty (KeptBy S) := ⟨⟨wr.drew, by rw [← hSd]; exact (Below.refl _ _).drew⟩⟩
            go_wp2_with fail
            refine wp_region_kept (S := S) (by rw [← hSd]; exact (Below.refl _ _).drew) (by kernel_rfl) (by kernel_rfl) ?_
            repeat (go_big_quiet_step ((first | (go_at_call 18; refine (implFirst_no 1 (-1) _ _ HNO.out).mono ?_; rintro e w' ⟨rfl, hhw⟩; exact ⟨rfl, ⟨w', hkeep _ _ (KeptBy.ok _) hhw⟩, rfl⟩) | fail)))
            refine wpQuiet_nil ?_
            rintro za ⟨iz, hwz⟩
            have bza : Below wr.heap.size wr za := by
              have this : S za := by rw [hwz]; exact iz.ok
              rw [← hSd] at this
              exact this
            clear hwz iz gkn hkeep hSd gk0 gk1 gk2
            go_wp2_with fail
            refine (alive_any _).mono ?_
            rintro e w9 ⟨rfl, hh9⟩
            go_wp2
            go_ret
            exact ⟨rfl, ((hB4.trans (hB.mono hB4.size)).trans (bza.mono (Nat.le_trans hB4.size hB.size))).trans (hh9.mono (Nat.le_trans hB4.size (Nat.le_trans hB.size bza.size)))⟩
    · have hL : placesL n = [] := by
        rw [placesL]
        split
        · rw [show n.toNat = 0 by omega]; decide +kernel
        · rfl
      have HL := Lib.hid hL
      have hor : n < 1 ∨ (1 ≤ n ∧ 10000 < n) := by omega
      clear hn hL
      go_wp2_with fail
      refine (implPlaces_is n [] _ HL.out).mono ?_
      rintro e w2 ⟨u2, rfl, hI2, hh2⟩
      obtain ⟨hc2, hf2⟩ := bcell hh2
      have hz2 := hh2.size
      try simp only [World.size_alloc] at hz2
      clear hc2 hf2
      go_wp2_with fail
      refine (specPlaces_is n [] _ HL.out).mono ?_
      rintro e w3 ⟨u3, rfl, hI3, hh3⟩
      obtain ⟨hc3, hf3⟩ := bcell hh3
      have hz3 := hh3.size
      try simp only [World.size_alloc] at hz3
      clear hc3 hf3
      go_wp2_with fail
      refine (sameInts_same _ _ _ _ _ _ _ _ _ (hI2.below hh3 (Nat.le_refl _)) hI3 (by simp)).mono ?_
      rintro e w4 ⟨rfl, hh4⟩
      have hz4 := hh4.size
      try simp only [World.size_alloc] at hz4
      obtain ⟨a2, c2, rfl, _, _⟩ := hI2
      rcases hor with h | ⟨h, h'⟩
      · have hh := h
        go_wp2_with fail
        refine (alive_any _).mono ?_
        rintro e w5 ⟨rfl, hh5⟩
        obtain ⟨hc5, hf5⟩ := bcell hh5
        have hz5 := hh5.size
        try simp only [World.size_alloc] at hz5
        clear hc5 hf5
        go_wp2
        go_ret
        exact ⟨rfl, by (repeat (first | exact Below.refl _ _ | refine Below.setCell ?_ (by first | omega | (simp <;> omega)) _ | refine Below.alloc ?_ (by first | omega | (simp <;> omega)) _ | refine Below.drew ?_ | refine Below.trans ?_ (Below.mono (by assumption) (by first | omega | (simp <;> omega))) | refine Below.grown ?_ (by assumption) (by first | omega | (simp <;> omega)) (fun k e => by cases e; first | omega | (simp <;> omega))))⟩
      · have hh := h
        go_wp2_with fail
        refine (alive_any _).mono ?_
        rintro e w5 ⟨rfl, hh5⟩
        obtain ⟨hc5, hf5⟩ := bcell hh5
        have hz5 := hh5.size
        try simp only [World.size_alloc] at hz5
        clear hc5 hf5
        go_wp2
        go_ret
        exact ⟨rfl, by (repeat (first | exact Below.refl _ _ | refine Below.setCell ?_ (by first | omega | (simp <;> omega)) _ | refine Below.alloc ?_ (by first | omega | (simp <;> omega)) _ | refine Below.drew ?_ | refine Below.trans ?_ (Below.mono (by assumption) (by first | omega | (simp <;> omega))) | refine Below.grown ?_ (by assumption) (by first | omega | (simp <;> omega)) (fun k e => by cases e; first | omega | (simp <;> omega))))⟩
end Go.Proofs.Ytodeifciedjfgaa
namespace Go.Proofs.Ytodeifciedjfgaa
open Go.RowKit
theorem written_ones {n : Nat} (h9 : n ≤ 10000) (k : Nat) (hk : k + 1 < (writtenT n).size) (h1 : byteAt (writtenT n) (k + 1) = 49) : byteAt (writtenT n) k = 48 := by
  rcases Nat.eq_zero_or_pos n with h0 | h0
  · subst h0
    have : (writtenT 0).size = 1 := rfl
    omega
  · obtain ⟨a, b, _, _⟩ := zeck_head h9 h0
    rw [writtenT_pos h0] at hk h1 ⊢
    rw [wrT_size] at hk
    rw [wrT_byte _ _ hk] at h1
    rw [wrT_byte _ _ (by omega)]
    split at h1
    · rename_i hc
      rw [List.contains_iff_mem] at hc
      have hn := zeck_apart h9 hc
      rw [show (zeck n).getD 0 0 - (k + 1) + 1 = (zeck n).getD 0 0 - k by omega] at hn
      rw [if_neg (by rw [List.contains_iff_mem]; exact hn)]
    · omega
theorem written_first {n : Nat} (h9 : n ≤ 10000) : byteAt (writtenT n) 0 = (if 0 < n then 49 else 48) := by
  rcases Nat.eq_zero_or_pos n with h0 | h0
  · subst h0; rfl
  · obtain ⟨a, b, c, _⟩ := zeck_head h9 h0
    rw [writtenT_pos h0, wrT_byte _ _ (by omega), if_pos h0, Nat.sub_zero, if_pos (by rw [List.contains_iff_mem]; exact c)]
set_option maxRecDepth 100000 in
set_option maxHeartbeats 8000000 in
theorem fnWrittenOf_walk (a : Option Addr) (len cap : Nat) (z : List Int) (w : World) (w0 : IsRow w a len cap z) :
    Calls Try.prog 4 #[.slice a len cap] w fun e w' => e = .returned (.bool true) ∧ Below w.heap.size w w' := by
  by_cases hbig : 1048576 < len
  · go_enter Try.func4, Try.ntmps4
    go_wp2
    go_ret
    exact ⟨rfl, Below.refl _ _⟩
  · have hsm : len ≤ 1048576 := by omega
    go_enter Try.func4, Try.ntmps4
    go_wp2_with fail
    refine (drawWrittenOf_any _ _ _ _ z w0).mono ?_
    rintro e w1 ⟨n, rfl, hh1⟩
    have hz1 := hh1.size
    obtain ⟨hc1, hf1⟩ := bcell hh1
    cases hn : inB n 0 10000 with
    | false =>
      have HV := Lib.hid (writtenV_no hn)
      have hc : n < 0 ∨ 10000 < n := by
        rcases Int.lt_or_le n 0 with h | h
        · exact .inl h
        · rcases Int.lt_or_le 10000 n with h' | h'
          · exact .inr h'
          · rw [inB_mk h h'] at hn; cases hn
      clear hn
      rcases hc with hc | hc
      · have hc1 := hc
        go_wp2_with fail
        refine (implWritten_is n _ _ HV.out).mono ?_
        rintro e w2 ⟨rfl, hh2⟩
        obtain ⟨hc2, hf2⟩ := bcell hh2
        have hz2 := hh2.size
        try simp only [World.size_alloc] at hz2
        clear hc2 hf2
        go_wp2_with fail
        refine (specWritten_is n _ _ HV.out).mono ?_
        rintro e w3 ⟨rfl, hh3⟩
        obtain ⟨hc3, hf3⟩ := bcell hh3
        have hz3 := hh3.size
        try simp only [World.size_alloc] at hz3
        clear hc3 hf3
        go_wp2_with fail
        refine (alive_any _).mono ?_
        rintro e w4 ⟨rfl, hh4⟩
        obtain ⟨hc4, hf4⟩ := bcell hh4
        have hz4 := hh4.size
        try simp only [World.size_alloc] at hz4
        clear hc4 hf4
        go_wp2
        go_ret
        exact ⟨rfl, by (repeat (first | exact Below.refl _ _ | refine Below.setCell ?_ (by first | omega | (simp <;> omega)) _ | refine Below.alloc ?_ (by first | omega | (simp <;> omega)) _ | refine Below.drew ?_ | refine Below.trans ?_ (Below.mono (by assumption) (by first | omega | (simp <;> omega))) | refine Below.grown ?_ (by assumption) (by first | omega | (simp <;> omega)) (fun k e => by cases e; first | omega | (simp <;> omega))))⟩
      · have hc0 : 0 ≤ n := by omega
        go_wp2_with fail
        refine (implWritten_is n _ _ HV.out).mono ?_
        rintro e w2 ⟨rfl, hh2⟩
        obtain ⟨hc2, hf2⟩ := bcell hh2
        have hz2 := hh2.size
        try simp only [World.size_alloc] at hz2
        clear hc2 hf2
        go_wp2_with fail
        refine (specWritten_is n _ _ HV.out).mono ?_
        rintro e w3 ⟨rfl, hh3⟩
        obtain ⟨hc3, hf3⟩ := bcell hh3
        have hz3 := hh3.size
        try simp only [World.size_alloc] at hz3
        clear hc3 hf3
        go_wp2_with fail
        refine (alive_any _).mono ?_
        rintro e w4 ⟨rfl, hh4⟩
        obtain ⟨hc4, hf4⟩ := bcell hh4
        have hz4 := hh4.size
        try simp only [World.size_alloc] at hz4
        clear hc4 hf4
        go_wp2
        go_ret
        exact ⟨rfl, by (repeat (first | exact Below.refl _ _ | refine Below.setCell ?_ (by first | omega | (simp <;> omega)) _ | refine Below.alloc ?_ (by first | omega | (simp <;> omega)) _ | refine Below.drew ?_ | refine Below.trans ?_ (Below.mono (by assumption) (by first | omega | (simp <;> omega))) | refine Below.grown ?_ (by assumption) (by first | omega | (simp <;> omega)) (fun k e => by cases e; first | omega | (simp <;> omega))))⟩
    | true =>
      obtain ⟨n1, n2⟩ := inB_true hn
      obtain ⟨m, rfl⟩ := Int.eq_ofNat_of_zero_le n1
      have m9 : m ≤ 10000 := by omega
      obtain ⟨z1, z2⟩ := writtenT_size m9
      obtain ⟨hrb, hrv⟩ := read_written m9
      have hby := writtenT_byte m9
      have hon := written_ones m9
      have hfi := written_first m9
      have hV := writtenV_nat m9
      obtain ⟨t, ht⟩ : ∃ t, writtenT m = t := ⟨_, rfl⟩
      rw [ht] at z1 z2 hrb hrv hby hon hfi hV
      have HV := Lib.hid hV
      have HRB := Lib.hid hrb
      have HRV := Lib.hid hrv
      have HBY := Lib.hid hby
      have HON := Lib.hid hon
      have hte : (t.toList == t.toList) = true := by simp
      have hemp : t.toList.isEmpty = false := by
        rw [bl_toList, List.isEmpty_eq_false_iff]
        intro h
        have := bl_size t
        rw [h] at this
        simp at this
        omega
      have he0 := byteAt_is (s := t) (k := 0) (by omega)
      have hz1i : (1 : Int) ≤ (t.size : Int) := by omega
      clear hn hrb hrv hby hon hV ht
      go_wp2_with fail
      refine (implWritten_is m t _ HV.out).mono ?_
      rintro e w2 ⟨rfl, hh2⟩
      obtain ⟨hc2, hf2⟩ := bcell hh2
      have hz2 := hh2.size
      try simp only [World.size_alloc] at hz2
      clear hc2 hf2
      go_wp2_with fail
      refine (specWritten_is m t _ HV.out).mono ?_
      rintro e w3 ⟨rfl, hh3⟩
      obtain ⟨hc3, hf3⟩ := bcell hh3
      have hz3 := hh3.size
      try simp only [World.size_alloc] at hz3
      clear hc3 hf3
      have z1i : (1 : Int) ≤ (t.size : Int) := by omega
      have z0 : 0 < t.size := by omega
      have hf0 : m = 0 ∧ ((t[0]'z0).toNat : Int) = 48 ∨ 0 < m ∧ ((t[0]'z0).toNat : Int) = 49 := by
        rw [← he0, hfi]
        rcases Nat.eq_zero_or_pos m with h | h
        · left; exact ⟨h, by rw [if_neg (by omega)]; rfl⟩
        · right; exact ⟨h, by rw [if_pos h]; rfl⟩
      clear he0 hfi
      have HF0 := Lib.hid hf0
      clear hf0
      go_wp2_with fail
      go_loop [5] (fun x => ∃ k : Nat, 1 ≤ k ∧ k ≤ t.size ∧ x = .int .i64 k) (fun x => 30 - (intOf x).toNat)
      case atStart => exact ⟨1, by omega, by omega, rfl⟩
      case round =>
        obtain ⟨k, k1, k2, rfl⟩ := hrel
        by_cases hlt : k < t.size
        · have hki : (k : Int) < (t.size : Int) := by omega
          have k0 : (0 : Int) ≤ (k : Int) := by omega
          obtain ⟨i, hi⟩ : ∃ i, k = i + 1 := ⟨k - 1, by omega⟩
          have hil : i < t.size := by omega
          have i0 : (0 : Int) ≤ (i : Int) := by omega
          have iz : (i : Int) < (t.size : Int) := by omega
          have hbk := byteAt_is (s := t) hlt
          have hbi := byteAt_is (s := t) hil
          have U : IntKind.i64.wrap ((k : Int) - 1) = (i : Int) := by rw [IntKind.wrap_i64]; omega
          rcases HBY.out k hlt with h8 | h9
          · have hb : ((t[k]'hlt).toNat : Int) = 48 := by rw [← hbk, h8]; rfl
            clear hbk hbi h8 hi
            go_wp2
            go_round
            case rel => exact ⟨k + 1, by omega, by omega, congrArg (Value.int .i64) (by omega)⟩
            case measure => simp [intOf]; omega
          · have hb : ((t[k]'hlt).toNat : Int) = 49 := by rw [← hbk, h9]; rfl
            have hp : ((t[i]'hil).toNat : Int) = 48 := by rw [← hbi, HON.out i (by omega) (by rw [← hi]; exact h9)]; rfl
            clear hbk hbi h9 hi
            go_wp2
            go_round
            case rel => exact ⟨k + 1, by omega, by omega, congrArg (Value.int .i64) (by omega)⟩
            case measure => simp [intOf]; omega
        · have hki : (t.size : Int) ≤ (k : Int) := by omega
          go_wp2_with fail
          refine (implRead_is t m true _ HRV.out HRB.out (by omega)).mono ?_
          rintro e w4 ⟨rfl, hh4⟩
          obtain ⟨hc4, hf4⟩ := bcell hh4
          have hz4 := hh4.size
          try simp only [World.size_alloc] at hz4
          clear hc4 hf4
          rcases HF0.out with ⟨h0, hb⟩ | ⟨h0, hb⟩
          · have hmi : (m : Int) ≤ 0 := by omega
            go_wp2
            go_ret
            exact ⟨rfl, by (repeat (first | exact Below.refl _ _ | refine Below.setCell ?_ (by first | omega | (simp <;> omega)) _ | refine Below.alloc ?_ (by first | omega | (simp <;> omega)) _ | refine Below.drew ?_ | refine Below.trans ?_ (Below.mono (by assumption) (by first | omega | (simp <;> omega))) | refine Below.grown ?_ (by assumption) (by first | omega | (simp <;> omega)) (fun k e => by cases e; first | omega | (simp <;> omega))))⟩
          · have hmi : (0 : Int) < (m : Int) := by omega
            go_wp2
            go_ret
            exact ⟨rfl, by (repeat (first | exact Below.refl _ _ | refine Below.setCell ?_ (by first | omega | (simp <;> omega)) _ | refine Below.alloc ?_ (by first | omega | (simp <;> omega)) _ | refine Below.drew ?_ | refine Below.trans ?_ (Below.mono (by assumption) (by first | omega | (simp <;> omega))) | refine Below.grown ?_ (by assumption) (by first | omega | (simp <;> omega)) (fun k e => by cases e; first | omega | (simp <;> omega))))⟩
end Go.Proofs.Ytodeifciedjfgaa
namespace Go.Proofs.Ytodeifciedjfgaa
open Go.RowKit
theorem circ_comm {a b : Nat} (ha : a < 20) (hb : b ≤ 100) : circN a b = circN b a := by
  have := List.all_eq_true.1 (List.all_eq_true.1 chkComm a (by simpa using ha)) b (by simp; omega)
  simpa using this
theorem circ_assoc {a b c : Nat} (ha : a < 20) (hb : b ≤ 100) (hc : c < 20) (h1 : circN a b ≤ 100) (h2 : circN b c ≤ 100) : circN (circN a b) c = circN a (circN b c) := by
  have h := List.all_eq_true.1 chkAssoc_low a (by simpa using ha)
  rw [chkAssoc] at h
  have h3 := List.all_eq_true.1 h b (by simp; omega)
  simp only [Bool.or_eq_true, decide_eq_true_iff] at h3
  rcases h3 with h3 | h3
  · omega
  · have h4 := List.all_eq_true.1 h3 c (by simpa using hc)
    simp only [Bool.or_eq_true, decide_eq_true_iff, beq_iff_eq] at h4
    rcases h4 with h4 | h4
    · omega
    · exact h4
set_option maxRecDepth 100000 in
set_option maxHeartbeats 8000000 in
theorem fnCircleOf_walk (a : Option Addr) (len cap : Nat) (z : List Int) (a' : Option Addr) (len' cap' : Nat) (z' : List Int) (w : World) (w0 : IsRow w a len cap z) (w0' : IsRow w a' len' cap' z') :
    Calls Try.prog 6 #[.slice a len cap, .slice a' len' cap'] w fun e w' => e = .returned (.bool true) ∧ Below w.heap.size w w' := by
  by_cases hbig : 1048576 < len
  · go_enter Try.func6, Try.ntmps6
    go_wp2
    go_ret
    exact ⟨rfl, Below.refl _ _⟩
  · by_cases hbig2 : 1048576 < len'
    · have hsm : len ≤ 1048576 := by omega
      go_enter Try.func6, Try.ntmps6
      go_wp2
      go_ret
      exact ⟨rfl, Below.refl _ _⟩
    · have hsm : len ≤ 1048576 := by omega
      have hsm2 : len' ≤ 1048576 := by omega
      clear hbig hbig2
      go_enter Try.func6, Try.ntmps6
      go_wp2_with fail
      refine (drawCircleOf_any _ _ _ _ z w0).mono ?_
      rintro e w1 ⟨n, b, rfl, ⟨n0, n19⟩, hh1⟩
      have hz1 := hh1.size
      cases hb : circB n b with
      | false =>
        have HV := Lib.hid (circV_no hb)
        have HB := Lib.hid hb
        clear hb
        go_wp2_with fail
        refine (implCircle_is n b (-1) false _ HV.out HB.out).mono ?_
        rintro e w2 ⟨rfl, hh2⟩
        obtain ⟨hc2, hf2⟩ := bcell hh2
        have hz2 := hh2.size
        try simp only [World.size_alloc] at hz2
        clear hc2 hf2
        go_wp2_with fail
        refine (specCircle_is n b (-1) false _ HV.out HB.out).mono ?_
        rintro e w3 ⟨rfl, hh3⟩
        obtain ⟨hc3, hf3⟩ := bcell hh3
        have hz3 := hh3.size
        try simp only [World.size_alloc] at hz3
        clear hc3 hf3
        go_wp2_with fail
        refine (alive_any _).mono ?_
        rintro e w4 ⟨rfl, hh4⟩
        obtain ⟨hc4, hf4⟩ := bcell hh4
        have hz4 := hh4.size
        try simp only [World.size_alloc] at hz4
        clear hc4 hf4
        go_wp2
        go_ret
        exact ⟨rfl, by (repeat (first | exact Below.refl _ _ | refine Below.setCell ?_ (by first | omega | (simp <;> omega)) _ | refine Below.alloc ?_ (by first | omega | (simp <;> omega)) _ | refine Below.drew ?_ | refine Below.trans ?_ (Below.mono (by assumption) (by first | omega | (simp <;> omega))) | refine Below.grown ?_ (by assumption) (by first | omega | (simp <;> omega)) (fun k e => by cases e; first | omega | (simp <;> omega))))⟩
      | true =>
        obtain ⟨m, j, rfl, rfl, m9, j9⟩ := circB_true hb
        have hm20 : m < 20 := by omega
        have HV0 := circV_is hb
        have HB := Lib.hid hb
        have hbk : circV j m = (circN m j : Int) := by rw [circV_is (circB_mk j9 m9), circ_comm hm20 j9]
        have HBB := Lib.hid (circB_mk j9 m9)
        have ho : circV m 1 = (sumAt (zeck m) 2 : Int) := by rw [show ((1 : Int)) = ((1 : Nat) : Int) from rfl, circV_is (circB_mk m9 (by omega)), circ_one]
        have HOB := Lib.hid (show circB m 1 = true from circB_mk (a := m) (b := 1) m9 (by omega))
        have hs2 : shiftV m 2 = (sumAt (zeck m) 2 : Int) := shiftV_is (d := 2) (shiftB_mk (by omega) (by omega))
        have has := fun c (hc : c < 20) (h1 : circN m j ≤ 100) (h2 : circN j c ≤ 100) => circ_assoc hm20 j9 hc h1 h2
        obtain ⟨v, hv⟩ : ∃ v, circN m j = v := ⟨_, rfl⟩
        obtain ⟨o, hoo⟩ : ∃ o, sumAt (zeck m) 2 = o := ⟨_, rfl⟩
        rw [hv] at HV0 hbk has
        rw [hoo] at ho hs2
        have HV := Lib.hid HV0
        have HBK := Lib.hid hbk
        have HO := Lib.hid ho
        have HS2 := Lib.hid hs2
        have HAS := Lib.hid has
        clear hb HV0 hbk ho hs2 has hv hoo
        go_wp2_with fail
        refine (implCircle_is m j v true _ HV.out HB.out).mono ?_
        rintro e w2 ⟨rfl, hh2⟩
        obtain ⟨hc2, hf2⟩ := bcell hh2
        have hz2 := hh2.size
        try simp only [World.size_alloc] at hz2
        clear hc2 hf2
        go_wp2_with fail
        refine (specCircle_is m j v true _ HV.out HB.out).mono ?_
        rintro e w3 ⟨rfl, hh3⟩
        obtain ⟨hc3, hf3⟩ := bcell hh3
        have hz3 := hh3.size
        try simp only [World.size_alloc] at hz3
        clear hc3 hf3
        have hB3 : Below w.heap.size w w3 := by (repeat (first | exact Below.refl _ _ | refine Below.setCell ?_ (by first | omega | (simp <;> omega)) _ | refine Below.alloc ?_ (by first | omega | (simp <;> omega)) _ | refine Below.drew ?_ | refine Below.trans ?_ (Below.mono (by assumption) (by first | omega | (simp <;> omega))) | refine Below.grown ?_ (by assumption) (by first | omega | (simp <;> omega)) (fun k e => by cases e; first | omega | (simp <;> omega))))
        have w3r := w0'.below hB3
        go_wp2_with fail
        refine (drawCircleOf_any _ _ _ _ z' w3r).mono ?_
        rintro e w5 ⟨c', d', rfl, ⟨c0, c19⟩, hh5⟩
        obtain ⟨c, rfl⟩ := Int.eq_ofNat_of_zero_le c0
        have hB5 : Below w.heap.size w w5 := hB3.trans (hh5.mono hB3.size)
        have hz5 := hB5.size
        have hc20 : c < 20 := by omega
        clear hh5 w3r
        go_wp2_with fail
        refine (implCircle_is j m v true _ HBK.out HBB.out).mono ?_
        rintro e w6 ⟨rfl, hh6⟩
        obtain ⟨hc6, hf6⟩ := bcell hh6
        have hz6 := hh6.size
        try simp only [World.size_alloc] at hz6
        clear hc6 hf6
        go_wp2_with fail
        refine (implCircle_is m 1 o true _ HO.out HOB.out).mono ?_
        rintro e w7 ⟨rfl, hh7⟩
        obtain ⟨hc7, hf7⟩ := bcell hh7
        have hz7 := hh7.size
        try simp only [World.size_alloc] at hz7
        clear hc7 hf7
        have hub := circB_mk (a := j) (b := c) j9 (by omega)
        have hu := circV_is hub
        have hasc := HAS.out c hc20
        obtain ⟨u, huu⟩ : ∃ u, circN j c = u := ⟨_, rfl⟩
        rw [huu] at hu hasc
        have HU := Lib.hid hu
        have HUB := Lib.hid hub
        clear hub hu huu
        by_cases hv1 : v ≤ 100
        · have hpb := circB_mk (a := v) (b := c) hv1 (by omega)
          have hp := circV_is hpb
          by_cases hu1 : u ≤ 100
          · have hrb := circB_mk (a := m) (b := u) m9 hu1
            have hr := circV_is hrb
            have he := hasc hv1 hu1
            obtain ⟨lv, hlv⟩ : ∃ lv : Int, ((circN v c : Nat) : Int) = lv := ⟨_, rfl⟩
            rw [← he] at hr
            rw [hlv] at hp hr
            have HP := Lib.hid hp
            have HPB := Lib.hid hpb
            have HR := Lib.hid hr
            have HRB := Lib.hid hrb
            clear hp hpb hr hrb he hlv hasc
            go_wp2_with fail
            refine (implCircle_is v c lv true _ HP.out HPB.out).mono ?_
            rintro e w8 ⟨rfl, hh8⟩
            obtain ⟨hc8, hf8⟩ := bcell hh8
            have hz8 := hh8.size
            try simp only [World.size_alloc] at hz8
            clear hc8 hf8
            go_wp2_with fail
            refine (implCircle_is j c u true _ HU.out HUB.out).mono ?_
            rintro e w9 ⟨rfl, hh9⟩
            obtain ⟨hc9, hf9⟩ := bcell hh9
            have hz9 := hh9.size
            try simp only [World.size_alloc] at hz9
            clear hc9 hf9
            go_wp2_with fail
            refine (implCircle_is m u lv true _ HR.out HRB.out).mono ?_
            rintro e w10 ⟨rfl, hh10⟩
            obtain ⟨hc10, hf10⟩ := bcell hh10
            have hz10 := hh10.size
            try simp only [World.size_alloc] at hz10
            clear hc10 hf10
            go_wp2_with fail
            refine (implShift_is m 2 o _ HS2.out).mono ?_
            rintro e w11 ⟨rfl, hh11⟩
            obtain ⟨hc11, hf11⟩ := bcell hh11
            have hz11 := hh11.size
            try simp only [World.size_alloc] at hz11
            clear hc11 hf11
            go_wp2_with fail
            refine (alive_any _).mono ?_
            rintro e w12 ⟨rfl, hh12⟩
            obtain ⟨hc12, hf12⟩ := bcell hh12
            have hz12 := hh12.size
            try simp only [World.size_alloc] at hz12
            clear hc12 hf12
            go_wp2
            go_ret
            exact ⟨rfl, hB5.trans (show Below w.heap.size w5 w12 by (repeat (first | exact Below.refl _ _ | refine Below.setCell ?_ (by first | omega | (simp <;> omega)) _ | refine Below.alloc ?_ (by first | omega | (simp <;> omega)) _ | refine Below.drew ?_ | refine Below.trans ?_ (Below.mono (by assumption) (by first | omega | (simp <;> omega))) | refine Below.grown ?_ (by assumption) (by first | omega | (simp <;> omega)) (fun k e => by cases e; first | omega | (simp <;> omega)))))⟩
          · have hrb : circB m u = false := by rw [circB, inB_no (n := (u : Int)) (by omega)]; simp
            have HP := Lib.hid hp
            have HPB := Lib.hid hpb
            have HR := Lib.hid (circV_no hrb)
            have HRB := Lib.hid hrb
            clear hp hpb hrb hasc
            go_wp2_with fail
            refine (implCircle_is v c _ true _ HP.out HPB.out).mono ?_
            rintro e w8 ⟨rfl, hh8⟩
            obtain ⟨hc8, hf8⟩ := bcell hh8
            have hz8 := hh8.size
            try simp only [World.size_alloc] at hz8
            clear hc8 hf8
            go_wp2_with fail
            refine (implCircle_is j c u true _ HU.out HUB.out).mono ?_
            rintro e w9 ⟨rfl, hh9⟩
            obtain ⟨hc9, hf9⟩ := bcell hh9
            have hz9 := hh9.size
            try simp only [World.size_alloc] at hz9
            clear hc9 hf9
            go_wp2_with fail
            refine (implCircle_is m u (-1) false _ HR.out HRB.out).mono ?_
            rintro e w10 ⟨rfl, hh10⟩
            obtain ⟨hc10, hf10⟩ := bcell hh10
            have hz10 := hh10.size
            try simp only [World.size_alloc] at hz10
            clear hc10 hf10
            go_wp2_with fail
            refine (implShift_is m 2 o _ HS2.out).mono ?_
            rintro e w11 ⟨rfl, hh11⟩
            obtain ⟨hc11, hf11⟩ := bcell hh11
            have hz11 := hh11.size
            try simp only [World.size_alloc] at hz11
            clear hc11 hf11
            go_wp2_with fail
            refine (alive_any _).mono ?_
            rintro e w12 ⟨rfl, hh12⟩
            obtain ⟨hc12, hf12⟩ := bcell hh12
            have hz12 := hh12.size
            try simp only [World.size_alloc] at hz12
            clear hc12 hf12
            go_wp2
            go_ret
            exact ⟨rfl, hB5.trans (show Below w.heap.size w5 w12 by (repeat (first | exact Below.refl _ _ | refine Below.setCell ?_ (by first | omega | (simp <;> omega)) _ | refine Below.alloc ?_ (by first | omega | (simp <;> omega)) _ | refine Below.drew ?_ | refine Below.trans ?_ (Below.mono (by assumption) (by first | omega | (simp <;> omega))) | refine Below.grown ?_ (by assumption) (by first | omega | (simp <;> omega)) (fun k e => by cases e; first | omega | (simp <;> omega)))))⟩
        · have hpb : circB v c = false := by rw [circB, inB_no (n := (v : Int)) (by omega)]; simp
          have HP := Lib.hid (circV_no hpb)
          have HPB := Lib.hid hpb
          obtain ⟨rv, hr⟩ : ∃ rv, circV m u = rv := ⟨_, rfl⟩
          obtain ⟨rb, hrb⟩ : ∃ rb, circB m u = rb := ⟨_, rfl⟩
          have HR := Lib.hid hr
          have HRB := Lib.hid hrb
          clear hpb hr hrb hasc
          go_wp2_with fail
          refine (implCircle_is v c (-1) false _ HP.out HPB.out).mono ?_
          rintro e w8 ⟨rfl, hh8⟩
          obtain ⟨hc8, hf8⟩ := bcell hh8
          have hz8 := hh8.size
          try simp only [World.size_alloc] at hz8
          clear hc8 hf8
          go_wp2_with fail
          refine (implCircle_is j c u true _ HU.out HUB.out).mono ?_
          rintro e w9 ⟨rfl, hh9⟩
          obtain ⟨hc9, hf9⟩ := bcell hh9
          have hz9 := hh9.size
          try simp only [World.size_alloc] at hz9
          clear hc9 hf9
          go_wp2_with fail
          refine (implCircle_is m u rv rb _ HR.out HRB.out).mono ?_
          rintro e w10 ⟨rfl, hh10⟩
          obtain ⟨hc10, hf10⟩ := bcell hh10
          have hz10 := hh10.size
          try simp only [World.size_alloc] at hz10
          clear hc10 hf10
          go_wp2_with fail
          refine (implShift_is m 2 o _ HS2.out).mono ?_
          rintro e w11 ⟨rfl, hh11⟩
          obtain ⟨hc11, hf11⟩ := bcell hh11
          have hz11 := hh11.size
          try simp only [World.size_alloc] at hz11
          clear hc11 hf11
          go_wp2_with fail
          refine (alive_any _).mono ?_
          rintro e w12 ⟨rfl, hh12⟩
          obtain ⟨hc12, hf12⟩ := bcell hh12
          have hz12 := hh12.size
          try simp only [World.size_alloc] at hz12
          clear hc12 hf12
          go_wp2
          go_ret
          exact ⟨rfl, hB5.trans (show Below w.heap.size w5 w12 by (repeat (first | exact Below.refl _ _ | refine Below.setCell ?_ (by first | omega | (simp <;> omega)) _ | refine Below.alloc ?_ (by first | omega | (simp <;> omega)) _ | refine Below.drew ?_ | refine Below.trans ?_ (Below.mono (by assumption) (by first | omega | (simp <;> omega))) | refine Below.grown ?_ (by assumption) (by first | omega | (simp <;> omega)) (fun k e => by cases e; first | omega | (simp <;> omega)))))⟩
end Go.Proofs.Ytodeifciedjfgaa
namespace Go.Proofs.Ytodeifciedjfgaa
open Go.RowKit
/-- The first k shifted places, as cells; all of them. -/
def wantC (L : List Nat) (j k : Nat) : List Value := natCells ((L.take k).map (· + j))
def wantL (L : List Nat) (j : Nat) : List Nat := L.map (· + j)
set_option maxRecDepth 100000 in
set_option maxHeartbeats 8000000 in
theorem fnShiftedBy_walk (a : Option Addr) (len cap : Nat) (z : List Int) (w : World) (w0 : IsRow w a len cap z) :
    Calls Try.prog 7 #[.slice a len cap] w fun e w' => e = .returned (.bool true) ∧ Below w.heap.size w w' := by
  by_cases hbig : 1048576 < len
  · go_enter Try.func7, Try.ntmps7
    go_wp2
    go_ret
    exact ⟨rfl, Below.refl _ _⟩
  · have hsm : len ≤ 1048576 := by omega
    go_enter Try.func7, Try.ntmps7
    go_wp2_with fail
    refine (drawShiftedBy_any _ _ _ _ z w0).mono ?_
    rintro e w1 ⟨n, d, rfl, hh1⟩
    have hz1 := hh1.size
    obtain ⟨hc1, hf1⟩ := bcell hh1
    cases hb : shiftB n d with
    | false =>
      have HV := Lib.hid (shiftV_no hb)
      clear hb
      go_wp2_with fail
      refine (implShift_is n d (-1) _ HV.out).mono ?_
      rintro e w2 ⟨rfl, hh2⟩
      obtain ⟨hc2, hf2⟩ := bcell hh2
      have hz2 := hh2.size
      try simp only [World.size_alloc] at hz2
      clear hc2 hf2
      go_wp2_with fail
      refine (specShift_is n d (-1) _ HV.out).mono ?_
      rintro e w3 ⟨rfl, hh3⟩
      obtain ⟨hc3, hf3⟩ := bcell hh3
      have hz3 := hh3.size
      try simp only [World.size_alloc] at hz3
      clear hc3 hf3
      go_wp2_with fail
      refine (alive_any _).mono ?_
      rintro e w4 ⟨rfl, hh4⟩
      obtain ⟨hc4, hf4⟩ := bcell hh4
      have hz4 := hh4.size
      try simp only [World.size_alloc] at hz4
      clear hc4 hf4
      go_wp2
      go_ret
      exact ⟨rfl, by (repeat (first | exact Below.refl _ _ | refine Below.setCell ?_ (by first | omega | (simp <;> omega)) _ | refine Below.alloc ?_ (by first | omega | (simp <;> omega)) _ | refine Below.drew ?_ | refine Below.trans ?_ (Below.mono (by assumption) (by first | omega | (simp <;> omega))) | refine Below.grown ?_ (by assumption) (by first | omega | (simp <;> omega)) (fun k e => by cases e; first | omega | (simp <;> omega))))⟩
    | true =>
      obtain ⟨i0, hi0, hz0, hzs1, hzs2⟩ := info_parts info_int
      obtain ⟨m, j, rfl, rfl, m9, j3⟩ := shiftB_true hb
      have hV := shiftV_is hb
      have hL := placesL_is (n := m) (by omega)
      have hsv := fun d (hd : d ≤ 3) => shiftV_is (shiftB_mk (n := m) (d := d) m9 hd)
      have hb20 := zeck_bd m
      have hlen := zeck_len m
      have hmem : ∀ x ∈ zeck m, x ≤ 20 := fun x hx => (zeckFrom_le 20 m x hx).2.2
      have h2 : sumAt (zeck m) 2 = sumAt (zeck m) 1 + m := by rw [sumAt_two _ 0 (fun x hx => by have := hmem x hx; omega), zeck_sum (by omega)]
      have h3 : sumAt (zeck m) 3 = sumAt (zeck m) 2 + sumAt (zeck m) 1 := sumAt_two _ 1 (fun x hx => by have := hmem x hx; omega)
      obtain ⟨hs, hz⟩ := zeck_shift m9 j3
      have hpl : placesL ((sumAt (zeck m) j : Nat) : Int) = wantL (zeck m) j := by rw [placesL_is hs, hz]; rfl
      have hv1 := hsv 1 (by omega)
      have hv2 := hsv 2 (by omega)
      have hv3 := hsv 3 (by omega)
      have b1 := (zeck_shift m9 (show 1 ≤ 3 by omega)).1
      have b2 := (zeck_shift m9 (show 2 ≤ 3 by omega)).1
      have b3 := (zeck_shift m9 (show 3 ≤ 3 by omega)).1
      obtain ⟨L, hLL⟩ : ∃ L, zeck m = L := ⟨_, rfl⟩
      rw [hLL] at hV hL hb20 hlen h2 h3 hs hpl hv1 hv2 hv3 b1 b2 b3
      obtain ⟨v, hv⟩ : ∃ v, sumAt L j = v := ⟨_, rfl⟩
      obtain ⟨y1, hy1⟩ : ∃ v, sumAt L 1 = v := ⟨_, rfl⟩
      obtain ⟨y2, hy2⟩ : ∃ v, sumAt L 2 = v := ⟨_, rfl⟩
      obtain ⟨y3, hy3⟩ : ∃ v, sumAt L 3 = v := ⟨_, rfl⟩
      rw [hv] at hV hs hpl
      rw [hy1] at h2 h3 hv1 b1
      rw [hy2] at h2 h3 hv2 b2
      rw [hy3] at h3 hv3 b3
      have HV := Lib.hid hV
      have HL := Lib.hid hL
      have HV1 := Lib.hid hv1
      have HV2 := Lib.hid hv2
      have HV3 := Lib.hid hv3
      have HB := Lib.hid hb20
      have e2 : ((y2 : Int) == (y1 : Int) + (m : Int)) = true := by simp; omega
      have e3 : ((y3 : Int) == (y2 : Int) + (y1 : Int)) = true := by simp; omega
      have hvi : (0 : Int) ≤ (v : Int) := by omega
      have hwl : (wantL L j).length = L.length := by simp [wantL]
      have hwk : ∀ k, k < L.length → wantC L j k ++ [.int .i64 (((L.getD k 0 : Nat) : Int) + (j : Int))] = wantC L j (k + 1) := by
        intro k hk
        have e : L.getD k 0 = L[k] := by simp [hk]
        rw [wantC, wantC, List.take_succ_eq_append_getElem hk, e]
        simp only [natCells, List.map_append, List.map_cons, List.map_nil, Int.natCast_add]
      have hwa : wantC L j L.length = natCells (wantL L j) := by rw [wantC, List.take_length]; rfl
      have HWA := Lib.hid hwa
      clear hwa
      obtain ⟨WL, hWL⟩ : ∃ WL, wantL L j = WL := ⟨_, rfl⟩
      rw [hWL] at hpl hwl
      have HPL := Lib.hid hpl
      rw [hWL] at HWA
      clear hWL
      have HWL := Lib.hid hwl
      have HWK := Lib.hid hwk
      clear hb hV hL hsv hb20 hmem h2 h3 hz hpl hv1 hv2 hv3 hLL hv hy1 hy2 hy3 hwl hwk
      go_wp2_with fail
      refine (implShift_is m j v _ HV.out).mono ?_
      rintro e w2 ⟨rfl, hh2⟩
      obtain ⟨hc2, hf2⟩ := bcell hh2
      have hz2 := hh2.size
      try simp only [World.size_alloc] at hz2
      clear hc2 hf2
      go_wp2_with fail
      refine (specShift_is m j v _ HV.out).mono ?_
      rintro e w3 ⟨rfl, hh3⟩
      obtain ⟨hc3, hf3⟩ := bcell hh3
      have hz3 := hh3.size
      try simp only [World.size_alloc] at hz3
      clear hc3 hf3
      go_wp2_with fail
      refine (specPlaces_is m L _ HL.out).mono ?_
      rintro e w4 ⟨u4, rfl, hI4, hh4⟩
      obtain ⟨hc4, hf4⟩ := bcell hh4
      have hz4 := hh4.size
      try simp only [World.size_alloc] at hz4
      clear hc4 hf4
      have hB4 : Below w.heap.size w w4 := by (repeat (first | exact Below.refl _ _ | refine Below.setCell ?_ (by first | omega | (simp <;> omega)) _ | refine Below.alloc ?_ (by first | omega | (simp <;> omega)) _ | refine Below.drew ?_ | refine Below.trans ?_ (Below.mono (by assumption) (by first | omega | (simp <;> omega))) | refine Below.grown ?_ (by assumption) (by first | omega | (simp <;> omega)) (fun k e => by cases e; first | omega | (simp <;> omega))))
      have hI4' := hI4
      obtain ⟨a4, c4, rfl, hC4, hs4⟩ := hI4'
      clear hI4
      have hOw := own0 (base := w4.heap.size) (Nat.le_refl _) (heap_alloc_new w4 (.cells #[] 3 (0, 0)))
      have hwz : w.heap.size ≤ w4.heap.size := hB4.size
      go_wp2_with fail
      go_loopw [7, 8] (fun u x wr => ∃ k : Nat, k ≤ L.length ∧ x = .int .i64 k ∧ wr.ownsRow w4.heap.size 3 1 u k (wantC L j k) ∧ Below w4.heap.size w4 wr) (fun _ x _ => 30 - (intOf x).toNat)
      case atStart => exact ⟨0, by omega, rfl, hOw, by (repeat (first | exact Below.refl _ _ | refine Below.setCell ?_ (by first | omega | (simp <;> omega)) _ | refine Below.alloc ?_ (by first | omega | (simp <;> omega)) _ | refine Below.drew ?_ | refine Below.trans ?_ (Below.mono (by assumption) (by first | omega | (simp <;> omega))) | refine Below.grown ?_ (by assumption) (by first | omega | (simp <;> omega)) (fun k e => by cases e; first | omega | (simp <;> omega))))⟩
      case round =>
        obtain ⟨k, hk, rfl, hown, hB⟩ := hrel
        by_cases hlt : k < L.length
        · rcases hs4 with hs4 | ⟨g4, o4, rfl, hg5, hg6, hc4, hf4⟩
          · omega
          have hck : wr.cell? ⟨g4, o4 + k, none⟩ = some (.int .i64 ((L.getD k 0 : Nat) : Int)) := (hB.cell (p := ⟨g4, o4 + k, none⟩) (by show g4 < _; omega)).trans (hc4 k hlt)
          have hwn := HWK.out k hlt
          have hx20 := (HB.out k hlt).2
          obtain ⟨x, hx⟩ : ∃ x, L.getD k 0 = x := ⟨_, rfl⟩
          rw [hx] at hck hwn hx20
          have HWN := Lib.hid hwn
          have hki : (k : Int) < (L.length : Int) := by omega
          have k0 : (0 : Int) ≤ (k : Int) := by omega
          have U : IntKind.i64.wrap ((x : Int) + (j : Int)) = (x : Int) + (j : Int) := by rw [IntKind.wrap_i64]; omega
          have hlk := hown.lt
          have hsz := hB.size
          clear hx hwn hc4 hf4
          go_wp2_with (first | (at_builtin; refine wpList_append_own _ rfl _ _ 24 rfl w4.heap.size 3 i0 (.int .i64 0) 1 8 Try.underlying24 hi0 hz0 hzs1 hzs2 rfl (by decide) _ _ _ rfl (hown.alloc _) ⟨wr.heap.size, 0, none⟩ 1 1 [.int .i64 ((x : Int) + (j : Int))] rfl rfl (World.news_of_block (cs := #[.int .i64 ((x : Int) + (j : Int))]) (t := 3) (fr := (0, 0)) (heap_alloc_new wr _)) (by simp [Value.oneCell']) (by unfold maxLen; omega) (by omega) (by simp; omega) ?_))
          intro v' wz hown' hgrow' _
          rw [HWN.out] at hown'
          have hBz : Below w4.heap.size w4 wz := (hB.alloc hsz _).grown hgrow' (by simp; omega) (fun k e => by have := hlk _ e; omega)
          clear hown hgrow' hlk
          go_wp2
          go_roundw
          case rel => exact ⟨k + 1, by omega, congrArg (Value.int .i64) (by omega), hown', hBz⟩
          case measure => simp [intOf]; omega
        · obtain rfl : k = L.length := by omega
          rw [HWA.out] at hown
          have hr := hown
          rw [← HWL.out, natCells_range] at hr
          have hIw := IsInts.of_owns hr
          have HIW := Lib.hid hIw
          have hB0 : Below w.heap.size w wr := hB4.trans (hB.mono hwz)
          have hwz2 := hB0.size
          obtain ⟨aw, cw, hue, _, _⟩ := hIw
          subst hue
          clear hown hr hs4
          go_wp2_with fail
          refine (implShift_is m 2 y2 _ HV2.out).mono ?_
          rintro e w5 ⟨rfl, hh5⟩
          obtain ⟨hc5, hf5⟩ := bcell hh5
          have hz5 := hh5.size
          try simp only [World.size_alloc] at hz5
          clear hc5 hf5
          go_wp2_with fail
          refine (implShift_is m 1 y1 _ HV1.out).mono ?_
          rintro e w6 ⟨rfl, hh6⟩
          obtain ⟨hc6, hf6⟩ := bcell hh6
          have hz6 := hh6.size
          try simp only [World.size_alloc] at hz6
          clear hc6 hf6
          go_wp2_with fail
          refine (implShift_is m 3 y3 _ HV3.out).mono ?_
          rintro e w7 ⟨rfl, hh7⟩
          obtain ⟨hc7, hf7⟩ := bcell hh7
          have hz7 := hh7.size
          try simp only [World.size_alloc] at hz7
          clear hc7 hf7
          go_wp2_with fail
          refine (implShift_is m 2 y2 _ HV2.out).mono ?_
          rintro e w8 ⟨rfl, hh8⟩
          obtain ⟨hc8, hf8⟩ := bcell hh8
          have hz8 := hh8.size
          try simp only [World.size_alloc] at hz8
          clear hc8 hf8
          go_wp2_with fail
          refine (implShift_is m 1 y1 _ HV1.out).mono ?_
          rintro e w9 ⟨rfl, hh9⟩
          obtain ⟨hc9, hf9⟩ := bcell hh9
          have hz9 := hh9.size
          try simp only [World.size_alloc] at hz9
          clear hc9 hf9
          go_wp2_with fail
          refine (implPlaces_is v WL _ HPL.out).mono ?_
          rintro e w10 ⟨u10, rfl, hI10, hh10⟩
          obtain ⟨hc10, hf10⟩ := bcell hh10
          have hz10 := hh10.size
          try simp only [World.size_alloc] at hz10
          clear hc10 hf10
          have hIW2 := HIW.out.below (show Below wr.heap.size wr w10 by (repeat (first | exact Below.refl _ _ | refine Below.setCell ?_ (by first | omega | (simp <;> omega)) _ | refine Below.alloc ?_ (by first | omega | (simp <;> omega)) _ | refine Below.drew ?_ | refine Below.trans ?_ (Below.mono (by assumption) (by first | omega | (simp <;> omega))) | refine Below.grown ?_ (by assumption) (by first | omega | (simp <;> omega)) (fun k e => by cases e; first | omega | (simp <;> omega))))) (Nat.le_refl _)
          have HIW2 := Lib.hid hIW2
          clear hIW2
          go_wp2_with fail
          refine (sameInts_same _ _ _ _ _ _ _ _ _ hI10 HIW2.out (by rw [HWL.out]; omega)).mono ?_
          rintro e w11 ⟨rfl, hh11⟩
          have hz11 := hh11.size
          go_wp2_with fail
          refine (alive_any _).mono ?_
          rintro e w12 ⟨rfl, hh12⟩
          obtain ⟨hc12, hf12⟩ := bcell hh12
          have hz12 := hh12.size
          try simp only [World.size_alloc] at hz12
          clear hc12 hf12
          go_wp2
          go_ret
          exact ⟨rfl, hB0.trans (show Below w.heap.size wr w12 by (repeat (first | exact Below.refl _ _ | refine Below.setCell ?_ (by first | omega | (simp <;> omega)) _ | refine Below.alloc ?_ (by first | omega | (simp <;> omega)) _ | refine Below.drew ?_ | refine Below.trans ?_ (Below.mono (by assumption) (by first | omega | (simp <;> omega))) | refine Below.grown ?_ (by assumption) (by first | omega | (simp <;> omega)) (fun k e => by cases e; first | omega | (simp <;> omega)))))⟩
end Go.Proofs.Ytodeifciedjfgaa
