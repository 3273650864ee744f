/- The walk of the law on TurnedOf: turned pairs change every second sign. -/
import Derived.Test.YtngmkepoppoomaaLawsThree
import Derived.Deep.RegionHeld3
namespace Go.Proofs.Ytngmkepoppoomaa
open Go.RowKit
theorem implTurned_no (p q : Int) (w : World) (h : pairB p q = false) : Calls Try.prog 27 #[pr p q] w fun e w' => e = .returned (pr 0 0) ∧ Below w.heap.size w w' := by
  have := implTurned_any p q w; rw [turnP, if_neg (by simp [h]), turnQ, if_neg (by simp [h])] at this; exact this
theorem specTurned_no (p q : Int) (w : World) (h : pairB p q = false) : Calls Try.prog 29 #[pr p q] w fun e w' => e = .returned (pr 0 0) ∧ Below w.heap.size w w' := by
  have := specTurned_any p q w; rw [turnP, if_neg (by simp [h]), turnQ, if_neg (by simp [h])] at this; exact this
theorem specTurned_yes (p q : Int) (w : World) (h : pairB p q = true) : Calls Try.prog 29 #[pr p q] w fun e w' => e = .returned (pr (-p) q) ∧ Below w.heap.size w w' := by
  have := specTurned_any p q w; rw [turnP, if_pos h, turnQ, if_pos h] at this; exact this
theorem implTurned_back (p q : Int) (w : World) (h : pairB p q = true) : Calls Try.prog 27 #[pr (-p) q] w fun e w' => e = .returned (pr p q) ∧ Below w.heap.size w w' := by
  have := implTurned_yes (-p) q w (pairB_turn p q h); rw [Int.neg_neg] at this; exact this
set_option maxRecDepth 100000 in
set_option maxHeartbeats 4000000 in
theorem fnTurnedOf_walk (a : Option Addr) (len cap : Nat) (z : List Int) (w : World) (w0 : IsRow w a len cap z) :
    Calls Try.prog 7 #[.slice a len cap] w fun e w' => e = .returned (.bool true) ∧ Below w.heap.size w w' := by
  by_cases hbig : 1048576 < len
  · go_enter Try.func7, Try.ntmps7
    go_wp2
    go_ret
    exact ⟨rfl, Below.refl _ _⟩
  · have hsm : len ≤ 1048576 := by omega
    go_enter Try.func7, Try.ntmps7
    go_wp2_with fail
    refine (drawTurnedOf_any _ _ _ _ z w0).mono ?_
    rintro e w1 ⟨p, q, rfl, hp1, hp2, hq1, hq2, hh1⟩
    have hz1 := hh1.size
    obtain ⟨hc1, hf1⟩ := bcell hh1
    by_cases h : pairB p q = true
    · obtain ⟨⟨r1, r2⟩, r3, r4⟩ := pairB_true h
      have HP := Lib.hid h
      have HQ := Lib.hid (pairB_turn p q h)
      clear h
      go_wp2_with fail
      refine (implTurned_yes p q _ HP.out).mono ?_
      rintro e w2 ⟨rfl, hh2⟩
      obtain ⟨hc2, hf2⟩ := bcell hh2
      have hz2 := hh2.size
      try simp only [World.size_alloc] at hz2
      have hz2_0 : w1.heap.size < w2.heap.size := by omega
      have kb2_0_0 : w2.cell? ⟨w1.heap.size, 0, none⟩ = some (.int .i64 p) := by go_simp
      have kf2_0_0 : w2.frozen? ⟨w1.heap.size, 0, none⟩ = false := by go_simp
      have kb2_0_1 : w2.cell? ⟨w1.heap.size, 1, none⟩ = some (.int .i64 q) := by go_simp
      have kf2_0_1 : w2.frozen? ⟨w1.heap.size, 1, none⟩ = false := by go_simp
      clear hc2 hf2
      go_wp2_with fail
      go_region_held3 (fun w' => w'.cell? ⟨w1.heap.size, 0, none⟩ = some (.int .i64 p) ∧ w'.cell? ⟨w1.heap.size, 1, none⟩ = some (.int .i64 q) ∧ w'.cell? ⟨w2.heap.size, 0, none⟩ = some (.int .i64 (-p)) ∧ w'.cell? ⟨w2.heap.size, 1, none⟩ = some (.int .i64 q))
        (first | go_keep | (go_split_ands; exact ⟨kx0, kx1, kx2, kx3⟩))
        ((refine (specTurned_yes p q _ HP.out).mono ?_; rintro e w3 ⟨rfl, hh3⟩; have kx0 := (hh3.cell (p := ⟨w1.heap.size, 0, none⟩) (by first | omega | (simp <;> omega))); have kx1 := (hh3.cell (p := ⟨w1.heap.size, 1, none⟩) (by first | omega | (simp <;> omega))); have kx2 := (hh3.cell (p := ⟨w2.heap.size, 0, none⟩) (by first | omega | (simp <;> omega))); have kx3 := (hh3.cell (p := ⟨w2.heap.size, 1, none⟩) (by first | omega | (simp <;> omega)))))
      rename_i hHeld
      obtain ⟨kb3_0_0, kb3_0_1, kb3_1_0, kb3_1_1⟩ := hHeld
      have hz3 := hh3.size
      simp at hz3
      have hz3_0 : w1.heap.size < w3.heap.size := by omega
      have hz3_1 : w2.heap.size < w3.heap.size := by omega
      go_wp2_with fail
      refine (specPairOk_yes p q _ HP.out).mono ?_
      rintro e w4 ⟨rfl, hh4⟩
      obtain ⟨hc4, hf4⟩ := bcell hh4
      have hz4 := hh4.size
      try simp only [World.size_alloc] at hz4
      have hz4_0 : w1.heap.size < w4.heap.size := by omega
      have hz4_1 : w2.heap.size < w4.heap.size := by omega
      have kb4_0_0 : w4.cell? ⟨w1.heap.size, 0, none⟩ = some (.int .i64 p) := by go_simp
      have kb4_0_1 : w4.cell? ⟨w1.heap.size, 1, none⟩ = some (.int .i64 q) := by go_simp
      have kb4_1_0 : w4.cell? ⟨w2.heap.size, 0, none⟩ = some (.int .i64 (-p)) := by go_simp
      have kb4_1_1 : w4.cell? ⟨w2.heap.size, 1, none⟩ = some (.int .i64 q) := by go_simp
      clear hc4 hf4
      go_wp2_with fail
      go_loopw [5] (fun kv wr => ∃ k : Nat, k ≤ 10 ∧ kv = .int .i64 k ∧ wr.cell? ⟨w1.heap.size, 0, none⟩ = some (.int .i64 p) ∧ wr.cell? ⟨w1.heap.size, 1, none⟩ = some (.int .i64 q) ∧ wr.cell? ⟨w2.heap.size, 0, none⟩ = some (.int .i64 (-p)) ∧ wr.cell? ⟨w2.heap.size, 1, none⟩ = some (.int .i64 q) ∧ w1.heap.size < wr.heap.size ∧ w2.heap.size < wr.heap.size ∧ Below w.heap.size w wr) (fun kv _ => 10 - (intOf kv).toNat)
      case atStart => exact ⟨0, by omega, rfl, kb4_0_0, kb4_0_1, kb4_1_0, kb4_1_1, by omega, by omega, by (repeat (first | exact Below.refl _ _ | refine Below.setCell ?_ (by first | omega | (simp <;> omega)) _ | refine Below.alloc ?_ (by first | omega | (simp <;> omega)) _ | refine Below.drew ?_ | refine Below.trans ?_ (Below.mono (by assumption) (by first | omega | (simp <;> omega))) | refine Below.grown ?_ (by assumption) (by first | omega | (simp <;> omega)) (fun k e => by cases e; first | omega | (simp <;> omega))))⟩
      case round =>
        obtain ⟨k, hk, rfl, kb9_0_0, kb9_0_1, kb9_1_0, kb9_1_1, hz9_0, hz9_1, hB9⟩ := hrel
        by_cases hlt : k ≤ 9
        · rcases Nat.mod_two_eq_zero_or_one k with e | e
          · have e2 : (k : Int) % 2 = 0 := by omega
            obtain ⟨u1, u2⟩ := row_small (a := 0) (b := 1) r1 r2 r3 r4 (by omega) (by omega) (by omega) (by omega) k (by omega)
            obtain ⟨v1, v2⟩ := row_small (a := 2) (b := p) r1 r2 r3 r4 (by omega) (by omega) (by omega) (by omega) k (by omega)
            have G1 := Lib.hid (show row (-p) q 0 1 k = -row p q 0 1 k by rw [(row_turn p q k).1, sgn_mod, e2]; omega)
            have G2 := Lib.hid (show row (-p) q 2 (-p) k = row p q 2 p k by rw [(row_turn p q k).2, sgn_mod, e2]; omega)
            go_wp2_with fail
            refine (implFirst_at p q k _ _ _ rfl HP.out (by omega) rfl).mono ?_
            rintro e w10 ⟨rfl, hh10⟩
            obtain ⟨hc10, hf10⟩ := bcell hh10
            have hz10 := hh10.size
            try simp only [World.size_alloc] at hz10
            have hz10_0 : w1.heap.size < w10.heap.size := by omega
            have hz10_1 : w2.heap.size < w10.heap.size := by omega
            have kb10_0_0 : w10.cell? ⟨w1.heap.size, 0, none⟩ = some (.int .i64 p) := by go_simp
            have kb10_0_1 : w10.cell? ⟨w1.heap.size, 1, none⟩ = some (.int .i64 q) := by go_simp
            have kb10_1_0 : w10.cell? ⟨w2.heap.size, 0, none⟩ = some (.int .i64 (-p)) := by go_simp
            have kb10_1_1 : w10.cell? ⟨w2.heap.size, 1, none⟩ = some (.int .i64 q) := by go_simp
            clear hc10 hf10
            go_wp2_with fail
            refine (implFirst_at (-p) q k (-row p q 0 1 k) _ _ rfl HQ.out (by omega) G1.out).mono ?_
            rintro e w11 ⟨rfl, hh11⟩
            obtain ⟨hc11, hf11⟩ := bcell hh11
            have hz11 := hh11.size
            try simp only [World.size_alloc] at hz11
            have hz11_0 : w1.heap.size < w11.heap.size := by omega
            have hz11_1 : w2.heap.size < w11.heap.size := by omega
            have kb11_0_0 : w11.cell? ⟨w1.heap.size, 0, none⟩ = some (.int .i64 p) := by go_simp
            have kb11_0_1 : w11.cell? ⟨w1.heap.size, 1, none⟩ = some (.int .i64 q) := by go_simp
            have kb11_1_0 : w11.cell? ⟨w2.heap.size, 0, none⟩ = some (.int .i64 (-p)) := by go_simp
            have kb11_1_1 : w11.cell? ⟨w2.heap.size, 1, none⟩ = some (.int .i64 q) := by go_simp
            clear hc11 hf11
            go_wp2_with fail
            refine (implSecond_at p q k _ _ _ rfl HP.out (by omega) rfl).mono ?_
            rintro e w12 ⟨rfl, hh12⟩
            obtain ⟨hc12, hf12⟩ := bcell hh12
            have hz12 := hh12.size
            try simp only [World.size_alloc] at hz12
            have hz12_0 : w1.heap.size < w12.heap.size := by omega
            have hz12_1 : w2.heap.size < w12.heap.size := by omega
            have kb12_0_0 : w12.cell? ⟨w1.heap.size, 0, none⟩ = some (.int .i64 p) := by go_simp
            have kb12_0_1 : w12.cell? ⟨w1.heap.size, 1, none⟩ = some (.int .i64 q) := by go_simp
            have kb12_1_0 : w12.cell? ⟨w2.heap.size, 0, none⟩ = some (.int .i64 (-p)) := by go_simp
            have kb12_1_1 : w12.cell? ⟨w2.heap.size, 1, none⟩ = some (.int .i64 q) := by go_simp
            clear hc12 hf12
            go_wp2_with fail
            refine (implSecond_at (-p) q k (row p q 2 p k) _ _ rfl HQ.out (by omega) G2.out).mono ?_
            rintro e w13 ⟨rfl, hh13⟩
            obtain ⟨hc13, hf13⟩ := bcell hh13
            have hz13 := hh13.size
            try simp only [World.size_alloc] at hz13
            have hz13_0 : w1.heap.size < w13.heap.size := by omega
            have hz13_1 : w2.heap.size < w13.heap.size := by omega
            have kb13_0_0 : w13.cell? ⟨w1.heap.size, 0, none⟩ = some (.int .i64 p) := by go_simp
            have kb13_0_1 : w13.cell? ⟨w1.heap.size, 1, none⟩ = some (.int .i64 q) := by go_simp
            have kb13_1_0 : w13.cell? ⟨w2.heap.size, 0, none⟩ = some (.int .i64 (-p)) := by go_simp
            have kb13_1_1 : w13.cell? ⟨w2.heap.size, 1, none⟩ = some (.int .i64 q) := by go_simp
            clear hc13 hf13
            go_wp2
            go_roundw
            case rel => exact ⟨k + 1, by omega, congrArg (Value.int .i64) (by omega), kb13_0_0, kb13_0_1, kb13_1_0, kb13_1_1, by omega, by omega, by (repeat (first | exact Below.refl _ _ | refine Below.setCell ?_ (by first | omega | (simp <;> omega)) _ | refine Below.alloc ?_ (by first | omega | (simp <;> omega)) _ | refine Below.drew ?_ | refine Below.trans ?_ (Below.mono (by assumption) (by first | omega | (simp <;> omega))) | refine Below.grown ?_ (by assumption) (by first | omega | (simp <;> omega)) (fun k e => by cases e; first | omega | (simp <;> omega))))⟩
            case measure => simp [intOf]; omega
          · have e2 : (k : Int) % 2 = 1 := by omega
            obtain ⟨u1, u2⟩ := row_small (a := 0) (b := 1) r1 r2 r3 r4 (by omega) (by omega) (by omega) (by omega) k (by omega)
            obtain ⟨v1, v2⟩ := row_small (a := 2) (b := p) r1 r2 r3 r4 (by omega) (by omega) (by omega) (by omega) k (by omega)
            have G1 := Lib.hid (show row (-p) q 0 1 k = row p q 0 1 k by rw [(row_turn p q k).1, sgn_mod, e2]; omega)
            have G2 := Lib.hid (show row (-p) q 2 (-p) k = -row p q 2 p k by rw [(row_turn p q k).2, sgn_mod, e2]; omega)
            go_wp2_with fail
            refine (implFirst_at p q k _ _ _ rfl HP.out (by omega) rfl).mono ?_
            rintro e w10 ⟨rfl, hh10⟩
            obtain ⟨hc10, hf10⟩ := bcell hh10
            have hz10 := hh10.size
            try simp only [World.size_alloc] at hz10
            have hz10_0 : w1.heap.size < w10.heap.size := by omega
            have hz10_1 : w2.heap.size < w10.heap.size := by omega
            have kb10_0_0 : w10.cell? ⟨w1.heap.size, 0, none⟩ = some (.int .i64 p) := by go_simp
            have kb10_0_1 : w10.cell? ⟨w1.heap.size, 1, none⟩ = some (.int .i64 q) := by go_simp
            have kb10_1_0 : w10.cell? ⟨w2.heap.size, 0, none⟩ = some (.int .i64 (-p)) := by go_simp
            have kb10_1_1 : w10.cell? ⟨w2.heap.size, 1, none⟩ = some (.int .i64 q) := by go_simp
            clear hc10 hf10
            go_wp2_with fail
            refine (implFirst_at (-p) q k (row p q 0 1 k) _ _ rfl HQ.out (by omega) G1.out).mono ?_
            rintro e w11 ⟨rfl, hh11⟩
            obtain ⟨hc11, hf11⟩ := bcell hh11
            have hz11 := hh11.size
            try simp only [World.size_alloc] at hz11
            have hz11_0 : w1.heap.size < w11.heap.size := by omega
            have hz11_1 : w2.heap.size < w11.heap.size := by omega
            have kb11_0_0 : w11.cell? ⟨w1.heap.size, 0, none⟩ = some (.int .i64 p) := by go_simp
            have kb11_0_1 : w11.cell? ⟨w1.heap.size, 1, none⟩ = some (.int .i64 q) := by go_simp
            have kb11_1_0 : w11.cell? ⟨w2.heap.size, 0, none⟩ = some (.int .i64 (-p)) := by go_simp
            have kb11_1_1 : w11.cell? ⟨w2.heap.size, 1, none⟩ = some (.int .i64 q) := by go_simp
            clear hc11 hf11
            go_wp2_with fail
            refine (implSecond_at p q k _ _ _ rfl HP.out (by omega) rfl).mono ?_
            rintro e w12 ⟨rfl, hh12⟩
            obtain ⟨hc12, hf12⟩ := bcell hh12
            have hz12 := hh12.size
            try simp only [World.size_alloc] at hz12
            have hz12_0 : w1.heap.size < w12.heap.size := by omega
            have hz12_1 : w2.heap.size < w12.heap.size := by omega
            have kb12_0_0 : w12.cell? ⟨w1.heap.size, 0, none⟩ = some (.int .i64 p) := by go_simp
            have kb12_0_1 : w12.cell? ⟨w1.heap.size, 1, none⟩ = some (.int .i64 q) := by go_simp
            have kb12_1_0 : w12.cell? ⟨w2.heap.size, 0, none⟩ = some (.int .i64 (-p)) := by go_simp
            have kb12_1_1 : w12.cell? ⟨w2.heap.size, 1, none⟩ = some (.int .i64 q) := by go_simp
            clear hc12 hf12
            go_wp2_with fail
            refine (implSecond_at (-p) q k (-row p q 2 p k) _ _ rfl HQ.out (by omega) G2.out).mono ?_
            rintro e w13 ⟨rfl, hh13⟩
            obtain ⟨hc13, hf13⟩ := bcell hh13
            have hz13 := hh13.size
            try simp only [World.size_alloc] at hz13
            have hz13_0 : w1.heap.size < w13.heap.size := by omega
            have hz13_1 : w2.heap.size < w13.heap.size := by omega
            have kb13_0_0 : w13.cell? ⟨w1.heap.size, 0, none⟩ = some (.int .i64 p) := by go_simp
            have kb13_0_1 : w13.cell? ⟨w1.heap.size, 1, none⟩ = some (.int .i64 q) := by go_simp
            have kb13_1_0 : w13.cell? ⟨w2.heap.size, 0, none⟩ = some (.int .i64 (-p)) := by go_simp
            have kb13_1_1 : w13.cell? ⟨w2.heap.size, 1, none⟩ = some (.int .i64 q) := by go_simp
            clear hc13 hf13
            go_wp2
            go_roundw
            case rel => exact ⟨k + 1, by omega, congrArg (Value.int .i64) (by omega), kb13_0_0, kb13_0_1, kb13_1_0, kb13_1_1, by omega, by omega, by (repeat (first | exact Below.refl _ _ | refine Below.setCell ?_ (by first | omega | (simp <;> omega)) _ | refine Below.alloc ?_ (by first | omega | (simp <;> omega)) _ | refine Below.drew ?_ | refine Below.trans ?_ (Below.mono (by assumption) (by first | omega | (simp <;> omega))) | refine Below.grown ?_ (by assumption) (by first | omega | (simp <;> omega)) (fun k e => by cases e; first | omega | (simp <;> omega))))⟩
            case measure => simp [intOf]; omega
        · go_wp2_with fail
          go_region_held3 (fun w' => w'.cell? ⟨w1.heap.size, 0, none⟩ = some (.int .i64 p) ∧ w'.cell? ⟨w1.heap.size, 1, none⟩ = some (.int .i64 q) ∧ w'.cell? ⟨w2.heap.size, 0, none⟩ = some (.int .i64 (-p)) ∧ w'.cell? ⟨w2.heap.size, 1, none⟩ = some (.int .i64 q))
            (first | go_keep | (go_split_ands; exact ⟨kx0, kx1, kx2, kx3⟩))
            ((refine (implTurned_back p q _ HP.out).mono ?_; rintro e w20 ⟨rfl, hh20⟩; have kx0 := (hh20.cell (p := ⟨w1.heap.size, 0, none⟩) (by first | omega | (simp <;> omega))); have kx1 := (hh20.cell (p := ⟨w1.heap.size, 1, none⟩) (by first | omega | (simp <;> omega))); have kx2 := (hh20.cell (p := ⟨w2.heap.size, 0, none⟩) (by first | omega | (simp <;> omega))); have kx3 := (hh20.cell (p := ⟨w2.heap.size, 1, none⟩) (by first | omega | (simp <;> omega)))))
          go_wp2
          go_ret
          exact ⟨rfl, by (repeat (first | exact Below.refl _ _ | refine Below.setCell ?_ (by first | omega | (simp <;> omega)) _ | refine Below.alloc ?_ (by first | omega | (simp <;> omega)) _ | refine Below.drew ?_ | refine Below.trans ?_ (Below.mono (by assumption) (by first | omega | (simp <;> omega))) | refine Below.grown ?_ (by assumption) (by first | omega | (simp <;> omega)) (fun k e => by cases e; first | omega | (simp <;> omega))))⟩
    · have H := Lib.hid (show pairB p q = false by simpa using h)
      clear h
      go_wp2_with fail
      refine (implTurned_no p q _ H.out).mono ?_
      rintro e w2 ⟨rfl, hh2⟩
      obtain ⟨hc2, hf2⟩ := bcell hh2
      have hz2 := hh2.size
      try simp only [World.size_alloc] at hz2
      have hz2_0 : w1.heap.size < w2.heap.size := by omega
      have kb2_0_0 : w2.cell? ⟨w1.heap.size, 0, none⟩ = some (.int .i64 p) := by go_simp
      have kf2_0_0 : w2.frozen? ⟨w1.heap.size, 0, none⟩ = false := by go_simp
      have kb2_0_1 : w2.cell? ⟨w1.heap.size, 1, none⟩ = some (.int .i64 q) := by go_simp
      have kf2_0_1 : w2.frozen? ⟨w1.heap.size, 1, none⟩ = false := by go_simp
      clear hc2 hf2
      go_wp2_with fail
      go_region_held3 (fun w' => w'.cell? ⟨w1.heap.size, 0, none⟩ = some (.int .i64 p) ∧ w'.cell? ⟨w1.heap.size, 1, none⟩ = some (.int .i64 q) ∧ w'.cell? ⟨w2.heap.size, 0, none⟩ = some (.int .i64 0) ∧ w'.cell? ⟨w2.heap.size, 1, none⟩ = some (.int .i64 0))
        (first | go_keep | (go_split_ands; exact ⟨kx0, kx1, kx2, kx3⟩))
        ((refine (specTurned_no p q _ H.out).mono ?_; rintro e w3 ⟨rfl, hh3⟩; have kx0 := (hh3.cell (p := ⟨w1.heap.size, 0, none⟩) (by first | omega | (simp <;> omega))); have kx1 := (hh3.cell (p := ⟨w1.heap.size, 1, none⟩) (by first | omega | (simp <;> omega))); have kx2 := (hh3.cell (p := ⟨w2.heap.size, 0, none⟩) (by first | omega | (simp <;> omega))); have kx3 := (hh3.cell (p := ⟨w2.heap.size, 1, none⟩) (by first | omega | (simp <;> omega)))))
      rename_i hHeld
      obtain ⟨kb3_0_0, kb3_0_1, kb3_1_0, kb3_1_1⟩ := hHeld
      have hz3 := hh3.size
      simp at hz3
      have hz3_0 : w1.heap.size < w3.heap.size := by omega
      have hz3_1 : w2.heap.size < w3.heap.size := by omega
      go_wp2_with fail
      refine (specPairOk_no p q _ H.out).mono ?_
      rintro e w4 ⟨rfl, hh4⟩
      obtain ⟨hc4, hf4⟩ := bcell hh4
      have hz4 := hh4.size
      try simp only [World.size_alloc] at hz4
      have hz4_0 : w1.heap.size < w4.heap.size := by omega
      have hz4_1 : w2.heap.size < w4.heap.size := by omega
      have kb4_0_0 : w4.cell? ⟨w1.heap.size, 0, none⟩ = some (.int .i64 p) := by go_simp
      have kb4_0_1 : w4.cell? ⟨w1.heap.size, 1, none⟩ = some (.int .i64 q) := by go_simp
      have kb4_1_0 : w4.cell? ⟨w2.heap.size, 0, none⟩ = some (.int .i64 0) := by go_simp
      have kb4_1_1 : w4.cell? ⟨w2.heap.size, 1, none⟩ = some (.int .i64 0) := by go_simp
      clear hc4 hf4
      go_wp2_with fail
      refine (alive_any _).mono ?_
      rintro e w5 ⟨rfl, hh5⟩
      obtain ⟨hc5, hf5⟩ := bcell hh5
      have hz5 := hh5.size
      try simp only [World.size_alloc] at hz5
      clear hc5 hf5
      go_wp2
      go_ret
      exact ⟨rfl, by (repeat (first | exact Below.refl _ _ | refine Below.setCell ?_ (by first | omega | (simp <;> omega)) _ | refine Below.alloc ?_ (by first | omega | (simp <;> omega)) _ | refine Below.drew ?_ | refine Below.trans ?_ (Below.mono (by assumption) (by first | omega | (simp <;> omega))) | refine Below.grown ?_ (by assumption) (by first | omega | (simp <;> omega)) (fun k e => by cases e; first | omega | (simp <;> omega))))⟩
end Go.Proofs.Ytngmkepoppoomaa
