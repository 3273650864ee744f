/- The walk of the law on RowLeft: what is left goes on. -/
import Derived.Test.YtgcpmgddlaeccaaLeftLaws
namespace Go.Proofs.Ytgcpmgddlaeccaa
open Go.RowKit
set_option maxRecDepth 100000 in
set_option maxHeartbeats 8000000 in
theorem fnRowLeft_walk (a : Option Addr) (len cap : Nat) (z : List Int) (w : World) (w0 : IsRow w a len cap z) :
    Calls Try.prog 6 #[.slice a len cap] w fun e w' => e = .returned (.bool true) ∧ Below w.heap.size w w' := by
  by_cases hbig : 1048576 < len
  · go_enter Try.func6, Try.ntmps6
    go_wp2
    go_ret
    exact ⟨rfl, Below.refl _ _⟩
  · have hsm : len ≤ 1048576 := by omega
    go_enter Try.func6, Try.ntmps6
    go_wp2_with fail
    refine (drawRowLeft_any _ _ _ _ z w0).mono ?_
    rintro e w1 ⟨p, q, n, m, rfl, hh1⟩
    have hz1 := hh1.size
    obtain ⟨hc1, hf1⟩ := bcell hh1
    by_cases h : rowLeftB p q n m = true
    · obtain ⟨hp, ⟨k, rfl, hk⟩, m1, m2⟩ := rowLeftB_true h
      have HNn := Lib.hid (rowLeftN_is p q m (k : Int) k rfl hp hk m1 m2)
      obtain ⟨⟨r1, r2⟩, r3, r4⟩ := pairB_true hp
      have HP := Lib.hid hp
      have hz : (m == 0) = false := by simp; omega
      have hz0 : ¬ m = 0 := by omega
      clear h hp
      go_wp2_with fail
      refine (implRowLeft_any p q _ m _).mono ?_
      rintro e w2 ⟨u2, rfl, hI2, hh2⟩
      obtain ⟨hc2, hf2⟩ := bcell hh2
      have hz2 := hh2.size
      try simp only [World.size_alloc] at hz2
      have hz2_0 : w1.heap.size < w2.heap.size := by omega
      have kb2_0_0 : w2.cell? ⟨w1.heap.size, 0, none⟩ = some (.int .i64 p) := by go_simp
      have kf2_0_0 : w2.frozen? ⟨w1.heap.size, 0, none⟩ = false := by go_simp
      have kb2_0_1 : w2.cell? ⟨w1.heap.size, 1, none⟩ = some (.int .i64 q) := by go_simp
      have kf2_0_1 : w2.frozen? ⟨w1.heap.size, 1, none⟩ = false := by go_simp
      clear hc2 hf2
      go_wp2_with fail
      refine (specRowLeft_any p q _ m _).mono ?_
      rintro e w3 ⟨u3, rfl, hI3, hh3⟩
      obtain ⟨hc3, hf3⟩ := bcell hh3
      have hz3 := hh3.size
      try simp only [World.size_alloc] at hz3
      have hz3_0 : w1.heap.size < w3.heap.size := by omega
      have kb3_0_0 : w3.cell? ⟨w1.heap.size, 0, none⟩ = some (.int .i64 p) := by go_simp
      have kf3_0_0 : w3.frozen? ⟨w1.heap.size, 0, none⟩ = false := by go_simp
      have kb3_0_1 : w3.cell? ⟨w1.heap.size, 1, none⟩ = some (.int .i64 q) := by go_simp
      have kf3_0_1 : w3.frozen? ⟨w1.heap.size, 1, none⟩ = false := by go_simp
      clear hc3 hf3
      rw [HNn.out] at hI2 hI3
      go_wp2_with fail
      refine (sameInts_same _ _ _ _ _ _ _ _ _ (hI2.below hh3 (Nat.le_refl _)) hI3 (by omega)).mono ?_
      rintro e w4 ⟨rfl, hh4⟩
      obtain ⟨hc4, hf4⟩ := bcell hh4
      have hz4 := hh4.size
      try simp only [World.size_alloc] at hz4
      have hz4_0 : w1.heap.size < w4.heap.size := by omega
      have kb4_0_0 : w4.cell? ⟨w1.heap.size, 0, none⟩ = some (.int .i64 p) := by go_simp
      have kf4_0_0 : w4.frozen? ⟨w1.heap.size, 0, none⟩ = false := by go_simp
      have kb4_0_1 : w4.cell? ⟨w1.heap.size, 1, none⟩ = some (.int .i64 q) := by go_simp
      have kf4_0_1 : w4.frozen? ⟨w1.heap.size, 1, none⟩ = false := by go_simp
      clear hc4 hf4
      have hI4 := hI2.below (show Below w2.heap.size w2 w4 by (repeat (first | exact Below.refl _ _ | refine Below.setCell ?_ (by first | omega | (simp <;> omega)) _ | refine Below.alloc ?_ (by first | omega | (simp <;> omega)) _ | refine Below.drew ?_ | refine Below.trans ?_ (Below.mono (by assumption) (by first | omega | (simp <;> omega))) | refine Below.grown ?_ (by assumption) (by first | omega | (simp <;> omega)) (fun k e => by cases e; first | omega | (simp <;> omega))))) (Nat.le_refl _)
      clear hI2 hI3
      obtain ⟨a2, c2, rfl, hC2, hs2⟩ := hI4
      rcases hs2 with hs2 | ⟨g2, o2, rfl, hg1, hg2, hcl, hfl⟩
      · omega
      clear hfl
      have HC := Lib.hid hcl
      clear hcl
      go_wp2_with fail
      go_loopw [7] (fun c wr => ∃ i : Nat, i ≤ k + 1 ∧ c = .int .i64 i ∧ wr.cell? ⟨w1.heap.size, 0, none⟩ = some (.int .i64 p) ∧ wr.cell? ⟨w1.heap.size, 1, none⟩ = some (.int .i64 q) ∧ w1.heap.size < wr.heap.size ∧ g2 < wr.heap.size ∧
          (∀ t, t < k + 1 → wr.cell? ⟨g2, o2 + t, none⟩ = some (.int .i64 (row p q 0 1 t % m))) ∧ Below w.heap.size w wr) (fun c _ => 300 - (intOf c).toNat)
      case atStart => exact ⟨0, by omega, rfl, kb4_0_0, kb4_0_1, by omega, by omega, HC.out, by (repeat (first | exact Below.refl _ _ | refine Below.setCell ?_ (by first | omega | (simp <;> omega)) _ | refine Below.alloc ?_ (by first | omega | (simp <;> omega)) _ | refine Below.drew ?_ | refine Below.trans ?_ (Below.mono (by assumption) (by first | omega | (simp <;> omega))) | refine Below.grown ?_ (by assumption) (by first | omega | (simp <;> omega)) (fun k e => by cases e; first | omega | (simp <;> omega))))⟩
      case round =>
        obtain ⟨i, hi, rfl, kp, kq, hsz, hg, hcl, hB⟩ := hrel
        have hszB := hB.size
        clear hc1 hf1 kb2_0_0 kf2_0_0 kb2_0_1 kf2_0_1 kb3_0_0 kf3_0_0 kb3_0_1 kf3_0_1 kb4_0_0 kf4_0_0 kb4_0_1 kf4_0_1 hz2 hz3 hz4 hz2_0 hz3_0 hz4_0 hz1 hh2 hh3 hh4 hg1 hg2 hC2 HC hsm w0
        by_cases hlt : i ≤ k
        · by_cases h2 : i < 2
          · go_wp2_with fail
            refine (implFirst_at p q (i) _ _ _ (by omega) HP.out (by omega) rfl).mono ?_
            rintro e w5 ⟨rfl, hh5⟩
            obtain ⟨hcq, hfq⟩ := bcell hh5
            have kp5 : w5.cell? ⟨w1.heap.size, 0, none⟩ = some (.int .i64 p) := (hh5.cell (p := ⟨w1.heap.size, 0, none⟩) hsz).trans kp
            have kq5 : w5.cell? ⟨w1.heap.size, 1, none⟩ = some (.int .i64 q) := (hh5.cell (p := ⟨w1.heap.size, 1, none⟩) hsz).trans kq
            have hz5 := hh5.size
            have l0 : w5.cell? ⟨g2, o2 + (i), none⟩ = some (.int .i64 (row p q 0 1 (i) % m)) := (hh5.cell (p := ⟨g2, o2 + (i), none⟩) hg).trans (hcl (i) (by omega))
            have ix0 : (0 : Int) ≤ (i : Int) := by omega
            have ix1 : (i : Int) < (k : Int) + 1 := by omega
            have ix2 : ((i : Int)).toNat = i := by omega
            obtain ⟨a1, a2⟩ := left_bd (row p q 0 1 (i)) m m1
            obtain ⟨f1, f2⟩ := first_far r1 r2 r3 r4 (i) (by omega)
            have T1 : (row p q 0 1 (i) - row p q 0 1 (i) % m).tmod m = 0 := Int.tmod_eq_zero_of_dvd (eqm_left m (row p q 0 1 (i))).symm
            have U1 : IntKind.i64.wrap (row p q 0 1 (i) - row p q 0 1 (i) % m) = row p q 0 1 (i) - row p q 0 1 (i) % m := by rw [IntKind.wrap_i64]; omega
            have HCL := Lib.hid hcl
            have HB := Lib.hid (hB.trans (hh5.mono (show w.heap.size ≤ wr.heap.size by omega)))
            clear hcl kp kq hcq hfq
            go_wp2_with fail
            have d1 : decide (row p q 0 1 i % m < 0) = false := by simp; omega
            have d2 : decide (m ≤ row p q 0 1 i % m) = false := by simp; omega
            have h2c : ¬ ((2 : Int) ≤ (i : Int)) := by omega
            have h2d : decide ((2 : Int) ≤ (i : Int)) = false := by simp; omega
            go_quiet (fail)
            go_wp2
            go_roundw
            case rel =>
              refine ⟨i + 1, ?_⟩
              and_intros
              all_goals first | omega | exact congrArg (Value.int .i64) (by omega) | assumption | exact below_drewN HB.out _ | (intro t ht; (try rw [World.cell?_drewN]); exact (hh5.cell (p := ⟨g2, o2 + t, none⟩) hg).trans (HCL.out t ht)) | (simp; omega)
            case measure => simp [intOf]; omega
          · obtain ⟨j, rfl⟩ : ∃ j, i = j + 2 := ⟨i - 2, by omega⟩
            by_cases h20 : j + 2 ≤ 20
            · go_wp2_with fail
              refine (implFirst_at p q (j + 2) _ _ _ (by omega) HP.out (by omega) rfl).mono ?_
              rintro e w5 ⟨rfl, hh5⟩
              obtain ⟨hcq, hfq⟩ := bcell hh5
              have kp5 : w5.cell? ⟨w1.heap.size, 0, none⟩ = some (.int .i64 p) := (hh5.cell (p := ⟨w1.heap.size, 0, none⟩) hsz).trans kp
              have kq5 : w5.cell? ⟨w1.heap.size, 1, none⟩ = some (.int .i64 q) := (hh5.cell (p := ⟨w1.heap.size, 1, none⟩) hsz).trans kq
              have hz5 := hh5.size
              have l0 : w5.cell? ⟨g2, o2 + (j + 2), none⟩ = some (.int .i64 (row p q 0 1 (j + 2) % m)) := (hh5.cell (p := ⟨g2, o2 + (j + 2), none⟩) hg).trans (hcl (j + 2) (by omega))
              have ix0 : (0 : Int) ≤ ((j : Int) + 2) := by omega
              have ix1 : ((j : Int) + 2) < (k : Int) + 1 := by omega
              have ix2 : (((j : Int) + 2)).toNat = j + 2 := by omega
              obtain ⟨a1, a2⟩ := left_bd (row p q 0 1 (j + 2)) m m1
              obtain ⟨f1, f2⟩ := first_far r1 r2 r3 r4 (j + 2) (by omega)
              have T1 : (row p q 0 1 (j + 2) - row p q 0 1 (j + 2) % m).tmod m = 0 := Int.tmod_eq_zero_of_dvd (eqm_left m (row p q 0 1 (j + 2))).symm
              have U1 : IntKind.i64.wrap (row p q 0 1 (j + 2) - row p q 0 1 (j + 2) % m) = row p q 0 1 (j + 2) - row p q 0 1 (j + 2) % m := by rw [IntKind.wrap_i64]; omega
              have l1 : w5.cell? ⟨g2, o2 + (j + 1), none⟩ = some (.int .i64 (row p q 0 1 (j + 1) % m)) := (hh5.cell (p := ⟨g2, o2 + (j + 1), none⟩) hg).trans (hcl (j + 1) (by omega))
              have l2 : w5.cell? ⟨g2, o2 + j, none⟩ = some (.int .i64 (row p q 0 1 j % m)) := (hh5.cell (p := ⟨g2, o2 + j, none⟩) hg).trans (hcl j (by omega))
              have iy0 : (0 : Int) ≤ (j : Int) + 1 := by omega
              have iy1 : (j : Int) + 1 < (k : Int) + 1 := by omega
              have iy2 : ((j : Int) + 1).toNat = j + 1 := by omega
              have iz0 : (0 : Int) ≤ (j : Int) := by omega
              have iz1 : (j : Int) < (k : Int) + 1 := by omega
              obtain ⟨b1, b2⟩ := left_bd (row p q 0 1 (j + 1)) m m1
              obtain ⟨c1, c2⟩ := left_bd (row p q 0 1 j) m m1
              obtain ⟨x1, x2⟩ := mul_bd (b := 10000) r1 r2 (show -10000 ≤ row p q 0 1 (j + 1) % m by omega) (by omega)
              obtain ⟨x3, x4⟩ := mul_bd (b := 10000) r3 r4 (show -10000 ≤ row p q 0 1 j % m by omega) (by omega)
              have T2 : (p * (row p q 0 1 (j + 1) % m) - q * (row p q 0 1 j % m) - row p q 0 1 (j + 2) % m).tmod m = 0 := by
                rw [← far_next]
                exact Int.tmod_eq_zero_of_dvd (eqm_left m _).symm
              have V1 : IntKind.i64.wrap ((j : Int) + 1) = (j : Int) + 1 := by rw [IntKind.wrap_i64]; omega
              have V2 : IntKind.i64.wrap (j : Int) = (j : Int) := by rw [IntKind.wrap_i64]; omega
              have V3 : IntKind.i64.wrap (p * (row p q 0 1 (j + 1) % m)) = p * (row p q 0 1 (j + 1) % m) := by rw [IntKind.wrap_i64]; omega
              have V4 : IntKind.i64.wrap (q * (row p q 0 1 j % m)) = q * (row p q 0 1 j % m) := by rw [IntKind.wrap_i64]; omega
              have V5 : IntKind.i64.wrap (p * (row p q 0 1 (j + 1) % m) - q * (row p q 0 1 j % m)) = p * (row p q 0 1 (j + 1) % m) - q * (row p q 0 1 j % m) := by rw [IntKind.wrap_i64]; omega
              have V6 : IntKind.i64.wrap (p * (row p q 0 1 (j + 1) % m) - q * (row p q 0 1 j % m) - row p q 0 1 (j + 2) % m) = p * (row p q 0 1 (j + 1) % m) - q * (row p q 0 1 j % m) - row p q 0 1 (j + 2) % m := by rw [IntKind.wrap_i64]; omega
              have HCL := Lib.hid hcl
              have HB := Lib.hid (hB.trans (hh5.mono (show w.heap.size ≤ wr.heap.size by omega)))
              clear hcl kp kq hcq hfq
              go_wp2_with fail
              have d1 : decide (row p q 0 1 (j + 2) % m < 0) = false := by simp; omega
              have d2 : decide (m ≤ row p q 0 1 (j + 2) % m) = false := by simp; omega
              have h2d : decide ((2 : Int) ≤ (j : Int) + 2) = true := by simp; omega
              have h2c : (2 : Int) ≤ (j : Int) + 2 := by omega
              go_quiet (fail)
              go_wp2
              refine ⟨?_, ?_⟩
              · repeat apply Exists.intro
                refine ⟨⟨j + 2 + 1, ?_⟩, rfl⟩
                and_intros
                all_goals first | omega | exact congrArg (Value.int .i64) (by omega) | assumption | exact below_drewN HB.out _ | (intro t ht; (try rw [World.cell?_drewN]); exact (hh5.cell (p := ⟨g2, o2 + t, none⟩) hg).trans (HCL.out t ht)) | (simp; omega)
              · simp [intOf]; omega
            · have HF := Lib.hid (show atB p q ((j : Int) + 2) = false by simp [atB, placeB_no (n := (j : Int) + 2) (by omega)])
              go_wp2_with fail
              refine (implFirst_no p q _ _ HF.out).mono ?_
              rintro e w5 ⟨rfl, hh5⟩
              obtain ⟨hcq, hfq⟩ := bcell hh5
              have kp5 : w5.cell? ⟨w1.heap.size, 0, none⟩ = some (.int .i64 p) := (hh5.cell (p := ⟨w1.heap.size, 0, none⟩) hsz).trans kp
              have kq5 : w5.cell? ⟨w1.heap.size, 1, none⟩ = some (.int .i64 q) := (hh5.cell (p := ⟨w1.heap.size, 1, none⟩) hsz).trans kq
              have hz5 := hh5.size
              have l0 : w5.cell? ⟨g2, o2 + (j + 2), none⟩ = some (.int .i64 (row p q 0 1 (j + 2) % m)) := (hh5.cell (p := ⟨g2, o2 + (j + 2), none⟩) hg).trans (hcl (j + 2) (by omega))
              have ix0 : (0 : Int) ≤ ((j : Int) + 2) := by omega
              have ix1 : ((j : Int) + 2) < (k : Int) + 1 := by omega
              have ix2 : (((j : Int) + 2)).toNat = j + 2 := by omega
              obtain ⟨a1, a2⟩ := left_bd (row p q 0 1 (j + 2)) m m1
              have l1 : w5.cell? ⟨g2, o2 + (j + 1), none⟩ = some (.int .i64 (row p q 0 1 (j + 1) % m)) := (hh5.cell (p := ⟨g2, o2 + (j + 1), none⟩) hg).trans (hcl (j + 1) (by omega))
              have l2 : w5.cell? ⟨g2, o2 + j, none⟩ = some (.int .i64 (row p q 0 1 j % m)) := (hh5.cell (p := ⟨g2, o2 + j, none⟩) hg).trans (hcl j (by omega))
              have iy0 : (0 : Int) ≤ (j : Int) + 1 := by omega
              have iy1 : (j : Int) + 1 < (k : Int) + 1 := by omega
              have iy2 : ((j : Int) + 1).toNat = j + 1 := by omega
              have iz0 : (0 : Int) ≤ (j : Int) := by omega
              have iz1 : (j : Int) < (k : Int) + 1 := by omega
              obtain ⟨b1, b2⟩ := left_bd (row p q 0 1 (j + 1)) m m1
              obtain ⟨c1, c2⟩ := left_bd (row p q 0 1 j) m m1
              obtain ⟨x1, x2⟩ := mul_bd (b := 10000) r1 r2 (show -10000 ≤ row p q 0 1 (j + 1) % m by omega) (by omega)
              obtain ⟨x3, x4⟩ := mul_bd (b := 10000) r3 r4 (show -10000 ≤ row p q 0 1 j % m by omega) (by omega)
              have T2 : (p * (row p q 0 1 (j + 1) % m) - q * (row p q 0 1 j % m) - row p q 0 1 (j + 2) % m).tmod m = 0 := by
                rw [← far_next]
                exact Int.tmod_eq_zero_of_dvd (eqm_left m _).symm
              have V1 : IntKind.i64.wrap ((j : Int) + 1) = (j : Int) + 1 := by rw [IntKind.wrap_i64]; omega
              have V2 : IntKind.i64.wrap (j : Int) = (j : Int) := by rw [IntKind.wrap_i64]; omega
              have V3 : IntKind.i64.wrap (p * (row p q 0 1 (j + 1) % m)) = p * (row p q 0 1 (j + 1) % m) := by rw [IntKind.wrap_i64]; omega
              have V4 : IntKind.i64.wrap (q * (row p q 0 1 j % m)) = q * (row p q 0 1 j % m) := by rw [IntKind.wrap_i64]; omega
              have V5 : IntKind.i64.wrap (p * (row p q 0 1 (j + 1) % m) - q * (row p q 0 1 j % m)) = p * (row p q 0 1 (j + 1) % m) - q * (row p q 0 1 j % m) := by rw [IntKind.wrap_i64]; omega
              have V6 : IntKind.i64.wrap (p * (row p q 0 1 (j + 1) % m) - q * (row p q 0 1 j % m) - row p q 0 1 (j + 2) % m) = p * (row p q 0 1 (j + 1) % m) - q * (row p q 0 1 j % m) - row p q 0 1 (j + 2) % m := by rw [IntKind.wrap_i64]; omega
              have HCL := Lib.hid hcl
              have HB := Lib.hid (hB.trans (hh5.mono (show w.heap.size ≤ wr.heap.size by omega)))
              clear hcl kp kq hcq hfq
              go_wp2_with fail
              have d1 : decide (row p q 0 1 (j + 2) % m < 0) = false := by simp; omega
              have d2 : decide (m ≤ row p q 0 1 (j + 2) % m) = false := by simp; omega
              have h2d : decide ((2 : Int) ≤ (j : Int) + 2) = true := by simp; omega
              have h2c : (2 : Int) ≤ (j : Int) + 2 := by omega
              go_quiet (fail)
              go_wp2
              refine ⟨?_, ?_⟩
              · repeat apply Exists.intro
                refine ⟨⟨j + 2 + 1, ?_⟩, rfl⟩
                and_intros
                all_goals first | omega | exact congrArg (Value.int .i64) (by omega) | assumption | exact below_drewN HB.out _ | (intro t ht; (try rw [World.cell?_drewN]); exact (hh5.cell (p := ⟨g2, o2 + t, none⟩) hg).trans (HCL.out t ht)) | (simp; omega)
              · simp [intOf]; omega
        · obtain rfl : i = k + 1 := by omega
          clear hcl
          go_wp2_with fail
          refine (alive_any _).mono ?_
          rintro e w5 ⟨rfl, hh5⟩
          have hz5 := hh5.size
          go_wp2
          go_ret
          exact ⟨rfl, by (repeat (first | exact Below.refl _ _ | refine Below.setCell ?_ (by first | omega | (simp <;> omega)) _ | refine Below.alloc ?_ (by first | omega | (simp <;> omega)) _ | refine Below.drew ?_ | refine Below.trans ?_ (Below.mono (by assumption) (by first | omega | (simp <;> omega))) | refine Below.grown ?_ (by assumption) (by first | omega | (simp <;> omega)) (fun k e => by cases e; first | omega | (simp <;> omega))))⟩
    · have HN0 := Lib.hid (show rowLeftN p q n m = 0 by rw [rowLeftN, if_neg h])
      clear h
      go_wp2_with fail
      refine (implRowLeft_any p q _ m _).mono ?_
      rintro e w2 ⟨u2, rfl, hI2, hh2⟩
      obtain ⟨hc2, hf2⟩ := bcell hh2
      have hz2 := hh2.size
      try simp only [World.size_alloc] at hz2
      have hz2_0 : w1.heap.size < w2.heap.size := by omega
      have kb2_0_0 : w2.cell? ⟨w1.heap.size, 0, none⟩ = some (.int .i64 p) := by go_simp
      have kf2_0_0 : w2.frozen? ⟨w1.heap.size, 0, none⟩ = false := by go_simp
      have kb2_0_1 : w2.cell? ⟨w1.heap.size, 1, none⟩ = some (.int .i64 q) := by go_simp
      have kf2_0_1 : w2.frozen? ⟨w1.heap.size, 1, none⟩ = false := by go_simp
      clear hc2 hf2
      go_wp2_with fail
      refine (specRowLeft_any p q _ m _).mono ?_
      rintro e w3 ⟨u3, rfl, hI3, hh3⟩
      obtain ⟨hc3, hf3⟩ := bcell hh3
      have hz3 := hh3.size
      try simp only [World.size_alloc] at hz3
      have hz3_0 : w1.heap.size < w3.heap.size := by omega
      have kb3_0_0 : w3.cell? ⟨w1.heap.size, 0, none⟩ = some (.int .i64 p) := by go_simp
      have kf3_0_0 : w3.frozen? ⟨w1.heap.size, 0, none⟩ = false := by go_simp
      have kb3_0_1 : w3.cell? ⟨w1.heap.size, 1, none⟩ = some (.int .i64 q) := by go_simp
      have kf3_0_1 : w3.frozen? ⟨w1.heap.size, 1, none⟩ = false := by go_simp
      clear hc3 hf3
      rw [HN0.out] at hI2 hI3
      go_wp2_with fail
      refine (sameInts_same _ _ _ _ _ _ _ _ _ (hI2.below hh3 (Nat.le_refl _)) hI3 (by omega)).mono ?_
      rintro e w4 ⟨rfl, hh4⟩
      obtain ⟨hc4, hf4⟩ := bcell hh4
      have hz4 := hh4.size
      try simp only [World.size_alloc] at hz4
      have hz4_0 : w1.heap.size < w4.heap.size := by omega
      have kb4_0_0 : w4.cell? ⟨w1.heap.size, 0, none⟩ = some (.int .i64 p) := by go_simp
      have kf4_0_0 : w4.frozen? ⟨w1.heap.size, 0, none⟩ = false := by go_simp
      have kb4_0_1 : w4.cell? ⟨w1.heap.size, 1, none⟩ = some (.int .i64 q) := by go_simp
      have kf4_0_1 : w4.frozen? ⟨w1.heap.size, 1, none⟩ = false := by go_simp
      clear hc4 hf4
      have hI4 := hI2.below (show Below w2.heap.size w2 w4 by (repeat (first | exact Below.refl _ _ | refine Below.setCell ?_ (by first | omega | (simp <;> omega)) _ | refine Below.alloc ?_ (by first | omega | (simp <;> omega)) _ | refine Below.drew ?_ | refine Below.trans ?_ (Below.mono (by assumption) (by first | omega | (simp <;> omega))) | refine Below.grown ?_ (by assumption) (by first | omega | (simp <;> omega)) (fun k e => by cases e; first | omega | (simp <;> omega))))) (Nat.le_refl _)
      clear hI2 hI3
      obtain ⟨a2, c2, rfl, hC2, hs2⟩ := hI4
      clear hs2
      go_wp2_with fail
      refine (alive_any _).mono ?_
      rintro e w6 ⟨rfl, hh6⟩
      obtain ⟨hc6, hf6⟩ := bcell hh6
      have hz6 := hh6.size
      try simp only [World.size_alloc] at hz6
      clear hc6 hf6
      go_wp2
      go_ret
      exact ⟨rfl, by (repeat (first | exact Below.refl _ _ | refine Below.setCell ?_ (by first | omega | (simp <;> omega)) _ | refine Below.alloc ?_ (by first | omega | (simp <;> omega)) _ | refine Below.drew ?_ | refine Below.trans ?_ (Below.mono (by assumption) (by first | omega | (simp <;> omega))) | refine Below.grown ?_ (by assumption) (by first | omega | (simp <;> omega)) (fun k e => by cases e; first | omega | (simp <;> omega))))⟩
end Go.Proofs.Ytgcpmgddlaeccaa
