/- The walk of the law on DividedAt. -/
import Derived.Test.YtennicmmjbfljaaPlaceLaws
namespace Go.Proofs.Ytennicmmjbfljaa
open Go.RowKit
set_option maxRecDepth 100000 in
set_option maxHeartbeats 8000000 in
theorem fnDividedAt_walk (a : Option Addr) (len cap : Nat) (z : List Int) (w : World) (w0 : IsRow w a len cap z) :
    Calls Try.prog 7 #[.slice a len cap] w fun e w' => e = .returned (.bool true) ∧ Below w.heap.size w w' := by
  by_cases hbig : 1048576 < len
  · go_enter Try.func7, Try.ntmps7
    go_wp2
    go_ret
    exact ⟨rfl, Below.refl _ _⟩
  · have hsm : len ≤ 1048576 := by omega
    go_enter Try.func7, Try.ntmps7
    go_wp2_with fail
    refine (drawDividedAt_any _ _ _ _ z w0).mono ?_
    rintro e w1 ⟨p, q, m, rfl, hp1, hp2, hq1, hq2, hm1, hm2, hh1⟩
    have hz1 := hh1.size
    obtain ⟨hc1, hf1⟩ := bcell hh1
    have hOk := dividedL_ok p q m
    obtain ⟨LL, hLL⟩ : ∃ LL, dividedL p q m = LL := ⟨_, rfl⟩
    rw [hLL] at hOk
    obtain ⟨k0, k1, k2, k3, k4⟩ := hOk
    obtain ⟨n, hn⟩ : ∃ n, LL.length = n := ⟨_, rfl⟩
    rw [hn] at k0 k1 k2 k3 k4
    have K1 := Lib.hid k1
    have K3 := Lib.hid k3
    have K4 := Lib.hid k4
    have HAS := Lib.hid (show ∀ i, i + 1 < n → ((LL.getD i 0 : Nat) : Int) < ((LL.getD (i + 1) 0 : Nat) : Int) from fun i h => by have := k2 i h; omega)
    have HLL := Lib.hid hLL
    have HNN := Lib.hid hn
    clear k1 k2 k3 k4 hLL hn
    go_wp2_with fail
    refine (implDivided_any p q m _).mono ?_
    rintro e w2 ⟨u2, rfl, hI2, hh2⟩
    obtain ⟨hc2, hf2⟩ := bcell hh2
    have hz2 := hh2.size
    try simp only [World.size_alloc] at hz2
    have hz2_0 : w1.heap.size < w2.heap.size := by omega
    have kb2_0_0 : w2.cell? ⟨w1.heap.size, 0, none⟩ = some (.int .i64 p) := by go_simp
    have kf2_0_0 : w2.frozen? ⟨w1.heap.size, 0, none⟩ = false := by go_simp
    have kb2_0_1 : w2.cell? ⟨w1.heap.size, 1, none⟩ = some (.int .i64 q) := by go_simp
    have kf2_0_1 : w2.frozen? ⟨w1.heap.size, 1, none⟩ = false := by go_simp
    clear hc2 hf2
    go_wp2_with fail
    refine (specDivided_any p q m _).mono ?_
    rintro e w3 ⟨u3, rfl, hI3, hh3⟩
    obtain ⟨hc3, hf3⟩ := bcell hh3
    have hz3 := hh3.size
    try simp only [World.size_alloc] at hz3
    have hz3_0 : w1.heap.size < w3.heap.size := by omega
    have kb3_0_0 : w3.cell? ⟨w1.heap.size, 0, none⟩ = some (.int .i64 p) := by go_simp
    have kf3_0_0 : w3.frozen? ⟨w1.heap.size, 0, none⟩ = false := by go_simp
    have kb3_0_1 : w3.cell? ⟨w1.heap.size, 1, none⟩ = some (.int .i64 q) := by go_simp
    have kf3_0_1 : w3.frozen? ⟨w1.heap.size, 1, none⟩ = false := by go_simp
    clear hc3 hf3
    rw [HLL.out, HNN.out] at hI2 hI3
    go_wp2_with fail
    refine (sameInts_same _ _ _ _ _ _ _ _ _ (hI2.below hh3 (Nat.le_refl _)) hI3 (by omega)).mono ?_
    rintro e w4 ⟨rfl, hh4⟩
    obtain ⟨hc4, hf4⟩ := bcell hh4
    have hz4 := hh4.size
    try simp only [World.size_alloc] at hz4
    have hz4_0 : w1.heap.size < w4.heap.size := by omega
    have kb4_0_0 : w4.cell? ⟨w1.heap.size, 0, none⟩ = some (.int .i64 p) := by go_simp
    have kf4_0_0 : w4.frozen? ⟨w1.heap.size, 0, none⟩ = false := by go_simp
    have kb4_0_1 : w4.cell? ⟨w1.heap.size, 1, none⟩ = some (.int .i64 q) := by go_simp
    have kf4_0_1 : w4.frozen? ⟨w1.heap.size, 1, none⟩ = false := by go_simp
    clear hc4 hf4
    have HI := Lib.hid (hI2.below (show Below w2.heap.size w2 w4 by (repeat (first | exact Below.refl _ _ | refine Below.setCell ?_ (by first | omega | (simp <;> omega)) _ | refine Below.alloc ?_ (by first | omega | (simp <;> omega)) _ | refine Below.drew ?_ | refine Below.trans ?_ (Below.mono (by assumption) (by first | omega | (simp <;> omega))) | refine Below.grown ?_ (by assumption) (by first | omega | (simp <;> omega)) (fun k e => by cases e; first | omega | (simp <;> omega))))) (Nat.le_refl _))
    have H4 := Lib.hid (show Below w.heap.size w w4 by (repeat (first | exact Below.refl _ _ | refine Below.setCell ?_ (by first | omega | (simp <;> omega)) _ | refine Below.alloc ?_ (by first | omega | (simp <;> omega)) _ | refine Below.drew ?_ | refine Below.trans ?_ (Below.mono (by assumption) (by first | omega | (simp <;> omega))) | refine Below.grown ?_ (by assumption) (by first | omega | (simp <;> omega)) (fun k e => by cases e; first | omega | (simp <;> omega)))))
    clear hI2 hI3 hc1 hf1 hh1 hh2 hh3 hh4 hz2 hz3 kb2_0_0 kf2_0_0 kb2_0_1 kf2_0_1 kb3_0_0 kf3_0_0 kb3_0_1 kf3_0_1 hz2_0 hz3_0 hsm w0
    obtain ⟨a2, c2, rfl, hC2, hs2⟩ := HI.out
    have hmix : True := trivial
    go_wp2_with fail
    go_loopw [6, 7] (fun c _ wr => ∃ i : Nat, i ≤ n ∧ c = .int .i64 i ∧ Below w4.heap.size w4 wr) (fun c _ _ => 30 - (intOf c).toNat)
    case atStart => exact ⟨0, by omega, rfl, Below.refl _ _⟩
    case round =>
      obtain ⟨i, hi, rfl, hB⟩ := hrel
      by_cases hlt : i < n
      · rcases hs2 with hs2 | ⟨g2, o2, rfl, hg1, hg2, hcl, hfl⟩
        · omega
        obtain ⟨x, hx⟩ : ∃ x, LL.getD i 0 = x := ⟨_, rfl⟩
        obtain ⟨x0, hx0⟩ : ∃ x, LL.getD 0 0 = x := ⟨_, rfl⟩
        obtain ⟨x1, x2⟩ := K1.out i hlt
        obtain ⟨y1, y2⟩ := K1.out 0 (by omega)
        have c1 : wr.cell? ⟨g2, o2 + i, none⟩ = some (.int .i64 (x : Int)) := by rw [← hx]; exact (hB.cell (p := ⟨g2, o2 + i, none⟩) (by show g2 < _; omega)).trans (hcl i hlt)
        have c0 : wr.cell? ⟨g2, o2, none⟩ = some (.int .i64 (x0 : Int)) := by rw [← hx0]; exact (hB.cell (p := ⟨g2, o2, none⟩) (by show g2 < _; omega)).trans (hcl 0 (by omega))
        have kp : wr.cell? ⟨w1.heap.size, 0, none⟩ = some (.int .i64 p) := cell_below hB kb4_0_0
        have kq : wr.cell? ⟨w1.heap.size, 1, none⟩ = some (.int .i64 q) := cell_below hB kb4_0_1
        rw [hx] at x1 x2
        rw [hx0] at y1 y2
        have HX := Lib.hid hx
        have HX0 := Lib.hid hx0
        have hin : (i : Int) < (n : Int) := by omega
        have hn0 : (0 : Int) < (n : Int) := by omega
        have hxp : (0 : Int) < (x : Int) := by omega
        have ix0 : (0 : Int) ≤ (i : Int) := by omega
        have hsz := hB.size
        clear hcl hfl hx hx0
        go_wp2_with fail
        go_loop [7] (fun m => ∃ t : Nat, 1 ≤ t ∧ t ≤ 21 ∧ m = .int .i64 t) (fun m => 30 - (intOf m).toNat)
        case atStart => exact ⟨1, by omega, by omega, rfl⟩
        case round =>
          obtain ⟨t, t1, t2, rfl⟩ := hrel
          obtain ⟨y, hy⟩ : ∃ y : Nat, t * x = y := ⟨_, rfl⟩
          have hyb : y ≤ 420 := by rw [← hy]; exact Nat.mul_le_mul (show t ≤ 21 from t2) x2
          have hty : t ≤ y := by rw [← hy]; exact Nat.le_mul_of_pos_right t x1
          have hyz : (t : Int) * (x : Int) = (y : Int) := by rw [← hy]; simp
          have HY := Lib.hid hy
          clear hy
          by_cases hle : y ≤ 20
          · obtain ⟨j, hj, hjx⟩ := K3.out i t hlt t1 (by rw [HX.out, HY.out]; exact hle)
            have HJ := Lib.hid (show ((LL.getD j 0 : Nat) : Int) = (y : Int) by rw [hjx, HX.out, HY.out])
            clear hjx
            go_wp2_with fail
            refine (hasInt_yes _ _ _ j _ _ _ _ (HI.out.below hB hC2) (by omega) hj HJ.out).mono ?_
            rintro e wx ⟨rfl, rfl⟩
            go_wp2
            go_round
            case rel => exact ⟨t + 1, by omega, by omega, congrArg (Value.int .i64) (by omega)⟩
            case measure => simp [intOf]; omega
          · have hle' : (20 : Int) < (y : Int) := by omega
            cases ha : apartB p q with
            | true =>
              have HA := Lib.hid ha
              have hdv := K4.out ha i hlt
              rw [HX.out, HX0.out] at hdv
              have hz : ((x0 : Int) == 0) = false := by simp; omega
              have hd1 : decide ((x0 : Int) < 1) = false := by simp; omega
              have hmo : (x : Int) % (x0 : Int) = 0 := by omega
              have hmt : (x : Int).tmod (x0 : Int) = 0 := by rw [Int.tmod_eq_emod_of_nonneg (by omega)]; exact hmo
              have hmz : decide (¬ (0 : Int) = 0) = false := by decide
              clear hdv ha
              obtain ⟨S, hSd⟩ : ∃ S : World → Prop, (fun V => Below wr.heap.size wr V) = S := ⟨_, rfl⟩
              have hkeep : ∀ V V' : World, S V → Below V.heap.size V V' → S V' := by rw [← hSd]; exact fun V V' h hb => h.trans (hb.mono h.size)
              have gk0 : ∀ iq : KeptBy S, iq.world.cell? ⟨w1.heap.size, 0, none⟩ = some (.int .i64 p) := by rw [← hSd]; exact fun iq => cell_below iq.ok kp
              have gk1 : ∀ iq : KeptBy S, iq.world.cell? ⟨w1.heap.size, 1, none⟩ = some (.int .i64 q) := by rw [← hSd]; exact fun iq => cell_below iq.ok kq
              have gk2 : ∀ iq : KeptBy S, iq.world.cell? ⟨g2, o2, none⟩ = some (.int .i64 (x0 : Int)) := by rw [← hSd]; exact fun iq => cell_below iq.ok c0
              have gk3 : ∀ iq : KeptBy S, iq.world.cell? ⟨g2, o2 + i, none⟩ = some (.int .i64 (x : Int)) := by rw [← hSd]; exact fun iq => cell_below iq.ok c1
              have gkn : Nonempty (KeptBy S) := ⟨⟨wr.drew, by rw [← hSd]; exact (Below.refl _ _).drew⟩⟩
              go_wp2_with fail
              refine wp_region_kept (S := S) (by rw [← hSd]; exact (Below.refl _ _).drew) (by kernel_rfl) (by kernel_rfl) ?_
              repeat (go_big_quiet_step ((first | (go_at_call 14; refine (implApart_is p q true _ HA.out).mono ?_; rintro e w' ⟨rfl, hhw⟩; exact ⟨rfl, ⟨w', hkeep _ _ (KeptBy.ok _) hhw⟩, rfl⟩) | fail)))
              refine wpQuiet_nil ?_
              rintro wz ⟨iz, hwz⟩
              have bwz : Below wr.heap.size wr wz := by
                have this : S wz := by rw [hwz]; exact iz.ok
                rw [← hSd] at this
                exact this
              clear hwz iz gkn hkeep hSd gk0 gk1 gk2 gk3
              clear kp kq c0 c1
              go_wp2
              go_roundw
              case rel => exact ⟨i + 1, by omega, congrArg (Value.int .i64) (by omega), hB.trans (bwz.mono hB.size)⟩
              case measure => simp [intOf]; omega
            | false =>
              have HA := Lib.hid ha
              clear ha
              obtain ⟨S, hSd⟩ : ∃ S : World → Prop, (fun V => Below wr.heap.size wr V) = S := ⟨_, rfl⟩
              have hkeep : ∀ V V' : World, S V → Below V.heap.size V V' → S V' := by rw [← hSd]; exact fun V V' h hb => h.trans (hb.mono h.size)
              have gk0 : ∀ iq : KeptBy S, iq.world.cell? ⟨w1.heap.size, 0, none⟩ = some (.int .i64 p) := by rw [← hSd]; exact fun iq => cell_below iq.ok kp
              have gk1 : ∀ iq : KeptBy S, iq.world.cell? ⟨w1.heap.size, 1, none⟩ = some (.int .i64 q) := by rw [← hSd]; exact fun iq => cell_below iq.ok kq
              have gk2 : ∀ iq : KeptBy S, iq.world.cell? ⟨g2, o2, none⟩ = some (.int .i64 (x0 : Int)) := by rw [← hSd]; exact fun iq => cell_below iq.ok c0
              have gk3 : ∀ iq : KeptBy S, iq.world.cell? ⟨g2, o2 + i, none⟩ = some (.int .i64 (x : Int)) := by rw [← hSd]; exact fun iq => cell_below iq.ok c1
              have gkn : Nonempty (KeptBy S) := ⟨⟨wr.drew, by rw [← hSd]; exact (Below.refl _ _).drew⟩⟩
              go_wp2_with fail
              refine wp_region_kept (S := S) (by rw [← hSd]; exact (Below.refl _ _).drew) (by kernel_rfl) (by kernel_rfl) ?_
              repeat (go_big_quiet_step ((first | (go_at_call 14; refine (implApart_is p q false _ HA.out).mono ?_; rintro e w' ⟨rfl, hhw⟩; exact ⟨rfl, ⟨w', hkeep _ _ (KeptBy.ok _) hhw⟩, rfl⟩) | fail)))
              refine wpQuiet_nil ?_
              rintro wz ⟨iz, hwz⟩
              have bwz : Below wr.heap.size wr wz := by
                have this : S wz := by rw [hwz]; exact iz.ok
                rw [← hSd] at this
                exact this
              clear hwz iz gkn hkeep hSd gk0 gk1 gk2 gk3
              clear kp kq c0 c1
              go_wp2
              go_roundw
              case rel => exact ⟨i + 1, by omega, congrArg (Value.int .i64) (by omega), hB.trans (bwz.mono hB.size)⟩
              case measure => simp [intOf]; omega
      · obtain rfl : i = n := by omega
        clear hs2
        go_wp2_with fail
        refine (ascend_yes _ _ _ _ _ _ (HI.out.below hB hC2) (by omega) HAS.out).mono ?_
        rintro e w5 ⟨rfl, hh5⟩
        go_wp2_with fail
        refine (alive_any _).mono ?_
        rintro e w6 ⟨rfl, hh6⟩
        go_wp2
        go_ret
        exact ⟨rfl, (((H4.out.trans (hB.mono (by have := H4.out.size; omega))).trans (hh5.mono (by have := H4.out.size; have := hB.size; omega))).trans (hh6.mono (by have := H4.out.size; have := hB.size; have := hh5.size; omega)))⟩
end Go.Proofs.Ytennicmmjbfljaa
