/- Contracts and laws that the statement's proof stands on, one text behind the other. -/
import Derived.Test.YtblphilcmfabkaaGreatDoorAla1
import Derived.Test.YtblphilcmfabkaaGreatDoorHwDeskDoS
import Derived.Test.YtblphilcmfabkaaGreatDoorHwDeskDoT
import Derived.Test.YtblphilcmfabkaaGreatDoorHwJacobi
import Derived.Test.YtblphilcmfabkaaGreatDoorHwRankParts
import Derived.Test.YtblphilcmfabkaaGreatDoorHwDeskDesk
import Derived.Maps.OwnIn
import Derived.Laws.EntriesVeiled

namespace Go.Proofs.YtblphilcmfabkaaGreatDoor
section
def signV (n : Int) (b : Nat) : Int := jac (n % (b : Int)).toNat b
theorem left_nat (n : Int) {b : Nat} (hb : 1 ≤ b) : ∃ r : Nat, n % (b : Int) = r ∧ r < b := by
 have n0 := Int.emod_nonneg n (show (b : Int) ≠ 0 by omega)
 have n1 := Int.emod_lt_of_pos n (show (0 : Int) < b by omega)
 exact ⟨(n % (b : Int)).toNat, by omega, by omega⟩
theorem jacF_cases : ∀ (f a b : Nat), jacF f a b = 0 ∨ jacF f a b = 1 ∨ jacF f a b = -1
 | 0, _, _ => .inl rfl
 | f + 1, a, b => by
   have h1 := jacF_cases f (a / 2) b
   have h2 := jacF_cases f (b % a) a
   rw [jacF]
   split
   · split <;> omega
   · split
     · split <;> omega
     · split <;> omega
theorem signV_cases (n : Int) (b : Nat) : signV n b = 0 ∨ signV n b = 1 ∨ signV n b = -1 := jacF_cases _ _ _
end
section
open Go.RowKit
def signB (n b : Int) : Bool := inB n (-10000) 10000 && (inB b 1 10000 && decide (b % 2 ≠ 0))
def signOfV (n b : Int) : Int := if signB n b = true then signV n b.toNat else 0
theorem signOfV_no {n b : Int} (h : signB n b = false) : signOfV n b = 0 := by rw [signOfV, if_neg (by simp [h])]
theorem signOfV_is {n : Int} {m : Nat} (h : signB n m = true) : signOfV n m = signV n m := by rw [signOfV, if_pos h]; rfl
theorem signB_true {n b : Int} (h : signB n b = true) : ∃ m : Nat, b = m ∧ 1 ≤ m ∧ m ≤ 10000 ∧ m % 2 = 1 ∧ -10000 ≤ n ∧ n ≤ 10000 := by
 have h' : inB n (-10000) 10000 = true ∧ inB b 1 10000 = true ∧ ¬ b % 2 = 0 := by simpa [signB] using h
 obtain ⟨hn, hb, h2⟩ := h'
 obtain ⟨n1, n2⟩ := inB_true hn
 obtain ⟨b1, b2⟩ := inB_true hb
 exact ⟨b.toNat, by omega, by omega, by omega, by omega, n1, n2⟩
theorem signB_mk {n : Int} {m : Nat} (h1 : 1 ≤ m) (h2 : m ≤ 10000) (h3 : m % 2 = 1) (n1 : -10000 ≤ n) (n2 : n ≤ 10000) : signB n m = true := by
 simp [signB, inB_mk n1 n2, inB_mk (n := (m : Int)) (a := 1) (b := 10000) zO zO]; omega
theorem signB_ways {n b : Int} (h : signB n b = false) : inB n (-10000) 10000 = false ∨ (inB n (-10000) 10000 = true ∧ inB b 1 10000 = false) ∨ (inB n (-10000) 10000 = true ∧ inB b 1 10000 = true ∧ b % 2 = 0) := by
 cases hn : inB n (-10000) 10000 with
 | false => exact .inl rfl
 | true =>
   cases hb : inB b 1 10000 with
   | false => exact .inr (.inl ⟨rfl, rfl⟩)
   | true => exact .inr (.inr ⟨rfl, rfl, by simpa [signB, hn, hb] using h⟩)
theorem sgn_even {s J : Int} {a b : Nat} (h : s * jac a b = J) (h0 : a ≠ 0) (h2 : a % 2 = 0) : (if b % 8 = 3 ∨ b % 8 = 5 then -s else s) * jac (a / 2) b = J := by
 rw [jac_even b h0 h2] at h
 rw [← h]
 split <;> simp only [Int.one_mul, Int.neg_mul, Int.mul_neg]
theorem sgn_odd {s J : Int} {a b : Nat} (h : s * jac a b = J) (h2 : a % 2 ≠ 0) : (if a % 4 = 3 ∧ b % 4 = 3 then -s else s) * jac (b % a) a = J := by
 rw [jac_odd b h2] at h
 rw [← h]
 split <;> simp only [Int.one_mul, Int.neg_mul, Int.mul_neg]
set_option maxRecDepth 100000 in
set_option maxHeartbeats 8000000 in
theorem specSign_any (n b : Int) (w : World) : Calls Tryz.prog 129 #[.int .i64 n, .int .i64 b] w fun e w' => e = .returned (.tuple #[.int .i64 (signOfV n b), .bool (signB n b)]) ∧ w = w' := by
 cases h : signB n b with
 | false =>
   have HV := Lib.hid (signOfV_no h)
   rcases signB_ways h with hn | ⟨hn, hb⟩ | ⟨hn, hb, h2⟩
   · have HN := Lib.hid hn
     clear h hn
     go_enter Tryz.func129, Tryz.ntmps129
     go_wp2_with fail
     refine (l1In_no n (-10000) 10000 _ HN.out).mono ?_
     rintro e wx ⟨rfl, rfl⟩
     go_wp2
     go_ret2
     exact ⟨ret_int_bool HV.out.symm rfl, rfl⟩
   · have HN := Lib.hid hn
     have HB := Lib.hid hb
     clear h hn hb
     go_enter Tryz.func129, Tryz.ntmps129
     go_wp2_with fail
     refine (l1In_yes _ (-10000) 10000 _ HN.out).mono ?_
     rintro e wx ⟨rfl, rfl⟩
     go_wp2_with fail
     refine (l1In_no b 1 10000 _ HB.out).mono ?_
     rintro e wx ⟨rfl, rfl⟩
     go_wp2
     go_ret2
     exact ⟨ret_int_bool HV.out.symm rfl, rfl⟩
   · have HN := Lib.hid hn
     have HB := Lib.hid hb
     obtain ⟨b1, b2⟩ := inB_true hb
     have hT : (b % 2 == 0) = true := by simpa using h2
     have hT2 : (b.tmod 2 == 0) = true := by rw [Int.tmod_eq_emod_of_nonneg zO]; exact hT
     clear h hn hb
     go_enter Tryz.func129, Tryz.ntmps129
     go_wp2_with fail
     refine (l1In_yes _ (-10000) 10000 _ HN.out).mono ?_
     rintro e wx ⟨rfl, rfl⟩
     go_wp2_with fail
     refine (l1In_yes _ 1 10000 _ HB.out).mono ?_
     rintro e wx ⟨rfl, rfl⟩
     go_wp2
     go_ret2
     exact ⟨ret_int_bool HV.out.symm rfl, rfl⟩
 | true =>
   obtain ⟨m, rfl, m1, m2, m3, n1, n2⟩ := signB_true h
   have HV := Lib.hid (signOfV_is h)
   have HN := Lib.hid (inB_mk n1 n2)
   have HB := Lib.hid (inB_mk (n := (m : Int)) (a := 1) (b := 10000) zO zO)
   have hT : ((m : Int) % 2 == 0) = false := by simp; omega
   have i1 : (1 : Int) ≤ (m : Int) := by omega
   have i3 : (m : Int) ≤ 1000000000000 := by omega
   obtain ⟨r, hr, hrm⟩ := left_nat n m1
   have HR := Lib.hid hr
   have HJ := Lib.hid (show jac r m = signV n m by rw [signV, hr]; rfl)
   clear h hr
   go_enter Tryz.func129, Tryz.ntmps129
   go_wp2_with fail
   refine (l1In_yes _ (-10000) 10000 _ HN.out).mono ?_
   rintro e wx ⟨rfl, rfl⟩
   go_wp2_with fail
   refine (l1In_yes _ 1 10000 _ HB.out).mono ?_
   rintro e wx ⟨rfl, rfl⟩
   go_wp2_with fail
   refine (l3Left_at n m r _ i1 i3 HR.out).mono ?_
   rintro e wx ⟨rfl, rfl⟩
   go_wp2_with fail
   go_loop [6, 7, 8, 9] (fun x y z _ => ∃ (a b : Nat) (s : Int), 1 ≤ b ∧ a ≤ 10000 ∧ b ≤ 10000 ∧ x = .int .i64 a ∧ y = .int .i64 b ∧ z = .int .i64 s ∧ (-1 ≤ s ∧ s ≤ 1) ∧ s * jac a b = jac r m) (fun x _ _ _ => (intOf x).toNat)
   case atStart => exact ⟨r, m, 1, m1, by omega, m2, rfl, rfl, rfl, by omega, by rw [Int.one_mul]⟩
   case round =>
     obtain ⟨a, b, s, b1, a2, b2, rfl, rfl, rfl, hs, hj⟩ := hrel
     have HJ2 := Lib.hid hj
     clear hj
     obtain ⟨s1, s2⟩ := hs
     have US : IntKind.i64.wrap (-s) = -s := by rw [IntKind.wrap_i64]; omega
     by_cases ha0 : a = 0
     · subst ha0
       by_cases hb1 : 1 < b
       · have HF := Lib.hid (show signV n m = 0 by rw [← HJ.out, ← HJ2.out, jac_zero, if_pos hb1, Int.mul_zero])
         go_wp2
         go_ret2
         exact ⟨ret_int_bool (by rw [HV.out, HF.out]) rfl, rfl⟩
       · have HF := Lib.hid (show signV n m = s by rw [← HJ.out, ← HJ2.out, jac_zero, if_neg hb1, Int.mul_one])
         have hb1' : b ≤ 1 := by omega
         go_wp2
         go_ret2
         exact ⟨ret_int_bool (by rw [HV.out, HF.out]) rfl, rfl⟩
     · have hapos : 0 < a := by omega
       have hai : (0 : Int) < (a : Int) := by omega
       by_cases he : a % 2 = 0
       · have hT3 : ((a : Int) % 2 == 0) = true := by simp; omega
         obtain ⟨c, hc⟩ : ∃ c, a / 2 = c := ⟨_, rfl⟩
         have hD : (a : Int) / 2 = (c : Int) := by rw [← hc]; simp
         have hca : c < a := by omega
         have HN2 := Lib.hid (sgn_even HJ2.out ha0 he)
         rw [hc] at HN2
         have hc9 : c ≤ 10000 := by omega
         clear he hc
         by_cases h3 : b % 8 = 3
         · have g3 : ((b : Int) % 8 == 3) = true := by simp; omega
           rw [if_pos (.inl h3)] at HN2
           go_wp2
           go_round
           case rel => exact ⟨c, b, -s, by omega, by omega, by omega, rfl, rfl, rfl, by omega, HN2.out⟩
           case measure => simp [intOf]; omega
         · have g3 : ((b : Int) % 8 == 3) = false := by simp; omega
           by_cases h5 : b % 8 = 5
           · have g5 : ((b : Int) % 8 == 5) = true := by simp; omega
             rw [if_pos (.inr h5)] at HN2
             go_wp2
             go_round
             case rel => exact ⟨c, b, -s, by omega, by omega, by omega, rfl, rfl, rfl, by omega, HN2.out⟩
             case measure => simp [intOf]; omega
           · have g5 : ((b : Int) % 8 == 5) = false := by simp; omega
             rw [if_neg zO] at HN2
             go_wp2
             go_round
             case rel => exact ⟨c, b, s, by omega, by omega, by omega, rfl, rfl, rfl, by omega, HN2.out⟩
             case measure => simp [intOf]; omega
       · have hT3 : ((a : Int) % 2 == 0) = false := by simp; omega
         have HN2 := Lib.hid (sgn_odd HJ2.out he)
         obtain ⟨c, hc⟩ : ∃ c, b % a = c := ⟨_, rfl⟩
         have hD : (b : Int) % (a : Int) = (c : Int) := by rw [← hc]; simp
         have hca : c < a := by rw [← hc]; exact Nat.mod_lt _ hapos
         have haz : ((a : Int) == 0) = false := by simp; omega
         rw [hc] at HN2
         clear he hc
         by_cases h3 : a % 4 = 3
         · have g3 : ((a : Int) % 4 == 3) = true := by simp; omega
           by_cases h4 : b % 4 = 3
           · have g4 : ((b : Int) % 4 == 3) = true := by simp; omega
             rw [if_pos ⟨h3, h4⟩] at HN2
             go_wp2
             go_round
             case rel => exact ⟨c, a, -s, by omega, by omega, by omega, congrArg (Value.int .i64) hD, rfl, rfl, by omega, HN2.out⟩
             case measure => simp [intOf]; omega
           · have g4 : ((b : Int) % 4 == 3) = false := by simp; omega
             rw [if_neg (fun hh => h4 hh.2)] at HN2
             go_wp2
             go_round
             case rel => exact ⟨c, a, s, by omega, by omega, by omega, congrArg (Value.int .i64) hD, rfl, rfl, by omega, HN2.out⟩
             case measure => simp [intOf]; omega
         · have g3 : ((a : Int) % 4 == 3) = false := by simp; omega
           rw [if_neg (fun hh => h3 hh.1)] at HN2
           go_wp2
           go_round
           case rel => exact ⟨c, a, s, by omega, by omega, by omega, congrArg (Value.int .i64) hD, rfl, rfl, by omega, HN2.out⟩
           case measure => simp [intOf]; omega
theorem specSign_is (n b v : Int) (c : Bool) (w : World) (hv : signOfV n b = v) (hc : signB n b = c) : Calls Tryz.prog 129 #[.int .i64 n, .int .i64 b] w fun e w' => e = .returned (.tuple #[.int .i64 v, .bool c]) ∧ w = w' := by rw [← hv, ← hc]; exact specSign_any n b w
end
section
open Go.RowKit
def passSecondB (p q n : Int) : Bool := pairB p q && (inB n 2 10000 && (row p q 2 p n.toNat % n == p % n))
set_option maxRecDepth 100000 in
set_option maxHeartbeats 8000000 in
theorem specPassSecond_any (p q n : Int) (w : World) : Calls Tryz.prog 103 #[pr p q, .int .i64 n] w fun e w' => e = .returned (.bool (passSecondB p q n)) ∧ Below w.heap.size w w' := by
 cases hp : pairB p q with
 | false =>
   have HV := Lib.hid (show passSecondB p q n = false by simp [passSecondB, hp])
   have HP := Lib.hid hp
   clear hp
   have kb0 : (w.alloc (.cells #[.int .i64 p, .int .i64 q] 29)).cell? ⟨w.heap.size, 0, none⟩ = some (.int .i64 p) := by go_simp
   have kb1 : (w.alloc (.cells #[.int .i64 p, .int .i64 q] 29)).cell? ⟨w.heap.size, 1, none⟩ = some (.int .i64 q) := by go_simp
   have hal : Below w.heap.size w (w.alloc (.cells #[.int .i64 p, .int .i64 q] 29)) := by exact zb
   obtain ⟨w0, hw0⟩ : ∃ w0, (w.alloc (.cells #[.int .i64 p, .int .i64 q] 29)) = w0 := ⟨_, rfl⟩
   have HW0 := Lib.hid hw0
   rw [hw0] at kb0 kb1 hal
   clear hw0
   go_enter Tryz.func103, Tryz.ntmps103
   go_wp2_with fail
   rw [HW0.out]
   obtain ⟨S, hSd⟩ : ∃ S : World → Prop, (fun V => Below w0.heap.size w0 V) = S := ⟨_, rfl⟩
   have hkeep : ∀ V V' : World, S V → Below V.heap.size V V' → S V' := by rw [← hSd]; exact fun V V' h hb => h.trans (hb.mono h.size)
   have gk0 : ∀ iq : KeptBy S, iq.world.cell? ⟨w.heap.size, 0, none⟩ = some (.int .i64 p) := by rw [← hSd]; exact fun iq => cell_below iq.ok kb0
   have gk1 : ∀ iq : KeptBy S, iq.world.cell? ⟨w.heap.size, 1, none⟩ = some (.int .i64 q) := by rw [← hSd]; exact fun iq => cell_below iq.ok kb1
   have gkn : Nonempty (KeptBy S) := ⟨⟨w0.drew, by rw [← hSd]; exact (Below.refl _ _).drew⟩⟩
   go_wp2_with fail
   refine wp_region_kept (S := S) (by rw [← hSd]; exact (Below.refl _ _).drew) (by kernel_rfl) (by kernel_rfl) ?_
   repeat (go_big_quiet_step ((first | (go_at_call 49; refine (specPairOk_no p q _ HP.out).mono ?_; rintro e w' ⟨rfl, hhw⟩; exact ⟨rfl, ⟨w', hkeep _ _ (KeptBy.ok _) hhw⟩, rfl⟩) | fail)))
   refine wpQuiet_nil ?_
   rintro wz ⟨iz, hwz⟩
   have bwz : Below w0.heap.size w0 wz := by
     have this : S wz := by rw [hwz]; exact iz.ok
     rw [← hSd] at this
     exact this
   clear hwz iz gkn hkeep hSd gk0 gk1
   go_wp2
   go_ret
   exact ⟨ret_bool HV.out.symm, hal.trans (bwz.mono hal.size)⟩
 | true =>
   have HP := Lib.hid hp
   have kb0 : (w.alloc (.cells #[.int .i64 p, .int .i64 q] 29)).cell? ⟨w.heap.size, 0, none⟩ = some (.int .i64 p) := by go_simp
   have kb1 : (w.alloc (.cells #[.int .i64 p, .int .i64 q] 29)).cell? ⟨w.heap.size, 1, none⟩ = some (.int .i64 q) := by go_simp
   have hal : Below w.heap.size w (w.alloc (.cells #[.int .i64 p, .int .i64 q] 29)) := by exact zb
   obtain ⟨w0, hw0⟩ : ∃ w0, (w.alloc (.cells #[.int .i64 p, .int .i64 q] 29)) = w0 := ⟨_, rfl⟩
   have HW0 := Lib.hid hw0
   rw [hw0] at kb0 kb1 hal
   clear hw0
   cases hn : inB n 2 10000 with
   | false =>
     have HV := Lib.hid (show passSecondB p q n = false by simp [passSecondB, hn])
     have HN := Lib.hid hn
     clear hp hn
     go_enter Tryz.func103, Tryz.ntmps103
     go_wp2_with fail
     rw [HW0.out]
     obtain ⟨S, hSd⟩ : ∃ S : World → Prop, (fun V => Below w0.heap.size w0 V) = S := ⟨_, rfl⟩
     have hkeep : ∀ V V' : World, S V → Below V.heap.size V V' → S V' := by rw [← hSd]; exact fun V V' h hb => h.trans (hb.mono h.size)
     have gk0 : ∀ iq : KeptBy S, iq.world.cell? ⟨w.heap.size, 0, none⟩ = some (.int .i64 p) := by rw [← hSd]; exact fun iq => cell_below iq.ok kb0
     have gk1 : ∀ iq : KeptBy S, iq.world.cell? ⟨w.heap.size, 1, none⟩ = some (.int .i64 q) := by rw [← hSd]; exact fun iq => cell_below iq.ok kb1
     have gkn : Nonempty (KeptBy S) := ⟨⟨w0.drew, by rw [← hSd]; exact (Below.refl _ _).drew⟩⟩
     go_wp2_with fail
     refine wp_region_kept (S := S) (by rw [← hSd]; exact (Below.refl _ _).drew) (by kernel_rfl) (by kernel_rfl) ?_
     repeat (go_big_quiet_step ((first | (go_at_call 49; refine (specPairOk_yes p q _ HP.out).mono ?_; rintro e w' ⟨rfl, hhw⟩; exact ⟨rfl, ⟨w', hkeep _ _ (KeptBy.ok _) hhw⟩, rfl⟩) | (go_at_call 86; refine (l1In_no n 2 10000 _ HN.out).mono ?_; rintro e w' ⟨rfl, rfl⟩; exact ⟨rfl, _, rfl⟩) | fail)))
     refine wpQuiet_nil ?_
     rintro wz ⟨iz, hwz⟩
     have bwz : Below w0.heap.size w0 wz := by
       have this : S wz := by rw [hwz]; exact iz.ok
       rw [← hSd] at this
       exact this
     clear hwz iz gkn hkeep hSd gk0 gk1
     go_wp2
     go_ret
     exact ⟨ret_bool HV.out.symm, hal.trans (bwz.mono hal.size)⟩
   | true =>
     obtain ⟨n1, n2⟩ := inB_true hn
     obtain ⟨k, rfl⟩ := Int.eq_ofNat_of_zero_le (show 0 ≤ n by omega)
     have HN := Lib.hid hn
     obtain ⟨x, hx⟩ : ∃ x, row p q 2 p k % (k : Int) = x := ⟨_, rfl⟩
     obtain ⟨y, hy⟩ : ∃ y, p % (k : Int) = y := ⟨_, rfl⟩
     have HV := Lib.hid (show passSecondB p q k = (x == y) by rw [passSecondB, hp, hn, ← hx, ← hy]; simp)
     have HX := Lib.hid hx
     have HY := Lib.hid hy
     have i1 : (1 : Int) ≤ (k : Int) := by omega
     have i3 : (k : Int) ≤ 1000000000000 := by omega
     clear hp hn hx hy
     cases hxy : (x == y) with
     | true =>
       go_enter Tryz.func103, Tryz.ntmps103
       go_wp2_with fail
       rw [HW0.out]
       obtain ⟨S, hSd⟩ : ∃ S : World → Prop, (fun V => Below w0.heap.size w0 V) = S := ⟨_, rfl⟩
       have hkeep : ∀ V V' : World, S V → Below V.heap.size V V' → S V' := by rw [← hSd]; exact fun V V' h hb => h.trans (hb.mono h.size)
       have gk0 : ∀ iq : KeptBy S, iq.world.cell? ⟨w.heap.size, 0, none⟩ = some (.int .i64 p) := by rw [← hSd]; exact fun iq => cell_below iq.ok kb0
       have gk1 : ∀ iq : KeptBy S, iq.world.cell? ⟨w.heap.size, 1, none⟩ = some (.int .i64 q) := by rw [← hSd]; exact fun iq => cell_below iq.ok kb1
       have gkn : Nonempty (KeptBy S) := ⟨⟨w0.drew, by rw [← hSd]; exact (Below.refl _ _).drew⟩⟩
       go_wp2_with fail
       refine wp_region_kept (S := S) (by rw [← hSd]; exact (Below.refl _ _).drew) (by kernel_rfl) (by kernel_rfl) ?_
       repeat (go_big_quiet_step ((first | (go_at_call 49; refine (specPairOk_yes p q _ HP.out).mono ?_; rintro e w' ⟨rfl, hhw⟩; exact ⟨rfl, ⟨w', hkeep _ _ (KeptBy.ok _) hhw⟩, rfl⟩) | (go_at_call 86; refine (l1In_yes _ 2 10000 _ HN.out).mono ?_; rintro e w' ⟨rfl, rfl⟩; exact ⟨rfl, _, rfl⟩) | (go_at_call 130; refine (specFarSecond_at p q k k x _ _ rfl HP.out zO zO zO HX.out).mono ?_; rintro e w' ⟨rfl, hhw⟩; exact ⟨rfl, ⟨w', hkeep _ _ (KeptBy.ok _) hhw⟩, rfl⟩) | (go_at_call 128; refine (l3Left_at p k y _ i1 i3 HY.out).mono ?_; rintro e w' ⟨rfl, rfl⟩; exact ⟨rfl, _, rfl⟩) | fail)))
       refine wpQuiet_nil ?_
       rintro wz ⟨iz, hwz⟩
       have bwz : Below w0.heap.size w0 wz := by
         have this : S wz := by rw [hwz]; exact iz.ok
         rw [← hSd] at this
         exact this
       clear hwz iz gkn hkeep hSd gk0 gk1
       go_wp2
       go_ret
       exact ⟨ret_bool (by rw [HV.out, hxy]), hal.trans (bwz.mono hal.size)⟩
     | false =>
       go_enter Tryz.func103, Tryz.ntmps103
       go_wp2_with fail
       rw [HW0.out]
       obtain ⟨S, hSd⟩ : ∃ S : World → Prop, (fun V => Below w0.heap.size w0 V) = S := ⟨_, rfl⟩
       have hkeep : ∀ V V' : World, S V → Below V.heap.size V V' → S V' := by rw [← hSd]; exact fun V V' h hb => h.trans (hb.mono h.size)
       have gk0 : ∀ iq : KeptBy S, iq.world.cell? ⟨w.heap.size, 0, none⟩ = some (.int .i64 p) := by rw [← hSd]; exact fun iq => cell_below iq.ok kb0
       have gk1 : ∀ iq : KeptBy S, iq.world.cell? ⟨w.heap.size, 1, none⟩ = some (.int .i64 q) := by rw [← hSd]; exact fun iq => cell_below iq.ok kb1
       have gkn : Nonempty (KeptBy S) := ⟨⟨w0.drew, by rw [← hSd]; exact (Below.refl _ _).drew⟩⟩
       go_wp2_with fail
       refine wp_region_kept (S := S) (by rw [← hSd]; exact (Below.refl _ _).drew) (by kernel_rfl) (by kernel_rfl) ?_
       repeat (go_big_quiet_step ((first | (go_at_call 49; refine (specPairOk_yes p q _ HP.out).mono ?_; rintro e w' ⟨rfl, hhw⟩; exact ⟨rfl, ⟨w', hkeep _ _ (KeptBy.ok _) hhw⟩, rfl⟩) | (go_at_call 86; refine (l1In_yes _ 2 10000 _ HN.out).mono ?_; rintro e w' ⟨rfl, rfl⟩; exact ⟨rfl, _, rfl⟩) | (go_at_call 130; refine (specFarSecond_at p q k k x _ _ rfl HP.out zO zO zO HX.out).mono ?_; rintro e w' ⟨rfl, hhw⟩; exact ⟨rfl, ⟨w', hkeep _ _ (KeptBy.ok _) hhw⟩, rfl⟩) | (go_at_call 128; refine (l3Left_at p k y _ i1 i3 HY.out).mono ?_; rintro e w' ⟨rfl, rfl⟩; exact ⟨rfl, _, rfl⟩) | fail)))
       refine wpQuiet_nil ?_
       rintro wz ⟨iz, hwz⟩
       have bwz : Below w0.heap.size w0 wz := by
         have this : S wz := by rw [hwz]; exact iz.ok
         rw [← hSd] at this
         exact this
       clear hwz iz gkn hkeep hSd gk0 gk1
       go_wp2
       go_ret
       exact ⟨ret_bool (by rw [HV.out, hxy]), hal.trans (bwz.mono hal.size)⟩
end
section
open Go.RowKit
def besideN (p q : Int) (m : Nat) : Nat := ((m : Int) - signV (p * p - 4 * q) m).toNat
def passFirstB (p q n : Int) : Bool := pairB p q && (decide (q ≠ 0) && (inB n 3 10000 && (decide (n % 2 ≠ 0) && (decide (Int.gcd n q = 1) && (decide (Int.gcd n (p * p - 4 * q) = 1) && (row p q 0 1 (besideN p q n.toNat) % n == 0))))))
theorem passFirstB_true {p q n : Int} (h : passFirstB p q n = true) : ∃ m : Nat, n = m ∧ pairB p q = true ∧ q ≠ 0 ∧ 3 ≤ m ∧ m ≤ 10000 ∧ m % 2 = 1 ∧ Int.gcd m q = 1 ∧ Int.gcd m (p * p - 4 * q) = 1 ∧ row p q 0 1 (besideN p q m) % (m : Int) = 0 := by
 simp only [passFirstB, Bool.and_eq_true, decide_eq_true_iff, beq_iff_eq] at h
 obtain ⟨hp, hq, hn, h2, h3, h4, h5⟩ := h
 obtain ⟨n1, n2⟩ := inB_true hn
 obtain ⟨m, rfl⟩ := Int.eq_ofNat_of_zero_le (show 0 ≤ n by omega)
 exact ⟨m, rfl, hp, hq, by omega, by omega, by omega, h3, h4, by simpa using h5⟩
theorem passFirstB_mk {p q : Int} {m : Nat} (hp : pairB p q = true) (hq : q ≠ 0) (h1 : 3 ≤ m) (h2 : m ≤ 10000) (h3 : m % 2 = 1) (h4 : Int.gcd m q = 1) (h5 : Int.gcd m (p * p - 4 * q) = 1) : passFirstB p q m = (row p q 0 1 (besideN p q m) % (m : Int) == 0) := by
 have hm2 : ¬ (m : Int) % 2 = 0 := by omega
 simp [passFirstB, hp, hq, inB_mk (n := (m : Int)) (a := 3) (b := 10000) zO zO, hm2, h4, h5]
theorem beside_is {p q : Int} {m : Nat} (h1 : 3 ≤ m) : (m : Int) - signV (p * p - 4 * q) m = (besideN p q m : Int) ∧ besideN p q m ≤ m + 1 ∧ m ≤ besideN p q m + 1 := by
 rw [besideN]
 rcases signV_cases (p * p - 4 * q) m with h | h | h <;> rw [h] <;> omega
set_option maxRecDepth 100000 in
set_option maxHeartbeats 4000000 in
theorem specPassFirst_any (p q n : Int) (w : World) : Calls Tryz.prog 102 #[pr p q, .int .i64 n] w fun e w' => e = .returned (.bool (passFirstB p q n)) ∧ Below w.heap.size w w' := by
 cases hp : pairB p q with
 | false =>
   have HV := Lib.hid (show passFirstB p q n = false by simp [passFirstB, hp])
   have HP := Lib.hid hp
   clear hp
   go_enter Tryz.func102, Tryz.ntmps102
   go_wp2_with fail
   refine (specWeight_not p q _ HP.out).mono ?_
   rintro e w1 ⟨rfl, hh1⟩
   obtain ⟨hc1, hf1⟩ := bcell hh1
   have hz1 := hh1.size
   try simp only [World.size_alloc] at hz1
   have hz1_0 : w.heap.size < w1.heap.size := by omega
   have kb1_0_0 : w1.cell? ⟨w.heap.size, 0, none⟩ = some (.int .i64 p) := by go_simp
   have kf1_0_0 : w1.frozen? ⟨w.heap.size, 0, none⟩ = false := by go_simp
   have kb1_0_1 : w1.cell? ⟨w.heap.size, 1, none⟩ = some (.int .i64 q) := by go_simp
   have kf1_0_1 : w1.frozen? ⟨w.heap.size, 1, none⟩ = false := by go_simp
   clear hc1 hf1
   go_wp2
   go_ret
   exact ⟨ret_bool HV.out.symm, by exact zb⟩
 | true =>
   obtain ⟨b1, b2⟩ := weight_bd hp
   obtain ⟨⟨r1, r2⟩, r3, r4⟩ := pairB_true hp
   have HP := Lib.hid hp
   have HW := Lib.hid (weightV_is hp)
   by_cases hq : q = 0
   · have HV := Lib.hid (show passFirstB p q n = false by simp [passFirstB, hq])
     subst hq
     clear hp
     go_enter Tryz.func102, Tryz.ntmps102
     go_wp2_with fail
     refine (specWeight_val p 0 _ _ HP.out rfl).mono ?_
     rintro e w1 ⟨rfl, hh1⟩
     obtain ⟨hc1, hf1⟩ := bcell hh1
     have hz1 := hh1.size
     try simp only [World.size_alloc] at hz1
     have hz1_0 : w.heap.size < w1.heap.size := by omega
     have kb1_0_0 : w1.cell? ⟨w.heap.size, 0, none⟩ = some (.int .i64 p) := by go_simp
     have kf1_0_0 : w1.frozen? ⟨w.heap.size, 0, none⟩ = false := by go_simp
     have kb1_0_1 : w1.cell? ⟨w.heap.size, 1, none⟩ = some (.int .i64 0) := by go_simp
     have kf1_0_1 : w1.frozen? ⟨w.heap.size, 1, none⟩ = false := by go_simp
     clear hc1 hf1
     go_wp2
     go_ret
     exact ⟨ret_bool HV.out.symm, by exact zb⟩
   · have hqb : (q == 0) = false := by simpa using hq
     cases hn : inB n 3 10000 with
     | false =>
       have HV := Lib.hid (show passFirstB p q n = false by simp [passFirstB, hn])
       have HN := Lib.hid hn
       clear hp hn
       go_enter Tryz.func102, Tryz.ntmps102
       go_wp2_with fail
       refine (specWeight_val p q _ _ HP.out rfl).mono ?_
       rintro e w1 ⟨rfl, hh1⟩
       obtain ⟨hc1, hf1⟩ := bcell hh1
       have hz1 := hh1.size
       try simp only [World.size_alloc] at hz1
       have hz1_0 : w.heap.size < w1.heap.size := by omega
       have kb1_0_0 : w1.cell? ⟨w.heap.size, 0, none⟩ = some (.int .i64 p) := by go_simp
       have kf1_0_0 : w1.frozen? ⟨w.heap.size, 0, none⟩ = false := by go_simp
       have kb1_0_1 : w1.cell? ⟨w.heap.size, 1, none⟩ = some (.int .i64 q) := by go_simp
       have kf1_0_1 : w1.frozen? ⟨w.heap.size, 1, none⟩ = false := by go_simp
       clear hc1 hf1
       go_wp2_with fail
       refine (l1In_no n 3 10000 _ HN.out).mono ?_
       rintro e wx ⟨rfl, rfl⟩
       go_wp2
       go_ret
       exact ⟨ret_bool HV.out.symm, by exact zb⟩
     | true =>
       obtain ⟨n1, n2⟩ := inB_true hn
       obtain ⟨m, rfl⟩ := Int.eq_ofNat_of_zero_le (show 0 ≤ n by omega)
       have HN := Lib.hid hn
       by_cases h2 : m % 2 = 0
       · have HV := Lib.hid (show passFirstB p q m = false by
           have : (m : Int) % 2 = 0 := by omega
           simp [passFirstB, this])
         have hT : ((m : Int) % 2 == 0) = true := by simp; omega
         clear hp hn h2
         go_enter Tryz.func102, Tryz.ntmps102
         go_wp2_with fail
         refine (specWeight_val p q _ _ HP.out rfl).mono ?_
         rintro e w1 ⟨rfl, hh1⟩
         obtain ⟨hc1, hf1⟩ := bcell hh1
         have hz1 := hh1.size
         try simp only [World.size_alloc] at hz1
         have hz1_0 : w.heap.size < w1.heap.size := by omega
         have kb1_0_0 : w1.cell? ⟨w.heap.size, 0, none⟩ = some (.int .i64 p) := by go_simp
         have kf1_0_0 : w1.frozen? ⟨w.heap.size, 0, none⟩ = false := by go_simp
         have kb1_0_1 : w1.cell? ⟨w.heap.size, 1, none⟩ = some (.int .i64 q) := by go_simp
         have kf1_0_1 : w1.frozen? ⟨w.heap.size, 1, none⟩ = false := by go_simp
         clear hc1 hf1
         go_wp2_with fail
         refine (l1In_yes _ 3 10000 _ HN.out).mono ?_
         rintro e wx ⟨rfl, rfl⟩
         go_wp2
         go_ret
         exact ⟨ret_bool HV.out.symm, by exact zb⟩
       · have hT : ((m : Int) % 2 == 0) = false := by simp; omega
         obtain ⟨g, hg⟩ : ∃ g, Int.gcd (m : Int) q = g := ⟨_, rfl⟩
         have HG := Lib.hid (show ((Int.gcd (m : Int) q : Nat) : Int) = (g : Int) by rw [hg])
         by_cases hg1 : g = 1
         · have hgb : ((g : Int) != 1) = false := by simp; omega
           obtain ⟨x, hx⟩ : ∃ x, p * p - 4 * q = x := ⟨_, rfl⟩
           obtain ⟨g', hg'⟩ : ∃ g', Int.gcd (m : Int) x = g' := ⟨_, rfl⟩
           have HG' := Lib.hid (show ((Int.gcd (m : Int) x : Nat) : Int) = (g' : Int) by rw [hg'])
           by_cases hg1' : g' = 1
           · have hgb' : ((g' : Int) != 1) = false := by simp; omega
             have hv := passFirstB_mk (p := p) hp hq (m := m) zO zO zO zO (by rw [hx]; omega)
             obtain ⟨e1, e2, e3⟩ := beside_is (p := p) (q := q) (m := m) zO
             obtain ⟨t, ht⟩ : ∃ t, besideN p q m = t := ⟨_, rfl⟩
             obtain ⟨s, hs⟩ : ∃ s, signV (p * p - 4 * q) m = s := ⟨_, rfl⟩
             rw [hs, ht] at e1
             rw [ht] at e2 e3 hv
             rw [hx] at hs HW b1 b2
             obtain ⟨X, hX⟩ : ∃ X, row p q 0 1 t % (m : Int) = X := ⟨_, rfl⟩
             rw [hX] at hv
             have HV := Lib.hid hv
             have HX := Lib.hid hX
             have hsb : signB x m = true := signB_mk zO zO zO zO zO
             have HSB := Lib.hid hsb
             have HS := Lib.hid ((signOfV_is hsb).trans hs)
             have hsr : -1 ≤ s ∧ s ≤ 1 := by omega
             clear hp hn h2 hg hg1 hx hg' hg1' hv ht hs hX hsb
             go_enter Tryz.func102, Tryz.ntmps102
             go_wp2_with fail
             refine (specWeight_val p q x _ HP.out HW.out).mono ?_
             rintro e w1 ⟨rfl, hh1⟩
             obtain ⟨hc1, hf1⟩ := bcell hh1
             have hz1 := hh1.size
             try simp only [World.size_alloc] at hz1
             have hz1_0 : w.heap.size < w1.heap.size := by omega
             have kb1_0_0 : w1.cell? ⟨w.heap.size, 0, none⟩ = some (.int .i64 p) := by go_simp
             have kf1_0_0 : w1.frozen? ⟨w.heap.size, 0, none⟩ = false := by go_simp
             have kb1_0_1 : w1.cell? ⟨w.heap.size, 1, none⟩ = some (.int .i64 q) := by go_simp
             have kf1_0_1 : w1.frozen? ⟨w.heap.size, 1, none⟩ = false := by go_simp
             clear hc1 hf1
             go_wp2_with fail
             refine (l1In_yes _ 3 10000 _ HN.out).mono ?_
             rintro e wx ⟨rfl, rfl⟩
             go_wp2_with fail
             refine (l1Common_is _ q g _ zO zO zO zO HG.out).mono ?_
             rintro e wx ⟨rfl, rfl⟩
             go_wp2_with fail
             refine (l1Common_is _ x g' _ zO zO zO zO HG'.out).mono ?_
             rintro e wx ⟨rfl, rfl⟩
             go_wp2_with fail
             refine (specSign_is x m s true _ HS.out HSB.out).mono ?_
             rintro e wx ⟨rfl, rfl⟩
             go_wp2_with fail
             refine (specFarFirst_at p q m t X _ _ zO HP.out zO zO zO HX.out).mono ?_
             rintro e w2 ⟨rfl, hh2⟩
             obtain ⟨hc2, hf2⟩ := bcell hh2
             have hz2 := hh2.size
             try simp only [World.size_alloc] at hz2
             have hz2_0 : w.heap.size < w2.heap.size := by omega
             have kb2_0_0 : w2.cell? ⟨w.heap.size, 0, none⟩ = some (.int .i64 p) := by go_simp
             have kf2_0_0 : w2.frozen? ⟨w.heap.size, 0, none⟩ = false := by go_simp
             have kb2_0_1 : w2.cell? ⟨w.heap.size, 1, none⟩ = some (.int .i64 q) := by go_simp
             have kf2_0_1 : w2.frozen? ⟨w.heap.size, 1, none⟩ = false := by go_simp
             clear hc2 hf2
             cases hc : (X == 0) with
             | true =>
               go_wp2
               go_ret
               exact ⟨ret_bool (by rw [HV.out, hc]), by exact zb⟩
             | false =>
               go_wp2
               go_ret
               exact ⟨ret_bool (by rw [HV.out, hc]), by exact zb⟩
           · have hgb' : ((g' : Int) != 1) = true := by simp; omega
             have HV := Lib.hid (show passFirstB p q m = false by
               have : ¬ Int.gcd (m : Int) (p * p - 4 * q) = 1 := by rw [hx, hg']; exact hg1'
               simp [passFirstB, this])
             rw [hx] at HW b1 b2
             clear hp hn h2 hg hg1 hx hg' hg1'
             go_enter Tryz.func102, Tryz.ntmps102
             go_wp2_with fail
             refine (specWeight_val p q x _ HP.out HW.out).mono ?_
             rintro e w1 ⟨rfl, hh1⟩
             obtain ⟨hc1, hf1⟩ := bcell hh1
             have hz1 := hh1.size
             try simp only [World.size_alloc] at hz1
             have hz1_0 : w.heap.size < w1.heap.size := by omega
             have kb1_0_0 : w1.cell? ⟨w.heap.size, 0, none⟩ = some (.int .i64 p) := by go_simp
             have kf1_0_0 : w1.frozen? ⟨w.heap.size, 0, none⟩ = false := by go_simp
             have kb1_0_1 : w1.cell? ⟨w.heap.size, 1, none⟩ = some (.int .i64 q) := by go_simp
             have kf1_0_1 : w1.frozen? ⟨w.heap.size, 1, none⟩ = false := by go_simp
             clear hc1 hf1
             go_wp2_with fail
             refine (l1In_yes _ 3 10000 _ HN.out).mono ?_
             rintro e wx ⟨rfl, rfl⟩
             go_wp2_with fail
             refine (l1Common_is _ q g _ zO zO zO zO HG.out).mono ?_
             rintro e wx ⟨rfl, rfl⟩
             go_wp2_with fail
             refine (l1Common_is _ x g' _ zO zO zO zO HG'.out).mono ?_
             rintro e wx ⟨rfl, rfl⟩
             go_wp2
             go_ret
             exact ⟨ret_bool HV.out.symm, by exact zb⟩
         · have hgb : ((g : Int) != 1) = true := by simp; omega
           have HV := Lib.hid (show passFirstB p q m = false by
             have : ¬ Int.gcd (m : Int) q = 1 := by rw [hg]; exact hg1
             simp [passFirstB, this])
           clear hp hn h2 hg hg1
           go_enter Tryz.func102, Tryz.ntmps102
           go_wp2_with fail
           refine (specWeight_val p q _ _ HP.out rfl).mono ?_
           rintro e w1 ⟨rfl, hh1⟩
           obtain ⟨hc1, hf1⟩ := bcell hh1
           have hz1 := hh1.size
           try simp only [World.size_alloc] at hz1
           have hz1_0 : w.heap.size < w1.heap.size := by omega
           have kb1_0_0 : w1.cell? ⟨w.heap.size, 0, none⟩ = some (.int .i64 p) := by go_simp
           have kf1_0_0 : w1.frozen? ⟨w.heap.size, 0, none⟩ = false := by go_simp
           have kb1_0_1 : w1.cell? ⟨w.heap.size, 1, none⟩ = some (.int .i64 q) := by go_simp
           have kf1_0_1 : w1.frozen? ⟨w.heap.size, 1, none⟩ = false := by go_simp
           clear hc1 hf1
           go_wp2_with fail
           refine (l1In_yes _ 3 10000 _ HN.out).mono ?_
           rintro e wx ⟨rfl, rfl⟩
           go_wp2_with fail
           refine (l1Common_is _ q g _ zO zO zO zO HG.out).mono ?_
           rintro e wx ⟨rfl, rfl⟩
           go_wp2
           go_ret
           exact ⟨ret_bool HV.out.symm, by exact zb⟩
theorem specPassFirst_is (p q l : Int) (c : Bool) (w : World) (h : passFirstB p q l = c) : Calls Tryz.prog 102 #[pr p q, .int .i64 l] w fun e w' => e = .returned (.bool c) ∧ Below w.heap.size w w' := by rw [← h]; exact specPassFirst_any p q l w
end
section
open Go.RowKit
def noneT : ByteArray := ⟨#[110, 111, 110, 101]⟩
def whatT : ByteArray := ⟨#[119, 104, 97, 116]⟩
def toldT (n : Int) (b : Bool) : ByteArray := if b = true then txt (numberT n) else noneT
def pairT (p q : Int) : ByteArray := (txt (numberT p) ++ ⟨#[44]⟩) ++ txt (numberT q)
def yesT (b : Bool) : ByteArray := if b = true then ⟨#[121, 101, 115]⟩ else ⟨#[110, 111]⟩
def writT (n : Int) : ByteArray := if n ≤ 10000 then writtenV n else noneT
def ask1 (p q n : Int) (w : ByteArray) : ByteArray :=
 if w.toList = [102, 105, 114, 115, 116] then toldT (firstV p q n) (atB p q n)
 else if w.toList = [115, 101, 99, 111, 110, 100] then toldT (secondV p q n) (atB p q n)
 else if w.toList = [114, 97, 110, 107] then toldT (rankV p q n) (rankB p q n)
 else if w.toList = [112, 101, 114, 105, 111, 100] then toldT (periodV p q n) (rankB p q n)
 else if w.toList = [112, 97, 115, 115, 101, 115] then yesT (passFirstB p q n && passSecondB p q n)
 else if w.toList = [119, 114, 105, 116, 116, 101, 110] then writT n
 else whatT
def ask2 (p q n m : Int) (w : ByteArray) : ByteArray :=
 if w.toList = [102, 97, 114] then toldT (farFirstV p q n m) (decide (0 ≤ farFirstV p q n m))
 else if w.toList = [99, 105, 114, 99, 108, 101] then toldT (circV n m) (circB n m)
 else whatT
def ask0 (p q : Int) (w : ByteArray) : ByteArray :=
 if w.toList = [112, 97, 105, 114] then pairT p q
 else if w.toList = [119, 101, 105, 103, 104, 116] then toldT (weightV p q) (pairB p q)
 else whatT
def askV (p q : Int) (w : ByteArray) : List Nat → ByteArray
 | [] => ask0 p q w
 | [n] => ask1 p q n w
 | [n, m] => ask2 p q n m w
 | _ => whatT
def ansV (p q : Int) (l : List UInt8) : ByteArray := match numsN ((wordsN [] l).drop 1) with
 | some ns => askV p q (txt ((wordsN [] l).getD 0 [])) ns
 | none => whatT
def Small (v : Int) : Prop := -9223372036854775807 ≤ v ∧ v ≤ 9223372036854775807
theorem first_small (p q n : Int) : Small (firstV p q n) := by
 unfold firstV
 split
 · rename_i h
   have hpn : pairB p q = true ∧ placeB n = true := by simpa [atB] using h
   obtain ⟨⟨h1, h2⟩, h3, h4⟩ := pairB_true hpn.1
   have hn := hpn.2
   simp only [placeB, decide_eq_true_eq] at hn
   have := row_small (a := 0) (b := 1) h1 h2 h3 h4 zO zO zO zO n.toNat zO
   exact ⟨by omega, by omega⟩
 · exact ⟨by omega, by omega⟩
theorem second_small (p q n : Int) : Small (secondV p q n) := by
 unfold secondV
 split
 · rename_i h
   have hpn : pairB p q = true ∧ placeB n = true := by simpa [atB] using h
   obtain ⟨⟨h1, h2⟩, h3, h4⟩ := pairB_true hpn.1
   have hn := hpn.2
   simp only [placeB, decide_eq_true_eq] at hn
   have := row_small (a := 2) (b := p) h1 h2 h3 h4 zO zO zO zO n.toNat zO
   exact ⟨by omega, by omega⟩
 · exact ⟨by omega, by omega⟩
theorem rank_small (p q n : Int) : Small (rankV p q n) := by
 cases h : rankB p q n with
 | true =>
   obtain ⟨_, _, _, _, k, rfl, k1, k4, ha⟩ := rankB_true h
   rw [rankV_is h]
   have := (rankN_spec (p := p) k k1 ha).2.2.1
   have hm : k * k ≤ 400 * 400 := Nat.mul_le_mul k4 k4
   exact ⟨by omega, by omega⟩
 | false => rw [rankV, if_neg (by simp [h])]; exact ⟨by omega, by omega⟩
theorem period_small (p q n : Int) : Small (periodV p q n) := by
 cases h : rankB p q n with
 | true =>
   obtain ⟨_, _, _, _, k, rfl, k1, k4, ha⟩ := rankB_true h
   rw [periodV_is h]
   have := (periodN_spec (p := p) k k1 ha).2.2.1
   have hm : k * k ≤ 400 * 400 := Nat.mul_le_mul k4 k4
   exact ⟨by omega, by omega⟩
 | false => rw [periodV, if_neg (by simp [h])]; exact ⟨by omega, by omega⟩
theorem far_small (p q n m : Int) : Small (farFirstV p q n m) := by
 unfold farFirstV
 split
 · rename_i h
   obtain ⟨_, _, m1, m2⟩ := farB_true h
   have h1 := Int.emod_nonneg (row p q 0 1 n.toNat) (show m ≠ 0 by omega)
   have h2 := Int.emod_lt_of_pos (row p q 0 1 n.toNat) (show 0 < m by omega)
   exact ⟨by omega, by omega⟩
 · exact ⟨by omega, by omega⟩
theorem weight_small (p q : Int) : Small (weightV p q) := by
 unfold weightV
 split
 · rename_i h
   obtain ⟨⟨h1, h2⟩, h3, h4⟩ := pairB_true h
   have h5 : p * p ≤ 16 := by
     rcases (show p = -4 ∨ p = -3 ∨ p = -2 ∨ p = -1 ∨ p = 0 ∨ p = 1 ∨ p = 2 ∨ p = 3 ∨ p = 4 by omega) with rfl | rfl | rfl | rfl | rfl | rfl | rfl | rfl | rfl <;> decide
   have h6 : 0 ≤ p * p := by
     rcases (show p = -4 ∨ p = -3 ∨ p = -2 ∨ p = -1 ∨ p = 0 ∨ p = 1 ∨ p = 2 ∨ p = 3 ∨ p = 4 by omega) with rfl | rfl | rfl | rfl | rfl | rfl | rfl | rfl | rfl <;> decide
   exact ⟨by omega, by omega⟩
 · exact ⟨by omega, by omega⟩
theorem circ_bound : ((List.range 101).all fun a => (List.range 101).all fun b => decide (circN a b ≤ 1000000)) = true := by decide +kernel
theorem circ_small (a b : Int) : Small (circV a b) := by
 cases h : circB a b with
 | true =>
   obtain ⟨m, j, rfl, rfl, h1, h2⟩ := circB_true h
   rw [circV_is h]
   have := of_decide_eq_true (List.all_eq_true.1 (List.all_eq_true.1 circ_bound m (List.mem_range.2 zO)) j (List.mem_range.2 zO))
   exact ⟨by omega, by omega⟩
 | false => rw [circV_no h]; exact ⟨by omega, by omega⟩
end
section
open Go.RowKit Go.Shelf
open Go.Maps (Keyed)
attribute [local go_sem] Oper.semAt_some
theorem intKeyed : Keyed Tryz.prog 3 := Maps.int_keyed Tryz.underlying3
theorem intZero (w : World) : (zeroValue 3).run Tryz.prog w = .ok (.int .i64 0) w := by kernel_rfl
theorem wf_nat {j : Nat} (h : j ≤ 1000000000) : (Lit.int .i64 (j : Int)).wf = true := WalkArith.wf_i64 zO
theorem intKey {j : Nat} (h : j ≤ 1000000000) : keyOf Tryz.prog 3 (.int .i64 (j : Int)) = some (.int .i64 (j : Int)) := Maps.keyOf_int_mk Tryz.underlying3 (wf_nat h)
theorem intElem {j : Nat} (h : j ≤ 1000000000) : plainElem (H := Unit) Tryz.prog 3 (.int .i64 (j : Int)) = some (.lit (.int .i64 (j : Int)), []) := plainElem_int Tryz.underlying3 (wf_nat h)
def MemoOk (p q : Int) (D : DataW Unit) : Prop := ∀ j : Nat, Maps.has D (.int .i64 (j : Int)) = true → D.atKey (.int .i64 (j : Int)) (.lit (.int .i64 0)) = .lit (.int .i64 (rankN p q j : Nat))
theorem MemoOk.empty (p q : Int) : MemoOk p q (.map []) := fun j h => by cases h
theorem MemoOk.put {p q : Int} {D : DataW Unit} (h : MemoOk p q D) (hD : Maps.IsMap D) (j : Nat) : MemoOk p q (D.put (.int .i64 (j : Int)) (.lit (.int .i64 (rankN p q j : Nat)))) := by
 intro i hi
 by_cases he : i = j
 · subst he
   exact Maps.atKey_put_same hD (show WideAt.IsKeyLit (Lit.int .i64 (i : Int)) from trivial) _ _
 · have hne : (Lit.int .i64 (i : Int)) ≠ (Lit.int .i64 (j : Int)) := fun e => he (by injection e with _ e; omega)
   rw [Maps.has_put_other hne] at hi
   rw [Maps.atKey_put_other hne]
   exact h i hi
def Memo (p q : Int) (K B b n : Nat) (W : World) : Prop :=
 (W.cell? ⟨K, 0, none⟩ = some (.map (some b)) ∧ W.cell? ⟨B, 0, none⟩ = some (.int .i64 p) ∧ W.cell? ⟨B, 1, none⟩ = some (.int .i64 q)) ∧
 ∃ D : DataW Unit, MemoOk p q D ∧ W.ownsMap Tryz.prog 3 (plainElem Tryz.prog 3) b n D
theorem grown_below {W W' : World} (h : Below W.heap.size W W') : W.grownBy W' none := ⟨h.os, h.tape, h.output, h.size, fun j hj _ => h.block j hj⟩
theorem Memo.below {p q : Int} {K B b n : Nat} {W W' : World} (h : Memo p q K B b n W) (hb : Below W.heap.size W W') : Memo p q K B b n W' := by
 obtain ⟨⟨x1, x2, x3⟩, D, x4, x5⟩ := h
 exact ⟨⟨cell_below hb x1, cell_below hb x2, cell_below hb x3⟩, D, x4, x5.kept (grown_below hb) (fun e => by cases e)⟩
theorem Memo.kept {p q : Int} {K B b n : Nat} {A V : World} {row : Option Nat} (h : Memo p q K B b n A) (hg : A.grownBy V row) (hr : ∀ r, row = some r → ∃ o : Obj, A.heap[r]? = some o ∧ o.isCells = false) (hne : some b ≠ row) : Memo p q K B b n V := by
 obtain ⟨⟨x1, x2, x3⟩, D, x4, x5⟩ := h
 exact ⟨⟨cell_kept x1 hg hr, cell_kept x2 hg hr, cell_kept x3 hg hr⟩, D, x4, x5.kept hg hne⟩
theorem Memo.set {p q : Int} {K B b n : Nat} {W : World} (h : Memo p q K B b n W) {S : Nat} (h1 : K < S) (h2 : B < S) (h3 : b < S) (o : Nat) (v : Value) : Memo p q K B b n (W.setCell ⟨S, o, none⟩ v) := by
 obtain ⟨⟨x1, x2, x3⟩, D, x4, x5⟩ := h
 exact ⟨⟨(set_other zO).trans x1, (set_other zO).trans x2, (set_other zO).trans x3⟩, D, x4, x5.setCell (a := ⟨S, o, none⟩) (by show b ≠ S; omega) v⟩
theorem Memo.mono {p q : Int} {K B b n n' : Nat} {W : World} (h : Memo p q K B b n W) (hn : n ≤ n') : Memo p q K B b n' W := by
 obtain ⟨x0, D, x4, x5⟩ := h
 exact ⟨x0, D, x4, x5.mono hn⟩
theorem Memo.lt {p q : Int} {K B b n : Nat} {W : World} (h : Memo p q K B b n W) : K < W.heap.size ∧ B < W.heap.size ∧ b < W.heap.size := by
 obtain ⟨⟨x1, x2, x3⟩, D, x4, x5⟩ := h
 exact ⟨World.block_lt_of_cell? _ _ x1, World.block_lt_of_cell? _ _ x2, x5.lt⟩
theorem Memo.isMap {p q : Int} {K B b n : Nat} {W : World} (h : Memo p q K B b n W) : ∃ es c, W.heap[b]? = some (.map es c) := by
 obtain ⟨_, D, _, es, c, hb, _⟩ := h
 exact ⟨es, c, hb⟩
theorem cells_map {w : World} {x b : Nat} {o : Nat} {v : Value} (h : w.cell? ⟨x, o, none⟩ = some v) {es : Array MapEntry} {c : Nat} (hb : w.heap[b]? = some (.map es c)) : some x ≠ some b := by
 intro e
 injection e with e
 subst e
 simp [World.cell?, hb] at h
theorem length_prodL : ∀ L : List Nat, (∀ x ∈ L, 2 ≤ x) → L.length + 1 ≤ prodL L
 | [], _ => Nat.le_refl 1
 | x :: L, h => by
   have h1 := length_prodL L (fun y hy => h y (List.mem_cons_of_mem _ hy))
   have h2 := Nat.mul_le_mul (h x (List.mem_cons_self ..)) h1
   simp only [List.length_cons, prodL]
   omega
theorem ppL_len {n : Nat} (hn : 1 ≤ n) : (ppL n).length < n := by
 obtain ⟨a, b, _⟩ := ppL_spec hn
 have := length_prodL _ b
 omega
set_option maxHeartbeats 1000000 in
theorem ranksBy_any (p q : Int) (w : World) :
   Calls Tryz.prog 173 #[pr p q] w fun e w' => e = .returned (.func (.func 203) #[] #[.pointer (some ⟨w.heap.size + 1 + 1, 0, none⟩), .pointer (some ⟨w.heap.size, 0, none⟩)]) ∧ Memo p q (w.heap.size + 1 + 1) w.heap.size (w.heap.size + 1) 0 w' ∧ Below w.heap.size w w' := by
 have hmf : ∀ (fn : Fn) (first cap : Array Value) (w : World), (Instr.makeFunc fn first cap).run Tryz.prog w = .ok (.func fn first cap) w := fun _ _ _ _ => rfl
 have hmm := @run_makeMap Tryz.prog
 have hO := World.ownsMap_made (H := Unit) (w.alloc (.cells #[.int .i64 p, .int .i64 q] 29)) Tryz.prog 3 (plainElem Tryz.prog 3)
 rw [World.size_alloc] at hO
 have HO := Lib.hid hO
 clear hO
 go_enter Tryz.func173, Tryz.ntmps173
 go_wp2
 go_ret
 refine ⟨rfl, ⟨⟨by go_simp, by go_simp, by go_simp⟩, _, MemoOk.empty p q, ?_⟩, by exact zb⟩
 exact HO.out.alloc _
end
section
open Go.RowKit Go.Shelf
attribute [local go_sem] Oper.semAt_some
theorem wide_asks (k : FuncId) : Fence.wide.fn k = True := rfl
attribute [local go_sem] wide_asks
def NumBox (S : Nat) (v : Int) (W : World) : Prop := W.cell? ⟨S, 0, none⟩ = some (.int .i64 v) ∧ W.frozen? ⟨S, 0, none⟩ = false
theorem NumBox.below {S : Nat} {v : Int} {W W' : World} (h : NumBox S v W) (hb : Below W.heap.size W W') : NumBox S v W' := ⟨cell_below hb h.1, frozen_below hb h.1 h.2⟩
theorem NumBox.kept {S : Nat} {v : Int} {A V : World} {row : Option Nat} (h : NumBox S v A) (hg : A.grownBy V row) (hr : ∀ r, row = some r → ∃ o : Obj, A.heap[r]? = some o ∧ o.isCells = false) : NumBox S v V := ⟨cell_kept h.1 hg hr, (frozen_kept h.1 hg hr).trans h.2⟩
theorem NumBox.set {S : Nat} {v : Int} {W : World} (h : NumBox S v W) (u : Int) : NumBox S u (W.setCell ⟨S, 0, none⟩ (.int .i64 u)) := ⟨set_same h.1, set_frozen h.2⟩
theorem grown_num {w W : World} {b S : Nat} (h : w.grownBy W (some b)) (hS : w.heap.size ≤ S) (o : Nat) (v : Value) : w.grownBy (W.setCell ⟨S, o, none⟩ v) (some b) :=
 h.andThen (grown_set (gr_refl W S) o v) (fun j e => by injection e with e; subst e; exact .inl hS)
theorem grown_then {w W W' : World} {b : Nat} (h : w.grownBy W (some b)) (hb : Below W.heap.size W W') : w.grownBy W' (some b) := h.andThen (grown_below hb) (fun j e => by cases e)
set_option maxRecDepth 100000 in
set_option maxHeartbeats 8000000 in
theorem ranksFn_at (p q : Int) (j K B b n : Nat) (w : World) (hr : rankB p q j = true) (hm : Memo p q K B b n w) (hn : n ≤ 1000000) :
   Calls Tryz.prog 203 #[.int .i64 j, .pointer (some ⟨K, 0, none⟩), .pointer (some ⟨B, 0, none⟩)] w fun e w' => e = .returned (.int .i64 (rankN p q j : Nat)) ∧ Memo p q K B b (n + 400) w' ∧ w.grownBy w' (some b) := by
 obtain ⟨hp, _, _, _, k, hk, j1, j2, ha⟩ := rankB_true hr
 obtain rfl : j = k := by omega
 clear hr hk
 have hlt := hm.lt
 have hlen := ppL_len j1
 have HP := Lib.hid hp
 have HA := Lib.hid ha
 clear hp
 refine (callsIn_wide (n := 9)).1 ?_
 refine callsIn_of_wp_marks Tryz.func203 rfl trivial ?_ rfl
 simp only [Tryz.ntmps203, List.size_toArray, List.length_cons, List.length_nil, Nat.reduceAdd, Nat.reduceSub, Array.replicate_succ, Array.replicate_zero, List.push_toArray, List.append_toArray, List.nil_append, List.cons_append]
 gi_wp2_with fail
 refine (callsIn_wide.2 (primePowers_any j _)).mono ?_
 rintro e w1 ⟨rfl, rfl⟩
 gi_wp2_with fail
 refine wpIn_rangeFunc_counted_map (P := Tryz.prog) rfl zO (gf := 219) (lb := #[.pointer (some ⟨w.heap.size + 1, 0, none⟩)]) rfl trivial (enters_of Tryz.func219 (by kernel_rfl) rfl)
   (primePowers_counted 8 zO j (w.heap.size + 1) _ j1 zO) (Below.refl _ _) (fun _ => rfl)
   (fun k W => Memo p q K B b (n + k) W ∧ NumBox w.heap.size (rankN p q (ppK j k) : Nat) W ∧ W.cell? ⟨w.heap.size + 1, 0, none⟩ = some (.int .i64 j) ∧ w.grownBy W (some b))
   (fun _ _ _ => False) ?own (fun _ _ _ _ _ h _ _ => h) (fun _ _ h => h.2.2.1) ?start
   (fun k => { tmps := #[.int .i64 j, .pointer (some ⟨K, 0, none⟩), .pointer (some ⟨B, 0, none⟩), undef, .int .i64 0, .pointer (some ⟨w.heap.size, 0, none⟩), .int .i64 ((ppL j).getD k 0 : Nat), undef, undef, .int .i64 j, .func (.func 219) #[] #[.pointer (some ⟨w.heap.size + 1, 0, none⟩)], .int .i64 ((ppL j).getD k 0 : Nat), undef, undef, undef, undef, undef, undef, undef, undef, undef, undef, undef, undef, undef, undef, undef, undef, undef, undef, undef], defers := [] })
   ?assign ?body ?done (fun _ _ _ _ _ _ h _ => h.elim)
 case own =>
   rintro k A V row ⟨x0, x1, x2, x3⟩ hg hr
   have hr' := fun r e => (hr r e).2
   have hge : ∀ r, row = some r → w.heap.size + 1 + 1 ≤ r := fun r e => by have := (hr r e).1; simpa using this
   exact ⟨x0.kept hg hr' (fun e => by have := hge b e.symm; omega), x1.kept hg hr', cell_kept x2 hg hr', x3.andThen hg (fun r e => .inl (by have := hge r e; omega))⟩
 case start =>
   have hL : Below w.heap.size w ((w.alloc (.cells #[.int .i64 1] 3)).alloc (.cells #[.int .i64 (j : Int)] 3)) := by
     exact zb
   refine ⟨hm.below hL, ⟨?_, ?_⟩, ?_, (grown_below hL).but _⟩
   · rw [ppK_zero, rankN_one]; go_simp
   · go_simp
   · go_simp
 case assign =>
   intro l k W K hK
   gi_wp2
   exact hK
 case body =>
   rintro l k W hk ⟨hmW, hbx, hmb, hgW⟩
   obtain ⟨s1, s2, s3, s4, s5, s6⟩ := pp_step j1 hk
   have HRK := Lib.hid (rank_pp (p := p) j1 HA.out hk)
   have hxj : (ppL j).getD k 0 ≤ j := Nat.le_of_dvd j1 s4
   have hKj : ppK j k ≤ j := Nat.le_of_dvd j1 s6
   have hK1 : 1 ≤ ppK j k := Nat.pos_of_dvd_of_pos s6 j1
   obtain ⟨R1, R2⟩ := rank_bd (p := p) hK1 zO (HA.out.of_nat_dvd s6)
   obtain ⟨Y1, Y2⟩ := rank_bd (p := p) (show 1 ≤ (ppL j).getD k 0 by omega) zO (HA.out.of_nat_dvd s4)
   have HAX := Lib.hid (HA.out.of_nat_dvd s4)
   clear s1 s2 s4 s5 s6
   try dsimp only
   obtain ⟨x, hx⟩ : ∃ x, (ppL j).getD k 0 = x := ⟨_, rfl⟩
   rw [hx] at HRK hxj Y1 Y2 HAX s3 ⊢
   obtain ⟨R, hR⟩ : ∃ R, rankN p q (ppK j k) = R := ⟨_, rfl⟩
   rw [hR] at HRK R1 R2 hbx
   have HL := Lib.hid (show ((Nat.lcm R (rankN p q x) : Nat) : Int) = (rankN p q (ppK j (k + 1)) : Nat) by rw [HRK.out])
   have hx9 : x ≤ 1000000000 := by omega
   have hsz := hgW.size
   have HM := Lib.hid hmW
   have HX := Lib.hid hbx
   have HG := Lib.hid hgW
   have HJ := Lib.hid hmb
   obtain ⟨⟨x1, x2, x3⟩, D, x4, x5⟩ := hmW
   obtain ⟨y1, y2⟩ := hbx
   clear hgW hmb HRK hx hR hKj hK1
   gi_wp2_with (gi_at_lookup; refine wpListIn_lookup_own_ok_int _ rfl _ _ 204 rfl 3 3 .i64 intKeyed Tryz.underlying204 Tryz.underlying3 (intZero _) b _ D rfl x5 _ _ rfl (intKey hx9) ?_)
   intro c hat hwc
   clear hat hwc
   cases hh : Maps.has D (.int .i64 (x : Int)) with
   | true =>
     gi_wp2_with (gi_at_lookup; refine wpListIn_lookup_own_int _ rfl _ _ 204 rfl 3 3 .i64 intKeyed Tryz.underlying204 Tryz.underlying3 (intZero _) b _ D rfl x5 _ _ rfl (intKey hx9) ?_)
     intro c2 hat2 hwc2
     rw [x4 x hh] at hat2
     injection hat2 with hat2
     injection hat2 with _ hat2
     subst hat2
     gi_wp2_with fail
     refine (CallsIn.inRound l (callsIn_wide.2 (leastMultiple_at _ _ _ _ R1 Y1 zO zO HL.out))).mono ?_
     rintro e w7 ⟨rfl, hh7⟩
     have z1 := cell_below hh7 y1
     have z2 := frozen_below hh7 y1 y2
     have HH7 := Lib.hid hh7
     clear hh7 x1 x2 x3 y1 y2
     gi_wp2
     refine ⟨keepsOthers_recs ((keepsOthers_below HH7.out).trans (KeepsOthers.setCell _ _ _)), ((HM.out.below HH7.out).set hlt.1 hlt.2.1 hlt.2.2 _ _).mono zO, (HX.out.below HH7.out).set _, (set_other zO).trans (cell_below HH7.out HJ.out), grown_num (grown_then HG.out HH7.out) (Nat.le_refl _) _ _⟩
   | false =>
     obtain ⟨S, hSd⟩ : ∃ S : World → Prop, (fun V => Below W.heap.size W V) = S := ⟨_, rfl⟩
     have hkeep : ∀ V V' : World, S V → Below V.heap.size V V' → S V' := by rw [← hSd]; exact fun V V' h hb => h.trans (hb.mono h.size)
     have g1 : ∀ i : KeptBy S, i.world.cell? ⟨K, 0, none⟩ = some (.map (some b)) := by rw [← hSd]; exact fun i => cell_below i.ok x1
     have g2 : ∀ i : KeptBy S, i.world.cell? ⟨B, 0, none⟩ = some (.int .i64 p) := by rw [← hSd]; exact fun i => cell_below i.ok x2
     have g3 : ∀ i : KeptBy S, i.world.cell? ⟨B, 1, none⟩ = some (.int .i64 q) := by rw [← hSd]; exact fun i => cell_below i.ok x3
     have g5 : Nonempty (KeptBy S) := ⟨⟨W.drew, by rw [← hSd]; exact (Below.refl _ _).drew⟩⟩
     gi_wp2_with fail
     refine wpIn_region_last_at (S := S) 5 rfl (by rw [← hSd]; exact (Below.refl _ _).drew) rfl (by kernel_rfl) (by kernel_rfl) (by kernel_rfl) (by kernel_rfl) rfl ?_
     simp only [List.take_succ_cons, List.take_zero, List.cons_append, List.nil_append, idle]
     repeat (gi_big_quiet_step ((first | (gi_at_call 205; refine (callsIn_wide.2 (firstNought_at p q x _ HP.out zO zO HAX.out)).mono ?_; rintro e w' ⟨rfl, hhw⟩; exact ⟨rfl, ⟨w', hkeep _ _ (KeptBy.ok _) hhw⟩, rfl⟩) | fail)))
     refine wpQuietIn_nil ?_
     intro z hz
     rw [← hSd] at hz
     have bz : Below W.heap.size W z := hz
     clear hz g1 g2 g3 g5 hkeep hSd
     gi_at_mapUpdate
     refine wpListIn_mapUpdate_own _ rfl _ _ _ 204 rfl 3 3 intKeyed Tryz.underlying204 _ b (n + k) D rfl (x5.kept (grown_below bz) (fun e => by cases e)) (by unfold maxLen; omega) _ _ _ rfl rfl (intKey hx9) _ [] (intElem (j := rankN p q x) zO) ?_
     intro w4 hown4 hgrow4
     have hmz := (HM.out.below bz).isMap
     obtain ⟨es, c9, hes⟩ := hmz
     have u1 : w4.cell? ⟨K, 0, none⟩ = some (.map (some b)) := hgrow4.cell (cell_below bz x1) (cells_map (cell_below bz x1) hes)
     have u2 : w4.cell? ⟨B, 0, none⟩ = some (.int .i64 p) := hgrow4.cell (cell_below bz x2) (cells_map (cell_below bz x2) hes)
     have u3 : w4.cell? ⟨B, 1, none⟩ = some (.int .i64 q) := hgrow4.cell (cell_below bz x3) (cells_map (cell_below bz x3) hes)
     have v1 : w4.cell? ⟨w.heap.size, 0, none⟩ = some (.int .i64 R) := hgrow4.cell (cell_below bz y1) (cells_map (cell_below bz y1) hes)
     have v2 : w4.frozen? ⟨w.heap.size, 0, none⟩ = false := (hgrow4.frozen_far ⟨w.heap.size, 0, none⟩ (World.block_lt_of_cell? _ _ (cell_below bz y1)) (cells_map (cell_below bz y1) hes)).trans (frozen_below bz y1 y2)
     have v3 : w4.cell? ⟨w.heap.size + 1, 0, none⟩ = some (.int .i64 j) := hgrow4.cell (cell_below bz HJ.out) (cells_map (cell_below bz HJ.out) hes)
     have ok4 := x4.put x5.isMap x
     have has4 : Maps.has (D.put (.int .i64 (x : Int)) (.lit (.int .i64 (rankN p q x : Nat)))) (.int .i64 (x : Int)) = true := Maps.has_put_same x5.isMap (show WideAt.IsKeyLit (Lit.int .i64 (x : Int)) from trivial) _
     have HM4 := Lib.hid (show Memo p q K B b (n + k + 1) w4 from ⟨⟨u1, u2, u3⟩, _, ok4, hown4⟩)
     have HG4 := Lib.hid ((grown_then HG.out bz).trans hgrow4)
     have HK4 := Lib.hid ((keepsOthers_recs (keepsOthers_below bz)).trans (KeepsRecs.map hgrow4 ⟨es, c9, hes⟩))
     have V3 := Lib.hid v3
     clear hgrow4 bz x1 x2 x3 y1 y2 u2 u3 hes x5 v3
     gi_wp2_with (gi_at_lookup; refine wpListIn_lookup_own_int _ rfl _ _ 204 rfl 3 3 .i64 intKeyed Tryz.underlying204 Tryz.underlying3 (intZero _) b _ _ rfl hown4 _ _ rfl (intKey hx9) ?_)
     intro c2 hat2 hwc2
     rw [ok4 x has4] at hat2
     injection hat2 with hat2
     injection hat2 with _ hat2
     subst hat2
     gi_wp2_with fail
     refine (CallsIn.inRound l (callsIn_wide.2 (leastMultiple_at _ _ _ _ R1 Y1 zO zO HL.out))).mono ?_
     rintro e w7 ⟨rfl, hh7⟩
     have z1 := cell_below hh7 v1
     have z2 := frozen_below hh7 v1 v2
     have HH7 := Lib.hid hh7
     have VB := Lib.hid (show NumBox w.heap.size R w4 from ⟨v1, v2⟩)
     clear hh7 u1 v1 v2
     gi_wp2
     refine ⟨HK4.out.trans (keepsOthers_recs ((keepsOthers_below HH7.out).trans (KeepsOthers.setCell _ _ _))), ((HM4.out.below HH7.out).set hlt.1 hlt.2.1 hlt.2.2 _ _).mono zO, (VB.out.below HH7.out).set _, (set_other zO).trans (cell_below HH7.out V3.out), grown_num (grown_then HG4.out HH7.out) (Nat.le_refl _) _ _⟩
 case done =>
   rintro E W hE ⟨hmW, hbx, hmb, hgW⟩ hK
   rw [ppK_all j1] at hbx
   have HM := Lib.hid hmW
   have HG := Lib.hid hgW
   have HK := Lib.hid hK
   have HE := Lib.hid hE
   obtain ⟨y1, y2⟩ := hbx
   clear hmW hgW hK hE hmb
   gi_wp2
   refine ⟨by simp, .inl ⟨_, _, rfl, run_takeDeferred HK.out, ?_⟩⟩
   have hE' : w.heap.size + 1 + 1 ≤ E := by have := HE.out; simpa using this
   exact ⟨_, by simp [results, Tryz.results203, go_sem], rfl, (HM.out.kept (grownBy_putObj' _ E (.deferred none)) (fun r e => by cases e; exact ⟨_, HK.out, rfl⟩) (fun e => by injection e with e; omega)).mono zO, HG.out.andThen (grownBy_putObj' _ E (.deferred none)) (fun r e => by cases e; exact .inl zO)⟩
end
section
open Go.RowKit
theorem Memo.far {p q : Int} {K B b n : Nat} {A V : World} {row : Option Nat} (h : Memo p q K B b n A) (hg : A.grownBy V row) (h1 : some K ≠ row) (h2 : some B ≠ row) (h3 : some b ≠ row) : Memo p q K B b n V := by
 obtain ⟨⟨x1, x2, x3⟩, D, x4, x5⟩ := h
 exact ⟨⟨hg.cell x1 h1, hg.cell x2 h2, hg.cell x3 h2⟩, D, x4, x5.kept hg h3⟩
set_option maxHeartbeats 2000000 in
theorem implRank_any (p q m : Int) (w : World) : Calls Tryz.prog 150 #[pr p q, .int .i64 m] w fun e w' => e = .returned (.tuple #[.int .i64 (rankV p q m), .bool (rankB p q m)]) ∧ Below w.heap.size w w' := by
 cases h : rankB p q m with
 | false =>
   have HB := Lib.hid h
   have HV := Lib.hid (show rankV p q m = -1 by rw [rankV, if_neg (by simp [h])])
   clear h
   go_enter Tryz.func150, Tryz.ntmps150
   go_wp2_with fail
   refine (rankedOk_is p q m false _ HB.out).mono ?_
   rintro e w1 ⟨rfl, hh1⟩
   obtain ⟨hc1, hf1⟩ := bcell hh1
   have hz1 := hh1.size
   try simp only [World.size_alloc] at hz1
   have hz1_0 : w.heap.size < w1.heap.size := by omega
   have kb1_0_0 : w1.cell? ⟨w.heap.size, 0, none⟩ = some (.int .i64 p) := by go_simp
   have kf1_0_0 : w1.frozen? ⟨w.heap.size, 0, none⟩ = false := by go_simp
   have kb1_0_1 : w1.cell? ⟨w.heap.size, 1, none⟩ = some (.int .i64 q) := by go_simp
   have kf1_0_1 : w1.frozen? ⟨w.heap.size, 1, none⟩ = false := by go_simp
   clear hc1 hf1
   go_wp2
   go_ret2
   exact ⟨ret_int_bool HV.out.symm rfl, by exact zb⟩
 | true =>
   obtain ⟨_, _, _, _, k, rfl, _, _, _⟩ := rankB_true h
   have HB := Lib.hid h
   have HV := Lib.hid (rankV_is h)
   clear h
   go_enter Tryz.func150, Tryz.ntmps150
   go_wp2_with fail
   refine (rankedOk_is p q k true _ HB.out).mono ?_
   rintro e w1 ⟨rfl, hh1⟩
   obtain ⟨hc1, hf1⟩ := bcell hh1
   have hz1 := hh1.size
   try simp only [World.size_alloc] at hz1
   have hz1_0 : w.heap.size < w1.heap.size := by omega
   have kb1_0_0 : w1.cell? ⟨w.heap.size, 0, none⟩ = some (.int .i64 p) := by go_simp
   have kf1_0_0 : w1.frozen? ⟨w.heap.size, 0, none⟩ = false := by go_simp
   have kb1_0_1 : w1.cell? ⟨w.heap.size, 1, none⟩ = some (.int .i64 q) := by go_simp
   have kf1_0_1 : w1.frozen? ⟨w.heap.size, 1, none⟩ = false := by go_simp
   clear hc1 hf1
   go_wp2_with fail
   refine (ranksBy_any p q _).mono ?_
   rintro e w2 ⟨rfl, hm2, hh2⟩
   obtain ⟨hc2, hf2⟩ := bcell hh2
   have hz2 := hh2.size
   try simp only [World.size_alloc] at hz2
   go_wp2_with fail
   refine (ranksFn_at p q k _ _ _ 0 _ HB.out hm2 zO).mono ?_
   rintro e w3 ⟨rfl, _, hg3⟩
   go_wp2
   go_ret2
   exact ⟨ret_int_bool HV.out.symm rfl, by exact zb⟩
end
section
open Go.RowKit
set_option maxHeartbeats 1000000 in
theorem againFn_at (x y a b : Int) (S : Nat) (w : World) (hs0 : w.cell? ⟨S, 0, none⟩ = some (.int .i64 a)) (hs1 : w.cell? ⟨S, 1, none⟩ = some (.int .i64 b)) :
   Calls Tryz.prog 176 #[pr x y, .pointer (some ⟨S, 0, none⟩)] w fun e w' => e = .returned (.bool (x == a && y == b)) ∧ Below w.heap.size w w' := by
 have hlt := World.block_lt_of_cell? _ _ hs0
 go_enter Tryz.func176, Tryz.ntmps176
 go_wp2
 all_goals go_ret
 all_goals refine ⟨ret_bool (by simp_all), by exact zb⟩
theorem left_periodN {p q : Int} {k : Nat} (k1 : 1 ≤ k) (ha : Apart (k : Int) q) (n : Nat) (h1 : 1 ≤ n) (h2 : n ≤ periodN p q k) : (row p q 0 1 n % (k : Int) == 0 && row p q 0 1 (n + 1) % (k : Int) == 1 % (k : Int)) = decide (n = periodN p q k) := period_left k1 ha n h1 h2
set_option maxRecDepth 100000 in
set_option maxHeartbeats 8000000 in
theorem placeAgain_at (p q : Int) (k : Nat) (w : World) (hp : pairB p q = true) (k1 : 1 ≤ k) (k2 : k ≤ 10000) (ha : Apart (k : Int) q) (S : Nat) (hs0 : w.cell? ⟨S, 0, none⟩ = some (.int .i64 0)) (hs1 : w.cell? ⟨S, 1, none⟩ = some (.int .i64 (1 % (k : Int)))) :
   Calls Tryz.prog 175 #[pr p q, .int .i64 k, .func (.func 176) #[] #[.pointer (some ⟨S, 0, none⟩)]] w fun e w' => e = .returned (.int .i64 (periodN p q k)) ∧ Below w.heap.size w w' := by
 obtain ⟨⟨r1, r2⟩, r3, r4⟩ := pairB_true hp
 obtain ⟨_, b1, b2, _⟩ := periodN_spec (p := p) k k1 ha
 have b3 : periodN p q k ≤ 100000000 := Nat.le_trans b2 (Nat.mul_le_mul k2 k2)
 have HL := Lib.hid (left_periodN (p := p) k1 ha)
 obtain ⟨R, hR⟩ : ∃ R, periodN p q k = R := ⟨_, rfl⟩
 rw [hR] at b1 b3 HL ⊢
 have m1 : (1 : Int) ≤ (k : Int) := by omega
 have m2 : (k : Int) ≤ 10000 := by omega
 obtain ⟨z1, z2⟩ := left_bd 1 k m1
 have E1 := Lib.hid (show (1 : Int) % (k : Int) = row p q 0 1 1 % (k : Int) by simp [row])
 have E2 := Lib.hid (show (p * ((1 : Int) % (k : Int)) - q * 0) % (k : Int) = row p q 0 1 2 % (k : Int) by
   have := far_next p q k 0
   simpa [row] using this)
 have e0 : (0 : Int) < (k : Int) := by omega
 have hS0 := World.block_lt_of_cell? _ _ hs0
 have hS1 := World.block_lt_of_cell? _ _ hs1
 clear hp hR ha b2
 go_enter Tryz.func175, Tryz.ntmps175
 go_wp2_with fail
 go_cut [8] from 9 to 13 (fun v wx => ∃ B : Nat, w.heap.size < B ∧ v = .pointer (some ⟨B, 0, none⟩) ∧ wx.cell? ⟨B, 0, none⟩ = some (.int .i64 (row p q 0 1 1 % (k : Int))) ∧ wx.cell? ⟨B, 1, none⟩ = some (.int .i64 (row p q 0 1 2 % (k : Int))) ∧ wx.frozen? ⟨B, 0, none⟩ = false ∧ wx.frozen? ⟨B, 1, none⟩ = false ∧ wx.cell? ⟨w.heap.size, 0, none⟩ = some (.int .i64 p) ∧ wx.cell? ⟨w.heap.size, 1, none⟩ = some (.int .i64 q) ∧ Below w.heap.size w wx)
 case first =>
   go_region_with ((first | (go_at_call 174; refine (leftAtStart_at k _ m1 m2).mono ?_; rintro e w2 ⟨rfl, hh2⟩; have hz2 := hh2.size; (try simp at hz2); have hzl2 : w.heap.size < w2.heap.size := zO; have kx0 := (hh2.cell (p := ⟨w.heap.size, 0, none⟩) zo); have kx1 := (hh2.cell (p := ⟨w.heap.size, 1, none⟩) zo); (first | (have ks0_0 := (hh2.cell (p := ⟨w.heap.size + 1, 0, none⟩) (by first | omega | (simp <;> omega) | fail)); have kg0_0 := (hh2.frozen (p := ⟨w.heap.size + 1, 0, none⟩) (by first | omega | (simp <;> omega) | fail))) | skip); (first | (have ks0_1 := (hh2.cell (p := ⟨w.heap.size + 1, 1, none⟩) (by first | omega | (simp <;> omega) | fail)); have kg0_1 := (hh2.frozen (p := ⟨w.heap.size + 1, 1, none⟩) (by first | omega | (simp <;> omega) | fail))) | skip)) | (go_at_call 207; refine (goneOn_at 0 _ p q k r1 r2 r3 r4 m1 m2 (Int.le_refl 0) e0 z1 z2 _ _ E2.out).mono ?_; rintro e w3 ⟨rfl, hh2⟩; have hz3 := hh2.size; (try simp at hz3); have hzl3 : w.heap.size < w3.heap.size := zO; have kx0 := (hh2.cell (p := ⟨w.heap.size, 0, none⟩) zo); have kx1 := (hh2.cell (p := ⟨w.heap.size, 1, none⟩) zo); (first | (have ks0_0 := (hh2.cell (p := ⟨w.heap.size + 1, 0, none⟩) (by first | omega | (simp <;> omega) | fail)); have kg0_0 := (hh2.frozen (p := ⟨w.heap.size + 1, 0, none⟩) (by first | omega | (simp <;> omega) | fail))) | skip); (first | (have ks0_1 := (hh2.cell (p := ⟨w.heap.size + 1, 1, none⟩) (by first | omega | (simp <;> omega) | fail)); have kg0_1 := (hh2.frozen (p := ⟨w.heap.size + 1, 1, none⟩) (by first | omega | (simp <;> omega) | fail))) | skip); (first | (have ks1_0 := (hh2.cell (p := ⟨w2.heap.size, 0, none⟩) (by first | omega | (simp <;> omega) | fail)); have kg1_0 := (hh2.frozen (p := ⟨w2.heap.size, 0, none⟩) (by first | omega | (simp <;> omega) | fail))) | skip); (first | (have ks1_1 := (hh2.cell (p := ⟨w2.heap.size, 1, none⟩) (by first | omega | (simp <;> omega) | fail)); have kg1_1 := (hh2.frozen (p := ⟨w2.heap.size, 1, none⟩) (by first | omega | (simp <;> omega) | fail))) | skip)) | fail))
   all_goals (go_wp2_with fail; go_meet)
   all_goals
     case rel =>
       refine ⟨_, ?_, rfl, ?_, ?_, ?_, ?_, ?_, ?_, ?_⟩
       · first | omega | (simp <;> omega)
       · rw [← E1.out]; go_simp
       · go_simp
       · go_simp
       · go_simp
       · go_simp
       · go_simp
       · exact zb
 case rest =>
   obtain ⟨B, hB, rfl, c0, c1, f0, f1, cp, cq, hbl⟩ := hcut
   have sx0 := cell_below hbl hs0
   have sx1 := cell_below hbl hs1
   go_wp2_with fail
   go_loopw [7] (fun c wr => ∃ n : Nat, 1 ≤ n ∧ n ≤ R ∧ c = .int .i64 n ∧ wr.cell? ⟨B, 0, none⟩ = some (.int .i64 (row p q 0 1 n % (k : Int))) ∧ wr.cell? ⟨B, 1, none⟩ = some (.int .i64 (row p q 0 1 (n + 1) % (k : Int))) ∧ wr.frozen? ⟨B, 0, none⟩ = false ∧ wr.frozen? ⟨B, 1, none⟩ = false ∧ wr.cell? ⟨w.heap.size, 0, none⟩ = some (.int .i64 p) ∧ wr.cell? ⟨w.heap.size, 1, none⟩ = some (.int .i64 q) ∧ Below w.heap.size w wr ∧ wr.cell? ⟨S, 0, none⟩ = some (.int .i64 0) ∧ wr.cell? ⟨S, 1, none⟩ = some (.int .i64 (1 % (k : Int)))) (fun c _ => R - (intOf c).toNat)
   case atStart => exact ⟨1, Nat.le_refl 1, b1, rfl, c0, c1, f0, f1, cp, cq, hbl, sx0, sx1⟩
   case round =>
     obtain ⟨n, n1, n2, rfl, d0, d1, g0, g1, dp, dq, hb2, sd0, sd1⟩ := hrel
     have HB := Lib.hid hb2
     clear hb2 c0 c1 f0 f1 cp cq hbl
     go_wp2_with fail
     refine (againFn_at _ _ _ _ S _ sd0 sd1).mono ?_
     rintro e w4 ⟨rfl, hh4⟩
     have j0 := cell_below hh4 d0
     have j1 := cell_below hh4 d1
     have l0 := frozen_below hh4 d0 g0
     have l1 := frozen_below hh4 d1 g1
     have jp := cell_below hh4 dp
     have jq := cell_below hh4 dq
     have sj0 := cell_below hh4 sd0
     have sj1 := cell_below hh4 sd1
     have HB4 := Lib.hid (HB.out.trans (hh4.mono HB.out.size))
     clear d0 d1 g0 g1 dp dq hh4 HB
     by_cases he : n = R
     · have ht : (row p q 0 1 n % (k : Int) == 0 && row p q 0 1 (n + 1) % (k : Int) == 1 % (k : Int)) = true := by rw [HL.out n n1 n2]; simpa using he
       have HE := Lib.hid he
       clear he
       go_wp2
       go_ret
       exact ⟨ret_int (by rw [HE.out]), HB4.out⟩
     · have ht : (row p q 0 1 n % (k : Int) == 0 && row p q 0 1 (n + 1) % (k : Int) == 1 % (k : Int)) = false := by rw [HL.out n n1 n2]; simpa using he
       obtain ⟨a0, a1⟩ := left_bd (row p q 0 1 n) k m1
       obtain ⟨e1, e2⟩ := left_bd (row p q 0 1 (n + 1)) k m1
       have E := Lib.hid (far_next p q k n)
       have hBl := World.block_lt_of_cell? _ _ j0
       go_wp2_with fail
       refine (goneOn_at _ _ p q k r1 r2 r3 r4 m1 m2 a0 a1 e1 e2 _ _ E.out).mono ?_
       rintro e w5 ⟨rfl, hh5⟩
       have i0 := cell_below hh5 j0
       have i1 := cell_below hh5 j1
       have o0 := frozen_below hh5 j0 l0
       have o1 := frozen_below hh5 j1 l1
       have ip := cell_below hh5 jp
       have iq := cell_below hh5 jq
       have si0 := cell_below hh5 sj0
       have si1 := cell_below hh5 sj1
       have hnS : ¬ S = B := by omega
       have HB5 := Lib.hid (HB4.out.trans (hh5.mono HB4.out.size))
       clear j0 j1 l0 l1 jp jq hh5
       have hnw : ¬ w.heap.size = B := by omega
       go_wp2
       go_roundw
       case rel => exact ⟨n + 1, by omega, by omega, congrArg (Value.int .i64) zO, by go_simp, by go_simp, by go_simp, by go_simp, by go_simp, by go_simp, (HB5.out.setCell (p := ⟨B, 0, none⟩) (by show w.heap.size ≤ B; omega) _).setCell (p := ⟨B, 1, none⟩) (by show w.heap.size ≤ B; omega) _, by go_simp, by go_simp⟩
       case measure => simp [intOf]; omega
end
section
open Go.RowKit
set_option maxHeartbeats 4000000 in
theorem implPeriod_any (p q m : Int) (w : World) : Calls Tryz.prog 151 #[pr p q, .int .i64 m] w fun e w' => e = .returned (.tuple #[.int .i64 (periodV p q m), .bool (rankB p q m)]) ∧ Below w.heap.size w w' := by
 have hmf : ∀ (fn : Fn) (first cap : Array Value) (w : World), (Instr.makeFunc fn first cap).run Tryz.prog w = .ok (.func fn first cap) w := fun _ _ _ _ => rfl
 cases h : rankB p q m with
 | false =>
   have HB := Lib.hid h
   have HV := Lib.hid (periodV_no h)
   clear h
   go_enter Tryz.func151, Tryz.ntmps151
   go_wp2_with fail
   refine (rankedOk_is p q m false _ HB.out).mono ?_
   rintro e w1 ⟨rfl, hh1⟩
   obtain ⟨hc1, hf1⟩ := bcell hh1
   have hz1 := hh1.size
   try simp only [World.size_alloc] at hz1
   have hz1_0 : w.heap.size < w1.heap.size := by omega
   have kb1_0_0 : w1.cell? ⟨w.heap.size, 0, none⟩ = some (.int .i64 p) := by go_simp
   have kf1_0_0 : w1.frozen? ⟨w.heap.size, 0, none⟩ = false := by go_simp
   have kb1_0_1 : w1.cell? ⟨w.heap.size, 1, none⟩ = some (.int .i64 q) := by go_simp
   have kf1_0_1 : w1.frozen? ⟨w.heap.size, 1, none⟩ = false := by go_simp
   clear hc1 hf1
   go_wp2
   go_ret2
   exact ⟨ret_int_bool HV.out.symm rfl, by exact zb⟩
 | true =>
   obtain ⟨hp, _, _, _, k, rfl, k1, k2, ha⟩ := rankB_true h
   have HB := Lib.hid h
   have HP := Lib.hid hp
   have HA := Lib.hid ha
   have HV := Lib.hid (periodV_is h)
   have m1 : (1 : Int) ≤ (k : Int) := by omega
   have m2 : (k : Int) ≤ 10000 := by omega
   clear h hp ha
   go_enter Tryz.func151, Tryz.ntmps151
   go_wp2_with fail
   refine (rankedOk_is p q k true _ HB.out).mono ?_
   rintro e w1 ⟨rfl, hh1⟩
   obtain ⟨hc1, hf1⟩ := bcell hh1
   have hz1 := hh1.size
   try simp only [World.size_alloc] at hz1
   have hz1_0 : w.heap.size < w1.heap.size := by omega
   have kb1_0_0 : w1.cell? ⟨w.heap.size, 0, none⟩ = some (.int .i64 p) := by go_simp
   have kf1_0_0 : w1.frozen? ⟨w.heap.size, 0, none⟩ = false := by go_simp
   have kb1_0_1 : w1.cell? ⟨w.heap.size, 1, none⟩ = some (.int .i64 q) := by go_simp
   have kf1_0_1 : w1.frozen? ⟨w.heap.size, 1, none⟩ = false := by go_simp
   clear hc1 hf1
   go_wp2_with fail
   refine (leftAtStart_at k _ m1 m2).mono ?_
   rintro e w2 ⟨rfl, hh2⟩
   obtain ⟨hc2, hf2⟩ := bcell hh2
   have hz2 := hh2.size
   try simp only [World.size_alloc] at hz2
   have hz2_0 : w.heap.size < w2.heap.size := by omega
   have kb2_0_0 : w2.cell? ⟨w.heap.size, 0, none⟩ = some (.int .i64 p) := by go_simp
   have kf2_0_0 : w2.frozen? ⟨w.heap.size, 0, none⟩ = false := by go_simp
   have kb2_0_1 : w2.cell? ⟨w.heap.size, 1, none⟩ = some (.int .i64 q) := by go_simp
   have kf2_0_1 : w2.frozen? ⟨w.heap.size, 1, none⟩ = false := by go_simp
   clear hc2 hf2
   go_wp2_with fail
   refine (placeAgain_at p q k _ HP.out k1 zO HA.out w2.heap.size (by go_simp) (by go_simp)).mono ?_
   rintro e w3 ⟨rfl, hh3⟩
   go_wp2
   go_ret2
   exact ⟨ret_int_bool HV.out.symm rfl, by exact zb⟩
end
section
open Go.RowKit
set_option maxHeartbeats 400000 in
theorem testedOk_any (n : Int) (w : World) :
   Calls Tryz.prog 181 #[.int .i64 n] w fun e w' => e = .returned (.bool (inB n 1 10000)) ∧ w = w' := by
 by_cases h1 : 1 ≤ n
 · by_cases h2 : n ≤ 10000
   · have H := Lib.hid (inB_mk h1 h2)
     go_enter Tryz.func181, Tryz.ntmps181
     go_wp2
     go_ret
     exact ⟨ret_bool H.out.symm, rfl⟩
   · have H := Lib.hid (inB_no (n := n) (a := 1) (b := 10000) zO)
     have h2' : 10000 < n := by omega
     go_enter Tryz.func181, Tryz.ntmps181
     go_wp2
     go_ret
     exact ⟨ret_bool H.out.symm, rfl⟩
 · have H := Lib.hid (inB_no (n := n) (a := 1) (b := 10000) zO)
   have h1' : n < 1 := by omega
   go_enter Tryz.func181, Tryz.ntmps181
   go_wp2
   go_ret
   exact ⟨ret_bool H.out.symm, rfl⟩
theorem testedOk_is (n : Int) (c : Bool) (w : World) (h : inB n 1 10000 = c) : Calls Tryz.prog 181 #[.int .i64 n] w fun e w' => e = .returned (.bool c) ∧ w = w' := by have := testedOk_any n w; rw [h] at this; exact this
def oddTB (n : Int) : Bool := inB n 1 10000 && decide (n % 2 ≠ 0)
set_option maxHeartbeats 400000 in
theorem oddTested_any (n : Int) (w : World) :
   Calls Tryz.prog 208 #[.int .i64 n] w fun e w' => e = .returned (.bool (oddTB n)) ∧ w = w' := by
 cases hn : inB n 1 10000 with
 | false =>
   have HV := Lib.hid (show oddTB n = false by simp [oddTB, hn])
   have HN := Lib.hid hn
   clear hn
   go_enter Tryz.func208, Tryz.ntmps208
   go_wp2_with fail
   refine (testedOk_is _ false _ HN.out).mono ?_
   rintro e wx ⟨rfl, rfl⟩
   go_wp2
   go_ret
   exact ⟨ret_bool HV.out.symm, rfl⟩
 | true =>
   obtain ⟨n1, n2⟩ := inB_true hn
   have HN := Lib.hid hn
   by_cases h2 : n % 2 = 0
   · have HV := Lib.hid (show oddTB n = false by simp [oddTB, h2])
     have hT : (n % 2 == 1) = false := by simp; omega
     clear hn h2
     go_enter Tryz.func208, Tryz.ntmps208
     go_wp2_with fail
     refine (testedOk_is _ true _ HN.out).mono ?_
     rintro e wx ⟨rfl, rfl⟩
     go_wp2
     go_ret
     exact ⟨ret_bool HV.out.symm, rfl⟩
   · have HV := Lib.hid (show oddTB n = true by simp [oddTB, h2, hn])
     have hT : (n % 2 == 1) = true := by simp; omega
     clear hn h2
     go_enter Tryz.func208, Tryz.ntmps208
     go_wp2_with fail
     refine (testedOk_is _ true _ HN.out).mono ?_
     rintro e wx ⟨rfl, rfl⟩
     go_wp2
     go_ret
     exact ⟨ret_bool HV.out.symm, rfl⟩
theorem oddTested_is (n : Int) (c : Bool) (w : World) (h : oddTB n = c) : Calls Tryz.prog 208 #[.int .i64 n] w fun e w' => e = .returned (.bool c) ∧ w = w' := by have := oddTested_any n w; rw [h] at this; exact this
theorem signV_one (n : Int) : signV n 1 = 1 := by simp [signV, jac_zero]
set_option maxRecDepth 100000 in
set_option maxHeartbeats 8000000 in
theorem signFor_at : ∀ (N m : Nat), m ≤ N → ∀ (n : Int) (w : World), 1 ≤ m → m ≤ 10000 → m % 2 = 1 → -10000 ≤ n → n ≤ 10000 →
   Calls Tryz.prog 209 #[.int .i64 n, .int .i64 m] w fun e w' => e = .returned (.int .i64 (signV n m)) ∧ w = w' := by
 intro N
 induction N with
 | zero => intro m hm n w h1; omega
 | succ N ih =>
   intro m hmN n w m1 m2 m3 n1 n2
   by_cases he : m = 1
   · subst he
     have HV := Lib.hid (signV_one n)
     clear ih
     go_enter Tryz.func209, Tryz.ntmps209
     go_wp2
     go_ret
     exact ⟨ret_int HV.out.symm, rfl⟩
   · have hne : ((m : Int) == 1) = false := by simp; omega
     have i1 : (1 : Int) ≤ (m : Int) := by omega
     have i3 : (m : Int) ≤ 1000000000000 := by omega
     obtain ⟨r, hr, hrm⟩ := left_nat n m1
     have HR := Lib.hid hr
     have HJ := Lib.hid (show jac r m = signV n m by rw [signV, hr]; rfl)
     have IH := Lib.hid ih
     clear hr ih
     by_cases hr0 : r = 0
     · subst hr0
       have HV := Lib.hid (show signV n m = 0 by rw [← HJ.out, jac_zero, if_pos zO])
       go_enter Tryz.func209, Tryz.ntmps209
       go_wp2_with fail
       refine (leftOf_at n m ((0 : Nat) : Int) _ i1 i3 HR.out).mono ?_
       rintro e wx ⟨rfl, rfl⟩
       go_wp2
       go_ret
       exact ⟨ret_int HV.out.symm, rfl⟩
     · have hrz : ((r : Int) == 0) = false := by simp; omega
       go_enter Tryz.func209, Tryz.ntmps209
       go_wp2_with fail
       refine (leftOf_at n m r _ i1 i3 HR.out).mono ?_
       rintro e wx ⟨rfl, rfl⟩
       go_wp2_with fail
       go_loop [5, 6] (fun x z => ∃ (a : Nat) (s : Int), 1 ≤ a ∧ a ≤ r ∧ x = .int .i64 a ∧ z = .int .i64 s ∧ (-1 ≤ s ∧ s ≤ 1) ∧ s * jac a m = jac r m) (fun x _ => (intOf x).toNat)
       case atStart => exact ⟨r, 1, by omega, by omega, rfl, rfl, by omega, by rw [Int.one_mul]⟩
       case round =>
         obtain ⟨a, s, a1, a2, rfl, rfl, hs, hj⟩ := hrel
         have HJ2 := Lib.hid hj
         clear hj
         obtain ⟨s1, s2⟩ := hs
         have US : IntKind.i64.wrap (-s) = -s := by rw [IntKind.wrap_i64]; omega
         by_cases he2 : a % 2 = 0
         · have hT3 : ((a : Int) % 2 == 0) = true := by simp; omega
           obtain ⟨c, hc⟩ : ∃ c, a / 2 = c := ⟨_, rfl⟩
           have hD : (a : Int) / 2 = (c : Int) := by rw [← hc]; simp
           have hca : c < a := by omega
           have hc1 : 1 ≤ c := by omega
           have HN2 := Lib.hid (sgn_even HJ2.out zO he2)
           rw [hc] at HN2
           have hcr : c ≤ r := by omega
           clear he2 hc
           by_cases h3 : m % 8 = 3
           · have g3 : ((m : Int) % 8 == 3) = true := by simp; omega
             rw [if_pos (.inl h3)] at HN2
             go_wp2
             go_round
             case rel => exact ⟨c, -s, hc1, hcr, rfl, rfl, by omega, HN2.out⟩
             case measure => simp [intOf]; omega
           · have g3 : ((m : Int) % 8 == 3) = false := by simp; omega
             by_cases h5 : m % 8 = 5
             · have g5 : ((m : Int) % 8 == 5) = true := by simp; omega
               rw [if_pos (.inr h5)] at HN2
               go_wp2
               go_round
               case rel => exact ⟨c, -s, hc1, hcr, rfl, rfl, by omega, HN2.out⟩
               case measure => simp [intOf]; omega
             · have g5 : ((m : Int) % 8 == 5) = false := by simp; omega
               rw [if_neg zO] at HN2
               go_wp2
               go_round
               case rel => exact ⟨c, s, hc1, hcr, rfl, rfl, by omega, HN2.out⟩
               case measure => simp [intOf]; omega
         · have hT3 : ((a : Int) % 2 == 0) = false := by simp; omega
           have HN2 := Lib.hid (sgn_odd HJ2.out he2)
           have HA := Lib.hid (show jac (m % a) a = signV (m : Int) a by rw [signV]; congr 1)
           have hodd : a % 2 = 1 := by omega
           have hcs := signV_cases (m : Int) a
           rw [HA.out] at HN2
           clear he2
           by_cases h3 : a % 4 = 3 ∧ m % 4 = 3
           · obtain ⟨h3, h4⟩ := h3
             have g3 : ((a : Int) % 4 == 3) = true := by simp; omega
             have g4 : ((m : Int) % 4 == 3) = true := by simp; omega
             rw [if_pos ⟨h3, h4⟩] at HN2
             have HF := Lib.hid (HN2.out.trans HJ.out)
             go_wp2_with fail
             refine (IH.out a zO m _ a1 zO hodd zO zO).mono ?_
             rintro e wx ⟨rfl, rfl⟩
             have UM : IntKind.i64.wrap (-s * signV (m : Int) a) = -s * signV (m : Int) a := by
               rw [IntKind.wrap_i64]; rcases hcs with h | h | h <;> rw [h] <;> omega
             go_wp2
             go_ret
             exact ⟨ret_int HF.out, rfl⟩
           · rw [if_neg h3] at HN2
             have HF := Lib.hid (HN2.out.trans HJ.out)
             by_cases h4 : a % 4 = 3
             · have g3 : ((a : Int) % 4 == 3) = true := by simp; omega
               have g4 : ((m : Int) % 4 == 3) = false := by simp; omega
               go_wp2_with fail
               refine (IH.out a zO m _ a1 zO hodd zO zO).mono ?_
               rintro e wx ⟨rfl, rfl⟩
               have UM : IntKind.i64.wrap (s * signV (m : Int) a) = s * signV (m : Int) a := by
                 rw [IntKind.wrap_i64]; rcases hcs with h | h | h <;> rw [h] <;> omega
               go_wp2
               go_ret
               exact ⟨ret_int HF.out, rfl⟩
             · have g3 : ((a : Int) % 4 == 3) = false := by simp; omega
               go_wp2_with fail
               refine (IH.out a zO m _ a1 zO hodd zO zO).mono ?_
               rintro e wx ⟨rfl, rfl⟩
               have UM : IntKind.i64.wrap (s * signV (m : Int) a) = s * signV (m : Int) a := by
                 rw [IntKind.wrap_i64]; rcases hcs with h | h | h <;> rw [h] <;> omega
               go_wp2
               go_ret
               exact ⟨ret_int HF.out, rfl⟩
theorem signFor_is (m : Nat) (n v : Int) (w : World) (m1 : 1 ≤ m) (m2 : m ≤ 10000) (m3 : m % 2 = 1) (n1 : -10000 ≤ n) (n2 : n ≤ 10000) (hv : signV n m = v) :
   Calls Tryz.prog 209 #[.int .i64 n, .int .i64 m] w fun e w' => e = .returned (.int .i64 v) ∧ w = w' := by rw [← hv]; exact signFor_at m m (Nat.le_refl _) n w m1 m2 m3 n1 n2
end
section
open Go.RowKit
set_option maxRecDepth 100000 in
set_option maxHeartbeats 8000000 in
theorem implPassSecond_any (p q n : Int) (w : World) : Calls Tryz.prog 153 #[pr p q, .int .i64 n] w fun e w' => e = .returned (.bool (passSecondB p q n)) ∧ Below w.heap.size w w' := by
 have kb0 : (w.alloc (.cells #[.int .i64 p, .int .i64 q] 29)).cell? ⟨w.heap.size, 0, none⟩ = some (.int .i64 p) := by go_simp
 have kb1 : (w.alloc (.cells #[.int .i64 p, .int .i64 q] 29)).cell? ⟨w.heap.size, 1, none⟩ = some (.int .i64 q) := by go_simp
 have hal : Below w.heap.size w (w.alloc (.cells #[.int .i64 p, .int .i64 q] 29)) := by exact zb
 obtain ⟨w0, hw0⟩ : ∃ w0, (w.alloc (.cells #[.int .i64 p, .int .i64 q] 29)) = w0 := ⟨_, rfl⟩
 have HW0 := Lib.hid hw0
 rw [hw0] at kb0 kb1 hal
 clear hw0
 cases hp : pairB p q with
 | false =>
   have HV := Lib.hid (show passSecondB p q n = false by simp [passSecondB, hp])
   have HP := Lib.hid hp
   clear hp
   go_enter Tryz.func153, Tryz.ntmps153
   go_wp2_with fail
   rw [HW0.out]
   obtain ⟨S, hSd⟩ : ∃ S : World → Prop, (fun V => Below w0.heap.size w0 V) = S := ⟨_, rfl⟩
   have hkeep : ∀ V V' : World, S V → Below V.heap.size V V' → S V' := by rw [← hSd]; exact fun V V' h hb => h.trans (hb.mono h.size)
   have gk0 : ∀ iq : KeptBy S, iq.world.cell? ⟨w.heap.size, 0, none⟩ = some (.int .i64 p) := by rw [← hSd]; exact fun iq => cell_below iq.ok kb0
   have gk1 : ∀ iq : KeptBy S, iq.world.cell? ⟨w.heap.size, 1, none⟩ = some (.int .i64 q) := by rw [← hSd]; exact fun iq => cell_below iq.ok kb1
   have gkn : Nonempty (KeptBy S) := ⟨⟨w0.drew, by rw [← hSd]; exact (Below.refl _ _).drew⟩⟩
   go_wp2_with fail
   refine wp_region_kept (S := S) (by rw [← hSd]; exact (Below.refl _ _).drew) (by kernel_rfl) (by kernel_rfl) ?_
   repeat (go_big_quiet_step ((first | (go_at_call 60; refine (implPairOk_no p q _ HP.out).mono ?_; rintro e w' ⟨rfl, hhw⟩; exact ⟨rfl, ⟨w', hkeep _ _ (KeptBy.ok _) hhw⟩, rfl⟩) | fail)))
   refine wpQuiet_nil ?_
   rintro wz ⟨iz, hwz⟩
   have bwz : Below w0.heap.size w0 wz := by
     have this : S wz := by rw [hwz]; exact iz.ok
     rw [← hSd] at this
     exact this
   clear hwz iz gkn hkeep hSd gk0 gk1
   go_wp2
   go_ret
   exact ⟨ret_bool HV.out.symm, hal.trans (bwz.mono hal.size)⟩
 | true =>
   have HP := Lib.hid hp
   cases ht : inB n 1 10000 with
   | false =>
     have HV := Lib.hid (show passSecondB p q n = false by
       cases hn : inB n 2 10000 with
       | false => simp [passSecondB, hn]
       | true => obtain ⟨n1, n2⟩ := inB_true hn; rw [inB_mk zO n2] at ht; cases ht)
     have HT := Lib.hid ht
     clear hp ht
     go_enter Tryz.func153, Tryz.ntmps153
     go_wp2_with fail
     rw [HW0.out]
     obtain ⟨S, hSd⟩ : ∃ S : World → Prop, (fun V => Below w0.heap.size w0 V) = S := ⟨_, rfl⟩
     have hkeep : ∀ V V' : World, S V → Below V.heap.size V V' → S V' := by rw [← hSd]; exact fun V V' h hb => h.trans (hb.mono h.size)
     have gk0 : ∀ iq : KeptBy S, iq.world.cell? ⟨w.heap.size, 0, none⟩ = some (.int .i64 p) := by rw [← hSd]; exact fun iq => cell_below iq.ok kb0
     have gk1 : ∀ iq : KeptBy S, iq.world.cell? ⟨w.heap.size, 1, none⟩ = some (.int .i64 q) := by rw [← hSd]; exact fun iq => cell_below iq.ok kb1
     have gkn : Nonempty (KeptBy S) := ⟨⟨w0.drew, by rw [← hSd]; exact (Below.refl _ _).drew⟩⟩
     go_wp2_with fail
     refine wp_region_kept (S := S) (by rw [← hSd]; exact (Below.refl _ _).drew) (by kernel_rfl) (by kernel_rfl) ?_
     repeat (go_big_quiet_step ((first | (go_at_call 60; refine (implPairOk_yes p q _ HP.out).mono ?_; rintro e w' ⟨rfl, hhw⟩; exact ⟨rfl, ⟨w', hkeep _ _ (KeptBy.ok _) hhw⟩, rfl⟩) | (go_at_call 181; refine (testedOk_is n false _ HT.out).mono ?_; rintro e w' ⟨rfl, rfl⟩; exact ⟨rfl, _, rfl⟩) | fail)))
     refine wpQuiet_nil ?_
     rintro wz ⟨iz, hwz⟩
     have bwz : Below w0.heap.size w0 wz := by
       have this : S wz := by rw [hwz]; exact iz.ok
       rw [← hSd] at this
       exact this
     clear hwz iz gkn hkeep hSd gk0 gk1
     go_wp2
     go_ret
     exact ⟨ret_bool HV.out.symm, hal.trans (bwz.mono hal.size)⟩
   | true =>
     obtain ⟨n1, n2⟩ := inB_true ht
     obtain ⟨k, rfl⟩ := Int.eq_ofNat_of_zero_le (show 0 ≤ n by omega)
     have HT := Lib.hid ht
     by_cases h1 : k = 1
     · subst h1
       have HV := Lib.hid (show passSecondB p q ((1 : Nat) : Int) = false by simp [passSecondB, inB])
       have hne : (((1 : Nat) : Int) != 1) = false := by simp
       clear hp ht
       go_enter Tryz.func153, Tryz.ntmps153
       go_wp2_with fail
       rw [HW0.out]
       obtain ⟨S, hSd⟩ : ∃ S : World → Prop, (fun V => Below w0.heap.size w0 V) = S := ⟨_, rfl⟩
       have hkeep : ∀ V V' : World, S V → Below V.heap.size V V' → S V' := by rw [← hSd]; exact fun V V' h hb => h.trans (hb.mono h.size)
       have gk0 : ∀ iq : KeptBy S, iq.world.cell? ⟨w.heap.size, 0, none⟩ = some (.int .i64 p) := by rw [← hSd]; exact fun iq => cell_below iq.ok kb0
       have gk1 : ∀ iq : KeptBy S, iq.world.cell? ⟨w.heap.size, 1, none⟩ = some (.int .i64 q) := by rw [← hSd]; exact fun iq => cell_below iq.ok kb1
       have gkn : Nonempty (KeptBy S) := ⟨⟨w0.drew, by rw [← hSd]; exact (Below.refl _ _).drew⟩⟩
       go_wp2_with fail
       refine wp_region_kept (S := S) (by rw [← hSd]; exact (Below.refl _ _).drew) (by kernel_rfl) (by kernel_rfl) ?_
       repeat (go_big_quiet_step ((first | (go_at_call 60; refine (implPairOk_yes p q _ HP.out).mono ?_; rintro e w' ⟨rfl, hhw⟩; exact ⟨rfl, ⟨w', hkeep _ _ (KeptBy.ok _) hhw⟩, rfl⟩) | (go_at_call 181; refine (testedOk_is _ true _ HT.out).mono ?_; rintro e w' ⟨rfl, rfl⟩; exact ⟨rfl, _, rfl⟩) | fail)))
       refine wpQuiet_nil ?_
       rintro wz ⟨iz, hwz⟩
       have bwz : Below w0.heap.size w0 wz := by
         have this : S wz := by rw [hwz]; exact iz.ok
         rw [← hSd] at this
         exact this
       clear hwz iz gkn hkeep hSd gk0 gk1
       go_wp2
       go_ret
       exact ⟨ret_bool HV.out.symm, hal.trans (bwz.mono hal.size)⟩
     · have hne : ((k : Int) != 1) = true := by simp; omega
       obtain ⟨x, hx⟩ : ∃ x, row p q 2 p k % (k : Int) = x := ⟨_, rfl⟩
       obtain ⟨y, hy⟩ : ∃ y, p % (k : Int) = y := ⟨_, rfl⟩
       have HV := Lib.hid (show passSecondB p q k = (x == y) by rw [passSecondB, hp, inB_mk (show (2 : Int) ≤ (k : Int) by omega) n2, ← hx, ← hy]; simp)
       have HX := Lib.hid hx
       have HY := Lib.hid hy
       have i1 : (1 : Int) ≤ (k : Int) := by omega
       have i3 : (k : Int) ≤ 1000000000000 := by omega
       clear hp ht hx hy
       cases hxy : (x == y) with
       | true =>
         go_enter Tryz.func153, Tryz.ntmps153
         go_wp2_with fail
         rw [HW0.out]
         obtain ⟨S, hSd⟩ : ∃ S : World → Prop, (fun V => Below w0.heap.size w0 V) = S := ⟨_, rfl⟩
         have hkeep : ∀ V V' : World, S V → Below V.heap.size V V' → S V' := by rw [← hSd]; exact fun V V' h hb => h.trans (hb.mono h.size)
         have gk0 : ∀ iq : KeptBy S, iq.world.cell? ⟨w.heap.size, 0, none⟩ = some (.int .i64 p) := by rw [← hSd]; exact fun iq => cell_below iq.ok kb0
         have gk1 : ∀ iq : KeptBy S, iq.world.cell? ⟨w.heap.size, 1, none⟩ = some (.int .i64 q) := by rw [← hSd]; exact fun iq => cell_below iq.ok kb1
         have gkn : Nonempty (KeptBy S) := ⟨⟨w0.drew, by rw [← hSd]; exact (Below.refl _ _).drew⟩⟩
         go_wp2_with fail
         refine wp_region_kept (S := S) (by rw [← hSd]; exact (Below.refl _ _).drew) (by kernel_rfl) (by kernel_rfl) ?_
         repeat (go_big_quiet_step ((first | (go_at_call 60; refine (implPairOk_yes p q _ HP.out).mono ?_; rintro e w' ⟨rfl, hhw⟩; exact ⟨rfl, ⟨w', hkeep _ _ (KeptBy.ok _) hhw⟩, rfl⟩) | (go_at_call 181; refine (testedOk_is _ true _ HT.out).mono ?_; rintro e w' ⟨rfl, rfl⟩; exact ⟨rfl, _, rfl⟩) | (go_at_call 182; refine (implFarSecond_at p q k k x _ _ rfl HP.out zO zO zO HX.out).mono ?_; rintro e w' ⟨rfl, hhw⟩; exact ⟨rfl, ⟨w', hkeep _ _ (KeptBy.ok _) hhw⟩, rfl⟩) | (go_at_call 183; refine (leftOf_at p k y _ i1 i3 HY.out).mono ?_; rintro e w' ⟨rfl, rfl⟩; exact ⟨rfl, _, rfl⟩) | fail)))
         refine wpQuiet_nil ?_
         rintro wz ⟨iz, hwz⟩
         have bwz : Below w0.heap.size w0 wz := by
           have this : S wz := by rw [hwz]; exact iz.ok
           rw [← hSd] at this
           exact this
         clear hwz iz gkn hkeep hSd gk0 gk1
         go_wp2
         go_ret
         exact ⟨ret_bool (by rw [HV.out, hxy]), hal.trans (bwz.mono hal.size)⟩
       | false =>
         go_enter Tryz.func153, Tryz.ntmps153
         go_wp2_with fail
         rw [HW0.out]
         obtain ⟨S, hSd⟩ : ∃ S : World → Prop, (fun V => Below w0.heap.size w0 V) = S := ⟨_, rfl⟩
         have hkeep : ∀ V V' : World, S V → Below V.heap.size V V' → S V' := by rw [← hSd]; exact fun V V' h hb => h.trans (hb.mono h.size)
         have gk0 : ∀ iq : KeptBy S, iq.world.cell? ⟨w.heap.size, 0, none⟩ = some (.int .i64 p) := by rw [← hSd]; exact fun iq => cell_below iq.ok kb0
         have gk1 : ∀ iq : KeptBy S, iq.world.cell? ⟨w.heap.size, 1, none⟩ = some (.int .i64 q) := by rw [← hSd]; exact fun iq => cell_below iq.ok kb1
         have gkn : Nonempty (KeptBy S) := ⟨⟨w0.drew, by rw [← hSd]; exact (Below.refl _ _).drew⟩⟩
         go_wp2_with fail
         refine wp_region_kept (S := S) (by rw [← hSd]; exact (Below.refl _ _).drew) (by kernel_rfl) (by kernel_rfl) ?_
         repeat (go_big_quiet_step ((first | (go_at_call 60; refine (implPairOk_yes p q _ HP.out).mono ?_; rintro e w' ⟨rfl, hhw⟩; exact ⟨rfl, ⟨w', hkeep _ _ (KeptBy.ok _) hhw⟩, rfl⟩) | (go_at_call 181; refine (testedOk_is _ true _ HT.out).mono ?_; rintro e w' ⟨rfl, rfl⟩; exact ⟨rfl, _, rfl⟩) | (go_at_call 182; refine (implFarSecond_at p q k k x _ _ rfl HP.out zO zO zO HX.out).mono ?_; rintro e w' ⟨rfl, hhw⟩; exact ⟨rfl, ⟨w', hkeep _ _ (KeptBy.ok _) hhw⟩, rfl⟩) | (go_at_call 183; refine (leftOf_at p k y _ i1 i3 HY.out).mono ?_; rintro e w' ⟨rfl, rfl⟩; exact ⟨rfl, _, rfl⟩) | fail)))
         refine wpQuiet_nil ?_
         rintro wz ⟨iz, hwz⟩
         have bwz : Below w0.heap.size w0 wz := by
           have this : S wz := by rw [hwz]; exact iz.ok
           rw [← hSd] at this
           exact this
         clear hwz iz gkn hkeep hSd gk0 gk1
         go_wp2
         go_ret
         exact ⟨ret_bool (by rw [HV.out, hxy]), hal.trans (bwz.mono hal.size)⟩
def askedB (p q n : Int) : Bool := pairB p q && (oddTB n && decide (n ≠ 1))
theorem askedB_true {p q n : Int} (h : askedB p q n = true) : ∃ m : Nat, n = m ∧ pairB p q = true ∧ 3 ≤ m ∧ m ≤ 10000 ∧ m % 2 = 1 := by
 have h' : pairB p q = true ∧ (inB n 1 10000 = true ∧ ¬ n % 2 = 0) ∧ ¬ n = 1 := by simpa [askedB, oddTB] using h
 obtain ⟨hp, ⟨hn, h2⟩, h1⟩ := h'
 obtain ⟨n1, n2⟩ := inB_true hn
 obtain ⟨m, rfl⟩ := Int.eq_ofNat_of_zero_le (show 0 ≤ n by omega)
 exact ⟨m, rfl, hp, by omega, by omega, by omega⟩
def apartMB (p q : Int) (m : Nat) : Bool := decide (Int.gcd m q = 1) && decide (Int.gcd m (p * p - 4 * q) = 1)
def besideMB (p q : Int) (m : Nat) : Bool := row p q 0 1 (besideN p q m) % (m : Int) == 0
theorem passFirst_not {p q n : Int} (h : askedB p q n = false) : passFirstB p q n = false := by
 cases hb : passFirstB p q n with
 | false => rfl
 | true =>
   obtain ⟨m, rfl, hp, hq, h1, h2, h3, _⟩ := passFirstB_true hb
   have : askedB p q m = true := by
     have e1 : ¬ (m : Int) % 2 = 0 := by omega
     have e2 : ¬ (m : Int) = 1 := by omega
     simp [askedB, oddTB, hp, inB_mk (show (1 : Int) ≤ (m : Int) by omega) (show (m : Int) ≤ 10000 by omega), e1]
     omega
   rw [this] at h; cases h
theorem passFirst_is {p q : Int} {m : Nat} (hp : pairB p q = true) (h1 : 3 ≤ m) (h2 : m ≤ 10000) (h3 : m % 2 = 1) : passFirstB p q m = (apartMB p q m && besideMB p q m) := by
 by_cases hq : q = 0
 · subst hq
   have : ¬ m = 1 := by omega
   simp [passFirstB, apartMB, this]
 · have e1 : ¬ (m : Int) % 2 = 0 := by omega
   simp [passFirstB, apartMB, besideMB, hp, hq, inB_mk (show (3 : Int) ≤ (m : Int) by omega) (show (m : Int) ≤ 10000 by omega), e1, Bool.and_assoc]
set_option maxRecDepth 100000 in
set_option maxHeartbeats 4000000 in
theorem asked_any (p q n : Int) (w : World) : Calls Tryz.prog 178 #[pr p q, .int .i64 n] w fun e w' => e = .returned (.bool (askedB p q n)) ∧ Below w.heap.size w w' := by
 cases hp : pairB p q with
 | false =>
   have HV := Lib.hid (show askedB p q n = false by simp [askedB, hp])
   have HP := Lib.hid hp
   clear hp
   go_enter Tryz.func178, Tryz.ntmps178
   go_wp2_with fail
   refine (implPairOk_no p q _ HP.out).mono ?_
   rintro e w1 ⟨rfl, hh1⟩
   obtain ⟨hc1, hf1⟩ := bcell hh1
   have hz1 := hh1.size
   try simp only [World.size_alloc] at hz1
   have hz1_0 : w.heap.size < w1.heap.size := by omega
   have kb1_0_0 : w1.cell? ⟨w.heap.size, 0, none⟩ = some (.int .i64 p) := by go_simp
   have kf1_0_0 : w1.frozen? ⟨w.heap.size, 0, none⟩ = false := by go_simp
   have kb1_0_1 : w1.cell? ⟨w.heap.size, 1, none⟩ = some (.int .i64 q) := by go_simp
   have kf1_0_1 : w1.frozen? ⟨w.heap.size, 1, none⟩ = false := by go_simp
   clear hc1 hf1
   go_wp2
   go_ret
   exact ⟨ret_bool HV.out.symm, by exact zb⟩
 | true =>
   have HP := Lib.hid hp
   cases ho : oddTB n with
   | false =>
     have HV := Lib.hid (show askedB p q n = false by simp [askedB, ho])
     have HO := Lib.hid ho
     clear hp ho
     go_enter Tryz.func178, Tryz.ntmps178
     go_wp2_with fail
     refine (implPairOk_yes p q _ HP.out).mono ?_
     rintro e w1 ⟨rfl, hh1⟩
     obtain ⟨hc1, hf1⟩ := bcell hh1
     have hz1 := hh1.size
     try simp only [World.size_alloc] at hz1
     have hz1_0 : w.heap.size < w1.heap.size := by omega
     have kb1_0_0 : w1.cell? ⟨w.heap.size, 0, none⟩ = some (.int .i64 p) := by go_simp
     have kf1_0_0 : w1.frozen? ⟨w.heap.size, 0, none⟩ = false := by go_simp
     have kb1_0_1 : w1.cell? ⟨w.heap.size, 1, none⟩ = some (.int .i64 q) := by go_simp
     have kf1_0_1 : w1.frozen? ⟨w.heap.size, 1, none⟩ = false := by go_simp
     clear hc1 hf1
     go_wp2_with fail
     refine (oddTested_is n false _ HO.out).mono ?_
     rintro e wx ⟨rfl, rfl⟩
     go_wp2
     go_ret
     exact ⟨ret_bool HV.out.symm, by exact zb⟩
   | true =>
     have HV := Lib.hid (show askedB p q n = (n != 1) by rw [askedB, hp, ho, Bool.true_and, Bool.true_and]; by_cases h : n = 1 <;> simp [h])
     have HO := Lib.hid ho
     clear hp ho
     go_enter Tryz.func178, Tryz.ntmps178
     go_wp2_with fail
     refine (implPairOk_yes p q _ HP.out).mono ?_
     rintro e w1 ⟨rfl, hh1⟩
     obtain ⟨hc1, hf1⟩ := bcell hh1
     have hz1 := hh1.size
     try simp only [World.size_alloc] at hz1
     have hz1_0 : w.heap.size < w1.heap.size := by omega
     have kb1_0_0 : w1.cell? ⟨w.heap.size, 0, none⟩ = some (.int .i64 p) := by go_simp
     have kf1_0_0 : w1.frozen? ⟨w.heap.size, 0, none⟩ = false := by go_simp
     have kb1_0_1 : w1.cell? ⟨w.heap.size, 1, none⟩ = some (.int .i64 q) := by go_simp
     have kf1_0_1 : w1.frozen? ⟨w.heap.size, 1, none⟩ = false := by go_simp
     clear hc1 hf1
     go_wp2_with fail
     refine (oddTested_is n true _ HO.out).mono ?_
     rintro e wx ⟨rfl, rfl⟩
     go_wp2
     go_ret
     exact ⟨ret_bool HV.out.symm, by exact zb⟩
theorem asked_is (p q n : Int) (c : Bool) (w : World) (h : askedB p q n = c) : Calls Tryz.prog 178 #[pr p q, .int .i64 n] w fun e w' => e = .returned (.bool c) ∧ Below w.heap.size w w' := by rw [← h]; exact asked_any p q n w
set_option maxRecDepth 100000 in
set_option maxHeartbeats 4000000 in
theorem apart_at (p q : Int) (m : Nat) (c : Bool) (w : World) (hp : pairB p q = true) (h2 : m ≤ 10000) (hc : apartMB p q m = c) : Calls Tryz.prog 179 #[pr p q, .int .i64 m] w fun e w' => e = .returned (.bool c) ∧ Below w.heap.size w w' := by
 obtain ⟨x1, x2⟩ := weight_bd hp
 obtain ⟨⟨r1, r2⟩, r3, r4⟩ := pairB_true hp
 have HX := Lib.hid (weightV_is hp)
 have HP := Lib.hid hp
 rw [apartMB] at hc
 obtain ⟨x, hx⟩ : ∃ x, p * p - 4 * q = x := ⟨_, rfl⟩
 rw [hx] at hc HX x1 x2
 obtain ⟨g, hg⟩ : ∃ g, Int.gcd (m : Int) q = g := ⟨_, rfl⟩
 obtain ⟨g', hg'⟩ : ∃ g', Int.gcd (m : Int) x = g' := ⟨_, rfl⟩
 have HG := Lib.hid (show ((Int.gcd (m : Int) q : Nat) : Int) = (g : Int) by rw [hg])
 have HG' := Lib.hid (show ((Int.gcd (m : Int) x : Nat) : Int) = (g' : Int) by rw [hg'])
 rw [hg, hg'] at hc
 by_cases hg1 : g = 1
 · have hgb : ((g : Int) == 1) = true := by simp; omega
   have HV := Lib.hid (show ((g' : Int) == 1) = c by rw [← hc]; simp [hg1]; rw [Bool.eq_iff_iff]; simp; omega)
   clear hp hx hg hg' hc hg1
   go_enter Tryz.func179, Tryz.ntmps179
   go_wp2_with fail
   refine (implWeight_is p q x true _ HX.out HP.out).mono ?_
   rintro e w1 ⟨rfl, hh1⟩
   obtain ⟨hc1, hf1⟩ := bcell hh1
   have hz1 := hh1.size
   try simp only [World.size_alloc] at hz1
   have hz1_0 : w.heap.size < w1.heap.size := by omega
   have kb1_0_0 : w1.cell? ⟨w.heap.size, 0, none⟩ = some (.int .i64 p) := by go_simp
   have kf1_0_0 : w1.frozen? ⟨w.heap.size, 0, none⟩ = false := by go_simp
   have kb1_0_1 : w1.cell? ⟨w.heap.size, 1, none⟩ = some (.int .i64 q) := by go_simp
   have kf1_0_1 : w1.frozen? ⟨w.heap.size, 1, none⟩ = false := by go_simp
   clear hc1 hf1
   go_wp2_with fail
   refine (commonDivisor_is m q g _ zO zO zO zO HG.out).mono ?_
   rintro e w2 ⟨rfl, hh2⟩
   obtain ⟨hc2, hf2⟩ := bcell hh2
   have hz2 := hh2.size
   try simp only [World.size_alloc] at hz2
   clear hc2 hf2
   go_wp2_with fail
   refine (commonDivisor_is m x g' _ zO zO zO zO HG'.out).mono ?_
   rintro e w3 ⟨rfl, hh3⟩
   obtain ⟨hc3, hf3⟩ := bcell hh3
   have hz3 := hh3.size
   try simp only [World.size_alloc] at hz3
   clear hc3 hf3
   go_wp2
   go_ret
   exact ⟨ret_bool HV.out, by exact zb⟩
 · have hgb : ((g : Int) == 1) = false := by simp; omega
   have HV := Lib.hid (show false = c by rw [← hc]; simp [hg1])
   clear hp hx hg hg' hc hg1
   go_enter Tryz.func179, Tryz.ntmps179
   go_wp2_with fail
   refine (implWeight_is p q x true _ HX.out HP.out).mono ?_
   rintro e w1 ⟨rfl, hh1⟩
   obtain ⟨hc1, hf1⟩ := bcell hh1
   have hz1 := hh1.size
   try simp only [World.size_alloc] at hz1
   have hz1_0 : w.heap.size < w1.heap.size := by omega
   have kb1_0_0 : w1.cell? ⟨w.heap.size, 0, none⟩ = some (.int .i64 p) := by go_simp
   have kf1_0_0 : w1.frozen? ⟨w.heap.size, 0, none⟩ = false := by go_simp
   have kb1_0_1 : w1.cell? ⟨w.heap.size, 1, none⟩ = some (.int .i64 q) := by go_simp
   have kf1_0_1 : w1.frozen? ⟨w.heap.size, 1, none⟩ = false := by go_simp
   clear hc1 hf1
   go_wp2_with fail
   refine (commonDivisor_is m q g _ zO zO zO zO HG.out).mono ?_
   rintro e w2 ⟨rfl, hh2⟩
   obtain ⟨hc2, hf2⟩ := bcell hh2
   have hz2 := hh2.size
   try simp only [World.size_alloc] at hz2
   clear hc2 hf2
   go_wp2
   go_ret
   exact ⟨ret_bool HV.out, by exact zb⟩
set_option maxRecDepth 100000 in
set_option maxHeartbeats 8000000 in
theorem beside_at (p q : Int) (m : Nat) (c : Bool) (w : World) (hp : pairB p q = true) (h1 : 3 ≤ m) (h2 : m ≤ 10000) (h3 : m % 2 = 1) (hc : besideMB p q m = c) : Calls Tryz.prog 180 #[pr p q, .int .i64 m] w fun e w' => e = .returned (.bool c) ∧ Below w.heap.size w w' := by
 obtain ⟨x1, x2⟩ := weight_bd hp
 have HX := Lib.hid (weightV_is hp)
 have HP := Lib.hid hp
 rw [besideMB] at hc
 obtain ⟨e1, e2, e3⟩ := beside_is (p := p) (q := q) (m := m) h1
 have hsc := signV_cases (p * p - 4 * q) m
 obtain ⟨t, ht⟩ : ∃ t, besideN p q m = t := ⟨_, rfl⟩
 obtain ⟨s, hs⟩ : ∃ s, signV (p * p - 4 * q) m = s := ⟨_, rfl⟩
 rw [hs, ht] at e1
 rw [ht] at e2 e3 hc
 obtain ⟨x, hx⟩ : ∃ x, p * p - 4 * q = x := ⟨_, rfl⟩
 rw [hs] at hsc
 rw [hx] at hs HX x1 x2
 obtain ⟨X, hXX⟩ : ∃ X, row p q 0 1 t % (m : Int) = X := ⟨_, rfl⟩
 rw [hXX] at hc
 have HS := Lib.hid hs
 have HXX := Lib.hid hXX
 have HE := Lib.hid e1
 have HC := Lib.hid hc
 have m1 : 1 ≤ m := by omega
 have n1 : -10000 ≤ x := by omega
 have n2 : x ≤ 10000 := by omega
 have U : IntKind.i64.wrap ((m : Int) - s) = (m : Int) - s := by rw [IntKind.wrap_i64]; rcases hsc with h | h | h <;> rw [h] <;> omega
 clear hp hx hs hXX hc e1 hsc
 go_enter Tryz.func180, Tryz.ntmps180
 go_wp2_with fail
 refine (implWeight_is p q x true _ HX.out HP.out).mono ?_
 rintro e w1 ⟨rfl, hh1⟩
 obtain ⟨hc1, hf1⟩ := bcell hh1
 have hz1 := hh1.size
 try simp only [World.size_alloc] at hz1
 have hz1_0 : w.heap.size < w1.heap.size := by omega
 have kb1_0_0 : w1.cell? ⟨w.heap.size, 0, none⟩ = some (.int .i64 p) := by go_simp
 have kf1_0_0 : w1.frozen? ⟨w.heap.size, 0, none⟩ = false := by go_simp
 have kb1_0_1 : w1.cell? ⟨w.heap.size, 1, none⟩ = some (.int .i64 q) := by go_simp
 have kf1_0_1 : w1.frozen? ⟨w.heap.size, 1, none⟩ = false := by go_simp
 clear hc1 hf1
 obtain ⟨S, hSd⟩ : ∃ S : World → Prop, (fun V => Below w1.heap.size w1 V) = S := ⟨_, rfl⟩
 have hkeep : ∀ V V' : World, S V → Below V.heap.size V V' → S V' := by rw [← hSd]; exact fun V V' h hb => h.trans (hb.mono h.size)
 have gk0 : ∀ iq : KeptBy S, iq.world.cell? ⟨w.heap.size, 0, none⟩ = some (.int .i64 p) := by rw [← hSd]; exact fun iq => cell_below iq.ok kb1_0_0
 have gk1 : ∀ iq : KeptBy S, iq.world.cell? ⟨w.heap.size, 1, none⟩ = some (.int .i64 q) := by rw [← hSd]; exact fun iq => cell_below iq.ok kb1_0_1
 have gkn : Nonempty (KeptBy S) := ⟨⟨w1.drew, by rw [← hSd]; exact (Below.refl _ _).drew⟩⟩
 go_wp2_with fail
 refine wp_region_kept (S := S) (by rw [← hSd]; exact (Below.refl _ _).drew) (by kernel_rfl) (by kernel_rfl) ?_
 repeat (go_big_quiet_step ((first | (go_at_call 209; refine (signFor_is m x s _ m1 h2 h3 n1 n2 HS.out).mono ?_; rintro e w' ⟨rfl, rfl⟩; exact ⟨rfl, _, rfl⟩) | (go_at_call 155; refine (implFarFirst_at p q m t X _ _ HE.out HP.out zO zO zO HXX.out).mono ?_; rintro e w' ⟨rfl, hhw⟩; exact ⟨rfl, ⟨w', hkeep _ _ (KeptBy.ok _) hhw⟩, rfl⟩) | fail)))
 refine wpQuiet_nil ?_
 rintro wz ⟨iz, hwz⟩
 have bwz : Below w1.heap.size w1 wz := by
   have this : S wz := by rw [hwz]; exact iz.ok
   rw [← hSd] at this
   exact this
 clear hwz iz gkn hkeep hSd gk0 gk1
 go_wp2
 go_ret
 exact ⟨ret_bool HC.out, by exact zb⟩
def Three (B : Nat) (w : World) : Prop :=
 B < w.heap.size ∧ w.cell? ⟨B, 0, none⟩ = some (.func (.func 178) #[] #[]) ∧ w.cell? ⟨B, 1, none⟩ = some (.func (.func 179) #[] #[]) ∧ w.cell? ⟨B, 2, none⟩ = some (.func (.func 180) #[] #[])
theorem Three.below {B : Nat} {w w' : World} (h : Three B w) (hb : Below w.heap.size w w') : Three B w' := by
 have := hb.size
 exact ⟨by have := h.1; omega, cell_below hb h.2.1, cell_below hb h.2.2.1, cell_below hb h.2.2.2⟩
set_option maxRecDepth 100000 in
set_option maxHeartbeats 8000000 in
theorem allThree_at (p q n : Int) (B : Nat) (w : World) (h3 : Three B w) : Calls Tryz.prog 177 #[pr p q, .int .i64 n, .slice (some ⟨B, 0, none⟩) 3 3] w fun e w' => e = .returned (.bool (passFirstB p q n)) ∧ Below w.heap.size w w' := by
 have hal : Below w.heap.size w (w.alloc (.cells #[.int .i64 p, .int .i64 q] 29)) := by exact zb
 have hT0 : Three B (w.alloc (.cells #[.int .i64 p, .int .i64 q] 29)) := h3.below hal
 cases ha : askedB p q n with
 | false =>
   have HV := Lib.hid (passFirst_not ha)
   have HA := Lib.hid ha
   obtain ⟨tb, t0, t1, t2⟩ := hT0
   clear ha h3
   go_enter Tryz.func177, Tryz.ntmps177
   go_wp2_with fail
   go_loopw [8, 11] (fun _ i wr => i = .int .i64 0 ∧ wr.cell? ⟨w.heap.size, 0, none⟩ = some (.int .i64 p) ∧ wr.cell? ⟨w.heap.size, 1, none⟩ = some (.int .i64 q) ∧ wr.cell? ⟨B, 0, none⟩ = some (.func (.func 178) #[] #[]) ∧ w.heap.size < wr.heap.size ∧ Below w.heap.size w wr) (fun _ _ _ => 0)
   case atStart => exact ⟨rfl, by go_simp, by go_simp, t0, by simp, hal⟩
   case round =>
     obtain ⟨rfl, kp, kq, k0, hsz, hB⟩ := hrel
     go_wp2_with fail
     refine (asked_is p q n false _ HA.out).mono ?_
     rintro e w3 ⟨rfl, hh3⟩
     go_wp2
     go_ret
     exact ⟨ret_bool HV.out.symm, hB.trans (hh3.mono hB.size)⟩
 | true =>
   obtain ⟨m, rfl, hp, m1, m2, m3⟩ := askedB_true ha
   have HV := Lib.hid (passFirst_is hp m1 m2 m3)
   have HA := Lib.hid ha
   have HP := Lib.hid hp
   clear ha h3 hp
   go_enter Tryz.func177, Tryz.ntmps177
   go_wp2_with fail
   go_loopw [8, 11] (fun _ i wr => ∃ k : Nat, k ≤ 3 ∧ i = .int .i64 k ∧ (2 ≤ k → apartMB p q m = true) ∧ (3 ≤ k → besideMB p q m = true) ∧ wr.cell? ⟨w.heap.size, 0, none⟩ = some (.int .i64 p) ∧ wr.cell? ⟨w.heap.size, 1, none⟩ = some (.int .i64 q) ∧ w.heap.size < wr.heap.size ∧ Three B wr ∧ Below w.heap.size w wr) (fun _ i _ => 4 - (intOf i).toNat)
   case atStart => exact ⟨0, by omega, rfl, fun h => by omega, fun h => by omega, by go_simp, by go_simp, by simp, hT0, hal⟩
   case round =>
     obtain ⟨k, hk, rfl, a1, a2, kp, kq, hsz, hT, hB⟩ := hrel
     have HT := Lib.hid hT
     obtain ⟨tb, t0, t1, t2⟩ := hT
     rcases (show k = 0 ∨ k = 1 ∨ k = 2 ∨ k = 3 by omega) with rfl | rfl | rfl | rfl
     · go_wp2_with fail
       refine (asked_is p q m true _ HA.out).mono ?_
       rintro e w3 ⟨rfl, hh3⟩
       have kp3 := cell_below hh3 kp
       have kq3 := cell_below hh3 kq
       have hz3 := hh3.size
       have HT3 := Lib.hid (HT.out.below hh3)
       have HB3 := Lib.hid (hB.trans (hh3.mono hB.size))
       clear hh3 kp kq t0 t1 t2 hB HT
       go_wp2
       go_roundw
       case rel => exact ⟨1, by omega, rfl, fun h => by omega, fun h => by omega, kp3, kq3, by omega, HT3.out, HB3.out⟩
       case measure => simp [intOf]
     · cases hc : apartMB p q m with
       | true =>
         have HC := Lib.hid hc
         go_wp2_with fail
         refine (apart_at p q m true _ HP.out m2 HC.out).mono ?_
         rintro e w3 ⟨rfl, hh3⟩
         have kp3 := cell_below hh3 kp
         have kq3 := cell_below hh3 kq
         have hz3 := hh3.size
         have HT3 := Lib.hid (HT.out.below hh3)
         have HB3 := Lib.hid (hB.trans (hh3.mono hB.size))
         clear hh3 kp kq t0 t1 t2 hB HT hc
         go_wp2
         go_roundw
         case rel => exact ⟨2, by omega, rfl, fun _ => (by first | exact HC.out | trivial), fun h => by omega, kp3, kq3, by omega, HT3.out, HB3.out⟩
         case measure => simp [intOf]
       | false =>
         have HC := Lib.hid hc
         have HF := Lib.hid (show passFirstB p q m = false by rw [HV.out, hc]; rfl)
         clear hc
         go_wp2_with fail
         refine (apart_at p q m false _ HP.out m2 HC.out).mono ?_
         rintro e w3 ⟨rfl, hh3⟩
         go_wp2
         go_ret
         exact ⟨ret_bool HF.out.symm, hB.trans (hh3.mono hB.size)⟩
     · have HA1 := Lib.hid (a1 zO)
       cases hc : besideMB p q m with
       | true =>
         have HC := Lib.hid hc
         go_wp2_with fail
         refine (beside_at p q m true _ HP.out m1 m2 m3 HC.out).mono ?_
         rintro e w3 ⟨rfl, hh3⟩
         have kp3 := cell_below hh3 kp
         have kq3 := cell_below hh3 kq
         have hz3 := hh3.size
         have HT3 := Lib.hid (HT.out.below hh3)
         have HB3 := Lib.hid (hB.trans (hh3.mono hB.size))
         clear hh3 kp kq t0 t1 t2 hB HT hc
         go_wp2
         go_roundw
         case rel => exact ⟨3, by omega, rfl, fun _ => (by first | exact HA1.out | trivial), fun _ => (by first | exact HC.out | trivial), kp3, kq3, by omega, HT3.out, HB3.out⟩
         case measure => simp [intOf]
       | false =>
         have HC := Lib.hid hc
         have HF := Lib.hid (show passFirstB p q m = false by rw [HV.out, HA1.out, hc]; rfl)
         clear hc
         go_wp2_with fail
         refine (beside_at p q m false _ HP.out m1 m2 m3 HC.out).mono ?_
         rintro e w3 ⟨rfl, hh3⟩
         go_wp2
         go_ret
         exact ⟨ret_bool HF.out.symm, hB.trans (hh3.mono hB.size)⟩
     · have HF := Lib.hid (show passFirstB p q m = true by rw [HV.out, a1 zO, a2 zO]; rfl)
       go_wp2
       go_ret
       exact ⟨ret_bool HF.out.symm, hB⟩
set_option maxRecDepth 100000 in
set_option maxHeartbeats 4000000 in
theorem implPassFirst_any (p q n : Int) (w : World) : Calls Tryz.prog 152 #[pr p q, .int .i64 n] w fun e w' => e = .returned (.bool (passFirstB p q n)) ∧ Below w.heap.size w w' := by
 obtain ⟨c, hc⟩ : ∃ c, passFirstB p q n = c := ⟨_, rfl⟩
 go_enter Tryz.func152, Tryz.ntmps152
 go_wp2_with fail
 refine (allThree_at p q n (w.heap.size + 1) _ ⟨by simp, by go_simp, by go_simp, by go_simp⟩).mono ?_
 rintro e w1 ⟨rfl, hh1⟩
 have hz1 := hh1.size
 try simp only [World.size_alloc] at hz1
 rw [hc]
 go_wp2
 go_ret
 exact ⟨ret_bool hc.symm, by exact zb⟩
end
section
open Go.RowKit
theorem natCells_snoc (L : List Nat) (n : Nat) : natCells L ++ [.int .i64 (n : Int)] = natCells (L ++ [n]) := by simp [natCells]
theorem info_num : (Tryz.prog.info? 3).map (fun i => (i.zero, i.size, i.bytes)) = some (some (.int .i64 0), 1, 8) := by kernel_rfl
theorem atoi_bd {l : List UInt8} {v : Int} (h : Lib.atoiAll l = .ok v) : -9223372036854775808 ≤ v ∧ v ≤ 9223372036854775807 := by
 unfold Lib.atoiAll at h
 split at h
 · cases h
 · simp only at h
   split at h
   · cases h
   · cases h
   · split at h
     · cases h
     · split at h
       · cases h
       · injection h with h
         subst h
         split <;> omega
def numsB (L : List ByteArray) : Option (List Nat) := numsN (L.map fun x => x.data.toList)
theorem numsB_next {L : List ByteArray} {i : Nat} {t : ByteArray} {ns : List Nat} (h : L[i]? = some t) (hn : numsB (L.take i) = some ns) : numsB (L.take (i + 1)) = (digitsN t.data.toList).map fun n => ns ++ [n] := by
 obtain ⟨hi, rfl⟩ := List.getElem?_eq_some_iff.1 h
 unfold numsB at *
 rw [List.take_succ_eq_append_getElem hi, List.map_append, List.map_cons, List.map_nil, numsN_snoc, hn]
 rfl
theorem numsB_none {L : List ByteArray} {i : Nat} {t : ByteArray} (h : L[i]? = some t) (hd : digitsN t.data.toList = none) : numsB L = none :=
 numsN_none (List.mem_map_of_mem (List.mem_of_getElem? h)) hd
def NumsS (w : World) (L : List ByteArray) (e : Ending) (w' : World) : Prop :=
 Below w.heap.size w w' ∧ match numsB L with
 | some ns => ∃ (a : Option Addr) (c : Nat), e = .returned (.tuple #[.slice a ns.length c, .bool true]) ∧ IsInts w.heap.size w'.heap.size w' (.slice a ns.length c) ns.length (fun i => ((ns.getD i 0 : Nat) : Int))
 | none => e = .returned (.tuple #[.slice none 0 0, .bool false])
theorem numsS_no {w w' : World} {L : List ByteArray} (h : numsB L = none) (hB : Below w.heap.size w w') : NumsS w L (.returned (.tuple #[.slice none 0 0, .bool false])) w' := by
 unfold NumsS; rw [h]; exact ⟨hB, rfl⟩
theorem numsS_yes {w w' : World} {L : List ByteArray} {ns : List Nat} {a : Option Addr} {c : Nat} (h : numsB L = some ns) (hB : Below w.heap.size w w') (hO : w'.ownsRow w.heap.size 3 1 (.slice a ns.length c) ns.length (natCells ns)) : NumsS w L (.returned (.tuple #[.slice a ns.length c, .bool true])) w' := by
 unfold NumsS; rw [h]
 exact ⟨hB, a, c, rfl, IsInts.of_owns (by rw [← natCells_range]; exact hO)⟩
set_option maxRecDepth 100000 in
set_option maxHeartbeats 4000000 in
theorem numbersIn_any (L : List ByteArray) (g off cap : Nat) (w : World) (hg : g < w.heap.size) (hl : L.length ≤ 1000) (hsz : ∀ i, (L.getD i ByteArray.empty).size ≤ 2097152)
   (hc : ∀ i, i < L.length → w.cell? ⟨g, off + i, none⟩ = some (.string (L.getD i ByteArray.empty))) (ht : PowTab w) (he : Errs w) :
   Calls Tryz.prog 88 #[.slice (some ⟨g, off, none⟩) L.length cap] w (NumsS w L) := by
 obtain ⟨i0, hi0, hz0, hzs1, hz2⟩ := info_parts info_num
 have HT := Lib.hid ht
 have HE := Lib.hid he
 have HC := Lib.hid hc
 have HSZ := Lib.hid hsz
 clear ht he hc hsz
 go_enter Tryz.func88, Tryz.ntmps88
 go_wp2_with fail
 go_loopw [4, 11] (fun x4 x11 wr => ∃ (i : Nat) (ns : List Nat) (a : Option Addr) (c : Nat), x4 = .slice a ns.length c ∧ x11 = .int .i64 i ∧ i ≤ L.length ∧ ns.length ≤ i ∧ numsB (L.take i) = some ns ∧ wr.ownsRow w.heap.size 3 1 (.slice a ns.length c) ns.length (natCells ns) ∧ Below w.heap.size w wr) (fun _ x11 _ => L.length - (intOf x11).toNat)
 case atStart => exact ⟨0, [], none, 0, rfl, rfl, Nat.zero_le _, by simp, rfl, World.ownsRow_nil _ _ _ _, Below.refl _ _⟩
 case round =>
   obtain ⟨i, ns, a, c, rfl, rfl, hi, hns, hN, hO, hB⟩ := hrel
   have HO := Lib.hid hO
   have HB := Lib.hid hB
   have HN := Lib.hid hN
   have hlk := hO.lt
   have hzr := hB.size
   clear hO hB hN
   by_cases hlt : i < L.length
   · have hil : (i : Int) < (L.length : Int) := by omega
     have hi0' : (0 : Int) ≤ (i : Int) := by omega
     have Wi : IntKind.i64.wrap ((i : Int) + 1) = (i : Int) + 1 := by rw [IntKind.wrap_i64]; omega
     have hLi : L[i]? = some (L.getD i ByteArray.empty) := by simp [hlt]
     have k0 : wr.cell? ⟨g, off + i, none⟩ = some (.string (L.getD i ByteArray.empty)) := (HB.out.cell (p := ⟨g, off + i, none⟩) (by show g < _; omega)).trans (HC.out i hlt)
     have hts := HSZ.out i
     obtain ⟨t, ht⟩ : ∃ t, L.getD i ByteArray.empty = t := ⟨_, rfl⟩
     rw [ht] at hLi k0 hts
     have HLI := Lib.hid hLi
     clear hLi ht
     have hat := fun W hW => atoi_any t hts W hW
     cases hd : digitsN t.data.toList with
     | some n =>
       obtain ⟨p1, p2, p3⟩ := piece_yes hd
       have hav : atoiV t.data.toList = (n : Int) := by rw [atoiV, p1]
       have hit := fun W hW => itoa_any (n : Int) zO zO W hW
       rw [p2, txt_of] at hit
       have HA := Lib.hid hat
       have HI := Lib.hid hit
       have HNX := Lib.hid (show numsB (L.take (i + 1)) = some (ns ++ [n]) by rw [numsB_next HLI.out HN.out, hd]; rfl)
       have HP := Lib.hid p1
       have HAV := Lib.hid hav
       have n0 : ¬ ((n : Int) < 0) := by omega
       have n9 : ¬ (999999999 < (n : Int)) := by omega
       have hsame : (t.toList == t.toList) = true := by simp
       clear hat hit hd p1 p2 hav
       go_wp2_with fail
       refine (HA.out _ (HE.out.below HB.out (Nat.le_refl _))).mono ?_
       rintro e w1 ⟨x, rfl, ⟨hx1, _⟩, hb1⟩
       rw [hx1 _ HP.out, HAV.out]
       have hz1 := hb1.size
       have HO1 := Lib.hid (own_keeps HO.out hb1)
       have HB1 := Lib.hid (HB.out.trans (hb1.mono hzr))
       clear hx1 hb1
       go_wp2_with fail
       refine (HI.out _ (HT.out.below HB1.out (Nat.le_refl _))).mono ?_
       rintro e w2 ⟨rfl, hb2⟩
       have hz2' := hb2.size
       have HO2 := Lib.hid (own_keeps HO1.out hb2)
       have HB2 := Lib.hid (HB1.out.trans (hb2.mono zO))
       clear hb2
       go_wp2_with (at_builtin; refine wpList_append_own _ rfl _ _ 99 rfl w.heap.size 3 i0 (.int .i64 0) 1 8 Tryz.underlying99 hi0 hz0 hzs1 hz2 rfl zd _ _ _ rfl (HO2.out.alloc _) ⟨w2.heap.size, 0, none⟩ 1 1 [.int .i64 (n : Int)] rfl rfl (by exact World.news_of_block (cs := #[.int .i64 (n : Int)]) (t := 3) (fr := (0, 0)) (heap_alloc_new w2 _)) (by simp [Value.oneCell']) (by unfold maxLen; omega) zO (by simp; omega) ?_)
       intro v' w3 hown3 hgrow3 _
       rw [natCells_snoc] at hown3
       have hB3 : Below w.heap.size w w3 := (HB2.out.alloc zO _).grown hgrow3 (by simp; omega) (fun k e => by have := hlk _ e; omega)
       obtain ⟨a3, c3, rfl⟩ := own_shape hown3
       have HO3 := Lib.hid hown3
       have HB3 := Lib.hid hB3
       clear hown3 hgrow3 hlk hB3
       go_wp2
       go_roundw
       case rel => exact ⟨i + 1, ns ++ [n], a3, c3, by simp, congrArg (Value.int .i64) zO, by omega, by simp; omega, HNX.out, by simpa using HO3.out, HB3.out⟩
       case measure => simp [intOf]; omega
     | none =>
       have HNO := Lib.hid (numsB_none HLI.out hd)
       have hpn := fun v => piece_no (v := v) hd
       have HA := Lib.hid hat
       have HPN := Lib.hid hpn
       clear hat hpn hd
       go_wp2_with fail
       refine (HA.out _ (HE.out.below HB.out (Nat.le_refl _))).mono ?_
       rintro e w1 ⟨x, rfl, ⟨hx1, hx2⟩, hb1⟩
       have hz1 := hb1.size
       have HB1 := Lib.hid (HB.out.trans (hb1.mono hzr))
       clear hb1
       by_cases hok : ∃ v, Lib.atoiAll t.data.toList = .ok v
       · obtain ⟨v, hv⟩ := hok
         rw [hx1 v hv, show atoiV t.data.toList = v by rw [atoiV, hv]]
         have hcase := HPN.out v hv
         clear hx1 hx2
         have hvb : -9223372036854775808 ≤ v ∧ v ≤ 9223372036854775807 := atoi_bd hv
         have hit := fun W hW => itoa_any v hvb.1 hvb.2 W hW
         obtain ⟨u, hu⟩ : ∃ u, txt (numberT v) = u := ⟨_, rfl⟩
         have hus : (u.toList = t.toList) → numberT v = t.data.toList := fun e => by
           rw [bl_toList, bl_toList, ← hu] at e
           exact e
         rw [hu] at hit
         have HI := Lib.hid hit
         have HUS := Lib.hid hus
         clear hit hus hu hv
         go_wp2_with fail
         refine (HI.out _ (HT.out.below HB1.out (Nat.le_refl _))).mono ?_
         rintro e w2 ⟨rfl, hb2⟩
         have HB2 := Lib.hid (HB1.out.trans (hb2.mono zO))
         clear hb2
         by_cases hut : u.toList = t.toList
         · have hc2 : v < 0 ∨ 999999999 < v := by
             rcases hcase with h | h | h
             · exact absurd (HUS.out hut) h
             · exact .inl h
             · exact .inr h
           clear hcase
           by_cases hv0 : v < 0
           · go_wp2
             go_ret2
             exact numsS_no HNO.out HB2.out
           · have hv9 : 999999999 < v := by omega
             go_wp2
             go_ret2
             exact numsS_no HNO.out HB2.out
         · clear hcase
           go_wp2
           go_ret2
           exact numsS_no HNO.out HB2.out
       · obtain ⟨y, z, rfl⟩ := hx2 fun v hv => hok ⟨v, hv⟩
         clear hx1 hok
         go_wp2
         go_ret2
         exact numsS_no HNO.out HB1.out
   · obtain rfl : i = L.length := by omega
     have HQ := Lib.hid (show numsB L = some ns by have := HN.out; rwa [List.take_length] at this)
     go_wp2
     go_ret2
     exact numsS_yes HQ.out HB.out HO.out
end
section
open Go.RowKit
def ansP (p q : Int) (P : List ByteArray) : ByteArray := match numsB (P.drop 1) with
 | some ns => askV p q (P.getD 0 ByteArray.empty) ns
 | none => whatT
theorem dig_space {t : List UInt8} (h : (32 : UInt8) ∈ t) : digitsN t = none := by
 unfold digitsN
 rw [if_neg]
 intro hs
 have := List.all_eq_true.1 hs.2.2.2 _ h
 simp [isDig] at this
theorem numsN_len : ∀ (L : List (List UInt8)) (ns : List Nat), numsN L = some ns → ns.length = L.length
 | [], ns, h => by simp [numsN] at h; subst h; rfl
 | t :: L, ns, h => by
   simp only [numsN] at h
   cases hd : digitsN t with
   | none => rw [hd] at h; cases h
   | some n =>
     cases hr : numsN L with
     | none => rw [hd, hr] at h; cases h
     | some ms =>
       rw [hd, hr] at h
       cases h
       rw [List.length_cons, List.length_cons, numsN_len L ms hr]
theorem askV_many (p q : Int) (w : ByteArray) (ns : List Nat) (h : 3 ≤ ns.length) : askV p q w ns = whatT := by
 match ns, h with
 | [], h => simp at h
 | [_], h => simp at h
 | [_, _], h => simp at h
 | _ :: _ :: _ :: _, _ => rfl
theorem ans_pieces (p q : Int) (s : ByteArray) : ansP p q (piecesB 3 s) = ansV p q s.data.toList := by
 have hsl : s.data.toList.length = s.size := bl_size s
 obtain ⟨l, hl⟩ : ∃ l, s.data.toList = l := ⟨_, rfl⟩
 rw [hl] at hsl ⊢
 have hw := words_len l []
 obtain ⟨k, hk⟩ : ∃ k, min 3 (s.size + 1) - 1 = k := ⟨_, rfl⟩
 obtain ⟨h1, h2⟩ := pieces_words k s l hl
 have hp : piecesB 3 s = Lib.splitB (txt [32]) 0 k s := by unfold piecesB; rw [hk]
 rw [hp]
 obtain ⟨P, hP⟩ : ∃ P, Lib.splitB (txt [32]) 0 k s = P := ⟨_, rfl⟩
 rw [hP] at h1 h2 ⊢
 rcases Nat.lt_or_ge (k + 1) (wordsN [] l).length with hlt | hge
 · obtain ⟨a, _, b⟩ := h2 hlt
   have hk2 : k = 2 := by omega
   subst hk2
   have hn : numsB (P.drop 1) = none := by
     refine numsB_none (i := 1) (t := P.getD 2 ByteArray.empty) ?_ (dig_space b)
     rw [List.getElem?_drop]
     simp [a]
   unfold ansP ansV
   rw [hn]
   cases hns : numsN ((wordsN [] l).drop 1) with
   | none => rfl
   | some ns =>
     have := numsN_len _ _ hns
     rw [List.length_drop] at this
     exact (askV_many p q _ ns zO).symm
 · have e := h1 hge
   have e1 : numsB (P.drop 1) = numsN ((wordsN [] l).drop 1) := by
     unfold numsB
     rw [← e, List.map_drop]
   have e0 : P.getD 0 ByteArray.empty = txt ((wordsN [] l).getD 0 []) := by
     rw [← e]
     cases P with
     | nil => rfl
     | cons a b => exact (txt_of a).symm
   unfold ansP ansV
   first
     | (rw [e1, e0]; done)
     | (rw [e1, e0]; cases numsN (List.drop 1 (wordsN [] l)) <;> rfl)
end
section
open Go.RowKit
def C3 (w : World) (b : Nat) (u0 u1 u2 : Value) : Prop := (w.cell? ⟨b, 0, none⟩ = some u0 ∧ w.cell? ⟨b, 1, none⟩ = some u1 ∧ w.cell? ⟨b, 2, none⟩ = some u2) ∧ w.frozen? ⟨b, 0, none⟩ = false ∧ w.frozen? ⟨b, 1, none⟩ = false ∧ w.frozen? ⟨b, 2, none⟩ = false
def set3 (w : World) (b : Nat) (v0 v1 v2 : Value) : World := ((w.setCell ⟨b, 0, none⟩ v0).setCell ⟨b, 1, none⟩ v1).setCell ⟨b, 2, none⟩ v2
theorem set3_other {w : World} {b b' o : Nat} {u v0 v1 v2 : Value} (h : w.cell? ⟨b', o, none⟩ = some u) (hne : ¬ (b' = b ∧ (o = 0 ∨ o = 1 ∨ o = 2))) : (set3 w b v0 v1 v2).cell? ⟨b', o, none⟩ = some u := by
 have one : ∀ (w : World) (k : Nat) (v : Value), k = 0 ∨ k = 1 ∨ k = 2 → w.cell? ⟨b', o, none⟩ = some u → (w.setCell ⟨b, k, none⟩ v).cell? ⟨b', o, none⟩ = some u := fun w k v hk h =>
   (World.cell?_setCell_other _ _ _ _ (fun e => hne (by injection e with e1 e2; exact ⟨e1.symm, by omega⟩))).trans h
 exact one _ 2 _ zO (one _ 1 _ zO (one _ 0 _ zO h))
theorem set3_frozen {w : World} {b : Nat} {v0 v1 v2 : Value} (p : Addr) : (set3 w b v0 v1 v2).frozen? p = w.frozen? p := by
 unfold set3; rw [World.frozen?_setCell, World.frozen?_setCell, World.frozen?_setCell]
theorem set3_size {w : World} {b : Nat} {v0 v1 v2 : Value} : (set3 w b v0 v1 v2).heap.size = w.heap.size := by simp [set3, World.setCell]
theorem C3.set {w : World} {b : Nat} {u0 u1 u2 : Value} (h : C3 w b u0 u1 u2) (v0 v1 v2 : Value) : C3 (set3 w b v0 v1 v2) b v0 v1 v2 := by
 obtain ⟨⟨h0, h1, h2⟩, f0, f1, f2⟩ := h
 have ne : ∀ i j : Nat, i ≠ j → (⟨b, i, none⟩ : Addr) ≠ ⟨b, j, none⟩ := fun i j hij e => hij (by injection e)
 refine ⟨⟨?_, ?_, ?_⟩, by rw [set3_frozen]; exact f0, by rw [set3_frozen]; exact f1, by rw [set3_frozen]; exact f2⟩
 · unfold set3
   rw [World.cell?_setCell_other _ _ _ _ (ne 2 0 zd), World.cell?_setCell_other _ _ _ _ (ne 1 0 zd)]
   exact World.cell?_setCell_same' _ _ _ (by rw [h0]; rfl)
 · unfold set3
   rw [World.cell?_setCell_other _ _ _ _ (ne 2 1 zd)]
   exact World.cell?_setCell_same' _ _ _ (by rw [World.cell?_setCell_other _ _ _ _ (ne 0 1 zd), h1]; rfl)
 · unfold set3
   exact World.cell?_setCell_same' _ _ _ (by rw [World.cell?_setCell_other _ _ _ _ (ne 1 2 zd), World.cell?_setCell_other _ _ _ _ (ne 0 2 zd), h2]; rfl)
theorem C3.other {w : World} {b b' : Nat} {u0 u1 u2 : Value} (h : C3 w b u0 u1 u2) (hne : b ≠ b') (v0 v1 v2 : Value) : C3 (set3 w b' v0 v1 v2) b u0 u1 u2 := by
 obtain ⟨⟨h0, h1, h2⟩, f0, f1, f2⟩ := h
 exact ⟨⟨set3_other h0 (fun e => hne e.1), set3_other h1 (fun e => hne e.1), set3_other h2 (fun e => hne e.1)⟩, by rw [set3_frozen]; exact f0, by rw [set3_frozen]; exact f1, by rw [set3_frozen]; exact f2⟩
theorem C3.lt {w : World} {b : Nat} {u0 u1 u2 : Value} (h : C3 w b u0 u1 u2) : b < w.heap.size := World.block_lt_of_cell? w ⟨b, 0, none⟩ h.1.1
theorem C3.grow {w w' : World} {b R : Nat} {u0 u1 u2 : Value} (h : C3 w b u0 u1 u2) (hg : w.grownBy w' (some R)) (hne : b ≠ R) : C3 w' b u0 u1 u2 := by
 have hb := h.lt
 obtain ⟨hc, hf⟩ := gcell hg
 obtain ⟨⟨h0, h1, h2⟩, f0, f1, f2⟩ := h
 exact ⟨⟨(hc b 0 hb hne).trans h0, (hc b 1 hb hne).trans h1, (hc b 2 hb hne).trans h2⟩, (hf b 0 hb hne).trans f0, (hf b 1 hb hne).trans f1, (hf b 2 hb hne).trans f2⟩
theorem rd_set3 {w : World} {R k b : Nat} {u0 u1 u2 : Value} (h : Rd w R k) (c : C3 w b u0 u1 u2) (hb : b ≠ R) (n0 : ∀ x, u0 ≠ .int .u8 x) (n1 : ∀ x, u1 ≠ .int .u8 x) (n2 : ∀ x, u2 ≠ .int .u8 x) (v0 v1 v2 : Value) : Rd (set3 w b v0 v1 v2) R k := by
 obtain ⟨⟨c0, c1, c2⟩, _⟩ := c
 obtain ⟨a, len, cap, p, h0, h1, hf, hp, hl, hs⟩ := h
 refine ⟨a, len, cap, p, set3_other h0 (fun e => hb e.1.symm), set3_other h1 (fun e => hb e.1.symm), by rw [set3_frozen]; exact hf, hp, hl, ?_⟩
 rcases hs with hs | ⟨g, off, ha, hgR, hc⟩
 · exact .inl hs
 · refine .inr ⟨g, off, ha, hgR, fun i hi => ?_⟩
   obtain ⟨x, x0, x1, hx⟩ := hc i hi
   refine ⟨x, x0, x1, set3_other hx (fun e => ?_)⟩
   obtain ⟨rfl, e | e | e⟩ := e
   · rw [e, c0] at hx; exact n0 x (Option.some.inj hx)
   · rw [e, c1] at hx; exact n1 x (Option.some.inj hx)
   · rw [e, c2] at hx; exact n2 x (Option.some.inj hx)
theorem pairs_set3 {B C b : Nat} {w : World} {v : Value} {L : List (Int × Int)} (h : IsPairs B C w v L) (hb : b < B) (v0 v1 v2 : Value) : IsPairs B C (set3 w b v0 v1 v2) v L :=
 ((h.set (p := ⟨b, 0, none⟩) hb v0).set (p := ⟨b, 1, none⟩) hb v1).set (p := ⟨b, 2, none⟩) hb v2
theorem below_set3 {B b : Nat} {w w' : World} (h : Below B w w') (hb : B ≤ b) (v0 v1 v2 : Value) : Below B w (set3 w' b v0 v1 v2) :=
 ((h.setCell (p := ⟨b, 0, none⟩) hb v0).setCell (p := ⟨b, 1, none⟩) hb v1).setCell (p := ⟨b, 2, none⟩) hb v2
theorem IsDeeds.far {B C : Nat} {w w' : World} {v : Value} {L : List DeedN} (h : IsDeeds B C w v L) (hz : w.heap.size ≤ w'.heap.size) (hb : ∀ g, B ≤ g → g < C → w'.heap[g]? = w.heap[g]?) : IsDeeds B C w' v L := by
 obtain ⟨a, cap, rfl, hC, hs⟩ := h
 refine ⟨a, cap, rfl, Nat.le_trans hC hz, ?_⟩
 rcases hs with hs | ⟨g, off, ha, h1, h2, hc, hf⟩
 · exact .inl hs
 · exact .inr ⟨g, off, ha, h1, h2, fun i p hi => ⟨(World.cell?_of_block (a := ⟨g, off + i * 3, none⟩) (hb g h1 h2.1)).trans (hc i p hi).1, (World.cell?_of_block (a := ⟨g, off + i * 3 + 1, none⟩) (hb g h1 h2.1)).trans (hc i p hi).2.1, (World.cell?_of_block (a := ⟨g, off + i * 3 + 2, none⟩) (hb g h1 h2.1)).trans (hc i p hi).2.2⟩, fun i hi => (World.frozen?_of_block (a := ⟨g, off + i, none⟩) (hb g h1 h2.1)).trans (hf i hi)⟩
def BackG (w : World) (rr ss B C R T A k m : Nat) (p q : Int) (a2 : Option Addr) (c2 : Nat) (L : List (Int × Int)) (l : Array Bool) (W : World) : Prop :=
 Below w.heap.size w W ∧ Rd W R (k + m * indD l rr) ∧ IsPairs B C W (.slice a2 L.length c2) L ∧ C3 W T (.int .i64 p) (.int .i64 q) (.slice a2 L.length c2) ∧
   ∃ (x y : Int) (a : Option Addr) (n c : Nat), C3 W A (.int .i64 x) (.int .i64 y) (.slice a n c) ∧ (l.getD ss false = true → x = p ∧ y = q ∧ (.slice a n c : Value) = .slice a2 L.length c2)
theorem BackG.same {w : World} {rr ss B C R T A k m : Nat} {p q : Int} {a2 : Option Addr} {c2 : Nat} {L : List (Int × Int)} {l : Array Bool} {W : World} (h : BackG w rr ss B C R T A k m p q a2 c2 L l W) {i : Nat} (h2 : i ≠ rr) (h3 : i ≠ ss) : BackG w rr ss B C R T A k m p q a2 c2 L (l.setIfInBounds i true) W := by
 obtain ⟨hb, hr, hi, ht, x, y, a, n, c, hA, hl⟩ := h
 exact ⟨hb, by rw [indD_other h2]; exact hr, hi, ht, x, y, a, n, c, hA, fun e => hl (by rwa [getD_set_other _ h3] at e)⟩
theorem BackG.call {w : World} {rr ss B C R T A k m : Nat} {p q : Int} {a2 : Option Addr} {c2 : Nat} {L : List (Int × Int)} {l : Array Bool} {W W' : World} (h : BackG w rr ss B C R T A k m p q a2 c2 L l W) (hl2 : l.getD rr true = false) (hrs : rr ≠ ss) (hr : Rd W' R (k + m * indD l rr + m)) (hg : W.grownBy W' (some R)) (hRB : R < B) (hRw : w.heap.size ≤ R) (hT : T ≠ R) (hA : A ≠ R) : BackG w rr ss B C R T A k m p q a2 c2 L (l.setIfInBounds rr true) W' := by
 obtain ⟨hb, _, hi, ht, x, y, a, n, c, hAc, hl⟩ := h
 refine ⟨hb.grown hg hb.size (fun k e => by cases e; exact hRw), ?_, pairs_grows hi hg hRB, ht.grow hg hT, x, y, a, n, c, hAc.grow hg hA, fun e => hl (by rwa [getD_set_other _ hrs] at e)⟩
 rw [indD_self hl2, Nat.mul_add, Nat.mul_one, ← Nat.add_assoc]
 exact hr
theorem BackG.desk {w : World} {rr ss B C R T A k m : Nat} {p q : Int} {a2 : Option Addr} {c2 : Nat} {L : List (Int × Int)} {l : Array Bool} {W : World} (h : BackG w rr ss B C R T A k m p q a2 c2 L l W) (hrs : ss ≠ rr) (hAB : A < B) (hAw : w.heap.size ≤ A) (hTA : T ≠ A) (hAR : A ≠ R) : BackG w rr ss B C R T A k m p q a2 c2 L (l.setIfInBounds ss true) (set3 W A (.int .i64 p) (.int .i64 q) (.slice a2 L.length c2)) := by
 obtain ⟨hb, hr, hi, ht, x, y, a, n, c, hA, _⟩ := h
 exact ⟨below_set3 hb hAw _ _ _, by rw [indD_other hrs]; exact rd_set3 hr hA hAR (fun _ e => by cases e) (fun _ e => by cases e) (fun _ e => by cases e) _ _ _, pairs_set3 hi hAB _ _ _, ht.other hTA _ _ _, p, q, a2, L.length, c2, hA.set _ _ _, fun _ => ⟨rfl, rfl, rfl⟩⟩
theorem arr13 (t : Array Value) (h : t.size = 13) : t = #[t.getD 0 undef, t.getD 1 undef, t.getD 2 undef, t.getD 3 undef, t.getD 4 undef, t.getD 5 undef, t.getD 6 undef, t.getD 7 undef, t.getD 8 undef, t.getD 9 undef, t.getD 10 undef, t.getD 11 undef, t.getD 12 undef] := by
 apply Array.ext
 · simpa using h
 · intro i h1 h2
   have h3 : i < 13 := by omega
   rcases (show i = 0 ∨ i = 1 ∨ i = 2 ∨ i = 3 ∨ i = 4 ∨ i = 5 ∨ i = 6 ∨ i = 7 ∨ i = 8 ∨ i = 9 ∨ i = 10 ∨ i = 11 ∨ i = 12 by omega) with rfl | rfl | rfl | rfl | rfl | rfl | rfl | rfl | rfl | rfl | rfl | rfl | rfl <;> simp [Array.getD, h]
theorem act13 (t : Array Value) (h : t.size = 13) (v2 v3 : Value) (h2 : t.getD 2 undef = v2) (h3 : t.getD 3 undef = v3) : ∃ u0 u1 u4 u5 u6 u7 u8 u9 u10 u11 u12 : Value, t = #[u0, u1, v2, v3, u4, u5, u6, u7, u8, u9, u10, u11, u12] :=
 ⟨_, _, _, _, _, _, _, _, _, _, _, by rw [← h2, ← h3]; exact arr13 t h⟩
end
end Go.Proofs.YtblphilcmfabkaaGreatDoor
