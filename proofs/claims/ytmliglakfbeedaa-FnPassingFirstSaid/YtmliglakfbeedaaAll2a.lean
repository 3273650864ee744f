/- Contracts and laws that the statement's proof stands on, one text behind the other. -/
import Derived.Test.YtmliglakfbeedaaAll1
import Derived.Test.YtmliglakfbeedaaHvJacobi
import Derived.Test.YtmliglakfbeedaaHvRankParts
import Derived.Test.YtmliglakfbeedaaHvRankDraws
import Derived.Laws.EntriesVeiled
import Derived.RangeFuncBox
import Derived.Maps.OwnIn

namespace Go.Proofs.Ytmliglakfbeedaa
theorem chkJ_at {b : Nat} (h2 : b % 2 = 1) (hb : b ≤ 407) : chkJ b = true := by
  rcases Nat.lt_or_ge b 281 with h | h
  · have := List.all_eq_true.1 chkJ_low (b / 2) (by simp; omega)
    rwa [show 2 * (b / 2) + 1 = b by omega] at this
  · have := List.all_eq_true.1 chkJ_high ((b - 281) / 2) (by simp; omega)
    rwa [show 2 * ((b - 281) / 2) + 281 = b by omega] at this
/-- The sign of any number, by what it leaves. -/
def signV (n : Int) (b : Nat) : Int := jac (n % (b : Int)).toNat b
theorem left_nat (n : Int) {b : Nat} (hb : 1 ≤ b) : ∃ r : Nat, n % (b : Int) = r ∧ r < b := by
  have n0 := Int.emod_nonneg n (show (b : Int) ≠ 0 by omega)
  have n1 := Int.emod_lt_of_pos n (show (0 : Int) < b by omega)
  exact ⟨(n % (b : Int)).toNat, by omega, by omega⟩
theorem sign_five {b : Nat} (h2 : b % 2 = 1) (hb : b ≤ 407) (n : Int) : signV (5 * n) b = signV n b * signV 5 b := by
  obtain ⟨r, hr, hlt⟩ := left_nat n (b := b) (by omega)
  have h := chkJ_at h2 hb
  rw [chkJ] at h
  have h3 := List.all_eq_true.1 h r (by simpa using hlt)
  simp only [Bool.and_eq_true, beq_iff_eq] at h3
  have e5 : (5 * n) % (b : Int) = ((5 * r % b : Nat) : Int) := by
    have : (5 * n) % (b : Int) = (5 * (r : Int)) % (b : Int) := by
      refine Eqm.left ((Eqm.refl _ 5).mul ?_)
      rw [← hr]
      exact (eqm_left _ _).symm
    rw [this]; simp
  have e6 : (5 : Int) % (b : Int) = ((5 % b : Nat) : Int) := by simp
  rw [signV, signV, signV, e5, e6, hr]
  simp only [Int.toNat_natCast]
  exact h3.1
theorem gcd_left (n b : Int) : Int.gcd n b = Int.gcd (n % b) b := by
  have e := Int.emod_add_mul_ediv n b
  have h1 : (Int.gcd n b : Int) ∣ n % b := by
    have h := Int.dvd_sub (Int.gcd_dvd_left n b) (Int.dvd_mul_of_dvd_left (c := n / b) (Int.gcd_dvd_right n b))
    rwa [show n - b * (n / b) = n % b by omega] at h
  have h2 : (Int.gcd (n % b) b : Int) ∣ n := by
    have h := Int.dvd_add (Int.gcd_dvd_left (n % b) b) (Int.dvd_mul_of_dvd_left (c := n / b) (Int.gcd_dvd_right (n % b) b))
    rwa [e] at h
  apply Nat.dvd_antisymm
  · exact Int.natCast_dvd_natCast.1 (Int.dvd_coe_gcd h1 (Int.gcd_dvd_right n b))
  · exact Int.natCast_dvd_natCast.1 (Int.dvd_coe_gcd h2 (Int.gcd_dvd_right (n % b) b))
theorem sign_zero {b : Nat} (h2 : b % 2 = 1) (hb : b ≤ 407) (n : Int) : signV n b = 0 ↔ 1 < Int.gcd n b := by
  obtain ⟨r, hr, hlt⟩ := left_nat n (b := b) (by omega)
  have h := chkJ_at h2 hb
  rw [chkJ] at h
  have h3 := List.all_eq_true.1 h r (by simpa using hlt)
  simp only [Bool.and_eq_true, beq_iff_eq] at h3
  have hg : Int.gcd n b = Nat.gcd r b := by
    rw [gcd_left, hr]
    rfl
  rw [signV, hr, hg]
  simp only [Int.toNat_natCast]
  have h4 := h3.2
  constructor
  · intro h5
    rw [h5] at h4
    simpa using h4.symm
  · intro h5
    rw [decide_eq_true h5, beq_iff_eq] at h4
    exact h4
/-- At odd primes the sign tells squares. -/
theorem sign_prime {m : Nat} (hm : m ∈ primes400) (h2 : m ≠ 2) (n : Int) : (signV n m + m) % (m : Int) = n ^ (m / 2) % (m : Int) := by
  obtain ⟨b1, b2, _⟩ := prime_mem.1 hm
  obtain ⟨r, hr, hlt⟩ := left_nat n (b := m) (by omega)
  have h := List.all_eq_true.1 chkJP_all m hm
  simp only [Bool.or_eq_true, beq_iff_eq] at h
  rcases h with h | h
  · exact absurd h h2
  · have h3 := List.all_eq_true.1 h r (by simpa using hlt)
    rw [beq_iff_eq, fastP_is _ m 9 (m / 2) (pow9 (by omega))] at h3
    rw [signV, hr]
    simp only [Int.toNat_natCast]
    rw [h3]
    refine Eqm.left (Eqm.pow ?_ _)
    rw [← hr]
    exact eqm_left _ _
theorem jacF_cases : ∀ (f a b : Nat), jacF f a b = 0 ∨ jacF f a b = 1 ∨ jacF f a b = -1
  | 0, _, _ => .inl rfl
  | f + 1, a, b => by
    have h1 := jacF_cases f (a / 2) b
    have h2 := jacF_cases f (b % a) a
    rw [jacF]
    split
    · split <;> omega
    · split
      · split <;> omega
      · split <;> omega
theorem signV_cases (n : Int) (b : Nat) : signV n b = 0 ∨ signV n b = 1 ∨ signV n b = -1 := jacF_cases _ _ _
theorem signN_cases (n : Int) (m : Nat) : signN n m = 0 ∨ signN n m = 1 ∨ signN n m = -1 := by
  rw [signN]; split
  · exact .inl rfl
  · split
    · exact .inr (.inl rfl)
    · exact .inr (.inr rfl)
/-- Both signs are the same at odd primes. -/
theorem sign_same {m : Nat} (hm : m ∈ primes400) (h2 : m ≠ 2) (n : Int) : signV n m = signN n m := by
  obtain ⟨b1, b2, hp⟩ := prime_mem.1 hm
  have h := (sign_prime hm h2 n).trans (euler hm h2 n)
  rw [Int.add_emod_right, Int.add_emod_right] at h
  have m3 : (3 : Int) ≤ m := by omega
  obtain ⟨c, hc⟩ := eqm_of_left h
  rcases signV_cases n m with e | e | e <;> rcases signN_cases n m with e' | e' | e' <;> rw [e, e'] at hc ⊢
  all_goals exfalso
  all_goals (rcases (show c ≤ -1 ∨ c = 0 ∨ 1 ≤ c by omega) with hcc | hcc | hcc)
  all_goals first
    | (subst hcc; omega)
    | (have := Int.mul_le_mul_of_nonneg_left hcc (show (0 : Int) ≤ m by omega); omega)
end Go.Proofs.Ytmliglakfbeedaa
namespace Go.Proofs.Ytmliglakfbeedaa
open Go.RowKit
def signB (n b : Int) : Bool := inB n (-10000) 10000 && (inB b 1 10000 && decide (b % 2 ≠ 0))
def signOfV (n b : Int) : Int := if signB n b = true then signV n b.toNat else 0
theorem signOfV_no {n b : Int} (h : signB n b = false) : signOfV n b = 0 := by rw [signOfV, if_neg (by simp [h])]
theorem signOfV_is {n : Int} {m : Nat} (h : signB n m = true) : signOfV n m = signV n m := by rw [signOfV, if_pos h]; rfl
theorem signB_true {n b : Int} (h : signB n b = true) : ∃ m : Nat, b = m ∧ 1 ≤ m ∧ m ≤ 10000 ∧ m % 2 = 1 ∧ -10000 ≤ n ∧ n ≤ 10000 := by
  have h' : inB n (-10000) 10000 = true ∧ inB b 1 10000 = true ∧ ¬ b % 2 = 0 := by simpa [signB] using h
  obtain ⟨hn, hb, h2⟩ := h'
  obtain ⟨n1, n2⟩ := inB_true hn
  obtain ⟨b1, b2⟩ := inB_true hb
  exact ⟨b.toNat, by omega, by omega, by omega, by omega, n1, n2⟩
theorem signB_mk {n : Int} {m : Nat} (h1 : 1 ≤ m) (h2 : m ≤ 10000) (h3 : m % 2 = 1) (n1 : -10000 ≤ n) (n2 : n ≤ 10000) : signB n m = true := by
  simp [signB, inB_mk n1 n2, inB_mk (n := (m : Int)) (a := 1) (b := 10000) (by omega) (by omega)]; omega
theorem signB_ways {n b : Int} (h : signB n b = false) : inB n (-10000) 10000 = false ∨ (inB n (-10000) 10000 = true ∧ inB b 1 10000 = false) ∨ (inB n (-10000) 10000 = true ∧ inB b 1 10000 = true ∧ b % 2 = 0) := by
  cases hn : inB n (-10000) 10000 with
  | false => exact .inl rfl
  | true =>
    cases hb : inB b 1 10000 with
    | false => exact .inr (.inl ⟨rfl, rfl⟩)
    | true => exact .inr (.inr ⟨rfl, rfl, by simpa [signB, hn, hb] using h⟩)
theorem sgn_even {s J : Int} {a b : Nat} (h : s * jac a b = J) (h0 : a ≠ 0) (h2 : a % 2 = 0) : (if b % 8 = 3 ∨ b % 8 = 5 then -s else s) * jac (a / 2) b = J := by
  rw [jac_even b h0 h2] at h
  rw [← h]
  split <;> simp only [Int.one_mul, Int.neg_mul, Int.mul_neg]
theorem sgn_odd {s J : Int} {a b : Nat} (h : s * jac a b = J) (h2 : a % 2 ≠ 0) : (if a % 4 = 3 ∧ b % 4 = 3 then -s else s) * jac (b % a) a = J := by
  rw [jac_odd b h2] at h
  rw [← h]
  split <;> simp only [Int.one_mul, Int.neg_mul, Int.mul_neg]
set_option maxRecDepth 100000 in
set_option maxHeartbeats 8000000 in
theorem specSign_any (n b : Int) (w : World) : Calls Try.prog 13 #[.int .i64 n, .int .i64 b] w fun e w' => e = .returned (.tuple #[.int .i64 (signOfV n b), .bool (signB n b)]) ∧ w = w' := by
  cases h : signB n b with
  | false =>
    have HV := Lib.hid (signOfV_no h)
    rcases signB_ways h with hn | ⟨hn, hb⟩ | ⟨hn, hb, h2⟩
    · have HN := Lib.hid hn
      clear h hn
      go_enter Try.func13, Try.ntmps13
      go_wp2_with fail
      refine (l1In_no n (-10000) 10000 _ HN.out).mono ?_
      rintro e wx ⟨rfl, rfl⟩
      go_wp2
      go_ret2
      exact ⟨ret_int_bool HV.out.symm rfl, rfl⟩
    · have HN := Lib.hid hn
      have HB := Lib.hid hb
      clear h hn hb
      go_enter Try.func13, Try.ntmps13
      go_wp2_with fail
      refine (l1In_yes _ (-10000) 10000 _ HN.out).mono ?_
      rintro e wx ⟨rfl, rfl⟩
      go_wp2_with fail
      refine (l1In_no b 1 10000 _ HB.out).mono ?_
      rintro e wx ⟨rfl, rfl⟩
      go_wp2
      go_ret2
      exact ⟨ret_int_bool HV.out.symm rfl, rfl⟩
    · have HN := Lib.hid hn
      have HB := Lib.hid hb
      obtain ⟨b1, b2⟩ := inB_true hb
      have hT : (b % 2 == 0) = true := by simpa using h2
      have hT2 : (b.tmod 2 == 0) = true := by rw [Int.tmod_eq_emod_of_nonneg (by omega)]; exact hT
      clear h hn hb
      go_enter Try.func13, Try.ntmps13
      go_wp2_with fail
      refine (l1In_yes _ (-10000) 10000 _ HN.out).mono ?_
      rintro e wx ⟨rfl, rfl⟩
      go_wp2_with fail
      refine (l1In_yes _ 1 10000 _ HB.out).mono ?_
      rintro e wx ⟨rfl, rfl⟩
      go_wp2
      go_ret2
      exact ⟨ret_int_bool HV.out.symm rfl, rfl⟩
  | true =>
    obtain ⟨m, rfl, m1, m2, m3, n1, n2⟩ := signB_true h
    have HV := Lib.hid (signOfV_is h)
    have HN := Lib.hid (inB_mk n1 n2)
    have HB := Lib.hid (inB_mk (n := (m : Int)) (a := 1) (b := 10000) (by omega) (by omega))
    have hT : ((m : Int) % 2 == 0) = false := by simp; omega
    have i1 : (1 : Int) ≤ (m : Int) := by omega
    have i3 : (m : Int) ≤ 1000000000000 := by omega
    obtain ⟨r, hr, hrm⟩ := left_nat n m1
    have HR := Lib.hid hr
    have HJ := Lib.hid (show jac r m = signV n m by rw [signV, hr]; rfl)
    clear h hr
    go_enter Try.func13, Try.ntmps13
    go_wp2_with fail
    refine (l1In_yes _ (-10000) 10000 _ HN.out).mono ?_
    rintro e wx ⟨rfl, rfl⟩
    go_wp2_with fail
    refine (l1In_yes _ 1 10000 _ HB.out).mono ?_
    rintro e wx ⟨rfl, rfl⟩
    go_wp2_with fail
    refine (l3Left_at n m r _ i1 i3 HR.out).mono ?_
    rintro e wx ⟨rfl, rfl⟩
    go_wp2_with fail
    go_loop [6, 7, 8, 9] (fun x y z _ => ∃ (a b : Nat) (s : Int), 1 ≤ b ∧ a ≤ 10000 ∧ b ≤ 10000 ∧ x = .int .i64 a ∧ y = .int .i64 b ∧ z = .int .i64 s ∧ (-1 ≤ s ∧ s ≤ 1) ∧ s * jac a b = jac r m) (fun x _ _ _ => (intOf x).toNat)
    case atStart => exact ⟨r, m, 1, m1, by omega, m2, rfl, rfl, rfl, by omega, by rw [Int.one_mul]⟩
    case round =>
      obtain ⟨a, b, s, b1, a2, b2, rfl, rfl, rfl, hs, hj⟩ := hrel
      have HJ2 := Lib.hid hj
      clear hj
      obtain ⟨s1, s2⟩ := hs
      have US : IntKind.i64.wrap (-s) = -s := by rw [IntKind.wrap_i64]; omega
      by_cases ha0 : a = 0
      · subst ha0
        by_cases hb1 : 1 < b
        · have HF := Lib.hid (show signV n m = 0 by rw [← HJ.out, ← HJ2.out, jac_zero, if_pos hb1, Int.mul_zero])
          go_wp2
          go_ret2
          exact ⟨ret_int_bool (by rw [HV.out, HF.out]) rfl, rfl⟩
        · have HF := Lib.hid (show signV n m = s by rw [← HJ.out, ← HJ2.out, jac_zero, if_neg hb1, Int.mul_one])
          have hb1' : b ≤ 1 := by omega
          go_wp2
          go_ret2
          exact ⟨ret_int_bool (by rw [HV.out, HF.out]) rfl, rfl⟩
      · have hapos : 0 < a := by omega
        have hai : (0 : Int) < (a : Int) := by omega
        by_cases he : a % 2 = 0
        · have hT3 : ((a : Int) % 2 == 0) = true := by simp; omega
          obtain ⟨c, hc⟩ : ∃ c, a / 2 = c := ⟨_, rfl⟩
          have hD : (a : Int) / 2 = (c : Int) := by rw [← hc]; simp
          have hca : c < a := by omega
          have HN2 := Lib.hid (sgn_even HJ2.out ha0 he)
          rw [hc] at HN2
          have hc9 : c ≤ 10000 := by omega
          clear he hc
          by_cases h3 : b % 8 = 3
          · have g3 : ((b : Int) % 8 == 3) = true := by simp; omega
            rw [if_pos (.inl h3)] at HN2
            go_wp2
            go_round
            case rel => exact ⟨c, b, -s, by omega, by omega, by omega, rfl, rfl, rfl, by omega, HN2.out⟩
            case measure => simp [intOf]; omega
          · have g3 : ((b : Int) % 8 == 3) = false := by simp; omega
            by_cases h5 : b % 8 = 5
            · have g5 : ((b : Int) % 8 == 5) = true := by simp; omega
              rw [if_pos (.inr h5)] at HN2
              go_wp2
              go_round
              case rel => exact ⟨c, b, -s, by omega, by omega, by omega, rfl, rfl, rfl, by omega, HN2.out⟩
              case measure => simp [intOf]; omega
            · have g5 : ((b : Int) % 8 == 5) = false := by simp; omega
              rw [if_neg (by omega)] at HN2
              go_wp2
              go_round
              case rel => exact ⟨c, b, s, by omega, by omega, by omega, rfl, rfl, rfl, by omega, HN2.out⟩
              case measure => simp [intOf]; omega
        · have hT3 : ((a : Int) % 2 == 0) = false := by simp; omega
          have HN2 := Lib.hid (sgn_odd HJ2.out he)
          obtain ⟨c, hc⟩ : ∃ c, b % a = c := ⟨_, rfl⟩
          have hD : (b : Int) % (a : Int) = (c : Int) := by rw [← hc]; simp
          have hca : c < a := by rw [← hc]; exact Nat.mod_lt _ hapos
          have haz : ((a : Int) == 0) = false := by simp; omega
          rw [hc] at HN2
          clear he hc
          by_cases h3 : a % 4 = 3
          · have g3 : ((a : Int) % 4 == 3) = true := by simp; omega
            by_cases h4 : b % 4 = 3
            · have g4 : ((b : Int) % 4 == 3) = true := by simp; omega
              rw [if_pos ⟨h3, h4⟩] at HN2
              go_wp2
              go_round
              case rel => exact ⟨c, a, -s, by omega, by omega, by omega, congrArg (Value.int .i64) hD, rfl, rfl, by omega, HN2.out⟩
              case measure => simp [intOf]; omega
            · have g4 : ((b : Int) % 4 == 3) = false := by simp; omega
              rw [if_neg (fun hh => h4 hh.2)] at HN2
              go_wp2
              go_round
              case rel => exact ⟨c, a, s, by omega, by omega, by omega, congrArg (Value.int .i64) hD, rfl, rfl, by omega, HN2.out⟩
              case measure => simp [intOf]; omega
          · have g3 : ((a : Int) % 4 == 3) = false := by simp; omega
            rw [if_neg (fun hh => h3 hh.1)] at HN2
            go_wp2
            go_round
            case rel => exact ⟨c, a, s, by omega, by omega, by omega, congrArg (Value.int .i64) hD, rfl, rfl, by omega, HN2.out⟩
            case measure => simp [intOf]; omega
theorem specSign_is (n b v : Int) (c : Bool) (w : World) (hv : signOfV n b = v) (hc : signB n b = c) : Calls Try.prog 13 #[.int .i64 n, .int .i64 b] w fun e w' => e = .returned (.tuple #[.int .i64 v, .bool c]) ∧ w = w' := by rw [← hv, ← hc]; exact specSign_any n b w
end Go.Proofs.Ytmliglakfbeedaa
namespace Go.Proofs.Ytmliglakfbeedaa
open Go.RowKit
def passSecondB (p q n : Int) : Bool := pairB p q && (inB n 2 10000 && (row p q 2 p n.toNat % n == p % n))
set_option maxRecDepth 100000 in
set_option maxHeartbeats 8000000 in
theorem specPassSecond_any (p q n : Int) (w : World) : Calls Try.prog 18 #[pr p q, .int .i64 n] w fun e w' => e = .returned (.bool (passSecondB p q n)) ∧ Below w.heap.size w w' := by
  cases hp : pairB p q with
  | false =>
    have HV := Lib.hid (show passSecondB p q n = false by simp [passSecondB, hp])
    have HP := Lib.hid hp
    clear hp
    have kb0 : (w.alloc (.cells #[.int .i64 p, .int .i64 q] 30)).cell? ⟨w.heap.size, 0, none⟩ = some (.int .i64 p) := by go_simp
    have kb1 : (w.alloc (.cells #[.int .i64 p, .int .i64 q] 30)).cell? ⟨w.heap.size, 1, none⟩ = some (.int .i64 q) := by go_simp
    have hal : Below w.heap.size w (w.alloc (.cells #[.int .i64 p, .int .i64 q] 30)) := by (repeat (first | exact Below.refl _ _ | refine Below.setCell ?_ (by first | omega | (simp <;> omega)) _ | refine Below.alloc ?_ (by first | omega | (simp <;> omega)) _ | refine Below.drew ?_ | refine Below.trans ?_ (Below.mono (by assumption) (by first | omega | (simp <;> omega))) | refine Below.grown ?_ (by assumption) (by first | omega | (simp <;> omega)) (fun k e => by cases e; first | omega | (simp <;> omega))))
    obtain ⟨w0, hw0⟩ : ∃ w0, (w.alloc (.cells #[.int .i64 p, .int .i64 q] 30)) = w0 := ⟨_, rfl⟩
    have HW0 := Lib.hid hw0
    rw [hw0] at kb0 kb1 hal
    clear hw0
    go_enter Try.func18, Try.ntmps18
    go_wp2_with fail
    rw [HW0.out]
    obtain ⟨S, hSd⟩ : ∃ S : World → Prop, (fun V => Below w0.heap.size w0 V) = S := ⟨_, rfl⟩
    have hkeep : ∀ V V' : World, S V → Below V.heap.size V V' → S V' := by rw [← hSd]; exact fun V V' h hb => h.trans (hb.mono h.size)
    have gk0 : ∀ iq : KeptBy S, iq.world.cell? ⟨w.heap.size, 0, none⟩ = some (.int .i64 p) := by rw [← hSd]; exact fun iq => cell_below iq.ok kb0
    have gk1 : ∀ iq : KeptBy S, iq.world.cell? ⟨w.heap.size, 1, none⟩ = some (.int .i64 q) := by rw [← hSd]; exact fun iq => cell_below iq.ok kb1
    have gkn : Nonempty (KeptBy S) := ⟨⟨w0.drew, by rw [← hSd]; exact (Below.refl _ _).drew⟩⟩
    go_wp2_with fail
    refine wp_region_kept (S := S) (by rw [← hSd]; exact (Below.refl _ _).drew) (by kernel_rfl) (by kernel_rfl) ?_
    repeat (go_big_quiet_step ((first | (go_at_call 19; refine (specPairOk_no p q _ HP.out).mono ?_; rintro e w' ⟨rfl, hhw⟩; exact ⟨rfl, ⟨w', hkeep _ _ (KeptBy.ok _) hhw⟩, rfl⟩) | fail)))
    refine wpQuiet_nil ?_
    rintro wz ⟨iz, hwz⟩
    have bwz : Below w0.heap.size w0 wz := by
      have this : S wz := by rw [hwz]; exact iz.ok
      rw [← hSd] at this
      exact this
    clear hwz iz gkn hkeep hSd gk0 gk1
    go_wp2
    go_ret
    exact ⟨ret_bool HV.out.symm, hal.trans (bwz.mono hal.size)⟩
  | true =>
    have HP := Lib.hid hp
    have kb0 : (w.alloc (.cells #[.int .i64 p, .int .i64 q] 30)).cell? ⟨w.heap.size, 0, none⟩ = some (.int .i64 p) := by go_simp
    have kb1 : (w.alloc (.cells #[.int .i64 p, .int .i64 q] 30)).cell? ⟨w.heap.size, 1, none⟩ = some (.int .i64 q) := by go_simp
    have hal : Below w.heap.size w (w.alloc (.cells #[.int .i64 p, .int .i64 q] 30)) := by (repeat (first | exact Below.refl _ _ | refine Below.setCell ?_ (by first | omega | (simp <;> omega)) _ | refine Below.alloc ?_ (by first | omega | (simp <;> omega)) _ | refine Below.drew ?_ | refine Below.trans ?_ (Below.mono (by assumption) (by first | omega | (simp <;> omega))) | refine Below.grown ?_ (by assumption) (by first | omega | (simp <;> omega)) (fun k e => by cases e; first | omega | (simp <;> omega))))
    obtain ⟨w0, hw0⟩ : ∃ w0, (w.alloc (.cells #[.int .i64 p, .int .i64 q] 30)) = w0 := ⟨_, rfl⟩
    have HW0 := Lib.hid hw0
    rw [hw0] at kb0 kb1 hal
    clear hw0
    cases hn : inB n 2 10000 with
    | false =>
      have HV := Lib.hid (show passSecondB p q n = false by simp [passSecondB, hn])
      have HN := Lib.hid hn
      clear hp hn
      go_enter Try.func18, Try.ntmps18
      go_wp2_with fail
      rw [HW0.out]
      obtain ⟨S, hSd⟩ : ∃ S : World → Prop, (fun V => Below w0.heap.size w0 V) = S := ⟨_, rfl⟩
      have hkeep : ∀ V V' : World, S V → Below V.heap.size V V' → S V' := by rw [← hSd]; exact fun V V' h hb => h.trans (hb.mono h.size)
      have gk0 : ∀ iq : KeptBy S, iq.world.cell? ⟨w.heap.size, 0, none⟩ = some (.int .i64 p) := by rw [← hSd]; exact fun iq => cell_below iq.ok kb0
      have gk1 : ∀ iq : KeptBy S, iq.world.cell? ⟨w.heap.size, 1, none⟩ = some (.int .i64 q) := by rw [← hSd]; exact fun iq => cell_below iq.ok kb1
      have gkn : Nonempty (KeptBy S) := ⟨⟨w0.drew, by rw [← hSd]; exact (Below.refl _ _).drew⟩⟩
      go_wp2_with fail
      refine wp_region_kept (S := S) (by rw [← hSd]; exact (Below.refl _ _).drew) (by kernel_rfl) (by kernel_rfl) ?_
      repeat (go_big_quiet_step ((first | (go_at_call 19; refine (specPairOk_yes p q _ HP.out).mono ?_; rintro e w' ⟨rfl, hhw⟩; exact ⟨rfl, ⟨w', hkeep _ _ (KeptBy.ok _) hhw⟩, rfl⟩) | (go_at_call 41; refine (l1In_no n 2 10000 _ HN.out).mono ?_; rintro e w' ⟨rfl, rfl⟩; exact ⟨rfl, _, rfl⟩) | fail)))
      refine wpQuiet_nil ?_
      rintro wz ⟨iz, hwz⟩
      have bwz : Below w0.heap.size w0 wz := by
        have this : S wz := by rw [hwz]; exact iz.ok
        rw [← hSd] at this
        exact this
      clear hwz iz gkn hkeep hSd gk0 gk1
      go_wp2
      go_ret
      exact ⟨ret_bool HV.out.symm, hal.trans (bwz.mono hal.size)⟩
    | true =>
      obtain ⟨n1, n2⟩ := inB_true hn
      obtain ⟨k, rfl⟩ := Int.eq_ofNat_of_zero_le (show 0 ≤ n by omega)
      have HN := Lib.hid hn
      obtain ⟨x, hx⟩ : ∃ x, row p q 2 p k % (k : Int) = x := ⟨_, rfl⟩
      obtain ⟨y, hy⟩ : ∃ y, p % (k : Int) = y := ⟨_, rfl⟩
      have HV := Lib.hid (show passSecondB p q k = (x == y) by rw [passSecondB, hp, hn, ← hx, ← hy]; simp)
      have HX := Lib.hid hx
      have HY := Lib.hid hy
      have i1 : (1 : Int) ≤ (k : Int) := by omega
      have i3 : (k : Int) ≤ 1000000000000 := by omega
      clear hp hn hx hy
      cases hxy : (x == y) with
      | true =>
        go_enter Try.func18, Try.ntmps18
        go_wp2_with fail
        rw [HW0.out]
        obtain ⟨S, hSd⟩ : ∃ S : World → Prop, (fun V => Below w0.heap.size w0 V) = S := ⟨_, rfl⟩
        have hkeep : ∀ V V' : World, S V → Below V.heap.size V V' → S V' := by rw [← hSd]; exact fun V V' h hb => h.trans (hb.mono h.size)
        have gk0 : ∀ iq : KeptBy S, iq.world.cell? ⟨w.heap.size, 0, none⟩ = some (.int .i64 p) := by rw [← hSd]; exact fun iq => cell_below iq.ok kb0
        have gk1 : ∀ iq : KeptBy S, iq.world.cell? ⟨w.heap.size, 1, none⟩ = some (.int .i64 q) := by rw [← hSd]; exact fun iq => cell_below iq.ok kb1
        have gkn : Nonempty (KeptBy S) := ⟨⟨w0.drew, by rw [← hSd]; exact (Below.refl _ _).drew⟩⟩
        go_wp2_with fail
        refine wp_region_kept (S := S) (by rw [← hSd]; exact (Below.refl _ _).drew) (by kernel_rfl) (by kernel_rfl) ?_
        repeat (go_big_quiet_step ((first | (go_at_call 19; refine (specPairOk_yes p q _ HP.out).mono ?_; rintro e w' ⟨rfl, hhw⟩; exact ⟨rfl, ⟨w', hkeep _ _ (KeptBy.ok _) hhw⟩, rfl⟩) | (go_at_call 41; refine (l1In_yes _ 2 10000 _ HN.out).mono ?_; rintro e w' ⟨rfl, rfl⟩; exact ⟨rfl, _, rfl⟩) | (go_at_call 51; refine (specFarSecond_at p q k k x _ _ rfl HP.out (by omega) (by omega) (by omega) HX.out).mono ?_; rintro e w' ⟨rfl, hhw⟩; exact ⟨rfl, ⟨w', hkeep _ _ (KeptBy.ok _) hhw⟩, rfl⟩) | (go_at_call 42; refine (l3Left_at p k y _ i1 i3 HY.out).mono ?_; rintro e w' ⟨rfl, rfl⟩; exact ⟨rfl, _, rfl⟩) | fail)))
        refine wpQuiet_nil ?_
        rintro wz ⟨iz, hwz⟩
        have bwz : Below w0.heap.size w0 wz := by
          have this : S wz := by rw [hwz]; exact iz.ok
          rw [← hSd] at this
          exact this
        clear hwz iz gkn hkeep hSd gk0 gk1
        go_wp2
        go_ret
        exact ⟨ret_bool (by rw [HV.out, hxy]), hal.trans (bwz.mono hal.size)⟩
      | false =>
        go_enter Try.func18, Try.ntmps18
        go_wp2_with fail
        rw [HW0.out]
        obtain ⟨S, hSd⟩ : ∃ S : World → Prop, (fun V => Below w0.heap.size w0 V) = S := ⟨_, rfl⟩
        have hkeep : ∀ V V' : World, S V → Below V.heap.size V V' → S V' := by rw [← hSd]; exact fun V V' h hb => h.trans (hb.mono h.size)
        have gk0 : ∀ iq : KeptBy S, iq.world.cell? ⟨w.heap.size, 0, none⟩ = some (.int .i64 p) := by rw [← hSd]; exact fun iq => cell_below iq.ok kb0
        have gk1 : ∀ iq : KeptBy S, iq.world.cell? ⟨w.heap.size, 1, none⟩ = some (.int .i64 q) := by rw [← hSd]; exact fun iq => cell_below iq.ok kb1
        have gkn : Nonempty (KeptBy S) := ⟨⟨w0.drew, by rw [← hSd]; exact (Below.refl _ _).drew⟩⟩
        go_wp2_with fail
        refine wp_region_kept (S := S) (by rw [← hSd]; exact (Below.refl _ _).drew) (by kernel_rfl) (by kernel_rfl) ?_
        repeat (go_big_quiet_step ((first | (go_at_call 19; refine (specPairOk_yes p q _ HP.out).mono ?_; rintro e w' ⟨rfl, hhw⟩; exact ⟨rfl, ⟨w', hkeep _ _ (KeptBy.ok _) hhw⟩, rfl⟩) | (go_at_call 41; refine (l1In_yes _ 2 10000 _ HN.out).mono ?_; rintro e w' ⟨rfl, rfl⟩; exact ⟨rfl, _, rfl⟩) | (go_at_call 51; refine (specFarSecond_at p q k k x _ _ rfl HP.out (by omega) (by omega) (by omega) HX.out).mono ?_; rintro e w' ⟨rfl, hhw⟩; exact ⟨rfl, ⟨w', hkeep _ _ (KeptBy.ok _) hhw⟩, rfl⟩) | (go_at_call 42; refine (l3Left_at p k y _ i1 i3 HY.out).mono ?_; rintro e w' ⟨rfl, rfl⟩; exact ⟨rfl, _, rfl⟩) | fail)))
        refine wpQuiet_nil ?_
        rintro wz ⟨iz, hwz⟩
        have bwz : Below w0.heap.size w0 wz := by
          have this : S wz := by rw [hwz]; exact iz.ok
          rw [← hSd] at this
          exact this
        clear hwz iz gkn hkeep hSd gk0 gk1
        go_wp2
        go_ret
        exact ⟨ret_bool (by rw [HV.out, hxy]), hal.trans (bwz.mono hal.size)⟩
theorem specPassSecond_is (p q l : Int) (c : Bool) (w : World) (h : passSecondB p q l = c) : Calls Try.prog 18 #[pr p q, .int .i64 l] w fun e w' => e = .returned (.bool c) ∧ Below w.heap.size w w' := by rw [← h]; exact specPassSecond_any p q l w
end Go.Proofs.Ytmliglakfbeedaa
namespace Go.Proofs.Ytmliglakfbeedaa
open Go.RowKit
set_option maxHeartbeats 400000 in
theorem testedOk_any (n : Int) (w : World) :
    Calls Try.prog 48 #[.int .i64 n] w fun e w' => e = .returned (.bool (inB n 1 10000)) ∧ w = w' := by
  by_cases h1 : 1 ≤ n
  · by_cases h2 : n ≤ 10000
    · have H := Lib.hid (inB_mk h1 h2)
      go_enter Try.func48, Try.ntmps48
      go_wp2
      go_ret
      exact ⟨ret_bool H.out.symm, rfl⟩
    · have H := Lib.hid (inB_no (n := n) (a := 1) (b := 10000) (by omega))
      have h2' : 10000 < n := by omega
      go_enter Try.func48, Try.ntmps48
      go_wp2
      go_ret
      exact ⟨ret_bool H.out.symm, rfl⟩
  · have H := Lib.hid (inB_no (n := n) (a := 1) (b := 10000) (by omega))
    have h1' : n < 1 := by omega
    go_enter Try.func48, Try.ntmps48
    go_wp2
    go_ret
    exact ⟨ret_bool H.out.symm, rfl⟩
theorem testedOk_is (n : Int) (c : Bool) (w : World) (h : inB n 1 10000 = c) : Calls Try.prog 48 #[.int .i64 n] w fun e w' => e = .returned (.bool c) ∧ w = w' := by have := testedOk_any n w; rw [h] at this; exact this
def oddTB (n : Int) : Bool := inB n 1 10000 && decide (n % 2 ≠ 0)
set_option maxHeartbeats 400000 in
theorem oddTested_any (n : Int) (w : World) :
    Calls Try.prog 39 #[.int .i64 n] w fun e w' => e = .returned (.bool (oddTB n)) ∧ w = w' := by
  cases hn : inB n 1 10000 with
  | false =>
    have HV := Lib.hid (show oddTB n = false by simp [oddTB, hn])
    have HN := Lib.hid hn
    clear hn
    go_enter Try.func39, Try.ntmps39
    go_wp2_with fail
    refine (testedOk_is _ false _ HN.out).mono ?_
    rintro e wx ⟨rfl, rfl⟩
    go_wp2
    go_ret
    exact ⟨ret_bool HV.out.symm, rfl⟩
  | true =>
    obtain ⟨n1, n2⟩ := inB_true hn
    have HN := Lib.hid hn
    by_cases h2 : n % 2 = 0
    · have HV := Lib.hid (show oddTB n = false by simp [oddTB, h2])
      have hT : (n % 2 == 1) = false := by simp; omega
      clear hn h2
      go_enter Try.func39, Try.ntmps39
      go_wp2_with fail
      refine (testedOk_is _ true _ HN.out).mono ?_
      rintro e wx ⟨rfl, rfl⟩
      go_wp2
      go_ret
      exact ⟨ret_bool HV.out.symm, rfl⟩
    · have HV := Lib.hid (show oddTB n = true by simp [oddTB, h2, hn])
      have hT : (n % 2 == 1) = true := by simp; omega
      clear hn h2
      go_enter Try.func39, Try.ntmps39
      go_wp2_with fail
      refine (testedOk_is _ true _ HN.out).mono ?_
      rintro e wx ⟨rfl, rfl⟩
      go_wp2
      go_ret
      exact ⟨ret_bool HV.out.symm, rfl⟩
theorem oddTested_is (n : Int) (c : Bool) (w : World) (h : oddTB n = c) : Calls Try.prog 39 #[.int .i64 n] w fun e w' => e = .returned (.bool c) ∧ w = w' := by have := oddTested_any n w; rw [h] at this; exact this
theorem signV_one (n : Int) : signV n 1 = 1 := by simp [signV, jac_zero]
theorem sign_halved {s J : Int} {a b : Nat} (h : s * jac a b = J) (h0 : a ≠ 0) (h2 : a % 2 = 0) : (if b % 8 = 3 ∨ b % 8 = 5 then -s else s) * jac (a / 2) b = J := sgn_even h h0 h2
set_option maxRecDepth 100000 in
set_option maxHeartbeats 8000000 in
theorem signFor_at : ∀ (N m : Nat), m ≤ N → ∀ (n : Int) (w : World), 1 ≤ m → m ≤ 10000 → m % 2 = 1 → -10000 ≤ n → n ≤ 10000 →
    Calls Try.prog 40 #[.int .i64 n, .int .i64 m] w fun e w' => e = .returned (.int .i64 (signV n m)) ∧ w = w' := by
  intro N
  induction N with
  | zero => intro m hm n w h1; omega
  | succ N ih =>
    intro m hmN n w m1 m2 m3 n1 n2
    by_cases he : m = 1
    · subst he
      have HV := Lib.hid (signV_one n)
      clear ih
      go_enter Try.func40, Try.ntmps40
      go_wp2
      go_ret
      exact ⟨ret_int HV.out.symm, rfl⟩
    · have hne : ((m : Int) == 1) = false := by simp; omega
      have i1 : (1 : Int) ≤ (m : Int) := by omega
      have i3 : (m : Int) ≤ 1000000000000 := by omega
      obtain ⟨r, hr, hrm⟩ := left_nat n m1
      have HR := Lib.hid hr
      have HJ := Lib.hid (show jac r m = signV n m by rw [signV, hr]; rfl)
      have IH := Lib.hid ih
      clear hr ih
      by_cases hr0 : r = 0
      · subst hr0
        have HV := Lib.hid (show signV n m = 0 by rw [← HJ.out, jac_zero, if_pos (by omega)])
        go_enter Try.func40, Try.ntmps40
        go_wp2_with fail
        refine (leftOf_at n m ((0 : Nat) : Int) _ i1 i3 HR.out).mono ?_
        rintro e wx ⟨rfl, rfl⟩
        go_wp2
        go_ret
        exact ⟨ret_int HV.out.symm, rfl⟩
      · have hrz : ((r : Int) == 0) = false := by simp; omega
        go_enter Try.func40, Try.ntmps40
        go_wp2_with fail
        refine (leftOf_at n m r _ i1 i3 HR.out).mono ?_
        rintro e wx ⟨rfl, rfl⟩
        go_wp2_with fail
        go_loop [5, 6] (fun x z => ∃ (a : Nat) (s : Int), 1 ≤ a ∧ a ≤ r ∧ x = .int .i64 a ∧ z = .int .i64 s ∧ (-1 ≤ s ∧ s ≤ 1) ∧ s * jac a m = jac r m) (fun x _ => (intOf x).toNat)
        case atStart => exact ⟨r, 1, by omega, by omega, rfl, rfl, by omega, by rw [Int.one_mul]⟩
        case round =>
          obtain ⟨a, s, a1, a2, rfl, rfl, hs, hj⟩ := hrel
          have HJ2 := Lib.hid hj
          clear hj
          obtain ⟨s1, s2⟩ := hs
          have US : IntKind.i64.wrap (-s) = -s := by rw [IntKind.wrap_i64]; omega
          by_cases he2 : a % 2 = 0
          · have hT3 : ((a : Int) % 2 == 0) = true := by simp; omega
            obtain ⟨c, hc⟩ : ∃ c, a / 2 = c := ⟨_, rfl⟩
            have hD : (a : Int) / 2 = (c : Int) := by rw [← hc]; simp
            have hca : c < a := by omega
            have hc1 : 1 ≤ c := by omega
            have HN2 := Lib.hid (sgn_even HJ2.out (by omega) he2)
            rw [hc] at HN2
            have hcr : c ≤ r := by omega
            clear he2 hc
            by_cases h3 : m % 8 = 3
            · have g3 : ((m : Int) % 8 == 3) = true := by simp; omega
              rw [if_pos (.inl h3)] at HN2
              go_wp2
              go_round
              case rel => exact ⟨c, -s, hc1, hcr, rfl, rfl, by omega, HN2.out⟩
              case measure => simp [intOf]; omega
            · have g3 : ((m : Int) % 8 == 3) = false := by simp; omega
              by_cases h5 : m % 8 = 5
              · have g5 : ((m : Int) % 8 == 5) = true := by simp; omega
                rw [if_pos (.inr h5)] at HN2
                go_wp2
                go_round
                case rel => exact ⟨c, -s, hc1, hcr, rfl, rfl, by omega, HN2.out⟩
                case measure => simp [intOf]; omega
              · have g5 : ((m : Int) % 8 == 5) = false := by simp; omega
                rw [if_neg (by omega)] at HN2
                go_wp2
                go_round
                case rel => exact ⟨c, s, hc1, hcr, rfl, rfl, by omega, HN2.out⟩
                case measure => simp [intOf]; omega
          · have hT3 : ((a : Int) % 2 == 0) = false := by simp; omega
            have HN2 := Lib.hid (sgn_odd HJ2.out he2)
            have HA := Lib.hid (show jac (m % a) a = signV (m : Int) a by rw [signV]; congr 1)
            have hodd : a % 2 = 1 := by omega
            have hcs := signV_cases (m : Int) a
            rw [HA.out] at HN2
            clear he2
            by_cases h3 : a % 4 = 3 ∧ m % 4 = 3
            · obtain ⟨h3, h4⟩ := h3
              have g3 : ((a : Int) % 4 == 3) = true := by simp; omega
              have g4 : ((m : Int) % 4 == 3) = true := by simp; omega
              rw [if_pos ⟨h3, h4⟩] at HN2
              have HF := Lib.hid (HN2.out.trans HJ.out)
              go_wp2_with fail
              refine (IH.out a (by omega) m _ a1 (by omega) hodd (by omega) (by omega)).mono ?_
              rintro e wx ⟨rfl, rfl⟩
              have UM : IntKind.i64.wrap (-s * signV (m : Int) a) = -s * signV (m : Int) a := by
                rw [IntKind.wrap_i64]; rcases hcs with h | h | h <;> rw [h] <;> omega
              go_wp2
              go_ret
              exact ⟨ret_int HF.out, rfl⟩
            · rw [if_neg h3] at HN2
              have HF := Lib.hid (HN2.out.trans HJ.out)
              by_cases h4 : a % 4 = 3
              · have g3 : ((a : Int) % 4 == 3) = true := by simp; omega
                have g4 : ((m : Int) % 4 == 3) = false := by simp; omega
                go_wp2_with fail
                refine (IH.out a (by omega) m _ a1 (by omega) hodd (by omega) (by omega)).mono ?_
                rintro e wx ⟨rfl, rfl⟩
                have UM : IntKind.i64.wrap (s * signV (m : Int) a) = s * signV (m : Int) a := by
                  rw [IntKind.wrap_i64]; rcases hcs with h | h | h <;> rw [h] <;> omega
                go_wp2
                go_ret
                exact ⟨ret_int HF.out, rfl⟩
              · have g3 : ((a : Int) % 4 == 3) = false := by simp; omega
                go_wp2_with fail
                refine (IH.out a (by omega) m _ a1 (by omega) hodd (by omega) (by omega)).mono ?_
                rintro e wx ⟨rfl, rfl⟩
                have UM : IntKind.i64.wrap (s * signV (m : Int) a) = s * signV (m : Int) a := by
                  rw [IntKind.wrap_i64]; rcases hcs with h | h | h <;> rw [h] <;> omega
                go_wp2
                go_ret
                exact ⟨ret_int HF.out, rfl⟩
theorem signFor_is (m : Nat) (n v : Int) (w : World) (m1 : 1 ≤ m) (m2 : m ≤ 10000) (m3 : m % 2 = 1) (n1 : -10000 ≤ n) (n2 : n ≤ 10000) (hv : signV n m = v) :
    Calls Try.prog 40 #[.int .i64 n, .int .i64 m] w fun e w' => e = .returned (.int .i64 v) ∧ w = w' := by rw [← hv]; exact signFor_at m m (Nat.le_refl _) n w m1 m2 m3 n1 n2
set_option maxHeartbeats 4000000 in
theorem implSign_any (n b : Int) (w : World) : Calls Try.prog 12 #[.int .i64 n, .int .i64 b] w fun e w' => e = .returned (.tuple #[.int .i64 (signOfV n b), .bool (signB n b)]) ∧ Below w.heap.size w w' := by
  cases hn : inB n (-10000) 10000 with
  | false =>
    have HB := Lib.hid (show signB n b = false by simp [signB, hn])
    have HV := Lib.hid (signOfV_no HB.out)
    have HN := Lib.hid hn
    clear hn
    go_enter Try.func12, Try.ntmps12
    go_wp2_with fail
    refine (dividedOk_is n false _ HN.out).mono ?_
    rintro e wx ⟨rfl, rfl⟩
    go_wp2
    go_ret2
    exact ⟨ret_int_bool HV.out.symm HB.out.symm, Below.refl _ _⟩
  | true =>
    cases ho : oddTB b with
    | false =>
      have HB := Lib.hid (show signB n b = false by rw [signB]; rw [oddTB] at ho; rw [ho]; simp)
      have HV := Lib.hid (signOfV_no HB.out)
      have HN := Lib.hid hn
      have HO := Lib.hid ho
      clear hn ho
      go_enter Try.func12, Try.ntmps12
      go_wp2_with fail
      refine (dividedOk_is n true _ HN.out).mono ?_
      rintro e wx ⟨rfl, rfl⟩
      go_wp2_with fail
      refine (oddTested_is b false _ HO.out).mono ?_
      rintro e wx ⟨rfl, rfl⟩
      go_wp2
      go_ret2
      exact ⟨ret_int_bool HV.out.symm HB.out.symm, Below.refl _ _⟩
    | true =>
      have hb : signB n b = true := by rw [signB]; rw [oddTB] at ho; rw [ho, hn]; rfl
      obtain ⟨m, rfl, m1, m2, m3, n1, n2⟩ := signB_true hb
      have HB := Lib.hid hb
      have HV := Lib.hid (signOfV_is hb)
      have HN := Lib.hid hn
      have HO := Lib.hid ho
      clear hn ho hb
      go_enter Try.func12, Try.ntmps12
      go_wp2_with fail
      refine (dividedOk_is n true _ HN.out).mono ?_
      rintro e wx ⟨rfl, rfl⟩
      go_wp2_with fail
      refine (oddTested_is _ true _ HO.out).mono ?_
      rintro e wx ⟨rfl, rfl⟩
      go_wp2_with fail
      refine (signFor_is m n _ _ m1 m2 m3 n1 n2 rfl).mono ?_
      rintro e wx ⟨rfl, rfl⟩
      go_wp2
      go_ret2
      exact ⟨ret_int_bool HV.out.symm HB.out.symm, Below.refl _ _⟩
end Go.Proofs.Ytmliglakfbeedaa
namespace Go.Proofs.Ytmliglakfbeedaa
open Go.RowKit
def besideN (p q : Int) (m : Nat) : Nat := ((m : Int) - signV (p * p - 4 * q) m).toNat
def passFirstB (p q n : Int) : Bool := pairB p q && (decide (q ≠ 0) && (inB n 3 10000 && (decide (n % 2 ≠ 0) && (decide (Int.gcd n q = 1) && (decide (Int.gcd n (p * p - 4 * q) = 1) && (row p q 0 1 (besideN p q n.toNat) % n == 0))))))
theorem passFirstB_true {p q n : Int} (h : passFirstB p q n = true) : ∃ m : Nat, n = m ∧ pairB p q = true ∧ q ≠ 0 ∧ 3 ≤ m ∧ m ≤ 10000 ∧ m % 2 = 1 ∧ Int.gcd m q = 1 ∧ Int.gcd m (p * p - 4 * q) = 1 ∧ row p q 0 1 (besideN p q m) % (m : Int) = 0 := by
  simp only [passFirstB, Bool.and_eq_true, decide_eq_true_iff, beq_iff_eq] at h
  obtain ⟨hp, hq, hn, h2, h3, h4, h5⟩ := h
  obtain ⟨n1, n2⟩ := inB_true hn
  obtain ⟨m, rfl⟩ := Int.eq_ofNat_of_zero_le (show 0 ≤ n by omega)
  exact ⟨m, rfl, hp, hq, by omega, by omega, by omega, h3, h4, by simpa using h5⟩
theorem passFirstB_mk {p q : Int} {m : Nat} (hp : pairB p q = true) (hq : q ≠ 0) (h1 : 3 ≤ m) (h2 : m ≤ 10000) (h3 : m % 2 = 1) (h4 : Int.gcd m q = 1) (h5 : Int.gcd m (p * p - 4 * q) = 1) : passFirstB p q m = (row p q 0 1 (besideN p q m) % (m : Int) == 0) := by
  have hm2 : ¬ (m : Int) % 2 = 0 := by omega
  simp [passFirstB, hp, hq, inB_mk (n := (m : Int)) (a := 3) (b := 10000) (by omega) (by omega), hm2, h4, h5]
theorem beside_is {p q : Int} {m : Nat} (h1 : 3 ≤ m) : (m : Int) - signV (p * p - 4 * q) m = (besideN p q m : Int) ∧ besideN p q m ≤ m + 1 ∧ m ≤ besideN p q m + 1 := by
  rw [besideN]
  rcases signV_cases (p * p - 4 * q) m with h | h | h <;> rw [h] <;> omega
set_option maxRecDepth 100000 in
set_option maxHeartbeats 4000000 in
theorem specPassFirst_any (p q n : Int) (w : World) : Calls Try.prog 23 #[pr p q, .int .i64 n] w fun e w' => e = .returned (.bool (passFirstB p q n)) ∧ Below w.heap.size w w' := by
  cases hp : pairB p q with
  | false =>
    have HV := Lib.hid (show passFirstB p q n = false by simp [passFirstB, hp])
    have HP := Lib.hid hp
    clear hp
    go_enter Try.func23, Try.ntmps23
    go_wp2_with fail
    refine (specWeight_not p q _ HP.out).mono ?_
    rintro e w1 ⟨rfl, hh1⟩
    obtain ⟨hc1, hf1⟩ := bcell hh1
    have hz1 := hh1.size
    try simp only [World.size_alloc] at hz1
    have hz1_0 : w.heap.size < w1.heap.size := by omega
    have kb1_0_0 : w1.cell? ⟨w.heap.size, 0, none⟩ = some (.int .i64 p) := by go_simp
    have kf1_0_0 : w1.frozen? ⟨w.heap.size, 0, none⟩ = false := by go_simp
    have kb1_0_1 : w1.cell? ⟨w.heap.size, 1, none⟩ = some (.int .i64 q) := by go_simp
    have kf1_0_1 : w1.frozen? ⟨w.heap.size, 1, none⟩ = false := by go_simp
    clear hc1 hf1
    go_wp2
    go_ret
    exact ⟨ret_bool HV.out.symm, by (repeat (first | exact Below.refl _ _ | refine Below.setCell ?_ (by first | omega | (simp <;> omega)) _ | refine Below.alloc ?_ (by first | omega | (simp <;> omega)) _ | refine Below.drew ?_ | refine Below.trans ?_ (Below.mono (by assumption) (by first | omega | (simp <;> omega))) | refine Below.grown ?_ (by assumption) (by first | omega | (simp <;> omega)) (fun k e => by cases e; first | omega | (simp <;> omega))))⟩
  | true =>
    obtain ⟨b1, b2⟩ := weight_bd hp
    obtain ⟨⟨r1, r2⟩, r3, r4⟩ := pairB_true hp
    have HP := Lib.hid hp
    have HW := Lib.hid (weightV_is hp)
    by_cases hq : q = 0
    · have HV := Lib.hid (show passFirstB p q n = false by simp [passFirstB, hq])
      subst hq
      clear hp
      go_enter Try.func23, Try.ntmps23
      go_wp2_with fail
      refine (specWeight_val p 0 _ _ HP.out rfl).mono ?_
      rintro e w1 ⟨rfl, hh1⟩
      obtain ⟨hc1, hf1⟩ := bcell hh1
      have hz1 := hh1.size
      try simp only [World.size_alloc] at hz1
      have hz1_0 : w.heap.size < w1.heap.size := by omega
      have kb1_0_0 : w1.cell? ⟨w.heap.size, 0, none⟩ = some (.int .i64 p) := by go_simp
      have kf1_0_0 : w1.frozen? ⟨w.heap.size, 0, none⟩ = false := by go_simp
      have kb1_0_1 : w1.cell? ⟨w.heap.size, 1, none⟩ = some (.int .i64 0) := by go_simp
      have kf1_0_1 : w1.frozen? ⟨w.heap.size, 1, none⟩ = false := by go_simp
      clear hc1 hf1
      go_wp2
      go_ret
      exact ⟨ret_bool HV.out.symm, by (repeat (first | exact Below.refl _ _ | refine Below.setCell ?_ (by first | omega | (simp <;> omega)) _ | refine Below.alloc ?_ (by first | omega | (simp <;> omega)) _ | refine Below.drew ?_ | refine Below.trans ?_ (Below.mono (by assumption) (by first | omega | (simp <;> omega))) | refine Below.grown ?_ (by assumption) (by first | omega | (simp <;> omega)) (fun k e => by cases e; first | omega | (simp <;> omega))))⟩
    · have hqb : (q == 0) = false := by simpa using hq
      cases hn : inB n 3 10000 with
      | false =>
        have HV := Lib.hid (show passFirstB p q n = false by simp [passFirstB, hn])
        have HN := Lib.hid hn
        clear hp hn
        go_enter Try.func23, Try.ntmps23
        go_wp2_with fail
        refine (specWeight_val p q _ _ HP.out rfl).mono ?_
        rintro e w1 ⟨rfl, hh1⟩
        obtain ⟨hc1, hf1⟩ := bcell hh1
        have hz1 := hh1.size
        try simp only [World.size_alloc] at hz1
        have hz1_0 : w.heap.size < w1.heap.size := by omega
        have kb1_0_0 : w1.cell? ⟨w.heap.size, 0, none⟩ = some (.int .i64 p) := by go_simp
        have kf1_0_0 : w1.frozen? ⟨w.heap.size, 0, none⟩ = false := by go_simp
        have kb1_0_1 : w1.cell? ⟨w.heap.size, 1, none⟩ = some (.int .i64 q) := by go_simp
        have kf1_0_1 : w1.frozen? ⟨w.heap.size, 1, none⟩ = false := by go_simp
        clear hc1 hf1
        go_wp2_with fail
        refine (l1In_no n 3 10000 _ HN.out).mono ?_
        rintro e wx ⟨rfl, rfl⟩
        go_wp2
        go_ret
        exact ⟨ret_bool HV.out.symm, by (repeat (first | exact Below.refl _ _ | refine Below.setCell ?_ (by first | omega | (simp <;> omega)) _ | refine Below.alloc ?_ (by first | omega | (simp <;> omega)) _ | refine Below.drew ?_ | refine Below.trans ?_ (Below.mono (by assumption) (by first | omega | (simp <;> omega))) | refine Below.grown ?_ (by assumption) (by first | omega | (simp <;> omega)) (fun k e => by cases e; first | omega | (simp <;> omega))))⟩
      | true =>
        obtain ⟨n1, n2⟩ := inB_true hn
        obtain ⟨m, rfl⟩ := Int.eq_ofNat_of_zero_le (show 0 ≤ n by omega)
        have HN := Lib.hid hn
        by_cases h2 : m % 2 = 0
        · have HV := Lib.hid (show passFirstB p q m = false by
            have : (m : Int) % 2 = 0 := by omega
            simp [passFirstB, this])
          have hT : ((m : Int) % 2 == 0) = true := by simp; omega
          clear hp hn h2
          go_enter Try.func23, Try.ntmps23
          go_wp2_with fail
          refine (specWeight_val p q _ _ HP.out rfl).mono ?_
          rintro e w1 ⟨rfl, hh1⟩
          obtain ⟨hc1, hf1⟩ := bcell hh1
          have hz1 := hh1.size
          try simp only [World.size_alloc] at hz1
          have hz1_0 : w.heap.size < w1.heap.size := by omega
          have kb1_0_0 : w1.cell? ⟨w.heap.size, 0, none⟩ = some (.int .i64 p) := by go_simp
          have kf1_0_0 : w1.frozen? ⟨w.heap.size, 0, none⟩ = false := by go_simp
          have kb1_0_1 : w1.cell? ⟨w.heap.size, 1, none⟩ = some (.int .i64 q) := by go_simp
          have kf1_0_1 : w1.frozen? ⟨w.heap.size, 1, none⟩ = false := by go_simp
          clear hc1 hf1
          go_wp2_with fail
          refine (l1In_yes _ 3 10000 _ HN.out).mono ?_
          rintro e wx ⟨rfl, rfl⟩
          go_wp2
          go_ret
          exact ⟨ret_bool HV.out.symm, by (repeat (first | exact Below.refl _ _ | refine Below.setCell ?_ (by first | omega | (simp <;> omega)) _ | refine Below.alloc ?_ (by first | omega | (simp <;> omega)) _ | refine Below.drew ?_ | refine Below.trans ?_ (Below.mono (by assumption) (by first | omega | (simp <;> omega))) | refine Below.grown ?_ (by assumption) (by first | omega | (simp <;> omega)) (fun k e => by cases e; first | omega | (simp <;> omega))))⟩
        · have hT : ((m : Int) % 2 == 0) = false := by simp; omega
          obtain ⟨g, hg⟩ : ∃ g, Int.gcd (m : Int) q = g := ⟨_, rfl⟩
          have HG := Lib.hid (show ((Int.gcd (m : Int) q : Nat) : Int) = (g : Int) by rw [hg])
          by_cases hg1 : g = 1
          · have hgb : ((g : Int) != 1) = false := by simp; omega
            obtain ⟨x, hx⟩ : ∃ x, p * p - 4 * q = x := ⟨_, rfl⟩
            obtain ⟨g', hg'⟩ : ∃ g', Int.gcd (m : Int) x = g' := ⟨_, rfl⟩
            have HG' := Lib.hid (show ((Int.gcd (m : Int) x : Nat) : Int) = (g' : Int) by rw [hg'])
            by_cases hg1' : g' = 1
            · have hgb' : ((g' : Int) != 1) = false := by simp; omega
              have hv := passFirstB_mk (p := p) hp hq (m := m) (by omega) (by omega) (by omega) (by omega) (by rw [hx]; omega)
              obtain ⟨e1, e2, e3⟩ := beside_is (p := p) (q := q) (m := m) (by omega)
              obtain ⟨t, ht⟩ : ∃ t, besideN p q m = t := ⟨_, rfl⟩
              obtain ⟨s, hs⟩ : ∃ s, signV (p * p - 4 * q) m = s := ⟨_, rfl⟩
              rw [hs, ht] at e1
              rw [ht] at e2 e3 hv
              rw [hx] at hs HW b1 b2
              obtain ⟨X, hX⟩ : ∃ X, row p q 0 1 t % (m : Int) = X := ⟨_, rfl⟩
              rw [hX] at hv
              have HV := Lib.hid hv
              have HX := Lib.hid hX
              have hsb : signB x m = true := signB_mk (by omega) (by omega) (by omega) (by omega) (by omega)
              have HSB := Lib.hid hsb
              have HS := Lib.hid ((signOfV_is hsb).trans hs)
              have hsr : -1 ≤ s ∧ s ≤ 1 := by omega
              clear hp hn h2 hg hg1 hx hg' hg1' hv ht hs hX hsb
              go_enter Try.func23, Try.ntmps23
              go_wp2_with fail
              refine (specWeight_val p q x _ HP.out HW.out).mono ?_
              rintro e w1 ⟨rfl, hh1⟩
              obtain ⟨hc1, hf1⟩ := bcell hh1
              have hz1 := hh1.size
              try simp only [World.size_alloc] at hz1
              have hz1_0 : w.heap.size < w1.heap.size := by omega
              have kb1_0_0 : w1.cell? ⟨w.heap.size, 0, none⟩ = some (.int .i64 p) := by go_simp
              have kf1_0_0 : w1.frozen? ⟨w.heap.size, 0, none⟩ = false := by go_simp
              have kb1_0_1 : w1.cell? ⟨w.heap.size, 1, none⟩ = some (.int .i64 q) := by go_simp
              have kf1_0_1 : w1.frozen? ⟨w.heap.size, 1, none⟩ = false := by go_simp
              clear hc1 hf1
              go_wp2_with fail
              refine (l1In_yes _ 3 10000 _ HN.out).mono ?_
              rintro e wx ⟨rfl, rfl⟩
              go_wp2_with fail
              refine (l1Common_is _ q g _ (by omega) (by omega) (by omega) (by omega) HG.out).mono ?_
              rintro e wx ⟨rfl, rfl⟩
              go_wp2_with fail
              refine (l1Common_is _ x g' _ (by omega) (by omega) (by omega) (by omega) HG'.out).mono ?_
              rintro e wx ⟨rfl, rfl⟩
              go_wp2_with fail
              refine (specSign_is x m s true _ HS.out HSB.out).mono ?_
              rintro e wx ⟨rfl, rfl⟩
              go_wp2_with fail
              refine (specFarFirst_at p q m t X _ _ (by omega) HP.out (by omega) (by omega) (by omega) HX.out).mono ?_
              rintro e w2 ⟨rfl, hh2⟩
              obtain ⟨hc2, hf2⟩ := bcell hh2
              have hz2 := hh2.size
              try simp only [World.size_alloc] at hz2
              have hz2_0 : w.heap.size < w2.heap.size := by omega
              have kb2_0_0 : w2.cell? ⟨w.heap.size, 0, none⟩ = some (.int .i64 p) := by go_simp
              have kf2_0_0 : w2.frozen? ⟨w.heap.size, 0, none⟩ = false := by go_simp
              have kb2_0_1 : w2.cell? ⟨w.heap.size, 1, none⟩ = some (.int .i64 q) := by go_simp
              have kf2_0_1 : w2.frozen? ⟨w.heap.size, 1, none⟩ = false := by go_simp
              clear hc2 hf2
              cases hc : (X == 0) with
              | true =>
                go_wp2
                go_ret
                exact ⟨ret_bool (by rw [HV.out, hc]), by (repeat (first | exact Below.refl _ _ | refine Below.setCell ?_ (by first | omega | (simp <;> omega)) _ | refine Below.alloc ?_ (by first | omega | (simp <;> omega)) _ | refine Below.drew ?_ | refine Below.trans ?_ (Below.mono (by assumption) (by first | omega | (simp <;> omega))) | refine Below.grown ?_ (by assumption) (by first | omega | (simp <;> omega)) (fun k e => by cases e; first | omega | (simp <;> omega))))⟩
              | false =>
                go_wp2
                go_ret
                exact ⟨ret_bool (by rw [HV.out, hc]), by (repeat (first | exact Below.refl _ _ | refine Below.setCell ?_ (by first | omega | (simp <;> omega)) _ | refine Below.alloc ?_ (by first | omega | (simp <;> omega)) _ | refine Below.drew ?_ | refine Below.trans ?_ (Below.mono (by assumption) (by first | omega | (simp <;> omega))) | refine Below.grown ?_ (by assumption) (by first | omega | (simp <;> omega)) (fun k e => by cases e; first | omega | (simp <;> omega))))⟩
            · have hgb' : ((g' : Int) != 1) = true := by simp; omega
              have HV := Lib.hid (show passFirstB p q m = false by
                have : ¬ Int.gcd (m : Int) (p * p - 4 * q) = 1 := by rw [hx, hg']; exact hg1'
                simp [passFirstB, this])
              rw [hx] at HW b1 b2
              clear hp hn h2 hg hg1 hx hg' hg1'
              go_enter Try.func23, Try.ntmps23
              go_wp2_with fail
              refine (specWeight_val p q x _ HP.out HW.out).mono ?_
              rintro e w1 ⟨rfl, hh1⟩
              obtain ⟨hc1, hf1⟩ := bcell hh1
              have hz1 := hh1.size
              try simp only [World.size_alloc] at hz1
              have hz1_0 : w.heap.size < w1.heap.size := by omega
              have kb1_0_0 : w1.cell? ⟨w.heap.size, 0, none⟩ = some (.int .i64 p) := by go_simp
              have kf1_0_0 : w1.frozen? ⟨w.heap.size, 0, none⟩ = false := by go_simp
              have kb1_0_1 : w1.cell? ⟨w.heap.size, 1, none⟩ = some (.int .i64 q) := by go_simp
              have kf1_0_1 : w1.frozen? ⟨w.heap.size, 1, none⟩ = false := by go_simp
              clear hc1 hf1
              go_wp2_with fail
              refine (l1In_yes _ 3 10000 _ HN.out).mono ?_
              rintro e wx ⟨rfl, rfl⟩
              go_wp2_with fail
              refine (l1Common_is _ q g _ (by omega) (by omega) (by omega) (by omega) HG.out).mono ?_
              rintro e wx ⟨rfl, rfl⟩
              go_wp2_with fail
              refine (l1Common_is _ x g' _ (by omega) (by omega) (by omega) (by omega) HG'.out).mono ?_
              rintro e wx ⟨rfl, rfl⟩
              go_wp2
              go_ret
              exact ⟨ret_bool HV.out.symm, by (repeat (first | exact Below.refl _ _ | refine Below.setCell ?_ (by first | omega | (simp <;> omega)) _ | refine Below.alloc ?_ (by first | omega | (simp <;> omega)) _ | refine Below.drew ?_ | refine Below.trans ?_ (Below.mono (by assumption) (by first | omega | (simp <;> omega))) | refine Below.grown ?_ (by assumption) (by first | omega | (simp <;> omega)) (fun k e => by cases e; first | omega | (simp <;> omega))))⟩
          · have hgb : ((g : Int) != 1) = true := by simp; omega
            have HV := Lib.hid (show passFirstB p q m = false by
              have : ¬ Int.gcd (m : Int) q = 1 := by rw [hg]; exact hg1
              simp [passFirstB, this])
            clear hp hn h2 hg hg1
            go_enter Try.func23, Try.ntmps23
            go_wp2_with fail
            refine (specWeight_val p q _ _ HP.out rfl).mono ?_
            rintro e w1 ⟨rfl, hh1⟩
            obtain ⟨hc1, hf1⟩ := bcell hh1
            have hz1 := hh1.size
            try simp only [World.size_alloc] at hz1
            have hz1_0 : w.heap.size < w1.heap.size := by omega
            have kb1_0_0 : w1.cell? ⟨w.heap.size, 0, none⟩ = some (.int .i64 p) := by go_simp
            have kf1_0_0 : w1.frozen? ⟨w.heap.size, 0, none⟩ = false := by go_simp
            have kb1_0_1 : w1.cell? ⟨w.heap.size, 1, none⟩ = some (.int .i64 q) := by go_simp
            have kf1_0_1 : w1.frozen? ⟨w.heap.size, 1, none⟩ = false := by go_simp
            clear hc1 hf1
            go_wp2_with fail
            refine (l1In_yes _ 3 10000 _ HN.out).mono ?_
            rintro e wx ⟨rfl, rfl⟩
            go_wp2_with fail
            refine (l1Common_is _ q g _ (by omega) (by omega) (by omega) (by omega) HG.out).mono ?_
            rintro e wx ⟨rfl, rfl⟩
            go_wp2
            go_ret
            exact ⟨ret_bool HV.out.symm, by (repeat (first | exact Below.refl _ _ | refine Below.setCell ?_ (by first | omega | (simp <;> omega)) _ | refine Below.alloc ?_ (by first | omega | (simp <;> omega)) _ | refine Below.drew ?_ | refine Below.trans ?_ (Below.mono (by assumption) (by first | omega | (simp <;> omega))) | refine Below.grown ?_ (by assumption) (by first | omega | (simp <;> omega)) (fun k e => by cases e; first | omega | (simp <;> omega))))⟩
theorem specPassFirst_is (p q l : Int) (c : Bool) (w : World) (h : passFirstB p q l = c) : Calls Try.prog 23 #[pr p q, .int .i64 l] w fun e w' => e = .returned (.bool c) ∧ Below w.heap.size w w' := by rw [← h]; exact specPassFirst_any p q l w
/-- Whether a number is a prime, however great. -/
def prime8B (m : Nat) : Bool := decide (1 < m) && decide (∀ d, d < m → 2 ≤ d → ¬ d ∣ m)
theorem prime8_root {m d : Nat} (h2 : 2 ≤ m) (hn : ∀ e : Nat, 2 ≤ e → e < d → ¬ e ∣ m) (hd : m < d * d) : prime8B m = true := by
  rw [prime8B, Bool.and_eq_true, decide_eq_true_iff, decide_eq_true_iff]
  refine ⟨by omega, fun e e2 e1 hdv => ?_⟩
  rcases Nat.lt_or_ge e d with h | h
  · exact hn e e1 h hdv
  · obtain ⟨c, hc⟩ := hdv
    have hcd : c < d := by
      rcases Nat.lt_or_ge c d with h' | h'
      · exact h'
      · have := Nat.mul_le_mul h h'; omega
    have hc2 : 2 ≤ c := by
      rcases Nat.lt_or_ge c 2 with h' | h'
      · have : c = 0 ∨ c = 1 := by omega
        rcases this with rfl | rfl
        · omega
        · rw [Nat.mul_one] at hc; omega
      · exact h'
    exact hn c hc2 hcd ⟨e, by rw [hc, Nat.mul_comm]⟩
theorem prime8_not {m d : Nat} (d2 : 2 ≤ d) (hdv : d ∣ m) (hd : d * d ≤ m) : prime8B m = false := by
  cases h : prime8B m with
  | false => rfl
  | true =>
    rw [prime8B, Bool.and_eq_true, decide_eq_true_iff, decide_eq_true_iff] at h
    have := Nat.mul_le_mul_left d d2
    exact absurd hdv (h.2 d (by omega) d2)
set_option maxHeartbeats 4000000 in
theorem specPrime8_any (m : Nat) (w : World) (h1 : 2 ≤ m) (h9 : m ≤ 1000) : Calls Try.prog 65 #[.int .i64 m] w fun e w' => e = .returned (.bool (prime8B m)) ∧ w = w' := by
  go_enter Try.func65, Try.ntmps65
  go_wp2_with fail
  go_loop [3] (fun c => ∃ d : Nat, 2 ≤ d ∧ d ≤ 32 ∧ c = .int .i64 d ∧ ∀ e : Nat, 2 ≤ e → e < d → ¬ e ∣ m) (fun c => 40 - (intOf c).toNat)
  case atStart => exact ⟨2, by omega, by omega, rfl, fun e e1 e2 => by omega⟩
  case round =>
    obtain ⟨d, d2, d3, rfl, hno⟩ := hrel
    have HNO := Lib.hid hno
    clear hno
    have hdd : (d : Int) * (d : Int) = ((d * d : Nat) : Int) := by simp
    have hb := Nat.mul_le_mul d3 d3
    have U : IntKind.i64.wrap ((d : Int) * (d : Int)) = (d : Int) * (d : Int) := by rw [IntKind.wrap_i64, hdd]; omega
    have hz : ((d : Int) == 0) = false := by simp; omega
    by_cases hlt : d * d ≤ m
    · have hlti : (d : Int) * (d : Int) ≤ (m : Int) := by rw [hdd]; omega
      have hd31 : d ≤ 31 := by
        rcases Nat.lt_or_ge d 32 with h | h
        · omega
        · have := Nat.mul_le_mul h h; omega
      by_cases hdv : d ∣ m
      · have hT : ((m : Int) % (d : Int) == 0) = true := by rw [div_test]; simpa using hdv
        have HV := Lib.hid (prime8_not d2 hdv hlt)
        rw [beq_iff_eq] at hT
        clear hdd hb hdv hlt
        go_wp2
        go_ret
        exact ⟨ret_bool HV.out.symm, rfl⟩
      · have hT : ((m : Int) % (d : Int) == 0) = false := by rw [div_test]; simpa using hdv
        have HD := Lib.hid hdv
        clear hdd hb hdv hlt
        go_wp2
        go_round
        case rel => exact ⟨d + 1, by omega, by omega, congrArg (Value.int .i64) (by omega), fun e e1 e2 he => by
          rcases Nat.eq_or_lt_of_le (Nat.le_of_lt_succ e2) with rfl | h
          · exact HD.out he
          · exact HNO.out e e1 h he⟩
        case measure => simp [intOf]; omega
    · have hlti : (m : Int) < (d : Int) * (d : Int) := by rw [hdd]; omega
      have HV := Lib.hid (prime8_root h1 HNO.out (by omega))
      have h1d : decide ((1 : Int) < (m : Int)) = true := by simp; omega
      clear hdd hb hlt
      go_wp2
      go_ret
      exact ⟨ret_bool HV.out.symm, rfl⟩
theorem specPrime8_is (m : Nat) (c : Bool) (w : World) (h1 : 2 ≤ m) (h9 : m ≤ 1000) (h : prime8B m = c) : Calls Try.prog 65 #[.int .i64 m] w fun e w' => e = .returned (.bool c) ∧ w = w' := by rw [← h]; exact specPrime8_any m w h1 h9
end Go.Proofs.Ytmliglakfbeedaa
namespace Go.Proofs.Ytmliglakfbeedaa
open Go.RowKit
set_option maxRecDepth 100000 in
set_option maxHeartbeats 8000000 in
theorem implPassSecond_any (p q n : Int) (w : World) : Calls Try.prog 17 #[pr p q, .int .i64 n] w fun e w' => e = .returned (.bool (passSecondB p q n)) ∧ Below w.heap.size w w' := by
  have kb0 : (w.alloc (.cells #[.int .i64 p, .int .i64 q] 30)).cell? ⟨w.heap.size, 0, none⟩ = some (.int .i64 p) := by go_simp
  have kb1 : (w.alloc (.cells #[.int .i64 p, .int .i64 q] 30)).cell? ⟨w.heap.size, 1, none⟩ = some (.int .i64 q) := by go_simp
  have hal : Below w.heap.size w (w.alloc (.cells #[.int .i64 p, .int .i64 q] 30)) := by (repeat (first | exact Below.refl _ _ | refine Below.setCell ?_ (by first | omega | (simp <;> omega)) _ | refine Below.alloc ?_ (by first | omega | (simp <;> omega)) _ | refine Below.drew ?_ | refine Below.trans ?_ (Below.mono (by assumption) (by first | omega | (simp <;> omega))) | refine Below.grown ?_ (by assumption) (by first | omega | (simp <;> omega)) (fun k e => by cases e; first | omega | (simp <;> omega))))
  obtain ⟨w0, hw0⟩ : ∃ w0, (w.alloc (.cells #[.int .i64 p, .int .i64 q] 30)) = w0 := ⟨_, rfl⟩
  have HW0 := Lib.hid hw0
  rw [hw0] at kb0 kb1 hal
  clear hw0
  cases hp : pairB p q with
  | false =>
    have HV := Lib.hid (show passSecondB p q n = false by simp [passSecondB, hp])
    have HP := Lib.hid hp
    clear hp
    go_enter Try.func17, Try.ntmps17
    go_wp2_with fail
    rw [HW0.out]
    obtain ⟨S, hSd⟩ : ∃ S : World → Prop, (fun V => Below w0.heap.size w0 V) = S := ⟨_, rfl⟩
    have hkeep : ∀ V V' : World, S V → Below V.heap.size V V' → S V' := by rw [← hSd]; exact fun V V' h hb => h.trans (hb.mono h.size)
    have gk0 : ∀ iq : KeptBy S, iq.world.cell? ⟨w.heap.size, 0, none⟩ = some (.int .i64 p) := by rw [← hSd]; exact fun iq => cell_below iq.ok kb0
    have gk1 : ∀ iq : KeptBy S, iq.world.cell? ⟨w.heap.size, 1, none⟩ = some (.int .i64 q) := by rw [← hSd]; exact fun iq => cell_below iq.ok kb1
    have gkn : Nonempty (KeptBy S) := ⟨⟨w0.drew, by rw [← hSd]; exact (Below.refl _ _).drew⟩⟩
    go_wp2_with fail
    refine wp_region_kept (S := S) (by rw [← hSd]; exact (Below.refl _ _).drew) (by kernel_rfl) (by kernel_rfl) ?_
    repeat (go_big_quiet_step ((first | (go_at_call 43; refine (implPairOk_no p q _ HP.out).mono ?_; rintro e w' ⟨rfl, hhw⟩; exact ⟨rfl, ⟨w', hkeep _ _ (KeptBy.ok _) hhw⟩, rfl⟩) | fail)))
    refine wpQuiet_nil ?_
    rintro wz ⟨iz, hwz⟩
    have bwz : Below w0.heap.size w0 wz := by
      have this : S wz := by rw [hwz]; exact iz.ok
      rw [← hSd] at this
      exact this
    clear hwz iz gkn hkeep hSd gk0 gk1
    go_wp2
    go_ret
    exact ⟨ret_bool HV.out.symm, hal.trans (bwz.mono hal.size)⟩
  | true =>
    have HP := Lib.hid hp
    cases ht : inB n 1 10000 with
    | false =>
      have HV := Lib.hid (show passSecondB p q n = false by
        cases hn : inB n 2 10000 with
        | false => simp [passSecondB, hn]
        | true => obtain ⟨n1, n2⟩ := inB_true hn; rw [inB_mk (by omega) n2] at ht; cases ht)
      have HT := Lib.hid ht
      clear hp ht
      go_enter Try.func17, Try.ntmps17
      go_wp2_with fail
      rw [HW0.out]
      obtain ⟨S, hSd⟩ : ∃ S : World → Prop, (fun V => Below w0.heap.size w0 V) = S := ⟨_, rfl⟩
      have hkeep : ∀ V V' : World, S V → Below V.heap.size V V' → S V' := by rw [← hSd]; exact fun V V' h hb => h.trans (hb.mono h.size)
      have gk0 : ∀ iq : KeptBy S, iq.world.cell? ⟨w.heap.size, 0, none⟩ = some (.int .i64 p) := by rw [← hSd]; exact fun iq => cell_below iq.ok kb0
      have gk1 : ∀ iq : KeptBy S, iq.world.cell? ⟨w.heap.size, 1, none⟩ = some (.int .i64 q) := by rw [← hSd]; exact fun iq => cell_below iq.ok kb1
      have gkn : Nonempty (KeptBy S) := ⟨⟨w0.drew, by rw [← hSd]; exact (Below.refl _ _).drew⟩⟩
      go_wp2_with fail
      refine wp_region_kept (S := S) (by rw [← hSd]; exact (Below.refl _ _).drew) (by kernel_rfl) (by kernel_rfl) ?_
      repeat (go_big_quiet_step ((first | (go_at_call 43; refine (implPairOk_yes p q _ HP.out).mono ?_; rintro e w' ⟨rfl, hhw⟩; exact ⟨rfl, ⟨w', hkeep _ _ (KeptBy.ok _) hhw⟩, rfl⟩) | (go_at_call 48; refine (testedOk_is n false _ HT.out).mono ?_; rintro e w' ⟨rfl, rfl⟩; exact ⟨rfl, _, rfl⟩) | fail)))
      refine wpQuiet_nil ?_
      rintro wz ⟨iz, hwz⟩
      have bwz : Below w0.heap.size w0 wz := by
        have this : S wz := by rw [hwz]; exact iz.ok
        rw [← hSd] at this
        exact this
      clear hwz iz gkn hkeep hSd gk0 gk1
      go_wp2
      go_ret
      exact ⟨ret_bool HV.out.symm, hal.trans (bwz.mono hal.size)⟩
    | true =>
      obtain ⟨n1, n2⟩ := inB_true ht
      obtain ⟨k, rfl⟩ := Int.eq_ofNat_of_zero_le (show 0 ≤ n by omega)
      have HT := Lib.hid ht
      by_cases h1 : k = 1
      · subst h1
        have HV := Lib.hid (show passSecondB p q ((1 : Nat) : Int) = false by simp [passSecondB, inB])
        have hne : (((1 : Nat) : Int) != 1) = false := by simp
        clear hp ht
        go_enter Try.func17, Try.ntmps17
        go_wp2_with fail
        rw [HW0.out]
        obtain ⟨S, hSd⟩ : ∃ S : World → Prop, (fun V => Below w0.heap.size w0 V) = S := ⟨_, rfl⟩
        have hkeep : ∀ V V' : World, S V → Below V.heap.size V V' → S V' := by rw [← hSd]; exact fun V V' h hb => h.trans (hb.mono h.size)
        have gk0 : ∀ iq : KeptBy S, iq.world.cell? ⟨w.heap.size, 0, none⟩ = some (.int .i64 p) := by rw [← hSd]; exact fun iq => cell_below iq.ok kb0
        have gk1 : ∀ iq : KeptBy S, iq.world.cell? ⟨w.heap.size, 1, none⟩ = some (.int .i64 q) := by rw [← hSd]; exact fun iq => cell_below iq.ok kb1
        have gkn : Nonempty (KeptBy S) := ⟨⟨w0.drew, by rw [← hSd]; exact (Below.refl _ _).drew⟩⟩
        go_wp2_with fail
        refine wp_region_kept (S := S) (by rw [← hSd]; exact (Below.refl _ _).drew) (by kernel_rfl) (by kernel_rfl) ?_
        repeat (go_big_quiet_step ((first | (go_at_call 43; refine (implPairOk_yes p q _ HP.out).mono ?_; rintro e w' ⟨rfl, hhw⟩; exact ⟨rfl, ⟨w', hkeep _ _ (KeptBy.ok _) hhw⟩, rfl⟩) | (go_at_call 48; refine (testedOk_is _ true _ HT.out).mono ?_; rintro e w' ⟨rfl, rfl⟩; exact ⟨rfl, _, rfl⟩) | fail)))
        refine wpQuiet_nil ?_
        rintro wz ⟨iz, hwz⟩
        have bwz : Below w0.heap.size w0 wz := by
          have this : S wz := by rw [hwz]; exact iz.ok
          rw [← hSd] at this
          exact this
        clear hwz iz gkn hkeep hSd gk0 gk1
        go_wp2
        go_ret
        exact ⟨ret_bool HV.out.symm, hal.trans (bwz.mono hal.size)⟩
      · have hne : ((k : Int) != 1) = true := by simp; omega
        obtain ⟨x, hx⟩ : ∃ x, row p q 2 p k % (k : Int) = x := ⟨_, rfl⟩
        obtain ⟨y, hy⟩ : ∃ y, p % (k : Int) = y := ⟨_, rfl⟩
        have HV := Lib.hid (show passSecondB p q k = (x == y) by rw [passSecondB, hp, inB_mk (show (2 : Int) ≤ (k : Int) by omega) n2, ← hx, ← hy]; simp)
        have HX := Lib.hid hx
        have HY := Lib.hid hy
        have i1 : (1 : Int) ≤ (k : Int) := by omega
        have i3 : (k : Int) ≤ 1000000000000 := by omega
        clear hp ht hx hy
        cases hxy : (x == y) with
        | true =>
          go_enter Try.func17, Try.ntmps17
          go_wp2_with fail
          rw [HW0.out]
          obtain ⟨S, hSd⟩ : ∃ S : World → Prop, (fun V => Below w0.heap.size w0 V) = S := ⟨_, rfl⟩
          have hkeep : ∀ V V' : World, S V → Below V.heap.size V V' → S V' := by rw [← hSd]; exact fun V V' h hb => h.trans (hb.mono h.size)
          have gk0 : ∀ iq : KeptBy S, iq.world.cell? ⟨w.heap.size, 0, none⟩ = some (.int .i64 p) := by rw [← hSd]; exact fun iq => cell_below iq.ok kb0
          have gk1 : ∀ iq : KeptBy S, iq.world.cell? ⟨w.heap.size, 1, none⟩ = some (.int .i64 q) := by rw [← hSd]; exact fun iq => cell_below iq.ok kb1
          have gkn : Nonempty (KeptBy S) := ⟨⟨w0.drew, by rw [← hSd]; exact (Below.refl _ _).drew⟩⟩
          go_wp2_with fail
          refine wp_region_kept (S := S) (by rw [← hSd]; exact (Below.refl _ _).drew) (by kernel_rfl) (by kernel_rfl) ?_
          repeat (go_big_quiet_step ((first | (go_at_call 43; refine (implPairOk_yes p q _ HP.out).mono ?_; rintro e w' ⟨rfl, hhw⟩; exact ⟨rfl, ⟨w', hkeep _ _ (KeptBy.ok _) hhw⟩, rfl⟩) | (go_at_call 48; refine (testedOk_is _ true _ HT.out).mono ?_; rintro e w' ⟨rfl, rfl⟩; exact ⟨rfl, _, rfl⟩) | (go_at_call 49; refine (implFarSecond_at p q k k x _ _ rfl HP.out (by omega) (by omega) (by omega) HX.out).mono ?_; rintro e w' ⟨rfl, hhw⟩; exact ⟨rfl, ⟨w', hkeep _ _ (KeptBy.ok _) hhw⟩, rfl⟩) | (go_at_call 50; refine (leftOf_at p k y _ i1 i3 HY.out).mono ?_; rintro e w' ⟨rfl, rfl⟩; exact ⟨rfl, _, rfl⟩) | fail)))
          refine wpQuiet_nil ?_
          rintro wz ⟨iz, hwz⟩
          have bwz : Below w0.heap.size w0 wz := by
            have this : S wz := by rw [hwz]; exact iz.ok
            rw [← hSd] at this
            exact this
          clear hwz iz gkn hkeep hSd gk0 gk1
          go_wp2
          go_ret
          exact ⟨ret_bool (by rw [HV.out, hxy]), hal.trans (bwz.mono hal.size)⟩
        | false =>
          go_enter Try.func17, Try.ntmps17
          go_wp2_with fail
          rw [HW0.out]
          obtain ⟨S, hSd⟩ : ∃ S : World → Prop, (fun V => Below w0.heap.size w0 V) = S := ⟨_, rfl⟩
          have hkeep : ∀ V V' : World, S V → Below V.heap.size V V' → S V' := by rw [← hSd]; exact fun V V' h hb => h.trans (hb.mono h.size)
          have gk0 : ∀ iq : KeptBy S, iq.world.cell? ⟨w.heap.size, 0, none⟩ = some (.int .i64 p) := by rw [← hSd]; exact fun iq => cell_below iq.ok kb0
          have gk1 : ∀ iq : KeptBy S, iq.world.cell? ⟨w.heap.size, 1, none⟩ = some (.int .i64 q) := by rw [← hSd]; exact fun iq => cell_below iq.ok kb1
          have gkn : Nonempty (KeptBy S) := ⟨⟨w0.drew, by rw [← hSd]; exact (Below.refl _ _).drew⟩⟩
          go_wp2_with fail
          refine wp_region_kept (S := S) (by rw [← hSd]; exact (Below.refl _ _).drew) (by kernel_rfl) (by kernel_rfl) ?_
          repeat (go_big_quiet_step ((first | (go_at_call 43; refine (implPairOk_yes p q _ HP.out).mono ?_; rintro e w' ⟨rfl, hhw⟩; exact ⟨rfl, ⟨w', hkeep _ _ (KeptBy.ok _) hhw⟩, rfl⟩) | (go_at_call 48; refine (testedOk_is _ true _ HT.out).mono ?_; rintro e w' ⟨rfl, rfl⟩; exact ⟨rfl, _, rfl⟩) | (go_at_call 49; refine (implFarSecond_at p q k k x _ _ rfl HP.out (by omega) (by omega) (by omega) HX.out).mono ?_; rintro e w' ⟨rfl, hhw⟩; exact ⟨rfl, ⟨w', hkeep _ _ (KeptBy.ok _) hhw⟩, rfl⟩) | (go_at_call 50; refine (leftOf_at p k y _ i1 i3 HY.out).mono ?_; rintro e w' ⟨rfl, rfl⟩; exact ⟨rfl, _, rfl⟩) | fail)))
          refine wpQuiet_nil ?_
          rintro wz ⟨iz, hwz⟩
          have bwz : Below w0.heap.size w0 wz := by
            have this : S wz := by rw [hwz]; exact iz.ok
            rw [← hSd] at this
            exact this
          clear hwz iz gkn hkeep hSd gk0 gk1
          go_wp2
          go_ret
          exact ⟨ret_bool (by rw [HV.out, hxy]), hal.trans (bwz.mono hal.size)⟩
def askedB (p q n : Int) : Bool := pairB p q && (oddTB n && decide (n ≠ 1))
theorem askedB_true {p q n : Int} (h : askedB p q n = true) : ∃ m : Nat, n = m ∧ pairB p q = true ∧ 3 ≤ m ∧ m ≤ 10000 ∧ m % 2 = 1 := by
  have h' : pairB p q = true ∧ (inB n 1 10000 = true ∧ ¬ n % 2 = 0) ∧ ¬ n = 1 := by simpa [askedB, oddTB] using h
  obtain ⟨hp, ⟨hn, h2⟩, h1⟩ := h'
  obtain ⟨n1, n2⟩ := inB_true hn
  obtain ⟨m, rfl⟩ := Int.eq_ofNat_of_zero_le (show 0 ≤ n by omega)
  exact ⟨m, rfl, hp, by omega, by omega, by omega⟩
def apartMB (p q : Int) (m : Nat) : Bool := decide (Int.gcd m q = 1) && decide (Int.gcd m (p * p - 4 * q) = 1)
def besideMB (p q : Int) (m : Nat) : Bool := row p q 0 1 (besideN p q m) % (m : Int) == 0
theorem passFirst_not {p q n : Int} (h : askedB p q n = false) : passFirstB p q n = false := by
  cases hb : passFirstB p q n with
  | false => rfl
  | true =>
    obtain ⟨m, rfl, hp, hq, h1, h2, h3, _⟩ := passFirstB_true hb
    have : askedB p q m = true := by
      have e1 : ¬ (m : Int) % 2 = 0 := by omega
      have e2 : ¬ (m : Int) = 1 := by omega
      simp [askedB, oddTB, hp, inB_mk (show (1 : Int) ≤ (m : Int) by omega) (show (m : Int) ≤ 10000 by omega), e1]
      omega
    rw [this] at h; cases h
theorem passFirst_is {p q : Int} {m : Nat} (hp : pairB p q = true) (h1 : 3 ≤ m) (h2 : m ≤ 10000) (h3 : m % 2 = 1) : passFirstB p q m = (apartMB p q m && besideMB p q m) := by
  by_cases hq : q = 0
  · subst hq
    have : ¬ m = 1 := by omega
    simp [passFirstB, apartMB, this]
  · have e1 : ¬ (m : Int) % 2 = 0 := by omega
    simp [passFirstB, apartMB, besideMB, hp, hq, inB_mk (show (3 : Int) ≤ (m : Int) by omega) (show (m : Int) ≤ 10000 by omega), e1, Bool.and_assoc]
set_option maxRecDepth 100000 in
set_option maxHeartbeats 4000000 in
theorem asked_any (p q n : Int) (w : World) : Calls Try.prog 54 #[pr p q, .int .i64 n] w fun e w' => e = .returned (.bool (askedB p q n)) ∧ Below w.heap.size w w' := by
  cases hp : pairB p q with
  | false =>
    have HV := Lib.hid (show askedB p q n = false by simp [askedB, hp])
    have HP := Lib.hid hp
    clear hp
    go_enter Try.func54, Try.ntmps54
    go_wp2_with fail
    refine (implPairOk_no p q _ HP.out).mono ?_
    rintro e w1 ⟨rfl, hh1⟩
    obtain ⟨hc1, hf1⟩ := bcell hh1
    have hz1 := hh1.size
    try simp only [World.size_alloc] at hz1
    have hz1_0 : w.heap.size < w1.heap.size := by omega
    have kb1_0_0 : w1.cell? ⟨w.heap.size, 0, none⟩ = some (.int .i64 p) := by go_simp
    have kf1_0_0 : w1.frozen? ⟨w.heap.size, 0, none⟩ = false := by go_simp
    have kb1_0_1 : w1.cell? ⟨w.heap.size, 1, none⟩ = some (.int .i64 q) := by go_simp
    have kf1_0_1 : w1.frozen? ⟨w.heap.size, 1, none⟩ = false := by go_simp
    clear hc1 hf1
    go_wp2
    go_ret
    exact ⟨ret_bool HV.out.symm, by (repeat (first | exact Below.refl _ _ | refine Below.setCell ?_ (by first | omega | (simp <;> omega)) _ | refine Below.alloc ?_ (by first | omega | (simp <;> omega)) _ | refine Below.drew ?_ | refine Below.trans ?_ (Below.mono (by assumption) (by first | omega | (simp <;> omega))) | refine Below.grown ?_ (by assumption) (by first | omega | (simp <;> omega)) (fun k e => by cases e; first | omega | (simp <;> omega))))⟩
  | true =>
    have HP := Lib.hid hp
    cases ho : oddTB n with
    | false =>
      have HV := Lib.hid (show askedB p q n = false by simp [askedB, ho])
      have HO := Lib.hid ho
      clear hp ho
      go_enter Try.func54, Try.ntmps54
      go_wp2_with fail
      refine (implPairOk_yes p q _ HP.out).mono ?_
      rintro e w1 ⟨rfl, hh1⟩
      obtain ⟨hc1, hf1⟩ := bcell hh1
      have hz1 := hh1.size
      try simp only [World.size_alloc] at hz1
      have hz1_0 : w.heap.size < w1.heap.size := by omega
      have kb1_0_0 : w1.cell? ⟨w.heap.size, 0, none⟩ = some (.int .i64 p) := by go_simp
      have kf1_0_0 : w1.frozen? ⟨w.heap.size, 0, none⟩ = false := by go_simp
      have kb1_0_1 : w1.cell? ⟨w.heap.size, 1, none⟩ = some (.int .i64 q) := by go_simp
      have kf1_0_1 : w1.frozen? ⟨w.heap.size, 1, none⟩ = false := by go_simp
      clear hc1 hf1
      go_wp2_with fail
      refine (oddTested_is n false _ HO.out).mono ?_
      rintro e wx ⟨rfl, rfl⟩
      go_wp2
      go_ret
      exact ⟨ret_bool HV.out.symm, by (repeat (first | exact Below.refl _ _ | refine Below.setCell ?_ (by first | omega | (simp <;> omega)) _ | refine Below.alloc ?_ (by first | omega | (simp <;> omega)) _ | refine Below.drew ?_ | refine Below.trans ?_ (Below.mono (by assumption) (by first | omega | (simp <;> omega))) | refine Below.grown ?_ (by assumption) (by first | omega | (simp <;> omega)) (fun k e => by cases e; first | omega | (simp <;> omega))))⟩
    | true =>
      have HV := Lib.hid (show askedB p q n = (n != 1) by rw [askedB, hp, ho, Bool.true_and, Bool.true_and]; by_cases h : n = 1 <;> simp [h])
      have HO := Lib.hid ho
      clear hp ho
      go_enter Try.func54, Try.ntmps54
      go_wp2_with fail
      refine (implPairOk_yes p q _ HP.out).mono ?_
      rintro e w1 ⟨rfl, hh1⟩
      obtain ⟨hc1, hf1⟩ := bcell hh1
      have hz1 := hh1.size
      try simp only [World.size_alloc] at hz1
      have hz1_0 : w.heap.size < w1.heap.size := by omega
      have kb1_0_0 : w1.cell? ⟨w.heap.size, 0, none⟩ = some (.int .i64 p) := by go_simp
      have kf1_0_0 : w1.frozen? ⟨w.heap.size, 0, none⟩ = false := by go_simp
      have kb1_0_1 : w1.cell? ⟨w.heap.size, 1, none⟩ = some (.int .i64 q) := by go_simp
      have kf1_0_1 : w1.frozen? ⟨w.heap.size, 1, none⟩ = false := by go_simp
      clear hc1 hf1
      go_wp2_with fail
      refine (oddTested_is n true _ HO.out).mono ?_
      rintro e wx ⟨rfl, rfl⟩
      go_wp2
      go_ret
      exact ⟨ret_bool HV.out.symm, by (repeat (first | exact Below.refl _ _ | refine Below.setCell ?_ (by first | omega | (simp <;> omega)) _ | refine Below.alloc ?_ (by first | omega | (simp <;> omega)) _ | refine Below.drew ?_ | refine Below.trans ?_ (Below.mono (by assumption) (by first | omega | (simp <;> omega))) | refine Below.grown ?_ (by assumption) (by first | omega | (simp <;> omega)) (fun k e => by cases e; first | omega | (simp <;> omega))))⟩
theorem asked_is (p q n : Int) (c : Bool) (w : World) (h : askedB p q n = c) : Calls Try.prog 54 #[pr p q, .int .i64 n] w fun e w' => e = .returned (.bool c) ∧ Below w.heap.size w w' := by rw [← h]; exact asked_any p q n w
set_option maxRecDepth 100000 in
set_option maxHeartbeats 4000000 in
theorem apart_at (p q : Int) (m : Nat) (c : Bool) (w : World) (hp : pairB p q = true) (h2 : m ≤ 10000) (hc : apartMB p q m = c) : Calls Try.prog 55 #[pr p q, .int .i64 m] w fun e w' => e = .returned (.bool c) ∧ Below w.heap.size w w' := by
  obtain ⟨x1, x2⟩ := weight_bd hp
  obtain ⟨⟨r1, r2⟩, r3, r4⟩ := pairB_true hp
  have HX := Lib.hid (weightV_is hp)
  have HP := Lib.hid hp
  rw [apartMB] at hc
  obtain ⟨x, hx⟩ : ∃ x, p * p - 4 * q = x := ⟨_, rfl⟩
  rw [hx] at hc HX x1 x2
  obtain ⟨g, hg⟩ : ∃ g, Int.gcd (m : Int) q = g := ⟨_, rfl⟩
  obtain ⟨g', hg'⟩ : ∃ g', Int.gcd (m : Int) x = g' := ⟨_, rfl⟩
  have HG := Lib.hid (show ((Int.gcd (m : Int) q : Nat) : Int) = (g : Int) by rw [hg])
  have HG' := Lib.hid (show ((Int.gcd (m : Int) x : Nat) : Int) = (g' : Int) by rw [hg'])
  rw [hg, hg'] at hc
  by_cases hg1 : g = 1
  · have hgb : ((g : Int) == 1) = true := by simp; omega
    have HV := Lib.hid (show ((g' : Int) == 1) = c by rw [← hc]; simp [hg1]; rw [Bool.eq_iff_iff]; simp; omega)
    clear hp hx hg hg' hc hg1
    go_enter Try.func55, Try.ntmps55
    go_wp2_with fail
    refine (implWeight_is p q x true _ HX.out HP.out).mono ?_
    rintro e w1 ⟨rfl, hh1⟩
    obtain ⟨hc1, hf1⟩ := bcell hh1
    have hz1 := hh1.size
    try simp only [World.size_alloc] at hz1
    have hz1_0 : w.heap.size < w1.heap.size := by omega
    have kb1_0_0 : w1.cell? ⟨w.heap.size, 0, none⟩ = some (.int .i64 p) := by go_simp
    have kf1_0_0 : w1.frozen? ⟨w.heap.size, 0, none⟩ = false := by go_simp
    have kb1_0_1 : w1.cell? ⟨w.heap.size, 1, none⟩ = some (.int .i64 q) := by go_simp
    have kf1_0_1 : w1.frozen? ⟨w.heap.size, 1, none⟩ = false := by go_simp
    clear hc1 hf1
    go_wp2_with fail
    refine (commonDivisor_is m q g _ (by omega) (by omega) (by omega) (by omega) HG.out).mono ?_
    rintro e w2 ⟨rfl, hh2⟩
    obtain ⟨hc2, hf2⟩ := bcell hh2
    have hz2 := hh2.size
    try simp only [World.size_alloc] at hz2
    clear hc2 hf2
    go_wp2_with fail
    refine (commonDivisor_is m x g' _ (by omega) (by omega) (by omega) (by omega) HG'.out).mono ?_
    rintro e w3 ⟨rfl, hh3⟩
    obtain ⟨hc3, hf3⟩ := bcell hh3
    have hz3 := hh3.size
    try simp only [World.size_alloc] at hz3
    clear hc3 hf3
    go_wp2
    go_ret
    exact ⟨ret_bool HV.out, by (repeat (first | exact Below.refl _ _ | refine Below.setCell ?_ (by first | omega | (simp <;> omega)) _ | refine Below.alloc ?_ (by first | omega | (simp <;> omega)) _ | refine Below.drew ?_ | refine Below.trans ?_ (Below.mono (by assumption) (by first | omega | (simp <;> omega))) | refine Below.grown ?_ (by assumption) (by first | omega | (simp <;> omega)) (fun k e => by cases e; first | omega | (simp <;> omega))))⟩
  · have hgb : ((g : Int) == 1) = false := by simp; omega
    have HV := Lib.hid (show false = c by rw [← hc]; simp [hg1])
    clear hp hx hg hg' hc hg1
    go_enter Try.func55, Try.ntmps55
    go_wp2_with fail
    refine (implWeight_is p q x true _ HX.out HP.out).mono ?_
    rintro e w1 ⟨rfl, hh1⟩
    obtain ⟨hc1, hf1⟩ := bcell hh1
    have hz1 := hh1.size
    try simp only [World.size_alloc] at hz1
    have hz1_0 : w.heap.size < w1.heap.size := by omega
    have kb1_0_0 : w1.cell? ⟨w.heap.size, 0, none⟩ = some (.int .i64 p) := by go_simp
    have kf1_0_0 : w1.frozen? ⟨w.heap.size, 0, none⟩ = false := by go_simp
    have kb1_0_1 : w1.cell? ⟨w.heap.size, 1, none⟩ = some (.int .i64 q) := by go_simp
    have kf1_0_1 : w1.frozen? ⟨w.heap.size, 1, none⟩ = false := by go_simp
    clear hc1 hf1
    go_wp2_with fail
    refine (commonDivisor_is m q g _ (by omega) (by omega) (by omega) (by omega) HG.out).mono ?_
    rintro e w2 ⟨rfl, hh2⟩
    obtain ⟨hc2, hf2⟩ := bcell hh2
    have hz2 := hh2.size
    try simp only [World.size_alloc] at hz2
    clear hc2 hf2
    go_wp2
    go_ret
    exact ⟨ret_bool HV.out, by (repeat (first | exact Below.refl _ _ | refine Below.setCell ?_ (by first | omega | (simp <;> omega)) _ | refine Below.alloc ?_ (by first | omega | (simp <;> omega)) _ | refine Below.drew ?_ | refine Below.trans ?_ (Below.mono (by assumption) (by first | omega | (simp <;> omega))) | refine Below.grown ?_ (by assumption) (by first | omega | (simp <;> omega)) (fun k e => by cases e; first | omega | (simp <;> omega))))⟩
theorem implFarFirst_is (p q n m v : Int) (w : World) (hv : farFirstV p q n m = v) : Calls Try.prog 79 #[pr p q, .int .i64 n, .int .i64 m] w fun e w' => e = .returned (.int .i64 v) ∧ Below w.heap.size w w' := by rw [← hv]; exact implFarFirst_any p q n m w
set_option maxRecDepth 100000 in
set_option maxHeartbeats 8000000 in
theorem beside_at (p q : Int) (m : Nat) (c : Bool) (w : World) (hp : pairB p q = true) (h1 : 3 ≤ m) (h2 : m ≤ 10000) (h3 : m % 2 = 1) (hc : besideMB p q m = c) : Calls Try.prog 56 #[pr p q, .int .i64 m] w fun e w' => e = .returned (.bool c) ∧ Below w.heap.size w w' := by
  obtain ⟨x1, x2⟩ := weight_bd hp
  have HX := Lib.hid (weightV_is hp)
  have HP := Lib.hid hp
  rw [besideMB] at hc
  obtain ⟨e1, e2, e3⟩ := beside_is (p := p) (q := q) (m := m) h1
  have hsc := signV_cases (p * p - 4 * q) m
  obtain ⟨t, ht⟩ : ∃ t, besideN p q m = t := ⟨_, rfl⟩
  obtain ⟨s, hs⟩ : ∃ s, signV (p * p - 4 * q) m = s := ⟨_, rfl⟩
  rw [hs, ht] at e1
  rw [ht] at e2 e3 hc
  obtain ⟨x, hx⟩ : ∃ x, p * p - 4 * q = x := ⟨_, rfl⟩
  rw [hs] at hsc
  rw [hx] at hs HX x1 x2
  obtain ⟨X, hXX⟩ : ∃ X, row p q 0 1 t % (m : Int) = X := ⟨_, rfl⟩
  rw [hXX] at hc
  have HS := Lib.hid hs
  have HXX := Lib.hid hXX
  have HE := Lib.hid e1
  have HC := Lib.hid hc
  have m1 : 1 ≤ m := by omega
  have n1 : -10000 ≤ x := by omega
  have n2 : x ≤ 10000 := by omega
  have U : IntKind.i64.wrap ((m : Int) - s) = (m : Int) - s := by rw [IntKind.wrap_i64]; rcases hsc with h | h | h <;> rw [h] <;> omega
  clear hp hx hs hXX hc e1 hsc
  go_enter Try.func56, Try.ntmps56
  go_wp2_with fail
  refine (implWeight_is p q x true _ HX.out HP.out).mono ?_
  rintro e w1 ⟨rfl, hh1⟩
  obtain ⟨hc1, hf1⟩ := bcell hh1
  have hz1 := hh1.size
  try simp only [World.size_alloc] at hz1
  have hz1_0 : w.heap.size < w1.heap.size := by omega
  have kb1_0_0 : w1.cell? ⟨w.heap.size, 0, none⟩ = some (.int .i64 p) := by go_simp
  have kf1_0_0 : w1.frozen? ⟨w.heap.size, 0, none⟩ = false := by go_simp
  have kb1_0_1 : w1.cell? ⟨w.heap.size, 1, none⟩ = some (.int .i64 q) := by go_simp
  have kf1_0_1 : w1.frozen? ⟨w.heap.size, 1, none⟩ = false := by go_simp
  clear hc1 hf1
  obtain ⟨S, hSd⟩ : ∃ S : World → Prop, (fun V => Below w1.heap.size w1 V) = S := ⟨_, rfl⟩
  have hkeep : ∀ V V' : World, S V → Below V.heap.size V V' → S V' := by rw [← hSd]; exact fun V V' h hb => h.trans (hb.mono h.size)
  have gk0 : ∀ iq : KeptBy S, iq.world.cell? ⟨w.heap.size, 0, none⟩ = some (.int .i64 p) := by rw [← hSd]; exact fun iq => cell_below iq.ok kb1_0_0
  have gk1 : ∀ iq : KeptBy S, iq.world.cell? ⟨w.heap.size, 1, none⟩ = some (.int .i64 q) := by rw [← hSd]; exact fun iq => cell_below iq.ok kb1_0_1
  have gkn : Nonempty (KeptBy S) := ⟨⟨w1.drew, by rw [← hSd]; exact (Below.refl _ _).drew⟩⟩
  go_wp2_with fail
  refine wp_region_kept (S := S) (by rw [← hSd]; exact (Below.refl _ _).drew) (by kernel_rfl) (by kernel_rfl) ?_
  repeat (go_big_quiet_step ((first | (go_at_call 40; refine (signFor_is m x s _ m1 h2 h3 n1 n2 HS.out).mono ?_; rintro e w' ⟨rfl, rfl⟩; exact ⟨rfl, _, rfl⟩) | (go_at_call 79; refine (implFarFirst_at p q m t X _ _ HE.out HP.out (by omega) (by omega) (by omega) HXX.out).mono ?_; rintro e w' ⟨rfl, hhw⟩; exact ⟨rfl, ⟨w', hkeep _ _ (KeptBy.ok _) hhw⟩, rfl⟩) | fail)))
  refine wpQuiet_nil ?_
  rintro wz ⟨iz, hwz⟩
  have bwz : Below w1.heap.size w1 wz := by
    have this : S wz := by rw [hwz]; exact iz.ok
    rw [← hSd] at this
    exact this
  clear hwz iz gkn hkeep hSd gk0 gk1
  go_wp2
  go_ret
  exact ⟨ret_bool HC.out, by (repeat (first | exact Below.refl _ _ | refine Below.setCell ?_ (by first | omega | (simp <;> omega)) _ | refine Below.alloc ?_ (by first | omega | (simp <;> omega)) _ | refine Below.drew ?_ | refine Below.trans ?_ (Below.mono (by assumption) (by first | omega | (simp <;> omega))) | refine Below.grown ?_ (by assumption) (by first | omega | (simp <;> omega)) (fun k e => by cases e; first | omega | (simp <;> omega))))⟩
/-- The three tests of PassesFirst, in a block of three cells. -/
def Three (B : Nat) (w : World) : Prop :=
  B < w.heap.size ∧ w.cell? ⟨B, 0, none⟩ = some (.func (.func 54) #[] #[]) ∧ w.cell? ⟨B, 1, none⟩ = some (.func (.func 55) #[] #[]) ∧ w.cell? ⟨B, 2, none⟩ = some (.func (.func 56) #[] #[])
theorem Three.below {B : Nat} {w w' : World} (h : Three B w) (hb : Below w.heap.size w w') : Three B w' := by
  have := hb.size
  exact ⟨by have := h.1; omega, cell_below hb h.2.1, cell_below hb h.2.2.1, cell_below hb h.2.2.2⟩
set_option maxRecDepth 100000 in
set_option maxHeartbeats 8000000 in
theorem allThree_at (p q n : Int) (B : Nat) (w : World) (h3 : Three B w) : Calls Try.prog 53 #[pr p q, .int .i64 n, .slice (some ⟨B, 0, none⟩) 3 3] w fun e w' => e = .returned (.bool (passFirstB p q n)) ∧ Below w.heap.size w w' := by
  have hal : Below w.heap.size w (w.alloc (.cells #[.int .i64 p, .int .i64 q] 30)) := by (repeat (first | exact Below.refl _ _ | refine Below.setCell ?_ (by first | omega | (simp <;> omega)) _ | refine Below.alloc ?_ (by first | omega | (simp <;> omega)) _ | refine Below.drew ?_ | refine Below.trans ?_ (Below.mono (by assumption) (by first | omega | (simp <;> omega))) | refine Below.grown ?_ (by assumption) (by first | omega | (simp <;> omega)) (fun k e => by cases e; first | omega | (simp <;> omega))))
  have hT0 : Three B (w.alloc (.cells #[.int .i64 p, .int .i64 q] 30)) := h3.below hal
  cases ha : askedB p q n with
  | false =>
    have HV := Lib.hid (passFirst_not ha)
    have HA := Lib.hid ha
    obtain ⟨tb, t0, t1, t2⟩ := hT0
    clear ha h3
    go_enter Try.func53, Try.ntmps53
    go_wp2_with fail
    go_loopw [8, 11] (fun _ i wr => i = .int .i64 0 ∧ wr.cell? ⟨w.heap.size, 0, none⟩ = some (.int .i64 p) ∧ wr.cell? ⟨w.heap.size, 1, none⟩ = some (.int .i64 q) ∧ wr.cell? ⟨B, 0, none⟩ = some (.func (.func 54) #[] #[]) ∧ w.heap.size < wr.heap.size ∧ Below w.heap.size w wr) (fun _ _ _ => 0)
    case atStart => exact ⟨rfl, by go_simp, by go_simp, t0, by simp, hal⟩
    case round =>
      obtain ⟨rfl, kp, kq, k0, hsz, hB⟩ := hrel
      go_wp2_with fail
      refine (asked_is p q n false _ HA.out).mono ?_
      rintro e w3 ⟨rfl, hh3⟩
      go_wp2
      go_ret
      exact ⟨ret_bool HV.out.symm, hB.trans (hh3.mono hB.size)⟩
  | true =>
    obtain ⟨m, rfl, hp, m1, m2, m3⟩ := askedB_true ha
    have HV := Lib.hid (passFirst_is hp m1 m2 m3)
    have HA := Lib.hid ha
    have HP := Lib.hid hp
    clear ha h3 hp
    go_enter Try.func53, Try.ntmps53
    go_wp2_with fail
    go_loopw [8, 11] (fun _ i wr => ∃ k : Nat, k ≤ 3 ∧ i = .int .i64 k ∧ (2 ≤ k → apartMB p q m = true) ∧ (3 ≤ k → besideMB p q m = true) ∧ wr.cell? ⟨w.heap.size, 0, none⟩ = some (.int .i64 p) ∧ wr.cell? ⟨w.heap.size, 1, none⟩ = some (.int .i64 q) ∧ w.heap.size < wr.heap.size ∧ Three B wr ∧ Below w.heap.size w wr) (fun _ i _ => 4 - (intOf i).toNat)
    case atStart => exact ⟨0, by omega, rfl, fun h => by omega, fun h => by omega, by go_simp, by go_simp, by simp, hT0, hal⟩
    case round =>
      obtain ⟨k, hk, rfl, a1, a2, kp, kq, hsz, hT, hB⟩ := hrel
      have HT := Lib.hid hT
      obtain ⟨tb, t0, t1, t2⟩ := hT
      rcases (show k = 0 ∨ k = 1 ∨ k = 2 ∨ k = 3 by omega) with rfl | rfl | rfl | rfl
      · go_wp2_with fail
        refine (asked_is p q m true _ HA.out).mono ?_
        rintro e w3 ⟨rfl, hh3⟩
        have kp3 := cell_below hh3 kp
        have kq3 := cell_below hh3 kq
        have hz3 := hh3.size
        have HT3 := Lib.hid (HT.out.below hh3)
        have HB3 := Lib.hid (hB.trans (hh3.mono hB.size))
        clear hh3 kp kq t0 t1 t2 hB HT
        go_wp2
        go_roundw
        case rel => exact ⟨1, by omega, rfl, fun h => by omega, fun h => by omega, kp3, kq3, by omega, HT3.out, HB3.out⟩
        case measure => simp [intOf]
      · cases hc : apartMB p q m with
        | true =>
          have HC := Lib.hid hc
          go_wp2_with fail
          refine (apart_at p q m true _ HP.out m2 HC.out).mono ?_
          rintro e w3 ⟨rfl, hh3⟩
          have kp3 := cell_below hh3 kp
          have kq3 := cell_below hh3 kq
          have hz3 := hh3.size
          have HT3 := Lib.hid (HT.out.below hh3)
          have HB3 := Lib.hid (hB.trans (hh3.mono hB.size))
          clear hh3 kp kq t0 t1 t2 hB HT hc
          go_wp2
          go_roundw
          case rel => exact ⟨2, by omega, rfl, fun _ => (by first | exact HC.out | trivial), fun h => by omega, kp3, kq3, by omega, HT3.out, HB3.out⟩
          case measure => simp [intOf]
        | false =>
          have HC := Lib.hid hc
          have HF := Lib.hid (show passFirstB p q m = false by rw [HV.out, hc]; rfl)
          clear hc
          go_wp2_with fail
          refine (apart_at p q m false _ HP.out m2 HC.out).mono ?_
          rintro e w3 ⟨rfl, hh3⟩
          go_wp2
          go_ret
          exact ⟨ret_bool HF.out.symm, hB.trans (hh3.mono hB.size)⟩
      · have HA1 := Lib.hid (a1 (by omega))
        cases hc : besideMB p q m with
        | true =>
          have HC := Lib.hid hc
          go_wp2_with fail
          refine (beside_at p q m true _ HP.out m1 m2 m3 HC.out).mono ?_
          rintro e w3 ⟨rfl, hh3⟩
          have kp3 := cell_below hh3 kp
          have kq3 := cell_below hh3 kq
          have hz3 := hh3.size
          have HT3 := Lib.hid (HT.out.below hh3)
          have HB3 := Lib.hid (hB.trans (hh3.mono hB.size))
          clear hh3 kp kq t0 t1 t2 hB HT hc
          go_wp2
          go_roundw
          case rel => exact ⟨3, by omega, rfl, fun _ => (by first | exact HA1.out | trivial), fun _ => (by first | exact HC.out | trivial), kp3, kq3, by omega, HT3.out, HB3.out⟩
          case measure => simp [intOf]
        | false =>
          have HC := Lib.hid hc
          have HF := Lib.hid (show passFirstB p q m = false by rw [HV.out, HA1.out, hc]; rfl)
          clear hc
          go_wp2_with fail
          refine (beside_at p q m false _ HP.out m1 m2 m3 HC.out).mono ?_
          rintro e w3 ⟨rfl, hh3⟩
          go_wp2
          go_ret
          exact ⟨ret_bool HF.out.symm, hB.trans (hh3.mono hB.size)⟩
      · have HF := Lib.hid (show passFirstB p q m = true by rw [HV.out, a1 (by omega), a2 (by omega)]; rfl)
        go_wp2
        go_ret
        exact ⟨ret_bool HF.out.symm, hB⟩
set_option maxRecDepth 100000 in
set_option maxHeartbeats 4000000 in
theorem implPassFirst_any (p q n : Int) (w : World) : Calls Try.prog 22 #[pr p q, .int .i64 n] w fun e w' => e = .returned (.bool (passFirstB p q n)) ∧ Below w.heap.size w w' := by
  obtain ⟨c, hc⟩ : ∃ c, passFirstB p q n = c := ⟨_, rfl⟩
  go_enter Try.func22, Try.ntmps22
  go_wp2_with fail
  refine (allThree_at p q n (w.heap.size + 1) _ ⟨by simp, by go_simp, by go_simp, by go_simp⟩).mono ?_
  rintro e w1 ⟨rfl, hh1⟩
  have hz1 := hh1.size
  try simp only [World.size_alloc] at hz1
  rw [hc]
  go_wp2
  go_ret
  exact ⟨ret_bool hc.symm, by (repeat (first | exact Below.refl _ _ | refine Below.setCell ?_ (by first | omega | (simp <;> omega)) _ | refine Below.alloc ?_ (by first | omega | (simp <;> omega)) _ | refine Below.drew ?_ | refine Below.trans ?_ (Below.mono (by assumption) (by first | omega | (simp <;> omega))) | refine Below.grown ?_ (by assumption) (by first | omega | (simp <;> omega)) (fun k e => by cases e; first | omega | (simp <;> omega))))⟩
end Go.Proofs.Ytmliglakfbeedaa
namespace Go.Proofs.Ytmliglakfbeedaa
open Go.RowKit
def passingB (p q : Int) (j : Nat) : Bool := passFirstB p q j && !prime8B j
def passingL (p q n : Int) : List Nat := if n ≤ 1000 then holdL (passingB p q) (n.toNat + 1) else []
theorem passing_small {p q : Int} {j : Nat} (h : j < 3) : passingB p q j = false := by
  cases hb : passFirstB p q j with
  | false => simp [passingB, hb]
  | true => obtain ⟨m, e, _, _, h1, _⟩ := passFirstB_true hb; omega
theorem passing_low {p q : Int} {j : Nat} (h : j ≤ 3) : holdL (passingB p q) j = [] := by
  rw [holdL, List.filter_eq_nil_iff]
  intro i hi
  have : i < j := by simpa using hi
  rw [passing_small (by omega)]
  simp
set_option maxRecDepth 100000 in
set_option maxHeartbeats 8000000 in
theorem specPassing_any (p q n : Int) (w : World) : Calls Try.prog 30 #[pr p q, .int .i64 n] w (ListOf (passingL p q n) w) := by
  obtain ⟨i0, hi0, hzi0, hzi1, hzi2⟩ := info_parts info_int
  go_enter Try.func30, Try.ntmps30
  have e1 : ((w.alloc (.cells #[.int .i64 p, .int .i64 q] 30)).alloc (.cells #[] 3 (0, 0))).heap[w.heap.size + 1]? = some (.cells #[] 3 (0, 0)) := by
    have := heap_alloc_new (w.alloc (.cells #[.int .i64 p, .int .i64 q] 30)) (.cells #[] 3 (0, 0))
    rwa [World.size_alloc] at this
  have hO := own0 (base := w.heap.size + 1) (Nat.le_refl _) e1
  clear e1
  have hB0 : Below w.heap.size w ((w.alloc (.cells #[.int .i64 p, .int .i64 q] 30)).alloc (.cells #[] 3 (0, 0))) := by
    (repeat (first | exact Below.refl _ _ | refine Below.setCell ?_ (by first | omega | (simp <;> omega)) _ | refine Below.alloc ?_ (by first | omega | (simp <;> omega)) _ | refine Below.drew ?_ | refine Below.trans ?_ (Below.mono (by assumption) (by first | omega | (simp <;> omega))) | refine Below.grown ?_ (by assumption) (by first | omega | (simp <;> omega)) (fun k e => by cases e; first | omega | (simp <;> omega))))
  go_wp2_with fail
  go_loopw [5, 6] (fun v c wr => ∃ j : Nat, 3 ≤ j ∧ j ≤ 1001 ∧ (j = 3 ∨ (n ≤ 1000 ∧ (j : Int) ≤ n + 1)) ∧ c = .int .i64 j ∧ wr.ownsRow (w.heap.size + 1) 3 1 v (holdL (passingB p q) j).length (natCells (holdL (passingB p q) j)) ∧
      wr.cell? ⟨w.heap.size, 0, none⟩ = some (.int .i64 p) ∧ wr.cell? ⟨w.heap.size, 1, none⟩ = some (.int .i64 q) ∧ w.heap.size < wr.heap.size ∧ Below w.heap.size w wr) (fun _ c _ => 1100 - (intOf c).toNat)
  case atStart => exact ⟨3, by omega, by omega, .inl rfl, rfl, by rw [passing_low (Nat.le_refl 3)]; exact hO, by go_simp, by go_simp, by simp; omega, hB0⟩
  case round =>
    obtain ⟨j, j1, j2, hjn, rfl, hown, kp, kq, hsz, hB⟩ := hrel
    have hlen := holdL_len (passingB p q) j
    by_cases hlt : (j : Int) ≤ n ∧ n ≤ 1000
    · obtain ⟨hl1, hl2⟩ := hlt
      have HB := Lib.hid hB
      have HO := Lib.hid hown
      clear hB hown
      go_wp2_with fail
      refine (specPassFirst_any p q j _).mono ?_
      rintro e w3 ⟨rfl, hh3⟩
      have kp3 : w3.cell? ⟨w.heap.size, 0, none⟩ = some (.int .i64 p) := cell_below hh3 kp
      have kq3 : w3.cell? ⟨w.heap.size, 1, none⟩ = some (.int .i64 q) := cell_below hh3 kq
      have hz3 := hh3.size
      have hown3 := own_below HO.out hh3
      have HB3 := Lib.hid (HB.out.trans (hh3.mono (by omega)))
      clear kp kq hh3 HO HB
      have hsz3 : w.heap.size < w3.heap.size := by omega
      cases hpf : passFirstB p q j with
      | true =>
        cases hp8 : prime8B j with
        | true =>
          have hbit : passingB p q j = false := by simp [passingB, hp8]
          have E1 := Lib.hid (holdL_no hbit)
          have HO3 := Lib.hid hown3
          have HP8 := Lib.hid hp8
          clear hown3 hpf hp8 hbit
          go_wp2_with fail
          refine (specPrime8_is j true _ (by omega) (by omega) HP8.out).mono ?_
          rintro e wx ⟨rfl, rfl⟩
          go_wp2
          go_roundw
          case rel => exact ⟨j + 1, by omega, by omega, .inr ⟨hl2, by omega⟩, congrArg (Value.int .i64) (by omega), by rw [E1.out]; exact HO3.out, kp3, kq3, hsz3, HB3.out⟩
          case measure => simp [intOf]; omega
        | false =>
          have hbit : passingB p q j = true := by simp [passingB, hpf, hp8]
          have E1 := Lib.hid (natCells_yes hbit)
          have E2 := Lib.hid (holdL_yes_len hbit)
          have hlk := hown3.lt
          have HP8 := Lib.hid hp8
          clear hpf hp8 hbit
          go_wp2_with fail
          refine (specPrime8_is j false _ (by omega) (by omega) HP8.out).mono ?_
          rintro e wx ⟨rfl, rfl⟩
          go_wp2_with (first | (at_builtin; refine wpList_append_own _ rfl _ _ 38 rfl (w.heap.size + 1) 3 i0 (.int .i64 0) 1 8 Try.underlying38 hi0 hzi0 hzi1 hzi2 rfl (by decide) _ _ _ rfl (hown3.alloc _) ⟨w3.heap.size, 0, none⟩ 1 1 [.int .i64 (j : Int)] rfl rfl (World.news_of_block (cs := #[.int .i64 (j : Int)]) (t := 3) (fr := (0, 0)) (heap_alloc_new w3 _)) (by simp [Value.oneCell']) (by unfold maxLen; omega) (by omega) (by simp; omega) ?_))
          intro v' w4 hown4 hgrow4 _
          rw [E1.out, E2.out] at hown4
          have kP : w4.cell? ⟨w.heap.size, 0, none⟩ = some (.int .i64 p) := (hgrow4.cell_far ⟨w.heap.size, 0, none⟩ (by simp; omega) (fun e => by have := hlk w.heap.size e.symm; omega)).trans ((World.cell?_alloc_past _ _ _ hsz3).trans kp3)
          have kQ : w4.cell? ⟨w.heap.size, 1, none⟩ = some (.int .i64 q) := (hgrow4.cell_far ⟨w.heap.size, 1, none⟩ (by simp; omega) (fun e => by have := hlk w.heap.size e.symm; omega)).trans ((World.cell?_alloc_past _ _ _ hsz3).trans kq3)
          have hz4 : w3.heap.size + 1 ≤ w4.heap.size := by have := hgrow4.size; simpa using this
          have hB4 : Below w.heap.size w w4 := (HB3.out.alloc (by omega) _).grown hgrow4 (by simp; omega) (fun k e => by have := hlk _ e; omega)
          clear hown3 hgrow4 kp3 kq3 hlk
          go_wp2
          go_roundw
          case rel => exact ⟨j + 1, by omega, by omega, .inr ⟨hl2, by omega⟩, congrArg (Value.int .i64) (by omega), hown4, kP, kQ, by omega, hB4⟩
          case measure => simp [intOf]; omega
      | false =>
        have hbit : passingB p q j = false := by simp [passingB, hpf]
        have E1 := Lib.hid (holdL_no hbit)
        have HO3 := Lib.hid hown3
        clear hown3 hpf hbit
        go_wp2
        go_roundw
        case rel => exact ⟨j + 1, by omega, by omega, .inr ⟨hl2, by omega⟩, congrArg (Value.int .i64) (by omega), by rw [E1.out]; exact HO3.out, kp3, kq3, hsz3, HB3.out⟩
        case measure => simp [intOf]; omega
    · have hL : holdL (passingB p q) j = passingL p q n := by
        rw [passingL]
        split
        · rename_i h1
          rcases hjn with rfl | ⟨_, h2⟩
          · rw [passing_low (Nat.le_refl 3), passing_low (by omega)]
          · have : j = n.toNat + 1 := by omega
            rw [this]
        · rename_i h1
          rcases hjn with rfl | ⟨h2, _⟩
          · exact passing_low (Nat.le_refl 3)
          · omega
      have HO := Lib.hid hown
      have HL := Lib.hid hL
      clear hown hL hjn
      by_cases h1 : (j : Int) ≤ n
      · have h2 : 1000 < n := by omega
        go_wp2
        go_ret
        exact ⟨_, rfl, by rw [← HL.out]; exact (IsInts.of_owns (by rw [← natCells_range]; exact HO.out)).mono (by omega) (Nat.le_refl _) (Nat.le_refl _), hB⟩
      · have h2 : n < (j : Int) := by omega
        go_wp2
        go_ret
        exact ⟨_, rfl, by rw [← HL.out]; exact (IsInts.of_owns (by rw [← natCells_range]; exact HO.out)).mono (by omega) (Nat.le_refl _) (Nat.le_refl _), hB⟩
theorem passingL_len (p q n : Int) : (passingL p q n).length ≤ 1001 := by
  rw [passingL]; split
  · exact Nat.le_trans (holdL_len _ _) (by omega)
  · exact Nat.zero_le _
end Go.Proofs.Ytmliglakfbeedaa
namespace Go.Proofs.Ytmliglakfbeedaa
open Go.RowKit Go.Shelf
attribute [local go_sem] Oper.semAt_some
set_option maxHeartbeats 4000000 in
theorem leastDivisor8_at (m : Nat) (w : World) (m2 : 2 ≤ m) (m4 : m ≤ 1000) :
    Calls Try.prog 52 #[.int .i64 m] w fun e w' => (∃ d : Int, e = .returned (.int .i64 d) ∧ (d != (m : Int)) = !prime8B m) ∧ w = w' := by
  go_enter Try.func52, Try.ntmps52
  go_wp2_with fail
  go_loop [3] (fun c => ∃ d : Nat, 2 ≤ d ∧ d ≤ 32 ∧ c = .int .i64 d ∧ ∀ e : Nat, 2 ≤ e → e < d → ¬ e ∣ m) (fun c => 40 - (intOf c).toNat)
  case atStart => exact ⟨2, by omega, by omega, rfl, fun e e1 e2 => by omega⟩
  case round =>
    obtain ⟨d, d2, d3, rfl, hno⟩ := hrel
    have HNO := Lib.hid hno
    clear hno
    have hdd : (d : Int) * (d : Int) = ((d * d : Nat) : Int) := by simp
    have hb := Nat.mul_le_mul d3 d3
    have U : IntKind.i64.wrap ((d : Int) * (d : Int)) = (d : Int) * (d : Int) := by rw [IntKind.wrap_i64, hdd]; omega
    by_cases h1 : d * d ≤ m
    · have h1i : (d : Int) * (d : Int) ≤ m := by rw [hdd]; omega
      have hd31 : d ≤ 31 := by
        rcases Nat.lt_or_ge d 32 with h | h
        · omega
        · have := Nat.mul_le_mul h h; omega
      have hz : ((d : Int) == 0) = false := by simp; omega
      have hm0 : 0 ≤ (m : Int) := by omega
      by_cases hdv : d ∣ m
      · have hT : ((m : Int) % (d : Int) == 0) = true := by rw [div_test]; simpa using hdv
        have HV := Lib.hid (show (((d : Nat) : Int) != (m : Int)) = !prime8B m by
          rw [prime8_not d2 hdv h1]
          have hlt : d < m := by have := Nat.mul_le_mul d2 (Nat.le_refl d); omega
          simp; omega)
        rw [beq_iff_eq] at hT
        clear hdd hb hdv
        go_wp2
        go_ret
        exact ⟨⟨d, rfl, HV.out⟩, rfl⟩
      · have hT : ((m : Int) % (d : Int) == 0) = false := by rw [div_test]; simpa using hdv
        have HD := Lib.hid hdv
        clear hdd hb hdv
        go_wp2
        go_round
        case rel => exact ⟨d + 1, by omega, by omega, congrArg (Value.int .i64) (by omega), fun e e1 e2 he => by
          rcases Nat.eq_or_lt_of_le (Nat.le_of_lt_succ e2) with rfl | h
          · exact HD.out he
          · exact HNO.out e e1 h he⟩
        case measure => simp [intOf]; omega
    · have h1i : (m : Int) < (d : Int) * (d : Int) := by rw [hdd]; omega
      have HV := Lib.hid (show ((m : Int) != (m : Int)) = !prime8B m by
        rw [prime8_root m2 HNO.out (by omega)]
        simp)
      clear hdd hb
      go_wp2
      go_ret
      exact ⟨⟨m, rfl, HV.out⟩, rfl⟩
set_option maxHeartbeats 1000000 in
theorem byOther_at (p q : Int) (m : Nat) (c : Bool) (w : World) (m2 : 2 ≤ m) (m4 : m ≤ 1000) (hc : prime8B m = c) : Calls Try.prog 64 #[pr p q, .int .i64 m] w fun e w' => e = .returned (.bool (!c)) ∧ Below w.heap.size w w' := by
  have HC := Lib.hid hc
  clear hc
  go_enter Try.func64, Try.ntmps64
  go_wp2_with fail
  refine (leastDivisor8_at m _ m2 m4).mono ?_
  rintro e wx ⟨⟨d, rfl, hd⟩, rfl⟩
  have HD := Lib.hid hd
  clear hd
  go_wp2
  go_ret
  exact ⟨ret_bool (by rw [HD.out, HC.out]), by (repeat (first | exact Below.refl _ _ | refine Below.setCell ?_ (by first | omega | (simp <;> omega)) _ | refine Below.alloc ?_ (by first | omega | (simp <;> omega)) _ | refine Below.drew ?_ | refine Below.trans ?_ (Below.mono (by assumption) (by first | omega | (simp <;> omega))) | refine Below.grown ?_ (by assumption) (by first | omega | (simp <;> omega)) (fun k e => by cases e; first | omega | (simp <;> omega))))⟩
theorem implPassFirst_is (p q l : Int) (c : Bool) (w : World) (h : passFirstB p q l = c) : Calls Try.prog 22 #[pr p q, .int .i64 l] w fun e w' => e = .returned (.bool c) ∧ Below w.heap.size w w' := by rw [← h]; exact implPassFirst_any p q l w
/-- The two tests of PassingFirst, in a block of two cells. -/
def Two (B : Nat) (w : World) : Prop :=
  B < w.heap.size ∧ w.cell? ⟨B, 0, none⟩ = some (.func (.func 22) #[] #[]) ∧ w.cell? ⟨B, 1, none⟩ = some (.func (.func 64) #[] #[])
theorem Two.below {B : Nat} {w w' : World} (h : Two B w) (hb : Below w.heap.size w w') : Two B w' := by
  have := hb.size
  exact ⟨by have := h.1; omega, cell_below hb h.2.1, cell_below hb h.2.2⟩
set_option maxRecDepth 100000 in
set_option maxHeartbeats 8000000 in
theorem allTwo_at (p q : Int) (m : Nat) (c : Bool) (B : Nat) (w : World) (h3 : Two B w) (m4 : m ≤ 1000) (hc : passingB p q m = c) : Calls Try.prog 53 #[pr p q, .int .i64 m, .slice (some ⟨B, 0, none⟩) 2 2] w fun e w' => e = .returned (.bool c) ∧ Below w.heap.size w w' := by
  have hal : Below w.heap.size w (w.alloc (.cells #[.int .i64 p, .int .i64 q] 30)) := by (repeat (first | exact Below.refl _ _ | refine Below.setCell ?_ (by first | omega | (simp <;> omega)) _ | refine Below.alloc ?_ (by first | omega | (simp <;> omega)) _ | refine Below.drew ?_ | refine Below.trans ?_ (Below.mono (by assumption) (by first | omega | (simp <;> omega))) | refine Below.grown ?_ (by assumption) (by first | omega | (simp <;> omega)) (fun k e => by cases e; first | omega | (simp <;> omega))))
  have hT0 : Two B (w.alloc (.cells #[.int .i64 p, .int .i64 q] 30)) := h3.below hal
  cases ha : passFirstB p q m with
  | false =>
    have HV := Lib.hid (show false = c by rw [← hc, passingB, ha]; rfl)
    have HA := Lib.hid ha
    obtain ⟨tb, t0, t1⟩ := hT0
    clear ha h3 hc
    go_enter Try.func53, Try.ntmps53
    go_wp2_with fail
    go_loopw [8, 11] (fun _ i wr => i = .int .i64 0 ∧ wr.cell? ⟨w.heap.size, 0, none⟩ = some (.int .i64 p) ∧ wr.cell? ⟨w.heap.size, 1, none⟩ = some (.int .i64 q) ∧ wr.cell? ⟨B, 0, none⟩ = some (.func (.func 22) #[] #[]) ∧ w.heap.size < wr.heap.size ∧ Below w.heap.size w wr) (fun _ _ _ => 0)
    case atStart => exact ⟨rfl, by go_simp, by go_simp, t0, by simp, hal⟩
    case round =>
      obtain ⟨rfl, kp, kq, k0, hsz, hB⟩ := hrel
      go_wp2_with fail
      refine (implPassFirst_is p q m false _ HA.out).mono ?_
      rintro e w3 ⟨rfl, hh3⟩
      go_wp2
      go_ret
      exact ⟨ret_bool HV.out, hB.trans (hh3.mono hB.size)⟩
  | true =>
    have m3 : 3 ≤ m := by obtain ⟨m', e, _, _, h1, _⟩ := passFirstB_true ha; omega
    obtain ⟨b, hb⟩ : ∃ b, prime8B m = b := ⟨_, rfl⟩
    have HV := Lib.hid (show (!b) = c by rw [← hc, passingB, ha, hb]; rfl)
    have HA := Lib.hid ha
    have HB := Lib.hid hb
    clear ha h3 hb hc
    go_enter Try.func53, Try.ntmps53
    go_wp2_with fail
    go_loopw [8, 11] (fun _ i wr => ∃ k : Nat, k ≤ 2 ∧ i = .int .i64 k ∧ (2 ≤ k → b = false) ∧ wr.cell? ⟨w.heap.size, 0, none⟩ = some (.int .i64 p) ∧ wr.cell? ⟨w.heap.size, 1, none⟩ = some (.int .i64 q) ∧ w.heap.size < wr.heap.size ∧ Two B wr ∧ Below w.heap.size w wr) (fun _ i _ => 4 - (intOf i).toNat)
    case atStart => exact ⟨0, by omega, rfl, fun h => by omega, by go_simp, by go_simp, by simp, hT0, hal⟩
    case round =>
      obtain ⟨k, hk, rfl, a1, kp, kq, hsz, hT, hB⟩ := hrel
      have HT := Lib.hid hT
      obtain ⟨tb, t0, t1⟩ := hT
      rcases (show k = 0 ∨ k = 1 ∨ k = 2 by omega) with rfl | rfl | rfl
      · clear a1
        go_wp2_with fail
        refine (implPassFirst_is p q m true _ HA.out).mono ?_
        rintro e w3 ⟨rfl, hh3⟩
        have kp3 := cell_below hh3 kp
        have kq3 := cell_below hh3 kq
        have hz3 := hh3.size
        have HT3 := Lib.hid (HT.out.below hh3)
        have HB3 := Lib.hid (hB.trans (hh3.mono hB.size))
        clear hh3 kp kq t0 t1 hB HT
        go_wp2
        go_roundw
        case rel => exact ⟨1, by omega, rfl, fun h => by omega, kp3, kq3, by omega, HT3.out, HB3.out⟩
        case measure => simp [intOf]
      · clear a1
        cases b with
        | false =>
          go_wp2_with fail
          refine (byOther_at p q m false _ (by omega) m4 HB.out).mono ?_
          rintro e w3 ⟨rfl, hh3⟩
          have kp3 := cell_below hh3 kp
          have kq3 := cell_below hh3 kq
          have hz3 := hh3.size
          have HT3 := Lib.hid (HT.out.below hh3)
          have HB3 := Lib.hid (hB.trans (hh3.mono hB.size))
          clear hh3 kp kq t0 t1 hB HT
          go_wp2
          go_roundw
          case rel => exact ⟨2, by omega, rfl, fun _ => (by first | rfl | trivial), kp3, kq3, by omega, HT3.out, HB3.out⟩
          case measure => simp [intOf]
        | true =>
          go_wp2_with fail
          refine (byOther_at p q m true _ (by omega) m4 HB.out).mono ?_
          rintro e w3 ⟨rfl, hh3⟩
          go_wp2
          go_ret
          exact ⟨ret_bool HV.out, hB.trans (hh3.mono hB.size)⟩
      · have HF := Lib.hid (show true = c by rw [← HV.out, a1 (by omega)]; rfl)
        clear a1
        go_wp2
        go_ret
        exact ⟨ret_bool HF.out, hB⟩
theorem holdL_more {B : Nat → Bool} (a : Nat) : ∀ d, ∃ R, holdL B (a + d) = holdL B a ++ R := by
  intro d
  induction d with
  | zero => exact ⟨[], by simp⟩
  | succ d ih =>
    obtain ⟨R, hR⟩ := ih
    cases hb : B (a + d) with
    | true => exact ⟨R ++ [a + d], by rw [← Nat.add_assoc, ← holdL_yes hb, hR, List.append_assoc]⟩
    | false => exact ⟨R, by rw [← Nat.add_assoc, holdL_no hb, hR]⟩
theorem holdL_place {B : Nat → Bool} {j n : Nat} (hb : B j = true) (hj : j < n) : (holdL B j).length < (holdL B n).length ∧ (holdL B n).getD (holdL B j).length 0 = j ∧ (holdL B (j + 1)).length = (holdL B j).length + 1 := by
  obtain ⟨R, hR⟩ := holdL_more (B := B) (j + 1) (n - (j + 1))
  rw [show j + 1 + (n - (j + 1)) = n by omega, ← holdL_yes hb] at hR
  refine ⟨?_, ?_, (holdL_yes_len hb).symm⟩
  · rw [hR]; simp <;> omega
  · rw [hR, List.append_assoc]; simp
theorem own_low {W : World} {b b' : Nat} {e : TypeId} {size k : Nat} {v : Value} {xs : List Value} (h : W.ownsRow b e size v k xs) (hb : b' ≤ b) : W.ownsRow b' e size v k xs := by
  refine ⟨h.1, ?_⟩
  rcases h.2 with h0 | ⟨g, cap, cur, e1, e2, e3⟩
  · exact .inl h0
  · exact .inr ⟨g, cap, cur, e1, Nat.le_trans hb e2, e3⟩
/-- 'out = append(out, ..)' where the row lies from a block on ahead of which other boxes lie: those are kept, too. -/
theorem appended_far {W w1 : World} {n₀ G b : Nat} {t e : TypeId} {size : Nat} {v v' : Value} {k m : Nat} {xs ys : List Value} {tmp : Obj}
    (hv : Boxed W G t v) (hte : t ≠ e) (hrow : W.ownsRow b e size v k xs) (hn₀ : n₀ ≤ W.heap.size) (hG : n₀ ≤ G) (hnb : n₀ ≤ b) (hbW : b ≤ W.heap.size)
    (hown' : w1.ownsRow b e size v' m ys) (hgrow : (W.alloc tmp).grownBy w1 v.ownBlock) :
    Boxed w1 G t v ∧ Boxed (w1.setCell ⟨G, 0, none⟩ v') G t v' ∧ (w1.setCell ⟨G, 0, none⟩ v').ownsRow b e size v' m ys ∧ KeepsOthers W (w1.setCell ⟨G, 0, none⟩ v') ∧ Below n₀ W (w1.setCell ⟨G, 0, none⟩ v') ∧
      ∀ c o, c < b → c ≠ G → (w1.setCell ⟨G, 0, none⟩ v').cell? ⟨c, o, none⟩ = W.cell? ⟨c, o, none⟩ := by
  obtain ⟨a1, a2, a3, a4, a5⟩ := hv.appended hte (own_low hrow hnb) hn₀ hG (own_low hown' hnb) hgrow
  refine ⟨a1, a2, hown'.kept (grownBy_setCell' w1 G v') (.inr (a1.not_row hte hown').symm), a4, a5, fun c o hc hne => ?_⟩
  refine (World.cell?_setCell_other w1 ⟨G, 0, none⟩ ⟨c, o, none⟩ v' (fun e' => hne (by injection e' with e' _ _; exact e'.symm))).trans ?_
  refine World.cell?_of_block (w := W) (a := ⟨c, o, none⟩) ?_
  have hcW : c < W.heap.size := by omega
  refine (hgrow.block c (by simp; omega) fun ej => ?_).trans (Below.heap_alloc _ _ _ hcW)
  rcases hrow.2 with ⟨rfl, _⟩ | ⟨g, cap, cur, rfl, hb, _, _⟩
  · simp [Value.ownBlock] at ej
  · obtain rfl : c = g := by simpa [Value.ownBlock] using ej
    omega
/-- What the iterator reads: the pair, the greatest number, the tests. -/
def PassBoxes (B T : Nat) (p q n : Int) (W : World) : Prop :=
  W.cell? ⟨B, 0, none⟩ = some (.int .i64 p) ∧ W.cell? ⟨B, 1, none⟩ = some (.int .i64 q) ∧ W.cell? ⟨B + 1, 0, none⟩ = some (.int .i64 n) ∧ W.cell? ⟨B + 1 + 1, 0, none⟩ = some (.slice (some ⟨T, 0, none⟩) 2 2) ∧ Two T W
set_option maxHeartbeats 1000000 in
theorem passing_any (p q n : Int) (T : Nat) (w : World) :
    Calls Try.prog 63 #[pr p q, .int .i64 n, .slice (some ⟨T, 0, none⟩) 2 2] w fun e w' =>
      e = .returned (.func (.func 85) #[] #[.pointer (some ⟨w.heap.size + 1, 0, none⟩), .pointer (some ⟨w.heap.size, 0, none⟩), .pointer (some ⟨w.heap.size + 1 + 1, 0, none⟩)]) ∧
      w' = ((w.alloc (.cells #[.int .i64 p, .int .i64 q] 30)).alloc (.cells #[.int .i64 n] 3)).alloc (.cells #[.slice (some ⟨T, 0, none⟩) 2 2] 57) := by
  have hmf : ∀ (fn : Fn) (first cap : Array Value) (w : World), (Instr.makeFunc fn first cap).run Try.prog w = .ok (.func fn first cap) w := fun _ _ _ _ => rfl
  go_enter Try.func63, Try.ntmps63
  go_wp2
  go_ret
  exact ⟨rfl, rfl⟩
set_option maxRecDepth 100000 in
set_option maxHeartbeats 8000000 in
theorem passing_counted (d : Nat) (hd : 1 ≤ d) (p q : Int) (n B T : Nat) (w : World) (n1 : 1 ≤ n) (n9 : n ≤ 1000) (g : Nat → Nat) (hg : ∀ k, (holdL (passingB p q) (n + 1)).getD k 0 = g k) :
    Counted Fence.wide d Try.prog 85 #[.pointer (some ⟨B + 1, 0, none⟩), .pointer (some ⟨B, 0, none⟩), .pointer (some ⟨B + 1 + 1, 0, none⟩)] (fun k => #[.int .i64 (g k : Int)]) (PassBoxes B T p q n) (holdL (passingB p q) (n + 1)).length w := by
  intro l J X W hW hJ hX hKp hY h0
  refine callsIn_of_wp Try.func85 rfl trivial ?_ rfl
  simp only [Try.ntmps85, List.size_toArray, List.length_cons, List.length_nil, Nat.reduceAdd, Nat.reduceSub, Array.replicate_succ, Array.replicate_zero, List.push_toArray, List.append_toArray, List.nil_append, List.cons_append]
  gi_wp2
  gi_loopg [5] (n + 1) (fun r x wr => ∃ j k : Nat, j + r = n + 2 ∧ 1 ≤ j ∧ j ≤ n + 1 ∧ x = .int .i64 j ∧ k = (holdL (passingB p q) j).length ∧ J k wr)
  case atStart => exact ⟨1, 0, by omega, by omega, by omega, rfl, by rw [passing_low (by omega)]; rfl, h0⟩
  case round =>
    obtain ⟨j, k, hjr, j1, j2, rfl, hk, hj⟩ := hrel
    obtain ⟨c1, c2, c3, c4, hT⟩ := hKp k wr hj
    by_cases hle : j ≤ n
    · have hlei : (j : Int) ≤ (n : Int) := by omega
      cases hb : passingB p q j with
      | true =>
        obtain ⟨b1, b2, b3⟩ := holdL_place hb (show j < n + 1 by omega)
        rw [← hk] at b1 b2 b3
        have HB := Lib.hid hb
        have HT := Lib.hid hT
        have HK := Lib.hid b3
        clear hb hk b3 hT
        gi_wp2_with fail
        refine ⟨trivial, (callsIn_wide.2 (allTwo_at p q j true T _ HT.out (by omega) HB.out)).mono ?_⟩
        rintro e w3 ⟨rfl, hh3⟩
        have hj3 := hJ k wr w3 none hj ⟨hh3.os, hh3.tape, hh3.output, hh3.size, fun i hi _ => hh3.block i hi⟩ (fun r e => by cases e)
        obtain ⟨fn, tmps, assign, body, hy, hR⟩ := hY k w3 b1 hj3
        rw [show g k = j from (hg k).symm.trans b2] at hy
        clear hh3 c1 c2 c3 c4 HT b2
        gi_wp2
        refine hR.mono ?_
        rintro e W3 (⟨rfl, hj4⟩ | ⟨rfl, hx3⟩)
        · gi_wp2
          gi_roundg (gk - 1)
          case measure => omega
          case rel => exact ⟨j + 1, k + 1, by omega, by omega, by omega, congrArg (Value.int .i64) (by omega), HK.out.symm, hj4⟩
        · gi_wp2
          refine bodyPost_ret (results_none rfl _ _ _) rfl ?_
          exact ⟨⟨_, rfl⟩, .inr ⟨k, b1, hx3⟩⟩
      | false =>
        have HB := Lib.hid hb
        have HT := Lib.hid hT
        have HK := Lib.hid (show k = (holdL (passingB p q) (j + 1)).length by rw [holdL_no hb, ← hk])
        clear hb hk hT
        gi_wp2_with fail
        refine ⟨trivial, (callsIn_wide.2 (allTwo_at p q j false T _ HT.out (by omega) HB.out)).mono ?_⟩
        rintro e w3 ⟨rfl, hh3⟩
        have hj3 := hJ k wr w3 none hj ⟨hh3.os, hh3.tape, hh3.output, hh3.size, fun i hi _ => hh3.block i hi⟩ (fun r e => by cases e)
        clear hh3 c1 c2 c3 c4 HT hj
        gi_wp2
        refine ⟨fun f e => (by cases e), ?_⟩
        gi_wp2
        gi_roundg (gk - 1)
        case measure => omega
        case rel => exact ⟨j + 1, k, by omega, by omega, by omega, congrArg (Value.int .i64) (by omega), HK.out, hj3⟩
    · have hgt : (n : Int) < (j : Int) := by omega
      obtain rfl : j = n + 1 := by omega
      rw [hk] at hj
      clear hk
      gi_wp2
      go_end0
      exact ⟨⟨_, rfl⟩, .inl hj⟩
theorem passingL_no {p q n : Int} (h : pairB p q = false ∨ n < 1 ∨ 1000 < n) : passingL p q n = [] := by
  rcases h with h | h | h
  · rw [passingL]
    split
    · rw [holdL, List.filter_eq_nil_iff]
      intro i _
      simp [passingB, passFirstB, h]
    · rfl
  · rw [passingL]
    split
    · exact passing_low (by omega)
    · rfl
  · rw [passingL, if_neg (by omega)]
theorem natCells_next {L : List Nat} {k : Nat} (hk : k < L.length) : natCells (L.take k) ++ [.int .i64 ((L.getD k 0 : Nat) : Int)] = natCells (L.take (k + 1)) := by
  have e : L.getD k 0 = L[k] := by simp [hk]
  rw [List.take_succ_eq_append_getElem hk, e]
  simp only [natCells, List.map_append, List.map_cons, List.map_nil]
set_option maxRecDepth 100000 in
set_option maxHeartbeats 8000000 in
theorem implPassing_yes (p q : Int) (n : Nat) (w : World) (hp : pairB p q = true) (n1 : 1 ≤ n) (n9 : n ≤ 1000) : Calls Try.prog 28 #[pr p q, .int .i64 n] w (ListOf (passingL p q n) w) := by
  obtain ⟨i0, hi0, hzi0, hzi1, hzi2⟩ := info_parts info_int
  have HP := Lib.hid hp
  have hL : passingL p q n = holdL (passingB p q) (n + 1) := by rw [passingL, if_pos (by omega)]; simp
  have hlen : (holdL (passingB p q) (n + 1)).length ≤ 1001 := Nat.le_trans (holdL_len _ _) (by omega)
  obtain ⟨g, hg⟩ : ∃ g : Nat → Nat, ∀ k, (holdL (passingB p q) (n + 1)).getD k 0 = g k := ⟨_, fun _ => rfl⟩
  have hseq := fun B T w => passing_counted 8 (by omega) p q n B T w n1 n9 g hg
  have hnx : ∀ k, k < (holdL (passingB p q) (n + 1)).length → natCells ((holdL (passingB p q) (n + 1)).take k) ++ [.int .i64 (g k : Int)] = natCells ((holdL (passingB p q) (n + 1)).take (k + 1)) := fun k hk => by rw [← hg k]; exact natCells_next hk
  obtain ⟨L, hLL⟩ : ∃ L, holdL (passingB p q) (n + 1) = L := ⟨_, rfl⟩
  rw [hLL] at hL hlen hseq hnx
  rw [hL]
  have hd1 : decide ((n : Int) < 1) = false := by simp; omega
  have hd2 : decide (1000 < (n : Int)) = false := by simp; omega
  clear hp hL hLL hg
  refine (callsIn_wide (n := 9)).1 ?_
  refine callsIn_of_wp_marks Try.func28 rfl trivial ?_ rfl
  simp only [Try.ntmps28, List.size_toArray, List.length_cons, List.length_nil, Nat.reduceAdd, Nat.reduceSub, Array.replicate_succ, Array.replicate_zero, List.push_toArray, List.append_toArray, List.nil_append, List.cons_append]
  gi_wp2_with fail
  refine ⟨trivial, (callsIn_wide.2 (implPairOk_yes p q _ HP.out)).mono ?_⟩
  rintro e w1 ⟨rfl, hh1⟩
  obtain ⟨hc1, hf1⟩ := bcell hh1
  have hz1 := hh1.size
  try simp only [World.size_alloc] at hz1
  have hz1_0 : w.heap.size < w1.heap.size := by omega
  have kb1_0_0 : w1.cell? ⟨w.heap.size, 0, none⟩ = some (.int .i64 p) := by go_simp
  have kf1_0_0 : w1.frozen? ⟨w.heap.size, 0, none⟩ = false := by go_simp
  have kb1_0_1 : w1.cell? ⟨w.heap.size, 1, none⟩ = some (.int .i64 q) := by go_simp
  have kf1_0_1 : w1.frozen? ⟨w.heap.size, 1, none⟩ = false := by go_simp
  clear hc1 hf1
  have h1n : (1 : Int) ≤ (n : Int) := by omega
  have h9n : (n : Int) ≤ 1000 := by omega
  gi_wp2_with fail
  refine ⟨trivial, (callsIn_wide.2 (passing_any p q n (w1.heap.size + 1) _)).mono ?_⟩
  rintro e w2 ⟨rfl, rfl⟩
  gi_wp2_with fail
  refine wpIn_rangeFunc_counted (P := Try.prog) rfl (by omega) (gf := 85) (lb := #[.pointer (some ⟨w1.heap.size + 1 + 1 + 1, 0, none⟩), .pointer (some ⟨w1.heap.size + 1 + 1, 0, none⟩), .pointer (some ⟨w1.heap.size + 1 + 1 + 1 + 1, 0, none⟩)]) rfl trivial (enters_of Try.func85 (by kernel_rfl) rfl)
    (hseq (w1.heap.size + 1 + 1) (w1.heap.size + 1) _) (Below.refl _ _) (fun _ => rfl)
    (fun k W => (∃ v, Boxed W w1.heap.size 38 v ∧ W.ownsRow (w1.heap.size + 5) 3 1 v k (natCells (L.take k))) ∧ PassBoxes (w1.heap.size + 1 + 1) (w1.heap.size + 1) p q n W ∧ w1.heap.size + 5 ≤ W.heap.size ∧ Below w.heap.size w W)
    (fun _ _ _ => False) ?own (fun _ _ _ _ _ h _ _ => h) (fun _ _ h => h.2.1) ?start
    (fun k => { tmps := #[pr p q, .int .i64 (n : Int), .pointer (some ⟨w.heap.size, 0, none⟩), undef, .slice none 0 0, .pointer (some ⟨w1.heap.size, 0, none⟩), .int .i64 (g k : Int), .agg #[.int .i64 p, .int .i64 q], .bool true, .bool false, .bool false, .int .i64 (n : Int), .bool false, .bool false, .bool false, .int .i64 (n : Int), .bool false, .bool false, .agg #[.int .i64 p, .int .i64 q], .int .i64 (n : Int), .slice (some ⟨w1.heap.size + 1, 0, none⟩) 2 2, .func (.func 85) #[] #[.pointer (some ⟨w1.heap.size + 1 + 1 + 1, 0, none⟩), .pointer (some ⟨w1.heap.size + 1 + 1, 0, none⟩), .pointer (some ⟨w1.heap.size + 1 + 1 + 1 + 1, 0, none⟩)], .int .i64 (g k : Int), undef, undef, undef, undef, undef], defers := [] })
    ?assign ?body ?done (fun _ _ _ _ _ _ h _ => h.elim)
  case own =>
    rintro k A V row ⟨⟨v, hv, hr⟩, ⟨x1, x2, x3, x4, x0, x5, x6⟩, hsz, hb⟩ hg hrow
    have hr' := fun r e => (hrow r e).2
    obtain ⟨v', hv', hr2, _⟩ := holdsRow_own (β := Nat) (w1.heap.size + 5) w1.heap.size 38 3 1 (fun k => k) (fun k => natCells (L.take k)) (fun _ _ => True) k A V row ⟨v, hv, hr, trivial⟩ hg hr'
    have hgs := hg.size
    exact ⟨⟨v', hv', hr2⟩, ⟨cell_kept x1 hg hr', cell_kept x2 hg hr', cell_kept x3 hg hr', cell_kept x4 hg hr', by omega, cell_kept x5 hg hr', cell_kept x6 hg hr'⟩, by omega, hb.grown hg hb.size (fun k e => by have := (hrow k e).1; simp at this; omega)⟩
  case start =>
    have bO := Boxed.new w1 38 (.slice none 0 0)
    exact ⟨⟨_, (((bO.alloc _).alloc _).alloc _).alloc _, World.ownsRow_nil _ _ _ _⟩, ⟨by go_simp, by go_simp, by go_simp, by go_simp, (by first | (simp; done) | (simp; omega)), by go_simp, by go_simp⟩, (by first | (simp; done) | (simp; omega)), by (repeat (first | exact Below.refl _ _ | refine Below.setCell ?_ (by first | omega | (simp <;> omega)) _ | refine Below.alloc ?_ (by first | omega | (simp <;> omega)) _ | refine Below.drew ?_ | refine Below.trans ?_ (Below.mono (by assumption) (by first | omega | (simp <;> omega))) | refine Below.grown ?_ (by assumption) (by first | omega | (simp <;> omega)) (fun k e => by cases e; first | omega | (simp <;> omega))))⟩
  case assign =>
    intro l k W K hK
    gi_wp2
    exact hK
  case body =>
    rintro l k W hk ⟨⟨v, hv, hrow⟩, ⟨x1, x2, x3, x4, x0, x5, x6⟩, hsz, hB⟩
    have hc := hv.cell
    have hne := hnx k hk
    gi_wp2_with (gi_at_builtin; refine wpListIn_append_own _ rfl _ _ 38 rfl (w1.heap.size + 5) 3 i0 (.int .i64 0) 1 8 Try.underlying38 hi0 hzi0 hzi1 hzi2 rfl (by decide) _ _ _ rfl (hrow.alloc _) ⟨W.heap.size, 0, none⟩ 1 1 [.int .i64 (g k : Int)] rfl rfl (cell_one_new _ _ _) (by simp [Value.oneCell']) (by unfold maxLen; omega) (by omega) (by simp; omega) ?_; intro v' w3 hown' hgrow _; rw [hne] at hown'; obtain ⟨g', cap', rfl⟩ := ownsRow_succ hown'; obtain ⟨hv1, hv2, hr2, hk2, hb2, hf2⟩ := appended_far hv (by decide) hrow hB.size (by omega) (by omega) hsz hown' hgrow; have hc1 := hv1.cell; have hf1 := hv1.frozen)
    have hz2 := hb2.size
    exact ⟨hk2, ⟨_, hv2, hr2⟩, ⟨(hf2 _ _ (by omega) (by omega)).trans x1, (hf2 _ _ (by omega) (by omega)).trans x2, (hf2 _ _ (by omega) (by omega)).trans x3, (hf2 _ _ (by omega) (by omega)).trans x4, by omega, (hf2 _ _ (by omega) (by omega)).trans x5, (hf2 _ _ (by omega) (by omega)).trans x6⟩, by omega, hB.trans hb2⟩
  case done =>
    rintro D W hD ⟨⟨v, hv, hrow⟩, hx, hsz, hB⟩ hK
    have hc := hv.cell
    have hD' : w.heap.size ≤ D := by simp at hD; omega
    clear hx
    gi_wp2
    refine ⟨by simp, .inl ⟨_, _, rfl, run_takeDeferred hK, ?_⟩⟩
    rw [List.take_length] at hrow
    have hr2 := ownsRow_putObj hrow (.deferred none) hK rfl
    rw [natCells_range] at hr2
    have hB2 := hB.grown (grownBy_putObj' _ D (.deferred none)) hB.size (fun k e => by cases e; exact hD')
    exact ⟨_, results_tmp rfl _ _ _, v, rfl, (IsInts.of_owns hr2).mono (by omega) (Nat.le_refl _) (Nat.le_refl _), hB2⟩
set_option maxHeartbeats 2000000 in
theorem implPassing_any (p q n : Int) (w : World) : Calls Try.prog 28 #[pr p q, .int .i64 n] w (ListOf (passingL p q n) w) := by
  cases hp : pairB p q with
  | false =>
    rw [passingL_no (.inl hp)]
    have HP := Lib.hid hp
    clear hp
    go_enter Try.func28, Try.ntmps28
    go_wp2_with fail
    refine (implPairOk_no p q _ HP.out).mono ?_
    rintro e w1 ⟨rfl, hh1⟩
    obtain ⟨hc1, hf1⟩ := bcell hh1
    have hz1 := hh1.size
    try simp only [World.size_alloc] at hz1
    have hz1_0 : w.heap.size < w1.heap.size := by omega
    have kb1_0_0 : w1.cell? ⟨w.heap.size, 0, none⟩ = some (.int .i64 p) := by go_simp
    have kf1_0_0 : w1.frozen? ⟨w.heap.size, 0, none⟩ = false := by go_simp
    have kb1_0_1 : w1.cell? ⟨w.heap.size, 1, none⟩ = some (.int .i64 q) := by go_simp
    have kf1_0_1 : w1.frozen? ⟨w.heap.size, 1, none⟩ = false := by go_simp
    clear hc1 hf1
    go_wp2
    go_ret
    exact ⟨_, rfl, IsInts.nil _ _ _, by (repeat (first | exact Below.refl _ _ | refine Below.setCell ?_ (by first | omega | (simp <;> omega)) _ | refine Below.alloc ?_ (by first | omega | (simp <;> omega)) _ | refine Below.drew ?_ | refine Below.trans ?_ (Below.mono (by assumption) (by first | omega | (simp <;> omega))) | refine Below.grown ?_ (by assumption) (by first | omega | (simp <;> omega)) (fun k e => by cases e; first | omega | (simp <;> omega))))⟩
  | true =>
    by_cases h1 : n < 1
    · rw [passingL_no (.inr (.inl h1))]
      have HP := Lib.hid hp
      clear hp
      go_enter Try.func28, Try.ntmps28
      go_wp2_with fail
      refine (implPairOk_yes p q _ HP.out).mono ?_
      rintro e w1 ⟨rfl, hh1⟩
      obtain ⟨hc1, hf1⟩ := bcell hh1
      have hz1 := hh1.size
      try simp only [World.size_alloc] at hz1
      have hz1_0 : w.heap.size < w1.heap.size := by omega
      have kb1_0_0 : w1.cell? ⟨w.heap.size, 0, none⟩ = some (.int .i64 p) := by go_simp
      have kf1_0_0 : w1.frozen? ⟨w.heap.size, 0, none⟩ = false := by go_simp
      have kb1_0_1 : w1.cell? ⟨w.heap.size, 1, none⟩ = some (.int .i64 q) := by go_simp
      have kf1_0_1 : w1.frozen? ⟨w.heap.size, 1, none⟩ = false := by go_simp
      clear hc1 hf1
      go_wp2
      go_ret
      exact ⟨_, rfl, IsInts.nil _ _ _, by (repeat (first | exact Below.refl _ _ | refine Below.setCell ?_ (by first | omega | (simp <;> omega)) _ | refine Below.alloc ?_ (by first | omega | (simp <;> omega)) _ | refine Below.drew ?_ | refine Below.trans ?_ (Below.mono (by assumption) (by first | omega | (simp <;> omega))) | refine Below.grown ?_ (by assumption) (by first | omega | (simp <;> omega)) (fun k e => by cases e; first | omega | (simp <;> omega))))⟩
    · by_cases h9 : 1000 < n
      · rw [passingL_no (.inr (.inr h9))]
        have HP := Lib.hid hp
        have h1' : 1 ≤ n := by omega
        clear hp h1
        go_enter Try.func28, Try.ntmps28
        go_wp2_with fail
        refine (implPairOk_yes p q _ HP.out).mono ?_
        rintro e w1 ⟨rfl, hh1⟩
        obtain ⟨hc1, hf1⟩ := bcell hh1
        have hz1 := hh1.size
        try simp only [World.size_alloc] at hz1
        have hz1_0 : w.heap.size < w1.heap.size := by omega
        have kb1_0_0 : w1.cell? ⟨w.heap.size, 0, none⟩ = some (.int .i64 p) := by go_simp
        have kf1_0_0 : w1.frozen? ⟨w.heap.size, 0, none⟩ = false := by go_simp
        have kb1_0_1 : w1.cell? ⟨w.heap.size, 1, none⟩ = some (.int .i64 q) := by go_simp
        have kf1_0_1 : w1.frozen? ⟨w.heap.size, 1, none⟩ = false := by go_simp
        clear hc1 hf1
        go_wp2
        go_ret
        exact ⟨_, rfl, IsInts.nil _ _ _, by (repeat (first | exact Below.refl _ _ | refine Below.setCell ?_ (by first | omega | (simp <;> omega)) _ | refine Below.alloc ?_ (by first | omega | (simp <;> omega)) _ | refine Below.drew ?_ | refine Below.trans ?_ (Below.mono (by assumption) (by first | omega | (simp <;> omega))) | refine Below.grown ?_ (by assumption) (by first | omega | (simp <;> omega)) (fun k e => by cases e; first | omega | (simp <;> omega))))⟩
      · obtain ⟨k, rfl⟩ := Int.eq_ofNat_of_zero_le (show 0 ≤ n by omega)
        exact implPassing_yes p q k w hp (by omega) (by omega)
end Go.Proofs.Ytmliglakfbeedaa
namespace Go.Proofs.Ytmliglakfbeedaa
open Go.RowKit
/-- What a draw of two numbers returns, the second one at most 407. -/
def DrawnSign (w : World) (e : Ending) (w' : World) : Prop :=
  ∃ a b : Int, e = .returned (.tuple #[.int .i64 a, .int .i64 b]) ∧ b ≤ 407 ∧ Below w.heap.size w w'
theorem three_get (v a b c : Int) (h0 : 0 ≤ v) (h1 : v ≤ 5) : (#[.int .i64 a, .int .i64 b, .int .i64 c] : Array Value)[(v / 2).toNat]? = some (.int .i64 (if v / 2 = 0 then a else if v / 2 = 1 then b else c)) := by
  rcases (show v / 2 = 0 ∨ v / 2 = 1 ∨ v / 2 = 2 by omega) with e | e | e <;> simp [e]
theorem three_at (v a b c : Int) (h : (v / 2).toNat < [Value.int .i64 a, Value.int .i64 b, Value.int .i64 c].length) (h0 : 0 ≤ v) (h1 : v ≤ 5) : [Value.int .i64 a, Value.int .i64 b, Value.int .i64 c][(v / 2).toNat]'h = .int .i64 (if v / 2 = 0 then a else if v / 2 = 1 then b else c) := by
  have e := three_get v a b c h0 h1
  rw [Array.getElem?_eq_some_iff] at e
  obtain ⟨_, e⟩ := e
  simpa using e
set_option maxHeartbeats 2000000 in
theorem drawSignOf_any (w : World) (a : Option Addr) (len cap : Nat) (zs : List Int) (h : IsRow w a len cap zs) :
    Calls Try.prog 11 #[.slice a len cap] w (DrawnSign w) := by
  go_enter Try.func11, Try.ntmps11
  go_wp2_with fail
  refine (open_any _ _ _ _ zs h).mono ?_
  rintro e w1 ⟨rfl, hR1, hh1, hzR1⟩
  try simp only [World.size_alloc] at hzR1
  try simp only [World.size_alloc] at hR1
  obtain ⟨hc1, hf1⟩ := bcell hh1
  have hz1 := hh1.size
  try simp only [World.size_alloc] at hz1
  go_wp2_with fail
  refine (pick_any w.heap.size 0 200 _ hR1 (by omega) (by omega)).mono ?_
  rintro e w2 ⟨v2, rfl, va2, vb2, hR2, hh2⟩
  have vc2 : v2 ≤ max (200 - 1) 0 := by omega
  clear vb2
  obtain ⟨hc2, hf2⟩ := gcell hh2
  have hz2 := hh2.size
  try simp only [World.size_alloc] at hz2
  clear hc2 hf2
  go_wp2_with fail
  refine (pick_any w.heap.size (0 + 1) 30 _ hR2 (by omega) (by omega)).mono ?_
  rintro e w3 ⟨v3, rfl, va3, vb3, hR3, hh3⟩
  have vc3 : v3 ≤ max (30 - 1) 0 := by omega
  clear vb3
  obtain ⟨hc3, hf3⟩ := gcell hh3
  have hz3 := hh3.size
  try simp only [World.size_alloc] at hz3
  clear hc3 hf3
  go_wp2_with fail
  refine (pick_any w.heap.size (0 + 1 + 1) 200 _ hR3 (by omega) (by omega)).mono ?_
  rintro e w4 ⟨v4, rfl, va4, vb4, hR4, hh4⟩
  have vc4 : v4 ≤ max (200 - 1) 0 := by omega
  clear vb4
  obtain ⟨hc4, hf4⟩ := gcell hh4
  have hz4 := hh4.size
  try simp only [World.size_alloc] at hz4
  clear hc4 hf4
  go_wp2_with fail
  refine (pick_any w.heap.size (0 + 1 + 1 + 1) 10 _ hR4 (by omega) (by omega)).mono ?_
  rintro e w5 ⟨v5, rfl, va5, vb5, hR5, hh5⟩
  have vc5 : v5 ≤ max (10 - 1) 0 := by omega
  clear vb5
  obtain ⟨hc5, hf5⟩ := gcell hh5
  have hz5 := hh5.size
  try simp only [World.size_alloc] at hz5
  clear hc5 hf5
  go_wp2_with fail
  refine (pick_any w.heap.size (0 + 1 + 1 + 1 + 1) 20 _ hR5 (by omega) (by omega)).mono ?_
  rintro e w6 ⟨v6, rfl, va6, vb6, hR6, hh6⟩
  have vc6 : v6 ≤ max (20 - 1) 0 := by omega
  clear vb6
  obtain ⟨hc6, hf6⟩ := gcell hh6
  have hz6 := hh6.size
  try simp only [World.size_alloc] at hz6
  clear hc6 hf6
  have q6a : 0 ≤ v6 / 19 := by omega
  have q6b : v6 / 19 ≤ 1 := by omega
  go_wp2
  refine bodyPost_ret (v := .tuple #[.int .i64 (v2 - 100 + v3 / 29 * 20000), .int .i64 (2 * v4 + v5 - v6 / 19 * 500)]) (by simp [results, Try.results11, go_sem]) rfl ⟨_, _, rfl, by omega, ?_⟩
  (repeat (first | exact Below.refl _ _ | refine Below.setCell ?_ (by first | omega | (simp <;> omega)) _ | refine Below.alloc ?_ (by first | omega | (simp <;> omega)) _ | refine Below.drew ?_ | refine Below.trans ?_ (Below.mono (by assumption) (by first | omega | (simp <;> omega))) | refine Below.grown ?_ (by assumption) (by first | omega | (simp <;> omega)) (fun k e => by cases e; first | omega | (simp <;> omega))))
set_option maxHeartbeats 2000000 in
theorem drawPassesSecond_any (w : World) (a : Option Addr) (len cap : Nat) (zs : List Int) (h : IsRow w a len cap zs) :
    Calls Try.prog 16 #[.slice a len cap] w (DrawnPairNum w) := by
  go_enter Try.func16, Try.ntmps16
  go_wp2_with fail
  refine (open_any _ _ _ _ zs (h.below ((Below.refl _ _).alloc (Nat.le_refl _) _))).mono ?_
  rintro e w1 ⟨rfl, hR1, hh1, hzR1⟩
  try simp only [World.size_alloc] at hzR1
  try simp only [World.size_alloc] at hR1
  obtain ⟨hc1, hf1⟩ := bcell hh1
  have hz1 := hh1.size
  try simp only [World.size_alloc] at hz1
  have hz1_0 : w.heap.size < w1.heap.size := by omega
  have kb1_0_0 : w1.cell? ⟨w.heap.size, 0, none⟩ = some (.int .i64 0) := by go_simp
  have kf1_0_0 : w1.frozen? ⟨w.heap.size, 0, none⟩ = false := by go_simp
  have kb1_0_1 : w1.cell? ⟨w.heap.size, 1, none⟩ = some (.int .i64 0) := by go_simp
  have kf1_0_1 : w1.frozen? ⟨w.heap.size, 1, none⟩ = false := by go_simp
  clear hc1 hf1
  go_wp2_with fail
  refine (l20Pair_any (w.heap.size + 1) 0 14 _ hR1 (by omega) (by omega)).mono ?_
  rintro e w2 ⟨p2, q2, rfl, pa2, pb2, qa2, qb2, hR2, hh2⟩
  obtain ⟨hc2, hf2⟩ := gcell hh2
  have hz2 := hh2.size
  try simp only [World.size_alloc] at hz2
  have hz2_0 : w.heap.size < w2.heap.size := by omega
  have hn2_0 : ¬ w.heap.size = (w.heap.size + 1) := by omega
  have kb2_0_0 : w2.cell? ⟨w.heap.size, 0, none⟩ = some (.int .i64 0) := by go_simp
  have kf2_0_0 : w2.frozen? ⟨w.heap.size, 0, none⟩ = false := by go_simp
  have kb2_0_1 : w2.cell? ⟨w.heap.size, 1, none⟩ = some (.int .i64 0) := by go_simp
  have kf2_0_1 : w2.frozen? ⟨w.heap.size, 1, none⟩ = false := by go_simp
  clear hc2 hf2
  go_wp2_with fail
  refine (l20Tested_any (w.heap.size + 1) (0 + 5) _ hR2 (by omega)).mono ?_
  rintro e w3 ⟨v3, rfl, hR3, hh3⟩
  obtain ⟨hc3, hf3⟩ := gcell hh3
  have hz3 := hh3.size
  try simp only [World.size_alloc] at hz3
  have hz3_0 : w.heap.size < w3.heap.size := by omega
  have hn3_0 : ¬ w.heap.size = (w.heap.size + 1) := by omega
  have kb3_0_0 : w3.cell? ⟨w.heap.size, 0, none⟩ = some (.int .i64 0) := by go_simp
  have kf3_0_0 : w3.frozen? ⟨w.heap.size, 0, none⟩ = false := by go_simp
  have kb3_0_1 : w3.cell? ⟨w.heap.size, 1, none⟩ = some (.int .i64 0) := by go_simp
  have kf3_0_1 : w3.frozen? ⟨w.heap.size, 1, none⟩ = false := by go_simp
  clear hc3 hf3
  go_wp2
  refine bodyPost_ret (v := .tuple #[pr p2 q2, .int .i64 v3]) (by simp [results, Try.results16, go_sem, kb3_0_0, kb3_0_1]) rfl ⟨_, _, _, rfl, ?_⟩
  (repeat (first | exact Below.refl _ _ | refine Below.setCell ?_ (by first | omega | (simp <;> omega)) _ | refine Below.alloc ?_ (by first | omega | (simp <;> omega)) _ | refine Below.drew ?_ | refine Below.trans ?_ (Below.mono (by assumption) (by first | omega | (simp <;> omega))) | refine Below.grown ?_ (by assumption) (by first | omega | (simp <;> omega)) (fun k e => by cases e; first | omega | (simp <;> omega))))
set_option maxHeartbeats 2000000 in
theorem drawPassesFirst_any (w : World) (a : Option Addr) (len cap : Nat) (zs : List Int) (h : IsRow w a len cap zs) :
    Calls Try.prog 21 #[.slice a len cap] w (DrawnPairNum w) := by
  go_enter Try.func21, Try.ntmps21
  go_wp2_with fail
  refine (open_any _ _ _ _ zs (h.below ((Below.refl _ _).alloc (Nat.le_refl _) _))).mono ?_
  rintro e w1 ⟨rfl, hR1, hh1, hzR1⟩
  try simp only [World.size_alloc] at hzR1
  try simp only [World.size_alloc] at hR1
  obtain ⟨hc1, hf1⟩ := bcell hh1
  have hz1 := hh1.size
  try simp only [World.size_alloc] at hz1
  have hz1_0 : w.heap.size < w1.heap.size := by omega
  have kb1_0_0 : w1.cell? ⟨w.heap.size, 0, none⟩ = some (.int .i64 0) := by go_simp
  have kf1_0_0 : w1.frozen? ⟨w.heap.size, 0, none⟩ = false := by go_simp
  have kb1_0_1 : w1.cell? ⟨w.heap.size, 1, none⟩ = some (.int .i64 0) := by go_simp
  have kf1_0_1 : w1.frozen? ⟨w.heap.size, 1, none⟩ = false := by go_simp
  clear hc1 hf1
  go_wp2_with fail
  refine (l20Pair_any (w.heap.size + 1) 0 14 _ hR1 (by omega) (by omega)).mono ?_
  rintro e w2 ⟨p2, q2, rfl, pa2, pb2, qa2, qb2, hR2, hh2⟩
  obtain ⟨hc2, hf2⟩ := gcell hh2
  have hz2 := hh2.size
  try simp only [World.size_alloc] at hz2
  have hz2_0 : w.heap.size < w2.heap.size := by omega
  have hn2_0 : ¬ w.heap.size = (w.heap.size + 1) := by omega
  have kb2_0_0 : w2.cell? ⟨w.heap.size, 0, none⟩ = some (.int .i64 0) := by go_simp
  have kf2_0_0 : w2.frozen? ⟨w.heap.size, 0, none⟩ = false := by go_simp
  have kb2_0_1 : w2.cell? ⟨w.heap.size, 1, none⟩ = some (.int .i64 0) := by go_simp
  have kf2_0_1 : w2.frozen? ⟨w.heap.size, 1, none⟩ = false := by go_simp
  clear hc2 hf2
  go_wp2_with fail
  refine (l20Tested_any (w.heap.size + 1) (0 + 5) _ hR2 (by omega)).mono ?_
  rintro e w3 ⟨v3, rfl, hR3, hh3⟩
  obtain ⟨hc3, hf3⟩ := gcell hh3
  have hz3 := hh3.size
  try simp only [World.size_alloc] at hz3
  have hz3_0 : w.heap.size < w3.heap.size := by omega
  have hn3_0 : ¬ w.heap.size = (w.heap.size + 1) := by omega
  have kb3_0_0 : w3.cell? ⟨w.heap.size, 0, none⟩ = some (.int .i64 0) := by go_simp
  have kf3_0_0 : w3.frozen? ⟨w.heap.size, 0, none⟩ = false := by go_simp
  have kb3_0_1 : w3.cell? ⟨w.heap.size, 1, none⟩ = some (.int .i64 0) := by go_simp
  have kf3_0_1 : w3.frozen? ⟨w.heap.size, 1, none⟩ = false := by go_simp
  clear hc3 hf3
  go_wp2
  refine bodyPost_ret (v := .tuple #[pr p2 q2, .int .i64 v3]) (by simp [results, Try.results21, go_sem, kb3_0_0, kb3_0_1]) rfl ⟨_, _, _, rfl, ?_⟩
  (repeat (first | exact Below.refl _ _ | refine Below.setCell ?_ (by first | omega | (simp <;> omega)) _ | refine Below.alloc ?_ (by first | omega | (simp <;> omega)) _ | refine Below.drew ?_ | refine Below.trans ?_ (Below.mono (by assumption) (by first | omega | (simp <;> omega))) | refine Below.grown ?_ (by assumption) (by first | omega | (simp <;> omega)) (fun k e => by cases e; first | omega | (simp <;> omega))))
set_option maxRecDepth 100000 in
set_option maxHeartbeats 8000000 in
theorem drawPassingFirst_any (w : World) (a : Option Addr) (len cap : Nat) (zs : List Int) (h : IsRow w a len cap zs) :
    Calls Try.prog 27 #[.slice a len cap] w (DrawnPairNum w) := by
  go_enter Try.func27, Try.ntmps27
  go_wp2_with fail
  refine (open_any _ _ _ _ zs (h.below ((Below.refl _ _).alloc (Nat.le_refl _) _))).mono ?_
  rintro e w1 ⟨rfl, hR1, hh1, hzR1⟩
  try simp only [World.size_alloc] at hzR1
  try simp only [World.size_alloc] at hR1
  obtain ⟨hc1, hf1⟩ := bcell hh1
  have hz1 := hh1.size
  try simp only [World.size_alloc] at hz1
  have hz1_0 : w.heap.size < w1.heap.size := by omega
  have kb1_0_0 : w1.cell? ⟨w.heap.size, 0, none⟩ = some (.int .i64 0) := by go_simp
  have kf1_0_0 : w1.frozen? ⟨w.heap.size, 0, none⟩ = false := by go_simp
  have kb1_0_1 : w1.cell? ⟨w.heap.size, 1, none⟩ = some (.int .i64 0) := by go_simp
  have kf1_0_1 : w1.frozen? ⟨w.heap.size, 1, none⟩ = false := by go_simp
  clear hc1 hf1
  have hRlt := hR1.lt
  have hB1 : Below w.heap.size w w1 := by (repeat (first | exact Below.refl _ _ | refine Below.setCell ?_ (by first | omega | (simp <;> omega)) _ | refine Below.alloc ?_ (by first | omega | (simp <;> omega)) _ | refine Below.drew ?_ | refine Below.trans ?_ (Below.mono (by assumption) (by first | omega | (simp <;> omega))) | refine Below.grown ?_ (by assumption) (by first | omega | (simp <;> omega)) (fun k e => by cases e; first | omega | (simp <;> omega))))
  have hBR : ¬ w.heap.size = w.heap.size + 1 := by omega
  have hBl : w.heap.size < w1.heap.size := by omega
  have hsel := three_at
  go_wp2_with fail
  go_region_with ((first | (go_at_call 46; refine (l20Pair_any (w.heap.size + 1) _ _ _ (by first | assumption | exact Rd.alloc (by assumption) _ | exact Rd.below (by assumption) (by assumption) (Nat.le_refl _)) (by omega) (by omega)).mono ?_; rintro e wy ⟨p2, q2, rfl, pa, pb, qa, qb, hRy, hhy⟩; obtain ⟨hcy, hfy⟩ := gcell hhy; have hzy : w1.heap.size ≤ wy.heap.size := hhy.size; have hzyl : w.heap.size < wy.heap.size := (by omega); have kfy0 : wy.frozen? ⟨w.heap.size, 0, none⟩ = false := ((hfy w.heap.size 0 hBl hBR).trans kf1_0_0); have kfy1 : wy.frozen? ⟨w.heap.size, 1, none⟩ = false := ((hfy w.heap.size 1 hBl hBR).trans kf1_0_1); have ky0 : wy.cell? ⟨w.heap.size, 0, none⟩ = some (.int .i64 0) := ((hcy w.heap.size 0 hBl hBR).trans kb1_0_0); have ky1 : wy.cell? ⟨w.heap.size, 1, none⟩ = some (.int .i64 0) := ((hcy w.heap.size 1 hBl hBR).trans kb1_0_1)) | (go_at_call 37; refine (pick_any (w.heap.size + 1) _ _ _ (by first | assumption | exact Rd.alloc (by assumption) _ | exact Rd.below (by assumption) (by assumption) (Nat.le_refl _)) (by omega) (by omega)).mono ?_; rintro e wz ⟨v, rfl, va, vb, hRz, hhz⟩; have vq : v ≤ 60 := (by omega); (try (have vq5 : v ≤ 5 := (by omega); have vq0 : 0 ≤ v / 2 := (by omega); have vq1 : v / 2 < 3 := (by omega); have vt : v.tdiv 2 = v / 2 := Int.tdiv_eq_ediv_of_nonneg va; have vw : IntKind.i64.wrap (v / 2) = v / 2 := (by rw [IntKind.wrap_i64]; omega))); clear vb; obtain ⟨hcz, hfz⟩ := gcell hhz; have hst := fun b (h : b < _) => Nat.lt_of_lt_of_le h hhz.size; have hzz := hhz.size; (try simp at hzz); have hzzl : w.heap.size < wz.heap.size := (by omega); (try (have kz0 : wz.cell? ⟨w.heap.size, 0, none⟩ = some (.int .i64 0) := (by rw [hcz w.heap.size 0 (by simp; omega) (by omega)]; go_simp))); (try (have kz1 : wz.cell? ⟨w.heap.size, 1, none⟩ = some (.int .i64 0) := (by rw [hcz w.heap.size 1 (by simp; omega) (by omega)]; go_simp))); (try (have kfz0 : wz.frozen? ⟨w.heap.size, 0, none⟩ = false := (by rw [hfz w.heap.size 0 (by simp; omega) (by omega)]; go_simp))); (try (have kfz1 : wz.frozen? ⟨w.heap.size, 1, none⟩ = false := (by rw [hfz w.heap.size 1 (by simp; omega) (by omega)]; go_simp))); (try have hzs := Nat.lt_of_succ_le hzz); have hne : ¬ wz.heap.size = w.heap.size + 1 := (by have := hRz.lt; omega)) | fail))
  all_goals go_wp2
  all_goals refine bodyPost_ret (v := .tuple #[pr p2 q2, .int .i64 _]) (by simp [results, Try.results27, go_sem, *]; try rfl) rfl ⟨_, _, _, rfl, ?_⟩
  all_goals ((repeat (first | exact Below.refl _ _ | refine Below.setCell ?_ (by first | omega | (simp <;> omega)) _ | refine Below.alloc ?_ (by first | omega | (simp <;> omega)) _ | refine Below.drew ?_ | refine Below.trans ?_ (Below.mono (by assumption) (by first | omega | (simp <;> omega))) | refine Below.grown ?_ (by assumption) (by first | omega | (simp <;> omega)) (fun k e => by cases e; first | omega | (simp <;> omega)))))
end Go.Proofs.Ytmliglakfbeedaa
namespace Go.Proofs.Ytmliglakfbeedaa
open Go.RowKit
/-- What a draw of a number returns. -/
def DrawnInt (w : World) (e : Ending) (w' : World) : Prop := ∃ a : Int, e = .returned (.int .i64 a) ∧ Below w.heap.size w w'
end Go.Proofs.Ytmliglakfbeedaa
namespace Go.Proofs.Ytmliglakfbeedaa
open Go.RowKit Go.Shelf
open Go.Maps (Keyed)
attribute [local go_sem] Oper.semAt_some
theorem intKeyed : Keyed Try.prog 3 := Maps.int_keyed Try.underlying3
theorem intZero (w : World) : (zeroValue 3).run Try.prog w = .ok (.int .i64 0) w := by kernel_rfl
theorem wf_nat {j : Nat} (h : j ≤ 1000000000) : (Lit.int .i64 (j : Int)).wf = true := WalkArith.wf_i64 (by omega)
theorem intKey {j : Nat} (h : j ≤ 1000000000) : keyOf Try.prog 3 (.int .i64 (j : Int)) = some (.int .i64 (j : Int)) := Maps.keyOf_int_mk Try.underlying3 (wf_nat h)
theorem intElem {j : Nat} (h : j ≤ 1000000000) : plainElem (H := Unit) Try.prog 3 (.int .i64 (j : Int)) = some (.lit (.int .i64 (j : Int)), []) := plainElem_int Try.underlying3 (wf_nat h)
/-- What is remembered is right. -/
def MemoOk (p q : Int) (D : DataW Unit) : Prop := ∀ j : Nat, Maps.has D (.int .i64 (j : Int)) = true → D.atKey (.int .i64 (j : Int)) (.lit (.int .i64 0)) = .lit (.int .i64 (rankN p q j : Nat))
theorem MemoOk.empty (p q : Int) : MemoOk p q (.map []) := fun j h => by cases h
theorem MemoOk.put {p q : Int} {D : DataW Unit} (h : MemoOk p q D) (hD : Maps.IsMap D) (j : Nat) : MemoOk p q (D.put (.int .i64 (j : Int)) (.lit (.int .i64 (rankN p q j : Nat)))) := by
  intro i hi
  by_cases he : i = j
  · subst he
    exact Maps.atKey_put_same hD (show WideAt.IsKeyLit (Lit.int .i64 (i : Int)) from trivial) _ _
  · have hne : (Lit.int .i64 (i : Int)) ≠ (Lit.int .i64 (j : Int)) := fun e => he (by injection e with _ e; omega)
    rw [Maps.has_put_other hne] at hi
    rw [Maps.atKey_put_other hne]
    exact h i hi
/-- What the closure holds: the box of the map, that of the pair; the map's block, of at most n entries. -/
def Memo (p q : Int) (K B b n : Nat) (W : World) : Prop :=
  (W.cell? ⟨K, 0, none⟩ = some (.map (some b)) ∧ W.cell? ⟨B, 0, none⟩ = some (.int .i64 p) ∧ W.cell? ⟨B, 1, none⟩ = some (.int .i64 q)) ∧
  ∃ D : DataW Unit, MemoOk p q D ∧ W.ownsMap Try.prog 3 (plainElem Try.prog 3) b n D
theorem grown_below {W W' : World} (h : Below W.heap.size W W') : W.grownBy W' none := ⟨h.os, h.tape, h.output, h.size, fun j hj _ => h.block j hj⟩
theorem Memo.below {p q : Int} {K B b n : Nat} {W W' : World} (h : Memo p q K B b n W) (hb : Below W.heap.size W W') : Memo p q K B b n W' := by
  obtain ⟨⟨x1, x2, x3⟩, D, x4, x5⟩ := h
  exact ⟨⟨cell_below hb x1, cell_below hb x2, cell_below hb x3⟩, D, x4, x5.kept (grown_below hb) (fun e => by cases e)⟩
theorem Memo.kept {p q : Int} {K B b n : Nat} {A V : World} {row : Option Nat} (h : Memo p q K B b n A) (hg : A.grownBy V row) (hr : ∀ r, row = some r → ∃ o : Obj, A.heap[r]? = some o ∧ o.isCells = false) (hne : some b ≠ row) : Memo p q K B b n V := by
  obtain ⟨⟨x1, x2, x3⟩, D, x4, x5⟩ := h
  exact ⟨⟨cell_kept x1 hg hr, cell_kept x2 hg hr, cell_kept x3 hg hr⟩, D, x4, x5.kept hg hne⟩
theorem Memo.set {p q : Int} {K B b n : Nat} {W : World} (h : Memo p q K B b n W) {S : Nat} (h1 : K < S) (h2 : B < S) (h3 : b < S) (o : Nat) (v : Value) : Memo p q K B b n (W.setCell ⟨S, o, none⟩ v) := by
  obtain ⟨⟨x1, x2, x3⟩, D, x4, x5⟩ := h
  exact ⟨⟨(set_other (by omega)).trans x1, (set_other (by omega)).trans x2, (set_other (by omega)).trans x3⟩, D, x4, x5.setCell (a := ⟨S, o, none⟩) (by show b ≠ S; omega) v⟩
theorem Memo.mono {p q : Int} {K B b n n' : Nat} {W : World} (h : Memo p q K B b n W) (hn : n ≤ n') : Memo p q K B b n' W := by
  obtain ⟨x0, D, x4, x5⟩ := h
  exact ⟨x0, D, x4, x5.mono hn⟩
theorem Memo.lt {p q : Int} {K B b n : Nat} {W : World} (h : Memo p q K B b n W) : K < W.heap.size ∧ B < W.heap.size ∧ b < W.heap.size := by
  obtain ⟨⟨x1, x2, x3⟩, D, x4, x5⟩ := h
  exact ⟨World.block_lt_of_cell? _ _ x1, World.block_lt_of_cell? _ _ x2, x5.lt⟩
theorem Memo.isMap {p q : Int} {K B b n : Nat} {W : World} (h : Memo p q K B b n W) : ∃ es c, W.heap[b]? = some (.map es c) := by
  obtain ⟨_, D, _, es, c, hb, _⟩ := h
  exact ⟨es, c, hb⟩
theorem cells_map {w : World} {x b : Nat} {o : Nat} {v : Value} (h : w.cell? ⟨x, o, none⟩ = some v) {es : Array MapEntry} {c : Nat} (hb : w.heap[b]? = some (.map es c)) : some x ≠ some b := by
  intro e
  injection e with e
  subst e
  simp [World.cell?, hb] at h
theorem length_prodL : ∀ L : List Nat, (∀ x ∈ L, 2 ≤ x) → L.length + 1 ≤ prodL L
  | [], _ => Nat.le_refl 1
  | x :: L, h => by
    have h1 := length_prodL L (fun y hy => h y (List.mem_cons_of_mem _ hy))
    have h2 := Nat.mul_le_mul (h x (List.mem_cons_self ..)) h1
    simp only [List.length_cons, prodL]
    omega
theorem ppL_len {n : Nat} (hn : 1 ≤ n) : (ppL n).length < n := by
  obtain ⟨a, b, _⟩ := ppL_spec hn
  have := length_prodL _ b
  omega
set_option maxHeartbeats 1000000 in
theorem ranksBy_any (p q : Int) (w : World) :
    Calls Try.prog 62 #[pr p q] w fun e w' => e = .returned (.func (.func 81) #[] #[.pointer (some ⟨w.heap.size + 1 + 1, 0, none⟩), .pointer (some ⟨w.heap.size, 0, none⟩)]) ∧ Memo p q (w.heap.size + 1 + 1) w.heap.size (w.heap.size + 1) 0 w' ∧ Below w.heap.size w w' := by
  have hmf : ∀ (fn : Fn) (first cap : Array Value) (w : World), (Instr.makeFunc fn first cap).run Try.prog w = .ok (.func fn first cap) w := fun _ _ _ _ => rfl
  have hmm := @run_makeMap Try.prog
  have hO := World.ownsMap_made (H := Unit) (w.alloc (.cells #[.int .i64 p, .int .i64 q] 30)) Try.prog 3 (plainElem Try.prog 3)
  rw [World.size_alloc] at hO
  have HO := Lib.hid hO
  clear hO
  go_enter Try.func62, Try.ntmps62
  go_wp2
  go_ret
  refine ⟨rfl, ⟨⟨by go_simp, by go_simp, by go_simp⟩, _, MemoOk.empty p q, ?_⟩, by (repeat (first | exact Below.refl _ _ | refine Below.setCell ?_ (by first | omega | (simp <;> omega)) _ | refine Below.alloc ?_ (by first | omega | (simp <;> omega)) _ | refine Below.drew ?_ | refine Below.trans ?_ (Below.mono (by assumption) (by first | omega | (simp <;> omega))) | refine Below.grown ?_ (by assumption) (by first | omega | (simp <;> omega)) (fun k e => by cases e; first | omega | (simp <;> omega))))⟩
  exact HO.out.alloc _
end Go.Proofs.Ytmliglakfbeedaa
namespace Go.Proofs.Ytmliglakfbeedaa
open Go.RowKit Go.Shelf
attribute [local go_sem] Oper.semAt_some
theorem wide_asks (k : FuncId) : Fence.wide.fn k = True := rfl
attribute [local go_sem] wide_asks
/-- A box that holds a number. -/
def NumBox (S : Nat) (v : Int) (W : World) : Prop := W.cell? ⟨S, 0, none⟩ = some (.int .i64 v) ∧ W.frozen? ⟨S, 0, none⟩ = false
theorem NumBox.below {S : Nat} {v : Int} {W W' : World} (h : NumBox S v W) (hb : Below W.heap.size W W') : NumBox S v W' := ⟨cell_below hb h.1, frozen_below hb h.1 h.2⟩
theorem NumBox.kept {S : Nat} {v : Int} {A V : World} {row : Option Nat} (h : NumBox S v A) (hg : A.grownBy V row) (hr : ∀ r, row = some r → ∃ o : Obj, A.heap[r]? = some o ∧ o.isCells = false) : NumBox S v V := ⟨cell_kept h.1 hg hr, (frozen_kept h.1 hg hr).trans h.2⟩
theorem NumBox.set {S : Nat} {v : Int} {W : World} (h : NumBox S v W) (u : Int) : NumBox S u (W.setCell ⟨S, 0, none⟩ (.int .i64 u)) := ⟨set_same h.1, set_frozen h.2⟩
theorem grown_num {w W : World} {b S : Nat} (h : w.grownBy W (some b)) (hS : w.heap.size ≤ S) (o : Nat) (v : Value) : w.grownBy (W.setCell ⟨S, o, none⟩ v) (some b) :=
  h.andThen (grown_set (gr_refl W S) o v) (fun j e => by injection e with e; subst e; exact .inl hS)
theorem grown_then {w W W' : World} {b : Nat} (h : w.grownBy W (some b)) (hb : Below W.heap.size W W') : w.grownBy W' (some b) := h.andThen (grown_below hb) (fun j e => by cases e)
set_option maxRecDepth 100000 in
set_option maxHeartbeats 8000000 in
theorem ranksFn_at (p q : Int) (j K B b n : Nat) (w : World) (hr : rankB p q j = true) (hm : Memo p q K B b n w) (hn : n ≤ 1000000) :
    Calls Try.prog 81 #[.int .i64 j, .pointer (some ⟨K, 0, none⟩), .pointer (some ⟨B, 0, none⟩)] w fun e w' => e = .returned (.int .i64 (rankN p q j : Nat)) ∧ Memo p q K B b (n + 400) w' ∧ w.grownBy w' (some b) := by
  obtain ⟨hp, _, _, _, k, hk, j1, j2, ha⟩ := rankB_true hr
  obtain rfl : j = k := by omega
  clear hr hk
  have hlt := hm.lt
  have hlen := ppL_len j1
  have HP := Lib.hid hp
  have HA := Lib.hid ha
  clear hp
  refine (callsIn_wide (n := 9)).1 ?_
  refine callsIn_of_wp_marks Try.func81 rfl trivial ?_ rfl
  simp only [Try.ntmps81, List.size_toArray, List.length_cons, List.length_nil, Nat.reduceAdd, Nat.reduceSub, Array.replicate_succ, Array.replicate_zero, List.push_toArray, List.append_toArray, List.nil_append, List.cons_append]
  gi_wp2_with fail
  refine (callsIn_wide.2 (primePowers_any j _)).mono ?_
  rintro e w1 ⟨rfl, rfl⟩
  gi_wp2_with fail
  refine wpIn_rangeFunc_counted_map (P := Try.prog) rfl (by omega) (gf := 92) (lb := #[.pointer (some ⟨w.heap.size + 1, 0, none⟩)]) rfl trivial (enters_of Try.func92 (by kernel_rfl) rfl)
    (primePowers_counted 8 (by omega) j (w.heap.size + 1) _ j1 (by omega)) (Below.refl _ _) (fun _ => rfl)
    (fun k W => Memo p q K B b (n + k) W ∧ NumBox w.heap.size (rankN p q (ppK j k) : Nat) W ∧ W.cell? ⟨w.heap.size + 1, 0, none⟩ = some (.int .i64 j) ∧ w.grownBy W (some b))
    (fun _ _ _ => False) ?own (fun _ _ _ _ _ h _ _ => h) (fun _ _ h => h.2.2.1) ?start
    (fun k => { tmps := #[.int .i64 j, .pointer (some ⟨K, 0, none⟩), .pointer (some ⟨B, 0, none⟩), undef, .int .i64 0, .pointer (some ⟨w.heap.size, 0, none⟩), .int .i64 ((ppL j).getD k 0 : Nat), undef, undef, .int .i64 j, .func (.func 92) #[] #[.pointer (some ⟨w.heap.size + 1, 0, none⟩)], .int .i64 ((ppL j).getD k 0 : Nat), undef, undef, undef, undef, undef, undef, undef, undef, undef, undef, undef, undef, undef, undef, undef, undef, undef, undef, undef], defers := [] })
    ?assign ?body ?done (fun _ _ _ _ _ _ h _ => h.elim)
  case own =>
    rintro k A V row ⟨x0, x1, x2, x3⟩ hg hr
    have hr' := fun r e => (hr r e).2
    have hge : ∀ r, row = some r → w.heap.size + 1 + 1 ≤ r := fun r e => by have := (hr r e).1; simpa using this
    exact ⟨x0.kept hg hr' (fun e => by have := hge b e.symm; omega), x1.kept hg hr', cell_kept x2 hg hr', x3.andThen hg (fun r e => .inl (by have := hge r e; omega))⟩
  case start =>
    have hL : Below w.heap.size w ((w.alloc (.cells #[.int .i64 1] 3)).alloc (.cells #[.int .i64 (j : Int)] 3)) := by
      (repeat (first | exact Below.refl _ _ | refine Below.setCell ?_ (by first | omega | (simp <;> omega)) _ | refine Below.alloc ?_ (by first | omega | (simp <;> omega)) _ | refine Below.drew ?_ | refine Below.trans ?_ (Below.mono (by assumption) (by first | omega | (simp <;> omega))) | refine Below.grown ?_ (by assumption) (by first | omega | (simp <;> omega)) (fun k e => by cases e; first | omega | (simp <;> omega))))
    refine ⟨hm.below hL, ⟨?_, ?_⟩, ?_, (grown_below hL).but _⟩
    · rw [ppK_zero, rankN_one]; go_simp
    · go_simp
    · go_simp
  case assign =>
    intro l k W K hK
    gi_wp2
    exact hK
  case body =>
    rintro l k W hk ⟨hmW, hbx, hmb, hgW⟩
    obtain ⟨s1, s2, s3, s4, s5, s6⟩ := pp_step j1 hk
    have HRK := Lib.hid (rank_pp (p := p) j1 HA.out hk)
    have hxj : (ppL j).getD k 0 ≤ j := Nat.le_of_dvd j1 s4
    have hKj : ppK j k ≤ j := Nat.le_of_dvd j1 s6
    have hK1 : 1 ≤ ppK j k := Nat.pos_of_dvd_of_pos s6 j1
    obtain ⟨R1, R2⟩ := rank_bd (p := p) hK1 (by omega) (HA.out.of_nat_dvd s6)
    obtain ⟨Y1, Y2⟩ := rank_bd (p := p) (show 1 ≤ (ppL j).getD k 0 by omega) (by omega) (HA.out.of_nat_dvd s4)
    have HAX := Lib.hid (HA.out.of_nat_dvd s4)
    clear s1 s2 s4 s5 s6
    try dsimp only
    obtain ⟨x, hx⟩ : ∃ x, (ppL j).getD k 0 = x := ⟨_, rfl⟩
    rw [hx] at HRK hxj Y1 Y2 HAX s3 ⊢
    obtain ⟨R, hR⟩ : ∃ R, rankN p q (ppK j k) = R := ⟨_, rfl⟩
    rw [hR] at HRK R1 R2 hbx
    have HL := Lib.hid (show ((Nat.lcm R (rankN p q x) : Nat) : Int) = (rankN p q (ppK j (k + 1)) : Nat) by rw [HRK.out])
    have hx9 : x ≤ 1000000000 := by omega
    have hsz := hgW.size
    have HM := Lib.hid hmW
    have HX := Lib.hid hbx
    have HG := Lib.hid hgW
    have HJ := Lib.hid hmb
    obtain ⟨⟨x1, x2, x3⟩, D, x4, x5⟩ := hmW
    obtain ⟨y1, y2⟩ := hbx
    clear hgW hmb HRK hx hR hKj hK1
    gi_wp2_with (gi_at_lookup; refine wpListIn_lookup_own_ok_int _ rfl _ _ 86 rfl 3 3 .i64 intKeyed Try.underlying86 Try.underlying3 (intZero _) b _ D rfl x5 _ _ rfl (intKey hx9) ?_)
    intro c hat hwc
    clear hat hwc
    cases hh : Maps.has D (.int .i64 (x : Int)) with
    | true =>
      gi_wp2_with (gi_at_lookup; refine wpListIn_lookup_own_int _ rfl _ _ 86 rfl 3 3 .i64 intKeyed Try.underlying86 Try.underlying3 (intZero _) b _ D rfl x5 _ _ rfl (intKey hx9) ?_)
      intro c2 hat2 hwc2
      rw [x4 x hh] at hat2
      injection hat2 with hat2
      injection hat2 with _ hat2
      subst hat2
      gi_wp2_with fail
      refine (CallsIn.inRound l (callsIn_wide.2 (leastMultiple_at _ _ _ _ R1 Y1 (by omega) (by omega) HL.out))).mono ?_
      rintro e w7 ⟨rfl, hh7⟩
      have z1 := cell_below hh7 y1
      have z2 := frozen_below hh7 y1 y2
      have HH7 := Lib.hid hh7
      clear hh7 x1 x2 x3 y1 y2
      gi_wp2
      refine ⟨keepsOthers_recs ((keepsOthers_below HH7.out).trans (KeepsOthers.setCell _ _ _)), ((HM.out.below HH7.out).set hlt.1 hlt.2.1 hlt.2.2 _ _).mono (by omega), (HX.out.below HH7.out).set _, (set_other (by omega)).trans (cell_below HH7.out HJ.out), grown_num (grown_then HG.out HH7.out) (Nat.le_refl _) _ _⟩
    | false =>
      obtain ⟨S, hSd⟩ : ∃ S : World → Prop, (fun V => Below W.heap.size W V) = S := ⟨_, rfl⟩
      have hkeep : ∀ V V' : World, S V → Below V.heap.size V V' → S V' := by rw [← hSd]; exact fun V V' h hb => h.trans (hb.mono h.size)
      have g1 : ∀ i : KeptBy S, i.world.cell? ⟨K, 0, none⟩ = some (.map (some b)) := by rw [← hSd]; exact fun i => cell_below i.ok x1
      have g2 : ∀ i : KeptBy S, i.world.cell? ⟨B, 0, none⟩ = some (.int .i64 p) := by rw [← hSd]; exact fun i => cell_below i.ok x2
      have g3 : ∀ i : KeptBy S, i.world.cell? ⟨B, 1, none⟩ = some (.int .i64 q) := by rw [← hSd]; exact fun i => cell_below i.ok x3
      have g5 : Nonempty (KeptBy S) := ⟨⟨W.drew, by rw [← hSd]; exact (Below.refl _ _).drew⟩⟩
      gi_wp2_with fail
      refine wpIn_region_last_at (S := S) 5 rfl (by rw [← hSd]; exact (Below.refl _ _).drew) rfl (by kernel_rfl) (by kernel_rfl) (by kernel_rfl) (by kernel_rfl) rfl ?_
      simp only [List.take_succ_cons, List.take_zero, List.cons_append, List.nil_append, idle]
      repeat (gi_big_quiet_step ((first | (gi_at_call 83; refine (callsIn_wide.2 (firstNought_at p q x _ HP.out (by omega) (by omega) HAX.out)).mono ?_; rintro e w' ⟨rfl, hhw⟩; exact ⟨rfl, ⟨w', hkeep _ _ (KeptBy.ok _) hhw⟩, rfl⟩) | fail)))
      refine wpQuietIn_nil ?_
      intro z hz
      rw [← hSd] at hz
      have bz : Below W.heap.size W z := hz
      clear hz g1 g2 g3 g5 hkeep hSd
      gi_at_mapUpdate
      refine wpListIn_mapUpdate_own _ rfl _ _ _ 86 rfl 3 3 intKeyed Try.underlying86 _ b (n + k) D rfl (x5.kept (grown_below bz) (fun e => by cases e)) (by unfold maxLen; omega) _ _ _ rfl rfl (intKey hx9) _ [] (intElem (j := rankN p q x) (by omega)) ?_
      intro w4 hown4 hgrow4
      have hmz := (HM.out.below bz).isMap
      obtain ⟨es, c9, hes⟩ := hmz
      have u1 : w4.cell? ⟨K, 0, none⟩ = some (.map (some b)) := hgrow4.cell (cell_below bz x1) (cells_map (cell_below bz x1) hes)
      have u2 : w4.cell? ⟨B, 0, none⟩ = some (.int .i64 p) := hgrow4.cell (cell_below bz x2) (cells_map (cell_below bz x2) hes)
      have u3 : w4.cell? ⟨B, 1, none⟩ = some (.int .i64 q) := hgrow4.cell (cell_below bz x3) (cells_map (cell_below bz x3) hes)
      have v1 : w4.cell? ⟨w.heap.size, 0, none⟩ = some (.int .i64 R) := hgrow4.cell (cell_below bz y1) (cells_map (cell_below bz y1) hes)
      have v2 : w4.frozen? ⟨w.heap.size, 0, none⟩ = false := (hgrow4.frozen_far ⟨w.heap.size, 0, none⟩ (World.block_lt_of_cell? _ _ (cell_below bz y1)) (cells_map (cell_below bz y1) hes)).trans (frozen_below bz y1 y2)
      have v3 : w4.cell? ⟨w.heap.size + 1, 0, none⟩ = some (.int .i64 j) := hgrow4.cell (cell_below bz HJ.out) (cells_map (cell_below bz HJ.out) hes)
      have ok4 := x4.put x5.isMap x
      have has4 : Maps.has (D.put (.int .i64 (x : Int)) (.lit (.int .i64 (rankN p q x : Nat)))) (.int .i64 (x : Int)) = true := Maps.has_put_same x5.isMap (show WideAt.IsKeyLit (Lit.int .i64 (x : Int)) from trivial) _
      have HM4 := Lib.hid (show Memo p q K B b (n + k + 1) w4 from ⟨⟨u1, u2, u3⟩, _, ok4, hown4⟩)
      have HG4 := Lib.hid ((grown_then HG.out bz).trans hgrow4)
      have HK4 := Lib.hid ((keepsOthers_recs (keepsOthers_below bz)).trans (KeepsRecs.map hgrow4 ⟨es, c9, hes⟩))
      have V3 := Lib.hid v3
      clear hgrow4 bz x1 x2 x3 y1 y2 u2 u3 hes x5 v3
      gi_wp2_with (gi_at_lookup; refine wpListIn_lookup_own_int _ rfl _ _ 86 rfl 3 3 .i64 intKeyed Try.underlying86 Try.underlying3 (intZero _) b _ _ rfl hown4 _ _ rfl (intKey hx9) ?_)
      intro c2 hat2 hwc2
      rw [ok4 x has4] at hat2
      injection hat2 with hat2
      injection hat2 with _ hat2
      subst hat2
      gi_wp2_with fail
      refine (CallsIn.inRound l (callsIn_wide.2 (leastMultiple_at _ _ _ _ R1 Y1 (by omega) (by omega) HL.out))).mono ?_
      rintro e w7 ⟨rfl, hh7⟩
      have z1 := cell_below hh7 v1
      have z2 := frozen_below hh7 v1 v2
      have HH7 := Lib.hid hh7
      have VB := Lib.hid (show NumBox w.heap.size R w4 from ⟨v1, v2⟩)
      clear hh7 u1 v1 v2
      gi_wp2
      refine ⟨HK4.out.trans (keepsOthers_recs ((keepsOthers_below HH7.out).trans (KeepsOthers.setCell _ _ _))), ((HM4.out.below HH7.out).set hlt.1 hlt.2.1 hlt.2.2 _ _).mono (by omega), (VB.out.below HH7.out).set _, (set_other (by omega)).trans (cell_below HH7.out V3.out), grown_num (grown_then HG4.out HH7.out) (Nat.le_refl _) _ _⟩
  case done =>
    rintro E W hE ⟨hmW, hbx, hmb, hgW⟩ hK
    rw [ppK_all j1] at hbx
    have HM := Lib.hid hmW
    have HG := Lib.hid hgW
    have HK := Lib.hid hK
    have HE := Lib.hid hE
    obtain ⟨y1, y2⟩ := hbx
    clear hmW hgW hK hE hmb
    gi_wp2
    refine ⟨by simp, .inl ⟨_, _, rfl, run_takeDeferred HK.out, ?_⟩⟩
    have hE' : w.heap.size + 1 + 1 ≤ E := by have := HE.out; simpa using this
    exact ⟨_, by simp [results, Try.results81, go_sem], rfl, (HM.out.kept (grownBy_putObj' _ E (.deferred none)) (fun r e => by cases e; exact ⟨_, HK.out, rfl⟩) (fun e => by injection e with e; omega)).mono (by omega), HG.out.andThen (grownBy_putObj' _ E (.deferred none)) (fun r e => by cases e; exact .inl (by omega))⟩
end Go.Proofs.Ytmliglakfbeedaa
namespace Go.Proofs.Ytmliglakfbeedaa
open Go.RowKit
theorem Memo.far {p q : Int} {K B b n : Nat} {A V : World} {row : Option Nat} (h : Memo p q K B b n A) (hg : A.grownBy V row) (h1 : some K ≠ row) (h2 : some B ≠ row) (h3 : some b ≠ row) : Memo p q K B b n V := by
  obtain ⟨⟨x1, x2, x3⟩, D, x4, x5⟩ := h
  exact ⟨⟨hg.cell x1 h1, hg.cell x2 h2, hg.cell x3 h2⟩, D, x4, x5.kept hg h3⟩
set_option maxHeartbeats 2000000 in
theorem implRank_any (p q m : Int) (w : World) : Calls Try.prog 25 #[pr p q, .int .i64 m] w fun e w' => e = .returned (.tuple #[.int .i64 (rankV p q m), .bool (rankB p q m)]) ∧ Below w.heap.size w w' := by
  cases h : rankB p q m with
  | false =>
    have HB := Lib.hid h
    have HV := Lib.hid (show rankV p q m = -1 by rw [rankV, if_neg (by simp [h])])
    clear h
    go_enter Try.func25, Try.ntmps25
    go_wp2_with fail
    refine (rankedOk_is p q m false _ HB.out).mono ?_
    rintro e w1 ⟨rfl, hh1⟩
    obtain ⟨hc1, hf1⟩ := bcell hh1
    have hz1 := hh1.size
    try simp only [World.size_alloc] at hz1
    have hz1_0 : w.heap.size < w1.heap.size := by omega
    have kb1_0_0 : w1.cell? ⟨w.heap.size, 0, none⟩ = some (.int .i64 p) := by go_simp
    have kf1_0_0 : w1.frozen? ⟨w.heap.size, 0, none⟩ = false := by go_simp
    have kb1_0_1 : w1.cell? ⟨w.heap.size, 1, none⟩ = some (.int .i64 q) := by go_simp
    have kf1_0_1 : w1.frozen? ⟨w.heap.size, 1, none⟩ = false := by go_simp
    clear hc1 hf1
    go_wp2
    go_ret2
    exact ⟨ret_int_bool HV.out.symm rfl, by (repeat (first | exact Below.refl _ _ | refine Below.setCell ?_ (by first | omega | (simp <;> omega)) _ | refine Below.alloc ?_ (by first | omega | (simp <;> omega)) _ | refine Below.drew ?_ | refine Below.trans ?_ (Below.mono (by assumption) (by first | omega | (simp <;> omega))) | refine Below.grown ?_ (by assumption) (by first | omega | (simp <;> omega)) (fun k e => by cases e; first | omega | (simp <;> omega))))⟩
  | true =>
    obtain ⟨_, _, _, _, k, rfl, _, _, _⟩ := rankB_true h
    have HB := Lib.hid h
    have HV := Lib.hid (rankV_is h)
    clear h
    go_enter Try.func25, Try.ntmps25
    go_wp2_with fail
    refine (rankedOk_is p q k true _ HB.out).mono ?_
    rintro e w1 ⟨rfl, hh1⟩
    obtain ⟨hc1, hf1⟩ := bcell hh1
    have hz1 := hh1.size
    try simp only [World.size_alloc] at hz1
    have hz1_0 : w.heap.size < w1.heap.size := by omega
    have kb1_0_0 : w1.cell? ⟨w.heap.size, 0, none⟩ = some (.int .i64 p) := by go_simp
    have kf1_0_0 : w1.frozen? ⟨w.heap.size, 0, none⟩ = false := by go_simp
    have kb1_0_1 : w1.cell? ⟨w.heap.size, 1, none⟩ = some (.int .i64 q) := by go_simp
    have kf1_0_1 : w1.frozen? ⟨w.heap.size, 1, none⟩ = false := by go_simp
    clear hc1 hf1
    go_wp2_with fail
    refine (ranksBy_any p q _).mono ?_
    rintro e w2 ⟨rfl, hm2, hh2⟩
    obtain ⟨hc2, hf2⟩ := bcell hh2
    have hz2 := hh2.size
    try simp only [World.size_alloc] at hz2
    go_wp2_with fail
    refine (ranksFn_at p q k _ _ _ 0 _ HB.out hm2 (by omega)).mono ?_
    rintro e w3 ⟨rfl, _, hg3⟩
    go_wp2
    go_ret2
    exact ⟨ret_int_bool HV.out.symm rfl, by (repeat (first | exact Below.refl _ _ | refine Below.setCell ?_ (by first | omega | (simp <;> omega)) _ | refine Below.alloc ?_ (by first | omega | (simp <;> omega)) _ | refine Below.drew ?_ | refine Below.trans ?_ (Below.mono (by assumption) (by first | omega | (simp <;> omega))) | refine Below.grown ?_ (by assumption) (by first | omega | (simp <;> omega)) (fun k e => by cases e; first | omega | (simp <;> omega))))⟩
theorem implRank_val (p q m v : Int) (c : Bool) (w : World) (hv : rankV p q m = v) (hc : rankB p q m = c) : Calls Try.prog 25 #[pr p q, .int .i64 m] w fun e w' => e = .returned (.tuple #[.int .i64 v, .bool c]) ∧ Below w.heap.size w w' := by rw [← hv, ← hc]; exact implRank_any p q m w
theorem sameL_none {p q n : Int} (h : pairB p q = false) : sameL p q n = [] := by
  rw [sameL]
  split
  · rw [holdL, List.filter_eq_nil_iff]
    intro j _
    simp [sameB, rankB, h]
  · rfl
end Go.Proofs.Ytmliglakfbeedaa
namespace Go.Proofs.Ytmliglakfbeedaa
open Go.RowKit
theorem implRank_is (p q m v : Int) (c : Bool) (w : World) (hv : rankV p q m = v) (hc : rankB p q m = c) : Calls Try.prog 25 #[pr p q, .int .i64 m] w fun e w' => e = .returned (.tuple #[.int .i64 v, .bool c]) ∧ Below w.heap.size w w' := by rw [← hv, ← hc]; exact implRank_any p q m w
/-- At a place a number with a rank divides just if its rank divides the place. -/
theorem divides_left {p q : Int} {k : Nat} (h : rankB p q k = true) (hk : 1 ≤ k) (ha : Apart (k : Int) q) (t : Nat) (ht : t ≤ 1000000000) : dividesB p q k t = (row p q 0 1 t % (k : Int) == 0) := by
  rw [Bool.eq_iff_iff, left_zero_iff, rankN_dvd k hk ha]
  simp [dividesB, h, inB_mk (n := (t : Int)) (a := 0) (b := 1000000000) (by omega) (by omega)]
end Go.Proofs.Ytmliglakfbeedaa
namespace Go.Proofs.Ytmliglakfbeedaa
open Go.RowKit
theorem implPrime_is (n : Int) (c : Bool) (w : World) (h : primeB n = c) : Calls Try.prog 20 #[.int .i64 n] w fun e w' => e = .returned (.bool c) ∧ Below w.heap.size w w' := by rw [← h]; exact implPrime_any n w
theorem implSquare_is (n p v : Int) (c : Bool) (w : World) (hv : squareV n p = v) (hc : squareB n p = c) : Calls Try.prog 15 #[.int .i64 n, .int .i64 p] w fun e w' => e = .returned (.tuple #[.int .i64 v, .bool c]) ∧ Below w.heap.size w w' := by rw [← hv, ← hc]; exact implSquare_any n p w
theorem implFitting_is (p q l : Int) (c : Bool) (w : World) (h : fittingB p q l = c) : Calls Try.prog 24 #[pr p q, .int .i64 l] w fun e w' => e = .returned (.bool c) ∧ Below w.heap.size w w' := by rw [← h]; exact implFitting_any p q l w
theorem implPlaceBy_is (p q m v : Int) (c : Bool) (w : World) (hv : placeByV p q m = v) (hc : fittingB p q m = c) : Calls Try.prog 60 #[pr p q, .int .i64 m] w fun e w' => e = .returned (.tuple #[.int .i64 v, .bool c]) ∧ Below w.heap.size w w' := by rw [← hv, ← hc]; exact implPlaceBy_any p q m w
theorem implWeight_val (p q v : Int) (w : World) (h : pairB p q = true) (hv : weightV p q = v) : Calls Try.prog 26 #[pr p q] w fun e w' => e = .returned (.tuple #[.int .i64 v, .bool true]) ∧ Below w.heap.size w w' := by subst hv; exact implWeight_yes p q w h
theorem two_prime : primeB 2 = true := by decide +kernel
/-- A prime that does not divide a number has nothing in common with it. -/
theorem prime_apart {m : Nat} (hm : m ∈ primes400) {q : Int} (h : ¬ (m : Int) ∣ q) : Apart (m : Int) q := by
  obtain ⟨m1, m2, m3⟩ := prime_mem.1 hm
  refine apart_gcd.1 ?_
  obtain ⟨g, hg⟩ : ∃ g, Int.gcd (m : Int) q = g := ⟨_, rfl⟩
  have hgm : g ∣ m := by rw [← hg]; exact Int.natCast_dvd_natCast.1 (Int.gcd_dvd_left ..)
  have hgq : (g : Int) ∣ q := by rw [← hg]; exact Int.gcd_dvd_right ..
  rw [hg]
  have hpos : 1 ≤ g := Nat.pos_of_dvd_of_pos hgm (by omega)
  have hle : g ≤ m := Nat.le_of_dvd (by omega) hgm
  rcases Nat.eq_or_lt_of_le hle with rfl | hlt
  · exact absurd hgq h
  · rcases Nat.lt_or_ge g 2 with h2 | h2
    · omega
    · exact absurd (Nat.mod_eq_zero_of_dvd hgm) (m3 g h2 hlt)
end Go.Proofs.Ytmliglakfbeedaa
namespace Go.Proofs.Ytmliglakfbeedaa
open Go.RowKit
/-- Beside a prime that fits it divides the row, by the sign of the weight. -/
theorem place_by {p q : Int} {m : Nat} (h : fittingB p q m = true) : (signN (p * p - 4 * q) m = 1 ∧ row p q 0 1 (m - 1) % (m : Int) = 0) ∨ (signN (p * p - 4 * q) m = -1 ∧ row p q 0 1 (m + 1) % (m : Int) = 0) := by
  obtain ⟨hp, hq, ⟨m', he, hm, m1, m2⟩, h1, h2⟩ := fittingB_true h
  obtain rfl : m = m' := by omega
  obtain ⟨⟨r1, r2⟩, r3, r4⟩ := pairB_true hp
  have hb := beside hm (by omega) r1 r2 r3 r4 (fun hd => h1 (Int.dvd_of_emod_eq_zero hd)) (fun hd => h2 (Int.dvd_of_emod_eq_zero hd))
  have he := euler hm (by omega) (p * p - 4 * q)
  obtain ⟨s1, s2⟩ := signN_bd (p * p - 4 * q) m
  have h0 : signN (p * p - 4 * q) m ≠ 0 := by
    rw [signN, if_neg (fun hd => h2 (Int.dvd_of_emod_eq_zero hd))]
    split <;> omega
  generalize signN (p * p - 4 * q) m = s at he s1 s2 h0 ⊢
  rcases (show s = 1 ∨ s = -1 by omega) with rfl | rfl
  · left
    refine ⟨rfl, ?_⟩
    rcases hb with ⟨_, hr⟩ | ⟨hp2, _⟩
    · exact hr
    · rw [hp2, Int.add_emod_right, Int.emod_eq_of_lt (by omega) (by omega)] at he
      omega
  · right
    refine ⟨rfl, ?_⟩
    rcases hb with ⟨hp2, _⟩ | ⟨_, hr⟩
    · rw [hp2, Int.emod_eq_of_lt (by omega) (by omega)] at he
      omega
    · exact hr
theorem fitting_ranked {p q : Int} {m : Nat} (h : fittingB p q m = true) : rankB p q m = true := by
  obtain ⟨hp, hq, ⟨m', he, hm, m1, m2⟩, h1, h2⟩ := fittingB_true h
  obtain rfl : m = m' := by omega
  exact rankB_mk hp hq (by omega) m2 (prime_apart hm h1)
end Go.Proofs.Ytmliglakfbeedaa
namespace Go.Proofs.Ytmliglakfbeedaa
open Go.RowKit
theorem second_two (p q : Int) : row p q 2 p 2 % 2 = p % 2 := by
  have h1 : row p q 2 p 2 = p * p - 2 * q := by simp [row]; omega
  rw [h1, Int.sub_emod, Int.mul_emod_right, Int.sub_zero, Int.emod_emod, Int.mul_emod]
  rcases (show p % 2 = 0 ∨ p % 2 = 1 by omega) with h | h <;> simp [h]
/-- At a prime the second row leaves P. -/
theorem at_second {m : Nat} (hm : m ∈ primes400) {p q : Int} (hp : pairB p q = true) : row p q 2 p m % (m : Int) = p % (m : Int) := by
  obtain ⟨⟨r1, r2⟩, r3, r4⟩ := pairB_true hp
  by_cases h2 : m = 2
  · subst h2; exact second_two p q
  · exact (at_prime hm h2 r1 r2 r3 r4).2
theorem at_first {m : Nat} (hm : m ∈ primes400) (h2 : m ≠ 2) {p q : Int} (hp : pairB p q = true) : row p q 0 1 m % (m : Int) = (signN (p * p - 4 * q) m + m) % (m : Int) := by
  obtain ⟨⟨r1, r2⟩, r3, r4⟩ := pairB_true hp
  rw [(at_prime hm h2 r1 r2 r3 r4).1, euler hm h2]
end Go.Proofs.Ytmliglakfbeedaa
namespace Go.Proofs.Ytmliglakfbeedaa
open Go.RowKit
theorem implSign_is (n b v : Int) (c : Bool) (w : World) (hv : signOfV n b = v) (hc : signB n b = c) : Calls Try.prog 12 #[.int .i64 n, .int .i64 b] w fun e w' => e = .returned (.tuple #[.int .i64 v, .bool c]) ∧ Below w.heap.size w w' := by rw [← hv, ← hc]; exact implSign_any n b w
theorem implPassSecond_is (p q l : Int) (c : Bool) (w : World) (h : passSecondB p q l = c) : Calls Try.prog 17 #[pr p q, .int .i64 l] w fun e w' => e = .returned (.bool c) ∧ Below w.heap.size w w' := by rw [← h]; exact implPassSecond_any p q l w
theorem second_prime {p q : Int} {m : Nat} (hp : pairB p q = true) (hm : m ∈ primes400) : passSecondB p q m = true := by
  obtain ⟨m1, m2, _⟩ := prime_mem.1 hm
  have h := at_second hm hp
  rw [passSecondB, hp, inB_mk (show (2 : Int) ≤ (m : Int) by omega) (by omega)]
  simp [h]
theorem second_seven : passSecondB 1 (-1) 7 = true := by decide +kernel
theorem first_seven : passFirstB 1 (-1) 7 = true := by decide +kernel
/-- Primes that fit pass the first row. -/
theorem first_fits {p q : Int} {m : Nat} (h : fittingB p q m = true) : passFirstB p q m = true := by
  obtain ⟨hp, hq, ⟨m', he, hm, m1, m2⟩, h1, h2⟩ := fittingB_true h
  obtain rfl : m = m' := by omega
  obtain ⟨k1, k2, k3⟩ := prime_mem.1 hm
  have hodd : m % 2 = 1 := by
    have := k3 2 (by omega) (by omega)
    omega
  rw [passFirstB_mk hp hq (by omega) (by omega) hodd (apart_gcd.2 (prime_apart hm h1)) (apart_gcd.2 (prime_apart hm h2)), beq_iff_eq, besideN, sign_same hm (by omega)]
  rcases place_by h with ⟨hs, hr⟩ | ⟨hs, hr⟩
  · rw [hs, show ((m : Int) - 1).toNat = m - 1 by omega]; exact hr
  · rw [hs, show ((m : Int) - -1).toNat = m + 1 by omega]; exact hr
/-- What passes, and has a rank: the rank divides the place. -/
theorem first_rank {p q : Int} {m : Nat} (h : passFirstB p q m = true) (hr : rankB p q m = true) : rankN p q m ∣ besideN p q m := by
  obtain ⟨m', he, _, _, _, _, _, _, _, h0⟩ := passFirstB_true h
  obtain rfl : m = m' := by omega
  obtain ⟨_, _, _, _, k, hk, k1, k2, ha⟩ := rankB_true hr
  obtain rfl : m = k := by omega
  exact (rankN_dvd (p := p) m k1 ha _).1 (Int.dvd_of_emod_eq_zero h0)
/-- The reckoning of what passes, by doubling. -/
def passFirstF (p q : Int) (m : Nat) : Bool := pairB p q && (decide (q ≠ 0) && (decide (3 ≤ m) && (decide (m % 2 = 1) && (decide (Int.gcd m q = 1) && (decide (Int.gcd m (p * p - 4 * q) = 1) && ((fastL p q m 10 (besideN p q m)).1 == 0))))))
theorem passFirst_fast (p q : Int) (m : Nat) (hm : m ≤ 1000) : passFirstB p q m = passFirstF p q m := by
  by_cases h3 : 3 ≤ m
  · have hb := (beside_is (p := p) (q := q) (m := m) h3).2.1
    rw [passFirstF, fastL_is p q m 10 _ (by omega)]
    have e1 : decide ((m : Int) % 2 ≠ 0) = decide (m % 2 = 1) := decide_eq_decide.2 (by omega)
    rw [passFirstB, inB_mk (show (3 : Int) ≤ (m : Int) by omega) (by omega), e1]
    simp [h3]
  · have e1 : inB (m : Int) 3 10000 = false := inB_no (by omega)
    simp [passFirstB, passFirstF, e1, h3]
theorem passing_fast : holdL (fun j => passFirstF 1 (-1) j && !prime8B j) 331 = [323] := by decide +kernel
theorem passing_330 : passingL 1 (-1) 330 = [323] := by
  rw [passingL, if_pos (by decide), show (330 : Int).toNat + 1 = 331 from rfl, ← passing_fast]
  refine List.filter_congr fun j hj => ?_
  have : j < 331 := by simpa using hj
  rw [passingB, passFirst_fast 1 (-1) j (by omega)]
/-- What a list of what passes keeps. -/
def PassingOk (p q : Int) (L : List Nat) : Prop :=
  L.length ≤ 1001 ∧ (∀ i, i < L.length → 3 ≤ L.getD i 0 ∧ L.getD i 0 ≤ 1000 ∧ passFirstB p q (L.getD i 0 : Nat) = true ∧ prime8B (L.getD i 0) = false) ∧ (∀ i, i + 1 < L.length → L.getD i 0 < L.getD (i + 1) 0)
theorem passingL_ok (p q n : Int) : PassingOk p q (passingL p q n) := by
  refine ⟨passingL_len p q n, ?_, ?_⟩
  · intro i h
    rw [passingL] at h ⊢
    split at h
    · rename_i h9
      rw [if_pos h9]
      obtain ⟨h1, h2⟩ := hold_at (passingB p q) (n.toNat + 1) i h
      generalize (holdL (passingB p q) (n.toNat + 1)).getD i 0 = x at h1 h2 ⊢
      have h3 : 3 ≤ x := by
        rcases Nat.lt_or_ge x 3 with h' | h'
        · rw [passing_small h'] at h2; cases h2
        · exact h'
      have h4 : passFirstB p q x = true ∧ prime8B x = false := by simpa [passingB] using h2
      exact ⟨h3, by omega, h4.1, h4.2⟩
    · simp at h
  · intro i h
    rw [passingL] at h ⊢
    split at h
    · rename_i h9
      rw [if_pos h9]
      exact hold_lt _ _ _ _ (by omega) h
    · simp at h
end Go.Proofs.Ytmliglakfbeedaa
namespace Go.Proofs.Ytmliglakfbeedaa
open Go.RowKit
set_option maxRecDepth 100000 in
set_option maxHeartbeats 8000000 in
theorem fnSignOf_walk (a : Option Addr) (len cap : Nat) (z : List Int) (w : World) (w0 : IsRow w a len cap z) :
    Calls Try.prog 3 #[.slice a len cap] w fun e w' => e = .returned (.bool true) ∧ Below w.heap.size w w' := by
  by_cases hbig : 1048576 < len
  · go_enter Try.func3, Try.ntmps3
    go_wp2
    go_ret
    exact ⟨rfl, Below.refl _ _⟩
  · have hsm : len ≤ 1048576 := by omega
    go_enter Try.func3, Try.ntmps3
    go_wp2_with fail
    refine (drawSignOf_any _ _ _ _ z w0).mono ?_
    rintro e w1 ⟨n, b, rfl, hb9, hh1⟩
    have hz1 := hh1.size
    obtain ⟨hc1, hf1⟩ := bcell hh1
    cases hsb : signB n b with
    | false =>
      have HV := Lib.hid (signOfV_no hsb)
      have HB := Lib.hid hsb
      clear hsb
      go_wp2_with fail
      refine (implSign_is n b 0 false _ HV.out HB.out).mono ?_
      rintro e w2 ⟨rfl, hh2⟩
      obtain ⟨hc2, hf2⟩ := bcell hh2
      have hz2 := hh2.size
      try simp only [World.size_alloc] at hz2
      clear hc2 hf2
      go_wp2_with fail
      refine (specSign_is n b 0 false _ HV.out HB.out).mono ?_
      rintro e wx ⟨rfl, rfl⟩
      go_wp2_with fail
      refine (alive_any _).mono ?_
      rintro e w3 ⟨rfl, hh3⟩
      obtain ⟨hc3, hf3⟩ := bcell hh3
      have hz3 := hh3.size
      try simp only [World.size_alloc] at hz3
      clear hc3 hf3
      go_wp2
      go_ret
      exact ⟨rfl, by (repeat (first | exact Below.refl _ _ | refine Below.setCell ?_ (by first | omega | (simp <;> omega)) _ | refine Below.alloc ?_ (by first | omega | (simp <;> omega)) _ | refine Below.drew ?_ | refine Below.trans ?_ (Below.mono (by assumption) (by first | omega | (simp <;> omega))) | refine Below.grown ?_ (by assumption) (by first | omega | (simp <;> omega)) (fun k e => by cases e; first | omega | (simp <;> omega))))⟩
    | true =>
      obtain ⟨m, rfl, m1, m2, m3, n1, n2⟩ := signB_true hsb
      have m7 : m ≤ 407 := by omega
      have HV0 := signOfV_is hsb
      have HB := Lib.hid hsb
      have hs3 := signV_cases n m
      have hv3 := signV_cases 5 m
      have h5m := sign_five m3 m7 n
      have hz := sign_zero m3 m7 n
      have hsq := fun (hm : m ∈ primes400) (h2 : m ≠ 2) => sign_same hm h2 n
      obtain ⟨s, hs⟩ : ∃ s, signV n m = s := ⟨_, rfl⟩
      obtain ⟨v5, hv5⟩ : ∃ v5, signV 5 m = v5 := ⟨_, rfl⟩
      obtain ⟨g, hg⟩ : ∃ g, Int.gcd n m = g := ⟨_, rfl⟩
      rw [hs] at hs3 h5m hz HV0 hsq
      rw [hv5] at hv3 h5m
      rw [hg] at hz
      have HZ := Lib.hid hz
      have HV := Lib.hid HV0
      have hb5 : signB 5 m = true := signB_mk m1 m2 m3 (by omega) (by omega)
      have HB5 := Lib.hid hb5
      have HV5 := Lib.hid (show signOfV 5 m = v5 by rw [signOfV_is hb5, hv5])
      have U5 : IntKind.i64.wrap (5 * n) = 5 * n := by rw [IntKind.wrap_i64]; omega
      obtain ⟨t, ht⟩ : ∃ t, n.natAbs = t := ⟨_, rfl⟩
      have HG := Lib.hid (show Nat.gcd m t = g by rw [← hg, ← ht, Nat.gcd_comm]; rfl)
      have t9 : t ≤ 10000 := by omega
      have hnt : n = (t : Int) ∨ n = -(t : Int) := by omega
      have hss : (s == s) = true := by simp
      clear hsb hs hv5 hg hz HV0 hb5 ht
      go_wp2_with fail
      refine (implSign_is n m s true _ HV.out HB.out).mono ?_
      rintro e w2 ⟨rfl, hh2⟩
      obtain ⟨hc2, hf2⟩ := bcell hh2
      have hz2 := hh2.size
      try simp only [World.size_alloc] at hz2
      clear hc2 hf2
      go_wp2_with fail
      refine (specSign_is n m s true _ HV.out HB.out).mono ?_
      rintro e wx ⟨rfl, rfl⟩
      cases hc : squareB n m with
      | true =>
        obtain ⟨m', he, hm, _, _, h2, _, _⟩ := squareB_true hc
        obtain rfl : m = m' := by omega
        have HQ := Lib.hid (show squareV n m = s by rw [squareV_is hc, hsq hm h2])
        have HQB := Lib.hid hc
        clear hc he hm hsq
        go_wp2_with fail
        refine (implSquare_is n m s true _ HQ.out HQB.out).mono ?_
        rintro e w3 ⟨rfl, hh3⟩
        obtain ⟨hc3, hf3⟩ := bcell hh3
        have hz3 := hh3.size
        try simp only [World.size_alloc] at hz3
        clear hc3 hf3
        go_wp2_with fail
        refine (implSign_is 5 m v5 true _ HV5.out HB5.out).mono ?_
        rintro e w4 ⟨rfl, hh4⟩
        obtain ⟨hc4, hf4⟩ := bcell hh4
        have hz4 := hh4.size
        try simp only [World.size_alloc] at hz4
        clear hc4 hf4
        cases h5 : signB (5 * n) m with
        | true =>
          have HC := Lib.hid h5
          have HW := Lib.hid (show signOfV (5 * n) m = s * v5 by rw [signOfV_is h5, h5m])
          have UM : IntKind.i64.wrap (s * v5) = s * v5 := by
            rw [IntKind.wrap_i64]
            rcases hs3 with h | h | h <;> rcases hv3 with h' | h' | h' <;> rw [h, h'] <;> omega
          have hme : (s * v5 == s * v5) = true := by simp
          clear h5 h5m hs3 hv3
          go_wp2_with fail
          refine (implSign_is (5 * n) m _ true _ HW.out HC.out).mono ?_
          rintro e w5 ⟨rfl, hh5⟩
          obtain ⟨hc5, hf5⟩ := bcell hh5
          have hz5 := hh5.size
          try simp only [World.size_alloc] at hz5
          clear hc5 hf5
          have UN : IntKind.i64.wrap (-n) = -n := by rw [IntKind.wrap_i64]; omega
          go_wp2_with fail
          go_loop [15, 16, 17] (fun x y _ => ∃ a b : Nat, a ≤ 10000 ∧ b ≤ 10000 ∧ x = .int .i64 a ∧ y = .int .i64 b ∧ Nat.gcd a b = g) (fun _ y _ => (intOf y).toNat)
          case atStart => exact ⟨m, t, m2, by omega, rfl, congrArg (Value.int .i64) (by omega), HG.out⟩
          case round =>
            obtain ⟨a, b, a9, b9, rfl, rfl, hg⟩ := hrel
            by_cases hb : b = 0
            · subst hb
              obtain rfl : a = g := by rw [← hg, Nat.gcd_zero_right]
              clear hg
              by_cases ha : 1 < a
              · have hai : (1 : Int) < (a : Int) := by omega
                have HS := Lib.hid (HZ.out.2 ha)
                have hs0 : (s == 0) = true := by simp [HS.out]
                go_wp2
                go_ret
                exact ⟨ret_bool (by simp), by (repeat (first | exact Below.refl _ _ | refine Below.setCell ?_ (by first | omega | (simp <;> omega)) _ | refine Below.alloc ?_ (by first | omega | (simp <;> omega)) _ | refine Below.drew ?_ | refine Below.trans ?_ (Below.mono (by assumption) (by first | omega | (simp <;> omega))) | refine Below.grown ?_ (by assumption) (by first | omega | (simp <;> omega)) (fun k e => by cases e; first | omega | (simp <;> omega))))⟩
              · have hai : (a : Int) ≤ 1 := by omega
                have hs0 : (s == 0) = false := by simpa using fun h => ha (HZ.out.1 h)
                go_wp2
                go_ret
                exact ⟨ret_bool (by simp; omega), by (repeat (first | exact Below.refl _ _ | refine Below.setCell ?_ (by first | omega | (simp <;> omega)) _ | refine Below.alloc ?_ (by first | omega | (simp <;> omega)) _ | refine Below.drew ?_ | refine Below.trans ?_ (Below.mono (by assumption) (by first | omega | (simp <;> omega))) | refine Below.grown ?_ (by assumption) (by first | omega | (simp <;> omega)) (fun k e => by cases e; first | omega | (simp <;> omega))))⟩
            · have hbi : (0 : Int) < (b : Int) := by omega
              have hbz : ((b : Int) == 0) = false := by simp; omega
              obtain ⟨c, hc⟩ : ∃ c, a % b = c := ⟨_, rfl⟩
              have hlt : c < b := by rw [← hc]; exact Nat.mod_lt _ (by omega)
              have HG2 := Lib.hid (show Nat.gcd b c = g by rw [← hc, ← hg, Nat.gcd_comm a b, Nat.gcd_rec b a, Nat.gcd_comm])
              have HM := Lib.hid (show (a : Int) % (b : Int) = (c : Int) by rw [← hc]; simp)
              clear hc hg
              go_wp2
              go_round
              case rel => exact ⟨b, c, b9, by omega, rfl, congrArg (Value.int .i64) HM.out, HG2.out⟩
              case measure => simp [intOf, HM.out]; omega
        | false =>
          have HC := Lib.hid h5
          have HW := Lib.hid (signOfV_no h5)
          clear h5 h5m hs3 hv3
          go_wp2_with fail
          refine (implSign_is (5 * n) m _ false _ HW.out HC.out).mono ?_
          rintro e w5 ⟨rfl, hh5⟩
          obtain ⟨hc5, hf5⟩ := bcell hh5
          have hz5 := hh5.size
          try simp only [World.size_alloc] at hz5
          clear hc5 hf5
          have UN : IntKind.i64.wrap (-n) = -n := by rw [IntKind.wrap_i64]; omega
          go_wp2_with fail
          go_loop [15, 16, 17] (fun x y _ => ∃ a b : Nat, a ≤ 10000 ∧ b ≤ 10000 ∧ x = .int .i64 a ∧ y = .int .i64 b ∧ Nat.gcd a b = g) (fun _ y _ => (intOf y).toNat)
          case atStart => exact ⟨m, t, m2, by omega, rfl, congrArg (Value.int .i64) (by omega), HG.out⟩
          case round =>
            obtain ⟨a, b, a9, b9, rfl, rfl, hg⟩ := hrel
            by_cases hb : b = 0
            · subst hb
              obtain rfl : a = g := by rw [← hg, Nat.gcd_zero_right]
              clear hg
              by_cases ha : 1 < a
              · have hai : (1 : Int) < (a : Int) := by omega
                have HS := Lib.hid (HZ.out.2 ha)
                have hs0 : (s == 0) = true := by simp [HS.out]
                go_wp2
                go_ret
                exact ⟨ret_bool (by simp), by (repeat (first | exact Below.refl _ _ | refine Below.setCell ?_ (by first | omega | (simp <;> omega)) _ | refine Below.alloc ?_ (by first | omega | (simp <;> omega)) _ | refine Below.drew ?_ | refine Below.trans ?_ (Below.mono (by assumption) (by first | omega | (simp <;> omega))) | refine Below.grown ?_ (by assumption) (by first | omega | (simp <;> omega)) (fun k e => by cases e; first | omega | (simp <;> omega))))⟩
              · have hai : (a : Int) ≤ 1 := by omega
                have hs0 : (s == 0) = false := by simpa using fun h => ha (HZ.out.1 h)
                go_wp2
                go_ret
                exact ⟨ret_bool (by simp; omega), by (repeat (first | exact Below.refl _ _ | refine Below.setCell ?_ (by first | omega | (simp <;> omega)) _ | refine Below.alloc ?_ (by first | omega | (simp <;> omega)) _ | refine Below.drew ?_ | refine Below.trans ?_ (Below.mono (by assumption) (by first | omega | (simp <;> omega))) | refine Below.grown ?_ (by assumption) (by first | omega | (simp <;> omega)) (fun k e => by cases e; first | omega | (simp <;> omega))))⟩
            · have hbi : (0 : Int) < (b : Int) := by omega
              have hbz : ((b : Int) == 0) = false := by simp; omega
              obtain ⟨c, hc⟩ : ∃ c, a % b = c := ⟨_, rfl⟩
              have hlt : c < b := by rw [← hc]; exact Nat.mod_lt _ (by omega)
              have HG2 := Lib.hid (show Nat.gcd b c = g by rw [← hc, ← hg, Nat.gcd_comm a b, Nat.gcd_rec b a, Nat.gcd_comm])
              have HM := Lib.hid (show (a : Int) % (b : Int) = (c : Int) by rw [← hc]; simp)
              clear hc hg
              go_wp2
              go_round
              case rel => exact ⟨b, c, b9, by omega, rfl, congrArg (Value.int .i64) HM.out, HG2.out⟩
              case measure => simp [intOf, HM.out]; omega
      | false =>
        have HQ := Lib.hid (squareV_no hc)
        have HQB := Lib.hid hc
        clear hc hsq
        go_wp2_with fail
        refine (implSquare_is n m 0 false _ HQ.out HQB.out).mono ?_
        rintro e w3 ⟨rfl, hh3⟩
        obtain ⟨hc3, hf3⟩ := bcell hh3
        have hz3 := hh3.size
        try simp only [World.size_alloc] at hz3
        clear hc3 hf3
        go_wp2_with fail
        refine (implSign_is 5 m v5 true _ HV5.out HB5.out).mono ?_
        rintro e w4 ⟨rfl, hh4⟩
        obtain ⟨hc4, hf4⟩ := bcell hh4
        have hz4 := hh4.size
        try simp only [World.size_alloc] at hz4
        clear hc4 hf4
        cases h5 : signB (5 * n) m with
        | true =>
          have HC := Lib.hid h5
          have HW := Lib.hid (show signOfV (5 * n) m = s * v5 by rw [signOfV_is h5, h5m])
          have UM : IntKind.i64.wrap (s * v5) = s * v5 := by
            rw [IntKind.wrap_i64]
            rcases hs3 with h | h | h <;> rcases hv3 with h' | h' | h' <;> rw [h, h'] <;> omega
          have hme : (s * v5 == s * v5) = true := by simp
          clear h5 h5m hs3 hv3
          go_wp2_with fail
          refine (implSign_is (5 * n) m _ true _ HW.out HC.out).mono ?_
          rintro e w5 ⟨rfl, hh5⟩
          obtain ⟨hc5, hf5⟩ := bcell hh5
          have hz5 := hh5.size
          try simp only [World.size_alloc] at hz5
          clear hc5 hf5
          have UN : IntKind.i64.wrap (-n) = -n := by rw [IntKind.wrap_i64]; omega
          go_wp2_with fail
          go_loop [15, 16, 17] (fun x y _ => ∃ a b : Nat, a ≤ 10000 ∧ b ≤ 10000 ∧ x = .int .i64 a ∧ y = .int .i64 b ∧ Nat.gcd a b = g) (fun _ y _ => (intOf y).toNat)
          case atStart => exact ⟨m, t, m2, by omega, rfl, congrArg (Value.int .i64) (by omega), HG.out⟩
          case round =>
            obtain ⟨a, b, a9, b9, rfl, rfl, hg⟩ := hrel
            by_cases hb : b = 0
            · subst hb
              obtain rfl : a = g := by rw [← hg, Nat.gcd_zero_right]
              clear hg
              by_cases ha : 1 < a
              · have hai : (1 : Int) < (a : Int) := by omega
                have HS := Lib.hid (HZ.out.2 ha)
                have hs0 : (s == 0) = true := by simp [HS.out]
                go_wp2
                go_ret
                exact ⟨ret_bool (by simp), by (repeat (first | exact Below.refl _ _ | refine Below.setCell ?_ (by first | omega | (simp <;> omega)) _ | refine Below.alloc ?_ (by first | omega | (simp <;> omega)) _ | refine Below.drew ?_ | refine Below.trans ?_ (Below.mono (by assumption) (by first | omega | (simp <;> omega))) | refine Below.grown ?_ (by assumption) (by first | omega | (simp <;> omega)) (fun k e => by cases e; first | omega | (simp <;> omega))))⟩
              · have hai : (a : Int) ≤ 1 := by omega
                have hs0 : (s == 0) = false := by simpa using fun h => ha (HZ.out.1 h)
                go_wp2
                go_ret
                exact ⟨ret_bool (by simp; omega), by (repeat (first | exact Below.refl _ _ | refine Below.setCell ?_ (by first | omega | (simp <;> omega)) _ | refine Below.alloc ?_ (by first | omega | (simp <;> omega)) _ | refine Below.drew ?_ | refine Below.trans ?_ (Below.mono (by assumption) (by first | omega | (simp <;> omega))) | refine Below.grown ?_ (by assumption) (by first | omega | (simp <;> omega)) (fun k e => by cases e; first | omega | (simp <;> omega))))⟩
            · have hbi : (0 : Int) < (b : Int) := by omega
              have hbz : ((b : Int) == 0) = false := by simp; omega
              obtain ⟨c, hc⟩ : ∃ c, a % b = c := ⟨_, rfl⟩
              have hlt : c < b := by rw [← hc]; exact Nat.mod_lt _ (by omega)
              have HG2 := Lib.hid (show Nat.gcd b c = g by rw [← hc, ← hg, Nat.gcd_comm a b, Nat.gcd_rec b a, Nat.gcd_comm])
              have HM := Lib.hid (show (a : Int) % (b : Int) = (c : Int) by rw [← hc]; simp)
              clear hc hg
              go_wp2
              go_round
              case rel => exact ⟨b, c, b9, by omega, rfl, congrArg (Value.int .i64) HM.out, HG2.out⟩
              case measure => simp [intOf, HM.out]; omega
        | false =>
          have HC := Lib.hid h5
          have HW := Lib.hid (signOfV_no h5)
          clear h5 h5m hs3 hv3
          go_wp2_with fail
          refine (implSign_is (5 * n) m _ false _ HW.out HC.out).mono ?_
          rintro e w5 ⟨rfl, hh5⟩
          obtain ⟨hc5, hf5⟩ := bcell hh5
          have hz5 := hh5.size
          try simp only [World.size_alloc] at hz5
          clear hc5 hf5
          have UN : IntKind.i64.wrap (-n) = -n := by rw [IntKind.wrap_i64]; omega
          go_wp2_with fail
          go_loop [15, 16, 17] (fun x y _ => ∃ a b : Nat, a ≤ 10000 ∧ b ≤ 10000 ∧ x = .int .i64 a ∧ y = .int .i64 b ∧ Nat.gcd a b = g) (fun _ y _ => (intOf y).toNat)
          case atStart => exact ⟨m, t, m2, by omega, rfl, congrArg (Value.int .i64) (by omega), HG.out⟩
          case round =>
            obtain ⟨a, b, a9, b9, rfl, rfl, hg⟩ := hrel
            by_cases hb : b = 0
            · subst hb
              obtain rfl : a = g := by rw [← hg, Nat.gcd_zero_right]
              clear hg
              by_cases ha : 1 < a
              · have hai : (1 : Int) < (a : Int) := by omega
                have HS := Lib.hid (HZ.out.2 ha)
                have hs0 : (s == 0) = true := by simp [HS.out]
                go_wp2
                go_ret
                exact ⟨ret_bool (by simp), by (repeat (first | exact Below.refl _ _ | refine Below.setCell ?_ (by first | omega | (simp <;> omega)) _ | refine Below.alloc ?_ (by first | omega | (simp <;> omega)) _ | refine Below.drew ?_ | refine Below.trans ?_ (Below.mono (by assumption) (by first | omega | (simp <;> omega))) | refine Below.grown ?_ (by assumption) (by first | omega | (simp <;> omega)) (fun k e => by cases e; first | omega | (simp <;> omega))))⟩
              · have hai : (a : Int) ≤ 1 := by omega
                have hs0 : (s == 0) = false := by simpa using fun h => ha (HZ.out.1 h)
                go_wp2
                go_ret
                exact ⟨ret_bool (by simp; omega), by (repeat (first | exact Below.refl _ _ | refine Below.setCell ?_ (by first | omega | (simp <;> omega)) _ | refine Below.alloc ?_ (by first | omega | (simp <;> omega)) _ | refine Below.drew ?_ | refine Below.trans ?_ (Below.mono (by assumption) (by first | omega | (simp <;> omega))) | refine Below.grown ?_ (by assumption) (by first | omega | (simp <;> omega)) (fun k e => by cases e; first | omega | (simp <;> omega))))⟩
            · have hbi : (0 : Int) < (b : Int) := by omega
              have hbz : ((b : Int) == 0) = false := by simp; omega
              obtain ⟨c, hc⟩ : ∃ c, a % b = c := ⟨_, rfl⟩
              have hlt : c < b := by rw [← hc]; exact Nat.mod_lt _ (by omega)
              have HG2 := Lib.hid (show Nat.gcd b c = g by rw [← hc, ← hg, Nat.gcd_comm a b, Nat.gcd_rec b a, Nat.gcd_comm])
              have HM := Lib.hid (show (a : Int) % (b : Int) = (c : Int) by rw [← hc]; simp)
              clear hc hg
              go_wp2
              go_round
              case rel => exact ⟨b, c, b9, by omega, rfl, congrArg (Value.int .i64) HM.out, HG2.out⟩
              case measure => simp [intOf, HM.out]; omega
end Go.Proofs.Ytmliglakfbeedaa
namespace Go.Proofs.Ytmliglakfbeedaa
open Go.RowKit
set_option maxRecDepth 100000 in
set_option maxHeartbeats 8000000 in
theorem fnPassesSecond_walk (a : Option Addr) (len cap : Nat) (z : List Int) (w : World) (w0 : IsRow w a len cap z) :
    Calls Try.prog 4 #[.slice a len cap] w fun e w' => e = .returned (.bool true) ∧ Below w.heap.size w w' := by
  by_cases hbig : 1048576 < len
  · go_enter Try.func4, Try.ntmps4
    go_wp2
    go_ret
    exact ⟨rfl, Below.refl _ _⟩
  · have hsm : len ≤ 1048576 := by omega
    go_enter Try.func4, Try.ntmps4
    go_wp2_with fail
    refine (drawPassesSecond_any _ _ _ _ z w0).mono ?_
    rintro e w1 ⟨p, q, n, rfl, hh1⟩
    have hz1 := hh1.size
    obtain ⟨hc1, hf1⟩ := bcell hh1
    have H7 := Lib.hid second_seven
    cases hp : pairB p q with
    | false =>
      obtain ⟨c, hc⟩ : ∃ c, passSecondB p q n = c := ⟨_, rfl⟩
      have HC := Lib.hid hc
      have HP := Lib.hid hp
      clear hc hp
      go_wp2_with fail
      refine (implPassSecond_is p q n c _ HC.out).mono ?_
      rintro e w2 ⟨rfl, hh2⟩
      obtain ⟨hc2, hf2⟩ := bcell hh2
      have hz2 := hh2.size
      try simp only [World.size_alloc] at hz2
      have hz2_0 : w1.heap.size < w2.heap.size := by omega
      have kb2_0_0 : w2.cell? ⟨w1.heap.size, 0, none⟩ = some (.int .i64 p) := by go_simp
      have kf2_0_0 : w2.frozen? ⟨w1.heap.size, 0, none⟩ = false := by go_simp
      have kb2_0_1 : w2.cell? ⟨w1.heap.size, 1, none⟩ = some (.int .i64 q) := by go_simp
      have kf2_0_1 : w2.frozen? ⟨w1.heap.size, 1, none⟩ = false := by go_simp
      clear hc2 hf2
      go_wp2_with fail
      refine (specPassSecond_is p q n c _ HC.out).mono ?_
      rintro e w3 ⟨rfl, hh3⟩
      obtain ⟨hc3, hf3⟩ := bcell hh3
      have hz3 := hh3.size
      try simp only [World.size_alloc] at hz3
      have hz3_0 : w1.heap.size < w3.heap.size := by omega
      have kb3_0_0 : w3.cell? ⟨w1.heap.size, 0, none⟩ = some (.int .i64 p) := by go_simp
      have kf3_0_0 : w3.frozen? ⟨w1.heap.size, 0, none⟩ = false := by go_simp
      have kb3_0_1 : w3.cell? ⟨w1.heap.size, 1, none⟩ = some (.int .i64 q) := by go_simp
      have kf3_0_1 : w3.frozen? ⟨w1.heap.size, 1, none⟩ = false := by go_simp
      clear hc3 hf3
      go_wp2_with fail
      refine (specPairOk_no p q _ HP.out).mono ?_
      rintro e w4 ⟨rfl, hh4⟩
      obtain ⟨hc4, hf4⟩ := bcell hh4
      have hz4 := hh4.size
      try simp only [World.size_alloc] at hz4
      have hz4_0 : w1.heap.size < w4.heap.size := by omega
      have kb4_0_0 : w4.cell? ⟨w1.heap.size, 0, none⟩ = some (.int .i64 p) := by go_simp
      have kf4_0_0 : w4.frozen? ⟨w1.heap.size, 0, none⟩ = false := by go_simp
      have kb4_0_1 : w4.cell? ⟨w1.heap.size, 1, none⟩ = some (.int .i64 q) := by go_simp
      have kf4_0_1 : w4.frozen? ⟨w1.heap.size, 1, none⟩ = false := by go_simp
      clear hc4 hf4
      go_wp2_with fail
      refine (implPassSecond_is 1 (-1) 7 true _ H7.out).mono ?_
      rintro e w5 ⟨rfl, hh5⟩
      obtain ⟨hc5, hf5⟩ := bcell hh5
      have hz5 := hh5.size
      try simp only [World.size_alloc] at hz5
      clear hc5 hf5
      go_wp2
      go_ret
      exact ⟨rfl, by (repeat (first | exact Below.refl _ _ | refine Below.setCell ?_ (by first | omega | (simp <;> omega)) _ | refine Below.alloc ?_ (by first | omega | (simp <;> omega)) _ | refine Below.drew ?_ | refine Below.trans ?_ (Below.mono (by assumption) (by first | omega | (simp <;> omega))) | refine Below.grown ?_ (by assumption) (by first | omega | (simp <;> omega)) (fun k e => by cases e; first | omega | (simp <;> omega))))⟩
    | true =>
      have HP := Lib.hid hp
      cases hl : primeB n with
      | false =>
        obtain ⟨c, hc⟩ : ∃ c, passSecondB p q n = c := ⟨_, rfl⟩
        have HC := Lib.hid hc
        have HL := Lib.hid hl
        clear hc hp hl
        go_wp2_with fail
        refine (implPassSecond_is p q n c _ HC.out).mono ?_
        rintro e w2 ⟨rfl, hh2⟩
        obtain ⟨hc2, hf2⟩ := bcell hh2
        have hz2 := hh2.size
        try simp only [World.size_alloc] at hz2
        have hz2_0 : w1.heap.size < w2.heap.size := by omega
        have kb2_0_0 : w2.cell? ⟨w1.heap.size, 0, none⟩ = some (.int .i64 p) := by go_simp
        have kf2_0_0 : w2.frozen? ⟨w1.heap.size, 0, none⟩ = false := by go_simp
        have kb2_0_1 : w2.cell? ⟨w1.heap.size, 1, none⟩ = some (.int .i64 q) := by go_simp
        have kf2_0_1 : w2.frozen? ⟨w1.heap.size, 1, none⟩ = false := by go_simp
        clear hc2 hf2
        go_wp2_with fail
        refine (specPassSecond_is p q n c _ HC.out).mono ?_
        rintro e w3 ⟨rfl, hh3⟩
        obtain ⟨hc3, hf3⟩ := bcell hh3
        have hz3 := hh3.size
        try simp only [World.size_alloc] at hz3
        have hz3_0 : w1.heap.size < w3.heap.size := by omega
        have kb3_0_0 : w3.cell? ⟨w1.heap.size, 0, none⟩ = some (.int .i64 p) := by go_simp
        have kf3_0_0 : w3.frozen? ⟨w1.heap.size, 0, none⟩ = false := by go_simp
        have kb3_0_1 : w3.cell? ⟨w1.heap.size, 1, none⟩ = some (.int .i64 q) := by go_simp
        have kf3_0_1 : w3.frozen? ⟨w1.heap.size, 1, none⟩ = false := by go_simp
        clear hc3 hf3
        go_wp2_with fail
        refine (specPairOk_yes p q _ HP.out).mono ?_
        rintro e w4 ⟨rfl, hh4⟩
        obtain ⟨hc4, hf4⟩ := bcell hh4
        have hz4 := hh4.size
        try simp only [World.size_alloc] at hz4
        have hz4_0 : w1.heap.size < w4.heap.size := by omega
        have kb4_0_0 : w4.cell? ⟨w1.heap.size, 0, none⟩ = some (.int .i64 p) := by go_simp
        have kf4_0_0 : w4.frozen? ⟨w1.heap.size, 0, none⟩ = false := by go_simp
        have kb4_0_1 : w4.cell? ⟨w1.heap.size, 1, none⟩ = some (.int .i64 q) := by go_simp
        have kf4_0_1 : w4.frozen? ⟨w1.heap.size, 1, none⟩ = false := by go_simp
        clear hc4 hf4
        go_wp2_with fail
        refine (implPrime_is n false _ HL.out).mono ?_
        rintro e w5 ⟨rfl, hh5⟩
        obtain ⟨hc5, hf5⟩ := bcell hh5
        have hz5 := hh5.size
        try simp only [World.size_alloc] at hz5
        have hz5_0 : w1.heap.size < w5.heap.size := by omega
        have kb5_0_0 : w5.cell? ⟨w1.heap.size, 0, none⟩ = some (.int .i64 p) := by go_simp
        have kf5_0_0 : w5.frozen? ⟨w1.heap.size, 0, none⟩ = false := by go_simp
        have kb5_0_1 : w5.cell? ⟨w1.heap.size, 1, none⟩ = some (.int .i64 q) := by go_simp
        have kf5_0_1 : w5.frozen? ⟨w1.heap.size, 1, none⟩ = false := by go_simp
        clear hc5 hf5
        go_wp2_with fail
        refine (implPassSecond_is 1 (-1) 7 true _ H7.out).mono ?_
        rintro e w6 ⟨rfl, hh6⟩
        obtain ⟨hc6, hf6⟩ := bcell hh6
        have hz6 := hh6.size
        try simp only [World.size_alloc] at hz6
        clear hc6 hf6
        go_wp2
        go_ret
        exact ⟨rfl, by (repeat (first | exact Below.refl _ _ | refine Below.setCell ?_ (by first | omega | (simp <;> omega)) _ | refine Below.alloc ?_ (by first | omega | (simp <;> omega)) _ | refine Below.drew ?_ | refine Below.trans ?_ (Below.mono (by assumption) (by first | omega | (simp <;> omega))) | refine Below.grown ?_ (by assumption) (by first | omega | (simp <;> omega)) (fun k e => by cases e; first | omega | (simp <;> omega))))⟩
      | true =>
        obtain ⟨m, rfl, hm, m1, m2⟩ := primeB_true hl
        have HC := Lib.hid (second_prime hp hm)
        have HL := Lib.hid hl
        clear hp hl hm
        go_wp2_with fail
        refine (implPassSecond_is p q m true _ HC.out).mono ?_
        rintro e w2 ⟨rfl, hh2⟩
        obtain ⟨hc2, hf2⟩ := bcell hh2
        have hz2 := hh2.size
        try simp only [World.size_alloc] at hz2
        have hz2_0 : w1.heap.size < w2.heap.size := by omega
        have kb2_0_0 : w2.cell? ⟨w1.heap.size, 0, none⟩ = some (.int .i64 p) := by go_simp
        have kf2_0_0 : w2.frozen? ⟨w1.heap.size, 0, none⟩ = false := by go_simp
        have kb2_0_1 : w2.cell? ⟨w1.heap.size, 1, none⟩ = some (.int .i64 q) := by go_simp
        have kf2_0_1 : w2.frozen? ⟨w1.heap.size, 1, none⟩ = false := by go_simp
        clear hc2 hf2
        go_wp2_with fail
        refine (specPassSecond_is p q m true _ HC.out).mono ?_
        rintro e w3 ⟨rfl, hh3⟩
        obtain ⟨hc3, hf3⟩ := bcell hh3
        have hz3 := hh3.size
        try simp only [World.size_alloc] at hz3
        have hz3_0 : w1.heap.size < w3.heap.size := by omega
        have kb3_0_0 : w3.cell? ⟨w1.heap.size, 0, none⟩ = some (.int .i64 p) := by go_simp
        have kf3_0_0 : w3.frozen? ⟨w1.heap.size, 0, none⟩ = false := by go_simp
        have kb3_0_1 : w3.cell? ⟨w1.heap.size, 1, none⟩ = some (.int .i64 q) := by go_simp
        have kf3_0_1 : w3.frozen? ⟨w1.heap.size, 1, none⟩ = false := by go_simp
        clear hc3 hf3
        go_wp2_with fail
        refine (specPairOk_yes p q _ HP.out).mono ?_
        rintro e w4 ⟨rfl, hh4⟩
        obtain ⟨hc4, hf4⟩ := bcell hh4
        have hz4 := hh4.size
        try simp only [World.size_alloc] at hz4
        have hz4_0 : w1.heap.size < w4.heap.size := by omega
        have kb4_0_0 : w4.cell? ⟨w1.heap.size, 0, none⟩ = some (.int .i64 p) := by go_simp
        have kf4_0_0 : w4.frozen? ⟨w1.heap.size, 0, none⟩ = false := by go_simp
        have kb4_0_1 : w4.cell? ⟨w1.heap.size, 1, none⟩ = some (.int .i64 q) := by go_simp
        have kf4_0_1 : w4.frozen? ⟨w1.heap.size, 1, none⟩ = false := by go_simp
        clear hc4 hf4
        go_wp2_with fail
        refine (implPrime_is m true _ HL.out).mono ?_
        rintro e w5 ⟨rfl, hh5⟩
        obtain ⟨hc5, hf5⟩ := bcell hh5
        have hz5 := hh5.size
        try simp only [World.size_alloc] at hz5
        have hz5_0 : w1.heap.size < w5.heap.size := by omega
        have kb5_0_0 : w5.cell? ⟨w1.heap.size, 0, none⟩ = some (.int .i64 p) := by go_simp
        have kf5_0_0 : w5.frozen? ⟨w1.heap.size, 0, none⟩ = false := by go_simp
        have kb5_0_1 : w5.cell? ⟨w1.heap.size, 1, none⟩ = some (.int .i64 q) := by go_simp
        have kf5_0_1 : w5.frozen? ⟨w1.heap.size, 1, none⟩ = false := by go_simp
        clear hc5 hf5
        go_wp2_with fail
        refine (implPassSecond_is 1 (-1) 7 true _ H7.out).mono ?_
        rintro e w6 ⟨rfl, hh6⟩
        obtain ⟨hc6, hf6⟩ := bcell hh6
        have hz6 := hh6.size
        try simp only [World.size_alloc] at hz6
        clear hc6 hf6
        go_wp2
        go_ret
        exact ⟨rfl, by (repeat (first | exact Below.refl _ _ | refine Below.setCell ?_ (by first | omega | (simp <;> omega)) _ | refine Below.alloc ?_ (by first | omega | (simp <;> omega)) _ | refine Below.drew ?_ | refine Below.trans ?_ (Below.mono (by assumption) (by first | omega | (simp <;> omega))) | refine Below.grown ?_ (by assumption) (by first | omega | (simp <;> omega)) (fun k e => by cases e; first | omega | (simp <;> omega))))⟩
end Go.Proofs.Ytmliglakfbeedaa
