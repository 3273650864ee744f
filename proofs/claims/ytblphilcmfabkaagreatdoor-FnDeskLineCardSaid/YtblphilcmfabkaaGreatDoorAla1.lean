/- Contracts and laws that the statement's proof stands on, one text behind the other. -/
import Derived.Test.YtblphilcmfabkaaGreatDoorAla0c
import Derived.Test.YtblphilcmfabkaaGreatDoorHwDeskMade
import Derived.Test.YtblphilcmfabkaaGreatDoorHwDeskBy
import Derived.Test.YtblphilcmfabkaaGreatDoorHwDeskLaid
import Derived.Test.YtblphilcmfabkaaGreatDoorHwDeskDoI
import Derived.Test.YtblphilcmfabkaaGreatDoorHwPlaceWhere
import Derived.Test.YtblphilcmfabkaaGreatDoorHwPrimeSq
import Derived.Laws.EntriesVeiled
import Derived.RangeFuncBox
import Derived.Shelf.Strings.Builder1
import Derived.Shelf.Slices.Turned

namespace Go.Proofs.YtblphilcmfabkaaGreatDoor
section
open Go.RowKit
set_option maxRecDepth 100000 in
set_option maxHeartbeats 4000000 in
theorem specMade_turn (p q : Int) (w : World) (hp : pairB p q = true) : Calls Tryz.prog 96 #[pr p q, .agg #[.int .i64 1, .int .i64 0, .int .i64 0]] w (MadeBy p q 1 0 0 w) := by
 have hm : madeN (p, q) ⟨1, 0, 0⟩ = some (-p, q) := rfl
 unfold MadeBy
 rw [hm]
 clear hm
 have hcall := fun w => specPairOk_any (-p) q w
 go_enter Tryz.func96, Tryz.ntmps96
 go_wp2_with fail
 refine (specTurned_yes p q _ hp).mono ?_
 rintro e w1 ⟨rfl, hh1⟩
 obtain ⟨hc1, hf1⟩ := bcell hh1
 have hz1 := hh1.size
 simp at hz1
 have hz2 : w.heap.size + 2 < w1.heap.size := by omega
 have hz3 : w.heap.size + 3 < w1.heap.size := by omega
 have k20 : w1.cell? ⟨w.heap.size + 2, 0, none⟩ = some (.int .i64 0) := by go_simp
 have k21 : w1.cell? ⟨w.heap.size + 2, 1, none⟩ = some (.int .i64 0) := by go_simp
 have f20 : w1.frozen? ⟨w.heap.size + 2, 0, none⟩ = false := by go_simp
 have f21 : w1.frozen? ⟨w.heap.size + 2, 1, none⟩ = false := by go_simp
 have k30 : w1.cell? ⟨w.heap.size + 3, 0, none⟩ = some (.int .i64 p) := by go_simp
 have k31 : w1.cell? ⟨w.heap.size + 3, 1, none⟩ = some (.int .i64 q) := by go_simp
 have f30 : w1.frozen? ⟨w.heap.size + 3, 0, none⟩ = false := by go_simp
 have f31 : w1.frozen? ⟨w.heap.size + 3, 1, none⟩ = false := by go_simp
 clear hc1 hf1
 go_wp2_with fail
 go_region_with (go_at_call 49; refine (hcall _).mono ?_; rintro e w2 ⟨rfl, hb2⟩; obtain ⟨hc2, hf2⟩ := bcell hb2; have hz4 := hb2.size; (try simp at hz4); have hz5 : w.heap.size + 2 < w2.heap.size := zO; have hz6 : w.heap.size + 3 < w2.heap.size := zO)
 all_goals
   go_wp2_with fail
   refine bodyPost_ret (v := .tuple #[pr (-p) q, .bool (pairB (-p) q)]) (by simp [results, Tryz.results96, go_sem]; go_simp) rfl ⟨rfl, ?_⟩
   exact zb
theorem specMade_any (p q k a b : Int) (w : World) (hp : pairB p q = true) : Calls Tryz.prog 96 #[pr p q, .agg #[.int .i64 k, .int .i64 a, .int .i64 b]] w (MadeBy p q k a b w) := by
 by_cases h1 : k = 1 ∧ a = 0 ∧ b = 0
 · obtain ⟨rfl, rfl, rfl⟩ := h1
   exact specMade_turn p q w hp
 · exact specMade_rest p q k a b w hp h1
end
section
open Go.RowKit
def natCells (L : List Nat) : List Value := L.map fun (i : Nat) => .int .i64 (i : Int)
theorem natCells_range (L : List Nat) : natCells L = (List.range L.length).map fun i => .int .i64 ((L.getD i 0 : Nat) : Int) := by
 refine List.ext_getElem (by simp [natCells]) fun i h1 h2 => ?_
 simp only [natCells, List.getElem_map, List.getElem_range]
 have h3 : i < L.length := by simpa [natCells] using h1
 simp [h3]
def ListOf (L : List Nat) (w : World) (e : Ending) (w' : World) : Prop :=
 ∃ v, e = .returned v ∧ IsInts w.heap.size w'.heap.size w' v L.length (fun i => ((L.getD i 0 : Nat) : Int)) ∧ Below w.heap.size w w'
end
section
open Go.RowKit
theorem own_below {w w' : World} {base : Nat} {e : TypeId} {size : Nat} {v : Value} {n : Nat} {xs : List Value} (h : w.ownsRow base e size v n xs) (hb : Below w.heap.size w w') : w'.ownsRow base e size v n xs :=
 h.kept (row := none) ⟨hb.os, hb.tape, hb.output, hb.size, fun j hj _ => hb.block j hj⟩ (by cases v.ownBlock <;> simp)
end
section
open Go.RowKit
theorem l1Common_is (a b v : Int) (w : World) (a1 : -1000000000000000 ≤ a) (a2 : a ≤ 1000000000000000) (b1 : -1000000000000000 ≤ b) (b2 : b ≤ 1000000000000000) (hv : ((Int.gcd a b : Nat) : Int) = v) :
   Calls Tryz.prog 127 #[.int .i64 a, .int .i64 b] w fun e w' => e = .returned (.int .i64 v) ∧ w = w' := by subst hv; exact l1Common_at a b w a1 a2 b1 b2
def rankB (p q m : Int) : Bool := pairB p q && (decide (q ≠ 0) && (inB m 1 400 && decide (Int.gcd q m = 1)))
def rankV (p q m : Int) : Int := if rankB p q m = true then (rankN p q m.toNat : Int) else -1
theorem rankB_true {p q m : Int} (h : rankB p q m = true) : pairB p q = true ∧ q ≠ 0 ∧ inB m 1 400 = true ∧ Int.gcd q m = 1 ∧ ∃ k : Nat, m = k ∧ 1 ≤ k ∧ k ≤ 400 ∧ Apart (k : Int) q := by
 have h' : pairB p q = true ∧ ¬ q = 0 ∧ inB m 1 400 = true ∧ Int.gcd q m = 1 := by simpa [rankB] using h
 obtain ⟨hp, hq, hm, hg⟩ := h'
 obtain ⟨m1, m2⟩ := inB_true hm
 have e : m = (m.toNat : Int) := by omega
 refine ⟨hp, hq, hm, hg, m.toNat, e, by omega, by omega, ?_⟩
 rw [← e]
 exact (apart_gcd.1 hg).symm
theorem rankB_ways {p q m : Int} (h : rankB p q m = false) : pairB p q = false ∨ (pairB p q = true ∧ q = 0) ∨ (pairB p q = true ∧ q ≠ 0 ∧ inB m 1 400 = false) ∨ (pairB p q = true ∧ q ≠ 0 ∧ inB m 1 400 = true ∧ Int.gcd q m ≠ 1) := by
 cases hp : pairB p q with
 | false => exact .inl rfl
 | true =>
   by_cases hq : q = 0
   · exact .inr (.inl ⟨rfl, hq⟩)
   · cases hm : inB m 1 400 with
     | false => exact .inr (.inr (.inl ⟨rfl, hq, rfl⟩))
     | true => exact .inr (.inr (.inr ⟨rfl, hq, rfl, by simpa [rankB, hp, hq, hm] using h⟩))
theorem rankV_is {p q : Int} {k : Nat} (h : rankB p q k = true) : rankV p q k = (rankN p q k : Int) := by rw [rankV, if_pos h]; rfl
theorem rank_bd {p q : Int} {k : Nat} (h1 : 1 ≤ k) (h2 : k ≤ 400) (h : Apart (k : Int) q) : 1 ≤ rankN p q k ∧ rankN p q k ≤ 160000 := by
 obtain ⟨_, a, b, _⟩ := rankN_spec (p := p) k h1 h
 exact ⟨a, Nat.le_trans b (Nat.mul_le_mul h2 h2)⟩
theorem rank_left {p q : Int} {k : Nat} (h1 : 1 ≤ k) (h : Apart (k : Int) q) (n : Nat) (hn : 1 ≤ n) (hr : n ≤ rankN p q k) : (row p q 0 1 n % (k : Int) == 0) = decide (n = rankN p q k) := by
 obtain ⟨a, b, _, d⟩ := rankN_spec (p := p) k h1 h
 rw [Bool.eq_iff_iff, left_zero_iff, decide_eq_true_iff]
 constructor
 · intro hd
   rcases Nat.lt_or_ge n (rankN p q k) with hlt | hge
   · exact absurd hd (d n hn hlt)
   · omega
 · rintro rfl; exact a
set_option maxRecDepth 100000 in
set_option maxHeartbeats 4000000 in
theorem specRank_any (p q m : Int) (w : World) : Calls Tryz.prog 99 #[pr p q, .int .i64 m] w fun e w' => e = .returned (.tuple #[.int .i64 (rankV p q m), .bool (rankB p q m)]) ∧ Below w.heap.size w w' := by
 cases h : rankB p q m with
 | true =>
   obtain ⟨hp, hq, hm, hg, k, rfl, k1, k2, ha⟩ := rankB_true h
   obtain ⟨⟨r1, r2⟩, r3, r4⟩ := pairB_true hp
   obtain ⟨b1, b2⟩ := rank_bd (p := p) k1 k2 ha
   have HV := Lib.hid (rankV_is h)
   have HL := Lib.hid (rank_left (p := p) k1 ha)
   obtain ⟨R, hR⟩ : ∃ R, rankN p q k = R := ⟨_, rfl⟩
   rw [hR] at b1 b2 HL HV
   have HP := Lib.hid hp
   have HM := Lib.hid hm
   have hqz : (q == 0) = false := by simpa using hq
   have hz : ((k : Int) == 0) = false := by simp; omega
   have hgz : (((Int.gcd q (k : Int) : Nat) : Int)) = 1 := by rw [hg]; rfl
   have HG := Lib.hid hgz
   have m1 : (1 : Int) ≤ (k : Int) := by omega
   have m3 : (k : Int) ≤ 1000000000000 := by omega
   have E2 := Lib.hid (show p % (k : Int) = row p q 0 1 2 % (k : Int) by simp [row])
   have E1 := Lib.hid (show (1 : Int) % (k : Int) = row p q 0 1 1 % (k : Int) by simp [row])
   clear hp hm h hR hg hgz ha
   go_enter Tryz.func99, Tryz.ntmps99
   go_wp2_with fail
   refine (specPairOk_yes p q _ HP.out).mono ?_
   rintro e w1 ⟨rfl, hh1⟩
   obtain ⟨hc1, hf1⟩ := bcell hh1
   have hz1 := hh1.size
   try simp only [World.size_alloc] at hz1
   have hz1_0 : w.heap.size < w1.heap.size := by omega
   have kb1_0_0 : w1.cell? ⟨w.heap.size, 0, none⟩ = some (.int .i64 p) := by go_simp
   have kf1_0_0 : w1.frozen? ⟨w.heap.size, 0, none⟩ = false := by go_simp
   have kb1_0_1 : w1.cell? ⟨w.heap.size, 1, none⟩ = some (.int .i64 q) := by go_simp
   have kf1_0_1 : w1.frozen? ⟨w.heap.size, 1, none⟩ = false := by go_simp
   clear hc1 hf1
   go_wp2_with fail
   refine (l1In_yes _ 1 400 _ HM.out).mono ?_
   rintro e wx ⟨rfl, rfl⟩
   go_wp2_with fail
   refine (l1Common_is q _ 1 _ zO zO zO zO HG.out).mono ?_
   rintro e wx ⟨rfl, rfl⟩
   go_wp2_with fail
   refine (l3Left_at _ _ _ _ m1 m3 E2.out).mono ?_
   rintro e wx ⟨rfl, rfl⟩
   go_wp2_with fail
   go_loop [6, 7, 8] (fun x y c => ∃ n : Nat, 1 ≤ n ∧ n ≤ R ∧ x = .int .i64 (row p q 0 1 n % (k : Int)) ∧ y = .int .i64 (row p q 0 1 (n + 1) % (k : Int)) ∧ c = .int .i64 n) (fun _ _ c => R - (intOf c).toNat)
   case atStart => exact ⟨1, Nat.le_refl _, b1, congrArg (Value.int .i64) E1.out, rfl, rfl⟩
   case round =>
     obtain ⟨n, n1, n2, rfl, rfl, rfl⟩ := hrel
     by_cases he : n = R
     · have ht : (row p q 0 1 n % (k : Int) == 0) = true := by rw [HL.out n n1 n2]; simpa using he
       have HE := Lib.hid he
       clear he
       rw [beq_iff_eq] at ht
       go_wp2
       go_ret2
       exact ⟨ret_int_bool (by rw [HV.out, HE.out]) rfl, by exact zb⟩
     · have ht : (row p q 0 1 n % (k : Int) == 0) = false := by rw [HL.out n n1 n2]; simpa using he
       obtain ⟨a0, a1⟩ := left_bd (row p q 0 1 n) k m1
       obtain ⟨c0, c1⟩ := left_bd (row p q 0 1 (n + 1)) k m1
       obtain ⟨x1, x2⟩ := mul_bd (b := 400) r1 r2 (show -400 ≤ row p q 0 1 (n + 1) % (k : Int) by omega) zO
       obtain ⟨x3, x4⟩ := mul_bd (b := 400) r3 r4 (show -400 ≤ row p q 0 1 n % (k : Int) by omega) zO
       have E := Lib.hid (far_next p q k n)
       go_wp2_with fail
       refine (l3Left_at _ _ _ _ m1 m3 E.out).mono ?_
       rintro e wx ⟨rfl, rfl⟩
       go_wp2
       go_round
       case rel => exact ⟨n + 1, by omega, by omega, rfl, rfl, congrArg (Value.int .i64) zO⟩
       case measure => simp [intOf]; omega
 | false =>
   have HV := Lib.hid (show rankV p q m = -1 by rw [rankV, if_neg (by simp [h])])
   rcases rankB_ways h with hp | ⟨hp, hq⟩ | ⟨hp, hq, hm⟩ | ⟨hp, hq, hm, hg⟩
   · have HP := Lib.hid hp
     clear hp h
     go_enter Tryz.func99, Tryz.ntmps99
     go_wp2_with fail
     refine (specPairOk_no p q _ HP.out).mono ?_
     rintro e w1 ⟨rfl, hh1⟩
     obtain ⟨hc1, hf1⟩ := bcell hh1
     have hz1 := hh1.size
     try simp only [World.size_alloc] at hz1
     have hz1_0 : w.heap.size < w1.heap.size := by omega
     have kb1_0_0 : w1.cell? ⟨w.heap.size, 0, none⟩ = some (.int .i64 p) := by go_simp
     have kf1_0_0 : w1.frozen? ⟨w.heap.size, 0, none⟩ = false := by go_simp
     have kb1_0_1 : w1.cell? ⟨w.heap.size, 1, none⟩ = some (.int .i64 q) := by go_simp
     have kf1_0_1 : w1.frozen? ⟨w.heap.size, 1, none⟩ = false := by go_simp
     clear hc1 hf1
     go_wp2
     go_ret2
     exact ⟨ret_int_bool HV.out.symm rfl, by exact zb⟩
   · have HP := Lib.hid hp
     have hqz : (q == 0) = true := by simpa using hq
     clear hp h hq
     go_enter Tryz.func99, Tryz.ntmps99
     go_wp2_with fail
     refine (specPairOk_yes p q _ HP.out).mono ?_
     rintro e w1 ⟨rfl, hh1⟩
     obtain ⟨hc1, hf1⟩ := bcell hh1
     have hz1 := hh1.size
     try simp only [World.size_alloc] at hz1
     have hz1_0 : w.heap.size < w1.heap.size := by omega
     have kb1_0_0 : w1.cell? ⟨w.heap.size, 0, none⟩ = some (.int .i64 p) := by go_simp
     have kf1_0_0 : w1.frozen? ⟨w.heap.size, 0, none⟩ = false := by go_simp
     have kb1_0_1 : w1.cell? ⟨w.heap.size, 1, none⟩ = some (.int .i64 q) := by go_simp
     have kf1_0_1 : w1.frozen? ⟨w.heap.size, 1, none⟩ = false := by go_simp
     clear hc1 hf1
     go_wp2
     go_ret2
     exact ⟨ret_int_bool HV.out.symm rfl, by exact zb⟩
   · have HP := Lib.hid hp
     have HM := Lib.hid hm
     have hqz : (q == 0) = false := by simpa using hq
     clear hp h hm
     go_enter Tryz.func99, Tryz.ntmps99
     go_wp2_with fail
     refine (specPairOk_yes p q _ HP.out).mono ?_
     rintro e w1 ⟨rfl, hh1⟩
     obtain ⟨hc1, hf1⟩ := bcell hh1
     have hz1 := hh1.size
     try simp only [World.size_alloc] at hz1
     have hz1_0 : w.heap.size < w1.heap.size := by omega
     have kb1_0_0 : w1.cell? ⟨w.heap.size, 0, none⟩ = some (.int .i64 p) := by go_simp
     have kf1_0_0 : w1.frozen? ⟨w.heap.size, 0, none⟩ = false := by go_simp
     have kb1_0_1 : w1.cell? ⟨w.heap.size, 1, none⟩ = some (.int .i64 q) := by go_simp
     have kf1_0_1 : w1.frozen? ⟨w.heap.size, 1, none⟩ = false := by go_simp
     clear hc1 hf1
     go_wp2_with fail
     refine (l1In_no _ 1 400 _ HM.out).mono ?_
     rintro e wx ⟨rfl, rfl⟩
     go_wp2
     go_ret2
     exact ⟨ret_int_bool HV.out.symm rfl, by exact zb⟩
   · have HP := Lib.hid hp
     have HM := Lib.hid hm
     obtain ⟨m1, m2⟩ := inB_true hm
     obtain ⟨⟨r1, r2⟩, r3, r4⟩ := pairB_true hp
     have hqz : (q == 0) = false := by simpa using hq
     have hgz : (((Int.gcd q m : Nat) : Int) == 1) = false := by simp; omega
     clear hp h hm
     go_enter Tryz.func99, Tryz.ntmps99
     go_wp2_with fail
     refine (specPairOk_yes p q _ HP.out).mono ?_
     rintro e w1 ⟨rfl, hh1⟩
     obtain ⟨hc1, hf1⟩ := bcell hh1
     have hz1 := hh1.size
     try simp only [World.size_alloc] at hz1
     have hz1_0 : w.heap.size < w1.heap.size := by omega
     have kb1_0_0 : w1.cell? ⟨w.heap.size, 0, none⟩ = some (.int .i64 p) := by go_simp
     have kf1_0_0 : w1.frozen? ⟨w.heap.size, 0, none⟩ = false := by go_simp
     have kb1_0_1 : w1.cell? ⟨w.heap.size, 1, none⟩ = some (.int .i64 q) := by go_simp
     have kf1_0_1 : w1.frozen? ⟨w.heap.size, 1, none⟩ = false := by go_simp
     clear hc1 hf1
     go_wp2_with fail
     refine (l1In_yes _ 1 400 _ HM.out).mono ?_
     rintro e wx ⟨rfl, rfl⟩
     go_wp2_with fail
     refine (l1Common_at q m _ zO zO zO zO).mono ?_
     rintro e wx ⟨rfl, rfl⟩
     go_wp2
     go_ret2
     exact ⟨ret_int_bool HV.out.symm rfl, by exact zb⟩
theorem specRank_is (p q m v : Int) (c : Bool) (w : World) (hv : rankV p q m = v) (hc : rankB p q m = c) : Calls Tryz.prog 99 #[pr p q, .int .i64 m] w fun e w' => e = .returned (.tuple #[.int .i64 v, .bool c]) ∧ Below w.heap.size w w' := by rw [← hv, ← hc]; exact specRank_any p q m w
end
section
open Go.RowKit
theorem div_test (k R : Nat) : ((k : Int) % (R : Int) == 0) = decide (R ∣ k) := by
 rw [Bool.eq_iff_iff, left_zero_iff, decide_eq_true_iff]
 exact Int.natCast_dvd_natCast
end
section
open Go.RowKit
theorem farB_mk {p q n m : Int} (k : Nat) (hn : n = k) (hp : pairB p q = true) (hk : k ≤ 1000000000) (m1 : 1 ≤ m) (m2 : m ≤ 10000) : farB p q n m = true := by
 simp [farB, hp, inB_mk (n := n) (a := 0) (b := 1000000000) zO zO, inB_mk m1 m2]
theorem implFarFirst_at (p q m : Int) (k : Nat) (v n : Int) (w : World) (hn : n = k) (hp : pairB p q = true) (hk : k ≤ 1000000000) (m1 : 1 ≤ m) (m2 : m ≤ 10000) (hv : row p q 0 1 k % m = v) :
   Calls Tryz.prog 155 #[pr p q, .int .i64 n, .int .i64 m] w fun e w' => e = .returned (.int .i64 v) ∧ Below w.heap.size w w' := by
 have := implFarFirst_any p q n m w
 rw [farFirstV, if_pos (farB_mk k hn hp hk m1 m2), hn] at this
 subst hv
 subst hn
 exact this
theorem implFarSecond_at (p q m : Int) (k : Nat) (v n : Int) (w : World) (hn : n = k) (hp : pairB p q = true) (hk : k ≤ 1000000000) (m1 : 1 ≤ m) (m2 : m ≤ 10000) (hv : row p q 2 p k % m = v) :
   Calls Tryz.prog 182 #[pr p q, .int .i64 n, .int .i64 m] w fun e w' => e = .returned (.int .i64 v) ∧ Below w.heap.size w w' := by
 have := implFarSecond_any p q n m w
 rw [farSecondV, if_pos (farB_mk k hn hp hk m1 m2), hn] at this
 subst hv
 subst hn
 exact this
theorem specFarFirst_at (p q m : Int) (k : Nat) (v n : Int) (w : World) (hn : n = k) (hp : pairB p q = true) (hk : k ≤ 1000000000) (m1 : 1 ≤ m) (m2 : m ≤ 10000) (hv : row p q 0 1 k % m = v) :
   Calls Tryz.prog 104 #[pr p q, .int .i64 n, .int .i64 m] w fun e w' => e = .returned (.int .i64 v) ∧ Below w.heap.size w w' := by
 have := specFarFirst_any p q n m w
 rw [farFirstV, if_pos (farB_mk k hn hp hk m1 m2), hn] at this
 subst hv
 subst hn
 exact this
theorem specFarSecond_at (p q m : Int) (k : Nat) (v n : Int) (w : World) (hn : n = k) (hp : pairB p q = true) (hk : k ≤ 1000000000) (m1 : 1 ≤ m) (m2 : m ≤ 10000) (hv : row p q 2 p k % m = v) :
   Calls Tryz.prog 130 #[pr p q, .int .i64 n, .int .i64 m] w fun e w' => e = .returned (.int .i64 v) ∧ Below w.heap.size w w' := by
 have := specFarSecond_any p q n m w
 rw [farSecondV, if_pos (farB_mk k hn hp hk m1 m2), hn] at this
 subst hv
 subst hn
 exact this
end
section
open Go.RowKit
def periodV (p q m : Int) : Int := if rankB p q m = true then (periodN p q m.toNat : Int) else -1
theorem periodV_is {p q : Int} {k : Nat} (h : rankB p q k = true) : periodV p q k = (periodN p q k : Int) := by rw [periodV, if_pos h]; rfl
theorem periodV_no {p q m : Int} (h : rankB p q m = false) : periodV p q m = -1 := by rw [periodV, if_neg (by simp [h])]
theorem period_bd {p q : Int} {k : Nat} (h1 : 1 ≤ k) (h2 : k ≤ 400) (h : Apart (k : Int) q) : 1 ≤ periodN p q k ∧ periodN p q k ≤ 160000 := by
 obtain ⟨_, a, b, _⟩ := periodN_spec (p := p) k h1 h
 exact ⟨a, Nat.le_trans b (Nat.mul_le_mul h2 h2)⟩
theorem period_left {p q : Int} {k : Nat} (h1 : 1 ≤ k) (h : Apart (k : Int) q) (n : Nat) (hn : 1 ≤ n) (hr : n ≤ periodN p q k) : (row p q 0 1 n % (k : Int) == 0 && row p q 0 1 (n + 1) % (k : Int) == 1 % (k : Int)) = decide (n = periodN p q k) := by
 obtain ⟨a, b, _, d⟩ := periodN_spec (p := p) k h1 h
 rw [Bool.eq_iff_iff, again_iff, decide_eq_true_iff]
 constructor
 · intro hd
   rcases Nat.lt_or_ge n (periodN p q k) with hlt | hge
   · exact absurd hd (d n hn hlt)
   · omega
 · rintro rfl; exact a
set_option maxRecDepth 100000 in
set_option maxHeartbeats 4000000 in
theorem specPeriod_any (p q m : Int) (w : World) : Calls Tryz.prog 100 #[pr p q, .int .i64 m] w fun e w' => e = .returned (.tuple #[.int .i64 (periodV p q m), .bool (rankB p q m)]) ∧ Below w.heap.size w w' := by
 cases h : rankB p q m with
 | false =>
   have HV := Lib.hid (periodV_no h)
   have HB := Lib.hid h
   clear h
   go_enter Tryz.func100, Tryz.ntmps100
   go_wp2_with fail
   refine (specRank_is p q m _ false _ rfl HB.out).mono ?_
   rintro e w1 ⟨rfl, hh1⟩
   obtain ⟨hc1, hf1⟩ := bcell hh1
   have hz1 := hh1.size
   try simp only [World.size_alloc] at hz1
   have hz1_0 : w.heap.size < w1.heap.size := by omega
   have kb1_0_0 : w1.cell? ⟨w.heap.size, 0, none⟩ = some (.int .i64 p) := by go_simp
   have kf1_0_0 : w1.frozen? ⟨w.heap.size, 0, none⟩ = false := by go_simp
   have kb1_0_1 : w1.cell? ⟨w.heap.size, 1, none⟩ = some (.int .i64 q) := by go_simp
   have kf1_0_1 : w1.frozen? ⟨w.heap.size, 1, none⟩ = false := by go_simp
   clear hc1 hf1
   go_wp2
   go_ret2
   exact ⟨ret_int_bool HV.out.symm rfl, by exact zb⟩
 | true =>
   obtain ⟨hp, _, _, _, k, rfl, k1, k2, ha⟩ := rankB_true h
   obtain ⟨⟨r1, r2⟩, r3, r4⟩ := pairB_true hp
   obtain ⟨b1, b2⟩ := period_bd (p := p) k1 k2 ha
   have HV := Lib.hid (periodV_is h)
   have HL := Lib.hid (period_left (p := p) k1 ha)
   obtain ⟨R, hR⟩ : ∃ R, periodN p q k = R := ⟨_, rfl⟩
   rw [hR] at b1 b2 HL HV
   have HB := Lib.hid h
   have hz : ((k : Int) == 0) = false := by simp; omega
   have m1 : (1 : Int) ≤ (k : Int) := by omega
   have m3 : (k : Int) ≤ 1000000000000 := by omega
   have E2 := Lib.hid (show p % (k : Int) = row p q 0 1 2 % (k : Int) by simp [row])
   have E1 := Lib.hid (show (1 : Int) % (k : Int) = row p q 0 1 1 % (k : Int) by simp [row])
   clear hp h hR ha
   go_enter Tryz.func100, Tryz.ntmps100
   go_wp2_with fail
   refine (specRank_is p q k _ true _ rfl HB.out).mono ?_
   rintro e w1 ⟨rfl, hh1⟩
   obtain ⟨hc1, hf1⟩ := bcell hh1
   have hz1 := hh1.size
   try simp only [World.size_alloc] at hz1
   have hz1_0 : w.heap.size < w1.heap.size := by omega
   have kb1_0_0 : w1.cell? ⟨w.heap.size, 0, none⟩ = some (.int .i64 p) := by go_simp
   have kf1_0_0 : w1.frozen? ⟨w.heap.size, 0, none⟩ = false := by go_simp
   have kb1_0_1 : w1.cell? ⟨w.heap.size, 1, none⟩ = some (.int .i64 q) := by go_simp
   have kf1_0_1 : w1.frozen? ⟨w.heap.size, 1, none⟩ = false := by go_simp
   clear hc1 hf1
   go_wp2_with fail
   refine (l3Left_at _ _ _ _ m1 m3 E2.out).mono ?_
   rintro e wx ⟨rfl, rfl⟩
   go_wp2_with fail
   go_loop [8, 9, 10] (fun x y c => ∃ n : Nat, 1 ≤ n ∧ n ≤ R ∧ x = .int .i64 (row p q 0 1 n % (k : Int)) ∧ y = .int .i64 (row p q 0 1 (n + 1) % (k : Int)) ∧ c = .int .i64 n) (fun _ _ c => R - (intOf c).toNat)
   case atStart => exact ⟨1, Nat.le_refl _, b1, congrArg (Value.int .i64) E1.out, rfl, rfl⟩
   case round =>
     obtain ⟨n, n1, n2, rfl, rfl, rfl⟩ := hrel
     by_cases he : n = R
     · have hb := HL.out n n1 n2
       rw [decide_eq_true he, Bool.and_eq_true] at hb
       obtain ⟨hb1, hb2⟩ := hb
       have ht1 : (row p q 0 1 n % (k : Int) != 0) = false := by rw [bne, hb1]; rfl
       have ht2 : (row p q 0 1 (n + 1) % (k : Int) != 1 % (k : Int)) = false := by rw [bne, hb2]; rfl
       have HE := Lib.hid he
       clear he hb1 hb2
       go_wp2
       go_ret2
       exact ⟨ret_int_bool (by rw [HV.out, HE.out]) rfl, by exact zb⟩
     · have hb := HL.out n n1 n2
       rw [decide_eq_false he] at hb
       obtain ⟨a0, a1⟩ := left_bd (row p q 0 1 n) k m1
       obtain ⟨c0, c1⟩ := left_bd (row p q 0 1 (n + 1)) k m1
       obtain ⟨x1, x2⟩ := mul_bd (b := 400) r1 r2 (show -400 ≤ row p q 0 1 (n + 1) % (k : Int) by omega) zO
       obtain ⟨x3, x4⟩ := mul_bd (b := 400) r3 r4 (show -400 ≤ row p q 0 1 n % (k : Int) by omega) zO
       have E := Lib.hid (far_next p q k n)
       cases hz1 : (row p q 0 1 n % (k : Int) == 0) with
       | true =>
         rw [hz1, Bool.true_and] at hb
         have ht1 : (row p q 0 1 n % (k : Int) != 0) = false := by rw [bne, hz1]; rfl
         have ht2 : (row p q 0 1 (n + 1) % (k : Int) != 1 % (k : Int)) = true := by rw [bne, hb]; rfl
         clear hb hz1
         go_wp2_with fail
         refine (l3Left_at _ _ _ _ m1 m3 E.out).mono ?_
         rintro e wx ⟨rfl, rfl⟩
         go_wp2
         go_round
         case rel => exact ⟨n + 1, by omega, by omega, rfl, rfl, congrArg (Value.int .i64) zO⟩
         case measure => simp [intOf]; omega
       | false =>
         have ht1 : (row p q 0 1 n % (k : Int) != 0) = true := by rw [bne, hz1]; rfl
         clear hb hz1
         go_wp2_with fail
         refine (l3Left_at _ _ _ _ m1 m3 E.out).mono ?_
         rintro e wx ⟨rfl, rfl⟩
         go_wp2
         go_round
         case rel => exact ⟨n + 1, by omega, by omega, rfl, rfl, congrArg (Value.int .i64) zO⟩
         case measure => simp [intOf]; omega
end
section
open Go.RowKit
theorem fibN_w : ∀ i, i < 23 → row 1 (-1) 1 2 i = (fibN (i + 2) : Int) := by decide +kernel
theorem fibN_bd : ∀ i, i < 25 → fibN i ≤ 50000 := by decide +kernel
def FibRow (m : Nat) (w : World) (e : Ending) (w' : World) : Prop :=
 ∃ g c, e = .returned (.slice (some ⟨g, 0, none⟩) m c) ∧ w.heap.size ≤ g ∧ g < w'.heap.size ∧ (∀ i, i < m → w'.cell? ⟨g, i, none⟩ = some (.int .i64 (fibN (i + 2) : Nat))) ∧ Below w.heap.size w w'
set_option maxRecDepth 100000 in
set_option maxHeartbeats 4000000 in
theorem l10Row_any (m : Nat) (w : World) (h4 : 4 ≤ m) (hm : m ≤ 24) : Calls Tryz.prog 132 #[.int .i64 m] w (FibRow (m - 1) w) := by
 obtain ⟨i0, hi0, hz0, hzs1, hz2⟩ := info_parts info_int
 go_enter Tryz.func132, Tryz.ntmps132
 go_wp2_with fail
 go_loopw [3, 4] (fun u k wr => ∃ j gu cu : Nat, u = .slice (some ⟨gu, 0, none⟩) (j + 2) cu ∧ k = .int .i64 (j + 4) ∧ wr.ownsRow w.heap.size 3 1 (.slice (some ⟨gu, 0, none⟩) (j + 2) cu) (j + 2) (rowCells 1 (-1) 1 2 (j + 2)) ∧ j + 3 ≤ m ∧ Below w.heap.size w wr) (fun _ k _ => 40 - (intOf k).toNat)
 case atStart =>
   have e1 : (w.alloc (.cells #[.int .i64 1, .int .i64 2] 3)).heap[w.heap.size]? = some (.cells #[.int .i64 1, .int .i64 2] 3 (0, 0)) := heap_alloc_new w _
   exact ⟨0, _, _, rfl, rfl, own2 (Nat.le_refl _) e1, by omega, by exact zb⟩
 case round =>
   obtain ⟨j, gu, cu, rfl, rfl, hu, hj, hB⟩ := hrel
   by_cases hlt : j + 4 ≤ m
   · have lu := (hu.lt gu rfl)
     have a1 : wr.cell? ⟨gu, j + 1, none⟩ = some (.int .i64 (row 1 (-1) 1 2 (j + 1))) := own_get hu rfl zO
     have a0 : wr.cell? ⟨gu, j, none⟩ = some (.int .i64 (row 1 (-1) 1 2 j)) := own_get hu rfl zO
     obtain ⟨x1, x2⟩ := row_small (p := 1) (q := -1) (a := 1) (b := 2) zO zO zO zO zO zO zO zO (j + 1) zO
     obtain ⟨x3, x4⟩ := row_small (p := 1) (q := -1) (a := 1) (b := 2) zO zO zO zO zO zO zO zO j zO
     have hz := hB.size
     have n0 : (0 : Int) ≤ (j : Int) := Int.natCast_nonneg _
     have n1 : (0 : Int) ≤ (j : Int) + 1 := by omega
     have n2 : (j : Int) + 1 < (j : Int) + 2 := by omega
     have n3 : (j : Int) < (j : Int) + 2 := by omega
     have t1 : ((j : Int) + 1).toNat = j + 1 := by omega
     have W1 : IntKind.i64.wrap ((j : Int) + 2 - 1) = (j : Int) + 1 := by rw [IntKind.wrap_i64]; omega
     have W2 : IntKind.i64.wrap ((j : Int) + 1) = (j : Int) + 1 := by rw [IntKind.wrap_i64]; omega
     have W3 : IntKind.i64.wrap ((j : Int) + 2 - 2) = (j : Int) := by rw [IntKind.wrap_i64]; omega
     have W4 : IntKind.i64.wrap (j : Int) = (j : Int) := by rw [IntKind.wrap_i64]; omega
     have U3 : IntKind.i64.wrap (row 1 (-1) 1 2 (j + 1) + row 1 (-1) 1 2 j) = row 1 (-1) 1 2 (j + 2) := by rw [row_step, IntKind.wrap_i64]; omega
     clear x1 x2 x3 x4
     go_wp2
     go_region_held3 (fun w' => w'.cell? ⟨gu, j + 1, none⟩ = some (.int .i64 (row 1 (-1) 1 2 (j + 1))) ∧ w'.cell? ⟨gu, j, none⟩ = some (.int .i64 (row 1 (-1) 1 2 j)))
       (first | go_keep | (go_split_ands; exact ⟨keep1, keep0⟩))
       ((refine step_append_keeps _ (by rfl) _ _ _ (by rfl) w.heap.size 3 i0 _ 1 8 Tryz.underlying99 hi0 hz0 hzs1 hz2 rfl zO gu (j + 2) cu _ (by rfl) ((hu.alloc _).drew) ⟨wr.heap.size, 0, none⟩ 1 1 [.int .i64 (row 1 (-1) 1 2 (j + 2))] (by rfl) (by rfl) (World.news_of_block (cs := #[.int .i64 (row 1 (-1) 1 2 (j + 2))]) (t := 3) (fr := (0, 0)) (heap_alloc_new wr _)) (by simp [Value.oneCell']) zO (by unfold maxLen; omega) zO (by simp; omega) (wr.heap.size + 1) (by simp) ?_; intro g1 c1 w1 hown1 hgrow1 hat1 hlt1 hold1; have keep1 := own_cell hold1 (rowCells_get 1 (-1) 1 2 (j + 2) (j + 1) zO); have keep0 := own_cell hold1 (rowCells_get 1 (-1) 1 2 (j + 2) j zO)))
     rw [rowCells_snoc] at hown1
     have hB1 : Below w.heap.size w w1 := ((hB.alloc hz _).drew).grown hgrow1 (by simp; omega) (fun k e => by cases e; omega)
     clear a1 a0 hold1 keep1 keep0 hgrow1 hu U3
     go_wp2
     go_roundw
     case rel => exact ⟨j + 1, g1, c1, rfl, congrArg (Value.int .i64) zO, hown1, by omega, hB1⟩
     case measure => simp [intOf]; omega
   · have lu := (hu.lt gu rfl)
     have hjm : j + 2 = m - 1 := by omega
     go_wp2
     go_ret
     exact ⟨gu, cu, by rw [← hjm]; rfl, lu.1, lu.2, fun i hi => by rw [← fibN_w i zO]; exact own_get hu rfl zO, hB⟩
def placesL (n : Int) : List Nat := if n ≤ 10000 then zeck n.toNat else []
theorem zeckFrom_yes {t l : Nat} (h0 : 0 < l) (h1 : fibN (t + 2) ≤ l) : zeckFrom (t + 2) l = (t + 2) :: zeckFrom (t + 1) (l - fibN (t + 2)) := by rw [zeckFrom, if_pos ⟨h0, h1⟩]
theorem zeckFrom_no {t l : Nat} (h : ¬ (0 < l ∧ fibN (t + 2) ≤ l)) : zeckFrom (t + 2) l = zeckFrom (t + 1) l := by rw [zeckFrom, if_neg h]
set_option maxRecDepth 100000 in
set_option maxHeartbeats 4000000 in
theorem specPlaces_any (n : Int) (w : World) : Calls Tryz.prog 133 #[.int .i64 n] w (ListOf (placesL n) w) := by
 obtain ⟨i0, hi0, hz0, hzs1, hz2⟩ := info_parts info_int
 have hO : (w.alloc (.cells #[] 3 (0, 0))).ownsRow w.heap.size 3 1 (.slice (some ⟨w.heap.size, 0, none⟩) 0 0) 0 [] := own0 (base := w.heap.size) (Nat.le_refl _) (heap_alloc_new w _)
 go_enter Tryz.func133, Tryz.ntmps133
 go_wp2_with fail
 refine (l10Row_any 20 _ zO zO).mono ?_
 rintro e w1 ⟨gR, cR, rfl, hg1, hg2, hcl, hh1⟩
 have hz1 := hh1.size
 simp only [World.size_alloc] at hg1 hz1
 have hown1 := own_below hO hh1
 have hB1 : Below w.heap.size w w1 := by exact zb
 clear hO hh1
 go_wp2_with fail
 go_loopw [3, 5, 6] (fun u x k wr => ∃ (j : Nat) (y : Int) (gO cO : Nat) (P : List Nat), j ≤ 19 ∧ u = .slice (some ⟨gO, 0, none⟩) P.length cO ∧ x = .int .i64 y ∧ k = .int .i64 ((j : Int) - 1) ∧ wr.ownsRow w.heap.size 3 1 u P.length (natCells P) ∧ gO ≠ gR ∧ y ≤ n ∧
     P ++ zeckFrom (j + 1) y.toNat = zeck n.toNat ∧ (n ≤ 10000 ∨ P = []) ∧ P.length + j ≤ 19 ∧ w1.heap.size ≤ wr.heap.size ∧ (∀ i, i < 19 → wr.cell? ⟨gR, i, none⟩ = some (.int .i64 (fibN (i + 2) : Nat))) ∧ Below w.heap.size w wr) (fun _ _ k _ => ((intOf k) + 1).toNat)
 case atStart => exact ⟨19, n, w.heap.size, 0, [], by omega, rfl, rfl, rfl, hown1, by omega, by omega, rfl, .inr rfl, by simp, Nat.le_refl _, fun i hi => hcl i zO, hB1⟩
 case round =>
   obtain ⟨j, y, gO, cO, P, j9, rfl, rfl, rfl, hown, hne, hyn, hP, hnP, hPj, hsz, hc, hB⟩ := hrel
   by_cases hn : n ≤ 10000
   · match j, j9, hP, hPj with
     | 0, _, hP, _ =>
       have hL := Lib.hid (show P = placesL n by rw [placesL, if_pos hn, ← hP]; simp [zeckFrom])
       have HO := Lib.hid hown
       have e0 : ((0 : Nat) : Int) - 1 = -1 := by omega
       rw [e0]
       clear hP hown hc
       go_wp2
       go_ret
       have hr := HO.out
       rw [natCells_range] at hr
       exact ⟨_, rfl, by rw [← hL.out]; exact IsInts.of_owns hr, hB⟩
     | t + 1, j9, hP, hPj =>
       have e1 : ((t + 1 : Nat) : Int) - 1 = (t : Int) := by omega
       rw [e1]
       have hct := hc t zO
       have hfb := fibN_bd (t + 2) zO
       have t0 : (0 : Int) ≤ (t : Int) := by omega
       have t19 : (t : Int) < 19 := by omega
       by_cases hy : 0 < y ∧ (fibN (t + 2) : Int) ≤ y
       · obtain ⟨y0, yf⟩ := hy
         have hPn := Lib.hid (show (P ++ [t + 2]) ++ zeckFrom (t + 1) (y - (fibN (t + 2) : Int)).toNat = zeck n.toNat by
           rw [← hP, zeckFrom_yes (t := t) (l := y.toNat) zO zO, List.append_assoc, show (y - (fibN (t + 2) : Int)).toNat = y.toNat - fibN (t + 2) by omega]; rfl)
         have hcells : natCells P ++ [.int .i64 ((t : Int) + 2)] = natCells (P ++ [t + 2]) := by simp [natCells]
         have HL := Lib.hid (show P.length + 1 = (P ++ [t + 2]).length by simp)
         have HCE := Lib.hid hcells
         clear hcells
         obtain ⟨F, hF⟩ : ∃ F, fibN (t + 2) = F := ⟨_, rfl⟩
         rw [hF] at hct hfb yf hPn
         have hlk := hown.lt
         have hwz := hB.size
         clear hP
         go_wp2_with (first | (at_builtin; refine wpList_append_lies _ (by rfl) _ _ _ (by rfl) w.heap.size 3 i0 _ 1 8 Tryz.underlying99 hi0 hz0 hzs1 hz2 rfl zO _ P.length (natCells P) (by rfl) (hown.alloc _) ⟨wr.heap.size, 0, none⟩ 1 1 [.int .i64 ((t : Int) + 2)] (by rfl) (by rfl) (World.news_of_block (cs := #[.int .i64 ((t : Int) + 2)]) (t := 3) (fr := (0, 0)) (heap_alloc_new wr _)) (by simp [Value.oneCell']) zO (by unfold maxLen; omega) zO (by simp; omega) (wr.heap.size + 1) (by simp) ?_))
         intro g1 c1 w4 hown4 hgrow4 hat4 hlt4
         have hc4 : ∀ i, i < 19 → w4.cell? ⟨gR, i, none⟩ = some (.int .i64 (fibN (i + 2) : Nat)) := fun i hi => (hgrow4.cell_far ⟨gR, i, none⟩ (by simp; omega) (by simp [Value.ownBlock]; omega)).trans ((World.cell?_alloc_past _ _ _ (by show gR < _; omega)).trans (hc i hi))
         have hct4 : w4.cell? ⟨gR, t, none⟩ = some (.int .i64 (F : Nat)) := by rw [← hF]; exact hc4 t zO
         rw [HCE.out] at hown4
         have hz4 : wr.heap.size + 1 ≤ w4.heap.size := by have := hgrow4.size; simpa using this
         have hB4 : Below w.heap.size w w4 := (hB.alloc hwz _).grown hgrow4 (by simp; omega) (fun k e => by have := hlk _ e; omega)
         have hne4 : g1 ≠ gR := by
           rcases hat4 with h | h
           · have : gO = g1 := by simpa [Value.ownBlock] using h
             omega
           · omega
         clear hown hgrow4 hlk hat4 hc hct
         go_wp2
         go_roundw
         case rel => exact ⟨t, y - (F : Int), g1, c1, P ++ [t + 2], by omega, by rw [← HL.out], rfl, rfl, by rw [← HL.out]; exact hown4, hne4, by omega, hPn.out, .inl hn, by rw [← HL.out]; omega, by omega, hc4, hB4⟩
         case measure => simp [intOf]
       · have hPn := Lib.hid (show P ++ zeckFrom (t + 1) y.toNat = zeck n.toNat by
           rw [← hP, zeckFrom_no (t := t) (l := y.toNat) zO])
         have HO := Lib.hid hown
         obtain ⟨F, hF⟩ : ∃ F, fibN (t + 2) = F := ⟨_, rfl⟩
         rw [hF] at hct hfb hy
         clear hP hown
         by_cases y0 : 0 < y
         · have yf : y < (F : Int) := by omega
           go_wp2
           go_roundw
           case rel => exact ⟨t, y, gO, cO, P, by omega, rfl, rfl, rfl, HO.out, hne, hyn, hPn.out, .inl hn, by omega, hsz, hc, hB⟩
           case measure => simp [intOf]
         · have yf : y ≤ 0 := by omega
           go_wp2
           go_roundw
           case rel => exact ⟨t, y, gO, cO, P, by omega, rfl, rfl, rfl, HO.out, hne, hyn, hPn.out, .inl hn, by omega, hsz, hc, hB⟩
           case measure => simp [intOf]
   · obtain rfl : P = [] := by rcases hnP with h | h; omega; exact h
     have hL := Lib.hid (show placesL n = [] by rw [placesL, if_neg hn])
     have hn' : 10000 < n := by omega
     clear hP hown hc
     by_cases hj0 : (0 : Int) ≤ (j : Int) - 1
     · go_wp2
       go_ret
       exact ⟨_, rfl, by rw [hL.out]; exact IsInts.empty _ _ _ _ _, hB⟩
     · have hj1 : (j : Int) - 1 < 0 := by omega
       go_wp2
       go_ret
       exact ⟨_, rfl, by rw [hL.out]; exact IsInts.empty _ _ _ _ _, hB⟩
end
section
open Go.RowKit
theorem zeckFrom_bd : ∀ (k n : Nat), ∀ x ∈ zeckFrom k n, 2 ≤ x ∧ x ≤ k
 | 0, n, x, h => by simp [zeckFrom] at h
 | 1, n, x, h => by simp [zeckFrom] at h
 | k + 2, n, x, h => by
   rw [zeckFrom] at h
   split at h
   · rcases List.mem_cons.1 h with rfl | h
     · omega
     · have := zeckFrom_bd (k + 1) _ x h; omega
   · have := zeckFrom_bd (k + 1) _ x h; omega
theorem zeckFrom_len : ∀ (k n : Nat), (zeckFrom k n).length ≤ k
 | 0, n => by simp [zeckFrom]
 | 1, n => by simp [zeckFrom]
 | k + 2, n => by
   rw [zeckFrom]
   split
   · have := zeckFrom_len (k + 1) (n - fibN (k + 2)); simp; omega
   · have := zeckFrom_len (k + 1) n; omega
theorem zeck_bd (n i : Nat) (h : i < (zeck n).length) : 2 ≤ (zeck n).getD i 0 ∧ (zeck n).getD i 0 ≤ 20 := by
 have hm : (zeck n).getD i 0 ∈ zeck n := by
   simp only [List.getD_eq_getElem?_getD, List.getElem?_eq_getElem h, Option.getD_some]
   exact List.getElem_mem h
 exact zeckFrom_bd 20 n _ hm
theorem zeck_len (n : Nat) : (zeck n).length ≤ 20 := zeckFrom_len 20 n
theorem placesL_is {n : Nat} (h : n ≤ 10000) : placesL n = zeck n := by rw [placesL, if_pos zO]; rfl
theorem sumAt_next {L : List Nat} {k : Nat} (d : Nat) (hk : k < L.length) : sumAt (L.take (k + 1)) d = sumAt (L.take k) d + fibN (L.getD k 0 + d) := by
 have e : L.getD k 0 = L[k] := by simp [hk]
 rw [List.take_succ_eq_append_getElem hk, e]
 simp only [sumAt, List.map_append, List.map_cons, List.map_nil, List.foldl_append, List.foldl_cons, List.foldl_nil]
def circB (a b : Int) : Bool := inB a 0 100 && inB b 0 100
def circV (a b : Int) : Int := if circB a b = true then (circN a.toNat b.toNat : Int) else -1
theorem circV_no {a b : Int} (h : circB a b = false) : circV a b = -1 := by rw [circV, if_neg (by simp [h])]
theorem circV_is {a b : Nat} (h : circB a b = true) : circV a b = (circN a b : Int) := by rw [circV, if_pos h]; rfl
theorem circB_true {a b : Int} (h : circB a b = true) : ∃ m j : Nat, a = m ∧ b = j ∧ m ≤ 100 ∧ j ≤ 100 := by
 have h' : inB a 0 100 = true ∧ inB b 0 100 = true := by simpa [circB] using h
 obtain ⟨n1, n2⟩ := inB_true h'.1
 obtain ⟨d1, d2⟩ := inB_true h'.2
 exact ⟨a.toNat, b.toNat, by omega, by omega, by omega, by omega⟩
def circS (L M : List Nat) (k : Nat) : Nat := ((L.take k).map fun x => sumAt M x).foldl (· + ·) 0
theorem circS_all (a b : Nat) : circN a b = circS (zeck a) (zeck b) (zeck a).length := by rw [circS, List.take_length]; rfl
theorem circS_next {L M : List Nat} {k : Nat} (hk : k < L.length) : circS L M (k + 1) = circS L M k + sumAt M (L.getD k 0) := by
 have e : L.getD k 0 = L[k] := by simp [hk]
 rw [circS, List.take_succ_eq_append_getElem hk, e]
 simp only [circS, List.map_append, List.map_cons, List.map_nil, List.foldl_append, List.foldl_cons, List.foldl_nil]
theorem sumAt_bd {L : List Nat} (d : Nat) (hd : d ≤ 20) (h : ∀ i, i < L.length → L.getD i 0 ≤ 20) (hb : ∀ i, i < 41 → fibN i ≤ 50000) : ∀ k, k ≤ L.length → sumAt (L.take k) d ≤ 50000 * k
 | 0, _ => by simp [sumAt]
 | k + 1, hk => by
   have h1 := sumAt_bd d hd h hb k zO
   rw [sumAt_next d zO]
   have := hb (L.getD k 0 + d) (by have := h k zO; omega)
   omega
theorem fibN_bd2 : ∀ i, i < 41 → fibN i ≤ 50000 := by decide +kernel
theorem zeck_low {n : Nat} (h : n ≤ 100) : ∀ x ∈ zeck n, x ≤ 11 := by
 have hall : (List.range 101).all (fun n => (zeck n).all fun x => decide (x ≤ 11)) = true := by decide +kernel
 intro x hx
 exact of_decide_eq_true (List.all_eq_true.1 (List.all_eq_true.1 hall n (by simp; omega)) x hx)
theorem zeck_low_at {n : Nat} (hn : n ≤ 100) (i : Nat) (h : i < (zeck n).length) : 2 ≤ (zeck n).getD i 0 ∧ (zeck n).getD i 0 ≤ 11 := by
 refine ⟨(zeck_bd n i h).1, ?_⟩
 have hm : (zeck n).getD i 0 ∈ zeck n := by
   simp only [List.getD_eq_getElem?_getD, List.getElem?_eq_getElem h, Option.getD_some]
   exact List.getElem_mem h
 exact zeck_low hn _ hm
set_option maxRecDepth 100000 in
set_option maxHeartbeats 8000000 in
theorem specCircle_any (a b : Int) (w : World) : Calls Tryz.prog 105 #[.int .i64 a, .int .i64 b] w fun e w' => e = .returned (.tuple #[.int .i64 (circV a b), .bool (circB a b)]) ∧ Below w.heap.size w w' := by
 cases hn : inB a 0 100 with
 | false =>
   have hb : circB a b = false := by simp [circB, hn]
   have HB := Lib.hid hb
   have HV := Lib.hid (circV_no hb)
   have HN := Lib.hid hn
   clear hn hb
   go_enter Tryz.func105, Tryz.ntmps105
   go_wp2_with fail
   refine (l1In_no a 0 100 _ HN.out).mono ?_
   rintro e wx ⟨rfl, rfl⟩
   go_wp2
   go_ret2
   exact ⟨ret_int_bool HV.out.symm HB.out.symm, Below.refl _ _⟩
 | true =>
   have HN := Lib.hid hn
   cases hd : inB b 0 100 with
   | false =>
     have hb : circB a b = false := by simp [circB, hd]
     have HB := Lib.hid hb
     have HV := Lib.hid (circV_no hb)
     have HD := Lib.hid hd
     clear hn hd hb
     go_enter Tryz.func105, Tryz.ntmps105
     go_wp2_with fail
     refine (l1In_yes _ 0 100 _ HN.out).mono ?_
     rintro e wx ⟨rfl, rfl⟩
     go_wp2_with fail
     refine (l1In_no b 0 100 _ HD.out).mono ?_
     rintro e wx ⟨rfl, rfl⟩
     go_wp2
     go_ret2
     exact ⟨ret_int_bool HV.out.symm HB.out.symm, Below.refl _ _⟩
   | true =>
     have hb : circB a b = true := by rw [circB, hn, hd]; rfl
     obtain ⟨m, j, rfl, rfl, m9, j9⟩ := circB_true hb
     have HB := Lib.hid hb
     have HV0 := circV_is hb
     rw [circS_all] at HV0
     have HD := Lib.hid hd
     have HL0 := placesL_is (n := m) zO
     have HM0 := placesL_is (n := j) zO
     have hbd := zeck_low_at m9
     have hbm := zeck_low_at j9
     have hlen := zeck_len m
     have hlem := zeck_len j
     obtain ⟨L, hL⟩ : ∃ L, zeck m = L := ⟨_, rfl⟩
     obtain ⟨M, hM⟩ : ∃ M, zeck j = M := ⟨_, rfl⟩
     rw [hL] at HL0 hbd hlen
     rw [hM] at HM0 hbm hlem
     rw [hL, hM] at HV0
     have hsb := fun d (hd : d ≤ 20) => sumAt_bd (L := M) d hd (fun i hi => by have := (hbm i hi).2; omega) fibN_bd2
     have HV := Lib.hid HV0
     have HL := Lib.hid HL0
     have HM := Lib.hid HM0
     have HBD := Lib.hid hbd
     have HBM := Lib.hid hbm
     have HSB := Lib.hid hsb
     clear hn hd hb hL hM hbd hbm HV0 HL0 HM0 hsb
     go_enter Tryz.func105, Tryz.ntmps105
     go_wp2_with fail
     refine (l1In_yes _ 0 100 _ HN.out).mono ?_
     rintro e wx ⟨rfl, rfl⟩
     go_wp2_with fail
     refine (l1In_yes _ 0 100 _ HD.out).mono ?_
     rintro e wx ⟨rfl, rfl⟩
     go_wp2_with fail
     refine (l10Row_any 24 _ zO zO).mono ?_
     rintro e w1 ⟨gR, cR, rfl, hg1, hg2, hcl, hh1⟩
     have hz1 := hh1.size
     go_wp2_with fail
     refine (specPlaces_any m _).mono ?_
     rintro e w2 ⟨u2, rfl, hI2, hh2⟩
     have hz2 := hh2.size
     go_wp2_with fail
     refine (specPlaces_any j _).mono ?_
     rintro e w3 ⟨u3, rfl, hI3, hh3⟩
     have hz3 := hh3.size
     rw [HL.out] at hI2
     rw [HM.out] at hI3
     have hI2' := hI2.below hh3 (Nat.le_refl _)
     have hcl3 : ∀ i, i < 23 → w3.cell? ⟨gR, i, none⟩ = some (.int .i64 (fibN (i + 2) : Nat)) := fun i hi => cell_below hh3 (cell_below hh2 (hcl i hi))
     have hB3 : Below w.heap.size w w3 := (hh1.trans (hh2.mono hh1.size)).trans (hh3.mono (Nat.le_trans hh1.size hh2.size))
     obtain ⟨a2, c2, rfl, hC2, hs2⟩ := hI2'
     obtain ⟨a3, c3, rfl, hC3, hs3⟩ := hI3
     clear hcl hh1 hh2 hh3 hI2
     go_wp2_with fail
     go_loopw [9, 10, 11] (fun x y _ wr => ∃ k : Nat, k ≤ L.length ∧ y = .int .i64 k ∧ x = .int .i64 ((circS L M k : Nat) : Int) ∧ circS L M k ≤ 1000000 * k ∧ Below w3.heap.size w3 wr) (fun _ y _ _ => 30 - (intOf y).toNat)
     case atStart => exact ⟨0, by omega, rfl, rfl, by simp [circS], Below.refl _ _⟩
     case round =>
       obtain ⟨k, hk, rfl, rfl, hs, hB⟩ := hrel
       by_cases hlt : k < L.length
       · rcases hs2 with hs2 | ⟨g2, o2, rfl, hg3, hg4, hc2, hf2⟩
         · omega
         obtain ⟨b1, b2⟩ := HBD.out k hlt
         have hnx := circS_next (M := M) hlt
         have hck := cell_below hB (hc2 k hlt)
         obtain ⟨x, hx⟩ : ∃ x, L.getD k 0 = x := ⟨_, rfl⟩
         rw [hx] at b1 b2 hnx hck
         obtain ⟨s, hs'⟩ : ∃ s, circS L M k = s := ⟨_, rfl⟩
         rw [hs'] at hnx hs ⊢
         have HNK := Lib.hid hnx
         have hsbx := HSB.out x zO
         have HSX := Lib.hid hsbx
         have hki : (k : Int) < (L.length : Int) := by omega
         have k0 : (0 : Int) ≤ (k : Int) := by omega
         clear hx hs' hnx hsbx
         go_wp2_with fail
         go_loopw [9, 11] (fun z y wq => ∃ i : Nat, i ≤ M.length ∧ y = .int .i64 i ∧ z = .int .i64 ((s + sumAt (M.take i) x : Nat) : Int) ∧ Below wr.heap.size wr wq) (fun _ y _ => 30 - (intOf y).toNat)
         case atStart => exact ⟨0, by omega, rfl, congrArg (Value.int .i64) (by simp [sumAt]), Below.refl _ _⟩
         case round =>
           obtain ⟨i, hi, rfl, rfl, hQ⟩ := hrel
           by_cases hlt2 : i < M.length
           · rcases hs3 with hs3 | ⟨g3, o3, rfl, hg5, hg6, hc3, hf3⟩
             · omega
             obtain ⟨p1, p2⟩ := HBM.out i hlt2
             have hsn := sumAt_next (L := M) x hlt2
             have hsl := HSX.out i hi
             have hcy := cell_below hQ (cell_below hB (hc3 i hlt2))
             have hcx := cell_below hQ hck
             obtain ⟨y, hy⟩ : ∃ y, M.getD i 0 = y := ⟨_, rfl⟩
             rw [hy] at p1 p2 hsn hcy
             have hcr := cell_below hQ (cell_below hB (hcl3 (x + y - 2) zO))
             rw [show x + y - 2 + 2 = y + x by omega] at hcr
             have hfb := fibN_bd2 (y + x) zO
             obtain ⟨F, hF⟩ : ∃ F, fibN (y + x) = F := ⟨_, rfl⟩
             rw [hF] at hsn hcr hfb
             obtain ⟨u, hu⟩ : ∃ u, sumAt (M.take i) x = u := ⟨_, rfl⟩
             rw [hu] at hsn hsl ⊢
             have HSN := Lib.hid hsn
             have hii : (i : Int) < (M.length : Int) := by omega
             have i0 : (0 : Int) ≤ (i : Int) := by omega
             obtain ⟨t, ht⟩ : ∃ t, x + y - 2 = t := ⟨_, rfl⟩
             rw [ht] at hcr
             have U0 : IntKind.i64.wrap ((x : Int) + (y : Int)) = (x : Int) + (y : Int) := by rw [IntKind.wrap_i64]; omega
             have U1 : IntKind.i64.wrap ((x : Int) + (y : Int) - 2) = (t : Int) := by rw [IntKind.wrap_i64]; omega
             have U2 : IntKind.i64.wrap (((s + u : Nat) : Int) + (F : Int)) = ((s + u + F : Nat) : Int) := by rw [IntKind.wrap_i64]; omega
             have t0 : (0 : Int) ≤ (t : Int) := by omega
             have t23 : (t : Int) < 23 := by omega
             clear hy hF hu hsn ht
             go_wp2
             go_quiet (fail)
             go_wp2
             go_roundw
             case rel => exact ⟨i + 1, by omega, congrArg (Value.int .i64) zO, congrArg (Value.int .i64) (by rw [HSN.out]; omega), Go.below_drewN hQ _⟩
             case measure => simp [intOf]; omega
           · obtain rfl : i = M.length := by omega
             rw [List.take_length]
             have hsl := HSX.out M.length (Nat.le_refl _)
             rw [List.take_length] at hsl
             obtain ⟨u, hu⟩ : ∃ u, sumAt M x = u := ⟨_, rfl⟩
             rw [hu] at HNK hsl ⊢
             have hbnd : s + u ≤ 1000000 * (k + 1) := by omega
             clear hu
             go_wp2
             go_roundw
             case rel => exact ⟨k + 1, by omega, congrArg (Value.int .i64) zO, by rw [HNK.out], by rw [HNK.out]; exact hbnd, hB.trans (hQ.mono hB.size)⟩
             case measure => simp [intOf]; omega
       · obtain rfl : k = L.length := by omega
         obtain ⟨s, hs'⟩ : ∃ s, circS L M L.length = s := ⟨_, rfl⟩
         rw [hs'] at HV hs ⊢
         clear hs'
         go_wp2
         go_ret2
         exact ⟨ret_int_bool HV.out.symm HB.out.symm, hB3.trans (hB.mono hB3.size)⟩
end
section
open Go.RowKit
def bitS (b : Bool) : ByteArray := if b then ⟨#[49]⟩ else ⟨#[48]⟩
def wrT (L : List Nat) (h : Nat) : Nat → ByteArray
 | 0 => ⟨#[]⟩
 | c + 1 => wrT L h c ++ bitS (L.contains (h - c))
theorem bitS_size (b : Bool) : (bitS b).size = 1 := by cases b <;> rfl
theorem wrT_size (L : List Nat) (h : Nat) : ∀ c, (wrT L h c).size = c
 | 0 => rfl
 | c + 1 => by rw [wrT, ByteArray.size_append, wrT_size L h c, bitS_size]
def writtenT (n : Nat) : ByteArray := if n = 0 then ⟨#[48]⟩ else wrT (zeck n) ((zeck n).getD 0 0) ((zeck n).getD 0 0 - 1)
def writtenV (n : Int) : ByteArray := if inB n 0 10000 = true then writtenT n.toNat else ⟨#[]⟩
theorem writtenV_no {n : Int} (h : inB n 0 10000 = false) : writtenV n = ⟨#[]⟩ := by rw [writtenV, if_neg (by simp [h])]
theorem writtenV_is {n : Nat} (h : inB (n : Int) 0 10000 = true) : writtenV n = writtenT n := by rw [writtenV, if_pos h]; rfl
theorem contains_next {L : List Nat} {k p : Nat} (hk : k < L.length) : (L.take (k + 1)).contains p = ((L.take k).contains p || L.getD k 0 == p) := by
 have e : L.getD k 0 = L[k] := by simp [hk]
 rw [List.take_succ_eq_append_getElem hk, e, Bool.eq_iff_iff]
 simp only [List.contains_iff_mem, List.mem_append, List.mem_singleton, Bool.or_eq_true, beq_iff_eq]
 constructor <;> rintro (h | h) <;> first | exact .inl h | exact .inr h.symm
theorem zeckFrom_some : ∀ (k n : Nat), 2 ≤ k → 0 < n → zeckFrom k n ≠ []
 | 0, _, h, _ => by omega
 | 1, _, h, _ => by omega
 | 2, n, _, h0 => by rw [zeckFrom, if_pos ⟨h0, by show 1 ≤ n; omega⟩]; simp
 | k + 3, n, _, h0 => by
   rw [zeckFrom]
   split
   · simp
   · exact zeckFrom_some (k + 2) n zO h0
theorem ret_string {a b : ByteArray} (h : a = b) : Ending.returned (.string a) = .returned (.string b) := by rw [h]
set_option maxRecDepth 100000 in
set_option maxHeartbeats 8000000 in
theorem specWritten_any (n : Int) (w : World) : Calls Tryz.prog 106 #[.int .i64 n] w fun e w' => e = .returned (.string (writtenV n)) ∧ Below w.heap.size w w' := by
 cases hn : inB n 0 10000 with
 | false =>
   have HV := Lib.hid (writtenV_no hn)
   have HN := Lib.hid hn
   clear hn
   go_enter Tryz.func106, Tryz.ntmps106
   go_wp2_with fail
   refine (specPlaces_any _ _).mono ?_
   rintro e w1 ⟨u1, rfl, hI1, hh1⟩
   have hz1 := hh1.size
   clear hI1
   go_wp2_with fail
   refine (l1In_no n 0 10000 _ HN.out).mono ?_
   rintro e wx ⟨rfl, rfl⟩
   go_wp2
   go_ret
   exact ⟨ret_string HV.out.symm, by exact zb⟩
 | true =>
   obtain ⟨n1, n2⟩ := inB_true hn
   obtain ⟨m, rfl⟩ := Int.eq_ofNat_of_zero_le n1
   have HV := Lib.hid (writtenV_is hn)
   have HN := Lib.hid hn
   by_cases h0 : m = 0
   · subst h0
     have HF := Lib.hid (show writtenV 0 = ⟨#[48]⟩ from HV.out)
     have HN0 := Lib.hid (show inB 0 0 10000 = true from HN.out)
     show Calls _ _ #[.int .i64 0] w fun e w' => e = .returned (.string (writtenV 0)) ∧ Below w.heap.size w w'
     clear hn HV HN
     go_enter Tryz.func106, Tryz.ntmps106
     go_wp2_with fail
     refine (specPlaces_any 0 _).mono ?_
     rintro e w1 ⟨u1, rfl, hI1, hh1⟩
     have hz1 := hh1.size
     clear hI1
     go_wp2_with fail
     refine (l1In_yes _ 0 10000 _ HN0.out).mono ?_
     rintro e wx ⟨rfl, rfl⟩
     go_wp2
     go_ret
     exact ⟨ret_string HF.out.symm, by exact zb⟩
   · have hm0 : ((m : Int) == 0) = false := by simp; omega
     have HL := Lib.hid (placesL_is (n := m) zO)
     have hne := zeckFrom_some 20 m zO zO
     have hT : writtenT m = wrT (zeck m) ((zeck m).getD 0 0) ((zeck m).getD 0 0 - 1) := by rw [writtenT, if_neg h0]
     have hlen := zeck_len m
     have hbd := zeck_bd m
     have hpos : 0 < (zeck m).length := List.length_pos_iff.2 hne
     obtain ⟨h1, h2⟩ := hbd 0 hpos
     obtain ⟨L, hL⟩ : ∃ L, zeck m = L := ⟨_, rfl⟩
     rw [hL] at HL hT hlen hbd hpos h1 h2
     obtain ⟨h, hh⟩ : ∃ h, L.getD 0 0 = h := ⟨_, rfl⟩
     rw [hh] at hT h1 h2
     have HT := Lib.hid (HV.out.trans hT)
     have HH := Lib.hid hh
     clear hn hne hT hbd hL hh HV
     go_enter Tryz.func106, Tryz.ntmps106
     go_wp2_with fail
     refine (specPlaces_any _ _).mono ?_
     rintro e w1 ⟨u1, rfl, hI1, hh1⟩
     have hz1 := hh1.size
     rw [HL.out] at hI1
     obtain ⟨a1, c1, rfl, hC1, hs1⟩ := hI1
     rcases hs1 with hs1 | ⟨g, o, rfl, hg1, hg2, hc, hf⟩
     · omega
     have hc0 : w1.cell? ⟨g, o, none⟩ = some (.int .i64 (h : Int)) := by have := hc 0 hpos; simp only [Nat.add_zero, HH.out] at this; exact this
     have hl0 : (0 : Int) < (L.length : Int) := by omega
     have HC := Lib.hid hc
     clear hc hf
     go_wp2_with fail
     refine (l1In_yes _ 0 10000 _ HN.out).mono ?_
     rintro e wx ⟨rfl, rfl⟩
     go_wp2_with fail
     go_loopw [4, 5, 6, 7] (fun x y _ _ wr => ∃ c : Nat, c + 1 ≤ h ∧ x = .string (wrT L h c) ∧ y = .int .i64 ((h - c : Nat) : Int) ∧ w1 = wr) (fun _ y _ _ _ => (intOf y).toNat)
     case atStart => exact ⟨0, by omega, rfl, rfl, rfl⟩
     case round =>
       obtain ⟨c, hch, rfl, rfl, rfl⟩ := hrel
       obtain ⟨p, hp⟩ : ∃ p, h - c = p := ⟨_, rfl⟩
       rw [hp]
       by_cases h2p : 2 ≤ p
       · have h2i : (2 : Int) ≤ (p : Int) := by omega
         have hp20 : p ≤ 20 := by omega
         have HW := Lib.hid (show wrT L h (c + 1) = wrT L h c ++ bitS (L.contains p) by rw [wrT, hp])
         have hqs := wrT_size L h c
         obtain ⟨q, hq⟩ : ∃ q, wrT L h c = q := ⟨_, rfl⟩
         rw [hq] at HW hqs ⊢
         have hq20 : q.size ≤ 20 := by omega
         clear hqs
         have HPC := Lib.hid hp
         clear hp hq
         go_wp2_with fail
         go_loop [6, 7] (fun b y => ∃ k : Nat, k ≤ L.length ∧ y = .int .i64 k ∧ b = .string (bitS ((L.take k).contains p))) (fun _ y => 40 - (intOf y).toNat)
         case atStart => exact ⟨0, by omega, rfl, rfl⟩
         case round =>
           obtain ⟨k, hk, rfl, rfl⟩ := hrel
           by_cases hlt : k < L.length
           · have hki : (k : Int) < (L.length : Int) := by omega
             have k0 : (0 : Int) ≤ (k : Int) := by omega
             have hck : w1.cell? ⟨g, o + k, none⟩ = some (.int .i64 ((L.getD k 0 : Nat) : Int)) := HC.out k hlt
             have hnx := contains_next (p := p) hlt
             obtain ⟨x, hx⟩ : ∃ x, L.getD k 0 = x := ⟨_, rfl⟩
             rw [hx] at hck hnx
             by_cases hxp : x = p
             · subst hxp
               have HX := Lib.hid (show (L.take (k + 1)).contains x = true by rw [hnx]; simp)
               clear hx hnx
               go_wp2
               go_round
               case rel => exact ⟨k + 1, by omega, congrArg (Value.int .i64) zO, by rw [HX.out]; rfl⟩
               case measure => simp [intOf]; omega
             · have hxb : ((x : Int) == (p : Int)) = false := by simp; omega
               have HX := Lib.hid (show (L.take (k + 1)).contains p = (L.take k).contains p by rw [hnx]; simp [hxp])
               obtain ⟨b, hb⟩ : ∃ b, (L.take k).contains p = b := ⟨_, rfl⟩
               rw [hb] at HX ⊢
               clear hx hnx hb
               go_wp2
               go_round
               case rel => exact ⟨k + 1, by omega, congrArg (Value.int .i64) zO, by rw [HX.out]⟩
               case measure => simp [intOf]; omega
           · obtain rfl : k = L.length := by omega
             rw [List.take_length]
             obtain ⟨b, hb⟩ : ∃ b, L.contains p = b := ⟨_, rfl⟩
             rw [hb] at HW ⊢
             have hbs := bitS_size b
             have hsum : q.size + (bitS b).size ≤ 9223372036854775807 := by omega
             clear hb hbs
             go_wp2
             go_roundw
             case rel => exact ⟨c + 1, by have := HPC.out; omega, by rw [HW.out], congrArg (Value.int .i64) (by have := HPC.out; omega), (by first | rfl | trivial)⟩
             case measure => simp [intOf]; omega
       · have hp1 : p = 1 := by omega
         have hcc : c = h - 1 := by omega
         subst hcc
         have h2i : (p : Int) < 2 := by omega
         obtain ⟨q, hq⟩ : ∃ q, wrT L h (h - 1) = q := ⟨_, rfl⟩
         rw [hq] at HT ⊢
         clear hq
         go_wp2
         go_ret
         exact ⟨ret_string HT.out.symm, by exact zb⟩
end
section
open Go.RowKit
theorem weight_bd {p q : Int} (h : pairB p q = true) : -16 ≤ p * p - 4 * q ∧ p * p - 4 * q ≤ 32 := by
 obtain ⟨⟨r1, r2⟩, r3, r4⟩ := pairB_true h
 rcases (show p = -4 ∨ p = -3 ∨ p = -2 ∨ p = -1 ∨ p = 0 ∨ p = 1 ∨ p = 2 ∨ p = 3 ∨ p = 4 by omega) with rfl | rfl | rfl | rfl | rfl | rfl | rfl | rfl | rfl <;> omega
theorem weightV_is {p q : Int} (h : pairB p q = true) : weightV p q = p * p - 4 * q := by rw [weightV, if_pos h]
theorem specWeight_val (p q v : Int) (w : World) (h : pairB p q = true) (hv : weightV p q = v) : Calls Tryz.prog 66 #[pr p q] w fun e w' => e = .returned (.tuple #[.int .i64 v, .bool true]) ∧ Below w.heap.size w w' := by
 have := specWeight_any p q w
 rw [h, hv] at this
 exact this
theorem specWeight_not (p q : Int) (w : World) (h : pairB p q = false) : Calls Tryz.prog 66 #[pr p q] w fun e w' => e = .returned (.tuple #[.int .i64 0, .bool false]) ∧ Below w.heap.size w w' := by
 have := specWeight_any p q w
 rw [weightV, h] at this
 exact this
end
section
open Go.RowKit Go.Shelf
attribute [local go_sem] Oper.semAt_some
set_option maxHeartbeats 400000 in
theorem primePowers_any (k : Int) (w : World) :
   Calls Tryz.prog 204 #[.int .i64 k] w fun e w' => e = .returned (.func (.func 219) #[] #[.pointer (some ⟨w.heap.size, 0, none⟩)]) ∧ w' = w.alloc (.cells #[.int .i64 k] 3) := by
 have hmf : ∀ (fn : Fn) (first cap : Array Value) (w : World), (Instr.makeFunc fn first cap).run Tryz.prog w = .ok (.func fn first cap) w := fun _ _ _ _ => rfl
 go_enter Tryz.func204, Tryz.ntmps204
 go_wp2
 go_ret
 exact ⟨rfl, rfl⟩
set_option maxHeartbeats 4000000 in
theorem primePowers_counted (n : Nat) (hn : 1 ≤ n) (m B : Nat) (w : World) (m1 : 1 ≤ m) (m2 : m ≤ 10000) :
   Counted Fence.wide n Tryz.prog 219 #[.pointer (some ⟨B, 0, none⟩)] (fun k => #[.int .i64 ((ppL m).getD k 0 : Nat)]) (fun V => V.cell? ⟨B, 0, none⟩ = some (.int .i64 m)) (ppL m).length w := by
 intro l J X W hW hJ hX hKp hY h0
 have c0 := hKp 0 W h0
 refine callsIn_of_wp Tryz.func219 rfl trivial ?_ rfl
 simp only [Tryz.ntmps219, List.size_toArray, List.length_cons, List.length_nil, Nat.reduceAdd, Nat.reduceSub, Array.replicate_succ, Array.replicate_zero, List.push_toArray, List.append_toArray, List.nil_append, List.cons_append]
 gi_wp2
 clear c0
 gi_loopg [3, 4, 5] m (fun r x y _ wr => ∃ p s k : Nat, p + r = m + 2 ∧ x = .int .i64 s ∧ y = .int .i64 p ∧ PPState m k p s ∧ J k wr)
 case atStart => exact ⟨2, m, 0, by omega, rfl, rfl, PPState.start m1, h0⟩
 case round =>
   obtain ⟨p, s, k, hpr, rfl, rfl, hst, hj⟩ := hrel
   obtain ⟨g0, hg0⟩ : ∃ g0, gk = g0 := ⟨_, rfl⟩
   have p2 := hst.1
   have s1 := hst.2.1
   have s2 := hst.2.2.1
   by_cases hs : 1 < s
   · have hps := hst.big hs
     have hd : decide ((1 : Int) < (s : Int)) = true := by simp; omega
     have hz : ((p : Int) == 0) = false := by simp; omega
     have HST := Lib.hid hst
     clear hst
     gi_wp2
     gi_loopg [3, 5] s (fun r x y wr => ∃ t u : Nat, t = r ∧ x = .int .i64 t ∧ y = .int .i64 u ∧ PowState p s t u ∧ J k wr)
     case atStart => exact ⟨s, 1, rfl, rfl, rfl, PowState.start s1, hj⟩
     case round =>
       obtain ⟨t, u, rfl, rfl, rfl, hpw, hj'⟩ := hrel
       obtain ⟨t2, u2⟩ := hpw.bd
       have t1 := hpw.1.1
       have HPW := Lib.hid hpw
       clear hpw
       by_cases hdv : p ∣ t
       · have hT : ((t : Int) % (p : Int) == 0) = true := by rw [div_test]; simpa using hdv
         have hlt : t / p < t := Nat.div_lt_self t1 p2
         have HN := Lib.hid (HPW.out.next p2 (Nat.mod_eq_zero_of_dvd hdv))
         obtain ⟨c, hc⟩ : ∃ c, t / p = c := ⟨_, rfl⟩
         have EC := Lib.hid (show (t : Int) / (p : Int) = (c : Int) by rw [← hc]; simp)
         rw [hc] at HN hlt
         obtain ⟨hb1, hb2⟩ := HN.out.bd
         have EM := Lib.hid (show (u : Int) * (p : Int) = ((u * p : Nat) : Int) by simp)
         have U1 : IntKind.i64.wrap ((u : Int) * (p : Int)) = (u : Int) * (p : Int) := by rw [EM.out, IntKind.wrap_i64]; omega
         have U2 : IntKind.i64.wrap ((t : Int) / (p : Int)) = (t : Int) / (p : Int) := by rw [EC.out, IntKind.wrap_i64]; omega
         clear hdv hb1 hb2 hc
         gi_wp2
         gi_roundg c
         case measure => omega
         case rel => exact ⟨c, u * p, rfl, congrArg (Value.int .i64) EC.out, congrArg (Value.int .i64) EM.out, HN.out, hj'⟩
       · have hT : ((t : Int) % (p : Int) == 0) = false := by rw [div_test]; simpa using hdv
         obtain ⟨e1, e2⟩ := HPW.out.done (fun h => hdv (Nat.dvd_of_mod_eq_zero h))
         by_cases hw : 1 < u
         · obtain ⟨hk, hg, hst'⟩ := HST.out.yes hs (by rw [← e1]; exact hw)
           rw [← e1] at hg
           rw [← e2] at hst'
           obtain ⟨fn, tmps, assign, body, hy, hR⟩ := hY k _ hk hj'
           simp only [hg] at hy
           have HS := Lib.hid hst'
           clear hg hst' e1 e2 hdv HPW HST
           gi_wp2
           refine hR.mono ?_
           rintro e W3 (⟨rfl, hj3⟩ | ⟨rfl, hx3⟩)
           · gi_wp2
             gi_roundg (g0 - 1)
             case measure => omega
             case rel => exact ⟨p + 1, t, k + 1, by omega, rfl, congrArg (Value.int .i64) zO, HS.out, hj3⟩
           · gi_wp2
             refine bodyPost_ret (results_none rfl _ _ _) rfl ?_
             exact ⟨⟨_, rfl⟩, .inr ⟨k, hk, hx3⟩⟩
         · have hst' := HST.out.no hs (by rw [← e1]; exact hw)
           rw [← e2] at hst'
           have HS := Lib.hid hst'
           have hw' : u ≤ 1 := by omega
           clear hst' e1 e2 hdv HPW HST hw
           gi_wp2
           refine ⟨fun f e => (by cases e), ?_⟩
           gi_wp2
           gi_roundg (g0 - 1)
           case measure => omega
           case rel => exact ⟨p + 1, t, k, by omega, rfl, congrArg (Value.int .i64) zO, HS.out, hj'⟩
   · have he := hst.done hs
     rw [he] at hj
     have hs' : s ≤ 1 := by omega
     clear hst he hs
     gi_wp2
     go_end0
     exact ⟨⟨_, rfl⟩, .inl hj⟩
end
section
open Go.RowKit Go.Shelf
def tabB (m j r : Nat) : Bool := (List.range j).any fun k => decide (1 ≤ k) && (k * k % m == r)
theorem tabB_iff {m j r : Nat} : tabB m j r = true ↔ ∃ k, 1 ≤ k ∧ k < j ∧ k * k % m = r := by
 simp only [tabB, List.any_eq_true, List.mem_range, Bool.and_eq_true, decide_eq_true_eq, beq_iff_eq]
 exact ⟨fun ⟨k, a, b, c⟩ => ⟨k, b, a, c⟩, fun ⟨k, a, b, c⟩ => ⟨k, b, a, c⟩⟩
theorem tabB_succ (m j r : Nat) (hj : 1 ≤ j) : tabB m (j + 1) r = (tabB m j r || (j * j % m == r)) := by
 rw [Bool.eq_iff_iff, Bool.or_eq_true, beq_iff_eq, tabB_iff, tabB_iff]
 constructor
 · rintro ⟨k, a, b, c⟩
   rcases Nat.eq_or_lt_of_le (Nat.le_of_lt_succ b) with rfl | h
   · exact .inr c
   · exact .inl ⟨k, a, h, c⟩
 · rintro (⟨k, a, b, c⟩ | h)
   · exact ⟨k, a, by omega, c⟩
   · exact ⟨j, hj, by omega, h⟩
def TabIs (G m j : Nat) (W : World) : Prop := ∀ r, r < m → W.cell? ⟨G, r, none⟩ = some (.bool (tabB m j r)) ∧ W.frozen? ⟨G, r, none⟩ = false
theorem TabIs.set {G m j r : Nat} {W : World} (h : TabIs G m j W) (hj : 1 ≤ j) (hr : j * j % m = r) (hm : r < m) : TabIs G m (j + 1) (W.setCell ⟨G, r, none⟩ (.bool true)) := by
 intro x hx
 rw [tabB_succ m j x hj, hr]
 by_cases e : r = x
 · subst e
   simp only [beq_self_eq_true, Bool.or_true]
   exact ⟨set_same (h r hm).1, set_frozen (h r hm).2⟩
 · rw [show (r == x) = false by simpa using e, Bool.or_false]
   exact ⟨(World.cell?_setCell_other _ ⟨G, r, none⟩ ⟨G, x, none⟩ _ (fun e' => by injection e' with _ e'; omega)).trans (h x hx).1, set_frozen (h x hx).2⟩
def SqTab (G m : Nat) (W : World) : Prop := ∀ r, 1 ≤ r → r < m → W.cell? ⟨G, r, none⟩ = some (.bool (sqN m r))
theorem SqTab.below {G m : Nat} {W W' : World} (h : SqTab G m W) (hb : Below W.heap.size W W') : SqTab G m W' := fun r a b => cell_below hb (h r a b)
theorem SqTab.set {G m S o : Nat} {v : Value} {W : World} (h : SqTab G m W) (hS : G ≠ S) : SqTab G m (W.setCell ⟨S, o, none⟩ v) := fun r a b => (set_other hS).trans (h r a b)
def Signs (m P O S : Nat) (W : World) : Prop :=
 (W.cell? ⟨P, 0, none⟩ = some (.int .i64 m) ∧ W.cell? ⟨O, 1, none⟩ = some (.int .i32 0)) ∧
 (W.frozen? ⟨O, 0, none⟩ = false ∧ W.frozen? ⟨O, 1, none⟩ = false ∧ W.frozen? ⟨S, 0, none⟩ = false) ∧
 ((W.cell? ⟨O, 0, none⟩ = some (.int .u32 0) ∧ ∃ x, W.cell? ⟨S, 0, none⟩ = some x) ∨
  (W.cell? ⟨O, 0, none⟩ = some (.int .u32 1) ∧ ∃ G, W.cell? ⟨S, 0, none⟩ = some (.slice (some ⟨G, 0, none⟩) m m) ∧ SqTab G m W))
theorem Signs.sound {m P O S : Nat} {W : World} (h : Signs m P O S W) : (∃ x, W.cell? ⟨O, 0, none⟩ = some x) ∧ ∃ x, W.cell? ⟨S, 0, none⟩ = some x := by
 obtain ⟨_, _, ⟨h1, h2⟩ | ⟨h1, G, h2, _⟩⟩ := h
 · exact ⟨⟨_, h1⟩, h2⟩
 · exact ⟨⟨_, h1⟩, _, h2⟩
theorem Signs.below {m P O S : Nat} {W W' : World} (h : Signs m P O S W) (hb : Below W.heap.size W W') : Signs m P O S W' := by
 obtain ⟨⟨x0, hx0⟩, x1, hx1⟩ := h.sound
 obtain ⟨⟨a1, a2⟩, ⟨b1, b2, b3⟩, ⟨c1, x, c2⟩ | ⟨c1, G, c2, c3⟩⟩ := h
 · exact ⟨⟨cell_below hb a1, cell_below hb a2⟩, ⟨frozen_below hb hx0 b1, frozen_below hb a2 b2, frozen_below hb hx1 b3⟩, .inl ⟨cell_below hb c1, x, cell_below hb c2⟩⟩
 · exact ⟨⟨cell_below hb a1, cell_below hb a2⟩, ⟨frozen_below hb hx0 b1, frozen_below hb a2 b2, frozen_below hb hx1 b3⟩, .inr ⟨cell_below hb c1, G, cell_below hb c2, c3.below hb⟩⟩
end
section
open Go.RowKit
theorem implWeight_is (p q v : Int) (c : Bool) (w : World) (hv : weightV p q = v) (hc : pairB p q = c) : Calls Tryz.prog 147 #[pr p q] w fun e w' => e = .returned (.tuple #[.int .i64 v, .bool c]) ∧ Below w.heap.size w w' := by rw [← hv, ← hc]; exact implWeight_any p q w
end
section
open Go.RowKit Go.Shelf
theorem own_low {W : World} {b b' : Nat} {e : TypeId} {size k : Nat} {v : Value} {xs : List Value} (h : W.ownsRow b e size v k xs) (hb : b' ≤ b) : W.ownsRow b' e size v k xs := by
 refine ⟨h.1, ?_⟩
 rcases h.2 with h0 | ⟨g, cap, cur, e1, e2, e3⟩
 · exact .inl h0
 · exact .inr ⟨g, cap, cur, e1, Nat.le_trans hb e2, e3⟩
theorem appended_far {W w1 : World} {n₀ G b : Nat} {t e : TypeId} {size : Nat} {v v' : Value} {k m : Nat} {xs ys : List Value} {tmp : Obj}
   (hv : Boxed W G t v) (hte : t ≠ e) (hrow : W.ownsRow b e size v k xs) (hn₀ : n₀ ≤ W.heap.size) (hG : n₀ ≤ G) (hnb : n₀ ≤ b) (hbW : b ≤ W.heap.size)
   (hown' : w1.ownsRow b e size v' m ys) (hgrow : (W.alloc tmp).grownBy w1 v.ownBlock) :
   Boxed w1 G t v ∧ Boxed (w1.setCell ⟨G, 0, none⟩ v') G t v' ∧ (w1.setCell ⟨G, 0, none⟩ v').ownsRow b e size v' m ys ∧ KeepsOthers W (w1.setCell ⟨G, 0, none⟩ v') ∧ Below n₀ W (w1.setCell ⟨G, 0, none⟩ v') ∧
     ∀ c o, c < b → c ≠ G → (w1.setCell ⟨G, 0, none⟩ v').cell? ⟨c, o, none⟩ = W.cell? ⟨c, o, none⟩ := by
 obtain ⟨a1, a2, a3, a4, a5⟩ := hv.appended hte (own_low hrow hnb) hn₀ hG (own_low hown' hnb) hgrow
 refine ⟨a1, a2, hown'.kept (grownBy_setCell' w1 G v') (.inr (a1.not_row hte hown').symm), a4, a5, fun c o hc hne => ?_⟩
 refine (World.cell?_setCell_other w1 ⟨G, 0, none⟩ ⟨c, o, none⟩ v' (fun e' => hne (by injection e' with e' _ _; exact e'.symm))).trans ?_
 refine World.cell?_of_block (w := W) (a := ⟨c, o, none⟩) ?_
 have hcW : c < W.heap.size := by omega
 refine (hgrow.block c (by simp; omega) fun ej => ?_).trans (Below.heap_alloc _ _ _ hcW)
 rcases hrow.2 with ⟨rfl, _⟩ | ⟨g, cap, cur, rfl, hb, _, _⟩
 · simp [Value.ownBlock] at ej
 · obtain rfl : c = g := by simpa [Value.ownBlock] using ej
   omega
theorem natCells_next {L : List Nat} {k : Nat} (hk : k < L.length) : natCells (L.take k) ++ [.int .i64 ((L.getD k 0 : Nat) : Int)] = natCells (L.take (k + 1)) := by
 have e : L.getD k 0 = L[k] := by simp [hk]
 rw [List.take_succ_eq_append_getElem hk, e]
 simp only [natCells, List.map_append, List.map_cons, List.map_nil]
end
section
open Go.RowKit Go.Shelf
attribute [local go_sem] Oper.semAt_some
set_option maxHeartbeats 4000000 in
theorem rowFrom_far (n : Nat) (hn : 1 ≤ n) (p q a b : Int) (B N : Nat) (w : World) (h1 : -4 ≤ p) (h2 : p ≤ 4) (h3 : -4 ≤ q) (h4 : q ≤ 4) (h5 : -4 ≤ a) (h6 : a ≤ 4) (h7 : -4 ≤ b) (h8 : b ≤ 4) (hN : N ≤ 23) :
   Endless Fence.wide n Tryz.prog 218 #[.pointer (some ⟨B + 1, 0, none⟩), .pointer (some ⟨B + 1 + 1, 0, none⟩), .pointer (some ⟨B, 0, none⟩)] (fun k => #[.int .i64 (row p q a b k)]) (RowBoxes B p q a b) N w := by
 intro l J X W hW hJ hX hKp hY hN0 h0
 obtain ⟨c1, c2, c3, c4⟩ := hKp 0 W h0
 refine callsIn_of_wp Tryz.func218 rfl trivial ?_ rfl
 simp only [Tryz.ntmps218, List.size_toArray, List.length_cons, List.length_nil, Nat.reduceAdd, Nat.reduceSub, Array.replicate_succ, Array.replicate_zero, List.push_toArray, List.append_toArray, List.nil_append, List.cons_append]
 gi_wp2
 gi_quiet (fail)
 rename_i nq
 have h0' := abides_drew hJ h0 nq
 clear h0 c1 c2 c3 c4
 gi_wp2
 gi_loopg [5, 6] N (fun r x y wr => ∃ k, k + r = N ∧ k < N ∧ x = .int .i64 (row p q a b k) ∧ y = .int .i64 (row p q a b (k + 1)) ∧ J k wr)
 case atStart => exact ⟨0, by omega, hN0, rfl, rfl, h0'⟩
 case round =>
   obtain ⟨k, hkr, hk, rfl, rfl, hj⟩ := hrel
   obtain ⟨c1, c2, _, _⟩ := hKp k wr hj
   obtain ⟨fn, tmps, assign, body, hy, hR⟩ := hY k wr hk hj
   gi_wp2
   refine hR.mono ?_
   rintro e W3 (⟨rfl, hlt, hj3⟩ | ⟨rfl, hx3⟩)
   · obtain ⟨d1, d2, _, _⟩ := hKp (k + 1) W3 hj3
     obtain ⟨⟨x1, x2⟩, x3, x4⟩ := row_next (a := a) (b := b) h1 h2 h3 h4 h5 h6 h7 h8 k zO
     have U3 := Lib.hid (row_step p q a b k)
     gi_wp2
     gi_quiet (fail)
     rename_i nq
     have hj4 := abides_drew hJ hj3 nq
     gi_wp2
     gi_roundg (gk - 1)
     case measure => omega
     case rel => exact ⟨k + 1, by omega, hlt, rfl, by rw [← U3.out], hj4⟩
   · gi_wp2
     go_end0
     exact ⟨⟨_, rfl⟩, k, hk, hx3⟩
def FibAll (w : World) (e : Ending) (w' : World) : Prop :=
 ∃ g c, e = .returned (.slice (some ⟨g, 0, none⟩) 23 c) ∧ w.heap.size ≤ g ∧ g < w'.heap.size ∧ (∀ i, i < 23 → w'.cell? ⟨g, i, none⟩ = some (.int .i64 (fibN i : Nat))) ∧ Below w.heap.size w w'
theorem fib_cells : ∀ k, k < 23 → natCells (fibT.take k) ++ [.int .i64 (row 1 (-1) 0 1 k)] = natCells (fibT.take (k + 1)) := fun k hk => by
 rw [fibN_row k zO]; exact natCells_next (by decide +revert)
theorem fib_at : ∀ i, i < 23 → (natCells (fibT.take 23))[i]? = some (.int .i64 ((fibN i : Nat) : Int)) := fun i hi => by
 have h : (fibT.take 23)[i]? = some (fibN i) := by decide +revert
 rw [natCells, List.getElem?_map, h]; rfl
set_option maxRecDepth 100000 in
set_option maxHeartbeats 8000000 in
theorem fibRow_any (w : World) : Calls Tryz.prog 211 #[] w (FibAll w) := by
 obtain ⟨i0, hi0, hzi0, hzi1, hzi2⟩ := info_parts info_int
 refine (callsIn_wide (n := 9)).1 ?_
 refine callsIn_of_wp_marks Tryz.func211 rfl trivial ?_ rfl
 simp only [Tryz.ntmps211, List.size_toArray, List.length_nil, Nat.reduceSub, Array.replicate_succ, Array.replicate_zero, List.push_toArray, List.append_toArray, List.nil_append, List.cons_append]
 gi_wp2_with fail
 refine ⟨trivial, (callsIn_wide.2 (rowFrom_any 1 (-1) 0 1 _)).mono ?_⟩
 rintro e w2 ⟨rfl, rfl⟩
 gi_wp2_with fail
 refine wpIn_rangeFunc_endless (P := Tryz.prog) rfl zO (gf := 218) (lb := #[.pointer (some ⟨w.heap.size + 1 + 1, 0, none⟩), .pointer (some ⟨w.heap.size + 1 + 1 + 1, 0, none⟩), .pointer (some ⟨w.heap.size + 1, 0, none⟩)]) rfl trivial (enters_of Tryz.func218 (by kernel_rfl) rfl)
   (rowFrom_far 8 zO 1 (-1) 0 1 (w.heap.size + 1) 23 _ zO zO zO zO zO zO zO zO zO) (Below.refl _ _) (fun _ => rfl) zO
   (fun k W => k < 23 ∧ (∃ v, Boxed W w.heap.size 99 v ∧ W.ownsRow (w.heap.size + 4) 3 1 v k (natCells (fibT.take k))) ∧ RowBoxes (w.heap.size + 1) 1 (-1) 0 1 W ∧ w.heap.size + 4 ≤ W.heap.size ∧ Below w.heap.size w W)
   (fun c k W => c = .exit 0 ∧ (∃ v, Boxed W w.heap.size 99 v ∧ W.ownsRow (w.heap.size + 4) 3 1 v 23 (natCells (fibT.take 23))) ∧ Below w.heap.size w W)
   ?own ?ownX (fun k V h => h.2.2.1) ?start (fun k => { tmps := #[.slice none 0 0, .pointer (some ⟨w.heap.size, 0, none⟩), .int .i64 (row 1 (-1) 0 1 k), .agg #[.int .i64 1, .int .i64 (-1)], .func (.func 218) #[] #[.pointer (some ⟨w.heap.size + 1 + 1, 0, none⟩), .pointer (some ⟨w.heap.size + 1 + 1 + 1, 0, none⟩), .pointer (some ⟨w.heap.size + 1, 0, none⟩)], .int .i64 (row 1 (-1) 0 1 k), undef, undef, undef, undef, undef, undef, undef, undef], defers := [] }) ?assign ?body ?stop
 case own =>
   rintro k A V row ⟨x0, ⟨v, hv, hr⟩, ⟨x1, x2, x3, x4⟩, hsz, hb⟩ hg hrow
   have hr' := fun r e => (hrow r e).2
   obtain ⟨v', hv', hr2, _⟩ := holdsRow_own (β := Nat) (w.heap.size + 4) w.heap.size 99 3 1 (fun k => k) (fun k => natCells (fibT.take k)) (fun _ _ => True) k A V row ⟨v, hv, hr, trivial⟩ hg hr'
   have hgs := hg.size
   exact ⟨x0, ⟨v', hv', hr2⟩, ⟨cell_kept x1 hg hr', cell_kept x2 hg hr', cell_kept x3 hg hr', cell_kept x4 hg hr'⟩, by omega, hb.grown hg hb.size (fun k e => by have := (hrow k e).1; simp at this; omega)⟩
 case ownX =>
   rintro c k A V row ⟨x0, ⟨v, hv, hr⟩, hb⟩ hg hrow
   have hr' := fun r e => (hrow r e).2
   obtain ⟨v', hv', hr2, _⟩ := holdsRow_own (β := Nat) (w.heap.size + 4) w.heap.size 99 3 1 (fun k => k) (fun k => natCells (fibT.take k)) (fun _ _ => True) 23 A V row ⟨v, hv, hr, trivial⟩ hg hr'
   exact ⟨x0, ⟨v', hv', hr2⟩, hb.grown hg hb.size (fun k e => by have := (hrow k e).1; simp at this; omega)⟩
 case start =>
   have bO := Boxed.new w 99 (.slice none 0 0)
   exact ⟨by omega, ⟨_, ((bO.alloc _).alloc _).alloc _, World.ownsRow_nil _ _ _ _⟩, ⟨by go_simp, by go_simp, by go_simp, by go_simp⟩, (by first | (simp; done) | (simp; omega)), by exact zb⟩
 case assign =>
   intro l k W K hK
   gi_wp2
   exact hK
 case body =>
   rintro l k W hk ⟨x0, ⟨v, hv, hrow⟩, ⟨x1, x2, x3, x4⟩, hsz, hB⟩
   have hc := hv.cell
   have hne := fib_cells k hk
   gi_wp2_with (gi_at_builtin; refine wpListIn_append_own _ rfl _ _ 99 rfl (w.heap.size + 4) 3 i0 (.int .i64 0) 1 8 Tryz.underlying99 hi0 hzi0 hzi1 hzi2 rfl zd _ _ _ rfl (hrow.alloc _) ⟨W.heap.size, 0, none⟩ 1 1 [.int .i64 (row 1 (-1) 0 1 k)] rfl rfl (cell_one_new _ _ _) (by simp [Value.oneCell']) (by unfold maxLen; omega) zO (by simp; omega) ?_; intro v' w3 hown' hgrow _; rw [hne] at hown'; obtain ⟨g', cap', rfl⟩ := ownsRow_succ hown'; obtain ⟨hv1, hv2, hr2, hk2, hb2, hf2⟩ := appended_far hv zd hrow hB.size zO zO hsz hown' hgrow; have hc1 := hv1.cell; have hf1 := hv1.frozen; have hc2 := hv2.cell; have y1 := (hf2 (w.heap.size + 1) 0 zO zO).trans x1; have y2 := (hf2 (w.heap.size + 1) 1 zO zO).trans x2; have y3 := (hf2 (w.heap.size + 1 + 1) 0 zO zO).trans x3; have y4 := (hf2 (w.heap.size + 1 + 1 + 1) 0 zO zO).trans x4; have hz2 := hb2.size; have HV2 := Lib.hid hv2; have HR2 := Lib.hid hr2; have HK2 := Lib.hid hk2; have HB2 := Lib.hid (hB.trans hb2); clear hf2 hv2 hr2 hk2 hb2 hown' hgrow hc)
   all_goals first
     | exact ⟨HK2.out, by omega, by omega, ⟨_, HV2.out, HR2.out⟩, ⟨y1, y2, y3, y4⟩, by omega, HB2.out⟩
     | (obtain rfl : k = 22 := by omega
        exact ⟨HK2.out, rfl, ⟨_, HV2.out, HR2.out⟩, HB2.out⟩)
 case stop =>
   rintro D k c W hD hk ⟨rfl, ⟨v, hv, hrow⟩, hB⟩ hK
   have hc := hv.cell
   have hD' : w.heap.size ≤ D := by simp at hD; omega
   obtain ⟨g, cg, rfl⟩ := ownsRow_succ hrow
   gi_wp2
   refine ⟨by simp, .inl ⟨_, _, rfl, run_takeDeferred hK, ?_⟩⟩
   have hr2 := ownsRow_putObj hrow (.deferred none) hK rfl
   have hl := hr2.lt g rfl
   have hB2 := hB.grown (grownBy_putObj' _ D (.deferred none)) hB.size (fun k e => by cases e; exact hD')
   exact ⟨_, results_tmp rfl _ _ _, g, cg, rfl, by omega, hl.2, fun i hi => own_cell (hr2.cells rfl) (fib_at i hi), hB2⟩
set_option maxHeartbeats 1000000 in
theorem greatBy_any (g n c : Nat) (w : World) : Calls Tryz.prog 212 #[.slice (some ⟨g, 0, none⟩) n c] w fun e w' => e = .returned (.func (.func 221) #[] #[.pointer (some ⟨w.heap.size, 0, none⟩)]) ∧ w' = w.alloc (.cells #[.slice (some ⟨g, 0, none⟩) n c] 99) := by
 have hmf : ∀ (fn : Fn) (first cap : Array Value) (w : World), (Instr.makeFunc fn first cap).run Tryz.prog w = .ok (.func fn first cap) w := fun _ _ _ _ => rfl
 go_enter Tryz.func212, Tryz.ntmps212
 go_wp2
 go_ret
 exact ⟨rfl, rfl⟩
set_option maxHeartbeats 4000000 in
theorem greatIn_at (b g c n k : Nat) (w : World) (hb : w.cell? ⟨b, 0, none⟩ = some (.slice (some ⟨g, 0, none⟩) 23 c)) (hc : ∀ i, i < 23 → w.cell? ⟨g, i, none⟩ = some (.int .i64 (fibN i : Nat))) (k2 : 2 ≤ k) (k9 : k ≤ 21) (h1 : fibN k ≤ n) (h2 : n < fibN (k + 1)) :
   Calls Tryz.prog 221 #[.int .i64 n, .pointer (some ⟨b, 0, none⟩)] w fun e w' => e = .returned (.int .i64 k) ∧ w = w' := by
 have HC := Lib.hid hc
 clear hc
 go_enter Tryz.func221, Tryz.ntmps221
 go_wp2
 go_loop [4] (fun x => ∃ j : Nat, k ≤ j ∧ j ≤ 22 ∧ x = .int .i64 j) (fun x => (intOf x).toNat)
 case atStart => exact ⟨22, by omega, by omega, rfl⟩
 case round =>
   obtain ⟨j, j1, j2, rfl⟩ := hrel
   have hcell := HC.out j zO
   have hfb := fibN_bd j zO
   have j0 : (0 : Int) ≤ (j : Int) := by omega
   have j23 : (j : Int) < 23 := by omega
   by_cases hj : j = k
   · subst hj
     have hd : ((fibN j : Nat) : Int) ≤ (n : Int) := by omega
     obtain ⟨u, hu⟩ : ∃ u, fibN j = u := ⟨_, rfl⟩
     rw [hu] at hcell hd hfb
     clear hu h1 h2
     go_wp2
     go_ret
     exact ⟨rfl, rfl⟩
   · have hm := fibN_mono (k + 1) zO j zO zO zO
     have hd : (n : Int) < ((fibN j : Nat) : Int) := by omega
     obtain ⟨u, hu⟩ : ∃ u, fibN j = u := ⟨_, rfl⟩
     rw [hu] at hcell hd hfb hm
     clear hu h1 h2 hm
     go_wp2
     go_round
     case rel => exact ⟨j - 1, by omega, by omega, congrArg (Value.int .i64) zO⟩
     case measure => simp [intOf]; omega
theorem zeckFrom_low : ∀ (d k n : Nat), k + d < 24 → n < fibN (k + 1) → 1 ≤ k → zeckFrom (k + d) n = zeckFrom k n
 | 0, k, n, _, _, _ => rfl
 | d + 1, k, n, h, hn, hk => by
   rw [← zeckFrom_low d k n zO hn hk]
   obtain ⟨k, rfl⟩ : ∃ t, k = t + 1 := ⟨k - 1, by omega⟩
   have := fibN_mono (k + 1 + 1) zO (k + 1 + (d + 1)) zO zO zO
   rw [show k + 1 + (d + 1) = k + d + 2 by omega] at this ⊢
   rw [zeckFrom_no zO, show k + 1 + d = k + d + 1 by omega]
theorem zeckFrom_peel : ∀ (k n : Nat), k < 23 → 0 < n → n < fibN (k + 1) → ∃ x, 2 ≤ x ∧ x ≤ k ∧ fibN x ≤ n ∧ n < fibN (x + 1) ∧ zeckFrom k n = x :: zeckFrom k (n - fibN x)
 | 0, n, _, h0, h1 => by have : fibN (0 + 1) = 1 := rfl; omega
 | 1, n, _, h0, h1 => by have : fibN (1 + 1) = 1 := rfl; omega
 | k + 2, n, hk, h0, h1 => by
   by_cases h : fibN (k + 2) ≤ n
   · refine ⟨k + 2, by omega, Nat.le_refl _, h, h1, ?_⟩
     rw [zeckFrom_yes h0 h]
     have e : fibN (k + 2 + 1) = fibN (k + 2) + fibN (k + 1) := fibN_next (k + 1) zO
     have e2 : fibN (k + 2) = fibN (k + 1) + fibN k := fibN_next k zO
     rw [show k + 2 = k + 1 + 1 from rfl, zeckFrom_low 1 (k + 1) _ zO (show n - fibN (k + 2) < fibN (k + 1 + 1) by show _ < fibN (k + 2); omega) zO]
   · obtain ⟨x, x1, x2, x3, x4, x5⟩ := zeckFrom_peel (k + 1) n zO h0 (show n < fibN (k + 2) by omega)
     refine ⟨x, x1, by omega, x3, x4, ?_⟩
     rw [zeckFrom_no zO, x5, show k + 2 = k + 1 + 1 from rfl, zeckFrom_low 1 (k + 1) _ zO (show n - fibN x < fibN (k + 1 + 1) by show _ < fibN (k + 2); omega) zO]
theorem zeck_peel {n : Nat} (h0 : 0 < n) (h9 : n ≤ 10000) : ∃ x, 2 ≤ x ∧ x ≤ 20 ∧ fibN x ≤ n ∧ n < fibN (x + 1) ∧ zeck n = x :: zeck (n - fibN x) :=
 zeckFrom_peel 20 n zO h0 (Nat.lt_of_le_of_lt h9 zd)
theorem zeck_zero : zeck 0 = [] := rfl
set_option maxHeartbeats 400000 in
theorem writtenOk_any (n : Int) (w : World) : Calls Tryz.prog 184 #[.int .i64 n] w fun e w' => e = .returned (.bool (inB n 0 10000)) ∧ w = w' := by
 go_enter Tryz.func184, Tryz.ntmps184
 by_cases h1 : 0 ≤ n
 · by_cases h2 : n ≤ 10000
   · go_wp2
     go_ret
     exact ⟨ret_bool (inB_mk h1 h2).symm, rfl⟩
   · have h3 : 10000 < n := by omega
     go_wp2
     go_ret
     exact ⟨ret_bool (by simp [inB]; omega), rfl⟩
 · have h3 : n < 0 := by omega
   go_wp2
   go_ret
   exact ⟨ret_bool (by simp [inB]; omega), rfl⟩
theorem writtenOk_is (n : Int) (c : Bool) (w : World) (h : inB n 0 10000 = c) : Calls Tryz.prog 184 #[.int .i64 n] w fun e w' => e = .returned (.bool c) ∧ w = w' := by rw [← h]; exact writtenOk_any n w
set_option maxRecDepth 100000 in
set_option maxHeartbeats 4000000 in
theorem implPlaces_yes (n : Nat) (w : World) (n9 : n ≤ 10000) : Calls Tryz.prog 185 #[.int .i64 n] w (ListOf (zeck n) w) := by
 obtain ⟨i0, hi0, hz0, hzs1, hz2⟩ := info_parts info_int
 go_enter Tryz.func185, Tryz.ntmps185
 go_wp2_with fail
 refine (writtenOk_is n true _ (inB_mk zO zO)).mono ?_
 rintro e wx ⟨rfl, rfl⟩
 go_wp2_with fail
 refine (fibRow_any _).mono ?_
 rintro e w1 ⟨gR, cR, rfl, hg1, hg2, hcl, hh1⟩
 have hz1 := hh1.size
 go_wp2_with fail
 refine (greatBy_any _ _ _ _).mono ?_
 rintro e w2 ⟨rfl, hw2⟩
 have hbx : w2.cell? ⟨w1.heap.size, 0, none⟩ = some (.slice (some ⟨gR, 0, none⟩) 23 cR) := by rw [hw2]; go_simp
 have hcl2 : ∀ i, i < 23 → w2.cell? ⟨gR, i, none⟩ = some (.int .i64 (fibN i : Nat)) := fun i hi => by rw [hw2]; exact (World.cell?_alloc_past _ _ _ (by show gR < _; omega)).trans (hcl i hi)
 have hB2 : Below w.heap.size w w2 := by rw [hw2]; exact hh1.alloc hz1 _
 have hz2' : w2.heap.size = w1.heap.size + 1 := by rw [hw2]; simp
 have HCL := Lib.hid hcl2
 clear hcl hcl2 hw2 hh1
 go_wp2_with fail
 go_loopw [5, 6, 7] (fun u x _ wr => ∃ (y cO : Nat) (aO : Option Addr) (P : List Nat), u = .slice aO P.length cO ∧ x = .int .i64 y ∧ wr.ownsRow (w1.heap.size + 1) 3 1 u P.length (natCells P) ∧
     P ++ zeck y = zeck n ∧ y ≤ n ∧ (w1.heap.size + 1) ≤ wr.heap.size ∧ wr.cell? ⟨w1.heap.size, 0, none⟩ = some (.slice (some ⟨gR, 0, none⟩) 23 cR) ∧ (∀ i, i < 23 → wr.cell? ⟨gR, i, none⟩ = some (.int .i64 (fibN i : Nat))) ∧ Below w.heap.size w wr) (fun _ x _ _ => (intOf x).toNat)
 case atStart => exact ⟨n, 0, none, [], rfl, rfl, World.ownsRow_nil _ _ _ _, rfl, Nat.le_refl _, by omega, hbx, HCL.out, hB2⟩
 case round =>
   obtain ⟨y, cO, aO, P, rfl, rfl, hown, hP, hyn, hsz, hb, hc, hB⟩ := hrel
   by_cases hy : y = 0
   · subst hy
     have hL := Lib.hid (show P = zeck n by rw [← hP, zeck_zero, List.append_nil])
     have HO := Lib.hid hown
     clear hP hown hc
     go_wp2
     go_ret
     have hr := HO.out
     rw [natCells_range] at hr
     exact ⟨_, rfl, by rw [← hL.out]; exact (IsInts.of_owns hr).mono zO (Nat.le_refl _) (Nat.le_refl _), hB⟩
   · obtain ⟨x, x2, x20, xf, xg, hx⟩ := zeck_peel (n := y) zO zO
     have hPn := Lib.hid (show (P ++ [x]) ++ zeck (y - fibN x) = zeck n by rw [← hP, hx, List.append_assoc]; rfl)
     have HCE := Lib.hid (show natCells P ++ [.int .i64 (x : Int)] = natCells (P ++ [x]) by simp [natCells])
     have HL := Lib.hid (show P.length + 1 = (P ++ [x]).length by simp)
     have hlen : P.length ≤ 20 := by have := congrArg List.length hP; have h2 := zeck_len n; simp at this; omega
     have hy0 : (0 : Int) < (y : Int) := by omega
     have HC := Lib.hid hc
     have HO := Lib.hid hown
     have hfp := fibN_pos x zO zO
     clear hP hx hc hown
     go_wp2_with fail
     refine (greatIn_at w1.heap.size gR cR y x _ hb HC.out x2 zO xf xg).mono ?_
     rintro e wx ⟨rfl, rfl⟩
     have hown := HO.out
     have hc := HC.out
     have hlk := hown.lt
     have hwz := hB.size
     obtain ⟨G, hG⟩ : ∃ G, fibN x = G := ⟨_, rfl⟩
     rw [hG] at xf hPn hfp
     have x0 : (0 : Int) ≤ (x : Int) := by omega
     have x23 : (x : Int) < 23 := by omega
     go_wp2_with (first | (at_builtin; refine wpList_append_lies _ (by rfl) _ _ _ (by rfl) (w1.heap.size + 1) 3 i0 _ 1 8 Tryz.underlying99 hi0 hz0 hzs1 hz2 rfl zO _ P.length (natCells P) (by rfl) (hown.alloc _) ⟨wr.heap.size, 0, none⟩ 1 1 [.int .i64 (x : Int)] (by rfl) (by rfl) (World.news_of_block (cs := #[.int .i64 (x : Int)]) (t := 3) (fr := (0, 0)) (heap_alloc_new wr _)) (by simp [Value.oneCell']) zO (by unfold maxLen; omega) zO (by simp; omega) (wr.heap.size + 1) (by simp) ?_))
     intro g1 c1 w4 hown4 hgrow4 hat4 hlt4
     have hkeep : ∀ c o v, c < (w1.heap.size + 1) → wr.cell? ⟨c, o, none⟩ = some v → w4.cell? ⟨c, o, none⟩ = some v := fun c o v hcl hv =>
       (hgrow4.cell_far ⟨c, o, none⟩ (by simp; omega) (fun e => by have := (hlk c e.symm).1; omega)).trans ((World.cell?_alloc_past _ _ _ (by show c < _; omega)).trans hv)
     have hc4 : ∀ i, i < 23 → w4.cell? ⟨gR, i, none⟩ = some (.int .i64 (fibN i : Nat)) := fun i hi => hkeep gR i _ zO (hc i hi)
     have hb4 := hkeep w1.heap.size 0 _ zO hb
     have hct4 : w4.cell? ⟨gR, x, none⟩ = some (.int .i64 (G : Nat)) := by rw [← hG]; exact hc4 x zO
     rw [HCE.out] at hown4
     have hz4 : wr.heap.size + 1 ≤ w4.heap.size := by have := hgrow4.size; simpa using this
     have hB4 : Below w.heap.size w w4 := (hB.alloc hwz _).grown hgrow4 (by simp; omega) (fun k e => by have := hlk _ e; omega)
     have HC4 := Lib.hid hc4
     clear hown hgrow4 hlk hat4 hc hkeep hc4
     go_wp2
     go_roundw
     case rel => exact ⟨y - G, c1, some ⟨g1, 0, none⟩, P ++ [x], by rw [← HL.out], congrArg (Value.int .i64) zO, by rw [← HL.out]; exact hown4, hPn.out, by omega, by omega, hb4, HC4.out, hB4⟩
     case measure => simp [intOf]; omega
end
section
open Go.RowKit
theorem wrT_data (L : List Nat) (h : Nat) : ∀ c, (wrT L h c).data.toList = (List.range c).map fun i => if L.contains (h - i) = true then (49 : UInt8) else 48
 | 0 => rfl
 | c + 1 => by
   rw [wrT, ByteArray.data_append, Array.toList_append, wrT_data L h c, List.range_succ, List.map_append]
   congr 1
   show (bitS (L.contains (h - c))).data.toList = [if L.contains (h - c) = true then (49 : UInt8) else 48]
   cases L.contains (h - c) <;> rfl
theorem zeck_head {n : Nat} (h9 : n ≤ 10000) (h0 : 0 < n) : 2 ≤ (zeck n).getD 0 0 ∧ (zeck n).getD 0 0 ≤ 20 ∧ (zeck n).getD 0 0 ∈ zeck n ∧ ∀ x ∈ zeck n, 2 ≤ x ∧ x ≤ (zeck n).getD 0 0 := by
 have hne := zeckFrom_some 20 n zO h0
 have hg := zeck_gaps h9
 have hb := fun x hx => zeckFrom_le 20 n x hx
 have hz : zeck n = zeckFrom 20 n := rfl
 rw [hz] at hg ⊢
 cases hc : zeckFrom 20 n with
 | nil => exact absurd hc hne
 | cons y L =>
   rw [hc] at hb hg
   have e : (y :: L).getD 0 0 = y := rfl
   rw [e]
   obtain ⟨_, y2, y20⟩ := hb y (List.mem_cons_self ..)
   refine ⟨y2, y20, List.mem_cons_self .., fun x hx => ⟨(hb x hx).2.1, ?_⟩⟩
   rcases List.mem_cons.1 hx with rfl | h'
   · exact Nat.le_refl _
   · have := (List.pairwise_cons.1 hg).1 x h'; omega
theorem writtenT_pos {n : Nat} (h0 : 0 < n) : writtenT n = wrT (zeck n) ((zeck n).getD 0 0) ((zeck n).getD 0 0 - 1) := by rw [writtenT, if_neg zO]
theorem writtenT_size {n : Nat} (h9 : n ≤ 10000) : 1 ≤ (writtenT n).size ∧ (writtenT n).size ≤ 19 := by
 rcases Nat.eq_zero_or_pos n with h0 | h0
 · subst h0; decide
 · obtain ⟨a, b, _⟩ := zeck_head h9 h0
   rw [writtenT_pos h0, wrT_size]; omega
theorem writtenV_nat {n : Nat} (h : n ≤ 10000) : writtenV n = writtenT n := writtenV_is (inB_mk zO zO)
end
section
open Go.RowKit Go.Shelf
set_option maxHeartbeats 4000000 in
theorem sumShifted_at (L : List Nat) (d : Nat) (v : Value) (B C : Nat) (w : World) (hI : IsInts B C w v L.length (fun i => ((L.getD i 0 : Nat) : Int))) (hlen : L.length ≤ 21) (hb : ∀ i, i < L.length → L.getD i 0 + d ≤ 22) :
   Calls Tryz.prog 191 #[v, .int .i64 d] w fun e w' => e = .returned (.int .i64 (sumAt L d : Nat)) ∧ Below w.heap.size w w' := by
 obtain ⟨a, cap, rfl, hC, hs⟩ := hI
 go_enter Tryz.func191, Tryz.ntmps191
 go_wp2_with fail
 refine (fibRow_any _).mono ?_
 rintro e w1 ⟨gR, cR, rfl, hg1, hg2, hcl, hh1⟩
 have HCL := Lib.hid hcl
 have HH := Lib.hid hh1
 clear hcl
 go_wp2_with fail
 go_loop [6, 8, 12] (fun x _ y => ∃ k : Nat, k ≤ L.length ∧ y = .int .i64 k ∧ x = .int .i64 ((sumAt (L.take k) d : Nat) : Int) ∧ sumAt (L.take k) d ≤ 50000 * k) (fun _ _ y => 40 - (intOf y).toNat)
 case atStart => exact ⟨0, by omega, rfl, rfl, by simp [sumAt]⟩
 case round =>
   obtain ⟨k, hk, rfl, rfl, hsl⟩ := hrel
   by_cases hlt : k < L.length
   · rcases hs with hs | ⟨g, off, rfl, h1, h2, hc, hf⟩
     · omega
     have hsn := sumAt_next (L := L) d hlt
     have hbk := hb k hlt
     have hck := cell_below hh1 (hc k hlt)
     obtain ⟨x, hx⟩ : ∃ x, L.getD k 0 = x := ⟨_, rfl⟩
     rw [hx] at hsn hbk hck
     have hcx := HCL.out (x + d) zO
     have hfb := fibN_bd (x + d) zO
     obtain ⟨t, ht⟩ : ∃ t, x + d = t := ⟨_, rfl⟩
     obtain ⟨G, hG⟩ : ∃ G, fibN (x + d) = G := ⟨_, rfl⟩
     rw [hG] at hsn hcx hfb
     rw [ht] at hcx
     obtain ⟨u, hu⟩ : ∃ u, sumAt (L.take k) d = u := ⟨_, rfl⟩
     rw [hu] at hsn hsl ⊢
     have HSN := Lib.hid hsn
     have hki : (k : Int) < (L.length : Int) := by omega
     have k0 : (0 : Int) ≤ (k : Int) := by omega
     have U1 : IntKind.i64.wrap ((x : Int) + (d : Int)) = (t : Int) := by rw [IntKind.wrap_i64]; omega
     have t0 : (0 : Int) ≤ (t : Int) := by omega
     have t23 : (t : Int) < 23 := by omega
     have e2 : (x : Int) + (d : Int) = (t : Int) := by omega
     clear hx ht hG hu hsn hh1 hb
     go_wp2
     go_round
     case rel => exact ⟨k + 1, by omega, congrArg (Value.int .i64) zO, congrArg (Value.int .i64) (by rw [HSN.out]; omega), by rw [HSN.out]; omega⟩
     case measure => simp [intOf]; omega
   · obtain rfl : k = L.length := by omega
     clear hb hh1
     go_wp2
     go_ret
     exact ⟨ret_int (by simp), HH.out⟩
end
section
open Go.RowKit Go.Shelf
theorem info_u8 : (Tryz.prog.info? 5).map (fun i => (i.zero, i.size, i.bytes)) = some (some (.int .u8 0), 1, 1) := by kernel_rfl
theorem builder_info : ∃ j, Tryz.prog.info? 86 = some j ∧ j.size ≠ 0 := by
 obtain ⟨j, hj, hs⟩ := Option.map_eq_some_iff.1 (show (Tryz.prog.info? 86).map TypeInfo.size = some 2 by kernel_rfl)
 exact ⟨j, hj, by rw [hs]; decide⟩
set_option maxHeartbeats 1000000 in
set_option maxRecDepth 100000 in
theorem copyUsed_at (b : Nat) (w : World) (h0 : w.cell? ⟨b, 0, none⟩ = some (.pointer (some ⟨b, 0, none⟩))) : Calls Tryz.prog 93 #[.pointer (some ⟨b, 0, none⟩)] w fun e w' => e = .returned (.tuple #[]) ∧ w' = w := by
 obtain ⟨j, hj, _⟩ := builder_info
 have hsame := fun w => Lib.run_neq_ptr_same w ⟨b, 0, none⟩ Tryz.underlying84 hj
 go_enter Tryz.func93, Tryz.ntmps93
 go_wp2
 go_end0
 exact ⟨rfl, rfl⟩
set_option maxHeartbeats 1000000 in
set_option maxRecDepth 100000 in
theorem copyFresh_at (b : Nat) (w : World) (h0 : w.cell? ⟨b, 0, none⟩ = some (.pointer none)) (hsh : w.shape? b = some (86, 2)) (hfz : w.frozen? ⟨b, 0, none⟩ = false) :
   Calls Tryz.prog 93 #[.pointer (some ⟨b, 0, none⟩)] w fun e w' => e = .returned (.tuple #[]) ∧ w' = w.setCell ⟨b, 0, none⟩ (.pointer (some ⟨b, 0, none⟩)) := by
 obtain ⟨j, hj, hjs⟩ := builder_info
 have hto := Lib.run_to_unsafe w ⟨b, 0, none⟩ Tryz.underlying84 Tryz.underlying143 hj hjs hsh (Nat.zero_lt_succ 1)
 have hfrom := Lib.run_from_unsafe w ⟨b, 0, none⟩ Tryz.underlying143 Tryz.underlying84 hj hsh (by kernel_rfl)
 have hsame := fun w => Lib.run_neq_ptr_same w ⟨b, 0, none⟩ Tryz.underlying84 hj
 have hne : ∀ (x : Value) (w : World), (callFunc 124 #[x]).run Tryz.prog w = .ok (.value x) w := fun x w => by rw [run_callFunc_extern Tryz.func124 (by kernel_rfl) (by kernel_rfl) (by kernel_rfl) (e := Extern.AbiNoEscape.same) (by kernel_rfl)]; rfl
 go_enter Tryz.func93, Tryz.ntmps93
 go_wp2
 go_end0
 exact ⟨rfl, rfl⟩
theorem copy_any (B b : Nat) (bs : List Value) (w : World) (h : Lib.IsBuilder 86 5 B b bs w) :
   Calls Tryz.prog 93 #[.pointer (some ⟨b, 0, none⟩)] w fun e w' => e = .returned (.tuple #[]) ∧ Lib.BuilderAt 86 5 B b (.pointer (some ⟨b, 0, none⟩)) bs w' ∧ Below B w w' := by
 rcases h with h | h
 · refine (copyFresh_at b w h.cell0 h.shape h.frozen0).mono ?_
   rintro e w' ⟨rfl, rfl⟩
   exact ⟨rfl, h.used _, (Below.refl B w).setCell (p := ⟨b, 0, none⟩) h.1 _⟩
 · refine (copyUsed_at b w h.cell0).mono ?_
   rintro e w' ⟨rfl, rfl⟩
   exact ⟨rfl, h, Below.refl B _⟩
set_option maxHeartbeats 2000000 in
set_option maxRecDepth 100000 in
theorem writeByte_any (B b : Nat) (bs : List Value) (c : Int) (w : World) (h : Lib.IsBuilder 86 5 B b bs w) (hlen : bs.length ≤ 1000) (hBw : B ≤ w.heap.size) :
   Calls Tryz.prog 58 #[.pointer (some ⟨b, 0, none⟩), .int .u8 c] w fun e w' => e = .returned .nilIface ∧ Lib.IsBuilder 86 5 B b (bs ++ [.int .u8 c]) w' ∧ Below B w w' := by
 obtain ⟨i0, hi0, hz0, hzs1, hz2⟩ := info_parts info_u8
 go_enter Tryz.func58, Tryz.ntmps58
 go_wp2_with fail
 refine (copy_any B b bs _ h).mono ?_
 rintro e w1 ⟨rfl, ⟨hB, v, hbk, hown, hne⟩, hb1⟩
 have c1 : w1.cell? ⟨b, 1, none⟩ = some v := by rw [Lib.cell_of_heap hbk]; rfl
 have hz1 := hb1.size
 go_wp2_with (at_builtin; refine wpList_append_own _ rfl _ _ 22 rfl B 5 i0 (.int .u8 0) 1 1 Tryz.underlying22 hi0 hz0 hzs1 hz2 rfl zd _ _ _ rfl (hown.alloc _) ⟨w1.heap.size, 0, none⟩ 1 1 [.int .u8 c] rfl rfl (cell_one_new _ _ _) (by simp [Value.oneCell']) (by unfold maxLen; omega) zO (by simp; omega) ?_)
 intro v' w2 hown' hgrow _
 have hlt : b < w1.heap.size := (Array.getElem?_eq_some_iff.1 hbk).1
 have hb2 : w2.heap[b]? = some (.cells #[.pointer (some ⟨b, 0, none⟩), v] 86 (0, 0)) := by
   rw [hgrow.block b (by simp; omega) (fun e => hne e.symm), Below.heap_alloc _ _ _ hlt]
   exact hbk
 have d1 : w2.cell? ⟨b, 1, none⟩ = some v := by rw [Lib.cell_of_heap hb2]; rfl
 have f1 : w2.frozen? ⟨b, 1, none⟩ = false := Lib.frozen_of_heap hb2 1
 obtain ⟨g, cap, rfl⟩ := ownsRow_succ hown'
 have hlk := hown.lt
 go_wp2
 go_ret
 refine ⟨rfl, .inr (Lib.BuilderAt.put hB hb2 (bs' := bs ++ [.int .u8 c]) (by simpa using hown') zd), ?_⟩
 exact ((hb1.alloc zO _).grown hgrow (by simp; omega) (fun k hk => (hlk k hk).1)).setCell (p := ⟨b, 1, none⟩) hB _
def stringRen : Go.Shelf.Ren := ⟨fun | 169 => 59 | n => n, fun | 70 => 84 | 9 => 9 | 0 => 0 | 72 => 86 | 37 => 22 | 127 => 127 | 3 => 3 | 5 => 5 | n => n, fun | n => n⟩
theorem stringLays : Go.Proofs.Lays.n169 Tryz.prog stringRen := {
 mixed := by kernel_rfl
 f169 := Tryz.func59.trans (congrArg some (by kernel_rfl))
 t0 := Tryz.underlying0
 a0 := Tryz.isAgg0
 z0 := Tryz.sizeOf0
 v0 := Tryz.zeroValue0
 t3 := Tryz.underlying3
 a3 := Tryz.isAgg3
 z3 := Tryz.sizeOf3
 v3 := Tryz.zeroValue3
 t9 := Tryz.underlying9
 a9 := Tryz.isAgg9
 z9 := Tryz.sizeOf9
 v9 := Tryz.zeroValue9
 t37 := Tryz.underlying22
 a37 := Tryz.isAgg22
 z37 := Tryz.sizeOf22
 v37 := Tryz.zeroValue22
 t70 := Tryz.underlying84
 a70 := Tryz.isAgg84
 z70 := Tryz.sizeOf84
 v70 := Tryz.zeroValue84
 t72 := Tryz.underlying86
 a72 := Tryz.isAgg86
 z72 := Tryz.sizeOf86
 v72 := Tryz.zeroValue86
 t127 := Tryz.underlying127
 a127 := Tryz.isAgg127
 z127 := Tryz.sizeOf127
 v127 := Tryz.zeroValue127 }
theorem stringExtra : Builder.Extra Tryz.prog stringRen := {
 sizeBuilder := by kernel_rfl
 liesBuilder := by kernel_rfl
 t5 := Tryz.underlying5
 a5 := Tryz.isAgg5
 z5 := Tryz.sizeOf5
 v5 := Tryz.zeroValue5
 infoByte := by kernel_rfl
 cellsByte := by kernel_rfl
 sizeByte := by kernel_rfl
 neB5 := by decide }
theorem builderString_any (B b : Nat) (l : List UInt8) (w : World) (h : Lib.IsBuilder 86 5 B b (Lib.byteCells l) w) (hBw : B ≤ w.heap.size) :
   Calls Tryz.prog 59 #[.pointer (some ⟨b, 0, none⟩)] w fun e w' => e = .returned (.string ⟨l.toArray⟩) ∧ Below B w w' := Any.Builder_String_any stringLays stringExtra B b l w h hBw
def containsRen : Go.Shelf.Ren := ⟨fun | 107 => 186 | 108 => 213 | n => n, fun | 28 => 99 | 3 => 3 | 4 => 4 | 0 => 0 | n => n, fun | n => n⟩
theorem containsLays : Go.Proofs.Lays.n107 Tryz.prog containsRen := {
 mixed := by kernel_rfl
 f107 := Tryz.func186.trans (congrArg some (by kernel_rfl))
 f108 := Tryz.func213.trans (congrArg some (by kernel_rfl))
 t0 := Tryz.underlying0
 a0 := Tryz.isAgg0
 z0 := Tryz.sizeOf0
 v0 := Tryz.zeroValue0
 t3 := Tryz.underlying3
 a3 := Tryz.isAgg3
 z3 := Tryz.sizeOf3
 v3 := Tryz.zeroValue3
 t4 := Tryz.underlying4
 a4 := Tryz.isAgg4
 z4 := Tryz.sizeOf4
 v4 := Tryz.zeroValue4
 t28 := Tryz.underlying99
 a28 := Tryz.isAgg99
 z28 := Tryz.sizeOf99
 v28 := Tryz.zeroValue99 }
theorem contains_any (g off n c : Nat) (zs : List Int) (x : Int) (w : World) (hz : n ≤ zs.length) (hbig : n ≤ 9223372036854775807) (hc : ∀ j, j < zs.length → w.cell? ⟨g, off + j, none⟩ = some (.int .i64 (zs.getD j 0))) :
   Calls Tryz.prog 186 #[.slice (some ⟨g, off, none⟩) n c, .int .i64 x] w fun e w' => e = .returned (.bool ((zs.take n).contains x)) ∧ w' = w := Any.slices_Contains_int containsLays g off n c zs x w hz hbig hc
end
section
open Go.RowKit Go.Shelf
theorem contains_cast (L : List Nat) (j : Nat) : (L.map fun (i : Nat) => (i : Int)).contains (j : Int) = L.contains j := by
 rw [Bool.eq_iff_iff]
 simp only [List.contains_iff_mem, List.mem_map]
 constructor
 · rintro ⟨x, hx, he⟩
   have : x = j := by omega
   rw [← this]; exact hx
 · intro h; exact ⟨j, h, rfl⟩
theorem contains_list (L : List Nat) (j : Nat) (v : Value) (B C : Nat) (w : World) (hI : IsInts B C w v L.length (fun i => ((L.getD i 0 : Nat) : Int))) (h0 : 0 < L.length) (hlen : L.length ≤ 30) :
   Calls Tryz.prog 186 #[v, .int .i64 j] w fun e w' => e = .returned (.bool (L.contains j)) ∧ w = w' := by
 obtain ⟨a, cap, rfl, hC, hs⟩ := hI
 rcases hs with hs | ⟨g, off, rfl, h1, h2, hc, hf⟩
 · omega
 refine (contains_any g off L.length cap (L.map fun (i : Nat) => (i : Int)) j w (by simp) zO (fun i hi => ?_)).mono ?_
 · rw [List.length_map] at hi
   rw [hc i hi]
   congr 2
   simp [hi]
 · rintro e w' ⟨rfl, rfl⟩
   exact ⟨ret_bool (by rw [List.take_of_length_le (by simp), contains_cast]), rfl⟩
theorem wrT_bytes (L : List Nat) (h c : Nat) (b : Bool) (hb : L.contains (h - c) = b) : Lib.byteCells (wrT L h c).data.toList ++ [.int .u8 (if b = true then 49 else 48)] = Lib.byteCells (wrT L h (c + 1)).data.toList := by
 rw [wrT_data, wrT_data, List.range_succ, List.map_append, Lib.byteCells, Lib.byteCells, List.map_append, List.map_cons, List.map_nil, List.map_cons, List.map_nil, hb]
 cases b <;> rfl
set_option maxRecDepth 100000 in
set_option maxHeartbeats 4000000 in
theorem implWritten_yes (n : Nat) (w : World) (n9 : n ≤ 10000) : Calls Tryz.prog 154 #[.int .i64 n] w fun e w' => e = .returned (.string (writtenT n)) ∧ Below w.heap.size w w' := by
 have hHead := fun h0 : 0 < n => zeck_head n9 h0
 have hPos := fun h0 : 0 < n => writtenT_pos h0
 have hSome := fun h0 : 0 < n => zeckFrom_some 20 n zO h0
 have hlen := zeck_len n
 have hI := fun w => implPlaces_yes n w n9
 have hL0 : n = 0 → (zeck n).length = 0 := fun h => by subst h; rfl
 have hL1 : 0 < n → 0 < (zeck n).length := fun h => List.length_pos_iff.2 (hSome h)
 have hZ : n = 0 → writtenT n = ⟨#[48]⟩ := fun h => by subst h; rfl
 clear hSome
 obtain ⟨L, hL⟩ : ∃ L, zeck n = L := ⟨_, rfl⟩
 obtain ⟨W, hW⟩ : ∃ W, writtenT n = W := ⟨_, rfl⟩
 rw [hL] at hHead hPos hlen hI hL0 hL1
 rw [hW] at hPos hZ
 rw [hW]
 obtain ⟨h, hh⟩ : ∃ h, L.getD 0 0 = h := ⟨_, rfl⟩
 rw [hh] at hHead hPos
 clear hL hW
 have HN := Lib.hid (inB_mk (n := (n : Int)) (a := 0) (b := 10000) zO zO)
 go_enter Tryz.func154, Tryz.ntmps154
 go_wp2_with fail
 refine (writtenOk_is n true _ HN.out).mono ?_
 rintro e wx ⟨rfl, rfl⟩
 go_wp2_with fail
 refine (hI _).mono ?_
 rintro e w1 ⟨v, rfl, hI1, hh1⟩
 obtain ⟨a, cap, rfl, hC, hs⟩ := id hI1
 by_cases h0 : n = 0
 · have hl := hL0 h0
   have HW := Lib.hid (hZ h0)
   rw [hl]
   clear hHead hPos hL0 hL1 hs hI1 hZ
   go_wp2
   go_ret
   exact ⟨ret_string HW.out.symm, hh1⟩
 · have hl := hL1 zO
   obtain ⟨a1, a2, _, _⟩ := hHead zO
   have HW := Lib.hid (hPos zO)
   rcases hs with hs | ⟨g, off, rfl, hg1, hg2, hc, hf⟩
   · omega
   have hc0 : w1.cell? ⟨g, off, none⟩ = some (.int .i64 (h : Int)) := by have := hc 0 hl; rw [← hh]; exact this
   have hz1 := hh1.size
   have hli : ((L.length : Int) == 0) = false := by rw [beq_eq_false_iff_ne]; omega
   have hli0 : (0 : Int) < (L.length : Int) := by omega
   have HI := Lib.hid hI1
   have HH1 := Lib.hid hh1
   clear hHead hPos hL0 hL1 hZ hc hf hI1 hh1 hh
   go_wp2
   go_loopw [5] (fun x wr => ∃ j c : Nat, x = .int .i64 j ∧ j + c = h ∧ 1 ≤ j ∧ Lib.IsBuilder 86 5 w1.heap.size w1.heap.size (Lib.byteCells (wrT L h c).data.toList) wr ∧ w1.heap.size ≤ wr.heap.size ∧ Below w1.heap.size w1 wr) (fun x _ => (intOf x).toNat)
   case atStart => exact ⟨h, 0, rfl, by omega, by omega, Lib.fresh_isBuilder _ _ _, by simp, by (repeat (first | exact Below.refl _ _ | refine Below.alloc ?_ zo _))⟩
   case round =>
     obtain ⟨j, c, rfl, hjc, j1, hbd, hsz, hB⟩ := hrel
     have HBD := Lib.hid hbd
     have HBW := Lib.hid hB
     clear hbd
     by_cases h2 : 2 ≤ j
     · have h2i : (2 : Int) ≤ (j : Int) := by omega
       have hI2 := HI.out.below hB (Nat.le_refl _)
       obtain ⟨b, hb⟩ : ∃ b, L.contains j = b := ⟨_, rfl⟩
       have hcs := contains_list L j _ _ _ wr hI2 hl zO
       rw [hb] at hcs
       have HCS := Lib.hid hcs
       have HWB := Lib.hid (wrT_bytes L h c b (by rw [show h - c = j by omega]; exact hb))
       have hll : (Lib.byteCells (wrT L h c).data.toList).length ≤ 1000 := by
         rw [Lib.byteCells_length, bl_size, wrT_size]; omega
       have HLL := Lib.hid hll
       clear hI2 hb hcs hll hc0 hB
       go_wp2_with fail
       refine HCS.out.mono ?_
       rintro e wx ⟨rfl, rfl⟩
       clear HCS
       cases b with
       | true =>
         have hw := HWB.out
         rw [if_pos rfl] at hw
         go_wp2_with fail
         refine (writeByte_any w1.heap.size w1.heap.size _ 49 _ HBD.out HLL.out hsz).mono ?_
         rintro e w3 ⟨rfl, hb3, hh3⟩
         rw [hw] at hb3
         have hz3 := hh3.size
         have HB3 := Lib.hid hb3
         have HH3 := Lib.hid hh3
         clear hb3 hh3 hw
         go_wp2
         go_roundw
         case rel => exact ⟨j - 1, c + 1, congrArg (Value.int .i64) zO, by omega, by omega, HB3.out, by omega, HBW.out.trans HH3.out⟩
         case measure => simp [intOf]; omega
       | false =>
         have hw := HWB.out
         rw [if_neg (by simp)] at hw
         go_wp2_with fail
         refine (writeByte_any w1.heap.size w1.heap.size _ 48 _ HBD.out HLL.out hsz).mono ?_
         rintro e w3 ⟨rfl, hb3, hh3⟩
         rw [hw] at hb3
         have hz3 := hh3.size
         have HB3 := Lib.hid hb3
         have HH3 := Lib.hid hh3
         clear hb3 hh3 hw
         go_wp2
         go_roundw
         case rel => exact ⟨j - 1, c + 1, congrArg (Value.int .i64) zO, by omega, by omega, HB3.out, by omega, HBW.out.trans HH3.out⟩
         case measure => simp [intOf]; omega
     · obtain rfl : j = 1 := by omega
       obtain rfl : c = h - 1 := by omega
       have HX := Lib.hid (builderString_any w1.heap.size w1.heap.size (wrT L h (h - 1)).data.toList _ HBD.out hsz)
       clear hc0 hB
       go_wp2_with fail
       refine HX.out.mono ?_
       rintro e w3 ⟨rfl, hh3⟩
       go_wp2
       go_ret
       exact ⟨ret_string (by rw [HW.out]), HH1.out.trans ((HBW.out.trans hh3).mono hz1)⟩
theorem implWritten_any (n : Int) (w : World) : Calls Tryz.prog 154 #[.int .i64 n] w fun e w' => e = .returned (.string (writtenV n)) ∧ Below w.heap.size w w' := by
 cases h : inB n 0 10000 with
 | true =>
   obtain ⟨h1, h2⟩ := inB_true h
   obtain ⟨m, rfl⟩ := Int.eq_ofNat_of_zero_le h1
   have := implWritten_yes m w zO
   rw [writtenV_nat zO]; exact this
 | false =>
   rw [writtenV_no h]
   go_enter Tryz.func154, Tryz.ntmps154
   go_wp2_with fail
   refine (writtenOk_is n false _ h).mono ?_
   rintro e wx ⟨rfl, rfl⟩
   go_wp2
   go_ret
   exact ⟨rfl, Below.refl _ _⟩
set_option maxHeartbeats 400000 in
theorem factorOk_any (n : Int) (w : World) : Calls Tryz.prog 190 #[.int .i64 n] w fun e w' => e = .returned (.bool (inB n 0 100)) ∧ w = w' := by
 go_enter Tryz.func190, Tryz.ntmps190
 by_cases h1 : 0 ≤ n
 · by_cases h2 : n ≤ 100
   · go_wp2
     go_ret
     exact ⟨ret_bool (inB_mk h1 h2).symm, rfl⟩
   · have h3 : 100 < n := by omega
     go_wp2
     go_ret
     exact ⟨ret_bool (by simp [inB]; omega), rfl⟩
 · have h3 : n < 0 := by omega
   go_wp2
   go_ret
   exact ⟨ret_bool (by simp [inB]; omega), rfl⟩
theorem factorOk_is (n : Int) (c : Bool) (w : World) (h : inB n 0 100 = c) : Calls Tryz.prog 190 #[.int .i64 n] w fun e w' => e = .returned (.bool c) ∧ w = w' := by rw [← h]; exact factorOk_any n w
set_option maxRecDepth 100000 in
set_option maxHeartbeats 4000000 in
theorem implCircle_any (a b : Int) (w : World) : Calls Tryz.prog 156 #[.int .i64 a, .int .i64 b] w fun e w' => e = .returned (.tuple #[.int .i64 (circV a b), .bool (circB a b)]) ∧ Below w.heap.size w w' := by
 cases hn : inB a 0 100 with
 | false =>
   have hb : circB a b = false := by simp [circB, hn]
   have HB := Lib.hid hb
   have HV := Lib.hid (circV_no hb)
   have HN := Lib.hid hn
   clear hn hb
   go_enter Tryz.func156, Tryz.ntmps156
   go_wp2_with fail
   refine (factorOk_is a false _ HN.out).mono ?_
   rintro e wx ⟨rfl, rfl⟩
   go_wp2
   go_ret2
   exact ⟨ret_int_bool HV.out.symm HB.out.symm, Below.refl _ _⟩
 | true =>
   have HN := Lib.hid hn
   cases hd : inB b 0 100 with
   | false =>
     have hb : circB a b = false := by simp [circB, hd]
     have HB := Lib.hid hb
     have HV := Lib.hid (circV_no hb)
     have HD := Lib.hid hd
     clear hn hd hb
     go_enter Tryz.func156, Tryz.ntmps156
     go_wp2_with fail
     refine (factorOk_is _ true _ HN.out).mono ?_
     rintro e wx ⟨rfl, rfl⟩
     go_wp2_with fail
     refine (factorOk_is b false _ HD.out).mono ?_
     rintro e wx ⟨rfl, rfl⟩
     go_wp2
     go_ret2
     exact ⟨ret_int_bool HV.out.symm HB.out.symm, Below.refl _ _⟩
   | true =>
     have hb : circB a b = true := by rw [circB, hn, hd]; rfl
     obtain ⟨m, j, rfl, rfl, m9, j9⟩ := circB_true hb
     have HB := Lib.hid hb
     have HV0 := circV_is hb
     rw [circS_all] at HV0
     have HD := Lib.hid hd
     have HIL := Lib.hid (fun w => implPlaces_yes m w zO)
     have HIM := Lib.hid (fun w => implPlaces_yes j w zO)
     have hbd := zeck_low_at m9
     have hbm := zeck_low_at j9
     have hlen := zeck_len m
     have hlem := zeck_len j
     obtain ⟨L, hL⟩ : ∃ L, zeck m = L := ⟨_, rfl⟩
     obtain ⟨M, hM⟩ : ∃ M, zeck j = M := ⟨_, rfl⟩
     rw [hL] at HIL hbd hlen
     rw [hM] at HIM hbm hlem
     rw [hL, hM] at HV0
     have hsb := fun d (hd : d ≤ 20) => sumAt_bd (L := M) d hd (fun i hi => by have := (hbm i hi).2; omega) fibN_bd2 M.length (Nat.le_refl _)
     have HV := Lib.hid HV0
     have HBD := Lib.hid hbd
     have HBM := Lib.hid hbm
     have HSB := Lib.hid hsb
     clear hn hd hb hL hM hbd hbm HV0 hsb
     go_enter Tryz.func156, Tryz.ntmps156
     go_wp2_with fail
     refine (factorOk_is _ true _ HN.out).mono ?_
     rintro e wx ⟨rfl, rfl⟩
     go_wp2_with fail
     refine (factorOk_is _ true _ HD.out).mono ?_
     rintro e wx ⟨rfl, rfl⟩
     go_wp2_with fail
     refine (HIL.out _).mono ?_
     rintro e w2 ⟨u2, rfl, hI2, hh2⟩
     have hz2 := hh2.size
     obtain ⟨a2, c2, rfl, hC2, hs2⟩ := hI2
     have HH2 := Lib.hid hh2
     clear hh2
     go_wp2_with fail
     go_loopw [6, 8, 20] (fun x _ y wr => ∃ k : Nat, k ≤ L.length ∧ y = .int .i64 k ∧ x = .int .i64 ((circS L M k : Nat) : Int) ∧ circS L M k ≤ 1000000 * k ∧ Below w2.heap.size w2 wr) (fun _ _ y _ => 30 - (intOf y).toNat)
     case atStart => exact ⟨0, by omega, rfl, rfl, by simp [circS], Below.refl _ _⟩
     case round =>
       obtain ⟨k, hk, rfl, rfl, hs, hB⟩ := hrel
       by_cases hlt : k < L.length
       · rcases hs2 with hs2 | ⟨g2, o2, rfl, hg3, hg4, hc2, hf2⟩
         · omega
         obtain ⟨b1, b2⟩ := HBD.out k hlt
         have hnx := circS_next (M := M) hlt
         have hck := cell_below hB (hc2 k hlt)
         obtain ⟨x, hx⟩ : ∃ x, L.getD k 0 = x := ⟨_, rfl⟩
         rw [hx] at b1 b2 hnx hck
         obtain ⟨s, hs'⟩ : ∃ s, circS L M k = s := ⟨_, rfl⟩
         rw [hs'] at hnx hs ⊢
         have hsbx := HSB.out x zO
         rw [List.take_length] at hsbx
         obtain ⟨G, hG⟩ : ∃ G, sumAt M x = G := ⟨_, rfl⟩
         rw [hG] at hnx hsbx
         have HNK := Lib.hid hnx
         have HG := Lib.hid hG
         have hki : (k : Int) < (L.length : Int) := by omega
         have k0 : (0 : Int) ≤ (k : Int) := by omega
         have HBr := Lib.hid hB
         clear hx hs' hnx hB hG
         go_wp2_with fail
         refine (HIM.out _).mono ?_
         rintro e w3 ⟨u3, rfl, hI3, hh3⟩
         go_wp2_with fail
         refine (sumShifted_at M x u3 _ _ _ hI3 zO (fun i hi => by have := (HBM.out i hi).2; omega)).mono ?_
         rintro e w4 ⟨rfl, hh4⟩
         rw [HG.out]
         have HB4 := Lib.hid (HBr.out.trans ((hh3.trans (hh4.mono hh3.size)).mono HBr.out.size))
         clear hI3 hh3 hh4
         go_wp2
         go_roundw
         case rel => exact ⟨k + 1, by omega, congrArg (Value.int .i64) zO, congrArg (Value.int .i64) (by rw [HNK.out]; omega), by rw [HNK.out]; omega, HB4.out⟩
         case measure => simp [intOf]; omega
       · obtain rfl : k = L.length := by omega
         go_wp2
         go_ret2
         exact ⟨ret_int_bool HV.out.symm HB.out.symm, HH2.out.trans (hB.mono hz2)⟩
end
end Go.Proofs.YtblphilcmfabkaaGreatDoor
