/- Contracts and laws that the statement's proof stands on, one text behind the other. -/
import Derived.Test.YtblphilcmfabkaaGreatDoorAla1
import Derived.Deep.RegionWith
import Derived.Deep.Cut
import Derived.Deep.CutRange

namespace Go.Proofs.YtblphilcmfabkaaGreatDoor
open Go.RowKit
theorem commonDivisor_is (a b v : Int) (w : World) (a1 : -1000000000000000 ≤ a) (a2 : a ≤ 1000000000000000) (b1 : -1000000000000000 ≤ b) (b2 : b ≤ 1000000000000000) (hv : ((Int.gcd a b : Nat) : Int) = v) :
   Calls Tryz.prog 202 #[.int .i64 a, .int .i64 b] w fun e w' => e = .returned (.int .i64 v) ∧ Below w.heap.size w w' := by subst hv; exact commonDivisor_at a b w a1 a2 b1 b2
set_option maxHeartbeats 1000000 in
theorem leastMultiple_at (i j : Nat) (v : Int) (w : World) (i1 : 1 ≤ i) (j1 : 1 ≤ j) (i2 : i ≤ 30000000) (j2 : j ≤ 30000000) (hv : (Nat.lcm i j : Int) = v) :
   Calls Tryz.prog 206 #[.int .i64 i, .int .i64 j] w fun e w' => e = .returned (.int .i64 v) ∧ Below w.heap.size w w' := by
 have HV := Lib.hid hv
 clear hv
 obtain ⟨g, hg⟩ : ∃ g, Nat.gcd i j = g := ⟨_, rfl⟩
 have HG := Lib.hid (show ((Int.gcd (i : Int) (j : Int) : Nat) : Int) = (g : Int) by rw [← hg]; rfl)
 have hg1 : 1 ≤ g := by rw [← hg]; exact Nat.gcd_pos_of_pos_left _ zO
 have hgz : ((g : Int) == 0) = false := by simp; omega
 have E := Lib.hid (show (i / g * j : Nat) = Nat.lcm i j by rw [← hg]; exact lcm_is i j)
 obtain ⟨c, hc⟩ : ∃ c, i / g = c := ⟨_, rfl⟩
 have hcb : c ≤ 30000000 := by rw [← hc]; exact Nat.le_trans (Nat.div_le_self _ _) zO
 have hm1 : c * j ≤ 30000000 * 30000000 := Nat.mul_le_mul hcb zO
 have hcd : (i : Int) / (g : Int) = (c : Int) := by rw [← hc]; simp
 have hmm : (c : Int) * (j : Int) = ((c * j : Nat) : Int) := by simp
 have U : IntKind.i64.wrap ((c : Int) * (j : Int)) = (c : Int) * (j : Int) := by rw [IntKind.wrap_i64, hmm]; omega
 rw [hc] at E
 have HM := Lib.hid hmm
 clear hg hc hm1 hmm
 go_enter Tryz.func206, Tryz.ntmps206
 go_wp2_with fail
 refine (commonDivisor_is _ _ _ _ zO zO zO zO HG.out).mono ?_
 rintro e w1 ⟨rfl, hh1⟩
 obtain ⟨hc1, hf1⟩ := bcell hh1
 have hz1 := hh1.size
 try simp only [World.size_alloc] at hz1
 go_wp2
 go_ret
 exact ⟨ret_int (by rw [← HV.out, HM.out, E.out]), by exact zb⟩
set_option maxHeartbeats 2000000 in
theorem rankedOk_any (p q m : Int) (w : World) : Calls Tryz.prog 172 #[pr p q, .int .i64 m] w fun e w' => e = .returned (.bool (rankB p q m)) ∧ Below w.heap.size w w' := by
 cases h : rankB p q m with
 | true =>
   obtain ⟨hp, hq, hm, hg, k, rfl, k1, k2, _⟩ := rankB_true h
   obtain ⟨⟨r1, r2⟩, r3, r4⟩ := pairB_true hp
   have HP := Lib.hid hp
   have hqz : (q != 0) = true := by simpa using hq
   have HG := Lib.hid (show ((Int.gcd (k : Int) q : Nat) : Int) = 1 by rw [Int.gcd_comm, hg]; rfl)
   have m1 : (1 : Int) ≤ (k : Int) := by omega
   have m2 : (k : Int) ≤ 400 := by omega
   clear hp hm h hg
   go_enter Tryz.func172, Tryz.ntmps172
   go_wp2_with fail
   refine (implPairOk_yes p q _ HP.out).mono ?_
   rintro e w1 ⟨rfl, hh1⟩
   obtain ⟨hc1, hf1⟩ := bcell hh1
   have hz1 := hh1.size
   try simp only [World.size_alloc] at hz1
   have hz1_0 : w.heap.size < w1.heap.size := by omega
   have kb1_0_0 : w1.cell? ⟨w.heap.size, 0, none⟩ = some (.int .i64 p) := by go_simp
   have kf1_0_0 : w1.frozen? ⟨w.heap.size, 0, none⟩ = false := by go_simp
   have kb1_0_1 : w1.cell? ⟨w.heap.size, 1, none⟩ = some (.int .i64 q) := by go_simp
   have kf1_0_1 : w1.frozen? ⟨w.heap.size, 1, none⟩ = false := by go_simp
   clear hc1 hf1
   go_wp2_with fail
   refine (commonDivisor_is _ _ _ _ zO zO zO zO HG.out).mono ?_
   rintro e w2 ⟨rfl, hh2⟩
   obtain ⟨hc2, hf2⟩ := bcell hh2
   have hz2 := hh2.size
   try simp only [World.size_alloc] at hz2
   go_wp2
   go_ret
   exact ⟨rfl, by exact zb⟩
 | false =>
   rcases rankB_ways h with hp | ⟨hp, hq⟩ | ⟨hp, hq, hm⟩ | ⟨hp, hq, hm, hg⟩
   · have HP := Lib.hid hp
     clear hp h
     go_enter Tryz.func172, Tryz.ntmps172
     go_wp2_with fail
     refine (implPairOk_no p q _ HP.out).mono ?_
     rintro e w1 ⟨rfl, hh1⟩
     obtain ⟨hc1, hf1⟩ := bcell hh1
     have hz1 := hh1.size
     try simp only [World.size_alloc] at hz1
     have hz1_0 : w.heap.size < w1.heap.size := by omega
     have kb1_0_0 : w1.cell? ⟨w.heap.size, 0, none⟩ = some (.int .i64 p) := by go_simp
     have kf1_0_0 : w1.frozen? ⟨w.heap.size, 0, none⟩ = false := by go_simp
     have kb1_0_1 : w1.cell? ⟨w.heap.size, 1, none⟩ = some (.int .i64 q) := by go_simp
     have kf1_0_1 : w1.frozen? ⟨w.heap.size, 1, none⟩ = false := by go_simp
     clear hc1 hf1
     go_wp2
     go_ret
     exact ⟨rfl, by exact zb⟩
   · have HP := Lib.hid hp
     subst hq
     clear hp h
     go_enter Tryz.func172, Tryz.ntmps172
     go_wp2_with fail
     refine (implPairOk_yes p 0 _ HP.out).mono ?_
     rintro e w1 ⟨rfl, hh1⟩
     obtain ⟨hc1, hf1⟩ := bcell hh1
     have hz1 := hh1.size
     try simp only [World.size_alloc] at hz1
     have hz1_0 : w.heap.size < w1.heap.size := by omega
     have kb1_0_0 : w1.cell? ⟨w.heap.size, 0, none⟩ = some (.int .i64 p) := by go_simp
     have kf1_0_0 : w1.frozen? ⟨w.heap.size, 0, none⟩ = false := by go_simp
     have kb1_0_1 : w1.cell? ⟨w.heap.size, 1, none⟩ = some (.int .i64 0) := by go_simp
     have kf1_0_1 : w1.frozen? ⟨w.heap.size, 1, none⟩ = false := by go_simp
     clear hc1 hf1
     go_wp2
     go_ret
     exact ⟨rfl, by exact zb⟩
   · have HP := Lib.hid hp
     have hqz : (q != 0) = true := by simpa using hq
     clear hp h
     by_cases m1 : 1 ≤ m
     · have m2 : 400 < m := by
         rcases Int.lt_or_le 400 m with h1 | h1
         · exact h1
         · rw [inB_mk m1 h1] at hm; cases hm
       clear hm
       go_enter Tryz.func172, Tryz.ntmps172
       go_wp2_with fail
       refine (implPairOk_yes p q _ HP.out).mono ?_
       rintro e w1 ⟨rfl, hh1⟩
       obtain ⟨hc1, hf1⟩ := bcell hh1
       have hz1 := hh1.size
       try simp only [World.size_alloc] at hz1
       have hz1_0 : w.heap.size < w1.heap.size := by omega
       have kb1_0_0 : w1.cell? ⟨w.heap.size, 0, none⟩ = some (.int .i64 p) := by go_simp
       have kf1_0_0 : w1.frozen? ⟨w.heap.size, 0, none⟩ = false := by go_simp
       have kb1_0_1 : w1.cell? ⟨w.heap.size, 1, none⟩ = some (.int .i64 q) := by go_simp
       have kf1_0_1 : w1.frozen? ⟨w.heap.size, 1, none⟩ = false := by go_simp
       clear hc1 hf1
       go_wp2
       go_ret
       exact ⟨rfl, by exact zb⟩
     · have m1' : m < 1 := by omega
       clear hm
       go_enter Tryz.func172, Tryz.ntmps172
       go_wp2_with fail
       refine (implPairOk_yes p q _ HP.out).mono ?_
       rintro e w1 ⟨rfl, hh1⟩
       obtain ⟨hc1, hf1⟩ := bcell hh1
       have hz1 := hh1.size
       try simp only [World.size_alloc] at hz1
       have hz1_0 : w.heap.size < w1.heap.size := by omega
       have kb1_0_0 : w1.cell? ⟨w.heap.size, 0, none⟩ = some (.int .i64 p) := by go_simp
       have kf1_0_0 : w1.frozen? ⟨w.heap.size, 0, none⟩ = false := by go_simp
       have kb1_0_1 : w1.cell? ⟨w.heap.size, 1, none⟩ = some (.int .i64 q) := by go_simp
       have kf1_0_1 : w1.frozen? ⟨w.heap.size, 1, none⟩ = false := by go_simp
       clear hc1 hf1
       go_wp2
       go_ret
       exact ⟨rfl, by exact zb⟩
   · obtain ⟨⟨r1, r2⟩, r3, r4⟩ := pairB_true hp
     obtain ⟨m1, m2⟩ := inB_true hm
     have HP := Lib.hid hp
     have hqz : (q != 0) = true := by simpa using hq
     obtain ⟨g, hgg⟩ : ∃ g, Int.gcd m q = g := ⟨_, rfl⟩
     have HG := Lib.hid (show ((Int.gcd m q : Nat) : Int) = (g : Int) by rw [hgg])
     have hg1 : ((g : Int) == 1) = false := by rw [Int.gcd_comm, hgg] at hg; simp; omega
     clear hp hm h hg hgg
     go_enter Tryz.func172, Tryz.ntmps172
     go_wp2_with fail
     refine (implPairOk_yes p q _ HP.out).mono ?_
     rintro e w1 ⟨rfl, hh1⟩
     obtain ⟨hc1, hf1⟩ := bcell hh1
     have hz1 := hh1.size
     try simp only [World.size_alloc] at hz1
     have hz1_0 : w.heap.size < w1.heap.size := by omega
     have kb1_0_0 : w1.cell? ⟨w.heap.size, 0, none⟩ = some (.int .i64 p) := by go_simp
     have kf1_0_0 : w1.frozen? ⟨w.heap.size, 0, none⟩ = false := by go_simp
     have kb1_0_1 : w1.cell? ⟨w.heap.size, 1, none⟩ = some (.int .i64 q) := by go_simp
     have kf1_0_1 : w1.frozen? ⟨w.heap.size, 1, none⟩ = false := by go_simp
     clear hc1 hf1
     go_wp2_with fail
     refine (commonDivisor_is _ _ _ _ zO zO zO zO HG.out).mono ?_
     rintro e w2 ⟨rfl, hh2⟩
     obtain ⟨hc2, hf2⟩ := bcell hh2
     have hz2 := hh2.size
     try simp only [World.size_alloc] at hz2
     go_wp2
     go_ret
     exact ⟨rfl, by exact zb⟩
theorem rankedOk_is (p q m : Int) (c : Bool) (w : World) (h : rankB p q m = c) : Calls Tryz.prog 172 #[pr p q, .int .i64 m] w fun e w' => e = .returned (.bool c) ∧ Below w.heap.size w w' := by rw [← h]; exact rankedOk_any p q m w
set_option maxHeartbeats 1000000 in
theorem noughtFn_at (x y : Int) (w : World) :
   Calls Tryz.prog 220 #[pr x y] w fun e w' => e = .returned (.bool (x == 0)) ∧ Below w.heap.size w w' := by
 go_enter Tryz.func220, Tryz.ntmps220
 go_wp2
 go_ret
 exact ⟨rfl, by exact zb⟩
theorem left_rankN {p q : Int} {k : Nat} (k1 : 1 ≤ k) (ha : Apart (k : Int) q) (n : Nat) (h1 : 1 ≤ n) (h2 : n ≤ rankN p q k) : (row p q 0 1 n % (k : Int) == 0) = decide (n = rankN p q k) := rank_left k1 ha n h1 h2
set_option maxRecDepth 100000 in
set_option maxHeartbeats 8000000 in
theorem placeNought_at (p q : Int) (k : Nat) (w : World) (hp : pairB p q = true) (k1 : 1 ≤ k) (k2 : k ≤ 10000) (ha : Apart (k : Int) q) :
   Calls Tryz.prog 175 #[pr p q, .int .i64 k, .func (.func 220) #[] #[]] w fun e w' => e = .returned (.int .i64 (rankN p q k)) ∧ Below w.heap.size w w' := by
 obtain ⟨⟨r1, r2⟩, r3, r4⟩ := pairB_true hp
 obtain ⟨_, b1, b2, _⟩ := rankN_spec (p := p) k k1 ha
 have b3 : rankN p q k ≤ 100000000 := Nat.le_trans b2 (Nat.mul_le_mul k2 k2)
 have HL := Lib.hid (left_rankN (p := p) k1 ha)
 obtain ⟨R, hR⟩ : ∃ R, rankN p q k = R := ⟨_, rfl⟩
 rw [hR] at b1 b3 HL ⊢
 have m1 : (1 : Int) ≤ (k : Int) := by omega
 have m2 : (k : Int) ≤ 10000 := by omega
 obtain ⟨z1, z2⟩ := left_bd 1 k m1
 have E1 := Lib.hid (show (1 : Int) % (k : Int) = row p q 0 1 1 % (k : Int) by simp [row])
 have E2 := Lib.hid (show (p * ((1 : Int) % (k : Int)) - q * 0) % (k : Int) = row p q 0 1 2 % (k : Int) by
   have := far_next p q k 0
   simpa [row] using this)
 have e0 : (0 : Int) < (k : Int) := by omega
 skip
 clear hp hR ha b2
 go_enter Tryz.func175, Tryz.ntmps175
 go_wp2_with fail
 go_cut [8] from 9 to 13 (fun v wx => ∃ B : Nat, w.heap.size < B ∧ v = .pointer (some ⟨B, 0, none⟩) ∧ wx.cell? ⟨B, 0, none⟩ = some (.int .i64 (row p q 0 1 1 % (k : Int))) ∧ wx.cell? ⟨B, 1, none⟩ = some (.int .i64 (row p q 0 1 2 % (k : Int))) ∧ wx.frozen? ⟨B, 0, none⟩ = false ∧ wx.frozen? ⟨B, 1, none⟩ = false ∧ wx.cell? ⟨w.heap.size, 0, none⟩ = some (.int .i64 p) ∧ wx.cell? ⟨w.heap.size, 1, none⟩ = some (.int .i64 q) ∧ Below w.heap.size w wx)
 case first =>
   go_region_with ((first | (go_at_call 174; refine (leftAtStart_at k _ m1 m2).mono ?_; rintro e w2 ⟨rfl, hh2⟩; have hz2 := hh2.size; (try simp at hz2); have hzl2 : w.heap.size < w2.heap.size := zO; have kx0 := (hh2.cell (p := ⟨w.heap.size, 0, none⟩) zo); have kx1 := (hh2.cell (p := ⟨w.heap.size, 1, none⟩) zo); (first | (have ks0_0 := (hh2.cell (p := ⟨w.heap.size + 1, 0, none⟩) (by first | omega | (simp <;> omega) | fail)); have kg0_0 := (hh2.frozen (p := ⟨w.heap.size + 1, 0, none⟩) (by first | omega | (simp <;> omega) | fail))) | skip); (first | (have ks0_1 := (hh2.cell (p := ⟨w.heap.size + 1, 1, none⟩) (by first | omega | (simp <;> omega) | fail)); have kg0_1 := (hh2.frozen (p := ⟨w.heap.size + 1, 1, none⟩) (by first | omega | (simp <;> omega) | fail))) | skip)) | (go_at_call 207; refine (goneOn_at 0 _ p q k r1 r2 r3 r4 m1 m2 (Int.le_refl 0) e0 z1 z2 _ _ E2.out).mono ?_; rintro e w3 ⟨rfl, hh2⟩; have hz3 := hh2.size; (try simp at hz3); have hzl3 : w.heap.size < w3.heap.size := zO; have kx0 := (hh2.cell (p := ⟨w.heap.size, 0, none⟩) zo); have kx1 := (hh2.cell (p := ⟨w.heap.size, 1, none⟩) zo); (first | (have ks0_0 := (hh2.cell (p := ⟨w.heap.size + 1, 0, none⟩) (by first | omega | (simp <;> omega) | fail)); have kg0_0 := (hh2.frozen (p := ⟨w.heap.size + 1, 0, none⟩) (by first | omega | (simp <;> omega) | fail))) | skip); (first | (have ks0_1 := (hh2.cell (p := ⟨w.heap.size + 1, 1, none⟩) (by first | omega | (simp <;> omega) | fail)); have kg0_1 := (hh2.frozen (p := ⟨w.heap.size + 1, 1, none⟩) (by first | omega | (simp <;> omega) | fail))) | skip); (first | (have ks1_0 := (hh2.cell (p := ⟨w2.heap.size, 0, none⟩) (by first | omega | (simp <;> omega) | fail)); have kg1_0 := (hh2.frozen (p := ⟨w2.heap.size, 0, none⟩) (by first | omega | (simp <;> omega) | fail))) | skip); (first | (have ks1_1 := (hh2.cell (p := ⟨w2.heap.size, 1, none⟩) (by first | omega | (simp <;> omega) | fail)); have kg1_1 := (hh2.frozen (p := ⟨w2.heap.size, 1, none⟩) (by first | omega | (simp <;> omega) | fail))) | skip)) | fail))
   all_goals (go_wp2_with fail; go_meet)
   all_goals
     case rel =>
       refine ⟨_, ?_, rfl, ?_, ?_, ?_, ?_, ?_, ?_, ?_⟩
       · first | omega | (simp <;> omega)
       · rw [← E1.out]; go_simp
       · go_simp
       · go_simp
       · go_simp
       · go_simp
       · go_simp
       · exact zb
 case rest =>
   obtain ⟨B, hB, rfl, c0, c1, f0, f1, cp, cq, hbl⟩ := hcut
   skip
   go_wp2_with fail
   go_loopw [7] (fun c wr => ∃ n : Nat, 1 ≤ n ∧ n ≤ R ∧ c = .int .i64 n ∧ wr.cell? ⟨B, 0, none⟩ = some (.int .i64 (row p q 0 1 n % (k : Int))) ∧ wr.cell? ⟨B, 1, none⟩ = some (.int .i64 (row p q 0 1 (n + 1) % (k : Int))) ∧ wr.frozen? ⟨B, 0, none⟩ = false ∧ wr.frozen? ⟨B, 1, none⟩ = false ∧ wr.cell? ⟨w.heap.size, 0, none⟩ = some (.int .i64 p) ∧ wr.cell? ⟨w.heap.size, 1, none⟩ = some (.int .i64 q) ∧ Below w.heap.size w wr) (fun c _ => R - (intOf c).toNat)
   case atStart => exact ⟨1, Nat.le_refl 1, b1, rfl, c0, c1, f0, f1, cp, cq, hbl⟩
   case round =>
     obtain ⟨n, n1, n2, rfl, d0, d1, g0, g1, dp, dq, hb2⟩ := hrel
     have HB := Lib.hid hb2
     clear hb2 c0 c1 f0 f1 cp cq hbl
     go_wp2_with fail
     refine (noughtFn_at _ _ _).mono ?_
     rintro e w4 ⟨rfl, hh4⟩
     have j0 := cell_below hh4 d0
     have j1 := cell_below hh4 d1
     have l0 := frozen_below hh4 d0 g0
     have l1 := frozen_below hh4 d1 g1
     have jp := cell_below hh4 dp
     have jq := cell_below hh4 dq
     skip
     have HB4 := Lib.hid (HB.out.trans (hh4.mono HB.out.size))
     clear d0 d1 g0 g1 dp dq hh4 HB
     by_cases he : n = R
     · have ht : (row p q 0 1 n % (k : Int) == 0) = true := by rw [HL.out n n1 n2]; simpa using he
       have HE := Lib.hid he
       clear he
       go_wp2
       go_ret
       exact ⟨ret_int (by rw [HE.out]), HB4.out⟩
     · have ht : (row p q 0 1 n % (k : Int) == 0) = false := by rw [HL.out n n1 n2]; simpa using he
       obtain ⟨a0, a1⟩ := left_bd (row p q 0 1 n) k m1
       obtain ⟨e1, e2⟩ := left_bd (row p q 0 1 (n + 1)) k m1
       have E := Lib.hid (far_next p q k n)
       have hBl := World.block_lt_of_cell? _ _ j0
       go_wp2_with fail
       refine (goneOn_at _ _ p q k r1 r2 r3 r4 m1 m2 a0 a1 e1 e2 _ _ E.out).mono ?_
       rintro e w5 ⟨rfl, hh5⟩
       have i0 := cell_below hh5 j0
       have i1 := cell_below hh5 j1
       have o0 := frozen_below hh5 j0 l0
       have o1 := frozen_below hh5 j1 l1
       have ip := cell_below hh5 jp
       have iq := cell_below hh5 jq
       skip
       have HB5 := Lib.hid (HB4.out.trans (hh5.mono HB4.out.size))
       clear j0 j1 l0 l1 jp jq hh5
       have hnw : ¬ w.heap.size = B := by omega
       go_wp2
       go_roundw
       case rel => exact ⟨n + 1, by omega, by omega, congrArg (Value.int .i64) zO, by go_simp, by go_simp, by go_simp, by go_simp, by go_simp, by go_simp, (HB5.out.setCell (p := ⟨B, 0, none⟩) (by show w.heap.size ≤ B; omega) _).setCell (p := ⟨B, 1, none⟩) (by show w.heap.size ≤ B; omega) _⟩
       case measure => simp [intOf]; omega
set_option maxHeartbeats 1000000 in
theorem firstNought_at (p q : Int) (k : Nat) (w : World) (hp : pairB p q = true) (k1 : 1 ≤ k) (k2 : k ≤ 10000) (ha : Apart (k : Int) q) :
   Calls Tryz.prog 205 #[pr p q, .int .i64 k] w fun e w' => e = .returned (.int .i64 (rankN p q k)) ∧ Below w.heap.size w w' := by
 have HP := Lib.hid hp
 have HA := Lib.hid ha
 clear hp ha
 go_enter Tryz.func205, Tryz.ntmps205
 go_wp2_with fail
 refine (placeNought_at p q k _ HP.out k1 k2 HA.out).mono ?_
 rintro e w1 ⟨rfl, hh1⟩
 go_wp2
 go_ret
 exact ⟨rfl, by exact zb⟩
end Go.Proofs.YtblphilcmfabkaaGreatDoor
