/- Contracts that the statement's proof stands on. -/
import Derived.Test.YtgipkcbmanjpcaaAll2

namespace Go.Proofs.Ytgipkcbmanjpcaa
open Go.RowKit
set_option maxRecDepth 100000 in
set_option maxHeartbeats 16000000 in
theorem fnRankOf_walk (a0 : Option Addr) (len0 cap0 : Nat) (z0 : List Int) (a1 : Option Addr) (len1 cap1 : Nat) (z1 : List Int) (w : World) (w0r : IsRow w a0 len0 cap0 z0) (w1r : IsRow w a1 len1 cap1 z1) :
    Calls Try.prog 3 #[.slice a0 len0 cap0, .slice a1 len1 cap1] w fun e w' => e = .returned (.bool true) ∧ Below w.heap.size w w' := by
  by_cases hbig : 1048576 < len0
  · go_enter Try.func3, Try.ntmps3
    go_wp2
    go_ret
    exact ⟨rfl, Below.refl _ _⟩
  by_cases hbig1 : 1048576 < len1
  · have hsm0 : len0 ≤ 1048576 := by omega
    go_enter Try.func3, Try.ntmps3
    go_wp2
    go_ret
    exact ⟨rfl, Below.refl _ _⟩
  have hsm0 : len0 ≤ 1048576 := by omega
  have hsm1 : len1 ≤ 1048576 := by omega
  clear hbig hbig1
  go_enter Try.func3, Try.ntmps3
  go_wp2_with fail
  refine (drawRankOf_any _ _ _ _ z0 w0r).mono ?_
  rintro e w1 ⟨p, q, m, rfl, hh1⟩
  have hz1 := hh1.size
  obtain ⟨hc1, hf1⟩ := bcell hh1
  cases h : rankB p q m with
  | false =>
    have HV := Lib.hid (show rankV p q m = -1 by rw [rankV, if_neg (by simp [h])])
    have HB := Lib.hid h
    clear h
    go_wp2_with fail
    refine (implRank_is p q m _ false _ HV.out HB.out).mono ?_
    rintro e w2 ⟨rfl, hh2⟩
    obtain ⟨hc2, hf2⟩ := bcell hh2
    have hz2 := hh2.size
    try simp only [World.size_alloc] at hz2
    have hz2_0 : w1.heap.size < w2.heap.size := by omega
    have kb2_0_0 : w2.cell? ⟨w1.heap.size, 0, none⟩ = some (.int .i64 p) := by go_simp
    have kf2_0_0 : w2.frozen? ⟨w1.heap.size, 0, none⟩ = false := by go_simp
    have kb2_0_1 : w2.cell? ⟨w1.heap.size, 1, none⟩ = some (.int .i64 q) := by go_simp
    have kf2_0_1 : w2.frozen? ⟨w1.heap.size, 1, none⟩ = false := by go_simp
    clear hc2 hf2
    go_wp2_with fail
    refine (specRank_is p q m _ false _ HV.out HB.out).mono ?_
    rintro e w3 ⟨rfl, hh3⟩
    obtain ⟨hc3, hf3⟩ := bcell hh3
    have hz3 := hh3.size
    try simp only [World.size_alloc] at hz3
    have hz3_0 : w1.heap.size < w3.heap.size := by omega
    have kb3_0_0 : w3.cell? ⟨w1.heap.size, 0, none⟩ = some (.int .i64 p) := by go_simp
    have kf3_0_0 : w3.frozen? ⟨w1.heap.size, 0, none⟩ = false := by go_simp
    have kb3_0_1 : w3.cell? ⟨w1.heap.size, 1, none⟩ = some (.int .i64 q) := by go_simp
    have kf3_0_1 : w3.frozen? ⟨w1.heap.size, 1, none⟩ = false := by go_simp
    clear hc3 hf3
    go_wp2_with fail
    refine (alive_any _).mono ?_
    rintro e w4 ⟨rfl, hh4⟩
    obtain ⟨hc4, hf4⟩ := bcell hh4
    have hz4 := hh4.size
    try simp only [World.size_alloc] at hz4
    clear hc4 hf4
    go_wp2
    go_ret
    exact ⟨rfl, by (repeat (first | exact Below.refl _ _ | refine Below.setCell ?_ (by first | omega | (simp <;> omega)) _ | refine Below.alloc ?_ (by first | omega | (simp <;> omega)) _ | refine Below.drew ?_ | refine Below.trans ?_ (Below.mono (by assumption) (by first | omega | (simp <;> omega))) | refine Below.grown ?_ (by assumption) (by first | omega | (simp <;> omega)) (fun k e => by cases e; first | omega | (simp <;> omega))))⟩
  | true =>
    obtain ⟨hp, hq, hm, hg, k, rfl, k1, k2, ha⟩ := rankB_true h
    obtain ⟨b1, b2⟩ := rank_bd (p := p) k1 k2 ha
    have HV := Lib.hid (rankV_is h)
    have HB := Lib.hid h
    have HL := Lib.hid (rank_left (p := p) k1 ha)
    have HA := Lib.hid ha
    have HP := Lib.hid hp
    have HQ := Lib.hid hq
    obtain ⟨R, hR⟩ : ∃ R, rankN p q k = R := ⟨_, rfl⟩
    have HR := Lib.hid hR
    rw [hR] at b1 b2 HL HV
    clear h hp hq hm hg ha hR
    go_wp2_with fail
    refine (implRank_is p q k _ true _ HV.out HB.out).mono ?_
    rintro e w2 ⟨rfl, hh2⟩
    obtain ⟨hc2, hf2⟩ := bcell hh2
    have hz2 := hh2.size
    try simp only [World.size_alloc] at hz2
    have hz2_0 : w1.heap.size < w2.heap.size := by omega
    have kb2_0_0 : w2.cell? ⟨w1.heap.size, 0, none⟩ = some (.int .i64 p) := by go_simp
    have kf2_0_0 : w2.frozen? ⟨w1.heap.size, 0, none⟩ = false := by go_simp
    have kb2_0_1 : w2.cell? ⟨w1.heap.size, 1, none⟩ = some (.int .i64 q) := by go_simp
    have kf2_0_1 : w2.frozen? ⟨w1.heap.size, 1, none⟩ = false := by go_simp
    clear hc2 hf2
    go_wp2_with fail
    refine (specRank_is p q k _ true _ HV.out HB.out).mono ?_
    rintro e w3 ⟨rfl, hh3⟩
    obtain ⟨hc3, hf3⟩ := bcell hh3
    have hz3 := hh3.size
    try simp only [World.size_alloc] at hz3
    have hz3_0 : w1.heap.size < w3.heap.size := by omega
    have kb3_0_0 : w3.cell? ⟨w1.heap.size, 0, none⟩ = some (.int .i64 p) := by go_simp
    have kf3_0_0 : w3.frozen? ⟨w1.heap.size, 0, none⟩ = false := by go_simp
    have kb3_0_1 : w3.cell? ⟨w1.heap.size, 1, none⟩ = some (.int .i64 q) := by go_simp
    have kf3_0_1 : w3.frozen? ⟨w1.heap.size, 1, none⟩ = false := by go_simp
    clear hc3 hf3
    go_wp2_with fail
    go_loopw [11] (fun c wr => ∃ t : Nat, 1 ≤ t ∧ t ≤ R + 1 ∧ t ≤ 61 ∧ c = .int .i64 t ∧ wr.cell? ⟨w1.heap.size, 0, none⟩ = some (.int .i64 p) ∧ wr.cell? ⟨w1.heap.size, 1, none⟩ = some (.int .i64 q) ∧ Below w.heap.size w wr) (fun c _ => 70 - (intOf c).toNat)
    case atStart => exact ⟨1, by omega, by omega, by omega, rfl, kb3_0_0, kb3_0_1, by (repeat (first | exact Below.refl _ _ | refine Below.setCell ?_ (by first | omega | (simp <;> omega)) _ | refine Below.alloc ?_ (by first | omega | (simp <;> omega)) _ | refine Below.drew ?_ | refine Below.trans ?_ (Below.mono (by assumption) (by first | omega | (simp <;> omega))) | refine Below.grown ?_ (by assumption) (by first | omega | (simp <;> omega)) (fun k e => by cases e; first | omega | (simp <;> omega))))⟩
    case round =>
      clear kb3_0_0 kb3_0_1 kf3_0_0 kf3_0_1 hh1 hh2 hh3
      obtain ⟨t, t1, t2, t3, rfl, kpwr, kqwr, hBwr⟩ := hrel
      by_cases htR : t ≤ R
      · have htRi : (t : Int) ≤ (R : Int) := by omega
        by_cases ht60 : t ≤ 60
        · have ht60i : (t : Int) ≤ 60 := by omega
          by_cases he : t = R
          · have hv : row p q 0 1 t % (k : Int) = 0 := by
              have := HL.out t t1 htR
              rw [decide_eq_true he, beq_iff_eq] at this
              exact this
            have HVV := Lib.hid hv
            clear hv
            subst he
            go_wp2_with fail
            refine (implFarFirst_at p q k t 0 _ _ rfl HP.out (by omega) (by omega) (by omega) HVV.out).mono ?_
            rintro e wd ⟨rfl, hhwd⟩
            have kpwd : wd.cell? ⟨w1.heap.size, 0, none⟩ = some (.int .i64 p) := cell_below hhwd kpwr
            have kqwd : wd.cell? ⟨w1.heap.size, 1, none⟩ = some (.int .i64 q) := cell_below hhwd kqwr
            have hBwd : Below w.heap.size w wd := hBwr.trans (hhwd.mono hBwr.size)
            clear kpwr kqwr hhwd hBwr
            go_wp2
            go_roundw
            case rel => exact ⟨t + 1, by omega, by omega, by omega, congrArg (Value.int .i64) (by omega), kpwd, kqwd, hBwd⟩
            case measure => simp [intOf]; omega
          · have hv : (row p q 0 1 t % (k : Int) == 0) = false := by rw [HL.out t t1 htR]; simpa using he
            have heI : ((t : Int) == (R : Int)) = false := by simp; omega
            go_wp2_with fail
            refine (implFarFirst_at p q k t _ _ _ rfl HP.out (by omega) (by omega) (by omega) rfl).mono ?_
            rintro e wd ⟨rfl, hhwd⟩
            have kpwd : wd.cell? ⟨w1.heap.size, 0, none⟩ = some (.int .i64 p) := cell_below hhwd kpwr
            have kqwd : wd.cell? ⟨w1.heap.size, 1, none⟩ = some (.int .i64 q) := cell_below hhwd kqwr
            have hBwd : Below w.heap.size w wd := hBwr.trans (hhwd.mono hBwr.size)
            clear kpwr kqwr hhwd hBwr
            go_wp2
            go_roundw
            case rel => exact ⟨t + 1, by omega, by omega, by omega, congrArg (Value.int .i64) (by omega), kpwd, kqwd, hBwd⟩
            case measure => simp [intOf]; omega
        · have hgt : 60 < (t : Int) := by omega
          have kpa := kpwr
          have kqa := kqwr
          have hBa := hBwr
          clear kpwr kqwr hBwr
          go_wp2_with fail
          go_loopw [12, 13, 14] (fun c _ _ wr => ∃ d : Nat, 1 ≤ d ∧ d ≤ k + 1 ∧ c = .int .i64 d ∧ wr.cell? ⟨w1.heap.size, 0, none⟩ = some (.int .i64 p) ∧ wr.cell? ⟨w1.heap.size, 1, none⟩ = some (.int .i64 q) ∧ Below w.heap.size w wr) (fun c _ _ _ => 500 - (intOf c).toNat)
          case atStart => exact ⟨1, by omega, by omega, rfl, kpa, kqa, hBa⟩
          case round =>
            clear kpa kqa hBa
            obtain ⟨d, d1, d2, rfl, kpwr, kqwr, hBwr⟩ := hrel
            by_cases hdk : d ≤ k
            · have hdki : (d : Int) ≤ (k : Int) := by omega
              by_cases hdv : d ∣ k
              · have hda := Apart.of_nat_dvd HA.out hdv
                have hdB := rankB_mk (p := p) HP.out HQ.out d1 (by omega) hda
                obtain ⟨s1, s2⟩ := rank_bd (p := p) d1 (by omega) hda
                have HDV := Lib.hid (rankV_is hdB)
                have HDB := Lib.hid hdB
                have hrd : rankN p q d ∣ R := by have := rankN_of_dvd (p := p) k1 HA.out hdv; rwa [HR.out] at this
                obtain ⟨s, hs⟩ : ∃ s, rankN p q d = s := ⟨_, rfl⟩
                rw [hs] at HDV s1 s2 hrd
                have t1 : (k : Int) % (d : Int) = 0 := Int.emod_eq_zero_of_dvd (Int.natCast_dvd_natCast.2 hdv)
                have t2 : (R : Int) % (s : Int) = 0 := Int.emod_eq_zero_of_dvd (Int.natCast_dvd_natCast.2 hrd)
                have z1 : ((d : Int) == 0) = false := by simp; omega
                have z2 : ((s : Int) == 0) = false := by simp; omega
                have hs1 : (1 : Int) ≤ (s : Int) := by omega
                clear hda hdB hrd hs hdv
                go_wp2_with fail
                refine (implRank_is p q d _ true _ HDV.out HDB.out).mono ?_
                rintro e wd ⟨rfl, hhwd⟩
                have kpwd : wd.cell? ⟨w1.heap.size, 0, none⟩ = some (.int .i64 p) := cell_below hhwd kpwr
                have kqwd : wd.cell? ⟨w1.heap.size, 1, none⟩ = some (.int .i64 q) := cell_below hhwd kqwr
                have hBwd : Below w.heap.size w wd := hBwr.trans (hhwd.mono hBwr.size)
                clear kpwr kqwr hhwd hBwr
                go_wp2
                go_roundw
                case rel => exact ⟨d + 1, by omega, by omega, congrArg (Value.int .i64) (by omega), kpwd, kqwd, hBwd⟩
                case measure => simp [intOf]; omega
              · have t1 : ((k : Int) % (d : Int) == 0) = false := by
                  rw [Bool.eq_false_iff]
                  intro h
                  exact hdv (Int.natCast_dvd_natCast.1 (left_zero_iff.1 h))
                have z1 : ((d : Int) == 0) = false := by simp; omega
                clear hdv
                go_wp2_with fail
                refine (implRank_any p q d _).mono ?_
                rintro e wd ⟨rfl, hhwd⟩
                have kpwd : wd.cell? ⟨w1.heap.size, 0, none⟩ = some (.int .i64 p) := cell_below hhwd kpwr
                have kqwd : wd.cell? ⟨w1.heap.size, 1, none⟩ = some (.int .i64 q) := cell_below hhwd kqwr
                have hBwd : Below w.heap.size w wd := hBwr.trans (hhwd.mono hBwr.size)
                clear kpwr kqwr hhwd hBwr
                go_wp2
                go_roundw
                case rel => exact ⟨d + 1, by omega, by omega, congrArg (Value.int .i64) (by omega), kpwd, kqwd, hBwd⟩
                case measure => simp [intOf]; omega
            · have hgt : (k : Int) < (d : Int) := by omega
              go_wp2_with fail
              refine (drawRankOf_any _ _ _ _ z1 (w1r.below hBwr)).mono ?_
              rintro e wb ⟨p', q', o, rfl, hhb⟩
              have kpb : wb.cell? ⟨w1.heap.size, 0, none⟩ = some (.int .i64 p) := cell_below hhb kpwr
              have kqb : wb.cell? ⟨w1.heap.size, 1, none⟩ = some (.int .i64 q) := cell_below hhb kqwr
              have hBb : Below w.heap.size w wb := hBwr.trans (hhb.mono hBwr.size)
              have hl1 : w1.heap.size < wb.heap.size := World.block_lt_of_cell? _ _ kpb
              clear kpwr kqwr hBwr hhb hgt
              go_wp2_with fail
              go_loop [17, 18, 19] (fun x y _ => ∃ c d : Int, x = .int .i64 c ∧ y = .int .i64 d ∧ 0 ≤ c ∧ (o ≤ 0 → d ≤ 0) ∧ (0 < o → 0 ≤ d ∧ Int.gcd c d = Int.gcd k o)) (fun _ y _ => (intOf y).natAbs)
              case atStart => exact ⟨k, o, rfl, rfl, by omega, fun h => h, fun h => ⟨by omega, rfl⟩⟩
              case round =>
                obtain ⟨c, d, rfl, rfl, c0, hneg, hpos⟩ := hrel
                by_cases hd0 : 0 < d
                · have ho : 0 < o := by
                    rcases Int.lt_or_le 0 o with h | h
                    · exact h
                    · have := hneg h; omega
                  have HG := Lib.hid (hpos ho).2
                  have hz : (d == 0) = false := by simp; omega
                  have et : c.tmod d = c % d := Int.tmod_eq_emod_of_nonneg c0
                  have e1 := Int.emod_nonneg c (show d ≠ 0 by omega)
                  have e2 := Int.emod_lt_of_pos c hd0
                  have HE := Lib.hid (show Int.gcd d (c % d) = Int.gcd k o by rw [← et]; exact (gcd_rem c d).trans HG.out)
                  clear hneg hpos
                  go_wp2
                  go_round
                  case rel => exact ⟨d, c % d, rfl, rfl, by omega, fun h => by omega, fun _ => ⟨e1, HE.out⟩⟩
                  case measure => simp [intOf]; omega
                · have hd0' : d ≤ 0 := by omega
                  have hfin : 0 < o → c = ((Nat.gcd k o.toNat : Nat) : Int) := fun h => by
                    obtain ⟨h1, h2⟩ := hpos h
                    obtain rfl : d = 0 := by omega
                    rw [Int.gcd_zero_right] at h2
                    have e : (Int.gcd (k : Int) o : Nat) = Nat.gcd k o.toNat := by
                      obtain ⟨j, rfl⟩ := Int.eq_ofNat_of_zero_le (show 0 ≤ o by omega)
                      rfl
                    rw [← e, ← h2]
                    omega
                  obtain ⟨wc, hwc⟩ : ∃ wc, wb.alloc (.cells #[.int .i64 p', .int .i64 q'] 24) = wc := ⟨_, rfl⟩
                  have hbc : Below wb.heap.size wb wc := by rw [← hwc]; exact (Below.refl _ _).alloc (Nat.le_refl _) _
                  rw [hwc]
                  have kpc : wc.cell? ⟨w1.heap.size, 0, none⟩ = some (.int .i64 p) := cell_below hbc kpb
                  have kqc : wc.cell? ⟨w1.heap.size, 1, none⟩ = some (.int .i64 q) := cell_below hbc kqb
                  have hBc : Below w.heap.size w wc := hBb.trans (hbc.mono hBb.size)
                  clear hneg hpos hwc hbc kpb kqb hBb hl1
                  cases hob : rankB p q o with
                  | false =>
                    have HOB := Lib.hid hob
                    clear hob hfin
                    go_wp2_with fail
                    refine (implRank_is p q o _ false _ rfl HOB.out).mono ?_
                    rintro e d ⟨rfl, hhd⟩
                    have kpd : d.cell? ⟨w1.heap.size, 0, none⟩ = some (.int .i64 p) := cell_below hhd kpc
                    have kqd : d.cell? ⟨w1.heap.size, 1, none⟩ = some (.int .i64 q) := cell_below hhd kqc
                    have hBd : Below w.heap.size w d := hBc.trans (hhd.mono hBc.size)
                    clear kpc kqc hhd hBc
                    go_wp2
                    go_ret
                    exact ⟨rfl, hBd⟩
                  | true =>
                    obtain ⟨_, _, _, _, j, rfl, j1, j2, hja⟩ := rankB_true hob
                    obtain ⟨rj1, rj2⟩ := rank_bd (p := p) j1 j2 hja
                    have HOB := Lib.hid hob
                    have HCG := Lib.hid (show c = ((Nat.gcd k j : Nat) : Int) from hfin (by omega))
                    have HOV := Lib.hid (rankV_is hob)
                    clear hob hfin
                    go_wp2_with fail
                    refine (implRank_is p q j _ true _ HOV.out HOB.out).mono ?_
                    rintro e d ⟨rfl, hhd⟩
                    have kpd : d.cell? ⟨w1.heap.size, 0, none⟩ = some (.int .i64 p) := cell_below hhd kpc
                    have kqd : d.cell? ⟨w1.heap.size, 1, none⟩ = some (.int .i64 q) := cell_below hhd kqc
                    have hBd : Below w.heap.size w d := hBc.trans (hhd.mono hBc.size)
                    clear kpc kqc hhd hBc
                    by_cases hc1 : c = 1
                    · have hgkj : Nat.gcd k j = 1 := by have := HCG.out; omega
                      have hjk : (j : Int) * (k : Int) = ((j * k : Nat) : Int) := by simp
                      have hb0 : j * k ≤ 400 * 400 := Nat.mul_le_mul j2 k2
                      have U : IntKind.i64.wrap ((j : Int) * (k : Int)) = (j : Int) * (k : Int) := by rw [IntKind.wrap_i64, hjk]; omega
                      by_cases hle : j * k ≤ 400
                      · have hle' : (j : Int) * (k : Int) ≤ 400 := by rw [hjk]; omega
                        have hap : Apart ((j * k : Nat) : Int) q := by
                          rw [← hjk]
                          exact (hja.symm.mul HA.out.symm).symm
                        have HRB := Lib.hid (show rankB p q ((j : Int) * (k : Int)) = true by rw [hjk]; exact rankB_mk HP.out HQ.out (Nat.mul_pos j1 k1) hle hap)
                        have hlcm : rankN p q (j * k) = Nat.lcm R (rankN p q j) := by rw [rankN_mul j1 k1 (by rw [Nat.gcd_comm]; exact hgkj) hap, HR.out, Nat.lcm_comm]
                        have HRV := Lib.hid (show rankV p q ((j : Int) * (k : Int)) = ((Nat.lcm R (rankN p q j) : Nat) : Int) by
                          have h2 := HRB.out
                          rw [hjk] at h2 ⊢
                          rw [rankV_is h2, hlcm])
                        have HLV := Lib.hid (show leastV (R : Int) (rankN p q j : Int) = ((Nat.lcm R (rankN p q j) : Nat) : Int) by
                          have h2 : leastB (R : Int) (rankN p q j : Int) = true := by simp [leastB, inB_mk (n := (R : Int)) (a := 1) (b := 200000) (by omega) (by omega), inB_mk (n := (rankN p q j : Int)) (a := 1) (b := 200000) (by omega) (by omega)]
                          rw [leastV, if_pos h2]; rfl)
                        obtain ⟨l, hl⟩ : ∃ l, Nat.lcm R (rankN p q j) = l := ⟨_, rfl⟩
                        rw [hl] at HRV HLV
                        obtain ⟨s, hs⟩ : ∃ s, rankN p q j = s := ⟨_, rfl⟩
                        rw [hs] at HLV rj1 rj2 ⊢
                        have hcb : (c == 1) = true := by simpa using hc1
                        clear hjk hb0 hap hlcm hl hgkj
                        subst hc1
                        go_wp2_with fail
                        refine (implRank_is p q _ _ true _ HRV.out HRB.out).mono ?_
                        rintro e e ⟨rfl, hhe⟩
                        have kpe : e.cell? ⟨w1.heap.size, 0, none⟩ = some (.int .i64 p) := cell_below hhe kpd
                        have kqe : e.cell? ⟨w1.heap.size, 1, none⟩ = some (.int .i64 q) := cell_below hhe kqd
                        have hBe : Below w.heap.size w e := hBd.trans (hhe.mono hBd.size)
                        clear kpd kqd hhe hBd
                        go_wp2_with fail
                        refine (implLeast_is _ _ _ _ HLV.out).mono ?_
                        rintro e f ⟨rfl, hhf⟩
                        have kpf : f.cell? ⟨w1.heap.size, 0, none⟩ = some (.int .i64 p) := cell_below hhf kpe
                        have kqf : f.cell? ⟨w1.heap.size, 1, none⟩ = some (.int .i64 q) := cell_below hhf kqe
                        have hBf : Below w.heap.size w f := hBe.trans (hhf.mono hBe.size)
                        clear kpe kqe hhf hBe
                        go_wp2
                        go_ret
                        exact ⟨rfl, hBf⟩
                      · have hle' : 400 < (j : Int) * (k : Int) := by rw [hjk]; omega
                        clear hjk hb0 hgkj
                        subst hc1
                        go_wp2
                        go_ret
                        exact ⟨rfl, hBd⟩
                    · have hcb : (c == 1) = false := by simpa using hc1
                      go_wp2
                      go_ret
                      exact ⟨rfl, hBd⟩
      · have hgt : (R : Int) < (t : Int) := by omega
        have kpa := kpwr
        have kqa := kqwr
        have hBa := hBwr
        clear kpwr kqwr hBwr
        go_wp2_with fail
        go_loopw [12, 13, 14] (fun c _ _ wr => ∃ d : Nat, 1 ≤ d ∧ d ≤ k + 1 ∧ c = .int .i64 d ∧ wr.cell? ⟨w1.heap.size, 0, none⟩ = some (.int .i64 p) ∧ wr.cell? ⟨w1.heap.size, 1, none⟩ = some (.int .i64 q) ∧ Below w.heap.size w wr) (fun c _ _ _ => 500 - (intOf c).toNat)
        case atStart => exact ⟨1, by omega, by omega, rfl, kpa, kqa, hBa⟩
        case round =>
          clear kpa kqa hBa
          obtain ⟨d, d1, d2, rfl, kpwr, kqwr, hBwr⟩ := hrel
          by_cases hdk : d ≤ k
          · have hdki : (d : Int) ≤ (k : Int) := by omega
            by_cases hdv : d ∣ k
            · have hda := Apart.of_nat_dvd HA.out hdv
              have hdB := rankB_mk (p := p) HP.out HQ.out d1 (by omega) hda
              obtain ⟨s1, s2⟩ := rank_bd (p := p) d1 (by omega) hda
              have HDV := Lib.hid (rankV_is hdB)
              have HDB := Lib.hid hdB
              have hrd : rankN p q d ∣ R := by have := rankN_of_dvd (p := p) k1 HA.out hdv; rwa [HR.out] at this
              obtain ⟨s, hs⟩ : ∃ s, rankN p q d = s := ⟨_, rfl⟩
              rw [hs] at HDV s1 s2 hrd
              have t1 : (k : Int) % (d : Int) = 0 := Int.emod_eq_zero_of_dvd (Int.natCast_dvd_natCast.2 hdv)
              have t2 : (R : Int) % (s : Int) = 0 := Int.emod_eq_zero_of_dvd (Int.natCast_dvd_natCast.2 hrd)
              have z1 : ((d : Int) == 0) = false := by simp; omega
              have z2 : ((s : Int) == 0) = false := by simp; omega
              have hs1 : (1 : Int) ≤ (s : Int) := by omega
              clear hda hdB hrd hs hdv
              go_wp2_with fail
              refine (implRank_is p q d _ true _ HDV.out HDB.out).mono ?_
              rintro e wd ⟨rfl, hhwd⟩
              have kpwd : wd.cell? ⟨w1.heap.size, 0, none⟩ = some (.int .i64 p) := cell_below hhwd kpwr
              have kqwd : wd.cell? ⟨w1.heap.size, 1, none⟩ = some (.int .i64 q) := cell_below hhwd kqwr
              have hBwd : Below w.heap.size w wd := hBwr.trans (hhwd.mono hBwr.size)
              clear kpwr kqwr hhwd hBwr
              go_wp2
              go_roundw
              case rel => exact ⟨d + 1, by omega, by omega, congrArg (Value.int .i64) (by omega), kpwd, kqwd, hBwd⟩
              case measure => simp [intOf]; omega
            · have t1 : ((k : Int) % (d : Int) == 0) = false := by
                rw [Bool.eq_false_iff]
                intro h
                exact hdv (Int.natCast_dvd_natCast.1 (left_zero_iff.1 h))
              have z1 : ((d : Int) == 0) = false := by simp; omega
              clear hdv
              go_wp2_with fail
              refine (implRank_any p q d _).mono ?_
              rintro e wd ⟨rfl, hhwd⟩
              have kpwd : wd.cell? ⟨w1.heap.size, 0, none⟩ = some (.int .i64 p) := cell_below hhwd kpwr
              have kqwd : wd.cell? ⟨w1.heap.size, 1, none⟩ = some (.int .i64 q) := cell_below hhwd kqwr
              have hBwd : Below w.heap.size w wd := hBwr.trans (hhwd.mono hBwr.size)
              clear kpwr kqwr hhwd hBwr
              go_wp2
              go_roundw
              case rel => exact ⟨d + 1, by omega, by omega, congrArg (Value.int .i64) (by omega), kpwd, kqwd, hBwd⟩
              case measure => simp [intOf]; omega
          · have hgt : (k : Int) < (d : Int) := by omega
            go_wp2_with fail
            refine (drawRankOf_any _ _ _ _ z1 (w1r.below hBwr)).mono ?_
            rintro e wb ⟨p', q', o, rfl, hhb⟩
            have kpb : wb.cell? ⟨w1.heap.size, 0, none⟩ = some (.int .i64 p) := cell_below hhb kpwr
            have kqb : wb.cell? ⟨w1.heap.size, 1, none⟩ = some (.int .i64 q) := cell_below hhb kqwr
            have hBb : Below w.heap.size w wb := hBwr.trans (hhb.mono hBwr.size)
            have hl1 : w1.heap.size < wb.heap.size := World.block_lt_of_cell? _ _ kpb
            clear kpwr kqwr hBwr hhb hgt
            go_wp2_with fail
            go_loop [17, 18, 19] (fun x y _ => ∃ c d : Int, x = .int .i64 c ∧ y = .int .i64 d ∧ 0 ≤ c ∧ (o ≤ 0 → d ≤ 0) ∧ (0 < o → 0 ≤ d ∧ Int.gcd c d = Int.gcd k o)) (fun _ y _ => (intOf y).natAbs)
            case atStart => exact ⟨k, o, rfl, rfl, by omega, fun h => h, fun h => ⟨by omega, rfl⟩⟩
            case round =>
              obtain ⟨c, d, rfl, rfl, c0, hneg, hpos⟩ := hrel
              by_cases hd0 : 0 < d
              · have ho : 0 < o := by
                  rcases Int.lt_or_le 0 o with h | h
                  · exact h
                  · have := hneg h; omega
                have HG := Lib.hid (hpos ho).2
                have hz : (d == 0) = false := by simp; omega
                have et : c.tmod d = c % d := Int.tmod_eq_emod_of_nonneg c0
                have e1 := Int.emod_nonneg c (show d ≠ 0 by omega)
                have e2 := Int.emod_lt_of_pos c hd0
                have HE := Lib.hid (show Int.gcd d (c % d) = Int.gcd k o by rw [← et]; exact (gcd_rem c d).trans HG.out)
                clear hneg hpos
                go_wp2
                go_round
                case rel => exact ⟨d, c % d, rfl, rfl, by omega, fun h => by omega, fun _ => ⟨e1, HE.out⟩⟩
                case measure => simp [intOf]; omega
              · have hd0' : d ≤ 0 := by omega
                have hfin : 0 < o → c = ((Nat.gcd k o.toNat : Nat) : Int) := fun h => by
                  obtain ⟨h1, h2⟩ := hpos h
                  obtain rfl : d = 0 := by omega
                  rw [Int.gcd_zero_right] at h2
                  have e : (Int.gcd (k : Int) o : Nat) = Nat.gcd k o.toNat := by
                    obtain ⟨j, rfl⟩ := Int.eq_ofNat_of_zero_le (show 0 ≤ o by omega)
                    rfl
                  rw [← e, ← h2]
                  omega
                obtain ⟨wc, hwc⟩ : ∃ wc, wb.alloc (.cells #[.int .i64 p', .int .i64 q'] 24) = wc := ⟨_, rfl⟩
                have hbc : Below wb.heap.size wb wc := by rw [← hwc]; exact (Below.refl _ _).alloc (Nat.le_refl _) _
                rw [hwc]
                have kpc : wc.cell? ⟨w1.heap.size, 0, none⟩ = some (.int .i64 p) := cell_below hbc kpb
                have kqc : wc.cell? ⟨w1.heap.size, 1, none⟩ = some (.int .i64 q) := cell_below hbc kqb
                have hBc : Below w.heap.size w wc := hBb.trans (hbc.mono hBb.size)
                clear hneg hpos hwc hbc kpb kqb hBb hl1
                cases hob : rankB p q o with
                | false =>
                  have HOB := Lib.hid hob
                  clear hob hfin
                  go_wp2_with fail
                  refine (implRank_is p q o _ false _ rfl HOB.out).mono ?_
                  rintro e d ⟨rfl, hhd⟩
                  have kpd : d.cell? ⟨w1.heap.size, 0, none⟩ = some (.int .i64 p) := cell_below hhd kpc
                  have kqd : d.cell? ⟨w1.heap.size, 1, none⟩ = some (.int .i64 q) := cell_below hhd kqc
                  have hBd : Below w.heap.size w d := hBc.trans (hhd.mono hBc.size)
                  clear kpc kqc hhd hBc
                  go_wp2
                  go_ret
                  exact ⟨rfl, hBd⟩
                | true =>
                  obtain ⟨_, _, _, _, j, rfl, j1, j2, hja⟩ := rankB_true hob
                  obtain ⟨rj1, rj2⟩ := rank_bd (p := p) j1 j2 hja
                  have HOB := Lib.hid hob
                  have HCG := Lib.hid (show c = ((Nat.gcd k j : Nat) : Int) from hfin (by omega))
                  have HOV := Lib.hid (rankV_is hob)
                  clear hob hfin
                  go_wp2_with fail
                  refine (implRank_is p q j _ true _ HOV.out HOB.out).mono ?_
                  rintro e d ⟨rfl, hhd⟩
                  have kpd : d.cell? ⟨w1.heap.size, 0, none⟩ = some (.int .i64 p) := cell_below hhd kpc
                  have kqd : d.cell? ⟨w1.heap.size, 1, none⟩ = some (.int .i64 q) := cell_below hhd kqc
                  have hBd : Below w.heap.size w d := hBc.trans (hhd.mono hBc.size)
                  clear kpc kqc hhd hBc
                  by_cases hc1 : c = 1
                  · have hgkj : Nat.gcd k j = 1 := by have := HCG.out; omega
                    have hjk : (j : Int) * (k : Int) = ((j * k : Nat) : Int) := by simp
                    have hb0 : j * k ≤ 400 * 400 := Nat.mul_le_mul j2 k2
                    have U : IntKind.i64.wrap ((j : Int) * (k : Int)) = (j : Int) * (k : Int) := by rw [IntKind.wrap_i64, hjk]; omega
                    by_cases hle : j * k ≤ 400
                    · have hle' : (j : Int) * (k : Int) ≤ 400 := by rw [hjk]; omega
                      have hap : Apart ((j * k : Nat) : Int) q := by
                        rw [← hjk]
                        exact (hja.symm.mul HA.out.symm).symm
                      have HRB := Lib.hid (show rankB p q ((j : Int) * (k : Int)) = true by rw [hjk]; exact rankB_mk HP.out HQ.out (Nat.mul_pos j1 k1) hle hap)
                      have hlcm : rankN p q (j * k) = Nat.lcm R (rankN p q j) := by rw [rankN_mul j1 k1 (by rw [Nat.gcd_comm]; exact hgkj) hap, HR.out, Nat.lcm_comm]
                      have HRV := Lib.hid (show rankV p q ((j : Int) * (k : Int)) = ((Nat.lcm R (rankN p q j) : Nat) : Int) by
                        have h2 := HRB.out
                        rw [hjk] at h2 ⊢
                        rw [rankV_is h2, hlcm])
                      have HLV := Lib.hid (show leastV (R : Int) (rankN p q j : Int) = ((Nat.lcm R (rankN p q j) : Nat) : Int) by
                        have h2 : leastB (R : Int) (rankN p q j : Int) = true := by simp [leastB, inB_mk (n := (R : Int)) (a := 1) (b := 200000) (by omega) (by omega), inB_mk (n := (rankN p q j : Int)) (a := 1) (b := 200000) (by omega) (by omega)]
                        rw [leastV, if_pos h2]; rfl)
                      obtain ⟨l, hl⟩ : ∃ l, Nat.lcm R (rankN p q j) = l := ⟨_, rfl⟩
                      rw [hl] at HRV HLV
                      obtain ⟨s, hs⟩ : ∃ s, rankN p q j = s := ⟨_, rfl⟩
                      rw [hs] at HLV rj1 rj2 ⊢
                      have hcb : (c == 1) = true := by simpa using hc1
                      clear hjk hb0 hap hlcm hl hgkj
                      subst hc1
                      go_wp2_with fail
                      refine (implRank_is p q _ _ true _ HRV.out HRB.out).mono ?_
                      rintro e e ⟨rfl, hhe⟩
                      have kpe : e.cell? ⟨w1.heap.size, 0, none⟩ = some (.int .i64 p) := cell_below hhe kpd
                      have kqe : e.cell? ⟨w1.heap.size, 1, none⟩ = some (.int .i64 q) := cell_below hhe kqd
                      have hBe : Below w.heap.size w e := hBd.trans (hhe.mono hBd.size)
                      clear kpd kqd hhe hBd
                      go_wp2_with fail
                      refine (implLeast_is _ _ _ _ HLV.out).mono ?_
                      rintro e f ⟨rfl, hhf⟩
                      have kpf : f.cell? ⟨w1.heap.size, 0, none⟩ = some (.int .i64 p) := cell_below hhf kpe
                      have kqf : f.cell? ⟨w1.heap.size, 1, none⟩ = some (.int .i64 q) := cell_below hhf kqe
                      have hBf : Below w.heap.size w f := hBe.trans (hhf.mono hBe.size)
                      clear kpe kqe hhf hBe
                      go_wp2
                      go_ret
                      exact ⟨rfl, hBf⟩
                    · have hle' : 400 < (j : Int) * (k : Int) := by rw [hjk]; omega
                      clear hjk hb0 hgkj
                      subst hc1
                      go_wp2
                      go_ret
                      exact ⟨rfl, hBd⟩
                  · have hcb : (c == 1) = false := by simpa using hc1
                    go_wp2
                    go_ret
                    exact ⟨rfl, hBd⟩
end Go.Proofs.Ytgipkcbmanjpcaa
