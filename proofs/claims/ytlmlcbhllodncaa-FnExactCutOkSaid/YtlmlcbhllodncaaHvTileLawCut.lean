/- Contracts that the statement's proof stands on. -/
import Derived.Test.YtlmlcbhllodncaaAll1

namespace Go.Proofs.Ytlmlcbhllodncaa
open Go.RowKit
theorem cutsN_next {L : List (List UInt8)} {i : Nat} (m : Nat) (h : i < L.length) : cutsN (L.take (i + 1)) m = cutsN (L.take i) m + (if cutL L[i] m = true then 1 else 0) := by
  rw [List.take_succ_eq_append_getElem h, cutsN_append]
  congr 1
  rw [cutsN]
  split
  · rename_i hc; simp [hc]
  · rename_i hc; simp [hc]
theorem bytesL_mk (l : List UInt8) : bytesL (mkB l) = l := by simp [bytesL, mkB]
theorem cut_way {x y n m : Nat} (x3 : x ≤ 3) (y3 : y ≤ 3) (n8 : n ≤ 8) (mn : m ≤ n) (l : List UInt8) (h : l ∈ wayN x y n) : (mkB l).size ≤ 8 ∧ cutB (mkB l) m = cutL l m := by
  obtain ⟨h1, h2, h3⟩ := wayN_mem x3 y3 n l h
  have hb : cellsB (mkB l) = true := by rw [cellsB, bytesL_mk, h1, mkB_size]; simp; omega
  refine ⟨by rw [mkB_size]; omega, ?_⟩
  rw [cutB, cellsV_is hb, bytesL_mk, h2, inB_mk (by omega) (by omega)]; rfl
set_option maxRecDepth 100000 in
set_option maxHeartbeats 8000000 in
theorem fnCountCut_walk (a : Option Addr) (len cap : Nat) (z : List Int) (w : World) (w0 : IsRow w a len cap z) :
    Calls Try.prog 9 #[.slice a len cap] w fun e w' => e = .returned (.bool true) ∧ Below w.heap.size w w' := by
  by_cases hbig : 1048576 < len
  · go_enter Try.func9, Try.ntmps9
    go_wp2
    go_ret
    exact ⟨rfl, Below.refl _ _⟩
  · have hsm : len ≤ 1048576 := by omega
    go_enter Try.func9, Try.ntmps9
    go_wp2_with fail
    refine (drawCountCut_any _ _ _ _ z w0).mono ?_
    rintro e w1 ⟨c, b, s, d, rfl, hh1⟩
    have hz1 := hh1.size
    obtain ⟨hc1, hf1⟩ := bcell hh1
    cases ht : cutsB c b s d with
    | false =>
      have HV := Lib.hid (cutsV_no ht)
      clear ht
      go_wp2_with fail
      refine (implCuts_is c b s d (-1) _ HV.out).mono ?_
      rintro e w2 ⟨rfl, hh2⟩
      obtain ⟨hc2, hf2⟩ := bcell hh2
      have hz2 := hh2.size
      try simp only [World.size_alloc] at hz2
      clear hc2 hf2
      go_wp2_with fail
      refine (specCuts_is c b s d (-1) _ HV.out).mono ?_
      rintro e wx ⟨rfl, rfl⟩
      go_wp2_with fail
      refine (alive_any _).mono ?_
      rintro e w3 ⟨rfl, hh3⟩
      obtain ⟨hc3, hf3⟩ := bcell hh3
      have hz3 := hh3.size
      try simp only [World.size_alloc] at hz3
      clear hc3 hf3
      go_wp2
      go_ret
      exact ⟨rfl, by (repeat (first | exact Below.refl _ _ | refine Below.setCell ?_ (by first | omega | (simp <;> omega)) _ | refine Below.alloc ?_ (by first | omega | (simp <;> omega)) _ | refine Below.drew ?_ | refine Below.trans ?_ (Below.mono (by assumption) (by first | omega | (simp <;> omega))) | refine Below.grown ?_ (by assumption) (by first | omega | (simp <;> omega)) (fun k e => by cases e; first | omega | (simp <;> omega))))⟩
    | true =>
      obtain ⟨n, m, x, y, rfl, rfl, rfl, rfl, n8, mn, x3, y3⟩ := cutsB_true ht
      have hV := cutsV_is ht
      have m1 := mul_wide (cntN_bd x (by omega) y (by omega) m (by omega)) (cntN_bd x (by omega) y (by omega) (n - m) (by omega))
      have hw : waysB n x y = true → waysL n x y = wayN x y n := waysL_is
      have hwn : waysB n x y = false → waysL n x y = [] := waysL_no
      have hbig := ways_lenL n x y
      obtain ⟨L, hL⟩ : ∃ L, waysL n x y = L := ⟨_, rfl⟩
      rw [hL] at hw hwn hbig
      have hlen : (strB L).length = L.length := by simp [strB]
      obtain ⟨l, hl⟩ : ∃ l, L.length = l := ⟨_, rfl⟩
      have hcut : ∀ q ∈ L, (mkB q).size ≤ 8 ∧ cutB (mkB q) m = cutL q m := by
        intro q hq
        cases hb : waysB n x y with
        | true => rw [hw hb] at hq; exact cut_way x3 y3 n8 mn q hq
        | false => rw [hwn hb] at hq; cases hq
      have hsum0 : 0 < l → ((cutsN L m : Nat) : Int) = (cntN x y m : Int) * (cntN x y (n - m) : Int) := by
        intro h0
        cases hb : waysB n x y with
        | true => rw [hw hb, cutsN_way x3 y3 n m mn]; simp
        | false => rw [hwn hb] at hl; simp at hl; omega
      have hmid : 0 < m → m < n → (cntN x y n : Int) = (cntN x y m : Int) * (cntN x y (n - m) : Int) + (y : Int) * (cntN x y (m - 1) : Int) * (cntN x y (n - m - 1) : Int) := by
        intro h1 h2
        have h3 := cntN_cut x (by omega) y (by omega) n (by omega) m h2 h1
        rw [h3]; simp
      obtain ⟨v, hv⟩ : ∃ v, (cntN x y m : Int) * (cntN x y (n - m) : Int) = v := ⟨_, rfl⟩
      rw [hv] at hV m1 hsum0 hmid
      rw [hl] at hbig
      have v0 : (0 : Int) ≤ v := m1.1
      have v1 : v ≤ 40000000000 := by omega
      have HV := Lib.hid hV
      have HL := Lib.hid hL
      have HLEN := Lib.hid hl
      have HCUT := Lib.hid hcut
      have HSUM := Lib.hid hsum0
      have HMID := Lib.hid hmid
      rw [hl] at hlen
      clear ht hV hL hcut hsum0 hmid hw hwn hv hl m1
      go_wp2_with fail
      refine (implCuts_is n m x y v _ HV.out).mono ?_
      rintro e w2 ⟨rfl, hh2⟩
      obtain ⟨hc2, hf2⟩ := bcell hh2
      have hz2 := hh2.size
      try simp only [World.size_alloc] at hz2
      clear hc2 hf2
      go_wp2_with fail
      refine (specCuts_is n m x y v _ HV.out).mono ?_
      rintro e wx ⟨rfl, rfl⟩
      by_cases hm : 0 < m ∧ m < n
      · obtain ⟨h1, h2⟩ := hm
        have h1i : (0 : Int) < (m : Int) := by omega
        have h2i : (m : Int) < (n : Int) := by omega
        have hmd := HMID.out h1 h2
        have p1 := mul_low y3 (cntN_bd x (by omega) y (by omega) (m - 1) (by omega))
        have c1 := countV_is (tileB_mk (c := m - 1) (by omega) x3 y3)
        have c2 := countV_is (tileB_mk (c := n - m - 1) (by omega) x3 y3)
        have c3 := countV_is (tileB_mk (c := n) n8 x3 y3)
        have b1 := cntN_bd x (by omega) y (by omega) (m - 1) (by omega)
        have b2 := cntN_bd x (by omega) y (by omega) (n - m - 1) (by omega)
        have b3 := cntN_bd x (by omega) y (by omega) n (by omega)
        have p2 := mul_wide (Nat.mul_le_mul y3 b1) b2
        rw [Int.natCast_mul] at p2
        obtain ⟨r1, hr1⟩ : ∃ r, cntN x y (m - 1) = r := ⟨_, rfl⟩
        obtain ⟨r2, hr2⟩ : ∃ r, cntN x y (n - m - 1) = r := ⟨_, rfl⟩
        obtain ⟨r3, hr3⟩ : ∃ r, cntN x y n = r := ⟨_, rfl⟩
        rw [hr1] at hmd p1 c1 p2
        rw [hr2] at hmd c2 p2
        rw [hr3] at hmd c3 b3
        have C1 := Lib.hid c1
        have C2 := Lib.hid c2
        have C3 := Lib.hid c3
        have E1 : IntKind.i64.wrap ((m : Int) - 1) = ((m - 1 : Nat) : Int) := by rw [IntKind.wrap_i64]; omega
        have E2 : (m : Int) - 1 = ((m - 1 : Nat) : Int) := by omega
        have E3 : (n : Int) - (m : Int) - 1 = ((n - m - 1 : Nat) : Int) := by omega
        have HMD := Lib.hid hmd
        have pa := p1.1
        have pb := p1.2
        have pc := p2.1
        have pd := p2.2
        clear hmd c1 c2 c3 hr1 hr2 hr3 b1 b2 p1 p2
        go_wp2_with fail
        refine (implCount_is ((m - 1 : Nat) : Int) x y r1 _ C1.out).mono ?_
        rintro e w5 ⟨rfl, hh5⟩
        obtain ⟨hc5, hf5⟩ := bcell hh5
        have hz5 := hh5.size
        try simp only [World.size_alloc] at hz5
        clear hc5 hf5
        go_wp2_with fail
        refine (implCount_is ((n - m - 1 : Nat) : Int) x y r2 _ C2.out).mono ?_
        rintro e w6 ⟨rfl, hh6⟩
        obtain ⟨hc6, hf6⟩ := bcell hh6
        have hz6 := hh6.size
        try simp only [World.size_alloc] at hz6
        clear hc6 hf6
        have hok : ((v + (y : Int) * (r1 : Int) * (r2 : Int)) != (r3 : Int)) = false := by rw [HMD.out]; simp
        go_wp2_with fail
        refine (implCount_is n x y r3 _ C3.out).mono ?_
        rintro e w7 ⟨rfl, hh7⟩
        obtain ⟨hc7, hf7⟩ := bcell hh7
        have hz7 := hh7.size
        try simp only [World.size_alloc] at hz7
        clear hc7 hf7
        have HB7 := Lib.hid (show Below w.heap.size w w7 by (repeat (first | exact Below.refl _ _ | refine Below.setCell ?_ (by first | omega | (simp <;> omega)) _ | refine Below.alloc ?_ (by first | omega | (simp <;> omega)) _ | refine Below.drew ?_ | refine Below.trans ?_ (Below.mono (by assumption) (by first | omega | (simp <;> omega))) | refine Below.grown ?_ (by assumption) (by first | omega | (simp <;> omega)) (fun k e => by cases e; first | omega | (simp <;> omega)))))
        go_wp2_with fail
        refine (specWays_is n x y L _ HL.out).mono ?_
        rintro e w8 ⟨u8, rfl, hI8, hh8⟩
        have hz8 := hh8.size
        have HB8 := Lib.hid (HB7.out.trans (hh8.mono (HB7.out.size)))
        obtain ⟨a8, c8, rfl, hC8, hs8⟩ := hI8
        rw [hlen] at hs8 ⊢
        clear hh8
        go_wp2_with fail
        go_loopw [10, 11] (fun s k wr => ∃ i : Nat, i ≤ l ∧ (6 < n → i = 0) ∧ k = .int .i64 i ∧ s = .int .i64 ((cutsN (L.take i) m : Nat) : Int) ∧ cutsN (L.take i) m ≤ i ∧ Below w8.heap.size w8 wr) (fun _ k _ => 300000 - (intOf k).toNat)
        case atStart => exact ⟨0, Nat.zero_le _, fun _ => rfl, rfl, rfl, Nat.le_refl _, Below.refl _ _⟩
        case round =>
          obtain ⟨i, hi, hi6, rfl, rfl, hci, hB⟩ := hrel
          have HI6 := Lib.hid hi6
          clear hi6
          by_cases hgo : i < l ∧ n ≤ 6
          · obtain ⟨hlt, n6⟩ := hgo
            rcases hs8 with hs8 | ⟨g, o, rfl, hg1, hg2, hc, hf⟩
            · omega
            have hlt' : i < L.length := by rw [HLEN.out]; exact hlt
            have hcell := hc i hlt
            rw [strB_at hlt'] at hcell
            have hck : wr.cell? ⟨g, o + i, none⟩ = some (.string (mkB L[i])) := (hB.cell (p := ⟨g, o + i, none⟩) (by show g < _; omega)).trans hcell
            have hcut := HCUT.out (L[i]) (List.getElem_mem _)
            have hnx := cutsN_next (L := L) m hlt'
            obtain ⟨q, hq⟩ : ∃ q, L[i] = q := ⟨_, rfl⟩
            rw [hq] at hck hcut hnx
            obtain ⟨u, hu⟩ : ∃ u, cutsN (L.take i) m = u := ⟨_, rfl⟩
            rw [hu] at hci hnx ⊢
            obtain ⟨t, ht⟩ : ∃ t, cutL q m = t := ⟨_, rfl⟩
            rw [ht] at hcut hnx
            obtain ⟨hsz, hcb⟩ := hcut
            obtain ⟨z, hz⟩ : ∃ z, mkB q = z := ⟨_, rfl⟩
            rw [hz] at hck hsz hcb
            have HCB := Lib.hid hcb
            have HN := Lib.hid hnx
            have n6i : (n : Int) ≤ 6 := by omega
            have hli : (i : Int) < (l : Int) := by omega
            have i0 : (0 : Int) ≤ (i : Int) := by omega
            have HBr := Lib.hid hB
            have hBz := hB.size
            clear hcell hc hf hq hu ht hz hcb hnx hB
            cases t with
            | true =>
              go_wp2_with fail
              refine (implCut_is z m true _ (by omega) HCB.out).mono ?_
              rintro e w9 ⟨rfl, hh9⟩
              have HB9 := Lib.hid (HBr.out.trans (hh9.mono hBz))
              clear hh9
              go_wp2
              go_roundw
              case rel => exact ⟨i + 1, by omega, fun h => by omega, congrArg (Value.int .i64) (by omega), congrArg (Value.int .i64) (by rw [HN.out]; simp), by rw [HN.out]; simp; omega, HB9.out⟩
              case measure => simp [intOf]; omega
            | false =>
              go_wp2_with fail
              refine (implCut_is z m false _ (by omega) HCB.out).mono ?_
              rintro e w9 ⟨rfl, hh9⟩
              have HB9 := Lib.hid (HBr.out.trans (hh9.mono hBz))
              clear hh9
              go_wp2
              go_roundw
              case rel => exact ⟨i + 1, by omega, fun h => by omega, congrArg (Value.int .i64) (by omega), congrArg (Value.int .i64) (by rw [HN.out]; simp), by rw [HN.out]; simp; omega, HB9.out⟩
              case measure => simp [intOf]; omega
          · have HBf := Lib.hid (HB8.out.trans (hB.mono HB8.out.size))
            clear hB hs8
            by_cases n6 : n ≤ 6
            · have hil : i = l := by omega
              have hle : (l : Int) ≤ (i : Int) := by omega
              have n6i : (n : Int) ≤ 6 := by omega
              by_cases hl0 : l = 0
              · have hl0b : ((l : Int) == 0) = true := by rw [hl0]; rfl
                clear hgo
                go_wp2
                go_ret
                exact ⟨rfl, HBf.out⟩
              · have hl0b : ((l : Int) == 0) = false := by rw [beq_eq_false_iff_ne]; omega
                have hsum := HSUM.out (by omega)
                have htk : cutsN (L.take i) m = cutsN L m := by rw [List.take_of_length_le (by rw [HLEN.out]; omega)]
                rw [htk]
                have heq : (((cutsN L m : Nat) : Int) == v) = true := by rw [hsum]; simp
                obtain ⟨u, hu⟩ : ∃ u, ((cutsN L m : Nat) : Int) = u := ⟨_, rfl⟩
                rw [hu] at heq ⊢
                clear hgo hsum htk hu
                go_wp2
                go_ret
                exact ⟨rfl, HBf.out⟩
            · have hi0 := HI6.out (by omega)
              have n6i : (6 : Int) < (n : Int) := by omega
              subst hi0
              by_cases hl0 : 0 < l
              · have hl0i : (0 : Int) < (l : Int) := by omega
                clear hgo
                go_wp2
                go_ret
                exact ⟨rfl, HBf.out⟩
              · have hl0i : (l : Int) ≤ 0 := by omega
                clear hgo
                go_wp2
                go_ret
                exact ⟨rfl, HBf.out⟩
      · have hmi : (0 : Int) < (m : Int) → ¬ (m : Int) < (n : Int) := by omega
        by_cases h1 : 0 < m
        · have h1i : (0 : Int) < (m : Int) := by omega
          have h2i : ¬ (m : Int) < (n : Int) := by omega
          have HB7 := Lib.hid (show Below w.heap.size w w2 by (repeat (first | exact Below.refl _ _ | refine Below.setCell ?_ (by first | omega | (simp <;> omega)) _ | refine Below.alloc ?_ (by first | omega | (simp <;> omega)) _ | refine Below.drew ?_ | refine Below.trans ?_ (Below.mono (by assumption) (by first | omega | (simp <;> omega))) | refine Below.grown ?_ (by assumption) (by first | omega | (simp <;> omega)) (fun k e => by cases e; first | omega | (simp <;> omega)))))
          clear hmi hm HMID
          go_wp2_with fail
          refine (specWays_is n x y L _ HL.out).mono ?_
          rintro e w8 ⟨u8, rfl, hI8, hh8⟩
          have hz8 := hh8.size
          have HB8 := Lib.hid (HB7.out.trans (hh8.mono (HB7.out.size)))
          obtain ⟨a8, c8, rfl, hC8, hs8⟩ := hI8
          rw [hlen] at hs8 ⊢
          clear hh8
          go_wp2_with fail
          go_loopw [10, 11] (fun s k wr => ∃ i : Nat, i ≤ l ∧ (6 < n → i = 0) ∧ k = .int .i64 i ∧ s = .int .i64 ((cutsN (L.take i) m : Nat) : Int) ∧ cutsN (L.take i) m ≤ i ∧ Below w8.heap.size w8 wr) (fun _ k _ => 300000 - (intOf k).toNat)
          case atStart => exact ⟨0, Nat.zero_le _, fun _ => rfl, rfl, rfl, Nat.le_refl _, Below.refl _ _⟩
          case round =>
            obtain ⟨i, hi, hi6, rfl, rfl, hci, hB⟩ := hrel
            have HI6 := Lib.hid hi6
            clear hi6
            by_cases hgo : i < l ∧ n ≤ 6
            · obtain ⟨hlt, n6⟩ := hgo
              rcases hs8 with hs8 | ⟨g, o, rfl, hg1, hg2, hc, hf⟩
              · omega
              have hlt' : i < L.length := by rw [HLEN.out]; exact hlt
              have hcell := hc i hlt
              rw [strB_at hlt'] at hcell
              have hck : wr.cell? ⟨g, o + i, none⟩ = some (.string (mkB L[i])) := (hB.cell (p := ⟨g, o + i, none⟩) (by show g < _; omega)).trans hcell
              have hcut := HCUT.out (L[i]) (List.getElem_mem _)
              have hnx := cutsN_next (L := L) m hlt'
              obtain ⟨q, hq⟩ : ∃ q, L[i] = q := ⟨_, rfl⟩
              rw [hq] at hck hcut hnx
              obtain ⟨u, hu⟩ : ∃ u, cutsN (L.take i) m = u := ⟨_, rfl⟩
              rw [hu] at hci hnx ⊢
              obtain ⟨t, ht⟩ : ∃ t, cutL q m = t := ⟨_, rfl⟩
              rw [ht] at hcut hnx
              obtain ⟨hsz, hcb⟩ := hcut
              obtain ⟨z, hz⟩ : ∃ z, mkB q = z := ⟨_, rfl⟩
              rw [hz] at hck hsz hcb
              have HCB := Lib.hid hcb
              have HN := Lib.hid hnx
              have n6i : (n : Int) ≤ 6 := by omega
              have hli : (i : Int) < (l : Int) := by omega
              have i0 : (0 : Int) ≤ (i : Int) := by omega
              have HBr := Lib.hid hB
              have hBz := hB.size
              clear hcell hc hf hq hu ht hz hcb hnx hB
              cases t with
              | true =>
                go_wp2_with fail
                refine (implCut_is z m true _ (by omega) HCB.out).mono ?_
                rintro e w9 ⟨rfl, hh9⟩
                have HB9 := Lib.hid (HBr.out.trans (hh9.mono hBz))
                clear hh9
                go_wp2
                go_roundw
                case rel => exact ⟨i + 1, by omega, fun h => by omega, congrArg (Value.int .i64) (by omega), congrArg (Value.int .i64) (by rw [HN.out]; simp), by rw [HN.out]; simp; omega, HB9.out⟩
                case measure => simp [intOf]; omega
              | false =>
                go_wp2_with fail
                refine (implCut_is z m false _ (by omega) HCB.out).mono ?_
                rintro e w9 ⟨rfl, hh9⟩
                have HB9 := Lib.hid (HBr.out.trans (hh9.mono hBz))
                clear hh9
                go_wp2
                go_roundw
                case rel => exact ⟨i + 1, by omega, fun h => by omega, congrArg (Value.int .i64) (by omega), congrArg (Value.int .i64) (by rw [HN.out]; simp), by rw [HN.out]; simp; omega, HB9.out⟩
                case measure => simp [intOf]; omega
            · have HBf := Lib.hid (HB8.out.trans (hB.mono HB8.out.size))
              clear hB hs8
              by_cases n6 : n ≤ 6
              · have hil : i = l := by omega
                have hle : (l : Int) ≤ (i : Int) := by omega
                have n6i : (n : Int) ≤ 6 := by omega
                by_cases hl0 : l = 0
                · have hl0b : ((l : Int) == 0) = true := by rw [hl0]; rfl
                  clear hgo
                  go_wp2
                  go_ret
                  exact ⟨rfl, HBf.out⟩
                · have hl0b : ((l : Int) == 0) = false := by rw [beq_eq_false_iff_ne]; omega
                  have hsum := HSUM.out (by omega)
                  have htk : cutsN (L.take i) m = cutsN L m := by rw [List.take_of_length_le (by rw [HLEN.out]; omega)]
                  rw [htk]
                  have heq : (((cutsN L m : Nat) : Int) == v) = true := by rw [hsum]; simp
                  obtain ⟨u, hu⟩ : ∃ u, ((cutsN L m : Nat) : Int) = u := ⟨_, rfl⟩
                  rw [hu] at heq ⊢
                  clear hgo hsum htk hu
                  go_wp2
                  go_ret
                  exact ⟨rfl, HBf.out⟩
              · have hi0 := HI6.out (by omega)
                have n6i : (6 : Int) < (n : Int) := by omega
                subst hi0
                by_cases hl0 : 0 < l
                · have hl0i : (0 : Int) < (l : Int) := by omega
                  clear hgo
                  go_wp2
                  go_ret
                  exact ⟨rfl, HBf.out⟩
                · have hl0i : (l : Int) ≤ 0 := by omega
                  clear hgo
                  go_wp2
                  go_ret
                  exact ⟨rfl, HBf.out⟩
        · have h1i : ¬ (0 : Int) < (m : Int) := by omega
          have HB7 := Lib.hid (show Below w.heap.size w w2 by (repeat (first | exact Below.refl _ _ | refine Below.setCell ?_ (by first | omega | (simp <;> omega)) _ | refine Below.alloc ?_ (by first | omega | (simp <;> omega)) _ | refine Below.drew ?_ | refine Below.trans ?_ (Below.mono (by assumption) (by first | omega | (simp <;> omega))) | refine Below.grown ?_ (by assumption) (by first | omega | (simp <;> omega)) (fun k e => by cases e; first | omega | (simp <;> omega)))))
          clear hmi hm HMID
          go_wp2_with fail
          refine (specWays_is n x y L _ HL.out).mono ?_
          rintro e w8 ⟨u8, rfl, hI8, hh8⟩
          have hz8 := hh8.size
          have HB8 := Lib.hid (HB7.out.trans (hh8.mono (HB7.out.size)))
          obtain ⟨a8, c8, rfl, hC8, hs8⟩ := hI8
          rw [hlen] at hs8 ⊢
          clear hh8
          go_wp2_with fail
          go_loopw [10, 11] (fun s k wr => ∃ i : Nat, i ≤ l ∧ (6 < n → i = 0) ∧ k = .int .i64 i ∧ s = .int .i64 ((cutsN (L.take i) m : Nat) : Int) ∧ cutsN (L.take i) m ≤ i ∧ Below w8.heap.size w8 wr) (fun _ k _ => 300000 - (intOf k).toNat)
          case atStart => exact ⟨0, Nat.zero_le _, fun _ => rfl, rfl, rfl, Nat.le_refl _, Below.refl _ _⟩
          case round =>
            obtain ⟨i, hi, hi6, rfl, rfl, hci, hB⟩ := hrel
            have HI6 := Lib.hid hi6
            clear hi6
            by_cases hgo : i < l ∧ n ≤ 6
            · obtain ⟨hlt, n6⟩ := hgo
              rcases hs8 with hs8 | ⟨g, o, rfl, hg1, hg2, hc, hf⟩
              · omega
              have hlt' : i < L.length := by rw [HLEN.out]; exact hlt
              have hcell := hc i hlt
              rw [strB_at hlt'] at hcell
              have hck : wr.cell? ⟨g, o + i, none⟩ = some (.string (mkB L[i])) := (hB.cell (p := ⟨g, o + i, none⟩) (by show g < _; omega)).trans hcell
              have hcut := HCUT.out (L[i]) (List.getElem_mem _)
              have hnx := cutsN_next (L := L) m hlt'
              obtain ⟨q, hq⟩ : ∃ q, L[i] = q := ⟨_, rfl⟩
              rw [hq] at hck hcut hnx
              obtain ⟨u, hu⟩ : ∃ u, cutsN (L.take i) m = u := ⟨_, rfl⟩
              rw [hu] at hci hnx ⊢
              obtain ⟨t, ht⟩ : ∃ t, cutL q m = t := ⟨_, rfl⟩
              rw [ht] at hcut hnx
              obtain ⟨hsz, hcb⟩ := hcut
              obtain ⟨z, hz⟩ : ∃ z, mkB q = z := ⟨_, rfl⟩
              rw [hz] at hck hsz hcb
              have HCB := Lib.hid hcb
              have HN := Lib.hid hnx
              have n6i : (n : Int) ≤ 6 := by omega
              have hli : (i : Int) < (l : Int) := by omega
              have i0 : (0 : Int) ≤ (i : Int) := by omega
              have HBr := Lib.hid hB
              have hBz := hB.size
              clear hcell hc hf hq hu ht hz hcb hnx hB
              cases t with
              | true =>
                go_wp2_with fail
                refine (implCut_is z m true _ (by omega) HCB.out).mono ?_
                rintro e w9 ⟨rfl, hh9⟩
                have HB9 := Lib.hid (HBr.out.trans (hh9.mono hBz))
                clear hh9
                go_wp2
                go_roundw
                case rel => exact ⟨i + 1, by omega, fun h => by omega, congrArg (Value.int .i64) (by omega), congrArg (Value.int .i64) (by rw [HN.out]; simp), by rw [HN.out]; simp; omega, HB9.out⟩
                case measure => simp [intOf]; omega
              | false =>
                go_wp2_with fail
                refine (implCut_is z m false _ (by omega) HCB.out).mono ?_
                rintro e w9 ⟨rfl, hh9⟩
                have HB9 := Lib.hid (HBr.out.trans (hh9.mono hBz))
                clear hh9
                go_wp2
                go_roundw
                case rel => exact ⟨i + 1, by omega, fun h => by omega, congrArg (Value.int .i64) (by omega), congrArg (Value.int .i64) (by rw [HN.out]; simp), by rw [HN.out]; simp; omega, HB9.out⟩
                case measure => simp [intOf]; omega
            · have HBf := Lib.hid (HB8.out.trans (hB.mono HB8.out.size))
              clear hB hs8
              by_cases n6 : n ≤ 6
              · have hil : i = l := by omega
                have hle : (l : Int) ≤ (i : Int) := by omega
                have n6i : (n : Int) ≤ 6 := by omega
                by_cases hl0 : l = 0
                · have hl0b : ((l : Int) == 0) = true := by rw [hl0]; rfl
                  clear hgo
                  go_wp2
                  go_ret
                  exact ⟨rfl, HBf.out⟩
                · have hl0b : ((l : Int) == 0) = false := by rw [beq_eq_false_iff_ne]; omega
                  have hsum := HSUM.out (by omega)
                  have htk : cutsN (L.take i) m = cutsN L m := by rw [List.take_of_length_le (by rw [HLEN.out]; omega)]
                  rw [htk]
                  have heq : (((cutsN L m : Nat) : Int) == v) = true := by rw [hsum]; simp
                  obtain ⟨u, hu⟩ : ∃ u, ((cutsN L m : Nat) : Int) = u := ⟨_, rfl⟩
                  rw [hu] at heq ⊢
                  clear hgo hsum htk hu
                  go_wp2
                  go_ret
                  exact ⟨rfl, HBf.out⟩
              · have hi0 := HI6.out (by omega)
                have n6i : (6 : Int) < (n : Int) := by omega
                subst hi0
                by_cases hl0 : 0 < l
                · have hl0i : (0 : Int) < (l : Int) := by omega
                  clear hgo
                  go_wp2
                  go_ret
                  exact ⟨rfl, HBf.out⟩
                · have hl0i : (l : Int) ≤ 0 := by omega
                  clear hgo
                  go_wp2
                  go_ret
                  exact ⟨rfl, HBf.out⟩
end Go.Proofs.Ytlmlcbhllodncaa
