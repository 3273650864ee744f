/- Contracts and laws that the statement's proof stands on, one text behind the other. -/
import Derived.Test.YtlmlcbhllodncaaAll1
import Derived.Test.YtlmlcbhllodncaaHvTileLawCut

namespace Go.Proofs.Ytlmlcbhllodncaa
open Go.RowKit
theorem less_not : ∀ (u v : List UInt8), Op.bytesLess u v = true → Op.bytesLess v u = false ∧ (v == u) = false
  | _, [], h => by simp [Op.bytesLess] at h
  | [], _ :: _, _ => ⟨rfl, rfl⟩
  | a :: x, b :: y, h => by
    rw [Op.bytesLess, Bool.or_eq_true, Bool.and_eq_true, beq_iff_eq, decide_eq_true_iff] at h
    rcases h with h | ⟨rfl, h⟩
    · have h1 : ¬ b < a := fun h2 => by
        have := UInt8.lt_iff_toNat_lt.1 h; have := UInt8.lt_iff_toNat_lt.1 h2; omega
      have h2 : (b == a) = false := by
        rw [beq_eq_false_iff_ne]; intro e; subst e
        have := UInt8.lt_iff_toNat_lt.1 h; omega
      refine ⟨by rw [Op.bytesLess, h2]; simp [h1], ?_⟩
      rw [List.cons_beq_cons, h2]; rfl
    · obtain ⟨k1, k2⟩ := less_not x y h
      refine ⟨?_, by rw [List.cons_beq_cons, k2]; simp⟩
      rw [Op.bytesLess, k1]
      have : ¬ a < a := fun h2 => by have := UInt8.lt_iff_toNat_lt.1 h2; omega
      simp [this]
theorem way_good {x y n : Nat} (x3 : x ≤ 3) (y3 : y ≤ 3) (n8 : n ≤ 8) (l : List UInt8) (h : l ∈ wayN x y n) : (mkB l).size ≤ 8 ∧ cellsV (mkB l) = n := by
  obtain ⟨h1, h2, h3⟩ := wayN_mem x3 y3 n l h
  have hb : cellsB (mkB l) = true := by rw [cellsB, bytesL_mk, h1, mkB_size]; simp; omega
  exact ⟨by rw [mkB_size]; omega, by rw [cellsV_is hb, bytesL_mk, h2]⟩
theorem way_next {x y n : Nat} (x3 : x ≤ 3) (y3 : y ≤ 3) (i : Nat) (h : i + 1 < (wayN x y n).length) : Op.bytesLess (mkB ((wayN x y n).getD (i + 1) [])).toList (mkB ((wayN x y n).getD i [])).toList = false ∧ ((mkB ((wayN x y n).getD (i + 1) [])).toList == (mkB ((wayN x y n).getD i [])).toList) = false := by
  have ha := wayN_asc x3 y3 n
  have hl : Op.bytesLess ((wayN x y n)[i]) ((wayN x y n)[i + 1]) = true := List.pairwise_iff_getElem.1 ha i (i + 1) (by omega) h (by omega)
  have e : ∀ l, (mkB l).toList = l := fun l => by rw [bl_toList]; simp [mkB]
  have e1 : (wayN x y n).getD i [] = (wayN x y n)[i] := by simp [show i < (wayN x y n).length by omega]
  have e2 : (wayN x y n).getD (i + 1) [] = (wayN x y n)[i + 1] := by simp [h]
  rw [e, e, e1, e2]
  exact less_not _ _ hl
theorem way_each {x y n : Nat} (x3 : x ≤ 3) (y3 : y ≤ 3) (n8 : n ≤ 8) (i : Nat) (h : i < (wayN x y n).length) : (mkB ((wayN x y n).getD i [])).size ≤ 8 ∧ cellsV (mkB ((wayN x y n).getD i [])) = n := by
  have e1 : (wayN x y n).getD i [] = (wayN x y n)[i] := by simp [h]
  rw [e1]; exact way_good x3 y3 n8 _ (List.getElem_mem _)
theorem strB_get {L : List (List UInt8)} {k : Nat} (h : k < L.length) : (strB L).getD k ⟨#[]⟩ = mkB (L.getD k []) := by
  rw [strB_at h]; simp [h]
set_option maxRecDepth 100000 in
set_option maxHeartbeats 8000000 in
theorem fnWaysOf_walk (a : Option Addr) (len cap : Nat) (z : List Int) (w : World) (w0 : IsRow w a len cap z) :
    Calls Try.prog 4 #[.slice a len cap] w fun e w' => e = .returned (.bool true) ∧ Below w.heap.size w w' := by
  by_cases hbig : 1048576 < len
  · go_enter Try.func4, Try.ntmps4
    go_wp2
    go_ret
    exact ⟨rfl, Below.refl _ _⟩
  · have hsm : len ≤ 1048576 := by omega
    go_enter Try.func4, Try.ntmps4
    go_wp2_with fail
    refine (drawWaysOf_any _ _ _ _ z w0).mono ?_
    rintro e w1 ⟨c, s, d, rfl, hh1⟩
    have hz1 := hh1.size
    obtain ⟨hc1, hf1⟩ := bcell hh1
    cases ht : waysB c s d with
    | false =>
      have HL := Lib.hid (waysL_no ht)
      clear ht
      go_wp2_with fail
      refine (implWays_is _ _ _ _ _ HL.out).mono ?_
      rintro e w2 ⟨u2, rfl, hI2, hh2⟩
      have hz2 := hh2.size
      go_wp2_with fail
      refine (specWays_is _ _ _ _ _ HL.out).mono ?_
      rintro e w4 ⟨u4, rfl, hI4, hh4⟩
      have hz4 := hh4.size
      go_wp2_with fail
      refine (sameTexts_same _ _ _ _ _ _ _ _ _ (hI2.below hh4 (Nat.le_refl _)) hI4 (by first | (rw [hsl]; omega) | simp [strB])).mono ?_
      rintro e w5 ⟨rfl, hh5⟩
      have hz5 := hh5.size
      have HI2 := hI2
      obtain ⟨a2, c2, rfl, _, _⟩ := HI2
      rw [show (strB []).length = 0 from rfl]
      go_wp2_with fail
      refine (alive_any _).mono ?_
      rintro e w6 ⟨rfl, hh6⟩
      have hz6 := hh6.size
      go_wp2
      go_ret
      exact ⟨rfl, by (repeat (first | exact Below.refl _ _ | refine Below.setCell ?_ (by first | omega | (simp <;> omega)) _ | refine Below.alloc ?_ (by first | omega | (simp <;> omega)) _ | refine Below.drew ?_ | refine Below.trans ?_ (Below.mono (by assumption) (by first | omega | (simp <;> omega))) | refine Below.grown ?_ (by assumption) (by first | omega | (simp <;> omega)) (fun k e => by cases e; first | omega | (simp <;> omega))))⟩
    | true =>
      have htt : tileB c s d = true := by rw [waysB, Bool.and_eq_true] at ht; exact ht.1
      obtain ⟨n, x, y, rfl, rfl, rfl, n8, x3, y3⟩ := tileB_true htt
      have hL := waysL_is ht
      have hC := countV_is htt
      have hgood := fun i h => way_each (x := x) (y := y) (n := n) x3 y3 n8 i h
      have hnext := fun i h => way_next (x := x) (y := y) (n := n) x3 y3 i h
      have hlen := wayN_len x y n
      have hbig := cntN_bd x (by omega) y (by omega) n (by omega)
      obtain ⟨L, hLL⟩ : ∃ L, wayN x y n = L := ⟨_, rfl⟩
      rw [← hlen] at hC hbig
      rw [hLL] at hL hC hbig hgood hnext
      obtain ⟨l, hl⟩ : ∃ l, L.length = l := ⟨_, rfl⟩
      have hsl : (strB L).length = l := by simp [strB, hl]
      rw [hl] at hC hbig
      have HL := Lib.hid hL
      have HC := Lib.hid hC
      have HLEN := Lib.hid hl
      have HG := Lib.hid hgood
      have HN := Lib.hid hnext
      clear ht htt hL hC hgood hnext hlen hLL hl
      go_wp2_with fail
      refine (implWays_is _ _ _ _ _ HL.out).mono ?_
      rintro e w2 ⟨u2, rfl, hI2, hh2⟩
      have hz2 := hh2.size
      go_wp2_with fail
      refine (specWays_is _ _ _ _ _ HL.out).mono ?_
      rintro e w4 ⟨u4, rfl, hI4, hh4⟩
      have hz4 := hh4.size
      go_wp2_with fail
      refine (sameTexts_same _ _ _ _ _ _ _ _ _ (hI2.below hh4 (Nat.le_refl _)) hI4 (by first | (rw [hsl]; omega) | simp [strB])).mono ?_
      rintro e w5 ⟨rfl, hh5⟩
      have hz5 := hh5.size
      rw [hsl] at hI2
      obtain ⟨a2, c2, rfl, hC2, hs2⟩ := hI2
      have HB5 := Lib.hid (show Below w.heap.size w w5 by (repeat (first | exact Below.refl _ _ | refine Below.setCell ?_ (by first | omega | (simp <;> omega)) _ | refine Below.alloc ?_ (by first | omega | (simp <;> omega)) _ | refine Below.drew ?_ | refine Below.trans ?_ (Below.mono (by assumption) (by first | omega | (simp <;> omega))) | refine Below.grown ?_ (by assumption) (by first | omega | (simp <;> omega)) (fun k e => by cases e; first | omega | (simp <;> omega)))))
      have HBW := Lib.hid (hh4.trans (hh5.mono hz4))
      have hz25 : w2.heap.size ≤ w5.heap.size := by omega
      by_cases hl0 : l = 0
      · have hl0b : ((l : Int) == 0) = true := by rw [hl0]; rfl
        clear hs2
        go_wp2_with fail
        refine (alive_any _).mono ?_
        rintro e w6 ⟨rfl, hh6⟩
        have hz6 := hh6.size
        go_wp2
        go_ret
        exact ⟨rfl, HB5.out.trans (hh6.mono (by have := HB5.out.size; omega))⟩
      · have hl0b : ((l : Int) == 0) = false := by rw [beq_eq_false_iff_ne]; omega
        rcases hs2 with hs2 | ⟨g, o, rfl, hg1, hg2, hcl, hfl⟩
        · omega
        have HCL := Lib.hid (show ∀ i, i < l → w5.cell? ⟨g, o + i, none⟩ = some (.string ((strB L).getD i ⟨#[]⟩)) from fun i hi => (HBW.out.cell (p := ⟨g, o + i, none⟩) (by show g < _; omega)).trans (hcl i hi))
        clear hcl hfl
        go_wp2_with fail
        go_loopw [7] (fun k wr => ∃ i : Nat, i ≤ l ∧ k = .int .i64 i ∧ Below w5.heap.size w5 wr) (fun k _ => 300000 - (intOf k).toNat)
        case atStart => exact ⟨0, Nat.zero_le _, rfl, Below.refl _ _⟩
        case round =>
          obtain ⟨i, hi, rfl, hB⟩ := hrel
          by_cases hlt : i < l
          · have hlt' : i < L.length := by rw [HLEN.out]; exact hlt
            have hcell := HCL.out i hlt
            rw [strB_get hlt'] at hcell
            have hck : wr.cell? ⟨g, o + i, none⟩ = some (.string (mkB (L.getD i []))) := (hB.cell (p := ⟨g, o + i, none⟩) (by show g < _; omega)).trans hcell
            obtain ⟨hzs0, hcv⟩ := HG.out i hlt'
            have hli : (i : Int) < (l : Int) := by omega
            have i0 : (0 : Int) ≤ (i : Int) := by omega
            have HBr := Lib.hid hB
            have hBz := hB.size
            by_cases hi0 : 0 < i
            · obtain ⟨j, rfl⟩ : ∃ j, i = j + 1 := ⟨i - 1, by omega⟩
              have hlt2 : j < L.length := by omega
              have hcell2 := HCL.out j (by omega)
              rw [strB_get hlt2] at hcell2
              have hcj : wr.cell? ⟨g, o + j, none⟩ = some (.string (mkB (L.getD j []))) := (hB.cell (p := ⟨g, o + j, none⟩) (by show g < _; omega)).trans hcell2
              obtain ⟨hl1, hl2⟩ := HN.out j hlt'
              obtain ⟨z, hz⟩ : ∃ z, mkB (L.getD (j + 1) []) = z := ⟨_, rfl⟩
              obtain ⟨u, hu⟩ : ∃ u, mkB (L.getD j []) = u := ⟨_, rfl⟩
              rw [hz] at hck hzs0 hcv hl1 hl2
              rw [hu] at hcj hl1 hl2
              have hzs : z.size ≤ 1048600 := by omega
              have HCV := Lib.hid hcv
              obtain ⟨K, hK⟩ : ∃ K, j + 1 = K := ⟨_, rfl⟩
              have hKj : (K : Int) - 1 = (j : Int) := by omega
              have U1 : IntKind.i64.wrap ((K : Int) - 1) = (j : Int) := by rw [IntKind.wrap_i64]; omega
              have U2 : IntKind.i64.wrap (j : Int) = (j : Int) := by rw [IntKind.wrap_i64]; omega
              have j0 : (0 : Int) ≤ (j : Int) := by omega
              have jl : (j : Int) < (l : Int) := by omega
              rw [hK] at hck hli i0 hi hlt hi0 ⊢
              have hk0 : decide (0 < K) = true := by simp; omega
              have hk1 : decide ((0 : Int) < (K : Int)) = true := by simp; omega
              have hnn : ((n : Int) != (n : Int)) = false := by simp
              have HK := Lib.hid hK
              clear hcell hcell2 hB hz hu hcv hK
              obtain ⟨S, hSd⟩ : ∃ S : World → Prop, (fun V => Below wr.heap.size wr V) = S := ⟨_, rfl⟩
              have hkeep : ∀ V V' : World, S V → Below V.heap.size V V' → S V' := by rw [← hSd]; exact fun V V' h hb => h.trans (hb.mono h.size)
              have gk0 : ∀ iq : KeptBy S, iq.world.cell? ⟨g, o + K, none⟩ = some (.string z) := by rw [← hSd]; exact fun iq => cell_below iq.ok hck
              have gk1 : ∀ iq : KeptBy S, iq.world.cell? ⟨g, o + j, none⟩ = some (.string u) := by rw [← hSd]; exact fun iq => cell_below iq.ok hcj
              have gkn : Nonempty (KeptBy S) := ⟨⟨wr.drew, by rw [← hSd]; exact (Below.refl _ _).drew⟩⟩
              go_wp2_with fail
              refine wp_region_kept (S := S) (by rw [← hSd]; exact (Below.refl _ _).drew) (by kernel_rfl) (by kernel_rfl) ?_
              repeat (go_big_quiet_step ((first | (go_at_call 25; with_reducible refine (implCells_is z n _ hzs HCV.out).mono ?_; rintro e w' ⟨rfl, hhw⟩; exact ⟨rfl, ⟨w', hkeep _ _ (KeptBy.ok _) hhw⟩, rfl⟩) | fail)))
              refine wpQuiet_nil ?_
              rintro z3 ⟨iz, hwz⟩
              have bz3 : Below wr.heap.size wr z3 := by
                have this : S z3 := by rw [hwz]; exact iz.ok
                rw [← hSd] at this
                exact this
              clear hwz iz gkn hkeep hSd gk0 gk1
              have HBn := Lib.hid (HBr.out.trans (bz3.mono hBz))
              clear bz3
              go_wp2
              go_roundw
              case rel => exact ⟨K + 1, by omega, congrArg (Value.int .i64) (by omega), HBn.out⟩
              case measure => simp [intOf]; omega
            · obtain rfl : i = 0 := by omega
              obtain ⟨z, hz⟩ : ∃ z, mkB (L.getD 0 []) = z := ⟨_, rfl⟩
              rw [hz] at hck hzs0 hcv
              have hzs : z.size ≤ 1048600 := by omega
              have HCV := Lib.hid hcv
              have hnn : ((n : Int) != (n : Int)) = false := by simp
              have hck0 : wr.cell? ⟨g, o, none⟩ = some (.string z) := hck
              have hd0 : decide ((0 : Int) < ((0 : Nat) : Int)) = false := by simp
              have l0 : (0 : Int) < (l : Int) := by omega
              clear hcell hB hz hcv hi0
              obtain ⟨S, hSd⟩ : ∃ S : World → Prop, (fun V => Below wr.heap.size wr V) = S := ⟨_, rfl⟩
              have hkeep : ∀ V V' : World, S V → Below V.heap.size V V' → S V' := by rw [← hSd]; exact fun V V' h hb => h.trans (hb.mono h.size)
              have gk0 : ∀ iq : KeptBy S, iq.world.cell? ⟨g, o + 0, none⟩ = some (.string z) := by rw [← hSd]; exact fun iq => cell_below iq.ok hck
              have gk1 : ∀ iq : KeptBy S, iq.world.cell? ⟨g, o, none⟩ = some (.string z) := by rw [← hSd]; exact fun iq => cell_below iq.ok hck0
              have gkn : Nonempty (KeptBy S) := ⟨⟨wr.drew, by rw [← hSd]; exact (Below.refl _ _).drew⟩⟩
              go_wp2_with fail
              refine wp_region_kept (S := S) (by rw [← hSd]; exact (Below.refl _ _).drew) (by kernel_rfl) (by kernel_rfl) ?_
              repeat (go_big_quiet_step ((first | (go_at_call 25; with_reducible refine (implCells_is z n _ hzs HCV.out).mono ?_; rintro e w' ⟨rfl, hhw⟩; exact ⟨rfl, ⟨w', hkeep _ _ (KeptBy.ok _) hhw⟩, rfl⟩) | fail)))
              refine wpQuiet_nil ?_
              rintro z3 ⟨iz, hwz⟩
              have bz3 : Below wr.heap.size wr z3 := by
                have this : S z3 := by rw [hwz]; exact iz.ok
                rw [← hSd] at this
                exact this
              clear hwz iz gkn hkeep hSd gk0 gk1
              have HBn := Lib.hid (HBr.out.trans (bz3.mono hBz))
              clear bz3
              go_wp2
              go_roundw
              case rel => exact ⟨1, by omega, congrArg (Value.int .i64) (by omega), HBn.out⟩
              case measure => simp [intOf]
          · have hli : (l : Int) ≤ (i : Int) := by omega
            have hBz := hB.size
            have HBr := Lib.hid (HB5.out.trans (hB.mono HB5.out.size))
            have hBrz := HBr.out.size
            have hee : ((l : Int) == (l : Int)) = true := by simp
            clear hB
            go_wp2_with fail
            refine (implCount_is n x y l _ HC.out).mono ?_
            rintro e w7 ⟨rfl, hh7⟩
            go_wp2
            go_ret
            exact ⟨rfl, HBr.out.trans (hh7.mono hBrz)⟩
end Go.Proofs.Ytlmlcbhllodncaa
