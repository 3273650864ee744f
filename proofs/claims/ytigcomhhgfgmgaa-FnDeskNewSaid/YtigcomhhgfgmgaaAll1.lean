/- Contracts and laws that the statement's proof stands on, one text behind the other. -/
import Derived.Test.YtigcomhhgfgmgaaAll0b
import Derived.Test.YtigcomhhgfgmgaaHvDeskMade
import Derived.Test.YtigcomhhgfgmgaaHvDeskBy
import Derived.Test.YtigcomhhgfgmgaaHvDeskLaid
import Derived.Test.YtigcomhhgfgmgaaHvDeskDoI
import Derived.Deep.RegionWith
import Derived.Deep.Cut
import Derived.Deep.DeepCutAuto

namespace Go.Proofs.Ytigcomhhgfgmgaa
open Go.RowKit
set_option maxRecDepth 100000 in
set_option maxHeartbeats 4000000 in
theorem specMade_turn (p q : Int) (w : World) (hp : pairB p q = true) : Calls Try.prog 51 #[pr p q, .agg #[.int .i64 1, .int .i64 0, .int .i64 0]] w (MadeBy p q 1 0 0 w) := by
  have hm : madeN (p, q) ⟨1, 0, 0⟩ = some (-p, q) := rfl
  unfold MadeBy
  rw [hm]
  clear hm
  have hcall := fun w => specPairOk_any (-p) q w
  go_enter Try.func51, Try.ntmps51
  go_wp2_with fail
  refine (specTurned_yes p q _ hp).mono ?_
  rintro e w1 ⟨rfl, hh1⟩
  obtain ⟨hc1, hf1⟩ := bcell hh1
  have hz1 := hh1.size
  simp at hz1
  have hz2 : w.heap.size + 2 < w1.heap.size := by omega
  have hz3 : w.heap.size + 3 < w1.heap.size := by omega
  have k20 : w1.cell? ⟨w.heap.size + 2, 0, none⟩ = some (.int .i64 0) := by go_simp
  have k21 : w1.cell? ⟨w.heap.size + 2, 1, none⟩ = some (.int .i64 0) := by go_simp
  have f20 : w1.frozen? ⟨w.heap.size + 2, 0, none⟩ = false := by go_simp
  have f21 : w1.frozen? ⟨w.heap.size + 2, 1, none⟩ = false := by go_simp
  have k30 : w1.cell? ⟨w.heap.size + 3, 0, none⟩ = some (.int .i64 p) := by go_simp
  have k31 : w1.cell? ⟨w.heap.size + 3, 1, none⟩ = some (.int .i64 q) := by go_simp
  have f30 : w1.frozen? ⟨w.heap.size + 3, 0, none⟩ = false := by go_simp
  have f31 : w1.frozen? ⟨w.heap.size + 3, 1, none⟩ = false := by go_simp
  clear hc1 hf1
  go_wp2_with fail
  go_region_with (go_at_call 41; refine (hcall _).mono ?_; rintro e w2 ⟨rfl, hb2⟩; obtain ⟨hc2, hf2⟩ := bcell hb2; have hz4 := hb2.size; (try simp at hz4); have hz5 : w.heap.size + 2 < w2.heap.size := (by omega); have hz6 : w.heap.size + 3 < w2.heap.size := (by omega))
  all_goals
    go_wp2_with fail
    refine bodyPost_ret (v := .tuple #[pr (-p) q, .bool (pairB (-p) q)]) (by simp [results, Try.results51, go_sem]; go_simp) rfl ⟨rfl, ?_⟩
    (repeat (first | exact Below.refl _ _ | refine Below.setCell ?_ (by first | omega | (simp <;> omega)) _ | refine Below.alloc ?_ (by first | omega | (simp <;> omega)) _ | refine Below.drew ?_ | refine Below.trans ?_ (Below.mono (by assumption) (by first | omega | (simp <;> omega)))))
theorem specMade_any (p q k a b : Int) (w : World) (hp : pairB p q = true) : Calls Try.prog 51 #[pr p q, .agg #[.int .i64 k, .int .i64 a, .int .i64 b]] w (MadeBy p q k a b w) := by
  by_cases h1 : k = 1 ∧ a = 0 ∧ b = 0
  · obtain ⟨rfl, rfl, rfl⟩ := h1
    exact specMade_turn p q w hp
  · exact specMade_rest p q k a b w hp h1
end Go.Proofs.Ytigcomhhgfgmgaa
namespace Go.Proofs.Ytigcomhhgfgmgaa
open Go.RowKit
set_option maxHeartbeats 1000000 in
theorem implRun_no (B C B' C' : Nat) (p q : Int) (L : List (Int × Int)) (X : List DeedN) (v u : Value) (w : World) (h : IsPairs B C w v L) (hn : L.length ≤ 1048600) (k : IsDeeds B' C' w u X) (_ : X.length ≤ 1048600) (hd : deskN ⟨(p, q), L⟩ = false) : Calls Try.prog 26 #[.agg #[.int .i64 p, .int .i64 q, v], u] w (RanS ⟨(p, q), L⟩ X w) := by
  obtain ⟨a, cap, rfl, hC, hs0⟩ := id h
  obtain ⟨b, cbp, rfl, hC', hs1⟩ := id k
  clear hs0 hs1
  have H := Lib.hid h
  have K := Lib.hid k
  have HD := Lib.hid hd
  clear h k hd
  go_enter Try.func26, Try.ntmps26
  go_wp2_with fail
  refine (implDeskOk_any B C p q _ _ _ (H.out.below (show Below w.heap.size w _ by (repeat (first | exact Below.refl _ _ | refine Below.alloc ?_ (by first | omega | (simp <;> omega)) _ | refine Below.setCell ?_ (by first | omega | (simp <;> omega)) _ | refine Below.trans ?_ (Below.mono (by assumption) (by first | omega | (simp <;> omega)))))) hC) hn).mono ?_
  rintro e w1 ⟨rfl, hb1⟩
  obtain ⟨hc1, hf1⟩ := bcell hb1
  have hz1 := hb1.size
  simp at hz1
  have hz1a : w.heap.size < w1.heap.size := by omega
  have hz1b : w.heap.size + 1 < w1.heap.size := by omega
  have HB1 := Lib.hid (show Below w.heap.size w w1 by (repeat (first | exact Below.refl _ _ | refine Below.alloc ?_ (by first | omega | (simp <;> omega)) _ | refine Below.setCell ?_ (by first | omega | (simp <;> omega)) _ | refine Below.trans ?_ (Below.mono (by assumption) (by first | omega | (simp <;> omega))))))
  rw [HD.out]
  clear hb1
  go_wp2_with fail
  refine bodyPost_ret (v := .tuple #[.agg #[.int .i64 0, .int .i64 0, .slice none 0 0], .int .i64 0]) (by simp [results, Try.results26, go_sem]; go_simp) rfl ?_
  unfold RanS
  rw [runR_no (by have := HD.out; simp_all <;> omega)]
  refine ⟨none, 0, rfl, IsPairs.mono (IsPairs.empty w.heap.size _ none 0) (Nat.le_refl _) (Nat.le_refl _) (Nat.le_refl _), ?_⟩
  exact (((HB1.out.setCell (by simp <;> omega) _).setCell (by simp <;> omega) _).setCell (by simp <;> omega) _)
set_option maxHeartbeats 1000000 in
theorem implRun_long (B C B' C' : Nat) (p q : Int) (L : List (Int × Int)) (X : List DeedN) (v u : Value) (w : World) (h : IsPairs B C w v L) (hn : L.length ≤ 1048600) (k : IsDeeds B' C' w u X) (hm : X.length ≤ 1048600) (hd : deskN ⟨(p, q), L⟩ = true) (hl : 40 < X.length) : Calls Try.prog 26 #[.agg #[.int .i64 p, .int .i64 q, v], u] w (RanS ⟨(p, q), L⟩ X w) := by
  obtain ⟨a, cap, rfl, hC, hs0⟩ := id h
  obtain ⟨b, cbp, rfl, hC', hs1⟩ := id k
  clear hs0 hs1
  have H := Lib.hid h
  have K := Lib.hid k
  have HD := Lib.hid hd
  clear h k hd
  have hli : (40 : Int) < (X.length : Int) := by omega
  go_enter Try.func26, Try.ntmps26
  go_wp2_with fail
  refine (implDeskOk_any B C p q _ _ _ (H.out.below (show Below w.heap.size w _ by (repeat (first | exact Below.refl _ _ | refine Below.alloc ?_ (by first | omega | (simp <;> omega)) _ | refine Below.setCell ?_ (by first | omega | (simp <;> omega)) _ | refine Below.trans ?_ (Below.mono (by assumption) (by first | omega | (simp <;> omega)))))) hC) hn).mono ?_
  rintro e w1 ⟨rfl, hb1⟩
  obtain ⟨hc1, hf1⟩ := bcell hb1
  have hz1 := hb1.size
  simp at hz1
  have hz1a : w.heap.size < w1.heap.size := by omega
  have hz1b : w.heap.size + 1 < w1.heap.size := by omega
  have HB1 := Lib.hid (show Below w.heap.size w w1 by (repeat (first | exact Below.refl _ _ | refine Below.alloc ?_ (by first | omega | (simp <;> omega)) _ | refine Below.setCell ?_ (by first | omega | (simp <;> omega)) _ | refine Below.trans ?_ (Below.mono (by assumption) (by first | omega | (simp <;> omega))))))
  rw [HD.out]
  clear hb1
  go_wp2_with fail
  refine bodyPost_ret (v := .tuple #[.agg #[.int .i64 0, .int .i64 0, .slice none 0 0], .int .i64 0]) (by simp [results, Try.results26, go_sem]; go_simp) rfl ?_
  unfold RanS
  rw [runR_no (by have := HD.out; simp_all <;> omega)]
  refine ⟨none, 0, rfl, IsPairs.mono (IsPairs.empty w.heap.size _ none 0) (Nat.le_refl _) (Nat.le_refl _) (Nat.le_refl _), ?_⟩
  exact (((HB1.out.setCell (by simp <;> omega) _).setCell (by simp <;> omega) _).setCell (by simp <;> omega) _)
set_option maxRecDepth 100000 in
set_option maxHeartbeats 2000000 in
theorem implRun_yes (B C B' C' : Nat) (p q : Int) (L : List (Int × Int)) (X : List DeedN) (v u : Value) (w : World) (h : IsPairs B C w v L) (hn : L.length ≤ 1048600) (k : IsDeeds B' C' w u X) (hm : X.length ≤ 1048600) (hd : deskN ⟨(p, q), L⟩ = true) (hl : X.length ≤ 40) : Calls Try.prog 26 #[.agg #[.int .i64 p, .int .i64 q, v], u] w (RanS ⟨(p, q), L⟩ X w) := by
  obtain ⟨a, cap, rfl, hC, hs0⟩ := id h
  obtain ⟨b, cbp, rfl, hC', hs1⟩ := id k
  clear hs0 hs1
  have H := Lib.hid h
  have K := Lib.hid k
  have HD := Lib.hid hd
  clear h k hd
  have hli : (X.length : Int) ≤ 40 := by omega
  have hl0 : decide ((40 : Int) < (X.length : Int)) = false := by simp; omega
  go_enter Try.func26, Try.ntmps26
  go_wp2_with fail
  refine (implDeskOk_any B C p q _ _ _ (H.out.below (show Below w.heap.size w _ by (repeat (first | exact Below.refl _ _ | refine Below.alloc ?_ (by first | omega | (simp <;> omega)) _ | refine Below.setCell ?_ (by first | omega | (simp <;> omega)) _ | refine Below.trans ?_ (Below.mono (by assumption) (by first | omega | (simp <;> omega)))))) hC) hn).mono ?_
  rintro e w1 ⟨rfl, hb1⟩
  obtain ⟨hc1, hf1⟩ := bcell hb1
  have hz1 := hb1.size
  simp at hz1
  have hz1a : w.heap.size < w1.heap.size := by omega
  have hz1b : w.heap.size + 1 < w1.heap.size := by omega
  have HB1 := Lib.hid (show Below w.heap.size w w1 by (repeat (first | exact Below.refl _ _ | refine Below.alloc ?_ (by first | omega | (simp <;> omega)) _ | refine Below.setCell ?_ (by first | omega | (simp <;> omega)) _ | refine Below.trans ?_ (Below.mono (by assumption) (by first | omega | (simp <;> omega))))))
  rw [HD.out]
  clear hb1
  go_wp2_with fail
  refine (deskWith_any B C p q L _ _ (H.out.below HB1.out hC) hn).mono ?_
  rintro e w2 ⟨a2, c2, rfl, hown2, hb2⟩
  dsimp only at hown2 ⊢
  obtain ⟨hc2, hf2⟩ := bcell hb2
  have hz2 := hb2.size
  have hz2a : w.heap.size < w2.heap.size := by omega
  have hz2b : w.heap.size + 1 < w2.heap.size := by omega
  have HB2 := Lib.hid (HB1.out.trans (hb2.mono HB1.out.size))
  have HI2 := Lib.hid (IsPairs.of_owns hown2)
  have kr0 : w2.cell? ⟨w.heap.size + 1, 0, none⟩ = some (.int .i64 0) := by go_simp
  have kr1 : w2.cell? ⟨w.heap.size + 1, 1, none⟩ = some (.int .i64 0) := by go_simp
  have kr2 : w2.cell? ⟨w.heap.size + 1, 2, none⟩ = some (.slice none 0 0) := by go_simp
  have kt0 : w2.frozen? ⟨w.heap.size + 1, 0, none⟩ = false := by go_simp
  have kt1 : w2.frozen? ⟨w.heap.size + 1, 1, none⟩ = false := by go_simp
  have kt2 : w2.frozen? ⟨w.heap.size + 1, 2, none⟩ = false := by go_simp
  clear hb2 hown2 hc1 hf1 hc2 hf2
  have HR0 := Lib.hid (show runN ⟨(p, q), L⟩ (X.take 0) = (⟨(p, q), L⟩, 0) from rfl)
  go_wp2_with fail
  go_loopw [7, 28] (fun nn kk wr => ∃ (i m : Nat) (dp dq : Int) (M : List (Int × Int)) (a3 : Option Addr) (c3 : Nat), i ≤ X.length ∧ Hid (runN ⟨(p, q), L⟩ (X.take i) = (⟨(dp, dq), M⟩, m)) ∧ nn = .int .i64 m ∧ kk = .int .i64 i ∧ m ≤ i ∧ wr.cell? ⟨w2.heap.size, 0, none⟩ = some (.int .i64 dp) ∧ wr.cell? ⟨w2.heap.size, 1, none⟩ = some (.int .i64 dq) ∧ wr.cell? ⟨w2.heap.size, 2, none⟩ = some (.slice a3 M.length c3) ∧ wr.frozen? ⟨w2.heap.size, 0, none⟩ = false ∧ wr.frozen? ⟨w2.heap.size, 1, none⟩ = false ∧ wr.frozen? ⟨w2.heap.size, 2, none⟩ = false ∧
      wr.cell? ⟨w.heap.size + 1, 0, none⟩ = some (.int .i64 0) ∧ wr.cell? ⟨w.heap.size + 1, 1, none⟩ = some (.int .i64 0) ∧ wr.cell? ⟨w.heap.size + 1, 2, none⟩ = some (.slice none 0 0) ∧ wr.frozen? ⟨w.heap.size + 1, 0, none⟩ = false ∧ wr.frozen? ⟨w.heap.size + 1, 1, none⟩ = false ∧ wr.frozen? ⟨w.heap.size + 1, 2, none⟩ = false ∧
      IsPairs (w.heap.size + 2) wr.heap.size wr (.slice a3 M.length c3) M ∧ w2.heap.size < wr.heap.size ∧ Below w.heap.size w wr) (fun _ kk _ => X.length - (intOf kk).toNat)
  case atStart =>
    refine ⟨0, 0, p, q, L, a2, c2, Nat.zero_le _, HR0, rfl, rfl, Nat.le_refl _, by go_simp, by go_simp, by go_simp, by go_simp, by go_simp, by go_simp, by go_simp, by go_simp, by go_simp, by go_simp, by go_simp, by go_simp, ?_, by simp <;> omega, ?_⟩
    · refine IsPairs.mono (B := w1.heap.size) (C := w2.heap.size) ?_ (by omega) (by simp) (Nat.le_refl _)
      exact HI2.out.below ((Below.refl _ _).alloc (Nat.le_refl _) _) (Nat.le_refl _)
    · exact HB2.out.alloc (by omega) _
  case round =>
    obtain ⟨i, m, dp, dq, M, a3, c3, hi, HRN, rfl, rfl, hmi, b0, b1, b2, g0, g1, g2, r0, r1, r2, t0, t1, t2, hI, hzH, hB⟩ := hrel
    by_cases hlt : i < X.length
    · have hd0 : deskN ⟨(p, q), L⟩ = true := HD.out
      have hdi : deskN ⟨(dp, dq), M⟩ = true := by have := runN_desk (X.take i) hd0; rwa [HRN.out] at this
      have hM8 : M.length ≤ 8 := (deskN_of hdi).2.1
      obtain ⟨⟨kx, ax, bx⟩, hx⟩ : ∃ x, X[i]? = some x := ⟨X[i], by simp [hlt]⟩
      obtain ⟨_, _, hve, _, hks⟩ := id K.out
      cases hve
      rcases hks with rfl | ⟨g, off, rfl, _, hg2, hc, _⟩
      · simp at hlt
      have x0 : wr.cell? ⟨g, off + i * 3, none⟩ = some (.int .i64 kx) := (hB.cell (p := ⟨g, off + i * 3, none⟩) (by show g < _; omega)).trans (hc i _ hx).1
      have x1 : wr.cell? ⟨g, off + i * 3 + 1, none⟩ = some (.int .i64 ax) := (hB.cell (p := ⟨g, off + i * 3 + 1, none⟩) (by show g < _; omega)).trans (hc i _ hx).2.1
      have x2 : wr.cell? ⟨g, off + i * 3 + 2, none⟩ = some (.int .i64 bx) := (hB.cell (p := ⟨g, off + i * 3 + 2, none⟩) (by show g < _; omega)).trans (hc i _ hx).2.2
      have hgr : g < wr.heap.size := by have := hB.size; omega
      have HNX := runN_take (d := ⟨(p, q), L⟩) hx
      rw [HRN.out] at HNX
      dsimp only at HNX
      have hcall := fun (W : World) (D D' : Nat) (hI' : IsPairs D D' W (.slice a3 M.length c3) M) => implDo_any D D' dp dq kx ax bx M _ W hI' (by omega)
      unfold DeskRet at hcall
      rw [doR_yes hdi] at hcall
      have hii : (i : Int) < (X.length : Int) := by omega
      have i0 : (0 : Int) ≤ (i : Int) := by omega
      obtain ⟨rp, rq, R, ok, hres⟩ : ∃ rp rq R ok, doN ⟨(dp, dq), M⟩ ⟨kx, ax, bx⟩ = (⟨(rp, rq), R⟩, ok) := ⟨_, _, _, _, rfl⟩
      rw [hres] at HNX hcall
      dsimp only at HNX hcall
      have HI := Lib.hid hI
      have HB := Lib.hid hB
      have HC := Lib.hid hcall
      have HNX := Lib.hid HNX
      have W1 : IntKind.i64.wrap ((i : Int) + 1) = (i : Int) + 1 := by rw [IntKind.wrap_i64]; omega
      have W2 : IntKind.i64.wrap ((m : Int) + 1) = (m : Int) + 1 := by rw [IntKind.wrap_i64]; omega
      have hwz := hB.size
      clear hI hB hcall hres hc hx hd0 hdi
      go_wp2_with fail
      refine (HC.out _ _ _ (HI.out.below ((Below.refl _ _).alloc (Nat.le_refl _) _) (Nat.le_refl _))).mono ?_
      rintro e w5 ⟨a5, c5, rfl, hI5, hb5⟩
      have hz5 := hb5.size
      simp at hz5
      have hzH5 : w2.heap.size < w5.heap.size := by omega
      have hzc : w.heap.size + 1 < wr.heap.size := by omega
      have hzc5 : w.heap.size + 1 < w5.heap.size := by omega
      have HB5 := Lib.hid (show Below wr.heap.size wr w5 from ((Below.refl _ _).alloc (Nat.le_refl _) _).trans (hb5.mono (by simp)))
      have HI5 := Lib.hid (hI5.mono (show wr.heap.size ≤ _ by simp) (Nat.le_refl _) (Nat.le_refl _))
      have b0' := cell_belowP HB5.out b0
      have b1' := cell_belowP HB5.out b1
      have b2' := cell_belowP HB5.out b2
      have g0' := (HB5.out.frozen (p := ⟨w2.heap.size, 0, none⟩) hzH).trans g0
      have g1' := (HB5.out.frozen (p := ⟨w2.heap.size, 1, none⟩) hzH).trans g1
      have g2' := (HB5.out.frozen (p := ⟨w2.heap.size, 2, none⟩) hzH).trans g2
      have r0' := cell_belowP HB5.out r0
      have r1' := cell_belowP HB5.out r1
      have r2' := cell_belowP HB5.out r2
      have t0' := (HB5.out.frozen (p := ⟨w.heap.size + 1, 0, none⟩) hzc).trans t0
      have t1' := (HB5.out.frozen (p := ⟨w.heap.size + 1, 1, none⟩) hzc).trans t1
      have t2' := (HB5.out.frozen (p := ⟨w.heap.size + 1, 2, none⟩) hzc).trans t2
      clear hI5 hb5 b0 b1 b2 g0 g1 g2 r0 r1 r2 t0 t1 t2
      cases ok with
      | true =>
        have HNY : Hid (runN ⟨(p, q), L⟩ (X.take (i + 1)) = (⟨(rp, rq), R⟩, m + 1)) := Lib.hid (by simpa using HNX.out)
        go_wp2
        go_roundw
        case rel =>
          refine ⟨i + 1, m + 1, rp, rq, R, a5, c5, by omega, HNY, congrArg (Value.int .i64) (by omega), congrArg (Value.int .i64) (by omega), by omega, by go_simp, by go_simp, by go_simp, by go_simp, by go_simp, by go_simp, by go_simp, by go_simp, by go_simp, by go_simp, by go_simp, by go_simp, ?_, by simp <;> omega, ?_⟩
          · exact ((((HI5.out.set (p := ⟨w2.heap.size, 0, none⟩) hzH _).set (p := ⟨w2.heap.size, 1, none⟩) hzH _).set (p := ⟨w2.heap.size, 2, none⟩) hzH _).allocd _).mono (by omega) (by simp) (Nat.le_refl _)
          · exact ((((HB.out.trans (HB5.out.mono (by omega))).setCell (by simp <;> omega) _).setCell (by simp <;> omega) _).setCell (by simp <;> omega) _).alloc (by simp <;> omega) _
        case measure => simp [intOf]; omega
      | false =>
        have HNY : Hid (runN ⟨(p, q), L⟩ (X.take (i + 1)) = (⟨(rp, rq), R⟩, m)) := Lib.hid (by simpa using HNX.out)
        go_wp2
        go_roundw
        case rel =>
          refine ⟨i + 1, m, rp, rq, R, a5, c5, by omega, HNY, rfl, congrArg (Value.int .i64) (by omega), by omega, by go_simp, by go_simp, by go_simp, by go_simp, by go_simp, by go_simp, by go_simp, by go_simp, by go_simp, by go_simp, by go_simp, by go_simp, ?_, by simp <;> omega, ?_⟩
          · exact ((((HI5.out.set (p := ⟨w2.heap.size, 0, none⟩) hzH _).set (p := ⟨w2.heap.size, 1, none⟩) hzH _).set (p := ⟨w2.heap.size, 2, none⟩) hzH _).allocd _).mono (by omega) (by simp) (Nat.le_refl _)
          · exact ((((HB.out.trans (HB5.out.mono (by omega))).setCell (by simp <;> omega) _).setCell (by simp <;> omega) _).setCell (by simp <;> omega) _).alloc (by simp <;> omega) _
        case measure => simp [intOf]; omega
    · obtain rfl : i = X.length := by omega
      have hli2 : ¬ ((X.length : Int) < (X.length : Int)) := by omega
      have HB := Lib.hid hB
      have HI := Lib.hid hI
      clear hB hI
      go_wp2_with fail
      refine bodyPost_ret (v := .tuple #[.agg #[.int .i64 dp, .int .i64 dq, .slice a3 M.length c3], .int .i64 (m : Int)]) (by simp [results, Try.results26, go_sem]; go_simp) rfl ?_
      unfold RanS
      rw [runR_yes HD.out hl, show runN ⟨(p, q), L⟩ X = (⟨(dp, dq), M⟩, m) by have := HRN.out; rwa [List.take_length] at this]
      refine ⟨a3, c3, rfl, ?_, ?_⟩
      · exact ((((HI.out.set (p := ⟨w.heap.size + 1, 0, none⟩) (by show w.heap.size + 1 < _; omega) _).set (p := ⟨w.heap.size + 1, 1, none⟩) (by show w.heap.size + 1 < _; omega) _).set (p := ⟨w.heap.size + 1, 2, none⟩) (by show w.heap.size + 1 < _; omega) _)).mono (by omega) (by simp) (Nat.le_refl _)
      · exact ((HB.out.setCell (by simp <;> omega) _).setCell (by simp <;> omega) _).setCell (by simp <;> omega) _
theorem implRun_any (B C B' C' : Nat) (p q : Int) (L : List (Int × Int)) (X : List DeedN) (v u : Value) (w : World) (h : IsPairs B C w v L) (hn : L.length ≤ 1048600) (k : IsDeeds B' C' w u X) (hm : X.length ≤ 1048600) : Calls Try.prog 26 #[.agg #[.int .i64 p, .int .i64 q, v], u] w (RanS ⟨(p, q), L⟩ X w) := by
  cases hd : deskN ⟨(p, q), L⟩ with
  | false => exact implRun_no B C B' C' p q L X v u w h hn k hm hd
  | true =>
    rcases Nat.lt_or_ge 40 X.length with hl | hl
    · exact implRun_long B C B' C' p q L X v u w h hn k hm hd hl
    · exact implRun_yes B C B' C' p q L X v u w h hn k hm hd hl
end Go.Proofs.Ytigcomhhgfgmgaa
