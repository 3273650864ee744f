/- Contracts that the statement's proof stands on. -/
import Derived.Test.YtigcomhhgfgmgaaAll1
import Derived.Test.YtigcomhhgfgmgaaHvDeskDoT
import Derived.Deep.RegionWith
import Derived.Deep.Cut
import Derived.Deep.DeepCutAuto

namespace Go.Proofs.Ytigcomhhgfgmgaa
open Go.RowKit
set_option maxHeartbeats 1000000 in
theorem specRun_no (B C B' C' : Nat) (p q : Int) (L : List (Int × Int)) (X : List DeedN) (v u : Value) (w : World) (h : IsPairs B C w v L) (hn : L.length ≤ 1048600) (k : IsDeeds B' C' w u X) (_ : X.length ≤ 1048600) (hd : deskN ⟨(p, q), L⟩ = false) : Calls Try.prog 27 #[.agg #[.int .i64 p, .int .i64 q, v], u] w (RanS ⟨(p, q), L⟩ X w) := by
  obtain ⟨a, cap, rfl, hC, hs0⟩ := id h
  obtain ⟨b, cbp, rfl, hC', hs1⟩ := id k
  clear hs0 hs1
  have H := Lib.hid h
  have K := Lib.hid k
  have HD := Lib.hid hd
  clear h k hd
  go_enter Try.func27, Try.ntmps27
  go_wp2_with fail
  refine (specDeskOk_any B C p q _ _ _ (H.out.below (show Below w.heap.size w _ by (repeat (first | exact Below.refl _ _ | refine Below.alloc ?_ (by first | omega | (simp <;> omega)) _ | refine Below.setCell ?_ (by first | omega | (simp <;> omega)) _ | refine Below.trans ?_ (Below.mono (by assumption) (by first | omega | (simp <;> omega)))))) hC) hn).mono ?_
  rintro e w1 ⟨rfl, hb1⟩
  obtain ⟨hc1, hf1⟩ := bcell hb1
  have hz1 := hb1.size
  simp at hz1
  have hz1a : w.heap.size < w1.heap.size := by omega
  have hz1b : w.heap.size + 1 < w1.heap.size := by omega
  have HB1 := Lib.hid (show Below w.heap.size w w1 by (repeat (first | exact Below.refl _ _ | refine Below.alloc ?_ (by first | omega | (simp <;> omega)) _ | refine Below.setCell ?_ (by first | omega | (simp <;> omega)) _ | refine Below.trans ?_ (Below.mono (by assumption) (by first | omega | (simp <;> omega))))))
  rw [HD.out]
  clear hb1
  go_wp2_with fail
  refine bodyPost_ret (v := .tuple #[.agg #[.int .i64 0, .int .i64 0, .slice none 0 0], .int .i64 0]) (by simp [results, Try.results27, go_sem]; go_simp) rfl ?_
  unfold RanS
  rw [runR_no (by have := HD.out; simp_all <;> omega)]
  refine ⟨none, 0, rfl, IsPairs.mono (IsPairs.empty w.heap.size _ none 0) (Nat.le_refl _) (Nat.le_refl _) (Nat.le_refl _), ?_⟩
  exact (((HB1.out.setCell (by simp <;> omega) _).setCell (by simp <;> omega) _).setCell (by simp <;> omega) _)
set_option maxHeartbeats 1000000 in
theorem specRun_long (B C B' C' : Nat) (p q : Int) (L : List (Int × Int)) (X : List DeedN) (v u : Value) (w : World) (h : IsPairs B C w v L) (hn : L.length ≤ 1048600) (k : IsDeeds B' C' w u X) (hm : X.length ≤ 1048600) (hd : deskN ⟨(p, q), L⟩ = true) (hl : 40 < X.length) : Calls Try.prog 27 #[.agg #[.int .i64 p, .int .i64 q, v], u] w (RanS ⟨(p, q), L⟩ X w) := by
  obtain ⟨a, cap, rfl, hC, hs0⟩ := id h
  obtain ⟨b, cbp, rfl, hC', hs1⟩ := id k
  clear hs0 hs1
  have H := Lib.hid h
  have K := Lib.hid k
  have HD := Lib.hid hd
  clear h k hd
  have hli : (40 : Int) < (X.length : Int) := by omega
  go_enter Try.func27, Try.ntmps27
  go_wp2_with fail
  refine (specDeskOk_any B C p q _ _ _ (H.out.below (show Below w.heap.size w _ by (repeat (first | exact Below.refl _ _ | refine Below.alloc ?_ (by first | omega | (simp <;> omega)) _ | refine Below.setCell ?_ (by first | omega | (simp <;> omega)) _ | refine Below.trans ?_ (Below.mono (by assumption) (by first | omega | (simp <;> omega)))))) hC) hn).mono ?_
  rintro e w1 ⟨rfl, hb1⟩
  obtain ⟨hc1, hf1⟩ := bcell hb1
  have hz1 := hb1.size
  simp at hz1
  have hz1a : w.heap.size < w1.heap.size := by omega
  have hz1b : w.heap.size + 1 < w1.heap.size := by omega
  have HB1 := Lib.hid (show Below w.heap.size w w1 by (repeat (first | exact Below.refl _ _ | refine Below.alloc ?_ (by first | omega | (simp <;> omega)) _ | refine Below.setCell ?_ (by first | omega | (simp <;> omega)) _ | refine Below.trans ?_ (Below.mono (by assumption) (by first | omega | (simp <;> omega))))))
  rw [HD.out]
  clear hb1
  go_wp2_with fail
  refine bodyPost_ret (v := .tuple #[.agg #[.int .i64 0, .int .i64 0, .slice none 0 0], .int .i64 0]) (by simp [results, Try.results27, go_sem]; go_simp) rfl ?_
  unfold RanS
  rw [runR_no (by have := HD.out; simp_all <;> omega)]
  refine ⟨none, 0, rfl, IsPairs.mono (IsPairs.empty w.heap.size _ none 0) (Nat.le_refl _) (Nat.le_refl _) (Nat.le_refl _), ?_⟩
  exact (((HB1.out.setCell (by simp <;> omega) _).setCell (by simp <;> omega) _).setCell (by simp <;> omega) _)
set_option maxRecDepth 100000 in
set_option maxHeartbeats 2000000 in
theorem specRun_yes (B C B' C' : Nat) (p q : Int) (L : List (Int × Int)) (X : List DeedN) (v u : Value) (w : World) (h : IsPairs B C w v L) (hn : L.length ≤ 1048600) (k : IsDeeds B' C' w u X) (hm : X.length ≤ 1048600) (hd : deskN ⟨(p, q), L⟩ = true) (hl : X.length ≤ 40) : Calls Try.prog 27 #[.agg #[.int .i64 p, .int .i64 q, v], u] w (RanS ⟨(p, q), L⟩ X w) := by
  obtain ⟨a, cap, rfl, hC, hs0⟩ := id h
  obtain ⟨b, cbp, rfl, hC', hs1⟩ := id k
  clear hs0 hs1
  have H := Lib.hid h
  have K := Lib.hid k
  have HD := Lib.hid hd
  clear h k hd
  have hli : (X.length : Int) ≤ 40 := by omega
  have hl0 : decide ((40 : Int) < (X.length : Int)) = false := by simp; omega
  go_enter Try.func27, Try.ntmps27
  go_wp2_with fail
  refine (specDeskOk_any B C p q _ _ _ (H.out.below (show Below w.heap.size w _ by (repeat (first | exact Below.refl _ _ | refine Below.alloc ?_ (by first | omega | (simp <;> omega)) _ | refine Below.setCell ?_ (by first | omega | (simp <;> omega)) _ | refine Below.trans ?_ (Below.mono (by assumption) (by first | omega | (simp <;> omega)))))) hC) hn).mono ?_
  rintro e w1 ⟨rfl, hb1⟩
  obtain ⟨hc1, hf1⟩ := bcell hb1
  have hz1 := hb1.size
  simp at hz1
  have hz1a : w.heap.size < w1.heap.size := by omega
  have hz1b : w.heap.size + 1 < w1.heap.size := by omega
  have HB1 := Lib.hid (show Below w.heap.size w w1 by (repeat (first | exact Below.refl _ _ | refine Below.alloc ?_ (by first | omega | (simp <;> omega)) _ | refine Below.setCell ?_ (by first | omega | (simp <;> omega)) _ | refine Below.trans ?_ (Below.mono (by assumption) (by first | omega | (simp <;> omega))))))
  rw [HD.out]
  clear hb1
  go_wp2_with fail
  refine (specCopy_any B C p q _ _ _ (H.out.below HB1.out hC) hn).mono ?_
  rintro e w2 ⟨a2, c2, rfl, hown2, hb2⟩
  dsimp only at hown2 ⊢
  obtain ⟨hc2, hf2⟩ := bcell hb2
  have hz2 := hb2.size
  have hz2a : w.heap.size < w2.heap.size := by omega
  have hz2b : w.heap.size + 1 < w2.heap.size := by omega
  have HB2 := Lib.hid (HB1.out.trans (hb2.mono HB1.out.size))
  have HI2 := Lib.hid (IsPairs.of_owns hown2)
  have kr0 : w2.cell? ⟨w.heap.size + 1, 0, none⟩ = some (.int .i64 0) := by go_simp
  have kr1 : w2.cell? ⟨w.heap.size + 1, 1, none⟩ = some (.int .i64 0) := by go_simp
  have kr2 : w2.cell? ⟨w.heap.size + 1, 2, none⟩ = some (.slice none 0 0) := by go_simp
  have kt0 : w2.frozen? ⟨w.heap.size + 1, 0, none⟩ = false := by go_simp
  have kt1 : w2.frozen? ⟨w.heap.size + 1, 1, none⟩ = false := by go_simp
  have kt2 : w2.frozen? ⟨w.heap.size + 1, 2, none⟩ = false := by go_simp
  clear hb2 hown2 hc1 hf1 hc2 hf2
  have HR0 := Lib.hid (show runN ⟨(p, q), L⟩ (X.take 0) = (⟨(p, q), L⟩, 0) from rfl)
  go_wp2_with fail
  go_loopw [7, 8] (fun nn kk wr => ∃ (i m : Nat) (dp dq : Int) (M : List (Int × Int)) (a3 : Option Addr) (c3 : Nat), i ≤ X.length ∧ Hid (runN ⟨(p, q), L⟩ (X.take i) = (⟨(dp, dq), M⟩, m)) ∧ nn = .int .i64 m ∧ kk = .int .i64 i ∧ m ≤ i ∧ wr.cell? ⟨w2.heap.size, 0, none⟩ = some (.int .i64 dp) ∧ wr.cell? ⟨w2.heap.size, 1, none⟩ = some (.int .i64 dq) ∧ wr.cell? ⟨w2.heap.size, 2, none⟩ = some (.slice a3 M.length c3) ∧ wr.frozen? ⟨w2.heap.size, 0, none⟩ = false ∧ wr.frozen? ⟨w2.heap.size, 1, none⟩ = false ∧ wr.frozen? ⟨w2.heap.size, 2, none⟩ = false ∧
      wr.cell? ⟨w.heap.size + 1, 0, none⟩ = some (.int .i64 0) ∧ wr.cell? ⟨w.heap.size + 1, 1, none⟩ = some (.int .i64 0) ∧ wr.cell? ⟨w.heap.size + 1, 2, none⟩ = some (.slice none 0 0) ∧ wr.frozen? ⟨w.heap.size + 1, 0, none⟩ = false ∧ wr.frozen? ⟨w.heap.size + 1, 1, none⟩ = false ∧ wr.frozen? ⟨w.heap.size + 1, 2, none⟩ = false ∧
      IsPairs (w.heap.size + 2) wr.heap.size wr (.slice a3 M.length c3) M ∧ w2.heap.size < wr.heap.size ∧ Below w.heap.size w wr) (fun _ kk _ => X.length - (intOf kk).toNat)
  case atStart =>
    refine ⟨0, 0, p, q, L, a2, c2, Nat.zero_le _, HR0, rfl, rfl, Nat.le_refl _, by go_simp, by go_simp, by go_simp, by go_simp, by go_simp, by go_simp, by go_simp, by go_simp, by go_simp, by go_simp, by go_simp, by go_simp, ?_, by simp <;> omega, ?_⟩
    · refine IsPairs.mono (B := w1.heap.size) (C := w2.heap.size) ?_ (by omega) (by simp) (Nat.le_refl _)
      exact HI2.out.below ((Below.refl _ _).alloc (Nat.le_refl _) _) (Nat.le_refl _)
    · exact HB2.out.alloc (by omega) _
  case round =>
    obtain ⟨i, m, dp, dq, M, a3, c3, hi, HRN, rfl, rfl, hmi, b0, b1, b2, g0, g1, g2, r0, r1, r2, t0, t1, t2, hI, hzH, hB⟩ := hrel
    by_cases hlt : i < X.length
    · have hd0 : deskN ⟨(p, q), L⟩ = true := HD.out
      have hdi : deskN ⟨(dp, dq), M⟩ = true := by have := runN_desk (X.take i) hd0; rwa [HRN.out] at this
      have hM8 : M.length ≤ 8 := (deskN_of hdi).2.1
      obtain ⟨⟨kx, ax, bx⟩, hx⟩ : ∃ x, X[i]? = some x := ⟨X[i], by simp [hlt]⟩
      obtain ⟨_, _, hve, _, hks⟩ := id K.out
      cases hve
      rcases hks with rfl | ⟨g, off, rfl, _, hg2, hc, _⟩
      · simp at hlt
      have x0 : wr.cell? ⟨g, off + i * 3, none⟩ = some (.int .i64 kx) := (hB.cell (p := ⟨g, off + i * 3, none⟩) (by show g < _; omega)).trans (hc i _ hx).1
      have x1 : wr.cell? ⟨g, off + i * 3 + 1, none⟩ = some (.int .i64 ax) := (hB.cell (p := ⟨g, off + i * 3 + 1, none⟩) (by show g < _; omega)).trans (hc i _ hx).2.1
      have x2 : wr.cell? ⟨g, off + i * 3 + 2, none⟩ = some (.int .i64 bx) := (hB.cell (p := ⟨g, off + i * 3 + 2, none⟩) (by show g < _; omega)).trans (hc i _ hx).2.2
      have hgr : g < wr.heap.size := by have := hB.size; omega
      have HNX := runN_take (d := ⟨(p, q), L⟩) hx
      rw [HRN.out] at HNX
      dsimp only at HNX
      have hno := fun h => doN_no (d := ⟨(dp, dq), M⟩) (x := ⟨kx, ax, bx⟩) h
      have hcall := fun (W : World) (D D' : Nat) (hI' : IsPairs D D' W (.slice a3 M.length c3) M) => specDo_any D D' dp dq kx ax bx M _ W hI' (by omega)
      unfold DidS at hcall
      rw [doR_yes hdi] at hcall
      have hii : (i : Int) < (X.length : Int) := by omega
      have i0 : (0 : Int) ≤ (i : Int) := by omega
      obtain ⟨rp, rq, R, ok, hres⟩ : ∃ rp rq R ok, doN ⟨(dp, dq), M⟩ ⟨kx, ax, bx⟩ = (⟨(rp, rq), R⟩, ok) := ⟨_, _, _, _, rfl⟩
      rw [hres] at HNX hno hcall
      dsimp only at HNX hno hcall
      have HI := Lib.hid hI
      have HB := Lib.hid hB
      have HC := Lib.hid hcall
      have HNO := Lib.hid hno
      have HNX := Lib.hid HNX
      have W1 : IntKind.i64.wrap ((i : Int) + 1) = (i : Int) + 1 := by rw [IntKind.wrap_i64]; omega
      have W2 : IntKind.i64.wrap ((m : Int) + 1) = (m : Int) + 1 := by rw [IntKind.wrap_i64]; omega
      have hwz := hB.size
      clear hI hB hcall hno hres hc hx hd0 hdi
      go_wp2_with fail
      go_cut [9, 10] from 28 to 36 (fun s9 s10 wx => ∃ (b9 : Nat) (a5 : Option Addr) (c5 : Nat), s9 = .pointer (some ⟨b9, 0, none⟩) ∧ s10 = .bool ok ∧ (wr.heap.size ≤ b9 ∧ b9 < wx.heap.size) ∧ wx.cell? ⟨b9, 0, none⟩ = some (.int .i64 rp) ∧ wx.cell? ⟨b9, 1, none⟩ = some (.int .i64 rq) ∧ wx.cell? ⟨b9, 2, none⟩ = some (.slice a5 R.length c5) ∧ IsPairs wr.heap.size wx.heap.size wx (.slice a5 R.length c5) R ∧ Below wr.heap.size wr wx)
      case first =>
        go_region_with (go_at_call 23; refine (HC.out _ _ _ (HI.out.below (show Below wr.heap.size wr _ by (repeat (first | exact Below.refl _ _ | refine Below.alloc ?_ (by first | omega | (simp <;> omega)) _ | refine Below.drew ?_))) (Nat.le_refl _))).mono ?_; rintro e w5 ⟨a5, c5, rfl, hI5, _, hb5⟩; obtain ⟨hc5, hf5⟩ := bcell hb5; have hz5 := hb5.size; (try simp at hz5); have hI6 : IsPairs wr.heap.size w5.heap.size w5 _ _ := hI5.mono (by simp) (Nat.le_refl _) (Nat.le_refl _); (first | (have hI7 : IsPairs (wr.heap.size + 1) w5.heap.size w5 _ _ := hI5.mono (by first | (simp; done) | fail) (Nat.le_refl _) (Nat.le_refl _)) | skip))
        all_goals (go_wp2_with fail; go_meet)
        all_goals
          case rel =>
            refine ⟨_, a5, c5, rfl, rfl, ⟨?_, ?_⟩, ?_, ?_, ?_, ?_, ?_⟩
            · first | omega | (simp <;> omega)
            · first | omega | (simp <;> omega)
            · go_simp
            · go_simp
            · go_simp
            · first
                | (refine IsPairs.mono (B := wr.heap.size) (C := w5.heap.size) ?_ (Nat.le_refl _) (by simp) (Nat.le_refl _); (repeat (first | exact hI6 | refine IsPairs.set2 ?_ (by first | omega | (simp <;> omega) | fail) _ | refine IsPairs.allocd ?_ _)); done)
                | (refine IsPairs.mono (B := wr.heap.size + 1) (C := w5.heap.size) ?_ (by omega) (by simp) (Nat.le_refl _); (repeat (first | exact hI7 | refine IsPairs.set2 ?_ (by first | omega | (simp <;> omega) | fail) _ | refine IsPairs.allocd ?_ _)); done)
            · (repeat (first | exact Below.refl _ _ | refine Below.setCell ?_ (by first | omega | (simp <;> omega)) _ | refine Below.alloc ?_ (by first | omega | (simp <;> omega)) _ | refine Below.drew ?_ | refine Below.trans ?_ (Below.mono (by assumption) (by first | omega | (simp <;> omega)))))
      case rest =>
        obtain ⟨b9, a5, c5, rfl, rfl, ⟨hb9, hb9'⟩, d0, d1, d2, hI5, hb5⟩ := hcut
        have hh9 : ¬ b9 = w2.heap.size := by omega
        have hh8 : ¬ w2.heap.size = b9 := by omega
        have hzc : w.heap.size + 1 < wr.heap.size := by omega
        have HI5 := Lib.hid hI5
        have hz5 := hb5.size
        have b0' := cell_belowP hb5 b0
        have b1' := cell_belowP hb5 b1
        have b2' := cell_belowP hb5 b2
        have g0' := (hb5.frozen (p := ⟨w2.heap.size, 0, none⟩) hzH).trans g0
        have g1' := (hb5.frozen (p := ⟨w2.heap.size, 1, none⟩) hzH).trans g1
        have g2' := (hb5.frozen (p := ⟨w2.heap.size, 2, none⟩) hzH).trans g2
        have r0' := cell_belowP hb5 r0
        have r1' := cell_belowP hb5 r1
        have r2' := cell_belowP hb5 r2
        have t0' := (hb5.frozen (p := ⟨w.heap.size + 1, 0, none⟩) hzc).trans t0
        have t1' := (hb5.frozen (p := ⟨w.heap.size + 1, 1, none⟩) hzc).trans t1
        have t2' := (hb5.frozen (p := ⟨w.heap.size + 1, 2, none⟩) hzc).trans t2
        have HB5 := Lib.hid hb5
        clear hI5 hb5 b0 b1 b2 g0 g1 g2 r0 r1 r2 t0 t1 t2
        cases ok with
        | true =>
          have HNY : Hid (runN ⟨(p, q), L⟩ (X.take (i + 1)) = (⟨(rp, rq), R⟩, m + 1)) := Lib.hid (by simpa using HNX.out)
          go_wp2
          go_roundw
          case rel =>
            refine ⟨i + 1, m + 1, rp, rq, R, a5, c5, by omega, HNY, congrArg (Value.int .i64) (by omega), congrArg (Value.int .i64) (by omega), by omega, by go_simp, by go_simp, by go_simp, by go_simp, by go_simp, by go_simp, by go_simp, by go_simp, by go_simp, by go_simp, by go_simp, by go_simp, ?_, by simp <;> omega, ?_⟩
            · exact ((((HI5.out.set (p := ⟨w2.heap.size, 0, none⟩) hzH _).set (p := ⟨w2.heap.size, 1, none⟩) hzH _).set (p := ⟨w2.heap.size, 2, none⟩) hzH _)).mono (by omega) (by simp) (Nat.le_refl _)
            · exact (((HB.out.trans (HB5.out.mono (by omega))).setCell (by simp <;> omega) _).setCell (by simp <;> omega) _).setCell (by simp <;> omega) _
          case measure => simp [intOf]; omega
        | false =>
          have HNY : Hid (runN ⟨(p, q), L⟩ (X.take (i + 1)) = (⟨(dp, dq), M⟩, m)) := Lib.hid (by have h1 := HNX.out; have h2 := HNO.out rfl; rw [h2] at h1; simpa using h1)
          go_wp2
          go_roundw
          case rel => exact ⟨i + 1, m, dp, dq, M, a3, c3, by omega, HNY, rfl, congrArg (Value.int .i64) (by omega), by omega, b0', b1', b2', g0', g1', g2', r0', r1', r2', t0', t1', t2', (HI.out.below HB5.out (Nat.le_refl _)).mono (Nat.le_refl _) hz5 (Nat.le_refl _), by omega, HB.out.trans (HB5.out.mono (by omega))⟩
          case measure => simp [intOf]; omega
    · obtain rfl : i = X.length := by omega
      have hli2 : ¬ ((X.length : Int) < (X.length : Int)) := by omega
      have HB := Lib.hid hB
      have HI := Lib.hid hI
      clear hB hI
      go_wp2_with fail
      refine bodyPost_ret (v := .tuple #[.agg #[.int .i64 dp, .int .i64 dq, .slice a3 M.length c3], .int .i64 (m : Int)]) (by simp [results, Try.results27, go_sem]; go_simp) rfl ?_
      unfold RanS
      rw [runR_yes HD.out hl, show runN ⟨(p, q), L⟩ X = (⟨(dp, dq), M⟩, m) by have := HRN.out; rwa [List.take_length] at this]
      refine ⟨a3, c3, rfl, ?_, ?_⟩
      · exact ((((HI.out.set (p := ⟨w.heap.size + 1, 0, none⟩) (by show w.heap.size + 1 < _; omega) _).set (p := ⟨w.heap.size + 1, 1, none⟩) (by show w.heap.size + 1 < _; omega) _).set (p := ⟨w.heap.size + 1, 2, none⟩) (by show w.heap.size + 1 < _; omega) _)).mono (by omega) (by simp) (Nat.le_refl _)
      · exact ((HB.out.setCell (by simp <;> omega) _).setCell (by simp <;> omega) _).setCell (by simp <;> omega) _
theorem specRun_any (B C B' C' : Nat) (p q : Int) (L : List (Int × Int)) (X : List DeedN) (v u : Value) (w : World) (h : IsPairs B C w v L) (hn : L.length ≤ 1048600) (k : IsDeeds B' C' w u X) (hm : X.length ≤ 1048600) : Calls Try.prog 27 #[.agg #[.int .i64 p, .int .i64 q, v], u] w (RanS ⟨(p, q), L⟩ X w) := by
  cases hd : deskN ⟨(p, q), L⟩ with
  | false => exact specRun_no B C B' C' p q L X v u w h hn k hm hd
  | true =>
    rcases Nat.lt_or_ge 40 X.length with hl | hl
    · exact specRun_long B C B' C' p q L X v u w h hn k hm hd hl
    · exact specRun_yes B C B' C' p q L X v u w h hn k hm hd hl
end Go.Proofs.Ytigcomhhgfgmgaa
