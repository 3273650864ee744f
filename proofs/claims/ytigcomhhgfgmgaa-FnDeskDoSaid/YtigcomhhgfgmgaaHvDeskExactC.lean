/- Contracts that the statement's proof stands on. -/
import Derived.Test.YtigcomhhgfgmgaaAll1
import Derived.Test.YtigcomhhgfgmgaaHvDeskDoT
import Derived.Test.YtigcomhhgfgmgaaHvDeskDoI
import Derived.Deep.RegionWith
import Derived.Deep.Cut
import Derived.Deep.RegionHeld3
import Derived.Deep.DeepCutAuto

namespace Go.Proofs.Ytigcomhhgfgmgaa
open Go.RowKit
theorem cell_alloc_is {w : World} {a : Addr} {v : Value} (o : Obj) (h : w.cell? a = some v) : (w.alloc o).cell? a = some v := (World.cell?_alloc_lt _ _ _ (World.block_lt_of_cell? w a h)).trans h
theorem cell_set_is {w : World} {b o b' o' : Nat} {v x : Value} (h : w.cell? ⟨b, o, none⟩ = some v) (hne : b' ≠ b) : (w.setCell ⟨b', o', none⟩ x).cell? ⟨b, o, none⟩ = some v := (World.cell?_setCell_other _ _ _ _ (fun e => hne (by injection e))).trans h
theorem cell_drew_is {w : World} {a : Addr} {v : Value} (h : w.cell? a = some v) : w.drew.cell? a = some v := h
theorem region_namedD {P : Program} {Q : Exit → Act → World → Prop} {c : Code} {a : Act} {w : World} (h : ∀ W, W = w → c.wp P Q a W) : c.wp P Q a w := h w rfl
theorem doR_len (d : DeskN) (x : DeedN) : (doR d x).1.past.length ≤ 8 := by
  cases hd : deskN d with
  | false => rw [doR_no hd]; simp
  | true => rw [doR_yes hd]; exact (deskN_of (doN_desk x hd)).2.1
set_option maxRecDepth 100000 in
set_option maxHeartbeats 8000000 in
theorem fnExactDeskDo_walk (p q : Int) (u : Value) (L : List (Int × Int)) (k x y : Int) (w : World) (h : SeesPairs w u L) (hl : L.length ≤ maxLen) :
    Calls Try.prog 9 #[.agg #[.int .i64 p, .int .i64 q, u], .agg #[.int .i64 k, .int .i64 x, .int .i64 y]] w fun e w' => e = .returned (.bool true) ∧ Below w.heap.size w w' := by
  obtain ⟨a, cap, rfl, _⟩ := id h
  rcases Nat.lt_or_ge 1048576 L.length with hbig | hsm
  · go_enter Try.func9, Try.ntmps9
    go_wp2_with fail
    refine (szDesk_big p q a L.length cap 1048576 (by omega) hbig hl _).mono ?_
    rintro e w1 ⟨rfl, hb1⟩
    go_wp2
    go_ret
    exact ⟨rfl, by (repeat (first | exact Below.refl _ _ | refine Below.setCell ?_ (by first | omega | (simp <;> omega)) _ | refine Below.alloc ?_ (by first | omega | (simp <;> omega)) _ | refine Below.drew ?_ | refine Below.trans ?_ (Below.mono (by assumption) (by first | omega | (simp <;> omega))) | refine Below.grown ?_ (by assumption) (by first | omega | (simp <;> omega)) (fun k e => by cases e; first | omega | (simp <;> omega))))⟩
  · have hn : L.length ≤ 1048600 := by omega
    have h3 : ¬ (((1048576 - L.length : Nat) : Int) < 0) := by omega
    have h4 : ¬ (1 + 2 * (L.length : Int) < 0) := by omega
    have hS := fun (W : World) (B C : Nat) (a : Option Addr) (c : Nat) (hI : IsPairs B C W (.slice a L.length c) L) => specDo_any B C p q k x y L _ W hI hn
    have hI := fun (W : World) (B C : Nat) (a : Option Addr) (c : Nat) (hI : IsPairs B C W (.slice a L.length c) L) => implDo_any B C p q k x y L _ W hI hn
    unfold DidS at hS
    unfold DeskRet at hI
    obtain ⟨rp, rq, R, ok, hres⟩ : ∃ rp rq R ok, doR ⟨(p, q), L⟩ ⟨k, x, y⟩ = (⟨(rp, rq), R⟩, ok) := ⟨_, _, _, _, rfl⟩
    have hR8 : R.length ≤ 8 := by have := doR_len ⟨(p, q), L⟩ ⟨k, x, y⟩; rwa [hres] at this
    rw [hres] at hS hI
    dsimp only at hS hI
    have hRn : R.length ≤ 1048600 := by omega
    have h5 : ¬ (1 + 2 * (R.length : Int) < 0) := by omega
    have H := Lib.hid h
    have HS := Lib.hid hS
    have HI := Lib.hid hI
    clear h hS hI hres
    go_enter Try.func9, Try.ntmps9
    go_wp2_with fail
    refine (szDesk_fit p q a L.length cap 1048576 (by omega) hsm _).mono ?_
    rintro e w1 ⟨rfl, hb1⟩
    obtain ⟨hc1, hf1⟩ := bcell hb1
    have hz1 := hb1.size
    try simp at hz1
    have hN1 : Below w.heap.size w w1 := by
      refine Below.trans ?_ (hb1.mono (by first | omega | (simp <;> omega)))
      (repeat (first | exact Below.refl _ _ | refine Below.setCell ?_ (by first | omega | (simp <;> omega)) _ | refine Below.alloc ?_ (by first | omega | (simp <;> omega)) _ | refine Below.drew ?_))
    have hn1 := hN1.size
    have hs1_0 : w.heap.size < w1.heap.size := by omega
    have hs1_1 : w.heap.size + 1 < w1.heap.size := by omega
    have kb1_0_0 : w1.cell? ⟨w.heap.size, 0, none⟩ = some (.int .i64 p) := by go_simp
    have kb1_0_1 : w1.cell? ⟨w.heap.size, 1, none⟩ = some (.int .i64 q) := by go_simp
    have kb1_0_2 : w1.cell? ⟨w.heap.size, 2, none⟩ = some (.slice a L.length cap) := by go_simp
    have kb1_1_0 : w1.cell? ⟨w.heap.size + 1, 0, none⟩ = some (.int .i64 k) := by go_simp
    have kb1_1_1 : w1.cell? ⟨w.heap.size + 1, 1, none⟩ = some (.int .i64 x) := by go_simp
    have kb1_1_2 : w1.cell? ⟨w.heap.size + 1, 2, none⟩ = some (.int .i64 y) := by go_simp
    have HB1 := Lib.hid ((Below.refl w.heap.size w).trans (hN1.mono (by first | exact Nat.le_refl _ | omega)))
    clear hc1 hf1 hb1 hN1 hz1
    have HSe1 := Lib.hid (H.out.below HB1.out)
    go_wp2_with fail
    go_cut [6, 7] from 21 (fun s_ t_ wx => ∃ (b5 B5 C5 : Nat) (a5 : Option Addr) (c5 : Nat), s_ = .pointer (some ⟨b5, 0, none⟩) ∧ t_ = .bool ok ∧ (w1.heap.size ≤ b5 ∧ b5 < wx.heap.size) ∧ (wx.cell? ⟨b5, 0, none⟩ = some (.int .i64 rp) ∧ wx.cell? ⟨b5, 1, none⟩ = some (.int .i64 rq) ∧ wx.cell? ⟨b5, 2, none⟩ = some (.slice a5 R.length c5)) ∧ IsPairs B5 C5 wx (.slice a5 R.length c5) R ∧ (w1.heap.size ≤ B5 ∧ C5 ≤ wx.heap.size ∧ (b5 < B5 ∨ C5 ≤ b5)) ∧ Below w1.heap.size w1 wx)
    case first =>
      go_region_held3 (fun W_ => W_.cell? ⟨w.heap.size, 0, none⟩ = some (.int .i64 p) ∧ W_.cell? ⟨w.heap.size, 1, none⟩ = some (.int .i64 q) ∧ W_.cell? ⟨w.heap.size, 2, none⟩ = some (.slice a L.length cap) ∧ W_.cell? ⟨w.heap.size + 1, 0, none⟩ = some (.int .i64 k) ∧ W_.cell? ⟨w.heap.size + 1, 1, none⟩ = some (.int .i64 x) ∧ W_.cell? ⟨w.heap.size + 1, 2, none⟩ = some (.int .i64 y))
        ((go_split_ands; refine ⟨?_, ?_, ?_, ?_, ?_, ?_⟩ <;> (repeat (first | with_reducible assumption | with_reducible refine cell_alloc_is _ ?_ | with_reducible refine cell_drew_is ?_ | with_reducible refine cell_set_is ?_ ?_ | omega)); done))
        ((first | (go_at_call 29; refine (toDesk_any p q L _ _ (HSe1.out.below (show Below w1.heap.size w1 _ by (repeat (first | exact Below.refl _ _ | refine Below.setCell ?_ (by first | omega | (simp <;> omega)) _ | refine Below.alloc ?_ (by first | omega | (simp <;> omega)) _ | refine Below.drew ?_ | refine Below.trans ?_ (Below.mono (by assumption) (by first | omega | (simp <;> omega))))))) hn).mono ?_; rintro e w_2 ⟨a2, c2, rfl, hI2, hb_2⟩; obtain ⟨hc_2, hf_2⟩ := bcell hb_2; have hz_2 := hb_2.size; (try simp at hz_2); have kx0 := (hb_2.cell (p := ⟨w.heap.size, 0, none⟩) (by first | omega | (simp <;> omega))).trans (show _ = some (.int .i64 p) by (repeat (first | with_reducible assumption | with_reducible refine cell_alloc_is _ ?_ | with_reducible refine cell_drew_is ?_ | with_reducible refine cell_set_is ?_ ?_ | omega))); have kx1 := (hb_2.cell (p := ⟨w.heap.size, 1, none⟩) (by first | omega | (simp <;> omega))).trans (show _ = some (.int .i64 q) by (repeat (first | with_reducible assumption | with_reducible refine cell_alloc_is _ ?_ | with_reducible refine cell_drew_is ?_ | with_reducible refine cell_set_is ?_ ?_ | omega))); have kx2 := (hb_2.cell (p := ⟨w.heap.size, 2, none⟩) (by first | omega | (simp <;> omega))).trans (show _ = some (.slice a L.length cap) by (repeat (first | with_reducible assumption | with_reducible refine cell_alloc_is _ ?_ | with_reducible refine cell_drew_is ?_ | with_reducible refine cell_set_is ?_ ?_ | omega))); have kx3 := (hb_2.cell (p := ⟨w.heap.size + 1, 0, none⟩) (by first | omega | (simp <;> omega))).trans (show _ = some (.int .i64 k) by (repeat (first | with_reducible assumption | with_reducible refine cell_alloc_is _ ?_ | with_reducible refine cell_drew_is ?_ | with_reducible refine cell_set_is ?_ ?_ | omega))); have kx4 := (hb_2.cell (p := ⟨w.heap.size + 1, 1, none⟩) (by first | omega | (simp <;> omega))).trans (show _ = some (.int .i64 x) by (repeat (first | with_reducible assumption | with_reducible refine cell_alloc_is _ ?_ | with_reducible refine cell_drew_is ?_ | with_reducible refine cell_set_is ?_ ?_ | omega))); have kx5 := (hb_2.cell (p := ⟨w.heap.size + 1, 2, none⟩) (by first | omega | (simp <;> omega))).trans (show _ = some (.int .i64 y) by (repeat (first | with_reducible assumption | with_reducible refine cell_alloc_is _ ?_ | with_reducible refine cell_drew_is ?_ | with_reducible refine cell_set_is ?_ ?_ | omega))); (dsimp only at hI2 ⊢); (try have hq_2_w1 : w1.heap.size < w_2.heap.size := by omega); (try have hq_2_w_3 : w_3.heap.size < w_2.heap.size := by omega); (try have hq_2_w_4 : w_4.heap.size < w_2.heap.size := by omega)) | (go_at_call 34; refine (toDeed_any k x y _).mono ?_; rintro e w_3 ⟨rfl, hb_3⟩; obtain ⟨hc_3, hf_3⟩ := bcell hb_3; have hz_3 := hb_3.size; (try simp at hz_3); have kx0 := (hb_3.cell (p := ⟨w.heap.size, 0, none⟩) (by first | omega | (simp <;> omega))).trans (show _ = some (.int .i64 p) by (repeat (first | with_reducible assumption | with_reducible refine cell_alloc_is _ ?_ | with_reducible refine cell_drew_is ?_ | with_reducible refine cell_set_is ?_ ?_ | omega))); have kx1 := (hb_3.cell (p := ⟨w.heap.size, 1, none⟩) (by first | omega | (simp <;> omega))).trans (show _ = some (.int .i64 q) by (repeat (first | with_reducible assumption | with_reducible refine cell_alloc_is _ ?_ | with_reducible refine cell_drew_is ?_ | with_reducible refine cell_set_is ?_ ?_ | omega))); have kx2 := (hb_3.cell (p := ⟨w.heap.size, 2, none⟩) (by first | omega | (simp <;> omega))).trans (show _ = some (.slice a L.length cap) by (repeat (first | with_reducible assumption | with_reducible refine cell_alloc_is _ ?_ | with_reducible refine cell_drew_is ?_ | with_reducible refine cell_set_is ?_ ?_ | omega))); have kx3 := (hb_3.cell (p := ⟨w.heap.size + 1, 0, none⟩) (by first | omega | (simp <;> omega))).trans (show _ = some (.int .i64 k) by (repeat (first | with_reducible assumption | with_reducible refine cell_alloc_is _ ?_ | with_reducible refine cell_drew_is ?_ | with_reducible refine cell_set_is ?_ ?_ | omega))); have kx4 := (hb_3.cell (p := ⟨w.heap.size + 1, 1, none⟩) (by first | omega | (simp <;> omega))).trans (show _ = some (.int .i64 x) by (repeat (first | with_reducible assumption | with_reducible refine cell_alloc_is _ ?_ | with_reducible refine cell_drew_is ?_ | with_reducible refine cell_set_is ?_ ?_ | omega))); have kx5 := (hb_3.cell (p := ⟨w.heap.size + 1, 2, none⟩) (by first | omega | (simp <;> omega))).trans (show _ = some (.int .i64 y) by (repeat (first | with_reducible assumption | with_reducible refine cell_alloc_is _ ?_ | with_reducible refine cell_drew_is ?_ | with_reducible refine cell_set_is ?_ ?_ | omega))); (try have hq_3_w1 : w1.heap.size < w_3.heap.size := by omega); (try have hq_3_w_2 : w_2.heap.size < w_3.heap.size := by omega); (try have hq_3_w_4 : w_4.heap.size < w_3.heap.size := by omega)) | (go_at_call 23; refine (HS.out _ _ _ _ _ (hI2.below (show Below w_2.heap.size w_2 _ by (repeat (first | exact Below.refl _ _ | refine Below.setCell ?_ (by first | omega | (simp <;> omega)) _ | refine Below.alloc ?_ (by first | omega | (simp <;> omega)) _ | refine Below.drew ?_ | refine Below.trans ?_ (Below.mono (by assumption) (by first | omega | (simp <;> omega)))))) (Nat.le_refl _))).mono ?_; rintro e w_4 ⟨a4, c4, rfl, hI4, _, hb_4⟩; obtain ⟨hc_4, hf_4⟩ := bcell hb_4; have hz_4 := hb_4.size; (try simp at hz_4); have kx0 := (hb_4.cell (p := ⟨w.heap.size, 0, none⟩) (by first | omega | (simp <;> omega))).trans (show _ = some (.int .i64 p) by (repeat (first | with_reducible assumption | with_reducible refine cell_alloc_is _ ?_ | with_reducible refine cell_drew_is ?_ | with_reducible refine cell_set_is ?_ ?_ | omega))); have kx1 := (hb_4.cell (p := ⟨w.heap.size, 1, none⟩) (by first | omega | (simp <;> omega))).trans (show _ = some (.int .i64 q) by (repeat (first | with_reducible assumption | with_reducible refine cell_alloc_is _ ?_ | with_reducible refine cell_drew_is ?_ | with_reducible refine cell_set_is ?_ ?_ | omega))); have kx2 := (hb_4.cell (p := ⟨w.heap.size, 2, none⟩) (by first | omega | (simp <;> omega))).trans (show _ = some (.slice a L.length cap) by (repeat (first | with_reducible assumption | with_reducible refine cell_alloc_is _ ?_ | with_reducible refine cell_drew_is ?_ | with_reducible refine cell_set_is ?_ ?_ | omega))); have kx3 := (hb_4.cell (p := ⟨w.heap.size + 1, 0, none⟩) (by first | omega | (simp <;> omega))).trans (show _ = some (.int .i64 k) by (repeat (first | with_reducible assumption | with_reducible refine cell_alloc_is _ ?_ | with_reducible refine cell_drew_is ?_ | with_reducible refine cell_set_is ?_ ?_ | omega))); have kx4 := (hb_4.cell (p := ⟨w.heap.size + 1, 1, none⟩) (by first | omega | (simp <;> omega))).trans (show _ = some (.int .i64 x) by (repeat (first | with_reducible assumption | with_reducible refine cell_alloc_is _ ?_ | with_reducible refine cell_drew_is ?_ | with_reducible refine cell_set_is ?_ ?_ | omega))); have kx5 := (hb_4.cell (p := ⟨w.heap.size + 1, 2, none⟩) (by first | omega | (simp <;> omega))).trans (show _ = some (.int .i64 y) by (repeat (first | with_reducible assumption | with_reducible refine cell_alloc_is _ ?_ | with_reducible refine cell_drew_is ?_ | with_reducible refine cell_set_is ?_ ?_ | omega))); obtain ⟨B4, hB4, hI5⟩ := (⟨_, rfl, hI4⟩ : ∃ B, B = _ ∧ IsPairs B w_4.heap.size w_4 (.slice a4 R.length c4) R); (try simp at hB4); (try have hq_4_w1 : w1.heap.size < w_4.heap.size := by omega); (try have hq_4_w_2 : w_2.heap.size < w_4.heap.size := by omega); (try have hq_4_w_3 : w_3.heap.size < w_4.heap.size := by omega)) | fail))
      all_goals (go_wp2_with fail; go_meet)
      all_goals
        case rel =>
          refine ⟨_, B4, w_4.heap.size, a4, c4, rfl, rfl, ⟨?_, ?_⟩, ⟨?_, ?_, ?_⟩, ?_, ⟨?_, ?_, ?_⟩, ?_⟩
          · first | omega | (simp <;> omega)
          · first | omega | (simp <;> omega)
          · go_simp
          · go_simp
          · go_simp
          · (repeat (first | exact hI5 | refine IsPairs.set2 ?_ (by first | omega | (simp <;> omega)) _ | refine IsPairs.allocd ?_ _))
          · first | omega | (simp <;> omega)
          · first | omega | (simp <;> omega)
          · first | omega | (simp <;> omega)
          · (repeat (first | exact Below.refl _ _ | refine Below.setCell ?_ (by first | omega | (simp <;> omega)) _ | refine Below.alloc ?_ (by first | omega | (simp <;> omega)) _ | refine Below.drew ?_ | refine Below.trans ?_ (Below.mono (by assumption) (by first | omega | (simp <;> omega)))))
    rename World => w2
    obtain ⟨b6, B6, C6, a6, c6, rfl, rfl, ⟨hb6a, hb6b⟩, ⟨kq6_0, kq6_1, kq6_2⟩, hI6, ⟨hB6, hC6, hD6⟩, hN2⟩ := hcut
    obtain ⟨hc2, hf2⟩ := bcell hN2
    have hn2 := hN2.size
    have hs2_0 : w.heap.size < w2.heap.size := by omega
    have hs2_1 : w.heap.size + 1 < w2.heap.size := by omega
    have kb2_0_0 : w2.cell? ⟨w.heap.size, 0, none⟩ = some (.int .i64 p) := by go_simp
    have kb2_0_1 : w2.cell? ⟨w.heap.size, 1, none⟩ = some (.int .i64 q) := by go_simp
    have kb2_0_2 : w2.cell? ⟨w.heap.size, 2, none⟩ = some (.slice a L.length cap) := by go_simp
    have kb2_1_0 : w2.cell? ⟨w.heap.size + 1, 0, none⟩ = some (.int .i64 k) := by go_simp
    have kb2_1_1 : w2.cell? ⟨w.heap.size + 1, 1, none⟩ = some (.int .i64 x) := by go_simp
    have kb2_1_2 : w2.cell? ⟨w.heap.size + 1, 2, none⟩ = some (.int .i64 y) := by go_simp
    have HB2 := Lib.hid (HB1.out.trans (hN2.mono (by first | exact Nat.le_refl _ | omega)))
    clear hc2 hf2 hN2
    have HR2_6 := Lib.hid (hI6)
    clear hI6
    have HSe2 := Lib.hid (H.out.below HB2.out)
    go_wp2_with fail
    refine (toDesk_any p q L _ _ HSe2.out hn).mono ?_
    rintro e w3 ⟨a8, c8, rfl, hI8, hb3⟩
    obtain ⟨hc3, hf3⟩ := bcell hb3
    have hz3 := hb3.size
    try simp at hz3
    have hN3 : Below w2.heap.size w2 w3 := by
      refine Below.trans ?_ (hb3.mono (by first | omega | (simp <;> omega)))
      (repeat (first | exact Below.refl _ _ | refine Below.setCell ?_ (by first | omega | (simp <;> omega)) _ | refine Below.alloc ?_ (by first | omega | (simp <;> omega)) _ | refine Below.drew ?_))
    have hn3 := hN3.size
    have hs3_0 : w.heap.size < w3.heap.size := by omega
    have hs3_1 : w.heap.size + 1 < w3.heap.size := by omega
    have hs3_2 : b6 < w3.heap.size := by omega
    have kb3_0_0 : w3.cell? ⟨w.heap.size, 0, none⟩ = some (.int .i64 p) := by go_simp
    have kb3_0_1 : w3.cell? ⟨w.heap.size, 1, none⟩ = some (.int .i64 q) := by go_simp
    have kb3_0_2 : w3.cell? ⟨w.heap.size, 2, none⟩ = some (.slice a L.length cap) := by go_simp
    have kb3_1_0 : w3.cell? ⟨w.heap.size + 1, 0, none⟩ = some (.int .i64 k) := by go_simp
    have kb3_1_1 : w3.cell? ⟨w.heap.size + 1, 1, none⟩ = some (.int .i64 x) := by go_simp
    have kb3_1_2 : w3.cell? ⟨w.heap.size + 1, 2, none⟩ = some (.int .i64 y) := by go_simp
    have kb3_2_0 : w3.cell? ⟨b6, 0, none⟩ = some (.int .i64 rp) := by go_simp
    have kb3_2_1 : w3.cell? ⟨b6, 1, none⟩ = some (.int .i64 rq) := by go_simp
    have kb3_2_2 : w3.cell? ⟨b6, 2, none⟩ = some (.slice a6 R.length c6) := by go_simp
    have HB3 := Lib.hid (HB2.out.trans (hN3.mono (by first | exact Nat.le_refl _ | omega)))
    have HR3_6 := Lib.hid (HR2_6.out.below hN3 (by first | exact Nat.le_refl _ | omega))
    try dsimp only at hI8
    try dsimp only
    clear hc3 hf3 hb3 hN3 hz3
    have HR3_8 := Lib.hid (hI8)
    clear hI8
    go_wp2_with fail
    refine region_namedD ?_
    intro w4 hw4
    have hN4 : Below w3.heap.size w3 w4 := by
      rw [hw4]
      (repeat (first | exact Below.refl _ _ | refine Below.setCell ?_ (by first | omega | (simp <;> omega)) _ | refine Below.alloc ?_ (by first | omega | (simp <;> omega)) _ | refine Below.drew ?_))
    have hz4 : w4.heap.size = _ := congrArg (fun W : World => W.heap.size) hw4
    try simp at hz4
    have hn4 := hN4.size
    have hs4_0 : w.heap.size < w4.heap.size := by omega
    have hs4_1 : w.heap.size + 1 < w4.heap.size := by omega
    have hs4_2 : b6 < w4.heap.size := by omega
    have hs4_3 : w3.heap.size < w4.heap.size := by omega
    have kb4_0_0 : w4.cell? ⟨w.heap.size, 0, none⟩ = some (.int .i64 p) := by rw [hw4]; go_simp
    have kb4_0_1 : w4.cell? ⟨w.heap.size, 1, none⟩ = some (.int .i64 q) := by rw [hw4]; go_simp
    have kb4_0_2 : w4.cell? ⟨w.heap.size, 2, none⟩ = some (.slice a L.length cap) := by rw [hw4]; go_simp
    have kb4_1_0 : w4.cell? ⟨w.heap.size + 1, 0, none⟩ = some (.int .i64 k) := by rw [hw4]; go_simp
    have kb4_1_1 : w4.cell? ⟨w.heap.size + 1, 1, none⟩ = some (.int .i64 x) := by rw [hw4]; go_simp
    have kb4_1_2 : w4.cell? ⟨w.heap.size + 1, 2, none⟩ = some (.int .i64 y) := by rw [hw4]; go_simp
    have kb4_2_0 : w4.cell? ⟨b6, 0, none⟩ = some (.int .i64 rp) := by rw [hw4]; go_simp
    have kb4_2_1 : w4.cell? ⟨b6, 1, none⟩ = some (.int .i64 rq) := by rw [hw4]; go_simp
    have kb4_2_2 : w4.cell? ⟨b6, 2, none⟩ = some (.slice a6 R.length c6) := by rw [hw4]; go_simp
    have kb4_3_0 : w4.cell? ⟨w3.heap.size, 0, none⟩ = some (.int .i64 p) := by rw [hw4]; go_simp
    have kb4_3_1 : w4.cell? ⟨w3.heap.size, 1, none⟩ = some (.int .i64 q) := by rw [hw4]; go_simp
    have kb4_3_2 : w4.cell? ⟨w3.heap.size, 2, none⟩ = some (.slice a8 L.length c8) := by rw [hw4]; go_simp
    have HB4 := Lib.hid (HB3.out.trans (hN4.mono (by first | exact Nat.le_refl _ | omega)))
    have HR4_6 := Lib.hid (HR3_6.out.below hN4 (by first | exact Nat.le_refl _ | omega))
    have HR4_8 := Lib.hid (HR3_8.out.below hN4 (by first | exact Nat.le_refl _ | omega))
    clear hw4 hN4 hz4
    go_wp2_with fail
    go_cut [9, 10] from 21 (fun s_ t_ wx => ∃ (b5 B5 C5 : Nat) (a5 : Option Addr) (c5 : Nat), s_ = .pointer (some ⟨b5, 0, none⟩) ∧ t_ = .bool ok ∧ (w4.heap.size ≤ b5 ∧ b5 < wx.heap.size) ∧ (wx.cell? ⟨b5, 0, none⟩ = some (.int .i64 rp) ∧ wx.cell? ⟨b5, 1, none⟩ = some (.int .i64 rq) ∧ wx.cell? ⟨b5, 2, none⟩ = some (.slice a5 R.length c5)) ∧ IsPairs B5 C5 wx (.slice a5 R.length c5) R ∧ (w4.heap.size ≤ B5 ∧ C5 ≤ wx.heap.size ∧ (b5 < B5 ∨ C5 ≤ b5)) ∧ Below w4.heap.size w4 wx)
    case first =>
      go_region_held3 (fun W_ => W_.cell? ⟨w3.heap.size, 0, none⟩ = some (.int .i64 p) ∧ W_.cell? ⟨w3.heap.size, 1, none⟩ = some (.int .i64 q) ∧ W_.cell? ⟨w3.heap.size, 2, none⟩ = some (.slice a8 L.length c8) ∧ W_.cell? ⟨w.heap.size + 1, 0, none⟩ = some (.int .i64 k) ∧ W_.cell? ⟨w.heap.size + 1, 1, none⟩ = some (.int .i64 x) ∧ W_.cell? ⟨w.heap.size + 1, 2, none⟩ = some (.int .i64 y))
        ((go_split_ands; refine ⟨?_, ?_, ?_, ?_, ?_, ?_⟩ <;> (repeat (first | with_reducible assumption | with_reducible refine cell_alloc_is _ ?_ | with_reducible refine cell_drew_is ?_ | with_reducible refine cell_set_is ?_ ?_ | omega)); done))
        ((first | (go_at_call 34; refine (toDeed_any k x y _).mono ?_; rintro e w_3 ⟨rfl, hb_3⟩; obtain ⟨hc_3, hf_3⟩ := bcell hb_3; have hz_3 := hb_3.size; (try simp at hz_3); have kx0 := (hb_3.cell (p := ⟨w3.heap.size, 0, none⟩) (by first | omega | (simp <;> omega))).trans (show _ = some (.int .i64 p) by (repeat (first | with_reducible assumption | with_reducible refine cell_alloc_is _ ?_ | with_reducible refine cell_drew_is ?_ | with_reducible refine cell_set_is ?_ ?_ | omega))); have kx1 := (hb_3.cell (p := ⟨w3.heap.size, 1, none⟩) (by first | omega | (simp <;> omega))).trans (show _ = some (.int .i64 q) by (repeat (first | with_reducible assumption | with_reducible refine cell_alloc_is _ ?_ | with_reducible refine cell_drew_is ?_ | with_reducible refine cell_set_is ?_ ?_ | omega))); have kx2 := (hb_3.cell (p := ⟨w3.heap.size, 2, none⟩) (by first | omega | (simp <;> omega))).trans (show _ = some (.slice a8 L.length c8) by (repeat (first | with_reducible assumption | with_reducible refine cell_alloc_is _ ?_ | with_reducible refine cell_drew_is ?_ | with_reducible refine cell_set_is ?_ ?_ | omega))); have kx3 := (hb_3.cell (p := ⟨w.heap.size + 1, 0, none⟩) (by first | omega | (simp <;> omega))).trans (show _ = some (.int .i64 k) by (repeat (first | with_reducible assumption | with_reducible refine cell_alloc_is _ ?_ | with_reducible refine cell_drew_is ?_ | with_reducible refine cell_set_is ?_ ?_ | omega))); have kx4 := (hb_3.cell (p := ⟨w.heap.size + 1, 1, none⟩) (by first | omega | (simp <;> omega))).trans (show _ = some (.int .i64 x) by (repeat (first | with_reducible assumption | with_reducible refine cell_alloc_is _ ?_ | with_reducible refine cell_drew_is ?_ | with_reducible refine cell_set_is ?_ ?_ | omega))); have kx5 := (hb_3.cell (p := ⟨w.heap.size + 1, 2, none⟩) (by first | omega | (simp <;> omega))).trans (show _ = some (.int .i64 y) by (repeat (first | with_reducible assumption | with_reducible refine cell_alloc_is _ ?_ | with_reducible refine cell_drew_is ?_ | with_reducible refine cell_set_is ?_ ?_ | omega))); (try have hq_3_w4 : w4.heap.size < w_3.heap.size := by omega); (try have hq_3_w_4 : w_4.heap.size < w_3.heap.size := by omega)) | (go_at_call 22; refine (HI.out _ _ _ _ _ (HR4_8.out.below (show Below w4.heap.size w4 _ by (repeat (first | exact Below.refl _ _ | refine Below.setCell ?_ (by first | omega | (simp <;> omega)) _ | refine Below.alloc ?_ (by first | omega | (simp <;> omega)) _ | refine Below.drew ?_ | refine Below.trans ?_ (Below.mono (by assumption) (by first | omega | (simp <;> omega)))))) (by omega))).mono ?_; rintro e w_4 ⟨a4, c4, rfl, hI4, hb_4⟩; obtain ⟨hc_4, hf_4⟩ := bcell hb_4; have hz_4 := hb_4.size; (try simp at hz_4); have kx0 := (hb_4.cell (p := ⟨w3.heap.size, 0, none⟩) (by first | omega | (simp <;> omega))).trans (show _ = some (.int .i64 p) by (repeat (first | with_reducible assumption | with_reducible refine cell_alloc_is _ ?_ | with_reducible refine cell_drew_is ?_ | with_reducible refine cell_set_is ?_ ?_ | omega))); have kx1 := (hb_4.cell (p := ⟨w3.heap.size, 1, none⟩) (by first | omega | (simp <;> omega))).trans (show _ = some (.int .i64 q) by (repeat (first | with_reducible assumption | with_reducible refine cell_alloc_is _ ?_ | with_reducible refine cell_drew_is ?_ | with_reducible refine cell_set_is ?_ ?_ | omega))); have kx2 := (hb_4.cell (p := ⟨w3.heap.size, 2, none⟩) (by first | omega | (simp <;> omega))).trans (show _ = some (.slice a8 L.length c8) by (repeat (first | with_reducible assumption | with_reducible refine cell_alloc_is _ ?_ | with_reducible refine cell_drew_is ?_ | with_reducible refine cell_set_is ?_ ?_ | omega))); have kx3 := (hb_4.cell (p := ⟨w.heap.size + 1, 0, none⟩) (by first | omega | (simp <;> omega))).trans (show _ = some (.int .i64 k) by (repeat (first | with_reducible assumption | with_reducible refine cell_alloc_is _ ?_ | with_reducible refine cell_drew_is ?_ | with_reducible refine cell_set_is ?_ ?_ | omega))); have kx4 := (hb_4.cell (p := ⟨w.heap.size + 1, 1, none⟩) (by first | omega | (simp <;> omega))).trans (show _ = some (.int .i64 x) by (repeat (first | with_reducible assumption | with_reducible refine cell_alloc_is _ ?_ | with_reducible refine cell_drew_is ?_ | with_reducible refine cell_set_is ?_ ?_ | omega))); have kx5 := (hb_4.cell (p := ⟨w.heap.size + 1, 2, none⟩) (by first | omega | (simp <;> omega))).trans (show _ = some (.int .i64 y) by (repeat (first | with_reducible assumption | with_reducible refine cell_alloc_is _ ?_ | with_reducible refine cell_drew_is ?_ | with_reducible refine cell_set_is ?_ ?_ | omega))); obtain ⟨B4, hB4, hI5⟩ := (⟨_, rfl, hI4⟩ : ∃ B, B = _ ∧ IsPairs B w_4.heap.size w_4 (.slice a4 R.length c4) R); (try simp at hB4); (try have hq_4_w4 : w4.heap.size < w_4.heap.size := by omega); (try have hq_4_w_3 : w_3.heap.size < w_4.heap.size := by omega)) | fail))
      all_goals (go_wp2_with fail; go_meet)
      all_goals
        case rel =>
          refine ⟨_, B4, w_4.heap.size, a4, c4, rfl, rfl, ⟨?_, ?_⟩, ⟨?_, ?_, ?_⟩, ?_, ⟨?_, ?_, ?_⟩, ?_⟩
          · first | omega | (simp <;> omega)
          · first | omega | (simp <;> omega)
          · go_simp
          · go_simp
          · go_simp
          · (repeat (first | exact hI5 | refine IsPairs.set2 ?_ (by first | omega | (simp <;> omega)) _ | refine IsPairs.allocd ?_ _))
          · first | omega | (simp <;> omega)
          · first | omega | (simp <;> omega)
          · first | omega | (simp <;> omega)
          · (repeat (first | exact Below.refl _ _ | refine Below.setCell ?_ (by first | omega | (simp <;> omega)) _ | refine Below.alloc ?_ (by first | omega | (simp <;> omega)) _ | refine Below.drew ?_ | refine Below.trans ?_ (Below.mono (by assumption) (by first | omega | (simp <;> omega)))))
    rename World => w5
    obtain ⟨b9, B9, C9, a9, c9, rfl, rfl, ⟨hb9a, hb9b⟩, ⟨kq9_0, kq9_1, kq9_2⟩, hI9, ⟨hB9, hC9, hD9⟩, hN5⟩ := hcut
    obtain ⟨hc5, hf5⟩ := bcell hN5
    have hn5 := hN5.size
    have hs5_0 : w.heap.size < w5.heap.size := by omega
    have hs5_1 : w.heap.size + 1 < w5.heap.size := by omega
    have hs5_2 : b6 < w5.heap.size := by omega
    have hs5_3 : w3.heap.size < w5.heap.size := by omega
    have kb5_0_0 : w5.cell? ⟨w.heap.size, 0, none⟩ = some (.int .i64 p) := by go_simp
    have kb5_0_1 : w5.cell? ⟨w.heap.size, 1, none⟩ = some (.int .i64 q) := by go_simp
    have kb5_0_2 : w5.cell? ⟨w.heap.size, 2, none⟩ = some (.slice a L.length cap) := by go_simp
    have kb5_1_0 : w5.cell? ⟨w.heap.size + 1, 0, none⟩ = some (.int .i64 k) := by go_simp
    have kb5_1_1 : w5.cell? ⟨w.heap.size + 1, 1, none⟩ = some (.int .i64 x) := by go_simp
    have kb5_1_2 : w5.cell? ⟨w.heap.size + 1, 2, none⟩ = some (.int .i64 y) := by go_simp
    have kb5_2_0 : w5.cell? ⟨b6, 0, none⟩ = some (.int .i64 rp) := by go_simp
    have kb5_2_1 : w5.cell? ⟨b6, 1, none⟩ = some (.int .i64 rq) := by go_simp
    have kb5_2_2 : w5.cell? ⟨b6, 2, none⟩ = some (.slice a6 R.length c6) := by go_simp
    have kb5_3_0 : w5.cell? ⟨w3.heap.size, 0, none⟩ = some (.int .i64 p) := by go_simp
    have kb5_3_1 : w5.cell? ⟨w3.heap.size, 1, none⟩ = some (.int .i64 q) := by go_simp
    have kb5_3_2 : w5.cell? ⟨w3.heap.size, 2, none⟩ = some (.slice a8 L.length c8) := by go_simp
    have HB5 := Lib.hid (HB4.out.trans (hN5.mono (by first | exact Nat.le_refl _ | omega)))
    have HR5_6 := Lib.hid (HR4_6.out.below hN5 (by first | exact Nat.le_refl _ | omega))
    have HR5_8 := Lib.hid (HR4_8.out.below hN5 (by first | exact Nat.le_refl _ | omega))
    clear hc5 hf5 hN5
    have HR5_9 := Lib.hid (hI9)
    clear hI9
    go_wp2_with fail
    refine (eqDesk_same _ _ _ _ rp rq _ _ R _ HR5_9.out HR5_6.out hRn).mono ?_
    rintro e w6 ⟨rfl, hb6⟩
    obtain ⟨hc6, hf6⟩ := bcell hb6
    have hz6 := hb6.size
    try simp at hz6
    have hN6 : Below w5.heap.size w5 w6 := by
      refine Below.trans ?_ (hb6.mono (by first | omega | (simp <;> omega)))
      (repeat (first | exact Below.refl _ _ | refine Below.setCell ?_ (by first | omega | (simp <;> omega)) _ | refine Below.alloc ?_ (by first | omega | (simp <;> omega)) _ | refine Below.drew ?_))
    have hn6 := hN6.size
    have hs6_0 : w.heap.size < w6.heap.size := by omega
    have hs6_1 : w.heap.size + 1 < w6.heap.size := by omega
    have hs6_2 : b6 < w6.heap.size := by omega
    have hs6_3 : w3.heap.size < w6.heap.size := by omega
    have hs6_4 : b9 < w6.heap.size := by omega
    have kb6_0_0 : w6.cell? ⟨w.heap.size, 0, none⟩ = some (.int .i64 p) := by go_simp
    have kb6_0_1 : w6.cell? ⟨w.heap.size, 1, none⟩ = some (.int .i64 q) := by go_simp
    have kb6_0_2 : w6.cell? ⟨w.heap.size, 2, none⟩ = some (.slice a L.length cap) := by go_simp
    have kb6_1_0 : w6.cell? ⟨w.heap.size + 1, 0, none⟩ = some (.int .i64 k) := by go_simp
    have kb6_1_1 : w6.cell? ⟨w.heap.size + 1, 1, none⟩ = some (.int .i64 x) := by go_simp
    have kb6_1_2 : w6.cell? ⟨w.heap.size + 1, 2, none⟩ = some (.int .i64 y) := by go_simp
    have kb6_2_0 : w6.cell? ⟨b6, 0, none⟩ = some (.int .i64 rp) := by go_simp
    have kb6_2_1 : w6.cell? ⟨b6, 1, none⟩ = some (.int .i64 rq) := by go_simp
    have kb6_2_2 : w6.cell? ⟨b6, 2, none⟩ = some (.slice a6 R.length c6) := by go_simp
    have kb6_3_0 : w6.cell? ⟨w3.heap.size, 0, none⟩ = some (.int .i64 p) := by go_simp
    have kb6_3_1 : w6.cell? ⟨w3.heap.size, 1, none⟩ = some (.int .i64 q) := by go_simp
    have kb6_3_2 : w6.cell? ⟨w3.heap.size, 2, none⟩ = some (.slice a8 L.length c8) := by go_simp
    have kb6_4_0 : w6.cell? ⟨b9, 0, none⟩ = some (.int .i64 rp) := by go_simp
    have kb6_4_1 : w6.cell? ⟨b9, 1, none⟩ = some (.int .i64 rq) := by go_simp
    have kb6_4_2 : w6.cell? ⟨b9, 2, none⟩ = some (.slice a9 R.length c9) := by go_simp
    have HB6 := Lib.hid (HB5.out.trans (hN6.mono (by first | exact Nat.le_refl _ | omega)))
    have HR6_6 := Lib.hid (HR5_6.out.below hN6 (by first | exact Nat.le_refl _ | omega))
    have HR6_8 := Lib.hid (HR5_8.out.below hN6 (by first | exact Nat.le_refl _ | omega))
    have HR6_9 := Lib.hid (HR5_9.out.below hN6 (by first | exact Nat.le_refl _ | omega))
    clear hc6 hf6 hb6 hN6 hz6
    have HSe3 := Lib.hid (H.out.below HB6.out)
    go_wp2_with fail
    go_cut [51] from 21 (fun s_ wx => s_ = .bool false ∧ Below w6.heap.size w6 wx)
    case first =>
      go_region_held3 (fun W_ => W_.cell? ⟨w3.heap.size, 0, none⟩ = some (.int .i64 p) ∧ W_.cell? ⟨w3.heap.size, 1, none⟩ = some (.int .i64 q) ∧ W_.cell? ⟨w3.heap.size, 2, none⟩ = some (.slice a8 L.length c8) ∧ W_.cell? ⟨w.heap.size, 0, none⟩ = some (.int .i64 p) ∧ W_.cell? ⟨w.heap.size, 1, none⟩ = some (.int .i64 q) ∧ W_.cell? ⟨w.heap.size, 2, none⟩ = some (.slice a L.length cap))
        ((go_split_ands; refine ⟨?_, ?_, ?_, ?_, ?_, ?_⟩ <;> (repeat (first | with_reducible assumption | with_reducible refine cell_alloc_is _ ?_ | with_reducible refine cell_drew_is ?_ | with_reducible refine cell_set_is ?_ ?_ | omega)); done))
        ((first | (go_at_call 29; refine (toDesk_any p q L _ _ (HSe3.out.below (show Below w6.heap.size w6 _ by (repeat (first | exact Below.refl _ _ | refine Below.setCell ?_ (by first | omega | (simp <;> omega)) _ | refine Below.alloc ?_ (by first | omega | (simp <;> omega)) _ | refine Below.drew ?_ | refine Below.trans ?_ (Below.mono (by assumption) (by first | omega | (simp <;> omega))))))) hn).mono ?_; rintro e w_2 ⟨a2, c2, rfl, hI2, hb_2⟩; obtain ⟨hc_2, hf_2⟩ := bcell hb_2; have hz_2 := hb_2.size; (try simp at hz_2); have kx0 := (hb_2.cell (p := ⟨w3.heap.size, 0, none⟩) (by first | omega | (simp <;> omega))).trans (show _ = some (.int .i64 p) by (repeat (first | with_reducible assumption | with_reducible refine cell_alloc_is _ ?_ | with_reducible refine cell_drew_is ?_ | with_reducible refine cell_set_is ?_ ?_ | omega))); have kx1 := (hb_2.cell (p := ⟨w3.heap.size, 1, none⟩) (by first | omega | (simp <;> omega))).trans (show _ = some (.int .i64 q) by (repeat (first | with_reducible assumption | with_reducible refine cell_alloc_is _ ?_ | with_reducible refine cell_drew_is ?_ | with_reducible refine cell_set_is ?_ ?_ | omega))); have kx2 := (hb_2.cell (p := ⟨w3.heap.size, 2, none⟩) (by first | omega | (simp <;> omega))).trans (show _ = some (.slice a8 L.length c8) by (repeat (first | with_reducible assumption | with_reducible refine cell_alloc_is _ ?_ | with_reducible refine cell_drew_is ?_ | with_reducible refine cell_set_is ?_ ?_ | omega))); have kx3 := (hb_2.cell (p := ⟨w.heap.size, 0, none⟩) (by first | omega | (simp <;> omega))).trans (show _ = some (.int .i64 p) by (repeat (first | with_reducible assumption | with_reducible refine cell_alloc_is _ ?_ | with_reducible refine cell_drew_is ?_ | with_reducible refine cell_set_is ?_ ?_ | omega))); have kx4 := (hb_2.cell (p := ⟨w.heap.size, 1, none⟩) (by first | omega | (simp <;> omega))).trans (show _ = some (.int .i64 q) by (repeat (first | with_reducible assumption | with_reducible refine cell_alloc_is _ ?_ | with_reducible refine cell_drew_is ?_ | with_reducible refine cell_set_is ?_ ?_ | omega))); have kx5 := (hb_2.cell (p := ⟨w.heap.size, 2, none⟩) (by first | omega | (simp <;> omega))).trans (show _ = some (.slice a L.length cap) by (repeat (first | with_reducible assumption | with_reducible refine cell_alloc_is _ ?_ | with_reducible refine cell_drew_is ?_ | with_reducible refine cell_set_is ?_ ?_ | omega))); (dsimp only at hI2 ⊢); (try have hq_2_w6 : w6.heap.size < w_2.heap.size := by omega); (try have hq_2_w_5 : w_5.heap.size < w_2.heap.size := by omega)) | (go_at_call 30; refine (eqDesk_same _ _ _ _ p q _ _ L _ (HR6_8.out.below (show Below w6.heap.size w6 _ by (repeat (first | exact Below.refl _ _ | refine Below.setCell ?_ (by first | omega | (simp <;> omega)) _ | refine Below.alloc ?_ (by first | omega | (simp <;> omega)) _ | refine Below.drew ?_ | refine Below.trans ?_ (Below.mono (by assumption) (by first | omega | (simp <;> omega)))))) (by omega)) (hI2.below (show Below w_2.heap.size w_2 _ by (repeat (first | exact Below.refl _ _ | refine Below.setCell ?_ (by first | omega | (simp <;> omega)) _ | refine Below.alloc ?_ (by first | omega | (simp <;> omega)) _ | refine Below.drew ?_ | refine Below.trans ?_ (Below.mono (by assumption) (by first | omega | (simp <;> omega)))))) (Nat.le_refl _)) hn).mono ?_; rintro e w_5 ⟨rfl, hb_5⟩; obtain ⟨hc_5, hf_5⟩ := bcell hb_5; have hz_5 := hb_5.size; (try simp at hz_5); have kx0 := (hb_5.cell (p := ⟨w3.heap.size, 0, none⟩) (by first | omega | (simp <;> omega))).trans (show _ = some (.int .i64 p) by (repeat (first | with_reducible assumption | with_reducible refine cell_alloc_is _ ?_ | with_reducible refine cell_drew_is ?_ | with_reducible refine cell_set_is ?_ ?_ | omega))); have kx1 := (hb_5.cell (p := ⟨w3.heap.size, 1, none⟩) (by first | omega | (simp <;> omega))).trans (show _ = some (.int .i64 q) by (repeat (first | with_reducible assumption | with_reducible refine cell_alloc_is _ ?_ | with_reducible refine cell_drew_is ?_ | with_reducible refine cell_set_is ?_ ?_ | omega))); have kx2 := (hb_5.cell (p := ⟨w3.heap.size, 2, none⟩) (by first | omega | (simp <;> omega))).trans (show _ = some (.slice a8 L.length c8) by (repeat (first | with_reducible assumption | with_reducible refine cell_alloc_is _ ?_ | with_reducible refine cell_drew_is ?_ | with_reducible refine cell_set_is ?_ ?_ | omega))); have kx3 := (hb_5.cell (p := ⟨w.heap.size, 0, none⟩) (by first | omega | (simp <;> omega))).trans (show _ = some (.int .i64 p) by (repeat (first | with_reducible assumption | with_reducible refine cell_alloc_is _ ?_ | with_reducible refine cell_drew_is ?_ | with_reducible refine cell_set_is ?_ ?_ | omega))); have kx4 := (hb_5.cell (p := ⟨w.heap.size, 1, none⟩) (by first | omega | (simp <;> omega))).trans (show _ = some (.int .i64 q) by (repeat (first | with_reducible assumption | with_reducible refine cell_alloc_is _ ?_ | with_reducible refine cell_drew_is ?_ | with_reducible refine cell_set_is ?_ ?_ | omega))); have kx5 := (hb_5.cell (p := ⟨w.heap.size, 2, none⟩) (by first | omega | (simp <;> omega))).trans (show _ = some (.slice a L.length cap) by (repeat (first | with_reducible assumption | with_reducible refine cell_alloc_is _ ?_ | with_reducible refine cell_drew_is ?_ | with_reducible refine cell_set_is ?_ ?_ | omega))); (try have hq_5_w6 : w6.heap.size < w_5.heap.size := by omega); (try have hq_5_w_2 : w_2.heap.size < w_5.heap.size := by omega)) | fail))
      all_goals (go_wp2_with fail; go_meet)
      all_goals
        case rel => exact ⟨rfl, by (repeat (first | exact Below.refl _ _ | refine Below.setCell ?_ (by first | omega | (simp <;> omega)) _ | refine Below.alloc ?_ (by first | omega | (simp <;> omega)) _ | refine Below.drew ?_ | refine Below.trans ?_ (Below.mono (by assumption) (by first | omega | (simp <;> omega)))))⟩
    rename World => w7
    obtain ⟨rfl, hN7⟩ := hcut
    obtain ⟨hc7, hf7⟩ := bcell hN7
    have hn7 := hN7.size
    have hs7_0 : w.heap.size < w7.heap.size := by omega
    have hs7_1 : w.heap.size + 1 < w7.heap.size := by omega
    have hs7_2 : b6 < w7.heap.size := by omega
    have hs7_3 : w3.heap.size < w7.heap.size := by omega
    have hs7_4 : b9 < w7.heap.size := by omega
    have kb7_0_0 : w7.cell? ⟨w.heap.size, 0, none⟩ = some (.int .i64 p) := by go_simp
    have kb7_0_1 : w7.cell? ⟨w.heap.size, 1, none⟩ = some (.int .i64 q) := by go_simp
    have kb7_0_2 : w7.cell? ⟨w.heap.size, 2, none⟩ = some (.slice a L.length cap) := by go_simp
    have kb7_1_0 : w7.cell? ⟨w.heap.size + 1, 0, none⟩ = some (.int .i64 k) := by go_simp
    have kb7_1_1 : w7.cell? ⟨w.heap.size + 1, 1, none⟩ = some (.int .i64 x) := by go_simp
    have kb7_1_2 : w7.cell? ⟨w.heap.size + 1, 2, none⟩ = some (.int .i64 y) := by go_simp
    have kb7_2_0 : w7.cell? ⟨b6, 0, none⟩ = some (.int .i64 rp) := by go_simp
    have kb7_2_1 : w7.cell? ⟨b6, 1, none⟩ = some (.int .i64 rq) := by go_simp
    have kb7_2_2 : w7.cell? ⟨b6, 2, none⟩ = some (.slice a6 R.length c6) := by go_simp
    have kb7_3_0 : w7.cell? ⟨w3.heap.size, 0, none⟩ = some (.int .i64 p) := by go_simp
    have kb7_3_1 : w7.cell? ⟨w3.heap.size, 1, none⟩ = some (.int .i64 q) := by go_simp
    have kb7_3_2 : w7.cell? ⟨w3.heap.size, 2, none⟩ = some (.slice a8 L.length c8) := by go_simp
    have kb7_4_0 : w7.cell? ⟨b9, 0, none⟩ = some (.int .i64 rp) := by go_simp
    have kb7_4_1 : w7.cell? ⟨b9, 1, none⟩ = some (.int .i64 rq) := by go_simp
    have kb7_4_2 : w7.cell? ⟨b9, 2, none⟩ = some (.slice a9 R.length c9) := by go_simp
    have HB7 := Lib.hid (HB6.out.trans (hN7.mono (by first | exact Nat.le_refl _ | omega)))
    have HR7_6 := Lib.hid (HR6_6.out.below hN7 (by first | exact Nat.le_refl _ | omega))
    have HR7_8 := Lib.hid (HR6_8.out.below hN7 (by first | exact Nat.le_refl _ | omega))
    have HR7_9 := Lib.hid (HR6_9.out.below hN7 (by first | exact Nat.le_refl _ | omega))
    clear hc7 hf7 hN7
    go_wp2_with fail
    refine (markDesk_any _ _ p q _ L 1 _ HR7_8.out hn (by omega) (by omega)).mono ?_
    rintro e w8 ⟨rfl, hI8, hM8⟩
    have hn8 := hM8.size
    have hs8_0 : w.heap.size < w8.heap.size := by omega
    have hs8_1 : w.heap.size + 1 < w8.heap.size := by omega
    have hs8_2 : b6 < w8.heap.size := by omega
    have hs8_3 : w3.heap.size < w8.heap.size := by omega
    have hs8_4 : b9 < w8.heap.size := by omega
    have kb8_0_0 : w8.cell? ⟨w.heap.size, 0, none⟩ = some (.int .i64 p) := (hM8.cell (by first | assumption | omega) (by omega) 0).trans (by with_reducible assumption)
    have kb8_0_1 : w8.cell? ⟨w.heap.size, 1, none⟩ = some (.int .i64 q) := (hM8.cell (by first | assumption | omega) (by omega) 1).trans (by with_reducible assumption)
    have kb8_0_2 : w8.cell? ⟨w.heap.size, 2, none⟩ = some (.slice a L.length cap) := (hM8.cell (by first | assumption | omega) (by omega) 2).trans (by with_reducible assumption)
    have kb8_1_0 : w8.cell? ⟨w.heap.size + 1, 0, none⟩ = some (.int .i64 k) := (hM8.cell (by first | assumption | omega) (by omega) 0).trans (by with_reducible assumption)
    have kb8_1_1 : w8.cell? ⟨w.heap.size + 1, 1, none⟩ = some (.int .i64 x) := (hM8.cell (by first | assumption | omega) (by omega) 1).trans (by with_reducible assumption)
    have kb8_1_2 : w8.cell? ⟨w.heap.size + 1, 2, none⟩ = some (.int .i64 y) := (hM8.cell (by first | assumption | omega) (by omega) 2).trans (by with_reducible assumption)
    have kb8_2_0 : w8.cell? ⟨b6, 0, none⟩ = some (.int .i64 rp) := (hM8.cell (by first | assumption | omega) (by omega) 0).trans (by with_reducible assumption)
    have kb8_2_1 : w8.cell? ⟨b6, 1, none⟩ = some (.int .i64 rq) := (hM8.cell (by first | assumption | omega) (by omega) 1).trans (by with_reducible assumption)
    have kb8_2_2 : w8.cell? ⟨b6, 2, none⟩ = some (.slice a6 R.length c6) := (hM8.cell (by first | assumption | omega) (by omega) 2).trans (by with_reducible assumption)
    have kb8_3_0 : w8.cell? ⟨w3.heap.size, 0, none⟩ = some (.int .i64 p) := (hM8.cell (by first | assumption | omega) (by omega) 0).trans (by with_reducible assumption)
    have kb8_3_1 : w8.cell? ⟨w3.heap.size, 1, none⟩ = some (.int .i64 q) := (hM8.cell (by first | assumption | omega) (by omega) 1).trans (by with_reducible assumption)
    have kb8_3_2 : w8.cell? ⟨w3.heap.size, 2, none⟩ = some (.slice a8 L.length c8) := (hM8.cell (by first | assumption | omega) (by omega) 2).trans (by with_reducible assumption)
    have kb8_4_0 : w8.cell? ⟨b9, 0, none⟩ = some (.int .i64 rp) := (hM8.cell (by first | assumption | omega) (by omega) 0).trans (by with_reducible assumption)
    have kb8_4_1 : w8.cell? ⟨b9, 1, none⟩ = some (.int .i64 rq) := (hM8.cell (by first | assumption | omega) (by omega) 1).trans (by with_reducible assumption)
    have kb8_4_2 : w8.cell? ⟨b9, 2, none⟩ = some (.slice a9 R.length c9) := (hM8.cell (by first | assumption | omega) (by omega) 2).trans (by with_reducible assumption)
    have HB8 := Lib.hid (below_markedS HB7.out hM8 (by omega) (by omega))
    have HR8_6 := Lib.hid (HR7_6.out.markedS2 hM8 (by omega))
    have HR8_9 := Lib.hid (HR7_9.out.markedS2 hM8 (by omega))
    clear hI8 hM8
    go_wp2_with fail
    refine (eqDesk_same _ _ _ _ rp rq _ _ R _ HR8_9.out HR8_6.out hRn).mono ?_
    rintro e w9 ⟨rfl, hb9⟩
    obtain ⟨hc9, hf9⟩ := bcell hb9
    have hz9 := hb9.size
    try simp at hz9
    have hN9 : Below w8.heap.size w8 w9 := by
      refine Below.trans ?_ (hb9.mono (by first | omega | (simp <;> omega)))
      (repeat (first | exact Below.refl _ _ | refine Below.setCell ?_ (by first | omega | (simp <;> omega)) _ | refine Below.alloc ?_ (by first | omega | (simp <;> omega)) _ | refine Below.drew ?_))
    have hn9 := hN9.size
    have hs9_0 : w.heap.size < w9.heap.size := by omega
    have hs9_1 : w.heap.size + 1 < w9.heap.size := by omega
    have hs9_2 : b6 < w9.heap.size := by omega
    have hs9_3 : w3.heap.size < w9.heap.size := by omega
    have hs9_4 : b9 < w9.heap.size := by omega
    have kb9_0_0 : w9.cell? ⟨w.heap.size, 0, none⟩ = some (.int .i64 p) := by go_simp
    have kb9_0_1 : w9.cell? ⟨w.heap.size, 1, none⟩ = some (.int .i64 q) := by go_simp
    have kb9_0_2 : w9.cell? ⟨w.heap.size, 2, none⟩ = some (.slice a L.length cap) := by go_simp
    have kb9_1_0 : w9.cell? ⟨w.heap.size + 1, 0, none⟩ = some (.int .i64 k) := by go_simp
    have kb9_1_1 : w9.cell? ⟨w.heap.size + 1, 1, none⟩ = some (.int .i64 x) := by go_simp
    have kb9_1_2 : w9.cell? ⟨w.heap.size + 1, 2, none⟩ = some (.int .i64 y) := by go_simp
    have kb9_2_0 : w9.cell? ⟨b6, 0, none⟩ = some (.int .i64 rp) := by go_simp
    have kb9_2_1 : w9.cell? ⟨b6, 1, none⟩ = some (.int .i64 rq) := by go_simp
    have kb9_2_2 : w9.cell? ⟨b6, 2, none⟩ = some (.slice a6 R.length c6) := by go_simp
    have kb9_3_0 : w9.cell? ⟨w3.heap.size, 0, none⟩ = some (.int .i64 p) := by go_simp
    have kb9_3_1 : w9.cell? ⟨w3.heap.size, 1, none⟩ = some (.int .i64 q) := by go_simp
    have kb9_3_2 : w9.cell? ⟨w3.heap.size, 2, none⟩ = some (.slice a8 L.length c8) := by go_simp
    have kb9_4_0 : w9.cell? ⟨b9, 0, none⟩ = some (.int .i64 rp) := by go_simp
    have kb9_4_1 : w9.cell? ⟨b9, 1, none⟩ = some (.int .i64 rq) := by go_simp
    have kb9_4_2 : w9.cell? ⟨b9, 2, none⟩ = some (.slice a9 R.length c9) := by go_simp
    have HB9 := Lib.hid (HB8.out.trans (hN9.mono (by first | exact Nat.le_refl _ | omega)))
    have HR9_6 := Lib.hid (HR8_6.out.below hN9 (by first | exact Nat.le_refl _ | omega))
    have HR9_9 := Lib.hid (HR8_9.out.below hN9 (by first | exact Nat.le_refl _ | omega))
    clear hc9 hf9 hb9 hN9 hz9
    go_wp2_with fail
    refine (markDesk_any _ _ rp rq _ R 1 _ HR9_9.out hRn (by omega) (by omega)).mono ?_
    rintro e w10 ⟨rfl, hI10, hM10⟩
    have hn10 := hM10.size
    have hs10_0 : w.heap.size < w10.heap.size := by omega
    have hs10_1 : w.heap.size + 1 < w10.heap.size := by omega
    have hs10_2 : b6 < w10.heap.size := by omega
    have hs10_3 : w3.heap.size < w10.heap.size := by omega
    have hs10_4 : b9 < w10.heap.size := by omega
    have kb10_0_0 : w10.cell? ⟨w.heap.size, 0, none⟩ = some (.int .i64 p) := (hM10.cell (by first | assumption | omega) (by omega) 0).trans (by with_reducible assumption)
    have kb10_0_1 : w10.cell? ⟨w.heap.size, 1, none⟩ = some (.int .i64 q) := (hM10.cell (by first | assumption | omega) (by omega) 1).trans (by with_reducible assumption)
    have kb10_0_2 : w10.cell? ⟨w.heap.size, 2, none⟩ = some (.slice a L.length cap) := (hM10.cell (by first | assumption | omega) (by omega) 2).trans (by with_reducible assumption)
    have kb10_1_0 : w10.cell? ⟨w.heap.size + 1, 0, none⟩ = some (.int .i64 k) := (hM10.cell (by first | assumption | omega) (by omega) 0).trans (by with_reducible assumption)
    have kb10_1_1 : w10.cell? ⟨w.heap.size + 1, 1, none⟩ = some (.int .i64 x) := (hM10.cell (by first | assumption | omega) (by omega) 1).trans (by with_reducible assumption)
    have kb10_1_2 : w10.cell? ⟨w.heap.size + 1, 2, none⟩ = some (.int .i64 y) := (hM10.cell (by first | assumption | omega) (by omega) 2).trans (by with_reducible assumption)
    have kb10_2_0 : w10.cell? ⟨b6, 0, none⟩ = some (.int .i64 rp) := (hM10.cell (by first | assumption | omega) (by omega) 0).trans (by with_reducible assumption)
    have kb10_2_1 : w10.cell? ⟨b6, 1, none⟩ = some (.int .i64 rq) := (hM10.cell (by first | assumption | omega) (by omega) 1).trans (by with_reducible assumption)
    have kb10_2_2 : w10.cell? ⟨b6, 2, none⟩ = some (.slice a6 R.length c6) := (hM10.cell (by first | assumption | omega) (by omega) 2).trans (by with_reducible assumption)
    have kb10_3_0 : w10.cell? ⟨w3.heap.size, 0, none⟩ = some (.int .i64 p) := (hM10.cell (by first | assumption | omega) (by omega) 0).trans (by with_reducible assumption)
    have kb10_3_1 : w10.cell? ⟨w3.heap.size, 1, none⟩ = some (.int .i64 q) := (hM10.cell (by first | assumption | omega) (by omega) 1).trans (by with_reducible assumption)
    have kb10_3_2 : w10.cell? ⟨w3.heap.size, 2, none⟩ = some (.slice a8 L.length c8) := (hM10.cell (by first | assumption | omega) (by omega) 2).trans (by with_reducible assumption)
    have kb10_4_0 : w10.cell? ⟨b9, 0, none⟩ = some (.int .i64 rp) := (hM10.cell (by first | assumption | omega) (by omega) 0).trans (by with_reducible assumption)
    have kb10_4_1 : w10.cell? ⟨b9, 1, none⟩ = some (.int .i64 rq) := (hM10.cell (by first | assumption | omega) (by omega) 1).trans (by with_reducible assumption)
    have kb10_4_2 : w10.cell? ⟨b9, 2, none⟩ = some (.slice a9 R.length c9) := (hM10.cell (by first | assumption | omega) (by omega) 2).trans (by with_reducible assumption)
    have HB10 := Lib.hid (below_markedS HB9.out hM10 (by omega) (by omega))
    have HR10_6 := Lib.hid (HR9_6.out.markedS2 hM10 (by omega))
    have HR10_9 := Lib.hid hI10
    clear hI10 hM10
    go_wp2_with fail
    refine (heldDesk_any _ _ R.length rp rq _ 1 _ HR10_9.out hRn (by omega) (by omega)).mono ?_
    rintro e w11 ⟨rfl, hb11⟩
    obtain ⟨hc11, hf11⟩ := bcell hb11
    have hz11 := hb11.size
    try simp at hz11
    have hN11 : Below w10.heap.size w10 w11 := by
      refine Below.trans ?_ (hb11.mono (by first | omega | (simp <;> omega)))
      (repeat (first | exact Below.refl _ _ | refine Below.setCell ?_ (by first | omega | (simp <;> omega)) _ | refine Below.alloc ?_ (by first | omega | (simp <;> omega)) _ | refine Below.drew ?_))
    have hn11 := hN11.size
    have hs11_0 : w.heap.size < w11.heap.size := by omega
    have hs11_1 : w.heap.size + 1 < w11.heap.size := by omega
    have hs11_2 : b6 < w11.heap.size := by omega
    have hs11_3 : w3.heap.size < w11.heap.size := by omega
    have hs11_4 : b9 < w11.heap.size := by omega
    have kb11_0_0 : w11.cell? ⟨w.heap.size, 0, none⟩ = some (.int .i64 p) := by go_simp
    have kb11_0_1 : w11.cell? ⟨w.heap.size, 1, none⟩ = some (.int .i64 q) := by go_simp
    have kb11_0_2 : w11.cell? ⟨w.heap.size, 2, none⟩ = some (.slice a L.length cap) := by go_simp
    have kb11_1_0 : w11.cell? ⟨w.heap.size + 1, 0, none⟩ = some (.int .i64 k) := by go_simp
    have kb11_1_1 : w11.cell? ⟨w.heap.size + 1, 1, none⟩ = some (.int .i64 x) := by go_simp
    have kb11_1_2 : w11.cell? ⟨w.heap.size + 1, 2, none⟩ = some (.int .i64 y) := by go_simp
    have kb11_2_0 : w11.cell? ⟨b6, 0, none⟩ = some (.int .i64 rp) := by go_simp
    have kb11_2_1 : w11.cell? ⟨b6, 1, none⟩ = some (.int .i64 rq) := by go_simp
    have kb11_2_2 : w11.cell? ⟨b6, 2, none⟩ = some (.slice a6 R.length c6) := by go_simp
    have kb11_3_0 : w11.cell? ⟨w3.heap.size, 0, none⟩ = some (.int .i64 p) := by go_simp
    have kb11_3_1 : w11.cell? ⟨w3.heap.size, 1, none⟩ = some (.int .i64 q) := by go_simp
    have kb11_3_2 : w11.cell? ⟨w3.heap.size, 2, none⟩ = some (.slice a8 L.length c8) := by go_simp
    have kb11_4_0 : w11.cell? ⟨b9, 0, none⟩ = some (.int .i64 rp) := by go_simp
    have kb11_4_1 : w11.cell? ⟨b9, 1, none⟩ = some (.int .i64 rq) := by go_simp
    have kb11_4_2 : w11.cell? ⟨b9, 2, none⟩ = some (.slice a9 R.length c9) := by go_simp
    have HB11 := Lib.hid (HB10.out.trans (hN11.mono (by first | exact Nat.le_refl _ | omega)))
    have HR11_6 := Lib.hid (HR10_6.out.below hN11 (by first | exact Nat.le_refl _ | omega))
    have HR11_9 := Lib.hid (HR10_9.out.below hN11 (by first | exact Nat.le_refl _ | omega))
    clear hc11 hf11 hb11 hN11 hz11
    go_wp2_with fail
    refine region_namedD ?_
    intro w12 hw12
    have hN12 : Below w11.heap.size w11 w12 := by
      rw [hw12]
      (repeat (first | exact Below.refl _ _ | refine Below.setCell ?_ (by first | omega | (simp <;> omega)) _ | refine Below.alloc ?_ (by first | omega | (simp <;> omega)) _ | refine Below.drew ?_))
    have hz12 : w12.heap.size = _ := congrArg (fun W : World => W.heap.size) hw12
    try simp at hz12
    have hn12 := hN12.size
    have hs12_0 : w.heap.size < w12.heap.size := by omega
    have hs12_1 : w.heap.size + 1 < w12.heap.size := by omega
    have hs12_2 : b6 < w12.heap.size := by omega
    have hs12_3 : w3.heap.size < w12.heap.size := by omega
    have hs12_4 : b9 < w12.heap.size := by omega
    have kb12_0_0 : w12.cell? ⟨w.heap.size, 0, none⟩ = some (.int .i64 p) := by rw [hw12]; go_simp
    have kb12_0_1 : w12.cell? ⟨w.heap.size, 1, none⟩ = some (.int .i64 q) := by rw [hw12]; go_simp
    have kb12_0_2 : w12.cell? ⟨w.heap.size, 2, none⟩ = some (.slice a L.length cap) := by rw [hw12]; go_simp
    have kb12_1_0 : w12.cell? ⟨w.heap.size + 1, 0, none⟩ = some (.int .i64 k) := by rw [hw12]; go_simp
    have kb12_1_1 : w12.cell? ⟨w.heap.size + 1, 1, none⟩ = some (.int .i64 x) := by rw [hw12]; go_simp
    have kb12_1_2 : w12.cell? ⟨w.heap.size + 1, 2, none⟩ = some (.int .i64 y) := by rw [hw12]; go_simp
    have kb12_2_0 : w12.cell? ⟨b6, 0, none⟩ = some (.int .i64 rp) := by rw [hw12]; go_simp
    have kb12_2_1 : w12.cell? ⟨b6, 1, none⟩ = some (.int .i64 rq) := by rw [hw12]; go_simp
    have kb12_2_2 : w12.cell? ⟨b6, 2, none⟩ = some (.slice a6 R.length c6) := by rw [hw12]; go_simp
    have kb12_3_0 : w12.cell? ⟨w3.heap.size, 0, none⟩ = some (.int .i64 p) := by rw [hw12]; go_simp
    have kb12_3_1 : w12.cell? ⟨w3.heap.size, 1, none⟩ = some (.int .i64 q) := by rw [hw12]; go_simp
    have kb12_3_2 : w12.cell? ⟨w3.heap.size, 2, none⟩ = some (.slice a8 L.length c8) := by rw [hw12]; go_simp
    have kb12_4_0 : w12.cell? ⟨b9, 0, none⟩ = some (.int .i64 rp) := by rw [hw12]; go_simp
    have kb12_4_1 : w12.cell? ⟨b9, 1, none⟩ = some (.int .i64 rq) := by rw [hw12]; go_simp
    have kb12_4_2 : w12.cell? ⟨b9, 2, none⟩ = some (.slice a9 R.length c9) := by rw [hw12]; go_simp
    have HB12 := Lib.hid (HB11.out.trans (hN12.mono (by first | exact Nat.le_refl _ | omega)))
    have HR12_6 := Lib.hid (HR11_6.out.below hN12 (by first | exact Nat.le_refl _ | omega))
    have HR12_9 := Lib.hid (HR11_9.out.below hN12 (by first | exact Nat.le_refl _ | omega))
    clear hw12 hN12 hz12
    have HSe4 := Lib.hid (H.out.below HB12.out)
    go_wp2_with fail
    go_cut [14, 15] from 21 (fun s_ t_ wx => ∃ (b5 B5 C5 : Nat) (a5 : Option Addr) (c5 : Nat), s_ = .pointer (some ⟨b5, 0, none⟩) ∧ t_ = .bool ok ∧ (w12.heap.size ≤ b5 ∧ b5 < wx.heap.size) ∧ (wx.cell? ⟨b5, 0, none⟩ = some (.int .i64 rp) ∧ wx.cell? ⟨b5, 1, none⟩ = some (.int .i64 rq) ∧ wx.cell? ⟨b5, 2, none⟩ = some (.slice a5 R.length c5)) ∧ IsPairs B5 C5 wx (.slice a5 R.length c5) R ∧ (w12.heap.size ≤ B5 ∧ C5 ≤ wx.heap.size ∧ (b5 < B5 ∨ C5 ≤ b5)) ∧ Below w12.heap.size w12 wx)
    case first =>
      go_region_held3 (fun W_ => W_.cell? ⟨w.heap.size, 0, none⟩ = some (.int .i64 p) ∧ W_.cell? ⟨w.heap.size, 1, none⟩ = some (.int .i64 q) ∧ W_.cell? ⟨w.heap.size, 2, none⟩ = some (.slice a L.length cap) ∧ W_.cell? ⟨w.heap.size + 1, 0, none⟩ = some (.int .i64 k) ∧ W_.cell? ⟨w.heap.size + 1, 1, none⟩ = some (.int .i64 x) ∧ W_.cell? ⟨w.heap.size + 1, 2, none⟩ = some (.int .i64 y))
        ((go_split_ands; refine ⟨?_, ?_, ?_, ?_, ?_, ?_⟩ <;> (repeat (first | with_reducible assumption | with_reducible refine cell_alloc_is _ ?_ | with_reducible refine cell_drew_is ?_ | with_reducible refine cell_set_is ?_ ?_ | omega)); done))
        ((first | (go_at_call 29; refine (toDesk_any p q L _ _ (HSe4.out.below (show Below w12.heap.size w12 _ by (repeat (first | exact Below.refl _ _ | refine Below.setCell ?_ (by first | omega | (simp <;> omega)) _ | refine Below.alloc ?_ (by first | omega | (simp <;> omega)) _ | refine Below.drew ?_ | refine Below.trans ?_ (Below.mono (by assumption) (by first | omega | (simp <;> omega))))))) hn).mono ?_; rintro e w_2 ⟨a2, c2, rfl, hI2, hb_2⟩; obtain ⟨hc_2, hf_2⟩ := bcell hb_2; have hz_2 := hb_2.size; (try simp at hz_2); have kx0 := (hb_2.cell (p := ⟨w.heap.size, 0, none⟩) (by first | omega | (simp <;> omega))).trans (show _ = some (.int .i64 p) by (repeat (first | with_reducible assumption | with_reducible refine cell_alloc_is _ ?_ | with_reducible refine cell_drew_is ?_ | with_reducible refine cell_set_is ?_ ?_ | omega))); have kx1 := (hb_2.cell (p := ⟨w.heap.size, 1, none⟩) (by first | omega | (simp <;> omega))).trans (show _ = some (.int .i64 q) by (repeat (first | with_reducible assumption | with_reducible refine cell_alloc_is _ ?_ | with_reducible refine cell_drew_is ?_ | with_reducible refine cell_set_is ?_ ?_ | omega))); have kx2 := (hb_2.cell (p := ⟨w.heap.size, 2, none⟩) (by first | omega | (simp <;> omega))).trans (show _ = some (.slice a L.length cap) by (repeat (first | with_reducible assumption | with_reducible refine cell_alloc_is _ ?_ | with_reducible refine cell_drew_is ?_ | with_reducible refine cell_set_is ?_ ?_ | omega))); have kx3 := (hb_2.cell (p := ⟨w.heap.size + 1, 0, none⟩) (by first | omega | (simp <;> omega))).trans (show _ = some (.int .i64 k) by (repeat (first | with_reducible assumption | with_reducible refine cell_alloc_is _ ?_ | with_reducible refine cell_drew_is ?_ | with_reducible refine cell_set_is ?_ ?_ | omega))); have kx4 := (hb_2.cell (p := ⟨w.heap.size + 1, 1, none⟩) (by first | omega | (simp <;> omega))).trans (show _ = some (.int .i64 x) by (repeat (first | with_reducible assumption | with_reducible refine cell_alloc_is _ ?_ | with_reducible refine cell_drew_is ?_ | with_reducible refine cell_set_is ?_ ?_ | omega))); have kx5 := (hb_2.cell (p := ⟨w.heap.size + 1, 2, none⟩) (by first | omega | (simp <;> omega))).trans (show _ = some (.int .i64 y) by (repeat (first | with_reducible assumption | with_reducible refine cell_alloc_is _ ?_ | with_reducible refine cell_drew_is ?_ | with_reducible refine cell_set_is ?_ ?_ | omega))); (dsimp only at hI2 ⊢); (try have hq_2_w12 : w12.heap.size < w_2.heap.size := by omega); (try have hq_2_w_3 : w_3.heap.size < w_2.heap.size := by omega); (try have hq_2_w_4 : w_4.heap.size < w_2.heap.size := by omega)) | (go_at_call 34; refine (toDeed_any k x y _).mono ?_; rintro e w_3 ⟨rfl, hb_3⟩; obtain ⟨hc_3, hf_3⟩ := bcell hb_3; have hz_3 := hb_3.size; (try simp at hz_3); have kx0 := (hb_3.cell (p := ⟨w.heap.size, 0, none⟩) (by first | omega | (simp <;> omega))).trans (show _ = some (.int .i64 p) by (repeat (first | with_reducible assumption | with_reducible refine cell_alloc_is _ ?_ | with_reducible refine cell_drew_is ?_ | with_reducible refine cell_set_is ?_ ?_ | omega))); have kx1 := (hb_3.cell (p := ⟨w.heap.size, 1, none⟩) (by first | omega | (simp <;> omega))).trans (show _ = some (.int .i64 q) by (repeat (first | with_reducible assumption | with_reducible refine cell_alloc_is _ ?_ | with_reducible refine cell_drew_is ?_ | with_reducible refine cell_set_is ?_ ?_ | omega))); have kx2 := (hb_3.cell (p := ⟨w.heap.size, 2, none⟩) (by first | omega | (simp <;> omega))).trans (show _ = some (.slice a L.length cap) by (repeat (first | with_reducible assumption | with_reducible refine cell_alloc_is _ ?_ | with_reducible refine cell_drew_is ?_ | with_reducible refine cell_set_is ?_ ?_ | omega))); have kx3 := (hb_3.cell (p := ⟨w.heap.size + 1, 0, none⟩) (by first | omega | (simp <;> omega))).trans (show _ = some (.int .i64 k) by (repeat (first | with_reducible assumption | with_reducible refine cell_alloc_is _ ?_ | with_reducible refine cell_drew_is ?_ | with_reducible refine cell_set_is ?_ ?_ | omega))); have kx4 := (hb_3.cell (p := ⟨w.heap.size + 1, 1, none⟩) (by first | omega | (simp <;> omega))).trans (show _ = some (.int .i64 x) by (repeat (first | with_reducible assumption | with_reducible refine cell_alloc_is _ ?_ | with_reducible refine cell_drew_is ?_ | with_reducible refine cell_set_is ?_ ?_ | omega))); have kx5 := (hb_3.cell (p := ⟨w.heap.size + 1, 2, none⟩) (by first | omega | (simp <;> omega))).trans (show _ = some (.int .i64 y) by (repeat (first | with_reducible assumption | with_reducible refine cell_alloc_is _ ?_ | with_reducible refine cell_drew_is ?_ | with_reducible refine cell_set_is ?_ ?_ | omega))); (try have hq_3_w12 : w12.heap.size < w_3.heap.size := by omega); (try have hq_3_w_2 : w_2.heap.size < w_3.heap.size := by omega); (try have hq_3_w_4 : w_4.heap.size < w_3.heap.size := by omega)) | (go_at_call 22; refine (HI.out _ _ _ _ _ (hI2.below (show Below w_2.heap.size w_2 _ by (repeat (first | exact Below.refl _ _ | refine Below.setCell ?_ (by first | omega | (simp <;> omega)) _ | refine Below.alloc ?_ (by first | omega | (simp <;> omega)) _ | refine Below.drew ?_ | refine Below.trans ?_ (Below.mono (by assumption) (by first | omega | (simp <;> omega)))))) (Nat.le_refl _))).mono ?_; rintro e w_4 ⟨a4, c4, rfl, hI4, hb_4⟩; obtain ⟨hc_4, hf_4⟩ := bcell hb_4; have hz_4 := hb_4.size; (try simp at hz_4); have kx0 := (hb_4.cell (p := ⟨w.heap.size, 0, none⟩) (by first | omega | (simp <;> omega))).trans (show _ = some (.int .i64 p) by (repeat (first | with_reducible assumption | with_reducible refine cell_alloc_is _ ?_ | with_reducible refine cell_drew_is ?_ | with_reducible refine cell_set_is ?_ ?_ | omega))); have kx1 := (hb_4.cell (p := ⟨w.heap.size, 1, none⟩) (by first | omega | (simp <;> omega))).trans (show _ = some (.int .i64 q) by (repeat (first | with_reducible assumption | with_reducible refine cell_alloc_is _ ?_ | with_reducible refine cell_drew_is ?_ | with_reducible refine cell_set_is ?_ ?_ | omega))); have kx2 := (hb_4.cell (p := ⟨w.heap.size, 2, none⟩) (by first | omega | (simp <;> omega))).trans (show _ = some (.slice a L.length cap) by (repeat (first | with_reducible assumption | with_reducible refine cell_alloc_is _ ?_ | with_reducible refine cell_drew_is ?_ | with_reducible refine cell_set_is ?_ ?_ | omega))); have kx3 := (hb_4.cell (p := ⟨w.heap.size + 1, 0, none⟩) (by first | omega | (simp <;> omega))).trans (show _ = some (.int .i64 k) by (repeat (first | with_reducible assumption | with_reducible refine cell_alloc_is _ ?_ | with_reducible refine cell_drew_is ?_ | with_reducible refine cell_set_is ?_ ?_ | omega))); have kx4 := (hb_4.cell (p := ⟨w.heap.size + 1, 1, none⟩) (by first | omega | (simp <;> omega))).trans (show _ = some (.int .i64 x) by (repeat (first | with_reducible assumption | with_reducible refine cell_alloc_is _ ?_ | with_reducible refine cell_drew_is ?_ | with_reducible refine cell_set_is ?_ ?_ | omega))); have kx5 := (hb_4.cell (p := ⟨w.heap.size + 1, 2, none⟩) (by first | omega | (simp <;> omega))).trans (show _ = some (.int .i64 y) by (repeat (first | with_reducible assumption | with_reducible refine cell_alloc_is _ ?_ | with_reducible refine cell_drew_is ?_ | with_reducible refine cell_set_is ?_ ?_ | omega))); obtain ⟨B4, hB4, hI5⟩ := (⟨_, rfl, hI4⟩ : ∃ B, B = _ ∧ IsPairs B w_4.heap.size w_4 (.slice a4 R.length c4) R); (try simp at hB4); (try have hq_4_w12 : w12.heap.size < w_4.heap.size := by omega); (try have hq_4_w_2 : w_2.heap.size < w_4.heap.size := by omega); (try have hq_4_w_3 : w_3.heap.size < w_4.heap.size := by omega)) | fail))
      all_goals (go_wp2_with fail; go_meet)
      all_goals
        case rel =>
          refine ⟨_, B4, w_4.heap.size, a4, c4, rfl, rfl, ⟨?_, ?_⟩, ⟨?_, ?_, ?_⟩, ?_, ⟨?_, ?_, ?_⟩, ?_⟩
          · first | omega | (simp <;> omega)
          · first | omega | (simp <;> omega)
          · go_simp
          · go_simp
          · go_simp
          · (repeat (first | exact hI5 | refine IsPairs.set2 ?_ (by first | omega | (simp <;> omega)) _ | refine IsPairs.allocd ?_ _))
          · first | omega | (simp <;> omega)
          · first | omega | (simp <;> omega)
          · first | omega | (simp <;> omega)
          · (repeat (first | exact Below.refl _ _ | refine Below.setCell ?_ (by first | omega | (simp <;> omega)) _ | refine Below.alloc ?_ (by first | omega | (simp <;> omega)) _ | refine Below.drew ?_ | refine Below.trans ?_ (Below.mono (by assumption) (by first | omega | (simp <;> omega)))))
    rename World => w13
    obtain ⟨b14, B14, C14, a14, c14, rfl, rfl, ⟨hb14a, hb14b⟩, ⟨kq14_0, kq14_1, kq14_2⟩, hI14, ⟨hB14, hC14, hD14⟩, hN13⟩ := hcut
    obtain ⟨hc13, hf13⟩ := bcell hN13
    have hn13 := hN13.size
    have hs13_0 : w.heap.size < w13.heap.size := by omega
    have hs13_1 : w.heap.size + 1 < w13.heap.size := by omega
    have hs13_2 : b6 < w13.heap.size := by omega
    have hs13_3 : w3.heap.size < w13.heap.size := by omega
    have hs13_4 : b9 < w13.heap.size := by omega
    have kb13_0_0 : w13.cell? ⟨w.heap.size, 0, none⟩ = some (.int .i64 p) := by go_simp
    have kb13_0_1 : w13.cell? ⟨w.heap.size, 1, none⟩ = some (.int .i64 q) := by go_simp
    have kb13_0_2 : w13.cell? ⟨w.heap.size, 2, none⟩ = some (.slice a L.length cap) := by go_simp
    have kb13_1_0 : w13.cell? ⟨w.heap.size + 1, 0, none⟩ = some (.int .i64 k) := by go_simp
    have kb13_1_1 : w13.cell? ⟨w.heap.size + 1, 1, none⟩ = some (.int .i64 x) := by go_simp
    have kb13_1_2 : w13.cell? ⟨w.heap.size + 1, 2, none⟩ = some (.int .i64 y) := by go_simp
    have kb13_2_0 : w13.cell? ⟨b6, 0, none⟩ = some (.int .i64 rp) := by go_simp
    have kb13_2_1 : w13.cell? ⟨b6, 1, none⟩ = some (.int .i64 rq) := by go_simp
    have kb13_2_2 : w13.cell? ⟨b6, 2, none⟩ = some (.slice a6 R.length c6) := by go_simp
    have kb13_3_0 : w13.cell? ⟨w3.heap.size, 0, none⟩ = some (.int .i64 p) := by go_simp
    have kb13_3_1 : w13.cell? ⟨w3.heap.size, 1, none⟩ = some (.int .i64 q) := by go_simp
    have kb13_3_2 : w13.cell? ⟨w3.heap.size, 2, none⟩ = some (.slice a8 L.length c8) := by go_simp
    have kb13_4_0 : w13.cell? ⟨b9, 0, none⟩ = some (.int .i64 rp) := by go_simp
    have kb13_4_1 : w13.cell? ⟨b9, 1, none⟩ = some (.int .i64 rq) := by go_simp
    have kb13_4_2 : w13.cell? ⟨b9, 2, none⟩ = some (.slice a9 R.length c9) := by go_simp
    have HB13 := Lib.hid (HB12.out.trans (hN13.mono (by first | exact Nat.le_refl _ | omega)))
    have HR13_6 := Lib.hid (HR12_6.out.below hN13 (by first | exact Nat.le_refl _ | omega))
    have HR13_9 := Lib.hid (HR12_9.out.below hN13 (by first | exact Nat.le_refl _ | omega))
    clear hc13 hf13 hN13
    have HR13_14 := Lib.hid (hI14)
    clear hI14
    go_wp2_with fail
    refine (eqDesk_same _ _ _ _ rp rq _ _ R _ HR13_14.out HR13_6.out hRn).mono ?_
    rintro e w14 ⟨rfl, hb14⟩
    obtain ⟨hc14, hf14⟩ := bcell hb14
    have hz14 := hb14.size
    try simp at hz14
    have hN14 : Below w13.heap.size w13 w14 := by
      refine Below.trans ?_ (hb14.mono (by first | omega | (simp <;> omega)))
      (repeat (first | exact Below.refl _ _ | refine Below.setCell ?_ (by first | omega | (simp <;> omega)) _ | refine Below.alloc ?_ (by first | omega | (simp <;> omega)) _ | refine Below.drew ?_))
    have hn14 := hN14.size
    have hs14_0 : w.heap.size < w14.heap.size := by omega
    have hs14_1 : w.heap.size + 1 < w14.heap.size := by omega
    have hs14_2 : b6 < w14.heap.size := by omega
    have hs14_3 : w3.heap.size < w14.heap.size := by omega
    have hs14_4 : b9 < w14.heap.size := by omega
    have hs14_5 : b14 < w14.heap.size := by omega
    have kb14_0_0 : w14.cell? ⟨w.heap.size, 0, none⟩ = some (.int .i64 p) := by go_simp
    have kb14_0_1 : w14.cell? ⟨w.heap.size, 1, none⟩ = some (.int .i64 q) := by go_simp
    have kb14_0_2 : w14.cell? ⟨w.heap.size, 2, none⟩ = some (.slice a L.length cap) := by go_simp
    have kb14_1_0 : w14.cell? ⟨w.heap.size + 1, 0, none⟩ = some (.int .i64 k) := by go_simp
    have kb14_1_1 : w14.cell? ⟨w.heap.size + 1, 1, none⟩ = some (.int .i64 x) := by go_simp
    have kb14_1_2 : w14.cell? ⟨w.heap.size + 1, 2, none⟩ = some (.int .i64 y) := by go_simp
    have kb14_2_0 : w14.cell? ⟨b6, 0, none⟩ = some (.int .i64 rp) := by go_simp
    have kb14_2_1 : w14.cell? ⟨b6, 1, none⟩ = some (.int .i64 rq) := by go_simp
    have kb14_2_2 : w14.cell? ⟨b6, 2, none⟩ = some (.slice a6 R.length c6) := by go_simp
    have kb14_3_0 : w14.cell? ⟨w3.heap.size, 0, none⟩ = some (.int .i64 p) := by go_simp
    have kb14_3_1 : w14.cell? ⟨w3.heap.size, 1, none⟩ = some (.int .i64 q) := by go_simp
    have kb14_3_2 : w14.cell? ⟨w3.heap.size, 2, none⟩ = some (.slice a8 L.length c8) := by go_simp
    have kb14_4_0 : w14.cell? ⟨b9, 0, none⟩ = some (.int .i64 rp) := by go_simp
    have kb14_4_1 : w14.cell? ⟨b9, 1, none⟩ = some (.int .i64 rq) := by go_simp
    have kb14_4_2 : w14.cell? ⟨b9, 2, none⟩ = some (.slice a9 R.length c9) := by go_simp
    have kb14_5_0 : w14.cell? ⟨b14, 0, none⟩ = some (.int .i64 rp) := by go_simp
    have kb14_5_1 : w14.cell? ⟨b14, 1, none⟩ = some (.int .i64 rq) := by go_simp
    have kb14_5_2 : w14.cell? ⟨b14, 2, none⟩ = some (.slice a14 R.length c14) := by go_simp
    have HB14 := Lib.hid (HB13.out.trans (hN14.mono (by first | exact Nat.le_refl _ | omega)))
    have HR14_6 := Lib.hid (HR13_6.out.below hN14 (by first | exact Nat.le_refl _ | omega))
    have HR14_9 := Lib.hid (HR13_9.out.below hN14 (by first | exact Nat.le_refl _ | omega))
    have HR14_14 := Lib.hid (HR13_14.out.below hN14 (by first | exact Nat.le_refl _ | omega))
    clear hc14 hf14 hb14 hN14 hz14
    go_wp2_with fail
    refine (heldDesk_any _ _ R.length rp rq _ 1 _ HR14_9.out hRn (by omega) (by omega)).mono ?_
    rintro e w15 ⟨rfl, hb15⟩
    obtain ⟨hc15, hf15⟩ := bcell hb15
    have hz15 := hb15.size
    try simp at hz15
    have hN15 : Below w14.heap.size w14 w15 := by
      refine Below.trans ?_ (hb15.mono (by first | omega | (simp <;> omega)))
      (repeat (first | exact Below.refl _ _ | refine Below.setCell ?_ (by first | omega | (simp <;> omega)) _ | refine Below.alloc ?_ (by first | omega | (simp <;> omega)) _ | refine Below.drew ?_))
    have hn15 := hN15.size
    have hs15_0 : w.heap.size < w15.heap.size := by omega
    have hs15_1 : w.heap.size + 1 < w15.heap.size := by omega
    have hs15_2 : b6 < w15.heap.size := by omega
    have hs15_3 : w3.heap.size < w15.heap.size := by omega
    have hs15_4 : b9 < w15.heap.size := by omega
    have hs15_5 : b14 < w15.heap.size := by omega
    have kb15_0_0 : w15.cell? ⟨w.heap.size, 0, none⟩ = some (.int .i64 p) := by go_simp
    have kb15_0_1 : w15.cell? ⟨w.heap.size, 1, none⟩ = some (.int .i64 q) := by go_simp
    have kb15_0_2 : w15.cell? ⟨w.heap.size, 2, none⟩ = some (.slice a L.length cap) := by go_simp
    have kb15_1_0 : w15.cell? ⟨w.heap.size + 1, 0, none⟩ = some (.int .i64 k) := by go_simp
    have kb15_1_1 : w15.cell? ⟨w.heap.size + 1, 1, none⟩ = some (.int .i64 x) := by go_simp
    have kb15_1_2 : w15.cell? ⟨w.heap.size + 1, 2, none⟩ = some (.int .i64 y) := by go_simp
    have kb15_2_0 : w15.cell? ⟨b6, 0, none⟩ = some (.int .i64 rp) := by go_simp
    have kb15_2_1 : w15.cell? ⟨b6, 1, none⟩ = some (.int .i64 rq) := by go_simp
    have kb15_2_2 : w15.cell? ⟨b6, 2, none⟩ = some (.slice a6 R.length c6) := by go_simp
    have kb15_3_0 : w15.cell? ⟨w3.heap.size, 0, none⟩ = some (.int .i64 p) := by go_simp
    have kb15_3_1 : w15.cell? ⟨w3.heap.size, 1, none⟩ = some (.int .i64 q) := by go_simp
    have kb15_3_2 : w15.cell? ⟨w3.heap.size, 2, none⟩ = some (.slice a8 L.length c8) := by go_simp
    have kb15_4_0 : w15.cell? ⟨b9, 0, none⟩ = some (.int .i64 rp) := by go_simp
    have kb15_4_1 : w15.cell? ⟨b9, 1, none⟩ = some (.int .i64 rq) := by go_simp
    have kb15_4_2 : w15.cell? ⟨b9, 2, none⟩ = some (.slice a9 R.length c9) := by go_simp
    have kb15_5_0 : w15.cell? ⟨b14, 0, none⟩ = some (.int .i64 rp) := by go_simp
    have kb15_5_1 : w15.cell? ⟨b14, 1, none⟩ = some (.int .i64 rq) := by go_simp
    have kb15_5_2 : w15.cell? ⟨b14, 2, none⟩ = some (.slice a14 R.length c14) := by go_simp
    have HB15 := Lib.hid (HB14.out.trans (hN15.mono (by first | exact Nat.le_refl _ | omega)))
    have HR15_6 := Lib.hid (HR14_6.out.below hN15 (by first | exact Nat.le_refl _ | omega))
    have HR15_9 := Lib.hid (HR14_9.out.below hN15 (by first | exact Nat.le_refl _ | omega))
    have HR15_14 := Lib.hid (HR14_14.out.below hN15 (by first | exact Nat.le_refl _ | omega))
    clear hc15 hf15 hb15 hN15 hz15
    go_wp2
    go_ret
    exact ⟨rfl, HB15.out⟩
end Go.Proofs.Ytigcomhhgfgmgaa
