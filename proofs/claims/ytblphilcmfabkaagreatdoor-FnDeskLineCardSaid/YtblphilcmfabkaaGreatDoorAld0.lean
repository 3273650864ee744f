/- Contracts and laws that the statement's proof stands on, one text behind the other. -/
import Derived.Test.YtblphilcmfabkaaGreatDoorAla4
import Derived.Deep.RegionWith
import Derived.Deep.Cut
import Derived.Deep.RegionHeld3
import Derived.Deep.DeepCutAuto

namespace Go.Proofs.YtblphilcmfabkaaGreatDoor
section
open Go.RowKit
theorem lineV_len (d : DeskN) (l : List UInt8) : (lineV d l).1.past.length ≤ 8 := by
 cases hd : deskN d with
 | false => rw [lineV_no hd]; simp
 | true =>
   cases hr : readN l with
   | none => rw [lineV_ask hd hr]; exact (deskN_of hd).2.1
   | some x => rw [lineV_deed hd hr rfl]; exact (deskN_of (doN_desk x hd)).2.1
set_option maxRecDepth 100000 in
set_option maxHeartbeats 8000000 in
theorem fnExactDeskLine_walk (p q : Int) (u : Value) (L : List (Int × Int)) (s : ByteArray) (w : World) (h : SeesPairs w u L) (hl : L.length ≤ maxLen) (ht : PowTab w) (he : Errs w) :
   Calls Tryz.prog 6 #[.agg #[.int .i64 p, .int .i64 q, u], .string s] w fun e w' => e = .returned (.bool true) ∧ Below w.heap.size w w' := by
 obtain ⟨a, cap, rfl, _⟩ := id h
 rcases Nat.lt_or_ge 1048576 s.size with hsb | hss
 · have hsi : (1048576 : Int) < (s.size : Int) := by omega
   go_enter Tryz.func6, Tryz.ntmps6
   go_wp2
   go_ret
   exact ⟨rfl, by exact zb⟩
 have hsi : ¬ (1048576 : Int) < (s.size : Int) := by omega
 rcases Nat.lt_or_ge 1048576 L.length with hbig | hsm
 · go_enter Tryz.func6, Tryz.ntmps6
   go_wp2_with fail
   refine (szDesk_big p q a L.length cap 1048576 zO hbig hl _).mono ?_
   rintro e w1 ⟨rfl, hb1⟩
   go_wp2
   go_ret
   exact ⟨rfl, by exact zb⟩
 · have hn : L.length ≤ 1048600 := by omega
   have h3 : ¬ (((1048576 - L.length : Nat) : Int) < 0) := by omega
   have h4 : ¬ (1 + 2 * (L.length : Int) < 0) := by omega
   have hS := fun (W : World) (B C : Nat) (a : Option Addr) (c : Nat) (hI : IsPairs B C W (.slice a L.length c) L) => specLine_any B C p q L _ s W hI hn zO
   have hI := fun (W : World) (B C : Nat) (a : Option Addr) (c : Nat) (hI : IsPairs B C W (.slice a L.length c) L) hT hE => implLine_any B C p q L _ s W hI hn zO hT hE
   unfold LineS at hS hI
   obtain ⟨rp, rq, R, ans, hres⟩ : ∃ rp rq R ans, lineV ⟨(p, q), L⟩ s.data.toList = (⟨(rp, rq), R⟩, ans) := ⟨_, _, _, _, rfl⟩
   have hR8 : R.length ≤ 8 := by have := lineV_len ⟨(p, q), L⟩ s.data.toList; rwa [hres] at this
   rw [hres] at hS hI
   dsimp only at hS hI
   have hsame : (ans.toList == ans.toList) = true := by simp
   have hRn : R.length ≤ 1048600 := by omega
   have h5 : ¬ (1 + 2 * (R.length : Int) < 0) := by omega
   have H := Lib.hid h
   have HS := Lib.hid hS
   have HI := Lib.hid hI
   have HT := Lib.hid ht
   have HE := Lib.hid he
   clear h hS hI hres ht he
   go_enter Tryz.func6, Tryz.ntmps6
   go_wp2_with fail
   refine (szDesk_fit p q a L.length cap 1048576 zO hsm _).mono ?_
   rintro e w1 ⟨rfl, hb1⟩
   obtain ⟨hc1, hf1⟩ := bcell hb1
   have hz1 := hb1.size
   try simp at hz1
   have hN1 : Below w.heap.size w w1 := by
     refine Below.trans ?_ (hb1.mono zo)
     exact zb
   have hn1 := hN1.size
   have hs1_0 : w.heap.size < w1.heap.size := by omega
   have kb1_0_0 : w1.cell? ⟨w.heap.size, 0, none⟩ = some (.int .i64 p) := by go_simp
   have kb1_0_1 : w1.cell? ⟨w.heap.size, 1, none⟩ = some (.int .i64 q) := by go_simp
   have kb1_0_2 : w1.cell? ⟨w.heap.size, 2, none⟩ = some (.slice a L.length cap) := by go_simp
   have HB1 := Lib.hid ((Below.refl w.heap.size w).trans (hN1.mono zl))
   clear hc1 hf1 hb1 hN1 hz1
   go_wp2_with fail
   refine (toDesk_any p q L _ _ ((H.out.below HB1.out).below (show Below w1.heap.size w1 _ by exact zb)) hn).mono ?_
   rintro e w2 ⟨a3, c3, rfl, hI3, hb2⟩
   obtain ⟨hc2, hf2⟩ := bcell hb2
   have hz2 := hb2.size
   try simp at hz2
   have hN2 : Below w1.heap.size w1 w2 := by
     refine Below.trans ?_ (hb2.mono zo)
     exact zb
   have hn2 := hN2.size
   have hs2_0 : w.heap.size < w2.heap.size := by omega
   have kb2_0_0 : w2.cell? ⟨w.heap.size, 0, none⟩ = some (.int .i64 p) := by go_simp
   have kb2_0_1 : w2.cell? ⟨w.heap.size, 1, none⟩ = some (.int .i64 q) := by go_simp
   have kb2_0_2 : w2.cell? ⟨w.heap.size, 2, none⟩ = some (.slice a L.length cap) := by go_simp
   have HB2 := Lib.hid (HB1.out.trans (hN2.mono zl))
   try dsimp only at hI3
   try dsimp only
   clear hc2 hf2 hb2 hN2 hz2
   try simp only [World.size_alloc] at hI3
   have HR2_3 := Lib.hid (hI3)
   clear hI3
   go_wp2_with fail
   refine (HS.out _ _ _ _ _ (HR2_3.out.below (show Below w2.heap.size w2 _ by exact zb) zl)).mono ?_
   rintro e w3 ⟨a6, c6, rfl, hI6, hb3⟩
   obtain ⟨hc3, hf3⟩ := bcell hb3
   have hz3 := hb3.size
   try simp at hz3
   have hN3 : Below w2.heap.size w2 w3 := by
     refine Below.trans ?_ (hb3.mono zo)
     exact zb
   have hn3 := hN3.size
   have hs3_0 : w.heap.size < w3.heap.size := by omega
   have kb3_0_0 : w3.cell? ⟨w.heap.size, 0, none⟩ = some (.int .i64 p) := by go_simp
   have kb3_0_1 : w3.cell? ⟨w.heap.size, 1, none⟩ = some (.int .i64 q) := by go_simp
   have kb3_0_2 : w3.cell? ⟨w.heap.size, 2, none⟩ = some (.slice a L.length cap) := by go_simp
   have HB3 := Lib.hid (HB2.out.trans (hN3.mono zl))
   have HR3_3 := Lib.hid (HR2_3.out.below hN3 zl)
   clear hc3 hf3 hb3 hN3 hz3
   try simp only [World.size_alloc] at hI6
   have HR3_6 := Lib.hid (hI6)
   clear hI6
   go_wp2_with fail
   refine (toDesk_any p q L _ _ ((H.out.below HB3.out).below (show Below w3.heap.size w3 _ by exact zb)) hn).mono ?_
   rintro e w4 ⟨a8, c8, rfl, hI8, hb4⟩
   obtain ⟨hc4, hf4⟩ := bcell hb4
   have hz4 := hb4.size
   try simp at hz4
   have hN4 : Below w3.heap.size w3 w4 := by
     refine Below.trans ?_ (hb4.mono zo)
     exact zb
   have hn4 := hN4.size
   have hs4_0 : w.heap.size < w4.heap.size := by omega
   have hs4_1 : w3.heap.size < w4.heap.size := by omega
   have kb4_0_0 : w4.cell? ⟨w.heap.size, 0, none⟩ = some (.int .i64 p) := by go_simp
   have kb4_0_1 : w4.cell? ⟨w.heap.size, 1, none⟩ = some (.int .i64 q) := by go_simp
   have kb4_0_2 : w4.cell? ⟨w.heap.size, 2, none⟩ = some (.slice a L.length cap) := by go_simp
   have kb4_1_0 : w4.cell? ⟨w3.heap.size, 0, none⟩ = some (.int .i64 rp) := by go_simp
   have kb4_1_1 : w4.cell? ⟨w3.heap.size, 1, none⟩ = some (.int .i64 rq) := by go_simp
   have kb4_1_2 : w4.cell? ⟨w3.heap.size, 2, none⟩ = some (.slice a6 R.length c6) := by go_simp
   have HB4 := Lib.hid (HB3.out.trans (hN4.mono zl))
   have HR4_6 := Lib.hid (HR3_6.out.below hN4 zl)
   try dsimp only at hI8
   try dsimp only
   clear hc4 hf4 hb4 hN4 hz4
   try simp only [World.size_alloc] at hI8
   have HR4_8 := Lib.hid (hI8)
   clear hI8
   go_wp2_with fail
   refine (HI.out _ _ _ _ _ (HR4_8.out.below (show Below w4.heap.size w4 _ by exact zb) zl) ((HT.out.below HB4.out (Nat.le_refl _)).below (show Below w4.heap.size w4 _ by exact zb) (Nat.le_refl _)) ((HE.out.below HB4.out (Nat.le_refl _)).below (show Below w4.heap.size w4 _ by exact zb) (Nat.le_refl _))).mono ?_
   rintro e w5 ⟨a10, c10, rfl, hI10, hb5⟩
   obtain ⟨hc5, hf5⟩ := bcell hb5
   have hz5 := hb5.size
   try simp at hz5
   have hN5 : Below w4.heap.size w4 w5 := by
     refine Below.trans ?_ (hb5.mono zo)
     exact zb
   have hn5 := hN5.size
   have hs5_0 : w.heap.size < w5.heap.size := by omega
   have hs5_1 : w3.heap.size < w5.heap.size := by omega
   have hs5_2 : w4.heap.size < w5.heap.size := by omega
   have kb5_0_0 : w5.cell? ⟨w.heap.size, 0, none⟩ = some (.int .i64 p) := by go_simp
   have kb5_0_1 : w5.cell? ⟨w.heap.size, 1, none⟩ = some (.int .i64 q) := by go_simp
   have kb5_0_2 : w5.cell? ⟨w.heap.size, 2, none⟩ = some (.slice a L.length cap) := by go_simp
   have kb5_1_0 : w5.cell? ⟨w3.heap.size, 0, none⟩ = some (.int .i64 rp) := by go_simp
   have kb5_1_1 : w5.cell? ⟨w3.heap.size, 1, none⟩ = some (.int .i64 rq) := by go_simp
   have kb5_1_2 : w5.cell? ⟨w3.heap.size, 2, none⟩ = some (.slice a6 R.length c6) := by go_simp
   have kb5_2_0 : w5.cell? ⟨w4.heap.size, 0, none⟩ = some (.int .i64 p) := by go_simp
   have kb5_2_1 : w5.cell? ⟨w4.heap.size, 1, none⟩ = some (.int .i64 q) := by go_simp
   have kb5_2_2 : w5.cell? ⟨w4.heap.size, 2, none⟩ = some (.slice a8 L.length c8) := by go_simp
   have HB5 := Lib.hid (HB4.out.trans (hN5.mono zl))
   have HR5_6 := Lib.hid (HR4_6.out.below hN5 zl)
   have HR5_8 := Lib.hid (HR4_8.out.below hN5 zl)
   clear hc5 hf5 hb5 hN5 hz5
   try simp only [World.size_alloc] at hI10
   have HR5_10 := Lib.hid (hI10)
   clear hI10
   go_wp2_with fail
   refine (eqDesk_same _ _ _ _ rp rq _ _ R _ (HR5_10.out.below (show Below w5.heap.size w5 _ by exact zb) zl) (HR5_6.out.below (show Below w5.heap.size w5 _ by exact zb) zl) hRn).mono ?_
   rintro e w6 ⟨rfl, hb6⟩
   obtain ⟨hc6, hf6⟩ := bcell hb6
   have hz6 := hb6.size
   try simp at hz6
   have hN6 : Below w5.heap.size w5 w6 := by
     refine Below.trans ?_ (hb6.mono zo)
     exact zb
   have hn6 := hN6.size
   have hs6_0 : w.heap.size < w6.heap.size := by omega
   have hs6_1 : w3.heap.size < w6.heap.size := by omega
   have hs6_2 : w4.heap.size < w6.heap.size := by omega
   have hs6_3 : w5.heap.size < w6.heap.size := by omega
   have kb6_0_0 : w6.cell? ⟨w.heap.size, 0, none⟩ = some (.int .i64 p) := by go_simp
   have kb6_0_1 : w6.cell? ⟨w.heap.size, 1, none⟩ = some (.int .i64 q) := by go_simp
   have kb6_0_2 : w6.cell? ⟨w.heap.size, 2, none⟩ = some (.slice a L.length cap) := by go_simp
   have kb6_1_0 : w6.cell? ⟨w3.heap.size, 0, none⟩ = some (.int .i64 rp) := by go_simp
   have kb6_1_1 : w6.cell? ⟨w3.heap.size, 1, none⟩ = some (.int .i64 rq) := by go_simp
   have kb6_1_2 : w6.cell? ⟨w3.heap.size, 2, none⟩ = some (.slice a6 R.length c6) := by go_simp
   have kb6_2_0 : w6.cell? ⟨w4.heap.size, 0, none⟩ = some (.int .i64 p) := by go_simp
   have kb6_2_1 : w6.cell? ⟨w4.heap.size, 1, none⟩ = some (.int .i64 q) := by go_simp
   have kb6_2_2 : w6.cell? ⟨w4.heap.size, 2, none⟩ = some (.slice a8 L.length c8) := by go_simp
   have kb6_3_0 : w6.cell? ⟨w5.heap.size, 0, none⟩ = some (.int .i64 rp) := by go_simp
   have kb6_3_1 : w6.cell? ⟨w5.heap.size, 1, none⟩ = some (.int .i64 rq) := by go_simp
   have kb6_3_2 : w6.cell? ⟨w5.heap.size, 2, none⟩ = some (.slice a10 R.length c10) := by go_simp
   have HB6 := Lib.hid (HB5.out.trans (hN6.mono zl))
   have HR6_6 := Lib.hid (HR5_6.out.below hN6 zl)
   have HR6_8 := Lib.hid (HR5_8.out.below hN6 zl)
   have HR6_10 := Lib.hid (HR5_10.out.below hN6 zl)
   clear hc6 hf6 hb6 hN6 hz6
   have HSe3 := Lib.hid (H.out.below HB6.out)
   go_wp2_with fail
   go_cut [52] from 16 (fun s_ wx => s_ = .bool false ∧ Below w6.heap.size w6 wx)
   case first =>
     go_region_held3 (fun W_ => W_.cell? ⟨w4.heap.size, 0, none⟩ = some (.int .i64 p) ∧ W_.cell? ⟨w4.heap.size, 1, none⟩ = some (.int .i64 q) ∧ W_.cell? ⟨w4.heap.size, 2, none⟩ = some (.slice a8 L.length c8) ∧ W_.cell? ⟨w.heap.size, 0, none⟩ = some (.int .i64 p) ∧ W_.cell? ⟨w.heap.size, 1, none⟩ = some (.int .i64 q) ∧ W_.cell? ⟨w.heap.size, 2, none⟩ = some (.slice a L.length cap))
       ((go_split_ands; refine ⟨?_, ?_, ?_, ?_, ?_, ?_⟩ <;> (repeat (first | with_reducible assumption | with_reducible refine cell_alloc_is _ ?_ | with_reducible refine cell_drew_is ?_ | with_reducible refine cell_set_is ?_ ?_ | omega)); done))
       ((first | (go_at_call 29; refine (toDesk_any p q L _ _ (HSe3.out.below (show Below w6.heap.size w6 _ by exact zb)) hn).mono ?_; rintro e w_2 ⟨a2, c2, rfl, hI2, hb_2⟩; obtain ⟨hc_2, hf_2⟩ := bcell hb_2; have hz_2 := hb_2.size; (try simp at hz_2); have kx0 := (hb_2.cell (p := ⟨w4.heap.size, 0, none⟩) zo).trans (show _ = some (.int .i64 p) by (repeat (first | with_reducible assumption | with_reducible refine cell_alloc_is _ ?_ | with_reducible refine cell_drew_is ?_ | with_reducible refine cell_set_is ?_ ?_ | omega))); have kx1 := (hb_2.cell (p := ⟨w4.heap.size, 1, none⟩) zo).trans (show _ = some (.int .i64 q) by (repeat (first | with_reducible assumption | with_reducible refine cell_alloc_is _ ?_ | with_reducible refine cell_drew_is ?_ | with_reducible refine cell_set_is ?_ ?_ | omega))); have kx2 := (hb_2.cell (p := ⟨w4.heap.size, 2, none⟩) zo).trans (show _ = some (.slice a8 L.length c8) by (repeat (first | with_reducible assumption | with_reducible refine cell_alloc_is _ ?_ | with_reducible refine cell_drew_is ?_ | with_reducible refine cell_set_is ?_ ?_ | omega))); have kx3 := (hb_2.cell (p := ⟨w.heap.size, 0, none⟩) zo).trans (show _ = some (.int .i64 p) by (repeat (first | with_reducible assumption | with_reducible refine cell_alloc_is _ ?_ | with_reducible refine cell_drew_is ?_ | with_reducible refine cell_set_is ?_ ?_ | omega))); have kx4 := (hb_2.cell (p := ⟨w.heap.size, 1, none⟩) zo).trans (show _ = some (.int .i64 q) by (repeat (first | with_reducible assumption | with_reducible refine cell_alloc_is _ ?_ | with_reducible refine cell_drew_is ?_ | with_reducible refine cell_set_is ?_ ?_ | omega))); have kx5 := (hb_2.cell (p := ⟨w.heap.size, 2, none⟩) zo).trans (show _ = some (.slice a L.length cap) by (repeat (first | with_reducible assumption | with_reducible refine cell_alloc_is _ ?_ | with_reducible refine cell_drew_is ?_ | with_reducible refine cell_set_is ?_ ?_ | omega))); (dsimp only at hI2 ⊢); (try have hq_2_w6 : w6.heap.size < w_2.heap.size := by omega); (try have hq_2_w_5 : w_5.heap.size < w_2.heap.size := by omega)) | (go_at_call 30; refine (eqDesk_same _ _ _ _ p q _ _ L _ (HR6_8.out.below (show Below w6.heap.size w6 _ by exact zb) zO) (hI2.below (show Below w_2.heap.size w_2 _ by exact zb) (Nat.le_refl _)) hn).mono ?_; rintro e w_5 ⟨rfl, hb_5⟩; obtain ⟨hc_5, hf_5⟩ := bcell hb_5; have hz_5 := hb_5.size; (try simp at hz_5); have kx0 := (hb_5.cell (p := ⟨w4.heap.size, 0, none⟩) zo).trans (show _ = some (.int .i64 p) by (repeat (first | with_reducible assumption | with_reducible refine cell_alloc_is _ ?_ | with_reducible refine cell_drew_is ?_ | with_reducible refine cell_set_is ?_ ?_ | omega))); have kx1 := (hb_5.cell (p := ⟨w4.heap.size, 1, none⟩) zo).trans (show _ = some (.int .i64 q) by (repeat (first | with_reducible assumption | with_reducible refine cell_alloc_is _ ?_ | with_reducible refine cell_drew_is ?_ | with_reducible refine cell_set_is ?_ ?_ | omega))); have kx2 := (hb_5.cell (p := ⟨w4.heap.size, 2, none⟩) zo).trans (show _ = some (.slice a8 L.length c8) by (repeat (first | with_reducible assumption | with_reducible refine cell_alloc_is _ ?_ | with_reducible refine cell_drew_is ?_ | with_reducible refine cell_set_is ?_ ?_ | omega))); have kx3 := (hb_5.cell (p := ⟨w.heap.size, 0, none⟩) zo).trans (show _ = some (.int .i64 p) by (repeat (first | with_reducible assumption | with_reducible refine cell_alloc_is _ ?_ | with_reducible refine cell_drew_is ?_ | with_reducible refine cell_set_is ?_ ?_ | omega))); have kx4 := (hb_5.cell (p := ⟨w.heap.size, 1, none⟩) zo).trans (show _ = some (.int .i64 q) by (repeat (first | with_reducible assumption | with_reducible refine cell_alloc_is _ ?_ | with_reducible refine cell_drew_is ?_ | with_reducible refine cell_set_is ?_ ?_ | omega))); have kx5 := (hb_5.cell (p := ⟨w.heap.size, 2, none⟩) zo).trans (show _ = some (.slice a L.length cap) by (repeat (first | with_reducible assumption | with_reducible refine cell_alloc_is _ ?_ | with_reducible refine cell_drew_is ?_ | with_reducible refine cell_set_is ?_ ?_ | omega))); (try have hq_5_w6 : w6.heap.size < w_5.heap.size := by omega); (try have hq_5_w_2 : w_2.heap.size < w_5.heap.size := by omega)) | fail))
     all_goals (go_wp2_with fail; go_meet)
     all_goals
       case rel => exact ⟨rfl, by exact zb⟩
   rename World => w7
   obtain ⟨rfl, hN7⟩ := hcut
   obtain ⟨hc7, hf7⟩ := bcell hN7
   have hn7 := hN7.size
   have hs7_0 : w.heap.size < w7.heap.size := by omega
   have hs7_1 : w3.heap.size < w7.heap.size := by omega
   have hs7_2 : w4.heap.size < w7.heap.size := by omega
   have hs7_3 : w5.heap.size < w7.heap.size := by omega
   have kb7_0_0 : w7.cell? ⟨w.heap.size, 0, none⟩ = some (.int .i64 p) := by go_simp
   have kb7_0_1 : w7.cell? ⟨w.heap.size, 1, none⟩ = some (.int .i64 q) := by go_simp
   have kb7_0_2 : w7.cell? ⟨w.heap.size, 2, none⟩ = some (.slice a L.length cap) := by go_simp
   have kb7_1_0 : w7.cell? ⟨w3.heap.size, 0, none⟩ = some (.int .i64 rp) := by go_simp
   have kb7_1_1 : w7.cell? ⟨w3.heap.size, 1, none⟩ = some (.int .i64 rq) := by go_simp
   have kb7_1_2 : w7.cell? ⟨w3.heap.size, 2, none⟩ = some (.slice a6 R.length c6) := by go_simp
   have kb7_2_0 : w7.cell? ⟨w4.heap.size, 0, none⟩ = some (.int .i64 p) := by go_simp
   have kb7_2_1 : w7.cell? ⟨w4.heap.size, 1, none⟩ = some (.int .i64 q) := by go_simp
   have kb7_2_2 : w7.cell? ⟨w4.heap.size, 2, none⟩ = some (.slice a8 L.length c8) := by go_simp
   have kb7_3_0 : w7.cell? ⟨w5.heap.size, 0, none⟩ = some (.int .i64 rp) := by go_simp
   have kb7_3_1 : w7.cell? ⟨w5.heap.size, 1, none⟩ = some (.int .i64 rq) := by go_simp
   have kb7_3_2 : w7.cell? ⟨w5.heap.size, 2, none⟩ = some (.slice a10 R.length c10) := by go_simp
   have HB7 := Lib.hid (HB6.out.trans (hN7.mono zl))
   have HR7_6 := Lib.hid (HR6_6.out.below hN7 zl)
   have HR7_8 := Lib.hid (HR6_8.out.below hN7 zl)
   have HR7_10 := Lib.hid (HR6_10.out.below hN7 zl)
   clear hc7 hf7 hN7
   go_wp2_with fail
   refine (markDesk_any _ _ p q _ L 1 _ HR7_8.out hn zO zO).mono ?_
   rintro e w8 ⟨rfl, hI8, hM8⟩
   have hn8 := hM8.size
   have hs8_0 : w.heap.size < w8.heap.size := by omega
   have hs8_1 : w3.heap.size < w8.heap.size := by omega
   have hs8_2 : w4.heap.size < w8.heap.size := by omega
   have hs8_3 : w5.heap.size < w8.heap.size := by omega
   have kb8_0_0 : w8.cell? ⟨w.heap.size, 0, none⟩ = some (.int .i64 p) := (hM8.cell (by first | assumption | omega) zO 0).trans (by with_reducible assumption)
   have kb8_0_1 : w8.cell? ⟨w.heap.size, 1, none⟩ = some (.int .i64 q) := (hM8.cell (by first | assumption | omega) zO 1).trans (by with_reducible assumption)
   have kb8_0_2 : w8.cell? ⟨w.heap.size, 2, none⟩ = some (.slice a L.length cap) := (hM8.cell (by first | assumption | omega) zO 2).trans (by with_reducible assumption)
   have kb8_1_0 : w8.cell? ⟨w3.heap.size, 0, none⟩ = some (.int .i64 rp) := (hM8.cell (by first | assumption | omega) zO 0).trans (by with_reducible assumption)
   have kb8_1_1 : w8.cell? ⟨w3.heap.size, 1, none⟩ = some (.int .i64 rq) := (hM8.cell (by first | assumption | omega) zO 1).trans (by with_reducible assumption)
   have kb8_1_2 : w8.cell? ⟨w3.heap.size, 2, none⟩ = some (.slice a6 R.length c6) := (hM8.cell (by first | assumption | omega) zO 2).trans (by with_reducible assumption)
   have kb8_2_0 : w8.cell? ⟨w4.heap.size, 0, none⟩ = some (.int .i64 p) := (hM8.cell (by first | assumption | omega) zO 0).trans (by with_reducible assumption)
   have kb8_2_1 : w8.cell? ⟨w4.heap.size, 1, none⟩ = some (.int .i64 q) := (hM8.cell (by first | assumption | omega) zO 1).trans (by with_reducible assumption)
   have kb8_2_2 : w8.cell? ⟨w4.heap.size, 2, none⟩ = some (.slice a8 L.length c8) := (hM8.cell (by first | assumption | omega) zO 2).trans (by with_reducible assumption)
   have kb8_3_0 : w8.cell? ⟨w5.heap.size, 0, none⟩ = some (.int .i64 rp) := (hM8.cell (by first | assumption | omega) zO 0).trans (by with_reducible assumption)
   have kb8_3_1 : w8.cell? ⟨w5.heap.size, 1, none⟩ = some (.int .i64 rq) := (hM8.cell (by first | assumption | omega) zO 1).trans (by with_reducible assumption)
   have kb8_3_2 : w8.cell? ⟨w5.heap.size, 2, none⟩ = some (.slice a10 R.length c10) := (hM8.cell (by first | assumption | omega) zO 2).trans (by with_reducible assumption)
   have HB8 := Lib.hid (below_markedS HB7.out hM8 zO zO)
   have HR8_6 := Lib.hid (HR7_6.out.markedS2 hM8 zO)
   have HR8_10 := Lib.hid (HR7_10.out.markedS2 hM8 zO)
   clear hI8 hM8
   go_wp2_with fail
   refine (eqDesk_same _ _ _ _ rp rq _ _ R _ (HR8_10.out.below (show Below w8.heap.size w8 _ by exact zb) zl) (HR8_6.out.below (show Below w8.heap.size w8 _ by exact zb) zl) hRn).mono ?_
   rintro e w9 ⟨rfl, hb9⟩
   obtain ⟨hc9, hf9⟩ := bcell hb9
   have hz9 := hb9.size
   try simp at hz9
   have hN9 : Below w8.heap.size w8 w9 := by
     refine Below.trans ?_ (hb9.mono zo)
     exact zb
   have hn9 := hN9.size
   have hs9_0 : w.heap.size < w9.heap.size := by omega
   have hs9_1 : w3.heap.size < w9.heap.size := by omega
   have hs9_2 : w4.heap.size < w9.heap.size := by omega
   have hs9_3 : w5.heap.size < w9.heap.size := by omega
   have kb9_0_0 : w9.cell? ⟨w.heap.size, 0, none⟩ = some (.int .i64 p) := by go_simp
   have kb9_0_1 : w9.cell? ⟨w.heap.size, 1, none⟩ = some (.int .i64 q) := by go_simp
   have kb9_0_2 : w9.cell? ⟨w.heap.size, 2, none⟩ = some (.slice a L.length cap) := by go_simp
   have kb9_1_0 : w9.cell? ⟨w3.heap.size, 0, none⟩ = some (.int .i64 rp) := by go_simp
   have kb9_1_1 : w9.cell? ⟨w3.heap.size, 1, none⟩ = some (.int .i64 rq) := by go_simp
   have kb9_1_2 : w9.cell? ⟨w3.heap.size, 2, none⟩ = some (.slice a6 R.length c6) := by go_simp
   have kb9_2_0 : w9.cell? ⟨w4.heap.size, 0, none⟩ = some (.int .i64 p) := by go_simp
   have kb9_2_1 : w9.cell? ⟨w4.heap.size, 1, none⟩ = some (.int .i64 q) := by go_simp
   have kb9_2_2 : w9.cell? ⟨w4.heap.size, 2, none⟩ = some (.slice a8 L.length c8) := by go_simp
   have kb9_3_0 : w9.cell? ⟨w5.heap.size, 0, none⟩ = some (.int .i64 rp) := by go_simp
   have kb9_3_1 : w9.cell? ⟨w5.heap.size, 1, none⟩ = some (.int .i64 rq) := by go_simp
   have kb9_3_2 : w9.cell? ⟨w5.heap.size, 2, none⟩ = some (.slice a10 R.length c10) := by go_simp
   have HB9 := Lib.hid (HB8.out.trans (hN9.mono zl))
   have HR9_6 := Lib.hid (HR8_6.out.below hN9 zl)
   have HR9_10 := Lib.hid (HR8_10.out.below hN9 zl)
   clear hc9 hf9 hb9 hN9 hz9
   go_wp2_with fail
   refine (markDesk_any _ _ rp rq _ R 1 _ HR9_10.out hRn zO zO).mono ?_
   rintro e w10 ⟨rfl, hI10, hM10⟩
   have hn10 := hM10.size
   have hs10_0 : w.heap.size < w10.heap.size := by omega
   have hs10_1 : w3.heap.size < w10.heap.size := by omega
   have hs10_2 : w4.heap.size < w10.heap.size := by omega
   have hs10_3 : w5.heap.size < w10.heap.size := by omega
   have kb10_0_0 : w10.cell? ⟨w.heap.size, 0, none⟩ = some (.int .i64 p) := (hM10.cell (by first | assumption | omega) zO 0).trans (by with_reducible assumption)
   have kb10_0_1 : w10.cell? ⟨w.heap.size, 1, none⟩ = some (.int .i64 q) := (hM10.cell (by first | assumption | omega) zO 1).trans (by with_reducible assumption)
   have kb10_0_2 : w10.cell? ⟨w.heap.size, 2, none⟩ = some (.slice a L.length cap) := (hM10.cell (by first | assumption | omega) zO 2).trans (by with_reducible assumption)
   have kb10_1_0 : w10.cell? ⟨w3.heap.size, 0, none⟩ = some (.int .i64 rp) := (hM10.cell (by first | assumption | omega) zO 0).trans (by with_reducible assumption)
   have kb10_1_1 : w10.cell? ⟨w3.heap.size, 1, none⟩ = some (.int .i64 rq) := (hM10.cell (by first | assumption | omega) zO 1).trans (by with_reducible assumption)
   have kb10_1_2 : w10.cell? ⟨w3.heap.size, 2, none⟩ = some (.slice a6 R.length c6) := (hM10.cell (by first | assumption | omega) zO 2).trans (by with_reducible assumption)
   have kb10_2_0 : w10.cell? ⟨w4.heap.size, 0, none⟩ = some (.int .i64 p) := (hM10.cell (by first | assumption | omega) zO 0).trans (by with_reducible assumption)
   have kb10_2_1 : w10.cell? ⟨w4.heap.size, 1, none⟩ = some (.int .i64 q) := (hM10.cell (by first | assumption | omega) zO 1).trans (by with_reducible assumption)
   have kb10_2_2 : w10.cell? ⟨w4.heap.size, 2, none⟩ = some (.slice a8 L.length c8) := (hM10.cell (by first | assumption | omega) zO 2).trans (by with_reducible assumption)
   have kb10_3_0 : w10.cell? ⟨w5.heap.size, 0, none⟩ = some (.int .i64 rp) := (hM10.cell (by first | assumption | omega) zO 0).trans (by with_reducible assumption)
   have kb10_3_1 : w10.cell? ⟨w5.heap.size, 1, none⟩ = some (.int .i64 rq) := (hM10.cell (by first | assumption | omega) zO 1).trans (by with_reducible assumption)
   have kb10_3_2 : w10.cell? ⟨w5.heap.size, 2, none⟩ = some (.slice a10 R.length c10) := (hM10.cell (by first | assumption | omega) zO 2).trans (by with_reducible assumption)
   have HB10 := Lib.hid (below_markedS HB9.out hM10 zO zO)
   have HR10_6 := Lib.hid (HR9_6.out.markedS2 hM10 zO)
   have HR10_10 := Lib.hid hI10
   clear hI10 hM10
   go_wp2_with fail
   refine (heldDesk_any _ _ R.length rp rq _ 1 _ (HR10_10.out.below (show Below w10.heap.size w10 _ by exact zb) zl) hRn zO zO).mono ?_
   rintro e w11 ⟨rfl, hb11⟩
   obtain ⟨hc11, hf11⟩ := bcell hb11
   have hz11 := hb11.size
   try simp at hz11
   have hN11 : Below w10.heap.size w10 w11 := by
     refine Below.trans ?_ (hb11.mono zo)
     exact zb
   have hn11 := hN11.size
   have hs11_0 : w.heap.size < w11.heap.size := by omega
   have hs11_1 : w3.heap.size < w11.heap.size := by omega
   have hs11_2 : w4.heap.size < w11.heap.size := by omega
   have hs11_3 : w5.heap.size < w11.heap.size := by omega
   have kb11_0_0 : w11.cell? ⟨w.heap.size, 0, none⟩ = some (.int .i64 p) := by go_simp
   have kb11_0_1 : w11.cell? ⟨w.heap.size, 1, none⟩ = some (.int .i64 q) := by go_simp
   have kb11_0_2 : w11.cell? ⟨w.heap.size, 2, none⟩ = some (.slice a L.length cap) := by go_simp
   have kb11_1_0 : w11.cell? ⟨w3.heap.size, 0, none⟩ = some (.int .i64 rp) := by go_simp
   have kb11_1_1 : w11.cell? ⟨w3.heap.size, 1, none⟩ = some (.int .i64 rq) := by go_simp
   have kb11_1_2 : w11.cell? ⟨w3.heap.size, 2, none⟩ = some (.slice a6 R.length c6) := by go_simp
   have kb11_2_0 : w11.cell? ⟨w4.heap.size, 0, none⟩ = some (.int .i64 p) := by go_simp
   have kb11_2_1 : w11.cell? ⟨w4.heap.size, 1, none⟩ = some (.int .i64 q) := by go_simp
   have kb11_2_2 : w11.cell? ⟨w4.heap.size, 2, none⟩ = some (.slice a8 L.length c8) := by go_simp
   have kb11_3_0 : w11.cell? ⟨w5.heap.size, 0, none⟩ = some (.int .i64 rp) := by go_simp
   have kb11_3_1 : w11.cell? ⟨w5.heap.size, 1, none⟩ = some (.int .i64 rq) := by go_simp
   have kb11_3_2 : w11.cell? ⟨w5.heap.size, 2, none⟩ = some (.slice a10 R.length c10) := by go_simp
   have HB11 := Lib.hid (HB10.out.trans (hN11.mono zl))
   have HR11_6 := Lib.hid (HR10_6.out.below hN11 zl)
   have HR11_10 := Lib.hid (HR10_10.out.below hN11 zl)
   clear hc11 hf11 hb11 hN11 hz11
   go_wp2_with fail
   refine (toDesk_any p q L _ _ ((H.out.below HB11.out).below (show Below w11.heap.size w11 _ by exact zb)) hn).mono ?_
   rintro e w12 ⟨a13, c13, rfl, hI13, hb12⟩
   obtain ⟨hc12, hf12⟩ := bcell hb12
   have hz12 := hb12.size
   try simp at hz12
   have hN12 : Below w11.heap.size w11 w12 := by
     refine Below.trans ?_ (hb12.mono zo)
     exact zb
   have hn12 := hN12.size
   have hs12_0 : w.heap.size < w12.heap.size := by omega
   have hs12_1 : w3.heap.size < w12.heap.size := by omega
   have hs12_2 : w4.heap.size < w12.heap.size := by omega
   have hs12_3 : w5.heap.size < w12.heap.size := by omega
   have kb12_0_0 : w12.cell? ⟨w.heap.size, 0, none⟩ = some (.int .i64 p) := by go_simp
   have kb12_0_1 : w12.cell? ⟨w.heap.size, 1, none⟩ = some (.int .i64 q) := by go_simp
   have kb12_0_2 : w12.cell? ⟨w.heap.size, 2, none⟩ = some (.slice a L.length cap) := by go_simp
   have kb12_1_0 : w12.cell? ⟨w3.heap.size, 0, none⟩ = some (.int .i64 rp) := by go_simp
   have kb12_1_1 : w12.cell? ⟨w3.heap.size, 1, none⟩ = some (.int .i64 rq) := by go_simp
   have kb12_1_2 : w12.cell? ⟨w3.heap.size, 2, none⟩ = some (.slice a6 R.length c6) := by go_simp
   have kb12_2_0 : w12.cell? ⟨w4.heap.size, 0, none⟩ = some (.int .i64 p) := by go_simp
   have kb12_2_1 : w12.cell? ⟨w4.heap.size, 1, none⟩ = some (.int .i64 q) := by go_simp
   have kb12_2_2 : w12.cell? ⟨w4.heap.size, 2, none⟩ = some (.slice a8 L.length c8) := by go_simp
   have kb12_3_0 : w12.cell? ⟨w5.heap.size, 0, none⟩ = some (.int .i64 rp) := by go_simp
   have kb12_3_1 : w12.cell? ⟨w5.heap.size, 1, none⟩ = some (.int .i64 rq) := by go_simp
   have kb12_3_2 : w12.cell? ⟨w5.heap.size, 2, none⟩ = some (.slice a10 R.length c10) := by go_simp
   have HB12 := Lib.hid (HB11.out.trans (hN12.mono zl))
   have HR12_6 := Lib.hid (HR11_6.out.below hN12 zl)
   have HR12_10 := Lib.hid (HR11_10.out.below hN12 zl)
   try dsimp only at hI13
   try dsimp only
   clear hc12 hf12 hb12 hN12 hz12
   try simp only [World.size_alloc] at hI13
   have HR12_13 := Lib.hid (hI13)
   clear hI13
   go_wp2_with fail
   refine (HI.out _ _ _ _ _ (HR12_13.out.below (show Below w12.heap.size w12 _ by exact zb) zl) ((HT.out.below HB12.out (Nat.le_refl _)).below (show Below w12.heap.size w12 _ by exact zb) (Nat.le_refl _)) ((HE.out.below HB12.out (Nat.le_refl _)).below (show Below w12.heap.size w12 _ by exact zb) (Nat.le_refl _))).mono ?_
   rintro e w13 ⟨a15, c15, rfl, hI15, hb13⟩
   obtain ⟨hc13, hf13⟩ := bcell hb13
   have hz13 := hb13.size
   try simp at hz13
   have hN13 : Below w12.heap.size w12 w13 := by
     refine Below.trans ?_ (hb13.mono zo)
     exact zb
   have hn13 := hN13.size
   have hs13_0 : w.heap.size < w13.heap.size := by omega
   have hs13_1 : w3.heap.size < w13.heap.size := by omega
   have hs13_2 : w4.heap.size < w13.heap.size := by omega
   have hs13_3 : w5.heap.size < w13.heap.size := by omega
   have kb13_0_0 : w13.cell? ⟨w.heap.size, 0, none⟩ = some (.int .i64 p) := by go_simp
   have kb13_0_1 : w13.cell? ⟨w.heap.size, 1, none⟩ = some (.int .i64 q) := by go_simp
   have kb13_0_2 : w13.cell? ⟨w.heap.size, 2, none⟩ = some (.slice a L.length cap) := by go_simp
   have kb13_1_0 : w13.cell? ⟨w3.heap.size, 0, none⟩ = some (.int .i64 rp) := by go_simp
   have kb13_1_1 : w13.cell? ⟨w3.heap.size, 1, none⟩ = some (.int .i64 rq) := by go_simp
   have kb13_1_2 : w13.cell? ⟨w3.heap.size, 2, none⟩ = some (.slice a6 R.length c6) := by go_simp
   have kb13_2_0 : w13.cell? ⟨w4.heap.size, 0, none⟩ = some (.int .i64 p) := by go_simp
   have kb13_2_1 : w13.cell? ⟨w4.heap.size, 1, none⟩ = some (.int .i64 q) := by go_simp
   have kb13_2_2 : w13.cell? ⟨w4.heap.size, 2, none⟩ = some (.slice a8 L.length c8) := by go_simp
   have kb13_3_0 : w13.cell? ⟨w5.heap.size, 0, none⟩ = some (.int .i64 rp) := by go_simp
   have kb13_3_1 : w13.cell? ⟨w5.heap.size, 1, none⟩ = some (.int .i64 rq) := by go_simp
   have kb13_3_2 : w13.cell? ⟨w5.heap.size, 2, none⟩ = some (.slice a10 R.length c10) := by go_simp
   have HB13 := Lib.hid (HB12.out.trans (hN13.mono zl))
   have HR13_6 := Lib.hid (HR12_6.out.below hN13 zl)
   have HR13_10 := Lib.hid (HR12_10.out.below hN13 zl)
   have HR13_13 := Lib.hid (HR12_13.out.below hN13 zl)
   clear hc13 hf13 hb13 hN13 hz13
   try simp only [World.size_alloc] at hI15
   have HR13_15 := Lib.hid (hI15)
   clear hI15
   go_wp2_with fail
   refine (eqDesk_same _ _ _ _ rp rq _ _ R _ (HR13_15.out.below (show Below w13.heap.size w13 _ by exact zb) zl) (HR13_6.out.below (show Below w13.heap.size w13 _ by exact zb) zl) hRn).mono ?_
   rintro e w14 ⟨rfl, hb14⟩
   obtain ⟨hc14, hf14⟩ := bcell hb14
   have hz14 := hb14.size
   try simp at hz14
   have hN14 : Below w13.heap.size w13 w14 := by
     refine Below.trans ?_ (hb14.mono zo)
     exact zb
   have hn14 := hN14.size
   have hs14_0 : w.heap.size < w14.heap.size := by omega
   have hs14_1 : w3.heap.size < w14.heap.size := by omega
   have hs14_2 : w4.heap.size < w14.heap.size := by omega
   have hs14_3 : w5.heap.size < w14.heap.size := by omega
   have hs14_4 : w13.heap.size < w14.heap.size := by omega
   have kb14_0_0 : w14.cell? ⟨w.heap.size, 0, none⟩ = some (.int .i64 p) := by go_simp
   have kb14_0_1 : w14.cell? ⟨w.heap.size, 1, none⟩ = some (.int .i64 q) := by go_simp
   have kb14_0_2 : w14.cell? ⟨w.heap.size, 2, none⟩ = some (.slice a L.length cap) := by go_simp
   have kb14_1_0 : w14.cell? ⟨w3.heap.size, 0, none⟩ = some (.int .i64 rp) := by go_simp
   have kb14_1_1 : w14.cell? ⟨w3.heap.size, 1, none⟩ = some (.int .i64 rq) := by go_simp
   have kb14_1_2 : w14.cell? ⟨w3.heap.size, 2, none⟩ = some (.slice a6 R.length c6) := by go_simp
   have kb14_2_0 : w14.cell? ⟨w4.heap.size, 0, none⟩ = some (.int .i64 p) := by go_simp
   have kb14_2_1 : w14.cell? ⟨w4.heap.size, 1, none⟩ = some (.int .i64 q) := by go_simp
   have kb14_2_2 : w14.cell? ⟨w4.heap.size, 2, none⟩ = some (.slice a8 L.length c8) := by go_simp
   have kb14_3_0 : w14.cell? ⟨w5.heap.size, 0, none⟩ = some (.int .i64 rp) := by go_simp
   have kb14_3_1 : w14.cell? ⟨w5.heap.size, 1, none⟩ = some (.int .i64 rq) := by go_simp
   have kb14_3_2 : w14.cell? ⟨w5.heap.size, 2, none⟩ = some (.slice a10 R.length c10) := by go_simp
   have kb14_4_0 : w14.cell? ⟨w13.heap.size, 0, none⟩ = some (.int .i64 rp) := by go_simp
   have kb14_4_1 : w14.cell? ⟨w13.heap.size, 1, none⟩ = some (.int .i64 rq) := by go_simp
   have kb14_4_2 : w14.cell? ⟨w13.heap.size, 2, none⟩ = some (.slice a15 R.length c15) := by go_simp
   have HB14 := Lib.hid (HB13.out.trans (hN14.mono zl))
   have HR14_6 := Lib.hid (HR13_6.out.below hN14 zl)
   have HR14_10 := Lib.hid (HR13_10.out.below hN14 zl)
   have HR14_15 := Lib.hid (HR13_15.out.below hN14 zl)
   clear hc14 hf14 hb14 hN14 hz14
   go_wp2_with fail
   refine (heldDesk_any _ _ R.length rp rq _ 1 _ (HR14_10.out.below (show Below w14.heap.size w14 _ by exact zb) zl) hRn zO zO).mono ?_
   rintro e w15 ⟨rfl, hb15⟩
   obtain ⟨hc15, hf15⟩ := bcell hb15
   have hz15 := hb15.size
   try simp at hz15
   have hN15 : Below w14.heap.size w14 w15 := by
     refine Below.trans ?_ (hb15.mono zo)
     exact zb
   have hn15 := hN15.size
   have hs15_0 : w.heap.size < w15.heap.size := by omega
   have hs15_1 : w3.heap.size < w15.heap.size := by omega
   have hs15_2 : w4.heap.size < w15.heap.size := by omega
   have hs15_3 : w5.heap.size < w15.heap.size := by omega
   have hs15_4 : w13.heap.size < w15.heap.size := by omega
   have kb15_0_0 : w15.cell? ⟨w.heap.size, 0, none⟩ = some (.int .i64 p) := by go_simp
   have kb15_0_1 : w15.cell? ⟨w.heap.size, 1, none⟩ = some (.int .i64 q) := by go_simp
   have kb15_0_2 : w15.cell? ⟨w.heap.size, 2, none⟩ = some (.slice a L.length cap) := by go_simp
   have kb15_1_0 : w15.cell? ⟨w3.heap.size, 0, none⟩ = some (.int .i64 rp) := by go_simp
   have kb15_1_1 : w15.cell? ⟨w3.heap.size, 1, none⟩ = some (.int .i64 rq) := by go_simp
   have kb15_1_2 : w15.cell? ⟨w3.heap.size, 2, none⟩ = some (.slice a6 R.length c6) := by go_simp
   have kb15_2_0 : w15.cell? ⟨w4.heap.size, 0, none⟩ = some (.int .i64 p) := by go_simp
   have kb15_2_1 : w15.cell? ⟨w4.heap.size, 1, none⟩ = some (.int .i64 q) := by go_simp
   have kb15_2_2 : w15.cell? ⟨w4.heap.size, 2, none⟩ = some (.slice a8 L.length c8) := by go_simp
   have kb15_3_0 : w15.cell? ⟨w5.heap.size, 0, none⟩ = some (.int .i64 rp) := by go_simp
   have kb15_3_1 : w15.cell? ⟨w5.heap.size, 1, none⟩ = some (.int .i64 rq) := by go_simp
   have kb15_3_2 : w15.cell? ⟨w5.heap.size, 2, none⟩ = some (.slice a10 R.length c10) := by go_simp
   have kb15_4_0 : w15.cell? ⟨w13.heap.size, 0, none⟩ = some (.int .i64 rp) := by go_simp
   have kb15_4_1 : w15.cell? ⟨w13.heap.size, 1, none⟩ = some (.int .i64 rq) := by go_simp
   have kb15_4_2 : w15.cell? ⟨w13.heap.size, 2, none⟩ = some (.slice a15 R.length c15) := by go_simp
   have HB15 := Lib.hid (HB14.out.trans (hN15.mono zl))
   have HR15_6 := Lib.hid (HR14_6.out.below hN15 zl)
   have HR15_10 := Lib.hid (HR14_10.out.below hN15 zl)
   have HR15_15 := Lib.hid (HR14_15.out.below hN15 zl)
   clear hc15 hf15 hb15 hN15 hz15
   go_wp2
   go_ret
   exact ⟨rfl, HB15.out⟩
end
end Go.Proofs.YtblphilcmfabkaaGreatDoor
