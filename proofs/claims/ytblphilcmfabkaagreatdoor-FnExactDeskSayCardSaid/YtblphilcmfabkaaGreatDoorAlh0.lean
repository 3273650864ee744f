/- Contracts and laws that the statement's proof stands on, one text behind the other. -/
import Derived.Test.YtblphilcmfabkaaGreatDoorAla4
import Derived.Test.YtblphilcmfabkaaGreatDoorAlb0
import Derived.Test.YtblphilcmfabkaaGreatDoorAle0
import Derived.Deep.RegionWith
import Derived.Deep.Cut
import Derived.Deep.RegionHeld3
import Derived.Deep.DeepCutAuto

namespace Go.Proofs.YtblphilcmfabkaaGreatDoor
section
open Go.RowKit
set_option maxRecDepth 100000 in
set_option maxHeartbeats 8000000 in
theorem fnExactDeskSay_walk (p q : Int) (u : Value) (L : List (Int × Int)) (v : Value) (X : List ByteArray) (w : World) (h : SeesPairs w u L) (hl : L.length ≤ maxLen) (hx : SeesStrs w v X) (hlx : X.length ≤ maxLen) (ht : PowTab w) (he : Errs w) :
   Calls Tryz.prog 7 #[.agg #[.int .i64 p, .int .i64 q, u], v] w fun e w' => e = .returned (.bool true) ∧ Below w.heap.size w w' := by
 obtain ⟨a, cap, rfl, _⟩ := id h
 rcases Nat.lt_or_ge 1048576 L.length with hbig | hsm
 · go_enter Tryz.func7, Tryz.ntmps7
   go_wp2_with fail
   refine (szDesk_big p q a L.length cap 1048576 zO hbig hl _).mono ?_
   rintro e w1 ⟨rfl, hb1⟩
   go_wp2
   go_ret
   exact ⟨rfl, by exact zb⟩
 · have h3 : ¬ (((1048576 - L.length : Nat) : Int) < 0) := by omega
   have hn : L.length ≤ 1048600 := by omega
   have H := Lib.hid h
   have HX := Lib.hid hx
   have HT := Lib.hid ht
   have HE := Lib.hid he
   clear h hx ht he
   go_enter Tryz.func7, Tryz.ntmps7
   go_wp2_with fail
   refine (szDesk_fit p q a L.length cap 1048576 zO hsm _).mono ?_
   rintro e w1 ⟨rfl, hb1⟩
   obtain ⟨hc1, hf1⟩ := bcell hb1
   have hz1 := hb1.size
   try simp at hz1
   have hN1 : Below w.heap.size w w1 := by
     refine Below.trans ?_ (hb1.mono zo)
     exact zb
   have hn1 := hN1.size
   have hs1_0 : w.heap.size < w1.heap.size := by omega
   have kb1_0_0 : w1.cell? ⟨w.heap.size, 0, none⟩ = some (.int .i64 p) := by go_simp
   have kb1_0_1 : w1.cell? ⟨w.heap.size, 1, none⟩ = some (.int .i64 q) := by go_simp
   have kb1_0_2 : w1.cell? ⟨w.heap.size, 2, none⟩ = some (.slice a L.length cap) := by go_simp
   have HB1 := Lib.hid ((Below.refl w.heap.size w).trans (hN1.mono zl))
   clear hc1 hf1 hb1 hN1 hz1
   go_wp2_with fail
   refine (szLines_any X _ (1048576 - L.length) zO _ ((HX.out.below HB1.out).below (show Below w1.heap.size w1 _ by exact zb)) hlx).mono ?_
   rintro e w2 ⟨r, rfl, hr, hb2⟩
   obtain ⟨hc2, hf2⟩ := bcell hb2
   have hz2 := hb2.size
   try simp at hz2
   have hN2 : Below w1.heap.size w1 w2 := by
     refine Below.trans ?_ (hb2.mono zo)
     exact zb
   have hn2 := hN2.size
   have hs2_0 : w.heap.size < w2.heap.size := by omega
   have kb2_0_0 : w2.cell? ⟨w.heap.size, 0, none⟩ = some (.int .i64 p) := by go_simp
   have kb2_0_1 : w2.cell? ⟨w.heap.size, 1, none⟩ = some (.int .i64 q) := by go_simp
   have kb2_0_2 : w2.cell? ⟨w.heap.size, 2, none⟩ = some (.slice a L.length cap) := by go_simp
   have HB2 := Lib.hid (HB1.out.trans (hN2.mono zl))
   clear hc2 hf2 hb2 hN2 hz2
   rcases hr with hneg | ⟨hr0, hxl, hsz⟩
   · go_wp2
     go_ret
     exact ⟨rfl, HB2.out⟩
   have hr1 : ¬ r < 0 := by omega
   have hm : X.length ≤ 1048600 := by omega
   have h4 : ¬ (1 + 2 * (L.length : Int) + (X.length : Int) < 0) := by omega
   have hS := fun (W : World) (B C B' C' : Nat) (a : Option Addr) (c : Nat) (u : Value) (hI : IsPairs B C W (.slice a L.length c) L) (hK : IsStrs B' C' W u X.length (txtAt X)) => specSay_any B C B' C' p q L X _ u W hI hn hK (fun i hi => Nat.le_trans (hsz i hi) zO)
   have hI := fun (W : World) (B C B' C' : Nat) (a : Option Addr) (c : Nat) (u : Value) (hI : IsPairs B C W (.slice a L.length c) L) (hK : IsStrs B' C' W u X.length (txtAt X)) hT hE => implSay_any B C B' C' p q L X _ u W hI hn hK (fun i hi => Nat.le_trans (hsz i hi) zO) hT hE
   unfold SayS at hS hI
   obtain ⟨rp, rq, R, A, hres⟩ : ∃ rp rq R A, sayR ⟨(p, q), L⟩ X = (⟨(rp, rq), R⟩, A) := ⟨_, _, _, _, rfl⟩
   have hlen := sayR_len ⟨(p, q), L⟩ X
   rw [hres] at hS hI hlen
   dsimp only at hS hI hlen
   obtain ⟨hA40, hR8⟩ := hlen
   have hRn : R.length ≤ 1048600 := by omega
   have h5 : ¬ (1 + 2 * (R.length : Int) < 0) := by omega
   have h6 : ¬ (1 + 2 * (R.length : Int) + (A.length : Int) < 0) := by omega
   have HS := Lib.hid hS
   have HI := Lib.hid hI
   clear hS hI hres hsz
   go_wp2_with fail
   refine (toDesk_any p q L _ _ ((H.out.below HB2.out).below (show Below w2.heap.size w2 _ by exact zb)) hn).mono ?_
   rintro e w3 ⟨a3, c3, rfl, hI3, hb3⟩
   obtain ⟨hc3, hf3⟩ := bcell hb3
   have hz3 := hb3.size
   try simp at hz3
   have hN3 : Below w2.heap.size w2 w3 := by
     refine Below.trans ?_ (hb3.mono zo)
     exact zb
   have hn3 := hN3.size
   have hs3_0 : w.heap.size < w3.heap.size := by omega
   have kb3_0_0 : w3.cell? ⟨w.heap.size, 0, none⟩ = some (.int .i64 p) := by go_simp
   have kb3_0_1 : w3.cell? ⟨w.heap.size, 1, none⟩ = some (.int .i64 q) := by go_simp
   have kb3_0_2 : w3.cell? ⟨w.heap.size, 2, none⟩ = some (.slice a L.length cap) := by go_simp
   have HB3 := Lib.hid (HB2.out.trans (hN3.mono zl))
   try dsimp only at hI3
   try dsimp only
   clear hc3 hf3 hb3 hN3 hz3
   try simp only [World.size_alloc] at hI3
   have HR3_3 := Lib.hid (hI3)
   clear hI3
   go_wp2_with fail
   refine (toLines_any X _ _ ((HX.out.below HB3.out).below (show Below w3.heap.size w3 _ by exact zb)) hm).mono ?_
   rintro e w4 ⟨us4, rfl, hIs4, hb4⟩
   obtain ⟨hc4, hf4⟩ := bcell hb4
   have hz4 := hb4.size
   try simp at hz4
   have hN4 : Below w3.heap.size w3 w4 := by
     refine Below.trans ?_ (hb4.mono zo)
     exact zb
   have hn4 := hN4.size
   have hs4_0 : w.heap.size < w4.heap.size := by omega
   have kb4_0_0 : w4.cell? ⟨w.heap.size, 0, none⟩ = some (.int .i64 p) := by go_simp
   have kb4_0_1 : w4.cell? ⟨w.heap.size, 1, none⟩ = some (.int .i64 q) := by go_simp
   have kb4_0_2 : w4.cell? ⟨w.heap.size, 2, none⟩ = some (.slice a L.length cap) := by go_simp
   have HB4 := Lib.hid (HB3.out.trans (hN4.mono zl))
   have HR4_3 := Lib.hid (HR3_3.out.below hN4 zl)
   clear hc4 hf4 hb4 hN4 hz4
   try simp only [World.size_alloc] at hIs4
   have HR4_s4 := Lib.hid (hIs4)
   clear hIs4
   go_wp2_with fail
   refine (HS.out _ _ _ _ _ _ _ _ (HR4_3.out.below (show Below w4.heap.size w4 _ by exact zb) zl) (HR4_s4.out.below (show Below w4.heap.size w4 _ by exact zb) zl)).mono ?_
   rintro e w5 ⟨a6, c6, b6, k6, P6, Q6, S6, T6, rfl, hI6, hJ6, ⟨hp6, hq6, hd6⟩, hb5⟩
   obtain ⟨hc5, hf5⟩ := bcell hb5
   have hz5 := hb5.size
   try simp at hz5
   have hN5 : Below w4.heap.size w4 w5 := by
     refine Below.trans ?_ (hb5.mono zo)
     exact zb
   have hn5 := hN5.size
   have hs5_0 : w.heap.size < w5.heap.size := by omega
   have kb5_0_0 : w5.cell? ⟨w.heap.size, 0, none⟩ = some (.int .i64 p) := by go_simp
   have kb5_0_1 : w5.cell? ⟨w.heap.size, 1, none⟩ = some (.int .i64 q) := by go_simp
   have kb5_0_2 : w5.cell? ⟨w.heap.size, 2, none⟩ = some (.slice a L.length cap) := by go_simp
   have HB5 := Lib.hid (HB4.out.trans (hN5.mono zl))
   have HR5_3 := Lib.hid (HR4_3.out.below hN5 zl)
   have HR5_s4 := Lib.hid (HR4_s4.out.below hN5 zl)
   clear hc5 hf5 hb5 hN5 hz5
   try simp only [World.size_alloc] at hp6
   try simp only [World.size_alloc] at hq6
   have hQ6 : Q6 ≤ w5.heap.size := by obtain ⟨_, _, _, h, _⟩ := id hI6; exact h
   have hT6 : T6 ≤ w5.heap.size := by obtain ⟨_, _, _, h, _⟩ := id hJ6; exact h
   have HR5_6 := Lib.hid (hI6)
   have HR5_s6 := Lib.hid (hJ6)
   clear hI6 hJ6
   go_wp2_with fail
   refine (toDesk_any p q L _ _ ((H.out.below HB5.out).below (show Below w5.heap.size w5 _ by exact zb)) hn).mono ?_
   rintro e w6 ⟨a8, c8, rfl, hI8, hb6⟩
   obtain ⟨hc6, hf6⟩ := bcell hb6
   have hz6 := hb6.size
   try simp at hz6
   have hN6 : Below w5.heap.size w5 w6 := by
     refine Below.trans ?_ (hb6.mono zo)
     exact zb
   have hn6 := hN6.size
   have hs6_0 : w.heap.size < w6.heap.size := by omega
   have hs6_1 : w5.heap.size < w6.heap.size := by omega
   have kb6_0_0 : w6.cell? ⟨w.heap.size, 0, none⟩ = some (.int .i64 p) := by go_simp
   have kb6_0_1 : w6.cell? ⟨w.heap.size, 1, none⟩ = some (.int .i64 q) := by go_simp
   have kb6_0_2 : w6.cell? ⟨w.heap.size, 2, none⟩ = some (.slice a L.length cap) := by go_simp
   have kb6_1_0 : w6.cell? ⟨w5.heap.size, 0, none⟩ = some (.int .i64 rp) := by go_simp
   have kb6_1_1 : w6.cell? ⟨w5.heap.size, 1, none⟩ = some (.int .i64 rq) := by go_simp
   have kb6_1_2 : w6.cell? ⟨w5.heap.size, 2, none⟩ = some (.slice a6 R.length c6) := by go_simp
   have HB6 := Lib.hid (HB5.out.trans (hN6.mono zl))
   have HR6_6 := Lib.hid (HR5_6.out.below hN6 zl)
   have HR6_s6 := Lib.hid (HR5_s6.out.below hN6 zl)
   try dsimp only at hI8
   try dsimp only
   clear hc6 hf6 hb6 hN6 hz6
   try simp only [World.size_alloc] at hI8
   have HR6_8 := Lib.hid (hI8)
   clear hI8
   go_wp2_with fail
   refine (toLines_any X _ _ ((HX.out.below HB6.out).below (show Below w6.heap.size w6 _ by exact zb)) hm).mono ?_
   rintro e w7 ⟨us9, rfl, hIs9, hb7⟩
   obtain ⟨hc7, hf7⟩ := bcell hb7
   have hz7 := hb7.size
   try simp at hz7
   have hN7 : Below w6.heap.size w6 w7 := by
     refine Below.trans ?_ (hb7.mono zo)
     exact zb
   have hn7 := hN7.size
   have hs7_0 : w.heap.size < w7.heap.size := by omega
   have hs7_1 : w5.heap.size < w7.heap.size := by omega
   have hs7_2 : w6.heap.size < w7.heap.size := by omega
   have kb7_0_0 : w7.cell? ⟨w.heap.size, 0, none⟩ = some (.int .i64 p) := by go_simp
   have kb7_0_1 : w7.cell? ⟨w.heap.size, 1, none⟩ = some (.int .i64 q) := by go_simp
   have kb7_0_2 : w7.cell? ⟨w.heap.size, 2, none⟩ = some (.slice a L.length cap) := by go_simp
   have kb7_1_0 : w7.cell? ⟨w5.heap.size, 0, none⟩ = some (.int .i64 rp) := by go_simp
   have kb7_1_1 : w7.cell? ⟨w5.heap.size, 1, none⟩ = some (.int .i64 rq) := by go_simp
   have kb7_1_2 : w7.cell? ⟨w5.heap.size, 2, none⟩ = some (.slice a6 R.length c6) := by go_simp
   have kb7_2_0 : w7.cell? ⟨w6.heap.size, 0, none⟩ = some (.int .i64 p) := by go_simp
   have kb7_2_1 : w7.cell? ⟨w6.heap.size, 1, none⟩ = some (.int .i64 q) := by go_simp
   have kb7_2_2 : w7.cell? ⟨w6.heap.size, 2, none⟩ = some (.slice a8 L.length c8) := by go_simp
   have HB7 := Lib.hid (HB6.out.trans (hN7.mono zl))
   have HR7_6 := Lib.hid (HR6_6.out.below hN7 zl)
   have HR7_s6 := Lib.hid (HR6_s6.out.below hN7 zl)
   have HR7_8 := Lib.hid (HR6_8.out.below hN7 zl)
   clear hc7 hf7 hb7 hN7 hz7
   try simp only [World.size_alloc] at hIs9
   have HR7_s9 := Lib.hid (hIs9)
   clear hIs9
   go_wp2_with fail
   refine (HI.out _ _ _ _ _ _ _ _ (HR7_8.out.below (show Below w7.heap.size w7 _ by exact zb) zl) (HR7_s9.out.below (show Below w7.heap.size w7 _ by exact zb) zl) ((HT.out.below HB7.out (Nat.le_refl _)).below (show Below w7.heap.size w7 _ by exact zb) (Nat.le_refl _)) ((HE.out.below HB7.out (Nat.le_refl _)).below (show Below w7.heap.size w7 _ by exact zb) (Nat.le_refl _))).mono ?_
   rintro e w8 ⟨a10, c10, b10, k10, P10, Q10, S10, T10, rfl, hI10, hJ10, ⟨hp10, hq10, hd10⟩, hb8⟩
   obtain ⟨hc8, hf8⟩ := bcell hb8
   have hz8 := hb8.size
   try simp at hz8
   have hN8 : Below w7.heap.size w7 w8 := by
     refine Below.trans ?_ (hb8.mono zo)
     exact zb
   have hn8 := hN8.size
   have hs8_0 : w.heap.size < w8.heap.size := by omega
   have hs8_1 : w5.heap.size < w8.heap.size := by omega
   have hs8_2 : w6.heap.size < w8.heap.size := by omega
   have kb8_0_0 : w8.cell? ⟨w.heap.size, 0, none⟩ = some (.int .i64 p) := by go_simp
   have kb8_0_1 : w8.cell? ⟨w.heap.size, 1, none⟩ = some (.int .i64 q) := by go_simp
   have kb8_0_2 : w8.cell? ⟨w.heap.size, 2, none⟩ = some (.slice a L.length cap) := by go_simp
   have kb8_1_0 : w8.cell? ⟨w5.heap.size, 0, none⟩ = some (.int .i64 rp) := by go_simp
   have kb8_1_1 : w8.cell? ⟨w5.heap.size, 1, none⟩ = some (.int .i64 rq) := by go_simp
   have kb8_1_2 : w8.cell? ⟨w5.heap.size, 2, none⟩ = some (.slice a6 R.length c6) := by go_simp
   have kb8_2_0 : w8.cell? ⟨w6.heap.size, 0, none⟩ = some (.int .i64 p) := by go_simp
   have kb8_2_1 : w8.cell? ⟨w6.heap.size, 1, none⟩ = some (.int .i64 q) := by go_simp
   have kb8_2_2 : w8.cell? ⟨w6.heap.size, 2, none⟩ = some (.slice a8 L.length c8) := by go_simp
   have HB8 := Lib.hid (HB7.out.trans (hN8.mono zl))
   have HR8_6 := Lib.hid (HR7_6.out.below hN8 zl)
   have HR8_s6 := Lib.hid (HR7_s6.out.below hN8 zl)
   have HR8_8 := Lib.hid (HR7_8.out.below hN8 zl)
   have HR8_s9 := Lib.hid (HR7_s9.out.below hN8 zl)
   clear hc8 hf8 hb8 hN8 hz8
   try simp only [World.size_alloc] at hp10
   try simp only [World.size_alloc] at hq10
   have hQ10 : Q10 ≤ w8.heap.size := by obtain ⟨_, _, _, h, _⟩ := id hI10; exact h
   have hT10 : T10 ≤ w8.heap.size := by obtain ⟨_, _, _, h, _⟩ := id hJ10; exact h
   have HR8_10 := Lib.hid (hI10)
   have HR8_s10 := Lib.hid (hJ10)
   clear hI10 hJ10
   go_wp2_with fail
   refine (eqDesk_same _ _ _ _ rp rq _ _ R _ (HR8_10.out.below (show Below w8.heap.size w8 _ by exact zb) zl) (HR8_6.out.below (show Below w8.heap.size w8 _ by exact zb) zl) hRn).mono ?_
   rintro e w9 ⟨rfl, hb9⟩
   obtain ⟨hc9, hf9⟩ := bcell hb9
   have hz9 := hb9.size
   try simp at hz9
   have hN9 : Below w8.heap.size w8 w9 := by
     refine Below.trans ?_ (hb9.mono zo)
     exact zb
   have hn9 := hN9.size
   have hs9_0 : w.heap.size < w9.heap.size := by omega
   have hs9_1 : w5.heap.size < w9.heap.size := by omega
   have hs9_2 : w6.heap.size < w9.heap.size := by omega
   have hs9_3 : w8.heap.size < w9.heap.size := by omega
   have kb9_0_0 : w9.cell? ⟨w.heap.size, 0, none⟩ = some (.int .i64 p) := by go_simp
   have kb9_0_1 : w9.cell? ⟨w.heap.size, 1, none⟩ = some (.int .i64 q) := by go_simp
   have kb9_0_2 : w9.cell? ⟨w.heap.size, 2, none⟩ = some (.slice a L.length cap) := by go_simp
   have kb9_1_0 : w9.cell? ⟨w5.heap.size, 0, none⟩ = some (.int .i64 rp) := by go_simp
   have kb9_1_1 : w9.cell? ⟨w5.heap.size, 1, none⟩ = some (.int .i64 rq) := by go_simp
   have kb9_1_2 : w9.cell? ⟨w5.heap.size, 2, none⟩ = some (.slice a6 R.length c6) := by go_simp
   have kb9_2_0 : w9.cell? ⟨w6.heap.size, 0, none⟩ = some (.int .i64 p) := by go_simp
   have kb9_2_1 : w9.cell? ⟨w6.heap.size, 1, none⟩ = some (.int .i64 q) := by go_simp
   have kb9_2_2 : w9.cell? ⟨w6.heap.size, 2, none⟩ = some (.slice a8 L.length c8) := by go_simp
   have kb9_3_0 : w9.cell? ⟨w8.heap.size, 0, none⟩ = some (.int .i64 rp) := by go_simp
   have kb9_3_1 : w9.cell? ⟨w8.heap.size, 1, none⟩ = some (.int .i64 rq) := by go_simp
   have kb9_3_2 : w9.cell? ⟨w8.heap.size, 2, none⟩ = some (.slice a10 R.length c10) := by go_simp
   have HB9 := Lib.hid (HB8.out.trans (hN9.mono zl))
   have HR9_6 := Lib.hid (HR8_6.out.below hN9 zl)
   have HR9_s6 := Lib.hid (HR8_s6.out.below hN9 zl)
   have HR9_8 := Lib.hid (HR8_8.out.below hN9 zl)
   have HR9_s9 := Lib.hid (HR8_s9.out.below hN9 zl)
   have HR9_10 := Lib.hid (HR8_10.out.below hN9 zl)
   have HR9_s10 := Lib.hid (HR8_s10.out.below hN9 zl)
   clear hc9 hf9 hb9 hN9 hz9
   go_wp2_with fail
   refine (eqStringS_same _ _ _ _ A.length _ _ (txtAt A) _ (HR9_s10.out.below (show Below w9.heap.size w9 _ by exact zb) zl) (HR9_s6.out.below (show Below w9.heap.size w9 _ by exact zb) zl) zO).mono ?_
   rintro e w10 ⟨rfl, hb10⟩
   obtain ⟨hc10, hf10⟩ := bcell hb10
   have hz10 := hb10.size
   try simp at hz10
   have hN10 : Below w9.heap.size w9 w10 := by
     refine Below.trans ?_ (hb10.mono zo)
     exact zb
   have hn10 := hN10.size
   have hs10_0 : w.heap.size < w10.heap.size := by omega
   have hs10_1 : w5.heap.size < w10.heap.size := by omega
   have hs10_2 : w6.heap.size < w10.heap.size := by omega
   have hs10_3 : w8.heap.size < w10.heap.size := by omega
   have kb10_0_0 : w10.cell? ⟨w.heap.size, 0, none⟩ = some (.int .i64 p) := by go_simp
   have kb10_0_1 : w10.cell? ⟨w.heap.size, 1, none⟩ = some (.int .i64 q) := by go_simp
   have kb10_0_2 : w10.cell? ⟨w.heap.size, 2, none⟩ = some (.slice a L.length cap) := by go_simp
   have kb10_1_0 : w10.cell? ⟨w5.heap.size, 0, none⟩ = some (.int .i64 rp) := by go_simp
   have kb10_1_1 : w10.cell? ⟨w5.heap.size, 1, none⟩ = some (.int .i64 rq) := by go_simp
   have kb10_1_2 : w10.cell? ⟨w5.heap.size, 2, none⟩ = some (.slice a6 R.length c6) := by go_simp
   have kb10_2_0 : w10.cell? ⟨w6.heap.size, 0, none⟩ = some (.int .i64 p) := by go_simp
   have kb10_2_1 : w10.cell? ⟨w6.heap.size, 1, none⟩ = some (.int .i64 q) := by go_simp
   have kb10_2_2 : w10.cell? ⟨w6.heap.size, 2, none⟩ = some (.slice a8 L.length c8) := by go_simp
   have kb10_3_0 : w10.cell? ⟨w8.heap.size, 0, none⟩ = some (.int .i64 rp) := by go_simp
   have kb10_3_1 : w10.cell? ⟨w8.heap.size, 1, none⟩ = some (.int .i64 rq) := by go_simp
   have kb10_3_2 : w10.cell? ⟨w8.heap.size, 2, none⟩ = some (.slice a10 R.length c10) := by go_simp
   have HB10 := Lib.hid (HB9.out.trans (hN10.mono zl))
   have HR10_6 := Lib.hid (HR9_6.out.below hN10 zl)
   have HR10_s6 := Lib.hid (HR9_s6.out.below hN10 zl)
   have HR10_8 := Lib.hid (HR9_8.out.below hN10 zl)
   have HR10_s9 := Lib.hid (HR9_s9.out.below hN10 zl)
   have HR10_10 := Lib.hid (HR9_10.out.below hN10 zl)
   have HR10_s10 := Lib.hid (HR9_s10.out.below hN10 zl)
   clear hc10 hf10 hb10 hN10 hz10
   have HSe3 := Lib.hid (H.out.below HB10.out)
   go_wp2_with fail
   go_cut [59] from 17 (fun s_ wx => s_ = .bool false ∧ Below w10.heap.size w10 wx)
   case first =>
     go_region_held3 (fun W_ => W_.cell? ⟨w6.heap.size, 0, none⟩ = some (.int .i64 p) ∧ W_.cell? ⟨w6.heap.size, 1, none⟩ = some (.int .i64 q) ∧ W_.cell? ⟨w6.heap.size, 2, none⟩ = some (.slice a8 L.length c8) ∧ W_.cell? ⟨w.heap.size, 0, none⟩ = some (.int .i64 p) ∧ W_.cell? ⟨w.heap.size, 1, none⟩ = some (.int .i64 q) ∧ W_.cell? ⟨w.heap.size, 2, none⟩ = some (.slice a L.length cap))
       ((go_split_ands; refine ⟨?_, ?_, ?_, ?_, ?_, ?_⟩ <;> (repeat (first | with_reducible assumption | with_reducible refine cell_alloc_is _ ?_ | with_reducible refine cell_drew_is ?_ | with_reducible refine cell_set_is ?_ ?_ | omega)); done))
       ((first | (go_at_call 29; refine (toDesk_any p q L _ _ (HSe3.out.below (show Below w10.heap.size w10 _ by exact zb)) hn).mono ?_; rintro e w_2 ⟨a2, c2, rfl, hI2, hb_2⟩; obtain ⟨hc_2, hf_2⟩ := bcell hb_2; have hz_2 := hb_2.size; (try simp at hz_2); have kx0 := (hb_2.cell (p := ⟨w6.heap.size, 0, none⟩) zo).trans (show _ = some (.int .i64 p) by (repeat (first | with_reducible assumption | with_reducible refine cell_alloc_is _ ?_ | with_reducible refine cell_drew_is ?_ | with_reducible refine cell_set_is ?_ ?_ | omega))); have kx1 := (hb_2.cell (p := ⟨w6.heap.size, 1, none⟩) zo).trans (show _ = some (.int .i64 q) by (repeat (first | with_reducible assumption | with_reducible refine cell_alloc_is _ ?_ | with_reducible refine cell_drew_is ?_ | with_reducible refine cell_set_is ?_ ?_ | omega))); have kx2 := (hb_2.cell (p := ⟨w6.heap.size, 2, none⟩) zo).trans (show _ = some (.slice a8 L.length c8) by (repeat (first | with_reducible assumption | with_reducible refine cell_alloc_is _ ?_ | with_reducible refine cell_drew_is ?_ | with_reducible refine cell_set_is ?_ ?_ | omega))); have kx3 := (hb_2.cell (p := ⟨w.heap.size, 0, none⟩) zo).trans (show _ = some (.int .i64 p) by (repeat (first | with_reducible assumption | with_reducible refine cell_alloc_is _ ?_ | with_reducible refine cell_drew_is ?_ | with_reducible refine cell_set_is ?_ ?_ | omega))); have kx4 := (hb_2.cell (p := ⟨w.heap.size, 1, none⟩) zo).trans (show _ = some (.int .i64 q) by (repeat (first | with_reducible assumption | with_reducible refine cell_alloc_is _ ?_ | with_reducible refine cell_drew_is ?_ | with_reducible refine cell_set_is ?_ ?_ | omega))); have kx5 := (hb_2.cell (p := ⟨w.heap.size, 2, none⟩) zo).trans (show _ = some (.slice a L.length cap) by (repeat (first | with_reducible assumption | with_reducible refine cell_alloc_is _ ?_ | with_reducible refine cell_drew_is ?_ | with_reducible refine cell_set_is ?_ ?_ | omega))); (dsimp only at hI2 ⊢); (try have hq_2_w10 : w10.heap.size < w_2.heap.size := by omega); (try have hq_2_w_5 : w_5.heap.size < w_2.heap.size := by omega)) | (go_at_call 30; refine (eqDesk_same _ _ _ _ p q _ _ L _ (HR10_8.out.below (show Below w10.heap.size w10 _ by exact zb) zO) (hI2.below (show Below w_2.heap.size w_2 _ by exact zb) (Nat.le_refl _)) hn).mono ?_; rintro e w_5 ⟨rfl, hb_5⟩; obtain ⟨hc_5, hf_5⟩ := bcell hb_5; have hz_5 := hb_5.size; (try simp at hz_5); have kx0 := (hb_5.cell (p := ⟨w6.heap.size, 0, none⟩) zo).trans (show _ = some (.int .i64 p) by (repeat (first | with_reducible assumption | with_reducible refine cell_alloc_is _ ?_ | with_reducible refine cell_drew_is ?_ | with_reducible refine cell_set_is ?_ ?_ | omega))); have kx1 := (hb_5.cell (p := ⟨w6.heap.size, 1, none⟩) zo).trans (show _ = some (.int .i64 q) by (repeat (first | with_reducible assumption | with_reducible refine cell_alloc_is _ ?_ | with_reducible refine cell_drew_is ?_ | with_reducible refine cell_set_is ?_ ?_ | omega))); have kx2 := (hb_5.cell (p := ⟨w6.heap.size, 2, none⟩) zo).trans (show _ = some (.slice a8 L.length c8) by (repeat (first | with_reducible assumption | with_reducible refine cell_alloc_is _ ?_ | with_reducible refine cell_drew_is ?_ | with_reducible refine cell_set_is ?_ ?_ | omega))); have kx3 := (hb_5.cell (p := ⟨w.heap.size, 0, none⟩) zo).trans (show _ = some (.int .i64 p) by (repeat (first | with_reducible assumption | with_reducible refine cell_alloc_is _ ?_ | with_reducible refine cell_drew_is ?_ | with_reducible refine cell_set_is ?_ ?_ | omega))); have kx4 := (hb_5.cell (p := ⟨w.heap.size, 1, none⟩) zo).trans (show _ = some (.int .i64 q) by (repeat (first | with_reducible assumption | with_reducible refine cell_alloc_is _ ?_ | with_reducible refine cell_drew_is ?_ | with_reducible refine cell_set_is ?_ ?_ | omega))); have kx5 := (hb_5.cell (p := ⟨w.heap.size, 2, none⟩) zo).trans (show _ = some (.slice a L.length cap) by (repeat (first | with_reducible assumption | with_reducible refine cell_alloc_is _ ?_ | with_reducible refine cell_drew_is ?_ | with_reducible refine cell_set_is ?_ ?_ | omega))); (try have hq_5_w10 : w10.heap.size < w_5.heap.size := by omega); (try have hq_5_w_2 : w_2.heap.size < w_5.heap.size := by omega)) | fail))
     all_goals (go_wp2_with fail; go_meet)
     all_goals
       case rel => exact ⟨rfl, by exact zb⟩
   rename World => w11
   obtain ⟨rfl, hN11⟩ := hcut
   obtain ⟨hc11, hf11⟩ := bcell hN11
   have hn11 := hN11.size
   have hs11_0 : w.heap.size < w11.heap.size := by omega
   have hs11_1 : w5.heap.size < w11.heap.size := by omega
   have hs11_2 : w6.heap.size < w11.heap.size := by omega
   have hs11_3 : w8.heap.size < w11.heap.size := by omega
   have kb11_0_0 : w11.cell? ⟨w.heap.size, 0, none⟩ = some (.int .i64 p) := by go_simp
   have kb11_0_1 : w11.cell? ⟨w.heap.size, 1, none⟩ = some (.int .i64 q) := by go_simp
   have kb11_0_2 : w11.cell? ⟨w.heap.size, 2, none⟩ = some (.slice a L.length cap) := by go_simp
   have kb11_1_0 : w11.cell? ⟨w5.heap.size, 0, none⟩ = some (.int .i64 rp) := by go_simp
   have kb11_1_1 : w11.cell? ⟨w5.heap.size, 1, none⟩ = some (.int .i64 rq) := by go_simp
   have kb11_1_2 : w11.cell? ⟨w5.heap.size, 2, none⟩ = some (.slice a6 R.length c6) := by go_simp
   have kb11_2_0 : w11.cell? ⟨w6.heap.size, 0, none⟩ = some (.int .i64 p) := by go_simp
   have kb11_2_1 : w11.cell? ⟨w6.heap.size, 1, none⟩ = some (.int .i64 q) := by go_simp
   have kb11_2_2 : w11.cell? ⟨w6.heap.size, 2, none⟩ = some (.slice a8 L.length c8) := by go_simp
   have kb11_3_0 : w11.cell? ⟨w8.heap.size, 0, none⟩ = some (.int .i64 rp) := by go_simp
   have kb11_3_1 : w11.cell? ⟨w8.heap.size, 1, none⟩ = some (.int .i64 rq) := by go_simp
   have kb11_3_2 : w11.cell? ⟨w8.heap.size, 2, none⟩ = some (.slice a10 R.length c10) := by go_simp
   have HB11 := Lib.hid (HB10.out.trans (hN11.mono zl))
   have HR11_6 := Lib.hid (HR10_6.out.below hN11 zl)
   have HR11_s6 := Lib.hid (HR10_s6.out.below hN11 zl)
   have HR11_8 := Lib.hid (HR10_8.out.below hN11 zl)
   have HR11_s9 := Lib.hid (HR10_s9.out.below hN11 zl)
   have HR11_10 := Lib.hid (HR10_10.out.below hN11 zl)
   have HR11_s10 := Lib.hid (HR10_s10.out.below hN11 zl)
   clear hc11 hf11 hN11
   go_wp2_with fail
   refine (toLines_any X _ _ ((HX.out.below HB11.out).below (show Below w11.heap.size w11 _ by exact zb)) hm).mono ?_
   rintro e w12 ⟨us11, rfl, hIs11, hb12⟩
   obtain ⟨hc12, hf12⟩ := bcell hb12
   have hz12 := hb12.size
   try simp at hz12
   have hN12 : Below w11.heap.size w11 w12 := by
     refine Below.trans ?_ (hb12.mono zo)
     exact zb
   have hn12 := hN12.size
   have hs12_0 : w.heap.size < w12.heap.size := by omega
   have hs12_1 : w5.heap.size < w12.heap.size := by omega
   have hs12_2 : w6.heap.size < w12.heap.size := by omega
   have hs12_3 : w8.heap.size < w12.heap.size := by omega
   have kb12_0_0 : w12.cell? ⟨w.heap.size, 0, none⟩ = some (.int .i64 p) := by go_simp
   have kb12_0_1 : w12.cell? ⟨w.heap.size, 1, none⟩ = some (.int .i64 q) := by go_simp
   have kb12_0_2 : w12.cell? ⟨w.heap.size, 2, none⟩ = some (.slice a L.length cap) := by go_simp
   have kb12_1_0 : w12.cell? ⟨w5.heap.size, 0, none⟩ = some (.int .i64 rp) := by go_simp
   have kb12_1_1 : w12.cell? ⟨w5.heap.size, 1, none⟩ = some (.int .i64 rq) := by go_simp
   have kb12_1_2 : w12.cell? ⟨w5.heap.size, 2, none⟩ = some (.slice a6 R.length c6) := by go_simp
   have kb12_2_0 : w12.cell? ⟨w6.heap.size, 0, none⟩ = some (.int .i64 p) := by go_simp
   have kb12_2_1 : w12.cell? ⟨w6.heap.size, 1, none⟩ = some (.int .i64 q) := by go_simp
   have kb12_2_2 : w12.cell? ⟨w6.heap.size, 2, none⟩ = some (.slice a8 L.length c8) := by go_simp
   have kb12_3_0 : w12.cell? ⟨w8.heap.size, 0, none⟩ = some (.int .i64 rp) := by go_simp
   have kb12_3_1 : w12.cell? ⟨w8.heap.size, 1, none⟩ = some (.int .i64 rq) := by go_simp
   have kb12_3_2 : w12.cell? ⟨w8.heap.size, 2, none⟩ = some (.slice a10 R.length c10) := by go_simp
   have HB12 := Lib.hid (HB11.out.trans (hN12.mono zl))
   have HR12_6 := Lib.hid (HR11_6.out.below hN12 zl)
   have HR12_s6 := Lib.hid (HR11_s6.out.below hN12 zl)
   have HR12_8 := Lib.hid (HR11_8.out.below hN12 zl)
   have HR12_s9 := Lib.hid (HR11_s9.out.below hN12 zl)
   have HR12_10 := Lib.hid (HR11_10.out.below hN12 zl)
   have HR12_s10 := Lib.hid (HR11_s10.out.below hN12 zl)
   clear hc12 hf12 hb12 hN12 hz12
   try simp only [World.size_alloc] at hIs11
   have HR12_s11 := Lib.hid (hIs11)
   clear hIs11
   go_wp2_with fail
   refine (eqStringS_same _ _ _ _ X.length _ _ (txtAt X) _ (HR12_s9.out.below (show Below w12.heap.size w12 _ by exact zb) zl) (HR12_s11.out.below (show Below w12.heap.size w12 _ by exact zb) zl) zO).mono ?_
   rintro e w13 ⟨rfl, hb13⟩
   obtain ⟨hc13, hf13⟩ := bcell hb13
   have hz13 := hb13.size
   try simp at hz13
   have hN13 : Below w12.heap.size w12 w13 := by
     refine Below.trans ?_ (hb13.mono zo)
     exact zb
   have hn13 := hN13.size
   have hs13_0 : w.heap.size < w13.heap.size := by omega
   have hs13_1 : w5.heap.size < w13.heap.size := by omega
   have hs13_2 : w6.heap.size < w13.heap.size := by omega
   have hs13_3 : w8.heap.size < w13.heap.size := by omega
   have kb13_0_0 : w13.cell? ⟨w.heap.size, 0, none⟩ = some (.int .i64 p) := by go_simp
   have kb13_0_1 : w13.cell? ⟨w.heap.size, 1, none⟩ = some (.int .i64 q) := by go_simp
   have kb13_0_2 : w13.cell? ⟨w.heap.size, 2, none⟩ = some (.slice a L.length cap) := by go_simp
   have kb13_1_0 : w13.cell? ⟨w5.heap.size, 0, none⟩ = some (.int .i64 rp) := by go_simp
   have kb13_1_1 : w13.cell? ⟨w5.heap.size, 1, none⟩ = some (.int .i64 rq) := by go_simp
   have kb13_1_2 : w13.cell? ⟨w5.heap.size, 2, none⟩ = some (.slice a6 R.length c6) := by go_simp
   have kb13_2_0 : w13.cell? ⟨w6.heap.size, 0, none⟩ = some (.int .i64 p) := by go_simp
   have kb13_2_1 : w13.cell? ⟨w6.heap.size, 1, none⟩ = some (.int .i64 q) := by go_simp
   have kb13_2_2 : w13.cell? ⟨w6.heap.size, 2, none⟩ = some (.slice a8 L.length c8) := by go_simp
   have kb13_3_0 : w13.cell? ⟨w8.heap.size, 0, none⟩ = some (.int .i64 rp) := by go_simp
   have kb13_3_1 : w13.cell? ⟨w8.heap.size, 1, none⟩ = some (.int .i64 rq) := by go_simp
   have kb13_3_2 : w13.cell? ⟨w8.heap.size, 2, none⟩ = some (.slice a10 R.length c10) := by go_simp
   have HB13 := Lib.hid (HB12.out.trans (hN13.mono zl))
   have HR13_6 := Lib.hid (HR12_6.out.below hN13 zl)
   have HR13_s6 := Lib.hid (HR12_s6.out.below hN13 zl)
   have HR13_8 := Lib.hid (HR12_8.out.below hN13 zl)
   have HR13_s9 := Lib.hid (HR12_s9.out.below hN13 zl)
   have HR13_10 := Lib.hid (HR12_10.out.below hN13 zl)
   have HR13_s10 := Lib.hid (HR12_s10.out.below hN13 zl)
   have HR13_s11 := Lib.hid (HR12_s11.out.below hN13 zl)
   clear hc13 hf13 hb13 hN13 hz13
   go_wp2_with fail
   refine (markDesk_any _ _ p q _ L 1 _ HR13_8.out hn zO zO).mono ?_
   rintro e w14 ⟨rfl, hI14, hM14⟩
   have hn14 := hM14.size
   have hs14_0 : w.heap.size < w14.heap.size := by omega
   have hs14_1 : w5.heap.size < w14.heap.size := by omega
   have hs14_2 : w6.heap.size < w14.heap.size := by omega
   have hs14_3 : w8.heap.size < w14.heap.size := by omega
   have kb14_0_0 : w14.cell? ⟨w.heap.size, 0, none⟩ = some (.int .i64 p) := (hM14.cell (by first | assumption | omega) zO 0).trans (by with_reducible assumption)
   have kb14_0_1 : w14.cell? ⟨w.heap.size, 1, none⟩ = some (.int .i64 q) := (hM14.cell (by first | assumption | omega) zO 1).trans (by with_reducible assumption)
   have kb14_0_2 : w14.cell? ⟨w.heap.size, 2, none⟩ = some (.slice a L.length cap) := (hM14.cell (by first | assumption | omega) zO 2).trans (by with_reducible assumption)
   have kb14_1_0 : w14.cell? ⟨w5.heap.size, 0, none⟩ = some (.int .i64 rp) := (hM14.cell (by first | assumption | omega) zO 0).trans (by with_reducible assumption)
   have kb14_1_1 : w14.cell? ⟨w5.heap.size, 1, none⟩ = some (.int .i64 rq) := (hM14.cell (by first | assumption | omega) zO 1).trans (by with_reducible assumption)
   have kb14_1_2 : w14.cell? ⟨w5.heap.size, 2, none⟩ = some (.slice a6 R.length c6) := (hM14.cell (by first | assumption | omega) zO 2).trans (by with_reducible assumption)
   have kb14_2_0 : w14.cell? ⟨w6.heap.size, 0, none⟩ = some (.int .i64 p) := (hM14.cell (by first | assumption | omega) zO 0).trans (by with_reducible assumption)
   have kb14_2_1 : w14.cell? ⟨w6.heap.size, 1, none⟩ = some (.int .i64 q) := (hM14.cell (by first | assumption | omega) zO 1).trans (by with_reducible assumption)
   have kb14_2_2 : w14.cell? ⟨w6.heap.size, 2, none⟩ = some (.slice a8 L.length c8) := (hM14.cell (by first | assumption | omega) zO 2).trans (by with_reducible assumption)
   have kb14_3_0 : w14.cell? ⟨w8.heap.size, 0, none⟩ = some (.int .i64 rp) := (hM14.cell (by first | assumption | omega) zO 0).trans (by with_reducible assumption)
   have kb14_3_1 : w14.cell? ⟨w8.heap.size, 1, none⟩ = some (.int .i64 rq) := (hM14.cell (by first | assumption | omega) zO 1).trans (by with_reducible assumption)
   have kb14_3_2 : w14.cell? ⟨w8.heap.size, 2, none⟩ = some (.slice a10 R.length c10) := (hM14.cell (by first | assumption | omega) zO 2).trans (by with_reducible assumption)
   have HB14 := Lib.hid (below_markedS HB13.out hM14 zO zO)
   have HR14_6 := Lib.hid (HR13_6.out.markedS2 hM14 zO)
   have HR14_s6 := Lib.hid (HR13_s6.out.markedS2 hM14 zO)
   have HR14_s9 := Lib.hid (HR13_s9.out.markedS2 hM14 zO)
   have HR14_10 := Lib.hid (HR13_10.out.markedS2 hM14 zO)
   have HR14_s10 := Lib.hid (HR13_s10.out.markedS2 hM14 zO)
   clear hI14 hM14
   go_wp2_with fail
   refine (markLines_any _ _ X.length _ (txtAt X) (1 + 2 * L.length) (1 + 2 * (L.length : Int)) zO _ HR14_s9.out zO zO zO).mono ?_
   rintro e w15 ⟨rfl, hI15, hM15⟩
   have hn15 := hM15.size
   have hs15_0 : w.heap.size < w15.heap.size := by omega
   have hs15_1 : w5.heap.size < w15.heap.size := by omega
   have hs15_2 : w6.heap.size < w15.heap.size := by omega
   have hs15_3 : w8.heap.size < w15.heap.size := by omega
   have kb15_0_0 : w15.cell? ⟨w.heap.size, 0, none⟩ = some (.int .i64 p) := (hM15.cell (by first | assumption | omega) zO 0).trans (by with_reducible assumption)
   have kb15_0_1 : w15.cell? ⟨w.heap.size, 1, none⟩ = some (.int .i64 q) := (hM15.cell (by first | assumption | omega) zO 1).trans (by with_reducible assumption)
   have kb15_0_2 : w15.cell? ⟨w.heap.size, 2, none⟩ = some (.slice a L.length cap) := (hM15.cell (by first | assumption | omega) zO 2).trans (by with_reducible assumption)
   have kb15_1_0 : w15.cell? ⟨w5.heap.size, 0, none⟩ = some (.int .i64 rp) := (hM15.cell (by first | assumption | omega) zO 0).trans (by with_reducible assumption)
   have kb15_1_1 : w15.cell? ⟨w5.heap.size, 1, none⟩ = some (.int .i64 rq) := (hM15.cell (by first | assumption | omega) zO 1).trans (by with_reducible assumption)
   have kb15_1_2 : w15.cell? ⟨w5.heap.size, 2, none⟩ = some (.slice a6 R.length c6) := (hM15.cell (by first | assumption | omega) zO 2).trans (by with_reducible assumption)
   have kb15_2_0 : w15.cell? ⟨w6.heap.size, 0, none⟩ = some (.int .i64 p) := (hM15.cell (by first | assumption | omega) zO 0).trans (by with_reducible assumption)
   have kb15_2_1 : w15.cell? ⟨w6.heap.size, 1, none⟩ = some (.int .i64 q) := (hM15.cell (by first | assumption | omega) zO 1).trans (by with_reducible assumption)
   have kb15_2_2 : w15.cell? ⟨w6.heap.size, 2, none⟩ = some (.slice a8 L.length c8) := (hM15.cell (by first | assumption | omega) zO 2).trans (by with_reducible assumption)
   have kb15_3_0 : w15.cell? ⟨w8.heap.size, 0, none⟩ = some (.int .i64 rp) := (hM15.cell (by first | assumption | omega) zO 0).trans (by with_reducible assumption)
   have kb15_3_1 : w15.cell? ⟨w8.heap.size, 1, none⟩ = some (.int .i64 rq) := (hM15.cell (by first | assumption | omega) zO 1).trans (by with_reducible assumption)
   have kb15_3_2 : w15.cell? ⟨w8.heap.size, 2, none⟩ = some (.slice a10 R.length c10) := (hM15.cell (by first | assumption | omega) zO 2).trans (by with_reducible assumption)
   have HB15 := Lib.hid (below_markedS HB14.out hM15 zO zO)
   have HR15_6 := Lib.hid (HR14_6.out.markedS2 hM15 zO)
   have HR15_s6 := Lib.hid (HR14_s6.out.markedS2 hM15 zO)
   have HR15_10 := Lib.hid (HR14_10.out.markedS2 hM15 zO)
   have HR15_s10 := Lib.hid (HR14_s10.out.markedS2 hM15 zO)
   clear hI15 hM15
   go_wp2_with fail
   refine (eqDesk_same _ _ _ _ rp rq _ _ R _ (HR15_10.out.below (show Below w15.heap.size w15 _ by exact zb) zl) (HR15_6.out.below (show Below w15.heap.size w15 _ by exact zb) zl) hRn).mono ?_
   rintro e w16 ⟨rfl, hb16⟩
   obtain ⟨hc16, hf16⟩ := bcell hb16
   have hz16 := hb16.size
   try simp at hz16
   have hN16 : Below w15.heap.size w15 w16 := by
     refine Below.trans ?_ (hb16.mono zo)
     exact zb
   have hn16 := hN16.size
   have hs16_0 : w.heap.size < w16.heap.size := by omega
   have hs16_1 : w5.heap.size < w16.heap.size := by omega
   have hs16_2 : w6.heap.size < w16.heap.size := by omega
   have hs16_3 : w8.heap.size < w16.heap.size := by omega
   have kb16_0_0 : w16.cell? ⟨w.heap.size, 0, none⟩ = some (.int .i64 p) := by go_simp
   have kb16_0_1 : w16.cell? ⟨w.heap.size, 1, none⟩ = some (.int .i64 q) := by go_simp
   have kb16_0_2 : w16.cell? ⟨w.heap.size, 2, none⟩ = some (.slice a L.length cap) := by go_simp
   have kb16_1_0 : w16.cell? ⟨w5.heap.size, 0, none⟩ = some (.int .i64 rp) := by go_simp
   have kb16_1_1 : w16.cell? ⟨w5.heap.size, 1, none⟩ = some (.int .i64 rq) := by go_simp
   have kb16_1_2 : w16.cell? ⟨w5.heap.size, 2, none⟩ = some (.slice a6 R.length c6) := by go_simp
   have kb16_2_0 : w16.cell? ⟨w6.heap.size, 0, none⟩ = some (.int .i64 p) := by go_simp
   have kb16_2_1 : w16.cell? ⟨w6.heap.size, 1, none⟩ = some (.int .i64 q) := by go_simp
   have kb16_2_2 : w16.cell? ⟨w6.heap.size, 2, none⟩ = some (.slice a8 L.length c8) := by go_simp
   have kb16_3_0 : w16.cell? ⟨w8.heap.size, 0, none⟩ = some (.int .i64 rp) := by go_simp
   have kb16_3_1 : w16.cell? ⟨w8.heap.size, 1, none⟩ = some (.int .i64 rq) := by go_simp
   have kb16_3_2 : w16.cell? ⟨w8.heap.size, 2, none⟩ = some (.slice a10 R.length c10) := by go_simp
   have HB16 := Lib.hid (HB15.out.trans (hN16.mono zl))
   have HR16_6 := Lib.hid (HR15_6.out.below hN16 zl)
   have HR16_s6 := Lib.hid (HR15_s6.out.below hN16 zl)
   have HR16_10 := Lib.hid (HR15_10.out.below hN16 zl)
   have HR16_s10 := Lib.hid (HR15_s10.out.below hN16 zl)
   clear hc16 hf16 hb16 hN16 hz16
   go_wp2_with fail
   refine (eqStringS_same _ _ _ _ A.length _ _ (txtAt A) _ (HR16_s10.out.below (show Below w16.heap.size w16 _ by exact zb) zl) (HR16_s6.out.below (show Below w16.heap.size w16 _ by exact zb) zl) zO).mono ?_
   rintro e w17 ⟨rfl, hb17⟩
   obtain ⟨hc17, hf17⟩ := bcell hb17
   have hz17 := hb17.size
   try simp at hz17
   have hN17 : Below w16.heap.size w16 w17 := by
     refine Below.trans ?_ (hb17.mono zo)
     exact zb
   have hn17 := hN17.size
   have hs17_0 : w.heap.size < w17.heap.size := by omega
   have hs17_1 : w5.heap.size < w17.heap.size := by omega
   have hs17_2 : w6.heap.size < w17.heap.size := by omega
   have hs17_3 : w8.heap.size < w17.heap.size := by omega
   have kb17_0_0 : w17.cell? ⟨w.heap.size, 0, none⟩ = some (.int .i64 p) := by go_simp
   have kb17_0_1 : w17.cell? ⟨w.heap.size, 1, none⟩ = some (.int .i64 q) := by go_simp
   have kb17_0_2 : w17.cell? ⟨w.heap.size, 2, none⟩ = some (.slice a L.length cap) := by go_simp
   have kb17_1_0 : w17.cell? ⟨w5.heap.size, 0, none⟩ = some (.int .i64 rp) := by go_simp
   have kb17_1_1 : w17.cell? ⟨w5.heap.size, 1, none⟩ = some (.int .i64 rq) := by go_simp
   have kb17_1_2 : w17.cell? ⟨w5.heap.size, 2, none⟩ = some (.slice a6 R.length c6) := by go_simp
   have kb17_2_0 : w17.cell? ⟨w6.heap.size, 0, none⟩ = some (.int .i64 p) := by go_simp
   have kb17_2_1 : w17.cell? ⟨w6.heap.size, 1, none⟩ = some (.int .i64 q) := by go_simp
   have kb17_2_2 : w17.cell? ⟨w6.heap.size, 2, none⟩ = some (.slice a8 L.length c8) := by go_simp
   have kb17_3_0 : w17.cell? ⟨w8.heap.size, 0, none⟩ = some (.int .i64 rp) := by go_simp
   have kb17_3_1 : w17.cell? ⟨w8.heap.size, 1, none⟩ = some (.int .i64 rq) := by go_simp
   have kb17_3_2 : w17.cell? ⟨w8.heap.size, 2, none⟩ = some (.slice a10 R.length c10) := by go_simp
   have HB17 := Lib.hid (HB16.out.trans (hN17.mono zl))
   have HR17_6 := Lib.hid (HR16_6.out.below hN17 zl)
   have HR17_s6 := Lib.hid (HR16_s6.out.below hN17 zl)
   have HR17_10 := Lib.hid (HR16_10.out.below hN17 zl)
   have HR17_s10 := Lib.hid (HR16_s10.out.below hN17 zl)
   clear hc17 hf17 hb17 hN17 hz17
   go_wp2_with fail
   refine (markDesk_any _ _ rp rq _ R 1 _ HR17_10.out hRn zO zO).mono ?_
   rintro e w18 ⟨rfl, hI18, hM18⟩
   have hn18 := hM18.size
   have hs18_0 : w.heap.size < w18.heap.size := by omega
   have hs18_1 : w5.heap.size < w18.heap.size := by omega
   have hs18_2 : w6.heap.size < w18.heap.size := by omega
   have hs18_3 : w8.heap.size < w18.heap.size := by omega
   have kb18_0_0 : w18.cell? ⟨w.heap.size, 0, none⟩ = some (.int .i64 p) := (hM18.cell (by first | assumption | omega) zO 0).trans (by with_reducible assumption)
   have kb18_0_1 : w18.cell? ⟨w.heap.size, 1, none⟩ = some (.int .i64 q) := (hM18.cell (by first | assumption | omega) zO 1).trans (by with_reducible assumption)
   have kb18_0_2 : w18.cell? ⟨w.heap.size, 2, none⟩ = some (.slice a L.length cap) := (hM18.cell (by first | assumption | omega) zO 2).trans (by with_reducible assumption)
   have kb18_1_0 : w18.cell? ⟨w5.heap.size, 0, none⟩ = some (.int .i64 rp) := (hM18.cell (by first | assumption | omega) zO 0).trans (by with_reducible assumption)
   have kb18_1_1 : w18.cell? ⟨w5.heap.size, 1, none⟩ = some (.int .i64 rq) := (hM18.cell (by first | assumption | omega) zO 1).trans (by with_reducible assumption)
   have kb18_1_2 : w18.cell? ⟨w5.heap.size, 2, none⟩ = some (.slice a6 R.length c6) := (hM18.cell (by first | assumption | omega) zO 2).trans (by with_reducible assumption)
   have kb18_2_0 : w18.cell? ⟨w6.heap.size, 0, none⟩ = some (.int .i64 p) := (hM18.cell (by first | assumption | omega) zO 0).trans (by with_reducible assumption)
   have kb18_2_1 : w18.cell? ⟨w6.heap.size, 1, none⟩ = some (.int .i64 q) := (hM18.cell (by first | assumption | omega) zO 1).trans (by with_reducible assumption)
   have kb18_2_2 : w18.cell? ⟨w6.heap.size, 2, none⟩ = some (.slice a8 L.length c8) := (hM18.cell (by first | assumption | omega) zO 2).trans (by with_reducible assumption)
   have kb18_3_0 : w18.cell? ⟨w8.heap.size, 0, none⟩ = some (.int .i64 rp) := (hM18.cell (by first | assumption | omega) zO 0).trans (by with_reducible assumption)
   have kb18_3_1 : w18.cell? ⟨w8.heap.size, 1, none⟩ = some (.int .i64 rq) := (hM18.cell (by first | assumption | omega) zO 1).trans (by with_reducible assumption)
   have kb18_3_2 : w18.cell? ⟨w8.heap.size, 2, none⟩ = some (.slice a10 R.length c10) := (hM18.cell (by first | assumption | omega) zO 2).trans (by with_reducible assumption)
   have HB18 := Lib.hid (below_markedS HB17.out hM18 zO zO)
   have HR18_6 := Lib.hid (HR17_6.out.markedS2 hM18 zO)
   have HR18_s6 := Lib.hid (HR17_s6.out.markedS2 hM18 zO)
   have HR18_s10 := Lib.hid (HR17_s10.out.markedS2 hM18 zO)
   have HR18_10 := Lib.hid hI18
   clear hI18 hM18
   go_wp2_with fail
   refine (markLines_any _ _ A.length _ (txtAt A) (1 + 2 * R.length) (1 + 2 * (R.length : Int)) zO _ HR18_s10.out zO zO zO).mono ?_
   rintro e w19 ⟨rfl, hI19, hM19⟩
   have hn19 := hM19.size
   have hs19_0 : w.heap.size < w19.heap.size := by omega
   have hs19_1 : w5.heap.size < w19.heap.size := by omega
   have hs19_2 : w6.heap.size < w19.heap.size := by omega
   have hs19_3 : w8.heap.size < w19.heap.size := by omega
   have kb19_0_0 : w19.cell? ⟨w.heap.size, 0, none⟩ = some (.int .i64 p) := (hM19.cell (by first | assumption | omega) zO 0).trans (by with_reducible assumption)
   have kb19_0_1 : w19.cell? ⟨w.heap.size, 1, none⟩ = some (.int .i64 q) := (hM19.cell (by first | assumption | omega) zO 1).trans (by with_reducible assumption)
   have kb19_0_2 : w19.cell? ⟨w.heap.size, 2, none⟩ = some (.slice a L.length cap) := (hM19.cell (by first | assumption | omega) zO 2).trans (by with_reducible assumption)
   have kb19_1_0 : w19.cell? ⟨w5.heap.size, 0, none⟩ = some (.int .i64 rp) := (hM19.cell (by first | assumption | omega) zO 0).trans (by with_reducible assumption)
   have kb19_1_1 : w19.cell? ⟨w5.heap.size, 1, none⟩ = some (.int .i64 rq) := (hM19.cell (by first | assumption | omega) zO 1).trans (by with_reducible assumption)
   have kb19_1_2 : w19.cell? ⟨w5.heap.size, 2, none⟩ = some (.slice a6 R.length c6) := (hM19.cell (by first | assumption | omega) zO 2).trans (by with_reducible assumption)
   have kb19_2_0 : w19.cell? ⟨w6.heap.size, 0, none⟩ = some (.int .i64 p) := (hM19.cell (by first | assumption | omega) zO 0).trans (by with_reducible assumption)
   have kb19_2_1 : w19.cell? ⟨w6.heap.size, 1, none⟩ = some (.int .i64 q) := (hM19.cell (by first | assumption | omega) zO 1).trans (by with_reducible assumption)
   have kb19_2_2 : w19.cell? ⟨w6.heap.size, 2, none⟩ = some (.slice a8 L.length c8) := (hM19.cell (by first | assumption | omega) zO 2).trans (by with_reducible assumption)
   have kb19_3_0 : w19.cell? ⟨w8.heap.size, 0, none⟩ = some (.int .i64 rp) := (hM19.cell (by first | assumption | omega) zO 0).trans (by with_reducible assumption)
   have kb19_3_1 : w19.cell? ⟨w8.heap.size, 1, none⟩ = some (.int .i64 rq) := (hM19.cell (by first | assumption | omega) zO 1).trans (by with_reducible assumption)
   have kb19_3_2 : w19.cell? ⟨w8.heap.size, 2, none⟩ = some (.slice a10 R.length c10) := (hM19.cell (by first | assumption | omega) zO 2).trans (by with_reducible assumption)
   have HB19 := Lib.hid (below_markedS HB18.out hM19 zO zO)
   have HR19_6 := Lib.hid (HR18_6.out.markedS2 hM19 zO)
   have HR19_s6 := Lib.hid (HR18_s6.out.markedS2 hM19 zO)
   have HR19_10 := Lib.hid (HR18_10.out.markedS2 hM19 zO)
   have HR19_s10 := Lib.hid hI19
   clear hI19 hM19
   go_wp2_with fail
   refine (heldDesk_any _ _ R.length rp rq _ 1 _ (HR19_10.out.below (show Below w19.heap.size w19 _ by exact zb) zl) hRn zO zO).mono ?_
   rintro e w20 ⟨rfl, hb20⟩
   obtain ⟨hc20, hf20⟩ := bcell hb20
   have hz20 := hb20.size
   try simp at hz20
   have hN20 : Below w19.heap.size w19 w20 := by
     refine Below.trans ?_ (hb20.mono zo)
     exact zb
   have hn20 := hN20.size
   have hs20_0 : w.heap.size < w20.heap.size := by omega
   have hs20_1 : w5.heap.size < w20.heap.size := by omega
   have hs20_2 : w6.heap.size < w20.heap.size := by omega
   have hs20_3 : w8.heap.size < w20.heap.size := by omega
   have kb20_0_0 : w20.cell? ⟨w.heap.size, 0, none⟩ = some (.int .i64 p) := by go_simp
   have kb20_0_1 : w20.cell? ⟨w.heap.size, 1, none⟩ = some (.int .i64 q) := by go_simp
   have kb20_0_2 : w20.cell? ⟨w.heap.size, 2, none⟩ = some (.slice a L.length cap) := by go_simp
   have kb20_1_0 : w20.cell? ⟨w5.heap.size, 0, none⟩ = some (.int .i64 rp) := by go_simp
   have kb20_1_1 : w20.cell? ⟨w5.heap.size, 1, none⟩ = some (.int .i64 rq) := by go_simp
   have kb20_1_2 : w20.cell? ⟨w5.heap.size, 2, none⟩ = some (.slice a6 R.length c6) := by go_simp
   have kb20_2_0 : w20.cell? ⟨w6.heap.size, 0, none⟩ = some (.int .i64 p) := by go_simp
   have kb20_2_1 : w20.cell? ⟨w6.heap.size, 1, none⟩ = some (.int .i64 q) := by go_simp
   have kb20_2_2 : w20.cell? ⟨w6.heap.size, 2, none⟩ = some (.slice a8 L.length c8) := by go_simp
   have kb20_3_0 : w20.cell? ⟨w8.heap.size, 0, none⟩ = some (.int .i64 rp) := by go_simp
   have kb20_3_1 : w20.cell? ⟨w8.heap.size, 1, none⟩ = some (.int .i64 rq) := by go_simp
   have kb20_3_2 : w20.cell? ⟨w8.heap.size, 2, none⟩ = some (.slice a10 R.length c10) := by go_simp
   have HB20 := Lib.hid (HB19.out.trans (hN20.mono zl))
   have HR20_6 := Lib.hid (HR19_6.out.below hN20 zl)
   have HR20_s6 := Lib.hid (HR19_s6.out.below hN20 zl)
   have HR20_10 := Lib.hid (HR19_10.out.below hN20 zl)
   have HR20_s10 := Lib.hid (HR19_s10.out.below hN20 zl)
   clear hc20 hf20 hb20 hN20 hz20
   go_wp2_with fail
   refine (heldLines_any _ _ A.length _ (1 + 2 * R.length) (1 + 2 * (R.length : Int)) zO _ (HR20_s10.out.below (show Below w20.heap.size w20 _ by exact zb) zl) zO zO zO).mono ?_
   rintro e w21 ⟨rfl, hb21⟩
   obtain ⟨hc21, hf21⟩ := bcell hb21
   have hz21 := hb21.size
   try simp at hz21
   have hN21 : Below w20.heap.size w20 w21 := by
     refine Below.trans ?_ (hb21.mono zo)
     exact zb
   have hn21 := hN21.size
   have hs21_0 : w.heap.size < w21.heap.size := by omega
   have hs21_1 : w5.heap.size < w21.heap.size := by omega
   have hs21_2 : w6.heap.size < w21.heap.size := by omega
   have hs21_3 : w8.heap.size < w21.heap.size := by omega
   have kb21_0_0 : w21.cell? ⟨w.heap.size, 0, none⟩ = some (.int .i64 p) := by go_simp
   have kb21_0_1 : w21.cell? ⟨w.heap.size, 1, none⟩ = some (.int .i64 q) := by go_simp
   have kb21_0_2 : w21.cell? ⟨w.heap.size, 2, none⟩ = some (.slice a L.length cap) := by go_simp
   have kb21_1_0 : w21.cell? ⟨w5.heap.size, 0, none⟩ = some (.int .i64 rp) := by go_simp
   have kb21_1_1 : w21.cell? ⟨w5.heap.size, 1, none⟩ = some (.int .i64 rq) := by go_simp
   have kb21_1_2 : w21.cell? ⟨w5.heap.size, 2, none⟩ = some (.slice a6 R.length c6) := by go_simp
   have kb21_2_0 : w21.cell? ⟨w6.heap.size, 0, none⟩ = some (.int .i64 p) := by go_simp
   have kb21_2_1 : w21.cell? ⟨w6.heap.size, 1, none⟩ = some (.int .i64 q) := by go_simp
   have kb21_2_2 : w21.cell? ⟨w6.heap.size, 2, none⟩ = some (.slice a8 L.length c8) := by go_simp
   have kb21_3_0 : w21.cell? ⟨w8.heap.size, 0, none⟩ = some (.int .i64 rp) := by go_simp
   have kb21_3_1 : w21.cell? ⟨w8.heap.size, 1, none⟩ = some (.int .i64 rq) := by go_simp
   have kb21_3_2 : w21.cell? ⟨w8.heap.size, 2, none⟩ = some (.slice a10 R.length c10) := by go_simp
   have HB21 := Lib.hid (HB20.out.trans (hN21.mono zl))
   have HR21_6 := Lib.hid (HR20_6.out.below hN21 zl)
   have HR21_s6 := Lib.hid (HR20_s6.out.below hN21 zl)
   have HR21_10 := Lib.hid (HR20_10.out.below hN21 zl)
   have HR21_s10 := Lib.hid (HR20_s10.out.below hN21 zl)
   clear hc21 hf21 hb21 hN21 hz21
   go_wp2_with fail
   refine (toDesk_any p q L _ _ ((H.out.below HB21.out).below (show Below w21.heap.size w21 _ by exact zb)) hn).mono ?_
   rintro e w22 ⟨a13, c13, rfl, hI13, hb22⟩
   obtain ⟨hc22, hf22⟩ := bcell hb22
   have hz22 := hb22.size
   try simp at hz22
   have hN22 : Below w21.heap.size w21 w22 := by
     refine Below.trans ?_ (hb22.mono zo)
     exact zb
   have hn22 := hN22.size
   have hs22_0 : w.heap.size < w22.heap.size := by omega
   have hs22_1 : w5.heap.size < w22.heap.size := by omega
   have hs22_2 : w6.heap.size < w22.heap.size := by omega
   have hs22_3 : w8.heap.size < w22.heap.size := by omega
   have kb22_0_0 : w22.cell? ⟨w.heap.size, 0, none⟩ = some (.int .i64 p) := by go_simp
   have kb22_0_1 : w22.cell? ⟨w.heap.size, 1, none⟩ = some (.int .i64 q) := by go_simp
   have kb22_0_2 : w22.cell? ⟨w.heap.size, 2, none⟩ = some (.slice a L.length cap) := by go_simp
   have kb22_1_0 : w22.cell? ⟨w5.heap.size, 0, none⟩ = some (.int .i64 rp) := by go_simp
   have kb22_1_1 : w22.cell? ⟨w5.heap.size, 1, none⟩ = some (.int .i64 rq) := by go_simp
   have kb22_1_2 : w22.cell? ⟨w5.heap.size, 2, none⟩ = some (.slice a6 R.length c6) := by go_simp
   have kb22_2_0 : w22.cell? ⟨w6.heap.size, 0, none⟩ = some (.int .i64 p) := by go_simp
   have kb22_2_1 : w22.cell? ⟨w6.heap.size, 1, none⟩ = some (.int .i64 q) := by go_simp
   have kb22_2_2 : w22.cell? ⟨w6.heap.size, 2, none⟩ = some (.slice a8 L.length c8) := by go_simp
   have kb22_3_0 : w22.cell? ⟨w8.heap.size, 0, none⟩ = some (.int .i64 rp) := by go_simp
   have kb22_3_1 : w22.cell? ⟨w8.heap.size, 1, none⟩ = some (.int .i64 rq) := by go_simp
   have kb22_3_2 : w22.cell? ⟨w8.heap.size, 2, none⟩ = some (.slice a10 R.length c10) := by go_simp
   have HB22 := Lib.hid (HB21.out.trans (hN22.mono zl))
   have HR22_6 := Lib.hid (HR21_6.out.below hN22 zl)
   have HR22_s6 := Lib.hid (HR21_s6.out.below hN22 zl)
   have HR22_10 := Lib.hid (HR21_10.out.below hN22 zl)
   have HR22_s10 := Lib.hid (HR21_s10.out.below hN22 zl)
   try dsimp only at hI13
   try dsimp only
   clear hc22 hf22 hb22 hN22 hz22
   try simp only [World.size_alloc] at hI13
   have HR22_13 := Lib.hid (hI13)
   clear hI13
   go_wp2_with fail
   refine (toLines_any X _ _ ((HX.out.below HB22.out).below (show Below w22.heap.size w22 _ by exact zb)) hm).mono ?_
   rintro e w23 ⟨us14, rfl, hIs14, hb23⟩
   obtain ⟨hc23, hf23⟩ := bcell hb23
   have hz23 := hb23.size
   try simp at hz23
   have hN23 : Below w22.heap.size w22 w23 := by
     refine Below.trans ?_ (hb23.mono zo)
     exact zb
   have hn23 := hN23.size
   have hs23_0 : w.heap.size < w23.heap.size := by omega
   have hs23_1 : w5.heap.size < w23.heap.size := by omega
   have hs23_2 : w6.heap.size < w23.heap.size := by omega
   have hs23_3 : w8.heap.size < w23.heap.size := by omega
   have kb23_0_0 : w23.cell? ⟨w.heap.size, 0, none⟩ = some (.int .i64 p) := by go_simp
   have kb23_0_1 : w23.cell? ⟨w.heap.size, 1, none⟩ = some (.int .i64 q) := by go_simp
   have kb23_0_2 : w23.cell? ⟨w.heap.size, 2, none⟩ = some (.slice a L.length cap) := by go_simp
   have kb23_1_0 : w23.cell? ⟨w5.heap.size, 0, none⟩ = some (.int .i64 rp) := by go_simp
   have kb23_1_1 : w23.cell? ⟨w5.heap.size, 1, none⟩ = some (.int .i64 rq) := by go_simp
   have kb23_1_2 : w23.cell? ⟨w5.heap.size, 2, none⟩ = some (.slice a6 R.length c6) := by go_simp
   have kb23_2_0 : w23.cell? ⟨w6.heap.size, 0, none⟩ = some (.int .i64 p) := by go_simp
   have kb23_2_1 : w23.cell? ⟨w6.heap.size, 1, none⟩ = some (.int .i64 q) := by go_simp
   have kb23_2_2 : w23.cell? ⟨w6.heap.size, 2, none⟩ = some (.slice a8 L.length c8) := by go_simp
   have kb23_3_0 : w23.cell? ⟨w8.heap.size, 0, none⟩ = some (.int .i64 rp) := by go_simp
   have kb23_3_1 : w23.cell? ⟨w8.heap.size, 1, none⟩ = some (.int .i64 rq) := by go_simp
   have kb23_3_2 : w23.cell? ⟨w8.heap.size, 2, none⟩ = some (.slice a10 R.length c10) := by go_simp
   have HB23 := Lib.hid (HB22.out.trans (hN23.mono zl))
   have HR23_6 := Lib.hid (HR22_6.out.below hN23 zl)
   have HR23_s6 := Lib.hid (HR22_s6.out.below hN23 zl)
   have HR23_10 := Lib.hid (HR22_10.out.below hN23 zl)
   have HR23_s10 := Lib.hid (HR22_s10.out.below hN23 zl)
   have HR23_13 := Lib.hid (HR22_13.out.below hN23 zl)
   clear hc23 hf23 hb23 hN23 hz23
   try simp only [World.size_alloc] at hIs14
   have HR23_s14 := Lib.hid (hIs14)
   clear hIs14
   go_wp2_with fail
   refine (HI.out _ _ _ _ _ _ _ _ (HR23_13.out.below (show Below w23.heap.size w23 _ by exact zb) zl) (HR23_s14.out.below (show Below w23.heap.size w23 _ by exact zb) zl) ((HT.out.below HB23.out (Nat.le_refl _)).below (show Below w23.heap.size w23 _ by exact zb) (Nat.le_refl _)) ((HE.out.below HB23.out (Nat.le_refl _)).below (show Below w23.heap.size w23 _ by exact zb) (Nat.le_refl _))).mono ?_
   rintro e w24 ⟨a15, c15, b15, k15, P15, Q15, S15, T15, rfl, hI15, hJ15, ⟨hp15, hq15, hd15⟩, hb24⟩
   obtain ⟨hc24, hf24⟩ := bcell hb24
   have hz24 := hb24.size
   try simp at hz24
   have hN24 : Below w23.heap.size w23 w24 := by
     refine Below.trans ?_ (hb24.mono zo)
     exact zb
   have hn24 := hN24.size
   have hs24_0 : w.heap.size < w24.heap.size := by omega
   have hs24_1 : w5.heap.size < w24.heap.size := by omega
   have hs24_2 : w6.heap.size < w24.heap.size := by omega
   have hs24_3 : w8.heap.size < w24.heap.size := by omega
   have kb24_0_0 : w24.cell? ⟨w.heap.size, 0, none⟩ = some (.int .i64 p) := by go_simp
   have kb24_0_1 : w24.cell? ⟨w.heap.size, 1, none⟩ = some (.int .i64 q) := by go_simp
   have kb24_0_2 : w24.cell? ⟨w.heap.size, 2, none⟩ = some (.slice a L.length cap) := by go_simp
   have kb24_1_0 : w24.cell? ⟨w5.heap.size, 0, none⟩ = some (.int .i64 rp) := by go_simp
   have kb24_1_1 : w24.cell? ⟨w5.heap.size, 1, none⟩ = some (.int .i64 rq) := by go_simp
   have kb24_1_2 : w24.cell? ⟨w5.heap.size, 2, none⟩ = some (.slice a6 R.length c6) := by go_simp
   have kb24_2_0 : w24.cell? ⟨w6.heap.size, 0, none⟩ = some (.int .i64 p) := by go_simp
   have kb24_2_1 : w24.cell? ⟨w6.heap.size, 1, none⟩ = some (.int .i64 q) := by go_simp
   have kb24_2_2 : w24.cell? ⟨w6.heap.size, 2, none⟩ = some (.slice a8 L.length c8) := by go_simp
   have kb24_3_0 : w24.cell? ⟨w8.heap.size, 0, none⟩ = some (.int .i64 rp) := by go_simp
   have kb24_3_1 : w24.cell? ⟨w8.heap.size, 1, none⟩ = some (.int .i64 rq) := by go_simp
   have kb24_3_2 : w24.cell? ⟨w8.heap.size, 2, none⟩ = some (.slice a10 R.length c10) := by go_simp
   have HB24 := Lib.hid (HB23.out.trans (hN24.mono zl))
   have HR24_6 := Lib.hid (HR23_6.out.below hN24 zl)
   have HR24_s6 := Lib.hid (HR23_s6.out.below hN24 zl)
   have HR24_10 := Lib.hid (HR23_10.out.below hN24 zl)
   have HR24_s10 := Lib.hid (HR23_s10.out.below hN24 zl)
   have HR24_13 := Lib.hid (HR23_13.out.below hN24 zl)
   have HR24_s14 := Lib.hid (HR23_s14.out.below hN24 zl)
   clear hc24 hf24 hb24 hN24 hz24
   try simp only [World.size_alloc] at hp15
   try simp only [World.size_alloc] at hq15
   have hQ15 : Q15 ≤ w24.heap.size := by obtain ⟨_, _, _, h, _⟩ := id hI15; exact h
   have hT15 : T15 ≤ w24.heap.size := by obtain ⟨_, _, _, h, _⟩ := id hJ15; exact h
   have HR24_15 := Lib.hid (hI15)
   have HR24_s15 := Lib.hid (hJ15)
   clear hI15 hJ15
   go_wp2_with fail
   refine (eqDesk_same _ _ _ _ rp rq _ _ R _ (HR24_15.out.below (show Below w24.heap.size w24 _ by exact zb) zl) (HR24_6.out.below (show Below w24.heap.size w24 _ by exact zb) zl) hRn).mono ?_
   rintro e w25 ⟨rfl, hb25⟩
   obtain ⟨hc25, hf25⟩ := bcell hb25
   have hz25 := hb25.size
   try simp at hz25
   have hN25 : Below w24.heap.size w24 w25 := by
     refine Below.trans ?_ (hb25.mono zo)
     exact zb
   have hn25 := hN25.size
   have hs25_0 : w.heap.size < w25.heap.size := by omega
   have hs25_1 : w5.heap.size < w25.heap.size := by omega
   have hs25_2 : w6.heap.size < w25.heap.size := by omega
   have hs25_3 : w8.heap.size < w25.heap.size := by omega
   have hs25_4 : w24.heap.size < w25.heap.size := by omega
   have kb25_0_0 : w25.cell? ⟨w.heap.size, 0, none⟩ = some (.int .i64 p) := by go_simp
   have kb25_0_1 : w25.cell? ⟨w.heap.size, 1, none⟩ = some (.int .i64 q) := by go_simp
   have kb25_0_2 : w25.cell? ⟨w.heap.size, 2, none⟩ = some (.slice a L.length cap) := by go_simp
   have kb25_1_0 : w25.cell? ⟨w5.heap.size, 0, none⟩ = some (.int .i64 rp) := by go_simp
   have kb25_1_1 : w25.cell? ⟨w5.heap.size, 1, none⟩ = some (.int .i64 rq) := by go_simp
   have kb25_1_2 : w25.cell? ⟨w5.heap.size, 2, none⟩ = some (.slice a6 R.length c6) := by go_simp
   have kb25_2_0 : w25.cell? ⟨w6.heap.size, 0, none⟩ = some (.int .i64 p) := by go_simp
   have kb25_2_1 : w25.cell? ⟨w6.heap.size, 1, none⟩ = some (.int .i64 q) := by go_simp
   have kb25_2_2 : w25.cell? ⟨w6.heap.size, 2, none⟩ = some (.slice a8 L.length c8) := by go_simp
   have kb25_3_0 : w25.cell? ⟨w8.heap.size, 0, none⟩ = some (.int .i64 rp) := by go_simp
   have kb25_3_1 : w25.cell? ⟨w8.heap.size, 1, none⟩ = some (.int .i64 rq) := by go_simp
   have kb25_3_2 : w25.cell? ⟨w8.heap.size, 2, none⟩ = some (.slice a10 R.length c10) := by go_simp
   have kb25_4_0 : w25.cell? ⟨w24.heap.size, 0, none⟩ = some (.int .i64 rp) := by go_simp
   have kb25_4_1 : w25.cell? ⟨w24.heap.size, 1, none⟩ = some (.int .i64 rq) := by go_simp
   have kb25_4_2 : w25.cell? ⟨w24.heap.size, 2, none⟩ = some (.slice a15 R.length c15) := by go_simp
   have HB25 := Lib.hid (HB24.out.trans (hN25.mono zl))
   have HR25_6 := Lib.hid (HR24_6.out.below hN25 zl)
   have HR25_s6 := Lib.hid (HR24_s6.out.below hN25 zl)
   have HR25_10 := Lib.hid (HR24_10.out.below hN25 zl)
   have HR25_s10 := Lib.hid (HR24_s10.out.below hN25 zl)
   have HR25_15 := Lib.hid (HR24_15.out.below hN25 zl)
   have HR25_s15 := Lib.hid (HR24_s15.out.below hN25 zl)
   clear hc25 hf25 hb25 hN25 hz25
   go_wp2_with fail
   refine (eqStringS_same _ _ _ _ A.length _ _ (txtAt A) _ (HR25_s15.out.below (show Below w25.heap.size w25 _ by exact zb) zl) (HR25_s6.out.below (show Below w25.heap.size w25 _ by exact zb) zl) zO).mono ?_
   rintro e w26 ⟨rfl, hb26⟩
   obtain ⟨hc26, hf26⟩ := bcell hb26
   have hz26 := hb26.size
   try simp at hz26
   have hN26 : Below w25.heap.size w25 w26 := by
     refine Below.trans ?_ (hb26.mono zo)
     exact zb
   have hn26 := hN26.size
   have hs26_0 : w.heap.size < w26.heap.size := by omega
   have hs26_1 : w5.heap.size < w26.heap.size := by omega
   have hs26_2 : w6.heap.size < w26.heap.size := by omega
   have hs26_3 : w8.heap.size < w26.heap.size := by omega
   have hs26_4 : w24.heap.size < w26.heap.size := by omega
   have kb26_0_0 : w26.cell? ⟨w.heap.size, 0, none⟩ = some (.int .i64 p) := by go_simp
   have kb26_0_1 : w26.cell? ⟨w.heap.size, 1, none⟩ = some (.int .i64 q) := by go_simp
   have kb26_0_2 : w26.cell? ⟨w.heap.size, 2, none⟩ = some (.slice a L.length cap) := by go_simp
   have kb26_1_0 : w26.cell? ⟨w5.heap.size, 0, none⟩ = some (.int .i64 rp) := by go_simp
   have kb26_1_1 : w26.cell? ⟨w5.heap.size, 1, none⟩ = some (.int .i64 rq) := by go_simp
   have kb26_1_2 : w26.cell? ⟨w5.heap.size, 2, none⟩ = some (.slice a6 R.length c6) := by go_simp
   have kb26_2_0 : w26.cell? ⟨w6.heap.size, 0, none⟩ = some (.int .i64 p) := by go_simp
   have kb26_2_1 : w26.cell? ⟨w6.heap.size, 1, none⟩ = some (.int .i64 q) := by go_simp
   have kb26_2_2 : w26.cell? ⟨w6.heap.size, 2, none⟩ = some (.slice a8 L.length c8) := by go_simp
   have kb26_3_0 : w26.cell? ⟨w8.heap.size, 0, none⟩ = some (.int .i64 rp) := by go_simp
   have kb26_3_1 : w26.cell? ⟨w8.heap.size, 1, none⟩ = some (.int .i64 rq) := by go_simp
   have kb26_3_2 : w26.cell? ⟨w8.heap.size, 2, none⟩ = some (.slice a10 R.length c10) := by go_simp
   have kb26_4_0 : w26.cell? ⟨w24.heap.size, 0, none⟩ = some (.int .i64 rp) := by go_simp
   have kb26_4_1 : w26.cell? ⟨w24.heap.size, 1, none⟩ = some (.int .i64 rq) := by go_simp
   have kb26_4_2 : w26.cell? ⟨w24.heap.size, 2, none⟩ = some (.slice a15 R.length c15) := by go_simp
   have HB26 := Lib.hid (HB25.out.trans (hN26.mono zl))
   have HR26_6 := Lib.hid (HR25_6.out.below hN26 zl)
   have HR26_s6 := Lib.hid (HR25_s6.out.below hN26 zl)
   have HR26_10 := Lib.hid (HR25_10.out.below hN26 zl)
   have HR26_s10 := Lib.hid (HR25_s10.out.below hN26 zl)
   have HR26_15 := Lib.hid (HR25_15.out.below hN26 zl)
   have HR26_s15 := Lib.hid (HR25_s15.out.below hN26 zl)
   clear hc26 hf26 hb26 hN26 hz26
   go_wp2_with fail
   refine (heldDesk_any _ _ R.length rp rq _ 1 _ (HR26_10.out.below (show Below w26.heap.size w26 _ by exact zb) zl) hRn zO zO).mono ?_
   rintro e w27 ⟨rfl, hb27⟩
   obtain ⟨hc27, hf27⟩ := bcell hb27
   have hz27 := hb27.size
   try simp at hz27
   have hN27 : Below w26.heap.size w26 w27 := by
     refine Below.trans ?_ (hb27.mono zo)
     exact zb
   have hn27 := hN27.size
   have hs27_0 : w.heap.size < w27.heap.size := by omega
   have hs27_1 : w5.heap.size < w27.heap.size := by omega
   have hs27_2 : w6.heap.size < w27.heap.size := by omega
   have hs27_3 : w8.heap.size < w27.heap.size := by omega
   have hs27_4 : w24.heap.size < w27.heap.size := by omega
   have kb27_0_0 : w27.cell? ⟨w.heap.size, 0, none⟩ = some (.int .i64 p) := by go_simp
   have kb27_0_1 : w27.cell? ⟨w.heap.size, 1, none⟩ = some (.int .i64 q) := by go_simp
   have kb27_0_2 : w27.cell? ⟨w.heap.size, 2, none⟩ = some (.slice a L.length cap) := by go_simp
   have kb27_1_0 : w27.cell? ⟨w5.heap.size, 0, none⟩ = some (.int .i64 rp) := by go_simp
   have kb27_1_1 : w27.cell? ⟨w5.heap.size, 1, none⟩ = some (.int .i64 rq) := by go_simp
   have kb27_1_2 : w27.cell? ⟨w5.heap.size, 2, none⟩ = some (.slice a6 R.length c6) := by go_simp
   have kb27_2_0 : w27.cell? ⟨w6.heap.size, 0, none⟩ = some (.int .i64 p) := by go_simp
   have kb27_2_1 : w27.cell? ⟨w6.heap.size, 1, none⟩ = some (.int .i64 q) := by go_simp
   have kb27_2_2 : w27.cell? ⟨w6.heap.size, 2, none⟩ = some (.slice a8 L.length c8) := by go_simp
   have kb27_3_0 : w27.cell? ⟨w8.heap.size, 0, none⟩ = some (.int .i64 rp) := by go_simp
   have kb27_3_1 : w27.cell? ⟨w8.heap.size, 1, none⟩ = some (.int .i64 rq) := by go_simp
   have kb27_3_2 : w27.cell? ⟨w8.heap.size, 2, none⟩ = some (.slice a10 R.length c10) := by go_simp
   have kb27_4_0 : w27.cell? ⟨w24.heap.size, 0, none⟩ = some (.int .i64 rp) := by go_simp
   have kb27_4_1 : w27.cell? ⟨w24.heap.size, 1, none⟩ = some (.int .i64 rq) := by go_simp
   have kb27_4_2 : w27.cell? ⟨w24.heap.size, 2, none⟩ = some (.slice a15 R.length c15) := by go_simp
   have HB27 := Lib.hid (HB26.out.trans (hN27.mono zl))
   have HR27_6 := Lib.hid (HR26_6.out.below hN27 zl)
   have HR27_s6 := Lib.hid (HR26_s6.out.below hN27 zl)
   have HR27_10 := Lib.hid (HR26_10.out.below hN27 zl)
   have HR27_s10 := Lib.hid (HR26_s10.out.below hN27 zl)
   have HR27_15 := Lib.hid (HR26_15.out.below hN27 zl)
   have HR27_s15 := Lib.hid (HR26_s15.out.below hN27 zl)
   clear hc27 hf27 hb27 hN27 hz27
   go_wp2_with fail
   refine (heldLines_any _ _ A.length _ (1 + 2 * R.length) (1 + 2 * (R.length : Int)) zO _ (HR27_s10.out.below (show Below w27.heap.size w27 _ by exact zb) zl) zO zO zO).mono ?_
   rintro e w28 ⟨rfl, hb28⟩
   obtain ⟨hc28, hf28⟩ := bcell hb28
   have hz28 := hb28.size
   try simp at hz28
   have hN28 : Below w27.heap.size w27 w28 := by
     refine Below.trans ?_ (hb28.mono zo)
     exact zb
   have hn28 := hN28.size
   have hs28_0 : w.heap.size < w28.heap.size := by omega
   have hs28_1 : w5.heap.size < w28.heap.size := by omega
   have hs28_2 : w6.heap.size < w28.heap.size := by omega
   have hs28_3 : w8.heap.size < w28.heap.size := by omega
   have hs28_4 : w24.heap.size < w28.heap.size := by omega
   have kb28_0_0 : w28.cell? ⟨w.heap.size, 0, none⟩ = some (.int .i64 p) := by go_simp
   have kb28_0_1 : w28.cell? ⟨w.heap.size, 1, none⟩ = some (.int .i64 q) := by go_simp
   have kb28_0_2 : w28.cell? ⟨w.heap.size, 2, none⟩ = some (.slice a L.length cap) := by go_simp
   have kb28_1_0 : w28.cell? ⟨w5.heap.size, 0, none⟩ = some (.int .i64 rp) := by go_simp
   have kb28_1_1 : w28.cell? ⟨w5.heap.size, 1, none⟩ = some (.int .i64 rq) := by go_simp
   have kb28_1_2 : w28.cell? ⟨w5.heap.size, 2, none⟩ = some (.slice a6 R.length c6) := by go_simp
   have kb28_2_0 : w28.cell? ⟨w6.heap.size, 0, none⟩ = some (.int .i64 p) := by go_simp
   have kb28_2_1 : w28.cell? ⟨w6.heap.size, 1, none⟩ = some (.int .i64 q) := by go_simp
   have kb28_2_2 : w28.cell? ⟨w6.heap.size, 2, none⟩ = some (.slice a8 L.length c8) := by go_simp
   have kb28_3_0 : w28.cell? ⟨w8.heap.size, 0, none⟩ = some (.int .i64 rp) := by go_simp
   have kb28_3_1 : w28.cell? ⟨w8.heap.size, 1, none⟩ = some (.int .i64 rq) := by go_simp
   have kb28_3_2 : w28.cell? ⟨w8.heap.size, 2, none⟩ = some (.slice a10 R.length c10) := by go_simp
   have kb28_4_0 : w28.cell? ⟨w24.heap.size, 0, none⟩ = some (.int .i64 rp) := by go_simp
   have kb28_4_1 : w28.cell? ⟨w24.heap.size, 1, none⟩ = some (.int .i64 rq) := by go_simp
   have kb28_4_2 : w28.cell? ⟨w24.heap.size, 2, none⟩ = some (.slice a15 R.length c15) := by go_simp
   have HB28 := Lib.hid (HB27.out.trans (hN28.mono zl))
   have HR28_6 := Lib.hid (HR27_6.out.below hN28 zl)
   have HR28_s6 := Lib.hid (HR27_s6.out.below hN28 zl)
   have HR28_10 := Lib.hid (HR27_10.out.below hN28 zl)
   have HR28_s10 := Lib.hid (HR27_s10.out.below hN28 zl)
   have HR28_15 := Lib.hid (HR27_15.out.below hN28 zl)
   have HR28_s15 := Lib.hid (HR27_s15.out.below hN28 zl)
   clear hc28 hf28 hb28 hN28 hz28
   go_wp2
   go_ret
   exact ⟨rfl, HB28.out⟩
end
end Go.Proofs.YtblphilcmfabkaaGreatDoor
