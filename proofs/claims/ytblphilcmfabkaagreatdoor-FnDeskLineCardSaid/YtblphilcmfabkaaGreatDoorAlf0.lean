/- Contracts and laws that the statement's proof stands on, one text behind the other. -/
import Derived.Test.YtblphilcmfabkaaGreatDoorAla4
import Derived.Test.YtblphilcmfabkaaGreatDoorAlb0
import Derived.Test.YtblphilcmfabkaaGreatDoorAlc0
import Derived.Test.YtblphilcmfabkaaGreatDoorAld0
import Derived.Deep.Cut
import Derived.Deep.DeepCutAuto
import Derived.Deep.RegionHeld3

namespace Go.Proofs.YtblphilcmfabkaaGreatDoor
section
open Go.RowKit
set_option maxRecDepth 100000 in
set_option maxHeartbeats 4000000 in
theorem fnDeskLine_walk (a : Option Addr) (len cap : Nat) (z : List Int) (w : World) (w0 : IsRow w a len cap z) (ht : PowTab w) (he : Errs w) :
   Calls Tryz.prog 4 #[.slice a len cap] w fun e w' => e = .returned (.bool true) ∧ Below w.heap.size w w' := by
 by_cases hbig : 1048576 < len
 · go_enter Tryz.func4, Tryz.ntmps4
   go_wp2
   go_ret
   exact ⟨rfl, Below.refl _ _⟩
 · have hsm : len ≤ 1048576 := by omega
   go_enter Tryz.func4, Tryz.ntmps4
   go_wp2_with fail
   refine (drawDeskLine_any _ _ _ _ z w0).mono ?_
   rintro e w1 ⟨p, q, a2, c2, L, t, rfl, hI, hL, hts, hh1⟩
   have hz1 := hh1.size
   obtain ⟨hc1, hf1⟩ := bcell hh1
   have hn : L.length ≤ 1048600 := by omega
   have hJ := fun (W : World) (B C : Nat) (a : Option Addr) (c : Nat) (hI : IsPairs B C W (.slice a L.length c) L) hT hE => implLine_any B C p q L _ t W hI hn zO hT hE
   have hS := fun (W : World) (B C : Nat) (a : Option Addr) (c : Nat) (hI : IsPairs B C W (.slice a L.length c) L) => specLine_any B C p q L _ t W hI hn zO
   have hE0 := fun (W : World) (B C : Nat) (a : Option Addr) (c : Nat) (hI : IsPairs B C W (.slice a L.length c) L) hT hE => implLine_any B C p q L _ (⟨#[]⟩ : ByteArray) W hI hn zd hT hE
   unfold LineS at hS hJ hE0
   obtain ⟨rp, rq, R, ans, hres⟩ : ∃ rp rq R ans, lineV ⟨(p, q), L⟩ t.data.toList = (⟨(rp, rq), R⟩, ans) := ⟨_, _, _, _, rfl⟩
   have hR8 : R.length ≤ 8 := by have := lineV_len ⟨(p, q), L⟩ t.data.toList; rwa [hres] at this
   rw [hres] at hS hJ
   dsimp only at hS hJ
   have hRn : R.length ≤ 1048600 := by omega
   have hsame : (ans.toList == ans.toList) = true := by simp
   have HS := Lib.hid hS
   have HI := Lib.hid hJ
   have HE0 := Lib.hid hE0
   have HRES := Lib.hid hres
   clear hS hJ hE0 hres
   have HB1 := Lib.hid hh1
   have HR1_tab := Lib.hid (ht.below hh1 (Nat.le_refl _))
   have HR1_err := Lib.hid (he.below hh1 (Nat.le_refl _))
   clear hc1 hf1 hh1 ht he
   have HR1_d := Lib.hid (hI)
   clear hI
   go_wp2_with fail
   refine calls_namedD ?_
   intro w2 hw2
   have hN2 : Below w1.heap.size w1 w2 := by
     rw [hw2]
     exact zb
   have hz2 : w2.heap.size = _ := congrArg (fun W : World => W.heap.size) hw2
   try simp at hz2
   have hn2 := hN2.size
   have hs2_0 : w1.heap.size < w2.heap.size := by omega
   have kb2_0_0 : w2.cell? ⟨w1.heap.size, 0, none⟩ = some (.int .i64 p) := by rw [hw2]; go_simp
   have kb2_0_1 : w2.cell? ⟨w1.heap.size, 1, none⟩ = some (.int .i64 q) := by rw [hw2]; go_simp
   have kb2_0_2 : w2.cell? ⟨w1.heap.size, 2, none⟩ = some (.slice a2 L.length c2) := by rw [hw2]; go_simp
   have HB2 := Lib.hid (HB1.out.trans (hN2.mono zl))
   have HR2_tab := Lib.hid (HR1_tab.out.below hN2 zl)
   have HR2_err := Lib.hid (HR1_err.out.below hN2 zl)
   have HR2_d := Lib.hid (HR1_d.out.below hN2 zl)
   clear hw2 hN2 hz2
   refine (HI.out _ _ _ _ _ HR2_d.out HR2_tab.out HR2_err.out).mono ?_
   rintro e w3 ⟨a3, c3, rfl, hI3, hb3⟩
   obtain ⟨hc3, hf3⟩ := bcell hb3
   have hz3 := hb3.size
   try simp at hz3
   have hN3 : Below w2.heap.size w2 w3 := by
     refine Below.trans ?_ (hb3.mono zo)
     exact zb
   have hn3 := hN3.size
   have hs3_0 : w1.heap.size < w3.heap.size := by omega
   have kb3_0_0 : w3.cell? ⟨w1.heap.size, 0, none⟩ = some (.int .i64 p) := by go_simp
   have kb3_0_1 : w3.cell? ⟨w1.heap.size, 1, none⟩ = some (.int .i64 q) := by go_simp
   have kb3_0_2 : w3.cell? ⟨w1.heap.size, 2, none⟩ = some (.slice a2 L.length c2) := by go_simp
   have HB3 := Lib.hid (HB2.out.trans (hN3.mono zl))
   have HR3_tab := Lib.hid (HR2_tab.out.below hN3 zl)
   have HR3_err := Lib.hid (HR2_err.out.below hN3 zl)
   have HR3_d := Lib.hid (HR2_d.out.below hN3 zl)
   clear hc3 hf3 hb3 hN3 hz3
   have HR3_x := Lib.hid (hI3)
   clear hI3
   go_wp2_with fail
   refine calls_namedD ?_
   intro w4 hw4
   have hN4 : Below w3.heap.size w3 w4 := by
     rw [hw4]
     exact zb
   have hz4 : w4.heap.size = _ := congrArg (fun W : World => W.heap.size) hw4
   try simp at hz4
   have hn4 := hN4.size
   have hs4_0 : w1.heap.size < w4.heap.size := by omega
   have hs4_1 : w3.heap.size < w4.heap.size := by omega
   have kb4_0_0 : w4.cell? ⟨w1.heap.size, 0, none⟩ = some (.int .i64 p) := by rw [hw4]; go_simp
   have kb4_0_1 : w4.cell? ⟨w1.heap.size, 1, none⟩ = some (.int .i64 q) := by rw [hw4]; go_simp
   have kb4_0_2 : w4.cell? ⟨w1.heap.size, 2, none⟩ = some (.slice a2 L.length c2) := by rw [hw4]; go_simp
   have kb4_1_0 : w4.cell? ⟨w3.heap.size, 0, none⟩ = some (.int .i64 rp) := by rw [hw4]; go_simp
   have kb4_1_1 : w4.cell? ⟨w3.heap.size, 1, none⟩ = some (.int .i64 rq) := by rw [hw4]; go_simp
   have kb4_1_2 : w4.cell? ⟨w3.heap.size, 2, none⟩ = some (.slice a3 R.length c3) := by rw [hw4]; go_simp
   have HB4 := Lib.hid (HB3.out.trans (hN4.mono zl))
   have HR4_tab := Lib.hid (HR3_tab.out.below hN4 zl)
   have HR4_err := Lib.hid (HR3_err.out.below hN4 zl)
   have HR4_d := Lib.hid (HR3_d.out.below hN4 zl)
   have HR4_x := Lib.hid (HR3_x.out.below hN4 zl)
   clear hw4 hN4 hz4
   refine (HS.out _ _ _ _ _ HR4_d.out).mono ?_
   rintro e w5 ⟨a4, c4, rfl, hI4, hb5⟩
   obtain ⟨hc5, hf5⟩ := bcell hb5
   have hz5 := hb5.size
   try simp at hz5
   have hN5 : Below w4.heap.size w4 w5 := by
     refine Below.trans ?_ (hb5.mono zo)
     exact zb
   have hn5 := hN5.size
   have hs5_0 : w1.heap.size < w5.heap.size := by omega
   have hs5_1 : w3.heap.size < w5.heap.size := by omega
   have kb5_0_0 : w5.cell? ⟨w1.heap.size, 0, none⟩ = some (.int .i64 p) := by go_simp
   have kb5_0_1 : w5.cell? ⟨w1.heap.size, 1, none⟩ = some (.int .i64 q) := by go_simp
   have kb5_0_2 : w5.cell? ⟨w1.heap.size, 2, none⟩ = some (.slice a2 L.length c2) := by go_simp
   have kb5_1_0 : w5.cell? ⟨w3.heap.size, 0, none⟩ = some (.int .i64 rp) := by go_simp
   have kb5_1_1 : w5.cell? ⟨w3.heap.size, 1, none⟩ = some (.int .i64 rq) := by go_simp
   have kb5_1_2 : w5.cell? ⟨w3.heap.size, 2, none⟩ = some (.slice a3 R.length c3) := by go_simp
   have HB5 := Lib.hid (HB4.out.trans (hN5.mono zl))
   have HR5_tab := Lib.hid (HR4_tab.out.below hN5 zl)
   have HR5_err := Lib.hid (HR4_err.out.below hN5 zl)
   have HR5_d := Lib.hid (HR4_d.out.below hN5 zl)
   have HR5_x := Lib.hid (HR4_x.out.below hN5 zl)
   clear hc5 hf5 hb5 hN5 hz5
   have HR5_y := Lib.hid (hI4)
   clear hI4
   go_wp2_with fail
   refine calls_namedD ?_
   intro w6 hw6
   have hN6 : Below w5.heap.size w5 w6 := by
     rw [hw6]
     exact zb
   have hz6 : w6.heap.size = _ := congrArg (fun W : World => W.heap.size) hw6
   try simp at hz6
   have hn6 := hN6.size
   have hs6_0 : w1.heap.size < w6.heap.size := by omega
   have hs6_1 : w3.heap.size < w6.heap.size := by omega
   have hs6_2 : w5.heap.size < w6.heap.size := by omega
   have kb6_0_0 : w6.cell? ⟨w1.heap.size, 0, none⟩ = some (.int .i64 p) := by rw [hw6]; go_simp
   have kb6_0_1 : w6.cell? ⟨w1.heap.size, 1, none⟩ = some (.int .i64 q) := by rw [hw6]; go_simp
   have kb6_0_2 : w6.cell? ⟨w1.heap.size, 2, none⟩ = some (.slice a2 L.length c2) := by rw [hw6]; go_simp
   have kb6_1_0 : w6.cell? ⟨w3.heap.size, 0, none⟩ = some (.int .i64 rp) := by rw [hw6]; go_simp
   have kb6_1_1 : w6.cell? ⟨w3.heap.size, 1, none⟩ = some (.int .i64 rq) := by rw [hw6]; go_simp
   have kb6_1_2 : w6.cell? ⟨w3.heap.size, 2, none⟩ = some (.slice a3 R.length c3) := by rw [hw6]; go_simp
   have kb6_2_0 : w6.cell? ⟨w5.heap.size, 0, none⟩ = some (.int .i64 rp) := by rw [hw6]; go_simp
   have kb6_2_1 : w6.cell? ⟨w5.heap.size, 1, none⟩ = some (.int .i64 rq) := by rw [hw6]; go_simp
   have kb6_2_2 : w6.cell? ⟨w5.heap.size, 2, none⟩ = some (.slice a4 R.length c4) := by rw [hw6]; go_simp
   have HB6 := Lib.hid (HB5.out.trans (hN6.mono zl))
   have HR6_tab := Lib.hid (HR5_tab.out.below hN6 zl)
   have HR6_err := Lib.hid (HR5_err.out.below hN6 zl)
   have HR6_d := Lib.hid (HR5_d.out.below hN6 zl)
   have HR6_x := Lib.hid (HR5_x.out.below hN6 zl)
   have HR6_y := Lib.hid (HR5_y.out.below hN6 zl)
   clear hw6 hN6 hz6
   refine (sameDesk_yes _ _ _ _ rp rq _ _ R _ HR6_x.out HR6_y.out hRn).mono ?_
   rintro e w7 ⟨rfl, hb7⟩
   obtain ⟨hc7, hf7⟩ := bcell hb7
   have hz7 := hb7.size
   try simp at hz7
   have hN7 : Below w6.heap.size w6 w7 := by
     refine Below.trans ?_ (hb7.mono zo)
     exact zb
   have hn7 := hN7.size
   have hs7_0 : w1.heap.size < w7.heap.size := by omega
   have hs7_1 : w3.heap.size < w7.heap.size := by omega
   have hs7_2 : w5.heap.size < w7.heap.size := by omega
   have kb7_0_0 : w7.cell? ⟨w1.heap.size, 0, none⟩ = some (.int .i64 p) := by go_simp
   have kb7_0_1 : w7.cell? ⟨w1.heap.size, 1, none⟩ = some (.int .i64 q) := by go_simp
   have kb7_0_2 : w7.cell? ⟨w1.heap.size, 2, none⟩ = some (.slice a2 L.length c2) := by go_simp
   have kb7_1_0 : w7.cell? ⟨w3.heap.size, 0, none⟩ = some (.int .i64 rp) := by go_simp
   have kb7_1_1 : w7.cell? ⟨w3.heap.size, 1, none⟩ = some (.int .i64 rq) := by go_simp
   have kb7_1_2 : w7.cell? ⟨w3.heap.size, 2, none⟩ = some (.slice a3 R.length c3) := by go_simp
   have kb7_2_0 : w7.cell? ⟨w5.heap.size, 0, none⟩ = some (.int .i64 rp) := by go_simp
   have kb7_2_1 : w7.cell? ⟨w5.heap.size, 1, none⟩ = some (.int .i64 rq) := by go_simp
   have kb7_2_2 : w7.cell? ⟨w5.heap.size, 2, none⟩ = some (.slice a4 R.length c4) := by go_simp
   have HB7 := Lib.hid (HB6.out.trans (hN7.mono zl))
   have HR7_tab := Lib.hid (HR6_tab.out.below hN7 zl)
   have HR7_err := Lib.hid (HR6_err.out.below hN7 zl)
   have HR7_d := Lib.hid (HR6_d.out.below hN7 zl)
   have HR7_x := Lib.hid (HR6_x.out.below hN7 zl)
   have HR7_y := Lib.hid (HR6_y.out.below hN7 zl)
   clear hc7 hf7 hb7 hN7 hz7
   have hres := HRES.out
   clear HRES
   obtain ⟨dk, hdk⟩ : ∃ b, deskN ⟨(p, q), L⟩ = b := ⟨_, rfl⟩
   have HD := Lib.hid hdk
   cases dk with
   | false =>
     rw [lineV_no hdk] at hres
     have e1 : (⟨#[]⟩ : ByteArray) = ans := congrArg Prod.snd hres
     have e2 : (⟨(rp, rq), R⟩ : DeskN) = ⟨(0, 0), []⟩ := (congrArg Prod.fst hres).symm
     have hZ : ∀ (w : World) (a : Option Addr) (c : Nat), Calls Tryz.prog 22 #[.agg #[.int .i64 rp, .int .i64 rq, .slice a R.length c]] w fun e w' => e = .returned (.bool true) ∧ Below w.heap.size w w' := by
       injection e2 with e3 e4
       injection e3 with e5 e6
       rw [e4, e5, e6]
       exact fun w a c => noDesk_zero w a c
     have HZ := Lib.hid hZ
     subst e1
     clear hZ e2 hres hdk HE0
     go_wp2_with fail
     refine (specOk_is _ _ p q L _ _ HR7_d.out hn false HD.out).mono ?_
     rintro e w8 ⟨rfl, hb8⟩
     obtain ⟨hc8, hf8⟩ := bcell hb8
     have hz8 := hb8.size
     try simp at hz8
     have hN8 : Below w7.heap.size w7 w8 := by
       refine Below.trans ?_ (hb8.mono zo)
       exact zb
     have hn8 := hN8.size
     have hs8_0 : w1.heap.size < w8.heap.size := by omega
     have hs8_1 : w3.heap.size < w8.heap.size := by omega
     have kb8_0_0 : w8.cell? ⟨w1.heap.size, 0, none⟩ = some (.int .i64 p) := by go_simp
     have kb8_0_1 : w8.cell? ⟨w1.heap.size, 1, none⟩ = some (.int .i64 q) := by go_simp
     have kb8_0_2 : w8.cell? ⟨w1.heap.size, 2, none⟩ = some (.slice a2 L.length c2) := by go_simp
     have kb8_1_0 : w8.cell? ⟨w3.heap.size, 0, none⟩ = some (.int .i64 rp) := by go_simp
     have kb8_1_1 : w8.cell? ⟨w3.heap.size, 1, none⟩ = some (.int .i64 rq) := by go_simp
     have kb8_1_2 : w8.cell? ⟨w3.heap.size, 2, none⟩ = some (.slice a3 R.length c3) := by go_simp
     have HB8 := Lib.hid (HB7.out.trans (hN8.mono zl))
     have HR8_tab := Lib.hid (HR7_tab.out.below hN8 zl)
     have HR8_err := Lib.hid (HR7_err.out.below hN8 zl)
     have HR8_d := Lib.hid (HR7_d.out.below hN8 zl)
     have HR8_x := Lib.hid (HR7_x.out.below hN8 zl)
     clear hc8 hf8 hb8 hN8 hz8
     go_wp2_with fail
     refine (HZ.out _ _ _).mono ?_
     rintro e w9 ⟨rfl, hb9⟩
     obtain ⟨hc9, hf9⟩ := bcell hb9
     have hz9 := hb9.size
     try simp at hz9
     have hN9 : Below w8.heap.size w8 w9 := by
       refine Below.trans ?_ (hb9.mono zo)
       exact zb
     have hn9 := hN9.size
     have hs9_0 : w1.heap.size < w9.heap.size := by omega
     have hs9_1 : w3.heap.size < w9.heap.size := by omega
     have kb9_0_0 : w9.cell? ⟨w1.heap.size, 0, none⟩ = some (.int .i64 p) := by go_simp
     have kb9_0_1 : w9.cell? ⟨w1.heap.size, 1, none⟩ = some (.int .i64 q) := by go_simp
     have kb9_0_2 : w9.cell? ⟨w1.heap.size, 2, none⟩ = some (.slice a2 L.length c2) := by go_simp
     have kb9_1_0 : w9.cell? ⟨w3.heap.size, 0, none⟩ = some (.int .i64 rp) := by go_simp
     have kb9_1_1 : w9.cell? ⟨w3.heap.size, 1, none⟩ = some (.int .i64 rq) := by go_simp
     have kb9_1_2 : w9.cell? ⟨w3.heap.size, 2, none⟩ = some (.slice a3 R.length c3) := by go_simp
     have HB9 := Lib.hid (HB8.out.trans (hN9.mono zl))
     have HR9_tab := Lib.hid (HR8_tab.out.below hN9 zl)
     have HR9_err := Lib.hid (HR8_err.out.below hN9 zl)
     have HR9_d := Lib.hid (HR8_d.out.below hN9 zl)
     have HR9_x := Lib.hid (HR8_x.out.below hN9 zl)
     clear hc9 hf9 hb9 hN9 hz9
     go_wp2_with fail
     refine (alive_any _).mono ?_
     rintro e w10 ⟨rfl, hb10⟩
     obtain ⟨hc10, hf10⟩ := bcell hb10
     have hz10 := hb10.size
     try simp at hz10
     have hN10 : Below w9.heap.size w9 w10 := by
       refine Below.trans ?_ (hb10.mono zo)
       exact zb
     have hn10 := hN10.size
     have hs10_0 : w1.heap.size < w10.heap.size := by omega
     have hs10_1 : w3.heap.size < w10.heap.size := by omega
     have kb10_0_0 : w10.cell? ⟨w1.heap.size, 0, none⟩ = some (.int .i64 p) := by go_simp
     have kb10_0_1 : w10.cell? ⟨w1.heap.size, 1, none⟩ = some (.int .i64 q) := by go_simp
     have kb10_0_2 : w10.cell? ⟨w1.heap.size, 2, none⟩ = some (.slice a2 L.length c2) := by go_simp
     have kb10_1_0 : w10.cell? ⟨w3.heap.size, 0, none⟩ = some (.int .i64 rp) := by go_simp
     have kb10_1_1 : w10.cell? ⟨w3.heap.size, 1, none⟩ = some (.int .i64 rq) := by go_simp
     have kb10_1_2 : w10.cell? ⟨w3.heap.size, 2, none⟩ = some (.slice a3 R.length c3) := by go_simp
     have HB10 := Lib.hid (HB9.out.trans (hN10.mono zl))
     have HR10_tab := Lib.hid (HR9_tab.out.below hN10 zl)
     have HR10_err := Lib.hid (HR9_err.out.below hN10 zl)
     have HR10_d := Lib.hid (HR9_d.out.below hN10 zl)
     have HR10_x := Lib.hid (HR9_x.out.below hN10 zl)
     clear hc10 hf10 hb10 hN10 hz10
     go_wp2
     go_ret
     exact ⟨rfl, HB10.out⟩
   | true =>
     have hz := HE0.out
     rw [lineV_empty hdk] at hz
     dsimp only at hz
     have HZ := Lib.hid hz
     have hdd : deskN ⟨(rp, rq), R⟩ = true := by have := lineV_desk t.data.toList hdk; rwa [hres] at this
     have HR := Lib.hid hdd
     have hw1 : whatT.toList = [119, 104, 97, 116] := by rw [bl_toList]; rfl
     have hw2 : (whatT.toList == [119, 104, 97, 116]) = true := by rw [hw1]; rfl
     by_cases hok : ans = okLn
     · subst hok
       have ho1 : okLn.toList = [111, 107] := by rw [bl_toList]; rfl
       have ho2 : (okLn.toList == [111, 107]) = true := by rw [ho1]; rfl
       clear hz hdk hdd hres HE0
       go_wp2_with fail
       refine (specOk_is _ _ p q L _ _ HR7_d.out hn true HD.out).mono ?_
       rintro e w8 ⟨rfl, hb8⟩
       obtain ⟨hc8, hf8⟩ := bcell hb8
       have hz8 := hb8.size
       try simp at hz8
       have hN8 : Below w7.heap.size w7 w8 := by
         refine Below.trans ?_ (hb8.mono zo)
         exact zb
       have hn8 := hN8.size
       have hs8_0 : w1.heap.size < w8.heap.size := by omega
       have hs8_1 : w3.heap.size < w8.heap.size := by omega
       have kb8_0_0 : w8.cell? ⟨w1.heap.size, 0, none⟩ = some (.int .i64 p) := by go_simp
       have kb8_0_1 : w8.cell? ⟨w1.heap.size, 1, none⟩ = some (.int .i64 q) := by go_simp
       have kb8_0_2 : w8.cell? ⟨w1.heap.size, 2, none⟩ = some (.slice a2 L.length c2) := by go_simp
       have kb8_1_0 : w8.cell? ⟨w3.heap.size, 0, none⟩ = some (.int .i64 rp) := by go_simp
       have kb8_1_1 : w8.cell? ⟨w3.heap.size, 1, none⟩ = some (.int .i64 rq) := by go_simp
       have kb8_1_2 : w8.cell? ⟨w3.heap.size, 2, none⟩ = some (.slice a3 R.length c3) := by go_simp
       have HB8 := Lib.hid (HB7.out.trans (hN8.mono zl))
       have HR8_tab := Lib.hid (HR7_tab.out.below hN8 zl)
       have HR8_err := Lib.hid (HR7_err.out.below hN8 zl)
       have HR8_d := Lib.hid (HR7_d.out.below hN8 zl)
       have HR8_x := Lib.hid (HR7_x.out.below hN8 zl)
       clear hc8 hf8 hb8 hN8 hz8
       go_wp2_with fail
       refine (HZ.out _ _ _ _ _ HR8_d.out HR8_tab.out HR8_err.out).mono ?_
       rintro e w9 ⟨a5, c5, rfl, hI5, hb9⟩
       obtain ⟨hc9, hf9⟩ := bcell hb9
       have hz9 := hb9.size
       try simp at hz9
       have hN9 : Below w8.heap.size w8 w9 := by
         refine Below.trans ?_ (hb9.mono zo)
         exact zb
       have hn9 := hN9.size
       have hs9_0 : w1.heap.size < w9.heap.size := by omega
       have hs9_1 : w3.heap.size < w9.heap.size := by omega
       have kb9_0_0 : w9.cell? ⟨w1.heap.size, 0, none⟩ = some (.int .i64 p) := by go_simp
       have kb9_0_1 : w9.cell? ⟨w1.heap.size, 1, none⟩ = some (.int .i64 q) := by go_simp
       have kb9_0_2 : w9.cell? ⟨w1.heap.size, 2, none⟩ = some (.slice a2 L.length c2) := by go_simp
       have kb9_1_0 : w9.cell? ⟨w3.heap.size, 0, none⟩ = some (.int .i64 rp) := by go_simp
       have kb9_1_1 : w9.cell? ⟨w3.heap.size, 1, none⟩ = some (.int .i64 rq) := by go_simp
       have kb9_1_2 : w9.cell? ⟨w3.heap.size, 2, none⟩ = some (.slice a3 R.length c3) := by go_simp
       have HB9 := Lib.hid (HB8.out.trans (hN9.mono zl))
       have HR9_tab := Lib.hid (HR8_tab.out.below hN9 zl)
       have HR9_err := Lib.hid (HR8_err.out.below hN9 zl)
       have HR9_d := Lib.hid (HR8_d.out.below hN9 zl)
       have HR9_x := Lib.hid (HR8_x.out.below hN9 zl)
       clear hc9 hf9 hb9 hN9 hz9
       have HR9_z := Lib.hid (hI5)
       clear hI5
       go_wp2_with fail
       refine calls_namedD ?_
       intro w10 hw10
       have hN10 : Below w9.heap.size w9 w10 := by
         rw [hw10]
         exact zb
       have hz10 : w10.heap.size = _ := congrArg (fun W : World => W.heap.size) hw10
       try simp at hz10
       have hn10 := hN10.size
       have hs10_0 : w1.heap.size < w10.heap.size := by omega
       have hs10_1 : w3.heap.size < w10.heap.size := by omega
       have hs10_2 : w9.heap.size < w10.heap.size := by omega
       have kb10_0_0 : w10.cell? ⟨w1.heap.size, 0, none⟩ = some (.int .i64 p) := by rw [hw10]; go_simp
       have kb10_0_1 : w10.cell? ⟨w1.heap.size, 1, none⟩ = some (.int .i64 q) := by rw [hw10]; go_simp
       have kb10_0_2 : w10.cell? ⟨w1.heap.size, 2, none⟩ = some (.slice a2 L.length c2) := by rw [hw10]; go_simp
       have kb10_1_0 : w10.cell? ⟨w3.heap.size, 0, none⟩ = some (.int .i64 rp) := by rw [hw10]; go_simp
       have kb10_1_1 : w10.cell? ⟨w3.heap.size, 1, none⟩ = some (.int .i64 rq) := by rw [hw10]; go_simp
       have kb10_1_2 : w10.cell? ⟨w3.heap.size, 2, none⟩ = some (.slice a3 R.length c3) := by rw [hw10]; go_simp
       have kb10_2_0 : w10.cell? ⟨w9.heap.size, 0, none⟩ = some (.int .i64 p) := by rw [hw10]; go_simp
       have kb10_2_1 : w10.cell? ⟨w9.heap.size, 1, none⟩ = some (.int .i64 q) := by rw [hw10]; go_simp
       have kb10_2_2 : w10.cell? ⟨w9.heap.size, 2, none⟩ = some (.slice a5 L.length c5) := by rw [hw10]; go_simp
       have HB10 := Lib.hid (HB9.out.trans (hN10.mono zl))
       have HR10_tab := Lib.hid (HR9_tab.out.below hN10 zl)
       have HR10_err := Lib.hid (HR9_err.out.below hN10 zl)
       have HR10_d := Lib.hid (HR9_d.out.below hN10 zl)
       have HR10_x := Lib.hid (HR9_x.out.below hN10 zl)
       have HR10_z := Lib.hid (HR9_z.out.below hN10 zl)
       clear hw10 hN10 hz10
       refine (implOk_is _ _ rp rq R _ _ HR10_x.out hRn true HR.out).mono ?_
       rintro e w11 ⟨rfl, hb11⟩
       obtain ⟨hc11, hf11⟩ := bcell hb11
       have hz11 := hb11.size
       try simp at hz11
       have hN11 : Below w10.heap.size w10 w11 := by
         refine Below.trans ?_ (hb11.mono zo)
         exact zb
       have hn11 := hN11.size
       have hs11_0 : w1.heap.size < w11.heap.size := by omega
       have hs11_1 : w3.heap.size < w11.heap.size := by omega
       have hs11_2 : w9.heap.size < w11.heap.size := by omega
       have kb11_0_0 : w11.cell? ⟨w1.heap.size, 0, none⟩ = some (.int .i64 p) := by go_simp
       have kb11_0_1 : w11.cell? ⟨w1.heap.size, 1, none⟩ = some (.int .i64 q) := by go_simp
       have kb11_0_2 : w11.cell? ⟨w1.heap.size, 2, none⟩ = some (.slice a2 L.length c2) := by go_simp
       have kb11_1_0 : w11.cell? ⟨w3.heap.size, 0, none⟩ = some (.int .i64 rp) := by go_simp
       have kb11_1_1 : w11.cell? ⟨w3.heap.size, 1, none⟩ = some (.int .i64 rq) := by go_simp
       have kb11_1_2 : w11.cell? ⟨w3.heap.size, 2, none⟩ = some (.slice a3 R.length c3) := by go_simp
       have kb11_2_0 : w11.cell? ⟨w9.heap.size, 0, none⟩ = some (.int .i64 p) := by go_simp
       have kb11_2_1 : w11.cell? ⟨w9.heap.size, 1, none⟩ = some (.int .i64 q) := by go_simp
       have kb11_2_2 : w11.cell? ⟨w9.heap.size, 2, none⟩ = some (.slice a5 L.length c5) := by go_simp
       have HB11 := Lib.hid (HB10.out.trans (hN11.mono zl))
       have HR11_tab := Lib.hid (HR10_tab.out.below hN11 zl)
       have HR11_err := Lib.hid (HR10_err.out.below hN11 zl)
       have HR11_d := Lib.hid (HR10_d.out.below hN11 zl)
       have HR11_x := Lib.hid (HR10_x.out.below hN11 zl)
       have HR11_z := Lib.hid (HR10_z.out.below hN11 zl)
       clear hc11 hf11 hb11 hN11 hz11
       go_wp2_with fail
       refine (sameDesk_yes _ _ _ _ p q _ _ L _ HR11_z.out HR11_d.out hn).mono ?_
       rintro e w12 ⟨rfl, hb12⟩
       obtain ⟨hc12, hf12⟩ := bcell hb12
       have hz12 := hb12.size
       try simp at hz12
       have hN12 : Below w11.heap.size w11 w12 := by
         refine Below.trans ?_ (hb12.mono zo)
         exact zb
       have hn12 := hN12.size
       have hs12_0 : w1.heap.size < w12.heap.size := by omega
       have hs12_1 : w3.heap.size < w12.heap.size := by omega
       have hs12_2 : w9.heap.size < w12.heap.size := by omega
       have kb12_0_0 : w12.cell? ⟨w1.heap.size, 0, none⟩ = some (.int .i64 p) := by go_simp
       have kb12_0_1 : w12.cell? ⟨w1.heap.size, 1, none⟩ = some (.int .i64 q) := by go_simp
       have kb12_0_2 : w12.cell? ⟨w1.heap.size, 2, none⟩ = some (.slice a2 L.length c2) := by go_simp
       have kb12_1_0 : w12.cell? ⟨w3.heap.size, 0, none⟩ = some (.int .i64 rp) := by go_simp
       have kb12_1_1 : w12.cell? ⟨w3.heap.size, 1, none⟩ = some (.int .i64 rq) := by go_simp
       have kb12_1_2 : w12.cell? ⟨w3.heap.size, 2, none⟩ = some (.slice a3 R.length c3) := by go_simp
       have kb12_2_0 : w12.cell? ⟨w9.heap.size, 0, none⟩ = some (.int .i64 p) := by go_simp
       have kb12_2_1 : w12.cell? ⟨w9.heap.size, 1, none⟩ = some (.int .i64 q) := by go_simp
       have kb12_2_2 : w12.cell? ⟨w9.heap.size, 2, none⟩ = some (.slice a5 L.length c5) := by go_simp
       have HB12 := Lib.hid (HB11.out.trans (hN12.mono zl))
       have HR12_tab := Lib.hid (HR11_tab.out.below hN12 zl)
       have HR12_err := Lib.hid (HR11_err.out.below hN12 zl)
       have HR12_d := Lib.hid (HR11_d.out.below hN12 zl)
       have HR12_x := Lib.hid (HR11_x.out.below hN12 zl)
       have HR12_z := Lib.hid (HR11_z.out.below hN12 zl)
       clear hc12 hf12 hb12 hN12 hz12
       go_wp2
       go_ret
       exact ⟨rfl, HB12.out⟩
     · have hsub : (⟨(rp, rq), R⟩ : DeskN) = ⟨(p, q), L⟩ := by
         have := lineV_keeps (l := t.data.toList) hdk (by rw [hres]; exact hok)
         rwa [hres] at this
       injection hsub with e3 e4
       injection e3 with e5 e6
       have e5' := e5.symm
       have e6' := e6.symm
       have e4' := e4.symm
       have ho1 : ¬ ans.toList = [111, 107] := fun e => hok (txt_eq (by rw [← bl_toList, e]; rfl))
       have ho2 : (ans.toList == [111, 107]) = false := by rw [beq_eq_false_iff_ne]; exact ho1
       clear hz hdk hdd hres HE0 hok e4 e5 e6
       subst e5'
       subst e6'
       subst e4'
       go_wp2_with fail
       refine (specOk_is _ _ p q L _ _ HR7_d.out hn true HD.out).mono ?_
       rintro e w8 ⟨rfl, hb8⟩
       obtain ⟨hc8, hf8⟩ := bcell hb8
       have hz8 := hb8.size
       try simp at hz8
       have hN8 : Below w7.heap.size w7 w8 := by
         refine Below.trans ?_ (hb8.mono zo)
         exact zb
       have hn8 := hN8.size
       have hs8_0 : w1.heap.size < w8.heap.size := by omega
       have hs8_1 : w3.heap.size < w8.heap.size := by omega
       have kb8_0_0 : w8.cell? ⟨w1.heap.size, 0, none⟩ = some (.int .i64 p) := by go_simp
       have kb8_0_1 : w8.cell? ⟨w1.heap.size, 1, none⟩ = some (.int .i64 q) := by go_simp
       have kb8_0_2 : w8.cell? ⟨w1.heap.size, 2, none⟩ = some (.slice a2 L.length c2) := by go_simp
       have kb8_1_0 : w8.cell? ⟨w3.heap.size, 0, none⟩ = some (.int .i64 p) := by go_simp
       have kb8_1_1 : w8.cell? ⟨w3.heap.size, 1, none⟩ = some (.int .i64 q) := by go_simp
       have kb8_1_2 : w8.cell? ⟨w3.heap.size, 2, none⟩ = some (.slice a3 L.length c3) := by go_simp
       have HB8 := Lib.hid (HB7.out.trans (hN8.mono zl))
       have HR8_tab := Lib.hid (HR7_tab.out.below hN8 zl)
       have HR8_err := Lib.hid (HR7_err.out.below hN8 zl)
       have HR8_d := Lib.hid (HR7_d.out.below hN8 zl)
       have HR8_x := Lib.hid (HR7_x.out.below hN8 zl)
       clear hc8 hf8 hb8 hN8 hz8
       go_wp2_with fail
       refine (HZ.out _ _ _ _ _ HR8_d.out HR8_tab.out HR8_err.out).mono ?_
       rintro e w9 ⟨a5, c5, rfl, hI5, hb9⟩
       obtain ⟨hc9, hf9⟩ := bcell hb9
       have hz9 := hb9.size
       try simp at hz9
       have hN9 : Below w8.heap.size w8 w9 := by
         refine Below.trans ?_ (hb9.mono zo)
         exact zb
       have hn9 := hN9.size
       have hs9_0 : w1.heap.size < w9.heap.size := by omega
       have hs9_1 : w3.heap.size < w9.heap.size := by omega
       have kb9_0_0 : w9.cell? ⟨w1.heap.size, 0, none⟩ = some (.int .i64 p) := by go_simp
       have kb9_0_1 : w9.cell? ⟨w1.heap.size, 1, none⟩ = some (.int .i64 q) := by go_simp
       have kb9_0_2 : w9.cell? ⟨w1.heap.size, 2, none⟩ = some (.slice a2 L.length c2) := by go_simp
       have kb9_1_0 : w9.cell? ⟨w3.heap.size, 0, none⟩ = some (.int .i64 p) := by go_simp
       have kb9_1_1 : w9.cell? ⟨w3.heap.size, 1, none⟩ = some (.int .i64 q) := by go_simp
       have kb9_1_2 : w9.cell? ⟨w3.heap.size, 2, none⟩ = some (.slice a3 L.length c3) := by go_simp
       have HB9 := Lib.hid (HB8.out.trans (hN9.mono zl))
       have HR9_tab := Lib.hid (HR8_tab.out.below hN9 zl)
       have HR9_err := Lib.hid (HR8_err.out.below hN9 zl)
       have HR9_d := Lib.hid (HR8_d.out.below hN9 zl)
       have HR9_x := Lib.hid (HR8_x.out.below hN9 zl)
       clear hc9 hf9 hb9 hN9 hz9
       have HR9_z := Lib.hid (hI5)
       clear hI5
       go_wp2_with fail
       refine calls_namedD ?_
       intro w10 hw10
       have hN10 : Below w9.heap.size w9 w10 := by
         rw [hw10]
         exact zb
       have hz10 : w10.heap.size = _ := congrArg (fun W : World => W.heap.size) hw10
       try simp at hz10
       have hn10 := hN10.size
       have hs10_0 : w1.heap.size < w10.heap.size := by omega
       have hs10_1 : w3.heap.size < w10.heap.size := by omega
       have hs10_2 : w9.heap.size < w10.heap.size := by omega
       have kb10_0_0 : w10.cell? ⟨w1.heap.size, 0, none⟩ = some (.int .i64 p) := by rw [hw10]; go_simp
       have kb10_0_1 : w10.cell? ⟨w1.heap.size, 1, none⟩ = some (.int .i64 q) := by rw [hw10]; go_simp
       have kb10_0_2 : w10.cell? ⟨w1.heap.size, 2, none⟩ = some (.slice a2 L.length c2) := by rw [hw10]; go_simp
       have kb10_1_0 : w10.cell? ⟨w3.heap.size, 0, none⟩ = some (.int .i64 p) := by rw [hw10]; go_simp
       have kb10_1_1 : w10.cell? ⟨w3.heap.size, 1, none⟩ = some (.int .i64 q) := by rw [hw10]; go_simp
       have kb10_1_2 : w10.cell? ⟨w3.heap.size, 2, none⟩ = some (.slice a3 L.length c3) := by rw [hw10]; go_simp
       have kb10_2_0 : w10.cell? ⟨w9.heap.size, 0, none⟩ = some (.int .i64 p) := by rw [hw10]; go_simp
       have kb10_2_1 : w10.cell? ⟨w9.heap.size, 1, none⟩ = some (.int .i64 q) := by rw [hw10]; go_simp
       have kb10_2_2 : w10.cell? ⟨w9.heap.size, 2, none⟩ = some (.slice a5 L.length c5) := by rw [hw10]; go_simp
       have HB10 := Lib.hid (HB9.out.trans (hN10.mono zl))
       have HR10_tab := Lib.hid (HR9_tab.out.below hN10 zl)
       have HR10_err := Lib.hid (HR9_err.out.below hN10 zl)
       have HR10_d := Lib.hid (HR9_d.out.below hN10 zl)
       have HR10_x := Lib.hid (HR9_x.out.below hN10 zl)
       have HR10_z := Lib.hid (HR9_z.out.below hN10 zl)
       clear hw10 hN10 hz10
       refine (implOk_is _ _ p q L _ _ HR10_x.out hRn true HR.out).mono ?_
       rintro e w11 ⟨rfl, hb11⟩
       obtain ⟨hc11, hf11⟩ := bcell hb11
       have hz11 := hb11.size
       try simp at hz11
       have hN11 : Below w10.heap.size w10 w11 := by
         refine Below.trans ?_ (hb11.mono zo)
         exact zb
       have hn11 := hN11.size
       have hs11_0 : w1.heap.size < w11.heap.size := by omega
       have hs11_1 : w3.heap.size < w11.heap.size := by omega
       have hs11_2 : w9.heap.size < w11.heap.size := by omega
       have kb11_0_0 : w11.cell? ⟨w1.heap.size, 0, none⟩ = some (.int .i64 p) := by go_simp
       have kb11_0_1 : w11.cell? ⟨w1.heap.size, 1, none⟩ = some (.int .i64 q) := by go_simp
       have kb11_0_2 : w11.cell? ⟨w1.heap.size, 2, none⟩ = some (.slice a2 L.length c2) := by go_simp
       have kb11_1_0 : w11.cell? ⟨w3.heap.size, 0, none⟩ = some (.int .i64 p) := by go_simp
       have kb11_1_1 : w11.cell? ⟨w3.heap.size, 1, none⟩ = some (.int .i64 q) := by go_simp
       have kb11_1_2 : w11.cell? ⟨w3.heap.size, 2, none⟩ = some (.slice a3 L.length c3) := by go_simp
       have kb11_2_0 : w11.cell? ⟨w9.heap.size, 0, none⟩ = some (.int .i64 p) := by go_simp
       have kb11_2_1 : w11.cell? ⟨w9.heap.size, 1, none⟩ = some (.int .i64 q) := by go_simp
       have kb11_2_2 : w11.cell? ⟨w9.heap.size, 2, none⟩ = some (.slice a5 L.length c5) := by go_simp
       have HB11 := Lib.hid (HB10.out.trans (hN11.mono zl))
       have HR11_tab := Lib.hid (HR10_tab.out.below hN11 zl)
       have HR11_err := Lib.hid (HR10_err.out.below hN11 zl)
       have HR11_d := Lib.hid (HR10_d.out.below hN11 zl)
       have HR11_x := Lib.hid (HR10_x.out.below hN11 zl)
       have HR11_z := Lib.hid (HR10_z.out.below hN11 zl)
       clear hc11 hf11 hb11 hN11 hz11
       go_wp2_with fail
       refine (sameDesk_yes _ _ _ _ p q _ _ L _ HR11_x.out HR11_d.out hn).mono ?_
       rintro e w12 ⟨rfl, hb12⟩
       obtain ⟨hc12, hf12⟩ := bcell hb12
       have hz12 := hb12.size
       try simp at hz12
       have hN12 : Below w11.heap.size w11 w12 := by
         refine Below.trans ?_ (hb12.mono zo)
         exact zb
       have hn12 := hN12.size
       have hs12_0 : w1.heap.size < w12.heap.size := by omega
       have hs12_1 : w3.heap.size < w12.heap.size := by omega
       have hs12_2 : w9.heap.size < w12.heap.size := by omega
       have kb12_0_0 : w12.cell? ⟨w1.heap.size, 0, none⟩ = some (.int .i64 p) := by go_simp
       have kb12_0_1 : w12.cell? ⟨w1.heap.size, 1, none⟩ = some (.int .i64 q) := by go_simp
       have kb12_0_2 : w12.cell? ⟨w1.heap.size, 2, none⟩ = some (.slice a2 L.length c2) := by go_simp
       have kb12_1_0 : w12.cell? ⟨w3.heap.size, 0, none⟩ = some (.int .i64 p) := by go_simp
       have kb12_1_1 : w12.cell? ⟨w3.heap.size, 1, none⟩ = some (.int .i64 q) := by go_simp
       have kb12_1_2 : w12.cell? ⟨w3.heap.size, 2, none⟩ = some (.slice a3 L.length c3) := by go_simp
       have kb12_2_0 : w12.cell? ⟨w9.heap.size, 0, none⟩ = some (.int .i64 p) := by go_simp
       have kb12_2_1 : w12.cell? ⟨w9.heap.size, 1, none⟩ = some (.int .i64 q) := by go_simp
       have kb12_2_2 : w12.cell? ⟨w9.heap.size, 2, none⟩ = some (.slice a5 L.length c5) := by go_simp
       have HB12 := Lib.hid (HB11.out.trans (hN12.mono zl))
       have HR12_tab := Lib.hid (HR11_tab.out.below hN12 zl)
       have HR12_err := Lib.hid (HR11_err.out.below hN12 zl)
       have HR12_d := Lib.hid (HR11_d.out.below hN12 zl)
       have HR12_x := Lib.hid (HR11_x.out.below hN12 zl)
       have HR12_z := Lib.hid (HR11_z.out.below hN12 zl)
       clear hc12 hf12 hb12 hN12 hz12
       go_wp2_with fail
       refine (sameDesk_yes _ _ _ _ p q _ _ L _ HR12_z.out HR12_d.out hn).mono ?_
       rintro e w13 ⟨rfl, hb13⟩
       obtain ⟨hc13, hf13⟩ := bcell hb13
       have hz13 := hb13.size
       try simp at hz13
       have hN13 : Below w12.heap.size w12 w13 := by
         refine Below.trans ?_ (hb13.mono zo)
         exact zb
       have hn13 := hN13.size
       have hs13_0 : w1.heap.size < w13.heap.size := by omega
       have hs13_1 : w3.heap.size < w13.heap.size := by omega
       have hs13_2 : w9.heap.size < w13.heap.size := by omega
       have kb13_0_0 : w13.cell? ⟨w1.heap.size, 0, none⟩ = some (.int .i64 p) := by go_simp
       have kb13_0_1 : w13.cell? ⟨w1.heap.size, 1, none⟩ = some (.int .i64 q) := by go_simp
       have kb13_0_2 : w13.cell? ⟨w1.heap.size, 2, none⟩ = some (.slice a2 L.length c2) := by go_simp
       have kb13_1_0 : w13.cell? ⟨w3.heap.size, 0, none⟩ = some (.int .i64 p) := by go_simp
       have kb13_1_1 : w13.cell? ⟨w3.heap.size, 1, none⟩ = some (.int .i64 q) := by go_simp
       have kb13_1_2 : w13.cell? ⟨w3.heap.size, 2, none⟩ = some (.slice a3 L.length c3) := by go_simp
       have kb13_2_0 : w13.cell? ⟨w9.heap.size, 0, none⟩ = some (.int .i64 p) := by go_simp
       have kb13_2_1 : w13.cell? ⟨w9.heap.size, 1, none⟩ = some (.int .i64 q) := by go_simp
       have kb13_2_2 : w13.cell? ⟨w9.heap.size, 2, none⟩ = some (.slice a5 L.length c5) := by go_simp
       have HB13 := Lib.hid (HB12.out.trans (hN13.mono zl))
       have HR13_tab := Lib.hid (HR12_tab.out.below hN13 zl)
       have HR13_err := Lib.hid (HR12_err.out.below hN13 zl)
       have HR13_d := Lib.hid (HR12_d.out.below hN13 zl)
       have HR13_x := Lib.hid (HR12_x.out.below hN13 zl)
       have HR13_z := Lib.hid (HR12_z.out.below hN13 zl)
       clear hc13 hf13 hb13 hN13 hz13
       go_wp2
       go_ret
       exact ⟨rfl, HB13.out⟩
end
end Go.Proofs.YtblphilcmfabkaaGreatDoor
