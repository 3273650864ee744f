/- Contracts and laws that the statement's proof stands on, one text behind the other. -/
import Derived.Test.YtblphilcmfabkaaGreatDoorAla0c
import Derived.Test.YtblphilcmfabkaaGreatDoorHwDeskLaid
import Derived.Test.YtblphilcmfabkaaGreatDoorHwDeskBy
import Derived.Deep.RegionWith

namespace Go.Proofs.YtblphilcmfabkaaGreatDoor
open Go.RowKit
theorem laid_any (B C : Nat) (p q r s : Int) (L : List (Int × Int)) (v : Value) (w : World) (h : IsPairs B C w v L) (hn : L.length ≤ 8) :
   Calls Tryz.prog 90 #[.agg #[.int .i64 p, .int .i64 q, v], pr r s] w (DeskRet (laidN p q L r s).1 (laidN p q L r s).2 w) := by
 by_cases hr : r = p
 · subst hr
   by_cases hs : s = q
   · subst hs
     have e : laidN r s L r s = (⟨(r, s), L⟩, false) := if_pos (.inl ⟨rfl, rfl⟩)
     rw [e]
     exact laid_same B C r s L v w h zO
   · cases hp : pairB r s with
     | false =>
       have e : laidN r q L r s = (⟨(r, q), L⟩, false) := if_pos (.inr hp)
       rw [e]
       exact laid_noq B C r q s L hp hs v w h zO
     | true =>
       have e : laidN r q L r s = (⟨(r, s), (L ++ [(r, q)]).drop (L.length + 1 - 8)⟩, true) := if_neg (fun h => by rcases h with h | h; exact hs h.2; rw [hp] at h; cases h)
       rw [e]
       exact laid_yesq B C r q s L hp hs v w h hn
 · cases hp : pairB r s with
   | false =>
     have e : laidN p q L r s = (⟨(p, q), L⟩, false) := if_pos (.inr hp)
     rw [e]
     exact laid_no B C p q r s L hp hr v w h zO
   | true =>
     have e : laidN p q L r s = (⟨(r, s), (L ++ [(p, q)]).drop (L.length + 1 - 8)⟩, true) := if_neg (fun h => by rcases h with h | h; exact hr h.1; rw [hp] at h; cases h)
     rw [e]
     exact laid_yes B C p q r s L hp hr v w h hn
set_option maxRecDepth 100000 in
set_option maxHeartbeats 1000000 in
theorem implDo_no (B C : Nat) (p q k x y : Int) (L : List (Int × Int))  (v : Value) (w : World) (h : IsPairs B C w v L) (hn : L.length ≤ 1048600) (hd : deskN ⟨(p, q), L⟩ = false) :
   Calls Tryz.prog 52 #[.agg #[.int .i64 p, .int .i64 q, v], .agg #[.int .i64 k, .int .i64 x, .int .i64 y]] w (DeskRet ⟨(0, 0), []⟩ false w) := by
 obtain ⟨a, cap, rfl, hC, hs0⟩ := id h
 clear hs0
 have H := Lib.hid h
 have HD := Lib.hid hd
 clear h hd
 go_enter Tryz.func52, Tryz.ntmps52
 go_wp2_with fail
 refine (implDeskOk_any B C p q _ _ _ (H.out.below (show Below w.heap.size w _ by exact zb) hC) hn).mono ?_
 rintro e w1 ⟨rfl, hb1⟩
 obtain ⟨hc1, hf1⟩ := bcell hb1
 have hz1 := hb1.size
 simp at hz1
 have hz1a : w.heap.size < w1.heap.size := by omega
 have hz1b : w.heap.size + 1 < w1.heap.size := by omega
 have hz1c : w.heap.size + 1 + 1 < w1.heap.size := by omega
 have HB1 := Lib.hid (show Below w.heap.size w w1 by exact zb)
 rw [HD.out]
 clear hb1
 go_wp2_with fail
 refine bodyPost_ret (v := .tuple #[.agg #[.int .i64 0, .int .i64 0, .slice none 0 0], .bool false]) (by simp [results, Tryz.results52, go_sem] <;> go_simp) rfl ⟨none, 0, rfl, ?_, ?_⟩
 · exact IsPairs.mono (IsPairs.empty w.heap.size _ none 0) (Nat.le_refl _) (Nat.le_refl _) (Nat.le_refl _)
 · exact ((HB1.out.setCell zs _).setCell zs _).setCell zs _
set_option maxRecDepth 100000 in
set_option maxHeartbeats 1000000 in
theorem implDo_other (B C : Nat) (p q k x y : Int) (L : List (Int × Int)) (hk : ¬ k = 0) (hab : ¬ (x = 0 ∧ y = 0)) (v : Value) (w : World) (h : IsPairs B C w v L) (hn : L.length ≤ 1048600) (hd : deskN ⟨(p, q), L⟩ = true) :
   Calls Tryz.prog 52 #[.agg #[.int .i64 p, .int .i64 q, v], .agg #[.int .i64 k, .int .i64 x, .int .i64 y]] w (DeskRet ⟨(p, q), L⟩ false w) := by
 obtain ⟨a, cap, rfl, hC, hs0⟩ := id h
 clear hs0
 have H := Lib.hid h
 have HD := Lib.hid hd
 clear h hd
 have HAB := Lib.hid hab
 go_enter Tryz.func52, Tryz.ntmps52
 go_wp2_with fail
 refine (implDeskOk_any B C p q _ _ _ (H.out.below (show Below w.heap.size w _ by exact zb) hC) hn).mono ?_
 rintro e w1 ⟨rfl, hb1⟩
 obtain ⟨hc1, hf1⟩ := bcell hb1
 have hz1 := hb1.size
 simp at hz1
 have hz1a : w.heap.size < w1.heap.size := by omega
 have hz1b : w.heap.size + 1 < w1.heap.size := by omega
 have hz1c : w.heap.size + 1 + 1 < w1.heap.size := by omega
 have HB1 := Lib.hid (show Below w.heap.size w w1 by exact zb)
 rw [HD.out]
 clear hb1
 go_wp2_with fail
 refine (namesNone_no k x y _ hab).mono ?_
 rintro e w2 ⟨rfl, hb2⟩
 obtain ⟨hc2, hf2⟩ := bcell hb2
 have hz2 := hb2.size
 have hz2a : w.heap.size < w2.heap.size := by omega
 have hz2b : w.heap.size + 1 < w2.heap.size := by omega
 have hz2c : w.heap.size + 1 + 1 < w2.heap.size := by omega
 have HB2 := Lib.hid (HB1.out.trans (hb2.mono zO))
 clear hb2
 go_wp2_with fail
 refine (deskWith_any B C p q L _ _ (H.out.below HB2.out hC) hn).mono ?_
 rintro e w3 ⟨a9, c9, rfl, hown3, hb3⟩
 dsimp only at hown3 ⊢
 obtain ⟨hc3, hf3⟩ := bcell hb3
 have hz3 := hb3.size
 have hz3c : w.heap.size + 1 + 1 < w3.heap.size := by omega
 have HI9 := Lib.hid ((IsPairs.of_owns hown3).mono (show w.heap.size + 3 ≤ _ by omega) (Nat.le_refl _) (Nat.le_refl _))
 have HB9 := Lib.hid (HB2.out.trans (hb3.mono zO))
 clear hown3 hb3
 go_wp2_with fail
 refine bodyPost_ret (v := .tuple #[.agg #[.int .i64 (p), .int .i64 (q), .slice a9 (L).length c9], .bool false]) (by simp [results, Tryz.results52, go_sem] <;> go_simp) rfl ⟨a9, c9, rfl, ?_, ?_⟩
 · exact (((HI9.out.set (p := ⟨w.heap.size + 1 + 1, 0, none⟩) (by show w.heap.size + 1 + 1 < _; omega) _).set (p := ⟨w.heap.size + 1 + 1, 1, none⟩) (by show w.heap.size + 1 + 1 < _; omega) _).set (p := ⟨w.heap.size + 1 + 1, 2, none⟩) (by show w.heap.size + 1 + 1 < _; omega) _).mono zO (by simp) (Nat.le_refl _)
 · exact ((HB9.out.setCell zs _).setCell zs _).setCell zs _
set_option maxRecDepth 100000 in
set_option maxHeartbeats 1000000 in
theorem implDo_none (B C : Nat) (p q k x y : Int) (L : List (Int × Int)) (hk : k = 4 ∧ x = 0 ∧ y = 0) (hL : L = []) (v : Value) (w : World) (h : IsPairs B C w v L) (hn : L.length ≤ 1048600) (hd : deskN ⟨(p, q), L⟩ = true) :
   Calls Tryz.prog 52 #[.agg #[.int .i64 p, .int .i64 q, v], .agg #[.int .i64 k, .int .i64 x, .int .i64 y]] w (DeskRet ⟨(p, q), L⟩ false w) := by
 obtain ⟨a, cap, rfl, hC, hs0⟩ := id h
 clear hs0
 have H := Lib.hid h
 have HD := Lib.hid hd
 clear h hd
 obtain ⟨rfl, rfl, rfl⟩ := hk
 subst hL
 go_enter Tryz.func52, Tryz.ntmps52
 go_wp2_with fail
 refine (implDeskOk_any B C p q _ _ _ (H.out.below (show Below w.heap.size w _ by exact zb) hC) hn).mono ?_
 rintro e w1 ⟨rfl, hb1⟩
 obtain ⟨hc1, hf1⟩ := bcell hb1
 have hz1 := hb1.size
 simp at hz1
 have hz1a : w.heap.size < w1.heap.size := by omega
 have hz1b : w.heap.size + 1 < w1.heap.size := by omega
 have hz1c : w.heap.size + 1 + 1 < w1.heap.size := by omega
 have HB1 := Lib.hid (show Below w.heap.size w w1 by exact zb)
 rw [HD.out]
 clear hb1
 go_wp2_with fail
 refine (namesNone_yes _ _).mono ?_
 rintro e w2 ⟨rfl, hb2⟩
 obtain ⟨hc2, hf2⟩ := bcell hb2
 have hz2 := hb2.size
 have hz2a : w.heap.size < w2.heap.size := by omega
 have hz2b : w.heap.size + 1 < w2.heap.size := by omega
 have hz2c : w.heap.size + 1 + 1 < w2.heap.size := by omega
 have HB2 := Lib.hid (HB1.out.trans (hb2.mono zO))
 clear hb2
 go_wp2_with fail
 refine (putBack_none B C p q _ _ (H.out.below HB2.out hC)).mono ?_
 rintro e w3 ⟨a9, c9, rfl, hI3, hb3⟩
 dsimp only at hI3 ⊢
 obtain ⟨hc3, hf3⟩ := bcell hb3
 have hz3 := hb3.size
 have hz3c : w.heap.size + 1 + 1 < w3.heap.size := by omega
 have HI9 := Lib.hid (hI3.mono (show w.heap.size + 3 ≤ _ by omega) (Nat.le_refl _) (Nat.le_refl _))
 have HB9 := Lib.hid (HB2.out.trans (hb3.mono zO))
 clear hI3 hb3
 go_wp2_with fail
 refine bodyPost_ret (v := .tuple #[.agg #[.int .i64 (p), .int .i64 (q), .slice a9 (([] : List (Int × Int))).length c9], .bool false]) (by simp [results, Tryz.results52, go_sem] <;> go_simp) rfl ⟨a9, c9, rfl, ?_, ?_⟩
 · exact (((HI9.out.set (p := ⟨w.heap.size + 1 + 1, 0, none⟩) (by show w.heap.size + 1 + 1 < _; omega) _).set (p := ⟨w.heap.size + 1 + 1, 1, none⟩) (by show w.heap.size + 1 + 1 < _; omega) _).set (p := ⟨w.heap.size + 1 + 1, 2, none⟩) (by show w.heap.size + 1 + 1 < _; omega) _).mono zO (by simp) (Nat.le_refl _)
 · exact ((HB9.out.setCell zs _).setCell zs _).setCell zs _
set_option maxRecDepth 100000 in
set_option maxHeartbeats 1000000 in
theorem implDo_back (B C : Nat) (p q k x y : Int) (L : List (Int × Int)) (r s : Int) (M : List (Int × Int)) (hk : k = 4 ∧ x = 0 ∧ y = 0) (hL : L = M ++ [(r, s)]) (v : Value) (w : World) (h : IsPairs B C w v L) (hn : L.length ≤ 1048600) (hd : deskN ⟨(p, q), L⟩ = true) :
   Calls Tryz.prog 52 #[.agg #[.int .i64 p, .int .i64 q, v], .agg #[.int .i64 k, .int .i64 x, .int .i64 y]] w (DeskRet ⟨(r, s), M⟩ true w) := by
 obtain ⟨a, cap, rfl, hC, hs0⟩ := id h
 clear hs0
 have H := Lib.hid h
 have HD := Lib.hid hd
 clear h hd
 obtain ⟨rfl, rfl, rfl⟩ := hk
 have HL := Lib.hid hL
 clear hL
 go_enter Tryz.func52, Tryz.ntmps52
 go_wp2_with fail
 refine (implDeskOk_any B C p q _ _ _ (H.out.below (show Below w.heap.size w _ by exact zb) hC) hn).mono ?_
 rintro e w1 ⟨rfl, hb1⟩
 obtain ⟨hc1, hf1⟩ := bcell hb1
 have hz1 := hb1.size
 simp at hz1
 have hz1a : w.heap.size < w1.heap.size := by omega
 have hz1b : w.heap.size + 1 < w1.heap.size := by omega
 have hz1c : w.heap.size + 1 + 1 < w1.heap.size := by omega
 have HB1 := Lib.hid (show Below w.heap.size w w1 by exact zb)
 rw [HD.out]
 clear hb1
 go_wp2_with fail
 refine (namesNone_yes _ _).mono ?_
 rintro e w2 ⟨rfl, hb2⟩
 obtain ⟨hc2, hf2⟩ := bcell hb2
 have hz2 := hb2.size
 have hz2a : w.heap.size < w2.heap.size := by omega
 have hz2b : w.heap.size + 1 < w2.heap.size := by omega
 have hz2c : w.heap.size + 1 + 1 < w2.heap.size := by omega
 have HB2 := Lib.hid (HB1.out.trans (hb2.mono zO))
 clear hb2
 go_wp2_with fail
 refine (putBack_some B C p q r s L M HL.out _ _ (H.out.below HB2.out hC) hn).mono ?_
 rintro e w3 ⟨a9, c9, rfl, hI3, hb3⟩
 dsimp only at hI3 ⊢
 obtain ⟨hc3, hf3⟩ := bcell hb3
 have hz3 := hb3.size
 have hz3c : w.heap.size + 1 + 1 < w3.heap.size := by omega
 have HI9 := Lib.hid (hI3.mono (show w.heap.size + 3 ≤ _ by omega) (Nat.le_refl _) (Nat.le_refl _))
 have HB9 := Lib.hid (HB2.out.trans (hb3.mono zO))
 clear hI3 hb3
 go_wp2_with fail
 refine bodyPost_ret (v := .tuple #[.agg #[.int .i64 (r), .int .i64 (s), .slice a9 (M).length c9], .bool true]) (by simp [results, Tryz.results52, go_sem] <;> go_simp) rfl ⟨a9, c9, rfl, ?_, ?_⟩
 · exact (((HI9.out.set (p := ⟨w.heap.size + 1 + 1, 0, none⟩) (by show w.heap.size + 1 + 1 < _; omega) _).set (p := ⟨w.heap.size + 1 + 1, 1, none⟩) (by show w.heap.size + 1 + 1 < _; omega) _).set (p := ⟨w.heap.size + 1 + 1, 2, none⟩) (by show w.heap.size + 1 + 1 < _; omega) _).mono zO (by simp) (Nat.le_refl _)
 · exact ((HB9.out.setCell zs _).setCell zs _).setCell zs _
set_option maxRecDepth 100000 in
set_option maxHeartbeats 1000000 in
theorem implDo_take (B C : Nat) (p q k x y : Int) (L : List (Int × Int)) (hk : k = 0) (rp rq : Int) (R : List (Int × Int)) (ok : Bool) (hres : laidN p q L (byN (p, q) k x y).1 (byN (p, q) k x y).2 = (⟨(rp, rq), R⟩, ok)) (v : Value) (w : World) (h : IsPairs B C w v L) (hn : L.length ≤ 1048600) (hd : deskN ⟨(p, q), L⟩ = true) :
   Calls Tryz.prog 52 #[.agg #[.int .i64 p, .int .i64 q, v], .agg #[.int .i64 k, .int .i64 x, .int .i64 y]] w (DeskRet ⟨(rp, rq), R⟩ ok w) := by
 obtain ⟨a, cap, rfl, hC, hs0⟩ := id h
 clear hs0
 have H := Lib.hid h
 have HD := Lib.hid hd
 clear h hd
 subst hk
 go_enter Tryz.func52, Tryz.ntmps52
 go_wp2_with fail
 refine (implDeskOk_any B C p q _ _ _ (H.out.below (show Below w.heap.size w _ by exact zb) hC) hn).mono ?_
 rintro e w1 ⟨rfl, hb1⟩
 obtain ⟨hc1, hf1⟩ := bcell hb1
 have hz1 := hb1.size
 simp at hz1
 have hz1a : w.heap.size < w1.heap.size := by omega
 have hz1b : w.heap.size + 1 < w1.heap.size := by omega
 have hz1c : w.heap.size + 1 + 1 < w1.heap.size := by omega
 have HB1 := Lib.hid (show Below w.heap.size w w1 by exact zb)
 rw [HD.out]
 clear hb1
 have kc1_0_0 : w1.cell? ⟨w.heap.size, 0, none⟩ = some (.int .i64 p) := by go_simp
 have kf1_0_0 : w1.frozen? ⟨w.heap.size, 0, none⟩ = false := by go_simp
 have kc1_0_1 : w1.cell? ⟨w.heap.size, 1, none⟩ = some (.int .i64 q) := by go_simp
 have kf1_0_1 : w1.frozen? ⟨w.heap.size, 1, none⟩ = false := by go_simp
 have kc1_0_2 : w1.cell? ⟨w.heap.size, 2, none⟩ = some (.slice a L.length cap) := by go_simp
 have kf1_0_2 : w1.frozen? ⟨w.heap.size, 2, none⟩ = false := by go_simp
 have kc1_1_0 : w1.cell? ⟨w.heap.size + 1, 0, none⟩ = some (.int .i64 0) := by go_simp
 have kf1_1_0 : w1.frozen? ⟨w.heap.size + 1, 0, none⟩ = false := by go_simp
 have kc1_1_1 : w1.cell? ⟨w.heap.size + 1, 1, none⟩ = some (.int .i64 x) := by go_simp
 have kf1_1_1 : w1.frozen? ⟨w.heap.size + 1, 1, none⟩ = false := by go_simp
 have kc1_1_2 : w1.cell? ⟨w.heap.size + 1, 2, none⟩ = some (.int .i64 y) := by go_simp
 have kf1_1_2 : w1.frozen? ⟨w.heap.size + 1, 2, none⟩ = false := by go_simp
 have kc1_2_0 : w1.cell? ⟨w.heap.size + 1 + 1, 0, none⟩ = some (.int .i64 0) := by go_simp
 have kf1_2_0 : w1.frozen? ⟨w.heap.size + 1 + 1, 0, none⟩ = false := by go_simp
 have kc1_2_1 : w1.cell? ⟨w.heap.size + 1 + 1, 1, none⟩ = some (.int .i64 0) := by go_simp
 have kf1_2_1 : w1.frozen? ⟨w.heap.size + 1 + 1, 1, none⟩ = false := by go_simp
 have kc1_2_2 : w1.cell? ⟨w.heap.size + 1 + 1, 2, none⟩ = some (.slice none 0 0) := by go_simp
 have kf1_2_2 : w1.frozen? ⟨w.heap.size + 1 + 1, 2, none⟩ = false := by go_simp
 clear hc1 hf1
 have hby := fun W => pairBy_any p q 0 x y W (deskN_of HD.out).1
 obtain ⟨r, s, hrs⟩ : ∃ r s, byN (p, q) 0 x y = (r, s) := ⟨_, _, rfl⟩
 rw [hrs] at hby hres
 dsimp only at hby hres
 have hla := fun (W : World) (E E' : Nat) (hI' : IsPairs E E' W (.slice a L.length cap) L) => laid_any E E' p q r s L _ W hI' (deskN_of HD.out).2.1
 rw [hres] at hla
 unfold DeskRet at hla
 dsimp only at hla
 have HBY := Lib.hid hby
 have HLA := Lib.hid hla
 clear hby hla hrs hres
 go_wp2_with fail
 go_region_with (first | (go_at_call 91; refine (HBY.out _).mono ?_; rintro e w3 ⟨rfl, hb3⟩; have hz3 := hb3.size; (try simp at hz3); have hz3a : w.heap.size < w3.heap.size := zO; have hz3b : w.heap.size + 1 < w3.heap.size := zO; have hz3c : w.heap.size + 1 + 1 < w3.heap.size := zO; have kc3_0_0 : w3.cell? ⟨w.heap.size, 0, none⟩ = some (.int .i64 p) := (hb3.cell (p := ⟨w.heap.size, 0, none⟩) zs).trans (by go_simp); have kf3_0_0 : w3.frozen? ⟨w.heap.size, 0, none⟩ = false := (hb3.frozen (p := ⟨w.heap.size, 0, none⟩) zs).trans (by go_simp); have kc3_0_1 : w3.cell? ⟨w.heap.size, 1, none⟩ = some (.int .i64 q) := (hb3.cell (p := ⟨w.heap.size, 1, none⟩) zs).trans (by go_simp); have kf3_0_1 : w3.frozen? ⟨w.heap.size, 1, none⟩ = false := (hb3.frozen (p := ⟨w.heap.size, 1, none⟩) zs).trans (by go_simp); have kc3_0_2 : w3.cell? ⟨w.heap.size, 2, none⟩ = some (.slice a L.length cap) := (hb3.cell (p := ⟨w.heap.size, 2, none⟩) zs).trans (by go_simp); have kf3_0_2 : w3.frozen? ⟨w.heap.size, 2, none⟩ = false := (hb3.frozen (p := ⟨w.heap.size, 2, none⟩) zs).trans (by go_simp); have kc3_1_0 : w3.cell? ⟨w.heap.size + 1, 0, none⟩ = some (.int .i64 0) := (hb3.cell (p := ⟨w.heap.size + 1, 0, none⟩) zs).trans (by go_simp); have kf3_1_0 : w3.frozen? ⟨w.heap.size + 1, 0, none⟩ = false := (hb3.frozen (p := ⟨w.heap.size + 1, 0, none⟩) zs).trans (by go_simp); have kc3_1_1 : w3.cell? ⟨w.heap.size + 1, 1, none⟩ = some (.int .i64 x) := (hb3.cell (p := ⟨w.heap.size + 1, 1, none⟩) zs).trans (by go_simp); have kf3_1_1 : w3.frozen? ⟨w.heap.size + 1, 1, none⟩ = false := (hb3.frozen (p := ⟨w.heap.size + 1, 1, none⟩) zs).trans (by go_simp); have kc3_1_2 : w3.cell? ⟨w.heap.size + 1, 2, none⟩ = some (.int .i64 y) := (hb3.cell (p := ⟨w.heap.size + 1, 2, none⟩) zs).trans (by go_simp); have kf3_1_2 : w3.frozen? ⟨w.heap.size + 1, 2, none⟩ = false := (hb3.frozen (p := ⟨w.heap.size + 1, 2, none⟩) zs).trans (by go_simp); have kc3_2_0 : w3.cell? ⟨w.heap.size + 1 + 1, 0, none⟩ = some (.int .i64 0) := (hb3.cell (p := ⟨w.heap.size + 1 + 1, 0, none⟩) zs).trans (by go_simp); have kf3_2_0 : w3.frozen? ⟨w.heap.size + 1 + 1, 0, none⟩ = false := (hb3.frozen (p := ⟨w.heap.size + 1 + 1, 0, none⟩) zs).trans (by go_simp); have kc3_2_1 : w3.cell? ⟨w.heap.size + 1 + 1, 1, none⟩ = some (.int .i64 0) := (hb3.cell (p := ⟨w.heap.size + 1 + 1, 1, none⟩) zs).trans (by go_simp); have kf3_2_1 : w3.frozen? ⟨w.heap.size + 1 + 1, 1, none⟩ = false := (hb3.frozen (p := ⟨w.heap.size + 1 + 1, 1, none⟩) zs).trans (by go_simp); have kc3_2_2 : w3.cell? ⟨w.heap.size + 1 + 1, 2, none⟩ = some (.slice none 0 0) := (hb3.cell (p := ⟨w.heap.size + 1 + 1, 2, none⟩) zs).trans (by go_simp); have kf3_2_2 : w3.frozen? ⟨w.heap.size + 1 + 1, 2, none⟩ = false := (hb3.frozen (p := ⟨w.heap.size + 1 + 1, 2, none⟩) zs).trans (by go_simp)) | (go_at_call 90; refine (HLA.out _ _ _ (H.out.below (show Below w.heap.size w _ by (repeat (first | exact HB1.out | exact HB2.out | exact Below.refl _ _ | refine Below.setCell ?_ zo _ | refine Below.alloc ?_ zo _ | refine Below.drew ?_ | refine Below.trans ?_ (Below.mono (by assumption) zo)))) hC)).mono ?_; rintro e w4 ⟨a9, c9, rfl, hI4, hb4⟩; have hz4 := hb4.size; (try simp at hz4); have hz4c : w.heap.size + 1 + 1 < w4.heap.size := zO; have kc4_0_0 : w4.cell? ⟨w.heap.size + 1 + 1, 0, none⟩ = some (.int .i64 0) := (hb4.cell (p := ⟨w.heap.size + 1 + 1, 0, none⟩) zs).trans (by go_simp); have kf4_0_0 : w4.frozen? ⟨w.heap.size + 1 + 1, 0, none⟩ = false := (hb4.frozen (p := ⟨w.heap.size + 1 + 1, 0, none⟩) zs).trans (by go_simp); have kc4_0_1 : w4.cell? ⟨w.heap.size + 1 + 1, 1, none⟩ = some (.int .i64 0) := (hb4.cell (p := ⟨w.heap.size + 1 + 1, 1, none⟩) zs).trans (by go_simp); have kf4_0_1 : w4.frozen? ⟨w.heap.size + 1 + 1, 1, none⟩ = false := (hb4.frozen (p := ⟨w.heap.size + 1 + 1, 1, none⟩) zs).trans (by go_simp); have kc4_0_2 : w4.cell? ⟨w.heap.size + 1 + 1, 2, none⟩ = some (.slice none 0 0) := (hb4.cell (p := ⟨w.heap.size + 1 + 1, 2, none⟩) zs).trans (by go_simp); have kf4_0_2 : w4.frozen? ⟨w.heap.size + 1 + 1, 2, none⟩ = false := (hb4.frozen (p := ⟨w.heap.size + 1 + 1, 2, none⟩) zs).trans (by go_simp)))
 all_goals
   have HI9 := Lib.hid (hI4.mono (show w.heap.size + 3 ≤ _ by first | omega | (simp <;> omega)) (Nat.le_refl _) (Nat.le_refl _))
   have HB9 : Hid (Below w.heap.size w w4) := Lib.hid (by (repeat (first | exact HB1.out | exact HB2.out | exact Below.refl _ _ | refine Below.setCell ?_ zo _ | refine Below.alloc ?_ zo _ | refine Below.drew ?_ | refine Below.trans ?_ (Below.mono (by assumption) zo))))
   clear hI4 hb4 hb3
   go_wp2_with fail
   refine bodyPost_ret (v := .tuple #[.agg #[.int .i64 (rp), .int .i64 (rq), .slice a9 (R).length c9], .bool ok]) (by simp [results, Tryz.results52, go_sem] <;> go_simp) rfl ⟨a9, c9, rfl, ?_, ?_⟩
   · exact (((HI9.out.set (p := ⟨w.heap.size + 1 + 1, 0, none⟩) (by show w.heap.size + 1 + 1 < _; omega) _).set (p := ⟨w.heap.size + 1 + 1, 1, none⟩) (by show w.heap.size + 1 + 1 < _; omega) _).set (p := ⟨w.heap.size + 1 + 1, 2, none⟩) (by show w.heap.size + 1 + 1 < _; omega) _).mono zO (by simp) (Nat.le_refl _)
   · exact ((HB9.out.setCell zs _).setCell zs _).setCell zs _
set_option maxRecDepth 100000 in
set_option maxHeartbeats 1000000 in
theorem implDo_else (B C : Nat) (p q k x y : Int) (L : List (Int × Int)) (hk : ¬ k = 0) (hk4 : ¬ k = 4) (hx : x = 0) (hy : y = 0) (rp rq : Int) (R : List (Int × Int)) (ok : Bool) (hres : laidN p q L (byN (p, q) k x y).1 (byN (p, q) k x y).2 = (⟨(rp, rq), R⟩, ok)) (v : Value) (w : World) (h : IsPairs B C w v L) (hn : L.length ≤ 1048600) (hd : deskN ⟨(p, q), L⟩ = true) :
   Calls Tryz.prog 52 #[.agg #[.int .i64 p, .int .i64 q, v], .agg #[.int .i64 k, .int .i64 x, .int .i64 y]] w (DeskRet ⟨(rp, rq), R⟩ ok w) := by
 obtain ⟨a, cap, rfl, hC, hs0⟩ := id h
 clear hs0
 have H := Lib.hid h
 have HD := Lib.hid hd
 clear h hd
 subst hx hy
 go_enter Tryz.func52, Tryz.ntmps52
 go_wp2_with fail
 refine (implDeskOk_any B C p q _ _ _ (H.out.below (show Below w.heap.size w _ by exact zb) hC) hn).mono ?_
 rintro e w1 ⟨rfl, hb1⟩
 obtain ⟨hc1, hf1⟩ := bcell hb1
 have hz1 := hb1.size
 simp at hz1
 have hz1a : w.heap.size < w1.heap.size := by omega
 have hz1b : w.heap.size + 1 < w1.heap.size := by omega
 have hz1c : w.heap.size + 1 + 1 < w1.heap.size := by omega
 have HB1 := Lib.hid (show Below w.heap.size w w1 by exact zb)
 rw [HD.out]
 clear hb1
 go_wp2_with fail
 refine (namesNone_yes _ _).mono ?_
 rintro e w2 ⟨rfl, hb2⟩
 obtain ⟨hc2, hf2⟩ := bcell hb2
 have hz2 := hb2.size
 have hz2a : w.heap.size < w2.heap.size := by omega
 have hz2b : w.heap.size + 1 < w2.heap.size := by omega
 have hz2c : w.heap.size + 1 + 1 < w2.heap.size := by omega
 have HB2 := Lib.hid (HB1.out.trans (hb2.mono zO))
 clear hb2
 have kc2_0_0 : w2.cell? ⟨w.heap.size, 0, none⟩ = some (.int .i64 p) := by go_simp
 have kf2_0_0 : w2.frozen? ⟨w.heap.size, 0, none⟩ = false := by go_simp
 have kc2_0_1 : w2.cell? ⟨w.heap.size, 1, none⟩ = some (.int .i64 q) := by go_simp
 have kf2_0_1 : w2.frozen? ⟨w.heap.size, 1, none⟩ = false := by go_simp
 have kc2_0_2 : w2.cell? ⟨w.heap.size, 2, none⟩ = some (.slice a L.length cap) := by go_simp
 have kf2_0_2 : w2.frozen? ⟨w.heap.size, 2, none⟩ = false := by go_simp
 have kc2_1_0 : w2.cell? ⟨w.heap.size + 1, 0, none⟩ = some (.int .i64 k) := by go_simp
 have kf2_1_0 : w2.frozen? ⟨w.heap.size + 1, 0, none⟩ = false := by go_simp
 have kc2_1_1 : w2.cell? ⟨w.heap.size + 1, 1, none⟩ = some (.int .i64 0) := by go_simp
 have kf2_1_1 : w2.frozen? ⟨w.heap.size + 1, 1, none⟩ = false := by go_simp
 have kc2_1_2 : w2.cell? ⟨w.heap.size + 1, 2, none⟩ = some (.int .i64 0) := by go_simp
 have kf2_1_2 : w2.frozen? ⟨w.heap.size + 1, 2, none⟩ = false := by go_simp
 have kc2_2_0 : w2.cell? ⟨w.heap.size + 1 + 1, 0, none⟩ = some (.int .i64 0) := by go_simp
 have kf2_2_0 : w2.frozen? ⟨w.heap.size + 1 + 1, 0, none⟩ = false := by go_simp
 have kc2_2_1 : w2.cell? ⟨w.heap.size + 1 + 1, 1, none⟩ = some (.int .i64 0) := by go_simp
 have kf2_2_1 : w2.frozen? ⟨w.heap.size + 1 + 1, 1, none⟩ = false := by go_simp
 have kc2_2_2 : w2.cell? ⟨w.heap.size + 1 + 1, 2, none⟩ = some (.slice none 0 0) := by go_simp
 have kf2_2_2 : w2.frozen? ⟨w.heap.size + 1 + 1, 2, none⟩ = false := by go_simp
 clear hc1 hf1 hc2 hf2
 have hby := fun W => pairBy_any p q k 0 0 W (deskN_of HD.out).1
 obtain ⟨r, s, hrs⟩ : ∃ r s, byN (p, q) k 0 0 = (r, s) := ⟨_, _, rfl⟩
 rw [hrs] at hby hres
 dsimp only at hby hres
 have hla := fun (W : World) (E E' : Nat) (hI' : IsPairs E E' W (.slice a L.length cap) L) => laid_any E E' p q r s L _ W hI' (deskN_of HD.out).2.1
 rw [hres] at hla
 unfold DeskRet at hla
 dsimp only at hla
 have HBY := Lib.hid hby
 have HLA := Lib.hid hla
 clear hby hla hrs hres
 go_wp2_with fail
 go_region_with (first | (go_at_call 91; refine (HBY.out _).mono ?_; rintro e w3 ⟨rfl, hb3⟩; have hz3 := hb3.size; (try simp at hz3); have hz3a : w.heap.size < w3.heap.size := zO; have hz3b : w.heap.size + 1 < w3.heap.size := zO; have hz3c : w.heap.size + 1 + 1 < w3.heap.size := zO; have kc3_0_0 : w3.cell? ⟨w.heap.size, 0, none⟩ = some (.int .i64 p) := (hb3.cell (p := ⟨w.heap.size, 0, none⟩) zs).trans (by go_simp); have kf3_0_0 : w3.frozen? ⟨w.heap.size, 0, none⟩ = false := (hb3.frozen (p := ⟨w.heap.size, 0, none⟩) zs).trans (by go_simp); have kc3_0_1 : w3.cell? ⟨w.heap.size, 1, none⟩ = some (.int .i64 q) := (hb3.cell (p := ⟨w.heap.size, 1, none⟩) zs).trans (by go_simp); have kf3_0_1 : w3.frozen? ⟨w.heap.size, 1, none⟩ = false := (hb3.frozen (p := ⟨w.heap.size, 1, none⟩) zs).trans (by go_simp); have kc3_0_2 : w3.cell? ⟨w.heap.size, 2, none⟩ = some (.slice a L.length cap) := (hb3.cell (p := ⟨w.heap.size, 2, none⟩) zs).trans (by go_simp); have kf3_0_2 : w3.frozen? ⟨w.heap.size, 2, none⟩ = false := (hb3.frozen (p := ⟨w.heap.size, 2, none⟩) zs).trans (by go_simp); have kc3_1_0 : w3.cell? ⟨w.heap.size + 1, 0, none⟩ = some (.int .i64 k) := (hb3.cell (p := ⟨w.heap.size + 1, 0, none⟩) zs).trans (by go_simp); have kf3_1_0 : w3.frozen? ⟨w.heap.size + 1, 0, none⟩ = false := (hb3.frozen (p := ⟨w.heap.size + 1, 0, none⟩) zs).trans (by go_simp); have kc3_1_1 : w3.cell? ⟨w.heap.size + 1, 1, none⟩ = some (.int .i64 0) := (hb3.cell (p := ⟨w.heap.size + 1, 1, none⟩) zs).trans (by go_simp); have kf3_1_1 : w3.frozen? ⟨w.heap.size + 1, 1, none⟩ = false := (hb3.frozen (p := ⟨w.heap.size + 1, 1, none⟩) zs).trans (by go_simp); have kc3_1_2 : w3.cell? ⟨w.heap.size + 1, 2, none⟩ = some (.int .i64 0) := (hb3.cell (p := ⟨w.heap.size + 1, 2, none⟩) zs).trans (by go_simp); have kf3_1_2 : w3.frozen? ⟨w.heap.size + 1, 2, none⟩ = false := (hb3.frozen (p := ⟨w.heap.size + 1, 2, none⟩) zs).trans (by go_simp); have kc3_2_0 : w3.cell? ⟨w.heap.size + 1 + 1, 0, none⟩ = some (.int .i64 0) := (hb3.cell (p := ⟨w.heap.size + 1 + 1, 0, none⟩) zs).trans (by go_simp); have kf3_2_0 : w3.frozen? ⟨w.heap.size + 1 + 1, 0, none⟩ = false := (hb3.frozen (p := ⟨w.heap.size + 1 + 1, 0, none⟩) zs).trans (by go_simp); have kc3_2_1 : w3.cell? ⟨w.heap.size + 1 + 1, 1, none⟩ = some (.int .i64 0) := (hb3.cell (p := ⟨w.heap.size + 1 + 1, 1, none⟩) zs).trans (by go_simp); have kf3_2_1 : w3.frozen? ⟨w.heap.size + 1 + 1, 1, none⟩ = false := (hb3.frozen (p := ⟨w.heap.size + 1 + 1, 1, none⟩) zs).trans (by go_simp); have kc3_2_2 : w3.cell? ⟨w.heap.size + 1 + 1, 2, none⟩ = some (.slice none 0 0) := (hb3.cell (p := ⟨w.heap.size + 1 + 1, 2, none⟩) zs).trans (by go_simp); have kf3_2_2 : w3.frozen? ⟨w.heap.size + 1 + 1, 2, none⟩ = false := (hb3.frozen (p := ⟨w.heap.size + 1 + 1, 2, none⟩) zs).trans (by go_simp)) | (go_at_call 90; refine (HLA.out _ _ _ (H.out.below (show Below w.heap.size w _ by (repeat (first | exact HB1.out | exact HB2.out | exact Below.refl _ _ | refine Below.setCell ?_ zo _ | refine Below.alloc ?_ zo _ | refine Below.drew ?_ | refine Below.trans ?_ (Below.mono (by assumption) zo)))) hC)).mono ?_; rintro e w4 ⟨a9, c9, rfl, hI4, hb4⟩; have hz4 := hb4.size; (try simp at hz4); have hz4c : w.heap.size + 1 + 1 < w4.heap.size := zO; have kc4_0_0 : w4.cell? ⟨w.heap.size + 1 + 1, 0, none⟩ = some (.int .i64 0) := (hb4.cell (p := ⟨w.heap.size + 1 + 1, 0, none⟩) zs).trans (by go_simp); have kf4_0_0 : w4.frozen? ⟨w.heap.size + 1 + 1, 0, none⟩ = false := (hb4.frozen (p := ⟨w.heap.size + 1 + 1, 0, none⟩) zs).trans (by go_simp); have kc4_0_1 : w4.cell? ⟨w.heap.size + 1 + 1, 1, none⟩ = some (.int .i64 0) := (hb4.cell (p := ⟨w.heap.size + 1 + 1, 1, none⟩) zs).trans (by go_simp); have kf4_0_1 : w4.frozen? ⟨w.heap.size + 1 + 1, 1, none⟩ = false := (hb4.frozen (p := ⟨w.heap.size + 1 + 1, 1, none⟩) zs).trans (by go_simp); have kc4_0_2 : w4.cell? ⟨w.heap.size + 1 + 1, 2, none⟩ = some (.slice none 0 0) := (hb4.cell (p := ⟨w.heap.size + 1 + 1, 2, none⟩) zs).trans (by go_simp); have kf4_0_2 : w4.frozen? ⟨w.heap.size + 1 + 1, 2, none⟩ = false := (hb4.frozen (p := ⟨w.heap.size + 1 + 1, 2, none⟩) zs).trans (by go_simp)))
 all_goals
   have HI9 := Lib.hid (hI4.mono (show w.heap.size + 3 ≤ _ by first | omega | (simp <;> omega)) (Nat.le_refl _) (Nat.le_refl _))
   have HB9 : Hid (Below w.heap.size w w4) := Lib.hid (by (repeat (first | exact HB1.out | exact HB2.out | exact Below.refl _ _ | refine Below.setCell ?_ zo _ | refine Below.alloc ?_ zo _ | refine Below.drew ?_ | refine Below.trans ?_ (Below.mono (by assumption) zo))))
   clear hI4 hb4 hb3
   go_wp2_with fail
   refine bodyPost_ret (v := .tuple #[.agg #[.int .i64 (rp), .int .i64 (rq), .slice a9 (R).length c9], .bool ok]) (by simp [results, Tryz.results52, go_sem] <;> go_simp) rfl ⟨a9, c9, rfl, ?_, ?_⟩
   · exact (((HI9.out.set (p := ⟨w.heap.size + 1 + 1, 0, none⟩) (by show w.heap.size + 1 + 1 < _; omega) _).set (p := ⟨w.heap.size + 1 + 1, 1, none⟩) (by show w.heap.size + 1 + 1 < _; omega) _).set (p := ⟨w.heap.size + 1 + 1, 2, none⟩) (by show w.heap.size + 1 + 1 < _; omega) _).mono zO (by simp) (Nat.le_refl _)
   · exact ((HB9.out.setCell zs _).setCell zs _).setCell zs _
theorem implDo_any (B C : Nat) (p q k x y : Int) (L : List (Int × Int)) (v : Value) (w : World) (h : IsPairs B C w v L) (hn : L.length ≤ 1048600) :
   Calls Tryz.prog 52 #[.agg #[.int .i64 p, .int .i64 q, v], .agg #[.int .i64 k, .int .i64 x, .int .i64 y]] w (DeskRet (doR ⟨(p, q), L⟩ ⟨k, x, y⟩).1 (doR ⟨(p, q), L⟩ ⟨k, x, y⟩).2 w) := by
 cases hd : deskN ⟨(p, q), L⟩ with
 | false => rw [doR_no hd]; exact implDo_no B C p q k x y L v w h hn hd
 | true =>
   rw [doR_yes hd]
   by_cases hk : k = 0
   · rw [doN_laid (.inl hk)]
     obtain ⟨rp, rq, R, ok, hres⟩ : ∃ rp rq R ok, laidN p q L (byN (p, q) k x y).1 (byN (p, q) k x y).2 = (⟨(rp, rq), R⟩, ok) := ⟨_, _, _, _, rfl⟩
     have := implDo_take B C p q k x y L hk rp rq R ok hres v w h hn hd
     rw [hres]; exact this
   · by_cases hab : x = 0 ∧ y = 0
     · obtain ⟨rfl, rfl⟩ := hab
       by_cases hk4 : k = 4
       · subst hk4
         rcases List.eq_nil_or_concat L with hL | ⟨M, ⟨r, s⟩, hL⟩
         · have e : doN ⟨(p, q), L⟩ ⟨4, 0, 0⟩ = (⟨(p, q), L⟩, false) := by rw [hL]; rfl
           rw [e]
           exact implDo_none B C p q 4 0 0 L ⟨rfl, rfl, rfl⟩ hL v w h hn hd
         · rw [List.concat_eq_append] at hL
           have e : doN ⟨(p, q), L⟩ ⟨4, 0, 0⟩ = (⟨(r, s), M⟩, true) := by rw [hL]; exact doN_last p q r s M
           rw [e]
           exact implDo_back B C p q 4 0 0 L r s M ⟨rfl, rfl, rfl⟩ hL v w h hn hd
       · rw [doN_laid (.inr ⟨hk4, rfl, rfl⟩)]
         obtain ⟨rp, rq, R, ok, hres⟩ : ∃ rp rq R ok, laidN p q L (byN (p, q) k 0 0).1 (byN (p, q) k 0 0).2 = (⟨(rp, rq), R⟩, ok) := ⟨_, _, _, _, rfl⟩
         have := implDo_else B C p q k 0 0 L hk hk4 rfl rfl rp rq R ok hres v w h hn hd
         rw [hres]; exact this
     · have e : doN ⟨(p, q), L⟩ ⟨k, x, y⟩ = (⟨(p, q), L⟩, false) := doN_not (fun e => hab e.2) (fun r s e => by rw [madeN_other hk hab] at e; cases e)
       rw [e]
       exact implDo_other B C p q k x y L hk hab v w h hn hd
end Go.Proofs.YtblphilcmfabkaaGreatDoor
