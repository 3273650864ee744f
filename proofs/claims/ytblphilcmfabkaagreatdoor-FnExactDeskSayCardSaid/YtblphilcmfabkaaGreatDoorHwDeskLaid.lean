/- Contracts and laws that the statement's proof stands on, one text behind the other. -/
import Derived.Test.YtblphilcmfabkaaGreatDoorAla0c
import Derived.Test.YtblphilcmfabkaaGreatDoorHwDeskBy

namespace Go.Proofs.YtblphilcmfabkaaGreatDoor
open Go.RowKit
set_option maxRecDepth 100000 in
set_option maxHeartbeats 1000000 in
theorem laid_same (B C : Nat) (p q : Int) (L : List (Int × Int)) (v : Value) (w : World) (h : IsPairs B C w v L) (hn : L.length ≤ 1048600) :
   Calls Tryz.prog 90 #[.agg #[.int .i64 p, .int .i64 q, v], pr p q] w (DeskRet ⟨(p, q), L⟩ false w) := by
 obtain ⟨a, cap, rfl, hC, hs0⟩ := id h
 clear hs0
 have H := Lib.hid h
 clear h
 go_enter Tryz.func90, Tryz.ntmps90
 go_wp2_with fail
 refine (deskWith_any B C p q L _ _ (H.out.below (show Below w.heap.size w _ by (repeat (first | exact Below.refl _ _ | refine Below.alloc ?_ zo _ | refine Below.trans ?_ (Below.mono (by assumption) zo)))) hC) hn).mono ?_
 rintro e w1 ⟨a1, c1, rfl, hown1, hb1⟩
 dsimp only at hown1 ⊢
 obtain ⟨hc1, hf1⟩ := bcell hb1
 have hz1 := hb1.size
 try simp at hz1
 have hz1a : w.heap.size + 1 + 1 < w1.heap.size := by omega
 have HO1 := Lib.hid (own_le hown1 (show w.heap.size + 3 ≤ _ by first | omega | (simp <;> omega)))
 have HB1 := Lib.hid (show Below w.heap.size w w1 by (repeat (first | exact Below.refl _ _ | refine Below.alloc ?_ zo _ | refine Below.drew ?_ | refine Below.trans ?_ (Below.mono (by assumption) zo))))
 clear hown1 hb1
 go_wp2_with fail
 refine bodyPost_ret (v := .tuple #[.agg #[.int .i64 p, .int .i64 q, .slice a1 L.length c1], .bool false]) (by simp [results, Tryz.results90, go_sem] <;> go_simp) rfl ⟨a1, c1, rfl, ?_, ?_⟩
 · exact ((((IsPairs.of_owns HO1.out).set (p := ⟨w.heap.size + 1 + 1, 0, none⟩) (by show w.heap.size + 1 + 1 < _; omega) _).set (p := ⟨w.heap.size + 1 + 1, 1, none⟩) (by show w.heap.size + 1 + 1 < _; omega) _).set (p := ⟨w.heap.size + 1 + 1, 2, none⟩) (by show w.heap.size + 1 + 1 < _; omega) _).mono zO (by simp) (Nat.le_refl _)
 · exact ((HB1.out.setCell zs _).setCell zs _).setCell zs _
set_option maxRecDepth 100000 in
set_option maxHeartbeats 1000000 in
theorem laid_no (B C : Nat) (p q r s : Int) (L : List (Int × Int)) (hr : pairB r s = false) (hne : ¬ r = p) (v : Value) (w : World) (h : IsPairs B C w v L) (hn : L.length ≤ 1048600) :
   Calls Tryz.prog 90 #[.agg #[.int .i64 p, .int .i64 q, v], pr r s] w (DeskRet ⟨(p, q), L⟩ false w) := by
 obtain ⟨a, cap, rfl, hC, hs0⟩ := id h
 clear hs0
 have H := Lib.hid h
 clear h
 go_enter Tryz.func90, Tryz.ntmps90
 go_wp2_with fail
 refine (implPairOk_no r s _ hr).mono ?_
 rintro e w0 ⟨rfl, hb0⟩
 obtain ⟨hc0, hf0⟩ := bcell hb0
 have hz0 := hb0.size
 simp at hz0
 have hz0a : w.heap.size < w0.heap.size := by omega
 have hz0b : w.heap.size + 1 < w0.heap.size := by omega
 have hz0c : w.heap.size + 1 + 1 < w0.heap.size := by omega
 go_wp2_with fail
 refine (deskWith_any B C p q L _ _ (H.out.below (show Below w.heap.size w _ by (repeat (first | exact Below.refl _ _ | refine Below.alloc ?_ zo _ | refine Below.trans ?_ (Below.mono (by assumption) zo)))) hC) hn).mono ?_
 rintro e w1 ⟨a1, c1, rfl, hown1, hb1⟩
 dsimp only at hown1 ⊢
 obtain ⟨hc1, hf1⟩ := bcell hb1
 have hz1 := hb1.size
 try simp at hz1
 have hz1a : w.heap.size + 1 + 1 < w1.heap.size := by omega
 have HO1 := Lib.hid (own_le hown1 (show w.heap.size + 3 ≤ _ by first | omega | (simp <;> omega)))
 have HB1 := Lib.hid (show Below w.heap.size w w1 by (repeat (first | exact Below.refl _ _ | refine Below.alloc ?_ zo _ | refine Below.drew ?_ | refine Below.trans ?_ (Below.mono (by assumption) zo))))
 clear hown1 hb1
 go_wp2_with fail
 refine bodyPost_ret (v := .tuple #[.agg #[.int .i64 p, .int .i64 q, .slice a1 L.length c1], .bool false]) (by simp [results, Tryz.results90, go_sem] <;> go_simp) rfl ⟨a1, c1, rfl, ?_, ?_⟩
 · exact ((((IsPairs.of_owns HO1.out).set (p := ⟨w.heap.size + 1 + 1, 0, none⟩) (by show w.heap.size + 1 + 1 < _; omega) _).set (p := ⟨w.heap.size + 1 + 1, 1, none⟩) (by show w.heap.size + 1 + 1 < _; omega) _).set (p := ⟨w.heap.size + 1 + 1, 2, none⟩) (by show w.heap.size + 1 + 1 < _; omega) _).mono zO (by simp) (Nat.le_refl _)
 · exact ((HB1.out.setCell zs _).setCell zs _).setCell zs _
set_option maxRecDepth 100000 in
set_option maxHeartbeats 1000000 in
theorem laid_noq (B C : Nat) (p q s : Int) (L : List (Int × Int)) (hr : pairB p s = false) (hne : ¬ s = q) (v : Value) (w : World) (h : IsPairs B C w v L) (hn : L.length ≤ 1048600) :
   Calls Tryz.prog 90 #[.agg #[.int .i64 p, .int .i64 q, v], pr p s] w (DeskRet ⟨(p, q), L⟩ false w) := by
 obtain ⟨a, cap, rfl, hC, hs0⟩ := id h
 clear hs0
 have H := Lib.hid h
 clear h
 go_enter Tryz.func90, Tryz.ntmps90
 go_wp2_with fail
 refine (implPairOk_no p s _ hr).mono ?_
 rintro e w0 ⟨rfl, hb0⟩
 obtain ⟨hc0, hf0⟩ := bcell hb0
 have hz0 := hb0.size
 simp at hz0
 have hz0a : w.heap.size < w0.heap.size := by omega
 have hz0b : w.heap.size + 1 < w0.heap.size := by omega
 have hz0c : w.heap.size + 1 + 1 < w0.heap.size := by omega
 go_wp2_with fail
 refine (deskWith_any B C p q L _ _ (H.out.below (show Below w.heap.size w _ by (repeat (first | exact Below.refl _ _ | refine Below.alloc ?_ zo _ | refine Below.trans ?_ (Below.mono (by assumption) zo)))) hC) hn).mono ?_
 rintro e w1 ⟨a1, c1, rfl, hown1, hb1⟩
 dsimp only at hown1 ⊢
 obtain ⟨hc1, hf1⟩ := bcell hb1
 have hz1 := hb1.size
 try simp at hz1
 have hz1a : w.heap.size + 1 + 1 < w1.heap.size := by omega
 have HO1 := Lib.hid (own_le hown1 (show w.heap.size + 3 ≤ _ by first | omega | (simp <;> omega)))
 have HB1 := Lib.hid (show Below w.heap.size w w1 by (repeat (first | exact Below.refl _ _ | refine Below.alloc ?_ zo _ | refine Below.drew ?_ | refine Below.trans ?_ (Below.mono (by assumption) zo))))
 clear hown1 hb1
 go_wp2_with fail
 refine bodyPost_ret (v := .tuple #[.agg #[.int .i64 p, .int .i64 q, .slice a1 L.length c1], .bool false]) (by simp [results, Tryz.results90, go_sem] <;> go_simp) rfl ⟨a1, c1, rfl, ?_, ?_⟩
 · exact ((((IsPairs.of_owns HO1.out).set (p := ⟨w.heap.size + 1 + 1, 0, none⟩) (by show w.heap.size + 1 + 1 < _; omega) _).set (p := ⟨w.heap.size + 1 + 1, 1, none⟩) (by show w.heap.size + 1 + 1 < _; omega) _).set (p := ⟨w.heap.size + 1 + 1, 2, none⟩) (by show w.heap.size + 1 + 1 < _; omega) _).mono zO (by simp) (Nat.le_refl _)
 · exact ((HB1.out.setCell zs _).setCell zs _).setCell zs _
set_option maxRecDepth 100000 in
set_option maxHeartbeats 1000000 in
theorem laid_yes (B C : Nat) (p q r s : Int) (L : List (Int × Int)) (hr : pairB r s = true) (hne : ¬ r = p) (v : Value) (w : World) (h : IsPairs B C w v L) (hn : L.length ≤ 8) :
   Calls Tryz.prog 90 #[.agg #[.int .i64 p, .int .i64 q, v], pr r s] w (DeskRet ⟨(r, s), (L ++ [(p, q)]).drop (L.length + 1 - 8)⟩ true w) := by
 obtain ⟨a, cap, rfl, hC, hs0⟩ := id h
 clear hs0
 have H := Lib.hid h
 clear h
 go_enter Tryz.func90, Tryz.ntmps90
 go_wp2_with fail
 refine (implPairOk_yes r s _ hr).mono ?_
 rintro e w0 ⟨rfl, hb0⟩
 obtain ⟨hc0, hf0⟩ := bcell hb0
 have hz0 := hb0.size
 simp at hz0
 have hz0a : w.heap.size < w0.heap.size := by omega
 have hz0b : w.heap.size + 1 < w0.heap.size := by omega
 have hz0c : w.heap.size + 1 + 1 < w0.heap.size := by omega
 have HB0 := Lib.hid (show Below w.heap.size w w0 by (repeat (first | exact Below.refl _ _ | refine Below.alloc ?_ zo _ | refine Below.drew ?_ | refine Below.trans ?_ (Below.mono (by assumption) zo))))
 clear hb0
 go_wp2_with fail
 refine (concat_any (w0.heap.size + 1) B C w0.heap.size (w0.heap.size + 1) (.slice a L.length cap) (.slice (some ⟨w0.heap.size, 0, none⟩) 1 1) L [(p, q)] _ (H.out.below (HB0.out.alloc zO _ |>.alloc (by simp; omega) _) hC) ((IsPairs.new w0 p q 29 _ rfl).allocd _) zO (by simp) (by simp) (by go_simp) (by go_simp)).mono ?_
 rintro e w1 ⟨a1, c1, rfl, hown1, hb1⟩
 obtain ⟨hc1, hf1⟩ := bcell hb1
 have hz1 := hb1.size
 simp at hz1
 have hz1a : w.heap.size + 1 + 1 < w1.heap.size := by omega
 have hz1b : w.heap.size + 1 < w1.heap.size := by omega
 have HB1 := Lib.hid (show Below w.heap.size w w1 from (HB0.out.alloc zO _ |>.alloc (by simp; omega) _).trans (hb1.mono (by simp; omega)))
 have HO1 := Lib.hid (own_le hown1 (show w.heap.size + 3 ≤ _ by simp <;> omega))
 have hLn : (L ++ [(p, q)]).length = L.length + 1 := by simp
 rw [hLn] at HO1 ⊢
 have HLn := Lib.hid hLn
 have hcp : L.length + 1 ≤ c1 := by
   rcases HO1.out.2 with ⟨_, hbad⟩ | ⟨_, _, _, he, _, _, hnc, _⟩
   · omega
   · cases he; exact hnc
 obtain ⟨g1, rfl⟩ : ∃ g1, a1 = some ⟨g1, 0, none⟩ := by
   obtain ⟨g, cap', hv, _⟩ := HO1.out.form zO
   injection hv with h1
   exact ⟨g, h1⟩
 clear hb1 hown1 hLn
 by_cases h8 : L.length = 8
 · have HI := Lib.hid ((IsPairs.of_owns HO1.out).drop 1 (c1 - 1) zO zO)
   have e8 : (8 : Int) < (L.length : Int) + 1 := by omega
   have e9 : (L.length : Int) + 1 - 8 = 1 := by omega
   have e6 : max ((L.length : Int) + 1 - 8) 0 = 1 := by omega
   have e7 : IntKind.i64.wrap ((L.length : Int) + 1 - 8) = 1 := by rw [IntKind.wrap_i64]; omega
   have c41 : ¬ c1 = 1 := by omega
   have c42 : ¬ 1 = c1 := by omega
   have c43 : (1 : Int) ≤ (L.length : Int) + 1 := by omega
   have c44 : 1 ≤ L.length + 1 := by omega
   have H8 := Lib.hid h8
   clear h8
   go_wp2_with fail
   go_region
   all_goals
     go_wp2_with fail
     have hdd : (L ++ [(p, q)]).drop (L.length + 1 - 8) = (L ++ [(p, q)]).drop 1 := by rw [H8.out]
     have hdl : ((L ++ [(p, q)]).drop 1).length = L.length := by simp
     rw [hdd]
     refine bodyPost_ret (v := .tuple #[.agg #[.int .i64 r, .int .i64 s, .slice (some ⟨g1, 2, none⟩) L.length (c1 - 1)], .bool true]) (by simp [results, Tryz.results90, go_sem] <;> go_simp <;> omega) rfl ?_
     unfold DeskRet
     dsimp only
     rw [hdl]
     refine ⟨some ⟨g1, 2, none⟩, c1 - 1, rfl, ?_, ?_⟩
     · have HI' : IsPairs (w.heap.size + 3) w1.heap.size w1 (.slice (some ⟨g1, 2, none⟩) L.length (c1 - 1)) ((L ++ [(p, q)]).drop 1) := by have := HI.out; simpa using this
       exact (((HI'.set (p := ⟨w.heap.size + 1 + 1, 0, none⟩) (by show w.heap.size + 1 + 1 < _; omega) _).set (p := ⟨w.heap.size + 1 + 1, 1, none⟩) (by show w.heap.size + 1 + 1 < _; omega) _).set (p := ⟨w.heap.size + 1 + 1, 2, none⟩) (by show w.heap.size + 1 + 1 < _; omega) _).drew.mono zO (by simp) (Nat.le_refl _)
     · (repeat (first | exact HB1.out | refine Below.setCell ?_ zo _ | refine Below.drew ?_))
 · have HI := Lib.hid (IsPairs.of_owns HO1.out)
   by_cases h7 : L.length = 7
   · have e9 : (L.length : Int) + 1 - 8 = 0 := by omega
     have e7 : IntKind.i64.wrap ((L.length : Int) + 1 - 8) = 0 := by rw [IntKind.wrap_i64]; omega
     have hdd : (L ++ [(p, q)]).drop (L.length + 1 - 8) = L ++ [(p, q)] := by rw [show L.length + 1 - 8 = 0 by omega]; rfl
     have HDD := Lib.hid hdd
     have c42 : ¬ 0 = c1 := by omega
     have c43 : (0 : Int) ≤ (L.length : Int) + 1 := by omega
     have c45 : ¬ c1 = 0 := by omega
     clear hdd
     go_wp2_with fail
     go_region
     all_goals
       go_wp2_with fail
       rw [HDD.out]
       refine bodyPost_ret (v := .tuple #[.agg #[.int .i64 r, .int .i64 s, .slice (some ⟨g1, 0, none⟩) (L.length + 1) c1], .bool true]) (by simp [results, Tryz.results90, go_sem] <;> go_simp <;> omega) rfl ?_
       unfold DeskRet
       dsimp only
       rw [HLn.out]
       refine ⟨some ⟨g1, 0, none⟩, c1, rfl, ?_, ?_⟩
       · exact (((HI.out.set (p := ⟨w.heap.size + 1 + 1, 0, none⟩) (by show w.heap.size + 1 + 1 < _; omega) _).set (p := ⟨w.heap.size + 1 + 1, 1, none⟩) (by show w.heap.size + 1 + 1 < _; omega) _).set (p := ⟨w.heap.size + 1 + 1, 2, none⟩) (by show w.heap.size + 1 + 1 < _; omega) _).drew.mono zO (by simp) (Nat.le_refl _)
       · (repeat (first | exact HB1.out | refine Below.setCell ?_ zo _ | refine Below.drew ?_))
   · have e10 : (L.length : Int) + 1 - 8 < 0 := by omega
     have hdd : (L ++ [(p, q)]).drop (L.length + 1 - 8) = L ++ [(p, q)] := by rw [show L.length + 1 - 8 = 0 by omega]; rfl
     have HDD := Lib.hid hdd
     have c42 : ¬ 0 = c1 := by omega
     have c43 : (0 : Int) ≤ (L.length : Int) + 1 := by omega
     have c45 : ¬ c1 = 0 := by omega
     clear hdd
     go_wp2_with fail
     go_region
     all_goals
       go_wp2_with fail
       rw [HDD.out]
       refine bodyPost_ret (v := .tuple #[.agg #[.int .i64 r, .int .i64 s, .slice (some ⟨g1, 0, none⟩) (L.length + 1) c1], .bool true]) (by simp [results, Tryz.results90, go_sem] <;> go_simp <;> omega) rfl ?_
       unfold DeskRet
       dsimp only
       rw [HLn.out]
       refine ⟨some ⟨g1, 0, none⟩, c1, rfl, ?_, ?_⟩
       · exact (((HI.out.set (p := ⟨w.heap.size + 1 + 1, 0, none⟩) (by show w.heap.size + 1 + 1 < _; omega) _).set (p := ⟨w.heap.size + 1 + 1, 1, none⟩) (by show w.heap.size + 1 + 1 < _; omega) _).set (p := ⟨w.heap.size + 1 + 1, 2, none⟩) (by show w.heap.size + 1 + 1 < _; omega) _).drew.mono zO (by simp) (Nat.le_refl _)
       · (repeat (first | exact HB1.out | refine Below.setCell ?_ zo _ | refine Below.drew ?_))
set_option maxRecDepth 100000 in
set_option maxHeartbeats 1000000 in
theorem laid_yesq (B C : Nat) (p q s : Int) (L : List (Int × Int)) (hr : pairB p s = true) (hne : ¬ s = q) (v : Value) (w : World) (h : IsPairs B C w v L) (hn : L.length ≤ 8) :
   Calls Tryz.prog 90 #[.agg #[.int .i64 p, .int .i64 q, v], pr p s] w (DeskRet ⟨(p, s), (L ++ [(p, q)]).drop (L.length + 1 - 8)⟩ true w) := by
 obtain ⟨a, cap, rfl, hC, hs0⟩ := id h
 clear hs0
 have H := Lib.hid h
 clear h
 go_enter Tryz.func90, Tryz.ntmps90
 go_wp2_with fail
 refine (implPairOk_yes p s _ hr).mono ?_
 rintro e w0 ⟨rfl, hb0⟩
 obtain ⟨hc0, hf0⟩ := bcell hb0
 have hz0 := hb0.size
 simp at hz0
 have hz0a : w.heap.size < w0.heap.size := by omega
 have hz0b : w.heap.size + 1 < w0.heap.size := by omega
 have hz0c : w.heap.size + 1 + 1 < w0.heap.size := by omega
 have HB0 := Lib.hid (show Below w.heap.size w w0 by (repeat (first | exact Below.refl _ _ | refine Below.alloc ?_ zo _ | refine Below.drew ?_ | refine Below.trans ?_ (Below.mono (by assumption) zo))))
 clear hb0
 go_wp2_with fail
 refine (concat_any (w0.heap.size + 1) B C w0.heap.size (w0.heap.size + 1) (.slice a L.length cap) (.slice (some ⟨w0.heap.size, 0, none⟩) 1 1) L [(p, q)] _ (H.out.below (HB0.out.alloc zO _ |>.alloc (by simp; omega) _) hC) ((IsPairs.new w0 p q 29 _ rfl).allocd _) zO (by simp) (by simp) (by go_simp) (by go_simp)).mono ?_
 rintro e w1 ⟨a1, c1, rfl, hown1, hb1⟩
 obtain ⟨hc1, hf1⟩ := bcell hb1
 have hz1 := hb1.size
 simp at hz1
 have hz1a : w.heap.size + 1 + 1 < w1.heap.size := by omega
 have hz1b : w.heap.size + 1 < w1.heap.size := by omega
 have HB1 := Lib.hid (show Below w.heap.size w w1 from (HB0.out.alloc zO _ |>.alloc (by simp; omega) _).trans (hb1.mono (by simp; omega)))
 have HO1 := Lib.hid (own_le hown1 (show w.heap.size + 3 ≤ _ by simp <;> omega))
 have hLn : (L ++ [(p, q)]).length = L.length + 1 := by simp
 rw [hLn] at HO1 ⊢
 have HLn := Lib.hid hLn
 have hcp : L.length + 1 ≤ c1 := by
   rcases HO1.out.2 with ⟨_, hbad⟩ | ⟨_, _, _, he, _, _, hnc, _⟩
   · omega
   · cases he; exact hnc
 obtain ⟨g1, rfl⟩ : ∃ g1, a1 = some ⟨g1, 0, none⟩ := by
   obtain ⟨g, cap', hv, _⟩ := HO1.out.form zO
   injection hv with h1
   exact ⟨g, h1⟩
 clear hb1 hown1 hLn
 by_cases h8 : L.length = 8
 · have HI := Lib.hid ((IsPairs.of_owns HO1.out).drop 1 (c1 - 1) zO zO)
   have e8 : (8 : Int) < (L.length : Int) + 1 := by omega
   have e9 : (L.length : Int) + 1 - 8 = 1 := by omega
   have e6 : max ((L.length : Int) + 1 - 8) 0 = 1 := by omega
   have e7 : IntKind.i64.wrap ((L.length : Int) + 1 - 8) = 1 := by rw [IntKind.wrap_i64]; omega
   have c41 : ¬ c1 = 1 := by omega
   have c42 : ¬ 1 = c1 := by omega
   have c43 : (1 : Int) ≤ (L.length : Int) + 1 := by omega
   have c44 : 1 ≤ L.length + 1 := by omega
   have H8 := Lib.hid h8
   clear h8
   go_wp2_with fail
   go_region
   all_goals
     go_wp2_with fail
     have hdd : (L ++ [(p, q)]).drop (L.length + 1 - 8) = (L ++ [(p, q)]).drop 1 := by rw [H8.out]
     have hdl : ((L ++ [(p, q)]).drop 1).length = L.length := by simp
     rw [hdd]
     refine bodyPost_ret (v := .tuple #[.agg #[.int .i64 p, .int .i64 s, .slice (some ⟨g1, 2, none⟩) L.length (c1 - 1)], .bool true]) (by simp [results, Tryz.results90, go_sem] <;> go_simp <;> omega) rfl ?_
     unfold DeskRet
     dsimp only
     rw [hdl]
     refine ⟨some ⟨g1, 2, none⟩, c1 - 1, rfl, ?_, ?_⟩
     · have HI' : IsPairs (w.heap.size + 3) w1.heap.size w1 (.slice (some ⟨g1, 2, none⟩) L.length (c1 - 1)) ((L ++ [(p, q)]).drop 1) := by have := HI.out; simpa using this
       exact (((HI'.set (p := ⟨w.heap.size + 1 + 1, 0, none⟩) (by show w.heap.size + 1 + 1 < _; omega) _).set (p := ⟨w.heap.size + 1 + 1, 1, none⟩) (by show w.heap.size + 1 + 1 < _; omega) _).set (p := ⟨w.heap.size + 1 + 1, 2, none⟩) (by show w.heap.size + 1 + 1 < _; omega) _).drew.mono zO (by simp) (Nat.le_refl _)
     · (repeat (first | exact HB1.out | refine Below.setCell ?_ zo _ | refine Below.drew ?_))
 · have HI := Lib.hid (IsPairs.of_owns HO1.out)
   by_cases h7 : L.length = 7
   · have e9 : (L.length : Int) + 1 - 8 = 0 := by omega
     have e7 : IntKind.i64.wrap ((L.length : Int) + 1 - 8) = 0 := by rw [IntKind.wrap_i64]; omega
     have hdd : (L ++ [(p, q)]).drop (L.length + 1 - 8) = L ++ [(p, q)] := by rw [show L.length + 1 - 8 = 0 by omega]; rfl
     have HDD := Lib.hid hdd
     have c42 : ¬ 0 = c1 := by omega
     have c43 : (0 : Int) ≤ (L.length : Int) + 1 := by omega
     have c45 : ¬ c1 = 0 := by omega
     clear hdd
     go_wp2_with fail
     go_region
     all_goals
       go_wp2_with fail
       rw [HDD.out]
       refine bodyPost_ret (v := .tuple #[.agg #[.int .i64 p, .int .i64 s, .slice (some ⟨g1, 0, none⟩) (L.length + 1) c1], .bool true]) (by simp [results, Tryz.results90, go_sem] <;> go_simp <;> omega) rfl ?_
       unfold DeskRet
       dsimp only
       rw [HLn.out]
       refine ⟨some ⟨g1, 0, none⟩, c1, rfl, ?_, ?_⟩
       · exact (((HI.out.set (p := ⟨w.heap.size + 1 + 1, 0, none⟩) (by show w.heap.size + 1 + 1 < _; omega) _).set (p := ⟨w.heap.size + 1 + 1, 1, none⟩) (by show w.heap.size + 1 + 1 < _; omega) _).set (p := ⟨w.heap.size + 1 + 1, 2, none⟩) (by show w.heap.size + 1 + 1 < _; omega) _).drew.mono zO (by simp) (Nat.le_refl _)
       · (repeat (first | exact HB1.out | refine Below.setCell ?_ zo _ | refine Below.drew ?_))
   · have e10 : (L.length : Int) + 1 - 8 < 0 := by omega
     have hdd : (L ++ [(p, q)]).drop (L.length + 1 - 8) = L ++ [(p, q)] := by rw [show L.length + 1 - 8 = 0 by omega]; rfl
     have HDD := Lib.hid hdd
     have c42 : ¬ 0 = c1 := by omega
     have c43 : (0 : Int) ≤ (L.length : Int) + 1 := by omega
     have c45 : ¬ c1 = 0 := by omega
     clear hdd
     go_wp2_with fail
     go_region
     all_goals
       go_wp2_with fail
       rw [HDD.out]
       refine bodyPost_ret (v := .tuple #[.agg #[.int .i64 p, .int .i64 s, .slice (some ⟨g1, 0, none⟩) (L.length + 1) c1], .bool true]) (by simp [results, Tryz.results90, go_sem] <;> go_simp <;> omega) rfl ?_
       unfold DeskRet
       dsimp only
       rw [HLn.out]
       refine ⟨some ⟨g1, 0, none⟩, c1, rfl, ?_, ?_⟩
       · exact (((HI.out.set (p := ⟨w.heap.size + 1 + 1, 0, none⟩) (by show w.heap.size + 1 + 1 < _; omega) _).set (p := ⟨w.heap.size + 1 + 1, 1, none⟩) (by show w.heap.size + 1 + 1 < _; omega) _).set (p := ⟨w.heap.size + 1 + 1, 2, none⟩) (by show w.heap.size + 1 + 1 < _; omega) _).drew.mono zO (by simp) (Nat.le_refl _)
       · (repeat (first | exact HB1.out | refine Below.setCell ?_ zo _ | refine Below.drew ?_))
end Go.Proofs.YtblphilcmfabkaaGreatDoor
