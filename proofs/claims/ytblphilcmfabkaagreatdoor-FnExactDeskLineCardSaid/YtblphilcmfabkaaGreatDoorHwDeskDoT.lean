/- Contracts and laws that the statement's proof stands on, one text behind the other. -/
import Derived.Test.YtblphilcmfabkaaGreatDoorAla1
import Derived.Test.YtblphilcmfabkaaGreatDoorHwDeskDoS
import Derived.WalkSmall

namespace Go.Proofs.YtblphilcmfabkaaGreatDoor
open Go.RowKit
set_option maxHeartbeats 4000000 in
theorem specDo_back (B C : Nat) (p q r s : Int) (L M : List (Int × Int)) (hL : L = M ++ [(r, s)]) (v : Value) (w : World) (h : IsPairs B C w v L) (hn : L.length ≤ 1048600) (hd : deskN ⟨(p, q), L⟩ = true) :
   Calls Tryz.prog 63 #[.agg #[.int .i64 p, .int .i64 q, v], .agg #[.int .i64 4, .int .i64 0, .int .i64 0]] w (DidS ⟨(p, q), L⟩ ⟨4, 0, 0⟩ w) := by
 obtain ⟨a, cap, rfl, hC, hs0⟩ := id h
 clear hs0
 have hl8 : L.length ≤ 8 := (deskN_of hd).2.1
 have HL := Lib.hid hL
 have HLn := Lib.hid (show L.length = M.length + 1 by rw [hL]; simp)
 have H := Lib.hid h
 have HD := Lib.hid hd
 clear h hd hL
 go_enter Tryz.func63, Tryz.ntmps63
 go_wp2_with fail
 refine (specDeskOk_any B C p q _ _ _ (H.out.below (show Below w.heap.size w _ by exact zb) hC) hn).mono ?_
 rintro e w1 ⟨rfl, hb1⟩
 obtain ⟨hc1, hf1⟩ := bcell hb1
 have hz1 := hb1.size
 simp at hz1
 have hz1a : w.heap.size < w1.heap.size := by omega
 have hz1b : w.heap.size + 1 < w1.heap.size := by omega
 have hz1c : w.heap.size + 1 + 1 < w1.heap.size := by omega
 have HB1 := Lib.hid (show Below w.heap.size w w1 by exact zb)
 rw [HD.out]
 clear hb1
 go_wp2_with fail
 refine (specCopy_any B C p q _ _ _ (H.out.below HB1.out hC) hn).mono ?_
 rintro e w2 ⟨a2, c2, rfl, hown2, hb2⟩
 dsimp only at hown2 ⊢
 obtain ⟨hc2, hf2⟩ := bcell hb2
 have hz2 := hb2.size
 have hz2a : w.heap.size < w2.heap.size := by omega
 have hz2b : w.heap.size + 1 < w2.heap.size := by omega
 have hz2c : w.heap.size + 1 + 1 < w2.heap.size := by omega
 have HB2 := Lib.hid (HB1.out.trans (hb2.mono HB1.out.size))
 have HO2 := Lib.hid hown2
 clear hb2 hown2
 obtain ⟨g, rfl⟩ : ∃ g, a2 = some ⟨g, 0, none⟩ := by
   obtain ⟨g, cap', hv, _⟩ := HO2.out.form (by rw [HLn.out]; omega)
   injection hv with h1
   exact ⟨g, h1⟩
 have hm0 : (0 : Int) ≤ (M.length : Int) := by omega
 have hm1 : (M.length : Int) < (L.length : Int) := by have := HLn.out; omega
 have hm2 : (M.length : Int) ≤ (c2 : Int) := by
   rcases HO2.out.2 with ⟨hbad, _⟩ | ⟨_, _, _, he, _, _, hnc, _⟩
   · cases hbad
   · cases he; have := HLn.out; omega
 have hm3 : (0 : Int) < (L.length : Int) := by omega
 have hm4 : 0 < L.length := by omega
 have W1 : IntKind.i64.wrap ((L.length : Int) - 1) = (M.length : Int) := by have := HLn.out; rw [IntKind.wrap_i64]; omega
 have W2 : (L.length : Int) - 1 = (M.length : Int) := by have := HLn.out; omega
 have k1 : w2.cell? ⟨g, M.length * 2, none⟩ = some (.int .i64 r) := by
   have := HO2.out.cells (g := g) rfl (M.length * 2) (.int .i64 r) ((pairCells_get L M.length (r, s) (by rw [HL.out]; simp)).1)
   rwa [add_row, Nat.zero_add] at this
 have k2 : w2.cell? ⟨g, M.length * 2 + 1, none⟩ = some (.int .i64 s) := by
   have := HO2.out.cells (g := g) rfl (M.length * 2 + 1) (.int .i64 s) ((pairCells_get L M.length (r, s) (by rw [HL.out]; simp)).2)
   rwa [add_row, Nat.zero_add] at this
 have hg := (HO2.out.lt g rfl).2
 have hgl := (HO2.out.lt g rfl).1
 go_wp2_with fail
 refine bodyPost_ret (v := .tuple #[.agg #[.int .i64 r, .int .i64 s, .slice (some ⟨g, 0, none⟩) M.length c2], .bool true]) (by simp [results, Tryz.results63, go_sem]; go_simp) rfl ?_
 have HP : World.ownsRow w2 w.heap.size 29 2 (.slice (some ⟨g, 0, none⟩) M.length c2) M.length (pairCells M) := by
   have h1 := own_le HO2.out (show w.heap.size ≤ w1.heap.size by omega)
   rw [HLn.out, HL.out, ← pairCells_append] at h1
   exact ownsRow_pop (pairCells_len M) h1
 have hne : (Value.slice (some ⟨g, 0, none⟩) M.length c2).ownBlock ≠ some (w.heap.size + 1 + 1) := by simp [Value.ownBlock] <;> omega
 have HQ := (((ownsRow_setCell_other (a := ⟨w.heap.size + 1 + 1, 0, none⟩) HP hne (.int .i64 r)) |> fun h => ownsRow_setCell_other (a := ⟨w.heap.size + 1 + 1, 1, none⟩) h hne (.int .i64 s)) |> fun h => ownsRow_setCell_other (a := ⟨w.heap.size + 1 + 1, 2, none⟩) h hne (.slice (some ⟨g, 0, none⟩) M.length c2)).alloc (.cells #[.int .i64 r, .int .i64 s, .slice (some ⟨g, 0, none⟩) M.length c2] 32)
 unfold DidS
 rw [doR_yes HD.out, HL.out, doN_last]
 exact ⟨_, c2, rfl, IsPairs.of_owns HQ, fun _ => HQ, (((HB2.out.setCell zs _).setCell zs _).setCell zs _).alloc zs _⟩
def MadeNot (w : World) (e : Ending) (w' : World) : Prop := ∃ r s, e = .returned (.tuple #[pr r s, .bool false]) ∧ Below w.heap.size w w'
theorem specMade_not (p q k a b : Int) (w : World) (hp : pairB p q = true) (h : ∀ r s, madeN (p, q) ⟨k, a, b⟩ = some (r, s) → pairB r s = false) : Calls Tryz.prog 96 #[pr p q, .agg #[.int .i64 k, .int .i64 a, .int .i64 b]] w (MadeNot w) := by
 refine (specMade_any p q k a b w hp).mono ?_
 rintro e w' ⟨he, hb⟩
 cases hm : madeN (p, q) ⟨k, a, b⟩ with
 | none => rw [hm] at he; exact ⟨p, q, he, hb⟩
 | some r =>
   rw [hm] at he
   refine ⟨r.1, r.2, ?_, hb⟩
   rw [he]
   show Ending.returned (.tuple #[pr r.1 r.2, .bool (pairB r.1 r.2)]) = _
   rw [h r.1 r.2 hm]
theorem specMade_is (p q k a b r s : Int) (w : World) (hp : pairB p q = true) (h : madeN (p, q) ⟨k, a, b⟩ = some (r, s)) (hr : pairB r s = true) : Calls Tryz.prog 96 #[pr p q, .agg #[.int .i64 k, .int .i64 a, .int .i64 b]] w fun e w' => e = .returned (.tuple #[pr r s, .bool true]) ∧ Below w.heap.size w w' := by
 refine (specMade_any p q k a b w hp).mono ?_
 rintro e w' ⟨he, hb⟩
 rw [h] at he
 refine ⟨?_, hb⟩
 rw [he, ← hr]
set_option maxRecDepth 100000 in
set_option maxHeartbeats 1000000 in
theorem specDo_not (B C : Nat) (p q k x y : Int) (L : List (Int × Int)) (hk : ¬ (k = 4 ∧ x = 0 ∧ y = 0)) (hm : ∀ r s, madeN (p, q) ⟨k, x, y⟩ = some (r, s) → pairB r s = false) (v : Value) (w : World) (h : IsPairs B C w v L) (hn : L.length ≤ 1048600) (hd : deskN ⟨(p, q), L⟩ = true) :
   Calls Tryz.prog 63 #[.agg #[.int .i64 p, .int .i64 q, v], .agg #[.int .i64 k, .int .i64 x, .int .i64 y]] w (DidS ⟨(p, q), L⟩ ⟨k, x, y⟩ w) := by
 obtain ⟨a, cap, rfl, hC, hs0⟩ := id h
 clear hs0
 have hl8 : L.length ≤ 8 := (deskN_of hd).2.1
 have hpq : pairB p q = true := (deskN_of hd).1
 have H := Lib.hid h
 have HD := Lib.hid hd
 clear h hd
 have HM := Lib.hid hm
 have HN := Lib.hid (fun (r s : Int) (h : madeN (p, q) ⟨k, x, y⟩ = some (r, s)) => (.inl (hm r s h) : pairB r s = false ∨ (r, s) = (p, q)))
 clear hm
 rcases (show ¬ k = 4 ∨ (k = 4 ∧ ¬ x = 0) ∨ (k = 4 ∧ x = 0 ∧ ¬ y = 0) by omega) with hk4 | ⟨rfl, hk4⟩ | ⟨rfl, rfl, hk4⟩
 all_goals clear hk
 all_goals
   go_enter Tryz.func63, Tryz.ntmps63
   go_wp2_with fail
   refine (specDeskOk_any B C p q _ _ _ (H.out.below (show Below w.heap.size w _ by exact zb) hC) hn).mono ?_
   rintro e w1 ⟨rfl, hb1⟩
   obtain ⟨hc1, hf1⟩ := bcell hb1
   have hz1 := hb1.size
   simp at hz1
   have hz1a : w.heap.size < w1.heap.size := by omega
   have hz1b : w.heap.size + 1 < w1.heap.size := by omega
   have hz1c : w.heap.size + 1 + 1 < w1.heap.size := by omega
   have HB1 := Lib.hid (show Below w.heap.size w w1 by exact zb)
   rw [HD.out]
   clear hb1
   go_wp2_with fail
   refine (specCopy_any B C p q _ _ _ (H.out.below HB1.out hC) hn).mono ?_
   rintro e w2 ⟨a2, c2, rfl, hown2, hb2⟩
   dsimp only at hown2 ⊢
   obtain ⟨hc2, hf2⟩ := bcell hb2
   have hz2 := hb2.size
   have hz2a : w.heap.size < w2.heap.size := by omega
   have hz2b : w.heap.size + 1 < w2.heap.size := by omega
   have hz2c : w.heap.size + 1 + 1 < w2.heap.size := by omega
   have HB2 := Lib.hid (HB1.out.trans (hb2.mono HB1.out.size))
   have HO2 := Lib.hid hown2
   clear hb2 hown2
   go_wp2_with fail
   refine (specMade_not p q _ _ _ _ hpq HM.out).mono ?_
   rintro e w3 ⟨r, s, rfl, hb3⟩
   obtain ⟨hc3, hf3⟩ := bcell hb3
   have hz3 := hb3.size
   simp at hz3
   have hz3a : w.heap.size < w3.heap.size := by omega
   have hz3b : w.heap.size + 1 < w3.heap.size := by omega
   have hz3c : w.heap.size + 1 + 1 < w3.heap.size := by omega
   have hz3d : w2.heap.size < w3.heap.size := by omega
   have HO3 := Lib.hid (own_keeps (HO2.out.alloc (.cells #[.int .i64 p, .int .i64 q, .slice a2 L.length c2] 32)) hb3)
   have HB3 := Lib.hid (show Below w.heap.size w w3 from (HB2.out.alloc zO _).trans (hb3.mono (by simp; omega)))
   have kc3a0 : w3.cell? ⟨w.heap.size, 0, none⟩ = some (.int .i64 p) := by go_simp
   have kf3a0 : w3.frozen? ⟨w.heap.size, 0, none⟩ = false := by go_simp
   have kc3a1 : w3.cell? ⟨w.heap.size, 1, none⟩ = some (.int .i64 q) := by go_simp
   have kf3a1 : w3.frozen? ⟨w.heap.size, 1, none⟩ = false := by go_simp
   have kc3a2 : w3.cell? ⟨w.heap.size, 2, none⟩ = some (.slice a L.length cap) := by go_simp
   have kf3a2 : w3.frozen? ⟨w.heap.size, 2, none⟩ = false := by go_simp
   have kc3c0 : w3.cell? ⟨w.heap.size + 1 + 1, 0, none⟩ = some (.int .i64 0) := by go_simp
   have kf3c0 : w3.frozen? ⟨w.heap.size + 1 + 1, 0, none⟩ = false := by go_simp
   have kc3c1 : w3.cell? ⟨w.heap.size + 1 + 1, 1, none⟩ = some (.int .i64 0) := by go_simp
   have kf3c1 : w3.frozen? ⟨w.heap.size + 1 + 1, 1, none⟩ = false := by go_simp
   have kc3c2 : w3.cell? ⟨w.heap.size + 1 + 1, 2, none⟩ = some (.slice none 0 0) := by go_simp
   have kf3c2 : w3.frozen? ⟨w.heap.size + 1 + 1, 2, none⟩ = false := by go_simp
   have kc3d0 : w3.cell? ⟨w2.heap.size, 0, none⟩ = some (.int .i64 p) := by go_simp
   have kf3d0 : w3.frozen? ⟨w2.heap.size, 0, none⟩ = false := by go_simp
   have kc3d1 : w3.cell? ⟨w2.heap.size, 1, none⟩ = some (.int .i64 q) := by go_simp
   have kf3d1 : w3.frozen? ⟨w2.heap.size, 1, none⟩ = false := by go_simp
   have kc3d2 : w3.cell? ⟨w2.heap.size, 2, none⟩ = some (.slice a2 L.length c2) := by go_simp
   have kf3d2 : w3.frozen? ⟨w2.heap.size, 2, none⟩ = false := by go_simp
   clear hb3 hc1 hf1 hc2 hf2 hc3 hf3
   go_wp2_with fail
   refine bodyPost_ret (v := .tuple #[.agg #[.int .i64 p, .int .i64 q, .slice a2 L.length c2], .bool false]) (by simp [results, Tryz.results63, go_sem]; go_simp) rfl ?_
   have hne : (Value.slice a2 L.length c2).ownBlock ≠ some (w.heap.size + 1 + 1) := fun e => by have := (HO3.out.lt _ e).1; omega
   have HQ := (((ownsRow_setCell_other (a := ⟨w.heap.size + 1 + 1, 0, none⟩) (own_le HO3.out (show w.heap.size ≤ w1.heap.size by omega)) hne (.int .i64 p)) |> fun h => ownsRow_setCell_other (a := ⟨w.heap.size + 1 + 1, 1, none⟩) h hne (.int .i64 q)) |> fun h => ownsRow_setCell_other (a := ⟨w.heap.size + 1 + 1, 2, none⟩) h hne (.slice a2 L.length c2)).alloc (.cells #[.int .i64 r, .int .i64 s] 29)
   exact DidS.same HD.out (doN_not zO HN.out) HQ ((((HB3.out.setCell zs _).setCell zs _).setCell zs _).alloc zs _)
set_option maxRecDepth 100000 in
set_option maxHeartbeats 1000000 in
theorem specDo_same (B C : Nat) (p q k x y : Int) (L : List (Int × Int)) (hm : madeN (p, q) ⟨k, x, y⟩ = some (p, q)) (v : Value) (w : World) (h : IsPairs B C w v L) (hn : L.length ≤ 1048600) (hd : deskN ⟨(p, q), L⟩ = true) :
   Calls Tryz.prog 63 #[.agg #[.int .i64 p, .int .i64 q, v], .agg #[.int .i64 k, .int .i64 x, .int .i64 y]] w (DidS ⟨(p, q), L⟩ ⟨k, x, y⟩ w) := by
 obtain ⟨a, cap, rfl, hC, hs0⟩ := id h
 clear hs0
 have hl8 : L.length ≤ 8 := (deskN_of hd).2.1
 have hpq : pairB p q = true := (deskN_of hd).1
 have H := Lib.hid h
 have HD := Lib.hid hd
 clear h hd
 have HM := Lib.hid hm
 have HN := Lib.hid (fun (r s : Int) (h : madeN (p, q) ⟨k, x, y⟩ = some (r, s)) => (.inr (Option.some.inj (h.symm.trans hm)) : pairB r s = false ∨ (r, s) = (p, q)))
 have hk4 : ¬ k = 4 := fun e => by subst e; simp [madeN] at hm
 clear hm
 skip
 all_goals
   go_enter Tryz.func63, Tryz.ntmps63
   go_wp2_with fail
   refine (specDeskOk_any B C p q _ _ _ (H.out.below (show Below w.heap.size w _ by exact zb) hC) hn).mono ?_
   rintro e w1 ⟨rfl, hb1⟩
   obtain ⟨hc1, hf1⟩ := bcell hb1
   have hz1 := hb1.size
   simp at hz1
   have hz1a : w.heap.size < w1.heap.size := by omega
   have hz1b : w.heap.size + 1 < w1.heap.size := by omega
   have hz1c : w.heap.size + 1 + 1 < w1.heap.size := by omega
   have HB1 := Lib.hid (show Below w.heap.size w w1 by exact zb)
   rw [HD.out]
   clear hb1
   go_wp2_with fail
   refine (specCopy_any B C p q _ _ _ (H.out.below HB1.out hC) hn).mono ?_
   rintro e w2 ⟨a2, c2, rfl, hown2, hb2⟩
   dsimp only at hown2 ⊢
   obtain ⟨hc2, hf2⟩ := bcell hb2
   have hz2 := hb2.size
   have hz2a : w.heap.size < w2.heap.size := by omega
   have hz2b : w.heap.size + 1 < w2.heap.size := by omega
   have hz2c : w.heap.size + 1 + 1 < w2.heap.size := by omega
   have HB2 := Lib.hid (HB1.out.trans (hb2.mono HB1.out.size))
   have HO2 := Lib.hid hown2
   clear hb2 hown2
   go_wp2_with fail
   refine (specMade_is p q _ _ _ p q _ hpq HM.out hpq).mono ?_
   rintro e w3 ⟨rfl, hb3⟩
   obtain ⟨hc3, hf3⟩ := bcell hb3
   have hz3 := hb3.size
   simp at hz3
   have hz3a : w.heap.size < w3.heap.size := by omega
   have hz3b : w.heap.size + 1 < w3.heap.size := by omega
   have hz3c : w.heap.size + 1 + 1 < w3.heap.size := by omega
   have hz3d : w2.heap.size < w3.heap.size := by omega
   have HO3 := Lib.hid (own_keeps (HO2.out.alloc (.cells #[.int .i64 p, .int .i64 q, .slice a2 L.length c2] 32)) hb3)
   have HB3 := Lib.hid (show Below w.heap.size w w3 from (HB2.out.alloc zO _).trans (hb3.mono (by simp; omega)))
   have kc3a0 : w3.cell? ⟨w.heap.size, 0, none⟩ = some (.int .i64 p) := by go_simp
   have kf3a0 : w3.frozen? ⟨w.heap.size, 0, none⟩ = false := by go_simp
   have kc3a1 : w3.cell? ⟨w.heap.size, 1, none⟩ = some (.int .i64 q) := by go_simp
   have kf3a1 : w3.frozen? ⟨w.heap.size, 1, none⟩ = false := by go_simp
   have kc3a2 : w3.cell? ⟨w.heap.size, 2, none⟩ = some (.slice a L.length cap) := by go_simp
   have kf3a2 : w3.frozen? ⟨w.heap.size, 2, none⟩ = false := by go_simp
   have kc3c0 : w3.cell? ⟨w.heap.size + 1 + 1, 0, none⟩ = some (.int .i64 0) := by go_simp
   have kf3c0 : w3.frozen? ⟨w.heap.size + 1 + 1, 0, none⟩ = false := by go_simp
   have kc3c1 : w3.cell? ⟨w.heap.size + 1 + 1, 1, none⟩ = some (.int .i64 0) := by go_simp
   have kf3c1 : w3.frozen? ⟨w.heap.size + 1 + 1, 1, none⟩ = false := by go_simp
   have kc3c2 : w3.cell? ⟨w.heap.size + 1 + 1, 2, none⟩ = some (.slice none 0 0) := by go_simp
   have kf3c2 : w3.frozen? ⟨w.heap.size + 1 + 1, 2, none⟩ = false := by go_simp
   have kc3d0 : w3.cell? ⟨w2.heap.size, 0, none⟩ = some (.int .i64 p) := by go_simp
   have kf3d0 : w3.frozen? ⟨w2.heap.size, 0, none⟩ = false := by go_simp
   have kc3d1 : w3.cell? ⟨w2.heap.size, 1, none⟩ = some (.int .i64 q) := by go_simp
   have kf3d1 : w3.frozen? ⟨w2.heap.size, 1, none⟩ = false := by go_simp
   have kc3d2 : w3.cell? ⟨w2.heap.size, 2, none⟩ = some (.slice a2 L.length c2) := by go_simp
   have kf3d2 : w3.frozen? ⟨w2.heap.size, 2, none⟩ = false := by go_simp
   clear hb3 hc1 hf1 hc2 hf2 hc3 hf3
   go_wp2_with fail
   refine bodyPost_ret (v := .tuple #[.agg #[.int .i64 p, .int .i64 q, .slice a2 L.length c2], .bool false]) (by simp [results, Tryz.results63, go_sem]; go_simp) rfl ?_
   have hne : (Value.slice a2 L.length c2).ownBlock ≠ some (w.heap.size + 1 + 1) := fun e => by have := (HO3.out.lt _ e).1; omega
   have HQ := (((ownsRow_setCell_other (a := ⟨w.heap.size + 1 + 1, 0, none⟩) (own_le HO3.out (show w.heap.size ≤ w1.heap.size by omega)) hne (.int .i64 p)) |> fun h => ownsRow_setCell_other (a := ⟨w.heap.size + 1 + 1, 1, none⟩) h hne (.int .i64 q)) |> fun h => ownsRow_setCell_other (a := ⟨w.heap.size + 1 + 1, 2, none⟩) h hne (.slice a2 L.length c2)).alloc (.cells #[.int .i64 p, .int .i64 q] 29)
   exact DidS.same HD.out (doN_not zO HN.out) HQ ((((HB3.out.setCell zs _).setCell zs _).setCell zs _).alloc zs _)
set_option maxRecDepth 100000 in
set_option maxHeartbeats 1000000 in
theorem specDo_none (B C : Nat) (p q k x y : Int) (L : List (Int × Int)) (hk : k = 4 ∧ x = 0 ∧ y = 0) (hL : L = []) (v : Value) (w : World) (h : IsPairs B C w v L) (hn : L.length ≤ 1048600) (hd : deskN ⟨(p, q), L⟩ = true) :
   Calls Tryz.prog 63 #[.agg #[.int .i64 p, .int .i64 q, v], .agg #[.int .i64 k, .int .i64 x, .int .i64 y]] w (DidS ⟨(p, q), L⟩ ⟨k, x, y⟩ w) := by
 obtain ⟨a, cap, rfl, hC, hs0⟩ := id h
 clear hs0
 have hl8 : L.length ≤ 8 := (deskN_of hd).2.1
 have hpq : pairB p q = true := (deskN_of hd).1
 have H := Lib.hid h
 have HD := Lib.hid hd
 clear h hd
 have hl0 : ¬ (0 : Int) < (L.length : Int) := by rw [hL]; simp
 have hl1 : ¬ 0 < L.length := by rw [hL]; simp
 obtain ⟨rfl, rfl, rfl⟩ := hk
 have HM := Lib.hid (show ∀ r s, madeN (p, q) ⟨4, 0, 0⟩ = some (r, s) → pairB r s = false from fun r s h => by simp [madeN] at h)
 have HL := Lib.hid hL
 clear hL
 skip
 all_goals
   go_enter Tryz.func63, Tryz.ntmps63
   go_wp2_with fail
   refine (specDeskOk_any B C p q _ _ _ (H.out.below (show Below w.heap.size w _ by exact zb) hC) hn).mono ?_
   rintro e w1 ⟨rfl, hb1⟩
   obtain ⟨hc1, hf1⟩ := bcell hb1
   have hz1 := hb1.size
   simp at hz1
   have hz1a : w.heap.size < w1.heap.size := by omega
   have hz1b : w.heap.size + 1 < w1.heap.size := by omega
   have hz1c : w.heap.size + 1 + 1 < w1.heap.size := by omega
   have HB1 := Lib.hid (show Below w.heap.size w w1 by exact zb)
   rw [HD.out]
   clear hb1
   go_wp2_with fail
   refine (specCopy_any B C p q _ _ _ (H.out.below HB1.out hC) hn).mono ?_
   rintro e w2 ⟨a2, c2, rfl, hown2, hb2⟩
   dsimp only at hown2 ⊢
   obtain ⟨hc2, hf2⟩ := bcell hb2
   have hz2 := hb2.size
   have hz2a : w.heap.size < w2.heap.size := by omega
   have hz2b : w.heap.size + 1 < w2.heap.size := by omega
   have hz2c : w.heap.size + 1 + 1 < w2.heap.size := by omega
   have HB2 := Lib.hid (HB1.out.trans (hb2.mono HB1.out.size))
   have HO2 := Lib.hid hown2
   clear hb2 hown2
   go_wp2_with fail
   refine (specMade_not p q _ _ _ _ hpq HM.out).mono ?_
   rintro e w3 ⟨r, s, rfl, hb3⟩
   obtain ⟨hc3, hf3⟩ := bcell hb3
   have hz3 := hb3.size
   simp at hz3
   have hz3a : w.heap.size < w3.heap.size := by omega
   have hz3b : w.heap.size + 1 < w3.heap.size := by omega
   have hz3c : w.heap.size + 1 + 1 < w3.heap.size := by omega
   have hz3d : w2.heap.size < w3.heap.size := by omega
   have HO3 := Lib.hid (own_keeps (HO2.out.alloc (.cells #[.int .i64 p, .int .i64 q, .slice a2 L.length c2] 32)) hb3)
   have HB3 := Lib.hid (show Below w.heap.size w w3 from (HB2.out.alloc zO _).trans (hb3.mono (by simp; omega)))
   have kc3a0 : w3.cell? ⟨w.heap.size, 0, none⟩ = some (.int .i64 p) := by go_simp
   have kf3a0 : w3.frozen? ⟨w.heap.size, 0, none⟩ = false := by go_simp
   have kc3a1 : w3.cell? ⟨w.heap.size, 1, none⟩ = some (.int .i64 q) := by go_simp
   have kf3a1 : w3.frozen? ⟨w.heap.size, 1, none⟩ = false := by go_simp
   have kc3a2 : w3.cell? ⟨w.heap.size, 2, none⟩ = some (.slice a L.length cap) := by go_simp
   have kf3a2 : w3.frozen? ⟨w.heap.size, 2, none⟩ = false := by go_simp
   have kc3c0 : w3.cell? ⟨w.heap.size + 1 + 1, 0, none⟩ = some (.int .i64 0) := by go_simp
   have kf3c0 : w3.frozen? ⟨w.heap.size + 1 + 1, 0, none⟩ = false := by go_simp
   have kc3c1 : w3.cell? ⟨w.heap.size + 1 + 1, 1, none⟩ = some (.int .i64 0) := by go_simp
   have kf3c1 : w3.frozen? ⟨w.heap.size + 1 + 1, 1, none⟩ = false := by go_simp
   have kc3c2 : w3.cell? ⟨w.heap.size + 1 + 1, 2, none⟩ = some (.slice none 0 0) := by go_simp
   have kf3c2 : w3.frozen? ⟨w.heap.size + 1 + 1, 2, none⟩ = false := by go_simp
   have kc3d0 : w3.cell? ⟨w2.heap.size, 0, none⟩ = some (.int .i64 p) := by go_simp
   have kf3d0 : w3.frozen? ⟨w2.heap.size, 0, none⟩ = false := by go_simp
   have kc3d1 : w3.cell? ⟨w2.heap.size, 1, none⟩ = some (.int .i64 q) := by go_simp
   have kf3d1 : w3.frozen? ⟨w2.heap.size, 1, none⟩ = false := by go_simp
   have kc3d2 : w3.cell? ⟨w2.heap.size, 2, none⟩ = some (.slice a2 L.length c2) := by go_simp
   have kf3d2 : w3.frozen? ⟨w2.heap.size, 2, none⟩ = false := by go_simp
   clear hb3 hc1 hf1 hc2 hf2 hc3 hf3
   go_wp2_with fail
   refine bodyPost_ret (v := .tuple #[.agg #[.int .i64 p, .int .i64 q, .slice a2 L.length c2], .bool false]) (by simp [results, Tryz.results63, go_sem]; go_simp) rfl ?_
   have hne : (Value.slice a2 L.length c2).ownBlock ≠ some (w.heap.size + 1 + 1) := fun e => by have := (HO3.out.lt _ e).1; omega
   have HQ := (((ownsRow_setCell_other (a := ⟨w.heap.size + 1 + 1, 0, none⟩) (own_le HO3.out (show w.heap.size ≤ w1.heap.size by omega)) hne (.int .i64 p)) |> fun h => ownsRow_setCell_other (a := ⟨w.heap.size + 1 + 1, 1, none⟩) h hne (.int .i64 q)) |> fun h => ownsRow_setCell_other (a := ⟨w.heap.size + 1 + 1, 2, none⟩) h hne (.slice a2 L.length c2)).alloc (.cells #[.int .i64 r, .int .i64 s] 29)
   exact DidS.same HD.out (by rw [HL.out]; rfl) HQ ((((HB3.out.setCell zs _).setCell zs _).setCell zs _).alloc zs _)
set_option maxRecDepth 100000 in
set_option maxHeartbeats 1000000 in
theorem specDo_done (B C : Nat) (p q k x y r s : Int) (L : List (Int × Int)) (hm : madeN (p, q) ⟨k, x, y⟩ = some (r, s)) (hr : pairB r s = true) (hne : ¬ r = p) (v : Value) (w : World) (h : IsPairs B C w v L) (hn : L.length ≤ 1048600) (hd : deskN ⟨(p, q), L⟩ = true) :
   Calls Tryz.prog 63 #[.agg #[.int .i64 p, .int .i64 q, v], .agg #[.int .i64 k, .int .i64 x, .int .i64 y]] w (DidS ⟨(p, q), L⟩ ⟨k, x, y⟩ w) := by
 obtain ⟨a, cap, rfl, hC, hs0⟩ := id h
 clear hs0
 have hl8 : L.length ≤ 8 := (deskN_of hd).2.1
 have hpq : pairB p q = true := (deskN_of hd).1
 have H := Lib.hid h
 have HD := Lib.hid hd
 clear h hd
 obtain ⟨i0, hi0, hz0, hzs1, hz2'⟩ := info_parts info_pair
 have HM := Lib.hid hm
 have HN := Lib.hid (doN_is (L := L) hm hr (fun e => hne e.1))
 have hk4 : ¬ k = 4 := fun e => by subst e; simp [madeN] at hm
 clear hm
 skip
 all_goals
   go_enter Tryz.func63, Tryz.ntmps63
   go_wp2_with fail
   refine (specDeskOk_any B C p q _ _ _ (H.out.below (show Below w.heap.size w _ by exact zb) hC) hn).mono ?_
   rintro e w1 ⟨rfl, hb1⟩
   obtain ⟨hc1, hf1⟩ := bcell hb1
   have hz1 := hb1.size
   simp at hz1
   have hz1a : w.heap.size < w1.heap.size := by omega
   have hz1b : w.heap.size + 1 < w1.heap.size := by omega
   have hz1c : w.heap.size + 1 + 1 < w1.heap.size := by omega
   have HB1 := Lib.hid (show Below w.heap.size w w1 by exact zb)
   rw [HD.out]
   clear hb1
   go_wp2_with fail
   refine (specCopy_any B C p q _ _ _ (H.out.below HB1.out hC) hn).mono ?_
   rintro e w2 ⟨a2, c2, rfl, hown2, hb2⟩
   dsimp only at hown2 ⊢
   obtain ⟨hc2, hf2⟩ := bcell hb2
   have hz2 := hb2.size
   have hz2a : w.heap.size < w2.heap.size := by omega
   have hz2b : w.heap.size + 1 < w2.heap.size := by omega
   have hz2c : w.heap.size + 1 + 1 < w2.heap.size := by omega
   have HB2 := Lib.hid (HB1.out.trans (hb2.mono HB1.out.size))
   have HO2 := Lib.hid hown2
   clear hb2 hown2
   go_wp2_with fail
   refine (specMade_is p q _ _ _ _ _ _ hpq HM.out hr).mono ?_
   rintro e w3 ⟨rfl, hb3⟩
   obtain ⟨hc3, hf3⟩ := bcell hb3
   have hz3 := hb3.size
   simp at hz3
   have hz3a : w.heap.size < w3.heap.size := by omega
   have hz3b : w.heap.size + 1 < w3.heap.size := by omega
   have hz3c : w.heap.size + 1 + 1 < w3.heap.size := by omega
   have hz3d : w2.heap.size < w3.heap.size := by omega
   have HO3 := Lib.hid (own_keeps (HO2.out.alloc (.cells #[.int .i64 p, .int .i64 q, .slice a2 L.length c2] 32)) hb3)
   have HB3 := Lib.hid (show Below w.heap.size w w3 from (HB2.out.alloc zO _).trans (hb3.mono (by simp; omega)))
   have kc3a0 : w3.cell? ⟨w.heap.size, 0, none⟩ = some (.int .i64 p) := by go_simp
   have kf3a0 : w3.frozen? ⟨w.heap.size, 0, none⟩ = false := by go_simp
   have kc3a1 : w3.cell? ⟨w.heap.size, 1, none⟩ = some (.int .i64 q) := by go_simp
   have kf3a1 : w3.frozen? ⟨w.heap.size, 1, none⟩ = false := by go_simp
   have kc3a2 : w3.cell? ⟨w.heap.size, 2, none⟩ = some (.slice a L.length cap) := by go_simp
   have kf3a2 : w3.frozen? ⟨w.heap.size, 2, none⟩ = false := by go_simp
   have kc3c0 : w3.cell? ⟨w.heap.size + 1 + 1, 0, none⟩ = some (.int .i64 0) := by go_simp
   have kf3c0 : w3.frozen? ⟨w.heap.size + 1 + 1, 0, none⟩ = false := by go_simp
   have kc3c1 : w3.cell? ⟨w.heap.size + 1 + 1, 1, none⟩ = some (.int .i64 0) := by go_simp
   have kf3c1 : w3.frozen? ⟨w.heap.size + 1 + 1, 1, none⟩ = false := by go_simp
   have kc3c2 : w3.cell? ⟨w.heap.size + 1 + 1, 2, none⟩ = some (.slice none 0 0) := by go_simp
   have kf3c2 : w3.frozen? ⟨w.heap.size + 1 + 1, 2, none⟩ = false := by go_simp
   have kc3d0 : w3.cell? ⟨w2.heap.size, 0, none⟩ = some (.int .i64 p) := by go_simp
   have kf3d0 : w3.frozen? ⟨w2.heap.size, 0, none⟩ = false := by go_simp
   have kc3d1 : w3.cell? ⟨w2.heap.size, 1, none⟩ = some (.int .i64 q) := by go_simp
   have kf3d1 : w3.frozen? ⟨w2.heap.size, 1, none⟩ = false := by go_simp
   have kc3d2 : w3.cell? ⟨w2.heap.size, 2, none⟩ = some (.slice a2 L.length c2) := by go_simp
   have kf3d2 : w3.frozen? ⟨w2.heap.size, 2, none⟩ = false := by go_simp
   clear hb3 hc1 hf1 hc2 hf2 hc3 hf3
   have HLK := Lib.hid HO3.out.lt
   go_wp2_with (at_builtin; refine wpList_append_pairs _ rfl _ _ 30 rfl w1.heap.size 29 i0 _ 16 Tryz.underlying30 hi0 hz0 hzs1 hz2' rfl (.slice a2 L.length c2) L.length (pairCells L) rfl ((HO3.out.alloc _).alloc _) (w3.heap.size + 1) (w3.heap.size + 1 + 1) _ [(p, q)] rfl (IsPairs.new _ p q _ _ (by simp)) (L.length + 1) rfl (pairCells (L ++ [(p, q)])) (pairCells_append _ _) (by unfold maxLen; omega) zO (by simp; omega) ?_)
   intro a4 c4 w4 hown4 hgrow4 hat4
   obtain ⟨g4, rfl⟩ : ∃ g4, a4 = some ⟨g4, 0, none⟩ := by
     obtain ⟨g, cap', hv, _⟩ := hown4.form zO
     injection hv with h1
     exact ⟨g, h1⟩
   have hz4 := hgrow4.size
   simp at hz4
   have hgl4 := (hown4.lt g4 rfl).2
   have hg4 : (w1.heap.size ≤ g4 ∧ g4 < w2.heap.size) ∨ g4 = w3.heap.size + 1 + 1 := by
     rcases hat4 with h | h
     · exact .inl (by have h1 := HO2.out.lt g4 (by rw [← h]; rfl); exact h1)
     · right; simpa [Value.ownBlock] using h
   have hcap4 : L.length + 1 ≤ c4 := by
     rcases hown4.2 with ⟨hbad, _⟩ | ⟨_, _, _, he, _, _, hnc, _⟩
     · cases hbad
     · cases he; omega
   have kdc0 : w4.cell? ⟨w.heap.size + 1 + 1, 0, none⟩ = some (.int .i64 0) := (hgrow4.cell_far ⟨w.heap.size + 1 + 1, 0, none⟩ zs (fun e => by have := HO2.out.lt _ e.symm; (simp at this) <;> omega)).trans (by go_simp)
   have kgc0 : w4.frozen? ⟨w.heap.size + 1 + 1, 0, none⟩ = false := (hgrow4.frozen_far ⟨w.heap.size + 1 + 1, 0, none⟩ zs (fun e => by have := HO2.out.lt _ e.symm; (simp at this) <;> omega)).trans (by go_simp)
   have kdc1 : w4.cell? ⟨w.heap.size + 1 + 1, 1, none⟩ = some (.int .i64 0) := (hgrow4.cell_far ⟨w.heap.size + 1 + 1, 1, none⟩ zs (fun e => by have := HO2.out.lt _ e.symm; (simp at this) <;> omega)).trans (by go_simp)
   have kgc1 : w4.frozen? ⟨w.heap.size + 1 + 1, 1, none⟩ = false := (hgrow4.frozen_far ⟨w.heap.size + 1 + 1, 1, none⟩ zs (fun e => by have := HO2.out.lt _ e.symm; (simp at this) <;> omega)).trans (by go_simp)
   have kdc2 : w4.cell? ⟨w.heap.size + 1 + 1, 2, none⟩ = some (.slice none 0 0) := (hgrow4.cell_far ⟨w.heap.size + 1 + 1, 2, none⟩ zs (fun e => by have := HO2.out.lt _ e.symm; (simp at this) <;> omega)).trans (by go_simp)
   have kgc2 : w4.frozen? ⟨w.heap.size + 1 + 1, 2, none⟩ = false := (hgrow4.frozen_far ⟨w.heap.size + 1 + 1, 2, none⟩ zs (fun e => by have := HO2.out.lt _ e.symm; (simp at this) <;> omega)).trans (by go_simp)
   have kdd0 : w4.cell? ⟨w2.heap.size, 0, none⟩ = some (.int .i64 p) := (hgrow4.cell_far ⟨w2.heap.size, 0, none⟩ zs (fun e => by have := HO2.out.lt _ e.symm; (simp at this) <;> omega)).trans (by go_simp)
   have kgd0 : w4.frozen? ⟨w2.heap.size, 0, none⟩ = false := (hgrow4.frozen_far ⟨w2.heap.size, 0, none⟩ zs (fun e => by have := HO2.out.lt _ e.symm; (simp at this) <;> omega)).trans (by go_simp)
   have kdd1 : w4.cell? ⟨w2.heap.size, 1, none⟩ = some (.int .i64 q) := (hgrow4.cell_far ⟨w2.heap.size, 1, none⟩ zs (fun e => by have := HO2.out.lt _ e.symm; (simp at this) <;> omega)).trans (by go_simp)
   have kgd1 : w4.frozen? ⟨w2.heap.size, 1, none⟩ = false := (hgrow4.frozen_far ⟨w2.heap.size, 1, none⟩ zs (fun e => by have := HO2.out.lt _ e.symm; (simp at this) <;> omega)).trans (by go_simp)
   have kdd2 : w4.cell? ⟨w2.heap.size, 2, none⟩ = some (.slice a2 L.length c2) := (hgrow4.cell_far ⟨w2.heap.size, 2, none⟩ zs (fun e => by have := HO2.out.lt _ e.symm; (simp at this) <;> omega)).trans (by go_simp)
   have kgd2 : w4.frozen? ⟨w2.heap.size, 2, none⟩ = false := (hgrow4.frozen_far ⟨w2.heap.size, 2, none⟩ zs (fun e => by have := HO2.out.lt _ e.symm; (simp at this) <;> omega)).trans (by go_simp)
   have kde0 : w4.cell? ⟨w3.heap.size, 0, none⟩ = some (.int .i64 r) := (hgrow4.cell_far ⟨w3.heap.size, 0, none⟩ zs (fun e => by have := HO2.out.lt _ e.symm; (simp at this) <;> omega)).trans (by go_simp)
   have kge0 : w4.frozen? ⟨w3.heap.size, 0, none⟩ = false := (hgrow4.frozen_far ⟨w3.heap.size, 0, none⟩ zs (fun e => by have := HO2.out.lt _ e.symm; (simp at this) <;> omega)).trans (by go_simp)
   have kde1 : w4.cell? ⟨w3.heap.size, 1, none⟩ = some (.int .i64 s) := (hgrow4.cell_far ⟨w3.heap.size, 1, none⟩ zs (fun e => by have := HO2.out.lt _ e.symm; (simp at this) <;> omega)).trans (by go_simp)
   have kge1 : w4.frozen? ⟨w3.heap.size, 1, none⟩ = false := (hgrow4.frozen_far ⟨w3.heap.size, 1, none⟩ zs (fun e => by have := HO2.out.lt _ e.symm; (simp at this) <;> omega)).trans (by go_simp)
   have hz4a : w.heap.size < w4.heap.size := by omega
   have hz4b : w.heap.size + 1 + 1 < w4.heap.size := by omega
   have hz4c : w2.heap.size < w4.heap.size := by omega
   have hz4d : w3.heap.size < w4.heap.size := by omega
   have HB4 := Lib.hid (show Below w.heap.size w w4 from ((HB3.out.alloc zO _).alloc (by simp; omega) _).grown hgrow4 (by simp; omega) (fun k e => by have := (HO2.out.lt k e).1; omega))
   have HO4 := Lib.hid hown4
   have HG4 := Lib.hid hg4
   clear hown4 hgrow4 hat4 hg4
   have hned : (Value.slice (some ⟨g4, 0, none⟩) (L.length + 1) c4).ownBlock ≠ some w2.heap.size := fun e => by
     have e' : g4 = w2.heap.size := by simpa [Value.ownBlock] using e
     have := HG4.out
     omega
   have hnec : (Value.slice (some ⟨g4, 0, none⟩) (L.length + 1) c4).ownBlock ≠ some (w.heap.size + 1 + 1) := fun e => by
     have e' : g4 = w.heap.size + 1 + 1 := by simpa [Value.ownBlock] using e
     have := HG4.out
     omega
   by_cases h8 : L.length = 8
   · have e8 : (8 : Int) < (L.length : Int) + 1 := by omega
     have c41 : ¬ c4 = 1 := by omega
     have c42 : ¬ 1 = c4 := by omega
     have c43 : (1 : Int) ≤ (L.length : Int) + 1 := by omega
     have c44 : 1 ≤ L.length + 1 := by omega
     have H8 := Lib.hid h8
     clear h8
     go_wp2_with fail
     have hdl : ((L ++ [(p, q)]).drop (L.length + 1 - 8)).length = L.length := by have := H8.out; simp; omega
     have hdd : (L ++ [(p, q)]).drop (L.length + 1 - 8) = (L ++ [(p, q)]).drop 1 := by rw [H8.out]
     have HQ := (ownsRow_setCell_other (a := ⟨w.heap.size + 1 + 1, 2, none⟩) (ownsRow_setCell_other (a := ⟨w.heap.size + 1 + 1, 1, none⟩) (ownsRow_setCell_other (a := ⟨w.heap.size + 1 + 1, 0, none⟩) (ownsRow_setCell_other (a := ⟨w2.heap.size, 1, none⟩) (ownsRow_setCell_other (a := ⟨w2.heap.size, 0, none⟩) (ownsRow_setCell_other (a := ⟨w2.heap.size, 2, none⟩) (ownsRow_setCell_other (a := ⟨w2.heap.size, 2, none⟩) (own_le HO4.out (show w.heap.size ≤ w1.heap.size by omega)) hned (.slice (some ⟨g4, 0, none⟩) (L.length + 1) c4)) hned (.slice (some ⟨g4, 2, none⟩) L.length (c4 - 1))) hned (.int .i64 r)) hned (.int .i64 s)) hnec (.int .i64 r)) hnec (.int .i64 s)) hnec (.slice (some ⟨g4, 2, none⟩) L.length (c4 - 1)))
     refine bodyPost_ret (v := .tuple #[.agg #[.int .i64 r, .int .i64 s, .slice (some ⟨g4, 2, none⟩) L.length (c4 - 1)], .bool true]) (by simp [results, Tryz.results63, go_sem]; go_simp) rfl ?_
     unfold DidS
     rw [doR_yes HD.out, HN.out]
     dsimp only
     rw [hdl]
     refine ⟨some ⟨g4, 2, none⟩, c4 - 1, rfl, ?_, fun h => absurd h (by have := H8.out; omega), ?_⟩
     · rw [hdd]
       have HI := (IsPairs.of_owns HQ).drop 1 (c4 - 1) zO zO
       simpa using HI
     · exact (Below.setCell (p := ⟨w.heap.size + 1 + 1, 2, none⟩) (Below.setCell (p := ⟨w.heap.size + 1 + 1, 1, none⟩) (Below.setCell (p := ⟨w.heap.size + 1 + 1, 0, none⟩) (Below.setCell (p := ⟨w2.heap.size, 1, none⟩) (Below.setCell (p := ⟨w2.heap.size, 0, none⟩) (Below.setCell (p := ⟨w2.heap.size, 2, none⟩) (Below.setCell (p := ⟨w2.heap.size, 2, none⟩) HB4.out (by show w.heap.size ≤ w2.heap.size; omega) (.slice (some ⟨g4, 0, none⟩) (L.length + 1) c4)) (by show w.heap.size ≤ w2.heap.size; omega) (.slice (some ⟨g4, 2, none⟩) L.length (c4 - 1))) (by show w.heap.size ≤ w2.heap.size; omega) (.int .i64 r)) (by show w.heap.size ≤ w2.heap.size; omega) (.int .i64 s)) (by show w.heap.size ≤ w.heap.size + 1 + 1; omega) (.int .i64 r)) (by show w.heap.size ≤ w.heap.size + 1 + 1; omega) (.int .i64 s)) (by show w.heap.size ≤ w.heap.size + 1 + 1; omega) (.slice (some ⟨g4, 2, none⟩) L.length (c4 - 1)))
   · have e8 : ¬ (8 : Int) < (L.length : Int) + 1 := by omega
     have hdd : (L ++ [(p, q)]).drop (L.length + 1 - 8) = L ++ [(p, q)] := by rw [show L.length + 1 - 8 = 0 by omega]; rfl
     have hdl : (L ++ [(p, q)]).length = L.length + 1 := by simp
     have HDD := Lib.hid hdd
     have HDL := Lib.hid hdl
     clear hdd hdl
     go_wp2_with fail
     have HQ := (ownsRow_setCell_other (a := ⟨w.heap.size + 1 + 1, 2, none⟩) (ownsRow_setCell_other (a := ⟨w.heap.size + 1 + 1, 1, none⟩) (ownsRow_setCell_other (a := ⟨w.heap.size + 1 + 1, 0, none⟩) (ownsRow_setCell_other (a := ⟨w2.heap.size, 1, none⟩) (ownsRow_setCell_other (a := ⟨w2.heap.size, 0, none⟩) (ownsRow_setCell_other (a := ⟨w2.heap.size, 2, none⟩) (own_le HO4.out (show w.heap.size ≤ w1.heap.size by omega)) hned (.slice (some ⟨g4, 0, none⟩) (L.length + 1) c4)) hned (.int .i64 r)) hned (.int .i64 s)) hnec (.int .i64 r)) hnec (.int .i64 s)) hnec (.slice (some ⟨g4, 0, none⟩) (L.length + 1) c4))
     refine bodyPost_ret (v := .tuple #[.agg #[.int .i64 r, .int .i64 s, .slice (some ⟨g4, 0, none⟩) (L.length + 1) c4], .bool true]) (by simp [results, Tryz.results63, go_sem]; go_simp) rfl ?_
     unfold DidS
     rw [doR_yes HD.out, HN.out, HDD.out]
     dsimp only
     rw [HDL.out]
     refine ⟨some ⟨g4, 0, none⟩, c4, rfl, IsPairs.of_owns HQ, fun _ => HQ, ?_⟩
     exact (Below.setCell (p := ⟨w.heap.size + 1 + 1, 2, none⟩) (Below.setCell (p := ⟨w.heap.size + 1 + 1, 1, none⟩) (Below.setCell (p := ⟨w.heap.size + 1 + 1, 0, none⟩) (Below.setCell (p := ⟨w2.heap.size, 1, none⟩) (Below.setCell (p := ⟨w2.heap.size, 0, none⟩) (Below.setCell (p := ⟨w2.heap.size, 2, none⟩) HB4.out (by show w.heap.size ≤ w2.heap.size; omega) (.slice (some ⟨g4, 0, none⟩) (L.length + 1) c4)) (by show w.heap.size ≤ w2.heap.size; omega) (.int .i64 r)) (by show w.heap.size ≤ w2.heap.size; omega) (.int .i64 s)) (by show w.heap.size ≤ w.heap.size + 1 + 1; omega) (.int .i64 r)) (by show w.heap.size ≤ w.heap.size + 1 + 1; omega) (.int .i64 s)) (by show w.heap.size ≤ w.heap.size + 1 + 1; omega) (.slice (some ⟨g4, 0, none⟩) (L.length + 1) c4))
set_option maxRecDepth 100000 in
set_option maxHeartbeats 1000000 in
theorem specDo_doneq (B C : Nat) (p q k x y s : Int) (L : List (Int × Int)) (hm : madeN (p, q) ⟨k, x, y⟩ = some (p, s)) (hr : pairB p s = true) (hne : ¬ s = q) (v : Value) (w : World) (h : IsPairs B C w v L) (hn : L.length ≤ 1048600) (hd : deskN ⟨(p, q), L⟩ = true) :
   Calls Tryz.prog 63 #[.agg #[.int .i64 p, .int .i64 q, v], .agg #[.int .i64 k, .int .i64 x, .int .i64 y]] w (DidS ⟨(p, q), L⟩ ⟨k, x, y⟩ w) := by
 obtain ⟨a, cap, rfl, hC, hs0⟩ := id h
 clear hs0
 have hl8 : L.length ≤ 8 := (deskN_of hd).2.1
 have hpq : pairB p q = true := (deskN_of hd).1
 have H := Lib.hid h
 have HD := Lib.hid hd
 clear h hd
 obtain ⟨i0, hi0, hz0, hzs1, hz2'⟩ := info_parts info_pair
 have HM := Lib.hid hm
 have HN := Lib.hid (doN_is (L := L) hm hr (fun e => hne e.2))
 have hk4 : ¬ k = 4 := fun e => by subst e; simp [madeN] at hm
 clear hm
 skip
 all_goals
   go_enter Tryz.func63, Tryz.ntmps63
   go_wp2_with fail
   refine (specDeskOk_any B C p q _ _ _ (H.out.below (show Below w.heap.size w _ by exact zb) hC) hn).mono ?_
   rintro e w1 ⟨rfl, hb1⟩
   obtain ⟨hc1, hf1⟩ := bcell hb1
   have hz1 := hb1.size
   simp at hz1
   have hz1a : w.heap.size < w1.heap.size := by omega
   have hz1b : w.heap.size + 1 < w1.heap.size := by omega
   have hz1c : w.heap.size + 1 + 1 < w1.heap.size := by omega
   have HB1 := Lib.hid (show Below w.heap.size w w1 by exact zb)
   rw [HD.out]
   clear hb1
   go_wp2_with fail
   refine (specCopy_any B C p q _ _ _ (H.out.below HB1.out hC) hn).mono ?_
   rintro e w2 ⟨a2, c2, rfl, hown2, hb2⟩
   dsimp only at hown2 ⊢
   obtain ⟨hc2, hf2⟩ := bcell hb2
   have hz2 := hb2.size
   have hz2a : w.heap.size < w2.heap.size := by omega
   have hz2b : w.heap.size + 1 < w2.heap.size := by omega
   have hz2c : w.heap.size + 1 + 1 < w2.heap.size := by omega
   have HB2 := Lib.hid (HB1.out.trans (hb2.mono HB1.out.size))
   have HO2 := Lib.hid hown2
   clear hb2 hown2
   go_wp2_with fail
   refine (specMade_is p q _ _ _ _ _ _ hpq HM.out hr).mono ?_
   rintro e w3 ⟨rfl, hb3⟩
   obtain ⟨hc3, hf3⟩ := bcell hb3
   have hz3 := hb3.size
   simp at hz3
   have hz3a : w.heap.size < w3.heap.size := by omega
   have hz3b : w.heap.size + 1 < w3.heap.size := by omega
   have hz3c : w.heap.size + 1 + 1 < w3.heap.size := by omega
   have hz3d : w2.heap.size < w3.heap.size := by omega
   have HO3 := Lib.hid (own_keeps (HO2.out.alloc (.cells #[.int .i64 p, .int .i64 q, .slice a2 L.length c2] 32)) hb3)
   have HB3 := Lib.hid (show Below w.heap.size w w3 from (HB2.out.alloc zO _).trans (hb3.mono (by simp; omega)))
   have kc3a0 : w3.cell? ⟨w.heap.size, 0, none⟩ = some (.int .i64 p) := by go_simp
   have kf3a0 : w3.frozen? ⟨w.heap.size, 0, none⟩ = false := by go_simp
   have kc3a1 : w3.cell? ⟨w.heap.size, 1, none⟩ = some (.int .i64 q) := by go_simp
   have kf3a1 : w3.frozen? ⟨w.heap.size, 1, none⟩ = false := by go_simp
   have kc3a2 : w3.cell? ⟨w.heap.size, 2, none⟩ = some (.slice a L.length cap) := by go_simp
   have kf3a2 : w3.frozen? ⟨w.heap.size, 2, none⟩ = false := by go_simp
   have kc3c0 : w3.cell? ⟨w.heap.size + 1 + 1, 0, none⟩ = some (.int .i64 0) := by go_simp
   have kf3c0 : w3.frozen? ⟨w.heap.size + 1 + 1, 0, none⟩ = false := by go_simp
   have kc3c1 : w3.cell? ⟨w.heap.size + 1 + 1, 1, none⟩ = some (.int .i64 0) := by go_simp
   have kf3c1 : w3.frozen? ⟨w.heap.size + 1 + 1, 1, none⟩ = false := by go_simp
   have kc3c2 : w3.cell? ⟨w.heap.size + 1 + 1, 2, none⟩ = some (.slice none 0 0) := by go_simp
   have kf3c2 : w3.frozen? ⟨w.heap.size + 1 + 1, 2, none⟩ = false := by go_simp
   have kc3d0 : w3.cell? ⟨w2.heap.size, 0, none⟩ = some (.int .i64 p) := by go_simp
   have kf3d0 : w3.frozen? ⟨w2.heap.size, 0, none⟩ = false := by go_simp
   have kc3d1 : w3.cell? ⟨w2.heap.size, 1, none⟩ = some (.int .i64 q) := by go_simp
   have kf3d1 : w3.frozen? ⟨w2.heap.size, 1, none⟩ = false := by go_simp
   have kc3d2 : w3.cell? ⟨w2.heap.size, 2, none⟩ = some (.slice a2 L.length c2) := by go_simp
   have kf3d2 : w3.frozen? ⟨w2.heap.size, 2, none⟩ = false := by go_simp
   clear hb3 hc1 hf1 hc2 hf2 hc3 hf3
   have HLK := Lib.hid HO3.out.lt
   go_wp2_with (at_builtin; refine wpList_append_pairs _ rfl _ _ 30 rfl w1.heap.size 29 i0 _ 16 Tryz.underlying30 hi0 hz0 hzs1 hz2' rfl (.slice a2 L.length c2) L.length (pairCells L) rfl ((HO3.out.alloc _).alloc _) (w3.heap.size + 1) (w3.heap.size + 1 + 1) _ [(p, q)] rfl (IsPairs.new _ p q _ _ (by simp)) (L.length + 1) rfl (pairCells (L ++ [(p, q)])) (pairCells_append _ _) (by unfold maxLen; omega) zO (by simp; omega) ?_)
   intro a4 c4 w4 hown4 hgrow4 hat4
   obtain ⟨g4, rfl⟩ : ∃ g4, a4 = some ⟨g4, 0, none⟩ := by
     obtain ⟨g, cap', hv, _⟩ := hown4.form zO
     injection hv with h1
     exact ⟨g, h1⟩
   have hz4 := hgrow4.size
   simp at hz4
   have hgl4 := (hown4.lt g4 rfl).2
   have hg4 : (w1.heap.size ≤ g4 ∧ g4 < w2.heap.size) ∨ g4 = w3.heap.size + 1 + 1 := by
     rcases hat4 with h | h
     · exact .inl (by have h1 := HO2.out.lt g4 (by rw [← h]; rfl); exact h1)
     · right; simpa [Value.ownBlock] using h
   have hcap4 : L.length + 1 ≤ c4 := by
     rcases hown4.2 with ⟨hbad, _⟩ | ⟨_, _, _, he, _, _, hnc, _⟩
     · cases hbad
     · cases he; omega
   have kdc0 : w4.cell? ⟨w.heap.size + 1 + 1, 0, none⟩ = some (.int .i64 0) := (hgrow4.cell_far ⟨w.heap.size + 1 + 1, 0, none⟩ zs (fun e => by have := HO2.out.lt _ e.symm; (simp at this) <;> omega)).trans (by go_simp)
   have kgc0 : w4.frozen? ⟨w.heap.size + 1 + 1, 0, none⟩ = false := (hgrow4.frozen_far ⟨w.heap.size + 1 + 1, 0, none⟩ zs (fun e => by have := HO2.out.lt _ e.symm; (simp at this) <;> omega)).trans (by go_simp)
   have kdc1 : w4.cell? ⟨w.heap.size + 1 + 1, 1, none⟩ = some (.int .i64 0) := (hgrow4.cell_far ⟨w.heap.size + 1 + 1, 1, none⟩ zs (fun e => by have := HO2.out.lt _ e.symm; (simp at this) <;> omega)).trans (by go_simp)
   have kgc1 : w4.frozen? ⟨w.heap.size + 1 + 1, 1, none⟩ = false := (hgrow4.frozen_far ⟨w.heap.size + 1 + 1, 1, none⟩ zs (fun e => by have := HO2.out.lt _ e.symm; (simp at this) <;> omega)).trans (by go_simp)
   have kdc2 : w4.cell? ⟨w.heap.size + 1 + 1, 2, none⟩ = some (.slice none 0 0) := (hgrow4.cell_far ⟨w.heap.size + 1 + 1, 2, none⟩ zs (fun e => by have := HO2.out.lt _ e.symm; (simp at this) <;> omega)).trans (by go_simp)
   have kgc2 : w4.frozen? ⟨w.heap.size + 1 + 1, 2, none⟩ = false := (hgrow4.frozen_far ⟨w.heap.size + 1 + 1, 2, none⟩ zs (fun e => by have := HO2.out.lt _ e.symm; (simp at this) <;> omega)).trans (by go_simp)
   have kdd0 : w4.cell? ⟨w2.heap.size, 0, none⟩ = some (.int .i64 p) := (hgrow4.cell_far ⟨w2.heap.size, 0, none⟩ zs (fun e => by have := HO2.out.lt _ e.symm; (simp at this) <;> omega)).trans (by go_simp)
   have kgd0 : w4.frozen? ⟨w2.heap.size, 0, none⟩ = false := (hgrow4.frozen_far ⟨w2.heap.size, 0, none⟩ zs (fun e => by have := HO2.out.lt _ e.symm; (simp at this) <;> omega)).trans (by go_simp)
   have kdd1 : w4.cell? ⟨w2.heap.size, 1, none⟩ = some (.int .i64 q) := (hgrow4.cell_far ⟨w2.heap.size, 1, none⟩ zs (fun e => by have := HO2.out.lt _ e.symm; (simp at this) <;> omega)).trans (by go_simp)
   have kgd1 : w4.frozen? ⟨w2.heap.size, 1, none⟩ = false := (hgrow4.frozen_far ⟨w2.heap.size, 1, none⟩ zs (fun e => by have := HO2.out.lt _ e.symm; (simp at this) <;> omega)).trans (by go_simp)
   have kdd2 : w4.cell? ⟨w2.heap.size, 2, none⟩ = some (.slice a2 L.length c2) := (hgrow4.cell_far ⟨w2.heap.size, 2, none⟩ zs (fun e => by have := HO2.out.lt _ e.symm; (simp at this) <;> omega)).trans (by go_simp)
   have kgd2 : w4.frozen? ⟨w2.heap.size, 2, none⟩ = false := (hgrow4.frozen_far ⟨w2.heap.size, 2, none⟩ zs (fun e => by have := HO2.out.lt _ e.symm; (simp at this) <;> omega)).trans (by go_simp)
   have kde0 : w4.cell? ⟨w3.heap.size, 0, none⟩ = some (.int .i64 p) := (hgrow4.cell_far ⟨w3.heap.size, 0, none⟩ zs (fun e => by have := HO2.out.lt _ e.symm; (simp at this) <;> omega)).trans (by go_simp)
   have kge0 : w4.frozen? ⟨w3.heap.size, 0, none⟩ = false := (hgrow4.frozen_far ⟨w3.heap.size, 0, none⟩ zs (fun e => by have := HO2.out.lt _ e.symm; (simp at this) <;> omega)).trans (by go_simp)
   have kde1 : w4.cell? ⟨w3.heap.size, 1, none⟩ = some (.int .i64 s) := (hgrow4.cell_far ⟨w3.heap.size, 1, none⟩ zs (fun e => by have := HO2.out.lt _ e.symm; (simp at this) <;> omega)).trans (by go_simp)
   have kge1 : w4.frozen? ⟨w3.heap.size, 1, none⟩ = false := (hgrow4.frozen_far ⟨w3.heap.size, 1, none⟩ zs (fun e => by have := HO2.out.lt _ e.symm; (simp at this) <;> omega)).trans (by go_simp)
   have hz4a : w.heap.size < w4.heap.size := by omega
   have hz4b : w.heap.size + 1 + 1 < w4.heap.size := by omega
   have hz4c : w2.heap.size < w4.heap.size := by omega
   have hz4d : w3.heap.size < w4.heap.size := by omega
   have HB4 := Lib.hid (show Below w.heap.size w w4 from ((HB3.out.alloc zO _).alloc (by simp; omega) _).grown hgrow4 (by simp; omega) (fun k e => by have := (HO2.out.lt k e).1; omega))
   have HO4 := Lib.hid hown4
   have HG4 := Lib.hid hg4
   clear hown4 hgrow4 hat4 hg4
   have hned : (Value.slice (some ⟨g4, 0, none⟩) (L.length + 1) c4).ownBlock ≠ some w2.heap.size := fun e => by
     have e' : g4 = w2.heap.size := by simpa [Value.ownBlock] using e
     have := HG4.out
     omega
   have hnec : (Value.slice (some ⟨g4, 0, none⟩) (L.length + 1) c4).ownBlock ≠ some (w.heap.size + 1 + 1) := fun e => by
     have e' : g4 = w.heap.size + 1 + 1 := by simpa [Value.ownBlock] using e
     have := HG4.out
     omega
   by_cases h8 : L.length = 8
   · have e8 : (8 : Int) < (L.length : Int) + 1 := by omega
     have c41 : ¬ c4 = 1 := by omega
     have c42 : ¬ 1 = c4 := by omega
     have c43 : (1 : Int) ≤ (L.length : Int) + 1 := by omega
     have c44 : 1 ≤ L.length + 1 := by omega
     have H8 := Lib.hid h8
     clear h8
     go_wp2_with fail
     have hdl : ((L ++ [(p, q)]).drop (L.length + 1 - 8)).length = L.length := by have := H8.out; simp; omega
     have hdd : (L ++ [(p, q)]).drop (L.length + 1 - 8) = (L ++ [(p, q)]).drop 1 := by rw [H8.out]
     have HQ := (ownsRow_setCell_other (a := ⟨w.heap.size + 1 + 1, 2, none⟩) (ownsRow_setCell_other (a := ⟨w.heap.size + 1 + 1, 1, none⟩) (ownsRow_setCell_other (a := ⟨w.heap.size + 1 + 1, 0, none⟩) (ownsRow_setCell_other (a := ⟨w2.heap.size, 1, none⟩) (ownsRow_setCell_other (a := ⟨w2.heap.size, 0, none⟩) (ownsRow_setCell_other (a := ⟨w2.heap.size, 2, none⟩) (ownsRow_setCell_other (a := ⟨w2.heap.size, 2, none⟩) (own_le HO4.out (show w.heap.size ≤ w1.heap.size by omega)) hned (.slice (some ⟨g4, 0, none⟩) (L.length + 1) c4)) hned (.slice (some ⟨g4, 2, none⟩) L.length (c4 - 1))) hned (.int .i64 p)) hned (.int .i64 s)) hnec (.int .i64 p)) hnec (.int .i64 s)) hnec (.slice (some ⟨g4, 2, none⟩) L.length (c4 - 1)))
     refine bodyPost_ret (v := .tuple #[.agg #[.int .i64 p, .int .i64 s, .slice (some ⟨g4, 2, none⟩) L.length (c4 - 1)], .bool true]) (by simp [results, Tryz.results63, go_sem]; go_simp) rfl ?_
     unfold DidS
     rw [doR_yes HD.out, HN.out]
     dsimp only
     rw [hdl]
     refine ⟨some ⟨g4, 2, none⟩, c4 - 1, rfl, ?_, fun h => absurd h (by have := H8.out; omega), ?_⟩
     · rw [hdd]
       have HI := (IsPairs.of_owns HQ).drop 1 (c4 - 1) zO zO
       simpa using HI
     · exact (Below.setCell (p := ⟨w.heap.size + 1 + 1, 2, none⟩) (Below.setCell (p := ⟨w.heap.size + 1 + 1, 1, none⟩) (Below.setCell (p := ⟨w.heap.size + 1 + 1, 0, none⟩) (Below.setCell (p := ⟨w2.heap.size, 1, none⟩) (Below.setCell (p := ⟨w2.heap.size, 0, none⟩) (Below.setCell (p := ⟨w2.heap.size, 2, none⟩) (Below.setCell (p := ⟨w2.heap.size, 2, none⟩) HB4.out (by show w.heap.size ≤ w2.heap.size; omega) (.slice (some ⟨g4, 0, none⟩) (L.length + 1) c4)) (by show w.heap.size ≤ w2.heap.size; omega) (.slice (some ⟨g4, 2, none⟩) L.length (c4 - 1))) (by show w.heap.size ≤ w2.heap.size; omega) (.int .i64 p)) (by show w.heap.size ≤ w2.heap.size; omega) (.int .i64 s)) (by show w.heap.size ≤ w.heap.size + 1 + 1; omega) (.int .i64 p)) (by show w.heap.size ≤ w.heap.size + 1 + 1; omega) (.int .i64 s)) (by show w.heap.size ≤ w.heap.size + 1 + 1; omega) (.slice (some ⟨g4, 2, none⟩) L.length (c4 - 1)))
   · have e8 : ¬ (8 : Int) < (L.length : Int) + 1 := by omega
     have hdd : (L ++ [(p, q)]).drop (L.length + 1 - 8) = L ++ [(p, q)] := by rw [show L.length + 1 - 8 = 0 by omega]; rfl
     have hdl : (L ++ [(p, q)]).length = L.length + 1 := by simp
     have HDD := Lib.hid hdd
     have HDL := Lib.hid hdl
     clear hdd hdl
     go_wp2_with fail
     have HQ := (ownsRow_setCell_other (a := ⟨w.heap.size + 1 + 1, 2, none⟩) (ownsRow_setCell_other (a := ⟨w.heap.size + 1 + 1, 1, none⟩) (ownsRow_setCell_other (a := ⟨w.heap.size + 1 + 1, 0, none⟩) (ownsRow_setCell_other (a := ⟨w2.heap.size, 1, none⟩) (ownsRow_setCell_other (a := ⟨w2.heap.size, 0, none⟩) (ownsRow_setCell_other (a := ⟨w2.heap.size, 2, none⟩) (own_le HO4.out (show w.heap.size ≤ w1.heap.size by omega)) hned (.slice (some ⟨g4, 0, none⟩) (L.length + 1) c4)) hned (.int .i64 p)) hned (.int .i64 s)) hnec (.int .i64 p)) hnec (.int .i64 s)) hnec (.slice (some ⟨g4, 0, none⟩) (L.length + 1) c4))
     refine bodyPost_ret (v := .tuple #[.agg #[.int .i64 p, .int .i64 s, .slice (some ⟨g4, 0, none⟩) (L.length + 1) c4], .bool true]) (by simp [results, Tryz.results63, go_sem]; go_simp) rfl ?_
     unfold DidS
     rw [doR_yes HD.out, HN.out, HDD.out]
     dsimp only
     rw [HDL.out]
     refine ⟨some ⟨g4, 0, none⟩, c4, rfl, IsPairs.of_owns HQ, fun _ => HQ, ?_⟩
     exact (Below.setCell (p := ⟨w.heap.size + 1 + 1, 2, none⟩) (Below.setCell (p := ⟨w.heap.size + 1 + 1, 1, none⟩) (Below.setCell (p := ⟨w.heap.size + 1 + 1, 0, none⟩) (Below.setCell (p := ⟨w2.heap.size, 1, none⟩) (Below.setCell (p := ⟨w2.heap.size, 0, none⟩) (Below.setCell (p := ⟨w2.heap.size, 2, none⟩) HB4.out (by show w.heap.size ≤ w2.heap.size; omega) (.slice (some ⟨g4, 0, none⟩) (L.length + 1) c4)) (by show w.heap.size ≤ w2.heap.size; omega) (.int .i64 p)) (by show w.heap.size ≤ w2.heap.size; omega) (.int .i64 s)) (by show w.heap.size ≤ w.heap.size + 1 + 1; omega) (.int .i64 p)) (by show w.heap.size ≤ w.heap.size + 1 + 1; omega) (.int .i64 s)) (by show w.heap.size ≤ w.heap.size + 1 + 1; omega) (.slice (some ⟨g4, 0, none⟩) (L.length + 1) c4))
theorem specDo_any (B C : Nat) (p q k x y : Int) (L : List (Int × Int)) (v : Value) (w : World) (h : IsPairs B C w v L) (hn : L.length ≤ 1048600) :
   Calls Tryz.prog 63 #[.agg #[.int .i64 p, .int .i64 q, v], .agg #[.int .i64 k, .int .i64 x, .int .i64 y]] w (DidS ⟨(p, q), L⟩ ⟨k, x, y⟩ w) := by
 cases hd : deskN ⟨(p, q), L⟩ with
 | false => exact specDo_no B C p q k x y L v w h hn hd
 | true =>
   by_cases hb : k = 4 ∧ x = 0 ∧ y = 0
   · rcases List.eq_nil_or_concat L with hL | ⟨M, ⟨r, s⟩, hL⟩
     · exact specDo_none B C p q k x y L hb hL v w h hn hd
     · obtain ⟨rfl, rfl, rfl⟩ := hb
       exact specDo_back B C p q r s L M (by rw [hL, List.concat_eq_append]) v w h hn hd
   · by_cases hm : ∃ r s, madeN (p, q) ⟨k, x, y⟩ = some (r, s) ∧ pairB r s = true
     · obtain ⟨r, s, hm, hr⟩ := hm
       by_cases hrp : r = p
       · subst hrp
         by_cases hsq : s = q
         · subst hsq
           exact specDo_same B C _ _ k x y L hm v w h hn hd
         · exact specDo_doneq B C _ q k x y s L hm hr hsq v w h hn hd
       · exact specDo_done B C p q k x y r s L hm hr hrp v w h hn hd
     · refine specDo_not B C p q k x y L hb (fun r s h1 => ?_) v w h hn hd
       cases hp : pairB r s with
       | false => rfl
       | true => exact absurd ⟨r, s, h1, hp⟩ hm
end Go.Proofs.YtblphilcmfabkaaGreatDoor
