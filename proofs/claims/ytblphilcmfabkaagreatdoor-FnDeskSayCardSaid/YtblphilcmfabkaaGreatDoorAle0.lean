/- Contracts and laws that the statement's proof stands on, one text behind the other. -/
import Derived.Test.YtblphilcmfabkaaGreatDoorAla4
import Derived.Test.YtblphilcmfabkaaGreatDoorAlb0
import Derived.Deep.RegionWith
import Derived.Deep.Cut
import Derived.Deep.DeepCutAuto

namespace Go.Proofs.YtblphilcmfabkaaGreatDoor
section
open Go.RowKit Go.Shelf
set_option maxRecDepth 100000 in
set_option maxHeartbeats 2000000 in
theorem specSay_no (B C B' C' : Nat) (p q : Int) (L : List (Int × Int)) (X : List ByteArray) (v u : Value) (w : World) (h : IsPairs B C w v L) (hn : L.length ≤ 1048600) (k : IsStrs B' C' w u X.length (txtAt X)) (hd : deskN ⟨(p, q), L⟩ = false) : Calls Tryz.prog 26 #[.agg #[.int .i64 p, .int .i64 q, v], u] w (SayS ⟨(p, q), L⟩ X w) := by
 obtain ⟨a, cap, rfl, hC, hs0⟩ := id h
 obtain ⟨b, cbp, rfl, hC', hs1⟩ := id k
 clear hs0 hs1
 have H := Lib.hid h
 have K := Lib.hid k
 have HD := Lib.hid hd
 clear h k hd
 have hli : True := trivial
 go_enter Tryz.func26, Tryz.ntmps26
 go_wp2_with fail
 refine (specDeskOk_any B C p q _ _ _ (H.out.below (show Below w.heap.size w _ by exact zb) hC) hn).mono ?_
 rintro e w1 ⟨rfl, hb1⟩
 obtain ⟨hc1, hf1⟩ := bcell hb1
 have hz1 := hb1.size
 simp at hz1
 have hz1a : w.heap.size < w1.heap.size := by omega
 have hz1b : w.heap.size + 1 < w1.heap.size := by omega
 have hz1c : w.heap.size + 2 < w1.heap.size := by omega
 have HB1 := Lib.hid (show Below w.heap.size w w1 by exact zb)
 rw [HD.out]
 clear hb1
 go_wp2_with fail
 refine bodyPost_ret (v := .tuple #[.agg #[.int .i64 0, .int .i64 0, .slice none 0 0], .slice (some ⟨w.heap.size + 2, 0, none⟩) 0 0]) (by simp [results, Tryz.results26, go_sem]; go_simp) rfl ?_
 unfold SayS
 rw [sayR_no (by have := HD.out; simp_all <;> omega)]
 refine ⟨none, 0, _, _, w.heap.size, w.heap.size, w.heap.size, w.heap.size, rfl, ?_, ?_, ⟨Nat.le_refl _, Nat.le_refl _, .inl (Nat.le_refl _)⟩, ?_⟩
 · exact ⟨none, 0, rfl, by simp [World.setCell]; omega, .inl rfl⟩
 · exact ⟨_, _, rfl, by simp [World.setCell]; omega, .inl rfl⟩
 · exact (((HB1.out.setCell zs _).setCell zs _).setCell zs _)
set_option maxRecDepth 100000 in
set_option maxHeartbeats 2000000 in
theorem specSay_long (B C B' C' : Nat) (p q : Int) (L : List (Int × Int)) (X : List ByteArray) (v u : Value) (w : World) (h : IsPairs B C w v L) (hn : L.length ≤ 1048600) (k : IsStrs B' C' w u X.length (txtAt X)) (hd : deskN ⟨(p, q), L⟩ = true) (hl : 40 < X.length) : Calls Tryz.prog 26 #[.agg #[.int .i64 p, .int .i64 q, v], u] w (SayS ⟨(p, q), L⟩ X w) := by
 obtain ⟨a, cap, rfl, hC, hs0⟩ := id h
 obtain ⟨b, cbp, rfl, hC', hs1⟩ := id k
 clear hs0 hs1
 have H := Lib.hid h
 have K := Lib.hid k
 have HD := Lib.hid hd
 clear h k hd
 have hli : (40 : Int) < (X.length : Int) := by omega
 go_enter Tryz.func26, Tryz.ntmps26
 go_wp2_with fail
 refine (specDeskOk_any B C p q _ _ _ (H.out.below (show Below w.heap.size w _ by exact zb) hC) hn).mono ?_
 rintro e w1 ⟨rfl, hb1⟩
 obtain ⟨hc1, hf1⟩ := bcell hb1
 have hz1 := hb1.size
 simp at hz1
 have hz1a : w.heap.size < w1.heap.size := by omega
 have hz1b : w.heap.size + 1 < w1.heap.size := by omega
 have hz1c : w.heap.size + 2 < w1.heap.size := by omega
 have HB1 := Lib.hid (show Below w.heap.size w w1 by exact zb)
 rw [HD.out]
 clear hb1
 go_wp2_with fail
 refine bodyPost_ret (v := .tuple #[.agg #[.int .i64 0, .int .i64 0, .slice none 0 0], .slice (some ⟨w.heap.size + 2, 0, none⟩) 0 0]) (by simp [results, Tryz.results26, go_sem]; go_simp) rfl ?_
 unfold SayS
 rw [sayR_no (by have := HD.out; simp_all <;> omega)]
 refine ⟨none, 0, _, _, w.heap.size, w.heap.size, w.heap.size, w.heap.size, rfl, ?_, ?_, ⟨Nat.le_refl _, Nat.le_refl _, .inl (Nat.le_refl _)⟩, ?_⟩
 · exact ⟨none, 0, rfl, by simp [World.setCell]; omega, .inl rfl⟩
 · exact ⟨_, _, rfl, by simp [World.setCell]; omega, .inl rfl⟩
 · exact (((HB1.out.setCell zs _).setCell zs _).setCell zs _)
set_option maxRecDepth 100000 in
set_option maxHeartbeats 4000000 in
theorem specSay_yes (B C B' C' : Nat) (p q : Int) (L : List (Int × Int)) (X : List ByteArray) (v u : Value) (w : World) (h : IsPairs B C w v L) (hn : L.length ≤ 1048600) (k : IsStrs B' C' w u X.length (txtAt X)) (hz : ∀ i, i < X.length → (txtAt X i).size ≤ 1048600) (hd : deskN ⟨(p, q), L⟩ = true) (hl : X.length ≤ 40) : Calls Tryz.prog 26 #[.agg #[.int .i64 p, .int .i64 q, v], u] w (SayS ⟨(p, q), L⟩ X w) := by
 obtain ⟨i0, hi0, hz0, hzs1, hz2'⟩ := info_parts info_txt
 obtain ⟨a, cap, rfl, hC, hs0⟩ := id h
 obtain ⟨b, cbp, rfl, hC', hs1⟩ := id k
 clear hs0 hs1
 have H := Lib.hid h
 have K := Lib.hid k
 have HD := Lib.hid hd
 clear h k hd
 have hli : (X.length : Int) ≤ 40 := by omega
 have hl0 : decide ((40 : Int) < (X.length : Int)) = false := by simp; omega
 go_enter Tryz.func26, Tryz.ntmps26
 go_wp2_with fail
 refine (specDeskOk_any B C p q _ _ _ (H.out.below (show Below w.heap.size w _ by exact zb) hC) hn).mono ?_
 rintro e w1 ⟨rfl, hb1⟩
 obtain ⟨hc1, hf1⟩ := bcell hb1
 have hz1 := hb1.size
 simp at hz1
 have hz1a : w.heap.size < w1.heap.size := by omega
 have hz1b : w.heap.size + 1 < w1.heap.size := by omega
 have hz1c : w.heap.size + 2 < w1.heap.size := by omega
 have HB1 := Lib.hid (show Below w.heap.size w w1 by exact zb)
 rw [HD.out]
 have HO1 := Lib.hid (own_keeps (show (((w.alloc (.cells #[.int .i64 p, .int .i64 q, .slice a L.length cap] 32)).alloc (.cells #[.int .i64 0, .int .i64 0, .slice none 0 0] 32)).alloc (.cells #[] 9)).ownsRow (w.heap.size + 2) 9 1 (.slice (some ⟨w.heap.size + 2, 0, none⟩) 0 0) 0 [] from by
   have := World.ownsRow_made ((w.alloc (.cells #[.int .i64 p, .int .i64 q, .slice a L.length cap] 32)).alloc (.cells #[.int .i64 0, .int .i64 0, .slice none 0 0] 32)) (base := w.heap.size + 2) (e := 9) (size := 1) #[] 0 (by simp) (by unfold maxLen; omega) rfl
   simpa using this) hb1)
 clear hb1
 go_wp2_with fail
 refine (specCopy_any B C p q _ _ _ (H.out.below HB1.out hC) hn).mono ?_
 rintro e w2 ⟨a2, c2, rfl, hown2, hb2⟩
 dsimp only at hown2 ⊢
 obtain ⟨hc2, hf2⟩ := bcell hb2
 have hz2 := hb2.size
 have hz2a : w.heap.size < w2.heap.size := by omega
 have hz2b : w.heap.size + 1 < w2.heap.size := by omega
 have HB2 := Lib.hid (HB1.out.trans (hb2.mono HB1.out.size))
 have HI2 := Lib.hid (IsPairs.of_owns hown2)
 have kr0 : w2.cell? ⟨w.heap.size + 1, 0, none⟩ = some (.int .i64 0) := by go_simp
 have kr1 : w2.cell? ⟨w.heap.size + 1, 1, none⟩ = some (.int .i64 0) := by go_simp
 have kr2 : w2.cell? ⟨w.heap.size + 1, 2, none⟩ = some (.slice none 0 0) := by go_simp
 have kt0 : w2.frozen? ⟨w.heap.size + 1, 0, none⟩ = false := by go_simp
 have kt1 : w2.frozen? ⟨w.heap.size + 1, 1, none⟩ = false := by go_simp
 have kt2 : w2.frozen? ⟨w.heap.size + 1, 2, none⟩ = false := by go_simp
 have HO2 := Lib.hid (own_keeps HO1.out hb2)
 clear hb2 hown2 hc1 hf1 hc2 hf2
 have HR0 := Lib.hid (show sayV ⟨(p, q), L⟩ (X.take 0) = (⟨(p, q), L⟩, []) from rfl)
 go_wp2_with fail
 go_loopw [6, 8] (fun x6 x8 wr => ∃ (i : Nat) (dp dq : Int) (M : List (Int × Int)) (a3 : Option Addr) (c3 : Nat) (A : List ByteArray) (b4 : Option Addr) (c4 : Nat) (B1 C1 : Nat), i ≤ X.length ∧ Hid (A.length = i) ∧ Hid (sayV ⟨(p, q), L⟩ (X.take i) = (⟨(dp, dq), M⟩, A)) ∧ x6 = .slice b4 A.length c4 ∧ x8 = .int .i64 i ∧ wr.cell? ⟨w2.heap.size, 0, none⟩ = some (.int .i64 dp) ∧ wr.cell? ⟨w2.heap.size, 1, none⟩ = some (.int .i64 dq) ∧ wr.cell? ⟨w2.heap.size, 2, none⟩ = some (.slice a3 M.length c3) ∧ wr.frozen? ⟨w2.heap.size, 0, none⟩ = false ∧ wr.frozen? ⟨w2.heap.size, 1, none⟩ = false ∧ wr.frozen? ⟨w2.heap.size, 2, none⟩ = false ∧
     wr.cell? ⟨w.heap.size + 1, 0, none⟩ = some (.int .i64 0) ∧ wr.cell? ⟨w.heap.size + 1, 1, none⟩ = some (.int .i64 0) ∧ wr.cell? ⟨w.heap.size + 1, 2, none⟩ = some (.slice none 0 0) ∧ wr.frozen? ⟨w.heap.size + 1, 0, none⟩ = false ∧ wr.frozen? ⟨w.heap.size + 1, 1, none⟩ = false ∧ wr.frozen? ⟨w.heap.size + 1, 2, none⟩ = false ∧
     IsPairs B1 C1 wr (.slice a3 M.length c3) M ∧ w.heap.size + 2 ≤ B1 ∧ B1 ≤ C1 ∧ wr.ownsRow (w.heap.size + 2) 9 1 (.slice b4 A.length c4) A.length (byteC A) ∧ (∀ g, (Value.slice b4 A.length c4).ownBlock = some g → (g < B1 ∨ C1 ≤ g) ∧ g ≠ w2.heap.size) ∧ w2.heap.size < wr.heap.size ∧ Below w.heap.size w wr) (fun _ kk _ => X.length - (intOf kk).toNat)
 case atStart =>
   refine ⟨0, p, q, L, a2, c2, [], _, _, w1.heap.size, w2.heap.size, Nat.zero_le _, Lib.hid rfl, HR0, rfl, rfl, by go_simp, by go_simp, by go_simp, by go_simp, by go_simp, by go_simp, by go_simp, by go_simp, by go_simp, by go_simp, by go_simp, by go_simp, ?_, by omega, hz2, ?_, ?_, by simp <;> omega, ?_⟩
   · exact HI2.out.below ((Below.refl _ _).alloc (Nat.le_refl _) _) (Nat.le_refl _)
   · exact own_keeps HO2.out ((Below.refl _ _).alloc (Nat.le_refl _) _)
   · intro g e; simp [Value.ownBlock] at e; omega
   · exact HB2.out.alloc zO _
 case round =>
   obtain ⟨i, dp, dq, M, a3, c3, A, b4, c4, B1, C1, hi, HAi, HRN, rfl, rfl, b0, b1, b2, g0, g1, g2, r0, r1, r2, t0, t1, t2, hI, hB12, hBC, hO, hob, hzH, hB⟩ := hrel
   have hlk := hO.lt
   by_cases hlt : i < X.length
   · have hd0 : deskN ⟨(p, q), L⟩ = true := HD.out
     have hdi : deskN ⟨(dp, dq), M⟩ = true := by have := sayV_desk (X.take i) hd0; rwa [HRN.out] at this
     have hM8 : M.length ≤ 8 := (deskN_of hdi).2.1
     obtain ⟨s, hx⟩ : ∃ s, X[i]? = some s := ⟨X[i], by simp [hlt]⟩
     have hxs : txtAt X i = s := by unfold txtAt; rw [List.getD_eq_getElem?_getD, hx]; rfl
     have hss : s.size ≤ 1048600 := by have := hz i hlt; rwa [hxs] at this
     obtain ⟨_, _, hve, _, hks⟩ := id K.out
     cases hve
     rcases hks with hks | ⟨g, off, rfl, _, hg2, hc, _⟩
     · omega
     have x0 : wr.cell? ⟨g, off + i, none⟩ = some (.string s) := (hB.cell (p := ⟨g, off + i, none⟩) (by show g < _; omega)).trans ((hc i hlt).trans (by rw [hxs]))
     have hgr : g < wr.heap.size := by have := hB.size; omega
     have HNX := sayV_take (d := ⟨(p, q), L⟩) hx
     rw [HRN.out] at HNX
     dsimp only at HNX
     have hcall := fun (W : World) (D D' : Nat) (hI' : IsPairs D D' W (.slice a3 M.length c3) M) => specLine_any D D' dp dq M _ s W hI' zO zO
     unfold LineS at hcall
     have hii : (i : Int) < (X.length : Int) := by omega
     have i0' : (0 : Int) ≤ (i : Int) := by omega
     obtain ⟨rp, rq, R, ans, hres⟩ : ∃ rp rq R ans, lineV ⟨(dp, dq), M⟩ s.data.toList = (⟨(rp, rq), R⟩, ans) := ⟨_, _, _, _, rfl⟩
     rw [hres] at HNX hcall
     dsimp only at HNX hcall
     have HI := Lib.hid hI
     have HB := Lib.hid hB
     have HC := Lib.hid hcall
     have HO := Lib.hid hO
     have HNY : Hid (sayV ⟨(p, q), L⟩ (X.take (i + 1)) = (⟨(rp, rq), R⟩, A ++ [ans])) := Lib.hid HNX
     have W1 : IntKind.i64.wrap ((i : Int) + 1) = (i : Int) + 1 := by rw [IntKind.wrap_i64]; omega
     have hwz := hB.size
     clear hI hB hcall hres hc hx hd0 hdi HNX hO hxs
     go_wp2_with fail
     go_cut [9, 10] from 30 to 38 (fun s9 s10 wx => ∃ (b9 : Nat) (a5 : Option Addr) (c5 : Nat), s9 = .pointer (some ⟨b9, 0, none⟩) ∧ s10 = .string ans ∧ (wr.heap.size ≤ b9 ∧ b9 < wx.heap.size) ∧ wx.cell? ⟨b9, 0, none⟩ = some (.int .i64 rp) ∧ wx.cell? ⟨b9, 1, none⟩ = some (.int .i64 rq) ∧ wx.cell? ⟨b9, 2, none⟩ = some (.slice a5 R.length c5) ∧ IsPairs wr.heap.size wx.heap.size wx (.slice a5 R.length c5) R ∧ Below wr.heap.size wr wx)
     case first =>
       go_region_with (go_at_call 21; refine (HC.out _ _ _ (HI.out.below (show Below wr.heap.size wr _ by (repeat (first | exact Below.refl _ _ | refine Below.alloc ?_ zo _ | refine Below.drew ?_))) (by have := HI.out; obtain ⟨_, _, _, hC9, _⟩ := this; exact hC9))).mono ?_; rintro e w5 ⟨a5, c5, rfl, hI5, hb5⟩; obtain ⟨hc5, hf5⟩ := bcell hb5; have hz5 := hb5.size; (try simp at hz5); have hI6 : IsPairs wr.heap.size w5.heap.size w5 _ _ := hI5.mono (by simp) (Nat.le_refl _) (Nat.le_refl _); (first | (have hI7 : IsPairs (wr.heap.size + 1) w5.heap.size w5 _ _ := hI5.mono (by first | (simp; done) | fail) (Nat.le_refl _) (Nat.le_refl _)) | skip))
       all_goals (go_wp2_with fail; go_meet)
       all_goals
         case rel =>
           refine ⟨_, a5, c5, rfl, rfl, ⟨?_, ?_⟩, ?_, ?_, ?_, ?_, ?_⟩
           · first | omega | (simp <;> omega)
           · first | omega | (simp <;> omega)
           · go_simp
           · go_simp
           · go_simp
           · first
               | (refine IsPairs.mono (B := wr.heap.size) (C := w5.heap.size) ?_ (Nat.le_refl _) (by simp) (Nat.le_refl _); (repeat (first | exact hI6 | refine IsPairs.set2 ?_ (by first | omega | (simp <;> omega) | fail) _ | refine IsPairs.allocd ?_ _)); done)
               | (refine IsPairs.mono (B := wr.heap.size + 1) (C := w5.heap.size) ?_ zO (by simp) (Nat.le_refl _); (repeat (first | exact hI7 | refine IsPairs.set2 ?_ (by first | omega | (simp <;> omega) | fail) _ | refine IsPairs.allocd ?_ _)); done)
           · exact zb
     case rest =>
       rename World => wx
       obtain ⟨b9, a5, c5, rfl, rfl, ⟨hb9, hb9'⟩, d0, d1, d2, hI5, hb5⟩ := hcut
       have hh9 : ¬ b9 = w2.heap.size := by omega
       have hh8 : ¬ w2.heap.size = b9 := by omega
       have hzc : w.heap.size + 1 < wr.heap.size := by omega
       have HI5 := Lib.hid hI5
       have hz5 := hb5.size
       have hzx : w2.heap.size < wx.heap.size := by omega
       have hzx1 : w.heap.size + 1 < wx.heap.size := by omega
       have b0' := cell_belowP hb5 b0
       have b1' := cell_belowP hb5 b1
       have b2' := cell_belowP hb5 b2
       have g0' := (hb5.frozen (p := ⟨w2.heap.size, 0, none⟩) hzH).trans g0
       have g1' := (hb5.frozen (p := ⟨w2.heap.size, 1, none⟩) hzH).trans g1
       have g2' := (hb5.frozen (p := ⟨w2.heap.size, 2, none⟩) hzH).trans g2
       have r0' := cell_belowP hb5 r0
       have r1' := cell_belowP hb5 r1
       have r2' := cell_belowP hb5 r2
       have t0' := (hb5.frozen (p := ⟨w.heap.size + 1, 0, none⟩) hzc).trans t0
       have t1' := (hb5.frozen (p := ⟨w.heap.size + 1, 1, none⟩) hzc).trans t1
       have t2' := (hb5.frozen (p := ⟨w.heap.size + 1, 2, none⟩) hzc).trans t2
       have HB5 := Lib.hid hb5
       have HO5 := Lib.hid (own_keeps HO.out hb5)
       clear hI5 hb5 b0 b1 b2 g0 g1 g2 r0 r1 r2 t0 t1 t2 HC HO HI x0
       have HO6 := Lib.hid (HO5.out.kept (gr3 wx w2.heap.size (.int .i64 rp) (.int .i64 rq) (.slice a5 R.length c5)) (own_other (fun g e => (hob g e).2)))
       have HI6 := Lib.hid (((HI5.out.set (p := ⟨w2.heap.size, 0, none⟩) hzH (.int .i64 rp)).set (p := ⟨w2.heap.size, 1, none⟩) hzH (.int .i64 rq)).set (p := ⟨w2.heap.size, 2, none⟩) hzH (.slice a5 R.length c5))
       go_wp2_with (at_builtin; refine wpList_append_own_at _ rfl _ _ 49 rfl (w.heap.size + 2) 9 i0 (.string ⟨#[]⟩) 1 16 Tryz.underlying49 hi0 hz0 hzs1 hz2' rfl zd (.slice b4 A.length c4) A.length (byteC A) rfl (HO6.out.alloc _) ⟨wx.heap.size, 0, none⟩ 1 1 [.string ans] rfl rfl (by have := cell_one_new ((((wx.setCell ⟨w2.heap.size, 0, none⟩ (.int .i64 rp)).setCell ⟨w2.heap.size, 1, none⟩ (.int .i64 rq)).setCell ⟨w2.heap.size, 2, none⟩ (.slice a5 R.length c5))) (.string ans) 9; simpa [World.setCell] using this) (by simp [Value.oneCell']) (by have := HAi.out; unfold maxLen; omega) (by have := HAi.out; omega) (by simp [World.setCell]; omega) ?_)
       intro v7 w7 hown7 hgrow7 _ hat7
       have hz7 := hgrow7.size
       simp [World.setCell] at hz7
       obtain ⟨a7, c7, rfl⟩ := own_shape hown7
       rw [byteC_snoc] at hown7
       have HO7 := Lib.hid hown7
       have HI7 := Lib.hid (pairs_beside (HI6.out.below ((Below.refl _ _).alloc (Nat.le_refl _) (.cells #[.string ans] 9)) (by simp [World.setCell])) hgrow7 (fun g e => .inl (hlk g e).2))
       have HB7 := Lib.hid (show Below w.heap.size w w7 from (((((HB.out.trans (HB5.out.mono hwz)).setCell zs _).setCell zs _).setCell zs _).alloc (by simp [World.setCell]; omega) _).grown hgrow7 (by simp [World.setCell]; omega) (fun g e => by have := (hlk g e).1; omega))
       have hfar : ∀ (bb o : Nat), bb < wx.heap.size → (∀ g, (Value.slice b4 A.length c4).ownBlock = some g → g ≠ bb) → w7.cell? ⟨bb, o, none⟩ = ((((wx.setCell ⟨w2.heap.size, 0, none⟩ (.int .i64 rp)).setCell ⟨w2.heap.size, 1, none⟩ (.int .i64 rq)).setCell ⟨w2.heap.size, 2, none⟩ (.slice a5 R.length c5)).alloc (.cells #[.string ans] 9)).cell? ⟨bb, o, none⟩ ∧ w7.frozen? ⟨bb, o, none⟩ = ((((wx.setCell ⟨w2.heap.size, 0, none⟩ (.int .i64 rp)).setCell ⟨w2.heap.size, 1, none⟩ (.int .i64 rq)).setCell ⟨w2.heap.size, 2, none⟩ (.slice a5 R.length c5)).alloc (.cells #[.string ans] 9)).frozen? ⟨bb, o, none⟩ := fun bb o hb hne => ⟨hgrow7.cell_far ⟨bb, o, none⟩ (by simp [World.setCell]; omega) (fun e => hne bb e.symm rfl), hgrow7.frozen_far ⟨bb, o, none⟩ (by simp [World.setCell]; omega) (fun e => hne bb e.symm rfl)⟩
       have hn2 : ∀ g, (Value.slice b4 A.length c4).ownBlock = some g → g ≠ w2.heap.size := fun g e => (hob g e).2
       have hn1 : ∀ g, (Value.slice b4 A.length c4).ownBlock = some g → g ≠ w.heap.size + 1 := fun g e => by have := (hlk g e).1; omega
       have e0 : w7.cell? ⟨w2.heap.size, 0, none⟩ = some (.int .i64 rp) := ((hfar _ 0 zO hn2).1).trans (by go_simp)
       have e1 : w7.cell? ⟨w2.heap.size, 1, none⟩ = some (.int .i64 rq) := ((hfar _ 1 zO hn2).1).trans (by go_simp)
       have e2 : w7.cell? ⟨w2.heap.size, 2, none⟩ = some (.slice a5 R.length c5) := ((hfar _ 2 zO hn2).1).trans (by go_simp)
       have f0 : w7.frozen? ⟨w2.heap.size, 0, none⟩ = false := ((hfar _ 0 zO hn2).2).trans (by go_simp)
       have f1 : w7.frozen? ⟨w2.heap.size, 1, none⟩ = false := ((hfar _ 1 zO hn2).2).trans (by go_simp)
       have f2 : w7.frozen? ⟨w2.heap.size, 2, none⟩ = false := ((hfar _ 2 zO hn2).2).trans (by go_simp)
       have q0 : w7.cell? ⟨w.heap.size + 1, 0, none⟩ = some (.int .i64 0) := ((hfar _ 0 zO hn1).1).trans (by go_simp)
       have q1 : w7.cell? ⟨w.heap.size + 1, 1, none⟩ = some (.int .i64 0) := ((hfar _ 1 zO hn1).1).trans (by go_simp)
       have q2 : w7.cell? ⟨w.heap.size + 1, 2, none⟩ = some (.slice none 0 0) := ((hfar _ 2 zO hn1).1).trans (by go_simp)
       have p0 : w7.frozen? ⟨w.heap.size + 1, 0, none⟩ = false := ((hfar _ 0 zO hn1).2).trans (by go_simp)
       have p1 : w7.frozen? ⟨w.heap.size + 1, 1, none⟩ = false := ((hfar _ 1 zO hn1).2).trans (by go_simp)
       have p2 : w7.frozen? ⟨w.heap.size + 1, 2, none⟩ = false := ((hfar _ 2 zO hn1).2).trans (by go_simp)
       have hob7 : ∀ g, (Value.slice a7 (A.length + 1) c7).ownBlock = some g → (g < wr.heap.size ∨ wx.heap.size ≤ g) ∧ g ≠ w2.heap.size := by
         intro g e
         rcases hat7 with h7 | h7
         · rw [h7] at e; exact ⟨.inl (hlk g e).2, (hob g e).2⟩
         · rw [h7] at e; simp at e; omega
       clear hown7 hgrow7 hat7 hfar hn1 hn2 d0 d1 d2 b0' b1' b2' g0' g1' g2' r0' r1' r2' t0' t1' t2' HI5 HI6 HO5 HO6 HB HB5
       go_wp2
       go_roundw
       case rel => exact ⟨i + 1, rp, rq, R, a5, c5, A ++ [ans], a7, c7, wr.heap.size, wx.heap.size, by omega, Lib.hid (by have := HAi.out; simp; omega), HNY, by simp, congrArg (Value.int .i64) zO, e0, e1, e2, f0, f1, f2, q0, q1, q2, p0, p1, p2, HI7.out, by omega, hz5, by simpa using HO7.out, by simpa using hob7, by omega, HB7.out⟩
       case measure => simp [intOf]; omega
   · obtain rfl : i = X.length := by omega
     have hli2 : ¬ ((X.length : Int) < (X.length : Int)) := by omega
     have HB := Lib.hid hB
     have HI := Lib.hid hI
     have HO := Lib.hid hO
     clear hB hI hO
     go_wp2_with fail
     refine bodyPost_ret (v := .tuple #[.agg #[.int .i64 dp, .int .i64 dq, .slice a3 M.length c3], .slice b4 A.length c4]) (by simp [results, Tryz.results26, go_sem]; go_simp) rfl ?_
     unfold SayS
     rw [sayR_yes HD.out hl, show sayV ⟨(p, q), L⟩ X = (⟨(dp, dq), M⟩, A) by have := HRN.out; rwa [List.take_length] at this]
     dsimp only
     have hwz := HB.out.size
     have hC1 : C1 ≤ wr.heap.size := by obtain ⟨_, _, _, hC, _⟩ := id HI.out; exact hC
     have hI9 := (((HI.out.set (p := ⟨w.heap.size + 1, 0, none⟩) (by show w.heap.size + 1 < _; omega) (.int .i64 dp)).set (p := ⟨w.heap.size + 1, 1, none⟩) (by show w.heap.size + 1 < _; omega) (.int .i64 dq)).set (p := ⟨w.heap.size + 1, 2, none⟩) (by show w.heap.size + 1 < _; omega) (.slice a3 M.length c3))
     have hS9 := strs_of (HO.out.kept (gr3 wr (w.heap.size + 1) (.int .i64 dp) (.int .i64 dq) (.slice a3 M.length c3)) (own_not HO.out zO)) (fun g e => by simp [World.setCell]; exact (hlk g e).2)
     rcases hS9 with ⟨B2, C2, hS9, hB2, hap⟩
     exact ⟨a3, c3, b4, c4, B1, C1, B2, C2, rfl, hI9, hS9, ⟨by omega, by omega, hap B1 C1 hBC (fun g e => (hob g e).1)⟩, ((HB.out.setCell zs _).setCell zs _).setCell zs _⟩
theorem specSay_any (B C B' C' : Nat) (p q : Int) (L : List (Int × Int)) (X : List ByteArray) (v u : Value) (w : World) (h : IsPairs B C w v L) (hn : L.length ≤ 1048600) (k : IsStrs B' C' w u X.length (txtAt X)) (hz : ∀ i, i < X.length → (txtAt X i).size ≤ 1048600) : Calls Tryz.prog 26 #[.agg #[.int .i64 p, .int .i64 q, v], u] w (SayS ⟨(p, q), L⟩ X w) := by
 cases hd : deskN ⟨(p, q), L⟩ with
 | false => exact specSay_no B C B' C' p q L X v u w h hn k hd
 | true =>
   rcases Nat.lt_or_ge 40 X.length with hl | hl
   · exact specSay_long B C B' C' p q L X v u w h hn k hd hl
   · exact specSay_yes B C B' C' p q L X v u w h hn k hz hd hl
end
section
open Go.RowKit Go.Shelf
set_option maxRecDepth 100000 in
set_option maxHeartbeats 2000000 in
theorem implSay_no (B C B' C' : Nat) (p q : Int) (L : List (Int × Int)) (X : List ByteArray) (v u : Value) (w : World) (h : IsPairs B C w v L) (hn : L.length ≤ 1048600) (k : IsStrs B' C' w u X.length (txtAt X)) (hd : deskN ⟨(p, q), L⟩ = false) : Calls Tryz.prog 25 #[.agg #[.int .i64 p, .int .i64 q, v], u] w (SayS ⟨(p, q), L⟩ X w) := by
 obtain ⟨a, cap, rfl, hC, hs0⟩ := id h
 obtain ⟨b, cbp, rfl, hC', hs1⟩ := id k
 clear hs0 hs1
 have H := Lib.hid h
 have K := Lib.hid k
 have HD := Lib.hid hd
 clear h k hd
 have hli : True := trivial
 go_enter Tryz.func25, Tryz.ntmps25
 go_wp2_with fail
 refine (implDeskOk_any B C p q _ _ _ (H.out.below (show Below w.heap.size w _ by exact zb) hC) hn).mono ?_
 rintro e w1 ⟨rfl, hb1⟩
 obtain ⟨hc1, hf1⟩ := bcell hb1
 have hz1 := hb1.size
 simp at hz1
 have hz1a : w.heap.size < w1.heap.size := by omega
 have hz1b : w.heap.size + 1 < w1.heap.size := by omega
 skip
 have HB1 := Lib.hid (show Below w.heap.size w w1 by exact zb)
 rw [HD.out]
 clear hb1
 go_wp2_with fail
 refine bodyPost_ret (v := .tuple #[.agg #[.int .i64 0, .int .i64 0, .slice none 0 0], .slice none 0 0]) (by simp [results, Tryz.results25, go_sem]; go_simp) rfl ?_
 unfold SayS
 rw [sayR_no (by have := HD.out; simp_all <;> omega)]
 refine ⟨none, 0, _, _, w.heap.size, w.heap.size, w.heap.size, w.heap.size, rfl, ?_, ?_, ⟨Nat.le_refl _, Nat.le_refl _, .inl (Nat.le_refl _)⟩, ?_⟩
 · exact ⟨none, 0, rfl, by simp [World.setCell]; omega, .inl rfl⟩
 · exact ⟨_, _, rfl, by simp [World.setCell]; omega, .inl rfl⟩
 · exact (((HB1.out.setCell zs _).setCell zs _).setCell zs _)
set_option maxRecDepth 100000 in
set_option maxHeartbeats 2000000 in
theorem implSay_long (B C B' C' : Nat) (p q : Int) (L : List (Int × Int)) (X : List ByteArray) (v u : Value) (w : World) (h : IsPairs B C w v L) (hn : L.length ≤ 1048600) (k : IsStrs B' C' w u X.length (txtAt X)) (hd : deskN ⟨(p, q), L⟩ = true) (hl : 40 < X.length) : Calls Tryz.prog 25 #[.agg #[.int .i64 p, .int .i64 q, v], u] w (SayS ⟨(p, q), L⟩ X w) := by
 obtain ⟨a, cap, rfl, hC, hs0⟩ := id h
 obtain ⟨b, cbp, rfl, hC', hs1⟩ := id k
 clear hs0 hs1
 have H := Lib.hid h
 have K := Lib.hid k
 have HD := Lib.hid hd
 clear h k hd
 have hli : (40 : Int) < (X.length : Int) := by omega
 go_enter Tryz.func25, Tryz.ntmps25
 go_wp2_with fail
 refine (implDeskOk_any B C p q _ _ _ (H.out.below (show Below w.heap.size w _ by exact zb) hC) hn).mono ?_
 rintro e w1 ⟨rfl, hb1⟩
 obtain ⟨hc1, hf1⟩ := bcell hb1
 have hz1 := hb1.size
 simp at hz1
 have hz1a : w.heap.size < w1.heap.size := by omega
 have hz1b : w.heap.size + 1 < w1.heap.size := by omega
 skip
 have HB1 := Lib.hid (show Below w.heap.size w w1 by exact zb)
 rw [HD.out]
 clear hb1
 go_wp2_with fail
 refine bodyPost_ret (v := .tuple #[.agg #[.int .i64 0, .int .i64 0, .slice none 0 0], .slice none 0 0]) (by simp [results, Tryz.results25, go_sem]; go_simp) rfl ?_
 unfold SayS
 rw [sayR_no (by have := HD.out; simp_all <;> omega)]
 refine ⟨none, 0, _, _, w.heap.size, w.heap.size, w.heap.size, w.heap.size, rfl, ?_, ?_, ⟨Nat.le_refl _, Nat.le_refl _, .inl (Nat.le_refl _)⟩, ?_⟩
 · exact ⟨none, 0, rfl, by simp [World.setCell]; omega, .inl rfl⟩
 · exact ⟨_, _, rfl, by simp [World.setCell]; omega, .inl rfl⟩
 · exact (((HB1.out.setCell zs _).setCell zs _).setCell zs _)
set_option maxRecDepth 100000 in
set_option maxHeartbeats 4000000 in
theorem implSay_yes (B C B' C' : Nat) (p q : Int) (L : List (Int × Int)) (X : List ByteArray) (v u : Value) (w : World) (h : IsPairs B C w v L) (hn : L.length ≤ 1048600) (k : IsStrs B' C' w u X.length (txtAt X)) (hz : ∀ i, i < X.length → (txtAt X i).size ≤ 1048600) (hd : deskN ⟨(p, q), L⟩ = true) (hl : X.length ≤ 40) (ht : PowTab w) (he : Errs w) : Calls Tryz.prog 25 #[.agg #[.int .i64 p, .int .i64 q, v], u] w (SayS ⟨(p, q), L⟩ X w) := by
 obtain ⟨i0, hi0, hz0, hzs1, hz2'⟩ := info_parts info_txt
 obtain ⟨a, cap, rfl, hC, hs0⟩ := id h
 obtain ⟨b, cbp, rfl, hC', hs1⟩ := id k
 clear hs0 hs1
 have H := Lib.hid h
 have K := Lib.hid k
 have HD := Lib.hid hd
 clear h k hd
 have hli : (X.length : Int) ≤ 40 := by omega
 have hl0 : decide ((40 : Int) < (X.length : Int)) = false := by simp; omega
 have HT := Lib.hid ht
 have HE := Lib.hid he
 clear ht he
 go_enter Tryz.func25, Tryz.ntmps25
 go_wp2_with fail
 refine (implDeskOk_any B C p q _ _ _ (H.out.below (show Below w.heap.size w _ by exact zb) hC) hn).mono ?_
 rintro e w1 ⟨rfl, hb1⟩
 obtain ⟨hc1, hf1⟩ := bcell hb1
 have hz1 := hb1.size
 simp at hz1
 have hz1a : w.heap.size < w1.heap.size := by omega
 have hz1b : w.heap.size + 1 < w1.heap.size := by omega
 skip
 have HB1 := Lib.hid (show Below w.heap.size w w1 by exact zb)
 rw [HD.out]
 clear hb1
 go_wp2_with fail
 refine (deskWith_any B C p q L _ _ (H.out.below HB1.out hC) hn).mono ?_
 rintro e w2 ⟨a2, c2, rfl, hown2, hb2⟩
 dsimp only at hown2 ⊢
 obtain ⟨hc2, hf2⟩ := bcell hb2
 have hz2 := hb2.size
 have hz2a : w.heap.size < w2.heap.size := by omega
 have hz2b : w.heap.size + 1 < w2.heap.size := by omega
 have HB2 := Lib.hid (HB1.out.trans (hb2.mono HB1.out.size))
 have HI2 := Lib.hid (IsPairs.of_owns hown2)
 have kr0 : w2.cell? ⟨w.heap.size + 1, 0, none⟩ = some (.int .i64 0) := by go_simp
 have kr1 : w2.cell? ⟨w.heap.size + 1, 1, none⟩ = some (.int .i64 0) := by go_simp
 have kr2 : w2.cell? ⟨w.heap.size + 1, 2, none⟩ = some (.slice none 0 0) := by go_simp
 have kt0 : w2.frozen? ⟨w.heap.size + 1, 0, none⟩ = false := by go_simp
 have kt1 : w2.frozen? ⟨w.heap.size + 1, 1, none⟩ = false := by go_simp
 have kt2 : w2.frozen? ⟨w.heap.size + 1, 2, none⟩ = false := by go_simp
 clear hb2 hown2 hc1 hf1 hc2 hf2
 have HR0 := Lib.hid (show sayV ⟨(p, q), L⟩ (X.take 0) = (⟨(p, q), L⟩, []) from rfl)
 go_wp2_with fail
 go_loopw [7, 28] (fun x6 x8 wr => ∃ (i : Nat) (dp dq : Int) (M : List (Int × Int)) (a3 : Option Addr) (c3 : Nat) (A : List ByteArray) (b4 : Option Addr) (c4 : Nat) (B1 C1 : Nat), i ≤ X.length ∧ Hid (A.length = i) ∧ Hid (sayV ⟨(p, q), L⟩ (X.take i) = (⟨(dp, dq), M⟩, A)) ∧ x6 = .slice b4 A.length c4 ∧ x8 = .int .i64 i ∧ wr.cell? ⟨w2.heap.size, 0, none⟩ = some (.int .i64 dp) ∧ wr.cell? ⟨w2.heap.size, 1, none⟩ = some (.int .i64 dq) ∧ wr.cell? ⟨w2.heap.size, 2, none⟩ = some (.slice a3 M.length c3) ∧ wr.frozen? ⟨w2.heap.size, 0, none⟩ = false ∧ wr.frozen? ⟨w2.heap.size, 1, none⟩ = false ∧ wr.frozen? ⟨w2.heap.size, 2, none⟩ = false ∧
     wr.cell? ⟨w.heap.size + 1, 0, none⟩ = some (.int .i64 0) ∧ wr.cell? ⟨w.heap.size + 1, 1, none⟩ = some (.int .i64 0) ∧ wr.cell? ⟨w.heap.size + 1, 2, none⟩ = some (.slice none 0 0) ∧ wr.frozen? ⟨w.heap.size + 1, 0, none⟩ = false ∧ wr.frozen? ⟨w.heap.size + 1, 1, none⟩ = false ∧ wr.frozen? ⟨w.heap.size + 1, 2, none⟩ = false ∧
     IsPairs B1 C1 wr (.slice a3 M.length c3) M ∧ w.heap.size + 2 ≤ B1 ∧ B1 ≤ C1 ∧ wr.ownsRow (w.heap.size + 2) 9 1 (.slice b4 A.length c4) A.length (byteC A) ∧ (∀ g, (Value.slice b4 A.length c4).ownBlock = some g → (g < B1 ∨ C1 ≤ g) ∧ g ≠ w2.heap.size) ∧ w2.heap.size < wr.heap.size ∧ Below w.heap.size w wr) (fun _ kk _ => X.length - (intOf kk).toNat)
 case atStart =>
   refine ⟨0, p, q, L, a2, c2, [], _, _, w1.heap.size, w2.heap.size, Nat.zero_le _, Lib.hid rfl, HR0, rfl, rfl, by go_simp, by go_simp, by go_simp, by go_simp, by go_simp, by go_simp, by go_simp, by go_simp, by go_simp, by go_simp, by go_simp, by go_simp, ?_, by omega, hz2, ?_, ?_, by simp <;> omega, ?_⟩
   · exact HI2.out.below ((Below.refl _ _).alloc (Nat.le_refl _) _) (Nat.le_refl _)
   · exact World.ownsRow_nil _ _ _ _
   · intro g e; simp [Value.ownBlock] at e
   · exact HB2.out.alloc zO _
 case round =>
   obtain ⟨i, dp, dq, M, a3, c3, A, b4, c4, B1, C1, hi, HAi, HRN, rfl, rfl, b0, b1, b2, g0, g1, g2, r0, r1, r2, t0, t1, t2, hI, hB12, hBC, hO, hob, hzH, hB⟩ := hrel
   have hlk := hO.lt
   by_cases hlt : i < X.length
   · have hd0 : deskN ⟨(p, q), L⟩ = true := HD.out
     have hdi : deskN ⟨(dp, dq), M⟩ = true := by have := sayV_desk (X.take i) hd0; rwa [HRN.out] at this
     have hM8 : M.length ≤ 8 := (deskN_of hdi).2.1
     obtain ⟨s, hx⟩ : ∃ s, X[i]? = some s := ⟨X[i], by simp [hlt]⟩
     have hxs : txtAt X i = s := by unfold txtAt; rw [List.getD_eq_getElem?_getD, hx]; rfl
     have hss : s.size ≤ 1048600 := by have := hz i hlt; rwa [hxs] at this
     obtain ⟨_, _, hve, _, hks⟩ := id K.out
     cases hve
     rcases hks with hks | ⟨g, off, rfl, _, hg2, hc, _⟩
     · omega
     have x0 : wr.cell? ⟨g, off + i, none⟩ = some (.string s) := (hB.cell (p := ⟨g, off + i, none⟩) (by show g < _; omega)).trans ((hc i hlt).trans (by rw [hxs]))
     have hgr : g < wr.heap.size := by have := hB.size; omega
     have HNX := sayV_take (d := ⟨(p, q), L⟩) hx
     rw [HRN.out] at HNX
     dsimp only at HNX
     have hcall := fun (W : World) (D D' : Nat) (hI' : IsPairs D D' W (.slice a3 M.length c3) M) hT hE => implLine_any D D' dp dq M _ s W hI' zO zO hT hE
     unfold LineS at hcall
     have hii : (i : Int) < (X.length : Int) := by omega
     have i0' : (0 : Int) ≤ (i : Int) := by omega
     obtain ⟨rp, rq, R, ans, hres⟩ : ∃ rp rq R ans, lineV ⟨(dp, dq), M⟩ s.data.toList = (⟨(rp, rq), R⟩, ans) := ⟨_, _, _, _, rfl⟩
     rw [hres] at HNX hcall
     dsimp only at HNX hcall
     have HI := Lib.hid hI
     have HB := Lib.hid hB
     have HC := Lib.hid hcall
     have HO := Lib.hid hO
     have HNY : Hid (sayV ⟨(p, q), L⟩ (X.take (i + 1)) = (⟨(rp, rq), R⟩, A ++ [ans])) := Lib.hid HNX
     have W1 : IntKind.i64.wrap ((i : Int) + 1) = (i : Int) + 1 := by rw [IntKind.wrap_i64]; omega
     have hwz := hB.size
     clear hI hB hcall hres hc hx hd0 hdi HNX hO hxs
     have hC1 : C1 ≤ wr.heap.size := by obtain ⟨_, _, _, hC9, _⟩ := id HI.out; exact hC9
     go_wp2_with fail
     refine (HC.out _ _ _ (HI.out) (HT.out.below HB.out (Nat.le_refl _)) (HE.out.below HB.out (Nat.le_refl _))).mono ?_
     rintro e w5 ⟨a5, c5, rfl, hI5, hb5⟩
     have hz5 := hb5.size
     have hzH5 : w2.heap.size < w5.heap.size := by omega
     have hzc : w.heap.size + 1 < wr.heap.size := by omega
     have hzc5 : w.heap.size + 1 < w5.heap.size := by omega
     have hzw5 : w.heap.size < w5.heap.size := by omega
     have HB5 := Lib.hid hb5
     have HI5 := Lib.hid hI5
     have HO5 := Lib.hid (own_keeps HO.out hb5)
     have b0' := cell_belowP hb5 b0
     have b1' := cell_belowP hb5 b1
     have b2' := cell_belowP hb5 b2
     have g0' := (hb5.frozen (p := ⟨w2.heap.size, 0, none⟩) hzH).trans g0
     have g1' := (hb5.frozen (p := ⟨w2.heap.size, 1, none⟩) hzH).trans g1
     have g2' := (hb5.frozen (p := ⟨w2.heap.size, 2, none⟩) hzH).trans g2
     have r0' := cell_belowP hb5 r0
     have r1' := cell_belowP hb5 r1
     have r2' := cell_belowP hb5 r2
     have t0' := (hb5.frozen (p := ⟨w.heap.size + 1, 0, none⟩) hzc).trans t0
     have t1' := (hb5.frozen (p := ⟨w.heap.size + 1, 1, none⟩) hzc).trans t1
     have t2' := (hb5.frozen (p := ⟨w.heap.size + 1, 2, none⟩) hzc).trans t2
     clear hI5 hb5 b0 b1 b2 g0 g1 g2 r0 r1 r2 t0 t1 t2 HC HO HI x0
     go_wp2_with (at_builtin; refine wpList_append_own_at _ rfl _ _ 49 rfl (w.heap.size + 2) 9 i0 (.string ⟨#[]⟩) 1 16 Tryz.underlying49 hi0 hz0 hzs1 hz2' rfl zd (.slice b4 A.length c4) A.length (byteC A) rfl ((HO5.out.alloc _).alloc _) ⟨w5.heap.size + 1, 0, none⟩ 1 1 [.string ans] rfl rfl (by have := cell_one_new (w5.alloc (.cells #[.int .i64 rp, .int .i64 rq, .slice a5 R.length c5] 32)) (.string ans) 9; simpa using this) (by simp [Value.oneCell']) (by have := HAi.out; unfold maxLen; omega) (by have := HAi.out; omega) (by simp; omega) ?_)
     intro v7 w7 hown7 hgrow7 _ hat7
     have hz7 := hgrow7.size
     simp at hz7
     obtain ⟨a7, c7, rfl⟩ := own_shape hown7
     rw [byteC_snoc] at hown7
     have HO7 := Lib.hid hown7
     have HI7 := Lib.hid (pairs_beside ((HI5.out.allocd (.cells #[.int .i64 rp, .int .i64 rq, .slice a5 R.length c5] 32)).allocd (.cells #[.string ans] 9)) hgrow7 (fun g e => .inl (hlk g e).2))
     have HB7 := Lib.hid (show Below w.heap.size w w7 from (((HB.out.trans (HB5.out.mono hwz)).alloc zo _).alloc zo _).grown hgrow7 zo (fun g e => by have := (hlk g e).1; omega))
     have hfar : ∀ (bb o : Nat), bb ≤ w5.heap.size → (∀ g, (Value.slice b4 A.length c4).ownBlock = some g → g ≠ bb) → w7.cell? ⟨bb, o, none⟩ = ((w5.alloc (.cells #[.int .i64 rp, .int .i64 rq, .slice a5 R.length c5] 32)).alloc (.cells #[.string ans] 9)).cell? ⟨bb, o, none⟩ ∧ w7.frozen? ⟨bb, o, none⟩ = ((w5.alloc (.cells #[.int .i64 rp, .int .i64 rq, .slice a5 R.length c5] 32)).alloc (.cells #[.string ans] 9)).frozen? ⟨bb, o, none⟩ := fun bb o hb hne => ⟨hgrow7.cell_far ⟨bb, o, none⟩ (by simp; omega) (fun e => hne bb e.symm rfl), hgrow7.frozen_far ⟨bb, o, none⟩ (by simp; omega) (fun e => hne bb e.symm rfl)⟩
     have hn2 : ∀ g, (Value.slice b4 A.length c4).ownBlock = some g → g ≠ w2.heap.size := fun g e => (hob g e).2
     have hn1 : ∀ g, (Value.slice b4 A.length c4).ownBlock = some g → g ≠ w.heap.size + 1 := fun g e => by have := (hlk g e).1; omega
     have hn5 : ∀ g, (Value.slice b4 A.length c4).ownBlock = some g → g ≠ w5.heap.size := fun g e => by have := (hlk g e).2; omega
     have d0 : w7.cell? ⟨w5.heap.size, 0, none⟩ = some (.int .i64 rp) := ((hfar _ 0 zO hn5).1).trans (by go_simp)
     have d1 : w7.cell? ⟨w5.heap.size, 1, none⟩ = some (.int .i64 rq) := ((hfar _ 1 zO hn5).1).trans (by go_simp)
     have d2 : w7.cell? ⟨w5.heap.size, 2, none⟩ = some (.slice a5 R.length c5) := ((hfar _ 2 zO hn5).1).trans (by go_simp)
     have e0 : w7.cell? ⟨w2.heap.size, 0, none⟩ = some (.int .i64 dp) := ((hfar _ 0 zO hn2).1).trans (by go_simp)
     have e1 : w7.cell? ⟨w2.heap.size, 1, none⟩ = some (.int .i64 dq) := ((hfar _ 1 zO hn2).1).trans (by go_simp)
     have e2 : w7.cell? ⟨w2.heap.size, 2, none⟩ = some (.slice a3 M.length c3) := ((hfar _ 2 zO hn2).1).trans (by go_simp)
     have f0 : w7.frozen? ⟨w2.heap.size, 0, none⟩ = false := ((hfar _ 0 zO hn2).2).trans (by go_simp)
     have f1 : w7.frozen? ⟨w2.heap.size, 1, none⟩ = false := ((hfar _ 1 zO hn2).2).trans (by go_simp)
     have f2 : w7.frozen? ⟨w2.heap.size, 2, none⟩ = false := ((hfar _ 2 zO hn2).2).trans (by go_simp)
     have q0 : w7.cell? ⟨w.heap.size + 1, 0, none⟩ = some (.int .i64 0) := ((hfar _ 0 zO hn1).1).trans (by go_simp)
     have q1 : w7.cell? ⟨w.heap.size + 1, 1, none⟩ = some (.int .i64 0) := ((hfar _ 1 zO hn1).1).trans (by go_simp)
     have q2 : w7.cell? ⟨w.heap.size + 1, 2, none⟩ = some (.slice none 0 0) := ((hfar _ 2 zO hn1).1).trans (by go_simp)
     have p0 : w7.frozen? ⟨w.heap.size + 1, 0, none⟩ = false := ((hfar _ 0 zO hn1).2).trans (by go_simp)
     have p1 : w7.frozen? ⟨w.heap.size + 1, 1, none⟩ = false := ((hfar _ 1 zO hn1).2).trans (by go_simp)
     have p2 : w7.frozen? ⟨w.heap.size + 1, 2, none⟩ = false := ((hfar _ 2 zO hn1).2).trans (by go_simp)
     have hob7 : ∀ g, (Value.slice a7 (A.length + 1) c7).ownBlock = some g → (g < wr.heap.size ∨ w5.heap.size ≤ g) ∧ g ≠ w2.heap.size := by
       intro g e
       rcases hat7 with h7 | h7
       · rw [h7] at e; exact ⟨.inl (hlk g e).2, (hob g e).2⟩
       · rw [h7] at e; simp at e; omega
     clear hown7 hgrow7 hat7 hfar hn1 hn2 hn5 b0' b1' b2' g0' g1' g2' r0' r1' r2' t0' t1' t2' HI5 HO5 HB HB5
     have HO8 := Lib.hid (HO7.out.kept (gr3 w7 w2.heap.size (.int .i64 rp) (.int .i64 rq) (.slice a5 R.length c5)) (own_other (fun g e => (hob7 g (by simpa using e)).2)))
     have hz8 : w2.heap.size < w7.heap.size := by omega
     go_wp2
     go_roundw
     case rel => exact ⟨i + 1, rp, rq, R, a5, c5, A ++ [ans], a7, c7, wr.heap.size, w5.heap.size, by omega, Lib.hid (by have := HAi.out; simp; omega), HNY, by simp, congrArg (Value.int .i64) zO, by go_simp, by go_simp, by go_simp, by go_simp, by go_simp, by go_simp, by go_simp, by go_simp, by go_simp, by go_simp, by go_simp, by go_simp, ((HI7.out.set (p := ⟨w2.heap.size, 0, none⟩) hzH (.int .i64 rp)).set (p := ⟨w2.heap.size, 1, none⟩) hzH (.int .i64 rq)).set (p := ⟨w2.heap.size, 2, none⟩) hzH (.slice a5 R.length c5), by omega, hz5, by simpa using HO8.out, by simpa using hob7, by simp [World.setCell]; omega, ((HB7.out.setCell zs _).setCell zs _).setCell zs _⟩
     case measure => simp [intOf]; omega
   · obtain rfl : i = X.length := by omega
     have hli2 : ¬ ((X.length : Int) < (X.length : Int)) := by omega
     have HB := Lib.hid hB
     have HI := Lib.hid hI
     have HO := Lib.hid hO
     clear hB hI hO
     go_wp2_with fail
     refine bodyPost_ret (v := .tuple #[.agg #[.int .i64 dp, .int .i64 dq, .slice a3 M.length c3], .slice b4 A.length c4]) (by simp [results, Tryz.results25, go_sem]; go_simp) rfl ?_
     unfold SayS
     rw [sayR_yes HD.out hl, show sayV ⟨(p, q), L⟩ X = (⟨(dp, dq), M⟩, A) by have := HRN.out; rwa [List.take_length] at this]
     dsimp only
     have hwz := HB.out.size
     have hC1 : C1 ≤ wr.heap.size := by obtain ⟨_, _, _, hC, _⟩ := id HI.out; exact hC
     have hI9 := (((HI.out.set (p := ⟨w.heap.size + 1, 0, none⟩) (by show w.heap.size + 1 < _; omega) (.int .i64 dp)).set (p := ⟨w.heap.size + 1, 1, none⟩) (by show w.heap.size + 1 < _; omega) (.int .i64 dq)).set (p := ⟨w.heap.size + 1, 2, none⟩) (by show w.heap.size + 1 < _; omega) (.slice a3 M.length c3))
     have hS9 := strs_of (HO.out.kept (gr3 wr (w.heap.size + 1) (.int .i64 dp) (.int .i64 dq) (.slice a3 M.length c3)) (own_not HO.out zO)) (fun g e => by simp [World.setCell]; exact (hlk g e).2)
     rcases hS9 with ⟨B2, C2, hS9, hB2, hap⟩
     exact ⟨a3, c3, b4, c4, B1, C1, B2, C2, rfl, hI9, hS9, ⟨by omega, by omega, hap B1 C1 hBC (fun g e => (hob g e).1)⟩, ((HB.out.setCell zs _).setCell zs _).setCell zs _⟩
theorem implSay_any (B C B' C' : Nat) (p q : Int) (L : List (Int × Int)) (X : List ByteArray) (v u : Value) (w : World) (h : IsPairs B C w v L) (hn : L.length ≤ 1048600) (k : IsStrs B' C' w u X.length (txtAt X)) (hz : ∀ i, i < X.length → (txtAt X i).size ≤ 1048600) (ht : PowTab w) (he : Errs w) : Calls Tryz.prog 25 #[.agg #[.int .i64 p, .int .i64 q, v], u] w (SayS ⟨(p, q), L⟩ X w) := by
 cases hd : deskN ⟨(p, q), L⟩ with
 | false => exact implSay_no B C B' C' p q L X v u w h hn k hd
 | true =>
   rcases Nat.lt_or_ge 40 X.length with hl | hl
   · exact implSay_long B C B' C' p q L X v u w h hn k hd hl
   · exact implSay_yes B C B' C' p q L X v u w h hn k hz hd hl ht he
end
end Go.Proofs.YtblphilcmfabkaaGreatDoor
