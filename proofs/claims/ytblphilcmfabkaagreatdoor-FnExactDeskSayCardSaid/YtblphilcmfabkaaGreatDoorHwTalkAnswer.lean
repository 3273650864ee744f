/- Contracts and laws that the statement's proof stands on, one text behind the other. -/
import Derived.Test.YtblphilcmfabkaaGreatDoorAla3

namespace Go.Proofs.YtblphilcmfabkaaGreatDoor
open Go.RowKit Go.Shelf
theorem len_two {ns : List Nat} (h : ns.length = 2) : ∃ m m', ns = [m, m'] := by
 match ns, h with
 | [a, b], _ => exact ⟨a, b, rfl⟩
set_option maxRecDepth 100000 in
theorem look_case (wd : ByteArray) : ∃ (n : Int) (fn : Value) (b : Bool), (∀ (W : World) (a : Addr) (m : Mode), (store a fn m).run Tryz.prog W = stored Tryz.prog W a fn m) ∧ (∀ (W : World) (m : Nat), W.heap[m]? = some (.map qE.toArray 10) → (Instr.lookup 120 (.map (some m)) (.string wd) true).run Tryz.prog W = .ok (.tuple #[.agg #[.int .i64 n, fn], .bool b]) W) ∧ ((b = false ∧ ¬ wd.toList = [112, 97, 105, 114] ∧ ¬ wd.toList = [119, 101, 105, 103, 104, 116] ∧ ¬ wd.toList = [102, 105, 114, 115, 116] ∧ ¬ wd.toList = [115, 101, 99, 111, 110, 100] ∧ ¬ wd.toList = [114, 97, 110, 107] ∧ ¬ wd.toList = [112, 101, 114, 105, 111, 100] ∧ ¬ wd.toList = [112, 97, 115, 115, 101, 115] ∧ ¬ wd.toList = [119, 114, 105, 116, 116, 101, 110] ∧ ¬ wd.toList = [102, 97, 114] ∧ ¬ wd.toList = [99, 105, 114, 99, 108, 101]) ∨ (wd.toList = [112, 97, 105, 114] ∧ n = 0 ∧ fn = .func (.func 111) #[] #[] ∧ b = true)
   ∨ (wd.toList = [119, 101, 105, 103, 104, 116] ∧ n = 0 ∧ fn = .func (.func 112) #[] #[] ∧ b = true)
   ∨ (wd.toList = [102, 105, 114, 115, 116] ∧ n = 1 ∧ fn = .func (.func 113) #[] #[] ∧ b = true)
   ∨ (wd.toList = [115, 101, 99, 111, 110, 100] ∧ n = 1 ∧ fn = .func (.func 114) #[] #[] ∧ b = true)
   ∨ (wd.toList = [114, 97, 110, 107] ∧ n = 1 ∧ fn = .func (.func 115) #[] #[] ∧ b = true)
   ∨ (wd.toList = [112, 101, 114, 105, 111, 100] ∧ n = 1 ∧ fn = .func (.func 116) #[] #[] ∧ b = true)
   ∨ (wd.toList = [112, 97, 115, 115, 101, 115] ∧ n = 1 ∧ fn = .func (.func 117) #[] #[] ∧ b = true)
   ∨ (wd.toList = [119, 114, 105, 116, 116, 101, 110] ∧ n = 1 ∧ fn = .func (.func 118) #[] #[] ∧ b = true)
   ∨ (wd.toList = [102, 97, 114] ∧ n = 2 ∧ fn = .func (.func 119) #[] #[] ∧ b = true)
   ∨ (wd.toList = [99, 105, 114, 99, 108, 101] ∧ n = 2 ∧ fn = .func (.func 120) #[] #[] ∧ b = true)) := by
 have hto : ∀ (l : List UInt8), wd.toList = l → wd = ⟨l.toArray⟩ := fun l h => by rw [bl_toList] at h; subst h; rfl
 by_cases h0 : wd.toList = [112, 97, 105, 114]
 · refine ⟨0, .func (.func 111) #[] #[], true, (fun W a m => run_store Tryz.prog W a _ m rfl), fun W m hb => ?_, by exact .inr (.inl ⟨h0, rfl, rfl, rfl⟩)⟩
   rw [hto _ h0]
   exact look_has W m 0 _ _ hb rfl
 by_cases h1 : wd.toList = [119, 101, 105, 103, 104, 116]
 · refine ⟨0, .func (.func 112) #[] #[], true, (fun W a m => run_store Tryz.prog W a _ m rfl), fun W m hb => ?_, by exact .inr (.inr (.inl ⟨h1, rfl, rfl, rfl⟩))⟩
   rw [hto _ h1]
   exact look_has W m 1 _ _ hb rfl
 by_cases h2 : wd.toList = [102, 105, 114, 115, 116]
 · refine ⟨1, .func (.func 113) #[] #[], true, (fun W a m => run_store Tryz.prog W a _ m rfl), fun W m hb => ?_, by exact .inr (.inr (.inr (.inl ⟨h2, rfl, rfl, rfl⟩)))⟩
   rw [hto _ h2]
   exact look_has W m 2 _ _ hb rfl
 by_cases h3 : wd.toList = [115, 101, 99, 111, 110, 100]
 · refine ⟨1, .func (.func 114) #[] #[], true, (fun W a m => run_store Tryz.prog W a _ m rfl), fun W m hb => ?_, by exact .inr (.inr (.inr (.inr (.inl ⟨h3, rfl, rfl, rfl⟩))))⟩
   rw [hto _ h3]
   exact look_has W m 3 _ _ hb rfl
 by_cases h4 : wd.toList = [114, 97, 110, 107]
 · refine ⟨1, .func (.func 115) #[] #[], true, (fun W a m => run_store Tryz.prog W a _ m rfl), fun W m hb => ?_, by exact .inr (.inr (.inr (.inr (.inr (.inl ⟨h4, rfl, rfl, rfl⟩)))))⟩
   rw [hto _ h4]
   exact look_has W m 4 _ _ hb rfl
 by_cases h5 : wd.toList = [112, 101, 114, 105, 111, 100]
 · refine ⟨1, .func (.func 116) #[] #[], true, (fun W a m => run_store Tryz.prog W a _ m rfl), fun W m hb => ?_, by exact .inr (.inr (.inr (.inr (.inr (.inr (.inl ⟨h5, rfl, rfl, rfl⟩))))))⟩
   rw [hto _ h5]
   exact look_has W m 5 _ _ hb rfl
 by_cases h6 : wd.toList = [112, 97, 115, 115, 101, 115]
 · refine ⟨1, .func (.func 117) #[] #[], true, (fun W a m => run_store Tryz.prog W a _ m rfl), fun W m hb => ?_, by exact .inr (.inr (.inr (.inr (.inr (.inr (.inr (.inl ⟨h6, rfl, rfl, rfl⟩)))))))⟩
   rw [hto _ h6]
   exact look_has W m 6 _ _ hb rfl
 by_cases h7 : wd.toList = [119, 114, 105, 116, 116, 101, 110]
 · refine ⟨1, .func (.func 118) #[] #[], true, (fun W a m => run_store Tryz.prog W a _ m rfl), fun W m hb => ?_, by exact .inr (.inr (.inr (.inr (.inr (.inr (.inr (.inr (.inl ⟨h7, rfl, rfl, rfl⟩))))))))⟩
   rw [hto _ h7]
   exact look_has W m 7 _ _ hb rfl
 by_cases h8 : wd.toList = [102, 97, 114]
 · refine ⟨2, .func (.func 119) #[] #[], true, (fun W a m => run_store Tryz.prog W a _ m rfl), fun W m hb => ?_, by exact .inr (.inr (.inr (.inr (.inr (.inr (.inr (.inr (.inr (.inl ⟨h8, rfl, rfl, rfl⟩)))))))))⟩
   rw [hto _ h8]
   exact look_has W m 8 _ _ hb rfl
 by_cases h9 : wd.toList = [99, 105, 114, 99, 108, 101]
 · refine ⟨2, .func (.func 120) #[] #[], true, (fun W a m => run_store Tryz.prog W a _ m rfl), fun W m hb => ?_, by exact .inr (.inr (.inr (.inr (.inr (.inr (.inr (.inr (.inr (.inr (⟨h9, rfl, rfl, rfl⟩))))))))))⟩
   rw [hto _ h9]
   exact look_has W m 9 _ _ hb rfl
 refine ⟨0, .nilFunc, false, (fun W a m => run_store Tryz.prog W a _ m rfl), fun W m hb => look_not W m wd _ hb (by kernel_rfl) (fun x hx e => ?_), .inl ⟨rfl, h0, h1, h2, h3, h4, h5, h6, h7, h8, h9⟩⟩
 simp only [qE, List.mem_cons, List.mem_nil_iff, or_false] at hx
 rcases hx with rfl | rfl | rfl | rfl | rfl | rfl | rfl | rfl | rfl | rfl
 · exact h0 (by injection e with e; rw [← e, bl_toList])
 · exact h1 (by injection e with e; rw [← e, bl_toList])
 · exact h2 (by injection e with e; rw [← e, bl_toList])
 · exact h3 (by injection e with e; rw [← e, bl_toList])
 · exact h4 (by injection e with e; rw [← e, bl_toList])
 · exact h5 (by injection e with e; rw [← e, bl_toList])
 · exact h6 (by injection e with e; rw [← e, bl_toList])
 · exact h7 (by injection e with e; rw [← e, bl_toList])
 · exact h8 (by injection e with e; rw [← e, bl_toList])
 · exact h9 (by injection e with e; rw [← e, bl_toList])
set_option linter.unusedSimpArgs false in
set_option maxRecDepth 100000 in
set_option maxHeartbeats 16000000 in
theorem answerTo_any (p q : Int) (u : Value) (s : ByteArray) (w : World) (hs : s.size ≤ 1048600) (hp : Small p) (hq : Small q) (ht : PowTab w) (he : Errs w) :
   Calls Tryz.prog 51 #[.agg #[.int .i64 p, .int .i64 q, u], .string s] w fun e w' => e = .returned (.string (ansV p q s.data.toList)) ∧ Below w.heap.size w w' := by
 have hen : ∀ (args : Array Value) (w : World), (callFunc 87 args).run Tryz.prog w = .ok (.enter 87 args) w := enters_of Tryz.func87 (by kernel_rfl) rfl
 have hsp := fun W => splitN_at s 3 W zO zd zd
 obtain ⟨hpl1, hpl2⟩ := pieces_len 3 s zd
 have hps := fun i => piece_size s 3 i
 have HANS := Lib.hid (ans_pieces p q s)
 obtain ⟨L, hL⟩ : ∃ L, piecesB 3 s = L := ⟨_, rfl⟩
 rw [hL] at hsp hpl1 hpl2 hps HANS
 obtain ⟨wd, hwd⟩ : ∃ wd, L.getD 0 ByteArray.empty = wd := ⟨_, rfl⟩
 obtain ⟨n, fn, b, hst, hlook, hcase⟩ := look_case wd
 have HLOOK := Lib.hid hlook
 have HCASE := Lib.hid hcase
 have HT := Lib.hid ht
 have HE := Lib.hid he
 clear hlook hcase ht he hL
 go_enter Tryz.func51, Tryz.ntmps51
 go_wp2_with fail
 refine (hsp _).mono ?_
 rintro e w1 ⟨cap, rfl, ⟨hcl, hgl⟩, hcs, hb1⟩
 obtain ⟨g, hgd⟩ : ∃ g, (w.alloc (.cells #[.int .i64 p, .int .i64 q, u] 32)).heap.size = g := ⟨_, rfl⟩
 rw [hgd] at hgl hcs ⊢
 have hc0 : w1.cell? ⟨g, 0, none⟩ = some (.string wd) := by rw [hcs 0 zO, hwd]
 have HCS := Lib.hid hcs
 have HW1 := Lib.hid (show Below w.heap.size w w1 from ((Below.refl _ _).alloc (Nat.le_refl _) _).trans (hb1.mono (by simp)))
 have b0 : w1.cell? ⟨w.heap.size, 0, none⟩ = some (.int .i64 p) := (hb1.cell (p := ⟨w.heap.size, 0, none⟩) (by simp)).trans (World.cell?_alloc_mark _ _ _ _ _)
 have b1 : w1.cell? ⟨w.heap.size, 1, none⟩ = some (.int .i64 q) := (hb1.cell (p := ⟨w.heap.size, 1, none⟩) (by simp)).trans (World.cell?_alloc_mark _ _ _ _ _)
 have b2 : w1.cell? ⟨w.heap.size, 2, none⟩ = some u := (hb1.cell (p := ⟨w.heap.size, 2, none⟩) (by simp)).trans (World.cell?_alloc_mark _ _ _ _ _)
 have hwl : w.heap.size < w1.heap.size := World.block_lt_of_cell? w1 _ b0
 obtain ⟨Pn, hPn⟩ : ∃ Pn, L.length = Pn := ⟨_, rfl⟩
 rw [hPn] at hcl hpl1 hpl2 ⊢
 have hpos : 0 < Pn := hpl1
 clear hb1 hcs hsp hgd
 go_wp2_with fail
 rename_i K hK
 refine wp_region_stores (PP := askP w1.heap.size g Pn cap wd n fn b) (Grow := GrowA) (G := askG w1 n fn) (by kernel_rfl) (dis_of2 (by kernel_rfl)) (b_of (by kernel_rfl)) (back_of (by kernel_rfl)) (fun j u w2 w3 hg hp => askP_mono _ _ _ _ _ _ _ _ j u w2 w3 hg hp) ⟨(Below.refl _ _).drew, fun h => by simp [Array.getD_eq_getD_getElem?] at h, fun _ s o hs => cell_out _ _ _ hs, fun h => by simp [Array.getD_eq_getD_getElem?] at h⟩ ?step ?fin
 case step =>
   have hlook := HLOOK.out
   intro i o hi listed a w2 hS hG hall hl
   have hi11 : i < 11 := (Array.getElem?_eq_some_iff.1 hi).1
   rcases (show i = 0 ∨ i = 1 ∨ i = 2 ∨ i = 3 ∨ i = 4 ∨ i = 5 ∨ i = 6 ∨ i = 7 ∨ i = 8 ∨ i = 9 ∨ i = 10 by omega) with rfl | rfl | rfl | rfl | rfl | rfl | rfl | rfl | rfl | rfl | rfl
   · obtain rfl := Option.some.inj hi
     refine op_enter rfl rfl (f := 87) (args := #[]) (w' := w2) (by intro ev ht hc hf; simp [execOp, hc, hf, go_sem, hen]) ?_
     refine (questions_at w2).mono ?_
     rintro e w3 ⟨rfl, rfl⟩
     exact ⟨_, rfl, .inl ⟨_, 13, rfl, rfl, ⟨_, rfl, heap_alloc_new _ _⟩⟩, growA_alloc _ _, askG_map hG⟩
   · obtain rfl := Option.some.inj hi
     have e5 : a.eval (.tmp 5) = .slice (some ⟨g, 0, none⟩) Pn cap := hS.2.2.1 5 (noDst_of (by kernel_rfl))
     refine op_value (v := .slice (some ⟨g, 0, none⟩) Pn cap) (w' := w2) rfl rfl (by intro ev ht hc hf; rw [← ht] at e5; simp [execOp, hc, hf, e5, go_sem]) ⟨.inl ⟨_, 14, rfl, rfl, rfl⟩, growA_refl _, askG_same hG zd zd⟩
   · obtain rfl := Option.some.inj hi
     have P1 := hS.2.2.2 1 _ 14 rfl rfl (hall { on := 1, ground := .data } (by simp) rfl)
     replace P1 : a.eval (.tmp 14) = .slice (some ⟨g, 0, none⟩) Pn cap := P1
     refine op_value (v := .pointer (some ⟨g, 0, none⟩)) (w' := w2) rfl rfl (by intro ev ht hc hf; rw [← ht] at P1; simp [execOp, hc, hf, P1, go_sem, hpos]) ⟨.inl ⟨_, 15, rfl, rfl, rfl⟩, growA_refl _, askG_same hG zd zd⟩
   · obtain rfl := Option.some.inj hi
     have P2 := hS.2.2.2 2 _ 15 rfl rfl (hall { on := 2, ground := .data } (by simp) rfl)
     replace P2 : a.eval (.tmp 15) = .pointer (some ⟨g, 0, none⟩) := P2
     have hcell : w2.cell? ⟨g, 0, none⟩ = some (.string wd) := (hG.1.cell (p := ⟨g, 0, none⟩) hgl).trans hc0
     refine op_value (v := .string wd) (w' := w2) rfl rfl (by intro ev ht hc hf; rw [← ht] at P2; simp [execOp, hc, hf, P2, go_sem, hcell]) ⟨.inl ⟨_, 16, rfl, rfl, rfl⟩, growA_refl _, askG_same hG zd zd⟩
   · obtain rfl := Option.some.inj hi
     have P0 := hS.2.2.2 0 _ 13 rfl rfl (hall { on := 0, ground := .data } (by simp) rfl)
     obtain ⟨m, em, hm⟩ := P0
     have P3 := hS.2.2.2 3 _ 16 rfl rfl (hall { on := 3, ground := .data } (by simp) rfl)
     replace P3 : a.eval (.tmp 16) = .string wd := P3
     have hlk := hlook w2 m hm
     refine op_value (v := .tuple #[.agg #[.int .i64 n, fn], .bool b]) (w' := w2) rfl rfl (by intro ev ht hc hf; rw [← ht] at em P3; simp [execOp, hc, hf, em, P3, go_sem, hlk]) ⟨.inl ⟨_, 17, rfl, rfl, rfl⟩, growA_refl _, askG_same hG zd zd⟩
   · obtain rfl := Option.some.inj hi
     have P4 := hS.2.2.2 4 _ 17 rfl rfl (hall { on := 4, ground := .data } (by simp) rfl)
     replace P4 : a.eval (.tmp 17) = .tuple #[.agg #[.int .i64 n, fn], .bool b] := P4
     refine op_value (v := .tuple #[.agg #[.int .i64 n, fn], .bool b]) (w' := w2) rfl rfl (by intro ev ht hc hf; rw [← ht] at P4; simp [execOp, hc, hf, P4, go_sem]) ⟨.inl ⟨_, 12, rfl, rfl, rfl⟩, growA_refl _, askG_same hG zd zd⟩
   · obtain rfl := Option.some.inj hi
     have P5 := hS.2.2.2 5 _ 12 rfl rfl (hall { on := 5, ground := .data } (by simp) rfl)
     replace P5 : a.eval (.tmp 12) = .tuple #[.agg #[.int .i64 n, fn], .bool b] := P5
     refine op_value (v := .agg #[.int .i64 n, fn]) (w' := w2) rfl rfl (by intro ev ht hc hf; rw [← ht] at P5; simp [execOp, hc, hf, P5, go_sem]) ⟨.inl ⟨_, 18, rfl, rfl, rfl⟩, growA_refl _, askG_same hG zd zd⟩
   · obtain rfl := Option.some.inj hi
     have P5 := hS.2.2.2 5 _ 12 rfl rfl (hall { on := 5, ground := .data } (by simp) rfl)
     replace P5 : a.eval (.tmp 12) = .tuple #[.agg #[.int .i64 n, fn], .bool b] := P5
     refine op_value (v := .bool b) (w' := w2) rfl rfl (by intro ev ht hc hf; rw [← ht] at P5; simp [execOp, hc, hf, P5, go_sem]) ⟨.inl ⟨_, 19, rfl, rfl, rfl⟩, growA_refl _, askG_same hG zd zd⟩
   · obtain rfl := Option.some.inj hi
     refine op_value (v := .pointer (some ⟨w2.heap.size, 0, none⟩)) (w' := w2.alloc (.cells #[.int .i64 0, .nilFunc] 118)) rfl rfl (by intro ev ht hc hf; simp [execOp, ht, hc, hf, go_sem]; try go_simp) ⟨.inl ⟨_, 6, rfl, rfl, ⟨w2.heap.size, rfl, hG.1.size, by rw [World.cell?_alloc_mark]; rfl⟩⟩, growA_alloc _ _, askG_new hG hl _ _ _⟩
   · obtain rfl := Option.some.inj hi
     have P8 := hS.2.2.2 8 _ 6 rfl rfl (hall { on := 8, ground := .data } (by simp) rfl)
     obtain ⟨s, es, hs1, hs2⟩ := P8
     have P6 := hS.2.2.2 6 _ 18 rfl rfl (hall { on := 6, ground := .data } (by simp) rfl)
     replace P6 : a.eval (.tmp 18) = .agg #[.int .i64 n, fn] := P6
     have h8 : listed.getD 8 false = true := (hall { on := 8, ground := .data } (by simp) rfl)
     obtain ⟨s', x, y, ho, c0, c1, _⟩ := hG.2.2.2 h8
     obtain rfl : s = s' := by
       apply Classical.byContradiction
       intro hne
       rw [ho.2.2.1 s 0 hs1 hne] at hs2
       cases hs2
     have f0 := ho.2.2.2.1
     have f1 := ho.2.2.2.2
     have c1s : (w2.setCell ⟨s, 0, none⟩ (.int .i64 n)).cell? ⟨s, 1, none⟩ = some y := (World.cell?_setCell_other _ _ _ _ (fun e => by injection e with _ e2; cases e2)).trans c1
     have f1s : (w2.setCell ⟨s, 0, none⟩ (.int .i64 n)).frozen? ⟨s, 1, none⟩ = false := by rw [World.frozen?_setCell]; exact f1
     refine op_store (w' := (w2.setCell ⟨s, 0, none⟩ (.int .i64 n)).setCell ⟨s, 1, none⟩ fn) rfl rfl rfl (by intro ev ht hc hf; rw [← ht] at es P6; simp [execOp, hc, hf, es, P6, go_sem, c0, c1, f0, f1, c1s, f1s, hst]; try go_simp) ⟨.inr ⟨rfl, rfl⟩, growA_trans (growA_set _ _ _) (growA_set _ _ _), askG_put hG.1 h8 ho c0 c1⟩
   · obtain rfl := Option.some.inj hi
     have P7 := hS.2.2.2 7 _ 19 rfl rfl (hall { on := 7, ground := .data } (by simp) rfl)
     replace P7 : a.eval (.tmp 19) = .bool b := P7
     refine op_value (v := .bool b) (w' := w2) rfl rfl (by intro ev ht hc hf; rw [← ht] at P7; simp [execOp, hc, hf, P7, go_sem]) ⟨.inl ⟨_, 7, rfl, rfl, rfl⟩, growA_refl _, askG_same hG zd zd⟩
 case fin =>
   intro listed a w2 hall hS hG
   have e0 : a.tmps.getD 0 undef = .agg #[.int .i64 p, .int .i64 q, u] := hS.2.2.1 0 (noDst_of (by kernel_rfl))
   have e1 : a.tmps.getD 1 undef = .string s := hS.2.2.1 1 (noDst_of (by kernel_rfl))
   have e2 : a.tmps.getD 2 undef = .pointer (some ⟨w.heap.size, 0, none⟩) := hS.2.2.1 2 (noDst_of (by kernel_rfl))
   have e5 : a.tmps.getD 5 undef = .slice (some ⟨g, 0, none⟩) Pn cap := hS.2.2.1 5 (noDst_of (by kernel_rfl))
   obtain ⟨r, e6, hr1, hr2⟩ := hS.2.2.2 8 _ 6 rfl rfl (hall 8 zd)
   have e7 := hS.2.2.2 10 _ 7 rfl rfl (hall 10 zd)
   replace e6 : a.tmps.getD 6 undef = .pointer (some ⟨r, 0, none⟩) := e6
   replace e7 : a.tmps.getD 7 undef = .bool b := e7
   obtain ⟨r', x, y, ho, c0, c1, h9⟩ := hG.2.2.2 (hall 8 zd)
   obtain rfl : r = r' := by
     apply Classical.byContradiction
     intro hne
     rw [ho.2.2.1 r 0 hr1 hne] at hr2
     cases hr2
   obtain ⟨rfl, rfl⟩ := h9 (hall 9 zd)
   have HB2 := Lib.hid hG.1
   have hrl := ho.2.1
   have hd : a.defers = [] := hS.1
   have hsz : a.tmps.size = 44 := hS.2.1
   obtain ⟨t, d⟩ := a
   clear hS hG hall ho h9 hr2
   dsimp only at hd hsz e0 e1 e2 e5 e6 e7
   subst hd
   obtain ⟨u3, u4, u8, u9, u10, u11, u12, u13, u14, u15, u16, u17, u18, u19, u20, u21, u22, u23, u24, u25, u26, u27, u28, u29, u30, u31, u32, u33, u34, u35, u36, u37, u38, u39, u40, u41, u42, u43, rfl⟩ := actA t hsz _ _ _ _ _ _ e0 e1 e2 e5 e6 e7
   clear e0 e1 e2 e5 e6 e7 hsz hen
   refine hK _ _ ?_
   clear hK K HLOOK
   have hz2 := HB2.out.size
   have HBW2 := Lib.hid (HW1.out.trans (HB2.out.mono zO))
   have HN := Lib.hid (numbersIn_any (L.drop 1) g 1 (cap - 1) w2 zO (by rw [List.length_drop]; omega) (fun i => by rw [List.getD_eq_getElem?_getD, List.getElem?_drop, ← List.getD_eq_getElem?_getD]; have := hps (1 + i); omega) (fun i hi => by
     rw [List.length_drop] at hi
     rw [List.getD_eq_getElem?_getD, List.getElem?_drop, ← List.getD_eq_getElem?_getD]
     exact (HB2.out.cell (p := ⟨g, 1 + i, none⟩) hgl).trans (HCS.out (1 + i) zO)) (HT.out.below HBW2.out (Nat.le_refl _)) (HE.out.below HBW2.out (Nat.le_refl _)))
   have hdl : (L.drop 1).length = Pn - 1 := by rw [List.length_drop, hPn]
   rw [hdl] at HN
   have k0 : w2.cell? ⟨w.heap.size, 0, none⟩ = some (.int .i64 p) := (HB2.out.cell (p := ⟨w.heap.size, 0, none⟩) hwl).trans b0
   have k1 : w2.cell? ⟨w.heap.size, 1, none⟩ = some (.int .i64 q) := (HB2.out.cell (p := ⟨w.heap.size, 1, none⟩) hwl).trans b1
   have k2 : w2.cell? ⟨w.heap.size, 2, none⟩ = some u := (HB2.out.cell (p := ⟨w.heap.size, 2, none⟩) hwl).trans b2
   clear b0 b1 b2
   have hpi : (1 : Int) ≤ (Pn : Int) := by omega
   by_cases hcap : cap = 1
   · subst hcap
     obtain rfl : Pn = 1 := by omega
     have HN0 := Lib.hid (numbersIn_any (L.drop 1) g 0 0 w2 zO (by rw [List.length_drop]; omega) (fun i => by rw [List.getD_eq_getElem?_getD, List.getElem?_drop, ← List.getD_eq_getElem?_getD]; have := hps (1 + i); omega) (fun i hi => by
       rw [List.length_drop] at hi
       omega) (HT.out.below HBW2.out (Nat.le_refl _)) (HE.out.below HBW2.out (Nat.le_refl _)))
     rw [hdl] at HN0
     go_wp2_with fail
     refine (HN0.out).mono ?_
     rintro e w3 ⟨hb3, hN⟩
     have HB3 := Lib.hid (HBW2.out.trans (hb3.mono HBW2.out.size))
     have hz3 := hb3.size
     obtain ⟨hc3, _⟩ := bcell hb3
     have d0 : w3.cell? ⟨r, 0, none⟩ = _ := (hc3 r 0 hrl).trans c0
     have d1 : w3.cell? ⟨r, 1, none⟩ = _ := (hc3 r 1 hrl).trans c1
     have j0 : w3.cell? ⟨w.heap.size, 0, none⟩ = _ := (hc3 w.heap.size 0 zO).trans k0
     have j1 : w3.cell? ⟨w.heap.size, 1, none⟩ = _ := (hc3 w.heap.size 1 zO).trans k1
     have j2 : w3.cell? ⟨w.heap.size, 2, none⟩ = _ := (hc3 w.heap.size 2 zO).trans k2
     have HT3 := Lib.hid (HT.out.below HB3.out (Nat.le_refl _))
     clear hc3 hb3 c0 c1 k0 k1 k2 HN
     cases hnb : numsB (L.drop 1) with
     | none =>
       rw [hnb] at hN
       subst hN
       have HV := Lib.hid (show ansV p q s.data.toList = whatT by rw [← HANS.out]; unfold ansP; rw [hnb])
       clear hnb
       cases b <;>
       · go_wp2
         go_ret
         exact ⟨by rw [HV.out]; rfl, HB3.out⟩
     | some ns =>
       rw [hnb] at hN
       obtain ⟨a3, c3, rfl, hI⟩ := hN
       have HI := Lib.hid hI
       have HV0 := Lib.hid (show ansV p q s.data.toList = askV p q wd ns by rw [← HANS.out]; unfold ansP; rw [hnb, hwd])
       clear hnb hI HANS
       rcases HCASE.out with ⟨rfl, n0, n1, n2, n3, n4, n5, n6, n7, n8, n9⟩ | ⟨hw, rfl, rfl, rfl⟩ | ⟨hw, rfl, rfl, rfl⟩ | ⟨hw, rfl, rfl, rfl⟩ | ⟨hw, rfl, rfl, rfl⟩ | ⟨hw, rfl, rfl, rfl⟩ | ⟨hw, rfl, rfl, rfl⟩ | ⟨hw, rfl, rfl, rfl⟩ | ⟨hw, rfl, rfl, rfl⟩ | ⟨hw, rfl, rfl, rfl⟩ | ⟨hw, rfl, rfl, rfl⟩
       · have HV := Lib.hid (show ansV p q s.data.toList = whatT by rw [HV0.out]; rcases ns with _ | ⟨a, _ | ⟨a', _ | ⟨a'', l⟩⟩⟩ <;> simp [askV, ask0, ask1, ask2, n0, n1, n2, n3, n4, n5, n6, n7, n8, n9])
         clear n0 n1 n2 n3 n4 n5 n6 n7 n8 n9 HCASE
         go_wp2
         go_ret
         exact ⟨by rw [HV.out]; rfl, HB3.out⟩
       · clear HCASE
         by_cases hlen : ns.length = 0
         · obtain rfl : ns = [] := List.eq_nil_of_length_eq_zero hlen
           have HV := Lib.hid (show ansV p q s.data.toList = pairT p q by rw [HV0.out]; simp [askV, ask0, hw])
           clear hw
           go_wp2_with fail
           refine (tellPair_any p q u _ _ HT3.out hp hq).mono ?_
           rintro e w4 ⟨rfl, hb4⟩
           go_wp2
           go_ret
           exact ⟨by rw [HV.out]; rfl, HB3.out.trans (hb4.mono HB3.out.size)⟩
         · have hli : ¬ (ns.length : Int) = 0 := by omega
           have HV := Lib.hid (show ansV p q s.data.toList = whatT by rw [HV0.out]; rcases ns with _ | ⟨a, _ | ⟨a', _ | ⟨a'', l⟩⟩⟩ <;> simp [askV, ask0, ask1, ask2, hw] at hlen ⊢)
           clear hw hlen
           go_wp2
           go_ret
           exact ⟨by rw [HV.out]; rfl, HB3.out⟩
       · clear HCASE
         by_cases hlen : ns.length = 0
         · obtain rfl : ns = [] := List.eq_nil_of_length_eq_zero hlen
           have HV := Lib.hid (show ansV p q s.data.toList = toldT (weightV p q) (pairB p q) by rw [HV0.out]; simp [askV, ask0, hw])
           clear hw
           go_wp2_with fail
           refine (tellWeight_any p q u _ _ HT3.out).mono ?_
           rintro e w4 ⟨rfl, hb4⟩
           go_wp2
           go_ret
           exact ⟨by rw [HV.out]; rfl, HB3.out.trans (hb4.mono HB3.out.size)⟩
         · have hli : ¬ (ns.length : Int) = 0 := by omega
           have HV := Lib.hid (show ansV p q s.data.toList = whatT by rw [HV0.out]; rcases ns with _ | ⟨a, _ | ⟨a', _ | ⟨a'', l⟩⟩⟩ <;> simp [askV, ask0, ask1, ask2, hw] at hlen ⊢)
           clear hw hlen
           go_wp2
           go_ret
           exact ⟨by rw [HV.out]; rfl, HB3.out⟩
       · clear HCASE
         by_cases hlen : ns.length = 1
         · obtain ⟨m, rfl⟩ : ∃ m, ns = [m] := List.length_eq_one_iff.1 hlen
           have HI1 := Lib.hid (show IsInts w2.heap.size w3.heap.size w3 (.slice a3 1 c3) 1 (fun _ => ((m : Nat) : Int)) from HI.out.congr fun i hi => by
             have hi1 : i < 1 := hi
             obtain rfl : i = 0 := by omega
             rfl)
           have HV := Lib.hid (show ansV p q s.data.toList = toldT (firstV p q (m : Int)) (atB p q (m : Int)) by rw [HV0.out]; simp [askV, ask1, hw])
           clear hw
           go_wp2_with fail
           refine (tellFirst_any p q m u _ _ _ _ HI1.out HT3.out).mono ?_
           rintro e w4 ⟨rfl, hb4⟩
           go_wp2
           go_ret
           exact ⟨by rw [HV.out]; rfl, HB3.out.trans (hb4.mono HB3.out.size)⟩
         · have hli : ¬ (ns.length : Int) = 1 := by omega
           have HV := Lib.hid (show ansV p q s.data.toList = whatT by rw [HV0.out]; rcases ns with _ | ⟨a, _ | ⟨a', _ | ⟨a'', l⟩⟩⟩ <;> simp [askV, ask0, ask1, ask2, hw] at hlen ⊢)
           clear hw hlen
           go_wp2
           go_ret
           exact ⟨by rw [HV.out]; rfl, HB3.out⟩
       · clear HCASE
         by_cases hlen : ns.length = 1
         · obtain ⟨m, rfl⟩ : ∃ m, ns = [m] := List.length_eq_one_iff.1 hlen
           have HI1 := Lib.hid (show IsInts w2.heap.size w3.heap.size w3 (.slice a3 1 c3) 1 (fun _ => ((m : Nat) : Int)) from HI.out.congr fun i hi => by
             have hi1 : i < 1 := hi
             obtain rfl : i = 0 := by omega
             rfl)
           have HV := Lib.hid (show ansV p q s.data.toList = toldT (secondV p q (m : Int)) (atB p q (m : Int)) by rw [HV0.out]; simp [askV, ask1, hw])
           clear hw
           go_wp2_with fail
           refine (tellSecond_any p q m u _ _ _ _ HI1.out HT3.out).mono ?_
           rintro e w4 ⟨rfl, hb4⟩
           go_wp2
           go_ret
           exact ⟨by rw [HV.out]; rfl, HB3.out.trans (hb4.mono HB3.out.size)⟩
         · have hli : ¬ (ns.length : Int) = 1 := by omega
           have HV := Lib.hid (show ansV p q s.data.toList = whatT by rw [HV0.out]; rcases ns with _ | ⟨a, _ | ⟨a', _ | ⟨a'', l⟩⟩⟩ <;> simp [askV, ask0, ask1, ask2, hw] at hlen ⊢)
           clear hw hlen
           go_wp2
           go_ret
           exact ⟨by rw [HV.out]; rfl, HB3.out⟩
       · clear HCASE
         by_cases hlen : ns.length = 1
         · obtain ⟨m, rfl⟩ : ∃ m, ns = [m] := List.length_eq_one_iff.1 hlen
           have HI1 := Lib.hid (show IsInts w2.heap.size w3.heap.size w3 (.slice a3 1 c3) 1 (fun _ => ((m : Nat) : Int)) from HI.out.congr fun i hi => by
             have hi1 : i < 1 := hi
             obtain rfl : i = 0 := by omega
             rfl)
           have HV := Lib.hid (show ansV p q s.data.toList = toldT (rankV p q (m : Int)) (rankB p q (m : Int)) by rw [HV0.out]; simp [askV, ask1, hw])
           clear hw
           go_wp2_with fail
           refine (tellRank_any p q m u _ _ _ _ HI1.out HT3.out).mono ?_
           rintro e w4 ⟨rfl, hb4⟩
           go_wp2
           go_ret
           exact ⟨by rw [HV.out]; rfl, HB3.out.trans (hb4.mono HB3.out.size)⟩
         · have hli : ¬ (ns.length : Int) = 1 := by omega
           have HV := Lib.hid (show ansV p q s.data.toList = whatT by rw [HV0.out]; rcases ns with _ | ⟨a, _ | ⟨a', _ | ⟨a'', l⟩⟩⟩ <;> simp [askV, ask0, ask1, ask2, hw] at hlen ⊢)
           clear hw hlen
           go_wp2
           go_ret
           exact ⟨by rw [HV.out]; rfl, HB3.out⟩
       · clear HCASE
         by_cases hlen : ns.length = 1
         · obtain ⟨m, rfl⟩ : ∃ m, ns = [m] := List.length_eq_one_iff.1 hlen
           have HI1 := Lib.hid (show IsInts w2.heap.size w3.heap.size w3 (.slice a3 1 c3) 1 (fun _ => ((m : Nat) : Int)) from HI.out.congr fun i hi => by
             have hi1 : i < 1 := hi
             obtain rfl : i = 0 := by omega
             rfl)
           have HV := Lib.hid (show ansV p q s.data.toList = toldT (periodV p q (m : Int)) (rankB p q (m : Int)) by rw [HV0.out]; simp [askV, ask1, hw])
           clear hw
           go_wp2_with fail
           refine (tellPeriod_any p q m u _ _ _ _ HI1.out HT3.out).mono ?_
           rintro e w4 ⟨rfl, hb4⟩
           go_wp2
           go_ret
           exact ⟨by rw [HV.out]; rfl, HB3.out.trans (hb4.mono HB3.out.size)⟩
         · have hli : ¬ (ns.length : Int) = 1 := by omega
           have HV := Lib.hid (show ansV p q s.data.toList = whatT by rw [HV0.out]; rcases ns with _ | ⟨a, _ | ⟨a', _ | ⟨a'', l⟩⟩⟩ <;> simp [askV, ask0, ask1, ask2, hw] at hlen ⊢)
           clear hw hlen
           go_wp2
           go_ret
           exact ⟨by rw [HV.out]; rfl, HB3.out⟩
       · clear HCASE
         by_cases hlen : ns.length = 1
         · obtain ⟨m, rfl⟩ : ∃ m, ns = [m] := List.length_eq_one_iff.1 hlen
           have HI1 := Lib.hid (show IsInts w2.heap.size w3.heap.size w3 (.slice a3 1 c3) 1 (fun _ => ((m : Nat) : Int)) from HI.out.congr fun i hi => by
             have hi1 : i < 1 := hi
             obtain rfl : i = 0 := by omega
             rfl)
           have HV := Lib.hid (show ansV p q s.data.toList = yesT (passFirstB p q (m : Int) && passSecondB p q (m : Int)) by rw [HV0.out]; simp [askV, ask1, hw])
           clear hw
           go_wp2_with fail
           refine (tellPasses_any p q m u _ _ _ _ HI1.out HT3.out).mono ?_
           rintro e w4 ⟨rfl, hb4⟩
           go_wp2
           go_ret
           exact ⟨by rw [HV.out]; rfl, HB3.out.trans (hb4.mono HB3.out.size)⟩
         · have hli : ¬ (ns.length : Int) = 1 := by omega
           have HV := Lib.hid (show ansV p q s.data.toList = whatT by rw [HV0.out]; rcases ns with _ | ⟨a, _ | ⟨a', _ | ⟨a'', l⟩⟩⟩ <;> simp [askV, ask0, ask1, ask2, hw] at hlen ⊢)
           clear hw hlen
           go_wp2
           go_ret
           exact ⟨by rw [HV.out]; rfl, HB3.out⟩
       · clear HCASE
         by_cases hlen : ns.length = 1
         · obtain ⟨m, rfl⟩ : ∃ m, ns = [m] := List.length_eq_one_iff.1 hlen
           have HI1 := Lib.hid (show IsInts w2.heap.size w3.heap.size w3 (.slice a3 1 c3) 1 (fun _ => ((m : Nat) : Int)) from HI.out.congr fun i hi => by
             have hi1 : i < 1 := hi
             obtain rfl : i = 0 := by omega
             rfl)
           have HV := Lib.hid (show ansV p q s.data.toList = writT (m : Int) by rw [HV0.out]; simp [askV, ask1, hw])
           clear hw
           go_wp2_with fail
           refine (tellWritten_any p q m u _ _ _ _ HI1.out zO).mono ?_
           rintro e w4 ⟨rfl, hb4⟩
           go_wp2
           go_ret
           exact ⟨by rw [HV.out]; rfl, HB3.out.trans (hb4.mono HB3.out.size)⟩
         · have hli : ¬ (ns.length : Int) = 1 := by omega
           have HV := Lib.hid (show ansV p q s.data.toList = whatT by rw [HV0.out]; rcases ns with _ | ⟨a, _ | ⟨a', _ | ⟨a'', l⟩⟩⟩ <;> simp [askV, ask0, ask1, ask2, hw] at hlen ⊢)
           clear hw hlen
           go_wp2
           go_ret
           exact ⟨by rw [HV.out]; rfl, HB3.out⟩
       · clear HCASE
         by_cases hlen : ns.length = 2
         · obtain ⟨m, m', rfl⟩ : ∃ m m', ns = [m, m'] := len_two hlen
           have HI1 := Lib.hid (show IsInts w2.heap.size w3.heap.size w3 (.slice a3 2 c3) 2 (fun i => if i = 0 then ((m : Nat) : Int) else ((m' : Nat) : Int)) from HI.out.congr fun i hi => by
             have hi2 : i < 2 := hi
             rcases (show i = 0 ∨ i = 1 by omega) with rfl | rfl <;> rfl)
           have HV := Lib.hid (show ansV p q s.data.toList = toldT (farFirstV p q (m : Int) (m' : Int)) (decide (0 ≤ farFirstV p q (m : Int) (m' : Int))) by rw [HV0.out]; simp [askV, ask2, hw])
           clear hw
           go_wp2_with fail
           refine (tellFar_any p q m m' u _ _ _ _ HI1.out HT3.out).mono ?_
           rintro e w4 ⟨rfl, hb4⟩
           go_wp2
           go_ret
           exact ⟨by rw [HV.out]; rfl, HB3.out.trans (hb4.mono HB3.out.size)⟩
         · have hli : ¬ (ns.length : Int) = 2 := by omega
           have HV := Lib.hid (show ansV p q s.data.toList = whatT by rw [HV0.out]; rcases ns with _ | ⟨a, _ | ⟨a', _ | ⟨a'', l⟩⟩⟩ <;> simp [askV, ask0, ask1, ask2, hw] at hlen ⊢)
           clear hw hlen
           go_wp2
           go_ret
           exact ⟨by rw [HV.out]; rfl, HB3.out⟩
       · clear HCASE
         by_cases hlen : ns.length = 2
         · obtain ⟨m, m', rfl⟩ : ∃ m m', ns = [m, m'] := len_two hlen
           have HI1 := Lib.hid (show IsInts w2.heap.size w3.heap.size w3 (.slice a3 2 c3) 2 (fun i => if i = 0 then ((m : Nat) : Int) else ((m' : Nat) : Int)) from HI.out.congr fun i hi => by
             have hi2 : i < 2 := hi
             rcases (show i = 0 ∨ i = 1 by omega) with rfl | rfl <;> rfl)
           have HV := Lib.hid (show ansV p q s.data.toList = toldT (circV (m : Int) (m' : Int)) (circB (m : Int) (m' : Int)) by rw [HV0.out]; simp [askV, ask2, hw])
           clear hw
           go_wp2_with fail
           refine (tellCircle_any p q m m' u _ _ _ _ HI1.out HT3.out).mono ?_
           rintro e w4 ⟨rfl, hb4⟩
           go_wp2
           go_ret
           exact ⟨by rw [HV.out]; rfl, HB3.out.trans (hb4.mono HB3.out.size)⟩
         · have hli : ¬ (ns.length : Int) = 2 := by omega
           have HV := Lib.hid (show ansV p q s.data.toList = whatT by rw [HV0.out]; rcases ns with _ | ⟨a, _ | ⟨a', _ | ⟨a'', l⟩⟩⟩ <;> simp [askV, ask0, ask1, ask2, hw] at hlen ⊢)
           clear hw hlen
           go_wp2
           go_ret
           exact ⟨by rw [HV.out]; rfl, HB3.out⟩
   · have hcapi : (1 : Int) < (cap : Int) := by omega
     go_wp2_with fail
     refine (HN.out).mono ?_
     rintro e w3 ⟨hb3, hN⟩
     have HB3 := Lib.hid (HBW2.out.trans (hb3.mono HBW2.out.size))
     have hz3 := hb3.size
     obtain ⟨hc3, _⟩ := bcell hb3
     have d0 : w3.cell? ⟨r, 0, none⟩ = _ := (hc3 r 0 hrl).trans c0
     have d1 : w3.cell? ⟨r, 1, none⟩ = _ := (hc3 r 1 hrl).trans c1
     have j0 : w3.cell? ⟨w.heap.size, 0, none⟩ = _ := (hc3 w.heap.size 0 zO).trans k0
     have j1 : w3.cell? ⟨w.heap.size, 1, none⟩ = _ := (hc3 w.heap.size 1 zO).trans k1
     have j2 : w3.cell? ⟨w.heap.size, 2, none⟩ = _ := (hc3 w.heap.size 2 zO).trans k2
     have HT3 := Lib.hid (HT.out.below HB3.out (Nat.le_refl _))
     clear hc3 hb3 c0 c1 k0 k1 k2 HN
     cases hnb : numsB (L.drop 1) with
     | none =>
       rw [hnb] at hN
       subst hN
       have HV := Lib.hid (show ansV p q s.data.toList = whatT by rw [← HANS.out]; unfold ansP; rw [hnb])
       clear hnb
       cases b <;>
       · go_wp2
         go_ret
         exact ⟨by rw [HV.out]; rfl, HB3.out⟩
     | some ns =>
       rw [hnb] at hN
       obtain ⟨a3, c3, rfl, hI⟩ := hN
       have HI := Lib.hid hI
       have HV0 := Lib.hid (show ansV p q s.data.toList = askV p q wd ns by rw [← HANS.out]; unfold ansP; rw [hnb, hwd])
       clear hnb hI HANS
       rcases HCASE.out with ⟨rfl, n0, n1, n2, n3, n4, n5, n6, n7, n8, n9⟩ | ⟨hw, rfl, rfl, rfl⟩ | ⟨hw, rfl, rfl, rfl⟩ | ⟨hw, rfl, rfl, rfl⟩ | ⟨hw, rfl, rfl, rfl⟩ | ⟨hw, rfl, rfl, rfl⟩ | ⟨hw, rfl, rfl, rfl⟩ | ⟨hw, rfl, rfl, rfl⟩ | ⟨hw, rfl, rfl, rfl⟩ | ⟨hw, rfl, rfl, rfl⟩ | ⟨hw, rfl, rfl, rfl⟩
       · have HV := Lib.hid (show ansV p q s.data.toList = whatT by rw [HV0.out]; rcases ns with _ | ⟨a, _ | ⟨a', _ | ⟨a'', l⟩⟩⟩ <;> simp [askV, ask0, ask1, ask2, n0, n1, n2, n3, n4, n5, n6, n7, n8, n9])
         clear n0 n1 n2 n3 n4 n5 n6 n7 n8 n9 HCASE
         go_wp2
         go_ret
         exact ⟨by rw [HV.out]; rfl, HB3.out⟩
       · clear HCASE
         by_cases hlen : ns.length = 0
         · obtain rfl : ns = [] := List.eq_nil_of_length_eq_zero hlen
           have HV := Lib.hid (show ansV p q s.data.toList = pairT p q by rw [HV0.out]; simp [askV, ask0, hw])
           clear hw
           go_wp2_with fail
           refine (tellPair_any p q u _ _ HT3.out hp hq).mono ?_
           rintro e w4 ⟨rfl, hb4⟩
           go_wp2
           go_ret
           exact ⟨by rw [HV.out]; rfl, HB3.out.trans (hb4.mono HB3.out.size)⟩
         · have hli : ¬ (ns.length : Int) = 0 := by omega
           have HV := Lib.hid (show ansV p q s.data.toList = whatT by rw [HV0.out]; rcases ns with _ | ⟨a, _ | ⟨a', _ | ⟨a'', l⟩⟩⟩ <;> simp [askV, ask0, ask1, ask2, hw] at hlen ⊢)
           clear hw hlen
           go_wp2
           go_ret
           exact ⟨by rw [HV.out]; rfl, HB3.out⟩
       · clear HCASE
         by_cases hlen : ns.length = 0
         · obtain rfl : ns = [] := List.eq_nil_of_length_eq_zero hlen
           have HV := Lib.hid (show ansV p q s.data.toList = toldT (weightV p q) (pairB p q) by rw [HV0.out]; simp [askV, ask0, hw])
           clear hw
           go_wp2_with fail
           refine (tellWeight_any p q u _ _ HT3.out).mono ?_
           rintro e w4 ⟨rfl, hb4⟩
           go_wp2
           go_ret
           exact ⟨by rw [HV.out]; rfl, HB3.out.trans (hb4.mono HB3.out.size)⟩
         · have hli : ¬ (ns.length : Int) = 0 := by omega
           have HV := Lib.hid (show ansV p q s.data.toList = whatT by rw [HV0.out]; rcases ns with _ | ⟨a, _ | ⟨a', _ | ⟨a'', l⟩⟩⟩ <;> simp [askV, ask0, ask1, ask2, hw] at hlen ⊢)
           clear hw hlen
           go_wp2
           go_ret
           exact ⟨by rw [HV.out]; rfl, HB3.out⟩
       · clear HCASE
         by_cases hlen : ns.length = 1
         · obtain ⟨m, rfl⟩ : ∃ m, ns = [m] := List.length_eq_one_iff.1 hlen
           have HI1 := Lib.hid (show IsInts w2.heap.size w3.heap.size w3 (.slice a3 1 c3) 1 (fun _ => ((m : Nat) : Int)) from HI.out.congr fun i hi => by
             have hi1 : i < 1 := hi
             obtain rfl : i = 0 := by omega
             rfl)
           have HV := Lib.hid (show ansV p q s.data.toList = toldT (firstV p q (m : Int)) (atB p q (m : Int)) by rw [HV0.out]; simp [askV, ask1, hw])
           clear hw
           go_wp2_with fail
           refine (tellFirst_any p q m u _ _ _ _ HI1.out HT3.out).mono ?_
           rintro e w4 ⟨rfl, hb4⟩
           go_wp2
           go_ret
           exact ⟨by rw [HV.out]; rfl, HB3.out.trans (hb4.mono HB3.out.size)⟩
         · have hli : ¬ (ns.length : Int) = 1 := by omega
           have HV := Lib.hid (show ansV p q s.data.toList = whatT by rw [HV0.out]; rcases ns with _ | ⟨a, _ | ⟨a', _ | ⟨a'', l⟩⟩⟩ <;> simp [askV, ask0, ask1, ask2, hw] at hlen ⊢)
           clear hw hlen
           go_wp2
           go_ret
           exact ⟨by rw [HV.out]; rfl, HB3.out⟩
       · clear HCASE
         by_cases hlen : ns.length = 1
         · obtain ⟨m, rfl⟩ : ∃ m, ns = [m] := List.length_eq_one_iff.1 hlen
           have HI1 := Lib.hid (show IsInts w2.heap.size w3.heap.size w3 (.slice a3 1 c3) 1 (fun _ => ((m : Nat) : Int)) from HI.out.congr fun i hi => by
             have hi1 : i < 1 := hi
             obtain rfl : i = 0 := by omega
             rfl)
           have HV := Lib.hid (show ansV p q s.data.toList = toldT (secondV p q (m : Int)) (atB p q (m : Int)) by rw [HV0.out]; simp [askV, ask1, hw])
           clear hw
           go_wp2_with fail
           refine (tellSecond_any p q m u _ _ _ _ HI1.out HT3.out).mono ?_
           rintro e w4 ⟨rfl, hb4⟩
           go_wp2
           go_ret
           exact ⟨by rw [HV.out]; rfl, HB3.out.trans (hb4.mono HB3.out.size)⟩
         · have hli : ¬ (ns.length : Int) = 1 := by omega
           have HV := Lib.hid (show ansV p q s.data.toList = whatT by rw [HV0.out]; rcases ns with _ | ⟨a, _ | ⟨a', _ | ⟨a'', l⟩⟩⟩ <;> simp [askV, ask0, ask1, ask2, hw] at hlen ⊢)
           clear hw hlen
           go_wp2
           go_ret
           exact ⟨by rw [HV.out]; rfl, HB3.out⟩
       · clear HCASE
         by_cases hlen : ns.length = 1
         · obtain ⟨m, rfl⟩ : ∃ m, ns = [m] := List.length_eq_one_iff.1 hlen
           have HI1 := Lib.hid (show IsInts w2.heap.size w3.heap.size w3 (.slice a3 1 c3) 1 (fun _ => ((m : Nat) : Int)) from HI.out.congr fun i hi => by
             have hi1 : i < 1 := hi
             obtain rfl : i = 0 := by omega
             rfl)
           have HV := Lib.hid (show ansV p q s.data.toList = toldT (rankV p q (m : Int)) (rankB p q (m : Int)) by rw [HV0.out]; simp [askV, ask1, hw])
           clear hw
           go_wp2_with fail
           refine (tellRank_any p q m u _ _ _ _ HI1.out HT3.out).mono ?_
           rintro e w4 ⟨rfl, hb4⟩
           go_wp2
           go_ret
           exact ⟨by rw [HV.out]; rfl, HB3.out.trans (hb4.mono HB3.out.size)⟩
         · have hli : ¬ (ns.length : Int) = 1 := by omega
           have HV := Lib.hid (show ansV p q s.data.toList = whatT by rw [HV0.out]; rcases ns with _ | ⟨a, _ | ⟨a', _ | ⟨a'', l⟩⟩⟩ <;> simp [askV, ask0, ask1, ask2, hw] at hlen ⊢)
           clear hw hlen
           go_wp2
           go_ret
           exact ⟨by rw [HV.out]; rfl, HB3.out⟩
       · clear HCASE
         by_cases hlen : ns.length = 1
         · obtain ⟨m, rfl⟩ : ∃ m, ns = [m] := List.length_eq_one_iff.1 hlen
           have HI1 := Lib.hid (show IsInts w2.heap.size w3.heap.size w3 (.slice a3 1 c3) 1 (fun _ => ((m : Nat) : Int)) from HI.out.congr fun i hi => by
             have hi1 : i < 1 := hi
             obtain rfl : i = 0 := by omega
             rfl)
           have HV := Lib.hid (show ansV p q s.data.toList = toldT (periodV p q (m : Int)) (rankB p q (m : Int)) by rw [HV0.out]; simp [askV, ask1, hw])
           clear hw
           go_wp2_with fail
           refine (tellPeriod_any p q m u _ _ _ _ HI1.out HT3.out).mono ?_
           rintro e w4 ⟨rfl, hb4⟩
           go_wp2
           go_ret
           exact ⟨by rw [HV.out]; rfl, HB3.out.trans (hb4.mono HB3.out.size)⟩
         · have hli : ¬ (ns.length : Int) = 1 := by omega
           have HV := Lib.hid (show ansV p q s.data.toList = whatT by rw [HV0.out]; rcases ns with _ | ⟨a, _ | ⟨a', _ | ⟨a'', l⟩⟩⟩ <;> simp [askV, ask0, ask1, ask2, hw] at hlen ⊢)
           clear hw hlen
           go_wp2
           go_ret
           exact ⟨by rw [HV.out]; rfl, HB3.out⟩
       · clear HCASE
         by_cases hlen : ns.length = 1
         · obtain ⟨m, rfl⟩ : ∃ m, ns = [m] := List.length_eq_one_iff.1 hlen
           have HI1 := Lib.hid (show IsInts w2.heap.size w3.heap.size w3 (.slice a3 1 c3) 1 (fun _ => ((m : Nat) : Int)) from HI.out.congr fun i hi => by
             have hi1 : i < 1 := hi
             obtain rfl : i = 0 := by omega
             rfl)
           have HV := Lib.hid (show ansV p q s.data.toList = yesT (passFirstB p q (m : Int) && passSecondB p q (m : Int)) by rw [HV0.out]; simp [askV, ask1, hw])
           clear hw
           go_wp2_with fail
           refine (tellPasses_any p q m u _ _ _ _ HI1.out HT3.out).mono ?_
           rintro e w4 ⟨rfl, hb4⟩
           go_wp2
           go_ret
           exact ⟨by rw [HV.out]; rfl, HB3.out.trans (hb4.mono HB3.out.size)⟩
         · have hli : ¬ (ns.length : Int) = 1 := by omega
           have HV := Lib.hid (show ansV p q s.data.toList = whatT by rw [HV0.out]; rcases ns with _ | ⟨a, _ | ⟨a', _ | ⟨a'', l⟩⟩⟩ <;> simp [askV, ask0, ask1, ask2, hw] at hlen ⊢)
           clear hw hlen
           go_wp2
           go_ret
           exact ⟨by rw [HV.out]; rfl, HB3.out⟩
       · clear HCASE
         by_cases hlen : ns.length = 1
         · obtain ⟨m, rfl⟩ : ∃ m, ns = [m] := List.length_eq_one_iff.1 hlen
           have HI1 := Lib.hid (show IsInts w2.heap.size w3.heap.size w3 (.slice a3 1 c3) 1 (fun _ => ((m : Nat) : Int)) from HI.out.congr fun i hi => by
             have hi1 : i < 1 := hi
             obtain rfl : i = 0 := by omega
             rfl)
           have HV := Lib.hid (show ansV p q s.data.toList = writT (m : Int) by rw [HV0.out]; simp [askV, ask1, hw])
           clear hw
           go_wp2_with fail
           refine (tellWritten_any p q m u _ _ _ _ HI1.out zO).mono ?_
           rintro e w4 ⟨rfl, hb4⟩
           go_wp2
           go_ret
           exact ⟨by rw [HV.out]; rfl, HB3.out.trans (hb4.mono HB3.out.size)⟩
         · have hli : ¬ (ns.length : Int) = 1 := by omega
           have HV := Lib.hid (show ansV p q s.data.toList = whatT by rw [HV0.out]; rcases ns with _ | ⟨a, _ | ⟨a', _ | ⟨a'', l⟩⟩⟩ <;> simp [askV, ask0, ask1, ask2, hw] at hlen ⊢)
           clear hw hlen
           go_wp2
           go_ret
           exact ⟨by rw [HV.out]; rfl, HB3.out⟩
       · clear HCASE
         by_cases hlen : ns.length = 2
         · obtain ⟨m, m', rfl⟩ : ∃ m m', ns = [m, m'] := len_two hlen
           have HI1 := Lib.hid (show IsInts w2.heap.size w3.heap.size w3 (.slice a3 2 c3) 2 (fun i => if i = 0 then ((m : Nat) : Int) else ((m' : Nat) : Int)) from HI.out.congr fun i hi => by
             have hi2 : i < 2 := hi
             rcases (show i = 0 ∨ i = 1 by omega) with rfl | rfl <;> rfl)
           have HV := Lib.hid (show ansV p q s.data.toList = toldT (farFirstV p q (m : Int) (m' : Int)) (decide (0 ≤ farFirstV p q (m : Int) (m' : Int))) by rw [HV0.out]; simp [askV, ask2, hw])
           clear hw
           go_wp2_with fail
           refine (tellFar_any p q m m' u _ _ _ _ HI1.out HT3.out).mono ?_
           rintro e w4 ⟨rfl, hb4⟩
           go_wp2
           go_ret
           exact ⟨by rw [HV.out]; rfl, HB3.out.trans (hb4.mono HB3.out.size)⟩
         · have hli : ¬ (ns.length : Int) = 2 := by omega
           have HV := Lib.hid (show ansV p q s.data.toList = whatT by rw [HV0.out]; rcases ns with _ | ⟨a, _ | ⟨a', _ | ⟨a'', l⟩⟩⟩ <;> simp [askV, ask0, ask1, ask2, hw] at hlen ⊢)
           clear hw hlen
           go_wp2
           go_ret
           exact ⟨by rw [HV.out]; rfl, HB3.out⟩
       · clear HCASE
         by_cases hlen : ns.length = 2
         · obtain ⟨m, m', rfl⟩ : ∃ m m', ns = [m, m'] := len_two hlen
           have HI1 := Lib.hid (show IsInts w2.heap.size w3.heap.size w3 (.slice a3 2 c3) 2 (fun i => if i = 0 then ((m : Nat) : Int) else ((m' : Nat) : Int)) from HI.out.congr fun i hi => by
             have hi2 : i < 2 := hi
             rcases (show i = 0 ∨ i = 1 by omega) with rfl | rfl <;> rfl)
           have HV := Lib.hid (show ansV p q s.data.toList = toldT (circV (m : Int) (m' : Int)) (circB (m : Int) (m' : Int)) by rw [HV0.out]; simp [askV, ask2, hw])
           clear hw
           go_wp2_with fail
           refine (tellCircle_any p q m m' u _ _ _ _ HI1.out HT3.out).mono ?_
           rintro e w4 ⟨rfl, hb4⟩
           go_wp2
           go_ret
           exact ⟨by rw [HV.out]; rfl, HB3.out.trans (hb4.mono HB3.out.size)⟩
         · have hli : ¬ (ns.length : Int) = 2 := by omega
           have HV := Lib.hid (show ansV p q s.data.toList = whatT by rw [HV0.out]; rcases ns with _ | ⟨a, _ | ⟨a', _ | ⟨a'', l⟩⟩⟩ <;> simp [askV, ask0, ask1, ask2, hw] at hlen ⊢)
           clear hw hlen
           go_wp2
           go_ret
           exact ⟨by rw [HV.out]; rfl, HB3.out⟩
end Go.Proofs.YtblphilcmfabkaaGreatDoor
