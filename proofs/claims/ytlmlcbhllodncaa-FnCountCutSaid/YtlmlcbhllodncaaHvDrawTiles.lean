/- Contracts that the statement's proof stands on. -/
import Derived.Test.YtlmlcbhllodncaaAll0b
import Derived.Laws.IdiomStrings
import Derived.Shelf.Abstract

namespace Go.Proofs.Ytlmlcbhllodncaa
open Go.RowKit Go.Shelf
/-- What a draw of cells and colours returns. -/
def TilesDrawn (w : World) (R k : Nat) (e : Ending) (w' : World) : Prop :=
  ∃ c a b : Int, e = .returned (.tuple #[.int .i64 c, .int .i64 a, .int .i64 b]) ∧ (0 ≤ c ∧ c ≤ 1000) ∧ Rd w' R (k + 5) ∧ w.grownBy w' (some R)
def fiveC : Array Value := #[.int .i64 1, .int .i64 1, .int .i64 2, .int .i64 3, .int .i64 0]
theorem five_num {j : Nat} (h : j < 5) : ∃ n : Int, fiveC[j]? = some (.int .i64 n) ∧ 0 ≤ n ∧ n ≤ 3 := by
  rcases (show j = 0 ∨ j = 1 ∨ j = 2 ∨ j = 3 ∨ j = 4 by omega) with rfl | rfl | rfl | rfl | rfl
  · exact ⟨1, rfl, by omega, by omega⟩
  · exact ⟨1, rfl, by omega, by omega⟩
  · exact ⟨2, rfl, by omega, by omega⟩
  · exact ⟨3, rfl, by omega, by omega⟩
  · exact ⟨0, rfl, by omega, by omega⟩
/-- What each of the operations leaves. -/
def tilesP (R j : Nat) (v : Value) (w : World) : Prop :=
  match ([0, 1, 0, 1, 1, 1, 1, 2, 0, 1, 3, 1, 2, 0, 1, 3, 1, 0, 1, 1, 1, 1, 1, 1, 1] : List Nat).getD j 9 with
  | 0 => v = .pointer (some ⟨R, 0, none⟩)
  | 1 => ∃ n : Int, v = .int .i64 n ∧ ([0, 0, 0, 0, 0, 0, 0, 0, 0, 0, 0, 0, 0, 0, 0, 0, 0, 0, 0, 0, 0, -4, 0, 0, -4] : List Int).getD j 0 ≤ n ∧ n ≤ ([0, 8, 0, 19, 1, 9, 20, 0, 0, 4, 0, 3, 0, 0, 4, 0, 3, 0, 19, 1, 4, 3, 20, 3, 3] : List Int).getD j 0
  | 2 => ∃ b, v = .slice (some ⟨b, 0, none⟩) 5 5 ∧ b ≠ R ∧ b < w.heap.size ∧ ∀ i, i < 5 → w.cell? ⟨b, i, none⟩ = fiveC[i]?
  | 3 => ∃ b i, v = .pointer (some ⟨b, i, none⟩) ∧ i < 5 ∧ b ≠ R ∧ b < w.heap.size ∧ ∀ i, i < 5 → w.cell? ⟨b, i, none⟩ = fiveC[i]?
  | _ => True
def Grows (R : Nat) (w w' : World) : Prop := w.heap.size ≤ w'.heap.size ∧ ∀ b i, b < w.heap.size → b ≠ R → w'.cell? ⟨b, i, none⟩ = w.cell? ⟨b, i, none⟩
theorem tilesP_mono (R j : Nat) (v : Value) (w w' : World) (hg : Grows R w w') (h : tilesP R j v w) : tilesP R j v w' := by
  unfold tilesP at *
  split at h
  · exact h
  · exact h
  · obtain ⟨b, e, h1, h2, h3⟩ := h
    exact ⟨b, e, h1, Nat.lt_of_lt_of_le h2 hg.1, fun i hi => (hg.2 b i h2 h1).trans (h3 i hi)⟩
  · obtain ⟨b, i, e, h0, h1, h2, h3⟩ := h
    exact ⟨b, i, e, h0, h1, Nat.lt_of_lt_of_le h2 hg.1, fun i hi => (hg.2 b i h2 h1).trans (h3 i hi)⟩
  · trivial
def indC (l : Array Bool) (j : Nat) : Nat := if l.getD j false = true then 1 else 0
/-- How many picks have come up. -/
def tilesC (l : Array Bool) : Nat := indC l 1 + indC l 3 + indC l 9 + indC l 14 + indC l 18
theorem indC_le (l : Array Bool) (j : Nat) : indC l j ≤ 1 := by unfold indC; split <;> omega
theorem indC_other {l : Array Bool} {i j : Nat} (h : i ≠ j) : indC (l.setIfInBounds i true) j = indC l j := by unfold indC; rw [getD_set_other _ h]
theorem indC_self {l : Array Bool} {i : Nat} (h : l.getD i true = false) : indC (l.setIfInBounds i true) i = indC l i + 1 := by
  have h1 := getD_set_self h
  have h2 : l.getD i false = false := by
    rcases Nat.lt_or_ge i l.size with hx | hx
    · simp [Array.getD_eq_getD_getElem?, hx] at h ⊢; exact h
    · simp [Array.getD_eq_getD_getElem?, Array.getElem?_eq_none hx]
  unfold indC; rw [if_pos h1, if_neg (by rw [h2]; simp)]
theorem tilesC_le (l : Array Bool) : tilesC l ≤ 5 := by
  have := indC_le l 1; have := indC_le l 3; have := indC_le l 9; have := indC_le l 14; have := indC_le l 18
  unfold tilesC; omega
theorem tilesC_other {l : Array Bool} {i : Nat} (h1 : i ≠ 1) (h3 : i ≠ 3) (h9 : i ≠ 9) (h14 : i ≠ 14) (h18 : i ≠ 18) : tilesC (l.setIfInBounds i true) = tilesC l := by
  unfold tilesC; rw [indC_other h1, indC_other h3, indC_other h9, indC_other h14, indC_other h18]
theorem tilesC_1 {l : Array Bool} (h : l.getD 1 true = false) : tilesC (l.setIfInBounds 1 true) = tilesC l + 1 := by
  unfold tilesC; rw [indC_self h, indC_other (i := 1) (j := 3) (by decide), indC_other (i := 1) (j := 9) (by decide), indC_other (i := 1) (j := 14) (by decide), indC_other (i := 1) (j := 18) (by decide)]; omega
theorem tilesC_3 {l : Array Bool} (h : l.getD 3 true = false) : tilesC (l.setIfInBounds 3 true) = tilesC l + 1 := by
  unfold tilesC; rw [indC_self h, indC_other (i := 3) (j := 1) (by decide), indC_other (i := 3) (j := 9) (by decide), indC_other (i := 3) (j := 14) (by decide), indC_other (i := 3) (j := 18) (by decide)]; omega
theorem tilesC_9 {l : Array Bool} (h : l.getD 9 true = false) : tilesC (l.setIfInBounds 9 true) = tilesC l + 1 := by
  unfold tilesC; rw [indC_self h, indC_other (i := 9) (j := 1) (by decide), indC_other (i := 9) (j := 3) (by decide), indC_other (i := 9) (j := 14) (by decide), indC_other (i := 9) (j := 18) (by decide)]; omega
theorem tilesC_14 {l : Array Bool} (h : l.getD 14 true = false) : tilesC (l.setIfInBounds 14 true) = tilesC l + 1 := by
  unfold tilesC; rw [indC_self h, indC_other (i := 14) (j := 1) (by decide), indC_other (i := 14) (j := 3) (by decide), indC_other (i := 14) (j := 9) (by decide), indC_other (i := 14) (j := 18) (by decide)]; omega
theorem tilesC_18 {l : Array Bool} (h : l.getD 18 true = false) : tilesC (l.setIfInBounds 18 true) = tilesC l + 1 := by
  unfold tilesC; rw [indC_self h, indC_other (i := 18) (j := 1) (by decide), indC_other (i := 18) (j := 3) (by decide), indC_other (i := 18) (j := 9) (by decide), indC_other (i := 18) (j := 14) (by decide)]; omega
set_option linter.unusedSimpArgs false in
set_option maxRecDepth 100000 in
set_option maxHeartbeats 8000000 in
theorem l20Tiles_any (R k : Nat) (w : World) (h : Rd w R k) (hk : k ≤ 900000) :
    Calls Try.prog 49 #[.pointer (some ⟨R, 0, none⟩)] w (TilesDrawn w R k) := by
  have hen : ∀ (args : Array Value) (w : World), (callFunc 46 args).run Try.prog w = .ok (.enter 46 args) w := enters_of Try.func46 (by kernel_rfl) rfl
  go_enter Try.func49, Try.ntmps49
  go_wp2_with fail
  rename_i K hK
  refine wp_region_slots (PP := tilesP R) (Grow := Grows R) (G := fun l w' => w.grownBy w' (some R) ∧ Rd w' R (k + tilesC l)) (by kernel_rfl) (dis_of (by kernel_rfl)) (b_of (by kernel_rfl)) (back_of (by kernel_rfl)) (fun j u w1 w2 hg hp => tilesP_mono R j u w1 w2 hg hp) ⟨gr_drew (gr_refl _ _), h⟩ ?step ?fin
  case step =>
    intro i o hi listed a w1 hS hG hall hl
    have hi25 : i < 25 := (Array.getElem?_eq_some_iff.1 hi).1
    rcases (show i = 0 ∨ i = 1 ∨ i = 2 ∨ i = 3 ∨ i = 4 ∨ i = 5 ∨ i = 6 ∨ i = 7 ∨ i = 8 ∨ i = 9 ∨ i = 10 ∨ i = 11 ∨ i = 12 ∨ i = 13 ∨ i = 14 ∨ i = 15 ∨ i = 16 ∨ i = 17 ∨ i = 18 ∨ i = 19 ∨ i = 20 ∨ i = 21 ∨ i = 22 ∨ i = 23 ∨ i = 24 by omega) with rfl | rfl | rfl | rfl | rfl | rfl | rfl | rfl | rfl | rfl | rfl | rfl | rfl | rfl | rfl | rfl | rfl | rfl | rfl | rfl | rfl | rfl | rfl | rfl | rfl
    · obtain rfl := Option.some.inj hi
      have e0 : a.eval (.tmp 0) = .pointer (some ⟨R, 0, none⟩) := hS.2.2.1 0 (noDst_of (by kernel_rfl))
      refine op_value (v := .pointer (some ⟨R, 0, none⟩)) (w' := w1) rfl rfl (by intro ev ht hc hf; rw [← ht] at e0; simp [execOp, hc, hf, e0, go_sem]) ⟨_, 5, rfl, rfl, rfl, ⟨Nat.le_refl _, fun _ _ _ _ => rfl⟩, ⟨hG.1, by rw [tilesC_other (by decide) (by decide) (by decide) (by decide) (by decide)]; exact hG.2⟩⟩
    · obtain rfl := Option.some.inj hi
      have P0 := hS.2.2.2 0 _ 5 rfl rfl (hall { on := 0, ground := .data } (by simp) rfl)
      replace P0 : a.eval (.tmp 5) = .pointer (some ⟨R, 0, none⟩) := P0
      refine op_enter rfl rfl (f := 46) (args := #[.pointer (some ⟨R, 0, none⟩), .int .i64 9]) (w' := w1) (by intro ev ht hc hf; rw [← ht] at P0; simp [execOp, hc, hf, P0, go_sem, hen]) ?_
      refine (pick_any R (k + tilesC listed) 9 w1 hG.2 (by have := tilesC_le listed; omega) (by omega)).mono ?_
      rintro e w2 ⟨v, rfl, va, vb, hR, hg⟩
      exact ⟨_, rfl, _, 6, rfl, rfl, ⟨v, rfl, va, by show v ≤ (8 : Int); omega⟩, ⟨hg.size, fun b j hb hne => World.cell?_of_block (a := ⟨b, j, none⟩) (hg.block b hb (by simpa using hne))⟩, gr_trans hG.1 hg, by rw [tilesC_1 hl]; exact hR⟩
    · obtain rfl := Option.some.inj hi
      have e0 : a.eval (.tmp 0) = .pointer (some ⟨R, 0, none⟩) := hS.2.2.1 0 (noDst_of (by kernel_rfl))
      refine op_value (v := .pointer (some ⟨R, 0, none⟩)) (w' := w1) rfl rfl (by intro ev ht hc hf; rw [← ht] at e0; simp [execOp, hc, hf, e0, go_sem]) ⟨_, 7, rfl, rfl, rfl, ⟨Nat.le_refl _, fun _ _ _ _ => rfl⟩, ⟨hG.1, by rw [tilesC_other (by decide) (by decide) (by decide) (by decide) (by decide)]; exact hG.2⟩⟩
    · obtain rfl := Option.some.inj hi
      have P2 := hS.2.2.2 2 _ 7 rfl rfl (hall { on := 2, ground := .data } (by simp) rfl)
      replace P2 : a.eval (.tmp 7) = .pointer (some ⟨R, 0, none⟩) := P2
      refine op_enter rfl rfl (f := 46) (args := #[.pointer (some ⟨R, 0, none⟩), .int .i64 20]) (w' := w1) (by intro ev ht hc hf; rw [← ht] at P2; simp [execOp, hc, hf, P2, go_sem, hen]) ?_
      refine (pick_any R (k + tilesC listed) 20 w1 hG.2 (by have := tilesC_le listed; omega) (by omega)).mono ?_
      rintro e w2 ⟨v, rfl, va, vb, hR, hg⟩
      exact ⟨_, rfl, _, 8, rfl, rfl, ⟨v, rfl, va, by show v ≤ (19 : Int); omega⟩, ⟨hg.size, fun b j hb hne => World.cell?_of_block (a := ⟨b, j, none⟩) (hg.block b hb (by simpa using hne))⟩, gr_trans hG.1 hg, by rw [tilesC_3 hl]; exact hR⟩
    · obtain rfl := Option.some.inj hi
      have P3 := hS.2.2.2 3 _ 8 rfl rfl (hall { on := 3, ground := .data } (by simp) rfl)
      obtain ⟨n3, e3, l3, h3⟩ := P3
      replace l3 : (0 : Int) ≤ n3 := l3
      replace h3 : n3 ≤ (19 : Int) := h3
      have vt : n3.tdiv 19 = n3 / 19 := Int.tdiv_eq_ediv_of_nonneg l3
      have vw : IntKind.i64.wrap (n3 / 19) = n3 / 19 := by rw [IntKind.wrap_i64]; omega
      refine op_value (v := .int .i64 (n3 / 19)) (w' := w1) rfl rfl (by intro ev ht hc hf; rw [← ht] at e3; simp [execOp, hc, hf, e3, vt, vw, go_sem]) ⟨_, 9, rfl, rfl, ⟨n3 / 19, rfl, by show (0 : Int) ≤ _; omega, by show _ ≤ (1 : Int); omega⟩, ⟨Nat.le_refl _, fun _ _ _ _ => rfl⟩, ⟨hG.1, by rw [tilesC_other (by decide) (by decide) (by decide) (by decide) (by decide)]; exact hG.2⟩⟩
    · obtain rfl := Option.some.inj hi
      have P4 := hS.2.2.2 4 _ 9 rfl rfl (hall { on := 4, ground := .data } (by simp) rfl)
      obtain ⟨n4, e4, l4, h4⟩ := P4
      replace l4 : (0 : Int) ≤ n4 := l4
      replace h4 : n4 ≤ (1 : Int) := h4
      have vw : IntKind.i64.wrap (n4 * 9) = n4 * 9 := by rw [IntKind.wrap_i64]; omega
      refine op_value (v := .int .i64 (n4 * 9)) (w' := w1) rfl rfl (by intro ev ht hc hf; rw [← ht] at e4; simp [execOp, hc, hf, e4, vw, go_sem]) ⟨_, 10, rfl, rfl, ⟨n4 * 9, rfl, by show (0 : Int) ≤ _; omega, by show _ ≤ (9 : Int); omega⟩, ⟨Nat.le_refl _, fun _ _ _ _ => rfl⟩, ⟨hG.1, by rw [tilesC_other (by decide) (by decide) (by decide) (by decide) (by decide)]; exact hG.2⟩⟩
    · obtain rfl := Option.some.inj hi
      have P1 := hS.2.2.2 1 _ 6 rfl rfl (hall { on := 1, ground := .data } (by simp) rfl)
      obtain ⟨n1, e1, l1, h1⟩ := P1
      replace l1 : (0 : Int) ≤ n1 := l1
      replace h1 : n1 ≤ (8 : Int) := h1
      have P5 := hS.2.2.2 5 _ 10 rfl rfl (hall { on := 5, ground := .data } (by simp) rfl)
      obtain ⟨n5, e5, l5, h5⟩ := P5
      replace l5 : (0 : Int) ≤ n5 := l5
      replace h5 : n5 ≤ (9 : Int) := h5
      have vw : IntKind.i64.wrap (n1 + n5) = n1 + n5 := by rw [IntKind.wrap_i64]; omega
      refine op_value (v := .int .i64 (n1 + n5)) (w' := w1) rfl rfl (by intro ev ht hc hf; rw [← ht] at e1 e5; simp [execOp, hc, hf, e1, e5, vw, go_sem]) ⟨_, 11, rfl, rfl, ⟨n1 + n5, rfl, by show (0 : Int) ≤ _; omega, by show _ ≤ (20 : Int); omega⟩, ⟨Nat.le_refl _, fun _ _ _ _ => rfl⟩, ⟨hG.1, by rw [tilesC_other (by decide) (by decide) (by decide) (by decide) (by decide)]; exact hG.2⟩⟩
    · obtain rfl := Option.some.inj hi
      refine op_value (v := .slice (some ⟨w1.heap.size, 0, none⟩) 5 5) (w' := w1.alloc (.cells #[.int .i64 1, .int .i64 1, .int .i64 2, .int .i64 3, .int .i64 0] 3)) rfl rfl (by intro ev ht hc hf; simp [execOp, ht, hc, hf, go_sem]) ⟨_, 12, rfl, rfl, ⟨w1.heap.size, rfl, by have := hG.2.lt; omega, by simp, fun j hj => World.cell?_alloc_mark _ _ _ _ _⟩, ⟨by simp, fun b j hb _ => World.cell?_alloc_past _ _ _ hb⟩, gr_alloc hG.1 _, by rw [tilesC_other (by decide) (by decide) (by decide) (by decide) (by decide)]; exact hG.2.alloc _⟩
    · obtain rfl := Option.some.inj hi
      have e0 : a.eval (.tmp 0) = .pointer (some ⟨R, 0, none⟩) := hS.2.2.1 0 (noDst_of (by kernel_rfl))
      refine op_value (v := .pointer (some ⟨R, 0, none⟩)) (w' := w1) rfl rfl (by intro ev ht hc hf; rw [← ht] at e0; simp [execOp, hc, hf, e0, go_sem]) ⟨_, 13, rfl, rfl, rfl, ⟨Nat.le_refl _, fun _ _ _ _ => rfl⟩, ⟨hG.1, by rw [tilesC_other (by decide) (by decide) (by decide) (by decide) (by decide)]; exact hG.2⟩⟩
    · obtain rfl := Option.some.inj hi
      have P8 := hS.2.2.2 8 _ 13 rfl rfl (hall { on := 8, ground := .data } (by simp) rfl)
      replace P8 : a.eval (.tmp 13) = .pointer (some ⟨R, 0, none⟩) := P8
      refine op_enter rfl rfl (f := 46) (args := #[.pointer (some ⟨R, 0, none⟩), .int .i64 5]) (w' := w1) (by intro ev ht hc hf; rw [← ht] at P8; simp [execOp, hc, hf, P8, go_sem, hen]) ?_
      refine (pick_any R (k + tilesC listed) 5 w1 hG.2 (by have := tilesC_le listed; omega) (by omega)).mono ?_
      rintro e w2 ⟨v, rfl, va, vb, hR, hg⟩
      exact ⟨_, rfl, _, 14, rfl, rfl, ⟨v, rfl, va, by show v ≤ (4 : Int); omega⟩, ⟨hg.size, fun b j hb hne => World.cell?_of_block (a := ⟨b, j, none⟩) (hg.block b hb (by simpa using hne))⟩, gr_trans hG.1 hg, by rw [tilesC_9 hl]; exact hR⟩
    · obtain rfl := Option.some.inj hi
      have P7 := hS.2.2.2 7 _ 12 rfl rfl (hall { on := 7, ground := .data } (by simp) rfl)
      obtain ⟨b7, eb, hbR, hbl, hbc⟩ := P7
      have P9 := hS.2.2.2 9 _ 14 rfl rfl (hall { on := 9, ground := .data } (by simp) rfl)
      obtain ⟨n9, e9, l9, h9⟩ := P9
      replace l9 : (0 : Int) ≤ n9 := l9
      replace h9 : n9 ≤ (4 : Int) := h9
      have hb4 : n9 < 5 := by omega
      refine op_value (v := .pointer (some ⟨b7, n9.toNat, none⟩)) (w' := w1) rfl rfl (by intro ev ht hc hf; rw [← ht] at eb e9; simp [execOp, hc, hf, eb, e9, go_sem, l9, hb4]) ⟨_, 15, rfl, rfl, ⟨b7, n9.toNat, rfl, by omega, hbR, hbl, hbc⟩, ⟨Nat.le_refl _, fun _ _ _ _ => rfl⟩, ⟨hG.1, by rw [tilesC_other (by decide) (by decide) (by decide) (by decide) (by decide)]; exact hG.2⟩⟩
    · obtain rfl := Option.some.inj hi
      have P10 := hS.2.2.2 10 _ 15 rfl rfl (hall { on := 10, ground := .data } (by simp) rfl)
      obtain ⟨b, j, ep, hj5, hbR, hbl, hbc⟩ := P10
      obtain ⟨n, hn, n0, n3⟩ := five_num hj5
      have hcl : w1.cell? ⟨b, j, none⟩ = some (.int .i64 n) := (hbc j hj5).trans hn
      refine op_value (v := .int .i64 n) (w' := w1) rfl rfl (by intro ev ht hc hf; rw [← ht] at ep; simp [execOp, hc, hf, ep, go_sem, hcl]) ⟨_, 16, rfl, rfl, ⟨n, rfl, n0, n3⟩, ⟨Nat.le_refl _, fun _ _ _ _ => rfl⟩, ⟨hG.1, by rw [tilesC_other (by decide) (by decide) (by decide) (by decide) (by decide)]; exact hG.2⟩⟩
    · obtain rfl := Option.some.inj hi
      refine op_value (v := .slice (some ⟨w1.heap.size, 0, none⟩) 5 5) (w' := w1.alloc (.cells #[.int .i64 1, .int .i64 1, .int .i64 2, .int .i64 3, .int .i64 0] 3)) rfl rfl (by intro ev ht hc hf; simp [execOp, ht, hc, hf, go_sem]) ⟨_, 17, rfl, rfl, ⟨w1.heap.size, rfl, by have := hG.2.lt; omega, by simp, fun j hj => World.cell?_alloc_mark _ _ _ _ _⟩, ⟨by simp, fun b j hb _ => World.cell?_alloc_past _ _ _ hb⟩, gr_alloc hG.1 _, by rw [tilesC_other (by decide) (by decide) (by decide) (by decide) (by decide)]; exact hG.2.alloc _⟩
    · obtain rfl := Option.some.inj hi
      have e0 : a.eval (.tmp 0) = .pointer (some ⟨R, 0, none⟩) := hS.2.2.1 0 (noDst_of (by kernel_rfl))
      refine op_value (v := .pointer (some ⟨R, 0, none⟩)) (w' := w1) rfl rfl (by intro ev ht hc hf; rw [← ht] at e0; simp [execOp, hc, hf, e0, go_sem]) ⟨_, 18, rfl, rfl, rfl, ⟨Nat.le_refl _, fun _ _ _ _ => rfl⟩, ⟨hG.1, by rw [tilesC_other (by decide) (by decide) (by decide) (by decide) (by decide)]; exact hG.2⟩⟩
    · obtain rfl := Option.some.inj hi
      have P13 := hS.2.2.2 13 _ 18 rfl rfl (hall { on := 13, ground := .data } (by simp) rfl)
      replace P13 : a.eval (.tmp 18) = .pointer (some ⟨R, 0, none⟩) := P13
      refine op_enter rfl rfl (f := 46) (args := #[.pointer (some ⟨R, 0, none⟩), .int .i64 5]) (w' := w1) (by intro ev ht hc hf; rw [← ht] at P13; simp [execOp, hc, hf, P13, go_sem, hen]) ?_
      refine (pick_any R (k + tilesC listed) 5 w1 hG.2 (by have := tilesC_le listed; omega) (by omega)).mono ?_
      rintro e w2 ⟨v, rfl, va, vb, hR, hg⟩
      exact ⟨_, rfl, _, 19, rfl, rfl, ⟨v, rfl, va, by show v ≤ (4 : Int); omega⟩, ⟨hg.size, fun b j hb hne => World.cell?_of_block (a := ⟨b, j, none⟩) (hg.block b hb (by simpa using hne))⟩, gr_trans hG.1 hg, by rw [tilesC_14 hl]; exact hR⟩
    · obtain rfl := Option.some.inj hi
      have P12 := hS.2.2.2 12 _ 17 rfl rfl (hall { on := 12, ground := .data } (by simp) rfl)
      obtain ⟨b12, eb, hbR, hbl, hbc⟩ := P12
      have P14 := hS.2.2.2 14 _ 19 rfl rfl (hall { on := 14, ground := .data } (by simp) rfl)
      obtain ⟨n14, e14, l14, h14⟩ := P14
      replace l14 : (0 : Int) ≤ n14 := l14
      replace h14 : n14 ≤ (4 : Int) := h14
      have hb4 : n14 < 5 := by omega
      refine op_value (v := .pointer (some ⟨b12, n14.toNat, none⟩)) (w' := w1) rfl rfl (by intro ev ht hc hf; rw [← ht] at eb e14; simp [execOp, hc, hf, eb, e14, go_sem, l14, hb4]) ⟨_, 20, rfl, rfl, ⟨b12, n14.toNat, rfl, by omega, hbR, hbl, hbc⟩, ⟨Nat.le_refl _, fun _ _ _ _ => rfl⟩, ⟨hG.1, by rw [tilesC_other (by decide) (by decide) (by decide) (by decide) (by decide)]; exact hG.2⟩⟩
    · obtain rfl := Option.some.inj hi
      have P15 := hS.2.2.2 15 _ 20 rfl rfl (hall { on := 15, ground := .data } (by simp) rfl)
      obtain ⟨b, j, ep, hj5, hbR, hbl, hbc⟩ := P15
      obtain ⟨n, hn, n0, n3⟩ := five_num hj5
      have hcl : w1.cell? ⟨b, j, none⟩ = some (.int .i64 n) := (hbc j hj5).trans hn
      refine op_value (v := .int .i64 n) (w' := w1) rfl rfl (by intro ev ht hc hf; rw [← ht] at ep; simp [execOp, hc, hf, ep, go_sem, hcl]) ⟨_, 21, rfl, rfl, ⟨n, rfl, n0, n3⟩, ⟨Nat.le_refl _, fun _ _ _ _ => rfl⟩, ⟨hG.1, by rw [tilesC_other (by decide) (by decide) (by decide) (by decide) (by decide)]; exact hG.2⟩⟩
    · obtain rfl := Option.some.inj hi
      have e0 : a.eval (.tmp 0) = .pointer (some ⟨R, 0, none⟩) := hS.2.2.1 0 (noDst_of (by kernel_rfl))
      refine op_value (v := .pointer (some ⟨R, 0, none⟩)) (w' := w1) rfl rfl (by intro ev ht hc hf; rw [← ht] at e0; simp [execOp, hc, hf, e0, go_sem]) ⟨_, 22, rfl, rfl, rfl, ⟨Nat.le_refl _, fun _ _ _ _ => rfl⟩, ⟨hG.1, by rw [tilesC_other (by decide) (by decide) (by decide) (by decide) (by decide)]; exact hG.2⟩⟩
    · obtain rfl := Option.some.inj hi
      have P17 := hS.2.2.2 17 _ 22 rfl rfl (hall { on := 17, ground := .data } (by simp) rfl)
      replace P17 : a.eval (.tmp 22) = .pointer (some ⟨R, 0, none⟩) := P17
      refine op_enter rfl rfl (f := 46) (args := #[.pointer (some ⟨R, 0, none⟩), .int .i64 20]) (w' := w1) (by intro ev ht hc hf; rw [← ht] at P17; simp [execOp, hc, hf, P17, go_sem, hen]) ?_
      refine (pick_any R (k + tilesC listed) 20 w1 hG.2 (by have := tilesC_le listed; omega) (by omega)).mono ?_
      rintro e w2 ⟨v, rfl, va, vb, hR, hg⟩
      exact ⟨_, rfl, _, 23, rfl, rfl, ⟨v, rfl, va, by show v ≤ (19 : Int); omega⟩, ⟨hg.size, fun b j hb hne => World.cell?_of_block (a := ⟨b, j, none⟩) (hg.block b hb (by simpa using hne))⟩, gr_trans hG.1 hg, by rw [tilesC_18 hl]; exact hR⟩
    · obtain rfl := Option.some.inj hi
      have P18 := hS.2.2.2 18 _ 23 rfl rfl (hall { on := 18, ground := .data } (by simp) rfl)
      obtain ⟨n18, e18, l18, h18⟩ := P18
      replace l18 : (0 : Int) ≤ n18 := l18
      replace h18 : n18 ≤ (19 : Int) := h18
      have vt : n18.tdiv 19 = n18 / 19 := Int.tdiv_eq_ediv_of_nonneg l18
      have vw : IntKind.i64.wrap (n18 / 19) = n18 / 19 := by rw [IntKind.wrap_i64]; omega
      refine op_value (v := .int .i64 (n18 / 19)) (w' := w1) rfl rfl (by intro ev ht hc hf; rw [← ht] at e18; simp [execOp, hc, hf, e18, vt, vw, go_sem]) ⟨_, 24, rfl, rfl, ⟨n18 / 19, rfl, by show (0 : Int) ≤ _; omega, by show _ ≤ (1 : Int); omega⟩, ⟨Nat.le_refl _, fun _ _ _ _ => rfl⟩, ⟨hG.1, by rw [tilesC_other (by decide) (by decide) (by decide) (by decide) (by decide)]; exact hG.2⟩⟩
    · obtain rfl := Option.some.inj hi
      have P19 := hS.2.2.2 19 _ 24 rfl rfl (hall { on := 19, ground := .data } (by simp) rfl)
      obtain ⟨n19, e19, l19, h19⟩ := P19
      replace l19 : (0 : Int) ≤ n19 := l19
      replace h19 : n19 ≤ (1 : Int) := h19
      have vw : IntKind.i64.wrap (n19 * 4) = n19 * 4 := by rw [IntKind.wrap_i64]; omega
      refine op_value (v := .int .i64 (n19 * 4)) (w' := w1) rfl rfl (by intro ev ht hc hf; rw [← ht] at e19; simp [execOp, hc, hf, e19, vw, go_sem]) ⟨_, 25, rfl, rfl, ⟨n19 * 4, rfl, by show (0 : Int) ≤ _; omega, by show _ ≤ (4 : Int); omega⟩, ⟨Nat.le_refl _, fun _ _ _ _ => rfl⟩, ⟨hG.1, by rw [tilesC_other (by decide) (by decide) (by decide) (by decide) (by decide)]; exact hG.2⟩⟩
    · obtain rfl := Option.some.inj hi
      have P16 := hS.2.2.2 16 _ 21 rfl rfl (hall { on := 16, ground := .data } (by simp) rfl)
      obtain ⟨n16, e16, l16, h16⟩ := P16
      replace l16 : (0 : Int) ≤ n16 := l16
      replace h16 : n16 ≤ (3 : Int) := h16
      have P20 := hS.2.2.2 20 _ 25 rfl rfl (hall { on := 20, ground := .data } (by simp) rfl)
      obtain ⟨n20, e20, l20, h20⟩ := P20
      replace l20 : (0 : Int) ≤ n20 := l20
      replace h20 : n20 ≤ (4 : Int) := h20
      have vw : IntKind.i64.wrap (n16 - n20) = n16 - n20 := by rw [IntKind.wrap_i64]; omega
      refine op_value (v := .int .i64 (n16 - n20)) (w' := w1) rfl rfl (by intro ev ht hc hf; rw [← ht] at e16 e20; simp [execOp, hc, hf, e16, e20, vw, go_sem]) ⟨_, 26, rfl, rfl, ⟨n16 - n20, rfl, by show (-4 : Int) ≤ _; omega, by show _ ≤ (3 : Int); omega⟩, ⟨Nat.le_refl _, fun _ _ _ _ => rfl⟩, ⟨hG.1, by rw [tilesC_other (by decide) (by decide) (by decide) (by decide) (by decide)]; exact hG.2⟩⟩
    · obtain rfl := Option.some.inj hi
      have P6 := hS.2.2.2 6 _ 11 rfl rfl (hall { on := 6, ground := .data } (by simp) rfl)
      obtain ⟨n6, e6, l6, h6⟩ := P6
      replace l6 : (0 : Int) ≤ n6 := l6
      replace h6 : n6 ≤ (20 : Int) := h6
      refine op_value (v := .int .i64 n6) (w' := w1) rfl rfl (by intro ev ht hc hf; rw [← ht] at e6; simp [execOp, hc, hf, e6, go_sem]) ⟨_, 2, rfl, rfl, ⟨n6, rfl, by show (0 : Int) ≤ _; omega, by show _ ≤ (20 : Int); omega⟩, ⟨Nat.le_refl _, fun _ _ _ _ => rfl⟩, ⟨hG.1, by rw [tilesC_other (by decide) (by decide) (by decide) (by decide) (by decide)]; exact hG.2⟩⟩
    · obtain rfl := Option.some.inj hi
      have P11 := hS.2.2.2 11 _ 16 rfl rfl (hall { on := 11, ground := .data } (by simp) rfl)
      obtain ⟨n11, e11, l11, h11⟩ := P11
      replace l11 : (0 : Int) ≤ n11 := l11
      replace h11 : n11 ≤ (3 : Int) := h11
      refine op_value (v := .int .i64 n11) (w' := w1) rfl rfl (by intro ev ht hc hf; rw [← ht] at e11; simp [execOp, hc, hf, e11, go_sem]) ⟨_, 3, rfl, rfl, ⟨n11, rfl, by show (0 : Int) ≤ _; omega, by show _ ≤ (3 : Int); omega⟩, ⟨Nat.le_refl _, fun _ _ _ _ => rfl⟩, ⟨hG.1, by rw [tilesC_other (by decide) (by decide) (by decide) (by decide) (by decide)]; exact hG.2⟩⟩
    · obtain rfl := Option.some.inj hi
      have P21 := hS.2.2.2 21 _ 26 rfl rfl (hall { on := 21, ground := .data } (by simp) rfl)
      obtain ⟨n21, e21, l21, h21⟩ := P21
      replace l21 : (-4 : Int) ≤ n21 := l21
      replace h21 : n21 ≤ (3 : Int) := h21
      refine op_value (v := .int .i64 n21) (w' := w1) rfl rfl (by intro ev ht hc hf; rw [← ht] at e21; simp [execOp, hc, hf, e21, go_sem]) ⟨_, 4, rfl, rfl, ⟨n21, rfl, by show (-4 : Int) ≤ _; omega, by show _ ≤ (3 : Int); omega⟩, ⟨Nat.le_refl _, fun _ _ _ _ => rfl⟩, ⟨hG.1, by rw [tilesC_other (by decide) (by decide) (by decide) (by decide) (by decide)]; exact hG.2⟩⟩
  case fin =>
    intro listed a w1 hall hS hG
    obtain ⟨c, e2, c0, c9⟩ := hS.2.2.2 22 _ 2 rfl rfl (hall 22 (by decide))
    obtain ⟨x, e3, x0, x9⟩ := hS.2.2.2 23 _ 3 rfl rfl (hall 23 (by decide))
    obtain ⟨y, e4, y0, y9⟩ := hS.2.2.2 24 _ 4 rfl rfl (hall 24 (by decide))
    replace c0 : (0 : Int) ≤ c := c0
    replace c9 : c ≤ (20 : Int) := c9
    have hd := hS.1
    have hRR := hG.2.mono (show k + tilesC listed ≤ k + 5 by have := tilesC_le listed; omega)
    have hgg := hG.1
    have q2 : a.tmps[2]?.getD undef = .int .i64 c := by rw [Act.eval, Array.getD_eq_getD_getElem?] at e2; exact e2
    have q3 : a.tmps[3]?.getD undef = .int .i64 x := by rw [Act.eval, Array.getD_eq_getD_getElem?] at e3; exact e3
    have q4 : a.tmps[4]?.getD undef = .int .i64 y := by rw [Act.eval, Array.getD_eq_getD_getElem?] at e4; exact e4
    refine hK a w1 (wp_ret ?_)
    refine bodyPost_ret (P := Try.prog) (fn := Try.f49) (R := TilesDrawn w R k) (v := .tuple #[.int .i64 c, .int .i64 x, .int .i64 y]) ?_ hd ⟨c, x, y, rfl, ⟨c0, by omega⟩, hRR, hgg⟩
    simp [results, Try.results49, go_sem, q2, q3, q4]
end Go.Proofs.Ytlmlcbhllodncaa
