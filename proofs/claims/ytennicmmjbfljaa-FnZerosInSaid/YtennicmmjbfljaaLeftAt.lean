/- leftAt of the program: what is left of two numbers beside each other, by the bits of the place. -/
import Derived.Test.YtennicmmjbfljaaLeftBits
import Derived.Test.YtennicmmjbfljaaLeftParts
namespace Go.Proofs.Ytennicmmjbfljaa
open Go.RowKit Go.Shelf
attribute [local go_sem] Oper.semAt_some
theorem keepsOthers_below {W W' : World} (h : Below W.heap.size W W') : KeepsOthers W W' := ⟨h.size, fun j _ hj _ => (h.block j (Array.getElem?_eq_some_iff.1 hj).1).trans hj⟩
theorem cell_below {W W' : World} {a : Addr} {v : Value} (hb : Below W.heap.size W W') (h : W.cell? a = some v) : W'.cell? a = some v := (hb.cell (p := a) (World.block_lt_of_cell? W a h)).trans h
theorem frozen_below {W W' : World} {a : Addr} {v : Value} (hb : Below W.heap.size W W') (h : W.cell? a = some v) (hf : W.frozen? a = false) : W'.frozen? a = false := (hb.frozen (p := a) (World.block_lt_of_cell? W a h)).trans hf
/-- The place that the bits tell when j of them have come. -/
def placeBy (k j : Nat) : Nat := k / 2 ^ (Lib.bitLen k - j)
theorem placeBy_zero (k : Nat) (hk : k ≤ 1000000000) : placeBy k 0 = 0 := Nat.div_eq_of_lt (bitLen_lt k hk)
theorem placeBy_all (k : Nat) : placeBy k (Lib.bitLen k) = k := by simp [placeBy]
theorem placeBy_succ (k j : Nat) (hj : j < Lib.bitLen k) : placeBy k (j + 1) = 2 * placeBy k j + (if bitB k j = true then 1 else 0) := by
  obtain ⟨g, hg⟩ : ∃ g, Lib.bitLen k = j + (g + 1) := ⟨Lib.bitLen k - j - 1, by omega⟩
  simp only [placeBy, bitB, hg, show j + (g + 1) - (j + 1) = g by omega, show j + (g + 1) - j = g + 1 by omega, show j + (g + 1) - 1 - j = g by omega, decide_eq_true_iff]
  rw [Nat.pow_succ, ← Nat.div_div_eq_div_mul]
  generalize k / 2 ^ g = z
  split <;> omega
theorem far_even' (p q m : Int) (k : Nat) : (row p q 0 1 (k + 1) % m * (row p q 0 1 (k + 1) % m) - q * (row p q 0 1 k % m) * (row p q 0 1 k % m)) % m = row p q 0 1 (2 * k + 1) % m := by
  refine Eqm.left ?_
  rw [show 2 * k + 1 = k + 1 + k by omega, ← row_add]
  exact ((eqm_left m _).mul (eqm_left m _)).sub (((Eqm.refl m q).mul (eqm_left m _)).mul (eqm_left m _))
/-- What lies in the function's boxes: the pair, the number, what it will return, the place. -/
def LeftBoxes (B S : Nat) (p q m : Int) (k : Nat) (W : World) : Prop :=
  (W.cell? ⟨B, 0, none⟩ = some (.int .i64 p) ∧ W.cell? ⟨B, 1, none⟩ = some (.int .i64 q) ∧ W.cell? ⟨B + 1, 0, none⟩ = some (.int .i64 m)) ∧
  (W.cell? ⟨B + 1 + 1, 0, none⟩ = some (.int .i64 0) ∧ W.cell? ⟨B + 1 + 1, 1, none⟩ = some (.int .i64 0) ∧ W.frozen? ⟨B + 1 + 1, 0, none⟩ = false ∧ W.frozen? ⟨B + 1 + 1, 1, none⟩ = false) ∧
  W.cell? ⟨S + 1, 0, none⟩ = some (.int .i64 k)
/-- The state of two numbers. -/
def StateIs (S : Nat) (x y : Int) (W : World) : Prop :=
  W.cell? ⟨S, 0, none⟩ = some (.int .i64 x) ∧ W.cell? ⟨S, 1, none⟩ = some (.int .i64 y) ∧ W.frozen? ⟨S, 0, none⟩ = false ∧ W.frozen? ⟨S, 1, none⟩ = false
theorem LeftBoxes.below {B S : Nat} {p q m : Int} {k : Nat} {W W' : World} (h : LeftBoxes B S p q m k W) (hb : Below W.heap.size W W') : LeftBoxes B S p q m k W' := by
  obtain ⟨⟨x1, x2, x3⟩, ⟨x4, x5, x6, x7⟩, x8⟩ := h
  exact ⟨⟨cell_below hb x1, cell_below hb x2, cell_below hb x3⟩, ⟨cell_below hb x4, cell_below hb x5, frozen_below hb x4 x6, frozen_below hb x5 x7⟩, cell_below hb x8⟩
theorem LeftBoxes.set {B S : Nat} {p q m : Int} {k : Nat} {W : World} (h : LeftBoxes B S p q m k W) (hS : B + 1 + 1 < S) (o : Nat) (v : Value) : LeftBoxes B S p q m k (W.setCell ⟨S, o, none⟩ v) := by
  obtain ⟨⟨x1, x2, x3⟩, ⟨x4, x5, x6, x7⟩, x8⟩ := h
  exact ⟨⟨(set_other (by omega)).trans x1, (set_other (by omega)).trans x2, (set_other (by omega)).trans x3⟩, ⟨(set_other (by omega)).trans x4, (set_other (by omega)).trans x5, set_frozen x6, set_frozen x7⟩, (set_other (by omega)).trans x8⟩
theorem LeftBoxes.kept {B S : Nat} {p q m : Int} {k : Nat} {A V : World} {row : Option Nat} (h : LeftBoxes B S p q m k A) (hg : A.grownBy V row) (hr : ∀ r, row = some r → ∃ o : Obj, A.heap[r]? = some o ∧ o.isCells = false) : LeftBoxes B S p q m k V := by
  obtain ⟨⟨x1, x2, x3⟩, ⟨x4, x5, x6, x7⟩, x8⟩ := h
  exact ⟨⟨cell_kept x1 hg hr, cell_kept x2 hg hr, cell_kept x3 hg hr⟩, ⟨cell_kept x4 hg hr, cell_kept x5 hg hr, (frozen_kept x4 hg hr).trans x6, (frozen_kept x5 hg hr).trans x7⟩, cell_kept x8 hg hr⟩
theorem StateIs.below {S : Nat} {x y : Int} {W W' : World} (h : StateIs S x y W) (hb : Below W.heap.size W W') : StateIs S x y W' :=
  ⟨cell_below hb h.1, cell_below hb h.2.1, frozen_below hb h.1 h.2.2.1, frozen_below hb h.2.1 h.2.2.2⟩
theorem StateIs.set {S : Nat} {x y : Int} {W : World} (h : StateIs S x y W) (x' y' : Int) : StateIs S x' y' ((W.setCell ⟨S, 0, none⟩ (.int .i64 x')).setCell ⟨S, 1, none⟩ (.int .i64 y')) :=
  ⟨(World.cell?_setCell_other _ ⟨S, 1, none⟩ ⟨S, 0, none⟩ _ (fun e => by injection e; omega)).trans (set_same h.1), set_same ((World.cell?_setCell_other _ ⟨S, 0, none⟩ ⟨S, 1, none⟩ _ (fun e => by injection e; omega)).trans h.2.1), set_frozen (set_frozen h.2.2.1), set_frozen (set_frozen h.2.2.2)⟩
theorem StateIs.kept {S : Nat} {x y : Int} {A V : World} {row : Option Nat} (h : StateIs S x y A) (hg : A.grownBy V row) (hr : ∀ r, row = some r → ∃ o : Obj, A.heap[r]? = some o ∧ o.isCells = false) : StateIs S x y V :=
  ⟨cell_kept h.1 hg hr, cell_kept h.2.1 hg hr, (frozen_kept h.1 hg hr).trans h.2.2.1, (frozen_kept h.2.1 hg hr).trans h.2.2.2⟩
end Go.Proofs.Ytennicmmjbfljaa
