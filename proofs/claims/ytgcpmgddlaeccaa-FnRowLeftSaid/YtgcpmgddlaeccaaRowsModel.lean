/- The rows of the model: l1Rows lays both rows, number by number. -/
import Derived.Test.YtgcpmgddlaeccaaPairMore
import Derived.Deep.QuietTactic
import Derived.BigQuiet
import Derived.IntWalk
import Derived.Deep.RegionHeld3
import Derived.Deep.AppendLies
import Derived.Test.YtgcpmgddlaeccaaAppend
namespace Go.Proofs.Ytgcpmgddlaeccaa
open Go.RowKit
theorem info_int : (Try.prog.info? 3).map (fun i => (i.zero, i.size, i.bytes)) = some (some (.int .i64 0), 1, 8) := by kernel_rfl
/-- The first n numbers of a row, as cells. -/
def rowCells (p q a b : Int) (n : Nat) : List Value := (List.range n).map fun i => .int .i64 (row p q a b i)
theorem rowCells_length (p q a b : Int) (n : Nat) : (rowCells p q a b n).length = n := by simp [rowCells]
theorem rowCells_snoc (p q a b : Int) (n : Nat) : rowCells p q a b n ++ [.int .i64 (row p q a b n)] = rowCells p q a b (n + 1) := by simp [rowCells, List.range_succ]
theorem rowCells_get (p q a b : Int) (n i : Nat) (h : i < n) : (rowCells p q a b n)[i]? = some (.int .i64 (row p q a b i)) := by simp [rowCells, h]
theorem row_small {p q a b : Int} (hp : -4 ≤ p) (hp' : p ≤ 4) (hq : -4 ≤ q) (hq' : q ≤ 4) (ha : -4 ≤ a) (ha' : a ≤ 4) (hb : -4 ≤ b) (hb' : b ≤ 4) (n : Nat) (hn : n ≤ 22) : -10000000000000000 ≤ row p q a b n ∧ row p q a b n ≤ 10000000000000000 := by
  have h := (row_bd (a := a) (b := b) hp hp' hq hq' (c := 4) (by omega) ha ha' (by omega) (by omega) n).1
  have mono : ∀ n, n ≤ 22 → cap 4 n ≤ cap 4 22 := by
    have step : ∀ n, cap 4 n ≤ cap 4 (n + 1) := fun n => by have := cap_nonneg (c := 4) (by omega) n; simp only [cap]; omega
    intro n hn
    have : ∀ d, cap 4 n ≤ cap 4 (n + d) := fun d => by
      induction d with
      | zero => exact Int.le_refl _
      | succ d ih => exact Int.le_trans ih (step _)
    have := this (22 - n)
    rwa [show n + (22 - n) = 22 by omega] at this
  have m := mono n hn
  have e : cap 4 22 = 9536743164062500 := by decide +kernel
  omega
/-- The products and the next number of a row, within int's bounds. -/
theorem row_next {p q a b : Int} (hp : -4 ≤ p) (hp' : p ≤ 4) (hq : -4 ≤ q) (hq' : q ≤ 4) (ha : -4 ≤ a) (ha' : a ≤ 4) (hb : -4 ≤ b) (hb' : b ≤ 4) (n : Nat) (hn : n ≤ 21) :
    (-40000000000000000 ≤ p * row p q a b (n + 1) ∧ p * row p q a b (n + 1) ≤ 40000000000000000) ∧ (-40000000000000000 ≤ q * row p q a b n ∧ q * row p q a b n ≤ 40000000000000000) := by
  obtain ⟨h1, h2⟩ := row_small hp hp' hq hq' ha ha' hb hb' (n + 1) (by omega)
  obtain ⟨h3, h4⟩ := row_small hp hp' hq hq' ha ha' hb hb' n (by omega)
  obtain ⟨m1, m2⟩ := mul_bd (a := 4) hp hp' h1 h2
  obtain ⟨m3, m4⟩ := mul_bd (a := 4) hq hq' h3 h4
  omega
theorem own2 {w : World} {base g : Nat} {x y : Value} (hb : base ≤ g) (h : w.heap[g]? = some (.cells #[x, y] 3 (0, 0))) : w.ownsRow base 3 1 (.slice (some ⟨g, 0, none⟩) 2 2) 2 [x, y] :=
  ⟨rfl, .inr ⟨g, 2, #[x, y], rfl, hb, h, Nat.le_refl _, by unfold maxLen; omega, rfl, rfl⟩⟩
theorem own_get {w : World} {base g c n : Nat} {p q a b : Int} {v : Value} (h : w.ownsRow base 3 1 v n (rowCells p q a b n)) (hv : v = .slice (some ⟨g, 0, none⟩) n c) {i : Nat} (hi : i < n) : w.cell? ⟨g, i, none⟩ = some (.int .i64 (row p q a b i)) := by
  subst hv
  have := h.cells rfl i _ (rowCells_get p q a b n i hi)
  by_cases h0 : i = 0
  · subst h0; simpa [Addr.add] using this
  · simpa [Addr.add, h0] using this
theorem own_cell {w : World} {g i : Nat} {xs : List Value} {u : Value} (h : ∀ j u, xs[j]? = some u → w.cell? ((⟨g, 0, none⟩ : Addr).add j) = some u) (hi : xs[i]? = some u) : w.cell? ⟨g, i, none⟩ = some u := by
  have := h i u hi
  by_cases h0 : i = 0
  · subst h0; simpa [Addr.add] using this
  · simpa [Addr.add, h0] using this
/-- What l1Rows returns for a place. -/
def Rows2 (p q : Int) (m : Nat) (w : World) (e : Ending) (w' : World) : Prop :=
  ∃ gu cu gv cv : Nat, e = .returned (.tuple #[.slice (some ⟨gu, 0, none⟩) (m + 1) cu, .slice (some ⟨gv, 0, none⟩) (m + 1) cv]) ∧ w.heap.size ≤ gu ∧ w.heap.size ≤ gv ∧
    (∀ i, i ≤ m → w'.cell? ⟨gu, i, none⟩ = some (.int .i64 (row p q 0 1 i))) ∧ (∀ i, i ≤ m → w'.cell? ⟨gv, i, none⟩ = some (.int .i64 (row p q 2 p i))) ∧ Below w.heap.size w w'
end Go.Proofs.Ytgcpmgddlaeccaa
