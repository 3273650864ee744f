/- Contracts and laws that the statement's proof stands on, one text behind the other. -/
import Derived.Test.YtblphilcmfabkaaGreatDoorAla0c

namespace Go.Proofs.YtblphilcmfabkaaGreatDoor
open Go.RowKit Go.Shelf
attribute [local go_sem] Oper.semAt_some
theorem wide_fn (k : FuncId) : Fence.wide.fn k = True := rfl
attribute [local go_sem] wide_fn
def WhereBoxes (w : World) (p q : Int) (fv : Value) (X : List (Addr × Value)) (t : Nat) (W : World) : Prop :=
 (W.cell? ⟨w.heap.size + 1 + 1, 0, none⟩ = some (.int .u32 t) ∧ W.frozen? ⟨w.heap.size + 1 + 1, 0, none⟩ = false) ∧
 (W.cell? ⟨w.heap.size, 0, none⟩ = some (.int .i64 p) ∧ W.cell? ⟨w.heap.size, 1, none⟩ = some (.int .i64 q) ∧ W.cell? ⟨w.heap.size + 1, 0, none⟩ = some fv) ∧
 (∀ x ∈ X, x.1.block < w.heap.size ∧ W.cell? x.1 = some x.2) ∧ Below w.heap.size w W
theorem WhereBoxes.below {w : World} {p q : Int} {fv : Value} {X : List (Addr × Value)} {t : Nat} {W W' : World} (h : WhereBoxes w p q fv X t W) (hb : Below W.heap.size W W') : WhereBoxes w p q fv X t W' := by
 obtain ⟨⟨x1, x2⟩, ⟨x3, x4, x5⟩, x6, x7⟩ := h
 exact ⟨⟨cell_below hb x1, frozen_below hb x1 x2⟩, ⟨cell_below hb x3, cell_below hb x4, cell_below hb x5⟩, fun x hx => ⟨(x6 x hx).1, cell_below hb (x6 x hx).2⟩, x7.trans (hb.mono x7.size)⟩
theorem WhereBoxes.drewN {w : World} {p q : Int} {fv : Value} {X : List (Addr × Value)} {t : Nat} {W : World} (h : WhereBoxes w p q fv X t W) (n : Nat) : WhereBoxes w p q fv X t (W.drewN n) := by
 obtain ⟨x1, x2, x3, x4⟩ := h
 exact ⟨x1, x2, x3, Go.below_drewN x4 n⟩
theorem WhereBoxes.drew {w : World} {p q : Int} {fv : Value} {X : List (Addr × Value)} {t : Nat} {W : World} (h : WhereBoxes w p q fv X t W) : WhereBoxes w p q fv X t W.drew := h.drewN 1
theorem WhereBoxes.set {w : World} {p q : Int} {fv : Value} {X : List (Addr × Value)} {t : Nat} {W : World} (h : WhereBoxes w p q fv X t W) (u : Nat) : WhereBoxes w p q fv X u (W.setCell ⟨w.heap.size + 1 + 1, 0, none⟩ (.int .u32 u)) := by
 obtain ⟨⟨x1, x2⟩, ⟨x3, x4, x5⟩, x6, x7⟩ := h
 exact ⟨⟨set_same x1, set_frozen x2⟩, ⟨(set_other zO).trans x3, (set_other zO).trans x4, (set_other zO).trans x5⟩,
   fun x hx => ⟨(x6 x hx).1, (World.cell?_setCell_other _ _ _ _ (fun e => by have := (x6 x hx).1; rw [← e] at this; simp at this; omega)).trans (x6 x hx).2⟩, x7.setCell (by show w.heap.size ≤ w.heap.size + 1 + 1; omega) _⟩
theorem WhereBoxes.kept {w : World} {p q : Int} {fv : Value} {X : List (Addr × Value)} {t : Nat} {A V : World} {row : Option Nat} (h : WhereBoxes w p q fv X t A) (hg : A.grownBy V row) (hr : ∀ r, row = some r → w.heap.size ≤ r ∧ ∃ o : Obj, A.heap[r]? = some o ∧ o.isCells = false) : WhereBoxes w p q fv X t V := by
 have hr' := fun r e => (hr r e).2
 obtain ⟨⟨x1, x2⟩, ⟨x3, x4, x5⟩, x6, x7⟩ := h
 exact ⟨⟨cell_kept x1 hg hr', (frozen_kept x1 hg hr').trans x2⟩, ⟨cell_kept x3 hg hr', cell_kept x4 hg hr', cell_kept x5 hg hr'⟩, fun x hx => ⟨(x6 x hx).1, cell_kept (x6 x hx).2 hg hr'⟩, x7.grown hg x7.size (fun k e => (hr k e).1)⟩
def Table (p q d : Int) (t : Nat) : Prop := t < 2097152 ∧ ∀ j, t.testBit j = true ↔ (1 ≤ j ∧ j ≤ 20 ∧ d ∣ row p q 0 1 j)
def Found (p q d : Int) (k t : Nat) : Prop :=
 t < 2097152 ∧ (∀ j, t.testBit j = true → 1 ≤ j ∧ j ≤ 20 ∧ d ∣ row p q 0 1 j) ∧ (∀ i, i < k → ∀ j, stPM i = (j, j) → d ∣ row p q 0 1 j → t.testBit j = true)
theorem Found.start (p q d : Int) : Found p q d 0 0 := ⟨by omega, fun j h => by simp at h, fun i h => by omega⟩
theorem bit_put (t m j : Nat) : (t ||| 1 <<< m).testBit j = (t.testBit j || decide (m = j)) := by
 rw [Nat.testBit_or, Nat.one_shiftLeft, Nat.testBit_two_pow]
theorem Found.put {p q d : Int} {k t a m : Nat} (h : Found p q d k t) (hk : k < 66) (hs : stPM k = (a, m)) (hd : d ∣ row p q 0 1 a) : Found p q d (k + 1) (t ||| 1 <<< m) := by
 obtain ⟨h1, h2, h3⟩ := h
 obtain ⟨s1, s2, s3, s4⟩ := stPM_all k hk
 rw [hs] at s1 s2 s3 s4
 simp only at s1 s2 s3 s4
 have hm : d ∣ row p q 0 1 m := by
   obtain ⟨c, hc⟩ := Nat.dvd_of_mod_eq_zero s4
   rw [hc]
   exact Int.dvd_trans hd (row_dvd p q a c)
 refine ⟨(put_bit t m h1 s3).2, fun j hj => ?_, fun i hi j hj hdj => ?_⟩
 · rw [bit_put] at hj
   rw [Bool.or_eq_true] at hj
   rcases hj with hj | hj
   · exact h2 j hj
   · obtain rfl : m = j := by simpa using hj
     exact ⟨by omega, s3, hm⟩
 · rw [bit_put]
   rcases Nat.lt_or_ge i k with hlt | hge
   · rw [h3 i hlt j hj hdj]; rfl
   · obtain rfl : i = k := by omega
     rw [hs] at hj
     injection hj with e1 e2
     simp [e2]
theorem Found.skip {p q d : Int} {k t a m : Nat} (h : Found p q d k t) (hs : stPM k = (a, m)) (hn : a ≠ m ∨ ¬ d ∣ row p q 0 1 a) : Found p q d (k + 1) t := by
 obtain ⟨h1, h2, h3⟩ := h
 refine ⟨h1, h2, fun i hi j hj hdj => ?_⟩
 rcases Nat.lt_or_ge i k with hlt | hge
 · exact h3 i hlt j hj hdj
 · obtain rfl : i = k := by omega
   rw [hs] at hj
   injection hj with e1 e2
   rcases hn with hn | hn
   · exact absurd (e1.trans e2.symm) hn
   · rw [e1] at hn; exact absurd hdj hn
theorem Found.all {p q d : Int} {t : Nat} (h : Found p q d 66 t) : Table p q d t := by
 obtain ⟨h1, h2, h3⟩ := h
 refine ⟨h1, fun j => ⟨h2 j, fun ⟨j1, j2, hd⟩ => ?_⟩⟩
 obtain ⟨k, hk, hs⟩ := stPM_self j zO j1
 exact h3 k hk j hs hd
end Go.Proofs.YtblphilcmfabkaaGreatDoor
