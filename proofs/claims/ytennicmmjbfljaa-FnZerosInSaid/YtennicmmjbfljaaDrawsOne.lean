/- What the draws of the first stage return: a pair, a pair and a place, within their bounds, whatever the code is; nothing that was there is written. -/
import Derived.Test.YtennicmmjbfljaaReader
namespace Go.Proofs.Ytennicmmjbfljaa
open Go.RowKit
theorem gcell {W w1 : World} {R : Nat} (hg : W.grownBy w1 (some R)) : (∀ b o, b < W.heap.size → b ≠ R → w1.cell? ⟨b, o, none⟩ = W.cell? ⟨b, o, none⟩) ∧ (∀ b o, b < W.heap.size → b ≠ R → w1.frozen? ⟨b, o, none⟩ = W.frozen? ⟨b, o, none⟩) :=
  ⟨fun b o h hne => World.cell?_of_block (a := ⟨b, o, none⟩) (hg.block b h (by simpa using hne)), fun b o h hne => World.frozen?_of_block (a := ⟨b, o, none⟩) (hg.block b h (by simpa using hne))⟩
/-- A code: it is nil, or it leads to a row of cells that hold bytes. -/
def IsRow (w : World) (a : Option Addr) (len cap : Nat) (zs : List Int) : Prop :=
  (a = none ∧ len = 0 ∧ cap = 0 ∧ zs = []) ∨
  ∃ x, a = some x ∧ len ≤ cap ∧ cap ≤ maxLen ∧ zs.length = cap ∧ (∀ i, i < zs.length → w.cell? (x.add i) = some (.int .u8 (zs.getD i 0))) ∧ ∀ n ∈ zs, (Lit.int .u8 n).wf = true
theorem byte_wf {n : Int} (h : (Lit.int .u8 n).wf = true) : 0 ≤ n ∧ n ≤ 255 := by
  have := h
  simp [Lit.wf, IntKind.min, IntKind.max, IntKind.signed, IntKind.bits] at this
  omega
/-- A code's cells, within its length. -/
theorem IsRow.cells {w : World} {a : Option Addr} {len cap : Nat} {zs : List Int} (h : IsRow w a len cap zs) : len = 0 ∨ ∃ b off, a = some ⟨b, off, none⟩ ∧ b < w.heap.size ∧ len ≤ cap ∧ cap ≤ maxLen ∧ ∀ i, i < len → ∃ x : Int, 0 ≤ x ∧ x ≤ 255 ∧ w.cell? ⟨b, off + i, none⟩ = some (.int .u8 x) := by
  rcases h with ⟨_, h, _, _⟩ | ⟨⟨b, off, spot⟩, rfl, hl, hm, hz, hc, hw⟩
  · exact .inl h
  · by_cases h0 : len = 0
    · exact .inl h0
    · have hc0 := hc 0 (by omega)
      have hs : spot = none := by simpa [Addr.add] using World.cell?_spot hc0
      subst hs
      refine .inr ⟨b, off, rfl, ?_, hl, hm, fun i hi => ?_⟩
      · obtain ⟨o, ho, _⟩ := cells_of_cell' hc0
        exact (Array.getElem?_eq_some_iff.1 ho).1
      · have hz' : zs.getD i 0 ∈ zs := by
          rw [List.getD_eq_getElem?_getD, List.getElem?_eq_getElem (by omega)]; simp
        have := byte_wf (hw _ hz')
        have hci := hc i (by omega)
        refine ⟨_, this.1, this.2, ?_⟩
        by_cases hi0 : i = 0
        · subst hi0; simpa [Addr.add] using hci
        · simpa [Addr.add, hi0] using hci
/-- Behind l20Open: the reader is the one new block. -/
def Opened (w : World) (e : Ending) (w' : World) : Prop :=
  e = .returned (.pointer (some ⟨w.heap.size, 0, none⟩)) ∧ Rd w' w.heap.size 0 ∧ Below w.heap.size w w' ∧ w.heap.size < w'.heap.size
theorem opened (w : World) (a : Option Addr) (len cap : Nat) (hl : len ≤ 2000)
    (hs : len = 0 ∨ ∃ b off, a = some ⟨b, off, none⟩ ∧ b < w.heap.size ∧ ∀ i, i < len → ∃ x : Int, 0 ≤ x ∧ x ≤ 255 ∧ w.cell? ⟨b, off + i, none⟩ = some (.int .u8 x)) :
    Opened w (.returned (.pointer (some ⟨w.heap.size, 0, none⟩))) (w.alloc (.cells #[.slice a len cap, .int .i64 0] 64)) := by
  have hb : Below w.heap.size w (w.alloc (.cells #[.slice a len cap, .int .i64 0] 64)) := (Below.refl _ _).alloc (Nat.le_refl _) _
  refine ⟨rfl, ⟨a, len, cap, 0, by simp [go_sem], by simp [go_sem], by simp [go_sem], Nat.le_refl _, hl, ?_⟩, hb, by simp⟩
  rcases hs with hs | ⟨b, off, ha, hlt, hc⟩
  · exact .inl hs
  · refine .inr ⟨b, off, ha, by omega, fun i hi => ?_⟩
    obtain ⟨x, hx0, hx1, hx⟩ := hc i hi
    exact ⟨x, hx0, hx1, (hb.cell (p := ⟨b, off + i, none⟩) hlt).trans hx⟩
set_option maxHeartbeats 400000 in
theorem open_any (w : World) (a : Option Addr) (len cap : Nat) (zs : List Int) (h : IsRow w a len cap zs) :
    Calls Try.prog 39 #[.slice a len cap] w (Opened w) := by
  rcases h.cells with rfl | ⟨b, off, rfl, hlt, hlc, hm, hc⟩
  · have H := Lib.hid (opened w a 0 cap (by omega) (.inl rfl))
    go_enter Try.func39, Try.ntmps39
    go_wp2
    go_ret
    exact H.out
  · unfold maxLen at hm
    by_cases hbig : 2000 < len
    · have H := Lib.hid (opened w (some ⟨b, off, none⟩) 2000 cap (by omega) (.inr ⟨b, off, rfl, hlt, fun i hi => hc i (by omega)⟩))
      clear hc
      go_enter Try.func39, Try.ntmps39
      go_wp2
      go_ret
      exact H.out
    · have H := Lib.hid (opened w (some ⟨b, off, none⟩) len cap (by omega) (.inr ⟨b, off, rfl, hlt, hc⟩))
      have hs : len ≤ 2000 := by omega
      clear hc
      go_enter Try.func39, Try.ntmps39
      go_wp2
      go_ret
      exact H.out
/-- What is known behind a draw of a pair. -/
def PairDrawn (w : World) (R k m : Nat) (e : Ending) (w' : World) : Prop :=
  ∃ p q : Int, e = .returned (pr p q) ∧ -5 ≤ p ∧ p ≤ 100 ∧ -5 ≤ q ∧ q ≤ 100 ∧ Rd w' R (k + m) ∧ w.grownBy w' (some R)
def BoolDrawn (w : World) (R k : Nat) (e : Ending) (w' : World) : Prop :=
  ∃ b : Bool, e = .returned (.bool b) ∧ Rd w' R (k + 1) ∧ w.grownBy w' (some R)
set_option maxHeartbeats 400000 in
theorem odd_any (R k : Nat) (n : Int) (w : World) (h : Rd w R k) (hk : k ≤ 500000000) (hn : n ≤ 1000000) :
    Calls Try.prog 55 #[.pointer (some ⟨R, 0, none⟩), .int .i64 n] w (BoolDrawn w R k) := by
  by_cases hn0 : 0 < n
  · go_enter Try.func55, Try.ntmps55
    go_wp2_with fail
    refine (pick_any R k n _ h (by omega) (by omega)).mono ?_
    rintro e w1 ⟨v1, rfl, va1, vb1, hR1, hh1⟩
    have vc1 : v1 ≤ max (n - 1) 0 := by omega
    clear vb1
    obtain ⟨hc1, hf1⟩ := gcell hh1
    have hz1 := hh1.size
    try simp only [World.size_alloc] at hz1
    go_wp2
    go_ret
    exact ⟨_, rfl, hR1, hh1⟩
  · have hn1 : n ≤ 0 := by omega
    go_enter Try.func55, Try.ntmps55
    go_wp2
    go_ret
    exact ⟨_, rfl, h.mono (by omega), ⟨rfl, rfl, rfl, Nat.le_refl _, fun _ _ _ => rfl⟩⟩
end Go.Proofs.Ytennicmmjbfljaa
