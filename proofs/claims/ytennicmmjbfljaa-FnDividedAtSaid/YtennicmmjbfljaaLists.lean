/- Slices of numbers that a call hands back: what they hold; two of them compared; marked, and the marks looked at again. -/
import Derived.Test.YtennicmmjbfljaaPairMore
import Derived.Test.YtennicmmjbfljaaAppend
import Derived.Deep.QuietTactic
import Derived.BigQuiet
import Derived.IntWalk
namespace Go.Proofs.Ytennicmmjbfljaa
open Go.RowKit
/-- v is a slice of n numbers f 0, f 1 ..; they lie in one block from B on, below C, and may be written. -/
def IsInts (B C : Nat) (w : World) (v : Value) (n : Nat) (f : Nat → Int) : Prop :=
  ∃ (a : Option Addr) (cap : Nat), v = .slice a n cap ∧ C ≤ w.heap.size ∧
    (n = 0 ∨ ∃ g off, a = some ⟨g, off, none⟩ ∧ B ≤ g ∧ g < C ∧ (∀ i, i < n → w.cell? ⟨g, off + i, none⟩ = some (.int .i64 (f i))) ∧ (∀ i, i < n → w.frozen? ⟨g, off + i, none⟩ = false))
theorem IsInts.below {B C D : Nat} {w w' : World} {v : Value} {n : Nat} {f : Nat → Int} (h : IsInts B C w v n f) (hb : Below D w w') (hD : C ≤ D) : IsInts B C w' v n f := by
  obtain ⟨a, cap, rfl, hC, hs⟩ := h
  refine ⟨a, cap, rfl, Nat.le_trans hC hb.size, ?_⟩
  rcases hs with hs | ⟨g, off, ha, h1, h2, hc, hf⟩
  · exact .inl hs
  · exact .inr ⟨g, off, ha, h1, h2, fun i hi => (hb.cell (p := ⟨g, off + i, none⟩) (by show g < D; omega)).trans (hc i hi), fun i hi => (hb.frozen (p := ⟨g, off + i, none⟩) (by show g < D; omega)).trans (hf i hi)⟩
theorem IsInts.mono {B B' C C' : Nat} {w : World} {v : Value} {n : Nat} {f : Nat → Int} (h : IsInts B C w v n f) (h1 : B' ≤ B) (h2 : C ≤ C') (h3 : C' ≤ w.heap.size) : IsInts B' C' w v n f := by
  obtain ⟨a, cap, rfl, hC, hs⟩ := h
  refine ⟨a, cap, rfl, h3, ?_⟩
  rcases hs with hs | ⟨g, off, ha, k1, k2, hc, hf⟩
  · exact .inl hs
  · exact .inr ⟨g, off, ha, by omega, by omega, hc, hf⟩
theorem IsInts.congr {B C : Nat} {w : World} {v : Value} {n : Nat} {f g : Nat → Int} (h : IsInts B C w v n f) (he : ∀ i, i < n → f i = g i) : IsInts B C w v n g := by
  obtain ⟨a, cap, rfl, hC, hs⟩ := h
  refine ⟨a, cap, rfl, hC, ?_⟩
  rcases hs with hs | ⟨g, off, ha, k1, k2, hc, hf⟩
  · exact .inl hs
  · exact .inr ⟨g, off, ha, k1, k2, fun i hi => by rw [hc i hi, he i hi], hf⟩
theorem IsInts.nil (B : Nat) (w : World) (f : Nat → Int) : IsInts B w.heap.size w (.slice none 0 0) 0 f := ⟨none, 0, rfl, Nat.le_refl _, .inl rfl⟩
theorem IsInts.empty (B : Nat) (w : World) (a : Option Addr) (c : Nat) (f : Nat → Int) : IsInts B w.heap.size w (.slice a 0 c) 0 f := ⟨a, c, rfl, Nat.le_refl _, .inl rfl⟩
/-- A row of one's own, as append leaves it. -/
theorem IsInts.of_owns {B n : Nat} {w : World} {e : TypeId} {v : Value} {f : Nat → Int} (h : w.ownsRow B e 1 v n ((List.range n).map fun i => .int .i64 (f i))) : IsInts B w.heap.size w v n f := by
  have hc := fun g (hg : v.ownBlock = some g) => h.cells hg
  obtain ⟨hl, h⟩ := h
  rcases h with ⟨rfl, rfl⟩ | ⟨g, cap, cur, rfl, hb, hg, hnc, hm, hcs, htk⟩
  · exact IsInts.nil B w f
  · have hlt : g < w.heap.size := (Array.getElem?_eq_some_iff.1 hg).1
    refine ⟨_, cap, rfl, Nat.le_refl _, .inr ⟨g, 0, rfl, hb, hlt, fun i hi => ?_, fun i hi => ?_⟩⟩
    · have := hc g rfl i (.int .i64 (f i)) (by simp [hi])
      rw [Nat.zero_add]
      by_cases h0 : i = 0
      · subst h0; simpa [Addr.add] using this
      · simpa [Addr.add, h0] using this
    · simp [World.frozen?, hg]
/-- What was marked: one block from B on, below C. -/
def Marked (B C : Nat) (w w' : World) : Prop := w'.heap.size = w.heap.size ∧ ∃ row, w.grownBy w' row ∧ ∀ k, row = some k → B ≤ k ∧ k < C
theorem IsInts.marked {B C B0 C0 : Nat} {w w' : World} {v : Value} {n : Nat} {f : Nat → Int} (h : IsInts B0 C0 w v n f) (hm : Marked B C w w') (hd : C0 ≤ B) : IsInts B0 C0 w' v n f := by
  obtain ⟨a, cap, rfl, hC, hs⟩ := h
  obtain ⟨hz, row, hg, hr⟩ := hm
  refine ⟨a, cap, rfl, by omega, ?_⟩
  rcases hs with hs | ⟨g, off, ha, h1, h2, hc, hf⟩
  · exact .inl hs
  · have hne : some g ≠ row := fun e => by have := hr g e.symm; omega
    exact .inr ⟨g, off, ha, h1, h2, fun i hi => (hg.cell_far ⟨g, off + i, none⟩ (by show g < w.heap.size; omega) hne).trans (hc i hi), fun i hi => (hg.frozen_far ⟨g, off + i, none⟩ (by show g < w.heap.size; omega) hne).trans (hf i hi)⟩
theorem below_marked {B C D : Nat} {w0 w w' : World} (h : Below D w0 w) (hm : Marked B C w w') (h1 : D ≤ B) (h2 : D ≤ w.heap.size) : Below D w0 w' := by
  obtain ⟨hz, row, hg, hr⟩ := hm
  exact h.grown hg h2 (fun k e => by have := hr k e; omega)
theorem grown_set {w w1 : World} {g : Nat} (h : w.grownBy w1 (some g)) (o : Nat) (v : Value) : w.grownBy (w1.setCell ⟨g, o, none⟩ v) (some g) :=
  ⟨h.os, h.tape, h.output, by simpa [World.setCell] using h.size, fun j hj hne => (Below.heap_setCell _ _ _ _ (fun e => hne (by rw [e]))).trans (h.block j hj hne)⟩
set_option maxHeartbeats 2000000 in
theorem eqIntS_same (B C B' C' n : Nat) (v u : Value) (f : Nat → Int) (w : World) (h : IsInts B C w v n f) (k : IsInts B' C' w u n f) (hn : n ≤ 1000000) :
    Calls Try.prog 35 #[v, u] w fun e w' => e = .returned (.bool true) ∧ Below w.heap.size w w' := by
  obtain ⟨a, ca, rfl, hC, hs⟩ := h
  obtain ⟨b, cb, rfl, hC', ks⟩ := k
  go_enter Try.func35, Try.ntmps35
  go_wp2_with fail
  go_loopw [5] (fun k wr => ∃ i : Nat, i ≤ n ∧ k = .int .i64 i ∧ Below w.heap.size w wr) (fun k _ => n - (intOf k).toNat)
  case atStart => exact ⟨0, Nat.zero_le _, rfl, Below.refl _ _⟩
  case round =>
    obtain ⟨i, hi, rfl, hB⟩ := hrel
    by_cases hlt : i < n
    · rcases hs with rfl | ⟨g, off, rfl, h1, h2, hc, hf⟩
      · omega
      rcases ks with rfl | ⟨g', off', rfl, h1', h2', hc', hf'⟩
      · omega
      have c1 : wr.cell? ⟨g, off + i, none⟩ = some (.int .i64 (f i)) := (hB.cell (p := ⟨g, off + i, none⟩) (by show g < _; omega)).trans (hc i hlt)
      have c2 : wr.cell? ⟨g', off' + i, none⟩ = some (.int .i64 (f i)) := (hB.cell (p := ⟨g', off' + i, none⟩) (by show g' < _; omega)).trans (hc' i hlt)
      have hz := hB.size
      clear hc hc' hf hf'
      go_wp2
      go_quiet (fail)
      go_wp2
      go_roundw
      case rel => exact ⟨i + 1, by omega, congrArg (Value.int .i64) (by omega), below_drewN hB _⟩
      case measure => simp [intOf]; omega
    · obtain rfl : i = n := by omega
      clear hs ks
      go_wp2
      go_ret
      exact ⟨rfl, hB⟩
set_option maxHeartbeats 2000000 in
theorem sameInts_same (B C B' C' n : Nat) (v u : Value) (f : Nat → Int) (w : World) (h : IsInts B C w v n f) (k : IsInts B' C' w u n f) (hn : n ≤ 1000000) :
    Calls Try.prog 27 #[v, u] w fun e w' => e = .returned (.bool true) ∧ Below w.heap.size w w' := by
  obtain ⟨a, ca, rfl, hC, hs⟩ := h
  obtain ⟨b, cb, rfl, hC', ks⟩ := k
  go_enter Try.func27, Try.ntmps27
  go_wp2_with fail
  go_loopw [5] (fun k wr => ∃ i : Nat, i ≤ n ∧ k = .int .i64 i ∧ Below w.heap.size w wr) (fun k _ => n - (intOf k).toNat)
  case atStart => exact ⟨0, Nat.zero_le _, rfl, Below.refl _ _⟩
  case round =>
    obtain ⟨i, hi, rfl, hB⟩ := hrel
    by_cases hlt : i < n
    · rcases hs with rfl | ⟨g, off, rfl, h1, h2, hc, hf⟩
      · omega
      rcases ks with rfl | ⟨g', off', rfl, h1', h2', hc', hf'⟩
      · omega
      have c1 : wr.cell? ⟨g, off + i, none⟩ = some (.int .i64 (f i)) := (hB.cell (p := ⟨g, off + i, none⟩) (by show g < _; omega)).trans (hc i hlt)
      have c2 : wr.cell? ⟨g', off' + i, none⟩ = some (.int .i64 (f i)) := (hB.cell (p := ⟨g', off' + i, none⟩) (by show g' < _; omega)).trans (hc' i hlt)
      have hz := hB.size
      clear hc hc' hf hf'
      go_wp2
      go_quiet (fail)
      go_wp2
      go_roundw
      case rel => exact ⟨i + 1, by omega, congrArg (Value.int .i64) (by omega), below_drewN hB _⟩
      case measure => simp [intOf]; omega
    · obtain rfl : i = n := by omega
      clear hs ks
      go_wp2
      go_ret
      exact ⟨rfl, hB⟩
set_option maxHeartbeats 2000000 in
theorem markIntS_any (B C n : Nat) (v : Value) (f : Nat → Int) (k0 : Int) (w : World) (h : IsInts B C w v n f) (hn : n ≤ 1000000) (hk : 0 ≤ k0) (hk1 : k0 ≤ 1000000) :
    Calls Try.prog 36 #[v, .int .i64 k0] w fun e w' => e = .returned (.int .i64 (k0 + n)) ∧ IsInts B C w' v n (fun i => k0 + i) ∧ Marked B C w w' := by
  obtain ⟨a, ca, rfl, hC, hs⟩ := h
  rcases hs with rfl | ⟨g, off, rfl, h1, h2, hc, hf⟩
  · go_enter Try.func36, Try.ntmps36
    go_wp2_with fail
    go_loop [1, 5] (fun x y => x = .int .i64 k0 ∧ y = .int .i64 0) (fun _ _ => 0)
    case atStart => exact ⟨rfl, rfl⟩
    case round =>
      obtain ⟨rfl, rfl⟩ := hrel
      go_wp2
      go_ret
      exact ⟨by simp, ⟨a, ca, rfl, hC, .inl rfl⟩, rfl, none, World.grownBy.refl _ _, fun k e => by cases e⟩
  · go_enter Try.func36, Try.ntmps36
    go_wp2_with fail
    go_loopw [1, 5] (fun x y wr => ∃ i : Nat, i ≤ n ∧ x = .int .i64 (k0 + i) ∧ y = .int .i64 i ∧ (∀ j, j < i → wr.cell? ⟨g, off + j, none⟩ = some (.int .i64 (k0 + j))) ∧ (∀ j, i ≤ j → j < n → wr.cell? ⟨g, off + j, none⟩ = some (.int .i64 (f j))) ∧ (∀ j, j < n → wr.frozen? ⟨g, off + j, none⟩ = false) ∧ wr.heap.size = w.heap.size ∧ w.grownBy wr (some g)) (fun _ y _ => n - (intOf y).toNat)
    case atStart => exact ⟨0, Nat.zero_le _, by simp, rfl, fun j hj => absurd hj (by omega), fun j _ hj => hc j hj, hf, rfl, World.grownBy.refl _ _⟩
    case round =>
      obtain ⟨i, hi, rfl, rfl, hm, hr, hfr, hsz, hg⟩ := hrel
      by_cases hlt : i < n
      · have c1 := hr i (Nat.le_refl _) hlt
        have f1 := hfr i hlt
        have HM := Lib.hid hm
        have HR := Lib.hid hr
        have HF := Lib.hid hfr
        have HS := Lib.hid hsz
        clear hm hr hfr hc hf hsz
        go_wp2
        go_roundw
        case rel =>
          refine ⟨i + 1, by omega, congrArg (Value.int .i64) (by omega), congrArg (Value.int .i64) (by omega), fun j hj => ?_, fun j hij hj => ?_, fun j hj => ?_, ?_, grown_set hg _ _⟩
          · by_cases e : j = i
            · subst e; exact World.cell?_setCell_same' _ _ _ (by rw [c1]; rfl)
            · exact (World.cell?_setCell_other _ ⟨g, off + i, none⟩ ⟨g, off + j, none⟩ _ (fun e' => by injection e'; omega)).trans (HM.out j (by omega))
          · exact (World.cell?_setCell_other _ ⟨g, off + i, none⟩ ⟨g, off + j, none⟩ _ (fun e' => by injection e'; omega)).trans (HR.out j (by omega) hj)
          · rw [World.frozen?_setCell]; exact HF.out j hj
          · rw [← HS.out]; simp [World.setCell]
        case measure => simp [intOf]; omega
      · obtain rfl : i = n := by omega
        have HM := Lib.hid hm
        have HF := Lib.hid hfr
        have HS := Lib.hid hsz
        clear hm hr hfr hc hf hsz
        go_wp2
        go_ret
        exact ⟨rfl, ⟨_, ca, rfl, by rw [HS.out]; exact hC, .inr ⟨g, off, rfl, h1, h2, HM.out, HF.out⟩⟩, HS.out, some g, hg, fun k e => by cases e; exact ⟨h1, h2⟩⟩
set_option maxHeartbeats 2000000 in
theorem heldIntS_any (B C n : Nat) (v : Value) (k0 : Int) (w : World) (h : IsInts B C w v n (fun i => k0 + i)) (hn : n ≤ 1000000) (hk : 0 ≤ k0) (hk1 : k0 ≤ 1000000) :
    Calls Try.prog 37 #[v, .int .i64 k0] w fun e w' => e = .returned (.int .i64 (k0 + n)) ∧ w = w' := by
  obtain ⟨a, ca, rfl, hC, hs⟩ := h
  go_enter Try.func37, Try.ntmps37
  go_wp2_with fail
  go_loop [1, 5] (fun x y => ∃ i : Nat, i ≤ n ∧ x = .int .i64 (k0 + i) ∧ y = .int .i64 i) (fun _ y => n - (intOf y).toNat)
  case atStart => exact ⟨0, Nat.zero_le _, by simp, rfl⟩
  case round =>
    obtain ⟨i, hi, rfl, rfl⟩ := hrel
    by_cases hlt : i < n
    · rcases hs with rfl | ⟨g, off, rfl, h1, h2, hc, hf⟩
      · omega
      have c1 := hc i hlt
      clear hc hf
      go_wp2
      go_round
      case rel => exact ⟨i + 1, by omega, congrArg (Value.int .i64) (by omega), congrArg (Value.int .i64) (by omega)⟩
      case measure => simp [intOf]; omega
    · obtain rfl : i = n := by omega
      clear hs
      go_wp2
      go_ret
      exact ⟨rfl, rfl⟩
end Go.Proofs.Ytennicmmjbfljaa
