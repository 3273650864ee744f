/- Contracts and laws that the statement's proof stands on, one text behind the other. -/
import Derived.Test.YtblphilcmfabkaaGreatDoorRja
import Derived.Deep.Cut
import Derived.Deep.DeepCutAuto
import Derived.Deep.RegionHeld3

namespace Go.Proofs.YtblphilcmfabkaaGreatDoor
section
open Go.RowKit
theorem Addr.add_zero' (b o : Nat) : (⟨b, o, none⟩ : Addr).add 0 = ⟨b, o, none⟩ := by rw [add_row]; rfl
theorem deeds_take {B C : Nat} {w : World} {a : Option Addr} {c : Nat} {X : List DeedN} (h : IsDeeds B C w (.slice a X.length c) X) (k : Nat) (hk : k ≤ X.length) :
   k ≤ c ∧ ∃ a' c', sliced a 0 k c 3 = .slice a' k c' ∧ IsDeeds B C w (.slice a' k c') (X.take k) := by
 obtain ⟨a', cap', e, hC, hs⟩ := id h
 obtain ⟨rfl, rfl⟩ : a = a' ∧ c = cap' := by simpa using e
 rcases hs with hs | ⟨g, off, ha, h1, h2, hc, hf⟩
 · subst hs
   obtain rfl : k = 0 := by simpa using hk
   exact ⟨Nat.zero_le _, _, _, rfl, ⟨_, _, rfl, hC, .inl rfl⟩⟩
 · subst ha
   have hkc : k ≤ c := Nat.le_trans hk h2.2
   refine ⟨hkc, some ⟨g, off, none⟩, c, ?_, h.take k c hk hkc⟩
   unfold sliced
   split
   · simp
   · simp [Addr.add_zero']
theorem deeds_none (W : World) (a : Option Addr) (c n : Nat) {Y : List DeedN} (hY : Y = []) (hn : n = 0) : IsDeeds W.heap.size W.heap.size W (.slice a n c) Y := by
 subst hY hn; exact ⟨a, c, rfl, Nat.le_refl _, .inl rfl⟩
end
end Go.Proofs.YtblphilcmfabkaaGreatDoor
