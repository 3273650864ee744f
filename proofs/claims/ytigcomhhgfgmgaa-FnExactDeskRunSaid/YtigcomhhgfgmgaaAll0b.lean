/- Contracts and laws that the statement's proof stands on, one text behind the other. -/
import Derived.Test.YtigcomhhgfgmgaaAll0a
import Derived.Laws.MakeOwn
import Derived.Lib.AppendZeros

namespace Go.Proofs.Ytigcomhhgfgmgaa
open Go.RowKit
theorem IsDeeds.markedS {B C B0 C0 : Nat} {w w' : World} {v : Value} {L : List DeedN} (h : IsDeeds B0 C0 w v L) (hm : MarkedS B C w w') (hd : C0 ≤ B ∨ C ≤ B0) : IsDeeds B0 C0 w' v L := by
  obtain ⟨a, cap, rfl, hC, hs⟩ := h
  obtain ⟨row, hg, hr⟩ := hm
  refine ⟨a, cap, rfl, Nat.le_trans hC hg.size, ?_⟩
  rcases hs with hs | ⟨g, off, ha, h1, h2, hc, hf⟩
  · exact .inl hs
  · have hne : some g ≠ row := fun e => by have := hr g e.symm; omega
    exact .inr ⟨g, off, ha, h1, h2, fun i p hi => ⟨(hg.cell_far ⟨g, off + i * 3, none⟩ (by show g < w.heap.size; omega) hne).trans (hc i p hi).1, (hg.cell_far ⟨g, off + i * 3 + 1, none⟩ (by show g < w.heap.size; omega) hne).trans (hc i p hi).2.1, (hg.cell_far ⟨g, off + i * 3 + 2, none⟩ (by show g < w.heap.size; omega) hne).trans (hc i p hi).2.2⟩, fun i hi => (hg.frozen_far ⟨g, off + i, none⟩ (by show g < w.heap.size; omega) hne).trans (hf i hi)⟩
theorem IsPairs.markedS2 {B C B0 C0 : Nat} {w w' : World} {v : Value} {L : List (Int × Int)} (h : IsPairs B0 C0 w v L) (hm : MarkedS B C w w') (hd : C0 ≤ B ∨ C ≤ B0) : IsPairs B0 C0 w' v L := by
  obtain ⟨a, cap, rfl, hC, hs⟩ := h
  obtain ⟨row, hg, hr⟩ := hm
  refine ⟨a, cap, rfl, Nat.le_trans hC hg.size, ?_⟩
  rcases hs with hs | ⟨g, off, ha, h1, h2, hc, hf⟩
  · exact .inl hs
  · have hne : some g ≠ row := fun e => by have := hr g e.symm; omega
    exact .inr ⟨g, off, ha, h1, h2, fun i p hi => ⟨(hg.cell_far ⟨g, off + i * 2, none⟩ (by show g < w.heap.size; omega) hne).trans (hc i p hi).1, (hg.cell_far ⟨g, off + i * 2 + 1, none⟩ (by show g < w.heap.size; omega) hne).trans (hc i p hi).2⟩, fun i hi => (hg.frozen_far ⟨g, off + i, none⟩ (by show g < w.heap.size; omega) hne).trans (hf i hi)⟩
theorem MarkedS.cell {B C : Nat} {w w' : World} (hm : MarkedS B C w w') {b : Nat} (hb : b < w.heap.size) (hd : b < B ∨ C ≤ b) (o : Nat) : w'.cell? ⟨b, o, none⟩ = w.cell? ⟨b, o, none⟩ := by
  obtain ⟨row, hg, hr⟩ := hm
  exact hg.cell_far ⟨b, o, none⟩ hb (fun e => by have := hr b e.symm; omega)
theorem MarkedS.size {B C : Nat} {w w' : World} (hm : MarkedS B C w w') : w.heap.size ≤ w'.heap.size := by obtain ⟨_, hg, _⟩ := hm; exact hg.size
theorem deed_at {L : List DeedN} {i : Nat} (h : i < L.length) : ∃ x y z, L[i]? = some ⟨x, y, z⟩ := ⟨L[i].kind, L[i].a, L[i].b, by simp [h]⟩
/-- The marks. -/
def markD (k0 : Int) (n : Nat) : List DeedN := (List.range n).map fun (i : Nat) => ⟨k0 + 3 * (i : Int), k0 + 3 * (i : Int) + 1, k0 + 3 * (i : Int) + 1 + 1⟩
theorem markD_len (k0 : Int) (n : Nat) : (markD k0 n).length = n := by simp [markD]
theorem markD_at {k0 : Int} {n i : Nat} (h : i < n) : (markD k0 n)[i]? = some ⟨k0 + 3 * (i : Int), k0 + 3 * (i : Int) + 1, k0 + 3 * (i : Int) + 1 + 1⟩ := by simp [markD, h]
theorem markD_is {k0 : Int} {n i : Nat} {p : DeedN} (h : (markD k0 n)[i]? = some p) : i < n ∧ p = ⟨k0 + 3 * (i : Int), k0 + 3 * (i : Int) + 1, k0 + 3 * (i : Int) + 1 + 1⟩ := by
  have hi : i < n := by
    have := (List.getElem?_eq_some_iff.1 h).1
    rwa [markD_len] at this
  rw [markD_at hi] at h
  exact ⟨hi, (Option.some.inj h).symm⟩
theorem three_far {w : World} {g o b p : Nat} (x y z : Value) (h : ¬ (g = b ∧ (p = o ∨ p = o + 1 ∨ p = o + 2))) : (((w.setCell ⟨g, o, none⟩ x).setCell ⟨g, o + 1, none⟩ y).setCell ⟨g, o + 2, none⟩ z).cell? ⟨b, p, none⟩ = w.cell? ⟨b, p, none⟩ := by
  rw [World.cell?_setCell_other _ _ _ _ (fun e => h (by injection e; omega)), World.cell?_setCell_other _ _ _ _ (fun e => h (by injection e; omega)), World.cell?_setCell_other _ _ _ _ (fun e => h (by injection e; omega))]
theorem three_same {w : World} {g o : Nat} {u v t : Value} (x y z : Value) (c1 : w.cell? ⟨g, o, none⟩ = some u) (c2 : w.cell? ⟨g, o + 1, none⟩ = some v) (c3 : w.cell? ⟨g, o + 2, none⟩ = some t) :
    (((w.setCell ⟨g, o, none⟩ x).setCell ⟨g, o + 1, none⟩ y).setCell ⟨g, o + 2, none⟩ z).cell? ⟨g, o, none⟩ = some x ∧ (((w.setCell ⟨g, o, none⟩ x).setCell ⟨g, o + 1, none⟩ y).setCell ⟨g, o + 2, none⟩ z).cell? ⟨g, o + 1, none⟩ = some y ∧ (((w.setCell ⟨g, o, none⟩ x).setCell ⟨g, o + 1, none⟩ y).setCell ⟨g, o + 2, none⟩ z).cell? ⟨g, o + 2, none⟩ = some z := by
  have d1 : (w.setCell ⟨g, o, none⟩ x).cell? ⟨g, o, none⟩ = some x := World.cell?_setCell_same' _ _ _ (by rw [c1]; rfl)
  have d2 : (w.setCell ⟨g, o, none⟩ x).cell? ⟨g, o + 1, none⟩ = some v := (World.cell?_setCell_other _ _ _ _ (fun e => by injection e; omega)).trans c2
  have d3 : (w.setCell ⟨g, o, none⟩ x).cell? ⟨g, o + 2, none⟩ = some t := (World.cell?_setCell_other _ _ _ _ (fun e => by injection e; omega)).trans c3
  generalize w.setCell ⟨g, o, none⟩ x = w1 at d1 d2 d3 ⊢
  have e1 : (w1.setCell ⟨g, o + 1, none⟩ y).cell? ⟨g, o, none⟩ = some x := (World.cell?_setCell_other _ _ _ _ (fun e => by injection e; omega)).trans d1
  have e2 : (w1.setCell ⟨g, o + 1, none⟩ y).cell? ⟨g, o + 1, none⟩ = some y := World.cell?_setCell_same' _ _ _ (by rw [d2]; rfl)
  have e3 : (w1.setCell ⟨g, o + 1, none⟩ y).cell? ⟨g, o + 2, none⟩ = some t := (World.cell?_setCell_other _ _ _ _ (fun e => by injection e; omega)).trans d3
  generalize w1.setCell ⟨g, o + 1, none⟩ y = w2 at e1 e2 e3 ⊢
  exact ⟨(World.cell?_setCell_other _ _ _ _ (fun e => by injection e; omega)).trans e1, (World.cell?_setCell_other _ _ _ _ (fun e => by injection e; omega)).trans e2, World.cell?_setCell_same' _ _ _ (by rw [e3]; rfl)⟩
theorem eqDeed_any (k a b : Int) (w : World) :
    Calls Try.prog 60 #[.agg #[.int .i64 k, .int .i64 a, .int .i64 b], .agg #[.int .i64 k, .int .i64 a, .int .i64 b]] w fun e w' => e = .returned (.bool true) ∧ Below w.heap.size w w' := by
  go_enter Try.func60, Try.ntmps60
  go_wp2
  go_ret
  exact ⟨rfl, by (repeat (first | exact Below.refl _ _ | refine Below.setCell ?_ (by first | omega | (simp <;> omega)) _ | refine Below.alloc ?_ (by first | omega | (simp <;> omega)) _ | refine Below.drew ?_ | refine Below.trans ?_ (Below.mono (by assumption) (by first | omega | (simp <;> omega))) | refine Below.grown ?_ (by assumption) (by first | omega | (simp <;> omega)) (fun k e => by cases e; first | omega | (simp <;> omega))))⟩
set_option maxHeartbeats 4000000 in
theorem eqDeedS_same (B C B' C' : Nat) (v u : Value) (L : List DeedN) (w : World) (h : IsDeeds B C w v L) (k : IsDeeds B' C' w u L) (hn : L.length ≤ 1048600) :
    Calls Try.prog 37 #[v, u] w fun e w' => e = .returned (.bool true) ∧ Below w.heap.size w w' := by
  obtain ⟨a, ca, rfl, hC, hs⟩ := h
  obtain ⟨b, cb, rfl, hC', ks⟩ := k
  go_enter Try.func37, Try.ntmps37
  go_wp2_with fail
  go_loopw [5] (fun k wr => ∃ i : Nat, i ≤ L.length ∧ k = .int .i64 i ∧ Below w.heap.size w wr) (fun k _ => L.length - (intOf k).toNat)
  case atStart => exact ⟨0, Nat.zero_le _, rfl, Below.refl _ _⟩
  case round =>
    obtain ⟨i, hi, rfl, hB⟩ := hrel
    by_cases hlt : i < L.length
    · rcases hs with rfl | ⟨g, off, rfl, h1, h2, hc, hf⟩
      · simp at hlt
      rcases ks with rfl | ⟨g', off', rfl, h1', h2', hc', hf'⟩
      · simp at hlt
      obtain ⟨x, y, z, hp⟩ := deed_at hlt
      have c1 : wr.cell? ⟨g, off + i * 3, none⟩ = some (.int .i64 x) := (hB.cell (p := ⟨g, off + i * 3, none⟩) (by show g < _; omega)).trans (hc i _ hp).1
      have c2 : wr.cell? ⟨g, off + i * 3 + 1, none⟩ = some (.int .i64 y) := (hB.cell (p := ⟨g, off + i * 3 + 1, none⟩) (by show g < _; omega)).trans (hc i _ hp).2.1
      have c3 : wr.cell? ⟨g, off + i * 3 + 2, none⟩ = some (.int .i64 z) := (hB.cell (p := ⟨g, off + i * 3 + 2, none⟩) (by show g < _; omega)).trans (hc i _ hp).2.2
      have c4 : wr.cell? ⟨g', off' + i * 3, none⟩ = some (.int .i64 x) := (hB.cell (p := ⟨g', off' + i * 3, none⟩) (by show g' < _; omega)).trans (hc' i _ hp).1
      have c5 : wr.cell? ⟨g', off' + i * 3 + 1, none⟩ = some (.int .i64 y) := (hB.cell (p := ⟨g', off' + i * 3 + 1, none⟩) (by show g' < _; omega)).trans (hc' i _ hp).2.1
      have c6 : wr.cell? ⟨g', off' + i * 3 + 2, none⟩ = some (.int .i64 z) := (hB.cell (p := ⟨g', off' + i * 3 + 2, none⟩) (by show g' < _; omega)).trans (hc' i _ hp).2.2
      have hii : (i : Int) < (L.length : Int) := by omega
      have i0 : (0 : Int) ≤ (i : Int) := by omega
      have HB := Lib.hid hB
      have hbz := hB.size
      clear hc hc' hf hf' hB hp
      obtain ⟨S, hSd⟩ : ∃ S : World → Prop, (fun V => Below wr.heap.size wr V) = S := ⟨_, rfl⟩
      have hkeep : ∀ V V' : World, S V → Below V.heap.size V V' → S V' := by rw [← hSd]; exact fun V V' h hb => h.trans (hb.mono h.size)
      have gk1 : ∀ iq : KeptBy S, iq.world.cell? ⟨g, off + i * 3, none⟩ = some (.int .i64 x) := by rw [← hSd]; exact fun iq => cell_belowP iq.ok c1
      have gk2 : ∀ iq : KeptBy S, iq.world.cell? ⟨g, off + i * 3 + 1, none⟩ = some (.int .i64 y) := by rw [← hSd]; exact fun iq => cell_belowP iq.ok c2
      have gk3 : ∀ iq : KeptBy S, iq.world.cell? ⟨g, off + i * 3 + 2, none⟩ = some (.int .i64 z) := by rw [← hSd]; exact fun iq => cell_belowP iq.ok c3
      have gk4 : ∀ iq : KeptBy S, iq.world.cell? ⟨g', off' + i * 3, none⟩ = some (.int .i64 x) := by rw [← hSd]; exact fun iq => cell_belowP iq.ok c4
      have gk5 : ∀ iq : KeptBy S, iq.world.cell? ⟨g', off' + i * 3 + 1, none⟩ = some (.int .i64 y) := by rw [← hSd]; exact fun iq => cell_belowP iq.ok c5
      have gk6 : ∀ iq : KeptBy S, iq.world.cell? ⟨g', off' + i * 3 + 2, none⟩ = some (.int .i64 z) := by rw [← hSd]; exact fun iq => cell_belowP iq.ok c6
      have gkn : Nonempty (KeptBy S) := ⟨⟨wr.drew, by rw [← hSd]; exact (Below.refl _ _).drew⟩⟩
      go_wp2_with fail
      refine wp_region_kept (S := S) (by rw [← hSd]; exact (Below.refl _ _).drew) (by kernel_rfl) (by kernel_rfl) ?_
      repeat (go_big_quiet_step ((first | (go_at_call 60; refine (eqDeed_any x y z _).mono ?_; rintro e w' ⟨rfl, hhw⟩; exact ⟨rfl, ⟨w', hkeep _ _ (KeptBy.ok _) hhw⟩, rfl⟩) | fail)))
      refine wpQuiet_nil ?_
      rintro z3 ⟨iz, hwz⟩
      have bz3 : Below wr.heap.size wr z3 := by
        have this : S z3 := by rw [hwz]; exact iz.ok
        rw [← hSd] at this
        exact this
      clear hwz iz gkn hkeep hSd gk1 gk2 gk3 gk4 gk5 gk6
      have HBz := Lib.hid (HB.out.trans (bz3.mono hbz))
      clear bz3
      go_wp2
      go_roundw
      case rel => exact ⟨i + 1, by omega, congrArg (Value.int .i64) (by omega), HBz.out⟩
      case measure => simp [intOf]; omega
    · obtain rfl : i = L.length := by omega
      clear hs ks
      go_wp2
      go_ret
      exact ⟨rfl, hB⟩
set_option maxHeartbeats 4000000 in
theorem markDeedS_any (B C : Nat) (v : Value) (L : List DeedN) (k0 : Int) (w : World) (h : IsDeeds B C w v L) (hn : L.length ≤ 1048600) (hk : 0 ≤ k0) (hk1 : k0 ≤ 100000000) :
    Calls Try.prog 38 #[v, .int .i64 k0] w fun e w' => e = .returned (.int .i64 (k0 + 3 * (L.length : Int))) ∧ IsDeeds B C w' v (markD k0 L.length) ∧ MarkedS B C w w' := by
  obtain ⟨a, ca, rfl, hC, hs⟩ := h
  rcases hs with rfl | ⟨g, off, rfl, h1, h2, hc, hf⟩
  · go_enter Try.func38, Try.ntmps38
    go_wp2_with fail
    go_loop [1, 5] (fun x y => x = .int .i64 k0 ∧ y = .int .i64 0) (fun _ _ => 0)
    case atStart => exact ⟨rfl, rfl⟩
    case round =>
      obtain ⟨rfl, rfl⟩ := hrel
      go_wp2
      go_ret
      exact ⟨by simp, ⟨a, ca, rfl, hC, .inl rfl⟩, none, World.grownBy.refl _ _, fun k e => by cases e⟩
  · have hc2 : ∀ j, j < L.length → ∃ x y z : Int, w.cell? ⟨g, off + j * 3, none⟩ = some (.int .i64 x) ∧ w.cell? ⟨g, off + j * 3 + 1, none⟩ = some (.int .i64 y) ∧ w.cell? ⟨g, off + j * 3 + 2, none⟩ = some (.int .i64 z) := fun j hj => by
      obtain ⟨x, y, z, hp⟩ := deed_at hj
      exact ⟨x, y, z, hc j _ hp⟩
    obtain ⟨n, hnl⟩ : ∃ n, L.length = n := ⟨_, rfl⟩
    rw [hnl] at hn hf hc2 h2 ⊢
    clear hc hnl
    go_enter Try.func38, Try.ntmps38
    go_wp2_with fail
    go_loopw [1, 5] (fun x y wr => ∃ i : Nat, i ≤ n ∧ x = .int .i64 (k0 + 3 * (i : Int)) ∧ y = .int .i64 i ∧ (∀ j, j < i → wr.cell? ⟨g, off + j * 3, none⟩ = some (.int .i64 (k0 + 3 * (j : Int))) ∧ wr.cell? ⟨g, off + j * 3 + 1, none⟩ = some (.int .i64 (k0 + 3 * (j : Int) + 1)) ∧ wr.cell? ⟨g, off + j * 3 + 2, none⟩ = some (.int .i64 (k0 + 3 * (j : Int) + 1 + 1))) ∧ (∀ j, i ≤ j → j < n → ∃ x y z : Int, wr.cell? ⟨g, off + j * 3, none⟩ = some (.int .i64 x) ∧ wr.cell? ⟨g, off + j * 3 + 1, none⟩ = some (.int .i64 y) ∧ wr.cell? ⟨g, off + j * 3 + 2, none⟩ = some (.int .i64 z)) ∧ (∀ j, j < 3 * n → wr.frozen? ⟨g, off + j, none⟩ = false) ∧ wr.heap.size = w.heap.size ∧ w.grownBy wr (some g)) (fun _ y _ => n - (intOf y).toNat)
    case atStart => exact ⟨0, Nat.zero_le _, by simp, rfl, fun j hj => absurd hj (by omega), fun j _ hj => hc2 j hj, hf, rfl, World.grownBy.refl _ _⟩
    case round =>
      obtain ⟨i, hi, rfl, rfl, hm, hr, hfr, hsz, hg⟩ := hrel
      by_cases hlt : i < n
      · obtain ⟨x, y, z, c1, c2, c3⟩ := hr i (Nat.le_refl _) hlt
        have f1 : wr.frozen? ⟨g, off + i * 3, none⟩ = false := hfr (i * 3) (by omega)
        have f2 : wr.frozen? ⟨g, off + i * 3 + 1, none⟩ = false := hfr (i * 3 + 1) (by omega)
        have f3 : wr.frozen? ⟨g, off + i * 3 + 2, none⟩ = false := hfr (i * 3 + 2) (by omega)
        have hii : (i : Int) < (n : Int) := by omega
        have i0 : (0 : Int) ≤ (i : Int) := by omega
        have HM := Lib.hid hm
        have HR := Lib.hid hr
        have HF := Lib.hid hfr
        have HS := Lib.hid hsz
        have HG := Lib.hid hg
        clear hm hr hfr hc2 hf hsz hg
        go_wp2
        go_roundw
        case rel =>
          refine ⟨i + 1, by omega, congrArg (Value.int .i64) (by omega), congrArg (Value.int .i64) (by omega), fun j hj => ?_, fun j hij hj => ?_, fun j hj => ?_, ?_, grown_set (grown_set (grown_set HG.out _ _) _ _) _ _⟩
          · by_cases e : j = i
            · subst e
              exact three_same _ _ _ c1 c2 c3
            · obtain ⟨m1, m2, m3⟩ := HM.out j (by omega)
              exact ⟨(three_far _ _ _ (by omega)).trans m1, (three_far _ _ _ (by omega)).trans m2, (three_far _ _ _ (by omega)).trans m3⟩
          · obtain ⟨x', y', z', m1, m2, m3⟩ := HR.out j (by omega) hj
            exact ⟨x', y', z', (three_far _ _ _ (by omega)).trans m1, (three_far _ _ _ (by omega)).trans m2, (three_far _ _ _ (by omega)).trans m3⟩
          · rw [World.frozen?_setCell, World.frozen?_setCell, World.frozen?_setCell]; exact HF.out j hj
          · rw [← HS.out]; simp [World.setCell]
        case measure => simp [intOf]; omega
      · obtain rfl : i = n := by omega
        have HM := Lib.hid hm
        have HF := Lib.hid hfr
        have HS := Lib.hid hsz
        have HG := Lib.hid hg
        clear hm hr hfr hc2 hf hsz hg
        go_wp2
        go_ret
        refine ⟨rfl, ⟨_, ca, by rw [markD_len], by rw [HS.out]; exact hC, .inr ⟨g, off, rfl, h1, ⟨h2.1, by rw [markD_len]; exact h2.2⟩, fun j p hj => ?_, by rw [markD_len]; exact HF.out⟩⟩, some g, HG.out, fun k e => by cases e; exact ⟨h1, h2.1⟩⟩
        obtain ⟨hj', rfl⟩ := markD_is hj
        exact HM.out j hj'
end Go.Proofs.Ytigcomhhgfgmgaa
namespace Go.Proofs.Ytigcomhhgfgmgaa
open Go.RowKit
theorem info_deed : (Try.prog.info? 38).map (fun i => (i.zero, i.size, i.bytes)) = some (some (.agg #[.int .i64 0, .int .i64 0, .int .i64 0]), 3, 24) := by kernel_rfl
theorem info_parts3 {P : Program} {t : TypeId} {z : Option Value} {s b : Nat} (h : (P.info? t).map (fun i => (i.zero, i.size, i.bytes)) = some (z, s, b)) : ∃ i, P.info? t = some i ∧ i.zero = z ∧ i.size = s ∧ i.bytes = b := by
  cases hi : P.info? t with
  | none => rw [hi] at h; cases h
  | some i => rw [hi] at h; simp at h; exact ⟨i, rfl, h⟩
theorem run_make_three {P : Program} (t e : TypeId) (i : TypeInfo) (ht : P.underlying t = some (.slice e)) (hi : P.info? e = some i) (hz : i.zero = some (.agg #[.int .i64 0, .int .i64 0, .int .i64 0])) (hs : i.size = 3) (hb : i.bytes = 24) (n : Nat) (hn : n ≤ 1048600) (w : World) :
    (Instr.makeSlice t (.int .i64 (n : Int)) (.int .i64 (n : Int))).run P w = .ok (.slice (some ⟨w.heap.size, 0, none⟩) n n) (w.alloc (.cells (madeCells #[.int .i64 0, .int .i64 0, .int .i64 0] (n * 3)) e)) := by
  have hr := run_make (P := P) w t e i _ ht hi hz .i64 .i64 n n (by omega) (by omega) (by rw [hb]; omega) (by omega)
  simp only [Int.toNat_natCast, hs] at hr
  exact hr
theorem made_at3 (n j : Nat) (h : j < n) : (madeCells #[.int .i64 0, .int .i64 0, .int .i64 0] n)[j]? = some (.int .i64 0) := by
  have h2 : j % 3 = 0 ∨ j % 3 = 1 ∨ j % 3 = 2 := by omega
  rcases h2 with h2 | h2 | h2 <;> simp [madeCells, h, h2]
set_option maxHeartbeats 400000 in
theorem toDeed_any (k p q : Int) (w : World) :
    Calls Try.prog 34 #[.agg #[.int .i64 k, .int .i64 p, .int .i64 q]] w fun e w' => e = .returned (.agg #[.int .i64 k, .int .i64 p, .int .i64 q]) ∧ Below w.heap.size w w' := by
  go_enter Try.func34, Try.ntmps34
  go_wp2
  refine bodyPost_ret (v := .agg #[.int .i64 k, .int .i64 p, .int .i64 q]) (by simp [results, Try.results34, go_sem]) rfl ⟨rfl, ?_⟩
  (repeat (first | exact Below.refl _ _ | refine Below.setCell ?_ (by first | omega | (simp <;> omega)) _ | refine Below.alloc ?_ (by first | omega | (simp <;> omega)) _ | refine Below.drew ?_ | refine Below.trans ?_ (Below.mono (by assumption) (by first | omega | (simp <;> omega))) | refine Below.grown ?_ (by assumption) (by first | omega | (simp <;> omega)) (fun k e => by cases e; first | omega | (simp <;> omega))))
set_option maxHeartbeats 4000000 in
theorem toDeedS_any (L : List DeedN) (v : Value) (w : World) (h : SeesDeeds w v L) (hn : L.length ≤ 1048600) :
    Calls Try.prog 36 #[v] w fun e w' => ∃ u, e = .returned u ∧ IsDeeds w.heap.size w'.heap.size w' u L ∧ Below w.heap.size w w' := by
  obtain ⟨a, cap, rfl, hs⟩ := h
  obtain ⟨i0, hi0, hz0, hzs1, hz2⟩ := info_parts3 info_deed
  have hmk := fun W => run_make_three (P := Try.prog) 44 38 i0 Try.underlying44 hi0 hz0 hzs1 hz2 L.length hn W
  go_enter Try.func36, Try.ntmps36
  go_wp2_with fail
  go_loopw [4] (fun y wr => ∃ i : Nat, i ≤ L.length ∧ y = .int .i64 i ∧ (∀ (j : Nat) (p : DeedN), j < i → L[j]? = some p → wr.cell? ⟨w.heap.size, j * 3, none⟩ = some (.int .i64 p.kind) ∧ wr.cell? ⟨w.heap.size, j * 3 + 1, none⟩ = some (.int .i64 p.a) ∧ wr.cell? ⟨w.heap.size, j * 3 + 2, none⟩ = some (.int .i64 p.b)) ∧ (∀ j, i * 3 ≤ j → j < L.length * 3 → wr.cell? ⟨w.heap.size, j, none⟩ = some (.int .i64 0)) ∧ (∀ j, wr.frozen? ⟨w.heap.size, j, none⟩ = false) ∧ w.heap.size < wr.heap.size ∧ Below w.heap.size w wr) (fun y _ => L.length - (intOf y).toNat)
  case atStart => exact ⟨0, Nat.zero_le _, rfl, fun j p hj => absurd hj (by omega), fun j _ hj => (World.cell?_alloc_mark _ _ _ _ _).trans (made_at3 _ _ hj), fun j => by (unfold World.frozen?; rw [heap_alloc_new]; simp), by simp, (Below.refl _ _).alloc (Nat.le_refl _) _⟩
  case round =>
    obtain ⟨i, hi, rfl, hm, hr, hfr, hsz, hB⟩ := hrel
    by_cases hlt : i < L.length
    · rcases hs with rfl | ⟨g, off, rfl, hg, hc⟩
      · simp at hlt
      obtain ⟨x, y, z, hp⟩ := deed_at hlt
      have c1 : wr.cell? ⟨g, off + i * 3, none⟩ = some (.int .i64 x) := (hB.cell (p := ⟨g, off + i * 3, none⟩) hg).trans (hc i _ hp).1
      have c2 : wr.cell? ⟨g, off + i * 3 + 1, none⟩ = some (.int .i64 y) := (hB.cell (p := ⟨g, off + i * 3 + 1, none⟩) hg).trans (hc i _ hp).2.1
      have c3 : wr.cell? ⟨g, off + i * 3 + 2, none⟩ = some (.int .i64 z) := (hB.cell (p := ⟨g, off + i * 3 + 2, none⟩) hg).trans (hc i _ hp).2.2
      have d1 := hr (i * 3) (by omega) (by omega)
      have f1 := hfr (i * 3)
      have d2 := hr (i * 3 + 1) (by omega) (by omega)
      have f2 := hfr (i * 3 + 1)
      have d3 := hr (i * 3 + 2) (by omega) (by omega)
      have f3 := hfr (i * 3 + 2)
      have hii : (i : Int) < (L.length : Int) := by omega
      have i0 : (0 : Int) ≤ (i : Int) := by omega
      have HM := Lib.hid hm
      have HR := Lib.hid hr
      have HF := Lib.hid hfr
      have HB := Lib.hid hB
      have HP := Lib.hid hp
      clear hm hr hfr hc hB hmk hp
      go_wp2_with fail
      refine (toDeed_any x y z _).mono ?_
      rintro e w1 ⟨rfl, hb1⟩
      have hz1 := hb1.size
      have e1 : w1.cell? ⟨w.heap.size, i * 3, none⟩ = some (.int .i64 0) := cell_belowP hb1 d1
      have k1 : w1.frozen? ⟨w.heap.size, i * 3, none⟩ = false := (hb1.frozen (p := ⟨w.heap.size, i * 3, none⟩) hsz).trans f1
      have e2 : w1.cell? ⟨w.heap.size, i * 3 + 1, none⟩ = some (.int .i64 0) := cell_belowP hb1 d2
      have k2 : w1.frozen? ⟨w.heap.size, i * 3 + 1, none⟩ = false := (hb1.frozen (p := ⟨w.heap.size, i * 3 + 1, none⟩) hsz).trans f2
      have e3 : w1.cell? ⟨w.heap.size, i * 3 + 2, none⟩ = some (.int .i64 0) := cell_belowP hb1 d3
      have k3 : w1.frozen? ⟨w.heap.size, i * 3 + 2, none⟩ = false := (hb1.frozen (p := ⟨w.heap.size, i * 3 + 2, none⟩) hsz).trans f3
      have HB1 := Lib.hid hb1
      clear hb1 c1 c2 c3 d1 d2 d3 f1 f2 f3
      go_wp2
      go_roundw
      case rel =>
        refine ⟨i + 1, by omega, congrArg (Value.int .i64) (by omega), fun j p hj hjp => ?_, fun j hj1 hj2 => ?_, fun j => ?_, by simp [World.setCell]; omega, (((HB.out.trans (HB1.out.mono (by omega))).setCell (by simp) _).setCell (by simp) _).setCell (by simp) _⟩
        · by_cases e : j = i
          · subst e
            rw [HP.out] at hjp
            cases hjp
            exact three_same _ _ _ e1 e2 e3
          · obtain ⟨m1, m2, m3⟩ := HM.out j p (by omega) hjp
            exact ⟨(three_far _ _ _ (by omega)).trans (cell_belowP HB1.out m1), (three_far _ _ _ (by omega)).trans (cell_belowP HB1.out m2), (three_far _ _ _ (by omega)).trans (cell_belowP HB1.out m3)⟩
        · exact (three_far _ _ _ (by omega)).trans (cell_belowP HB1.out (HR.out j (by omega) hj2))
        · rw [World.frozen?_setCell, World.frozen?_setCell, World.frozen?_setCell]; exact (HB1.out.frozen (p := ⟨w.heap.size, j, none⟩) hsz).trans (HF.out j)
      case measure => simp [intOf]; omega
    · obtain rfl : i = L.length := by omega
      have HM := Lib.hid hm
      have HF := Lib.hid hfr
      clear hm hr hfr hs hmk
      go_wp2
      go_ret
      exact ⟨_, rfl, ⟨_, L.length, rfl, Nat.le_refl _, .inr ⟨w.heap.size, 0, rfl, Nat.le_refl _, ⟨hsz, Nat.le_refl _⟩, fun j p hj => by rw [Nat.zero_add]; exact HM.out j p (List.getElem?_eq_some_iff.1 hj).1 hj, fun j _ => by rw [Nat.zero_add]; exact HF.out j⟩⟩, hB⟩
end Go.Proofs.Ytigcomhhgfgmgaa
namespace Go.Proofs.Ytigcomhhgfgmgaa
/-- A deed at whatever is handed in. -/
def doR (d : DeskN) (x : DeedN) : DeskN × Bool := if deskN d = true then doN d x else (⟨(0, 0), []⟩, false)
theorem doR_no {d : DeskN} {x : DeedN} (h : deskN d = false) : doR d x = (⟨(0, 0), []⟩, false) := by unfold doR; rw [if_neg (by rw [h]; decide)]
theorem doR_yes {d : DeskN} {x : DeedN} (h : deskN d = true) : doR d x = doN d x := by unfold doR; rw [if_pos h]
theorem doN_last (p q r s : Int) (M : List (Int × Int)) : doN ⟨(p, q), M ++ [(r, s)]⟩ ⟨4, 0, 0⟩ = (⟨(r, s), M⟩, true) := by simp [doN, backN]
theorem doN_not {p q k x y : Int} {L : List (Int × Int)} (hk : ¬ (k = 4 ∧ x = 0 ∧ y = 0)) (hm : ∀ r s, madeN (p, q) ⟨k, x, y⟩ = some (r, s) → pairB r s = false ∨ (r, s) = (p, q)) : doN ⟨(p, q), L⟩ ⟨k, x, y⟩ = (⟨(p, q), L⟩, false) := by
  unfold doN
  rw [if_neg (fun e => hk (by unfold backN at e; injection e with e1 e2 e3; exact ⟨e1, e2, e3⟩))]
  have ht : takenN (p, q) ⟨k, x, y⟩ = none := by
    cases h : takenN (p, q) ⟨k, x, y⟩ with
    | none => rfl
    | some r =>
      obtain ⟨h1, h2, h3⟩ := takenN_some h
      rcases hm r.1 r.2 h1 with h4 | h4
      · have : pairB r.1 r.2 = true := h2
        rw [h4] at this; cases this
      · exact absurd h4 h3
  show (match takenN (p, q) ⟨k, x, y⟩ with | some r => _ | none => _) = _
  rw [ht]
theorem doN_is {p q k x y r s : Int} {L : List (Int × Int)} (hm : madeN (p, q) ⟨k, x, y⟩ = some (r, s)) (hr : pairB r s = true) (hne : ¬ (r = p ∧ s = q)) : doN ⟨(p, q), L⟩ ⟨k, x, y⟩ = (⟨(r, s), (L ++ [(p, q)]).drop (L.length + 1 - 8)⟩, true) := by
  unfold doN
  rw [if_neg (fun e => by rw [e, backN_made] at hm; cases hm)]
  have ht : takenN (p, q) ⟨k, x, y⟩ = some (r, s) := by
    unfold takenN
    rw [hm, Option.filter_some, if_pos]
    have h1 : pairN (r, s) = true := hr
    have h2 : ((r, s) : Int × Int) ≠ (p, q) := fun e => hne (by injection e with e1 e2; exact ⟨e1, e2⟩)
    simp only [h1, h2, ne_eq, not_false_eq_true, decide_true, Bool.and_self]
  show (match takenN (p, q) ⟨k, x, y⟩ with | some r => _ | none => _) = _
  rw [ht]
/-- The pair of a deed, for other kinds the one that was. -/
def byN (p : Int × Int) (k a b : Int) : Int × Int := if k = 0 then (a, b) else if k = 1 then (-p.1, p.2) else if k = 2 then (p.1 + 1, p.2 + 1) else if k = 3 then (p.1 - 1, p.2 - 1) else p
/-- Another pair laid on a desk. -/
def laidN (p q : Int) (L : List (Int × Int)) (r s : Int) : DeskN × Bool := if (r = p ∧ s = q) ∨ pairB r s = false then (⟨(p, q), L⟩, false) else (⟨(r, s), (L ++ [(p, q)]).drop (L.length + 1 - 8)⟩, true)
theorem madeN_other {p q k a b : Int} (hk : ¬ k = 0) (hab : ¬ (a = 0 ∧ b = 0)) : madeN (p, q) ⟨k, a, b⟩ = none := by
  unfold madeN
  rw [if_neg hk, if_neg hab]
theorem doN_laid {p q k a b : Int} {L : List (Int × Int)} (h : k = 0 ∨ (¬ k = 4 ∧ a = 0 ∧ b = 0)) : doN ⟨(p, q), L⟩ ⟨k, a, b⟩ = laidN p q L (byN (p, q) k a b).1 (byN (p, q) k a b).2 := by
  have hk4 : ¬ (k = 4 ∧ a = 0 ∧ b = 0) := by omega
  unfold laidN
  by_cases hm : madeN (p, q) ⟨k, a, b⟩ = none
  · have hby : byN (p, q) k a b = (p, q) := by
      unfold madeN at hm
      unfold byN
      by_cases h0 : k = 0
      · rw [if_pos h0] at hm; cases hm
      · rw [if_neg h0]
        rw [if_neg h0, if_pos (by rcases h with h | h; exact absurd h h0; exact h.2)] at hm
        by_cases h1 : k = 1
        · rw [if_pos h1] at hm; cases hm
        · rw [if_neg h1] at hm ⊢
          by_cases h2 : k = 2
          · rw [if_pos h2] at hm; cases hm
          · rw [if_neg h2] at hm ⊢
            by_cases h3 : k = 3
            · rw [if_pos h3] at hm; cases hm
            · rw [if_neg h3]
    rw [hby, if_pos (.inl ⟨rfl, rfl⟩)]
    exact doN_not hk4 (fun r s e => by rw [hm] at e; cases e)
  · have hby : madeN (p, q) ⟨k, a, b⟩ = some (byN (p, q) k a b) := by
      unfold madeN at hm ⊢
      unfold byN
      by_cases h0 : k = 0
      · rw [if_pos h0, if_pos h0]
      · rw [if_neg h0] at hm ⊢
        rw [if_neg h0]
        rw [if_pos (by rcases h with h | h; exact absurd h h0; exact h.2)] at hm ⊢
        by_cases h1 : k = 1
        · rw [if_pos h1, if_pos h1]
        · rw [if_neg h1] at hm ⊢
          rw [if_neg h1]
          by_cases h2 : k = 2
          · rw [if_pos h2, if_pos h2]
          · rw [if_neg h2] at hm ⊢
            rw [if_neg h2]
            by_cases h3 : k = 3
            · rw [if_pos h3, if_pos h3]
            · rw [if_neg h3] at hm; exact absurd rfl hm
    obtain ⟨r, s, hrs⟩ : ∃ r s, byN (p, q) k a b = (r, s) := ⟨_, _, rfl⟩
    rw [hrs] at hby ⊢
    dsimp only
    by_cases hc : (r = p ∧ s = q) ∨ pairB r s = false
    · rw [if_pos hc]
      refine doN_not hk4 (fun r' s' e => ?_)
      rw [hby] at e
      cases e
      rcases hc with ⟨h1, h2⟩ | hc
      · right; rw [h1, h2]
      · exact .inl hc
    · rw [if_neg hc]
      refine doN_is hby ?_ (fun e => hc (.inl e))
      cases hp : pairB r s with
      | true => rfl
      | false => exact absurd (.inr hp) hc
end Go.Proofs.Ytigcomhhgfgmgaa
namespace Go.Proofs.Ytigcomhhgfgmgaa
open Go.RowKit
theorem own_grown {w : World} {base n : Nat} {e : TypeId} (hb : base ≤ w.heap.size) (hn : n ≤ maxLen) : (w.drew.alloc (.cells (Builtin.zeroCells #[.int .i64 0, .int .i64 0] n ++ Builtin.zeroCells #[.int .i64 0, .int .i64 0] (grownCap w n 0 e - n)) e)).ownsRow base e 2 (.slice (some ⟨w.heap.size, 0, none⟩) 0 (grownCap w n 0 e)) 0 [] := by
  have h1 := grownCap_ge w n 0 e
  have h2 := grownCap_le_maxLen w n 0 e hn
  refine ⟨rfl, .inr ⟨w.heap.size, _, _, rfl, hb, heap_alloc_new w.drew _, Nat.zero_le _, h2, ?_, rfl⟩⟩
  simp only [Array.size_append, size_zeroCells]
  show n * 2 + (grownCap w n 0 e - n) * 2 = _
  omega
set_option maxHeartbeats 1000000 in
theorem growNil_any (n : Nat) (w : World) (h1 : 1 ≤ n) (h2 : n ≤ 2000000) :
    Calls Try.prog 66 #[.slice none 0 0, .int .i64 n] w fun e w' => ∃ g c, e = .returned (.slice (some ⟨g, 0, none⟩) 0 c) ∧ w'.ownsRow w.heap.size 24 2 (.slice (some ⟨g, 0, none⟩) 0 c) 0 [] ∧ Below w.heap.size w w' := by
  obtain ⟨i0, hi0, hz0, hzs1, hz2⟩ := info_parts info_pair
  have hr := Lib.run_append_nil_zeros (P := Try.prog) w 25 3 25 24 i0 _ .i64 .i64 Try.underlying25 Try.underlying3 hi0 hz0 n h1 (by omega) (by omega) (by rw [hz2]; omega)
  have HR := Lib.hid hr
  have HO := Lib.hid (own_grown (w := w) (base := w.heap.size) (n := n) (e := 24) (Nat.le_refl _) (by unfold maxLen; omega))
  have W1 : IntKind.i64.wrap (n : Int) = (n : Int) := by rw [IntKind.wrap_i64]; omega
  have hni : (0 : Int) < (n : Int) := by omega
  clear hr
  go_enter Try.func66, Try.ntmps66
  go_wp2_with (at_builtin; refine Lib.wpList_append_run _ rfl _ _ _ _ rfl _ _ rfl rfl _ _ HR.out ?_)
  go_ret
  exact ⟨w.heap.size, grownCap w n 0 24, rfl, HO.out, ((Below.refl _ _).alloc (Nat.le_refl _) _).drew⟩
/-- Both, one behind the other. -/
def CatOf (X : List (Int × Int)) (w : World) (e : Ending) (w' : World) : Prop :=
  ∃ a c, e = .returned (.slice a X.length c) ∧ w'.ownsRow w.heap.size 24 2 (.slice a X.length c) X.length (pairCells X) ∧ Below w.heap.size w w'
set_option maxRecDepth 100000 in
set_option maxHeartbeats 2000000 in
theorem concat_any (V B C B' C' : Nat) (v u : Value) (L M : List (Int × Int)) (w : World) (h : IsPairs B C w v L) (k : IsPairs B' C' w u M) (hn : L.length ≤ 100000) (hm : M.length ≤ 100000) (h1 : 1 ≤ L.length + M.length) (v0 : w.cell? ⟨V, 0, none⟩ = some v) (v1 : w.cell? ⟨V, 1, none⟩ = some u) :
    Calls Try.prog 63 #[.slice (some ⟨V, 0, none⟩) 2 2] w (CatOf (L ++ M) w) := by
  obtain ⟨i0, hi0, hz0, hzs1, hz2⟩ := info_parts info_pair
  obtain ⟨a, ca, rfl, hC, _⟩ := id h
  obtain ⟨b, cb, rfl, hC', _⟩ := id k
  have H := Lib.hid h
  have K := Lib.hid k
  have W1 : IntKind.i64.wrap ((L.length : Int) + (M.length : Int)) = (L.length : Int) + (M.length : Int) := by rw [IntKind.wrap_i64]; omega
  have W2 : IntKind.i64.wrap (L.length : Int) = (L.length : Int) := by rw [IntKind.wrap_i64]; omega
  have n1 : ¬ ((L.length : Int) + (M.length : Int) < 0) := by omega
  have n2 : ¬ ((L.length : Int) < 0) := by omega
  have hV : V < w.heap.size := World.block_lt_of_cell? w _ v0
  have HG := Lib.hid (fun w => (by have := growNil_any (L.length + M.length) w h1 (by omega); rwa [Int.natCast_add] at this : Calls Try.prog 66 #[.slice none 0 0, .int .i64 ((L.length : Int) + (M.length : Int))] w fun e w' => ∃ g c, e = .returned (.slice (some ⟨g, 0, none⟩) 0 c) ∧ w'.ownsRow w.heap.size 24 2 (.slice (some ⟨g, 0, none⟩) 0 c) 0 [] ∧ Below w.heap.size w w'))
  have HC := Lib.hid (show pairCells L ++ pairCells M = pairCells (L ++ M) from pairCells_append L M)
  have HLn := Lib.hid (show (L ++ M).length = L.length + M.length by simp)
  clear h k h1
  go_enter Try.func63, Try.ntmps63
  go_wp2_with fail
  go_loop [3, 5, 11] (fun x3 x5 x11 => ∃ i : Nat, i ≤ 2 ∧ x11 = .int .i64 i ∧ x3 = .int .i64 (if i = 0 then 0 else if i = 1 then (L.length : Int) else (L.length : Int) + (M.length : Int))) (fun _ _ x11 => 2 - (intOf x11).toNat)
  case atStart => exact ⟨0, by omega, rfl, rfl⟩
  case round =>
    obtain ⟨i, hi, rfl, rfl⟩ := hrel
    rcases (show i = 0 ∨ i = 1 ∨ i = 2 by omega) with rfl | rfl | rfl
    · go_wp2_with fail
      go_round
      case rel => exact ⟨1, by omega, rfl, rfl⟩
      case measure => simp [intOf]
    · go_wp2_with fail
      go_round
      case rel => exact ⟨2, by omega, rfl, rfl⟩
      case measure => simp [intOf]
    · go_wp2_with fail
      refine (HG.out _).mono ?_
      rintro e w1 ⟨g1, c1, rfl, hown1, hb1⟩
      have v0' := cell_belowP hb1 v0
      have v1' := cell_belowP hb1 v1
      have HO1 := Lib.hid hown1
      have HB1 := Lib.hid hb1
      clear hown1 hb1 v0 v1
      go_wp2_with fail
      go_loopw [6, 8, 27] (fun x6 x8 x27 wr => ∃ (i N : Nat) (X : List (Int × Int)) (a6 : Option Addr) (c6 : Nat), i ≤ 2 ∧ x27 = .int .i64 i ∧ x6 = .slice a6 N c6 ∧ Hid (wr.ownsRow w.heap.size 24 2 (.slice a6 N c6) N (pairCells X) ∧ (i = 0 → N = 0 ∧ X = []) ∧ (i = 1 → N = L.length ∧ L = X) ∧ (i = 2 → N = L.length + M.length ∧ X = L ++ M)) ∧ Below w.heap.size w wr ∧ wr.cell? ⟨V, 0, none⟩ = some (.slice a L.length ca) ∧ wr.cell? ⟨V, 1, none⟩ = some (.slice b M.length cb)) (fun _ _ x27 _ => 2 - (intOf x27).toNat)
      case atStart => exact ⟨0, 0, [], some ⟨g1, 0, none⟩, c1, by omega, rfl, rfl, Lib.hid ⟨HO1.out, fun _ => ⟨rfl, rfl⟩, fun e => by omega, fun e => by omega⟩, HB1.out, v0', v1'⟩
      case round =>
        obtain ⟨i, N, X, a6, c6, hi, rfl, rfl, HX, hB, u0, u1⟩ := hrel
        rcases (show i = 0 ∨ i = 1 ∨ i = 2 by omega) with rfl | rfl | rfl
        · obtain ⟨hown, hx, _, _⟩ := id HX.out
          obtain ⟨rfl, rfl⟩ := hx rfl
          have HB := Lib.hid hB
          have hbz := hB.size
          clear hB HX hx
          go_wp2_with (at_builtin; refine wpList_append_pairs _ rfl _ _ 25 rfl w.heap.size 24 i0 _ 16 Try.underlying25 hi0 hz0 hzs1 hz2 rfl (.slice a6 0 c6) 0 [] rfl hown B C _ L rfl (H.out.below HB.out hC) (L.length) (by omega) (pairCells L) rfl (by unfold maxLen; omega) (by omega) hbz ?_)
          intro a7 c7 w7 hown7 hgrow7 hat7
          have u0' := (hgrow7.cell_far ⟨V, 0, none⟩ (World.block_lt_of_cell? wr _ u0) (fun e => by have := (hown.lt _ e.symm).1; simp at this; omega)).trans u0
          have u1' := (hgrow7.cell_far ⟨V, 1, none⟩ (World.block_lt_of_cell? wr _ u1) (fun e => by have := (hown.lt _ e.symm).1; simp at this; omega)).trans u1
          have HB7 := Lib.hid (HB.out.grown hgrow7 hbz (fun k e => (hown.lt k e).1))
          have HO7 := Lib.hid hown7
          clear hown7 hgrow7 hat7 hown u0 u1
          go_wp2_with fail
          go_roundw
          case rel => exact ⟨1, _, L, a7, c7, by omega, rfl, rfl, Lib.hid ⟨HO7.out, fun e => by omega, fun _ => ⟨rfl, rfl⟩, fun e => by omega⟩, HB7.out, u0', u1'⟩
          case measure => simp [intOf]
        · obtain ⟨hown, _, hx, _⟩ := id HX.out
          obtain ⟨rfl, rfl⟩ := hx rfl
          have HB := Lib.hid hB
          have hbz := hB.size
          clear hB HX hx
          go_wp2_with (at_builtin; refine wpList_append_pairs _ rfl _ _ 25 rfl w.heap.size 24 i0 _ 16 Try.underlying25 hi0 hz0 hzs1 hz2 rfl (.slice a6 L.length c6) L.length (pairCells L) rfl hown B' C' _ M rfl (K.out.below HB.out hC') (L.length + M.length) (by omega) (pairCells (L ++ M)) HC.out (by unfold maxLen; omega) (by omega) hbz ?_)
          intro a7 c7 w7 hown7 hgrow7 hat7
          have u0' := (hgrow7.cell_far ⟨V, 0, none⟩ (World.block_lt_of_cell? wr _ u0) (fun e => by have := (hown.lt _ e.symm).1; simp at this; omega)).trans u0
          have u1' := (hgrow7.cell_far ⟨V, 1, none⟩ (World.block_lt_of_cell? wr _ u1) (fun e => by have := (hown.lt _ e.symm).1; simp at this; omega)).trans u1
          have HB7 := Lib.hid (HB.out.grown hgrow7 hbz (fun k e => (hown.lt k e).1))
          have HO7 := Lib.hid hown7
          clear hown7 hgrow7 hat7 hown u0 u1
          go_wp2_with fail
          go_roundw
          case rel => exact ⟨2, _, L ++ M, a7, c7, by omega, rfl, rfl, Lib.hid ⟨HO7.out, fun e => by omega, fun e => by omega, fun _ => ⟨rfl, rfl⟩⟩, HB7.out, u0', u1'⟩
          case measure => simp [intOf]
        · obtain ⟨hown, _, _, hx⟩ := id HX.out
          obtain ⟨rfl, rfl⟩ := hx rfl
          have HB := Lib.hid hB
          have HO := Lib.hid hown
          clear hB HX hx hown
          go_wp2_with fail
          go_ret
          unfold CatOf
          rw [HLn.out]
          exact ⟨a6, c6, rfl, HO.out, HB.out⟩
end Go.Proofs.Ytigcomhhgfgmgaa
namespace Go.Proofs.Ytigcomhhgfgmgaa
open Go.RowKit
/-- Deeds at whatever is handed in. -/
def runR (d : DeskN) (xs : List DeedN) : DeskN × Nat := if deskN d = true ∧ xs.length ≤ 40 then runN d xs else (⟨(0, 0), []⟩, 0)
theorem runR_no {d : DeskN} {xs : List DeedN} (h : ¬ (deskN d = true ∧ xs.length ≤ 40)) : runR d xs = (⟨(0, 0), []⟩, 0) := if_neg h
theorem runR_yes {d : DeskN} {xs : List DeedN} (h : deskN d = true) (h2 : xs.length ≤ 40) : runR d xs = runN d xs := if_pos ⟨h, h2⟩
theorem runN_snoc (d : DeskN) (xs : List DeedN) (x : DeedN) : runN d (xs ++ [x]) = ((doN (runN d xs).1 x).1, (runN d xs).2 + if (doN (runN d xs).1 x).2 = true then 1 else 0) := by
  rw [runN_append]
  simp [runN]
theorem runN_take {d : DeskN} {xs : List DeedN} {i : Nat} {x : DeedN} (h : xs[i]? = some x) : runN d (xs.take (i + 1)) = ((doN (runN d (xs.take i)).1 x).1, (runN d (xs.take i)).2 + if (doN (runN d (xs.take i)).1 x).2 = true then 1 else 0) := by
  have hlt : i < xs.length := (List.getElem?_eq_some_iff.1 h).1
  have hx : xs[i] = x := (List.getElem?_eq_some_iff.1 h).2
  rw [List.take_succ_eq_append_getElem hlt, hx, runN_snoc]
/-- What is returned: a desk in memory of its own, and how many were done. -/
def RanS (d : DeskN) (xs : List DeedN) (w : World) (e : Ending) (w' : World) : Prop :=
  ∃ a c, e = .returned (.tuple #[.agg #[.int .i64 (runR d xs).1.now.1, .int .i64 (runR d xs).1.now.2, .slice a (runR d xs).1.past.length c], .int .i64 ((runR d xs).2 : Nat)]) ∧ IsPairs w.heap.size w'.heap.size w' (.slice a (runR d xs).1.past.length c) (runR d xs).1.past ∧ Below w.heap.size w w'
end Go.Proofs.Ytigcomhhgfgmgaa
