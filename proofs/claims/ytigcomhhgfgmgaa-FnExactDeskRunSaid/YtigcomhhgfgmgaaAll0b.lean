/- Contracts and laws that the statement's proof stands on, one text behind the other. -/
import Derived.Test.YtigcomhhgfgmgaaAll0a
import Derived.Laws.MakeOwn
import Derived.Lib.AppendZeros
import Derived.Deep.RegionWith
import Derived.Deep.Cut
import Derived.Deep.DeepCutAuto

namespace Go.Proofs.Ytigcomhhgfgmgaa
open Go.RowKit
theorem IsDeeds.markedS {B C B0 C0 : Nat} {w w' : World} {v : Value} {L : List DeedN} (h : IsDeeds B0 C0 w v L) (hm : MarkedS B C w w') (hd : C0 ≤ B ∨ C ≤ B0) : IsDeeds B0 C0 w' v L := by
  obtain ⟨a, cap, rfl, hC, hs⟩ := h
  obtain ⟨row, hg, hr⟩ := hm
  refine ⟨a, cap, rfl, Nat.le_trans hC hg.size, ?_⟩
  rcases hs with hs | ⟨g, off, ha, h1, h2, hc, hf⟩
  · exact .inl hs
  · have hne : some g ≠ row := fun e => by have := hr g e.symm; omega
    exact .inr ⟨g, off, ha, h1, h2, fun i p hi => ⟨(hg.cell_far ⟨g, off + i * 3, none⟩ (by show g < w.heap.size; omega) hne).trans (hc i p hi).1, (hg.cell_far ⟨g, off + i * 3 + 1, none⟩ (by show g < w.heap.size; omega) hne).trans (hc i p hi).2.1, (hg.cell_far ⟨g, off + i * 3 + 2, none⟩ (by show g < w.heap.size; omega) hne).trans (hc i p hi).2.2⟩, fun i hi => (hg.frozen_far ⟨g, off + i, none⟩ (by show g < w.heap.size; omega) hne).trans (hf i hi)⟩
theorem IsPairs.markedS2 {B C B0 C0 : Nat} {w w' : World} {v : Value} {L : List (Int × Int)} (h : IsPairs B0 C0 w v L) (hm : MarkedS B C w w') (hd : C0 ≤ B ∨ C ≤ B0) : IsPairs B0 C0 w' v L := by
  obtain ⟨a, cap, rfl, hC, hs⟩ := h
  obtain ⟨row, hg, hr⟩ := hm
  refine ⟨a, cap, rfl, Nat.le_trans hC hg.size, ?_⟩
  rcases hs with hs | ⟨g, off, ha, h1, h2, hc, hf⟩
  · exact .inl hs
  · have hne : some g ≠ row := fun e => by have := hr g e.symm; omega
    exact .inr ⟨g, off, ha, h1, h2, fun i p hi => ⟨(hg.cell_far ⟨g, off + i * 2, none⟩ (by show g < w.heap.size; omega) hne).trans (hc i p hi).1, (hg.cell_far ⟨g, off + i * 2 + 1, none⟩ (by show g < w.heap.size; omega) hne).trans (hc i p hi).2⟩, fun i hi => (hg.frozen_far ⟨g, off + i, none⟩ (by show g < w.heap.size; omega) hne).trans (hf i hi)⟩
theorem MarkedS.cell {B C : Nat} {w w' : World} (hm : MarkedS B C w w') {b : Nat} (hb : b < w.heap.size) (hd : b < B ∨ C ≤ b) (o : Nat) : w'.cell? ⟨b, o, none⟩ = w.cell? ⟨b, o, none⟩ := by
  obtain ⟨row, hg, hr⟩ := hm
  exact hg.cell_far ⟨b, o, none⟩ hb (fun e => by have := hr b e.symm; omega)
theorem MarkedS.size {B C : Nat} {w w' : World} (hm : MarkedS B C w w') : w.heap.size ≤ w'.heap.size := by obtain ⟨_, hg, _⟩ := hm; exact hg.size
theorem deed_at {L : List DeedN} {i : Nat} (h : i < L.length) : ∃ x y z, L[i]? = some ⟨x, y, z⟩ := ⟨L[i].kind, L[i].a, L[i].b, by simp [h]⟩
/-- The marks. -/
def markD (k0 : Int) (n : Nat) : List DeedN := (List.range n).map fun (i : Nat) => ⟨k0 + 3 * (i : Int), k0 + 3 * (i : Int) + 1, k0 + 3 * (i : Int) + 1 + 1⟩
theorem markD_len (k0 : Int) (n : Nat) : (markD k0 n).length = n := by simp [markD]
theorem markD_at {k0 : Int} {n i : Nat} (h : i < n) : (markD k0 n)[i]? = some ⟨k0 + 3 * (i : Int), k0 + 3 * (i : Int) + 1, k0 + 3 * (i : Int) + 1 + 1⟩ := by simp [markD, h]
theorem markD_is {k0 : Int} {n i : Nat} {p : DeedN} (h : (markD k0 n)[i]? = some p) : i < n ∧ p = ⟨k0 + 3 * (i : Int), k0 + 3 * (i : Int) + 1, k0 + 3 * (i : Int) + 1 + 1⟩ := by
  have hi : i < n := by
    have := (List.getElem?_eq_some_iff.1 h).1
    rwa [markD_len] at this
  rw [markD_at hi] at h
  exact ⟨hi, (Option.some.inj h).symm⟩
theorem three_far {w : World} {g o b p : Nat} (x y z : Value) (h : ¬ (g = b ∧ (p = o ∨ p = o + 1 ∨ p = o + 2))) : (((w.setCell ⟨g, o, none⟩ x).setCell ⟨g, o + 1, none⟩ y).setCell ⟨g, o + 2, none⟩ z).cell? ⟨b, p, none⟩ = w.cell? ⟨b, p, none⟩ := by
  rw [World.cell?_setCell_other _ _ _ _ (fun e => h (by injection e; omega)), World.cell?_setCell_other _ _ _ _ (fun e => h (by injection e; omega)), World.cell?_setCell_other _ _ _ _ (fun e => h (by injection e; omega))]
theorem three_same {w : World} {g o : Nat} {u v t : Value} (x y z : Value) (c1 : w.cell? ⟨g, o, none⟩ = some u) (c2 : w.cell? ⟨g, o + 1, none⟩ = some v) (c3 : w.cell? ⟨g, o + 2, none⟩ = some t) :
    (((w.setCell ⟨g, o, none⟩ x).setCell ⟨g, o + 1, none⟩ y).setCell ⟨g, o + 2, none⟩ z).cell? ⟨g, o, none⟩ = some x ∧ (((w.setCell ⟨g, o, none⟩ x).setCell ⟨g, o + 1, none⟩ y).setCell ⟨g, o + 2, none⟩ z).cell? ⟨g, o + 1, none⟩ = some y ∧ (((w.setCell ⟨g, o, none⟩ x).setCell ⟨g, o + 1, none⟩ y).setCell ⟨g, o + 2, none⟩ z).cell? ⟨g, o + 2, none⟩ = some z := by
  have d1 : (w.setCell ⟨g, o, none⟩ x).cell? ⟨g, o, none⟩ = some x := World.cell?_setCell_same' _ _ _ (by rw [c1]; rfl)
  have d2 : (w.setCell ⟨g, o, none⟩ x).cell? ⟨g, o + 1, none⟩ = some v := (World.cell?_setCell_other _ _ _ _ (fun e => by injection e; omega)).trans c2
  have d3 : (w.setCell ⟨g, o, none⟩ x).cell? ⟨g, o + 2, none⟩ = some t := (World.cell?_setCell_other _ _ _ _ (fun e => by injection e; omega)).trans c3
  generalize w.setCell ⟨g, o, none⟩ x = w1 at d1 d2 d3 ⊢
  have e1 : (w1.setCell ⟨g, o + 1, none⟩ y).cell? ⟨g, o, none⟩ = some x := (World.cell?_setCell_other _ _ _ _ (fun e => by injection e; omega)).trans d1
  have e2 : (w1.setCell ⟨g, o + 1, none⟩ y).cell? ⟨g, o + 1, none⟩ = some y := World.cell?_setCell_same' _ _ _ (by rw [d2]; rfl)
  have e3 : (w1.setCell ⟨g, o + 1, none⟩ y).cell? ⟨g, o + 2, none⟩ = some t := (World.cell?_setCell_other _ _ _ _ (fun e => by injection e; omega)).trans d3
  generalize w1.setCell ⟨g, o + 1, none⟩ y = w2 at e1 e2 e3 ⊢
  exact ⟨(World.cell?_setCell_other _ _ _ _ (fun e => by injection e; omega)).trans e1, (World.cell?_setCell_other _ _ _ _ (fun e => by injection e; omega)).trans e2, World.cell?_setCell_same' _ _ _ (by rw [e3]; rfl)⟩
theorem eqDeed_any (k a b : Int) (w : World) :
    Calls Try.prog 60 #[.agg #[.int .i64 k, .int .i64 a, .int .i64 b], .agg #[.int .i64 k, .int .i64 a, .int .i64 b]] w fun e w' => e = .returned (.bool true) ∧ Below w.heap.size w w' := by
  go_enter Try.func60, Try.ntmps60
  go_wp2
  go_ret
  exact ⟨rfl, by (repeat (first | exact Below.refl _ _ | refine Below.setCell ?_ (by first | omega | (simp <;> omega)) _ | refine Below.alloc ?_ (by first | omega | (simp <;> omega)) _ | refine Below.drew ?_ | refine Below.trans ?_ (Below.mono (by assumption) (by first | omega | (simp <;> omega))) | refine Below.grown ?_ (by assumption) (by first | omega | (simp <;> omega)) (fun k e => by cases e; first | omega | (simp <;> omega))))⟩
set_option maxHeartbeats 4000000 in
theorem eqDeedS_same (B C B' C' : Nat) (v u : Value) (L : List DeedN) (w : World) (h : IsDeeds B C w v L) (k : IsDeeds B' C' w u L) (hn : L.length ≤ 1048600) :
    Calls Try.prog 37 #[v, u] w fun e w' => e = .returned (.bool true) ∧ Below w.heap.size w w' := by
  obtain ⟨a, ca, rfl, hC, hs⟩ := h
  obtain ⟨b, cb, rfl, hC', ks⟩ := k
  go_enter Try.func37, Try.ntmps37
  go_wp2_with fail
  go_loopw [5] (fun k wr => ∃ i : Nat, i ≤ L.length ∧ k = .int .i64 i ∧ Below w.heap.size w wr) (fun k _ => L.length - (intOf k).toNat)
  case atStart => exact ⟨0, Nat.zero_le _, rfl, Below.refl _ _⟩
  case round =>
    obtain ⟨i, hi, rfl, hB⟩ := hrel
    by_cases hlt : i < L.length
    · rcases hs with rfl | ⟨g, off, rfl, h1, h2, hc, hf⟩
      · simp at hlt
      rcases ks with rfl | ⟨g', off', rfl, h1', h2', hc', hf'⟩
      · simp at hlt
      obtain ⟨x, y, z, hp⟩ := deed_at hlt
      have c1 : wr.cell? ⟨g, off + i * 3, none⟩ = some (.int .i64 x) := (hB.cell (p := ⟨g, off + i * 3, none⟩) (by show g < _; omega)).trans (hc i _ hp).1
      have c2 : wr.cell? ⟨g, off + i * 3 + 1, none⟩ = some (.int .i64 y) := (hB.cell (p := ⟨g, off + i * 3 + 1, none⟩) (by show g < _; omega)).trans (hc i _ hp).2.1
      have c3 : wr.cell? ⟨g, off + i * 3 + 2, none⟩ = some (.int .i64 z) := (hB.cell (p := ⟨g, off + i * 3 + 2, none⟩) (by show g < _; omega)).trans (hc i _ hp).2.2
      have c4 : wr.cell? ⟨g', off' + i * 3, none⟩ = some (.int .i64 x) := (hB.cell (p := ⟨g', off' + i * 3, none⟩) (by show g' < _; omega)).trans (hc' i _ hp).1
      have c5 : wr.cell? ⟨g', off' + i * 3 + 1, none⟩ = some (.int .i64 y) := (hB.cell (p := ⟨g', off' + i * 3 + 1, none⟩) (by show g' < _; omega)).trans (hc' i _ hp).2.1
      have c6 : wr.cell? ⟨g', off' + i * 3 + 2, none⟩ = some (.int .i64 z) := (hB.cell (p := ⟨g', off' + i * 3 + 2, none⟩) (by show g' < _; omega)).trans (hc' i _ hp).2.2
      have hii : (i : Int) < (L.length : Int) := by omega
      have i0 : (0 : Int) ≤ (i : Int) := by omega
      have HB := Lib.hid hB
      have hbz := hB.size
      clear hc hc' hf hf' hB hp
      obtain ⟨S, hSd⟩ : ∃ S : World → Prop, (fun V => Below wr.heap.size wr V) = S := ⟨_, rfl⟩
      have hkeep : ∀ V V' : World, S V → Below V.heap.size V V' → S V' := by rw [← hSd]; exact fun V V' h hb => h.trans (hb.mono h.size)
      have gk1 : ∀ iq : KeptBy S, iq.world.cell? ⟨g, off + i * 3, none⟩ = some (.int .i64 x) := by rw [← hSd]; exact fun iq => cell_belowP iq.ok c1
      have gk2 : ∀ iq : KeptBy S, iq.world.cell? ⟨g, off + i * 3 + 1, none⟩ = some (.int .i64 y) := by rw [← hSd]; exact fun iq => cell_belowP iq.ok c2
      have gk3 : ∀ iq : KeptBy S, iq.world.cell? ⟨g, off + i * 3 + 2, none⟩ = some (.int .i64 z) := by rw [← hSd]; exact fun iq => cell_belowP iq.ok c3
      have gk4 : ∀ iq : KeptBy S, iq.world.cell? ⟨g', off' + i * 3, none⟩ = some (.int .i64 x) := by rw [← hSd]; exact fun iq => cell_belowP iq.ok c4
      have gk5 : ∀ iq : KeptBy S, iq.world.cell? ⟨g', off' + i * 3 + 1, none⟩ = some (.int .i64 y) := by rw [← hSd]; exact fun iq => cell_belowP iq.ok c5
      have gk6 : ∀ iq : KeptBy S, iq.world.cell? ⟨g', off' + i * 3 + 2, none⟩ = some (.int .i64 z) := by rw [← hSd]; exact fun iq => cell_belowP iq.ok c6
      have gkn : Nonempty (KeptBy S) := ⟨⟨wr.drew, by rw [← hSd]; exact (Below.refl _ _).drew⟩⟩
      go_wp2_with fail
      refine wp_region_kept (S := S) (by rw [← hSd]; exact (Below.refl _ _).drew) (by kernel_rfl) (by kernel_rfl) ?_
      repeat (go_big_quiet_step ((first | (go_at_call 60; refine (eqDeed_any x y z _).mono ?_; rintro e w' ⟨rfl, hhw⟩; exact ⟨rfl, ⟨w', hkeep _ _ (KeptBy.ok _) hhw⟩, rfl⟩) | fail)))
      refine wpQuiet_nil ?_
      rintro z3 ⟨iz, hwz⟩
      have bz3 : Below wr.heap.size wr z3 := by
        have this : S z3 := by rw [hwz]; exact iz.ok
        rw [← hSd] at this
        exact this
      clear hwz iz gkn hkeep hSd gk1 gk2 gk3 gk4 gk5 gk6
      have HBz := Lib.hid (HB.out.trans (bz3.mono hbz))
      clear bz3
      go_wp2
      go_roundw
      case rel => exact ⟨i + 1, by omega, congrArg (Value.int .i64) (by omega), HBz.out⟩
      case measure => simp [intOf]; omega
    · obtain rfl : i = L.length := by omega
      clear hs ks
      go_wp2
      go_ret
      exact ⟨rfl, hB⟩
set_option maxHeartbeats 4000000 in
theorem markDeedS_any (B C : Nat) (v : Value) (L : List DeedN) (k0 : Int) (w : World) (h : IsDeeds B C w v L) (hn : L.length ≤ 1048600) (hk : 0 ≤ k0) (hk1 : k0 ≤ 100000000) :
    Calls Try.prog 38 #[v, .int .i64 k0] w fun e w' => e = .returned (.int .i64 (k0 + 3 * (L.length : Int))) ∧ IsDeeds B C w' v (markD k0 L.length) ∧ MarkedS B C w w' := by
  obtain ⟨a, ca, rfl, hC, hs⟩ := h
  rcases hs with rfl | ⟨g, off, rfl, h1, h2, hc, hf⟩
  · go_enter Try.func38, Try.ntmps38
    go_wp2_with fail
    go_loop [1, 5] (fun x y => x = .int .i64 k0 ∧ y = .int .i64 0) (fun _ _ => 0)
    case atStart => exact ⟨rfl, rfl⟩
    case round =>
      obtain ⟨rfl, rfl⟩ := hrel
      go_wp2
      go_ret
      exact ⟨by simp, ⟨a, ca, rfl, hC, .inl rfl⟩, none, World.grownBy.refl _ _, fun k e => by cases e⟩
  · have hc2 : ∀ j, j < L.length → ∃ x y z : Int, w.cell? ⟨g, off + j * 3, none⟩ = some (.int .i64 x) ∧ w.cell? ⟨g, off + j * 3 + 1, none⟩ = some (.int .i64 y) ∧ w.cell? ⟨g, off + j * 3 + 2, none⟩ = some (.int .i64 z) := fun j hj => by
      obtain ⟨x, y, z, hp⟩ := deed_at hj
      exact ⟨x, y, z, hc j _ hp⟩
    obtain ⟨n, hnl⟩ : ∃ n, L.length = n := ⟨_, rfl⟩
    rw [hnl] at hn hf hc2 h2 ⊢
    clear hc hnl
    go_enter Try.func38, Try.ntmps38
    go_wp2_with fail
    go_loopw [1, 5] (fun x y wr => ∃ i : Nat, i ≤ n ∧ x = .int .i64 (k0 + 3 * (i : Int)) ∧ y = .int .i64 i ∧ (∀ j, j < i → wr.cell? ⟨g, off + j * 3, none⟩ = some (.int .i64 (k0 + 3 * (j : Int))) ∧ wr.cell? ⟨g, off + j * 3 + 1, none⟩ = some (.int .i64 (k0 + 3 * (j : Int) + 1)) ∧ wr.cell? ⟨g, off + j * 3 + 2, none⟩ = some (.int .i64 (k0 + 3 * (j : Int) + 1 + 1))) ∧ (∀ j, i ≤ j → j < n → ∃ x y z : Int, wr.cell? ⟨g, off + j * 3, none⟩ = some (.int .i64 x) ∧ wr.cell? ⟨g, off + j * 3 + 1, none⟩ = some (.int .i64 y) ∧ wr.cell? ⟨g, off + j * 3 + 2, none⟩ = some (.int .i64 z)) ∧ (∀ j, j < 3 * n → wr.frozen? ⟨g, off + j, none⟩ = false) ∧ wr.heap.size = w.heap.size ∧ w.grownBy wr (some g)) (fun _ y _ => n - (intOf y).toNat)
    case atStart => exact ⟨0, Nat.zero_le _, by simp, rfl, fun j hj => absurd hj (by omega), fun j _ hj => hc2 j hj, hf, rfl, World.grownBy.refl _ _⟩
    case round =>
      obtain ⟨i, hi, rfl, rfl, hm, hr, hfr, hsz, hg⟩ := hrel
      by_cases hlt : i < n
      · obtain ⟨x, y, z, c1, c2, c3⟩ := hr i (Nat.le_refl _) hlt
        have f1 : wr.frozen? ⟨g, off + i * 3, none⟩ = false := hfr (i * 3) (by omega)
        have f2 : wr.frozen? ⟨g, off + i * 3 + 1, none⟩ = false := hfr (i * 3 + 1) (by omega)
        have f3 : wr.frozen? ⟨g, off + i * 3 + 2, none⟩ = false := hfr (i * 3 + 2) (by omega)
        have hii : (i : Int) < (n : Int) := by omega
        have i0 : (0 : Int) ≤ (i : Int) := by omega
        have HM := Lib.hid hm
        have HR := Lib.hid hr
        have HF := Lib.hid hfr
        have HS := Lib.hid hsz
        have HG := Lib.hid hg
        clear hm hr hfr hc2 hf hsz hg
        go_wp2
        go_roundw
        case rel =>
          refine ⟨i + 1, by omega, congrArg (Value.int .i64) (by omega), congrArg (Value.int .i64) (by omega), fun j hj => ?_, fun j hij hj => ?_, fun j hj => ?_, ?_, grown_set (grown_set (grown_set HG.out _ _) _ _) _ _⟩
          · by_cases e : j = i
            · subst e
              exact three_same _ _ _ c1 c2 c3
            · obtain ⟨m1, m2, m3⟩ := HM.out j (by omega)
              exact ⟨(three_far _ _ _ (by omega)).trans m1, (three_far _ _ _ (by omega)).trans m2, (three_far _ _ _ (by omega)).trans m3⟩
          · obtain ⟨x', y', z', m1, m2, m3⟩ := HR.out j (by omega) hj
            exact ⟨x', y', z', (three_far _ _ _ (by omega)).trans m1, (three_far _ _ _ (by omega)).trans m2, (three_far _ _ _ (by omega)).trans m3⟩
          · rw [World.frozen?_setCell, World.frozen?_setCell, World.frozen?_setCell]; exact HF.out j hj
          · rw [← HS.out]; simp [World.setCell]
        case measure => simp [intOf]; omega
      · obtain rfl : i = n := by omega
        have HM := Lib.hid hm
        have HF := Lib.hid hfr
        have HS := Lib.hid hsz
        have HG := Lib.hid hg
        clear hm hr hfr hc2 hf hsz hg
        go_wp2
        go_ret
        refine ⟨rfl, ⟨_, ca, by rw [markD_len], by rw [HS.out]; exact hC, .inr ⟨g, off, rfl, h1, ⟨h2.1, by rw [markD_len]; exact h2.2⟩, fun j p hj => ?_, by rw [markD_len]; exact HF.out⟩⟩, some g, HG.out, fun k e => by cases e; exact ⟨h1, h2.1⟩⟩
        obtain ⟨hj', rfl⟩ := markD_is hj
        exact HM.out j hj'
end Go.Proofs.Ytigcomhhgfgmgaa
namespace Go.Proofs.Ytigcomhhgfgmgaa
open Go.RowKit
theorem info_deed : (Try.prog.info? 38).map (fun i => (i.zero, i.size, i.bytes)) = some (some (.agg #[.int .i64 0, .int .i64 0, .int .i64 0]), 3, 24) := by kernel_rfl
theorem info_parts3 {P : Program} {t : TypeId} {z : Option Value} {s b : Nat} (h : (P.info? t).map (fun i => (i.zero, i.size, i.bytes)) = some (z, s, b)) : ∃ i, P.info? t = some i ∧ i.zero = z ∧ i.size = s ∧ i.bytes = b := by
  cases hi : P.info? t with
  | none => rw [hi] at h; cases h
  | some i => rw [hi] at h; simp at h; exact ⟨i, rfl, h⟩
theorem run_make_three {P : Program} (t e : TypeId) (i : TypeInfo) (ht : P.underlying t = some (.slice e)) (hi : P.info? e = some i) (hz : i.zero = some (.agg #[.int .i64 0, .int .i64 0, .int .i64 0])) (hs : i.size = 3) (hb : i.bytes = 24) (n : Nat) (hn : n ≤ 1048600) (w : World) :
    (Instr.makeSlice t (.int .i64 (n : Int)) (.int .i64 (n : Int))).run P w = .ok (.slice (some ⟨w.heap.size, 0, none⟩) n n) (w.alloc (.cells (madeCells #[.int .i64 0, .int .i64 0, .int .i64 0] (n * 3)) e)) := by
  have hr := run_make (P := P) w t e i _ ht hi hz .i64 .i64 n n (by omega) (by omega) (by rw [hb]; omega) (by omega)
  simp only [Int.toNat_natCast, hs] at hr
  exact hr
theorem made_at3 (n j : Nat) (h : j < n) : (madeCells #[.int .i64 0, .int .i64 0, .int .i64 0] n)[j]? = some (.int .i64 0) := by
  have h2 : j % 3 = 0 ∨ j % 3 = 1 ∨ j % 3 = 2 := by omega
  rcases h2 with h2 | h2 | h2 <;> simp [madeCells, h, h2]
set_option maxHeartbeats 400000 in
theorem toDeed_any (k p q : Int) (w : World) :
    Calls Try.prog 34 #[.agg #[.int .i64 k, .int .i64 p, .int .i64 q]] w fun e w' => e = .returned (.agg #[.int .i64 k, .int .i64 p, .int .i64 q]) ∧ Below w.heap.size w w' := by
  go_enter Try.func34, Try.ntmps34
  go_wp2
  refine bodyPost_ret (v := .agg #[.int .i64 k, .int .i64 p, .int .i64 q]) (by simp [results, Try.results34, go_sem]) rfl ⟨rfl, ?_⟩
  (repeat (first | exact Below.refl _ _ | refine Below.setCell ?_ (by first | omega | (simp <;> omega)) _ | refine Below.alloc ?_ (by first | omega | (simp <;> omega)) _ | refine Below.drew ?_ | refine Below.trans ?_ (Below.mono (by assumption) (by first | omega | (simp <;> omega))) | refine Below.grown ?_ (by assumption) (by first | omega | (simp <;> omega)) (fun k e => by cases e; first | omega | (simp <;> omega))))
set_option maxHeartbeats 4000000 in
theorem toDeedS_any (L : List DeedN) (v : Value) (w : World) (h : SeesDeeds w v L) (hn : L.length ≤ 1048600) :
    Calls Try.prog 36 #[v] w fun e w' => ∃ u, e = .returned u ∧ IsDeeds w.heap.size w'.heap.size w' u L ∧ Below w.heap.size w w' := by
  obtain ⟨a, cap, rfl, hs⟩ := h
  obtain ⟨i0, hi0, hz0, hzs1, hz2⟩ := info_parts3 info_deed
  have hmk := fun W => run_make_three (P := Try.prog) 44 38 i0 Try.underlying44 hi0 hz0 hzs1 hz2 L.length hn W
  go_enter Try.func36, Try.ntmps36
  go_wp2_with fail
  go_loopw [4] (fun y wr => ∃ i : Nat, i ≤ L.length ∧ y = .int .i64 i ∧ (∀ (j : Nat) (p : DeedN), j < i → L[j]? = some p → wr.cell? ⟨w.heap.size, j * 3, none⟩ = some (.int .i64 p.kind) ∧ wr.cell? ⟨w.heap.size, j * 3 + 1, none⟩ = some (.int .i64 p.a) ∧ wr.cell? ⟨w.heap.size, j * 3 + 2, none⟩ = some (.int .i64 p.b)) ∧ (∀ j, i * 3 ≤ j → j < L.length * 3 → wr.cell? ⟨w.heap.size, j, none⟩ = some (.int .i64 0)) ∧ (∀ j, wr.frozen? ⟨w.heap.size, j, none⟩ = false) ∧ w.heap.size < wr.heap.size ∧ Below w.heap.size w wr) (fun y _ => L.length - (intOf y).toNat)
  case atStart => exact ⟨0, Nat.zero_le _, rfl, fun j p hj => absurd hj (by omega), fun j _ hj => (World.cell?_alloc_mark _ _ _ _ _).trans (made_at3 _ _ hj), fun j => by (unfold World.frozen?; rw [heap_alloc_new]; simp), by simp, (Below.refl _ _).alloc (Nat.le_refl _) _⟩
  case round =>
    obtain ⟨i, hi, rfl, hm, hr, hfr, hsz, hB⟩ := hrel
    by_cases hlt : i < L.length
    · rcases hs with rfl | ⟨g, off, rfl, hg, hc⟩
      · simp at hlt
      obtain ⟨x, y, z, hp⟩ := deed_at hlt
      have c1 : wr.cell? ⟨g, off + i * 3, none⟩ = some (.int .i64 x) := (hB.cell (p := ⟨g, off + i * 3, none⟩) hg).trans (hc i _ hp).1
      have c2 : wr.cell? ⟨g, off + i * 3 + 1, none⟩ = some (.int .i64 y) := (hB.cell (p := ⟨g, off + i * 3 + 1, none⟩) hg).trans (hc i _ hp).2.1
      have c3 : wr.cell? ⟨g, off + i * 3 + 2, none⟩ = some (.int .i64 z) := (hB.cell (p := ⟨g, off + i * 3 + 2, none⟩) hg).trans (hc i _ hp).2.2
      have d1 := hr (i * 3) (by omega) (by omega)
      have f1 := hfr (i * 3)
      have d2 := hr (i * 3 + 1) (by omega) (by omega)
      have f2 := hfr (i * 3 + 1)
      have d3 := hr (i * 3 + 2) (by omega) (by omega)
      have f3 := hfr (i * 3 + 2)
      have hii : (i : Int) < (L.length : Int) := by omega
      have i0 : (0 : Int) ≤ (i : Int) := by omega
      have HM := Lib.hid hm
      have HR := Lib.hid hr
      have HF := Lib.hid hfr
      have HB := Lib.hid hB
      have HP := Lib.hid hp
      clear hm hr hfr hc hB hmk hp
      go_wp2_with fail
      refine (toDeed_any x y z _).mono ?_
      rintro e w1 ⟨rfl, hb1⟩
      have hz1 := hb1.size
      have e1 : w1.cell? ⟨w.heap.size, i * 3, none⟩ = some (.int .i64 0) := cell_belowP hb1 d1
      have k1 : w1.frozen? ⟨w.heap.size, i * 3, none⟩ = false := (hb1.frozen (p := ⟨w.heap.size, i * 3, none⟩) hsz).trans f1
      have e2 : w1.cell? ⟨w.heap.size, i * 3 + 1, none⟩ = some (.int .i64 0) := cell_belowP hb1 d2
      have k2 : w1.frozen? ⟨w.heap.size, i * 3 + 1, none⟩ = false := (hb1.frozen (p := ⟨w.heap.size, i * 3 + 1, none⟩) hsz).trans f2
      have e3 : w1.cell? ⟨w.heap.size, i * 3 + 2, none⟩ = some (.int .i64 0) := cell_belowP hb1 d3
      have k3 : w1.frozen? ⟨w.heap.size, i * 3 + 2, none⟩ = false := (hb1.frozen (p := ⟨w.heap.size, i * 3 + 2, none⟩) hsz).trans f3
      have HB1 := Lib.hid hb1
      clear hb1 c1 c2 c3 d1 d2 d3 f1 f2 f3
      go_wp2
      go_roundw
      case rel =>
        refine ⟨i + 1, by omega, congrArg (Value.int .i64) (by omega), fun j p hj hjp => ?_, fun j hj1 hj2 => ?_, fun j => ?_, by simp [World.setCell]; omega, (((HB.out.trans (HB1.out.mono (by omega))).setCell (by simp) _).setCell (by simp) _).setCell (by simp) _⟩
        · by_cases e : j = i
          · subst e
            rw [HP.out] at hjp
            cases hjp
            exact three_same _ _ _ e1 e2 e3
          · obtain ⟨m1, m2, m3⟩ := HM.out j p (by omega) hjp
            exact ⟨(three_far _ _ _ (by omega)).trans (cell_belowP HB1.out m1), (three_far _ _ _ (by omega)).trans (cell_belowP HB1.out m2), (three_far _ _ _ (by omega)).trans (cell_belowP HB1.out m3)⟩
        · exact (three_far _ _ _ (by omega)).trans (cell_belowP HB1.out (HR.out j (by omega) hj2))
        · rw [World.frozen?_setCell, World.frozen?_setCell, World.frozen?_setCell]; exact (HB1.out.frozen (p := ⟨w.heap.size, j, none⟩) hsz).trans (HF.out j)
      case measure => simp [intOf]; omega
    · obtain rfl : i = L.length := by omega
      have HM := Lib.hid hm
      have HF := Lib.hid hfr
      clear hm hr hfr hs hmk
      go_wp2
      go_ret
      exact ⟨_, rfl, ⟨_, L.length, rfl, Nat.le_refl _, .inr ⟨w.heap.size, 0, rfl, Nat.le_refl _, ⟨hsz, Nat.le_refl _⟩, fun j p hj => by rw [Nat.zero_add]; exact HM.out j p (List.getElem?_eq_some_iff.1 hj).1 hj, fun j _ => by rw [Nat.zero_add]; exact HF.out j⟩⟩, hB⟩
end Go.Proofs.Ytigcomhhgfgmgaa
namespace Go.Proofs.Ytigcomhhgfgmgaa
open Go.RowKit
/-- What a draw of deeds returns: at most five, in a row of its own. -/
def DeedsDrawn (w : World) (R k : Nat) (e : Ending) (w' : World) : Prop :=
  ∃ (a : Option Addr) (c : Nat) (X : List DeedN), e = .returned (.slice a X.length c) ∧ IsDeeds w.heap.size w'.heap.size w' (.slice a X.length c) X ∧ X.length ≤ 5 ∧ Rd w' R (k + 31) ∧ w.grownBy w' (some R)
theorem own_grows {w w' : World} {base R : Nat} {e : TypeId} {size : Nat} {v : Value} {n : Nat} {xs : List Value} (h : w.ownsRow base e size v n xs) (hg : w.grownBy w' (some R)) (hR : R < base) : w'.ownsRow base e size v n xs :=
  h.kept hg (by
    cases hv : v.ownBlock with
    | none => exact .inl rfl
    | some g => exact .inr (fun e => by injection e with e; have := (h.lt g hv).1; omega))
theorem rd_under {w w' : World} {R k D : Nat} (h : Rd w R k) (hb : Below D w w') (hD : R < D) : Rd w' R k := by
  obtain ⟨a, len, cap, p, h0, h1, hf, hp, hl, hs⟩ := h
  refine ⟨a, len, cap, p, (hb.cell (p := ⟨R, 0, none⟩) (by show R < D; omega)).trans h0, (hb.cell (p := ⟨R, 1, none⟩) (by show R < D; omega)).trans h1, (hb.frozen (p := ⟨R, 1, none⟩) (by show R < D; omega)).trans hf, hp, hl, ?_⟩
  rcases hs with hs | ⟨b, off, ha, hbR, hc⟩
  · exact .inl hs
  · refine .inr ⟨b, off, ha, hbR, fun i hi => ?_⟩
    obtain ⟨x, x0, x1, hx⟩ := hc i hi
    exact ⟨x, x0, x1, (hb.cell (p := ⟨b, off + i, none⟩) (by show b < D; omega)).trans hx⟩
theorem gr_own {w w1 w2 : World} {R : Nat} {row : Option Nat} (h : w.grownBy w1 (some R)) (k : w1.grownBy w2 row) (hr : ∀ g, row = some g → w.heap.size ≤ g) : w.grownBy w2 (some R) :=
  ⟨k.os.trans h.os, k.tape.trans h.tape, k.output.trans h.output, Nat.le_trans h.size k.size, fun j hj hne => (k.block j (Nat.lt_of_lt_of_le hj h.size) (fun e => by have := hr j e.symm; omega)).trans (h.block j hj hne)⟩
set_option maxRecDepth 100000 in
set_option maxHeartbeats 4000000 in
theorem l20Deeds_any (R k : Nat) (w : World) (h : Rd w R k) (hk : k ≤ 900000) :
    Calls Try.prog 53 #[.pointer (some ⟨R, 0, none⟩)] w (DeedsDrawn w R k) := by
  obtain ⟨i0, hi0, hz0, hzs1, hz2⟩ := info_parts3 info_deed
  have hRlt := h.lt
  have HMD := Lib.hid (show (w.alloc (.cells #[] 38)).ownsRow w.heap.size 38 3 (.slice (some ⟨w.heap.size, 0, none⟩) 0 0) 0 [] from World.ownsRow_made w #[] 0 (Nat.le_refl _) (by unfold maxLen; omega) rfl)
  go_enter Try.func53, Try.ntmps53
  go_wp2_with fail
  refine (pick_any R k 6 _ (h.alloc _) (by omega) (by omega)).mono ?_
  rintro e w1 ⟨v, rfl, va, vb, hR1, hh1⟩
  have hO1 := own_grows HMD.out hh1 hRlt
  have hg1 := gr_trans (gr_alloc (gr_refl w R) _) hh1
  obtain ⟨n, rfl⟩ : ∃ n : Nat, v = (n : Int) := ⟨v.toNat, by omega⟩
  have hn5 : n ≤ 5 := by omega
  clear hh1 va vb HMD
  go_wp2_with fail
  go_loopw [3, 4] (fun x3 x4 wr => ∃ (j : Nat) (X : List DeedN) (a3 : Option Addr) (c3 : Nat), x3 = .slice a3 X.length c3 ∧ x4 = .int .i64 j ∧ X.length + j = n ∧ wr.ownsRow w.heap.size 38 3 (.slice a3 X.length c3) X.length (deedCells X) ∧ Rd wr R (k + 1 + 6 * X.length) ∧ w.grownBy wr (some R)) (fun _ x4 _ => (intOf x4).toNat)
  case atStart => exact ⟨n, [], _, _, rfl, rfl, by simp, hO1, hR1, hg1⟩
  case round =>
    obtain ⟨j, X, a3, c3, rfl, rfl, hj, hO, hR, hg⟩ := hrel
    rcases Nat.eq_zero_or_pos j with rfl | hjp
    · have HO := Lib.hid hO
      clear hO hO1
      go_wp2
      go_ret
      exact ⟨a3, c3, X, rfl, IsDeeds.of_owns HO.out, by omega, hR.mono (by omega), hg⟩
    · have hj0 : (0 : Int) < (j : Int) := by omega
      have wj : IntKind.i64.wrap ((j : Int) - 1) = ((j - 1 : Nat) : Int) := by rw [IntKind.wrap_i64]; omega
      have HO := Lib.hid hO
      clear hO hO1
      go_wp2_with fail
      refine (l20Deed_any R (k + 1 + 6 * X.length) _ hR (by omega)).mono ?_
      rintro e w2 ⟨x, y, z, rfl, hR2, hh2⟩
      have hO2 := own_grows HO.out hh2 hRlt
      have hg2 := gr_trans hg hh2
      have hz2' := hh2.size
      have hwz := hg.size
      clear hh2 HO
      go_wp2_with (at_builtin; refine wpList_append_deeds _ rfl _ _ 44 rfl w.heap.size 38 i0 _ 24 Try.underlying44 hi0 hz0 hzs1 hz2 rfl (.slice a3 X.length c3) X.length (deedCells X) rfl (hO2.alloc _) w2.heap.size (w2.heap.size + 1) _ [⟨x, y, z⟩] rfl (IsDeeds.new _ x y z _ _ rfl) (X.length + 1) rfl (deedCells (X ++ [⟨x, y, z⟩])) (deedCells_append _ _) (by unfold maxLen; omega) (by omega) (by simp; omega) ?_)
      intro a7 c7 w7 hown7 hgrow7 hat7
      have hR7 : Rd w7 R (k + 1 + 6 * (X ++ [(⟨x, y, z⟩ : DeedN)]).length) := by
        have hb7 : Below w.heap.size (w2.alloc (.cells #[.int .i64 x, .int .i64 y, .int .i64 z] 38)) w7 := (Below.refl _ _).grown hgrow7 (by simp; omega) (fun g e => (hO2.lt g e).1)
        exact (rd_under (hR2.alloc _) hb7 hRlt).mono (by simp; omega)
      have hg7 : w.grownBy w7 (some R) := gr_own (gr_alloc hg2 _) hgrow7 (fun g e => (hO2.lt g e).1)
      have HO7 := Lib.hid hown7
      clear hown7 hgrow7 hat7 hO2 hR2 hg2
      go_wp2_with fail
      go_roundw
      case rel => exact ⟨j - 1, X ++ [⟨x, y, z⟩], a7, c7, by simp, rfl, by simp; omega, by simpa using HO7.out, hR7, hg7⟩
      case measure => simp [intOf]; omega
end Go.Proofs.Ytigcomhhgfgmgaa
namespace Go.Proofs.Ytigcomhhgfgmgaa
open Go.RowKit
theorem szPairS_fit (a : Option Addr) (n cap left : Nat) (hl : left ≤ 1048576) (h : n ≤ left) (w : World) : Calls Try.prog 54 #[.slice a n cap, .int .i64 left] w fun e w' => e = .returned (.int .i64 ((left - n : Nat) : Int)) ∧ Below w.heap.size w w' := by
  have h1 : (n : Int) ≤ (left : Int) := by omega
  have h2 : IntKind.i64.wrap ((left : Int) - (n : Int)) = ((left - n : Nat) : Int) := by rw [IntKind.wrap_i64]; omega
  have h3 : ¬ (((left - n : Nat) : Int) < 0) := by omega
  go_enter Try.func54, Try.ntmps54
  go_wp2
  go_ret
  exact ⟨rfl, Below.refl _ _⟩
theorem szPairS_big (a : Option Addr) (n cap left : Nat) (hl : left ≤ 1048576) (h : left < n) (hn : n ≤ maxLen) (w : World) : Calls Try.prog 54 #[.slice a n cap, .int .i64 left] w fun e w' => e = .returned (.int .i64 (-1)) ∧ Below w.heap.size w w' := by
  have hm : maxLen = 9223372036854775807 := rfl
  have h2 : IntKind.i64.wrap ((left : Int) - (n : Int)) = (left : Int) - (n : Int) := by rw [IntKind.wrap_i64]; omega
  have h3 : (left : Int) - (n : Int) < 0 := by omega
  go_enter Try.func54, Try.ntmps54
  go_wp2
  go_ret
  exact ⟨rfl, Below.refl _ _⟩
theorem szDeedS_fit (a : Option Addr) (n cap left : Nat) (hl : left ≤ 1048576) (h : n ≤ left) (w : World) : Calls Try.prog 35 #[.slice a n cap, .int .i64 left] w fun e w' => e = .returned (.int .i64 ((left - n : Nat) : Int)) ∧ Below w.heap.size w w' := by
  have h1 : (n : Int) ≤ (left : Int) := by omega
  have h2 : IntKind.i64.wrap ((left : Int) - (n : Int)) = ((left - n : Nat) : Int) := by rw [IntKind.wrap_i64]; omega
  have h3 : ¬ (((left - n : Nat) : Int) < 0) := by omega
  go_enter Try.func35, Try.ntmps35
  go_wp2
  go_ret
  exact ⟨rfl, Below.refl _ _⟩
theorem szDeedS_big (a : Option Addr) (n cap left : Nat) (hl : left ≤ 1048576) (h : left < n) (hn : n ≤ maxLen) (w : World) : Calls Try.prog 35 #[.slice a n cap, .int .i64 left] w fun e w' => e = .returned (.int .i64 (-1)) ∧ Below w.heap.size w w' := by
  have hm : maxLen = 9223372036854775807 := rfl
  have h2 : IntKind.i64.wrap ((left : Int) - (n : Int)) = (left : Int) - (n : Int) := by rw [IntKind.wrap_i64]; omega
  have h3 : (left : Int) - (n : Int) < 0 := by omega
  go_enter Try.func35, Try.ntmps35
  go_wp2
  go_ret
  exact ⟨rfl, Below.refl _ _⟩
theorem szDesk_fit (p q : Int) (a : Option Addr) (n cap left : Nat) (hl : left ≤ 1048576) (h : n ≤ left) (w : World) : Calls Try.prog 28 #[.agg #[.int .i64 p, .int .i64 q, .slice a n cap], .int .i64 left] w fun e w' => e = .returned (.int .i64 ((left - n : Nat) : Int)) ∧ Below w.heap.size w w' := by
  have h3 : ¬ (((left - n : Nat) : Int) < 0) := by omega
  go_enter Try.func28, Try.ntmps28
  go_wp2_with fail
  refine (szPairS_fit a n cap left hl h _).mono ?_
  rintro e w1 ⟨rfl, hb1⟩
  go_wp2
  go_ret
  exact ⟨rfl, by (repeat (first | exact Below.refl _ _ | refine Below.setCell ?_ (by first | omega | (simp <;> omega)) _ | refine Below.alloc ?_ (by first | omega | (simp <;> omega)) _ | refine Below.drew ?_ | refine Below.trans ?_ (Below.mono (by assumption) (by first | omega | (simp <;> omega))) | refine Below.grown ?_ (by assumption) (by first | omega | (simp <;> omega)) (fun k e => by cases e; first | omega | (simp <;> omega))))⟩
theorem szDesk_big (p q : Int) (a : Option Addr) (n cap left : Nat) (hl : left ≤ 1048576) (h : left < n) (hn : n ≤ maxLen) (w : World) : Calls Try.prog 28 #[.agg #[.int .i64 p, .int .i64 q, .slice a n cap], .int .i64 left] w fun e w' => e = .returned (.int .i64 (-1)) ∧ Below w.heap.size w w' := by
  go_enter Try.func28, Try.ntmps28
  go_wp2_with fail
  refine (szPairS_big a n cap left hl h hn _).mono ?_
  rintro e w1 ⟨rfl, hb1⟩
  go_wp2
  go_ret
  exact ⟨rfl, by (repeat (first | exact Below.refl _ _ | refine Below.setCell ?_ (by first | omega | (simp <;> omega)) _ | refine Below.alloc ?_ (by first | omega | (simp <;> omega)) _ | refine Below.drew ?_ | refine Below.trans ?_ (Below.mono (by assumption) (by first | omega | (simp <;> omega))) | refine Below.grown ?_ (by assumption) (by first | omega | (simp <;> omega)) (fun k e => by cases e; first | omega | (simp <;> omega))))⟩
end Go.Proofs.Ytigcomhhgfgmgaa
namespace Go.Proofs.Ytigcomhhgfgmgaa
/-- A deed at whatever is handed in. -/
def doR (d : DeskN) (x : DeedN) : DeskN × Bool := if deskN d = true then doN d x else (⟨(0, 0), []⟩, false)
theorem doR_no {d : DeskN} {x : DeedN} (h : deskN d = false) : doR d x = (⟨(0, 0), []⟩, false) := by unfold doR; rw [if_neg (by rw [h]; decide)]
theorem doR_yes {d : DeskN} {x : DeedN} (h : deskN d = true) : doR d x = doN d x := by unfold doR; rw [if_pos h]
theorem doN_last (p q r s : Int) (M : List (Int × Int)) : doN ⟨(p, q), M ++ [(r, s)]⟩ ⟨4, 0, 0⟩ = (⟨(r, s), M⟩, true) := by simp [doN, backN]
theorem doN_not {p q k x y : Int} {L : List (Int × Int)} (hk : ¬ (k = 4 ∧ x = 0 ∧ y = 0)) (hm : ∀ r s, madeN (p, q) ⟨k, x, y⟩ = some (r, s) → pairB r s = false ∨ (r, s) = (p, q)) : doN ⟨(p, q), L⟩ ⟨k, x, y⟩ = (⟨(p, q), L⟩, false) := by
  unfold doN
  rw [if_neg (fun e => hk (by unfold backN at e; injection e with e1 e2 e3; exact ⟨e1, e2, e3⟩))]
  have ht : takenN (p, q) ⟨k, x, y⟩ = none := by
    cases h : takenN (p, q) ⟨k, x, y⟩ with
    | none => rfl
    | some r =>
      obtain ⟨h1, h2, h3⟩ := takenN_some h
      rcases hm r.1 r.2 h1 with h4 | h4
      · have : pairB r.1 r.2 = true := h2
        rw [h4] at this; cases this
      · exact absurd h4 h3
  show (match takenN (p, q) ⟨k, x, y⟩ with | some r => _ | none => _) = _
  rw [ht]
theorem doN_is {p q k x y r s : Int} {L : List (Int × Int)} (hm : madeN (p, q) ⟨k, x, y⟩ = some (r, s)) (hr : pairB r s = true) (hne : ¬ (r = p ∧ s = q)) : doN ⟨(p, q), L⟩ ⟨k, x, y⟩ = (⟨(r, s), (L ++ [(p, q)]).drop (L.length + 1 - 8)⟩, true) := by
  unfold doN
  rw [if_neg (fun e => by rw [e, backN_made] at hm; cases hm)]
  have ht : takenN (p, q) ⟨k, x, y⟩ = some (r, s) := by
    unfold takenN
    rw [hm, Option.filter_some, if_pos]
    have h1 : pairN (r, s) = true := hr
    have h2 : ((r, s) : Int × Int) ≠ (p, q) := fun e => hne (by injection e with e1 e2; exact ⟨e1, e2⟩)
    simp only [h1, h2, ne_eq, not_false_eq_true, decide_true, Bool.and_self]
  show (match takenN (p, q) ⟨k, x, y⟩ with | some r => _ | none => _) = _
  rw [ht]
/-- The pair of a deed, for other kinds the one that was. -/
def byN (p : Int × Int) (k a b : Int) : Int × Int := if k = 0 then (a, b) else if k = 1 then (-p.1, p.2) else if k = 2 then (p.1 + 1, p.2 + 1) else if k = 3 then (p.1 - 1, p.2 - 1) else p
/-- Another pair laid on a desk. -/
def laidN (p q : Int) (L : List (Int × Int)) (r s : Int) : DeskN × Bool := if (r = p ∧ s = q) ∨ pairB r s = false then (⟨(p, q), L⟩, false) else (⟨(r, s), (L ++ [(p, q)]).drop (L.length + 1 - 8)⟩, true)
theorem madeN_other {p q k a b : Int} (hk : ¬ k = 0) (hab : ¬ (a = 0 ∧ b = 0)) : madeN (p, q) ⟨k, a, b⟩ = none := by
  unfold madeN
  rw [if_neg hk, if_neg hab]
theorem doN_laid {p q k a b : Int} {L : List (Int × Int)} (h : k = 0 ∨ (¬ k = 4 ∧ a = 0 ∧ b = 0)) : doN ⟨(p, q), L⟩ ⟨k, a, b⟩ = laidN p q L (byN (p, q) k a b).1 (byN (p, q) k a b).2 := by
  have hk4 : ¬ (k = 4 ∧ a = 0 ∧ b = 0) := by omega
  unfold laidN
  by_cases hm : madeN (p, q) ⟨k, a, b⟩ = none
  · have hby : byN (p, q) k a b = (p, q) := by
      unfold madeN at hm
      unfold byN
      by_cases h0 : k = 0
      · rw [if_pos h0] at hm; cases hm
      · rw [if_neg h0]
        rw [if_neg h0, if_pos (by rcases h with h | h; exact absurd h h0; exact h.2)] at hm
        by_cases h1 : k = 1
        · rw [if_pos h1] at hm; cases hm
        · rw [if_neg h1] at hm ⊢
          by_cases h2 : k = 2
          · rw [if_pos h2] at hm; cases hm
          · rw [if_neg h2] at hm ⊢
            by_cases h3 : k = 3
            · rw [if_pos h3] at hm; cases hm
            · rw [if_neg h3]
    rw [hby, if_pos (.inl ⟨rfl, rfl⟩)]
    exact doN_not hk4 (fun r s e => by rw [hm] at e; cases e)
  · have hby : madeN (p, q) ⟨k, a, b⟩ = some (byN (p, q) k a b) := by
      unfold madeN at hm ⊢
      unfold byN
      by_cases h0 : k = 0
      · rw [if_pos h0, if_pos h0]
      · rw [if_neg h0] at hm ⊢
        rw [if_neg h0]
        rw [if_pos (by rcases h with h | h; exact absurd h h0; exact h.2)] at hm ⊢
        by_cases h1 : k = 1
        · rw [if_pos h1, if_pos h1]
        · rw [if_neg h1] at hm ⊢
          rw [if_neg h1]
          by_cases h2 : k = 2
          · rw [if_pos h2, if_pos h2]
          · rw [if_neg h2] at hm ⊢
            rw [if_neg h2]
            by_cases h3 : k = 3
            · rw [if_pos h3, if_pos h3]
            · rw [if_neg h3] at hm; exact absurd rfl hm
    obtain ⟨r, s, hrs⟩ : ∃ r s, byN (p, q) k a b = (r, s) := ⟨_, _, rfl⟩
    rw [hrs] at hby ⊢
    dsimp only
    by_cases hc : (r = p ∧ s = q) ∨ pairB r s = false
    · rw [if_pos hc]
      refine doN_not hk4 (fun r' s' e => ?_)
      rw [hby] at e
      cases e
      rcases hc with ⟨h1, h2⟩ | hc
      · right; rw [h1, h2]
      · exact .inl hc
    · rw [if_neg hc]
      refine doN_is hby ?_ (fun e => hc (.inl e))
      cases hp : pairB r s with
      | true => rfl
      | false => exact absurd (.inr hp) hc
end Go.Proofs.Ytigcomhhgfgmgaa
namespace Go.Proofs.Ytigcomhhgfgmgaa
open Go.RowKit
/-- What a draw of a pair returns. -/
def DrawnPair (w : World) (e : Ending) (w' : World) : Prop :=
  ∃ p q : Int, e = .returned (pr p q) ∧ -6 ≤ p ∧ p ≤ 100 ∧ -6 ≤ q ∧ q ≤ 100 ∧ Below w.heap.size w w'
/-- What a draw of a pair and a place returns. -/
def DrawnPlace (w : World) (e : Ending) (w' : World) : Prop :=
  ∃ p q n : Int, e = .returned (.tuple #[pr p q, .int .i64 n]) ∧ -6 ≤ p ∧ p ≤ 100 ∧ -6 ≤ q ∧ q ≤ 100 ∧ -60 ≤ n ∧ n ≤ 60 ∧ Below w.heap.size w w'
def PlaceDrawn (w : World) (R k : Nat) (e : Ending) (w' : World) : Prop :=
  ∃ p q n : Int, e = .returned (.tuple #[pr p q, .int .i64 n]) ∧ -5 ≤ p ∧ p ≤ 100 ∧ -5 ≤ q ∧ q ≤ 100 ∧ -60 ≤ n ∧ n ≤ 60 ∧ Rd w' R (k + 8) ∧ w.grownBy w' (some R)
/-- A code lies on. -/
theorem IsRow.below {w w' : World} {a : Option Addr} {len cap : Nat} {zs : List Int} (h : IsRow w a len cap zs) (hb : Below w.heap.size w w') : IsRow w' a len cap zs := by
  rcases h with h | ⟨x, rfl, hl, hm, hz, hc, hw⟩
  · exact .inl h
  · refine .inr ⟨x, rfl, hl, hm, hz, fun i hi => ?_, hw⟩
    have hci := hc i hi
    obtain ⟨o, ho, _⟩ := cells_of_cell' hci
    exact (hb.cell (Array.getElem?_eq_some_iff.1 ho).1).trans hci
/-- What is known of a pair's draw, as a fact behind a call. -/
theorem DrawnPair.of {w : World} {R k m : Nat} {e : Ending} {w1 w' : World} (h : PairDrawn w1 R k m e w') (hb : Below w.heap.size w w1) (hR : w.heap.size ≤ R) : DrawnPair w e w' := by
  obtain ⟨p, q, rfl, h1, h2, h3, h4, _, hg⟩ := h
  exact ⟨p, q, rfl, by omega, h2, by omega, h4, hb.grown hg hb.size (fun k e => by cases e; exact hR)⟩
end Go.Proofs.Ytigcomhhgfgmgaa
namespace Go.Proofs.Ytigcomhhgfgmgaa
open Go.RowKit
theorem pairB_neg (p q : Int) : pairB (-p) (-q) = pairB p q := by
  have h : ∀ n, numB (-n) = numB n := fun n => by
    simp only [numB]
    exact decide_eq_decide.2 (by omega)
  simp [pairB, h]
theorem implPairOk_neg (p q : Int) (w : World) : Calls Try.prog 20 #[pr (-p) (-q)] w fun e w' => e = .returned (.bool (pairB p q)) ∧ Below w.heap.size w w' := by rw [← pairB_neg]; exact implPairOk_any _ _ _
set_option maxHeartbeats 400000 in
theorem alive_any (w : World) : Calls Try.prog 14 #[] w fun e w' => e = .returned (.bool true) ∧ Below w.heap.size w w' := by
  go_enter Try.func14, Try.ntmps14
  go_wp2_with fail
  refine (implPairOk_yes 1 (-1) _ (by decide)).mono ?_
  rintro e w1 ⟨rfl, hh1⟩
  obtain ⟨hc1, hf1⟩ := bcell hh1
  have hz1 := hh1.size
  try simp only [World.size_alloc] at hz1
  go_wp2_with fail
  refine (implPairOk_no 5 0 _ (by decide)).mono ?_
  rintro e w2 ⟨rfl, hh2⟩
  obtain ⟨hc2, hf2⟩ := bcell hh2
  have hz2 := hh2.size
  try simp only [World.size_alloc] at hz2
  go_wp2
  go_ret
  exact ⟨rfl, by (repeat (first | exact Below.refl _ _ | refine Below.setCell ?_ (by first | omega | (simp <;> omega)) _ | refine Below.alloc ?_ (by first | omega | (simp <;> omega)) _ | refine Below.drew ?_ | refine Below.trans ?_ (Below.mono (by assumption) (by first | omega | (simp <;> omega))) | refine Below.grown ?_ (by assumption) (by first | omega | (simp <;> omega)) (fun k e => by cases e; first | omega | (simp <;> omega))))⟩
theorem nine {p : Int} (h1 : -4 ≤ p) (h2 : p ≤ 4) : p = -4 ∨ p = -3 ∨ p = -2 ∨ p = -1 ∨ p = 0 ∨ p = 1 ∨ p = 2 ∨ p = 3 ∨ p = 4 := by omega
theorem weight_mod (p q : Int) (h : pairB p q = true) : ((wrap64 ((weightV p q).tmod 4 + 4)).tmod 4 == (p * p).tmod 2) = true := by
  obtain ⟨⟨h1, h2⟩, h3, h4⟩ := pairB_true h
  rw [weightV, if_pos h]
  clear h
  rcases nine h1 h2 with rfl | rfl | rfl | rfl | rfl | rfl | rfl | rfl | rfl <;> rcases nine h3 h4 with rfl | rfl | rfl | rfl | rfl | rfl | rfl | rfl | rfl <;> decide +kernel
theorem pairB_turn (p q : Int) (h : pairB p q = true) : pairB (-p) q = true := by
  obtain ⟨⟨h1, h2⟩, h3, h4⟩ := pairB_true h
  exact pairB_mk (by omega) (by omega) h3 h4
theorem implWeight_yes (p q : Int) (w : World) (h : pairB p q = true) : Calls Try.prog 24 #[pr p q] w fun e w' => e = .returned (.tuple #[.int .i64 (weightV p q), .bool true]) ∧ Below w.heap.size w w' := by
  have := implWeight_any p q w; rw [h] at this; exact this
theorem implWeight_no (p q : Int) (w : World) (h : pairB p q = false) : Calls Try.prog 24 #[pr p q] w fun e w' => e = .returned (.tuple #[.int .i64 0, .bool false]) ∧ Below w.heap.size w w' := by
  have := implWeight_any p q w; rw [weightV, if_neg (by simp [h]), h] at this; exact this
theorem implTurned_yes (p q : Int) (w : World) (h : pairB p q = true) : Calls Try.prog 64 #[pr p q] w fun e w' => e = .returned (pr (-p) q) ∧ Below w.heap.size w w' := by
  have := implTurned_any p q w; rw [turnP, if_pos h, turnQ, if_pos h] at this; exact this
theorem implWeight_turn (p q : Int) (w : World) (h : pairB p q = true) : Calls Try.prog 24 #[pr (-p) q] w fun e w' => e = .returned (.tuple #[.int .i64 (weightV p q), .bool true]) ∧ Below w.heap.size w w' := by
  have h' := pairB_turn p q h
  have := implWeight_any (-p) q w
  rw [h', weightV, if_pos h', Int.neg_mul_neg] at this
  rw [weightV, if_pos h]
  exact this
end Go.Proofs.Ytigcomhhgfgmgaa
namespace Go.Proofs.Ytigcomhhgfgmgaa
open Go.RowKit
set_option maxHeartbeats 2000000 in
theorem implDeskOk_any (B C : Nat) (p0 q0 : Int) (L : List (Int × Int)) (v : Value) (w : World) (h : IsPairs B C w v L) (hn : L.length ≤ 1048600) :
    Calls Try.prog 12 #[.agg #[.int .i64 p0, .int .i64 q0, v]] w fun e w' => e = .returned (.bool (deskN ⟨(p0, q0), L⟩)) ∧ Below w.heap.size w w' := by
  obtain ⟨a, cap, rfl, hC, hs⟩ := h
  have hmk : ∀ b : Bool, deskN ⟨(p0, q0), L⟩ = b → Ending.returned (.bool b) = .returned (.bool (deskN ⟨(p0, q0), L⟩)) := fun b e => by rw [e]
  replace hmk := Lib.hid hmk
  cases hb : pairB p0 q0 with
  | false =>
    clear hs
    go_enter Try.func12, Try.ntmps12
    go_wp2_with (go_at_call 20; refine (implPairOk_no p0 q0 _ hb).mono ?_; rintro e w1 ⟨rfl, hb1⟩; obtain ⟨hc1, hf1⟩ := bcell hb1; have hz1 := hb1.size)
    go_ret
    refine ⟨hmk.out _ ?_, ((Below.refl _ _).alloc (Nat.le_refl _) _).trans (hb1.mono (by simp))⟩
    simp [deskN, pairN, hb]
  | true =>
    by_cases h8 : 8 < L.length
    · have h8i : (8 : Int) < (L.length : Int) := by omega
      have h8b : decide ((8 : Int) < (L.length : Int)) = true := by simp; omega
      clear hs
      go_enter Try.func12, Try.ntmps12
      go_wp2_with (go_at_call 20; refine (implPairOk_yes p0 q0 _ hb).mono ?_; rintro e w1 ⟨rfl, hb1⟩; obtain ⟨hc1, hf1⟩ := bcell hb1; have hz1 := hb1.size; simp at hz1; have hz1a : w.heap.size < w1.heap.size := (by omega))
      go_ret
      refine ⟨hmk.out _ ?_, ((Below.refl _ _).alloc (Nat.le_refl _) _).trans (hb1.mono (by simp))⟩
      simp [deskN]
      omega
    · have h8i : (L.length : Int) ≤ 8 := by omega
      have h8b : decide ((8 : Int) < (L.length : Int)) = false := by simp; omega
      go_enter Try.func12, Try.ntmps12
      go_wp2_with (go_at_call 20; refine (implPairOk_yes p0 q0 _ hb).mono ?_; rintro e w1 ⟨rfl, hb1⟩; obtain ⟨hc1, hf1⟩ := bcell hb1; have hz1 := hb1.size; simp at hz1; have hz1a : w.heap.size < w1.heap.size := (by omega))
      have HB1 := Lib.hid (((Below.refl w.heap.size w).alloc (Nat.le_refl _) (.cells #[.int .i64 p0, .int .i64 q0, .slice a L.length cap] 27)).trans (hb1.mono (by simp)))
      go_loopw [18] (fun k wr => ∃ i : Nat, i ≤ L.length ∧ k = .int .i64 i ∧ (∀ (j : Nat) (p : Int × Int), j < i → L[j]? = some p → pairN p = true) ∧ Below w.heap.size w wr) (fun k _ => L.length - (intOf k).toNat)
      case atStart => exact ⟨0, Nat.zero_le _, rfl, fun j p hj => absurd hj (by omega), HB1.out⟩
      case round =>
        obtain ⟨i, hi, rfl, hall, hB⟩ := hrel
        by_cases hlt : i < L.length
        · rcases hs with rfl | ⟨g, off, rfl, h1, h2, hc, hf⟩
          · simp at hlt
          obtain ⟨⟨x, y⟩, hp⟩ : ∃ p, L[i]? = some p := ⟨L[i], by simp [hlt]⟩
          have c1 : wr.cell? ⟨g, off + i * 2, none⟩ = some (.int .i64 x) := (hB.cell (p := ⟨g, off + i * 2, none⟩) (by show g < _; omega)).trans (hc i _ hp).1
          have c2 : wr.cell? ⟨g, off + i * 2 + 1, none⟩ = some (.int .i64 y) := (hB.cell (p := ⟨g, off + i * 2 + 1, none⟩) (by show g < _; omega)).trans (hc i _ hp).2
          have hii : (i : Int) < (L.length : Int) := by omega
          have i0 : (0 : Int) ≤ (i : Int) := by omega
          have hwz := hB.size
          have HA := Lib.hid hall
          have HP := Lib.hid hp
          clear hc hf hall hp hc1 hf1 hb1
          cases hbb : pairB x y with
          | true =>
            go_wp2_with (go_at_call 20; refine (implPairOk_yes x y _ hbb).mono ?_; rintro e w2 ⟨rfl, hb2⟩; obtain ⟨hc2, hf2⟩ := bcell hb2; have hz2 := hb2.size)
            go_roundw
            case rel =>
              refine ⟨i + 1, by omega, congrArg (Value.int .i64) (by omega), fun j p hj hp' => ?_, (hB.alloc (by omega) _).trans (hb2.mono (by simp; omega))⟩
              rcases Nat.lt_or_ge j i with hj' | hj'
              · exact HA.out j p hj' hp'
              · have hji : j = i := by omega
                rw [hji, HP.out] at hp'
                cases hp'
                exact hbb
            case measure => simp [intOf]; omega
          | false =>
            go_wp2_with (go_at_call 20; refine (implPairOk_no x y _ hbb).mono ?_; rintro e w2 ⟨rfl, hb2⟩; obtain ⟨hc2, hf2⟩ := bcell hb2; have hz2 := hb2.size)
            go_ret
            refine ⟨hmk.out _ ?_, (hB.alloc (by omega) _).trans (hb2.mono (by simp; omega))⟩
            cases hd : deskN ⟨(p0, q0), L⟩ with
            | false => rfl
            | true =>
              have := (deskN_of hd).2.2 _ (List.mem_of_getElem? HP.out)
              exact absurd (this.symm.trans hbb) (by decide)
        · obtain rfl : i = L.length := by omega
          have HA := Lib.hid (show deskN ⟨(p0, q0), L⟩ = true from deskN_mk hb (by show L.length ≤ 8; omega) (fun p hp => by
            obtain ⟨j, hj, rfl⟩ := List.mem_iff_getElem.1 hp
            exact hall j _ hj (by simp [hj])))
          clear hall hs hc1 hf1 hb1
          go_wp2
          go_ret
          exact ⟨hmk.out _ HA.out, hB⟩
theorem implDeskNew_any (p q : Int) (w : World) : Calls Try.prog 16 #[pr p q] w fun e w' =>
    e = .returned (if pairB p q = true then .tuple #[.agg #[.int .i64 p, .int .i64 q, .slice none 0 0], .bool true] else .tuple #[.agg #[.int .i64 0, .int .i64 0, .slice none 0 0], .bool false]) ∧ Below w.heap.size w w' := by
  cases hb : pairB p q with
  | true =>
    go_enter Try.func16, Try.ntmps16
    go_wp2_with (go_at_call 20; refine (implPairOk_yes p q _ hb).mono ?_; rintro e w1 ⟨rfl, hb1⟩; obtain ⟨hc1, hf1⟩ := bcell hb1; have hz1 := hb1.size; simp only [World.size_alloc] at hz1)
    refine bodyPost_ret (v := .tuple #[.agg #[.int .i64 p, .int .i64 q, .slice none 0 0], .bool true]) (by simp [results, Try.results16, go_sem]; go_simp) rfl ⟨by simp, ?_⟩
    (repeat (first | exact Below.refl _ _ | refine Below.setCell ?_ (by first | omega | (simp <;> omega)) _ | refine Below.alloc ?_ (by first | omega | (simp <;> omega)) _ | refine Below.trans ?_ (Below.mono (by assumption) (by first | omega | (simp <;> omega)))))
  | false =>
    go_enter Try.func16, Try.ntmps16
    go_wp2_with (go_at_call 20; refine (implPairOk_no p q _ hb).mono ?_; rintro e w1 ⟨rfl, hb1⟩; obtain ⟨hc1, hf1⟩ := bcell hb1; have hz1 := hb1.size; simp only [World.size_alloc] at hz1)
    refine bodyPost_ret (v := .tuple #[.agg #[.int .i64 0, .int .i64 0, .slice none 0 0], .bool false]) (by simp [results, Try.results16, go_sem]; go_simp) rfl ⟨by simp, ?_⟩
    (repeat (first | exact Below.refl _ _ | refine Below.setCell ?_ (by first | omega | (simp <;> omega)) _ | refine Below.alloc ?_ (by first | omega | (simp <;> omega)) _ | refine Below.trans ?_ (Below.mono (by assumption) (by first | omega | (simp <;> omega)))))
theorem namesNone_yes (k : Int) (w : World) : Calls Try.prog 45 #[.agg #[.int .i64 k, .int .i64 0, .int .i64 0]] w fun e w' => e = .returned (.bool true) ∧ Below w.heap.size w w' := by
  go_enter Try.func45, Try.ntmps45
  go_wp2
  go_ret
  exact ⟨rfl, (Below.refl _ _).alloc (Nat.le_refl _) _⟩
theorem namesNone_no (k a b : Int) (w : World) (h : ¬ (a = 0 ∧ b = 0)) : Calls Try.prog 45 #[.agg #[.int .i64 k, .int .i64 a, .int .i64 b]] w fun e w' => e = .returned (.bool false) ∧ Below w.heap.size w w' := by
  by_cases ha : a = 0
  · subst ha
    have hb : ¬ b = 0 := fun e => h ⟨rfl, e⟩
    clear h
    go_enter Try.func45, Try.ntmps45
    go_wp2
    go_ret
    exact ⟨ret_bool (by simp_all), (Below.refl _ _).alloc (Nat.le_refl _) _⟩
  · clear h
    go_enter Try.func45, Try.ntmps45
    go_wp2
    go_ret
    exact ⟨ret_bool (by simp_all), (Below.refl _ _).alloc (Nat.le_refl _) _⟩
end Go.Proofs.Ytigcomhhgfgmgaa
namespace Go.Proofs.Ytigcomhhgfgmgaa
open Go.RowKit
theorem own_grown {w : World} {base n : Nat} {e : TypeId} (hb : base ≤ w.heap.size) (hn : n ≤ maxLen) : (w.drew.alloc (.cells (Builtin.zeroCells #[.int .i64 0, .int .i64 0] n ++ Builtin.zeroCells #[.int .i64 0, .int .i64 0] (grownCap w n 0 e - n)) e)).ownsRow base e 2 (.slice (some ⟨w.heap.size, 0, none⟩) 0 (grownCap w n 0 e)) 0 [] := by
  have h1 := grownCap_ge w n 0 e
  have h2 := grownCap_le_maxLen w n 0 e hn
  refine ⟨rfl, .inr ⟨w.heap.size, _, _, rfl, hb, heap_alloc_new w.drew _, Nat.zero_le _, h2, ?_, rfl⟩⟩
  simp only [Array.size_append, size_zeroCells]
  show n * 2 + (grownCap w n 0 e - n) * 2 = _
  omega
set_option maxHeartbeats 1000000 in
theorem growNil_any (n : Nat) (w : World) (h1 : 1 ≤ n) (h2 : n ≤ 2000000) :
    Calls Try.prog 66 #[.slice none 0 0, .int .i64 n] w fun e w' => ∃ g c, e = .returned (.slice (some ⟨g, 0, none⟩) 0 c) ∧ w'.ownsRow w.heap.size 24 2 (.slice (some ⟨g, 0, none⟩) 0 c) 0 [] ∧ Below w.heap.size w w' := by
  obtain ⟨i0, hi0, hz0, hzs1, hz2⟩ := info_parts info_pair
  have hr := Lib.run_append_nil_zeros (P := Try.prog) w 25 3 25 24 i0 _ .i64 .i64 Try.underlying25 Try.underlying3 hi0 hz0 n h1 (by omega) (by omega) (by rw [hz2]; omega)
  have HR := Lib.hid hr
  have HO := Lib.hid (own_grown (w := w) (base := w.heap.size) (n := n) (e := 24) (Nat.le_refl _) (by unfold maxLen; omega))
  have W1 : IntKind.i64.wrap (n : Int) = (n : Int) := by rw [IntKind.wrap_i64]; omega
  have hni : (0 : Int) < (n : Int) := by omega
  clear hr
  go_enter Try.func66, Try.ntmps66
  go_wp2_with (at_builtin; refine Lib.wpList_append_run _ rfl _ _ _ _ rfl _ _ rfl rfl _ _ HR.out ?_)
  go_ret
  exact ⟨w.heap.size, grownCap w n 0 24, rfl, HO.out, ((Below.refl _ _).alloc (Nat.le_refl _) _).drew⟩
/-- Both, one behind the other. -/
def CatOf (X : List (Int × Int)) (w : World) (e : Ending) (w' : World) : Prop :=
  ∃ a c, e = .returned (.slice a X.length c) ∧ w'.ownsRow w.heap.size 24 2 (.slice a X.length c) X.length (pairCells X) ∧ Below w.heap.size w w'
set_option maxRecDepth 100000 in
set_option maxHeartbeats 2000000 in
theorem concat_any (V B C B' C' : Nat) (v u : Value) (L M : List (Int × Int)) (w : World) (h : IsPairs B C w v L) (k : IsPairs B' C' w u M) (hn : L.length ≤ 100000) (hm : M.length ≤ 100000) (h1 : 1 ≤ L.length + M.length) (v0 : w.cell? ⟨V, 0, none⟩ = some v) (v1 : w.cell? ⟨V, 1, none⟩ = some u) :
    Calls Try.prog 63 #[.slice (some ⟨V, 0, none⟩) 2 2] w (CatOf (L ++ M) w) := by
  obtain ⟨i0, hi0, hz0, hzs1, hz2⟩ := info_parts info_pair
  obtain ⟨a, ca, rfl, hC, _⟩ := id h
  obtain ⟨b, cb, rfl, hC', _⟩ := id k
  have H := Lib.hid h
  have K := Lib.hid k
  have W1 : IntKind.i64.wrap ((L.length : Int) + (M.length : Int)) = (L.length : Int) + (M.length : Int) := by rw [IntKind.wrap_i64]; omega
  have W2 : IntKind.i64.wrap (L.length : Int) = (L.length : Int) := by rw [IntKind.wrap_i64]; omega
  have n1 : ¬ ((L.length : Int) + (M.length : Int) < 0) := by omega
  have n2 : ¬ ((L.length : Int) < 0) := by omega
  have hV : V < w.heap.size := World.block_lt_of_cell? w _ v0
  have HG := Lib.hid (fun w => (by have := growNil_any (L.length + M.length) w h1 (by omega); rwa [Int.natCast_add] at this : Calls Try.prog 66 #[.slice none 0 0, .int .i64 ((L.length : Int) + (M.length : Int))] w fun e w' => ∃ g c, e = .returned (.slice (some ⟨g, 0, none⟩) 0 c) ∧ w'.ownsRow w.heap.size 24 2 (.slice (some ⟨g, 0, none⟩) 0 c) 0 [] ∧ Below w.heap.size w w'))
  have HC := Lib.hid (show pairCells L ++ pairCells M = pairCells (L ++ M) from pairCells_append L M)
  have HLn := Lib.hid (show (L ++ M).length = L.length + M.length by simp)
  clear h k h1
  go_enter Try.func63, Try.ntmps63
  go_wp2_with fail
  go_loop [3, 5, 11] (fun x3 x5 x11 => ∃ i : Nat, i ≤ 2 ∧ x11 = .int .i64 i ∧ x3 = .int .i64 (if i = 0 then 0 else if i = 1 then (L.length : Int) else (L.length : Int) + (M.length : Int))) (fun _ _ x11 => 2 - (intOf x11).toNat)
  case atStart => exact ⟨0, by omega, rfl, rfl⟩
  case round =>
    obtain ⟨i, hi, rfl, rfl⟩ := hrel
    rcases (show i = 0 ∨ i = 1 ∨ i = 2 by omega) with rfl | rfl | rfl
    · go_wp2_with fail
      go_round
      case rel => exact ⟨1, by omega, rfl, rfl⟩
      case measure => simp [intOf]
    · go_wp2_with fail
      go_round
      case rel => exact ⟨2, by omega, rfl, rfl⟩
      case measure => simp [intOf]
    · go_wp2_with fail
      refine (HG.out _).mono ?_
      rintro e w1 ⟨g1, c1, rfl, hown1, hb1⟩
      have v0' := cell_belowP hb1 v0
      have v1' := cell_belowP hb1 v1
      have HO1 := Lib.hid hown1
      have HB1 := Lib.hid hb1
      clear hown1 hb1 v0 v1
      go_wp2_with fail
      go_loopw [6, 8, 27] (fun x6 x8 x27 wr => ∃ (i N : Nat) (X : List (Int × Int)) (a6 : Option Addr) (c6 : Nat), i ≤ 2 ∧ x27 = .int .i64 i ∧ x6 = .slice a6 N c6 ∧ Hid (wr.ownsRow w.heap.size 24 2 (.slice a6 N c6) N (pairCells X) ∧ (i = 0 → N = 0 ∧ X = []) ∧ (i = 1 → N = L.length ∧ L = X) ∧ (i = 2 → N = L.length + M.length ∧ X = L ++ M)) ∧ Below w.heap.size w wr ∧ wr.cell? ⟨V, 0, none⟩ = some (.slice a L.length ca) ∧ wr.cell? ⟨V, 1, none⟩ = some (.slice b M.length cb)) (fun _ _ x27 _ => 2 - (intOf x27).toNat)
      case atStart => exact ⟨0, 0, [], some ⟨g1, 0, none⟩, c1, by omega, rfl, rfl, Lib.hid ⟨HO1.out, fun _ => ⟨rfl, rfl⟩, fun e => by omega, fun e => by omega⟩, HB1.out, v0', v1'⟩
      case round =>
        obtain ⟨i, N, X, a6, c6, hi, rfl, rfl, HX, hB, u0, u1⟩ := hrel
        rcases (show i = 0 ∨ i = 1 ∨ i = 2 by omega) with rfl | rfl | rfl
        · obtain ⟨hown, hx, _, _⟩ := id HX.out
          obtain ⟨rfl, rfl⟩ := hx rfl
          have HB := Lib.hid hB
          have hbz := hB.size
          clear hB HX hx
          go_wp2_with (at_builtin; refine wpList_append_pairs _ rfl _ _ 25 rfl w.heap.size 24 i0 _ 16 Try.underlying25 hi0 hz0 hzs1 hz2 rfl (.slice a6 0 c6) 0 [] rfl hown B C _ L rfl (H.out.below HB.out hC) (L.length) (by omega) (pairCells L) rfl (by unfold maxLen; omega) (by omega) hbz ?_)
          intro a7 c7 w7 hown7 hgrow7 hat7
          have u0' := (hgrow7.cell_far ⟨V, 0, none⟩ (World.block_lt_of_cell? wr _ u0) (fun e => by have := (hown.lt _ e.symm).1; simp at this; omega)).trans u0
          have u1' := (hgrow7.cell_far ⟨V, 1, none⟩ (World.block_lt_of_cell? wr _ u1) (fun e => by have := (hown.lt _ e.symm).1; simp at this; omega)).trans u1
          have HB7 := Lib.hid (HB.out.grown hgrow7 hbz (fun k e => (hown.lt k e).1))
          have HO7 := Lib.hid hown7
          clear hown7 hgrow7 hat7 hown u0 u1
          go_wp2_with fail
          go_roundw
          case rel => exact ⟨1, _, L, a7, c7, by omega, rfl, rfl, Lib.hid ⟨HO7.out, fun e => by omega, fun _ => ⟨rfl, rfl⟩, fun e => by omega⟩, HB7.out, u0', u1'⟩
          case measure => simp [intOf]
        · obtain ⟨hown, _, hx, _⟩ := id HX.out
          obtain ⟨rfl, rfl⟩ := hx rfl
          have HB := Lib.hid hB
          have hbz := hB.size
          clear hB HX hx
          go_wp2_with (at_builtin; refine wpList_append_pairs _ rfl _ _ 25 rfl w.heap.size 24 i0 _ 16 Try.underlying25 hi0 hz0 hzs1 hz2 rfl (.slice a6 L.length c6) L.length (pairCells L) rfl hown B' C' _ M rfl (K.out.below HB.out hC') (L.length + M.length) (by omega) (pairCells (L ++ M)) HC.out (by unfold maxLen; omega) (by omega) hbz ?_)
          intro a7 c7 w7 hown7 hgrow7 hat7
          have u0' := (hgrow7.cell_far ⟨V, 0, none⟩ (World.block_lt_of_cell? wr _ u0) (fun e => by have := (hown.lt _ e.symm).1; simp at this; omega)).trans u0
          have u1' := (hgrow7.cell_far ⟨V, 1, none⟩ (World.block_lt_of_cell? wr _ u1) (fun e => by have := (hown.lt _ e.symm).1; simp at this; omega)).trans u1
          have HB7 := Lib.hid (HB.out.grown hgrow7 hbz (fun k e => (hown.lt k e).1))
          have HO7 := Lib.hid hown7
          clear hown7 hgrow7 hat7 hown u0 u1
          go_wp2_with fail
          go_roundw
          case rel => exact ⟨2, _, L ++ M, a7, c7, by omega, rfl, rfl, Lib.hid ⟨HO7.out, fun e => by omega, fun e => by omega, fun _ => ⟨rfl, rfl⟩⟩, HB7.out, u0', u1'⟩
          case measure => simp [intOf]
        · obtain ⟨hown, _, _, hx⟩ := id HX.out
          obtain ⟨rfl, rfl⟩ := hx rfl
          have HB := Lib.hid hB
          have HO := Lib.hid hown
          clear hB HX hx hown
          go_wp2_with fail
          go_ret
          unfold CatOf
          rw [HLn.out]
          exact ⟨a6, c6, rfl, HO.out, HB.out⟩
end Go.Proofs.Ytigcomhhgfgmgaa
namespace Go.Proofs.Ytigcomhhgfgmgaa
open Go.RowKit
set_option maxHeartbeats 2000000 in
theorem eqDesk_same (B C B' C' : Nat) (p q : Int) (v u : Value) (L : List (Int × Int)) (w : World) (h : IsPairs B C w v L) (k : IsPairs B' C' w u L) (hn : L.length ≤ 1048600) :
    Calls Try.prog 30 #[.agg #[.int .i64 p, .int .i64 q, v], .agg #[.int .i64 p, .int .i64 q, u]] w fun e w' => e = .returned (.bool true) ∧ Below w.heap.size w w' := by
  obtain ⟨a, ca, rfl, hC, _⟩ := id h
  obtain ⟨b, cb, rfl, hC', _⟩ := id k
  have H := Lib.hid h
  have K := Lib.hid k
  clear h k
  go_enter Try.func30, Try.ntmps30
  go_wp2_with fail
  refine (eqPair_any p q _).mono ?_
  rintro e w1 ⟨rfl, hb1⟩
  obtain ⟨hc1, hf1⟩ := bcell hb1
  have hz1 := hb1.size
  simp at hz1
  have hz2 : w.heap.size < w1.heap.size := by omega
  have hz3 : w.heap.size + 1 < w1.heap.size := by omega
  have HB1 := Lib.hid (show Below w.heap.size w w1 by (repeat (first | exact Below.refl _ _ | refine Below.alloc ?_ (by first | omega | (simp <;> omega)) _ | refine Below.trans ?_ (Below.mono (by assumption) (by first | omega | (simp <;> omega))))))
  clear hb1
  go_wp2_with fail
  refine (eqPairS_same _ _ _ _ _ _ L _ (H.out.below HB1.out hC) (K.out.below HB1.out hC') hn).mono ?_
  rintro e w2 ⟨rfl, hb2⟩
  have HB2 := Lib.hid (HB1.out.trans (hb2.mono HB1.out.size))
  clear hb2
  go_wp2
  go_ret
  exact ⟨rfl, HB2.out⟩
set_option maxHeartbeats 2000000 in
theorem markDesk_any (B C : Nat) (p q : Int) (v : Value) (L : List (Int × Int)) (k0 : Int) (w : World) (h : IsPairs B C w v L) (hn : L.length ≤ 1048600) (hk : 0 ≤ k0) (hk1 : k0 ≤ 100000000) :
    Calls Try.prog 32 #[.agg #[.int .i64 p, .int .i64 q, v], .int .i64 k0] w fun e w' => e = .returned (.int .i64 (k0 + 2 * (L.length : Int))) ∧ IsPairs B C w' v (markL k0 L.length) ∧ MarkedS B C w w' := by
  obtain ⟨a, ca, rfl, hC, _⟩ := id h
  have H := Lib.hid h
  clear h
  go_enter Try.func32, Try.ntmps32
  go_wp2_with fail
  refine (markPairS_any B C _ L k0 _ (H.out.below ((Below.refl _ _).alloc (Nat.le_refl _) _) hC) hn hk hk1).mono ?_
  rintro e w1 ⟨rfl, hI, hM⟩
  have HI := Lib.hid hI
  have HM := Lib.hid hM
  clear hI hM
  go_wp2
  go_ret
  obtain ⟨row, hg, hr⟩ := HM.out
  exact ⟨rfl, HI.out, row, ⟨hg.os, hg.tape, hg.output, Nat.le_trans (by simp) hg.size, fun j hj hne => (hg.block j (by simp; omega) hne).trans (Below.heap_alloc _ _ _ hj)⟩, hr⟩
set_option maxHeartbeats 2000000 in
theorem heldDesk_any (B C n : Nat) (p q : Int) (v : Value) (k0 : Int) (w : World) (h : IsPairs B C w v (markL k0 n)) (hn : n ≤ 1048600) (hk : 0 ≤ k0) (hk1 : k0 ≤ 100000000) :
    Calls Try.prog 33 #[.agg #[.int .i64 p, .int .i64 q, v], .int .i64 k0] w fun e w' => e = .returned (.int .i64 (k0 + 2 * (n : Int))) ∧ Below w.heap.size w w' := by
  obtain ⟨a, ca, rfl, hC, _⟩ := id h
  have hB0 : ∀ o, Below w.heap.size w (w.alloc o) := fun o => (Below.refl _ _).alloc (Nat.le_refl _) o
  have HB0 := Lib.hid hB0
  have H := Lib.hid h
  clear h hB0
  rw [markL_len] at H ⊢
  go_enter Try.func33, Try.ntmps33
  go_wp2_with fail
  refine (heldPairS_any B C n _ k0 _ (H.out.below (HB0.out _) hC) hn hk hk1).mono ?_
  rintro e w1 ⟨rfl, rfl⟩
  go_wp2
  go_ret
  exact ⟨rfl, HB0.out _⟩
/-- What the laws make of two desks. -/
def deskEq (d e : DeskN) : Bool := decide (d = e)
theorem deskEq_no {p q p' q' : Int} {L M : List (Int × Int)} (h : ¬ (p = p' ∧ q = q' ∧ L = M)) : deskEq ⟨(p, q), L⟩ ⟨(p', q'), M⟩ = false := by
  unfold deskEq
  rw [decide_eq_false_iff_not]
  intro e
  injection e with e1 e2
  injection e1 with e1 e3
  exact h ⟨e1, e3, e2⟩
theorem deskEq_yes {p q : Int} {L M : List (Int × Int)} (h : L = M) : deskEq ⟨(p, q), L⟩ ⟨(p, q), M⟩ = true := by
  subst h; exact decide_eq_true rfl
set_option maxHeartbeats 4000000 in
theorem sameDesk_any (B C B' C' : Nat) (p q p' q' : Int) (v u : Value) (L M : List (Int × Int)) (w : World) (h : IsPairs B C w v L) (k : IsPairs B' C' w u M) (hn : L.length ≤ 1048600) (hm : M.length ≤ 1048600) :
    Calls Try.prog 18 #[.agg #[.int .i64 p, .int .i64 q, v], .agg #[.int .i64 p', .int .i64 q', u]] w fun e w' => e = .returned (.bool (deskEq ⟨(p, q), L⟩ ⟨(p', q'), M⟩)) ∧ Below w.heap.size w w' := by
  obtain ⟨a, ca, rfl, hC, hs⟩ := h
  obtain ⟨b, cb, rfl, hC', ks⟩ := k
  by_cases hp : p = p'
  · subst hp
    by_cases hq : q = q'
    · subst hq
      by_cases hl : L.length = M.length
      · have HNO := Lib.hid (fun h : L ≠ M => deskEq_no (p := p) (q := q) (p' := p) (q' := q) (L := L) (M := M) (fun e => h e.2.2))
        have HYES := Lib.hid (fun h : L = M => deskEq_yes (p := p) (q := q) h)
        have HL := Lib.hid hl
        rw [← hl] at hm ⊢
        clear hl
        go_enter Try.func18, Try.ntmps18
        go_wp2_with fail
        go_loopw [5] (fun k wr => ∃ i : Nat, i ≤ L.length ∧ k = .int .i64 i ∧ (∀ j, j < i → L[j]? = M[j]?) ∧ wr.cell? ⟨w.heap.size, 2, none⟩ = some (.slice a L.length ca) ∧ wr.cell? ⟨w.heap.size + 1, 2, none⟩ = some (.slice b L.length cb) ∧ Below w.heap.size w wr) (fun k _ => L.length - (intOf k).toNat)
        case atStart => exact ⟨0, Nat.zero_le _, rfl, fun j hj => absurd hj (by omega), by go_simp, by go_simp, ((Below.refl _ _).alloc (Nat.le_refl _) _).alloc (by simp) _⟩
        case round =>
          obtain ⟨i, hi, rfl, hall, k0, k1, hB⟩ := hrel
          by_cases hlt : i < L.length
          · rcases hs with rfl | ⟨g, off, rfl, h1, h2, hc, hf⟩
            · simp at hlt
            rcases ks with rfl | ⟨g', off', rfl, h1', h2', hc', hf'⟩
            · have := HL.out; simp at this; rw [this] at hlt; simp at hlt
            obtain ⟨x, y, hx⟩ := list_at hlt
            obtain ⟨x', y', hx'⟩ := list_at (L := M) (i := i) (by rw [← HL.out]; exact hlt)
            have c1 : wr.cell? ⟨g, off + i * 2, none⟩ = some (.int .i64 x) := (hB.cell (p := ⟨g, off + i * 2, none⟩) (by show g < _; omega)).trans (hc i _ hx).1
            have c2 : wr.cell? ⟨g, off + i * 2 + 1, none⟩ = some (.int .i64 y) := (hB.cell (p := ⟨g, off + i * 2 + 1, none⟩) (by show g < _; omega)).trans (hc i _ hx).2
            have c3 : wr.cell? ⟨g', off' + i * 2, none⟩ = some (.int .i64 x') := (hB.cell (p := ⟨g', off' + i * 2, none⟩) (by show g' < _; omega)).trans (hc' i _ hx').1
            have c4 : wr.cell? ⟨g', off' + i * 2 + 1, none⟩ = some (.int .i64 y') := (hB.cell (p := ⟨g', off' + i * 2 + 1, none⟩) (by show g' < _; omega)).trans (hc' i _ hx').2
            have hii : (i : Int) < (L.length : Int) := by omega
            have i0 : (0 : Int) ≤ (i : Int) := by omega
            have HA := Lib.hid hall
            have HX := Lib.hid hx
            have HX' := Lib.hid hx'
            clear hc hc' hf hf' hall hx hx'
            by_cases hxy : x = x' ∧ y = y'
            · obtain ⟨rfl, rfl⟩ := hxy
              go_wp2
              go_quiet (fail)
              go_wp2
              go_roundw
              case rel =>
                refine ⟨i + 1, by omega, congrArg (Value.int .i64) (by omega), fun j hj => ?_, k0, k1, below_drewN hB _⟩
                by_cases e : j = i
                · subst e; rw [HX.out, HX'.out]
                · exact HA.out j (by omega)
              case measure => simp [intOf]; omega
            · have HE := Lib.hid (HNO.out (fun e => hxy (by
                subst e
                have := HX.out.symm.trans HX'.out
                simpa using this)))
              by_cases hx1 : x = x'
              · subst hx1
                have hy1 : ¬ y = y' := fun e => hxy ⟨rfl, e⟩
                clear hxy
                go_wp2
                go_quiet (fail)
                go_wp2
                go_ret
                exact ⟨ret_bool HE.out.symm, below_drewN hB _⟩
              · clear hxy
                go_wp2
                go_quiet (fail)
                go_wp2
                go_ret
                exact ⟨ret_bool HE.out.symm, below_drewN hB _⟩
          · obtain rfl : i = L.length := by omega
            have HE := Lib.hid (HYES.out (by
              apply List.ext_getElem?
              intro j
              rcases Nat.lt_or_ge j L.length with hj | hj
              · exact hall j hj
              · rw [List.getElem?_eq_none hj, List.getElem?_eq_none (by rw [← HL.out]; exact hj)]))
            clear hall hs ks
            go_wp2
            go_ret
            exact ⟨ret_bool HE.out.symm, hB⟩
      · have HE := Lib.hid (deskEq_no (p := p) (q := q) (p' := p) (q' := q) (L := L) (M := M) (fun e => hl (by rw [e.2.2])))
        have hl' : ¬ ((L.length : Int) = (M.length : Int)) := by omega
        clear hs ks
        go_enter Try.func18, Try.ntmps18
        go_wp2
        go_ret
        exact ⟨ret_bool HE.out.symm, ((Below.refl _ _).alloc (Nat.le_refl _) _).alloc (by simp) _⟩
    · have HE := Lib.hid (deskEq_no (p := p) (q := q) (p' := p) (q' := q') (L := L) (M := M) (fun e => hq e.2.1))
      clear hs ks
      go_enter Try.func18, Try.ntmps18
      go_wp2
      go_ret
      exact ⟨ret_bool HE.out.symm, ((Below.refl _ _).alloc (Nat.le_refl _) _).alloc (by simp) _⟩
  · have HE := Lib.hid (deskEq_no (p := p) (q := q) (p' := p') (q' := q') (L := L) (M := M) (fun e => hp e.1))
    clear hs ks
    go_enter Try.func18, Try.ntmps18
    go_wp2
    go_ret
    exact ⟨ret_bool HE.out.symm, ((Below.refl _ _).alloc (Nat.le_refl _) _).alloc (by simp) _⟩
set_option maxHeartbeats 2000000 in
theorem noDesk_zero (w : World) (a : Option Addr) (c : Nat) :
    Calls Try.prog 19 #[.agg #[.int .i64 0, .int .i64 0, .slice a 0 c]] w fun e w' => e = .returned (.bool true) ∧ Below w.heap.size w w' := by
  have hcall := fun w => sameDesk_any w.heap.size w.heap.size w.heap.size w.heap.size 0 0 0 0 (.slice a 0 c) (.slice none 0 0) [] [] w (IsPairs.empty _ _ _ _) (IsPairs.empty _ _ _ _) (by simp) (by simp)
  go_enter Try.func19, Try.ntmps19
  go_wp2_with fail
  refine (hcall _).mono ?_
  rintro e w1 ⟨rfl, hb1⟩
  have HB1 := Lib.hid (show Below w.heap.size w w1 by (repeat (first | exact Below.refl _ _ | refine Below.alloc ?_ (by first | omega | (simp <;> omega)) _ | refine Below.trans ?_ (Below.mono (by assumption) (by first | omega | (simp <;> omega))))))
  clear hb1 hcall
  go_wp2
  go_ret
  exact ⟨rfl, HB1.out⟩
end Go.Proofs.Ytigcomhhgfgmgaa
namespace Go.Proofs.Ytigcomhhgfgmgaa
open Go.RowKit
theorem eqDesk_none (r s : Int) (w : World) : Calls Try.prog 30 #[.agg #[.int .i64 r, .int .i64 s, .slice none 0 0], .agg #[.int .i64 r, .int .i64 s, .slice none 0 0]] w fun e w' => e = .returned (.bool true) ∧ Below w.heap.size w w' :=
  eqDesk_same w.heap.size w.heap.size w.heap.size w.heap.size r s _ _ [] w (IsPairs.empty _ _ _ _) (IsPairs.empty _ _ _ _) (by simp)
theorem markDesk_none (r s : Int) (w : World) : Calls Try.prog 32 #[.agg #[.int .i64 r, .int .i64 s, .slice none 0 0], .int .i64 1] w fun e w' => e = .returned (.int .i64 1) ∧ Below w.heap.size w w' := by
  refine (markDesk_any w.heap.size w.heap.size r s _ [] 1 w (IsPairs.empty _ _ _ _) (by simp) (by omega) (by omega)).mono ?_
  rintro e w1 ⟨rfl, _, hM⟩
  exact ⟨by simp, below_markedS (Below.refl _ _) hM (Nat.le_refl _) (Nat.le_refl _)⟩
theorem heldDesk_none (r s : Int) (w : World) : Calls Try.prog 33 #[.agg #[.int .i64 r, .int .i64 s, .slice none 0 0], .int .i64 1] w fun e w' => e = .returned (.int .i64 1) ∧ Below w.heap.size w w' := by
  refine (heldDesk_any w.heap.size w.heap.size 0 r s _ 1 w (IsPairs.empty _ _ _ _) (by simp) (by omega) (by omega)).mono ?_
  rintro e w1 ⟨rfl, hB⟩
  exact ⟨by simp, hB⟩
theorem deskNew_both (p q : Int) : ∃ (r s : Int) (ok : Bool), (∀ w, Calls Try.prog 17 #[pr p q] w fun e w' => e = .returned (.tuple #[.agg #[.int .i64 r, .int .i64 s, .slice none 0 0], .bool ok]) ∧ Below w.heap.size w w') ∧
    (∀ w, Calls Try.prog 16 #[pr p q] w fun e w' => e = .returned (.tuple #[.agg #[.int .i64 r, .int .i64 s, .slice none 0 0], .bool ok]) ∧ Below w.heap.size w w') := by
  cases hb : pairB p q with
  | true => exact ⟨p, q, true, fun w => by have := specDeskNew_any p q w; rw [hb] at this; simpa using this, fun w => by have := implDeskNew_any p q w; rw [hb] at this; simpa using this⟩
  | false => exact ⟨0, 0, false, fun w => by have := specDeskNew_any p q w; rw [hb] at this; simpa using this, fun w => by have := implDeskNew_any p q w; rw [hb] at this; simpa using this⟩
set_option maxRecDepth 100000 in
set_option maxHeartbeats 4000000 in
theorem fnExactDeskNew_walk (p q : Int) (w : World) (_ : (Lit.int .i64 p).wf = true) (_ : (Lit.int .i64 q).wf = true) :
    Calls Try.prog 8 #[pr p q] w fun e w' => e = .returned (.bool true) ∧ Below w.heap.size w w' := by
  obtain ⟨r, s, ok, hS, hI⟩ := deskNew_both p q
  have HS := Lib.hid hS
  have HI := Lib.hid hI
  clear hS hI
  go_enter Try.func8, Try.ntmps8
  go_wp2_with fail
  refine (toPair_any p q _).mono ?_
  rintro e w1 ⟨rfl, hb1⟩
  obtain ⟨hc1, hf1⟩ := bcell hb1
  have hz1 := hb1.size
  try simp at hz1
  have hN1 : Below w.heap.size w w1 := by
    refine Below.trans ?_ (hb1.mono (by first | omega | (simp <;> omega)))
    (repeat (first | exact Below.refl _ _ | refine Below.setCell ?_ (by first | omega | (simp <;> omega)) _ | refine Below.alloc ?_ (by first | omega | (simp <;> omega)) _ | refine Below.drew ?_))
  have hn1 := hN1.size
  have hs1_0 : w.heap.size < w1.heap.size := by omega
  have kb1_0_0 : w1.cell? ⟨w.heap.size, 0, none⟩ = some (.int .i64 p) := by go_simp
  have kb1_0_1 : w1.cell? ⟨w.heap.size, 1, none⟩ = some (.int .i64 q) := by go_simp
  have HB1 := Lib.hid ((Below.refl w.heap.size w).trans (hN1.mono (by first | exact Nat.le_refl _ | omega)))
  clear hc1 hf1 hb1 hN1 hz1
  go_wp2_with fail
  refine (HS.out _).mono ?_
  rintro e w2 ⟨rfl, hb2⟩
  obtain ⟨hc2, hf2⟩ := bcell hb2
  have hz2 := hb2.size
  try simp at hz2
  have hN2 : Below w1.heap.size w1 w2 := by
    refine Below.trans ?_ (hb2.mono (by first | omega | (simp <;> omega)))
    (repeat (first | exact Below.refl _ _ | refine Below.setCell ?_ (by first | omega | (simp <;> omega)) _ | refine Below.alloc ?_ (by first | omega | (simp <;> omega)) _ | refine Below.drew ?_))
  have hn2 := hN2.size
  have hs2_0 : w.heap.size < w2.heap.size := by omega
  have kb2_0_0 : w2.cell? ⟨w.heap.size, 0, none⟩ = some (.int .i64 p) := by go_simp
  have kb2_0_1 : w2.cell? ⟨w.heap.size, 1, none⟩ = some (.int .i64 q) := by go_simp
  have HB2 := Lib.hid (HB1.out.trans (hN2.mono (by first | exact Nat.le_refl _ | omega)))
  clear hc2 hf2 hb2 hN2 hz2
  go_wp2_with fail
  refine (toPair_any p q _).mono ?_
  rintro e w3 ⟨rfl, hb3⟩
  obtain ⟨hc3, hf3⟩ := bcell hb3
  have hz3 := hb3.size
  try simp at hz3
  have hN3 : Below w2.heap.size w2 w3 := by
    refine Below.trans ?_ (hb3.mono (by first | omega | (simp <;> omega)))
    (repeat (first | exact Below.refl _ _ | refine Below.setCell ?_ (by first | omega | (simp <;> omega)) _ | refine Below.alloc ?_ (by first | omega | (simp <;> omega)) _ | refine Below.drew ?_))
  have hn3 := hN3.size
  have hs3_0 : w.heap.size < w3.heap.size := by omega
  have kb3_0_0 : w3.cell? ⟨w.heap.size, 0, none⟩ = some (.int .i64 p) := by go_simp
  have kb3_0_1 : w3.cell? ⟨w.heap.size, 1, none⟩ = some (.int .i64 q) := by go_simp
  have hs3_1 : w2.heap.size < w3.heap.size := by omega
  have kb3_1_0 : w3.cell? ⟨w2.heap.size, 0, none⟩ = some (.int .i64 r) := by go_simp
  have kb3_1_1 : w3.cell? ⟨w2.heap.size, 1, none⟩ = some (.int .i64 s) := by go_simp
  have kb3_1_2 : w3.cell? ⟨w2.heap.size, 2, none⟩ = some (.slice none 0 0) := by go_simp
  have HB3 := Lib.hid (HB2.out.trans (hN3.mono (by first | exact Nat.le_refl _ | omega)))
  clear hc3 hf3 hb3 hN3 hz3
  go_wp2_with fail
  refine (HI.out _).mono ?_
  rintro e w4 ⟨rfl, hb4⟩
  obtain ⟨hc4, hf4⟩ := bcell hb4
  have hz4 := hb4.size
  try simp at hz4
  have hN4 : Below w3.heap.size w3 w4 := by
    refine Below.trans ?_ (hb4.mono (by first | omega | (simp <;> omega)))
    (repeat (first | exact Below.refl _ _ | refine Below.setCell ?_ (by first | omega | (simp <;> omega)) _ | refine Below.alloc ?_ (by first | omega | (simp <;> omega)) _ | refine Below.drew ?_))
  have hn4 := hN4.size
  have hs4_0 : w.heap.size < w4.heap.size := by omega
  have kb4_0_0 : w4.cell? ⟨w.heap.size, 0, none⟩ = some (.int .i64 p) := by go_simp
  have kb4_0_1 : w4.cell? ⟨w.heap.size, 1, none⟩ = some (.int .i64 q) := by go_simp
  have hs4_1 : w2.heap.size < w4.heap.size := by omega
  have kb4_1_0 : w4.cell? ⟨w2.heap.size, 0, none⟩ = some (.int .i64 r) := by go_simp
  have kb4_1_1 : w4.cell? ⟨w2.heap.size, 1, none⟩ = some (.int .i64 s) := by go_simp
  have kb4_1_2 : w4.cell? ⟨w2.heap.size, 2, none⟩ = some (.slice none 0 0) := by go_simp
  have HB4 := Lib.hid (HB3.out.trans (hN4.mono (by first | exact Nat.le_refl _ | omega)))
  clear hc4 hf4 hb4 hN4 hz4
  go_wp2_with fail
  refine (eqDesk_none r s _).mono ?_
  rintro e w5 ⟨rfl, hb5⟩
  obtain ⟨hc5, hf5⟩ := bcell hb5
  have hz5 := hb5.size
  try simp at hz5
  have hN5 : Below w4.heap.size w4 w5 := by
    refine Below.trans ?_ (hb5.mono (by first | omega | (simp <;> omega)))
    (repeat (first | exact Below.refl _ _ | refine Below.setCell ?_ (by first | omega | (simp <;> omega)) _ | refine Below.alloc ?_ (by first | omega | (simp <;> omega)) _ | refine Below.drew ?_))
  have hn5 := hN5.size
  have hs5_0 : w.heap.size < w5.heap.size := by omega
  have kb5_0_0 : w5.cell? ⟨w.heap.size, 0, none⟩ = some (.int .i64 p) := by go_simp
  have kb5_0_1 : w5.cell? ⟨w.heap.size, 1, none⟩ = some (.int .i64 q) := by go_simp
  have hs5_1 : w2.heap.size < w5.heap.size := by omega
  have kb5_1_0 : w5.cell? ⟨w2.heap.size, 0, none⟩ = some (.int .i64 r) := by go_simp
  have kb5_1_1 : w5.cell? ⟨w2.heap.size, 1, none⟩ = some (.int .i64 s) := by go_simp
  have kb5_1_2 : w5.cell? ⟨w2.heap.size, 2, none⟩ = some (.slice none 0 0) := by go_simp
  have hs5_2 : w4.heap.size < w5.heap.size := by omega
  have kb5_2_0 : w5.cell? ⟨w4.heap.size, 0, none⟩ = some (.int .i64 r) := by go_simp
  have kb5_2_1 : w5.cell? ⟨w4.heap.size, 1, none⟩ = some (.int .i64 s) := by go_simp
  have kb5_2_2 : w5.cell? ⟨w4.heap.size, 2, none⟩ = some (.slice none 0 0) := by go_simp
  have HB5 := Lib.hid (HB4.out.trans (hN5.mono (by first | exact Nat.le_refl _ | omega)))
  clear hc5 hf5 hb5 hN5 hz5
  go_wp2_with fail
  refine (markDesk_none r s _).mono ?_
  rintro e w6 ⟨rfl, hb6⟩
  obtain ⟨hc6, hf6⟩ := bcell hb6
  have hz6 := hb6.size
  try simp at hz6
  have hN6 : Below w5.heap.size w5 w6 := by
    refine Below.trans ?_ (hb6.mono (by first | omega | (simp <;> omega)))
    (repeat (first | exact Below.refl _ _ | refine Below.setCell ?_ (by first | omega | (simp <;> omega)) _ | refine Below.alloc ?_ (by first | omega | (simp <;> omega)) _ | refine Below.drew ?_))
  have hn6 := hN6.size
  have hs6_0 : w.heap.size < w6.heap.size := by omega
  have kb6_0_0 : w6.cell? ⟨w.heap.size, 0, none⟩ = some (.int .i64 p) := by go_simp
  have kb6_0_1 : w6.cell? ⟨w.heap.size, 1, none⟩ = some (.int .i64 q) := by go_simp
  have hs6_1 : w2.heap.size < w6.heap.size := by omega
  have kb6_1_0 : w6.cell? ⟨w2.heap.size, 0, none⟩ = some (.int .i64 r) := by go_simp
  have kb6_1_1 : w6.cell? ⟨w2.heap.size, 1, none⟩ = some (.int .i64 s) := by go_simp
  have kb6_1_2 : w6.cell? ⟨w2.heap.size, 2, none⟩ = some (.slice none 0 0) := by go_simp
  have hs6_2 : w4.heap.size < w6.heap.size := by omega
  have kb6_2_0 : w6.cell? ⟨w4.heap.size, 0, none⟩ = some (.int .i64 r) := by go_simp
  have kb6_2_1 : w6.cell? ⟨w4.heap.size, 1, none⟩ = some (.int .i64 s) := by go_simp
  have kb6_2_2 : w6.cell? ⟨w4.heap.size, 2, none⟩ = some (.slice none 0 0) := by go_simp
  have HB6 := Lib.hid (HB5.out.trans (hN6.mono (by first | exact Nat.le_refl _ | omega)))
  clear hc6 hf6 hb6 hN6 hz6
  go_wp2_with fail
  refine (heldDesk_none r s _).mono ?_
  rintro e w7 ⟨rfl, hb7⟩
  obtain ⟨hc7, hf7⟩ := bcell hb7
  have hz7 := hb7.size
  try simp at hz7
  have hN7 : Below w6.heap.size w6 w7 := by
    refine Below.trans ?_ (hb7.mono (by first | omega | (simp <;> omega)))
    (repeat (first | exact Below.refl _ _ | refine Below.setCell ?_ (by first | omega | (simp <;> omega)) _ | refine Below.alloc ?_ (by first | omega | (simp <;> omega)) _ | refine Below.drew ?_))
  have hn7 := hN7.size
  have hs7_0 : w.heap.size < w7.heap.size := by omega
  have kb7_0_0 : w7.cell? ⟨w.heap.size, 0, none⟩ = some (.int .i64 p) := by go_simp
  have kb7_0_1 : w7.cell? ⟨w.heap.size, 1, none⟩ = some (.int .i64 q) := by go_simp
  have hs7_1 : w2.heap.size < w7.heap.size := by omega
  have kb7_1_0 : w7.cell? ⟨w2.heap.size, 0, none⟩ = some (.int .i64 r) := by go_simp
  have kb7_1_1 : w7.cell? ⟨w2.heap.size, 1, none⟩ = some (.int .i64 s) := by go_simp
  have kb7_1_2 : w7.cell? ⟨w2.heap.size, 2, none⟩ = some (.slice none 0 0) := by go_simp
  have hs7_2 : w4.heap.size < w7.heap.size := by omega
  have kb7_2_0 : w7.cell? ⟨w4.heap.size, 0, none⟩ = some (.int .i64 r) := by go_simp
  have kb7_2_1 : w7.cell? ⟨w4.heap.size, 1, none⟩ = some (.int .i64 s) := by go_simp
  have kb7_2_2 : w7.cell? ⟨w4.heap.size, 2, none⟩ = some (.slice none 0 0) := by go_simp
  have HB7 := Lib.hid (HB6.out.trans (hN7.mono (by first | exact Nat.le_refl _ | omega)))
  clear hc7 hf7 hb7 hN7 hz7
  go_wp2_with fail
  refine (toPair_any p q _).mono ?_
  rintro e w8 ⟨rfl, hb8⟩
  obtain ⟨hc8, hf8⟩ := bcell hb8
  have hz8 := hb8.size
  try simp at hz8
  have hN8 : Below w7.heap.size w7 w8 := by
    refine Below.trans ?_ (hb8.mono (by first | omega | (simp <;> omega)))
    (repeat (first | exact Below.refl _ _ | refine Below.setCell ?_ (by first | omega | (simp <;> omega)) _ | refine Below.alloc ?_ (by first | omega | (simp <;> omega)) _ | refine Below.drew ?_))
  have hn8 := hN8.size
  have hs8_0 : w.heap.size < w8.heap.size := by omega
  have kb8_0_0 : w8.cell? ⟨w.heap.size, 0, none⟩ = some (.int .i64 p) := by go_simp
  have kb8_0_1 : w8.cell? ⟨w.heap.size, 1, none⟩ = some (.int .i64 q) := by go_simp
  have hs8_1 : w2.heap.size < w8.heap.size := by omega
  have kb8_1_0 : w8.cell? ⟨w2.heap.size, 0, none⟩ = some (.int .i64 r) := by go_simp
  have kb8_1_1 : w8.cell? ⟨w2.heap.size, 1, none⟩ = some (.int .i64 s) := by go_simp
  have kb8_1_2 : w8.cell? ⟨w2.heap.size, 2, none⟩ = some (.slice none 0 0) := by go_simp
  have hs8_2 : w4.heap.size < w8.heap.size := by omega
  have kb8_2_0 : w8.cell? ⟨w4.heap.size, 0, none⟩ = some (.int .i64 r) := by go_simp
  have kb8_2_1 : w8.cell? ⟨w4.heap.size, 1, none⟩ = some (.int .i64 s) := by go_simp
  have kb8_2_2 : w8.cell? ⟨w4.heap.size, 2, none⟩ = some (.slice none 0 0) := by go_simp
  have HB8 := Lib.hid (HB7.out.trans (hN8.mono (by first | exact Nat.le_refl _ | omega)))
  clear hc8 hf8 hb8 hN8 hz8
  go_wp2_with fail
  refine (HI.out _).mono ?_
  rintro e w9 ⟨rfl, hb9⟩
  obtain ⟨hc9, hf9⟩ := bcell hb9
  have hz9 := hb9.size
  try simp at hz9
  have hN9 : Below w8.heap.size w8 w9 := by
    refine Below.trans ?_ (hb9.mono (by first | omega | (simp <;> omega)))
    (repeat (first | exact Below.refl _ _ | refine Below.setCell ?_ (by first | omega | (simp <;> omega)) _ | refine Below.alloc ?_ (by first | omega | (simp <;> omega)) _ | refine Below.drew ?_))
  have hn9 := hN9.size
  have hs9_0 : w.heap.size < w9.heap.size := by omega
  have kb9_0_0 : w9.cell? ⟨w.heap.size, 0, none⟩ = some (.int .i64 p) := by go_simp
  have kb9_0_1 : w9.cell? ⟨w.heap.size, 1, none⟩ = some (.int .i64 q) := by go_simp
  have hs9_1 : w2.heap.size < w9.heap.size := by omega
  have kb9_1_0 : w9.cell? ⟨w2.heap.size, 0, none⟩ = some (.int .i64 r) := by go_simp
  have kb9_1_1 : w9.cell? ⟨w2.heap.size, 1, none⟩ = some (.int .i64 s) := by go_simp
  have kb9_1_2 : w9.cell? ⟨w2.heap.size, 2, none⟩ = some (.slice none 0 0) := by go_simp
  have hs9_2 : w4.heap.size < w9.heap.size := by omega
  have kb9_2_0 : w9.cell? ⟨w4.heap.size, 0, none⟩ = some (.int .i64 r) := by go_simp
  have kb9_2_1 : w9.cell? ⟨w4.heap.size, 1, none⟩ = some (.int .i64 s) := by go_simp
  have kb9_2_2 : w9.cell? ⟨w4.heap.size, 2, none⟩ = some (.slice none 0 0) := by go_simp
  have HB9 := Lib.hid (HB8.out.trans (hN9.mono (by first | exact Nat.le_refl _ | omega)))
  clear hc9 hf9 hb9 hN9 hz9
  go_wp2_with fail
  refine (eqDesk_none r s _).mono ?_
  rintro e w10 ⟨rfl, hb10⟩
  obtain ⟨hc10, hf10⟩ := bcell hb10
  have hz10 := hb10.size
  try simp at hz10
  have hN10 : Below w9.heap.size w9 w10 := by
    refine Below.trans ?_ (hb10.mono (by first | omega | (simp <;> omega)))
    (repeat (first | exact Below.refl _ _ | refine Below.setCell ?_ (by first | omega | (simp <;> omega)) _ | refine Below.alloc ?_ (by first | omega | (simp <;> omega)) _ | refine Below.drew ?_))
  have hn10 := hN10.size
  have hs10_0 : w.heap.size < w10.heap.size := by omega
  have kb10_0_0 : w10.cell? ⟨w.heap.size, 0, none⟩ = some (.int .i64 p) := by go_simp
  have kb10_0_1 : w10.cell? ⟨w.heap.size, 1, none⟩ = some (.int .i64 q) := by go_simp
  have hs10_1 : w2.heap.size < w10.heap.size := by omega
  have kb10_1_0 : w10.cell? ⟨w2.heap.size, 0, none⟩ = some (.int .i64 r) := by go_simp
  have kb10_1_1 : w10.cell? ⟨w2.heap.size, 1, none⟩ = some (.int .i64 s) := by go_simp
  have kb10_1_2 : w10.cell? ⟨w2.heap.size, 2, none⟩ = some (.slice none 0 0) := by go_simp
  have hs10_2 : w4.heap.size < w10.heap.size := by omega
  have kb10_2_0 : w10.cell? ⟨w4.heap.size, 0, none⟩ = some (.int .i64 r) := by go_simp
  have kb10_2_1 : w10.cell? ⟨w4.heap.size, 1, none⟩ = some (.int .i64 s) := by go_simp
  have kb10_2_2 : w10.cell? ⟨w4.heap.size, 2, none⟩ = some (.slice none 0 0) := by go_simp
  have hs10_3 : w9.heap.size < w10.heap.size := by omega
  have kb10_3_0 : w10.cell? ⟨w9.heap.size, 0, none⟩ = some (.int .i64 r) := by go_simp
  have kb10_3_1 : w10.cell? ⟨w9.heap.size, 1, none⟩ = some (.int .i64 s) := by go_simp
  have kb10_3_2 : w10.cell? ⟨w9.heap.size, 2, none⟩ = some (.slice none 0 0) := by go_simp
  have HB10 := Lib.hid (HB9.out.trans (hN10.mono (by first | exact Nat.le_refl _ | omega)))
  clear hc10 hf10 hb10 hN10 hz10
  go_wp2_with fail
  refine (heldDesk_none r s _).mono ?_
  rintro e w11 ⟨rfl, hb11⟩
  obtain ⟨hc11, hf11⟩ := bcell hb11
  have hz11 := hb11.size
  try simp at hz11
  have hN11 : Below w10.heap.size w10 w11 := by
    refine Below.trans ?_ (hb11.mono (by first | omega | (simp <;> omega)))
    (repeat (first | exact Below.refl _ _ | refine Below.setCell ?_ (by first | omega | (simp <;> omega)) _ | refine Below.alloc ?_ (by first | omega | (simp <;> omega)) _ | refine Below.drew ?_))
  have hn11 := hN11.size
  have hs11_0 : w.heap.size < w11.heap.size := by omega
  have kb11_0_0 : w11.cell? ⟨w.heap.size, 0, none⟩ = some (.int .i64 p) := by go_simp
  have kb11_0_1 : w11.cell? ⟨w.heap.size, 1, none⟩ = some (.int .i64 q) := by go_simp
  have hs11_1 : w2.heap.size < w11.heap.size := by omega
  have kb11_1_0 : w11.cell? ⟨w2.heap.size, 0, none⟩ = some (.int .i64 r) := by go_simp
  have kb11_1_1 : w11.cell? ⟨w2.heap.size, 1, none⟩ = some (.int .i64 s) := by go_simp
  have kb11_1_2 : w11.cell? ⟨w2.heap.size, 2, none⟩ = some (.slice none 0 0) := by go_simp
  have hs11_2 : w4.heap.size < w11.heap.size := by omega
  have kb11_2_0 : w11.cell? ⟨w4.heap.size, 0, none⟩ = some (.int .i64 r) := by go_simp
  have kb11_2_1 : w11.cell? ⟨w4.heap.size, 1, none⟩ = some (.int .i64 s) := by go_simp
  have kb11_2_2 : w11.cell? ⟨w4.heap.size, 2, none⟩ = some (.slice none 0 0) := by go_simp
  have hs11_3 : w9.heap.size < w11.heap.size := by omega
  have kb11_3_0 : w11.cell? ⟨w9.heap.size, 0, none⟩ = some (.int .i64 r) := by go_simp
  have kb11_3_1 : w11.cell? ⟨w9.heap.size, 1, none⟩ = some (.int .i64 s) := by go_simp
  have kb11_3_2 : w11.cell? ⟨w9.heap.size, 2, none⟩ = some (.slice none 0 0) := by go_simp
  have HB11 := Lib.hid (HB10.out.trans (hN11.mono (by first | exact Nat.le_refl _ | omega)))
  clear hc11 hf11 hb11 hN11 hz11
  go_wp2
  go_ret
  exact ⟨rfl, HB11.out⟩
end Go.Proofs.Ytigcomhhgfgmgaa
namespace Go.Proofs.Ytigcomhhgfgmgaa
open Go.RowKit
set_option maxHeartbeats 2000000 in
theorem drawDeskNew_any (w : World) (a : Option Addr) (len cap : Nat) (zs : List Int) (h : IsRow w a len cap zs) :
    Calls Try.prog 15 #[.slice a len cap] w (DrawnPair w) := by
  go_enter Try.func15, Try.ntmps15
  go_wp2_with fail
  refine (open_any _ _ _ _ zs (h.below ((Below.refl _ _).alloc (Nat.le_refl _) _))).mono ?_
  rintro e w1 ⟨rfl, hR1, hh1, hzR1⟩
  try simp only [World.size_alloc] at hzR1
  try simp only [World.size_alloc] at hR1
  obtain ⟨hc1, hf1⟩ := bcell hh1
  have hz1 := hh1.size
  try simp only [World.size_alloc] at hz1
  have hz1_0 : w.heap.size < w1.heap.size := by omega
  have kb1_0_0 : w1.cell? ⟨w.heap.size, 0, none⟩ = some (.int .i64 0) := by go_simp
  have kf1_0_0 : w1.frozen? ⟨w.heap.size, 0, none⟩ = false := by go_simp
  have kb1_0_1 : w1.cell? ⟨w.heap.size, 1, none⟩ = some (.int .i64 0) := by go_simp
  have kf1_0_1 : w1.frozen? ⟨w.heap.size, 1, none⟩ = false := by go_simp
  clear hc1 hf1
  go_wp2_with fail
  refine (l20Pair_any (w.heap.size + 1) 0 3 _ hR1 (by omega) (by omega)).mono ?_
  rintro e w2 ⟨p2, q2, rfl, pa2, pb2, qa2, qb2, hR2, hh2⟩
  obtain ⟨hc2, hf2⟩ := gcell hh2
  have hz2 := hh2.size
  try simp only [World.size_alloc] at hz2
  have hz2_0 : w.heap.size < w2.heap.size := by omega
  have hn2_0 : ¬ w.heap.size = (w.heap.size + 1) := by omega
  have kb2_0_0 : w2.cell? ⟨w.heap.size, 0, none⟩ = some (.int .i64 0) := by go_simp
  have kf2_0_0 : w2.frozen? ⟨w.heap.size, 0, none⟩ = false := by go_simp
  have kb2_0_1 : w2.cell? ⟨w.heap.size, 1, none⟩ = some (.int .i64 0) := by go_simp
  have kf2_0_1 : w2.frozen? ⟨w.heap.size, 1, none⟩ = false := by go_simp
  clear hc2 hf2
  go_wp2
  refine bodyPost_ret (v := pr p2 q2) (by simp [results, Try.results15, go_sem, kb2_0_0, kb2_0_1]) rfl ⟨_, _, rfl, by omega, by omega, by omega, by omega, ?_⟩
  (repeat (first | exact Below.refl _ _ | refine Below.setCell ?_ (by first | omega | (simp <;> omega)) _ | refine Below.alloc ?_ (by first | omega | (simp <;> omega)) _ | refine Below.drew ?_ | refine Below.trans ?_ (Below.mono (by assumption) (by first | omega | (simp <;> omega))) | refine Below.grown ?_ (by assumption) (by first | omega | (simp <;> omega)) (fun k e => by cases e; first | omega | (simp <;> omega))))
theorem implNew_yes (p q : Int) (w : World) (hp : pairB p q = true) : Calls Try.prog 16 #[pr p q] w fun e w' => e = .returned (.tuple #[.agg #[.int .i64 p, .int .i64 q, .slice none 0 0], .bool true]) ∧ Below w.heap.size w w' := by have := implDeskNew_any p q w; rw [hp] at this; simpa using this
theorem implNew_no (p q : Int) (w : World) (hp : pairB p q = false) : Calls Try.prog 16 #[pr p q] w fun e w' => e = .returned (.tuple #[.agg #[.int .i64 0, .int .i64 0, .slice none 0 0], .bool false]) ∧ Below w.heap.size w w' := by have := implDeskNew_any p q w; rw [hp] at this; simpa using this
theorem specNew_yes (p q : Int) (w : World) (hp : pairB p q = true) : Calls Try.prog 17 #[pr p q] w fun e w' => e = .returned (.tuple #[.agg #[.int .i64 p, .int .i64 q, .slice none 0 0], .bool true]) ∧ Below w.heap.size w w' := by have := specDeskNew_any p q w; rw [hp] at this; simpa using this
theorem specNew_no (p q : Int) (w : World) (hp : pairB p q = false) : Calls Try.prog 17 #[pr p q] w fun e w' => e = .returned (.tuple #[.agg #[.int .i64 0, .int .i64 0, .slice none 0 0], .bool false]) ∧ Below w.heap.size w w' := by have := specDeskNew_any p q w; rw [hp] at this; simpa using this
theorem sameDesk_none (r s : Int) (w : World) : Calls Try.prog 18 #[.agg #[.int .i64 r, .int .i64 s, .slice none 0 0], .agg #[.int .i64 r, .int .i64 s, .slice none 0 0]] w fun e w' => e = .returned (.bool true) ∧ Below w.heap.size w w' := by
  have := sameDesk_any w.heap.size w.heap.size w.heap.size w.heap.size r s r s (.slice none 0 0) (.slice none 0 0) [] [] w (IsPairs.empty _ _ _ _) (IsPairs.empty _ _ _ _) (by simp) (by simp)
  rwa [deskEq_yes rfl] at this
theorem deskOk_none (p q : Int) (w : World) (hp : pairB p q = true) : Calls Try.prog 12 #[.agg #[.int .i64 p, .int .i64 q, .slice none 0 0]] w fun e w' => e = .returned (.bool true) ∧ Below w.heap.size w w' := by
  have := implDeskOk_any w.heap.size w.heap.size p q [] (.slice none 0 0) w (IsPairs.empty _ _ _ _) (by simp)
  rwa [show deskN ⟨(p, q), []⟩ = true from deskN_mk hp (by simp) (by simp)] at this
set_option maxRecDepth 100000 in
set_option maxHeartbeats 4000000 in
theorem fnDeskNew_walk (a : Option Addr) (len cap : Nat) (z : List Int) (w : World) (w0 : IsRow w a len cap z) :
    Calls Try.prog 4 #[.slice a len cap] w fun e w' => e = .returned (.bool true) ∧ Below w.heap.size w w' := by
  by_cases hbig : 1048576 < len
  · go_enter Try.func4, Try.ntmps4
    go_wp2
    go_ret
    exact ⟨rfl, Below.refl _ _⟩
  · have hsm : len ≤ 1048576 := by omega
    go_enter Try.func4, Try.ntmps4
    go_wp2_with fail
    refine (drawDeskNew_any _ _ _ _ z w0).mono ?_
    rintro e w1 ⟨p, q, rfl, hp1, hp2, hq1, hq2, hh1⟩
    have hz1 := hh1.size
    obtain ⟨hc1, hf1⟩ := bcell hh1
    cases hp : pairB p q with
    | true =>
      have HB1 := Lib.hid hh1
      clear hc1 hf1 hh1
      go_wp2_with fail
      refine (implNew_yes p q _ hp).mono ?_
      rintro e w2 ⟨rfl, hb2⟩
      obtain ⟨hc2, hf2⟩ := bcell hb2
      have hz2 := hb2.size
      try simp at hz2
      have hN2 : Below w1.heap.size w1 w2 := by
        refine Below.trans ?_ (hb2.mono (by first | omega | (simp <;> omega)))
        (repeat (first | exact Below.refl _ _ | refine Below.setCell ?_ (by first | omega | (simp <;> omega)) _ | refine Below.alloc ?_ (by first | omega | (simp <;> omega)) _ | refine Below.drew ?_))
      have hn2 := hN2.size
      have hs2_0 : w1.heap.size < w2.heap.size := by omega
      have kb2_0_0 : w2.cell? ⟨w1.heap.size, 0, none⟩ = some (.int .i64 p) := by go_simp
      have kb2_0_1 : w2.cell? ⟨w1.heap.size, 1, none⟩ = some (.int .i64 q) := by go_simp
      have HB2 := Lib.hid (HB1.out.trans (hN2.mono (by first | exact Nat.le_refl _ | omega)))
      clear hc2 hf2 hb2 hN2 hz2
      go_wp2_with fail
      refine (specNew_yes p q _ hp).mono ?_
      rintro e w3 ⟨rfl, hb3⟩
      obtain ⟨hc3, hf3⟩ := bcell hb3
      have hz3 := hb3.size
      try simp at hz3
      have hN3 : Below w2.heap.size w2 w3 := by
        refine Below.trans ?_ (hb3.mono (by first | omega | (simp <;> omega)))
        (repeat (first | exact Below.refl _ _ | refine Below.setCell ?_ (by first | omega | (simp <;> omega)) _ | refine Below.alloc ?_ (by first | omega | (simp <;> omega)) _ | refine Below.drew ?_))
      have hn3 := hN3.size
      have hs3_0 : w1.heap.size < w3.heap.size := by omega
      have hs3_1 : w2.heap.size < w3.heap.size := by omega
      have kb3_0_0 : w3.cell? ⟨w1.heap.size, 0, none⟩ = some (.int .i64 p) := by go_simp
      have kb3_0_1 : w3.cell? ⟨w1.heap.size, 1, none⟩ = some (.int .i64 q) := by go_simp
      have kb3_1_0 : w3.cell? ⟨w2.heap.size, 0, none⟩ = some (.int .i64 p) := by go_simp
      have kb3_1_1 : w3.cell? ⟨w2.heap.size, 1, none⟩ = some (.int .i64 q) := by go_simp
      have kb3_1_2 : w3.cell? ⟨w2.heap.size, 2, none⟩ = some (.slice none 0 0) := by go_simp
      have HB3 := Lib.hid (HB2.out.trans (hN3.mono (by first | exact Nat.le_refl _ | omega)))
      clear hc3 hf3 hb3 hN3 hz3
      go_wp2_with fail
      refine (sameDesk_none p q _).mono ?_
      rintro e w4 ⟨rfl, hb4⟩
      obtain ⟨hc4, hf4⟩ := bcell hb4
      have hz4 := hb4.size
      try simp at hz4
      have hN4 : Below w3.heap.size w3 w4 := by
        refine Below.trans ?_ (hb4.mono (by first | omega | (simp <;> omega)))
        (repeat (first | exact Below.refl _ _ | refine Below.setCell ?_ (by first | omega | (simp <;> omega)) _ | refine Below.alloc ?_ (by first | omega | (simp <;> omega)) _ | refine Below.drew ?_))
      have hn4 := hN4.size
      have hs4_0 : w1.heap.size < w4.heap.size := by omega
      have hs4_1 : w2.heap.size < w4.heap.size := by omega
      have hs4_2 : w3.heap.size < w4.heap.size := by omega
      have kb4_0_0 : w4.cell? ⟨w1.heap.size, 0, none⟩ = some (.int .i64 p) := by go_simp
      have kb4_0_1 : w4.cell? ⟨w1.heap.size, 1, none⟩ = some (.int .i64 q) := by go_simp
      have kb4_1_0 : w4.cell? ⟨w2.heap.size, 0, none⟩ = some (.int .i64 p) := by go_simp
      have kb4_1_1 : w4.cell? ⟨w2.heap.size, 1, none⟩ = some (.int .i64 q) := by go_simp
      have kb4_1_2 : w4.cell? ⟨w2.heap.size, 2, none⟩ = some (.slice none 0 0) := by go_simp
      have kb4_2_0 : w4.cell? ⟨w3.heap.size, 0, none⟩ = some (.int .i64 p) := by go_simp
      have kb4_2_1 : w4.cell? ⟨w3.heap.size, 1, none⟩ = some (.int .i64 q) := by go_simp
      have kb4_2_2 : w4.cell? ⟨w3.heap.size, 2, none⟩ = some (.slice none 0 0) := by go_simp
      have HB4 := Lib.hid (HB3.out.trans (hN4.mono (by first | exact Nat.le_refl _ | omega)))
      clear hc4 hf4 hb4 hN4 hz4
      go_wp2_with fail
      refine (deskOk_none p q _ hp).mono ?_
      rintro e w5 ⟨rfl, hb5⟩
      obtain ⟨hc5, hf5⟩ := bcell hb5
      have hz5 := hb5.size
      try simp at hz5
      have hN5 : Below w4.heap.size w4 w5 := by
        refine Below.trans ?_ (hb5.mono (by first | omega | (simp <;> omega)))
        (repeat (first | exact Below.refl _ _ | refine Below.setCell ?_ (by first | omega | (simp <;> omega)) _ | refine Below.alloc ?_ (by first | omega | (simp <;> omega)) _ | refine Below.drew ?_))
      have hn5 := hN5.size
      have hs5_0 : w1.heap.size < w5.heap.size := by omega
      have hs5_1 : w2.heap.size < w5.heap.size := by omega
      have hs5_2 : w3.heap.size < w5.heap.size := by omega
      have kb5_0_0 : w5.cell? ⟨w1.heap.size, 0, none⟩ = some (.int .i64 p) := by go_simp
      have kb5_0_1 : w5.cell? ⟨w1.heap.size, 1, none⟩ = some (.int .i64 q) := by go_simp
      have kb5_1_0 : w5.cell? ⟨w2.heap.size, 0, none⟩ = some (.int .i64 p) := by go_simp
      have kb5_1_1 : w5.cell? ⟨w2.heap.size, 1, none⟩ = some (.int .i64 q) := by go_simp
      have kb5_1_2 : w5.cell? ⟨w2.heap.size, 2, none⟩ = some (.slice none 0 0) := by go_simp
      have kb5_2_0 : w5.cell? ⟨w3.heap.size, 0, none⟩ = some (.int .i64 p) := by go_simp
      have kb5_2_1 : w5.cell? ⟨w3.heap.size, 1, none⟩ = some (.int .i64 q) := by go_simp
      have kb5_2_2 : w5.cell? ⟨w3.heap.size, 2, none⟩ = some (.slice none 0 0) := by go_simp
      have HB5 := Lib.hid (HB4.out.trans (hN5.mono (by first | exact Nat.le_refl _ | omega)))
      clear hc5 hf5 hb5 hN5 hz5
      go_wp2_with fail
      refine (alive_any _).mono ?_
      rintro e w6 ⟨rfl, hb6⟩
      obtain ⟨hc6, hf6⟩ := bcell hb6
      have hz6 := hb6.size
      try simp at hz6
      have hN6 : Below w5.heap.size w5 w6 := by
        refine Below.trans ?_ (hb6.mono (by first | omega | (simp <;> omega)))
        (repeat (first | exact Below.refl _ _ | refine Below.setCell ?_ (by first | omega | (simp <;> omega)) _ | refine Below.alloc ?_ (by first | omega | (simp <;> omega)) _ | refine Below.drew ?_))
      have hn6 := hN6.size
      have hs6_0 : w1.heap.size < w6.heap.size := by omega
      have hs6_1 : w2.heap.size < w6.heap.size := by omega
      have hs6_2 : w3.heap.size < w6.heap.size := by omega
      have kb6_0_0 : w6.cell? ⟨w1.heap.size, 0, none⟩ = some (.int .i64 p) := by go_simp
      have kb6_0_1 : w6.cell? ⟨w1.heap.size, 1, none⟩ = some (.int .i64 q) := by go_simp
      have kb6_1_0 : w6.cell? ⟨w2.heap.size, 0, none⟩ = some (.int .i64 p) := by go_simp
      have kb6_1_1 : w6.cell? ⟨w2.heap.size, 1, none⟩ = some (.int .i64 q) := by go_simp
      have kb6_1_2 : w6.cell? ⟨w2.heap.size, 2, none⟩ = some (.slice none 0 0) := by go_simp
      have kb6_2_0 : w6.cell? ⟨w3.heap.size, 0, none⟩ = some (.int .i64 p) := by go_simp
      have kb6_2_1 : w6.cell? ⟨w3.heap.size, 1, none⟩ = some (.int .i64 q) := by go_simp
      have kb6_2_2 : w6.cell? ⟨w3.heap.size, 2, none⟩ = some (.slice none 0 0) := by go_simp
      have HB6 := Lib.hid (HB5.out.trans (hN6.mono (by first | exact Nat.le_refl _ | omega)))
      clear hc6 hf6 hb6 hN6 hz6
      go_wp2
      go_ret
      exact ⟨rfl, HB6.out⟩
    | false =>
      have HB1 := Lib.hid hh1
      clear hc1 hf1 hh1
      go_wp2_with fail
      refine (implNew_no p q _ hp).mono ?_
      rintro e w2 ⟨rfl, hb2⟩
      obtain ⟨hc2, hf2⟩ := bcell hb2
      have hz2 := hb2.size
      try simp at hz2
      have hN2 : Below w1.heap.size w1 w2 := by
        refine Below.trans ?_ (hb2.mono (by first | omega | (simp <;> omega)))
        (repeat (first | exact Below.refl _ _ | refine Below.setCell ?_ (by first | omega | (simp <;> omega)) _ | refine Below.alloc ?_ (by first | omega | (simp <;> omega)) _ | refine Below.drew ?_))
      have hn2 := hN2.size
      have hs2_0 : w1.heap.size < w2.heap.size := by omega
      have kb2_0_0 : w2.cell? ⟨w1.heap.size, 0, none⟩ = some (.int .i64 p) := by go_simp
      have kb2_0_1 : w2.cell? ⟨w1.heap.size, 1, none⟩ = some (.int .i64 q) := by go_simp
      have HB2 := Lib.hid (HB1.out.trans (hN2.mono (by first | exact Nat.le_refl _ | omega)))
      clear hc2 hf2 hb2 hN2 hz2
      go_wp2_with fail
      refine (specNew_no p q _ hp).mono ?_
      rintro e w3 ⟨rfl, hb3⟩
      obtain ⟨hc3, hf3⟩ := bcell hb3
      have hz3 := hb3.size
      try simp at hz3
      have hN3 : Below w2.heap.size w2 w3 := by
        refine Below.trans ?_ (hb3.mono (by first | omega | (simp <;> omega)))
        (repeat (first | exact Below.refl _ _ | refine Below.setCell ?_ (by first | omega | (simp <;> omega)) _ | refine Below.alloc ?_ (by first | omega | (simp <;> omega)) _ | refine Below.drew ?_))
      have hn3 := hN3.size
      have hs3_0 : w1.heap.size < w3.heap.size := by omega
      have hs3_1 : w2.heap.size < w3.heap.size := by omega
      have kb3_0_0 : w3.cell? ⟨w1.heap.size, 0, none⟩ = some (.int .i64 p) := by go_simp
      have kb3_0_1 : w3.cell? ⟨w1.heap.size, 1, none⟩ = some (.int .i64 q) := by go_simp
      have kb3_1_0 : w3.cell? ⟨w2.heap.size, 0, none⟩ = some (.int .i64 0) := by go_simp
      have kb3_1_1 : w3.cell? ⟨w2.heap.size, 1, none⟩ = some (.int .i64 0) := by go_simp
      have kb3_1_2 : w3.cell? ⟨w2.heap.size, 2, none⟩ = some (.slice none 0 0) := by go_simp
      have HB3 := Lib.hid (HB2.out.trans (hN3.mono (by first | exact Nat.le_refl _ | omega)))
      clear hc3 hf3 hb3 hN3 hz3
      go_wp2_with fail
      refine (sameDesk_none 0 0 _).mono ?_
      rintro e w4 ⟨rfl, hb4⟩
      obtain ⟨hc4, hf4⟩ := bcell hb4
      have hz4 := hb4.size
      try simp at hz4
      have hN4 : Below w3.heap.size w3 w4 := by
        refine Below.trans ?_ (hb4.mono (by first | omega | (simp <;> omega)))
        (repeat (first | exact Below.refl _ _ | refine Below.setCell ?_ (by first | omega | (simp <;> omega)) _ | refine Below.alloc ?_ (by first | omega | (simp <;> omega)) _ | refine Below.drew ?_))
      have hn4 := hN4.size
      have hs4_0 : w1.heap.size < w4.heap.size := by omega
      have hs4_1 : w2.heap.size < w4.heap.size := by omega
      have hs4_2 : w3.heap.size < w4.heap.size := by omega
      have kb4_0_0 : w4.cell? ⟨w1.heap.size, 0, none⟩ = some (.int .i64 p) := by go_simp
      have kb4_0_1 : w4.cell? ⟨w1.heap.size, 1, none⟩ = some (.int .i64 q) := by go_simp
      have kb4_1_0 : w4.cell? ⟨w2.heap.size, 0, none⟩ = some (.int .i64 0) := by go_simp
      have kb4_1_1 : w4.cell? ⟨w2.heap.size, 1, none⟩ = some (.int .i64 0) := by go_simp
      have kb4_1_2 : w4.cell? ⟨w2.heap.size, 2, none⟩ = some (.slice none 0 0) := by go_simp
      have kb4_2_0 : w4.cell? ⟨w3.heap.size, 0, none⟩ = some (.int .i64 0) := by go_simp
      have kb4_2_1 : w4.cell? ⟨w3.heap.size, 1, none⟩ = some (.int .i64 0) := by go_simp
      have kb4_2_2 : w4.cell? ⟨w3.heap.size, 2, none⟩ = some (.slice none 0 0) := by go_simp
      have HB4 := Lib.hid (HB3.out.trans (hN4.mono (by first | exact Nat.le_refl _ | omega)))
      clear hc4 hf4 hb4 hN4 hz4
      go_wp2_with fail
      refine (noDesk_zero _ none 0).mono ?_
      rintro e w5 ⟨rfl, hb5⟩
      obtain ⟨hc5, hf5⟩ := bcell hb5
      have hz5 := hb5.size
      try simp at hz5
      have hN5 : Below w4.heap.size w4 w5 := by
        refine Below.trans ?_ (hb5.mono (by first | omega | (simp <;> omega)))
        (repeat (first | exact Below.refl _ _ | refine Below.setCell ?_ (by first | omega | (simp <;> omega)) _ | refine Below.alloc ?_ (by first | omega | (simp <;> omega)) _ | refine Below.drew ?_))
      have hn5 := hN5.size
      have hs5_0 : w1.heap.size < w5.heap.size := by omega
      have hs5_1 : w2.heap.size < w5.heap.size := by omega
      have hs5_2 : w3.heap.size < w5.heap.size := by omega
      have kb5_0_0 : w5.cell? ⟨w1.heap.size, 0, none⟩ = some (.int .i64 p) := by go_simp
      have kb5_0_1 : w5.cell? ⟨w1.heap.size, 1, none⟩ = some (.int .i64 q) := by go_simp
      have kb5_1_0 : w5.cell? ⟨w2.heap.size, 0, none⟩ = some (.int .i64 0) := by go_simp
      have kb5_1_1 : w5.cell? ⟨w2.heap.size, 1, none⟩ = some (.int .i64 0) := by go_simp
      have kb5_1_2 : w5.cell? ⟨w2.heap.size, 2, none⟩ = some (.slice none 0 0) := by go_simp
      have kb5_2_0 : w5.cell? ⟨w3.heap.size, 0, none⟩ = some (.int .i64 0) := by go_simp
      have kb5_2_1 : w5.cell? ⟨w3.heap.size, 1, none⟩ = some (.int .i64 0) := by go_simp
      have kb5_2_2 : w5.cell? ⟨w3.heap.size, 2, none⟩ = some (.slice none 0 0) := by go_simp
      have HB5 := Lib.hid (HB4.out.trans (hN5.mono (by first | exact Nat.le_refl _ | omega)))
      clear hc5 hf5 hb5 hN5 hz5
      go_wp2_with fail
      refine (implPairOk_no p q _ hp).mono ?_
      rintro e w6 ⟨rfl, hb6⟩
      obtain ⟨hc6, hf6⟩ := bcell hb6
      have hz6 := hb6.size
      try simp at hz6
      have hN6 : Below w5.heap.size w5 w6 := by
        refine Below.trans ?_ (hb6.mono (by first | omega | (simp <;> omega)))
        (repeat (first | exact Below.refl _ _ | refine Below.setCell ?_ (by first | omega | (simp <;> omega)) _ | refine Below.alloc ?_ (by first | omega | (simp <;> omega)) _ | refine Below.drew ?_))
      have hn6 := hN6.size
      have hs6_0 : w1.heap.size < w6.heap.size := by omega
      have hs6_1 : w2.heap.size < w6.heap.size := by omega
      have hs6_2 : w3.heap.size < w6.heap.size := by omega
      have kb6_0_0 : w6.cell? ⟨w1.heap.size, 0, none⟩ = some (.int .i64 p) := by go_simp
      have kb6_0_1 : w6.cell? ⟨w1.heap.size, 1, none⟩ = some (.int .i64 q) := by go_simp
      have kb6_1_0 : w6.cell? ⟨w2.heap.size, 0, none⟩ = some (.int .i64 0) := by go_simp
      have kb6_1_1 : w6.cell? ⟨w2.heap.size, 1, none⟩ = some (.int .i64 0) := by go_simp
      have kb6_1_2 : w6.cell? ⟨w2.heap.size, 2, none⟩ = some (.slice none 0 0) := by go_simp
      have kb6_2_0 : w6.cell? ⟨w3.heap.size, 0, none⟩ = some (.int .i64 0) := by go_simp
      have kb6_2_1 : w6.cell? ⟨w3.heap.size, 1, none⟩ = some (.int .i64 0) := by go_simp
      have kb6_2_2 : w6.cell? ⟨w3.heap.size, 2, none⟩ = some (.slice none 0 0) := by go_simp
      have HB6 := Lib.hid (HB5.out.trans (hN6.mono (by first | exact Nat.le_refl _ | omega)))
      clear hc6 hf6 hb6 hN6 hz6
      go_wp2_with fail
      refine (alive_any _).mono ?_
      rintro e w7 ⟨rfl, hb7⟩
      obtain ⟨hc7, hf7⟩ := bcell hb7
      have hz7 := hb7.size
      try simp at hz7
      have hN7 : Below w6.heap.size w6 w7 := by
        refine Below.trans ?_ (hb7.mono (by first | omega | (simp <;> omega)))
        (repeat (first | exact Below.refl _ _ | refine Below.setCell ?_ (by first | omega | (simp <;> omega)) _ | refine Below.alloc ?_ (by first | omega | (simp <;> omega)) _ | refine Below.drew ?_))
      have hn7 := hN7.size
      have hs7_0 : w1.heap.size < w7.heap.size := by omega
      have hs7_1 : w2.heap.size < w7.heap.size := by omega
      have hs7_2 : w3.heap.size < w7.heap.size := by omega
      have kb7_0_0 : w7.cell? ⟨w1.heap.size, 0, none⟩ = some (.int .i64 p) := by go_simp
      have kb7_0_1 : w7.cell? ⟨w1.heap.size, 1, none⟩ = some (.int .i64 q) := by go_simp
      have kb7_1_0 : w7.cell? ⟨w2.heap.size, 0, none⟩ = some (.int .i64 0) := by go_simp
      have kb7_1_1 : w7.cell? ⟨w2.heap.size, 1, none⟩ = some (.int .i64 0) := by go_simp
      have kb7_1_2 : w7.cell? ⟨w2.heap.size, 2, none⟩ = some (.slice none 0 0) := by go_simp
      have kb7_2_0 : w7.cell? ⟨w3.heap.size, 0, none⟩ = some (.int .i64 0) := by go_simp
      have kb7_2_1 : w7.cell? ⟨w3.heap.size, 1, none⟩ = some (.int .i64 0) := by go_simp
      have kb7_2_2 : w7.cell? ⟨w3.heap.size, 2, none⟩ = some (.slice none 0 0) := by go_simp
      have HB7 := Lib.hid (HB6.out.trans (hN7.mono (by first | exact Nat.le_refl _ | omega)))
      clear hc7 hf7 hb7 hN7 hz7
      go_wp2
      go_ret
      exact ⟨rfl, HB7.out⟩
end Go.Proofs.Ytigcomhhgfgmgaa
namespace Go.Proofs.Ytigcomhhgfgmgaa
open Go.RowKit
/-- Deeds at whatever is handed in. -/
def runR (d : DeskN) (xs : List DeedN) : DeskN × Nat := if deskN d = true ∧ xs.length ≤ 40 then runN d xs else (⟨(0, 0), []⟩, 0)
theorem runR_no {d : DeskN} {xs : List DeedN} (h : ¬ (deskN d = true ∧ xs.length ≤ 40)) : runR d xs = (⟨(0, 0), []⟩, 0) := if_neg h
theorem runR_yes {d : DeskN} {xs : List DeedN} (h : deskN d = true) (h2 : xs.length ≤ 40) : runR d xs = runN d xs := if_pos ⟨h, h2⟩
theorem runN_snoc (d : DeskN) (xs : List DeedN) (x : DeedN) : runN d (xs ++ [x]) = ((doN (runN d xs).1 x).1, (runN d xs).2 + if (doN (runN d xs).1 x).2 = true then 1 else 0) := by
  rw [runN_append]
  simp [runN]
theorem runN_take {d : DeskN} {xs : List DeedN} {i : Nat} {x : DeedN} (h : xs[i]? = some x) : runN d (xs.take (i + 1)) = ((doN (runN d (xs.take i)).1 x).1, (runN d (xs.take i)).2 + if (doN (runN d (xs.take i)).1 x).2 = true then 1 else 0) := by
  have hlt : i < xs.length := (List.getElem?_eq_some_iff.1 h).1
  have hx : xs[i] = x := (List.getElem?_eq_some_iff.1 h).2
  rw [List.take_succ_eq_append_getElem hlt, hx, runN_snoc]
/-- What is returned: a desk in memory of its own, and how many were done. -/
def RanS (d : DeskN) (xs : List DeedN) (w : World) (e : Ending) (w' : World) : Prop :=
  ∃ a c, e = .returned (.tuple #[.agg #[.int .i64 (runR d xs).1.now.1, .int .i64 (runR d xs).1.now.2, .slice a (runR d xs).1.past.length c], .int .i64 ((runR d xs).2 : Nat)]) ∧ IsPairs w.heap.size w'.heap.size w' (.slice a (runR d xs).1.past.length c) (runR d xs).1.past ∧ Below w.heap.size w w'
end Go.Proofs.Ytigcomhhgfgmgaa
namespace Go.Proofs.Ytigcomhhgfgmgaa
open Go.RowKit
set_option maxHeartbeats 2000000 in
theorem fnExactDeskOk_walk (p q : Int) (u : Value) (L : List (Int × Int)) (w : World) (h : SeesPairs w u L) (hl : L.length ≤ maxLen) :
    Calls Try.prog 7 #[.agg #[.int .i64 p, .int .i64 q, u]] w fun e w' => e = .returned (.bool true) ∧ Below w.heap.size w w' := by
  obtain ⟨a, cap, rfl, _⟩ := id h
  rcases Nat.lt_or_ge 1048576 L.length with hbig | hsm
  · go_enter Try.func7, Try.ntmps7
    go_wp2_with fail
    refine (szDesk_big p q a L.length cap 1048576 (by omega) hbig hl _).mono ?_
    rintro e w1 ⟨rfl, hb1⟩
    go_wp2
    go_ret
    exact ⟨rfl, by (repeat (first | exact Below.refl _ _ | refine Below.setCell ?_ (by first | omega | (simp <;> omega)) _ | refine Below.alloc ?_ (by first | omega | (simp <;> omega)) _ | refine Below.drew ?_ | refine Below.trans ?_ (Below.mono (by assumption) (by first | omega | (simp <;> omega))) | refine Below.grown ?_ (by assumption) (by first | omega | (simp <;> omega)) (fun k e => by cases e; first | omega | (simp <;> omega))))⟩
  · have hn : L.length ≤ 1048600 := by omega
    have h3 : ¬ (((1048576 - L.length : Nat) : Int) < 0) := by omega
    have H := Lib.hid h
    clear h
    go_enter Try.func7, Try.ntmps7
    go_wp2_with fail
    refine (szDesk_fit p q a L.length cap 1048576 (by omega) hsm _).mono ?_
    rintro e w1 ⟨rfl, hb1⟩
    obtain ⟨hc1, hf1⟩ := bcell hb1
    have hz1 := hb1.size
    try simp at hz1
    have hzz1 : w.heap.size < w1.heap.size := by omega
    have HB1 := Lib.hid (show Below w.heap.size w w1 by (repeat (first | exact Below.refl _ _ | refine Below.setCell ?_ (by first | omega | (simp <;> omega)) _ | refine Below.alloc ?_ (by first | omega | (simp <;> omega)) _ | refine Below.drew ?_ | refine Below.trans ?_ (Below.mono (by assumption) (by first | omega | (simp <;> omega))) | refine Below.grown ?_ (by assumption) (by first | omega | (simp <;> omega)) (fun k e => by cases e; first | omega | (simp <;> omega)))))
    go_wp2_with fail
    refine (toDesk_any p q L _ _ (H.out.below HB1.out) hn).mono ?_
    rintro e w2 ⟨a2, c2, rfl, hI2, hb2⟩
    obtain ⟨hc2, hf2⟩ := bcell hb2
    have hz2 := hb2.size
    try simp at hz2
    have hzz2 : w.heap.size < w2.heap.size := by omega
    dsimp only at hI2 ⊢
    go_wp2_with fail
    refine (specDeskOk_any _ _ p q L _ _ hI2 hn).mono ?_
    rintro e w3 ⟨rfl, hb3⟩
    obtain ⟨hc3, hf3⟩ := bcell hb3
    have hz3 := hb3.size
    try simp at hz3
    have hzz3 : w.heap.size < w3.heap.size := by omega
    have HB3 := Lib.hid (show Below w.heap.size w w3 by (repeat (first | exact Below.refl _ _ | refine Below.setCell ?_ (by first | omega | (simp <;> omega)) _ | refine Below.alloc ?_ (by first | omega | (simp <;> omega)) _ | refine Below.drew ?_ | refine Below.trans ?_ (Below.mono (by assumption) (by first | omega | (simp <;> omega))) | refine Below.grown ?_ (by assumption) (by first | omega | (simp <;> omega)) (fun k e => by cases e; first | omega | (simp <;> omega)))))
    go_wp2_with fail
    refine (toDesk_any p q L _ _ (H.out.below HB3.out) hn).mono ?_
    rintro e w4 ⟨a4, c4, rfl, hI4, hb4⟩
    obtain ⟨hc4, hf4⟩ := bcell hb4
    have hz4 := hb4.size
    try simp at hz4
    have hzz4 : w.heap.size < w4.heap.size := by omega
    dsimp only at hI4 ⊢
    go_wp2_with fail
    refine (implDeskOk_any _ _ p q L _ _ (hI4.below (show Below w4.heap.size w4 _ by (repeat (first | exact Below.refl _ _ | refine Below.setCell ?_ (by first | omega | (simp <;> omega)) _ | refine Below.alloc ?_ (by first | omega | (simp <;> omega)) _ | refine Below.drew ?_ | refine Below.trans ?_ (Below.mono (by assumption) (by first | omega | (simp <;> omega))) | refine Below.grown ?_ (by assumption) (by first | omega | (simp <;> omega)) (fun k e => by cases e; first | omega | (simp <;> omega))))) (Nat.le_refl _)) hn).mono ?_
    rintro e w5 ⟨rfl, hb5⟩
    obtain ⟨hc5, hf5⟩ := bcell hb5
    have hz5 := hb5.size
    try simp at hz5
    have hzz5 : w.heap.size < w5.heap.size := by omega
    have hzz6 : w4.heap.size < w5.heap.size := by omega
    have HB5 := Lib.hid (show Below w.heap.size w w5 by (repeat (first | exact Below.refl _ _ | refine Below.setCell ?_ (by first | omega | (simp <;> omega)) _ | refine Below.alloc ?_ (by first | omega | (simp <;> omega)) _ | refine Below.drew ?_ | refine Below.trans ?_ (Below.mono (by assumption) (by first | omega | (simp <;> omega))) | refine Below.grown ?_ (by assumption) (by first | omega | (simp <;> omega)) (fun k e => by cases e; first | omega | (simp <;> omega)))))
    have HI5 := Lib.hid (hI4.below (show Below w4.heap.size w4 w5 from ((Below.refl _ _).alloc (Nat.le_refl _) _).trans (hb5.mono (by simp))) (Nat.le_refl _))
    have k0 : w5.cell? ⟨w4.heap.size, 0, none⟩ = some (.int .i64 p) := by go_simp
    have k1 : w5.cell? ⟨w4.heap.size, 1, none⟩ = some (.int .i64 q) := by go_simp
    have k2 : w5.cell? ⟨w4.heap.size, 2, none⟩ = some (.slice a4 L.length c4) := by go_simp
    have m0 : w5.cell? ⟨w.heap.size, 0, none⟩ = some (.int .i64 p) := by go_simp
    have m1 : w5.cell? ⟨w.heap.size, 1, none⟩ = some (.int .i64 q) := by go_simp
    have m2 : w5.cell? ⟨w.heap.size, 2, none⟩ = some (.slice a L.length cap) := by go_simp
    clear hc1 hf1 hc2 hf2 hc3 hf3 hc4 hf4 hc5 hf5 hb1 hb2 hb3 hb4 hb5 hI2 hI4
    go_wp2_with fail
    go_region_with (first | (go_at_call 29; refine (toDesk_any p q L _ _ (H.out.below (show Below w.heap.size w _ from HB5.out.drew)) hn).mono ?_; rintro e w6 ⟨a6, c6, rfl, hI6, hb6⟩; (have k0' := cell_belowP hb6 k0); (have k1' := cell_belowP hb6 k1); (have k2' := cell_belowP hb6 k2); have hz6 := hb6.size; (try simp at hz6); (dsimp only at hI6 ⊢)) | (go_at_call 30; refine (eqDesk_same _ _ _ _ p q _ _ L _ (HI5.out.below (show Below w5.heap.size w5 _ from (Below.refl _ _).drew.trans hb6) (Nat.le_of_lt hzz6)) hI6 hn).mono ?_; rintro e w7 ⟨rfl, hb7⟩) | fail)
    all_goals (go_wp2; go_ret; exact ⟨rfl, HB5.out.trans (Below.mono (((Below.refl w5.heap.size w5).drew.trans hb6).trans (hb7.mono hz6)) (Nat.le_of_lt hzz5))⟩)
end Go.Proofs.Ytigcomhhgfgmgaa
