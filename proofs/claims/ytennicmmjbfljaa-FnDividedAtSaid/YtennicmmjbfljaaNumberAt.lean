/- numberAt of the program: it ranges over the row and stops at the place. -/
import Derived.Test.YtennicmmjbfljaaIter
import Derived.Test.YtennicmmjbfljaaSpecAt
namespace Go.Proofs.Ytennicmmjbfljaa
open Go.RowKit Go.Shelf
attribute [local go_sem] Oper.semAt_some
theorem set_other {W : World} {B o b i : Nat} {v : Value} (h : b ≠ B) : (W.setCell ⟨B, o, none⟩ v).cell? ⟨b, i, none⟩ = W.cell? ⟨b, i, none⟩ :=
  World.cell?_setCell_other W ⟨B, o, none⟩ ⟨b, i, none⟩ v (fun e => h (by injection e with e _ _; exact e.symm))
theorem set_same {W : World} {B o : Nat} {u v : Value} (h : W.cell? ⟨B, o, none⟩ = some u) : (W.setCell ⟨B, o, none⟩ v).cell? ⟨B, o, none⟩ = some v := World.cell?_setCell_same' _ _ _ (by rw [h]; rfl)
theorem set_frozen {W : World} {a b : Addr} {v : Value} (h : W.frozen? b = false) : (W.setCell a v).frozen? b = false := by rw [World.frozen?_setCell]; exact h
theorem placeOk_yes (n : Int) (w : World) (h : placeB n = true) : Calls Try.prog 59 #[.int .i64 n] w fun e w' => e = .returned (.bool true) ∧ w = w' := by have := placeOk_any n w; rw [h] at this; exact this
theorem placeOk_no (n : Int) (w : World) (h : placeB n = false) : Calls Try.prog 59 #[.int .i64 n] w fun e w' => e = .returned (.bool false) ∧ w = w' := by have := placeOk_any n w; rw [h] at this; exact this
set_option maxHeartbeats 400000 in
theorem rowFrom_any (p q a b : Int) (w : World) :
    Calls Try.prog 60 #[pr p q, .int .i64 a, .int .i64 b] w fun e w' =>
      e = .returned (.func (.func 64) #[] #[.pointer (some ⟨w.heap.size + 1, 0, none⟩), .pointer (some ⟨w.heap.size + 1 + 1, 0, none⟩), .pointer (some ⟨w.heap.size, 0, none⟩)]) ∧
      w' = ((w.alloc (.cells #[.int .i64 p, .int .i64 q] 24)).alloc (.cells #[.int .i64 a] 3)).alloc (.cells #[.int .i64 b] 3) := by
  have hmf : ∀ (fn : Fn) (first cap : Array Value) (w : World), (Instr.makeFunc fn first cap).run Try.prog w = .ok (.func fn first cap) w := fun _ _ _ _ => rfl
  go_enter Try.func60, Try.ntmps60
  go_wp2
  go_ret
  exact ⟨rfl, rfl⟩
set_option maxHeartbeats 4000000 in
theorem numberAt_yes (p q a b : Int) (m : Nat) (w : World) (hp : pairB p q = true) (hm : m ≤ 20) (h5 : -4 ≤ a) (h6 : a ≤ 4) (h7 : -4 ≤ b) (h8 : b ≤ 4) :
    Calls Try.prog 48 #[pr p q, .int .i64 a, .int .i64 b, .int .i64 m] w fun e w' => e = .returned (.tuple #[.int .i64 (row p q a b m), .bool true]) ∧ Below w.heap.size w w' := by
  obtain ⟨⟨h1, h2⟩, h3, h4⟩ := pairB_true hp
  have HP := Lib.hid hp
  have HN := Lib.hid (placeB_mk (n := m) (by omega) (by omega))
  clear hp
  refine (callsIn_wide (n := 9)).1 ?_
  refine callsIn_of_wp_marks Try.func48 rfl trivial ?_ rfl
  simp only [Try.ntmps48, List.size_toArray, List.length_cons, List.length_nil, Nat.reduceAdd, Nat.reduceSub, Array.replicate_succ, Array.replicate_zero, List.push_toArray, List.append_toArray, List.nil_append, List.cons_append]
  gi_wp2_with fail
  refine ⟨trivial, (callsIn_wide.2 (implPairOk_yes p q _ HP.out)).mono ?_⟩
  rintro e w1 ⟨rfl, hh1⟩
  obtain ⟨hc1, hf1⟩ := bcell hh1
  have hz1 := hh1.size
  try simp only [World.size_alloc] at hz1
  have hz1_0 : w.heap.size < w1.heap.size := by omega
  have hz1_1 : w.heap.size + 1 < w1.heap.size := by omega
  have hz1_2 : w.heap.size + 2 < w1.heap.size := by omega
  have hz1_3 : w.heap.size + 3 < w1.heap.size := by omega
  have kb1_0_0 : w1.cell? ⟨w.heap.size, 0, none⟩ = some (.int .i64 p) := by go_simp
  have kf1_0_0 : w1.frozen? ⟨w.heap.size, 0, none⟩ = false := by go_simp
  have kb1_0_1 : w1.cell? ⟨w.heap.size, 1, none⟩ = some (.int .i64 q) := by go_simp
  have kf1_0_1 : w1.frozen? ⟨w.heap.size, 1, none⟩ = false := by go_simp
  have kb1_1_0 : w1.cell? ⟨w.heap.size + 1, 0, none⟩ = some (.int .i64 m) := by go_simp
  have kf1_1_0 : w1.frozen? ⟨w.heap.size + 1, 0, none⟩ = false := by go_simp
  have kb1_2_0 : w1.cell? ⟨w.heap.size + 1 + 1, 0, none⟩ = some (.int .i64 0) := by go_simp
  have kf1_2_0 : w1.frozen? ⟨w.heap.size + 1 + 1, 0, none⟩ = false := by go_simp
  have kb1_3_0 : w1.cell? ⟨w.heap.size + 1 + 1 + 1, 0, none⟩ = some (.bool false) := by go_simp
  have kf1_3_0 : w1.frozen? ⟨w.heap.size + 1 + 1 + 1, 0, none⟩ = false := by go_simp
  clear hc1 hf1
  gi_wp2_with fail
  refine ⟨trivial, (callsIn_wide.2 (placeOk_yes _ _ HN.out)).mono ?_⟩
  rintro e w2 ⟨rfl, rfl⟩
  gi_wp2_with fail
  refine ⟨trivial, (callsIn_wide.2 (rowFrom_any p q a b _)).mono ?_⟩
  rintro e w3 ⟨rfl, rfl⟩
  gi_wp2_with fail
  refine wpIn_rangeFunc_endless (P := Try.prog) rfl (by omega) (gf := 64) (lb := #[.pointer (some ⟨w1.heap.size + 1 + 1, 0, none⟩), .pointer (some ⟨w1.heap.size + 1 + 1 + 1, 0, none⟩), .pointer (some ⟨w1.heap.size + 1, 0, none⟩)]) rfl trivial (enters_of Try.func64 (by kernel_rfl) rfl)
    (rowFrom_endless 8 (by omega) p q a b (w1.heap.size + 1) (m + 1) _ h1 h2 h3 h4 h5 h6 h7 h8 (by omega)) (Below.refl _ _) (fun _ => rfl) (by omega)
    (fun k W => k ≤ m ∧ W.cell? ⟨w.heap.size + 1, 0, none⟩ = some (.int .i64 m) ∧ W.cell? ⟨w1.heap.size, 0, none⟩ = some (.int .i64 k) ∧ W.frozen? ⟨w1.heap.size, 0, none⟩ = false ∧
      W.cell? ⟨w.heap.size + 1 + 1, 0, none⟩ = some (.int .i64 0) ∧ W.frozen? ⟨w.heap.size + 1 + 1, 0, none⟩ = false ∧ W.cell? ⟨w.heap.size + 1 + 1 + 1, 0, none⟩ = some (.bool false) ∧ W.frozen? ⟨w.heap.size + 1 + 1 + 1, 0, none⟩ = false ∧
      RowBoxes (w1.heap.size + 1) p q a b W ∧ Below w.heap.size w W)
    (fun c k W => c = .ret ∧ W.cell? ⟨w.heap.size + 1 + 1, 0, none⟩ = some (.int .i64 (row p q a b m)) ∧ W.cell? ⟨w.heap.size + 1 + 1 + 1, 0, none⟩ = some (.bool true) ∧ Below w.heap.size w W)
    ?own ?ownX (fun k V h => h.2.2.2.2.2.2.2.2.1) ?start (fun k => { tmps := #[pr p q, .int .i64 a, .int .i64 b, .int .i64 m, .pointer (some ⟨w.heap.size, 0, none⟩), undef, undef, .pointer (some ⟨w.heap.size + 1, 0, none⟩), .pointer (some ⟨w.heap.size + 1 + 1, 0, none⟩), .pointer (some ⟨w.heap.size + 1 + 1 + 1, 0, none⟩), .pointer (some ⟨w1.heap.size, 0, none⟩), .int .i64 (row p q a b k), .agg #[.int .i64 p, .int .i64 q], .bool true, .bool false, .bool false, .int .i64 m, .bool true, .bool false, .bool false, .agg #[.int .i64 p, .int .i64 q], .int .i64 a, .int .i64 b, .func (.func 64) #[] #[.pointer (some ⟨w1.heap.size + 1 + 1, 0, none⟩), .pointer (some ⟨w1.heap.size + 1 + 1 + 1, 0, none⟩), .pointer (some ⟨w1.heap.size + 1, 0, none⟩)], .int .i64 (row p q a b k), undef, undef, undef, undef, undef, undef], defers := [] }) ?assign ?body ?stop
  case own =>
    rintro k A V row ⟨x0, x1, x2, x3, x4, x5, x6, x7, ⟨y1, y2, y3, y4⟩, x8⟩ hg hr
    have hr' := fun r e => (hr r e).2
    exact ⟨x0, cell_kept x1 hg hr', cell_kept x2 hg hr', (frozen_kept x2 hg hr').trans x3, cell_kept x4 hg hr', (frozen_kept x4 hg hr').trans x5, cell_kept x6 hg hr', (frozen_kept x6 hg hr').trans x7,
      ⟨cell_kept y1 hg hr', cell_kept y2 hg hr', cell_kept y3 hg hr', cell_kept y4 hg hr'⟩, x8.grown hg x8.size (fun k e => by have := (hr k e).1; simp at this; omega)⟩
  case ownX =>
    rintro c k A V row ⟨x0, x1, x2, x3⟩ hg hr
    have hr' := fun r e => (hr r e).2
    exact ⟨x0, cell_kept x1 hg hr', cell_kept x2 hg hr', x3.grown hg x3.size (fun k e => by have := (hr k e).1; simp at this; omega)⟩
  case start =>
    have hB : Below w.heap.size w w1 := by
      (repeat (first | exact Below.refl _ _ | refine Below.setCell ?_ (by first | omega | (simp <;> omega)) _ | refine Below.alloc ?_ (by first | omega | (simp <;> omega)) _ | refine Below.drew ?_ | refine Below.trans ?_ (Below.mono (by assumption) (by first | omega | (simp <;> omega))) | refine Below.grown ?_ (by assumption) (by first | omega | (simp <;> omega)) (fun k e => by cases e; first | omega | (simp <;> omega))))
    have hL : Below w1.heap.size w1 ((((w1.alloc (.cells #[.int .i64 0] 3)).alloc (.cells #[.int .i64 p, .int .i64 q] 24)).alloc (.cells #[.int .i64 a] 3)).alloc (.cells #[.int .i64 b] 3)) := by
      (repeat (first | exact Below.refl _ _ | refine Below.setCell ?_ (by first | omega | (simp <;> omega)) _ | refine Below.alloc ?_ (by first | omega | (simp <;> omega)) _ | refine Below.drew ?_ | refine Below.trans ?_ (Below.mono (by assumption) (by first | omega | (simp <;> omega))) | refine Below.grown ?_ (by assumption) (by first | omega | (simp <;> omega)) (fun k e => by cases e; first | omega | (simp <;> omega))))
    refine ⟨Nat.zero_le _, (hL.cell (p := ⟨w.heap.size + 1, 0, none⟩) hz1_1).trans kb1_1_0, by go_simp, by go_simp, (hL.cell (p := ⟨w.heap.size + 1 + 1, 0, none⟩) hz1_2).trans kb1_2_0, (hL.frozen (p := ⟨w.heap.size + 1 + 1, 0, none⟩) hz1_2).trans kf1_2_0,
      (hL.cell (p := ⟨w.heap.size + 1 + 1 + 1, 0, none⟩) hz1_3).trans kb1_3_0, (hL.frozen (p := ⟨w.heap.size + 1 + 1 + 1, 0, none⟩) hz1_3).trans kf1_3_0, ⟨by go_simp, by go_simp, by go_simp, by go_simp⟩, ?_⟩
    exact hB.trans (hL.mono (by omega))
  case assign =>
    intro l k W K hK
    gi_wp2
    exact hK
  case body =>
    rintro l k W hk ⟨x0, x1, x2, x3, x4, x5, x6, x7, ⟨y1, y2, y3, y4⟩, x8⟩
    by_cases hkm : k = m
    · subst hkm
      gi_wp2
      refine ⟨(KeepsOthers.setCell _ _ _).trans (KeepsOthers.setCell _ _ _), rfl, (set_other (by omega)).trans (set_same x4), set_same ((set_other (by omega)).trans x6), (x8.setCell (by show w.heap.size ≤ w.heap.size + 1 + 1; omega) _).setCell (by show w.heap.size ≤ w.heap.size + 1 + 1 + 1; omega) _⟩
    · have hne : ((k : Int) == (m : Int)) = false := by simp; omega
      gi_wp2
      refine ⟨KeepsOthers.setCell _ _ _, by omega, by omega, (set_other (by omega)).trans x1, (set_same x2).trans (congrArg (fun i => some (Value.int .i64 i)) (by omega)), set_frozen x3, (set_other (by omega)).trans x4, set_frozen x5, (set_other (by omega)).trans x6, set_frozen x7,
        ⟨(set_other (by omega)).trans y1, (set_other (by omega)).trans y2, (set_other (by omega)).trans y3, (set_other (by omega)).trans y4⟩, x8.setCell (by show w.heap.size ≤ w1.heap.size; omega) _⟩
  case stop =>
    rintro D k c W hD hk ⟨rfl, x1, x2, x3⟩ hK
    gi_wp2
    refine ⟨by simp, .inl ⟨_, _, rfl, run_takeDeferred hK, ?_⟩⟩
    have z1 := cell_kept x1 (grownBy_putObj' W D (.deferred none)) (fun r e => by cases e; exact ⟨_, hK, rfl⟩)
    have z2 := cell_kept x2 (grownBy_putObj' W D (.deferred none)) (fun r e => by cases e; exact ⟨_, hK, rfl⟩)
    have hD' : w.heap.size ≤ D := by simp at hD; omega
    exact ⟨_, by simp [results, Try.results48, go_sem, z1, z2], rfl, x3.grown (grownBy_putObj' W D (.deferred none)) x3.size (fun k e => by cases e; exact hD')⟩
end Go.Proofs.Ytennicmmjbfljaa
