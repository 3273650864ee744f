/- leftAt of the program: what is left of two numbers beside each other, by the bits of the place. -/
import Derived.Test.YtgcpmgddlaeccaaLeftBits
import Derived.Test.YtgcpmgddlaeccaaLeftParts
namespace Go.Proofs.Ytgcpmgddlaeccaa
open Go.RowKit Go.Shelf
attribute [local go_sem] Oper.semAt_some
theorem keepsOthers_below {W W' : World} (h : Below W.heap.size W W') : KeepsOthers W W' := ⟨h.size, fun j _ hj _ => (h.block j (Array.getElem?_eq_some_iff.1 hj).1).trans hj⟩
theorem cell_below {W W' : World} {a : Addr} {v : Value} (hb : Below W.heap.size W W') (h : W.cell? a = some v) : W'.cell? a = some v := (hb.cell (p := a) (World.block_lt_of_cell? W a h)).trans h
theorem frozen_below {W W' : World} {a : Addr} {v : Value} (hb : Below W.heap.size W W') (h : W.cell? a = some v) (hf : W.frozen? a = false) : W'.frozen? a = false := (hb.frozen (p := a) (World.block_lt_of_cell? W a h)).trans hf
/-- The place that the bits tell when j of them have come. -/
def placeBy (k j : Nat) : Nat := k / 2 ^ (Lib.bitLen k - j)
theorem placeBy_zero (k : Nat) (hk : k ≤ 1000000000) : placeBy k 0 = 0 := Nat.div_eq_of_lt (bitLen_lt k hk)
theorem placeBy_all (k : Nat) : placeBy k (Lib.bitLen k) = k := by simp [placeBy]
theorem placeBy_succ (k j : Nat) (hj : j < Lib.bitLen k) : placeBy k (j + 1) = 2 * placeBy k j + (if bitB k j = true then 1 else 0) := by
  obtain ⟨g, hg⟩ : ∃ g, Lib.bitLen k = j + (g + 1) := ⟨Lib.bitLen k - j - 1, by omega⟩
  simp only [placeBy, bitB, hg, show j + (g + 1) - (j + 1) = g by omega, show j + (g + 1) - j = g + 1 by omega, show j + (g + 1) - 1 - j = g by omega, decide_eq_true_iff]
  rw [Nat.pow_succ, ← Nat.div_div_eq_div_mul]
  generalize k / 2 ^ g = z
  split <;> omega
theorem far_even' (p q m : Int) (k : Nat) : (row p q 0 1 (k + 1) % m * (row p q 0 1 (k + 1) % m) - q * (row p q 0 1 k % m) * (row p q 0 1 k % m)) % m = row p q 0 1 (2 * k + 1) % m := by
  refine Eqm.left ?_
  rw [show 2 * k + 1 = k + 1 + k by omega, ← row_add]
  exact ((eqm_left m _).mul (eqm_left m _)).sub (((Eqm.refl m q).mul (eqm_left m _)).mul (eqm_left m _))
/-- What lies in the function's boxes: the pair, the number, what it will return, the place. -/
def LeftBoxes (B S : Nat) (p q m : Int) (k : Nat) (W : World) : Prop :=
  (W.cell? ⟨B, 0, none⟩ = some (.int .i64 p) ∧ W.cell? ⟨B, 1, none⟩ = some (.int .i64 q) ∧ W.cell? ⟨B + 1, 0, none⟩ = some (.int .i64 m)) ∧
  (W.cell? ⟨B + 1 + 1, 0, none⟩ = some (.int .i64 0) ∧ W.cell? ⟨B + 1 + 1, 1, none⟩ = some (.int .i64 0) ∧ W.frozen? ⟨B + 1 + 1, 0, none⟩ = false ∧ W.frozen? ⟨B + 1 + 1, 1, none⟩ = false) ∧
  W.cell? ⟨S + 1, 0, none⟩ = some (.int .i64 k)
/-- The state of two numbers. -/
def StateIs (S : Nat) (x y : Int) (W : World) : Prop :=
  W.cell? ⟨S, 0, none⟩ = some (.int .i64 x) ∧ W.cell? ⟨S, 1, none⟩ = some (.int .i64 y) ∧ W.frozen? ⟨S, 0, none⟩ = false ∧ W.frozen? ⟨S, 1, none⟩ = false
theorem LeftBoxes.below {B S : Nat} {p q m : Int} {k : Nat} {W W' : World} (h : LeftBoxes B S p q m k W) (hb : Below W.heap.size W W') : LeftBoxes B S p q m k W' := by
  obtain ⟨⟨x1, x2, x3⟩, ⟨x4, x5, x6, x7⟩, x8⟩ := h
  exact ⟨⟨cell_below hb x1, cell_below hb x2, cell_below hb x3⟩, ⟨cell_below hb x4, cell_below hb x5, frozen_below hb x4 x6, frozen_below hb x5 x7⟩, cell_below hb x8⟩
theorem LeftBoxes.set {B S : Nat} {p q m : Int} {k : Nat} {W : World} (h : LeftBoxes B S p q m k W) (hS : B + 1 + 1 < S) (o : Nat) (v : Value) : LeftBoxes B S p q m k (W.setCell ⟨S, o, none⟩ v) := by
  obtain ⟨⟨x1, x2, x3⟩, ⟨x4, x5, x6, x7⟩, x8⟩ := h
  exact ⟨⟨(set_other (by omega)).trans x1, (set_other (by omega)).trans x2, (set_other (by omega)).trans x3⟩, ⟨(set_other (by omega)).trans x4, (set_other (by omega)).trans x5, set_frozen x6, set_frozen x7⟩, (set_other (by omega)).trans x8⟩
theorem LeftBoxes.kept {B S : Nat} {p q m : Int} {k : Nat} {A V : World} {row : Option Nat} (h : LeftBoxes B S p q m k A) (hg : A.grownBy V row) (hr : ∀ r, row = some r → ∃ o : Obj, A.heap[r]? = some o ∧ o.isCells = false) : LeftBoxes B S p q m k V := by
  obtain ⟨⟨x1, x2, x3⟩, ⟨x4, x5, x6, x7⟩, x8⟩ := h
  exact ⟨⟨cell_kept x1 hg hr, cell_kept x2 hg hr, cell_kept x3 hg hr⟩, ⟨cell_kept x4 hg hr, cell_kept x5 hg hr, (frozen_kept x4 hg hr).trans x6, (frozen_kept x5 hg hr).trans x7⟩, cell_kept x8 hg hr⟩
theorem StateIs.below {S : Nat} {x y : Int} {W W' : World} (h : StateIs S x y W) (hb : Below W.heap.size W W') : StateIs S x y W' :=
  ⟨cell_below hb h.1, cell_below hb h.2.1, frozen_below hb h.1 h.2.2.1, frozen_below hb h.2.1 h.2.2.2⟩
theorem StateIs.set {S : Nat} {x y : Int} {W : World} (h : StateIs S x y W) (x' y' : Int) : StateIs S x' y' ((W.setCell ⟨S, 0, none⟩ (.int .i64 x')).setCell ⟨S, 1, none⟩ (.int .i64 y')) :=
  ⟨(World.cell?_setCell_other _ ⟨S, 1, none⟩ ⟨S, 0, none⟩ _ (fun e => by injection e; omega)).trans (set_same h.1), set_same ((World.cell?_setCell_other _ ⟨S, 0, none⟩ ⟨S, 1, none⟩ _ (fun e => by injection e; omega)).trans h.2.1), set_frozen (set_frozen h.2.2.1), set_frozen (set_frozen h.2.2.2)⟩
theorem StateIs.kept {S : Nat} {x y : Int} {A V : World} {row : Option Nat} (h : StateIs S x y A) (hg : A.grownBy V row) (hr : ∀ r, row = some r → ∃ o : Obj, A.heap[r]? = some o ∧ o.isCells = false) : StateIs S x y V :=
  ⟨cell_kept h.1 hg hr, cell_kept h.2.1 hg hr, (frozen_kept h.1 hg hr).trans h.2.2.1, (frozen_kept h.2.1 hg hr).trans h.2.2.2⟩
set_option maxRecDepth 100000 in
set_option maxHeartbeats 4000000 in
theorem leftAt_at (p q m : Int) (k : Nat) (w : World) (hp : pairB p q = true) (h1 : 1 ≤ m) (h2 : m ≤ 10000) (hk : k ≤ 1000000000) :
    Calls Try.prog 39 #[pr p q, .int .i64 k, .int .i64 m] w fun e w' => e = .returned (pr (row p q 0 1 k % m) (row p q 0 1 (k + 1) % m)) ∧ Below w.heap.size w w' := by
  obtain ⟨⟨r1, r2⟩, r3, r4⟩ := pairB_true hp
  have HP := Lib.hid hp
  clear hp
  refine (callsIn_wide (n := 9)).1 ?_
  refine callsIn_of_wp_marks Try.func39 rfl trivial ?_ rfl
  simp only [Try.ntmps39, List.size_toArray, List.length_cons, List.length_nil, Nat.reduceAdd, Nat.reduceSub, Array.replicate_succ, Array.replicate_zero, List.push_toArray, List.append_toArray, List.nil_append, List.cons_append]
  gi_wp2_with fail
  refine ⟨trivial, (callsIn_wide.2 (leftAtStart_at m _ h1 h2)).mono ?_⟩
  rintro e w1 ⟨rfl, hh1⟩
  obtain ⟨hc1, hf1⟩ := bcell hh1
  have hz1 := hh1.size
  try simp only [World.size_alloc] at hz1
  have hz1_0 : w.heap.size < w1.heap.size := by omega
  have hz1_1 : w.heap.size + 1 < w1.heap.size := by omega
  have hz1_2 : w.heap.size + 1 + 1 < w1.heap.size := by omega
  have kb1_0_0 : w1.cell? ⟨w.heap.size, 0, none⟩ = some (.int .i64 p) := by go_simp
  have kf1_0_0 : w1.frozen? ⟨w.heap.size, 0, none⟩ = false := by go_simp
  have kb1_0_1 : w1.cell? ⟨w.heap.size, 1, none⟩ = some (.int .i64 q) := by go_simp
  have kf1_0_1 : w1.frozen? ⟨w.heap.size, 1, none⟩ = false := by go_simp
  have kb1_1_0 : w1.cell? ⟨w.heap.size + 1, 0, none⟩ = some (.int .i64 m) := by go_simp
  have kf1_1_0 : w1.frozen? ⟨w.heap.size + 1, 0, none⟩ = false := by go_simp
  have kb1_2_0 : w1.cell? ⟨w.heap.size + 1 + 1, 0, none⟩ = some (.int .i64 0) := by go_simp
  have kf1_2_0 : w1.frozen? ⟨w.heap.size + 1 + 1, 0, none⟩ = false := by go_simp
  have kb1_2_1 : w1.cell? ⟨w.heap.size + 1 + 1, 1, none⟩ = some (.int .i64 0) := by go_simp
  have kf1_2_1 : w1.frozen? ⟨w.heap.size + 1 + 1, 1, none⟩ = false := by go_simp
  clear hc1 hf1
  gi_wp2_with fail
  refine ⟨trivial, (callsIn_wide.2 (bitsOf_any _ _)).mono ?_⟩
  rintro e w2 ⟨rfl, rfl⟩
  gi_wp2_with fail
  refine wpIn_rangeFunc_counted (P := Try.prog) rfl (by omega) (gf := 56) (lb := #[.pointer (some ⟨w1.heap.size + 1, 0, none⟩)]) rfl trivial (enters_of Try.func56 (by kernel_rfl) rfl)
    (bitsOf_counted 8 (by omega) k (w1.heap.size + 1) _ hk) (Below.refl _ _) (fun _ => rfl)
    (fun j W => LeftBoxes w.heap.size w1.heap.size p q m k W ∧ StateIs w1.heap.size (row p q 0 1 (placeBy k j) % m) (row p q 0 1 (placeBy k j + 1) % m) W ∧ Below w.heap.size w W)
    (fun _ _ _ => False) ?own (fun _ _ _ _ _ h _ _ => h) (fun j V h => h.1.2.2) ?start
    (fun j => { tmps := #[pr p q, .int .i64 k, .int .i64 m, .pointer (some ⟨w.heap.size, 0, none⟩), undef, .pointer (some ⟨w.heap.size + 1, 0, none⟩), .pointer (some ⟨w.heap.size + 1 + 1, 0, none⟩), .pointer (some ⟨w1.heap.size, 0, none⟩), .bool (bitB k j), .int .i64 m, pr 0 (1 % m), .int .i64 k, .func (.func 56) #[] #[.pointer (some ⟨w1.heap.size + 1, 0, none⟩)], .bool (bitB k j), undef, undef, undef, undef, undef, undef, undef, undef, undef, undef], defers := [] })
    ?assign ?body ?done (fun _ _ _ _ _ _ h _ => h.elim)
  case own =>
    rintro j A V row ⟨x0, x1, x2⟩ hg hr
    have hr' := fun r e => (hr r e).2
    exact ⟨x0.kept hg hr', x1.kept hg hr', x2.grown hg x2.size (fun k e => by have := (hr k e).1; simp at this; omega)⟩
  case start =>
    have hB : Below w.heap.size w w1 := by
      (repeat (first | exact Below.refl _ _ | refine Below.setCell ?_ (by first | omega | (simp <;> omega)) _ | refine Below.alloc ?_ (by first | omega | (simp <;> omega)) _ | refine Below.drew ?_ | refine Below.trans ?_ (Below.mono (by assumption) (by first | omega | (simp <;> omega))) | refine Below.grown ?_ (by assumption) (by first | omega | (simp <;> omega)) (fun k e => by cases e; first | omega | (simp <;> omega))))
    have hL : Below w1.heap.size w1 ((w1.alloc (.cells #[.int .i64 0, .int .i64 (1 % m)] 52)).alloc (.cells #[.int .i64 k] 3)) := by
      (repeat (first | exact Below.refl _ _ | refine Below.setCell ?_ (by first | omega | (simp <;> omega)) _ | refine Below.alloc ?_ (by first | omega | (simp <;> omega)) _ | refine Below.drew ?_ | refine Below.trans ?_ (Below.mono (by assumption) (by first | omega | (simp <;> omega))) | refine Below.grown ?_ (by assumption) (by first | omega | (simp <;> omega)) (fun k e => by cases e; first | omega | (simp <;> omega))))
    have e0 := placeBy_zero k hk
    have z0 : row p q 0 1 0 % m = 0 := by simp [row]
    have z1 : row p q 0 1 (0 + 1) % m = 1 % m := by simp [row]
    rw [e0, z0, z1]
    refine ⟨⟨⟨cell_below hL kb1_0_0, cell_below hL kb1_0_1, cell_below hL kb1_1_0⟩, ⟨cell_below hL kb1_2_0, cell_below hL kb1_2_1, frozen_below hL kb1_2_0 kf1_2_0, frozen_below hL kb1_2_1 kf1_2_1⟩, by go_simp⟩, ⟨by go_simp, by go_simp, by go_simp, by go_simp⟩, ?_⟩
    exact hB.trans (hL.mono (by omega))
  case assign =>
    intro l j W K hK
    gi_wp2
    exact hK
  case body =>
    rintro l j W hj ⟨hbx, hst, hW⟩
    have hs := placeBy_succ k j hj
    obtain ⟨g, hg⟩ : ∃ g, placeBy k j = g := ⟨_, rfl⟩
    rw [hg] at hst hs
    clear hg
    obtain ⟨a1, a2⟩ := left_bd (row p q 0 1 g) m h1
    obtain ⟨b1, b2⟩ := left_bd (row p q 0 1 (g + 1)) m h1
    obtain ⟨d1, d2⟩ := left_bd (row p q 0 1 (2 * g)) m h1
    obtain ⟨e1, e2⟩ := left_bd (row p q 0 1 (2 * g + 1)) m h1
    have E1 := Lib.hid (far_even p q m g)
    have E2 := Lib.hid (far_even' p q m g)
    have E3 := Lib.hid (far_next p q m (2 * g))
    have HBX := Lib.hid hbx
    have HST := Lib.hid hst
    have HW := Lib.hid hW
    have HS := Lib.hid hs
    obtain ⟨⟨x1, x2, x3⟩, _, _⟩ := hbx
    obtain ⟨y1, y2, y3, y4⟩ := hst
    clear hW hs
    have hn0 : ¬ w.heap.size = w1.heap.size := by omega
    have hn1 : ¬ w.heap.size + 1 = w1.heap.size := by omega
    cases hbit : bitB k j with
    | false =>
      gi_wp2_with fail
      refine ⟨trivial, (CallsIn.inRound l (callsIn_wide.2 (doubled_at _ _ p q m r1 r2 r3 r4 h1 h2 a1 a2 b1 b2 _ _ _ _ rfl E1.out E2.out))).mono ?_⟩
      rintro e w2 ⟨rfl, hh2⟩
      have s2 := HST.out.below hh2
      obtain ⟨t1, t2, t3, t4⟩ := s2
      have s2 : StateIs w1.heap.size _ _ w2 := ⟨t1, t2, t3, t4⟩
      have q1 := cell_below hh2 x1
      have q2 := cell_below hh2 x2
      have q3 := cell_below hh2 x3
      have HH2 := Lib.hid hh2
      have S2 := Lib.hid s2
      clear hh2 s2
      gi_wp2
      refine ⟨(keepsOthers_below HH2.out).trans ((KeepsOthers.setCell _ _ _).trans (KeepsOthers.setCell _ _ _)), ((HBX.out.below HH2.out).set hz1_2 _ _).set hz1_2 _ _, ?_, ?_⟩
      · rw [HS.out, hbit]
        exact S2.out.set _ _
      · exact ((HW.out.trans (HH2.out.mono HW.out.size)).setCell (by show w.heap.size ≤ w1.heap.size; omega) _).setCell (by show w.heap.size ≤ w1.heap.size; omega) _
    | true =>
      gi_wp2_with fail
      refine ⟨trivial, (CallsIn.inRound l (callsIn_wide.2 (doubled_at _ _ p q m r1 r2 r3 r4 h1 h2 a1 a2 b1 b2 _ _ _ _ rfl E1.out E2.out))).mono ?_⟩
      rintro e w2 ⟨rfl, hh2⟩
      have s2 := HST.out.below hh2
      obtain ⟨t1, t2, t3, t4⟩ := s2
      have s2 : StateIs w1.heap.size _ _ w2 := ⟨t1, t2, t3, t4⟩
      have q1 := cell_below hh2 x1
      have q2 := cell_below hh2 x2
      have q3 := cell_below hh2 x3
      have HH2 := Lib.hid hh2
      have S2 := Lib.hid s2
      clear hh2 s2
      gi_wp2_with fail
      refine ⟨trivial, (CallsIn.inRound l (callsIn_wide.2 (goneOn_at _ _ p q m r1 r2 r3 r4 h1 h2 d1 d2 e1 e2 _ _ E3.out))).mono ?_⟩
      rintro e w3 ⟨rfl, hh3⟩
      have S3 := Lib.hid ((S2.out.set (row p q 0 1 (2 * g) % m) (row p q 0 1 (2 * g + 1) % m)).below hh3)
      obtain ⟨u1, u2, u3, u4⟩ := S3.out
      have HH3 := Lib.hid hh3
      clear hh3 t1 t2 t3 t4 q1 q2 q3
      gi_wp2
      refine ⟨(((keepsOthers_below HH2.out).trans ((KeepsOthers.setCell _ _ _).trans (KeepsOthers.setCell _ _ _))).trans (keepsOthers_below HH3.out)).trans ((KeepsOthers.setCell _ _ _).trans (KeepsOthers.setCell _ _ _)), ((((HBX.out.below HH2.out).set hz1_2 _ _).set hz1_2 _ _).below HH3.out |>.set hz1_2 _ _).set hz1_2 _ _, ?_, ?_⟩
      · rw [HS.out, hbit]
        exact S3.out.set _ _
      · have hb2 := ((HW.out.trans (HH2.out.mono HW.out.size)).setCell (p := ⟨w1.heap.size, 0, none⟩) (by show w.heap.size ≤ w1.heap.size; omega) (.int .i64 (row p q 0 1 (2 * g) % m))).setCell (p := ⟨w1.heap.size, 1, none⟩) (by show w.heap.size ≤ w1.heap.size; omega) (.int .i64 (row p q 0 1 (2 * g + 1) % m))
        exact ((hb2.trans (HH3.out.mono hb2.size)).setCell (by show w.heap.size ≤ w1.heap.size; omega) _).setCell (by show w.heap.size ≤ w1.heap.size; omega) _
  case done =>
    rintro D W hD ⟨hbx, hst, hW⟩ hK
    rw [placeBy_all] at hst
    obtain ⟨_, ⟨x4, x5, x6, x7⟩, _⟩ := hbx
    obtain ⟨y1, y2, y3, y4⟩ := hst
    have HK := Lib.hid hK
    have HW := Lib.hid hW
    have HD := Lib.hid hD
    clear hK hW hD
    gi_wp2
    have hK2 := ((KeepsOthers.setCell W ⟨w.heap.size + 1 + 1, 0, none⟩ (.int .i64 (row p q 0 1 k % m))).trans (KeepsOthers.setCell _ ⟨w.heap.size + 1 + 1, 1, none⟩ (.int .i64 (row p q 0 1 (k + 1) % m)))).same D _ HK.out rfl
    refine ⟨by simp, .inl ⟨_, _, rfl, run_takeDeferred hK2, ?_⟩⟩
    have z := (show StateIs (w.heap.size + 1 + 1) 0 0 W from ⟨x4, x5, x6, x7⟩).set (row p q 0 1 k % m) (row p q 0 1 (k + 1) % m)
    have z1 := cell_kept z.1 (grownBy_putObj' _ D (.deferred none)) (fun r e => by cases e; exact ⟨_, hK2, rfl⟩)
    have z2 := cell_kept z.2.1 (grownBy_putObj' _ D (.deferred none)) (fun r e => by cases e; exact ⟨_, hK2, rfl⟩)
    have hD' : w.heap.size ≤ D := by have := HD.out; simp at this; omega
    have hb2 := (HW.out.setCell (p := ⟨w.heap.size + 1 + 1, 0, none⟩) (by show w.heap.size ≤ w.heap.size + 1 + 1; omega) (.int .i64 (row p q 0 1 k % m))).setCell (p := ⟨w.heap.size + 1 + 1, 1, none⟩) (by show w.heap.size ≤ w.heap.size + 1 + 1; omega) (.int .i64 (row p q 0 1 (k + 1) % m))
    exact ⟨_, by simp [results, Try.results39, go_sem, z1, z2], rfl, hb2.grown (grownBy_putObj' _ D (.deferred none)) hb2.size (fun k e => by cases e; exact hD')⟩
end Go.Proofs.Ytgcpmgddlaeccaa
