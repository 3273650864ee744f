/- Contracts and laws that the statement's proof stands on, one text behind the other. -/
import Derived.Test.YtodeifciedjfgaaAll0
import Derived.Test.YtodeifciedjfgaaHvPlaceWhere
import Derived.Test.YtodeifciedjfgaaHvDrawRanked
import Derived.Test.YtodeifciedjfgaaHvDrawFar
import Derived.Test.YtodeifciedjfgaaHvDrawBy
import Derived.Test.YtodeifciedjfgaaHvDrawPrime
import Derived.RangeFuncBox
import Derived.Shelf.Strings.Builder1
import Derived.Shelf.Slices.Turned

namespace Go.Proofs.Ytodeifciedjfgaa
open Go.RowKit
/-- Places, as cells; those up to one at which something holds. -/
def natCells (L : List Nat) : List Value := L.map fun (i : Nat) => .int .i64 (i : Int)
def holdL (B : Nat → Bool) (n : Nat) : List Nat := (List.range n).filter B
theorem holdL_len (B : Nat → Bool) (n : Nat) : (holdL B n).length ≤ n := Nat.le_trans (List.length_filter_le _ _) (by simp)
theorem holdL_yes {B : Nat → Bool} {n : Nat} (h : B n = true) : holdL B n ++ [n] = holdL B (n + 1) := by simp [holdL, List.range_succ, h]
theorem holdL_no {B : Nat → Bool} {n : Nat} (h : B n = false) : holdL B (n + 1) = holdL B n := by simp [holdL, List.range_succ, h]
theorem natCells_yes {B : Nat → Bool} {n : Nat} (h : B n = true) : natCells (holdL B n) ++ [.int .i64 (n : Int)] = natCells (holdL B (n + 1)) := by
  rw [← holdL_yes h]; simp [natCells]
theorem holdL_yes_len {B : Nat → Bool} {n : Nat} (h : B n = true) : (holdL B n).length + 1 = (holdL B (n + 1)).length := by
  rw [← holdL_yes h]; simp
theorem natCells_range (L : List Nat) : natCells L = (List.range L.length).map fun i => .int .i64 ((L.getD i 0 : Nat) : Int) := by
  refine List.ext_getElem (by simp [natCells]) fun i h1 h2 => ?_
  simp only [natCells, List.getElem_map, List.getElem_range]
  have h3 : i < L.length := by simpa [natCells] using h1
  simp [h3]
/-- A list of places, in new memory. -/
def ListOf (L : List Nat) (w : World) (e : Ending) (w' : World) : Prop :=
  ∃ v, e = .returned v ∧ IsInts w.heap.size w'.heap.size w' v L.length (fun i => ((L.getD i 0 : Nat) : Int)) ∧ Below w.heap.size w w'
/-- The places from 1 on at which d divides the row. -/
def divB (p q d : Int) (j : Nat) : Bool := decide (1 ≤ j) && decide (d ∣ row p q 0 1 j)
def zerosL (p q : Int) : List Nat := if pairB p q = true then holdL (divB p q 0) 21 else []
def dividedB (p q m : Int) : Bool := pairB p q && inB m 1 10000
def dividedL (p q m : Int) : List Nat := if dividedB p q m = true then holdL (divB p q m) 21 else []
theorem table_list {p q d : Int} {t : Nat} (h : Table p q d t) : holdL (fun j => t.testBit j) 21 = holdL (divB p q d) 21 := by
  refine List.filter_congr fun j hj => ?_
  have hj' : j < 21 := by simpa using hj
  rw [Bool.eq_iff_iff, h.2 j]
  simp only [divB, Bool.and_eq_true, decide_eq_true_iff]
  exact ⟨fun h => ⟨h.1, h.2.2⟩, fun h => ⟨h.1, by omega, h.2⟩⟩
theorem dividedB_ways {p q m : Int} (h : dividedB p q m = false) : pairB p q = false ∨ (pairB p q = true ∧ inB m 1 10000 = false) := by
  cases hp : pairB p q with
  | false => exact .inl rfl
  | true => exact .inr ⟨rfl, by simpa [dividedB, hp] using h⟩
theorem dividedB_true {p q m : Int} (h : dividedB p q m = true) : pairB p q = true ∧ inB m 1 10000 = true := by simpa [dividedB] using h
end Go.Proofs.Ytodeifciedjfgaa
namespace Go.Proofs.Ytodeifciedjfgaa
open Go.RowKit Go.Shelf
theorem own_low {W : World} {b b' : Nat} {e : TypeId} {size k : Nat} {v : Value} {xs : List Value} (h : W.ownsRow b e size v k xs) (hb : b' ≤ b) : W.ownsRow b' e size v k xs := by
  refine ⟨h.1, ?_⟩
  rcases h.2 with h0 | ⟨g, cap, cur, e1, e2, e3⟩
  · exact .inl h0
  · exact .inr ⟨g, cap, cur, e1, Nat.le_trans hb e2, e3⟩
/-- 'out = append(out, ..)' where the row lies from a block on ahead of which other boxes lie: those are kept, too. -/
theorem appended_far {W w1 : World} {n₀ G b : Nat} {t e : TypeId} {size : Nat} {v v' : Value} {k m : Nat} {xs ys : List Value} {tmp : Obj}
    (hv : Boxed W G t v) (hte : t ≠ e) (hrow : W.ownsRow b e size v k xs) (hn₀ : n₀ ≤ W.heap.size) (hG : n₀ ≤ G) (hnb : n₀ ≤ b) (hbW : b ≤ W.heap.size)
    (hown' : w1.ownsRow b e size v' m ys) (hgrow : (W.alloc tmp).grownBy w1 v.ownBlock) :
    Boxed w1 G t v ∧ Boxed (w1.setCell ⟨G, 0, none⟩ v') G t v' ∧ (w1.setCell ⟨G, 0, none⟩ v').ownsRow b e size v' m ys ∧ KeepsOthers W (w1.setCell ⟨G, 0, none⟩ v') ∧ Below n₀ W (w1.setCell ⟨G, 0, none⟩ v') ∧
      ∀ c o, c < b → c ≠ G → (w1.setCell ⟨G, 0, none⟩ v').cell? ⟨c, o, none⟩ = W.cell? ⟨c, o, none⟩ := by
  obtain ⟨a1, a2, a3, a4, a5⟩ := hv.appended hte (own_low hrow hnb) hn₀ hG (own_low hown' hnb) hgrow
  refine ⟨a1, a2, hown'.kept (grownBy_setCell' w1 G v') (.inr (a1.not_row hte hown').symm), a4, a5, fun c o hc hne => ?_⟩
  refine (World.cell?_setCell_other w1 ⟨G, 0, none⟩ ⟨c, o, none⟩ v' (fun e' => hne (by injection e' with e' _ _; exact e'.symm))).trans ?_
  refine World.cell?_of_block (w := W) (a := ⟨c, o, none⟩) ?_
  have hcW : c < W.heap.size := by omega
  refine (hgrow.block c (by simp; omega) fun ej => ?_).trans (Below.heap_alloc _ _ _ hcW)
  rcases hrow.2 with ⟨rfl, _⟩ | ⟨g, cap, cur, rfl, hb, _, _⟩
  · simp [Value.ownBlock] at ej
  · obtain rfl : c = g := by simpa [Value.ownBlock] using ej
    omega
theorem natCells_next {L : List Nat} {k : Nat} (hk : k < L.length) : natCells (L.take k) ++ [.int .i64 ((L.getD k 0 : Nat) : Int)] = natCells (L.take (k + 1)) := by
  have e : L.getD k 0 = L[k] := by simp [hk]
  rw [List.take_succ_eq_append_getElem hk, e]
  simp only [natCells, List.map_append, List.map_cons, List.map_nil]
end Go.Proofs.Ytodeifciedjfgaa
namespace Go.Proofs.Ytodeifciedjfgaa
open Go.RowKit
theorem own_below {w w' : World} {base : Nat} {e : TypeId} {size : Nat} {v : Value} {n : Nat} {xs : List Value} (h : w.ownsRow base e size v n xs) (hb : Below w.heap.size w w') : w'.ownsRow base e size v n xs :=
  h.kept (row := none) ⟨hb.os, hb.tape, hb.output, hb.size, fun j hj _ => hb.block j hj⟩ (by cases v.ownBlock <;> simp)
theorem divB_zero (p q : Int) (j : Nat) (h : 1 ≤ j) : divB p q 0 j = (row p q 0 1 j == 0) := by
  rw [zero_bool]; simp [divB, h]
theorem divB_by (p q m : Int) (j : Nat) (h : 1 ≤ j) : divB p q m j = ((row p q 0 1 j).tmod m == 0) := by
  rw [dvd_bool]; simp [divB, h]
end Go.Proofs.Ytodeifciedjfgaa
namespace Go.Proofs.Ytodeifciedjfgaa
open Go.RowKit
theorem fibN_w : ∀ i, i < 23 → row 1 (-1) 1 2 i = (fibN (i + 2) : Int) := by decide +kernel
theorem fibN_bd : ∀ i, i < 25 → fibN i ≤ 50000 := by decide +kernel
/-- The numbers of Fibonacci from the place 2 on, in new memory. -/
def FibRow (m : Nat) (w : World) (e : Ending) (w' : World) : Prop :=
  ∃ g c, e = .returned (.slice (some ⟨g, 0, none⟩) m c) ∧ w.heap.size ≤ g ∧ g < w'.heap.size ∧ (∀ i, i < m → w'.cell? ⟨g, i, none⟩ = some (.int .i64 (fibN (i + 2) : Nat))) ∧ Below w.heap.size w w'
set_option maxRecDepth 100000 in
set_option maxHeartbeats 4000000 in
theorem l10Row_any (m : Nat) (w : World) (h4 : 4 ≤ m) (hm : m ≤ 24) : Calls Try.prog 39 #[.int .i64 m] w (FibRow (m - 1) w) := by
  obtain ⟨i0, hi0, hz0, hzs1, hz2⟩ := info_parts info_int
  go_enter Try.func39, Try.ntmps39
  go_wp2_with fail
  go_loopw [3, 4] (fun u k wr => ∃ j gu cu : Nat, u = .slice (some ⟨gu, 0, none⟩) (j + 2) cu ∧ k = .int .i64 (j + 4) ∧ wr.ownsRow w.heap.size 3 1 (.slice (some ⟨gu, 0, none⟩) (j + 2) cu) (j + 2) (rowCells 1 (-1) 1 2 (j + 2)) ∧ j + 3 ≤ m ∧ Below w.heap.size w wr) (fun _ k _ => 40 - (intOf k).toNat)
  case atStart =>
    have e1 : (w.alloc (.cells #[.int .i64 1, .int .i64 2] 3)).heap[w.heap.size]? = some (.cells #[.int .i64 1, .int .i64 2] 3 (0, 0)) := heap_alloc_new w _
    exact ⟨0, _, _, rfl, rfl, own2 (Nat.le_refl _) e1, by omega, by (repeat (first | exact Below.refl _ _ | refine Below.setCell ?_ (by first | omega | (simp <;> omega)) _ | refine Below.alloc ?_ (by first | omega | (simp <;> omega)) _ | refine Below.drew ?_ | refine Below.trans ?_ (Below.mono (by assumption) (by first | omega | (simp <;> omega))) | refine Below.grown ?_ (by assumption) (by first | omega | (simp <;> omega)) (fun k e => by cases e; first | omega | (simp <;> omega))))⟩
  case round =>
    obtain ⟨j, gu, cu, rfl, rfl, hu, hj, hB⟩ := hrel
    by_cases hlt : j + 4 ≤ m
    · have lu := (hu.lt gu rfl)
      have a1 : wr.cell? ⟨gu, j + 1, none⟩ = some (.int .i64 (row 1 (-1) 1 2 (j + 1))) := own_get hu rfl (by omega)
      have a0 : wr.cell? ⟨gu, j, none⟩ = some (.int .i64 (row 1 (-1) 1 2 j)) := own_get hu rfl (by omega)
      obtain ⟨x1, x2⟩ := row_small (p := 1) (q := -1) (a := 1) (b := 2) (by omega) (by omega) (by omega) (by omega) (by omega) (by omega) (by omega) (by omega) (j + 1) (by omega)
      obtain ⟨x3, x4⟩ := row_small (p := 1) (q := -1) (a := 1) (b := 2) (by omega) (by omega) (by omega) (by omega) (by omega) (by omega) (by omega) (by omega) j (by omega)
      have hz := hB.size
      have n0 : (0 : Int) ≤ (j : Int) := Int.natCast_nonneg _
      have n1 : (0 : Int) ≤ (j : Int) + 1 := by omega
      have n2 : (j : Int) + 1 < (j : Int) + 2 := by omega
      have n3 : (j : Int) < (j : Int) + 2 := by omega
      have t1 : ((j : Int) + 1).toNat = j + 1 := by omega
      have W1 : IntKind.i64.wrap ((j : Int) + 2 - 1) = (j : Int) + 1 := by rw [IntKind.wrap_i64]; omega
      have W2 : IntKind.i64.wrap ((j : Int) + 1) = (j : Int) + 1 := by rw [IntKind.wrap_i64]; omega
      have W3 : IntKind.i64.wrap ((j : Int) + 2 - 2) = (j : Int) := by rw [IntKind.wrap_i64]; omega
      have W4 : IntKind.i64.wrap (j : Int) = (j : Int) := by rw [IntKind.wrap_i64]; omega
      have U3 : IntKind.i64.wrap (row 1 (-1) 1 2 (j + 1) + row 1 (-1) 1 2 j) = row 1 (-1) 1 2 (j + 2) := by rw [row_step, IntKind.wrap_i64]; omega
      clear x1 x2 x3 x4
      go_wp2
      go_region_held3 (fun w' => w'.cell? ⟨gu, j + 1, none⟩ = some (.int .i64 (row 1 (-1) 1 2 (j + 1))) ∧ w'.cell? ⟨gu, j, none⟩ = some (.int .i64 (row 1 (-1) 1 2 j)))
        (first | go_keep | (go_split_ands; exact ⟨keep1, keep0⟩))
        ((refine step_append_keeps _ (by rfl) _ _ _ (by rfl) w.heap.size 3 i0 _ 1 8 Try.underlying24 hi0 hz0 hzs1 hz2 rfl (by omega) gu (j + 2) cu _ (by rfl) ((hu.alloc _).drew) ⟨wr.heap.size, 0, none⟩ 1 1 [.int .i64 (row 1 (-1) 1 2 (j + 2))] (by rfl) (by rfl) (World.news_of_block (cs := #[.int .i64 (row 1 (-1) 1 2 (j + 2))]) (t := 3) (fr := (0, 0)) (heap_alloc_new wr _)) (by simp [Value.oneCell']) (by omega) (by unfold maxLen; omega) (by omega) (by simp; omega) (wr.heap.size + 1) (by simp) ?_; intro g1 c1 w1 hown1 hgrow1 hat1 hlt1 hold1; have keep1 := own_cell hold1 (rowCells_get 1 (-1) 1 2 (j + 2) (j + 1) (by omega)); have keep0 := own_cell hold1 (rowCells_get 1 (-1) 1 2 (j + 2) j (by omega))))
      rw [rowCells_snoc] at hown1
      have hB1 : Below w.heap.size w w1 := ((hB.alloc hz _).drew).grown hgrow1 (by simp; omega) (fun k e => by cases e; omega)
      clear a1 a0 hold1 keep1 keep0 hgrow1 hu U3
      go_wp2
      go_roundw
      case rel => exact ⟨j + 1, g1, c1, rfl, congrArg (Value.int .i64) (by omega), hown1, by omega, hB1⟩
      case measure => simp [intOf]; omega
    · have lu := (hu.lt gu rfl)
      have hjm : j + 2 = m - 1 := by omega
      go_wp2
      go_ret
      exact ⟨gu, cu, by rw [← hjm]; rfl, lu.1, lu.2, fun i hi => by rw [← fibN_w i (by omega)]; exact own_get hu rfl (by omega), hB⟩
def placesL (n : Int) : List Nat := if n ≤ 10000 then zeck n.toNat else []
theorem zeckFrom_yes {t l : Nat} (h0 : 0 < l) (h1 : fibN (t + 2) ≤ l) : zeckFrom (t + 2) l = (t + 2) :: zeckFrom (t + 1) (l - fibN (t + 2)) := by rw [zeckFrom, if_pos ⟨h0, h1⟩]
theorem zeckFrom_no {t l : Nat} (h : ¬ (0 < l ∧ fibN (t + 2) ≤ l)) : zeckFrom (t + 2) l = zeckFrom (t + 1) l := by rw [zeckFrom, if_neg h]
set_option maxRecDepth 100000 in
set_option maxHeartbeats 4000000 in
theorem specPlaces_any (n : Int) (w : World) : Calls Try.prog 16 #[.int .i64 n] w (ListOf (placesL n) w) := by
  obtain ⟨i0, hi0, hz0, hzs1, hz2⟩ := info_parts info_int
  have hO : (w.alloc (.cells #[] 3 (0, 0))).ownsRow w.heap.size 3 1 (.slice (some ⟨w.heap.size, 0, none⟩) 0 0) 0 [] := own0 (base := w.heap.size) (Nat.le_refl _) (heap_alloc_new w _)
  go_enter Try.func16, Try.ntmps16
  go_wp2_with fail
  refine (l10Row_any 20 _ (by omega) (by omega)).mono ?_
  rintro e w1 ⟨gR, cR, rfl, hg1, hg2, hcl, hh1⟩
  have hz1 := hh1.size
  simp only [World.size_alloc] at hg1 hz1
  have hown1 := own_below hO hh1
  have hB1 : Below w.heap.size w w1 := by (repeat (first | exact Below.refl _ _ | refine Below.setCell ?_ (by first | omega | (simp <;> omega)) _ | refine Below.alloc ?_ (by first | omega | (simp <;> omega)) _ | refine Below.drew ?_ | refine Below.trans ?_ (Below.mono (by assumption) (by first | omega | (simp <;> omega))) | refine Below.grown ?_ (by assumption) (by first | omega | (simp <;> omega)) (fun k e => by cases e; first | omega | (simp <;> omega))))
  clear hO hh1
  go_wp2_with fail
  go_loopw [3, 5, 6] (fun u x k wr => ∃ (j : Nat) (y : Int) (gO cO : Nat) (P : List Nat), j ≤ 19 ∧ u = .slice (some ⟨gO, 0, none⟩) P.length cO ∧ x = .int .i64 y ∧ k = .int .i64 ((j : Int) - 1) ∧ wr.ownsRow w.heap.size 3 1 u P.length (natCells P) ∧ gO ≠ gR ∧ y ≤ n ∧
      P ++ zeckFrom (j + 1) y.toNat = zeck n.toNat ∧ (n ≤ 10000 ∨ P = []) ∧ P.length + j ≤ 19 ∧ w1.heap.size ≤ wr.heap.size ∧ (∀ i, i < 19 → wr.cell? ⟨gR, i, none⟩ = some (.int .i64 (fibN (i + 2) : Nat))) ∧ Below w.heap.size w wr) (fun _ _ k _ => ((intOf k) + 1).toNat)
  case atStart => exact ⟨19, n, w.heap.size, 0, [], by omega, rfl, rfl, rfl, hown1, by omega, by omega, rfl, .inr rfl, by simp, Nat.le_refl _, fun i hi => hcl i (by omega), hB1⟩
  case round =>
    obtain ⟨j, y, gO, cO, P, j9, rfl, rfl, rfl, hown, hne, hyn, hP, hnP, hPj, hsz, hc, hB⟩ := hrel
    by_cases hn : n ≤ 10000
    · match j, j9, hP, hPj with
      | 0, _, hP, _ =>
        have hL := Lib.hid (show P = placesL n by rw [placesL, if_pos hn, ← hP]; simp [zeckFrom])
        have HO := Lib.hid hown
        have e0 : ((0 : Nat) : Int) - 1 = -1 := by omega
        rw [e0]
        clear hP hown hc
        go_wp2
        go_ret
        have hr := HO.out
        rw [natCells_range] at hr
        exact ⟨_, rfl, by rw [← hL.out]; exact IsInts.of_owns hr, hB⟩
      | t + 1, j9, hP, hPj =>
        have e1 : ((t + 1 : Nat) : Int) - 1 = (t : Int) := by omega
        rw [e1]
        have hct := hc t (by omega)
        have hfb := fibN_bd (t + 2) (by omega)
        have t0 : (0 : Int) ≤ (t : Int) := by omega
        have t19 : (t : Int) < 19 := by omega
        by_cases hy : 0 < y ∧ (fibN (t + 2) : Int) ≤ y
        · obtain ⟨y0, yf⟩ := hy
          have hPn := Lib.hid (show (P ++ [t + 2]) ++ zeckFrom (t + 1) (y - (fibN (t + 2) : Int)).toNat = zeck n.toNat by
            rw [← hP, zeckFrom_yes (t := t) (l := y.toNat) (by omega) (by omega), List.append_assoc, show (y - (fibN (t + 2) : Int)).toNat = y.toNat - fibN (t + 2) by omega]; rfl)
          have hcells : natCells P ++ [.int .i64 ((t : Int) + 2)] = natCells (P ++ [t + 2]) := by simp [natCells]
          have HL := Lib.hid (show P.length + 1 = (P ++ [t + 2]).length by simp)
          have HCE := Lib.hid hcells
          clear hcells
          obtain ⟨F, hF⟩ : ∃ F, fibN (t + 2) = F := ⟨_, rfl⟩
          rw [hF] at hct hfb yf hPn
          have hlk := hown.lt
          have hwz := hB.size
          clear hP
          go_wp2_with (first | (at_builtin; refine wpList_append_lies _ (by rfl) _ _ _ (by rfl) w.heap.size 3 i0 _ 1 8 Try.underlying24 hi0 hz0 hzs1 hz2 rfl (by omega) _ P.length (natCells P) (by rfl) (hown.alloc _) ⟨wr.heap.size, 0, none⟩ 1 1 [.int .i64 ((t : Int) + 2)] (by rfl) (by rfl) (World.news_of_block (cs := #[.int .i64 ((t : Int) + 2)]) (t := 3) (fr := (0, 0)) (heap_alloc_new wr _)) (by simp [Value.oneCell']) (by omega) (by unfold maxLen; omega) (by omega) (by simp; omega) (wr.heap.size + 1) (by simp) ?_))
          intro g1 c1 w4 hown4 hgrow4 hat4 hlt4
          have hc4 : ∀ i, i < 19 → w4.cell? ⟨gR, i, none⟩ = some (.int .i64 (fibN (i + 2) : Nat)) := fun i hi => (hgrow4.cell_far ⟨gR, i, none⟩ (by simp; omega) (by simp [Value.ownBlock]; omega)).trans ((World.cell?_alloc_past _ _ _ (by show gR < _; omega)).trans (hc i hi))
          have hct4 : w4.cell? ⟨gR, t, none⟩ = some (.int .i64 (F : Nat)) := by rw [← hF]; exact hc4 t (by omega)
          rw [HCE.out] at hown4
          have hz4 : wr.heap.size + 1 ≤ w4.heap.size := by have := hgrow4.size; simpa using this
          have hB4 : Below w.heap.size w w4 := (hB.alloc hwz _).grown hgrow4 (by simp; omega) (fun k e => by have := hlk _ e; omega)
          have hne4 : g1 ≠ gR := by
            rcases hat4 with h | h
            · have : gO = g1 := by simpa [Value.ownBlock] using h
              omega
            · omega
          clear hown hgrow4 hlk hat4 hc hct
          go_wp2
          go_roundw
          case rel => exact ⟨t, y - (F : Int), g1, c1, P ++ [t + 2], by omega, by rw [← HL.out], rfl, rfl, by rw [← HL.out]; exact hown4, hne4, by omega, hPn.out, .inl hn, by rw [← HL.out]; omega, by omega, hc4, hB4⟩
          case measure => simp [intOf]
        · have hPn := Lib.hid (show P ++ zeckFrom (t + 1) y.toNat = zeck n.toNat by
            rw [← hP, zeckFrom_no (t := t) (l := y.toNat) (by omega)])
          have HO := Lib.hid hown
          obtain ⟨F, hF⟩ : ∃ F, fibN (t + 2) = F := ⟨_, rfl⟩
          rw [hF] at hct hfb hy
          clear hP hown
          by_cases y0 : 0 < y
          · have yf : y < (F : Int) := by omega
            go_wp2
            go_roundw
            case rel => exact ⟨t, y, gO, cO, P, by omega, rfl, rfl, rfl, HO.out, hne, hyn, hPn.out, .inl hn, by omega, hsz, hc, hB⟩
            case measure => simp [intOf]
          · have yf : y ≤ 0 := by omega
            go_wp2
            go_roundw
            case rel => exact ⟨t, y, gO, cO, P, by omega, rfl, rfl, rfl, HO.out, hne, hyn, hPn.out, .inl hn, by omega, hsz, hc, hB⟩
            case measure => simp [intOf]
    · obtain rfl : P = [] := by rcases hnP with h | h; omega; exact h
      have hL := Lib.hid (show placesL n = [] by rw [placesL, if_neg hn])
      have hn' : 10000 < n := by omega
      clear hP hown hc
      by_cases hj0 : (0 : Int) ≤ (j : Int) - 1
      · go_wp2
        go_ret
        exact ⟨_, rfl, by rw [hL.out]; exact IsInts.empty _ _ _ _ _, hB⟩
      · have hj1 : (j : Int) - 1 < 0 := by omega
        go_wp2
        go_ret
        exact ⟨_, rfl, by rw [hL.out]; exact IsInts.empty _ _ _ _ _, hB⟩
end Go.Proofs.Ytodeifciedjfgaa
namespace Go.Proofs.Ytodeifciedjfgaa
open Go.RowKit
theorem zeckFrom_bd : ∀ (k n : Nat), ∀ x ∈ zeckFrom k n, 2 ≤ x ∧ x ≤ k
  | 0, n, x, h => by simp [zeckFrom] at h
  | 1, n, x, h => by simp [zeckFrom] at h
  | k + 2, n, x, h => by
    rw [zeckFrom] at h
    split at h
    · rcases List.mem_cons.1 h with rfl | h
      · omega
      · have := zeckFrom_bd (k + 1) _ x h; omega
    · have := zeckFrom_bd (k + 1) _ x h; omega
theorem zeckFrom_len : ∀ (k n : Nat), (zeckFrom k n).length ≤ k
  | 0, n => by simp [zeckFrom]
  | 1, n => by simp [zeckFrom]
  | k + 2, n => by
    rw [zeckFrom]
    split
    · have := zeckFrom_len (k + 1) (n - fibN (k + 2)); simp; omega
    · have := zeckFrom_len (k + 1) n; omega
theorem zeck_bd (n i : Nat) (h : i < (zeck n).length) : 2 ≤ (zeck n).getD i 0 ∧ (zeck n).getD i 0 ≤ 20 := by
  have hm : (zeck n).getD i 0 ∈ zeck n := by
    simp only [List.getD_eq_getElem?_getD, List.getElem?_eq_getElem h, Option.getD_some]
    exact List.getElem_mem h
  exact zeckFrom_bd 20 n _ hm
theorem zeck_len (n : Nat) : (zeck n).length ≤ 20 := zeckFrom_len 20 n
theorem placesL_is {n : Nat} (h : n ≤ 10000) : placesL n = zeck n := by rw [placesL, if_pos (by omega)]; rfl
theorem sumAt_next {L : List Nat} {k : Nat} (d : Nat) (hk : k < L.length) : sumAt (L.take (k + 1)) d = sumAt (L.take k) d + fibN (L.getD k 0 + d) := by
  have e : L.getD k 0 = L[k] := by simp [hk]
  rw [List.take_succ_eq_append_getElem hk, e]
  simp only [sumAt, List.map_append, List.map_cons, List.map_nil, List.foldl_append, List.foldl_cons, List.foldl_nil]
def shiftB (n d : Int) : Bool := inB n 0 1000 && inB d 0 3
def shiftV (n d : Int) : Int := if shiftB n d = true then (sumAt (zeck n.toNat) d.toNat : Int) else -1
theorem shiftV_no {n d : Int} (h : shiftB n d = false) : shiftV n d = -1 := by rw [shiftV, if_neg (by simp [h])]
theorem shiftV_is {n d : Nat} (h : shiftB n d = true) : shiftV n d = (sumAt (zeck n) d : Int) := by rw [shiftV, if_pos h]; rfl
theorem shiftB_true {n d : Int} (h : shiftB n d = true) : ∃ m j : Nat, n = m ∧ d = j ∧ m ≤ 1000 ∧ j ≤ 3 := by
  have h' : inB n 0 1000 = true ∧ inB d 0 3 = true := by simpa [shiftB] using h
  obtain ⟨n1, n2⟩ := inB_true h'.1
  obtain ⟨d1, d2⟩ := inB_true h'.2
  exact ⟨n.toNat, d.toNat, by omega, by omega, by omega, by omega⟩
theorem shiftB_mk {n d : Nat} (h1 : n ≤ 1000) (h2 : d ≤ 3) : shiftB n d = true := by rw [shiftB, inB_mk (by omega) (by omega), inB_mk (by omega) (by omega)]; rfl
set_option maxRecDepth 100000 in
set_option maxHeartbeats 4000000 in
theorem specShift_any (n d : Int) (w : World) : Calls Try.prog 30 #[.int .i64 n, .int .i64 d] w fun e w' => e = .returned (.int .i64 (shiftV n d)) ∧ Below w.heap.size w w' := by
  cases hn : inB n 0 1000 with
  | false =>
    have HV := Lib.hid (shiftV_no (n := n) (d := d) (by simp [shiftB, hn]))
    have HN := Lib.hid hn
    clear hn
    go_enter Try.func30, Try.ntmps30
    go_wp2_with fail
    refine (l1In_no n 0 1000 _ HN.out).mono ?_
    rintro e wx ⟨rfl, rfl⟩
    go_wp2
    go_ret
    exact ⟨ret_int HV.out.symm, Below.refl _ _⟩
  | true =>
    have HN := Lib.hid hn
    cases hd : inB d 0 3 with
    | false =>
      have HV := Lib.hid (shiftV_no (n := n) (d := d) (by simp [shiftB, hd]))
      have HD := Lib.hid hd
      clear hn hd
      go_enter Try.func30, Try.ntmps30
      go_wp2_with fail
      refine (l1In_yes _ 0 1000 _ HN.out).mono ?_
      rintro e wx ⟨rfl, rfl⟩
      go_wp2_with fail
      refine (l1In_no d 0 3 _ HD.out).mono ?_
      rintro e wx ⟨rfl, rfl⟩
      go_wp2
      go_ret
      exact ⟨ret_int HV.out.symm, Below.refl _ _⟩
    | true =>
      have hb : shiftB n d = true := by rw [shiftB, hn, hd]; rfl
      obtain ⟨m, j, rfl, rfl, m9, j3⟩ := shiftB_true hb
      have HV := Lib.hid (shiftV_is hb)
      have HD := Lib.hid hd
      have HL := Lib.hid (placesL_is (n := m) (by omega))
      have hbd := zeck_bd m
      have hlen := zeck_len m
      have hnext := fun k hk => sumAt_next (L := zeck m) (k := k) j hk
      have hstart : sumAt ((zeck m).take 0) j = 0 := rfl
      have hend : sumAt ((zeck m).take (zeck m).length) j = sumAt (zeck m) j := by rw [List.take_length]
      obtain ⟨L, hL⟩ : ∃ L, zeck m = L := ⟨_, rfl⟩
      rw [hL] at HV HL hbd hlen hnext hstart hend
      have HBD := Lib.hid hbd
      have HNX := Lib.hid hnext
      have HST := Lib.hid hstart
      have HEN := Lib.hid hend
      clear hn hd hb hL hbd hnext hstart hend
      go_enter Try.func30, Try.ntmps30
      go_wp2_with fail
      refine (l1In_yes _ 0 1000 _ HN.out).mono ?_
      rintro e wx ⟨rfl, rfl⟩
      go_wp2_with fail
      refine (l1In_yes _ 0 3 _ HD.out).mono ?_
      rintro e wx ⟨rfl, rfl⟩
      go_wp2_with fail
      refine (l10Row_any 24 _ (by omega) (by omega)).mono ?_
      rintro e w1 ⟨gR, cR, rfl, hg1, hg2, hcl, hh1⟩
      have hz1 := hh1.size
      go_wp2_with fail
      refine (specPlaces_any m _).mono ?_
      rintro e w2 ⟨u2, rfl, hI2, hh2⟩
      have hz2 := hh2.size
      rw [HL.out] at hI2
      have hcl2 : ∀ i, i < 23 → w2.cell? ⟨gR, i, none⟩ = some (.int .i64 (fibN (i + 2) : Nat)) := fun i hi => cell_below hh2 (hcl i hi)
      have hB2 : Below w.heap.size w w2 := hh1.trans (hh2.mono hh1.size)
      obtain ⟨a2, c2, rfl, hC2, hs2⟩ := hI2
      clear hcl hh1 hh2
      go_wp2_with fail
      go_loop [7, 8] (fun x y => ∃ k : Nat, k ≤ L.length ∧ y = .int .i64 k ∧ x = .int .i64 ((sumAt (L.take k) j : Nat) : Int) ∧ sumAt (L.take k) j ≤ 50000 * k) (fun _ y => 30 - (intOf y).toNat)
      case atStart => exact ⟨0, by omega, rfl, congrArg (Value.int .i64) (by rw [HST.out]; rfl), by rw [HST.out]; omega⟩
      case round =>
        obtain ⟨k, hk, rfl, rfl, hs⟩ := hrel
        by_cases hlt : k < L.length
        · rcases hs2 with hs2 | ⟨g2, o2, rfl, hg3, hg4, hc2, hf2⟩
          · omega
          obtain ⟨b1, b2⟩ := HBD.out k hlt
          have hnx := HNX.out k hlt
          have hck := hc2 k hlt
          obtain ⟨x, hx⟩ : ∃ x, L.getD k 0 = x := ⟨_, rfl⟩
          rw [hx] at b1 b2 hnx hck
          have hcr := hcl2 (x - 2 + j) (by omega)
          rw [show x - 2 + j + 2 = x + j by omega] at hcr
          have hfb := fibN_bd (x + j) (by omega)
          obtain ⟨F, hF⟩ : ∃ F, fibN (x + j) = F := ⟨_, rfl⟩
          rw [hF] at hnx hcr hfb
          obtain ⟨s, hs'⟩ : ∃ s, sumAt (L.take k) j = s := ⟨_, rfl⟩
          rw [hs'] at hnx hs ⊢
          have HNK := Lib.hid hnx
          have hki : (k : Int) < (L.length : Int) := by omega
          have k0 : (0 : Int) ≤ (k : Int) := by omega
          have e1 : (x : Int) - 2 + (j : Int) = ((x - 2 + j : Nat) : Int) := by omega
          have U1 : IntKind.i64.wrap ((x : Int) - 2) = (x : Int) - 2 := by rw [IntKind.wrap_i64]; omega
          have U2 : IntKind.i64.wrap ((x : Int) - 2 + (j : Int)) = ((x - 2 + j : Nat) : Int) := by rw [IntKind.wrap_i64]; omega
          obtain ⟨t, ht⟩ : ∃ t, x - 2 + j = t := ⟨_, rfl⟩
          rw [ht] at e1 U2 hcr
          have t0 : (0 : Int) ≤ (t : Int) := by omega
          have t23 : (t : Int) < 23 := by omega
          clear hx hF hs' hnx hc2 hf2 ht e1
          go_wp2
          go_round
          case rel => exact ⟨k + 1, by omega, congrArg (Value.int .i64) (by omega), congrArg (Value.int .i64) (by rw [HNK.out]; omega), by rw [HNK.out]; omega⟩
          case measure => simp [intOf]; omega
        · obtain rfl : k = L.length := by omega
          rw [HEN.out] at hs ⊢
          obtain ⟨s, hs'⟩ : ∃ s, sumAt L j = s := ⟨_, rfl⟩
          rw [hs'] at HV hs ⊢
          clear hs' hs2
          go_wp2
          go_ret
          exact ⟨ret_int HV.out.symm, hB2⟩
def circB (a b : Int) : Bool := inB a 0 100 && inB b 0 100
def circV (a b : Int) : Int := if circB a b = true then (circN a.toNat b.toNat : Int) else -1
theorem circV_no {a b : Int} (h : circB a b = false) : circV a b = -1 := by rw [circV, if_neg (by simp [h])]
theorem circV_is {a b : Nat} (h : circB a b = true) : circV a b = (circN a b : Int) := by rw [circV, if_pos h]; rfl
theorem circB_true {a b : Int} (h : circB a b = true) : ∃ m j : Nat, a = m ∧ b = j ∧ m ≤ 100 ∧ j ≤ 100 := by
  have h' : inB a 0 100 = true ∧ inB b 0 100 = true := by simpa [circB] using h
  obtain ⟨n1, n2⟩ := inB_true h'.1
  obtain ⟨d1, d2⟩ := inB_true h'.2
  exact ⟨a.toNat, b.toNat, by omega, by omega, by omega, by omega⟩
theorem circB_mk {a b : Nat} (h1 : a ≤ 100) (h2 : b ≤ 100) : circB a b = true := by rw [circB, inB_mk (by omega) (by omega), inB_mk (by omega) (by omega)]; rfl
/-- The product by places, over the first places of the first number. -/
def circS (L M : List Nat) (k : Nat) : Nat := ((L.take k).map fun x => sumAt M x).foldl (· + ·) 0
theorem circS_all (a b : Nat) : circN a b = circS (zeck a) (zeck b) (zeck a).length := by rw [circS, List.take_length]; rfl
theorem circS_next {L M : List Nat} {k : Nat} (hk : k < L.length) : circS L M (k + 1) = circS L M k + sumAt M (L.getD k 0) := by
  have e : L.getD k 0 = L[k] := by simp [hk]
  rw [circS, List.take_succ_eq_append_getElem hk, e]
  simp only [circS, List.map_append, List.map_cons, List.map_nil, List.foldl_append, List.foldl_cons, List.foldl_nil]
theorem sumAt_bd {L : List Nat} (d : Nat) (hd : d ≤ 20) (h : ∀ i, i < L.length → L.getD i 0 ≤ 20) (hb : ∀ i, i < 41 → fibN i ≤ 50000) : ∀ k, k ≤ L.length → sumAt (L.take k) d ≤ 50000 * k
  | 0, _ => by simp [sumAt]
  | k + 1, hk => by
    have h1 := sumAt_bd d hd h hb k (by omega)
    rw [sumAt_next d (by omega)]
    have := hb (L.getD k 0 + d) (by have := h k (by omega); omega)
    omega
theorem fibN_bd2 : ∀ i, i < 41 → fibN i ≤ 50000 := by decide +kernel
theorem zeck_low {n : Nat} (h : n ≤ 100) : ∀ x ∈ zeck n, x ≤ 11 := by
  have hall : (List.range 101).all (fun n => (zeck n).all fun x => decide (x ≤ 11)) = true := by decide +kernel
  intro x hx
  exact of_decide_eq_true (List.all_eq_true.1 (List.all_eq_true.1 hall n (by simp; omega)) x hx)
theorem zeck_low_at {n : Nat} (hn : n ≤ 100) (i : Nat) (h : i < (zeck n).length) : 2 ≤ (zeck n).getD i 0 ∧ (zeck n).getD i 0 ≤ 11 := by
  refine ⟨(zeck_bd n i h).1, ?_⟩
  have hm : (zeck n).getD i 0 ∈ zeck n := by
    simp only [List.getD_eq_getElem?_getD, List.getElem?_eq_getElem h, Option.getD_some]
    exact List.getElem_mem h
  exact zeck_low hn _ hm
set_option maxRecDepth 100000 in
set_option maxHeartbeats 8000000 in
theorem specCircle_any (a b : Int) (w : World) : Calls Try.prog 28 #[.int .i64 a, .int .i64 b] w fun e w' => e = .returned (.tuple #[.int .i64 (circV a b), .bool (circB a b)]) ∧ Below w.heap.size w w' := by
  cases hn : inB a 0 100 with
  | false =>
    have hb : circB a b = false := by simp [circB, hn]
    have HB := Lib.hid hb
    have HV := Lib.hid (circV_no hb)
    have HN := Lib.hid hn
    clear hn hb
    go_enter Try.func28, Try.ntmps28
    go_wp2_with fail
    refine (l1In_no a 0 100 _ HN.out).mono ?_
    rintro e wx ⟨rfl, rfl⟩
    go_wp2
    go_ret2
    exact ⟨ret_int_bool HV.out.symm HB.out.symm, Below.refl _ _⟩
  | true =>
    have HN := Lib.hid hn
    cases hd : inB b 0 100 with
    | false =>
      have hb : circB a b = false := by simp [circB, hd]
      have HB := Lib.hid hb
      have HV := Lib.hid (circV_no hb)
      have HD := Lib.hid hd
      clear hn hd hb
      go_enter Try.func28, Try.ntmps28
      go_wp2_with fail
      refine (l1In_yes _ 0 100 _ HN.out).mono ?_
      rintro e wx ⟨rfl, rfl⟩
      go_wp2_with fail
      refine (l1In_no b 0 100 _ HD.out).mono ?_
      rintro e wx ⟨rfl, rfl⟩
      go_wp2
      go_ret2
      exact ⟨ret_int_bool HV.out.symm HB.out.symm, Below.refl _ _⟩
    | true =>
      have hb : circB a b = true := by rw [circB, hn, hd]; rfl
      obtain ⟨m, j, rfl, rfl, m9, j9⟩ := circB_true hb
      have HB := Lib.hid hb
      have HV0 := circV_is hb
      rw [circS_all] at HV0
      have HD := Lib.hid hd
      have HL0 := placesL_is (n := m) (by omega)
      have HM0 := placesL_is (n := j) (by omega)
      have hbd := zeck_low_at m9
      have hbm := zeck_low_at j9
      have hlen := zeck_len m
      have hlem := zeck_len j
      obtain ⟨L, hL⟩ : ∃ L, zeck m = L := ⟨_, rfl⟩
      obtain ⟨M, hM⟩ : ∃ M, zeck j = M := ⟨_, rfl⟩
      rw [hL] at HL0 hbd hlen
      rw [hM] at HM0 hbm hlem
      rw [hL, hM] at HV0
      have hsb := fun d (hd : d ≤ 20) => sumAt_bd (L := M) d hd (fun i hi => by have := (hbm i hi).2; omega) fibN_bd2
      have HV := Lib.hid HV0
      have HL := Lib.hid HL0
      have HM := Lib.hid HM0
      have HBD := Lib.hid hbd
      have HBM := Lib.hid hbm
      have HSB := Lib.hid hsb
      clear hn hd hb hL hM hbd hbm HV0 HL0 HM0 hsb
      go_enter Try.func28, Try.ntmps28
      go_wp2_with fail
      refine (l1In_yes _ 0 100 _ HN.out).mono ?_
      rintro e wx ⟨rfl, rfl⟩
      go_wp2_with fail
      refine (l1In_yes _ 0 100 _ HD.out).mono ?_
      rintro e wx ⟨rfl, rfl⟩
      go_wp2_with fail
      refine (l10Row_any 24 _ (by omega) (by omega)).mono ?_
      rintro e w1 ⟨gR, cR, rfl, hg1, hg2, hcl, hh1⟩
      have hz1 := hh1.size
      go_wp2_with fail
      refine (specPlaces_any m _).mono ?_
      rintro e w2 ⟨u2, rfl, hI2, hh2⟩
      have hz2 := hh2.size
      go_wp2_with fail
      refine (specPlaces_any j _).mono ?_
      rintro e w3 ⟨u3, rfl, hI3, hh3⟩
      have hz3 := hh3.size
      rw [HL.out] at hI2
      rw [HM.out] at hI3
      have hI2' := hI2.below hh3 (Nat.le_refl _)
      have hcl3 : ∀ i, i < 23 → w3.cell? ⟨gR, i, none⟩ = some (.int .i64 (fibN (i + 2) : Nat)) := fun i hi => cell_below hh3 (cell_below hh2 (hcl i hi))
      have hB3 : Below w.heap.size w w3 := (hh1.trans (hh2.mono hh1.size)).trans (hh3.mono (Nat.le_trans hh1.size hh2.size))
      obtain ⟨a2, c2, rfl, hC2, hs2⟩ := hI2'
      obtain ⟨a3, c3, rfl, hC3, hs3⟩ := hI3
      clear hcl hh1 hh2 hh3 hI2
      go_wp2_with fail
      go_loopw [9, 10, 11] (fun x y _ wr => ∃ k : Nat, k ≤ L.length ∧ y = .int .i64 k ∧ x = .int .i64 ((circS L M k : Nat) : Int) ∧ circS L M k ≤ 1000000 * k ∧ Below w3.heap.size w3 wr) (fun _ y _ _ => 30 - (intOf y).toNat)
      case atStart => exact ⟨0, by omega, rfl, rfl, by simp [circS], Below.refl _ _⟩
      case round =>
        obtain ⟨k, hk, rfl, rfl, hs, hB⟩ := hrel
        by_cases hlt : k < L.length
        · rcases hs2 with hs2 | ⟨g2, o2, rfl, hg3, hg4, hc2, hf2⟩
          · omega
          obtain ⟨b1, b2⟩ := HBD.out k hlt
          have hnx := circS_next (M := M) hlt
          have hck := cell_below hB (hc2 k hlt)
          obtain ⟨x, hx⟩ : ∃ x, L.getD k 0 = x := ⟨_, rfl⟩
          rw [hx] at b1 b2 hnx hck
          obtain ⟨s, hs'⟩ : ∃ s, circS L M k = s := ⟨_, rfl⟩
          rw [hs'] at hnx hs ⊢
          have HNK := Lib.hid hnx
          have hsbx := HSB.out x (by omega)
          have HSX := Lib.hid hsbx
          have hki : (k : Int) < (L.length : Int) := by omega
          have k0 : (0 : Int) ≤ (k : Int) := by omega
          clear hx hs' hnx hsbx
          go_wp2_with fail
          go_loopw [9, 11] (fun z y wq => ∃ i : Nat, i ≤ M.length ∧ y = .int .i64 i ∧ z = .int .i64 ((s + sumAt (M.take i) x : Nat) : Int) ∧ Below wr.heap.size wr wq) (fun _ y _ => 30 - (intOf y).toNat)
          case atStart => exact ⟨0, by omega, rfl, congrArg (Value.int .i64) (by simp [sumAt]), Below.refl _ _⟩
          case round =>
            obtain ⟨i, hi, rfl, rfl, hQ⟩ := hrel
            by_cases hlt2 : i < M.length
            · rcases hs3 with hs3 | ⟨g3, o3, rfl, hg5, hg6, hc3, hf3⟩
              · omega
              obtain ⟨p1, p2⟩ := HBM.out i hlt2
              have hsn := sumAt_next (L := M) x hlt2
              have hsl := HSX.out i hi
              have hcy := cell_below hQ (cell_below hB (hc3 i hlt2))
              have hcx := cell_below hQ hck
              obtain ⟨y, hy⟩ : ∃ y, M.getD i 0 = y := ⟨_, rfl⟩
              rw [hy] at p1 p2 hsn hcy
              have hcr := cell_below hQ (cell_below hB (hcl3 (x + y - 2) (by omega)))
              rw [show x + y - 2 + 2 = y + x by omega] at hcr
              have hfb := fibN_bd2 (y + x) (by omega)
              obtain ⟨F, hF⟩ : ∃ F, fibN (y + x) = F := ⟨_, rfl⟩
              rw [hF] at hsn hcr hfb
              obtain ⟨u, hu⟩ : ∃ u, sumAt (M.take i) x = u := ⟨_, rfl⟩
              rw [hu] at hsn hsl ⊢
              have HSN := Lib.hid hsn
              have hii : (i : Int) < (M.length : Int) := by omega
              have i0 : (0 : Int) ≤ (i : Int) := by omega
              obtain ⟨t, ht⟩ : ∃ t, x + y - 2 = t := ⟨_, rfl⟩
              rw [ht] at hcr
              have U0 : IntKind.i64.wrap ((x : Int) + (y : Int)) = (x : Int) + (y : Int) := by rw [IntKind.wrap_i64]; omega
              have U1 : IntKind.i64.wrap ((x : Int) + (y : Int) - 2) = (t : Int) := by rw [IntKind.wrap_i64]; omega
              have U2 : IntKind.i64.wrap (((s + u : Nat) : Int) + (F : Int)) = ((s + u + F : Nat) : Int) := by rw [IntKind.wrap_i64]; omega
              have t0 : (0 : Int) ≤ (t : Int) := by omega
              have t23 : (t : Int) < 23 := by omega
              clear hy hF hu hsn ht
              go_wp2
              go_quiet (fail)
              go_wp2
              go_roundw
              case rel => exact ⟨i + 1, by omega, congrArg (Value.int .i64) (by omega), congrArg (Value.int .i64) (by rw [HSN.out]; omega), below_drewN hQ _⟩
              case measure => simp [intOf]; omega
            · obtain rfl : i = M.length := by omega
              rw [List.take_length]
              have hsl := HSX.out M.length (Nat.le_refl _)
              rw [List.take_length] at hsl
              obtain ⟨u, hu⟩ : ∃ u, sumAt M x = u := ⟨_, rfl⟩
              rw [hu] at HNK hsl ⊢
              have hbnd : s + u ≤ 1000000 * (k + 1) := by omega
              clear hu
              go_wp2
              go_roundw
              case rel => exact ⟨k + 1, by omega, congrArg (Value.int .i64) (by omega), by rw [HNK.out], by rw [HNK.out]; exact hbnd, hB.trans (hQ.mono hB.size)⟩
              case measure => simp [intOf]; omega
        · obtain rfl : k = L.length := by omega
          obtain ⟨s, hs'⟩ : ∃ s, circS L M L.length = s := ⟨_, rfl⟩
          rw [hs'] at HV hs ⊢
          clear hs'
          go_wp2
          go_ret2
          exact ⟨ret_int_bool HV.out.symm HB.out.symm, hB3.trans (hB.mono hB3.size)⟩
end Go.Proofs.Ytodeifciedjfgaa
namespace Go.Proofs.Ytodeifciedjfgaa
open Go.RowKit Go.Shelf
attribute [local go_sem] Oper.semAt_some
set_option maxHeartbeats 4000000 in
/-- As rowFrom_endless, two rounds farther. -/
theorem rowFrom_far (n : Nat) (hn : 1 ≤ n) (p q a b : Int) (B N : Nat) (w : World) (h1 : -4 ≤ p) (h2 : p ≤ 4) (h3 : -4 ≤ q) (h4 : q ≤ 4) (h5 : -4 ≤ a) (h6 : a ≤ 4) (h7 : -4 ≤ b) (h8 : b ≤ 4) (hN : N ≤ 23) :
    Endless Fence.wide n Try.prog 57 #[.pointer (some ⟨B + 1, 0, none⟩), .pointer (some ⟨B + 1 + 1, 0, none⟩), .pointer (some ⟨B, 0, none⟩)] (fun k => #[.int .i64 (row p q a b k)]) (RowBoxes B p q a b) N w := by
  intro l J X W hW hJ hX hKp hY hN0 h0
  obtain ⟨c1, c2, c3, c4⟩ := hKp 0 W h0
  refine callsIn_of_wp Try.func57 rfl trivial ?_ rfl
  simp only [Try.ntmps57, List.size_toArray, List.length_cons, List.length_nil, Nat.reduceAdd, Nat.reduceSub, Array.replicate_succ, Array.replicate_zero, List.push_toArray, List.append_toArray, List.nil_append, List.cons_append]
  gi_wp2
  gi_quiet (fail)
  rename_i nq
  have h0' := abides_drew hJ h0 nq
  clear h0 c1 c2 c3 c4
  gi_wp2
  gi_loopg [5, 6] N (fun r x y wr => ∃ k, k + r = N ∧ k < N ∧ x = .int .i64 (row p q a b k) ∧ y = .int .i64 (row p q a b (k + 1)) ∧ J k wr)
  case atStart => exact ⟨0, by omega, hN0, rfl, rfl, h0'⟩
  case round =>
    obtain ⟨k, hkr, hk, rfl, rfl, hj⟩ := hrel
    obtain ⟨c1, c2, _, _⟩ := hKp k wr hj
    obtain ⟨fn, tmps, assign, body, hy, hR⟩ := hY k wr hk hj
    gi_wp2
    refine hR.mono ?_
    rintro e W3 (⟨rfl, hlt, hj3⟩ | ⟨rfl, hx3⟩)
    · obtain ⟨d1, d2, _, _⟩ := hKp (k + 1) W3 hj3
      obtain ⟨⟨x1, x2⟩, x3, x4⟩ := row_next (a := a) (b := b) h1 h2 h3 h4 h5 h6 h7 h8 k (by omega)
      have U3 := Lib.hid (row_step p q a b k)
      gi_wp2
      gi_quiet (fail)
      rename_i nq
      have hj4 := abides_drew hJ hj3 nq
      gi_wp2
      gi_roundg (gk - 1)
      case measure => omega
      case rel => exact ⟨k + 1, by omega, hlt, rfl, by rw [← U3.out], hj4⟩
    · gi_wp2
      go_end0
      exact ⟨⟨_, rfl⟩, k, hk, hx3⟩
/-- The numbers of Fibonacci at the places 0 to 22, in new memory. -/
def FibAll (w : World) (e : Ending) (w' : World) : Prop :=
  ∃ g c, e = .returned (.slice (some ⟨g, 0, none⟩) 23 c) ∧ w.heap.size ≤ g ∧ g < w'.heap.size ∧ (∀ i, i < 23 → w'.cell? ⟨g, i, none⟩ = some (.int .i64 (fibN i : Nat))) ∧ Below w.heap.size w w'
theorem fib_cells : ∀ k, k < 23 → natCells (fibT.take k) ++ [.int .i64 (row 1 (-1) 0 1 k)] = natCells (fibT.take (k + 1)) := fun k hk => by
  rw [fibN_row k (by omega)]; exact natCells_next (by decide +revert)
theorem fib_at : ∀ i, i < 23 → (natCells (fibT.take 23))[i]? = some (.int .i64 ((fibN i : Nat) : Int)) := fun i hi => by
  have h : (fibT.take 23)[i]? = some (fibN i) := by decide +revert
  rw [natCells, List.getElem?_map, h]; rfl
set_option maxRecDepth 100000 in
set_option maxHeartbeats 8000000 in
theorem fibRow_any (w : World) : Calls Try.prog 37 #[] w (FibAll w) := by
  obtain ⟨i0, hi0, hzi0, hzi1, hzi2⟩ := info_parts info_int
  refine (callsIn_wide (n := 9)).1 ?_
  refine callsIn_of_wp_marks Try.func37 rfl trivial ?_ rfl
  simp only [Try.ntmps37, List.size_toArray, List.length_nil, Nat.reduceSub, Array.replicate_succ, Array.replicate_zero, List.push_toArray, List.append_toArray, List.nil_append, List.cons_append]
  gi_wp2_with fail
  refine ⟨trivial, (callsIn_wide.2 (rowFrom_any 1 (-1) 0 1 _)).mono ?_⟩
  rintro e w2 ⟨rfl, rfl⟩
  gi_wp2_with fail
  refine wpIn_rangeFunc_endless (P := Try.prog) rfl (by omega) (gf := 57) (lb := #[.pointer (some ⟨w.heap.size + 1 + 1, 0, none⟩), .pointer (some ⟨w.heap.size + 1 + 1 + 1, 0, none⟩), .pointer (some ⟨w.heap.size + 1, 0, none⟩)]) rfl trivial (enters_of Try.func57 (by kernel_rfl) rfl)
    (rowFrom_far 8 (by omega) 1 (-1) 0 1 (w.heap.size + 1) 23 _ (by omega) (by omega) (by omega) (by omega) (by omega) (by omega) (by omega) (by omega) (by omega)) (Below.refl _ _) (fun _ => rfl) (by omega)
    (fun k W => k < 23 ∧ (∃ v, Boxed W w.heap.size 24 v ∧ W.ownsRow (w.heap.size + 4) 3 1 v k (natCells (fibT.take k))) ∧ RowBoxes (w.heap.size + 1) 1 (-1) 0 1 W ∧ w.heap.size + 4 ≤ W.heap.size ∧ Below w.heap.size w W)
    (fun c k W => c = .exit 0 ∧ (∃ v, Boxed W w.heap.size 24 v ∧ W.ownsRow (w.heap.size + 4) 3 1 v 23 (natCells (fibT.take 23))) ∧ Below w.heap.size w W)
    ?own ?ownX (fun k V h => h.2.2.1) ?start (fun k => { tmps := #[.slice none 0 0, .pointer (some ⟨w.heap.size, 0, none⟩), .int .i64 (row 1 (-1) 0 1 k), .agg #[.int .i64 1, .int .i64 (-1)], .func (.func 57) #[] #[.pointer (some ⟨w.heap.size + 1 + 1, 0, none⟩), .pointer (some ⟨w.heap.size + 1 + 1 + 1, 0, none⟩), .pointer (some ⟨w.heap.size + 1, 0, none⟩)], .int .i64 (row 1 (-1) 0 1 k), undef, undef, undef, undef, undef, undef, undef, undef], defers := [] }) ?assign ?body ?stop
  case own =>
    rintro k A V row ⟨x0, ⟨v, hv, hr⟩, ⟨x1, x2, x3, x4⟩, hsz, hb⟩ hg hrow
    have hr' := fun r e => (hrow r e).2
    obtain ⟨v', hv', hr2, _⟩ := holdsRow_own (β := Nat) (w.heap.size + 4) w.heap.size 24 3 1 (fun k => k) (fun k => natCells (fibT.take k)) (fun _ _ => True) k A V row ⟨v, hv, hr, trivial⟩ hg hr'
    have hgs := hg.size
    exact ⟨x0, ⟨v', hv', hr2⟩, ⟨cell_kept x1 hg hr', cell_kept x2 hg hr', cell_kept x3 hg hr', cell_kept x4 hg hr'⟩, by omega, hb.grown hg hb.size (fun k e => by have := (hrow k e).1; simp at this; omega)⟩
  case ownX =>
    rintro c k A V row ⟨x0, ⟨v, hv, hr⟩, hb⟩ hg hrow
    have hr' := fun r e => (hrow r e).2
    obtain ⟨v', hv', hr2, _⟩ := holdsRow_own (β := Nat) (w.heap.size + 4) w.heap.size 24 3 1 (fun k => k) (fun k => natCells (fibT.take k)) (fun _ _ => True) 23 A V row ⟨v, hv, hr, trivial⟩ hg hr'
    exact ⟨x0, ⟨v', hv', hr2⟩, hb.grown hg hb.size (fun k e => by have := (hrow k e).1; simp at this; omega)⟩
  case start =>
    have bO := Boxed.new w 24 (.slice none 0 0)
    exact ⟨by omega, ⟨_, ((bO.alloc _).alloc _).alloc _, World.ownsRow_nil _ _ _ _⟩, ⟨by go_simp, by go_simp, by go_simp, by go_simp⟩, (by first | (simp; done) | (simp; omega)), by (repeat (first | exact Below.refl _ _ | refine Below.setCell ?_ (by first | omega | (simp <;> omega)) _ | refine Below.alloc ?_ (by first | omega | (simp <;> omega)) _ | refine Below.drew ?_ | refine Below.trans ?_ (Below.mono (by assumption) (by first | omega | (simp <;> omega))) | refine Below.grown ?_ (by assumption) (by first | omega | (simp <;> omega)) (fun k e => by cases e; first | omega | (simp <;> omega))))⟩
  case assign =>
    intro l k W K hK
    gi_wp2
    exact hK
  case body =>
    rintro l k W hk ⟨x0, ⟨v, hv, hrow⟩, ⟨x1, x2, x3, x4⟩, hsz, hB⟩
    have hc := hv.cell
    have hne := fib_cells k hk
    gi_wp2_with (gi_at_builtin; refine wpListIn_append_own _ rfl _ _ 24 rfl (w.heap.size + 4) 3 i0 (.int .i64 0) 1 8 Try.underlying24 hi0 hzi0 hzi1 hzi2 rfl (by decide) _ _ _ rfl (hrow.alloc _) ⟨W.heap.size, 0, none⟩ 1 1 [.int .i64 (row 1 (-1) 0 1 k)] rfl rfl (cell_one_new _ _ _) (by simp [Value.oneCell']) (by unfold maxLen; omega) (by omega) (by simp; omega) ?_; intro v' w3 hown' hgrow _; rw [hne] at hown'; obtain ⟨g', cap', rfl⟩ := ownsRow_succ hown'; obtain ⟨hv1, hv2, hr2, hk2, hb2, hf2⟩ := appended_far hv (by decide) hrow hB.size (by omega) (by omega) hsz hown' hgrow; have hc1 := hv1.cell; have hf1 := hv1.frozen; have hc2 := hv2.cell; have y1 := (hf2 (w.heap.size + 1) 0 (by omega) (by omega)).trans x1; have y2 := (hf2 (w.heap.size + 1) 1 (by omega) (by omega)).trans x2; have y3 := (hf2 (w.heap.size + 1 + 1) 0 (by omega) (by omega)).trans x3; have y4 := (hf2 (w.heap.size + 1 + 1 + 1) 0 (by omega) (by omega)).trans x4; have hz2 := hb2.size; have HV2 := Lib.hid hv2; have HR2 := Lib.hid hr2; have HK2 := Lib.hid hk2; have HB2 := Lib.hid (hB.trans hb2); clear hf2 hv2 hr2 hk2 hb2 hown' hgrow hc)
    all_goals first
      | exact ⟨HK2.out, by omega, by omega, ⟨_, HV2.out, HR2.out⟩, ⟨y1, y2, y3, y4⟩, by omega, HB2.out⟩
      | (obtain rfl : k = 22 := by omega
         exact ⟨HK2.out, rfl, ⟨_, HV2.out, HR2.out⟩, HB2.out⟩)
  case stop =>
    rintro D k c W hD hk ⟨rfl, ⟨v, hv, hrow⟩, hB⟩ hK
    have hc := hv.cell
    have hD' : w.heap.size ≤ D := by simp at hD; omega
    obtain ⟨g, cg, rfl⟩ := ownsRow_succ hrow
    gi_wp2
    refine ⟨by simp, .inl ⟨_, _, rfl, run_takeDeferred hK, ?_⟩⟩
    have hr2 := ownsRow_putObj hrow (.deferred none) hK rfl
    have hl := hr2.lt g rfl
    have hB2 := hB.grown (grownBy_putObj' _ D (.deferred none)) hB.size (fun k e => by cases e; exact hD')
    exact ⟨_, results_tmp rfl _ _ _, g, cg, rfl, by omega, hl.2, fun i hi => own_cell (hr2.cells rfl) (fib_at i hi), hB2⟩
set_option maxHeartbeats 1000000 in
theorem greatBy_any (g n c : Nat) (w : World) : Calls Try.prog 38 #[.slice (some ⟨g, 0, none⟩) n c] w fun e w' => e = .returned (.func (.func 52) #[] #[.pointer (some ⟨w.heap.size, 0, none⟩)]) ∧ w' = w.alloc (.cells #[.slice (some ⟨g, 0, none⟩) n c] 24) := by
  have hmf : ∀ (fn : Fn) (first cap : Array Value) (w : World), (Instr.makeFunc fn first cap).run Try.prog w = .ok (.func fn first cap) w := fun _ _ _ _ => rfl
  go_enter Try.func38, Try.ntmps38
  go_wp2
  go_ret
  exact ⟨rfl, rfl⟩
set_option maxHeartbeats 4000000 in
theorem greatIn_at (b g c n k : Nat) (w : World) (hb : w.cell? ⟨b, 0, none⟩ = some (.slice (some ⟨g, 0, none⟩) 23 c)) (hc : ∀ i, i < 23 → w.cell? ⟨g, i, none⟩ = some (.int .i64 (fibN i : Nat))) (k2 : 2 ≤ k) (k9 : k ≤ 21) (h1 : fibN k ≤ n) (h2 : n < fibN (k + 1)) :
    Calls Try.prog 52 #[.int .i64 n, .pointer (some ⟨b, 0, none⟩)] w fun e w' => e = .returned (.int .i64 k) ∧ w = w' := by
  have HC := Lib.hid hc
  clear hc
  go_enter Try.func52, Try.ntmps52
  go_wp2
  go_loop [4] (fun x => ∃ j : Nat, k ≤ j ∧ j ≤ 22 ∧ x = .int .i64 j) (fun x => (intOf x).toNat)
  case atStart => exact ⟨22, by omega, by omega, rfl⟩
  case round =>
    obtain ⟨j, j1, j2, rfl⟩ := hrel
    have hcell := HC.out j (by omega)
    have hfb := fibN_bd j (by omega)
    have j0 : (0 : Int) ≤ (j : Int) := by omega
    have j23 : (j : Int) < 23 := by omega
    by_cases hj : j = k
    · subst hj
      have hd : ((fibN j : Nat) : Int) ≤ (n : Int) := by omega
      obtain ⟨u, hu⟩ : ∃ u, fibN j = u := ⟨_, rfl⟩
      rw [hu] at hcell hd hfb
      clear hu h1 h2
      go_wp2
      go_ret
      exact ⟨rfl, rfl⟩
    · have hm := fibN_mono (k + 1) (by omega) j (by omega) (by omega) (by omega)
      have hd : (n : Int) < ((fibN j : Nat) : Int) := by omega
      obtain ⟨u, hu⟩ : ∃ u, fibN j = u := ⟨_, rfl⟩
      rw [hu] at hcell hd hfb hm
      clear hu h1 h2 hm
      go_wp2
      go_round
      case rel => exact ⟨j - 1, by omega, by omega, congrArg (Value.int .i64) (by omega)⟩
      case measure => simp [intOf]; omega
theorem zeckFrom_low : ∀ (d k n : Nat), k + d < 24 → n < fibN (k + 1) → 1 ≤ k → zeckFrom (k + d) n = zeckFrom k n
  | 0, k, n, _, _, _ => rfl
  | d + 1, k, n, h, hn, hk => by
    rw [← zeckFrom_low d k n (by omega) hn hk]
    obtain ⟨k, rfl⟩ : ∃ t, k = t + 1 := ⟨k - 1, by omega⟩
    have := fibN_mono (k + 1 + 1) (by omega) (k + 1 + (d + 1)) (by omega) (by omega) (by omega)
    rw [show k + 1 + (d + 1) = k + d + 2 by omega] at this ⊢
    rw [zeckFrom_no (by omega), show k + 1 + d = k + d + 1 by omega]
theorem zeckFrom_peel : ∀ (k n : Nat), k < 23 → 0 < n → n < fibN (k + 1) → ∃ x, 2 ≤ x ∧ x ≤ k ∧ fibN x ≤ n ∧ n < fibN (x + 1) ∧ zeckFrom k n = x :: zeckFrom k (n - fibN x)
  | 0, n, _, h0, h1 => by have : fibN (0 + 1) = 1 := rfl; omega
  | 1, n, _, h0, h1 => by have : fibN (1 + 1) = 1 := rfl; omega
  | k + 2, n, hk, h0, h1 => by
    by_cases h : fibN (k + 2) ≤ n
    · refine ⟨k + 2, by omega, Nat.le_refl _, h, h1, ?_⟩
      rw [zeckFrom_yes h0 h]
      have e : fibN (k + 2 + 1) = fibN (k + 2) + fibN (k + 1) := fibN_next (k + 1) (by omega)
      have e2 : fibN (k + 2) = fibN (k + 1) + fibN k := fibN_next k (by omega)
      rw [show k + 2 = k + 1 + 1 from rfl, zeckFrom_low 1 (k + 1) _ (by omega) (show n - fibN (k + 2) < fibN (k + 1 + 1) by show _ < fibN (k + 2); omega) (by omega)]
    · obtain ⟨x, x1, x2, x3, x4, x5⟩ := zeckFrom_peel (k + 1) n (by omega) h0 (show n < fibN (k + 2) by omega)
      refine ⟨x, x1, by omega, x3, x4, ?_⟩
      rw [zeckFrom_no (by omega), x5, show k + 2 = k + 1 + 1 from rfl, zeckFrom_low 1 (k + 1) _ (by omega) (show n - fibN x < fibN (k + 1 + 1) by show _ < fibN (k + 2); omega) (by omega)]
theorem zeck_peel {n : Nat} (h0 : 0 < n) (h9 : n ≤ 10000) : ∃ x, 2 ≤ x ∧ x ≤ 20 ∧ fibN x ≤ n ∧ n < fibN (x + 1) ∧ zeck n = x :: zeck (n - fibN x) :=
  zeckFrom_peel 20 n (by omega) h0 (Nat.lt_of_le_of_lt h9 (by decide))
theorem zeck_zero : zeck 0 = [] := rfl
set_option maxHeartbeats 400000 in
theorem writtenOk_any (n : Int) (w : World) : Calls Try.prog 36 #[.int .i64 n] w fun e w' => e = .returned (.bool (inB n 0 10000)) ∧ w = w' := by
  go_enter Try.func36, Try.ntmps36
  by_cases h1 : 0 ≤ n
  · by_cases h2 : n ≤ 10000
    · go_wp2
      go_ret
      exact ⟨ret_bool (inB_mk h1 h2).symm, rfl⟩
    · have h3 : 10000 < n := by omega
      go_wp2
      go_ret
      exact ⟨ret_bool (by simp [inB]; omega), rfl⟩
  · have h3 : n < 0 := by omega
    go_wp2
    go_ret
    exact ⟨ret_bool (by simp [inB]; omega), rfl⟩
theorem writtenOk_is (n : Int) (c : Bool) (w : World) (h : inB n 0 10000 = c) : Calls Try.prog 36 #[.int .i64 n] w fun e w' => e = .returned (.bool c) ∧ w = w' := by rw [← h]; exact writtenOk_any n w
set_option maxRecDepth 100000 in
set_option maxHeartbeats 4000000 in
theorem implPlaces_yes (n : Nat) (w : World) (n9 : n ≤ 10000) : Calls Try.prog 14 #[.int .i64 n] w (ListOf (zeck n) w) := by
  obtain ⟨i0, hi0, hz0, hzs1, hz2⟩ := info_parts info_int
  go_enter Try.func14, Try.ntmps14
  go_wp2_with fail
  refine (writtenOk_is n true _ (inB_mk (by omega) (by omega))).mono ?_
  rintro e wx ⟨rfl, rfl⟩
  go_wp2_with fail
  refine (fibRow_any _).mono ?_
  rintro e w1 ⟨gR, cR, rfl, hg1, hg2, hcl, hh1⟩
  have hz1 := hh1.size
  go_wp2_with fail
  refine (greatBy_any _ _ _ _).mono ?_
  rintro e w2 ⟨rfl, hw2⟩
  have hbx : w2.cell? ⟨w1.heap.size, 0, none⟩ = some (.slice (some ⟨gR, 0, none⟩) 23 cR) := by rw [hw2]; go_simp
  have hcl2 : ∀ i, i < 23 → w2.cell? ⟨gR, i, none⟩ = some (.int .i64 (fibN i : Nat)) := fun i hi => by rw [hw2]; exact (World.cell?_alloc_past _ _ _ (by show gR < _; omega)).trans (hcl i hi)
  have hB2 : Below w.heap.size w w2 := by rw [hw2]; exact hh1.alloc hz1 _
  have hz2' : w2.heap.size = w1.heap.size + 1 := by rw [hw2]; simp
  have HCL := Lib.hid hcl2
  clear hcl hcl2 hw2 hh1
  go_wp2_with fail
  go_loopw [5, 6, 7] (fun u x _ wr => ∃ (y cO : Nat) (aO : Option Addr) (P : List Nat), u = .slice aO P.length cO ∧ x = .int .i64 y ∧ wr.ownsRow (w1.heap.size + 1) 3 1 u P.length (natCells P) ∧
      P ++ zeck y = zeck n ∧ y ≤ n ∧ (w1.heap.size + 1) ≤ wr.heap.size ∧ wr.cell? ⟨w1.heap.size, 0, none⟩ = some (.slice (some ⟨gR, 0, none⟩) 23 cR) ∧ (∀ i, i < 23 → wr.cell? ⟨gR, i, none⟩ = some (.int .i64 (fibN i : Nat))) ∧ Below w.heap.size w wr) (fun _ x _ _ => (intOf x).toNat)
  case atStart => exact ⟨n, 0, none, [], rfl, rfl, World.ownsRow_nil _ _ _ _, rfl, Nat.le_refl _, by omega, hbx, HCL.out, hB2⟩
  case round =>
    obtain ⟨y, cO, aO, P, rfl, rfl, hown, hP, hyn, hsz, hb, hc, hB⟩ := hrel
    by_cases hy : y = 0
    · subst hy
      have hL := Lib.hid (show P = zeck n by rw [← hP, zeck_zero, List.append_nil])
      have HO := Lib.hid hown
      clear hP hown hc
      go_wp2
      go_ret
      have hr := HO.out
      rw [natCells_range] at hr
      exact ⟨_, rfl, by rw [← hL.out]; exact (IsInts.of_owns hr).mono (by omega) (Nat.le_refl _) (Nat.le_refl _), hB⟩
    · obtain ⟨x, x2, x20, xf, xg, hx⟩ := zeck_peel (n := y) (by omega) (by omega)
      have hPn := Lib.hid (show (P ++ [x]) ++ zeck (y - fibN x) = zeck n by rw [← hP, hx, List.append_assoc]; rfl)
      have HCE := Lib.hid (show natCells P ++ [.int .i64 (x : Int)] = natCells (P ++ [x]) by simp [natCells])
      have HL := Lib.hid (show P.length + 1 = (P ++ [x]).length by simp)
      have hlen : P.length ≤ 20 := by have := congrArg List.length hP; have h2 := zeck_len n; simp at this; omega
      have hy0 : (0 : Int) < (y : Int) := by omega
      have HC := Lib.hid hc
      have HO := Lib.hid hown
      have hfp := fibN_pos x (by omega) (by omega)
      clear hP hx hc hown
      go_wp2_with fail
      refine (greatIn_at w1.heap.size gR cR y x _ hb HC.out x2 (by omega) xf xg).mono ?_
      rintro e wx ⟨rfl, rfl⟩
      have hown := HO.out
      have hc := HC.out
      have hlk := hown.lt
      have hwz := hB.size
      obtain ⟨G, hG⟩ : ∃ G, fibN x = G := ⟨_, rfl⟩
      rw [hG] at xf hPn hfp
      have x0 : (0 : Int) ≤ (x : Int) := by omega
      have x23 : (x : Int) < 23 := by omega
      go_wp2_with (first | (at_builtin; refine wpList_append_lies _ (by rfl) _ _ _ (by rfl) (w1.heap.size + 1) 3 i0 _ 1 8 Try.underlying24 hi0 hz0 hzs1 hz2 rfl (by omega) _ P.length (natCells P) (by rfl) (hown.alloc _) ⟨wr.heap.size, 0, none⟩ 1 1 [.int .i64 (x : Int)] (by rfl) (by rfl) (World.news_of_block (cs := #[.int .i64 (x : Int)]) (t := 3) (fr := (0, 0)) (heap_alloc_new wr _)) (by simp [Value.oneCell']) (by omega) (by unfold maxLen; omega) (by omega) (by simp; omega) (wr.heap.size + 1) (by simp) ?_))
      intro g1 c1 w4 hown4 hgrow4 hat4 hlt4
      have hkeep : ∀ c o v, c < (w1.heap.size + 1) → wr.cell? ⟨c, o, none⟩ = some v → w4.cell? ⟨c, o, none⟩ = some v := fun c o v hcl hv =>
        (hgrow4.cell_far ⟨c, o, none⟩ (by simp; omega) (fun e => by have := (hlk c e.symm).1; omega)).trans ((World.cell?_alloc_past _ _ _ (by show c < _; omega)).trans hv)
      have hc4 : ∀ i, i < 23 → w4.cell? ⟨gR, i, none⟩ = some (.int .i64 (fibN i : Nat)) := fun i hi => hkeep gR i _ (by omega) (hc i hi)
      have hb4 := hkeep w1.heap.size 0 _ (by omega) hb
      have hct4 : w4.cell? ⟨gR, x, none⟩ = some (.int .i64 (G : Nat)) := by rw [← hG]; exact hc4 x (by omega)
      rw [HCE.out] at hown4
      have hz4 : wr.heap.size + 1 ≤ w4.heap.size := by have := hgrow4.size; simpa using this
      have hB4 : Below w.heap.size w w4 := (hB.alloc hwz _).grown hgrow4 (by simp; omega) (fun k e => by have := hlk _ e; omega)
      have HC4 := Lib.hid hc4
      clear hown hgrow4 hlk hat4 hc hkeep hc4
      go_wp2
      go_roundw
      case rel => exact ⟨y - G, c1, some ⟨g1, 0, none⟩, P ++ [x], by rw [← HL.out], congrArg (Value.int .i64) (by omega), by rw [← HL.out]; exact hown4, hPn.out, by omega, by omega, hb4, HC4.out, hB4⟩
      case measure => simp [intOf]; omega
theorem implPlaces_any (n : Int) (w : World) : Calls Try.prog 14 #[.int .i64 n] w (ListOf (placesL n) w) := by
  cases h : inB n 0 10000 with
  | true =>
    obtain ⟨h1, h2⟩ := inB_true h
    obtain ⟨m, rfl⟩ := Int.eq_ofNat_of_zero_le h1
    have := implPlaces_yes m w (by omega)
    rw [placesL_is (by omega)]; exact this
  | false =>
    have e : placesL n = [] := by
      rcases inB_false h with h1 | h1
      · rw [placesL, if_pos (by omega), show n.toNat = 0 by omega]; rfl
      · rw [placesL, if_neg (by omega)]
    rw [e]
    go_enter Try.func14, Try.ntmps14
    go_wp2_with fail
    refine (writtenOk_is n false _ h).mono ?_
    rintro e wx ⟨rfl, rfl⟩
    go_wp2
    go_ret
    exact ⟨_, rfl, IsInts.nil _ _ _, Below.refl _ _⟩
end Go.Proofs.Ytodeifciedjfgaa
namespace Go.Proofs.Ytodeifciedjfgaa
open Go.RowKit
/-- A one or a nought. -/
def bitS (b : Bool) : ByteArray := if b then ⟨#[49]⟩ else ⟨#[48]⟩
/-- The first c signs of what is written of places, from place h down. -/
def wrT (L : List Nat) (h : Nat) : Nat → ByteArray
  | 0 => ⟨#[]⟩
  | c + 1 => wrT L h c ++ bitS (L.contains (h - c))
theorem bitS_size (b : Bool) : (bitS b).size = 1 := by cases b <;> rfl
theorem wrT_size (L : List Nat) (h : Nat) : ∀ c, (wrT L h c).size = c
  | 0 => rfl
  | c + 1 => by rw [wrT, ByteArray.size_append, wrT_size L h c, bitS_size]
def writtenT (n : Nat) : ByteArray := if n = 0 then ⟨#[48]⟩ else wrT (zeck n) ((zeck n).getD 0 0) ((zeck n).getD 0 0 - 1)
def writtenV (n : Int) : ByteArray := if inB n 0 10000 = true then writtenT n.toNat else ⟨#[]⟩
theorem writtenV_no {n : Int} (h : inB n 0 10000 = false) : writtenV n = ⟨#[]⟩ := by rw [writtenV, if_neg (by simp [h])]
theorem writtenV_is {n : Nat} (h : inB (n : Int) 0 10000 = true) : writtenV n = writtenT n := by rw [writtenV, if_pos h]; rfl
theorem contains_next {L : List Nat} {k p : Nat} (hk : k < L.length) : (L.take (k + 1)).contains p = ((L.take k).contains p || L.getD k 0 == p) := by
  have e : L.getD k 0 = L[k] := by simp [hk]
  rw [List.take_succ_eq_append_getElem hk, e, Bool.eq_iff_iff]
  simp only [List.contains_iff_mem, List.mem_append, List.mem_singleton, Bool.or_eq_true, beq_iff_eq]
  constructor <;> rintro (h | h) <;> first | exact .inl h | exact .inr h.symm
theorem zeckFrom_some : ∀ (k n : Nat), 2 ≤ k → 0 < n → zeckFrom k n ≠ []
  | 0, _, h, _ => by omega
  | 1, _, h, _ => by omega
  | 2, n, _, h0 => by rw [zeckFrom, if_pos ⟨h0, by show 1 ≤ n; omega⟩]; simp
  | k + 3, n, _, h0 => by
    rw [zeckFrom]
    split
    · simp
    · exact zeckFrom_some (k + 2) n (by omega) h0
theorem ret_string {a b : ByteArray} (h : a = b) : Ending.returned (.string a) = .returned (.string b) := by rw [h]
set_option maxRecDepth 100000 in
set_option maxHeartbeats 8000000 in
theorem specWritten_any (n : Int) (w : World) : Calls Try.prog 21 #[.int .i64 n] w fun e w' => e = .returned (.string (writtenV n)) ∧ Below w.heap.size w w' := by
  cases hn : inB n 0 10000 with
  | false =>
    have HV := Lib.hid (writtenV_no hn)
    have HN := Lib.hid hn
    clear hn
    go_enter Try.func21, Try.ntmps21
    go_wp2_with fail
    refine (specPlaces_any _ _).mono ?_
    rintro e w1 ⟨u1, rfl, hI1, hh1⟩
    have hz1 := hh1.size
    clear hI1
    go_wp2_with fail
    refine (l1In_no n 0 10000 _ HN.out).mono ?_
    rintro e wx ⟨rfl, rfl⟩
    go_wp2
    go_ret
    exact ⟨ret_string HV.out.symm, by (repeat (first | exact Below.refl _ _ | refine Below.setCell ?_ (by first | omega | (simp <;> omega)) _ | refine Below.alloc ?_ (by first | omega | (simp <;> omega)) _ | refine Below.drew ?_ | refine Below.trans ?_ (Below.mono (by assumption) (by first | omega | (simp <;> omega))) | refine Below.grown ?_ (by assumption) (by first | omega | (simp <;> omega)) (fun k e => by cases e; first | omega | (simp <;> omega))))⟩
  | true =>
    obtain ⟨n1, n2⟩ := inB_true hn
    obtain ⟨m, rfl⟩ := Int.eq_ofNat_of_zero_le n1
    have HV := Lib.hid (writtenV_is hn)
    have HN := Lib.hid hn
    by_cases h0 : m = 0
    · subst h0
      have HF := Lib.hid (show writtenV 0 = ⟨#[48]⟩ from HV.out)
      have HN0 := Lib.hid (show inB 0 0 10000 = true from HN.out)
      show Calls _ _ #[.int .i64 0] w fun e w' => e = .returned (.string (writtenV 0)) ∧ Below w.heap.size w w'
      clear hn HV HN
      go_enter Try.func21, Try.ntmps21
      go_wp2_with fail
      refine (specPlaces_any 0 _).mono ?_
      rintro e w1 ⟨u1, rfl, hI1, hh1⟩
      have hz1 := hh1.size
      clear hI1
      go_wp2_with fail
      refine (l1In_yes _ 0 10000 _ HN0.out).mono ?_
      rintro e wx ⟨rfl, rfl⟩
      go_wp2
      go_ret
      exact ⟨ret_string HF.out.symm, by (repeat (first | exact Below.refl _ _ | refine Below.setCell ?_ (by first | omega | (simp <;> omega)) _ | refine Below.alloc ?_ (by first | omega | (simp <;> omega)) _ | refine Below.drew ?_ | refine Below.trans ?_ (Below.mono (by assumption) (by first | omega | (simp <;> omega))) | refine Below.grown ?_ (by assumption) (by first | omega | (simp <;> omega)) (fun k e => by cases e; first | omega | (simp <;> omega))))⟩
    · have hm0 : ((m : Int) == 0) = false := by simp; omega
      have HL := Lib.hid (placesL_is (n := m) (by omega))
      have hne := zeckFrom_some 20 m (by omega) (by omega)
      have hT : writtenT m = wrT (zeck m) ((zeck m).getD 0 0) ((zeck m).getD 0 0 - 1) := by rw [writtenT, if_neg h0]
      have hlen := zeck_len m
      have hbd := zeck_bd m
      have hpos : 0 < (zeck m).length := List.length_pos_iff.2 hne
      obtain ⟨h1, h2⟩ := hbd 0 hpos
      obtain ⟨L, hL⟩ : ∃ L, zeck m = L := ⟨_, rfl⟩
      rw [hL] at HL hT hlen hbd hpos h1 h2
      obtain ⟨h, hh⟩ : ∃ h, L.getD 0 0 = h := ⟨_, rfl⟩
      rw [hh] at hT h1 h2
      have HT := Lib.hid (HV.out.trans hT)
      have HH := Lib.hid hh
      clear hn hne hT hbd hL hh HV
      go_enter Try.func21, Try.ntmps21
      go_wp2_with fail
      refine (specPlaces_any _ _).mono ?_
      rintro e w1 ⟨u1, rfl, hI1, hh1⟩
      have hz1 := hh1.size
      rw [HL.out] at hI1
      obtain ⟨a1, c1, rfl, hC1, hs1⟩ := hI1
      rcases hs1 with hs1 | ⟨g, o, rfl, hg1, hg2, hc, hf⟩
      · omega
      have hc0 : w1.cell? ⟨g, o, none⟩ = some (.int .i64 (h : Int)) := by have := hc 0 hpos; simp only [Nat.add_zero, HH.out] at this; exact this
      have hl0 : (0 : Int) < (L.length : Int) := by omega
      have HC := Lib.hid hc
      clear hc hf
      go_wp2_with fail
      refine (l1In_yes _ 0 10000 _ HN.out).mono ?_
      rintro e wx ⟨rfl, rfl⟩
      go_wp2_with fail
      go_loopw [4, 5, 6, 7] (fun x y _ _ wr => ∃ c : Nat, c + 1 ≤ h ∧ x = .string (wrT L h c) ∧ y = .int .i64 ((h - c : Nat) : Int) ∧ w1 = wr) (fun _ y _ _ _ => (intOf y).toNat)
      case atStart => exact ⟨0, by omega, rfl, rfl, rfl⟩
      case round =>
        obtain ⟨c, hch, rfl, rfl, rfl⟩ := hrel
        obtain ⟨p, hp⟩ : ∃ p, h - c = p := ⟨_, rfl⟩
        rw [hp]
        by_cases h2p : 2 ≤ p
        · have h2i : (2 : Int) ≤ (p : Int) := by omega
          have hp20 : p ≤ 20 := by omega
          have HW := Lib.hid (show wrT L h (c + 1) = wrT L h c ++ bitS (L.contains p) by rw [wrT, hp])
          have hqs := wrT_size L h c
          obtain ⟨q, hq⟩ : ∃ q, wrT L h c = q := ⟨_, rfl⟩
          rw [hq] at HW hqs ⊢
          have hq20 : q.size ≤ 20 := by omega
          clear hqs
          have HPC := Lib.hid hp
          clear hp hq
          go_wp2_with fail
          go_loop [6, 7] (fun b y => ∃ k : Nat, k ≤ L.length ∧ y = .int .i64 k ∧ b = .string (bitS ((L.take k).contains p))) (fun _ y => 40 - (intOf y).toNat)
          case atStart => exact ⟨0, by omega, rfl, rfl⟩
          case round =>
            obtain ⟨k, hk, rfl, rfl⟩ := hrel
            by_cases hlt : k < L.length
            · have hki : (k : Int) < (L.length : Int) := by omega
              have k0 : (0 : Int) ≤ (k : Int) := by omega
              have hck : w1.cell? ⟨g, o + k, none⟩ = some (.int .i64 ((L.getD k 0 : Nat) : Int)) := HC.out k hlt
              have hnx := contains_next (p := p) hlt
              obtain ⟨x, hx⟩ : ∃ x, L.getD k 0 = x := ⟨_, rfl⟩
              rw [hx] at hck hnx
              by_cases hxp : x = p
              · subst hxp
                have HX := Lib.hid (show (L.take (k + 1)).contains x = true by rw [hnx]; simp)
                clear hx hnx
                go_wp2
                go_round
                case rel => exact ⟨k + 1, by omega, congrArg (Value.int .i64) (by omega), by rw [HX.out]; rfl⟩
                case measure => simp [intOf]; omega
              · have hxb : ((x : Int) == (p : Int)) = false := by simp; omega
                have HX := Lib.hid (show (L.take (k + 1)).contains p = (L.take k).contains p by rw [hnx]; simp [hxp])
                obtain ⟨b, hb⟩ : ∃ b, (L.take k).contains p = b := ⟨_, rfl⟩
                rw [hb] at HX ⊢
                clear hx hnx hb
                go_wp2
                go_round
                case rel => exact ⟨k + 1, by omega, congrArg (Value.int .i64) (by omega), by rw [HX.out]⟩
                case measure => simp [intOf]; omega
            · obtain rfl : k = L.length := by omega
              rw [List.take_length]
              obtain ⟨b, hb⟩ : ∃ b, L.contains p = b := ⟨_, rfl⟩
              rw [hb] at HW ⊢
              have hbs := bitS_size b
              have hsum : q.size + (bitS b).size ≤ 9223372036854775807 := by omega
              clear hb hbs
              go_wp2
              go_roundw
              case rel => exact ⟨c + 1, by have := HPC.out; omega, by rw [HW.out], congrArg (Value.int .i64) (by have := HPC.out; omega), (by first | rfl | trivial)⟩
              case measure => simp [intOf]; omega
        · have hp1 : p = 1 := by omega
          have hcc : c = h - 1 := by omega
          subst hcc
          have h2i : (p : Int) < 2 := by omega
          obtain ⟨q, hq⟩ : ∃ q, wrT L h (h - 1) = q := ⟨_, rfl⟩
          rw [hq] at HT ⊢
          clear hq
          go_wp2
          go_ret
          exact ⟨ret_string HT.out.symm, by (repeat (first | exact Below.refl _ _ | refine Below.setCell ?_ (by first | omega | (simp <;> omega)) _ | refine Below.alloc ?_ (by first | omega | (simp <;> omega)) _ | refine Below.drew ?_ | refine Below.trans ?_ (Below.mono (by assumption) (by first | omega | (simp <;> omega))) | refine Below.grown ?_ (by assumption) (by first | omega | (simp <;> omega)) (fun k e => by cases e; first | omega | (simp <;> omega))))⟩
end Go.Proofs.Ytodeifciedjfgaa
namespace Go.Proofs.Ytodeifciedjfgaa
open Go.RowKit
theorem bl_size (a : ByteArray) : a.data.toList.length = a.size := by rw [Array.length_toList]; rfl
theorem bl_loop (a : ByteArray) : ∀ (n i : Nat) (r : List UInt8), a.size - i = n → ByteArray.toList.loop a i r = r.reverse ++ a.data.toList.drop i := by
  intro n
  induction n with
  | zero =>
    intro i r h
    rw [ByteArray.toList.loop]
    have h1 : ¬ i < a.size := by omega
    have h2 : a.data.toList.length ≤ i := by rw [bl_size]; omega
    rw [if_neg h1, List.drop_eq_nil_of_le h2, List.append_nil]
  | succ n ih =>
    intro i r h
    rw [ByteArray.toList.loop]
    have h1 : i < a.size := by omega
    rw [if_pos h1, ih (i + 1) _ (by omega)]
    have h2 : i < a.data.toList.length := by rw [bl_size]; exact h1
    have h3 : i < a.data.size := h1
    have e : a.get! i = a.data.toList[i] := by
      rw [Array.getElem_toList]
      exact getElem!_pos a.data i h3
    rw [List.drop_eq_getElem_cons h2, e, List.reverse_cons, List.append_assoc]
    rfl
theorem bl_toList (a : ByteArray) : a.toList = a.data.toList := by
  rw [ByteArray.toList, bl_loop a a.size 0 [] (by omega)]; rfl
theorem bl_eq (a b : ByteArray) : (a.toList == b.toList) = (a.data.toList == b.data.toList) := by rw [bl_toList, bl_toList]
def byteAt (s : ByteArray) (k : Nat) : Nat := (s.data.getD k 0).toNat
/-- The sum that the first k signs tell. -/
def readS (s : ByteArray) : Nat → Nat
  | 0 => 0
  | k + 1 => readS s k + (if byteAt s k = 49 then fibN (s.size - 1 - k + 2) else 0)
def readB (s : ByteArray) : Bool := (decide (1 ≤ s.size) && decide (s.size ≤ 19)) && (((List.range s.size).all fun k => byteAt s k == 48 || byteAt s k == 49) && (writtenV (readS s s.size)).data.toList == s.data.toList)
def readV (s : ByteArray) : Int := if readB s = true then (readS s s.size : Int) else -1
theorem readV_no {s : ByteArray} (h : readB s = false) : readV s = -1 := by rw [readV, if_neg (by simp [h])]
theorem readV_is {s : ByteArray} (h : readB s = true) : readV s = (readS s s.size : Int) := by rw [readV, if_pos h]
theorem byteAt_is {s : ByteArray} {k : Nat} (h : k < s.size) : byteAt s k = (s[k]'h).toNat := by
  have h' : k < s.data.size := h
  rw [byteAt, Array.getD_eq_getD_getElem?, Array.getElem?_eq_getElem h']
  rfl
theorem readS_bd (s : ByteArray) (h : s.size ≤ 19) : ∀ k, k ≤ s.size → readS s k ≤ 50000 * k
  | 0, _ => by simp [readS]
  | k + 1, hk => by
    have h1 := readS_bd s h k (by omega)
    have h2 := fibN_bd2 (s.size - 1 - k + 2) (by omega)
    rw [readS]
    split <;> omega
theorem readB_size {s : ByteArray} (h : ¬ (1 ≤ s.size ∧ s.size ≤ 19)) : readB s = false := by
  rw [readB]
  by_cases h1 : 1 ≤ s.size
  · have h2 : ¬ s.size ≤ 19 := fun h' => h ⟨h1, h'⟩
    simp [h2]
  · simp [h1]
theorem readB_sign {s : ByteArray} {k : Nat} (hk : k < s.size) (h8 : byteAt s k ≠ 48) (h9 : byteAt s k ≠ 49) : readB s = false := by
  cases hb : readB s with
  | false => rfl
  | true =>
    simp only [readB, Bool.and_eq_true] at hb
    have := List.all_eq_true.1 hb.2.1 k (by simpa using hk)
    simp only [Bool.or_eq_true, beq_iff_eq] at this
    omega
theorem readB_last {s : ByteArray} (h1 : 1 ≤ s.size) (h2 : s.size ≤ 19) (hall : ∀ i, i < s.size → byteAt s i = 48 ∨ byteAt s i = 49) : readB s = ((writtenV (readS s s.size)).data.toList == s.data.toList) := by
  have ha : ((List.range s.size).all fun k => byteAt s k == 48 || byteAt s k == 49) = true := by
    refine List.all_eq_true.2 fun k hk => ?_
    have := hall k (by simpa using hk)
    simpa using this
  rw [readB, ha]
  simp [h1, h2]
set_option maxRecDepth 100000 in
set_option maxHeartbeats 8000000 in
theorem specRead_any (s : ByteArray) (w : World) : Calls Try.prog 24 #[.string s] w fun e w' => e = .returned (.tuple #[.int .i64 (readV s), .bool (readB s)]) ∧ Below w.heap.size w w' := by
  by_cases hsz : 1 ≤ s.size ∧ s.size ≤ 19
  · obtain ⟨s1, s9⟩ := hsz
    have s1i : (1 : Int) ≤ (s.size : Int) := by omega
    have s9i : (s.size : Int) ≤ 19 := by omega
    have HBD := Lib.hid (readS_bd s s9)
    go_enter Try.func24, Try.ntmps24
    go_wp2_with fail
    refine (l10Row_any 20 _ (by omega) (by omega)).mono ?_
    rintro e w1 ⟨gR, cR, rfl, hg1, hg2, hcl, hh1⟩
    have hz1 := hh1.size
    have HCL := Lib.hid hcl
    clear hcl
    go_wp2_with fail
    go_loop [5, 6] (fun x y => ∃ k : Nat, k ≤ s.size ∧ y = .int .i64 k ∧ x = .int .i64 ((readS s k : Nat) : Int) ∧ ∀ i, i < k → byteAt s i = 48 ∨ byteAt s i = 49) (fun _ y => 30 - (intOf y).toNat)
    case atStart => exact ⟨0, by omega, rfl, rfl, fun i h => by omega⟩
    case round =>
      obtain ⟨k, hk, rfl, rfl, hall⟩ := hrel
      by_cases hlt : k < s.size
      · have hki : (k : Int) < (s.size : Int) := by omega
        have k0 : (0 : Int) ≤ (k : Int) := by omega
        have hB1 := hall
        have hbe := byteAt_is hlt
        have hcell : w1.cell? ⟨gR, s.size - 1 - k, none⟩ = some (.int .i64 (fibN (s.size - 1 - k + 2) : Nat)) := HCL.out _ (by omega)
        have hfb := fibN_bd2 (s.size - 1 - k + 2) (by omega)
        have hrb := HBD.out k hk
        have hrn : readS s (k + 1) = readS s k + (if byteAt s k = 49 then fibN (s.size - 1 - k + 2) else 0) := rfl
        obtain ⟨F, hF⟩ : ∃ F, fibN (s.size - 1 - k + 2) = F := ⟨_, rfl⟩
        rw [hF] at hcell hfb hrn
        obtain ⟨u, hu⟩ : ∃ u, readS s k = u := ⟨_, rfl⟩
        rw [hu] at hrb hrn ⊢
        obtain ⟨t, ht⟩ : ∃ t, s.size - 1 - k = t := ⟨_, rfl⟩
        rw [ht] at hcell
        have HALL := Lib.hid hall
        have e1 : (s.size : Int) - 1 - (k : Int) = (t : Int) := by omega
        have U1 : IntKind.i64.wrap ((s.size : Int) - 1) = (s.size : Int) - 1 := by rw [IntKind.wrap_i64]; omega
        have U2 : IntKind.i64.wrap ((s.size : Int) - 1 - (k : Int)) = (t : Int) := by rw [IntKind.wrap_i64]; omega
        have t0 : (0 : Int) ≤ (t : Int) := by omega
        have t19 : (t : Int) < 19 := by omega
        clear hF hu hall hB1 ht
        by_cases h8 : byteAt s k = 48
        · have hb : ((s[k]'hlt).toNat : Int) = 48 := by rw [← hbe, h8]; rfl
          have HRN := Lib.hid (show readS s (k + 1) = u by rw [hrn, if_neg (by omega)]; rfl)
          have HA2 := Lib.hid (show ∀ i, i < k + 1 → byteAt s i = 48 ∨ byteAt s i = 49 from fun i hi => by
            rcases Nat.lt_succ_iff_lt_or_eq.1 hi with h | rfl
            · exact HALL.out i h
            · exact .inl h8)
          clear hbe hrn h8 e1
          go_wp2
          go_round
          case rel => exact ⟨k + 1, by omega, congrArg (Value.int .i64) (by omega), by rw [HRN.out], HA2.out⟩
          case measure => simp [intOf]; omega
        · by_cases h9 : byteAt s k = 49
          · have hb : ((s[k]'hlt).toNat : Int) = 49 := by rw [← hbe, h9]; rfl
            have HRN := Lib.hid (show readS s (k + 1) = u + F by rw [hrn, if_pos h9])
            have HA2 := Lib.hid (show ∀ i, i < k + 1 → byteAt s i = 48 ∨ byteAt s i = 49 from fun i hi => by
              rcases Nat.lt_succ_iff_lt_or_eq.1 hi with h | rfl
              · exact HALL.out i h
              · exact .inr h9)
            clear hbe hrn h8 h9 e1
            go_wp2
            go_round
            case rel => exact ⟨k + 1, by omega, congrArg (Value.int .i64) (by omega), congrArg (Value.int .i64) (by rw [HRN.out]; omega), HA2.out⟩
            case measure => simp [intOf]; omega
          · have h8b : (((s[k]'hlt).toNat : Int) != 48) = true := by simp; omega
            have h9b : (((s[k]'hlt).toNat : Int) != 49) = true := by simp; omega
            have HB := Lib.hid (readB_sign hlt h8 h9)
            have HV := Lib.hid (readV_no HB.out)
            clear hbe hrn h8 h9 e1
            go_wp2
            go_ret2
            exact ⟨ret_int_bool HV.out.symm HB.out.symm, hh1⟩
      · obtain rfl : k = s.size := by omega
        have HB := Lib.hid (readB_last s1 s9 hall)
        have hrb := HBD.out s.size (Nat.le_refl _)
        obtain ⟨q, hq⟩ : ∃ q, writtenV (readS s s.size) = q := ⟨_, rfl⟩
        have HVI := Lib.hid (fun h : readB s = true => readV_is h)
        obtain ⟨u, hu⟩ : ∃ u, readS s s.size = u := ⟨_, rfl⟩
        rw [hu] at hq hrb HB HVI ⊢
        rw [hq] at HB
        clear hall hu
        go_wp2_with fail
        refine (specWritten_any u _).mono ?_
        rintro e w2 ⟨rfl, hh2⟩
        have hB2 : Below w.heap.size w w2 := hh1.trans (hh2.mono hh1.size)
        rw [hq]
        clear hq hh2
        cases hqs : (q.data.toList == s.data.toList) with
        | true =>
          have hqn : (q.toList == s.toList) = true := by rw [bl_eq, hqs]
          have HBB := Lib.hid (show readB s = true by rw [HB.out, hqs])
          have HV := Lib.hid (HVI.out HBB.out)
          go_wp2
          go_ret2
          exact ⟨ret_int_bool HV.out.symm HBB.out.symm, hB2⟩
        | false =>
          have hqn : (q.toList == s.toList) = false := by rw [bl_eq, hqs]
          have HBB := Lib.hid (show readB s = false by rw [HB.out, hqs])
          have HV := Lib.hid (readV_no HBB.out)
          go_wp2
          go_ret2
          exact ⟨ret_int_bool HV.out.symm HBB.out.symm, hB2⟩
  · have HB := Lib.hid (readB_size hsz)
    have HV := Lib.hid (readV_no HB.out)
    by_cases h1 : s.size < 1
    · have h1i : (s.size : Int) < 1 := by omega
      clear hsz
      go_enter Try.func24, Try.ntmps24
      go_wp2
      go_ret2
      exact ⟨ret_int_bool HV.out.symm HB.out.symm, Below.refl _ _⟩
    · have h1i : (1 : Int) ≤ (s.size : Int) := by omega
      have h9i : (19 : Int) < (s.size : Int) := by omega
      clear hsz
      go_enter Try.func24, Try.ntmps24
      go_wp2
      go_ret2
      exact ⟨ret_int_bool HV.out.symm HB.out.symm, Below.refl _ _⟩
end Go.Proofs.Ytodeifciedjfgaa
namespace Go.Proofs.Ytodeifciedjfgaa
open Go.RowKit
theorem bytes_same {a b : ByteArray} (h : a.data.toList = b.data.toList) : a = b := by
  cases a; cases b
  exact congrArg ByteArray.mk (Array.toList_inj.1 h)
theorem wrT_data (L : List Nat) (h : Nat) : ∀ c, (wrT L h c).data.toList = (List.range c).map fun i => if L.contains (h - i) = true then (49 : UInt8) else 48
  | 0 => rfl
  | c + 1 => by
    rw [wrT, ByteArray.data_append, Array.toList_append, wrT_data L h c, List.range_succ, List.map_append]
    congr 1
    show (bitS (L.contains (h - c))).data.toList = [if L.contains (h - c) = true then (49 : UInt8) else 48]
    cases L.contains (h - c) <;> rfl
theorem byteAt_list (s : ByteArray) (k : Nat) : byteAt s k = (s.data.toList.getD k 0).toNat := by rw [byteAt]; simp
theorem wrT_byte (L : List Nat) (h : Nat) {c i : Nat} (hi : i < c) : byteAt (wrT L h c) i = if L.contains (h - i) = true then 49 else 48 := by
  rw [byteAt_list, wrT_data]
  simp only [List.getD_eq_getElem?_getD, List.getElem?_map, List.getElem?_range hi, Option.map_some, Option.getD_some]
  split <;> rfl
/-- The numbers at those places up to one that a list has. -/
def placeSum (L : List Nat) : Nat → Nat
  | 0 => 0
  | 1 => 0
  | p + 2 => placeSum L (p + 1) + (if L.contains (p + 2) = true then fibN (p + 2) else 0)
theorem placeSum_congr {L M : List Nat} : ∀ (k : Nat), (∀ q, q ≤ k → L.contains q = M.contains q) → placeSum L k = placeSum M k
  | 0, _ => rfl
  | 1, _ => rfl
  | p + 2, h => by rw [placeSum, placeSum, placeSum_congr (p + 1) (fun q hq => h q (by omega)), h (p + 2) (Nat.le_refl _)]
theorem placeSum_is : ∀ (k : Nat) (L : List Nat), L.Pairwise (fun a b => b + 2 ≤ a) → (∀ x ∈ L, 2 ≤ x ∧ x ≤ k) → placeSum L k = sumAt L 0
  | 0, [], _, _ => rfl
  | 0, x :: L, _, h => by have := h x (List.mem_cons_self ..); omega
  | 1, [], _, _ => rfl
  | 1, x :: L, _, h => by have := h x (List.mem_cons_self ..); omega
  | p + 2, [], _, _ => by rw [placeSum, placeSum_is (p + 1) [] List.Pairwise.nil (fun x hx => by simp at hx)]; simp
  | p + 2, x :: L, hg, h => by
    obtain ⟨h1, h2⟩ := List.pairwise_cons.1 hg
    obtain ⟨x2, xk⟩ := h x (List.mem_cons_self ..)
    by_cases hx : x = p + 2
    · subst hx
      have hc : ((p + 2) :: L).contains (p + 2) = true := by simp
      rw [placeSum, if_pos hc, placeSum_congr (M := L) (p + 1) (fun q hq => by
        rw [Bool.eq_iff_iff, List.contains_iff_mem, List.contains_iff_mem, List.mem_cons]
        constructor
        · rintro (h' | h')
          · omega
          · exact h'
        · exact .inr),
        placeSum_is (p + 1) L h2 (fun y hy => by have := h1 y hy; have := h y (List.mem_cons_of_mem _ hy); omega), sumAt_cons, Nat.add_zero, Nat.add_comm]
    · have hc : ¬ (x :: L).contains (p + 2) = true := by
        rw [List.contains_iff_mem, List.mem_cons]
        rintro (h' | h')
        · exact hx h'.symm
        · have := h1 _ h'; omega
      rw [placeSum, if_neg hc, Nat.add_zero]
      exact placeSum_is (p + 1) (x :: L) hg (fun y hy => by
        have h3 := h y hy
        rcases List.mem_cons.1 hy with rfl | h'
        · omega
        · have := h1 y h'; omega)
theorem readS_wrT (L : List Nat) (h : Nat) (h2 : 2 ≤ h) : ∀ k, k ≤ h - 1 → readS (wrT L h (h - 1)) k + placeSum L (h - k) = placeSum L h
  | 0, _ => by simp [readS]
  | k + 1, hk => by
    have ih := readS_wrT L h h2 k (by omega)
    obtain ⟨t, ht⟩ : ∃ t, h - k = t + 2 := ⟨h - k - 2, by omega⟩
    have hb := wrT_byte L h (c := h - 1) (i := k) (by omega)
    rw [ht] at hb ih
    rw [placeSum] at ih
    rw [readS, hb, wrT_size, show h - (k + 1) = t + 1 by omega, show h - 1 - 1 - k + 2 = t + 2 by omega]
    by_cases hc : L.contains (t + 2) = true
    · rw [if_pos hc] at ih ⊢; rw [if_pos rfl]; omega
    · rw [if_neg hc] at ih ⊢; rw [if_neg (by omega)]; omega
theorem zeck_head {n : Nat} (h9 : n ≤ 10000) (h0 : 0 < n) : 2 ≤ (zeck n).getD 0 0 ∧ (zeck n).getD 0 0 ≤ 20 ∧ (zeck n).getD 0 0 ∈ zeck n ∧ ∀ x ∈ zeck n, 2 ≤ x ∧ x ≤ (zeck n).getD 0 0 := by
  have hne := zeckFrom_some 20 n (by omega) h0
  have hg := zeck_gaps h9
  have hb := fun x hx => zeckFrom_le 20 n x hx
  have hz : zeck n = zeckFrom 20 n := rfl
  rw [hz] at hg ⊢
  cases hc : zeckFrom 20 n with
  | nil => exact absurd hc hne
  | cons y L =>
    rw [hc] at hb hg
    have e : (y :: L).getD 0 0 = y := rfl
    rw [e]
    obtain ⟨_, y2, y20⟩ := hb y (List.mem_cons_self ..)
    refine ⟨y2, y20, List.mem_cons_self .., fun x hx => ⟨(hb x hx).2.1, ?_⟩⟩
    rcases List.mem_cons.1 hx with rfl | h'
    · exact Nat.le_refl _
    · have := (List.pairwise_cons.1 hg).1 x h'; omega
theorem writtenT_pos {n : Nat} (h0 : 0 < n) : writtenT n = wrT (zeck n) ((zeck n).getD 0 0) ((zeck n).getD 0 0 - 1) := by rw [writtenT, if_neg (by omega)]
theorem writtenT_size {n : Nat} (h9 : n ≤ 10000) : 1 ≤ (writtenT n).size ∧ (writtenT n).size ≤ 19 := by
  rcases Nat.eq_zero_or_pos n with h0 | h0
  · subst h0; decide
  · obtain ⟨a, b, _⟩ := zeck_head h9 h0
    rw [writtenT_pos h0, wrT_size]; omega
theorem writtenT_byte {n : Nat} (h9 : n ≤ 10000) (i : Nat) (hi : i < (writtenT n).size) : byteAt (writtenT n) i = 48 ∨ byteAt (writtenT n) i = 49 := by
  rcases Nat.eq_zero_or_pos n with h0 | h0
  · subst h0
    have : i = 0 := by have : (writtenT 0).size = 1 := rfl
                       omega
    subst this; left; rfl
  · rw [writtenT_pos h0] at hi ⊢
    rw [wrT_size] at hi
    rw [wrT_byte _ _ hi]
    split
    · exact .inr rfl
    · exact .inl rfl
theorem readS_written {n : Nat} (h9 : n ≤ 10000) : readS (writtenT n) (writtenT n).size = n := by
  rcases Nat.eq_zero_or_pos n with h0 | h0
  · subst h0; decide
  · obtain ⟨a, b, _, d⟩ := zeck_head h9 h0
    rw [writtenT_pos h0, wrT_size]
    have h1 := readS_wrT (zeck n) ((zeck n).getD 0 0) a _ (Nat.le_refl _)
    rw [show (zeck n).getD 0 0 - ((zeck n).getD 0 0 - 1) = 1 by omega] at h1
    have h2 := placeSum_is ((zeck n).getD 0 0) (zeck n) (zeck_gaps h9) d
    have h3 := zeck_sum h9
    have h4 : placeSum (zeck n) 1 = 0 := rfl
    omega
theorem writtenV_nat {n : Nat} (h : n ≤ 10000) : writtenV n = writtenT n := writtenV_is (inB_mk (by omega) (by omega))
/-- What is written is read again. -/
theorem read_written {n : Nat} (h9 : n ≤ 10000) : readB (writtenT n) = true ∧ readV (writtenT n) = n := by
  obtain ⟨h1, h2⟩ := writtenT_size h9
  have hb : readB (writtenT n) = true := by rw [readB_last h1 h2 (writtenT_byte h9), readS_written h9, writtenV_nat h9]; simp
  exact ⟨hb, by rw [readV_is hb, readS_written h9]⟩
/-- What is read is what is written. -/
theorem read_is {s : ByteArray} (h : readB s = true) : ∃ n : Nat, n ≤ 10000 ∧ readV s = n ∧ s = writtenT n := by
  have hv := readV_is h
  have h' := h
  simp only [readB, Bool.and_eq_true, decide_eq_true_iff, beq_iff_eq] at h'
  obtain ⟨⟨h1, h2⟩, _, h4⟩ := h'
  have hs : writtenV (readS s s.size) = s := bytes_same h4
  generalize readS s s.size = n at hv hs
  by_cases h9 : n ≤ 10000
  · exact ⟨n, h9, hv, by rw [← hs, writtenV_nat h9]⟩
  · rw [writtenV_no (inB_no (by omega))] at hs
    rw [← hs] at h1
    exact absurd h1 (by decide)
theorem wrT_shift (L : List Nat) (h : Nat) : ∀ c, c ≤ h → wrT (L.map (· + 1)) (h + 1) c = wrT L h c
  | 0, _ => rfl
  | c + 1, hc => by
    rw [wrT, wrT, wrT_shift L h c (by omega)]
    have e : (L.map (· + 1)).contains (h + 1 - c) = L.contains (h - c) := by
      rw [Bool.eq_iff_iff, List.contains_iff_mem, List.contains_iff_mem, List.mem_map, show h + 1 - c = h - c + 1 by omega]
      constructor
      · rintro ⟨x, hx, he⟩
        have : x = h - c := by omega
        rw [← this]; exact hx
      · intro hx; exact ⟨_, hx, rfl⟩
    rw [e]
/-- A text with a nought behind it is that of the shifted number. -/
theorem written_longer {n : Nat} (h0 : 0 < n) (h9 : n ≤ 1000) : writtenT n ++ ⟨#[48]⟩ = writtenT (sumAt (zeck n) 1) := by
  obtain ⟨a, b, c, d⟩ := zeck_head (by omega) h0
  obtain ⟨s1, s2⟩ := zeck_shift h9 (show 1 ≤ 3 by omega)
  have hpos : 0 < sumAt (zeck n) 1 := by
    rcases Nat.eq_zero_or_pos (sumAt (zeck n) 1) with h | h
    · rw [h] at s2
      have e : zeck 0 = [] := by decide +kernel
      rw [e] at s2
      have := List.map_eq_nil_iff.1 s2.symm
      rw [this] at c
      simp at c
    · exact h
  have hh : (zeck (sumAt (zeck n) 1)).getD 0 0 = (zeck n).getD 0 0 + 1 := by
    rw [s2]
    cases hz : zeck n with
    | nil => rw [hz] at c; simp at c
    | cons y L => rfl
  rw [writtenT_pos h0, writtenT_pos hpos, hh, s2]
  obtain ⟨k, hk⟩ : ∃ k, (zeck n).getD 0 0 = k + 1 := ⟨(zeck n).getD 0 0 - 1, by omega⟩
  rw [hk] at d ⊢
  rw [Nat.add_sub_cancel, Nat.add_sub_cancel, wrT, wrT_shift _ _ k (by omega)]
  have e : ((zeck n).map (· + 1)).contains (k + 1 + 1 - k) = false := by
    rw [Bool.eq_false_iff]
    intro hc
    rw [List.contains_iff_mem, List.mem_map] at hc
    obtain ⟨x, hx, he⟩ := hc
    have := d x hx
    omega
  rw [e]
  rfl
end Go.Proofs.Ytodeifciedjfgaa
namespace Go.Proofs.Ytodeifciedjfgaa
open Go.RowKit Go.Shelf
set_option maxHeartbeats 4000000 in
theorem sumShifted_at (L : List Nat) (d : Nat) (v : Value) (B C : Nat) (w : World) (hI : IsInts B C w v L.length (fun i => ((L.getD i 0 : Nat) : Int))) (hlen : L.length ≤ 21) (hb : ∀ i, i < L.length → L.getD i 0 + d ≤ 22) :
    Calls Try.prog 47 #[v, .int .i64 d] w fun e w' => e = .returned (.int .i64 (sumAt L d : Nat)) ∧ Below w.heap.size w w' := by
  obtain ⟨a, cap, rfl, hC, hs⟩ := hI
  go_enter Try.func47, Try.ntmps47
  go_wp2_with fail
  refine (fibRow_any _).mono ?_
  rintro e w1 ⟨gR, cR, rfl, hg1, hg2, hcl, hh1⟩
  have HCL := Lib.hid hcl
  have HH := Lib.hid hh1
  clear hcl
  go_wp2_with fail
  go_loop [6, 8, 12] (fun x _ y => ∃ k : Nat, k ≤ L.length ∧ y = .int .i64 k ∧ x = .int .i64 ((sumAt (L.take k) d : Nat) : Int) ∧ sumAt (L.take k) d ≤ 50000 * k) (fun _ _ y => 40 - (intOf y).toNat)
  case atStart => exact ⟨0, by omega, rfl, rfl, by simp [sumAt]⟩
  case round =>
    obtain ⟨k, hk, rfl, rfl, hsl⟩ := hrel
    by_cases hlt : k < L.length
    · rcases hs with hs | ⟨g, off, rfl, h1, h2, hc, hf⟩
      · omega
      have hsn := sumAt_next (L := L) d hlt
      have hbk := hb k hlt
      have hck := cell_below hh1 (hc k hlt)
      obtain ⟨x, hx⟩ : ∃ x, L.getD k 0 = x := ⟨_, rfl⟩
      rw [hx] at hsn hbk hck
      have hcx := HCL.out (x + d) (by omega)
      have hfb := fibN_bd (x + d) (by omega)
      obtain ⟨t, ht⟩ : ∃ t, x + d = t := ⟨_, rfl⟩
      obtain ⟨G, hG⟩ : ∃ G, fibN (x + d) = G := ⟨_, rfl⟩
      rw [hG] at hsn hcx hfb
      rw [ht] at hcx
      obtain ⟨u, hu⟩ : ∃ u, sumAt (L.take k) d = u := ⟨_, rfl⟩
      rw [hu] at hsn hsl ⊢
      have HSN := Lib.hid hsn
      have hki : (k : Int) < (L.length : Int) := by omega
      have k0 : (0 : Int) ≤ (k : Int) := by omega
      have U1 : IntKind.i64.wrap ((x : Int) + (d : Int)) = (t : Int) := by rw [IntKind.wrap_i64]; omega
      have t0 : (0 : Int) ≤ (t : Int) := by omega
      have t23 : (t : Int) < 23 := by omega
      have e2 : (x : Int) + (d : Int) = (t : Int) := by omega
      clear hx ht hG hu hsn hh1 hb
      go_wp2
      go_round
      case rel => exact ⟨k + 1, by omega, congrArg (Value.int .i64) (by omega), congrArg (Value.int .i64) (by rw [HSN.out]; omega), by rw [HSN.out]; omega⟩
      case measure => simp [intOf]; omega
    · obtain rfl : k = L.length := by omega
      clear hb hh1
      go_wp2
      go_ret
      exact ⟨ret_int (by simp), HH.out⟩
set_option maxHeartbeats 1000000 in
theorem placeIn_at (s : ByteArray) (k : Nat) (w : World) (hs : s.size ≤ 1048576) (hk : k ≤ s.size) : Calls Try.prog 46 #[.string s, .int .i64 k] w fun e w' => e = .returned (.int .i64 ((s.size + 1 - k : Nat) : Int)) ∧ w = w' := by
  go_enter Try.func46, Try.ntmps46
  go_wp2
  go_ret
  exact ⟨ret_int (by omega), rfl⟩
/-- The places of the ones among the first k signs of a text. -/
def onesL (s : ByteArray) : Nat → List Nat
  | 0 => []
  | k + 1 => onesL s k ++ (if byteAt s k = 49 then [s.size + 1 - k] else [])
theorem onesL_len (s : ByteArray) : ∀ k, (onesL s k).length ≤ k
  | 0 => Nat.le_refl _
  | k + 1 => by
    have := onesL_len s k
    rw [onesL, List.length_append]
    split <;> simp <;> omega
theorem onesL_bd (s : ByteArray) : ∀ k, ∀ x ∈ onesL s k, x ≤ s.size + 1
  | 0 => by simp [onesL]
  | k + 1 => by
    intro x hx
    rw [onesL, List.mem_append] at hx
    rcases hx with hx | hx
    · exact onesL_bd s k x hx
    · split at hx
      · simp at hx; omega
      · simp at hx
theorem onesL_at (s : ByteArray) (k i : Nat) (h : i < (onesL s k).length) : (onesL s k).getD i 0 ≤ s.size + 1 := by
  have : (onesL s k).getD i 0 = (onesL s k)[i] := by simp [h]
  rw [this]; exact onesL_bd s k _ (List.getElem_mem h)
theorem sumAt_snoc (L : List Nat) (x d : Nat) : sumAt (L ++ [x]) d = sumAt L d + fibN (x + d) := by simp [sumAt, List.foldl_append]
theorem onesL_sum (s : ByteArray) : ∀ k, k ≤ s.size → sumAt (onesL s k) 0 = readS s k
  | 0, _ => rfl
  | k + 1, h => by
    have ih := onesL_sum s k (by omega)
    rw [onesL, readS, ← ih]
    split
    · rw [sumAt_snoc, show s.size - 1 - k + 2 = s.size + 1 - k + 0 by omega]
    · simp
set_option maxRecDepth 100000 in
set_option maxHeartbeats 4000000 in
theorem onesIn_at (s : ByteArray) (w : World) (hs : s.size ≤ 21) : Calls Try.prog 48 #[.string s] w (ListOf (onesL s s.size) w) := by
  obtain ⟨i0, hi0, hz0, hzs1, hz2⟩ := info_parts info_int
  go_enter Try.func48, Try.ntmps48
  go_wp2_with fail
  go_loopw [3, 4, 7] (fun u _ y wr => ∃ (k cO : Nat) (aO : Option Addr), k ≤ s.size ∧ y = .int .i64 k ∧ u = .slice aO (onesL s k).length cO ∧ wr.ownsRow w.heap.size 3 1 u (onesL s k).length (natCells (onesL s k)) ∧ Below w.heap.size w wr) (fun _ _ y _ => 40 - (intOf y).toNat)
  case atStart => exact ⟨0, 0, none, by omega, rfl, rfl, World.ownsRow_nil _ _ _ _, Below.refl _ _⟩
  case round =>
    obtain ⟨k, cO, aO, hk, rfl, rfl, hown, hB⟩ := hrel
    by_cases hlt : k < s.size
    · have hki : (k : Int) < (s.size : Int) := by omega
      have k0 : (0 : Int) ≤ (k : Int) := by omega
      have hbe := byteAt_is hlt
      have hn : onesL s (k + 1) = onesL s k ++ (if byteAt s k = 49 then [s.size + 1 - k] else []) := rfl
      have hlen := onesL_len s k
      by_cases h9 : byteAt s k = 49
      · have hb9 : ((s[k]'hlt).toNat : Int) = 49 := by rw [← hbe, h9]; rfl
        rw [if_pos h9] at hn
        obtain ⟨P, hP⟩ : ∃ P, onesL s k = P := ⟨_, rfl⟩
        rw [hP] at hn hown hlen ⊢
        have HN := Lib.hid hn
        have HCE := Lib.hid (show natCells P ++ [.int .i64 ((s.size + 1 - k : Nat) : Int)] = natCells (P ++ [s.size + 1 - k]) by simp [natCells])
        have HO := Lib.hid hown
        have HB := Lib.hid hB
        clear hbe hn h9 hP hown hB
        go_wp2_with fail
        refine (placeIn_at s k _ (by omega) hk).mono ?_
        rintro e wx ⟨rfl, rfl⟩
        have hown := HO.out
        have hB := HB.out
        have hlk := hown.lt
        have hwz := hB.size
        obtain ⟨x, hx⟩ : ∃ x, s.size + 1 - k = x := ⟨_, rfl⟩
        have HX := Lib.hid hx
        rw [hx] at HCE ⊢
        clear hx
        go_wp2_with (first | (at_builtin; refine wpList_append_lies _ (by rfl) _ _ _ (by rfl) w.heap.size 3 i0 _ 1 8 Try.underlying24 hi0 hz0 hzs1 hz2 rfl (by omega) _ P.length (natCells P) (by rfl) (hown.alloc _) ⟨wr.heap.size, 0, none⟩ 1 1 [.int .i64 (x : Int)] (by rfl) (by rfl) (World.news_of_block (cs := #[.int .i64 (x : Int)]) (t := 3) (fr := (0, 0)) (heap_alloc_new wr _)) (by simp [Value.oneCell']) (by omega) (by unfold maxLen; omega) (by omega) (by simp; omega) (wr.heap.size + 1) (by simp) ?_))
        intro g1 c1 w4 hown4 hgrow4 hat4 hlt4
        rw [HCE.out] at hown4
        have hB4 : Below w.heap.size w w4 := (hB.alloc hwz _).grown hgrow4 (by simp; omega) (fun k e => by have := hlk _ e; omega)
        have HL := Lib.hid (show (onesL s (k + 1)).length = P.length + 1 by rw [HN.out]; simp)
        have HO4 := Lib.hid (show w4.ownsRow w.heap.size 3 1 (.slice (some ⟨g1, 0, none⟩) (P.length + 1) c1) (P.length + 1) (natCells (onesL s (k + 1))) by rw [HN.out, HX.out]; exact hown4)
        clear hown hgrow4 hlk hat4 hown4
        go_wp2
        go_roundw
        case rel => exact ⟨k + 1, c1, some ⟨g1, 0, none⟩, by omega, congrArg (Value.int .i64) (by omega), by rw [HL.out], by rw [HL.out]; exact HO4.out, hB4⟩
        case measure => simp [intOf]; omega
      · have hb9 : (((s[k]'hlt).toNat : Int) == 49) = false := by simp; omega
        rw [if_neg h9, List.append_nil] at hn
        have HN := Lib.hid hn
        have HO := Lib.hid hown
        clear hbe hn h9 hown
        go_wp2
        go_roundw
        case rel => exact ⟨k + 1, cO, aO, by omega, congrArg (Value.int .i64) (by omega), by rw [HN.out], by rw [HN.out]; exact HO.out, hB⟩
        case measure => simp [intOf]; omega
    · obtain rfl : k = s.size := by omega
      have HO := Lib.hid hown
      clear hown
      go_wp2
      go_ret
      have hr := HO.out
      rw [natCells_range] at hr
      exact ⟨_, rfl, (IsInts.of_owns hr).mono (by omega) (Nat.le_refl _) (Nat.le_refl _), hB⟩
end Go.Proofs.Ytodeifciedjfgaa
namespace Go.Proofs.Ytodeifciedjfgaa
open Go.RowKit Go.Shelf
theorem info_u8 : (Try.prog.info? 5).map (fun i => (i.zero, i.size, i.bytes)) = some (some (.int .u8 0), 1, 1) := by kernel_rfl
theorem builder_info : ∃ j, Try.prog.info? 55 = some j ∧ j.size ≠ 0 := by
  obtain ⟨j, hj, hs⟩ := Option.map_eq_some_iff.1 (show (Try.prog.info? 55).map TypeInfo.size = some 2 by kernel_rfl)
  exact ⟨j, hj, by rw [hs]; decide⟩
set_option maxHeartbeats 1000000 in
set_option maxRecDepth 100000 in
theorem copyUsed_at (b : Nat) (w : World) (h0 : w.cell? ⟨b, 0, none⟩ = some (.pointer (some ⟨b, 0, none⟩))) : Calls Try.prog 56 #[.pointer (some ⟨b, 0, none⟩)] w fun e w' => e = .returned (.tuple #[]) ∧ w' = w := by
  obtain ⟨j, hj, _⟩ := builder_info
  have hsame := fun w => Lib.run_neq_ptr_same w ⟨b, 0, none⟩ Try.underlying53 hj
  go_enter Try.func56, Try.ntmps56
  go_wp2
  go_end0
  exact ⟨rfl, rfl⟩
set_option maxHeartbeats 1000000 in
set_option maxRecDepth 100000 in
theorem copyFresh_at (b : Nat) (w : World) (h0 : w.cell? ⟨b, 0, none⟩ = some (.pointer none)) (hsh : w.shape? b = some (55, 2)) (hfz : w.frozen? ⟨b, 0, none⟩ = false) :
    Calls Try.prog 56 #[.pointer (some ⟨b, 0, none⟩)] w fun e w' => e = .returned (.tuple #[]) ∧ w' = w.setCell ⟨b, 0, none⟩ (.pointer (some ⟨b, 0, none⟩)) := by
  obtain ⟨j, hj, hjs⟩ := builder_info
  have hto := Lib.run_to_unsafe w ⟨b, 0, none⟩ Try.underlying53 Try.underlying71 hj hjs hsh (Nat.zero_lt_succ 1)
  have hfrom := Lib.run_from_unsafe w ⟨b, 0, none⟩ Try.underlying71 Try.underlying53 hj hsh (by kernel_rfl)
  have hsame := fun w => Lib.run_neq_ptr_same w ⟨b, 0, none⟩ Try.underlying53 hj
  have hne : ∀ (x : Value) (w : World), (callFunc 58 #[x]).run Try.prog w = .ok (.value x) w := fun x w => by rw [run_callFunc_extern Try.func58 (by kernel_rfl) (by kernel_rfl) (by kernel_rfl) (e := Extern.AbiNoEscape.same) (by kernel_rfl)]; rfl
  go_enter Try.func56, Try.ntmps56
  go_wp2
  go_end0
  exact ⟨rfl, rfl⟩
theorem copy_any (B b : Nat) (bs : List Value) (w : World) (h : Lib.IsBuilder 55 5 B b bs w) :
    Calls Try.prog 56 #[.pointer (some ⟨b, 0, none⟩)] w fun e w' => e = .returned (.tuple #[]) ∧ Lib.BuilderAt 55 5 B b (.pointer (some ⟨b, 0, none⟩)) bs w' ∧ Below B w w' := by
  rcases h with h | h
  · refine (copyFresh_at b w h.cell0 h.shape h.frozen0).mono ?_
    rintro e w' ⟨rfl, rfl⟩
    exact ⟨rfl, h.used _, (Below.refl B w).setCell (p := ⟨b, 0, none⟩) h.1 _⟩
  · refine (copyUsed_at b w h.cell0).mono ?_
    rintro e w' ⟨rfl, rfl⟩
    exact ⟨rfl, h, Below.refl B _⟩
set_option maxHeartbeats 2000000 in
set_option maxRecDepth 100000 in
theorem writeByte_any (B b : Nat) (bs : List Value) (c : Int) (w : World) (h : Lib.IsBuilder 55 5 B b bs w) (hlen : bs.length ≤ 1000) (hBw : B ≤ w.heap.size) :
    Calls Try.prog 43 #[.pointer (some ⟨b, 0, none⟩), .int .u8 c] w fun e w' => e = .returned .nilIface ∧ Lib.IsBuilder 55 5 B b (bs ++ [.int .u8 c]) w' ∧ Below B w w' := by
  obtain ⟨i0, hi0, hz0, hzs1, hz2⟩ := info_parts info_u8
  go_enter Try.func43, Try.ntmps43
  go_wp2_with fail
  refine (copy_any B b bs _ h).mono ?_
  rintro e w1 ⟨rfl, ⟨hB, v, hbk, hown, hne⟩, hb1⟩
  have c1 : w1.cell? ⟨b, 1, none⟩ = some v := by rw [Lib.cell_of_heap hbk]; rfl
  have hz1 := hb1.size
  go_wp2_with (at_builtin; refine wpList_append_own _ rfl _ _ 22 rfl B 5 i0 (.int .u8 0) 1 1 Try.underlying22 hi0 hz0 hzs1 hz2 rfl (by decide) _ _ _ rfl (hown.alloc _) ⟨w1.heap.size, 0, none⟩ 1 1 [.int .u8 c] rfl rfl (cell_one_new _ _ _) (by simp [Value.oneCell']) (by unfold maxLen; omega) (by omega) (by simp; omega) ?_)
  intro v' w2 hown' hgrow _
  have hlt : b < w1.heap.size := (Array.getElem?_eq_some_iff.1 hbk).1
  have hb2 : w2.heap[b]? = some (.cells #[.pointer (some ⟨b, 0, none⟩), v] 55 (0, 0)) := by
    rw [hgrow.block b (by simp; omega) (fun e => hne e.symm), Below.heap_alloc _ _ _ hlt]
    exact hbk
  have d1 : w2.cell? ⟨b, 1, none⟩ = some v := by rw [Lib.cell_of_heap hb2]; rfl
  have f1 : w2.frozen? ⟨b, 1, none⟩ = false := Lib.frozen_of_heap hb2 1
  obtain ⟨g, cap, rfl⟩ := ownsRow_succ hown'
  have hlk := hown.lt
  go_wp2
  go_ret
  refine ⟨rfl, .inr (Lib.BuilderAt.put hB hb2 (bs' := bs ++ [.int .u8 c]) (by simpa using hown') (by decide)), ?_⟩
  exact ((hb1.alloc (by omega) _).grown hgrow (by simp; omega) (fun k hk => (hlk k hk).1)).setCell (p := ⟨b, 1, none⟩) hB _
/-- String's numbers here. -/
def stringRen : Go.Shelf.Ren := ⟨fun | 169 => 44 | n => n, fun | 70 => 53 | 9 => 9 | 0 => 0 | 72 => 55 | 37 => 22 | 127 => 70 | 3 => 3 | 5 => 5 | n => n, fun | n => n⟩
theorem stringLays : Go.Proofs.Lays.n169 Try.prog stringRen := {
  mixed := by kernel_rfl
  f169 := Try.func44.trans (congrArg some (by kernel_rfl))
  t0 := Try.underlying0
  a0 := Try.isAgg0
  z0 := Try.sizeOf0
  v0 := Try.zeroValue0
  t3 := Try.underlying3
  a3 := Try.isAgg3
  z3 := Try.sizeOf3
  v3 := Try.zeroValue3
  t9 := Try.underlying9
  a9 := Try.isAgg9
  z9 := Try.sizeOf9
  v9 := Try.zeroValue9
  t37 := Try.underlying22
  a37 := Try.isAgg22
  z37 := Try.sizeOf22
  v37 := Try.zeroValue22
  t70 := Try.underlying53
  a70 := Try.isAgg53
  z70 := Try.sizeOf53
  v70 := Try.zeroValue53
  t72 := Try.underlying55
  a72 := Try.isAgg55
  z72 := Try.sizeOf55
  v72 := Try.zeroValue55
  t127 := Try.underlying70
  a127 := Try.isAgg70
  z127 := Try.sizeOf70
  v127 := Try.zeroValue70 }
theorem stringExtra : Builder.Extra Try.prog stringRen := {
  sizeBuilder := by kernel_rfl
  liesBuilder := by kernel_rfl
  t5 := Try.underlying5
  a5 := Try.isAgg5
  z5 := Try.sizeOf5
  v5 := Try.zeroValue5
  infoByte := by kernel_rfl
  cellsByte := by kernel_rfl
  sizeByte := by kernel_rfl
  neB5 := by decide }
theorem builderString_any (B b : Nat) (l : List UInt8) (w : World) (h : Lib.IsBuilder 55 5 B b (Lib.byteCells l) w) (hBw : B ≤ w.heap.size) :
    Calls Try.prog 44 #[.pointer (some ⟨b, 0, none⟩)] w fun e w' => e = .returned (.string ⟨l.toArray⟩) ∧ Below B w w' := Any.Builder_String_any stringLays stringExtra B b l w h hBw
/-- Contains' numbers here. -/
def containsRen : Go.Shelf.Ren := ⟨fun | 107 => 42 | 108 => 55 | n => n, fun | 28 => 24 | 3 => 3 | 4 => 4 | 0 => 0 | n => n, fun | n => n⟩
theorem containsLays : Go.Proofs.Lays.n107 Try.prog containsRen := {
  mixed := by kernel_rfl
  f107 := Try.func42.trans (congrArg some (by kernel_rfl))
  f108 := Try.func55.trans (congrArg some (by kernel_rfl))
  t0 := Try.underlying0
  a0 := Try.isAgg0
  z0 := Try.sizeOf0
  v0 := Try.zeroValue0
  t3 := Try.underlying3
  a3 := Try.isAgg3
  z3 := Try.sizeOf3
  v3 := Try.zeroValue3
  t4 := Try.underlying4
  a4 := Try.isAgg4
  z4 := Try.sizeOf4
  v4 := Try.zeroValue4
  t28 := Try.underlying24
  a28 := Try.isAgg24
  z28 := Try.sizeOf24
  v28 := Try.zeroValue24 }
/-- slices.Contains over a list of places. -/
theorem contains_any (g off n c : Nat) (zs : List Int) (x : Int) (w : World) (hz : n ≤ zs.length) (hbig : n ≤ 9223372036854775807) (hc : ∀ j, j < zs.length → w.cell? ⟨g, off + j, none⟩ = some (.int .i64 (zs.getD j 0))) :
    Calls Try.prog 42 #[.slice (some ⟨g, off, none⟩) n c, .int .i64 x] w fun e w' => e = .returned (.bool ((zs.take n).contains x)) ∧ w' = w := Any.slices_Contains_int containsLays g off n c zs x w hz hbig hc
end Go.Proofs.Ytodeifciedjfgaa
namespace Go.Proofs.Ytodeifciedjfgaa
open Go.RowKit Go.Shelf
theorem contains_cast (L : List Nat) (j : Nat) : (L.map fun (i : Nat) => (i : Int)).contains (j : Int) = L.contains j := by
  rw [Bool.eq_iff_iff]
  simp only [List.contains_iff_mem, List.mem_map]
  constructor
  · rintro ⟨x, hx, he⟩
    have : x = j := by omega
    rw [← this]; exact hx
  · intro h; exact ⟨j, h, rfl⟩
/-- slices.Contains over a list that a call has handed back. -/
theorem contains_list (L : List Nat) (j : Nat) (v : Value) (B C : Nat) (w : World) (hI : IsInts B C w v L.length (fun i => ((L.getD i 0 : Nat) : Int))) (h0 : 0 < L.length) (hlen : L.length ≤ 30) :
    Calls Try.prog 42 #[v, .int .i64 j] w fun e w' => e = .returned (.bool (L.contains j)) ∧ w = w' := by
  obtain ⟨a, cap, rfl, hC, hs⟩ := hI
  rcases hs with hs | ⟨g, off, rfl, h1, h2, hc, hf⟩
  · omega
  refine (contains_any g off L.length cap (L.map fun (i : Nat) => (i : Int)) j w (by simp) (by omega) (fun i hi => ?_)).mono ?_
  · rw [List.length_map] at hi
    rw [hc i hi]
    congr 2
    simp [hi]
  · rintro e w' ⟨rfl, rfl⟩
    exact ⟨ret_bool (by rw [List.take_of_length_le (by simp), contains_cast]), rfl⟩
theorem wrT_bytes (L : List Nat) (h c : Nat) (b : Bool) (hb : L.contains (h - c) = b) : Lib.byteCells (wrT L h c).data.toList ++ [.int .u8 (if b = true then 49 else 48)] = Lib.byteCells (wrT L h (c + 1)).data.toList := by
  rw [wrT_data, wrT_data, List.range_succ, List.map_append, Lib.byteCells, Lib.byteCells, List.map_append, List.map_cons, List.map_nil, List.map_cons, List.map_nil, hb]
  cases b <;> rfl
set_option maxRecDepth 100000 in
set_option maxHeartbeats 4000000 in
theorem implWritten_yes (n : Nat) (w : World) (n9 : n ≤ 10000) : Calls Try.prog 20 #[.int .i64 n] w fun e w' => e = .returned (.string (writtenT n)) ∧ Below w.heap.size w w' := by
  have hHead := fun h0 : 0 < n => zeck_head n9 h0
  have hPos := fun h0 : 0 < n => writtenT_pos h0
  have hSome := fun h0 : 0 < n => zeckFrom_some 20 n (by omega) h0
  have hlen := zeck_len n
  have hI := fun w => implPlaces_yes n w n9
  have hL0 : n = 0 → (zeck n).length = 0 := fun h => by subst h; rfl
  have hL1 : 0 < n → 0 < (zeck n).length := fun h => List.length_pos_iff.2 (hSome h)
  have hZ : n = 0 → writtenT n = ⟨#[48]⟩ := fun h => by subst h; rfl
  clear hSome
  obtain ⟨L, hL⟩ : ∃ L, zeck n = L := ⟨_, rfl⟩
  obtain ⟨W, hW⟩ : ∃ W, writtenT n = W := ⟨_, rfl⟩
  rw [hL] at hHead hPos hlen hI hL0 hL1
  rw [hW] at hPos hZ
  rw [hW]
  obtain ⟨h, hh⟩ : ∃ h, L.getD 0 0 = h := ⟨_, rfl⟩
  rw [hh] at hHead hPos
  clear hL hW
  have HN := Lib.hid (inB_mk (n := (n : Int)) (a := 0) (b := 10000) (by omega) (by omega))
  go_enter Try.func20, Try.ntmps20
  go_wp2_with fail
  refine (writtenOk_is n true _ HN.out).mono ?_
  rintro e wx ⟨rfl, rfl⟩
  go_wp2_with fail
  refine (hI _).mono ?_
  rintro e w1 ⟨v, rfl, hI1, hh1⟩
  obtain ⟨a, cap, rfl, hC, hs⟩ := id hI1
  by_cases h0 : n = 0
  · have hl := hL0 h0
    have HW := Lib.hid (hZ h0)
    rw [hl]
    clear hHead hPos hL0 hL1 hs hI1 hZ
    go_wp2
    go_ret
    exact ⟨ret_string HW.out.symm, hh1⟩
  · have hl := hL1 (by omega)
    obtain ⟨a1, a2, _, _⟩ := hHead (by omega)
    have HW := Lib.hid (hPos (by omega))
    rcases hs with hs | ⟨g, off, rfl, hg1, hg2, hc, hf⟩
    · omega
    have hc0 : w1.cell? ⟨g, off, none⟩ = some (.int .i64 (h : Int)) := by have := hc 0 hl; rw [← hh]; exact this
    have hz1 := hh1.size
    have hli : ((L.length : Int) == 0) = false := by rw [beq_eq_false_iff_ne]; omega
    have hli0 : (0 : Int) < (L.length : Int) := by omega
    have HI := Lib.hid hI1
    have HH1 := Lib.hid hh1
    clear hHead hPos hL0 hL1 hZ hc hf hI1 hh1 hh
    go_wp2
    go_loopw [5] (fun x wr => ∃ j c : Nat, x = .int .i64 j ∧ j + c = h ∧ 1 ≤ j ∧ Lib.IsBuilder 55 5 w1.heap.size w1.heap.size (Lib.byteCells (wrT L h c).data.toList) wr ∧ w1.heap.size ≤ wr.heap.size ∧ Below w1.heap.size w1 wr) (fun x _ => (intOf x).toNat)
    case atStart => exact ⟨h, 0, rfl, by omega, by omega, Lib.fresh_isBuilder _ _ _, by simp, by (repeat (first | exact Below.refl _ _ | refine Below.alloc ?_ (by first | omega | (simp <;> omega)) _))⟩
    case round =>
      obtain ⟨j, c, rfl, hjc, j1, hbd, hsz, hB⟩ := hrel
      have HBD := Lib.hid hbd
      have HBW := Lib.hid hB
      clear hbd
      by_cases h2 : 2 ≤ j
      · have h2i : (2 : Int) ≤ (j : Int) := by omega
        have hI2 := HI.out.below hB (Nat.le_refl _)
        obtain ⟨b, hb⟩ : ∃ b, L.contains j = b := ⟨_, rfl⟩
        have hcs := contains_list L j _ _ _ wr hI2 hl (by omega)
        rw [hb] at hcs
        have HCS := Lib.hid hcs
        have HWB := Lib.hid (wrT_bytes L h c b (by rw [show h - c = j by omega]; exact hb))
        have hll : (Lib.byteCells (wrT L h c).data.toList).length ≤ 1000 := by
          rw [Lib.byteCells_length, bl_size, wrT_size]; omega
        have HLL := Lib.hid hll
        clear hI2 hb hcs hll hc0 hB
        go_wp2_with fail
        refine HCS.out.mono ?_
        rintro e wx ⟨rfl, rfl⟩
        clear HCS
        cases b with
        | true =>
          have hw := HWB.out
          rw [if_pos rfl] at hw
          go_wp2_with fail
          refine (writeByte_any w1.heap.size w1.heap.size _ 49 _ HBD.out HLL.out hsz).mono ?_
          rintro e w3 ⟨rfl, hb3, hh3⟩
          rw [hw] at hb3
          have hz3 := hh3.size
          have HB3 := Lib.hid hb3
          have HH3 := Lib.hid hh3
          clear hb3 hh3 hw
          go_wp2
          go_roundw
          case rel => exact ⟨j - 1, c + 1, congrArg (Value.int .i64) (by omega), by omega, by omega, HB3.out, by omega, HBW.out.trans HH3.out⟩
          case measure => simp [intOf]; omega
        | false =>
          have hw := HWB.out
          rw [if_neg (by simp)] at hw
          go_wp2_with fail
          refine (writeByte_any w1.heap.size w1.heap.size _ 48 _ HBD.out HLL.out hsz).mono ?_
          rintro e w3 ⟨rfl, hb3, hh3⟩
          rw [hw] at hb3
          have hz3 := hh3.size
          have HB3 := Lib.hid hb3
          have HH3 := Lib.hid hh3
          clear hb3 hh3 hw
          go_wp2
          go_roundw
          case rel => exact ⟨j - 1, c + 1, congrArg (Value.int .i64) (by omega), by omega, by omega, HB3.out, by omega, HBW.out.trans HH3.out⟩
          case measure => simp [intOf]; omega
      · obtain rfl : j = 1 := by omega
        obtain rfl : c = h - 1 := by omega
        have HX := Lib.hid (builderString_any w1.heap.size w1.heap.size (wrT L h (h - 1)).data.toList _ HBD.out hsz)
        clear hc0 hB
        go_wp2_with fail
        refine HX.out.mono ?_
        rintro e w3 ⟨rfl, hh3⟩
        go_wp2
        go_ret
        exact ⟨ret_string (by rw [HW.out]), HH1.out.trans ((HBW.out.trans hh3).mono hz1)⟩
theorem implWritten_any (n : Int) (w : World) : Calls Try.prog 20 #[.int .i64 n] w fun e w' => e = .returned (.string (writtenV n)) ∧ Below w.heap.size w w' := by
  cases h : inB n 0 10000 with
  | true =>
    obtain ⟨h1, h2⟩ := inB_true h
    obtain ⟨m, rfl⟩ := Int.eq_ofNat_of_zero_le h1
    have := implWritten_yes m w (by omega)
    rw [writtenV_nat (by omega)]; exact this
  | false =>
    rw [writtenV_no h]
    go_enter Try.func20, Try.ntmps20
    go_wp2_with fail
    refine (writtenOk_is n false _ h).mono ?_
    rintro e wx ⟨rfl, rfl⟩
    go_wp2
    go_ret
    exact ⟨rfl, Below.refl _ _⟩
/-- What is written of the sum of a text's ones is the text exactly if it can be read. -/
theorem read_code {s : ByteArray} : ((writtenV (readS s s.size)).data.toList == s.data.toList) = readB s := by
  rw [Bool.eq_iff_iff, beq_iff_eq]
  constructor
  · intro h
    have hs := bytes_same h
    by_cases h9 : readS s s.size ≤ 10000
    · rw [writtenV_nat h9] at hs
      have := (read_written h9).1
      rw [hs] at this; exact this
    · rw [writtenV_no (inB_no (by omega))] at hs
      exact absurd (show readS s s.size ≤ 10000 by rw [← hs]; exact Nat.zero_le _) h9
  · intro h
    obtain ⟨n, n9, hv, hs⟩ := read_is h
    have e := readV_is h
    have : readS s s.size = n := by omega
    rw [this, writtenV_nat n9, ← hs]
theorem readB_long {s : ByteArray} (h : 19 < s.size) : readB s = false := readB_size (by omega)
theorem readS_bound (s : ByteArray) (h : s.size ≤ 21) : ∀ k, k ≤ s.size → readS s k ≤ 50000 * k
  | 0, _ => by simp [readS]
  | k + 1, hk => by
    have ih := readS_bound s h k (by omega)
    rw [readS]
    split
    · have := fibN_bd (s.size - 1 - k + 2) (by omega); omega
    · omega
set_option maxHeartbeats 4000000 in
theorem implRead_any (s : ByteArray) (w : World) (hs : s.size ≤ 1048576) : Calls Try.prog 22 #[.string s] w fun e w' => e = .returned (.tuple #[.int .i64 (readV s), .bool (readB s)]) ∧ Below w.heap.size w w' := by
  by_cases h1 : 21 < s.size
  · have HB := Lib.hid (readB_long (s := s) (by omega))
    have HV := Lib.hid (readV_no HB.out)
    have h2 : (22 : Int) < ((s.size + 1 - 0 : Nat) : Int) := by omega
    go_enter Try.func22, Try.ntmps22
    go_wp2_with fail
    refine (placeIn_at s 0 _ hs (by omega)).mono ?_
    rintro e wx ⟨rfl, rfl⟩
    go_wp2
    go_ret2
    exact ⟨ret_int_bool HV.out.symm HB.out.symm, Below.refl _ _⟩
  · have h2 : ((s.size + 1 - 0 : Nat) : Int) ≤ 22 := by omega
    have hsum := onesL_sum s s.size (Nat.le_refl _)
    have hlen := onesL_len s s.size
    have hat := onesL_at s s.size
    have hrc := read_code (s := s)
    have hvi := fun h : readB s = true => readV_is h
    have hvn := fun h : readB s = false => readV_no h
    obtain ⟨P, hP⟩ : ∃ P, onesL s s.size = P := ⟨_, rfl⟩
    have hones := onesIn_at s
    rw [hP] at hsum hlen hat hones
    obtain ⟨u, hu⟩ : ∃ u, readS s s.size = u := ⟨_, rfl⟩
    rw [hu] at hsum hrc hvi
    obtain ⟨q, hq⟩ : ∃ q, writtenV u = q := ⟨_, rfl⟩
    rw [hq] at hrc
    have HQ := Lib.hid hq
    have HVI := Lib.hid hvi
    have HVN := Lib.hid hvn
    have HAT := Lib.hid hat
    have HSUM := Lib.hid hsum
    have HRC := Lib.hid hrc
    clear hP hu hq hvi hvn hat hsum hrc
    go_enter Try.func22, Try.ntmps22
    go_wp2_with fail
    refine (placeIn_at s 0 _ hs (by omega)).mono ?_
    rintro e wx ⟨rfl, rfl⟩
    go_wp2_with fail
    refine (hones _ (by omega)).mono ?_
    rintro e w1 ⟨v, rfl, hI1, hh1⟩
    go_wp2_with fail
    refine (sumShifted_at P 0 v _ _ _ hI1 (by omega) (fun i hi => by have := HAT.out i hi; omega)).mono ?_
    rintro e w2 ⟨rfl, hh2⟩
    rw [HSUM.out]
    have hB2 := hh1.trans (hh2.mono hh1.size)
    clear hI1 hh1 hh2
    go_wp2_with fail
    refine (implWritten_any u _).mono ?_
    rintro e w3 ⟨rfl, hh3⟩
    rw [HQ.out]
    have hB3 : Below w.heap.size w w3 := hB2.trans (hh3.mono hB2.size)
    clear hh3 hB2
    cases hqs : (q.data.toList == s.data.toList) with
    | true =>
      have hb : readB s = true := by rw [← HRC.out]; exact hqs
      have HB := Lib.hid hb
      have HV := Lib.hid (HVI.out hb)
      have hqs' : (q.toList == s.toList) = true := by rw [bl_eq]; exact hqs
      clear hb hqs
      go_wp2
      go_ret2
      exact ⟨ret_int_bool HV.out.symm HB.out.symm, hB3⟩
    | false =>
      have hb : readB s = false := by rw [← HRC.out]; exact hqs
      have HB := Lib.hid hb
      have HV := Lib.hid (HVN.out hb)
      have hqs' : (q.toList == s.toList) = false := by rw [bl_eq]; exact hqs
      clear hb hqs
      go_wp2
      go_ret2
      exact ⟨ret_int_bool HV.out.symm HB.out.symm, hB3⟩
set_option maxHeartbeats 2000000 in
theorem implShift_any (n d : Int) (w : World) : Calls Try.prog 25 #[.int .i64 n, .int .i64 d] w fun e w' => e = .returned (.int .i64 (shiftV n d)) ∧ Below w.heap.size w w' := by
  cases hb : shiftB n d with
  | false =>
    have HV := Lib.hid (shiftV_no hb)
    have hways : n < 0 ∨ (0 ≤ n ∧ 1000 < n) ∨ (0 ≤ n ∧ n ≤ 1000 ∧ d < 0) ∨ (0 ≤ n ∧ n ≤ 1000 ∧ 0 ≤ d ∧ 3 < d) := by
      rw [shiftB] at hb
      rcases Bool.and_eq_false_iff.1 hb with h | h
      · have := inB_false h; omega
      · have := inB_false h; omega
    clear hb
    go_enter Try.func25, Try.ntmps25
    rcases hways with h1 | ⟨h1, h2⟩ | ⟨h1, h2, h3⟩ | ⟨h1, h2, h3, h4⟩
    all_goals
      go_wp2
      go_ret
      exact ⟨ret_int HV.out.symm, Below.refl _ _⟩
  | true =>
    obtain ⟨m, j, rfl, rfl, m9, j9⟩ := shiftB_true hb
    have HV := Lib.hid (shiftV_is hb)
    have h1 : (0 : Int) ≤ (m : Int) := by omega
    have h2 : (m : Int) ≤ 1000 := by omega
    have h3 : (0 : Int) ≤ (j : Int) := by omega
    have h4 : (j : Int) ≤ 3 := by omega
    have hlow : ∀ i, i < (zeck m).length → (zeck m).getD i 0 ≤ 19 := fun i hi => by
      have e : (zeck m).getD i 0 = (zeck m)[i] := by simp [hi]
      have hm := List.getElem_mem hi
      have h := zeckFrom_le 20 m _ hm
      rcases Nat.lt_or_ge 19 ((zeck m)[i]) with h' | h'
      · have := fibN_mono 17 (by omega) ((zeck m)[i]) (by omega) (by omega) (by omega)
        have e17 : fibN 17 = 1597 := rfl
        omega
      · omega
    have hlen := zeck_len m
    have HI := Lib.hid (fun w => implPlaces_yes m w (by omega))
    obtain ⟨L, hL⟩ : ∃ L, zeck m = L := ⟨_, rfl⟩
    rw [hL] at HV hlow hlen HI
    have HL := Lib.hid hlow
    clear hb hL hlow
    go_enter Try.func25, Try.ntmps25
    go_wp2_with fail
    refine (HI.out _).mono ?_
    rintro e w1 ⟨v, rfl, hI1, hh1⟩
    go_wp2_with fail
    refine (sumShifted_at L j v _ _ _ hI1 (by omega) (fun i hi => by have := HL.out i hi; omega)).mono ?_
    rintro e w2 ⟨rfl, hh2⟩
    have hB2 := hh1.trans (hh2.mono hh1.size)
    clear hI1 hh1 hh2
    go_wp2
    go_ret
    exact ⟨ret_int HV.out.symm, hB2⟩
set_option maxHeartbeats 400000 in
theorem factorOk_any (n : Int) (w : World) : Calls Try.prog 50 #[.int .i64 n] w fun e w' => e = .returned (.bool (inB n 0 100)) ∧ w = w' := by
  go_enter Try.func50, Try.ntmps50
  by_cases h1 : 0 ≤ n
  · by_cases h2 : n ≤ 100
    · go_wp2
      go_ret
      exact ⟨ret_bool (inB_mk h1 h2).symm, rfl⟩
    · have h3 : 100 < n := by omega
      go_wp2
      go_ret
      exact ⟨ret_bool (by simp [inB]; omega), rfl⟩
  · have h3 : n < 0 := by omega
    go_wp2
    go_ret
    exact ⟨ret_bool (by simp [inB]; omega), rfl⟩
theorem factorOk_is (n : Int) (c : Bool) (w : World) (h : inB n 0 100 = c) : Calls Try.prog 50 #[.int .i64 n] w fun e w' => e = .returned (.bool c) ∧ w = w' := by rw [← h]; exact factorOk_any n w
set_option maxRecDepth 100000 in
set_option maxHeartbeats 4000000 in
theorem implCircle_any (a b : Int) (w : World) : Calls Try.prog 27 #[.int .i64 a, .int .i64 b] w fun e w' => e = .returned (.tuple #[.int .i64 (circV a b), .bool (circB a b)]) ∧ Below w.heap.size w w' := by
  cases hn : inB a 0 100 with
  | false =>
    have hb : circB a b = false := by simp [circB, hn]
    have HB := Lib.hid hb
    have HV := Lib.hid (circV_no hb)
    have HN := Lib.hid hn
    clear hn hb
    go_enter Try.func27, Try.ntmps27
    go_wp2_with fail
    refine (factorOk_is a false _ HN.out).mono ?_
    rintro e wx ⟨rfl, rfl⟩
    go_wp2
    go_ret2
    exact ⟨ret_int_bool HV.out.symm HB.out.symm, Below.refl _ _⟩
  | true =>
    have HN := Lib.hid hn
    cases hd : inB b 0 100 with
    | false =>
      have hb : circB a b = false := by simp [circB, hd]
      have HB := Lib.hid hb
      have HV := Lib.hid (circV_no hb)
      have HD := Lib.hid hd
      clear hn hd hb
      go_enter Try.func27, Try.ntmps27
      go_wp2_with fail
      refine (factorOk_is _ true _ HN.out).mono ?_
      rintro e wx ⟨rfl, rfl⟩
      go_wp2_with fail
      refine (factorOk_is b false _ HD.out).mono ?_
      rintro e wx ⟨rfl, rfl⟩
      go_wp2
      go_ret2
      exact ⟨ret_int_bool HV.out.symm HB.out.symm, Below.refl _ _⟩
    | true =>
      have hb : circB a b = true := by rw [circB, hn, hd]; rfl
      obtain ⟨m, j, rfl, rfl, m9, j9⟩ := circB_true hb
      have HB := Lib.hid hb
      have HV0 := circV_is hb
      rw [circS_all] at HV0
      have HD := Lib.hid hd
      have HIL := Lib.hid (fun w => implPlaces_yes m w (by omega))
      have HIM := Lib.hid (fun w => implPlaces_yes j w (by omega))
      have hbd := zeck_low_at m9
      have hbm := zeck_low_at j9
      have hlen := zeck_len m
      have hlem := zeck_len j
      obtain ⟨L, hL⟩ : ∃ L, zeck m = L := ⟨_, rfl⟩
      obtain ⟨M, hM⟩ : ∃ M, zeck j = M := ⟨_, rfl⟩
      rw [hL] at HIL hbd hlen
      rw [hM] at HIM hbm hlem
      rw [hL, hM] at HV0
      have hsb := fun d (hd : d ≤ 20) => sumAt_bd (L := M) d hd (fun i hi => by have := (hbm i hi).2; omega) fibN_bd2 M.length (Nat.le_refl _)
      have HV := Lib.hid HV0
      have HBD := Lib.hid hbd
      have HBM := Lib.hid hbm
      have HSB := Lib.hid hsb
      clear hn hd hb hL hM hbd hbm HV0 hsb
      go_enter Try.func27, Try.ntmps27
      go_wp2_with fail
      refine (factorOk_is _ true _ HN.out).mono ?_
      rintro e wx ⟨rfl, rfl⟩
      go_wp2_with fail
      refine (factorOk_is _ true _ HD.out).mono ?_
      rintro e wx ⟨rfl, rfl⟩
      go_wp2_with fail
      refine (HIL.out _).mono ?_
      rintro e w2 ⟨u2, rfl, hI2, hh2⟩
      have hz2 := hh2.size
      obtain ⟨a2, c2, rfl, hC2, hs2⟩ := hI2
      have HH2 := Lib.hid hh2
      clear hh2
      go_wp2_with fail
      go_loopw [6, 8, 20] (fun x _ y wr => ∃ k : Nat, k ≤ L.length ∧ y = .int .i64 k ∧ x = .int .i64 ((circS L M k : Nat) : Int) ∧ circS L M k ≤ 1000000 * k ∧ Below w2.heap.size w2 wr) (fun _ _ y _ => 30 - (intOf y).toNat)
      case atStart => exact ⟨0, by omega, rfl, rfl, by simp [circS], Below.refl _ _⟩
      case round =>
        obtain ⟨k, hk, rfl, rfl, hs, hB⟩ := hrel
        by_cases hlt : k < L.length
        · rcases hs2 with hs2 | ⟨g2, o2, rfl, hg3, hg4, hc2, hf2⟩
          · omega
          obtain ⟨b1, b2⟩ := HBD.out k hlt
          have hnx := circS_next (M := M) hlt
          have hck := cell_below hB (hc2 k hlt)
          obtain ⟨x, hx⟩ : ∃ x, L.getD k 0 = x := ⟨_, rfl⟩
          rw [hx] at b1 b2 hnx hck
          obtain ⟨s, hs'⟩ : ∃ s, circS L M k = s := ⟨_, rfl⟩
          rw [hs'] at hnx hs ⊢
          have hsbx := HSB.out x (by omega)
          rw [List.take_length] at hsbx
          obtain ⟨G, hG⟩ : ∃ G, sumAt M x = G := ⟨_, rfl⟩
          rw [hG] at hnx hsbx
          have HNK := Lib.hid hnx
          have HG := Lib.hid hG
          have hki : (k : Int) < (L.length : Int) := by omega
          have k0 : (0 : Int) ≤ (k : Int) := by omega
          have HBr := Lib.hid hB
          clear hx hs' hnx hB hG
          go_wp2_with fail
          refine (HIM.out _).mono ?_
          rintro e w3 ⟨u3, rfl, hI3, hh3⟩
          go_wp2_with fail
          refine (sumShifted_at M x u3 _ _ _ hI3 (by omega) (fun i hi => by have := (HBM.out i hi).2; omega)).mono ?_
          rintro e w4 ⟨rfl, hh4⟩
          rw [HG.out]
          have HB4 := Lib.hid (HBr.out.trans ((hh3.trans (hh4.mono hh3.size)).mono HBr.out.size))
          clear hI3 hh3 hh4
          go_wp2
          go_roundw
          case rel => exact ⟨k + 1, by omega, congrArg (Value.int .i64) (by omega), congrArg (Value.int .i64) (by rw [HNK.out]; omega), by rw [HNK.out]; omega, HB4.out⟩
          case measure => simp [intOf]; omega
        · obtain rfl : k = L.length := by omega
          go_wp2
          go_ret2
          exact ⟨ret_int_bool HV.out.symm HB.out.symm, HH2.out.trans (hB.mono hz2)⟩
end Go.Proofs.Ytodeifciedjfgaa
namespace Go.Proofs.Ytodeifciedjfgaa
open Go.RowKit
set_option maxRecDepth 100000 in
set_option maxHeartbeats 16000000 in
theorem l20Number_any (R k : Nat) (w : World) (h : Rd w R k) (hk : k ≤ 900000) :
    Calls Try.prog 34 #[.pointer (some ⟨R, 0, none⟩)] w (NumberDrawn w R k 7) := by
  have hRlt := h.lt
  have hsel := six_at
  go_enter Try.func34, Try.ntmps34
  go_wp2_with fail
  go_region_with ((first | (go_at_call 49; refine (pick_any R _ _ _ (by first | assumption | exact Rd.alloc (by assumption) _ | exact Rd.below (by assumption) (by assumption) (Nat.le_refl _)) (by omega) (by omega)).mono ?_; rintro e wz ⟨v, rfl, va, vb, hRz, hhz⟩; (try (have vq : v ≤ 11 := (by omega); have vq0 : 0 ≤ v / 2 := (by omega); have vq1 : v / 2 < 6 := (by omega); have vt : v.tdiv 2 = v / 2 := Int.tdiv_eq_ediv_of_nonneg va; have vw : IntKind.i64.wrap (v / 2) = v / 2 := (by rw [IntKind.wrap_i64]; omega))); clear vb; obtain ⟨hcz, hfz⟩ := gcell hhz; have hst := fun b (h : b < _) => Nat.lt_of_lt_of_le h hhz.size; have hzz := hhz.size; (try simp at hzz); (try have hzs := Nat.lt_of_succ_le hzz); have hne : ¬ wz.heap.size = R := (by have := hRz.lt; omega)) | fail))
  all_goals go_wp2
  all_goals go_ret
  all_goals exact ⟨_, rfl, Rd.mono (by first | assumption | exact Rd.alloc (by assumption) _ | exact Rd.below (by assumption) (by assumption) (Nat.le_refl _)) (by omega), by (repeat (first | exact gr_refl _ _ | refine gr_drew ?_ | refine gr_alloc ?_ _ | refine gr_trans ?_ (by assumption)))⟩
end Go.Proofs.Ytodeifciedjfgaa
namespace Go.Proofs.Ytodeifciedjfgaa
open Go.RowKit
/-- What a draw of a pair and two numbers returns. -/
def DrawnAny (w : World) (e : Ending) (w' : World) : Prop :=
  ∃ p q a b : Int, e = .returned (.tuple #[pr p q, .int .i64 a, .int .i64 b]) ∧ Below w.heap.size w w'
/-- What a draw of three numbers returns. -/
def DrawnThree (w : World) (e : Ending) (w' : World) : Prop :=
  ∃ a b c : Int, e = .returned (.tuple #[.int .i64 a, .int .i64 b, .int .i64 c]) ∧ Below w.heap.size w w'
end Go.Proofs.Ytodeifciedjfgaa
namespace Go.Proofs.Ytodeifciedjfgaa
open Go.RowKit
/-- Whether a number has a rank; the rank. -/
def rankB (p q m : Int) : Bool := pairB p q && (decide (q ≠ 0) && (inB m 1 400 && decide (Int.gcd q m = 1)))
def rankV (p q m : Int) : Int := if rankB p q m = true then (rankN p q m.toNat : Int) else -1
theorem rankB_true {p q m : Int} (h : rankB p q m = true) : pairB p q = true ∧ q ≠ 0 ∧ inB m 1 400 = true ∧ Int.gcd q m = 1 ∧ ∃ k : Nat, m = k ∧ 1 ≤ k ∧ k ≤ 400 ∧ Apart (k : Int) q := by
  have h' : pairB p q = true ∧ ¬ q = 0 ∧ inB m 1 400 = true ∧ Int.gcd q m = 1 := by simpa [rankB] using h
  obtain ⟨hp, hq, hm, hg⟩ := h'
  obtain ⟨m1, m2⟩ := inB_true hm
  have e : m = (m.toNat : Int) := by omega
  refine ⟨hp, hq, hm, hg, m.toNat, e, by omega, by omega, ?_⟩
  rw [← e]
  exact (apart_gcd.1 hg).symm
theorem rankB_ways {p q m : Int} (h : rankB p q m = false) : pairB p q = false ∨ (pairB p q = true ∧ q = 0) ∨ (pairB p q = true ∧ q ≠ 0 ∧ inB m 1 400 = false) ∨ (pairB p q = true ∧ q ≠ 0 ∧ inB m 1 400 = true ∧ Int.gcd q m ≠ 1) := by
  cases hp : pairB p q with
  | false => exact .inl rfl
  | true =>
    by_cases hq : q = 0
    · exact .inr (.inl ⟨rfl, hq⟩)
    · cases hm : inB m 1 400 with
      | false => exact .inr (.inr (.inl ⟨rfl, hq, rfl⟩))
      | true => exact .inr (.inr (.inr ⟨rfl, hq, rfl, by simpa [rankB, hp, hq, hm] using h⟩))
theorem rankB_mk {p q : Int} {k : Nat} (hp : pairB p q = true) (hq : q ≠ 0) (h1 : 1 ≤ k) (h2 : k ≤ 400) (h : Apart (k : Int) q) : rankB p q k = true := by
  have hg : Int.gcd q (k : Int) = 1 := apart_gcd.2 h.symm
  simp [rankB, hp, hq, inB_mk (n := (k : Int)) (a := 1) (b := 400) (by omega) (by omega), hg]
theorem rankV_is {p q : Int} {k : Nat} (h : rankB p q k = true) : rankV p q k = (rankN p q k : Int) := by rw [rankV, if_pos h]; rfl
theorem rank_bd {p q : Int} {k : Nat} (h1 : 1 ≤ k) (h2 : k ≤ 400) (h : Apart (k : Int) q) : 1 ≤ rankN p q k ∧ rankN p q k ≤ 160000 := by
  obtain ⟨_, a, b, _⟩ := rankN_spec (p := p) k h1 h
  exact ⟨a, Nat.le_trans b (Nat.mul_le_mul h2 h2)⟩
/-- What is left before the rank is not 0; at the rank it is. -/
theorem rank_left {p q : Int} {k : Nat} (h1 : 1 ≤ k) (h : Apart (k : Int) q) (n : Nat) (hn : 1 ≤ n) (hr : n ≤ rankN p q k) : (row p q 0 1 n % (k : Int) == 0) = decide (n = rankN p q k) := by
  obtain ⟨a, b, _, d⟩ := rankN_spec (p := p) k h1 h
  rw [Bool.eq_iff_iff, left_zero_iff, decide_eq_true_iff]
  constructor
  · intro hd
    rcases Nat.lt_or_ge n (rankN p q k) with hlt | hge
    · exact absurd hd (d n hn hlt)
    · omega
  · rintro rfl; exact a
end Go.Proofs.Ytodeifciedjfgaa
namespace Go.Proofs.Ytodeifciedjfgaa
open Go.RowKit
theorem placesL_len (n : Int) : (placesL n).length ≤ 20 := by
  rw [placesL]; split
  · exact zeck_len _
  · exact Nat.zero_le _
set_option maxRecDepth 100000 in
set_option maxHeartbeats 4000000 in
theorem fnExactPlacesOf_walk (n : Int) (w : World) (_ : (Lit.int .i64 n).wf = true) :
    Calls Try.prog 8 #[.int .i64 n] w fun e w' => e = .returned (.bool true) ∧ Below w.heap.size w w' := by
  have hN : (placesL n).length ≤ 1000000 := Nat.le_trans (placesL_len n) (by omega)
  go_enter Try.func8, Try.ntmps8
  go_wp2_with fail
  refine (specPlaces_any _ _).mono ?_
  rintro e w2 ⟨u2, rfl, hI2, hh2⟩
  obtain ⟨hc2, hf2⟩ := bcell hh2
  have hz2 := hh2.size
  try simp only [World.size_alloc] at hz2
  clear hc2 hf2
  go_wp2_with fail
  refine (implPlaces_any _ _).mono ?_
  rintro e w4 ⟨u4, rfl, hI4, hh4⟩
  obtain ⟨hc4, hf4⟩ := bcell hh4
  have hz4 := hh4.size
  try simp only [World.size_alloc] at hz4
  clear hc4 hf4
  go_wp2_with fail
  refine (eqIntS_same _ _ _ _ _ _ _ _ _ hI4 (hI2.below (show Below w2.heap.size w2 w4 by (repeat (first | exact Below.refl _ _ | refine Below.setCell ?_ (by first | omega | (simp <;> omega)) _ | refine Below.alloc ?_ (by first | omega | (simp <;> omega)) _ | refine Below.drew ?_ | refine Below.trans ?_ (Below.mono (by assumption) (by first | omega | (simp <;> omega))) | refine Below.grown ?_ (by assumption) (by first | omega | (simp <;> omega)) (fun k e => by cases e; first | omega | (simp <;> omega))))) (Nat.le_refl _)) hN).mono ?_
  rintro e w5 ⟨rfl, hh5⟩
  have hz5 := hh5.size
  try simp only [World.size_alloc] at hz5
  go_wp2_with fail
  refine (markIntS_any _ _ _ _ _ 1 _ (hI4.below (show Below w4.heap.size w4 w5 by exact hh5) (Nat.le_refl _)) hN (by omega) (by omega)).mono ?_
  rintro e w6 ⟨rfl, hI6, hM6⟩
  have hz6 : w6.heap.size = w5.heap.size := hM6.1
  have hB6 : Below w2.heap.size w2 w6 := below_marked (show Below w2.heap.size w2 w5 by (repeat (first | exact Below.refl _ _ | refine Below.setCell ?_ (by first | omega | (simp <;> omega)) _ | refine Below.alloc ?_ (by first | omega | (simp <;> omega)) _ | refine Below.drew ?_ | refine Below.trans ?_ (Below.mono (by assumption) (by first | omega | (simp <;> omega))) | refine Below.grown ?_ (by assumption) (by first | omega | (simp <;> omega)) (fun k e => by cases e; first | omega | (simp <;> omega))))) hM6 (Nat.le_refl _) (by omega)
  have hIb := (hI2.below (show Below w2.heap.size w2 w5 by (repeat (first | exact Below.refl _ _ | refine Below.setCell ?_ (by first | omega | (simp <;> omega)) _ | refine Below.alloc ?_ (by first | omega | (simp <;> omega)) _ | refine Below.drew ?_ | refine Below.trans ?_ (Below.mono (by assumption) (by first | omega | (simp <;> omega))) | refine Below.grown ?_ (by assumption) (by first | omega | (simp <;> omega)) (fun k e => by cases e; first | omega | (simp <;> omega))))) (Nat.le_refl _)).marked hM6 (by omega)
  clear hM6
  go_wp2_with fail
  refine (heldIntS_any _ _ _ _ 1 _ hI6 hN (by omega) (by omega)).mono ?_
  rintro e wx ⟨rfl, rfl⟩
  go_wp2_with fail
  refine (implPlaces_any _ _).mono ?_
  rintro e w8 ⟨u8, rfl, hI8, hh8⟩
  obtain ⟨hc8, hf8⟩ := bcell hh8
  have hz8 := hh8.size
  try simp only [World.size_alloc] at hz8
  clear hc8 hf8
  go_wp2_with fail
  refine (eqIntS_same _ _ _ _ _ _ _ _ _ hI8 (hIb.below (show Below w6.heap.size w6 w8 by (repeat (first | exact Below.refl _ _ | refine Below.setCell ?_ (by first | omega | (simp <;> omega)) _ | refine Below.alloc ?_ (by first | omega | (simp <;> omega)) _ | refine Below.drew ?_ | refine Below.trans ?_ (Below.mono (by assumption) (by first | omega | (simp <;> omega))) | refine Below.grown ?_ (by assumption) (by first | omega | (simp <;> omega)) (fun k e => by cases e; first | omega | (simp <;> omega))))) (by omega)) hN).mono ?_
  rintro e w9 ⟨rfl, hh9⟩
  have hz9 := hh9.size
  try simp only [World.size_alloc] at hz9
  go_wp2_with fail
  refine (heldIntS_any _ _ _ _ 1 _ (hI6.below (show Below w6.heap.size w6 w9 by (repeat (first | exact Below.refl _ _ | refine Below.setCell ?_ (by first | omega | (simp <;> omega)) _ | refine Below.alloc ?_ (by first | omega | (simp <;> omega)) _ | refine Below.drew ?_ | refine Below.trans ?_ (Below.mono (by assumption) (by first | omega | (simp <;> omega))) | refine Below.grown ?_ (by assumption) (by first | omega | (simp <;> omega)) (fun k e => by cases e; first | omega | (simp <;> omega))))) (by omega)) hN (by omega) (by omega)).mono ?_
  rintro e wx ⟨rfl, rfl⟩
  go_wp2
  go_ret
  exact ⟨rfl, by (repeat (first | exact Below.refl _ _ | refine Below.setCell ?_ (by first | omega | (simp <;> omega)) _ | refine Below.alloc ?_ (by first | omega | (simp <;> omega)) _ | refine Below.drew ?_ | refine Below.trans ?_ (Below.mono (by assumption) (by first | omega | (simp <;> omega))) | refine Below.grown ?_ (by assumption) (by first | omega | (simp <;> omega)) (fun k e => by cases e; first | omega | (simp <;> omega))))⟩
set_option maxHeartbeats 1000000 in
theorem fnExactWrittenOf_walk (n : Int) (w : World) (_ : (Lit.int .i64 n).wf = true) :
    Calls Try.prog 9 #[.int .i64 n] w fun e w' => e = .returned (.bool true) ∧ Below w.heap.size w w' := by
  go_enter Try.func9, Try.ntmps9
  go_wp2_with fail
  refine (specWritten_any _ _).mono ?_
  rintro e w1 ⟨rfl, hh1⟩
  obtain ⟨hc1, hf1⟩ := bcell hh1
  have hz1 := hh1.size
  try simp only [World.size_alloc] at hz1
  clear hc1 hf1
  go_wp2_with fail
  refine (implWritten_any _ _).mono ?_
  rintro e w2 ⟨rfl, hh2⟩
  obtain ⟨hc2, hf2⟩ := bcell hh2
  have hz2 := hh2.size
  try simp only [World.size_alloc] at hz2
  clear hc2 hf2
  go_wp2
  go_ret
  exact ⟨rfl, by (repeat (first | exact Below.refl _ _ | refine Below.setCell ?_ (by first | omega | (simp <;> omega)) _ | refine Below.alloc ?_ (by first | omega | (simp <;> omega)) _ | refine Below.drew ?_ | refine Below.trans ?_ (Below.mono (by assumption) (by first | omega | (simp <;> omega))) | refine Below.grown ?_ (by assumption) (by first | omega | (simp <;> omega)) (fun k e => by cases e; first | omega | (simp <;> omega))))⟩
set_option maxHeartbeats 1000000 in
theorem fnExactCircleOf_walk (n m : Int) (w : World) (_ : (Lit.int .i64 n).wf = true) (_ : (Lit.int .i64 m).wf = true) :
    Calls Try.prog 11 #[.int .i64 n, .int .i64 m] w fun e w' => e = .returned (.bool true) ∧ Below w.heap.size w w' := by
  go_enter Try.func11, Try.ntmps11
  go_wp2_with fail
  refine (specCircle_any _ _ _).mono ?_
  rintro e w1 ⟨rfl, hh1⟩
  obtain ⟨hc1, hf1⟩ := bcell hh1
  have hz1 := hh1.size
  try simp only [World.size_alloc] at hz1
  clear hc1 hf1
  go_wp2_with fail
  refine (implCircle_any _ _ _).mono ?_
  rintro e w2 ⟨rfl, hh2⟩
  obtain ⟨hc2, hf2⟩ := bcell hh2
  have hz2 := hh2.size
  try simp only [World.size_alloc] at hz2
  clear hc2 hf2
  go_wp2
  go_ret
  exact ⟨rfl, by (repeat (first | exact Below.refl _ _ | refine Below.setCell ?_ (by first | omega | (simp <;> omega)) _ | refine Below.alloc ?_ (by first | omega | (simp <;> omega)) _ | refine Below.drew ?_ | refine Below.trans ?_ (Below.mono (by assumption) (by first | omega | (simp <;> omega))) | refine Below.grown ?_ (by assumption) (by first | omega | (simp <;> omega)) (fun k e => by cases e; first | omega | (simp <;> omega))))⟩
set_option maxHeartbeats 1000000 in
theorem fnExactShiftedBy_walk (n m : Int) (w : World) (_ : (Lit.int .i64 n).wf = true) (_ : (Lit.int .i64 m).wf = true) :
    Calls Try.prog 12 #[.int .i64 n, .int .i64 m] w fun e w' => e = .returned (.bool true) ∧ Below w.heap.size w w' := by
  go_enter Try.func12, Try.ntmps12
  go_wp2_with fail
  refine (specShift_any _ _ _).mono ?_
  rintro e w1 ⟨rfl, hh1⟩
  obtain ⟨hc1, hf1⟩ := bcell hh1
  have hz1 := hh1.size
  try simp only [World.size_alloc] at hz1
  clear hc1 hf1
  go_wp2_with fail
  refine (implShift_any _ _ _).mono ?_
  rintro e w2 ⟨rfl, hh2⟩
  obtain ⟨hc2, hf2⟩ := bcell hh2
  have hz2 := hh2.size
  try simp only [World.size_alloc] at hz2
  clear hc2 hf2
  go_wp2
  go_ret
  exact ⟨rfl, by (repeat (first | exact Below.refl _ _ | refine Below.setCell ?_ (by first | omega | (simp <;> omega)) _ | refine Below.alloc ?_ (by first | omega | (simp <;> omega)) _ | refine Below.drew ?_ | refine Below.trans ?_ (Below.mono (by assumption) (by first | omega | (simp <;> omega))) | refine Below.grown ?_ (by assumption) (by first | omega | (simp <;> omega)) (fun k e => by cases e; first | omega | (simp <;> omega))))⟩
set_option maxHeartbeats 1000000 in
theorem fnExactReadWritten_walk (s : ByteArray) (w : World) (_ : s.size ≤ maxLen) :
    Calls Try.prog 10 #[.string s] w fun e w' => e = .returned (.bool true) ∧ Below w.heap.size w w' := by
  by_cases hbig : 1048576 < s.size
  · go_enter Try.func10, Try.ntmps10
    go_wp2
    go_ret
    exact ⟨rfl, Below.refl _ _⟩
  · have hsm : s.size ≤ 1048576 := by omega
    go_enter Try.func10, Try.ntmps10
    go_wp2_with fail
    refine (specRead_any _ _).mono ?_
    rintro e w1 ⟨rfl, hh1⟩
    obtain ⟨hc1, hf1⟩ := bcell hh1
    have hz1 := hh1.size
    try simp only [World.size_alloc] at hz1
    clear hc1 hf1
    go_wp2_with fail
    refine (implRead_any _ _ hsm).mono ?_
    rintro e w2 ⟨rfl, hh2⟩
    obtain ⟨hc2, hf2⟩ := bcell hh2
    have hz2 := hh2.size
    try simp only [World.size_alloc] at hz2
    clear hc2 hf2
    go_wp2
    go_ret
    exact ⟨rfl, by (repeat (first | exact Below.refl _ _ | refine Below.setCell ?_ (by first | omega | (simp <;> omega)) _ | refine Below.alloc ?_ (by first | omega | (simp <;> omega)) _ | refine Below.drew ?_ | refine Below.trans ?_ (Below.mono (by assumption) (by first | omega | (simp <;> omega))) | refine Below.grown ?_ (by assumption) (by first | omega | (simp <;> omega)) (fun k e => by cases e; first | omega | (simp <;> omega))))⟩
end Go.Proofs.Ytodeifciedjfgaa
