/- The rows of the model: l1Rows lays both rows, number by number. -/
import Derived.Test.YtennicmmjbfljaaPairMore
import Derived.Deep.QuietTactic
import Derived.BigQuiet
import Derived.IntWalk
import Derived.Deep.RegionHeld3
import Derived.Deep.AppendLies
import Derived.Test.YtennicmmjbfljaaAppend
namespace Go.Proofs.Ytennicmmjbfljaa
open Go.RowKit
theorem info_int : (Try.prog.info? 3).map (fun i => (i.zero, i.size, i.bytes)) = some (some (.int .i64 0), 1, 8) := by kernel_rfl
/-- The first n numbers of a row, as cells. -/
def rowCells (p q a b : Int) (n : Nat) : List Value := (List.range n).map fun i => .int .i64 (row p q a b i)
theorem rowCells_length (p q a b : Int) (n : Nat) : (rowCells p q a b n).length = n := by simp [rowCells]
theorem rowCells_snoc (p q a b : Int) (n : Nat) : rowCells p q a b n ++ [.int .i64 (row p q a b n)] = rowCells p q a b (n + 1) := by simp [rowCells, List.range_succ]
theorem rowCells_get (p q a b : Int) (n i : Nat) (h : i < n) : (rowCells p q a b n)[i]? = some (.int .i64 (row p q a b i)) := by simp [rowCells, h]
theorem row_small {p q a b : Int} (hp : -4 ≤ p) (hp' : p ≤ 4) (hq : -4 ≤ q) (hq' : q ≤ 4) (ha : -4 ≤ a) (ha' : a ≤ 4) (hb : -4 ≤ b) (hb' : b ≤ 4) (n : Nat) (hn : n ≤ 22) : -10000000000000000 ≤ row p q a b n ∧ row p q a b n ≤ 10000000000000000 := by
  have h := (row_bd (a := a) (b := b) hp hp' hq hq' (c := 4) (by omega) ha ha' (by omega) (by omega) n).1
  have mono : ∀ n, n ≤ 22 → cap 4 n ≤ cap 4 22 := by
    have step : ∀ n, cap 4 n ≤ cap 4 (n + 1) := fun n => by have := cap_nonneg (c := 4) (by omega) n; simp only [cap]; omega
    intro n hn
    have : ∀ d, cap 4 n ≤ cap 4 (n + d) := fun d => by
      induction d with
      | zero => exact Int.le_refl _
      | succ d ih => exact Int.le_trans ih (step _)
    have := this (22 - n)
    rwa [show n + (22 - n) = 22 by omega] at this
  have m := mono n hn
  have e : cap 4 22 = 9536743164062500 := by decide +kernel
  omega
/-- The products and the next number of a row, within int's bounds. -/
theorem row_next {p q a b : Int} (hp : -4 ≤ p) (hp' : p ≤ 4) (hq : -4 ≤ q) (hq' : q ≤ 4) (ha : -4 ≤ a) (ha' : a ≤ 4) (hb : -4 ≤ b) (hb' : b ≤ 4) (n : Nat) (hn : n ≤ 21) :
    (-40000000000000000 ≤ p * row p q a b (n + 1) ∧ p * row p q a b (n + 1) ≤ 40000000000000000) ∧ (-40000000000000000 ≤ q * row p q a b n ∧ q * row p q a b n ≤ 40000000000000000) := by
  obtain ⟨h1, h2⟩ := row_small hp hp' hq hq' ha ha' hb hb' (n + 1) (by omega)
  obtain ⟨h3, h4⟩ := row_small hp hp' hq hq' ha ha' hb hb' n (by omega)
  obtain ⟨m1, m2⟩ := mul_bd (a := 4) hp hp' h1 h2
  obtain ⟨m3, m4⟩ := mul_bd (a := 4) hq hq' h3 h4
  omega
theorem own2 {w : World} {base g : Nat} {x y : Value} (hb : base ≤ g) (h : w.heap[g]? = some (.cells #[x, y] 3 (0, 0))) : w.ownsRow base 3 1 (.slice (some ⟨g, 0, none⟩) 2 2) 2 [x, y] :=
  ⟨rfl, .inr ⟨g, 2, #[x, y], rfl, hb, h, Nat.le_refl _, by unfold maxLen; omega, rfl, rfl⟩⟩
theorem own_get {w : World} {base g c n : Nat} {p q a b : Int} {v : Value} (h : w.ownsRow base 3 1 v n (rowCells p q a b n)) (hv : v = .slice (some ⟨g, 0, none⟩) n c) {i : Nat} (hi : i < n) : w.cell? ⟨g, i, none⟩ = some (.int .i64 (row p q a b i)) := by
  subst hv
  have := h.cells rfl i _ (rowCells_get p q a b n i hi)
  by_cases h0 : i = 0
  · subst h0; simpa [Addr.add] using this
  · simpa [Addr.add, h0] using this
theorem own_cell {w : World} {g i : Nat} {xs : List Value} {u : Value} (h : ∀ j u, xs[j]? = some u → w.cell? ((⟨g, 0, none⟩ : Addr).add j) = some u) (hi : xs[i]? = some u) : w.cell? ⟨g, i, none⟩ = some u := by
  have := h i u hi
  by_cases h0 : i = 0
  · subst h0; simpa [Addr.add] using this
  · simpa [Addr.add, h0] using this
/-- What l1Rows returns for a place. -/
def Rows2 (p q : Int) (m : Nat) (w : World) (e : Ending) (w' : World) : Prop :=
  ∃ gu cu gv cv : Nat, e = .returned (.tuple #[.slice (some ⟨gu, 0, none⟩) (m + 1) cu, .slice (some ⟨gv, 0, none⟩) (m + 1) cv]) ∧ w.heap.size ≤ gu ∧ w.heap.size ≤ gv ∧
    (∀ i, i ≤ m → w'.cell? ⟨gu, i, none⟩ = some (.int .i64 (row p q 0 1 i))) ∧ (∀ i, i ≤ m → w'.cell? ⟨gv, i, none⟩ = some (.int .i64 (row p q 2 p i))) ∧ Below w.heap.size w w'
set_option maxRecDepth 100000 in
set_option maxHeartbeats 4000000 in
theorem l1Rows_any (p q : Int) (m : Nat) (w : World) (h1 : -4 ≤ p) (h2 : p ≤ 4) (h3 : -4 ≤ q) (h4 : q ≤ 4) (hm : m ≤ 21) :
    Calls Try.prog 58 #[pr p q, .int .i64 m] w (Rows2 p q m w) := by
  obtain ⟨i0, hi0, hz0, hzs1, hz2⟩ := info_parts info_int
  go_enter Try.func58, Try.ntmps58
  go_wp2_with fail
  go_loopw [6, 7, 8] (fun u v k wr => ∃ j gu cu gv cv : Nat, u = .slice (some ⟨gu, 0, none⟩) (j + 2) cu ∧ v = .slice (some ⟨gv, 0, none⟩) (j + 2) cv ∧ k = .int .i64 (j + 2) ∧
      wr.ownsRow (w.heap.size + 1) 3 1 (.slice (some ⟨gu, 0, none⟩) (j + 2) cu) (j + 2) (rowCells p q 0 1 (j + 2)) ∧ wr.ownsRow (w.heap.size + 1) 3 1 (.slice (some ⟨gv, 0, none⟩) (j + 2) cv) (j + 2) (rowCells p q 2 p (j + 2)) ∧
      gu ≠ gv ∧ j ≤ m ∧ wr.cell? ⟨w.heap.size, 0, none⟩ = some (.int .i64 p) ∧ wr.cell? ⟨w.heap.size, 1, none⟩ = some (.int .i64 q) ∧ Below w.heap.size w wr) (fun _ _ k _ => 30 - (intOf k).toNat)
  case atStart =>
    have e1 : ((((w.alloc (.cells #[.int .i64 p, .int .i64 q] 24)).alloc (.cells #[.int .i64 0, .int .i64 1] 3)).alloc (.cells #[.int .i64 2, .int .i64 p] 3)).heap[w.heap.size + 1]? = some (.cells #[.int .i64 0, .int .i64 1] 3 (0, 0))) := by
      rw [Below.heap_alloc _ _ _ (by simp)]
      have := heap_alloc_new (w.alloc (.cells #[.int .i64 p, .int .i64 q] 24)) (.cells #[.int .i64 0, .int .i64 1] 3 (0, 0))
      rwa [World.size_alloc] at this
    have e2 : ((((w.alloc (.cells #[.int .i64 p, .int .i64 q] 24)).alloc (.cells #[.int .i64 0, .int .i64 1] 3)).alloc (.cells #[.int .i64 2, .int .i64 p] 3)).heap[w.heap.size + 1 + 1]? = some (.cells #[.int .i64 2, .int .i64 p] 3 (0, 0))) := by
      have := heap_alloc_new ((w.alloc (.cells #[.int .i64 p, .int .i64 q] 24)).alloc (.cells #[.int .i64 0, .int .i64 1] 3)) (.cells #[.int .i64 2, .int .i64 p] 3 (0, 0))
      rwa [World.size_alloc, World.size_alloc] at this
    refine ⟨0, _, _, _, _, rfl, rfl, rfl, own2 (Nat.le_refl _) e1, own2 (by omega) e2, by omega, Nat.zero_le _, by go_simp, by go_simp, ?_⟩
    (repeat (first | exact Below.refl _ _ | refine Below.setCell ?_ (by first | omega | (simp <;> omega)) _ | refine Below.alloc ?_ (by first | omega | (simp <;> omega)) _ | refine Below.drew ?_ | refine Below.trans ?_ (Below.mono (by assumption) (by first | omega | (simp <;> omega))) | refine Below.grown ?_ (by assumption) (by first | omega | (simp <;> omega)) (fun k e => by cases e; first | omega | (simp <;> omega))))
  case round =>
    obtain ⟨j, gu, cu, gv, cv, rfl, rfl, rfl, hu, hv, hne, hj, hcP, hcQ, hB⟩ := hrel
    by_cases hlt : j + 2 ≤ m
    · have lu := (hu.lt gu rfl)
      have lv := (hv.lt gv rfl)
      have a1 : wr.cell? ⟨gu, j + 1, none⟩ = some (.int .i64 (row p q 0 1 (j + 1))) := by simpa [Addr.add] using hu.cells rfl (j + 1) _ (rowCells_get p q 0 1 (j + 2) (j + 1) (by omega))
      have a0 : wr.cell? ⟨gu, j, none⟩ = some (.int .i64 (row p q 0 1 j)) := own_get hu rfl (by omega)
      have b1 : wr.cell? ⟨gv, j + 1, none⟩ = some (.int .i64 (row p q 2 p (j + 1))) := own_get hv rfl (by omega)
      have b0 : wr.cell? ⟨gv, j, none⟩ = some (.int .i64 (row p q 2 p j)) := own_get hv rfl (by omega)
      obtain ⟨⟨x1, x2⟩, x3, x4⟩ := row_next (a := 0) (b := 1) h1 h2 h3 h4 (by omega) (by omega) (by omega) (by omega) j (by omega)
      obtain ⟨⟨y1, y2⟩, y3, y4⟩ := row_next (a := 2) (b := p) h1 h2 h3 h4 (by omega) (by omega) h1 h2 j (by omega)
      have hz := hB.size
      have n0 : (0 : Int) ≤ (j : Int) := Int.natCast_nonneg _
      have n1 : (0 : Int) ≤ (j : Int) + 1 := by omega
      have n2 : (j : Int) + 1 < (j : Int) + 2 := by omega
      have n3 : (j : Int) < (j : Int) + 2 := by omega
      have t1 : ((j : Int) + 1).toNat = j + 1 := by omega
      have W1 : IntKind.i64.wrap ((j : Int) + 2 - 1) = (j : Int) + 1 := by rw [IntKind.wrap_i64]; omega
      have W2 : IntKind.i64.wrap ((j : Int) + 1) = (j : Int) + 1 := by rw [IntKind.wrap_i64]; omega
      have W3 : IntKind.i64.wrap ((j : Int) + 2 - 2) = (j : Int) := by rw [IntKind.wrap_i64]; omega
      have W4 : IntKind.i64.wrap (j : Int) = (j : Int) := by rw [IntKind.wrap_i64]; omega
      have U1 : IntKind.i64.wrap (p * row p q 0 1 (j + 1)) = p * row p q 0 1 (j + 1) := by rw [IntKind.wrap_i64]; omega
      have U2 : IntKind.i64.wrap (q * row p q 0 1 j) = q * row p q 0 1 j := by rw [IntKind.wrap_i64]; omega
      have U3 : IntKind.i64.wrap (p * row p q 0 1 (j + 1) - q * row p q 0 1 j) = row p q 0 1 (j + 2) := by rw [row_step, IntKind.wrap_i64]; omega
      have V1 : IntKind.i64.wrap (p * row p q 2 p (j + 1)) = p * row p q 2 p (j + 1) := by rw [IntKind.wrap_i64]; omega
      have V2 : IntKind.i64.wrap (q * row p q 2 p j) = q * row p q 2 p j := by rw [IntKind.wrap_i64]; omega
      have V3 : IntKind.i64.wrap (p * row p q 2 p (j + 1) - q * row p q 2 p j) = row p q 2 p (j + 2) := by rw [row_step, IntKind.wrap_i64]; omega
      clear x1 x2 x3 x4 y1 y2 y3 y4
      go_wp2
      go_region_held3 (fun w' => w'.cell? ⟨w.heap.size, 0, none⟩ = some (.int .i64 p) ∧ w'.cell? ⟨w.heap.size, 1, none⟩ = some (.int .i64 q) ∧ w'.cell? ⟨gu, j + 1, none⟩ = some (.int .i64 (row p q 0 1 (j + 1))) ∧ w'.cell? ⟨gu, j, none⟩ = some (.int .i64 (row p q 0 1 j)))
        (first | go_keep | (go_split_ands; exact ⟨keepA, keepB, keep1, keep0⟩))
        ((refine step_append_keeps _ (by rfl) _ _ _ (by rfl) (w.heap.size + 1) 3 i0 _ 1 8 Try.underlying35 hi0 hz0 hzs1 hz2 rfl (by omega) gu (j + 2) cu _ (by rfl) ((hu.alloc _).drew) ⟨wr.heap.size, 0, none⟩ 1 1 [.int .i64 (row p q 0 1 (j + 2))] (by rfl) (by rfl) (World.news_of_block (cs := #[.int .i64 (row p q 0 1 (j + 2))]) (t := 3) (fr := (0, 0)) (heap_alloc_new wr _)) (by simp [Value.oneCell']) (by omega) (by unfold maxLen; omega) (by omega) (by simp; omega) (wr.heap.size + 1) (by simp) ?_; intro g1 c1 w1 hown1 hgrow1 hat1 hlt1 hold1; have keepA := (hgrow1.cell_far (a := ⟨w.heap.size, 0, none⟩) (by simp; omega) (by simp; omega)); have keepB := (hgrow1.cell_far (a := ⟨w.heap.size, 1, none⟩) (by simp; omega) (by simp; omega)); have keep1 := own_cell hold1 (rowCells_get p q 0 1 (j + 2) (j + 1) (by omega)); have keep0 := own_cell hold1 (rowCells_get p q 0 1 (j + 2) j (by omega))))
      rename_i hHeld1
      obtain ⟨hcP1, hcQ1, _, _⟩ := hHeld1
      have hv1 := World.ownsRow.kept ((hv.alloc (.cells #[.int .i64 (row p q 0 1 (j + 2))] 3)).drew) hgrow1 (.inr (by simp [Value.ownBlock]; omega))
      have b1 : w1.cell? ⟨gv, j + 1, none⟩ = some (.int .i64 (row p q 2 p (j + 1))) := own_get hv1 rfl (by omega)
      have b0 : w1.cell? ⟨gv, j, none⟩ = some (.int .i64 (row p q 2 p j)) := own_get hv1 rfl (by omega)
      rw [rowCells_snoc] at hown1
      have hz1 : wr.heap.size + 1 ≤ w1.heap.size := by have := hgrow1.size; simpa using this
      have hB1 : Below w.heap.size w w1 := ((hB.alloc hz _).drew).grown hgrow1 (by simp; omega) (fun k e => by cases e; omega)
      clear hcP hcQ a1 a0 hold1 keepA keepB keep1 keep0 hgrow1 hu hv U1 U2 U3
      go_wp2
      go_region_held3 (fun w' => w'.cell? ⟨w.heap.size, 0, none⟩ = some (.int .i64 p) ∧ w'.cell? ⟨w.heap.size, 1, none⟩ = some (.int .i64 q) ∧ w'.cell? ⟨gv, j + 1, none⟩ = some (.int .i64 (row p q 2 p (j + 1))) ∧ w'.cell? ⟨gv, j, none⟩ = some (.int .i64 (row p q 2 p j)))
        (first | go_keep | (go_split_ands; exact ⟨keepA, keepB, keep1, keep0⟩))
        ((refine step_append_keeps _ (by rfl) _ _ _ (by rfl) (w.heap.size + 1) 3 i0 _ 1 8 Try.underlying35 hi0 hz0 hzs1 hz2 rfl (by omega) gv (j + 2) cv _ (by rfl) ((hv1.alloc _).drew) ⟨w1.heap.size, 0, none⟩ 1 1 [.int .i64 (row p q 2 p (j + 2))] (by rfl) (by rfl) (World.news_of_block (cs := #[.int .i64 (row p q 2 p (j + 2))]) (t := 3) (fr := (0, 0)) (heap_alloc_new w1 _)) (by simp [Value.oneCell']) (by omega) (by unfold maxLen; omega) (by omega) (by simp; omega) (w1.heap.size + 1) (by simp) ?_; intro g2 c2 w2 hown2 hgrow2 hat2 hlt2 hold2; have keepA := (hgrow2.cell_far (a := ⟨w.heap.size, 0, none⟩) (by simp; omega) (by simp; omega)); have keepB := (hgrow2.cell_far (a := ⟨w.heap.size, 1, none⟩) (by simp; omega) (by simp; omega)); have keep1 := own_cell hold2 (rowCells_get p q 2 p (j + 2) (j + 1) (by omega)); have keep0 := own_cell hold2 (rowCells_get p q 2 p (j + 2) j (by omega))))
      rename_i hHeld2
      obtain ⟨hcP2, hcQ2, _, _⟩ := hHeld2
      have hu2 := World.ownsRow.kept ((hown1.alloc (.cells #[.int .i64 (row p q 2 p (j + 2))] 3)).drew) hgrow2 (.inr (by simp [Value.ownBlock]; omega))
      rw [rowCells_snoc] at hown2
      have hB2 : Below w.heap.size w w2 := ((hB1.alloc hB1.size _).drew).grown hgrow2 (by simp; omega) (fun k e => by cases e; omega)
      clear hcP1 hcQ1 b1 b0 hold2 keepA keepB keep1 keep0 hgrow2 hown1 hv1 V1 V2 V3
      go_wp2
      go_roundw
      case rel => exact ⟨j + 1, g1, c1, g2, c2, rfl, rfl, congrArg (Value.int .i64) (by omega), hu2, hown2, by omega, by omega, hcP2, hcQ2, hB2⟩
      case measure => simp [intOf]; omega
    · have lu := (hu.lt gu rfl)
      have lv := (hv.lt gv rfl)
      have s1 : (0 : Int) ≤ (m : Int) + 1 := by omega
      have cu1 : m + 1 ≤ cu := by
        rcases hu.2 with ⟨hbad, _⟩ | ⟨_, _, _, he, _, _, hnc, _⟩
        · cases hbad
        · injection he with _ _ hc; omega
      have cv1 : m + 1 ≤ cv := by
        rcases hv.2 with ⟨hbad, _⟩ | ⟨_, _, _, he, _, _, hnc, _⟩
        · cases hbad
        · injection he with _ _ hc; omega
      go_wp2
      go_quiet (fail)
      go_wp2
      go_ret2
      refine ⟨gu, cu, gv, cv, rfl, by omega, by omega, fun i hi => ?_, fun i hi => ?_, ?_⟩
      · exact own_get hu rfl (by omega)
      · exact own_get hv rfl (by omega)
      · exact below_drewN hB _
end Go.Proofs.Ytennicmmjbfljaa
