/- Contracts and laws that the statement's proof stands on, one text behind the other. -/
import Derived.Test.YtblphilcmfabkaaGreatDoorAla0a
import Derived.Deep.QuietTactic
import Derived.BigQuiet
import Derived.IntWalk
import Derived.Deep.RegionHeld3
import Derived.Deep.AppendLies
import Derived.Shelf.Abstract
import Derived.Shelf.RegionOpen
import Derived.OwnWalkIn
import Derived.TacticsInMore
import Derived.LoopNIn
import Derived.LoopIn
import Derived.Sort.LoopGhostIn
import Derived.Sort.QuietIn
import Derived.Test.YtblphilcmfabkaaGreatDoorBitLen
import Derived.Lib.RabinKarpLaws
import Derived.Deep.DeepCutAuto
import Derived.Deep.RegionWith
import Derived.Orders
import Derived.Great.Frames
import Derived.WalkKit
import Derived.Laws.IdiomStrings
import Derived.Deep.Cut

namespace Go.Proofs.YtblphilcmfabkaaGreatDoor
section
open Go.RowKit
theorem info_int : (Tryz.prog.info? 3).map (fun i => (i.zero, i.size, i.bytes)) = some (some (.int .i64 0), 1, 8) := by kernel_rfl
def rowCells (p q a b : Int) (n : Nat) : List Value := (List.range n).map fun i => .int .i64 (row p q a b i)
theorem rowCells_snoc (p q a b : Int) (n : Nat) : rowCells p q a b n ++ [.int .i64 (row p q a b n)] = rowCells p q a b (n + 1) := by simp [rowCells, List.range_succ]
theorem rowCells_get (p q a b : Int) (n i : Nat) (h : i < n) : (rowCells p q a b n)[i]? = some (.int .i64 (row p q a b i)) := by simp [rowCells, h]
theorem row_small {p q a b : Int} (hp : -4 ≤ p) (hp' : p ≤ 4) (hq : -4 ≤ q) (hq' : q ≤ 4) (ha : -4 ≤ a) (ha' : a ≤ 4) (hb : -4 ≤ b) (hb' : b ≤ 4) (n : Nat) (hn : n ≤ 22) : -10000000000000000 ≤ row p q a b n ∧ row p q a b n ≤ 10000000000000000 := by
 have h := (row_bd (a := a) (b := b) hp hp' hq hq' (c := 4) zO ha ha' zO zO n).1
 have mono : ∀ n, n ≤ 22 → cap 4 n ≤ cap 4 22 := by
   have step : ∀ n, cap 4 n ≤ cap 4 (n + 1) := fun n => by have := cap_nonneg (c := 4) zO n; simp only [cap]; omega
   intro n hn
   have : ∀ d, cap 4 n ≤ cap 4 (n + d) := fun d => by
     induction d with
     | zero => exact Int.le_refl _
     | succ d ih => exact Int.le_trans ih (step _)
   have := this (22 - n)
   rwa [show n + (22 - n) = 22 by omega] at this
 have m := mono n hn
 have e : cap 4 22 = 9536743164062500 := by decide +kernel
 omega
theorem row_next {p q a b : Int} (hp : -4 ≤ p) (hp' : p ≤ 4) (hq : -4 ≤ q) (hq' : q ≤ 4) (ha : -4 ≤ a) (ha' : a ≤ 4) (hb : -4 ≤ b) (hb' : b ≤ 4) (n : Nat) (hn : n ≤ 21) :
   (-40000000000000000 ≤ p * row p q a b (n + 1) ∧ p * row p q a b (n + 1) ≤ 40000000000000000) ∧ (-40000000000000000 ≤ q * row p q a b n ∧ q * row p q a b n ≤ 40000000000000000) := by
 obtain ⟨h1, h2⟩ := row_small hp hp' hq hq' ha ha' hb hb' (n + 1) zO
 obtain ⟨h3, h4⟩ := row_small hp hp' hq hq' ha ha' hb hb' n zO
 obtain ⟨m1, m2⟩ := mul_bd (a := 4) hp hp' h1 h2
 obtain ⟨m3, m4⟩ := mul_bd (a := 4) hq hq' h3 h4
 omega
theorem own2 {w : World} {base g : Nat} {x y : Value} (hb : base ≤ g) (h : w.heap[g]? = some (.cells #[x, y] 3 (0, 0))) : w.ownsRow base 3 1 (.slice (some ⟨g, 0, none⟩) 2 2) 2 [x, y] :=
 ⟨rfl, .inr ⟨g, 2, #[x, y], rfl, hb, h, Nat.le_refl _, by unfold maxLen; omega, rfl, rfl⟩⟩
theorem own_get {w : World} {base g c n : Nat} {p q a b : Int} {v : Value} (h : w.ownsRow base 3 1 v n (rowCells p q a b n)) (hv : v = .slice (some ⟨g, 0, none⟩) n c) {i : Nat} (hi : i < n) : w.cell? ⟨g, i, none⟩ = some (.int .i64 (row p q a b i)) := by
 subst hv
 have := h.cells rfl i _ (rowCells_get p q a b n i hi)
 by_cases h0 : i = 0
 · subst h0; simpa [Addr.add] using this
 · simpa [Addr.add, h0] using this
theorem own_cell {w : World} {g i : Nat} {xs : List Value} {u : Value} (h : ∀ j u, xs[j]? = some u → w.cell? ((⟨g, 0, none⟩ : Addr).add j) = some u) (hi : xs[i]? = some u) : w.cell? ⟨g, i, none⟩ = some u := by
 have := h i u hi
 by_cases h0 : i = 0
 · subst h0; simpa [Addr.add] using this
 · simpa [Addr.add, h0] using this
def Rows2 (p q : Int) (m : Nat) (w : World) (e : Ending) (w' : World) : Prop :=
 ∃ gu cu gv cv : Nat, e = .returned (.tuple #[.slice (some ⟨gu, 0, none⟩) (m + 1) cu, .slice (some ⟨gv, 0, none⟩) (m + 1) cv]) ∧ w.heap.size ≤ gu ∧ w.heap.size ≤ gv ∧
   (∀ i, i ≤ m → w'.cell? ⟨gu, i, none⟩ = some (.int .i64 (row p q 0 1 i))) ∧ (∀ i, i ≤ m → w'.cell? ⟨gv, i, none⟩ = some (.int .i64 (row p q 2 p i))) ∧ Below w.heap.size w w'
set_option maxRecDepth 100000 in
set_option maxHeartbeats 4000000 in
theorem l1Rows_any (p q : Int) (m : Nat) (w : World) (h1 : -4 ≤ p) (h2 : p ≤ 4) (h3 : -4 ≤ q) (h4 : q ≤ 4) (hm : m ≤ 21) :
   Calls Tryz.prog 126 #[pr p q, .int .i64 m] w (Rows2 p q m w) := by
 obtain ⟨i0, hi0, hz0, hzs1, hz2⟩ := info_parts info_int
 go_enter Tryz.func126, Tryz.ntmps126
 go_wp2_with fail
 go_loopw [6, 7, 8] (fun u v k wr => ∃ j gu cu gv cv : Nat, u = .slice (some ⟨gu, 0, none⟩) (j + 2) cu ∧ v = .slice (some ⟨gv, 0, none⟩) (j + 2) cv ∧ k = .int .i64 (j + 2) ∧
     wr.ownsRow (w.heap.size + 1) 3 1 (.slice (some ⟨gu, 0, none⟩) (j + 2) cu) (j + 2) (rowCells p q 0 1 (j + 2)) ∧ wr.ownsRow (w.heap.size + 1) 3 1 (.slice (some ⟨gv, 0, none⟩) (j + 2) cv) (j + 2) (rowCells p q 2 p (j + 2)) ∧
     gu ≠ gv ∧ j ≤ m ∧ wr.cell? ⟨w.heap.size, 0, none⟩ = some (.int .i64 p) ∧ wr.cell? ⟨w.heap.size, 1, none⟩ = some (.int .i64 q) ∧ Below w.heap.size w wr) (fun _ _ k _ => 30 - (intOf k).toNat)
 case atStart =>
   have e1 : ((((w.alloc (.cells #[.int .i64 p, .int .i64 q] 29)).alloc (.cells #[.int .i64 0, .int .i64 1] 3)).alloc (.cells #[.int .i64 2, .int .i64 p] 3)).heap[w.heap.size + 1]? = some (.cells #[.int .i64 0, .int .i64 1] 3 (0, 0))) := by
     rw [Below.heap_alloc _ _ _ (by simp)]
     have := heap_alloc_new (w.alloc (.cells #[.int .i64 p, .int .i64 q] 29)) (.cells #[.int .i64 0, .int .i64 1] 3 (0, 0))
     rwa [World.size_alloc] at this
   have e2 : ((((w.alloc (.cells #[.int .i64 p, .int .i64 q] 29)).alloc (.cells #[.int .i64 0, .int .i64 1] 3)).alloc (.cells #[.int .i64 2, .int .i64 p] 3)).heap[w.heap.size + 1 + 1]? = some (.cells #[.int .i64 2, .int .i64 p] 3 (0, 0))) := by
     have := heap_alloc_new ((w.alloc (.cells #[.int .i64 p, .int .i64 q] 29)).alloc (.cells #[.int .i64 0, .int .i64 1] 3)) (.cells #[.int .i64 2, .int .i64 p] 3 (0, 0))
     rwa [World.size_alloc, World.size_alloc] at this
   refine ⟨0, _, _, _, _, rfl, rfl, rfl, own2 (Nat.le_refl _) e1, own2 zO e2, by omega, Nat.zero_le _, by go_simp, by go_simp, ?_⟩
   exact zb
 case round =>
   obtain ⟨j, gu, cu, gv, cv, rfl, rfl, rfl, hu, hv, hne, hj, hcP, hcQ, hB⟩ := hrel
   by_cases hlt : j + 2 ≤ m
   · have lu := (hu.lt gu rfl)
     have lv := (hv.lt gv rfl)
     have a1 : wr.cell? ⟨gu, j + 1, none⟩ = some (.int .i64 (row p q 0 1 (j + 1))) := by simpa [Addr.add] using hu.cells rfl (j + 1) _ (rowCells_get p q 0 1 (j + 2) (j + 1) zO)
     have a0 : wr.cell? ⟨gu, j, none⟩ = some (.int .i64 (row p q 0 1 j)) := own_get hu rfl zO
     have b1 : wr.cell? ⟨gv, j + 1, none⟩ = some (.int .i64 (row p q 2 p (j + 1))) := own_get hv rfl zO
     have b0 : wr.cell? ⟨gv, j, none⟩ = some (.int .i64 (row p q 2 p j)) := own_get hv rfl zO
     obtain ⟨⟨x1, x2⟩, x3, x4⟩ := row_next (a := 0) (b := 1) h1 h2 h3 h4 zO zO zO zO j zO
     obtain ⟨⟨y1, y2⟩, y3, y4⟩ := row_next (a := 2) (b := p) h1 h2 h3 h4 zO zO h1 h2 j zO
     have hz := hB.size
     have n0 : (0 : Int) ≤ (j : Int) := Int.natCast_nonneg _
     have n1 : (0 : Int) ≤ (j : Int) + 1 := by omega
     have n2 : (j : Int) + 1 < (j : Int) + 2 := by omega
     have n3 : (j : Int) < (j : Int) + 2 := by omega
     have t1 : ((j : Int) + 1).toNat = j + 1 := by omega
     have W1 : IntKind.i64.wrap ((j : Int) + 2 - 1) = (j : Int) + 1 := by rw [IntKind.wrap_i64]; omega
     have W2 : IntKind.i64.wrap ((j : Int) + 1) = (j : Int) + 1 := by rw [IntKind.wrap_i64]; omega
     have W3 : IntKind.i64.wrap ((j : Int) + 2 - 2) = (j : Int) := by rw [IntKind.wrap_i64]; omega
     have W4 : IntKind.i64.wrap (j : Int) = (j : Int) := by rw [IntKind.wrap_i64]; omega
     have U1 : IntKind.i64.wrap (p * row p q 0 1 (j + 1)) = p * row p q 0 1 (j + 1) := by rw [IntKind.wrap_i64]; omega
     have U2 : IntKind.i64.wrap (q * row p q 0 1 j) = q * row p q 0 1 j := by rw [IntKind.wrap_i64]; omega
     have U3 : IntKind.i64.wrap (p * row p q 0 1 (j + 1) - q * row p q 0 1 j) = row p q 0 1 (j + 2) := by rw [row_step, IntKind.wrap_i64]; omega
     have V1 : IntKind.i64.wrap (p * row p q 2 p (j + 1)) = p * row p q 2 p (j + 1) := by rw [IntKind.wrap_i64]; omega
     have V2 : IntKind.i64.wrap (q * row p q 2 p j) = q * row p q 2 p j := by rw [IntKind.wrap_i64]; omega
     have V3 : IntKind.i64.wrap (p * row p q 2 p (j + 1) - q * row p q 2 p j) = row p q 2 p (j + 2) := by rw [row_step, IntKind.wrap_i64]; omega
     clear x1 x2 x3 x4 y1 y2 y3 y4
     go_wp2
     go_region_held3 (fun w' => w'.cell? ⟨w.heap.size, 0, none⟩ = some (.int .i64 p) ∧ w'.cell? ⟨w.heap.size, 1, none⟩ = some (.int .i64 q) ∧ w'.cell? ⟨gu, j + 1, none⟩ = some (.int .i64 (row p q 0 1 (j + 1))) ∧ w'.cell? ⟨gu, j, none⟩ = some (.int .i64 (row p q 0 1 j)))
       (first | go_keep | (go_split_ands; exact ⟨keepA, keepB, keep1, keep0⟩))
       ((refine step_append_keeps _ (by rfl) _ _ _ (by rfl) (w.heap.size + 1) 3 i0 _ 1 8 Tryz.underlying99 hi0 hz0 hzs1 hz2 rfl zO gu (j + 2) cu _ (by rfl) ((hu.alloc _).drew) ⟨wr.heap.size, 0, none⟩ 1 1 [.int .i64 (row p q 0 1 (j + 2))] (by rfl) (by rfl) (World.news_of_block (cs := #[.int .i64 (row p q 0 1 (j + 2))]) (t := 3) (fr := (0, 0)) (heap_alloc_new wr _)) (by simp [Value.oneCell']) zO (by unfold maxLen; omega) zO (by simp; omega) (wr.heap.size + 1) (by simp) ?_; intro g1 c1 w1 hown1 hgrow1 hat1 hlt1 hold1; have keepA := (hgrow1.cell_far (a := ⟨w.heap.size, 0, none⟩) (by simp; omega) (by simp; omega)); have keepB := (hgrow1.cell_far (a := ⟨w.heap.size, 1, none⟩) (by simp; omega) (by simp; omega)); have keep1 := own_cell hold1 (rowCells_get p q 0 1 (j + 2) (j + 1) zO); have keep0 := own_cell hold1 (rowCells_get p q 0 1 (j + 2) j zO)))
     rename_i hHeld1
     obtain ⟨hcP1, hcQ1, _, _⟩ := hHeld1
     have hv1 := World.ownsRow.kept ((hv.alloc (.cells #[.int .i64 (row p q 0 1 (j + 2))] 3)).drew) hgrow1 (.inr (by simp [Value.ownBlock]; omega))
     have b1 : w1.cell? ⟨gv, j + 1, none⟩ = some (.int .i64 (row p q 2 p (j + 1))) := own_get hv1 rfl zO
     have b0 : w1.cell? ⟨gv, j, none⟩ = some (.int .i64 (row p q 2 p j)) := own_get hv1 rfl zO
     rw [rowCells_snoc] at hown1
     have hz1 : wr.heap.size + 1 ≤ w1.heap.size := by have := hgrow1.size; simpa using this
     have hB1 : Below w.heap.size w w1 := ((hB.alloc hz _).drew).grown hgrow1 (by simp; omega) (fun k e => by cases e; omega)
     clear hcP hcQ a1 a0 hold1 keepA keepB keep1 keep0 hgrow1 hu hv U1 U2 U3
     go_wp2
     go_region_held3 (fun w' => w'.cell? ⟨w.heap.size, 0, none⟩ = some (.int .i64 p) ∧ w'.cell? ⟨w.heap.size, 1, none⟩ = some (.int .i64 q) ∧ w'.cell? ⟨gv, j + 1, none⟩ = some (.int .i64 (row p q 2 p (j + 1))) ∧ w'.cell? ⟨gv, j, none⟩ = some (.int .i64 (row p q 2 p j)))
       (first | go_keep | (go_split_ands; exact ⟨keepA, keepB, keep1, keep0⟩))
       ((refine step_append_keeps _ (by rfl) _ _ _ (by rfl) (w.heap.size + 1) 3 i0 _ 1 8 Tryz.underlying99 hi0 hz0 hzs1 hz2 rfl zO gv (j + 2) cv _ (by rfl) ((hv1.alloc _).drew) ⟨w1.heap.size, 0, none⟩ 1 1 [.int .i64 (row p q 2 p (j + 2))] (by rfl) (by rfl) (World.news_of_block (cs := #[.int .i64 (row p q 2 p (j + 2))]) (t := 3) (fr := (0, 0)) (heap_alloc_new w1 _)) (by simp [Value.oneCell']) zO (by unfold maxLen; omega) zO (by simp; omega) (w1.heap.size + 1) (by simp) ?_; intro g2 c2 w2 hown2 hgrow2 hat2 hlt2 hold2; have keepA := (hgrow2.cell_far (a := ⟨w.heap.size, 0, none⟩) (by simp; omega) (by simp; omega)); have keepB := (hgrow2.cell_far (a := ⟨w.heap.size, 1, none⟩) (by simp; omega) (by simp; omega)); have keep1 := own_cell hold2 (rowCells_get p q 2 p (j + 2) (j + 1) zO); have keep0 := own_cell hold2 (rowCells_get p q 2 p (j + 2) j zO)))
     rename_i hHeld2
     obtain ⟨hcP2, hcQ2, _, _⟩ := hHeld2
     have hu2 := World.ownsRow.kept ((hown1.alloc (.cells #[.int .i64 (row p q 2 p (j + 2))] 3)).drew) hgrow2 (.inr (by simp [Value.ownBlock]; omega))
     rw [rowCells_snoc] at hown2
     have hB2 : Below w.heap.size w w2 := ((hB1.alloc hB1.size _).drew).grown hgrow2 (by simp; omega) (fun k e => by cases e; omega)
     clear hcP1 hcQ1 b1 b0 hold2 keepA keepB keep1 keep0 hgrow2 hown1 hv1 V1 V2 V3
     go_wp2
     go_roundw
     case rel => exact ⟨j + 1, g1, c1, g2, c2, rfl, rfl, congrArg (Value.int .i64) zO, hu2, hown2, by omega, by omega, hcP2, hcQ2, hB2⟩
     case measure => simp [intOf]; omega
   · have lu := (hu.lt gu rfl)
     have lv := (hv.lt gv rfl)
     have s1 : (0 : Int) ≤ (m : Int) + 1 := by omega
     have cu1 : m + 1 ≤ cu := by
       rcases hu.2 with ⟨hbad, _⟩ | ⟨_, _, _, he, _, _, hnc, _⟩
       · cases hbad
       · injection he with _ _ hc; omega
     have cv1 : m + 1 ≤ cv := by
       rcases hv.2 with ⟨hbad, _⟩ | ⟨_, _, _, he, _, _, hnc, _⟩
       · cases hbad
       · injection he with _ _ hc; omega
     go_wp2
     go_quiet (fail)
     go_wp2
     go_ret2
     refine ⟨gu, cu, gv, cv, rfl, by omega, by omega, fun i hi => ?_, fun i hi => ?_, ?_⟩
     · exact own_get hu rfl zO
     · exact own_get hv rfl zO
     · exact Go.below_drewN hB _
end
section
open Go.RowKit
def atB (p q n : Int) : Bool := pairB p q && placeB n
def firstV (p q n : Int) : Int := if atB p q n = true then row p q 0 1 n.toNat else 0
def secondV (p q n : Int) : Int := if atB p q n = true then row p q 2 p n.toNat else 0
theorem l1In_place_yes (n : Int) (w : World) (h : placeB n = true) : Calls Tryz.prog 86 #[.int .i64 n, .int .i64 0, .int .i64 20] w fun e w' => e = .returned (.bool true) ∧ w = w' := by have := l1In_place n w; rw [h] at this; exact this
theorem l1In_place_no (n : Int) (w : World) (h : placeB n = false) : Calls Tryz.prog 86 #[.int .i64 n, .int .i64 0, .int .i64 20] w fun e w' => e = .returned (.bool false) ∧ w = w' := by have := l1In_place n w; rw [h] at this; exact this
set_option maxHeartbeats 2000000 in
theorem specFirst_any (p q n : Int) (w : World) :
   Calls Tryz.prog 97 #[pr p q, .int .i64 n] w fun e w' => e = .returned (.tuple #[.int .i64 (firstV p q n), .bool (atB p q n)]) ∧ Below w.heap.size w w' := by
 by_cases hp : pairB p q = true
 · by_cases hn : placeB n = true
   · obtain ⟨⟨h1, h2⟩, h3, h4⟩ := pairB_true hp
     obtain ⟨n0, n1⟩ := placeB_true hn
     obtain ⟨m, rfl⟩ := Int.eq_ofNat_of_zero_le n0
     have HV := Lib.hid (show firstV p q m = row p q 0 1 m by rw [firstV, if_pos (by simp [atB, hp, hn])]; rfl)
     have HB := Lib.hid (show atB p q m = true by simp [atB, hp, hn])
     have HP := Lib.hid hp
     have HN := Lib.hid hn
     clear hp hn
     go_enter Tryz.func97, Tryz.ntmps97
     go_wp2_with fail
     refine (specPairOk_yes p q _ HP.out).mono ?_
     rintro e w1 ⟨rfl, hh1⟩
     obtain ⟨hc1, hf1⟩ := bcell hh1
     have hz1 := hh1.size
     try simp only [World.size_alloc] at hz1
     have hz1_0 : w.heap.size < w1.heap.size := by omega
     have kb1_0_0 : w1.cell? ⟨w.heap.size, 0, none⟩ = some (.int .i64 p) := by go_simp
     have kf1_0_0 : w1.frozen? ⟨w.heap.size, 0, none⟩ = false := by go_simp
     have kb1_0_1 : w1.cell? ⟨w.heap.size, 1, none⟩ = some (.int .i64 q) := by go_simp
     have kf1_0_1 : w1.frozen? ⟨w.heap.size, 1, none⟩ = false := by go_simp
     clear hc1 hf1
     go_wp2_with fail
     refine (l1In_place_yes _ _ HN.out).mono ?_
     rintro e w2 ⟨rfl, rfl⟩
     go_wp2_with fail
     refine (l1Rows_any p q m _ h1 h2 h3 h4 zO).mono ?_
     rintro e w3 ⟨gu, cu, gv, cv, rfl, hgu, hgv, hcu, hcv, hh3⟩
     have kc : w3.cell? ⟨gu, m, none⟩ = some (.int .i64 (row p q 0 1 m)) := hcu m (Nat.le_refl _)
     have j0 : (0 : Int) ≤ (m : Int) := Int.natCast_nonneg _
     have j1 : (m : Int) < (m : Int) + 1 := by omega
     clear hcu hcv
     go_wp2
     go_ret2
     exact ⟨ret_int_bool HV.out.symm HB.out.symm, by exact zb⟩
   · have hn' : placeB n = false := by simpa using hn
     have HV := Lib.hid (show firstV p q n = 0 by rw [firstV, if_neg (by simp [atB, hn'])])
     have HB := Lib.hid (show atB p q n = false by simp [atB, hn'])
     have HP := Lib.hid hp
     have HN := Lib.hid hn'
     clear hp hn hn'
     go_enter Tryz.func97, Tryz.ntmps97
     go_wp2_with fail
     refine (specPairOk_yes p q _ HP.out).mono ?_
     rintro e w1 ⟨rfl, hh1⟩
     obtain ⟨hc1, hf1⟩ := bcell hh1
     have hz1 := hh1.size
     try simp only [World.size_alloc] at hz1
     have hz1_0 : w.heap.size < w1.heap.size := by omega
     have kb1_0_0 : w1.cell? ⟨w.heap.size, 0, none⟩ = some (.int .i64 p) := by go_simp
     have kf1_0_0 : w1.frozen? ⟨w.heap.size, 0, none⟩ = false := by go_simp
     have kb1_0_1 : w1.cell? ⟨w.heap.size, 1, none⟩ = some (.int .i64 q) := by go_simp
     have kf1_0_1 : w1.frozen? ⟨w.heap.size, 1, none⟩ = false := by go_simp
     clear hc1 hf1
     go_wp2_with fail
     refine (l1In_place_no _ _ HN.out).mono ?_
     rintro e w2 ⟨rfl, rfl⟩
     go_wp2
     go_ret2
     exact ⟨ret_int_bool HV.out.symm HB.out.symm, by exact zb⟩
 · have hp' : pairB p q = false := by simpa using hp
   have HV := Lib.hid (show firstV p q n = 0 by rw [firstV, if_neg (by simp [atB, hp'])])
   have HB := Lib.hid (show atB p q n = false by simp [atB, hp'])
   have HP := Lib.hid hp'
   clear hp hp'
   go_enter Tryz.func97, Tryz.ntmps97
   go_wp2_with fail
   refine (specPairOk_no p q _ HP.out).mono ?_
   rintro e w1 ⟨rfl, hh1⟩
   obtain ⟨hc1, hf1⟩ := bcell hh1
   have hz1 := hh1.size
   try simp only [World.size_alloc] at hz1
   have hz1_0 : w.heap.size < w1.heap.size := by omega
   have kb1_0_0 : w1.cell? ⟨w.heap.size, 0, none⟩ = some (.int .i64 p) := by go_simp
   have kf1_0_0 : w1.frozen? ⟨w.heap.size, 0, none⟩ = false := by go_simp
   have kb1_0_1 : w1.cell? ⟨w.heap.size, 1, none⟩ = some (.int .i64 q) := by go_simp
   have kf1_0_1 : w1.frozen? ⟨w.heap.size, 1, none⟩ = false := by go_simp
   clear hc1 hf1
   go_wp2
   go_ret2
   exact ⟨ret_int_bool HV.out.symm HB.out.symm, by exact zb⟩
set_option maxHeartbeats 2000000 in
theorem specSecond_any (p q n : Int) (w : World) :
   Calls Tryz.prog 98 #[pr p q, .int .i64 n] w fun e w' => e = .returned (.tuple #[.int .i64 (secondV p q n), .bool (atB p q n)]) ∧ Below w.heap.size w w' := by
 by_cases hp : pairB p q = true
 · by_cases hn : placeB n = true
   · obtain ⟨⟨h1, h2⟩, h3, h4⟩ := pairB_true hp
     obtain ⟨n0, n1⟩ := placeB_true hn
     obtain ⟨m, rfl⟩ := Int.eq_ofNat_of_zero_le n0
     have HV := Lib.hid (show secondV p q m = row p q 2 p m by rw [secondV, if_pos (by simp [atB, hp, hn])]; rfl)
     have HB := Lib.hid (show atB p q m = true by simp [atB, hp, hn])
     have HP := Lib.hid hp
     have HN := Lib.hid hn
     clear hp hn
     go_enter Tryz.func98, Tryz.ntmps98
     go_wp2_with fail
     refine (specPairOk_yes p q _ HP.out).mono ?_
     rintro e w1 ⟨rfl, hh1⟩
     obtain ⟨hc1, hf1⟩ := bcell hh1
     have hz1 := hh1.size
     try simp only [World.size_alloc] at hz1
     have hz1_0 : w.heap.size < w1.heap.size := by omega
     have kb1_0_0 : w1.cell? ⟨w.heap.size, 0, none⟩ = some (.int .i64 p) := by go_simp
     have kf1_0_0 : w1.frozen? ⟨w.heap.size, 0, none⟩ = false := by go_simp
     have kb1_0_1 : w1.cell? ⟨w.heap.size, 1, none⟩ = some (.int .i64 q) := by go_simp
     have kf1_0_1 : w1.frozen? ⟨w.heap.size, 1, none⟩ = false := by go_simp
     clear hc1 hf1
     go_wp2_with fail
     refine (l1In_place_yes _ _ HN.out).mono ?_
     rintro e w2 ⟨rfl, rfl⟩
     go_wp2_with fail
     refine (l1Rows_any p q m _ h1 h2 h3 h4 zO).mono ?_
     rintro e w3 ⟨gu, cu, gv, cv, rfl, hgu, hgv, hcu, hcv, hh3⟩
     have kc : w3.cell? ⟨gv, m, none⟩ = some (.int .i64 (row p q 2 p m)) := hcv m (Nat.le_refl _)
     have j0 : (0 : Int) ≤ (m : Int) := Int.natCast_nonneg _
     have j1 : (m : Int) < (m : Int) + 1 := by omega
     clear hcu hcv
     go_wp2
     go_ret2
     exact ⟨ret_int_bool HV.out.symm HB.out.symm, by exact zb⟩
   · have hn' : placeB n = false := by simpa using hn
     have HV := Lib.hid (show secondV p q n = 0 by rw [secondV, if_neg (by simp [atB, hn'])])
     have HB := Lib.hid (show atB p q n = false by simp [atB, hn'])
     have HP := Lib.hid hp
     have HN := Lib.hid hn'
     clear hp hn hn'
     go_enter Tryz.func98, Tryz.ntmps98
     go_wp2_with fail
     refine (specPairOk_yes p q _ HP.out).mono ?_
     rintro e w1 ⟨rfl, hh1⟩
     obtain ⟨hc1, hf1⟩ := bcell hh1
     have hz1 := hh1.size
     try simp only [World.size_alloc] at hz1
     have hz1_0 : w.heap.size < w1.heap.size := by omega
     have kb1_0_0 : w1.cell? ⟨w.heap.size, 0, none⟩ = some (.int .i64 p) := by go_simp
     have kf1_0_0 : w1.frozen? ⟨w.heap.size, 0, none⟩ = false := by go_simp
     have kb1_0_1 : w1.cell? ⟨w.heap.size, 1, none⟩ = some (.int .i64 q) := by go_simp
     have kf1_0_1 : w1.frozen? ⟨w.heap.size, 1, none⟩ = false := by go_simp
     clear hc1 hf1
     go_wp2_with fail
     refine (l1In_place_no _ _ HN.out).mono ?_
     rintro e w2 ⟨rfl, rfl⟩
     go_wp2
     go_ret2
     exact ⟨ret_int_bool HV.out.symm HB.out.symm, by exact zb⟩
 · have hp' : pairB p q = false := by simpa using hp
   have HV := Lib.hid (show secondV p q n = 0 by rw [secondV, if_neg (by simp [atB, hp'])])
   have HB := Lib.hid (show atB p q n = false by simp [atB, hp'])
   have HP := Lib.hid hp'
   clear hp hp'
   go_enter Tryz.func98, Tryz.ntmps98
   go_wp2_with fail
   refine (specPairOk_no p q _ HP.out).mono ?_
   rintro e w1 ⟨rfl, hh1⟩
   obtain ⟨hc1, hf1⟩ := bcell hh1
   have hz1 := hh1.size
   try simp only [World.size_alloc] at hz1
   have hz1_0 : w.heap.size < w1.heap.size := by omega
   have kb1_0_0 : w1.cell? ⟨w.heap.size, 0, none⟩ = some (.int .i64 p) := by go_simp
   have kf1_0_0 : w1.frozen? ⟨w.heap.size, 0, none⟩ = false := by go_simp
   have kb1_0_1 : w1.cell? ⟨w.heap.size, 1, none⟩ = some (.int .i64 q) := by go_simp
   have kf1_0_1 : w1.frozen? ⟨w.heap.size, 1, none⟩ = false := by go_simp
   clear hc1 hf1
   go_wp2
   go_ret2
   exact ⟨ret_int_bool HV.out.symm HB.out.symm, by exact zb⟩
end
section
theorem two_steps {P : Nat → Prop} (h0 : P 0) (h1 : P 1) (hs : ∀ n, P n → P (n + 1) → P (n + 2)) : ∀ n, P n := by
 have : ∀ n, P n ∧ P (n + 1) := fun n => by
   induction n with
   | zero => exact ⟨h0, h1⟩
   | succ n ih => exact ⟨ih.2, hs n ih.1 ih.2⟩
 exact fun n => (this n).1
theorem second_of_first (p q : Int) : ∀ n, row p q 2 p n = 2 * row p q 0 1 (n + 1) - p * row p q 0 1 n := by
 refine two_steps ?_ ?_ ?_
 · simp [row]
 · simp only [row]; grind
 · intro n h1 h2
   have e1 : row p q 2 p (n + 2) = p * row p q 2 p (n + 1) - q * row p q 2 p n := rfl
   have e2 : row p q 0 1 (n + 1 + 1) = p * row p q 0 1 (n + 1) - q * row p q 0 1 n := rfl
   have e3 : row p q 0 1 (n + 2 + 1) = p * row p q 0 1 (n + 1 + 1) - q * row p q 0 1 (n + 1) := rfl
   rw [e1, h1, h2, e3]
   have e4 : row p q 0 1 (n + 2) = row p q 0 1 (n + 1 + 1) := rfl
   rw [e4, e2]
   grind
end
section
theorem row_add (p q : Int) (a : Nat) : ∀ b : Nat, row p q 0 1 (a + 1) * row p q 0 1 (b + 1) - q * row p q 0 1 a * row p q 0 1 b = row p q 0 1 (a + 1 + b) := by
 refine two_steps ?_ ?_ ?_
 · simp [row]
 · have e : row p q 0 1 (a + 1 + 1) = p * row p q 0 1 (a + 1) - q * row p q 0 1 a := rfl
   have e2 : row p q 0 1 (1 + 1) = p := by simp [row]
   have e3 : row p q 0 1 1 = 1 := rfl
   rw [e, e2, e3]
   grind
 · intro b h1 h2
   have e : row p q 0 1 (a + 1 + (b + 2)) = p * row p q 0 1 (a + 1 + (b + 1)) - q * row p q 0 1 (a + 1 + b) := rfl
   have e2 : row p q 0 1 (b + 2 + 1) = p * row p q 0 1 (b + 1 + 1) - q * row p q 0 1 (b + 1) := rfl
   have e3 : row p q 0 1 (b + 2) = p * row p q 0 1 (b + 1) - q * row p q 0 1 b := rfl
   rw [e, ← h1, ← h2, e2, e3]
   clear h1 h2 e e2 e3
   grind
theorem row_twice (p q : Int) (n : Nat) : row p q 0 1 n * row p q 2 p n = row p q 0 1 (2 * n) := by
 cases n with
 | zero => simp [row]
 | succ n =>
   have e : row p q 0 1 (n + 1 + 1) = p * row p q 0 1 (n + 1) - q * row p q 0 1 n := rfl
   rw [show 2 * (n + 1) = n + 1 + (n + 1) by omega, ← row_add p q n (n + 1), second_of_first, e]
   clear e
   grind
end
section
def Eqm (m x y : Int) : Prop := m ∣ x - y
theorem Eqm.refl (m x : Int) : Eqm m x x := ⟨0, by omega⟩
theorem Eqm.symm {m x y : Int} (h : Eqm m x y) : Eqm m y x := by
 obtain ⟨k, hk⟩ := h
 exact ⟨-k, by rw [Int.mul_neg]; omega⟩
theorem Eqm.trans {m x y z : Int} (h : Eqm m x y) (g : Eqm m y z) : Eqm m x z := by
 obtain ⟨k, hk⟩ := h
 obtain ⟨l, hl⟩ := g
 exact ⟨k + l, by rw [Int.mul_add]; omega⟩
theorem Eqm.add {m x y u v : Int} (h : Eqm m x y) (g : Eqm m u v) : Eqm m (x + u) (y + v) := by
 obtain ⟨k, hk⟩ := h
 obtain ⟨l, hl⟩ := g
 exact ⟨k + l, by rw [Int.mul_add]; omega⟩
theorem Eqm.sub {m x y u v : Int} (h : Eqm m x y) (g : Eqm m u v) : Eqm m (x - u) (y - v) := by
 obtain ⟨k, hk⟩ := h
 obtain ⟨l, hl⟩ := g
 exact ⟨k - l, by rw [Int.mul_sub]; omega⟩
theorem Eqm.mul {m x y u v : Int} (h : Eqm m x y) (g : Eqm m u v) : Eqm m (x * u) (y * v) := by
 obtain ⟨k, hk⟩ := h
 obtain ⟨l, hl⟩ := g
 have e : x = y + m * k := by omega
 have e2 : u = v + m * l := by omega
 subst e e2
 clear hk hl
 exact ⟨y * l + k * v + k * (m * l), by grind⟩
theorem eqm_left (m x : Int) : Eqm m (x % m) x := ⟨-(x / m), by have := Int.emod_add_mul_ediv x m; rw [Int.mul_neg]; omega⟩
theorem Eqm.left {m x y : Int} (h : Eqm m x y) : x % m = y % m := by
 exact Int.emod_eq_emod_iff_emod_sub_eq_zero.2 (Int.emod_eq_zero_of_dvd h)
theorem go_left2 (n m : Int) : (n.tmod m + m) % m = n % m := by
 refine Eqm.left ⟨1 - n.tdiv m, ?_⟩
 have := Int.mul_tdiv_add_tmod n m
 rw [Int.mul_sub]
 omega
theorem left_bd (n m : Int) (hm : 1 ≤ m) : 0 ≤ n % m ∧ n % m < m := ⟨Int.emod_nonneg _ zO, Int.emod_lt_of_pos _ zO⟩
theorem far_even (p q m : Int) (k : Nat) : row p q 0 1 k % m * ((2 * (row p q 0 1 (k + 1) % m) - p * (row p q 0 1 k % m)) % m) % m = row p q 0 1 (2 * k) % m := by
 refine Eqm.left ?_
 rw [← row_twice, second_of_first]
 exact (eqm_left m _).mul ((eqm_left m _).trans (((Eqm.refl m 2).mul (eqm_left m _)).sub ((Eqm.refl m p).mul (eqm_left m _))))
theorem far_odd (p q m : Int) (k : Nat) : (row p q 0 1 (k + 1) % m * (row p q 0 1 (k + 1) % m) - q * (row p q 0 1 k % m) % m * (row p q 0 1 k % m)) % m = row p q 0 1 (2 * k + 1) % m := by
 refine Eqm.left ?_
 rw [show 2 * k + 1 = k + 1 + k by omega, ← row_add]
 exact ((eqm_left m _).mul (eqm_left m _)).sub (((eqm_left m _).trans ((Eqm.refl m q).mul (eqm_left m _))).mul (eqm_left m _))
theorem far_next (p q m : Int) (k : Nat) : (p * (row p q 0 1 (k + 1) % m) - q * (row p q 0 1 k % m)) % m = row p q 0 1 (k + 2) % m := by
 refine Eqm.left ?_
 rw [row_step]
 exact ((Eqm.refl m p).mul (eqm_left m _)).sub ((Eqm.refl m q).mul (eqm_left m _))
theorem far_second (p q m : Int) (k : Nat) : (2 * (row p q 0 1 (k + 1) % m) - p * (row p q 0 1 k % m)) % m = row p q 2 p k % m := by
 refine Eqm.left ?_
 rw [second_of_first]
 exact ((Eqm.refl m 2).mul (eqm_left m _)).sub ((Eqm.refl m p).mul (eqm_left m _))
end
section
def Apart (d q : Int) : Prop := ∀ c : Int, c ∣ d → c ∣ q → c ∣ 1
theorem apart_gcd {d q : Int} : Int.gcd d q = 1 ↔ Apart d q := Int.gcd_eq_one_iff
theorem Apart.symm {d q : Int} (h : Apart d q) : Apart q d := fun c h1 h2 => h c h2 h1
theorem Apart.of_dvd {c d q : Int} (h : Apart d q) (hc : c ∣ d) : Apart c q := fun e h1 h2 => h e (Int.dvd_trans h1 hc) h2
theorem apart_cancel {d q x : Int} (h : Apart d q) (hd : d ∣ q * x) : d ∣ x := by
 have hg := apart_gcd.2 h
 rw [← Int.natAbs_dvd_natAbs] at hd ⊢
 rw [Int.natAbs_mul] at hd
 exact Nat.Coprime.dvd_of_dvd_mul_left hg hd
theorem Apart.mul {d q x : Int} (h : Apart d q) (h2 : Apart d x) : Apart d (q * x) := fun c hc hx => h2 c hc (apart_cancel (h.of_dvd hc) hx)
theorem neighbours_apart {p q m : Int} (h : Apart m q) : ∀ (n : Nat) (c : Int), c ∣ m → c ∣ row p q 0 1 n → c ∣ row p q 0 1 (n + 1) → c ∣ 1
 | 0, _, _, _, h2 => h2
 | n + 1, c, hc, h1, h2 => by
   refine neighbours_apart h n c hc ?_ h1
   refine apart_cancel (h.of_dvd hc) ?_
   have e : q * row p q 0 1 n = p * row p q 0 1 (n + 1) - row p q 0 1 (n + 1 + 1) := by
     have : row p q 0 1 (n + 1 + 1) = p * row p q 0 1 (n + 1) - q * row p q 0 1 n := rfl
     omega
   rw [e]
   exact Int.dvd_sub (Int.dvd_mul_of_dvd_right h1) h2
theorem next_apart {p q m : Int} (h : Apart m q) {r : Nat} (hr : m ∣ row p q 0 1 r) : Apart m (row p q 0 1 (r + 1)) := fun c h1 h2 => neighbours_apart h r c h1 (Int.dvd_trans h1 hr) h2
theorem shift_dvd {p q m : Int} (h : Apart m q) {r : Nat} (hr : m ∣ row p q 0 1 r) : ∀ s : Nat, m ∣ row p q 0 1 (r + s) ↔ m ∣ row p q 0 1 s
 | 0 => ⟨fun _ => ⟨0, by simp [row]⟩, fun _ => hr⟩
 | s + 1 => by
   rw [show r + (s + 1) = s + 1 + r by omega, ← row_add]
   constructor
   · intro hd
     have h2 : m ∣ row p q 0 1 (r + 1) * row p q 0 1 (s + 1) := by
       have e : row p q 0 1 (r + 1) * row p q 0 1 (s + 1) = row p q 0 1 (s + 1) * row p q 0 1 (r + 1) - q * row p q 0 1 s * row p q 0 1 r + q * row p q 0 1 s * row p q 0 1 r := by rw [Int.mul_comm (row p q 0 1 (r + 1))]; omega
       rw [e]
       exact Int.dvd_add hd (Int.dvd_mul_of_dvd_right hr)
     exact apart_cancel (next_apart h hr) h2
   · intro hd
     exact Int.dvd_sub (Int.dvd_mul_of_dvd_left hd) (Int.dvd_mul_of_dvd_right hr)
theorem row_dvd (p q : Int) (a : Nat) : ∀ k : Nat, row p q 0 1 a ∣ row p q 0 1 (a * k)
 | 0 => ⟨0, by simp [row]⟩
 | k + 1 => by
   cases a with
   | zero => exact ⟨1, by simp⟩
   | succ a =>
     have ih := row_dvd p q (a + 1) k
     rw [show (a + 1) * (k + 1) = a + 1 + (a + 1) * k by rw [Nat.mul_succ]; omega, ← row_add]
     exact Int.dvd_sub (Int.dvd_mul_of_dvd_left (Int.dvd_refl _)) (Int.dvd_mul_of_dvd_right ih)
theorem rank_dvd {p q m : Int} (h : Apart m q) {r : Nat} (h1 : 1 ≤ r) (hr : m ∣ row p q 0 1 r) (hl : ∀ s, 1 ≤ s → s < r → ¬ m ∣ row p q 0 1 s) : ∀ N n : Nat, n ≤ N → (m ∣ row p q 0 1 n ↔ r ∣ n)
 | 0, n, hn => by
   obtain rfl : n = 0 := by omega
   exact ⟨fun _ => Nat.dvd_zero r, fun _ => ⟨0, by simp [row]⟩⟩
 | N + 1, n, hn => by
   by_cases h0 : n = 0
   · subst h0
     exact ⟨fun _ => Nat.dvd_zero r, fun _ => ⟨0, by simp [row]⟩⟩
   by_cases hlt : n < r
   · constructor
     · intro hd
       exact absurd hd (hl n zO hlt)
     · intro hd
       have := Nat.le_of_dvd zO hd
       omega
   · obtain ⟨s, rfl⟩ := Nat.exists_eq_add_of_le (show r ≤ n by omega)
     rw [shift_dvd h hr s, rank_dvd h h1 hr hl N s zO]
     constructor
     · intro hd; exact Nat.dvd_add (Nat.dvd_refl r) hd
     · intro hd; exact (Nat.dvd_add_right (Nat.dvd_refl r)).1 hd
end
section
theorem pigeon : ∀ (N : Nat) (f : Nat → Nat), (∀ k, k ≤ N → f k < N) → ∃ i j, i < j ∧ j ≤ N ∧ f i = f j
 | 0, f, h => absurd (h 0 (Nat.le_refl 0)) zO
 | N + 1, f, h => by
   by_cases hv : ∃ i, i ≤ N ∧ f i = f (N + 1)
   · obtain ⟨i, hi, he⟩ := hv
     exact ⟨i, N + 1, by omega, Nat.le_refl _, he⟩
   · have hne : ∀ k, k ≤ N → f k ≠ f (N + 1) := fun k hk he => hv ⟨k, hk, he⟩
     obtain ⟨i, j, hij, hj, he⟩ := pigeon N (fun k => if f k < f (N + 1) then f k else f k - 1) (fun k hk => by
       have h1 := h k zO
       have h2 := h (N + 1) (Nat.le_refl _)
       have h3 := hne k hk
       show (if f k < f (N + 1) then f k else f k - 1) < N
       split <;> omega)
     refine ⟨i, j, hij, by omega, ?_⟩
     have h1 := hne i zO
     have h2 := hne j hj
     split at he <;> split at he <;> omega
theorem eqm_cancel {m q x y : Int} (h : Apart m q) (he : Eqm m (q * x) (q * y)) : Eqm m x y := by
 have h1 : m ∣ q * (x - y) := by rw [Int.mul_sub]; exact he
 exact apart_cancel h h1
theorem back_one {p q m : Int} (h : Apart m q) {i j : Nat} (h1 : Eqm m (row p q 0 1 (i + 1)) (row p q 0 1 (j + 1))) (h2 : Eqm m (row p q 0 1 (i + 2)) (row p q 0 1 (j + 2))) : Eqm m (row p q 0 1 i) (row p q 0 1 j) := by
 refine eqm_cancel h ?_
 have e : ∀ k, q * row p q 0 1 k = p * row p q 0 1 (k + 1) - row p q 0 1 (k + 2) := fun k => by
   have := row_step p q 0 1 k
   omega
 rw [e i, e j]
 exact ((Eqm.refl m p).mul h1).sub h2
theorem back_all {p q m : Int} (h : Apart m q) (d : Nat) : ∀ i : Nat, Eqm m (row p q 0 1 i) (row p q 0 1 (i + d)) → Eqm m (row p q 0 1 (i + 1)) (row p q 0 1 (i + 1 + d)) → Eqm m (row p q 0 1 0) (row p q 0 1 d) ∧ Eqm m (row p q 0 1 1) (row p q 0 1 (d + 1))
 | 0, h1, h2 => by
   rw [show 0 + d = d by omega] at h1
   rw [show 0 + 1 + d = d + 1 by omega] at h2
   exact ⟨h1, h2⟩
 | i + 1, h1, h2 => by
   refine back_all h d i (back_one h (i := i) (j := i + d) ?_ ?_) ?_
   · rw [show i + d + 1 = i + 1 + d by omega]; exact h1
   · rw [show i + d + 2 = i + 1 + 1 + d by omega]; exact h2
   · exact h1
theorem eqm_left_eq {m x y : Int} (h : x % m = y % m) : Eqm m x y := Int.dvd_of_emod_eq_zero (Int.emod_eq_emod_iff_emod_sub_eq_zero.1 h)
theorem comes_again {p q : Int} (m : Nat) (hm : 1 ≤ m) (h : Apart (m : Int) q) : ∃ d : Nat, 1 ≤ d ∧ d ≤ m * m ∧ Eqm m (row p q 0 1 d) 0 ∧ Eqm m (row p q 0 1 (d + 1)) 1 := by
 have hb : ∀ x : Int, 0 ≤ x % (m : Int) ∧ x % (m : Int) < m := fun x => ⟨Int.emod_nonneg x zO, Int.emod_lt_of_pos x zO⟩
 obtain ⟨i, j, hij, hj, he⟩ := pigeon (m * m) (fun k => (row p q 0 1 k % (m : Int)).toNat * m + (row p q 0 1 (k + 1) % (m : Int)).toNat) (fun k _ => by
   have a := hb (row p q 0 1 k)
   have b := hb (row p q 0 1 (k + 1))
   generalize row p q 0 1 k % (m : Int) = x at a ⊢
   generalize row p q 0 1 (k + 1) % (m : Int) = y at b ⊢
   obtain ⟨x', rfl⟩ := Int.eq_ofNat_of_zero_le a.1
   obtain ⟨y', rfl⟩ := Int.eq_ofNat_of_zero_le b.1
   have hx : x' + 1 ≤ m := by omega
   have hy : y' < m := by omega
   have := Nat.mul_le_mul_right m hx
   rw [Nat.add_mul, Nat.one_mul] at this
   simp only [Int.toNat_natCast]
   omega)
 have key : row p q 0 1 i % (m : Int) = row p q 0 1 j % (m : Int) ∧ row p q 0 1 (i + 1) % (m : Int) = row p q 0 1 (j + 1) % (m : Int) := by
   have a := hb (row p q 0 1 i)
   have b := hb (row p q 0 1 (i + 1))
   have c := hb (row p q 0 1 j)
   have d := hb (row p q 0 1 (j + 1))
   generalize row p q 0 1 i % (m : Int) = x at *
   generalize row p q 0 1 (i + 1) % (m : Int) = y at *
   generalize row p q 0 1 j % (m : Int) = z at *
   generalize row p q 0 1 (j + 1) % (m : Int) = t at *
   obtain ⟨x', rfl⟩ := Int.eq_ofNat_of_zero_le a.1
   obtain ⟨y', rfl⟩ := Int.eq_ofNat_of_zero_le b.1
   obtain ⟨z', rfl⟩ := Int.eq_ofNat_of_zero_le c.1
   obtain ⟨t', rfl⟩ := Int.eq_ofNat_of_zero_le d.1
   simp only [Int.toNat_natCast] at he
   have hy : y' < m := by omega
   have ht : t' < m := by omega
   have e1 : (x' * m + y') / m = (z' * m + t') / m := by rw [he]
   rw [Nat.mul_comm x', Nat.mul_comm z', Nat.mul_add_div zO, Nat.mul_add_div zO, Nat.div_eq_of_lt hy, Nat.div_eq_of_lt ht] at e1
   have e2 : x' = z' := by omega
   subst e2
   exact ⟨rfl, by omega⟩
 obtain ⟨d, rfl⟩ : ∃ d, j = i + d := ⟨j - i, by omega⟩
 have hk := back_all h d i (eqm_left_eq key.1) (eqm_left_eq (by rw [show i + 1 + d = i + d + 1 by omega]; exact key.2))
 exact ⟨d, by omega, by omega, hk.1.symm, hk.2.symm⟩
theorem eqm_zero {m x : Int} (h : Eqm m x 0) : m ∣ x := by
 have := h
 rwa [Eqm, Int.sub_zero] at this
def findFrom (B : Nat → Bool) : Nat → Nat → Nat
 | 0, n => n
 | f + 1, n => if B n = true then n else findFrom B f (n + 1)
theorem findFrom_spec (B : Nat → Bool) : ∀ (f n r : Nat), n ≤ r → r ≤ n + f → B r = true → B (findFrom B f n) = true ∧ n ≤ findFrom B f n ∧ findFrom B f n ≤ r ∧ ∀ s, n ≤ s → s < findFrom B f n → B s = false
 | 0, n, r, h1, h2, hr => by
   obtain rfl : r = n := by omega
   exact ⟨hr, Nat.le_refl _, Nat.le_refl _, fun s h3 h4 => by simp only [findFrom] at h4; omega⟩
 | f + 1, n, r, h1, h2, hr => by
   by_cases hn : B n = true
   · rw [findFrom, if_pos hn]
     exact ⟨hn, Nat.le_refl _, h1, fun s h3 h4 => by omega⟩
   · have hne : r ≠ n := fun e => by subst e; exact hn hr
     obtain ⟨a, b, c, d⟩ := findFrom_spec B f (n + 1) r zO zO hr
     rw [findFrom, if_neg hn]
     refine ⟨a, by omega, c, fun s h3 h4 => ?_⟩
     rcases Nat.eq_or_lt_of_le h3 with rfl | h5
     · simpa using hn
     · exact d s h5 h4
def rankN (p q : Int) (m : Nat) : Nat := findFrom (fun r => row p q 0 1 r % (m : Int) == 0) (m * m) 1
def periodN (p q : Int) (m : Nat) : Nat := findFrom (fun r => row p q 0 1 r % (m : Int) == 0 && row p q 0 1 (r + 1) % (m : Int) == 1 % (m : Int)) (m * m) 1
theorem left_zero_iff {m x : Int} : (x % m == 0) = true ↔ m ∣ x := by rw [beq_iff_eq]; exact Int.dvd_iff_emod_eq_zero.symm
theorem rankN_spec {p q : Int} (m : Nat) (hm : 1 ≤ m) (h : Apart (m : Int) q) : (m : Int) ∣ row p q 0 1 (rankN p q m) ∧ 1 ≤ rankN p q m ∧ rankN p q m ≤ m * m ∧ ∀ s, 1 ≤ s → s < rankN p q m → ¬ (m : Int) ∣ row p q 0 1 s := by
 obtain ⟨d, h1, h2, h3, _⟩ := comes_again (p := p) m hm h
 obtain ⟨a, b, c, e⟩ := findFrom_spec (fun r => row p q 0 1 r % (m : Int) == 0) (m * m) 1 d h1 zO (left_zero_iff.2 (eqm_zero h3))
 refine ⟨left_zero_iff.1 a, b, Nat.le_trans c h2, fun s s1 s2 hd => ?_⟩
 have := e s s1 s2
 rw [left_zero_iff.2 hd] at this
 cases this
theorem rankN_dvd {p q : Int} (m : Nat) (hm : 1 ≤ m) (h : Apart (m : Int) q) (n : Nat) : (m : Int) ∣ row p q 0 1 n ↔ rankN p q m ∣ n := by
 obtain ⟨a, b, _, d⟩ := rankN_spec (p := p) m hm h
 exact rank_dvd h b a d n n (Nat.le_refl n)
theorem rankN_eq {p q : Int} {m r : Nat} (hm : 1 ≤ m) (h : Apart (m : Int) q) (hr : ∀ n, (m : Int) ∣ row p q 0 1 n ↔ r ∣ n) : rankN p q m = r := by
 refine Nat.dvd_antisymm ?_ ?_
 · exact (rankN_dvd m hm h r).1 ((hr r).2 (Nat.dvd_refl r))
 · exact (hr _).1 ((rankN_dvd m hm h _).2 (Nat.dvd_refl _))
theorem Apart.of_nat_dvd {d m : Nat} {q : Int} (h : Apart (m : Int) q) (hd : d ∣ m) : Apart (d : Int) q := h.of_dvd (Int.natCast_dvd_natCast.2 hd)
theorem rankN_mul {p q : Int} {a b : Nat} (ha : 1 ≤ a) (hb : 1 ≤ b) (hab : Nat.gcd a b = 1) (h : Apart ((a * b : Nat) : Int) q) : rankN p q (a * b) = Nat.lcm (rankN p q a) (rankN p q b) := by
 have h1 : Apart (a : Int) q := h.of_nat_dvd (Nat.dvd_mul_right a b)
 have h2 : Apart (b : Int) q := h.of_nat_dvd (Nat.dvd_mul_left b a)
 refine rankN_eq (Nat.mul_pos ha hb) h (fun n => ?_)
 rw [Nat.lcm_dvd_iff, ← rankN_dvd a ha h1, ← rankN_dvd b hb h2]
 simp only [Int.ofNat_dvd_left]
 exact ⟨fun hd => ⟨Nat.dvd_trans (Nat.dvd_mul_right a b) hd, Nat.dvd_trans (Nat.dvd_mul_left b a) hd⟩, fun ⟨x, y⟩ => Nat.Coprime.mul_dvd_of_dvd_of_dvd hab x y⟩
theorem lcm_is (a b : Nat) : a / Nat.gcd a b * b = Nat.lcm a b := by
 rw [Nat.lcm]
 exact Nat.div_mul_right_comm (Nat.gcd_dvd_left a b) b
end
section
open Go.RowKit Go.Shelf
attribute [local go_sem] Oper.semAt_some
def RowBoxes (B : Nat) (p q a b : Int) (W : World) : Prop :=
 W.cell? ⟨B, 0, none⟩ = some (.int .i64 p) ∧ W.cell? ⟨B, 1, none⟩ = some (.int .i64 q) ∧ W.cell? ⟨B + 1, 0, none⟩ = some (.int .i64 a) ∧ W.cell? ⟨B + 1 + 1, 0, none⟩ = some (.int .i64 b)
theorem abides_drew {J : Nat → World → Prop} {B : Nat} (hJ : AbidesFrom B J) {k : Nat} {W : World} (h : J k W) (n : Nat) : J k (W.drewN n) :=
 hJ k W _ none h ⟨rfl, rfl, rfl, Nat.le_refl _, fun _ _ _ => rfl⟩ (fun _ e => by cases e)
set_option maxHeartbeats 4000000 in
theorem rowFrom_endless (n : Nat) (hn : 1 ≤ n) (p q a b : Int) (B N : Nat) (w : World) (h1 : -4 ≤ p) (h2 : p ≤ 4) (h3 : -4 ≤ q) (h4 : q ≤ 4) (h5 : -4 ≤ a) (h6 : a ≤ 4) (h7 : -4 ≤ b) (h8 : b ≤ 4) (hN : N ≤ 21) :
   Endless Fence.wide n Tryz.prog 218 #[.pointer (some ⟨B + 1, 0, none⟩), .pointer (some ⟨B + 1 + 1, 0, none⟩), .pointer (some ⟨B, 0, none⟩)] (fun k => #[.int .i64 (row p q a b k)]) (RowBoxes B p q a b) N w := by
 intro l J X W hW hJ hX hKp hY hN0 h0
 obtain ⟨c1, c2, c3, c4⟩ := hKp 0 W h0
 refine callsIn_of_wp Tryz.func218 rfl trivial ?_ rfl
 simp only [Tryz.ntmps218, List.size_toArray, List.length_cons, List.length_nil, Nat.reduceAdd, Nat.reduceSub, Array.replicate_succ, Array.replicate_zero, List.push_toArray, List.append_toArray, List.nil_append, List.cons_append]
 gi_wp2
 gi_quiet (fail)
 rename_i nq
 have h0' := abides_drew hJ h0 nq
 clear h0 c1 c2 c3 c4
 gi_wp2
 gi_loopg [5, 6] N (fun r x y wr => ∃ k, k + r = N ∧ k < N ∧ x = .int .i64 (row p q a b k) ∧ y = .int .i64 (row p q a b (k + 1)) ∧ J k wr)
 case atStart => exact ⟨0, by omega, hN0, rfl, rfl, h0'⟩
 case round =>
   obtain ⟨k, hkr, hk, rfl, rfl, hj⟩ := hrel
   obtain ⟨c1, c2, _, _⟩ := hKp k wr hj
   obtain ⟨fn, tmps, assign, body, hy, hR⟩ := hY k wr hk hj
   gi_wp2
   refine hR.mono ?_
   rintro e W3 (⟨rfl, hlt, hj3⟩ | ⟨rfl, hx3⟩)
   · obtain ⟨d1, d2, _, _⟩ := hKp (k + 1) W3 hj3
     obtain ⟨⟨x1, x2⟩, x3, x4⟩ := row_next (a := a) (b := b) h1 h2 h3 h4 h5 h6 h7 h8 k zO
     have U3 := Lib.hid (row_step p q a b k)
     gi_wp2
     gi_quiet (fail)
     rename_i nq
     have hj4 := abides_drew hJ hj3 nq
     gi_wp2
     gi_roundg (gk - 1)
     case measure => omega
     case rel => exact ⟨k + 1, by omega, hlt, rfl, by rw [← U3.out], hj4⟩
   · gi_wp2
     go_end0
     exact ⟨⟨_, rfl⟩, k, hk, hx3⟩
end
section
open Go.RowKit Go.Shelf
attribute [local go_sem] Oper.semAt_some
theorem set_other {W : World} {B o b i : Nat} {v : Value} (h : b ≠ B) : (W.setCell ⟨B, o, none⟩ v).cell? ⟨b, i, none⟩ = W.cell? ⟨b, i, none⟩ :=
 World.cell?_setCell_other W ⟨B, o, none⟩ ⟨b, i, none⟩ v (fun e => h (by injection e with e _ _; exact e.symm))
theorem set_same {W : World} {B o : Nat} {u v : Value} (h : W.cell? ⟨B, o, none⟩ = some u) : (W.setCell ⟨B, o, none⟩ v).cell? ⟨B, o, none⟩ = some v := World.cell?_setCell_same' _ _ _ (by rw [h]; rfl)
theorem set_frozen {W : World} {a b : Addr} {v : Value} (h : W.frozen? b = false) : (W.setCell a v).frozen? b = false := by rw [World.frozen?_setCell]; exact h
theorem placeOk_yes (n : Int) (w : World) (h : placeB n = true) : Calls Tryz.prog 200 #[.int .i64 n] w fun e w' => e = .returned (.bool true) ∧ w = w' := by have := placeOk_any n w; rw [h] at this; exact this
theorem placeOk_no (n : Int) (w : World) (h : placeB n = false) : Calls Tryz.prog 200 #[.int .i64 n] w fun e w' => e = .returned (.bool false) ∧ w = w' := by have := placeOk_any n w; rw [h] at this; exact this
set_option maxHeartbeats 400000 in
theorem rowFrom_any (p q a b : Int) (w : World) :
   Calls Tryz.prog 201 #[pr p q, .int .i64 a, .int .i64 b] w fun e w' =>
     e = .returned (.func (.func 218) #[] #[.pointer (some ⟨w.heap.size + 1, 0, none⟩), .pointer (some ⟨w.heap.size + 1 + 1, 0, none⟩), .pointer (some ⟨w.heap.size, 0, none⟩)]) ∧
     w' = ((w.alloc (.cells #[.int .i64 p, .int .i64 q] 29)).alloc (.cells #[.int .i64 a] 3)).alloc (.cells #[.int .i64 b] 3) := by
 have hmf : ∀ (fn : Fn) (first cap : Array Value) (w : World), (Instr.makeFunc fn first cap).run Tryz.prog w = .ok (.func fn first cap) w := fun _ _ _ _ => rfl
 go_enter Tryz.func201, Tryz.ntmps201
 go_wp2
 go_ret
 exact ⟨rfl, rfl⟩
set_option maxHeartbeats 4000000 in
theorem numberAt_yes (p q a b : Int) (m : Nat) (w : World) (hp : pairB p q = true) (hm : m ≤ 20) (h5 : -4 ≤ a) (h6 : a ≤ 4) (h7 : -4 ≤ b) (h8 : b ≤ 4) :
   Calls Tryz.prog 171 #[pr p q, .int .i64 a, .int .i64 b, .int .i64 m] w fun e w' => e = .returned (.tuple #[.int .i64 (row p q a b m), .bool true]) ∧ Below w.heap.size w w' := by
 obtain ⟨⟨h1, h2⟩, h3, h4⟩ := pairB_true hp
 have HP := Lib.hid hp
 have HN := Lib.hid (placeB_mk (n := m) zO zO)
 clear hp
 refine (callsIn_wide (n := 9)).1 ?_
 refine callsIn_of_wp_marks Tryz.func171 rfl trivial ?_ rfl
 simp only [Tryz.ntmps171, List.size_toArray, List.length_cons, List.length_nil, Nat.reduceAdd, Nat.reduceSub, Array.replicate_succ, Array.replicate_zero, List.push_toArray, List.append_toArray, List.nil_append, List.cons_append]
 gi_wp2_with fail
 refine ⟨trivial, (callsIn_wide.2 (implPairOk_yes p q _ HP.out)).mono ?_⟩
 rintro e w1 ⟨rfl, hh1⟩
 obtain ⟨hc1, hf1⟩ := bcell hh1
 have hz1 := hh1.size
 try simp only [World.size_alloc] at hz1
 have hz1_0 : w.heap.size < w1.heap.size := by omega
 have hz1_1 : w.heap.size + 1 < w1.heap.size := by omega
 have hz1_2 : w.heap.size + 2 < w1.heap.size := by omega
 have hz1_3 : w.heap.size + 3 < w1.heap.size := by omega
 have kb1_0_0 : w1.cell? ⟨w.heap.size, 0, none⟩ = some (.int .i64 p) := by go_simp
 have kf1_0_0 : w1.frozen? ⟨w.heap.size, 0, none⟩ = false := by go_simp
 have kb1_0_1 : w1.cell? ⟨w.heap.size, 1, none⟩ = some (.int .i64 q) := by go_simp
 have kf1_0_1 : w1.frozen? ⟨w.heap.size, 1, none⟩ = false := by go_simp
 have kb1_1_0 : w1.cell? ⟨w.heap.size + 1, 0, none⟩ = some (.int .i64 m) := by go_simp
 have kf1_1_0 : w1.frozen? ⟨w.heap.size + 1, 0, none⟩ = false := by go_simp
 have kb1_2_0 : w1.cell? ⟨w.heap.size + 1 + 1, 0, none⟩ = some (.int .i64 0) := by go_simp
 have kf1_2_0 : w1.frozen? ⟨w.heap.size + 1 + 1, 0, none⟩ = false := by go_simp
 have kb1_3_0 : w1.cell? ⟨w.heap.size + 1 + 1 + 1, 0, none⟩ = some (.bool false) := by go_simp
 have kf1_3_0 : w1.frozen? ⟨w.heap.size + 1 + 1 + 1, 0, none⟩ = false := by go_simp
 clear hc1 hf1
 gi_wp2_with fail
 refine ⟨trivial, (callsIn_wide.2 (placeOk_yes _ _ HN.out)).mono ?_⟩
 rintro e w2 ⟨rfl, rfl⟩
 gi_wp2_with fail
 refine ⟨trivial, (callsIn_wide.2 (rowFrom_any p q a b _)).mono ?_⟩
 rintro e w3 ⟨rfl, rfl⟩
 gi_wp2_with fail
 refine wpIn_rangeFunc_endless (P := Tryz.prog) rfl zO (gf := 218) (lb := #[.pointer (some ⟨w1.heap.size + 1 + 1, 0, none⟩), .pointer (some ⟨w1.heap.size + 1 + 1 + 1, 0, none⟩), .pointer (some ⟨w1.heap.size + 1, 0, none⟩)]) rfl trivial (enters_of Tryz.func218 (by kernel_rfl) rfl)
   (rowFrom_endless 8 zO p q a b (w1.heap.size + 1) (m + 1) _ h1 h2 h3 h4 h5 h6 h7 h8 zO) (Below.refl _ _) (fun _ => rfl) zO
   (fun k W => k ≤ m ∧ W.cell? ⟨w.heap.size + 1, 0, none⟩ = some (.int .i64 m) ∧ W.cell? ⟨w1.heap.size, 0, none⟩ = some (.int .i64 k) ∧ W.frozen? ⟨w1.heap.size, 0, none⟩ = false ∧
     W.cell? ⟨w.heap.size + 1 + 1, 0, none⟩ = some (.int .i64 0) ∧ W.frozen? ⟨w.heap.size + 1 + 1, 0, none⟩ = false ∧ W.cell? ⟨w.heap.size + 1 + 1 + 1, 0, none⟩ = some (.bool false) ∧ W.frozen? ⟨w.heap.size + 1 + 1 + 1, 0, none⟩ = false ∧
     RowBoxes (w1.heap.size + 1) p q a b W ∧ Below w.heap.size w W)
   (fun c k W => c = .ret ∧ W.cell? ⟨w.heap.size + 1 + 1, 0, none⟩ = some (.int .i64 (row p q a b m)) ∧ W.cell? ⟨w.heap.size + 1 + 1 + 1, 0, none⟩ = some (.bool true) ∧ Below w.heap.size w W)
   ?own ?ownX (fun k V h => h.2.2.2.2.2.2.2.2.1) ?start (fun k => { tmps := #[pr p q, .int .i64 a, .int .i64 b, .int .i64 m, .pointer (some ⟨w.heap.size, 0, none⟩), undef, undef, .pointer (some ⟨w.heap.size + 1, 0, none⟩), .pointer (some ⟨w.heap.size + 1 + 1, 0, none⟩), .pointer (some ⟨w.heap.size + 1 + 1 + 1, 0, none⟩), .pointer (some ⟨w1.heap.size, 0, none⟩), .int .i64 (row p q a b k), .agg #[.int .i64 p, .int .i64 q], .bool true, .bool false, .bool false, .int .i64 m, .bool true, .bool false, .bool false, .agg #[.int .i64 p, .int .i64 q], .int .i64 a, .int .i64 b, .func (.func 218) #[] #[.pointer (some ⟨w1.heap.size + 1 + 1, 0, none⟩), .pointer (some ⟨w1.heap.size + 1 + 1 + 1, 0, none⟩), .pointer (some ⟨w1.heap.size + 1, 0, none⟩)], .int .i64 (row p q a b k), undef, undef, undef, undef, undef, undef], defers := [] }) ?assign ?body ?stop
 case own =>
   rintro k A V row ⟨x0, x1, x2, x3, x4, x5, x6, x7, ⟨y1, y2, y3, y4⟩, x8⟩ hg hr
   have hr' := fun r e => (hr r e).2
   exact ⟨x0, cell_kept x1 hg hr', cell_kept x2 hg hr', (frozen_kept x2 hg hr').trans x3, cell_kept x4 hg hr', (frozen_kept x4 hg hr').trans x5, cell_kept x6 hg hr', (frozen_kept x6 hg hr').trans x7,
     ⟨cell_kept y1 hg hr', cell_kept y2 hg hr', cell_kept y3 hg hr', cell_kept y4 hg hr'⟩, x8.grown hg x8.size (fun k e => by have := (hr k e).1; simp at this; omega)⟩
 case ownX =>
   rintro c k A V row ⟨x0, x1, x2, x3⟩ hg hr
   have hr' := fun r e => (hr r e).2
   exact ⟨x0, cell_kept x1 hg hr', cell_kept x2 hg hr', x3.grown hg x3.size (fun k e => by have := (hr k e).1; simp at this; omega)⟩
 case start =>
   have hB : Below w.heap.size w w1 := by
     exact zb
   have hL : Below w1.heap.size w1 ((((w1.alloc (.cells #[.int .i64 0] 3)).alloc (.cells #[.int .i64 p, .int .i64 q] 29)).alloc (.cells #[.int .i64 a] 3)).alloc (.cells #[.int .i64 b] 3)) := by
     exact zb
   refine ⟨Nat.zero_le _, (hL.cell (p := ⟨w.heap.size + 1, 0, none⟩) hz1_1).trans kb1_1_0, by go_simp, by go_simp, (hL.cell (p := ⟨w.heap.size + 1 + 1, 0, none⟩) hz1_2).trans kb1_2_0, (hL.frozen (p := ⟨w.heap.size + 1 + 1, 0, none⟩) hz1_2).trans kf1_2_0,
     (hL.cell (p := ⟨w.heap.size + 1 + 1 + 1, 0, none⟩) hz1_3).trans kb1_3_0, (hL.frozen (p := ⟨w.heap.size + 1 + 1 + 1, 0, none⟩) hz1_3).trans kf1_3_0, ⟨by go_simp, by go_simp, by go_simp, by go_simp⟩, ?_⟩
   exact hB.trans (hL.mono zO)
 case assign =>
   intro l k W K hK
   gi_wp2
   exact hK
 case body =>
   rintro l k W hk ⟨x0, x1, x2, x3, x4, x5, x6, x7, ⟨y1, y2, y3, y4⟩, x8⟩
   by_cases hkm : k = m
   · subst hkm
     gi_wp2
     refine ⟨(KeepsOthers.setCell _ _ _).trans (KeepsOthers.setCell _ _ _), rfl, (set_other zO).trans (set_same x4), set_same ((set_other zO).trans x6), (x8.setCell (by show w.heap.size ≤ w.heap.size + 1 + 1; omega) _).setCell (by show w.heap.size ≤ w.heap.size + 1 + 1 + 1; omega) _⟩
   · have hne : ((k : Int) == (m : Int)) = false := by simp; omega
     gi_wp2
     refine ⟨KeepsOthers.setCell _ _ _, by omega, by omega, (set_other zO).trans x1, (set_same x2).trans (congrArg (fun i => some (Value.int .i64 i)) zO), set_frozen x3, (set_other zO).trans x4, set_frozen x5, (set_other zO).trans x6, set_frozen x7,
       ⟨(set_other zO).trans y1, (set_other zO).trans y2, (set_other zO).trans y3, (set_other zO).trans y4⟩, x8.setCell (by show w.heap.size ≤ w1.heap.size; omega) _⟩
 case stop =>
   rintro D k c W hD hk ⟨rfl, x1, x2, x3⟩ hK
   gi_wp2
   refine ⟨by simp, .inl ⟨_, _, rfl, run_takeDeferred hK, ?_⟩⟩
   have z1 := cell_kept x1 (grownBy_putObj' W D (.deferred none)) (fun r e => by cases e; exact ⟨_, hK, rfl⟩)
   have z2 := cell_kept x2 (grownBy_putObj' W D (.deferred none)) (fun r e => by cases e; exact ⟨_, hK, rfl⟩)
   have hD' : w.heap.size ≤ D := by simp at hD; omega
   exact ⟨_, by simp [results, Tryz.results171, go_sem, z1, z2], rfl, x3.grown (grownBy_putObj' W D (.deferred none)) x3.size (fun k e => by cases e; exact hD')⟩
end
section
open Go.RowKit
set_option maxHeartbeats 2000000 in
theorem numberAt_no (p q a b n : Int) (w : World) (h : pairB p q = false ∨ placeB n = false) :
   Calls Tryz.prog 171 #[pr p q, .int .i64 a, .int .i64 b, .int .i64 n] w fun e w' => e = .returned (.tuple #[.int .i64 0, .bool false]) ∧ Below w.heap.size w w' := by
 by_cases hp : pairB p q = true
 · have HP := Lib.hid hp
   have HN := Lib.hid (show placeB n = false by rcases h with h | h; · rw [hp] at h; cases h
                                                · exact h)
   clear hp h
   go_enter Tryz.func171, Tryz.ntmps171
   go_wp2_with fail
   refine (implPairOk_yes p q _ HP.out).mono ?_
   rintro e w1 ⟨rfl, hh1⟩
   obtain ⟨hc1, hf1⟩ := bcell hh1
   have hz1 := hh1.size
   try simp only [World.size_alloc] at hz1
   have hz1_0 : w.heap.size < w1.heap.size := by omega
   have hz1_1 : w.heap.size + 1 < w1.heap.size := by omega
   have hz1_2 : w.heap.size + 1 + 1 < w1.heap.size := by omega
   have hz1_3 : w.heap.size + 1 + 1 + 1 < w1.heap.size := by omega
   have kb1_0_0 : w1.cell? ⟨w.heap.size, 0, none⟩ = some (.int .i64 p) := by go_simp
   have kf1_0_0 : w1.frozen? ⟨w.heap.size, 0, none⟩ = false := by go_simp
   have kb1_0_1 : w1.cell? ⟨w.heap.size, 1, none⟩ = some (.int .i64 q) := by go_simp
   have kf1_0_1 : w1.frozen? ⟨w.heap.size, 1, none⟩ = false := by go_simp
   have kb1_1_0 : w1.cell? ⟨w.heap.size + 1, 0, none⟩ = some (.int .i64 n) := by go_simp
   have kf1_1_0 : w1.frozen? ⟨w.heap.size + 1, 0, none⟩ = false := by go_simp
   have kb1_2_0 : w1.cell? ⟨w.heap.size + 1 + 1, 0, none⟩ = some (.int .i64 0) := by go_simp
   have kf1_2_0 : w1.frozen? ⟨w.heap.size + 1 + 1, 0, none⟩ = false := by go_simp
   have kb1_3_0 : w1.cell? ⟨w.heap.size + 1 + 1 + 1, 0, none⟩ = some (.bool false) := by go_simp
   have kf1_3_0 : w1.frozen? ⟨w.heap.size + 1 + 1 + 1, 0, none⟩ = false := by go_simp
   clear hc1 hf1
   go_wp2_with fail
   refine (placeOk_no _ _ HN.out).mono ?_
   rintro e w2 ⟨rfl, rfl⟩
   go_wp2
   refine bodyPost_ret (v := .tuple #[.int .i64 0, .bool false]) (by simp [results, Tryz.results171, go_sem, kb1_2_0, kb1_3_0]) rfl ⟨rfl, ?_⟩
   exact zb
 · have HP := Lib.hid (show pairB p q = false by simpa using hp)
   clear hp h
   go_enter Tryz.func171, Tryz.ntmps171
   go_wp2_with fail
   refine (implPairOk_no p q _ HP.out).mono ?_
   rintro e w1 ⟨rfl, hh1⟩
   obtain ⟨hc1, hf1⟩ := bcell hh1
   have hz1 := hh1.size
   try simp only [World.size_alloc] at hz1
   have hz1_0 : w.heap.size < w1.heap.size := by omega
   have hz1_1 : w.heap.size + 1 < w1.heap.size := by omega
   have hz1_2 : w.heap.size + 1 + 1 < w1.heap.size := by omega
   have hz1_3 : w.heap.size + 1 + 1 + 1 < w1.heap.size := by omega
   have kb1_0_0 : w1.cell? ⟨w.heap.size, 0, none⟩ = some (.int .i64 p) := by go_simp
   have kf1_0_0 : w1.frozen? ⟨w.heap.size, 0, none⟩ = false := by go_simp
   have kb1_0_1 : w1.cell? ⟨w.heap.size, 1, none⟩ = some (.int .i64 q) := by go_simp
   have kf1_0_1 : w1.frozen? ⟨w.heap.size, 1, none⟩ = false := by go_simp
   have kb1_1_0 : w1.cell? ⟨w.heap.size + 1, 0, none⟩ = some (.int .i64 n) := by go_simp
   have kf1_1_0 : w1.frozen? ⟨w.heap.size + 1, 0, none⟩ = false := by go_simp
   have kb1_2_0 : w1.cell? ⟨w.heap.size + 1 + 1, 0, none⟩ = some (.int .i64 0) := by go_simp
   have kf1_2_0 : w1.frozen? ⟨w.heap.size + 1 + 1, 0, none⟩ = false := by go_simp
   have kb1_3_0 : w1.cell? ⟨w.heap.size + 1 + 1 + 1, 0, none⟩ = some (.bool false) := by go_simp
   have kf1_3_0 : w1.frozen? ⟨w.heap.size + 1 + 1 + 1, 0, none⟩ = false := by go_simp
   clear hc1 hf1
   go_wp2
   refine bodyPost_ret (v := .tuple #[.int .i64 0, .bool false]) (by simp [results, Tryz.results171, go_sem, kb1_2_0, kb1_3_0]) rfl ⟨rfl, ?_⟩
   exact zb
set_option maxHeartbeats 2000000 in
theorem implFirst_any (p q n : Int) (w : World) :
   Calls Tryz.prog 148 #[pr p q, .int .i64 n] w fun e w' => e = .returned (.tuple #[.int .i64 (firstV p q n), .bool (atB p q n)]) ∧ Below w.heap.size w w' := by
 by_cases h : atB p q n = true
 · have hpn : pairB p q = true ∧ placeB n = true := by simpa [atB] using h
   obtain ⟨hp, hn⟩ := hpn
   obtain ⟨⟨h1, h2⟩, h3, h4⟩ := pairB_true hp
   obtain ⟨n0, n1⟩ := placeB_true hn
   obtain ⟨m, rfl⟩ := Int.eq_ofNat_of_zero_le n0
   have HV := Lib.hid (show firstV p q m = row p q 0 1 m by rw [firstV, if_pos h]; rfl)
   have HB := Lib.hid h
   have HP := Lib.hid hp
   clear hp hn h
   go_enter Tryz.func148, Tryz.ntmps148
   go_wp2_with fail
   refine (numberAt_yes p q 0 1 m _ HP.out zO zO zO zO zO).mono ?_
   rintro e w1 ⟨rfl, hh1⟩
   go_wp2
   go_ret2
   exact ⟨ret_int_bool HV.out.symm HB.out.symm, by exact zb⟩
 · have h' : atB p q n = false := by simpa using h
   have HV := Lib.hid (show firstV p q n = 0 by rw [firstV, if_neg h])
   have HB := Lib.hid h'
   have hno : pairB p q = false ∨ placeB n = false := by
     cases hp : pairB p q with
     | false => exact .inl rfl
     | true => right; simpa [atB, hp] using h'
   have HN := Lib.hid hno
   clear h h' hno
   go_enter Tryz.func148, Tryz.ntmps148
   go_wp2_with fail
   refine (numberAt_no p q 0 1 n _ HN.out).mono ?_
   rintro e w1 ⟨rfl, hh1⟩
   go_wp2
   go_ret2
   exact ⟨ret_int_bool HV.out.symm HB.out.symm, by exact zb⟩
set_option maxHeartbeats 2000000 in
theorem implSecond_any (p q n : Int) (w : World) :
   Calls Tryz.prog 149 #[pr p q, .int .i64 n] w fun e w' => e = .returned (.tuple #[.int .i64 (secondV p q n), .bool (atB p q n)]) ∧ Below w.heap.size w w' := by
 by_cases h : atB p q n = true
 · have hpn : pairB p q = true ∧ placeB n = true := by simpa [atB] using h
   obtain ⟨hp, hn⟩ := hpn
   obtain ⟨⟨h1, h2⟩, h3, h4⟩ := pairB_true hp
   obtain ⟨n0, n1⟩ := placeB_true hn
   obtain ⟨m, rfl⟩ := Int.eq_ofNat_of_zero_le n0
   have HV := Lib.hid (show secondV p q m = row p q 2 p m by rw [secondV, if_pos h]; rfl)
   have HB := Lib.hid h
   have HP := Lib.hid hp
   clear hp hn h
   go_enter Tryz.func149, Tryz.ntmps149
   go_wp2_with fail
   refine (numberAt_yes p q 2 p m _ HP.out zO zO zO zO zO).mono ?_
   rintro e w1 ⟨rfl, hh1⟩
   go_wp2
   go_ret2
   exact ⟨ret_int_bool HV.out.symm HB.out.symm, by exact zb⟩
 · have h' : atB p q n = false := by simpa using h
   have HV := Lib.hid (show secondV p q n = 0 by rw [secondV, if_neg h])
   have HB := Lib.hid h'
   have hno : pairB p q = false ∨ placeB n = false := by
     cases hp : pairB p q with
     | false => exact .inl rfl
     | true => right; simpa [atB, hp] using h'
   have HN := Lib.hid hno
   clear h h' hno
   go_enter Tryz.func149, Tryz.ntmps149
   go_wp2_with fail
   refine (numberAt_no p q 2 p n _ HN.out).mono ?_
   rintro e w1 ⟨rfl, hh1⟩
   go_wp2
   go_ret2
   exact ⟨ret_int_bool HV.out.symm HB.out.symm, by exact zb⟩
end
section
open Go.RowKit
theorem gcd_rem (c d : Int) : Int.gcd d (c.tmod d) = Int.gcd c d := by
 simp only [Int.gcd, Int.natAbs_tmod]
 rw [Nat.gcd_comm d.natAbs, ← Nat.gcd_rec, Nat.gcd_comm]
theorem rem_small {d : Int} (c : Int) (h : d ≠ 0) : (c.tmod d).natAbs < d.natAbs := by
 rw [Int.natAbs_tmod]
 exact Nat.mod_lt _ zO
theorem rem_bd {c d M : Int} (h : d ≠ 0) (h1 : -M ≤ d) (h2 : d ≤ M) : -M ≤ c.tmod d ∧ c.tmod d ≤ M := by
 have hr := rem_small c h
 generalize c.tmod d = r at hr ⊢
 omega
set_option maxHeartbeats 2000000 in
theorem commonDivisor_at (a b : Int) (w : World) (a1 : -1000000000000000 ≤ a) (a2 : a ≤ 1000000000000000) (b1 : -1000000000000000 ≤ b) (b2 : b ≤ 1000000000000000) :
   Calls Tryz.prog 202 #[.int .i64 a, .int .i64 b] w fun e w' => e = .returned (.int .i64 (Int.gcd a b)) ∧ Below w.heap.size w w' := by
 go_enter Tryz.func202, Tryz.ntmps202
 go_wp2_with fail
 go_loopw [0, 1] (fun x y wr => ∃ c d : Int, x = .int .i64 c ∧ y = .int .i64 d ∧ -1000000000000000 ≤ c ∧ c ≤ 1000000000000000 ∧ -1000000000000000 ≤ d ∧ d ≤ 1000000000000000 ∧ Int.gcd c d = Int.gcd a b ∧ Below w.heap.size w wr) (fun _ y _ => (intOf y).natAbs)
 case atStart => exact ⟨a, b, rfl, rfl, a1, a2, b1, b2, rfl, Below.refl _ _⟩
 case round =>
   obtain ⟨c, d, rfl, rfl, c1, c2, d1, d2, hg, hB⟩ := hrel
   have HB := Lib.hid hB
   have HG := Lib.hid hg
   clear hB hg
   by_cases h0 : d = 0
   · subst h0
     by_cases hn : c < 0
     · have E := Lib.hid (show -c = (Int.gcd a b : Int) by rw [← HG.out, Int.gcd_zero_right]; omega)
       go_wp2
       go_ret
       exact ⟨ret_int E.out, HB.out⟩
     · have E := Lib.hid (show c = (Int.gcd a b : Int) by rw [← HG.out, Int.gcd_zero_right]; omega)
       have hn' : 0 ≤ c := by omega
       go_wp2
       go_ret
       exact ⟨ret_int E.out, HB.out⟩
   · have hz : (d == 0) = false := by simp; omega
     obtain ⟨e1, e2⟩ := rem_bd (c := c) h0 d1 d2
     have HR := Lib.hid (rem_small c h0)
     have HE := Lib.hid ((gcd_rem c d).trans HG.out)
     go_wp2
     go_quiet (fail)
     go_wp2
     go_roundw
     case rel => exact ⟨d, c.tmod d, rfl, rfl, d1, d2, e1, e2, HE.out, Go.below_drewN HB.out _⟩
     case measure => simpa [intOf] using HR.out
set_option maxHeartbeats 400000 in
theorem l1Size_at (n : Int) (w : World) (a1 : -1000000000000000 ≤ n) (a2 : n ≤ 1000000000000000) :
   Calls Tryz.prog 162 #[.int .i64 n] w fun e w' => e = .returned (.int .i64 n.natAbs) ∧ w = w' := by
 go_enter Tryz.func162, Tryz.ntmps162
 go_wp2
 all_goals go_ret
 all_goals exact ⟨ret_int zO, rfl⟩
set_option maxHeartbeats 2000000 in
theorem l1Common_at (a b : Int) (w : World) (a1 : -1000000000000000 ≤ a) (a2 : a ≤ 1000000000000000) (b1 : -1000000000000000 ≤ b) (b2 : b ≤ 1000000000000000) :
   Calls Tryz.prog 127 #[.int .i64 a, .int .i64 b] w fun e w' => e = .returned (.int .i64 (Int.gcd a b)) ∧ w = w' := by
 go_enter Tryz.func127, Tryz.ntmps127
 go_wp2_with fail
 refine (l1Size_at a _ a1 a2).mono ?_
 rintro e wx ⟨rfl, rfl⟩
 go_wp2_with fail
 refine (l1Size_at b _ b1 b2).mono ?_
 rintro e wx ⟨rfl, rfl⟩
 go_wp2_with fail
 go_loop [0, 1, 5] (fun x y _ => ∃ c d : Int, x = .int .i64 c ∧ y = .int .i64 d ∧ 0 ≤ c ∧ c ≤ 1000000000000000 ∧ 0 ≤ d ∧ d ≤ 1000000000000000 ∧ Int.gcd c d = Int.gcd a b) (fun _ y _ => (intOf y).natAbs)
 case atStart => exact ⟨a.natAbs, b.natAbs, rfl, rfl, by omega, by omega, by omega, by omega, by simp [Int.gcd]⟩
 case round =>
   obtain ⟨c, d, rfl, rfl, c1, c2, d1, d2, hg⟩ := hrel
   have HG := Lib.hid hg
   clear hg
   by_cases h0 : d = 0
   · subst h0
     have E := Lib.hid (show c = (Int.gcd a b : Int) by rw [← HG.out, Int.gcd_zero_right]; omega)
     go_wp2
     go_ret
     exact ⟨ret_int E.out, rfl⟩
   · have hz : (d == 0) = false := by simp; omega
     have et : c.tmod d = c % d := Int.tmod_eq_emod_of_nonneg c1
     have hd : 0 < d := by omega
     have e1 := Int.emod_nonneg c h0
     have e2 := Int.emod_lt_of_pos c hd
     have HR := Lib.hid (show (c % d).natAbs < d.natAbs by rw [← et]; exact rem_small c h0)
     have HE := Lib.hid (show Int.gcd d (c % d) = Int.gcd a b by rw [← et]; exact (gcd_rem c d).trans HG.out)
     go_wp2
     go_round
     case rel => exact ⟨d, c % d, rfl, rfl, d1, d2, by omega, by omega, HE.out⟩
     case measure => have := HR.out; simp [intOf]; omega
end
section
open Go.RowKit
theorem l1In_yes (n a b : Int) (w : World) (h : inB n a b = true) : Calls Tryz.prog 86 #[.int .i64 n, .int .i64 a, .int .i64 b] w fun e w' => e = .returned (.bool true) ∧ w = w' := by have := l1In_any n a b w; rw [h] at this; exact this
theorem l1In_no (n a b : Int) (w : World) (h : inB n a b = false) : Calls Tryz.prog 86 #[.int .i64 n, .int .i64 a, .int .i64 b] w fun e w' => e = .returned (.bool false) ∧ w = w' := by have := l1In_any n a b w; rw [h] at this; exact this
end
section
open Go.RowKit
def Counted (F : Fence) (n : Nat) (P : Program) (g : Nat) (lb : Array Value) (at_ : Nat → Array Value) (Kp : World → Prop) (N : Nat) (w : World) : Prop :=
 ∀ (l : Nat) (J X : Nat → World → Prop) (W : World), Below w.heap.size w W → AbidesFrom W.heap.size J → AbidesFrom W.heap.size X → (∀ k V, J k V → Kp V) →
   (∀ k V, k < N → J k V → YieldAt F (n - 1) P l (at_ k) V fun e V' => (e = .returned (.bool true) ∧ J (k + 1) V') ∨ (e = .returned (.bool false) ∧ X k V')) →
   J 0 W → CallsIn F n P g (#[.func (.yield l) #[] #[]] ++ lb) W fun e V => (∃ v, e = .returned v) ∧ (J N V ∨ ∃ k, k < N ∧ X k V)
def countEnd (I : Nat → World → Prop) (X : Code → Nat → World → Prop) (k : Nat) (W : World) : Exit → Act → World → Prop
 | .normal, _, V => KeepsOthers W V ∧ I (k + 1) V
 | .ret, _, V => KeepsOthers W V ∧ X .ret k V
 | .exit id, _, V => KeepsOthers W V ∧ X (.exit id) k V
 | .goto t, _, V => KeepsOthers W V ∧ X (.goto t) k V
 | .panic _, _, _ => False
 | .outgrown, _, _ => False
variable {F : Fence} {n : Nat} {P : Program}
theorem wpIn_rangeFunc_counted {g : Operand} {ps : Array Tmp} {assign body : Code} {Q : Exit → Act → World → Prop} {a : Act} {w : World}
   (hro : F.round = none) (h1 : 1 ≤ n) {gf : Nat} {lb : Array Value} (hg : a.eval g = .func (.func gf) #[] lb) (hFg : F.fn gf) (eg : ∀ args V, (callFunc gf args).run P V = .ok (.enter gf args) V)
   {at_ : Nat → Array Value} {Kp : World → Prop} {N : Nat} {w0 : World} (hseq : Counted F (n - 1) P gf lb at_ Kp N w0) (hb0 : Below w0.heap.size w0 w) (hps : ∀ k, (at_ k).size = ps.size)
   (I : Nat → World → Prop) (X : Code → Nat → World → Prop) (hI : OwnFrom w.heap.size I) (hX : ∀ c, OwnFrom w.heap.size (X c)) (hKp : ∀ k V, I k V → Kp V) (h0 : I 0 w) (a₁ : Nat → Act)
   (hassign : ∀ (l k : Nat) (W : World) (K : Act → World → Prop), K (a₁ k) W →
     assign.wpIn (F.inRound l) (n - 1 - 1) P (Exit.then K (fun _ _ _ => False)) { tmps := (ps.zip (at_ k)).foldl (fun t (p, v) => t.setIfInBounds p v) a.tmps, defers := [] } W)
   (hbody : ∀ (l k : Nat) (W : World), k < N → I k W → body.wpIn (F.inRound l) (n - 1 - 1) P (countEnd I X k W) (a₁ k) W)
   (hdone : ∀ (D : Nat) (W : World), w.heap.size ≤ D → I N W → W.heap[D]? = some (.deferred (some [])) → Q .normal { a with defers := { target := .collected D, args := #[] } :: a.defers } W)
   (hstop : ∀ (D k : Nat) (c : Code) (W : World), w.heap.size ≤ D → k < N → X c k W → W.heap[D]? = some (.deferred (some [])) → c.wpIn F n P Q { a with defers := { target := .collected D, args := #[] } :: a.defers } W) :
   (Code.rangeFunc g ps assign body).wpIn F n P Q a w := by
 refine wpIn_rangeFunc fun fn hfn => ?_
 rw [hro]
 obtain ⟨rec, hrec⟩ : ∃ rec : LoopState → Option Code → Obj, rec = recordOf w fn a ps assign body := ⟨_, rfl⟩
 have held : Held w ((w.alloc (.deferred (some []))).alloc (rec .ready none)) (rec .ready none) := by
   refine ⟨?_, (Below.heap_alloc _ _ _ (by simp)).trans (World.alloc_heap_new w _)⟩
   have := World.alloc_heap_new (w.alloc (.deferred (some []))) (rec .ready none)
   rwa [World.size_alloc] at this
 have hI1 : I 0 ((w.alloc (.deferred (some []))).alloc (rec .ready none)) := hI.alloc _ (hI.alloc _ h0)
 have hb1 : Below w0.heap.size w0 ((w.alloc (.deferred (some []))).alloc (rec .ready none)) := hb0.trans ((((Below.refl _ w).alloc (Nat.le_refl _) _).alloc (by simp) _).mono hb0.size)
 have hsz : w.heap.size ≤ ((w.alloc (.deferred (some []))).alloc (rec .ready none)).heap.size := by simp; omega
 obtain ⟨W1, hW1⟩ : ∃ W1, (w.alloc (.deferred (some []))).alloc (rec .ready none) = W1 := ⟨_, rfl⟩
 rw [hW1] at held hI1 hb1 hsz
 refine ⟨w.heap.size + 1, [{ target := .collected w.heap.size, args := #[] }], W1, { target := .fn (.func gf) lb, args := #[.func (.yield (w.heap.size + 1)) #[] #[]] }, W1, gf, #[.func (.yield (w.heap.size + 1)) #[] #[]] ++ lb, W1,
   by rw [← hW1, hrec]; exact run_enterLoop_outer _ _ _ _ _, by simp only [resolve, hg]; simp [go_sem], fun f' hf' => by simp [Target.leads] at hf'; subst hf'; exact hFg, by simp [invoke, go_sem, eg], fun _ => h1, ?_⟩
 have nowalk : ∀ {A : World} {row : Option Nat}, (∀ r, row = some r → W1.heap.size ≤ r ∧ ∃ o : Obj, A.heap[r]? = some o ∧ o.isWalk = true) → (∀ r, row = some r → w.heap.size ≤ r ∧ ∃ o : Obj, A.heap[r]? = some o ∧ o.isCells = false) :=
   fun hr r e => by obtain ⟨hB, o, ho, hw⟩ := hr r e; exact ⟨by omega, o, ho, Obj.not_cells_of_walk hw⟩
 have recW : ∀ st pe, (rec st pe).isWalk = false := fun _ _ => by rw [hrec]; rfl
 have recC : ∀ st pe, (rec st pe).isCells = false := fun _ _ => by rw [hrec]; rfl
 refine (hseq (w.heap.size + 1) (fun k W => I k W ∧ Held w W (rec .ready none)) (fun k W => ∃ c, X c k W ∧ Held w W (rec .done (some c))) W1 hb1
   (fun s A B row hs hg' hr => ⟨hI s A B row hs.1 hg' (nowalk hr), hs.2.kept (recW _ _) hg' (fun r e => (hr r e).2)⟩)
   (fun s A B row hs hg' hr => by obtain ⟨c, hc, hh⟩ := hs; exact ⟨c, hX c s A B row hc hg' (nowalk hr), hh.kept (recW _ _) hg' (fun r e => (hr r e).2)⟩)
   (fun k V hj => hKp k V hj.1) ?round ⟨hI1, held⟩).mono ?behind
 case round =>
   rintro k W hk ⟨hi, hh⟩
   have hl : W.heap[w.heap.size + 1]? = some (.loop { state := .ready, pending := none, fn := fn, tmps := a.tmps, params := ps, assign := assign, body := body, defers := w.heap.size }) := by have := hh.1; rw [hrec] at this; exact this
   refine ⟨fn, _, assign, body, run_yield (P := P) (args := at_ k) hl (hps k), roundIn_of_wpIn hfn (hassign _ k W _ ⟨_, run_beginRound hl rfl, ?_⟩)⟩
   have busy : Held w (W.putObj (w.heap.size + 1) (rec .busy none)) (rec .busy none) := hh.turned _
   have hi2 : I k (W.putObj (w.heap.size + 1) (rec .busy none)) := hI.putObj _ hi zO hl rfl
   have fin : ∀ (jump : Option Code) (V : World), KeepsOthers (W.putObj (w.heap.size + 1) (rec .busy none)) V → ∃ r : Loop, V.heap[w.heap.size + 1]? = some (.loop r) ∧
       (Instr.endRound (w.heap.size + 1) jump).run P V = .ok (.bool jump.isNone) (V.putObj (w.heap.size + 1) (rec (if jump.isNone then .ready else .done) jump)) ∧ Held w (V.putObj (w.heap.size + 1) (rec (if jump.isNone then .ready else .done) jump)) (rec (if jump.isNone then .ready else .done) jump) := fun jump V hkV => by
     have hv := busy.others (recC _ _) hkV
     have hv1 := hv.1
     rw [hrec] at hv1
     have hr := run_endRound (P := P) jump hv1
     refine ⟨_, hv1, ?_, hv.turned _⟩
     rw [hrec]; exact hr
   rw [hrec] at hi2 busy
   refine wpIn_mono (hbody _ k _ hk hi2) ?_
   rintro e a3 V hp
   have stop : ∀ c : Code, KeepsOthers (W.putObj (w.heap.size + 1) (recordOf w fn a ps assign body .busy none)) V ∧ X c k V →
       ∃ v V', (Instr.endRound (w.heap.size + 1) (some c)).run P V = .ok v V' ∧ ((Ending.returned v = .returned (.bool true) ∧ (I (k + 1) V' ∧ Held w V' (rec .ready none))) ∨ (Ending.returned v = .returned (.bool false) ∧ ∃ c, X c k V' ∧ Held w V' (rec .done (some c)))) := fun c hc => by
     obtain ⟨r, hl3, hr, hh3⟩ := fin (some c) V (by rw [hrec]; exact hc.1)
     exact ⟨_, _, hr, .inr ⟨rfl, c, (hX c).putObj _ hc.2 zO hl3 rfl, hh3⟩⟩
   cases e with
   | normal =>
     obtain ⟨hk3, hi3⟩ := hp
     obtain ⟨r, hl3, hr, hh3⟩ := fin none V (by rw [hrec]; exact hk3)
     exact ⟨_, _, hr, .inl ⟨rfl, hI.putObj _ hi3 zO hl3 rfl, hh3⟩⟩
   | ret => exact stop _ hp
   | exit id => exact stop _ hp
   | goto t => exact stop _ hp
   | panic ch => exact hp.elim
   | outgrown => exact hp.elim
 case behind =>
   rintro e V ⟨⟨v, rfl⟩, (⟨hi, hh⟩ | ⟨k, hk, c, hc, hh⟩)⟩
   · have hl := hh.1
     rw [hrec] at hl
     refine ⟨none, _, run_endLoop (P := P) hl (by simp), hdone _ _ (Nat.le_refl _) (hI.putObj _ hi zO hl rfl) ?_⟩
     exact (World.putObj_heap_other zO).trans hh.2
   · have hl := hh.1
     rw [hrec] at hl
     refine ⟨some c, _, run_endLoop (P := P) hl (by simp), hstop _ k c _ (Nat.le_refl _) hk ((hX c).putObj _ hc zO hl rfl) ?_⟩
     exact (World.putObj_heap_other zO).trans hh.2
end
section
open Go.RowKit Go.Shelf
attribute [local go_sem] Oper.semAt_some
def nextPM (x : Nat × Nat) : Nat × Nat := if x.2 + x.1 ≤ 20 then (x.1, x.2 + x.1) else (x.1 + 1, x.1 + 1)
def stPM : Nat → Nat × Nat
 | 0 => (1, 1)
 | k + 1 => nextPM (stPM k)
theorem stPM_all : ∀ k, k < 66 → 1 ≤ (stPM k).1 ∧ (stPM k).1 ≤ (stPM k).2 ∧ (stPM k).2 ≤ 20 ∧ (stPM k).2 % (stPM k).1 = 0 := by decide +kernel
theorem stPM_self : ∀ j, j < 21 → 1 ≤ j → ∃ k, k < 66 ∧ stPM k = (j, j) := by decide +kernel
theorem put_bit (t k : Nat) (ht : t < 2097152) (hk : k ≤ 20) : bits BinOp.or IntKind.u32 (t : Int) (2 ^ k % 4294967296) = ((t ||| 1 <<< k : Nat) : Int) ∧ t ||| 1 <<< k < 2097152 := by
 have hp : 2 ^ k ≤ 2 ^ 20 := Nat.pow_le_pow_right zO hk
 have hx : t ||| 1 <<< k < 2 ^ 21 := Nat.or_lt_two_pow zO (by rw [Nat.one_shiftLeft]; omega)
 have e2 : (2 : Int) ^ k % 4294967296 = ((2 ^ k : Nat) : Int) := by
   have : (2 : Int) ^ k = ((2 ^ k : Nat) : Int) := by simp
   rw [this]
   generalize 2 ^ k = z at hp ⊢
   omega
 rw [e2]
 have h1 : (BitVec.ofInt 32 (t : Int)).toNat = t := by rw [BitVec.ofInt_natCast, BitVec.toNat_ofNat]; exact Nat.mod_eq_of_lt zO
 have h2 : (BitVec.ofInt 32 ((2 ^ k : Nat) : Int)).toNat = 2 ^ k := by rw [BitVec.ofInt_natCast, BitVec.toNat_ofNat]; exact Nat.mod_eq_of_lt zO
 refine ⟨?_, by omega⟩
 show IntKind.u32.wrap ((BitVec.ofInt 32 (t : Int) ||| BitVec.ofInt 32 ((2 ^ k : Nat) : Int)).toNat : Int) = _
 rw [BitVec.toNat_or, h1, h2, Nat.one_shiftLeft, IntKind.wrap_u32]
 rw [Nat.one_shiftLeft] at hx
 omega
end
section
open Go.RowKit Go.Shelf
attribute [local go_sem] Oper.semAt_some
set_option maxHeartbeats 400000 in
theorem bitsOf_any (k : Int) (w : World) :
   Calls Tryz.prog 214 #[.int .i64 k] w fun e w' => e = .returned (.func (.func 222) #[] #[.pointer (some ⟨w.heap.size, 0, none⟩)]) ∧ w' = w.alloc (.cells #[.int .i64 k] 3) := by
 have hmf : ∀ (fn : Fn) (first cap : Array Value) (w : World), (Instr.makeFunc fn first cap).run Tryz.prog w = .ok (.func fn first cap) w := fun _ _ _ _ => rfl
 go_enter Tryz.func214, Tryz.ntmps214
 go_wp2
 go_ret
 exact ⟨rfl, rfl⟩
def bitB (k i : Nat) : Bool := decide (k / 2 ^ (Lib.bitLen k - 1 - i) % 2 = 1)
theorem bit_is (k g i : Nat) (hk : k ≤ 1000000000) (h : i + (g + 1) = Lib.bitLen k) : (bits BinOp.and IntKind.i64 ((k : Int) / 2 ^ g) 1 == 1) = bitB k i := by
 have hle : k / 2 ^ g ≤ k := Nat.div_le_self _ _
 have e := and_one (k / 2 ^ g) zO
 have e2 : ((k / 2 ^ g : Nat) : Int) = (k : Int) / 2 ^ g := by simp
 rw [e2] at e
 rw [e, bitB, show Lib.bitLen k - 1 - i = g by omega, Bool.eq_iff_iff, beq_iff_eq, decide_eq_true_iff]
 omega
set_option maxHeartbeats 4000000 in
theorem bitsOf_counted (n : Nat) (hn : 1 ≤ n) (k B : Nat) (w : World) (hk : k ≤ 1000000000) :
   Counted Fence.wide n Tryz.prog 222 #[.pointer (some ⟨B, 0, none⟩)] (fun i => #[.bool (bitB k i)]) (fun V => V.cell? ⟨B, 0, none⟩ = some (.int .i64 k)) (Lib.bitLen k) w := by
 intro l J X W hW hJ hX hKp hY h0
 have c0 := hKp 0 W h0
 have hL := bitLen_30 k hk
 refine callsIn_of_wp Tryz.func222 rfl trivial ?_ rfl
 simp only [Tryz.ntmps222, List.size_toArray, List.length_cons, List.length_nil, Nat.reduceAdd, Nat.reduceSub, Array.replicate_succ, Array.replicate_zero, List.push_toArray, List.append_toArray, List.nil_append, List.cons_append]
 gi_wp2_with fail
 refine ⟨trivial, (callsIn_wide.2 (len_at k _ hk)).mono ?_⟩
 rintro e w1 ⟨rfl, rfl⟩
 clear c0
 gi_wp2
 gi_loopg [3] (Lib.bitLen k) (fun r x wr => ∃ i, i + r = Lib.bitLen k ∧ x = .int .i64 ((r : Int) - 1) ∧ J i wr)
 case atStart => exact ⟨0, by omega, rfl, h0⟩
 case round =>
   obtain ⟨i, hi, rfl, hj⟩ := hrel
   have c0 := hKp i wr hj
   cases gk with
   | zero =>
     obtain rfl : i = Lib.bitLen k := by omega
     gi_wp2
     go_end0
     exact ⟨⟨_, rfl⟩, .inl hj⟩
   | succ g =>
     obtain ⟨fn, tmps, assign, body, hy, hR⟩ := hY i wr zO hj
     have hb := bit_is k g i hk hi
     gi_wp2
     refine hR.mono ?_
     rintro e W3 (⟨rfl, hj3⟩ | ⟨rfl, hx3⟩)
     · gi_wp2
       gi_roundg g
       case measure => omega
       case rel => exact ⟨i + 1, by omega, congrArg (Value.int .i64) zO, hj3⟩
     · gi_wp2
       refine bodyPost_ret (results_none rfl _ _ _) rfl ?_
       exact ⟨⟨_, rfl⟩, .inr ⟨i, by omega, hx3⟩⟩
end
section
open Go.RowKit
set_option maxHeartbeats 400000 in
theorem l3Left_at (n m v : Int) (w : World) (h1 : 1 ≤ m) (h2 : m ≤ 1000000000000) (hv : n % m = v) :
   Calls Tryz.prog 128 #[.int .i64 n, .int .i64 m] w fun e w' => e = .returned (.int .i64 v) ∧ w = w' := by
 have hz : (m == 0) = false := by simp; omega
 have t1 : n.tmod m < m := Int.tmod_lt_of_pos n zO
 have t2 : -m < n.tmod m := by
   have := Int.tmod_lt_of_pos (-n) (b := m) zO
   rw [Int.neg_tmod] at this
   omega
 have E := Lib.hid ((go_left2 n m).trans hv)
 clear hv
 go_enter Tryz.func128, Tryz.ntmps128
 go_wp2
 go_ret
 exact ⟨ret_int E.out, rfl⟩
set_option maxRecDepth 100000 in
set_option maxHeartbeats 4000000 in
theorem l3Both_any (p q m : Int) (r1 : -4 ≤ p) (r2 : p ≤ 4) (r3 : -4 ≤ q) (r4 : q ≤ 4) (h1 : 1 ≤ m) (h2 : m ≤ 10000) (N : Nat) : ∀ (n : Nat) (x : Int) (w : World), n ≤ N → n ≤ 4000000000 → x = n →
   Calls Tryz.prog 131 #[pr p q, .int .i64 x, .int .i64 m] w fun e w' => e = .returned (.tuple #[.int .i64 (row p q 0 1 n % m), .int .i64 (row p q 0 1 (n + 1) % m)]) ∧ Below w.heap.size w w' := by
 have hz : (m == 0) = false := by simp; omega
 have h3 : m ≤ 1000000000000 := by omega
 induction N with
 | zero =>
   intro n x w hn _ hx
   obtain rfl : n = 0 := by omega
   subst hx
   have E0 : row p q 0 1 0 % m = 0 := by simp [row]
   have E1 : row p q 0 1 (0 + 1) % m = 1 % m := by simp [row]
   rw [E0, E1]
   clear E0 E1
   go_enter Tryz.func131, Tryz.ntmps131
   go_wp2_with fail
   go_quiet (fail)
   go_wp2_with fail
   go_ret2
   exact ⟨rfl, Go.below_drewN (by exact zb) _⟩
 | succ N ih =>
   intro n x w hn hb hx
   subst hx
   by_cases hn0 : n = 0
   · exact ih n n w zO hb rfl
   · rcases Nat.mod_two_eq_zero_or_one n with hp | hp
     · obtain ⟨k, rfl⟩ : ∃ k, n = 2 * k := ⟨n / 2, by omega⟩
       have hk : 1 ≤ k := by omega
       have ihk := Lib.hid ih
       clear ih hp
       obtain ⟨a0, a1⟩ := left_bd (row p q 0 1 k) m h1
       obtain ⟨b0, b1⟩ := left_bd (row p q 0 1 (k + 1)) m h1
       obtain ⟨c0, c1⟩ := left_bd (row p q 0 1 (2 * k)) m h1
       obtain ⟨d0, d1⟩ := left_bd (row p q 0 1 (2 * k + 1)) m h1
       obtain ⟨s0, s1⟩ := left_bd (2 * (row p q 0 1 (k + 1) % m) - p * (row p q 0 1 k % m)) m h1
       obtain ⟨t0, t1⟩ := left_bd (q * (row p q 0 1 k % m)) m h1
       obtain ⟨x1, x2⟩ := mul_bd (b := 10000) r1 r2 (show -10000 ≤ row p q 0 1 k % m by omega) zO
       obtain ⟨x3, x4⟩ := mul_bd (b := 10000) r3 r4 (show -10000 ≤ row p q 0 1 k % m by omega) zO
       obtain ⟨x5, x6⟩ := mul_bd (a := 10000) (b := 10000) (show -10000 ≤ row p q 0 1 k % m by omega) zO (show -10000 ≤ (2 * (row p q 0 1 (k + 1) % m) - p * (row p q 0 1 k % m)) % m by omega) zO
       obtain ⟨x7, x8⟩ := mul_bd (a := 10000) (b := 10000) (show -10000 ≤ row p q 0 1 (k + 1) % m by omega) zO (show -10000 ≤ row p q 0 1 (k + 1) % m by omega) zO
       obtain ⟨x9, x10⟩ := mul_bd (a := 10000) (b := 10000) (show -10000 ≤ q * (row p q 0 1 k % m) % m by omega) zO (show -10000 ≤ row p q 0 1 k % m by omega) zO
       obtain ⟨y1, y2⟩ := mul_bd (b := 10000) r1 r2 (show -10000 ≤ row p q 0 1 (2 * k + 1) % m by omega) zO
       obtain ⟨y3, y4⟩ := mul_bd (b := 10000) r3 r4 (show -10000 ≤ row p q 0 1 (2 * k) % m by omega) zO
       have E1 := Lib.hid (far_even p q m k)
       have E2 := Lib.hid (far_odd p q m k)
       have E3 := Lib.hid (far_next p q m (2 * k))
       go_enter Tryz.func131, Tryz.ntmps131
       go_wp2_with fail
       refine (ihk.out k _ _ zO zO zO).mono ?_
       rintro e w1 ⟨rfl, hh1⟩
       obtain ⟨hc1, hf1⟩ := bcell hh1
       have hz1 := hh1.size
       try simp only [World.size_alloc] at hz1
       have hz1_0 : w.heap.size < w1.heap.size := by omega
       have kb1_0_0 : w1.cell? ⟨w.heap.size, 0, none⟩ = some (.int .i64 p) := by go_simp
       have kf1_0_0 : w1.frozen? ⟨w.heap.size, 0, none⟩ = false := by go_simp
       have kb1_0_1 : w1.cell? ⟨w.heap.size, 1, none⟩ = some (.int .i64 q) := by go_simp
       have kf1_0_1 : w1.frozen? ⟨w.heap.size, 1, none⟩ = false := by go_simp
       clear hc1 hf1
       go_wp2_with fail
       refine (l3Left_at _ _ _ _ h1 h3 rfl).mono ?_
       rintro e wx ⟨rfl, rfl⟩
       go_wp2_with fail
       refine (l3Left_at _ _ _ _ h1 h3 E1.out).mono ?_
       rintro e wx ⟨rfl, rfl⟩
       go_wp2_with fail
       refine (l3Left_at _ _ _ _ h1 h3 rfl).mono ?_
       rintro e wx ⟨rfl, rfl⟩
       go_wp2_with fail
       refine (l3Left_at _ _ _ _ h1 h3 E2.out).mono ?_
       rintro e wx ⟨rfl, rfl⟩
       go_wp2_with fail
       go_ret2
       exact ⟨rfl, by exact zb⟩
     · obtain ⟨k, rfl⟩ : ∃ k, n = 2 * k + 1 := ⟨n / 2, by omega⟩
       have ihk := Lib.hid ih
       clear ih hp
       obtain ⟨a0, a1⟩ := left_bd (row p q 0 1 k) m h1
       obtain ⟨b0, b1⟩ := left_bd (row p q 0 1 (k + 1)) m h1
       obtain ⟨c0, c1⟩ := left_bd (row p q 0 1 (2 * k)) m h1
       obtain ⟨d0, d1⟩ := left_bd (row p q 0 1 (2 * k + 1)) m h1
       obtain ⟨s0, s1⟩ := left_bd (2 * (row p q 0 1 (k + 1) % m) - p * (row p q 0 1 k % m)) m h1
       obtain ⟨t0, t1⟩ := left_bd (q * (row p q 0 1 k % m)) m h1
       obtain ⟨x1, x2⟩ := mul_bd (b := 10000) r1 r2 (show -10000 ≤ row p q 0 1 k % m by omega) zO
       obtain ⟨x3, x4⟩ := mul_bd (b := 10000) r3 r4 (show -10000 ≤ row p q 0 1 k % m by omega) zO
       obtain ⟨x5, x6⟩ := mul_bd (a := 10000) (b := 10000) (show -10000 ≤ row p q 0 1 k % m by omega) zO (show -10000 ≤ (2 * (row p q 0 1 (k + 1) % m) - p * (row p q 0 1 k % m)) % m by omega) zO
       obtain ⟨x7, x8⟩ := mul_bd (a := 10000) (b := 10000) (show -10000 ≤ row p q 0 1 (k + 1) % m by omega) zO (show -10000 ≤ row p q 0 1 (k + 1) % m by omega) zO
       obtain ⟨x9, x10⟩ := mul_bd (a := 10000) (b := 10000) (show -10000 ≤ q * (row p q 0 1 k % m) % m by omega) zO (show -10000 ≤ row p q 0 1 k % m by omega) zO
       obtain ⟨y1, y2⟩ := mul_bd (b := 10000) r1 r2 (show -10000 ≤ row p q 0 1 (2 * k + 1) % m by omega) zO
       obtain ⟨y3, y4⟩ := mul_bd (b := 10000) r3 r4 (show -10000 ≤ row p q 0 1 (2 * k) % m by omega) zO
       have E1 := Lib.hid (far_even p q m k)
       have E2 := Lib.hid (far_odd p q m k)
       have E3 := Lib.hid (far_next p q m (2 * k))
       go_enter Tryz.func131, Tryz.ntmps131
       go_wp2_with fail
       refine (ihk.out k _ _ zO zO zO).mono ?_
       rintro e w1 ⟨rfl, hh1⟩
       obtain ⟨hc1, hf1⟩ := bcell hh1
       have hz1 := hh1.size
       try simp only [World.size_alloc] at hz1
       have hz1_0 : w.heap.size < w1.heap.size := by omega
       have kb1_0_0 : w1.cell? ⟨w.heap.size, 0, none⟩ = some (.int .i64 p) := by go_simp
       have kf1_0_0 : w1.frozen? ⟨w.heap.size, 0, none⟩ = false := by go_simp
       have kb1_0_1 : w1.cell? ⟨w.heap.size, 1, none⟩ = some (.int .i64 q) := by go_simp
       have kf1_0_1 : w1.frozen? ⟨w.heap.size, 1, none⟩ = false := by go_simp
       clear hc1 hf1
       go_wp2_with fail
       refine (l3Left_at _ _ _ _ h1 h3 rfl).mono ?_
       rintro e wx ⟨rfl, rfl⟩
       go_wp2_with fail
       refine (l3Left_at _ _ _ _ h1 h3 E1.out).mono ?_
       rintro e wx ⟨rfl, rfl⟩
       go_wp2_with fail
       refine (l3Left_at _ _ _ _ h1 h3 rfl).mono ?_
       rintro e wx ⟨rfl, rfl⟩
       go_wp2_with fail
       refine (l3Left_at _ _ _ _ h1 h3 E2.out).mono ?_
       rintro e wx ⟨rfl, rfl⟩
       go_wp2_with fail
       refine (l3Left_at _ _ _ _ h1 h3 E3.out).mono ?_
       rintro e wx ⟨rfl, rfl⟩
       go_wp2_with fail
       go_ret2
       exact ⟨rfl, by exact zb⟩
end
section
open Go.RowKit
def farB (p q n m : Int) : Bool := pairB p q && (inB n 0 1000000000 && inB m 1 10000)
def farFirstV (p q n m : Int) : Int := if farB p q n m = true then row p q 0 1 n.toNat % m else -1
def farSecondV (p q n m : Int) : Int := if farB p q n m = true then row p q 2 p n.toNat % m else -1
theorem farB_true {p q n m : Int} (h : farB p q n m = true) : pairB p q = true ∧ (∃ k : Nat, n = k ∧ k ≤ 1000000000) ∧ 1 ≤ m ∧ m ≤ 10000 := by
 have h' : pairB p q = true ∧ inB n 0 1000000000 = true ∧ inB m 1 10000 = true := by simpa [farB] using h
 obtain ⟨hp, ha, hb⟩ := h'
 obtain ⟨a1, a2⟩ := inB_true ha
 obtain ⟨b1, b2⟩ := inB_true hb
 exact ⟨hp, ⟨n.toNat, by omega, by omega⟩, b1, b2⟩
theorem l1In_is (n a b : Int) (c : Bool) (w : World) (h : inB n a b = c) : Calls Tryz.prog 86 #[.int .i64 n, .int .i64 a, .int .i64 b] w fun e w' => e = .returned (.bool c) ∧ w = w' := by have := l1In_any n a b w; rw [h] at this; exact this
theorem farB_ways {p q n m : Int} (h : farB p q n m = false) : pairB p q = false ∨ (pairB p q = true ∧ inB n 0 1000000000 = false) ∨ (pairB p q = true ∧ inB n 0 1000000000 = true ∧ inB m 1 10000 = false) := by
 cases hp : pairB p q with
 | false => exact .inl rfl
 | true =>
   cases ha : inB n 0 1000000000 with
   | false => exact .inr (.inl ⟨rfl, rfl⟩)
   | true => exact .inr (.inr ⟨rfl, rfl, by simpa [farB, hp, ha] using h⟩)
set_option maxHeartbeats 4000000 in
theorem specFarFirst_any (p q n m : Int) (w : World) :
   Calls Tryz.prog 104 #[pr p q, .int .i64 n, .int .i64 m] w fun e w' => e = .returned (.int .i64 (farFirstV p q n m)) ∧ Below w.heap.size w w' := by
 cases h : farB p q n m with
 | true =>
   obtain ⟨hp, ⟨k, rfl, hk⟩, m1, m2⟩ := farB_true h
   obtain ⟨⟨r1, r2⟩, r3, r4⟩ := pairB_true hp
   have HV := Lib.hid (show farFirstV p q k m = row p q 0 1 k % m by rw [farFirstV, if_pos h]; rfl)
   have HA := Lib.hid (inB_mk (n := (k : Int)) (a := 0) (b := 1000000000) zO zO)
   have HB := Lib.hid (inB_mk (n := m) (a := 1) (b := 10000) m1 m2)
   have m3 : m ≤ 1000000000000 := by omega
   have HP := Lib.hid hp
   rw [HV.out]
   clear hp h
   go_enter Tryz.func104, Tryz.ntmps104
   go_wp2_with fail
   refine (specPairOk_yes p q _ HP.out).mono ?_
   rintro e w1 ⟨rfl, hh1⟩
   obtain ⟨hc1, hf1⟩ := bcell hh1
   have hz1 := hh1.size
   try simp only [World.size_alloc] at hz1
   have hz1_0 : w.heap.size < w1.heap.size := by omega
   have kb1_0_0 : w1.cell? ⟨w.heap.size, 0, none⟩ = some (.int .i64 p) := by go_simp
   have kf1_0_0 : w1.frozen? ⟨w.heap.size, 0, none⟩ = false := by go_simp
   have kb1_0_1 : w1.cell? ⟨w.heap.size, 1, none⟩ = some (.int .i64 q) := by go_simp
   have kf1_0_1 : w1.frozen? ⟨w.heap.size, 1, none⟩ = false := by go_simp
   clear hc1 hf1
   go_wp2_with fail
   refine (l1In_is _ 0 1000000000 true _ HA.out).mono ?_
   rintro e wx ⟨rfl, rfl⟩
   go_wp2_with fail
   refine (l1In_is m 1 10000 true _ HB.out).mono ?_
   rintro e wx ⟨rfl, rfl⟩
   go_wp2_with fail
   refine (l3Both_any p q m r1 r2 r3 r4 m1 m2 k k _ _ (Nat.le_refl _) zO rfl).mono ?_
   rintro e w2 ⟨rfl, hh2⟩
   obtain ⟨hc2, hf2⟩ := bcell hh2
   have hz2 := hh2.size
   try simp only [World.size_alloc] at hz2
   have kb2_0_0 : w2.cell? ⟨w.heap.size, 0, none⟩ = some (.int .i64 p) := by go_simp
   have kf2_0_0 : w2.frozen? ⟨w.heap.size, 0, none⟩ = false := by go_simp
   have kb2_0_1 : w2.cell? ⟨w.heap.size, 1, none⟩ = some (.int .i64 q) := by go_simp
   have kf2_0_1 : w2.frozen? ⟨w.heap.size, 1, none⟩ = false := by go_simp
   clear hc2 hf2
   skip
   go_wp2_with fail
   go_wp2
   go_ret
   exact ⟨rfl, by exact zb⟩
 | false =>
   have HV := Lib.hid (show farFirstV p q n m = -1 by rw [farFirstV, if_neg (by simp [h])])
   rw [HV.out]
   rcases farB_ways h with hp | ⟨hp, ha⟩ | ⟨hp, ha, hb⟩
   · have HP := Lib.hid hp
     clear hp h
     go_enter Tryz.func104, Tryz.ntmps104
     go_wp2_with fail
     refine (specPairOk_no p q _ HP.out).mono ?_
     rintro e w1 ⟨rfl, hh1⟩
     obtain ⟨hc1, hf1⟩ := bcell hh1
     have hz1 := hh1.size
     try simp only [World.size_alloc] at hz1
     have hz1_0 : w.heap.size < w1.heap.size := by omega
     have kb1_0_0 : w1.cell? ⟨w.heap.size, 0, none⟩ = some (.int .i64 p) := by go_simp
     have kf1_0_0 : w1.frozen? ⟨w.heap.size, 0, none⟩ = false := by go_simp
     have kb1_0_1 : w1.cell? ⟨w.heap.size, 1, none⟩ = some (.int .i64 q) := by go_simp
     have kf1_0_1 : w1.frozen? ⟨w.heap.size, 1, none⟩ = false := by go_simp
     clear hc1 hf1
     go_wp2
     go_ret
     exact ⟨rfl, by exact zb⟩
   · have HP := Lib.hid hp
     have HA := Lib.hid ha
     clear hp ha h
     go_enter Tryz.func104, Tryz.ntmps104
     go_wp2_with fail
     refine (specPairOk_yes p q _ HP.out).mono ?_
     rintro e w1 ⟨rfl, hh1⟩
     obtain ⟨hc1, hf1⟩ := bcell hh1
     have hz1 := hh1.size
     try simp only [World.size_alloc] at hz1
     have hz1_0 : w.heap.size < w1.heap.size := by omega
     have kb1_0_0 : w1.cell? ⟨w.heap.size, 0, none⟩ = some (.int .i64 p) := by go_simp
     have kf1_0_0 : w1.frozen? ⟨w.heap.size, 0, none⟩ = false := by go_simp
     have kb1_0_1 : w1.cell? ⟨w.heap.size, 1, none⟩ = some (.int .i64 q) := by go_simp
     have kf1_0_1 : w1.frozen? ⟨w.heap.size, 1, none⟩ = false := by go_simp
     clear hc1 hf1
     go_wp2_with fail
     refine (l1In_is n 0 1000000000 false _ HA.out).mono ?_
     rintro e wx ⟨rfl, rfl⟩
     go_wp2
     go_ret
     exact ⟨rfl, by exact zb⟩
   · have HP := Lib.hid hp
     have HA := Lib.hid ha
     have HB := Lib.hid hb
     clear hp ha hb h
     go_enter Tryz.func104, Tryz.ntmps104
     go_wp2_with fail
     refine (specPairOk_yes p q _ HP.out).mono ?_
     rintro e w1 ⟨rfl, hh1⟩
     obtain ⟨hc1, hf1⟩ := bcell hh1
     have hz1 := hh1.size
     try simp only [World.size_alloc] at hz1
     have hz1_0 : w.heap.size < w1.heap.size := by omega
     have kb1_0_0 : w1.cell? ⟨w.heap.size, 0, none⟩ = some (.int .i64 p) := by go_simp
     have kf1_0_0 : w1.frozen? ⟨w.heap.size, 0, none⟩ = false := by go_simp
     have kb1_0_1 : w1.cell? ⟨w.heap.size, 1, none⟩ = some (.int .i64 q) := by go_simp
     have kf1_0_1 : w1.frozen? ⟨w.heap.size, 1, none⟩ = false := by go_simp
     clear hc1 hf1
     go_wp2_with fail
     refine (l1In_is n 0 1000000000 true _ HA.out).mono ?_
     rintro e wx ⟨rfl, rfl⟩
     go_wp2_with fail
     refine (l1In_is m 1 10000 false _ HB.out).mono ?_
     rintro e wx ⟨rfl, rfl⟩
     go_wp2
     go_ret
     exact ⟨rfl, by exact zb⟩
set_option maxHeartbeats 4000000 in
theorem specFarSecond_any (p q n m : Int) (w : World) :
   Calls Tryz.prog 130 #[pr p q, .int .i64 n, .int .i64 m] w fun e w' => e = .returned (.int .i64 (farSecondV p q n m)) ∧ Below w.heap.size w w' := by
 cases h : farB p q n m with
 | true =>
   obtain ⟨hp, ⟨k, rfl, hk⟩, m1, m2⟩ := farB_true h
   obtain ⟨⟨r1, r2⟩, r3, r4⟩ := pairB_true hp
   have HV := Lib.hid (show farSecondV p q k m = row p q 2 p k % m by rw [farSecondV, if_pos h]; rfl)
   have HA := Lib.hid (inB_mk (n := (k : Int)) (a := 0) (b := 1000000000) zO zO)
   have HB := Lib.hid (inB_mk (n := m) (a := 1) (b := 10000) m1 m2)
   have m3 : m ≤ 1000000000000 := by omega
   have HP := Lib.hid hp
   rw [HV.out]
   clear hp h
   go_enter Tryz.func130, Tryz.ntmps130
   go_wp2_with fail
   refine (specPairOk_yes p q _ HP.out).mono ?_
   rintro e w1 ⟨rfl, hh1⟩
   obtain ⟨hc1, hf1⟩ := bcell hh1
   have hz1 := hh1.size
   try simp only [World.size_alloc] at hz1
   have hz1_0 : w.heap.size < w1.heap.size := by omega
   have kb1_0_0 : w1.cell? ⟨w.heap.size, 0, none⟩ = some (.int .i64 p) := by go_simp
   have kf1_0_0 : w1.frozen? ⟨w.heap.size, 0, none⟩ = false := by go_simp
   have kb1_0_1 : w1.cell? ⟨w.heap.size, 1, none⟩ = some (.int .i64 q) := by go_simp
   have kf1_0_1 : w1.frozen? ⟨w.heap.size, 1, none⟩ = false := by go_simp
   clear hc1 hf1
   go_wp2_with fail
   refine (l1In_is _ 0 1000000000 true _ HA.out).mono ?_
   rintro e wx ⟨rfl, rfl⟩
   go_wp2_with fail
   refine (l1In_is m 1 10000 true _ HB.out).mono ?_
   rintro e wx ⟨rfl, rfl⟩
   go_wp2_with fail
   refine (l3Both_any p q m r1 r2 r3 r4 m1 m2 k k _ _ (Nat.le_refl _) zO rfl).mono ?_
   rintro e w2 ⟨rfl, hh2⟩
   obtain ⟨hc2, hf2⟩ := bcell hh2
   have hz2 := hh2.size
   try simp only [World.size_alloc] at hz2
   have kb2_0_0 : w2.cell? ⟨w.heap.size, 0, none⟩ = some (.int .i64 p) := by go_simp
   have kf2_0_0 : w2.frozen? ⟨w.heap.size, 0, none⟩ = false := by go_simp
   have kb2_0_1 : w2.cell? ⟨w.heap.size, 1, none⟩ = some (.int .i64 q) := by go_simp
   have kf2_0_1 : w2.frozen? ⟨w.heap.size, 1, none⟩ = false := by go_simp
   clear hc2 hf2
   obtain ⟨a0, a1⟩ := left_bd (row p q 0 1 k) m m1
   obtain ⟨b0, b1⟩ := left_bd (row p q 0 1 (k + 1)) m m1
   obtain ⟨x1, x2⟩ := mul_bd (b := 10000) r1 r2 (show -10000 ≤ row p q 0 1 k % m by omega) zO
   have E := Lib.hid (far_second p q m k)
   go_wp2_with fail
   refine (l3Left_at _ _ _ _ m1 m3 E.out).mono ?_
   rintro e wx ⟨rfl, rfl⟩
   go_wp2
   go_ret
   exact ⟨rfl, by exact zb⟩
 | false =>
   have HV := Lib.hid (show farSecondV p q n m = -1 by rw [farSecondV, if_neg (by simp [h])])
   rw [HV.out]
   rcases farB_ways h with hp | ⟨hp, ha⟩ | ⟨hp, ha, hb⟩
   · have HP := Lib.hid hp
     clear hp h
     go_enter Tryz.func130, Tryz.ntmps130
     go_wp2_with fail
     refine (specPairOk_no p q _ HP.out).mono ?_
     rintro e w1 ⟨rfl, hh1⟩
     obtain ⟨hc1, hf1⟩ := bcell hh1
     have hz1 := hh1.size
     try simp only [World.size_alloc] at hz1
     have hz1_0 : w.heap.size < w1.heap.size := by omega
     have kb1_0_0 : w1.cell? ⟨w.heap.size, 0, none⟩ = some (.int .i64 p) := by go_simp
     have kf1_0_0 : w1.frozen? ⟨w.heap.size, 0, none⟩ = false := by go_simp
     have kb1_0_1 : w1.cell? ⟨w.heap.size, 1, none⟩ = some (.int .i64 q) := by go_simp
     have kf1_0_1 : w1.frozen? ⟨w.heap.size, 1, none⟩ = false := by go_simp
     clear hc1 hf1
     go_wp2
     go_ret
     exact ⟨rfl, by exact zb⟩
   · have HP := Lib.hid hp
     have HA := Lib.hid ha
     clear hp ha h
     go_enter Tryz.func130, Tryz.ntmps130
     go_wp2_with fail
     refine (specPairOk_yes p q _ HP.out).mono ?_
     rintro e w1 ⟨rfl, hh1⟩
     obtain ⟨hc1, hf1⟩ := bcell hh1
     have hz1 := hh1.size
     try simp only [World.size_alloc] at hz1
     have hz1_0 : w.heap.size < w1.heap.size := by omega
     have kb1_0_0 : w1.cell? ⟨w.heap.size, 0, none⟩ = some (.int .i64 p) := by go_simp
     have kf1_0_0 : w1.frozen? ⟨w.heap.size, 0, none⟩ = false := by go_simp
     have kb1_0_1 : w1.cell? ⟨w.heap.size, 1, none⟩ = some (.int .i64 q) := by go_simp
     have kf1_0_1 : w1.frozen? ⟨w.heap.size, 1, none⟩ = false := by go_simp
     clear hc1 hf1
     go_wp2_with fail
     refine (l1In_is n 0 1000000000 false _ HA.out).mono ?_
     rintro e wx ⟨rfl, rfl⟩
     go_wp2
     go_ret
     exact ⟨rfl, by exact zb⟩
   · have HP := Lib.hid hp
     have HA := Lib.hid ha
     have HB := Lib.hid hb
     clear hp ha hb h
     go_enter Tryz.func130, Tryz.ntmps130
     go_wp2_with fail
     refine (specPairOk_yes p q _ HP.out).mono ?_
     rintro e w1 ⟨rfl, hh1⟩
     obtain ⟨hc1, hf1⟩ := bcell hh1
     have hz1 := hh1.size
     try simp only [World.size_alloc] at hz1
     have hz1_0 : w.heap.size < w1.heap.size := by omega
     have kb1_0_0 : w1.cell? ⟨w.heap.size, 0, none⟩ = some (.int .i64 p) := by go_simp
     have kf1_0_0 : w1.frozen? ⟨w.heap.size, 0, none⟩ = false := by go_simp
     have kb1_0_1 : w1.cell? ⟨w.heap.size, 1, none⟩ = some (.int .i64 q) := by go_simp
     have kf1_0_1 : w1.frozen? ⟨w.heap.size, 1, none⟩ = false := by go_simp
     clear hc1 hf1
     go_wp2_with fail
     refine (l1In_is n 0 1000000000 true _ HA.out).mono ?_
     rintro e wx ⟨rfl, rfl⟩
     go_wp2_with fail
     refine (l1In_is m 1 10000 false _ HB.out).mono ?_
     rintro e wx ⟨rfl, rfl⟩
     go_wp2
     go_ret
     exact ⟨rfl, by exact zb⟩
end
section
open Go.RowKit
theorem own0 {w : World} {base g : Nat} (hb : base ≤ g) (h : w.heap[g]? = some (.cells #[] 3 (0, 0))) : w.ownsRow base 3 1 (.slice (some ⟨g, 0, none⟩) 0 0) 0 [] :=
 ⟨rfl, .inr ⟨g, 0, #[], rfl, hb, h, Nat.le_refl _, by unfold maxLen; omega, rfl, rfl⟩⟩
end
section
open Go.RowKit
set_option maxHeartbeats 400000 in
theorem leftOf_at (n m v : Int) (w : World) (h1 : 1 ≤ m) (h2 : m ≤ 1000000000000) (hv : n % m = v) :
   Calls Tryz.prog 183 #[.int .i64 n, .int .i64 m] w fun e w' => e = .returned (.int .i64 v) ∧ w = w' := by
 have hz : (m == 0) = false := by simp; omega
 have t1 : n.tmod m < m := Int.tmod_lt_of_pos n zO
 have t2 : -m < n.tmod m := by
   have := Int.tmod_lt_of_pos (-n) (b := m) zO
   rw [Int.neg_tmod] at this
   omega
 by_cases hs : n.tmod m < 0
 · have E := Lib.hid (show n.tmod m + m = v by
     have := go_left2 n m
     rw [Int.emod_eq_of_lt zO zO] at this
     omega)
   clear hv
   go_enter Tryz.func183, Tryz.ntmps183
   go_wp2
   go_ret
   exact ⟨ret_int E.out, rfl⟩
 · have E := Lib.hid (show n.tmod m = v by
     have := go_left2 n m
     rw [Int.add_emod_right, Int.emod_eq_of_lt zO zO] at this
     omega)
   have hs' : 0 ≤ n.tmod m := by omega
   clear hv hs
   go_enter Tryz.func183, Tryz.ntmps183
   go_wp2
   go_ret
   exact ⟨ret_int E.out, rfl⟩
set_option maxHeartbeats 400000 in
theorem farOk_any (n : Int) (w : World) :
   Calls Tryz.prog 187 #[.int .i64 n] w fun e w' => e = .returned (.bool (inB n 0 1000000000)) ∧ w = w' := by
 by_cases h1 : 0 ≤ n
 · by_cases h2 : n ≤ 1000000000
   · have H := Lib.hid (inB_mk h1 h2)
     go_enter Tryz.func187, Tryz.ntmps187
     go_wp2
     go_ret
     exact ⟨ret_bool H.out.symm, rfl⟩
   · have H := Lib.hid (inB_no (n := n) (a := 0) (b := 1000000000) zO)
     have h2' : 1000000000 < n := by omega
     go_enter Tryz.func187, Tryz.ntmps187
     go_wp2
     go_ret
     exact ⟨ret_bool H.out.symm, rfl⟩
 · have H := Lib.hid (inB_no (n := n) (a := 0) (b := 1000000000) zO)
   have h1' : n < 0 := by omega
   go_enter Tryz.func187, Tryz.ntmps187
   go_wp2
   go_ret
   exact ⟨ret_bool H.out.symm, rfl⟩
theorem farOk_is (n : Int) (c : Bool) (w : World) (h : inB n 0 1000000000 = c) : Calls Tryz.prog 187 #[.int .i64 n] w fun e w' => e = .returned (.bool c) ∧ w = w' := by have := farOk_any n w; rw [h] at this; exact this
set_option maxHeartbeats 400000 in
theorem byOk_any (n : Int) (w : World) :
   Calls Tryz.prog 188 #[.int .i64 n] w fun e w' => e = .returned (.bool (inB n 1 10000)) ∧ w = w' := by
 by_cases h1 : 1 ≤ n
 · by_cases h2 : n ≤ 10000
   · have H := Lib.hid (inB_mk h1 h2)
     go_enter Tryz.func188, Tryz.ntmps188
     go_wp2
     go_ret
     exact ⟨ret_bool H.out.symm, rfl⟩
   · have H := Lib.hid (inB_no (n := n) (a := 1) (b := 10000) zO)
     have h2' : 10000 < n := by omega
     go_enter Tryz.func188, Tryz.ntmps188
     go_wp2
     go_ret
     exact ⟨ret_bool H.out.symm, rfl⟩
 · have H := Lib.hid (inB_no (n := n) (a := 1) (b := 10000) zO)
   have h1' : n < 1 := by omega
   go_enter Tryz.func188, Tryz.ntmps188
   go_wp2
   go_ret
   exact ⟨ret_bool H.out.symm, rfl⟩
theorem byOk_is (n : Int) (c : Bool) (w : World) (h : inB n 1 10000 = c) : Calls Tryz.prog 188 #[.int .i64 n] w fun e w' => e = .returned (.bool c) ∧ w = w' := by have := byOk_any n w; rw [h] at this; exact this
set_option maxHeartbeats 2000000 in
theorem second_at (a b p q m : Int) (r1 : -4 ≤ p) (r2 : p ≤ 4) (h1 : 1 ≤ m) (h2 : m ≤ 10000) (a1 : 0 ≤ a) (a2 : a < m) (b1 : 0 ≤ b) (b2 : b < m) (v : Int) (w : World) (hv : (2 * b - p * a) % m = v) :
   Calls Tryz.prog 210 #[pr a b, pr p q, .int .i64 m] w fun e w' => e = .returned (.int .i64 v) ∧ Below w.heap.size w w' := by
 obtain ⟨x1, x2⟩ := mul_bd (b := 10000) r1 r2 (show -10000 ≤ a by omega) zO
 have m3 : m ≤ 1000000000000 := by omega
 have HV := Lib.hid hv
 clear hv
 go_enter Tryz.func210, Tryz.ntmps210
 go_wp2_with fail
 refine (leftOf_at _ m _ _ h1 m3 HV.out).mono ?_
 rintro e wx ⟨rfl, rfl⟩
 go_wp2
 go_ret
 exact ⟨rfl, by exact zb⟩
set_option maxHeartbeats 2000000 in
theorem goneOn_at (a b p q m : Int) (r1 : -4 ≤ p) (r2 : p ≤ 4) (r3 : -4 ≤ q) (r4 : q ≤ 4) (h1 : 1 ≤ m) (h2 : m ≤ 10000) (a1 : 0 ≤ a) (a2 : a < m) (b1 : 0 ≤ b) (b2 : b < m) (v : Int) (w : World) (hv : (p * b - q * a) % m = v) :
   Calls Tryz.prog 207 #[pr a b, pr p q, .int .i64 m] w fun e w' => e = .returned (pr b v) ∧ Below w.heap.size w w' := by
 obtain ⟨x1, x2⟩ := mul_bd (b := 10000) r1 r2 (show -10000 ≤ b by omega) zO
 obtain ⟨x3, x4⟩ := mul_bd (b := 10000) r3 r4 (show -10000 ≤ a by omega) zO
 have m3 : m ≤ 1000000000000 := by omega
 have U1 : IntKind.i64.wrap (p * b) = p * b := by rw [IntKind.wrap_i64]; omega
 have U2 : IntKind.i64.wrap (q * a) = q * a := by rw [IntKind.wrap_i64]; omega
 have U3 : IntKind.i64.wrap (p * b - q * a) = p * b - q * a := by rw [IntKind.wrap_i64]; omega
 have HV := Lib.hid hv
 clear hv x1 x2 x3 x4
 go_enter Tryz.func207, Tryz.ntmps207
 go_wp2_with fail
 go_region_held3 (fun w' => w'.cell? ⟨w.heap.size, 0, none⟩ = some (.int .i64 a) ∧ w'.cell? ⟨w.heap.size, 1, none⟩ = some (.int .i64 b) ∧ w'.cell? ⟨w.heap.size + 1, 0, none⟩ = some (.int .i64 p) ∧ w'.cell? ⟨w.heap.size + 1, 1, none⟩ = some (.int .i64 q))
   (first | go_keep | (go_split_ands; exact ⟨kx0, kx1, kx2, kx3⟩))
   ((first | (go_at_call 183; refine (leftOf_at _ m _ _ h1 m3 HV.out).mono ?_; rintro e w2 ⟨rfl, rfl⟩) | fail))
 go_wp2
 refine bodyPost_ret (v := pr b v) (by simp [results, Tryz.results207, go_sem]) rfl ⟨rfl, ?_⟩
 exact zb
set_option maxRecDepth 100000 in
set_option maxHeartbeats 4000000 in
theorem doubled_at (a b p q m : Int) (r1 : -4 ≤ p) (r2 : p ≤ 4) (r3 : -4 ≤ q) (r4 : q ≤ 4) (h1 : 1 ≤ m) (h2 : m ≤ 10000) (a1 : 0 ≤ a) (a2 : a < m) (b1 : 0 ≤ b) (b2 : b < m) (c v u : Int) (w : World) (hc : (2 * b - p * a) % m = c) (hv : a * c % m = v) (hu : (b * b - q * a * a) % m = u) :
   Calls Tryz.prog 215 #[pr a b, pr p q, .int .i64 m] w fun e w' => e = .returned (pr v u) ∧ Below w.heap.size w w' := by
 have c1 : 0 ≤ c ∧ c < m := by rw [← hc]; exact left_bd _ m h1
 obtain ⟨x1, x2⟩ := mul_bd (a := 10000) (b := 10000) (show -10000 ≤ a by omega) zO (show -10000 ≤ c by omega) zO
 obtain ⟨x3, x4⟩ := mul_bd (a := 10000) (b := 10000) (show -10000 ≤ b by omega) zO (show -10000 ≤ b by omega) zO
 obtain ⟨x5, x6⟩ := mul_bd (b := 10000) r3 r4 (show -10000 ≤ a by omega) zO
 obtain ⟨x7, x8⟩ := mul_bd (b := 10000) x5 x6 (show -10000 ≤ a by omega) zO
 have m3 : m ≤ 1000000000000 := by omega
 have U1 : IntKind.i64.wrap (a * c) = a * c := by rw [IntKind.wrap_i64]; omega
 have U2 : IntKind.i64.wrap (b * b) = b * b := by rw [IntKind.wrap_i64]; omega
 have U3 : IntKind.i64.wrap (q * a) = q * a := by rw [IntKind.wrap_i64]; omega
 have U4 : IntKind.i64.wrap (q * a * a) = q * a * a := by rw [IntKind.wrap_i64]; omega
 have U5 : IntKind.i64.wrap (b * b - q * a * a) = b * b - q * a * a := by rw [IntKind.wrap_i64]; omega
 have HC := Lib.hid hc
 have HV := Lib.hid hv
 have HU := Lib.hid hu
 clear hc hv hu x1 x2 x3 x4 x5 x6 x7 x8
 go_enter Tryz.func215, Tryz.ntmps215
 go_wp2_with fail
 go_region_held3 (fun w' => w'.cell? ⟨w.heap.size, 0, none⟩ = some (.int .i64 a) ∧ w'.cell? ⟨w.heap.size, 1, none⟩ = some (.int .i64 b) ∧ w'.cell? ⟨w.heap.size + 1, 0, none⟩ = some (.int .i64 p) ∧ w'.cell? ⟨w.heap.size + 1, 1, none⟩ = some (.int .i64 q))
   (first | (go_split_ands; (repeat' apply And.intro) <;> (repeat (first | assumption | refine (set_other zO).trans ?_)); done) | go_keep | (go_split_ands; exact ⟨kx0, kx1, kx2, kx3⟩))
   ((first | (go_at_call 210; refine (second_at a b p q m r1 r2 h1 h2 a1 a2 b1 b2 c _ HC.out).mono ?_; rintro e w2 ⟨rfl, hh2⟩; have hz2 := hh2.size; (try simp at hz2); have ks0_0 := (hh2.cell (p := ⟨w.heap.size + 1 + 1, 0, none⟩) zo); have kg0_0 := (hh2.frozen (p := ⟨w.heap.size + 1 + 1, 0, none⟩) zo); have ks0_1 := (hh2.cell (p := ⟨w.heap.size + 1 + 1, 1, none⟩) zo); have kg0_1 := (hh2.frozen (p := ⟨w.heap.size + 1 + 1, 1, none⟩) zo); have kx0 := (hh2.cell (p := ⟨w.heap.size, 0, none⟩) zo); have kx1 := (hh2.cell (p := ⟨w.heap.size, 1, none⟩) zo); have kx2 := (hh2.cell (p := ⟨w.heap.size + 1, 0, none⟩) zo); have kx3 := (hh2.cell (p := ⟨w.heap.size + 1, 1, none⟩) zo)) | (go_at_call 183; refine (leftOf_at _ m _ _ h1 m3 rfl).mono ?_; rintro e w2 ⟨rfl, rfl⟩) | fail))
 go_wp2
 refine bodyPost_ret (v := pr (a * c % m) ((b * b - q * a * a) % m)) (by simp [results, Tryz.results215, go_sem, ks0_0, ks0_1]) rfl ⟨by rw [HV.out, HU.out], ?_⟩
 exact zb
set_option maxHeartbeats 400000 in
theorem leftAtStart_at (m : Int) (w : World) (h1 : 1 ≤ m) (h2 : m ≤ 10000) :
   Calls Tryz.prog 174 #[.int .i64 m] w fun e w' => e = .returned (pr 0 (1 % m)) ∧ Below w.heap.size w w' := by
 have m3 : m ≤ 1000000000000 := by omega
 go_enter Tryz.func174, Tryz.ntmps174
 go_wp2_with fail
 refine (leftOf_at 1 m _ _ h1 m3 rfl).mono ?_
 rintro e wx ⟨rfl, rfl⟩
 go_wp2
 refine bodyPost_ret (v := pr 0 (1 % m)) (by simp [results, Tryz.results174, go_sem]) rfl ⟨rfl, ?_⟩
 exact zb
end
section
open Go.RowKit Go.Shelf
attribute [local go_sem] Oper.semAt_some
theorem keepsOthers_below {W W' : World} (h : Below W.heap.size W W') : KeepsOthers W W' := ⟨h.size, fun j _ hj _ => (h.block j (Array.getElem?_eq_some_iff.1 hj).1).trans hj⟩
theorem cell_below {W W' : World} {a : Addr} {v : Value} (hb : Below W.heap.size W W') (h : W.cell? a = some v) : W'.cell? a = some v := (hb.cell (p := a) (World.block_lt_of_cell? W a h)).trans h
theorem frozen_below {W W' : World} {a : Addr} {v : Value} (hb : Below W.heap.size W W') (h : W.cell? a = some v) (hf : W.frozen? a = false) : W'.frozen? a = false := (hb.frozen (p := a) (World.block_lt_of_cell? W a h)).trans hf
def placeBy (k j : Nat) : Nat := k / 2 ^ (Lib.bitLen k - j)
theorem placeBy_zero (k : Nat) (hk : k ≤ 1000000000) : placeBy k 0 = 0 := Nat.div_eq_of_lt (bitLen_lt k hk)
theorem placeBy_all (k : Nat) : placeBy k (Lib.bitLen k) = k := by simp [placeBy]
theorem placeBy_succ (k j : Nat) (hj : j < Lib.bitLen k) : placeBy k (j + 1) = 2 * placeBy k j + (if bitB k j = true then 1 else 0) := by
 obtain ⟨g, hg⟩ : ∃ g, Lib.bitLen k = j + (g + 1) := ⟨Lib.bitLen k - j - 1, by omega⟩
 simp only [placeBy, bitB, hg, show j + (g + 1) - (j + 1) = g by omega, show j + (g + 1) - j = g + 1 by omega, show j + (g + 1) - 1 - j = g by omega, decide_eq_true_iff]
 rw [Nat.pow_succ, ← Nat.div_div_eq_div_mul]
 generalize k / 2 ^ g = z
 split <;> omega
theorem far_even' (p q m : Int) (k : Nat) : (row p q 0 1 (k + 1) % m * (row p q 0 1 (k + 1) % m) - q * (row p q 0 1 k % m) * (row p q 0 1 k % m)) % m = row p q 0 1 (2 * k + 1) % m := by
 refine Eqm.left ?_
 rw [show 2 * k + 1 = k + 1 + k by omega, ← row_add]
 exact ((eqm_left m _).mul (eqm_left m _)).sub (((Eqm.refl m q).mul (eqm_left m _)).mul (eqm_left m _))
def LeftBoxes (B S : Nat) (p q m : Int) (k : Nat) (W : World) : Prop :=
 (W.cell? ⟨B, 0, none⟩ = some (.int .i64 p) ∧ W.cell? ⟨B, 1, none⟩ = some (.int .i64 q) ∧ W.cell? ⟨B + 1, 0, none⟩ = some (.int .i64 m)) ∧
 (W.cell? ⟨B + 1 + 1, 0, none⟩ = some (.int .i64 0) ∧ W.cell? ⟨B + 1 + 1, 1, none⟩ = some (.int .i64 0) ∧ W.frozen? ⟨B + 1 + 1, 0, none⟩ = false ∧ W.frozen? ⟨B + 1 + 1, 1, none⟩ = false) ∧
 W.cell? ⟨S + 1, 0, none⟩ = some (.int .i64 k)
def StateIs (S : Nat) (x y : Int) (W : World) : Prop :=
 W.cell? ⟨S, 0, none⟩ = some (.int .i64 x) ∧ W.cell? ⟨S, 1, none⟩ = some (.int .i64 y) ∧ W.frozen? ⟨S, 0, none⟩ = false ∧ W.frozen? ⟨S, 1, none⟩ = false
theorem LeftBoxes.below {B S : Nat} {p q m : Int} {k : Nat} {W W' : World} (h : LeftBoxes B S p q m k W) (hb : Below W.heap.size W W') : LeftBoxes B S p q m k W' := by
 obtain ⟨⟨x1, x2, x3⟩, ⟨x4, x5, x6, x7⟩, x8⟩ := h
 exact ⟨⟨cell_below hb x1, cell_below hb x2, cell_below hb x3⟩, ⟨cell_below hb x4, cell_below hb x5, frozen_below hb x4 x6, frozen_below hb x5 x7⟩, cell_below hb x8⟩
theorem LeftBoxes.set {B S : Nat} {p q m : Int} {k : Nat} {W : World} (h : LeftBoxes B S p q m k W) (hS : B + 1 + 1 < S) (o : Nat) (v : Value) : LeftBoxes B S p q m k (W.setCell ⟨S, o, none⟩ v) := by
 obtain ⟨⟨x1, x2, x3⟩, ⟨x4, x5, x6, x7⟩, x8⟩ := h
 exact ⟨⟨(set_other zO).trans x1, (set_other zO).trans x2, (set_other zO).trans x3⟩, ⟨(set_other zO).trans x4, (set_other zO).trans x5, set_frozen x6, set_frozen x7⟩, (set_other zO).trans x8⟩
theorem LeftBoxes.kept {B S : Nat} {p q m : Int} {k : Nat} {A V : World} {row : Option Nat} (h : LeftBoxes B S p q m k A) (hg : A.grownBy V row) (hr : ∀ r, row = some r → ∃ o : Obj, A.heap[r]? = some o ∧ o.isCells = false) : LeftBoxes B S p q m k V := by
 obtain ⟨⟨x1, x2, x3⟩, ⟨x4, x5, x6, x7⟩, x8⟩ := h
 exact ⟨⟨cell_kept x1 hg hr, cell_kept x2 hg hr, cell_kept x3 hg hr⟩, ⟨cell_kept x4 hg hr, cell_kept x5 hg hr, (frozen_kept x4 hg hr).trans x6, (frozen_kept x5 hg hr).trans x7⟩, cell_kept x8 hg hr⟩
theorem StateIs.below {S : Nat} {x y : Int} {W W' : World} (h : StateIs S x y W) (hb : Below W.heap.size W W') : StateIs S x y W' :=
 ⟨cell_below hb h.1, cell_below hb h.2.1, frozen_below hb h.1 h.2.2.1, frozen_below hb h.2.1 h.2.2.2⟩
theorem StateIs.set {S : Nat} {x y : Int} {W : World} (h : StateIs S x y W) (x' y' : Int) : StateIs S x' y' ((W.setCell ⟨S, 0, none⟩ (.int .i64 x')).setCell ⟨S, 1, none⟩ (.int .i64 y')) :=
 ⟨(World.cell?_setCell_other _ ⟨S, 1, none⟩ ⟨S, 0, none⟩ _ (fun e => by injection e; omega)).trans (set_same h.1), set_same ((World.cell?_setCell_other _ ⟨S, 0, none⟩ ⟨S, 1, none⟩ _ (fun e => by injection e; omega)).trans h.2.1), set_frozen (set_frozen h.2.2.1), set_frozen (set_frozen h.2.2.2)⟩
theorem StateIs.kept {S : Nat} {x y : Int} {A V : World} {row : Option Nat} (h : StateIs S x y A) (hg : A.grownBy V row) (hr : ∀ r, row = some r → ∃ o : Obj, A.heap[r]? = some o ∧ o.isCells = false) : StateIs S x y V :=
 ⟨cell_kept h.1 hg hr, cell_kept h.2.1 hg hr, (frozen_kept h.1 hg hr).trans h.2.2.1, (frozen_kept h.2.1 hg hr).trans h.2.2.2⟩
set_option maxRecDepth 100000 in
set_option maxHeartbeats 4000000 in
theorem leftAt_at (p q m : Int) (k : Nat) (w : World) (hp : pairB p q = true) (h1 : 1 ≤ m) (h2 : m ≤ 10000) (hk : k ≤ 1000000000) :
   Calls Tryz.prog 189 #[pr p q, .int .i64 k, .int .i64 m] w fun e w' => e = .returned (pr (row p q 0 1 k % m) (row p q 0 1 (k + 1) % m)) ∧ Below w.heap.size w w' := by
 obtain ⟨⟨r1, r2⟩, r3, r4⟩ := pairB_true hp
 have HP := Lib.hid hp
 clear hp
 refine (callsIn_wide (n := 9)).1 ?_
 refine callsIn_of_wp_marks Tryz.func189 rfl trivial ?_ rfl
 simp only [Tryz.ntmps189, List.size_toArray, List.length_cons, List.length_nil, Nat.reduceAdd, Nat.reduceSub, Array.replicate_succ, Array.replicate_zero, List.push_toArray, List.append_toArray, List.nil_append, List.cons_append]
 gi_wp2_with fail
 refine ⟨trivial, (callsIn_wide.2 (leftAtStart_at m _ h1 h2)).mono ?_⟩
 rintro e w1 ⟨rfl, hh1⟩
 obtain ⟨hc1, hf1⟩ := bcell hh1
 have hz1 := hh1.size
 try simp only [World.size_alloc] at hz1
 have hz1_0 : w.heap.size < w1.heap.size := by omega
 have hz1_1 : w.heap.size + 1 < w1.heap.size := by omega
 have hz1_2 : w.heap.size + 1 + 1 < w1.heap.size := by omega
 have kb1_0_0 : w1.cell? ⟨w.heap.size, 0, none⟩ = some (.int .i64 p) := by go_simp
 have kf1_0_0 : w1.frozen? ⟨w.heap.size, 0, none⟩ = false := by go_simp
 have kb1_0_1 : w1.cell? ⟨w.heap.size, 1, none⟩ = some (.int .i64 q) := by go_simp
 have kf1_0_1 : w1.frozen? ⟨w.heap.size, 1, none⟩ = false := by go_simp
 have kb1_1_0 : w1.cell? ⟨w.heap.size + 1, 0, none⟩ = some (.int .i64 m) := by go_simp
 have kf1_1_0 : w1.frozen? ⟨w.heap.size + 1, 0, none⟩ = false := by go_simp
 have kb1_2_0 : w1.cell? ⟨w.heap.size + 1 + 1, 0, none⟩ = some (.int .i64 0) := by go_simp
 have kf1_2_0 : w1.frozen? ⟨w.heap.size + 1 + 1, 0, none⟩ = false := by go_simp
 have kb1_2_1 : w1.cell? ⟨w.heap.size + 1 + 1, 1, none⟩ = some (.int .i64 0) := by go_simp
 have kf1_2_1 : w1.frozen? ⟨w.heap.size + 1 + 1, 1, none⟩ = false := by go_simp
 clear hc1 hf1
 gi_wp2_with fail
 refine ⟨trivial, (callsIn_wide.2 (bitsOf_any _ _)).mono ?_⟩
 rintro e w2 ⟨rfl, rfl⟩
 gi_wp2_with fail
 refine wpIn_rangeFunc_counted (P := Tryz.prog) rfl zO (gf := 222) (lb := #[.pointer (some ⟨w1.heap.size + 1, 0, none⟩)]) rfl trivial (enters_of Tryz.func222 (by kernel_rfl) rfl)
   (bitsOf_counted 8 zO k (w1.heap.size + 1) _ hk) (Below.refl _ _) (fun _ => rfl)
   (fun j W => LeftBoxes w.heap.size w1.heap.size p q m k W ∧ StateIs w1.heap.size (row p q 0 1 (placeBy k j) % m) (row p q 0 1 (placeBy k j + 1) % m) W ∧ Below w.heap.size w W)
   (fun _ _ _ => False) ?own (fun _ _ _ _ _ h _ _ => h) (fun j V h => h.1.2.2) ?start
   (fun j => { tmps := #[pr p q, .int .i64 k, .int .i64 m, .pointer (some ⟨w.heap.size, 0, none⟩), undef, .pointer (some ⟨w.heap.size + 1, 0, none⟩), .pointer (some ⟨w.heap.size + 1 + 1, 0, none⟩), .pointer (some ⟨w1.heap.size, 0, none⟩), .bool (bitB k j), .int .i64 m, pr 0 (1 % m), .int .i64 k, .func (.func 222) #[] #[.pointer (some ⟨w1.heap.size + 1, 0, none⟩)], .bool (bitB k j), undef, undef, undef, undef, undef, undef, undef, undef, undef, undef], defers := [] })
   ?assign ?body ?done (fun _ _ _ _ _ _ h _ => h.elim)
 case own =>
   rintro j A V row ⟨x0, x1, x2⟩ hg hr
   have hr' := fun r e => (hr r e).2
   exact ⟨x0.kept hg hr', x1.kept hg hr', x2.grown hg x2.size (fun k e => by have := (hr k e).1; simp at this; omega)⟩
 case start =>
   have hB : Below w.heap.size w w1 := by
     exact zb
   have hL : Below w1.heap.size w1 ((w1.alloc (.cells #[.int .i64 0, .int .i64 (1 % m)] 183)).alloc (.cells #[.int .i64 k] 3)) := by
     exact zb
   have e0 := placeBy_zero k hk
   have z0 : row p q 0 1 0 % m = 0 := by simp [row]
   have z1 : row p q 0 1 (0 + 1) % m = 1 % m := by simp [row]
   rw [e0, z0, z1]
   refine ⟨⟨⟨cell_below hL kb1_0_0, cell_below hL kb1_0_1, cell_below hL kb1_1_0⟩, ⟨cell_below hL kb1_2_0, cell_below hL kb1_2_1, frozen_below hL kb1_2_0 kf1_2_0, frozen_below hL kb1_2_1 kf1_2_1⟩, by go_simp⟩, ⟨by go_simp, by go_simp, by go_simp, by go_simp⟩, ?_⟩
   exact hB.trans (hL.mono zO)
 case assign =>
   intro l j W K hK
   gi_wp2
   exact hK
 case body =>
   rintro l j W hj ⟨hbx, hst, hW⟩
   have hs := placeBy_succ k j hj
   obtain ⟨g, hg⟩ : ∃ g, placeBy k j = g := ⟨_, rfl⟩
   rw [hg] at hst hs
   clear hg
   obtain ⟨a1, a2⟩ := left_bd (row p q 0 1 g) m h1
   obtain ⟨b1, b2⟩ := left_bd (row p q 0 1 (g + 1)) m h1
   obtain ⟨d1, d2⟩ := left_bd (row p q 0 1 (2 * g)) m h1
   obtain ⟨e1, e2⟩ := left_bd (row p q 0 1 (2 * g + 1)) m h1
   have E1 := Lib.hid (far_even p q m g)
   have E2 := Lib.hid (far_even' p q m g)
   have E3 := Lib.hid (far_next p q m (2 * g))
   have HBX := Lib.hid hbx
   have HST := Lib.hid hst
   have HW := Lib.hid hW
   have HS := Lib.hid hs
   obtain ⟨⟨x1, x2, x3⟩, _, _⟩ := hbx
   obtain ⟨y1, y2, y3, y4⟩ := hst
   clear hW hs
   have hn0 : ¬ w.heap.size = w1.heap.size := by omega
   have hn1 : ¬ w.heap.size + 1 = w1.heap.size := by omega
   cases hbit : bitB k j with
   | false =>
     gi_wp2_with fail
     refine ⟨trivial, (CallsIn.inRound l (callsIn_wide.2 (doubled_at _ _ p q m r1 r2 r3 r4 h1 h2 a1 a2 b1 b2 _ _ _ _ rfl E1.out E2.out))).mono ?_⟩
     rintro e w2 ⟨rfl, hh2⟩
     have s2 := HST.out.below hh2
     obtain ⟨t1, t2, t3, t4⟩ := s2
     have s2 : StateIs w1.heap.size _ _ w2 := ⟨t1, t2, t3, t4⟩
     have q1 := cell_below hh2 x1
     have q2 := cell_below hh2 x2
     have q3 := cell_below hh2 x3
     have HH2 := Lib.hid hh2
     have S2 := Lib.hid s2
     clear hh2 s2
     gi_wp2
     refine ⟨(keepsOthers_below HH2.out).trans ((KeepsOthers.setCell _ _ _).trans (KeepsOthers.setCell _ _ _)), ((HBX.out.below HH2.out).set hz1_2 _ _).set hz1_2 _ _, ?_, ?_⟩
     · rw [HS.out, hbit]
       exact S2.out.set _ _
     · exact ((HW.out.trans (HH2.out.mono HW.out.size)).setCell (by show w.heap.size ≤ w1.heap.size; omega) _).setCell (by show w.heap.size ≤ w1.heap.size; omega) _
   | true =>
     gi_wp2_with fail
     refine ⟨trivial, (CallsIn.inRound l (callsIn_wide.2 (doubled_at _ _ p q m r1 r2 r3 r4 h1 h2 a1 a2 b1 b2 _ _ _ _ rfl E1.out E2.out))).mono ?_⟩
     rintro e w2 ⟨rfl, hh2⟩
     have s2 := HST.out.below hh2
     obtain ⟨t1, t2, t3, t4⟩ := s2
     have s2 : StateIs w1.heap.size _ _ w2 := ⟨t1, t2, t3, t4⟩
     have q1 := cell_below hh2 x1
     have q2 := cell_below hh2 x2
     have q3 := cell_below hh2 x3
     have HH2 := Lib.hid hh2
     have S2 := Lib.hid s2
     clear hh2 s2
     gi_wp2_with fail
     refine ⟨trivial, (CallsIn.inRound l (callsIn_wide.2 (goneOn_at _ _ p q m r1 r2 r3 r4 h1 h2 d1 d2 e1 e2 _ _ E3.out))).mono ?_⟩
     rintro e w3 ⟨rfl, hh3⟩
     have S3 := Lib.hid ((S2.out.set (row p q 0 1 (2 * g) % m) (row p q 0 1 (2 * g + 1) % m)).below hh3)
     obtain ⟨u1, u2, u3, u4⟩ := S3.out
     have HH3 := Lib.hid hh3
     clear hh3 t1 t2 t3 t4 q1 q2 q3
     gi_wp2
     refine ⟨(((keepsOthers_below HH2.out).trans ((KeepsOthers.setCell _ _ _).trans (KeepsOthers.setCell _ _ _))).trans (keepsOthers_below HH3.out)).trans ((KeepsOthers.setCell _ _ _).trans (KeepsOthers.setCell _ _ _)), ((((HBX.out.below HH2.out).set hz1_2 _ _).set hz1_2 _ _).below HH3.out |>.set hz1_2 _ _).set hz1_2 _ _, ?_, ?_⟩
     · rw [HS.out, hbit]
       exact S3.out.set _ _
     · have hb2 := ((HW.out.trans (HH2.out.mono HW.out.size)).setCell (p := ⟨w1.heap.size, 0, none⟩) (by show w.heap.size ≤ w1.heap.size; omega) (.int .i64 (row p q 0 1 (2 * g) % m))).setCell (p := ⟨w1.heap.size, 1, none⟩) (by show w.heap.size ≤ w1.heap.size; omega) (.int .i64 (row p q 0 1 (2 * g + 1) % m))
       exact ((hb2.trans (HH3.out.mono hb2.size)).setCell (by show w.heap.size ≤ w1.heap.size; omega) _).setCell (by show w.heap.size ≤ w1.heap.size; omega) _
 case done =>
   rintro D W hD ⟨hbx, hst, hW⟩ hK
   rw [placeBy_all] at hst
   obtain ⟨_, ⟨x4, x5, x6, x7⟩, _⟩ := hbx
   obtain ⟨y1, y2, y3, y4⟩ := hst
   have HK := Lib.hid hK
   have HW := Lib.hid hW
   have HD := Lib.hid hD
   clear hK hW hD
   gi_wp2
   have hK2 := ((KeepsOthers.setCell W ⟨w.heap.size + 1 + 1, 0, none⟩ (.int .i64 (row p q 0 1 k % m))).trans (KeepsOthers.setCell _ ⟨w.heap.size + 1 + 1, 1, none⟩ (.int .i64 (row p q 0 1 (k + 1) % m)))).same D _ HK.out rfl
   refine ⟨by simp, .inl ⟨_, _, rfl, run_takeDeferred hK2, ?_⟩⟩
   have z := (show StateIs (w.heap.size + 1 + 1) 0 0 W from ⟨x4, x5, x6, x7⟩).set (row p q 0 1 k % m) (row p q 0 1 (k + 1) % m)
   have z1 := cell_kept z.1 (grownBy_putObj' _ D (.deferred none)) (fun r e => by cases e; exact ⟨_, hK2, rfl⟩)
   have z2 := cell_kept z.2.1 (grownBy_putObj' _ D (.deferred none)) (fun r e => by cases e; exact ⟨_, hK2, rfl⟩)
   have hD' : w.heap.size ≤ D := by have := HD.out; simp at this; omega
   have hb2 := (HW.out.setCell (p := ⟨w.heap.size + 1 + 1, 0, none⟩) (by show w.heap.size ≤ w.heap.size + 1 + 1; omega) (.int .i64 (row p q 0 1 k % m))).setCell (p := ⟨w.heap.size + 1 + 1, 1, none⟩) (by show w.heap.size ≤ w.heap.size + 1 + 1; omega) (.int .i64 (row p q 0 1 (k + 1) % m))
   exact ⟨_, by simp [results, Tryz.results189, go_sem, z1, z2], rfl, hb2.grown (grownBy_putObj' _ D (.deferred none)) hb2.size (fun k e => by cases e; exact hD')⟩
end
section
def Again (p q m : Int) (d : Nat) : Prop := m ∣ row p q 0 1 d ∧ Eqm m (row p q 0 1 (d + 1)) 1
theorem again_iff {p q : Int} {m : Nat} {d : Nat} : (row p q 0 1 d % (m : Int) == 0 && row p q 0 1 (d + 1) % (m : Int) == 1 % (m : Int)) = true ↔ Again p q m d := by
 rw [Bool.and_eq_true, left_zero_iff, beq_iff_eq]
 exact ⟨fun h => ⟨h.1, eqm_left_eq h.2⟩, fun h => ⟨h.1, h.2.left⟩⟩
theorem periodN_spec {p q : Int} (m : Nat) (hm : 1 ≤ m) (h : Apart (m : Int) q) : Again p q m (periodN p q m) ∧ 1 ≤ periodN p q m ∧ periodN p q m ≤ m * m ∧ ∀ s, 1 ≤ s → s < periodN p q m → ¬ Again p q m s := by
 obtain ⟨d, h1, h2, h3, h4⟩ := comes_again (p := p) m hm h
 have hB : (fun r => row p q 0 1 r % (m : Int) == 0 && row p q 0 1 (r + 1) % (m : Int) == 1 % (m : Int)) d = true := again_iff.2 ⟨eqm_zero h3, h4⟩
 obtain ⟨a, b, c, e⟩ := findFrom_spec (fun r => row p q 0 1 r % (m : Int) == 0 && row p q 0 1 (r + 1) % (m : Int) == 1 % (m : Int)) (m * m) 1 d h1 zO hB
 refine ⟨again_iff.1 a, b, Nat.le_trans c h2, fun s s1 s2 hd => ?_⟩
 have := e s s1 s2
 simp only [again_iff.2 hd] at this
 cases this
end
section
open Go.RowKit
theorem leftAt_agg (p q m : Int) (k : Nat) (w : World) (hp : pairB p q = true) (h1 : 1 ≤ m) (h2 : m ≤ 10000) (hk : k ≤ 1000000000) :
   Calls Tryz.prog 189 #[pr p q, .int .i64 k, .int .i64 m] w fun e w' => e = .returned (.agg #[.int .i64 (row p q 0 1 k % m), .int .i64 (row p q 0 1 (k + 1) % m)]) ∧ Below w.heap.size w w' := leftAt_at p q m k w hp h1 h2 hk
set_option maxHeartbeats 4000000 in
theorem implFarFirst_any (p q n m : Int) (w : World) :
   Calls Tryz.prog 155 #[pr p q, .int .i64 n, .int .i64 m] w fun e w' => e = .returned (.int .i64 (farFirstV p q n m)) ∧ Below w.heap.size w w' := by
 cases h : farB p q n m with
 | true =>
   obtain ⟨hp, ⟨k, rfl, hk⟩, m1, m2⟩ := farB_true h
   obtain ⟨⟨r1, r2⟩, r3, r4⟩ := pairB_true hp
   have HV := Lib.hid (show farFirstV p q k m = row p q 0 1 k % m by rw [farFirstV, if_pos h]; rfl)
   have HA := Lib.hid (inB_mk (n := (k : Int)) (a := 0) (b := 1000000000) zO zO)
   have HB := Lib.hid (inB_mk (n := m) (a := 1) (b := 10000) m1 m2)
   have HP := Lib.hid hp
   obtain ⟨a0, a1⟩ := left_bd (row p q 0 1 k) m m1
   obtain ⟨b0, b1⟩ := left_bd (row p q 0 1 (k + 1)) m m1
   have E := Lib.hid (far_second p q m k)
   have hfd : ∀ (x y : Int) (w : World), (Instr.field 183 (.agg #[.int .i64 x, .int .i64 y]) 0).run Tryz.prog w = .ok (.int .i64 x) w := fun _ _ _ => by kernel_rfl
   rw [HV.out]
   clear hp h
   go_enter Tryz.func155, Tryz.ntmps155
   go_wp2_with fail
   refine (implPairOk_yes p q _ HP.out).mono ?_
   rintro e w1 ⟨rfl, hh1⟩
   obtain ⟨hc1, hf1⟩ := bcell hh1
   have hz1 := hh1.size
   try simp only [World.size_alloc] at hz1
   have hz1_0 : w.heap.size < w1.heap.size := by omega
   have kb1_0_0 : w1.cell? ⟨w.heap.size, 0, none⟩ = some (.int .i64 p) := by go_simp
   have kf1_0_0 : w1.frozen? ⟨w.heap.size, 0, none⟩ = false := by go_simp
   have kb1_0_1 : w1.cell? ⟨w.heap.size, 1, none⟩ = some (.int .i64 q) := by go_simp
   have kf1_0_1 : w1.frozen? ⟨w.heap.size, 1, none⟩ = false := by go_simp
   clear hc1 hf1
   go_wp2_with fail
   refine (farOk_is _ true _ HA.out).mono ?_
   rintro e wx ⟨rfl, rfl⟩
   go_wp2_with fail
   refine (byOk_is _ true _ HB.out).mono ?_
   rintro e wx ⟨rfl, rfl⟩
   go_wp2_with fail
   refine (leftAt_agg p q m k _ HP.out m1 m2 hk).mono ?_
   rintro e w2 ⟨rfl, hh2⟩
   obtain ⟨hc2, hf2⟩ := bcell hh2
   have hz2 := hh2.size
   try simp only [World.size_alloc] at hz2
   go_wp2
   go_ret
   exact ⟨rfl, by exact zb⟩
 | false =>
   have HV := Lib.hid (show farFirstV p q n m = -1 by rw [farFirstV, if_neg (by simp [h])])
   rw [HV.out]
   rcases farB_ways h with hp | ⟨hp, ha⟩ | ⟨hp, ha, hb⟩
   · have HP := Lib.hid hp
     clear hp h
     go_enter Tryz.func155, Tryz.ntmps155
     go_wp2_with fail
     refine (implPairOk_no p q _ HP.out).mono ?_
     rintro e w1 ⟨rfl, hh1⟩
     obtain ⟨hc1, hf1⟩ := bcell hh1
     have hz1 := hh1.size
     try simp only [World.size_alloc] at hz1
     have hz1_0 : w.heap.size < w1.heap.size := by omega
     have kb1_0_0 : w1.cell? ⟨w.heap.size, 0, none⟩ = some (.int .i64 p) := by go_simp
     have kf1_0_0 : w1.frozen? ⟨w.heap.size, 0, none⟩ = false := by go_simp
     have kb1_0_1 : w1.cell? ⟨w.heap.size, 1, none⟩ = some (.int .i64 q) := by go_simp
     have kf1_0_1 : w1.frozen? ⟨w.heap.size, 1, none⟩ = false := by go_simp
     clear hc1 hf1
     go_wp2
     go_ret
     exact ⟨rfl, by exact zb⟩
   · have HP := Lib.hid hp
     have HA := Lib.hid ha
     clear hp ha h
     go_enter Tryz.func155, Tryz.ntmps155
     go_wp2_with fail
     refine (implPairOk_yes p q _ HP.out).mono ?_
     rintro e w1 ⟨rfl, hh1⟩
     obtain ⟨hc1, hf1⟩ := bcell hh1
     have hz1 := hh1.size
     try simp only [World.size_alloc] at hz1
     have hz1_0 : w.heap.size < w1.heap.size := by omega
     have kb1_0_0 : w1.cell? ⟨w.heap.size, 0, none⟩ = some (.int .i64 p) := by go_simp
     have kf1_0_0 : w1.frozen? ⟨w.heap.size, 0, none⟩ = false := by go_simp
     have kb1_0_1 : w1.cell? ⟨w.heap.size, 1, none⟩ = some (.int .i64 q) := by go_simp
     have kf1_0_1 : w1.frozen? ⟨w.heap.size, 1, none⟩ = false := by go_simp
     clear hc1 hf1
     go_wp2_with fail
     refine (farOk_is n false _ HA.out).mono ?_
     rintro e wx ⟨rfl, rfl⟩
     go_wp2
     go_ret
     exact ⟨rfl, by exact zb⟩
   · have HP := Lib.hid hp
     have HA := Lib.hid ha
     have HB := Lib.hid hb
     clear hp ha hb h
     go_enter Tryz.func155, Tryz.ntmps155
     go_wp2_with fail
     refine (implPairOk_yes p q _ HP.out).mono ?_
     rintro e w1 ⟨rfl, hh1⟩
     obtain ⟨hc1, hf1⟩ := bcell hh1
     have hz1 := hh1.size
     try simp only [World.size_alloc] at hz1
     have hz1_0 : w.heap.size < w1.heap.size := by omega
     have kb1_0_0 : w1.cell? ⟨w.heap.size, 0, none⟩ = some (.int .i64 p) := by go_simp
     have kf1_0_0 : w1.frozen? ⟨w.heap.size, 0, none⟩ = false := by go_simp
     have kb1_0_1 : w1.cell? ⟨w.heap.size, 1, none⟩ = some (.int .i64 q) := by go_simp
     have kf1_0_1 : w1.frozen? ⟨w.heap.size, 1, none⟩ = false := by go_simp
     clear hc1 hf1
     go_wp2_with fail
     refine (farOk_is n true _ HA.out).mono ?_
     rintro e wx ⟨rfl, rfl⟩
     go_wp2_with fail
     refine (byOk_is m false _ HB.out).mono ?_
     rintro e wx ⟨rfl, rfl⟩
     go_wp2
     go_ret
     exact ⟨rfl, by exact zb⟩
set_option maxHeartbeats 4000000 in
theorem implFarSecond_any (p q n m : Int) (w : World) :
   Calls Tryz.prog 182 #[pr p q, .int .i64 n, .int .i64 m] w fun e w' => e = .returned (.int .i64 (farSecondV p q n m)) ∧ Below w.heap.size w w' := by
 cases h : farB p q n m with
 | true =>
   obtain ⟨hp, ⟨k, rfl, hk⟩, m1, m2⟩ := farB_true h
   obtain ⟨⟨r1, r2⟩, r3, r4⟩ := pairB_true hp
   have HV := Lib.hid (show farSecondV p q k m = row p q 2 p k % m by rw [farSecondV, if_pos h]; rfl)
   have HA := Lib.hid (inB_mk (n := (k : Int)) (a := 0) (b := 1000000000) zO zO)
   have HB := Lib.hid (inB_mk (n := m) (a := 1) (b := 10000) m1 m2)
   have HP := Lib.hid hp
   obtain ⟨a0, a1⟩ := left_bd (row p q 0 1 k) m m1
   obtain ⟨b0, b1⟩ := left_bd (row p q 0 1 (k + 1)) m m1
   have E := Lib.hid (far_second p q m k)
   have hfd : ∀ (x y : Int) (w : World), (Instr.field 183 (.agg #[.int .i64 x, .int .i64 y]) 0).run Tryz.prog w = .ok (.int .i64 x) w := fun _ _ _ => by kernel_rfl
   rw [HV.out]
   clear hp h
   go_enter Tryz.func182, Tryz.ntmps182
   go_wp2_with fail
   refine (implPairOk_yes p q _ HP.out).mono ?_
   rintro e w1 ⟨rfl, hh1⟩
   obtain ⟨hc1, hf1⟩ := bcell hh1
   have hz1 := hh1.size
   try simp only [World.size_alloc] at hz1
   have hz1_0 : w.heap.size < w1.heap.size := by omega
   have kb1_0_0 : w1.cell? ⟨w.heap.size, 0, none⟩ = some (.int .i64 p) := by go_simp
   have kf1_0_0 : w1.frozen? ⟨w.heap.size, 0, none⟩ = false := by go_simp
   have kb1_0_1 : w1.cell? ⟨w.heap.size, 1, none⟩ = some (.int .i64 q) := by go_simp
   have kf1_0_1 : w1.frozen? ⟨w.heap.size, 1, none⟩ = false := by go_simp
   clear hc1 hf1
   go_wp2_with fail
   refine (farOk_is _ true _ HA.out).mono ?_
   rintro e wx ⟨rfl, rfl⟩
   go_wp2_with fail
   refine (byOk_is _ true _ HB.out).mono ?_
   rintro e wx ⟨rfl, rfl⟩
   go_wp2_with fail
   go_region_held3 (fun w' => w'.cell? ⟨w.heap.size, 0, none⟩ = some (.int .i64 p) ∧ w'.cell? ⟨w.heap.size, 1, none⟩ = some (.int .i64 q))
     (first | go_keep | (go_split_ands; exact ⟨kx0, kx1⟩))
     ((first | (go_at_call 189; refine (leftAt_agg p q m k _ HP.out m1 m2 hk).mono ?_; rintro e w2 ⟨rfl, hh2⟩; have hz2 := hh2.size; (try simp at hz2); have kx0 := (hh2.cell (p := ⟨w.heap.size, 0, none⟩) zo); have kx1 := (hh2.cell (p := ⟨w.heap.size, 1, none⟩) zo)) | (go_at_call 210; refine (second_at _ _ p q m r1 r2 m1 m2 a0 a1 b0 b1 _ _ E.out).mono ?_; rintro e w2 ⟨rfl, hh2⟩; have hz2 := hh2.size; (try simp at hz2); have kx0 := (hh2.cell (p := ⟨w.heap.size, 0, none⟩) zo); have kx1 := (hh2.cell (p := ⟨w.heap.size, 1, none⟩) zo)) | fail))
   go_wp2
   go_ret
   exact ⟨rfl, by exact zb⟩
 | false =>
   have HV := Lib.hid (show farSecondV p q n m = -1 by rw [farSecondV, if_neg (by simp [h])])
   rw [HV.out]
   rcases farB_ways h with hp | ⟨hp, ha⟩ | ⟨hp, ha, hb⟩
   · have HP := Lib.hid hp
     clear hp h
     go_enter Tryz.func182, Tryz.ntmps182
     go_wp2_with fail
     refine (implPairOk_no p q _ HP.out).mono ?_
     rintro e w1 ⟨rfl, hh1⟩
     obtain ⟨hc1, hf1⟩ := bcell hh1
     have hz1 := hh1.size
     try simp only [World.size_alloc] at hz1
     have hz1_0 : w.heap.size < w1.heap.size := by omega
     have kb1_0_0 : w1.cell? ⟨w.heap.size, 0, none⟩ = some (.int .i64 p) := by go_simp
     have kf1_0_0 : w1.frozen? ⟨w.heap.size, 0, none⟩ = false := by go_simp
     have kb1_0_1 : w1.cell? ⟨w.heap.size, 1, none⟩ = some (.int .i64 q) := by go_simp
     have kf1_0_1 : w1.frozen? ⟨w.heap.size, 1, none⟩ = false := by go_simp
     clear hc1 hf1
     go_wp2
     go_ret
     exact ⟨rfl, by exact zb⟩
   · have HP := Lib.hid hp
     have HA := Lib.hid ha
     clear hp ha h
     go_enter Tryz.func182, Tryz.ntmps182
     go_wp2_with fail
     refine (implPairOk_yes p q _ HP.out).mono ?_
     rintro e w1 ⟨rfl, hh1⟩
     obtain ⟨hc1, hf1⟩ := bcell hh1
     have hz1 := hh1.size
     try simp only [World.size_alloc] at hz1
     have hz1_0 : w.heap.size < w1.heap.size := by omega
     have kb1_0_0 : w1.cell? ⟨w.heap.size, 0, none⟩ = some (.int .i64 p) := by go_simp
     have kf1_0_0 : w1.frozen? ⟨w.heap.size, 0, none⟩ = false := by go_simp
     have kb1_0_1 : w1.cell? ⟨w.heap.size, 1, none⟩ = some (.int .i64 q) := by go_simp
     have kf1_0_1 : w1.frozen? ⟨w.heap.size, 1, none⟩ = false := by go_simp
     clear hc1 hf1
     go_wp2_with fail
     refine (farOk_is n false _ HA.out).mono ?_
     rintro e wx ⟨rfl, rfl⟩
     go_wp2
     go_ret
     exact ⟨rfl, by exact zb⟩
   · have HP := Lib.hid hp
     have HA := Lib.hid ha
     have HB := Lib.hid hb
     clear hp ha hb h
     go_enter Tryz.func182, Tryz.ntmps182
     go_wp2_with fail
     refine (implPairOk_yes p q _ HP.out).mono ?_
     rintro e w1 ⟨rfl, hh1⟩
     obtain ⟨hc1, hf1⟩ := bcell hh1
     have hz1 := hh1.size
     try simp only [World.size_alloc] at hz1
     have hz1_0 : w.heap.size < w1.heap.size := by omega
     have kb1_0_0 : w1.cell? ⟨w.heap.size, 0, none⟩ = some (.int .i64 p) := by go_simp
     have kf1_0_0 : w1.frozen? ⟨w.heap.size, 0, none⟩ = false := by go_simp
     have kb1_0_1 : w1.cell? ⟨w.heap.size, 1, none⟩ = some (.int .i64 q) := by go_simp
     have kf1_0_1 : w1.frozen? ⟨w.heap.size, 1, none⟩ = false := by go_simp
     clear hc1 hf1
     go_wp2_with fail
     refine (farOk_is n true _ HA.out).mono ?_
     rintro e wx ⟨rfl, rfl⟩
     go_wp2_with fail
     refine (byOk_is m false _ HB.out).mono ?_
     rintro e wx ⟨rfl, rfl⟩
     go_wp2
     go_ret
     exact ⟨rfl, by exact zb⟩
end
section
open Go.RowKit Go.Shelf
attribute [local go_sem] Oper.semAt_some
def PowBoxes (B b c H : Nat) (a m x : Int) (k : Nat) (W : World) : Prop :=
 W.cell? ⟨B, 0, none⟩ = some (.int .i64 m) ∧ W.cell? ⟨b, 0, none⟩ = some (.int .i64 (a % m)) ∧ (W.cell? ⟨c, 0, none⟩ = some (.int .i64 x) ∧ W.frozen? ⟨c, 0, none⟩ = false) ∧ W.cell? ⟨H, 0, none⟩ = some (.int .i64 k)
theorem PowBoxes.set {B b c H : Nat} {a m x : Int} {k : Nat} {W : World} (h : PowBoxes B b c H a m x k W) (h1 : B ≠ c) (h2 : b ≠ c) (h3 : H ≠ c) (y : Int) : PowBoxes B b c H a m y k (W.setCell ⟨c, 0, none⟩ (.int .i64 y)) :=
 ⟨(set_other h1).trans h.1, (set_other h2).trans h.2.1, ⟨set_same h.2.2.1.1, set_frozen h.2.2.1.2⟩, (set_other h3).trans h.2.2.2⟩
theorem PowBoxes.kept {B b c H : Nat} {a m x : Int} {k : Nat} {A V : World} {row : Option Nat} (h : PowBoxes B b c H a m x k A) (hg : A.grownBy V row) (hr : ∀ r, row = some r → ∃ o : Obj, A.heap[r]? = some o ∧ o.isCells = false) : PowBoxes B b c H a m x k V :=
 ⟨cell_kept h.1 hg hr, cell_kept h.2.1 hg hr, ⟨cell_kept h.2.2.1.1 hg hr, (frozen_kept h.2.2.1.1 hg hr).trans h.2.2.1.2⟩, cell_kept h.2.2.2 hg hr⟩
end
section
open Go.RowKit Go.Shelf
def ListIs (G n j : Nat) (f : Nat → Int) (W : World) : Prop :=
 (∀ x, x < j → W.cell? ⟨G, x, none⟩ = some (.int .i64 (f x))) ∧ (∀ x, j ≤ x → x < n → W.cell? ⟨G, x, none⟩ = some (.int .i64 0)) ∧ (∀ x, x < n → W.frozen? ⟨G, x, none⟩ = false)
theorem ListIs.at {G n j : Nat} {f : Nat → Int} {W : World} (h : ListIs G n j f W) (hj : j < n) : W.cell? ⟨G, j, none⟩ = some (.int .i64 0) ∧ W.frozen? ⟨G, j, none⟩ = false := ⟨h.2.1 j (Nat.le_refl _) hj, h.2.2 j hj⟩
theorem ListIs.set {G n j : Nat} {f : Nat → Int} {W : World} (h : ListIs G n j f W) (hj : j < n) (v : Int) (hv : v = f j) : ListIs G n (j + 1) f (W.setCell ⟨G, j, none⟩ (.int .i64 v)) := by
 subst hv
 refine ⟨fun x hx => ?_, fun x h1 h2 => ?_, fun x hx => ?_⟩
 · by_cases e : x = j
   · subst e; exact set_same (h.at hj).1
   · exact (World.cell?_setCell_other _ ⟨G, j, none⟩ ⟨G, x, none⟩ _ (fun e' => by injection e'; omega)).trans (h.1 x zO)
 · exact (World.cell?_setCell_other _ ⟨G, j, none⟩ ⟨G, x, none⟩ _ (fun e' => by injection e'; omega)).trans (h.2.1 x zO h2)
 · exact set_frozen (h.2.2 x hx)
theorem ListIs.other {G n j S o : Nat} {f : Nat → Int} {W : World} {v : Value} (h : ListIs G n j f W) (hS : G ≠ S) : ListIs G n j f (W.setCell ⟨S, o, none⟩ v) :=
 ⟨fun x hx => (set_other hS).trans (h.1 x hx), fun x h1 h2 => (set_other hS).trans (h.2.1 x h1 h2), fun x hx => set_frozen (h.2.2 x hx)⟩
theorem ListIs.below {G n j : Nat} {f : Nat → Int} {W W' : World} (h : ListIs G n j f W) (hb : Below W.heap.size W W') (hG : G < W.heap.size) : ListIs G n j f W' :=
 ⟨fun x hx => (hb.cell (p := ⟨G, x, none⟩) hG).trans (h.1 x hx), fun x h1 h2 => (hb.cell (p := ⟨G, x, none⟩) hG).trans (h.2.1 x h1 h2), fun x hx => (hb.frozen (p := ⟨G, x, none⟩) hG).trans (h.2.2 x hx)⟩
end
section
open Go.RowKit
def four (v a b c d : Int) : Int := if v / 2 = 0 then a else if v / 2 = 1 then b else if v / 2 = 2 then c else d
theorem four_get (v a b c d : Int) (h0 : 0 ≤ v) (h1 : v ≤ 7) : (#[.int .i64 a, .int .i64 b, .int .i64 c, .int .i64 d] : Array Value)[(v / 2).toNat]? = some (.int .i64 (four v a b c d)) := by
 rcases (show v / 2 = 0 ∨ v / 2 = 1 ∨ v / 2 = 2 ∨ v / 2 = 3 by omega) with e | e | e | e <;> simp [four, e]
theorem four_at (v a b c d : Int) (h : (v / 2).toNat < [Value.int .i64 a, Value.int .i64 b, Value.int .i64 c, Value.int .i64 d].length) (h0 : 0 ≤ v) (h1 : v ≤ 7) : [Value.int .i64 a, Value.int .i64 b, Value.int .i64 c, Value.int .i64 d][(v / 2).toNat]'h = .int .i64 (four v a b c d) := by
 have e := four_get v a b c d h0 h1
 rw [Array.getElem?_eq_some_iff] at e
 obtain ⟨_, e⟩ := e
 simpa using e
end
section
def fibT : List Nat := [0, 1, 1, 2, 3, 5, 8, 13, 21, 34, 55, 89, 144, 233, 377, 610, 987, 1597, 2584, 4181, 6765, 10946, 17711, 28657, 46368]
def fibN (k : Nat) : Nat := fibT.getD k 0
theorem fibN_row : ∀ k, k < 25 → row 1 (-1) 0 1 k = (fibN k : Int) := by decide +kernel
theorem fibN_next : ∀ k, k < 23 → fibN (k + 2) = fibN (k + 1) + fibN k := by decide +kernel
def zeckFrom : Nat → Nat → List Nat
 | 0, _ => []
 | 1, _ => []
 | k + 2, n => if 0 < n ∧ fibN (k + 2) ≤ n then (k + 2) :: zeckFrom (k + 1) (n - fibN (k + 2)) else zeckFrom (k + 1) n
def zeck (n : Nat) : List Nat := zeckFrom 20 n
def sumAt (L : List Nat) (d : Nat) : Nat := (L.map fun x => fibN (x + d)).foldl (· + ·) 0
def circN (a b : Nat) : Nat := match zeck b with
 | M => ((zeck a).map fun x => sumAt M x).foldl (· + ·) 0
end
section
open Go.RowKit
variable {P : Program} {ops : Array Oper} {Q : Exit → Act → World → Prop} {md : Region.Mode}
def Slots (ops : Array Oper) (a0 : Act) (PP : Nat → Value → World → Prop) (listed : Array Bool) (a : Act) (w : World) : Prop :=
 a.defers = a0.defers ∧ a.tmps.size = a0.tmps.size ∧ (∀ t, (∀ (i : Nat) (o : Oper), ops[i]? = some o → o.dst ≠ some t) → a.eval (.tmp t) = a0.eval (.tmp t)) ∧
 (∀ (i : Nat) (o : Oper) (d : Nat), ops[i]? = some o → o.dst = some d → listed.getD i false = true → PP i (a.eval (.tmp d)) w)
theorem getD_set_self {l : Array Bool} {i : Nat} (h : l.getD i true = false) : (l.setIfInBounds i true).getD i false = true := by
 rcases Nat.lt_or_ge i l.size with h1 | h1
 · simp [Array.getD_eq_getD_getElem?, h1]
 · simp [Array.getD_eq_getD_getElem?, Array.getElem?_eq_none h1] at h
theorem getD_set_other {l : Array Bool} {i j : Nat} (x : Bool) (h : i ≠ j) : (l.setIfInBounds i true).getD j x = l.getD j x := by
 simp [Array.getD_eq_getD_getElem?, Array.getElem?_setIfInBounds_ne h]
theorem Slots.put {a0 a : Act} {PP : Nat → Value → World → Prop} {listed : Array Bool} {w w' : World} {i : Nat} {o : Oper} {d : Nat} {v : Value}
   (h : Slots ops a0 PP listed a w) (hi : ops[i]? = some o) (hd : o.dst = some d) (hl : listed.getD i true = false) (hb : d < a0.tmps.size)
   (hdis : ∀ (i j : Nat) (oi oj : Oper) (d : Nat), ops[i]? = some oi → ops[j]? = some oj → oi.dst = some d → oj.dst = some d → i = j)
   (hmono : ∀ j u, PP j u w → PP j u w') (hv : PP i v w') : Slots ops a0 PP (listed.setIfInBounds i true) (a.put (some d) v) w' := by
 obtain ⟨h1, h2, h3, h4⟩ := h
 refine ⟨h1, by simpa [Act.put] using h2, fun t ht => ?_, fun j oj dj hj hdj hlj => ?_⟩
 · rw [Act.eval_put_ne _ _ _ _ (fun e => ht i o hi (by rw [hd, e]))]; exact h3 t ht
 · by_cases hij : j = i
   · subst hij
     rw [hi] at hj
     cases hj
     rw [hd] at hdj
     cases hdj
     rw [Act.eval_put_same _ _ _ (by rw [h2]; exact hb)]
     exact hv
   · rw [Act.eval_put_ne _ _ _ _ (fun e => hij (hdis j i oj o dj hj hi hdj (by rw [hd, e])))]
     rw [getD_set_other _ (fun e => hij e.symm)] at hlj
     exact hmono _ _ (h4 j oj dj hj hdj hlj)
theorem op_value {i : Nat} {o : Oper} {v : Value} {a : Act} {w w' : World} {K : Act → World → Prop} (hi : ops[i]? = some o) (hg : o.guard = none) (hv : ∀ ev : Operand → Value, (∀ t, ev (.tmp t) = a.eval (.tmp t)) → (∀ c, ev (.const c) = c) → (∀ f, ev (.func f) = .func (.func f) #[] #[]) → (execOp ev o).run P w = .ok (.value v) w') (hk : K (a.put o.dst v) w') : wpOp P ops Q i K a w := by
 unfold wpOp
 simp only [hi]
 rw [if_pos (by simp [Region.wanted, hg])]
 left
 unfold Oper.wp
 rw [hv a.eval (fun _ => rfl) (fun _ => rfl) (fun _ => rfl)]; exact hk
theorem op_enter {i : Nat} {o : Oper} {f : FuncId} {args : Array Value} {a : Act} {w w' : World} {K : Act → World → Prop} (hi : ops[i]? = some o) (hg : o.guard = none) (hv : ∀ ev : Operand → Value, (∀ t, ev (.tmp t) = a.eval (.tmp t)) → (∀ c, ev (.const c) = c) → (∀ f, ev (.func f) = .func (.func f) #[] #[]) → (execOp ev o).run P w = .ok (.enter f args) w')
   (hk : Calls P f args w' fun e w'' => ∃ v, e = .returned v ∧ K (a.put o.dst v) w'') : wpOp P ops Q i K a w := by
 unfold wpOp
 simp only [hi]
 rw [if_pos (by simp [Region.wanted, hg])]
 left
 unfold Oper.wp
 rw [hv a.eval (fun _ => rfl) (fun _ => rfl) (fun _ => rfl)]
 refine Calls.mono hk ?_
 rintro e w'' ⟨v, rfl, h⟩
 exact h
theorem ready_all (h : ∀ (i : Nat) (o : Oper), ops[i]? = some o → ∀ e ∈ o.after, Region.binds md e = true → e.on < i) (l : Array Bool) (hl : l.size = ops.size) (hr : Region.ready md ops l = []) : ∀ i, i < ops.size → l.getD i false = true := by
 intro i
 induction i using Nat.strongRecOn with
 | ind i ih =>
   intro hi
   cases hx : l.getD i false with
   | true => rfl
   | false =>
     exfalso
     have hil : i < l.size := by omega
     have ho : ops[i]? = some ops[i] := by simp [hi]
     have hm : i ∈ Region.ready md ops l := mem_ready.2 ⟨by simpa [Array.getD_eq_getD_getElem?, hil] using hx, ops[i], ho, fun e he hbd => ih e.on (h i _ ho e he hbd) (by have := h i _ ho e he hbd; omega)⟩
     rw [hr] at hm; cases hm
def okB (ops : Array Oper) (n : Nat) : Bool := ops.toList.all fun o => match o.dst with | some d => decide (d < n) | none => true
def okBack (ops : Array Oper) : Bool := (List.range ops.size).all fun i => match ops[i]? with | some o => o.after.toList.all fun e => !Region.binds .any e || decide (e.on < i) | none => true
def noDst (ops : Array Oper) (t : Nat) : Bool := ops.toList.all fun o => o.dst != some t
theorem b_of {n : Nat} (h : okB ops n = true) : ∀ (i : Nat) (o : Oper) (d : Nat), ops[i]? = some o → o.dst = some d → d < n := by
 intro i o d hi hd
 rw [okB, List.all_eq_true] at h
 have := h o (by obtain ⟨h1, e⟩ := Array.getElem?_eq_some_iff.1 hi; rw [← e]; simp)
 rw [hd] at this
 simpa using this
theorem back_of (h : okBack ops = true) : ∀ (i : Nat) (o : Oper), ops[i]? = some o → ∀ e ∈ o.after, Region.binds .any e = true → e.on < i := by
 intro i o hi e he hbd
 rw [okBack, List.all_eq_true] at h
 have h2 := h i (List.mem_range.2 (Array.getElem?_eq_some_iff.1 hi).1)
 rw [hi] at h2
 simp only [List.all_eq_true] at h2
 simpa [hbd] using h2 e (by simpa using he)
theorem noDst_of {t : Nat} (h : noDst ops t = true) : ∀ (i : Nat) (o : Oper), ops[i]? = some o → o.dst ≠ some t := by
 intro i o hi e
 rw [noDst, List.all_eq_true] at h
 have := h o (by obtain ⟨h1, e⟩ := Array.getElem?_eq_some_iff.1 hi; rw [← e]; simp)
 rw [e] at this
 simp at this
end
section
open Go.RowKit
variable {P : Program} {ops : Array Oper} {Q : Exit → Act → World → Prop} {md : Region.Mode}
theorem Slots.none {a0 a : Act} {PP : Nat → Value → World → Prop} {listed : Array Bool} {w w' : World} {i : Nat} {o : Oper}
   (h : Slots ops a0 PP listed a w) (hi : ops[i]? = some o) (hd : o.dst = none) (hmono : ∀ j u, PP j u w → PP j u w') : Slots ops a0 PP (listed.setIfInBounds i true) a w' := by
 obtain ⟨h1, h2, h3, h4⟩ := h
 refine ⟨h1, h2, h3, fun j oj dj hj hdj hlj => ?_⟩
 by_cases hij : j = i
 · subst hij
   rw [hi] at hj
   cases hj
   rw [hd] at hdj
   cases hdj
 · rw [getD_set_other _ (fun e => hij e.symm)] at hlj
   exact hmono _ _ (h4 j oj dj hj hdj hlj)
theorem wpAny_stores {a0 : Act} {PP : Nat → Value → World → Prop} {Grow : World → World → Prop} {G : Array Bool → World → Prop}
   (hdis : ∀ (i j : Nat) (oi oj : Oper) (d : Nat), ops[i]? = some oi → ops[j]? = some oj → oi.dst = some d → oj.dst = some d → i = j)
   (hb : ∀ (i : Nat) (o : Oper) (d : Nat), ops[i]? = some o → o.dst = some d → d < a0.tmps.size)
   (hmono : ∀ j u w w', Grow w w' → PP j u w → PP j u w')
   (hstep : ∀ (i : Nat) (o : Oper), ops[i]? = some o → ∀ listed a w, Slots ops a0 PP listed a w → G listed w → (∀ e ∈ o.after, Region.binds md e = true → listed.getD e.on false = true) → listed.getD i true = false →
     wpOp P ops Q i (fun a' w' => ((∃ v d, o.dst = some d ∧ a' = a.put (some d) v ∧ PP i v w') ∨ (o.dst = none ∧ a' = a)) ∧ Grow w w' ∧ G (listed.setIfInBounds i true) w') a w)
   (hend : ∀ listed a w, (∀ i, i < ops.size → listed.getD i false = true) → Slots ops a0 PP listed a w → G listed w → Q .normal a w) :
   ∀ fuel listed a w, listed.size = ops.size → listed.toList.count false ≤ fuel → (Region.ready md ops listed = [] → ∀ i, i < ops.size → listed.getD i false = true) →
     (∀ l : Array Bool, l.size = ops.size → Region.ready md ops l = [] → ∀ i, i < ops.size → l.getD i false = true) →
     Slots ops a0 PP listed a w → G listed w → wpAny P md ops Q fuel listed a w
 | 0, listed, a, w, hs, hc, hr0, hr, hS, hG => by
   have hall : ∀ i, i < ops.size → listed.getD i false = true := fun i hi => by
     have h0 : listed.toList.count false = 0 := by omega
     rw [List.count_eq_zero] at h0
     have hi' : i < listed.size := by omega
     have e : listed.getD i false = listed[i] := by simp [Array.getD_eq_getD_getElem?, hi']
     rw [e]
     cases hx : listed[i] with
     | true => rfl
     | false => exact absurd (by rw [← hx]; simp) h0
   refine ⟨?_, hend _ _ _ hall hS hG⟩
   rw [List.eq_nil_iff_forall_not_mem]
   intro i hi
   obtain ⟨h1, o, ho, _⟩ := mem_ready.1 hi
   have hi' : i < ops.size := (Array.getElem?_eq_some_iff.1 ho).1
   have h2 := hall i hi'
   have hil : i < listed.size := by omega
   simp [Array.getD_eq_getD_getElem?, hil] at h1 h2
   rw [h1] at h2; cases h2
 | fuel + 1, listed, a, w, hs, hc, hr0, hr, hS, hG => by
   refine ⟨fun h => hend _ _ _ (hr0 h) hS hG, fun i hi => ?_⟩
   obtain ⟨h1, o, ho, hall⟩ := mem_ready.1 hi
   refine wpOp_mono ?_ (hstep i o ho listed a w hS hG hall h1)
   rintro a' w' ⟨hpu, hg, hG'⟩
   have hS' : Slots ops a0 PP (listed.setIfInBounds i true) a' w' := by
     rcases hpu with ⟨v, d, hd, rfl, hv⟩ | ⟨hd, rfl⟩
     · exact hS.put ho hd h1 (hb i o d ho hd) hdis (fun j u => hmono j u w w' hg) hv
     · exact hS.none ho hd (fun j u => hmono j u w w' hg)
   have hil : i < listed.size := by rw [hs]; exact (Array.getElem?_eq_some_iff.1 ho).1
   refine wpAny_stores hdis hb hmono hstep hend fuel _ _ _ (by simpa using hs) ?_ (hr _ (by simpa using hs)) hr hS' hG'
   have e : listed[i] = false := by simpa [Array.getD_eq_getD_getElem?, hil] using h1
   rw [Array.toList_setIfInBounds, List.count_set (by simpa using hil)]
   have : 0 < listed.toList.count false := List.count_pos_iff.2 (by rw [← e]; simp)
   rw [if_pos (by simp [e]), if_neg (by simp)]
   omega
theorem wp_region_stores {id : Nat} {a0 : Act} {w : World} {PP : Nat → Value → World → Prop} {Grow : World → World → Prop} {G : Array Bool → World → Prop} (hm : P.follows .mixedOrders = true)
   (hdis : ∀ (i j : Nat) (oi oj : Oper) (d : Nat), ops[i]? = some oi → ops[j]? = some oj → oi.dst = some d → oj.dst = some d → i = j)
   (hb : ∀ (i : Nat) (o : Oper) (d : Nat), ops[i]? = some o → o.dst = some d → d < a0.tmps.size) (hback : ∀ (i : Nat) (o : Oper), ops[i]? = some o → ∀ e ∈ o.after, Region.binds .any e = true → e.on < i)
   (hmono : ∀ j u w w', Grow w w' → PP j u w → PP j u w') (hG0 : G (Array.replicate ops.size false) { w with drawn := w.drawn + 1 })
   (hstep : ∀ (i : Nat) (o : Oper), ops[i]? = some o → ∀ listed a w, Slots ops a0 PP listed a w → G listed w → (∀ e ∈ o.after, Region.binds .any e = true → listed.getD e.on false = true) → listed.getD i true = false →
     wpOp P ops Q i (fun a' w' => ((∃ v d, o.dst = some d ∧ a' = a.put (some d) v ∧ PP i v w') ∨ (o.dst = none ∧ a' = a)) ∧ Grow w w' ∧ G (listed.setIfInBounds i true) w') a w)
   (hend : ∀ listed a w, (∀ i, i < ops.size → listed.getD i false = true) → Slots ops a0 PP listed a w → G listed w → Q .normal a w) : (Code.region id ops true).wp P Q a0 w := by
 have hr := fun l hl => ready_all (md := .any) hback l hl
 refine wp_region_any hm (wpAny_stores (md := .any) hdis hb hmono hstep hend _ _ _ _ (by simp) (by simp) (hr _ (by simp)) hr ⟨rfl, rfl, fun _ _ => rfl, fun i o d _ _ h => ?_⟩ hG0)
 simp [Array.getD_eq_getD_getElem?, Array.getElem?_replicate] at h
 split at h <;> simp at h
theorem op_store {i : Nat} {o : Oper} {a : Act} {w w' : World} {K : Act → World → Prop} (hi : ops[i]? = some o) (hg : o.guard = none) (hd : o.dst = none) (hv : ∀ ev : Operand → Value, (∀ t, ev (.tmp t) = a.eval (.tmp t)) → (∀ c, ev (.const c) = c) → (∀ f, ev (.func f) = .func (.func f) #[] #[]) → (execOp ev o).run P w = .ok .skip w') (hk : K a w') : wpOp P ops Q i K a w := by
 unfold wpOp
 simp only [hi]
 rw [if_pos (by simp [Region.wanted, hg])]
 left
 unfold Oper.wp
 rw [hv a.eval (fun _ => rfl) (fun _ => rfl) (fun _ => rfl)]
 show K (a.put o.dst undef) w'
 rw [hd]
 exact hk
def okDis2 (ops : Array Oper) : Bool := decide ((ops.toList.filterMap fun o => o.dst).Nodup)
theorem dis_of2 (h : okDis2 ops = true) : ∀ (i j : Nat) (oi oj : Oper) (d : Nat), ops[i]? = some oi → ops[j]? = some oj → oi.dst = some d → oj.dst = some d → i = j := by
 intro i j oi oj d hi hj hd hdj
 have hn : (ops.toList.filterMap fun o => o.dst).Nodup := by simpa [okDis2] using h
 have key : ∀ (l : List Oper) (i j : Nat), (l.filterMap fun o => o.dst).Nodup → l[i]? = some oi → l[j]? = some oj → i = j := by
   intro l
   induction l with
   | nil => intro i j _ h1; simp at h1
   | cons o l ih =>
     intro i j hnd h1 h2
     have mem : ∀ (k : Nat) (ok : Oper), l[k]? = some ok → ok.dst = some d → d ∈ l.filterMap fun o => o.dst := fun k ok hk hk2 => List.mem_filterMap.2 ⟨ok, List.mem_of_getElem? hk, hk2⟩
     cases i with
     | zero =>
       cases j with
       | zero => rfl
       | succ j =>
         simp at h1 h2
         subst h1
         rw [List.filterMap_cons, hd] at hnd
         exact absurd (mem j oj h2 hdj) (List.nodup_cons.1 hnd).1
     | succ i =>
       cases j with
       | zero =>
         simp at h1 h2
         subst h2
         rw [List.filterMap_cons, hdj] at hnd
         exact absurd (mem i oi h1 hd) (List.nodup_cons.1 hnd).1
       | succ j =>
         simp at h1 h2
         have hnd' : (l.filterMap fun o => o.dst).Nodup := by
           rw [List.filterMap_cons] at hnd
           split at hnd
           · exact hnd
           · exact (List.nodup_cons.1 hnd).2
         rw [ih i j hnd' h1 h2]
 exact key ops.toList i j hn (by simpa using hi) (by simpa using hj)
end
section
open Go.RowKit Go.Shelf
def DeedDrawn (w : World) (R k : Nat) (e : Ending) (w' : World) : Prop :=
 ∃ x y z : Int, e = .returned (.agg #[.int .i64 x, .int .i64 y, .int .i64 z]) ∧ Rd w' R (k + 6) ∧ w.grownBy w' (some R)
def NumsIn (w : World) (b : Nat) : Prop :=
 (∃ x y z : Int, w.cell? ⟨b, 0, none⟩ = some (.int .i64 x) ∧ w.cell? ⟨b, 1, none⟩ = some (.int .i64 y) ∧ w.cell? ⟨b, 2, none⟩ = some (.int .i64 z)) ∧ w.frozen? ⟨b, 0, none⟩ = false ∧ w.frozen? ⟨b, 1, none⟩ = false ∧ w.frozen? ⟨b, 2, none⟩ = false
def GrowI (R : Nat) (w w' : World) : Prop := w.heap.size ≤ w'.heap.size ∧ ∀ b i, b < w.heap.size → b ≠ R → (∀ x : Int, w.cell? ⟨b, i, none⟩ = some (.int .i64 x) → ∃ y : Int, w'.cell? ⟨b, i, none⟩ = some (.int .i64 y)) ∧ w'.frozen? ⟨b, i, none⟩ = w.frozen? ⟨b, i, none⟩
theorem growI_refl (R : Nat) (w : World) : GrowI R w w := ⟨Nat.le_refl _, fun _ _ _ _ => ⟨fun x h => ⟨x, h⟩, rfl⟩⟩
theorem growI_of {R : Nat} {w w' : World} (hg : w.grownBy w' (some R)) : GrowI R w w' :=
 ⟨hg.size, fun b i hb hne => ⟨fun x h => ⟨x, ((gcell hg).1 b i hb hne).trans h⟩, (gcell hg).2 b i hb hne⟩⟩
theorem growI_alloc (R : Nat) (w : World) (o : Obj) : GrowI R w (w.alloc o) := growI_of (gr_alloc (gr_refl w R) o)
theorem growI_store {R b : Nat} {w : World} {x y z n m l : Int} (c0 : w.cell? ⟨b, 0, none⟩ = some (.int .i64 x)) (c1 : w.cell? ⟨b, 1, none⟩ = some (.int .i64 y)) (c2 : w.cell? ⟨b, 2, none⟩ = some (.int .i64 z)) :
   GrowI R w (((w.setCell ⟨b, 0, none⟩ (.int .i64 n)).setCell ⟨b, 1, none⟩ (.int .i64 m)).setCell ⟨b, 2, none⟩ (.int .i64 l)) := by
 have one : ∀ (w : World) (o : Nat) (x n : Int), w.cell? ⟨b, o, none⟩ = some (.int .i64 x) → ∀ (b' i : Nat) (y : Int), w.cell? ⟨b', i, none⟩ = some (.int .i64 y) → ∃ z : Int, (w.setCell ⟨b, o, none⟩ (.int .i64 n)).cell? ⟨b', i, none⟩ = some (.int .i64 z) := fun w o x n hx b' i y hy => by
   by_cases e : b = b' ∧ o = i
   · obtain ⟨rfl, rfl⟩ := e
     exact ⟨n, World.cell?_setCell_same' _ _ _ (by rw [hx]; rfl)⟩
   · exact ⟨y, (World.cell?_setCell_other _ _ _ _ (fun h => e (by injection h with h1 h2; exact ⟨h1, h2⟩))).trans hy⟩
 refine ⟨by simp [World.setCell], fun b' i _ _ => ⟨fun u hu => ?_, by rw [World.frozen?_setCell, World.frozen?_setCell, World.frozen?_setCell]⟩⟩
 obtain ⟨u1, h1⟩ := one w 0 x n c0 b' i u hu
 obtain ⟨d1, g1⟩ := one w 0 x n c0 b 1 y c1
 obtain ⟨d2, g2⟩ := one w 0 x n c0 b 2 z c2
 obtain ⟨u2, h2⟩ := one _ 1 d1 m g1 b' i u1 h1
 obtain ⟨d3, g3⟩ := one _ 1 d1 m g1 b 2 d2 g2
 exact one _ 2 d3 l g3 b' i u2 h2
theorem growI_set {R b o : Nat} {w : World} {x : Int} (n : Int) (c : w.cell? ⟨b, o, none⟩ = some (.int .i64 x)) : GrowI R w (w.setCell ⟨b, o, none⟩ (.int .i64 n)) := by
 refine ⟨by simp [World.setCell], fun b' i _ _ => ⟨fun u hu => ?_, by rw [World.frozen?_setCell]⟩⟩
 by_cases e : b = b' ∧ o = i
 · obtain ⟨rfl, rfl⟩ := e
   exact ⟨n, World.cell?_setCell_same' _ _ _ (by rw [c]; rfl)⟩
 · exact ⟨u, (World.cell?_setCell_other _ _ _ _ (fun h => e (by injection h with h1 h2; exact ⟨h1, h2⟩))).trans hu⟩
theorem NumsIn.grow {R b : Nat} {w w' : World} (h : w.heap.size > b ∧ NumsIn w b) (hg : GrowI R w w') (hb : b ≠ R) : w'.heap.size > b ∧ NumsIn w' b := by
 obtain ⟨hl, ⟨x, y, z, c0, c1, c2⟩, f0, f1, f2⟩ := h
 obtain ⟨hs, hg⟩ := hg
 obtain ⟨x', d0⟩ := (hg b 0 hl hb).1 x c0
 obtain ⟨y', d1⟩ := (hg b 1 hl hb).1 y c1
 obtain ⟨z', d2⟩ := (hg b 2 hl hb).1 z c2
 exact ⟨Nat.lt_of_lt_of_le hl hs, ⟨x', y', z', d0, d1, d2⟩, (hg b 0 hl hb).2.trans f0, (hg b 1 hl hb).2.trans f1, (hg b 2 hl hb).2.trans f2⟩
theorem numsIn_new (w : World) (t : TypeId) : NumsIn (w.alloc (.cells #[.int .i64 0, .int .i64 0, .int .i64 0] t)) w.heap.size := by
 refine ⟨⟨0, 0, 0, ?_, ?_, ?_⟩, ?_, ?_, ?_⟩
 · exact World.cell?_alloc_mark _ _ _ _ _
 · exact World.cell?_alloc_mark _ _ _ _ _
 · exact World.cell?_alloc_mark _ _ _ _ _
 all_goals (unfold World.frozen?; rw [heap_alloc_new]; simp)
theorem seven_is {j : Nat} (h : j < 7) : ∃ x : Int, (#[.int .i64 0, .int .i64 0, .int .i64 0, .int .i64 1, .int .i64 2, .int .i64 3, .int .i64 4] : Array Value)[j]? = some (.int .i64 x) := by
 rcases (show j = 0 ∨ j = 1 ∨ j = 2 ∨ j = 3 ∨ j = 4 ∨ j = 5 ∨ j = 6 by omega) with rfl | rfl | rfl | rfl | rfl | rfl | rfl <;> exact ⟨_, rfl⟩
def deedP (w0 R j : Nat) (v : Value) (w : World) : Prop :=
 match j with
 | 0 => ∃ b, v = .slice (some ⟨b, 0, none⟩) 7 7 ∧ b ≠ R ∧ b < w.heap.size ∧ ∀ i, i < 7 → ∃ x : Int, w.cell? ⟨b, i, none⟩ = some (.int .i64 x)
 | 1 => v = .pointer (some ⟨R, 0, none⟩)
 | 2 => ∃ n : Int, v = .int .i64 n ∧ 0 ≤ n ∧ n ≤ 6
 | 3 => ∃ b i x, v = .pointer (some ⟨b, i, none⟩) ∧ b ≠ R ∧ b < w.heap.size ∧ w.cell? ⟨b, i, none⟩ = some (.int .i64 x)
 | 5 => v = .pointer (some ⟨R, 0, none⟩)
 | 6 => ∃ n : Int, v = .int .i64 n ∧ 0 ≤ n ∧ n ≤ 59
 | 7 => ∃ n : Int, v = .int .i64 n ∧ 0 ≤ n ∧ n ≤ 1
 | 8 => ∃ n : Int, v = .int .i64 n ∧ 0 ≤ n ∧ n ≤ 5
 | 10 => ∃ n : Int, v = .agg #[.int .i64 n, .int .i64 0, .int .i64 0]
 | 11 => ∃ b, v = .pointer (some ⟨b, 0, none⟩) ∧ b ≠ R ∧ (w0 < b ∧ b < w.heap.size) ∧ NumsIn w b
 | _ => ∃ n : Int, v = .int .i64 n
theorem deedP_mono (w0 R j : Nat) (v : Value) (w w' : World) (hg : GrowI R w w') (h : deedP w0 R j v w) : deedP w0 R j v w' := by
 unfold deedP at *
 split at h
 · obtain ⟨b, e, h1, h2, h3⟩ := h
   refine ⟨b, e, h1, Nat.lt_of_lt_of_le h2 hg.1, fun i hi => ?_⟩
   obtain ⟨x, hx⟩ := h3 i hi
   exact (hg.2 b i h2 h1).1 x hx
 · exact h
 · exact h
 · obtain ⟨b, i, x, e, h1, h2, h3⟩ := h
   obtain ⟨y, hy⟩ := (hg.2 b i h2 h1).1 x h3
   exact ⟨b, i, y, e, h1, Nat.lt_of_lt_of_le h2 hg.1, hy⟩
 · exact h
 · exact h
 · exact h
 · exact h
 · exact h
 · obtain ⟨b, e, h1, h2, h3⟩ := h
   obtain ⟨h4, h5⟩ := NumsIn.grow ⟨h2.2, h3⟩ hg h1
   exact ⟨b, e, h1, ⟨h2.1, h4⟩, h5⟩
 · exact h
def indD (l : Array Bool) (j : Nat) : Nat := if l.getD j false = true then 1 else 0
def deedC (l : Array Bool) : Nat := indD l 2 + indD l 6
theorem indD_le (l : Array Bool) (j : Nat) : indD l j ≤ 1 := by unfold indD; split <;> omega
theorem indD_other {l : Array Bool} {i j : Nat} (h : i ≠ j) : indD (l.setIfInBounds i true) j = indD l j := by unfold indD; rw [getD_set_other _ h]
theorem indD_self {l : Array Bool} {i : Nat} (h : l.getD i true = false) : indD (l.setIfInBounds i true) i = indD l i + 1 := by
 have h1 := getD_set_self h
 have h2 : l.getD i false = false := by
   rcases Nat.lt_or_ge i l.size with hx | hx
   · simp [Array.getD_eq_getD_getElem?, hx] at h ⊢; exact h
   · simp [Array.getD_eq_getD_getElem?, Array.getElem?_eq_none hx]
 unfold indD; rw [if_pos h1, if_neg (by rw [h2]; simp)]
theorem deedC_le (l : Array Bool) : deedC l ≤ 2 := by
 have := indD_le l 2; have := indD_le l 6
 unfold deedC; omega
theorem deedC_other {l : Array Bool} {i : Nat} (h1 : i ≠ 2) (h3 : i ≠ 6) : deedC (l.setIfInBounds i true) = deedC l := by
 unfold deedC; rw [indD_other h1, indD_other h3]
theorem deedC_2 {l : Array Bool} (h : l.getD 2 true = false) : deedC (l.setIfInBounds 2 true) = deedC l + 1 := by
 unfold deedC; rw [indD_self h, indD_other (i := 2) (j := 6) zd]; omega
theorem deedC_6 {l : Array Bool} (h : l.getD 6 true = false) : deedC (l.setIfInBounds 6 true) = deedC l + 1 := by
 unfold deedC; rw [indD_self h, indD_other (i := 6) (j := 2) zd]; omega
theorem arr35 (t : Array Value) (h : t.size = 35) : t = #[t.getD 0 undef, t.getD 1 undef, t.getD 2 undef, t.getD 3 undef, t.getD 4 undef, t.getD 5 undef, t.getD 6 undef, t.getD 7 undef, t.getD 8 undef, t.getD 9 undef, t.getD 10 undef, t.getD 11 undef, t.getD 12 undef, t.getD 13 undef, t.getD 14 undef, t.getD 15 undef, t.getD 16 undef, t.getD 17 undef, t.getD 18 undef, t.getD 19 undef, t.getD 20 undef, t.getD 21 undef, t.getD 22 undef, t.getD 23 undef, t.getD 24 undef, t.getD 25 undef, t.getD 26 undef, t.getD 27 undef, t.getD 28 undef, t.getD 29 undef, t.getD 30 undef, t.getD 31 undef, t.getD 32 undef, t.getD 33 undef, t.getD 34 undef] := by
 apply Array.ext
 · simpa using h
 · intro i h1 h2
   have h3 : i < 35 := by omega
   rcases (show i = 0 ∨ i = 1 ∨ i = 2 ∨ i = 3 ∨ i = 4 ∨ i = 5 ∨ i = 6 ∨ i = 7 ∨ i = 8 ∨ i = 9 ∨ i = 10 ∨ i = 11 ∨ i = 12 ∨ i = 13 ∨ i = 14 ∨ i = 15 ∨ i = 16 ∨ i = 17 ∨ i = 18 ∨ i = 19 ∨ i = 20 ∨ i = 21 ∨ i = 22 ∨ i = 23 ∨ i = 24 ∨ i = 25 ∨ i = 26 ∨ i = 27 ∨ i = 28 ∨ i = 29 ∨ i = 30 ∨ i = 31 ∨ i = 32 ∨ i = 33 ∨ i = 34 by omega) with rfl | rfl | rfl | rfl | rfl | rfl | rfl | rfl | rfl | rfl | rfl | rfl | rfl | rfl | rfl | rfl | rfl | rfl | rfl | rfl | rfl | rfl | rfl | rfl | rfl | rfl | rfl | rfl | rfl | rfl | rfl | rfl | rfl | rfl | rfl <;> simp [Array.getD, h]
theorem act35 (t : Array Value) (h : t.size = 35) (v0 v2 v3 : Value) (h0 : t.getD 0 undef = v0) (h2 : t.getD 2 undef = v2) (h3 : t.getD 3 undef = v3) : ∃ u1 u4 u5 u6 u7 u8 u9 u10 u11 u12 u13 u14 u15 u16 u17 u18 u19 u20 u21 u22 u23 u24 u25 u26 u27 u28 u29 u30 u31 u32 u33 u34 : Value, t = #[v0, u1, v2, v3, u4, u5, u6, u7, u8, u9, u10, u11, u12, u13, u14, u15, u16, u17, u18, u19, u20, u21, u22, u23, u24, u25, u26, u27, u28, u29, u30, u31, u32, u33, u34] :=
 ⟨_, _, _, _, _, _, _, _, _, _, _, _, _, _, _, _, _, _, _, _, _, _, _, _, _, _, _, _, _, _, _, _, by rw [← h0, ← h2, ← h3]; exact arr35 t h⟩
def Half (w : World) (R k : Nat) (s : Value) (wx : World) : Prop :=
 ∃ b, s = .pointer (some ⟨b, 0, none⟩) ∧ b ≠ R ∧ w.heap.size < b ∧ (wx.heap.size > b ∧ NumsIn wx b) ∧ (wx.heap.size > w.heap.size ∧ NumsIn wx w.heap.size) ∧ Rd wx R k ∧ w.grownBy wx (some R)
set_option linter.unusedSimpArgs false in
set_option maxRecDepth 100000 in
set_option maxHeartbeats 16000000 in
theorem l20Deed_any (R k : Nat) (w : World) (h : Rd w R k) (hk : k ≤ 1000000) :
   Calls Tryz.prog 85 #[.pointer (some ⟨R, 0, none⟩)] w (DeedDrawn w R k) := by
 have hen : ∀ (args : Array Value) (w : World), (callFunc 41 args).run Tryz.prog w = .ok (.enter 41 args) w := enters_of Tryz.func41 (by kernel_rfl) rfl
 have hRlt := h.lt
 have hR0 : w.heap.size ≠ R := by omega
 go_enter Tryz.func85, Tryz.ntmps85
 go_wp2_with fail
 rename_i K hK
 refine wp_region_stores (PP := deedP w.heap.size R) (Grow := GrowI R) (G := fun l w' => w.grownBy w' (some R) ∧ Rd w' R (k + deedC l) ∧ w'.heap.size > w.heap.size ∧ NumsIn w' w.heap.size) (by kernel_rfl) (dis_of2 (by kernel_rfl)) (b_of (by kernel_rfl)) (back_of (by kernel_rfl)) (fun j u w1 w2 hg hp => deedP_mono _ R j u w1 w2 hg hp) ⟨gr_drew (gr_alloc (gr_refl _ _) _), h.alloc _, (show w.heap.size < (w.alloc (.cells #[.int .i64 0, .int .i64 0, .int .i64 0] 40)).heap.size by simp), numsIn_new w _⟩ ?step ?fin
 case step =>
   intro i o hi listed a w1 hS hG hall hl
   have hi25 : i < 13 := (Array.getElem?_eq_some_iff.1 hi).1
   rcases (show i = 0 ∨ i = 1 ∨ i = 2 ∨ i = 3 ∨ i = 4 ∨ i = 5 ∨ i = 6 ∨ i = 7 ∨ i = 8 ∨ i = 9 ∨ i = 10 ∨ i = 11 ∨ i = 12 by omega) with rfl | rfl | rfl | rfl | rfl | rfl | rfl | rfl | rfl | rfl | rfl | rfl | rfl
   · obtain rfl := Option.some.inj hi
     refine op_value (v := .slice (some ⟨w1.heap.size, 0, none⟩) 7 7) (w' := w1.alloc (.cells #[.int .i64 0, .int .i64 0, .int .i64 0, .int .i64 1, .int .i64 2, .int .i64 3, .int .i64 4] 3)) rfl rfl (by intro ev ht hc hf; simp [execOp, ht, hc, hf, go_sem]) ⟨.inl ⟨_, 4, rfl, rfl, ⟨w1.heap.size, rfl, by have := hG.2.1.lt; omega, by simp, fun j hj => by rw [World.cell?_alloc_mark]; exact seven_is hj⟩⟩, growI_alloc _ _ _, gr_alloc hG.1 _, by rw [deedC_other zd zd]; exact hG.2.1.alloc _, NumsIn.grow hG.2.2 (growI_alloc _ _ _) hR0⟩
   · obtain rfl := Option.some.inj hi
     have e0 : a.eval (.tmp 0) = .pointer (some ⟨R, 0, none⟩) := hS.2.2.1 0 (noDst_of (by kernel_rfl))
     refine op_value (v := .pointer (some ⟨R, 0, none⟩)) (w' := w1) rfl rfl (by intro ev ht hc hf; rw [← ht] at e0; simp [execOp, hc, hf, e0, go_sem]) ⟨.inl ⟨_, 5, rfl, rfl, rfl⟩, growI_refl _ _, ⟨hG.1, by rw [deedC_other zd zd]; exact hG.2.1, hG.2.2⟩⟩
   · obtain rfl := Option.some.inj hi
     have P1 := hS.2.2.2 1 _ 5 rfl rfl (hall { on := 1, ground := .data } (by simp) rfl)
     replace P1 : a.eval (.tmp 5) = .pointer (some ⟨R, 0, none⟩) := P1
     refine op_enter rfl rfl (f := 41) (args := #[.pointer (some ⟨R, 0, none⟩), .int .i64 7]) (w' := w1) (by intro ev ht hc hf; rw [← ht] at P1; simp [execOp, hc, hf, P1, go_sem, hen]) ?_
     refine (pick_any R (k + deedC listed) 7 w1 hG.2.1 (by have := deedC_le listed; omega) zO).mono ?_
     rintro e w2 ⟨v, rfl, va, vb, hR, hg⟩
     exact ⟨_, rfl, .inl ⟨_, 6, rfl, rfl, ⟨v, rfl, va, by show v ≤ (6 : Int); omega⟩⟩, growI_of hg, gr_trans hG.1 hg, by rw [deedC_2 hl]; exact hR, NumsIn.grow hG.2.2 (growI_of hg) hR0⟩
   · obtain rfl := Option.some.inj hi
     have P0 := hS.2.2.2 0 _ 4 rfl rfl (hall { on := 0, ground := .data } (by simp) rfl)
     obtain ⟨b, eb, hbR, hbl, hbc⟩ := P0
     have P2 := hS.2.2.2 2 _ 6 rfl rfl (hall { on := 2, ground := .data } (by simp) rfl)
     obtain ⟨n2, e2, l2, h2⟩ := P2
     have hb4 : n2 < 7 := by omega
     obtain ⟨x, hx⟩ := hbc n2.toNat zO
     refine op_value (v := .pointer (some ⟨b, n2.toNat, none⟩)) (w' := w1) rfl rfl (by intro ev ht hc hf; rw [← ht] at eb e2; simp [execOp, hc, hf, eb, e2, go_sem, l2, hb4]) ⟨.inl ⟨_, 7, rfl, rfl, ⟨b, n2.toNat, x, rfl, hbR, hbl, hx⟩⟩, growI_refl _ _, ⟨hG.1, by rw [deedC_other zd zd]; exact hG.2.1, hG.2.2⟩⟩
   · obtain rfl := Option.some.inj hi
     have P3 := hS.2.2.2 3 _ 7 rfl rfl (hall { on := 3, ground := .data } (by simp) rfl)
     obtain ⟨b, j, x, ep, hbR, hbl, hx⟩ := P3
     refine op_value (v := .int .i64 x) (w' := w1) rfl rfl (by intro ev ht hc hf; rw [← ht] at ep; simp [execOp, hc, hf, ep, go_sem, hx]) ⟨.inl ⟨_, 8, rfl, rfl, ⟨x, rfl⟩⟩, growI_refl _ _, ⟨hG.1, by rw [deedC_other zd zd]; exact hG.2.1, hG.2.2⟩⟩
   · obtain rfl := Option.some.inj hi
     have e0 : a.eval (.tmp 0) = .pointer (some ⟨R, 0, none⟩) := hS.2.2.1 0 (noDst_of (by kernel_rfl))
     refine op_value (v := .pointer (some ⟨R, 0, none⟩)) (w' := w1) rfl rfl (by intro ev ht hc hf; rw [← ht] at e0; simp [execOp, hc, hf, e0, go_sem]) ⟨.inl ⟨_, 9, rfl, rfl, rfl⟩, growI_refl _ _, ⟨hG.1, by rw [deedC_other zd zd]; exact hG.2.1, hG.2.2⟩⟩
   · obtain rfl := Option.some.inj hi
     have P5 := hS.2.2.2 5 _ 9 rfl rfl (hall { on := 5, ground := .data } (by simp) rfl)
     replace P5 : a.eval (.tmp 9) = .pointer (some ⟨R, 0, none⟩) := P5
     refine op_enter rfl rfl (f := 41) (args := #[.pointer (some ⟨R, 0, none⟩), .int .i64 60]) (w' := w1) (by intro ev ht hc hf; rw [← ht] at P5; simp [execOp, hc, hf, P5, go_sem, hen]) ?_
     refine (pick_any R (k + deedC listed) 60 w1 hG.2.1 (by have := deedC_le listed; omega) zO).mono ?_
     rintro e w2 ⟨v, rfl, va, vb, hR, hg⟩
     exact ⟨_, rfl, .inl ⟨_, 10, rfl, rfl, ⟨v, rfl, va, by show v ≤ (59 : Int); omega⟩⟩, growI_of hg, gr_trans hG.1 hg, by rw [deedC_6 hl]; exact hR, NumsIn.grow hG.2.2 (growI_of hg) hR0⟩
   · obtain rfl := Option.some.inj hi
     have P6 := hS.2.2.2 6 _ 10 rfl rfl (hall { on := 6, ground := .data } (by simp) rfl)
     obtain ⟨n6, e6, l6, h6⟩ := P6
     have vt : n6.tdiv 59 = n6 / 59 := Int.tdiv_eq_ediv_of_nonneg l6
     have vw : IntKind.i64.wrap (n6 / 59) = n6 / 59 := by rw [IntKind.wrap_i64]; omega
     refine op_value (v := .int .i64 (n6 / 59)) (w' := w1) rfl rfl (by intro ev ht hc hf; rw [← ht] at e6; simp [execOp, hc, hf, e6, vt, vw, go_sem]) ⟨.inl ⟨_, 11, rfl, rfl, ⟨n6 / 59, rfl, by omega, by omega⟩⟩, growI_refl _ _, ⟨hG.1, by rw [deedC_other zd zd]; exact hG.2.1, hG.2.2⟩⟩
   · obtain rfl := Option.some.inj hi
     have P7 := hS.2.2.2 7 _ 11 rfl rfl (hall { on := 7, ground := .data } (by simp) rfl)
     obtain ⟨n7, e7, l7, h7⟩ := P7
     have vw : IntKind.i64.wrap (n7 * 5) = n7 * 5 := by rw [IntKind.wrap_i64]; omega
     refine op_value (v := .int .i64 (n7 * 5)) (w' := w1) rfl rfl (by intro ev ht hc hf; rw [← ht] at e7; simp [execOp, hc, hf, e7, vw, go_sem]) ⟨.inl ⟨_, 12, rfl, rfl, ⟨n7 * 5, rfl, by omega, by omega⟩⟩, growI_refl _ _, ⟨hG.1, by rw [deedC_other zd zd]; exact hG.2.1, hG.2.2⟩⟩
   · obtain rfl := Option.some.inj hi
     have P4 := hS.2.2.2 4 _ 8 rfl rfl (hall { on := 4, ground := .data } (by simp) rfl)
     obtain ⟨n4, e4⟩ := P4
     have P8 := hS.2.2.2 8 _ 12 rfl rfl (hall { on := 8, ground := .data } (by simp) rfl)
     obtain ⟨n8, e8, l8, h8⟩ := P8
     refine op_value (v := .int .i64 (IntKind.i64.wrap (n4 + n8))) (w' := w1) rfl rfl (by intro ev ht hc hf; rw [← ht] at e4 e8; simp [execOp, hc, hf, e4, e8, go_sem]) ⟨.inl ⟨_, 13, rfl, rfl, ⟨_, rfl⟩⟩, growI_refl _ _, ⟨hG.1, by rw [deedC_other zd zd]; exact hG.2.1, hG.2.2⟩⟩
   · obtain rfl := Option.some.inj hi
     have P9 := hS.2.2.2 9 _ 13 rfl rfl (hall { on := 9, ground := .data } (by simp) rfl)
     obtain ⟨n9, e9⟩ := P9
     refine op_value (v := .agg #[.int .i64 n9, .int .i64 0, .int .i64 0]) (w' := w1) rfl rfl (by intro ev ht hc hf; rw [← ht] at e9; simp [execOp, hc, hf, e9, go_sem]; try go_simp) ⟨.inl ⟨_, 14, rfl, rfl, ⟨n9, rfl⟩⟩, growI_refl _ _, ⟨hG.1, by rw [deedC_other zd zd]; exact hG.2.1, hG.2.2⟩⟩
   · obtain rfl := Option.some.inj hi
     refine op_value (v := .pointer (some ⟨w1.heap.size, 0, none⟩)) (w' := w1.alloc (.cells #[.int .i64 0, .int .i64 0, .int .i64 0] 40)) rfl rfl (by intro ev ht hc hf; simp [execOp, ht, hc, hf, go_sem]; try go_simp) ⟨.inl ⟨_, 3, rfl, rfl, ⟨w1.heap.size, rfl, by have := hG.2.1.lt; omega, ⟨hG.2.2.1, by simp⟩, numsIn_new _ _⟩⟩, growI_alloc _ _ _, gr_alloc hG.1 _, by rw [deedC_other zd zd]; exact hG.2.1.alloc _, NumsIn.grow hG.2.2 (growI_alloc _ _ _) hR0⟩
   · obtain rfl := Option.some.inj hi
     have P11 := hS.2.2.2 11 _ 3 rfl rfl (hall { on := 11, ground := .data } (by simp) rfl)
     obtain ⟨b, eb, hbR, ⟨hb1, hb2⟩, ⟨x, y, z, c0, c1, c2⟩, f0, f1, f2⟩ := P11
     have P10 := hS.2.2.2 10 _ 14 rfl rfl (hall { on := 10, ground := .data } (by simp) rfl)
     obtain ⟨n, en⟩ := P10
     have hbR' : R < b := by omega
     refine op_store (w' := ((w1.setCell ⟨b, 0, none⟩ (.int .i64 n)).setCell ⟨b, 1, none⟩ (.int .i64 0)).setCell ⟨b, 2, none⟩ (.int .i64 0)) rfl rfl rfl (by intro ev ht hc hf; rw [← ht] at eb en; simp [execOp, hc, hf, eb, en, go_sem, c0, c1, c2, f0, f1, f2]; try go_simp) ⟨.inr ⟨rfl, rfl⟩, growI_store c0 c1 c2, gr_set (gr_set (gr_set hG.1 (by show _ ≤ b; omega) _) (by show _ ≤ b; omega) _) (by show _ ≤ b; omega) _, by rw [deedC_other zd zd]; exact ((hG.2.1.set (q := ⟨b, 0, none⟩) hbR' _).set (q := ⟨b, 1, none⟩) hbR' _).set (q := ⟨b, 2, none⟩) hbR' _, NumsIn.grow hG.2.2 (growI_store c0 c1 c2) hR0⟩
 case fin =>
   intro listed a w1 hall hS hG
   obtain ⟨b, e3, hbR, ⟨hb1, hb2⟩, hbN⟩ := hS.2.2.2 11 _ 3 rfl rfl (hall 11 zd)
   have e0 : a.eval (.tmp 0) = .pointer (some ⟨R, 0, none⟩) := hS.2.2.1 0 (noDst_of (by kernel_rfl))
   have e2 : a.eval (.tmp 2) = .pointer (some ⟨w.heap.size, 0, none⟩) := hS.2.2.1 2 (noDst_of (by kernel_rfl))
   have hd : a.defers = [] := hS.1
   have hsz : a.tmps.size = 35 := hS.2.1
   have hR1 : Rd w1 R (k + 2) := hG.2.1.mono (by have := deedC_le listed; omega)
   have hg1 := hG.1
   have hN1 : w1.heap.size > b ∧ NumsIn w1 b := ⟨hb2, hbN⟩
   have hM1 := hG.2.2
   obtain ⟨t, d⟩ := a
   clear hS hG hall
   dsimp only at hd hsz
   subst hd
   obtain ⟨u1, u4, u5, u6, u7, u8, u9, u10, u11, u12, u13, u14, u15, u16, u17, u18, u19, u20, u21, u22, u23, u24, u25, u26, u27, u28, u29, u30, u31, u32, u33, u34, rfl⟩ := act35 t hsz _ _ _ e0 e2 e3
   clear e0 e2 e3 hsz hen
   refine hK _ _ ?_
   clear hK K
   obtain ⟨_, ⟨x, y, z, c0, c1, c2⟩, f0, f1, f2⟩ := id hN1
   obtain ⟨_, ⟨rx, ry, rz, r0, r1, r2⟩, t0, t1, t2⟩ := id hM1
   go_upto_if 17 with fail
   go_cut [3] from 4 (fun s3 wx => Half w R (k + 4) s3 wx)
   case first =>
     by_cases hx0 : x = 0
     · subst hx0
       go_wp2_with fail
       refine (pick_any R (k + 2) 11 _ hR1 zO zO).mono ?_
       rintro e w2 ⟨v2, rfl, va2, vb2, hR2, hh2⟩
       have hN2 := NumsIn.grow hN1 (growI_of hh2) hbR
       have hM2 := NumsIn.grow hM1 (growI_of hh2) hR0
       clear c0 c1 c2 f0 f1 f2 r0 r1 r2 t0 t1 t2
       obtain ⟨_, ⟨x2, y2, z2, c0, c1, c2⟩, f0, f1, f2⟩ := id hN2
       have hN3 := NumsIn.grow hN2 (growI_set (IntKind.i64.wrap (v2 - 5)) c1) hbR
       have hM3 := NumsIn.grow hM2 (growI_set (R := R) (IntKind.i64.wrap (v2 - 5)) c1) hR0
       have hRb : R < b := by omega
       have hR3 := hR2.set (q := ⟨b, 1, none⟩) hRb (.int .i64 (IntKind.i64.wrap (v2 - 5)))
       have w25 : IntKind.i64.wrap (v2 - 5) = v2 - 5 := by rw [IntKind.wrap_i64]; omega
       rw [w25] at hN3 hM3 hR3
       have hg3 : w.grownBy (w2.setCell ⟨b, 1, none⟩ (.int .i64 (v2 - 5))) (some R) := gr_set (gr_trans hg1 hh2) (by show _ ≤ b; omega) _
       go_wp2_with fail
       refine (pick_any R (k + 3) 11 _ hR3 zO zO).mono ?_
       rintro e w4 ⟨v4, rfl, va4, vb4, hR4, hh4⟩
       have hN4 := NumsIn.grow hN3 (growI_of hh4) hbR
       have hM4 := NumsIn.grow hM3 (growI_of hh4) hR0
       clear c0 c1 c2 f0 f1 f2
       obtain ⟨_, ⟨x4, y4, z4, c0, c1, c2⟩, f0, f1, f2⟩ := id hN4
       have w45 : IntKind.i64.wrap (v4 - 5) = v4 - 5 := by rw [IntKind.wrap_i64]; omega
       go_wp2_with fail
       go_meet
       case rel => exact ⟨b, rfl, hbR, hb1, NumsIn.grow hN4 (growI_set _ c2) hbR, NumsIn.grow hM4 (growI_set (R := R) _ c2) hR0, hR4.set (q := ⟨b, 2, none⟩) hRb _, gr_set (gr_trans hg3 hh4) (by show _ ≤ b; omega) _⟩
     · go_wp2_with fail
       go_meet
       case rel => exact ⟨b, rfl, hbR, hb1, hN1, hM1, hR1.mono zO, hg1⟩
   clear c0 c1 c2 f0 f1 f2 r0 r1 r2 t0 t1 t2
   obtain ⟨b', rfl, hbR', hb1', hN2, hM2, hR2, hg2⟩ := hcut
   rename World => w2
   go_wp2_with fail
   refine (odd_any R (k + 4) 40 _ hR2 zO zO).mono ?_
   rintro e w3 ⟨bb, rfl, hR3, hh3⟩
   have hN3 := NumsIn.grow hN2 (growI_of hh3) hbR'
   have hM3 := NumsIn.grow hM2 (growI_of hh3) hR0
   have hg3 := gr_trans hg2 hh3
   have hRb : R < b' := by omega
   clear hN2 hM2 hg2 hh3 hR2
   go_upto_if 27 with fail
   go_cut [3] from 4 (fun s3 wx => Half w R (k + 6) s3 wx)
   case first =>
     cases bb with
     | true =>
       go_wp2_with fail
       refine (pick_any R (k + 5) 3 _ (hR3.alloc _) zO zO).mono ?_
       rintro e w4 ⟨v4, rfl, va4, vb4, hR4, hh4⟩
       have hN4 := NumsIn.grow (NumsIn.grow hN3 (growI_alloc R _ _) hbR') (growI_of hh4) hbR'
       have hM4 := NumsIn.grow (NumsIn.grow hM3 (growI_alloc R _ _) hR0) (growI_of hh4) hR0
       obtain ⟨_, ⟨x4, y4, z4, c0, c1, c2⟩, f0, f1, f2⟩ := id hN4
       have hz3 := hR3.lt
       have hz4 := hh4.size
       simp at hz4
       have hg4 := gr_trans (gr_alloc hg3 (.cells #[.int .i64 (-10), .int .i64 10, .int .i64 1] 3)) hh4
       have hcv : ∃ x : Int, w4.cell? ⟨w3.heap.size, v4.toNat, none⟩ = some (.int .i64 x) := by
         rcases (show v4 = 0 ∨ v4 = 1 ∨ v4 = 2 by omega) with rfl | rfl | rfl
         · exact ⟨-10, ((gcell hh4).1 w3.heap.size 0 (by simp) zO).trans (by go_simp)⟩
         · exact ⟨10, ((gcell hh4).1 w3.heap.size 1 (by simp) zO).trans (by go_simp)⟩
         · exact ⟨1, ((gcell hh4).1 w3.heap.size 2 (by simp) zO).trans (by go_simp)⟩
       obtain ⟨u, hu⟩ := hcv
       have v43 : v4 < 3 := by omega
       go_wp2_with fail
       go_meet
       case rel => exact ⟨b', rfl, hbR', hb1', NumsIn.grow hN4 (growI_set _ c2) hbR', NumsIn.grow hM4 (growI_set (R := R) _ c2) hR0, hR4.set (q := ⟨b', 2, none⟩) hRb _, gr_set hg4 (by show _ ≤ b'; omega) _⟩
     | false =>
       go_wp2_with fail
       go_meet
       case rel => exact ⟨b', rfl, hbR', hb1', hN3, hM3, hR3.mono zO, hg3⟩
   clear hN3 hM3 hR3 hg3
   obtain ⟨b4, rfl, hbR4, hb4, hN4, hM4, hR4, hg4⟩ := hcut
   rename World => w4
   obtain ⟨_, ⟨x, y, z, c0, c1, c2⟩, f0, f1, f2⟩ := id hN4
   obtain ⟨_, ⟨rx, ry, rz, r0, r1, r2⟩, t0, t1, t2⟩ := id hM4
   have hRw : R < w.heap.size := hRlt
   go_wp2_with fail
   refine bodyPost_ret (v := .agg #[.int .i64 x, .int .i64 y, .int .i64 z]) (by simp [results, Tryz.results85, go_sem]; go_simp) rfl ⟨x, y, z, rfl, ?_, ?_⟩
   · exact ((hR4.set (q := ⟨w.heap.size, 0, none⟩) hRw _).set (q := ⟨w.heap.size, 1, none⟩) hRw _).set (q := ⟨w.heap.size, 2, none⟩) hRw _
   · exact gr_set (gr_set (gr_set hg4 (Nat.le_refl _) _) (Nat.le_refl _) _) (Nat.le_refl _) _
end
section
open Go.RowKit
theorem namesNone_at (k a b : Int) (w : World) : Calls Tryz.prog 56 #[.agg #[.int .i64 k, .int .i64 a, .int .i64 b]] w fun e w' => e = .returned (.bool (decide (a = 0 ∧ b = 0))) ∧ Below w.heap.size w w' := by
 by_cases ha : a = 0
 · by_cases hb : b = 0
   · rw [decide_eq_true ⟨ha, hb⟩]
     subst ha hb
     go_enter Tryz.func56, Tryz.ntmps56
     go_wp2
     go_ret
     exact ⟨rfl, by exact zb⟩
   · rw [decide_eq_false (fun e => hb e.2)]
     subst ha
     have hbf : (b == 0) = false := by simp [hb]
     go_enter Tryz.func56, Tryz.ntmps56
     go_wp2
     go_ret
     exact ⟨rfl, by exact zb⟩
 · rw [decide_eq_false (fun e => ha e.1)]
   go_enter Tryz.func56, Tryz.ntmps56
   go_wp2
   go_ret
   exact ⟨rfl, by exact zb⟩
theorem deedT_other {k a b : Int} (h : k < 0 ∨ 4 < k) : deedT ⟨k, a, b⟩ = [] := by
 unfold deedT
 rw [if_neg (by show ¬ k = 0; omega)]
 split
 · rw [if_neg (by show ¬ k = 1; omega), if_neg (by show ¬ k = 2; omega), if_neg (by show ¬ k = 3; omega), if_neg (by show ¬ k = 4; omega)]
 · rfl
theorem deedT_named {k a b : Int} (h0 : ¬ k = 0) (h : ¬ (a = 0 ∧ b = 0)) : deedT ⟨k, a, b⟩ = [] := by
 unfold deedT
 rw [if_neg h0, if_neg h]
theorem deedT_take {a b : Int} (h : -9 ≤ a ∧ a ≤ 9 ∧ -9 ≤ b ∧ b ≤ 9) : deedT ⟨0, a, b⟩ = [116, 97, 107, 101, 32] ++ digN a ++ [32] ++ digN b := by
 unfold deedT
 rw [if_pos rfl, if_pos h]
theorem deedT_not {a b : Int} (h : ¬ (-9 ≤ a ∧ a ≤ 9 ∧ -9 ≤ b ∧ b ≤ 9)) : deedT ⟨0, a, b⟩ = [] := by
 unfold deedT
 rw [if_pos rfl, if_neg h]
theorem digN_len (a : Int) : (digN a).length ≤ 2 := by unfold digN; split <;> simp
theorem txt_size (l : List UInt8) : (txt l).size = l.length := by show l.toArray.size = _; simp
theorem txt_append (l m : List UInt8) : txt l ++ txt m = txt (l ++ m) := txt_eq (by rw [ByteArray.data_append, Array.toList_append]; rfl)
theorem small_text {a : Int} (h1 : -9 ≤ a) (h2 : a ≤ 9) : ∃ A : ByteArray, txt (numberT a) = A ∧ A.size ≤ 2 ∧ A.data.toList = digN a := ⟨_, rfl, by rw [txt_size, digN_is a h1 h2]; exact digN_len a, by rw [digN_is a h1 h2]; rfl⟩
theorem take_text {A B : ByteArray} {a b : Int} (h : -9 ≤ a ∧ a ≤ 9 ∧ -9 ≤ b ∧ b ≤ 9) (ha : A.data.toList = digN a) (hb : B.data.toList = digN b) : ((((⟨#[116, 97, 107, 101]⟩ : ByteArray) ++ ⟨#[32]⟩) ++ A) ++ ⟨#[32]⟩) ++ B = txt (deedT ⟨0, a, b⟩) := by
 refine txt_eq ?_
 rw [deedT_take h]
 simp only [ByteArray.data_append, Array.toList_append, ha, hb]
 rfl
theorem take_text2 {A B : ByteArray} {a b : Int} (h : -9 ≤ a ∧ a ≤ 9 ∧ -9 ≤ b ∧ b ≤ 9) (ha : A.data.toList = digN a) (hb : B.data.toList = digN b) : (((⟨#[116, 97, 107, 101, 32]⟩ : ByteArray) ++ A) ++ ⟨#[32]⟩) ++ B = txt (deedT ⟨0, a, b⟩) := by
 refine txt_eq ?_
 rw [deedT_take h]
 simp only [ByteArray.data_append, Array.toList_append, ha, hb]
 rfl
set_option maxRecDepth 100000 in
set_option maxHeartbeats 4000000 in
theorem implText_take (a b : Int) (w : World) (ht : PowTab w) (ha1 : -9 ≤ a) (ha2 : a ≤ 9) (hb1' : -9 ≤ b) (hb2' : b ≤ 9) : Calls Tryz.prog 15 #[.agg #[.int .i64 0, .int .i64 a, .int .i64 b]] w fun e w' => e = .returned (.string (txt (deedT ⟨0, a, b⟩))) ∧ Below w.heap.size w w' := by
 have HT := Lib.hid ht
 clear ht
 obtain ⟨A, hA, hAs, hAl⟩ := small_text ha1 ha2
 obtain ⟨B, hB, hBs, hBl⟩ := small_text hb1' hb2'
 have HE := Lib.hid (take_text ⟨ha1, ha2, hb1', hb2'⟩ hAl hBl)
 have hIT := fun (n : Int) (X : ByteArray) (h1 : -9 ≤ n) (h2 : n ≤ 9) (hX : txt (numberT n) = X) (W : World) (hW : PowTab W) => (hX ▸ itoa_any n zO zO W hW : Calls Tryz.prog 55 #[.int .i64 n] W fun e w' => e = .returned (.string X) ∧ Below W.heap.size W w')
 have HIA := Lib.hid (fun W hW => hIT a A ha1 ha2 hA W hW)
 have HIB := Lib.hid (fun W hW => hIT b B hb1' hb2' hB W hW)
 clear hIT hA hB hAl hBl
 have da : decide (-9 ≤ a ∧ a ≤ 9) = true := decide_eq_true ⟨ha1, ha2⟩
 have db : decide (-9 ≤ b ∧ b ≤ 9) = true := decide_eq_true ⟨hb1', hb2'⟩
 have s1 : ¬ 9223372036854775807 < 5 + A.size := by omega
 have s2 : ¬ 9223372036854775807 < 5 + A.size + 1 := by omega
 have s3 : ¬ 9223372036854775807 < 5 + A.size + 1 + B.size := by omega
 have hTK := fun n W => takenOk_at n W
 go_enter Tryz.func15, Tryz.ntmps15
 go_wp2_with fail
 refine (deedWords_at _).mono ?_
 rintro e w1 ⟨rfl, hw1⟩
 have hz1 : w1.heap.size = w.heap.size + 2 := by rw [hw1]; simp
 have hb1 : Below w.heap.size w w1 := by rw [hw1]; exact ((Below.refl _ _).alloc (Nat.le_refl _) _).alloc (by simp) _
 have cb0 : w1.cell? ⟨w.heap.size, 0, none⟩ = some (.int .i64 0) := by rw [hw1]; go_simp
 have cb1 : w1.cell? ⟨w.heap.size, 1, none⟩ = some (.int .i64 a) := by rw [hw1]; go_simp
 have cb2 : w1.cell? ⟨w.heap.size, 2, none⟩ = some (.int .i64 b) := by rw [hw1]; go_simp
 have cw0 : w1.cell? ⟨w.heap.size + 1, 0, none⟩ = some (.string ⟨#[116, 97, 107, 101]⟩) := by rw [hw1]; go_simp
 have cw1 : w1.cell? ⟨w.heap.size + 1, 1, none⟩ = some (.string ⟨#[116, 117, 114, 110]⟩) := by rw [hw1]; go_simp
 have cw2 : w1.cell? ⟨w.heap.size + 1, 2, none⟩ = some (.string ⟨#[117, 112]⟩) := by rw [hw1]; go_simp
 have cw3 : w1.cell? ⟨w.heap.size + 1, 3, none⟩ = some (.string ⟨#[100, 111, 119, 110]⟩) := by rw [hw1]; go_simp
 have cw4 : w1.cell? ⟨w.heap.size + 1, 4, none⟩ = some (.string ⟨#[98, 97, 99, 107]⟩) := by rw [hw1]; go_simp
 clear hw1
 simp only [World.size_alloc]
 have HT1 := Lib.hid (HT.out.below hb1 (Nat.le_refl _))
 go_wp2_with fail
 refine (takenOk_at a _).mono ?_
 rintro e wa ⟨rfl, hba⟩
 obtain ⟨hca, hfa⟩ := bcell hba
 have hza := hba.size
 rw [da]
 have HTa := Lib.hid (HT1.out.below hba (Nat.le_refl _))
 have ca : ∀ o v, w1.cell? ⟨w.heap.size, o, none⟩ = some v → wa.cell? ⟨w.heap.size, o, none⟩ = some v := fun o v h => (hba.cell (p := ⟨w.heap.size, o, none⟩) (by show w.heap.size < _; omega)).trans h
 have cb0a := ca 0 _ cb0
 have cb1a := ca 1 _ cb1
 have cb2a := ca 2 _ cb2
 have cw0a := (hba.cell (p := ⟨w.heap.size + 1, 0, none⟩) (by show w.heap.size + 1 < _; omega)).trans cw0
 have hba' := hb1.trans (hba.mono zO)
 clear ca cb0 cb1 cb2 cw0 cw1 cw2 cw3 cw4 hca hfa
 go_wp2_with fail
 refine (takenOk_at b _).mono ?_
 rintro e wb ⟨rfl, hbb⟩
 obtain ⟨hcb, hfb⟩ := bcell hbb
 have hzb := hbb.size
 rw [db]
 have HTb := Lib.hid (HTa.out.below hbb (Nat.le_refl _))
 have cb0b := (hbb.cell (p := ⟨w.heap.size, 0, none⟩) (by show w.heap.size < _; omega)).trans cb0a
 have cb1b := (hbb.cell (p := ⟨w.heap.size, 1, none⟩) (by show w.heap.size < _; omega)).trans cb1a
 have cb2b := (hbb.cell (p := ⟨w.heap.size, 2, none⟩) (by show w.heap.size < _; omega)).trans cb2a
 have cw0b := (hbb.cell (p := ⟨w.heap.size + 1, 0, none⟩) (by show w.heap.size + 1 < _; omega)).trans cw0a
 have hbb' := hba'.trans (hbb.mono zO)
 have hzb' : w.heap.size + 2 ≤ wb.heap.size := by omega
 clear cb0a cb1a cb2a cw0a hcb hfb hba hbb hb1 hba' da db hTK hza hzb hz1
 go_wp2_with fail
 go_region_held3 (fun W_ => W_.cell? ⟨w.heap.size, 0, none⟩ = some (.int .i64 0) ∧ W_.cell? ⟨w.heap.size, 1, none⟩ = some (.int .i64 a) ∧ W_.cell? ⟨w.heap.size, 2, none⟩ = some (.int .i64 b) ∧ W_.cell? ⟨w.heap.size + 1, 0, none⟩ = some (.string ⟨#[116, 97, 107, 101]⟩))
   ((go_split_ands; refine ⟨?_, ?_, ?_, ?_⟩ <;> (repeat (first | with_reducible assumption | with_reducible refine cell_alloc_is _ ?_ | with_reducible refine cell_drew_is ?_ | with_reducible refine cell_set_is ?_ ?_ | omega)); done))
   ((first | (go_at_call 55; refine (HIA.out _ (HTb.out.below (show Below wb.heap.size wb _ by exact zb) (Nat.le_refl _))).mono ?_; rintro e w_2 ⟨rfl, hb_2⟩; obtain ⟨hc_2, hf_2⟩ := bcell hb_2; have hz_2 := hb_2.size; (try simp at hz_2); (try have hq_2 : wb.heap.size ≤ w_2.heap.size := by omega); have kx0 := (hb_2.cell (p := ⟨w.heap.size, 0, none⟩) zo).trans (show _ = some (.int .i64 0) by (repeat (first | with_reducible assumption | with_reducible refine cell_alloc_is _ ?_ | with_reducible refine cell_drew_is ?_ | with_reducible refine cell_set_is ?_ ?_ | omega))); have kx1 := (hb_2.cell (p := ⟨w.heap.size, 1, none⟩) zo).trans (show _ = some (.int .i64 a) by (repeat (first | with_reducible assumption | with_reducible refine cell_alloc_is _ ?_ | with_reducible refine cell_drew_is ?_ | with_reducible refine cell_set_is ?_ ?_ | omega))); have kx2 := (hb_2.cell (p := ⟨w.heap.size, 2, none⟩) zo).trans (show _ = some (.int .i64 b) by (repeat (first | with_reducible assumption | with_reducible refine cell_alloc_is _ ?_ | with_reducible refine cell_drew_is ?_ | with_reducible refine cell_set_is ?_ ?_ | omega))); have kx3 := (hb_2.cell (p := ⟨w.heap.size + 1, 0, none⟩) zo).trans (show _ = some (.string ⟨#[116, 97, 107, 101]⟩) by (repeat (first | with_reducible assumption | with_reducible refine cell_alloc_is _ ?_ | with_reducible refine cell_drew_is ?_ | with_reducible refine cell_set_is ?_ ?_ | omega)))) | (go_at_call 55; refine (HIB.out _ (HTb.out.below (show Below wb.heap.size wb _ by exact zb) (Nat.le_refl _))).mono ?_; rintro e w_2 ⟨rfl, hb_2⟩; obtain ⟨hc_2, hf_2⟩ := bcell hb_2; have hz_2 := hb_2.size; (try simp at hz_2); (try have hq_2 : wb.heap.size ≤ w_2.heap.size := by omega); have kx0 := (hb_2.cell (p := ⟨w.heap.size, 0, none⟩) zo).trans (show _ = some (.int .i64 0) by (repeat (first | with_reducible assumption | with_reducible refine cell_alloc_is _ ?_ | with_reducible refine cell_drew_is ?_ | with_reducible refine cell_set_is ?_ ?_ | omega))); have kx1 := (hb_2.cell (p := ⟨w.heap.size, 1, none⟩) zo).trans (show _ = some (.int .i64 a) by (repeat (first | with_reducible assumption | with_reducible refine cell_alloc_is _ ?_ | with_reducible refine cell_drew_is ?_ | with_reducible refine cell_set_is ?_ ?_ | omega))); have kx2 := (hb_2.cell (p := ⟨w.heap.size, 2, none⟩) zo).trans (show _ = some (.int .i64 b) by (repeat (first | with_reducible assumption | with_reducible refine cell_alloc_is _ ?_ | with_reducible refine cell_drew_is ?_ | with_reducible refine cell_set_is ?_ ?_ | omega))); have kx3 := (hb_2.cell (p := ⟨w.heap.size + 1, 0, none⟩) zo).trans (show _ = some (.string ⟨#[116, 97, 107, 101]⟩) by (repeat (first | with_reducible assumption | with_reducible refine cell_alloc_is _ ?_ | with_reducible refine cell_drew_is ?_ | with_reducible refine cell_set_is ?_ ?_ | omega)))) | fail))
 all_goals
   go_wp2_with fail
   go_ret
   exact ⟨by rw [HE.out]; rfl, by (repeat (first | exact hbb' | exact Below.refl _ _ | refine Below.setCell ?_ zo _ | refine Below.alloc ?_ zo _ | refine Below.drew ?_ | refine Below.trans ?_ (Below.mono (by assumption) zo)))⟩
set_option maxRecDepth 100000 in
set_option maxHeartbeats 2000000 in
theorem implText_notA (a b : Int) (w : World) (h : ¬ (-9 ≤ a ∧ a ≤ 9)) : Calls Tryz.prog 15 #[.agg #[.int .i64 0, .int .i64 a, .int .i64 b]] w fun e w' => e = .returned (.string (txt (deedT ⟨0, a, b⟩))) ∧ Below w.heap.size w w' := by
 have HE := Lib.hid (deedT_not (a := a) (b := b) zO)
 have da : decide (-9 ≤ a ∧ a ≤ 9) = false := decide_eq_false h
 go_enter Tryz.func15, Tryz.ntmps15
 go_wp2_with fail
 refine (deedWords_at _).mono ?_
 rintro e w1 ⟨rfl, hw1⟩
 have hz1 : w1.heap.size = w.heap.size + 2 := by rw [hw1]; simp
 have hb1 : Below w.heap.size w w1 := by rw [hw1]; exact ((Below.refl _ _).alloc (Nat.le_refl _) _).alloc (by simp) _
 have cb0 : w1.cell? ⟨w.heap.size, 0, none⟩ = some (.int .i64 0) := by rw [hw1]; go_simp
 have cb1 : w1.cell? ⟨w.heap.size, 1, none⟩ = some (.int .i64 a) := by rw [hw1]; go_simp
 have cb2 : w1.cell? ⟨w.heap.size, 2, none⟩ = some (.int .i64 b) := by rw [hw1]; go_simp
 have cw0 : w1.cell? ⟨w.heap.size + 1, 0, none⟩ = some (.string ⟨#[116, 97, 107, 101]⟩) := by rw [hw1]; go_simp
 have cw1 : w1.cell? ⟨w.heap.size + 1, 1, none⟩ = some (.string ⟨#[116, 117, 114, 110]⟩) := by rw [hw1]; go_simp
 have cw2 : w1.cell? ⟨w.heap.size + 1, 2, none⟩ = some (.string ⟨#[117, 112]⟩) := by rw [hw1]; go_simp
 have cw3 : w1.cell? ⟨w.heap.size + 1, 3, none⟩ = some (.string ⟨#[100, 111, 119, 110]⟩) := by rw [hw1]; go_simp
 have cw4 : w1.cell? ⟨w.heap.size + 1, 4, none⟩ = some (.string ⟨#[98, 97, 99, 107]⟩) := by rw [hw1]; go_simp
 clear hw1
 simp only [World.size_alloc]
 go_wp2_with fail
 refine (takenOk_at a _).mono ?_
 rintro e wa ⟨rfl, hba⟩
 obtain ⟨hca, hfa⟩ := bcell hba
 have hza := hba.size
 rw [da]
 go_wp2
 go_ret
 exact ⟨by rw [HE.out]; rfl, by exact zb⟩
set_option maxRecDepth 100000 in
set_option maxHeartbeats 2000000 in
theorem implText_notB (a b : Int) (w : World) (h1 : -9 ≤ a ∧ a ≤ 9) (h : ¬ (-9 ≤ b ∧ b ≤ 9)) : Calls Tryz.prog 15 #[.agg #[.int .i64 0, .int .i64 a, .int .i64 b]] w fun e w' => e = .returned (.string (txt (deedT ⟨0, a, b⟩))) ∧ Below w.heap.size w w' := by
 have HE := Lib.hid (deedT_not (a := a) (b := b) zO)
 have da : decide (-9 ≤ a ∧ a ≤ 9) = true := decide_eq_true h1
 have db : decide (-9 ≤ b ∧ b ≤ 9) = false := decide_eq_false h
 go_enter Tryz.func15, Tryz.ntmps15
 go_wp2_with fail
 refine (deedWords_at _).mono ?_
 rintro e w1 ⟨rfl, hw1⟩
 have hz1 : w1.heap.size = w.heap.size + 2 := by rw [hw1]; simp
 have hb1 : Below w.heap.size w w1 := by rw [hw1]; exact ((Below.refl _ _).alloc (Nat.le_refl _) _).alloc (by simp) _
 have cb0 : w1.cell? ⟨w.heap.size, 0, none⟩ = some (.int .i64 0) := by rw [hw1]; go_simp
 have cb1 : w1.cell? ⟨w.heap.size, 1, none⟩ = some (.int .i64 a) := by rw [hw1]; go_simp
 have cb2 : w1.cell? ⟨w.heap.size, 2, none⟩ = some (.int .i64 b) := by rw [hw1]; go_simp
 have cw0 : w1.cell? ⟨w.heap.size + 1, 0, none⟩ = some (.string ⟨#[116, 97, 107, 101]⟩) := by rw [hw1]; go_simp
 have cw1 : w1.cell? ⟨w.heap.size + 1, 1, none⟩ = some (.string ⟨#[116, 117, 114, 110]⟩) := by rw [hw1]; go_simp
 have cw2 : w1.cell? ⟨w.heap.size + 1, 2, none⟩ = some (.string ⟨#[117, 112]⟩) := by rw [hw1]; go_simp
 have cw3 : w1.cell? ⟨w.heap.size + 1, 3, none⟩ = some (.string ⟨#[100, 111, 119, 110]⟩) := by rw [hw1]; go_simp
 have cw4 : w1.cell? ⟨w.heap.size + 1, 4, none⟩ = some (.string ⟨#[98, 97, 99, 107]⟩) := by rw [hw1]; go_simp
 clear hw1
 simp only [World.size_alloc]
 go_wp2_with fail
 refine (takenOk_at a _).mono ?_
 rintro e wa ⟨rfl, hba⟩
 obtain ⟨hca, hfa⟩ := bcell hba
 have hza := hba.size
 rw [da]
 have hsa : w.heap.size < wa.heap.size := by omega
 have cb0a := (hba.cell (p := ⟨w.heap.size, 0, none⟩) (by show w.heap.size < _; omega)).trans cb0
 have cb2a := (hba.cell (p := ⟨w.heap.size, 2, none⟩) (by show w.heap.size < _; omega)).trans cb2
 go_wp2_with fail
 refine (takenOk_at b _).mono ?_
 rintro e wb ⟨rfl, hbb⟩
 obtain ⟨hcb, hfb⟩ := bcell hbb
 have hzb := hbb.size
 rw [db]
 go_wp2
 go_ret
 exact ⟨by rw [HE.out]; rfl, by exact zb⟩
set_option maxRecDepth 100000 in
set_option maxHeartbeats 2000000 in
theorem implText_word1 (a b : Int) (w : World) : Calls Tryz.prog 15 #[.agg #[.int .i64 1, .int .i64 a, .int .i64 b]] w fun e w' => e = .returned (.string (txt (deedT ⟨1, a, b⟩))) ∧ Below w.heap.size w w' := by
 by_cases h : a = 0 ∧ b = 0
 · have da : decide (a = 0 ∧ b = 0) = true := decide_eq_true h
   have HE := Lib.hid (show deedT ⟨1, a, b⟩ = [116, 117, 114, 110] by rw [h.1, h.2]; decide)
   clear h
   go_enter Tryz.func15, Tryz.ntmps15
   go_wp2_with fail
   refine (deedWords_at _).mono ?_
   rintro e w1 ⟨rfl, hw1⟩
   have hz1 : w1.heap.size = w.heap.size + 2 := by rw [hw1]; simp
   have hb1 : Below w.heap.size w w1 := by rw [hw1]; exact ((Below.refl _ _).alloc (Nat.le_refl _) _).alloc (by simp) _
   have cb0 : w1.cell? ⟨w.heap.size, 0, none⟩ = some (.int .i64 1) := by rw [hw1]; go_simp
   have cb1 : w1.cell? ⟨w.heap.size, 1, none⟩ = some (.int .i64 a) := by rw [hw1]; go_simp
   have cb2 : w1.cell? ⟨w.heap.size, 2, none⟩ = some (.int .i64 b) := by rw [hw1]; go_simp
   have cw0 : w1.cell? ⟨w.heap.size + 1, 0, none⟩ = some (.string ⟨#[116, 97, 107, 101]⟩) := by rw [hw1]; go_simp
   have cw1 : w1.cell? ⟨w.heap.size + 1, 1, none⟩ = some (.string ⟨#[116, 117, 114, 110]⟩) := by rw [hw1]; go_simp
   have cw2 : w1.cell? ⟨w.heap.size + 1, 2, none⟩ = some (.string ⟨#[117, 112]⟩) := by rw [hw1]; go_simp
   have cw3 : w1.cell? ⟨w.heap.size + 1, 3, none⟩ = some (.string ⟨#[100, 111, 119, 110]⟩) := by rw [hw1]; go_simp
   have cw4 : w1.cell? ⟨w.heap.size + 1, 4, none⟩ = some (.string ⟨#[98, 97, 99, 107]⟩) := by rw [hw1]; go_simp
   clear hw1
   simp only [World.size_alloc]
   go_wp2_with fail
   refine (namesNone_at 1 a b _).mono ?_
   rintro e wn ⟨rfl, hbn⟩
   obtain ⟨hcn, hfn⟩ := bcell hbn
   have hzn := hbn.size
   rw [da]
   have cw := (hbn.cell (p := ⟨w.heap.size + 1, 1, none⟩) (by show w.heap.size + 1 < _; omega)).trans cw1
   have cb := (hbn.cell (p := ⟨w.heap.size, 0, none⟩) (by show w.heap.size < _; omega)).trans cb0
   go_wp2
   go_ret
   exact ⟨by rw [HE.out]; rfl, by exact zb⟩
 · have da : decide (a = 0 ∧ b = 0) = false := decide_eq_false h
   have HE := Lib.hid (deedT_named (k := 1) zd h)
   clear h
   go_enter Tryz.func15, Tryz.ntmps15
   go_wp2_with fail
   refine (deedWords_at _).mono ?_
   rintro e w1 ⟨rfl, hw1⟩
   have hz1 : w1.heap.size = w.heap.size + 2 := by rw [hw1]; simp
   have hb1 : Below w.heap.size w w1 := by rw [hw1]; exact ((Below.refl _ _).alloc (Nat.le_refl _) _).alloc (by simp) _
   have cb0 : w1.cell? ⟨w.heap.size, 0, none⟩ = some (.int .i64 1) := by rw [hw1]; go_simp
   have cb1 : w1.cell? ⟨w.heap.size, 1, none⟩ = some (.int .i64 a) := by rw [hw1]; go_simp
   have cb2 : w1.cell? ⟨w.heap.size, 2, none⟩ = some (.int .i64 b) := by rw [hw1]; go_simp
   have cw0 : w1.cell? ⟨w.heap.size + 1, 0, none⟩ = some (.string ⟨#[116, 97, 107, 101]⟩) := by rw [hw1]; go_simp
   have cw1 : w1.cell? ⟨w.heap.size + 1, 1, none⟩ = some (.string ⟨#[116, 117, 114, 110]⟩) := by rw [hw1]; go_simp
   have cw2 : w1.cell? ⟨w.heap.size + 1, 2, none⟩ = some (.string ⟨#[117, 112]⟩) := by rw [hw1]; go_simp
   have cw3 : w1.cell? ⟨w.heap.size + 1, 3, none⟩ = some (.string ⟨#[100, 111, 119, 110]⟩) := by rw [hw1]; go_simp
   have cw4 : w1.cell? ⟨w.heap.size + 1, 4, none⟩ = some (.string ⟨#[98, 97, 99, 107]⟩) := by rw [hw1]; go_simp
   clear hw1
   simp only [World.size_alloc]
   go_wp2_with fail
   refine (namesNone_at 1 a b _).mono ?_
   rintro e wn ⟨rfl, hbn⟩
   obtain ⟨hcn, hfn⟩ := bcell hbn
   have hzn := hbn.size
   rw [da]
   go_wp2
   go_ret
   exact ⟨by rw [HE.out]; rfl, by exact zb⟩
set_option maxRecDepth 100000 in
set_option maxHeartbeats 2000000 in
theorem implText_word2 (a b : Int) (w : World) : Calls Tryz.prog 15 #[.agg #[.int .i64 2, .int .i64 a, .int .i64 b]] w fun e w' => e = .returned (.string (txt (deedT ⟨2, a, b⟩))) ∧ Below w.heap.size w w' := by
 by_cases h : a = 0 ∧ b = 0
 · have da : decide (a = 0 ∧ b = 0) = true := decide_eq_true h
   have HE := Lib.hid (show deedT ⟨2, a, b⟩ = [117, 112] by rw [h.1, h.2]; decide)
   clear h
   go_enter Tryz.func15, Tryz.ntmps15
   go_wp2_with fail
   refine (deedWords_at _).mono ?_
   rintro e w1 ⟨rfl, hw1⟩
   have hz1 : w1.heap.size = w.heap.size + 2 := by rw [hw1]; simp
   have hb1 : Below w.heap.size w w1 := by rw [hw1]; exact ((Below.refl _ _).alloc (Nat.le_refl _) _).alloc (by simp) _
   have cb0 : w1.cell? ⟨w.heap.size, 0, none⟩ = some (.int .i64 2) := by rw [hw1]; go_simp
   have cb1 : w1.cell? ⟨w.heap.size, 1, none⟩ = some (.int .i64 a) := by rw [hw1]; go_simp
   have cb2 : w1.cell? ⟨w.heap.size, 2, none⟩ = some (.int .i64 b) := by rw [hw1]; go_simp
   have cw0 : w1.cell? ⟨w.heap.size + 1, 0, none⟩ = some (.string ⟨#[116, 97, 107, 101]⟩) := by rw [hw1]; go_simp
   have cw1 : w1.cell? ⟨w.heap.size + 1, 1, none⟩ = some (.string ⟨#[116, 117, 114, 110]⟩) := by rw [hw1]; go_simp
   have cw2 : w1.cell? ⟨w.heap.size + 1, 2, none⟩ = some (.string ⟨#[117, 112]⟩) := by rw [hw1]; go_simp
   have cw3 : w1.cell? ⟨w.heap.size + 1, 3, none⟩ = some (.string ⟨#[100, 111, 119, 110]⟩) := by rw [hw1]; go_simp
   have cw4 : w1.cell? ⟨w.heap.size + 1, 4, none⟩ = some (.string ⟨#[98, 97, 99, 107]⟩) := by rw [hw1]; go_simp
   clear hw1
   simp only [World.size_alloc]
   go_wp2_with fail
   refine (namesNone_at 2 a b _).mono ?_
   rintro e wn ⟨rfl, hbn⟩
   obtain ⟨hcn, hfn⟩ := bcell hbn
   have hzn := hbn.size
   rw [da]
   have cw := (hbn.cell (p := ⟨w.heap.size + 1, 2, none⟩) (by show w.heap.size + 1 < _; omega)).trans cw2
   have cb := (hbn.cell (p := ⟨w.heap.size, 0, none⟩) (by show w.heap.size < _; omega)).trans cb0
   go_wp2
   go_ret
   exact ⟨by rw [HE.out]; rfl, by exact zb⟩
 · have da : decide (a = 0 ∧ b = 0) = false := decide_eq_false h
   have HE := Lib.hid (deedT_named (k := 2) zd h)
   clear h
   go_enter Tryz.func15, Tryz.ntmps15
   go_wp2_with fail
   refine (deedWords_at _).mono ?_
   rintro e w1 ⟨rfl, hw1⟩
   have hz1 : w1.heap.size = w.heap.size + 2 := by rw [hw1]; simp
   have hb1 : Below w.heap.size w w1 := by rw [hw1]; exact ((Below.refl _ _).alloc (Nat.le_refl _) _).alloc (by simp) _
   have cb0 : w1.cell? ⟨w.heap.size, 0, none⟩ = some (.int .i64 2) := by rw [hw1]; go_simp
   have cb1 : w1.cell? ⟨w.heap.size, 1, none⟩ = some (.int .i64 a) := by rw [hw1]; go_simp
   have cb2 : w1.cell? ⟨w.heap.size, 2, none⟩ = some (.int .i64 b) := by rw [hw1]; go_simp
   have cw0 : w1.cell? ⟨w.heap.size + 1, 0, none⟩ = some (.string ⟨#[116, 97, 107, 101]⟩) := by rw [hw1]; go_simp
   have cw1 : w1.cell? ⟨w.heap.size + 1, 1, none⟩ = some (.string ⟨#[116, 117, 114, 110]⟩) := by rw [hw1]; go_simp
   have cw2 : w1.cell? ⟨w.heap.size + 1, 2, none⟩ = some (.string ⟨#[117, 112]⟩) := by rw [hw1]; go_simp
   have cw3 : w1.cell? ⟨w.heap.size + 1, 3, none⟩ = some (.string ⟨#[100, 111, 119, 110]⟩) := by rw [hw1]; go_simp
   have cw4 : w1.cell? ⟨w.heap.size + 1, 4, none⟩ = some (.string ⟨#[98, 97, 99, 107]⟩) := by rw [hw1]; go_simp
   clear hw1
   simp only [World.size_alloc]
   go_wp2_with fail
   refine (namesNone_at 2 a b _).mono ?_
   rintro e wn ⟨rfl, hbn⟩
   obtain ⟨hcn, hfn⟩ := bcell hbn
   have hzn := hbn.size
   rw [da]
   go_wp2
   go_ret
   exact ⟨by rw [HE.out]; rfl, by exact zb⟩
set_option maxRecDepth 100000 in
set_option maxHeartbeats 2000000 in
theorem implText_word3 (a b : Int) (w : World) : Calls Tryz.prog 15 #[.agg #[.int .i64 3, .int .i64 a, .int .i64 b]] w fun e w' => e = .returned (.string (txt (deedT ⟨3, a, b⟩))) ∧ Below w.heap.size w w' := by
 by_cases h : a = 0 ∧ b = 0
 · have da : decide (a = 0 ∧ b = 0) = true := decide_eq_true h
   have HE := Lib.hid (show deedT ⟨3, a, b⟩ = [100, 111, 119, 110] by rw [h.1, h.2]; decide)
   clear h
   go_enter Tryz.func15, Tryz.ntmps15
   go_wp2_with fail
   refine (deedWords_at _).mono ?_
   rintro e w1 ⟨rfl, hw1⟩
   have hz1 : w1.heap.size = w.heap.size + 2 := by rw [hw1]; simp
   have hb1 : Below w.heap.size w w1 := by rw [hw1]; exact ((Below.refl _ _).alloc (Nat.le_refl _) _).alloc (by simp) _
   have cb0 : w1.cell? ⟨w.heap.size, 0, none⟩ = some (.int .i64 3) := by rw [hw1]; go_simp
   have cb1 : w1.cell? ⟨w.heap.size, 1, none⟩ = some (.int .i64 a) := by rw [hw1]; go_simp
   have cb2 : w1.cell? ⟨w.heap.size, 2, none⟩ = some (.int .i64 b) := by rw [hw1]; go_simp
   have cw0 : w1.cell? ⟨w.heap.size + 1, 0, none⟩ = some (.string ⟨#[116, 97, 107, 101]⟩) := by rw [hw1]; go_simp
   have cw1 : w1.cell? ⟨w.heap.size + 1, 1, none⟩ = some (.string ⟨#[116, 117, 114, 110]⟩) := by rw [hw1]; go_simp
   have cw2 : w1.cell? ⟨w.heap.size + 1, 2, none⟩ = some (.string ⟨#[117, 112]⟩) := by rw [hw1]; go_simp
   have cw3 : w1.cell? ⟨w.heap.size + 1, 3, none⟩ = some (.string ⟨#[100, 111, 119, 110]⟩) := by rw [hw1]; go_simp
   have cw4 : w1.cell? ⟨w.heap.size + 1, 4, none⟩ = some (.string ⟨#[98, 97, 99, 107]⟩) := by rw [hw1]; go_simp
   clear hw1
   simp only [World.size_alloc]
   go_wp2_with fail
   refine (namesNone_at 3 a b _).mono ?_
   rintro e wn ⟨rfl, hbn⟩
   obtain ⟨hcn, hfn⟩ := bcell hbn
   have hzn := hbn.size
   rw [da]
   have cw := (hbn.cell (p := ⟨w.heap.size + 1, 3, none⟩) (by show w.heap.size + 1 < _; omega)).trans cw3
   have cb := (hbn.cell (p := ⟨w.heap.size, 0, none⟩) (by show w.heap.size < _; omega)).trans cb0
   go_wp2
   go_ret
   exact ⟨by rw [HE.out]; rfl, by exact zb⟩
 · have da : decide (a = 0 ∧ b = 0) = false := decide_eq_false h
   have HE := Lib.hid (deedT_named (k := 3) zd h)
   clear h
   go_enter Tryz.func15, Tryz.ntmps15
   go_wp2_with fail
   refine (deedWords_at _).mono ?_
   rintro e w1 ⟨rfl, hw1⟩
   have hz1 : w1.heap.size = w.heap.size + 2 := by rw [hw1]; simp
   have hb1 : Below w.heap.size w w1 := by rw [hw1]; exact ((Below.refl _ _).alloc (Nat.le_refl _) _).alloc (by simp) _
   have cb0 : w1.cell? ⟨w.heap.size, 0, none⟩ = some (.int .i64 3) := by rw [hw1]; go_simp
   have cb1 : w1.cell? ⟨w.heap.size, 1, none⟩ = some (.int .i64 a) := by rw [hw1]; go_simp
   have cb2 : w1.cell? ⟨w.heap.size, 2, none⟩ = some (.int .i64 b) := by rw [hw1]; go_simp
   have cw0 : w1.cell? ⟨w.heap.size + 1, 0, none⟩ = some (.string ⟨#[116, 97, 107, 101]⟩) := by rw [hw1]; go_simp
   have cw1 : w1.cell? ⟨w.heap.size + 1, 1, none⟩ = some (.string ⟨#[116, 117, 114, 110]⟩) := by rw [hw1]; go_simp
   have cw2 : w1.cell? ⟨w.heap.size + 1, 2, none⟩ = some (.string ⟨#[117, 112]⟩) := by rw [hw1]; go_simp
   have cw3 : w1.cell? ⟨w.heap.size + 1, 3, none⟩ = some (.string ⟨#[100, 111, 119, 110]⟩) := by rw [hw1]; go_simp
   have cw4 : w1.cell? ⟨w.heap.size + 1, 4, none⟩ = some (.string ⟨#[98, 97, 99, 107]⟩) := by rw [hw1]; go_simp
   clear hw1
   simp only [World.size_alloc]
   go_wp2_with fail
   refine (namesNone_at 3 a b _).mono ?_
   rintro e wn ⟨rfl, hbn⟩
   obtain ⟨hcn, hfn⟩ := bcell hbn
   have hzn := hbn.size
   rw [da]
   go_wp2
   go_ret
   exact ⟨by rw [HE.out]; rfl, by exact zb⟩
set_option maxRecDepth 100000 in
set_option maxHeartbeats 2000000 in
theorem implText_word4 (a b : Int) (w : World) : Calls Tryz.prog 15 #[.agg #[.int .i64 4, .int .i64 a, .int .i64 b]] w fun e w' => e = .returned (.string (txt (deedT ⟨4, a, b⟩))) ∧ Below w.heap.size w w' := by
 by_cases h : a = 0 ∧ b = 0
 · have da : decide (a = 0 ∧ b = 0) = true := decide_eq_true h
   have HE := Lib.hid (show deedT ⟨4, a, b⟩ = [98, 97, 99, 107] by rw [h.1, h.2]; decide)
   clear h
   go_enter Tryz.func15, Tryz.ntmps15
   go_wp2_with fail
   refine (deedWords_at _).mono ?_
   rintro e w1 ⟨rfl, hw1⟩
   have hz1 : w1.heap.size = w.heap.size + 2 := by rw [hw1]; simp
   have hb1 : Below w.heap.size w w1 := by rw [hw1]; exact ((Below.refl _ _).alloc (Nat.le_refl _) _).alloc (by simp) _
   have cb0 : w1.cell? ⟨w.heap.size, 0, none⟩ = some (.int .i64 4) := by rw [hw1]; go_simp
   have cb1 : w1.cell? ⟨w.heap.size, 1, none⟩ = some (.int .i64 a) := by rw [hw1]; go_simp
   have cb2 : w1.cell? ⟨w.heap.size, 2, none⟩ = some (.int .i64 b) := by rw [hw1]; go_simp
   have cw0 : w1.cell? ⟨w.heap.size + 1, 0, none⟩ = some (.string ⟨#[116, 97, 107, 101]⟩) := by rw [hw1]; go_simp
   have cw1 : w1.cell? ⟨w.heap.size + 1, 1, none⟩ = some (.string ⟨#[116, 117, 114, 110]⟩) := by rw [hw1]; go_simp
   have cw2 : w1.cell? ⟨w.heap.size + 1, 2, none⟩ = some (.string ⟨#[117, 112]⟩) := by rw [hw1]; go_simp
   have cw3 : w1.cell? ⟨w.heap.size + 1, 3, none⟩ = some (.string ⟨#[100, 111, 119, 110]⟩) := by rw [hw1]; go_simp
   have cw4 : w1.cell? ⟨w.heap.size + 1, 4, none⟩ = some (.string ⟨#[98, 97, 99, 107]⟩) := by rw [hw1]; go_simp
   clear hw1
   simp only [World.size_alloc]
   go_wp2_with fail
   refine (namesNone_at 4 a b _).mono ?_
   rintro e wn ⟨rfl, hbn⟩
   obtain ⟨hcn, hfn⟩ := bcell hbn
   have hzn := hbn.size
   rw [da]
   have cw := (hbn.cell (p := ⟨w.heap.size + 1, 4, none⟩) (by show w.heap.size + 1 < _; omega)).trans cw4
   have cb := (hbn.cell (p := ⟨w.heap.size, 0, none⟩) (by show w.heap.size < _; omega)).trans cb0
   go_wp2
   go_ret
   exact ⟨by rw [HE.out]; rfl, by exact zb⟩
 · have da : decide (a = 0 ∧ b = 0) = false := decide_eq_false h
   have HE := Lib.hid (deedT_named (k := 4) zd h)
   clear h
   go_enter Tryz.func15, Tryz.ntmps15
   go_wp2_with fail
   refine (deedWords_at _).mono ?_
   rintro e w1 ⟨rfl, hw1⟩
   have hz1 : w1.heap.size = w.heap.size + 2 := by rw [hw1]; simp
   have hb1 : Below w.heap.size w w1 := by rw [hw1]; exact ((Below.refl _ _).alloc (Nat.le_refl _) _).alloc (by simp) _
   have cb0 : w1.cell? ⟨w.heap.size, 0, none⟩ = some (.int .i64 4) := by rw [hw1]; go_simp
   have cb1 : w1.cell? ⟨w.heap.size, 1, none⟩ = some (.int .i64 a) := by rw [hw1]; go_simp
   have cb2 : w1.cell? ⟨w.heap.size, 2, none⟩ = some (.int .i64 b) := by rw [hw1]; go_simp
   have cw0 : w1.cell? ⟨w.heap.size + 1, 0, none⟩ = some (.string ⟨#[116, 97, 107, 101]⟩) := by rw [hw1]; go_simp
   have cw1 : w1.cell? ⟨w.heap.size + 1, 1, none⟩ = some (.string ⟨#[116, 117, 114, 110]⟩) := by rw [hw1]; go_simp
   have cw2 : w1.cell? ⟨w.heap.size + 1, 2, none⟩ = some (.string ⟨#[117, 112]⟩) := by rw [hw1]; go_simp
   have cw3 : w1.cell? ⟨w.heap.size + 1, 3, none⟩ = some (.string ⟨#[100, 111, 119, 110]⟩) := by rw [hw1]; go_simp
   have cw4 : w1.cell? ⟨w.heap.size + 1, 4, none⟩ = some (.string ⟨#[98, 97, 99, 107]⟩) := by rw [hw1]; go_simp
   clear hw1
   simp only [World.size_alloc]
   go_wp2_with fail
   refine (namesNone_at 4 a b _).mono ?_
   rintro e wn ⟨rfl, hbn⟩
   obtain ⟨hcn, hfn⟩ := bcell hbn
   have hzn := hbn.size
   rw [da]
   go_wp2
   go_ret
   exact ⟨by rw [HE.out]; rfl, by exact zb⟩
set_option maxRecDepth 100000 in
set_option maxHeartbeats 2000000 in
theorem implText_off (k a b : Int) (w : World) (h : k < 0 ∨ 4 < k) : Calls Tryz.prog 15 #[.agg #[.int .i64 k, .int .i64 a, .int .i64 b]] w fun e w' => e = .returned (.string (txt (deedT ⟨k, a, b⟩))) ∧ Below w.heap.size w w' := by
 have HE := Lib.hid (deedT_other (a := a) (b := b) h)
 have hk0 : ¬ k = 0 := by omega
 rcases h with h | h
 · have h1 : ¬ (0 < k) := by omega
   go_enter Tryz.func15, Tryz.ntmps15
   go_wp2_with fail
   refine (deedWords_at _).mono ?_
   rintro e w1 ⟨rfl, hw1⟩
   have hz1 : w1.heap.size = w.heap.size + 2 := by rw [hw1]; simp
   have hb1 : Below w.heap.size w w1 := by rw [hw1]; exact ((Below.refl _ _).alloc (Nat.le_refl _) _).alloc (by simp) _
   have cb0 : w1.cell? ⟨w.heap.size, 0, none⟩ = some (.int .i64 k) := by rw [hw1]; go_simp
   have cb1 : w1.cell? ⟨w.heap.size, 1, none⟩ = some (.int .i64 a) := by rw [hw1]; go_simp
   have cb2 : w1.cell? ⟨w.heap.size, 2, none⟩ = some (.int .i64 b) := by rw [hw1]; go_simp
   have cw0 : w1.cell? ⟨w.heap.size + 1, 0, none⟩ = some (.string ⟨#[116, 97, 107, 101]⟩) := by rw [hw1]; go_simp
   have cw1 : w1.cell? ⟨w.heap.size + 1, 1, none⟩ = some (.string ⟨#[116, 117, 114, 110]⟩) := by rw [hw1]; go_simp
   have cw2 : w1.cell? ⟨w.heap.size + 1, 2, none⟩ = some (.string ⟨#[117, 112]⟩) := by rw [hw1]; go_simp
   have cw3 : w1.cell? ⟨w.heap.size + 1, 3, none⟩ = some (.string ⟨#[100, 111, 119, 110]⟩) := by rw [hw1]; go_simp
   have cw4 : w1.cell? ⟨w.heap.size + 1, 4, none⟩ = some (.string ⟨#[98, 97, 99, 107]⟩) := by rw [hw1]; go_simp
   clear hw1
   simp only [World.size_alloc]
   go_wp2
   go_ret
   exact ⟨by rw [HE.out]; rfl, by exact zb⟩
 · have h1 : (0 < k) := by omega
   have h2 : ¬ (k < 5) := by omega
   go_enter Tryz.func15, Tryz.ntmps15
   go_wp2_with fail
   refine (deedWords_at _).mono ?_
   rintro e w1 ⟨rfl, hw1⟩
   have hz1 : w1.heap.size = w.heap.size + 2 := by rw [hw1]; simp
   have hb1 : Below w.heap.size w w1 := by rw [hw1]; exact ((Below.refl _ _).alloc (Nat.le_refl _) _).alloc (by simp) _
   have cb0 : w1.cell? ⟨w.heap.size, 0, none⟩ = some (.int .i64 k) := by rw [hw1]; go_simp
   have cb1 : w1.cell? ⟨w.heap.size, 1, none⟩ = some (.int .i64 a) := by rw [hw1]; go_simp
   have cb2 : w1.cell? ⟨w.heap.size, 2, none⟩ = some (.int .i64 b) := by rw [hw1]; go_simp
   have cw0 : w1.cell? ⟨w.heap.size + 1, 0, none⟩ = some (.string ⟨#[116, 97, 107, 101]⟩) := by rw [hw1]; go_simp
   have cw1 : w1.cell? ⟨w.heap.size + 1, 1, none⟩ = some (.string ⟨#[116, 117, 114, 110]⟩) := by rw [hw1]; go_simp
   have cw2 : w1.cell? ⟨w.heap.size + 1, 2, none⟩ = some (.string ⟨#[117, 112]⟩) := by rw [hw1]; go_simp
   have cw3 : w1.cell? ⟨w.heap.size + 1, 3, none⟩ = some (.string ⟨#[100, 111, 119, 110]⟩) := by rw [hw1]; go_simp
   have cw4 : w1.cell? ⟨w.heap.size + 1, 4, none⟩ = some (.string ⟨#[98, 97, 99, 107]⟩) := by rw [hw1]; go_simp
   clear hw1
   simp only [World.size_alloc]
   go_wp2
   go_ret
   exact ⟨by rw [HE.out]; rfl, by exact zb⟩
theorem implText_any (k a b : Int) (w : World) (ht : PowTab w) : Calls Tryz.prog 15 #[.agg #[.int .i64 k, .int .i64 a, .int .i64 b]] w fun e w' => e = .returned (.string (txt (deedT ⟨k, a, b⟩))) ∧ Below w.heap.size w w' := by
 rcases (show k = 0 ∨ k = 1 ∨ k = 2 ∨ k = 3 ∨ k = 4 ∨ (k < 0 ∨ 4 < k) by omega) with rfl | rfl | rfl | rfl | rfl | h
 · by_cases ha : -9 ≤ a ∧ a ≤ 9
   · by_cases hb : -9 ≤ b ∧ b ≤ 9
     · exact implText_take a b w ht ha.1 ha.2 hb.1 hb.2
     · exact implText_notB a b w ha hb
   · exact implText_notA a b w ha
 · exact implText_word1 a b w
 · exact implText_word2 a b w
 · exact implText_word3 a b w
 · exact implText_word4 a b w
 · exact implText_off k a b w h
end
end Go.Proofs.YtblphilcmfabkaaGreatDoor
