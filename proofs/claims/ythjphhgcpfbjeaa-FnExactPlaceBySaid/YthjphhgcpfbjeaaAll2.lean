/- Contracts and laws that the statement's proof stands on, one text behind the other. -/
import Derived.Test.YthjphhgcpfbjeaaAll1
import Derived.Test.YthjphhgcpfbjeaaHvRankDraws
import Derived.Test.YthjphhgcpfbjeaaHvRankParts
import Derived.Maps.OwnIn

namespace Go.Proofs.Ythjphhgcpfbjeaa
open Go.RowKit
/-- What a draw of a number returns. -/
def DrawnInt (w : World) (e : Ending) (w' : World) : Prop := ∃ a : Int, e = .returned (.int .i64 a) ∧ Below w.heap.size w w'
set_option maxHeartbeats 2000000 in
theorem drawPrimeOk_any (w : World) (a : Option Addr) (len cap : Nat) (zs : List Int) (h : IsRow w a len cap zs) :
    Calls Try.prog 13 #[.slice a len cap] w (DrawnInt w) := by
  go_enter Try.func13, Try.ntmps13
  go_wp2_with fail
  refine (open_any _ _ _ _ zs h).mono ?_
  rintro e w1 ⟨rfl, hR1, hh1, hzR1⟩
  try simp only [World.size_alloc] at hzR1
  try simp only [World.size_alloc] at hR1
  obtain ⟨hc1, hf1⟩ := bcell hh1
  have hz1 := hh1.size
  try simp only [World.size_alloc] at hz1
  go_wp2_with fail
  refine (pick_any w.heap.size 0 60 _ hR1 (by omega) (by omega)).mono ?_
  rintro e w2 ⟨v2, rfl, va2, vb2, hR2, hh2⟩
  have vc2 : v2 ≤ max (60 - 1) 0 := by omega
  clear vb2
  obtain ⟨hc2, hf2⟩ := gcell hh2
  have hz2 := hh2.size
  try simp only [World.size_alloc] at hz2
  clear hc2 hf2
  go_wp2_with fail
  refine (l20Prime_any w.heap.size (0 + 1) _ hR2 (by omega)).mono ?_
  rintro e w3 ⟨v3, rfl, hR3, hh3⟩
  obtain ⟨hc3, hf3⟩ := gcell hh3
  have hz3 := hh3.size
  try simp only [World.size_alloc] at hz3
  clear hc3 hf3
  go_wp2_with fail
  refine (pick_any w.heap.size (0 + 1 + 3) 5 _ (hR3.alloc _) (by omega) (by omega)).mono ?_
  rintro e w4 ⟨v4, rfl, va4, vb4, hR4, hh4⟩
  have vc4 : v4 ≤ max (5 - 1) 0 := by omega
  clear vb4
  obtain ⟨hc4, hf4⟩ := gcell hh4
  have hz4 := hh4.size
  try simp only [World.size_alloc] at hz4
  have hl4 : w3.heap.size < w4.heap.size := by omega
  rcases (show v4 / 2 = 0 ∨ v4 / 2 = 1 ∨ v4 / 2 = 2 by omega) with hq | hq | hq
  · have hcv : w4.cell? ⟨w3.heap.size, 0, none⟩ = some (.int .i64 v2) := (hc4 w3.heap.size 0 (by simp) (by omega)).trans (by go_simp)
    go_wp2
    go_ret
    exact ⟨_, rfl, by (repeat (first | exact Below.refl _ _ | refine Below.setCell ?_ (by first | omega | (simp <;> omega)) _ | refine Below.alloc ?_ (by first | omega | (simp <;> omega)) _ | refine Below.drew ?_ | refine Below.trans ?_ (Below.mono (by assumption) (by first | omega | (simp <;> omega))) | refine Below.grown ?_ (by assumption) (by first | omega | (simp <;> omega)) (fun k e => by cases e; first | omega | (simp <;> omega))))⟩
  · have hcv : w4.cell? ⟨w3.heap.size, 1, none⟩ = some (.int .i64 v3) := (hc4 w3.heap.size 1 (by simp) (by omega)).trans (by go_simp)
    go_wp2
    go_ret
    exact ⟨_, rfl, by (repeat (first | exact Below.refl _ _ | refine Below.setCell ?_ (by first | omega | (simp <;> omega)) _ | refine Below.alloc ?_ (by first | omega | (simp <;> omega)) _ | refine Below.drew ?_ | refine Below.trans ?_ (Below.mono (by assumption) (by first | omega | (simp <;> omega))) | refine Below.grown ?_ (by assumption) (by first | omega | (simp <;> omega)) (fun k e => by cases e; first | omega | (simp <;> omega))))⟩
  · have hcv : w4.cell? ⟨w3.heap.size, 2, none⟩ = some (.int .i64 361) := (hc4 w3.heap.size 2 (by simp) (by omega)).trans (by go_simp)
    go_wp2
    go_ret
    exact ⟨_, rfl, by (repeat (first | exact Below.refl _ _ | refine Below.setCell ?_ (by first | omega | (simp <;> omega)) _ | refine Below.alloc ?_ (by first | omega | (simp <;> omega)) _ | refine Below.drew ?_ | refine Below.trans ?_ (Below.mono (by assumption) (by first | omega | (simp <;> omega))) | refine Below.grown ?_ (by assumption) (by first | omega | (simp <;> omega)) (fun k e => by cases e; first | omega | (simp <;> omega))))⟩
set_option maxHeartbeats 2000000 in
theorem drawSquareSign_any (w : World) (a : Option Addr) (len cap : Nat) (zs : List Int) (h : IsRow w a len cap zs) :
    Calls Try.prog 16 #[.slice a len cap] w (DrawnNums w) := by
  go_enter Try.func16, Try.ntmps16
  go_wp2_with fail
  refine (open_any _ _ _ _ zs h).mono ?_
  rintro e w1 ⟨rfl, hR1, hh1, hzR1⟩
  try simp only [World.size_alloc] at hzR1
  try simp only [World.size_alloc] at hR1
  obtain ⟨hc1, hf1⟩ := bcell hh1
  have hz1 := hh1.size
  try simp only [World.size_alloc] at hz1
  go_wp2_with fail
  refine (pick_any w.heap.size 0 200 _ hR1 (by omega) (by omega)).mono ?_
  rintro e w2 ⟨v2, rfl, va2, vb2, hR2, hh2⟩
  have vc2 : v2 ≤ max (200 - 1) 0 := by omega
  clear vb2
  obtain ⟨hc2, hf2⟩ := gcell hh2
  have hz2 := hh2.size
  try simp only [World.size_alloc] at hz2
  clear hc2 hf2
  go_wp2_with fail
  refine (pick_any w.heap.size (0 + 1) 30 _ hR2 (by omega) (by omega)).mono ?_
  rintro e w3 ⟨v3, rfl, va3, vb3, hR3, hh3⟩
  have vc3 : v3 ≤ max (30 - 1) 0 := by omega
  clear vb3
  obtain ⟨hc3, hf3⟩ := gcell hh3
  have hz3 := hh3.size
  try simp only [World.size_alloc] at hz3
  clear hc3 hf3
  go_wp2_with fail
  refine (l20Prime_any w.heap.size (0 + 1 + 1) _ hR3 (by omega)).mono ?_
  rintro e w4 ⟨v4, rfl, hR4, hh4⟩
  obtain ⟨hc4, hf4⟩ := gcell hh4
  have hz4 := hh4.size
  try simp only [World.size_alloc] at hz4
  clear hc4 hf4
  go_wp2
  refine bodyPost_ret (v := .tuple #[.int .i64 (v2 - 100 + v3 / 29 * 20000), .int .i64 v4]) (by simp [results, Try.results16, go_sem]) rfl ⟨_, _, rfl, ?_⟩
  (repeat (first | exact Below.refl _ _ | refine Below.setCell ?_ (by first | omega | (simp <;> omega)) _ | refine Below.alloc ?_ (by first | omega | (simp <;> omega)) _ | refine Below.drew ?_ | refine Below.trans ?_ (Below.mono (by assumption) (by first | omega | (simp <;> omega))) | refine Below.grown ?_ (by assumption) (by first | omega | (simp <;> omega)) (fun k e => by cases e; first | omega | (simp <;> omega))))
set_option maxHeartbeats 2000000 in
theorem drawFittingOk_any (w : World) (a : Option Addr) (len cap : Nat) (zs : List Int) (h : IsRow w a len cap zs) :
    Calls Try.prog 21 #[.slice a len cap] w (DrawnPairNum w) := by
  go_enter Try.func21, Try.ntmps21
  go_wp2_with fail
  refine (open_any _ _ _ _ zs (h.below ((Below.refl _ _).alloc (Nat.le_refl _) _))).mono ?_
  rintro e w1 ⟨rfl, hR1, hh1, hzR1⟩
  try simp only [World.size_alloc] at hzR1
  try simp only [World.size_alloc] at hR1
  obtain ⟨hc1, hf1⟩ := bcell hh1
  have hz1 := hh1.size
  try simp only [World.size_alloc] at hz1
  have hz1_0 : w.heap.size < w1.heap.size := by omega
  have kb1_0_0 : w1.cell? ⟨w.heap.size, 0, none⟩ = some (.int .i64 0) := by go_simp
  have kf1_0_0 : w1.frozen? ⟨w.heap.size, 0, none⟩ = false := by go_simp
  have kb1_0_1 : w1.cell? ⟨w.heap.size, 1, none⟩ = some (.int .i64 0) := by go_simp
  have kf1_0_1 : w1.frozen? ⟨w.heap.size, 1, none⟩ = false := by go_simp
  clear hc1 hf1
  go_wp2_with fail
  refine (l20Pair_any (w.heap.size + 1) 0 14 _ hR1 (by omega) (by omega)).mono ?_
  rintro e w2 ⟨p2, q2, rfl, pa2, pb2, qa2, qb2, hR2, hh2⟩
  obtain ⟨hc2, hf2⟩ := gcell hh2
  have hz2 := hh2.size
  try simp only [World.size_alloc] at hz2
  have hz2_0 : w.heap.size < w2.heap.size := by omega
  have hn2_0 : ¬ w.heap.size = (w.heap.size + 1) := by omega
  have kb2_0_0 : w2.cell? ⟨w.heap.size, 0, none⟩ = some (.int .i64 0) := by go_simp
  have kf2_0_0 : w2.frozen? ⟨w.heap.size, 0, none⟩ = false := by go_simp
  have kb2_0_1 : w2.cell? ⟨w.heap.size, 1, none⟩ = some (.int .i64 0) := by go_simp
  have kf2_0_1 : w2.frozen? ⟨w.heap.size, 1, none⟩ = false := by go_simp
  clear hc2 hf2
  go_wp2_with fail
  refine (l20Prime_any (w.heap.size + 1) (0 + 5) _ hR2 (by omega)).mono ?_
  rintro e w3 ⟨v3, rfl, hR3, hh3⟩
  obtain ⟨hc3, hf3⟩ := gcell hh3
  have hz3 := hh3.size
  try simp only [World.size_alloc] at hz3
  have hz3_0 : w.heap.size < w3.heap.size := by omega
  have hn3_0 : ¬ w.heap.size = (w.heap.size + 1) := by omega
  have kb3_0_0 : w3.cell? ⟨w.heap.size, 0, none⟩ = some (.int .i64 0) := by go_simp
  have kf3_0_0 : w3.frozen? ⟨w.heap.size, 0, none⟩ = false := by go_simp
  have kb3_0_1 : w3.cell? ⟨w.heap.size, 1, none⟩ = some (.int .i64 0) := by go_simp
  have kf3_0_1 : w3.frozen? ⟨w.heap.size, 1, none⟩ = false := by go_simp
  clear hc3 hf3
  go_wp2
  refine bodyPost_ret (v := .tuple #[pr p2 q2, .int .i64 v3]) (by simp [results, Try.results21, go_sem, kb3_0_0, kb3_0_1]) rfl ⟨_, _, _, rfl, ?_⟩
  (repeat (first | exact Below.refl _ _ | refine Below.setCell ?_ (by first | omega | (simp <;> omega)) _ | refine Below.alloc ?_ (by first | omega | (simp <;> omega)) _ | refine Below.drew ?_ | refine Below.trans ?_ (Below.mono (by assumption) (by first | omega | (simp <;> omega))) | refine Below.grown ?_ (by assumption) (by first | omega | (simp <;> omega)) (fun k e => by cases e; first | omega | (simp <;> omega))))
set_option maxHeartbeats 2000000 in
theorem drawPlaceBy_any (w : World) (a : Option Addr) (len cap : Nat) (zs : List Int) (h : IsRow w a len cap zs) :
    Calls Try.prog 26 #[.slice a len cap] w (DrawnPairNum w) := by
  go_enter Try.func26, Try.ntmps26
  go_wp2_with fail
  refine (drawFittingOk_any _ _ _ _ zs (h.below ((Below.refl _ _).alloc (Nat.le_refl _) _))).mono ?_
  rintro e w1 ⟨p1, q1, n1, rfl, hh1⟩
  obtain ⟨hc1, hf1⟩ := bcell hh1
  have hz1 := hh1.size
  try simp only [World.size_alloc] at hz1
  have hz1_0 : w.heap.size < w1.heap.size := by omega
  have kb1_0_0 : w1.cell? ⟨w.heap.size, 0, none⟩ = some (.int .i64 0) := by go_simp
  have kf1_0_0 : w1.frozen? ⟨w.heap.size, 0, none⟩ = false := by go_simp
  have kb1_0_1 : w1.cell? ⟨w.heap.size, 1, none⟩ = some (.int .i64 0) := by go_simp
  have kf1_0_1 : w1.frozen? ⟨w.heap.size, 1, none⟩ = false := by go_simp
  clear hc1 hf1
  go_wp2
  refine bodyPost_ret (v := .tuple #[pr p1 q1, .int .i64 n1]) (by simp [results, Try.results26, go_sem, kb1_0_0, kb1_0_1]) rfl ⟨_, _, _, rfl, ?_⟩
  (repeat (first | exact Below.refl _ _ | refine Below.setCell ?_ (by first | omega | (simp <;> omega)) _ | refine Below.alloc ?_ (by first | omega | (simp <;> omega)) _ | refine Below.drew ?_ | refine Below.trans ?_ (Below.mono (by assumption) (by first | omega | (simp <;> omega))) | refine Below.grown ?_ (by assumption) (by first | omega | (simp <;> omega)) (fun k e => by cases e; first | omega | (simp <;> omega))))
set_option maxHeartbeats 2000000 in
theorem drawAtPrime_any (w : World) (a : Option Addr) (len cap : Nat) (zs : List Int) (h : IsRow w a len cap zs) :
    Calls Try.prog 31 #[.slice a len cap] w (DrawnPairNum w) := by
  go_enter Try.func31, Try.ntmps31
  go_wp2_with fail
  refine (drawFittingOk_any _ _ _ _ zs (h.below ((Below.refl _ _).alloc (Nat.le_refl _) _))).mono ?_
  rintro e w1 ⟨p1, q1, n1, rfl, hh1⟩
  obtain ⟨hc1, hf1⟩ := bcell hh1
  have hz1 := hh1.size
  try simp only [World.size_alloc] at hz1
  have hz1_0 : w.heap.size < w1.heap.size := by omega
  have kb1_0_0 : w1.cell? ⟨w.heap.size, 0, none⟩ = some (.int .i64 0) := by go_simp
  have kf1_0_0 : w1.frozen? ⟨w.heap.size, 0, none⟩ = false := by go_simp
  have kb1_0_1 : w1.cell? ⟨w.heap.size, 1, none⟩ = some (.int .i64 0) := by go_simp
  have kf1_0_1 : w1.frozen? ⟨w.heap.size, 1, none⟩ = false := by go_simp
  clear hc1 hf1
  go_wp2
  refine bodyPost_ret (v := .tuple #[pr p1 q1, .int .i64 n1]) (by simp [results, Try.results31, go_sem, kb1_0_0, kb1_0_1]) rfl ⟨_, _, _, rfl, ?_⟩
  (repeat (first | exact Below.refl _ _ | refine Below.setCell ?_ (by first | omega | (simp <;> omega)) _ | refine Below.alloc ?_ (by first | omega | (simp <;> omega)) _ | refine Below.drew ?_ | refine Below.trans ?_ (Below.mono (by assumption) (by first | omega | (simp <;> omega))) | refine Below.grown ?_ (by assumption) (by first | omega | (simp <;> omega)) (fun k e => by cases e; first | omega | (simp <;> omega))))
end Go.Proofs.Ythjphhgcpfbjeaa
namespace Go.Proofs.Ythjphhgcpfbjeaa
open Go.RowKit Go.Shelf
open Go.Maps (Keyed)
attribute [local go_sem] Oper.semAt_some
theorem intKeyed : Keyed Try.prog 3 := Maps.int_keyed Try.underlying3
theorem intZero (w : World) : (zeroValue 3).run Try.prog w = .ok (.int .i64 0) w := by kernel_rfl
theorem wf_nat {j : Nat} (h : j ≤ 1000000000) : (Lit.int .i64 (j : Int)).wf = true := WalkArith.wf_i64 (by omega)
theorem intKey {j : Nat} (h : j ≤ 1000000000) : keyOf Try.prog 3 (.int .i64 (j : Int)) = some (.int .i64 (j : Int)) := Maps.keyOf_int_mk Try.underlying3 (wf_nat h)
theorem intElem {j : Nat} (h : j ≤ 1000000000) : plainElem (H := Unit) Try.prog 3 (.int .i64 (j : Int)) = some (.lit (.int .i64 (j : Int)), []) := plainElem_int Try.underlying3 (wf_nat h)
/-- What is remembered is right. -/
def MemoOk (p q : Int) (D : DataW Unit) : Prop := ∀ j : Nat, Maps.has D (.int .i64 (j : Int)) = true → D.atKey (.int .i64 (j : Int)) (.lit (.int .i64 0)) = .lit (.int .i64 (rankN p q j : Nat))
theorem MemoOk.empty (p q : Int) : MemoOk p q (.map []) := fun j h => by cases h
theorem MemoOk.put {p q : Int} {D : DataW Unit} (h : MemoOk p q D) (hD : Maps.IsMap D) (j : Nat) : MemoOk p q (D.put (.int .i64 (j : Int)) (.lit (.int .i64 (rankN p q j : Nat)))) := by
  intro i hi
  by_cases he : i = j
  · subst he
    exact Maps.atKey_put_same hD (show WideAt.IsKeyLit (Lit.int .i64 (i : Int)) from trivial) _ _
  · have hne : (Lit.int .i64 (i : Int)) ≠ (Lit.int .i64 (j : Int)) := fun e => he (by injection e with _ e; omega)
    rw [Maps.has_put_other hne] at hi
    rw [Maps.atKey_put_other hne]
    exact h i hi
/-- What the closure holds: the box of the map, that of the pair; the map's block, of at most n entries. -/
def Memo (p q : Int) (K B b n : Nat) (W : World) : Prop :=
  (W.cell? ⟨K, 0, none⟩ = some (.map (some b)) ∧ W.cell? ⟨B, 0, none⟩ = some (.int .i64 p) ∧ W.cell? ⟨B, 1, none⟩ = some (.int .i64 q)) ∧
  ∃ D : DataW Unit, MemoOk p q D ∧ W.ownsMap Try.prog 3 (plainElem Try.prog 3) b n D
theorem grown_below {W W' : World} (h : Below W.heap.size W W') : W.grownBy W' none := ⟨h.os, h.tape, h.output, h.size, fun j hj _ => h.block j hj⟩
theorem Memo.below {p q : Int} {K B b n : Nat} {W W' : World} (h : Memo p q K B b n W) (hb : Below W.heap.size W W') : Memo p q K B b n W' := by
  obtain ⟨⟨x1, x2, x3⟩, D, x4, x5⟩ := h
  exact ⟨⟨cell_below hb x1, cell_below hb x2, cell_below hb x3⟩, D, x4, x5.kept (grown_below hb) (fun e => by cases e)⟩
theorem Memo.kept {p q : Int} {K B b n : Nat} {A V : World} {row : Option Nat} (h : Memo p q K B b n A) (hg : A.grownBy V row) (hr : ∀ r, row = some r → ∃ o : Obj, A.heap[r]? = some o ∧ o.isCells = false) (hne : some b ≠ row) : Memo p q K B b n V := by
  obtain ⟨⟨x1, x2, x3⟩, D, x4, x5⟩ := h
  exact ⟨⟨cell_kept x1 hg hr, cell_kept x2 hg hr, cell_kept x3 hg hr⟩, D, x4, x5.kept hg hne⟩
theorem Memo.set {p q : Int} {K B b n : Nat} {W : World} (h : Memo p q K B b n W) {S : Nat} (h1 : K < S) (h2 : B < S) (h3 : b < S) (o : Nat) (v : Value) : Memo p q K B b n (W.setCell ⟨S, o, none⟩ v) := by
  obtain ⟨⟨x1, x2, x3⟩, D, x4, x5⟩ := h
  exact ⟨⟨(set_other (by omega)).trans x1, (set_other (by omega)).trans x2, (set_other (by omega)).trans x3⟩, D, x4, x5.setCell (a := ⟨S, o, none⟩) (by show b ≠ S; omega) v⟩
theorem Memo.mono {p q : Int} {K B b n n' : Nat} {W : World} (h : Memo p q K B b n W) (hn : n ≤ n') : Memo p q K B b n' W := by
  obtain ⟨x0, D, x4, x5⟩ := h
  exact ⟨x0, D, x4, x5.mono hn⟩
theorem Memo.lt {p q : Int} {K B b n : Nat} {W : World} (h : Memo p q K B b n W) : K < W.heap.size ∧ B < W.heap.size ∧ b < W.heap.size := by
  obtain ⟨⟨x1, x2, x3⟩, D, x4, x5⟩ := h
  exact ⟨World.block_lt_of_cell? _ _ x1, World.block_lt_of_cell? _ _ x2, x5.lt⟩
theorem Memo.isMap {p q : Int} {K B b n : Nat} {W : World} (h : Memo p q K B b n W) : ∃ es c, W.heap[b]? = some (.map es c) := by
  obtain ⟨_, D, _, es, c, hb, _⟩ := h
  exact ⟨es, c, hb⟩
theorem cells_map {w : World} {x b : Nat} {o : Nat} {v : Value} (h : w.cell? ⟨x, o, none⟩ = some v) {es : Array MapEntry} {c : Nat} (hb : w.heap[b]? = some (.map es c)) : some x ≠ some b := by
  intro e
  injection e with e
  subst e
  simp [World.cell?, hb] at h
theorem length_prodL : ∀ L : List Nat, (∀ x ∈ L, 2 ≤ x) → L.length + 1 ≤ prodL L
  | [], _ => Nat.le_refl 1
  | x :: L, h => by
    have h1 := length_prodL L (fun y hy => h y (List.mem_cons_of_mem _ hy))
    have h2 := Nat.mul_le_mul (h x (List.mem_cons_self ..)) h1
    simp only [List.length_cons, prodL]
    omega
theorem ppL_len {n : Nat} (hn : 1 ≤ n) : (ppL n).length < n := by
  obtain ⟨a, b, _⟩ := ppL_spec hn
  have := length_prodL _ b
  omega
set_option maxHeartbeats 1000000 in
theorem ranksBy_any (p q : Int) (w : World) :
    Calls Try.prog 53 #[pr p q] w fun e w' => e = .returned (.func (.func 67) #[] #[.pointer (some ⟨w.heap.size + 1 + 1, 0, none⟩), .pointer (some ⟨w.heap.size, 0, none⟩)]) ∧ Memo p q (w.heap.size + 1 + 1) w.heap.size (w.heap.size + 1) 0 w' ∧ Below w.heap.size w w' := by
  have hmf : ∀ (fn : Fn) (first cap : Array Value) (w : World), (Instr.makeFunc fn first cap).run Try.prog w = .ok (.func fn first cap) w := fun _ _ _ _ => rfl
  have hmm := @run_makeMap Try.prog
  have hO := World.ownsMap_made (H := Unit) (w.alloc (.cells #[.int .i64 p, .int .i64 q] 33)) Try.prog 3 (plainElem Try.prog 3)
  rw [World.size_alloc] at hO
  have HO := Lib.hid hO
  clear hO
  go_enter Try.func53, Try.ntmps53
  go_wp2
  go_ret
  refine ⟨rfl, ⟨⟨by go_simp, by go_simp, by go_simp⟩, _, MemoOk.empty p q, ?_⟩, by (repeat (first | exact Below.refl _ _ | refine Below.setCell ?_ (by first | omega | (simp <;> omega)) _ | refine Below.alloc ?_ (by first | omega | (simp <;> omega)) _ | refine Below.drew ?_ | refine Below.trans ?_ (Below.mono (by assumption) (by first | omega | (simp <;> omega))) | refine Below.grown ?_ (by assumption) (by first | omega | (simp <;> omega)) (fun k e => by cases e; first | omega | (simp <;> omega))))⟩
  exact HO.out.alloc _
end Go.Proofs.Ythjphhgcpfbjeaa
namespace Go.Proofs.Ythjphhgcpfbjeaa
open Go.RowKit Go.Shelf
attribute [local go_sem] Oper.semAt_some
theorem wide_asks (k : FuncId) : Fence.wide.fn k = True := rfl
attribute [local go_sem] wide_asks
/-- A box that holds a number. -/
def NumBox (S : Nat) (v : Int) (W : World) : Prop := W.cell? ⟨S, 0, none⟩ = some (.int .i64 v) ∧ W.frozen? ⟨S, 0, none⟩ = false
theorem NumBox.below {S : Nat} {v : Int} {W W' : World} (h : NumBox S v W) (hb : Below W.heap.size W W') : NumBox S v W' := ⟨cell_below hb h.1, frozen_below hb h.1 h.2⟩
theorem NumBox.kept {S : Nat} {v : Int} {A V : World} {row : Option Nat} (h : NumBox S v A) (hg : A.grownBy V row) (hr : ∀ r, row = some r → ∃ o : Obj, A.heap[r]? = some o ∧ o.isCells = false) : NumBox S v V := ⟨cell_kept h.1 hg hr, (frozen_kept h.1 hg hr).trans h.2⟩
theorem NumBox.set {S : Nat} {v : Int} {W : World} (h : NumBox S v W) (u : Int) : NumBox S u (W.setCell ⟨S, 0, none⟩ (.int .i64 u)) := ⟨set_same h.1, set_frozen h.2⟩
theorem grown_num {w W : World} {b S : Nat} (h : w.grownBy W (some b)) (hS : w.heap.size ≤ S) (o : Nat) (v : Value) : w.grownBy (W.setCell ⟨S, o, none⟩ v) (some b) :=
  h.andThen (grown_set (gr_refl W S) o v) (fun j e => by injection e with e; subst e; exact .inl hS)
theorem grown_then {w W W' : World} {b : Nat} (h : w.grownBy W (some b)) (hb : Below W.heap.size W W') : w.grownBy W' (some b) := h.andThen (grown_below hb) (fun j e => by cases e)
set_option maxRecDepth 100000 in
set_option maxHeartbeats 8000000 in
theorem ranksFn_at (p q : Int) (j K B b n : Nat) (w : World) (hr : rankB p q j = true) (hm : Memo p q K B b n w) (hn : n ≤ 1000000) :
    Calls Try.prog 67 #[.int .i64 j, .pointer (some ⟨K, 0, none⟩), .pointer (some ⟨B, 0, none⟩)] w fun e w' => e = .returned (.int .i64 (rankN p q j : Nat)) ∧ Memo p q K B b (n + 400) w' ∧ w.grownBy w' (some b) := by
  obtain ⟨hp, _, _, _, k, hk, j1, j2, ha⟩ := rankB_true hr
  obtain rfl : j = k := by omega
  clear hr hk
  have hlt := hm.lt
  have hlen := ppL_len j1
  have HP := Lib.hid hp
  have HA := Lib.hid ha
  clear hp
  refine (callsIn_wide (n := 9)).1 ?_
  refine callsIn_of_wp_marks Try.func67 rfl trivial ?_ rfl
  simp only [Try.ntmps67, List.size_toArray, List.length_cons, List.length_nil, Nat.reduceAdd, Nat.reduceSub, Array.replicate_succ, Array.replicate_zero, List.push_toArray, List.append_toArray, List.nil_append, List.cons_append]
  gi_wp2_with fail
  refine (callsIn_wide.2 (primePowers_any j _)).mono ?_
  rintro e w1 ⟨rfl, rfl⟩
  gi_wp2_with fail
  refine wpIn_rangeFunc_counted_map (P := Try.prog) rfl (by omega) (gf := 79) (lb := #[.pointer (some ⟨w.heap.size + 1, 0, none⟩)]) rfl trivial (enters_of Try.func79 (by kernel_rfl) rfl)
    (primePowers_counted 8 (by omega) j (w.heap.size + 1) _ j1 (by omega)) (Below.refl _ _) (fun _ => rfl)
    (fun k W => Memo p q K B b (n + k) W ∧ NumBox w.heap.size (rankN p q (ppK j k) : Nat) W ∧ W.cell? ⟨w.heap.size + 1, 0, none⟩ = some (.int .i64 j) ∧ w.grownBy W (some b))
    (fun _ _ _ => False) ?own (fun _ _ _ _ _ h _ _ => h) (fun _ _ h => h.2.2.1) ?start
    (fun k => { tmps := #[.int .i64 j, .pointer (some ⟨K, 0, none⟩), .pointer (some ⟨B, 0, none⟩), undef, .int .i64 0, .pointer (some ⟨w.heap.size, 0, none⟩), .int .i64 ((ppL j).getD k 0 : Nat), undef, undef, .int .i64 j, .func (.func 79) #[] #[.pointer (some ⟨w.heap.size + 1, 0, none⟩)], .int .i64 ((ppL j).getD k 0 : Nat), undef, undef, undef, undef, undef, undef, undef, undef, undef, undef, undef, undef, undef, undef, undef, undef, undef, undef, undef], defers := [] })
    ?assign ?body ?done (fun _ _ _ _ _ _ h _ => h.elim)
  case own =>
    rintro k A V row ⟨x0, x1, x2, x3⟩ hg hr
    have hr' := fun r e => (hr r e).2
    have hge : ∀ r, row = some r → w.heap.size + 1 + 1 ≤ r := fun r e => by have := (hr r e).1; simpa using this
    exact ⟨x0.kept hg hr' (fun e => by have := hge b e.symm; omega), x1.kept hg hr', cell_kept x2 hg hr', x3.andThen hg (fun r e => .inl (by have := hge r e; omega))⟩
  case start =>
    have hL : Below w.heap.size w ((w.alloc (.cells #[.int .i64 1] 3)).alloc (.cells #[.int .i64 (j : Int)] 3)) := by
      (repeat (first | exact Below.refl _ _ | refine Below.setCell ?_ (by first | omega | (simp <;> omega)) _ | refine Below.alloc ?_ (by first | omega | (simp <;> omega)) _ | refine Below.drew ?_ | refine Below.trans ?_ (Below.mono (by assumption) (by first | omega | (simp <;> omega))) | refine Below.grown ?_ (by assumption) (by first | omega | (simp <;> omega)) (fun k e => by cases e; first | omega | (simp <;> omega))))
    refine ⟨hm.below hL, ⟨?_, ?_⟩, ?_, (grown_below hL).but _⟩
    · rw [ppK_zero, rankN_one]; go_simp
    · go_simp
    · go_simp
  case assign =>
    intro l k W K hK
    gi_wp2
    exact hK
  case body =>
    rintro l k W hk ⟨hmW, hbx, hmb, hgW⟩
    obtain ⟨s1, s2, s3, s4, s5, s6⟩ := pp_step j1 hk
    have HRK := Lib.hid (rank_pp (p := p) j1 HA.out hk)
    have hxj : (ppL j).getD k 0 ≤ j := Nat.le_of_dvd j1 s4
    have hKj : ppK j k ≤ j := Nat.le_of_dvd j1 s6
    have hK1 : 1 ≤ ppK j k := Nat.pos_of_dvd_of_pos s6 j1
    obtain ⟨R1, R2⟩ := rank_bd (p := p) hK1 (by omega) (HA.out.of_nat_dvd s6)
    obtain ⟨Y1, Y2⟩ := rank_bd (p := p) (show 1 ≤ (ppL j).getD k 0 by omega) (by omega) (HA.out.of_nat_dvd s4)
    have HAX := Lib.hid (HA.out.of_nat_dvd s4)
    clear s1 s2 s4 s5 s6
    try dsimp only
    obtain ⟨x, hx⟩ : ∃ x, (ppL j).getD k 0 = x := ⟨_, rfl⟩
    rw [hx] at HRK hxj Y1 Y2 HAX s3 ⊢
    obtain ⟨R, hR⟩ : ∃ R, rankN p q (ppK j k) = R := ⟨_, rfl⟩
    rw [hR] at HRK R1 R2 hbx
    have HL := Lib.hid (show ((Nat.lcm R (rankN p q x) : Nat) : Int) = (rankN p q (ppK j (k + 1)) : Nat) by rw [HRK.out])
    have hx9 : x ≤ 1000000000 := by omega
    have hsz := hgW.size
    have HM := Lib.hid hmW
    have HX := Lib.hid hbx
    have HG := Lib.hid hgW
    have HJ := Lib.hid hmb
    obtain ⟨⟨x1, x2, x3⟩, D, x4, x5⟩ := hmW
    obtain ⟨y1, y2⟩ := hbx
    clear hgW hmb HRK hx hR hKj hK1
    gi_wp2_with (gi_at_lookup; refine wpListIn_lookup_own_ok_int _ rfl _ _ 86 rfl 3 3 .i64 intKeyed Try.underlying86 Try.underlying3 (intZero _) b _ D rfl x5 _ _ rfl (intKey hx9) ?_)
    intro c hat hwc
    clear hat hwc
    cases hh : Maps.has D (.int .i64 (x : Int)) with
    | true =>
      gi_wp2_with (gi_at_lookup; refine wpListIn_lookup_own_int _ rfl _ _ 86 rfl 3 3 .i64 intKeyed Try.underlying86 Try.underlying3 (intZero _) b _ D rfl x5 _ _ rfl (intKey hx9) ?_)
      intro c2 hat2 hwc2
      rw [x4 x hh] at hat2
      injection hat2 with hat2
      injection hat2 with _ hat2
      subst hat2
      gi_wp2_with fail
      refine (CallsIn.inRound l (callsIn_wide.2 (leastMultiple_at _ _ _ _ R1 Y1 (by omega) (by omega) HL.out))).mono ?_
      rintro e w7 ⟨rfl, hh7⟩
      have z1 := cell_below hh7 y1
      have z2 := frozen_below hh7 y1 y2
      have HH7 := Lib.hid hh7
      clear hh7 x1 x2 x3 y1 y2
      gi_wp2
      refine ⟨keepsOthers_recs ((keepsOthers_below HH7.out).trans (KeepsOthers.setCell _ _ _)), ((HM.out.below HH7.out).set hlt.1 hlt.2.1 hlt.2.2 _ _).mono (by omega), (HX.out.below HH7.out).set _, (set_other (by omega)).trans (cell_below HH7.out HJ.out), grown_num (grown_then HG.out HH7.out) (Nat.le_refl _) _ _⟩
    | false =>
      obtain ⟨S, hSd⟩ : ∃ S : World → Prop, (fun V => Below W.heap.size W V) = S := ⟨_, rfl⟩
      have hkeep : ∀ V V' : World, S V → Below V.heap.size V V' → S V' := by rw [← hSd]; exact fun V V' h hb => h.trans (hb.mono h.size)
      have g1 : ∀ i : KeptBy S, i.world.cell? ⟨K, 0, none⟩ = some (.map (some b)) := by rw [← hSd]; exact fun i => cell_below i.ok x1
      have g2 : ∀ i : KeptBy S, i.world.cell? ⟨B, 0, none⟩ = some (.int .i64 p) := by rw [← hSd]; exact fun i => cell_below i.ok x2
      have g3 : ∀ i : KeptBy S, i.world.cell? ⟨B, 1, none⟩ = some (.int .i64 q) := by rw [← hSd]; exact fun i => cell_below i.ok x3
      have g5 : Nonempty (KeptBy S) := ⟨⟨W.drew, by rw [← hSd]; exact (Below.refl _ _).drew⟩⟩
      gi_wp2_with fail
      refine wpIn_region_last_at (S := S) 5 rfl (by rw [← hSd]; exact (Below.refl _ _).drew) rfl (by kernel_rfl) (by kernel_rfl) (by kernel_rfl) (by kernel_rfl) rfl ?_
      simp only [List.take_succ_cons, List.take_zero, List.cons_append, List.nil_append, idle]
      repeat (gi_big_quiet_step ((first | (gi_at_call 69; refine (callsIn_wide.2 (firstNought_at p q x _ HP.out (by omega) (by omega) HAX.out)).mono ?_; rintro e w' ⟨rfl, hhw⟩; exact ⟨rfl, ⟨w', hkeep _ _ (KeptBy.ok _) hhw⟩, rfl⟩) | fail)))
      refine wpQuietIn_nil ?_
      intro z hz
      rw [← hSd] at hz
      have bz : Below W.heap.size W z := hz
      clear hz g1 g2 g3 g5 hkeep hSd
      gi_at_mapUpdate
      refine wpListIn_mapUpdate_own _ rfl _ _ _ 86 rfl 3 3 intKeyed Try.underlying86 _ b (n + k) D rfl (x5.kept (grown_below bz) (fun e => by cases e)) (by unfold maxLen; omega) _ _ _ rfl rfl (intKey hx9) _ [] (intElem (j := rankN p q x) (by omega)) ?_
      intro w4 hown4 hgrow4
      have hmz := (HM.out.below bz).isMap
      obtain ⟨es, c9, hes⟩ := hmz
      have u1 : w4.cell? ⟨K, 0, none⟩ = some (.map (some b)) := hgrow4.cell (cell_below bz x1) (cells_map (cell_below bz x1) hes)
      have u2 : w4.cell? ⟨B, 0, none⟩ = some (.int .i64 p) := hgrow4.cell (cell_below bz x2) (cells_map (cell_below bz x2) hes)
      have u3 : w4.cell? ⟨B, 1, none⟩ = some (.int .i64 q) := hgrow4.cell (cell_below bz x3) (cells_map (cell_below bz x3) hes)
      have v1 : w4.cell? ⟨w.heap.size, 0, none⟩ = some (.int .i64 R) := hgrow4.cell (cell_below bz y1) (cells_map (cell_below bz y1) hes)
      have v2 : w4.frozen? ⟨w.heap.size, 0, none⟩ = false := (hgrow4.frozen_far ⟨w.heap.size, 0, none⟩ (World.block_lt_of_cell? _ _ (cell_below bz y1)) (cells_map (cell_below bz y1) hes)).trans (frozen_below bz y1 y2)
      have v3 : w4.cell? ⟨w.heap.size + 1, 0, none⟩ = some (.int .i64 j) := hgrow4.cell (cell_below bz HJ.out) (cells_map (cell_below bz HJ.out) hes)
      have ok4 := x4.put x5.isMap x
      have has4 : Maps.has (D.put (.int .i64 (x : Int)) (.lit (.int .i64 (rankN p q x : Nat)))) (.int .i64 (x : Int)) = true := Maps.has_put_same x5.isMap (show WideAt.IsKeyLit (Lit.int .i64 (x : Int)) from trivial) _
      have HM4 := Lib.hid (show Memo p q K B b (n + k + 1) w4 from ⟨⟨u1, u2, u3⟩, _, ok4, hown4⟩)
      have HG4 := Lib.hid ((grown_then HG.out bz).trans hgrow4)
      have HK4 := Lib.hid ((keepsOthers_recs (keepsOthers_below bz)).trans (KeepsRecs.map hgrow4 ⟨es, c9, hes⟩))
      have V3 := Lib.hid v3
      clear hgrow4 bz x1 x2 x3 y1 y2 u2 u3 hes x5 v3
      gi_wp2_with (gi_at_lookup; refine wpListIn_lookup_own_int _ rfl _ _ 86 rfl 3 3 .i64 intKeyed Try.underlying86 Try.underlying3 (intZero _) b _ _ rfl hown4 _ _ rfl (intKey hx9) ?_)
      intro c2 hat2 hwc2
      rw [ok4 x has4] at hat2
      injection hat2 with hat2
      injection hat2 with _ hat2
      subst hat2
      gi_wp2_with fail
      refine (CallsIn.inRound l (callsIn_wide.2 (leastMultiple_at _ _ _ _ R1 Y1 (by omega) (by omega) HL.out))).mono ?_
      rintro e w7 ⟨rfl, hh7⟩
      have z1 := cell_below hh7 v1
      have z2 := frozen_below hh7 v1 v2
      have HH7 := Lib.hid hh7
      have VB := Lib.hid (show NumBox w.heap.size R w4 from ⟨v1, v2⟩)
      clear hh7 u1 v1 v2
      gi_wp2
      refine ⟨HK4.out.trans (keepsOthers_recs ((keepsOthers_below HH7.out).trans (KeepsOthers.setCell _ _ _))), ((HM4.out.below HH7.out).set hlt.1 hlt.2.1 hlt.2.2 _ _).mono (by omega), (VB.out.below HH7.out).set _, (set_other (by omega)).trans (cell_below HH7.out V3.out), grown_num (grown_then HG4.out HH7.out) (Nat.le_refl _) _ _⟩
  case done =>
    rintro E W hE ⟨hmW, hbx, hmb, hgW⟩ hK
    rw [ppK_all j1] at hbx
    have HM := Lib.hid hmW
    have HG := Lib.hid hgW
    have HK := Lib.hid hK
    have HE := Lib.hid hE
    obtain ⟨y1, y2⟩ := hbx
    clear hmW hgW hK hE hmb
    gi_wp2
    refine ⟨by simp, .inl ⟨_, _, rfl, run_takeDeferred HK.out, ?_⟩⟩
    have hE' : w.heap.size + 1 + 1 ≤ E := by have := HE.out; simpa using this
    exact ⟨_, by simp [results, Try.results67, go_sem], rfl, (HM.out.kept (grownBy_putObj' _ E (.deferred none)) (fun r e => by cases e; exact ⟨_, HK.out, rfl⟩) (fun e => by injection e with e; omega)).mono (by omega), HG.out.andThen (grownBy_putObj' _ E (.deferred none)) (fun r e => by cases e; exact .inl (by omega))⟩
end Go.Proofs.Ythjphhgcpfbjeaa
namespace Go.Proofs.Ythjphhgcpfbjeaa
open Go.RowKit
theorem Memo.far {p q : Int} {K B b n : Nat} {A V : World} {row : Option Nat} (h : Memo p q K B b n A) (hg : A.grownBy V row) (h1 : some K ≠ row) (h2 : some B ≠ row) (h3 : some b ≠ row) : Memo p q K B b n V := by
  obtain ⟨⟨x1, x2, x3⟩, D, x4, x5⟩ := h
  exact ⟨⟨hg.cell x1 h1, hg.cell x2 h2, hg.cell x3 h2⟩, D, x4, x5.kept hg h3⟩
set_option maxHeartbeats 2000000 in
theorem implRank_any (p q m : Int) (w : World) : Calls Try.prog 29 #[pr p q, .int .i64 m] w fun e w' => e = .returned (.tuple #[.int .i64 (rankV p q m), .bool (rankB p q m)]) ∧ Below w.heap.size w w' := by
  cases h : rankB p q m with
  | false =>
    have HB := Lib.hid h
    have HV := Lib.hid (show rankV p q m = -1 by rw [rankV, if_neg (by simp [h])])
    clear h
    go_enter Try.func29, Try.ntmps29
    go_wp2_with fail
    refine (rankedOk_is p q m false _ HB.out).mono ?_
    rintro e w1 ⟨rfl, hh1⟩
    obtain ⟨hc1, hf1⟩ := bcell hh1
    have hz1 := hh1.size
    try simp only [World.size_alloc] at hz1
    have hz1_0 : w.heap.size < w1.heap.size := by omega
    have kb1_0_0 : w1.cell? ⟨w.heap.size, 0, none⟩ = some (.int .i64 p) := by go_simp
    have kf1_0_0 : w1.frozen? ⟨w.heap.size, 0, none⟩ = false := by go_simp
    have kb1_0_1 : w1.cell? ⟨w.heap.size, 1, none⟩ = some (.int .i64 q) := by go_simp
    have kf1_0_1 : w1.frozen? ⟨w.heap.size, 1, none⟩ = false := by go_simp
    clear hc1 hf1
    go_wp2
    go_ret2
    exact ⟨ret_int_bool HV.out.symm rfl, by (repeat (first | exact Below.refl _ _ | refine Below.setCell ?_ (by first | omega | (simp <;> omega)) _ | refine Below.alloc ?_ (by first | omega | (simp <;> omega)) _ | refine Below.drew ?_ | refine Below.trans ?_ (Below.mono (by assumption) (by first | omega | (simp <;> omega))) | refine Below.grown ?_ (by assumption) (by first | omega | (simp <;> omega)) (fun k e => by cases e; first | omega | (simp <;> omega))))⟩
  | true =>
    obtain ⟨_, _, _, _, k, rfl, _, _, _⟩ := rankB_true h
    have HB := Lib.hid h
    have HV := Lib.hid (rankV_is h)
    clear h
    go_enter Try.func29, Try.ntmps29
    go_wp2_with fail
    refine (rankedOk_is p q k true _ HB.out).mono ?_
    rintro e w1 ⟨rfl, hh1⟩
    obtain ⟨hc1, hf1⟩ := bcell hh1
    have hz1 := hh1.size
    try simp only [World.size_alloc] at hz1
    have hz1_0 : w.heap.size < w1.heap.size := by omega
    have kb1_0_0 : w1.cell? ⟨w.heap.size, 0, none⟩ = some (.int .i64 p) := by go_simp
    have kf1_0_0 : w1.frozen? ⟨w.heap.size, 0, none⟩ = false := by go_simp
    have kb1_0_1 : w1.cell? ⟨w.heap.size, 1, none⟩ = some (.int .i64 q) := by go_simp
    have kf1_0_1 : w1.frozen? ⟨w.heap.size, 1, none⟩ = false := by go_simp
    clear hc1 hf1
    go_wp2_with fail
    refine (ranksBy_any p q _).mono ?_
    rintro e w2 ⟨rfl, hm2, hh2⟩
    obtain ⟨hc2, hf2⟩ := bcell hh2
    have hz2 := hh2.size
    try simp only [World.size_alloc] at hz2
    go_wp2_with fail
    refine (ranksFn_at p q k _ _ _ 0 _ HB.out hm2 (by omega)).mono ?_
    rintro e w3 ⟨rfl, _, hg3⟩
    go_wp2
    go_ret2
    exact ⟨ret_int_bool HV.out.symm rfl, by (repeat (first | exact Below.refl _ _ | refine Below.setCell ?_ (by first | omega | (simp <;> omega)) _ | refine Below.alloc ?_ (by first | omega | (simp <;> omega)) _ | refine Below.drew ?_ | refine Below.trans ?_ (Below.mono (by assumption) (by first | omega | (simp <;> omega))) | refine Below.grown ?_ (by assumption) (by first | omega | (simp <;> omega)) (fun k e => by cases e; first | omega | (simp <;> omega))))⟩
theorem implRank_val (p q m v : Int) (c : Bool) (w : World) (hv : rankV p q m = v) (hc : rankB p q m = c) : Calls Try.prog 29 #[pr p q, .int .i64 m] w fun e w' => e = .returned (.tuple #[.int .i64 v, .bool c]) ∧ Below w.heap.size w w' := by rw [← hv, ← hc]; exact implRank_any p q m w
theorem sameL_none {p q n : Int} (h : pairB p q = false) : sameL p q n = [] := by
  rw [sameL]
  split
  · rw [holdL, List.filter_eq_nil_iff]
    intro j _
    simp [sameB, rankB, h]
  · rfl
end Go.Proofs.Ythjphhgcpfbjeaa
namespace Go.Proofs.Ythjphhgcpfbjeaa
open Go.RowKit
theorem implRank_is (p q m v : Int) (c : Bool) (w : World) (hv : rankV p q m = v) (hc : rankB p q m = c) : Calls Try.prog 29 #[pr p q, .int .i64 m] w fun e w' => e = .returned (.tuple #[.int .i64 v, .bool c]) ∧ Below w.heap.size w w' := by rw [← hv, ← hc]; exact implRank_any p q m w
/-- At a place a number with a rank divides just if its rank divides the place. -/
theorem divides_left {p q : Int} {k : Nat} (h : rankB p q k = true) (hk : 1 ≤ k) (ha : Apart (k : Int) q) (t : Nat) (ht : t ≤ 1000000000) : dividesB p q k t = (row p q 0 1 t % (k : Int) == 0) := by
  rw [Bool.eq_iff_iff, left_zero_iff, rankN_dvd k hk ha]
  simp [dividesB, h, inB_mk (n := (t : Int)) (a := 0) (b := 1000000000) (by omega) (by omega)]
end Go.Proofs.Ythjphhgcpfbjeaa
namespace Go.Proofs.Ythjphhgcpfbjeaa
open Go.RowKit
theorem implPrime_is (n : Int) (c : Bool) (w : World) (h : primeB n = c) : Calls Try.prog 14 #[.int .i64 n] w fun e w' => e = .returned (.bool c) ∧ Below w.heap.size w w' := by rw [← h]; exact implPrime_any n w
theorem implSquare_is (n p v : Int) (c : Bool) (w : World) (hv : squareV n p = v) (hc : squareB n p = c) : Calls Try.prog 17 #[.int .i64 n, .int .i64 p] w fun e w' => e = .returned (.tuple #[.int .i64 v, .bool c]) ∧ Below w.heap.size w w' := by rw [← hv, ← hc]; exact implSquare_any n p w
theorem implFitting_is (p q l : Int) (c : Bool) (w : World) (h : fittingB p q l = c) : Calls Try.prog 22 #[pr p q, .int .i64 l] w fun e w' => e = .returned (.bool c) ∧ Below w.heap.size w w' := by rw [← h]; exact implFitting_any p q l w
theorem implPlaceBy_is (p q m v : Int) (c : Bool) (w : World) (hv : placeByV p q m = v) (hc : fittingB p q m = c) : Calls Try.prog 27 #[pr p q, .int .i64 m] w fun e w' => e = .returned (.tuple #[.int .i64 v, .bool c]) ∧ Below w.heap.size w w' := by rw [← hv, ← hc]; exact implPlaceBy_any p q m w
theorem implAtPrime_is (p q l x y : Int) (c : Bool) (w : World) (hx : atFirstV p q l = x) (hy : atSecondV p q l = y) (hc : atPrimeB p q l = c) : Calls Try.prog 32 #[pr p q, .int .i64 l] w fun e w' => e = .returned (.tuple #[.int .i64 x, .int .i64 y, .bool c]) ∧ Below w.heap.size w w' := by rw [← hx, ← hy, ← hc]; exact implAtPrime_any p q l w
theorem implWeight_val (p q v : Int) (w : World) (h : pairB p q = true) (hv : weightV p q = v) : Calls Try.prog 34 #[pr p q] w fun e w' => e = .returned (.tuple #[.int .i64 v, .bool true]) ∧ Below w.heap.size w w' := by subst hv; exact implWeight_yes p q w h
theorem two_prime : primeB 2 = true := by decide +kernel
/-- A prime that does not divide a number has nothing in common with it. -/
theorem prime_apart {m : Nat} (hm : m ∈ primes400) {q : Int} (h : ¬ (m : Int) ∣ q) : Apart (m : Int) q := by
  obtain ⟨m1, m2, m3⟩ := prime_mem.1 hm
  refine apart_gcd.1 ?_
  obtain ⟨g, hg⟩ : ∃ g, Int.gcd (m : Int) q = g := ⟨_, rfl⟩
  have hgm : g ∣ m := by rw [← hg]; exact Int.natCast_dvd_natCast.1 (Int.gcd_dvd_left ..)
  have hgq : (g : Int) ∣ q := by rw [← hg]; exact Int.gcd_dvd_right ..
  rw [hg]
  have hpos : 1 ≤ g := Nat.pos_of_dvd_of_pos hgm (by omega)
  have hle : g ≤ m := Nat.le_of_dvd (by omega) hgm
  rcases Nat.eq_or_lt_of_le hle with rfl | hlt
  · exact absurd hgq h
  · rcases Nat.lt_or_ge g 2 with h2 | h2
    · omega
    · exact absurd (Nat.mod_eq_zero_of_dvd hgm) (m3 g h2 hlt)
end Go.Proofs.Ythjphhgcpfbjeaa
namespace Go.Proofs.Ythjphhgcpfbjeaa
open Go.RowKit
/-- Whether no number from 2 up to one less than d divides a number that may be a prime. -/
def noneB (n : Int) (d : Nat) : Bool := inB n 2 400 && decide (∀ e, e < d → 2 ≤ e → ¬ e ∣ n.toNat)
theorem noneB_next {n : Int} {d : Nat} (h : noneB n d = true) (h2 : 2 ≤ d) : noneB n (d + 1) = decide (¬ d ∣ n.toNat) := by
  have h' : inB n 2 400 = true ∧ ∀ e, e < d → 2 ≤ e → ¬ e ∣ n.toNat := by simpa [noneB] using h
  rw [noneB, h'.1, Bool.true_and, decide_eq_decide]
  constructor
  · intro ha; exact ha d (by omega) h2
  · intro hd e he h3
    rcases Nat.eq_or_lt_of_le (Nat.le_of_lt_succ he) with rfl | hlt
    · exact hd
    · exact h'.2 e hlt h3
theorem noneB_stays {n : Int} {d : Nat} (h : noneB n d = false) : noneB n (d + 1) = false := by
  cases hc : noneB n (d + 1) with
  | false => rfl
  | true =>
    have h' : inB n 2 400 = true ∧ ∀ e, e < d + 1 → 2 ≤ e → ¬ e ∣ n.toNat := by simpa [noneB] using hc
    rw [noneB, h'.1, Bool.true_and, decide_eq_false_iff_not] at h
    exact absurd (fun e he h3 => h'.2 e (by omega) h3) h
theorem noneB_all {n : Int} {d : Nat} (h : ¬ (d < n.toNat ∧ n ≤ 400)) (hd : d ≤ n.toNat ∨ d = 2) : noneB n d = primeB n := by
  cases hn : inB n 2 400 with
  | false =>
    have h1 : primeB n = false := by
      cases hp : primeB n with
      | false => rfl
      | true =>
        obtain ⟨m, rfl, _, m1, m2⟩ := primeB_true hp
        rw [inB_mk (by omega) (by omega)] at hn
        cases hn
    rw [h1, noneB, hn]; rfl
  | true =>
    obtain ⟨n1, n2⟩ := inB_true hn
    obtain ⟨m, rfl⟩ := Int.eq_ofNat_of_zero_le (show 0 ≤ n by omega)
    have hdm : d = m := by
      have : ((m : Int)).toNat = m := by simp
      rw [this] at h hd
      omega
    subst hdm
    rw [noneB, hn, Bool.true_and, primeB_nat, decide_eq_decide, prime_mem]
    constructor
    · intro ha
      exact ⟨by omega, by omega, fun e h1 h2 h3 => ha e h2 h1 (by simpa using Nat.dvd_of_mod_eq_zero h3)⟩
    · rintro ⟨_, _, ha⟩ e h1 h2 h3
      exact ha e h2 h1 (Nat.mod_eq_zero_of_dvd (by simpa using h3))
set_option maxRecDepth 100000 in
set_option maxHeartbeats 8000000 in
theorem fnPrimeOk_walk (a : Option Addr) (len cap : Nat) (z : List Int) (w : World) (w0 : IsRow w a len cap z) :
    Calls Try.prog 3 #[.slice a len cap] w fun e w' => e = .returned (.bool true) ∧ Below w.heap.size w w' := by
  by_cases hbig : 1048576 < len
  · go_enter Try.func3, Try.ntmps3
    go_wp2
    go_ret
    exact ⟨rfl, Below.refl _ _⟩
  · have hsm : len ≤ 1048576 := by omega
    go_enter Try.func3, Try.ntmps3
    go_wp2_with fail
    refine (drawPrimeOk_any _ _ _ _ z w0).mono ?_
    rintro e w1 ⟨n, rfl, hh1⟩
    have hz1 := hh1.size
    obtain ⟨hc1, hf1⟩ := bcell hh1
    have H2 := Lib.hid two_prime
    go_wp2_with fail
    refine (implPrime_any n _).mono ?_
    rintro e w2 ⟨rfl, hh2⟩
    obtain ⟨hc2, hf2⟩ := bcell hh2
    have hz2 := hh2.size
    try simp only [World.size_alloc] at hz2
    clear hc2 hf2
    go_wp2_with fail
    refine (specPrime_any n _).mono ?_
    rintro e wx ⟨rfl, rfl⟩
    have hd0 : noneB n 2 = inB n 2 400 := by
      cases hn : inB n 2 400 with
      | false => rw [noneB, hn]; rfl
      | true =>
        rw [noneB, hn, Bool.true_and, decide_eq_true_iff]
        intro e h1 h2
        omega
    have HD0 := Lib.hid hd0
    clear hd0
    have key : ∀ c : Bool, inB n 2 400 = c → True := fun _ _ => trivial
    clear key
    cases hn : inB n 2 400 with
    | false =>
      have HN := Lib.hid hn
      have hn' : n < 2 ∨ 400 < n := by
        rcases Int.lt_or_le n 2 with h | h
        · exact .inl h
        · rcases Int.lt_or_le 400 n with h4 | h4
          · exact .inr h4
          · rw [inB_mk h h4] at hn; cases hn
      have HP := Lib.hid (primeB_no hn')
      clear hn
      rw [HP.out]
      rcases hn' with hn' | hn'
      · have hn2 : n ≤ 2 := by omega
        go_wp2_with fail
        go_loop [5, 6] (fun x y => x = .bool false ∧ y = .int .i64 2) (fun _ _ => 0)
        case atStart => exact ⟨rfl, rfl⟩
        case round =>
          obtain ⟨rfl, rfl⟩ := hrel
          go_wp2_with fail
          refine (implPrime_is 2 true _ H2.out).mono ?_
          rintro e w5 ⟨rfl, hh5⟩
          go_wp2
          go_ret
          exact ⟨rfl, by (repeat (first | exact Below.refl _ _ | refine Below.setCell ?_ (by first | omega | (simp <;> omega)) _ | refine Below.alloc ?_ (by first | omega | (simp <;> omega)) _ | refine Below.drew ?_ | refine Below.trans ?_ (Below.mono (by assumption) (by first | omega | (simp <;> omega))) | refine Below.grown ?_ (by assumption) (by first | omega | (simp <;> omega)) (fun k e => by cases e; first | omega | (simp <;> omega))))⟩
      · have hn2 : 2 ≤ n := by omega
        have hdec : decide (n ≤ 400) = false := by simp; omega
        go_wp2_with fail
        go_loop [5, 6] (fun x y => x = .bool false ∧ y = .int .i64 2) (fun _ _ => 0)
        case atStart => exact ⟨rfl, rfl⟩
        case round =>
          obtain ⟨rfl, rfl⟩ := hrel
          go_wp2_with fail
          refine (implPrime_is 2 true _ H2.out).mono ?_
          rintro e w5 ⟨rfl, hh5⟩
          go_wp2
          go_ret
          exact ⟨rfl, by (repeat (first | exact Below.refl _ _ | refine Below.setCell ?_ (by first | omega | (simp <;> omega)) _ | refine Below.alloc ?_ (by first | omega | (simp <;> omega)) _ | refine Below.drew ?_ | refine Below.trans ?_ (Below.mono (by assumption) (by first | omega | (simp <;> omega))) | refine Below.grown ?_ (by assumption) (by first | omega | (simp <;> omega)) (fun k e => by cases e; first | omega | (simp <;> omega))))⟩
    | true =>
      obtain ⟨n1, n2⟩ := inB_true hn
      have HN := Lib.hid hn
      clear hn
      go_wp2_with fail
      go_loop [5, 6] (fun x y => ∃ d : Nat, 2 ≤ d ∧ d ≤ n.toNat ∧ x = .bool (noneB n d) ∧ y = .int .i64 d) (fun _ y => 500 - (intOf y).toNat)
      case atStart => exact ⟨2, by omega, by omega, by rw [HD0.out, HN.out], rfl⟩
      case round =>
        obtain ⟨d, d2, d3, rfl, rfl⟩ := hrel
        by_cases hlt : d < n.toNat
        · have hlti : (d : Int) < n := by omega
          have hz : ((d : Int) == 0) = false := by simp; omega
          cases hb : noneB n d with
          | true =>
            have hx := noneB_next hb d2
            have hT : (n % (d : Int) != 0) = noneB n (d + 1) := by
              rw [hx]
              obtain ⟨m, rfl⟩ := Int.eq_ofNat_of_zero_le (show 0 ≤ n by omega)
              rw [bne, div_test]
              simp
            have hT2 : (n.tmod (d : Int) != 0) = noneB n (d + 1) := by rw [Int.tmod_eq_emod_of_nonneg (by omega)]; exact hT
            clear hx hb
            cases hc : noneB n (d + 1) with
            | true =>
              rw [hc] at hT hT2
              have HC := Lib.hid hc
              clear hc
              go_wp2
              go_round
              case rel => exact ⟨d + 1, by omega, by omega, congrArg Value.bool HC.out.symm, congrArg (Value.int .i64) (by omega)⟩
              case measure => simp [intOf]; omega
            | false =>
              rw [hc] at hT hT2
              have HC := Lib.hid hc
              clear hc
              go_wp2
              go_round
              case rel => exact ⟨d + 1, by omega, by omega, congrArg Value.bool HC.out.symm, congrArg (Value.int .i64) (by omega)⟩
              case measure => simp [intOf]; omega
          | false =>
            have HC := Lib.hid (noneB_stays hb)
            clear hb
            go_wp2
            go_round
            case rel => exact ⟨d + 1, by omega, by omega, congrArg Value.bool HC.out.symm, congrArg (Value.int .i64) (by omega)⟩
            case measure => simp [intOf]; omega
        · have hge : n ≤ (d : Int) := by omega
          have he := noneB_all (n := n) (d := d) (by omega) (.inl d3)
          rw [he]
          clear he
          cases hpb : primeB n with
          | true =>
            go_wp2_with fail
            refine (implPrime_is 2 true _ H2.out).mono ?_
            rintro e w5 ⟨rfl, hh5⟩
            go_wp2
            go_ret
            exact ⟨rfl, by (repeat (first | exact Below.refl _ _ | refine Below.setCell ?_ (by first | omega | (simp <;> omega)) _ | refine Below.alloc ?_ (by first | omega | (simp <;> omega)) _ | refine Below.drew ?_ | refine Below.trans ?_ (Below.mono (by assumption) (by first | omega | (simp <;> omega))) | refine Below.grown ?_ (by assumption) (by first | omega | (simp <;> omega)) (fun k e => by cases e; first | omega | (simp <;> omega))))⟩
          | false =>
            go_wp2_with fail
            refine (implPrime_is 2 true _ H2.out).mono ?_
            rintro e w5 ⟨rfl, hh5⟩
            go_wp2
            go_ret
            exact ⟨rfl, by (repeat (first | exact Below.refl _ _ | refine Below.setCell ?_ (by first | omega | (simp <;> omega)) _ | refine Below.alloc ?_ (by first | omega | (simp <;> omega)) _ | refine Below.drew ?_ | refine Below.trans ?_ (Below.mono (by assumption) (by first | omega | (simp <;> omega))) | refine Below.grown ?_ (by assumption) (by first | omega | (simp <;> omega)) (fun k e => by cases e; first | omega | (simp <;> omega))))⟩
end Go.Proofs.Ythjphhgcpfbjeaa
namespace Go.Proofs.Ythjphhgcpfbjeaa
open Go.RowKit
/-- The sign of a square is that of the number, twice. -/
theorem sign_square {m : Nat} (n : Int) : signN (n * n) m = signN n m * signN n m ∨ (m : Int) ≤ 0 ∨ (signN n m ≠ 0 ∧ n * n % (m : Int) = 0) := by
  rcases Int.lt_or_le 0 (m : Int) with m0 | m0
  · rw [signN, signN]
    by_cases h0 : n % (m : Int) = 0
    · have h1 : n * n % (m : Int) = 0 := by rw [Int.mul_emod, h0]; simp
      rw [if_pos h0, if_pos h1]
      exact .inl rfl
    · by_cases h1 : n * n % (m : Int) = 0
      · refine .inr (.inr ⟨?_, h1⟩)
        rw [if_neg h0]
        split <;> omega
      · rw [if_neg h1, if_neg h0]
        have hk : sqN m (n * n % (m : Int)).toNat = true := by
          refine sqN_iff.2 ⟨(n % (m : Int)).toNat, ?_, ?_⟩
          · have := Int.emod_nonneg n (show (m : Int) ≠ 0 by omega)
            have := Int.emod_lt_of_pos n m0
            omega
          · obtain ⟨r, hr⟩ := Int.eq_ofNat_of_zero_le (Int.emod_nonneg n (show (m : Int) ≠ 0 by omega))
            rw [Int.mul_emod, hr, show (r : Int) * (r : Int) % (m : Int) = ((r * r % m : Nat) : Int) by simp, Int.toNat_natCast, Int.toNat_natCast]
        rw [if_pos hk]
        left
        split <;> rfl
  · exact .inr (.inl m0)
theorem sign_sq {m : Nat} (hm : m ∈ primes400) (n : Int) : signN (n * n) m = signN n m * signN n m := by
  obtain ⟨m1, m2, m3⟩ := prime_mem.1 hm
  rcases sign_square (m := m) n with h | h | ⟨h1, h2⟩
  · exact h
  · omega
  · exfalso
    have hn : ¬ (m : Int) ∣ n := fun hd => h1 (by rw [signN, if_pos (Int.emod_eq_zero_of_dvd hd)])
    have ha := prime_apart hm hn
    have hd : (m : Int) ∣ n * n := Int.dvd_of_emod_eq_zero h2
    exact hn (apart_cancel ha hd)
set_option maxRecDepth 100000 in
set_option maxHeartbeats 8000000 in
theorem fnSquareSign_walk (a : Option Addr) (len cap : Nat) (z : List Int) (w : World) (w0 : IsRow w a len cap z) :
    Calls Try.prog 4 #[.slice a len cap] w fun e w' => e = .returned (.bool true) ∧ Below w.heap.size w w' := by
  by_cases hbig : 1048576 < len
  · go_enter Try.func4, Try.ntmps4
    go_wp2
    go_ret
    exact ⟨rfl, Below.refl _ _⟩
  · have hsm : len ≤ 1048576 := by omega
    go_enter Try.func4, Try.ntmps4
    go_wp2_with fail
    refine (drawSquareSign_any _ _ _ _ z w0).mono ?_
    rintro e w1 ⟨n, l, rfl, hh1⟩
    have hz1 := hh1.size
    obtain ⟨hc1, hf1⟩ := bcell hh1
    cases hb : squareB n l with
    | false =>
      have HV := Lib.hid (squareV_no hb)
      have HB := Lib.hid hb
      clear hb
      go_wp2_with fail
      refine (implSquare_is n l _ false _ HV.out HB.out).mono ?_
      rintro e w2 ⟨rfl, hh2⟩
      obtain ⟨hc2, hf2⟩ := bcell hh2
      have hz2 := hh2.size
      try simp only [World.size_alloc] at hz2
      clear hc2 hf2
      go_wp2_with fail
      refine (specSquare_is n l _ false _ HV.out HB.out).mono ?_
      rintro e wx ⟨rfl, rfl⟩
      go_wp2_with fail
      refine (alive_any _).mono ?_
      rintro e w3 ⟨rfl, hh3⟩
      obtain ⟨hc3, hf3⟩ := bcell hh3
      have hz3 := hh3.size
      try simp only [World.size_alloc] at hz3
      clear hc3 hf3
      go_wp2
      go_ret
      exact ⟨rfl, by (repeat (first | exact Below.refl _ _ | refine Below.setCell ?_ (by first | omega | (simp <;> omega)) _ | refine Below.alloc ?_ (by first | omega | (simp <;> omega)) _ | refine Below.drew ?_ | refine Below.trans ?_ (Below.mono (by assumption) (by first | omega | (simp <;> omega))) | refine Below.grown ?_ (by assumption) (by first | omega | (simp <;> omega)) (fun k e => by cases e; first | omega | (simp <;> omega))))⟩
    | true =>
      obtain ⟨m, rfl, hm, m1, m2, m3, n1, n2⟩ := squareB_true hb
      have HV := Lib.hid (squareV_is hb)
      have HB := Lib.hid hb
      obtain ⟨s1, s2⟩ := signN_bd n m
      have heu := euler hm m3 n
      have hsq := sign_sq hm n
      obtain ⟨y1, y2⟩ := mul_bd (a := 10000) (b := 10000) n1 n2 n1 n2
      have U : IntKind.i64.wrap (n * n) = n * n := by rw [IntKind.wrap_i64]; omega
      obtain ⟨s, hs⟩ : ∃ s, signN n m = s := ⟨_, rfl⟩
      rw [hs] at HV s1 s2 heu hsq
      obtain ⟨h, hh⟩ : ∃ h, m / 2 = h := ⟨_, rfl⟩
      rw [hh] at heu
      have hD : (m : Int) / 2 = (h : Int) := by rw [← hh]; simp
      have hh4 : h ≤ 400 := by rw [← hh]; omega
      obtain ⟨X, hX⟩ : ∃ X, n ^ h % (m : Int) = X := ⟨_, rfl⟩
      rw [hX] at heu
      have HX := Lib.hid hX
      have heu1 : (s + (m : Int)) % (m : Int) = X := heu.symm
      have heu2 : (s + (m : Int)).tmod (m : Int) = X := by rw [Int.tmod_eq_emod_of_nonneg (by omega)]; exact heu1
      have hz : ((m : Int) == 0) = false := by simp; omega
      have hz' : ¬ (m : Int) = 0 := by omega
      clear hs hh hX heu
      go_wp2_with fail
      refine (implSquare_is n m _ true _ HV.out HB.out).mono ?_
      rintro e w2 ⟨rfl, hh2⟩
      obtain ⟨hc2, hf2⟩ := bcell hh2
      have hz2 := hh2.size
      try simp only [World.size_alloc] at hz2
      clear hc2 hf2
      go_wp2_with fail
      refine (specSquare_is n m _ true _ HV.out HB.out).mono ?_
      rintro e wx ⟨rfl, rfl⟩
      cases hc : squareB (n * n) m with
      | true =>
        have HC := Lib.hid hc
        have HW := Lib.hid (show squareV (n * n) m = s * s by rw [squareV_is hc, hsq])
        have hss : (s * s == s * s) = true := by simp
        have U2 : IntKind.i64.wrap (s * s) = s * s := by
          rw [IntKind.wrap_i64]
          rcases (show s = -1 ∨ s = 0 ∨ s = 1 by omega) with rfl | rfl | rfl <;> omega
        clear hc hm hb hsq y1 y2
        go_wp2_with fail
        refine (implSquare_is _ m _ true _ HW.out HC.out).mono ?_
        rintro e w4 ⟨rfl, hh4⟩
        obtain ⟨hc4, hf4⟩ := bcell hh4
        have hz4 := hh4.size
        try simp only [World.size_alloc] at hz4
        clear hc4 hf4
        obtain ⟨S, hSd⟩ : ∃ S : World → Prop, (fun V => Below w4.heap.size w4 V) = S := ⟨_, rfl⟩
        have hkeep : ∀ V V' : World, S V → Below V.heap.size V V' → S V' := by rw [← hSd]; exact fun V V' h hb => h.trans (hb.mono h.size)
        have gkn : Nonempty (KeptBy S) := ⟨⟨w4.drew, by rw [← hSd]; exact (Below.refl _ _).drew⟩⟩
        go_wp2_with fail
        refine wp_region_kept (S := S) (by rw [← hSd]; exact (Below.refl _ _).drew) (by kernel_rfl) (by kernel_rfl) ?_
        repeat (go_big_quiet_step ((first | (go_at_call 20; refine (implPowerLeft_at n m h X _ _ (by omega) (by omega) (by omega) (by omega) (by omega) (by omega) HX.out).mono ?_; rintro e w' ⟨rfl, hhw⟩; exact ⟨rfl, ⟨w', hkeep _ _ (KeptBy.ok _) hhw⟩, rfl⟩) | fail)))
        refine wpQuiet_nil ?_
        rintro wz ⟨iz, hwz⟩
        have bwz : Below w4.heap.size w4 wz := by
          have this : S wz := by rw [hwz]; exact iz.ok
          rw [← hSd] at this
          exact this
        clear hwz iz gkn hkeep hSd
        go_wp2
        go_ret
        exact ⟨rfl, by (repeat (first | exact Below.refl _ _ | refine Below.setCell ?_ (by first | omega | (simp <;> omega)) _ | refine Below.alloc ?_ (by first | omega | (simp <;> omega)) _ | refine Below.drew ?_ | refine Below.trans ?_ (Below.mono (by assumption) (by first | omega | (simp <;> omega))) | refine Below.grown ?_ (by assumption) (by first | omega | (simp <;> omega)) (fun k e => by cases e; first | omega | (simp <;> omega))))⟩
      | false =>
        have HC := Lib.hid hc
        clear hc hm hb hsq y1 y2
        go_wp2_with fail
        refine (implSquare_is _ m _ false _ rfl HC.out).mono ?_
        rintro e w4 ⟨rfl, hh4⟩
        obtain ⟨hc4, hf4⟩ := bcell hh4
        have hz4 := hh4.size
        try simp only [World.size_alloc] at hz4
        clear hc4 hf4
        obtain ⟨S, hSd⟩ : ∃ S : World → Prop, (fun V => Below w4.heap.size w4 V) = S := ⟨_, rfl⟩
        have hkeep : ∀ V V' : World, S V → Below V.heap.size V V' → S V' := by rw [← hSd]; exact fun V V' h hb => h.trans (hb.mono h.size)
        have gkn : Nonempty (KeptBy S) := ⟨⟨w4.drew, by rw [← hSd]; exact (Below.refl _ _).drew⟩⟩
        go_wp2_with fail
        refine wp_region_kept (S := S) (by rw [← hSd]; exact (Below.refl _ _).drew) (by kernel_rfl) (by kernel_rfl) ?_
        repeat (go_big_quiet_step ((first | (go_at_call 20; refine (implPowerLeft_at n m h X _ _ (by omega) (by omega) (by omega) (by omega) (by omega) (by omega) HX.out).mono ?_; rintro e w' ⟨rfl, hhw⟩; exact ⟨rfl, ⟨w', hkeep _ _ (KeptBy.ok _) hhw⟩, rfl⟩) | fail)))
        refine wpQuiet_nil ?_
        rintro wz ⟨iz, hwz⟩
        have bwz : Below w4.heap.size w4 wz := by
          have this : S wz := by rw [hwz]; exact iz.ok
          rw [← hSd] at this
          exact this
        clear hwz iz gkn hkeep hSd
        go_wp2
        go_ret
        exact ⟨rfl, by (repeat (first | exact Below.refl _ _ | refine Below.setCell ?_ (by first | omega | (simp <;> omega)) _ | refine Below.alloc ?_ (by first | omega | (simp <;> omega)) _ | refine Below.drew ?_ | refine Below.trans ?_ (Below.mono (by assumption) (by first | omega | (simp <;> omega))) | refine Below.grown ?_ (by assumption) (by first | omega | (simp <;> omega)) (fun k e => by cases e; first | omega | (simp <;> omega))))⟩
end Go.Proofs.Ythjphhgcpfbjeaa
namespace Go.Proofs.Ythjphhgcpfbjeaa
open Go.RowKit
theorem fitting_turn {p q l : Int} (h : pairB p q = true) : fittingB (-p) q l = fittingB p q l := by
  have h2 := pairB_turn p q h
  rw [fittingB, fittingB, h, h2, Int.neg_mul_neg]
theorem fitting_two (p q : Int) : fittingB p q 2 = false := by simp [fittingB]
theorem fitting_seven : fittingB 1 (-1) 7 = true := by decide +kernel
set_option maxRecDepth 100000 in
set_option maxHeartbeats 8000000 in
theorem fnFittingOk_walk (a : Option Addr) (len cap : Nat) (z : List Int) (w : World) (w0 : IsRow w a len cap z) :
    Calls Try.prog 5 #[.slice a len cap] w fun e w' => e = .returned (.bool true) ∧ Below w.heap.size w w' := by
  by_cases hbig : 1048576 < len
  · go_enter Try.func5, Try.ntmps5
    go_wp2
    go_ret
    exact ⟨rfl, Below.refl _ _⟩
  · have hsm : len ≤ 1048576 := by omega
    go_enter Try.func5, Try.ntmps5
    go_wp2_with fail
    refine (drawFittingOk_any _ _ _ _ z w0).mono ?_
    rintro e w1 ⟨p, q, l, rfl, hh1⟩
    have hz1 := hh1.size
    obtain ⟨hc1, hf1⟩ := bcell hh1
    have H7 := Lib.hid fitting_seven
    have H2 := Lib.hid (fitting_two p q)
    obtain ⟨c, hc⟩ : ∃ c, fittingB p q l = c := ⟨_, rfl⟩
    have HC := Lib.hid hc
    cases hp : pairB p q with
    | false =>
      have HP := Lib.hid hp
      clear hc hp
      go_wp2_with fail
      refine (implFitting_is p q l c _ HC.out).mono ?_
      rintro e w2 ⟨rfl, hh2⟩
      obtain ⟨hc2, hf2⟩ := bcell hh2
      have hz2 := hh2.size
      try simp only [World.size_alloc] at hz2
      have hz2_0 : w1.heap.size < w2.heap.size := by omega
      have kb2_0_0 : w2.cell? ⟨w1.heap.size, 0, none⟩ = some (.int .i64 p) := by go_simp
      have kf2_0_0 : w2.frozen? ⟨w1.heap.size, 0, none⟩ = false := by go_simp
      have kb2_0_1 : w2.cell? ⟨w1.heap.size, 1, none⟩ = some (.int .i64 q) := by go_simp
      have kf2_0_1 : w2.frozen? ⟨w1.heap.size, 1, none⟩ = false := by go_simp
      clear hc2 hf2
      go_wp2_with fail
      refine (specFitting_is p q l c _ HC.out).mono ?_
      rintro e w3 ⟨rfl, hh3⟩
      obtain ⟨hc3, hf3⟩ := bcell hh3
      have hz3 := hh3.size
      try simp only [World.size_alloc] at hz3
      have hz3_0 : w1.heap.size < w3.heap.size := by omega
      have kb3_0_0 : w3.cell? ⟨w1.heap.size, 0, none⟩ = some (.int .i64 p) := by go_simp
      have kf3_0_0 : w3.frozen? ⟨w1.heap.size, 0, none⟩ = false := by go_simp
      have kb3_0_1 : w3.cell? ⟨w1.heap.size, 1, none⟩ = some (.int .i64 q) := by go_simp
      have kf3_0_1 : w3.frozen? ⟨w1.heap.size, 1, none⟩ = false := by go_simp
      clear hc3 hf3
      go_wp2_with fail
      refine (specPairOk_no p q _ HP.out).mono ?_
      rintro e w4 ⟨rfl, hh4⟩
      obtain ⟨hc4, hf4⟩ := bcell hh4
      have hz4 := hh4.size
      try simp only [World.size_alloc] at hz4
      have hz4_0 : w1.heap.size < w4.heap.size := by omega
      have kb4_0_0 : w4.cell? ⟨w1.heap.size, 0, none⟩ = some (.int .i64 p) := by go_simp
      have kf4_0_0 : w4.frozen? ⟨w1.heap.size, 0, none⟩ = false := by go_simp
      have kb4_0_1 : w4.cell? ⟨w1.heap.size, 1, none⟩ = some (.int .i64 q) := by go_simp
      have kf4_0_1 : w4.frozen? ⟨w1.heap.size, 1, none⟩ = false := by go_simp
      clear hc4 hf4
      go_wp2_with fail
      refine (implFitting_is p q 2 false _ H2.out).mono ?_
      rintro e w5 ⟨rfl, hh5⟩
      obtain ⟨hc5, hf5⟩ := bcell hh5
      have hz5 := hh5.size
      try simp only [World.size_alloc] at hz5
      have hz5_0 : w1.heap.size < w5.heap.size := by omega
      have kb5_0_0 : w5.cell? ⟨w1.heap.size, 0, none⟩ = some (.int .i64 p) := by go_simp
      have kf5_0_0 : w5.frozen? ⟨w1.heap.size, 0, none⟩ = false := by go_simp
      have kb5_0_1 : w5.cell? ⟨w1.heap.size, 1, none⟩ = some (.int .i64 q) := by go_simp
      have kf5_0_1 : w5.frozen? ⟨w1.heap.size, 1, none⟩ = false := by go_simp
      clear hc5 hf5
      go_wp2_with fail
      refine (implFitting_is 1 (-1) 7 true _ H7.out).mono ?_
      rintro e w6 ⟨rfl, hh6⟩
      obtain ⟨hc6, hf6⟩ := bcell hh6
      have hz6 := hh6.size
      try simp only [World.size_alloc] at hz6
      clear hc6 hf6
      go_wp2
      go_ret
      exact ⟨rfl, by (repeat (first | exact Below.refl _ _ | refine Below.setCell ?_ (by first | omega | (simp <;> omega)) _ | refine Below.alloc ?_ (by first | omega | (simp <;> omega)) _ | refine Below.drew ?_ | refine Below.trans ?_ (Below.mono (by assumption) (by first | omega | (simp <;> omega))) | refine Below.grown ?_ (by assumption) (by first | omega | (simp <;> omega)) (fun k e => by cases e; first | omega | (simp <;> omega))))⟩
    | true =>
      have HP := Lib.hid hp
      have HT := Lib.hid ((fitting_turn (l := l) hp).trans hc)
      clear hc hp
      go_wp2_with fail
      refine (implFitting_is p q l c _ HC.out).mono ?_
      rintro e w2 ⟨rfl, hh2⟩
      obtain ⟨hc2, hf2⟩ := bcell hh2
      have hz2 := hh2.size
      try simp only [World.size_alloc] at hz2
      have hz2_0 : w1.heap.size < w2.heap.size := by omega
      have kb2_0_0 : w2.cell? ⟨w1.heap.size, 0, none⟩ = some (.int .i64 p) := by go_simp
      have kf2_0_0 : w2.frozen? ⟨w1.heap.size, 0, none⟩ = false := by go_simp
      have kb2_0_1 : w2.cell? ⟨w1.heap.size, 1, none⟩ = some (.int .i64 q) := by go_simp
      have kf2_0_1 : w2.frozen? ⟨w1.heap.size, 1, none⟩ = false := by go_simp
      clear hc2 hf2
      go_wp2_with fail
      refine (specFitting_is p q l c _ HC.out).mono ?_
      rintro e w3 ⟨rfl, hh3⟩
      obtain ⟨hc3, hf3⟩ := bcell hh3
      have hz3 := hh3.size
      try simp only [World.size_alloc] at hz3
      have hz3_0 : w1.heap.size < w3.heap.size := by omega
      have kb3_0_0 : w3.cell? ⟨w1.heap.size, 0, none⟩ = some (.int .i64 p) := by go_simp
      have kf3_0_0 : w3.frozen? ⟨w1.heap.size, 0, none⟩ = false := by go_simp
      have kb3_0_1 : w3.cell? ⟨w1.heap.size, 1, none⟩ = some (.int .i64 q) := by go_simp
      have kf3_0_1 : w3.frozen? ⟨w1.heap.size, 1, none⟩ = false := by go_simp
      clear hc3 hf3
      go_wp2_with fail
      refine (specPairOk_yes p q _ HP.out).mono ?_
      rintro e w4 ⟨rfl, hh4⟩
      obtain ⟨hc4, hf4⟩ := bcell hh4
      have hz4 := hh4.size
      try simp only [World.size_alloc] at hz4
      have hz4_0 : w1.heap.size < w4.heap.size := by omega
      have kb4_0_0 : w4.cell? ⟨w1.heap.size, 0, none⟩ = some (.int .i64 p) := by go_simp
      have kf4_0_0 : w4.frozen? ⟨w1.heap.size, 0, none⟩ = false := by go_simp
      have kb4_0_1 : w4.cell? ⟨w1.heap.size, 1, none⟩ = some (.int .i64 q) := by go_simp
      have kf4_0_1 : w4.frozen? ⟨w1.heap.size, 1, none⟩ = false := by go_simp
      clear hc4 hf4
      go_wp2_with fail
      refine (implTurned_yes p q _ HP.out).mono ?_
      rintro e w5 ⟨rfl, hh5⟩
      obtain ⟨hc5, hf5⟩ := bcell hh5
      have hz5 := hh5.size
      try simp only [World.size_alloc] at hz5
      have hz5_0 : w1.heap.size < w5.heap.size := by omega
      have kb5_0_0 : w5.cell? ⟨w1.heap.size, 0, none⟩ = some (.int .i64 p) := by go_simp
      have kf5_0_0 : w5.frozen? ⟨w1.heap.size, 0, none⟩ = false := by go_simp
      have kb5_0_1 : w5.cell? ⟨w1.heap.size, 1, none⟩ = some (.int .i64 q) := by go_simp
      have kf5_0_1 : w5.frozen? ⟨w1.heap.size, 1, none⟩ = false := by go_simp
      clear hc5 hf5
      go_wp2_with fail
      refine (implFitting_is (-p) q l c _ HT.out).mono ?_
      rintro e w6 ⟨rfl, hh6⟩
      obtain ⟨hc6, hf6⟩ := bcell hh6
      have hz6 := hh6.size
      try simp only [World.size_alloc] at hz6
      have hz6_0 : w1.heap.size < w6.heap.size := by omega
      have kb6_0_0 : w6.cell? ⟨w1.heap.size, 0, none⟩ = some (.int .i64 p) := by go_simp
      have kf6_0_0 : w6.frozen? ⟨w1.heap.size, 0, none⟩ = false := by go_simp
      have kb6_0_1 : w6.cell? ⟨w1.heap.size, 1, none⟩ = some (.int .i64 q) := by go_simp
      have kf6_0_1 : w6.frozen? ⟨w1.heap.size, 1, none⟩ = false := by go_simp
      clear hc6 hf6
      go_wp2_with fail
      refine (implFitting_is p q 2 false _ H2.out).mono ?_
      rintro e w7 ⟨rfl, hh7⟩
      obtain ⟨hc7, hf7⟩ := bcell hh7
      have hz7 := hh7.size
      try simp only [World.size_alloc] at hz7
      have hz7_0 : w1.heap.size < w7.heap.size := by omega
      have kb7_0_0 : w7.cell? ⟨w1.heap.size, 0, none⟩ = some (.int .i64 p) := by go_simp
      have kf7_0_0 : w7.frozen? ⟨w1.heap.size, 0, none⟩ = false := by go_simp
      have kb7_0_1 : w7.cell? ⟨w1.heap.size, 1, none⟩ = some (.int .i64 q) := by go_simp
      have kf7_0_1 : w7.frozen? ⟨w1.heap.size, 1, none⟩ = false := by go_simp
      clear hc7 hf7
      go_wp2_with fail
      refine (implFitting_is 1 (-1) 7 true _ H7.out).mono ?_
      rintro e w8 ⟨rfl, hh8⟩
      obtain ⟨hc8, hf8⟩ := bcell hh8
      have hz8 := hh8.size
      try simp only [World.size_alloc] at hz8
      clear hc8 hf8
      go_wp2
      go_ret
      exact ⟨rfl, by (repeat (first | exact Below.refl _ _ | refine Below.setCell ?_ (by first | omega | (simp <;> omega)) _ | refine Below.alloc ?_ (by first | omega | (simp <;> omega)) _ | refine Below.drew ?_ | refine Below.trans ?_ (Below.mono (by assumption) (by first | omega | (simp <;> omega))) | refine Below.grown ?_ (by assumption) (by first | omega | (simp <;> omega)) (fun k e => by cases e; first | omega | (simp <;> omega))))⟩
end Go.Proofs.Ythjphhgcpfbjeaa
namespace Go.Proofs.Ythjphhgcpfbjeaa
open Go.RowKit
/-- Beside a prime that fits it divides the row, by the sign of the weight. -/
theorem place_by {p q : Int} {m : Nat} (h : fittingB p q m = true) : (signN (p * p - 4 * q) m = 1 ∧ row p q 0 1 (m - 1) % (m : Int) = 0) ∨ (signN (p * p - 4 * q) m = -1 ∧ row p q 0 1 (m + 1) % (m : Int) = 0) := by
  obtain ⟨hp, hq, ⟨m', he, hm, m1, m2⟩, h1, h2⟩ := fittingB_true h
  obtain rfl : m = m' := by omega
  obtain ⟨⟨r1, r2⟩, r3, r4⟩ := pairB_true hp
  have hb := beside hm (by omega) r1 r2 r3 r4 (fun hd => h1 (Int.dvd_of_emod_eq_zero hd)) (fun hd => h2 (Int.dvd_of_emod_eq_zero hd))
  have he := euler hm (by omega) (p * p - 4 * q)
  obtain ⟨s1, s2⟩ := signN_bd (p * p - 4 * q) m
  have h0 : signN (p * p - 4 * q) m ≠ 0 := by
    rw [signN, if_neg (fun hd => h2 (Int.dvd_of_emod_eq_zero hd))]
    split <;> omega
  generalize signN (p * p - 4 * q) m = s at he s1 s2 h0 ⊢
  rcases (show s = 1 ∨ s = -1 by omega) with rfl | rfl
  · left
    refine ⟨rfl, ?_⟩
    rcases hb with ⟨_, hr⟩ | ⟨hp2, _⟩
    · exact hr
    · rw [hp2, Int.add_emod_right, Int.emod_eq_of_lt (by omega) (by omega)] at he
      omega
  · right
    refine ⟨rfl, ?_⟩
    rcases hb with ⟨hp2, _⟩ | ⟨_, hr⟩
    · rw [hp2, Int.emod_eq_of_lt (by omega) (by omega)] at he
      omega
    · exact hr
theorem fitting_ranked {p q : Int} {m : Nat} (h : fittingB p q m = true) : rankB p q m = true := by
  obtain ⟨hp, hq, ⟨m', he, hm, m1, m2⟩, h1, h2⟩ := fittingB_true h
  obtain rfl : m = m' := by omega
  exact rankB_mk hp hq (by omega) m2 (prime_apart hm h1)
set_option maxRecDepth 100000 in
set_option maxHeartbeats 8000000 in
theorem fnPlaceBy_walk (a : Option Addr) (len cap : Nat) (z : List Int) (w : World) (w0 : IsRow w a len cap z) :
    Calls Try.prog 6 #[.slice a len cap] w fun e w' => e = .returned (.bool true) ∧ Below w.heap.size w w' := by
  by_cases hbig : 1048576 < len
  · go_enter Try.func6, Try.ntmps6
    go_wp2
    go_ret
    exact ⟨rfl, Below.refl _ _⟩
  · have hsm : len ≤ 1048576 := by omega
    go_enter Try.func6, Try.ntmps6
    go_wp2_with fail
    refine (drawPlaceBy_any _ _ _ _ z w0).mono ?_
    rintro e w1 ⟨p, q, l, rfl, hh1⟩
    have hz1 := hh1.size
    obtain ⟨hc1, hf1⟩ := bcell hh1
    cases hb : fittingB p q l with
    | false =>
      have HV := Lib.hid (placeByV_no hb)
      have HB := Lib.hid hb
      clear hb
      go_wp2_with fail
      refine (implPlaceBy_is p q l _ false _ HV.out HB.out).mono ?_
      rintro e w2 ⟨rfl, hh2⟩
      obtain ⟨hc2, hf2⟩ := bcell hh2
      have hz2 := hh2.size
      try simp only [World.size_alloc] at hz2
      have hz2_0 : w1.heap.size < w2.heap.size := by omega
      have kb2_0_0 : w2.cell? ⟨w1.heap.size, 0, none⟩ = some (.int .i64 p) := by go_simp
      have kf2_0_0 : w2.frozen? ⟨w1.heap.size, 0, none⟩ = false := by go_simp
      have kb2_0_1 : w2.cell? ⟨w1.heap.size, 1, none⟩ = some (.int .i64 q) := by go_simp
      have kf2_0_1 : w2.frozen? ⟨w1.heap.size, 1, none⟩ = false := by go_simp
      clear hc2 hf2
      go_wp2_with fail
      refine (specPlaceBy_is p q l _ false _ HV.out HB.out).mono ?_
      rintro e w3 ⟨rfl, hh3⟩
      obtain ⟨hc3, hf3⟩ := bcell hh3
      have hz3 := hh3.size
      try simp only [World.size_alloc] at hz3
      have hz3_0 : w1.heap.size < w3.heap.size := by omega
      have kb3_0_0 : w3.cell? ⟨w1.heap.size, 0, none⟩ = some (.int .i64 p) := by go_simp
      have kf3_0_0 : w3.frozen? ⟨w1.heap.size, 0, none⟩ = false := by go_simp
      have kb3_0_1 : w3.cell? ⟨w1.heap.size, 1, none⟩ = some (.int .i64 q) := by go_simp
      have kf3_0_1 : w3.frozen? ⟨w1.heap.size, 1, none⟩ = false := by go_simp
      clear hc3 hf3
      go_wp2_with fail
      refine (alive_any _).mono ?_
      rintro e w4 ⟨rfl, hh4⟩
      obtain ⟨hc4, hf4⟩ := bcell hh4
      have hz4 := hh4.size
      try simp only [World.size_alloc] at hz4
      clear hc4 hf4
      go_wp2
      go_ret
      exact ⟨rfl, by (repeat (first | exact Below.refl _ _ | refine Below.setCell ?_ (by first | omega | (simp <;> omega)) _ | refine Below.alloc ?_ (by first | omega | (simp <;> omega)) _ | refine Below.drew ?_ | refine Below.trans ?_ (Below.mono (by assumption) (by first | omega | (simp <;> omega))) | refine Below.grown ?_ (by assumption) (by first | omega | (simp <;> omega)) (fun k e => by cases e; first | omega | (simp <;> omega))))⟩
    | true =>
      obtain ⟨hp, hq, ⟨m, rfl, hm, m1, m2⟩, h1, h2⟩ := fittingB_true hb
      have HB := Lib.hid hb
      have HP := Lib.hid hp
      have hrb := fitting_ranked hb
      obtain ⟨_, _, _, _, k, hk, k1, k2, ha⟩ := rankB_true hrb
      obtain rfl : m = k := by omega
      obtain ⟨c1, c2⟩ := rank_bd (p := p) k1 k2 ha
      have HRB := Lib.hid hrb
      have HRV := Lib.hid (rankV_is hrb)
      have hpv := placeByV_is hb
      have hdv := fun t => (rankN_dvd (p := p) m k1 ha t).1
      obtain ⟨R, hR⟩ : ∃ R, rankN p q m = R := ⟨_, rfl⟩
      rw [hR] at c1 c2 HRV hdv
      have hRz : ((R : Int) == 0) = false := by simp; omega
      have hR1 : (1 : Int) ≤ (R : Int) := by omega
      rcases place_by hb with ⟨hs, hr⟩ | ⟨hs, hr⟩
      · obtain ⟨t, rfl⟩ : ∃ t, m = t + 1 := ⟨m - 1, by omega⟩
        rw [Nat.add_sub_cancel] at hr
        rw [hs] at hpv
        have HV := Lib.hid (show placeByV p q ((t + 1 : Nat) : Int) = (t : Int) by rw [hpv]; omega)
        have HF := Lib.hid hr
        have hdm : (t : Int) % (R : Int) = 0 := Int.emod_eq_zero_of_dvd (Int.natCast_dvd_natCast.2 (hdv t (Int.dvd_of_emod_eq_zero hr)))
        clear hb hp hq hm h1 h2 hrb ha hpv hdv hR hs hr
        go_wp2_with fail
        refine (implPlaceBy_is p q _ _ true _ HV.out HB.out).mono ?_
        rintro e w2 ⟨rfl, hh2⟩
        obtain ⟨hc2, hf2⟩ := bcell hh2
        have hz2 := hh2.size
        try simp only [World.size_alloc] at hz2
        have hz2_0 : w1.heap.size < w2.heap.size := by omega
        have kb2_0_0 : w2.cell? ⟨w1.heap.size, 0, none⟩ = some (.int .i64 p) := by go_simp
        have kf2_0_0 : w2.frozen? ⟨w1.heap.size, 0, none⟩ = false := by go_simp
        have kb2_0_1 : w2.cell? ⟨w1.heap.size, 1, none⟩ = some (.int .i64 q) := by go_simp
        have kf2_0_1 : w2.frozen? ⟨w1.heap.size, 1, none⟩ = false := by go_simp
        clear hc2 hf2
        go_wp2_with fail
        refine (specPlaceBy_is p q _ _ true _ HV.out HB.out).mono ?_
        rintro e w3 ⟨rfl, hh3⟩
        obtain ⟨hc3, hf3⟩ := bcell hh3
        have hz3 := hh3.size
        try simp only [World.size_alloc] at hz3
        have hz3_0 : w1.heap.size < w3.heap.size := by omega
        have kb3_0_0 : w3.cell? ⟨w1.heap.size, 0, none⟩ = some (.int .i64 p) := by go_simp
        have kf3_0_0 : w3.frozen? ⟨w1.heap.size, 0, none⟩ = false := by go_simp
        have kb3_0_1 : w3.cell? ⟨w1.heap.size, 1, none⟩ = some (.int .i64 q) := by go_simp
        have kf3_0_1 : w3.frozen? ⟨w1.heap.size, 1, none⟩ = false := by go_simp
        clear hc3 hf3
        go_wp2_with fail
        refine (implRank_is p q _ _ true _ HRV.out HRB.out).mono ?_
        rintro e w4 ⟨rfl, hh4⟩
        obtain ⟨hc4, hf4⟩ := bcell hh4
        have hz4 := hh4.size
        try simp only [World.size_alloc] at hz4
        have hz4_0 : w1.heap.size < w4.heap.size := by omega
        have kb4_0_0 : w4.cell? ⟨w1.heap.size, 0, none⟩ = some (.int .i64 p) := by go_simp
        have kf4_0_0 : w4.frozen? ⟨w1.heap.size, 0, none⟩ = false := by go_simp
        have kb4_0_1 : w4.cell? ⟨w1.heap.size, 1, none⟩ = some (.int .i64 q) := by go_simp
        have kf4_0_1 : w4.frozen? ⟨w1.heap.size, 1, none⟩ = false := by go_simp
        clear hc4 hf4
        go_wp2_with fail
        refine (implFarFirst_at p q ((t + 1 : Nat) : Int) t 0 _ _ rfl HP.out (by omega) (by omega) (by omega) HF.out).mono ?_
        rintro e w5 ⟨rfl, hh5⟩
        obtain ⟨hc5, hf5⟩ := bcell hh5
        have hz5 := hh5.size
        try simp only [World.size_alloc] at hz5
        have hz5_0 : w1.heap.size < w5.heap.size := by omega
        have kb5_0_0 : w5.cell? ⟨w1.heap.size, 0, none⟩ = some (.int .i64 p) := by go_simp
        have kf5_0_0 : w5.frozen? ⟨w1.heap.size, 0, none⟩ = false := by go_simp
        have kb5_0_1 : w5.cell? ⟨w1.heap.size, 1, none⟩ = some (.int .i64 q) := by go_simp
        have kf5_0_1 : w5.frozen? ⟨w1.heap.size, 1, none⟩ = false := by go_simp
        clear hc5 hf5
        go_wp2
        go_ret
        exact ⟨rfl, by (repeat (first | exact Below.refl _ _ | refine Below.setCell ?_ (by first | omega | (simp <;> omega)) _ | refine Below.alloc ?_ (by first | omega | (simp <;> omega)) _ | refine Below.drew ?_ | refine Below.trans ?_ (Below.mono (by assumption) (by first | omega | (simp <;> omega))) | refine Below.grown ?_ (by assumption) (by first | omega | (simp <;> omega)) (fun k e => by cases e; first | omega | (simp <;> omega))))⟩
      · rw [hs] at hpv
        have HV := Lib.hid (show placeByV p q m = ((m + 1 : Nat) : Int) by rw [hpv]; omega)
        have HF := Lib.hid hr
        have hdm : ((m + 1 : Nat) : Int) % (R : Int) = 0 := Int.emod_eq_zero_of_dvd (Int.natCast_dvd_natCast.2 (hdv (m + 1) (Int.dvd_of_emod_eq_zero hr)))
        obtain ⟨u, hu⟩ : ∃ u, m + 1 = u := ⟨_, rfl⟩
        rw [hu] at HV HF hdm
        have hne : ((u : Int) == (m : Int) - 1) = false := by simp; omega
        have heq : ((u : Int) == (m : Int) + 1) = true := by simp; omega
        clear hb hp hq hm h1 h2 hrb ha hpv hdv hR hs hr
        go_wp2_with fail
        refine (implPlaceBy_is p q _ _ true _ HV.out HB.out).mono ?_
        rintro e w2 ⟨rfl, hh2⟩
        obtain ⟨hc2, hf2⟩ := bcell hh2
        have hz2 := hh2.size
        try simp only [World.size_alloc] at hz2
        have hz2_0 : w1.heap.size < w2.heap.size := by omega
        have kb2_0_0 : w2.cell? ⟨w1.heap.size, 0, none⟩ = some (.int .i64 p) := by go_simp
        have kf2_0_0 : w2.frozen? ⟨w1.heap.size, 0, none⟩ = false := by go_simp
        have kb2_0_1 : w2.cell? ⟨w1.heap.size, 1, none⟩ = some (.int .i64 q) := by go_simp
        have kf2_0_1 : w2.frozen? ⟨w1.heap.size, 1, none⟩ = false := by go_simp
        clear hc2 hf2
        go_wp2_with fail
        refine (specPlaceBy_is p q _ _ true _ HV.out HB.out).mono ?_
        rintro e w3 ⟨rfl, hh3⟩
        obtain ⟨hc3, hf3⟩ := bcell hh3
        have hz3 := hh3.size
        try simp only [World.size_alloc] at hz3
        have hz3_0 : w1.heap.size < w3.heap.size := by omega
        have kb3_0_0 : w3.cell? ⟨w1.heap.size, 0, none⟩ = some (.int .i64 p) := by go_simp
        have kf3_0_0 : w3.frozen? ⟨w1.heap.size, 0, none⟩ = false := by go_simp
        have kb3_0_1 : w3.cell? ⟨w1.heap.size, 1, none⟩ = some (.int .i64 q) := by go_simp
        have kf3_0_1 : w3.frozen? ⟨w1.heap.size, 1, none⟩ = false := by go_simp
        clear hc3 hf3
        go_wp2_with fail
        refine (implRank_is p q _ _ true _ HRV.out HRB.out).mono ?_
        rintro e w4 ⟨rfl, hh4⟩
        obtain ⟨hc4, hf4⟩ := bcell hh4
        have hz4 := hh4.size
        try simp only [World.size_alloc] at hz4
        have hz4_0 : w1.heap.size < w4.heap.size := by omega
        have kb4_0_0 : w4.cell? ⟨w1.heap.size, 0, none⟩ = some (.int .i64 p) := by go_simp
        have kf4_0_0 : w4.frozen? ⟨w1.heap.size, 0, none⟩ = false := by go_simp
        have kb4_0_1 : w4.cell? ⟨w1.heap.size, 1, none⟩ = some (.int .i64 q) := by go_simp
        have kf4_0_1 : w4.frozen? ⟨w1.heap.size, 1, none⟩ = false := by go_simp
        clear hc4 hf4
        go_wp2_with fail
        refine (implFarFirst_at p q m u 0 _ _ rfl HP.out (by omega) (by omega) (by omega) HF.out).mono ?_
        rintro e w5 ⟨rfl, hh5⟩
        obtain ⟨hc5, hf5⟩ := bcell hh5
        have hz5 := hh5.size
        try simp only [World.size_alloc] at hz5
        have hz5_0 : w1.heap.size < w5.heap.size := by omega
        have kb5_0_0 : w5.cell? ⟨w1.heap.size, 0, none⟩ = some (.int .i64 p) := by go_simp
        have kf5_0_0 : w5.frozen? ⟨w1.heap.size, 0, none⟩ = false := by go_simp
        have kb5_0_1 : w5.cell? ⟨w1.heap.size, 1, none⟩ = some (.int .i64 q) := by go_simp
        have kf5_0_1 : w5.frozen? ⟨w1.heap.size, 1, none⟩ = false := by go_simp
        clear hc5 hf5
        go_wp2
        go_ret
        exact ⟨rfl, by (repeat (first | exact Below.refl _ _ | refine Below.setCell ?_ (by first | omega | (simp <;> omega)) _ | refine Below.alloc ?_ (by first | omega | (simp <;> omega)) _ | refine Below.drew ?_ | refine Below.trans ?_ (Below.mono (by assumption) (by first | omega | (simp <;> omega))) | refine Below.grown ?_ (by assumption) (by first | omega | (simp <;> omega)) (fun k e => by cases e; first | omega | (simp <;> omega))))⟩
end Go.Proofs.Ythjphhgcpfbjeaa
namespace Go.Proofs.Ythjphhgcpfbjeaa
open Go.RowKit
theorem second_two (p q : Int) : row p q 2 p 2 % 2 = p % 2 := by
  have h1 : row p q 2 p 2 = p * p - 2 * q := by simp [row]; omega
  rw [h1, Int.sub_emod, Int.mul_emod_right, Int.sub_zero, Int.emod_emod, Int.mul_emod]
  rcases (show p % 2 = 0 ∨ p % 2 = 1 by omega) with h | h <;> simp [h]
/-- At a prime the second row leaves P. -/
theorem at_second {m : Nat} (hm : m ∈ primes400) {p q : Int} (hp : pairB p q = true) : row p q 2 p m % (m : Int) = p % (m : Int) := by
  obtain ⟨⟨r1, r2⟩, r3, r4⟩ := pairB_true hp
  by_cases h2 : m = 2
  · subst h2; exact second_two p q
  · exact (at_prime hm h2 r1 r2 r3 r4).2
theorem at_first {m : Nat} (hm : m ∈ primes400) (h2 : m ≠ 2) {p q : Int} (hp : pairB p q = true) : row p q 0 1 m % (m : Int) = (signN (p * p - 4 * q) m + m) % (m : Int) := by
  obtain ⟨⟨r1, r2⟩, r3, r4⟩ := pairB_true hp
  rw [(at_prime hm h2 r1 r2 r3 r4).1, euler hm h2]
set_option maxRecDepth 100000 in
set_option maxHeartbeats 8000000 in
theorem fnAtPrime_walk (a : Option Addr) (len cap : Nat) (z : List Int) (w : World) (w0 : IsRow w a len cap z) :
    Calls Try.prog 7 #[.slice a len cap] w fun e w' => e = .returned (.bool true) ∧ Below w.heap.size w w' := by
  by_cases hbig : 1048576 < len
  · go_enter Try.func7, Try.ntmps7
    go_wp2
    go_ret
    exact ⟨rfl, Below.refl _ _⟩
  · have hsm : len ≤ 1048576 := by omega
    go_enter Try.func7, Try.ntmps7
    go_wp2_with fail
    refine (drawAtPrime_any _ _ _ _ z w0).mono ?_
    rintro e w1 ⟨p, q, l, rfl, hh1⟩
    have hz1 := hh1.size
    obtain ⟨hc1, hf1⟩ := bcell hh1
    cases hb : atPrimeB p q l with
    | false =>
      have HX := Lib.hid (show atFirstV p q l = -1 by rw [atFirstV, if_neg (by simp [hb])])
      have HY := Lib.hid (show atSecondV p q l = -1 by rw [atSecondV, if_neg (by simp [hb])])
      have HB := Lib.hid hb
      clear hb
      go_wp2_with fail
      refine (implAtPrime_is p q l _ _ false _ HX.out HY.out HB.out).mono ?_
      rintro e w2 ⟨rfl, hh2⟩
      obtain ⟨hc2, hf2⟩ := bcell hh2
      have hz2 := hh2.size
      try simp only [World.size_alloc] at hz2
      have hz2_0 : w1.heap.size < w2.heap.size := by omega
      have kb2_0_0 : w2.cell? ⟨w1.heap.size, 0, none⟩ = some (.int .i64 p) := by go_simp
      have kf2_0_0 : w2.frozen? ⟨w1.heap.size, 0, none⟩ = false := by go_simp
      have kb2_0_1 : w2.cell? ⟨w1.heap.size, 1, none⟩ = some (.int .i64 q) := by go_simp
      have kf2_0_1 : w2.frozen? ⟨w1.heap.size, 1, none⟩ = false := by go_simp
      clear hc2 hf2
      go_wp2_with fail
      refine (specAtPrime_is p q l _ _ false _ HX.out HY.out HB.out).mono ?_
      rintro e w3 ⟨rfl, hh3⟩
      obtain ⟨hc3, hf3⟩ := bcell hh3
      have hz3 := hh3.size
      try simp only [World.size_alloc] at hz3
      have hz3_0 : w1.heap.size < w3.heap.size := by omega
      have kb3_0_0 : w3.cell? ⟨w1.heap.size, 0, none⟩ = some (.int .i64 p) := by go_simp
      have kf3_0_0 : w3.frozen? ⟨w1.heap.size, 0, none⟩ = false := by go_simp
      have kb3_0_1 : w3.cell? ⟨w1.heap.size, 1, none⟩ = some (.int .i64 q) := by go_simp
      have kf3_0_1 : w3.frozen? ⟨w1.heap.size, 1, none⟩ = false := by go_simp
      clear hc3 hf3
      go_wp2_with fail
      refine (alive_any _).mono ?_
      rintro e w4 ⟨rfl, hh4⟩
      obtain ⟨hc4, hf4⟩ := bcell hh4
      have hz4 := hh4.size
      try simp only [World.size_alloc] at hz4
      clear hc4 hf4
      go_wp2
      go_ret
      exact ⟨rfl, by (repeat (first | exact Below.refl _ _ | refine Below.setCell ?_ (by first | omega | (simp <;> omega)) _ | refine Below.alloc ?_ (by first | omega | (simp <;> omega)) _ | refine Below.drew ?_ | refine Below.trans ?_ (Below.mono (by assumption) (by first | omega | (simp <;> omega))) | refine Below.grown ?_ (by assumption) (by first | omega | (simp <;> omega)) (fun k e => by cases e; first | omega | (simp <;> omega))))⟩
    | true =>
      have hb' : pairB p q = true ∧ primeB l = true := by simpa [atPrimeB] using hb
      obtain ⟨hp, hl⟩ := hb'
      obtain ⟨m, rfl, hm, m1, m2⟩ := primeB_true hl
      obtain ⟨⟨r1, r2⟩, r3, r4⟩ := pairB_true hp
      obtain ⟨b1, b2⟩ := weight_bd hp
      have HB := Lib.hid hb
      have HP := Lib.hid hp
      have HW := Lib.hid (weightV_is hp)
      have hY : atSecondV p q m = p % (m : Int) := by rw [atSecondV, if_pos hb]; exact at_second hm hp
      obtain ⟨x, hx⟩ : ∃ x, p * p - 4 * q = x := ⟨_, rfl⟩
      obtain ⟨y, hy⟩ : ∃ y, p % (m : Int) = y := ⟨_, rfl⟩
      obtain ⟨y0, y1⟩ := left_bd p m (show (1 : Int) ≤ (m : Int) by omega)
      have hdy : (y - p).tmod (m : Int) = 0 := by
        refine Int.tmod_eq_zero_of_dvd ?_
        rw [← hy, show p % (m : Int) - p = -(p - p % (m : Int)) by omega]
        exact Int.dvd_neg.2 (Int.dvd_self_sub_emod)
      rw [hx] at HW b1 b2
      rw [hy] at hY y0 y1
      have HY := Lib.hid hY
      have hz : ((m : Int) == 0) = false := by simp; omega
      have hz' : ¬ (m : Int) = 0 := by omega
      by_cases h2 : m = 2
      · subst h2
        obtain ⟨a, ha⟩ : ∃ a, atFirstV p q ((2 : Nat) : Int) = a := ⟨_, rfl⟩
        have HX := Lib.hid ha
        have HS := Lib.hid (show squareB x ((2 : Nat) : Int) = false by simp [squareB])
        have HV := Lib.hid (squareV_no HS.out)
        have HX' := Lib.hid (show atFirstV p q 2 = a from ha)
        have HY' := Lib.hid (show atSecondV p q 2 = y from hY)
        have HB' := Lib.hid (show atPrimeB p q 2 = true from hb)
        have HS' := Lib.hid (show squareB x 2 = false from HS.out)
        have HV' := Lib.hid (show squareV x 2 = 0 from HV.out)
        clear hb hp hl hm hx hy hY ha
        go_wp2_with fail
        refine (implAtPrime_is p q 2 a y true _ HX'.out HY'.out HB'.out).mono ?_
        rintro e w2 ⟨rfl, hh2⟩
        obtain ⟨hc2, hf2⟩ := bcell hh2
        have hz2 := hh2.size
        try simp only [World.size_alloc] at hz2
        have hz2_0 : w1.heap.size < w2.heap.size := by omega
        have kb2_0_0 : w2.cell? ⟨w1.heap.size, 0, none⟩ = some (.int .i64 p) := by go_simp
        have kf2_0_0 : w2.frozen? ⟨w1.heap.size, 0, none⟩ = false := by go_simp
        have kb2_0_1 : w2.cell? ⟨w1.heap.size, 1, none⟩ = some (.int .i64 q) := by go_simp
        have kf2_0_1 : w2.frozen? ⟨w1.heap.size, 1, none⟩ = false := by go_simp
        clear hc2 hf2
        go_wp2_with fail
        refine (specAtPrime_is p q 2 a y true _ HX'.out HY'.out HB'.out).mono ?_
        rintro e w3 ⟨rfl, hh3⟩
        obtain ⟨hc3, hf3⟩ := bcell hh3
        have hz3 := hh3.size
        try simp only [World.size_alloc] at hz3
        have hz3_0 : w1.heap.size < w3.heap.size := by omega
        have kb3_0_0 : w3.cell? ⟨w1.heap.size, 0, none⟩ = some (.int .i64 p) := by go_simp
        have kf3_0_0 : w3.frozen? ⟨w1.heap.size, 0, none⟩ = false := by go_simp
        have kb3_0_1 : w3.cell? ⟨w1.heap.size, 1, none⟩ = some (.int .i64 q) := by go_simp
        have kf3_0_1 : w3.frozen? ⟨w1.heap.size, 1, none⟩ = false := by go_simp
        clear hc3 hf3
        go_wp2_with fail
        refine (implWeight_val p q x _ HP.out HW.out).mono ?_
        rintro e w4 ⟨rfl, hh4⟩
        obtain ⟨hc4, hf4⟩ := bcell hh4
        have hz4 := hh4.size
        try simp only [World.size_alloc] at hz4
        have hz4_0 : w1.heap.size < w4.heap.size := by omega
        have kb4_0_0 : w4.cell? ⟨w1.heap.size, 0, none⟩ = some (.int .i64 p) := by go_simp
        have kf4_0_0 : w4.frozen? ⟨w1.heap.size, 0, none⟩ = false := by go_simp
        have kb4_0_1 : w4.cell? ⟨w1.heap.size, 1, none⟩ = some (.int .i64 q) := by go_simp
        have kf4_0_1 : w4.frozen? ⟨w1.heap.size, 1, none⟩ = false := by go_simp
        clear hc4 hf4
        go_wp2_with fail
        refine (implSquare_is x 2 0 false _ HV'.out HS'.out).mono ?_
        rintro e w5 ⟨rfl, hh5⟩
        obtain ⟨hc5, hf5⟩ := bcell hh5
        have hz5 := hh5.size
        try simp only [World.size_alloc] at hz5
        have hz5_0 : w1.heap.size < w5.heap.size := by omega
        have kb5_0_0 : w5.cell? ⟨w1.heap.size, 0, none⟩ = some (.int .i64 p) := by go_simp
        have kf5_0_0 : w5.frozen? ⟨w1.heap.size, 0, none⟩ = false := by go_simp
        have kb5_0_1 : w5.cell? ⟨w1.heap.size, 1, none⟩ = some (.int .i64 q) := by go_simp
        have kf5_0_1 : w5.frozen? ⟨w1.heap.size, 1, none⟩ = false := by go_simp
        clear hc5 hf5
        go_wp2_with fail
        refine (alive_any _).mono ?_
        rintro e w6 ⟨rfl, hh6⟩
        obtain ⟨hc6, hf6⟩ := bcell hh6
        have hz6 := hh6.size
        try simp only [World.size_alloc] at hz6
        clear hc6 hf6
        go_wp2
        go_ret
        exact ⟨rfl, by (repeat (first | exact Below.refl _ _ | refine Below.setCell ?_ (by first | omega | (simp <;> omega)) _ | refine Below.alloc ?_ (by first | omega | (simp <;> omega)) _ | refine Below.drew ?_ | refine Below.trans ?_ (Below.mono (by assumption) (by first | omega | (simp <;> omega))) | refine Below.grown ?_ (by assumption) (by first | omega | (simp <;> omega)) (fun k e => by cases e; first | omega | (simp <;> omega))))⟩
      · have hs : squareB x m = true := squareB_mk hm h2 (by omega) (by omega)
        have HS := Lib.hid hs
        have HSV := Lib.hid (squareV_is hs)
        obtain ⟨s1, s2⟩ := signN_bd x m
        have hX : atFirstV p q m = (signN x m + m) % (m : Int) := by rw [atFirstV, if_pos hb, ← hx]; exact at_first hm h2 hp
        obtain ⟨s, hss⟩ : ∃ s, signN x m = s := ⟨_, rfl⟩
        rw [hss] at HSV s1 s2 hX
        obtain ⟨a, ha⟩ : ∃ a, (s + (m : Int)) % (m : Int) = a := ⟨_, rfl⟩
        obtain ⟨a0, a1⟩ := left_bd (s + (m : Int)) m (show (1 : Int) ≤ (m : Int) by omega)
        have hda : (a - s).tmod (m : Int) = 0 := by
          refine Int.tmod_eq_zero_of_dvd ?_
          have e := Int.emod_add_mul_ediv (s + (m : Int)) (m : Int)
          rw [ha] at e
          exact ⟨1 - (s + (m : Int)) / (m : Int), by rw [Int.mul_sub, Int.mul_one]; omega⟩
        rw [ha] at hX a0 a1
        have HX := Lib.hid hX
        have hm2 : ((m : Int) == 2) = false := by simp; omega
        clear hb hp hl hm hx hy hY hs hX hss ha
        go_wp2_with fail
        refine (implAtPrime_is p q m a y true _ HX.out HY.out HB.out).mono ?_
        rintro e w2 ⟨rfl, hh2⟩
        obtain ⟨hc2, hf2⟩ := bcell hh2
        have hz2 := hh2.size
        try simp only [World.size_alloc] at hz2
        have hz2_0 : w1.heap.size < w2.heap.size := by omega
        have kb2_0_0 : w2.cell? ⟨w1.heap.size, 0, none⟩ = some (.int .i64 p) := by go_simp
        have kf2_0_0 : w2.frozen? ⟨w1.heap.size, 0, none⟩ = false := by go_simp
        have kb2_0_1 : w2.cell? ⟨w1.heap.size, 1, none⟩ = some (.int .i64 q) := by go_simp
        have kf2_0_1 : w2.frozen? ⟨w1.heap.size, 1, none⟩ = false := by go_simp
        clear hc2 hf2
        go_wp2_with fail
        refine (specAtPrime_is p q m a y true _ HX.out HY.out HB.out).mono ?_
        rintro e w3 ⟨rfl, hh3⟩
        obtain ⟨hc3, hf3⟩ := bcell hh3
        have hz3 := hh3.size
        try simp only [World.size_alloc] at hz3
        have hz3_0 : w1.heap.size < w3.heap.size := by omega
        have kb3_0_0 : w3.cell? ⟨w1.heap.size, 0, none⟩ = some (.int .i64 p) := by go_simp
        have kf3_0_0 : w3.frozen? ⟨w1.heap.size, 0, none⟩ = false := by go_simp
        have kb3_0_1 : w3.cell? ⟨w1.heap.size, 1, none⟩ = some (.int .i64 q) := by go_simp
        have kf3_0_1 : w3.frozen? ⟨w1.heap.size, 1, none⟩ = false := by go_simp
        clear hc3 hf3
        go_wp2_with fail
        refine (implWeight_val p q x _ HP.out HW.out).mono ?_
        rintro e w4 ⟨rfl, hh4⟩
        obtain ⟨hc4, hf4⟩ := bcell hh4
        have hz4 := hh4.size
        try simp only [World.size_alloc] at hz4
        have hz4_0 : w1.heap.size < w4.heap.size := by omega
        have kb4_0_0 : w4.cell? ⟨w1.heap.size, 0, none⟩ = some (.int .i64 p) := by go_simp
        have kf4_0_0 : w4.frozen? ⟨w1.heap.size, 0, none⟩ = false := by go_simp
        have kb4_0_1 : w4.cell? ⟨w1.heap.size, 1, none⟩ = some (.int .i64 q) := by go_simp
        have kf4_0_1 : w4.frozen? ⟨w1.heap.size, 1, none⟩ = false := by go_simp
        clear hc4 hf4
        go_wp2_with fail
        refine (implSquare_is x m s true _ HSV.out HS.out).mono ?_
        rintro e w5 ⟨rfl, hh5⟩
        obtain ⟨hc5, hf5⟩ := bcell hh5
        have hz5 := hh5.size
        try simp only [World.size_alloc] at hz5
        have hz5_0 : w1.heap.size < w5.heap.size := by omega
        have kb5_0_0 : w5.cell? ⟨w1.heap.size, 0, none⟩ = some (.int .i64 p) := by go_simp
        have kf5_0_0 : w5.frozen? ⟨w1.heap.size, 0, none⟩ = false := by go_simp
        have kb5_0_1 : w5.cell? ⟨w1.heap.size, 1, none⟩ = some (.int .i64 q) := by go_simp
        have kf5_0_1 : w5.frozen? ⟨w1.heap.size, 1, none⟩ = false := by go_simp
        clear hc5 hf5
        go_wp2_with fail
        refine (alive_any _).mono ?_
        rintro e w6 ⟨rfl, hh6⟩
        obtain ⟨hc6, hf6⟩ := bcell hh6
        have hz6 := hh6.size
        try simp only [World.size_alloc] at hz6
        clear hc6 hf6
        go_wp2
        go_ret
        exact ⟨rfl, by (repeat (first | exact Below.refl _ _ | refine Below.setCell ?_ (by first | omega | (simp <;> omega)) _ | refine Below.alloc ?_ (by first | omega | (simp <;> omega)) _ | refine Below.drew ?_ | refine Below.trans ?_ (Below.mono (by assumption) (by first | omega | (simp <;> omega))) | refine Below.grown ?_ (by assumption) (by first | omega | (simp <;> omega)) (fun k e => by cases e; first | omega | (simp <;> omega))))⟩
end Go.Proofs.Ythjphhgcpfbjeaa
