/- Contracts and laws that the statement's proof stands on, one text behind the other. -/
import Derived.Test.YtpogmnkedohdcaaAll1
import Derived.Test.YtpogmnkedohdcaaHvRankParts
import Derived.Test.YtpogmnkedohdcaaHvRankDraws
import Derived.Maps.OwnIn

namespace Go.Proofs.Ytpogmnkedohdcaa
open Go.RowKit
set_option maxHeartbeats 1000000 in
theorem againFn_at (x y a b : Int) (S : Nat) (w : World) (hs0 : w.cell? ⟨S, 0, none⟩ = some (.int .i64 a)) (hs1 : w.cell? ⟨S, 1, none⟩ = some (.int .i64 b)) :
    Calls Try.prog 65 #[pr x y, .pointer (some ⟨S, 0, none⟩)] w fun e w' => e = .returned (.bool (x == a && y == b)) ∧ Below w.heap.size w w' := by
  have hlt := World.block_lt_of_cell? _ _ hs0
  go_enter Try.func65, Try.ntmps65
  go_wp2
  all_goals go_ret
  all_goals refine ⟨ret_bool (by simp_all), by (repeat (first | exact Below.refl _ _ | refine Below.setCell ?_ (by first | omega | (simp <;> omega)) _ | refine Below.alloc ?_ (by first | omega | (simp <;> omega)) _ | refine Below.drew ?_ | refine Below.trans ?_ (Below.mono (by assumption) (by first | omega | (simp <;> omega))) | refine Below.grown ?_ (by assumption) (by first | omega | (simp <;> omega)) (fun k e => by cases e; first | omega | (simp <;> omega))))⟩
theorem left_periodN {p q : Int} {k : Nat} (k1 : 1 ≤ k) (ha : Apart (k : Int) q) (n : Nat) (h1 : 1 ≤ n) (h2 : n ≤ periodN p q k) : (row p q 0 1 n % (k : Int) == 0 && row p q 0 1 (n + 1) % (k : Int) == 1 % (k : Int)) = decide (n = periodN p q k) := period_left k1 ha n h1 h2
set_option maxRecDepth 100000 in
set_option maxHeartbeats 8000000 in
theorem placeAgain_at (p q : Int) (k : Nat) (w : World) (hp : pairB p q = true) (k1 : 1 ≤ k) (k2 : k ≤ 10000) (ha : Apart (k : Int) q) (S : Nat) (hs0 : w.cell? ⟨S, 0, none⟩ = some (.int .i64 0)) (hs1 : w.cell? ⟨S, 1, none⟩ = some (.int .i64 (1 % (k : Int)))) :
    Calls Try.prog 64 #[pr p q, .int .i64 k, .func (.func 65) #[] #[.pointer (some ⟨S, 0, none⟩)]] w fun e w' => e = .returned (.int .i64 (periodN p q k)) ∧ Below w.heap.size w w' := by
  obtain ⟨⟨r1, r2⟩, r3, r4⟩ := pairB_true hp
  obtain ⟨_, b1, b2, _⟩ := periodN_spec (p := p) k k1 ha
  have b3 : periodN p q k ≤ 100000000 := Nat.le_trans b2 (Nat.mul_le_mul k2 k2)
  have HL := Lib.hid (left_periodN (p := p) k1 ha)
  obtain ⟨R, hR⟩ : ∃ R, periodN p q k = R := ⟨_, rfl⟩
  rw [hR] at b1 b3 HL ⊢
  have m1 : (1 : Int) ≤ (k : Int) := by omega
  have m2 : (k : Int) ≤ 10000 := by omega
  obtain ⟨z1, z2⟩ := left_bd 1 k m1
  have E1 := Lib.hid (show (1 : Int) % (k : Int) = row p q 0 1 1 % (k : Int) by simp [row])
  have E2 := Lib.hid (show (p * ((1 : Int) % (k : Int)) - q * 0) % (k : Int) = row p q 0 1 2 % (k : Int) by
    have := far_next p q k 0
    simpa [row] using this)
  have e0 : (0 : Int) < (k : Int) := by omega
  have hS0 := World.block_lt_of_cell? _ _ hs0
  have hS1 := World.block_lt_of_cell? _ _ hs1
  clear hp hR ha b2
  go_enter Try.func64, Try.ntmps64
  go_wp2_with fail
  go_cut [8] from 9 to 13 (fun v wx => ∃ B : Nat, w.heap.size < B ∧ v = .pointer (some ⟨B, 0, none⟩) ∧ wx.cell? ⟨B, 0, none⟩ = some (.int .i64 (row p q 0 1 1 % (k : Int))) ∧ wx.cell? ⟨B, 1, none⟩ = some (.int .i64 (row p q 0 1 2 % (k : Int))) ∧ wx.frozen? ⟨B, 0, none⟩ = false ∧ wx.frozen? ⟨B, 1, none⟩ = false ∧ wx.cell? ⟨w.heap.size, 0, none⟩ = some (.int .i64 p) ∧ wx.cell? ⟨w.heap.size, 1, none⟩ = some (.int .i64 q) ∧ Below w.heap.size w wx)
  case first =>
    go_region_with ((first | (go_at_call 59; refine (leftAtStart_at k _ m1 m2).mono ?_; rintro e w2 ⟨rfl, hh2⟩; have hz2 := hh2.size; (try simp at hz2); have hzl2 : w.heap.size < w2.heap.size := (by omega); have kx0 := (hh2.cell (p := ⟨w.heap.size, 0, none⟩) (by first | omega | (simp <;> omega))); have kx1 := (hh2.cell (p := ⟨w.heap.size, 1, none⟩) (by first | omega | (simp <;> omega))); (first | (have ks0_0 := (hh2.cell (p := ⟨w.heap.size + 1, 0, none⟩) (by first | omega | (simp <;> omega) | fail)); have kg0_0 := (hh2.frozen (p := ⟨w.heap.size + 1, 0, none⟩) (by first | omega | (simp <;> omega) | fail))) | skip); (first | (have ks0_1 := (hh2.cell (p := ⟨w.heap.size + 1, 1, none⟩) (by first | omega | (simp <;> omega) | fail)); have kg0_1 := (hh2.frozen (p := ⟨w.heap.size + 1, 1, none⟩) (by first | omega | (simp <;> omega) | fail))) | skip)) | (go_at_call 61; refine (goneOn_at 0 _ p q k r1 r2 r3 r4 m1 m2 (Int.le_refl 0) e0 z1 z2 _ _ E2.out).mono ?_; rintro e w3 ⟨rfl, hh2⟩; have hz3 := hh2.size; (try simp at hz3); have hzl3 : w.heap.size < w3.heap.size := (by omega); have kx0 := (hh2.cell (p := ⟨w.heap.size, 0, none⟩) (by first | omega | (simp <;> omega))); have kx1 := (hh2.cell (p := ⟨w.heap.size, 1, none⟩) (by first | omega | (simp <;> omega))); (first | (have ks0_0 := (hh2.cell (p := ⟨w.heap.size + 1, 0, none⟩) (by first | omega | (simp <;> omega) | fail)); have kg0_0 := (hh2.frozen (p := ⟨w.heap.size + 1, 0, none⟩) (by first | omega | (simp <;> omega) | fail))) | skip); (first | (have ks0_1 := (hh2.cell (p := ⟨w.heap.size + 1, 1, none⟩) (by first | omega | (simp <;> omega) | fail)); have kg0_1 := (hh2.frozen (p := ⟨w.heap.size + 1, 1, none⟩) (by first | omega | (simp <;> omega) | fail))) | skip); (first | (have ks1_0 := (hh2.cell (p := ⟨w2.heap.size, 0, none⟩) (by first | omega | (simp <;> omega) | fail)); have kg1_0 := (hh2.frozen (p := ⟨w2.heap.size, 0, none⟩) (by first | omega | (simp <;> omega) | fail))) | skip); (first | (have ks1_1 := (hh2.cell (p := ⟨w2.heap.size, 1, none⟩) (by first | omega | (simp <;> omega) | fail)); have kg1_1 := (hh2.frozen (p := ⟨w2.heap.size, 1, none⟩) (by first | omega | (simp <;> omega) | fail))) | skip)) | fail))
    all_goals (go_wp2_with fail; go_meet)
    all_goals
      case rel =>
        refine ⟨_, ?_, rfl, ?_, ?_, ?_, ?_, ?_, ?_, ?_⟩
        · first | omega | (simp <;> omega)
        · rw [← E1.out]; go_simp
        · go_simp
        · go_simp
        · go_simp
        · go_simp
        · go_simp
        · (repeat (first | exact Below.refl _ _ | refine Below.setCell ?_ (by first | omega | (simp <;> omega)) _ | refine Below.alloc ?_ (by first | omega | (simp <;> omega)) _ | refine Below.drew ?_ | refine Below.trans ?_ (Below.mono (by assumption) (by first | omega | (simp <;> omega))) | refine Below.grown ?_ (by assumption) (by first | omega | (simp <;> omega)) (fun k e => by cases e; first | omega | (simp <;> omega))))
  case rest =>
    obtain ⟨B, hB, rfl, c0, c1, f0, f1, cp, cq, hbl⟩ := hcut
    have sx0 := cell_below hbl hs0
    have sx1 := cell_below hbl hs1
    go_wp2_with fail
    go_loopw [7] (fun c wr => ∃ n : Nat, 1 ≤ n ∧ n ≤ R ∧ c = .int .i64 n ∧ wr.cell? ⟨B, 0, none⟩ = some (.int .i64 (row p q 0 1 n % (k : Int))) ∧ wr.cell? ⟨B, 1, none⟩ = some (.int .i64 (row p q 0 1 (n + 1) % (k : Int))) ∧ wr.frozen? ⟨B, 0, none⟩ = false ∧ wr.frozen? ⟨B, 1, none⟩ = false ∧ wr.cell? ⟨w.heap.size, 0, none⟩ = some (.int .i64 p) ∧ wr.cell? ⟨w.heap.size, 1, none⟩ = some (.int .i64 q) ∧ Below w.heap.size w wr ∧ wr.cell? ⟨S, 0, none⟩ = some (.int .i64 0) ∧ wr.cell? ⟨S, 1, none⟩ = some (.int .i64 (1 % (k : Int)))) (fun c _ => R - (intOf c).toNat)
    case atStart => exact ⟨1, Nat.le_refl 1, b1, rfl, c0, c1, f0, f1, cp, cq, hbl, sx0, sx1⟩
    case round =>
      obtain ⟨n, n1, n2, rfl, d0, d1, g0, g1, dp, dq, hb2, sd0, sd1⟩ := hrel
      have HB := Lib.hid hb2
      clear hb2 c0 c1 f0 f1 cp cq hbl
      go_wp2_with fail
      refine (againFn_at _ _ _ _ S _ sd0 sd1).mono ?_
      rintro e w4 ⟨rfl, hh4⟩
      have j0 := cell_below hh4 d0
      have j1 := cell_below hh4 d1
      have l0 := frozen_below hh4 d0 g0
      have l1 := frozen_below hh4 d1 g1
      have jp := cell_below hh4 dp
      have jq := cell_below hh4 dq
      have sj0 := cell_below hh4 sd0
      have sj1 := cell_below hh4 sd1
      have HB4 := Lib.hid (HB.out.trans (hh4.mono HB.out.size))
      clear d0 d1 g0 g1 dp dq hh4 HB
      by_cases he : n = R
      · have ht : (row p q 0 1 n % (k : Int) == 0 && row p q 0 1 (n + 1) % (k : Int) == 1 % (k : Int)) = true := by rw [HL.out n n1 n2]; simpa using he
        have HE := Lib.hid he
        clear he
        go_wp2
        go_ret
        exact ⟨ret_int (by rw [HE.out]), HB4.out⟩
      · have ht : (row p q 0 1 n % (k : Int) == 0 && row p q 0 1 (n + 1) % (k : Int) == 1 % (k : Int)) = false := by rw [HL.out n n1 n2]; simpa using he
        obtain ⟨a0, a1⟩ := left_bd (row p q 0 1 n) k m1
        obtain ⟨e1, e2⟩ := left_bd (row p q 0 1 (n + 1)) k m1
        have E := Lib.hid (far_next p q k n)
        have hBl := World.block_lt_of_cell? _ _ j0
        go_wp2_with fail
        refine (goneOn_at _ _ p q k r1 r2 r3 r4 m1 m2 a0 a1 e1 e2 _ _ E.out).mono ?_
        rintro e w5 ⟨rfl, hh5⟩
        have i0 := cell_below hh5 j0
        have i1 := cell_below hh5 j1
        have o0 := frozen_below hh5 j0 l0
        have o1 := frozen_below hh5 j1 l1
        have ip := cell_below hh5 jp
        have iq := cell_below hh5 jq
        have si0 := cell_below hh5 sj0
        have si1 := cell_below hh5 sj1
        have hnS : ¬ S = B := by omega
        have HB5 := Lib.hid (HB4.out.trans (hh5.mono HB4.out.size))
        clear j0 j1 l0 l1 jp jq hh5
        have hnw : ¬ w.heap.size = B := by omega
        go_wp2
        go_roundw
        case rel => exact ⟨n + 1, by omega, by omega, congrArg (Value.int .i64) (by omega), by go_simp, by go_simp, by go_simp, by go_simp, by go_simp, by go_simp, (HB5.out.setCell (p := ⟨B, 0, none⟩) (by show w.heap.size ≤ B; omega) _).setCell (p := ⟨B, 1, none⟩) (by show w.heap.size ≤ B; omega) _, by go_simp, by go_simp⟩
        case measure => simp [intOf]; omega
end Go.Proofs.Ytpogmnkedohdcaa
namespace Go.Proofs.Ytpogmnkedohdcaa
open Go.RowKit Go.Shelf
open Go.Maps (Keyed)
attribute [local go_sem] Oper.semAt_some
theorem intKeyed : Keyed Try.prog 3 := Maps.int_keyed Try.underlying3
theorem intZero (w : World) : (zeroValue 3).run Try.prog w = .ok (.int .i64 0) w := by kernel_rfl
theorem wf_nat {j : Nat} (h : j ≤ 1000000000) : (Lit.int .i64 (j : Int)).wf = true := WalkArith.wf_i64 (by omega)
theorem intKey {j : Nat} (h : j ≤ 1000000000) : keyOf Try.prog 3 (.int .i64 (j : Int)) = some (.int .i64 (j : Int)) := Maps.keyOf_int_mk Try.underlying3 (wf_nat h)
theorem intElem {j : Nat} (h : j ≤ 1000000000) : plainElem (H := Unit) Try.prog 3 (.int .i64 (j : Int)) = some (.lit (.int .i64 (j : Int)), []) := plainElem_int Try.underlying3 (wf_nat h)
/-- What is remembered is right. -/
def MemoOk (p q : Int) (D : DataW Unit) : Prop := ∀ j : Nat, Maps.has D (.int .i64 (j : Int)) = true → D.atKey (.int .i64 (j : Int)) (.lit (.int .i64 0)) = .lit (.int .i64 (rankN p q j : Nat))
theorem MemoOk.empty (p q : Int) : MemoOk p q (.map []) := fun j h => by cases h
theorem MemoOk.put {p q : Int} {D : DataW Unit} (h : MemoOk p q D) (hD : Maps.IsMap D) (j : Nat) : MemoOk p q (D.put (.int .i64 (j : Int)) (.lit (.int .i64 (rankN p q j : Nat)))) := by
  intro i hi
  by_cases he : i = j
  · subst he
    exact Maps.atKey_put_same hD (show WideAt.IsKeyLit (Lit.int .i64 (i : Int)) from trivial) _ _
  · have hne : (Lit.int .i64 (i : Int)) ≠ (Lit.int .i64 (j : Int)) := fun e => he (by injection e with _ e; omega)
    rw [Maps.has_put_other hne] at hi
    rw [Maps.atKey_put_other hne]
    exact h i hi
/-- What the closure holds: the box of the map, that of the pair; the map's block, of at most n entries. -/
def Memo (p q : Int) (K B b n : Nat) (W : World) : Prop :=
  (W.cell? ⟨K, 0, none⟩ = some (.map (some b)) ∧ W.cell? ⟨B, 0, none⟩ = some (.int .i64 p) ∧ W.cell? ⟨B, 1, none⟩ = some (.int .i64 q)) ∧
  ∃ D : DataW Unit, MemoOk p q D ∧ W.ownsMap Try.prog 3 (plainElem Try.prog 3) b n D
theorem grown_below {W W' : World} (h : Below W.heap.size W W') : W.grownBy W' none := ⟨h.os, h.tape, h.output, h.size, fun j hj _ => h.block j hj⟩
theorem Memo.below {p q : Int} {K B b n : Nat} {W W' : World} (h : Memo p q K B b n W) (hb : Below W.heap.size W W') : Memo p q K B b n W' := by
  obtain ⟨⟨x1, x2, x3⟩, D, x4, x5⟩ := h
  exact ⟨⟨cell_below hb x1, cell_below hb x2, cell_below hb x3⟩, D, x4, x5.kept (grown_below hb) (fun e => by cases e)⟩
theorem Memo.kept {p q : Int} {K B b n : Nat} {A V : World} {row : Option Nat} (h : Memo p q K B b n A) (hg : A.grownBy V row) (hr : ∀ r, row = some r → ∃ o : Obj, A.heap[r]? = some o ∧ o.isCells = false) (hne : some b ≠ row) : Memo p q K B b n V := by
  obtain ⟨⟨x1, x2, x3⟩, D, x4, x5⟩ := h
  exact ⟨⟨cell_kept x1 hg hr, cell_kept x2 hg hr, cell_kept x3 hg hr⟩, D, x4, x5.kept hg hne⟩
theorem Memo.set {p q : Int} {K B b n : Nat} {W : World} (h : Memo p q K B b n W) {S : Nat} (h1 : K < S) (h2 : B < S) (h3 : b < S) (o : Nat) (v : Value) : Memo p q K B b n (W.setCell ⟨S, o, none⟩ v) := by
  obtain ⟨⟨x1, x2, x3⟩, D, x4, x5⟩ := h
  exact ⟨⟨(set_other (by omega)).trans x1, (set_other (by omega)).trans x2, (set_other (by omega)).trans x3⟩, D, x4, x5.setCell (a := ⟨S, o, none⟩) (by show b ≠ S; omega) v⟩
theorem Memo.mono {p q : Int} {K B b n n' : Nat} {W : World} (h : Memo p q K B b n W) (hn : n ≤ n') : Memo p q K B b n' W := by
  obtain ⟨x0, D, x4, x5⟩ := h
  exact ⟨x0, D, x4, x5.mono hn⟩
theorem Memo.lt {p q : Int} {K B b n : Nat} {W : World} (h : Memo p q K B b n W) : K < W.heap.size ∧ B < W.heap.size ∧ b < W.heap.size := by
  obtain ⟨⟨x1, x2, x3⟩, D, x4, x5⟩ := h
  exact ⟨World.block_lt_of_cell? _ _ x1, World.block_lt_of_cell? _ _ x2, x5.lt⟩
theorem Memo.isMap {p q : Int} {K B b n : Nat} {W : World} (h : Memo p q K B b n W) : ∃ es c, W.heap[b]? = some (.map es c) := by
  obtain ⟨_, D, _, es, c, hb, _⟩ := h
  exact ⟨es, c, hb⟩
theorem cells_map {w : World} {x b : Nat} {o : Nat} {v : Value} (h : w.cell? ⟨x, o, none⟩ = some v) {es : Array MapEntry} {c : Nat} (hb : w.heap[b]? = some (.map es c)) : some x ≠ some b := by
  intro e
  injection e with e
  subst e
  simp [World.cell?, hb] at h
theorem length_prodL : ∀ L : List Nat, (∀ x ∈ L, 2 ≤ x) → L.length + 1 ≤ prodL L
  | [], _ => Nat.le_refl 1
  | x :: L, h => by
    have h1 := length_prodL L (fun y hy => h y (List.mem_cons_of_mem _ hy))
    have h2 := Nat.mul_le_mul (h x (List.mem_cons_self ..)) h1
    simp only [List.length_cons, prodL]
    omega
theorem ppL_len {n : Nat} (hn : 1 ≤ n) : (ppL n).length < n := by
  obtain ⟨a, b, _⟩ := ppL_spec hn
  have := length_prodL _ b
  omega
set_option maxHeartbeats 1000000 in
theorem ranksBy_any (p q : Int) (w : World) :
    Calls Try.prog 55 #[pr p q] w fun e w' => e = .returned (.func (.func 68) #[] #[.pointer (some ⟨w.heap.size + 1 + 1, 0, none⟩), .pointer (some ⟨w.heap.size, 0, none⟩)]) ∧ Memo p q (w.heap.size + 1 + 1) w.heap.size (w.heap.size + 1) 0 w' ∧ Below w.heap.size w w' := by
  have hmf : ∀ (fn : Fn) (first cap : Array Value) (w : World), (Instr.makeFunc fn first cap).run Try.prog w = .ok (.func fn first cap) w := fun _ _ _ _ => rfl
  have hmm := @run_makeMap Try.prog
  have hO := World.ownsMap_made (H := Unit) (w.alloc (.cells #[.int .i64 p, .int .i64 q] 24)) Try.prog 3 (plainElem Try.prog 3)
  rw [World.size_alloc] at hO
  have HO := Lib.hid hO
  clear hO
  go_enter Try.func55, Try.ntmps55
  go_wp2
  go_ret
  refine ⟨rfl, ⟨⟨by go_simp, by go_simp, by go_simp⟩, _, MemoOk.empty p q, ?_⟩, by (repeat (first | exact Below.refl _ _ | refine Below.setCell ?_ (by first | omega | (simp <;> omega)) _ | refine Below.alloc ?_ (by first | omega | (simp <;> omega)) _ | refine Below.drew ?_ | refine Below.trans ?_ (Below.mono (by assumption) (by first | omega | (simp <;> omega))) | refine Below.grown ?_ (by assumption) (by first | omega | (simp <;> omega)) (fun k e => by cases e; first | omega | (simp <;> omega))))⟩
  exact HO.out.alloc _
end Go.Proofs.Ytpogmnkedohdcaa
namespace Go.Proofs.Ytpogmnkedohdcaa
open Go.RowKit Go.Shelf
attribute [local go_sem] Oper.semAt_some
theorem wide_asks (k : FuncId) : Fence.wide.fn k = True := rfl
attribute [local go_sem] wide_asks
/-- A box that holds a number. -/
def NumBox (S : Nat) (v : Int) (W : World) : Prop := W.cell? ⟨S, 0, none⟩ = some (.int .i64 v) ∧ W.frozen? ⟨S, 0, none⟩ = false
theorem NumBox.below {S : Nat} {v : Int} {W W' : World} (h : NumBox S v W) (hb : Below W.heap.size W W') : NumBox S v W' := ⟨cell_below hb h.1, frozen_below hb h.1 h.2⟩
theorem NumBox.kept {S : Nat} {v : Int} {A V : World} {row : Option Nat} (h : NumBox S v A) (hg : A.grownBy V row) (hr : ∀ r, row = some r → ∃ o : Obj, A.heap[r]? = some o ∧ o.isCells = false) : NumBox S v V := ⟨cell_kept h.1 hg hr, (frozen_kept h.1 hg hr).trans h.2⟩
theorem NumBox.set {S : Nat} {v : Int} {W : World} (h : NumBox S v W) (u : Int) : NumBox S u (W.setCell ⟨S, 0, none⟩ (.int .i64 u)) := ⟨set_same h.1, set_frozen h.2⟩
theorem grown_num {w W : World} {b S : Nat} (h : w.grownBy W (some b)) (hS : w.heap.size ≤ S) (o : Nat) (v : Value) : w.grownBy (W.setCell ⟨S, o, none⟩ v) (some b) :=
  h.andThen (grown_set (gr_refl W S) o v) (fun j e => by injection e with e; subst e; exact .inl hS)
theorem grown_then {w W W' : World} {b : Nat} (h : w.grownBy W (some b)) (hb : Below W.heap.size W W') : w.grownBy W' (some b) := h.andThen (grown_below hb) (fun j e => by cases e)
set_option maxRecDepth 100000 in
set_option maxHeartbeats 8000000 in
theorem ranksFn_at (p q : Int) (j K B b n : Nat) (w : World) (hr : rankB p q j = true) (hm : Memo p q K B b n w) (hn : n ≤ 1000000) :
    Calls Try.prog 68 #[.int .i64 j, .pointer (some ⟨K, 0, none⟩), .pointer (some ⟨B, 0, none⟩)] w fun e w' => e = .returned (.int .i64 (rankN p q j : Nat)) ∧ Memo p q K B b (n + 400) w' ∧ w.grownBy w' (some b) := by
  obtain ⟨hp, _, _, _, k, hk, j1, j2, ha⟩ := rankB_true hr
  obtain rfl : j = k := by omega
  clear hr hk
  have hlt := hm.lt
  have hlen := ppL_len j1
  have HP := Lib.hid hp
  have HA := Lib.hid ha
  clear hp
  refine (callsIn_wide (n := 9)).1 ?_
  refine callsIn_of_wp_marks Try.func68 rfl trivial ?_ rfl
  simp only [Try.ntmps68, List.size_toArray, List.length_cons, List.length_nil, Nat.reduceAdd, Nat.reduceSub, Array.replicate_succ, Array.replicate_zero, List.push_toArray, List.append_toArray, List.nil_append, List.cons_append]
  gi_wp2_with fail
  refine (callsIn_wide.2 (primePowers_any j _)).mono ?_
  rintro e w1 ⟨rfl, rfl⟩
  gi_wp2_with fail
  refine wpIn_rangeFunc_counted_map (P := Try.prog) rfl (by omega) (gf := 76) (lb := #[.pointer (some ⟨w.heap.size + 1, 0, none⟩)]) rfl trivial (enters_of Try.func76 (by kernel_rfl) rfl)
    (primePowers_counted 8 (by omega) j (w.heap.size + 1) _ j1 (by omega)) (Below.refl _ _) (fun _ => rfl)
    (fun k W => Memo p q K B b (n + k) W ∧ NumBox w.heap.size (rankN p q (ppK j k) : Nat) W ∧ W.cell? ⟨w.heap.size + 1, 0, none⟩ = some (.int .i64 j) ∧ w.grownBy W (some b))
    (fun _ _ _ => False) ?own (fun _ _ _ _ _ h _ _ => h) (fun _ _ h => h.2.2.1) ?start
    (fun k => { tmps := #[.int .i64 j, .pointer (some ⟨K, 0, none⟩), .pointer (some ⟨B, 0, none⟩), undef, .int .i64 0, .pointer (some ⟨w.heap.size, 0, none⟩), .int .i64 ((ppL j).getD k 0 : Nat), undef, undef, .int .i64 j, .func (.func 76) #[] #[.pointer (some ⟨w.heap.size + 1, 0, none⟩)], .int .i64 ((ppL j).getD k 0 : Nat), undef, undef, undef, undef, undef, undef, undef, undef, undef, undef, undef, undef, undef, undef, undef, undef, undef, undef, undef], defers := [] })
    ?assign ?body ?done (fun _ _ _ _ _ _ h _ => h.elim)
  case own =>
    rintro k A V row ⟨x0, x1, x2, x3⟩ hg hr
    have hr' := fun r e => (hr r e).2
    have hge : ∀ r, row = some r → w.heap.size + 1 + 1 ≤ r := fun r e => by have := (hr r e).1; simpa using this
    exact ⟨x0.kept hg hr' (fun e => by have := hge b e.symm; omega), x1.kept hg hr', cell_kept x2 hg hr', x3.andThen hg (fun r e => .inl (by have := hge r e; omega))⟩
  case start =>
    have hL : Below w.heap.size w ((w.alloc (.cells #[.int .i64 1] 3)).alloc (.cells #[.int .i64 (j : Int)] 3)) := by
      (repeat (first | exact Below.refl _ _ | refine Below.setCell ?_ (by first | omega | (simp <;> omega)) _ | refine Below.alloc ?_ (by first | omega | (simp <;> omega)) _ | refine Below.drew ?_ | refine Below.trans ?_ (Below.mono (by assumption) (by first | omega | (simp <;> omega))) | refine Below.grown ?_ (by assumption) (by first | omega | (simp <;> omega)) (fun k e => by cases e; first | omega | (simp <;> omega))))
    refine ⟨hm.below hL, ⟨?_, ?_⟩, ?_, (grown_below hL).but _⟩
    · rw [ppK_zero, rankN_one]; go_simp
    · go_simp
    · go_simp
  case assign =>
    intro l k W K hK
    gi_wp2
    exact hK
  case body =>
    rintro l k W hk ⟨hmW, hbx, hmb, hgW⟩
    obtain ⟨s1, s2, s3, s4, s5, s6⟩ := pp_step j1 hk
    have HRK := Lib.hid (rank_pp (p := p) j1 HA.out hk)
    have hxj : (ppL j).getD k 0 ≤ j := Nat.le_of_dvd j1 s4
    have hKj : ppK j k ≤ j := Nat.le_of_dvd j1 s6
    have hK1 : 1 ≤ ppK j k := Nat.pos_of_dvd_of_pos s6 j1
    obtain ⟨R1, R2⟩ := rank_bd (p := p) hK1 (by omega) (HA.out.of_nat_dvd s6)
    obtain ⟨Y1, Y2⟩ := rank_bd (p := p) (show 1 ≤ (ppL j).getD k 0 by omega) (by omega) (HA.out.of_nat_dvd s4)
    have HAX := Lib.hid (HA.out.of_nat_dvd s4)
    clear s1 s2 s4 s5 s6
    try dsimp only
    obtain ⟨x, hx⟩ : ∃ x, (ppL j).getD k 0 = x := ⟨_, rfl⟩
    rw [hx] at HRK hxj Y1 Y2 HAX s3 ⊢
    obtain ⟨R, hR⟩ : ∃ R, rankN p q (ppK j k) = R := ⟨_, rfl⟩
    rw [hR] at HRK R1 R2 hbx
    have HL := Lib.hid (show ((Nat.lcm R (rankN p q x) : Nat) : Int) = (rankN p q (ppK j (k + 1)) : Nat) by rw [HRK.out])
    have hx9 : x ≤ 1000000000 := by omega
    have hsz := hgW.size
    have HM := Lib.hid hmW
    have HX := Lib.hid hbx
    have HG := Lib.hid hgW
    have HJ := Lib.hid hmb
    obtain ⟨⟨x1, x2, x3⟩, D, x4, x5⟩ := hmW
    obtain ⟨y1, y2⟩ := hbx
    clear hgW hmb HRK hx hR hKj hK1
    gi_wp2_with (gi_at_lookup; refine wpListIn_lookup_own_ok_int _ rfl _ _ 71 rfl 3 3 .i64 intKeyed Try.underlying71 Try.underlying3 (intZero _) b _ D rfl x5 _ _ rfl (intKey hx9) ?_)
    intro c hat hwc
    clear hat hwc
    cases hh : Maps.has D (.int .i64 (x : Int)) with
    | true =>
      gi_wp2_with (gi_at_lookup; refine wpListIn_lookup_own_int _ rfl _ _ 71 rfl 3 3 .i64 intKeyed Try.underlying71 Try.underlying3 (intZero _) b _ D rfl x5 _ _ rfl (intKey hx9) ?_)
      intro c2 hat2 hwc2
      rw [x4 x hh] at hat2
      injection hat2 with hat2
      injection hat2 with _ hat2
      subst hat2
      gi_wp2_with fail
      refine (CallsIn.inRound l (callsIn_wide.2 (leastMultiple_at _ _ _ _ R1 Y1 (by omega) (by omega) HL.out))).mono ?_
      rintro e w7 ⟨rfl, hh7⟩
      have z1 := cell_below hh7 y1
      have z2 := frozen_below hh7 y1 y2
      have HH7 := Lib.hid hh7
      clear hh7 x1 x2 x3 y1 y2
      gi_wp2
      refine ⟨keepsOthers_recs ((keepsOthers_below HH7.out).trans (KeepsOthers.setCell _ _ _)), ((HM.out.below HH7.out).set hlt.1 hlt.2.1 hlt.2.2 _ _).mono (by omega), (HX.out.below HH7.out).set _, (set_other (by omega)).trans (cell_below HH7.out HJ.out), grown_num (grown_then HG.out HH7.out) (Nat.le_refl _) _ _⟩
    | false =>
      obtain ⟨S, hSd⟩ : ∃ S : World → Prop, (fun V => Below W.heap.size W V) = S := ⟨_, rfl⟩
      have hkeep : ∀ V V' : World, S V → Below V.heap.size V V' → S V' := by rw [← hSd]; exact fun V V' h hb => h.trans (hb.mono h.size)
      have g1 : ∀ i : KeptBy S, i.world.cell? ⟨K, 0, none⟩ = some (.map (some b)) := by rw [← hSd]; exact fun i => cell_below i.ok x1
      have g2 : ∀ i : KeptBy S, i.world.cell? ⟨B, 0, none⟩ = some (.int .i64 p) := by rw [← hSd]; exact fun i => cell_below i.ok x2
      have g3 : ∀ i : KeptBy S, i.world.cell? ⟨B, 1, none⟩ = some (.int .i64 q) := by rw [← hSd]; exact fun i => cell_below i.ok x3
      have g5 : Nonempty (KeptBy S) := ⟨⟨W.drew, by rw [← hSd]; exact (Below.refl _ _).drew⟩⟩
      gi_wp2_with fail
      refine wpIn_region_last_at (S := S) 5 rfl (by rw [← hSd]; exact (Below.refl _ _).drew) rfl (by kernel_rfl) (by kernel_rfl) (by kernel_rfl) (by kernel_rfl) rfl ?_
      simp only [List.take_succ_cons, List.take_zero, List.cons_append, List.nil_append, idle]
      repeat (gi_big_quiet_step ((first | (gi_at_call 70; refine (callsIn_wide.2 (firstNought_at p q x _ HP.out (by omega) (by omega) HAX.out)).mono ?_; rintro e w' ⟨rfl, hhw⟩; exact ⟨rfl, ⟨w', hkeep _ _ (KeptBy.ok _) hhw⟩, rfl⟩) | fail)))
      refine wpQuietIn_nil ?_
      intro z hz
      rw [← hSd] at hz
      have bz : Below W.heap.size W z := hz
      clear hz g1 g2 g3 g5 hkeep hSd
      gi_at_mapUpdate
      refine wpListIn_mapUpdate_own _ rfl _ _ _ 71 rfl 3 3 intKeyed Try.underlying71 _ b (n + k) D rfl (x5.kept (grown_below bz) (fun e => by cases e)) (by unfold maxLen; omega) _ _ _ rfl rfl (intKey hx9) _ [] (intElem (j := rankN p q x) (by omega)) ?_
      intro w4 hown4 hgrow4
      have hmz := (HM.out.below bz).isMap
      obtain ⟨es, c9, hes⟩ := hmz
      have u1 : w4.cell? ⟨K, 0, none⟩ = some (.map (some b)) := hgrow4.cell (cell_below bz x1) (cells_map (cell_below bz x1) hes)
      have u2 : w4.cell? ⟨B, 0, none⟩ = some (.int .i64 p) := hgrow4.cell (cell_below bz x2) (cells_map (cell_below bz x2) hes)
      have u3 : w4.cell? ⟨B, 1, none⟩ = some (.int .i64 q) := hgrow4.cell (cell_below bz x3) (cells_map (cell_below bz x3) hes)
      have v1 : w4.cell? ⟨w.heap.size, 0, none⟩ = some (.int .i64 R) := hgrow4.cell (cell_below bz y1) (cells_map (cell_below bz y1) hes)
      have v2 : w4.frozen? ⟨w.heap.size, 0, none⟩ = false := (hgrow4.frozen_far ⟨w.heap.size, 0, none⟩ (World.block_lt_of_cell? _ _ (cell_below bz y1)) (cells_map (cell_below bz y1) hes)).trans (frozen_below bz y1 y2)
      have v3 : w4.cell? ⟨w.heap.size + 1, 0, none⟩ = some (.int .i64 j) := hgrow4.cell (cell_below bz HJ.out) (cells_map (cell_below bz HJ.out) hes)
      have ok4 := x4.put x5.isMap x
      have has4 : Maps.has (D.put (.int .i64 (x : Int)) (.lit (.int .i64 (rankN p q x : Nat)))) (.int .i64 (x : Int)) = true := Maps.has_put_same x5.isMap (show WideAt.IsKeyLit (Lit.int .i64 (x : Int)) from trivial) _
      have HM4 := Lib.hid (show Memo p q K B b (n + k + 1) w4 from ⟨⟨u1, u2, u3⟩, _, ok4, hown4⟩)
      have HG4 := Lib.hid ((grown_then HG.out bz).trans hgrow4)
      have HK4 := Lib.hid ((keepsOthers_recs (keepsOthers_below bz)).trans (KeepsRecs.map hgrow4 ⟨es, c9, hes⟩))
      have V3 := Lib.hid v3
      clear hgrow4 bz x1 x2 x3 y1 y2 u2 u3 hes x5 v3
      gi_wp2_with (gi_at_lookup; refine wpListIn_lookup_own_int _ rfl _ _ 71 rfl 3 3 .i64 intKeyed Try.underlying71 Try.underlying3 (intZero _) b _ _ rfl hown4 _ _ rfl (intKey hx9) ?_)
      intro c2 hat2 hwc2
      rw [ok4 x has4] at hat2
      injection hat2 with hat2
      injection hat2 with _ hat2
      subst hat2
      gi_wp2_with fail
      refine (CallsIn.inRound l (callsIn_wide.2 (leastMultiple_at _ _ _ _ R1 Y1 (by omega) (by omega) HL.out))).mono ?_
      rintro e w7 ⟨rfl, hh7⟩
      have z1 := cell_below hh7 v1
      have z2 := frozen_below hh7 v1 v2
      have HH7 := Lib.hid hh7
      have VB := Lib.hid (show NumBox w.heap.size R w4 from ⟨v1, v2⟩)
      clear hh7 u1 v1 v2
      gi_wp2
      refine ⟨HK4.out.trans (keepsOthers_recs ((keepsOthers_below HH7.out).trans (KeepsOthers.setCell _ _ _))), ((HM4.out.below HH7.out).set hlt.1 hlt.2.1 hlt.2.2 _ _).mono (by omega), (VB.out.below HH7.out).set _, (set_other (by omega)).trans (cell_below HH7.out V3.out), grown_num (grown_then HG4.out HH7.out) (Nat.le_refl _) _ _⟩
  case done =>
    rintro E W hE ⟨hmW, hbx, hmb, hgW⟩ hK
    rw [ppK_all j1] at hbx
    have HM := Lib.hid hmW
    have HG := Lib.hid hgW
    have HK := Lib.hid hK
    have HE := Lib.hid hE
    obtain ⟨y1, y2⟩ := hbx
    clear hmW hgW hK hE hmb
    gi_wp2
    refine ⟨by simp, .inl ⟨_, _, rfl, run_takeDeferred HK.out, ?_⟩⟩
    have hE' : w.heap.size + 1 + 1 ≤ E := by have := HE.out; simpa using this
    exact ⟨_, by simp [results, Try.results68, go_sem], rfl, (HM.out.kept (grownBy_putObj' _ E (.deferred none)) (fun r e => by cases e; exact ⟨_, HK.out, rfl⟩) (fun e => by injection e with e; omega)).mono (by omega), HG.out.andThen (grownBy_putObj' _ E (.deferred none)) (fun r e => by cases e; exact .inl (by omega))⟩
end Go.Proofs.Ytpogmnkedohdcaa
namespace Go.Proofs.Ytpogmnkedohdcaa
open Go.RowKit
theorem Memo.far {p q : Int} {K B b n : Nat} {A V : World} {row : Option Nat} (h : Memo p q K B b n A) (hg : A.grownBy V row) (h1 : some K ≠ row) (h2 : some B ≠ row) (h3 : some b ≠ row) : Memo p q K B b n V := by
  obtain ⟨⟨x1, x2, x3⟩, D, x4, x5⟩ := h
  exact ⟨⟨hg.cell x1 h1, hg.cell x2 h2, hg.cell x3 h2⟩, D, x4, x5.kept hg h3⟩
set_option maxHeartbeats 2000000 in
theorem implRank_any (p q m : Int) (w : World) : Calls Try.prog 26 #[pr p q, .int .i64 m] w fun e w' => e = .returned (.tuple #[.int .i64 (rankV p q m), .bool (rankB p q m)]) ∧ Below w.heap.size w w' := by
  cases h : rankB p q m with
  | false =>
    have HB := Lib.hid h
    have HV := Lib.hid (show rankV p q m = -1 by rw [rankV, if_neg (by simp [h])])
    clear h
    go_enter Try.func26, Try.ntmps26
    go_wp2_with fail
    refine (rankedOk_is p q m false _ HB.out).mono ?_
    rintro e w1 ⟨rfl, hh1⟩
    obtain ⟨hc1, hf1⟩ := bcell hh1
    have hz1 := hh1.size
    try simp only [World.size_alloc] at hz1
    have hz1_0 : w.heap.size < w1.heap.size := by omega
    have kb1_0_0 : w1.cell? ⟨w.heap.size, 0, none⟩ = some (.int .i64 p) := by go_simp
    have kf1_0_0 : w1.frozen? ⟨w.heap.size, 0, none⟩ = false := by go_simp
    have kb1_0_1 : w1.cell? ⟨w.heap.size, 1, none⟩ = some (.int .i64 q) := by go_simp
    have kf1_0_1 : w1.frozen? ⟨w.heap.size, 1, none⟩ = false := by go_simp
    clear hc1 hf1
    go_wp2
    go_ret2
    exact ⟨ret_int_bool HV.out.symm rfl, by (repeat (first | exact Below.refl _ _ | refine Below.setCell ?_ (by first | omega | (simp <;> omega)) _ | refine Below.alloc ?_ (by first | omega | (simp <;> omega)) _ | refine Below.drew ?_ | refine Below.trans ?_ (Below.mono (by assumption) (by first | omega | (simp <;> omega))) | refine Below.grown ?_ (by assumption) (by first | omega | (simp <;> omega)) (fun k e => by cases e; first | omega | (simp <;> omega))))⟩
  | true =>
    obtain ⟨_, _, _, _, k, rfl, _, _, _⟩ := rankB_true h
    have HB := Lib.hid h
    have HV := Lib.hid (rankV_is h)
    clear h
    go_enter Try.func26, Try.ntmps26
    go_wp2_with fail
    refine (rankedOk_is p q k true _ HB.out).mono ?_
    rintro e w1 ⟨rfl, hh1⟩
    obtain ⟨hc1, hf1⟩ := bcell hh1
    have hz1 := hh1.size
    try simp only [World.size_alloc] at hz1
    have hz1_0 : w.heap.size < w1.heap.size := by omega
    have kb1_0_0 : w1.cell? ⟨w.heap.size, 0, none⟩ = some (.int .i64 p) := by go_simp
    have kf1_0_0 : w1.frozen? ⟨w.heap.size, 0, none⟩ = false := by go_simp
    have kb1_0_1 : w1.cell? ⟨w.heap.size, 1, none⟩ = some (.int .i64 q) := by go_simp
    have kf1_0_1 : w1.frozen? ⟨w.heap.size, 1, none⟩ = false := by go_simp
    clear hc1 hf1
    go_wp2_with fail
    refine (ranksBy_any p q _).mono ?_
    rintro e w2 ⟨rfl, hm2, hh2⟩
    obtain ⟨hc2, hf2⟩ := bcell hh2
    have hz2 := hh2.size
    try simp only [World.size_alloc] at hz2
    go_wp2_with fail
    refine (ranksFn_at p q k _ _ _ 0 _ HB.out hm2 (by omega)).mono ?_
    rintro e w3 ⟨rfl, _, hg3⟩
    go_wp2
    go_ret2
    exact ⟨ret_int_bool HV.out.symm rfl, by (repeat (first | exact Below.refl _ _ | refine Below.setCell ?_ (by first | omega | (simp <;> omega)) _ | refine Below.alloc ?_ (by first | omega | (simp <;> omega)) _ | refine Below.drew ?_ | refine Below.trans ?_ (Below.mono (by assumption) (by first | omega | (simp <;> omega))) | refine Below.grown ?_ (by assumption) (by first | omega | (simp <;> omega)) (fun k e => by cases e; first | omega | (simp <;> omega))))⟩
theorem implRank_val (p q m v : Int) (c : Bool) (w : World) (hv : rankV p q m = v) (hc : rankB p q m = c) : Calls Try.prog 26 #[pr p q, .int .i64 m] w fun e w' => e = .returned (.tuple #[.int .i64 v, .bool c]) ∧ Below w.heap.size w w' := by rw [← hv, ← hc]; exact implRank_any p q m w
theorem sameL_none {p q n : Int} (h : pairB p q = false) : sameL p q n = [] := by
  rw [sameL]
  split
  · rw [holdL, List.filter_eq_nil_iff]
    intro j _
    simp [sameB, rankB, h]
  · rfl
end Go.Proofs.Ytpogmnkedohdcaa
namespace Go.Proofs.Ytpogmnkedohdcaa
open Go.RowKit
set_option maxHeartbeats 4000000 in
theorem implPeriod_any (p q m : Int) (w : World) : Calls Try.prog 49 #[pr p q, .int .i64 m] w fun e w' => e = .returned (.tuple #[.int .i64 (periodV p q m), .bool (rankB p q m)]) ∧ Below w.heap.size w w' := by
  have hmf : ∀ (fn : Fn) (first cap : Array Value) (w : World), (Instr.makeFunc fn first cap).run Try.prog w = .ok (.func fn first cap) w := fun _ _ _ _ => rfl
  cases h : rankB p q m with
  | false =>
    have HB := Lib.hid h
    have HV := Lib.hid (periodV_no h)
    clear h
    go_enter Try.func49, Try.ntmps49
    go_wp2_with fail
    refine (rankedOk_is p q m false _ HB.out).mono ?_
    rintro e w1 ⟨rfl, hh1⟩
    obtain ⟨hc1, hf1⟩ := bcell hh1
    have hz1 := hh1.size
    try simp only [World.size_alloc] at hz1
    have hz1_0 : w.heap.size < w1.heap.size := by omega
    have kb1_0_0 : w1.cell? ⟨w.heap.size, 0, none⟩ = some (.int .i64 p) := by go_simp
    have kf1_0_0 : w1.frozen? ⟨w.heap.size, 0, none⟩ = false := by go_simp
    have kb1_0_1 : w1.cell? ⟨w.heap.size, 1, none⟩ = some (.int .i64 q) := by go_simp
    have kf1_0_1 : w1.frozen? ⟨w.heap.size, 1, none⟩ = false := by go_simp
    clear hc1 hf1
    go_wp2
    go_ret2
    exact ⟨ret_int_bool HV.out.symm rfl, by (repeat (first | exact Below.refl _ _ | refine Below.setCell ?_ (by first | omega | (simp <;> omega)) _ | refine Below.alloc ?_ (by first | omega | (simp <;> omega)) _ | refine Below.drew ?_ | refine Below.trans ?_ (Below.mono (by assumption) (by first | omega | (simp <;> omega))) | refine Below.grown ?_ (by assumption) (by first | omega | (simp <;> omega)) (fun k e => by cases e; first | omega | (simp <;> omega))))⟩
  | true =>
    obtain ⟨hp, _, _, _, k, rfl, k1, k2, ha⟩ := rankB_true h
    have HB := Lib.hid h
    have HP := Lib.hid hp
    have HA := Lib.hid ha
    have HV := Lib.hid (periodV_is h)
    have m1 : (1 : Int) ≤ (k : Int) := by omega
    have m2 : (k : Int) ≤ 10000 := by omega
    clear h hp ha
    go_enter Try.func49, Try.ntmps49
    go_wp2_with fail
    refine (rankedOk_is p q k true _ HB.out).mono ?_
    rintro e w1 ⟨rfl, hh1⟩
    obtain ⟨hc1, hf1⟩ := bcell hh1
    have hz1 := hh1.size
    try simp only [World.size_alloc] at hz1
    have hz1_0 : w.heap.size < w1.heap.size := by omega
    have kb1_0_0 : w1.cell? ⟨w.heap.size, 0, none⟩ = some (.int .i64 p) := by go_simp
    have kf1_0_0 : w1.frozen? ⟨w.heap.size, 0, none⟩ = false := by go_simp
    have kb1_0_1 : w1.cell? ⟨w.heap.size, 1, none⟩ = some (.int .i64 q) := by go_simp
    have kf1_0_1 : w1.frozen? ⟨w.heap.size, 1, none⟩ = false := by go_simp
    clear hc1 hf1
    go_wp2_with fail
    refine (leftAtStart_at k _ m1 m2).mono ?_
    rintro e w2 ⟨rfl, hh2⟩
    obtain ⟨hc2, hf2⟩ := bcell hh2
    have hz2 := hh2.size
    try simp only [World.size_alloc] at hz2
    have hz2_0 : w.heap.size < w2.heap.size := by omega
    have kb2_0_0 : w2.cell? ⟨w.heap.size, 0, none⟩ = some (.int .i64 p) := by go_simp
    have kf2_0_0 : w2.frozen? ⟨w.heap.size, 0, none⟩ = false := by go_simp
    have kb2_0_1 : w2.cell? ⟨w.heap.size, 1, none⟩ = some (.int .i64 q) := by go_simp
    have kf2_0_1 : w2.frozen? ⟨w.heap.size, 1, none⟩ = false := by go_simp
    clear hc2 hf2
    go_wp2_with fail
    refine (placeAgain_at p q k _ HP.out k1 (by omega) HA.out w2.heap.size (by go_simp) (by go_simp)).mono ?_
    rintro e w3 ⟨rfl, hh3⟩
    go_wp2
    go_ret2
    exact ⟨ret_int_bool HV.out.symm rfl, by (repeat (first | exact Below.refl _ _ | refine Below.setCell ?_ (by first | omega | (simp <;> omega)) _ | refine Below.alloc ?_ (by first | omega | (simp <;> omega)) _ | refine Below.drew ?_ | refine Below.trans ?_ (Below.mono (by assumption) (by first | omega | (simp <;> omega))) | refine Below.grown ?_ (by assumption) (by first | omega | (simp <;> omega)) (fun k e => by cases e; first | omega | (simp <;> omega))))⟩
theorem implPeriod_val (p q m v : Int) (c : Bool) (w : World) (hv : periodV p q m = v) (hc : rankB p q m = c) : Calls Try.prog 49 #[pr p q, .int .i64 m] w fun e w' => e = .returned (.tuple #[.int .i64 v, .bool c]) ∧ Below w.heap.size w w' := by rw [← hv, ← hc]; exact implPeriod_any p q m w
set_option maxHeartbeats 4000000 in
theorem implLoops_any (p q m : Int) (w : World) : Calls Try.prog 21 #[pr p q, .int .i64 m] w fun e w' => e = .returned (.tuple #[.int .i64 (loopsV p q m), .bool (rankB p q m)]) ∧ Below w.heap.size w w' := by
  cases h : rankB p q m with
  | false =>
    have HB := Lib.hid h
    have HV := Lib.hid (loopsV_no h)
    clear h
    go_enter Try.func21, Try.ntmps21
    go_wp2_with fail
    refine (implRank_val p q m _ false _ rfl HB.out).mono ?_
    rintro e w1 ⟨rfl, hh1⟩
    obtain ⟨hc1, hf1⟩ := bcell hh1
    have hz1 := hh1.size
    try simp only [World.size_alloc] at hz1
    have hz1_0 : w.heap.size < w1.heap.size := by omega
    have kb1_0_0 : w1.cell? ⟨w.heap.size, 0, none⟩ = some (.int .i64 p) := by go_simp
    have kf1_0_0 : w1.frozen? ⟨w.heap.size, 0, none⟩ = false := by go_simp
    have kb1_0_1 : w1.cell? ⟨w.heap.size, 1, none⟩ = some (.int .i64 q) := by go_simp
    have kf1_0_1 : w1.frozen? ⟨w.heap.size, 1, none⟩ = false := by go_simp
    clear hc1 hf1
    go_wp2
    go_ret2
    exact ⟨ret_int_bool HV.out.symm rfl, by (repeat (first | exact Below.refl _ _ | refine Below.setCell ?_ (by first | omega | (simp <;> omega)) _ | refine Below.alloc ?_ (by first | omega | (simp <;> omega)) _ | refine Below.drew ?_ | refine Below.trans ?_ (Below.mono (by assumption) (by first | omega | (simp <;> omega))) | refine Below.grown ?_ (by assumption) (by first | omega | (simp <;> omega)) (fun k e => by cases e; first | omega | (simp <;> omega))))⟩
  | true =>
    obtain ⟨hp, _, _, _, k, rfl, k1, k2, ha⟩ := rankB_true h
    obtain ⟨c1, c2⟩ := rank_bd (p := p) k1 k2 ha
    obtain ⟨d1, d2⟩ := period_bd (p := p) k1 k2 ha
    have HB := Lib.hid h
    have HR := Lib.hid (rankV_is h)
    have HP := Lib.hid (periodV_is h)
    have HV := Lib.hid (show loopsV p q k = ((periodN p q k / rankN p q k : Nat) : Int) from loopsV_is h)
    obtain ⟨R, hR⟩ : ∃ R, rankN p q k = R := ⟨_, rfl⟩
    obtain ⟨X, hX⟩ : ∃ X, periodN p q k = X := ⟨_, rfl⟩
    rw [hR] at HR HV c1 c2
    rw [hX] at HP HV d1 d2
    have hz : ((R : Int) == 0) = false := by simp; omega
    obtain ⟨c, hc⟩ : ∃ c, X / R = c := ⟨_, rfl⟩
    have hD : (X : Int) / (R : Int) = (c : Int) := by rw [← hc]; simp
    have hT : (X : Int).tdiv (R : Int) = (c : Int) := by rw [Int.tdiv_eq_ediv_of_nonneg (by omega)]; exact hD
    have hcb : c ≤ X := by rw [← hc]; exact Nat.div_le_self _ _
    have U : IntKind.i64.wrap (c : Int) = (c : Int) := by rw [IntKind.wrap_i64]; omega
    rw [hc] at HV
    clear h hp ha hR hX hc
    go_enter Try.func21, Try.ntmps21
    go_wp2_with fail
    refine (implRank_val p q k R true _ HR.out HB.out).mono ?_
    rintro e w1 ⟨rfl, hh1⟩
    obtain ⟨hc1, hf1⟩ := bcell hh1
    have hz1 := hh1.size
    try simp only [World.size_alloc] at hz1
    have hz1_0 : w.heap.size < w1.heap.size := by omega
    have kb1_0_0 : w1.cell? ⟨w.heap.size, 0, none⟩ = some (.int .i64 p) := by go_simp
    have kf1_0_0 : w1.frozen? ⟨w.heap.size, 0, none⟩ = false := by go_simp
    have kb1_0_1 : w1.cell? ⟨w.heap.size, 1, none⟩ = some (.int .i64 q) := by go_simp
    have kf1_0_1 : w1.frozen? ⟨w.heap.size, 1, none⟩ = false := by go_simp
    clear hc1 hf1
    go_wp2_with fail
    refine (implPeriod_val p q k X true _ HP.out HB.out).mono ?_
    rintro e w2 ⟨rfl, hh2⟩
    obtain ⟨hc2, hf2⟩ := bcell hh2
    have hz2 := hh2.size
    try simp only [World.size_alloc] at hz2
    have hz2_0 : w.heap.size < w2.heap.size := by omega
    have kb2_0_0 : w2.cell? ⟨w.heap.size, 0, none⟩ = some (.int .i64 p) := by go_simp
    have kf2_0_0 : w2.frozen? ⟨w.heap.size, 0, none⟩ = false := by go_simp
    have kb2_0_1 : w2.cell? ⟨w.heap.size, 1, none⟩ = some (.int .i64 q) := by go_simp
    have kf2_0_1 : w2.frozen? ⟨w.heap.size, 1, none⟩ = false := by go_simp
    clear hc2 hf2
    go_wp2
    go_ret2
    exact ⟨ret_int_bool HV.out.symm rfl, by (repeat (first | exact Below.refl _ _ | refine Below.setCell ?_ (by first | omega | (simp <;> omega)) _ | refine Below.alloc ?_ (by first | omega | (simp <;> omega)) _ | refine Below.drew ?_ | refine Below.trans ?_ (Below.mono (by assumption) (by first | omega | (simp <;> omega))) | refine Below.grown ?_ (by assumption) (by first | omega | (simp <;> omega)) (fun k e => by cases e; first | omega | (simp <;> omega))))⟩
set_option maxHeartbeats 2000000 in
theorem stepBehind_at (p q : Int) (r k : Nat) (v : Int) (w : World) (hp : pairB p q = true) (hr : r ≤ 160000) (k1 : 1 ≤ k) (k2 : k ≤ 400) (hv : row p q 0 1 (r + 1) % (k : Int) = v) :
    Calls Try.prog 52 #[pr p q, .int .i64 r, .int .i64 k] w fun e w' => e = .returned (.int .i64 v) ∧ Below w.heap.size w w' := by
  have HP := Lib.hid hp
  have HV := Lib.hid hv
  clear hp hv
  go_enter Try.func52, Try.ntmps52
  go_wp2_with fail
  refine (implFarFirst_at p q k (r + 1) v _ _ (by omega) HP.out (by omega) (by omega) (by omega) HV.out).mono ?_
  rintro e w1 ⟨rfl, hh1⟩
  obtain ⟨hc1, hf1⟩ := bcell hh1
  have hz1 := hh1.size
  try simp only [World.size_alloc] at hz1
  have hz1_0 : w.heap.size < w1.heap.size := by omega
  have kb1_0_0 : w1.cell? ⟨w.heap.size, 0, none⟩ = some (.int .i64 p) := by go_simp
  have kf1_0_0 : w1.frozen? ⟨w.heap.size, 0, none⟩ = false := by go_simp
  have kb1_0_1 : w1.cell? ⟨w.heap.size, 1, none⟩ = some (.int .i64 q) := by go_simp
  have kf1_0_1 : w1.frozen? ⟨w.heap.size, 1, none⟩ = false := by go_simp
  clear hc1 hf1
  go_wp2
  go_ret
  exact ⟨rfl, by (repeat (first | exact Below.refl _ _ | refine Below.setCell ?_ (by first | omega | (simp <;> omega)) _ | refine Below.alloc ?_ (by first | omega | (simp <;> omega)) _ | refine Below.drew ?_ | refine Below.trans ?_ (Below.mono (by assumption) (by first | omega | (simp <;> omega))) | refine Below.grown ?_ (by assumption) (by first | omega | (simp <;> omega)) (fun k e => by cases e; first | omega | (simp <;> omega))))⟩
set_option maxHeartbeats 4000000 in
theorem implStep_any (p q m : Int) (w : World) : Calls Try.prog 23 #[pr p q, .int .i64 m] w fun e w' => e = .returned (.tuple #[.int .i64 (stepOfV p q m), .bool (rankB p q m)]) ∧ Below w.heap.size w w' := by
  cases h : rankB p q m with
  | false =>
    have HB := Lib.hid h
    have HV := Lib.hid (stepOfV_no h)
    clear h
    go_enter Try.func23, Try.ntmps23
    go_wp2_with fail
    refine (implRank_val p q m _ false _ rfl HB.out).mono ?_
    rintro e w1 ⟨rfl, hh1⟩
    obtain ⟨hc1, hf1⟩ := bcell hh1
    have hz1 := hh1.size
    try simp only [World.size_alloc] at hz1
    have hz1_0 : w.heap.size < w1.heap.size := by omega
    have kb1_0_0 : w1.cell? ⟨w.heap.size, 0, none⟩ = some (.int .i64 p) := by go_simp
    have kf1_0_0 : w1.frozen? ⟨w.heap.size, 0, none⟩ = false := by go_simp
    have kb1_0_1 : w1.cell? ⟨w.heap.size, 1, none⟩ = some (.int .i64 q) := by go_simp
    have kf1_0_1 : w1.frozen? ⟨w.heap.size, 1, none⟩ = false := by go_simp
    clear hc1 hf1
    go_wp2
    go_ret2
    exact ⟨ret_int_bool HV.out.symm rfl, by (repeat (first | exact Below.refl _ _ | refine Below.setCell ?_ (by first | omega | (simp <;> omega)) _ | refine Below.alloc ?_ (by first | omega | (simp <;> omega)) _ | refine Below.drew ?_ | refine Below.trans ?_ (Below.mono (by assumption) (by first | omega | (simp <;> omega))) | refine Below.grown ?_ (by assumption) (by first | omega | (simp <;> omega)) (fun k e => by cases e; first | omega | (simp <;> omega))))⟩
  | true =>
    obtain ⟨hp, _, _, _, k, rfl, k1, k2, ha⟩ := rankB_true h
    obtain ⟨c1, c2⟩ := rank_bd (p := p) k1 k2 ha
    have HB := Lib.hid h
    have HP := Lib.hid hp
    have HR := Lib.hid (rankV_is h)
    have HV := Lib.hid (show row p q 0 1 (rankN p q k + 1) % (k : Int) = stepOfV p q k from (stepOfV_is h).symm)
    obtain ⟨R, hR⟩ : ∃ R, rankN p q k = R := ⟨_, rfl⟩
    rw [hR] at HR HV c1 c2
    clear h hp ha hR
    go_enter Try.func23, Try.ntmps23
    go_wp2_with fail
    refine (implRank_val p q k R true _ HR.out HB.out).mono ?_
    rintro e w1 ⟨rfl, hh1⟩
    obtain ⟨hc1, hf1⟩ := bcell hh1
    have hz1 := hh1.size
    try simp only [World.size_alloc] at hz1
    have hz1_0 : w.heap.size < w1.heap.size := by omega
    have kb1_0_0 : w1.cell? ⟨w.heap.size, 0, none⟩ = some (.int .i64 p) := by go_simp
    have kf1_0_0 : w1.frozen? ⟨w.heap.size, 0, none⟩ = false := by go_simp
    have kb1_0_1 : w1.cell? ⟨w.heap.size, 1, none⟩ = some (.int .i64 q) := by go_simp
    have kf1_0_1 : w1.frozen? ⟨w.heap.size, 1, none⟩ = false := by go_simp
    clear hc1 hf1
    go_wp2_with fail
    refine (stepBehind_at p q R k _ _ HP.out c2 k1 k2 HV.out).mono ?_
    rintro e w2 ⟨rfl, hh2⟩
    obtain ⟨hc2, hf2⟩ := bcell hh2
    have hz2 := hh2.size
    try simp only [World.size_alloc] at hz2
    have hz2_0 : w.heap.size < w2.heap.size := by omega
    have kb2_0_0 : w2.cell? ⟨w.heap.size, 0, none⟩ = some (.int .i64 p) := by go_simp
    have kf2_0_0 : w2.frozen? ⟨w.heap.size, 0, none⟩ = false := by go_simp
    have kb2_0_1 : w2.cell? ⟨w.heap.size, 1, none⟩ = some (.int .i64 q) := by go_simp
    have kf2_0_1 : w2.frozen? ⟨w.heap.size, 1, none⟩ = false := by go_simp
    clear hc2 hf2
    go_wp2
    go_ret2
    exact ⟨rfl, by (repeat (first | exact Below.refl _ _ | refine Below.setCell ?_ (by first | omega | (simp <;> omega)) _ | refine Below.alloc ?_ (by first | omega | (simp <;> omega)) _ | refine Below.drew ?_ | refine Below.trans ?_ (Below.mono (by assumption) (by first | omega | (simp <;> omega))) | refine Below.grown ?_ (by assumption) (by first | omega | (simp <;> omega)) (fun k e => by cases e; first | omega | (simp <;> omega))))⟩
end Go.Proofs.Ytpogmnkedohdcaa
namespace Go.Proofs.Ytpogmnkedohdcaa
open Go.RowKit
set_option maxHeartbeats 4000000 in
theorem implShifted_any (p q n m : Int) (w : World) : Calls Try.prog 28 #[pr p q, .int .i64 n, .int .i64 m] w fun e w' => e = .returned (.int .i64 (shiftedV p q n m)) ∧ Below w.heap.size w w' := by
  cases h : rankB p q m with
  | false =>
    have HV := Lib.hid (show shiftedV p q n m = -1 from shiftedV_no (by simp [shiftedB, h]))
    have HB := Lib.hid h
    clear h
    go_enter Try.func28, Try.ntmps28
    go_wp2_with fail
    refine (implRank_val p q m _ false _ rfl HB.out).mono ?_
    rintro e w1 ⟨rfl, hh1⟩
    obtain ⟨hc1, hf1⟩ := bcell hh1
    have hz1 := hh1.size
    try simp only [World.size_alloc] at hz1
    have hz1_0 : w.heap.size < w1.heap.size := by omega
    have kb1_0_0 : w1.cell? ⟨w.heap.size, 0, none⟩ = some (.int .i64 p) := by go_simp
    have kf1_0_0 : w1.frozen? ⟨w.heap.size, 0, none⟩ = false := by go_simp
    have kb1_0_1 : w1.cell? ⟨w.heap.size, 1, none⟩ = some (.int .i64 q) := by go_simp
    have kf1_0_1 : w1.frozen? ⟨w.heap.size, 1, none⟩ = false := by go_simp
    clear hc1 hf1
    go_wp2
    go_ret
    exact ⟨ret_int HV.out.symm, by (repeat (first | exact Below.refl _ _ | refine Below.setCell ?_ (by first | omega | (simp <;> omega)) _ | refine Below.alloc ?_ (by first | omega | (simp <;> omega)) _ | refine Below.drew ?_ | refine Below.trans ?_ (Below.mono (by assumption) (by first | omega | (simp <;> omega))) | refine Below.grown ?_ (by assumption) (by first | omega | (simp <;> omega)) (fun k e => by cases e; first | omega | (simp <;> omega))))⟩
  | true =>
    cases hn : inB n 0 1000000000 with
    | false =>
      have HV := Lib.hid (show shiftedV p q n m = -1 from shiftedV_no (by simp [shiftedB, hn]))
      have HB := Lib.hid h
      have HN := Lib.hid hn
      clear h hn
      go_enter Try.func28, Try.ntmps28
      go_wp2_with fail
      refine (implRank_val p q m _ true _ rfl HB.out).mono ?_
      rintro e w1 ⟨rfl, hh1⟩
      obtain ⟨hc1, hf1⟩ := bcell hh1
      have hz1 := hh1.size
      try simp only [World.size_alloc] at hz1
      have hz1_0 : w.heap.size < w1.heap.size := by omega
      have kb1_0_0 : w1.cell? ⟨w.heap.size, 0, none⟩ = some (.int .i64 p) := by go_simp
      have kf1_0_0 : w1.frozen? ⟨w.heap.size, 0, none⟩ = false := by go_simp
      have kb1_0_1 : w1.cell? ⟨w.heap.size, 1, none⟩ = some (.int .i64 q) := by go_simp
      have kf1_0_1 : w1.frozen? ⟨w.heap.size, 1, none⟩ = false := by go_simp
      clear hc1 hf1
      go_wp2_with fail
      refine (farOk_is n false _ HN.out).mono ?_
      rintro e wx ⟨rfl, rfl⟩
      go_wp2
      go_ret
      exact ⟨ret_int HV.out.symm, by (repeat (first | exact Below.refl _ _ | refine Below.setCell ?_ (by first | omega | (simp <;> omega)) _ | refine Below.alloc ?_ (by first | omega | (simp <;> omega)) _ | refine Below.drew ?_ | refine Below.trans ?_ (Below.mono (by assumption) (by first | omega | (simp <;> omega))) | refine Below.grown ?_ (by assumption) (by first | omega | (simp <;> omega)) (fun k e => by cases e; first | omega | (simp <;> omega))))⟩
    | true =>
      obtain ⟨n1, n2⟩ := inB_true hn
      obtain ⟨hp, _, _, _, k, rfl, k1, k2, ha⟩ := rankB_true h
      obtain ⟨i, rfl⟩ := Int.eq_ofNat_of_zero_le n1
      obtain ⟨c1, c2⟩ := rank_bd (p := p) k1 k2 ha
      have m1 : (1 : Int) ≤ (k : Int) := by omega
      have HR := Lib.hid (rankV_is h)
      have HB := Lib.hid h
      have HP := Lib.hid hp
      have HN := Lib.hid hn
      have HV := Lib.hid (show shiftedV p q i k = row p q 0 1 i % (k : Int) by rw [shiftedV, if_pos (by simp [shiftedB, h, hn])]; rfl)
      have HS := Lib.hid (show row p q 0 1 (rankN p q k + 1) % (k : Int) = stepV p q k from rfl)
      have HX := Lib.hid (shifted_is (p := p) k1 ha i)
      have s0 := left_bd (row p q 0 1 (rankN p q k + 1)) k m1
      rw [HS.out] at s0
      obtain ⟨s1, s2⟩ := s0
      obtain ⟨R, hR⟩ : ∃ R, rankN p q k = R := ⟨_, rfl⟩
      rw [hR] at c1 c2 HR HS HX
      obtain ⟨s, hs⟩ : ∃ s, stepV p q k = s := ⟨_, rfl⟩
      rw [hs] at HS HX s1 s2
      have hz : ((R : Int) == 0) = false := by simp; omega
      have hz2 : ((k : Int) == 0) = false := by simp; omega
      obtain ⟨a, hA⟩ : ∃ a, i / R = a := ⟨_, rfl⟩
      obtain ⟨b, hB⟩ : ∃ b, i % R = b := ⟨_, rfl⟩
      have hD : (i : Int) / (R : Int) = (a : Int) := by rw [← hA]; simp
      have hM : (i : Int) % (R : Int) = (b : Int) := by rw [← hB]; simp
      have hd1 : a ≤ i := by rw [← hA]; exact Nat.div_le_self _ _
      have hd2 : b ≤ i := by rw [← hB]; exact Nat.mod_le _ _
      have ha9 : a ≤ 1000000000 := by omega
      have hb9 : b ≤ 1000000000 := by omega
      rw [hA, hB] at HX
      obtain ⟨X, hX⟩ : ∃ X, s ^ a % (k : Int) = X := ⟨_, rfl⟩
      obtain ⟨Y, hY⟩ : ∃ Y, row p q 0 1 b % (k : Int) = Y := ⟨_, rfl⟩
      have a0 := left_bd (s ^ a) k m1
      have e0 := left_bd (row p q 0 1 b) k m1
      rw [hX] at a0 HX
      rw [hY] at e0 HX
      obtain ⟨v, hv⟩ : ∃ v, row p q 0 1 i % (k : Int) = v := ⟨_, rfl⟩
      rw [hv] at HV HX
      obtain ⟨x1, x2⟩ := mul_bd (a := 400) (b := 400) (show -400 ≤ X by omega) (by omega) (show -400 ≤ Y by omega) (by omega)
      have hpos : 0 ≤ X * Y := Int.mul_nonneg a0.1 e0.1
      have U : IntKind.i64.wrap (X * Y) = X * Y := by rw [IntKind.wrap_i64]; omega
      have hT1 : (X * Y) % (k : Int) = v := HX.out
      have hT2 : (X * Y).tmod (k : Int) = v := by rw [Int.tmod_eq_emod_of_nonneg hpos]; exact hT1
      have HPX := Lib.hid hX
      have HPY := Lib.hid hY
      have hR0 : ¬ (R : Int) = 0 := by omega
      have hk0 : ¬ (k : Int) = 0 := by omega
      clear h hp hR ha hs hn n1 n2 hA hB hX hY hv x1 x2 hpos HX
      have hk1 : 1 ≤ k := by omega
      have E := Lib.hid hT1
      clear hT1
      go_enter Try.func28, Try.ntmps28
      go_wp2_with fail
      refine (implRank_val p q k R true _ HR.out HB.out).mono ?_
      rintro e w1 ⟨rfl, hh1⟩
      obtain ⟨hc1, hf1⟩ := bcell hh1
      have hz1 := hh1.size
      try simp only [World.size_alloc] at hz1
      have hz1_0 : w.heap.size < w1.heap.size := by omega
      have kb1_0_0 : w1.cell? ⟨w.heap.size, 0, none⟩ = some (.int .i64 p) := by go_simp
      have kf1_0_0 : w1.frozen? ⟨w.heap.size, 0, none⟩ = false := by go_simp
      have kb1_0_1 : w1.cell? ⟨w.heap.size, 1, none⟩ = some (.int .i64 q) := by go_simp
      have kf1_0_1 : w1.frozen? ⟨w.heap.size, 1, none⟩ = false := by go_simp
      clear hc1 hf1
      go_wp2_with fail
      refine (farOk_is _ true _ HN.out).mono ?_
      rintro e wx ⟨rfl, rfl⟩
      obtain ⟨S, hSd⟩ : ∃ S : World → Prop, (fun V => Below w1.heap.size w1 V) = S := ⟨_, rfl⟩
      have hkeep : ∀ V V' : World, S V → Below V.heap.size V V' → S V' := by rw [← hSd]; exact fun V V' h hb => h.trans (hb.mono h.size)
      have gk0 : ∀ iq : KeptBy S, iq.world.cell? ⟨w.heap.size, 0, none⟩ = some (.int .i64 p) := by rw [← hSd]; exact fun iq => cell_below iq.ok kb1_0_0
      have gk1 : ∀ iq : KeptBy S, iq.world.cell? ⟨w.heap.size, 1, none⟩ = some (.int .i64 q) := by rw [← hSd]; exact fun iq => cell_below iq.ok kb1_0_1
      have gkn : Nonempty (KeptBy S) := ⟨⟨w1.drew, by rw [← hSd]; exact (Below.refl _ _).drew⟩⟩
      go_wp2_with fail
      refine wp_region_kept (S := S) (by rw [← hSd]; exact (Below.refl _ _).drew) (by kernel_rfl) (by kernel_rfl) ?_
      repeat (go_big_quiet_step ((first | (go_at_call 52; refine (stepBehind_at p q R k s _ HP.out c2 hk1 (by omega) HS.out).mono ?_; rintro e w' ⟨rfl, hhw⟩; exact ⟨rfl, ⟨w', hkeep _ _ (KeptBy.ok _) hhw⟩, rfl⟩) | (go_at_call 16; refine (implPowerLeft_at s k a X _ _ rfl (by omega) (by omega) (by omega) (by omega) (by omega) HPX.out).mono ?_; rintro e w' ⟨rfl, hhw⟩; exact ⟨rfl, ⟨w', hkeep _ _ (KeptBy.ok _) hhw⟩, rfl⟩) | fail)))
      refine wpQuiet_nil ?_
      rintro wy ⟨iz, hwz⟩
      have bwy : Below w1.heap.size w1 wy := by
        have this : S wy := by rw [hwz]; exact iz.ok
        rw [← hSd] at this
        exact this
      clear hwz iz gkn hkeep hSd gk0 gk1
      have kp2 := cell_below bwy kb1_0_0
      have kq2 := cell_below bwy kb1_0_1
      obtain ⟨S, hSd⟩ : ∃ S : World → Prop, (fun V => Below wy.heap.size wy V) = S := ⟨_, rfl⟩
      have hkeep : ∀ V V' : World, S V → Below V.heap.size V V' → S V' := by rw [← hSd]; exact fun V V' h hb => h.trans (hb.mono h.size)
      have gk0 : ∀ iq : KeptBy S, iq.world.cell? ⟨w.heap.size, 0, none⟩ = some (.int .i64 p) := by rw [← hSd]; exact fun iq => cell_below iq.ok kp2
      have gk1 : ∀ iq : KeptBy S, iq.world.cell? ⟨w.heap.size, 1, none⟩ = some (.int .i64 q) := by rw [← hSd]; exact fun iq => cell_below iq.ok kq2
      have gkn : Nonempty (KeptBy S) := ⟨⟨wy.drew, by rw [← hSd]; exact (Below.refl _ _).drew⟩⟩
      go_wp2_with fail
      refine wp_region_kept (S := S) (by rw [← hSd]; exact (Below.refl _ _).drew) (by kernel_rfl) (by kernel_rfl) ?_
      repeat (go_big_quiet_step ((first | (go_at_call 14; refine (implFarFirst_at p q k b Y _ _ rfl HP.out (by omega) (by omega) (by omega) HPY.out).mono ?_; rintro e w' ⟨rfl, hhw⟩; exact ⟨rfl, ⟨w', hkeep _ _ (KeptBy.ok _) hhw⟩, rfl⟩) | (go_at_call 42; refine (leftOf_at _ k v _ (by omega) (by omega) E.out).mono ?_; rintro e w' ⟨rfl, rfl⟩; exact ⟨rfl, _, rfl⟩) | fail)))
      refine wpQuiet_nil ?_
      rintro wz ⟨iz, hwz⟩
      have bwz : Below wy.heap.size wy wz := by
        have this : S wz := by rw [hwz]; exact iz.ok
        rw [← hSd] at this
        exact this
      clear hwz iz gkn hkeep hSd gk0 gk1
      have hA : Below w.heap.size w w1 := by (repeat (first | exact Below.refl _ _ | refine Below.setCell ?_ (by first | omega | (simp <;> omega)) _ | refine Below.alloc ?_ (by first | omega | (simp <;> omega)) _ | refine Below.drew ?_ | refine Below.trans ?_ (Below.mono (by assumption) (by first | omega | (simp <;> omega))) | refine Below.grown ?_ (by assumption) (by first | omega | (simp <;> omega)) (fun k e => by cases e; first | omega | (simp <;> omega))))
      have hW : Below w.heap.size w wz := (hA.trans (bwy.mono hA.size)).trans (bwz.mono (Nat.le_trans hA.size bwy.size))
      go_wp2
      go_ret
      exact ⟨ret_int HV.out.symm, hW⟩
end Go.Proofs.Ytpogmnkedohdcaa
namespace Go.Proofs.Ytpogmnkedohdcaa
open Go.RowKit
set_option maxHeartbeats 2000000 in
theorem drawLoopsOf_any (w : World) (a : Option Addr) (len cap : Nat) (zs : List Int) (h : IsRow w a len cap zs) :
    Calls Try.prog 20 #[.slice a len cap] w (DrawnPairNum w) := by
  go_enter Try.func20, Try.ntmps20
  go_wp2_with fail
  refine (drawRankOf_any _ _ _ _ zs (h.below ((Below.refl _ _).alloc (Nat.le_refl _) _))).mono ?_
  rintro e w1 ⟨p1, q1, n1, rfl, hh1⟩
  obtain ⟨hc1, hf1⟩ := bcell hh1
  have hz1 := hh1.size
  try simp only [World.size_alloc] at hz1
  have hz1_0 : w.heap.size < w1.heap.size := by omega
  have kb1_0_0 : w1.cell? ⟨w.heap.size, 0, none⟩ = some (.int .i64 0) := by go_simp
  have kf1_0_0 : w1.frozen? ⟨w.heap.size, 0, none⟩ = false := by go_simp
  have kb1_0_1 : w1.cell? ⟨w.heap.size, 1, none⟩ = some (.int .i64 0) := by go_simp
  have kf1_0_1 : w1.frozen? ⟨w.heap.size, 1, none⟩ = false := by go_simp
  clear hc1 hf1
  go_wp2
  refine bodyPost_ret (v := .tuple #[pr p1 q1, .int .i64 n1]) (by simp [results, Try.results20, go_sem, kb1_0_0, kb1_0_1]) rfl ⟨_, _, _, rfl, ?_⟩
  (repeat (first | exact Below.refl _ _ | refine Below.setCell ?_ (by first | omega | (simp <;> omega)) _ | refine Below.alloc ?_ (by first | omega | (simp <;> omega)) _ | refine Below.drew ?_ | refine Below.trans ?_ (Below.mono (by assumption) (by first | omega | (simp <;> omega))) | refine Below.grown ?_ (by assumption) (by first | omega | (simp <;> omega)) (fun k e => by cases e; first | omega | (simp <;> omega))))
set_option maxHeartbeats 2000000 in
theorem drawStepOf_any (w : World) (a : Option Addr) (len cap : Nat) (zs : List Int) (h : IsRow w a len cap zs) :
    Calls Try.prog 24 #[.slice a len cap] w (DrawnPairNum w) := by
  go_enter Try.func24, Try.ntmps24
  go_wp2_with fail
  refine (drawRankOf_any _ _ _ _ zs (h.below ((Below.refl _ _).alloc (Nat.le_refl _) _))).mono ?_
  rintro e w1 ⟨p1, q1, n1, rfl, hh1⟩
  obtain ⟨hc1, hf1⟩ := bcell hh1
  have hz1 := hh1.size
  try simp only [World.size_alloc] at hz1
  have hz1_0 : w.heap.size < w1.heap.size := by omega
  have kb1_0_0 : w1.cell? ⟨w.heap.size, 0, none⟩ = some (.int .i64 0) := by go_simp
  have kf1_0_0 : w1.frozen? ⟨w.heap.size, 0, none⟩ = false := by go_simp
  have kb1_0_1 : w1.cell? ⟨w.heap.size, 1, none⟩ = some (.int .i64 0) := by go_simp
  have kf1_0_1 : w1.frozen? ⟨w.heap.size, 1, none⟩ = false := by go_simp
  clear hc1 hf1
  go_wp2
  refine bodyPost_ret (v := .tuple #[pr p1 q1, .int .i64 n1]) (by simp [results, Try.results24, go_sem, kb1_0_0, kb1_0_1]) rfl ⟨_, _, _, rfl, ?_⟩
  (repeat (first | exact Below.refl _ _ | refine Below.setCell ?_ (by first | omega | (simp <;> omega)) _ | refine Below.alloc ?_ (by first | omega | (simp <;> omega)) _ | refine Below.drew ?_ | refine Below.trans ?_ (Below.mono (by assumption) (by first | omega | (simp <;> omega))) | refine Below.grown ?_ (by assumption) (by first | omega | (simp <;> omega)) (fun k e => by cases e; first | omega | (simp <;> omega))))
set_option maxHeartbeats 2000000 in
theorem drawShiftedOf_any (w : World) (a : Option Addr) (len cap : Nat) (zs : List Int) (h : IsRow w a len cap zs) :
    Calls Try.prog 27 #[.slice a len cap] w (DrawnAny w) := by
  go_enter Try.func27, Try.ntmps27
  go_wp2_with fail
  refine (open_any _ _ _ _ zs (h.below ((Below.refl _ _).alloc (Nat.le_refl _) _))).mono ?_
  rintro e w1 ⟨rfl, hR1, hh1, hzR1⟩
  try simp only [World.size_alloc] at hzR1
  try simp only [World.size_alloc] at hR1
  obtain ⟨hc1, hf1⟩ := bcell hh1
  have hz1 := hh1.size
  try simp only [World.size_alloc] at hz1
  have hz1_0 : w.heap.size < w1.heap.size := by omega
  have kb1_0_0 : w1.cell? ⟨w.heap.size, 0, none⟩ = some (.int .i64 0) := by go_simp
  have kf1_0_0 : w1.frozen? ⟨w.heap.size, 0, none⟩ = false := by go_simp
  have kb1_0_1 : w1.cell? ⟨w.heap.size, 1, none⟩ = some (.int .i64 0) := by go_simp
  have kf1_0_1 : w1.frozen? ⟨w.heap.size, 1, none⟩ = false := by go_simp
  clear hc1 hf1
  go_wp2_with fail
  refine (l20Pair_any (w.heap.size + 1) 0 14 _ hR1 (by omega) (by omega)).mono ?_
  rintro e w2 ⟨p2, q2, rfl, pa2, pb2, qa2, qb2, hR2, hh2⟩
  obtain ⟨hc2, hf2⟩ := gcell hh2
  have hz2 := hh2.size
  try simp only [World.size_alloc] at hz2
  have hz2_0 : w.heap.size < w2.heap.size := by omega
  have hn2_0 : ¬ w.heap.size = (w.heap.size + 1) := by omega
  have kb2_0_0 : w2.cell? ⟨w.heap.size, 0, none⟩ = some (.int .i64 0) := by go_simp
  have kf2_0_0 : w2.frozen? ⟨w.heap.size, 0, none⟩ = false := by go_simp
  have kb2_0_1 : w2.cell? ⟨w.heap.size, 1, none⟩ = some (.int .i64 0) := by go_simp
  have kf2_0_1 : w2.frozen? ⟨w.heap.size, 1, none⟩ = false := by go_simp
  clear hc2 hf2
  go_wp2_with fail
  refine (l20Far_any (w.heap.size + 1) (0 + 5) _ hR2 (by omega)).mono ?_
  rintro e w3 ⟨v3, rfl, hR3, hh3⟩
  obtain ⟨hc3, hf3⟩ := gcell hh3
  have hz3 := hh3.size
  try simp only [World.size_alloc] at hz3
  have hz3_0 : w.heap.size < w3.heap.size := by omega
  have hn3_0 : ¬ w.heap.size = (w.heap.size + 1) := by omega
  have kb3_0_0 : w3.cell? ⟨w.heap.size, 0, none⟩ = some (.int .i64 0) := by go_simp
  have kf3_0_0 : w3.frozen? ⟨w.heap.size, 0, none⟩ = false := by go_simp
  have kb3_0_1 : w3.cell? ⟨w.heap.size, 1, none⟩ = some (.int .i64 0) := by go_simp
  have kf3_0_1 : w3.frozen? ⟨w.heap.size, 1, none⟩ = false := by go_simp
  clear hc3 hf3
  go_wp2_with fail
  refine (l20Ranked_any (w.heap.size + 1) (0 + 5 + 7) _ hR3 (by omega)).mono ?_
  rintro e w4 ⟨v4, rfl, hR4, hh4⟩
  obtain ⟨hc4, hf4⟩ := gcell hh4
  have hz4 := hh4.size
  try simp only [World.size_alloc] at hz4
  have hz4_0 : w.heap.size < w4.heap.size := by omega
  have hn4_0 : ¬ w.heap.size = (w.heap.size + 1) := by omega
  have kb4_0_0 : w4.cell? ⟨w.heap.size, 0, none⟩ = some (.int .i64 0) := by go_simp
  have kf4_0_0 : w4.frozen? ⟨w.heap.size, 0, none⟩ = false := by go_simp
  have kb4_0_1 : w4.cell? ⟨w.heap.size, 1, none⟩ = some (.int .i64 0) := by go_simp
  have kf4_0_1 : w4.frozen? ⟨w.heap.size, 1, none⟩ = false := by go_simp
  clear hc4 hf4
  go_wp2
  refine bodyPost_ret (v := .tuple #[pr p2 q2, .int .i64 v3, .int .i64 v4]) (by simp [results, Try.results27, go_sem, kb4_0_0, kb4_0_1]) rfl ⟨_, _, _, _, rfl, ?_⟩
  (repeat (first | exact Below.refl _ _ | refine Below.setCell ?_ (by first | omega | (simp <;> omega)) _ | refine Below.alloc ?_ (by first | omega | (simp <;> omega)) _ | refine Below.drew ?_ | refine Below.trans ?_ (Below.mono (by assumption) (by first | omega | (simp <;> omega))) | refine Below.grown ?_ (by assumption) (by first | omega | (simp <;> omega)) (fun k e => by cases e; first | omega | (simp <;> omega))))
end Go.Proofs.Ytpogmnkedohdcaa
namespace Go.Proofs.Ytpogmnkedohdcaa
open Go.RowKit
theorem implRank_is (p q m v : Int) (c : Bool) (w : World) (hv : rankV p q m = v) (hc : rankB p q m = c) : Calls Try.prog 26 #[pr p q, .int .i64 m] w fun e w' => e = .returned (.tuple #[.int .i64 v, .bool c]) ∧ Below w.heap.size w w' := by rw [← hv, ← hc]; exact implRank_any p q m w
/-- At a place a number with a rank divides just if its rank divides the place. -/
theorem divides_left {p q : Int} {k : Nat} (h : rankB p q k = true) (hk : 1 ≤ k) (ha : Apart (k : Int) q) (t : Nat) (ht : t ≤ 1000000000) : dividesB p q k t = (row p q 0 1 t % (k : Int) == 0) := by
  rw [Bool.eq_iff_iff, left_zero_iff, rankN_dvd k hk ha]
  simp [dividesB, h, inB_mk (n := (t : Int)) (a := 0) (b := 1000000000) (by omega) (by omega)]
end Go.Proofs.Ytpogmnkedohdcaa
namespace Go.Proofs.Ytpogmnkedohdcaa
open Go.RowKit
theorem implPeriod_is (p q m v : Int) (c : Bool) (w : World) (hv : periodV p q m = v) (hc : rankB p q m = c) : Calls Try.prog 49 #[pr p q, .int .i64 m] w fun e w' => e = .returned (.tuple #[.int .i64 v, .bool c]) ∧ Below w.heap.size w w' := by rw [← hv, ← hc]; exact implPeriod_any p q m w
theorem implLoops_is (p q m v : Int) (c : Bool) (w : World) (hv : loopsV p q m = v) (hc : rankB p q m = c) : Calls Try.prog 21 #[pr p q, .int .i64 m] w fun e w' => e = .returned (.tuple #[.int .i64 v, .bool c]) ∧ Below w.heap.size w w' := by rw [← hv, ← hc]; exact implLoops_any p q m w
theorem implStep_is (p q m v : Int) (c : Bool) (w : World) (hv : stepOfV p q m = v) (hc : rankB p q m = c) : Calls Try.prog 23 #[pr p q, .int .i64 m] w fun e w' => e = .returned (.tuple #[.int .i64 v, .bool c]) ∧ Below w.heap.size w w' := by rw [← hv, ← hc]; exact implStep_any p q m w
theorem implShifted_is (p q n m v : Int) (w : World) (hv : shiftedV p q n m = v) : Calls Try.prog 28 #[pr p q, .int .i64 n, .int .i64 m] w fun e w' => e = .returned (.int .i64 v) ∧ Below w.heap.size w w' := by rw [← hv]; exact implShifted_any p q n m w
theorem loops_bd {p q : Int} {k : Nat} (h1 : 1 ≤ k) (h2 : k ≤ 400) (h : Apart (k : Int) q) : 1 ≤ loopsN p q k ∧ loopsN p q k ≤ 160000 := by
  refine ⟨loops_pos k h1 h, Nat.le_trans (Nat.div_le_self _ _) (period_bd h1 h2 h).2⟩
/-- A power of the step leaves 1 at the loops, and before them it does not. -/
theorem step_left {p q : Int} {k : Nat} (h1 : 1 ≤ k) (h : Apart (k : Int) q) (t : Nat) (ht : 1 ≤ t) (hl : t ≤ loopsN p q k) : (stepV p q k ^ t % (k : Int) == 1 % (k : Int)) = decide (t = loopsN p q k) := by
  rw [Bool.eq_iff_iff, beq_iff_eq, decide_eq_true_iff]
  have e := step_again (p := p) k h1 h t
  constructor
  · intro hd
    have := Nat.le_of_dvd ht (e.1 (eqm_left_eq hd))
    omega
  · rintro he
    exact Eqm.left (e.2 (by rw [he]; exact Nat.dvd_refl _))
/-- The square of the step leaves the power of Q. -/
theorem step_sq {p q : Int} {k : Nat} (h1 : 1 ≤ k) (h : Apart (k : Int) q) : stepV p q k * stepV p q k % (k : Int) = q ^ rankN p q k % (k : Int) := by
  obtain ⟨a, _, _, _⟩ := rankN_spec (p := p) k h1 h
  refine Eqm.left ?_
  exact (((eqm_left _ _).mul (eqm_left _ _))).trans (step_square a)
theorem step_bd {p q : Int} {k : Nat} (h1 : 1 ≤ k) : 0 ≤ stepV p q k ∧ stepV p q k < k := left_bd _ _ (by omega)
end Go.Proofs.Ytpogmnkedohdcaa
namespace Go.Proofs.Ytpogmnkedohdcaa
open Go.RowKit
set_option maxRecDepth 100000 in
set_option maxHeartbeats 8000000 in
theorem fnLoopsOf_walk (a : Option Addr) (len cap : Nat) (z : List Int) (w : World) (w0 : IsRow w a len cap z) :
    Calls Try.prog 5 #[.slice a len cap] w fun e w' => e = .returned (.bool true) ∧ Below w.heap.size w w' := by
  by_cases hbig : 1048576 < len
  · go_enter Try.func5, Try.ntmps5
    go_wp2
    go_ret
    exact ⟨rfl, Below.refl _ _⟩
  · have hsm : len ≤ 1048576 := by omega
    go_enter Try.func5, Try.ntmps5
    go_wp2_with fail
    refine (drawLoopsOf_any _ _ _ _ z w0).mono ?_
    rintro e w1 ⟨p, q, m, rfl, hh1⟩
    have hz1 := hh1.size
    obtain ⟨hc1, hf1⟩ := bcell hh1
    cases h : rankB p q m with
    | false =>
      have HV := Lib.hid (loopsV_no h)
      have HB := Lib.hid h
      clear h
      go_wp2_with fail
      refine (implLoops_is p q m _ false _ HV.out HB.out).mono ?_
      rintro e w2 ⟨rfl, hh2⟩
      obtain ⟨hc2, hf2⟩ := bcell hh2
      have hz2 := hh2.size
      try simp only [World.size_alloc] at hz2
      have hz2_0 : w1.heap.size < w2.heap.size := by omega
      have kb2_0_0 : w2.cell? ⟨w1.heap.size, 0, none⟩ = some (.int .i64 p) := by go_simp
      have kf2_0_0 : w2.frozen? ⟨w1.heap.size, 0, none⟩ = false := by go_simp
      have kb2_0_1 : w2.cell? ⟨w1.heap.size, 1, none⟩ = some (.int .i64 q) := by go_simp
      have kf2_0_1 : w2.frozen? ⟨w1.heap.size, 1, none⟩ = false := by go_simp
      clear hc2 hf2
      go_wp2_with fail
      refine (specLoops_is p q m _ false _ HV.out HB.out).mono ?_
      rintro e w3 ⟨rfl, hh3⟩
      obtain ⟨hc3, hf3⟩ := bcell hh3
      have hz3 := hh3.size
      try simp only [World.size_alloc] at hz3
      have hz3_0 : w1.heap.size < w3.heap.size := by omega
      have kb3_0_0 : w3.cell? ⟨w1.heap.size, 0, none⟩ = some (.int .i64 p) := by go_simp
      have kf3_0_0 : w3.frozen? ⟨w1.heap.size, 0, none⟩ = false := by go_simp
      have kb3_0_1 : w3.cell? ⟨w1.heap.size, 1, none⟩ = some (.int .i64 q) := by go_simp
      have kf3_0_1 : w3.frozen? ⟨w1.heap.size, 1, none⟩ = false := by go_simp
      clear hc3 hf3
      go_wp2_with fail
      refine (alive_any _).mono ?_
      rintro e w4 ⟨rfl, hh4⟩
      obtain ⟨hc4, hf4⟩ := bcell hh4
      have hz4 := hh4.size
      try simp only [World.size_alloc] at hz4
      clear hc4 hf4
      go_wp2
      go_ret
      exact ⟨rfl, by (repeat (first | exact Below.refl _ _ | refine Below.setCell ?_ (by first | omega | (simp <;> omega)) _ | refine Below.alloc ?_ (by first | omega | (simp <;> omega)) _ | refine Below.drew ?_ | refine Below.trans ?_ (Below.mono (by assumption) (by first | omega | (simp <;> omega))) | refine Below.grown ?_ (by assumption) (by first | omega | (simp <;> omega)) (fun k e => by cases e; first | omega | (simp <;> omega))))⟩
    | true =>
      obtain ⟨hp, _, _, _, k, rfl, k1, k2, ha⟩ := rankB_true h
      obtain ⟨⟨r1, r2⟩, r3, r4⟩ := pairB_true hp
      obtain ⟨x1, x2⟩ := mul_bd r3 r4 r3 r4
      have U : IntKind.i64.wrap (q * q) = q * q := by rw [IntKind.wrap_i64]; omega
      obtain ⟨b1, b2⟩ := loops_bd (p := p) k1 k2 ha
      obtain ⟨s0, s1⟩ := step_bd (p := p) (q := q) k1
      have HV := Lib.hid (loopsV_is h)
      have HS := Lib.hid (stepOfV_is h)
      have HB := Lib.hid h
      have HL := Lib.hid (step_left (p := p) k1 ha)
      have HFEW := Lib.hid (loops_few (p := p) k k1 ha)
      obtain ⟨L, hL⟩ : ∃ L, loopsN p q k = L := ⟨_, rfl⟩
      rw [hL] at b1 b2 HL HV HFEW
      obtain ⟨s, hs⟩ : ∃ s, stepV p q k = s := ⟨_, rfl⟩
      rw [hs] at s0 s1 HS HL
      have hz : ((k : Int) == 0) = false := by simp; omega
      have hz' : ¬ (k : Int) = 0 := by omega
      clear h hp ha hL hs x1 x2
      go_wp2_with fail
      refine (implLoops_is p q k _ true _ HV.out HB.out).mono ?_
      rintro e w2 ⟨rfl, hh2⟩
      obtain ⟨hc2, hf2⟩ := bcell hh2
      have hz2 := hh2.size
      try simp only [World.size_alloc] at hz2
      have hz2_0 : w1.heap.size < w2.heap.size := by omega
      have kb2_0_0 : w2.cell? ⟨w1.heap.size, 0, none⟩ = some (.int .i64 p) := by go_simp
      have kf2_0_0 : w2.frozen? ⟨w1.heap.size, 0, none⟩ = false := by go_simp
      have kb2_0_1 : w2.cell? ⟨w1.heap.size, 1, none⟩ = some (.int .i64 q) := by go_simp
      have kf2_0_1 : w2.frozen? ⟨w1.heap.size, 1, none⟩ = false := by go_simp
      clear hc2 hf2
      go_wp2_with fail
      refine (specLoops_is p q k _ true _ HV.out HB.out).mono ?_
      rintro e w3 ⟨rfl, hh3⟩
      obtain ⟨hc3, hf3⟩ := bcell hh3
      have hz3 := hh3.size
      try simp only [World.size_alloc] at hz3
      have hz3_0 : w1.heap.size < w3.heap.size := by omega
      have kb3_0_0 : w3.cell? ⟨w1.heap.size, 0, none⟩ = some (.int .i64 p) := by go_simp
      have kf3_0_0 : w3.frozen? ⟨w1.heap.size, 0, none⟩ = false := by go_simp
      have kb3_0_1 : w3.cell? ⟨w1.heap.size, 1, none⟩ = some (.int .i64 q) := by go_simp
      have kf3_0_1 : w3.frozen? ⟨w1.heap.size, 1, none⟩ = false := by go_simp
      clear hc3 hf3
      go_wp2_with fail
      refine (implStep_is p q k _ true _ HS.out HB.out).mono ?_
      rintro e w4 ⟨rfl, hh4⟩
      obtain ⟨hc4, hf4⟩ := bcell hh4
      have hz4 := hh4.size
      try simp only [World.size_alloc] at hz4
      have hz4_0 : w1.heap.size < w4.heap.size := by omega
      have kb4_0_0 : w4.cell? ⟨w1.heap.size, 0, none⟩ = some (.int .i64 p) := by go_simp
      have kf4_0_0 : w4.frozen? ⟨w1.heap.size, 0, none⟩ = false := by go_simp
      have kb4_0_1 : w4.cell? ⟨w1.heap.size, 1, none⟩ = some (.int .i64 q) := by go_simp
      have kf4_0_1 : w4.frozen? ⟨w1.heap.size, 1, none⟩ = false := by go_simp
      clear hc4 hf4
      go_wp2_with fail
      go_loopw [11] (fun c wr => ∃ t : Nat, 1 ≤ t ∧ t ≤ L + 1 ∧ t ≤ 61 ∧ c = .int .i64 t ∧ wr.cell? ⟨w1.heap.size, 0, none⟩ = some (.int .i64 p) ∧ wr.cell? ⟨w1.heap.size, 1, none⟩ = some (.int .i64 q) ∧ Below w.heap.size w wr) (fun c _ => 70 - (intOf c).toNat)
      case atStart => exact ⟨1, by omega, by omega, by omega, rfl, kb4_0_0, kb4_0_1, by (repeat (first | exact Below.refl _ _ | refine Below.setCell ?_ (by first | omega | (simp <;> omega)) _ | refine Below.alloc ?_ (by first | omega | (simp <;> omega)) _ | refine Below.drew ?_ | refine Below.trans ?_ (Below.mono (by assumption) (by first | omega | (simp <;> omega))) | refine Below.grown ?_ (by assumption) (by first | omega | (simp <;> omega)) (fun k e => by cases e; first | omega | (simp <;> omega))))⟩
      case round =>
        clear kb4_0_0 kb4_0_1 kf4_0_0 kf4_0_1 hh1 hh2 hh3 hh4
        obtain ⟨t, t1, t2, t3, rfl, kpwr, kqwr, hBwr⟩ := hrel
        by_cases htL : t ≤ L
        · have htLi : (t : Int) ≤ (L : Int) := by omega
          by_cases ht60 : t ≤ 60
          · have ht60i : (t : Int) ≤ 60 := by omega
            by_cases he : t = L
            · have hv : (s ^ t % (k : Int) == 1 % (k : Int)) = true := by rw [HL.out t t1 htL]; simpa using he
              have HVV := Lib.hid hv
              subst he
              have hv := HVV.out
              obtain ⟨S, hSd⟩ : ∃ S : World → Prop, (fun V => Below wr.heap.size wr V) = S := ⟨_, rfl⟩
              have hkeep : ∀ V V' : World, S V → Below V.heap.size V V' → S V' := by rw [← hSd]; exact fun V V' h hb => h.trans (hb.mono h.size)
              have gk0 : ∀ iq : KeptBy S, iq.world.cell? ⟨w1.heap.size, 0, none⟩ = some (.int .i64 p) := by rw [← hSd]; exact fun iq => cell_below iq.ok kpwr
              have gk1 : ∀ iq : KeptBy S, iq.world.cell? ⟨w1.heap.size, 1, none⟩ = some (.int .i64 q) := by rw [← hSd]; exact fun iq => cell_below iq.ok kqwr
              have gkn : Nonempty (KeptBy S) := ⟨⟨wr.drew, by rw [← hSd]; exact (Below.refl _ _).drew⟩⟩
              go_wp2_with fail
              refine wp_region_kept (S := S) (by rw [← hSd]; exact (Below.refl _ _).drew) (by kernel_rfl) (by kernel_rfl) ?_
              repeat (go_big_quiet_step ((first | (go_at_call 16; refine (implPowerLeft_at s k t _ _ _ rfl (by omega) (by omega) (by omega) (by omega) (by omega) rfl).mono ?_; rintro e w' ⟨rfl, hhw⟩; exact ⟨rfl, ⟨w', hkeep _ _ (KeptBy.ok _) hhw⟩, rfl⟩) | fail)))
              refine wpQuiet_nil ?_
              rintro wd ⟨iz, hwz⟩
              have bwd : Below wr.heap.size wr wd := by
                have this : S wd := by rw [hwz]; exact iz.ok
                rw [← hSd] at this
                exact this
              clear hwz iz gkn hkeep hSd gk0 gk1
              have kpwd : wd.cell? ⟨w1.heap.size, 0, none⟩ = some (.int .i64 p) := cell_below bwd kpwr
              have kqwd : wd.cell? ⟨w1.heap.size, 1, none⟩ = some (.int .i64 q) := cell_below bwd kqwr
              have hBwd : Below w.heap.size w wd := hBwr.trans (bwd.mono hBwr.size)
              clear kpwr kqwr bwd hBwr
              go_wp2
              go_roundw
              case rel => exact ⟨t + 1, by omega, by omega, by omega, congrArg (Value.int .i64) (by omega), kpwd, kqwd, hBwd⟩
              case measure => simp [intOf]; omega
            · have hv : (s ^ t % (k : Int) == 1 % (k : Int)) = false := by rw [HL.out t t1 htL]; simpa using he
              have heI : ((t : Int) == (L : Int)) = false := by simp; omega
              obtain ⟨S, hSd⟩ : ∃ S : World → Prop, (fun V => Below wr.heap.size wr V) = S := ⟨_, rfl⟩
              have hkeep : ∀ V V' : World, S V → Below V.heap.size V V' → S V' := by rw [← hSd]; exact fun V V' h hb => h.trans (hb.mono h.size)
              have gk0 : ∀ iq : KeptBy S, iq.world.cell? ⟨w1.heap.size, 0, none⟩ = some (.int .i64 p) := by rw [← hSd]; exact fun iq => cell_below iq.ok kpwr
              have gk1 : ∀ iq : KeptBy S, iq.world.cell? ⟨w1.heap.size, 1, none⟩ = some (.int .i64 q) := by rw [← hSd]; exact fun iq => cell_below iq.ok kqwr
              have gkn : Nonempty (KeptBy S) := ⟨⟨wr.drew, by rw [← hSd]; exact (Below.refl _ _).drew⟩⟩
              go_wp2_with fail
              refine wp_region_kept (S := S) (by rw [← hSd]; exact (Below.refl _ _).drew) (by kernel_rfl) (by kernel_rfl) ?_
              repeat (go_big_quiet_step ((first | (go_at_call 16; refine (implPowerLeft_at s k t _ _ _ rfl (by omega) (by omega) (by omega) (by omega) (by omega) rfl).mono ?_; rintro e w' ⟨rfl, hhw⟩; exact ⟨rfl, ⟨w', hkeep _ _ (KeptBy.ok _) hhw⟩, rfl⟩) | fail)))
              refine wpQuiet_nil ?_
              rintro wd ⟨iz, hwz⟩
              have bwd : Below wr.heap.size wr wd := by
                have this : S wd := by rw [hwz]; exact iz.ok
                rw [← hSd] at this
                exact this
              clear hwz iz gkn hkeep hSd gk0 gk1
              have kpwd : wd.cell? ⟨w1.heap.size, 0, none⟩ = some (.int .i64 p) := cell_below bwd kpwr
              have kqwd : wd.cell? ⟨w1.heap.size, 1, none⟩ = some (.int .i64 q) := cell_below bwd kqwr
              have hBwd : Below w.heap.size w wd := hBwr.trans (bwd.mono hBwr.size)
              clear kpwr kqwr bwd hBwr
              go_wp2
              go_roundw
              case rel => exact ⟨t + 1, by omega, by omega, by omega, congrArg (Value.int .i64) (by omega), kpwd, kqwd, hBwd⟩
              case measure => simp [intOf]; omega
          · have hgt : 60 < (t : Int) := by omega
            have kqz := kqwr
            by_cases hq1 : q * q = 1
            · have hqb : (q * q != 1) = false := by simpa using hq1
              rcases HFEW.out hq1 with h1 | h1 | h1
              · have l1 : ((L : Int) == 1) = true := by simp; omega
                clear HFEW
                first
                  | (exfalso; omega)
                  | (go_wp2
                     go_ret
                     exact ⟨rfl, hBwr⟩)
              · have l1 : ((L : Int) == 1) = false := by simp; omega
                have l2 : ((L : Int) == 2) = true := by simp; omega
                clear HFEW
                first
                  | (exfalso; omega)
                  | (go_wp2
                     go_ret
                     exact ⟨rfl, hBwr⟩)
              · have l1 : ((L : Int) == 1) = false := by simp; omega
                have l2 : ((L : Int) == 2) = false := by simp; omega
                have l3 : ((L : Int) == 4) = true := by simp; omega
                clear HFEW
                first
                  | (exfalso; omega)
                  | (go_wp2
                     go_ret
                     exact ⟨rfl, hBwr⟩)
            · have hqb : (q * q != 1) = true := by simpa using hq1
              clear HFEW
              go_wp2
              go_ret
              exact ⟨rfl, hBwr⟩
        · have hgt : (L : Int) < (t : Int) := by omega
          have kqz := kqwr
          by_cases hq1 : q * q = 1
          · have hqb : (q * q != 1) = false := by simpa using hq1
            rcases HFEW.out hq1 with h1 | h1 | h1
            · have l1 : ((L : Int) == 1) = true := by simp; omega
              clear HFEW
              first
                | (exfalso; omega)
                | (go_wp2
                   go_ret
                   exact ⟨rfl, hBwr⟩)
            · have l1 : ((L : Int) == 1) = false := by simp; omega
              have l2 : ((L : Int) == 2) = true := by simp; omega
              clear HFEW
              first
                | (exfalso; omega)
                | (go_wp2
                   go_ret
                   exact ⟨rfl, hBwr⟩)
            · have l1 : ((L : Int) == 1) = false := by simp; omega
              have l2 : ((L : Int) == 2) = false := by simp; omega
              have l3 : ((L : Int) == 4) = true := by simp; omega
              clear HFEW
              first
                | (exfalso; omega)
                | (go_wp2
                   go_ret
                   exact ⟨rfl, hBwr⟩)
          · have hqb : (q * q != 1) = true := by simpa using hq1
            clear HFEW
            go_wp2
            go_ret
            exact ⟨rfl, hBwr⟩
end Go.Proofs.Ytpogmnkedohdcaa
namespace Go.Proofs.Ytpogmnkedohdcaa
open Go.RowKit
set_option maxRecDepth 100000 in
set_option maxHeartbeats 8000000 in
theorem fnStepOf_walk (a : Option Addr) (len cap : Nat) (z : List Int) (w : World) (w0 : IsRow w a len cap z) :
    Calls Try.prog 6 #[.slice a len cap] w fun e w' => e = .returned (.bool true) ∧ Below w.heap.size w w' := by
  by_cases hbig : 1048576 < len
  · go_enter Try.func6, Try.ntmps6
    go_wp2
    go_ret
    exact ⟨rfl, Below.refl _ _⟩
  · have hsm : len ≤ 1048576 := by omega
    go_enter Try.func6, Try.ntmps6
    go_wp2_with fail
    refine (drawStepOf_any _ _ _ _ z w0).mono ?_
    rintro e w1 ⟨p, q, m, rfl, hh1⟩
    have hz1 := hh1.size
    obtain ⟨hc1, hf1⟩ := bcell hh1
    cases h : rankB p q m with
    | false =>
      have HV := Lib.hid (stepOfV_no h)
      have HB := Lib.hid h
      clear h
      go_wp2_with fail
      refine (implStep_is p q m _ false _ HV.out HB.out).mono ?_
      rintro e w2 ⟨rfl, hh2⟩
      obtain ⟨hc2, hf2⟩ := bcell hh2
      have hz2 := hh2.size
      try simp only [World.size_alloc] at hz2
      have hz2_0 : w1.heap.size < w2.heap.size := by omega
      have kb2_0_0 : w2.cell? ⟨w1.heap.size, 0, none⟩ = some (.int .i64 p) := by go_simp
      have kf2_0_0 : w2.frozen? ⟨w1.heap.size, 0, none⟩ = false := by go_simp
      have kb2_0_1 : w2.cell? ⟨w1.heap.size, 1, none⟩ = some (.int .i64 q) := by go_simp
      have kf2_0_1 : w2.frozen? ⟨w1.heap.size, 1, none⟩ = false := by go_simp
      clear hc2 hf2
      go_wp2_with fail
      refine (specStep_is p q m _ false _ HV.out HB.out).mono ?_
      rintro e w3 ⟨rfl, hh3⟩
      obtain ⟨hc3, hf3⟩ := bcell hh3
      have hz3 := hh3.size
      try simp only [World.size_alloc] at hz3
      have hz3_0 : w1.heap.size < w3.heap.size := by omega
      have kb3_0_0 : w3.cell? ⟨w1.heap.size, 0, none⟩ = some (.int .i64 p) := by go_simp
      have kf3_0_0 : w3.frozen? ⟨w1.heap.size, 0, none⟩ = false := by go_simp
      have kb3_0_1 : w3.cell? ⟨w1.heap.size, 1, none⟩ = some (.int .i64 q) := by go_simp
      have kf3_0_1 : w3.frozen? ⟨w1.heap.size, 1, none⟩ = false := by go_simp
      clear hc3 hf3
      go_wp2_with fail
      refine (alive_any _).mono ?_
      rintro e w4 ⟨rfl, hh4⟩
      obtain ⟨hc4, hf4⟩ := bcell hh4
      have hz4 := hh4.size
      try simp only [World.size_alloc] at hz4
      clear hc4 hf4
      go_wp2
      go_ret
      exact ⟨rfl, by (repeat (first | exact Below.refl _ _ | refine Below.setCell ?_ (by first | omega | (simp <;> omega)) _ | refine Below.alloc ?_ (by first | omega | (simp <;> omega)) _ | refine Below.drew ?_ | refine Below.trans ?_ (Below.mono (by assumption) (by first | omega | (simp <;> omega))) | refine Below.grown ?_ (by assumption) (by first | omega | (simp <;> omega)) (fun k e => by cases e; first | omega | (simp <;> omega))))⟩
    | true =>
      obtain ⟨hp, _, _, _, k, rfl, k1, k2, ha⟩ := rankB_true h
      obtain ⟨⟨r1, r2⟩, r3, r4⟩ := pairB_true hp
      obtain ⟨c1, c2⟩ := rank_bd (p := p) k1 k2 ha
      obtain ⟨s0, s1⟩ := step_bd (p := p) (q := q) k1
      have HV := Lib.hid (stepOfV_is h)
      have HR := Lib.hid (rankV_is h)
      have HB := Lib.hid h
      have hsq := step_sq (p := p) k1 ha
      have HG := Lib.hid (apart_gcd.2 (step_apart (p := p) k k1 ha))
      obtain ⟨R, hR⟩ : ∃ R, rankN p q k = R := ⟨_, rfl⟩
      rw [hR] at c1 c2 HR hsq
      obtain ⟨s, hs⟩ : ∃ s, stepV p q k = s := ⟨_, rfl⟩
      rw [hs] at s0 s1 HV hsq HG
      obtain ⟨v, hv⟩ : ∃ v, q ^ R % (k : Int) = v := ⟨_, rfl⟩
      rw [hv] at hsq
      have HPV := Lib.hid hv
      obtain ⟨x1, x2⟩ := mul_bd (a := 400) (b := 400) (show -400 ≤ s by omega) (by omega) (show -400 ≤ s by omega) (by omega)
      have hpos : 0 ≤ s * s := Int.mul_nonneg s0 s0
      have U : IntKind.i64.wrap (s * s) = s * s := by rw [IntKind.wrap_i64]; omega
      have hsq2 : (s * s).tmod (k : Int) = v := by rw [Int.tmod_eq_emod_of_nonneg hpos]; exact hsq
      have hz : ((k : Int) == 0) = false := by simp; omega
      have hz' : ¬ (k : Int) = 0 := by omega
      clear h hp ha hR hs hv x1 x2
      go_wp2_with fail
      refine (implStep_is p q k _ true _ HV.out HB.out).mono ?_
      rintro e w2 ⟨rfl, hh2⟩
      obtain ⟨hc2, hf2⟩ := bcell hh2
      have hz2 := hh2.size
      try simp only [World.size_alloc] at hz2
      have hz2_0 : w1.heap.size < w2.heap.size := by omega
      have kb2_0_0 : w2.cell? ⟨w1.heap.size, 0, none⟩ = some (.int .i64 p) := by go_simp
      have kf2_0_0 : w2.frozen? ⟨w1.heap.size, 0, none⟩ = false := by go_simp
      have kb2_0_1 : w2.cell? ⟨w1.heap.size, 1, none⟩ = some (.int .i64 q) := by go_simp
      have kf2_0_1 : w2.frozen? ⟨w1.heap.size, 1, none⟩ = false := by go_simp
      clear hc2 hf2
      go_wp2_with fail
      refine (specStep_is p q k _ true _ HV.out HB.out).mono ?_
      rintro e w3 ⟨rfl, hh3⟩
      obtain ⟨hc3, hf3⟩ := bcell hh3
      have hz3 := hh3.size
      try simp only [World.size_alloc] at hz3
      have hz3_0 : w1.heap.size < w3.heap.size := by omega
      have kb3_0_0 : w3.cell? ⟨w1.heap.size, 0, none⟩ = some (.int .i64 p) := by go_simp
      have kf3_0_0 : w3.frozen? ⟨w1.heap.size, 0, none⟩ = false := by go_simp
      have kb3_0_1 : w3.cell? ⟨w1.heap.size, 1, none⟩ = some (.int .i64 q) := by go_simp
      have kf3_0_1 : w3.frozen? ⟨w1.heap.size, 1, none⟩ = false := by go_simp
      clear hc3 hf3
      go_wp2_with fail
      refine (implRank_is p q k _ true _ HR.out HB.out).mono ?_
      rintro e w4 ⟨rfl, hh4⟩
      obtain ⟨hc4, hf4⟩ := bcell hh4
      have hz4 := hh4.size
      try simp only [World.size_alloc] at hz4
      have hz4_0 : w1.heap.size < w4.heap.size := by omega
      have kb4_0_0 : w4.cell? ⟨w1.heap.size, 0, none⟩ = some (.int .i64 p) := by go_simp
      have kf4_0_0 : w4.frozen? ⟨w1.heap.size, 0, none⟩ = false := by go_simp
      have kb4_0_1 : w4.cell? ⟨w1.heap.size, 1, none⟩ = some (.int .i64 q) := by go_simp
      have kf4_0_1 : w4.frozen? ⟨w1.heap.size, 1, none⟩ = false := by go_simp
      clear hc4 hf4
      go_wp2_with fail
      go_loop [11, 12, 13] (fun x y _ => ∃ c d : Int, x = .int .i64 c ∧ y = .int .i64 d ∧ 0 ≤ c ∧ 0 ≤ d ∧ Int.gcd c d = 1) (fun _ y _ => (intOf y).natAbs)
      case atStart => exact ⟨k, s, rfl, rfl, by omega, s0, HG.out⟩
      case round =>
        obtain ⟨c, d, rfl, rfl, c0, d0, hg⟩ := hrel
        by_cases hd0 : 0 < d
        · have HG2 := Lib.hid hg
          have hzd : (d == 0) = false := by simp; omega
          have et : c.tmod d = c % d := Int.tmod_eq_emod_of_nonneg c0
          have e1 := Int.emod_nonneg c (show d ≠ 0 by omega)
          have e2 := Int.emod_lt_of_pos c hd0
          have HE := Lib.hid (show Int.gcd d (c % d) = 1 by rw [← et]; exact (gcd_rem c d).trans HG2.out)
          clear hg
          go_wp2
          go_round
          case rel => exact ⟨d, c % d, rfl, rfl, by omega, e1, HE.out⟩
          case measure => simp [intOf]; omega
        · obtain rfl : d = 0 := by omega
          obtain rfl : c = 1 := by rw [Int.gcd_zero_right] at hg; omega
          clear hg
          obtain ⟨S, hSd⟩ : ∃ S : World → Prop, (fun V => Below w4.heap.size w4 V) = S := ⟨_, rfl⟩
          have hkeep : ∀ V V' : World, S V → Below V.heap.size V V' → S V' := by rw [← hSd]; exact fun V V' h hb => h.trans (hb.mono h.size)
          have gk0 : ∀ iq : KeptBy S, iq.world.cell? ⟨w1.heap.size, 0, none⟩ = some (.int .i64 p) := by rw [← hSd]; exact fun iq => cell_below iq.ok kb4_0_0
          have gk1 : ∀ iq : KeptBy S, iq.world.cell? ⟨w1.heap.size, 1, none⟩ = some (.int .i64 q) := by rw [← hSd]; exact fun iq => cell_below iq.ok kb4_0_1
          have gkn : Nonempty (KeptBy S) := ⟨⟨w4.drew, by rw [← hSd]; exact (Below.refl _ _).drew⟩⟩
          go_wp2_with fail
          refine wp_region_kept (S := S) (by rw [← hSd]; exact (Below.refl _ _).drew) (by kernel_rfl) (by kernel_rfl) ?_
          repeat (go_big_quiet_step ((first | (go_at_call 16; refine (implPowerLeft_at q k R v _ _ rfl (by omega) (by omega) (by omega) (by omega) (by omega) HPV.out).mono ?_; rintro e w' ⟨rfl, hhw⟩; exact ⟨rfl, ⟨w', hkeep _ _ (KeptBy.ok _) hhw⟩, rfl⟩) | fail)))
          refine wpQuiet_nil ?_
          rintro wz ⟨iz, hwz⟩
          have bwz : Below w4.heap.size w4 wz := by
            have this : S wz := by rw [hwz]; exact iz.ok
            rw [← hSd] at this
            exact this
          clear hwz iz gkn hkeep hSd gk0 gk1
          go_wp2
          go_ret
          exact ⟨rfl, by (repeat (first | exact Below.refl _ _ | refine Below.setCell ?_ (by first | omega | (simp <;> omega)) _ | refine Below.alloc ?_ (by first | omega | (simp <;> omega)) _ | refine Below.drew ?_ | refine Below.trans ?_ (Below.mono (by assumption) (by first | omega | (simp <;> omega))) | refine Below.grown ?_ (by assumption) (by first | omega | (simp <;> omega)) (fun k e => by cases e; first | omega | (simp <;> omega))))⟩
end Go.Proofs.Ytpogmnkedohdcaa
namespace Go.Proofs.Ytpogmnkedohdcaa
open Go.RowKit
set_option maxRecDepth 100000 in
set_option maxHeartbeats 8000000 in
theorem fnShiftedOf_walk (a : Option Addr) (len cap : Nat) (z : List Int) (w : World) (w0 : IsRow w a len cap z) :
    Calls Try.prog 7 #[.slice a len cap] w fun e w' => e = .returned (.bool true) ∧ Below w.heap.size w w' := by
  by_cases hbig : 1048576 < len
  · go_enter Try.func7, Try.ntmps7
    go_wp2
    go_ret
    exact ⟨rfl, Below.refl _ _⟩
  · have hsm : len ≤ 1048576 := by omega
    go_enter Try.func7, Try.ntmps7
    go_wp2_with fail
    refine (drawShiftedOf_any _ _ _ _ z w0).mono ?_
    rintro e w1 ⟨p, q, n, m, rfl, hh1⟩
    have hz1 := hh1.size
    obtain ⟨hc1, hf1⟩ := bcell hh1
    cases h : shiftedB p q n m with
    | false =>
      have HV := Lib.hid (shiftedV_no h)
      clear h
      go_wp2_with fail
      refine (implShifted_is p q _ _ _ _ HV.out).mono ?_
      rintro e w2 ⟨rfl, hh2⟩
      obtain ⟨hc2, hf2⟩ := bcell hh2
      have hz2 := hh2.size
      try simp only [World.size_alloc] at hz2
      have hz2_0 : w1.heap.size < w2.heap.size := by omega
      have kb2_0_0 : w2.cell? ⟨w1.heap.size, 0, none⟩ = some (.int .i64 p) := by go_simp
      have kf2_0_0 : w2.frozen? ⟨w1.heap.size, 0, none⟩ = false := by go_simp
      have kb2_0_1 : w2.cell? ⟨w1.heap.size, 1, none⟩ = some (.int .i64 q) := by go_simp
      have kf2_0_1 : w2.frozen? ⟨w1.heap.size, 1, none⟩ = false := by go_simp
      clear hc2 hf2
      go_wp2_with fail
      refine (specShifted_is p q _ _ _ _ HV.out).mono ?_
      rintro e w3 ⟨rfl, hh3⟩
      obtain ⟨hc3, hf3⟩ := bcell hh3
      have hz3 := hh3.size
      try simp only [World.size_alloc] at hz3
      have hz3_0 : w1.heap.size < w3.heap.size := by omega
      have kb3_0_0 : w3.cell? ⟨w1.heap.size, 0, none⟩ = some (.int .i64 p) := by go_simp
      have kf3_0_0 : w3.frozen? ⟨w1.heap.size, 0, none⟩ = false := by go_simp
      have kb3_0_1 : w3.cell? ⟨w1.heap.size, 1, none⟩ = some (.int .i64 q) := by go_simp
      have kf3_0_1 : w3.frozen? ⟨w1.heap.size, 1, none⟩ = false := by go_simp
      clear hc3 hf3
      go_wp2_with fail
      refine (alive_any _).mono ?_
      rintro e w4 ⟨rfl, hh4⟩
      obtain ⟨hc4, hf4⟩ := bcell hh4
      have hz4 := hh4.size
      try simp only [World.size_alloc] at hz4
      clear hc4 hf4
      go_wp2
      go_ret
      exact ⟨rfl, by (repeat (first | exact Below.refl _ _ | refine Below.setCell ?_ (by first | omega | (simp <;> omega)) _ | refine Below.alloc ?_ (by first | omega | (simp <;> omega)) _ | refine Below.drew ?_ | refine Below.trans ?_ (Below.mono (by assumption) (by first | omega | (simp <;> omega))) | refine Below.grown ?_ (by assumption) (by first | omega | (simp <;> omega)) (fun k e => by cases e; first | omega | (simp <;> omega))))⟩
    | true =>
      have h' : rankB p q m = true ∧ inB n 0 1000000000 = true := by simpa [shiftedB] using h
      obtain ⟨hr, hn⟩ := h'
      obtain ⟨n1, n2⟩ := inB_true hn
      obtain ⟨hp, _, _, _, k, rfl, k1, k2, ha⟩ := rankB_true hr
      obtain ⟨i, rfl⟩ := Int.eq_ofNat_of_zero_le n1
      have HP := Lib.hid hp
      obtain ⟨v, hv⟩ : ∃ v, row p q 0 1 i % (k : Int) = v := ⟨_, rfl⟩
      have HV := Lib.hid (show shiftedV p q i k = v by rw [shiftedV, if_pos h]; exact hv)
      have v0 : 0 ≤ v := by rw [← hv]; exact (left_bd _ _ (by omega)).1
      have HF := Lib.hid hv
      clear h hr hn hp ha hv
      go_wp2_with fail
      refine (implShifted_is p q _ _ _ _ HV.out).mono ?_
      rintro e w2 ⟨rfl, hh2⟩
      obtain ⟨hc2, hf2⟩ := bcell hh2
      have hz2 := hh2.size
      try simp only [World.size_alloc] at hz2
      have hz2_0 : w1.heap.size < w2.heap.size := by omega
      have kb2_0_0 : w2.cell? ⟨w1.heap.size, 0, none⟩ = some (.int .i64 p) := by go_simp
      have kf2_0_0 : w2.frozen? ⟨w1.heap.size, 0, none⟩ = false := by go_simp
      have kb2_0_1 : w2.cell? ⟨w1.heap.size, 1, none⟩ = some (.int .i64 q) := by go_simp
      have kf2_0_1 : w2.frozen? ⟨w1.heap.size, 1, none⟩ = false := by go_simp
      clear hc2 hf2
      go_wp2_with fail
      refine (specShifted_is p q _ _ _ _ HV.out).mono ?_
      rintro e w3 ⟨rfl, hh3⟩
      obtain ⟨hc3, hf3⟩ := bcell hh3
      have hz3 := hh3.size
      try simp only [World.size_alloc] at hz3
      have hz3_0 : w1.heap.size < w3.heap.size := by omega
      have kb3_0_0 : w3.cell? ⟨w1.heap.size, 0, none⟩ = some (.int .i64 p) := by go_simp
      have kf3_0_0 : w3.frozen? ⟨w1.heap.size, 0, none⟩ = false := by go_simp
      have kb3_0_1 : w3.cell? ⟨w1.heap.size, 1, none⟩ = some (.int .i64 q) := by go_simp
      have kf3_0_1 : w3.frozen? ⟨w1.heap.size, 1, none⟩ = false := by go_simp
      clear hc3 hf3
      go_wp2_with fail
      refine (implFarFirst_at p q k i v _ _ rfl HP.out (by omega) (by omega) (by omega) HF.out).mono ?_
      rintro e w4 ⟨rfl, hh4⟩
      obtain ⟨hc4, hf4⟩ := bcell hh4
      have hz4 := hh4.size
      try simp only [World.size_alloc] at hz4
      have hz4_0 : w1.heap.size < w4.heap.size := by omega
      have kb4_0_0 : w4.cell? ⟨w1.heap.size, 0, none⟩ = some (.int .i64 p) := by go_simp
      have kf4_0_0 : w4.frozen? ⟨w1.heap.size, 0, none⟩ = false := by go_simp
      have kb4_0_1 : w4.cell? ⟨w1.heap.size, 1, none⟩ = some (.int .i64 q) := by go_simp
      have kf4_0_1 : w4.frozen? ⟨w1.heap.size, 1, none⟩ = false := by go_simp
      clear hc4 hf4
      go_wp2_with fail
      refine (alive_any _).mono ?_
      rintro e w5 ⟨rfl, hh5⟩
      obtain ⟨hc5, hf5⟩ := bcell hh5
      have hz5 := hh5.size
      try simp only [World.size_alloc] at hz5
      clear hc5 hf5
      go_wp2
      go_ret
      exact ⟨rfl, by (repeat (first | exact Below.refl _ _ | refine Below.setCell ?_ (by first | omega | (simp <;> omega)) _ | refine Below.alloc ?_ (by first | omega | (simp <;> omega)) _ | refine Below.drew ?_ | refine Below.trans ?_ (Below.mono (by assumption) (by first | omega | (simp <;> omega))) | refine Below.grown ?_ (by assumption) (by first | omega | (simp <;> omega)) (fun k e => by cases e; first | omega | (simp <;> omega))))⟩
end Go.Proofs.Ytpogmnkedohdcaa
namespace Go.Proofs.Ytpogmnkedohdcaa
open Go.RowKit
set_option maxHeartbeats 1000000 in
theorem fnExactShiftedOf_walk (a b n m : Int) (w : World) (_ : (Lit.int .i64 a).wf = true) (_ : (Lit.int .i64 b).wf = true) (_ : (Lit.int .i64 n).wf = true) (_ : (Lit.int .i64 m).wf = true) :
    Calls Try.prog 9 #[pr a b, .int .i64 n, .int .i64 m] w fun e w' => e = .returned (.bool true) ∧ Below w.heap.size w w' := by
  go_enter Try.func9, Try.ntmps9
  go_wp2_with fail
  refine (toPair_any _ _ _).mono ?_
  rintro e w1 ⟨rfl, hh1⟩
  obtain ⟨hc1, hf1⟩ := bcell hh1
  have hz1 := hh1.size
  try simp only [World.size_alloc] at hz1
  have hz1_0 : w.heap.size < w1.heap.size := by omega
  have kb1_0_0 : w1.cell? ⟨w.heap.size, 0, none⟩ = some (.int .i64 a) := by go_simp
  have kf1_0_0 : w1.frozen? ⟨w.heap.size, 0, none⟩ = false := by go_simp
  have kb1_0_1 : w1.cell? ⟨w.heap.size, 1, none⟩ = some (.int .i64 b) := by go_simp
  have kf1_0_1 : w1.frozen? ⟨w.heap.size, 1, none⟩ = false := by go_simp
  clear hc1 hf1
  go_wp2_with fail
  refine (specShifted_any _ _ _ _ _).mono ?_
  rintro e w2 ⟨rfl, hh2⟩
  obtain ⟨hc2, hf2⟩ := bcell hh2
  have hz2 := hh2.size
  try simp only [World.size_alloc] at hz2
  have hz2_0 : w.heap.size < w2.heap.size := by omega
  have kb2_0_0 : w2.cell? ⟨w.heap.size, 0, none⟩ = some (.int .i64 a) := by go_simp
  have kf2_0_0 : w2.frozen? ⟨w.heap.size, 0, none⟩ = false := by go_simp
  have kb2_0_1 : w2.cell? ⟨w.heap.size, 1, none⟩ = some (.int .i64 b) := by go_simp
  have kf2_0_1 : w2.frozen? ⟨w.heap.size, 1, none⟩ = false := by go_simp
  clear hc2 hf2
  go_wp2_with fail
  refine (toPair_any _ _ _).mono ?_
  rintro e w3 ⟨rfl, hh3⟩
  obtain ⟨hc3, hf3⟩ := bcell hh3
  have hz3 := hh3.size
  try simp only [World.size_alloc] at hz3
  have hz3_0 : w.heap.size < w3.heap.size := by omega
  have kb3_0_0 : w3.cell? ⟨w.heap.size, 0, none⟩ = some (.int .i64 a) := by go_simp
  have kf3_0_0 : w3.frozen? ⟨w.heap.size, 0, none⟩ = false := by go_simp
  have kb3_0_1 : w3.cell? ⟨w.heap.size, 1, none⟩ = some (.int .i64 b) := by go_simp
  have kf3_0_1 : w3.frozen? ⟨w.heap.size, 1, none⟩ = false := by go_simp
  clear hc3 hf3
  go_wp2_with fail
  refine (implShifted_any _ _ _ _ _).mono ?_
  rintro e w4 ⟨rfl, hh4⟩
  obtain ⟨hc4, hf4⟩ := bcell hh4
  have hz4 := hh4.size
  try simp only [World.size_alloc] at hz4
  have hz4_0 : w.heap.size < w4.heap.size := by omega
  have kb4_0_0 : w4.cell? ⟨w.heap.size, 0, none⟩ = some (.int .i64 a) := by go_simp
  have kf4_0_0 : w4.frozen? ⟨w.heap.size, 0, none⟩ = false := by go_simp
  have kb4_0_1 : w4.cell? ⟨w.heap.size, 1, none⟩ = some (.int .i64 b) := by go_simp
  have kf4_0_1 : w4.frozen? ⟨w.heap.size, 1, none⟩ = false := by go_simp
  clear hc4 hf4
  go_wp2
  go_ret
  exact ⟨rfl, by (repeat (first | exact Below.refl _ _ | refine Below.setCell ?_ (by first | omega | (simp <;> omega)) _ | refine Below.alloc ?_ (by first | omega | (simp <;> omega)) _ | refine Below.drew ?_ | refine Below.trans ?_ (Below.mono (by assumption) (by first | omega | (simp <;> omega))) | refine Below.grown ?_ (by assumption) (by first | omega | (simp <;> omega)) (fun k e => by cases e; first | omega | (simp <;> omega))))⟩
end Go.Proofs.Ytpogmnkedohdcaa
