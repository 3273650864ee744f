/- The program's row: an iterator without end, that yields a row number by number from its two first numbers on. -/
import Derived.Test.YtennicmmjbfljaaRowsModel
import Derived.Test.YtennicmmjbfljaaRange
import Derived.Shelf.Abstract
import Derived.Shelf.RegionOpen
import Derived.OwnWalkIn
import Derived.TacticsInMore
import Derived.LoopNIn
import Derived.LoopIn
import Derived.Sort.LoopGhostIn
import Derived.Sort.QuietIn
namespace Go.Proofs.Ytennicmmjbfljaa
open Go.RowKit Go.Shelf
attribute [local go_sem] Oper.semAt_some
/-- What the iterator reads: the boxes of p, of the first and of the second number. -/
def RowBoxes (B : Nat) (p q a b : Int) (W : World) : Prop :=
  W.cell? ⟨B, 0, none⟩ = some (.int .i64 p) ∧ W.cell? ⟨B, 1, none⟩ = some (.int .i64 q) ∧ W.cell? ⟨B + 1, 0, none⟩ = some (.int .i64 a) ∧ W.cell? ⟨B + 1 + 1, 0, none⟩ = some (.int .i64 b)
theorem abides_drew {J : Nat → World → Prop} {B : Nat} (hJ : AbidesFrom B J) {k : Nat} {W : World} (h : J k W) (n : Nat) : J k (W.drewN n) :=
  hJ k W _ none h ⟨rfl, rfl, rfl, Nat.le_refl _, fun _ _ _ => rfl⟩ (fun _ e => by cases e)
set_option maxHeartbeats 4000000 in
theorem rowFrom_endless (n : Nat) (hn : 1 ≤ n) (p q a b : Int) (B N : Nat) (w : World) (h1 : -4 ≤ p) (h2 : p ≤ 4) (h3 : -4 ≤ q) (h4 : q ≤ 4) (h5 : -4 ≤ a) (h6 : a ≤ 4) (h7 : -4 ≤ b) (h8 : b ≤ 4) (hN : N ≤ 21) :
    Endless Fence.wide n Try.prog 64 #[.pointer (some ⟨B + 1, 0, none⟩), .pointer (some ⟨B + 1 + 1, 0, none⟩), .pointer (some ⟨B, 0, none⟩)] (fun k => #[.int .i64 (row p q a b k)]) (RowBoxes B p q a b) N w := by
  intro l J X W hW hJ hX hKp hY hN0 h0
  obtain ⟨c1, c2, c3, c4⟩ := hKp 0 W h0
  refine callsIn_of_wp Try.func64 rfl trivial ?_ rfl
  simp only [Try.ntmps64, List.size_toArray, List.length_cons, List.length_nil, Nat.reduceAdd, Nat.reduceSub, Array.replicate_succ, Array.replicate_zero, List.push_toArray, List.append_toArray, List.nil_append, List.cons_append]
  gi_wp2
  gi_quiet (fail)
  rename_i nq
  have h0' := abides_drew hJ h0 nq
  clear h0 c1 c2 c3 c4
  gi_wp2
  gi_loopg [5, 6] N (fun r x y wr => ∃ k, k + r = N ∧ k < N ∧ x = .int .i64 (row p q a b k) ∧ y = .int .i64 (row p q a b (k + 1)) ∧ J k wr)
  case atStart => exact ⟨0, by omega, hN0, rfl, rfl, h0'⟩
  case round =>
    obtain ⟨k, hkr, hk, rfl, rfl, hj⟩ := hrel
    obtain ⟨c1, c2, _, _⟩ := hKp k wr hj
    obtain ⟨fn, tmps, assign, body, hy, hR⟩ := hY k wr hk hj
    gi_wp2
    refine hR.mono ?_
    rintro e W3 (⟨rfl, hlt, hj3⟩ | ⟨rfl, hx3⟩)
    · obtain ⟨d1, d2, _, _⟩ := hKp (k + 1) W3 hj3
      obtain ⟨⟨x1, x2⟩, x3, x4⟩ := row_next (a := a) (b := b) h1 h2 h3 h4 h5 h6 h7 h8 k (by omega)
      have U3 := Lib.hid (row_step p q a b k)
      gi_wp2
      gi_quiet (fail)
      rename_i nq
      have hj4 := abides_drew hJ hj3 nq
      gi_wp2
      gi_roundg (gk - 1)
      case measure => omega
      case rel => exact ⟨k + 1, by omega, hlt, rfl, by rw [← U3.out], hj4⟩
    · gi_wp2
      go_end0
      exact ⟨⟨_, rfl⟩, k, hk, hx3⟩
end Go.Proofs.Ytennicmmjbfljaa
