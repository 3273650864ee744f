/- PowerLeft of the program: what it returns. -/
import Derived.Test.YtgcpmgddlaeccaaLeftAt
import Derived.Deep.DeepCutAuto
namespace Go.Proofs.Ytgcpmgddlaeccaa
open Go.RowKit Go.Shelf
attribute [local go_sem] Oper.semAt_some
theorem pow_twice (a m : Int) (g : Nat) : a ^ g % m * (a ^ g % m) % m = a ^ (2 * g) % m := by
  refine Eqm.left ?_
  rw [Nat.two_mul, Int.pow_add]
  exact (eqm_left m _).mul (eqm_left m _)
theorem pow_next (a m : Int) (g : Nat) : a ^ g % m * (a % m) % m = a ^ (g + 1) % m := by
  refine Eqm.left ?_
  rw [Int.pow_succ]
  exact (eqm_left m _).mul (eqm_left m _)
/-- What lies in the function's boxes between two bits. -/
def PowBoxes (B b c H : Nat) (a m x : Int) (k : Nat) (W : World) : Prop :=
  W.cell? ⟨B, 0, none⟩ = some (.int .i64 m) ∧ W.cell? ⟨b, 0, none⟩ = some (.int .i64 (a % m)) ∧ (W.cell? ⟨c, 0, none⟩ = some (.int .i64 x) ∧ W.frozen? ⟨c, 0, none⟩ = false) ∧ W.cell? ⟨H, 0, none⟩ = some (.int .i64 k)
theorem PowBoxes.set {B b c H : Nat} {a m x : Int} {k : Nat} {W : World} (h : PowBoxes B b c H a m x k W) (h1 : B ≠ c) (h2 : b ≠ c) (h3 : H ≠ c) (y : Int) : PowBoxes B b c H a m y k (W.setCell ⟨c, 0, none⟩ (.int .i64 y)) :=
  ⟨(set_other h1).trans h.1, (set_other h2).trans h.2.1, ⟨set_same h.2.2.1.1, set_frozen h.2.2.1.2⟩, (set_other h3).trans h.2.2.2⟩
theorem PowBoxes.kept {B b c H : Nat} {a m x : Int} {k : Nat} {A V : World} {row : Option Nat} (h : PowBoxes B b c H a m x k A) (hg : A.grownBy V row) (hr : ∀ r, row = some r → ∃ o : Obj, A.heap[r]? = some o ∧ o.isCells = false) : PowBoxes B b c H a m x k V :=
  ⟨cell_kept h.1 hg hr, cell_kept h.2.1 hg hr, ⟨cell_kept h.2.2.1.1 hg hr, (frozen_kept h.2.2.1.1 hg hr).trans h.2.2.1.2⟩, cell_kept h.2.2.2 hg hr⟩
set_option maxRecDepth 100000 in
set_option maxHeartbeats 4000000 in
theorem implPowerLeft_yes (a m : Int) (k : Nat) (w : World) (ha1 : -10000 ≤ a) (ha2 : a ≤ 10000) (hk : k ≤ 1000000000) (m1 : 1 ≤ m) (m2 : m ≤ 10000) :
    Calls Try.prog 21 #[.int .i64 a, .int .i64 k, .int .i64 m] w fun e w' => e = .returned (.int .i64 (a ^ k % m)) ∧ Below w.heap.size w w' := by
  have HA := Lib.hid (inB_mk (n := (k : Int)) (a := 0) (b := 1000000000) (by omega) (by omega))
  have HB := Lib.hid (inB_mk (n := m) (a := 1) (b := 10000) m1 m2)
  have m3 : m ≤ 1000000000000 := by omega
  have hz : (m == 0) = false := by simp; omega
  refine (callsIn_wide (n := 9)).1 ?_
  refine callsIn_of_wp_marks Try.func21 rfl trivial ?_ rfl
  simp only [Try.ntmps21, List.size_toArray, List.length_cons, List.length_nil, Nat.reduceAdd, Nat.reduceSub, Array.replicate_succ, Array.replicate_zero, List.push_toArray, List.append_toArray, List.nil_append, List.cons_append]
  refine wpIn_wide.2 ?_
  go_wp2_with fail
  refine (farOk_is _ true _ HA.out).mono ?_
  rintro e wx ⟨rfl, rfl⟩
  go_wp2_with fail
  refine (byOk_is _ true _ HB.out).mono ?_
  rintro e wx ⟨rfl, rfl⟩
  go_upto_region 3 with fail
  go_cut [7, 8] from 10 (fun s7 s8 wx => ∃ b c : Nat, s7 = .pointer (some ⟨b, 0, none⟩) ∧ s8 = .pointer (some ⟨c, 0, none⟩) ∧ (b ≠ c ∧ w.heap.size < b ∧ w.heap.size < c) ∧ (wx.cell? ⟨w.heap.size, 0, none⟩ = some (.int .i64 m)) ∧ (wx.cell? ⟨b, 0, none⟩ = some (.int .i64 (a % m))) ∧ (wx.cell? ⟨c, 0, none⟩ = some (.int .i64 (1 % m)) ∧ wx.frozen? ⟨c, 0, none⟩ = false) ∧ Below w.heap.size w wx)
  case first =>
    go_region_held3 (fun w' => w'.cell? ⟨w.heap.size, 0, none⟩ = some (.int .i64 m))
      (first | go_keep | (go_split_ands; exact ⟨kx0⟩))
      ((first | (go_at_call 46; refine (leftOf_at _ m _ _ m1 m3 rfl).mono ?_; rintro e w2 ⟨rfl, rfl⟩) | fail))
    all_goals (go_wp2_with fail; go_meet)
    all_goals first
      | exact ⟨w.heap.size + 1, w.heap.size + 1 + 1, rfl, rfl, ⟨by omega, by omega, by omega⟩, by go_simp, by go_simp, ⟨by go_simp, by go_simp⟩, by (repeat (first | exact Below.refl _ _ | refine Below.setCell ?_ (by first | omega | (simp <;> omega)) _ | refine Below.alloc ?_ (by first | omega | (simp <;> omega)) _ | refine Below.drew ?_ | refine Below.trans ?_ (Below.mono (by assumption) (by first | omega | (simp <;> omega))) | refine Below.grown ?_ (by assumption) (by first | omega | (simp <;> omega)) (fun k e => by cases e; first | omega | (simp <;> omega))))⟩
      | exact ⟨w.heap.size + 1 + 1, w.heap.size + 1, rfl, rfl, ⟨by omega, by omega, by omega⟩, by go_simp, by go_simp, ⟨by go_simp, by go_simp⟩, by (repeat (first | exact Below.refl _ _ | refine Below.setCell ?_ (by first | omega | (simp <;> omega)) _ | refine Below.alloc ?_ (by first | omega | (simp <;> omega)) _ | refine Below.drew ?_ | refine Below.trans ?_ (Below.mono (by assumption) (by first | omega | (simp <;> omega))) | refine Below.grown ?_ (by assumption) (by first | omega | (simp <;> omega)) (fun k e => by cases e; first | omega | (simp <;> omega))))⟩
  case rest =>
    obtain ⟨b, c, rfl, rfl, ⟨n1, n2, n3⟩, k1, k2, ⟨k3, k4⟩, hB⟩ := hcut
    obtain ⟨W1, hW1⟩ : ∃ W1, W1 = wc := ⟨_, rfl⟩
    subst hW1
    go_wp2_with fail
    refine (bitsOf_any _ _).mono ?_
    rintro e w2 ⟨rfl, rfl⟩
    go_wp2_with fail
    refine (wpIn_wide (n := 9)).1 ?_
    have lb := World.block_lt_of_cell? _ _ k2
    have lc := World.block_lt_of_cell? _ _ k3
    have lB := World.block_lt_of_cell? _ _ k1
    dsimp only at lb lc lB
    refine wpIn_rangeFunc_counted (P := Try.prog) rfl (by omega) (gf := 56) (lb := #[.pointer (some ⟨W1.heap.size, 0, none⟩)]) rfl trivial (enters_of Try.func56 (by kernel_rfl) rfl)
      (bitsOf_counted 8 (by omega) k W1.heap.size _ hk) (Below.refl _ _) (fun _ => rfl)
      (fun j W => PowBoxes w.heap.size b c W1.heap.size a m (a ^ placeBy k j % m) k W ∧ Below w.heap.size w W)
      (fun _ _ _ => False) ?own (fun _ _ _ _ _ h _ _ => h) (fun j V h => h.1.2.2.2) ?start
      (fun j => { tmps := #[.int .i64 a, .int .i64 k, .int .i64 m, undef, undef, .pointer (some ⟨w.heap.size, 0, none⟩), .int .i64 0, .pointer (some ⟨b, 0, none⟩), .pointer (some ⟨c, 0, none⟩), .bool (bitB k j), u10, u11, u12, u13, u14, u15, u16, u17, u18, u19, u20, u21, u22, u23, u24, u25, u26, u27, u28, u29, u30, .int .i64 k, .func (.func 56) #[] #[.pointer (some ⟨W1.heap.size, 0, none⟩)], .bool (bitB k j), u34, u35, u36, u37, u38, u39, u40, u41, u42, u43, u44, u45], defers := [] })
      ?assign ?body ?done (fun _ _ _ _ _ _ h _ => h.elim)
    case own =>
      rintro j A V row ⟨x0, x2⟩ hg hr
      have hr' := fun r e => (hr r e).2
      exact ⟨x0.kept hg hr', x2.grown hg x2.size (fun k e => by have h9 := (hr k e).1; have h8 := hB.size; simp at h9; omega)⟩
    case start =>
      rw [placeBy_zero k hk, Int.pow_zero]
      have hL : Below W1.heap.size W1 (W1.alloc (.cells #[.int .i64 k] 3)) := by
        (repeat (first | exact Below.refl _ _ | refine Below.setCell ?_ (by first | omega | (simp <;> omega)) _ | refine Below.alloc ?_ (by first | omega | (simp <;> omega)) _ | refine Below.drew ?_ | refine Below.trans ?_ (Below.mono (by assumption) (by first | omega | (simp <;> omega))) | refine Below.grown ?_ (by assumption) (by first | omega | (simp <;> omega)) (fun k e => by cases e; first | omega | (simp <;> omega))))
      exact ⟨⟨cell_below hL k1, cell_below hL k2, ⟨cell_below hL k3, frozen_below hL k3 k4⟩, by go_simp⟩, hB.trans (hL.mono hB.size)⟩
    case assign =>
      intro l j W K hK
      gi_wp2
      exact hK
    case body =>
      rintro l j W hj ⟨hbx, hW⟩
      have hs := placeBy_succ k j hj
      obtain ⟨g, hg⟩ : ∃ g, placeBy k j = g := ⟨_, rfl⟩
      rw [hg] at hbx hs
      clear hg
      obtain ⟨a1, a2⟩ := left_bd (a ^ g) m m1
      obtain ⟨b1, b2⟩ := left_bd a m m1
      obtain ⟨d1, d2⟩ := left_bd (a ^ (2 * g)) m m1
      have HX : ∃ x, x = a ^ g % m := ⟨_, rfl⟩
      obtain ⟨x, hx⟩ := HX
      obtain ⟨y, hy⟩ : ∃ y, y = a ^ (2 * g) % m := ⟨_, rfl⟩
      obtain ⟨z, hz'⟩ : ∃ z, z = a % m := ⟨_, rfl⟩
      have e1 : x * x % m = y := by rw [hx, hy]; exact pow_twice a m g
      have e2 : y * z % m = a ^ (2 * g + 1) % m := by rw [hz', hy]; exact pow_next a m (2 * g)
      rw [← hx] at a1 a2 hbx
      clear d1 d2
      obtain ⟨d1, d2⟩ := left_bd (x * x) m m1
      rw [← e1] at e2
      rw [← hz'] at b1 b2
      obtain ⟨v0, v1⟩ := mul_pos_bd a1 a2 a1 a2 m2
      obtain ⟨v2, v3⟩ := mul_pos_bd d1 d2 b1 b2 m2
      have HBX := Lib.hid hbx
      have HW := Lib.hid hW
      have HS := Lib.hid hs
      have E1 := Lib.hid e1
      have E2 := Lib.hid e2
      have HY := Lib.hid hy
      obtain ⟨x1, x2, ⟨x3, x4⟩, _⟩ := hbx
      rw [← hz'] at x2
      have HZ := Lib.hid hz'
      clear hW hs e1 e2 hx hy hz' k1 k2 k3 k4 hB
      have o1 : ¬ w.heap.size = c := by omega
      have o2 : ¬ b = c := n1
      cases hbit : bitB k j with
      | false =>
        gi_wp2
        rw [E1.out]
        refine ⟨KeepsOthers.setCell _ _ _, ?_, HW.out.setCell (by show w.heap.size ≤ c; omega) _⟩
        rw [HS.out, hbit]
        exact HY.out ▸ HBX.out.set (by omega) n1 (by omega) y
      | true =>
        gi_wp2
        rw [E2.out]
        refine ⟨(KeepsOthers.setCell _ _ _).trans (KeepsOthers.setCell _ _ _), ?_, (HW.out.setCell (by show w.heap.size ≤ c; omega) _).setCell (by show w.heap.size ≤ c; omega) _⟩
        rw [HS.out, hbit]
        exact (HBX.out.set (by omega) n1 (by omega) _).set (by omega) n1 (by omega) _
    case done =>
      rintro D W hD ⟨hbx, hW⟩ hK
      rw [placeBy_all] at hbx
      obtain ⟨_, _, ⟨x3, _⟩, _⟩ := hbx
      go_wp2
      refine ⟨by simp, .inl ⟨_, _, rfl, run_takeDeferred hK, ?_⟩⟩
      have hD' : w.heap.size ≤ D := by simp at hD; omega
      exact ⟨_, results_tmp rfl _ _ _, rfl, hW.grown (grownBy_putObj' W D (.deferred none)) hW.size (fun k e => by cases e; exact hD')⟩
end Go.Proofs.Ytgcpmgddlaeccaa
