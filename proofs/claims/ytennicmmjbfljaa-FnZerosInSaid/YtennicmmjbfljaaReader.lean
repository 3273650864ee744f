/- The reader of a code: each pick returns a number within its bound, whatever the code is; it writes its own block alone. -/
import Derived.Test.YtennicmmjbfljaaPairMore
import Derived.Deep.QuietTactic
import Derived.BigQuiet
import Derived.IntWalk
namespace Go.Proofs.Ytennicmmjbfljaa
open Go.RowKit
theorem cells_of_cell' {W : World} {a : Addr} {v : Value} (h : W.cell? a = some v) : ∃ o : Obj, W.heap[a.block]? = some o ∧ True := by
  unfold World.cell? at h
  cases ho : W.heap[a.block]? with
  | none => simp [ho] at h
  | some o => exact ⟨o, rfl, trivial⟩
/-- Block R is a reader that has been asked at most k times. -/
def Rd (w : World) (R : Nat) (k : Nat) : Prop :=
  ∃ (a : Option Addr) (len cap p : Nat), w.cell? ⟨R, 0, none⟩ = some (.slice a len cap) ∧ w.cell? ⟨R, 1, none⟩ = some (.int .i64 p) ∧ w.frozen? ⟨R, 1, none⟩ = false ∧ p ≤ k ∧ len ≤ 2000 ∧
    (len = 0 ∨ ∃ b off, a = some ⟨b, off, none⟩ ∧ b < R ∧ ∀ i, i < len → ∃ x : Int, 0 ≤ x ∧ x ≤ 255 ∧ w.cell? ⟨b, off + i, none⟩ = some (.int .u8 x))
theorem Rd.mono {w : World} {R k k' : Nat} (h : Rd w R k) (hk : k ≤ k') : Rd w R k' := by
  obtain ⟨a, len, cap, p, h0, h1, hf, hp, hl, hs⟩ := h
  exact ⟨a, len, cap, p, h0, h1, hf, by omega, hl, hs⟩
theorem Rd.lt {w : World} {R k : Nat} (h : Rd w R k) : R < w.heap.size := by
  obtain ⟨a, len, cap, p, h0, _⟩ := h
  obtain ⟨o, ho, _⟩ := cells_of_cell' h0
  exact (Array.getElem?_eq_some_iff.1 ho).1
/-- A reader lies on where its block and the code's block do. -/
theorem Rd.below {w w' : World} {R k B : Nat} (h : Rd w R k) (hb : Below B w w') (hB : w.heap.size ≤ B) : Rd w' R k := by
  have hlt := h.lt
  obtain ⟨a, len, cap, p, h0, h1, hf, hp, hl, hs⟩ := h
  refine ⟨a, len, cap, p, (hb.cell (p := ⟨R, 0, none⟩) (by show R < B; omega)).trans h0, (hb.cell (p := ⟨R, 1, none⟩) (by show R < B; omega)).trans h1, (hb.frozen (p := ⟨R, 1, none⟩) (by show R < B; omega)).trans hf, hp, hl, ?_⟩
  rcases hs with hs | ⟨b, off, ha, hne, hc⟩
  · exact .inl hs
  · refine .inr ⟨b, off, ha, hne, fun i hi => ?_⟩
    obtain ⟨x, hx0, hx1, hx⟩ := hc i hi
    obtain ⟨o, ho, _⟩ := cells_of_cell' hx
    have hbl : b < w.heap.size := (Array.getElem?_eq_some_iff.1 ho).1
    exact ⟨x, hx0, hx1, (hb.cell (p := ⟨b, off + i, none⟩) (by show b < B; omega)).trans hx⟩
/-- A store into a block that lies behind the reader. -/
theorem Rd.set {w : World} {R k : Nat} (h : Rd w R k) {q : Addr} (hq : R < q.block) (u : Value) : Rd (w.setCell q u) R k := by
  obtain ⟨a, len, cap, p, h0, h1, hf, hp, hl, hs⟩ := h
  have other : ∀ b o, b ≤ R → (w.setCell q u).cell? ⟨b, o, none⟩ = w.cell? ⟨b, o, none⟩ := fun b o hb => World.cell?_setCell_other w q ⟨b, o, none⟩ u (fun e => by rw [e] at hq; exact absurd hq (by show ¬ R < b; omega))
  refine ⟨a, len, cap, p, (other R 0 (Nat.le_refl _)).trans h0, (other R 1 (Nat.le_refl _)).trans h1, by rw [World.frozen?_setCell]; exact hf, hp, hl, ?_⟩
  rcases hs with hs | ⟨b, off, ha, hne, hc⟩
  · exact .inl hs
  · refine .inr ⟨b, off, ha, hne, fun i hi => ?_⟩
    obtain ⟨x, hx0, hx1, hx⟩ := hc i hi
    exact ⟨x, hx0, hx1, (other b (off + i) (by omega)).trans hx⟩
theorem Rd.alloc {w : World} {R k : Nat} (h : Rd w R k) (o : Obj) : Rd (w.alloc o) R k := h.below ((Below.refl _ _).alloc (Nat.le_refl _) o) (Nat.le_refl _)
/-- The world behind a pick. -/
theorem Rd.asked {w : World} {R k : Nat} {a : Option Addr} {len cap p : Nat} (nq : Nat) (h0 : w.cell? ⟨R, 0, none⟩ = some (.slice a len cap)) (h1 : w.cell? ⟨R, 1, none⟩ = some (.int .i64 p)) (hf : w.frozen? ⟨R, 1, none⟩ = false) (hp : p ≤ k) (hl : len ≤ 2000)
    (hs : len = 0 ∨ ∃ b off, a = some ⟨b, off, none⟩ ∧ b < R ∧ ∀ i, i < len → ∃ x : Int, 0 ≤ x ∧ x ≤ 255 ∧ w.cell? ⟨b, off + i, none⟩ = some (.int .u8 x)) :
    Rd ((w.setCell ⟨R, 1, none⟩ (.int .i64 (p + 1))).drewN nq) R (k + 1) ∧ w.grownBy ((w.setCell ⟨R, 1, none⟩ (.int .i64 (p + 1))).drewN nq) (some R) := by
  refine ⟨⟨a, len, cap, p + 1, ?_, ?_, ?_, by omega, hl, ?_⟩, ⟨rfl, rfl, rfl, by simp [World.setCell], ?_⟩⟩
  · rw [World.cell?_drewN]; exact (World.cell?_setCell_other w ⟨R, 1, none⟩ ⟨R, 0, none⟩ _ (by simp)).trans h0
  · rw [World.cell?_drewN]; exact World.cell?_setCell_same' _ _ _ (by rw [h1]; rfl)
  · rw [World.frozen?_drewN, World.frozen?_setCell]; exact hf
  · rcases hs with hs | ⟨b, off, ha, hne, hc⟩
    · exact .inl hs
    · refine .inr ⟨b, off, ha, hne, fun i hi => ?_⟩
      obtain ⟨x, hx0, hx1, hx⟩ := hc i hi
      exact ⟨x, hx0, hx1, by rw [World.cell?_drewN]; exact (World.cell?_setCell_other w ⟨R, 1, none⟩ ⟨b, off + i, none⟩ _ (fun e => by injection e; omega)).trans hx⟩
  · intro j _ hj
    rw [World.heap_drewN]
    exact Below.heap_setCell _ _ _ _ (fun e => hj (by rw [e]))
/-- What is known behind a pick of n. -/
def Picked (w : World) (R k : Nat) (n : Int) (e : Ending) (w' : World) : Prop :=
  ∃ v : Int, e = .returned (.int .i64 v) ∧ 0 ≤ v ∧ (v < n ∨ v = 0) ∧ Rd w' R (k + 1) ∧ w.grownBy w' (some R)
theorem xor_i64 (a b : Nat) (ha : a < 4611686018427387904) (hb : b < 4611686018427387904) : bits .xor .i64 (a : Int) (b : Int) = ((a ^^^ b : Nat) : Int) ∧ a ^^^ b < 4611686018427387904 := by
  have hx : a ^^^ b < 2 ^ 62 := Nat.xor_lt_two_pow (by omega) (by omega)
  have h1 : (BitVec.ofInt 64 (a : Int)).toNat = a := by rw [BitVec.ofInt_natCast, BitVec.toNat_ofNat]; exact Nat.mod_eq_of_lt (by omega)
  have h2 : (BitVec.ofInt 64 (b : Int)).toNat = b := by rw [BitVec.ofInt_natCast, BitVec.toNat_ofNat]; exact Nat.mod_eq_of_lt (by omega)
  refine ⟨?_, by omega⟩
  show IntKind.i64.wrap ((BitVec.ofInt 64 (a : Int) ^^^ BitVec.ofInt 64 (b : Int)).toNat : Int) = _
  rw [BitVec.toNat_xor, h1, h2, IntKind.wrap_i64]
  omega
theorem mix_i64 (X : Nat) (hX : X ≤ 10000000000000) : ∃ Z : Nat, Z < 4611686018427387904 ∧ bits .xor .i64 (X : Int) ((X : Int) / 64) = (Z : Int) := by
  have h := xor_i64 X (X / 64) (by omega) (by omega)
  exact ⟨_, h.2, h.1⟩
set_option maxHeartbeats 1000000 in
theorem pick_far (R : Nat) (n : Int) (w : World) (len cap p b off : Nat) (x y : Int) (hn : 1 ≤ n) (hn2 : n ≤ 1000000000)
   (h0 : w.cell? ⟨R, 0, none⟩ = some (.slice (some ⟨b, off, none⟩) len cap)) (h1 : w.cell? ⟨R, 1, none⟩ = some (.int .i64 p)) (hf : w.frozen? ⟨R, 1, none⟩ = false) (hp : p ≤ 1000000000)
   (hlen : 0 < len) (hlen2 : len ≤ 2000) (hge : len ≤ p) (hb : b ≠ R)
   (hx0 : 0 ≤ x) (hx1 : x ≤ 255) (hx : w.cell? ⟨b, off + p % len, none⟩ = some (.int .u8 x))
   (hy0 : 0 ≤ y) (hy1 : y ≤ 255) (hy : w.cell? ⟨b, off + (p * 7 + 3) % len, none⟩ = some (.int .u8 y)) :
    Calls Try.prog 44 #[.pointer (some ⟨R, 0, none⟩), .int .i64 n] w fun e w' => ∃ v : Int, e = .returned (.int .i64 v) ∧ 0 ≤ v ∧ (v < n ∨ v = 0) ∧ ∃ nq, w' = (w.setCell ⟨R, 1, none⟩ (.int .i64 (p + 1))).drewN nq := by
  have hlz : ((len : Int) == 0) = false := by simp; omega
  have k0 : (0 : Int) ≤ (p : Int) % (len : Int) := Int.emod_nonneg _ (by omega)
  have k1 : (p : Int) % (len : Int) < (len : Int) := Int.emod_lt_of_pos _ (by omega)
  have k2 : ((p : Int) % (len : Int)).toNat = p % len := by rw [← Int.natCast_emod]; rfl
  have j0 : (0 : Int) ≤ ((p : Int) * 7 + 3) % (len : Int) := Int.emod_nonneg _ (by omega)
  have j1 : ((p : Int) * 7 + 3) % (len : Int) < (len : Int) := Int.emod_lt_of_pos _ (by omega)
  have j2 : (((p : Int) * 7 + 3) % (len : Int)).toNat = (p * 7 + 3) % len := by
    have e : ((p : Int) * 7 + 3) % (len : Int) = (((p * 7 + 3) % len : Nat) : Int) := by rw [Int.natCast_emod]; rfl
    rw [e]; rfl
  have q0 : (0 : Int) ≤ (p : Int) / (len : Int) := Int.ediv_nonneg (by omega) (by omega)
  have q1 : (p : Int) / (len : Int) ≤ 1000000000 := Int.le_trans (Int.ediv_le_self _ (by omega)) (by omega)
  obtain ⟨X, hX⟩ : ∃ X : Nat, x * 131 + y * 1117 + (p : Int) * 29 + (p : Int) / (len : Int) * 53 = (X : Int) := ⟨_, (Int.toNat_of_nonneg (by omega)).symm⟩
  have hX2 : X ≤ 10000000000000 := by omega
  obtain ⟨Z, hZ1, hZ⟩ := mix_i64 X hX2
  have r0 : (0 : Int) ≤ (Z : Int) % n := Int.emod_nonneg _ (by omega)
  have r1 : (Z : Int) % n < n := Int.emod_lt_of_pos _ (by omega)
  have HX := Lib.hid hX
  clear hX
  go_enter Try.func44, Try.ntmps44
  go_wp2
  go_quiet (fail)
  rw [HX.out]
  go_wp2
  go_ret
  exact ⟨_, rfl, r0, .inl r1, _, rfl⟩
set_option maxHeartbeats 1000000 in
theorem pick_near (R : Nat) (n : Int) (w : World) (len cap p b off : Nat) (x : Int) (hn : 1 ≤ n) (hn2 : n ≤ 1000000000)
   (h0 : w.cell? ⟨R, 0, none⟩ = some (.slice (some ⟨b, off, none⟩) len cap)) (h1 : w.cell? ⟨R, 1, none⟩ = some (.int .i64 p)) (hf : w.frozen? ⟨R, 1, none⟩ = false) (hp : p ≤ 1000000000)
   (hlen : 0 < len) (hlen2 : len ≤ 2000) (hge : p < len) (hb : b ≠ R)
   (hx0 : 0 ≤ x) (hx1 : x ≤ 255) (hx : w.cell? ⟨b, off + p, none⟩ = some (.int .u8 x)) :
    Calls Try.prog 44 #[.pointer (some ⟨R, 0, none⟩), .int .i64 n] w fun e w' => ∃ v : Int, e = .returned (.int .i64 v) ∧ 0 ≤ v ∧ (v < n ∨ v = 0) ∧ ∃ nq, w' = (w.setCell ⟨R, 1, none⟩ (.int .i64 (p + 1))).drewN nq := by
  have hlz : ((len : Int) == 0) = false := by simp; omega
  have r0 : (0 : Int) ≤ x % n := Int.emod_nonneg _ (by omega)
  have r1 : x % n < n := Int.emod_lt_of_pos _ (by omega)
  go_enter Try.func44, Try.ntmps44
  go_wp2
  go_ret
  exact ⟨_, rfl, r0, .inl r1, 0, rfl⟩
set_option maxHeartbeats 1000000 in
theorem pick_none (R : Nat) (n : Int) (w : World) (a : Option Addr) (cap p : Nat) (hn : 1 ≤ n)
   (h0 : w.cell? ⟨R, 0, none⟩ = some (.slice a 0 cap)) (h1 : w.cell? ⟨R, 1, none⟩ = some (.int .i64 p)) (hf : w.frozen? ⟨R, 1, none⟩ = false) (hp : p ≤ 1000000000) :
    Calls Try.prog 44 #[.pointer (some ⟨R, 0, none⟩), .int .i64 n] w fun e w' => ∃ v : Int, e = .returned (.int .i64 v) ∧ 0 ≤ v ∧ (v < n ∨ v = 0) ∧ ∃ nq, w' = (w.setCell ⟨R, 1, none⟩ (.int .i64 (p + 1))).drewN nq := by
  go_enter Try.func44, Try.ntmps44
  go_wp2
  go_ret
  exact ⟨_, rfl, by omega, .inr rfl, 0, rfl⟩
set_option maxHeartbeats 1000000 in
theorem pick_neg (R : Nat) (n : Int) (w : World) (p : Nat) (hn : n < 1) (h1 : w.cell? ⟨R, 1, none⟩ = some (.int .i64 p)) (hf : w.frozen? ⟨R, 1, none⟩ = false) (hp : p ≤ 1000000000) :
    Calls Try.prog 44 #[.pointer (some ⟨R, 0, none⟩), .int .i64 n] w fun e w' => ∃ v : Int, e = .returned (.int .i64 v) ∧ 0 ≤ v ∧ (v < n ∨ v = 0) ∧ ∃ nq, w' = (w.setCell ⟨R, 1, none⟩ (.int .i64 (p + 1))).drewN nq := by
  go_enter Try.func44, Try.ntmps44
  go_wp2
  go_ret
  exact ⟨_, rfl, by omega, .inr rfl, 0, rfl⟩
/-- **A pick, whatever the code is.** -/
theorem pick_any (R k : Nat) (n : Int) (w : World) (h : Rd w R k) (hk : k ≤ 1000000000) (hn : n ≤ 1000000000) :
    Calls Try.prog 44 #[.pointer (some ⟨R, 0, none⟩), .int .i64 n] w (Picked w R k n) := by
  obtain ⟨a, len, cap, p, h0, h1, hf, hp, hl, hs⟩ := h
  have fin : ∀ e w', (∃ v : Int, e = .returned (.int .i64 v) ∧ 0 ≤ v ∧ (v < n ∨ v = 0) ∧ ∃ nq, w' = (w.setCell ⟨R, 1, none⟩ (.int .i64 (p + 1))).drewN nq) → Picked w R k n e w' := by
    rintro e w' ⟨v, rfl, hv0, hv1, nq, rfl⟩
    exact ⟨v, rfl, hv0, hv1, Rd.asked nq h0 h1 hf hp hl hs⟩
  by_cases hn1 : n < 1
  · exact (pick_neg R n w p hn1 h1 hf (by omega)).mono fin
  · have hn' : 1 ≤ n := by omega
    rcases hs with rfl | ⟨b, off, rfl, hne, hc⟩
    · exact (pick_none R n w a cap p hn' h0 h1 hf (by omega)).mono fin
    · by_cases hl0 : len = 0
      · subst hl0
        exact (pick_none R n w _ cap p hn' h0 h1 hf (by omega)).mono fin
      · by_cases hlt : p < len
        · obtain ⟨x, hx0, hx1, hx⟩ := hc p hlt
          exact (pick_near R n w len cap p b off x hn' hn h0 h1 hf (by omega) (by omega) hl hlt (by omega) hx0 hx1 hx).mono fin
        · obtain ⟨x, hx0, hx1, hx⟩ := hc (p % len) (Nat.mod_lt _ (by omega))
          obtain ⟨y, hy0, hy1, hy⟩ := hc ((p * 7 + 3) % len) (Nat.mod_lt _ (by omega))
          exact (pick_far R n w len cap p b off x y hn' hn h0 h1 hf (by omega) (by omega) hl (by omega) (by omega) hx0 hx1 hx hy0 hy1 hy).mono fin
end Go.Proofs.Ytennicmmjbfljaa
