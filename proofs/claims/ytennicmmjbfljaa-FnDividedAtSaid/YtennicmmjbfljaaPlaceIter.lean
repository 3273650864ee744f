/- The program's table of bits, and its iterator over each place with itself and its multiples. -/
import Derived.Test.YtennicmmjbfljaaSharedFns
import Derived.Test.YtennicmmjbfljaaCounted
import Derived.Test.YtennicmmjbfljaaIter
namespace Go.Proofs.Ytennicmmjbfljaa
open Go.RowKit Go.Shelf
attribute [local go_sem] Oper.semAt_some
/-- The next place with a multiple of it. -/
def nextPM (x : Nat × Nat) : Nat × Nat := if x.2 + x.1 ≤ 20 then (x.1, x.2 + x.1) else (x.1 + 1, x.1 + 1)
/-- The k-th place, with the multiple of it. -/
def stPM : Nat → Nat × Nat
  | 0 => (1, 1)
  | k + 1 => nextPM (stPM k)
theorem stPM_last : stPM 66 = (21, 21) := by decide +kernel
theorem stPM_all : ∀ k, k < 66 → 1 ≤ (stPM k).1 ∧ (stPM k).1 ≤ (stPM k).2 ∧ (stPM k).2 ≤ 20 ∧ (stPM k).2 % (stPM k).1 = 0 := by decide +kernel
theorem stPM_self : ∀ j, j < 21 → 1 ≤ j → ∃ k, k < 66 ∧ stPM k = (j, j) := by decide +kernel
theorem stPM_lt {k a m : Nat} (hk : k ≤ 66) (h : stPM k = (a, m)) (ha : a ≤ 20) : k < 66 := by
  rcases Nat.lt_or_ge k 66 with h1 | h1
  · exact h1
  · obtain rfl : k = 66 := by omega
    rw [stPM_last] at h
    injection h with h _
    omega
theorem stPM_end {k a m : Nat} (hk : k ≤ 66) (h : stPM k = (a, m)) (ha : 20 < a) : k = 66 := by
  rcases Nat.lt_or_ge k 66 with h1 | h1
  · have h2 := stPM_all k h1
    rw [h] at h2
    obtain ⟨h3, h4, h5, _⟩ := h2
    simp only at h3 h4 h5
    omega
  · omega
/-- A bit of a table. -/
theorem bit_of (t k : Nat) (ht : t < 2097152) : (bits BinOp.and IntKind.u32 ((t : Int) / 2 ^ k) 1 == 1) = t.testBit k := by
  have hle : t / 2 ^ k ≤ t := Nat.div_le_self _ _
  have e2 : ((t / 2 ^ k : Nat) : Int) = (t : Int) / 2 ^ k := by simp
  rw [← e2]
  have h1 : (BitVec.ofInt 32 ((t / 2 ^ k : Nat) : Int)).toNat = t / 2 ^ k := by rw [BitVec.ofInt_natCast, BitVec.toNat_ofNat]; exact Nat.mod_eq_of_lt (by omega)
  have h2 : (BitVec.ofInt 32 1).toNat = 1 := by decide
  have h3 : bits BinOp.and IntKind.u32 ((t / 2 ^ k : Nat) : Int) 1 = ((t / 2 ^ k % 2 : Nat) : Int) := by
    show IntKind.u32.wrap ((BitVec.ofInt 32 ((t / 2 ^ k : Nat) : Int) &&& BitVec.ofInt 32 1).toNat : Int) = _
    rw [BitVec.toNat_and, h1, h2, Nat.and_one_is_mod, IntKind.wrap_u32]
    omega
  rw [h3, Nat.testBit_eq_decide_div_mod_eq, Bool.eq_iff_iff, beq_iff_eq, decide_eq_true_iff]
  omega
theorem put_bit (t k : Nat) (ht : t < 2097152) (hk : k ≤ 20) : bits BinOp.or IntKind.u32 (t : Int) (2 ^ k % 4294967296) = ((t ||| 1 <<< k : Nat) : Int) ∧ t ||| 1 <<< k < 2097152 := by
  have hp : 2 ^ k ≤ 2 ^ 20 := Nat.pow_le_pow_right (by omega) hk
  have hx : t ||| 1 <<< k < 2 ^ 21 := Nat.or_lt_two_pow (by omega) (by rw [Nat.one_shiftLeft]; omega)
  have e2 : (2 : Int) ^ k % 4294967296 = ((2 ^ k : Nat) : Int) := by
    have : (2 : Int) ^ k = ((2 ^ k : Nat) : Int) := by simp
    rw [this]
    generalize 2 ^ k = z at hp ⊢
    omega
  rw [e2]
  have h1 : (BitVec.ofInt 32 (t : Int)).toNat = t := by rw [BitVec.ofInt_natCast, BitVec.toNat_ofNat]; exact Nat.mod_eq_of_lt (by omega)
  have h2 : (BitVec.ofInt 32 ((2 ^ k : Nat) : Int)).toNat = 2 ^ k := by rw [BitVec.ofInt_natCast, BitVec.toNat_ofNat]; exact Nat.mod_eq_of_lt (by omega)
  refine ⟨?_, by omega⟩
  show IntKind.u32.wrap ((BitVec.ofInt 32 (t : Int) ||| BitVec.ofInt 32 ((2 ^ k : Nat) : Int)).toNat : Int) = _
  rw [BitVec.toNat_or, h1, h2, Nat.one_shiftLeft, IntKind.wrap_u32]
  rw [Nat.one_shiftLeft] at hx
  omega
set_option maxHeartbeats 400000 in
theorem has_at (t k : Nat) (c : Bool) (w : World) (ht : t < 2097152) (hk : k ≤ 20) (hc : t.testBit k = c) :
    Calls Try.prog 62 #[.int .u32 t, .int .i64 k] w fun e w' => e = .returned (.bool c) ∧ w = w' := by
  have HC := Lib.hid hc
  clear hc
  go_enter Try.func62, Try.ntmps62
  go_wp2
  go_ret
  exact ⟨ret_bool ((bit_of t k ht).trans HC.out), rfl⟩
set_option maxHeartbeats 400000 in
theorem with_at (t k : Nat) (w : World) (ht : t < 2097152) (hk : k ≤ 20) :
    Calls Try.prog 63 #[.int .u32 t, .int .i64 k] w fun e w' => e = .returned (.int .u32 (t ||| 1 <<< k : Nat)) ∧ w = w' := by
  go_enter Try.func63, Try.ntmps63
  go_wp2
  go_ret
  exact ⟨ret_int (put_bit t k ht hk).1, rfl⟩
set_option maxHeartbeats 400000 in
theorem placesAndMultiples_any (w : World) : Calls Try.prog 61 #[] w fun e w' => e = .returned (.func (.func 65) #[] #[]) ∧ w = w' := by
  have hmf : ∀ (fn : Fn) (first cap : Array Value) (w : World), (Instr.makeFunc fn first cap).run Try.prog w = .ok (.func fn first cap) w := fun _ _ _ _ => rfl
  go_enter Try.func61, Try.ntmps61
  go_wp2
  go_ret
  exact ⟨rfl, rfl⟩
set_option maxHeartbeats 4000000 in
theorem placesAndMultiples_counted (n : Nat) (hn : 1 ≤ n) (w : World) :
    Counted Fence.wide n Try.prog 65 #[] (fun k => #[.int .i64 ((stPM k).1 : Nat), .int .i64 ((stPM k).2 : Nat)]) (fun _ => True) 66 w := by
  intro l J X W hW hJ hX hKp hY h0
  refine callsIn_of_wp Try.func65 rfl trivial ?_ rfl
  simp only [Try.ntmps65, List.size_toArray, List.length_cons, List.length_nil, Nat.reduceAdd, Nat.reduceSub, Array.replicate_succ, Array.replicate_zero, List.push_toArray, List.append_toArray, List.nil_append, List.cons_append]
  gi_wp2
  gi_loopg [2, 3] 20 (fun r x _ wr => ∃ a k : Nat, a + r = 21 ∧ x = .int .i64 a ∧ 1 ≤ a ∧ k ≤ 66 ∧ stPM k = (a, a) ∧ J k wr)
  case atStart => exact ⟨1, 0, by omega, rfl, by omega, by omega, rfl, h0⟩
  case round =>
    obtain ⟨a, k, har, rfl, ha, hk, hst, hj⟩ := hrel
    obtain ⟨g0, hg0⟩ : ∃ g0, gk = g0 := ⟨_, rfl⟩
    by_cases hle : a ≤ 20
    · have hd : decide ((a : Int) ≤ 20) = true := by simp; omega
      gi_wp2
      gi_loopg [3] (41 - a) (fun r y wr => ∃ m k : Nat, m + r = 41 ∧ y = .int .i64 m ∧ a ≤ m ∧ m ≤ 20 + a ∧ k ≤ 66 ∧ stPM k = (if m ≤ 20 then (a, m) else (a + 1, a + 1)) ∧ J k wr)
      case atStart => exact ⟨a, k, by omega, rfl, by omega, by omega, hk, by rw [if_pos hle]; exact hst, hj⟩
      case round =>
        obtain ⟨m, k', hmr, rfl, ham, hm20, hk', hst', hj'⟩ := hrel
        by_cases hm : m ≤ 20
        · rw [if_pos hm] at hst'
          have hlt := stPM_lt hk' hst' hle
          obtain ⟨fn, tmps, assign, body, hy, hR⟩ := hY k' _ hlt hj'
          rw [hst'] at hy
          simp only at hy
          have hnext : stPM (k' + 1) = (if m + a ≤ 20 then (a, m + a) else (a + 1, a + 1)) := by rw [stPM, hst']; rfl
          have HN := Lib.hid hnext
          clear hnext
          gi_wp2
          refine hR.mono ?_
          rintro e W3 (⟨rfl, hj3⟩ | ⟨rfl, hx3⟩)
          · gi_wp2
            gi_roundg (gk - a)
            case measure => omega
            case rel => exact ⟨m + a, k' + 1, by omega, congrArg (Value.int .i64) (by omega), by omega, by omega, by omega, HN.out, hj3⟩
          · gi_wp2
            refine bodyPost_ret (results_none rfl _ _ _) rfl ?_
            exact ⟨⟨_, rfl⟩, .inr ⟨k', hlt, hx3⟩⟩
        · rw [if_neg hm] at hst'
          have hm' : 20 < m := by omega
          gi_wp2
          gi_roundg (g0 - 1)
          case measure => omega
          case rel => exact ⟨a + 1, k', by omega, congrArg (Value.int .i64) (by omega), by omega, hk', hst', hj'⟩
    · have hgt : 20 < a := by omega
      have he := stPM_end hk hst hgt
      rw [he] at hj
      clear hst he hk
      gi_wp2
      go_end0
      exact ⟨⟨_, rfl⟩, .inl hj⟩
end Go.Proofs.Ytennicmmjbfljaa
