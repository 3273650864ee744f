/- How many bits a number has, and the iterator that yields them, the greatest one first. -/
import Derived.Test.YtgcpmgddlaeccaaIter
import Derived.Test.YtgcpmgddlaeccaaCounted
import Derived.Test.YtgcpmgddlaeccaaPairMore
import Derived.Test.YtgcpmgddlaeccaaBitLen
import Derived.Lib.RabinKarpLaws
namespace Go.Proofs.Ytgcpmgddlaeccaa
open Go.RowKit Go.Shelf
attribute [local go_sem] Oper.semAt_some
set_option maxHeartbeats 400000 in
theorem bitsOf_any (k : Int) (w : World) :
    Calls Try.prog 47 #[.int .i64 k] w fun e w' => e = .returned (.func (.func 56) #[] #[.pointer (some ⟨w.heap.size, 0, none⟩)]) ∧ w' = w.alloc (.cells #[.int .i64 k] 3) := by
  have hmf : ∀ (fn : Fn) (first cap : Array Value) (w : World), (Instr.makeFunc fn first cap).run Try.prog w = .ok (.func fn first cap) w := fun _ _ _ _ => rfl
  go_enter Try.func47, Try.ntmps47
  go_wp2
  go_ret
  exact ⟨rfl, rfl⟩
/-- The bit that round i yields. -/
def bitB (k i : Nat) : Bool := decide (k / 2 ^ (Lib.bitLen k - 1 - i) % 2 = 1)
theorem bit_is (k g i : Nat) (hk : k ≤ 1000000000) (h : i + (g + 1) = Lib.bitLen k) : (bits BinOp.and IntKind.i64 ((k : Int) / 2 ^ g) 1 == 1) = bitB k i := by
  have hle : k / 2 ^ g ≤ k := Nat.div_le_self _ _
  have e := and_one (k / 2 ^ g) (by omega)
  have e2 : ((k / 2 ^ g : Nat) : Int) = (k : Int) / 2 ^ g := by simp
  rw [e2] at e
  rw [e, bitB, show Lib.bitLen k - 1 - i = g by omega, Bool.eq_iff_iff, beq_iff_eq, decide_eq_true_iff]
  omega
set_option maxHeartbeats 4000000 in
theorem bitsOf_counted (n : Nat) (hn : 1 ≤ n) (k B : Nat) (w : World) (hk : k ≤ 1000000000) :
    Counted Fence.wide n Try.prog 56 #[.pointer (some ⟨B, 0, none⟩)] (fun i => #[.bool (bitB k i)]) (fun V => V.cell? ⟨B, 0, none⟩ = some (.int .i64 k)) (Lib.bitLen k) w := by
  intro l J X W hW hJ hX hKp hY h0
  have c0 := hKp 0 W h0
  have hL := bitLen_30 k hk
  refine callsIn_of_wp Try.func56 rfl trivial ?_ rfl
  simp only [Try.ntmps56, List.size_toArray, List.length_cons, List.length_nil, Nat.reduceAdd, Nat.reduceSub, Array.replicate_succ, Array.replicate_zero, List.push_toArray, List.append_toArray, List.nil_append, List.cons_append]
  gi_wp2_with fail
  refine ⟨trivial, (callsIn_wide.2 (len_at k _ hk)).mono ?_⟩
  rintro e w1 ⟨rfl, rfl⟩
  clear c0
  gi_wp2
  gi_loopg [3] (Lib.bitLen k) (fun r x wr => ∃ i, i + r = Lib.bitLen k ∧ x = .int .i64 ((r : Int) - 1) ∧ J i wr)
  case atStart => exact ⟨0, by omega, rfl, h0⟩
  case round =>
    obtain ⟨i, hi, rfl, hj⟩ := hrel
    have c0 := hKp i wr hj
    cases gk with
    | zero =>
      obtain rfl : i = Lib.bitLen k := by omega
      gi_wp2
      go_end0
      exact ⟨⟨_, rfl⟩, .inl hj⟩
    | succ g =>
      obtain ⟨fn, tmps, assign, body, hy, hR⟩ := hY i wr (by omega) hj
      have hb := bit_is k g i hk hi
      gi_wp2
      refine hR.mono ?_
      rintro e W3 (⟨rfl, hj3⟩ | ⟨rfl, hx3⟩)
      · gi_wp2
        gi_roundg g
        case measure => omega
        case rel => exact ⟨i + 1, by omega, congrArg (Value.int .i64) (by omega), hj3⟩
      · gi_wp2
        refine bodyPost_ret (results_none rfl _ _ _) rfl ?_
        exact ⟨⟨_, rfl⟩, .inr ⟨i, by omega, hx3⟩⟩
end Go.Proofs.Ytgcpmgddlaeccaa
