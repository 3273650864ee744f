/- How many bits a number has, as the library's bits.Len tells. -/
import Derived.Test.YtlmlcbhllodncaaProg
import Derived.Lib.Hide
import Derived.Lib.Strings
import Derived.Lib.Slices
import Derived.Lib.Small
import Derived.Lib.Walk
import Derived.Lib.BitFns
namespace Go.Proofs.Ytlmlcbhllodncaa
theorem aux_lt : ∀ (f x : Nat), x < 2 ^ f → x < 2 ^ Lib.bitLenAux f x
  | 0, x, h => by simpa [Lib.bitLenAux] using h
  | f + 1, x, h => by
    by_cases h0 : x = 0
    · subst h0; exact Nat.two_pow_pos _
    · have := aux_lt f (x / 2) (by rw [Nat.pow_succ] at h; omega)
      rw [Lib.bitLenAux, if_neg h0, Nat.add_comm, Nat.pow_succ]
      omega
theorem bitLen_lt (k : Nat) (h : k ≤ 1000000000) : k < 2 ^ Lib.bitLen k := aux_lt 64 k (Nat.lt_of_le_of_lt h (by decide))
theorem bitLen_30 (k : Nat) (h : k ≤ 1000000000) : Lib.bitLen k ≤ 30 := Lib.bitLen_le k 30 (by decide) (Nat.lt_of_le_of_lt h (by decide))
end Go.Proofs.Ytlmlcbhllodncaa
