/- How many bits a number has, as the library's bits.Len tells. -/
import Derived.Test.YtblphilcmfabkaaGreatDoorProg
import Derived.Lib.Hide
import Derived.Lib.Strings
import Derived.Lib.Slices
import Derived.Lib.Small
import Derived.Lib.Walk
import Derived.Lib.BitFns
namespace Go.Proofs.YtblphilcmfabkaaGreatDoor
theorem aux_lt : ∀ (f x : Nat), x < 2 ^ f → x < 2 ^ Lib.bitLenAux f x
  | 0, x, h => by simpa [Lib.bitLenAux] using h
  | f + 1, x, h => by
    by_cases h0 : x = 0
    · subst h0; exact Nat.two_pow_pos _
    · have := aux_lt f (x / 2) (by rw [Nat.pow_succ] at h; omega)
      rw [Lib.bitLenAux, if_neg h0, Nat.add_comm, Nat.pow_succ]
      omega
theorem bitLen_lt (k : Nat) (h : k ≤ 1000000000) : k < 2 ^ Lib.bitLen k := aux_lt 64 k (Nat.lt_of_le_of_lt h (by decide))
theorem bitLen_30 (k : Nat) (h : k ≤ 1000000000) : Lib.bitLen k ≤ 30 := Lib.bitLen_le k 30 (by decide) (Nat.lt_of_le_of_lt h (by decide))
set_option maxHeartbeats 4000000 in
set_option maxRecDepth 100000 in
theorem len64_at (x : Int) (w : World) (h0 : 0 ≤ x) (hx : x ≤ 1000000000) :
    Calls Tryz.prog 193 #[.int .u64 x] w fun e w' => e = .returned (.int .i64 (Lib.bitLen x.toNat)) ∧ w = w' := by
  have s24 := fun h => Lib.bitLen_shift24 x.toNat h (by omega)
  have s16 := fun h => Lib.bitLen_shift16 x.toNat h (by omega)
  have s8 := fun h => Lib.bitLen_shift8 x.toNat h (by omega)
  have S24 := Lib.hid s24
  have S16 := Lib.hid s16
  have S8 := Lib.hid s8
  clear s24 s16 s8
  go_enter Tryz.func193, Tryz.ntmps193
  go_wp2
  all_goals (go_ret; refine ⟨congrArg Ending.returned (congrArg (Value.int .i64) ?_), rfl⟩)
  all_goals first
    | (rw [Lib.len8_of (x / 65536 / 256 % 256) (by omega) (by omega)]
       have e : (x / 65536 / 256 % 256).toNat = x.toNat / 16777216 := by omega
       have l := Lib.bitLen_le8' (x / 65536 / 256 % 256) (by omega) (by omega)
       have s := S24.out (by omega)
       rw [e] at l ⊢
       omega)
    | (rw [Lib.len8_of (x / 65536 % 256) (by omega) (by omega)]
       have e : (x / 65536 % 256).toNat = x.toNat / 65536 := by omega
       have l := Lib.bitLen_le8' (x / 65536 % 256) (by omega) (by omega)
       have s := S16.out (by omega)
       rw [e] at l ⊢
       omega)
    | (rw [Lib.len8_of (x / 256 % 256) (by omega) (by omega)]
       have e : (x / 256 % 256).toNat = x.toNat / 256 := by omega
       have l := Lib.bitLen_le8' (x / 256 % 256) (by omega) (by omega)
       have s := S8.out (by omega)
       rw [e] at l ⊢
       omega)
    | (rw [Lib.len8_of (x % 256) (by omega) (by omega)]
       have e : (x % 256).toNat = x.toNat := by omega
       have l := Lib.bitLen_le8' (x % 256) (by omega) (by omega)
       rw [e] at l ⊢
       omega)
set_option maxHeartbeats 400000 in
theorem len_at (k : Nat) (w : World) (hk : k ≤ 1000000000) :
    Calls Tryz.prog 223 #[.int .u64 k] w fun e w' => e = .returned (.int .i64 (Lib.bitLen k)) ∧ w = w' := by
  go_enter Tryz.func223, Tryz.ntmps223
  go_wp2_with (go_at_call 193; refine (len64_at k _ (by omega) (by omega)).mono ?_; rintro e w' ⟨rfl, rfl⟩)
  go_ret
  exact ⟨rfl, rfl⟩
end Go.Proofs.YtblphilcmfabkaaGreatDoor
