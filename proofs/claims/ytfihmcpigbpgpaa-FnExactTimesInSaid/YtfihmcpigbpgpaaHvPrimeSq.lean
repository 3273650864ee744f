/- Contracts that the statement's proof stands on. -/
import Derived.Test.YtfihmcpigbpgpaaAll0
import Derived.Test.YtfihmcpigbpgpaaHvPrimeMath

namespace Go.Proofs.Ytfihmcpigbpgpaa
def sqN (m r : Nat) : Bool := (List.range m).any fun k => k * k % m == r
/-- Of each number left: its power is 0, or it is 1 and there is a root, or it is one less than the prime; and the power of each square is 1. -/
def chkE (m : Nat) : Bool := (List.range m).all fun r => match fastP (r : Int) m 9 (m / 2) with
  | s => if r = 0 then s == 0 else if s = 1 then (if m % 4 = 3 then (match fastP (r : Int) m 9 ((m + 1) / 4) with | t => t * t % m == (r : Int)) else sqN m r) else s == (m : Int) - 1
def chkS (m : Nat) : Bool := (List.range m).all fun k => decide (k = 0) || fastP ((k * k % m : Nat) : Int) m 9 (m / 2) == 1
set_option maxRecDepth 100000 in
theorem chkE_low : (primes400.all fun m => m == 2 || decide (280 < m) || chkE m) = true := by decide +kernel
set_option maxRecDepth 100000 in
theorem chkE_high : (primes400.all fun m => m == 2 || decide (m ≤ 280) || chkE m) = true := by decide +kernel
set_option maxRecDepth 100000 in
theorem chkS_all : (primes400.all fun m => m == 2 || chkS m) = true := by decide +kernel
end Go.Proofs.Ytfihmcpigbpgpaa
